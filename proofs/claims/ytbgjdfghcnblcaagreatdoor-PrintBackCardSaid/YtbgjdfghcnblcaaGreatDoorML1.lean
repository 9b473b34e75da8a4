/-
  The walk of PrintTexts.
-/
import Derived.Test.YtbgjdfghcnblcaaGreatDoorMPE
import Derived.Test.YtbgjdfghcnblcaaGreatDoorMPF
import Derived.Test.YtbgjdfghcnblcaaGreatDoorMPB
import Derived.Test.YtbgjdfghcnblcaaGreatDoorMK3
import Derived.Test.YtbgjdfghcnblcaaGreatDoorMK1
namespace Go.Proofs.YtbgjdfghcnblcaaGreatDoor.PrintC
set_option linter.unusedVariables false
open Go.RowKit Go.Proofs.YtbgjdfghcnblcaaGreatDoor.NumC Go.Proofs.YtbgjdfghcnblcaaGreatDoor.LexC Go.Proofs.YtbgjdfghcnblcaaGreatDoor.TreeC

theorem kids_now {W w : World} {fo : Fo} {A : Option Addr} (hA : KidsAt w (fun g => g < w.heap.size) fo A) (h : Below w.heap.size w W) : KidsAt W (fun g => g < W.heap.size) fo A := below_row hA h
theorem knode_self (a : Nd) (A B : Option Addr) (c d : Nat) (w : World) (ha : a.size ≤ 300) (hA : KidsAt w (fun g => g < w.heap.size) a.kids A) (hB : KidsAt w (fun g => g < w.heap.size) a.kids B) :
    Calls Tryz.prog 14 #[.agg #[.int .i64 a.f.k, .int .i64 a.f.vk, .int .i64 a.f.vn, .string a.f.vs, .int .i64 a.f.r1, .int .i64 a.f.r2, .int .i64 a.f.r3, .int .i64 a.f.r4, .string a.f.op, .slice A a.kids.len c], .agg #[.int .i64 a.f.k, .int .i64 a.f.vk, .int .i64 a.f.vn, .string a.f.vs, .int .i64 a.f.r1, .int .i64 a.f.r2, .int .i64 a.f.r3, .int .i64 a.f.r4, .string a.f.op, .slice B a.kids.len d]] w fun e w' => e = .returned (.bool true) ∧ Below w.heap.size w w' := by
  have := knodeG a a A B c d w ha ha hA hB
  rwa [show decide (a = a) = true from decide_eq_true rfl] at this
set_option maxRecDepth 100000 in
set_option maxHeartbeats 4000000 in
theorem printTexts (a : Nd) (A : Option Addr) (c : Nat) (w : World) (hA : KidsAt w (fun g => g < w.heap.size) a.kids A) (hw : a.all wideB = true) (hl : LexLib w) (hg : ErrT w) :
    Calls Tryz.prog 3 #[.agg #[.int .i64 a.f.k, .int .i64 a.f.vk, .int .i64 a.f.vn, .string a.f.vs, .int .i64 a.f.r1, .int .i64 a.f.r2, .int .i64 a.f.r3, .int .i64 a.f.r4, .string a.f.op, .slice A a.kids.len c]] w fun e w' => e = .returned (.bool true) ∧ Below w.heap.size w w' := by
  have B0 : Below w.heap.size w (w.alloc (.cells #[.int .i64 a.f.k, .int .i64 a.f.vk, .int .i64 a.f.vn, .string a.f.vs, .int .i64 a.f.r1, .int .i64 a.f.r2, .int .i64 a.f.r3, .int .i64 a.f.r4, .string a.f.op, .slice A a.kids.len c] 30)) := (Below.refl _ _).alloc (Nat.le_refl _) _
  have L0 : NLoc (w.alloc (.cells #[.int .i64 a.f.k, .int .i64 a.f.vk, .int .i64 a.f.vn, .string a.f.vs, .int .i64 a.f.r1, .int .i64 a.f.r2, .int .i64 a.f.r3, .int .i64 a.f.r4, .string a.f.op, .slice A a.kids.len c] 30)) w.heap.size a.f A a.kids.len c := ⟨heap_alloc_new _ _⟩
  have HW := Lib.hid (fun (W : World) (hb : Below w.heap.size w W) => cwakes6 W (hl.below hb) (hg.below hb))
  have HL := Lib.hid hl
  have HA := Lib.hid hA
  have HWD := Lib.hid hw
  clear hl hg hA hw
  obtain ⟨d0, d1, d2, d3, d4, d5, d6, d7, d8, d9, -⟩ := L0.cells
  go_enter Tryz.func3, Tryz.ntmps3
  go_wp2_with fail
  generalize (w.alloc (.cells #[.int .i64 a.f.k, .int .i64 a.f.vk, .int .i64 a.f.vn, .string a.f.vs, .int .i64 a.f.r1, .int .i64 a.f.r2, .int .i64 a.f.r3, .int .i64 a.f.r4, .string a.f.op, .slice A a.kids.len c] 30)) = W0 at *
  refine (klarge a A c W0 (kids_now HA.out B0)).mono ?_; rintro e w1 ⟨la, rfl, hb1, hla⟩
  have L1 := L0.kept (Kept.of (x := W0.heap.size) hb1) (Nat.ne_of_lt L0.lt)
  have B1 := B0.trans (hb1.mono B0.size)
  clear d0 d1 d2 d3 d4 d5 d6 d7 d8 d9 L0 hb1 B0
  obtain ⟨d0, d1, d2, d3, d4, d5, d6, d7, d8, d9, -⟩ := L1.cells
  cases la
  case true =>
    go_wp2_with fail
    refine (HW.out _ B1).mono ?_; rintro e w2 ⟨rfl, hb2⟩
    go_wp2_with fail
    go_ret
    exact ⟨ret1 rfl, B1.trans (hb2.mono B1.size)⟩
  case false =>
  obtain ⟨sa, ha⟩ := hla rfl
  clear hla
  have HS := Lib.hid ha
  clear ha
  go_wp2_with fail
  refine (kcopy a A c w1 sa (kids_now HA.out B1)).mono ?_; rintro e w2 ⟨A3, c3, rfl, hb2, hk3⟩
  have L2 := L1.kept (Kept.of (x := w1.heap.size) hb2) (Nat.ne_of_lt L1.lt)
  have B2 := B1.trans (hb2.mono B1.size)
  have g3 : Below w2.heap.size w2 (w2.alloc (.cells #[.int .i64 a.f.k, .int .i64 a.f.vk, .int .i64 a.f.vn, .string a.f.vs, .int .i64 a.f.r1, .int .i64 a.f.r2, .int .i64 a.f.r3, .int .i64 a.f.r4, .string a.f.op, .slice A3 a.kids.len c3] 30)) := (Below.refl _ _).alloc (Nat.le_refl _) _
  have L3 := L2.kept (Kept.of (x := w2.heap.size) g3) (Nat.ne_of_lt L2.lt)
  have M3 : NLoc (w2.alloc (.cells #[.int .i64 a.f.k, .int .i64 a.f.vk, .int .i64 a.f.vn, .string a.f.vs, .int .i64 a.f.r1, .int .i64 a.f.r2, .int .i64 a.f.r3, .int .i64 a.f.r4, .string a.f.op, .slice A3 a.kids.len c3] 30)) w2.heap.size a.f A3 a.kids.len c3 := ⟨heap_alloc_new _ _⟩
  have B3 := B2.trans (g3.mono B2.size)
  have KC : KidsAt (w2.alloc (.cells #[.int .i64 a.f.k, .int .i64 a.f.vk, .int .i64 a.f.vn, .string a.f.vs, .int .i64 a.f.r1, .int .i64 a.f.r2, .int .i64 a.f.r3, .int .i64 a.f.r4, .string a.f.op, .slice A3 a.kids.len c3] 30)) (fun g => g < (w2.alloc (.cells #[.int .i64 a.f.k, .int .i64 a.f.vk, .int .i64 a.f.vn, .string a.f.vs, .int .i64 a.f.r1, .int .i64 a.f.r2, .int .i64 a.f.r3, .int .i64 a.f.r4, .string a.f.op, .slice A3 a.kids.len c3] 30)).heap.size) a.kids A3 := hk3.keep (y := w2.heap.size) (Kept.of g3) (fun g hg hlt => ⟨by omega, by simp; omega⟩)
  clear d0 d1 d2 d3 d4 d5 d6 d7 d8 d9 L1 L2 hb2 g3 hk3 B1 B2
  obtain ⟨d0, d1, d2, d3, d4, d5, d6, d7, d8, d9, -⟩ := L3.cells
  obtain ⟨m0, m1, m2, m3, m4, m5, m6, m7, m8, m9, -⟩ := M3.cells
  go_wp2_with fail
  generalize (w2.alloc (.cells #[.int .i64 a.f.k, .int .i64 a.f.vk, .int .i64 a.f.vn, .string a.f.vs, .int .i64 a.f.r1, .int .i64 a.f.r2, .int .i64 a.f.r3, .int .i64 a.f.r4, .string a.f.op, .slice A3 a.kids.len c3] 30)) = W3 at *
  generalize w2.heap.size = gb at *
  refine (cText a A3 c3 W3 (by omega) HWD.out (HL.out.below B3) KC).mono ?_; rintro e w4 ⟨rfl, hb4⟩
  have L4 := L3.kept (Kept.of (x := W3.heap.size) hb4) (Nat.ne_of_lt L3.lt)
  have M4 := M3.kept (Kept.of (x := W3.heap.size) hb4) (Nat.ne_of_lt M3.lt)
  have B4 := B3.trans (hb4.mono B3.size)
  have KC4 := below_row KC hb4
  clear d0 d1 d2 d3 d4 d5 d6 d7 d8 d9 m0 m1 m2 m3 m4 m5 m6 m7 m8 m9 L3 M3 B3 KC hb4
  obtain ⟨d0, d1, d2, d3, d4, d5, d6, d7, d8, d9, -⟩ := L4.cells
  go_wp2_with fail
  refine (rText a A c w4 (by omega) HS.out HWD.out (kids_now HA.out B4)).mono ?_; rintro e w5 ⟨rfl, hb5⟩
  have L5 := L4.kept (Kept.of (x := w4.heap.size) hb5) (Nat.ne_of_lt L4.lt)
  have M5 := M4.kept (Kept.of (x := w4.heap.size) hb5) (Nat.ne_of_lt M4.lt)
  have B5 := B4.trans (hb5.mono B4.size)
  have KC5 := below_row KC4 hb5
  clear d0 d1 d2 d3 d4 d5 d6 d7 d8 d9 L4 M4 B4 KC4 hb5 w4
  obtain ⟨d0, d1, d2, d3, d4, d5, d6, d7, d8, d9, -⟩ := L5.cells
  obtain ⟨m0, m1, m2, m3, m4, m5, m6, m7, m8, m9, -⟩ := M5.cells
  generalize str (textR a).s = S at *
  generalize (textR a).err = E at *
  have WG : ∀ u : Gr w5, Below w.heap.size w u.now := fun u => B5.trans (u.below.mono B5.size)
  have HR1 := Lib.hid (fun (u : Gr w5) => crow a.f A3 a.kids.len c3 u.now)
  have HR2 := Lib.hid (fun (u : Gr w5) => rrow a.f A a.kids.len c u.now)
  generalize ((rowK a.f : Nat) : Int) = R at *
  have HN := Lib.hid (fun (u : Gr w5) => knode_self a A3 A c3 c u.now sa (below_row KC5 u.below) (kids_now HA.out (WG u)))
  have HX := Lib.hid (fun (u : Gr w5) => HW.out u.now (WG u))
  clear KC5 HW HA HS HWD HL L5 M5
  replace d0 := Gr.cell _ _ _ (Below.refl _ _) d0
  replace d1 := Gr.cell _ _ _ (Below.refl _ _) d1
  replace d2 := Gr.cell _ _ _ (Below.refl _ _) d2
  replace d3 := Gr.cell _ _ _ (Below.refl _ _) d3
  replace d4 := Gr.cell _ _ _ (Below.refl _ _) d4
  replace d5 := Gr.cell _ _ _ (Below.refl _ _) d5
  replace d6 := Gr.cell _ _ _ (Below.refl _ _) d6
  replace d7 := Gr.cell _ _ _ (Below.refl _ _) d7
  replace d8 := Gr.cell _ _ _ (Below.refl _ _) d8
  replace d9 := Gr.cell _ _ _ (Below.refl _ _) d9
  replace m0 := Gr.cell _ _ _ (Below.refl _ _) m0
  replace m1 := Gr.cell _ _ _ (Below.refl _ _) m1
  replace m2 := Gr.cell _ _ _ (Below.refl _ _) m2
  replace m3 := Gr.cell _ _ _ (Below.refl _ _) m3
  replace m4 := Gr.cell _ _ _ (Below.refl _ _) m4
  replace m5 := Gr.cell _ _ _ (Below.refl _ _) m5
  replace m6 := Gr.cell _ _ _ (Below.refl _ _) m6
  replace m7 := Gr.cell _ _ _ (Below.refl _ _) m7
  replace m8 := Gr.cell _ _ _ (Below.refl _ _) m8
  replace m9 := Gr.cell _ _ _ (Below.refl _ _) m9
  go_wp2_with fail
  refine region_grown (by kernel_rfl) (by kernel_rfl) ?_
  repeat (go_big_quiet_step (first
    | (go_at_call 12; exact grown_of (HR1.out _))
    | (go_at_call 13; exact grown_of (HR2.out _))
    | (go_at_call 14; exact grown_of (HN.out _))
    | (go_at_call 8; exact grown_of (HX.out _))))
  refine wpQuiet_nil ?_
  intro w6 hw6; obtain ⟨u, rfl⟩ := hw6
  go_wp2_with fail
  go_ret
  exact ⟨ret1 rfl, WG u⟩
end Go.Proofs.YtbgjdfghcnblcaaGreatDoor.PrintC
