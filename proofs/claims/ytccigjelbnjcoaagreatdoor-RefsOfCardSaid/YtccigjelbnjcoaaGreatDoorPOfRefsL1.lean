/-
  The walk of RefsOf.
-/
import Derived.Test.YtccigjelbnjcoaaGreatDoorPOfRefsJ
import Derived.Test.YtccigjelbnjcoaaGreatDoorPOfTreeK7
import Derived.Test.YtccigjelbnjcoaaGreatDoorPOfPrintF
import Derived.Deep.RegionHeld3
namespace Go.Proofs.YtccigjelbnjcoaaGreatDoor.RefsC
set_option linter.unusedVariables false
open Go.RowKit Go.Proofs.YtccigjelbnjcoaaGreatDoor.NumC Go.Proofs.YtccigjelbnjcoaaGreatDoor.LexC Go.Proofs.YtccigjelbnjcoaaGreatDoor.TreeC
theorem later {W w : World} {b : Nat} {f : Fld} {A : Option Addr} {n c : Nat} (L : NLoc W b f A n c) (h : Below W.heap.size W w) : NLoc w b f A n c := L.kept (Kept.of h) (Nat.ne_of_lt L.lt)
theorem ten_of {w : World} {b : Nat} {f : Fld} {A : Option Addr} {n c : Nat} (L : NLoc w b f A n c) : w.cell? ⟨b, 0, none⟩ = some (.int .i64 f.k) ∧ w.cell? ⟨b, 1, none⟩ = some (.int .i64 f.vk) ∧ w.cell? ⟨b, 2, none⟩ = some (.int .i64 f.vn) ∧ w.cell? ⟨b, 3, none⟩ = some (.string f.vs) ∧ w.cell? ⟨b, 4, none⟩ = some (.int .i64 f.r1) ∧ w.cell? ⟨b, 5, none⟩ = some (.int .i64 f.r2) ∧ w.cell? ⟨b, 6, none⟩ = some (.int .i64 f.r3) ∧ w.cell? ⟨b, 7, none⟩ = some (.int .i64 f.r4) ∧ w.cell? ⟨b, 8, none⟩ = some (.string f.op) ∧ w.cell? ⟨b, 9, none⟩ = some (.slice A n c) := by
  obtain ⟨d0, d1, d2, d3, d4, d5, d6, d7, d8, d9, -⟩ := L.cells
  exact ⟨d0, d1, d2, d3, d4, d5, d6, d7, d8, d9⟩
set_option maxRecDepth 100000 in
set_option maxHeartbeats 4000000 in
theorem refsOf (a : Nd) (A : Option Addr) (c : Nat) (w : World) (hA : KidsAt w (fun g => g < w.heap.size) a.kids A) (hl : LexLib w) (hg : ErrT w) :
    Calls Tryz.prog 3 #[.agg #[.int .i64 a.f.k, .int .i64 a.f.vk, .int .i64 a.f.vn, .string a.f.vs, .int .i64 a.f.r1, .int .i64 a.f.r2, .int .i64 a.f.r3, .int .i64 a.f.r4, .string a.f.op, .slice A a.kids.len c]] w fun e w' => e = .returned (.bool true) ∧ Below w.heap.size w w' := by
  have B0 : Below w.heap.size w (w.alloc (.cells #[.int .i64 a.f.k, .int .i64 a.f.vk, .int .i64 a.f.vn, .string a.f.vs, .int .i64 a.f.r1, .int .i64 a.f.r2, .int .i64 a.f.r3, .int .i64 a.f.r4, .string a.f.op, .slice A a.kids.len c] 30)) := (Below.refl _ _).alloc (Nat.le_refl _) _
  have L0 : NLoc (w.alloc (.cells #[.int .i64 a.f.k, .int .i64 a.f.vk, .int .i64 a.f.vn, .string a.f.vs, .int .i64 a.f.r1, .int .i64 a.f.r2, .int .i64 a.f.r3, .int .i64 a.f.r4, .string a.f.op, .slice A a.kids.len c] 30)) w.heap.size a.f A a.kids.len c := ⟨heap_alloc_new _ _⟩
  have HW := Lib.hid (fun (W : World) (hb : Below w.heap.size w W) => cwakes8 W (hl.below hb) (hg.below hb))
  have HL := Lib.hid hl
  have HA := Lib.hid hA
  clear hl hg hA
  obtain ⟨d0, d1, d2, d3, d4, d5, d6, d7, d8, d9, -⟩ := L0.cells
  go_enter Tryz.func3, Tryz.ntmps3
  go_wp2_with fail
  generalize (w.alloc (.cells #[.int .i64 a.f.k, .int .i64 a.f.vk, .int .i64 a.f.vn, .string a.f.vs, .int .i64 a.f.r1, .int .i64 a.f.r2, .int .i64 a.f.r3, .int .i64 a.f.r4, .string a.f.op, .slice A a.kids.len c] 30)) = W0 at *
  refine (klarge a A c W0 (below_row HA.out B0)).mono ?_; rintro e w1 ⟨la, rfl, hb1, hla⟩
  have L1 := later L0 hb1
  have B1 := B0.trans (hb1.mono B0.size)
  clear d0 d1 d2 d3 d4 d5 d6 d7 d8 d9 L0 hb1 B0
  obtain ⟨d0, d1, d2, d3, d4, d5, d6, d7, d8, d9, -⟩ := L1.cells
  cases la
  case true =>
    go_wp2_with fail
    refine (HW.out _ B1).mono ?_; rintro e w2 ⟨rfl, hb2⟩
    go_wp2_with fail
    go_ret
    exact ⟨ret1 rfl, B1.trans (hb2.mono B1.size)⟩
  case false =>
  obtain ⟨sa, ha⟩ := hla rfl
  have HS := Lib.hid ha
  have hlen : (ofL a).length ≤ 1000000 := Nat.le_trans (ofL_len a) (by decide)
  clear hla ha d0 d1 d2 d3 d4 d5 d6 d7 d8 d9
  go_wp2_with fail
  have L2 : NLoc w1.drew w.heap.size a.f A a.kids.len c := ⟨L1.at_⟩
  have HB2 := Lib.hid (below_drew B1)
  have T0 := ten_of L2
  clear L1 B1
  go_region_held3 (fun w' => w'.cell? ⟨w.heap.size, 0, none⟩ = some (.int .i64 a.f.k) ∧ w'.cell? ⟨w.heap.size, 1, none⟩ = some (.int .i64 a.f.vk) ∧ w'.cell? ⟨w.heap.size, 2, none⟩ = some (.int .i64 a.f.vn) ∧ w'.cell? ⟨w.heap.size, 3, none⟩ = some (.string a.f.vs) ∧ w'.cell? ⟨w.heap.size, 4, none⟩ = some (.int .i64 a.f.r1) ∧ w'.cell? ⟨w.heap.size, 5, none⟩ = some (.int .i64 a.f.r2) ∧ w'.cell? ⟨w.heap.size, 6, none⟩ = some (.int .i64 a.f.r3) ∧ w'.cell? ⟨w.heap.size, 7, none⟩ = some (.int .i64 a.f.r4) ∧ w'.cell? ⟨w.heap.size, 8, none⟩ = some (.string a.f.op) ∧ w'.cell? ⟨w.heap.size, 9, none⟩ = some (.slice A a.kids.len c))
    (first | exact T0 | exact T1 | exact T2 | exact T3 | exact T4 | exact T5)
    (first
      | (go_at_call 11
         refine (PrintC.kcopy a A c _ sa (below_row HA.out HB2.out)).mono ?_; rintro e w2 ⟨A3, c3, rfl, hb2, hk3⟩
         have L3 := later L2 hb2
         have T1 := ten_of L3
         have B3 := HB2.out.trans (hb2.mono HB2.out.size)
         have hk4 : KidsAt w2 (fun g => g < w2.heap.size) a.kids A3 := hk3.keep (Kept.refl w2.heap.size w2) (fun g _ hl => ⟨Nat.ne_of_lt hl, hl⟩))
      | (go_at_call 10
         refine (cOf a A3 c3 _ (by omega) (HL.out.below B3) hk4).mono ?_; rintro e w3 ⟨v3, rfl, ho3, hb3⟩
         have L4 := later L3 hb3
         have T2 := ten_of L4
         have B4 := B3.trans (hb3.mono B3.size)
         obtain ⟨A4, c4, rfl⟩ := ho3.form)
      | (go_at_call 12
         refine (rOf a A c _ (by omega) HS.out (below_row HA.out B4)).mono ?_; rintro e w4 ⟨v4, rfl, ho4, hb4⟩
         have L5 := later L4 hb4
         have T3 := ten_of L5
         have B5 := B4.trans (hb4.mono B4.size)
         obtain ⟨A5, c5, rfl⟩ := ho4.form
         have hr3 := (ho3.rat.2.below hb4).mono hb4.size
         have hr4 := ho4.rat.2)
      | (go_at_call 9
         refine (kRects (ofL a) (ofL a) A4 A5 c4 c5 _ hlen hlen hr3 hr4).mono ?_; rw [decide_eq_true rfl]; rintro e w5 ⟨rfl, hb5⟩
         have L6 := later L5 hb5
         have T4 := ten_of L6
         have B6 := B5.trans (hb5.mono B5.size))
      | (go_at_call 8
         refine (HW.out _ B6).mono ?_; rintro e w6 ⟨rfl, hb6⟩
         have T5 := ten_of (later L6 hb6)
         have B7 := B6.trans (hb6.mono B6.size)))
  all_goals (go_wp2_with fail)
  all_goals go_ret
  all_goals exact ⟨ret1 rfl, B7⟩
end Go.Proofs.YtccigjelbnjcoaaGreatDoor.RefsC
