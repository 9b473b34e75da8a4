/-
  The walk of the statement TreeArgs: for all arguments it answers true.
-/
import Derived.Test.YtkdgiadpmfpjnaaGreatDoorMD
import Derived.Test.YtkdgiadpmfpjnaaGreatDoorMZL
import Derived.Test.YtkdgiadpmfpjnaaGreatDoorMZ
import Derived.Laws.BytesArg
import Derived.IntWalk
namespace Go.Proofs.YtkdgiadpmfpjnaaGreatDoor.TreeC
set_option linter.unusedVariables false
open Go.RowKit Go.Proofs.YtkdgiadpmfpjnaaGreatDoor.NumC Go.Proofs.YtkdgiadpmfpjnaaGreatDoor.LexC

/-- A text of one byte, out of a row of one. -/
theorem conv_one (W : World) (v : Int) (c : Nat) : (convert 47 9 (.slice (some ⟨W.heap.size, 0, none⟩) 1 c)).run Tryz.prog (W.alloc (.cells #[.int .u8 v] 5)) = .ok (.string { data := #[UInt8.ofNat v.toNat] }) (W.alloc (.cells #[.int .u8 v] 5)) :=
  run_convert_bytes_arg _ _ _ Tryz.underlying47 Tryz.underlying5 W.heap.size 0 1 c [v] rfl (fun i hi => by
    obtain rfl : i = 0 := by omega
    simp [World.cell?_alloc_mark]) _ Tryz.underlying9
theorem lenA (j : Nat) : ∀ i, 0 < i → (str (argA j i)).size = 3 + 2 * i := by
  intro i
  induction i with
  | zero => intro h; omega
  | succ i ih =>
    intro _
    rw [str_len]
    simp only [argA, List.length_append, List.length_cons, List.length_nil]
    by_cases h : 0 < i
    · have := ih h
      rw [str_len] at this
      rw [if_pos h]; simp; omega
    · obtain rfl : i = 0 := by omega
      simp [argA]
theorem lenB (j : Nat) : ∀ i, 0 < i → (str (argB j i)).size = 3 + 7 * i := by
  intro i
  induction i with
  | zero => intro h; omega
  | succ i ih =>
    intro _
    rw [str_len]
    simp only [argB, List.length_append, List.length_cons, List.length_nil]
    by_cases h : 0 < i
    · have := ih h
      rw [str_len] at this
      rw [if_pos h]; simp; omega
    · obtain rfl : i = 0 := by omega
      simp [argB]
theorem stepA (j i : Nat) (h : 0 < i) : str (argA j i) ++ { data := #[44] } ++ { data := #[digC j i] } = str (argA j (i + 1)) := by
  rw [show ({ data := #[44] } : ByteArray) = str [44] from rfl, show ({ data := #[digC j i] } : ByteArray) = str [digC j i] from rfl, str_app, str_app]
  simp only [argA]; rw [if_pos h]
theorem stepA0 (j i : Nat) (h : ¬ 0 < i) : str (argA j i) ++ { data := #[digC j i] } = str (argA j (i + 1)) := by
  rw [show ({ data := #[digC j i] } : ByteArray) = str [digC j i] from rfl, str_app]
  simp only [argA]; rw [if_neg h, List.append_nil]
theorem stepB (j i : Nat) (h : 0 < i) : str (argB j i) ++ { data := #[32, 44, 32] } ++ ({ data := #[40] } ++ { data := #[digC j i] } ++ { data := #[32, 41] }) = str (argB j (i + 1)) := by
  rw [show ({ data := #[32, 44, 32] } : ByteArray) = str [32, 44, 32] from rfl, show ({ data := #[digC j i] } : ByteArray) = str [digC j i] from rfl, show ({ data := #[40] } : ByteArray) = str [40] from rfl, show ({ data := #[32, 41] } : ByteArray) = str [32, 41] from rfl, str_app, str_app, str_app, str_app]
  simp only [argB]; rw [if_pos h]
theorem stepB0 (j i : Nat) (h : ¬ 0 < i) : str (argB j i) ++ ({ data := #[40] } ++ { data := #[digC j i] } ++ { data := #[32, 41] }) = str (argB j (i + 1)) := by
  rw [show ({ data := #[digC j i] } : ByteArray) = str [digC j i] from rfl, show ({ data := #[40] } : ByteArray) = str [40] from rfl, show ({ data := #[32, 41] } : ByteArray) = str [32, 41] from rfl, str_app, str_app, str_app]
  simp only [argB]; rw [if_neg h, List.append_nil]
theorem lenA0 (j i : Nat) (h : ¬ 0 < i) : (str (argA j i)).size = 4 := by obtain rfl : i = 0 := by omega
                                                                          rfl
theorem lenB0 (j i : Nat) (h : ¬ 0 < i) : (str (argB j i)).size = 6 := by obtain rfl : i = 0 := by omega
                                                                          rfl
theorem endA (j i : Nat) : str (argA j i) ++ { data := #[41] } = str (argA j i ++ [41]) := by
  rw [show ({ data := #[41] } : ByteArray) = str [41] from rfl, str_app]
theorem endB (j i : Nat) : str (argB j i) ++ { data := #[41] } = str (argB j i ++ [41]) := by
  rw [show ({ data := #[41] } : ByteArray) = str [41] from rfl, str_app]
set_option maxRecDepth 100000 in
set_option maxHeartbeats 2000000 in
theorem treeArgs (n k : Int) (hn : 0 ≤ n ∧ n ≤ 255) (hk : 0 ≤ k ∧ k ≤ 255) (w : World) (hl : LexLib w) (hg : ErrT w) : Calls Tryz.prog 8 #[.int .u8 n, .int .u8 k] w fun e w' => e = .returned (.bool true) ∧ Below w.heap.size w w' := by
  have HL := Lib.hid hl
  have HG := Lib.hid hg
  clear hl hg
  obtain ⟨m, hm13, hmn⟩ : ∃ m : Nat, m < 13 ∧ n.tmod 13 = (m : Int) := ⟨(n.tmod 13).toNat, by have := Int.tmod_lt_of_pos n (show (0 : Int) < 13 by decide); omega, by have := Int.tmod_nonneg 13 hn.1; omega⟩
  obtain ⟨K, rfl⟩ := Int.eq_ofNat_of_zero_le hk.1
  obtain ⟨j, hj⟩ : ∃ j, j = K % 10 := ⟨_, rfl⟩
  have hj10 : j < 10 := by omega
  have HJ := Lib.hid hj
  clear hj
  have hK : K ≤ 255 := by omega
  have hn0 := hn.1
  have hn1 := hn.2
  have wn : IntKind.i64.wrap n = n := IntWalk.i64_in _ (by omega)
  have wm : IntKind.i64.wrap (m : Int) = m := IntWalk.i64_in _ (by omega)
  go_enter Tryz.func8, Tryz.ntmps8
  go_wp2_with fail
  go_loopw [6, 7, 8] (fun a b iv wr => ∃ i : Nat, i ≤ m ∧ iv = .int .i64 i ∧ a = .string (str (argA j i)) ∧ b = .string (str (argB j i)) ∧ Below w.heap.size w wr) (fun _ _ iv _ => m - (intOf iv).toNat)
  case atStart => exact ⟨0, Nat.zero_le _, rfl, rfl, rfl, Below.refl _ _⟩
  case round =>
    obtain ⟨i, hi, rfl, rfl, rfl, hB⟩ := hrel
    by_cases hlt : i < m
    · have d1 : (i : Int) < (m : Int) := by omega
      obtain ⟨dg, hdg⟩ : ∃ dg, dg = (j + i) % 10 := ⟨_, rfl⟩
      have hd10 : dg < 10 := by omega
      have m1 : ((K : Int) + (i : Int)).tmod 10 = (dg : Int) := by have hj := HJ.out; rw [Int.tmod_eq_emod_of_nonneg (by omega)]; omega
      have w1 : IntKind.i64.wrap (K : Int) = K := IntWalk.i64_in _ (by omega)
      have w2 : IntKind.i64.wrap ((K : Int) + (i : Int)) = (K : Int) + i := IntWalk.i64_in _ (by omega)
      have w3 : IntKind.i64.wrap (dg : Int) = dg := IntWalk.i64_in _ (by omega)
      have w4 : IntKind.u8.wrap (dg : Int) = dg := by unfold IntKind.wrap; simp [IntKind.signed, IntKind.bits]; omega
      have w5 : IntKind.u8.wrap (48 + (dg : Int)) = 48 + dg := by unfold IntKind.wrap; simp [IntKind.signed, IntKind.bits]; omega
      have ec : digC j i = UInt8.ofNat (48 + (dg : Int)).toNat := by unfold digC; rw [← hdg]; congr 1
      have kc := fun (W : World) (c : Nat) => conv_one W (48 + (dg : Int)) c
      rw [← ec] at kc
      clear ec hdg
      have hB2 : Below w.heap.size w (wr.alloc (.cells #[.int .u8 (48 + (dg : Int))] 5)) := hB.alloc hB.size _
      by_cases hi0 : 0 < i
      · have d2 : (0 : Int) < (i : Int) := by omega
        have zA := lenA j i hi0
        have zB := lenB j i hi0
        have rA := stepA j i hi0
        have rB := stepB j i hi0
        go_wp2_with fail
        go_roundw
        case rel => exact ⟨i + 1, by omega, by go_num, rfl, rfl, hB2⟩
        case measure => simp [intOf]; omega
      · have d2 : ¬ (0 : Int) < (i : Int) := by omega
        have zA := lenA0 j i hi0
        have zB := lenB0 j i hi0
        have rA := stepA0 j i hi0
        have rB := stepB0 j i hi0
        go_wp2_with fail
        go_roundw
        case rel => exact ⟨i + 1, by omega, by go_num, rfl, rfl, hB2⟩
        case measure => simp [intOf]; omega
    · obtain rfl : i = m := by omega
      have d1 : ¬ (i : Int) < (i : Int) := by omega
      have rA := endA j i
      have rB := endB j i
      have yA := argA_len j i
      have yB := argB_len j i
      have zA : (str (argA j i ++ [41])).size ≤ 1000000 := by rw [str_len, List.length_append]; simp; omega
      have zB : (str (argB j i ++ [41])).size ≤ 1000000 := by rw [str_len, List.length_append]; simp; omega
      have zA1 : (9223372036854775807 < (str (argA j i)).size + 1) = False := eq_false (by rw [str_len]; omega)
      have zB1 : (9223372036854775807 < (str (argB j i)).size + 1) = False := eq_false (by rw [str_len]; omega)
      have HZ := Lib.hid (And.intro zA zB)
      clear zA zB yA yB
      have HF := Lib.hid (fun h => arg_few (m := i) hj10 h)
      have HM := Lib.hid (fun h => arg_many (m := i) hj10 h hm13)
      go_wp2_with fail
      refine (cParse (str (argA j i ++ [41])) _ HZ.out.1 (HL.out.below hB) (HG.out.below hB)).mono ?_
      rw [str_list]
      generalize parseL (argA j i ++ [41]) = p1 at *
      obtain ⟨⟨f, x⟩, a1, e1⟩ := p1
      simp only at HF HM
      rintro e w1 ⟨v, rfl, hb1, A, c, rfl, hK1⟩
      unfold nodeV
      simp only at hK1 ⊢
      have B1 : Below w.heap.size w (w1.alloc (.cells #[.int .i64 f.k, .int .i64 f.vk, .int .i64 f.vn, .string f.vs, .int .i64 f.r1, .int .i64 f.r2, .int .i64 f.r3, .int .i64 f.r4, .string f.op, .slice A x.len c] 31)) := (hB.trans (hb1.mono hB.size)).alloc (by have := hB.size; have := hb1.size; omega) _
      have M1 : NLoc (w1.alloc (.cells #[.int .i64 f.k, .int .i64 f.vk, .int .i64 f.vn, .string f.vs, .int .i64 f.r1, .int .i64 f.r2, .int .i64 f.r3, .int .i64 f.r4, .string f.op, .slice A x.len c] 31)) w1.heap.size f A x.len c := ⟨heap_alloc_new _ _⟩
      have K1 : KidsAt (w1.alloc (.cells #[.int .i64 f.k, .int .i64 f.vk, .int .i64 f.vn, .string f.vs, .int .i64 f.r1, .int .i64 f.r2, .int .i64 f.r3, .int .i64 f.r4, .string f.op, .slice A x.len c] 31)) (fun bb => bb < (w1.alloc (.cells #[.int .i64 f.k, .int .i64 f.vk, .int .i64 f.vn, .string f.vs, .int .i64 f.r1, .int .i64 f.r2, .int .i64 f.r3, .int .i64 f.r4, .string f.op, .slice A x.len c] 31)).heap.size) x A := hK1.keep (y := w1.heap.size) ((Kept.refl w1.heap.size w1).alloc _) (fun bb hg hl => ⟨by omega, by simp; omega⟩)
      clear hK1 hb1
      go_wp2_with fail
      generalize (w1.alloc (.cells #[.int .i64 f.k, .int .i64 f.vk, .int .i64 f.vn, .string f.vs, .int .i64 f.r1, .int .i64 f.r2, .int .i64 f.r3, .int .i64 f.r4, .string f.op, .slice A x.len c] 31)) = W1 at *
      refine (cParse (str (argB j i ++ [41])) W1 HZ.out.2 (HL.out.below B1) (HG.out.below B1)).mono ?_
      rw [str_list]
      generalize parseL (argB j i ++ [41]) = p2 at *
      obtain ⟨⟨g, y⟩, a2, e2⟩ := p2
      simp only at HF HM
      rintro e w2 ⟨v, rfl, hb2, A2, c2, rfl, hK2⟩
      unfold nodeV
      simp only at hK2 ⊢
      have B2 : Below w.heap.size w (w2.alloc (.cells #[.int .i64 g.k, .int .i64 g.vk, .int .i64 g.vn, .string g.vs, .int .i64 g.r1, .int .i64 g.r2, .int .i64 g.r3, .int .i64 g.r4, .string g.op, .slice A2 y.len c2] 31)) := (B1.trans (hb2.mono B1.size)).alloc (by have := B1.size; have := hb2.size; omega) _
      have b12 : Below W1.heap.size W1 (w2.alloc (.cells #[.int .i64 g.k, .int .i64 g.vk, .int .i64 g.vn, .string g.vs, .int .i64 g.r1, .int .i64 g.r2, .int .i64 g.r3, .int .i64 g.r4, .string g.op, .slice A2 y.len c2] 31)) := hb2.alloc hb2.size _
      have M2 : NLoc (w2.alloc (.cells #[.int .i64 g.k, .int .i64 g.vk, .int .i64 g.vn, .string g.vs, .int .i64 g.r1, .int .i64 g.r2, .int .i64 g.r3, .int .i64 g.r4, .string g.op, .slice A2 y.len c2] 31)) w2.heap.size g A2 y.len c2 := ⟨heap_alloc_new _ _⟩
      have N1 := M1.kept (Kept.of (x := W1.heap.size) b12) (Nat.ne_of_lt M1.lt)
      have K2 : KidsAt (w2.alloc (.cells #[.int .i64 g.k, .int .i64 g.vk, .int .i64 g.vn, .string g.vs, .int .i64 g.r1, .int .i64 g.r2, .int .i64 g.r3, .int .i64 g.r4, .string g.op, .slice A2 y.len c2] 31)) (fun bb => bb < (w2.alloc (.cells #[.int .i64 g.k, .int .i64 g.vk, .int .i64 g.vn, .string g.vs, .int .i64 g.r1, .int .i64 g.r2, .int .i64 g.r3, .int .i64 g.r4, .string g.op, .slice A2 y.len c2] 31)).heap.size) y A2 := hK2.keep (y := w2.heap.size) ((Kept.refl w2.heap.size w2).alloc _) (fun bb hg hl => ⟨by omega, by simp; omega⟩)
      have J1 := below_row K1 b12
      have lt1 := M1.lt
      have le2 := hb2.size
      have ne12 : w1.heap.size ≠ w2.heap.size := by omega
      have HW := Lib.hid (fun (W : World) (hb : Below w.heap.size w W) => cwakes W (HL.out.below hb) (HG.out.below hb))
      clear M1 K1 hK2 b12 hb2 rA rB zA1 zB1
      by_cases h10 : i ≤ 10
      · have t1 : ¬ (10 : Int) < (i : Int) := by omega
        obtain ⟨q1, q2, q3, q4, q5, q6, q7⟩ := HF.out h10
        injection q3 with q8 q9
        subst q1 q2 q8 q9
        have HS := Lib.hid (fun (W : World) (hk : KidsAt W (fun bb => bb < W.heap.size) y A) (hj : KidsAt W (fun bb => bb < W.heap.size) y A2) => cSame ⟨g, y⟩ ⟨g, y⟩ A A2 c c2 W (by omega) (by omega) hk hj)
        have hsame : decide ((⟨g, y⟩ : Nd) = ⟨g, y⟩) = true := decide_eq_true rfl
        rw [hsame] at HS
        have u1 : (g.k == 6) = true := beq_iff_eq.2 q4
        have u2 : ((y.len : Int) == (i : Int)) = true := beq_iff_eq.2 (by omega)
        have u3 : (g.op.toList == [83, 85, 77]) = true := by rw [q6, Lib.toList_data]; rfl
        clear HF HM HZ hsame q4 q5 q6 q7
        generalize hW2 : (w2.alloc (.cells #[.int .i64 g.k, .int .i64 g.vk, .int .i64 g.vn, .string g.vs, .int .i64 g.r1, .int .i64 g.r2, .int .i64 g.r3, .int .i64 g.r4, .string g.op, .slice A2 y.len c2] 31)) = W2 at *
        obtain ⟨d0, d1, d2, d3, d4, d5, d6, d7, d8, d9, -⟩ := N1.cells
        obtain ⟨r0, r1, r2, r3, r4, r5, r6, r7, r8, r9, -⟩ := M2.cells
        go_wp2_with fail
        refine (HS.out W2 J1 K2).mono ?_; rintro e w5 ⟨rfl, hb5⟩
        have B5 := B2.trans (hb5.mono B2.size)
        go_wp2_with fail
        refine (HW.out _ B5).mono ?_; rintro e w6 ⟨rfl, hb6⟩
        go_wp2_with fail
        go_ret
        exact ⟨rfl, B5.trans (hb6.mono B5.size)⟩
      · have t1 : (10 : Int) < (i : Int) := by omega
        obtain ⟨q1, q2⟩ := HM.out (by omega)
        subst q1 q2
        clear HF HM HZ
        go_wp2_with fail
        refine (HW.out _ B2).mono ?_; rintro e w6 ⟨rfl, hb6⟩
        go_wp2_with fail
        go_ret
        exact ⟨rfl, B2.trans (hb6.mono B2.size)⟩
end Go.Proofs.YtkdgiadpmfpjnaaGreatDoor.TreeC
