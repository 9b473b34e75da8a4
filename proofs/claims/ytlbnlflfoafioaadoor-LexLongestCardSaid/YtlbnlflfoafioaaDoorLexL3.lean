/-
  The walk of the statement LexLongest: for all arguments it answers true.
-/
import Derived.Test.YtlbnlflfoafioaaDoorLexL1
import Derived.IntWalk
import Derived.Deep.RegionHeld3
namespace Go.Proofs.YtlbnlflfoafioaaDoor.LexC
set_option linter.unusedVariables false
open Go.RowKit Go.Proofs.YtlbnlflfoafioaaDoor.NumC

def wordL : List (List UInt8) := [[60, 61], [60, 62], [62, 61], [60], [62], [61], [65, 49], [83, 85, 77], [49, 50], [48, 48, 55], [34, 120, 34], [40], [41], [44], [58], [43], [38], [94], [37]]
def wordCells : Array Value := #[.string { data := #[60, 61] }, .string { data := #[60, 62] }, .string { data := #[62, 61] }, .string { data := #[60] }, .string { data := #[62] }, .string { data := #[61] }, .string { data := #[65, 49] }, .string { data := #[83, 85, 77] }, .string { data := #[49, 50] }, .string { data := #[48, 48, 55] }, .string { data := #[34, 120, 34] }, .string { data := #[40] }, .string { data := #[41] }, .string { data := #[44] }, .string { data := #[58] }, .string { data := #[43] }, .string { data := #[38] }, .string { data := #[94] }, .string { data := #[37] }]
def wordS (i : Nat) : ByteArray := str (wordL.getD i [])
def wordT (i : Nat) : Tok := (cutL (wordL.getD i [])).toks.getD 0 zeroT
theorem words_cell (m : Nat) (h : m < 19) : wordCells[m]? = some (.string (wordS m)) := by
  have : m = 0 ∨ m = 1 ∨ m = 2 ∨ m = 3 ∨ m = 4 ∨ m = 5 ∨ m = 6 ∨ m = 7 ∨ m = 8 ∨ m = 9 ∨ m = 10 ∨ m = 11 ∨ m = 12 ∨ m = 13 ∨ m = 14 ∨ m = 15 ∨ m = 16 ∨ m = 17 ∨ m = 18 := by omega
  rcases this with rfl | rfl | rfl | rfl | rfl | rfl | rfl | rfl | rfl | rfl | rfl | rfl | rfl | rfl | rfl | rfl | rfl | rfl | rfl <;> rfl
theorem word_cut : ∀ i : Fin 19, cutL (wordL.getD i.val []) = ⟨[wordT i.val], 0, 0⟩ := by decide +kernel
theorem words_cut : ∀ i : Fin 19, ∀ j : Fin 19, cutL (wordL.getD i.val [] ++ [32] ++ wordL.getD j.val []) = ⟨[wordT i.val, ⟨(wordT j.val).k, (wordT j.val).n, (wordT j.val).s, (wordL.getD i.val []).length + 1⟩], 0, 0⟩ := by decide +kernel
theorem word_len : ∀ i : Fin 19, (wordL.getD i.val []).length ≤ 3 := by decide +kernel
theorem cut_3 : cutL [60, 61, 62] = ⟨[⟨4, 0, str [60, 61], 0⟩, ⟨4, 0, str [62], 2⟩], 0, 0⟩ := by decide +kernel
theorem cut_4 : cutL [65, 49, 66, 50, 67] = ⟨[⟨3, 0, str [65, 49, 66, 50, 67], 0⟩], 0, 0⟩ := by decide +kernel

theorem grown_ {w : World} {o : Obj} : Below w.heap.size w (w.alloc o) := (Below.refl _ _).alloc (Nat.le_refl _) _
set_option maxRecDepth 100000 in
set_option maxHeartbeats 8000000 in
theorem lexLongest (k m : Nat) (w : World) (hk : k < 256) (hm : m < 256) (hl : LexLib w) :
    Calls Tryd.prog 6 #[.int .u8 k, .int .u8 m] w fun e w' => e = .returned (.bool true) ∧ Below w.heap.size w w' := by
  obtain ⟨i, hi⟩ : ∃ i, i = k % 19 := ⟨_, rfl⟩
  obtain ⟨j, hj⟩ : ∃ j, j = m % 19 := ⟨_, rfl⟩
  have hi19 : i < 19 := by omega
  have hj19 : j < 19 := by omega
  have C1 := Lib.hid (word_cut ⟨i, hi19⟩)
  have C2 := Lib.hid (words_cut ⟨i, hi19⟩ ⟨j, hj19⟩)
  have li := word_len ⟨i, hi19⟩
  have lj := word_len ⟨j, hj19⟩
  simp only at li lj
  have LI : Hid ((wordS i).size = (wordL.getD i []).length) := Lib.hid (by unfold wordS; exact str_size _)
  have hs1 : (wordS i).size ≤ 3 := by rw [LI.out]; exact li
  have hs2 : (wordS j).size ≤ 3 := by unfold wordS; rw [str_size]; exact lj
  have q1 : (9223372036854775807 < (wordS i).size + 1) = False := eq_false (by omega)
  have q2 : (9223372036854775807 < (wordS i).size + 1 + (wordS j).size) = False := eq_false (by omega)
  have EX : wordS i ++ { data := #[32] } ++ wordS j = str (wordL.getD i [] ++ [32] ++ wordL.getD j []) := by
    rw [show ({ data := #[32] } : ByteArray) = str [32] from rfl]; unfold wordS; rw [str_app, str_app]
  have hsz : (wordS i ++ { data := #[32] } ++ wordS j).size ≤ 1000000 := by rw [EX, str_size]; simp only [List.length_append, List.length_cons, List.length_nil]; omega
  have HR2 : Hid (cutL (wordS i ++ { data := #[32] } ++ wordS j).data.toList = ⟨[wordT i, (⟨(wordT j).k, (wordT j).n, (wordT j).s, (wordL.getD i []).length + 1⟩ : Tok)], 0, 0⟩) := Lib.hid (by rw [EX]; exact C2.out)
  have HR1 : Hid (cutL (wordS i).data.toList = ⟨[wordT i], 0, 0⟩) := C1
  have m1 : ((k : Int)).tmod 19 = (i : Int) := by rw [Int.tmod_eq_emod_of_nonneg (by omega)]; omega
  have m2 : ((m : Int)).tmod 19 = (j : Int) := by rw [Int.tmod_eq_emod_of_nonneg (by omega)]; omega
  have w1 : IntKind.i64.wrap (k : Int) = k := IntWalk.i64_in _ (by omega)
  have w2 : IntKind.i64.wrap (m : Int) = m := IntWalk.i64_in _ (by omega)
  have w3 : IntKind.i64.wrap (i : Int) = i := IntWalk.i64_in _ (by omega)
  have w4 : IntKind.i64.wrap (j : Int) = j := IntWalk.i64_in _ (by omega)
  have hn0 : (0 : Int) ≤ k := by omega
  have hn1 : (0 : Int) ≤ m := by omega
  clear EX C1 C2 hi hj
  go_enter Tryd.func6, Tryd.ntmps6
  go_wp2_with fail
  go_quiet (fail)
  go_wp2_with fail
  generalize hW : World.drewN _ _ = V at *
  have f1 : V.drew.cell? ⟨w.heap.size, i, none⟩ = some (.string (wordS i)) := by
    rw [← hW]
    show (w.alloc (.cells wordCells 9)).cell? _ = _
    rw [World.cell?_alloc_mark]; exact words_cell i hi19
  have f2 : V.drew.cell? ⟨w.heap.size, j, none⟩ = some (.string (wordS j)) := by
    rw [← hW]
    show (w.alloc (.cells wordCells 9)).cell? _ = _
    rw [World.cell?_alloc_mark]; exact words_cell j hj19
  have hB : Below w.heap.size w V.drew := below_drewN' (by rw [← hW]; exact below_drewN' grown_ _) 1
  clear hW
  have gi : (i : Int) < 19 := by omega
  have gj : (j : Int) < 19 := by omega
  clear m1 m2 w1 w2 w3 w4
  go_region_held3 (fun w' => w'.cell? ⟨w.heap.size, i, none⟩ = some (.string (wordS i)) ∧ w'.cell? ⟨w.heap.size, j, none⟩ = some (.string (wordS j)))
    (first | exact ⟨f1, f2⟩ | exact ⟨cell_later hb1 f1, cell_later hb1 f2⟩)
    (first | (go_at_call 8; refine (cut _ _ hsz (hl.below hB)).mono ?_; rw [HR2.out]; rintro e w1 ⟨v1, rfl, ho1, hb1⟩))
  have B1 := hB.trans (hb1.mono hB.size)
  have T1 := Lib.hid (tokAt_own ho1)
  have f3 := cell_later hb1 f1
  clear ho1 f1 f2 hB hb1
  go_wp2_with fail
  refine (cut (wordS i) _ (by omega) (hl.below B1)).mono ?_; rw [HR1.out]; rintro e w2 ⟨v2, rfl, ho2, hb2⟩
  have B2 := B1.trans (hb2.mono B1.size)
  have T2 := Lib.hid (tokAt_own ho2)
  have T1' := Lib.hid (T1.out.below hb2)
  have f4 := cell_later hb2 f3
  clear ho2 f3 T1 B1 hb2
  obtain ⟨A1, c1, rfl, t1⟩ := T1'.out.form
  obtain ⟨g1, rfl, x0⟩ := t1 0 (by simp)
  obtain ⟨g2, e2, x1⟩ := t1 1 (by simp)
  obtain rfl : g1 = g2 := by injection e2 with e2; injection e2
  obtain ⟨A2, c2, rfl, t2⟩ := T2.out.form
  obtain ⟨g3, rfl, y0⟩ := t2 0 (by simp)
  have p0 : w2.cell? ⟨g1, 0, none⟩ = some (.int .i64 (wordT i).k) := x0.1
  have p1 : w2.cell? ⟨g1, 1, none⟩ = some (.int .i64 (wordT i).n) := x0.2.1
  have p2 : w2.cell? ⟨g1, 2, none⟩ = some (.string (wordT i).s) := x0.2.2.1
  have p7 : w2.cell? ⟨g1, 7, none⟩ = some (.int .i64 ((wordS i).size + 1)) := by rw [LI.out]; exact x1.2.2.2
  have r0 : w2.cell? ⟨g3, 0, none⟩ = some (.int .i64 (wordT i).k) := y0.1
  have r1 : w2.cell? ⟨g3, 1, none⟩ = some (.int .i64 (wordT i).n) := y0.2.1
  have r2 : w2.cell? ⟨g3, 2, none⟩ = some (.string (wordT i).s) := y0.2.2.1
  have f5 : w2.cell? ⟨w.heap.size, i, none⟩ = some (.string (wordS i)) := f4
  clear x0 x1 y0 t1 t2 T1' T2 e2 f4
  generalize (wordT i).k = tk at *
  generalize (wordT i).n = tn at *
  generalize (wordT i).s = tx at *
  have e0 : (tk != tk) = false := by simp
  have e2 : (tn != tn) = false := by simp
  have e3 : (tx.toList != tx.toList) = false := by simp
  have e4 : (((wordS i).size : Int) + 1 != ((wordS i).size : Int) + 1) = false := by simp
  have hz3 : ((wordS i).size : Int) ≤ 3 := by omega
  have hz4 : IntKind.i64.wrap (((wordS i).size : Int) + 1) = ((wordS i).size : Int) + 1 := IntWalk.i64_in _ (by omega)
  go_wp2_with fail
  go_quiet (fail)
  clear hz4
  go_wp2_with fail
  have B3 := below_drewN' B2 nq
  clear p0 p1 p2 p7 r0 r1 r2 f5 B2
  refine (cut { data := #[60, 61, 62] } _ (by decide) (hl.below B3)).mono ?_
  rw [show ({ data := #[60, 61, 62] } : ByteArray).data.toList = [60, 61, 62] from rfl, cut_3]; rintro e w3 ⟨v3, rfl, ho3, hb3⟩
  have B4 := B3.trans (hb3.mono B3.size)
  have T3 := Lib.hid (tokAt_own ho3)
  clear ho3 B3
  go_wp2_with fail
  refine (cut { data := #[65, 49, 66, 50, 67] } _ (by decide) (hl.below B4)).mono ?_
  rw [show ({ data := #[65, 49, 66, 50, 67] } : ByteArray).data.toList = [65, 49, 66, 50, 67] from rfl, cut_4]; rintro e w4 ⟨v4, rfl, ho4, hb4⟩
  have B5 := B4.trans (hb4.mono B4.size)
  have T4 := Lib.hid (tokAt_own ho4)
  have T3' := Lib.hid (T3.out.below hb4)
  clear ho4 B4 T3
  obtain ⟨A3, c3, rfl, t3⟩ := T3'.out.form
  obtain ⟨g4, rfl, x3⟩ := t3 0 (by simp)
  obtain ⟨A4, c4, rfl, t4⟩ := T4.out.form
  obtain ⟨g5, rfl, x4⟩ := t4 0 (by simp)
  have s3 : w4.cell? ⟨g4, 2, none⟩ = some (.string { data := #[60, 61] }) := x3.2.2.1
  have s4 : w4.cell? ⟨g5, 2, none⟩ = some (.string { data := #[65, 49, 66, 50, 67] }) := x4.2.2.1
  have u3 : (({ data := #[60, 61] } : ByteArray).toList == [60, 61]) = true := by rw [Lib.toList_data]; rfl
  have u4 : (({ data := #[65, 49, 66, 50, 67] } : ByteArray).toList == [65, 49, 66, 50, 67]) = true := by rw [Lib.toList_data]; rfl
  clear x3 x4 t3 t4 T3' T4
  go_wp2_with fail
  refine (wakes _ (hl.below B5)).mono ?_; rintro e w5 ⟨rfl, hb5⟩
  go_wp2
  go_ret
  exact ⟨rfl, B5.trans (hb5.mono B5.size)⟩
theorem lexLongestI (k m : Int) (w : World) (hk : 0 ≤ k ∧ k ≤ 255) (hm : 0 ≤ m ∧ m ≤ 255) (hl : LexLib w) :
    Calls Tryd.prog 6 #[.int .u8 k, .int .u8 m] w fun e w' => e = .returned (.bool true) ∧ Below w.heap.size w w' := by
  obtain ⟨a, rfl⟩ := Int.eq_ofNat_of_zero_le hk.1
  obtain ⟨b, rfl⟩ := Int.eq_ofNat_of_zero_le hm.1
  exact lexLongest a b w (by omega) (by omega) hl
end Go.Proofs.YtlbnlflfoafioaaDoor.LexC
