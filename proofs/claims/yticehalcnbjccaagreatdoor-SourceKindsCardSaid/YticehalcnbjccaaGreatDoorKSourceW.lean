/-
  What every law of the layer asks besides; the law's Same; Read, Write where what they tell is known.
-/
import Derived.Test.YticehalcnbjccaaGreatDoorKSourceD
import Derived.Test.YticehalcnbjccaaGreatDoorKSourceF
import Derived.Test.YticehalcnbjccaaGreatDoorKSourceM
import Derived.Test.YticehalcnbjccaaGreatDoorKNumD
import Derived.Test.YticehalcnbjccaaGreatDoorKPrintB
import Derived.Test.YticehalcnbjccaaGreatDoorKTreeT
import Derived.Test.YticehalcnbjccaaGreatDoorKTreeV
import Derived.Test.YticehalcnbjccaaGreatDoorKAddrD
import Derived.Test.YticehalcnbjccaaGreatDoorKLexA
import Derived.Test.YticehalcnbjccaaGreatDoorKTreeK3
import Derived.Test.YticehalcnbjccaaGreatDoorKTreeP0
import Derived.Test.YticehalcnbjccaaGreatDoorKTreeP4
import Derived.Laws.OwnMore
import Derived.OwnWalk
import Derived.Deep.MidRow
namespace Go.Proofs.YticehalcnbjccaaGreatDoor.SourceC
set_option linter.unusedVariables false
set_option linter.unusedSimpArgs false
open Go.RowKit Go.Proofs.YticehalcnbjccaaGreatDoor.NumC Go.Proofs.YticehalcnbjccaaGreatDoor.TreeC Go.Proofs.YticehalcnbjccaaGreatDoor.PrintC
open Go.Proofs.YticehalcnbjccaaGreatDoor.LexC (str nob str_size LexLib)
open Go.Proofs.YticehalcnbjccaaGreatDoor.ValueC (Val GoodP goodB goodB_t goodB_f nos zeroV showL trueL falseL size_nos)
structure SLoc (T : Nat) (w : World) (b : Nat) (kd k n : Int) (s : ByteArray) (A : Option Addr) (c : Nat) : Prop where
  at_ : w.heap[b]? = some (.cells #[.int .i64 kd, .int .i64 k, .int .i64 n, .string s, .int .i64 0, .int .i64 0, .int .i64 0, .string { data := #[] }, .int .i64 0, .int .i64 0, .int .i64 0, .int .i64 0, .string { data := #[] }, .slice A 0 c] T (0, 0))
theorem SLoc.lt {T : Nat} {w : World} {b : Nat} {kd k n : Int} {s : ByteArray} {A : Option Addr} {c : Nat} (h : SLoc T w b kd k n s A c) : b < w.heap.size := (Array.getElem?_eq_some_iff.1 h.at_).1
theorem SLoc.below {T : Nat} {w : World} {b : Nat} {kd k n : Int} {s : ByteArray} {A : Option Addr} {c : Nat} {w' : World} (h : SLoc T w b kd k n s A c) (hb : Below w.heap.size w w') : SLoc T w' b kd k n s A c := ⟨(hb.block b h.lt).trans h.at_⟩
theorem SLoc.cells {T : Nat} {w : World} {b : Nat} {kd k n : Int} {s : ByteArray} {A : Option Addr} {c : Nat} (h : SLoc T w b kd k n s A c) : w.cell? ⟨b, 0, none⟩ = some (.int .i64 kd) ∧ w.cell? ⟨b, 1, none⟩ = some (.int .i64 k) ∧ w.cell? ⟨b, 2, none⟩ = some (.int .i64 n) ∧ w.cell? ⟨b, 3, none⟩ = some (.string s) ∧ w.cell? ⟨b, 4, none⟩ = some (.int .i64 0) ∧ w.cell? ⟨b, 5, none⟩ = some (.int .i64 0) ∧ w.cell? ⟨b, 6, none⟩ = some (.int .i64 0) ∧ w.cell? ⟨b, 7, none⟩ = some (.string { data := #[] }) ∧ w.cell? ⟨b, 8, none⟩ = some (.int .i64 0) ∧ w.cell? ⟨b, 9, none⟩ = some (.int .i64 0) ∧ w.cell? ⟨b, 10, none⟩ = some (.int .i64 0) ∧ w.cell? ⟨b, 11, none⟩ = some (.int .i64 0) ∧ w.cell? ⟨b, 12, none⟩ = some (.string { data := #[] }) ∧ w.cell? ⟨b, 13, none⟩ = some (.slice A 0 c) := by
  have h1 := h.at_
  refine ⟨?_, ?_, ?_, ?_, ?_, ?_, ?_, ?_, ?_, ?_, ?_, ?_, ?_, ?_⟩ <;> simp [World.cell?, h1]
theorem cRead_r {s : ByteArray} {r : RS} (hr : readL s.data.toList = r) (w : World) (hl : LexLib w) (hg : ErrT w) : Calls Tryz.prog 7 #[.string s] w (ReadPost w r) := by
  subst hr; exact cRead s w hl hg
theorem cRead_val {s : ByteArray} {k n : Int} {x : ByteArray} (hr : readL s.data.toList = valR ⟨k, n, x⟩) (w : World) (hl : LexLib w) (hg : ErrT w) : Calls Tryz.prog 7 #[.string s] w fun e w' =>
    ∃ A c, e = .returned (.tuple #[.agg #[.int .i64 1, .int .i64 k, .int .i64 n, .string x, .int .i64 0, .int .i64 0, .int .i64 0, .string { data := #[] }, .int .i64 0, .int .i64 0, .int .i64 0, .int .i64 0, .string { data := #[] }, .slice A 0 c], .int .i64 0, .int .i64 0]) ∧ Below w.heap.size w w' :=
  (cRead_r hr w hl hg).mono (fun e w' h => by obtain ⟨A, c, he, hb, -⟩ := h; exact ⟨A, c, he, hb⟩)
theorem cRead_none {s : ByteArray} {a n : Int} (hr : readL s.data.toList = noneR a n) (w : World) (hl : LexLib w) (hg : ErrT w) : Calls Tryz.prog 7 #[.string s] w fun e w' =>
    ∃ A c, e = .returned (.tuple #[.agg #[.int .i64 0, .int .i64 0, .int .i64 0, .string { data := #[] }, .int .i64 0, .int .i64 0, .int .i64 0, .string { data := #[] }, .int .i64 0, .int .i64 0, .int .i64 0, .int .i64 0, .string { data := #[] }, .slice A 0 c], .int .i64 a, .int .i64 n]) ∧ Below w.heap.size w w' :=
  (cRead_r hr w hl hg).mono (fun e w' h => by obtain ⟨A, c, he, hb, -⟩ := h; exact ⟨A, c, he, hb⟩)
theorem cWrite_val (k n : Int) (x : ByteArray) (A : Option Addr) (c : Nat) (r : TRes) (hr : writeL 1 ⟨k, n, x⟩ zeroN = r) (w : World) (hn : I64 n) (hl : LexLib w) (hg : ErrT w) :
    Calls Tryz.prog 12 #[.agg #[.int .i64 1, .int .i64 k, .int .i64 n, .string x, .int .i64 0, .int .i64 0, .int .i64 0, .string { data := #[] }, .int .i64 0, .int .i64 0, .int .i64 0, .int .i64 0, .string { data := #[] }, .slice A 0 c]] w fun e w' => e = .returned (.tuple #[.string (str r.s), .int .i64 r.err]) ∧ Below w.heap.size w w' := by
  subst hr
  exact cWrite 1 ⟨k, n, x⟩ zeroN A c w (Or.inr (Or.inl rfl)) (fun h => absurd h (by decide)) (by decide) (by decide) hn hl hg (Or.inl rfl)
theorem cClean_r {s : ByteArray} {r : CRes} (hr : cleanL s.data.toList = r) (w : World) (hl : LexLib w) (hg : ErrT w) : Calls Tryz.prog 9 #[.string s] w fun e w' => e = .returned (.tuple #[.string (str r.s), .int .i64 r.at_, .int .i64 r.err]) ∧ Below w.heap.size w w' := by
  subst hr; exact cClean s w hl hg
theorem wk_1 : readL ({ data := #[39, 49, 50] } : ByteArray).data.toList = valR ⟨3, 0, str [49, 50]⟩ := by kernel_rfl
theorem wk_2 : writeL 1 ⟨3, 0, str [49, 50]⟩ zeroN = ⟨[39, 49, 50], 0⟩ := by kernel_rfl
theorem wk_3 : cleanL ({ data := #[61, 32, 97, 49, 32, 43, 32, 49] } : ByteArray).data.toList = ⟨[61, 65, 49, 43, 49], 0, 0⟩ := by kernel_rfl
theorem wk_4 : readL ({ data := #[61, 49, 43] } : ByteArray).data.toList = noneR 3 13 := by kernel_rfl
set_option maxRecDepth 100000 in
set_option maxHeartbeats 4000000 in
theorem cwakes7 (w : World) (hl : LexLib w) (hg : ErrT w) : Calls Tryz.prog 6 #[] w fun e w' => e = .returned (.bool true) ∧ Below w.heap.size w w' := by
  have HL := Lib.hid hl
  have HG := Lib.hid hg
  clear hl hg
  go_enter Tryz.func6, Tryz.ntmps6
  go_wp2_with fail
  refine (cRead_val wk_1 w HL.out HG.out).mono ?_; rintro e w1 ⟨A, c, rfl, hb1⟩
  have M2 : SLoc 33 (w1.alloc (.cells #[.int .i64 1, .int .i64 3, .int .i64 0, .string (str [49, 50]), .int .i64 0, .int .i64 0, .int .i64 0, .string { data := #[] }, .int .i64 0, .int .i64 0, .int .i64 0, .int .i64 0, .string { data := #[] }, .slice A 0 c] 33)) w1.heap.size 1 3 0 (str [49, 50]) A c := ⟨heap_alloc_new _ _⟩
  have N2 : Below w.heap.size w (w1.alloc (.cells #[.int .i64 1, .int .i64 3, .int .i64 0, .string (str [49, 50]), .int .i64 0, .int .i64 0, .int .i64 0, .string { data := #[] }, .int .i64 0, .int .i64 0, .int .i64 0, .int .i64 0, .string { data := #[] }, .slice A 0 c] 33)) := hb1.alloc hb1.size _
  have HW := Lib.hid (cWrite_val 3 0 (str [49, 50]) A c _ wk_2 (w1.alloc (.cells #[.int .i64 1, .int .i64 3, .int .i64 0, .string (str [49, 50]), .int .i64 0, .int .i64 0, .int .i64 0, .string { data := #[] }, .int .i64 0, .int .i64 0, .int .i64 0, .int .i64 0, .string { data := #[] }, .slice A 0 c] 33)) (i64_of_small (Or.inl rfl)) (HL.out.below N2) (HG.out.below N2))
  generalize str [49, 50] = X at *
  clear hb1
  obtain ⟨d0, d1, d2, d3, d4, d5, d6, d7, d8, d9, d10, d11, d12, d13⟩ := M2.cells
  go_wp2_with fail
  generalize (w1.alloc (.cells #[.int .i64 1, .int .i64 3, .int .i64 0, .string X, .int .i64 0, .int .i64 0, .int .i64 0, .string { data := #[] }, .int .i64 0, .int .i64 0, .int .i64 0, .int .i64 0, .string { data := #[] }, .slice A 0 c] 33)) = W2 at *
  refine HW.out.mono ?_; rintro e w3 ⟨rfl, hb3⟩
  have M3 := M2.below hb3
  have N3 := N2.trans (hb3.mono N2.size)
  clear d0 d1 d2 d3 d4 d5 d6 d7 d8 d9 d10 d11 d12 d13 M2 N2 hb3 HW
  go_wp2_with fail
  refine (cClean_r wk_3 w3 (HL.out.below N3) (HG.out.below N3)).mono ?_; rintro e w4 ⟨rfl, hb4⟩
  have M4 := M3.below hb4
  have N4 := N3.trans (hb4.mono N3.size)
  clear M3 N3 hb4
  go_wp2_with fail
  refine (cRead_none wk_4 w4 (HL.out.below N4) (HG.out.below N4)).mono ?_; rintro e w5 ⟨A', c', rfl, hb5⟩
  have g6 : Below w5.heap.size w5 (w5.alloc (.cells #[.int .i64 0, .int .i64 0, .int .i64 0, .string { data := #[] }, .int .i64 0, .int .i64 0, .int .i64 0, .string { data := #[] }, .int .i64 0, .int .i64 0, .int .i64 0, .int .i64 0, .string { data := #[] }, .slice A' 0 c'] 33)) := (Below.refl _ _).alloc (Nat.le_refl _) _
  have M6 := (M4.below hb5).below g6
  have N5 := N4.trans (hb5.mono N4.size)
  have HN := Lib.hid (N5.trans (g6.mono N5.size))
  clear M4 N4 hb5 g6 N5
  obtain ⟨d0, d1, d2, d3, d4, d5, d6, d7, d8, d9, d10, d11, d12, d13⟩ := M6.cells
  have t1 : ((str [39, 49, 50]).toList == [39, 49, 50]) = true := by rw [Lib.toList_data, str_back]; rfl
  have t2 : (str [39, 49, 50]).toList = [39, 49, 50] := by rw [Lib.toList_data, str_back]
  have t3 : ((str [61, 65, 49, 43, 49]).toList == [61, 65, 49, 43, 49]) = true := by rw [Lib.toList_data, str_back]; rfl
  have t4 : (str [61, 65, 49, 43, 49]).toList = [61, 65, 49, 43, 49] := by rw [Lib.toList_data, str_back]
  clear M6
  go_wp2_with fail
  go_ret
  exact ⟨rfl, HN.out⟩
end Go.Proofs.YticehalcnbjccaaGreatDoor.SourceC
namespace Go.Proofs.YticehalcnbjccaaGreatDoor.SourceC
set_option linter.unusedVariables false
set_option linter.unusedSimpArgs false
open Go.RowKit Go.Proofs.YticehalcnbjccaaGreatDoor.NumC Go.Proofs.YticehalcnbjccaaGreatDoor.TreeC Go.Proofs.YticehalcnbjccaaGreatDoor.PrintC
open Go.Proofs.YticehalcnbjccaaGreatDoor.LexC (str nob str_size LexLib)
open Go.Proofs.YticehalcnbjccaaGreatDoor.ValueC (Val GoodP goodB goodB_t goodB_f nos zeroV showL trueL falseL size_nos)
theorem longer (s : ByteArray) : ¬ (({ data := #[39] } : ByteArray) ++ s).toList = s.toList := by
  intro h
  have h2 := congrArg List.length h
  rw [quote_str, Lib.toList_data, PrintC.str_back, Lib.toList_data, List.length_cons] at h2
  omega
set_option maxRecDepth 100000 in
set_option maxHeartbeats 8000000 in
theorem sourceKinds (n : Int) (s : ByteArray) (w : World) (hn : I64 n) (hl : LexLib w) (hg : ErrT w) : Calls Tryz.prog 5 #[.int .i64 n, .string s] w fun e w' => e = .returned (.bool true) ∧ Below w.heap.size w w' := by
  have HW := Lib.hid (fun (W : World) (hb : Below w.heap.size w W) => cwakes7 W (hl.below hb) (hg.below hb))
  by_cases h2 : 200 < s.size
  · have t1 : (200 : Int) < (s.size : Int) := by omega
    clear hl hg
    go_enter Tryz.func5, Tryz.ntmps5
    go_wp2_with fail
    refine (HW.out w (Below.refl _ _)).mono ?_; rintro e w1 ⟨rfl, hb1⟩
    go_wp2_with fail
    go_ret
    exact ⟨rfl, hb1⟩
  have t1 : ¬ (200 : Int) < (s.size : Int) := by omega
  obtain ⟨e1, e2, e3⟩ := kinds_num hn
  obtain ⟨t, e4, e5, e6⟩ := kinds_text (s := s) (by omega)
  have HWn := Lib.hid (fun (W : World) (hb : Below w.heap.size w W) => cWrite_val 2 n { data := #[] } none 0 ⟨Lib.itoa n, 0⟩ e1 W hn (hl.below hb) (hg.below hb))
  have HRd := Lib.hid (fun (W : World) (hb : Below w.heap.size w W) => cRead_val (s := str (Lib.itoa n)) (k := 2) (n := n) (x := { data := #[] }) (by rw [PrintC.str_back]; exact e2) W (hl.below hb) (hg.below hb))
  have HRq := Lib.hid (fun (W : World) (hb : Below w.heap.size w W) => cRead_val (s := { data := #[39] } ++ str (Lib.itoa n)) (k := 3) (n := 0) (x := str (Lib.itoa n)) (by rw [quote_str, PrintC.str_back, PrintC.str_back]; exact e3) W (hl.below hb) (hg.below hb))
  have HWt := Lib.hid (fun (W : World) (hb : Below w.heap.size w W) => cWrite_val 3 0 s none 0 ⟨t, 0⟩ e4 W (i64_of_small (Or.inl rfl)) (hl.below hb) (hg.below hb))
  have HRt := Lib.hid (fun (W : World) (hb : Below w.heap.size w W) => cRead_val (s := str t) (k := 3) (n := 0) (x := s) (by rw [PrintC.str_back]; exact e6) W (hl.below hb) (hg.below hb))
  have hz : (str (Lib.itoa n)).size ≤ 20 := by rw [str_size]; have := (itoa_len hn).2; omega
  simp only at HWn HWt
  clear hl hg hn e1 e2 e3 e4 e6 h2
  generalize str (Lib.itoa n) = u at *
  go_enter Tryz.func5, Tryz.ntmps5
  go_wp2_with fail
  refine (HWn.out w (Below.refl _ _)).mono ?_; rintro e w1 ⟨rfl, hb1⟩
  go_wp2_with fail
  refine (HRd.out w1 hb1).mono ?_; rintro e w2 ⟨A, c, rfl, hb2⟩
  have g3 : Below w2.heap.size w2 (w2.alloc (.cells #[.int .i64 1, .int .i64 2, .int .i64 n, .string { data := #[] }, .int .i64 0, .int .i64 0, .int .i64 0, .string { data := #[] }, .int .i64 0, .int .i64 0, .int .i64 0, .int .i64 0, .string { data := #[] }, .slice A 0 c] 33)) := (Below.refl _ _).alloc (Nat.le_refl _) _
  have N2 := hb1.trans (hb2.mono hb1.size)
  have N3 := N2.trans (g3.mono N2.size)
  have S3 : SLoc 33 (w2.alloc (.cells #[.int .i64 1, .int .i64 2, .int .i64 n, .string { data := #[] }, .int .i64 0, .int .i64 0, .int .i64 0, .string { data := #[] }, .int .i64 0, .int .i64 0, .int .i64 0, .int .i64 0, .string { data := #[] }, .slice A 0 c] 33)) w2.heap.size 1 2 n { data := #[] } A c := ⟨heap_alloc_new _ _⟩
  clear hb1 hb2 N2 g3
  go_wp2_with fail
  generalize (w2.alloc (.cells #[.int .i64 1, .int .i64 2, .int .i64 n, .string { data := #[] }, .int .i64 0, .int .i64 0, .int .i64 0, .string { data := #[] }, .int .i64 0, .int .i64 0, .int .i64 0, .int .i64 0, .string { data := #[] }, .slice A 0 c] 33)) = W3 at *
  refine (HRq.out W3 N3).mono ?_; rintro e w4 ⟨A', c', rfl, hb4⟩
  have g5 : Below w4.heap.size w4 (w4.alloc (.cells #[.int .i64 1, .int .i64 3, .int .i64 0, .string u, .int .i64 0, .int .i64 0, .int .i64 0, .string { data := #[] }, .int .i64 0, .int .i64 0, .int .i64 0, .int .i64 0, .string { data := #[] }, .slice A' 0 c'] 33)) := (Below.refl _ _).alloc (Nat.le_refl _) _
  have N4 := N3.trans (hb4.mono N3.size)
  have N5 := N4.trans (g5.mono N4.size)
  have S5 := (S3.below hb4).below g5
  have Q5 : SLoc 33 (w4.alloc (.cells #[.int .i64 1, .int .i64 3, .int .i64 0, .string u, .int .i64 0, .int .i64 0, .int .i64 0, .string { data := #[] }, .int .i64 0, .int .i64 0, .int .i64 0, .int .i64 0, .string { data := #[] }, .slice A' 0 c'] 33)) w4.heap.size 1 3 0 u A' c' := ⟨heap_alloc_new _ _⟩
  clear N3 N4 hb4 g5 S3
  obtain ⟨d0, d1, d2, d3, d4, d5, d6, d7, d8, d9, d10, d11, d12, d13⟩ := S5.cells
  obtain ⟨g0, g1, g2, g3, g4, g5, g6, g7, g8, g9, g10, g11, g12, g13⟩ := Q5.cells
  clear S5 Q5
  rcases e5 with e5 | e5
  · rw [show str t = s from by rw [e5]; exact str_id s] at HWt HRt
    clear e5
    go_wp2_with fail
    generalize (w4.alloc (.cells #[.int .i64 1, .int .i64 3, .int .i64 0, .string u, .int .i64 0, .int .i64 0, .int .i64 0, .string { data := #[] }, .int .i64 0, .int .i64 0, .int .i64 0, .int .i64 0, .string { data := #[] }, .slice A' 0 c'] 33)) = W5 at *
    clear d0 d1 d2 d3 d4 d5 d6 d7 d8 d9 d10 d11 d12 d13 g0 g1 g2 g3 g4 g5 g6 g7 g8 g9 g10 g11 g12 g13
    clear HRd HRq HWn
    go_wp2_with fail
    refine (HWt.out W5 N5).mono ?_; rintro e w6 ⟨rfl, hb6⟩
    have N6 := N5.trans (hb6.mono N5.size)
    clear N5 hb6 HWt
    go_wp2_with fail
    refine (HRt.out w6 N6).mono ?_; rintro e w7 ⟨A, c, rfl, hb7⟩
    have g8 : Below w7.heap.size w7 (w7.alloc (.cells #[.int .i64 1, .int .i64 3, .int .i64 0, .string s, .int .i64 0, .int .i64 0, .int .i64 0, .string { data := #[] }, .int .i64 0, .int .i64 0, .int .i64 0, .int .i64 0, .string { data := #[] }, .slice A 0 c] 33)) := (Below.refl _ _).alloc (Nat.le_refl _) _
    have N7 := N6.trans (hb7.mono N6.size)
    have N8 := N7.trans (g8.mono N7.size)
    have S8 : SLoc 33 (w7.alloc (.cells #[.int .i64 1, .int .i64 3, .int .i64 0, .string s, .int .i64 0, .int .i64 0, .int .i64 0, .string { data := #[] }, .int .i64 0, .int .i64 0, .int .i64 0, .int .i64 0, .string { data := #[] }, .slice A 0 c] 33)) w7.heap.size 1 3 0 s A c := ⟨heap_alloc_new _ _⟩
    obtain ⟨d0, d1, d2, d3, d4, d5, d6, d7, d8, d9, d10, d11, d12, d13⟩ := S8.cells
    clear N6 N7 hb7 g8 S8 HRt
    go_wp2_with fail
    generalize (w7.alloc (.cells #[.int .i64 1, .int .i64 3, .int .i64 0, .string s, .int .i64 0, .int .i64 0, .int .i64 0, .string { data := #[] }, .int .i64 0, .int .i64 0, .int .i64 0, .int .i64 0, .string { data := #[] }, .slice A 0 c] 33)) = W8 at *
    refine (HW.out W8 N8).mono ?_; rintro e w9 ⟨rfl, hb9⟩
    go_wp2_with fail
    go_ret
    exact ⟨rfl, N8.trans (hb9.mono N8.size)⟩
  · rw [show str t = { data := #[39] } ++ s from by rw [e5]; exact (quote_str s).symm] at HWt HRt
    have p1 := longer s
    have p2 : ((({ data := #[39] } : ByteArray) ++ s).toList == s.toList) = false := beq_eq_false_iff_ne.2 p1
    clear e5
    go_wp2_with fail
    generalize (w4.alloc (.cells #[.int .i64 1, .int .i64 3, .int .i64 0, .string u, .int .i64 0, .int .i64 0, .int .i64 0, .string { data := #[] }, .int .i64 0, .int .i64 0, .int .i64 0, .int .i64 0, .string { data := #[] }, .slice A' 0 c'] 33)) = W5 at *
    clear d0 d1 d2 d3 d4 d5 d6 d7 d8 d9 d10 d11 d12 d13 g0 g1 g2 g3 g4 g5 g6 g7 g8 g9 g10 g11 g12 g13
    clear HRd HRq HWn
    go_wp2_with fail
    refine (HWt.out W5 N5).mono ?_; rintro e w6 ⟨rfl, hb6⟩
    have N6 := N5.trans (hb6.mono N5.size)
    clear N5 hb6 HWt
    go_wp2_with fail
    refine (HRt.out w6 N6).mono ?_; rintro e w7 ⟨A, c, rfl, hb7⟩
    have g8 : Below w7.heap.size w7 (w7.alloc (.cells #[.int .i64 1, .int .i64 3, .int .i64 0, .string s, .int .i64 0, .int .i64 0, .int .i64 0, .string { data := #[] }, .int .i64 0, .int .i64 0, .int .i64 0, .int .i64 0, .string { data := #[] }, .slice A 0 c] 33)) := (Below.refl _ _).alloc (Nat.le_refl _) _
    have N7 := N6.trans (hb7.mono N6.size)
    have N8 := N7.trans (g8.mono N7.size)
    have S8 : SLoc 33 (w7.alloc (.cells #[.int .i64 1, .int .i64 3, .int .i64 0, .string s, .int .i64 0, .int .i64 0, .int .i64 0, .string { data := #[] }, .int .i64 0, .int .i64 0, .int .i64 0, .int .i64 0, .string { data := #[] }, .slice A 0 c] 33)) w7.heap.size 1 3 0 s A c := ⟨heap_alloc_new _ _⟩
    obtain ⟨d0, d1, d2, d3, d4, d5, d6, d7, d8, d9, d10, d11, d12, d13⟩ := S8.cells
    clear N6 N7 hb7 g8 S8 HRt
    go_wp2_with fail
    generalize (w7.alloc (.cells #[.int .i64 1, .int .i64 3, .int .i64 0, .string s, .int .i64 0, .int .i64 0, .int .i64 0, .string { data := #[] }, .int .i64 0, .int .i64 0, .int .i64 0, .int .i64 0, .string { data := #[] }, .slice A 0 c] 33)) = W8 at *
    refine (HW.out W8 N8).mono ?_; rintro e w9 ⟨rfl, hb9⟩
    go_wp2_with fail
    go_ret
    exact ⟨rfl, N8.trans (hb9.mono N8.size)⟩
end Go.Proofs.YticehalcnbjccaaGreatDoor.SourceC
