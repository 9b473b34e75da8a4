/-
  What every law of the layer asks besides; the law's Same; Read, Write where what they tell is known.
-/
import Derived.Test.YticehalcnbjccaaGreatDoorBSourceD
import Derived.Test.YticehalcnbjccaaGreatDoorBSourceF
import Derived.Test.YticehalcnbjccaaGreatDoorBSourceX
import Derived.Test.YticehalcnbjccaaGreatDoorBNumD
import Derived.Test.YticehalcnbjccaaGreatDoorBPrintB
import Derived.Test.YticehalcnbjccaaGreatDoorBTreeT
import Derived.Test.YticehalcnbjccaaGreatDoorBTreeV
import Derived.Test.YticehalcnbjccaaGreatDoorBAddrD
import Derived.Test.YticehalcnbjccaaGreatDoorBLexA
import Derived.Test.YticehalcnbjccaaGreatDoorBTreeK3
namespace Go.Proofs.YticehalcnbjccaaGreatDoor.SourceC
set_option linter.unusedVariables false
set_option linter.unusedSimpArgs false
open Go.RowKit Go.Proofs.YticehalcnbjccaaGreatDoor.NumC Go.Proofs.YticehalcnbjccaaGreatDoor.TreeC Go.Proofs.YticehalcnbjccaaGreatDoor.PrintC
open Go.Proofs.YticehalcnbjccaaGreatDoor.LexC (str nob str_size LexLib)
open Go.Proofs.YticehalcnbjccaaGreatDoor.ValueC (Val GoodP goodB goodB_t goodB_f nos zeroV showL trueL falseL size_nos)
structure SLoc (T : Nat) (w : World) (b : Nat) (kd k n : Int) (s : ByteArray) (A : Option Addr) (c : Nat) : Prop where
  at_ : w.heap[b]? = some (.cells #[.int .i64 kd, .int .i64 k, .int .i64 n, .string s, .int .i64 0, .int .i64 0, .int .i64 0, .string { data := #[] }, .int .i64 0, .int .i64 0, .int .i64 0, .int .i64 0, .string { data := #[] }, .slice A 0 c] T (0, 0))
theorem SLoc.lt {T : Nat} {w : World} {b : Nat} {kd k n : Int} {s : ByteArray} {A : Option Addr} {c : Nat} (h : SLoc T w b kd k n s A c) : b < w.heap.size := (Array.getElem?_eq_some_iff.1 h.at_).1
theorem SLoc.below {T : Nat} {w : World} {b : Nat} {kd k n : Int} {s : ByteArray} {A : Option Addr} {c : Nat} {w' : World} (h : SLoc T w b kd k n s A c) (hb : Below w.heap.size w w') : SLoc T w' b kd k n s A c := ⟨(hb.block b h.lt).trans h.at_⟩
theorem SLoc.cells {T : Nat} {w : World} {b : Nat} {kd k n : Int} {s : ByteArray} {A : Option Addr} {c : Nat} (h : SLoc T w b kd k n s A c) : w.cell? ⟨b, 0, none⟩ = some (.int .i64 kd) ∧ w.cell? ⟨b, 1, none⟩ = some (.int .i64 k) ∧ w.cell? ⟨b, 2, none⟩ = some (.int .i64 n) ∧ w.cell? ⟨b, 3, none⟩ = some (.string s) ∧ w.cell? ⟨b, 4, none⟩ = some (.int .i64 0) ∧ w.cell? ⟨b, 5, none⟩ = some (.int .i64 0) ∧ w.cell? ⟨b, 6, none⟩ = some (.int .i64 0) ∧ w.cell? ⟨b, 7, none⟩ = some (.string { data := #[] }) ∧ w.cell? ⟨b, 8, none⟩ = some (.int .i64 0) ∧ w.cell? ⟨b, 9, none⟩ = some (.int .i64 0) ∧ w.cell? ⟨b, 10, none⟩ = some (.int .i64 0) ∧ w.cell? ⟨b, 11, none⟩ = some (.int .i64 0) ∧ w.cell? ⟨b, 12, none⟩ = some (.string { data := #[] }) ∧ w.cell? ⟨b, 13, none⟩ = some (.slice A 0 c) := by
  have h1 := h.at_
  refine ⟨?_, ?_, ?_, ?_, ?_, ?_, ?_, ?_, ?_, ?_, ?_, ?_, ?_, ?_⟩ <;> simp [World.cell?, h1]
theorem cRead_r {s : ByteArray} {r : RS} (hr : readL s.data.toList = r) (w : World) (hl : LexLib w) (hg : ErrT w) : Calls Tryz.prog 7 #[.string s] w (ReadPost w r) := by
  subst hr; exact cRead s w hl hg
theorem cRead_val {s : ByteArray} {k n : Int} {x : ByteArray} (hr : readL s.data.toList = valR ⟨k, n, x⟩) (w : World) (hl : LexLib w) (hg : ErrT w) : Calls Tryz.prog 7 #[.string s] w fun e w' =>
    ∃ A c, e = .returned (.tuple #[.agg #[.int .i64 1, .int .i64 k, .int .i64 n, .string x, .int .i64 0, .int .i64 0, .int .i64 0, .string { data := #[] }, .int .i64 0, .int .i64 0, .int .i64 0, .int .i64 0, .string { data := #[] }, .slice A 0 c], .int .i64 0, .int .i64 0]) ∧ Below w.heap.size w w' :=
  (cRead_r hr w hl hg).mono (fun e w' h => by obtain ⟨A, c, he, hb, -⟩ := h; exact ⟨A, c, he, hb⟩)
theorem cRead_none {s : ByteArray} {a n : Int} (hr : readL s.data.toList = noneR a n) (w : World) (hl : LexLib w) (hg : ErrT w) : Calls Tryz.prog 7 #[.string s] w fun e w' =>
    ∃ A c, e = .returned (.tuple #[.agg #[.int .i64 0, .int .i64 0, .int .i64 0, .string { data := #[] }, .int .i64 0, .int .i64 0, .int .i64 0, .string { data := #[] }, .int .i64 0, .int .i64 0, .int .i64 0, .int .i64 0, .string { data := #[] }, .slice A 0 c], .int .i64 a, .int .i64 n]) ∧ Below w.heap.size w w' :=
  (cRead_r hr w hl hg).mono (fun e w' h => by obtain ⟨A, c, he, hb, -⟩ := h; exact ⟨A, c, he, hb⟩)
theorem cWrite_val (k n : Int) (x : ByteArray) (A : Option Addr) (c : Nat) (r : TRes) (hr : writeL 1 ⟨k, n, x⟩ zeroN = r) (w : World) (hn : I64 n) (hl : LexLib w) (hg : ErrT w) :
    Calls Tryz.prog 12 #[.agg #[.int .i64 1, .int .i64 k, .int .i64 n, .string x, .int .i64 0, .int .i64 0, .int .i64 0, .string { data := #[] }, .int .i64 0, .int .i64 0, .int .i64 0, .int .i64 0, .string { data := #[] }, .slice A 0 c]] w fun e w' => e = .returned (.tuple #[.string (str r.s), .int .i64 r.err]) ∧ Below w.heap.size w w' := by
  subst hr
  exact cWrite 1 ⟨k, n, x⟩ zeroN A c w (Or.inr (Or.inl rfl)) (fun h => absurd h (by decide)) (by decide) (by decide) hn hl hg (Or.inl rfl)
theorem cClean_r {s : ByteArray} {r : CRes} (hr : cleanL s.data.toList = r) (w : World) (hl : LexLib w) (hg : ErrT w) : Calls Tryz.prog 9 #[.string s] w fun e w' => e = .returned (.tuple #[.string (str r.s), .int .i64 r.at_, .int .i64 r.err]) ∧ Below w.heap.size w w' := by
  subst hr; exact cClean s w hl hg
theorem wk_1 : readL ({ data := #[39, 49, 50] } : ByteArray).data.toList = valR ⟨3, 0, str [49, 50]⟩ := by kernel_rfl
theorem wk_2 : writeL 1 ⟨3, 0, str [49, 50]⟩ zeroN = ⟨[39, 49, 50], 0⟩ := by kernel_rfl
theorem wk_3 : cleanL ({ data := #[61, 32, 97, 49, 32, 43, 32, 49] } : ByteArray).data.toList = ⟨[61, 65, 49, 43, 49], 0, 0⟩ := by kernel_rfl
theorem wk_4 : readL ({ data := #[61, 49, 43] } : ByteArray).data.toList = noneR 3 13 := by kernel_rfl
set_option maxRecDepth 100000 in
set_option maxHeartbeats 4000000 in
theorem cwakes7 (w : World) (hl : LexLib w) (hg : ErrT w) : Calls Tryz.prog 6 #[] w fun e w' => e = .returned (.bool true) ∧ Below w.heap.size w w' := by
  have HL := Lib.hid hl
  have HG := Lib.hid hg
  clear hl hg
  go_enter Tryz.func6, Tryz.ntmps6
  go_wp2_with fail
  refine (cRead_val wk_1 w HL.out HG.out).mono ?_; rintro e w1 ⟨A, c, rfl, hb1⟩
  have M2 : SLoc 33 (w1.alloc (.cells #[.int .i64 1, .int .i64 3, .int .i64 0, .string (str [49, 50]), .int .i64 0, .int .i64 0, .int .i64 0, .string { data := #[] }, .int .i64 0, .int .i64 0, .int .i64 0, .int .i64 0, .string { data := #[] }, .slice A 0 c] 33)) w1.heap.size 1 3 0 (str [49, 50]) A c := ⟨heap_alloc_new _ _⟩
  have N2 : Below w.heap.size w (w1.alloc (.cells #[.int .i64 1, .int .i64 3, .int .i64 0, .string (str [49, 50]), .int .i64 0, .int .i64 0, .int .i64 0, .string { data := #[] }, .int .i64 0, .int .i64 0, .int .i64 0, .int .i64 0, .string { data := #[] }, .slice A 0 c] 33)) := hb1.alloc hb1.size _
  have HW := Lib.hid (cWrite_val 3 0 (str [49, 50]) A c _ wk_2 (w1.alloc (.cells #[.int .i64 1, .int .i64 3, .int .i64 0, .string (str [49, 50]), .int .i64 0, .int .i64 0, .int .i64 0, .string { data := #[] }, .int .i64 0, .int .i64 0, .int .i64 0, .int .i64 0, .string { data := #[] }, .slice A 0 c] 33)) (i64_of_small (Or.inl rfl)) (HL.out.below N2) (HG.out.below N2))
  generalize str [49, 50] = X at *
  clear hb1
  obtain ⟨d0, d1, d2, d3, d4, d5, d6, d7, d8, d9, d10, d11, d12, d13⟩ := M2.cells
  go_wp2_with fail
  generalize (w1.alloc (.cells #[.int .i64 1, .int .i64 3, .int .i64 0, .string X, .int .i64 0, .int .i64 0, .int .i64 0, .string { data := #[] }, .int .i64 0, .int .i64 0, .int .i64 0, .int .i64 0, .string { data := #[] }, .slice A 0 c] 33)) = W2 at *
  refine HW.out.mono ?_; rintro e w3 ⟨rfl, hb3⟩
  have M3 := M2.below hb3
  have N3 := N2.trans (hb3.mono N2.size)
  clear d0 d1 d2 d3 d4 d5 d6 d7 d8 d9 d10 d11 d12 d13 M2 N2 hb3 HW
  go_wp2_with fail
  refine (cClean_r wk_3 w3 (HL.out.below N3) (HG.out.below N3)).mono ?_; rintro e w4 ⟨rfl, hb4⟩
  have M4 := M3.below hb4
  have N4 := N3.trans (hb4.mono N3.size)
  clear M3 N3 hb4
  go_wp2_with fail
  refine (cRead_none wk_4 w4 (HL.out.below N4) (HG.out.below N4)).mono ?_; rintro e w5 ⟨A', c', rfl, hb5⟩
  have g6 : Below w5.heap.size w5 (w5.alloc (.cells #[.int .i64 0, .int .i64 0, .int .i64 0, .string { data := #[] }, .int .i64 0, .int .i64 0, .int .i64 0, .string { data := #[] }, .int .i64 0, .int .i64 0, .int .i64 0, .int .i64 0, .string { data := #[] }, .slice A' 0 c'] 33)) := (Below.refl _ _).alloc (Nat.le_refl _) _
  have M6 := (M4.below hb5).below g6
  have N5 := N4.trans (hb5.mono N4.size)
  have HN := Lib.hid (N5.trans (g6.mono N5.size))
  clear M4 N4 hb5 g6 N5
  obtain ⟨d0, d1, d2, d3, d4, d5, d6, d7, d8, d9, d10, d11, d12, d13⟩ := M6.cells
  have t1 : ((str [39, 49, 50]).toList == [39, 49, 50]) = true := by rw [Lib.toList_data, str_back]; rfl
  have t2 : (str [39, 49, 50]).toList = [39, 49, 50] := by rw [Lib.toList_data, str_back]
  have t3 : ((str [61, 65, 49, 43, 49]).toList == [61, 65, 49, 43, 49]) = true := by rw [Lib.toList_data, str_back]; rfl
  have t4 : (str [61, 65, 49, 43, 49]).toList = [61, 65, 49, 43, 49] := by rw [Lib.toList_data, str_back]
  clear M6
  go_wp2_with fail
  go_ret
  exact ⟨rfl, HN.out⟩
end Go.Proofs.YticehalcnbjccaaGreatDoor.SourceC
namespace Go.Proofs.YticehalcnbjccaaGreatDoor.SourceC
set_option linter.unusedVariables false
set_option linter.unusedSimpArgs false
open Go.RowKit Go.Proofs.YticehalcnbjccaaGreatDoor.NumC Go.Proofs.YticehalcnbjccaaGreatDoor.TreeC Go.Proofs.YticehalcnbjccaaGreatDoor.PrintC
open Go.Proofs.YticehalcnbjccaaGreatDoor.LexC (str nob str_size LexLib)
open Go.Proofs.YticehalcnbjccaaGreatDoor.ValueC (Val GoodP goodB goodB_t goodB_f nos zeroV showL trueL falseL size_nos)
theorem nd_small (s : List UInt8) : (readL s).nd.size ≤ 300 := by
  by_cases h : (readL s).err = 0
  · exact (read_fits h).2.2.1
  · have e : (readL s).nd = zeroN := by
      unfold readL asText at h ⊢
      repeat (first | rfl | exact absurd rfl h | split at h <;> rename_i hz <;> first | rw [if_pos hz] | rw [if_neg hz])
    rw [e]; decide
end Go.Proofs.YticehalcnbjccaaGreatDoor.SourceC
namespace Go.Proofs.YticehalcnbjccaaGreatDoor.SourceC
set_option linter.unusedVariables false
set_option linter.unusedSimpArgs false
open Go.RowKit Go.Proofs.YticehalcnbjccaaGreatDoor.NumC Go.Proofs.YticehalcnbjccaaGreatDoor.TreeC Go.Proofs.YticehalcnbjccaaGreatDoor.PrintC
open Go.Proofs.YticehalcnbjccaaGreatDoor.LexC (str nob str_size LexLib)
open Go.Proofs.YticehalcnbjccaaGreatDoor.ValueC (Val GoodP goodB goodB_t goodB_f nos zeroV showL trueL falseL size_nos)
set_option maxRecDepth 100000 in
set_option maxHeartbeats 8000000 in
theorem sourceBack (s : ByteArray) (v : Val) (w : World) (hn : I64 v.n) (hl : LexLib w) (hg : ErrT w) : Calls Tryz.prog 4 #[.string s, .agg #[.int .i64 v.k, .int .i64 v.n, .string v.s]] w fun e w' => e = .returned (.bool true) ∧ Below w.heap.size w w' := by
  have HW := Lib.hid (fun (W : World) (hb : Below w.heap.size w W) => cwakes7 W (hl.below hb) (hg.below hb))
  have N0 : Below w.heap.size w (w.alloc (.cells #[.int .i64 v.k, .int .i64 v.n, .string v.s] 24)) := (Below.refl _ _).alloc (Nat.le_refl _) _
  have V0 : VB (w.alloc (.cells #[.int .i64 v.k, .int .i64 v.n, .string v.s] 24)) w.heap.size v.k v.n v.s := ⟨heap_alloc_new _ _⟩
  by_cases h3 : 3000 < s.size
  · have t1 : (3000 : Int) < (s.size : Int) := by omega
    obtain ⟨c0, c1, c2⟩ := V0.cells
    clear hl hg V0
    go_enter Tryz.func4, Tryz.ntmps4
    go_wp2_with fail
    generalize (w.alloc (.cells #[.int .i64 v.k, .int .i64 v.n, .string v.s] 24)) = W0 at *
    refine (HW.out W0 N0).mono ?_; rintro e w1 ⟨rfl, hb1⟩
    go_wp2_with fail
    go_ret
    exact ⟨rfl, N0.trans (hb1.mono N0.size)⟩
  have t1 : ¬ (3000 : Int) < (s.size : Int) := by omega
  by_cases h4 : 3000 < v.s.size
  · have t2 : (3000 : Int) < (v.s.size : Int) := by omega
    obtain ⟨c0, c1, c2⟩ := V0.cells
    clear hl hg V0
    go_enter Tryz.func4, Tryz.ntmps4
    go_wp2_with fail
    generalize (w.alloc (.cells #[.int .i64 v.k, .int .i64 v.n, .string v.s] 24)) = W0 at *
    refine (HW.out W0 N0).mono ?_; rintro e w1 ⟨rfl, hb1⟩
    go_wp2_with fail
    go_ret
    exact ⟨rfl, N0.trans (hb1.mono N0.size)⟩
  have t2 : ¬ (3000 : Int) < (v.s.size : Int) := by omega
  have HL := Lib.hid hl
  have HG := Lib.hid hg
  have HR := Lib.hid (fun (W : World) (hb : Below w.heap.size w W) => cRead s W (hl.below hb) (hg.below hb))
  have HC := Lib.hid (fun (W : World) (hb : Below w.heap.size w W) => cClean s W (hl.below hb) (hg.below hb))
  have HCB := Lib.hid (fun h => clean_bad (s := s.data.toList) h)
  have HCR := Lib.hid (fun h => And.intro (clean_read (s := s.data.toList) h) (And.intro (clean_clean (s := s.data.toList) h) (clean_ok (s := s.data.toList) h).1))
  have HS := Lib.hid (nd_small s.data.toList)
  obtain ⟨k, n, x⟩ := v
  simp only at *
  have HWr := Lib.hid (cWrite_val k n x none 0 _ rfl (w.alloc (.cells #[.int .i64 k, .int .i64 n, .string x] 24)) hn (hl.below N0) (hg.below N0))
  have HWB := Lib.hid (fun h => write_back (v := ⟨k, n, x⟩) hn h)
  have HKV := Lib.hid (fun W => ValueC.keepValue ⟨k, n, x⟩ ⟨k, n, x⟩ W)
  rw [show ValueC.sameB ⟨k, n, x⟩ ⟨k, n, x⟩ = true from decide_eq_true rfl] at HKV
  obtain ⟨c0, c1, c2⟩ := V0.cells
  clear hl hg h3 h4 hn
  generalize cleanL s.data.toList = q at *
  generalize readL s.data.toList = r at *
  generalize writeL 1 ⟨k, n, x⟩ zeroN = wr at *
  obtain ⟨l, qat, qer⟩ := q
  obtain ⟨wl, we⟩ := wr
  simp only at HC HWr HWB HCB HCR
  go_enter Tryz.func4, Tryz.ntmps4
  go_wp2_with fail
  generalize (w.alloc (.cells #[.int .i64 k, .int .i64 n, .string x] 24)) = W0 at *
  refine HWr.out.mono ?_; rintro e w1 ⟨rfl, hb1⟩
  have N1 := N0.trans (hb1.mono N0.size)
  have V1 := V0.below hb1
  clear c0 c1 c2 V0 N0 hb1 HWr
  by_cases hz : we = 0
  · subst hz
    have HRV := Lib.hid (fun (W : World) (hb : Below w.heap.size w W) => cRead_val (s := str wl) (k := k) (n := n) (x := x) (by rw [PrintC.str_back]; exact HWB.out rfl) W (HL.out.below hb) (HG.out.below hb))
    clear HWB
    generalize str wl = uw at *
    go_wp2_with fail
    refine (HRV.out w1 N1).mono ?_; rintro e w2 ⟨A, c, rfl, hb2⟩
    have g3 : Below w2.heap.size w2 (w2.alloc (.cells #[.int .i64 1, .int .i64 k, .int .i64 n, .string x, .int .i64 0, .int .i64 0, .int .i64 0, .string { data := #[] }, .int .i64 0, .int .i64 0, .int .i64 0, .int .i64 0, .string { data := #[] }, .slice A 0 c] 33)) := (Below.refl _ _).alloc (Nat.le_refl _) _
    have N2 := N1.trans (hb2.mono N1.size)
    have N3 := N2.trans (g3.mono N2.size)
    have V3 := (V1.below hb2).below g3
    have S3 : SLoc 33 (w2.alloc (.cells #[.int .i64 1, .int .i64 k, .int .i64 n, .string x, .int .i64 0, .int .i64 0, .int .i64 0, .string { data := #[] }, .int .i64 0, .int .i64 0, .int .i64 0, .int .i64 0, .string { data := #[] }, .slice A 0 c] 33)) w2.heap.size 1 k n x A c := ⟨heap_alloc_new _ _⟩
    clear N1 N2 V1 hb2 g3 HRV
    obtain ⟨c0, c1, c2⟩ := V3.cells
    obtain ⟨d0, d1, d2, d3, d4, d5, d6, d7, d8, d9, d10, d11, d12, d13⟩ := S3.cells
    clear V3 S3
    go_wp2_with fail
    generalize (w2.alloc (.cells #[.int .i64 1, .int .i64 k, .int .i64 n, .string x, .int .i64 0, .int .i64 0, .int .i64 0, .string { data := #[] }, .int .i64 0, .int .i64 0, .int .i64 0, .int .i64 0, .string { data := #[] }, .slice A 0 c] 33)) = W3 at *
    refine (HKV.out W3).mono ?_; rintro e w4 ⟨rfl, hb4⟩
    have N4 := N3.trans (hb4.mono N3.size)
    clear d0 d1 d2 d3 d4 d5 d6 d7 d8 d9 d10 d11 d12 d13 c0 c1 c2 N3 hb4 HKV
    by_cases hq : qer = 0
    · subst hq
      obtain ⟨i1, i2, i3⟩ := HCR.out rfl
      have HR2 := Lib.hid (fun (W : World) (hb : Below w.heap.size w W) => cRead_r (s := str l) (r := r) (by rw [PrintC.str_back]; exact i1) W (HL.out.below hb) (HG.out.below hb))
      have HC2 := Lib.hid (fun (W : World) (hb : Below w.heap.size w W) => cClean_r (s := str l) (r := ⟨l, 0, 0⟩) (by rw [PrintC.str_back]; exact i2) W (HL.out.below hb) (HG.out.below hb))
      simp only at HC2
      clear i1 i2 HCR HCB
      generalize str l = u at *
      obtain ⟨k2, ⟨vk, vn, vs⟩, ⟨f, kd⟩, pat, per⟩ := r
      simp only at HS i3
      subst i3
      go_wp2_with fail
      refine (HC.out w4 N4).mono ?_; rintro e w8 ⟨rfl, hb8⟩
      have N8 := N4.trans (hb8.mono N4.size)
      clear hb8 HC
      go_wp2_with fail
      refine (HR.out w8 N8).mono ?_; rintro e w9 ⟨A, c, rfl, hb9, hK9⟩
      simp only at hK9 ⊢
      have g2 : Below w9.heap.size w9 (w9.alloc (.cells #[.int .i64 k2, .int .i64 vk, .int .i64 vn, .string vs, .int .i64 f.k, .int .i64 f.vk, .int .i64 f.vn, .string f.vs, .int .i64 f.r1, .int .i64 f.r2, .int .i64 f.r3, .int .i64 f.r4, .string f.op, .slice A kd.len c] 33)) := (Below.refl _ _).alloc (Nat.le_refl _) _
      have N9 := N8.trans (hb9.mono N8.size)
      have N10 := N9.trans (g2.mono N9.size)
      have M2 : RLoc 33 (w9.alloc (.cells #[.int .i64 k2, .int .i64 vk, .int .i64 vn, .string vs, .int .i64 f.k, .int .i64 f.vk, .int .i64 f.vn, .string f.vs, .int .i64 f.r1, .int .i64 f.r2, .int .i64 f.r3, .int .i64 f.r4, .string f.op, .slice A kd.len c] 33)) w9.heap.size k2 vk vn vs f A kd.len c := ⟨heap_alloc_new _ _⟩
      have K2 : KidsAt (w9.alloc (.cells #[.int .i64 k2, .int .i64 vk, .int .i64 vn, .string vs, .int .i64 f.k, .int .i64 f.vk, .int .i64 f.vn, .string f.vs, .int .i64 f.r1, .int .i64 f.r2, .int .i64 f.r3, .int .i64 f.r4, .string f.op, .slice A kd.len c] 33)) (fun g => g < (w9.alloc (.cells #[.int .i64 k2, .int .i64 vk, .int .i64 vn, .string vs, .int .i64 f.k, .int .i64 f.vk, .int .i64 f.vn, .string f.vs, .int .i64 f.r1, .int .i64 f.r2, .int .i64 f.r3, .int .i64 f.r4, .string f.op, .slice A kd.len c] 33)).heap.size) kd A := hK9.keep (y := w9.heap.size) (Kept.of g2) (fun g hg hlt => ⟨by omega, by simp; omega⟩)
      clear g2 hK9 hb9 HR N8 N9
      go_wp2_with fail
      generalize (w9.alloc (.cells #[.int .i64 k2, .int .i64 vk, .int .i64 vn, .string vs, .int .i64 f.k, .int .i64 f.vk, .int .i64 f.vn, .string f.vs, .int .i64 f.r1, .int .i64 f.r2, .int .i64 f.r3, .int .i64 f.r4, .string f.op, .slice A kd.len c] 33)) = W10 at *
      refine (HR2.out W10 N10).mono ?_; rintro e w11 ⟨A', c', rfl, hb11, hK11⟩
      simp only at hK11 ⊢
      have g4 : Below w11.heap.size w11 (w11.alloc (.cells #[.int .i64 k2, .int .i64 vk, .int .i64 vn, .string vs, .int .i64 f.k, .int .i64 f.vk, .int .i64 f.vn, .string f.vs, .int .i64 f.r1, .int .i64 f.r2, .int .i64 f.r3, .int .i64 f.r4, .string f.op, .slice A' kd.len c'] 33)) := (Below.refl _ _).alloc (Nat.le_refl _) _
      have N11 := N10.trans (hb11.mono N10.size)
      have N12 := N11.trans (g4.mono N11.size)
      have M4 := (M2.below hb11).below g4
      have Q4 : RLoc 33 (w11.alloc (.cells #[.int .i64 k2, .int .i64 vk, .int .i64 vn, .string vs, .int .i64 f.k, .int .i64 f.vk, .int .i64 f.vn, .string f.vs, .int .i64 f.r1, .int .i64 f.r2, .int .i64 f.r3, .int .i64 f.r4, .string f.op, .slice A' kd.len c'] 33)) w11.heap.size k2 vk vn vs f A' kd.len c' := ⟨heap_alloc_new _ _⟩
      have K4 := below_row (below_row K2 hb11) g4
      have J4 : KidsAt (w11.alloc (.cells #[.int .i64 k2, .int .i64 vk, .int .i64 vn, .string vs, .int .i64 f.k, .int .i64 f.vk, .int .i64 f.vn, .string f.vs, .int .i64 f.r1, .int .i64 f.r2, .int .i64 f.r3, .int .i64 f.r4, .string f.op, .slice A' kd.len c'] 33)) (fun g => g < (w11.alloc (.cells #[.int .i64 k2, .int .i64 vk, .int .i64 vn, .string vs, .int .i64 f.k, .int .i64 f.vk, .int .i64 f.vn, .string f.vs, .int .i64 f.r1, .int .i64 f.r2, .int .i64 f.r3, .int .i64 f.r4, .string f.op, .slice A' kd.len c'] 33)).heap.size) kd A' := hK11.keep (y := w11.heap.size) (Kept.of g4) (fun g hg hlt => ⟨by omega, by simp; omega⟩)
      clear g4 hK11 hb11 HR2 N10 N11 M2 K2
      go_wp2_with fail
      generalize (w11.alloc (.cells #[.int .i64 k2, .int .i64 vk, .int .i64 vn, .string vs, .int .i64 f.k, .int .i64 f.vk, .int .i64 f.vn, .string f.vs, .int .i64 f.r1, .int .i64 f.r2, .int .i64 f.r3, .int .i64 f.r4, .string f.op, .slice A' kd.len c'] 33)) = W12 at *
      refine (HC2.out W12 N12).mono ?_; rintro e w13 ⟨rfl, hb13⟩
      have N13 := N12.trans (hb13.mono N12.size)
      have M5 := M4.below hb13
      have Q5 := Q4.below hb13
      have K5 := below_row K4 hb13
      have J5 := below_row J4 hb13
      clear N12 M4 Q4 K4 J4 hb13 HC2
      have HV2 := Lib.hid (fun W => ValueC.keepValue ⟨vk, vn, vs⟩ ⟨vk, vn, vs⟩ W)
      rw [show ValueC.sameB ⟨vk, vn, vs⟩ ⟨vk, vn, vs⟩ = true from decide_eq_true rfl] at HV2
      obtain ⟨d0, d1, d2, d3, d4, d5, d6, d7, d8, d9, d10, d11, d12, d13⟩ := M5.cells
      obtain ⟨g0, g1, g2, g3, g4, g5, g6, g7, g8, g9, g10, g11, g12, g13⟩ := Q5.cells
      go_wp2_with fail
      refine (HV2.out w13).mono ?_; rintro e w14 ⟨rfl, hb14⟩
      have N14 := N13.trans (hb14.mono N13.size)
      have M6 := M5.below hb14
      have Q6 := Q5.below hb14
      have HNN := Lib.hid (knode_self ⟨f, kd⟩ A A' c c' w14 HS.out (below_row K5 hb14) (below_row J5 hb14))
      clear d0 d1 d2 d3 d4 d5 d6 d7 d8 d9 d10 d11 d12 d13 g0 g1 g2 g3 g4 g5 g6 g7 g8 g9 g10 g11 g12 g13 N13 M5 Q5 K5 J5 hb14 HV2
      obtain ⟨d0, d1, d2, d3, d4, d5, d6, d7, d8, d9, d10, d11, d12, d13⟩ := M6.cells
      obtain ⟨g0, g1, g2, g3, g4, g5, g6, g7, g8, g9, g10, g11, g12, g13⟩ := Q6.cells
      clear M6 Q6
      go_wp2_with fail
      refine HNN.out.mono ?_; rintro e w15 ⟨rfl, hb15⟩
      have N15 := N14.trans (hb15.mono N14.size)
      clear d0 d1 d2 d3 d4 d5 d6 d7 d8 d9 d10 d11 d12 d13 g0 g1 g2 g3 g4 g5 g6 g7 g8 g9 g10 g11 g12 g13 N14 hb15 HNN
      go_wp2_with fail
      refine (HW.out w15 N15).mono ?_; rintro e w16 ⟨rfl, hb16⟩
      go_wp2_with fail
      go_ret
      exact ⟨rfl, N15.trans (hb16.mono N15.size)⟩
    · have q1 : (qer != 0) = true := by rw [bne, beq_eq_false_iff_ne.2 hq]; rfl
      have hl0 := HCB.out hq
      subst hl0
      have HC3 : Hid (∀ (W : World), Below w.heap.size w W → Calls Tryz.prog 9 #[.string s] W fun e w' => e = .returned (.tuple #[.string { data := #[] }, .int .i64 qat, .int .i64 qer]) ∧ Below W.heap.size W w') := Lib.hid (fun W hb => HC.out W hb)
      clear HC HCR HCB HR hq
      go_wp2_with fail
      refine (HC3.out w4 N4).mono ?_; rintro e w8 ⟨rfl, hb8⟩
      have N8 := N4.trans (hb8.mono N4.size)
      go_wp2_with fail
      refine (HW.out w8 N8).mono ?_; rintro e w16 ⟨rfl, hb16⟩
      go_wp2_with fail
      go_ret
      exact ⟨rfl, N8.trans (hb16.mono N8.size)⟩
  · have q0 : (we == 0) = false := beq_eq_false_iff_ne.2 hz
    clear HWB HKV hz V1
    by_cases hq : qer = 0
    · subst hq
      obtain ⟨i1, i2, i3⟩ := HCR.out rfl
      have HR2 := Lib.hid (fun (W : World) (hb : Below w.heap.size w W) => cRead_r (s := str l) (r := r) (by rw [PrintC.str_back]; exact i1) W (HL.out.below hb) (HG.out.below hb))
      have HC2 := Lib.hid (fun (W : World) (hb : Below w.heap.size w W) => cClean_r (s := str l) (r := ⟨l, 0, 0⟩) (by rw [PrintC.str_back]; exact i2) W (HL.out.below hb) (HG.out.below hb))
      simp only at HC2
      clear i1 i2 HCR HCB
      generalize str l = u at *
      obtain ⟨k2, ⟨vk, vn, vs⟩, ⟨f, kd⟩, pat, per⟩ := r
      simp only at HS i3
      subst i3
      go_wp2_with fail
      refine (HC.out w1 N1).mono ?_; rintro e w8 ⟨rfl, hb8⟩
      have N8 := N1.trans (hb8.mono N1.size)
      clear hb8 HC
      go_wp2_with fail
      refine (HR.out w8 N8).mono ?_; rintro e w9 ⟨A, c, rfl, hb9, hK9⟩
      simp only at hK9 ⊢
      have g2 : Below w9.heap.size w9 (w9.alloc (.cells #[.int .i64 k2, .int .i64 vk, .int .i64 vn, .string vs, .int .i64 f.k, .int .i64 f.vk, .int .i64 f.vn, .string f.vs, .int .i64 f.r1, .int .i64 f.r2, .int .i64 f.r3, .int .i64 f.r4, .string f.op, .slice A kd.len c] 33)) := (Below.refl _ _).alloc (Nat.le_refl _) _
      have N9 := N8.trans (hb9.mono N8.size)
      have N10 := N9.trans (g2.mono N9.size)
      have M2 : RLoc 33 (w9.alloc (.cells #[.int .i64 k2, .int .i64 vk, .int .i64 vn, .string vs, .int .i64 f.k, .int .i64 f.vk, .int .i64 f.vn, .string f.vs, .int .i64 f.r1, .int .i64 f.r2, .int .i64 f.r3, .int .i64 f.r4, .string f.op, .slice A kd.len c] 33)) w9.heap.size k2 vk vn vs f A kd.len c := ⟨heap_alloc_new _ _⟩
      have K2 : KidsAt (w9.alloc (.cells #[.int .i64 k2, .int .i64 vk, .int .i64 vn, .string vs, .int .i64 f.k, .int .i64 f.vk, .int .i64 f.vn, .string f.vs, .int .i64 f.r1, .int .i64 f.r2, .int .i64 f.r3, .int .i64 f.r4, .string f.op, .slice A kd.len c] 33)) (fun g => g < (w9.alloc (.cells #[.int .i64 k2, .int .i64 vk, .int .i64 vn, .string vs, .int .i64 f.k, .int .i64 f.vk, .int .i64 f.vn, .string f.vs, .int .i64 f.r1, .int .i64 f.r2, .int .i64 f.r3, .int .i64 f.r4, .string f.op, .slice A kd.len c] 33)).heap.size) kd A := hK9.keep (y := w9.heap.size) (Kept.of g2) (fun g hg hlt => ⟨by omega, by simp; omega⟩)
      clear g2 hK9 hb9 HR N8 N9
      go_wp2_with fail
      generalize (w9.alloc (.cells #[.int .i64 k2, .int .i64 vk, .int .i64 vn, .string vs, .int .i64 f.k, .int .i64 f.vk, .int .i64 f.vn, .string f.vs, .int .i64 f.r1, .int .i64 f.r2, .int .i64 f.r3, .int .i64 f.r4, .string f.op, .slice A kd.len c] 33)) = W10 at *
      refine (HR2.out W10 N10).mono ?_; rintro e w11 ⟨A', c', rfl, hb11, hK11⟩
      simp only at hK11 ⊢
      have g4 : Below w11.heap.size w11 (w11.alloc (.cells #[.int .i64 k2, .int .i64 vk, .int .i64 vn, .string vs, .int .i64 f.k, .int .i64 f.vk, .int .i64 f.vn, .string f.vs, .int .i64 f.r1, .int .i64 f.r2, .int .i64 f.r3, .int .i64 f.r4, .string f.op, .slice A' kd.len c'] 33)) := (Below.refl _ _).alloc (Nat.le_refl _) _
      have N11 := N10.trans (hb11.mono N10.size)
      have N12 := N11.trans (g4.mono N11.size)
      have M4 := (M2.below hb11).below g4
      have Q4 : RLoc 33 (w11.alloc (.cells #[.int .i64 k2, .int .i64 vk, .int .i64 vn, .string vs, .int .i64 f.k, .int .i64 f.vk, .int .i64 f.vn, .string f.vs, .int .i64 f.r1, .int .i64 f.r2, .int .i64 f.r3, .int .i64 f.r4, .string f.op, .slice A' kd.len c'] 33)) w11.heap.size k2 vk vn vs f A' kd.len c' := ⟨heap_alloc_new _ _⟩
      have K4 := below_row (below_row K2 hb11) g4
      have J4 : KidsAt (w11.alloc (.cells #[.int .i64 k2, .int .i64 vk, .int .i64 vn, .string vs, .int .i64 f.k, .int .i64 f.vk, .int .i64 f.vn, .string f.vs, .int .i64 f.r1, .int .i64 f.r2, .int .i64 f.r3, .int .i64 f.r4, .string f.op, .slice A' kd.len c'] 33)) (fun g => g < (w11.alloc (.cells #[.int .i64 k2, .int .i64 vk, .int .i64 vn, .string vs, .int .i64 f.k, .int .i64 f.vk, .int .i64 f.vn, .string f.vs, .int .i64 f.r1, .int .i64 f.r2, .int .i64 f.r3, .int .i64 f.r4, .string f.op, .slice A' kd.len c'] 33)).heap.size) kd A' := hK11.keep (y := w11.heap.size) (Kept.of g4) (fun g hg hlt => ⟨by omega, by simp; omega⟩)
      clear g4 hK11 hb11 HR2 N10 N11 M2 K2
      go_wp2_with fail
      generalize (w11.alloc (.cells #[.int .i64 k2, .int .i64 vk, .int .i64 vn, .string vs, .int .i64 f.k, .int .i64 f.vk, .int .i64 f.vn, .string f.vs, .int .i64 f.r1, .int .i64 f.r2, .int .i64 f.r3, .int .i64 f.r4, .string f.op, .slice A' kd.len c'] 33)) = W12 at *
      refine (HC2.out W12 N12).mono ?_; rintro e w13 ⟨rfl, hb13⟩
      have N13 := N12.trans (hb13.mono N12.size)
      have M5 := M4.below hb13
      have Q5 := Q4.below hb13
      have K5 := below_row K4 hb13
      have J5 := below_row J4 hb13
      clear N12 M4 Q4 K4 J4 hb13 HC2
      have HV2 := Lib.hid (fun W => ValueC.keepValue ⟨vk, vn, vs⟩ ⟨vk, vn, vs⟩ W)
      rw [show ValueC.sameB ⟨vk, vn, vs⟩ ⟨vk, vn, vs⟩ = true from decide_eq_true rfl] at HV2
      obtain ⟨d0, d1, d2, d3, d4, d5, d6, d7, d8, d9, d10, d11, d12, d13⟩ := M5.cells
      obtain ⟨g0, g1, g2, g3, g4, g5, g6, g7, g8, g9, g10, g11, g12, g13⟩ := Q5.cells
      go_wp2_with fail
      refine (HV2.out w13).mono ?_; rintro e w14 ⟨rfl, hb14⟩
      have N14 := N13.trans (hb14.mono N13.size)
      have M6 := M5.below hb14
      have Q6 := Q5.below hb14
      have HNN := Lib.hid (knode_self ⟨f, kd⟩ A A' c c' w14 HS.out (below_row K5 hb14) (below_row J5 hb14))
      clear d0 d1 d2 d3 d4 d5 d6 d7 d8 d9 d10 d11 d12 d13 g0 g1 g2 g3 g4 g5 g6 g7 g8 g9 g10 g11 g12 g13 N13 M5 Q5 K5 J5 hb14 HV2
      obtain ⟨d0, d1, d2, d3, d4, d5, d6, d7, d8, d9, d10, d11, d12, d13⟩ := M6.cells
      obtain ⟨g0, g1, g2, g3, g4, g5, g6, g7, g8, g9, g10, g11, g12, g13⟩ := Q6.cells
      clear M6 Q6
      go_wp2_with fail
      refine HNN.out.mono ?_; rintro e w15 ⟨rfl, hb15⟩
      have N15 := N14.trans (hb15.mono N14.size)
      clear d0 d1 d2 d3 d4 d5 d6 d7 d8 d9 d10 d11 d12 d13 g0 g1 g2 g3 g4 g5 g6 g7 g8 g9 g10 g11 g12 g13 N14 hb15 HNN
      go_wp2_with fail
      refine (HW.out w15 N15).mono ?_; rintro e w16 ⟨rfl, hb16⟩
      go_wp2_with fail
      go_ret
      exact ⟨rfl, N15.trans (hb16.mono N15.size)⟩
    · have q1 : (qer != 0) = true := by rw [bne, beq_eq_false_iff_ne.2 hq]; rfl
      have hl0 := HCB.out hq
      subst hl0
      have HC3 : Hid (∀ (W : World), Below w.heap.size w W → Calls Tryz.prog 9 #[.string s] W fun e w' => e = .returned (.tuple #[.string { data := #[] }, .int .i64 qat, .int .i64 qer]) ∧ Below W.heap.size W w') := Lib.hid (fun W hb => HC.out W hb)
      clear HC HCR HCB HR hq
      go_wp2_with fail
      refine (HC3.out w1 N1).mono ?_; rintro e w8 ⟨rfl, hb8⟩
      have N8 := N1.trans (hb8.mono N1.size)
      go_wp2_with fail
      refine (HW.out w8 N8).mono ?_; rintro e w16 ⟨rfl, hb16⟩
      go_wp2_with fail
      go_ret
      exact ⟨rfl, N8.trans (hb16.mono N8.size)⟩
end Go.Proofs.YticehalcnbjccaaGreatDoor.SourceC
