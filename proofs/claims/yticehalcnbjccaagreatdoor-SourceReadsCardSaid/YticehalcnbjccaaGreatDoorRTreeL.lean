/-
  Contract of tree's reference: name, but for ranges.
-/
import Derived.Test.YticehalcnbjccaaGreatDoorRTreeK
import Derived.Test.YticehalcnbjccaaGreatDoorRAddrD
namespace Go.Proofs.YticehalcnbjccaaGreatDoor.TreeC
set_option maxRecDepth 100000
set_option maxHeartbeats 8000000
set_option linter.unusedVariables false
open Go.RowKit NumC LexC
open Cd
open Tryz
open Lib (hid)
section
variable {l : List Tok} {n : Int} {L : Lev} {into : Bool} {k : Nat} {t : Tok}
theorem name_is_call (h : isSign l (k + 1) [40] = true) : nameF l n L into t k = callF l n L into t k := by simp [nameF, h]
theorem name_true (h : isSign l (k + 1) [40] = false) (h1 : t.s = trueB) : nameF l n L into t k = .ok (constN 1 1 nob, k + 1) := by simp [nameF, h, h1]
theorem name_false (h : isSign l (k + 1) [40] = false) (h1 : t.s ≠ trueB) (h2 : t.s = falseB) : nameF l n L into t k = .ok (constN 1 0 nob, k + 1) := by
 unfold nameF
 rw [if_neg (by rw [h]; exact Bool.false_ne_true), if_neg h1, if_pos h2]
theorem name_none (h : isSign l (k + 1) [40] = false) (h1 : t.s ≠ trueB) (h2 : t.s ≠ falseB) (h3 : AddrC.pOK t.s.data.toList = false) : nameF l n L into t k = .error (badAt l n k) := by
 unfold nameF
 rw [if_neg (by rw [h]; exact Bool.false_ne_true), if_neg h1, if_neg h2, if_pos h3]
theorem name_cell (h : isSign l (k + 1) [40] = false) (h1 : t.s ≠ trueB) (h2 : t.s ≠ falseB) (h3 : AddrC.pOK t.s.data.toList = true) (h4 : isSign l (k + 1) [58] = false) : nameF l n L into t k = .ok (cellN (AddrC.pR t.s.data.toList) (AddrC.pC t.s.data.toList), k + 1) := by
 unfold nameF
 rw [if_neg (by rw [h]; exact Bool.false_ne_true), if_neg h1, if_neg h2, if_neg (by rw [h3]; exact (by decide)), if_neg (by rw [h4]; exact Bool.false_ne_true)]
end
structure GLoc (w : World) (b : Nat) (r c : Int) (ok : Bool) : Prop where
 at_ : w.heap[b]? = some (.cells #[.int .i64 r, .int .i64 c, .bool ok] 236 (0, 0))
theorem GLoc.lt {w : World} {b : Nat} {r c : Int} {ok : Bool} (h : GLoc w b r c ok) : b < w.heap.size := (Array.getElem?_eq_some_iff.1 h.at_).1
theorem GLoc.kept {w w' : World} {b y : Nat} {r c : Int} {ok : Bool} (h : GLoc w b r c ok) (hk : Kept y w w') (hb : b ≠ y) : GLoc w' b r c ok := ⟨(hk.block b h.lt hb).trans h.at_⟩
theorem GLoc.cells {w : World} {b : Nat} {r c : Int} {ok : Bool} (h : GLoc w b r c ok) : w.cell? ⟨b, 0, none⟩ = some (.int .i64 r) ∧ w.cell? ⟨b, 1, none⟩ = some (.int .i64 c) ∧ w.cell? ⟨b, 2, none⟩ = some (.bool ok) := by
 have h1 := h.at_
 refine ⟨?_, ?_, ?_⟩ <;> simp [World.cell?, h1]
theorem bytes_ne {s : ByteArray} {b : List UInt8} (h : s ≠ str b) : (s.toList == b) = false := beq_eq_false_iff_ne.2 fun e => h (ByteArray.ext (Array.toList_inj.1 (by rw [Lib.toList_data] at e; exact e)))
theorem rname_call {x : Nat} {lv : Value} {l : List Tok} {en nest : Int} {L : Lev} {into : Bool} {k : Nat} {t : Tok} (w : World) (h : Pre w x lv l en k nest 0 0) (hl : l.length ≤ 300) (hk : k ≤ 400)
   (hs : isSign l (k + 1) [40] = true)
   (hcl : ∀ (w : World), Pre w x lv l en k nest 0 0 → Calls prog 197 #[.pointer (some ⟨x, 0, none⟩), tokV t] w (PPost x lv l en nest (callF l en L into t k) w)) :
   Calls prog 183 #[.pointer (some ⟨x, 0, none⟩), tokV t] w (PPost x lv l en nest (nameF l en L into t k) w) := by
 have hxw := h.at_.lt
 have H0 := (h.alloc (.cells (jT t) 114)).alloc (.cells jZ 31)
 have K0 : Kept x w ((w.alloc (.cells (jT t) 114)).alloc (.cells jZ 31)) := ((Kept.refl _ _).alloc _).alloc _
 have s1 : (w.alloc (.cells (jT t) 114)).heap.size = w.heap.size + 1 := heap_one _ _
 have HX : NBox ((w.alloc (.cells (jT t) 114)).alloc (.cells jZ 31)) (w.heap.size + 1) := by have := NBox.new (w.alloc (.cells (jT t) 114)); rwa [s1] at this
 have HT0 : TLoc (w.alloc (.cells (jT t) 114)) w.heap.size t := ⟨heap_alloc_new _ _⟩
 have HT := HT0.kept ((Kept.refl x (w.alloc (.cells (jT t) 114))).alloc (.cells jZ 31)) (by omega)
 clear s1 HT0
 generalize hW : ((w.alloc (.cells (jT t) 114)).alloc (.cells jZ 31)) = W at *
 have ne1 : x ≠ w.heap.size + 1 := by omega
 have ne2 : w.heap.size + 1 ≠ x := by omega
 have nt1 : x ≠ w.heap.size := by omega
 have nt2 : w.heap.size ≠ x := by omega
 have lt0 := HX.lt
 have HC0 := hid (rcalled W H0 hl (by omega))
 generalize hO : nameF l en L into t k = O
 have HO := hid hO.symm
 clear h hO
 unfold tokV
 have E := hid (HO.out.trans (name_is_call hs))
 have HCL := hid hcl
 clear hcl
 rw [hs] at HC0
 go_enter func183, ntmps183
 go_wp2_with fail
 refine HC0.out.mono ?_; rintro e w1 ⟨rfl, n, rfl⟩
 have H1 := H0.drew n
 have K1 := K0.drew n
 have X1 := HX.kept ((Kept.refl x W).drew n) ne2
 have T1 := HT.kept ((Kept.refl x W).drew n) nt2
 generalize hV : W.drewN n = V at *
 have b1 := X1.lt
 obtain ⟨q0, q1, q2, q3⟩ := T1.cells
 have HC := hid (HCL.out V H1)
 unfold tokV at HC
 go_wp2_with fail
 refine HC.out.mono ?_; intro e w2 hp
 obtain ⟨f, A, m, c, rfl, k2, hm⟩ := post_split hp
 unfold nodeV
 have K2 := K1.trans k2
 have X2 := X1.kept k2 ne2
 obtain ⟨f0, f1, f2, f3, f4, f5, f6, f7, f8, f9, z0, z1, z2, z3, z4, z5, z6, z7, z8, z9⟩ := (X2).cells
 go_wp2_with fail
 rw [E.out]
 rcases hm with ⟨kd, k', ho, hm, hA, hP⟩ | ⟨b, k3, n2, ho, hb0, h1, h2, hP⟩
 · rw [ho]
   refine bodyPost_ret (v := .agg (jN f A m c)) (by simp [results, results183, go_sem, f0, f1, f2, f3, f4, f5, f6, f7, f8, f9]) rfl (PPost.ok (b := w.heap.size + 1) K2 hP ⟨A, c, by rw [hm]; rfl, hA.keep (Kept.refl w2.heap.size w2) (fun g hg hl => ⟨by omega, by omega⟩)⟩ (by omega) hxw ?_)
   repeat (with_reducible first | exact Kept.refl _ _ | refine Kept.setCell ?_ _ _)
 · rw [ho]
   refine bodyPost_ret (v := .agg (jN f A m c)) (by simp [results, results183, go_sem, f0, f1, f2, f3, f4, f5, f6, f7, f8, f9]) rfl (PPost.err (b := w.heap.size + 1) K2 hP (nodeV_any f _ _ _) hb0 h1 h2 (by omega) hxw ?_)
   repeat (with_reducible first | exact Kept.refl _ _ | refine Kept.setCell ?_ _ _)
theorem rname_true {x : Nat} {lv : Value} {l : List Tok} {en nest : Int} {L : Lev} {into : Bool} {k : Nat} {t : Tok} (w : World) (h : Pre w x lv l en k nest 0 0) (hl : l.length ≤ 300) (hk : k ≤ 400)
   (hs : isSign l (k + 1) [40] = false) (h1 : t.s = trueB) :
   Calls prog 183 #[.pointer (some ⟨x, 0, none⟩), tokV t] w (PPost x lv l en nest (nameF l en L into t k) w) := by
 have hxw := h.at_.lt
 have H0 := (h.alloc (.cells (jT t) 114)).alloc (.cells jZ 31)
 have K0 : Kept x w ((w.alloc (.cells (jT t) 114)).alloc (.cells jZ 31)) := ((Kept.refl _ _).alloc _).alloc _
 have s1 : (w.alloc (.cells (jT t) 114)).heap.size = w.heap.size + 1 := heap_one _ _
 have HX : NBox ((w.alloc (.cells (jT t) 114)).alloc (.cells jZ 31)) (w.heap.size + 1) := by have := NBox.new (w.alloc (.cells (jT t) 114)); rwa [s1] at this
 have HT0 : TLoc (w.alloc (.cells (jT t) 114)) w.heap.size t := ⟨heap_alloc_new _ _⟩
 have HT := HT0.kept ((Kept.refl x (w.alloc (.cells (jT t) 114))).alloc (.cells jZ 31)) (by omega)
 clear s1 HT0
 generalize hW : ((w.alloc (.cells (jT t) 114)).alloc (.cells jZ 31)) = W at *
 have ne1 : x ≠ w.heap.size + 1 := by omega
 have ne2 : w.heap.size + 1 ≠ x := by omega
 have nt1 : x ≠ w.heap.size := by omega
 have nt2 : w.heap.size ≠ x := by omega
 have lt0 := HX.lt
 have HC0 := hid (rcalled W H0 hl (by omega))
 generalize hO : nameF l en L into t k = O
 have HO := hid hO.symm
 clear h hO
 unfold tokV
 have E := hid (HO.out.trans (name_true hs h1))
 have g1 : (t.s.toList == [84, 82, 85, 69]) = true := by rw [h1, Lib.toList_data]; rfl
 clear h1
 rw [hs] at HC0
 go_enter func183, ntmps183
 go_wp2_with fail
 refine HC0.out.mono ?_; rintro e w1 ⟨rfl, n, rfl⟩
 have H1 := H0.drew n
 have K1 := K0.drew n
 have X1 := HX.kept ((Kept.refl x W).drew n) ne2
 have T1 := HT.kept ((Kept.refl x W).drew n) nt2
 generalize hV : W.drewN n = V at *
 have b1 := X1.lt
 obtain ⟨q0, q1, q2, q3⟩ := T1.cells
 have H2 := H1.setK ((k : Int) + 1)
 have K2 := K1.setCell 1 (.int .i64 ((k : Int) + 1))
 have X2 := X1.kept ((Kept.refl x V).setCell 1 (.int .i64 ((k : Int) + 1))) ne2
 have T2 := T1.kept ((Kept.refl x V).setCell 1 (.int .i64 ((k : Int) + 1))) nt2
 obtain ⟨c0, c1, c2, c3, c4, c5, y1, y3, y4, y5⟩ := (H1).at_.cells
 generalize hU : (V.setCell ⟨x, 1, none⟩ (.int .i64 ((k : Int) + 1))) = U at *
 rw [show ((k : Int) + 1) = ((k + 1 : Nat) : Int) from by omega] at H2
 obtain ⟨p0, p1, p2, p3⟩ := T2.cells
 have b2 := X2.lt
 have bv1 : w.heap.size < U.heap.size := by omega
 have bv3 : x < U.heap.size := by omega
 obtain ⟨f0, f1, f2, f3, f4, f5, f6, f7, f8, f9, z0, z1, z2, z3, z4, z5, z6, z7, z8, z9⟩ := (X2).cells
 go_wp2_with fail
 rw [E.out]
 refine bodyPost_ret (v := .agg #[.int .i64 1, .int .i64 1, .int .i64 1, .string { data := #[] }, .int .i64 0, .int .i64 0, .int .i64 0, .int .i64 0, .string { data := #[] }, .slice none 0 0]) (by simp [results, results183, go_sem, f0, f1, f2, f3, f4, f5, f6, f7, f8, f9, b2]) rfl (PPost.ok (b := w.heap.size + 1) K2 H2 (a := (constN 1 1 nob)) ⟨none, 0, rfl, Or.inl rfl⟩ (by omega) hxw ?_)
 repeat (with_reducible first | exact Kept.refl _ _ | refine Kept.alloc ?_ _ | refine Kept.setCell ?_ _ _)
theorem rname_false {x : Nat} {lv : Value} {l : List Tok} {en nest : Int} {L : Lev} {into : Bool} {k : Nat} {t : Tok} (w : World) (h : Pre w x lv l en k nest 0 0) (hl : l.length ≤ 300) (hk : k ≤ 400)
   (hs : isSign l (k + 1) [40] = false) (h1 : t.s ≠ trueB) (h2 : t.s = falseB) :
   Calls prog 183 #[.pointer (some ⟨x, 0, none⟩), tokV t] w (PPost x lv l en nest (nameF l en L into t k) w) := by
 have hxw := h.at_.lt
 have H0 := (h.alloc (.cells (jT t) 114)).alloc (.cells jZ 31)
 have K0 : Kept x w ((w.alloc (.cells (jT t) 114)).alloc (.cells jZ 31)) := ((Kept.refl _ _).alloc _).alloc _
 have s1 : (w.alloc (.cells (jT t) 114)).heap.size = w.heap.size + 1 := heap_one _ _
 have HX : NBox ((w.alloc (.cells (jT t) 114)).alloc (.cells jZ 31)) (w.heap.size + 1) := by have := NBox.new (w.alloc (.cells (jT t) 114)); rwa [s1] at this
 have HT0 : TLoc (w.alloc (.cells (jT t) 114)) w.heap.size t := ⟨heap_alloc_new _ _⟩
 have HT := HT0.kept ((Kept.refl x (w.alloc (.cells (jT t) 114))).alloc (.cells jZ 31)) (by omega)
 clear s1 HT0
 generalize hW : ((w.alloc (.cells (jT t) 114)).alloc (.cells jZ 31)) = W at *
 have ne1 : x ≠ w.heap.size + 1 := by omega
 have ne2 : w.heap.size + 1 ≠ x := by omega
 have nt1 : x ≠ w.heap.size := by omega
 have nt2 : w.heap.size ≠ x := by omega
 have lt0 := HX.lt
 have HC0 := hid (rcalled W H0 hl (by omega))
 generalize hO : nameF l en L into t k = O
 have HO := hid hO.symm
 clear h hO
 unfold tokV
 have E := hid (HO.out.trans (name_false hs h1 h2))
 have g1 : (t.s.toList == [84, 82, 85, 69]) = false := bytes_ne h1
 have g2 : (t.s.toList == [70, 65, 76, 83, 69]) = true := by rw [h2, Lib.toList_data]; rfl
 clear h1 h2
 rw [hs] at HC0
 go_enter func183, ntmps183
 go_wp2_with fail
 refine HC0.out.mono ?_; rintro e w1 ⟨rfl, n, rfl⟩
 have H1 := H0.drew n
 have K1 := K0.drew n
 have X1 := HX.kept ((Kept.refl x W).drew n) ne2
 have T1 := HT.kept ((Kept.refl x W).drew n) nt2
 generalize hV : W.drewN n = V at *
 have b1 := X1.lt
 obtain ⟨q0, q1, q2, q3⟩ := T1.cells
 have H2 := H1.setK ((k : Int) + 1)
 have K2 := K1.setCell 1 (.int .i64 ((k : Int) + 1))
 have X2 := X1.kept ((Kept.refl x V).setCell 1 (.int .i64 ((k : Int) + 1))) ne2
 have T2 := T1.kept ((Kept.refl x V).setCell 1 (.int .i64 ((k : Int) + 1))) nt2
 obtain ⟨c0, c1, c2, c3, c4, c5, y1, y3, y4, y5⟩ := (H1).at_.cells
 generalize hU : (V.setCell ⟨x, 1, none⟩ (.int .i64 ((k : Int) + 1))) = U at *
 rw [show ((k : Int) + 1) = ((k + 1 : Nat) : Int) from by omega] at H2
 obtain ⟨p0, p1, p2, p3⟩ := T2.cells
 have b2 := X2.lt
 have bv1 : w.heap.size < U.heap.size := by omega
 have bv3 : x < U.heap.size := by omega
 obtain ⟨f0, f1, f2, f3, f4, f5, f6, f7, f8, f9, z0, z1, z2, z3, z4, z5, z6, z7, z8, z9⟩ := (X2).cells
 go_wp2_with fail
 rw [E.out]
 refine bodyPost_ret (v := .agg #[.int .i64 1, .int .i64 1, .int .i64 0, .string { data := #[] }, .int .i64 0, .int .i64 0, .int .i64 0, .int .i64 0, .string { data := #[] }, .slice none 0 0]) (by simp [results, results183, go_sem, f0, f1, f2, f3, f4, f5, f6, f7, f8, f9, b2]) rfl (PPost.ok (b := w.heap.size + 1) K2 H2 (a := (constN 1 0 nob)) ⟨none, 0, rfl, Or.inl rfl⟩ (by omega) hxw ?_)
 repeat (with_reducible first | exact Kept.refl _ _ | refine Kept.alloc ?_ _ | refine Kept.setCell ?_ _ _)
theorem rname_none {x : Nat} {lv : Value} {l : List Tok} {en nest : Int} {L : Lev} {into : Bool} {k : Nat} {t : Tok} (w : World) (h : Pre w x lv l en k nest 0 0) (hl : l.length ≤ 300) (hk : k ≤ 400)
   (hts : t.s.size ≤ 1000000) (hs : isSign l (k + 1) [40] = false) (h1 : t.s ≠ trueB) (h2 : t.s ≠ falseB) (h3 : AddrC.pOK t.s.data.toList = false) :
   Calls prog 183 #[.pointer (some ⟨x, 0, none⟩), tokV t] w (PPost x lv l en nest (nameF l en L into t k) w) := by
 have hxw := h.at_.lt
 have H0 := (h.alloc (.cells (jT t) 114)).alloc (.cells jZ 31)
 have K0 : Kept x w ((w.alloc (.cells (jT t) 114)).alloc (.cells jZ 31)) := ((Kept.refl _ _).alloc _).alloc _
 have s1 : (w.alloc (.cells (jT t) 114)).heap.size = w.heap.size + 1 := heap_one _ _
 have HX : NBox ((w.alloc (.cells (jT t) 114)).alloc (.cells jZ 31)) (w.heap.size + 1) := by have := NBox.new (w.alloc (.cells (jT t) 114)); rwa [s1] at this
 have HT0 : TLoc (w.alloc (.cells (jT t) 114)) w.heap.size t := ⟨heap_alloc_new _ _⟩
 have HT := HT0.kept ((Kept.refl x (w.alloc (.cells (jT t) 114))).alloc (.cells jZ 31)) (by omega)
 clear s1 HT0
 generalize hW : ((w.alloc (.cells (jT t) 114)).alloc (.cells jZ 31)) = W at *
 have ne1 : x ≠ w.heap.size + 1 := by omega
 have ne2 : w.heap.size + 1 ≠ x := by omega
 have nt1 : x ≠ w.heap.size := by omega
 have nt2 : w.heap.size ≠ x := by omega
 have lt0 := HX.lt
 have HC0 := hid (rcalled W H0 hl (by omega))
 generalize hO : nameF l en L into t k = O
 have HO := hid hO.symm
 clear h hO
 unfold tokV
 have E := hid (HO.out.trans (name_none hs h1 h2 h3))
 have hb1 := hid h1
 have hb2 := hid h2
 have hb3 := hid h3
 clear h1 h2 h3
 rw [hs] at HC0
 go_enter func183, ntmps183
 go_wp2_with fail
 refine HC0.out.mono ?_; rintro e w1 ⟨rfl, n, rfl⟩
 have H1 := H0.drew n
 have K1 := K0.drew n
 have X1 := HX.kept ((Kept.refl x W).drew n) ne2
 have T1 := HT.kept ((Kept.refl x W).drew n) nt2
 generalize hV : W.drewN n = V at *
 have b1 := X1.lt
 obtain ⟨q0, q1, q2, q3⟩ := T1.cells
 have HPA := hid (AddrC.raparse t.s V (by omega))
 have g1 : (t.s.toList == [84, 82, 85, 69]) = false := bytes_ne hb1.out
 have g2 : (t.s.toList == [70, 65, 76, 83, 69]) = false := bytes_ne hb2.out
 go_wp2_with fail
 refine HPA.out.mono ?_; rintro e w2 ⟨rfl, k2⟩
 clear g1 g2 q0 q1 q2 q3
 have K2 := K1.trans (Kept.of (x := x) k2)
 have H2 := pre_below H1 k2
 have X2 := X1.kept (Kept.of (x := x) k2) ne2
 have T2 := T1.kept (Kept.of (x := x) k2) nt2
 have b2 := X2.lt
 have K3 := K2.alloc (.cells #[.int .i64 (AddrC.pR t.s.data.toList), .int .i64 (AddrC.pC t.s.data.toList), .bool (AddrC.pOK t.s.data.toList)] 236)
 have H3 := H2.alloc (.cells #[.int .i64 (AddrC.pR t.s.data.toList), .int .i64 (AddrC.pC t.s.data.toList), .bool (AddrC.pOK t.s.data.toList)] 236)
 have X3 := X2.kept ((Kept.refl x w2).alloc (.cells #[.int .i64 (AddrC.pR t.s.data.toList), .int .i64 (AddrC.pC t.s.data.toList), .bool (AddrC.pOK t.s.data.toList)] 236)) ne2
 have G3 : GLoc (w2.alloc (.cells #[.int .i64 (AddrC.pR t.s.data.toList), .int .i64 (AddrC.pC t.s.data.toList), .bool (AddrC.pOK t.s.data.toList)] 236)) w2.heap.size (AddrC.pR t.s.data.toList) (AddrC.pC t.s.data.toList) (AddrC.pOK t.s.data.toList) := ⟨heap_alloc_new _ _⟩
 have ng : x ≠ w2.heap.size := by omega
 have ng2 : w2.heap.size ≠ x := by omega
 have ng3 : w.heap.size + 1 ≠ w2.heap.size := by omega
 have ng4 : w2.heap.size ≠ w.heap.size + 1 := by omega
 have b3 := X3.lt
 generalize hG : (w2.alloc (.cells #[.int .i64 (AddrC.pR t.s.data.toList), .int .i64 (AddrC.pC t.s.data.toList), .bool (AddrC.pOK t.s.data.toList)] 236)) = Y at *
 obtain ⟨a0, a1, a2⟩ := G3.cells
 rw [hb3.out] at a2
 go_wp2_with fail
 refine (rbad _ H3 hl).mono ?_; rintro e w4 ⟨rfl, H4, k4⟩
 have K4 := K3.trans k4
 have X4 := X3.kept k4 ne2
 obtain ⟨f0, f1, f2, f3, f4, f5, f6, f7, f8, f9, z0, z1, z2, z3, z4, z5, z6, z7, z8, z9⟩ := (X4).cells
 go_wp2_with fail
 rw [E.out]
 refine bodyPost_ret (v := .agg jZ) (by simp [results, results183, go_sem, f0, f1, f2, f3, f4, f5, f6, f7, f8, f9]) rfl (PPost.err (b := w.heap.size + 1) K4 H4 (nodeV_any fld0 _ _ _) (by show (13 : Int) ≠ 0; decide) (Int.le_refl _) (by omega) (by omega) hxw ?_)
 repeat (with_reducible first | exact Kept.refl _ _ | refine Kept.setCell ?_ _ _)
theorem rname_cell {x : Nat} {lv : Value} {l : List Tok} {en nest : Int} {L : Lev} {into : Bool} {k : Nat} {t : Tok} (w : World) (h : Pre w x lv l en k nest 0 0) (hl : l.length ≤ 300) (hk : k ≤ 400)
   (hts : t.s.size ≤ 1000000) (hs : isSign l (k + 1) [40] = false) (h1 : t.s ≠ trueB) (h2 : t.s ≠ falseB) (h3 : AddrC.pOK t.s.data.toList = true) (h4 : isSign l (k + 1) [58] = false) :
   Calls prog 183 #[.pointer (some ⟨x, 0, none⟩), tokV t] w (PPost x lv l en nest (nameF l en L into t k) w) := by
 have hxw := h.at_.lt
 have H0 := (h.alloc (.cells (jT t) 114)).alloc (.cells jZ 31)
 have K0 : Kept x w ((w.alloc (.cells (jT t) 114)).alloc (.cells jZ 31)) := ((Kept.refl _ _).alloc _).alloc _
 have s1 : (w.alloc (.cells (jT t) 114)).heap.size = w.heap.size + 1 := heap_one _ _
 have HX : NBox ((w.alloc (.cells (jT t) 114)).alloc (.cells jZ 31)) (w.heap.size + 1) := by have := NBox.new (w.alloc (.cells (jT t) 114)); rwa [s1] at this
 have HT0 : TLoc (w.alloc (.cells (jT t) 114)) w.heap.size t := ⟨heap_alloc_new _ _⟩
 have HT := HT0.kept ((Kept.refl x (w.alloc (.cells (jT t) 114))).alloc (.cells jZ 31)) (by omega)
 clear s1 HT0
 generalize hW : ((w.alloc (.cells (jT t) 114)).alloc (.cells jZ 31)) = W at *
 have ne1 : x ≠ w.heap.size + 1 := by omega
 have ne2 : w.heap.size + 1 ≠ x := by omega
 have nt1 : x ≠ w.heap.size := by omega
 have nt2 : w.heap.size ≠ x := by omega
 have lt0 := HX.lt
 have HC0 := hid (rcalled W H0 hl (by omega))
 generalize hO : nameF l en L into t k = O
 have HO := hid hO.symm
 clear h hO
 unfold tokV
 have E := hid (HO.out.trans (name_cell hs h1 h2 h3 h4))
 have hb1 := hid h1
 have hb2 := hid h2
 have hb3 := hid h3
 have hb4 := hid h4
 have B58 : Hid (({ data := #[58] } : ByteArray) = str [58]) := hid rfl
 clear h1 h2 h3 h4
 rw [hs] at HC0
 go_enter func183, ntmps183
 go_wp2_with fail
 refine HC0.out.mono ?_; rintro e w1 ⟨rfl, n, rfl⟩
 have H1 := H0.drew n
 have K1 := K0.drew n
 have X1 := HX.kept ((Kept.refl x W).drew n) ne2
 have T1 := HT.kept ((Kept.refl x W).drew n) nt2
 generalize hV : W.drewN n = V at *
 have b1 := X1.lt
 obtain ⟨q0, q1, q2, q3⟩ := T1.cells
 have HPA := hid (AddrC.raparse t.s V (by omega))
 have g1 : (t.s.toList == [84, 82, 85, 69]) = false := bytes_ne hb1.out
 have g2 : (t.s.toList == [70, 65, 76, 83, 69]) = false := bytes_ne hb2.out
 go_wp2_with fail
 refine HPA.out.mono ?_; rintro e w2 ⟨rfl, k2⟩
 clear g1 g2 q0 q1 q2 q3
 have K2 := K1.trans (Kept.of (x := x) k2)
 have H2 := pre_below H1 k2
 have X2 := X1.kept (Kept.of (x := x) k2) ne2
 have T2 := T1.kept (Kept.of (x := x) k2) nt2
 have b2 := X2.lt
 have K3 := K2.alloc (.cells #[.int .i64 (AddrC.pR t.s.data.toList), .int .i64 (AddrC.pC t.s.data.toList), .bool (AddrC.pOK t.s.data.toList)] 236)
 have H3 := H2.alloc (.cells #[.int .i64 (AddrC.pR t.s.data.toList), .int .i64 (AddrC.pC t.s.data.toList), .bool (AddrC.pOK t.s.data.toList)] 236)
 have X3 := X2.kept ((Kept.refl x w2).alloc (.cells #[.int .i64 (AddrC.pR t.s.data.toList), .int .i64 (AddrC.pC t.s.data.toList), .bool (AddrC.pOK t.s.data.toList)] 236)) ne2
 have G3 : GLoc (w2.alloc (.cells #[.int .i64 (AddrC.pR t.s.data.toList), .int .i64 (AddrC.pC t.s.data.toList), .bool (AddrC.pOK t.s.data.toList)] 236)) w2.heap.size (AddrC.pR t.s.data.toList) (AddrC.pC t.s.data.toList) (AddrC.pOK t.s.data.toList) := ⟨heap_alloc_new _ _⟩
 have ng : x ≠ w2.heap.size := by omega
 have ng2 : w2.heap.size ≠ x := by omega
 have ng3 : w.heap.size + 1 ≠ w2.heap.size := by omega
 have ng4 : w2.heap.size ≠ w.heap.size + 1 := by omega
 have b3 := X3.lt
 generalize hG : (w2.alloc (.cells #[.int .i64 (AddrC.pR t.s.data.toList), .int .i64 (AddrC.pC t.s.data.toList), .bool (AddrC.pOK t.s.data.toList)] 236)) = Y at *
 obtain ⟨a0, a1, a2⟩ := G3.cells
 rw [hb3.out] at a2
 have H4 := H3.setK ((k : Int) + 1)
 have K4 := K3.setCell 1 (.int .i64 ((k : Int) + 1))
 have X4 := X3.kept ((Kept.refl x Y).setCell 1 (.int .i64 ((k : Int) + 1))) ne2
 have G4 := G3.kept ((Kept.refl x Y).setCell 1 (.int .i64 ((k : Int) + 1))) ng2
 obtain ⟨c0, c1, c2, c3, c4, c5, y1, y3, y4, y5⟩ := (H3).at_.cells
 generalize hU : (Y.setCell ⟨x, 1, none⟩ (.int .i64 ((k : Int) + 1))) = U at *
 go_wp2_with fail
 rw [show ((k : Int) + 1) = ((k + 1 : Nat) : Int) from by omega] at H4
 clear c0 c1 c2 c3 c4 c5 y1 y3 y4 y5
 clear a0 a1 a2
 have HS := hid (rsign [58] U H4 hl)
 rw [hb4.out] at HS
 rw [B58.out]
 refine HS.out.mono ?_; rintro e w5 ⟨rfl, n5, rfl⟩
 have H5 := H4.drew n5
 have K5 := K4.drew n5
 have X5 := X4.kept ((Kept.refl x U).drew n5) ne2
 have G5 := G4.kept ((Kept.refl x U).drew n5) ng2
 generalize hZ : U.drewN n5 = Z5 at *
 obtain ⟨a0, a1, a2⟩ := G5.cells
 obtain ⟨f0, f1, f2, f3, f4, f5, f6, f7, f8, f9, z0, z1, z2, z3, z4, z5, z6, z7, z8, z9⟩ := (X5).cells
 go_wp2_with fail
 rw [E.out]
 refine bodyPost_ret (v := .agg #[.int .i64 2, .int .i64 0, .int .i64 0, .string { data := #[] }, .int .i64 (AddrC.pR t.s.data.toList), .int .i64 (AddrC.pC t.s.data.toList), .int .i64 0, .int .i64 0, .string { data := #[] }, .slice none 0 0]) (by simp [results, results183, go_sem, f0, f1, f2, f3, f4, f5, f6, f7, f8, f9]) rfl (PPost.ok (b := w.heap.size + 1) K5 H5 (a := (cellN (AddrC.pR t.s.data.toList) (AddrC.pC t.s.data.toList))) ⟨none, 0, rfl, Or.inl rfl⟩ (by omega) hxw ?_)
 repeat (with_reducible first | exact Kept.refl _ _ | refine Kept.setCell ?_ _ _)
end Go.Proofs.YticehalcnbjccaaGreatDoor.TreeC
