/-
  Contract of tree's reference: name, a cell and : behind it.
-/
import Derived.Test.YticehalcnbjccaaGreatDoorRTreeL
import Derived.Test.YticehalcnbjccaaGreatDoorRTreeP4
import Derived.Deep.CutRange
import Derived.Deep.RegionLaw
import Derived.Deep.AppendLies
namespace Go.Proofs.YticehalcnbjccaaGreatDoor.TreeC
set_option maxRecDepth 100000
set_option maxHeartbeats 8000000
set_option linter.unusedVariables false
open Go.RowKit NumC LexC
open Cd
open Tryz
open Lib (hid)
section
variable {l : List Tok} {n : Int} {L : Lev} {into : Bool} {k : Nat} {t u : Tok}
theorem name_lacks (h : isSign l (k + 1) [40] = false) (h1 : t.s ≠ trueB) (h2 : t.s ≠ falseB) (h3 : AddrC.pOK t.s.data.toList = true) (h4 : isSign l (k + 1) [58] = true) (h5 : l.length ≤ k + 2) : nameF l n L into t k = .error (badAt l n (k + 2)) := by
 unfold nameF
 rw [if_neg (by rw [h]; exact Bool.false_ne_true), if_neg h1, if_neg h2, if_neg (by rw [h3]; decide), if_pos h4]
 simp only [List.getElem?_eq_none h5]
theorem name_second (h : isSign l (k + 1) [40] = false) (h1 : t.s ≠ trueB) (h2 : t.s ≠ falseB) (h3 : AddrC.pOK t.s.data.toList = true) (h4 : isSign l (k + 1) [58] = true) (h5 : l[k + 2]? = some u) (h6 : ¬ (u.k = 3 ∧ isSign l (k + 3) [40] = false ∧ AddrC.pOK u.s.data.toList = true)) : nameF l n L into t k = .error (badAt l n (k + 2)) := by
 unfold nameF
 rw [if_neg (by rw [h]; exact Bool.false_ne_true), if_neg h1, if_neg h2, if_neg (by rw [h3]; decide), if_pos h4]
 simp only [h5]
 rw [if_neg h6]
theorem name_range (h : isSign l (k + 1) [40] = false) (h1 : t.s ≠ trueB) (h2 : t.s ≠ falseB) (h3 : AddrC.pOK t.s.data.toList = true) (h4 : isSign l (k + 1) [58] = true) (h5 : l[k + 2]? = some u) (h6 : u.k = 3 ∧ isSign l (k + 3) [40] = false ∧ AddrC.pOK u.s.data.toList = true) : nameF l n L into t k =
   .ok (rangeN (AddrC.mA (AddrC.pR t.s.data.toList) (AddrC.pC t.s.data.toList) (AddrC.pR u.s.data.toList) (AddrC.pC u.s.data.toList))
     (AddrC.mB (AddrC.pR t.s.data.toList) (AddrC.pC t.s.data.toList) (AddrC.pR u.s.data.toList) (AddrC.pC u.s.data.toList))
     (AddrC.mC (AddrC.pR t.s.data.toList) (AddrC.pC t.s.data.toList) (AddrC.pR u.s.data.toList) (AddrC.pC u.s.data.toList))
     (AddrC.mD (AddrC.pR t.s.data.toList) (AddrC.pC t.s.data.toList) (AddrC.pR u.s.data.toList) (AddrC.pC u.s.data.toList)), k + 3) := by
 unfold nameF
 rw [if_neg (by rw [h]; exact Bool.false_ne_true), if_neg h1, if_neg h2, if_neg (by rw [h3]; decide), if_pos h4]
 simp only [h5]
 rw [if_pos h6]
end
theorem GLoc.store {w : World} {b : Nat} {a0 a1 a2 : Value} (h : w.heap[b]? = some (.cells #[a0, a1, a2] 236 (0, 0))) {r c : Int} {ok : Bool} :
   GLoc (((w.setCell ⟨b, 0, none⟩ (.int .i64 r)).setCell ⟨b, 1, none⟩ (.int .i64 c)).setCell ⟨b, 2, none⟩ (.bool ok)) b r c ok := ⟨by simp [World.setCell, Array.getElem?_modify, h]⟩
theorem got_block {U w9 : World} {o : Array Value} {T : Nat} (k9 : Below ((U.alloc (.cells o T)).drew).heap.size (U.alloc (.cells o T)).drew w9) : w9.heap[U.heap.size]? = some (.cells o T (0, 0)) :=
 (k9.block U.heap.size (Array.getElem?_eq_some_iff.1 (heap_alloc_new U (.cells o T))).1).trans (heap_alloc_new U _)
theorem got_cells {w : World} {b T : Nat} {a0 a1 a2 : Value} (h : w.heap[b]? = some (.cells #[a0, a1, a2] T (0, 0))) : w.cell? ⟨b, 0, none⟩ = some a0 ∧ w.cell? ⟨b, 1, none⟩ = some a1 ∧ w.cell? ⟨b, 2, none⟩ = some a2 ∧ w.frozen? ⟨b, 0, none⟩ = false ∧ w.frozen? ⟨b, 1, none⟩ = false ∧ w.frozen? ⟨b, 2, none⟩ = false := by
 refine ⟨?_, ?_, ?_, ?_, ?_, ?_⟩ <;> simp [World.cell?, World.frozen?, h]
structure Two (w : World) (b2 hb x : Nat) (lv : Value) (l : List Tok) (en kk nest : Int) (r c r' c' : Int) (ok ok' : Bool) (wc : World) : Prop where
 H : Pre wc x lv l en kk nest 0 0
 K : Kept x w wc
 X : NBox wc (w.heap.size + 1)
 G : GLoc wc b2 r c ok
 N : GLoc wc hb r' c' ok'
 lt : x < hb ∧ w.heap.size + 1 < hb ∧ b2 < hb
section
variable {w Z w9 : World} {b2 x : Nat} {lv : Value} {l : List Tok} {en kk nest r c r' c' : Int} {ok ok' : Bool}
theorem two_kept {hb : Nat} {wc : World} (H : Pre Z x lv l en kk nest 0 0) (K : Kept x w Z) (X : NBox Z (w.heap.size + 1)) (G : GLoc Z b2 r c ok) (hx : x < w.heap.size) (h2 : w.heap.size < b2) (KU : ∀ y, Kept y Z wc) (N : GLoc wc hb r' c' ok') (hs : Z.heap.size ≤ hb) : Two w b2 hb x lv l en kk nest r c r' c' ok ok' wc := by
 have x1 := X.lt
 have x2 := G.lt
 exact ⟨H.kept (KU (x + 1)) (by omega), K.trans (KU x), X.kept (KU x) (by omega), G.kept (KU x) (by omega), N, by omega, by omega, by omega⟩
theorem two_first (H : Pre Z x lv l en kk nest 0 0) (K : Kept x w Z) (X : NBox Z (w.heap.size + 1)) (G : GLoc Z b2 r c ok) (hx : x < w.heap.size) (h2 : w.heap.size < b2) (k9 : Below ((Z.alloc (.cells #[.int .i64 0, .int .i64 0, .bool false] 236)).drew).heap.size (Z.alloc (.cells #[.int .i64 0, .int .i64 0, .bool false] 236)).drew w9) :
   Two w b2 Z.heap.size x lv l en kk nest r c r' c' ok ok' (((w9.setCell ⟨Z.heap.size, 0, none⟩ (.int .i64 r')).setCell ⟨Z.heap.size, 1, none⟩ (.int .i64 c')).setCell ⟨Z.heap.size, 2, none⟩ (.bool ok')) :=
 two_kept H K X G hx h2 (fun y => ((((((Kept.refl y Z).alloc _).drew 1).trans (Kept.of k9)).setNew _ 0 _ (Nat.le_refl _)).setNew _ 1 _ (Nat.le_refl _)).setNew _ 2 _ (Nat.le_refl _)) (GLoc.store (got_block k9)) (Nat.le_refl _)
theorem two_last (H : Pre Z x lv l en kk nest 0 0) (K : Kept x w Z) (X : NBox Z (w.heap.size + 1)) (G : GLoc Z b2 r c ok) (hx : x < w.heap.size) (h2 : w.heap.size < b2) (k9 : Below Z.drew.heap.size Z.drew w9) :
   Two w b2 w9.heap.size x lv l en kk nest r c r' c' ok ok' (w9.alloc (.cells #[.int .i64 r', .int .i64 c', .bool ok'] 236)) :=
 two_kept H K X G hx h2 (fun y => (((Kept.refl y Z).drew 1).trans (Kept.of k9)).alloc _) ⟨heap_alloc_new _ _⟩ k9.size
end
theorem rname_lacks {x : Nat} {lv : Value} {l : List Tok} {en nest : Int} {L : Lev} {into : Bool} {k : Nat} {t : Tok} (w : World) (h : Pre w x lv l en k nest 0 0) (hl : l.length ≤ 300) (hk : k ≤ 400)
   (hts : t.s.size ≤ 1000000) (hs : isSign l (k + 1) [40] = false) (h1 : t.s ≠ trueB) (h2 : t.s ≠ falseB) (h3 : AddrC.pOK t.s.data.toList = true) (h4 : isSign l (k + 1) [58] = true) (h5 : l.length ≤ k + 2) :
   Calls prog 183 #[.pointer (some ⟨x, 0, none⟩), tokV t] w (PPost x lv l en nest (nameF l en L into t k) w) := by
 have hxw := h.at_.lt
 have H0 := (h.alloc (.cells (jT t) 114)).alloc (.cells jZ 31)
 have K0 : Kept x w ((w.alloc (.cells (jT t) 114)).alloc (.cells jZ 31)) := ((Kept.refl _ _).alloc _).alloc _
 have s1 : (w.alloc (.cells (jT t) 114)).heap.size = w.heap.size + 1 := heap_one _ _
 have HX : NBox ((w.alloc (.cells (jT t) 114)).alloc (.cells jZ 31)) (w.heap.size + 1) := by have := NBox.new (w.alloc (.cells (jT t) 114)); rwa [s1] at this
 have HT0 : TLoc (w.alloc (.cells (jT t) 114)) w.heap.size t := ⟨heap_alloc_new _ _⟩
 have HT := HT0.kept ((Kept.refl x (w.alloc (.cells (jT t) 114))).alloc (.cells jZ 31)) (by omega)
 clear s1 HT0
 generalize hW : ((w.alloc (.cells (jT t) 114)).alloc (.cells jZ 31)) = W at *
 have ne1 : x ≠ w.heap.size + 1 := by omega
 have ne2 : w.heap.size + 1 ≠ x := by omega
 have nt1 : x ≠ w.heap.size := by omega
 have nt2 : w.heap.size ≠ x := by omega
 have lt0 := HX.lt
 have HC0 := hid (rcalled W H0 hl (by omega))
 generalize hO : nameF l en L into t k = O
 have HO := hid hO.symm
 clear h hO
 unfold tokV
 have E := hid (HO.out.trans (name_lacks hs h1 h2 h3 h4 h5))
 have hb1 := hid h1
 have hb2 := hid h2
 have hb3 := hid h3
 have hb4 := hid h4
 have B58 : Hid (({ data := #[58] } : ByteArray) = str [58]) := hid rfl
 clear h1 h2 h3 h4
 rw [hs] at HC0
 go_enter func183, ntmps183
 go_wp2_with fail
 refine HC0.out.mono ?_; rintro e w1 ⟨rfl, n, rfl⟩
 have H1 := H0.drew n
 have K1 := K0.drew n
 have X1 := HX.kept ((Kept.refl x W).drew n) ne2
 have T1 := HT.kept ((Kept.refl x W).drew n) nt2
 generalize hV : W.drewN n = V at *
 have b1 := X1.lt
 obtain ⟨q0, q1, q2, q3⟩ := T1.cells
 have HPA := hid (AddrC.raparse t.s V (by omega))
 have g1 : (t.s.toList == [84, 82, 85, 69]) = false := bytes_ne hb1.out
 have g2 : (t.s.toList == [70, 65, 76, 83, 69]) = false := bytes_ne hb2.out
 go_wp2_with fail
 refine HPA.out.mono ?_; rintro e w2 ⟨rfl, k2⟩
 clear g1 g2 q0 q1 q2 q3
 have K2 := K1.trans (Kept.of (x := x) k2)
 have H2 := pre_below H1 k2
 have X2 := X1.kept (Kept.of (x := x) k2) ne2
 have T2 := T1.kept (Kept.of (x := x) k2) nt2
 have b2 := X2.lt
 have K3 := K2.alloc (.cells #[.int .i64 (AddrC.pR t.s.data.toList), .int .i64 (AddrC.pC t.s.data.toList), .bool (AddrC.pOK t.s.data.toList)] 236)
 have H3 := H2.alloc (.cells #[.int .i64 (AddrC.pR t.s.data.toList), .int .i64 (AddrC.pC t.s.data.toList), .bool (AddrC.pOK t.s.data.toList)] 236)
 have X3 := X2.kept ((Kept.refl x w2).alloc (.cells #[.int .i64 (AddrC.pR t.s.data.toList), .int .i64 (AddrC.pC t.s.data.toList), .bool (AddrC.pOK t.s.data.toList)] 236)) ne2
 have G3 : GLoc (w2.alloc (.cells #[.int .i64 (AddrC.pR t.s.data.toList), .int .i64 (AddrC.pC t.s.data.toList), .bool (AddrC.pOK t.s.data.toList)] 236)) w2.heap.size (AddrC.pR t.s.data.toList) (AddrC.pC t.s.data.toList) (AddrC.pOK t.s.data.toList) := ⟨heap_alloc_new _ _⟩
 have ng : x ≠ w2.heap.size := by omega
 have ng2 : w2.heap.size ≠ x := by omega
 have ng3 : w.heap.size + 1 ≠ w2.heap.size := by omega
 have ng4 : w2.heap.size ≠ w.heap.size + 1 := by omega
 have b3 := X3.lt
 generalize hG : (w2.alloc (.cells #[.int .i64 (AddrC.pR t.s.data.toList), .int .i64 (AddrC.pC t.s.data.toList), .bool (AddrC.pOK t.s.data.toList)] 236)) = Y at *
 obtain ⟨a0, a1, a2⟩ := G3.cells
 rw [hb3.out] at a2
 have H4 := H3.setK ((k : Int) + 1)
 have K4 := K3.setCell 1 (.int .i64 ((k : Int) + 1))
 have X4 := X3.kept ((Kept.refl x Y).setCell 1 (.int .i64 ((k : Int) + 1))) ne2
 have G4 := G3.kept ((Kept.refl x Y).setCell 1 (.int .i64 ((k : Int) + 1))) ng2
 obtain ⟨c0, c1, c2, c3, c4, c5, y1, y3, y4, y5⟩ := (H3).at_.cells
 generalize hU : (Y.setCell ⟨x, 1, none⟩ (.int .i64 ((k : Int) + 1))) = U at *
 go_wp2_with fail
 rw [show ((k : Int) + 1) = ((k + 1 : Nat) : Int) from by omega] at H4
 clear c0 c1 c2 c3 c4 c5 y1 y3 y4 y5
 clear a0 a1 a2
 have HS := hid (rsign [58] U H4 hl)
 rw [hb4.out] at HS
 rw [B58.out]
 refine HS.out.mono ?_; rintro e w5 ⟨rfl, n5, rfl⟩
 have H5 := H4.drew n5
 have K5 := K4.drew n5
 have X5 := X4.kept ((Kept.refl x U).drew n5) ne2
 have G5 := G4.kept ((Kept.refl x U).drew n5) ng2
 generalize hZ : U.drewN n5 = Z5 at *
 have H6 := H5.setK (((k + 1 : Nat) : Int) + 1)
 have K6 := K5.setCell 1 (.int .i64 (((k + 1 : Nat) : Int) + 1))
 have X6 := X5.kept ((Kept.refl x Z5).setCell 1 (.int .i64 (((k + 1 : Nat) : Int) + 1))) ne2
 have G6 := G5.kept ((Kept.refl x Z5).setCell 1 (.int .i64 (((k + 1 : Nat) : Int) + 1))) ng2
 rw [show (((k + 1 : Nat) : Int) + 1) = ((k : Int) + 1 + 1) from by omega] at H6 K6 X6 G6
 obtain ⟨c0, c1, c2, c3, c4, c5, y1, y3, y4, y5⟩ := (H5).at_.cells
 rw [show ((k + 1 : Nat) : Int) = (k : Int) + 1 from by omega] at c1
 generalize hU6 : (Z5.setCell ⟨x, 1, none⟩ (.int .i64 ((k : Int) + 1 + 1))) = U6 at *
 go_wp2_with fail
 clear c0 c1 c2 c3 c4 c5 y1 y3 y4 y5
 rw [show ((k : Int) + 1 + 1) = ((k + 2 : Nat) : Int) from by omega] at H6
 clear hU hZ hG hV hW
 obtain ⟨TA, tc, hlv, hTk⟩ := H6.tok.form
 subst hlv
 obtain ⟨c0, c1, c2, c3, c4, c5, y1, y3, y4, y5⟩ := (H6).at_.cells
 rw [show ((k + 2 : Nat) : Int) = (k : Int) + 1 + 1 from by omega] at c1
 have d1 : decide ((l.length : Int) ≤ (k : Int) + 1 + 1) = true := decide_eq_true (by omega)
 go_quiet (fail)
 go_wp2_with fail
 clear c0 c1 c2 c3 c4 c5 y1 y3 y4 y5
 refine (rbad _ (H6.drew nq) hl).mono ?_; rintro e w8 ⟨rfl, H8, k8⟩
 have K8 := (K6.drew nq).trans k8
 have X8 := (X6.kept ((Kept.refl x U6).drew nq) ne2).kept k8 ne2
 obtain ⟨f0, f1, f2, f3, f4, f5, f6, f7, f8, f9, z0, z1, z2, z3, z4, z5, z6, z7, z8, z9⟩ := (X8).cells
 go_wp2_with fail
 rw [E.out]
 refine bodyPost_ret (v := .agg jZ) (by simp [results, results183, go_sem, f0, f1, f2, f3, f4, f5, f6, f7, f8, f9]) rfl (PPost.err (b := w.heap.size + 1) K8 H8 (nodeV_any fld0 _ _ _) (by show (13 : Int) ≠ 0; decide) (Int.le_refl _) (by omega) (by omega) hxw ?_)
 repeat (with_reducible first | exact Kept.refl _ _ | refine Kept.setCell ?_ _ _)
theorem rname_kind {x : Nat} {lv : Value} {l : List Tok} {en nest : Int} {L : Lev} {into : Bool} {k : Nat} {t : Tok} (w : World) (h : Pre w x lv l en k nest 0 0) (hl : l.length ≤ 300) (hk : k ≤ 400)
   {u : Tok} (hts : t.s.size ≤ 1000000) (hs : isSign l (k + 1) [40] = false) (h1 : t.s ≠ trueB) (h2 : t.s ≠ falseB) (h3 : AddrC.pOK t.s.data.toList = true) (h4 : isSign l (k + 1) [58] = true) (h5 : l[k + 2]? = some u) (h6 : u.k ≠ 3) :
   Calls prog 183 #[.pointer (some ⟨x, 0, none⟩), tokV t] w (PPost x lv l en nest (nameF l en L into t k) w) := by
 have hxw := h.at_.lt
 have H0 := (h.alloc (.cells (jT t) 114)).alloc (.cells jZ 31)
 have K0 : Kept x w ((w.alloc (.cells (jT t) 114)).alloc (.cells jZ 31)) := ((Kept.refl _ _).alloc _).alloc _
 have s1 : (w.alloc (.cells (jT t) 114)).heap.size = w.heap.size + 1 := heap_one _ _
 have HX : NBox ((w.alloc (.cells (jT t) 114)).alloc (.cells jZ 31)) (w.heap.size + 1) := by have := NBox.new (w.alloc (.cells (jT t) 114)); rwa [s1] at this
 have HT0 : TLoc (w.alloc (.cells (jT t) 114)) w.heap.size t := ⟨heap_alloc_new _ _⟩
 have HT := HT0.kept ((Kept.refl x (w.alloc (.cells (jT t) 114))).alloc (.cells jZ 31)) (by omega)
 clear s1 HT0
 generalize hW : ((w.alloc (.cells (jT t) 114)).alloc (.cells jZ 31)) = W at *
 have ne1 : x ≠ w.heap.size + 1 := by omega
 have ne2 : w.heap.size + 1 ≠ x := by omega
 have nt1 : x ≠ w.heap.size := by omega
 have nt2 : w.heap.size ≠ x := by omega
 have lt0 := HX.lt
 have HC0 := hid (rcalled W H0 hl (by omega))
 generalize hO : nameF l en L into t k = O
 have HO := hid hO.symm
 clear h hO
 unfold tokV
 have p3 : (u.k == 3) = false := beq_eq_false_iff_ne.2 h6
 have p4 : (u.k != 3) = true := by simp [bne, p3]
 have E := hid (HO.out.trans (name_second hs h1 h2 h3 h4 h5 (fun e => h6 e.1)))
 have hb1 := hid h1
 have hb2 := hid h2
 have hb3 := hid h3
 have hb4 := hid h4
 have B58 : Hid (({ data := #[58] } : ByteArray) = str [58]) := hid rfl
 clear h1 h2 h3 h4
 rw [hs] at HC0
 go_enter func183, ntmps183
 go_wp2_with fail
 refine HC0.out.mono ?_; rintro e w1 ⟨rfl, n, rfl⟩
 have H1 := H0.drew n
 have K1 := K0.drew n
 have X1 := HX.kept ((Kept.refl x W).drew n) ne2
 have T1 := HT.kept ((Kept.refl x W).drew n) nt2
 generalize hV : W.drewN n = V at *
 have b1 := X1.lt
 obtain ⟨q0, q1, q2, q3⟩ := T1.cells
 have HPA := hid (AddrC.raparse t.s V (by omega))
 have g1 : (t.s.toList == [84, 82, 85, 69]) = false := bytes_ne hb1.out
 have g2 : (t.s.toList == [70, 65, 76, 83, 69]) = false := bytes_ne hb2.out
 go_wp2_with fail
 refine HPA.out.mono ?_; rintro e w2 ⟨rfl, k2⟩
 clear g1 g2 q0 q1 q2 q3
 have K2 := K1.trans (Kept.of (x := x) k2)
 have H2 := pre_below H1 k2
 have X2 := X1.kept (Kept.of (x := x) k2) ne2
 have T2 := T1.kept (Kept.of (x := x) k2) nt2
 have b2 := X2.lt
 have K3 := K2.alloc (.cells #[.int .i64 (AddrC.pR t.s.data.toList), .int .i64 (AddrC.pC t.s.data.toList), .bool (AddrC.pOK t.s.data.toList)] 236)
 have H3 := H2.alloc (.cells #[.int .i64 (AddrC.pR t.s.data.toList), .int .i64 (AddrC.pC t.s.data.toList), .bool (AddrC.pOK t.s.data.toList)] 236)
 have X3 := X2.kept ((Kept.refl x w2).alloc (.cells #[.int .i64 (AddrC.pR t.s.data.toList), .int .i64 (AddrC.pC t.s.data.toList), .bool (AddrC.pOK t.s.data.toList)] 236)) ne2
 have G3 : GLoc (w2.alloc (.cells #[.int .i64 (AddrC.pR t.s.data.toList), .int .i64 (AddrC.pC t.s.data.toList), .bool (AddrC.pOK t.s.data.toList)] 236)) w2.heap.size (AddrC.pR t.s.data.toList) (AddrC.pC t.s.data.toList) (AddrC.pOK t.s.data.toList) := ⟨heap_alloc_new _ _⟩
 have ng : x ≠ w2.heap.size := by omega
 have ng2 : w2.heap.size ≠ x := by omega
 have ng3 : w.heap.size + 1 ≠ w2.heap.size := by omega
 have ng4 : w2.heap.size ≠ w.heap.size + 1 := by omega
 have b3 := X3.lt
 generalize hG : (w2.alloc (.cells #[.int .i64 (AddrC.pR t.s.data.toList), .int .i64 (AddrC.pC t.s.data.toList), .bool (AddrC.pOK t.s.data.toList)] 236)) = Y at *
 obtain ⟨a0, a1, a2⟩ := G3.cells
 rw [hb3.out] at a2
 have H4 := H3.setK ((k : Int) + 1)
 have K4 := K3.setCell 1 (.int .i64 ((k : Int) + 1))
 have X4 := X3.kept ((Kept.refl x Y).setCell 1 (.int .i64 ((k : Int) + 1))) ne2
 have G4 := G3.kept ((Kept.refl x Y).setCell 1 (.int .i64 ((k : Int) + 1))) ng2
 obtain ⟨c0, c1, c2, c3, c4, c5, y1, y3, y4, y5⟩ := (H3).at_.cells
 generalize hU : (Y.setCell ⟨x, 1, none⟩ (.int .i64 ((k : Int) + 1))) = U at *
 go_wp2_with fail
 rw [show ((k : Int) + 1) = ((k + 1 : Nat) : Int) from by omega] at H4
 clear c0 c1 c2 c3 c4 c5 y1 y3 y4 y5
 clear a0 a1 a2
 have HS := hid (rsign [58] U H4 hl)
 rw [hb4.out] at HS
 rw [B58.out]
 refine HS.out.mono ?_; rintro e w5 ⟨rfl, n5, rfl⟩
 have H5 := H4.drew n5
 have K5 := K4.drew n5
 have X5 := X4.kept ((Kept.refl x U).drew n5) ne2
 have G5 := G4.kept ((Kept.refl x U).drew n5) ng2
 generalize hZ : U.drewN n5 = Z5 at *
 have H6 := H5.setK (((k + 1 : Nat) : Int) + 1)
 have K6 := K5.setCell 1 (.int .i64 (((k + 1 : Nat) : Int) + 1))
 have X6 := X5.kept ((Kept.refl x Z5).setCell 1 (.int .i64 (((k + 1 : Nat) : Int) + 1))) ne2
 have G6 := G5.kept ((Kept.refl x Z5).setCell 1 (.int .i64 (((k + 1 : Nat) : Int) + 1))) ng2
 rw [show (((k + 1 : Nat) : Int) + 1) = ((k : Int) + 1 + 1) from by omega] at H6 K6 X6 G6
 obtain ⟨c0, c1, c2, c3, c4, c5, y1, y3, y4, y5⟩ := (H5).at_.cells
 rw [show ((k + 1 : Nat) : Int) = (k : Int) + 1 from by omega] at c1
 generalize hU6 : (Z5.setCell ⟨x, 1, none⟩ (.int .i64 ((k : Int) + 1 + 1))) = U6 at *
 go_wp2_with fail
 clear c0 c1 c2 c3 c4 c5 y1 y3 y4 y5
 rw [show ((k : Int) + 1 + 1) = ((k + 2 : Nat) : Int) from by omega] at H6
 clear hU hZ hG hV hW
 obtain ⟨TA, tc, hlv, hTk⟩ := H6.tok.form
 subst hlv
 obtain ⟨c0, c1, c2, c3, c4, c5, y1, y3, y4, y5⟩ := (H6).at_.cells
 rw [show ((k + 2 : Nat) : Int) = (k : Int) + 1 + 1 from by omega] at c1
 have hlt2 : k + 1 + 1 < l.length := (List.getElem?_eq_some_iff.1 h5).1
 have hte : l[k + 1 + 1] = u := (List.getElem?_eq_some_iff.1 h5).2
 obtain ⟨tg, rfl, hgx, t0, t1, t2, t3⟩ := hTk (k + 1 + 1) hlt2
 rw [hte] at t0 t1 t2 t3
 have d1 : decide ((l.length : Int) ≤ (k : Int) + 1 + 1) = false := decide_eq_false (by omega)
 clear hTk hte
 clear h6
 go_quiet (fail)
 go_wp2_with fail
 clear c0 c1 c2 c3 c4 c5 y1 y3 y4 y5
 clear t0 t1 t2 t3
 refine (rbad _ (H6.drew nq) hl).mono ?_; rintro e w8 ⟨rfl, H8, k8⟩
 have K8 := (K6.drew nq).trans k8
 have X8 := (X6.kept ((Kept.refl x U6).drew nq) ne2).kept k8 ne2
 obtain ⟨f0, f1, f2, f3, f4, f5, f6, f7, f8, f9, z0, z1, z2, z3, z4, z5, z6, z7, z8, z9⟩ := (X8).cells
 go_wp2_with fail
 rw [E.out]
 refine bodyPost_ret (v := .agg jZ) (by simp [results, results183, go_sem, f0, f1, f2, f3, f4, f5, f6, f7, f8, f9]) rfl (PPost.err (b := w.heap.size + 1) K8 H8 (nodeV_any fld0 _ _ _) (by show (13 : Int) ≠ 0; decide) (Int.le_refl _) (by omega) (by omega) hxw ?_)
 repeat (with_reducible first | exact Kept.refl _ _ | refine Kept.setCell ?_ _ _)
theorem rname_called {x : Nat} {lv : Value} {l : List Tok} {en nest : Int} {L : Lev} {into : Bool} {k : Nat} {t : Tok} (w : World) (h : Pre w x lv l en k nest 0 0) (hl : l.length ≤ 300) (hk : k ≤ 400)
   {u : Tok} (hts : t.s.size ≤ 1000000) (hs : isSign l (k + 1) [40] = false) (h1 : t.s ≠ trueB) (h2 : t.s ≠ falseB) (h3 : AddrC.pOK t.s.data.toList = true) (h4 : isSign l (k + 1) [58] = true) (h5 : l[k + 2]? = some u) (hu3 : u.k = 3) (h6 : isSign l (k + 3) [40] = true) :
   Calls prog 183 #[.pointer (some ⟨x, 0, none⟩), tokV t] w (PPost x lv l en nest (nameF l en L into t k) w) := by
 have hxw := h.at_.lt
 have H0 := (h.alloc (.cells (jT t) 114)).alloc (.cells jZ 31)
 have K0 : Kept x w ((w.alloc (.cells (jT t) 114)).alloc (.cells jZ 31)) := ((Kept.refl _ _).alloc _).alloc _
 have s1 : (w.alloc (.cells (jT t) 114)).heap.size = w.heap.size + 1 := heap_one _ _
 have HX : NBox ((w.alloc (.cells (jT t) 114)).alloc (.cells jZ 31)) (w.heap.size + 1) := by have := NBox.new (w.alloc (.cells (jT t) 114)); rwa [s1] at this
 have HT0 : TLoc (w.alloc (.cells (jT t) 114)) w.heap.size t := ⟨heap_alloc_new _ _⟩
 have HT := HT0.kept ((Kept.refl x (w.alloc (.cells (jT t) 114))).alloc (.cells jZ 31)) (by omega)
 clear s1 HT0
 generalize hW : ((w.alloc (.cells (jT t) 114)).alloc (.cells jZ 31)) = W at *
 have ne1 : x ≠ w.heap.size + 1 := by omega
 have ne2 : w.heap.size + 1 ≠ x := by omega
 have nt1 : x ≠ w.heap.size := by omega
 have nt2 : w.heap.size ≠ x := by omega
 have lt0 := HX.lt
 have HC0 := hid (rcalled W H0 hl (by omega))
 generalize hO : nameF l en L into t k = O
 have HO := hid hO.symm
 clear h hO
 unfold tokV
 have p3 : (u.k == 3) = true := by rw [hu3]; rfl
 have p4 : (u.k != 3) = false := by simp [bne, p3]
 have E := hid (HO.out.trans (name_second hs h1 h2 h3 h4 h5 (fun e => by rw [h6] at e; cases e.2.1)))
 have hb1 := hid h1
 have hb2 := hid h2
 have hb3 := hid h3
 have hb4 := hid h4
 have B58 : Hid (({ data := #[58] } : ByteArray) = str [58]) := hid rfl
 clear h1 h2 h3 h4
 rw [hs] at HC0
 go_enter func183, ntmps183
 go_wp2_with fail
 refine HC0.out.mono ?_; rintro e w1 ⟨rfl, n, rfl⟩
 have H1 := H0.drew n
 have K1 := K0.drew n
 have X1 := HX.kept ((Kept.refl x W).drew n) ne2
 have T1 := HT.kept ((Kept.refl x W).drew n) nt2
 generalize hV : W.drewN n = V at *
 have b1 := X1.lt
 obtain ⟨q0, q1, q2, q3⟩ := T1.cells
 have HPA := hid (AddrC.raparse t.s V (by omega))
 have g1 : (t.s.toList == [84, 82, 85, 69]) = false := bytes_ne hb1.out
 have g2 : (t.s.toList == [70, 65, 76, 83, 69]) = false := bytes_ne hb2.out
 go_wp2_with fail
 refine HPA.out.mono ?_; rintro e w2 ⟨rfl, k2⟩
 clear g1 g2 q0 q1 q2 q3
 have K2 := K1.trans (Kept.of (x := x) k2)
 have H2 := pre_below H1 k2
 have X2 := X1.kept (Kept.of (x := x) k2) ne2
 have T2 := T1.kept (Kept.of (x := x) k2) nt2
 have b2 := X2.lt
 have K3 := K2.alloc (.cells #[.int .i64 (AddrC.pR t.s.data.toList), .int .i64 (AddrC.pC t.s.data.toList), .bool (AddrC.pOK t.s.data.toList)] 236)
 have H3 := H2.alloc (.cells #[.int .i64 (AddrC.pR t.s.data.toList), .int .i64 (AddrC.pC t.s.data.toList), .bool (AddrC.pOK t.s.data.toList)] 236)
 have X3 := X2.kept ((Kept.refl x w2).alloc (.cells #[.int .i64 (AddrC.pR t.s.data.toList), .int .i64 (AddrC.pC t.s.data.toList), .bool (AddrC.pOK t.s.data.toList)] 236)) ne2
 have G3 : GLoc (w2.alloc (.cells #[.int .i64 (AddrC.pR t.s.data.toList), .int .i64 (AddrC.pC t.s.data.toList), .bool (AddrC.pOK t.s.data.toList)] 236)) w2.heap.size (AddrC.pR t.s.data.toList) (AddrC.pC t.s.data.toList) (AddrC.pOK t.s.data.toList) := ⟨heap_alloc_new _ _⟩
 have ng : x ≠ w2.heap.size := by omega
 have ng2 : w2.heap.size ≠ x := by omega
 have ng3 : w.heap.size + 1 ≠ w2.heap.size := by omega
 have ng4 : w2.heap.size ≠ w.heap.size + 1 := by omega
 have b3 := X3.lt
 generalize hG : (w2.alloc (.cells #[.int .i64 (AddrC.pR t.s.data.toList), .int .i64 (AddrC.pC t.s.data.toList), .bool (AddrC.pOK t.s.data.toList)] 236)) = Y at *
 obtain ⟨a0, a1, a2⟩ := G3.cells
 rw [hb3.out] at a2
 have H4 := H3.setK ((k : Int) + 1)
 have K4 := K3.setCell 1 (.int .i64 ((k : Int) + 1))
 have X4 := X3.kept ((Kept.refl x Y).setCell 1 (.int .i64 ((k : Int) + 1))) ne2
 have G4 := G3.kept ((Kept.refl x Y).setCell 1 (.int .i64 ((k : Int) + 1))) ng2
 obtain ⟨c0, c1, c2, c3, c4, c5, y1, y3, y4, y5⟩ := (H3).at_.cells
 generalize hU : (Y.setCell ⟨x, 1, none⟩ (.int .i64 ((k : Int) + 1))) = U at *
 go_wp2_with fail
 rw [show ((k : Int) + 1) = ((k + 1 : Nat) : Int) from by omega] at H4
 clear c0 c1 c2 c3 c4 c5 y1 y3 y4 y5
 clear a0 a1 a2
 have HS := hid (rsign [58] U H4 hl)
 rw [hb4.out] at HS
 rw [B58.out]
 refine HS.out.mono ?_; rintro e w5 ⟨rfl, n5, rfl⟩
 have H5 := H4.drew n5
 have K5 := K4.drew n5
 have X5 := X4.kept ((Kept.refl x U).drew n5) ne2
 have G5 := G4.kept ((Kept.refl x U).drew n5) ng2
 generalize hZ : U.drewN n5 = Z5 at *
 have H6 := H5.setK (((k + 1 : Nat) : Int) + 1)
 have K6 := K5.setCell 1 (.int .i64 (((k + 1 : Nat) : Int) + 1))
 have X6 := X5.kept ((Kept.refl x Z5).setCell 1 (.int .i64 (((k + 1 : Nat) : Int) + 1))) ne2
 have G6 := G5.kept ((Kept.refl x Z5).setCell 1 (.int .i64 (((k + 1 : Nat) : Int) + 1))) ng2
 rw [show (((k + 1 : Nat) : Int) + 1) = ((k : Int) + 1 + 1) from by omega] at H6 K6 X6 G6
 obtain ⟨c0, c1, c2, c3, c4, c5, y1, y3, y4, y5⟩ := (H5).at_.cells
 rw [show ((k + 1 : Nat) : Int) = (k : Int) + 1 from by omega] at c1
 generalize hU6 : (Z5.setCell ⟨x, 1, none⟩ (.int .i64 ((k : Int) + 1 + 1))) = U6 at *
 go_wp2_with fail
 clear c0 c1 c2 c3 c4 c5 y1 y3 y4 y5
 rw [show ((k : Int) + 1 + 1) = ((k + 2 : Nat) : Int) from by omega] at H6
 clear hU hZ hG hV hW
 obtain ⟨TA, tc, hlv, hTk⟩ := H6.tok.form
 subst hlv
 obtain ⟨c0, c1, c2, c3, c4, c5, y1, y3, y4, y5⟩ := (H6).at_.cells
 rw [show ((k + 2 : Nat) : Int) = (k : Int) + 1 + 1 from by omega] at c1
 have hlt2 : k + 1 + 1 < l.length := (List.getElem?_eq_some_iff.1 h5).1
 have hte : l[k + 1 + 1] = u := (List.getElem?_eq_some_iff.1 h5).2
 obtain ⟨tg, rfl, hgx, t0, t1, t2, t3⟩ := hTk (k + 1 + 1) hlt2
 rw [hte] at t0 t1 t2 t3
 have d1 : decide ((l.length : Int) ≤ (k : Int) + 1 + 1) = false := decide_eq_false (by omega)
 clear hTk hte
 have HCQ : Hid (∀ q, Calls prog 196 #[.pointer (some ⟨x, 0, none⟩)] (U6.drewN q) fun e w' => e = .returned (.bool true) ∧ ∃ m, w' = (U6.drewN q).drewN m) := hid (by
   intro q
   have h8 := rcalled _ (H6.drew q) hl (by omega)
   rw [show k + 2 + 1 = k + 3 from rfl, h6] at h8
   exact h8)
 clear h6 hu3 h5
 go_quiet ((go_at_call 196; exact Calls.quiet_of (HCQ.out _)))
 go_wp2_with fail
 clear c0 c1 c2 c3 c4 c5 y1 y3 y4 y5
 clear t0 t1 t2 t3
 refine (rbad _ (H6.drew nq) hl).mono ?_; rintro e w8 ⟨rfl, H8, k8⟩
 have K8 := (K6.drew nq).trans k8
 have X8 := (X6.kept ((Kept.refl x U6).drew nq) ne2).kept k8 ne2
 obtain ⟨f0, f1, f2, f3, f4, f5, f6, f7, f8, f9, z0, z1, z2, z3, z4, z5, z6, z7, z8, z9⟩ := (X8).cells
 go_wp2_with fail
 rw [E.out]
 refine bodyPost_ret (v := .agg jZ) (by simp [results, results183, go_sem, f0, f1, f2, f3, f4, f5, f6, f7, f8, f9]) rfl (PPost.err (b := w.heap.size + 1) K8 H8 (nodeV_any fld0 _ _ _) (by show (13 : Int) ≠ 0; decide) (Int.le_refl _) (by omega) (by omega) hxw ?_)
 repeat (with_reducible first | exact Kept.refl _ _ | refine Kept.setCell ?_ _ _)
theorem rname_second {x : Nat} {lv : Value} {l : List Tok} {en nest : Int} {L : Lev} {into : Bool} {k : Nat} {t : Tok} (w : World) (h : Pre w x lv l en k nest 0 0) (hl : l.length ≤ 300) (hk : k ≤ 400)
   {u : Tok} (hus : u.s.size ≤ 1000000) (hts : t.s.size ≤ 1000000) (hs : isSign l (k + 1) [40] = false) (h1 : t.s ≠ trueB) (h2 : t.s ≠ falseB) (h3 : AddrC.pOK t.s.data.toList = true) (h4 : isSign l (k + 1) [58] = true) (h5 : l[k + 2]? = some u) (hu3 : u.k = 3) (h6 : isSign l (k + 3) [40] = false) (h7 : AddrC.pOK u.s.data.toList = false) :
   Calls prog 183 #[.pointer (some ⟨x, 0, none⟩), tokV t] w (PPost x lv l en nest (nameF l en L into t k) w) := by
 have hxw := h.at_.lt
 have H0 := (h.alloc (.cells (jT t) 114)).alloc (.cells jZ 31)
 have K0 : Kept x w ((w.alloc (.cells (jT t) 114)).alloc (.cells jZ 31)) := ((Kept.refl _ _).alloc _).alloc _
 have s1 : (w.alloc (.cells (jT t) 114)).heap.size = w.heap.size + 1 := heap_one _ _
 have HX : NBox ((w.alloc (.cells (jT t) 114)).alloc (.cells jZ 31)) (w.heap.size + 1) := by have := NBox.new (w.alloc (.cells (jT t) 114)); rwa [s1] at this
 have HT0 : TLoc (w.alloc (.cells (jT t) 114)) w.heap.size t := ⟨heap_alloc_new _ _⟩
 have HT := HT0.kept ((Kept.refl x (w.alloc (.cells (jT t) 114))).alloc (.cells jZ 31)) (by omega)
 clear s1 HT0
 generalize hW : ((w.alloc (.cells (jT t) 114)).alloc (.cells jZ 31)) = W at *
 have ne1 : x ≠ w.heap.size + 1 := by omega
 have ne2 : w.heap.size + 1 ≠ x := by omega
 have nt1 : x ≠ w.heap.size := by omega
 have nt2 : w.heap.size ≠ x := by omega
 have lt0 := HX.lt
 have HC0 := hid (rcalled W H0 hl (by omega))
 generalize hO : nameF l en L into t k = O
 have HO := hid hO.symm
 clear h hO
 unfold tokV
 have p3 : (u.k == 3) = true := by rw [hu3]; rfl
 have p4 : (u.k != 3) = false := by simp [bne, p3]
 have E := hid (HO.out.trans (name_second hs h1 h2 h3 h4 h5 (fun e => by rw [h7] at e; cases e.2.2)))
 have hb1 := hid h1
 have hb2 := hid h2
 have hb3 := hid h3
 have hb4 := hid h4
 have B58 : Hid (({ data := #[58] } : ByteArray) = str [58]) := hid rfl
 clear h1 h2 h3 h4
 rw [hs] at HC0
 go_enter func183, ntmps183
 go_wp2_with fail
 refine HC0.out.mono ?_; rintro e w1 ⟨rfl, n, rfl⟩
 have H1 := H0.drew n
 have K1 := K0.drew n
 have X1 := HX.kept ((Kept.refl x W).drew n) ne2
 have T1 := HT.kept ((Kept.refl x W).drew n) nt2
 generalize hV : W.drewN n = V at *
 have b1 := X1.lt
 obtain ⟨q0, q1, q2, q3⟩ := T1.cells
 have HPA := hid (AddrC.raparse t.s V (by omega))
 have g1 : (t.s.toList == [84, 82, 85, 69]) = false := bytes_ne hb1.out
 have g2 : (t.s.toList == [70, 65, 76, 83, 69]) = false := bytes_ne hb2.out
 go_wp2_with fail
 refine HPA.out.mono ?_; rintro e w2 ⟨rfl, k2⟩
 clear g1 g2 q0 q1 q2 q3
 have K2 := K1.trans (Kept.of (x := x) k2)
 have H2 := pre_below H1 k2
 have X2 := X1.kept (Kept.of (x := x) k2) ne2
 have T2 := T1.kept (Kept.of (x := x) k2) nt2
 have b2 := X2.lt
 have K3 := K2.alloc (.cells #[.int .i64 (AddrC.pR t.s.data.toList), .int .i64 (AddrC.pC t.s.data.toList), .bool (AddrC.pOK t.s.data.toList)] 236)
 have H3 := H2.alloc (.cells #[.int .i64 (AddrC.pR t.s.data.toList), .int .i64 (AddrC.pC t.s.data.toList), .bool (AddrC.pOK t.s.data.toList)] 236)
 have X3 := X2.kept ((Kept.refl x w2).alloc (.cells #[.int .i64 (AddrC.pR t.s.data.toList), .int .i64 (AddrC.pC t.s.data.toList), .bool (AddrC.pOK t.s.data.toList)] 236)) ne2
 have G3 : GLoc (w2.alloc (.cells #[.int .i64 (AddrC.pR t.s.data.toList), .int .i64 (AddrC.pC t.s.data.toList), .bool (AddrC.pOK t.s.data.toList)] 236)) w2.heap.size (AddrC.pR t.s.data.toList) (AddrC.pC t.s.data.toList) (AddrC.pOK t.s.data.toList) := ⟨heap_alloc_new _ _⟩
 have ng : x ≠ w2.heap.size := by omega
 have ng2 : w2.heap.size ≠ x := by omega
 have ng3 : w.heap.size + 1 ≠ w2.heap.size := by omega
 have ng4 : w2.heap.size ≠ w.heap.size + 1 := by omega
 have b3 := X3.lt
 generalize hG : (w2.alloc (.cells #[.int .i64 (AddrC.pR t.s.data.toList), .int .i64 (AddrC.pC t.s.data.toList), .bool (AddrC.pOK t.s.data.toList)] 236)) = Y at *
 obtain ⟨a0, a1, a2⟩ := G3.cells
 rw [hb3.out] at a2
 have H4 := H3.setK ((k : Int) + 1)
 have K4 := K3.setCell 1 (.int .i64 ((k : Int) + 1))
 have X4 := X3.kept ((Kept.refl x Y).setCell 1 (.int .i64 ((k : Int) + 1))) ne2
 have G4 := G3.kept ((Kept.refl x Y).setCell 1 (.int .i64 ((k : Int) + 1))) ng2
 obtain ⟨c0, c1, c2, c3, c4, c5, y1, y3, y4, y5⟩ := (H3).at_.cells
 generalize hU : (Y.setCell ⟨x, 1, none⟩ (.int .i64 ((k : Int) + 1))) = U at *
 go_wp2_with fail
 rw [show ((k : Int) + 1) = ((k + 1 : Nat) : Int) from by omega] at H4
 clear c0 c1 c2 c3 c4 c5 y1 y3 y4 y5
 clear a0 a1 a2
 have HS := hid (rsign [58] U H4 hl)
 rw [hb4.out] at HS
 rw [B58.out]
 refine HS.out.mono ?_; rintro e w5 ⟨rfl, n5, rfl⟩
 have H5 := H4.drew n5
 have K5 := K4.drew n5
 have X5 := X4.kept ((Kept.refl x U).drew n5) ne2
 have G5 := G4.kept ((Kept.refl x U).drew n5) ng2
 generalize hZ : U.drewN n5 = Z5 at *
 have H6 := H5.setK (((k + 1 : Nat) : Int) + 1)
 have K6 := K5.setCell 1 (.int .i64 (((k + 1 : Nat) : Int) + 1))
 have X6 := X5.kept ((Kept.refl x Z5).setCell 1 (.int .i64 (((k + 1 : Nat) : Int) + 1))) ne2
 have G6 := G5.kept ((Kept.refl x Z5).setCell 1 (.int .i64 (((k + 1 : Nat) : Int) + 1))) ng2
 rw [show (((k + 1 : Nat) : Int) + 1) = ((k : Int) + 1 + 1) from by omega] at H6 K6 X6 G6
 obtain ⟨c0, c1, c2, c3, c4, c5, y1, y3, y4, y5⟩ := (H5).at_.cells
 rw [show ((k + 1 : Nat) : Int) = (k : Int) + 1 from by omega] at c1
 generalize hU6 : (Z5.setCell ⟨x, 1, none⟩ (.int .i64 ((k : Int) + 1 + 1))) = U6 at *
 go_wp2_with fail
 clear c0 c1 c2 c3 c4 c5 y1 y3 y4 y5
 rw [show ((k : Int) + 1 + 1) = ((k + 2 : Nat) : Int) from by omega] at H6
 clear hU hZ hG hV hW
 obtain ⟨TA, tc, hlv, hTk⟩ := H6.tok.form
 subst hlv
 obtain ⟨c0, c1, c2, c3, c4, c5, y1, y3, y4, y5⟩ := (H6).at_.cells
 rw [show ((k + 2 : Nat) : Int) = (k : Int) + 1 + 1 from by omega] at c1
 have hlt2 : k + 1 + 1 < l.length := (List.getElem?_eq_some_iff.1 h5).1
 have hte : l[k + 1 + 1] = u := (List.getElem?_eq_some_iff.1 h5).2
 obtain ⟨tg, rfl, hgx, t0, t1, t2, t3⟩ := hTk (k + 1 + 1) hlt2
 rw [hte] at t0 t1 t2 t3
 have d1 : decide ((l.length : Int) ≤ (k : Int) + 1 + 1) = false := decide_eq_false (by omega)
 clear hTk hte
 have HCQ : Hid (∀ q, Calls prog 196 #[.pointer (some ⟨x, 0, none⟩)] (U6.drewN q) fun e w' => e = .returned (.bool false) ∧ ∃ m, w' = (U6.drewN q).drewN m) := hid (by
   intro q
   have h8 := rcalled _ (H6.drew q) hl (by omega)
   rw [show k + 2 + 1 = k + 3 from rfl, h6] at h8
   exact h8)
 clear h6 hu3 h5
 go_quiet ((go_at_call 196; exact Calls.quiet_of (HCQ.out _)))
 clear c0 c1 c2 c3 c4 c5 y1 y3 y4 y5
 have H7 := H6.drew nq
 have K7 := K6.drew nq
 have X7 := X6.kept ((Kept.refl x U6).drew nq) ne2
 have G7 := G6.kept ((Kept.refl x U6).drew nq) ng2
 obtain ⟨c0, c1, c2, c3, c4, c5, y1, y3, y4, y5⟩ := (H7).at_.cells
 rw [show ((k + 2 : Nat) : Int) = (k : Int) + 1 + 1 from by omega] at c1
 have tt2 : (U6.drewN nq).cell? ⟨tg, (k + 1 + 1) * 4 + 2, none⟩ = some (.string u.s) := t2
 clear t0 t1 t2 t3
 generalize hZ6 : U6.drewN nq = Z6 at *
 clear hZ6 hU6
 have HPB : ∀ W, Hid (Calls prog 198 #[.string u.s] W _) := fun W => hid (AddrC.raparse u.s W (by omega))
 have hb7 := hid h7
 clear h7
 have bU1 : x < Z6.heap.size := H7.at_.lt
 have bU2 : tg < Z6.heap.size := by omega
 have hx7 : w.heap.size < w2.heap.size := by omega
 go_upto_region 20 with fail
 go_cut [7] from 96 to 107 (fun s7 wc => ∃ hb, s7 = .pointer (some ⟨hb, 0, none⟩) ∧ Two w w2.heap.size hb x (.slice (some ⟨tg, 0, none⟩) l.length tc) l en ((k + 2 : Nat) : Int) nest (AddrC.pR t.s.data.toList) (AddrC.pC t.s.data.toList) (AddrC.pR u.s.data.toList) (AddrC.pC u.s.data.toList) (AddrC.pOK t.s.data.toList) (AddrC.pOK u.s.data.toList) wc)
 case first =>
   go_region_with (go_at_call 198; refine (HPB _).out.mono ?_; rintro e w9 ⟨rfl, k9⟩; (first | (with_reducible have nb9 := got_block k9; obtain ⟨v0, v1, v2, v3, v4, v5⟩ := got_cells nb9) | skip))
   all_goals (go_wp2_with fail)
   all_goals (go_meet)
   all_goals (first | exact ⟨_, rfl, two_first H7 K7 X7 G7 hxw hx7 k9⟩ | exact ⟨_, rfl, two_last H7 K7 X7 G7 hxw hx7 k9⟩)
 case rest =>
 obtain ⟨hb, rfl, HTW⟩ := hcut
 clear c0 c1 c2 c3 c4 c5 y1 y3 y4 y5
 clear tt2
 obtain ⟨H10, K10, X10, G10, N10, bn0, bn1, bn2⟩ := HTW
 have bn3 : x ≠ hb := by omega
 have bn4 : w.heap.size + 1 ≠ hb := by omega
 have bn5 : hb ≠ x := by omega
 have bn6 : hb ≠ w.heap.size + 1 := by omega
 have bn7 : w2.heap.size ≠ hb := by omega
 have bn8 : hb ≠ w2.heap.size := by omega
 have b10 := X10.lt
 obtain ⟨e0, e1, e2⟩ := N10.cells
 rw [hb7.out] at e2
 go_wp2_with fail
 refine (rbad _ H10 hl).mono ?_; rintro e w8 ⟨rfl, H8, k8⟩
 have K8 := K10.trans k8
 have X8 := X10.kept k8 ne2
 obtain ⟨f0, f1, f2, f3, f4, f5, f6, f7, f8, f9, z0, z1, z2, z3, z4, z5, z6, z7, z8, z9⟩ := (X8).cells
 go_wp2_with fail
 rw [E.out]
 refine bodyPost_ret (v := .agg jZ) (by simp [results, results183, go_sem, f0, f1, f2, f3, f4, f5, f6, f7, f8, f9]) rfl (PPost.err (b := w.heap.size + 1) K8 H8 (nodeV_any fld0 _ _ _) (by show (13 : Int) ≠ 0; decide) (Int.le_refl _) (by omega) (by omega) hxw ?_)
 repeat (with_reducible first | exact Kept.refl _ _ | refine Kept.setCell ?_ _ _)
theorem field_R (a b c d : Int) (ok : Bool) (w : World) : (Instr.field 239 (.agg #[.int .i64 a, .int .i64 b, .int .i64 c, .int .i64 d, .bool ok]) 0).run prog w = .ok (.agg (jR a b c d)) w := by kernel_rfl
theorem rname_range {x : Nat} {lv : Value} {l : List Tok} {en nest : Int} {L : Lev} {into : Bool} {k : Nat} {t : Tok} (w : World) (h : Pre w x lv l en k nest 0 0) (hl : l.length ≤ 300) (hk : k ≤ 400)
   {u : Tok} (hus : u.s.size ≤ 1000000) (hts : t.s.size ≤ 1000000) (hs : isSign l (k + 1) [40] = false) (h1 : t.s ≠ trueB) (h2 : t.s ≠ falseB) (h3 : AddrC.pOK t.s.data.toList = true) (h4 : isSign l (k + 1) [58] = true) (h5 : l[k + 2]? = some u) (hu3 : u.k = 3) (h6 : isSign l (k + 3) [40] = false) (h7 : AddrC.pOK u.s.data.toList = true) :
   Calls prog 183 #[.pointer (some ⟨x, 0, none⟩), tokV t] w (PPost x lv l en nest (nameF l en L into t k) w) := by
 have hxw := h.at_.lt
 have H0 := (h.alloc (.cells (jT t) 114)).alloc (.cells jZ 31)
 have K0 : Kept x w ((w.alloc (.cells (jT t) 114)).alloc (.cells jZ 31)) := ((Kept.refl _ _).alloc _).alloc _
 have s1 : (w.alloc (.cells (jT t) 114)).heap.size = w.heap.size + 1 := heap_one _ _
 have HX : NBox ((w.alloc (.cells (jT t) 114)).alloc (.cells jZ 31)) (w.heap.size + 1) := by have := NBox.new (w.alloc (.cells (jT t) 114)); rwa [s1] at this
 have HT0 : TLoc (w.alloc (.cells (jT t) 114)) w.heap.size t := ⟨heap_alloc_new _ _⟩
 have HT := HT0.kept ((Kept.refl x (w.alloc (.cells (jT t) 114))).alloc (.cells jZ 31)) (by omega)
 clear s1 HT0
 generalize hW : ((w.alloc (.cells (jT t) 114)).alloc (.cells jZ 31)) = W at *
 have ne1 : x ≠ w.heap.size + 1 := by omega
 have ne2 : w.heap.size + 1 ≠ x := by omega
 have nt1 : x ≠ w.heap.size := by omega
 have nt2 : w.heap.size ≠ x := by omega
 have lt0 := HX.lt
 have HC0 := hid (rcalled W H0 hl (by omega))
 generalize hO : nameF l en L into t k = O
 have HO := hid hO.symm
 clear h hO
 unfold tokV
 have p3 : (u.k == 3) = true := by rw [hu3]; rfl
 have p4 : (u.k != 3) = false := by simp [bne, p3]
 have E := hid (HO.out.trans (name_range hs h1 h2 h3 h4 h5 ⟨hu3, h6, h7⟩))
 have hb1 := hid h1
 have hb2 := hid h2
 have hb3 := hid h3
 have hb4 := hid h4
 have B58 : Hid (({ data := #[58] } : ByteArray) = str [58]) := hid rfl
 clear h1 h2 h3 h4
 rw [hs] at HC0
 go_enter func183, ntmps183
 go_wp2_with fail
 refine HC0.out.mono ?_; rintro e w1 ⟨rfl, n, rfl⟩
 have H1 := H0.drew n
 have K1 := K0.drew n
 have X1 := HX.kept ((Kept.refl x W).drew n) ne2
 have T1 := HT.kept ((Kept.refl x W).drew n) nt2
 generalize hV : W.drewN n = V at *
 have b1 := X1.lt
 obtain ⟨q0, q1, q2, q3⟩ := T1.cells
 have HPA := hid (AddrC.raparse t.s V (by omega))
 have g1 : (t.s.toList == [84, 82, 85, 69]) = false := bytes_ne hb1.out
 have g2 : (t.s.toList == [70, 65, 76, 83, 69]) = false := bytes_ne hb2.out
 go_wp2_with fail
 refine HPA.out.mono ?_; rintro e w2 ⟨rfl, k2⟩
 clear g1 g2 q0 q1 q2 q3
 have K2 := K1.trans (Kept.of (x := x) k2)
 have H2 := pre_below H1 k2
 have X2 := X1.kept (Kept.of (x := x) k2) ne2
 have T2 := T1.kept (Kept.of (x := x) k2) nt2
 have b2 := X2.lt
 have K3 := K2.alloc (.cells #[.int .i64 (AddrC.pR t.s.data.toList), .int .i64 (AddrC.pC t.s.data.toList), .bool (AddrC.pOK t.s.data.toList)] 236)
 have H3 := H2.alloc (.cells #[.int .i64 (AddrC.pR t.s.data.toList), .int .i64 (AddrC.pC t.s.data.toList), .bool (AddrC.pOK t.s.data.toList)] 236)
 have X3 := X2.kept ((Kept.refl x w2).alloc (.cells #[.int .i64 (AddrC.pR t.s.data.toList), .int .i64 (AddrC.pC t.s.data.toList), .bool (AddrC.pOK t.s.data.toList)] 236)) ne2
 have G3 : GLoc (w2.alloc (.cells #[.int .i64 (AddrC.pR t.s.data.toList), .int .i64 (AddrC.pC t.s.data.toList), .bool (AddrC.pOK t.s.data.toList)] 236)) w2.heap.size (AddrC.pR t.s.data.toList) (AddrC.pC t.s.data.toList) (AddrC.pOK t.s.data.toList) := ⟨heap_alloc_new _ _⟩
 have ng : x ≠ w2.heap.size := by omega
 have ng2 : w2.heap.size ≠ x := by omega
 have ng3 : w.heap.size + 1 ≠ w2.heap.size := by omega
 have ng4 : w2.heap.size ≠ w.heap.size + 1 := by omega
 have b3 := X3.lt
 generalize hG : (w2.alloc (.cells #[.int .i64 (AddrC.pR t.s.data.toList), .int .i64 (AddrC.pC t.s.data.toList), .bool (AddrC.pOK t.s.data.toList)] 236)) = Y at *
 obtain ⟨a0, a1, a2⟩ := G3.cells
 rw [hb3.out] at a2
 have H4 := H3.setK ((k : Int) + 1)
 have K4 := K3.setCell 1 (.int .i64 ((k : Int) + 1))
 have X4 := X3.kept ((Kept.refl x Y).setCell 1 (.int .i64 ((k : Int) + 1))) ne2
 have G4 := G3.kept ((Kept.refl x Y).setCell 1 (.int .i64 ((k : Int) + 1))) ng2
 obtain ⟨c0, c1, c2, c3, c4, c5, y1, y3, y4, y5⟩ := (H3).at_.cells
 generalize hU : (Y.setCell ⟨x, 1, none⟩ (.int .i64 ((k : Int) + 1))) = U at *
 go_wp2_with fail
 rw [show ((k : Int) + 1) = ((k + 1 : Nat) : Int) from by omega] at H4
 clear c0 c1 c2 c3 c4 c5 y1 y3 y4 y5
 clear a0 a1 a2
 have HS := hid (rsign [58] U H4 hl)
 rw [hb4.out] at HS
 rw [B58.out]
 refine HS.out.mono ?_; rintro e w5 ⟨rfl, n5, rfl⟩
 have H5 := H4.drew n5
 have K5 := K4.drew n5
 have X5 := X4.kept ((Kept.refl x U).drew n5) ne2
 have G5 := G4.kept ((Kept.refl x U).drew n5) ng2
 generalize hZ : U.drewN n5 = Z5 at *
 have H6 := H5.setK (((k + 1 : Nat) : Int) + 1)
 have K6 := K5.setCell 1 (.int .i64 (((k + 1 : Nat) : Int) + 1))
 have X6 := X5.kept ((Kept.refl x Z5).setCell 1 (.int .i64 (((k + 1 : Nat) : Int) + 1))) ne2
 have G6 := G5.kept ((Kept.refl x Z5).setCell 1 (.int .i64 (((k + 1 : Nat) : Int) + 1))) ng2
 rw [show (((k + 1 : Nat) : Int) + 1) = ((k : Int) + 1 + 1) from by omega] at H6 K6 X6 G6
 obtain ⟨c0, c1, c2, c3, c4, c5, y1, y3, y4, y5⟩ := (H5).at_.cells
 rw [show ((k + 1 : Nat) : Int) = (k : Int) + 1 from by omega] at c1
 generalize hU6 : (Z5.setCell ⟨x, 1, none⟩ (.int .i64 ((k : Int) + 1 + 1))) = U6 at *
 go_wp2_with fail
 clear c0 c1 c2 c3 c4 c5 y1 y3 y4 y5
 rw [show ((k : Int) + 1 + 1) = ((k + 2 : Nat) : Int) from by omega] at H6
 clear hU hZ hG hV hW
 obtain ⟨TA, tc, hlv, hTk⟩ := H6.tok.form
 subst hlv
 obtain ⟨c0, c1, c2, c3, c4, c5, y1, y3, y4, y5⟩ := (H6).at_.cells
 rw [show ((k + 2 : Nat) : Int) = (k : Int) + 1 + 1 from by omega] at c1
 have hlt2 : k + 1 + 1 < l.length := (List.getElem?_eq_some_iff.1 h5).1
 have hte : l[k + 1 + 1] = u := (List.getElem?_eq_some_iff.1 h5).2
 obtain ⟨tg, rfl, hgx, t0, t1, t2, t3⟩ := hTk (k + 1 + 1) hlt2
 rw [hte] at t0 t1 t2 t3
 have d1 : decide ((l.length : Int) ≤ (k : Int) + 1 + 1) = false := decide_eq_false (by omega)
 clear hTk hte
 have HCQ : Hid (∀ q, Calls prog 196 #[.pointer (some ⟨x, 0, none⟩)] (U6.drewN q) fun e w' => e = .returned (.bool false) ∧ ∃ m, w' = (U6.drewN q).drewN m) := hid (by
   intro q
   have h8 := rcalled _ (H6.drew q) hl (by omega)
   rw [show k + 2 + 1 = k + 3 from rfl, h6] at h8
   exact h8)
 clear h6 hu3 h5
 go_quiet ((go_at_call 196; exact Calls.quiet_of (HCQ.out _)))
 clear c0 c1 c2 c3 c4 c5 y1 y3 y4 y5
 have H7 := H6.drew nq
 have K7 := K6.drew nq
 have X7 := X6.kept ((Kept.refl x U6).drew nq) ne2
 have G7 := G6.kept ((Kept.refl x U6).drew nq) ng2
 obtain ⟨c0, c1, c2, c3, c4, c5, y1, y3, y4, y5⟩ := (H7).at_.cells
 rw [show ((k + 2 : Nat) : Int) = (k : Int) + 1 + 1 from by omega] at c1
 have tt2 : (U6.drewN nq).cell? ⟨tg, (k + 1 + 1) * 4 + 2, none⟩ = some (.string u.s) := t2
 clear t0 t1 t2 t3
 generalize hZ6 : U6.drewN nq = Z6 at *
 clear hZ6 hU6
 have HPB : ∀ W, Hid (Calls prog 198 #[.string u.s] W _) := fun W => hid (AddrC.raparse u.s W (by omega))
 have hb7 := hid h7
 clear h7
 have bU1 : x < Z6.heap.size := H7.at_.lt
 have bU2 : tg < Z6.heap.size := by omega
 have hx7 : w.heap.size < w2.heap.size := by omega
 go_upto_region 20 with fail
 go_cut [7] from 96 to 107 (fun s7 wc => ∃ hb, s7 = .pointer (some ⟨hb, 0, none⟩) ∧ Two w w2.heap.size hb x (.slice (some ⟨tg, 0, none⟩) l.length tc) l en ((k + 2 : Nat) : Int) nest (AddrC.pR t.s.data.toList) (AddrC.pC t.s.data.toList) (AddrC.pR u.s.data.toList) (AddrC.pC u.s.data.toList) (AddrC.pOK t.s.data.toList) (AddrC.pOK u.s.data.toList) wc)
 case first =>
   go_region_with (go_at_call 198; refine (HPB _).out.mono ?_; rintro e w9 ⟨rfl, k9⟩; (first | (with_reducible have nb9 := got_block k9; obtain ⟨v0, v1, v2, v3, v4, v5⟩ := got_cells nb9) | skip))
   all_goals (go_wp2_with fail)
   all_goals (go_meet)
   all_goals (first | exact ⟨_, rfl, two_first H7 K7 X7 G7 hxw hx7 k9⟩ | exact ⟨_, rfl, two_last H7 K7 X7 G7 hxw hx7 k9⟩)
 case rest =>
 obtain ⟨hb, rfl, HTW⟩ := hcut
 clear c0 c1 c2 c3 c4 c5 y1 y3 y4 y5
 clear tt2
 obtain ⟨H10, K10, X10, G10, N10, bn0, bn1, bn2⟩ := HTW
 have bn3 : x ≠ hb := by omega
 have bn4 : w.heap.size + 1 ≠ hb := by omega
 have bn5 : hb ≠ x := by omega
 have bn6 : hb ≠ w.heap.size + 1 := by omega
 have bn7 : w2.heap.size ≠ hb := by omega
 have bn8 : hb ≠ w2.heap.size := by omega
 have b10 := X10.lt
 obtain ⟨e0, e1, e2⟩ := N10.cells
 rw [hb7.out] at e2
 have H11 := H10.setK ((k : Int) + 1 + 1 + 1)
 have K11 := K10.setCell 1 (.int .i64 ((k : Int) + 1 + 1 + 1))
 have X11 := X10.kept ((Kept.refl x wc).setCell 1 (.int .i64 ((k : Int) + 1 + 1 + 1))) ne2
 have G11 := G10.kept ((Kept.refl x wc).setCell 1 (.int .i64 ((k : Int) + 1 + 1 + 1))) ng2
 have N11 := N10.kept ((Kept.refl x wc).setCell 1 (.int .i64 ((k : Int) + 1 + 1 + 1))) bn5
 obtain ⟨c0, c1, c2, c3, c4, c5, y1, y3, y4, y5⟩ := (H10).at_.cells
 rw [show ((k + 2 : Nat) : Int) = (k : Int) + 1 + 1 from by omega] at c1
 generalize hM : (wc.setCell ⟨x, 1, none⟩ (.int .i64 ((k : Int) + 1 + 1 + 1))) = M at *
 rw [show ((k : Int) + 1 + 1 + 1) = ((k + 3 : Nat) : Int) from by omega] at H11
 obtain ⟨a0, a1, a2⟩ := G11.cells
 obtain ⟨i0, i1, i2⟩ := N11.cells
 go_wp2_with fail
 refine (AddrC.rmade _ _ _ _ _).mono ?_; rintro e w12 ⟨rfl, k12⟩
 have qM := field_R
 clear c0 c1 c2 c3 c4 c5 y1 y3 y4 y5
 clear a0 a1 a2 i0 i1 i2 e0 e1 e2
 have H12 := pre_below H11 k12
 have K12 := K11.trans (Kept.of (x := x) k12)
 have X12 := X11.kept (Kept.of (x := x) k12) ne2
 obtain ⟨f0, f1, f2, f3, f4, f5, f6, f7, f8, f9, z0, z1, z2, z3, z4, z5, z6, z7, z8, z9⟩ := (X12).cells
 go_wp2_with fail
 rw [E.out]
 refine bodyPost_ret (v := .agg #[.int .i64 3, .int .i64 0, .int .i64 0, .string { data := #[] }, .int .i64 (AddrC.mA (AddrC.pR t.s.data.toList) (AddrC.pC t.s.data.toList) (AddrC.pR u.s.data.toList) (AddrC.pC u.s.data.toList)), .int .i64 (AddrC.mB (AddrC.pR t.s.data.toList) (AddrC.pC t.s.data.toList) (AddrC.pR u.s.data.toList) (AddrC.pC u.s.data.toList)), .int .i64 (AddrC.mC (AddrC.pR t.s.data.toList) (AddrC.pC t.s.data.toList) (AddrC.pR u.s.data.toList) (AddrC.pC u.s.data.toList)), .int .i64 (AddrC.mD (AddrC.pR t.s.data.toList) (AddrC.pC t.s.data.toList) (AddrC.pR u.s.data.toList) (AddrC.pC u.s.data.toList)), .string { data := #[] }, .slice none 0 0]) (by simp [results, results183, go_sem, f0, f1, f2, f3, f4, f5, f6, f7, f8, f9]) rfl (PPost.ok (b := w.heap.size + 1) K12 H12 (a := (rangeN (AddrC.mA (AddrC.pR t.s.data.toList) (AddrC.pC t.s.data.toList) (AddrC.pR u.s.data.toList) (AddrC.pC u.s.data.toList)) (AddrC.mB (AddrC.pR t.s.data.toList) (AddrC.pC t.s.data.toList) (AddrC.pR u.s.data.toList) (AddrC.pC u.s.data.toList)) (AddrC.mC (AddrC.pR t.s.data.toList) (AddrC.pC t.s.data.toList) (AddrC.pR u.s.data.toList) (AddrC.pC u.s.data.toList)) (AddrC.mD (AddrC.pR t.s.data.toList) (AddrC.pC t.s.data.toList) (AddrC.pR u.s.data.toList) (AddrC.pC u.s.data.toList)))) ⟨none, 0, rfl, Or.inl rfl⟩ (by omega) hxw ?_)
 repeat (with_reducible first | exact Kept.refl _ _ | refine Kept.setCell ?_ _ _)
end Go.Proofs.YticehalcnbjccaaGreatDoor.TreeC
namespace Go.Proofs.YticehalcnbjccaaGreatDoor.TreeC
set_option maxRecDepth 100000
set_option maxHeartbeats 8000000
set_option linter.unusedVariables false
open Go.RowKit NumC LexC
open Tryz
theorem rname {x : Nat} {lv : Value} {l : List Tok} {en nest : Int} {L : Lev} {into : Bool} {k : Nat} {t : Tok} (w : World) (h : Pre w x lv l en k nest 0 0) (hl : l.length ≤ 300) (hk : k ≤ 400)
   (hsz : ∀ u ∈ l, u.s.size ≤ 1000000) (ht : l[k]? = some t)
   (hcl : isSign l (k + 1) [40] = true → ∀ (w : World), Pre w x lv l en k nest 0 0 → Calls prog 197 #[.pointer (some ⟨x, 0, none⟩), tokV t] w (PPost x lv l en nest (callF l en L into t k) w)) :
   Calls prog 183 #[.pointer (some ⟨x, 0, none⟩), tokV t] w (PPost x lv l en nest (nameF l en L into t k) w) := by
 have hts := hsz t (List.mem_of_getElem? ht)
 cases hs : isSign l (k + 1) [40] with
 | true => exact rname_call w h hl hk hs (hcl hs)
 | false =>
   by_cases h1 : t.s = trueB
   · exact rname_true w h hl hk hs h1
   · by_cases h2 : t.s = falseB
     · exact rname_false w h hl hk hs h1 h2
     · cases h3 : AddrC.pOK t.s.data.toList with
       | false => exact rname_none w h hl hk hts hs h1 h2 h3
       | true =>
         cases h4 : isSign l (k + 1) [58] with
         | false => exact rname_cell w h hl hk hts hs h1 h2 h3 h4
         | true =>
           cases h5 : l[k + 2]? with
           | none => exact rname_lacks w h hl hk hts hs h1 h2 h3 h4 (List.getElem?_eq_none_iff.1 h5)
           | some u =>
             have hus := hsz u (List.mem_of_getElem? h5)
             by_cases h6 : u.k = 3
             · cases h7 : isSign l (k + 3) [40] with
               | true => exact rname_called w h hl hk hts hs h1 h2 h3 h4 h5 h6 h7
               | false =>
                 cases h8 : AddrC.pOK u.s.data.toList with
                 | false => exact rname_second w h hl hk hus hts hs h1 h2 h3 h4 h5 h6 h7 h8
                 | true => exact rname_range w h hl hk hus hts hs h1 h2 h3 h4 h5 h6 h7 h8
             · exact rname_kind w h hl hk hts hs h1 h2 h3 h4 h5 h6
end Go.Proofs.YticehalcnbjccaaGreatDoor.TreeC
namespace Go.Proofs.YticehalcnbjccaaGreatDoor.TreeC
set_option maxRecDepth 100000
set_option maxHeartbeats 8000000
set_option linter.unusedVariables false
open Go.RowKit NumC LexC
open Cd
open Tryz
open Lib (hid)
def afterF (l : List Tok) (n : Int) (t : Tok) (r : Except Bad (Fo × Nat)) : Out := match r with
 | .error e => .error e
 | .ok (al, k') => match closeF l n k' with
   | .error e => .error e
   | .ok k'' => .ok (callN t.s al, k'')
section
variable {l : List Tok} {n : Int} {L : Lev} {into : Bool} {k : Nat} {t : Tok}
theorem call_long (h : 8 < t.s.size) : callF l n L into t k = .error (badAt l n k) := by unfold callF; rw [if_pos h]
theorem call_none (h : ¬ 8 < t.s.size) (hs : isSign l (k + 2) [41] = true) : callF l n L into t k = .ok (callN t.s .nil, k + 3) := by unfold callF; rw [if_neg h, if_pos hs]
theorem call_args (h : ¬ 8 < t.s.size) (hs : isSign l (k + 2) [41] = false) : callF l n L into t k = afterF l n t (argsF l n L into 10 .nil (k + 2)) := by unfold callF; rw [if_neg h, if_neg (by rw [hs]; exact Bool.false_ne_true)]; rfl
end
theorem Pre.ek {w : World} {x : Nat} {lv : Value} {l : List Tok} {en k k2 nest e at_ : Int} (h : Pre w x lv l en k nest e at_) (e1 : k = k2) : Pre w x lv l en k2 nest e at_ := e1 ▸ h
def callFld (s : ByteArray) : Fld := ⟨6, 0, 0, { data := #[] }, 0, 0, 0, 0, s⟩
theorem rcall_long {x : Nat} {lv : Value} {l : List Tok} {en nest : Int} {L : Lev} {into : Bool} {k : Nat} {t : Tok} (w : World) (h : Pre w x lv l en k nest 0 0) (hl : l.length ≤ 300) (hk : k ≤ 299)
   (h8 : 8 < t.s.size) :
   Calls prog 197 #[.pointer (some ⟨x, 0, none⟩), tokV t] w (PPost x lv l en nest (callF l en L into t k) w) := by
 have hxw := h.at_.lt
 have H0 := (h.alloc (.cells (jT t) 114)).alloc (.cells jZ 31)
 have K0 : Kept x w ((w.alloc (.cells (jT t) 114)).alloc (.cells jZ 31)) := ((Kept.refl _ _).alloc _).alloc _
 have s1 : (w.alloc (.cells (jT t) 114)).heap.size = w.heap.size + 1 := heap_one _ _
 have s2 : ((w.alloc (.cells (jT t) 114)).alloc (.cells jZ 31)).heap.size = w.heap.size + 2 := by simp
 have HX : NBox ((w.alloc (.cells (jT t) 114)).alloc (.cells jZ 31)) (w.heap.size + 1) := by have := NBox.new (w.alloc (.cells (jT t) 114)); rwa [s1] at this
 have HT0 : TLoc (w.alloc (.cells (jT t) 114)) w.heap.size t := ⟨heap_alloc_new _ _⟩
 have HT := HT0.kept ((Kept.refl x (w.alloc (.cells (jT t) 114))).alloc (.cells jZ 31)) (by omega)
 clear s1 HT0
 generalize hW : ((w.alloc (.cells (jT t) 114)).alloc (.cells jZ 31)) = W at *
 have ne1 : x ≠ w.heap.size + 1 := by omega
 have ne2 : w.heap.size + 1 ≠ x := by omega
 have nt1 : x ≠ w.heap.size := by omega
 have nt2 : w.heap.size ≠ x := by omega
 have lt0 := HX.lt
 generalize hO : callF l en L into t k = O
 have HO := hid hO.symm
 clear h hO
 unfold tokV
 obtain ⟨q0, q1, q2, q3⟩ := HT.cells
 have E := hid (HO.out.trans (call_long h8))
 have d1 : (8 : Int) < (t.s.size : Int) := by omega
 go_enter func197, ntmps197
 go_wp2_with fail
 refine (rbad _ H0 hl).mono ?_; rintro e w8 ⟨rfl, H8, k8⟩
 have K8 := K0.trans k8
 have X8 := HX.kept k8 ne2
 obtain ⟨f0, f1, f2, f3, f4, f5, f6, f7, f8, f9, z0, z1, z2, z3, z4, z5, z6, z7, z8, z9⟩ := (X8).cells
 go_wp2_with fail
 rw [E.out]
 refine bodyPost_ret (v := .agg jZ) (by simp [results, results197, go_sem, f0, f1, f2, f3, f4, f5, f6, f7, f8, f9]) rfl (PPost.err (b := w.heap.size + 1) K8 H8 (nodeV_any fld0 none 0 0) (by show (13 : Int) ≠ 0; decide) (Int.le_refl _) (by omega) (by omega) hxw ?_)
 repeat (with_reducible first | exact Kept.refl _ _ | refine Kept.setCell ?_ _ _)
theorem rcall_none {x : Nat} {lv : Value} {l : List Tok} {en nest : Int} {L : Lev} {into : Bool} {k : Nat} {t : Tok} (w : World) (h : Pre w x lv l en k nest 0 0) (hl : l.length ≤ 300) (hk : k ≤ 299)
   (h8 : ¬ 8 < t.s.size) (hs : isSign l (k + 2) [41] = true) :
   Calls prog 197 #[.pointer (some ⟨x, 0, none⟩), tokV t] w (PPost x lv l en nest (callF l en L into t k) w) := by
 have hxw := h.at_.lt
 have H0 := (h.alloc (.cells (jT t) 114)).alloc (.cells jZ 31)
 have K0 : Kept x w ((w.alloc (.cells (jT t) 114)).alloc (.cells jZ 31)) := ((Kept.refl _ _).alloc _).alloc _
 have s1 : (w.alloc (.cells (jT t) 114)).heap.size = w.heap.size + 1 := heap_one _ _
 have s2 : ((w.alloc (.cells (jT t) 114)).alloc (.cells jZ 31)).heap.size = w.heap.size + 2 := by simp
 have HX : NBox ((w.alloc (.cells (jT t) 114)).alloc (.cells jZ 31)) (w.heap.size + 1) := by have := NBox.new (w.alloc (.cells (jT t) 114)); rwa [s1] at this
 have HT0 : TLoc (w.alloc (.cells (jT t) 114)) w.heap.size t := ⟨heap_alloc_new _ _⟩
 have HT := HT0.kept ((Kept.refl x (w.alloc (.cells (jT t) 114))).alloc (.cells jZ 31)) (by omega)
 clear s1 HT0
 generalize hW : ((w.alloc (.cells (jT t) 114)).alloc (.cells jZ 31)) = W at *
 have ne1 : x ≠ w.heap.size + 1 := by omega
 have ne2 : w.heap.size + 1 ≠ x := by omega
 have nt1 : x ≠ w.heap.size := by omega
 have nt2 : w.heap.size ≠ x := by omega
 have lt0 := HX.lt
 generalize hO : callF l en L into t k = O
 have HO := hid hO.symm
 clear h hO
 unfold tokV
 obtain ⟨q0, q1, q2, q3⟩ := HT.cells
 have E := hid (HO.out.trans (call_none h8 hs))
 have B41 : Hid (({ data := #[41] } : ByteArray) = str [41]) := hid rfl
 have nl1 : x ≠ w.heap.size + 2 := by omega
 have nl2 : w.heap.size + 2 ≠ x := by omega
 have d1 : ¬ (8 : Int) < (t.s.size : Int) := by omega
 have H1 := H0.setK ((k : Int) + 2)
 have T1 := HT.kept ((Kept.refl x W).setCell 1 (.int .i64 ((k : Int) + 2))) nt2
 obtain ⟨c0, c1, c2, c3, c4, c5, y1, y3, y4, y5⟩ := (H0).at_.cells
 have z1 : (W.setCell ⟨x, 1, none⟩ (.int .i64 ((k : Int) + 2))).heap.size = w.heap.size + 2 := by rw [← s2]; simp [World.setCell]
 have H2 := H1.alloc (.cells #[.int .i64 6, .int .i64 0, .int .i64 0, .string { data := #[] }, .int .i64 0, .int .i64 0, .int .i64 0, .int .i64 0, .string t.s, .slice none 0 0] 31)
 rw [show Pre ((W.setCell ⟨x, 1, none⟩ (.int .i64 ((k : Int) + 2))).alloc (.cells #[.int .i64 6, .int .i64 0, .int .i64 0, .string { data := #[] }, .int .i64 0, .int .i64 0, .int .i64 0, .int .i64 0, .string t.s, .slice none 0 0] 31)) x lv l en ((k : Int) + 2) nest 0 0 = Pre ((W.setCell ⟨x, 1, none⟩ (.int .i64 ((k : Int) + 2))).alloc (.cells #[.int .i64 6, .int .i64 0, .int .i64 0, .string { data := #[] }, .int .i64 0, .int .i64 0, .int .i64 0, .int .i64 0, .string t.s, .slice none 0 0] 31)) x lv l en ((k + 2 : Nat) : Int) nest 0 0 from by rw [show ((k + 2 : Nat) : Int) = (k : Int) + 2 from by omega]] at H2
 have K2 : Kept x w ((W.setCell ⟨x, 1, none⟩ (.int .i64 ((k : Int) + 2))).alloc (.cells #[.int .i64 6, .int .i64 0, .int .i64 0, .string { data := #[] }, .int .i64 0, .int .i64 0, .int .i64 0, .int .i64 0, .string t.s, .slice none 0 0] 31)) := (K0.setCell 1 _).alloc _
 have X2 : NBox ((W.setCell ⟨x, 1, none⟩ (.int .i64 ((k : Int) + 2))).alloc (.cells #[.int .i64 6, .int .i64 0, .int .i64 0, .string { data := #[] }, .int .i64 0, .int .i64 0, .int .i64 0, .int .i64 0, .string t.s, .slice none 0 0] 31)) (w.heap.size + 1) := HX.kept (y := x) (by repeat (with_reducible first | exact Kept.refl _ _ | refine Kept.setCell ?_ _ _ | refine Kept.alloc ?_ _ | refine Kept.drew ?_ _)) ne2
 have L2 : NLoc ((W.setCell ⟨x, 1, none⟩ (.int .i64 ((k : Int) + 2))).alloc (.cells #[.int .i64 6, .int .i64 0, .int .i64 0, .string { data := #[] }, .int .i64 0, .int .i64 0, .int .i64 0, .int .i64 0, .string t.s, .slice none 0 0] 31)) (w.heap.size + 2) (callFld t.s) none 0 0 := ⟨by rw [← z1]; exact heap_alloc_new _ _⟩
 go_enter func197, ntmps197
 go_wp2_with fail
 clear c0 c1 c2 c3 c4 c5 y1 y3 y4 y5 H0 H1 T1 HX HT K0 q0 q1 q2 q3
 generalize hV : ((W.setCell ⟨x, 1, none⟩ (.int .i64 ((k : Int) + 2))).alloc (.cells #[.int .i64 6, .int .i64 0, .int .i64 0, .string { data := #[] }, .int .i64 0, .int .i64 0, .int .i64 0, .int .i64 0, .string t.s, .slice none 0 0] 31)) = V at *
 clear hV hW
 refine (rsign [41] V H2 hl).mono ?_; rintro e w3 ⟨rfl, q, rfl⟩
 rw [hs]
 clear z1 s2
 have H3 := H2.drew q
 have X3 := X2.kept ((Kept.refl x V).drew q) ne2
 have L3 := L2.kept ((Kept.refl x V).drew q) nl2
 have lt2 : w.heap.size + 1 < V.heap.size := X2.lt
 have lt3 : w.heap.size + 2 < V.heap.size := L2.lt
 have nbl : w.heap.size + 1 ≠ w.heap.size + 2 := by omega
 have nlb : w.heap.size + 2 ≠ w.heap.size + 1 := by omega
 obtain ⟨c0, c1, c2, c3, c4, c5, y1, y3, y4, y5⟩ := (H3).at_.cells
 obtain ⟨f0, f1, f2, f3, f4, f5, f6, f7, f8, f9, z0, z1, z2, z3, z4, z5, z6, z7, z8, z9⟩ := (X3).cells
 obtain ⟨a0, a1, a2, a3, a4, a5, a6, a7, a8, a9, az0, az1, az2, az3, az4, az5, az6, az7, az8, az9⟩ := (L3).cells
 go_wp2_with fail
 rw [E.out]
 refine bodyPost_ret (v := .agg (jN (callFld t.s) none 0 0)) (by simp [results, results197, go_sem, f0, f1, f2, f3, f4, f5, f6, f7, f8, f9]) rfl (PPost.ok (W := ?W) (b := w.heap.size + 1) ?hK ?hP ⟨none, 0, rfl, Or.inl rfl⟩ (by omega) hxw ?hk)
 case hk => repeat (with_reducible first | refine Kept.setCell ?_ _ _ | exact Kept.refl _ _)
 case hK => exact (K2.drew q).setCell 1 _
 case hP => exact (H3.setK _).ek (by omega)
def RArg (w : World) (x : Nat) (lv : Value) (l : List Tok) (en nest : Int) (s : ByteArray) (i : Nat) (fo : Fo) (out : Out) (wc : World) : Prop :=
 ∃ (A : Option Addr) (c : Nat), NLoc wc (w.heap.size + 2) (callFld s) A (i + 1) c ∧ Kept x w wc ∧ NBox wc (w.heap.size + 1) ∧
   ((∃ a k2, out = .ok (a, k2) ∧ AS wc (w.heap.size + 3) (.slice A (i + 1) c) (fo.app a.one) ∧ Pre wc x lv l en (k2 : Nat) (nest + 1) 0 0) ∨
    (∃ (b : Bad) (k2 n2 : Int), out = .error b ∧ b.1 ≠ 0 ∧ nest + 1 ≤ n2 ∧ n2 ≤ nest + 1 + 1 ∧ Pre wc x lv l en k2 n2 b.1 b.2))
theorem NLoc.setArgs {w : World} {b n c : Nat} {f : Fld} {A : Option Addr} (h : NLoc w b f A n c) (B : Option Addr) (m d : Nat) : NLoc (w.setCell ⟨b, 9, none⟩ (.slice B m d)) b f B m d := by
 have h1 := h.at_
 exact ⟨by simp [World.setCell, Array.getElem?_modify, h1]⟩
theorem rarg_mk {w w6 w9 : World} {x : Nat} {lv : Value} {l : List Tok} {en nest : Int} {s : ByteArray} {i c g cap m c6 : Nat} {fo : Fo} {A A6 : Option Addr} {f : Fld} {vs : List Value} {out : Out} (hxw : x < w.heap.size) (hlen : fo.len = i)
   (N6 : NLoc w6 (w.heap.size + 2) (callFld s) A i c) (K6 : Kept x w w6) (X6 : NBox w6 (w.heap.size + 1)) (hs : w.heap.size + 3 ≤ w6.heap.size)
   (hvs : RowV w6 (fun g => (w.heap.size + 3) ≤ g ∧ Value.ownBlock (.slice A i c) ≠ some g) fo vs) (hlo : ∀ k, Value.ownBlock (.slice A i c) = some k → (w.heap.size + 3) ≤ k ∧ k < w6.heap.size)
   (hm : (∃ kd k', out = .ok (⟨f, kd⟩, k') ∧ kd.len = m ∧ KidsAt w6 (fun g => (w.heap.size + 3) ≤ g ∧ Value.ownBlock (.slice A i c) ≠ some g) kd A6 ∧ Pre w6 x lv l en (k' : Nat) (nest + 1) 0 0) ∨
     (∃ (b : Bad) (k2 n2 : Int), out = .error b ∧ b.1 ≠ 0 ∧ nest + 1 ≤ n2 ∧ n2 ≤ nest + 1 + 1 ∧ Pre w6 x lv l en k2 n2 b.1 b.2))
   (ho : w9.ownsRow (w.heap.size + 3) 31 10 (.slice (some ⟨g, 0, none⟩) (i + 1) cap) (i + 1) (ncells vs ++ (nodeV f A6 m c6).cells.toList)) (hg : w6.grownBy w9 (Value.ownBlock (.slice A i c))) (hat : Value.ownBlock (.slice A i c) = some g ∨ g = w6.heap.size) :
   RArg w x lv l en nest s i fo out (w9.setCell ⟨w.heap.size + 2, 9, none⟩ (.slice (some ⟨g, 0, none⟩) (i + 1) cap)) := by
 obtain ⟨y, k9, hy⟩ := grown_kept hg
 have hyb : w.heap.size + 3 ≤ y := by
   rcases hy with hy | hy
   · exact (hlo y hy).1
   · omega
 have kS : Kept (w.heap.size + 2) w9 (w9.setCell ⟨w.heap.size + 2, 9, none⟩ (.slice (some ⟨g, 0, none⟩) (i + 1) cap)) := (Kept.refl _ _).setCell _ _
 refine ⟨some ⟨g, 0, none⟩, cap, (N6.kept k9 (by omega)).setArgs _ _ _, (K6.then_ k9 (by omega)).setNew _ _ _ (by omega), (X6.kept k9 (by omega)).kept kS (by omega), ?_⟩
 rcases hm with ⟨kd, k', rfl, hn, hA, hP⟩ | ⟨b, k2, n2, rfl, h0, h1, h2, hP⟩
 · refine Or.inl ⟨⟨f, kd⟩, k', rfl, ?_, (hP.kept k9 (by omega)).kept kS (by omega)⟩
   refine AS.kept (x := w.heap.size + 2) ?_ kS (by omega)
   refine AS.snoc (m := m) (c := c6) vs hvs hn hA (by rw [hlen]; exact ho) hg ?_
   rcases hat with hat | hat
   · exact Or.inl hat.symm
   · exact Or.inr (by rw [hat]; rfl)
 · exact Or.inr ⟨b, k2, n2, rfl, h0, h1, h2, (hP.kept k9 (by omega)).kept kS (by omega)⟩
def RArgs (w : World) (x : Nat) (lv : Value) (l : List Tok) (en nest : Int) (t : Tok) (L : Lev) (into : Bool) (O : Out) (i : Nat) (wr : World) : Prop :=
 ∃ (fo : Fo) (k' : Nat) (A : Option Addr) (c : Nat), fo.len = i ∧ k' ≤ 301 ∧ NLoc wr (w.heap.size + 2) (callFld t.s) A i c ∧ AS wr (w.heap.size + 3) (.slice A i c) fo ∧ Kept x w wr ∧ NBox wr (w.heap.size + 1) ∧ Pre wr x lv l en (k' : Nat) nest 0 0 ∧ O = afterF l en t (argsF l en L into (10 - i) fo k')
theorem after_err {l : List Tok} {n : Int} {t : Tok} {r : Except Bad (Fo × Nat)} {O : Out} {b : Bad} (h : O = afterF l n t r) (hr : r = .error b) : O = .error b := by subst hr; exact h
theorem after_ok {l : List Tok} {n : Int} {t : Tok} {r : Except Bad (Fo × Nat)} {O : Out} {fo : Fo} {k : Nat} (h : O = afterF l n t r) (hr : r = .ok (fo, k)) (hs : isSign l k [41] = true) : O = .ok (callN t.s fo, k + 1) := by subst hr; rw [h]; simp [afterF, closeF, hs]
theorem after_bad {l : List Tok} {n : Int} {t : Tok} {r : Except Bad (Fo × Nat)} {O : Out} {fo : Fo} {k : Nat} (h : O = afterF l n t r) (hr : r = .ok (fo, k)) (hs : isSign l k [41] = false) : O = .error (badAt l n k) := by subst hr; rw [h]; simp [afterF, closeF, hs]
theorem rcall_args {x : Nat} {lv : Value} {l : List Tok} {en nest : Int} {L : Lev} {into : Bool} {k : Nat} {t : Tok} (w : World) (h : Pre w x lv l en k nest 0 0) (hl : l.length ≤ 300) (hk : k ≤ 299)
   (hn0 : 0 ≤ nest) (hn1 : nest ≤ 40) (hi : into = decide (nest < 40)) (hL : LGoes l L) (hc : into = true → Con1 x lv l en (nest + 1) L) (h8 : ¬ 8 < t.s.size) (hs : isSign l (k + 2) [41] = false) :
   Calls prog 197 #[.pointer (some ⟨x, 0, none⟩), tokV t] w (PPost x lv l en nest (callF l en L into t k) w) := by
 have hxw := h.at_.lt
 have H0 := (h.alloc (.cells (jT t) 114)).alloc (.cells jZ 31)
 have K0 : Kept x w ((w.alloc (.cells (jT t) 114)).alloc (.cells jZ 31)) := ((Kept.refl _ _).alloc _).alloc _
 have s1 : (w.alloc (.cells (jT t) 114)).heap.size = w.heap.size + 1 := heap_one _ _
 have s2 : ((w.alloc (.cells (jT t) 114)).alloc (.cells jZ 31)).heap.size = w.heap.size + 2 := by simp
 have HX : NBox ((w.alloc (.cells (jT t) 114)).alloc (.cells jZ 31)) (w.heap.size + 1) := by have := NBox.new (w.alloc (.cells (jT t) 114)); rwa [s1] at this
 have HT0 : TLoc (w.alloc (.cells (jT t) 114)) w.heap.size t := ⟨heap_alloc_new _ _⟩
 have HT := HT0.kept ((Kept.refl x (w.alloc (.cells (jT t) 114))).alloc (.cells jZ 31)) (by omega)
 clear s1 HT0
 generalize hW : ((w.alloc (.cells (jT t) 114)).alloc (.cells jZ 31)) = W at *
 have ne1 : x ≠ w.heap.size + 1 := by omega
 have ne2 : w.heap.size + 1 ≠ x := by omega
 have nt1 : x ≠ w.heap.size := by omega
 have nt2 : w.heap.size ≠ x := by omega
 have lt0 := HX.lt
 generalize hO : callF l en L into t k = O
 have HO := hid hO.symm
 clear h hO
 unfold tokV
 obtain ⟨q0, q1, q2, q3⟩ := HT.cells
 have E := hid (HO.out.trans (call_args h8 hs))
 have B41 : Hid (({ data := #[41] } : ByteArray) = str [41]) := hid rfl
 have B44 : Hid (({ data := #[44] } : ByteArray) = str [44]) := hid rfl
 have nl1 : x ≠ w.heap.size + 2 := by omega
 have nl2 : w.heap.size + 2 ≠ x := by omega
 have HIN := hid hi
 have HCC := hid hc
 obtain ⟨i0, hi0, hz0, hz1, hz2⟩ := info_parts node_info
 have HZ0 := hid hz0; have HZ1 := hid hz1; have HZ2 := hid hz2; have HI0 := hid hi0
 clear hz0 hz1 hz2 hi0 hi hc
 have d1 : ¬ (8 : Int) < (t.s.size : Int) := by omega
 have H1 := H0.setK ((k : Int) + 2)
 have T1 := HT.kept ((Kept.refl x W).setCell 1 (.int .i64 ((k : Int) + 2))) nt2
 obtain ⟨c0, c1, c2, c3, c4, c5, y1, y3, y4, y5⟩ := (H0).at_.cells
 have z1 : (W.setCell ⟨x, 1, none⟩ (.int .i64 ((k : Int) + 2))).heap.size = w.heap.size + 2 := by rw [← s2]; simp [World.setCell]
 have H2 := H1.alloc (.cells #[.int .i64 6, .int .i64 0, .int .i64 0, .string { data := #[] }, .int .i64 0, .int .i64 0, .int .i64 0, .int .i64 0, .string t.s, .slice none 0 0] 31)
 rw [show Pre ((W.setCell ⟨x, 1, none⟩ (.int .i64 ((k : Int) + 2))).alloc (.cells #[.int .i64 6, .int .i64 0, .int .i64 0, .string { data := #[] }, .int .i64 0, .int .i64 0, .int .i64 0, .int .i64 0, .string t.s, .slice none 0 0] 31)) x lv l en ((k : Int) + 2) nest 0 0 = Pre ((W.setCell ⟨x, 1, none⟩ (.int .i64 ((k : Int) + 2))).alloc (.cells #[.int .i64 6, .int .i64 0, .int .i64 0, .string { data := #[] }, .int .i64 0, .int .i64 0, .int .i64 0, .int .i64 0, .string t.s, .slice none 0 0] 31)) x lv l en ((k + 2 : Nat) : Int) nest 0 0 from by rw [show ((k + 2 : Nat) : Int) = (k : Int) + 2 from by omega]] at H2
 have K2 : Kept x w ((W.setCell ⟨x, 1, none⟩ (.int .i64 ((k : Int) + 2))).alloc (.cells #[.int .i64 6, .int .i64 0, .int .i64 0, .string { data := #[] }, .int .i64 0, .int .i64 0, .int .i64 0, .int .i64 0, .string t.s, .slice none 0 0] 31)) := (K0.setCell 1 _).alloc _
 have X2 : NBox ((W.setCell ⟨x, 1, none⟩ (.int .i64 ((k : Int) + 2))).alloc (.cells #[.int .i64 6, .int .i64 0, .int .i64 0, .string { data := #[] }, .int .i64 0, .int .i64 0, .int .i64 0, .int .i64 0, .string t.s, .slice none 0 0] 31)) (w.heap.size + 1) := HX.kept (y := x) (by repeat (with_reducible first | exact Kept.refl _ _ | refine Kept.setCell ?_ _ _ | refine Kept.alloc ?_ _ | refine Kept.drew ?_ _)) ne2
 have L2 : NLoc ((W.setCell ⟨x, 1, none⟩ (.int .i64 ((k : Int) + 2))).alloc (.cells #[.int .i64 6, .int .i64 0, .int .i64 0, .string { data := #[] }, .int .i64 0, .int .i64 0, .int .i64 0, .int .i64 0, .string t.s, .slice none 0 0] 31)) (w.heap.size + 2) (callFld t.s) none 0 0 := ⟨by rw [← z1]; exact heap_alloc_new _ _⟩
 go_enter func197, ntmps197
 go_wp2_with fail
 clear c0 c1 c2 c3 c4 c5 y1 y3 y4 y5 H0 H1 T1 HX HT K0 q0 q1 q2 q3
 generalize hV : ((W.setCell ⟨x, 1, none⟩ (.int .i64 ((k : Int) + 2))).alloc (.cells #[.int .i64 6, .int .i64 0, .int .i64 0, .string { data := #[] }, .int .i64 0, .int .i64 0, .int .i64 0, .int .i64 0, .string t.s, .slice none 0 0] 31)) = V at *
 clear hV hW
 refine (rsign [41] V H2 hl).mono ?_; rintro e w3 ⟨rfl, q, rfl⟩
 rw [hs]
 clear z1 s2
 have HST : Hid (RArgs w x lv l en nest t L into O 0 (V.drewN q)) := hid ⟨.nil, k + 2, none, 0, rfl, by omega, L2.kept ((Kept.refl x V).drew q) nl2, AS.nil _ _, K2.drew q, X2.kept ((Kept.refl x V).drew q) ne2, H2.drew q, E.out⟩
 clear H2 X2 L2 K2 hs E HO
 go_wp2_with fail
 go_loopw [6] (fun iv wr => ∃ i : Nat, i ≤ 10 ∧ iv = .int .i64 i ∧ Hid (RArgs w x lv l en nest t L into O i wr)) (fun iv _ => 10 - (intOf iv).toNat)
 case atStart => exact ⟨0, by omega, rfl, HST⟩
 case round =>
   clear HST
   obtain ⟨i, hi10, rfl, HR⟩ := hrel
   obtain ⟨fo, k', A, c, hlen, hk', hN, hA, hK, hX, hP, hO⟩ := HR.out
   clear HR
   have HA := hid hA
   have HO := hid hO
   have HLEN := hid hlen
   clear hA hO hlen
   have ltx := hX.lt
   have ltn := hN.lt
   have t4 : (i : Int) < 400 := by omega
   by_cases h10 : i = 10
   · have t10 : ((i : Int) == 10) = true := beq_iff_eq.2 (by omega)
     have E2 : Hid (O = .error (badAt l en k')) := hid (after_err HO.out (by rw [show 10 - i = 0 from by omega]; exact args_end))
     go_wp2_with fail
     refine (rbad wr hP hl).mono ?_; rintro e w8 ⟨rfl, H8, k8⟩
     have K8 := hK.trans k8
     have X8 := hX.kept k8 ne2
     have N8 := hN.kept k8 nl2
     obtain ⟨f0, f1, f2, f3, f4, f5, f6, f7, f8, f9, z0, z1, z2, z3, z4, z5, z6, z7, z8, z9⟩ := (X8).cells
     obtain ⟨a0, a1, a2, a3, a4, a5, a6, a7, a8, a9, az0, az1, az2, az3, az4, az5, az6, az7, az8, az9⟩ := (N8).cells
     obtain ⟨c0, c1, c2, c3, c4, c5, y1, y3, y4, y5⟩ := (H8).at_.cells
     go_wp2_with fail
     rw [E2.out]
     refine bodyPost_ret (v := .agg (jN (callFld t.s) A i c)) (by simp [results, results197, go_sem, f0, f1, f2, f3, f4, f5, f6, f7, f8, f9, h10]) rfl  (PPost.err (b := w.heap.size + 1) K8 H8 (nodeV_any (callFld t.s) _ _ _) (by show (13 : Int) ≠ 0; decide) (Int.le_refl _) (by omega) (by omega) hxw ?_)
     repeat (with_reducible first | exact Kept.refl _ _ | refine Kept.setCell ?_ _ _)
   · have t10 : ((i : Int) == 10) = false := beq_eq_false_iff_ne.2 (by omega)
     obtain ⟨r, hr⟩ : ∃ r, 10 - i = r + 1 := ⟨10 - i - 1, by omega⟩
     have HRR := hid hr
     clear hr
     obtain ⟨c0, c1, c2, c3, c4, c5, y1, y3, y4, y5⟩ := (hP).at_.cells
     go_wp2_with fail
     clear c0 c1 c2 c3 c4 c5 y1 y3 y4 y5
     by_cases hin : nest < 40
     rotate_left
     · have hif := hid (show into = false by rw [HIN.out]; exact decide_eq_false hin)
       have E2 : Hid (O = .error deepE) := hid (after_err HO.out (by rw [HRR.out]; exact args_deep hif.out))
       refine (rinto_no wr hP (by omega) (by omega)).mono ?_; rintro e w8 ⟨rfl, H8, k8⟩
       have K8 := hK.trans k8
       have X8 := hX.kept k8 ne2
       have N8 := hN.kept k8 nl2
       obtain ⟨f0, f1, f2, f3, f4, f5, f6, f7, f8, f9, z0, z1, z2, z3, z4, z5, z6, z7, z8, z9⟩ := (X8).cells
       obtain ⟨a0, a1, a2, a3, a4, a5, a6, a7, a8, a9, az0, az1, az2, az3, az4, az5, az6, az7, az8, az9⟩ := (N8).cells
       go_wp2_with fail
       rw [E2.out]
       refine bodyPost_ret (v := .agg (jN (callFld t.s) A i c)) (by simp [results, results197, go_sem, f0, f1, f2, f3, f4, f5, f6, f7, f8, f9]) rfl  (PPost.err (b := w.heap.size + 1) K8 H8 (nodeV_any (callFld t.s) _ _ _) (by decide) (by omega) (by omega) (by omega) hxw ?_)
       repeat (with_reducible first | exact Kept.refl _ _ | refine Kept.setCell ?_ _ _)
     · have hit := hid (show into = true by rw [HIN.out]; exact decide_eq_true hin)
       have HC := hid (HCC.out hit.out)
       refine (rinto_yes wr hP hn0 hin).mono ?_; rintro e w5 ⟨rfl, H5, k5⟩
       have K5 := hK.trans k5
       have X5 := hX.kept k5 ne2
       have N5 := hN.kept k5 nl2
       have A5 := hid (HA.out.kept k5 (by omega))
       have N5d := N5.kept ((Kept.refl x w5).drew 1) nl2
       have s5 : w.heap.size + 3 ≤ w5.heap.size := N5.lt
       clear hP hK hX hN HA k5 ltx ltn
       go_upto_region 16 with fail
       go_cut [6] from 53 to 59 (fun s6 wc => s6 = .int .i64 i ∧ Hid (RArg w x lv l en nest t.s i fo (L.fm k') wc))
       case first =>
         obtain ⟨-, -, -, -, -, -, -, -, -, a9, -, -, -, -, -, -, -, -, -, az9⟩ := (N5).cells
         go_region_law (first
           | (refine step_append_lies _ (by rfl) (.tmp 54) (.tmp 57) _ (by rfl) (w.heap.size + 3) 31 i0 _ 10 112 underlying29 HI0.out HZ0.out HZ1.out HZ2.out rfl (by omega) (.slice A i c) i (ncells vs) (by rfl) (HLEN.out ▸ HOWN.out) ⟨w6.heap.size, 0, none⟩ 1 1 [.int .i64 f.k, .int .i64 f.vk, .int .i64 f.vn, .string f.vs, .int .i64 f.r1, .int .i64 f.r2, .int .i64 f.r3, .int .i64 f.r4, .string f.op, .slice A6 m c6] (by rfl) (by rfl) (World.news_of_block HNB.out) (by simp [Value.oneCell']) (by omega) (by unfold maxLen; omega) (by omega) s7 (w6.heap.size + 1) (by simp) ?_
              intro g cap w9 hown9 hgrow9 hat9 hlt9
              obtain ⟨y9, k9, hy9⟩ := grown_kept hgrow9
              have hyb9 : w.heap.size + 3 ≤ y9 := (by
                rcases hy9 with h | h
                · exact (HLO.out y9 h).1
                · omega)
              have N9 := N7.kept k9 (by omega)
              obtain ⟨-, -, -, -, -, -, -, -, -, e9, -, -, -, -, -, -, -, -, -, ez9⟩ := (N9).cells)
           | (go_simp
              go_at_call 30
              refine (HC.out.fm k' _ (by omega) H5.drew1).mono ?_; intro e w6 hp6
              obtain ⟨f, A6, m, c6, rfl, k6, hm6⟩ := post_split hp6
              have s6 : w.heap.size + 3 ≤ w6.heap.size := Nat.le_trans s5 k6.size
              have kA : Kept x w6 (w6.alloc (.cells (jN f A6 m c6) 31)) := (Kept.refl x w6).alloc _
              have N6 := N5d.kept k6 nl2
              have lt6 := N6.lt
              have ne6 : w.heap.size + 2 ≠ w6.heap.size := Nat.ne_of_lt lt6
              have N7 := N6.kept kA nl2
              have X7 := ((X5.kept ((Kept.refl x w5).drew 1) ne2).kept k6 ne2).kept kA ne2
              have K7 := ((K5.drew 1).trans k6).trans kA
              have A7 : AS (w6.alloc (.cells (jN f A6 m c6) 31)) (w.heap.size + 3) (.slice A i c) fo := ((A5.out.kept ((Kept.refl x w5).drew 1) (by omega)).kept k6 (by omega)).kept kA (by omega)
              have hlo5 := A5.out.lt
              have hlo := A7.lt
              have hm7 : (∃ kd k2, L.fm k' = .ok (⟨f, kd⟩, k2) ∧ kd.len = m ∧ KidsAt (w6.alloc (.cells (jN f A6 m c6) 31)) (fun g => (w.heap.size + 3) ≤ g ∧ Value.ownBlock (.slice A i c) ≠ some g) kd A6 ∧ Pre (w6.alloc (.cells (jN f A6 m c6) 31)) x lv l en (k2 : Nat) (nest + 1) 0 0) ∨
                  (∃ (b : Bad) (k2 n2 : Int), L.fm k' = .error b ∧ b.1 ≠ 0 ∧ nest + 1 ≤ n2 ∧ n2 ≤ nest + 1 + 1 ∧ Pre (w6.alloc (.cells (jN f A6 m c6) 31)) x lv l en k2 n2 b.1 b.2) := by
                rcases hm6 with ⟨kd, k2, h1, h2, h3, h4⟩ | ⟨b, k2, n2, h1, h2, h3, h4, h5⟩
                · exact Or.inl ⟨kd, k2, h1, h2, h3.keep kA (fun g hg hl => ⟨by have : x < w5.heap.size := H5.at_.lt; have : w5.drew.heap.size = w5.heap.size := rfl; omega, by have : w5.drew.heap.size = w5.heap.size := rfl; omega, fun e => by have := hlo5 g e; have : w5.drew.heap.size = w5.heap.size := rfl; omega⟩), h4.alloc _⟩
                · exact Or.inr ⟨b, k2, n2, h1, h2, h3, h4, h5.alloc _⟩
              obtain ⟨vs, hown7, hvs7⟩ := A7
              have HOWN := hid hown7
              have HVS := hid hvs7
              have HM7 := hid hm7
              have HNB := hid (heap_alloc_new w6 (.cells (jN f A6 m c6) 31))
              have s7 : w.heap.size + 3 ≤ (w6.alloc (.cells (jN f A6 m c6) 31)).heap.size := Nat.le_trans s6 kA.size
              have HLO := hid hlo
              clear hown7 hvs7 hm7 hm6 hlo hlo5 kA hp6
              obtain ⟨-, -, -, -, -, -, -, -, -, b9, -, -, -, -, -, -, -, -, -, bz9⟩ := (N6).cells
              unfold nodeV))
         all_goals (go_wp2_with fail)
         all_goals (go_meet)
         all_goals exact ⟨rfl, hid (rarg_mk hxw HLEN.out N7 K7 X7 s7 HVS.out HLO.out HM7.out hown9 hgrow9 (hat9.imp id (fun e => e.trans (heap_one _ _).symm)))⟩
       case rest =>
       obtain ⟨rfl, hcut⟩ := hcut
       obtain ⟨A9, c9, N9, K9, X9, hm9⟩ := hcut.out
       clear hcut H5 K5 X5 N5 N5d A5 s5
       have ltx := X9.lt
       have ltn := N9.lt
       have nbl : w.heap.size + 1 ≠ w.heap.size + 2 := by omega
       have nlb : w.heap.size + 2 ≠ w.heap.size + 1 := by omega
       rcases hm9 with ⟨a, k2, ho, hA9, hP9⟩ | ⟨b, k2, n2, ho, hb0, h1, h2, hP9⟩
       · have hg := hL.fm _ _ _ ho
         have HF := hid ho
         have HA9 := hid hA9
         clear ho hA9
         have H8 := hP9.setN (nest + 1 - 1)
         have K8 := K9.setCell 3 (.int .i64 (nest + 1 - 1))
         have X8 := X9.kept ((Kept.refl x wc).setCell 3 (.int .i64 (nest + 1 - 1))) ne2
         have N8 := N9.kept ((Kept.refl x wc).setCell 3 (.int .i64 (nest + 1 - 1))) nl2
         have A8 := hid (HA9.out.kept ((Kept.refl x wc).setCell 3 (.int .i64 (nest + 1 - 1))) (by omega))
         obtain ⟨c0, c1, c2, c3, c4, c5, y1, y3, y4, y5⟩ := (hP9).at_.cells
         rw [show nest + 1 - 1 = nest from by omega] at H8 K8 X8 N8 A8
         generalize hV8 : (wc.setCell ⟨x, 3, none⟩ (.int .i64 nest)) = V8 at *
         clear X9 N9 K9 ltx ltn
         go_wp2_with fail
         clear c0 c1 c2 c3 c4 c5 y1 y3 y4 y5
         rw [B44.out]
         refine (rsign [44] V8 H8 hl).mono ?_; rintro e w1 ⟨rfl, q2, rfl⟩
         clear hV8
         have ltx : w.heap.size + 1 < V8.heap.size := X8.lt
         have ltn : w.heap.size + 2 < V8.heap.size := N8.lt
         have H1 := H8.drew q2
         have K1 := K8.drew q2
         have X1 := X8.kept ((Kept.refl x V8).drew q2) ne2
         have N1 := N8.kept ((Kept.refl x V8).drew q2) nl2
         have A1 := hid (A8.out.kept ((Kept.refl x V8).drew q2) (by omega))
         clear A8
         cases hs : isSign l k2 [44] with
         | true =>
           have hlt := sign_lt hs
           have EN : Hid (O = afterF l en t (argsF l en L into (10 - (i + 1)) (fo.app a.one) (k2 + 1))) := hid (by rw [HO.out, HRR.out, args_more hit.out HF.out hs, show 10 - (i + 1) = r from by have := HRR.out; omega])
           obtain ⟨c0, c1, c2, c3, c4, c5, y1, y3, y4, y5⟩ := (H1).at_.cells
           go_wp2_with fail
           go_roundw
           case rel => exact ⟨i + 1, by omega, by go_num, hid ⟨fo.app a.one, k2 + 1, A9, c9, by rw [Fo.len_app, HLEN.out]; rfl, by omega, N1.kept ((Kept.refl x (V8.drewN q2)).setCell 1 _) nl2, A1.out.kept ((Kept.refl x (V8.drewN q2)).setCell 1 _) (by omega), K1.setCell 1 _, X1.kept ((Kept.refl x (V8.drewN q2)).setCell 1 _) ne2, (H1.setK _).ek (by omega), EN.out⟩⟩
           case measure => simp [intOf]; omega
         | false =>
           have EL : Hid (argsF l en L into (10 - i) fo k' = .ok (fo.app a.one, k2)) := hid (by rw [HRR.out]; exact args_last hit.out HF.out hs)
           go_wp2_with fail
           cases hs2 : isSign l k2 [41] with
           | true =>
             have E2 : Hid (O = .ok (callN t.s (fo.app a.one), k2 + 1)) := hid (after_ok HO.out EL.out hs2)
             refine (rclose_ok _ H1 hl (by omega) hs2).mono ?_; rintro e w9 ⟨rfl, H9, k9⟩
             have K9 := K1.trans k9
             have X9 := X1.kept k9 ne2
             have N9 := N1.kept k9 nl2
             have HA := A1.out.kids
             obtain ⟨f0, f1, f2, f3, f4, f5, f6, f7, f8, f9, z0, z1, z2, z3, z4, z5, z6, z7, z8, z9⟩ := (X9).cells
             obtain ⟨a0, a1, a2, a3, a4, a5, a6, a7, a8, a9, az0, az1, az2, az3, az4, az5, az6, az7, az8, az9⟩ := (N9).cells
             go_wp2_with fail
             rw [E2.out]
             refine bodyPost_ret (v := .agg (jN (callFld t.s) A9 (i + 1) c9)) (by simp [results, results197, go_sem, f0, f1, f2, f3, f4, f5, f6, f7, f8, f9]) rfl (PPost.ok (b := w.heap.size + 1) K9 H9 ⟨A9, c9, by rw [show (callN t.s (fo.app a.one)).kids.len = i + 1 from HA.2]; rfl, HA.1.keep (Q := fun g => w.heap.size + 1 < g) k9 (fun g hg hl => ⟨by omega, by omega⟩)⟩ (by omega) hxw ?_)
             repeat (with_reducible first | exact Kept.refl _ _ | refine Kept.setCell ?_ _ _)
           | false =>
             have E2 : Hid (O = .error (badAt l en k2)) := hid (after_bad HO.out EL.out hs2)
             refine (rclose_bad _ H1 hl hs2).mono ?_; rintro e w9 ⟨rfl, H9, k9⟩
             have K9 := K1.trans k9
             have X9 := X1.kept k9 ne2
             have N9 := N1.kept k9 nl2
             obtain ⟨f0, f1, f2, f3, f4, f5, f6, f7, f8, f9, z0, z1, z2, z3, z4, z5, z6, z7, z8, z9⟩ := (X9).cells
             obtain ⟨a0, a1, a2, a3, a4, a5, a6, a7, a8, a9, az0, az1, az2, az3, az4, az5, az6, az7, az8, az9⟩ := (N9).cells
             go_wp2_with fail
             rw [E2.out]
             refine bodyPost_ret (v := .agg (jN (callFld t.s) A9 (i + 1) c9)) (by simp [results, results197, go_sem, f0, f1, f2, f3, f4, f5, f6, f7, f8, f9]) rfl  (PPost.err (b := w.heap.size + 1) K9 H9 (nodeV_any (callFld t.s) _ _ _) (by show (13 : Int) ≠ 0; decide) (Int.le_refl _) (by omega) (by omega) hxw ?_)
             repeat (with_reducible first | exact Kept.refl _ _ | refine Kept.setCell ?_ _ _)
       · have E2 : Hid (O = .error b) := hid (after_err HO.out (by rw [HRR.out]; exact args_bad hit.out ho))
         clear ho
         have H8 := hP9.setN (n2 - 1)
         have K8 := K9.setCell 3 (.int .i64 (n2 - 1))
         have X8 := X9.kept ((Kept.refl x wc).setCell 3 (.int .i64 (n2 - 1))) ne2
         have N8 := N9.kept ((Kept.refl x wc).setCell 3 (.int .i64 (n2 - 1))) nl2
         obtain ⟨c0, c1, c2, c3, c4, c5, y1, y3, y4, y5⟩ := (hP9).at_.cells
         generalize hV8 : (wc.setCell ⟨x, 3, none⟩ (.int .i64 (n2 - 1))) = V8 at *
         clear X9 N9 K9 ltx ltn
         go_wp2_with fail
         clear c0 c1 c2 c3 c4 c5 y1 y3 y4 y5
         rw [B44.out]
         refine (rsign_no [44] V8 H8 hb0).mono ?_; rintro e w1 ⟨rfl, q2, rfl⟩
         clear hV8
         have ltx : w.heap.size + 1 < V8.heap.size := X8.lt
         have ltn : w.heap.size + 2 < V8.heap.size := N8.lt
         have H1 := H8.drew q2
         have K1 := K8.drew q2
         have X1 := X8.kept ((Kept.refl x V8).drew q2) ne2
         have N1 := N8.kept ((Kept.refl x V8).drew q2) nl2
         go_wp2_with fail
         refine (rclose_no _ H1 hb0).mono ?_; rintro e w9 ⟨rfl, H9, k9⟩
         have K9 := K1.trans k9
         have X9 := X1.kept k9 ne2
         have N9 := N1.kept k9 nl2
         obtain ⟨f0, f1, f2, f3, f4, f5, f6, f7, f8, f9, z0, z1, z2, z3, z4, z5, z6, z7, z8, z9⟩ := (X9).cells
         obtain ⟨a0, a1, a2, a3, a4, a5, a6, a7, a8, a9, az0, az1, az2, az3, az4, az5, az6, az7, az8, az9⟩ := (N9).cells
         go_wp2_with fail
         rw [E2.out]
         refine bodyPost_ret (v := .agg (jN (callFld t.s) A9 (i + 1) c9)) (by simp [results, results197, go_sem, f0, f1, f2, f3, f4, f5, f6, f7, f8, f9]) rfl  (PPost.err (b := w.heap.size + 1) K9 H9 (nodeV_any (callFld t.s) _ _ _) hb0 (by omega) (by omega) (by omega) hxw ?_)
         repeat (with_reducible first | exact Kept.refl _ _ | refine Kept.setCell ?_ _ _)
end Go.Proofs.YticehalcnbjccaaGreatDoor.TreeC
