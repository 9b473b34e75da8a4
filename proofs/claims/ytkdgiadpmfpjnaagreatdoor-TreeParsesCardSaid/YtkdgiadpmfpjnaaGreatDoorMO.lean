/-
  Contract of tree's reference: name, a cell and : behind it.
-/
import Derived.Test.YtkdgiadpmfpjnaaGreatDoorML
import Derived.Deep.CutRange
namespace Go.Proofs.YtkdgiadpmfpjnaaGreatDoor.TreeC
set_option linter.unusedVariables false
open Go.RowKit Go.Proofs.YtkdgiadpmfpjnaaGreatDoor.NumC Go.Proofs.YtkdgiadpmfpjnaaGreatDoor.LexC

section
variable {l : List Tok} {n : Int} {L : Lev} {into : Bool} {k : Nat} {t u : Tok}
theorem name_lacks (h : isSign l (k + 1) [40] = false) (h1 : t.s ≠ trueB) (h2 : t.s ≠ falseB) (h3 : AddrC.pOK t.s.data.toList = true) (h4 : isSign l (k + 1) [58] = true) (h5 : l.length ≤ k + 2) : nameF l n L into t k = .error (badAt l n (k + 2)) := by
  unfold nameF
  rw [if_neg (by rw [h]; exact Bool.false_ne_true), if_neg h1, if_neg h2, if_neg (by rw [h3]; decide), if_pos h4]
  simp only [List.getElem?_eq_none h5]
theorem name_second (h : isSign l (k + 1) [40] = false) (h1 : t.s ≠ trueB) (h2 : t.s ≠ falseB) (h3 : AddrC.pOK t.s.data.toList = true) (h4 : isSign l (k + 1) [58] = true) (h5 : l[k + 2]? = some u) (h6 : ¬ (u.k = 3 ∧ isSign l (k + 3) [40] = false ∧ AddrC.pOK u.s.data.toList = true)) : nameF l n L into t k = .error (badAt l n (k + 2)) := by
  unfold nameF
  rw [if_neg (by rw [h]; exact Bool.false_ne_true), if_neg h1, if_neg h2, if_neg (by rw [h3]; decide), if_pos h4]
  simp only [h5]
  rw [if_neg h6]
theorem name_range (h : isSign l (k + 1) [40] = false) (h1 : t.s ≠ trueB) (h2 : t.s ≠ falseB) (h3 : AddrC.pOK t.s.data.toList = true) (h4 : isSign l (k + 1) [58] = true) (h5 : l[k + 2]? = some u) (h6 : u.k = 3 ∧ isSign l (k + 3) [40] = false ∧ AddrC.pOK u.s.data.toList = true) : nameF l n L into t k =
    .ok (rangeN (AddrC.mA (AddrC.pR t.s.data.toList) (AddrC.pC t.s.data.toList) (AddrC.pR u.s.data.toList) (AddrC.pC u.s.data.toList))
      (AddrC.mB (AddrC.pR t.s.data.toList) (AddrC.pC t.s.data.toList) (AddrC.pR u.s.data.toList) (AddrC.pC u.s.data.toList))
      (AddrC.mC (AddrC.pR t.s.data.toList) (AddrC.pC t.s.data.toList) (AddrC.pR u.s.data.toList) (AddrC.pC u.s.data.toList))
      (AddrC.mD (AddrC.pR t.s.data.toList) (AddrC.pC t.s.data.toList) (AddrC.pR u.s.data.toList) (AddrC.pC u.s.data.toList)), k + 3) := by
  unfold nameF
  rw [if_neg (by rw [h]; exact Bool.false_ne_true), if_neg h1, if_neg h2, if_neg (by rw [h3]; decide), if_pos h4]
  simp only [h5]
  rw [if_pos h6]
end
theorem GLoc.store {w : World} {b : Nat} {a0 a1 a2 : Value} (h : w.heap[b]? = some (.cells #[a0, a1, a2] 183 (0, 0))) {r c : Int} {ok : Bool} :
    GLoc (((w.setCell ⟨b, 0, none⟩ (.int .i64 r)).setCell ⟨b, 1, none⟩ (.int .i64 c)).setCell ⟨b, 2, none⟩ (.bool ok)) b r c ok := ⟨by simp [World.setCell, Array.getElem?_modify, h]⟩
theorem got_block {U w9 : World} {o : Array Value} {T : Nat} (k9 : Below ((U.alloc (.cells o T)).drew).heap.size (U.alloc (.cells o T)).drew w9) : w9.heap[U.heap.size]? = some (.cells o T (0, 0)) :=
  (k9.block U.heap.size (Array.getElem?_eq_some_iff.1 (heap_alloc_new U (.cells o T))).1).trans (heap_alloc_new U _)
theorem got_cells {w : World} {b T : Nat} {a0 a1 a2 : Value} (h : w.heap[b]? = some (.cells #[a0, a1, a2] T (0, 0))) : w.cell? ⟨b, 0, none⟩ = some a0 ∧ w.cell? ⟨b, 1, none⟩ = some a1 ∧ w.cell? ⟨b, 2, none⟩ = some a2 ∧ w.frozen? ⟨b, 0, none⟩ = false ∧ w.frozen? ⟨b, 1, none⟩ = false ∧ w.frozen? ⟨b, 2, none⟩ = false := by
  refine ⟨?_, ?_, ?_, ?_, ?_, ?_⟩ <;> simp [World.cell?, World.frozen?, h]
/-- Both tokens read: addr's answers in blocks of their own. -/
structure Two (w : World) (b2 hb x : Nat) (lv : Value) (l : List Tok) (en kk nest : Int) (r c r' c' : Int) (ok ok' : Bool) (wc : World) : Prop where
  H : Pre wc x lv l en kk nest 0 0
  K : Kept x w wc
  X : NBox wc (w.heap.size + 1)
  G : GLoc wc b2 r c ok
  N : GLoc wc hb r' c' ok'
  lt : x < hb ∧ w.heap.size + 1 < hb ∧ b2 < hb
section
variable {w Z w9 : World} {b2 x : Nat} {lv : Value} {l : List Tok} {en kk nest r c r' c' : Int} {ok ok' : Bool}
theorem two_kept {hb : Nat} {wc : World} (H : Pre Z x lv l en kk nest 0 0) (K : Kept x w Z) (X : NBox Z (w.heap.size + 1)) (G : GLoc Z b2 r c ok) (hx : x < w.heap.size) (h2 : w.heap.size < b2) (KU : ∀ y, Kept y Z wc) (N : GLoc wc hb r' c' ok') (hs : Z.heap.size ≤ hb) : Two w b2 hb x lv l en kk nest r c r' c' ok ok' wc := by
  have x1 := X.lt
  have x2 := G.lt
  exact ⟨H.kept (KU (x + 1)) (by omega), K.trans (KU x), X.kept (KU x) (by omega), G.kept (KU x) (by omega), N, by omega, by omega, by omega⟩
theorem two_first (H : Pre Z x lv l en kk nest 0 0) (K : Kept x w Z) (X : NBox Z (w.heap.size + 1)) (G : GLoc Z b2 r c ok) (hx : x < w.heap.size) (h2 : w.heap.size < b2) (k9 : Below ((Z.alloc (.cells #[.int .i64 0, .int .i64 0, .bool false] 183)).drew).heap.size (Z.alloc (.cells #[.int .i64 0, .int .i64 0, .bool false] 183)).drew w9) :
    Two w b2 Z.heap.size x lv l en kk nest r c r' c' ok ok' (((w9.setCell ⟨Z.heap.size, 0, none⟩ (.int .i64 r')).setCell ⟨Z.heap.size, 1, none⟩ (.int .i64 c')).setCell ⟨Z.heap.size, 2, none⟩ (.bool ok')) :=
  two_kept H K X G hx h2 (fun y => ((((((Kept.refl y Z).alloc _).drew 1).trans (Kept.of k9)).setNew _ 0 _ (Nat.le_refl _)).setNew _ 1 _ (Nat.le_refl _)).setNew _ 2 _ (Nat.le_refl _)) (GLoc.store (got_block k9)) (Nat.le_refl _)
theorem two_last (H : Pre Z x lv l en kk nest 0 0) (K : Kept x w Z) (X : NBox Z (w.heap.size + 1)) (G : GLoc Z b2 r c ok) (hx : x < w.heap.size) (h2 : w.heap.size < b2) (k9 : Below Z.drew.heap.size Z.drew w9) :
    Two w b2 w9.heap.size x lv l en kk nest r c r' c' ok ok' (w9.alloc (.cells #[.int .i64 r', .int .i64 c', .bool ok'] 183)) :=
  two_kept H K X G hx h2 (fun y => (((Kept.refl y Z).drew 1).trans (Kept.of k9)).alloc _) ⟨heap_alloc_new _ _⟩ k9.size
end
theorem drewn_of {P : Program} {f : FuncId} {args : Array Value} {W : World} {q : Nat} {v : Value} (h : Calls P f args (W.drewN q) fun e w' => e = .returned v ∧ ∃ n, w' = (W.drewN q).drewN n) : Calls P f args (W.drewN q) fun e w' => e = .returned v ∧ ∃ q', w' = W.drewN q' :=
  h.mono fun e w' ⟨h1, n, h2⟩ => ⟨h1, q + n, by rw [h2]; simp [World.drewN, Nat.add_assoc]⟩

set_option maxRecDepth 100000 in
set_option maxHeartbeats 4000000 in
theorem rname_lacks {x : Nat} {lv : Value} {l : List Tok} {en nest : Int} {L : Lev} {into : Bool} {k : Nat} {t : Tok} (w : World) (h : Pre w x lv l en k nest 0 0) (hl : l.length ≤ 300) (hk : k ≤ 400)
    (hts : t.s.size ≤ 1000000) (hs : isSign l (k + 1) [40] = false) (h1 : t.s ≠ trueB) (h2 : t.s ≠ falseB) (h3 : AddrC.pOK t.s.data.toList = true) (h4 : isSign l (k + 1) [58] = true) (h5 : l.length ≤ k + 2) :
    Calls Tryz.prog 135 #[.pointer (some ⟨x, 0, none⟩), tokV t] w (PPost x lv l en nest (nameF l en L into t k) w) := by
  have hxw := h.at_.lt
  have H0 := (h.alloc (.cells #[.int .i64 t.k, .int .i64 t.n, .string t.s, .int .i64 t.at_] 71)).alloc (.cells #[.int .i64 0, .int .i64 0, .int .i64 0, .string { data := #[] }, .int .i64 0, .int .i64 0, .int .i64 0, .int .i64 0, .string { data := #[] }, .slice none 0 0] 31)
  have K0 : Kept x w ((w.alloc (.cells #[.int .i64 t.k, .int .i64 t.n, .string t.s, .int .i64 t.at_] 71)).alloc (.cells #[.int .i64 0, .int .i64 0, .int .i64 0, .string { data := #[] }, .int .i64 0, .int .i64 0, .int .i64 0, .int .i64 0, .string { data := #[] }, .slice none 0 0] 31)) := ((Kept.refl _ _).alloc _).alloc _
  have s1 : (w.alloc (.cells #[.int .i64 t.k, .int .i64 t.n, .string t.s, .int .i64 t.at_] 71)).heap.size = w.heap.size + 1 := heap_one _ _
  have HX : NBox ((w.alloc (.cells #[.int .i64 t.k, .int .i64 t.n, .string t.s, .int .i64 t.at_] 71)).alloc (.cells #[.int .i64 0, .int .i64 0, .int .i64 0, .string { data := #[] }, .int .i64 0, .int .i64 0, .int .i64 0, .int .i64 0, .string { data := #[] }, .slice none 0 0] 31)) (w.heap.size + 1) := by have := NBox.new (w.alloc (.cells #[.int .i64 t.k, .int .i64 t.n, .string t.s, .int .i64 t.at_] 71)); rwa [s1] at this
  have HT0 : TLoc (w.alloc (.cells #[.int .i64 t.k, .int .i64 t.n, .string t.s, .int .i64 t.at_] 71)) w.heap.size t := ⟨heap_alloc_new _ _⟩
  have HT := HT0.kept ((Kept.refl x (w.alloc (.cells #[.int .i64 t.k, .int .i64 t.n, .string t.s, .int .i64 t.at_] 71))).alloc (.cells #[.int .i64 0, .int .i64 0, .int .i64 0, .string { data := #[] }, .int .i64 0, .int .i64 0, .int .i64 0, .int .i64 0, .string { data := #[] }, .slice none 0 0] 31)) (by omega)
  clear s1 HT0
  generalize hW : ((w.alloc (.cells #[.int .i64 t.k, .int .i64 t.n, .string t.s, .int .i64 t.at_] 71)).alloc (.cells #[.int .i64 0, .int .i64 0, .int .i64 0, .string { data := #[] }, .int .i64 0, .int .i64 0, .int .i64 0, .int .i64 0, .string { data := #[] }, .slice none 0 0] 31)) = W at *
  have ne1 : x ≠ w.heap.size + 1 := by omega
  have ne2 : w.heap.size + 1 ≠ x := by omega
  have nt1 : x ≠ w.heap.size := by omega
  have nt2 : w.heap.size ≠ x := by omega
  have lt0 := HX.lt
  have HC0 := Lib.hid (rcalled W H0 hl (by omega))
  generalize hO : nameF l en L into t k = O
  have HO := Lib.hid hO.symm
  clear h hO
  unfold tokV
  have E := Lib.hid (HO.out.trans (name_lacks hs h1 h2 h3 h4 h5))
  have hb1 := Lib.hid h1
  have hb2 := Lib.hid h2
  have hb3 := Lib.hid h3
  have hb4 := Lib.hid h4
  have B58 : Hid (({ data := #[58] } : ByteArray) = str [58]) := Lib.hid rfl
  clear h1 h2 h3 h4
  rw [hs] at HC0
  go_enter Tryz.func135, Tryz.ntmps135
  go_wp2_with fail
  refine HC0.out.mono ?_; rintro e w1 ⟨rfl, n, rfl⟩
  have H1 := H0.drew n
  have K1 := K0.drew n
  have X1 := HX.kept ((Kept.refl x W).drew n) ne2
  have T1 := HT.kept ((Kept.refl x W).drew n) nt2
  generalize hV : W.drewN n = V at *
  have b1 := X1.lt
  obtain ⟨q0, q1, q2, q3⟩ := T1.cells
  have HPA := Lib.hid (AddrC.raparse t.s V (by omega))
  have g1 : (t.s.toList == [84, 82, 85, 69]) = false := bytes_ne hb1.out
  have g2 : (t.s.toList == [70, 65, 76, 83, 69]) = false := bytes_ne hb2.out
  go_wp2_with fail
  refine HPA.out.mono ?_; rintro e w2 ⟨rfl, k2⟩
  clear g1 g2 q0 q1 q2 q3
  have K2 := K1.trans (Kept.of (x := x) k2)
  have H2 := pre_below H1 k2
  have X2 := X1.kept (Kept.of (x := x) k2) ne2
  have T2 := T1.kept (Kept.of (x := x) k2) nt2
  have b2 := X2.lt
  have K3 := K2.alloc (.cells #[.int .i64 (AddrC.pR t.s.data.toList), .int .i64 (AddrC.pC t.s.data.toList), .bool (AddrC.pOK t.s.data.toList)] 183)
  have H3 := H2.alloc (.cells #[.int .i64 (AddrC.pR t.s.data.toList), .int .i64 (AddrC.pC t.s.data.toList), .bool (AddrC.pOK t.s.data.toList)] 183)
  have X3 := X2.kept ((Kept.refl x w2).alloc (.cells #[.int .i64 (AddrC.pR t.s.data.toList), .int .i64 (AddrC.pC t.s.data.toList), .bool (AddrC.pOK t.s.data.toList)] 183)) ne2
  have G3 : GLoc (w2.alloc (.cells #[.int .i64 (AddrC.pR t.s.data.toList), .int .i64 (AddrC.pC t.s.data.toList), .bool (AddrC.pOK t.s.data.toList)] 183)) w2.heap.size (AddrC.pR t.s.data.toList) (AddrC.pC t.s.data.toList) (AddrC.pOK t.s.data.toList) := ⟨heap_alloc_new _ _⟩
  have ng : x ≠ w2.heap.size := by omega
  have ng2 : w2.heap.size ≠ x := by omega
  have ng3 : w.heap.size + 1 ≠ w2.heap.size := by omega
  have ng4 : w2.heap.size ≠ w.heap.size + 1 := by omega
  have b3 := X3.lt
  generalize hG : (w2.alloc (.cells #[.int .i64 (AddrC.pR t.s.data.toList), .int .i64 (AddrC.pC t.s.data.toList), .bool (AddrC.pOK t.s.data.toList)] 183)) = Y at *
  obtain ⟨a0, a1, a2⟩ := G3.cells
  rw [hb3.out] at a2
  have H4 := H3.setK ((k : Int) + 1)
  have K4 := K3.setCell 1 (.int .i64 ((k : Int) + 1))
  have X4 := X3.kept ((Kept.refl x Y).setCell 1 (.int .i64 ((k : Int) + 1))) ne2
  have G4 := G3.kept ((Kept.refl x Y).setCell 1 (.int .i64 ((k : Int) + 1))) ng2
  obtain ⟨c0, c1, c2, c3, c4, c5, y1, y3, y4, y5⟩ := (H3).at_.cells
  generalize hU : (Y.setCell ⟨x, 1, none⟩ (.int .i64 ((k : Int) + 1))) = U at *
  go_wp2_with fail
  rw [show ((k : Int) + 1) = ((k + 1 : Nat) : Int) from by omega] at H4
  clear c0 c1 c2 c3 c4 c5 y1 y3 y4 y5
  clear a0 a1 a2
  have HS := Lib.hid (rsign [58] U H4 hl)
  rw [hb4.out] at HS
  rw [B58.out]
  refine HS.out.mono ?_; rintro e w5 ⟨rfl, n5, rfl⟩
  have H5 := H4.drew n5
  have K5 := K4.drew n5
  have X5 := X4.kept ((Kept.refl x U).drew n5) ne2
  have G5 := G4.kept ((Kept.refl x U).drew n5) ng2
  generalize hZ : U.drewN n5 = Z5 at *
  have H6 := H5.setK (((k + 1 : Nat) : Int) + 1)
  have K6 := K5.setCell 1 (.int .i64 (((k + 1 : Nat) : Int) + 1))
  have X6 := X5.kept ((Kept.refl x Z5).setCell 1 (.int .i64 (((k + 1 : Nat) : Int) + 1))) ne2
  have G6 := G5.kept ((Kept.refl x Z5).setCell 1 (.int .i64 (((k + 1 : Nat) : Int) + 1))) ng2
  rw [show (((k + 1 : Nat) : Int) + 1) = ((k : Int) + 1 + 1) from by omega] at H6 K6 X6 G6
  obtain ⟨c0, c1, c2, c3, c4, c5, y1, y3, y4, y5⟩ := (H5).at_.cells
  rw [show ((k + 1 : Nat) : Int) = (k : Int) + 1 from by omega] at c1
  generalize hU6 : (Z5.setCell ⟨x, 1, none⟩ (.int .i64 ((k : Int) + 1 + 1))) = U6 at *
  go_wp2_with fail
  clear c0 c1 c2 c3 c4 c5 y1 y3 y4 y5
  rw [show ((k : Int) + 1 + 1) = ((k + 2 : Nat) : Int) from by omega] at H6
  clear hU hZ hG hV hW
  obtain ⟨TA, tc, hlv, hTk⟩ := H6.tok.form
  subst hlv
  obtain ⟨c0, c1, c2, c3, c4, c5, y1, y3, y4, y5⟩ := (H6).at_.cells
  rw [show ((k + 2 : Nat) : Int) = (k : Int) + 1 + 1 from by omega] at c1
  have d1 : decide ((l.length : Int) ≤ (k : Int) + 1 + 1) = true := decide_eq_true (by omega)
  go_quiet (fail)
  go_wp2_with fail
  clear c0 c1 c2 c3 c4 c5 y1 y3 y4 y5
  refine (rbad _ (H6.drew nq) hl).mono ?_; rintro e w8 ⟨rfl, H8, k8⟩
  have K8 := (K6.drew nq).trans k8
  have X8 := (X6.kept ((Kept.refl x U6).drew nq) ne2).kept k8 ne2
  obtain ⟨f0, f1, f2, f3, f4, f5, f6, f7, f8, f9, z0, z1, z2, z3, z4, z5, z6, z7, z8, z9⟩ := (X8).cells
  go_wp2_with fail
  rw [E.out]
  refine bodyPost_ret (v := .agg #[.int .i64 0, .int .i64 0, .int .i64 0, .string { data := #[] }, .int .i64 0, .int .i64 0, .int .i64 0, .int .i64 0, .string { data := #[] }, .slice none 0 0]) (by simp [results, Tryz.results135, go_sem, f0, f1, f2, f3, f4, f5, f6, f7, f8, f9]) rfl (PPost.err (b := w.heap.size + 1) K8 H8 (nodeV_any fld0 _ _ _) (by show (13 : Int) ≠ 0; decide) (Int.le_refl _) (by omega) (by omega) hxw ?_)
  repeat (first | with_reducible exact Kept.refl _ _ | with_reducible refine Kept.setCell ?_ _ _)

set_option maxRecDepth 100000 in
set_option maxHeartbeats 4000000 in
theorem rname_kind {x : Nat} {lv : Value} {l : List Tok} {en nest : Int} {L : Lev} {into : Bool} {k : Nat} {t : Tok} (w : World) (h : Pre w x lv l en k nest 0 0) (hl : l.length ≤ 300) (hk : k ≤ 400)
    {u : Tok} (hts : t.s.size ≤ 1000000) (hs : isSign l (k + 1) [40] = false) (h1 : t.s ≠ trueB) (h2 : t.s ≠ falseB) (h3 : AddrC.pOK t.s.data.toList = true) (h4 : isSign l (k + 1) [58] = true) (h5 : l[k + 2]? = some u) (h6 : u.k ≠ 3) :
    Calls Tryz.prog 135 #[.pointer (some ⟨x, 0, none⟩), tokV t] w (PPost x lv l en nest (nameF l en L into t k) w) := by
  have hxw := h.at_.lt
  have H0 := (h.alloc (.cells #[.int .i64 t.k, .int .i64 t.n, .string t.s, .int .i64 t.at_] 71)).alloc (.cells #[.int .i64 0, .int .i64 0, .int .i64 0, .string { data := #[] }, .int .i64 0, .int .i64 0, .int .i64 0, .int .i64 0, .string { data := #[] }, .slice none 0 0] 31)
  have K0 : Kept x w ((w.alloc (.cells #[.int .i64 t.k, .int .i64 t.n, .string t.s, .int .i64 t.at_] 71)).alloc (.cells #[.int .i64 0, .int .i64 0, .int .i64 0, .string { data := #[] }, .int .i64 0, .int .i64 0, .int .i64 0, .int .i64 0, .string { data := #[] }, .slice none 0 0] 31)) := ((Kept.refl _ _).alloc _).alloc _
  have s1 : (w.alloc (.cells #[.int .i64 t.k, .int .i64 t.n, .string t.s, .int .i64 t.at_] 71)).heap.size = w.heap.size + 1 := heap_one _ _
  have HX : NBox ((w.alloc (.cells #[.int .i64 t.k, .int .i64 t.n, .string t.s, .int .i64 t.at_] 71)).alloc (.cells #[.int .i64 0, .int .i64 0, .int .i64 0, .string { data := #[] }, .int .i64 0, .int .i64 0, .int .i64 0, .int .i64 0, .string { data := #[] }, .slice none 0 0] 31)) (w.heap.size + 1) := by have := NBox.new (w.alloc (.cells #[.int .i64 t.k, .int .i64 t.n, .string t.s, .int .i64 t.at_] 71)); rwa [s1] at this
  have HT0 : TLoc (w.alloc (.cells #[.int .i64 t.k, .int .i64 t.n, .string t.s, .int .i64 t.at_] 71)) w.heap.size t := ⟨heap_alloc_new _ _⟩
  have HT := HT0.kept ((Kept.refl x (w.alloc (.cells #[.int .i64 t.k, .int .i64 t.n, .string t.s, .int .i64 t.at_] 71))).alloc (.cells #[.int .i64 0, .int .i64 0, .int .i64 0, .string { data := #[] }, .int .i64 0, .int .i64 0, .int .i64 0, .int .i64 0, .string { data := #[] }, .slice none 0 0] 31)) (by omega)
  clear s1 HT0
  generalize hW : ((w.alloc (.cells #[.int .i64 t.k, .int .i64 t.n, .string t.s, .int .i64 t.at_] 71)).alloc (.cells #[.int .i64 0, .int .i64 0, .int .i64 0, .string { data := #[] }, .int .i64 0, .int .i64 0, .int .i64 0, .int .i64 0, .string { data := #[] }, .slice none 0 0] 31)) = W at *
  have ne1 : x ≠ w.heap.size + 1 := by omega
  have ne2 : w.heap.size + 1 ≠ x := by omega
  have nt1 : x ≠ w.heap.size := by omega
  have nt2 : w.heap.size ≠ x := by omega
  have lt0 := HX.lt
  have HC0 := Lib.hid (rcalled W H0 hl (by omega))
  generalize hO : nameF l en L into t k = O
  have HO := Lib.hid hO.symm
  clear h hO
  unfold tokV
  have p3 : (u.k == 3) = false := beq_eq_false_iff_ne.2 h6
  have p4 : (u.k != 3) = true := by simp [bne, p3]
  have E := Lib.hid (HO.out.trans (name_second hs h1 h2 h3 h4 h5 (fun e => h6 e.1)))
  have hb1 := Lib.hid h1
  have hb2 := Lib.hid h2
  have hb3 := Lib.hid h3
  have hb4 := Lib.hid h4
  have B58 : Hid (({ data := #[58] } : ByteArray) = str [58]) := Lib.hid rfl
  clear h1 h2 h3 h4
  rw [hs] at HC0
  go_enter Tryz.func135, Tryz.ntmps135
  go_wp2_with fail
  refine HC0.out.mono ?_; rintro e w1 ⟨rfl, n, rfl⟩
  have H1 := H0.drew n
  have K1 := K0.drew n
  have X1 := HX.kept ((Kept.refl x W).drew n) ne2
  have T1 := HT.kept ((Kept.refl x W).drew n) nt2
  generalize hV : W.drewN n = V at *
  have b1 := X1.lt
  obtain ⟨q0, q1, q2, q3⟩ := T1.cells
  have HPA := Lib.hid (AddrC.raparse t.s V (by omega))
  have g1 : (t.s.toList == [84, 82, 85, 69]) = false := bytes_ne hb1.out
  have g2 : (t.s.toList == [70, 65, 76, 83, 69]) = false := bytes_ne hb2.out
  go_wp2_with fail
  refine HPA.out.mono ?_; rintro e w2 ⟨rfl, k2⟩
  clear g1 g2 q0 q1 q2 q3
  have K2 := K1.trans (Kept.of (x := x) k2)
  have H2 := pre_below H1 k2
  have X2 := X1.kept (Kept.of (x := x) k2) ne2
  have T2 := T1.kept (Kept.of (x := x) k2) nt2
  have b2 := X2.lt
  have K3 := K2.alloc (.cells #[.int .i64 (AddrC.pR t.s.data.toList), .int .i64 (AddrC.pC t.s.data.toList), .bool (AddrC.pOK t.s.data.toList)] 183)
  have H3 := H2.alloc (.cells #[.int .i64 (AddrC.pR t.s.data.toList), .int .i64 (AddrC.pC t.s.data.toList), .bool (AddrC.pOK t.s.data.toList)] 183)
  have X3 := X2.kept ((Kept.refl x w2).alloc (.cells #[.int .i64 (AddrC.pR t.s.data.toList), .int .i64 (AddrC.pC t.s.data.toList), .bool (AddrC.pOK t.s.data.toList)] 183)) ne2
  have G3 : GLoc (w2.alloc (.cells #[.int .i64 (AddrC.pR t.s.data.toList), .int .i64 (AddrC.pC t.s.data.toList), .bool (AddrC.pOK t.s.data.toList)] 183)) w2.heap.size (AddrC.pR t.s.data.toList) (AddrC.pC t.s.data.toList) (AddrC.pOK t.s.data.toList) := ⟨heap_alloc_new _ _⟩
  have ng : x ≠ w2.heap.size := by omega
  have ng2 : w2.heap.size ≠ x := by omega
  have ng3 : w.heap.size + 1 ≠ w2.heap.size := by omega
  have ng4 : w2.heap.size ≠ w.heap.size + 1 := by omega
  have b3 := X3.lt
  generalize hG : (w2.alloc (.cells #[.int .i64 (AddrC.pR t.s.data.toList), .int .i64 (AddrC.pC t.s.data.toList), .bool (AddrC.pOK t.s.data.toList)] 183)) = Y at *
  obtain ⟨a0, a1, a2⟩ := G3.cells
  rw [hb3.out] at a2
  have H4 := H3.setK ((k : Int) + 1)
  have K4 := K3.setCell 1 (.int .i64 ((k : Int) + 1))
  have X4 := X3.kept ((Kept.refl x Y).setCell 1 (.int .i64 ((k : Int) + 1))) ne2
  have G4 := G3.kept ((Kept.refl x Y).setCell 1 (.int .i64 ((k : Int) + 1))) ng2
  obtain ⟨c0, c1, c2, c3, c4, c5, y1, y3, y4, y5⟩ := (H3).at_.cells
  generalize hU : (Y.setCell ⟨x, 1, none⟩ (.int .i64 ((k : Int) + 1))) = U at *
  go_wp2_with fail
  rw [show ((k : Int) + 1) = ((k + 1 : Nat) : Int) from by omega] at H4
  clear c0 c1 c2 c3 c4 c5 y1 y3 y4 y5
  clear a0 a1 a2
  have HS := Lib.hid (rsign [58] U H4 hl)
  rw [hb4.out] at HS
  rw [B58.out]
  refine HS.out.mono ?_; rintro e w5 ⟨rfl, n5, rfl⟩
  have H5 := H4.drew n5
  have K5 := K4.drew n5
  have X5 := X4.kept ((Kept.refl x U).drew n5) ne2
  have G5 := G4.kept ((Kept.refl x U).drew n5) ng2
  generalize hZ : U.drewN n5 = Z5 at *
  have H6 := H5.setK (((k + 1 : Nat) : Int) + 1)
  have K6 := K5.setCell 1 (.int .i64 (((k + 1 : Nat) : Int) + 1))
  have X6 := X5.kept ((Kept.refl x Z5).setCell 1 (.int .i64 (((k + 1 : Nat) : Int) + 1))) ne2
  have G6 := G5.kept ((Kept.refl x Z5).setCell 1 (.int .i64 (((k + 1 : Nat) : Int) + 1))) ng2
  rw [show (((k + 1 : Nat) : Int) + 1) = ((k : Int) + 1 + 1) from by omega] at H6 K6 X6 G6
  obtain ⟨c0, c1, c2, c3, c4, c5, y1, y3, y4, y5⟩ := (H5).at_.cells
  rw [show ((k + 1 : Nat) : Int) = (k : Int) + 1 from by omega] at c1
  generalize hU6 : (Z5.setCell ⟨x, 1, none⟩ (.int .i64 ((k : Int) + 1 + 1))) = U6 at *
  go_wp2_with fail
  clear c0 c1 c2 c3 c4 c5 y1 y3 y4 y5
  rw [show ((k : Int) + 1 + 1) = ((k + 2 : Nat) : Int) from by omega] at H6
  clear hU hZ hG hV hW
  obtain ⟨TA, tc, hlv, hTk⟩ := H6.tok.form
  subst hlv
  obtain ⟨c0, c1, c2, c3, c4, c5, y1, y3, y4, y5⟩ := (H6).at_.cells
  rw [show ((k + 2 : Nat) : Int) = (k : Int) + 1 + 1 from by omega] at c1
  have hlt2 : k + 1 + 1 < l.length := (List.getElem?_eq_some_iff.1 h5).1
  have hte : l[k + 1 + 1] = u := (List.getElem?_eq_some_iff.1 h5).2
  obtain ⟨tg, rfl, hgx, t0, t1, t2, t3⟩ := hTk (k + 1 + 1) hlt2
  rw [hte] at t0 t1 t2 t3
  have d1 : decide ((l.length : Int) ≤ (k : Int) + 1 + 1) = false := decide_eq_false (by omega)
  clear hTk hte
  clear h6
  go_quiet (fail)
  go_wp2_with fail
  clear c0 c1 c2 c3 c4 c5 y1 y3 y4 y5
  clear t0 t1 t2 t3
  refine (rbad _ (H6.drew nq) hl).mono ?_; rintro e w8 ⟨rfl, H8, k8⟩
  have K8 := (K6.drew nq).trans k8
  have X8 := (X6.kept ((Kept.refl x U6).drew nq) ne2).kept k8 ne2
  obtain ⟨f0, f1, f2, f3, f4, f5, f6, f7, f8, f9, z0, z1, z2, z3, z4, z5, z6, z7, z8, z9⟩ := (X8).cells
  go_wp2_with fail
  rw [E.out]
  refine bodyPost_ret (v := .agg #[.int .i64 0, .int .i64 0, .int .i64 0, .string { data := #[] }, .int .i64 0, .int .i64 0, .int .i64 0, .int .i64 0, .string { data := #[] }, .slice none 0 0]) (by simp [results, Tryz.results135, go_sem, f0, f1, f2, f3, f4, f5, f6, f7, f8, f9]) rfl (PPost.err (b := w.heap.size + 1) K8 H8 (nodeV_any fld0 _ _ _) (by show (13 : Int) ≠ 0; decide) (Int.le_refl _) (by omega) (by omega) hxw ?_)
  repeat (first | with_reducible exact Kept.refl _ _ | with_reducible refine Kept.setCell ?_ _ _)

set_option maxRecDepth 100000 in
set_option maxHeartbeats 4000000 in
theorem rname_called {x : Nat} {lv : Value} {l : List Tok} {en nest : Int} {L : Lev} {into : Bool} {k : Nat} {t : Tok} (w : World) (h : Pre w x lv l en k nest 0 0) (hl : l.length ≤ 300) (hk : k ≤ 400)
    {u : Tok} (hts : t.s.size ≤ 1000000) (hs : isSign l (k + 1) [40] = false) (h1 : t.s ≠ trueB) (h2 : t.s ≠ falseB) (h3 : AddrC.pOK t.s.data.toList = true) (h4 : isSign l (k + 1) [58] = true) (h5 : l[k + 2]? = some u) (hu3 : u.k = 3) (h6 : isSign l (k + 3) [40] = true) :
    Calls Tryz.prog 135 #[.pointer (some ⟨x, 0, none⟩), tokV t] w (PPost x lv l en nest (nameF l en L into t k) w) := by
  have hxw := h.at_.lt
  have H0 := (h.alloc (.cells #[.int .i64 t.k, .int .i64 t.n, .string t.s, .int .i64 t.at_] 71)).alloc (.cells #[.int .i64 0, .int .i64 0, .int .i64 0, .string { data := #[] }, .int .i64 0, .int .i64 0, .int .i64 0, .int .i64 0, .string { data := #[] }, .slice none 0 0] 31)
  have K0 : Kept x w ((w.alloc (.cells #[.int .i64 t.k, .int .i64 t.n, .string t.s, .int .i64 t.at_] 71)).alloc (.cells #[.int .i64 0, .int .i64 0, .int .i64 0, .string { data := #[] }, .int .i64 0, .int .i64 0, .int .i64 0, .int .i64 0, .string { data := #[] }, .slice none 0 0] 31)) := ((Kept.refl _ _).alloc _).alloc _
  have s1 : (w.alloc (.cells #[.int .i64 t.k, .int .i64 t.n, .string t.s, .int .i64 t.at_] 71)).heap.size = w.heap.size + 1 := heap_one _ _
  have HX : NBox ((w.alloc (.cells #[.int .i64 t.k, .int .i64 t.n, .string t.s, .int .i64 t.at_] 71)).alloc (.cells #[.int .i64 0, .int .i64 0, .int .i64 0, .string { data := #[] }, .int .i64 0, .int .i64 0, .int .i64 0, .int .i64 0, .string { data := #[] }, .slice none 0 0] 31)) (w.heap.size + 1) := by have := NBox.new (w.alloc (.cells #[.int .i64 t.k, .int .i64 t.n, .string t.s, .int .i64 t.at_] 71)); rwa [s1] at this
  have HT0 : TLoc (w.alloc (.cells #[.int .i64 t.k, .int .i64 t.n, .string t.s, .int .i64 t.at_] 71)) w.heap.size t := ⟨heap_alloc_new _ _⟩
  have HT := HT0.kept ((Kept.refl x (w.alloc (.cells #[.int .i64 t.k, .int .i64 t.n, .string t.s, .int .i64 t.at_] 71))).alloc (.cells #[.int .i64 0, .int .i64 0, .int .i64 0, .string { data := #[] }, .int .i64 0, .int .i64 0, .int .i64 0, .int .i64 0, .string { data := #[] }, .slice none 0 0] 31)) (by omega)
  clear s1 HT0
  generalize hW : ((w.alloc (.cells #[.int .i64 t.k, .int .i64 t.n, .string t.s, .int .i64 t.at_] 71)).alloc (.cells #[.int .i64 0, .int .i64 0, .int .i64 0, .string { data := #[] }, .int .i64 0, .int .i64 0, .int .i64 0, .int .i64 0, .string { data := #[] }, .slice none 0 0] 31)) = W at *
  have ne1 : x ≠ w.heap.size + 1 := by omega
  have ne2 : w.heap.size + 1 ≠ x := by omega
  have nt1 : x ≠ w.heap.size := by omega
  have nt2 : w.heap.size ≠ x := by omega
  have lt0 := HX.lt
  have HC0 := Lib.hid (rcalled W H0 hl (by omega))
  generalize hO : nameF l en L into t k = O
  have HO := Lib.hid hO.symm
  clear h hO
  unfold tokV
  have p3 : (u.k == 3) = true := by rw [hu3]; rfl
  have p4 : (u.k != 3) = false := by simp [bne, p3]
  have E := Lib.hid (HO.out.trans (name_second hs h1 h2 h3 h4 h5 (fun e => by rw [h6] at e; cases e.2.1)))
  have hb1 := Lib.hid h1
  have hb2 := Lib.hid h2
  have hb3 := Lib.hid h3
  have hb4 := Lib.hid h4
  have B58 : Hid (({ data := #[58] } : ByteArray) = str [58]) := Lib.hid rfl
  clear h1 h2 h3 h4
  rw [hs] at HC0
  go_enter Tryz.func135, Tryz.ntmps135
  go_wp2_with fail
  refine HC0.out.mono ?_; rintro e w1 ⟨rfl, n, rfl⟩
  have H1 := H0.drew n
  have K1 := K0.drew n
  have X1 := HX.kept ((Kept.refl x W).drew n) ne2
  have T1 := HT.kept ((Kept.refl x W).drew n) nt2
  generalize hV : W.drewN n = V at *
  have b1 := X1.lt
  obtain ⟨q0, q1, q2, q3⟩ := T1.cells
  have HPA := Lib.hid (AddrC.raparse t.s V (by omega))
  have g1 : (t.s.toList == [84, 82, 85, 69]) = false := bytes_ne hb1.out
  have g2 : (t.s.toList == [70, 65, 76, 83, 69]) = false := bytes_ne hb2.out
  go_wp2_with fail
  refine HPA.out.mono ?_; rintro e w2 ⟨rfl, k2⟩
  clear g1 g2 q0 q1 q2 q3
  have K2 := K1.trans (Kept.of (x := x) k2)
  have H2 := pre_below H1 k2
  have X2 := X1.kept (Kept.of (x := x) k2) ne2
  have T2 := T1.kept (Kept.of (x := x) k2) nt2
  have b2 := X2.lt
  have K3 := K2.alloc (.cells #[.int .i64 (AddrC.pR t.s.data.toList), .int .i64 (AddrC.pC t.s.data.toList), .bool (AddrC.pOK t.s.data.toList)] 183)
  have H3 := H2.alloc (.cells #[.int .i64 (AddrC.pR t.s.data.toList), .int .i64 (AddrC.pC t.s.data.toList), .bool (AddrC.pOK t.s.data.toList)] 183)
  have X3 := X2.kept ((Kept.refl x w2).alloc (.cells #[.int .i64 (AddrC.pR t.s.data.toList), .int .i64 (AddrC.pC t.s.data.toList), .bool (AddrC.pOK t.s.data.toList)] 183)) ne2
  have G3 : GLoc (w2.alloc (.cells #[.int .i64 (AddrC.pR t.s.data.toList), .int .i64 (AddrC.pC t.s.data.toList), .bool (AddrC.pOK t.s.data.toList)] 183)) w2.heap.size (AddrC.pR t.s.data.toList) (AddrC.pC t.s.data.toList) (AddrC.pOK t.s.data.toList) := ⟨heap_alloc_new _ _⟩
  have ng : x ≠ w2.heap.size := by omega
  have ng2 : w2.heap.size ≠ x := by omega
  have ng3 : w.heap.size + 1 ≠ w2.heap.size := by omega
  have ng4 : w2.heap.size ≠ w.heap.size + 1 := by omega
  have b3 := X3.lt
  generalize hG : (w2.alloc (.cells #[.int .i64 (AddrC.pR t.s.data.toList), .int .i64 (AddrC.pC t.s.data.toList), .bool (AddrC.pOK t.s.data.toList)] 183)) = Y at *
  obtain ⟨a0, a1, a2⟩ := G3.cells
  rw [hb3.out] at a2
  have H4 := H3.setK ((k : Int) + 1)
  have K4 := K3.setCell 1 (.int .i64 ((k : Int) + 1))
  have X4 := X3.kept ((Kept.refl x Y).setCell 1 (.int .i64 ((k : Int) + 1))) ne2
  have G4 := G3.kept ((Kept.refl x Y).setCell 1 (.int .i64 ((k : Int) + 1))) ng2
  obtain ⟨c0, c1, c2, c3, c4, c5, y1, y3, y4, y5⟩ := (H3).at_.cells
  generalize hU : (Y.setCell ⟨x, 1, none⟩ (.int .i64 ((k : Int) + 1))) = U at *
  go_wp2_with fail
  rw [show ((k : Int) + 1) = ((k + 1 : Nat) : Int) from by omega] at H4
  clear c0 c1 c2 c3 c4 c5 y1 y3 y4 y5
  clear a0 a1 a2
  have HS := Lib.hid (rsign [58] U H4 hl)
  rw [hb4.out] at HS
  rw [B58.out]
  refine HS.out.mono ?_; rintro e w5 ⟨rfl, n5, rfl⟩
  have H5 := H4.drew n5
  have K5 := K4.drew n5
  have X5 := X4.kept ((Kept.refl x U).drew n5) ne2
  have G5 := G4.kept ((Kept.refl x U).drew n5) ng2
  generalize hZ : U.drewN n5 = Z5 at *
  have H6 := H5.setK (((k + 1 : Nat) : Int) + 1)
  have K6 := K5.setCell 1 (.int .i64 (((k + 1 : Nat) : Int) + 1))
  have X6 := X5.kept ((Kept.refl x Z5).setCell 1 (.int .i64 (((k + 1 : Nat) : Int) + 1))) ne2
  have G6 := G5.kept ((Kept.refl x Z5).setCell 1 (.int .i64 (((k + 1 : Nat) : Int) + 1))) ng2
  rw [show (((k + 1 : Nat) : Int) + 1) = ((k : Int) + 1 + 1) from by omega] at H6 K6 X6 G6
  obtain ⟨c0, c1, c2, c3, c4, c5, y1, y3, y4, y5⟩ := (H5).at_.cells
  rw [show ((k + 1 : Nat) : Int) = (k : Int) + 1 from by omega] at c1
  generalize hU6 : (Z5.setCell ⟨x, 1, none⟩ (.int .i64 ((k : Int) + 1 + 1))) = U6 at *
  go_wp2_with fail
  clear c0 c1 c2 c3 c4 c5 y1 y3 y4 y5
  rw [show ((k : Int) + 1 + 1) = ((k + 2 : Nat) : Int) from by omega] at H6
  clear hU hZ hG hV hW
  obtain ⟨TA, tc, hlv, hTk⟩ := H6.tok.form
  subst hlv
  obtain ⟨c0, c1, c2, c3, c4, c5, y1, y3, y4, y5⟩ := (H6).at_.cells
  rw [show ((k + 2 : Nat) : Int) = (k : Int) + 1 + 1 from by omega] at c1
  have hlt2 : k + 1 + 1 < l.length := (List.getElem?_eq_some_iff.1 h5).1
  have hte : l[k + 1 + 1] = u := (List.getElem?_eq_some_iff.1 h5).2
  obtain ⟨tg, rfl, hgx, t0, t1, t2, t3⟩ := hTk (k + 1 + 1) hlt2
  rw [hte] at t0 t1 t2 t3
  have d1 : decide ((l.length : Int) ≤ (k : Int) + 1 + 1) = false := decide_eq_false (by omega)
  clear hTk hte
  have HCQ : Hid (∀ q, Calls Tryz.prog 156 #[.pointer (some ⟨x, 0, none⟩)] (U6.drewN q) fun e w' => e = .returned (.bool true) ∧ ∃ m, w' = (U6.drewN q).drewN m) := Lib.hid (by
    intro q
    have h8 := rcalled _ (H6.drew q) hl (by omega)
    rw [show k + 2 + 1 = k + 3 from rfl, h6] at h8
    exact h8)
  clear h6 hu3 h5
  go_quiet ((go_at_call 156; exact Calls.quiet_of (HCQ.out _)))
  go_wp2_with fail
  clear c0 c1 c2 c3 c4 c5 y1 y3 y4 y5
  clear t0 t1 t2 t3
  refine (rbad _ (H6.drew nq) hl).mono ?_; rintro e w8 ⟨rfl, H8, k8⟩
  have K8 := (K6.drew nq).trans k8
  have X8 := (X6.kept ((Kept.refl x U6).drew nq) ne2).kept k8 ne2
  obtain ⟨f0, f1, f2, f3, f4, f5, f6, f7, f8, f9, z0, z1, z2, z3, z4, z5, z6, z7, z8, z9⟩ := (X8).cells
  go_wp2_with fail
  rw [E.out]
  refine bodyPost_ret (v := .agg #[.int .i64 0, .int .i64 0, .int .i64 0, .string { data := #[] }, .int .i64 0, .int .i64 0, .int .i64 0, .int .i64 0, .string { data := #[] }, .slice none 0 0]) (by simp [results, Tryz.results135, go_sem, f0, f1, f2, f3, f4, f5, f6, f7, f8, f9]) rfl (PPost.err (b := w.heap.size + 1) K8 H8 (nodeV_any fld0 _ _ _) (by show (13 : Int) ≠ 0; decide) (Int.le_refl _) (by omega) (by omega) hxw ?_)
  repeat (first | with_reducible exact Kept.refl _ _ | with_reducible refine Kept.setCell ?_ _ _)

set_option maxRecDepth 100000 in
set_option maxHeartbeats 4000000 in
theorem rname_second {x : Nat} {lv : Value} {l : List Tok} {en nest : Int} {L : Lev} {into : Bool} {k : Nat} {t : Tok} (w : World) (h : Pre w x lv l en k nest 0 0) (hl : l.length ≤ 300) (hk : k ≤ 400)
    {u : Tok} (hus : u.s.size ≤ 1000000) (hts : t.s.size ≤ 1000000) (hs : isSign l (k + 1) [40] = false) (h1 : t.s ≠ trueB) (h2 : t.s ≠ falseB) (h3 : AddrC.pOK t.s.data.toList = true) (h4 : isSign l (k + 1) [58] = true) (h5 : l[k + 2]? = some u) (hu3 : u.k = 3) (h6 : isSign l (k + 3) [40] = false) (h7 : AddrC.pOK u.s.data.toList = false) :
    Calls Tryz.prog 135 #[.pointer (some ⟨x, 0, none⟩), tokV t] w (PPost x lv l en nest (nameF l en L into t k) w) := by
  have hxw := h.at_.lt
  have H0 := (h.alloc (.cells #[.int .i64 t.k, .int .i64 t.n, .string t.s, .int .i64 t.at_] 71)).alloc (.cells #[.int .i64 0, .int .i64 0, .int .i64 0, .string { data := #[] }, .int .i64 0, .int .i64 0, .int .i64 0, .int .i64 0, .string { data := #[] }, .slice none 0 0] 31)
  have K0 : Kept x w ((w.alloc (.cells #[.int .i64 t.k, .int .i64 t.n, .string t.s, .int .i64 t.at_] 71)).alloc (.cells #[.int .i64 0, .int .i64 0, .int .i64 0, .string { data := #[] }, .int .i64 0, .int .i64 0, .int .i64 0, .int .i64 0, .string { data := #[] }, .slice none 0 0] 31)) := ((Kept.refl _ _).alloc _).alloc _
  have s1 : (w.alloc (.cells #[.int .i64 t.k, .int .i64 t.n, .string t.s, .int .i64 t.at_] 71)).heap.size = w.heap.size + 1 := heap_one _ _
  have HX : NBox ((w.alloc (.cells #[.int .i64 t.k, .int .i64 t.n, .string t.s, .int .i64 t.at_] 71)).alloc (.cells #[.int .i64 0, .int .i64 0, .int .i64 0, .string { data := #[] }, .int .i64 0, .int .i64 0, .int .i64 0, .int .i64 0, .string { data := #[] }, .slice none 0 0] 31)) (w.heap.size + 1) := by have := NBox.new (w.alloc (.cells #[.int .i64 t.k, .int .i64 t.n, .string t.s, .int .i64 t.at_] 71)); rwa [s1] at this
  have HT0 : TLoc (w.alloc (.cells #[.int .i64 t.k, .int .i64 t.n, .string t.s, .int .i64 t.at_] 71)) w.heap.size t := ⟨heap_alloc_new _ _⟩
  have HT := HT0.kept ((Kept.refl x (w.alloc (.cells #[.int .i64 t.k, .int .i64 t.n, .string t.s, .int .i64 t.at_] 71))).alloc (.cells #[.int .i64 0, .int .i64 0, .int .i64 0, .string { data := #[] }, .int .i64 0, .int .i64 0, .int .i64 0, .int .i64 0, .string { data := #[] }, .slice none 0 0] 31)) (by omega)
  clear s1 HT0
  generalize hW : ((w.alloc (.cells #[.int .i64 t.k, .int .i64 t.n, .string t.s, .int .i64 t.at_] 71)).alloc (.cells #[.int .i64 0, .int .i64 0, .int .i64 0, .string { data := #[] }, .int .i64 0, .int .i64 0, .int .i64 0, .int .i64 0, .string { data := #[] }, .slice none 0 0] 31)) = W at *
  have ne1 : x ≠ w.heap.size + 1 := by omega
  have ne2 : w.heap.size + 1 ≠ x := by omega
  have nt1 : x ≠ w.heap.size := by omega
  have nt2 : w.heap.size ≠ x := by omega
  have lt0 := HX.lt
  have HC0 := Lib.hid (rcalled W H0 hl (by omega))
  generalize hO : nameF l en L into t k = O
  have HO := Lib.hid hO.symm
  clear h hO
  unfold tokV
  have p3 : (u.k == 3) = true := by rw [hu3]; rfl
  have p4 : (u.k != 3) = false := by simp [bne, p3]
  have E := Lib.hid (HO.out.trans (name_second hs h1 h2 h3 h4 h5 (fun e => by rw [h7] at e; cases e.2.2)))
  have hb1 := Lib.hid h1
  have hb2 := Lib.hid h2
  have hb3 := Lib.hid h3
  have hb4 := Lib.hid h4
  have B58 : Hid (({ data := #[58] } : ByteArray) = str [58]) := Lib.hid rfl
  clear h1 h2 h3 h4
  rw [hs] at HC0
  go_enter Tryz.func135, Tryz.ntmps135
  go_wp2_with fail
  refine HC0.out.mono ?_; rintro e w1 ⟨rfl, n, rfl⟩
  have H1 := H0.drew n
  have K1 := K0.drew n
  have X1 := HX.kept ((Kept.refl x W).drew n) ne2
  have T1 := HT.kept ((Kept.refl x W).drew n) nt2
  generalize hV : W.drewN n = V at *
  have b1 := X1.lt
  obtain ⟨q0, q1, q2, q3⟩ := T1.cells
  have HPA := Lib.hid (AddrC.raparse t.s V (by omega))
  have g1 : (t.s.toList == [84, 82, 85, 69]) = false := bytes_ne hb1.out
  have g2 : (t.s.toList == [70, 65, 76, 83, 69]) = false := bytes_ne hb2.out
  go_wp2_with fail
  refine HPA.out.mono ?_; rintro e w2 ⟨rfl, k2⟩
  clear g1 g2 q0 q1 q2 q3
  have K2 := K1.trans (Kept.of (x := x) k2)
  have H2 := pre_below H1 k2
  have X2 := X1.kept (Kept.of (x := x) k2) ne2
  have T2 := T1.kept (Kept.of (x := x) k2) nt2
  have b2 := X2.lt
  have K3 := K2.alloc (.cells #[.int .i64 (AddrC.pR t.s.data.toList), .int .i64 (AddrC.pC t.s.data.toList), .bool (AddrC.pOK t.s.data.toList)] 183)
  have H3 := H2.alloc (.cells #[.int .i64 (AddrC.pR t.s.data.toList), .int .i64 (AddrC.pC t.s.data.toList), .bool (AddrC.pOK t.s.data.toList)] 183)
  have X3 := X2.kept ((Kept.refl x w2).alloc (.cells #[.int .i64 (AddrC.pR t.s.data.toList), .int .i64 (AddrC.pC t.s.data.toList), .bool (AddrC.pOK t.s.data.toList)] 183)) ne2
  have G3 : GLoc (w2.alloc (.cells #[.int .i64 (AddrC.pR t.s.data.toList), .int .i64 (AddrC.pC t.s.data.toList), .bool (AddrC.pOK t.s.data.toList)] 183)) w2.heap.size (AddrC.pR t.s.data.toList) (AddrC.pC t.s.data.toList) (AddrC.pOK t.s.data.toList) := ⟨heap_alloc_new _ _⟩
  have ng : x ≠ w2.heap.size := by omega
  have ng2 : w2.heap.size ≠ x := by omega
  have ng3 : w.heap.size + 1 ≠ w2.heap.size := by omega
  have ng4 : w2.heap.size ≠ w.heap.size + 1 := by omega
  have b3 := X3.lt
  generalize hG : (w2.alloc (.cells #[.int .i64 (AddrC.pR t.s.data.toList), .int .i64 (AddrC.pC t.s.data.toList), .bool (AddrC.pOK t.s.data.toList)] 183)) = Y at *
  obtain ⟨a0, a1, a2⟩ := G3.cells
  rw [hb3.out] at a2
  have H4 := H3.setK ((k : Int) + 1)
  have K4 := K3.setCell 1 (.int .i64 ((k : Int) + 1))
  have X4 := X3.kept ((Kept.refl x Y).setCell 1 (.int .i64 ((k : Int) + 1))) ne2
  have G4 := G3.kept ((Kept.refl x Y).setCell 1 (.int .i64 ((k : Int) + 1))) ng2
  obtain ⟨c0, c1, c2, c3, c4, c5, y1, y3, y4, y5⟩ := (H3).at_.cells
  generalize hU : (Y.setCell ⟨x, 1, none⟩ (.int .i64 ((k : Int) + 1))) = U at *
  go_wp2_with fail
  rw [show ((k : Int) + 1) = ((k + 1 : Nat) : Int) from by omega] at H4
  clear c0 c1 c2 c3 c4 c5 y1 y3 y4 y5
  clear a0 a1 a2
  have HS := Lib.hid (rsign [58] U H4 hl)
  rw [hb4.out] at HS
  rw [B58.out]
  refine HS.out.mono ?_; rintro e w5 ⟨rfl, n5, rfl⟩
  have H5 := H4.drew n5
  have K5 := K4.drew n5
  have X5 := X4.kept ((Kept.refl x U).drew n5) ne2
  have G5 := G4.kept ((Kept.refl x U).drew n5) ng2
  generalize hZ : U.drewN n5 = Z5 at *
  have H6 := H5.setK (((k + 1 : Nat) : Int) + 1)
  have K6 := K5.setCell 1 (.int .i64 (((k + 1 : Nat) : Int) + 1))
  have X6 := X5.kept ((Kept.refl x Z5).setCell 1 (.int .i64 (((k + 1 : Nat) : Int) + 1))) ne2
  have G6 := G5.kept ((Kept.refl x Z5).setCell 1 (.int .i64 (((k + 1 : Nat) : Int) + 1))) ng2
  rw [show (((k + 1 : Nat) : Int) + 1) = ((k : Int) + 1 + 1) from by omega] at H6 K6 X6 G6
  obtain ⟨c0, c1, c2, c3, c4, c5, y1, y3, y4, y5⟩ := (H5).at_.cells
  rw [show ((k + 1 : Nat) : Int) = (k : Int) + 1 from by omega] at c1
  generalize hU6 : (Z5.setCell ⟨x, 1, none⟩ (.int .i64 ((k : Int) + 1 + 1))) = U6 at *
  go_wp2_with fail
  clear c0 c1 c2 c3 c4 c5 y1 y3 y4 y5
  rw [show ((k : Int) + 1 + 1) = ((k + 2 : Nat) : Int) from by omega] at H6
  clear hU hZ hG hV hW
  obtain ⟨TA, tc, hlv, hTk⟩ := H6.tok.form
  subst hlv
  obtain ⟨c0, c1, c2, c3, c4, c5, y1, y3, y4, y5⟩ := (H6).at_.cells
  rw [show ((k + 2 : Nat) : Int) = (k : Int) + 1 + 1 from by omega] at c1
  have hlt2 : k + 1 + 1 < l.length := (List.getElem?_eq_some_iff.1 h5).1
  have hte : l[k + 1 + 1] = u := (List.getElem?_eq_some_iff.1 h5).2
  obtain ⟨tg, rfl, hgx, t0, t1, t2, t3⟩ := hTk (k + 1 + 1) hlt2
  rw [hte] at t0 t1 t2 t3
  have d1 : decide ((l.length : Int) ≤ (k : Int) + 1 + 1) = false := decide_eq_false (by omega)
  clear hTk hte
  have HCQ : Hid (∀ q, Calls Tryz.prog 156 #[.pointer (some ⟨x, 0, none⟩)] (U6.drewN q) fun e w' => e = .returned (.bool false) ∧ ∃ m, w' = (U6.drewN q).drewN m) := Lib.hid (by
    intro q
    have h8 := rcalled _ (H6.drew q) hl (by omega)
    rw [show k + 2 + 1 = k + 3 from rfl, h6] at h8
    exact h8)
  clear h6 hu3 h5
  go_quiet ((go_at_call 156; exact Calls.quiet_of (HCQ.out _)))
  clear c0 c1 c2 c3 c4 c5 y1 y3 y4 y5
  have H7 := H6.drew nq
  have K7 := K6.drew nq
  have X7 := X6.kept ((Kept.refl x U6).drew nq) ne2
  have G7 := G6.kept ((Kept.refl x U6).drew nq) ng2
  obtain ⟨c0, c1, c2, c3, c4, c5, y1, y3, y4, y5⟩ := (H7).at_.cells
  rw [show ((k + 2 : Nat) : Int) = (k : Int) + 1 + 1 from by omega] at c1
  have tt2 : (U6.drewN nq).cell? ⟨tg, (k + 1 + 1) * 4 + 2, none⟩ = some (.string u.s) := t2
  clear t0 t1 t2 t3
  generalize hZ6 : U6.drewN nq = Z6 at *
  clear hZ6 hU6
  have HPB : ∀ W, Hid (Calls Tryz.prog 158 #[.string u.s] W _) := fun W => Lib.hid (AddrC.raparse u.s W (by omega))
  have hb7 := Lib.hid h7
  clear h7
  have bU1 : x < Z6.heap.size := H7.at_.lt
  have bU2 : tg < Z6.heap.size := by omega
  have hx7 : w.heap.size < w2.heap.size := by omega
  go_upto_region 20 with fail
  go_cut [7] from 96 to 107 (fun s7 wc => ∃ hb, s7 = .pointer (some ⟨hb, 0, none⟩) ∧ Two w w2.heap.size hb x (.slice (some ⟨tg, 0, none⟩) l.length tc) l en ((k + 2 : Nat) : Int) nest (AddrC.pR t.s.data.toList) (AddrC.pC t.s.data.toList) (AddrC.pR u.s.data.toList) (AddrC.pC u.s.data.toList) (AddrC.pOK t.s.data.toList) (AddrC.pOK u.s.data.toList) wc)
  case first =>
    go_region_with (go_at_call 158; refine (HPB _).out.mono ?_; rintro e w9 ⟨rfl, k9⟩; (first | (with_reducible have nb9 := got_block k9; obtain ⟨v0, v1, v2, v3, v4, v5⟩ := got_cells nb9) | skip))
    all_goals (go_wp2_with fail)
    all_goals (go_meet)
    all_goals (first | exact ⟨_, rfl, two_first H7 K7 X7 G7 hxw hx7 k9⟩ | exact ⟨_, rfl, two_last H7 K7 X7 G7 hxw hx7 k9⟩)
  case rest =>
  obtain ⟨hb, rfl, HTW⟩ := hcut
  clear c0 c1 c2 c3 c4 c5 y1 y3 y4 y5
  clear tt2
  obtain ⟨H10, K10, X10, G10, N10, bn0, bn1, bn2⟩ := HTW
  have bn3 : x ≠ hb := by omega
  have bn4 : w.heap.size + 1 ≠ hb := by omega
  have bn5 : hb ≠ x := by omega
  have bn6 : hb ≠ w.heap.size + 1 := by omega
  have bn7 : w2.heap.size ≠ hb := by omega
  have bn8 : hb ≠ w2.heap.size := by omega
  have b10 := X10.lt
  obtain ⟨e0, e1, e2⟩ := N10.cells
  rw [hb7.out] at e2
  go_wp2_with fail
  refine (rbad _ H10 hl).mono ?_; rintro e w8 ⟨rfl, H8, k8⟩
  have K8 := K10.trans k8
  have X8 := X10.kept k8 ne2
  obtain ⟨f0, f1, f2, f3, f4, f5, f6, f7, f8, f9, z0, z1, z2, z3, z4, z5, z6, z7, z8, z9⟩ := (X8).cells
  go_wp2_with fail
  rw [E.out]
  refine bodyPost_ret (v := .agg #[.int .i64 0, .int .i64 0, .int .i64 0, .string { data := #[] }, .int .i64 0, .int .i64 0, .int .i64 0, .int .i64 0, .string { data := #[] }, .slice none 0 0]) (by simp [results, Tryz.results135, go_sem, f0, f1, f2, f3, f4, f5, f6, f7, f8, f9]) rfl (PPost.err (b := w.heap.size + 1) K8 H8 (nodeV_any fld0 _ _ _) (by show (13 : Int) ≠ 0; decide) (Int.le_refl _) (by omega) (by omega) hxw ?_)
  repeat (first | with_reducible exact Kept.refl _ _ | with_reducible refine Kept.setCell ?_ _ _)
/-- The rectangle out of what Made tells. -/
theorem field_R (a b c d : Int) (ok : Bool) (w : World) : (Instr.field 186 (.agg #[.int .i64 a, .int .i64 b, .int .i64 c, .int .i64 d, .bool ok]) 0).run Tryz.prog w = .ok (.agg #[.int .i64 a, .int .i64 b, .int .i64 c, .int .i64 d]) w := by kernel_rfl

set_option maxRecDepth 100000 in
set_option maxHeartbeats 4000000 in
theorem rname_range {x : Nat} {lv : Value} {l : List Tok} {en nest : Int} {L : Lev} {into : Bool} {k : Nat} {t : Tok} (w : World) (h : Pre w x lv l en k nest 0 0) (hl : l.length ≤ 300) (hk : k ≤ 400)
    {u : Tok} (hus : u.s.size ≤ 1000000) (hts : t.s.size ≤ 1000000) (hs : isSign l (k + 1) [40] = false) (h1 : t.s ≠ trueB) (h2 : t.s ≠ falseB) (h3 : AddrC.pOK t.s.data.toList = true) (h4 : isSign l (k + 1) [58] = true) (h5 : l[k + 2]? = some u) (hu3 : u.k = 3) (h6 : isSign l (k + 3) [40] = false) (h7 : AddrC.pOK u.s.data.toList = true) :
    Calls Tryz.prog 135 #[.pointer (some ⟨x, 0, none⟩), tokV t] w (PPost x lv l en nest (nameF l en L into t k) w) := by
  have hxw := h.at_.lt
  have H0 := (h.alloc (.cells #[.int .i64 t.k, .int .i64 t.n, .string t.s, .int .i64 t.at_] 71)).alloc (.cells #[.int .i64 0, .int .i64 0, .int .i64 0, .string { data := #[] }, .int .i64 0, .int .i64 0, .int .i64 0, .int .i64 0, .string { data := #[] }, .slice none 0 0] 31)
  have K0 : Kept x w ((w.alloc (.cells #[.int .i64 t.k, .int .i64 t.n, .string t.s, .int .i64 t.at_] 71)).alloc (.cells #[.int .i64 0, .int .i64 0, .int .i64 0, .string { data := #[] }, .int .i64 0, .int .i64 0, .int .i64 0, .int .i64 0, .string { data := #[] }, .slice none 0 0] 31)) := ((Kept.refl _ _).alloc _).alloc _
  have s1 : (w.alloc (.cells #[.int .i64 t.k, .int .i64 t.n, .string t.s, .int .i64 t.at_] 71)).heap.size = w.heap.size + 1 := heap_one _ _
  have HX : NBox ((w.alloc (.cells #[.int .i64 t.k, .int .i64 t.n, .string t.s, .int .i64 t.at_] 71)).alloc (.cells #[.int .i64 0, .int .i64 0, .int .i64 0, .string { data := #[] }, .int .i64 0, .int .i64 0, .int .i64 0, .int .i64 0, .string { data := #[] }, .slice none 0 0] 31)) (w.heap.size + 1) := by have := NBox.new (w.alloc (.cells #[.int .i64 t.k, .int .i64 t.n, .string t.s, .int .i64 t.at_] 71)); rwa [s1] at this
  have HT0 : TLoc (w.alloc (.cells #[.int .i64 t.k, .int .i64 t.n, .string t.s, .int .i64 t.at_] 71)) w.heap.size t := ⟨heap_alloc_new _ _⟩
  have HT := HT0.kept ((Kept.refl x (w.alloc (.cells #[.int .i64 t.k, .int .i64 t.n, .string t.s, .int .i64 t.at_] 71))).alloc (.cells #[.int .i64 0, .int .i64 0, .int .i64 0, .string { data := #[] }, .int .i64 0, .int .i64 0, .int .i64 0, .int .i64 0, .string { data := #[] }, .slice none 0 0] 31)) (by omega)
  clear s1 HT0
  generalize hW : ((w.alloc (.cells #[.int .i64 t.k, .int .i64 t.n, .string t.s, .int .i64 t.at_] 71)).alloc (.cells #[.int .i64 0, .int .i64 0, .int .i64 0, .string { data := #[] }, .int .i64 0, .int .i64 0, .int .i64 0, .int .i64 0, .string { data := #[] }, .slice none 0 0] 31)) = W at *
  have ne1 : x ≠ w.heap.size + 1 := by omega
  have ne2 : w.heap.size + 1 ≠ x := by omega
  have nt1 : x ≠ w.heap.size := by omega
  have nt2 : w.heap.size ≠ x := by omega
  have lt0 := HX.lt
  have HC0 := Lib.hid (rcalled W H0 hl (by omega))
  generalize hO : nameF l en L into t k = O
  have HO := Lib.hid hO.symm
  clear h hO
  unfold tokV
  have p3 : (u.k == 3) = true := by rw [hu3]; rfl
  have p4 : (u.k != 3) = false := by simp [bne, p3]
  have E := Lib.hid (HO.out.trans (name_range hs h1 h2 h3 h4 h5 ⟨hu3, h6, h7⟩))
  have hb1 := Lib.hid h1
  have hb2 := Lib.hid h2
  have hb3 := Lib.hid h3
  have hb4 := Lib.hid h4
  have B58 : Hid (({ data := #[58] } : ByteArray) = str [58]) := Lib.hid rfl
  clear h1 h2 h3 h4
  rw [hs] at HC0
  go_enter Tryz.func135, Tryz.ntmps135
  go_wp2_with fail
  refine HC0.out.mono ?_; rintro e w1 ⟨rfl, n, rfl⟩
  have H1 := H0.drew n
  have K1 := K0.drew n
  have X1 := HX.kept ((Kept.refl x W).drew n) ne2
  have T1 := HT.kept ((Kept.refl x W).drew n) nt2
  generalize hV : W.drewN n = V at *
  have b1 := X1.lt
  obtain ⟨q0, q1, q2, q3⟩ := T1.cells
  have HPA := Lib.hid (AddrC.raparse t.s V (by omega))
  have g1 : (t.s.toList == [84, 82, 85, 69]) = false := bytes_ne hb1.out
  have g2 : (t.s.toList == [70, 65, 76, 83, 69]) = false := bytes_ne hb2.out
  go_wp2_with fail
  refine HPA.out.mono ?_; rintro e w2 ⟨rfl, k2⟩
  clear g1 g2 q0 q1 q2 q3
  have K2 := K1.trans (Kept.of (x := x) k2)
  have H2 := pre_below H1 k2
  have X2 := X1.kept (Kept.of (x := x) k2) ne2
  have T2 := T1.kept (Kept.of (x := x) k2) nt2
  have b2 := X2.lt
  have K3 := K2.alloc (.cells #[.int .i64 (AddrC.pR t.s.data.toList), .int .i64 (AddrC.pC t.s.data.toList), .bool (AddrC.pOK t.s.data.toList)] 183)
  have H3 := H2.alloc (.cells #[.int .i64 (AddrC.pR t.s.data.toList), .int .i64 (AddrC.pC t.s.data.toList), .bool (AddrC.pOK t.s.data.toList)] 183)
  have X3 := X2.kept ((Kept.refl x w2).alloc (.cells #[.int .i64 (AddrC.pR t.s.data.toList), .int .i64 (AddrC.pC t.s.data.toList), .bool (AddrC.pOK t.s.data.toList)] 183)) ne2
  have G3 : GLoc (w2.alloc (.cells #[.int .i64 (AddrC.pR t.s.data.toList), .int .i64 (AddrC.pC t.s.data.toList), .bool (AddrC.pOK t.s.data.toList)] 183)) w2.heap.size (AddrC.pR t.s.data.toList) (AddrC.pC t.s.data.toList) (AddrC.pOK t.s.data.toList) := ⟨heap_alloc_new _ _⟩
  have ng : x ≠ w2.heap.size := by omega
  have ng2 : w2.heap.size ≠ x := by omega
  have ng3 : w.heap.size + 1 ≠ w2.heap.size := by omega
  have ng4 : w2.heap.size ≠ w.heap.size + 1 := by omega
  have b3 := X3.lt
  generalize hG : (w2.alloc (.cells #[.int .i64 (AddrC.pR t.s.data.toList), .int .i64 (AddrC.pC t.s.data.toList), .bool (AddrC.pOK t.s.data.toList)] 183)) = Y at *
  obtain ⟨a0, a1, a2⟩ := G3.cells
  rw [hb3.out] at a2
  have H4 := H3.setK ((k : Int) + 1)
  have K4 := K3.setCell 1 (.int .i64 ((k : Int) + 1))
  have X4 := X3.kept ((Kept.refl x Y).setCell 1 (.int .i64 ((k : Int) + 1))) ne2
  have G4 := G3.kept ((Kept.refl x Y).setCell 1 (.int .i64 ((k : Int) + 1))) ng2
  obtain ⟨c0, c1, c2, c3, c4, c5, y1, y3, y4, y5⟩ := (H3).at_.cells
  generalize hU : (Y.setCell ⟨x, 1, none⟩ (.int .i64 ((k : Int) + 1))) = U at *
  go_wp2_with fail
  rw [show ((k : Int) + 1) = ((k + 1 : Nat) : Int) from by omega] at H4
  clear c0 c1 c2 c3 c4 c5 y1 y3 y4 y5
  clear a0 a1 a2
  have HS := Lib.hid (rsign [58] U H4 hl)
  rw [hb4.out] at HS
  rw [B58.out]
  refine HS.out.mono ?_; rintro e w5 ⟨rfl, n5, rfl⟩
  have H5 := H4.drew n5
  have K5 := K4.drew n5
  have X5 := X4.kept ((Kept.refl x U).drew n5) ne2
  have G5 := G4.kept ((Kept.refl x U).drew n5) ng2
  generalize hZ : U.drewN n5 = Z5 at *
  have H6 := H5.setK (((k + 1 : Nat) : Int) + 1)
  have K6 := K5.setCell 1 (.int .i64 (((k + 1 : Nat) : Int) + 1))
  have X6 := X5.kept ((Kept.refl x Z5).setCell 1 (.int .i64 (((k + 1 : Nat) : Int) + 1))) ne2
  have G6 := G5.kept ((Kept.refl x Z5).setCell 1 (.int .i64 (((k + 1 : Nat) : Int) + 1))) ng2
  rw [show (((k + 1 : Nat) : Int) + 1) = ((k : Int) + 1 + 1) from by omega] at H6 K6 X6 G6
  obtain ⟨c0, c1, c2, c3, c4, c5, y1, y3, y4, y5⟩ := (H5).at_.cells
  rw [show ((k + 1 : Nat) : Int) = (k : Int) + 1 from by omega] at c1
  generalize hU6 : (Z5.setCell ⟨x, 1, none⟩ (.int .i64 ((k : Int) + 1 + 1))) = U6 at *
  go_wp2_with fail
  clear c0 c1 c2 c3 c4 c5 y1 y3 y4 y5
  rw [show ((k : Int) + 1 + 1) = ((k + 2 : Nat) : Int) from by omega] at H6
  clear hU hZ hG hV hW
  obtain ⟨TA, tc, hlv, hTk⟩ := H6.tok.form
  subst hlv
  obtain ⟨c0, c1, c2, c3, c4, c5, y1, y3, y4, y5⟩ := (H6).at_.cells
  rw [show ((k + 2 : Nat) : Int) = (k : Int) + 1 + 1 from by omega] at c1
  have hlt2 : k + 1 + 1 < l.length := (List.getElem?_eq_some_iff.1 h5).1
  have hte : l[k + 1 + 1] = u := (List.getElem?_eq_some_iff.1 h5).2
  obtain ⟨tg, rfl, hgx, t0, t1, t2, t3⟩ := hTk (k + 1 + 1) hlt2
  rw [hte] at t0 t1 t2 t3
  have d1 : decide ((l.length : Int) ≤ (k : Int) + 1 + 1) = false := decide_eq_false (by omega)
  clear hTk hte
  have HCQ : Hid (∀ q, Calls Tryz.prog 156 #[.pointer (some ⟨x, 0, none⟩)] (U6.drewN q) fun e w' => e = .returned (.bool false) ∧ ∃ m, w' = (U6.drewN q).drewN m) := Lib.hid (by
    intro q
    have h8 := rcalled _ (H6.drew q) hl (by omega)
    rw [show k + 2 + 1 = k + 3 from rfl, h6] at h8
    exact h8)
  clear h6 hu3 h5
  go_quiet ((go_at_call 156; exact Calls.quiet_of (HCQ.out _)))
  clear c0 c1 c2 c3 c4 c5 y1 y3 y4 y5
  have H7 := H6.drew nq
  have K7 := K6.drew nq
  have X7 := X6.kept ((Kept.refl x U6).drew nq) ne2
  have G7 := G6.kept ((Kept.refl x U6).drew nq) ng2
  obtain ⟨c0, c1, c2, c3, c4, c5, y1, y3, y4, y5⟩ := (H7).at_.cells
  rw [show ((k + 2 : Nat) : Int) = (k : Int) + 1 + 1 from by omega] at c1
  have tt2 : (U6.drewN nq).cell? ⟨tg, (k + 1 + 1) * 4 + 2, none⟩ = some (.string u.s) := t2
  clear t0 t1 t2 t3
  generalize hZ6 : U6.drewN nq = Z6 at *
  clear hZ6 hU6
  have HPB : ∀ W, Hid (Calls Tryz.prog 158 #[.string u.s] W _) := fun W => Lib.hid (AddrC.raparse u.s W (by omega))
  have hb7 := Lib.hid h7
  clear h7
  have bU1 : x < Z6.heap.size := H7.at_.lt
  have bU2 : tg < Z6.heap.size := by omega
  have hx7 : w.heap.size < w2.heap.size := by omega
  go_upto_region 20 with fail
  go_cut [7] from 96 to 107 (fun s7 wc => ∃ hb, s7 = .pointer (some ⟨hb, 0, none⟩) ∧ Two w w2.heap.size hb x (.slice (some ⟨tg, 0, none⟩) l.length tc) l en ((k + 2 : Nat) : Int) nest (AddrC.pR t.s.data.toList) (AddrC.pC t.s.data.toList) (AddrC.pR u.s.data.toList) (AddrC.pC u.s.data.toList) (AddrC.pOK t.s.data.toList) (AddrC.pOK u.s.data.toList) wc)
  case first =>
    go_region_with (go_at_call 158; refine (HPB _).out.mono ?_; rintro e w9 ⟨rfl, k9⟩; (first | (with_reducible have nb9 := got_block k9; obtain ⟨v0, v1, v2, v3, v4, v5⟩ := got_cells nb9) | skip))
    all_goals (go_wp2_with fail)
    all_goals (go_meet)
    all_goals (first | exact ⟨_, rfl, two_first H7 K7 X7 G7 hxw hx7 k9⟩ | exact ⟨_, rfl, two_last H7 K7 X7 G7 hxw hx7 k9⟩)
  case rest =>
  obtain ⟨hb, rfl, HTW⟩ := hcut
  clear c0 c1 c2 c3 c4 c5 y1 y3 y4 y5
  clear tt2
  obtain ⟨H10, K10, X10, G10, N10, bn0, bn1, bn2⟩ := HTW
  have bn3 : x ≠ hb := by omega
  have bn4 : w.heap.size + 1 ≠ hb := by omega
  have bn5 : hb ≠ x := by omega
  have bn6 : hb ≠ w.heap.size + 1 := by omega
  have bn7 : w2.heap.size ≠ hb := by omega
  have bn8 : hb ≠ w2.heap.size := by omega
  have b10 := X10.lt
  obtain ⟨e0, e1, e2⟩ := N10.cells
  rw [hb7.out] at e2
  have H11 := H10.setK ((k : Int) + 1 + 1 + 1)
  have K11 := K10.setCell 1 (.int .i64 ((k : Int) + 1 + 1 + 1))
  have X11 := X10.kept ((Kept.refl x wc).setCell 1 (.int .i64 ((k : Int) + 1 + 1 + 1))) ne2
  have G11 := G10.kept ((Kept.refl x wc).setCell 1 (.int .i64 ((k : Int) + 1 + 1 + 1))) ng2
  have N11 := N10.kept ((Kept.refl x wc).setCell 1 (.int .i64 ((k : Int) + 1 + 1 + 1))) bn5
  obtain ⟨c0, c1, c2, c3, c4, c5, y1, y3, y4, y5⟩ := (H10).at_.cells
  rw [show ((k + 2 : Nat) : Int) = (k : Int) + 1 + 1 from by omega] at c1
  generalize hM : (wc.setCell ⟨x, 1, none⟩ (.int .i64 ((k : Int) + 1 + 1 + 1))) = M at *
  rw [show ((k : Int) + 1 + 1 + 1) = ((k + 3 : Nat) : Int) from by omega] at H11
  obtain ⟨a0, a1, a2⟩ := G11.cells
  obtain ⟨i0, i1, i2⟩ := N11.cells
  go_wp2_with fail
  refine (AddrC.rmade _ _ _ _ _).mono ?_; rintro e w12 ⟨rfl, k12⟩
  have qM := field_R
  clear c0 c1 c2 c3 c4 c5 y1 y3 y4 y5
  clear a0 a1 a2 i0 i1 i2 e0 e1 e2
  have H12 := pre_below H11 k12
  have K12 := K11.trans (Kept.of (x := x) k12)
  have X12 := X11.kept (Kept.of (x := x) k12) ne2
  obtain ⟨f0, f1, f2, f3, f4, f5, f6, f7, f8, f9, z0, z1, z2, z3, z4, z5, z6, z7, z8, z9⟩ := (X12).cells
  go_wp2_with fail
  rw [E.out]
  refine bodyPost_ret (v := .agg #[.int .i64 3, .int .i64 0, .int .i64 0, .string { data := #[] }, .int .i64 (AddrC.mA (AddrC.pR t.s.data.toList) (AddrC.pC t.s.data.toList) (AddrC.pR u.s.data.toList) (AddrC.pC u.s.data.toList)), .int .i64 (AddrC.mB (AddrC.pR t.s.data.toList) (AddrC.pC t.s.data.toList) (AddrC.pR u.s.data.toList) (AddrC.pC u.s.data.toList)), .int .i64 (AddrC.mC (AddrC.pR t.s.data.toList) (AddrC.pC t.s.data.toList) (AddrC.pR u.s.data.toList) (AddrC.pC u.s.data.toList)), .int .i64 (AddrC.mD (AddrC.pR t.s.data.toList) (AddrC.pC t.s.data.toList) (AddrC.pR u.s.data.toList) (AddrC.pC u.s.data.toList)), .string { data := #[] }, .slice none 0 0]) (by simp [results, Tryz.results135, go_sem, f0, f1, f2, f3, f4, f5, f6, f7, f8, f9]) rfl (PPost.ok (b := w.heap.size + 1) K12 H12 (a := (rangeN (AddrC.mA (AddrC.pR t.s.data.toList) (AddrC.pC t.s.data.toList) (AddrC.pR u.s.data.toList) (AddrC.pC u.s.data.toList)) (AddrC.mB (AddrC.pR t.s.data.toList) (AddrC.pC t.s.data.toList) (AddrC.pR u.s.data.toList) (AddrC.pC u.s.data.toList)) (AddrC.mC (AddrC.pR t.s.data.toList) (AddrC.pC t.s.data.toList) (AddrC.pR u.s.data.toList) (AddrC.pC u.s.data.toList)) (AddrC.mD (AddrC.pR t.s.data.toList) (AddrC.pC t.s.data.toList) (AddrC.pR u.s.data.toList) (AddrC.pC u.s.data.toList)))) ⟨none, 0, rfl, Or.inl rfl⟩ (by omega) hxw ?_)
  repeat (first | with_reducible exact Kept.refl _ _ | with_reducible refine Kept.setCell ?_ _ _)
end Go.Proofs.YtkdgiadpmfpjnaaGreatDoor.TreeC

/-
  Contract of tree's reference: name, whole (but for a call, whose contract the caller gives).
-/
namespace Go.Proofs.YtkdgiadpmfpjnaaGreatDoor.TreeC
set_option linter.unusedVariables false
open Go.RowKit Go.Proofs.YtkdgiadpmfpjnaaGreatDoor.NumC Go.Proofs.YtkdgiadpmfpjnaaGreatDoor.LexC

theorem rname {x : Nat} {lv : Value} {l : List Tok} {en nest : Int} {L : Lev} {into : Bool} {k : Nat} {t : Tok} (w : World) (h : Pre w x lv l en k nest 0 0) (hl : l.length ≤ 300) (hk : k ≤ 400)
    (hsz : ∀ u ∈ l, u.s.size ≤ 1000000) (ht : l[k]? = some t)
    (hcl : isSign l (k + 1) [40] = true → ∀ (w : World), Pre w x lv l en k nest 0 0 → Calls Tryz.prog 157 #[.pointer (some ⟨x, 0, none⟩), tokV t] w (PPost x lv l en nest (callF l en L into t k) w)) :
    Calls Tryz.prog 135 #[.pointer (some ⟨x, 0, none⟩), tokV t] w (PPost x lv l en nest (nameF l en L into t k) w) := by
  have hts := hsz t (List.mem_of_getElem? ht)
  cases hs : isSign l (k + 1) [40] with
  | true => exact rname_call w h hl hk hs (hcl hs)
  | false =>
    by_cases h1 : t.s = trueB
    · exact rname_true w h hl hk hs h1
    · by_cases h2 : t.s = falseB
      · exact rname_false w h hl hk hs h1 h2
      · cases h3 : AddrC.pOK t.s.data.toList with
        | false => exact rname_none w h hl hk hts hs h1 h2 h3
        | true =>
          cases h4 : isSign l (k + 1) [58] with
          | false => exact rname_cell w h hl hk hts hs h1 h2 h3 h4
          | true =>
            cases h5 : l[k + 2]? with
            | none => exact rname_lacks w h hl hk hts hs h1 h2 h3 h4 (List.getElem?_eq_none_iff.1 h5)
            | some u =>
              have hus := hsz u (List.mem_of_getElem? h5)
              by_cases h6 : u.k = 3
              · cases h7 : isSign l (k + 3) [40] with
                | true => exact rname_called w h hl hk hts hs h1 h2 h3 h4 h5 h6 h7
                | false =>
                  cases h8 : AddrC.pOK u.s.data.toList with
                  | false => exact rname_second w h hl hk hus hts hs h1 h2 h3 h4 h5 h6 h7 h8
                  | true => exact rname_range w h hl hk hus hts hs h1 h2 h3 h4 h5 h6 h7 h8
              · exact rname_kind w h hl hk hts hs h1 h2 h3 h4 h5 h6
end Go.Proofs.YtkdgiadpmfpjnaaGreatDoor.TreeC
