/-
  Contract of tree's reference: a call.
-/
import Derived.Test.YtkdgiadpmfpjnaaGreatDoorMO
import Derived.Test.YtkdgiadpmfpjnaaGreatDoorMP0
import Derived.Deep.RegionLaw
import Derived.Deep.AppendLies
namespace Go.Proofs.YtkdgiadpmfpjnaaGreatDoor.TreeC
set_option linter.unusedVariables false
open Go.RowKit Go.Proofs.YtkdgiadpmfpjnaaGreatDoor.NumC Go.Proofs.YtkdgiadpmfpjnaaGreatDoor.LexC

/-- Behind a call's Args. -/
def afterF (l : List Tok) (n : Int) (t : Tok) (r : Except Bad (Fo × Nat)) : Out := match r with
  | .error e => .error e
  | .ok (al, k') => match closeF l n k' with
    | .error e => .error e
    | .ok k'' => .ok (callN t.s al, k'')
section
variable {l : List Tok} {n : Int} {L : Lev} {into : Bool} {k : Nat} {t : Tok}
theorem call_long (h : 8 < t.s.size) : callF l n L into t k = .error (badAt l n k) := by unfold callF; rw [if_pos h]
theorem call_none (h : ¬ 8 < t.s.size) (hs : isSign l (k + 2) [41] = true) : callF l n L into t k = .ok (callN t.s .nil, k + 3) := by unfold callF; rw [if_neg h, if_pos hs]
theorem call_args (h : ¬ 8 < t.s.size) (hs : isSign l (k + 2) [41] = false) : callF l n L into t k = afterF l n t (argsF l n L into 10 .nil (k + 2)) := by unfold callF; rw [if_neg h, if_neg (by rw [hs]; exact Bool.false_ne_true)]; rfl
end
theorem Pre.ek {w : World} {x : Nat} {lv : Value} {l : List Tok} {en k k2 nest e at_ : Int} (h : Pre w x lv l en k nest e at_) (e1 : k = k2) : Pre w x lv l en k2 nest e at_ := e1 ▸ h
def callFld (s : ByteArray) : Fld := ⟨6, 0, 0, { data := #[] }, 0, 0, 0, 0, s⟩

set_option maxRecDepth 100000 in
set_option maxHeartbeats 4000000 in
theorem rcall_long {x : Nat} {lv : Value} {l : List Tok} {en nest : Int} {L : Lev} {into : Bool} {k : Nat} {t : Tok} (w : World) (h : Pre w x lv l en k nest 0 0) (hl : l.length ≤ 300) (hk : k ≤ 299)
    (h8 : 8 < t.s.size) :
    Calls Tryz.prog 157 #[.pointer (some ⟨x, 0, none⟩), tokV t] w (PPost x lv l en nest (callF l en L into t k) w) := by
  have hxw := h.at_.lt
  have H0 := (h.alloc (.cells #[.int .i64 t.k, .int .i64 t.n, .string t.s, .int .i64 t.at_] 71)).alloc (.cells #[.int .i64 0, .int .i64 0, .int .i64 0, .string { data := #[] }, .int .i64 0, .int .i64 0, .int .i64 0, .int .i64 0, .string { data := #[] }, .slice none 0 0] 31)
  have K0 : Kept x w ((w.alloc (.cells #[.int .i64 t.k, .int .i64 t.n, .string t.s, .int .i64 t.at_] 71)).alloc (.cells #[.int .i64 0, .int .i64 0, .int .i64 0, .string { data := #[] }, .int .i64 0, .int .i64 0, .int .i64 0, .int .i64 0, .string { data := #[] }, .slice none 0 0] 31)) := ((Kept.refl _ _).alloc _).alloc _
  have s1 : (w.alloc (.cells #[.int .i64 t.k, .int .i64 t.n, .string t.s, .int .i64 t.at_] 71)).heap.size = w.heap.size + 1 := heap_one _ _
  have s2 : ((w.alloc (.cells #[.int .i64 t.k, .int .i64 t.n, .string t.s, .int .i64 t.at_] 71)).alloc (.cells #[.int .i64 0, .int .i64 0, .int .i64 0, .string { data := #[] }, .int .i64 0, .int .i64 0, .int .i64 0, .int .i64 0, .string { data := #[] }, .slice none 0 0] 31)).heap.size = w.heap.size + 2 := by simp
  have HX : NBox ((w.alloc (.cells #[.int .i64 t.k, .int .i64 t.n, .string t.s, .int .i64 t.at_] 71)).alloc (.cells #[.int .i64 0, .int .i64 0, .int .i64 0, .string { data := #[] }, .int .i64 0, .int .i64 0, .int .i64 0, .int .i64 0, .string { data := #[] }, .slice none 0 0] 31)) (w.heap.size + 1) := by have := NBox.new (w.alloc (.cells #[.int .i64 t.k, .int .i64 t.n, .string t.s, .int .i64 t.at_] 71)); rwa [s1] at this
  have HT0 : TLoc (w.alloc (.cells #[.int .i64 t.k, .int .i64 t.n, .string t.s, .int .i64 t.at_] 71)) w.heap.size t := ⟨heap_alloc_new _ _⟩
  have HT := HT0.kept ((Kept.refl x (w.alloc (.cells #[.int .i64 t.k, .int .i64 t.n, .string t.s, .int .i64 t.at_] 71))).alloc (.cells #[.int .i64 0, .int .i64 0, .int .i64 0, .string { data := #[] }, .int .i64 0, .int .i64 0, .int .i64 0, .int .i64 0, .string { data := #[] }, .slice none 0 0] 31)) (by omega)
  clear s1 HT0
  generalize hW : ((w.alloc (.cells #[.int .i64 t.k, .int .i64 t.n, .string t.s, .int .i64 t.at_] 71)).alloc (.cells #[.int .i64 0, .int .i64 0, .int .i64 0, .string { data := #[] }, .int .i64 0, .int .i64 0, .int .i64 0, .int .i64 0, .string { data := #[] }, .slice none 0 0] 31)) = W at *
  have ne1 : x ≠ w.heap.size + 1 := by omega
  have ne2 : w.heap.size + 1 ≠ x := by omega
  have nt1 : x ≠ w.heap.size := by omega
  have nt2 : w.heap.size ≠ x := by omega
  have lt0 := HX.lt
  generalize hO : callF l en L into t k = O
  have HO := Lib.hid hO.symm
  clear h hO
  unfold tokV
  obtain ⟨q0, q1, q2, q3⟩ := HT.cells
  have E := Lib.hid (HO.out.trans (call_long h8))
  have d1 : (8 : Int) < (t.s.size : Int) := by omega
  go_enter Tryz.func157, Tryz.ntmps157
  go_wp2_with fail
  refine (rbad _ H0 hl).mono ?_; rintro e w8 ⟨rfl, H8, k8⟩
  have K8 := K0.trans k8
  have X8 := HX.kept k8 ne2
  obtain ⟨f0, f1, f2, f3, f4, f5, f6, f7, f8, f9, z0, z1, z2, z3, z4, z5, z6, z7, z8, z9⟩ := (X8).cells
  go_wp2_with fail
  rw [E.out]
  refine bodyPost_ret (v := .agg #[.int .i64 0, .int .i64 0, .int .i64 0, .string { data := #[] }, .int .i64 0, .int .i64 0, .int .i64 0, .int .i64 0, .string { data := #[] }, .slice none 0 0]) (by simp [results, Tryz.results157, go_sem, f0, f1, f2, f3, f4, f5, f6, f7, f8, f9]) rfl (PPost.err (b := w.heap.size + 1) K8 H8 (nodeV_any fld0 none 0 0) (by show (13 : Int) ≠ 0; decide) (Int.le_refl _) (by omega) (by omega) hxw ?_)
  repeat (first | with_reducible exact Kept.refl _ _ | with_reducible refine Kept.setCell ?_ _ _)

set_option maxRecDepth 100000 in
set_option maxHeartbeats 4000000 in
theorem rcall_none {x : Nat} {lv : Value} {l : List Tok} {en nest : Int} {L : Lev} {into : Bool} {k : Nat} {t : Tok} (w : World) (h : Pre w x lv l en k nest 0 0) (hl : l.length ≤ 300) (hk : k ≤ 299)
    (h8 : ¬ 8 < t.s.size) (hs : isSign l (k + 2) [41] = true) :
    Calls Tryz.prog 157 #[.pointer (some ⟨x, 0, none⟩), tokV t] w (PPost x lv l en nest (callF l en L into t k) w) := by
  have hxw := h.at_.lt
  have H0 := (h.alloc (.cells #[.int .i64 t.k, .int .i64 t.n, .string t.s, .int .i64 t.at_] 71)).alloc (.cells #[.int .i64 0, .int .i64 0, .int .i64 0, .string { data := #[] }, .int .i64 0, .int .i64 0, .int .i64 0, .int .i64 0, .string { data := #[] }, .slice none 0 0] 31)
  have K0 : Kept x w ((w.alloc (.cells #[.int .i64 t.k, .int .i64 t.n, .string t.s, .int .i64 t.at_] 71)).alloc (.cells #[.int .i64 0, .int .i64 0, .int .i64 0, .string { data := #[] }, .int .i64 0, .int .i64 0, .int .i64 0, .int .i64 0, .string { data := #[] }, .slice none 0 0] 31)) := ((Kept.refl _ _).alloc _).alloc _
  have s1 : (w.alloc (.cells #[.int .i64 t.k, .int .i64 t.n, .string t.s, .int .i64 t.at_] 71)).heap.size = w.heap.size + 1 := heap_one _ _
  have s2 : ((w.alloc (.cells #[.int .i64 t.k, .int .i64 t.n, .string t.s, .int .i64 t.at_] 71)).alloc (.cells #[.int .i64 0, .int .i64 0, .int .i64 0, .string { data := #[] }, .int .i64 0, .int .i64 0, .int .i64 0, .int .i64 0, .string { data := #[] }, .slice none 0 0] 31)).heap.size = w.heap.size + 2 := by simp
  have HX : NBox ((w.alloc (.cells #[.int .i64 t.k, .int .i64 t.n, .string t.s, .int .i64 t.at_] 71)).alloc (.cells #[.int .i64 0, .int .i64 0, .int .i64 0, .string { data := #[] }, .int .i64 0, .int .i64 0, .int .i64 0, .int .i64 0, .string { data := #[] }, .slice none 0 0] 31)) (w.heap.size + 1) := by have := NBox.new (w.alloc (.cells #[.int .i64 t.k, .int .i64 t.n, .string t.s, .int .i64 t.at_] 71)); rwa [s1] at this
  have HT0 : TLoc (w.alloc (.cells #[.int .i64 t.k, .int .i64 t.n, .string t.s, .int .i64 t.at_] 71)) w.heap.size t := ⟨heap_alloc_new _ _⟩
  have HT := HT0.kept ((Kept.refl x (w.alloc (.cells #[.int .i64 t.k, .int .i64 t.n, .string t.s, .int .i64 t.at_] 71))).alloc (.cells #[.int .i64 0, .int .i64 0, .int .i64 0, .string { data := #[] }, .int .i64 0, .int .i64 0, .int .i64 0, .int .i64 0, .string { data := #[] }, .slice none 0 0] 31)) (by omega)
  clear s1 HT0
  generalize hW : ((w.alloc (.cells #[.int .i64 t.k, .int .i64 t.n, .string t.s, .int .i64 t.at_] 71)).alloc (.cells #[.int .i64 0, .int .i64 0, .int .i64 0, .string { data := #[] }, .int .i64 0, .int .i64 0, .int .i64 0, .int .i64 0, .string { data := #[] }, .slice none 0 0] 31)) = W at *
  have ne1 : x ≠ w.heap.size + 1 := by omega
  have ne2 : w.heap.size + 1 ≠ x := by omega
  have nt1 : x ≠ w.heap.size := by omega
  have nt2 : w.heap.size ≠ x := by omega
  have lt0 := HX.lt
  generalize hO : callF l en L into t k = O
  have HO := Lib.hid hO.symm
  clear h hO
  unfold tokV
  obtain ⟨q0, q1, q2, q3⟩ := HT.cells
  have E := Lib.hid (HO.out.trans (call_none h8 hs))
  have B41 : Hid (({ data := #[41] } : ByteArray) = str [41]) := Lib.hid rfl
  have nl1 : x ≠ w.heap.size + 2 := by omega
  have nl2 : w.heap.size + 2 ≠ x := by omega
  have d1 : ¬ (8 : Int) < (t.s.size : Int) := by omega
  have H1 := H0.setK ((k : Int) + 2)
  have T1 := HT.kept ((Kept.refl x W).setCell 1 (.int .i64 ((k : Int) + 2))) nt2
  obtain ⟨c0, c1, c2, c3, c4, c5, y1, y3, y4, y5⟩ := (H0).at_.cells
  have z1 : (W.setCell ⟨x, 1, none⟩ (.int .i64 ((k : Int) + 2))).heap.size = w.heap.size + 2 := by rw [← s2]; simp [World.setCell]
  have H2 := H1.alloc (.cells #[.int .i64 6, .int .i64 0, .int .i64 0, .string { data := #[] }, .int .i64 0, .int .i64 0, .int .i64 0, .int .i64 0, .string t.s, .slice none 0 0] 31)
  rw [show Pre ((W.setCell ⟨x, 1, none⟩ (.int .i64 ((k : Int) + 2))).alloc (.cells #[.int .i64 6, .int .i64 0, .int .i64 0, .string { data := #[] }, .int .i64 0, .int .i64 0, .int .i64 0, .int .i64 0, .string t.s, .slice none 0 0] 31)) x lv l en ((k : Int) + 2) nest 0 0 = Pre ((W.setCell ⟨x, 1, none⟩ (.int .i64 ((k : Int) + 2))).alloc (.cells #[.int .i64 6, .int .i64 0, .int .i64 0, .string { data := #[] }, .int .i64 0, .int .i64 0, .int .i64 0, .int .i64 0, .string t.s, .slice none 0 0] 31)) x lv l en ((k + 2 : Nat) : Int) nest 0 0 from by rw [show ((k + 2 : Nat) : Int) = (k : Int) + 2 from by omega]] at H2
  have K2 : Kept x w ((W.setCell ⟨x, 1, none⟩ (.int .i64 ((k : Int) + 2))).alloc (.cells #[.int .i64 6, .int .i64 0, .int .i64 0, .string { data := #[] }, .int .i64 0, .int .i64 0, .int .i64 0, .int .i64 0, .string t.s, .slice none 0 0] 31)) := (K0.setCell 1 _).alloc _
  have X2 : NBox ((W.setCell ⟨x, 1, none⟩ (.int .i64 ((k : Int) + 2))).alloc (.cells #[.int .i64 6, .int .i64 0, .int .i64 0, .string { data := #[] }, .int .i64 0, .int .i64 0, .int .i64 0, .int .i64 0, .string t.s, .slice none 0 0] 31)) (w.heap.size + 1) := HX.kept (y := x) (by repeat (first | with_reducible exact Kept.refl _ _ | with_reducible refine Kept.setCell ?_ _ _ | with_reducible refine Kept.alloc ?_ _ | with_reducible refine Kept.drew ?_ _)) ne2
  have L2 : NLoc ((W.setCell ⟨x, 1, none⟩ (.int .i64 ((k : Int) + 2))).alloc (.cells #[.int .i64 6, .int .i64 0, .int .i64 0, .string { data := #[] }, .int .i64 0, .int .i64 0, .int .i64 0, .int .i64 0, .string t.s, .slice none 0 0] 31)) (w.heap.size + 2) (callFld t.s) none 0 0 := ⟨by rw [← z1]; exact heap_alloc_new _ _⟩
  go_enter Tryz.func157, Tryz.ntmps157
  go_wp2_with fail
  clear c0 c1 c2 c3 c4 c5 y1 y3 y4 y5 H0 H1 T1 HX HT K0 q0 q1 q2 q3
  generalize hV : ((W.setCell ⟨x, 1, none⟩ (.int .i64 ((k : Int) + 2))).alloc (.cells #[.int .i64 6, .int .i64 0, .int .i64 0, .string { data := #[] }, .int .i64 0, .int .i64 0, .int .i64 0, .int .i64 0, .string t.s, .slice none 0 0] 31)) = V at *
  clear hV hW
  refine (rsign [41] V H2 hl).mono ?_; rintro e w3 ⟨rfl, q, rfl⟩
  rw [hs]
  clear z1 s2
  have H3 := H2.drew q
  have X3 := X2.kept ((Kept.refl x V).drew q) ne2
  have L3 := L2.kept ((Kept.refl x V).drew q) nl2
  have lt2 : w.heap.size + 1 < V.heap.size := X2.lt
  have lt3 : w.heap.size + 2 < V.heap.size := L2.lt
  have nbl : w.heap.size + 1 ≠ w.heap.size + 2 := by omega
  have nlb : w.heap.size + 2 ≠ w.heap.size + 1 := by omega
  obtain ⟨c0, c1, c2, c3, c4, c5, y1, y3, y4, y5⟩ := (H3).at_.cells
  obtain ⟨f0, f1, f2, f3, f4, f5, f6, f7, f8, f9, z0, z1, z2, z3, z4, z5, z6, z7, z8, z9⟩ := (X3).cells
  obtain ⟨a0, a1, a2, a3, a4, a5, a6, a7, a8, a9, az0, az1, az2, az3, az4, az5, az6, az7, az8, az9⟩ := (L3).cells
  go_wp2_with fail
  rw [E.out]
  refine bodyPost_ret (v := .agg #[.int .i64 (callFld t.s).k, .int .i64 (callFld t.s).vk, .int .i64 (callFld t.s).vn, .string (callFld t.s).vs, .int .i64 (callFld t.s).r1, .int .i64 (callFld t.s).r2, .int .i64 (callFld t.s).r3, .int .i64 (callFld t.s).r4, .string (callFld t.s).op, .slice none 0 0]) (by simp [results, Tryz.results157, go_sem, f0, f1, f2, f3, f4, f5, f6, f7, f8, f9]) rfl (PPost.ok (W := ?W) (b := w.heap.size + 1) ?hK ?hP ⟨none, 0, rfl, Or.inl rfl⟩ (by omega) hxw ?hk)
  case hk => repeat (first | with_reducible refine Kept.setCell ?_ _ _ | with_reducible exact Kept.refl _ _)
  case hK => exact (K2.drew q).setCell 1 _
  case hP => exact (H3.setK _).ek (by omega)

/-- Behind one Arg: it is in the node's own row, or what is wrong stands in the parser. -/
def RArg (w : World) (x : Nat) (lv : Value) (l : List Tok) (en nest : Int) (s : ByteArray) (i : Nat) (fo : Fo) (out : Out) (wc : World) : Prop :=
  ∃ (A : Option Addr) (c : Nat), NLoc wc (w.heap.size + 2) (callFld s) A (i + 1) c ∧ Kept x w wc ∧ NBox wc (w.heap.size + 1) ∧
    ((∃ a k2, out = .ok (a, k2) ∧ AS wc (w.heap.size + 3) (.slice A (i + 1) c) (fo.app a.one) ∧ Pre wc x lv l en (k2 : Nat) (nest + 1) 0 0) ∨
     (∃ (b : Bad) (k2 n2 : Int), out = .error b ∧ b.1 ≠ 0 ∧ nest + 1 ≤ n2 ∧ n2 ≤ nest + 1 + 1 ∧ Pre wc x lv l en k2 n2 b.1 b.2))
theorem NLoc.setArgs {w : World} {b n c : Nat} {f : Fld} {A : Option Addr} (h : NLoc w b f A n c) (B : Option Addr) (m d : Nat) : NLoc (w.setCell ⟨b, 9, none⟩ (.slice B m d)) b f B m d := by
  have h1 := h.at_
  exact ⟨by simp [World.setCell, Array.getElem?_modify, h1]⟩
theorem rarg_mk {w w6 w9 : World} {x : Nat} {lv : Value} {l : List Tok} {en nest : Int} {s : ByteArray} {i c g cap m c6 : Nat} {fo : Fo} {A A6 : Option Addr} {f : Fld} {vs : List Value} {out : Out} (hxw : x < w.heap.size) (hlen : fo.len = i)
    (N6 : NLoc w6 (w.heap.size + 2) (callFld s) A i c) (K6 : Kept x w w6) (X6 : NBox w6 (w.heap.size + 1)) (hs : w.heap.size + 3 ≤ w6.heap.size)
    (hvs : RowV w6 (fun g => (w.heap.size + 3) ≤ g ∧ Value.ownBlock (.slice A i c) ≠ some g) fo vs) (hlo : ∀ k, Value.ownBlock (.slice A i c) = some k → (w.heap.size + 3) ≤ k ∧ k < w6.heap.size)
    (hm : (∃ kd k', out = .ok (⟨f, kd⟩, k') ∧ kd.len = m ∧ KidsAt w6 (fun g => (w.heap.size + 3) ≤ g ∧ Value.ownBlock (.slice A i c) ≠ some g) kd A6 ∧ Pre w6 x lv l en (k' : Nat) (nest + 1) 0 0) ∨
      (∃ (b : Bad) (k2 n2 : Int), out = .error b ∧ b.1 ≠ 0 ∧ nest + 1 ≤ n2 ∧ n2 ≤ nest + 1 + 1 ∧ Pre w6 x lv l en k2 n2 b.1 b.2))
    (ho : w9.ownsRow (w.heap.size + 3) 31 10 (.slice (some ⟨g, 0, none⟩) (i + 1) cap) (i + 1) (ncells vs ++ (nodeV f A6 m c6).cells.toList)) (hg : w6.grownBy w9 (Value.ownBlock (.slice A i c))) (hat : Value.ownBlock (.slice A i c) = some g ∨ g = w6.heap.size) :
    RArg w x lv l en nest s i fo out (w9.setCell ⟨w.heap.size + 2, 9, none⟩ (.slice (some ⟨g, 0, none⟩) (i + 1) cap)) := by
  obtain ⟨y, k9, hy⟩ := grown_kept hg
  have hyb : w.heap.size + 3 ≤ y := by
    rcases hy with hy | hy
    · exact (hlo y hy).1
    · omega
  have kS : Kept (w.heap.size + 2) w9 (w9.setCell ⟨w.heap.size + 2, 9, none⟩ (.slice (some ⟨g, 0, none⟩) (i + 1) cap)) := (Kept.refl _ _).setCell _ _
  refine ⟨some ⟨g, 0, none⟩, cap, (N6.kept k9 (by omega)).setArgs _ _ _, (K6.then_ k9 (by omega)).setNew _ _ _ (by omega), (X6.kept k9 (by omega)).kept kS (by omega), ?_⟩
  rcases hm with ⟨kd, k', rfl, hn, hA, hP⟩ | ⟨b, k2, n2, rfl, h0, h1, h2, hP⟩
  · refine Or.inl ⟨⟨f, kd⟩, k', rfl, ?_, (hP.kept k9 (by omega)).kept kS (by omega)⟩
    refine AS.kept (x := w.heap.size + 2) ?_ kS (by omega)
    refine AS.snoc (m := m) (c := c6) vs hvs hn hA (by rw [hlen]; exact ho) hg ?_
    rcases hat with hat | hat
    · exact Or.inl hat.symm
    · exact Or.inr (by rw [hat]; rfl)
  · exact Or.inr ⟨b, k2, n2, rfl, h0, h1, h2, (hP.kept k9 (by omega)).kept kS (by omega)⟩
/-- At the head of the loop over Args. -/
def RArgs (w : World) (x : Nat) (lv : Value) (l : List Tok) (en nest : Int) (t : Tok) (L : Lev) (into : Bool) (O : Out) (i : Nat) (wr : World) : Prop :=
  ∃ (fo : Fo) (k' : Nat) (A : Option Addr) (c : Nat), fo.len = i ∧ k' ≤ 301 ∧ NLoc wr (w.heap.size + 2) (callFld t.s) A i c ∧ AS wr (w.heap.size + 3) (.slice A i c) fo ∧ Kept x w wr ∧ NBox wr (w.heap.size + 1) ∧ Pre wr x lv l en (k' : Nat) nest 0 0 ∧ O = afterF l en t (argsF l en L into (10 - i) fo k')
theorem after_err {l : List Tok} {n : Int} {t : Tok} {r : Except Bad (Fo × Nat)} {O : Out} {b : Bad} (h : O = afterF l n t r) (hr : r = .error b) : O = .error b := by subst hr; exact h
theorem after_ok {l : List Tok} {n : Int} {t : Tok} {r : Except Bad (Fo × Nat)} {O : Out} {fo : Fo} {k : Nat} (h : O = afterF l n t r) (hr : r = .ok (fo, k)) (hs : isSign l k [41] = true) : O = .ok (callN t.s fo, k + 1) := by subst hr; rw [h]; simp [afterF, closeF, hs]
theorem after_bad {l : List Tok} {n : Int} {t : Tok} {r : Except Bad (Fo × Nat)} {O : Out} {fo : Fo} {k : Nat} (h : O = afterF l n t r) (hr : r = .ok (fo, k)) (hs : isSign l k [41] = false) : O = .error (badAt l n k) := by subst hr; rw [h]; simp [afterF, closeF, hs]

set_option maxRecDepth 100000 in
set_option maxHeartbeats 4000000 in
theorem rcall_args {x : Nat} {lv : Value} {l : List Tok} {en nest : Int} {L : Lev} {into : Bool} {k : Nat} {t : Tok} (w : World) (h : Pre w x lv l en k nest 0 0) (hl : l.length ≤ 300) (hk : k ≤ 299)
    (hn0 : 0 ≤ nest) (hn1 : nest ≤ 40) (hi : into = decide (nest < 40)) (hL : LGoes l L) (hc : into = true → Con1 x lv l en (nest + 1) L) (h8 : ¬ 8 < t.s.size) (hs : isSign l (k + 2) [41] = false) :
    Calls Tryz.prog 157 #[.pointer (some ⟨x, 0, none⟩), tokV t] w (PPost x lv l en nest (callF l en L into t k) w) := by
  have hxw := h.at_.lt
  have H0 := (h.alloc (.cells #[.int .i64 t.k, .int .i64 t.n, .string t.s, .int .i64 t.at_] 71)).alloc (.cells #[.int .i64 0, .int .i64 0, .int .i64 0, .string { data := #[] }, .int .i64 0, .int .i64 0, .int .i64 0, .int .i64 0, .string { data := #[] }, .slice none 0 0] 31)
  have K0 : Kept x w ((w.alloc (.cells #[.int .i64 t.k, .int .i64 t.n, .string t.s, .int .i64 t.at_] 71)).alloc (.cells #[.int .i64 0, .int .i64 0, .int .i64 0, .string { data := #[] }, .int .i64 0, .int .i64 0, .int .i64 0, .int .i64 0, .string { data := #[] }, .slice none 0 0] 31)) := ((Kept.refl _ _).alloc _).alloc _
  have s1 : (w.alloc (.cells #[.int .i64 t.k, .int .i64 t.n, .string t.s, .int .i64 t.at_] 71)).heap.size = w.heap.size + 1 := heap_one _ _
  have s2 : ((w.alloc (.cells #[.int .i64 t.k, .int .i64 t.n, .string t.s, .int .i64 t.at_] 71)).alloc (.cells #[.int .i64 0, .int .i64 0, .int .i64 0, .string { data := #[] }, .int .i64 0, .int .i64 0, .int .i64 0, .int .i64 0, .string { data := #[] }, .slice none 0 0] 31)).heap.size = w.heap.size + 2 := by simp
  have HX : NBox ((w.alloc (.cells #[.int .i64 t.k, .int .i64 t.n, .string t.s, .int .i64 t.at_] 71)).alloc (.cells #[.int .i64 0, .int .i64 0, .int .i64 0, .string { data := #[] }, .int .i64 0, .int .i64 0, .int .i64 0, .int .i64 0, .string { data := #[] }, .slice none 0 0] 31)) (w.heap.size + 1) := by have := NBox.new (w.alloc (.cells #[.int .i64 t.k, .int .i64 t.n, .string t.s, .int .i64 t.at_] 71)); rwa [s1] at this
  have HT0 : TLoc (w.alloc (.cells #[.int .i64 t.k, .int .i64 t.n, .string t.s, .int .i64 t.at_] 71)) w.heap.size t := ⟨heap_alloc_new _ _⟩
  have HT := HT0.kept ((Kept.refl x (w.alloc (.cells #[.int .i64 t.k, .int .i64 t.n, .string t.s, .int .i64 t.at_] 71))).alloc (.cells #[.int .i64 0, .int .i64 0, .int .i64 0, .string { data := #[] }, .int .i64 0, .int .i64 0, .int .i64 0, .int .i64 0, .string { data := #[] }, .slice none 0 0] 31)) (by omega)
  clear s1 HT0
  generalize hW : ((w.alloc (.cells #[.int .i64 t.k, .int .i64 t.n, .string t.s, .int .i64 t.at_] 71)).alloc (.cells #[.int .i64 0, .int .i64 0, .int .i64 0, .string { data := #[] }, .int .i64 0, .int .i64 0, .int .i64 0, .int .i64 0, .string { data := #[] }, .slice none 0 0] 31)) = W at *
  have ne1 : x ≠ w.heap.size + 1 := by omega
  have ne2 : w.heap.size + 1 ≠ x := by omega
  have nt1 : x ≠ w.heap.size := by omega
  have nt2 : w.heap.size ≠ x := by omega
  have lt0 := HX.lt
  generalize hO : callF l en L into t k = O
  have HO := Lib.hid hO.symm
  clear h hO
  unfold tokV
  obtain ⟨q0, q1, q2, q3⟩ := HT.cells
  have E := Lib.hid (HO.out.trans (call_args h8 hs))
  have B41 : Hid (({ data := #[41] } : ByteArray) = str [41]) := Lib.hid rfl
  have B44 : Hid (({ data := #[44] } : ByteArray) = str [44]) := Lib.hid rfl
  have nl1 : x ≠ w.heap.size + 2 := by omega
  have nl2 : w.heap.size + 2 ≠ x := by omega
  have HIN := Lib.hid hi
  have HCC := Lib.hid hc
  obtain ⟨i0, hi0, hz0, hz1, hz2⟩ := info_parts node_info
  have HZ0 := Lib.hid hz0; have HZ1 := Lib.hid hz1; have HZ2 := Lib.hid hz2; have HI0 := Lib.hid hi0
  clear hz0 hz1 hz2 hi0 hi hc
  have d1 : ¬ (8 : Int) < (t.s.size : Int) := by omega
  have H1 := H0.setK ((k : Int) + 2)
  have T1 := HT.kept ((Kept.refl x W).setCell 1 (.int .i64 ((k : Int) + 2))) nt2
  obtain ⟨c0, c1, c2, c3, c4, c5, y1, y3, y4, y5⟩ := (H0).at_.cells
  have z1 : (W.setCell ⟨x, 1, none⟩ (.int .i64 ((k : Int) + 2))).heap.size = w.heap.size + 2 := by rw [← s2]; simp [World.setCell]
  have H2 := H1.alloc (.cells #[.int .i64 6, .int .i64 0, .int .i64 0, .string { data := #[] }, .int .i64 0, .int .i64 0, .int .i64 0, .int .i64 0, .string t.s, .slice none 0 0] 31)
  rw [show Pre ((W.setCell ⟨x, 1, none⟩ (.int .i64 ((k : Int) + 2))).alloc (.cells #[.int .i64 6, .int .i64 0, .int .i64 0, .string { data := #[] }, .int .i64 0, .int .i64 0, .int .i64 0, .int .i64 0, .string t.s, .slice none 0 0] 31)) x lv l en ((k : Int) + 2) nest 0 0 = Pre ((W.setCell ⟨x, 1, none⟩ (.int .i64 ((k : Int) + 2))).alloc (.cells #[.int .i64 6, .int .i64 0, .int .i64 0, .string { data := #[] }, .int .i64 0, .int .i64 0, .int .i64 0, .int .i64 0, .string t.s, .slice none 0 0] 31)) x lv l en ((k + 2 : Nat) : Int) nest 0 0 from by rw [show ((k + 2 : Nat) : Int) = (k : Int) + 2 from by omega]] at H2
  have K2 : Kept x w ((W.setCell ⟨x, 1, none⟩ (.int .i64 ((k : Int) + 2))).alloc (.cells #[.int .i64 6, .int .i64 0, .int .i64 0, .string { data := #[] }, .int .i64 0, .int .i64 0, .int .i64 0, .int .i64 0, .string t.s, .slice none 0 0] 31)) := (K0.setCell 1 _).alloc _
  have X2 : NBox ((W.setCell ⟨x, 1, none⟩ (.int .i64 ((k : Int) + 2))).alloc (.cells #[.int .i64 6, .int .i64 0, .int .i64 0, .string { data := #[] }, .int .i64 0, .int .i64 0, .int .i64 0, .int .i64 0, .string t.s, .slice none 0 0] 31)) (w.heap.size + 1) := HX.kept (y := x) (by repeat (first | with_reducible exact Kept.refl _ _ | with_reducible refine Kept.setCell ?_ _ _ | with_reducible refine Kept.alloc ?_ _ | with_reducible refine Kept.drew ?_ _)) ne2
  have L2 : NLoc ((W.setCell ⟨x, 1, none⟩ (.int .i64 ((k : Int) + 2))).alloc (.cells #[.int .i64 6, .int .i64 0, .int .i64 0, .string { data := #[] }, .int .i64 0, .int .i64 0, .int .i64 0, .int .i64 0, .string t.s, .slice none 0 0] 31)) (w.heap.size + 2) (callFld t.s) none 0 0 := ⟨by rw [← z1]; exact heap_alloc_new _ _⟩
  go_enter Tryz.func157, Tryz.ntmps157
  go_wp2_with fail
  clear c0 c1 c2 c3 c4 c5 y1 y3 y4 y5 H0 H1 T1 HX HT K0 q0 q1 q2 q3
  generalize hV : ((W.setCell ⟨x, 1, none⟩ (.int .i64 ((k : Int) + 2))).alloc (.cells #[.int .i64 6, .int .i64 0, .int .i64 0, .string { data := #[] }, .int .i64 0, .int .i64 0, .int .i64 0, .int .i64 0, .string t.s, .slice none 0 0] 31)) = V at *
  clear hV hW
  refine (rsign [41] V H2 hl).mono ?_; rintro e w3 ⟨rfl, q, rfl⟩
  rw [hs]
  clear z1 s2
  have HST : Hid (RArgs w x lv l en nest t L into O 0 (V.drewN q)) := Lib.hid ⟨.nil, k + 2, none, 0, rfl, by omega, L2.kept ((Kept.refl x V).drew q) nl2, AS.nil _ _, K2.drew q, X2.kept ((Kept.refl x V).drew q) ne2, H2.drew q, E.out⟩
  clear H2 X2 L2 K2 hs E HO
  go_wp2_with fail
  go_loopw [6] (fun iv wr => ∃ i : Nat, i ≤ 10 ∧ iv = .int .i64 i ∧ Hid (RArgs w x lv l en nest t L into O i wr)) (fun iv _ => 10 - (intOf iv).toNat)
  case atStart => exact ⟨0, by omega, rfl, HST⟩
  case round =>
    clear HST
    obtain ⟨i, hi10, rfl, HR⟩ := hrel
    obtain ⟨fo, k', A, c, hlen, hk', hN, hA, hK, hX, hP, hO⟩ := HR.out
    clear HR
    have HA := Lib.hid hA
    have HO := Lib.hid hO
    have HLEN := Lib.hid hlen
    clear hA hO hlen
    have ltx := hX.lt
    have ltn := hN.lt
    have t4 : (i : Int) < 400 := by omega
    by_cases h10 : i = 10
    · have t10 : ((i : Int) == 10) = true := beq_iff_eq.2 (by omega)
      have E2 : Hid (O = .error (badAt l en k')) := Lib.hid (after_err HO.out (by rw [show 10 - i = 0 from by omega]; exact args_end))
      go_wp2_with fail
      refine (rbad wr hP hl).mono ?_; rintro e w8 ⟨rfl, H8, k8⟩
      have K8 := hK.trans k8
      have X8 := hX.kept k8 ne2
      have N8 := hN.kept k8 nl2
      obtain ⟨f0, f1, f2, f3, f4, f5, f6, f7, f8, f9, z0, z1, z2, z3, z4, z5, z6, z7, z8, z9⟩ := (X8).cells
      obtain ⟨a0, a1, a2, a3, a4, a5, a6, a7, a8, a9, az0, az1, az2, az3, az4, az5, az6, az7, az8, az9⟩ := (N8).cells
      obtain ⟨c0, c1, c2, c3, c4, c5, y1, y3, y4, y5⟩ := (H8).at_.cells
      go_wp2_with fail
      rw [E2.out]
      refine bodyPost_ret (v := .agg #[.int .i64 (callFld t.s).k, .int .i64 (callFld t.s).vk, .int .i64 (callFld t.s).vn, .string (callFld t.s).vs, .int .i64 (callFld t.s).r1, .int .i64 (callFld t.s).r2, .int .i64 (callFld t.s).r3, .int .i64 (callFld t.s).r4, .string (callFld t.s).op, .slice A i c]) (by simp [results, Tryz.results157, go_sem, f0, f1, f2, f3, f4, f5, f6, f7, f8, f9, h10]) rfl  (PPost.err (b := w.heap.size + 1) K8 H8 (nodeV_any (callFld t.s) _ _ _) (by show (13 : Int) ≠ 0; decide) (Int.le_refl _) (by omega) (by omega) hxw ?_)
      repeat (first | with_reducible exact Kept.refl _ _ | with_reducible refine Kept.setCell ?_ _ _)
    · have t10 : ((i : Int) == 10) = false := beq_eq_false_iff_ne.2 (by omega)
      obtain ⟨r, hr⟩ : ∃ r, 10 - i = r + 1 := ⟨10 - i - 1, by omega⟩
      have HRR := Lib.hid hr
      clear hr
      obtain ⟨c0, c1, c2, c3, c4, c5, y1, y3, y4, y5⟩ := (hP).at_.cells
      go_wp2_with fail
      clear c0 c1 c2 c3 c4 c5 y1 y3 y4 y5
      by_cases hin : nest < 40
      rotate_left
      · have hif := Lib.hid (show into = false by rw [HIN.out]; exact decide_eq_false hin)
        have E2 : Hid (O = .error deepE) := Lib.hid (after_err HO.out (by rw [HRR.out]; exact args_deep hif.out))
        refine (rinto_no wr hP (by omega) (by omega)).mono ?_; rintro e w8 ⟨rfl, H8, k8⟩
        have K8 := hK.trans k8
        have X8 := hX.kept k8 ne2
        have N8 := hN.kept k8 nl2
        obtain ⟨f0, f1, f2, f3, f4, f5, f6, f7, f8, f9, z0, z1, z2, z3, z4, z5, z6, z7, z8, z9⟩ := (X8).cells
        obtain ⟨a0, a1, a2, a3, a4, a5, a6, a7, a8, a9, az0, az1, az2, az3, az4, az5, az6, az7, az8, az9⟩ := (N8).cells
        go_wp2_with fail
        rw [E2.out]
        refine bodyPost_ret (v := .agg #[.int .i64 (callFld t.s).k, .int .i64 (callFld t.s).vk, .int .i64 (callFld t.s).vn, .string (callFld t.s).vs, .int .i64 (callFld t.s).r1, .int .i64 (callFld t.s).r2, .int .i64 (callFld t.s).r3, .int .i64 (callFld t.s).r4, .string (callFld t.s).op, .slice A i c]) (by simp [results, Tryz.results157, go_sem, f0, f1, f2, f3, f4, f5, f6, f7, f8, f9]) rfl  (PPost.err (b := w.heap.size + 1) K8 H8 (nodeV_any (callFld t.s) _ _ _) (by decide) (by omega) (by omega) (by omega) hxw ?_)
        repeat (first | with_reducible exact Kept.refl _ _ | with_reducible refine Kept.setCell ?_ _ _)
      · have hit := Lib.hid (show into = true by rw [HIN.out]; exact decide_eq_true hin)
        have HC := Lib.hid (HCC.out hit.out)
        refine (rinto_yes wr hP hn0 hin).mono ?_; rintro e w5 ⟨rfl, H5, k5⟩
        have K5 := hK.trans k5
        have X5 := hX.kept k5 ne2
        have N5 := hN.kept k5 nl2
        have A5 := Lib.hid (HA.out.kept k5 (by omega))
        have N5d := N5.kept ((Kept.refl x w5).drew 1) nl2
        have s5 : w.heap.size + 3 ≤ w5.heap.size := N5.lt
        clear hP hK hX hN HA k5 ltx ltn
        go_upto_region 16 with fail
        go_cut [6] from 53 to 59 (fun s6 wc => s6 = .int .i64 i ∧ Hid (RArg w x lv l en nest t.s i fo (L.fm k') wc))
        case first =>
          obtain ⟨-, -, -, -, -, -, -, -, -, a9, -, -, -, -, -, -, -, -, -, az9⟩ := (N5).cells
          go_region_law (first
            | (refine step_append_lies _ (by rfl) (.tmp 54) (.tmp 57) _ (by rfl) (w.heap.size + 3) 31 i0 _ 10 112 Tryz.underlying29 HI0.out HZ0.out HZ1.out HZ2.out rfl (by omega) (.slice A i c) i (ncells vs) (by rfl) (HLEN.out ▸ HOWN.out) ⟨w6.heap.size, 0, none⟩ 1 1 [.int .i64 f.k, .int .i64 f.vk, .int .i64 f.vn, .string f.vs, .int .i64 f.r1, .int .i64 f.r2, .int .i64 f.r3, .int .i64 f.r4, .string f.op, .slice A6 m c6] (by rfl) (by rfl) (World.news_of_block HNB.out) (by simp [Value.oneCell']) (by omega) (by unfold maxLen; omega) (by omega) s7 (w6.heap.size + 1) (by simp) ?_
               intro g cap w9 hown9 hgrow9 hat9 hlt9
               obtain ⟨y9, k9, hy9⟩ := grown_kept hgrow9
               have hyb9 : w.heap.size + 3 ≤ y9 := (by
                 rcases hy9 with h | h
                 · exact (HLO.out y9 h).1
                 · omega)
               have N9 := N7.kept k9 (by omega)
               obtain ⟨-, -, -, -, -, -, -, -, -, e9, -, -, -, -, -, -, -, -, -, ez9⟩ := (N9).cells)
            | (go_simp
               go_at_call 25
               refine (HC.out.fm k' _ (by omega) H5.drew1).mono ?_; intro e w6 hp6
               obtain ⟨f, A6, m, c6, rfl, k6, hm6⟩ := post_split hp6
               have s6 : w.heap.size + 3 ≤ w6.heap.size := Nat.le_trans s5 k6.size
               have kA : Kept x w6 (w6.alloc (.cells #[.int .i64 f.k, .int .i64 f.vk, .int .i64 f.vn, .string f.vs, .int .i64 f.r1, .int .i64 f.r2, .int .i64 f.r3, .int .i64 f.r4, .string f.op, .slice A6 m c6] 31)) := (Kept.refl x w6).alloc _
               have N6 := N5d.kept k6 nl2
               have lt6 := N6.lt
               have ne6 : w.heap.size + 2 ≠ w6.heap.size := Nat.ne_of_lt lt6
               have N7 := N6.kept kA nl2
               have X7 := ((X5.kept ((Kept.refl x w5).drew 1) ne2).kept k6 ne2).kept kA ne2
               have K7 := ((K5.drew 1).trans k6).trans kA
               have A7 : AS (w6.alloc (.cells #[.int .i64 f.k, .int .i64 f.vk, .int .i64 f.vn, .string f.vs, .int .i64 f.r1, .int .i64 f.r2, .int .i64 f.r3, .int .i64 f.r4, .string f.op, .slice A6 m c6] 31)) (w.heap.size + 3) (.slice A i c) fo := ((A5.out.kept ((Kept.refl x w5).drew 1) (by omega)).kept k6 (by omega)).kept kA (by omega)
               have hlo5 := A5.out.lt
               have hlo := A7.lt
               have hm7 : (∃ kd k2, L.fm k' = .ok (⟨f, kd⟩, k2) ∧ kd.len = m ∧ KidsAt (w6.alloc (.cells #[.int .i64 f.k, .int .i64 f.vk, .int .i64 f.vn, .string f.vs, .int .i64 f.r1, .int .i64 f.r2, .int .i64 f.r3, .int .i64 f.r4, .string f.op, .slice A6 m c6] 31)) (fun g => (w.heap.size + 3) ≤ g ∧ Value.ownBlock (.slice A i c) ≠ some g) kd A6 ∧ Pre (w6.alloc (.cells #[.int .i64 f.k, .int .i64 f.vk, .int .i64 f.vn, .string f.vs, .int .i64 f.r1, .int .i64 f.r2, .int .i64 f.r3, .int .i64 f.r4, .string f.op, .slice A6 m c6] 31)) x lv l en (k2 : Nat) (nest + 1) 0 0) ∨
                   (∃ (b : Bad) (k2 n2 : Int), L.fm k' = .error b ∧ b.1 ≠ 0 ∧ nest + 1 ≤ n2 ∧ n2 ≤ nest + 1 + 1 ∧ Pre (w6.alloc (.cells #[.int .i64 f.k, .int .i64 f.vk, .int .i64 f.vn, .string f.vs, .int .i64 f.r1, .int .i64 f.r2, .int .i64 f.r3, .int .i64 f.r4, .string f.op, .slice A6 m c6] 31)) x lv l en k2 n2 b.1 b.2) := by
                 rcases hm6 with ⟨kd, k2, h1, h2, h3, h4⟩ | ⟨b, k2, n2, h1, h2, h3, h4, h5⟩
                 · exact Or.inl ⟨kd, k2, h1, h2, h3.keep kA (fun g hg hl => ⟨by have : x < w5.heap.size := H5.at_.lt; have : w5.drew.heap.size = w5.heap.size := rfl; omega, by have : w5.drew.heap.size = w5.heap.size := rfl; omega, fun e => by have := hlo5 g e; have : w5.drew.heap.size = w5.heap.size := rfl; omega⟩), h4.alloc _⟩
                 · exact Or.inr ⟨b, k2, n2, h1, h2, h3, h4, h5.alloc _⟩
               obtain ⟨vs, hown7, hvs7⟩ := A7
               have HOWN := Lib.hid hown7
               have HVS := Lib.hid hvs7
               have HM7 := Lib.hid hm7
               have HNB := Lib.hid (heap_alloc_new w6 (.cells #[.int .i64 f.k, .int .i64 f.vk, .int .i64 f.vn, .string f.vs, .int .i64 f.r1, .int .i64 f.r2, .int .i64 f.r3, .int .i64 f.r4, .string f.op, .slice A6 m c6] 31))
               have s7 : w.heap.size + 3 ≤ (w6.alloc (.cells #[.int .i64 f.k, .int .i64 f.vk, .int .i64 f.vn, .string f.vs, .int .i64 f.r1, .int .i64 f.r2, .int .i64 f.r3, .int .i64 f.r4, .string f.op, .slice A6 m c6] 31)).heap.size := Nat.le_trans s6 kA.size
               have HLO := Lib.hid hlo
               clear hown7 hvs7 hm7 hm6 hlo hlo5 kA hp6
               obtain ⟨-, -, -, -, -, -, -, -, -, b9, -, -, -, -, -, -, -, -, -, bz9⟩ := (N6).cells
               unfold nodeV))
          all_goals (go_wp2_with fail)
          all_goals (go_meet)
          all_goals exact ⟨rfl, Lib.hid (rarg_mk hxw HLEN.out N7 K7 X7 s7 HVS.out HLO.out HM7.out hown9 hgrow9 (hat9.imp id (fun e => e.trans (heap_one _ _).symm)))⟩
        case rest =>
        obtain ⟨rfl, hcut⟩ := hcut
        obtain ⟨A9, c9, N9, K9, X9, hm9⟩ := hcut.out
        clear hcut H5 K5 X5 N5 N5d A5 s5
        have ltx := X9.lt
        have ltn := N9.lt
        have nbl : w.heap.size + 1 ≠ w.heap.size + 2 := by omega
        have nlb : w.heap.size + 2 ≠ w.heap.size + 1 := by omega
        rcases hm9 with ⟨a, k2, ho, hA9, hP9⟩ | ⟨b, k2, n2, ho, hb0, h1, h2, hP9⟩
        · have hg := hL.fm _ _ _ ho
          have HF := Lib.hid ho
          have HA9 := Lib.hid hA9
          clear ho hA9
          have H8 := hP9.setN (nest + 1 - 1)
          have K8 := K9.setCell 3 (.int .i64 (nest + 1 - 1))
          have X8 := X9.kept ((Kept.refl x wc).setCell 3 (.int .i64 (nest + 1 - 1))) ne2
          have N8 := N9.kept ((Kept.refl x wc).setCell 3 (.int .i64 (nest + 1 - 1))) nl2
          have A8 := Lib.hid (HA9.out.kept ((Kept.refl x wc).setCell 3 (.int .i64 (nest + 1 - 1))) (by omega))
          obtain ⟨c0, c1, c2, c3, c4, c5, y1, y3, y4, y5⟩ := (hP9).at_.cells
          rw [show nest + 1 - 1 = nest from by omega] at H8 K8 X8 N8 A8
          generalize hV8 : (wc.setCell ⟨x, 3, none⟩ (.int .i64 nest)) = V8 at *
          clear X9 N9 K9 ltx ltn
          go_wp2_with fail
          clear c0 c1 c2 c3 c4 c5 y1 y3 y4 y5
          rw [B44.out]
          refine (rsign [44] V8 H8 hl).mono ?_; rintro e w1 ⟨rfl, q2, rfl⟩
          clear hV8
          have ltx : w.heap.size + 1 < V8.heap.size := X8.lt
          have ltn : w.heap.size + 2 < V8.heap.size := N8.lt
          have H1 := H8.drew q2
          have K1 := K8.drew q2
          have X1 := X8.kept ((Kept.refl x V8).drew q2) ne2
          have N1 := N8.kept ((Kept.refl x V8).drew q2) nl2
          have A1 := Lib.hid (A8.out.kept ((Kept.refl x V8).drew q2) (by omega))
          clear A8
          cases hs : isSign l k2 [44] with
          | true =>
            have hlt := sign_lt hs
            have EN : Hid (O = afterF l en t (argsF l en L into (10 - (i + 1)) (fo.app a.one) (k2 + 1))) := Lib.hid (by rw [HO.out, HRR.out, args_more hit.out HF.out hs, show 10 - (i + 1) = r from by have := HRR.out; omega])
            obtain ⟨c0, c1, c2, c3, c4, c5, y1, y3, y4, y5⟩ := (H1).at_.cells
            go_wp2_with fail
            go_roundw
            case rel => exact ⟨i + 1, by omega, by go_num, Lib.hid ⟨fo.app a.one, k2 + 1, A9, c9, by rw [Fo.len_app, HLEN.out]; rfl, by omega, N1.kept ((Kept.refl x (V8.drewN q2)).setCell 1 _) nl2, A1.out.kept ((Kept.refl x (V8.drewN q2)).setCell 1 _) (by omega), K1.setCell 1 _, X1.kept ((Kept.refl x (V8.drewN q2)).setCell 1 _) ne2, (H1.setK _).ek (by omega), EN.out⟩⟩
            case measure => simp [intOf]; omega
          | false =>
            have EL : Hid (argsF l en L into (10 - i) fo k' = .ok (fo.app a.one, k2)) := Lib.hid (by rw [HRR.out]; exact args_last hit.out HF.out hs)
            go_wp2_with fail
            cases hs2 : isSign l k2 [41] with
            | true =>
              have E2 : Hid (O = .ok (callN t.s (fo.app a.one), k2 + 1)) := Lib.hid (after_ok HO.out EL.out hs2)
              refine (rclose_ok _ H1 hl (by omega) hs2).mono ?_; rintro e w9 ⟨rfl, H9, k9⟩
              have K9 := K1.trans k9
              have X9 := X1.kept k9 ne2
              have N9 := N1.kept k9 nl2
              have HA := A1.out.kids
              obtain ⟨f0, f1, f2, f3, f4, f5, f6, f7, f8, f9, z0, z1, z2, z3, z4, z5, z6, z7, z8, z9⟩ := (X9).cells
              obtain ⟨a0, a1, a2, a3, a4, a5, a6, a7, a8, a9, az0, az1, az2, az3, az4, az5, az6, az7, az8, az9⟩ := (N9).cells
              go_wp2_with fail
              rw [E2.out]
              refine bodyPost_ret (v := .agg #[.int .i64 (callFld t.s).k, .int .i64 (callFld t.s).vk, .int .i64 (callFld t.s).vn, .string (callFld t.s).vs, .int .i64 (callFld t.s).r1, .int .i64 (callFld t.s).r2, .int .i64 (callFld t.s).r3, .int .i64 (callFld t.s).r4, .string (callFld t.s).op, .slice A9 (i + 1) c9]) (by simp [results, Tryz.results157, go_sem, f0, f1, f2, f3, f4, f5, f6, f7, f8, f9]) rfl (PPost.ok (b := w.heap.size + 1) K9 H9 ⟨A9, c9, by rw [show (callN t.s (fo.app a.one)).kids.len = i + 1 from HA.2]; rfl, HA.1.keep (Q := fun g => w.heap.size + 1 < g) k9 (fun g hg hl => ⟨by omega, by omega⟩)⟩ (by omega) hxw ?_)
              repeat (first | with_reducible exact Kept.refl _ _ | with_reducible refine Kept.setCell ?_ _ _)
            | false =>
              have E2 : Hid (O = .error (badAt l en k2)) := Lib.hid (after_bad HO.out EL.out hs2)
              refine (rclose_bad _ H1 hl hs2).mono ?_; rintro e w9 ⟨rfl, H9, k9⟩
              have K9 := K1.trans k9
              have X9 := X1.kept k9 ne2
              have N9 := N1.kept k9 nl2
              obtain ⟨f0, f1, f2, f3, f4, f5, f6, f7, f8, f9, z0, z1, z2, z3, z4, z5, z6, z7, z8, z9⟩ := (X9).cells
              obtain ⟨a0, a1, a2, a3, a4, a5, a6, a7, a8, a9, az0, az1, az2, az3, az4, az5, az6, az7, az8, az9⟩ := (N9).cells
              go_wp2_with fail
              rw [E2.out]
              refine bodyPost_ret (v := .agg #[.int .i64 (callFld t.s).k, .int .i64 (callFld t.s).vk, .int .i64 (callFld t.s).vn, .string (callFld t.s).vs, .int .i64 (callFld t.s).r1, .int .i64 (callFld t.s).r2, .int .i64 (callFld t.s).r3, .int .i64 (callFld t.s).r4, .string (callFld t.s).op, .slice A9 (i + 1) c9]) (by simp [results, Tryz.results157, go_sem, f0, f1, f2, f3, f4, f5, f6, f7, f8, f9]) rfl  (PPost.err (b := w.heap.size + 1) K9 H9 (nodeV_any (callFld t.s) _ _ _) (by show (13 : Int) ≠ 0; decide) (Int.le_refl _) (by omega) (by omega) hxw ?_)
              repeat (first | with_reducible exact Kept.refl _ _ | with_reducible refine Kept.setCell ?_ _ _)
        · have E2 : Hid (O = .error b) := Lib.hid (after_err HO.out (by rw [HRR.out]; exact args_bad hit.out ho))
          clear ho
          have H8 := hP9.setN (n2 - 1)
          have K8 := K9.setCell 3 (.int .i64 (n2 - 1))
          have X8 := X9.kept ((Kept.refl x wc).setCell 3 (.int .i64 (n2 - 1))) ne2
          have N8 := N9.kept ((Kept.refl x wc).setCell 3 (.int .i64 (n2 - 1))) nl2
          obtain ⟨c0, c1, c2, c3, c4, c5, y1, y3, y4, y5⟩ := (hP9).at_.cells
          generalize hV8 : (wc.setCell ⟨x, 3, none⟩ (.int .i64 (n2 - 1))) = V8 at *
          clear X9 N9 K9 ltx ltn
          go_wp2_with fail
          clear c0 c1 c2 c3 c4 c5 y1 y3 y4 y5
          rw [B44.out]
          refine (rsign_no [44] V8 H8 hb0).mono ?_; rintro e w1 ⟨rfl, q2, rfl⟩
          clear hV8
          have ltx : w.heap.size + 1 < V8.heap.size := X8.lt
          have ltn : w.heap.size + 2 < V8.heap.size := N8.lt
          have H1 := H8.drew q2
          have K1 := K8.drew q2
          have X1 := X8.kept ((Kept.refl x V8).drew q2) ne2
          have N1 := N8.kept ((Kept.refl x V8).drew q2) nl2
          go_wp2_with fail
          refine (rclose_no _ H1 hb0).mono ?_; rintro e w9 ⟨rfl, H9, k9⟩
          have K9 := K1.trans k9
          have X9 := X1.kept k9 ne2
          have N9 := N1.kept k9 nl2
          obtain ⟨f0, f1, f2, f3, f4, f5, f6, f7, f8, f9, z0, z1, z2, z3, z4, z5, z6, z7, z8, z9⟩ := (X9).cells
          obtain ⟨a0, a1, a2, a3, a4, a5, a6, a7, a8, a9, az0, az1, az2, az3, az4, az5, az6, az7, az8, az9⟩ := (N9).cells
          go_wp2_with fail
          rw [E2.out]
          refine bodyPost_ret (v := .agg #[.int .i64 (callFld t.s).k, .int .i64 (callFld t.s).vk, .int .i64 (callFld t.s).vn, .string (callFld t.s).vs, .int .i64 (callFld t.s).r1, .int .i64 (callFld t.s).r2, .int .i64 (callFld t.s).r3, .int .i64 (callFld t.s).r4, .string (callFld t.s).op, .slice A9 (i + 1) c9]) (by simp [results, Tryz.results157, go_sem, f0, f1, f2, f3, f4, f5, f6, f7, f8, f9]) rfl  (PPost.err (b := w.heap.size + 1) K9 H9 (nodeV_any (callFld t.s) _ _ _) hb0 (by omega) (by omega) (by omega) hxw ?_)
          repeat (first | with_reducible exact Kept.refl _ _ | with_reducible refine Kept.setCell ?_ _ _)
end Go.Proofs.YtkdgiadpmfpjnaaGreatDoor.TreeC

/-
  Contracts of tree's reference: every part at each nesting.
-/
namespace Go.Proofs.YtkdgiadpmfpjnaaGreatDoor.TreeC
set_option linter.unusedVariables false
open Go.RowKit Go.Proofs.YtkdgiadpmfpjnaaGreatDoor.NumC Go.Proofs.YtkdgiadpmfpjnaaGreatDoor.LexC

/-- A call, whole. -/
theorem rcall {x : Nat} {lv : Value} {l : List Tok} {en nest : Int} {L : Lev} {into : Bool} {k : Nat} {t : Tok} (w : World) (h : Pre w x lv l en k nest 0 0) (hl : l.length ≤ 300) (hk : k ≤ 299) (hn0 : 0 ≤ nest) (hn1 : nest ≤ 40) (hi : into = decide (nest < 40)) (hL : LGoes l L) (hc : into = true → Con1 x lv l en (nest + 1) L) :
    Calls Tryz.prog 157 #[.pointer (some ⟨x, 0, none⟩), tokV t] w (PPost x lv l en nest (callF l en L into t k) w) := by
  by_cases h8 : 8 < t.s.size
  · exact rcall_long w h hl hk h8
  · cases hs : isSign l (k + 2) [41] with
    | true => exact rcall_none w h hl hk h8 hs
    | false => exact rcall_args w h hl hk hn0 hn1 hi hL hc h8 hs
/-- What holds of the parts of one nesting. -/
structure Env1 (x : Nat) (lv : Value) (l : List Tok) (en nest : Int) (L : Lev) (into : Bool) : Prop where
  hl : l.length ≤ 300
  hn0 : 0 ≤ nest
  hn1 : nest ≤ 40
  hi : into = decide (nest < 40)
  hc : into = true → Con1 x lv l en (nest + 1) L
  hts : ∀ u ∈ l, u.s.size ≤ 1000000
  hL : LGoes l L
section
variable {x : Nat} {lv : Value} {l : List Tok} {en nest : Int} {L : Lev} {into : Bool} (E : Env1 x lv l en nest L into)
include E
theorem qpart (k : Nat) (w : World) (hk : k ≤ 301) (h : Pre w x lv l en k nest 0 0) : Calls Tryz.prog 123 #[.pointer (some ⟨x, 0, none⟩)] w (PPost x lv l en nest (partF l en L into k) w) :=
  rpart w h E.hl hk E.hn0 E.hn1 E.hi E.hL E.hc fun t w ht h => by
    have hlt : k < l.length := (List.getElem?_eq_some_iff.1 ht).1
    have hl := E.hl
    exact rname w h E.hl (by omega) E.hts ht fun hs w h => rcall w h E.hl (by have := sign_lt hs; omega) E.hn0 E.hn1 E.hi E.hL E.hc
theorem qunary (k : Nat) (w : World) (hk : k ≤ 301) (h : Pre w x lv l en k nest 0 0) : Calls Tryz.prog 111 #[.pointer (some ⟨x, 0, none⟩)] w (PPost x lv l en nest (unaryF l en L into k) w) :=
  runary1 w h E.hl hk E.hn0 E.hn1 E.hi E.hc fun w h => qpart E k w hk h
theorem qpower (k : Nat) (w : World) (hk : k ≤ 301) (h : Pre w x lv l en k nest 0 0) : Calls Tryz.prog 97 #[.pointer (some ⟨x, 0, none⟩)] w (PPost x lv l en nest (powerF l en L into k) w) :=
  rpower1 w h E.hl hk E.hn0 E.hn1 E.hi E.hL E.hc fun w h => qunary E k w hk h
theorem qproduct (k : Nat) (w : World) (hk : k ≤ 301) (h : Pre w x lv l en k nest 0 0) : Calls Tryz.prog 74 #[.pointer (some ⟨x, 0, none⟩)] w (PPost x lv l en nest (productF l en L into k) w) :=
  rproduct w h E.hl hk E.hL fun k w hk h => qpower E k w hk h
theorem qsum (k : Nat) (w : World) (hk : k ≤ 301) (h : Pre w x lv l en k nest 0 0) : Calls Tryz.prog 40 #[.pointer (some ⟨x, 0, none⟩)] w (PPost x lv l en nest (sumF l en L into k) w) :=
  rsum w h E.hl hk E.hL fun k w hk h => qproduct E k w hk h
theorem qformula (k : Nat) (w : World) (hk : k ≤ 301) (h : Pre w x lv l en k nest 0 0) : Calls Tryz.prog 25 #[.pointer (some ⟨x, 0, none⟩)] w (PPost x lv l en nest (formulaF l en L into k) w) :=
  rformula w h E.hl hk E.hL fun k w hk h => qsum E k w hk h
end
/-- At each nesting all that stands there answers as the grammar says. -/
theorem rcon {x : Nat} {lv : Value} {l : List Tok} {en : Int} (hl : l.length ≤ 300) (hts : ∀ u ∈ l, u.s.size ≤ 1000000) : ∀ (r : Nat), r ≤ 40 → Con1 x lv l en (40 - (r : Int)) (lev l en (r + 1)) := by
  intro r
  induction r with
  | zero =>
    intro _
    have E : Env1 x lv l en (40 - ((0 : Nat) : Int)) (lev l en 0) (decide (1 ≤ 0)) := ⟨hl, by omega, by omega, by simp, fun h => absurd h (by decide), hts, lev_goes l en 0⟩
    exact ⟨fun k w hk h => qformula E k w hk h, fun k w hk h => qpower E k w hk h, fun k w hk h => qunary E k w hk h⟩
  | succ r ih =>
    intro hr
    have E : Env1 x lv l en (40 - ((r + 1 : Nat) : Int)) (lev l en (r + 1)) (decide (1 ≤ r + 1)) := ⟨hl, by omega, by omega, by
      rw [decide_eq_true (by omega), decide_eq_true (by omega)], fun _ => by
      have := ih (by omega)
      rw [show (40 - ((r + 1 : Nat) : Int) + 1) = 40 - (r : Int) from by omega]; exact this, hts, lev_goes l en (r + 1)⟩
    exact ⟨fun k w hk h => qformula E k w hk h, fun k w hk h => qpower E k w hk h, fun k w hk h => qunary E k w hk h⟩
theorem rtop {x : Nat} {lv : Value} {l : List Tok} {en : Int} (hl : l.length ≤ 300) (hts : ∀ u ∈ l, u.s.size ≤ 1000000) (w : World) (h : Pre w x lv l en 0 0 0 0) :
    Calls Tryz.prog 25 #[.pointer (some ⟨x, 0, none⟩)] w (PPost x lv l en 0 ((lev l en 41).fm 0) w) := by
  have := (rcon (x := x) (lv := lv) (en := en) hl hts 40 (Nat.le_refl _)).fm 0 w (by omega) (by simpa using h)
  simpa using this
end Go.Proofs.YtkdgiadpmfpjnaaGreatDoor.TreeC
