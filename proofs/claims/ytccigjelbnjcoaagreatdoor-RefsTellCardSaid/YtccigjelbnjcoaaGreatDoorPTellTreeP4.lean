/-
  Contracts of tree's code: texts, truths, cells, ranges.
-/
import Derived.Test.YtccigjelbnjcoaaGreatDoorPTellTreeP0
import Derived.Test.YtccigjelbnjcoaaGreatDoorPTellAddrF
import Derived.Test.YtccigjelbnjcoaaGreatDoorPTellAddrA
import Derived.Maps.AppendAt
import Derived.OwnWalk
import Derived.Deep.AppendLies
import Derived.Deep.RegionWith
namespace Go.Proofs.YtccigjelbnjcoaaGreatDoor.TreeC
set_option linter.unusedVariables false
open Go.RowKit Go.Proofs.YtccigjelbnjcoaaGreatDoor.NumC Go.Proofs.YtccigjelbnjcoaaGreatDoor.LexC
def textF (l : List Tok) (n : Int) (t : Tok) (k : Nat) : Out := if 200 < t.s.size then .error (badAt l n k) else .ok (constN 3 0 t.s, k + 1)
set_option maxRecDepth 100000 in
set_option maxHeartbeats 600000 in
theorem ctext {x k : Nat} {l : List Tok} {en nest : Int} (w : World) (h : Pc w x l en k nest) (hl : l.length ≤ 300) {t : Tok} (ht : l[k]? = some t) (hts : t.s.size ≤ 1000000) :
    Calls Tryz.prog 156 #[.pointer (some ⟨x, 0, none⟩)] w (CPost w.heap.size x l en nest (textF l en t k) w) := by
  have hxw := h.lt
  have HI := Lib.hid h
  have hlt : k < l.length := (List.getElem?_eq_some_iff.1 ht).1
  have HT := Lib.hid ht
  clear h ht
  have ne1 : x ≠ w.heap.size := by omega
  have ne2 : w.heap.size ≠ x := by omega
  have K1 : Kept x w (w.alloc (.cells #[.int .i64 0, .int .i64 0, .int .i64 0, .string { data := #[] }, .int .i64 0, .int .i64 0, .int .i64 0, .int .i64 0, .string { data := #[] }, .slice none 0 0] 30)) := (Kept.refl x w).alloc _
  have X1 := NBox.new w
  have P1 := Lib.hid (HI.out.alloc (.cells #[.int .i64 0, .int .i64 0, .int .i64 0, .string { data := #[] }, .int .i64 0, .int .i64 0, .int .i64 0, .int .i64 0, .string { data := #[] }, .slice none 0 0] 30))
  obtain ⟨tk, tn, s, ta⟩ := t
  simp only at hts
  by_cases h200 : 200 < s.size
  · have E : Hid (textF l en ⟨tk, tn, s, ta⟩ k = .error (badAt l en k)) := Lib.hid (by unfold textF; rw [if_pos h200])
    go_enter Tryz.func156, Tryz.ntmps156
    go_wp2_with fail
    generalize (w.alloc (.cells #[.int .i64 0, .int .i64 0, .int .i64 0, .string { data := #[] }, .int .i64 0, .int .i64 0, .int .i64 0, .int .i64 0, .string { data := #[] }, .slice none 0 0] 30)) = W1 at *
    refine (cahead0 W1 P1.out hl).mono ?_; rintro e w2 ⟨rfl, hb2⟩
    rw [HT.out]
    unfold tokV
    have k2 : Kept x W1 w2 := Kept.of hb2
    have K2 := K1.trans k2
    have X2 := X1.kept k2 ne2
    have P2 := Lib.hid (P1.out.below hb2)
    clear K1 X1 P1 hb2 k2 HI
    have qS := field_S tk tn s ta w2
    go_wp2_with fail
    refine (cmisplaced w2 P2.out hl).mono ?_; rintro e w3 ⟨rfl, q, rfl⟩
    have k3 := (Kept.refl x w2).drew q
    have X3 := X2.kept k3 ne2
    have K3 := K2.trans k3
    have P3 := P2.out.drew q
    obtain ⟨f0, f1, f2, f3, f4, f5, f6, f7, f8, f9, z0, z1, z2, z3, z4, z5, z6, z7, z8, z9⟩ := (X3).cells
    go_wp2_with fail
    refine bodyPost_ret (v := .tuple #[.agg #[.int .i64 0, .int .i64 0, .int .i64 0, .string { data := #[] }, .int .i64 0, .int .i64 0, .int .i64 0, .int .i64 0, .string { data := #[] }, .slice none 0 0], errV (badAt l en k)]) (by simp [results, Tryz.results156, go_sem, f0, f1, f2, f3, f4, f5, f6, f7, f8, f9]) rfl (CPost.err (f := fld0) (A := none) (m := 0) (c := 0) (b := w.heap.size) (V := w2.drewN q) E.out (isBad_at _ _ _) K3 P3 (Nat.le_refl _) hxw ?_)
    repeat (first | with_reducible exact Kept.refl _ _ | with_reducible refine Kept.setCell ?_ _ _ | with_reducible refine Kept.alloc ?_ _)
  · have E : Hid (textF l en ⟨tk, tn, s, ta⟩ k = .ok (⟨(constN 3 0 s).f, .nil⟩, k + 1)) := Lib.hid (by unfold textF; rw [if_neg h200]; rfl)
    have h201 : s.size ≤ 200 := by omega
    go_enter Tryz.func156, Tryz.ntmps156
    go_wp2_with fail
    generalize (w.alloc (.cells #[.int .i64 0, .int .i64 0, .int .i64 0, .string { data := #[] }, .int .i64 0, .int .i64 0, .int .i64 0, .int .i64 0, .string { data := #[] }, .slice none 0 0] 30)) = W1 at *
    refine (cahead0 W1 P1.out hl).mono ?_; rintro e w2 ⟨rfl, hb2⟩
    rw [HT.out]
    unfold tokV
    have k2 : Kept x W1 w2 := Kept.of hb2
    have K2 := K1.trans k2
    have X2 := X1.kept k2 ne2
    have P2 := Lib.hid (P1.out.below hb2)
    clear K1 X1 P1 hb2 k2 HI
    have qS := field_S tk tn s ta w2
    go_wp2_with fail
    refine (ctake w2 P2.out hlt).mono ?_; rintro e w3 ⟨rfl, P3, k3⟩
    have X3 := X2.kept k3 ne2
    have K3 := K2.trans k3
    clear X2 K2 P2 k3
    go_wp2_with fail
    refine (cconstant 3 0 s w3).mono ?_; rintro e w4 ⟨rfl, hb4⟩
    have k4 : Kept x w3 w4 := Kept.of hb4
    have X4 := X3.kept k4 ne2
    have K4 := K3.trans k4
    have P4 := P3.below hb4
    unfold nodeV constN nob
    obtain ⟨f0, f1, f2, f3, f4, f5, f6, f7, f8, f9, z0, z1, z2, z3, z4, z5, z6, z7, z8, z9⟩ := (X4).cells
    go_wp2_with fail
    refine bodyPost_ret (v := .tuple #[.agg #[.int .i64 1, .int .i64 3, .int .i64 0, .string s, .int .i64 0, .int .i64 0, .int .i64 0, .int .i64 0, .string { data := #[] }, .slice none 0 0], .nilIface]) (by simp [results, Tryz.results156, go_sem, f0, f1, f2, f3, f4, f5, f6, f7, f8, f9]) rfl (CPost.ok (f := (constN 3 0 s).f) (kd := .nil) (A := none) (m := 0) (c := 0) (b := w.heap.size) (V := w4) E.out K4 P4 rfl (Or.inl rfl) (Nat.le_refl _) hxw ?_)
    repeat (first | with_reducible exact Kept.refl _ _ | with_reducible refine Kept.setCell ?_ _ _ | with_reducible refine Kept.alloc ?_ _)
def cellF (l : List Tok) (n : Int) (k : Nat) : Except Bad (Int × Int) := match l[k]? with
  | none => .error (badAt l n k)
  | some t => if t.k = 3 ∧ isSign l (k + 1) [40] = false ∧ AddrC.pOK t.s.data.toList = true then .ok (AddrC.pR t.s.data.toList, AddrC.pC t.s.data.toList) else .error (badAt l n k)
def APost (x : Nat) (l : List Tok) (en nest : Int) (k : Nat) (out : Except Bad (Int × Int)) (w : World) (e : Ending) (w' : World) : Prop :=
  ∃ a b er, e = .returned (.tuple #[.agg #[.int .i64 a, .int .i64 b], er]) ∧ Kept x w w' ∧
    ((out = .ok (a, b) ∧ er = .nilIface ∧ Pc w' x l en (k + 1) nest) ∨ (∃ bad, out = .error bad ∧ IsBad bad ∧ er = errV bad ∧ Pc w' x l en k nest))
structure ABox (w : World) (b : Nat) (r c : Int) : Prop where
  at_ : w.heap[b]? = some (.cells #[.int .i64 r, .int .i64 c] 25 (0, 0))
theorem ABox.lt {w : World} {b : Nat} {r c : Int} (h : ABox w b r c) : b < w.heap.size := (Array.getElem?_eq_some_iff.1 h.at_).1
theorem ABox.kept {w w' : World} {b y : Nat} {r c : Int} (h : ABox w b r c) (hk : Kept y w w') (hb : b ≠ y) : ABox w' b r c := ⟨(hk.block b h.lt hb).trans h.at_⟩
theorem ABox.cells {w : World} {b : Nat} {r c : Int} (h : ABox w b r c) : w.cell? ⟨b, 0, none⟩ = some (.int .i64 r) ∧ w.cell? ⟨b, 1, none⟩ = some (.int .i64 c) ∧ w.frozen? ⟨b, 0, none⟩ = false ∧ w.frozen? ⟨b, 1, none⟩ = false := by
  have h1 := h.at_
  refine ⟨?_, ?_, ?_, ?_⟩ <;> simp [World.cell?, World.frozen?, h1]
structure TBox (w : World) (b : Nat) (k n : Int) (s : ByteArray) (a : Int) : Prop where
  at_ : w.heap[b]? = some (.cells #[.int .i64 k, .int .i64 n, .string s, .int .i64 a] 80 (0, 0))
theorem TBox.lt {w : World} {b : Nat} {k n a : Int} {s : ByteArray} (h : TBox w b k n s a) : b < w.heap.size := (Array.getElem?_eq_some_iff.1 h.at_).1
theorem TBox.kept {w w' : World} {b y : Nat} {k n a : Int} {s : ByteArray} (h : TBox w b k n s a) (hk : Kept y w w') (hb : b ≠ y) : TBox w' b k n s a := ⟨(hk.block b h.lt hb).trans h.at_⟩
theorem TBox.cells {w : World} {b : Nat} {k n a : Int} {s : ByteArray} (h : TBox w b k n s a) : w.cell? ⟨b, 0, none⟩ = some (.int .i64 k) ∧ w.cell? ⟨b, 1, none⟩ = some (.int .i64 n) ∧ w.cell? ⟨b, 2, none⟩ = some (.string s) ∧ w.cell? ⟨b, 3, none⟩ = some (.int .i64 a) := by
  have h1 := h.at_
  refine ⟨?_, ?_, ?_, ?_⟩ <;> simp [World.cell?, h1]
set_option maxRecDepth 100000 in
set_option maxHeartbeats 600000 in
theorem ccell {x k : Nat} {l : List Tok} {en nest : Int} (w : World) (h : Pc w x l en k nest) (hl : l.length ≤ 300) (hts : ∀ t, l[k]? = some t → t.s.size ≤ 1000000) :
    Calls Tryz.prog 174 #[.pointer (some ⟨x, 0, none⟩)] w (APost x l en nest k (cellF l en k) w) := by
  have hxw := h.lt
  have HI := Lib.hid h
  clear h
  have ne1 : x ≠ w.heap.size := by omega
  have ne2 : w.heap.size ≠ x := by omega
  have K1 : Kept x w (w.alloc (.cells #[.int .i64 0, .int .i64 0] 25)) := (Kept.refl x w).alloc _
  have X1 : ABox (w.alloc (.cells #[.int .i64 0, .int .i64 0] 25)) w.heap.size 0 0 := ⟨heap_alloc_new _ _⟩
  have P1 := Lib.hid (HI.out.alloc (.cells #[.int .i64 0, .int .i64 0] 25))
  obtain ⟨tk, tn, s, ta, hv, hs, hlt, hout⟩ : ∃ tk tn s ta, tokV l[k]? = .agg #[.int .i64 tk, .int .i64 tn, .string s, .int .i64 ta] ∧ s.size ≤ 1000000 ∧ (tk = 3 → k < l.length) ∧
      cellF l en k = if tk = 3 ∧ isSign l (k + 1) [40] = false ∧ AddrC.pOK s.data.toList = true then .ok (AddrC.pR s.data.toList, AddrC.pC s.data.toList) else .error (badAt l en k) := by
    unfold cellF
    cases ht : l[k]? with
    | none => exact ⟨0, 0, { data := #[] }, 0, rfl, by decide, fun h => absurd h (by decide), by simp⟩
    | some t => exact ⟨t.k, t.n, t.s, t.at_, rfl, hts t ht, fun _ => (List.getElem?_eq_some_iff.1 ht).1, rfl⟩
  have HV := Lib.hid hv
  have HO := Lib.hid hout
  clear hv hout hts
  generalize cellF l en k = O at *
  have hs2 : s.size ≤ 9223372036854775807 := by omega
  go_enter Tryz.func174, Tryz.ntmps174
  go_wp2_with fail
  generalize (w.alloc (.cells #[.int .i64 0, .int .i64 0] 25)) = W1 at *
  refine (cahead0 W1 P1.out hl).mono ?_; rintro e w2 ⟨rfl, hb2⟩
  rw [HV.out]
  have k2 : Kept x W1 w2 := Kept.of hb2
  have K2 := (K1.trans k2).alloc (.cells #[.int .i64 tk, .int .i64 tn, .string s, .int .i64 ta] 80)
  have X2 := (X1.kept k2 ne2)
  have lt2 := X2.lt
  have hx2 : x < w2.heap.size := by omega
  have X2a := X2.kept ((Kept.refl x w2).alloc (.cells #[.int .i64 tk, .int .i64 tn, .string s, .int .i64 ta] 80)) ne2
  have P2 := Lib.hid ((P1.out.below hb2).alloc (.cells #[.int .i64 tk, .int .i64 tn, .string s, .int .i64 ta] 80))
  have T2 : TBox (w2.alloc (.cells #[.int .i64 tk, .int .i64 tn, .string s, .int .i64 ta] 80)) w2.heap.size tk tn s ta := ⟨heap_alloc_new _ _⟩
  have nt1 : x ≠ w2.heap.size := by omega
  have nt2 : w2.heap.size ≠ x := by omega
  have nt3 : w.heap.size ≠ w2.heap.size := by omega
  have nt4 : w2.heap.size ≠ w.heap.size := by omega
  clear K1 X1 P1 hb2 k2 HI X2
  go_wp2_with fail
  generalize (w2.alloc (.cells #[.int .i64 tk, .int .i64 tn, .string s, .int .i64 ta] 80)) = W3 at *
  refine (AddrC.aparse s W3 hs2 P2.out.libs).mono ?_; rintro e w4 ⟨rfl, hb4⟩
  have k4 : Kept x W3 w4 := Kept.of hb4
  have K4 := K2.trans k4
  have X4 := X2a.kept k4 ne2
  have P4 := Lib.hid (P2.out.below hb4)
  have T4 := T2.kept k4 nt2
  have lt4 := X4.lt
  have lt5 := T4.lt
  have na1 : x ≠ w4.heap.size := by omega
  have na2 : w4.heap.size ≠ x := by omega
  have na3 : w.heap.size ≠ w4.heap.size := by omega
  have na4 : w4.heap.size ≠ w.heap.size := by omega
  have na5 : w2.heap.size ≠ w4.heap.size := by omega
  have na6 : w4.heap.size ≠ w2.heap.size := by omega
  have K5 := K4.alloc (.cells #[.int .i64 (AddrC.pR s.data.toList), .int .i64 (AddrC.pC s.data.toList)] 25)
  have X5 := X4.kept ((Kept.refl x w4).alloc (.cells #[.int .i64 (AddrC.pR s.data.toList), .int .i64 (AddrC.pC s.data.toList)] 25)) ne2
  have T5 := T4.kept ((Kept.refl x w4).alloc (.cells #[.int .i64 (AddrC.pR s.data.toList), .int .i64 (AddrC.pC s.data.toList)] 25)) nt2
  have P5 := Lib.hid (P4.out.alloc (.cells #[.int .i64 (AddrC.pR s.data.toList), .int .i64 (AddrC.pC s.data.toList)] 25))
  have G5 : ABox (w4.alloc (.cells #[.int .i64 (AddrC.pR s.data.toList), .int .i64 (AddrC.pC s.data.toList)] 25)) w4.heap.size (AddrC.pR s.data.toList) (AddrC.pC s.data.toList) := ⟨heap_alloc_new _ _⟩
  clear K2 X2a P2 T2 k4 hb4 K4 X4 T4 P4
  obtain ⟨c0, c1, c2, c3⟩ := T5.cells
  obtain ⟨f0, f1, z0, z1⟩ := X5.cells
  have s5 := X5.lt
  by_cases hk3 : tk = 3
  · subst hk3
    have hlt2 := hlt rfl
    have HC := Lib.hid (cisCall (w4.alloc (.cells #[.int .i64 (AddrC.pR s.data.toList), .int .i64 (AddrC.pC s.data.toList)] 25)) P5.out hl)
    go_wp2_with fail
    generalize (w4.alloc (.cells #[.int .i64 (AddrC.pR s.data.toList), .int .i64 (AddrC.pC s.data.toList)] 25)) = W5 at *
    refine HC.out.mono ?_; rintro e w6 ⟨rfl, hb6⟩
    have k6 : Kept x W5 w6 := Kept.of hb6
    have K6 := K5.trans k6
    have X6 := X5.kept k6 ne2
    have P6 := Lib.hid (P5.out.below hb6)
    have G6 := G5.kept k6 na2
    clear HC K5 X5 T5 P5 G5 k6 hb6 c0 c1 c2 c3 f0 f1 z0 z1
    cases hc : isSign l (k + 1) [40] with
    | true =>
      rw [hc] at HO
      go_wp2_with fail
      refine (cmisplaced w6 P6.out hl).mono ?_; rintro e w7 ⟨rfl, q, rfl⟩
      have X7 := X6.kept ((Kept.refl x w6).drew q) ne2
      obtain ⟨f0, f1, z0, z1⟩ := X7.cells
      go_wp2_with fail
      refine bodyPost_ret (v := .tuple #[.agg #[.int .i64 0, .int .i64 0], errV (badAt l en k)]) (by simp [results, Tryz.results174, go_sem, f0, f1]) rfl ⟨_, _, _, rfl, (K6.drew q).then_ (b := w.heap.size) ?_ (Nat.le_refl _), Or.inr ⟨_, by rw [HO.out]; simp, isBad_at _ _ _, rfl, (P6.out.drew q).kept (y := w.heap.size) ?_ hxw⟩⟩
      all_goals repeat (first | with_reducible exact Kept.refl _ _ | with_reducible refine Kept.setCell ?_ _ _ | with_reducible refine Kept.alloc ?_ _)
    | false =>
      rw [hc] at HO
      cases hp : AddrC.pOK s.data.toList with
      | false =>
        rw [hp] at HO
        go_wp2_with fail
        refine (cmisplaced w6 P6.out hl).mono ?_; rintro e w7 ⟨rfl, q, rfl⟩
        have X7 := X6.kept ((Kept.refl x w6).drew q) ne2
        obtain ⟨f0, f1, z0, z1⟩ := X7.cells
        go_wp2_with fail
        refine bodyPost_ret (v := .tuple #[.agg #[.int .i64 0, .int .i64 0], errV (badAt l en k)]) (by simp [results, Tryz.results174, go_sem, f0, f1]) rfl ⟨_, _, _, rfl, (K6.drew q).then_ (b := w.heap.size) ?_ (Nat.le_refl _), Or.inr ⟨_, by rw [HO.out]; simp, isBad_at _ _ _, rfl, (P6.out.drew q).kept (y := w.heap.size) ?_ hxw⟩⟩
        all_goals repeat (first | with_reducible exact Kept.refl _ _ | with_reducible refine Kept.setCell ?_ _ _ | with_reducible refine Kept.alloc ?_ _)
      | true =>
        rw [hp] at HO
        go_wp2_with fail
        refine (ctake w6 P6.out hlt2).mono ?_; rintro e w7 ⟨rfl, P7, k7⟩
        have X7 := X6.kept k7 ne2
        have K7 := K6.trans k7
        have G7 := G6.kept k7 na2
        obtain ⟨g0, g1, gz0, gz1⟩ := G7.cells
        obtain ⟨f0, f1, z0, z1⟩ := X7.cells
        go_wp2_with fail
        refine bodyPost_ret (v := .tuple #[.agg #[.int .i64 (AddrC.pR s.data.toList), .int .i64 (AddrC.pC s.data.toList)], .nilIface]) (by simp [results, Tryz.results174, go_sem, f0, f1]) rfl ⟨_, _, _, rfl, K7.then_ (b := w.heap.size) ?_ (Nat.le_refl _), Or.inl ⟨by rw [HO.out]; simp, rfl, P7.kept (y := w.heap.size) ?_ hxw⟩⟩
        all_goals repeat (first | with_reducible exact Kept.refl _ _ | with_reducible refine Kept.setCell ?_ _ _ | with_reducible refine Kept.alloc ?_ _)
  · have hb3 : (tk == 3) = false := beq_eq_false_iff_ne.2 hk3
    have HC := Lib.hid (cmisplaced (w4.alloc (.cells #[.int .i64 (AddrC.pR s.data.toList), .int .i64 (AddrC.pC s.data.toList)] 25)) P5.out hl)
    go_wp2_with fail
    generalize (w4.alloc (.cells #[.int .i64 (AddrC.pR s.data.toList), .int .i64 (AddrC.pC s.data.toList)] 25)) = W5 at *
    refine HC.out.mono ?_; rintro e w7 ⟨rfl, q, rfl⟩
    have X7 := X5.kept ((Kept.refl x W5).drew q) ne2
    clear f0 f1 z0 z1
    obtain ⟨f0, f1, z0, z1⟩ := X7.cells
    go_wp2_with fail
    refine bodyPost_ret (v := .tuple #[.agg #[.int .i64 0, .int .i64 0], errV (badAt l en k)]) (by simp [results, Tryz.results174, go_sem, f0, f1]) rfl ⟨_, _, _, rfl, (K5.drew q).then_ (b := w.heap.size) ?_ (Nat.le_refl _), Or.inr ⟨_, by rw [HO.out]; simp [hk3], isBad_at _ _ _, rfl, (P5.out.drew q).kept (y := w.heap.size) ?_ hxw⟩⟩
    all_goals repeat (first | with_reducible exact Kept.refl _ _ | with_reducible refine Kept.setCell ?_ _ _ | with_reducible refine Kept.alloc ?_ _)
def cellsF (l : List Tok) (n : Int) (k : Nat) : Out := match cellF l n k with
  | .error e => .error e
  | .ok (a, b) => if isSign l (k + 1) [58] then (match cellF l n (k + 2) with
      | .error e => .error e
      | .ok (c, d) => .ok (rangeN (AddrC.mA a b c d) (AddrC.mB a b c d) (AddrC.mC a b c d) (AddrC.mD a b c d), k + 3))
    else .ok (cellN a b, k + 1)
theorem cells_err {l : List Tok} {n : Int} {k : Nat} {b : Bad} (h : cellF l n k = .error b) : cellsF l n k = .error b := by simp [cellsF, h]
theorem cells_one {l : List Tok} {n : Int} {k : Nat} {a b : Int} (h : cellF l n k = .ok (a, b)) (hs : isSign l (k + 1) [58] = false) : cellsF l n k = .ok (cellN a b, k + 1) := by simp [cellsF, h, hs]
theorem cells_bad {l : List Tok} {n : Int} {k : Nat} {a b : Int} {e : Bad} (h : cellF l n k = .ok (a, b)) (hs : isSign l (k + 1) [58] = true) (h2 : cellF l n (k + 2) = .error e) : cellsF l n k = .error e := by simp [cellsF, h, hs, h2]
theorem cells_two {l : List Tok} {n : Int} {k : Nat} {a b c d : Int} (h : cellF l n k = .ok (a, b)) (hs : isSign l (k + 1) [58] = true) (h2 : cellF l n (k + 2) = .ok (c, d)) :
    cellsF l n k = .ok (⟨(rangeN (AddrC.mA a b c d) (AddrC.mB a b c d) (AddrC.mC a b c d) (AddrC.mD a b c d)).f, .nil⟩, k + 3) := by simp [cellsF, h, hs, h2]; rfl
set_option maxRecDepth 100000 in
set_option maxHeartbeats 600000 in
theorem ccells {x k : Nat} {l : List Tok} {en nest : Int} (w : World) (h : Pc w x l en k nest) (hl : l.length ≤ 300) (hts : ∀ (i : Nat) (t : Tok), l[i]? = some t → t.s.size ≤ 1000000) :
    Calls Tryz.prog 170 #[.pointer (some ⟨x, 0, none⟩)] w (CPost w.heap.size x l en nest (cellsF l en k) w) := by
  have hxw := h.lt
  have HI := Lib.hid h
  clear h
  have ne1 : x ≠ w.heap.size := by omega
  have ne2 : w.heap.size ≠ x := by omega
  have K1 : Kept x w (w.alloc (.cells #[.int .i64 0, .int .i64 0, .int .i64 0, .string { data := #[] }, .int .i64 0, .int .i64 0, .int .i64 0, .int .i64 0, .string { data := #[] }, .slice none 0 0] 30)) := (Kept.refl x w).alloc _
  have X1 := NBox.new w
  have P1 := Lib.hid (HI.out.alloc (.cells #[.int .i64 0, .int .i64 0, .int .i64 0, .string { data := #[] }, .int .i64 0, .int .i64 0, .int .i64 0, .int .i64 0, .string { data := #[] }, .slice none 0 0] 30))
  have HT := Lib.hid hts
  clear hts
  have B58 : Hid (({ data := #[58] } : ByteArray) = str [58]) := Lib.hid rfl
  go_enter Tryz.func170, Tryz.ntmps170
  go_wp2_with fail
  generalize (w.alloc (.cells #[.int .i64 0, .int .i64 0, .int .i64 0, .string { data := #[] }, .int .i64 0, .int .i64 0, .int .i64 0, .int .i64 0, .string { data := #[] }, .slice none 0 0] 30)) = W1 at *
  refine (ccell W1 P1.out hl (HT.out k)).mono ?_; rintro e w2 ⟨a1, b1, er, rfl, k2, hp2⟩
  have K2 := K1.trans k2
  have X2 := X1.kept k2 ne2
  have lt2 := X2.lt
  have hx2 : x < w2.heap.size := by have := k2.size; have := X1.lt; omega
  have na1 : x ≠ w2.heap.size := by omega
  have na2 : w2.heap.size ≠ x := by omega
  have na3 : w.heap.size ≠ w2.heap.size := by omega
  have na4 : w2.heap.size ≠ w.heap.size := by omega
  clear K1 X1 P1 k2 HI
  rcases hp2 with ⟨ho, rfl, hP⟩ | ⟨bad, ho, hi, rfl, hP⟩
  · have HO := Lib.hid ho
    have P3 := Lib.hid (hP.alloc (.cells #[.int .i64 a1, .int .i64 b1] 25))
    have K3 := K2.alloc (.cells #[.int .i64 a1, .int .i64 b1] 25)
    have X3 := X2.kept ((Kept.refl x w2).alloc (.cells #[.int .i64 a1, .int .i64 b1] 25)) ne2
    have L3 : ABox (w2.alloc (.cells #[.int .i64 a1, .int .i64 b1] 25)) w2.heap.size a1 b1 := ⟨heap_alloc_new _ _⟩
    clear ho hP K2 X2
    go_wp2_with fail
    generalize (w2.alloc (.cells #[.int .i64 a1, .int .i64 b1] 25)) = W3 at *
    rw [B58.out]
    refine (cseesSign [58] W3 P3.out hl).mono ?_; rintro e w4 ⟨rfl, hb4⟩
    have k4 : Kept x W3 w4 := Kept.of hb4
    have K4 := K3.trans k4
    have X4 := X3.kept k4 ne2
    have P4 := Lib.hid (P3.out.below hb4)
    have L4 := L3.kept k4 na2
    clear K3 X3 P3 L3 hb4 k4
    have s4 := X4.lt
    have t4 := L4.lt
    cases hs : isSign l (k + 1) [58] with
    | false =>
      have E := Lib.hid (cells_one HO.out hs)
      obtain ⟨c0, c1, -, -⟩ := L4.cells
      obtain ⟨f0, f1, f2, f3, f4, f5, f6, f7, f8, f9, z0, z1, z2, z3, z4, z5, z6, z7, z8, z9⟩ := (X4).cells
      go_wp2_with fail
      refine bodyPost_ret (v := .tuple #[.agg #[.int .i64 2, .int .i64 0, .int .i64 0, .string { data := #[] }, .int .i64 a1, .int .i64 b1, .int .i64 0, .int .i64 0, .string { data := #[] }, .slice none 0 0], .nilIface]) (by simp [results, Tryz.results170, go_sem, f0, f1, f2, f3, f4, f5, f6, f7, f8, f9]) rfl (CPost.ok (f := (cellN a1 b1).f) (kd := .nil) (A := none) (m := 0) (c := 0) (b := w.heap.size) (V := w4) E.out K4 P4.out rfl (Or.inl rfl) (Nat.le_refl _) hxw ?_)
      repeat (first | with_reducible exact Kept.refl _ _ | with_reducible refine Kept.setCell ?_ _ _ | with_reducible refine Kept.alloc ?_ _)
    | true =>
      have hlt := sign_lt hs
      go_wp2_with fail
      refine (ctake w4 P4.out hlt).mono ?_; rintro e w5 ⟨rfl, P5, k5⟩
      have K5 := K4.trans k5
      have X5 := X4.kept k5 ne2
      have L5 := L4.kept k5 na2
      clear K4 X4 L4 P4 k5
      go_wp2_with fail
      refine (ccell w5 P5 hl (HT.out _)).mono ?_; rintro e w6 ⟨a2, b2, er, rfl, k6, hp6⟩
      have K6 := K5.trans k6
      have X6 := X5.kept k6 ne2
      have L6 := L5.kept k6 na2
      have s6 := X6.lt
      have t6 := L6.lt
      have hx6 : x < w6.heap.size := by omega
      have nb1 : x ≠ w6.heap.size := by omega
      have nb2 : w6.heap.size ≠ x := by omega
      have nb3 : w.heap.size ≠ w6.heap.size := by omega
      have nb4 : w6.heap.size ≠ w.heap.size := by omega
      have nb5 : w2.heap.size ≠ w6.heap.size := by omega
      have nb6 : w6.heap.size ≠ w2.heap.size := by omega
      clear K5 X5 L5 P5 k6
      rcases hp6 with ⟨ho2, rfl, hP⟩ | ⟨bad, ho2, hi, rfl, hP⟩
      · have E := Lib.hid (cells_two HO.out hs ho2)
        have P7 := Lib.hid (hP.alloc (.cells #[.int .i64 a2, .int .i64 b2] 25))
        have K7 := K6.alloc (.cells #[.int .i64 a2, .int .i64 b2] 25)
        have X7 := X6.kept ((Kept.refl x w6).alloc (.cells #[.int .i64 a2, .int .i64 b2] 25)) ne2
        have L7 := L6.kept ((Kept.refl x w6).alloc (.cells #[.int .i64 a2, .int .i64 b2] 25)) na2
        have M7 : ABox (w6.alloc (.cells #[.int .i64 a2, .int .i64 b2] 25)) w6.heap.size a2 b2 := ⟨heap_alloc_new _ _⟩
        clear ho2 hP K6 X6
        obtain ⟨c0, c1, -, -⟩ := L6.cells
        go_wp2_with fail
        generalize (w6.alloc (.cells #[.int .i64 a2, .int .i64 b2] 25)) = W7 at *
        refine (AddrC.made a1 b1 a2 b2 W7).mono ?_; rintro e w8 ⟨rfl, hb8⟩
        have k8 : Kept x W7 w8 := Kept.of hb8
        have K8 := K7.trans k8
        have X8 := X7.kept k8 ne2
        have P8 := Lib.hid (P7.out.below hb8)
        have s8 := X8.lt
        have na5 : w.heap.size ≠ w8.heap.size := by omega
        have na6 : w8.heap.size ≠ w.heap.size := by omega
        obtain ⟨f0, f1, f2, f3, f4, f5, f6, f7, f8, f9, z0, z1, z2, z3, z4, z5, z6, z7, z8, z9⟩ := (X8).cells
        go_wp2_with fail
        refine bodyPost_ret (v := .tuple #[.agg #[.int .i64 3, .int .i64 0, .int .i64 0, .string { data := #[] }, .int .i64 (AddrC.mA a1 b1 a2 b2), .int .i64 (AddrC.mB a1 b1 a2 b2), .int .i64 (AddrC.mC a1 b1 a2 b2), .int .i64 (AddrC.mD a1 b1 a2 b2), .string { data := #[] }, .slice none 0 0], .nilIface]) (by simp [results, Tryz.results170, go_sem, f0, f1, f2, f3, f4, f5, f6, f7, f8, f9, s8]) rfl (CPost.ok (f := (rangeN (AddrC.mA a1 b1 a2 b2) (AddrC.mB a1 b1 a2 b2) (AddrC.mC a1 b1 a2 b2) (AddrC.mD a1 b1 a2 b2)).f) (kd := .nil) (A := none) (m := 0) (c := 0) (b := w.heap.size) (V := w8) E.out K8 P8.out rfl (Or.inl rfl) (Nat.le_refl _) hxw ?_)
        repeat (first | with_reducible exact Kept.refl _ _ | with_reducible refine Kept.setCell ?_ _ _ | with_reducible refine Kept.alloc ?_ _)
      · obtain ⟨T, u, hT⟩ := errV_some bad
        have E := Lib.hid (cells_bad HO.out hs ho2)
        have P6 := Lib.hid hP
        clear ho2 hP
        rw [hT]
        obtain ⟨f0, f1, f2, f3, f4, f5, f6, f7, f8, f9, z0, z1, z2, z3, z4, z5, z6, z7, z8, z9⟩ := (X6).cells
        go_wp2_with fail
        refine bodyPost_ret (v := .tuple #[.agg #[.int .i64 0, .int .i64 0, .int .i64 0, .string { data := #[] }, .int .i64 0, .int .i64 0, .int .i64 0, .int .i64 0, .string { data := #[] }, .slice none 0 0], .iface T u]) (by simp [results, Tryz.results170, go_sem, f0, f1, f2, f3, f4, f5, f6, f7, f8, f9, s6]) rfl (hT ▸ CPost.err (f := fld0) (A := none) (m := 0) (c := 0) (b := w.heap.size) (V := w6) E.out hi K6 P6.out (Nat.le_refl _) hxw ?_)
        repeat (first | with_reducible exact Kept.refl _ _ | with_reducible refine Kept.setCell ?_ _ _ | with_reducible refine Kept.alloc ?_ _)
  · obtain ⟨T, u, hT⟩ := errV_some bad
    have E := Lib.hid (cells_err ho)
    have P2 := Lib.hid hP
    clear ho hP
    rw [hT]
    obtain ⟨f0, f1, f2, f3, f4, f5, f6, f7, f8, f9, z0, z1, z2, z3, z4, z5, z6, z7, z8, z9⟩ := (X2).cells
    go_wp2_with fail
    refine bodyPost_ret (v := .tuple #[.agg #[.int .i64 0, .int .i64 0, .int .i64 0, .string { data := #[] }, .int .i64 0, .int .i64 0, .int .i64 0, .int .i64 0, .string { data := #[] }, .slice none 0 0], .iface T u]) (by simp [results, Tryz.results170, go_sem, f0, f1, f2, f3, f4, f5, f6, f7, f8, f9, lt2]) rfl (hT ▸ CPost.err (f := fld0) (A := none) (m := 0) (c := 0) (b := w.heap.size) (V := w2) E.out hi K2 P2.out (Nat.le_refl _) hxw ?_)
    repeat (first | with_reducible exact Kept.refl _ _ | with_reducible refine Kept.setCell ?_ _ _ | with_reducible refine Kept.alloc ?_ _)
def namedF (l : List Tok) (n : Int) (t : Tok) (k : Nat) : Out :=
  if t.s = trueB then .ok (constN 1 1 nob, k + 1) else if t.s = falseB then .ok (constN 1 0 nob, k + 1) else cellsF l n k
set_option maxRecDepth 100000 in
set_option maxHeartbeats 600000 in
theorem cnamed {x k : Nat} {l : List Tok} {en nest : Int} (w : World) (h : Pc w x l en k nest) (hl : l.length ≤ 300) (hts : ∀ (i : Nat) (t : Tok), l[i]? = some t → t.s.size ≤ 1000000) {t : Tok} (ht : l[k]? = some t) :
    Calls Tryz.prog 159 #[.pointer (some ⟨x, 0, none⟩)] w (CPost w.heap.size x l en nest (namedF l en t k) w) := by
  have hxw := h.lt
  have HI := Lib.hid h
  have hlt : k < l.length := (List.getElem?_eq_some_iff.1 ht).1
  have HT := Lib.hid ht
  clear h ht
  have ne1 : x ≠ w.heap.size := by omega
  have ne2 : w.heap.size ≠ x := by omega
  have K1 : Kept x w (w.alloc (.cells #[.int .i64 0, .int .i64 0, .int .i64 0, .string { data := #[] }, .int .i64 0, .int .i64 0, .int .i64 0, .int .i64 0, .string { data := #[] }, .slice none 0 0] 30)) := (Kept.refl x w).alloc _
  have X1 := NBox.new w
  have P1 := Lib.hid (HI.out.alloc (.cells #[.int .i64 0, .int .i64 0, .int .i64 0, .string { data := #[] }, .int .i64 0, .int .i64 0, .int .i64 0, .int .i64 0, .string { data := #[] }, .slice none 0 0] 30))
  obtain ⟨tk, tn, s, ta⟩ := t
  have HTS := Lib.hid hts
  clear hts
  by_cases h1 : s = trueB
  · have E : Hid (namedF l en ⟨tk, tn, s, ta⟩ k = .ok (⟨(constN 1 1 { data := #[] }).f, .nil⟩, k + 1)) := Lib.hid (by unfold namedF; rw [if_pos h1]; rfl)
    have g1 : (s.toList == [84, 82, 85, 69]) = true := by rw [h1, Lib.toList_data]; rfl
    clear h1
    go_enter Tryz.func159, Tryz.ntmps159
    go_wp2_with fail
    generalize (w.alloc (.cells #[.int .i64 0, .int .i64 0, .int .i64 0, .string { data := #[] }, .int .i64 0, .int .i64 0, .int .i64 0, .int .i64 0, .string { data := #[] }, .slice none 0 0] 30)) = W1 at *
    refine (cahead0 W1 P1.out hl).mono ?_; rintro e w2 ⟨rfl, hb2⟩
    rw [HT.out]
    unfold tokV
    have k2 : Kept x W1 w2 := Kept.of hb2
    have K2 := K1.trans k2
    have X2 := X1.kept k2 ne2
    have P2 := Lib.hid (P1.out.below hb2)
    clear K1 X1 P1 hb2 k2 HI
    have qS := field_S tk tn s ta w2
    go_wp2_with fail
    refine (ctake w2 P2.out hlt).mono ?_; rintro e w3 ⟨rfl, P3, k3⟩
    have X3 := X2.kept k3 ne2
    have K3 := K2.trans k3
    clear X2 K2 P2 k3
    go_wp2_with fail
    refine (cconstant 1 1 { data := #[] } w3).mono ?_; rintro e w4 ⟨rfl, hb4⟩
    have k4 : Kept x w3 w4 := Kept.of hb4
    have X4 := X3.kept k4 ne2
    have K4 := K3.trans k4
    have P4 := P3.below hb4
    unfold nodeV constN nob
    obtain ⟨f0, f1, f2, f3, f4, f5, f6, f7, f8, f9, z0, z1, z2, z3, z4, z5, z6, z7, z8, z9⟩ := (X4).cells
    go_wp2_with fail
    refine bodyPost_ret (v := .tuple #[.agg #[.int .i64 1, .int .i64 1, .int .i64 1, .string { data := #[] }, .int .i64 0, .int .i64 0, .int .i64 0, .int .i64 0, .string { data := #[] }, .slice none 0 0], .nilIface]) (by simp [results, Tryz.results159, go_sem, f0, f1, f2, f3, f4, f5, f6, f7, f8, f9]) rfl (CPost.ok (f := (constN 1 1 { data := #[] }).f) (kd := .nil) (A := none) (m := 0) (c := 0) (b := w.heap.size) (V := w4) E.out K4 P4 rfl (Or.inl rfl) (Nat.le_refl _) hxw ?_)
    repeat (first | with_reducible exact Kept.refl _ _ | with_reducible refine Kept.setCell ?_ _ _ | with_reducible refine Kept.alloc ?_ _)
  · have g1 : (s.toList == [84, 82, 85, 69]) = false := text_ne h1
    have H1 := Lib.hid h1
    clear h1
    by_cases h2 : s = falseB
    · have E : Hid (namedF l en ⟨tk, tn, s, ta⟩ k = .ok (⟨(constN 1 0 { data := #[] }).f, .nil⟩, k + 1)) := Lib.hid (by unfold namedF; rw [if_neg H1.out, if_pos h2]; rfl)
      have g2 : (s.toList == [70, 65, 76, 83, 69]) = true := by rw [h2, Lib.toList_data]; rfl
      clear h2
      go_enter Tryz.func159, Tryz.ntmps159
      go_wp2_with fail
      generalize (w.alloc (.cells #[.int .i64 0, .int .i64 0, .int .i64 0, .string { data := #[] }, .int .i64 0, .int .i64 0, .int .i64 0, .int .i64 0, .string { data := #[] }, .slice none 0 0] 30)) = W1 at *
      refine (cahead0 W1 P1.out hl).mono ?_; rintro e w2 ⟨rfl, hb2⟩
      rw [HT.out]
      unfold tokV
      have k2 : Kept x W1 w2 := Kept.of hb2
      have K2 := K1.trans k2
      have X2 := X1.kept k2 ne2
      have P2 := Lib.hid (P1.out.below hb2)
      clear K1 X1 P1 hb2 k2 HI
      have qS := field_S tk tn s ta w2
      go_wp2_with fail
      refine (ctake w2 P2.out hlt).mono ?_; rintro e w3 ⟨rfl, P3, k3⟩
      have X3 := X2.kept k3 ne2
      have K3 := K2.trans k3
      clear X2 K2 P2 k3
      go_wp2_with fail
      refine (cconstant 1 0 { data := #[] } w3).mono ?_; rintro e w4 ⟨rfl, hb4⟩
      have k4 : Kept x w3 w4 := Kept.of hb4
      have X4 := X3.kept k4 ne2
      have K4 := K3.trans k4
      have P4 := P3.below hb4
      unfold nodeV constN nob
      obtain ⟨f0, f1, f2, f3, f4, f5, f6, f7, f8, f9, z0, z1, z2, z3, z4, z5, z6, z7, z8, z9⟩ := (X4).cells
      go_wp2_with fail
      refine bodyPost_ret (v := .tuple #[.agg #[.int .i64 1, .int .i64 1, .int .i64 0, .string { data := #[] }, .int .i64 0, .int .i64 0, .int .i64 0, .int .i64 0, .string { data := #[] }, .slice none 0 0], .nilIface]) (by simp [results, Tryz.results159, go_sem, f0, f1, f2, f3, f4, f5, f6, f7, f8, f9]) rfl (CPost.ok (f := (constN 1 0 { data := #[] }).f) (kd := .nil) (A := none) (m := 0) (c := 0) (b := w.heap.size) (V := w4) E.out K4 P4 rfl (Or.inl rfl) (Nat.le_refl _) hxw ?_)
      repeat (first | with_reducible exact Kept.refl _ _ | with_reducible refine Kept.setCell ?_ _ _ | with_reducible refine Kept.alloc ?_ _)
    · have g2 : (s.toList == [70, 65, 76, 83, 69]) = false := text_ne h2
      have E : Hid (namedF l en ⟨tk, tn, s, ta⟩ k = cellsF l en k) := Lib.hid (by unfold namedF; rw [if_neg H1.out, if_neg h2])
      clear h2
      go_enter Tryz.func159, Tryz.ntmps159
      go_wp2_with fail
      generalize (w.alloc (.cells #[.int .i64 0, .int .i64 0, .int .i64 0, .string { data := #[] }, .int .i64 0, .int .i64 0, .int .i64 0, .int .i64 0, .string { data := #[] }, .slice none 0 0] 30)) = W1 at *
      refine (cahead0 W1 P1.out hl).mono ?_; rintro e w2 ⟨rfl, hb2⟩
      rw [HT.out]
      unfold tokV
      have k2 : Kept x W1 w2 := Kept.of hb2
      have K2 := K1.trans k2
      have X2 := X1.kept k2 ne2
      have P2 := Lib.hid (P1.out.below hb2)
      clear K1 X1 P1 hb2 k2 HI
      have qS := field_S tk tn s ta w2
      go_wp2_with fail
      refine (ccells w2 P2.out hl HTS.out).mono ?_; rintro e w3 ⟨f, A, m, c, er, rfl, k3, hp3⟩
      have X3 := X2.kept k3 ne2
      have K3 := K2.trans k3
      rw [← E.out] at hp3
      have HP := Lib.hid hp3
      have lt2 := X2.lt
      clear hp3
      unfold nodeV
      obtain ⟨f0, f1, f2, f3, f4, f5, f6, f7, f8, f9, z0, z1, z2, z3, z4, z5, z6, z7, z8, z9⟩ := (X3).cells
      go_wp2_with fail
      refine bodyPost_ret (v := .tuple #[.agg #[.int .i64 f.k, .int .i64 f.vk, .int .i64 f.vn, .string f.vs, .int .i64 f.r1, .int .i64 f.r2, .int .i64 f.r3, .int .i64 f.r4, .string f.op, .slice A m c], er]) (by simp [results, Tryz.results159, go_sem, f0, f1, f2, f3, f4, f5, f6, f7, f8, f9]) rfl (CPost.on (f := f) (A := A) (m := m) (c := c) (b := w.heap.size) HP.out K3 (by omega) lt2 (Nat.le_refl _) hxw ?_)
      repeat (first | with_reducible exact Kept.refl _ _ | with_reducible refine Kept.setCell ?_ _ _ | with_reducible refine Kept.alloc ?_ _)
end Go.Proofs.YtccigjelbnjcoaaGreatDoor.TreeC
namespace Go.Proofs.YtccigjelbnjcoaaGreatDoor.TreeC
set_option linter.unusedVariables false
open Go.RowKit Go.Proofs.YtccigjelbnjcoaaGreatDoor.NumC Go.Proofs.YtccigjelbnjcoaaGreatDoor.LexC
def LPost (x : Nat) (l : List Tok) (en nest : Int) (out : Except Bad (Fo × Nat)) (w : World) (e : Ending) (w' : World) : Prop :=
  ∃ A m c er, e = .returned (.tuple #[.slice A m c, er]) ∧ Kept x w w' ∧
    ((∃ fo k', out = .ok (fo, k') ∧ er = .nilIface ∧ fo.len = m ∧ KidsAt w' (fun g => w.heap.size ≤ g) fo A ∧ Pc w' x l en k' nest) ∨
     (∃ b k2, out = .error b ∧ IsBad b ∧ er = errV b ∧ Pc w' x l en k2 nest))
def withinF (l : List Tok) (n : Int) (L : Lev) (into : Bool) (k : Nat) : Except Bad (Fo × Nat) := if isSign l k [41] then .ok (.nil, k) else argsF l n L into 10 .nil k
theorem args_end {l : List Tok} {n : Int} {L : Lev} {into : Bool} {acc : Fo} {k : Nat} : argsF l n L into 0 acc k = .error (badAt l n k) := rfl
theorem args_deep {l : List Tok} {n : Int} {L : Lev} {into : Bool} {acc : Fo} {k r : Nat} (h : into = false) : argsF l n L into (r + 1) acc k = .error deepE := by simp [argsF, h]
theorem args_bad {l : List Tok} {n : Int} {L : Lev} {into : Bool} {acc : Fo} {k r : Nat} {e : Bad} (h : into = true) (h2 : L.fm k = .error e) : argsF l n L into (r + 1) acc k = .error e := by simp [argsF, h, h2]
theorem args_more {l : List Tok} {n : Int} {L : Lev} {into : Bool} {acc : Fo} {k r k' : Nat} {a : Nd} (h : into = true) (h2 : L.fm k = .ok (a, k')) (hs : isSign l k' [44] = true) : argsF l n L into (r + 1) acc k = argsF l n L into r (acc.app a.one) (k' + 1) := by simp [argsF, h, h2, hs]
theorem args_last {l : List Tok} {n : Int} {L : Lev} {into : Bool} {acc : Fo} {k r k' : Nat} {a : Nd} (h : into = true) (h2 : L.fm k = .ok (a, k')) (hs : isSign l k' [44] = false) : argsF l n L into (r + 1) acc k = .ok (acc.app a.one, k') := by simp [argsF, h, h2, hs]
theorem RowV.same {w w' : World} {P Q : Nat → Prop} (hP : ∀ g, P g → g < w.heap.size → w'.heap[g]? = w.heap[g]? ∧ Q g) : ∀ (fo : Fo) (vs : List Value), RowV w P fo vs → RowV w' Q fo vs := by
  intro fo
  induction fo with
  | nil => intro vs h; cases vs with
    | nil => trivial
    | cons v vs => exact h
  | cons f kids next _ ih => intro vs h; cases vs with
    | nil => exact h
    | cons v vs =>
      obtain ⟨⟨A, c, e, hk⟩, hr⟩ := h
      refine ⟨⟨A, c, e, ?_⟩, ih vs hr⟩
      rcases hk with hk | ⟨g, o, e2, hr2⟩
      · exact Or.inl hk
      · exact Or.inr ⟨g, o, e2, RowAt.same hP _ _ _ hr2⟩
theorem Fo.nil_of_len {fo : Fo} (h : fo.len = 0) : fo = .nil := by
  cases fo with
  | nil => rfl
  | cons f k n => simp [Fo.len] at h
def AS (w : World) (base : Nat) (v : Value) (fo : Fo) : Prop := ∃ vs, w.ownsRow base 30 10 v fo.len (ncells vs) ∧ RowV w (fun g => base ≤ g ∧ v.ownBlock ≠ some g) fo vs
theorem AS.nil (w : World) (base : Nat) : AS w base (.slice none 0 0) .nil := ⟨[], ⟨rfl, Or.inl ⟨rfl, rfl⟩⟩, trivial⟩
theorem AS.form {w : World} {base : Nat} {v : Value} {fo : Fo} (h : AS w base v fo) : ∃ A c, v = .slice A fo.len c := by
  obtain ⟨vs, ⟨-, ⟨rfl, h⟩ | ⟨g, cap, cur, rfl, -⟩⟩, -⟩ := h
  · exact ⟨none, 0, by rw [h]⟩
  · exact ⟨_, _, rfl⟩
theorem AS.lt {w : World} {base : Nat} {v : Value} {fo : Fo} (h : AS w base v fo) : ∀ k, v.ownBlock = some k → base ≤ k ∧ k < w.heap.size := by
  obtain ⟨vs, h, -⟩ := h
  exact World.ownsRow.lt h
theorem AS.kept {w w' : World} {base x : Nat} {v : Value} {fo : Fo} (h : AS w base v fo) (hk : Kept x w w') (hx : x < base) : AS w' base v fo := by
  obtain ⟨vs, ⟨h1, h2⟩, h3⟩ := h
  refine ⟨vs, ⟨h1, ?_⟩, RowV.keep hk (fun g hg hl => ⟨by have := hg.1; omega, hg⟩) _ _ h3⟩
  rcases h2 with h2 | ⟨g, cap, cur, e, hb, hg, h⟩
  · exact Or.inl h2
  · exact Or.inr ⟨g, cap, cur, e, hb, (hk.block g (Array.getElem?_eq_some_iff.1 hg).1 (by omega)).trans hg, h⟩
theorem AS.kids {w : World} {base : Nat} {A : Option Addr} {n c : Nat} {fo : Fo} (h : AS w base (.slice A n c) fo) : KidsAt w (fun g => base ≤ g) fo A ∧ fo.len = n := by
  obtain ⟨vs, ⟨h1, ⟨e, h2⟩ | ⟨g, cap, cur, e, hb, hg, h4, h5, h6, h7⟩⟩, h3⟩ := h
  · injection e with e1 e2 e3; subst e2; exact ⟨Or.inl (Fo.nil_of_len h2), h2⟩
  · injection e with e1 e2 e3
    refine ⟨Or.inr ⟨g, 0, e1, rowAt_of hb fo vs 0 (RowV.same (fun g hg _ => ⟨rfl, hg.1⟩) _ _ h3) (fun j u hj => ?_)⟩, e2.symm⟩
    rw [Nat.zero_add, cell_of_row w g j cur _ (0, 0) hg]
    rw [← h7, List.getElem?_take] at hj
    split at hj
    · rw [← hj, Array.getElem?_toList]
    · cases hj
theorem AS.snoc {w w' : World} {base : Nat} {v v' : Value} {fo : Fo} {f : Fld} {kd : Fo} {A : Option Addr} {m c : Nat} (vs : List Value) (hv : RowV w (fun g => base ≤ g ∧ v.ownBlock ≠ some g) fo vs) (hm : kd.len = m) (hA : KidsAt w (fun g => base ≤ g ∧ v.ownBlock ≠ some g) kd A)
    (ho : w'.ownsRow base 30 10 v' (fo.len + 1) (ncells vs ++ (nodeV f A m c).cells.toList)) (hg : w.grownBy w' v.ownBlock) (ha : v'.ownBlock = v.ownBlock ∨ v'.ownBlock = some w.heap.size) : AS w' base v' (fo.app (Nd.one ⟨f, kd⟩)) := by
  refine ⟨vs ++ [nodeV f A m c], ?_, ?_⟩
  · rw [ncells_snoc, Fo.len_app]; exact ho
  · have := RowV.snoc (a := ⟨f, kd⟩) (v := nodeV f A m c) ⟨A, c, by rw [hm], hA⟩ fo vs hv
    refine RowV.same (fun g hg2 hl => ⟨hg.block g hl (fun e => hg2.2 e.symm), hg2.1, ?_⟩) _ _ this
    rcases ha with ha | ha
    · rw [ha]; exact hg2.2
    · rw [ha]; intro e; injection e with e; omega
theorem grown_kept {W W' : World} {row : Option Nat} (hg : W.grownBy W' row) : ∃ y, Kept y W W' ∧ (row = some y ∨ y = W.heap.size) := by
  cases row with
  | none => exact ⟨W.heap.size, ⟨hg.os, hg.tape, hg.output, hg.size, fun k hk _ => hg.block k hk (by simp)⟩, Or.inr rfl⟩
  | some y => exact ⟨y, ⟨hg.os, hg.tape, hg.output, hg.size, fun k hk hx => hg.block k hk (by simpa using hx)⟩, Or.inl rfl⟩
def m4 (v : Value) : Nat := match v with
  | .slice _ n _ => 11 - n
  | _ => 0
theorem m4_slice (A : Option Addr) (n c : Nat) : m4 (.slice A n c) = 11 - n := rfl
theorem node_info : (Tryz.prog.info? 30).map (fun i => (i.zero, i.size, i.bytes)) = some (some (.agg #[.int .i64 0, .int .i64 0, .int .i64 0, .string { data := #[] }, .int .i64 0, .int .i64 0, .int .i64 0, .int .i64 0, .string { data := #[] }, .slice none 0 0]), 10, 112) := by kernel_rfl
structure CCon (x : Nat) (l : List Tok) (en nest : Int) (L : Lev) : Prop where
  fm : ∀ (k : Nat) (w : World), Pc w x l en k nest → Calls Tryz.prog 59 #[.pointer (some ⟨x, 0, none⟩)] w (CPost w.heap.size x l en nest (L.fm k) w)
  pw : ∀ (k : Nat) (w : World), Pc w x l en k nest → Calls Tryz.prog 119 #[.pointer (some ⟨x, 0, none⟩)] w (CPost w.heap.size x l en nest (L.pw k) w)
  un : ∀ (k : Nat) (w : World), Pc w x l en k nest → Calls Tryz.prog 129 #[.pointer (some ⟨x, 0, none⟩)] w (CPost w.heap.size x l en nest (L.un k) w)
set_option maxRecDepth 100000 in
set_option maxHeartbeats 600000 in
theorem cargs {x k : Nat} {l : List Tok} {en nest : Int} {L : Lev} {into : Bool} (w : World) (h : Pc w x l en k nest) (hl : l.length ≤ 300) (hn0 : 0 ≤ nest) (hn1 : nest ≤ 40) (hi : into = decide (nest < 40)) (hc : nest < 40 → CCon x l en (nest + 1) L) :
    Calls Tryz.prog 169 #[.pointer (some ⟨x, 0, none⟩)] w (LPost x l en nest (withinF l en L into k) w) := by
  have hxw := h.lt
  have HI := Lib.hid h
  clear h
  have HC := Lib.hid hc
  have HIN := Lib.hid hi
  clear hc hi
  have B41 : Hid (({ data := #[41] } : ByteArray) = str [41]) := Lib.hid rfl
  have B44 : Hid (({ data := #[44] } : ByteArray) = str [44]) := Lib.hid rfl
  obtain ⟨i0, hi0, hz0, hz1, hz2⟩ := info_parts node_info
  have HZ0 := Lib.hid hz0; have HZ1 := Lib.hid hz1; have HZ2 := Lib.hid hz2; have HI0 := Lib.hid hi0
  clear hz0 hz1 hz2 hi0
  have eg : ∀ args w, (callFunc 59 args).run Tryz.prog w = .ok (.enter 59 args) w := enters_of Tryz.func59 (by kernel_rfl) rfl
  have HEG := Lib.hid eg
  clear eg
  go_enter Tryz.func169, Tryz.ntmps169
  go_wp2_with fail
  rw [B41.out]
  refine (cseesSign [41] w HI.out hl).mono ?_; rintro e w2 ⟨rfl, hb2⟩
  have K2 : Kept x w w2 := Kept.of hb2
  have P2 := Lib.hid (HI.out.below hb2)
  cases hs : isSign l k [41] with
  | true =>
    have E : Hid (withinF l en L into k = .ok (.nil, k)) := Lib.hid (by unfold withinF; rw [if_pos hs])
    go_wp2_with fail
    refine bodyPost_ret (v := .tuple #[.slice none 0 0, .nilIface]) (by simp [results, Tryz.results169, go_sem]) rfl ⟨none, 0, 0, _, rfl, K2, Or.inl ⟨.nil, k, E.out, rfl, rfl, Or.inl rfl, P2.out⟩⟩
  | false =>
    have E : Hid (withinF l en L into k = argsF l en L into 10 .nil k) := Lib.hid (by unfold withinF; rw [if_neg (by rw [hs]; exact Bool.false_ne_true)])
    generalize withinF l en L into k = O at *
    go_wp2_with fail
    have HK2 := Lib.hid K2
    clear K2 hb2
    go_loopw [4] (fun v wr => Hid (∃ (fo : Fo) (k' r : Nat), r + fo.len = 10 ∧ O = argsF l en L into r fo k' ∧ AS wr w.heap.size v fo ∧ Kept x w wr ∧ Pc wr x l en k' nest)) (fun v _ => m4 v)
    case atStart => exact Lib.hid ⟨.nil, k, 10, rfl, E.out, AS.nil _ _, HK2.out, P2.out⟩
    case round =>
      obtain ⟨fo, k', r, hr, hO, hA, hK, hP⟩ := hrel.out
      clear hrel
      obtain ⟨A, c, rfl⟩ := hA.form
      have HA := Lib.hid hA
      have HO := Lib.hid hO
      have HP := Lib.hid hP
      clear hA hO hP
      have hlt := HP.out.lt
      by_cases h10 : fo.len = 10
      · have t10 : ((fo.len : Int) == 10) = true := beq_iff_eq.2 (by omega)
        obtain rfl : r = 0 := by omega
        go_wp2_with fail
        refine (cmisplaced wr HP.out hl).mono ?_; rintro e w3 ⟨rfl, q, rfl⟩
        go_wp2_with fail
        refine bodyPost_ret (v := .tuple #[.slice none 0 0, errV (badAt l en k')]) (by simp [results, Tryz.results169, go_sem]) rfl ⟨none, 0, 0, _, rfl, hK.drew q, Or.inr ⟨_, k', HO.out.trans args_end, isBad_at _ _ _, rfl, HP.out.drew q⟩⟩
      · have t10 : ((fo.len : Int) == 10) = false := beq_eq_false_iff_ne.2 (by omega)
        obtain ⟨r, rfl⟩ : ∃ q, r = q + 1 := ⟨r - 1, by omega⟩
        go_wp2_with fail
        refine (cnested 59 #[.pointer (some ⟨x, 0, none⟩)] wr hlt).mono ?_; rintro e w5 ⟨b1, b2, rfl, hb5, hc1, hc2, hx1, hx2, hs1, hs2⟩
        have k5 : Kept x wr w5 := Kept.of hb5
        have K5 := hK.trans k5
        have P5 := Lib.hid (HP.out.below hb5)
        have A5 := Lib.hid (HA.out.kept k5 hxw)
        clear HA hb5 k5 HP hlt hK
        go_wp2_with fail
        refine (cnested1 (F := L.fm) HEG.out w5 P5.out hn0 hn1 hc1 hc2 (by omega) (by omega) (fun hin w' hk hp => (HC.out hin).fm k' w' hp)).mono ?_
        clear hc1 hc2 hx1 hx2 hs1 hs2
        rintro e w6 ⟨f, A6, m, c6, er, rfl, k6, hp6⟩
        have K6 := K5.trans k6
        have A7 := A5.out.kept k6 hxw
        have hlo := A5.out.lt
        have hx6 : w.heap.size ≤ w6.heap.size := K6.size
        unfold nodeV
        rcases hp6 with ⟨kd, k2, ho, rfl, hn, hA6, hP6⟩ | ⟨bad, k2, ho, hib, rfl, hP6⟩
        · have hin : nest < 40 := by
            by_cases h : nest < 40
            · exact h
            · rw [if_neg h] at ho; cases ho
          rw [if_pos hin] at ho
          have hit : into = true := by rw [HIN.out]; exact decide_eq_true hin
          have HF := Lib.hid ho
          have HIT := Lib.hid hit
          have K8 := (K6.alloc (.cells #[.int .i64 f.k, .int .i64 f.vk, .int .i64 f.vn, .string f.vs, .int .i64 f.r1, .int .i64 f.r2, .int .i64 f.r3, .int .i64 f.r4, .string f.op, .slice A6 m c6] 30)).alloc (.cells #[.int .i64 f.k, .int .i64 f.vk, .int .i64 f.vn, .string f.vs, .int .i64 f.r1, .int .i64 f.r2, .int .i64 f.r3, .int .i64 f.r4, .string f.op, .slice A6 m c6] 30)
          have k8 : Kept x w6 ((w6.alloc (.cells #[.int .i64 f.k, .int .i64 f.vk, .int .i64 f.vn, .string f.vs, .int .i64 f.r1, .int .i64 f.r2, .int .i64 f.r3, .int .i64 f.r4, .string f.op, .slice A6 m c6] 30)).alloc (.cells #[.int .i64 f.k, .int .i64 f.vk, .int .i64 f.vn, .string f.vs, .int .i64 f.r1, .int .i64 f.r2, .int .i64 f.r3, .int .i64 f.r4, .string f.op, .slice A6 m c6] 30)) := ((Kept.refl x w6).alloc _).alloc _
          have A8 := A7.kept k8 hxw
          have P8 := Lib.hid ((hP6.alloc (.cells #[.int .i64 f.k, .int .i64 f.vk, .int .i64 f.vn, .string f.vs, .int .i64 f.r1, .int .i64 f.r2, .int .i64 f.r3, .int .i64 f.r4, .string f.op, .slice A6 m c6] 30)).alloc (.cells #[.int .i64 f.k, .int .i64 f.vk, .int .i64 f.vn, .string f.vs, .int .i64 f.r1, .int .i64 f.r2, .int .i64 f.r3, .int .i64 f.r4, .string f.op, .slice A6 m c6] 30))
          have N8 : KidsAt ((w6.alloc (.cells #[.int .i64 f.k, .int .i64 f.vk, .int .i64 f.vn, .string f.vs, .int .i64 f.r1, .int .i64 f.r2, .int .i64 f.r3, .int .i64 f.r4, .string f.op, .slice A6 m c6] 30)).alloc (.cells #[.int .i64 f.k, .int .i64 f.vk, .int .i64 f.vn, .string f.vs, .int .i64 f.r1, .int .i64 f.r2, .int .i64 f.r3, .int .i64 f.r4, .string f.op, .slice A6 m c6] 30)) (fun g => w.heap.size ≤ g ∧ Value.ownBlock (.slice A fo.len c) ≠ some g) kd A6 := hA6.keep k8 (fun g hg hl => ⟨by have := K5.size; omega, by have := K5.size; omega, fun e => by have := hlo g e; omega⟩)
          have hnb : ((w6.alloc (.cells #[.int .i64 f.k, .int .i64 f.vk, .int .i64 f.vn, .string f.vs, .int .i64 f.r1, .int .i64 f.r2, .int .i64 f.r3, .int .i64 f.r4, .string f.op, .slice A6 m c6] 30)).alloc (.cells #[.int .i64 f.k, .int .i64 f.vk, .int .i64 f.vn, .string f.vs, .int .i64 f.r1, .int .i64 f.r2, .int .i64 f.r3, .int .i64 f.r4, .string f.op, .slice A6 m c6] 30)).heap[w6.heap.size + 1]? = some (.cells #[.int .i64 f.k, .int .i64 f.vk, .int .i64 f.vn, .string f.vs, .int .i64 f.r1, .int .i64 f.r2, .int .i64 f.r3, .int .i64 f.r4, .string f.op, .slice A6 m c6] 30) := row_at2 _ _ _ rfl
          have s8 : w.heap.size ≤ ((w6.alloc (.cells #[.int .i64 f.k, .int .i64 f.vk, .int .i64 f.vn, .string f.vs, .int .i64 f.r1, .int .i64 f.r2, .int .i64 f.r3, .int .i64 f.r4, .string f.op, .slice A6 m c6] 30)).alloc (.cells #[.int .i64 f.k, .int .i64 f.vk, .int .i64 f.vn, .string f.vs, .int .i64 f.r1, .int .i64 f.r2, .int .i64 f.r3, .int .i64 f.r4, .string f.op, .slice A6 m c6] 30)).heap.size := K8.size
          obtain ⟨vs, hown, hvs⟩ := A8
          have HH := Lib.hid hown
          have HNB := Lib.hid hnb
          have HREST := Lib.hid (show RowV ((w6.alloc (.cells #[.int .i64 f.k, .int .i64 f.vk, .int .i64 f.vn, .string f.vs, .int .i64 f.r1, .int .i64 f.r2, .int .i64 f.r3, .int .i64 f.r4, .string f.op, .slice A6 m c6] 30)).alloc (.cells #[.int .i64 f.k, .int .i64 f.vk, .int .i64 f.vn, .string f.vs, .int .i64 f.r1, .int .i64 f.r2, .int .i64 f.r3, .int .i64 f.r4, .string f.op, .slice A6 m c6] 30)) (fun g => w.heap.size ≤ g ∧ Value.ownBlock (.slice A fo.len c) ≠ some g) fo vs ∧ KidsAt ((w6.alloc (.cells #[.int .i64 f.k, .int .i64 f.vk, .int .i64 f.vn, .string f.vs, .int .i64 f.r1, .int .i64 f.r2, .int .i64 f.r3, .int .i64 f.r4, .string f.op, .slice A6 m c6] 30)).alloc (.cells #[.int .i64 f.k, .int .i64 f.vk, .int .i64 f.vn, .string f.vs, .int .i64 f.r1, .int .i64 f.r2, .int .i64 f.r3, .int .i64 f.r4, .string f.op, .slice A6 m c6] 30)) (fun g => w.heap.size ≤ g ∧ Value.ownBlock (.slice A fo.len c) ≠ some g) kd A6 ∧ Kept x w ((w6.alloc (.cells #[.int .i64 f.k, .int .i64 f.vk, .int .i64 f.vn, .string f.vs, .int .i64 f.r1, .int .i64 f.r2, .int .i64 f.r3, .int .i64 f.r4, .string f.op, .slice A6 m c6] 30)).alloc (.cells #[.int .i64 f.k, .int .i64 f.vk, .int .i64 f.vn, .string f.vs, .int .i64 f.r1, .int .i64 f.r2, .int .i64 f.r3, .int .i64 f.r4, .string f.op, .slice A6 m c6] 30)) from ⟨hvs, N8, K8⟩)
          clear ho hit hnb hown hvs N8 K8 k8 A7 A5 K5 K6 k6 P5 hA6 hP6
          go_wp2_with (at_builtin
                       refine wpList_append_own_at _ rfl (.tmp 25) (.tmp 27) _ rfl w.heap.size 30 i0 _ 10 112 Tryz.underlying28 HI0.out HZ0.out HZ1.out HZ2.out rfl (by omega) (.slice A fo.len c) fo.len (ncells vs) rfl HH.out ⟨w6.heap.size + 1, 0, none⟩ 1 1 [.int .i64 f.k, .int .i64 f.vk, .int .i64 f.vn, .string f.vs, .int .i64 f.r1, .int .i64 f.r2, .int .i64 f.r3, .int .i64 f.r4, .string f.op, .slice A6 m c6] rfl rfl (World.news_of_block HNB.out) (by simp [Value.oneCell']) (by unfold maxLen; omega) (by omega) s8 ?_
                       intro v9 w9 hown9 hg9 hnil9 hat9
                       have A9 : AS w9 w.heap.size v9 (fo.app (Nd.one ⟨f, kd⟩)) := AS.snoc (m := m) (c := c6) vs HREST.out.1 hn HREST.out.2.1 hown9 hg9 hat9
                       obtain ⟨y, k9, hy⟩ := grown_kept hg9
                       have hyw : w.heap.size ≤ y := by
                         rcases hy with hy | hy
                         · exact (hlo y hy).1
                         · rw [hy]; exact s8
                       have K9 := HREST.out.2.2.then_ k9 hyw
                       have P9 := Lib.hid (P8.out.kept k9 (by omega))
                       clear hown9 hg9 hnil9 hat9 k9 hy hyw
                       obtain ⟨A10, c10, e10⟩ := A9.form
                       subst e10
                       have HA9 := Lib.hid A9
                       have HK9 := Lib.hid K9
                       clear A9 K9)
          rw [B44.out]
          refine (cseesSign [44] w9 P9.out hl).mono ?_; rintro e w10 ⟨rfl, hb10⟩
          have k10 : Kept x w9 w10 := Kept.of hb10
          have P10 := Lib.hid (P9.out.below hb10)
          have K10 := Lib.hid (HK9.out.trans k10)
          have HA10 := Lib.hid (HA9.out.kept k10 hxw)
          have hlen : (fo.app (Nd.one ⟨f, kd⟩)).len = fo.len + 1 := by rw [Fo.len_app]; rfl
          clear hb10 k10 P9 HA9 HK9
          have EM : Hid (isSign l k2 [44] = true → O = argsF l en L into r (fo.app (Nd.one ⟨f, kd⟩)) (k2 + 1)) := Lib.hid fun hs => HO.out.trans (args_more HIT.out HF.out hs)
          have EL : Hid (isSign l k2 [44] = false → O = .ok (fo.app (Nd.one ⟨f, kd⟩), k2)) := Lib.hid fun hs => HO.out.trans (args_last HIT.out HF.out hs)
          generalize fo.app (Nd.one ⟨f, kd⟩) = fo2 at *
          cases hs9 : isSign l k2 [44] with
          | false =>
            have hkids := HA10.out.kids
            go_wp2_with fail
            refine bodyPost_ret (v := .tuple #[.slice A10 (fo.len + 1) c10, .nilIface]) (by simp [results, Tryz.results169, go_sem]) rfl ⟨A10, _, c10, _, rfl, K10.out, Or.inl ⟨fo2, k2, EL.out hs9, rfl, hlen, hkids.1, P10.out⟩⟩
          | true =>
            have hlt9 := sign_lt hs9
            go_wp2_with fail
            refine (ctake w10 P10.out hlt9).mono ?_; rintro e w11 ⟨rfl, P11, k11⟩
            go_wp2_with fail
            go_roundw
            case rel => exact Lib.hid ⟨fo2, k2 + 1, r, by omega, EM.out hs9, hlen ▸ HA10.out.kept k11 hxw, K10.out.trans k11, P11⟩
            case measure => rw [m4_slice, m4_slice]; omega
        · obtain ⟨T, u, hT⟩ := errV_some bad
          have E2 : Hid (O = .error bad) := by
            by_cases hin : nest < 40
            · rw [if_pos hin] at ho
              exact Lib.hid (HO.out.trans (args_bad (by rw [HIN.out]; exact decide_eq_true hin) ho))
            · rw [if_neg hin] at ho
              injection ho with ho
              subst ho
              exact Lib.hid (HO.out.trans (args_deep (by rw [HIN.out]; exact decide_eq_false hin)))
          have P6 := Lib.hid (hP6.alloc (.cells #[.int .i64 f.k, .int .i64 f.vk, .int .i64 f.vn, .string f.vs, .int .i64 f.r1, .int .i64 f.r2, .int .i64 f.r3, .int .i64 f.r4, .string f.op, .slice A6 m c6] 30))
          have K7 := Lib.hid (K6.alloc (.cells #[.int .i64 f.k, .int .i64 f.vk, .int .i64 f.vn, .string f.vs, .int .i64 f.r1, .int .i64 f.r2, .int .i64 f.r3, .int .i64 f.r4, .string f.op, .slice A6 m c6] 30))
          clear ho hP6
          rw [hT]
          go_wp2_with fail
          refine bodyPost_ret (v := .tuple #[.slice none 0 0, .iface T u]) (by simp [results, Tryz.results169, go_sem]) rfl ⟨none, 0, 0, _, rfl, K7.out, Or.inr ⟨bad, k2, E2.out, hib, hT.symm, P6.out⟩⟩
end Go.Proofs.YtccigjelbnjcoaaGreatDoor.TreeC
namespace Go.Proofs.YtccigjelbnjcoaaGreatDoor.TreeC
set_option linter.unusedVariables false
open Go.RowKit Go.Proofs.YtccigjelbnjcoaaGreatDoor.NumC Go.Proofs.YtccigjelbnjcoaaGreatDoor.LexC
def callIn (l : List Tok) (n : Int) (L : Lev) (into : Bool) (s : ByteArray) (k : Nat) : Out := match withinF l n L into k with
  | .error e => .error e
  | .ok (fo, k') => .ok (callN s fo, k')
theorem callIn_err {l : List Tok} {n : Int} {L : Lev} {into : Bool} {s : ByteArray} {k : Nat} {b : Bad} (h : withinF l n L into k = .error b) : callIn l n L into s k = .error b := by simp [callIn, h]
theorem callIn_ok {l : List Tok} {n : Int} {L : Lev} {into : Bool} {s : ByteArray} {k k' : Nat} {fo : Fo} (h : withinF l n L into k = .ok (fo, k')) : callIn l n L into s k = .ok (callN s fo, k') := by simp [callIn, h]
theorem callF_in {l : List Tok} {n : Int} {L : Lev} {into : Bool} {t : Tok} {k : Nat} (h8 : ¬ 8 < t.s.size) : callF l n L into t k = closedF l n (callIn l n L into t.s (k + 2)) := by
  unfold callF callIn withinF closedF
  rw [if_neg h8]
  cases hs : isSign l (k + 2) [41] with
  | true => simp [close_ok hs]
  | false =>
    simp only [Bool.false_eq_true, if_false]
    cases argsF l n L into 10 .nil (k + 2) with
    | error e => rfl
    | ok q => obtain ⟨fo, k'⟩ := q; rfl
set_option maxRecDepth 100000 in
set_option maxHeartbeats 600000 in
theorem ccall1 {x k b1 b2 : Nat} {l : List Tok} {en nest : Int} {L : Lev} {into : Bool} {s : ByteArray} (w : World) (h : Pc w x l en k nest) (hl : l.length ≤ 300) (hn0 : 0 ≤ nest) (hn1 : nest ≤ 40) (hi : into = decide (nest < 40)) (hc : nest < 40 → CCon x l en (nest + 1) L)
    (h1 : w.cell? ⟨b1, 0, none⟩ = some (.pointer (some ⟨x, 0, none⟩))) (h2 : w.cell? ⟨b2, 0, none⟩ = some (.string s)) (hx1 : b1 ≠ x) (hx2 : b2 ≠ x) :
    Calls Tryz.prog 168 #[.pointer (some ⟨b1, 0, none⟩), .pointer (some ⟨b2, 0, none⟩)] w (CPost w.heap.size x l en nest (callIn l en L into s k) w) := by
  have hxw := h.lt
  have HI := Lib.hid h
  clear h
  have hb1 := World.block_lt_of_cell? w _ h1
  have hb2 := World.block_lt_of_cell? w _ h2
  simp only at hb1 hb2
  have HC := Lib.hid hc
  have HIN := Lib.hid hi
  clear hc hi
  have ne1 : x ≠ w.heap.size := by omega
  have ne2 : w.heap.size ≠ x := by omega
  have K1 : Kept x w (w.alloc (.cells #[.int .i64 0, .int .i64 0, .int .i64 0, .string { data := #[] }, .int .i64 0, .int .i64 0, .int .i64 0, .int .i64 0, .string { data := #[] }, .slice none 0 0] 30)) := (Kept.refl x w).alloc _
  have X1 := NBox.new w
  have P1 := Lib.hid (HI.out.alloc (.cells #[.int .i64 0, .int .i64 0, .int .i64 0, .string { data := #[] }, .int .i64 0, .int .i64 0, .int .i64 0, .int .i64 0, .string { data := #[] }, .slice none 0 0] 30))
  have c2 := K1.cell hx2 h2
  clear h2
  go_enter Tryz.func168, Tryz.ntmps168
  go_wp2_with fail
  generalize (w.alloc (.cells #[.int .i64 0, .int .i64 0, .int .i64 0, .string { data := #[] }, .int .i64 0, .int .i64 0, .int .i64 0, .int .i64 0, .string { data := #[] }, .slice none 0 0] 30)) = W1 at *
  have lt1 := X1.lt
  refine (cargs W1 P1.out hl hn0 hn1 HIN.out HC.out).mono ?_; rintro e w2 ⟨A, m, c, er, rfl, k2, hp2⟩
  have K2 := K1.trans k2
  have X2 := X1.kept k2 ne2
  have q2 := k2.cell hx2 c2
  clear c2 h1
  obtain ⟨f0, f1, f2, f3, f4, f5, f6, f7, f8, f9, z0, z1, z2, z3, z4, z5, z6, z7, z8, z9⟩ := (X2).cells
  go_wp2_with fail
  rcases hp2 with ⟨fo, k', ho, rfl, hn, hA, hP⟩ | ⟨bad, k', ho, hib, rfl, hP⟩
  · refine bodyPost_ret (v := .tuple #[.agg #[.int .i64 6, .int .i64 0, .int .i64 0, .string { data := #[] }, .int .i64 0, .int .i64 0, .int .i64 0, .int .i64 0, .string s, .slice A m c], .nilIface]) (by simp [results, Tryz.results168, go_sem, f0, f1, f2, f3, f4, f5, f6, f7, f8, f9]) rfl (CPost.ok (f := (callN s fo).f) (kd := fo) (A := A) (m := m) (c := c) (b := w.heap.size) (V := w2) (callIn_ok ho) K2 hP hn (hA.keep (Q := fun g => w.heap.size ≤ g ∧ g ≠ w.heap.size) (Kept.refl w2.heap.size w2) (fun g hg hl => ⟨by omega, by omega, by omega⟩)) (Nat.le_refl _) hxw ?_)
    repeat (first | with_reducible exact Kept.refl _ _ | with_reducible refine Kept.setCell ?_ _ _ | with_reducible refine Kept.alloc ?_ _)
  · refine bodyPost_ret (v := .tuple #[.agg #[.int .i64 6, .int .i64 0, .int .i64 0, .string { data := #[] }, .int .i64 0, .int .i64 0, .int .i64 0, .int .i64 0, .string s, .slice A m c], errV bad]) (by simp [results, Tryz.results168, go_sem, f0, f1, f2, f3, f4, f5, f6, f7, f8, f9]) rfl (CPost.err (f := (callN s .nil).f) (A := A) (m := m) (c := c) (b := w.heap.size) (V := w2) (callIn_err ho) hib K2 hP (Nat.le_refl _) hxw ?_)
    repeat (first | with_reducible exact Kept.refl _ _ | with_reducible refine Kept.setCell ?_ _ _ | with_reducible refine Kept.alloc ?_ _)
set_option maxRecDepth 100000 in
set_option maxHeartbeats 600000 in
theorem ccall {x k : Nat} {l : List Tok} {en nest : Int} {L : Lev} {into : Bool} {t : Tok} (w : World) (h : Pc w x l en k nest) (hl : l.length ≤ 300) (hn0 : 0 ≤ nest) (hn1 : nest ≤ 40) (hi : into = decide (nest < 40)) (hc : nest < 40 → CCon x l en (nest + 1) L)
    (ht : l[k]? = some t) (hts : t.s.size ≤ 1000000) (hs : isSign l (k + 1) [40] = true) :
    Calls Tryz.prog 158 #[.pointer (some ⟨x, 0, none⟩)] w (CPost w.heap.size x l en nest (callF l en L into t k) w) := by
  have hxw := h.lt
  have HI := Lib.hid h
  clear h
  have HC := Lib.hid hc
  have HIN := Lib.hid hi
  have HT := Lib.hid ht
  have hlt : k < l.length := (List.getElem?_eq_some_iff.1 ht).1
  have hlt2 : k + 1 < l.length := sign_lt hs
  clear hc hi ht
  have ne1 : x ≠ w.heap.size + 1 := by omega
  have ne2 : w.heap.size + 1 ≠ x := by omega
  have nf1 : x ≠ w.heap.size := by omega
  have nf2 : w.heap.size ≠ x := by omega
  have sz1 : (w.alloc (.cells #[.pointer (some ⟨x, 0, none⟩)] 83)).heap.size = w.heap.size + 1 := heap_one _ _
  have K1 : Kept x w ((w.alloc (.cells #[.pointer (some ⟨x, 0, none⟩)] 83)).alloc (.cells #[.int .i64 0, .int .i64 0, .int .i64 0, .string { data := #[] }, .int .i64 0, .int .i64 0, .int .i64 0, .int .i64 0, .string { data := #[] }, .slice none 0 0] 30)) := ((Kept.refl x w).alloc _).alloc _
  have X1 : NBox ((w.alloc (.cells #[.pointer (some ⟨x, 0, none⟩)] 83)).alloc (.cells #[.int .i64 0, .int .i64 0, .int .i64 0, .string { data := #[] }, .int .i64 0, .int .i64 0, .int .i64 0, .int .i64 0, .string { data := #[] }, .slice none 0 0] 30)) (w.heap.size + 1) := by
    have := NBox.new (w.alloc (.cells #[.pointer (some ⟨x, 0, none⟩)] 83)); rwa [sz1] at this
  have P1 := Lib.hid ((HI.out.alloc (.cells #[.pointer (some ⟨x, 0, none⟩)] 83)).alloc (.cells #[.int .i64 0, .int .i64 0, .int .i64 0, .string { data := #[] }, .int .i64 0, .int .i64 0, .int .i64 0, .int .i64 0, .string { data := #[] }, .slice none 0 0] 30))
  have q1 : ((w.alloc (.cells #[.pointer (some ⟨x, 0, none⟩)] 83)).alloc (.cells #[.int .i64 0, .int .i64 0, .int .i64 0, .string { data := #[] }, .int .i64 0, .int .i64 0, .int .i64 0, .int .i64 0, .string { data := #[] }, .slice none 0 0] 30)).cell? ⟨w.heap.size, 0, none⟩ = some (.pointer (some ⟨x, 0, none⟩)) := by simp
  have eg : ∀ args w, (callFunc 168 args).run Tryz.prog w = .ok (.enter 168 args) w := enters_of Tryz.func168 (by kernel_rfl) rfl
  have HEG := Lib.hid eg
  clear eg
  go_enter Tryz.func158, Tryz.ntmps158
  go_wp2_with fail
  generalize ((w.alloc (.cells #[.pointer (some ⟨x, 0, none⟩)] 83)).alloc (.cells #[.int .i64 0, .int .i64 0, .int .i64 0, .string { data := #[] }, .int .i64 0, .int .i64 0, .int .i64 0, .int .i64 0, .string { data := #[] }, .slice none 0 0] 30)) = W1 at *
  have lt1 := X1.lt
  refine (cahead0 W1 P1.out hl).mono ?_; rintro e w2 ⟨rfl, hb2⟩
  rw [HT.out]
  unfold tokV
  have k2 : Kept x W1 w2 := Kept.of hb2
  have K2 := K1.trans k2
  have X2 := X1.kept k2 ne2
  have P2 := Lib.hid (P1.out.below hb2)
  have q2 := k2.cell nf2 q1
  have qS := field_S t.k t.n t.s t.at_ w2
  have lt2 := X2.lt
  have hx2 : x < w2.heap.size := by have := k2.size; omega
  have na1 : x ≠ w2.heap.size := by omega
  have na2 : w2.heap.size ≠ x := by omega
  have na3 : w.heap.size + 1 ≠ w2.heap.size := by omega
  have na4 : w2.heap.size ≠ w.heap.size + 1 := by omega
  have na5 : w.heap.size ≠ w2.heap.size := by omega
  have K3 := K2.alloc (.cells #[.string t.s] 9)
  have k3 : Kept x w2 (w2.alloc (.cells #[.string t.s] 9)) := (Kept.refl x w2).alloc _
  have X3 := X2.kept k3 ne2
  have P3 := Lib.hid (P2.out.alloc (.cells #[.string t.s] 9))
  have q3 := k3.cell nf2 q2
  have r3 : (w2.alloc (.cells #[.string t.s] 9)).cell? ⟨w2.heap.size, 0, none⟩ = some (.string t.s) := by simp
  clear K1 X1 P1 q1 k2 hb2 k3
  have lt3 := X3.lt
  by_cases h8 : 8 < t.s.size
  · have E : Hid (callF l en L into t k = .error (badAt l en k)) := Lib.hid (by unfold callF; rw [if_pos h8])
    go_wp2_with fail
    generalize (w2.alloc (.cells #[.string t.s] 9)) = W3 at *
    refine (cmisplaced W3 P3.out hl).mono ?_; rintro e w4 ⟨rfl, q, rfl⟩
    have X4 := X3.kept ((Kept.refl x W3).drew q) ne2
    obtain ⟨f0, f1, f2, f3, f4, f5, f6, f7, f8, f9, z0, z1, z2, z3, z4, z5, z6, z7, z8, z9⟩ := (X4).cells
    go_wp2_with fail
    refine bodyPost_ret (v := .tuple #[.agg #[.int .i64 0, .int .i64 0, .int .i64 0, .string { data := #[] }, .int .i64 0, .int .i64 0, .int .i64 0, .int .i64 0, .string { data := #[] }, .slice none 0 0], errV (badAt l en k)]) (by simp [results, Tryz.results158, go_sem, f0, f1, f2, f3, f4, f5, f6, f7, f8, f9]) rfl (CPost.err (f := fld0) (A := none) (m := 0) (c := 0) (b := w.heap.size + 1) (V := W3.drewN q) E.out (isBad_at _ _ _) (K3.drew q) (P3.out.drew q) (by omega) hxw ?_)
    repeat (first | with_reducible exact Kept.refl _ _ | with_reducible refine Kept.setCell ?_ _ _ | with_reducible refine Kept.alloc ?_ _)
  · have E := Lib.hid (callF_in (l := l) (n := en) (L := L) (into := into) (k := k) h8)
    have h88 : t.s.size ≤ 8 := by omega
    clear X2 P2 q2
    go_wp2_with fail
    generalize (w2.alloc (.cells #[.string t.s] 9)) = W3 at *
    refine (ctake W3 P3.out hlt).mono ?_; rintro e w4 ⟨rfl, P4, k4⟩
    have K4 := K3.trans k4
    have X4 := X3.kept k4 ne2
    have q4 := k4.cell nf2 q3
    have r4 := k4.cell na2 r3
    clear K3 X3 P3 q3 r3 k4
    go_wp2_with fail
    refine (ctake w4 P4 hlt2).mono ?_; rintro e w5 ⟨rfl, P5, k5⟩
    have K5 := K4.trans k5
    have X5 := X4.kept k5 ne2
    have q5 := k5.cell nf2 q4
    have r5 := k5.cell na2 r4
    clear K4 X4 P4 q4 r4 k5
    go_wp2_with fail
    refine (cclosed (F := fun k => callIn l en L into t.s k) HEG.out w5 P5 hl (fun w' hk hp => ccall1 w' hp hl hn0 hn1 HIN.out HC.out (hk.cell nf2 q5) (hk.cell na2 r5) nf2 na2)).mono ?_
    rintro e w6 ⟨f, A, m, c, er, rfl, k6, hp6⟩
    have X6 := X5.kept k6 ne2
    have K6 := K5.trans k6
    rw [← E.out] at hp6
    have HP := Lib.hid hp6
    have lt6 := X5.lt
    have lt7 := X6.lt
    clear hp6
    unfold nodeV
    obtain ⟨f0, f1, f2, f3, f4, f5, f6, f7, f8, f9, z0, z1, z2, z3, z4, z5, z6, z7, z8, z9⟩ := (X6).cells
    go_wp2_with fail
    refine bodyPost_ret (v := .tuple #[.agg #[.int .i64 f.k, .int .i64 f.vk, .int .i64 f.vn, .string f.vs, .int .i64 f.r1, .int .i64 f.r2, .int .i64 f.r3, .int .i64 f.r4, .string f.op, .slice A m c], er]) (by simp [results, Tryz.results158, go_sem, f0, f1, f2, f3, f4, f5, f6, f7, f8, f9]) rfl (CPost.on (f := f) (A := A) (m := m) (c := c) (b := w.heap.size + 1) HP.out K6 (by omega) lt6 (by omega) hxw ?_)
    repeat (first | with_reducible exact Kept.refl _ _ | with_reducible refine Kept.setCell ?_ _ _ | with_reducible refine Kept.alloc ?_ _)
end Go.Proofs.YtccigjelbnjcoaaGreatDoor.TreeC
namespace Go.Proofs.YtccigjelbnjcoaaGreatDoor.TreeC
set_option linter.unusedVariables false
open Go.RowKit Go.Proofs.YtccigjelbnjcoaaGreatDoor.NumC Go.Proofs.YtccigjelbnjcoaaGreatDoor.LexC
structure Env (x : Nat) (l : List Tok) (en nest : Int) (L : Lev) (into : Bool) : Prop where
  hl : l.length ≤ 300
  hn0 : 0 ≤ nest
  hn1 : nest ≤ 40
  hi : into = decide (nest < 40)
  hc : nest < 40 → CCon x l en (nest + 1) L
  hts : ∀ (i : Nat) (t : Tok), l[i]? = some t → t.s.size ≤ 1000000
  hL : LGoes l L
theorem name_call {l : List Tok} {n : Int} {L : Lev} {into : Bool} {t : Tok} {k : Nat} (hs : isSign l (k + 1) [40] = true) : nameF l n L into t k = callF l n L into t k := by unfold nameF; rw [if_pos hs]
theorem name_named {l : List Tok} {n : Int} {L : Lev} {into : Bool} {t : Tok} {k : Nat} (ht : l[k]? = some t) (h3 : t.k = 3) (hs : isSign l (k + 1) [40] = false) : nameF l n L into t k = namedF l n t k := by
  unfold nameF namedF cellsF cellF
  rw [if_neg (by rw [hs]; exact Bool.false_ne_true), ht]
  simp only [h3, hs, true_and]
  split
  · rfl
  · split
    · rfl
    · cases hp : AddrC.pOK t.s.data.toList with
      | false => simp
      | true =>
        simp only [Bool.true_eq_false, if_false, if_true]
        split
        · cases hu : l[k + 2]? with
          | none => rfl
          | some u =>
            simp only
            split
            · rfl
            · rfl
        · rfl
theorem paren_in {l : List Tok} {n : Int} {L : Lev} {into : Bool} {k : Nat} {nest : Int} (hi : into = decide (nest < 40)) : parenF l n L into k = closedF l n (if nest < 40 then L.fm k else .error deepE) := by
  unfold parenF closedF
  by_cases h : nest < 40
  · rw [hi, decide_eq_true h, if_pos h]; simp only [Bool.true_eq_false, if_false]
    cases L.fm k with
    | error e => rfl
    | ok q => rfl
  · rw [hi, decide_eq_false h, if_neg h]; rfl
set_option maxRecDepth 100000 in
set_option maxHeartbeats 600000 in
theorem cpart {x k : Nat} {l : List Tok} {en nest : Int} {L : Lev} {into : Bool} (E : Env x l en nest L into) (w : World) (h : Pc w x l en k nest) :
    Calls Tryz.prog 140 #[.pointer (some ⟨x, 0, none⟩)] w (CPost w.heap.size x l en nest (partF l en L into k) w) := by
  have hxw := h.lt
  have HI := Lib.hid h
  clear h
  have HE := Lib.hid E
  have hl := E.hl
  clear E
  have ne1 : x ≠ w.heap.size := by omega
  have ne2 : w.heap.size ≠ x := by omega
  have K1 : Kept x w (w.alloc (.cells #[.int .i64 0, .int .i64 0, .int .i64 0, .string { data := #[] }, .int .i64 0, .int .i64 0, .int .i64 0, .int .i64 0, .string { data := #[] }, .slice none 0 0] 30)) := (Kept.refl x w).alloc _
  have X1 := NBox.new w
  have P1 := Lib.hid (HI.out.alloc (.cells #[.int .i64 0, .int .i64 0, .int .i64 0, .string { data := #[] }, .int .i64 0, .int .i64 0, .int .i64 0, .int .i64 0, .string { data := #[] }, .slice none 0 0] 30))
  clear HI
  obtain ⟨tk, tn, s, ta, hv, hlt, hout⟩ : ∃ tk tn s ta, tokV l[k]? = .agg #[.int .i64 tk, .int .i64 tn, .string s, .int .i64 ta] ∧ (tk ≠ 0 → l[k]? = some ⟨tk, tn, s, ta⟩) ∧
      partF l en L into k = if tk = 1 then .ok (constN 2 tn nob, k + 1) else if tk = 2 then textF l en ⟨tk, tn, s, ta⟩ k else if tk = 3 then nameF l en L into ⟨tk, tn, s, ta⟩ k else if isSign l k [40] then parenF l en L into (k + 1) else .error (badAt l en k) := by
    unfold partF
    cases ht : l[k]? with
    | none => exact ⟨0, 0, { data := #[] }, 0, rfl, fun h => absurd rfl h, by simp [isSign, ht]⟩
    | some t => exact ⟨t.k, t.n, t.s, t.at_, rfl, fun _ => rfl, rfl⟩
  have HV := Lib.hid hv
  have HO := Lib.hid hout
  have HT := Lib.hid hlt
  clear hv hout hlt
  have B40 : Hid (({ data := #[40] } : ByteArray) = str [40]) := Lib.hid rfl
  by_cases h1 : tk = 1
  · subst h1
    have EO : Hid (partF l en L into k = .ok (⟨(constN 2 tn { data := #[] }).f, .nil⟩, k + 1)) := Lib.hid (by rw [HO.out, if_pos rfl]; rfl)
    have hlt : k < l.length := (List.getElem?_eq_some_iff.1 (HT.out (by decide))).1
    go_enter Tryz.func140, Tryz.ntmps140
    go_wp2_with fail
    generalize (w.alloc (.cells #[.int .i64 0, .int .i64 0, .int .i64 0, .string { data := #[] }, .int .i64 0, .int .i64 0, .int .i64 0, .int .i64 0, .string { data := #[] }, .slice none 0 0] 30)) = W1 at *
    refine (cahead0 W1 P1.out hl).mono ?_; rintro e w2 ⟨rfl, hb2⟩
    rw [HV.out]
    have k2 : Kept x W1 w2 := Kept.of hb2
    have K2 := (K1.trans k2).alloc (.cells #[.int .i64 1, .int .i64 tn, .string s, .int .i64 ta] 80)
    have X2a := (X1.kept k2 ne2)
    have lt2 := X2a.lt
    have hx2 : x < w2.heap.size := by omega
    have X2 := X2a.kept ((Kept.refl x w2).alloc (.cells #[.int .i64 1, .int .i64 tn, .string s, .int .i64 ta] 80)) ne2
    have P2 := Lib.hid ((P1.out.below hb2).alloc (.cells #[.int .i64 1, .int .i64 tn, .string s, .int .i64 ta] 80))
    have T2 : TBox (w2.alloc (.cells #[.int .i64 1, .int .i64 tn, .string s, .int .i64 ta] 80)) w2.heap.size 1 tn s ta := ⟨heap_alloc_new _ _⟩
    have nt1 : x ≠ w2.heap.size := by omega
    have nt2 : w2.heap.size ≠ x := by omega
    have nt3 : w.heap.size ≠ w2.heap.size := by omega
    have nt4 : w2.heap.size ≠ w.heap.size := by omega
    clear K1 X1 P1 hb2 k2 X2a
    go_wp2_with fail
    generalize (w2.alloc (.cells #[.int .i64 1, .int .i64 tn, .string s, .int .i64 ta] 80)) = W2 at *
    refine (ctake W2 P2.out hlt).mono ?_; rintro e w3 ⟨rfl, P3, k3⟩
    have X3 := X2.kept k3 ne2
    have K3 := K2.trans k3
    have T3 := T2.kept k3 nt2
    obtain ⟨c0, c1, c2, c3⟩ := T3.cells
    clear X2 K2 P2 T2 k3
    go_wp2_with fail
    refine (cconstant 2 tn { data := #[] } w3).mono ?_; rintro e w4 ⟨rfl, hb4⟩
    have k4 : Kept x w3 w4 := Kept.of hb4
    have X4 := X3.kept k4 ne2
    have K4 := K3.trans k4
    have P4 := P3.below hb4
    unfold nodeV constN nob
    obtain ⟨f0, f1, f2, f3, f4, f5, f6, f7, f8, f9, z0, z1, z2, z3, z4, z5, z6, z7, z8, z9⟩ := (X4).cells
    go_wp2_with fail
    refine bodyPost_ret (v := .tuple #[.agg #[.int .i64 1, .int .i64 2, .int .i64 tn, .string { data := #[] }, .int .i64 0, .int .i64 0, .int .i64 0, .int .i64 0, .string { data := #[] }, .slice none 0 0], .nilIface]) (by simp [results, Tryz.results140, go_sem, f0, f1, f2, f3, f4, f5, f6, f7, f8, f9]) rfl (CPost.ok (f := (constN 2 tn { data := #[] }).f) (kd := .nil) (A := none) (m := 0) (c := 0) (b := w.heap.size) (V := w4) EO.out K4 P4 rfl (Or.inl rfl) (Nat.le_refl _) hxw ?_)
    repeat (first | with_reducible exact Kept.refl _ _ | with_reducible refine Kept.setCell ?_ _ _ | with_reducible refine Kept.alloc ?_ _)
  · have b1 : (tk == 1) = false := beq_eq_false_iff_ne.2 h1
    by_cases h2 : tk = 2
    · subst h2
      have EO : Hid (partF l en L into k = textF l en ⟨2, tn, s, ta⟩ k) := Lib.hid (by rw [HO.out, if_neg h1, if_pos rfl])
      clear h1 b1
      go_enter Tryz.func140, Tryz.ntmps140
      go_wp2_with fail
      generalize (w.alloc (.cells #[.int .i64 0, .int .i64 0, .int .i64 0, .string { data := #[] }, .int .i64 0, .int .i64 0, .int .i64 0, .int .i64 0, .string { data := #[] }, .slice none 0 0] 30)) = W1 at *
      refine (cahead0 W1 P1.out hl).mono ?_; rintro e w2 ⟨rfl, hb2⟩
      rw [HV.out]
      have k2 : Kept x W1 w2 := Kept.of hb2
      have K2 := (K1.trans k2).alloc (.cells #[.int .i64 2, .int .i64 tn, .string s, .int .i64 ta] 80)
      have X2a := (X1.kept k2 ne2)
      have lt2 := X2a.lt
      have hx2 : x < w2.heap.size := by omega
      have X2 := X2a.kept ((Kept.refl x w2).alloc (.cells #[.int .i64 2, .int .i64 tn, .string s, .int .i64 ta] 80)) ne2
      have P2 := Lib.hid ((P1.out.below hb2).alloc (.cells #[.int .i64 2, .int .i64 tn, .string s, .int .i64 ta] 80))
      have T2 : TBox (w2.alloc (.cells #[.int .i64 2, .int .i64 tn, .string s, .int .i64 ta] 80)) w2.heap.size 2 tn s ta := ⟨heap_alloc_new _ _⟩
      have nt1 : x ≠ w2.heap.size := by omega
      have nt2 : w2.heap.size ≠ x := by omega
      have nt3 : w.heap.size ≠ w2.heap.size := by omega
      have nt4 : w2.heap.size ≠ w.heap.size := by omega
      clear K1 X1 P1 hb2 k2 X2a
      go_wp2_with fail
      generalize (w2.alloc (.cells #[.int .i64 2, .int .i64 tn, .string s, .int .i64 ta] 80)) = W2 at *
      refine (ctext W2 P2.out hl (HT.out (by decide)) (HE.out.hts _ _ (HT.out (by decide)))).mono ?_
      rintro e w6 ⟨f, A, m, c, er, rfl, k6, hp6⟩
      have X6 := X2.kept k6 ne2
      have K6 := K2.trans k6
      rw [← EO.out] at hp6
      have HP := Lib.hid hp6
      have lt6 := X2.lt
      have lt7 := X6.lt
      clear hp6
      unfold nodeV
      obtain ⟨f0, f1, f2, f3, f4, f5, f6, f7, f8, f9, z0, z1, z2, z3, z4, z5, z6, z7, z8, z9⟩ := (X6).cells
      go_wp2_with fail
      refine bodyPost_ret (v := .tuple #[.agg #[.int .i64 f.k, .int .i64 f.vk, .int .i64 f.vn, .string f.vs, .int .i64 f.r1, .int .i64 f.r2, .int .i64 f.r3, .int .i64 f.r4, .string f.op, .slice A m c], er]) (by simp [results, Tryz.results140, go_sem, f0, f1, f2, f3, f4, f5, f6, f7, f8, f9]) rfl (CPost.on (f := f) (A := A) (m := m) (c := c) (b := w.heap.size) HP.out K6 (by omega) lt6 (Nat.le_refl _) hxw ?_)
      repeat (first | with_reducible exact Kept.refl _ _ | with_reducible refine Kept.setCell ?_ _ _ | with_reducible refine Kept.alloc ?_ _)
    · have b2 : (tk == 2) = false := beq_eq_false_iff_ne.2 h2
      by_cases h3 : tk = 3
      · subst h3
        have EN : Hid (partF l en L into k = nameF l en L into ⟨3, tn, s, ta⟩ k) := Lib.hid (by rw [HO.out, if_neg h1, if_neg h2, if_pos rfl])
        clear h1 b1 h2 b2
        go_enter Tryz.func140, Tryz.ntmps140
        go_wp2_with fail
        generalize (w.alloc (.cells #[.int .i64 0, .int .i64 0, .int .i64 0, .string { data := #[] }, .int .i64 0, .int .i64 0, .int .i64 0, .int .i64 0, .string { data := #[] }, .slice none 0 0] 30)) = W1 at *
        refine (cahead0 W1 P1.out hl).mono ?_; rintro e w2 ⟨rfl, hb2⟩
        rw [HV.out]
        have k2 : Kept x W1 w2 := Kept.of hb2
        have K2 := (K1.trans k2).alloc (.cells #[.int .i64 3, .int .i64 tn, .string s, .int .i64 ta] 80)
        have X2a := (X1.kept k2 ne2)
        have lt2 := X2a.lt
        have hx2 : x < w2.heap.size := by omega
        have X2 := X2a.kept ((Kept.refl x w2).alloc (.cells #[.int .i64 3, .int .i64 tn, .string s, .int .i64 ta] 80)) ne2
        have P2 := Lib.hid ((P1.out.below hb2).alloc (.cells #[.int .i64 3, .int .i64 tn, .string s, .int .i64 ta] 80))
        have T2 : TBox (w2.alloc (.cells #[.int .i64 3, .int .i64 tn, .string s, .int .i64 ta] 80)) w2.heap.size 3 tn s ta := ⟨heap_alloc_new _ _⟩
        have nt1 : x ≠ w2.heap.size := by omega
        have nt2 : w2.heap.size ≠ x := by omega
        have nt3 : w.heap.size ≠ w2.heap.size := by omega
        have nt4 : w2.heap.size ≠ w.heap.size := by omega
        clear K1 X1 P1 hb2 k2 X2a
        go_wp2_with fail
        generalize (w2.alloc (.cells #[.int .i64 3, .int .i64 tn, .string s, .int .i64 ta] 80)) = W2 at *
        refine (cisCall W2 P2.out hl).mono ?_; rintro e w3 ⟨rfl, hb3⟩
        have k3 : Kept x W2 w3 := Kept.of hb3
        have X3 := X2.kept k3 ne2
        have K3 := K2.trans k3
        have P3 := Lib.hid (P2.out.below hb3)
        clear X2 K2 P2 T2 k3 hb3
        cases hs : isSign l (k + 1) [40] with
        | true =>
          have EO := Lib.hid (EN.out.trans (name_call hs))
          go_wp2_with fail
          refine (ccall w3 P3.out hl HE.out.hn0 HE.out.hn1 HE.out.hi HE.out.hc (HT.out (by decide)) (HE.out.hts _ _ (HT.out (by decide))) hs).mono ?_
          rintro e w6 ⟨f, A, m, c, er, rfl, k6, hp6⟩
          have X6 := X3.kept k6 ne2
          have K6 := K3.trans k6
          rw [← EO.out] at hp6
          have HP := Lib.hid hp6
          have lt6 := X3.lt
          have lt7 := X6.lt
          clear hp6
          unfold nodeV
          obtain ⟨f0, f1, f2, f3, f4, f5, f6, f7, f8, f9, z0, z1, z2, z3, z4, z5, z6, z7, z8, z9⟩ := (X6).cells
          go_wp2_with fail
          refine bodyPost_ret (v := .tuple #[.agg #[.int .i64 f.k, .int .i64 f.vk, .int .i64 f.vn, .string f.vs, .int .i64 f.r1, .int .i64 f.r2, .int .i64 f.r3, .int .i64 f.r4, .string f.op, .slice A m c], er]) (by simp [results, Tryz.results140, go_sem, f0, f1, f2, f3, f4, f5, f6, f7, f8, f9]) rfl (CPost.on (f := f) (A := A) (m := m) (c := c) (b := w.heap.size) HP.out K6 (by omega) lt6 (Nat.le_refl _) hxw ?_)
          repeat (first | with_reducible exact Kept.refl _ _ | with_reducible refine Kept.setCell ?_ _ _ | with_reducible refine Kept.alloc ?_ _)
        | false =>
          have EO := Lib.hid (EN.out.trans (name_named (HT.out (by decide)) rfl hs))
          go_wp2_with fail
          refine (cnamed w3 P3.out hl HE.out.hts (HT.out (by decide))).mono ?_
          rintro e w6 ⟨f, A, m, c, er, rfl, k6, hp6⟩
          have X6 := X3.kept k6 ne2
          have K6 := K3.trans k6
          rw [← EO.out] at hp6
          have HP := Lib.hid hp6
          have lt6 := X3.lt
          have lt7 := X6.lt
          clear hp6
          unfold nodeV
          obtain ⟨f0, f1, f2, f3, f4, f5, f6, f7, f8, f9, z0, z1, z2, z3, z4, z5, z6, z7, z8, z9⟩ := (X6).cells
          go_wp2_with fail
          refine bodyPost_ret (v := .tuple #[.agg #[.int .i64 f.k, .int .i64 f.vk, .int .i64 f.vn, .string f.vs, .int .i64 f.r1, .int .i64 f.r2, .int .i64 f.r3, .int .i64 f.r4, .string f.op, .slice A m c], er]) (by simp [results, Tryz.results140, go_sem, f0, f1, f2, f3, f4, f5, f6, f7, f8, f9]) rfl (CPost.on (f := f) (A := A) (m := m) (c := c) (b := w.heap.size) HP.out K6 (by omega) lt6 (Nat.le_refl _) hxw ?_)
          repeat (first | with_reducible exact Kept.refl _ _ | with_reducible refine Kept.setCell ?_ _ _ | with_reducible refine Kept.alloc ?_ _)
      · have b3 : (tk == 3) = false := beq_eq_false_iff_ne.2 h3
        have EN : Hid (partF l en L into k = if isSign l k [40] then parenF l en L into (k + 1) else .error (badAt l en k)) := Lib.hid (by rw [HO.out, if_neg h1, if_neg h2, if_neg h3])
        clear h1 h2 h3
        go_enter Tryz.func140, Tryz.ntmps140
        go_wp2_with fail
        generalize (w.alloc (.cells #[.int .i64 0, .int .i64 0, .int .i64 0, .string { data := #[] }, .int .i64 0, .int .i64 0, .int .i64 0, .int .i64 0, .string { data := #[] }, .slice none 0 0] 30)) = W1 at *
        refine (cahead0 W1 P1.out hl).mono ?_; rintro e w2 ⟨rfl, hb2⟩
        rw [HV.out]
        have k2 : Kept x W1 w2 := Kept.of hb2
        have K2 := (K1.trans k2).alloc (.cells #[.int .i64 tk, .int .i64 tn, .string s, .int .i64 ta] 80)
        have X2a := (X1.kept k2 ne2)
        have lt2 := X2a.lt
        have hx2 : x < w2.heap.size := by omega
        have X2 := X2a.kept ((Kept.refl x w2).alloc (.cells #[.int .i64 tk, .int .i64 tn, .string s, .int .i64 ta] 80)) ne2
        have P2 := Lib.hid ((P1.out.below hb2).alloc (.cells #[.int .i64 tk, .int .i64 tn, .string s, .int .i64 ta] 80))
        have T2 : TBox (w2.alloc (.cells #[.int .i64 tk, .int .i64 tn, .string s, .int .i64 ta] 80)) w2.heap.size tk tn s ta := ⟨heap_alloc_new _ _⟩
        have nt1 : x ≠ w2.heap.size := by omega
        have nt2 : w2.heap.size ≠ x := by omega
        have nt3 : w.heap.size ≠ w2.heap.size := by omega
        have nt4 : w2.heap.size ≠ w.heap.size := by omega
        clear K1 X1 P1 hb2 k2 X2a
        go_wp2_with fail
        generalize (w2.alloc (.cells #[.int .i64 tk, .int .i64 tn, .string s, .int .i64 ta] 80)) = W2 at *
        rw [B40.out]
        refine (cseesSign [40] W2 P2.out hl).mono ?_; rintro e w3 ⟨rfl, hb3⟩
        have k3 : Kept x W2 w3 := Kept.of hb3
        have X3 := X2.kept k3 ne2
        have K3 := K2.trans k3
        have P3 := Lib.hid (P2.out.below hb3)
        clear X2 K2 P2 T2 k3 hb3
        cases hs : isSign l k [40] with
        | true =>
          have EO := Lib.hid ((EN.out.trans (if_pos hs)).trans (paren_in HE.out.hi))
          have hlt := sign_lt hs
          go_wp2_with fail
          refine (ctake w3 P3.out hlt).mono ?_; rintro e w4 ⟨rfl, P4, k4⟩
          have X4 := X3.kept k4 ne2
          have K4 := K3.trans k4
          clear X3 K3 P3 k4
          go_wp2_with fail
          refine (cnested 59 #[.pointer (some ⟨x, 0, none⟩)] w4 P4.lt).mono ?_; rintro e w5 ⟨b1, b2, rfl, hb5, hc1, hc2, hx1, hx2, hs1, hs2⟩
          have k5 : Kept x w4 w5 := Kept.of hb5
          have X5 := X4.kept k5 ne2
          have K5 := K4.trans k5
          have P5 := Lib.hid (P4.below hb5)
          have nx1 : b1 ≠ x := by omega
          have nx2 : b2 ≠ x := by omega
          have HC1 := Lib.hid hc1
          have HC2 := Lib.hid hc2
          clear X4 K4 P4 hb5 k5 hc1 hc2
          have eg1 : ∀ args w, (callFunc 141 args).run Tryz.prog w = .ok (.enter 141 args) w := enters_of Tryz.func141 (by kernel_rfl) rfl
          have eg2 : ∀ args w, (callFunc 59 args).run Tryz.prog w = .ok (.enter 59 args) w := enters_of Tryz.func59 (by kernel_rfl) rfl
          have HEG1 := Lib.hid eg1
          have HEG2 := Lib.hid eg2
          clear eg1 eg2
          go_wp2_with fail
          refine (cclosed (F := fun k => if nest < 40 then L.fm k else .error deepE) HEG1.out w5 P5.out hl (fun w' hk hp => cnested1 (F := L.fm) HEG2.out w' hp HE.out.hn0 HE.out.hn1 (hk.cell nx1 HC1.out) (hk.cell nx2 HC2.out) nx1 nx2 (fun hin w2 hk2 hp2 => (HE.out.hc hin).fm _ w2 hp2))).mono ?_
          rintro e w6 ⟨f, A, m, c, er, rfl, k6, hp6⟩
          have X6 := X5.kept k6 ne2
          have K6 := K5.trans k6
          rw [← EO.out] at hp6
          have HP := Lib.hid hp6
          have lt6 := X5.lt
          have lt7 := X6.lt
          clear hp6
          unfold nodeV
          obtain ⟨f0, f1, f2, f3, f4, f5, f6, f7, f8, f9, z0, z1, z2, z3, z4, z5, z6, z7, z8, z9⟩ := (X6).cells
          go_wp2_with fail
          refine bodyPost_ret (v := .tuple #[.agg #[.int .i64 f.k, .int .i64 f.vk, .int .i64 f.vn, .string f.vs, .int .i64 f.r1, .int .i64 f.r2, .int .i64 f.r3, .int .i64 f.r4, .string f.op, .slice A m c], er]) (by simp [results, Tryz.results140, go_sem, f0, f1, f2, f3, f4, f5, f6, f7, f8, f9]) rfl (CPost.on (f := f) (A := A) (m := m) (c := c) (b := w.heap.size) HP.out K6 (by omega) lt6 (Nat.le_refl _) hxw ?_)
          repeat (first | with_reducible exact Kept.refl _ _ | with_reducible refine Kept.setCell ?_ _ _ | with_reducible refine Kept.alloc ?_ _)
        | false =>
          have EO := Lib.hid (EN.out.trans (if_neg (by rw [hs]; exact Bool.false_ne_true)))
          go_wp2_with fail
          refine (cmisplaced w3 P3.out hl).mono ?_; rintro e w4 ⟨rfl, q, rfl⟩
          have X4 := X3.kept ((Kept.refl x w3).drew q) ne2
          obtain ⟨f0, f1, f2, f3, f4, f5, f6, f7, f8, f9, z0, z1, z2, z3, z4, z5, z6, z7, z8, z9⟩ := (X4).cells
          go_wp2_with fail
          refine bodyPost_ret (v := .tuple #[.agg #[.int .i64 0, .int .i64 0, .int .i64 0, .string { data := #[] }, .int .i64 0, .int .i64 0, .int .i64 0, .int .i64 0, .string { data := #[] }, .slice none 0 0], errV (badAt l en k)]) (by simp [results, Tryz.results140, go_sem, f0, f1, f2, f3, f4, f5, f6, f7, f8, f9]) rfl (CPost.err (f := fld0) (A := none) (m := 0) (c := 0) (b := w.heap.size) (V := w3.drewN q) EO.out (isBad_at _ _ _) (K3.drew q) (P3.out.drew q) (Nat.le_refl _) hxw ?_)
          repeat (first | with_reducible exact Kept.refl _ _ | with_reducible refine Kept.setCell ?_ _ _ | with_reducible refine Kept.alloc ?_ _)
end Go.Proofs.YtccigjelbnjcoaaGreatDoor.TreeC
namespace Go.Proofs.YtccigjelbnjcoaaGreatDoor.TreeC
set_option linter.unusedVariables false
open Go.RowKit Go.Proofs.YtccigjelbnjcoaaGreatDoor.NumC Go.Proofs.YtccigjelbnjcoaaGreatDoor.LexC
theorem Pc.drew1 {w : World} {x k : Nat} {l : List Tok} {en nest : Int} (h : Pc w x l en k nest) : Pc w.drew x l en k nest := ⟨h.le, fun w2 hb => h.lib w2 ⟨hb.os, hb.tape, hb.output, hb.size, hb.block⟩, h.ex⟩
theorem NLoc.drew2 {w : World} {b n c : Nat} {f : Fld} {A : Option Addr} (h : NLoc w b f A n c) : NLoc w.drew b f A n c := ⟨h.at_⟩
theorem Kept.drew2 {x : Nat} {a w : World} (h : Kept x a w) : Kept x a w.drew := ⟨h.os, h.tape, h.output, h.size, h.block⟩
theorem neg_fin {P : Nat → Prop} {x b k' n c pb : Nat} {l : List Tok} {en nest : Int} {f : Fld} {A : Option Addr} {ka : Fo} {o : Out} {w V W : World} (ho : o = .ok (negN ⟨f, ka⟩, k')) (hK : Kept x w V) (hP : Pc V x l en k' nest)
    (hn : ka.len = n) (hA : KidsAt V (fun g => P g ∧ g ≠ b) ka A) (hpb : P pb ∧ pb ≠ b) (hb : w.heap.size ≤ b) (hx : x < w.heap.size) (hk : Kept b V W)
    (hr : W.heap[pb]? = some (.cells (nodeV f A n c).cells 30 (0, 0))) :
    CPostP P x l en nest o w (.returned (.tuple #[nodeV (negN ⟨f, ka⟩).f (some ⟨pb, 0, none⟩) 1 1, .nilIface])) W := by
  have hA' := hA.keep (Q := fun g => P g ∧ g ≠ b) hk (fun g hg _ => ⟨hg.2, hg⟩)
  refine CPost.ok (b := b) (V := W) (kd := Nd.one ⟨f, ka⟩) ho (hK.then_ hk hb) (hP.kept hk (by omega)) rfl (Or.inr ⟨pb, 0, rfl, rowAt_block hpb (vs := [nodeV f A n c]) ⟨⟨A, c, by rw [hn], hA'⟩, trivial⟩ hr ?_⟩) hb hx (Kept.refl _ _)
  rfl
set_option maxRecDepth 100000 in
set_option maxHeartbeats 4000000 in
theorem cunary {x k : Nat} {l : List Tok} {en nest : Int} {L : Lev} {into : Bool} (E : Env x l en nest L into) (w : World) (h : Pc w x l en k nest) :
    Calls Tryz.prog 129 #[.pointer (some ⟨x, 0, none⟩)] w (CPost w.heap.size x l en nest (unaryF l en L into k) w) := by
  have hxw := h.lt
  have HI := Lib.hid h
  clear h
  have HE := Lib.hid E
  have hl := E.hl
  clear E
  have ne1 : x ≠ w.heap.size := by omega
  have ne2 : w.heap.size ≠ x := by omega
  have K1 : Kept x w (w.alloc (.cells #[.int .i64 0, .int .i64 0, .int .i64 0, .string { data := #[] }, .int .i64 0, .int .i64 0, .int .i64 0, .int .i64 0, .string { data := #[] }, .slice none 0 0] 30)) := (Kept.refl x w).alloc _
  have X1 := NBox.new w
  have P1 := Lib.hid (HI.out.alloc (.cells #[.int .i64 0, .int .i64 0, .int .i64 0, .string { data := #[] }, .int .i64 0, .int .i64 0, .int .i64 0, .int .i64 0, .string { data := #[] }, .slice none 0 0] 30))
  clear HI
  have B45 : Hid (({ data := #[45] } : ByteArray) = str [45]) := Lib.hid rfl
  have egu : ∀ args w, (callFunc 129 args).run Tryz.prog w = .ok (.enter 129 args) w := enters_of Tryz.func129 (by kernel_rfl) rfl
  have HEGu := Lib.hid egu
  clear egu
  go_enter Tryz.func129, Tryz.ntmps129
  go_wp2_with fail
  generalize (w.alloc (.cells #[.int .i64 0, .int .i64 0, .int .i64 0, .string { data := #[] }, .int .i64 0, .int .i64 0, .int .i64 0, .int .i64 0, .string { data := #[] }, .slice none 0 0] 30)) = W1 at *
  rw [B45.out]
  refine (cseesSign [45] W1 P1.out hl).mono ?_; rintro e w2 ⟨rfl, hb2⟩
  have k2 : Kept x W1 w2 := Kept.of hb2
  have K2 := K1.trans k2
  have X2 := X1.kept k2 ne2
  have P2 := Lib.hid (P1.out.below hb2)
  clear K1 X1 P1 hb2 k2
  cases hs : isSign l k [45] with
  | false =>
    have EO : Hid (unaryF l en L into k = partF l en L into k) := Lib.hid (unary_no hs)
    go_wp2_with fail
    refine (cpart HE.out w2 P2.out).mono ?_
    rintro e w6 ⟨f, A, m, c, er, rfl, k6, hp6⟩
    have X6 := X2.kept k6 ne2
    have K6 := K2.trans k6
    rw [← EO.out] at hp6
    have HP := Lib.hid hp6
    have lt6 := X2.lt
    have lt7 := X6.lt
    clear hp6
    unfold nodeV
    obtain ⟨f0, f1, f2, f3, f4, f5, f6, f7, f8, f9, z0, z1, z2, z3, z4, z5, z6, z7, z8, z9⟩ := (X6).cells
    go_wp2_with fail
    refine bodyPost_ret (v := .tuple #[.agg #[.int .i64 f.k, .int .i64 f.vk, .int .i64 f.vn, .string f.vs, .int .i64 f.r1, .int .i64 f.r2, .int .i64 f.r3, .int .i64 f.r4, .string f.op, .slice A m c], er]) (by simp [results, Tryz.results129, go_sem, f0, f1, f2, f3, f4, f5, f6, f7, f8, f9]) rfl (CPost.on (f := f) (A := A) (m := m) (c := c) (b := w.heap.size) HP.out K6 (by omega) lt6 (Nat.le_refl _) hxw ?_)
    repeat (first | with_reducible exact Kept.refl _ _ | with_reducible refine Kept.setCell ?_ _ _ | with_reducible refine Kept.alloc ?_ _)
  | true =>
    have hlt := sign_lt hs
    go_wp2_with fail
    refine (ctake w2 P2.out hlt).mono ?_; rintro e w4 ⟨rfl, P4, k4⟩
    have X4 := X2.kept k4 ne2
    have K4 := K2.trans k4
    clear X2 K2 P2 k4
    go_wp2_with fail
    refine (cnested 129 #[.pointer (some ⟨x, 0, none⟩)] w4 P4.lt).mono ?_; rintro e w5 ⟨b1, b2, rfl, hb5, hc1, hc2, hx1, hx2, hs1, hs2⟩
    have k5 : Kept x w4 w5 := Kept.of hb5
    have X5 := X4.kept k5 ne2
    have K5 := K4.trans k5
    have P5 := P4.below hb5
    clear X4 K4 P4 hb5 k5
    go_wp2_with fail
    refine (cnested1 (F := L.un) HEGu.out w5 P5 HE.out.hn0 HE.out.hn1 hc1 hc2 (by omega) (by omega) (fun hin w2 hk2 hp2 => (HE.out.hc hin).un _ w2 hp2)).mono ?_
    clear hc1 hc2 hx1 hx2 hs1 hs2
    rintro e w6 ⟨f, A, m, c, er, rfl, k6, hp6⟩
    have X6 := X5.kept k6 ne2
    have K6 := K5.trans k6
    have lt5 := X5.lt
    have lt3 := X6.lt
    have hx6 : x < w6.heap.size := by omega
    have na1 : x ≠ w6.heap.size := by omega
    have na2 : w6.heap.size ≠ x := by omega
    have na4 : w.heap.size ≠ w6.heap.size := by omega
    have na5 : w6.heap.size ≠ w.heap.size := by omega
    clear X5 K5 P5 k6
    unfold nodeV
    obtain ⟨f0, f1, f2, f3, f4, f5, f6, f7, f8, f9, z0, z1, z2, z3, z4, z5, z6, z7, z8, z9⟩ := (X6).cells
    rcases hp6 with ⟨kd, k', ho, rfl, hn, hA, hP⟩ | ⟨bad, k', ho, hi, rfl, hP⟩
    · have hin : nest < 40 := by
        by_cases h : nest < 40
        · exact h
        · rw [if_neg h] at ho; cases ho
      rw [if_pos hin] at ho
      have EO := Lib.hid (unary_ok (l := l) (n := en) (L := L) (into := into) hs (by rw [HE.out.hi]; exact decide_eq_true hin) ho)
      clear ho
      go_wp2_with fail
      refine bodyPost_ret (v := .tuple #[.agg #[.int .i64 4, .int .i64 0, .int .i64 0, .string { data := #[] }, .int .i64 0, .int .i64 0, .int .i64 0, .int .i64 0, .string { data := #[] }, .slice (some ⟨w6.heap.size + 1, 0, none⟩) 1 1], .nilIface]) (by simp [results, Tryz.results129, go_sem, f0, f1, f2, f3, f4, f5, f6, f7, f8, f9, lt3]) rfl (neg_fin (c := c) (b := w.heap.size) EO.out K6 hP hn (hA.keep (Q := fun g => w.heap.size ≤ g ∧ g ≠ w.heap.size) (Kept.refl w6.heap.size w6) (fun g hg hl => ⟨by omega, by omega, by omega⟩)) ⟨by omega, by omega⟩ (Nat.le_refl _) hxw ?_ (by rw [row_at2 _ _ _ (show _ = w6.heap.size by simp)]; rfl))
      repeat (first | with_reducible exact Kept.refl _ _ | with_reducible refine Kept.setCell ?_ _ _ | with_reducible refine Kept.alloc ?_ _)
    · obtain ⟨T, u, hT⟩ := errV_some bad
      have EO : Hid (unaryF l en L into k = .error bad) := by
        by_cases hin : nest < 40
        · rw [if_pos hin] at ho
          exact Lib.hid (unary_err hs (by rw [HE.out.hi]; exact decide_eq_true hin) ho)
        · rw [if_neg hin] at ho
          injection ho with ho
          subst ho
          exact Lib.hid (unary_deep hs (by rw [HE.out.hi]; exact decide_eq_false hin))
      clear ho
      rw [hT]
      go_wp2_with fail
      refine bodyPost_ret (v := .tuple #[.agg #[.int .i64 0, .int .i64 0, .int .i64 0, .string { data := #[] }, .int .i64 0, .int .i64 0, .int .i64 0, .int .i64 0, .string { data := #[] }, .slice none 0 0], .iface T u]) (by simp [results, Tryz.results129, go_sem, f0, f1, f2, f3, f4, f5, f6, f7, f8, f9, lt3]) rfl (hT ▸ CPost.err (f := fld0) (A := none) (m := 0) (c := 0) (b := w.heap.size) (V := w6) EO.out hi K6 hP (Nat.le_refl _) hxw ?_)
      repeat (first | with_reducible exact Kept.refl _ _ | with_reducible refine Kept.setCell ?_ _ _ | with_reducible refine Kept.alloc ?_ _)
set_option maxRecDepth 100000 in
set_option maxHeartbeats 4000000 in
theorem cpower {x k : Nat} {l : List Tok} {en nest : Int} {L : Lev} {into : Bool} (E : Env x l en nest L into) (w : World) (h : Pc w x l en k nest) :
    Calls Tryz.prog 119 #[.pointer (some ⟨x, 0, none⟩)] w (CPost w.heap.size x l en nest (powerF l en L into k) w) := by
  have hxw := h.lt
  have HI := Lib.hid h
  clear h
  have HE := Lib.hid E
  have hl := E.hl
  clear E
  have ne1 : x ≠ w.heap.size := by omega
  have ne2 : w.heap.size ≠ x := by omega
  have K1 : Kept x w (w.alloc (.cells #[.int .i64 0, .int .i64 0, .int .i64 0, .string { data := #[] }, .int .i64 0, .int .i64 0, .int .i64 0, .int .i64 0, .string { data := #[] }, .slice none 0 0] 30)) := (Kept.refl x w).alloc _
  have X1 := NBox.new w
  have P1 := Lib.hid (HI.out.alloc (.cells #[.int .i64 0, .int .i64 0, .int .i64 0, .string { data := #[] }, .int .i64 0, .int .i64 0, .int .i64 0, .int .i64 0, .string { data := #[] }, .slice none 0 0] 30))
  clear HI
  have egn : ∀ args w, (callFunc 141 args).run Tryz.prog w = .ok (.enter 141 args) w := enters_of Tryz.func141 (by kernel_rfl) rfl
  have HEGn := Lib.hid egn
  clear egn
  have egp : ∀ args w, (callFunc 119 args).run Tryz.prog w = .ok (.enter 119 args) w := enters_of Tryz.func119 (by kernel_rfl) rfl
  have HEGp := Lib.hid egp
  clear egp
  go_enter Tryz.func119, Tryz.ntmps119
  go_wp2_with fail
  generalize (w.alloc (.cells #[.int .i64 0, .int .i64 0, .int .i64 0, .string { data := #[] }, .int .i64 0, .int .i64 0, .int .i64 0, .int .i64 0, .string { data := #[] }, .slice none 0 0] 30)) = W1 at *
  refine (cunary HE.out W1 P1.out).mono ?_
  have lt1 := X1.lt
  rintro e w3 ⟨f, A, m, c, er, rfl, k3, hp3⟩
  have X3 := X1.kept k3 ne2
  have K3 := K1.trans k3
  have lt3 := X3.lt
  have hx3 : x < w3.heap.size := by have := k3.size; omega
  have na1 : x ≠ w3.heap.size := by omega
  have na2 : w3.heap.size ≠ x := by omega
  have na4 : w.heap.size ≠ w3.heap.size := by omega
  have na5 : w3.heap.size ≠ w.heap.size := by omega
  clear K1 X1 P1 k3
  unfold nodeV
  rcases hp3 with ⟨kd, k', ho, rfl, hn, hA, hP⟩ | ⟨bad, k2, ho, hi, rfl, hP⟩
  · have HO := Lib.hid ho
    clear ho
    have L4 : NLoc (w3.alloc (.cells #[.int .i64 f.k, .int .i64 f.vk, .int .i64 f.vn, .string f.vs, .int .i64 f.r1, .int .i64 f.r2, .int .i64 f.r3, .int .i64 f.r4, .string f.op, .slice A m c] 30)) w3.heap.size f A m c := ⟨heap_alloc_new _ _⟩
    have X4 := X3.kept ((Kept.refl x w3).alloc (.cells #[.int .i64 f.k, .int .i64 f.vk, .int .i64 f.vn, .string f.vs, .int .i64 f.r1, .int .i64 f.r2, .int .i64 f.r3, .int .i64 f.r4, .string f.op, .slice A m c] 30)) ne2
    have K4 := K3.alloc (.cells #[.int .i64 f.k, .int .i64 f.vk, .int .i64 f.vn, .string f.vs, .int .i64 f.r1, .int .i64 f.r2, .int .i64 f.r3, .int .i64 f.r4, .string f.op, .slice A m c] 30)
    have P4 := Lib.hid (hP.alloc (.cells #[.int .i64 f.k, .int .i64 f.vk, .int .i64 f.vn, .string f.vs, .int .i64 f.r1, .int .i64 f.r2, .int .i64 f.r3, .int .i64 f.r4, .string f.op, .slice A m c] 30))
    have A4 := hA.keep (Q := fun g => w.heap.size < g ∧ g ≠ w3.heap.size) ((Kept.refl x w3).alloc (.cells #[.int .i64 f.k, .int .i64 f.vk, .int .i64 f.vn, .string f.vs, .int .i64 f.r1, .int .i64 f.r2, .int .i64 f.r3, .int .i64 f.r4, .string f.op, .slice A m c] 30)) (fun g hg hl => ⟨by omega, by omega, by omega⟩)
    clear hP hA X3 K3
    go_wp2_with fail
    generalize (w3.alloc (.cells #[.int .i64 f.k, .int .i64 f.vk, .int .i64 f.vn, .string f.vs, .int .i64 f.r1, .int .i64 f.r2, .int .i64 f.r3, .int .i64 f.r4, .string f.op, .slice A m c] 30)) = V at *
    refine (csees_isPower V P4.out hl).mono ?_; rintro e w5 ⟨rfl, hb5⟩
    rw [one_pow]
    have k5 : Kept x V w5 := Kept.of hb5
    have X5 := X4.kept k5 ne2
    have K5 := K4.trans k5
    have P5 := Lib.hid (P4.out.below hb5)
    have L5 := L4.kept k5 na2
    have A5 := A4.keep (Q := fun g => w.heap.size < g ∧ g ≠ w3.heap.size) k5 (fun g hg hl => ⟨by omega, hg⟩)
    have s5 := L5.lt
    have t5 := X5.lt
    clear X4 K4 P4 L4 A4 hb5 k5
    cases hs : isSign l k' [94] with
    | false =>
      have EO := Lib.hid (power_one HO.out hs)
      obtain ⟨d0, d1, d2, d3, d4, d5, d6, d7, d8, d9, dz0, dz1, dz2, dz3, dz4, dz5, dz6, dz7, dz8, dz9⟩ := (L5).cells
      obtain ⟨f0, f1, f2, f3, f4, f5, f6, f7, f8, f9, z0, z1, z2, z3, z4, z5, z6, z7, z8, z9⟩ := (X5).cells
      go_wp2_with fail
      refine bodyPost_ret (v := .tuple #[.agg #[.int .i64 f.k, .int .i64 f.vk, .int .i64 f.vn, .string f.vs, .int .i64 f.r1, .int .i64 f.r2, .int .i64 f.r3, .int .i64 f.r4, .string f.op, .slice A m c], .nilIface]) (by simp [results, Tryz.results119, go_sem, f0, f1, f2, f3, f4, f5, f6, f7, f8, f9]) rfl (CPost.ok (f := f) (A := A) (m := m) (c := c) (b := w.heap.size) (V := w5) EO.out K5 P5.out hn (A5.keep (Q := fun g => w.heap.size ≤ g ∧ g ≠ w.heap.size) (Kept.refl w5.heap.size w5) (fun g hg hl => ⟨by omega, by omega, by omega⟩)) (Nat.le_refl _) hxw ?_)
      repeat (first | with_reducible exact Kept.refl _ _ | with_reducible refine Kept.setCell ?_ _ _ | with_reducible refine Kept.alloc ?_ _)
    | true =>
      obtain ⟨t, ht, hop⟩ : ∃ t, l[k']? = some t ∧ t.s = str [94] := by
        unfold isSign at hs
        split at hs
        · rename_i t ht; simp only [Bool.and_eq_true, decide_eq_true_eq] at hs; exact ⟨t, ht, hs.2⟩
        · cases hs
      have HT := Lib.hid ht
      have HS := Lib.hid hs
      have P6 := Lib.hid P5.out.drew1
      have L6 := L5.drew2
      have X6 := X5.kept ((Kept.refl x w5).drew 1) ne2
      have K6 := Lib.hid K5.drew2
      have A6 := A5.keep (Q := fun g => w.heap.size < g ∧ g ≠ w3.heap.size) ((Kept.refl x w5).drew2) (fun g hg hl => ⟨by omega, hg⟩)
      have s6 : w3.heap.size < w5.drew.heap.size := s5
      have hx6 : x < w5.drew.heap.size := P6.out.lt
      have HA6 := Lib.hid A6
      have HX6 : Hid (NBox w5.drew w.heap.size) := Lib.hid X6
      have HN := Lib.hid hn
      clear ht hs P5 K5 A5 A6 X5 X6 hn
      go_wp2_with fail
      obtain ⟨a0, a1, a2, a3, a4, a5, a6, a7, a8, a9, az0, az1, az2, az3, az4, az5, az6, az7, az8, az9⟩ := (L6).cells
      clear az0 az1 az2 az3 az4 az5 az6 az7 az8 az9
      clear L5
      go_region_with (first | (go_at_call 130; refine (cnested 119 #[.pointer (some ⟨x, 0, none⟩)] w5.drew hx6).mono ?_; rintro e w7 ⟨b1, b2, rfl, hb7, hc1, hc2, hx1, hx2, hs1, hs2⟩; have L7 := L6.kept (Kept.of (x := x) hb7) na2; obtain ⟨e0, e1, e2, e3, e4, e5, e6, e7, e8, e9, ez0, ez1, ez2, ez3, ez4, ez5, ez6, ez7, ez8, ez9⟩ := (L7).cells; clear ez0 ez1 ez2 ez3 ez4 ez5 ez6 ez7 ez8 ez9) | (go_at_call 81; refine (cbinary (P := fun g => w.heap.size < g ∧ g ≠ w3.heap.size) (F := fun k => if nest < 40 then L.pw k else .error deepE) (op := [94]) (f := f) (A := A) (m := m) (c := c) (kd := kd) (pre := #[]) (post := #[.pointer (some ⟨b1, 0, none⟩), .pointer (some ⟨b2, 0, none⟩)]) HEGn.out w7 (P6.out.below hb7) hl HT.out hop (HA6.out.keep (Kept.of (x := x) hb7) (fun g hg hl => ⟨by omega, hg⟩)) HN.out (fun g hg => by omega) (fun w' hk hp => cnested1 (F := L.pw) HEGp.out w' hp HE.out.hn0 HE.out.hn1 (hk.cell (by omega) hc1) (hk.cell (by omega) hc2) (by omega) (by omega) (fun hin w2 hk2 hp2 => (HE.out.hc hin).pw _ w2 hp2))).mono ?_; rintro e w8 ⟨fw, A8, m8, c8, er8, rfl, k8, hp8⟩; have X8 := (HX6.out.kept (Kept.of (x := x) hb7) ne2).kept k8 ne2; obtain ⟨f0, f1, f2, f3, f4, f5, f6, f7, f8, f9, z0, z1, z2, z3, z4, z5, z6, z7, z8, z9⟩ := (X8).cells; unfold nodeV))
      all_goals
        have K8 : Kept x w w8 := (K6.out.trans (Kept.of hb7)).trans k8
        have l7 : w3.heap.size < w7.heap.size := L7.lt
        have EO : Hid (powerF l en L into k = binF [94] ⟨f, kd⟩ (if nest < 40 then L.pw (k' + 1) else .error deepE)) := by
          by_cases hin : nest < 40
          · rw [if_pos hin]
            cases hq : L.pw (k' + 1) with
            | error e => exact Lib.hid (power_bad HO.out HS.out (by rw [HE.out.hi]; exact decide_eq_true hin) hq)
            | ok q => exact Lib.hid (power_ok HO.out HS.out (by rw [HE.out.hi]; exact decide_eq_true hin) hq)
          · rw [if_neg hin]
            exact Lib.hid (power_deep HO.out HS.out (by rw [HE.out.hi]; exact decide_eq_false hin))
        go_wp2_with fail
        refine bodyPost_ret (v := .tuple #[.agg #[.int .i64 fw.k, .int .i64 fw.vk, .int .i64 fw.vn, .string fw.vs, .int .i64 fw.r1, .int .i64 fw.r2, .int .i64 fw.r3, .int .i64 fw.r4, .string fw.op, .slice A8 m8 c8], er8]) (by simp [results, Tryz.results119, go_sem, f0, f1, f2, f3, f4, f5, f6, f7, f8, f9]) rfl ?_
        rcases hp8 with ⟨kd2, k2, hq, rfl, hn2, hA2, hP2⟩ | ⟨bad, k2, hq, hi, rfl, hP2⟩
        · refine CPost.ok (f := fw) (kd := kd2) (A := A8) (m := m8) (c := c8) (b := w.heap.size) (V := w8) (EO.out.trans hq) K8 hP2 hn2 (hA2.keep (Q := fun g => w.heap.size ≤ g ∧ g ≠ w.heap.size) (Kept.refl w8.heap.size w8) (fun g hg hl => ⟨by omega, by omega, by omega⟩)) (Nat.le_refl _) hxw ?_
          repeat (first | with_reducible exact Kept.refl _ _ | with_reducible refine Kept.setCell ?_ _ _ | with_reducible refine Kept.alloc ?_ _)
        · refine CPost.err (f := fw) (A := A8) (m := m8) (c := c8) (b := w.heap.size) (V := w8) (EO.out.trans hq) hi K8 hP2 (Nat.le_refl _) hxw ?_
          repeat (first | with_reducible exact Kept.refl _ _ | with_reducible refine Kept.setCell ?_ _ _ | with_reducible refine Kept.alloc ?_ _)
  · obtain ⟨T, u, hT⟩ := errV_some bad
    have EO := Lib.hid (power_err ho)
    have P3 := Lib.hid hP
    clear ho hP
    rw [hT]
    obtain ⟨f0, f1, f2, f3, f4, f5, f6, f7, f8, f9, z0, z1, z2, z3, z4, z5, z6, z7, z8, z9⟩ := (X3).cells
    go_wp2_with fail
    refine bodyPost_ret (v := .tuple #[.agg #[.int .i64 f.k, .int .i64 f.vk, .int .i64 f.vn, .string f.vs, .int .i64 f.r1, .int .i64 f.r2, .int .i64 f.r3, .int .i64 f.r4, .string f.op, .slice A m c], .iface T u]) (by simp [results, Tryz.results119, go_sem, f0, f1, f2, f3, f4, f5, f6, f7, f8, f9, lt3]) rfl (hT ▸ CPost.err (f := f) (A := A) (m := m) (c := c) (b := w.heap.size) (V := w3) EO.out hi K3 P3.out (Nat.le_refl _) hxw ?_)
    repeat (first | with_reducible exact Kept.refl _ _ | with_reducible refine Kept.setCell ?_ _ _ | with_reducible refine Kept.alloc ?_ _)
end Go.Proofs.YtccigjelbnjcoaaGreatDoor.TreeC
namespace Go.Proofs.YtccigjelbnjcoaaGreatDoor.TreeC
set_option linter.unusedVariables false
open Go.RowKit Go.Proofs.YtccigjelbnjcoaaGreatDoor.NumC Go.Proofs.YtccigjelbnjcoaaGreatDoor.LexC
theorem product_rows (l : List Tok) (n : Int) (L : Lev) (into : Bool) (k : Nat) : productF l n L into k = rowsF l mulS (powerF l n L into) k := rfl
theorem sum_rows (l : List Tok) (n : Int) (L : Lev) (into : Bool) (k : Nat) : sumF l n L into k = rowsF l sumS (productF l n L into) k := rfl
set_option maxRecDepth 100000 in
set_option maxHeartbeats 4000000 in
theorem cproduct {x k : Nat} {l : List Tok} {en nest : Int} {L : Lev} {into : Bool} (E : Env x l en nest L into) (w : World) (h : Pc w x l en k nest) :
    Calls Tryz.prog 100 #[.pointer (some ⟨x, 0, none⟩)] w (CPost w.heap.size x l en nest (productF l en L into k) w) := by
  have hxw := h.lt
  have HI := Lib.hid h
  clear h
  have HE := Lib.hid E
  have hl := E.hl
  clear E
  have ne1 : x ≠ w.heap.size := by omega
  have ne2 : w.heap.size ≠ x := by omega
  have K1 : Kept x w (w.alloc (.cells #[.int .i64 0, .int .i64 0, .int .i64 0, .string { data := #[] }, .int .i64 0, .int .i64 0, .int .i64 0, .int .i64 0, .string { data := #[] }, .slice none 0 0] 30)) := (Kept.refl x w).alloc _
  have X1 := NBox.new w
  have P1 := Lib.hid (HI.out.alloc (.cells #[.int .i64 0, .int .i64 0, .int .i64 0, .string { data := #[] }, .int .i64 0, .int .i64 0, .int .i64 0, .int .i64 0, .string { data := #[] }, .slice none 0 0] 30))
  clear HI
  have egp : ∀ args w, (callFunc 119 args).run Tryz.prog w = .ok (.enter 119 args) w := enters_of Tryz.func119 (by kernel_rfl) rfl
  have HEGp := Lib.hid egp
  clear egp
  go_enter Tryz.func100, Tryz.ntmps100
  go_wp2_with fail
  generalize (w.alloc (.cells #[.int .i64 0, .int .i64 0, .int .i64 0, .string { data := #[] }, .int .i64 0, .int .i64 0, .int .i64 0, .int .i64 0, .string { data := #[] }, .slice none 0 0] 30)) = W1 at *
  refine (crow_isMultiplying (F := powerF l en L into) HEGp.out W1 P1.out hl (power_goes HE.out.hL) (fun k w' hk hp => cpower HE.out w' hp)).mono ?_
  rintro e w6 ⟨f, A, m, c, er, rfl, k6, hp6⟩
  have X6 := X1.kept k6 ne2
  have K6 := K1.trans k6
  rw [← product_rows] at hp6
  have HP := Lib.hid hp6
  have lt6 := X1.lt
  have lt7 := X6.lt
  clear hp6
  unfold nodeV
  obtain ⟨f0, f1, f2, f3, f4, f5, f6, f7, f8, f9, z0, z1, z2, z3, z4, z5, z6, z7, z8, z9⟩ := (X6).cells
  go_wp2_with fail
  refine bodyPost_ret (v := .tuple #[.agg #[.int .i64 f.k, .int .i64 f.vk, .int .i64 f.vn, .string f.vs, .int .i64 f.r1, .int .i64 f.r2, .int .i64 f.r3, .int .i64 f.r4, .string f.op, .slice A m c], er]) (by simp [results, Tryz.results100, go_sem, f0, f1, f2, f3, f4, f5, f6, f7, f8, f9]) rfl (CPost.on (f := f) (A := A) (m := m) (c := c) (b := w.heap.size) HP.out K6 (by omega) lt6 (Nat.le_refl _) hxw ?_)
  repeat (first | with_reducible exact Kept.refl _ _ | with_reducible refine Kept.setCell ?_ _ _ | with_reducible refine Kept.alloc ?_ _)
set_option maxRecDepth 100000 in
set_option maxHeartbeats 4000000 in
theorem csum {x k : Nat} {l : List Tok} {en nest : Int} {L : Lev} {into : Bool} (E : Env x l en nest L into) (w : World) (h : Pc w x l en k nest) :
    Calls Tryz.prog 78 #[.pointer (some ⟨x, 0, none⟩)] w (CPost w.heap.size x l en nest (sumF l en L into k) w) := by
  have hxw := h.lt
  have HI := Lib.hid h
  clear h
  have HE := Lib.hid E
  have hl := E.hl
  clear E
  have ne1 : x ≠ w.heap.size := by omega
  have ne2 : w.heap.size ≠ x := by omega
  have K1 : Kept x w (w.alloc (.cells #[.int .i64 0, .int .i64 0, .int .i64 0, .string { data := #[] }, .int .i64 0, .int .i64 0, .int .i64 0, .int .i64 0, .string { data := #[] }, .slice none 0 0] 30)) := (Kept.refl x w).alloc _
  have X1 := NBox.new w
  have P1 := Lib.hid (HI.out.alloc (.cells #[.int .i64 0, .int .i64 0, .int .i64 0, .string { data := #[] }, .int .i64 0, .int .i64 0, .int .i64 0, .int .i64 0, .string { data := #[] }, .slice none 0 0] 30))
  clear HI
  have egp : ∀ args w, (callFunc 100 args).run Tryz.prog w = .ok (.enter 100 args) w := enters_of Tryz.func100 (by kernel_rfl) rfl
  have HEGp := Lib.hid egp
  clear egp
  go_enter Tryz.func78, Tryz.ntmps78
  go_wp2_with fail
  generalize (w.alloc (.cells #[.int .i64 0, .int .i64 0, .int .i64 0, .string { data := #[] }, .int .i64 0, .int .i64 0, .int .i64 0, .int .i64 0, .string { data := #[] }, .slice none 0 0] 30)) = W1 at *
  refine (crow_isAdding (F := productF l en L into) HEGp.out W1 P1.out hl (product_goes HE.out.hL) (fun k w' hk hp => cproduct HE.out w' hp)).mono ?_
  rintro e w6 ⟨f, A, m, c, er, rfl, k6, hp6⟩
  have X6 := X1.kept k6 ne2
  have K6 := K1.trans k6
  rw [← sum_rows] at hp6
  have HP := Lib.hid hp6
  have lt6 := X1.lt
  have lt7 := X6.lt
  clear hp6
  unfold nodeV
  obtain ⟨f0, f1, f2, f3, f4, f5, f6, f7, f8, f9, z0, z1, z2, z3, z4, z5, z6, z7, z8, z9⟩ := (X6).cells
  go_wp2_with fail
  refine bodyPost_ret (v := .tuple #[.agg #[.int .i64 f.k, .int .i64 f.vk, .int .i64 f.vn, .string f.vs, .int .i64 f.r1, .int .i64 f.r2, .int .i64 f.r3, .int .i64 f.r4, .string f.op, .slice A m c], er]) (by simp [results, Tryz.results78, go_sem, f0, f1, f2, f3, f4, f5, f6, f7, f8, f9]) rfl (CPost.on (f := f) (A := A) (m := m) (c := c) (b := w.heap.size) HP.out K6 (by omega) lt6 (Nat.le_refl _) hxw ?_)
  repeat (first | with_reducible exact Kept.refl _ _ | with_reducible refine Kept.setCell ?_ _ _ | with_reducible refine Kept.alloc ?_ _)
set_option maxRecDepth 100000 in
set_option maxHeartbeats 4000000 in
theorem cformula {x k : Nat} {l : List Tok} {en nest : Int} {L : Lev} {into : Bool} (E : Env x l en nest L into) (w : World) (h : Pc w x l en k nest) :
    Calls Tryz.prog 59 #[.pointer (some ⟨x, 0, none⟩)] w (CPost w.heap.size x l en nest (formulaF l en L into k) w) := by
  have hxw := h.lt
  have HI := Lib.hid h
  clear h
  have HE := Lib.hid E
  have hl := E.hl
  clear E
  have ne1 : x ≠ w.heap.size := by omega
  have ne2 : w.heap.size ≠ x := by omega
  have K1 : Kept x w (w.alloc (.cells #[.int .i64 0, .int .i64 0, .int .i64 0, .string { data := #[] }, .int .i64 0, .int .i64 0, .int .i64 0, .int .i64 0, .string { data := #[] }, .slice none 0 0] 30)) := (Kept.refl x w).alloc _
  have X1 := NBox.new w
  have P1 := Lib.hid (HI.out.alloc (.cells #[.int .i64 0, .int .i64 0, .int .i64 0, .string { data := #[] }, .int .i64 0, .int .i64 0, .int .i64 0, .int .i64 0, .string { data := #[] }, .slice none 0 0] 30))
  clear HI
  have egp : ∀ args w, (callFunc 78 args).run Tryz.prog w = .ok (.enter 78 args) w := enters_of Tryz.func78 (by kernel_rfl) rfl
  have HEGp := Lib.hid egp
  clear egp
  go_enter Tryz.func59, Tryz.ntmps59
  go_wp2_with fail
  generalize (w.alloc (.cells #[.int .i64 0, .int .i64 0, .int .i64 0, .string { data := #[] }, .int .i64 0, .int .i64 0, .int .i64 0, .int .i64 0, .string { data := #[] }, .slice none 0 0] 30)) = W1 at *
  refine (csum HE.out W1 P1.out).mono ?_
  have lt1 := X1.lt
  rintro e w3 ⟨f, A, m, c, er, rfl, k3, hp3⟩
  have X3 := X1.kept k3 ne2
  have K3 := K1.trans k3
  have lt3 := X3.lt
  have hx3 : x < w3.heap.size := by have := k3.size; omega
  have na1 : x ≠ w3.heap.size := by omega
  have na2 : w3.heap.size ≠ x := by omega
  have na4 : w.heap.size ≠ w3.heap.size := by omega
  have na5 : w3.heap.size ≠ w.heap.size := by omega
  clear K1 X1 P1 k3
  unfold nodeV
  rcases hp3 with ⟨kd, k', ho, rfl, hn, hA, hP⟩ | ⟨bad, k2, ho, hi, rfl, hP⟩
  · have HO := Lib.hid ho
    clear ho
    have L4 : NLoc (w3.alloc (.cells #[.int .i64 f.k, .int .i64 f.vk, .int .i64 f.vn, .string f.vs, .int .i64 f.r1, .int .i64 f.r2, .int .i64 f.r3, .int .i64 f.r4, .string f.op, .slice A m c] 30)) w3.heap.size f A m c := ⟨heap_alloc_new _ _⟩
    have X4 := X3.kept ((Kept.refl x w3).alloc (.cells #[.int .i64 f.k, .int .i64 f.vk, .int .i64 f.vn, .string f.vs, .int .i64 f.r1, .int .i64 f.r2, .int .i64 f.r3, .int .i64 f.r4, .string f.op, .slice A m c] 30)) ne2
    have K4 := K3.alloc (.cells #[.int .i64 f.k, .int .i64 f.vk, .int .i64 f.vn, .string f.vs, .int .i64 f.r1, .int .i64 f.r2, .int .i64 f.r3, .int .i64 f.r4, .string f.op, .slice A m c] 30)
    have P4 := Lib.hid (hP.alloc (.cells #[.int .i64 f.k, .int .i64 f.vk, .int .i64 f.vn, .string f.vs, .int .i64 f.r1, .int .i64 f.r2, .int .i64 f.r3, .int .i64 f.r4, .string f.op, .slice A m c] 30))
    have A4 := hA.keep (Q := fun g => w.heap.size < g ∧ g ≠ w3.heap.size) ((Kept.refl x w3).alloc (.cells #[.int .i64 f.k, .int .i64 f.vk, .int .i64 f.vn, .string f.vs, .int .i64 f.r1, .int .i64 f.r2, .int .i64 f.r3, .int .i64 f.r4, .string f.op, .slice A m c] 30)) (fun g hg hl => ⟨by omega, by omega, by omega⟩)
    clear hP hA X3 K3
    go_wp2_with fail
    generalize (w3.alloc (.cells #[.int .i64 f.k, .int .i64 f.vk, .int .i64 f.vn, .string f.vs, .int .i64 f.r1, .int .i64 f.r2, .int .i64 f.r3, .int .i64 f.r4, .string f.op, .slice A m c] 30)) = V at *
    refine (csees_isComparing V P4.out hl).mono ?_; rintro e w5 ⟨rfl, hb5⟩
    have k5 : Kept x V w5 := Kept.of hb5
    have X5 := X4.kept k5 ne2
    have K5 := K4.trans k5
    have P5 := Lib.hid (P4.out.below hb5)
    have L5 := L4.kept k5 na2
    have A5 := A4.keep (Q := fun g => w.heap.size < g ∧ g ≠ w3.heap.size) k5 (fun g hg hl => ⟨by omega, hg⟩)
    have s5 := L5.lt
    have t5 := X5.lt
    clear X4 K4 P4 L4 A4 hb5 k5
    obtain ⟨d0, d1, d2, d3, d4, d5, d6, d7, d8, d9, dz0, dz1, dz2, dz3, dz4, dz5, dz6, dz7, dz8, dz9⟩ := (L5).cells
    cases hs : oneOf l k' cmpS with
    | none =>
      have EO := Lib.hid (formula_one HO.out hs)
      obtain ⟨f0, f1, f2, f3, f4, f5, f6, f7, f8, f9, z0, z1, z2, z3, z4, z5, z6, z7, z8, z9⟩ := (X5).cells
      go_wp2_with fail
      refine bodyPost_ret (v := .tuple #[.agg #[.int .i64 f.k, .int .i64 f.vk, .int .i64 f.vn, .string f.vs, .int .i64 f.r1, .int .i64 f.r2, .int .i64 f.r3, .int .i64 f.r4, .string f.op, .slice A m c], .nilIface]) (by simp [results, Tryz.results59, go_sem, f0, f1, f2, f3, f4, f5, f6, f7, f8, f9]) rfl (CPost.ok (f := f) (A := A) (m := m) (c := c) (b := w.heap.size) (V := w5) EO.out K5 P5.out hn (A5.keep (Q := fun g => w.heap.size ≤ g ∧ g ≠ w.heap.size) (Kept.refl w5.heap.size w5) (fun g hg hl => ⟨by omega, by omega, by omega⟩)) (Nat.le_refl _) hxw ?_)
      repeat (first | with_reducible exact Kept.refl _ _ | with_reducible refine Kept.setCell ?_ _ _ | with_reducible refine Kept.alloc ?_ _)
    | some op =>
      obtain ⟨t, ht, hop⟩ := one_tok hs
      have EO : Hid (formulaF l en L into k = binF op ⟨f, kd⟩ (sumF l en L into (k' + 1))) := by
        cases hq : sumF l en L into (k' + 1) with
        | error e => exact Lib.hid (formula_bad HO.out hs hq)
        | ok q => exact Lib.hid (formula_ok HO.out hs hq)
      go_wp2_with fail
      have HB := cbinary (P := fun g => w.heap.size < g ∧ g ≠ w3.heap.size) (F := sumF l en L into) (f := f) (A := A) (m := m) (c := c) (kd := kd) (pre := #[.pointer (some ⟨x, 0, none⟩)]) (post := #[]) HEGp.out w5 P5.out hl ht hop A5 hn (fun g hg => by omega) (fun w' hk hp => csum HE.out w' hp)
      unfold nodeV at HB
      refine HB.mono ?_
      rintro e w8 ⟨fw, A8, m8, c8, er8, rfl, k8, hp8⟩
      have K8 := K5.trans k8
      have X8 := X5.kept k8 ne2
      clear HB
      obtain ⟨f0, f1, f2, f3, f4, f5, f6, f7, f8, f9, z0, z1, z2, z3, z4, z5, z6, z7, z8, z9⟩ := (X8).cells
      unfold nodeV
      go_wp2_with fail
      refine bodyPost_ret (v := .tuple #[.agg #[.int .i64 fw.k, .int .i64 fw.vk, .int .i64 fw.vn, .string fw.vs, .int .i64 fw.r1, .int .i64 fw.r2, .int .i64 fw.r3, .int .i64 fw.r4, .string fw.op, .slice A8 m8 c8], er8]) (by simp [results, Tryz.results59, go_sem, f0, f1, f2, f3, f4, f5, f6, f7, f8, f9]) rfl ?_
      rcases hp8 with ⟨kd2, k2, hq, rfl, hn2, hA2, hP2⟩ | ⟨bad, k2, hq, hi, rfl, hP2⟩
      · refine CPost.ok (f := fw) (kd := kd2) (A := A8) (m := m8) (c := c8) (b := w.heap.size) (V := w8) (EO.out.trans hq) K8 hP2 hn2 (hA2.keep (Q := fun g => w.heap.size ≤ g ∧ g ≠ w.heap.size) (Kept.refl w8.heap.size w8) (fun g hg hl => ⟨by omega, by omega, by omega⟩)) (Nat.le_refl _) hxw ?_
        repeat (first | with_reducible exact Kept.refl _ _ | with_reducible refine Kept.setCell ?_ _ _ | with_reducible refine Kept.alloc ?_ _)
      · refine CPost.err (f := fw) (A := A8) (m := m8) (c := c8) (b := w.heap.size) (V := w8) (EO.out.trans hq) hi K8 hP2 (Nat.le_refl _) hxw ?_
        repeat (first | with_reducible exact Kept.refl _ _ | with_reducible refine Kept.setCell ?_ _ _ | with_reducible refine Kept.alloc ?_ _)
  · obtain ⟨T, u, hT⟩ := errV_some bad
    have EO := Lib.hid (formula_err ho)
    have P3 := Lib.hid hP
    clear ho hP
    rw [hT]
    obtain ⟨f0, f1, f2, f3, f4, f5, f6, f7, f8, f9, z0, z1, z2, z3, z4, z5, z6, z7, z8, z9⟩ := (X3).cells
    go_wp2_with fail
    refine bodyPost_ret (v := .tuple #[.agg #[.int .i64 f.k, .int .i64 f.vk, .int .i64 f.vn, .string f.vs, .int .i64 f.r1, .int .i64 f.r2, .int .i64 f.r3, .int .i64 f.r4, .string f.op, .slice A m c], .iface T u]) (by simp [results, Tryz.results59, go_sem, f0, f1, f2, f3, f4, f5, f6, f7, f8, f9, lt3]) rfl (hT ▸ CPost.err (f := f) (A := A) (m := m) (c := c) (b := w.heap.size) (V := w3) EO.out hi K3 P3.out (Nat.le_refl _) hxw ?_)
    repeat (first | with_reducible exact Kept.refl _ _ | with_reducible refine Kept.setCell ?_ _ _ | with_reducible refine Kept.alloc ?_ _)
theorem ccon {x : Nat} {l : List Tok} {en : Int} (hl : l.length ≤ 300) (hts : ∀ (i : Nat) (t : Tok), l[i]? = some t → t.s.size ≤ 1000000) : ∀ (r : Nat), r ≤ 40 → CCon x l en (40 - (r : Int)) (lev l en (r + 1)) := by
  intro r
  induction r with
  | zero =>
    intro _
    have E : Env x l en (40 - ((0 : Nat) : Int)) (lev l en 0) (decide (1 ≤ 0)) := ⟨hl, by omega, by omega, by simp, fun h => absurd h (by omega), hts, lev_goes l en 0⟩
    exact ⟨fun k w h => cformula E w h, fun k w h => cpower E w h, fun k w h => cunary E w h⟩
  | succ r ih =>
    intro hr
    have E : Env x l en (40 - ((r + 1 : Nat) : Int)) (lev l en (r + 1)) (decide (1 ≤ r + 1)) := ⟨hl, by omega, by omega, by
      rw [decide_eq_true (by omega), decide_eq_true (by omega)], fun _ => by
      have := ih (by omega)
      rw [show (40 - ((r + 1 : Nat) : Int) + 1) = 40 - (r : Int) from by omega]; exact this, hts, lev_goes l en (r + 1)⟩
    exact ⟨fun k w h => cformula E w h, fun k w h => cpower E w h, fun k w h => cunary E w h⟩
end Go.Proofs.YtccigjelbnjcoaaGreatDoor.TreeC
