/-
  Contracts of tree's code: the tokens ahead.
-/
import Derived.Test.YtccigjelbnjcoaaGreatDoorPNamesAddrA
import Derived.Test.YtccigjelbnjcoaaGreatDoorPNamesLexF
import Derived.Test.YtccigjelbnjcoaaGreatDoorPNamesNumG
import Derived.Test.YtccigjelbnjcoaaGreatDoorPNamesNumD
import Derived.Test.YtccigjelbnjcoaaGreatDoorPNamesNumR
import Derived.Orders
namespace Go.Proofs.YtccigjelbnjcoaaGreatDoor.TreeC
set_option linter.unusedVariables false
open Go.RowKit Go.Proofs.YtccigjelbnjcoaaGreatDoor.NumC Go.Proofs.YtccigjelbnjcoaaGreatDoor.LexC
def tokV : Option Tok → Value
  | none => .agg #[.int .i64 0, .int .i64 0, .string { data := #[] }, .int .i64 0]
  | some t => .agg #[.int .i64 t.k, .int .i64 t.n, .string t.s, .int .i64 t.at_]
theorem Kept.under {x y : Nat} {w w' : World} (h : Kept y w w') (hx : x ≤ y) (hw : x ≤ w.heap.size) : Below x w w' := ⟨h.os, h.tape, h.output, h.size, fun k hk => h.block k (by omega) (by omega)⟩
structure Pc (w : World) (x : Nat) (l : List Tok) (en : Int) (k : Nat) (nest : Int) : Prop where
  le : k ≤ l.length
  lib : ∀ w', Below x w w' → LibIs w'
  ex : ∃ A c, w.heap[x]? = some (.cells #[.slice A (l.length - k) c, .int .i64 en, .int .i64 nest] 67 (0, 0)) ∧ l.length - k ≤ c ∧
    ∀ i (h : i < l.length), k ≤ i → ∃ g, A = some ⟨g, k * 4, none⟩ ∧ g < x ∧
      w.cell? ⟨g, i * 4, none⟩ = some (.int .i64 l[i].k) ∧ w.cell? ⟨g, i * 4 + 1, none⟩ = some (.int .i64 l[i].n) ∧ w.cell? ⟨g, i * 4 + 2, none⟩ = some (.string l[i].s) ∧ w.cell? ⟨g, i * 4 + 3, none⟩ = some (.int .i64 l[i].at_)
theorem Pc.lt {w : World} {x k : Nat} {l : List Tok} {en nest : Int} (h : Pc w x l en k nest) : x < w.heap.size := by
  obtain ⟨A, c, h1, -⟩ := h.ex
  exact (Array.getElem?_eq_some_iff.1 h1).1
theorem Pc.kept {w w' : World} {x y k : Nat} {l : List Tok} {en nest : Int} (h : Pc w x l en k nest) (hk : Kept y w w') (hy : x < y) : Pc w' x l en k nest := by
  have hx := h.lt
  obtain ⟨A, c, h1, h2, h3⟩ := h.ex
  refine ⟨h.le, fun w2 hb => h.lib w2 ((hk.under (by omega) (by omega)).trans hb), A, c, (hk.block x hx (by omega)).trans h1, h2, fun i hi hk' => ?_⟩
  obtain ⟨g, e, hg, f0, f1, f2, f3⟩ := h3 i hi hk'
  have hgy : g ≠ y := by omega
  exact ⟨g, e, hg, hk.cell hgy f0, hk.cell hgy f1, hk.cell hgy f2, hk.cell hgy f3⟩
theorem Pc.below {w w' : World} {x k : Nat} {l : List Tok} {en nest : Int} (h : Pc w x l en k nest) (hb : Below w.heap.size w w') : Pc w' x l en k nest := h.kept (Kept.of (x := w.heap.size) hb) h.lt
theorem Pc.drew {w : World} {x k : Nat} {l : List Tok} {en nest : Int} (h : Pc w x l en k nest) (n : Nat) : Pc (w.drewN n) x l en k nest := ⟨h.le, fun w2 hb => h.lib w2 ⟨hb.os, hb.tape, hb.output, hb.size, hb.block⟩, h.ex⟩
theorem Pc.libs {w : World} {x k : Nat} {l : List Tok} {en nest : Int} (h : Pc w x l en k nest) : LibIs w := h.lib w (Below.refl _ _)
theorem Pc.alloc {w : World} {x k : Nat} {l : List Tok} {en nest : Int} (h : Pc w x l en k nest) (o : Obj) : Pc (w.alloc o) x l en k nest := h.below ((Below.refl _ _).alloc (Nat.le_refl _) o)
theorem Pc.setN {w : World} {x k : Nat} {l : List Tok} {en nest : Int} (h : Pc w x l en k nest) (n' : Int) : Pc (w.setCell ⟨x, 2, none⟩ (.int .i64 n')) x l en k n' := by
  have hxw := h.lt
  obtain ⟨A, c, h1, h2, h3⟩ := h.ex
  refine ⟨h.le, fun w2 hb => h.lib w2 ((((Kept.refl x w).setCell 2 (.int .i64 n')).under (Nat.le_refl _) (by omega)).trans hb), A, c, by simp [World.setCell, Array.getElem?_modify, h1], h2, fun i hi hk' => ?_⟩
  obtain ⟨g, e, hg, f0, f1, f2, f3⟩ := h3 i hi hk'
  have K := (Kept.refl x w).setCell 2 (.int .i64 n')
  have hgx : g ≠ x := by omega
  exact ⟨g, e, hg, K.cell hgx f0, K.cell hgx f1, K.cell hgx f2, K.cell hgx f3⟩
theorem Pc.setT {w : World} {x k : Nat} {l : List Tok} {en nest : Int} (h : Pc w x l en k nest) (hlt : k < l.length) (A' : Option Addr) (c' n' : Nat) (hn : n' = l.length - (k + 1)) (hc : l.length - (k + 1) ≤ c')
    (hA : ∀ g c, w.cell? ⟨x, 0, none⟩ = some (.slice (some ⟨g, k * 4, none⟩) (l.length - k) c) → k + 1 < l.length → A' = some ⟨g, (k + 1) * 4, none⟩) :
    Pc (w.setCell ⟨x, 0, none⟩ (.slice A' n' c')) x l en (k + 1) nest := by
  have hxw := h.lt
  obtain ⟨A, c, h1, h2, h3⟩ := h.ex
  subst hn
  refine ⟨hlt, fun w2 hb => h.lib w2 ((((Kept.refl x w).setCell 0 (.slice A' (l.length - (k + 1)) c')).under (Nat.le_refl _) (by omega)).trans hb), A', c', by simp [World.setCell, Array.getElem?_modify, h1], hc, fun i hi hk' => ?_⟩
  obtain ⟨g, e, hg, f0, f1, f2, f3⟩ := h3 i hi (by omega)
  subst e
  have K := (Kept.refl x w).setCell 0 (.slice A' (l.length - (k + 1)) c')
  have hgx : g ≠ x := by omega
  exact ⟨g, hA g c (by simp [World.cell?, h1]) (by omega), hg, K.cell hgx f0, K.cell hgx f1, K.cell hgx f2, K.cell hgx f3⟩
set_option maxRecDepth 100000 in
set_option maxHeartbeats 4000000 in
theorem cahead0 {x k : Nat} {l : List Tok} {en nest : Int} (w : World) (h : Pc w x l en k nest) (hl : l.length ≤ 300) :
    Calls Tryz.prog 101 #[.pointer (some ⟨x, 0, none⟩), .int .i64 0] w fun e w' => e = .returned (tokV l[k]?) ∧ Below w.heap.size w w' := by
  have hx := h.lt
  have hle := h.le
  obtain ⟨A, c, h1, h2, h3⟩ := h.ex
  have q0 : w.cell? ⟨x, 0, none⟩ = some (.slice A (l.length - k) c) := by simp [World.cell?, h1]
  have H3 := Lib.hid h3
  clear h3 h1 h
  by_cases hlt : k < l.length
  · obtain ⟨g, rfl, hg, f0, f1, f2, f3⟩ := H3.out (k) hlt (by omega)
    clear H3
    have hm : ¬ (l.length - k = 0) := by omega
    have hgw : g < w.heap.size := by omega
    rw [List.getElem?_eq_getElem hlt]
    generalize l[k] = t at *
    generalize l.length - k = m at *
    go_enter Tryz.func101, Tryz.ntmps101
    go_wp2_with fail
    refine bodyPost_ret (v := .agg #[.int .i64 t.k, .int .i64 t.n, .string t.s, .int .i64 t.at_]) (by simp [results, Tryz.results101, go_sem]) rfl ⟨rfl, (Below.refl _ _).alloc (Nat.le_refl _) _⟩
  · rw [List.getElem?_eq_none (by omega)]
    have hm : l.length - k = 0 := by omega
    clear H3
    generalize l.length - k = m at *
    go_enter Tryz.func101, Tryz.ntmps101
    go_wp2_with fail
    refine bodyPost_ret (v := .agg #[.int .i64 0, .int .i64 0, .string { data := #[] }, .int .i64 0]) (by simp [results, Tryz.results101, go_sem]) rfl ⟨rfl, (Below.refl _ _).alloc (Nat.le_refl _) _⟩
set_option maxRecDepth 100000 in
set_option maxHeartbeats 4000000 in
theorem cahead1 {x k : Nat} {l : List Tok} {en nest : Int} (w : World) (h : Pc w x l en k nest) (hl : l.length ≤ 300) :
    Calls Tryz.prog 101 #[.pointer (some ⟨x, 0, none⟩), .int .i64 1] w fun e w' => e = .returned (tokV l[k + 1]?) ∧ Below w.heap.size w w' := by
  have hx := h.lt
  have hle := h.le
  obtain ⟨A, c, h1, h2, h3⟩ := h.ex
  have q0 : w.cell? ⟨x, 0, none⟩ = some (.slice A (l.length - k) c) := by simp [World.cell?, h1]
  have H3 := Lib.hid h3
  clear h3 h1 h
  by_cases hlt : k + 1 < l.length
  · obtain ⟨g, rfl, hg, f0, f1, f2, f3⟩ := H3.out (k + 1) hlt (by omega)
    clear H3
    have hm : ¬ (l.length - k ≤ 1) := by omega
    have hm2 : 1 < l.length - k := by omega
    rw [show (k + 1) * 4 = k * 4 + 4 from by omega] at f0 f1 f2 f3
    have hgw : g < w.heap.size := by omega
    rw [List.getElem?_eq_getElem hlt]
    generalize l[k + 1] = t at *
    generalize l.length - k = m at *
    go_enter Tryz.func101, Tryz.ntmps101
    go_wp2_with fail
    refine bodyPost_ret (v := .agg #[.int .i64 t.k, .int .i64 t.n, .string t.s, .int .i64 t.at_]) (by simp [results, Tryz.results101, go_sem]) rfl ⟨rfl, (Below.refl _ _).alloc (Nat.le_refl _) _⟩
  · rw [List.getElem?_eq_none (by omega)]
    have hm : l.length - k ≤ 1 := by omega
    clear H3
    generalize l.length - k = m at *
    go_enter Tryz.func101, Tryz.ntmps101
    go_wp2_with fail
    refine bodyPost_ret (v := .agg #[.int .i64 0, .int .i64 0, .string { data := #[] }, .int .i64 0]) (by simp [results, Tryz.results101, go_sem]) rfl ⟨rfl, (Below.refl _ _).alloc (Nat.le_refl _) _⟩
set_option maxRecDepth 100000 in
set_option maxHeartbeats 4000000 in
theorem ctake {x k : Nat} {l : List Tok} {en nest : Int} (w : World) (h : Pc w x l en k nest) (hlt : k < l.length) :
    Calls Tryz.prog 102 #[.pointer (some ⟨x, 0, none⟩)] w fun e w' => e = .returned (.tuple #[]) ∧ Pc w' x l en (k + 1) nest ∧ Kept x w w' := by
  have hx := h.lt
  obtain ⟨A, c, h1, h2, h3⟩ := h.ex
  have q0 : w.cell? ⟨x, 0, none⟩ = some (.slice A (l.length - k) c) := by simp [World.cell?, h1]
  have q1 : w.frozen? ⟨x, 0, none⟩ = false := by simp [World.frozen?, h1]
  obtain ⟨g, rfl, -⟩ := h3 k hlt (Nat.le_refl _)
  have H := Lib.hid h
  clear h3 h1 h
  have hm : 1 ≤ l.length - k := by omega
  have hn : Hid (l.length - (k + 1) = l.length - k - 1) := Lib.hid (by omega)
  have hc : Hid (l.length - (k + 1) ≤ c - 1) := Lib.hid (by omega)
  have HLT := Lib.hid hlt
  clear hlt
  generalize hM : l.length - k = m at *
  have HM := Lib.hid hM
  clear hM
  rcases Nat.lt_or_ge c 2 with h | h
  · obtain rfl : c = 1 := by omega
    go_enter Tryz.func102, Tryz.ntmps102
    go_wp2_with fail
    refine bodyPost_end (v := .tuple #[]) (by simp [results, Tryz.results102, go_sem]) rfl ⟨rfl, ?_, (Kept.refl _ _).setCell _ _⟩
    exact H.out.setT HLT.out _ _ _ (by rw [hn.out]; omega) hc.out (fun g2 c2 e h3 => by have := HM.out; omega)
  · have hc1 : ¬ c = 1 := by omega
    go_enter Tryz.func102, Tryz.ntmps102
    go_wp2_with fail
    refine bodyPost_end (v := .tuple #[]) (by simp [results, Tryz.results102, go_sem]) rfl ⟨rfl, ?_, (Kept.refl _ _).setCell _ _⟩
    refine H.out.setT HLT.out _ _ _ (by rw [hn.out]) hc.out (fun g2 c2 e h3 => ?_)
    rw [q0] at e
    injection e with e; injection e with e; injection e with e; injection e with e
    rw [e, Nat.succ_mul]
theorem list_ne {a b : ByteArray} (h : ¬ a = b) : ¬ a.toList = b.toList := fun e => h (ByteArray.ext (Array.toList_inj.1 (by rw [Lib.toList_data, Lib.toList_data] at e; exact e)))
theorem text_ne {s : ByteArray} {b : List UInt8} (h : ¬ s = str b) : (s.toList == b) = false := beq_eq_false_iff_ne.2 fun e => h (ByteArray.ext (Array.toList_inj.1 (by rw [Lib.toList_data] at e; exact e)))
def tokSign (o : Option Tok) (s : ByteArray) : Bool := match o with
  | some t => decide (t.k = 4) && decide (t.s = s)
  | none => false
set_option maxRecDepth 100000 in
set_option maxHeartbeats 4000000 in
theorem cisSign (o : Option Tok) (s : ByteArray) (w : World) :
    Calls Tryz.prog 154 #[tokV o, .string s] w fun e w' => e = .returned (.bool (tokSign o s)) ∧ Below w.heap.size w w' := by
  cases o with
  | none =>
    unfold tokV
    go_enter Tryz.func154, Tryz.ntmps154
    go_wp2_with fail
    go_ret
    exact ⟨rfl, (Below.refl _ _).alloc (Nat.le_refl _) _⟩
  | some t =>
    obtain ⟨k, n, s2, a⟩ := t
    unfold tokV tokSign
    simp only
    by_cases h1 : k = 4
    · by_cases h2 : s2 = s
      · subst h1 h2
        go_enter Tryz.func154, Tryz.ntmps154
        go_wp2_with fail
        go_ret
        exact ⟨by simp, (Below.refl _ _).alloc (Nat.le_refl _) _⟩
      · have d2 : decide (s2 = s) = false := decide_eq_false h2
        subst h1
        go_enter Tryz.func154, Tryz.ntmps154
        go_wp2_with fail
        go_ret
        exact ⟨by simp [h2, list_ne h2], (Below.refl _ _).alloc (Nat.le_refl _) _⟩
    · have d1 : decide (k = 4) = false := decide_eq_false h1
      go_enter Tryz.func154, Tryz.ntmps154
      go_wp2_with fail
      go_ret
      exact ⟨by simp [h1], (Below.refl _ _).alloc (Nat.le_refl _) _⟩
set_option maxRecDepth 100000 in
set_option maxHeartbeats 4000000 in
theorem cseesSign {x k : Nat} {l : List Tok} {en nest : Int} (s : List UInt8) (w : World) (h : Pc w x l en k nest) (hl : l.length ≤ 300) :
    Calls Tryz.prog 139 #[.pointer (some ⟨x, 0, none⟩), .string (str s)] w fun e w' => e = .returned (.bool (isSign l k s)) ∧ Below w.heap.size w w' := by
  have H := Lib.hid (cahead0 w h hl)
  clear h
  have E : Hid (isSign l k s = tokSign l[k]? (str s)) := Lib.hid rfl
  go_enter Tryz.func139, Tryz.ntmps139
  go_wp2_with fail
  refine H.out.mono ?_; rintro e w1 ⟨rfl, hb⟩
  go_wp2_with fail
  refine (cisSign _ _ w1).mono ?_; rintro e w2 ⟨rfl, hb2⟩
  go_wp2_with fail
  go_ret
  exact ⟨by rw [E.out]; rfl, hb.trans (hb2.mono hb.size)⟩
set_option maxRecDepth 100000 in
set_option maxHeartbeats 4000000 in
theorem cisCall {x k : Nat} {l : List Tok} {en nest : Int} (w : World) (h : Pc w x l en k nest) (hl : l.length ≤ 300) :
    Calls Tryz.prog 157 #[.pointer (some ⟨x, 0, none⟩)] w fun e w' => e = .returned (.bool (isSign l (k + 1) [40])) ∧ Below w.heap.size w w' := by
  have H := Lib.hid (cahead1 w h hl)
  clear h
  have E : Hid (isSign l (k + 1) [40] = tokSign l[k + 1]? { data := #[40] }) := Lib.hid rfl
  go_enter Tryz.func157, Tryz.ntmps157
  go_wp2_with fail
  refine H.out.mono ?_; rintro e w1 ⟨rfl, hb⟩
  go_wp2_with fail
  refine (cisSign _ _ w1).mono ?_; rintro e w2 ⟨rfl, hb2⟩
  go_wp2_with fail
  go_ret
  exact ⟨by rw [E.out]; rfl, hb.trans (hb2.mono hb.size)⟩
def anyOf (ss : List (List UInt8)) (s : ByteArray) : Bool := ss.any fun u => decide (s = str u)
theorem anyOf_nil (s : ByteArray) : anyOf [] s = false := rfl
theorem anyOf_yes {u : List UInt8} {ss : List (List UInt8)} {s : ByteArray} (h : s = str u) : anyOf (u :: ss) s = true := by simp [anyOf, h]
theorem anyOf_no {u : List UInt8} {ss : List (List UInt8)} {s : ByteArray} (h : ¬ s = str u) : anyOf (u :: ss) s = anyOf ss s := by simp [anyOf, h]
def powS : List (List UInt8) := [[94]]
set_option maxRecDepth 100000 in
set_option maxHeartbeats 4000000 in
theorem cisComparing (s : ByteArray) (w : World) : Calls Tryz.prog 80 #[.string s] w fun e w' => e = .returned (.bool (anyOf cmpS s)) ∧ ∃ n, w' = w.drewN n := by
  unfold cmpS
  by_cases h0 : s = { data := #[61] }
  · rw [anyOf_yes h0]
    subst h0
    go_enter Tryz.func80, Tryz.ntmps80
    go_wp2_with fail
    go_ret
    exact ⟨rfl, 0, rfl⟩
  · have d0 : (s.toList == [61]) = false := text_ne h0
    by_cases h1 : s = { data := #[60, 62] }
    · rw [anyOf_no h0, anyOf_yes h1]
      subst h1
      clear h0
      go_enter Tryz.func80, Tryz.ntmps80
      go_wp2_with fail
      go_ret
      exact ⟨rfl, 0, rfl⟩
    · have d1 : (s.toList == [60, 62]) = false := text_ne h1
      by_cases h2 : s = { data := #[60] }
      · rw [anyOf_no h0, anyOf_no h1, anyOf_yes h2]
        subst h2
        clear h0
        clear h1
        go_enter Tryz.func80, Tryz.ntmps80
        go_wp2_with fail
        go_ret
        exact ⟨rfl, 0, rfl⟩
      · have d2 : (s.toList == [60]) = false := text_ne h2
        by_cases h3 : s = { data := #[60, 61] }
        · rw [anyOf_no h0, anyOf_no h1, anyOf_no h2, anyOf_yes h3]
          subst h3
          clear h0
          clear h1
          clear h2
          go_enter Tryz.func80, Tryz.ntmps80
          go_wp2_with fail
          go_ret
          exact ⟨rfl, 0, rfl⟩
        · have d3 : (s.toList == [60, 61]) = false := text_ne h3
          by_cases h4 : s = { data := #[62] }
          · rw [anyOf_no h0, anyOf_no h1, anyOf_no h2, anyOf_no h3, anyOf_yes h4]
            subst h4
            clear h0
            clear h1
            clear h2
            clear h3
            go_enter Tryz.func80, Tryz.ntmps80
            go_wp2_with fail
            go_ret
            exact ⟨rfl, 0, rfl⟩
          · have d4 : (s.toList == [62]) = false := text_ne h4
            by_cases h5 : s = { data := #[62, 61] }
            · rw [anyOf_no h0, anyOf_no h1, anyOf_no h2, anyOf_no h3, anyOf_no h4, anyOf_yes h5]
              subst h5
              clear h0
              clear h1
              clear h2
              clear h3
              clear h4
              go_enter Tryz.func80, Tryz.ntmps80
              go_wp2_with fail
              go_ret
              exact ⟨rfl, 0, rfl⟩
            · have d5 : (s.toList == [62, 61]) = false := text_ne h5
              rw [anyOf_no h0, anyOf_no h1, anyOf_no h2, anyOf_no h3, anyOf_no h4, anyOf_no h5, anyOf_nil]
              go_enter Tryz.func80, Tryz.ntmps80
              go_wp2_with fail
              go_ret
              exact ⟨rfl, 0, rfl⟩
set_option maxRecDepth 100000 in
set_option maxHeartbeats 4000000 in
theorem cisAdding (s : ByteArray) (w : World) : Calls Tryz.prog 99 #[.string s] w fun e w' => e = .returned (.bool (anyOf sumS s)) ∧ ∃ n, w' = w.drewN n := by
  unfold sumS
  by_cases h0 : s = { data := #[43] }
  · rw [anyOf_yes h0]
    subst h0
    go_enter Tryz.func99, Tryz.ntmps99
    go_wp2_with fail
    go_ret
    exact ⟨rfl, 0, rfl⟩
  · have d0 : (s.toList == [43]) = false := text_ne h0
    by_cases h1 : s = { data := #[45] }
    · rw [anyOf_no h0, anyOf_yes h1]
      subst h1
      clear h0
      go_enter Tryz.func99, Tryz.ntmps99
      go_wp2_with fail
      go_ret
      exact ⟨rfl, 0, rfl⟩
    · have d1 : (s.toList == [45]) = false := text_ne h1
      by_cases h2 : s = { data := #[38] }
      · rw [anyOf_no h0, anyOf_no h1, anyOf_yes h2]
        subst h2
        clear h0
        clear h1
        go_enter Tryz.func99, Tryz.ntmps99
        go_wp2_with fail
        go_ret
        exact ⟨rfl, 0, rfl⟩
      · have d2 : (s.toList == [38]) = false := text_ne h2
        rw [anyOf_no h0, anyOf_no h1, anyOf_no h2, anyOf_nil]
        go_enter Tryz.func99, Tryz.ntmps99
        go_wp2_with fail
        go_ret
        exact ⟨rfl, 0, rfl⟩
set_option maxRecDepth 100000 in
set_option maxHeartbeats 4000000 in
theorem cisMultiplying (s : ByteArray) (w : World) : Calls Tryz.prog 107 #[.string s] w fun e w' => e = .returned (.bool (anyOf mulS s)) ∧ ∃ n, w' = w.drewN n := by
  unfold mulS
  by_cases h0 : s = { data := #[42] }
  · rw [anyOf_yes h0]
    subst h0
    go_enter Tryz.func107, Tryz.ntmps107
    go_wp2_with fail
    go_ret
    exact ⟨rfl, 0, rfl⟩
  · have d0 : (s.toList == [42]) = false := text_ne h0
    by_cases h1 : s = { data := #[47] }
    · rw [anyOf_no h0, anyOf_yes h1]
      subst h1
      clear h0
      go_enter Tryz.func107, Tryz.ntmps107
      go_wp2_with fail
      go_ret
      exact ⟨rfl, 0, rfl⟩
    · have d1 : (s.toList == [47]) = false := text_ne h1
      by_cases h2 : s = { data := #[37] }
      · rw [anyOf_no h0, anyOf_no h1, anyOf_yes h2]
        subst h2
        clear h0
        clear h1
        go_enter Tryz.func107, Tryz.ntmps107
        go_wp2_with fail
        go_ret
        exact ⟨rfl, 0, rfl⟩
      · have d2 : (s.toList == [37]) = false := text_ne h2
        rw [anyOf_no h0, anyOf_no h1, anyOf_no h2, anyOf_nil]
        go_enter Tryz.func107, Tryz.ntmps107
        go_wp2_with fail
        go_ret
        exact ⟨rfl, 0, rfl⟩
set_option maxRecDepth 100000 in
set_option maxHeartbeats 4000000 in
theorem cisPower (s : ByteArray) (w : World) : Calls Tryz.prog 108 #[.string s] w fun e w' => e = .returned (.bool (anyOf powS s)) ∧ ∃ n, w' = w.drewN n := by
  unfold powS
  by_cases h0 : s = { data := #[94] }
  · rw [anyOf_yes h0]
    subst h0
    go_enter Tryz.func108, Tryz.ntmps108
    go_wp2_with fail
    go_ret
    exact ⟨rfl, 0, rfl⟩
  · have d0 : (s.toList == [94]) = false := text_ne h0
    rw [anyOf_no h0, anyOf_nil]
    go_enter Tryz.func108, Tryz.ntmps108
    go_wp2_with fail
    go_ret
    exact ⟨rfl, 0, rfl⟩
theorem one_any (l : List Tok) (k : Nat) (ss : List (List UInt8)) : (oneOf l k ss).isSome = match l[k]? with
    | some t => decide (t.k = 4) && anyOf ss t.s
    | none => false := by
  unfold oneOf isSign anyOf
  cases l[k]? with
  | none => simp
  | some t =>
    by_cases h : t.k = 4
    · simp only [h, decide_true, Bool.true_and]
      induction ss with
      | nil => rfl
      | cons u ss ih => cases hu : decide (t.s = str u) <;> simp only [List.find?, List.any, hu, Option.isSome, Bool.true_or, Bool.false_or]; exact ih
    · simp [h]
theorem one_tok {l : List Tok} {k : Nat} {ss : List (List UInt8)} {op : List UInt8} (h : oneOf l k ss = some op) : ∃ t, l[k]? = some t ∧ t.s = str op := by
  have h := List.find?_some h
  unfold isSign at h
  split at h
  · rename_i t ht
    simp only [Bool.and_eq_true, decide_eq_true_eq] at h
    exact ⟨t, ht, h.2⟩
  · cases h
theorem one_pow (l : List Tok) (k : Nat) : (oneOf l k powS).isSome = isSign l k [94] := by
  unfold oneOf powS
  cases h : isSign l k [94] <;> simp [List.find?, h]
set_option maxRecDepth 100000 in
set_option maxHeartbeats 4000000 in
theorem csees_isComparing {x k : Nat} {l : List Tok} {en nest : Int} (w : World) (h : Pc w x l en k nest) (hl : l.length ≤ 300) :
    Calls Tryz.prog 79 #[.pointer (some ⟨x, 0, none⟩), .func (.func 80) #[] #[]] w fun e w' => e = .returned (.bool (oneOf l k cmpS).isSome) ∧ Below w.heap.size w w' := by
  have H := Lib.hid (cahead0 w h hl)
  clear h
  rw [one_any]
  generalize l[k]? = o at *
  cases o with
  | none =>
    unfold tokV at H
    go_enter Tryz.func79, Tryz.ntmps79
    go_wp2_with fail
    refine H.out.mono ?_; rintro e w1 ⟨rfl, hb⟩
    go_wp2_with fail
    go_ret
    exact ⟨rfl, hb.alloc hb.size _⟩
  | some t =>
    obtain ⟨tk, n, s, a⟩ := t
    unfold tokV at H
    simp only at *
    by_cases h1 : tk = 4
    · subst h1
      go_enter Tryz.func79, Tryz.ntmps79
      go_wp2_with fail
      refine H.out.mono ?_; rintro e w1 ⟨rfl, hb⟩
      have HB := Lib.hid (hb.alloc hb.size (.cells #[.int .i64 4, .int .i64 n, .string s, .int .i64 a] 80))
      clear hb
      go_wp2_with fail
      refine (cisComparing _ _).mono ?_; rintro e w2 ⟨rfl, q, rfl⟩
      go_wp2_with fail
      go_ret
      exact ⟨by simp, below_drewN' HB.out q⟩
    · have d1 : decide (tk = 4) = false := decide_eq_false h1
      go_enter Tryz.func79, Tryz.ntmps79
      go_wp2_with fail
      refine H.out.mono ?_; rintro e w1 ⟨rfl, hb⟩
      go_wp2_with fail
      go_ret
      exact ⟨by simp [h1], hb.alloc hb.size _⟩
set_option maxRecDepth 100000 in
set_option maxHeartbeats 4000000 in
theorem csees_isAdding {x k : Nat} {l : List Tok} {en nest : Int} (w : World) (h : Pc w x l en k nest) (hl : l.length ≤ 300) :
    Calls Tryz.prog 79 #[.pointer (some ⟨x, 0, none⟩), .func (.func 99) #[] #[]] w fun e w' => e = .returned (.bool (oneOf l k sumS).isSome) ∧ Below w.heap.size w w' := by
  have H := Lib.hid (cahead0 w h hl)
  clear h
  rw [one_any]
  generalize l[k]? = o at *
  cases o with
  | none =>
    unfold tokV at H
    go_enter Tryz.func79, Tryz.ntmps79
    go_wp2_with fail
    refine H.out.mono ?_; rintro e w1 ⟨rfl, hb⟩
    go_wp2_with fail
    go_ret
    exact ⟨rfl, hb.alloc hb.size _⟩
  | some t =>
    obtain ⟨tk, n, s, a⟩ := t
    unfold tokV at H
    simp only at *
    by_cases h1 : tk = 4
    · subst h1
      go_enter Tryz.func79, Tryz.ntmps79
      go_wp2_with fail
      refine H.out.mono ?_; rintro e w1 ⟨rfl, hb⟩
      have HB := Lib.hid (hb.alloc hb.size (.cells #[.int .i64 4, .int .i64 n, .string s, .int .i64 a] 80))
      clear hb
      go_wp2_with fail
      refine (cisAdding _ _).mono ?_; rintro e w2 ⟨rfl, q, rfl⟩
      go_wp2_with fail
      go_ret
      exact ⟨by simp, below_drewN' HB.out q⟩
    · have d1 : decide (tk = 4) = false := decide_eq_false h1
      go_enter Tryz.func79, Tryz.ntmps79
      go_wp2_with fail
      refine H.out.mono ?_; rintro e w1 ⟨rfl, hb⟩
      go_wp2_with fail
      go_ret
      exact ⟨by simp [h1], hb.alloc hb.size _⟩
set_option maxRecDepth 100000 in
set_option maxHeartbeats 4000000 in
theorem csees_isMultiplying {x k : Nat} {l : List Tok} {en nest : Int} (w : World) (h : Pc w x l en k nest) (hl : l.length ≤ 300) :
    Calls Tryz.prog 79 #[.pointer (some ⟨x, 0, none⟩), .func (.func 107) #[] #[]] w fun e w' => e = .returned (.bool (oneOf l k mulS).isSome) ∧ Below w.heap.size w w' := by
  have H := Lib.hid (cahead0 w h hl)
  clear h
  rw [one_any]
  generalize l[k]? = o at *
  cases o with
  | none =>
    unfold tokV at H
    go_enter Tryz.func79, Tryz.ntmps79
    go_wp2_with fail
    refine H.out.mono ?_; rintro e w1 ⟨rfl, hb⟩
    go_wp2_with fail
    go_ret
    exact ⟨rfl, hb.alloc hb.size _⟩
  | some t =>
    obtain ⟨tk, n, s, a⟩ := t
    unfold tokV at H
    simp only at *
    by_cases h1 : tk = 4
    · subst h1
      go_enter Tryz.func79, Tryz.ntmps79
      go_wp2_with fail
      refine H.out.mono ?_; rintro e w1 ⟨rfl, hb⟩
      have HB := Lib.hid (hb.alloc hb.size (.cells #[.int .i64 4, .int .i64 n, .string s, .int .i64 a] 80))
      clear hb
      go_wp2_with fail
      refine (cisMultiplying _ _).mono ?_; rintro e w2 ⟨rfl, q, rfl⟩
      go_wp2_with fail
      go_ret
      exact ⟨by simp, below_drewN' HB.out q⟩
    · have d1 : decide (tk = 4) = false := decide_eq_false h1
      go_enter Tryz.func79, Tryz.ntmps79
      go_wp2_with fail
      refine H.out.mono ?_; rintro e w1 ⟨rfl, hb⟩
      go_wp2_with fail
      go_ret
      exact ⟨by simp [h1], hb.alloc hb.size _⟩
set_option maxRecDepth 100000 in
set_option maxHeartbeats 4000000 in
theorem csees_isPower {x k : Nat} {l : List Tok} {en nest : Int} (w : World) (h : Pc w x l en k nest) (hl : l.length ≤ 300) :
    Calls Tryz.prog 79 #[.pointer (some ⟨x, 0, none⟩), .func (.func 108) #[] #[]] w fun e w' => e = .returned (.bool (oneOf l k powS).isSome) ∧ Below w.heap.size w w' := by
  have H := Lib.hid (cahead0 w h hl)
  clear h
  rw [one_any]
  generalize l[k]? = o at *
  cases o with
  | none =>
    unfold tokV at H
    go_enter Tryz.func79, Tryz.ntmps79
    go_wp2_with fail
    refine H.out.mono ?_; rintro e w1 ⟨rfl, hb⟩
    go_wp2_with fail
    go_ret
    exact ⟨rfl, hb.alloc hb.size _⟩
  | some t =>
    obtain ⟨tk, n, s, a⟩ := t
    unfold tokV at H
    simp only at *
    by_cases h1 : tk = 4
    · subst h1
      go_enter Tryz.func79, Tryz.ntmps79
      go_wp2_with fail
      refine H.out.mono ?_; rintro e w1 ⟨rfl, hb⟩
      have HB := Lib.hid (hb.alloc hb.size (.cells #[.int .i64 4, .int .i64 n, .string s, .int .i64 a] 80))
      clear hb
      go_wp2_with fail
      refine (cisPower _ _).mono ?_; rintro e w2 ⟨rfl, q, rfl⟩
      go_wp2_with fail
      go_ret
      exact ⟨by simp, below_drewN' HB.out q⟩
    · have d1 : decide (tk = 4) = false := decide_eq_false h1
      go_enter Tryz.func79, Tryz.ntmps79
      go_wp2_with fail
      refine H.out.mono ?_; rintro e w1 ⟨rfl, hb⟩
      go_wp2_with fail
      go_ret
      exact ⟨by simp [h1], hb.alloc hb.size _⟩
def errV (b : Bad) : Value := if b.1 = 14 then .iface 49 (.int .i64 14) else .iface 86 (.agg #[.int .i64 b.2, .int .i64 13])
theorem errV_deep : errV deepE = .iface 49 (.int .i64 14) := rfl
theorem errV_bad (l : List Tok) (n : Int) (k : Nat) : errV (badAt l n k) = .iface 86 (.agg #[.int .i64 (badAt l n k).2, .int .i64 13]) := rfl
set_option maxRecDepth 100000 in
set_option maxHeartbeats 4000000 in
theorem cmisplaced {x k : Nat} {l : List Tok} {en nest : Int} (w : World) (h : Pc w x l en k nest) (hl : l.length ≤ 300) :
    Calls Tryz.prog 60 #[.pointer (some ⟨x, 0, none⟩)] w fun e w' => e = .returned (errV (badAt l en k)) ∧ ∃ n, w' = w.drewN n := by
  have hx := h.lt
  have hle := h.le
  obtain ⟨A, c, h1, h2, h3⟩ := h.ex
  have q0 : w.cell? ⟨x, 0, none⟩ = some (.slice A (l.length - k) c) := by simp [World.cell?, h1]
  have q1 : w.cell? ⟨x, 1, none⟩ = some (.int .i64 en) := by simp [World.cell?, h1]
  have H3 := Lib.hid h3
  clear h3 h1 h
  rw [errV_bad]
  by_cases hlt : k < l.length
  · obtain ⟨g, rfl, hg, f0, f1, f2, f3⟩ := H3.out k hlt (Nat.le_refl _)
    clear H3
    have hm : ¬ (l.length - k = 0) := by omega
    have E : Hid ((badAt l en k).2 = l[k].at_) := Lib.hid (by unfold badAt; rw [List.getElem?_eq_getElem hlt])
    rw [E.out]
    clear E
    generalize l[k] = t at *
    generalize l.length - k = m at *
    go_enter Tryz.func60, Tryz.ntmps60
    go_wp2_with fail
    go_ret
    exact ⟨rfl, 0, rfl⟩
  · have hm : l.length - k = 0 := by omega
    clear H3
    have E : Hid ((badAt l en k).2 = en) := Lib.hid (by unfold badAt; rw [List.getElem?_eq_none (by omega)])
    rw [E.out]
    clear E
    generalize l.length - k = m at *
    subst hm
    go_enter Tryz.func60, Tryz.ntmps60
    go_wp2_with fail
    go_ret
    exact ⟨rfl, 0, rfl⟩
set_option maxRecDepth 100000 in
set_option maxHeartbeats 4000000 in
theorem cconstant (vk vn : Int) (s : ByteArray) (w : World) :
    Calls Tryz.prog 155 #[.agg #[.int .i64 vk, .int .i64 vn, .string s]] w fun e w' => e = .returned (nodeV (constN vk vn s).f none 0 0) ∧ Below w.heap.size w w' := by
  unfold nodeV constN
  go_enter Tryz.func155, Tryz.ntmps155
  go_wp2_with fail
  refine bodyPost_ret (v := .agg #[.int .i64 1, .int .i64 vk, .int .i64 vn, .string s, .int .i64 0, .int .i64 0, .int .i64 0, .int .i64 0, .string { data := #[] }, .slice none 0 0]) (by simp [results, Tryz.results155, go_sem]) rfl ⟨rfl, ((Below.refl _ _).alloc (Nat.le_refl _) _).alloc (by simp) _⟩
end Go.Proofs.YtccigjelbnjcoaaGreatDoor.TreeC
namespace Go.Proofs.YtccigjelbnjcoaaGreatDoor.TreeC
set_option linter.unusedVariables false
open Go.RowKit Go.Proofs.YtccigjelbnjcoaaGreatDoor.NumC Go.Proofs.YtccigjelbnjcoaaGreatDoor.LexC
def IsBad (b : Bad) : Prop := b.1 = 13 ∨ b = deepE
theorem isBad_at (l : List Tok) (n : Int) (k : Nat) : IsBad (badAt l n k) := Or.inl rfl
theorem isBad_deep : IsBad deepE := Or.inr rfl
theorem errV_some (b : Bad) : ∃ T u, errV b = .iface T u := by
  unfold errV; split
  · exact ⟨_, _, rfl⟩
  · exact ⟨_, _, rfl⟩
theorem RowAt.same {w w' : World} {P Q : Nat → Prop} (hP : ∀ g, P g → g < w.heap.size → w'.heap[g]? = w.heap[g]? ∧ Q g) : ∀ (fo : Fo) (g o : Nat), RowAt w P fo g o → RowAt w' Q fo g o := by
  intro fo
  induction fo with
  | nil => intro g o _; trivial
  | cons f kids next ih1 ih2 =>
    intro g o h
    obtain ⟨⟨hx, f0, f1, f2, f3, f4, f5, f6, f7, f8⟩, ⟨A, c, h9, hA⟩, hn⟩ := h
    obtain ⟨hy, hq⟩ := hP g hx (World.block_lt_of_cell? w _ f0)
    have hc (o : Nat) (v : Value) (h : w.cell? ⟨g, o, none⟩ = some v) : w'.cell? ⟨g, o, none⟩ = some v := by rw [← h]; unfold World.cell?; rw [hy]
    refine ⟨⟨hq, hc _ _ f0, hc _ _ f1, hc _ _ f2, hc _ _ f3, hc _ _ f4, hc _ _ f5, hc _ _ f6, hc _ _ f7, hc _ _ f8⟩, ⟨A, c, hc _ _ h9, ?_⟩, ih2 g _ hn⟩
    rcases hA with h | ⟨g', o', e, hr⟩
    · exact Or.inl h
    · exact Or.inr ⟨g', o', e, ih1 g' o' hr⟩
def CPostP (P : Nat → Prop) (x : Nat) (l : List Tok) (en nest : Int) (out : Out) (w : World) (e : Ending) (w' : World) : Prop :=
  ∃ f A m c er, e = .returned (.tuple #[nodeV f A m c, er]) ∧ Kept x w w' ∧
    ((∃ kd k', out = .ok (⟨f, kd⟩, k') ∧ er = .nilIface ∧ kd.len = m ∧ KidsAt w' P kd A ∧ Pc w' x l en k' nest) ∨
     (∃ b k2, out = .error b ∧ IsBad b ∧ er = errV b ∧ Pc w' x l en k2 nest))
abbrev CPost (B x : Nat) (l : List Tok) (en nest : Int) (out : Out) (w : World) (e : Ending) (w' : World) : Prop := CPostP (fun g => B ≤ g) x l en nest out w e w'
theorem CPost.ok {P : Nat → Prop} {x b k' m c : Nat} {l : List Tok} {en nest : Int} {f : Fld} {kd : Fo} {A : Option Addr} {w V W : World} {out : Out} (ho : out = .ok (⟨f, kd⟩, k')) (hK : Kept x w V) (hP : Pc V x l en k' nest) (hn : kd.len = m) (hA : KidsAt V (fun g => P g ∧ g ≠ b) kd A) (hb : w.heap.size ≤ b) (hx : x < w.heap.size) (hk : Kept b V W) :
    CPostP P x l en nest out w (.returned (.tuple #[nodeV f A m c, .nilIface])) W :=
  ⟨f, A, m, c, _, rfl, hK.then_ hk hb, Or.inl ⟨kd, k', ho, rfl, hn, hA.keep hk (fun g hg _ => ⟨hg.2, hg.1⟩), hP.kept hk (by omega)⟩⟩
theorem CPost.err {P : Nat → Prop} {x b k2 m c : Nat} {l : List Tok} {en nest : Int} {f : Fld} {A : Option Addr} {w V W : World} {out : Out} {bad : Bad} (ho : out = .error bad) (hi : IsBad bad) (hK : Kept x w V) (hP : Pc V x l en k2 nest) (hb : w.heap.size ≤ b) (hx : x < w.heap.size) (hk : Kept b V W) :
    CPostP P x l en nest out w (.returned (.tuple #[nodeV f A m c, errV bad])) W :=
  ⟨f, A, m, c, _, rfl, hK.then_ hk hb, Or.inr ⟨bad, k2, ho, hi, rfl, hP.kept hk (by omega)⟩⟩
theorem CPost.on {B B' x b m c : Nat} {l : List Tok} {en nest : Int} {f : Fld} {A : Option Addr} {er : Value} {w V W : World} {out : Out}
    (h : (∃ kd k', out = .ok (⟨f, kd⟩, k') ∧ er = .nilIface ∧ kd.len = m ∧ KidsAt V (fun g => B' ≤ g) kd A ∧ Pc V x l en k' nest) ∨ (∃ b k2, out = .error b ∧ IsBad b ∧ er = errV b ∧ Pc V x l en k2 nest))
    (hK : Kept x w V) (hB : B ≤ B') (hbB : b < B') (hb : w.heap.size ≤ b) (hx : x < w.heap.size) (hk : Kept b V W) :
    CPost B x l en nest out w (.returned (.tuple #[nodeV f A m c, er])) W := by
  rcases h with ⟨kd, k', ho, rfl, hn, hA, hP⟩ | ⟨bad, k2, ho, hi, rfl, hP⟩
  · exact CPost.ok ho hK hP hn (hA.keep (Kept.refl V.heap.size _) (fun g hg hl => ⟨by omega, by omega, by omega⟩)) hb hx hk
  · exact CPost.err ho hi hK hP hb hx hk
def Enters (g : Nat) : Prop := ∀ args w, (callFunc g args).run Tryz.prog w = .ok (.enter g args) w
set_option maxRecDepth 100000 in
set_option maxHeartbeats 4000000 in
theorem cnested {x : Nat} (g : Nat) (pre : Array Value) (w : World) (hx : x < w.heap.size) :
    Calls Tryz.prog 130 #[.pointer (some ⟨x, 0, none⟩), .func (.func g) pre #[]] w fun e w' => ∃ b1 b2, e = .returned (.func (.func 141) #[] #[.pointer (some ⟨b1, 0, none⟩), .pointer (some ⟨b2, 0, none⟩)]) ∧ Below w.heap.size w w' ∧
      w'.cell? ⟨b1, 0, none⟩ = some (.pointer (some ⟨x, 0, none⟩)) ∧ w'.cell? ⟨b2, 0, none⟩ = some (.func (.func g) pre #[]) ∧ x < b1 ∧ x < b2 ∧ w.heap.size ≤ b1 ∧ w.heap.size ≤ b2 := by
  go_enter Tryz.func130, Tryz.ntmps130
  go_wp2_with fail
  go_ret
  exact ⟨_, _, rfl, ((Below.refl _ _).alloc (Nat.le_refl _) _).alloc (by simp) _, by simp, by simp, by omega, by omega, by omega, by omega⟩
set_option maxRecDepth 100000 in
set_option maxHeartbeats 4000000 in
theorem cnested1 {x k g : Nat} {l : List Tok} {en nest : Int} {F : Nat → Out} {b1 b2 : Nat} (eg : ∀ args w, (callFunc g args).run Tryz.prog w = .ok (.enter g args) w) (w : World) (h : Pc w x l en k nest) (hn0 : 0 ≤ nest) (hn1 : nest ≤ 40)
    (h1 : w.cell? ⟨b1, 0, none⟩ = some (.pointer (some ⟨x, 0, none⟩))) (h2 : w.cell? ⟨b2, 0, none⟩ = some (.func (.func g) #[.pointer (some ⟨x, 0, none⟩)] #[])) (hx1 : b1 ≠ x) (hx2 : b2 ≠ x)
    (hm : nest < 40 → ∀ w', Kept x w w' → Pc w' x l en k (nest + 1) → Calls Tryz.prog g #[.pointer (some ⟨x, 0, none⟩)] w' (CPost w'.heap.size x l en (nest + 1) (F k) w')) :
    Calls Tryz.prog 141 #[.pointer (some ⟨b1, 0, none⟩), .pointer (some ⟨b2, 0, none⟩)] w (CPost w.heap.size x l en nest (if nest < 40 then F k else .error deepE) w) := by
  have hxw := h.lt
  obtain ⟨A, c, hp, hp2, hp3⟩ := h.ex
  have q2 : w.cell? ⟨x, 2, none⟩ = some (.int .i64 nest) := by simp [World.cell?, hp]
  have z2 : w.frozen? ⟨x, 2, none⟩ = false := by simp [World.frozen?, hp]
  clear hp hp2 hp3
  have HI := Lib.hid h
  clear h
  have hb1 := World.block_lt_of_cell? w _ h1
  have hb2 := World.block_lt_of_cell? w _ h2
  simp only at hb1 hb2
  by_cases hin : nest < 40
  · rw [if_pos hin]
    have hd : ¬ nest = 40 := by omega
    have ne1 : x ≠ w.heap.size := by omega
    have ne2 : w.heap.size ≠ x := by omega
    have HM := Lib.hid (hm hin)
    clear hm
    go_enter Tryz.func141, Tryz.ntmps141
    go_wp2_with fail
    have K1 : Kept x w ((w.setCell ⟨x, 2, none⟩ (.int .i64 (nest + 1))).alloc (.cells #[.int .i64 0, .int .i64 0, .int .i64 0, .string { data := #[] }, .int .i64 0, .int .i64 0, .int .i64 0, .int .i64 0, .string { data := #[] }, .slice none 0 0] 30)) := ((Kept.refl x w).setCell _ _).alloc _
    have X1 : NBox ((w.setCell ⟨x, 2, none⟩ (.int .i64 (nest + 1))).alloc (.cells #[.int .i64 0, .int .i64 0, .int .i64 0, .string { data := #[] }, .int .i64 0, .int .i64 0, .int .i64 0, .int .i64 0, .string { data := #[] }, .slice none 0 0] 30)) w.heap.size := by
      have := NBox.new (w.setCell ⟨x, 2, none⟩ (.int .i64 (nest + 1)))
      rwa [show (w.setCell ⟨x, 2, none⟩ (.int .i64 (nest + 1))).heap.size = w.heap.size by simp [World.setCell]] at this
    refine (HM.out _ K1 ((HI.out.setN (nest + 1)).alloc _)).mono ?_
    generalize ((w.setCell ⟨x, 2, none⟩ (.int .i64 (nest + 1))).alloc (.cells #[.int .i64 0, .int .i64 0, .int .i64 0, .string { data := #[] }, .int .i64 0, .int .i64 0, .int .i64 0, .int .i64 0, .string { data := #[] }, .slice none 0 0] 30)) = W1 at *
    have lt1 := X1.lt
    rintro e w3 ⟨f, A, m, c, er, rfl, k3, hp3⟩
    have X3 := X1.kept k3 ne2
    have K3 := K1.trans k3
    have h13 := (k3.cell hx1 (K1.cell hx1 h1))
    have lt3 := X3.lt
    have P3 : ∃ kk, Pc w3 x l en kk (nest + 1) := by
      rcases hp3 with ⟨kd, k', -, -, -, -, h⟩ | ⟨b, k2, -, -, -, h⟩
      · exact ⟨_, h⟩
      · exact ⟨_, h⟩
    obtain ⟨kk, P3⟩ := P3
    obtain ⟨A3, c3, hp, -, -⟩ := P3.ex
    have q3 : w3.cell? ⟨x, 2, none⟩ = some (.int .i64 (nest + 1)) := by simp [World.cell?, hp]
    have y3 : w3.frozen? ⟨x, 2, none⟩ = false := by simp [World.frozen?, hp]
    clear hp q2 z2 h1 h2
    have hx3 := P3.lt
    have na1 : x ≠ w3.heap.size := by omega
    have na2 : w3.heap.size ≠ x := by omega
    have hb3 : b1 < w3.heap.size := by omega
    have na3 : b1 ≠ w3.heap.size := by omega
    have na4 : w.heap.size ≠ w3.heap.size := by omega
    have na5 : w3.heap.size ≠ w.heap.size := by omega
    have HP := Lib.hid hp3
    clear hp3
    unfold nodeV
    obtain ⟨f0, f1, f2, f3, f4, f5, f6, f7, f8, f9, z0, z1, z2, z3, z4, z5, z6, z7, z8, z9⟩ := (X3).cells
    go_wp2_with fail
    refine bodyPost_ret (v := .tuple #[.agg #[.int .i64 f.k, .int .i64 f.vk, .int .i64 f.vn, .string f.vs, .int .i64 f.r1, .int .i64 f.r2, .int .i64 f.r3, .int .i64 f.r4, .string f.op, .slice A m c], er]) (by simp [results, Tryz.results141, go_sem, f0, f1, f2, f3, f4, f5, f6, f7, f8, f9, lt3]) rfl ?_
    rcases HP.out with ⟨kd, k', ho, rfl, hn, hA, hP⟩ | ⟨bad, k2, ho, hi, rfl, hP⟩
    · refine CPost.ok (f := f) (A := A) (m := m) (c := c) (b := w.heap.size) (V := w3.setCell ⟨x, 2, none⟩ (.int .i64 nest)) ho (K3.setCell _ _) ?_ hn (hA.keep (Q := fun g => w.heap.size ≤ g ∧ g ≠ w.heap.size) ((Kept.refl x w3).setCell _ _) (fun g hg hl => ⟨by omega, by omega, by omega⟩)) (Nat.le_refl _) hxw ?_
      · exact hP.setN nest
      · repeat (first | with_reducible exact Kept.refl _ _ | with_reducible refine Kept.setCell ?_ _ _ | with_reducible refine Kept.alloc ?_ _)
    · refine CPost.err (f := f) (A := A) (m := m) (c := c) (b := w.heap.size) (V := w3.setCell ⟨x, 2, none⟩ (.int .i64 nest)) ho hi (K3.setCell _ _) (hP.setN nest) (Nat.le_refl _) hxw ?_
      repeat (first | with_reducible exact Kept.refl _ _ | with_reducible refine Kept.setCell ?_ _ _ | with_reducible refine Kept.alloc ?_ _)
  · rw [if_neg hin]
    obtain rfl : nest = 40 := by omega
    go_enter Tryz.func141, Tryz.ntmps141
    go_wp2_with fail
    refine bodyPost_ret (v := .tuple #[.agg #[.int .i64 0, .int .i64 0, .int .i64 0, .string { data := #[] }, .int .i64 0, .int .i64 0, .int .i64 0, .int .i64 0, .string { data := #[] }, .slice none 0 0], errV deepE]) (by simp [results, Tryz.results141, go_sem, errV_deep]) rfl (CPost.err (f := fld0) (A := none) (m := 0) (c := 0) (b := w.heap.size) (V := w) rfl isBad_deep (Kept.refl _ _) HI.out (Nat.le_refl _) hxw ?_)
    repeat (first | with_reducible exact Kept.refl _ _ | with_reducible refine Kept.setCell ?_ _ _ | with_reducible refine Kept.alloc ?_ _)
end Go.Proofs.YtccigjelbnjcoaaGreatDoor.TreeC
namespace Go.Proofs.YtccigjelbnjcoaaGreatDoor.TreeC
set_option linter.unusedVariables false
open Go.RowKit Go.Proofs.YtccigjelbnjcoaaGreatDoor.NumC Go.Proofs.YtccigjelbnjcoaaGreatDoor.LexC
def Fo.nth : Fo → Nat → Nd
  | .nil, _ => zeroN
  | .cons f k _, 0 => ⟨f, k⟩
  | .cons _ _ n, i + 1 => n.nth i
def Fo.drop : Fo → Nat → Fo
  | x, 0 => x
  | .nil, _ + 1 => .nil
  | .cons _ _ n, i + 1 => n.drop i
theorem Fo.drop_nth : ∀ (x : Fo) (i : Nat), i < x.len → x.drop i = .cons (x.nth i).f (x.nth i).kids (x.drop (i + 1))
  | .nil, i, h => by simp [Fo.len] at h
  | .cons f k n, 0, h => by simp [Fo.drop, Fo.nth]
  | .cons f k n, i + 1, h => by
    have := Fo.drop_nth n i (by simpa [Fo.len] using h)
    simpa [Fo.drop, Fo.nth] using this
theorem Fo.drop_len : ∀ (x : Fo) (i : Nat), x.len ≤ i → x.drop i = .nil
  | .nil, 0, _ => rfl
  | .nil, i + 1, _ => rfl
  | .cons f k n, 0, h => by simp [Fo.len] at h
  | .cons f k n, i + 1, h => by simpa [Fo.drop] using Fo.drop_len n i (by simpa [Fo.len] using h)
theorem Fo.nth_size : ∀ (x : Fo) (i : Nat), i < x.len → (x.nth i).size ≤ x.size
  | .nil, i, h => by simp [Fo.len] at h
  | .cons f k n, 0, h => by simp [Fo.nth, Nd.size, Fo.size]
  | .cons f k n, i + 1, h => by
    have := Fo.nth_size n i (by simpa [Fo.len] using h)
    simp only [Fo.nth, Fo.size]; omega
theorem Fo.len_size : ∀ (x : Fo), x.len ≤ x.size
  | .nil => Nat.le_refl _
  | .cons f k n => by have := Fo.len_size n; simp only [Fo.len, Fo.size]; omega
theorem Fo.deep_size : ∀ (x : Fo), x.deep ≤ x.size
  | .nil => Nat.le_refl _
  | .cons f k n => by have := Fo.deep_size n; have := Fo.deep_size k; simp only [Fo.deep, Fo.size]; omega
theorem below_row {w w' : World} {fo : Fo} {A : Option Addr} (h : KidsAt w (fun g => g < w.heap.size) fo A) (hb : Below w.heap.size w w') : KidsAt w' (fun g => g < w'.heap.size) fo A :=
  h.keep (Kept.of (x := w.heap.size) hb) (fun g hg _ => ⟨by omega, by have := hb.size; omega⟩)
theorem RowAt.nth {w : World} {P : Nat → Prop} : ∀ (x : Fo) (g o i : Nat), RowAt w P x g o → i < x.len → ∃ A c, KidsAt w P (x.nth i).kids A ∧ P g ∧
    w.cell? ⟨g, o + i * 10, none⟩ = some (.int .i64 (x.nth i).f.k) ∧ w.cell? ⟨g, o + i * 10 + 1, none⟩ = some (.int .i64 (x.nth i).f.vk) ∧ w.cell? ⟨g, o + i * 10 + 2, none⟩ = some (.int .i64 (x.nth i).f.vn) ∧ w.cell? ⟨g, o + i * 10 + 3, none⟩ = some (.string (x.nth i).f.vs) ∧
    w.cell? ⟨g, o + i * 10 + 4, none⟩ = some (.int .i64 (x.nth i).f.r1) ∧ w.cell? ⟨g, o + i * 10 + 5, none⟩ = some (.int .i64 (x.nth i).f.r2) ∧ w.cell? ⟨g, o + i * 10 + 6, none⟩ = some (.int .i64 (x.nth i).f.r3) ∧ w.cell? ⟨g, o + i * 10 + 7, none⟩ = some (.int .i64 (x.nth i).f.r4) ∧
    w.cell? ⟨g, o + i * 10 + 8, none⟩ = some (.string (x.nth i).f.op) ∧ w.cell? ⟨g, o + i * 10 + 9, none⟩ = some (.slice A (x.nth i).kids.len c)
  | .nil, g, o, i, _, h => by simp [Fo.len] at h
  | .cons f k n, g, o, 0, hr, h => by
    obtain ⟨⟨hp, f0, f1, f2, f3, f4, f5, f6, f7, f8⟩, ⟨A, c, f9, hk⟩, -⟩ := hr
    exact ⟨A, c, hk, hp, by simpa [Fo.nth] using f0, by simpa [Fo.nth] using f1, by simpa [Fo.nth] using f2, by simpa [Fo.nth] using f3, by simpa [Fo.nth] using f4, by simpa [Fo.nth] using f5, by simpa [Fo.nth] using f6, by simpa [Fo.nth] using f7, by simpa [Fo.nth] using f8, by simpa [Fo.nth] using f9⟩
  | .cons f k n, g, o, i + 1, hr, h => by
    have := RowAt.nth n g (o + 10) i hr.2.2 (by simpa [Fo.len] using h)
    simp only [Fo.nth]
    rwa [show o + 10 + i * 10 = o + (i + 1) * 10 from by omega] at this
def Fo.room : Fo → Int → Int
  | .nil, r => r
  | .cons _ k n, r => if r < 0 then r else n.room (k.room (r - 1))
def Nd.room (a : Nd) (r : Int) : Int := a.kids.room (r - 1)
theorem Fo.room_neg : ∀ (x : Fo) (r : Int), r < 0 → x.room r = r
  | .nil, r, h => rfl
  | .cons f k n, r, h => by simp [Fo.room, h]
theorem Fo.room_ok : ∀ (x : Fo) (r : Int), (x.size : Int) ≤ r → x.room r = r - x.size
  | .nil, r, h => by simp [Fo.room, Fo.size]
  | .cons f k n, r, h => by
    simp only [Fo.size] at h
    rw [Fo.room, if_neg (by omega), Fo.room_ok k (r - 1) (by omega), Fo.room_ok n _ (by omega)]
    simp only [Fo.size]; omega
theorem Fo.room_big : ∀ (x : Fo) (r : Int), 0 ≤ r → r < (x.size : Int) → x.room r = -1
  | .nil, r, h0, h => by simp [Fo.size] at h; omega
  | .cons f k n, r, h0, h => by
    simp only [Fo.size] at h
    rw [Fo.room, if_neg (by omega)]
    by_cases h1 : r - 1 < 0
    · rw [Fo.room_neg k _ h1, Fo.room_neg n _ h1]; omega
    · by_cases hk : (k.size : Int) ≤ r - 1
      · rw [Fo.room_ok k _ hk]
        exact Fo.room_big n _ (by omega) (by omega)
      · rw [Fo.room_big k _ (by omega) (by omega), Fo.room_neg n _ (by omega)]
theorem Nd.room_le (a : Nd) {r : Int} (h : 0 ≤ r) : 0 ≤ a.room r ↔ (a.size : Int) ≤ r := by
  unfold Nd.room Nd.size
  by_cases hk : (a.kids.size : Int) ≤ r - 1
  · rw [Fo.room_ok _ _ hk]; omega
  · by_cases h1 : r - 1 < 0
    · rw [Fo.room_neg _ _ h1]; omega
    · rw [Fo.room_big _ _ (by omega) (by omega)]; omega
theorem Nd.room_lo (a : Nd) {r : Int} (h : 0 ≤ r) : -1 ≤ a.room r ∧ a.room r ≤ r := by
  unfold Nd.room
  by_cases hk : (a.kids.size : Int) ≤ r - 1
  · rw [Fo.room_ok _ _ hk]; omega
  · by_cases h1 : r - 1 < 0
    · rw [Fo.room_neg _ _ h1]; omega
    · rw [Fo.room_big _ _ (by omega) (by omega)]; omega
set_option maxRecDepth 100000 in
set_option maxHeartbeats 1000000 in
theorem croom : ∀ (n : Nat) (a : Nd) (A : Option Addr) (c : Nat) (r : Int) (w : World), a.size ≤ n → a.size ≤ 1000000 → 0 ≤ r → r ≤ 2000 → KidsAt w (fun g => g < w.heap.size) a.kids A →
    Calls Tryz.prog 63 #[.agg #[.int .i64 a.f.k, .int .i64 a.f.vk, .int .i64 a.f.vn, .string a.f.vs, .int .i64 a.f.r1, .int .i64 a.f.r2, .int .i64 a.f.r3, .int .i64 a.f.r4, .string a.f.op, .slice A a.kids.len c], .int .i64 r] w fun e w' => e = .returned (.int .i64 (a.room r)) ∧ Below w.heap.size w w' := by
  intro n
  induction n with
  | zero => intro a A c r w h _; exact absurd h (by unfold Nd.size; omega)
  | succ n ih =>
    intro a A c r w hsz hsm hr0 hr1 hK
    obtain ⟨f, kd⟩ := a
    simp only at hK ⊢
    have HK := Lib.hid hK
    clear hK
    have hlen : kd.len ≤ 1000000 := by have := Fo.len_size kd; have : (Nd.mk f kd).size = 1 + kd.size := rfl; omega
    have hkz : kd.size ≤ n := by have : (Nd.mk f kd).size = 1 + kd.size := rfl; omega
    have hks : kd.size ≤ 1000000 := by have : (Nd.mk f kd).size = 1 + kd.size := rfl; omega
    go_enter Tryz.func63, Tryz.ntmps63
    go_wp2
    go_loopw [1, 5] (fun rv iv wr => ∃ (i : Nat) (q : Int), i ≤ kd.len ∧ rv = .int .i64 q ∧ iv = .int .i64 i ∧ -1 ≤ q ∧ q ≤ 2000 ∧ Below w.heap.size w wr ∧ Hid (wr.cell? ⟨w.heap.size, 9, none⟩ = some (.slice A kd.len c)) ∧ Hid ((kd.drop i).room q = kd.room (r - 1))) (fun _ iv _ => kd.len - (intOf iv).toNat)
    case atStart => exact ⟨0, r - 1, Nat.zero_le _, rfl, rfl, by omega, by omega, (Below.refl _ _).alloc (Nat.le_refl _) _, Lib.hid (by simp), Lib.hid (by cases kd <;> rfl)⟩
    case round =>
      obtain ⟨i, q, hi, rfl, rfl, hq0, hq1, hB, H9, HR⟩ := hrel
      have HKr := below_row HK.out hB
      have h9 := H9.out
      by_cases hlt : i < kd.len
      · have d1 : (i : Int) < (kd.len : Int) := by omega
        by_cases hq : 0 ≤ q
        · obtain ⟨g, o, rfl, hrow⟩ : ∃ g o, A = some ⟨g, o, none⟩ ∧ RowAt wr (fun g => g < wr.heap.size) kd g o := by
            rcases HKr with h | h
            · rw [h] at hlt; exact absurd hlt (by simp [Fo.len])
            · exact h
          obtain ⟨A2, c2, hk2, hp, f0, f1, f2, f3, f4, f5, f6, f7, f8, f9⟩ := RowAt.nth kd g o i hrow hlt
          have hn1 := Fo.nth_size kd i hlt
          have HI := Lib.hid (ih (kd.nth i) A2 c2 q wr (by omega) (by omega) hq hq1 hk2)
          have hlo := Nd.room_lo (kd.nth i) hq
          have HN : Hid ((kd.drop (i + 1)).room ((kd.nth i).room q) = kd.room (r - 1)) := by
            have e := HR.out
            rw [Fo.drop_nth kd i hlt, Fo.room, if_neg (by omega)] at e
            exact Lib.hid e
          clear hrow hk2 HKr ih hn1
          generalize kd.nth i = b at *
          go_wp2_with fail
          refine HI.out.mono ?_; rintro e w2 ⟨rfl, hb2⟩
          go_wp2_with fail
          go_roundw
          case rel => exact ⟨i + 1, b.room q, by omega, rfl, by go_num, by omega, by omega, hB.trans (hb2.mono hB.size), Lib.hid (cell_later hb2 H9.out), HN⟩
          case measure => simp [intOf]; omega
        · have E : Hid (kd.room (r - 1) = q) := Lib.hid (HR.out.symm.trans (Fo.room_neg _ _ (by omega)))
          clear ih HKr
          go_wp2_with fail
          go_ret
          exact ⟨by show Ending.returned (.int .i64 q) = _; rw [← E.out]; rfl, hB⟩
      · have E : Hid (kd.room (r - 1) = q) := Lib.hid (by rw [← HR.out, Fo.drop_len kd i (by omega)]; rfl)
        have d1 : ¬ (i : Int) < (kd.len : Int) := by omega
        clear ih HKr
        go_wp2_with fail
        go_ret
        exact ⟨by show Ending.returned (.int .i64 q) = _; rw [← E.out]; rfl, hB⟩
set_option maxRecDepth 100000 in
set_option maxHeartbeats 1000000 in
theorem csmall (a : Nd) (A : Option Addr) (c : Nat) (w : World) (hsm : a.size ≤ 1000000) (hK : KidsAt w (fun g => g < w.heap.size) a.kids A) :
    Calls Tryz.prog 48 #[.agg #[.int .i64 a.f.k, .int .i64 a.f.vk, .int .i64 a.f.vn, .string a.f.vs, .int .i64 a.f.r1, .int .i64 a.f.r2, .int .i64 a.f.r3, .int .i64 a.f.r4, .string a.f.op, .slice A a.kids.len c]] w fun e w' => e = .returned (.bool (decide (a.size ≤ 2000))) ∧ Below w.heap.size w w' := by
  have HK := Lib.hid hK
  clear hK
  have E : Hid (decide (0 ≤ a.room 2000) = decide (a.size ≤ 2000)) := Lib.hid (by have := Nd.room_le a (r := 2000) (by omega); exact decide_eq_decide.2 (this.trans (by omega)))
  obtain ⟨f, kd⟩ := a
  simp only at *
  go_enter Tryz.func48, Tryz.ntmps48
  go_wp2_with fail
  have hb1 : Below w.heap.size w (w.alloc (.cells #[.int .i64 f.k, .int .i64 f.vk, .int .i64 f.vn, .string f.vs, .int .i64 f.r1, .int .i64 f.r2, .int .i64 f.r3, .int .i64 f.r4, .string f.op, .slice A kd.len c] 30)) := (Below.refl _ _).alloc (Nat.le_refl _) _
  refine (croom (Nd.mk f kd).size ⟨f, kd⟩ A c 2000 _ (Nat.le_refl _) hsm (by omega) (by omega) (below_row HK.out hb1)).mono ?_; rintro e w2 ⟨rfl, hb2⟩
  go_wp2_with fail
  go_ret
  exact ⟨by rw [← E.out]; rfl, hb1.trans (hb2.mono hb1.size)⟩
theorem Fo.deep_drop : ∀ (x : Fo) (i : Nat) (h : i < x.len), (x.drop i).deep = max (x.nth i).deep (x.drop (i + 1)).deep := by
  intro x i h
  rw [Fo.drop_nth x i h]
  simp only [Fo.deep, Nd.deep]
set_option maxRecDepth 100000 in
set_option maxHeartbeats 1000000 in
theorem cdepth : ∀ (n : Nat) (a : Nd) (A : Option Addr) (c : Nat) (w : World), a.size ≤ n → a.size ≤ 1000000 → KidsAt w (fun g => g < w.heap.size) a.kids A →
    Calls Tryz.prog 49 #[.agg #[.int .i64 a.f.k, .int .i64 a.f.vk, .int .i64 a.f.vn, .string a.f.vs, .int .i64 a.f.r1, .int .i64 a.f.r2, .int .i64 a.f.r3, .int .i64 a.f.r4, .string a.f.op, .slice A a.kids.len c]] w fun e w' => e = .returned (.int .i64 (a.deep : Nat)) ∧ Below w.heap.size w w' := by
  intro n
  induction n with
  | zero => intro a A c w h _; exact absurd h (by unfold Nd.size; omega)
  | succ n ih =>
    intro a A c w hsz hsm hK
    obtain ⟨f, kd⟩ := a
    simp only at hK ⊢
    have HK := Lib.hid hK
    clear hK
    have hlen : kd.len ≤ 1000000 := by have := Fo.len_size kd; have : (Nd.mk f kd).size = 1 + kd.size := rfl; omega
    have hkz : kd.size ≤ n := by have : (Nd.mk f kd).size = 1 + kd.size := rfl; omega
    have hks : kd.size ≤ 1000000 := by have : (Nd.mk f kd).size = 1 + kd.size := rfl; omega
    have hdd : kd.deep ≤ 1000000 := Nat.le_trans (Fo.deep_size kd) hks
    go_enter Tryz.func49, Tryz.ntmps49
    go_wp2
    go_loopw [3, 9] (fun dv iv wr => ∃ (i d : Nat), i ≤ kd.len ∧ dv = .int .i64 d ∧ iv = .int .i64 i ∧ Below w.heap.size w wr ∧ Hid (max d (kd.drop i).deep = kd.deep)) (fun _ iv _ => kd.len - (intOf iv).toNat)
    case atStart => exact ⟨0, 0, Nat.zero_le _, rfl, rfl, (Below.refl _ _).alloc (Nat.le_refl _) _, Lib.hid (by cases kd <;> simp [Fo.drop])⟩
    case round =>
      obtain ⟨i, d, hi, rfl, rfl, hB, HR⟩ := hrel
      have HKr := below_row HK.out hB
      by_cases hlt : i < kd.len
      · have d1 : (i : Int) < (kd.len : Int) := by omega
        obtain ⟨g, o, rfl, hrow⟩ : ∃ g o, A = some ⟨g, o, none⟩ ∧ RowAt wr (fun g => g < wr.heap.size) kd g o := by
          rcases HKr with h | h
          · rw [h] at hlt; exact absurd hlt (by simp [Fo.len])
          · exact h
        obtain ⟨A2, c2, hk2, hp, f0, f1, f2, f3, f4, f5, f6, f7, f8, f9⟩ := RowAt.nth kd g o i hrow hlt
        have hn1 := Fo.nth_size kd i hlt
        have hB2 : Below wr.heap.size wr (wr.alloc (.cells #[.int .i64 (kd.nth i).f.k, .int .i64 (kd.nth i).f.vk, .int .i64 (kd.nth i).f.vn, .string (kd.nth i).f.vs, .int .i64 (kd.nth i).f.r1, .int .i64 (kd.nth i).f.r2, .int .i64 (kd.nth i).f.r3, .int .i64 (kd.nth i).f.r4, .string (kd.nth i).f.op, .slice A2 (kd.nth i).kids.len c2] 30)) := (Below.refl _ _).alloc (Nat.le_refl _) _
        have HI := Lib.hid (ih (kd.nth i) A2 c2 _ (by omega) (by omega) (below_row hk2 hB2))
        have HB2 := Lib.hid hB2
        have HN : Hid (max (max d (kd.nth i).deep) (kd.drop (i + 1)).deep = kd.deep) := Lib.hid (by rw [Nat.max_assoc, ← Fo.deep_drop kd i hlt]; exact HR.out)
        have hm1 : max d (kd.nth i).deep ≤ 1000000 := by have := HN.out; omega
        clear hrow hk2 HKr ih hn1 hB2
        generalize kd.nth i = b at *
        go_wp2_with fail
        refine HI.out.mono ?_; rintro e w2 ⟨rfl, hb2⟩
        go_wp2_with fail
        go_roundw
        case rel => exact ⟨i + 1, max d b.deep, by omega, by congr 1; omega, by go_num, hB.trans ((HB2.out.trans (hb2.mono HB2.out.size)).mono hB.size), HN⟩
        case measure => simp [intOf]; omega
      · have E : Hid (kd.deep = d) := Lib.hid (by rw [← HR.out, Fo.drop_len kd i (by omega)]; simp [Fo.deep])
        have d1 : ¬ (i : Int) < (kd.len : Int) := by omega
        have hd : d ≤ 1000000 := by have := E.out; omega
        clear ih HKr
        go_wp2_with fail
        go_ret
        refine ⟨?_, hB⟩
        show Ending.returned (.int .i64 ((d : Int) + 1)) = .returned (.int .i64 (((1 + kd.deep : Nat)) : Int))
        rw [E.out]
        congr 2; omega
set_option maxRecDepth 100000 in
set_option maxHeartbeats 1000000 in
theorem cDepth (a : Nd) (A : Option Addr) (c : Nat) (w : World) (hsm : a.size ≤ 1000000) (hK : KidsAt w (fun g => g < w.heap.size) a.kids A) :
    Calls Tryz.prog 61 #[.agg #[.int .i64 a.f.k, .int .i64 a.f.vk, .int .i64 a.f.vn, .string a.f.vs, .int .i64 a.f.r1, .int .i64 a.f.r2, .int .i64 a.f.r3, .int .i64 a.f.r4, .string a.f.op, .slice A a.kids.len c]] w fun e w' => e = .returned (.int .i64 ((if a.size ≤ 2000 then a.deep else 0 : Nat) : Int)) ∧ Below w.heap.size w w' := by
  have hb1 : Below w.heap.size w (w.alloc (.cells #[.int .i64 a.f.k, .int .i64 a.f.vk, .int .i64 a.f.vn, .string a.f.vs, .int .i64 a.f.r1, .int .i64 a.f.r2, .int .i64 a.f.r3, .int .i64 a.f.r4, .string a.f.op, .slice A a.kids.len c] 30)) := (Below.refl _ _).alloc (Nat.le_refl _) _
  have L1 : NLoc (w.alloc (.cells #[.int .i64 a.f.k, .int .i64 a.f.vk, .int .i64 a.f.vn, .string a.f.vs, .int .i64 a.f.r1, .int .i64 a.f.r2, .int .i64 a.f.r3, .int .i64 a.f.r4, .string a.f.op, .slice A a.kids.len c] 30)) w.heap.size a.f A a.kids.len c := ⟨heap_alloc_new _ _⟩
  have HK := Lib.hid (below_row hK hb1)
  clear hK
  generalize hD : (if a.size ≤ 2000 then a.deep else 0) = D
  have HD := Lib.hid hD.symm
  clear hD
  go_enter Tryz.func61, Tryz.ntmps61
  go_wp2_with fail
  generalize (w.alloc (.cells #[.int .i64 a.f.k, .int .i64 a.f.vk, .int .i64 a.f.vn, .string a.f.vs, .int .i64 a.f.r1, .int .i64 a.f.r2, .int .i64 a.f.r3, .int .i64 a.f.r4, .string a.f.op, .slice A a.kids.len c] 30)) = W1 at *
  refine (csmall a A c W1 hsm HK.out).mono ?_; rintro e w2 ⟨rfl, hb2⟩
  have HK2 := Lib.hid (below_row HK.out hb2)
  have L2 := L1.kept (Kept.of (x := W1.heap.size) hb2) (Nat.ne_of_lt L1.lt)
  have HB := Lib.hid (hb1.trans (hb2.mono hb1.size))
  clear hb1 hb2 HK L1
  by_cases h : a.size ≤ 2000
  · obtain ⟨d0, d1, d2, d3, d4, d5, d6, d7, d8, d9, dz0, dz1, dz2, dz3, dz4, dz5, dz6, dz7, dz8, dz9⟩ := (L2).cells
    have e1 : decide (a.size ≤ 2000) = true := decide_eq_true h
    have e2 : Hid (D = a.deep) := Lib.hid (HD.out.trans (if_pos h))
    go_wp2_with fail
    refine (cdepth a.size a A c w2 (Nat.le_refl _) hsm HK2.out).mono ?_; rintro e w3 ⟨rfl, hb3⟩
    go_wp2_with fail
    go_ret
    exact ⟨by rw [e2.out]; rfl, HB.out.trans (hb3.mono HB.out.size)⟩
  · have e1 : decide (a.size ≤ 2000) = false := decide_eq_false h
    have e2 : Hid (D = 0) := Lib.hid (HD.out.trans (if_neg h))
    go_wp2_with fail
    go_ret
    exact ⟨by rw [e2.out]; rfl, HB.out⟩
end Go.Proofs.YtccigjelbnjcoaaGreatDoor.TreeC
namespace Go.Proofs.YtccigjelbnjcoaaGreatDoor.TreeC
set_option linter.unusedVariables false
open Go.Proofs.YtccigjelbnjcoaaGreatDoor.NumC Go.Proofs.YtccigjelbnjcoaaGreatDoor.LexC
theorem Fo.drop_app : ∀ (x y : Fo) (i : Nat), i ≤ x.len → (x.app y).drop i = (x.drop i).app y
  | .nil, y, i, h => by
    obtain rfl : i = 0 := by simpa [Fo.len] using h
    cases y <;> rfl
  | .cons f k n, y, 0, _ => rfl
  | .cons f k n, y, i + 1, h => by
    have := Fo.drop_app n y i (by simp only [Fo.len] at h; omega)
    exact this
theorem Fo.nth_app : ∀ (x y : Fo) (i : Nat), i < x.len → (x.app y).nth i = x.nth i
  | .nil, y, i, h => absurd h (by simp [Fo.len])
  | .cons f k n, y, 0, _ => rfl
  | .cons f k n, y, i + 1, h => Fo.nth_app n y i (by simp only [Fo.len] at h; omega)
theorem Fo.drop_zero (x : Fo) : x.drop 0 = x := by cases x <;> rfl
theorem Fo.size_drop (x : Fo) (i : Nat) (h : i < x.len) : (x.drop i).size = 1 + (x.nth i).kids.size + (x.drop (i + 1)).size := by
  rw [Fo.drop_nth x i h]; rfl
theorem Fo.queue (q : Fo) (k : Nat) (h : k < q.len) : ((q.app (q.nth k).kids).drop (k + 1)) = (q.drop (k + 1)).app (q.nth k).kids := Fo.drop_app _ _ _ h
theorem Fo.queue_size (q : Fo) (k s : Nat) (h : k < q.len) (hs : k + (q.drop k).size = s) : (k + 1) + ((q.app (q.nth k).kids).drop (k + 1)).size = s := by
  rw [Fo.queue q k h, Fo.size_app, ← hs, Fo.size_drop q k h]; omega
def Fo.under : Fo → Fo
  | .nil => .nil
  | .cons _ k n => k.app n.under
theorem Fo.under_deep (x : Fo) : x.under.deep = x.deep - 1 := by
  induction x with
  | nil => rfl
  | cons f k n _ ih => simp only [Fo.under, Fo.deep_app, Fo.deep, ih]; omega
theorem Fo.under_size (x : Fo) : x.under.size + x.len = x.size := by
  induction x with
  | nil => rfl
  | cons f k n _ ih => simp only [Fo.under, Fo.size_app, Fo.size, Fo.len]; omega
theorem Fo.under_step (x : Fo) (i : Nat) (h : i < x.len) : (x.drop i).under = (x.nth i).kids.app (x.drop (i + 1)).under := by rw [Fo.drop_nth x i h]; rfl
theorem Fo.deep_nil {x : Fo} (h : x.len = 0) : x.deep = 0 := by
  cases x with
  | nil => rfl
  | cons f k n => simp [Fo.len] at h
theorem Fo.deep_pos {x : Fo} (h : 0 < x.len) : 0 < x.deep := by
  cases x with
  | nil => simp [Fo.len] at h
  | cons f k n => simp only [Fo.deep]; omega
theorem Fo.take_app : ∀ (x : Fo) (i : Nat), i < x.len → ∀ y : Fo, x.drop i = y → y.len = x.len - i
  | .nil, i, h, _, _ => absurd h (by simp [Fo.len])
  | .cons f k n, 0, _, y, e => by subst e; simp [Fo.drop_zero]
  | .cons f k n, i + 1, h, y, e => by
    have h' : i < n.len := by simp only [Fo.len] at h; omega
    have := Fo.take_app n i h' y e
    simp only [Fo.len]; omega
theorem Fo.len_drop (x : Fo) (i : Nat) : (x.drop i).len = x.len - i := by
  by_cases h : i < x.len
  · exact Fo.take_app x i h _ rfl
  · rw [Fo.drop_len x i (by omega)]; simp [Fo.len]; omega
end Go.Proofs.YtccigjelbnjcoaaGreatDoor.TreeC
namespace Go.Proofs.YtccigjelbnjcoaaGreatDoor.RefsC
set_option linter.unusedVariables false
open Go.Proofs.YtccigjelbnjcoaaGreatDoor.AddrC (Cell cellB beforeB FineP fineB MeetP meetB HasP hasB)
open Go.Proofs.YtccigjelbnjcoaaGreatDoor.TreeC
structure Rc where
  a : Int
  b : Int
  c : Int
  d : Int
  deriving DecidableEq
def aheadB (x y : Rc) : Bool := if x.a = y.a ∧ x.b = y.b then beforeB x.c x.d y.c y.d else beforeB x.a x.b y.a y.b
theorem ahead_iff (x y : Rc) : aheadB x y = true ↔ (x.a < y.a ∨ x.a = y.a ∧ (x.b < y.b ∨ x.b = y.b ∧ (x.c < y.c ∨ x.c = y.c ∧ x.d < y.d))) := by
  unfold aheadB beforeB
  split <;> rename_i h <;> rw [decide_eq_true_eq] <;> omega
theorem ahead_irrefl (x : Rc) : aheadB x x = false := by
  cases h : aheadB x x
  · rfl
  · rw [ahead_iff] at h; omega
theorem ahead_trans {x y z : Rc} (h : aheadB x y = true) (g : aheadB y z = true) : aheadB x z = true := by
  rw [ahead_iff] at h g ⊢; omega
theorem ahead_asymm {x y : Rc} (h : aheadB x y = true) : aheadB y x = false := by
  cases g : aheadB y x
  · rfl
  · rw [ahead_iff] at h g; omega
theorem ahead_total {x y : Rc} (h : aheadB x y = false) (g : aheadB y x = false) : x = y := by
  have h1 : ¬ _ := fun e => absurd ((ahead_iff x y).2 e) (by rw [h]; decide)
  have h2 : ¬ _ := fun e => absurd ((ahead_iff y x).2 e) (by rw [g]; decide)
  obtain ⟨a, b, c, d⟩ := x
  obtain ⟨a', b', c', d'⟩ := y
  simp only at h1 h2
  have e1 : a = a' := by omega
  have e2 : b = b' := by omega
  have e3 : c = c' := by omega
  have e4 : d = d' := by omega
  rw [e1, e2, e3, e4]
def putL : List Rc → Rc → List Rc
  | [], r => [r]
  | x :: l, r => if aheadB x r then x :: putL l r else if x = r then x :: l else r :: x :: l
theorem put_mem (l : List Rc) (r x : Rc) : x ∈ putL l r ↔ x ∈ l ∨ x = r := by
  induction l with
  | nil => simp [putL]
  | cons y l ih =>
    unfold putL
    split
    · rw [List.mem_cons, List.mem_cons, ih]; exact or_assoc.symm
    · split
      · rename_i e
        subst e
        constructor
        · exact Or.inl
        · rintro (h | h)
          · exact h
          · exact List.mem_cons.2 (Or.inl h)
      · rw [List.mem_cons, List.mem_cons]; exact or_comm
def Srt (l : List Rc) : Prop := l.Pairwise (fun x y => aheadB x y = true)
theorem put_srt {l : List Rc} (h : Srt l) (r : Rc) : Srt (putL l r) := by
  induction l with
  | nil => exact List.pairwise_singleton _ _
  | cons y l ih =>
    obtain ⟨h1, h2⟩ := List.pairwise_cons.1 h
    unfold putL
    split
    · rename_i hy
      refine List.pairwise_cons.2 ⟨fun x hx => ?_, ih h2⟩
      rcases (put_mem l r x).1 hx with hx | hx
      · exact h1 x hx
      · rw [hx]; exact hy
    · rename_i hy
      split
      · exact h
      · rename_i ne
        have hr : aheadB r y = true := by
          cases e : aheadB r y
          · exact absurd (ahead_total (by simpa using hy) e) ne
          · rfl
        refine List.pairwise_cons.2 ⟨fun x hx => ?_, h⟩
        rcases List.mem_cons.1 hx with hx | hx
        · rw [hx]; exact hr
        · exact ahead_trans hr (h1 x hx)
theorem srt_ext : ∀ {l m : List Rc}, Srt l → Srt m → (∀ x, x ∈ l ↔ x ∈ m) → l = m
  | [], [], _, _, _ => rfl
  | [], y :: m, _, _, h => absurd ((h y).2 (List.mem_cons_self ..)) (by simp)
  | x :: l, [], _, _, h => absurd ((h x).1 (List.mem_cons_self ..)) (by simp)
  | x :: l, y :: m, hl, hm, h => by
    obtain ⟨l1, l2⟩ := List.pairwise_cons.1 hl
    obtain ⟨m1, m2⟩ := List.pairwise_cons.1 hm
    have e : x = y := by
      rcases List.mem_cons.1 ((h x).1 (List.mem_cons_self ..)) with e | hx
      · exact e
      · rcases List.mem_cons.1 ((h y).2 (List.mem_cons_self ..)) with e | hy
        · exact e.symm
        · have := ahead_asymm (l1 y hy)
          rw [m1 x hx] at this; cases this
    subst e
    rw [srt_ext l2 m2 (fun z => ?_)]
    have hz := h z
    rw [List.mem_cons, List.mem_cons] at hz
    constructor
    · intro h1
      rcases hz.1 (Or.inr h1) with e | h2
      · subst e; have := l1 _ h1; rw [ahead_irrefl] at this; cases this
      · exact h2
    · intro h1
      rcases hz.2 (Or.inr h1) with e | h2
      · subst e; have := m1 _ h1; rw [ahead_irrefl] at this; cases this
      · exact h2
def placeL : List Rc → Rc → Nat
  | [], _ => 0
  | x :: l, r => if aheadB x r then placeL l r + 1 else 0
theorem place_le (l : List Rc) (r : Rc) : placeL l r ≤ l.length := by
  induction l with
  | nil => exact Nat.le_refl 0
  | cons x l ih => unfold placeL; split <;> simp <;> omega
theorem put_at (l : List Rc) (r : Rc) : putL l r = if l[placeL l r]? = some r then l else l.take (placeL l r) ++ r :: l.drop (placeL l r) := by
  induction l with
  | nil => rfl
  | cons x l ih =>
    unfold putL placeL
    by_cases h : aheadB x r = true
    · rw [if_pos h, if_pos h, ih]
      simp only [List.getElem?_cons_succ, List.take_succ_cons, List.drop_succ_cons, List.cons_append]
      split <;> rfl
    · rw [if_neg h, if_neg h]
      simp only [List.getElem?_cons_zero, Option.some.injEq, List.take_zero, List.drop_zero, List.nil_append]
theorem place_ahead (l : List Rc) (r : Rc) (i : Nat) (hi : i < placeL l r) : ∃ x, l[i]? = some x ∧ aheadB x r = true := by
  induction l generalizing i with
  | nil => exact absurd hi (Nat.not_lt_zero _)
  | cons x l ih =>
    unfold placeL at hi
    split at hi
    · rename_i h
      cases i with
      | zero => exact ⟨x, rfl, h⟩
      | succ i => exact ih i (by omega)
    · exact absurd hi (Nat.not_lt_zero _)
theorem place_stop (l : List Rc) (r x : Rc) (h : l[placeL l r]? = some x) : aheadB x r = false := by
  induction l with
  | nil => cases h
  | cons y l ih =>
    unfold placeL at h
    split at h
    · exact ih h
    · rename_i hy
      rw [List.getElem?_cons_zero] at h
      rw [← Option.some.inj h]
      simpa using hy
theorem place_of {l : List Rc} {r : Rc} {k : Nat} (h : ∀ i, i < k → ∃ x, l[i]? = some x ∧ aheadB x r = true) (hk : k = l.length ∨ ∃ x, l[k]? = some x ∧ aheadB x r = false) : placeL l r = k := by
  rcases Nat.lt_trichotomy (placeL l r) k with hlt | he | hgt
  · obtain ⟨x, hx, ha⟩ := h _ hlt
    rw [place_stop l r x hx] at ha; cases ha
  · exact he
  · rcases hk with hk | ⟨x, hx, ha⟩
    · have := place_le l r; omega
    · obtain ⟨y, hy, hb⟩ := place_ahead l r k hgt
      rw [hx] at hy
      rw [← Option.some.inj hy, ha] at hb; cases hb
def rcOf (f : Fld) : List Rc := if f.k = 2 then [⟨f.r1, f.r2, f.r1, f.r2⟩] else if f.k = 3 then [⟨f.r1, f.r2, f.r3, f.r4⟩] else []
def namesF : Fo → List Rc
  | .nil => []
  | .cons f k n => rcOf f ++ (namesF k ++ namesF n)
def putsL (l : List Rc) (m : List Rc) : List Rc := m.foldl putL l
theorem puts_mem (m l : List Rc) (x : Rc) : x ∈ putsL l m ↔ x ∈ l ∨ x ∈ m := by
  induction m generalizing l with
  | nil => simp [putsL]
  | cons y m ih =>
    show x ∈ putsL (putL l y) m ↔ _
    rw [ih, put_mem, List.mem_cons, or_assoc]
theorem puts_srt (m : List Rc) {l : List Rc} (h : Srt l) : Srt (putsL l m) := by
  induction m generalizing l with
  | nil => exact h
  | cons y m ih => exact ih (put_srt h y)
theorem srt_nil : Srt [] := List.Pairwise.nil
def refsL (a : Nd) : List Rc := putsL [] (namesF a.one)
theorem refs_srt (a : Nd) : Srt (refsL a) := puts_srt _ srt_nil
theorem refs_mem (a : Nd) (x : Rc) : x ∈ refsL a ↔ x ∈ namesF a.one := by unfold refsL; rw [puts_mem]; simp
theorem refs_of {a : Nd} {l : List Rc} (hs : Srt l) (hm : ∀ x, x ∈ l ↔ x ∈ namesF a.one) : l = refsL a := srt_ext hs (refs_srt a) (fun x => (hm x).trans (refs_mem a x).symm)
def hitsL (l : List Rc) (r c : Int) : Bool := l.any fun x => hasB x.a x.b x.c x.d r c
def rowL (l : List Rc) (r : Int) : Nat := ((List.range 50).filter fun (c : Nat) => hitsL l r ((c : Int) + 1)).length
def cellsL (l : List Rc) : Nat := ((List.range 1000).map fun (r : Nat) => rowL l ((r : Int) + 1)).sum
theorem hits_iff (l : List Rc) (r c : Int) : hitsL l r c = true ↔ ∃ x, x ∈ l ∧ HasP x.a x.b x.c x.d r c := by
  unfold hitsL hasB
  rw [List.any_eq_true]
  constructor
  · rintro ⟨x, h, g⟩; exact ⟨x, h, of_decide_eq_true g⟩
  · rintro ⟨x, h, g⟩; exact ⟨x, h, decide_eq_true g⟩
theorem hits_append (l m : List Rc) (r c : Int) : hitsL (l ++ m) r c = (hitsL l r c || hitsL m r c) := by unfold hitsL; exact List.any_append
theorem hits_grid {l : List Rc} {r c : Int} (h : hitsL l r c = true) : Cell r c := by
  obtain ⟨x, -, ⟨hf, h1, h2, h3, h4⟩⟩ := (hits_iff l r c).1 h
  obtain ⟨⟨⟨g1, g2⟩, g3, g4⟩, ⟨⟨g5, g6⟩, g7, g8⟩, -, -⟩ := hf
  exact ⟨⟨by omega, by omega⟩, by omega, by omega⟩
theorem hits_ext {l m : List Rc} (h : ∀ x, x ∈ l ↔ x ∈ m) (r c : Int) : hitsL l r c = hitsL m r c := by
  rw [Bool.eq_iff_iff, hits_iff, hits_iff]
  exact ⟨fun ⟨x, a, b⟩ => ⟨x, (h x).1 a, b⟩, fun ⟨x, a, b⟩ => ⟨x, (h x).2 a, b⟩⟩
end Go.Proofs.YtccigjelbnjcoaaGreatDoor.RefsC
namespace Go.Proofs.YtccigjelbnjcoaaGreatDoor.RefsC
set_option linter.unusedVariables false
open Go.RowKit Go.Proofs.YtccigjelbnjcoaaGreatDoor.NumC
def RAt (w : World) (B : Nat) (l : List Rc) (A : Option Addr) : Prop := l = [] ∨ ∃ g o, A = some ⟨g, o, none⟩ ∧ g < B ∧ ∀ i x, l[i]? = some x →
  w.cell? ⟨g, o + i * 4, none⟩ = some (.int .i64 x.a) ∧ w.cell? ⟨g, o + i * 4 + 1, none⟩ = some (.int .i64 x.b) ∧ w.cell? ⟨g, o + i * 4 + 2, none⟩ = some (.int .i64 x.c) ∧ w.cell? ⟨g, o + i * 4 + 3, none⟩ = some (.int .i64 x.d)
theorem RAt.below {w w' : World} {B : Nat} {l : List Rc} {A : Option Addr} (h : RAt w B l A) (hb : Below B w w') : RAt w' B l A := by
  rcases h with h | ⟨g, o, e, hg, h⟩
  · exact Or.inl h
  · refine Or.inr ⟨g, o, e, hg, fun i x hx => ?_⟩
    obtain ⟨h0, h1, h2, h3⟩ := h i x hx
    exact ⟨(hb.cell (p := ⟨g, _, none⟩) hg).trans h0, (hb.cell (p := ⟨g, _, none⟩) hg).trans h1, (hb.cell (p := ⟨g, _, none⟩) hg).trans h2, (hb.cell (p := ⟨g, _, none⟩) hg).trans h3⟩
theorem RAt.mono {w : World} {B C : Nat} {l : List Rc} {A : Option Addr} (h : RAt w B l A) (hb : B ≤ C) : RAt w C l A := by
  rcases h with h | ⟨g, o, e, hg, h⟩
  · exact Or.inl h
  · exact Or.inr ⟨g, o, e, by omega, h⟩
theorem RAt.nth {w : World} {B : Nat} {l : List Rc} {A : Option Addr} (h : RAt w B l A) (i : Nat) (x : Rc) (hx : l[i]? = some x) : ∃ g o, A = some ⟨g, o, none⟩ ∧ g < B ∧
    w.cell? ⟨g, o + i * 4, none⟩ = some (.int .i64 x.a) ∧ w.cell? ⟨g, o + i * 4 + 1, none⟩ = some (.int .i64 x.b) ∧ w.cell? ⟨g, o + i * 4 + 2, none⟩ = some (.int .i64 x.c) ∧ w.cell? ⟨g, o + i * 4 + 3, none⟩ = some (.int .i64 x.d) := by
  rcases h with h | ⟨g, o, e, hg, h⟩
  · rw [h] at hx; cases hx
  · exact ⟨g, o, e, hg, h i x hx⟩
theorem nth_some (l : List Rc) (i : Nat) (h : i < l.length) : ∃ x, l[i]? = some x := ⟨l[i], List.getElem?_eq_getElem h⟩
def RBox (w : World) (b : Nat) (x : Rc) : Prop := w.heap[b]? = some (.cells #[.int .i64 x.a, .int .i64 x.b, .int .i64 x.c, .int .i64 x.d] 27 (0, 0))
theorem RBox.new (w : World) (x : Rc) : RBox (w.alloc (.cells #[.int .i64 x.a, .int .i64 x.b, .int .i64 x.c, .int .i64 x.d] 27)) w.heap.size x := heap_alloc_new _ _
theorem RBox.lt {w : World} {b : Nat} {x : Rc} (h : RBox w b x) : b < w.heap.size := (Array.getElem?_eq_some_iff.1 h).1
theorem RBox.below {w w' : World} {b n : Nat} {x : Rc} (h : RBox w b x) (hb : Below n w w') (hn : b < n) : RBox w' b x := (hb.block b hn).trans h
theorem RBox.cells {w : World} {b : Nat} {x : Rc} (h : RBox w b x) : w.cell? ⟨b, 0, none⟩ = some (.int .i64 x.a) ∧ w.cell? ⟨b, 1, none⟩ = some (.int .i64 x.b) ∧ w.cell? ⟨b, 2, none⟩ = some (.int .i64 x.c) ∧ w.cell? ⟨b, 3, none⟩ = some (.int .i64 x.d) := by
  unfold RBox at h
  unfold World.cell?
  simp [h]
theorem below_drew {n : Nat} {w w' : World} (h : Below n w w') : Below n w w'.drew := ⟨h.os, h.tape, h.output, h.size, h.block⟩
end Go.Proofs.YtccigjelbnjcoaaGreatDoor.RefsC
namespace Go.Proofs.YtccigjelbnjcoaaGreatDoor.TreeC
set_option linter.unusedVariables false
open Go.RowKit Go.Proofs.YtccigjelbnjcoaaGreatDoor.NumC Go.Proofs.YtccigjelbnjcoaaGreatDoor.LexC
def closedF (l : List Tok) (n : Int) (o : Out) : Out := match o with
  | .error e => .error e
  | .ok (a, k') => match closeF l n k' with
    | .error e => .error e
    | .ok k'' => .ok (a, k'')
theorem closed_err {l : List Tok} {n : Int} {o : Out} {b : Bad} (h : o = .error b) : closedF l n o = .error b := by subst h; rfl
theorem closed_no {l : List Tok} {n : Int} {o : Out} {a : Nd} {k' : Nat} (h : o = .ok (a, k')) (hs : isSign l k' [41] = false) : closedF l n o = .error (badAt l n k') := by subst h; simp [closedF, close_no hs]
theorem closed_yes {l : List Tok} {n : Int} {o : Out} {a : Nd} {k' : Nat} (h : o = .ok (a, k')) (hs : isSign l k' [41] = true) : closedF l n o = .ok (a, k' + 1) := by subst h; simp [closedF, close_ok hs]
set_option maxRecDepth 100000 in
set_option maxHeartbeats 4000000 in
theorem cclosed {x k g : Nat} {l : List Tok} {en nest : Int} {F : Nat → Out} {lb : Array Value} (eg : ∀ args w, (callFunc g args).run Tryz.prog w = .ok (.enter g args) w) (w : World) (h : Pc w x l en k nest) (hl : l.length ≤ 300)
    (hm : ∀ w', Kept x w w' → Pc w' x l en k nest → Calls Tryz.prog g lb w' (CPost w'.heap.size x l en nest (F k) w')) :
    Calls Tryz.prog 160 #[.pointer (some ⟨x, 0, none⟩), .func (.func g) #[] lb] w (CPost w.heap.size x l en nest (closedF l en (F k)) w) := by
  have hxw := h.lt
  have HI := Lib.hid h
  clear h
  have ne1 : x ≠ w.heap.size := by omega
  have ne2 : w.heap.size ≠ x := by omega
  have HM := Lib.hid hm
  have B41 : Hid (({ data := #[41] } : ByteArray) = str [41]) := Lib.hid rfl
  clear hm
  go_enter Tryz.func160, Tryz.ntmps160
  go_wp2_with fail
  have K1 : Kept x w (w.alloc (.cells #[.int .i64 0, .int .i64 0, .int .i64 0, .string { data := #[] }, .int .i64 0, .int .i64 0, .int .i64 0, .int .i64 0, .string { data := #[] }, .slice none 0 0] 30)) := (Kept.refl x w).alloc _
  have X1 := NBox.new w
  refine (HM.out _ K1 (HI.out.alloc _)).mono ?_
  generalize (w.alloc (.cells #[.int .i64 0, .int .i64 0, .int .i64 0, .string { data := #[] }, .int .i64 0, .int .i64 0, .int .i64 0, .int .i64 0, .string { data := #[] }, .slice none 0 0] 30)) = W1 at *
  have lt1 := X1.lt
  rintro e w3 ⟨f, A, m, c, er, rfl, k3, hp3⟩
  have X3 := X1.kept k3 ne2
  have K3 := K1.trans k3
  have lt3 := X3.lt
  have hx3 : x < w3.heap.size := by have := k3.size; omega
  have na1 : x ≠ w3.heap.size := by omega
  have na2 : w3.heap.size ≠ x := by omega
  have na4 : w.heap.size ≠ w3.heap.size := by omega
  have na5 : w3.heap.size ≠ w.heap.size := by omega
  unfold nodeV
  rcases hp3 with ⟨kd, k', ho, rfl, hn, hA, hP⟩ | ⟨bad, k2, ho, hi, rfl, hP⟩
  · have HO := Lib.hid ho
    clear ho
    have VL : NLoc (w3.alloc (.cells #[.int .i64 f.k, .int .i64 f.vk, .int .i64 f.vn, .string f.vs, .int .i64 f.r1, .int .i64 f.r2, .int .i64 f.r3, .int .i64 f.r4, .string f.op, .slice A m c] 30)) w3.heap.size f A m c := ⟨heap_alloc_new _ _⟩
    have X4 := X3.kept ((Kept.refl x w3).alloc (.cells #[.int .i64 f.k, .int .i64 f.vk, .int .i64 f.vn, .string f.vs, .int .i64 f.r1, .int .i64 f.r2, .int .i64 f.r3, .int .i64 f.r4, .string f.op, .slice A m c] 30)) ne2
    have K4 := K3.alloc (.cells #[.int .i64 f.k, .int .i64 f.vk, .int .i64 f.vn, .string f.vs, .int .i64 f.r1, .int .i64 f.r2, .int .i64 f.r3, .int .i64 f.r4, .string f.op, .slice A m c] 30)
    have P4 := Lib.hid (hP.alloc (.cells #[.int .i64 f.k, .int .i64 f.vk, .int .i64 f.vn, .string f.vs, .int .i64 f.r1, .int .i64 f.r2, .int .i64 f.r3, .int .i64 f.r4, .string f.op, .slice A m c] 30))
    have hA4 := hA.keep (Q := fun g => w.heap.size < g ∧ g ≠ w3.heap.size) ((Kept.refl x w3).alloc (.cells #[.int .i64 f.k, .int .i64 f.vk, .int .i64 f.vn, .string f.vs, .int .i64 f.r1, .int .i64 f.r2, .int .i64 f.r3, .int .i64 f.r4, .string f.op, .slice A m c] 30)) (fun g hg hl => ⟨by omega, by omega, by omega⟩)
    have s4 : w3.heap.size < (w3.alloc (.cells #[.int .i64 f.k, .int .i64 f.vk, .int .i64 f.vn, .string f.vs, .int .i64 f.r1, .int .i64 f.r2, .int .i64 f.r3, .int .i64 f.r4, .string f.op, .slice A m c] 30)).heap.size := VL.lt
    clear hP hA
    go_wp2_with fail
    generalize (w3.alloc (.cells #[.int .i64 f.k, .int .i64 f.vk, .int .i64 f.vn, .string f.vs, .int .i64 f.r1, .int .i64 f.r2, .int .i64 f.r3, .int .i64 f.r4, .string f.op, .slice A m c] 30)) = V at *
    rw [B41.out]
    refine (cseesSign [41] V P4.out hl).mono ?_; rintro e w5 ⟨rfl, hb5⟩
    have k5 : Kept x V w5 := Kept.of hb5
    have X5 := X4.kept k5 ne2
    have K5 := K4.trans k5
    have P5 := Lib.hid (P4.out.below hb5)
    have VL5 := VL.kept k5 na2
    have hA5 := hA4.keep (Q := fun g => w.heap.size < g ∧ g ≠ w3.heap.size) k5 (fun g hg hl => ⟨by omega, hg⟩)
    have s5 := VL5.lt
    clear X4 K4 P4 VL hA4 hb5 k5
    cases hs : isSign l k' [41]
    · go_wp2_with fail
      refine (cmisplaced w5 P5.out hl).mono ?_; rintro e w6 ⟨rfl, q, rfl⟩
      have k6 := (Kept.refl x w5).drew q
      have X6 := X5.kept k6 ne2
      have K6 := K5.trans k6
      have P6 := P5.out.drew q
      obtain ⟨f0, f1, f2, f3, f4, f5, f6, f7, f8, f9, z0, z1, z2, z3, z4, z5, z6, z7, z8, z9⟩ := (X6).cells
      go_wp2_with fail
      refine bodyPost_ret (v := .tuple #[.agg #[.int .i64 0, .int .i64 0, .int .i64 0, .string { data := #[] }, .int .i64 0, .int .i64 0, .int .i64 0, .int .i64 0, .string { data := #[] }, .slice none 0 0], errV (badAt l en k')]) (by simp [results, Tryz.results160, go_sem, f0, f1, f2, f3, f4, f5, f6, f7, f8, f9]) rfl (CPost.err (f := fld0) (A := none) (m := 0) (c := 0) (b := w.heap.size) (V := w5.drewN q) (closed_no HO.out hs) (isBad_at _ _ _) K6 P6 (Nat.le_refl _) hxw ?_)
      repeat (first | with_reducible exact Kept.refl _ _ | with_reducible refine Kept.setCell ?_ _ _ | with_reducible refine Kept.alloc ?_ _)
    · have hlt := sign_lt hs
      go_wp2_with fail
      refine (ctake w5 P5.out hlt).mono ?_; rintro e w6 ⟨rfl, P6, k6⟩
      have X6 := X5.kept k6 ne2
      have K6 := K5.trans k6
      have VL6 := VL5.kept k6 na2
      have hA6 := hA5.keep (Q := fun g => w.heap.size ≤ g ∧ g ≠ w.heap.size) k6 (fun g hg hl => ⟨by omega, by omega, by omega⟩)
      have s6 := VL6.lt
      obtain ⟨d0, d1, d2, d3, d4, d5, d6, d7, d8, d9, dz0, dz1, dz2, dz3, dz4, dz5, dz6, dz7, dz8, dz9⟩ := (VL6).cells
      obtain ⟨f0, f1, f2, f3, f4, f5, f6, f7, f8, f9, z0, z1, z2, z3, z4, z5, z6, z7, z8, z9⟩ := (X6).cells
      go_wp2_with fail
      refine bodyPost_ret (v := .tuple #[.agg #[.int .i64 f.k, .int .i64 f.vk, .int .i64 f.vn, .string f.vs, .int .i64 f.r1, .int .i64 f.r2, .int .i64 f.r3, .int .i64 f.r4, .string f.op, .slice A m c], .nilIface]) (by simp [results, Tryz.results160, go_sem, f0, f1, f2, f3, f4, f5, f6, f7, f8, f9]) rfl (CPost.ok (f := f) (A := A) (m := m) (c := c) (b := w.heap.size) (V := w6) (closed_yes HO.out hs) K6 P6 hn hA6 (Nat.le_refl _) hxw ?_)
      repeat (first | with_reducible exact Kept.refl _ _ | with_reducible refine Kept.setCell ?_ _ _ | with_reducible refine Kept.alloc ?_ _)
  · obtain ⟨T, u, hT⟩ := errV_some bad
    have HO := Lib.hid ho
    have P3 := Lib.hid hP
    clear ho hP
    rw [hT]
    obtain ⟨f0, f1, f2, f3, f4, f5, f6, f7, f8, f9, z0, z1, z2, z3, z4, z5, z6, z7, z8, z9⟩ := (X3).cells
    go_wp2_with fail
    refine bodyPost_ret (v := .tuple #[.agg #[.int .i64 0, .int .i64 0, .int .i64 0, .string { data := #[] }, .int .i64 0, .int .i64 0, .int .i64 0, .int .i64 0, .string { data := #[] }, .slice none 0 0], .iface T u]) (by simp [results, Tryz.results160, go_sem, f0, f1, f2, f3, f4, f5, f6, f7, f8, f9, lt3]) rfl (hT ▸ CPost.err (f := fld0) (A := none) (m := 0) (c := 0) (b := w.heap.size) (V := w3) (closed_err HO.out) hi K3 P3.out (Nat.le_refl _) hxw ?_)
    repeat (first | with_reducible exact Kept.refl _ _ | with_reducible refine Kept.setCell ?_ _ _ | with_reducible refine Kept.alloc ?_ _)
theorem field_S (k n : Int) (s : ByteArray) (a : Int) (w : World) : (Instr.field 80 (.agg #[.int .i64 k, .int .i64 n, .string s, .int .i64 a]) 2).run Tryz.prog w = .ok (.string s) w := by kernel_rfl
theorem cpair_kids {w : World} {Q : Nat → Prop} {f g : Fld} {A B : Option Addr} {n m c d b : Nat} {ka kb : Fo} (hb : Q b) (h : w.heap[b]? = some (.cells ((nodeV f A n c).cells ++ (nodeV g B m d).cells) 30 (0, 0)))
    (hn : ka.len = n) (hm : kb.len = m) (hA : KidsAt w Q ka A) (hB : KidsAt w Q kb B) : KidsAt w Q ((Nd.one ⟨f, ka⟩).app (Nd.one ⟨g, kb⟩)) (some ⟨b, 0, none⟩) :=
  Or.inr ⟨b, 0, rfl, rowAt_block hb (vs := [nodeV f A n c, nodeV g B m d]) ⟨⟨A, c, by rw [hn], hA⟩, ⟨⟨B, d, by rw [hm], hB⟩, trivial⟩⟩ h rfl⟩
def binF (op : List UInt8) (a : Nd) (o : Out) : Out := match o with
  | .error e => .error e
  | .ok (b, k') => .ok (pairN op a b, k')
theorem row_at2 (U : World) (a b : Obj) {n : Nat} (h : U.heap.size = n) : ((U.alloc a).alloc b).heap[n + 1]? = some b := by
  subst h
  have e : (U.alloc a).heap.size = U.heap.size + 1 := heap_one _ _
  rw [← e]; exact heap_alloc_new _ _
theorem cpair_fin {P : Nat → Prop} {x b k' n m c d pb : Nat} {l : List Tok} {en nest : Int} {op : List UInt8} {f g : Fld} {A C : Option Addr} {ka kb : Fo} {o : Out} {w V W : World} (hK : Kept x w V) (hP : Pc V x l en k' nest) (ho : o = .ok (⟨g, kb⟩, k'))
    (hn : ka.len = n) (hm : kb.len = m) (hA : KidsAt V (fun g => P g ∧ g ≠ b) ka A) (hB : KidsAt V (fun g => P g ∧ g ≠ b) kb C) (hpb : P pb ∧ pb ≠ b) (hb : w.heap.size ≤ b) (hx : x < w.heap.size) (hk : Kept b V W)
    (hr : W.heap[pb]? = some (.cells ((nodeV f A n c).cells ++ (nodeV g C m d).cells) 30 (0, 0))) :
    CPostP P x l en nest (binF op ⟨f, ka⟩ o) w (.returned (.tuple #[nodeV (pairFld (str op)) (some ⟨pb, 0, none⟩) 2 2, .nilIface])) W := by
  subst ho
  have hA' := hA.keep (Q := fun g => P g ∧ g ≠ b) hk (fun g hg _ => ⟨hg.2, hg⟩)
  have hB' := hB.keep (Q := fun g => P g ∧ g ≠ b) hk (fun g hg _ => ⟨hg.2, hg⟩)
  exact CPost.ok (b := b) (V := W) (kd := (Nd.one ⟨f, ka⟩).app (Nd.one ⟨g, kb⟩)) rfl (hK.then_ hk hb) (hP.kept hk (by omega)) rfl (cpair_kids (w := W) hpb hr hn hm hA' hB') hb hx (Kept.refl _ _)
set_option maxRecDepth 100000 in
set_option maxHeartbeats 4000000 in
theorem cbinary {P : Nat → Prop} {x k g : Nat} {l : List Tok} {en nest : Int} {F : Nat → Out} {pre post : Array Value} (eg : ∀ args w, (callFunc g args).run Tryz.prog w = .ok (.enter g args) w) (w : World) (h : Pc w x l en k nest) (hl : l.length ≤ 300)
    {t : Tok} (ht : l[k]? = some t) {op : List UInt8} (hop : t.s = str op) {f : Fld} {A : Option Addr} {m c : Nat} {kd : Fo} (hA : KidsAt w P kd A) (hn : kd.len = m) (hPx : ∀ g, P g → g ≠ x)
    (hm : ∀ w', Kept x w w' → Pc w' x l en (k + 1) nest → Calls Tryz.prog g (pre ++ post) w' (CPost w'.heap.size x l en nest (F (k + 1)) w')) :
    Calls Tryz.prog 81 #[.pointer (some ⟨x, 0, none⟩), nodeV f A m c, .func (.func g) pre post] w (CPostP (fun g => P g ∨ w.heap.size ≤ g) x l en nest (binF op ⟨f, kd⟩ (F (k + 1))) w) := by
  have hxw := h.lt
  have HI := Lib.hid h
  have hlt : k < l.length := (List.getElem?_eq_some_iff.1 ht).1
  have HT := Lib.hid ht
  clear h ht
  have HM := Lib.hid hm
  clear hm
  unfold nodeV
  have ne1 : x ≠ w.heap.size + 1 := by omega
  have ne2 : w.heap.size + 1 ≠ x := by omega
  have nf1 : x ≠ w.heap.size := by omega
  have nf2 : w.heap.size ≠ x := by omega
  have sz1 : (w.alloc (.cells #[.int .i64 f.k, .int .i64 f.vk, .int .i64 f.vn, .string f.vs, .int .i64 f.r1, .int .i64 f.r2, .int .i64 f.r3, .int .i64 f.r4, .string f.op, .slice A m c] 30)).heap.size = w.heap.size + 1 := heap_one _ _
  have K1 : Kept x w ((w.alloc (.cells #[.int .i64 f.k, .int .i64 f.vk, .int .i64 f.vn, .string f.vs, .int .i64 f.r1, .int .i64 f.r2, .int .i64 f.r3, .int .i64 f.r4, .string f.op, .slice A m c] 30)).alloc (.cells #[.int .i64 0, .int .i64 0, .int .i64 0, .string { data := #[] }, .int .i64 0, .int .i64 0, .int .i64 0, .int .i64 0, .string { data := #[] }, .slice none 0 0] 30)) := ((Kept.refl x w).alloc _).alloc _
  have X1 : NBox ((w.alloc (.cells #[.int .i64 f.k, .int .i64 f.vk, .int .i64 f.vn, .string f.vs, .int .i64 f.r1, .int .i64 f.r2, .int .i64 f.r3, .int .i64 f.r4, .string f.op, .slice A m c] 30)).alloc (.cells #[.int .i64 0, .int .i64 0, .int .i64 0, .string { data := #[] }, .int .i64 0, .int .i64 0, .int .i64 0, .int .i64 0, .string { data := #[] }, .slice none 0 0] 30)) (w.heap.size + 1) := by
    have := NBox.new (w.alloc (.cells #[.int .i64 f.k, .int .i64 f.vk, .int .i64 f.vn, .string f.vs, .int .i64 f.r1, .int .i64 f.r2, .int .i64 f.r3, .int .i64 f.r4, .string f.op, .slice A m c] 30)); rwa [sz1] at this
  have L1 : NLoc ((w.alloc (.cells #[.int .i64 f.k, .int .i64 f.vk, .int .i64 f.vn, .string f.vs, .int .i64 f.r1, .int .i64 f.r2, .int .i64 f.r3, .int .i64 f.r4, .string f.op, .slice A m c] 30)).alloc (.cells #[.int .i64 0, .int .i64 0, .int .i64 0, .string { data := #[] }, .int .i64 0, .int .i64 0, .int .i64 0, .int .i64 0, .string { data := #[] }, .slice none 0 0] 30)) w.heap.size f A m c := by
    have : NLoc (w.alloc (.cells #[.int .i64 f.k, .int .i64 f.vk, .int .i64 f.vn, .string f.vs, .int .i64 f.r1, .int .i64 f.r2, .int .i64 f.r3, .int .i64 f.r4, .string f.op, .slice A m c] 30)) w.heap.size f A m c := ⟨heap_alloc_new _ _⟩
    exact this.kept ((Kept.refl (w.heap.size + 1) _).alloc _) (by omega)
  have P1 := Lib.hid ((HI.out.alloc (.cells #[.int .i64 f.k, .int .i64 f.vk, .int .i64 f.vn, .string f.vs, .int .i64 f.r1, .int .i64 f.r2, .int .i64 f.r3, .int .i64 f.r4, .string f.op, .slice A m c] 30)).alloc (.cells #[.int .i64 0, .int .i64 0, .int .i64 0, .string { data := #[] }, .int .i64 0, .int .i64 0, .int .i64 0, .int .i64 0, .string { data := #[] }, .slice none 0 0] 30))
  have A1 := hA.keep (Q := fun g => (P g ∨ w.heap.size ≤ g) ∧ g ≠ x ∧ g ≠ w.heap.size ∧ g ≠ w.heap.size + 1) ((Kept.of (x := w.heap.size) (((Below.refl _ _).alloc (Nat.le_refl _) (.cells #[.int .i64 f.k, .int .i64 f.vk, .int .i64 f.vn, .string f.vs, .int .i64 f.r1, .int .i64 f.r2, .int .i64 f.r3, .int .i64 f.r4, .string f.op, .slice A m c] 30)).alloc (by rw [sz1]; omega) (.cells #[.int .i64 0, .int .i64 0, .int .i64 0, .string { data := #[] }, .int .i64 0, .int .i64 0, .int .i64 0, .int .i64 0, .string { data := #[] }, .slice none 0 0] 30)))) (fun g hg hl => ⟨by omega, Or.inl hg, hPx g hg, by omega, by omega⟩)
  clear hA
  go_enter Tryz.func81, Tryz.ntmps81
  go_wp2_with fail
  generalize ((w.alloc (.cells #[.int .i64 f.k, .int .i64 f.vk, .int .i64 f.vn, .string f.vs, .int .i64 f.r1, .int .i64 f.r2, .int .i64 f.r3, .int .i64 f.r4, .string f.op, .slice A m c] 30)).alloc (.cells #[.int .i64 0, .int .i64 0, .int .i64 0, .string { data := #[] }, .int .i64 0, .int .i64 0, .int .i64 0, .int .i64 0, .string { data := #[] }, .slice none 0 0] 30)) = W1 at *
  have lt1 := X1.lt
  refine (cahead0 W1 P1.out hl).mono ?_; rintro e w2 ⟨rfl, hb2⟩
  rw [HT.out]
  unfold tokV
  have k2 : Kept x W1 w2 := Kept.of hb2
  have K2 := K1.trans k2
  have X2 := X1.kept k2 ne2
  have L2 := L1.kept k2 nf2
  have P2 := Lib.hid (P1.out.below hb2)
  have A2 := A1.keep (Q := fun g => (P g ∨ w.heap.size ≤ g) ∧ g ≠ x ∧ g ≠ w.heap.size ∧ g ≠ w.heap.size + 1) k2 (fun g hg hl => ⟨hg.2.1, hg⟩)
  clear K1 X1 L1 P1 A1 hb2 k2
  have qS := field_S t.k t.n t.s t.at_ w2
  rw [hop] at qS
  go_wp2_with fail
  refine (ctake w2 P2.out hlt).mono ?_; rintro e w3 ⟨rfl, P3, k3⟩
  have K3 := K2.trans k3
  have X3 := X2.kept k3 ne2
  have L3 := L2.kept k3 nf2
  have A3 := A2.keep (Q := fun g => (P g ∨ w.heap.size ≤ g) ∧ g ≠ x ∧ g ≠ w.heap.size ∧ g ≠ w.heap.size + 1) k3 (fun g hg hl => ⟨hg.2.1, hg⟩)
  have s3 := X3.lt
  clear K2 X2 L2 P2 A2 k3
  go_wp2_with fail
  refine (HM.out _ K3 P3).mono ?_
  rintro e w4 ⟨g2, B2, m2, c2, er, rfl, k4, hp4⟩
  have K4 := K3.trans k4
  have X4 := X3.kept k4 ne2
  have L4 := L3.kept k4 nf2
  have A4 := A3.keep (Q := fun g => (P g ∨ w.heap.size ≤ g) ∧ g ≠ w.heap.size + 1) k4 (fun g hg hl => ⟨hg.2.1, hg.1, hg.2.2.2⟩)
  have lt3 := X4.lt
  have lt4 := L4.lt
  have hx4 : x < w4.heap.size := by have := k4.size; omega
  have na1 : x ≠ w4.heap.size := by omega
  have na2 : w4.heap.size ≠ x := by omega
  have na4 : w.heap.size + 1 ≠ w4.heap.size := by omega
  have na5 : w4.heap.size ≠ w.heap.size + 1 := by omega
  have na6 : w.heap.size ≠ w4.heap.size := by omega
  have na7 : w4.heap.size ≠ w.heap.size := by omega
  unfold nodeV
  rcases hp4 with ⟨kb, k', ho, rfl, hn2, hB2, hP⟩ | ⟨bad, kk, ho, hi, rfl, hP⟩
  · have HO := Lib.hid ho
    have HP := Lib.hid hP
    clear ho hP P3
    have B4 := hB2.keep (Q := fun g => (P g ∨ w.heap.size ≤ g) ∧ g ≠ w.heap.size + 1) (Kept.refl w4.heap.size w4) (fun g hg hl => ⟨by omega, Or.inr (by omega), by omega⟩)
    obtain ⟨d0, d1, d2, d3, d4, d5, d6, d7, d8, d9, dz0, dz1, dz2, dz3, dz4, dz5, dz6, dz7, dz8, dz9⟩ := (L4).cells
    obtain ⟨f0, f1, f2, f3, f4, f5, f6, f7, f8, f9, z0, z1, z2, z3, z4, z5, z6, z7, z8, z9⟩ := (X4).cells
    go_wp2_with fail
    refine bodyPost_ret (v := .tuple #[.agg #[.int .i64 5, .int .i64 0, .int .i64 0, .string { data := #[] }, .int .i64 0, .int .i64 0, .int .i64 0, .int .i64 0, .string (str op), .slice (some ⟨w4.heap.size + 1, 0, none⟩) 2 2], .nilIface]) (by simp [results, Tryz.results81, go_sem, f0, f1, f2, f3, f4, f5, f6, f7, f8, f9, lt3, lt4]) rfl (cpair_fin (c := c) (d := c2) (b := w.heap.size + 1) K4 HP.out HO.out hn hn2 A4 B4 ⟨Or.inr (by omega), by omega⟩ (by omega) hxw ?_ (by rw [row_at2 _ _ _ (show _ = w4.heap.size by simp)]; rfl))
    repeat (first | with_reducible exact Kept.refl _ _ | with_reducible refine Kept.setCell ?_ _ _ | with_reducible refine Kept.alloc ?_ _)
  · obtain ⟨T, u, hT⟩ := errV_some bad
    have HO := Lib.hid (show binF op ⟨f, kd⟩ (F (k + 1)) = .error bad by rw [ho]; rfl)
    have P4 := Lib.hid hP
    clear ho hP P3
    rw [hT]
    obtain ⟨f0, f1, f2, f3, f4, f5, f6, f7, f8, f9, z0, z1, z2, z3, z4, z5, z6, z7, z8, z9⟩ := (X4).cells
    go_wp2_with fail
    refine bodyPost_ret (v := .tuple #[.agg #[.int .i64 0, .int .i64 0, .int .i64 0, .string { data := #[] }, .int .i64 0, .int .i64 0, .int .i64 0, .int .i64 0, .string { data := #[] }, .slice none 0 0], .iface T u]) (by simp [results, Tryz.results81, go_sem, f0, f1, f2, f3, f4, f5, f6, f7, f8, f9, lt3]) rfl (hT ▸ CPost.err (f := fld0) (A := none) (m := 0) (c := 0) (b := w.heap.size + 1) (V := w4) HO.out hi K4 P4.out (by omega) hxw ?_)
    repeat (first | with_reducible exact Kept.refl _ _ | with_reducible refine Kept.setCell ?_ _ _ | with_reducible refine Kept.alloc ?_ _)
end Go.Proofs.YtccigjelbnjcoaaGreatDoor.TreeC
namespace Go.Proofs.YtccigjelbnjcoaaGreatDoor.TreeC
set_option linter.unusedVariables false
open Go.RowKit Go.Proofs.YtccigjelbnjcoaaGreatDoor.NumC Go.Proofs.YtccigjelbnjcoaaGreatDoor.LexC
theorem NLoc.store2 {w : World} {b n c : Nat} {f : Fld} {A : Option Addr} (h : NLoc w b f A n c) (g : Fld) (B : Option Addr) (m d : Nat) :
    NLoc ((((((((((w.setCell ⟨b, 0, none⟩ (.int .i64 g.k)).setCell ⟨b, 1, none⟩ (.int .i64 g.vk)).setCell ⟨b, 2, none⟩ (.int .i64 g.vn)).setCell ⟨b, 3, none⟩ (.string g.vs)).setCell ⟨b, 4, none⟩ (.int .i64 g.r1)).setCell ⟨b, 5, none⟩ (.int .i64 g.r2)).setCell ⟨b, 6, none⟩ (.int .i64 g.r3)).setCell ⟨b, 7, none⟩ (.int .i64 g.r4)).setCell ⟨b, 8, none⟩ (.string g.op)).setCell ⟨b, 9, none⟩ (.slice B m d)) b g B m d := by
  have h1 := h.at_
  exact ⟨by simp [World.setCell, Array.getElem?_modify, h1]⟩
def lenAt (w : World) (x : Nat) : Nat := match w.cell? ⟨x, 0, none⟩ with
  | some (.slice _ n _) => n
  | _ => 0
theorem Pc.len {w : World} {x k : Nat} {l : List Tok} {en nest : Int} (h : Pc w x l en k nest) : lenAt w x = l.length - k := by
  obtain ⟨A, c, h1, -⟩ := h.ex
  unfold lenAt
  rw [show w.cell? ⟨x, 0, none⟩ = some (.slice A (l.length - k) c) by simp [World.cell?, h1]]
def meas (v : Value) (w : World) (x : Nat) : Nat := match v with
  | .nilIface => lenAt w x + 1
  | _ => 0
theorem meas_nil (w : World) (x : Nat) : meas .nilIface w x = lenAt w x + 1 := rfl
theorem meas_err (w : World) (x : Nat) (b : Bad) : meas (errV b) w x = 0 := by
  obtain ⟨T, u, h⟩ := errV_some b
  rw [h]; rfl
def RMode (P : Nat → Prop) (x : Nat) (l : List Tok) (en nest : Int) (ss : List (List UInt8)) (part : Nat → Out) (O : Out) (wr : World) (f : Fld) (A : Option Addr) (m : Nat) (er : Value) : Prop :=
  (∃ kd k' r, O = rowF l part ss r ⟨f, kd⟩ k' ∧ er = .nilIface ∧ l.length < r + k' ∧ kd.len = m ∧ KidsAt wr P kd A ∧ Pc wr x l en k' nest) ∨
  (∃ b k2, O = .error b ∧ IsBad b ∧ er = errV b ∧ Pc wr x l en k2 nest)
def rowsF (l : List Tok) (ss : List (List UInt8)) (part : Nat → Out) (k : Nat) : Out := match part k with
  | .error e => .error e
  | .ok (a, k') => rowF l part ss 400 a k'
theorem rows_err {l : List Tok} {ss : List (List UInt8)} {part : Nat → Out} {k : Nat} {b : Bad} (h : part k = .error b) : rowsF l ss part k = .error b := by simp [rowsF, h]
theorem rows_go {l : List Tok} {ss : List (List UInt8)} {part : Nat → Out} {k k' : Nat} {a : Nd} (h : part k = .ok (a, k')) : rowsF l ss part k = rowF l part ss 400 a k' := by simp [rowsF, h]
set_option maxRecDepth 100000 in
set_option maxHeartbeats 600000 in
theorem crow_isAdding {x k g : Nat} {l : List Tok} {en nest : Int} {F : Nat → Out} (eg : ∀ args w, (callFunc g args).run Tryz.prog w = .ok (.enter g args) w) (w : World) (h : Pc w x l en k nest) (hl : l.length ≤ 300) (hF : Goes l F)
    (hm : ∀ k w', Kept x w w' → Pc w' x l en k nest → Calls Tryz.prog g #[.pointer (some ⟨x, 0, none⟩)] w' (CPost w'.heap.size x l en nest (F k) w')) :
    Calls Tryz.prog 98 #[.pointer (some ⟨x, 0, none⟩), .func (.func 99) #[] #[], .func (.func g) #[.pointer (some ⟨x, 0, none⟩)] #[]] w (CPost w.heap.size x l en nest (rowsF l sumS F k) w) := by
  have hxw := h.lt
  have HI := Lib.hid h
  clear h
  have ne1 : x ≠ w.heap.size := by omega
  have ne2 : w.heap.size ≠ x := by omega
  have HM := Lib.hid hm
  have HG := Lib.hid hF
  clear hm hF
  generalize hO : rowsF l sumS F k = O
  have HO := Lib.hid hO.symm
  clear hO
  have e9 : Enters 81 := fun _ _ => by kernel_rfl
  clear e9
  go_enter Tryz.func98, Tryz.ntmps98
  go_wp2_with fail
  have K1 : Kept x w (w.alloc (.cells #[.int .i64 0, .int .i64 0, .int .i64 0, .string { data := #[] }, .int .i64 0, .int .i64 0, .int .i64 0, .int .i64 0, .string { data := #[] }, .slice none 0 0] 30)) := (Kept.refl x w).alloc _
  have X1 := NBox.new w
  refine (HM.out _ _ K1 (HI.out.alloc _)).mono ?_
  generalize (w.alloc (.cells #[.int .i64 0, .int .i64 0, .int .i64 0, .string { data := #[] }, .int .i64 0, .int .i64 0, .int .i64 0, .int .i64 0, .string { data := #[] }, .slice none 0 0] 30)) = W1 at *
  have lt1 := X1.lt
  rintro e w3 ⟨f, A, m, c, er, rfl, k3, hp3⟩
  have X3 := X1.kept k3 ne2
  have K3 := K1.trans k3
  have lt3 := X3.lt
  have hx3 : x < w3.heap.size := by have := k3.size; omega
  have na1 : x ≠ w3.heap.size := by omega
  have na2 : w3.heap.size ≠ x := by omega
  have na4 : w.heap.size ≠ w3.heap.size := by omega
  have na5 : w3.heap.size ≠ w.heap.size := by omega
  unfold nodeV
  have L4 : NLoc (w3.alloc (.cells #[.int .i64 f.k, .int .i64 f.vk, .int .i64 f.vn, .string f.vs, .int .i64 f.r1, .int .i64 f.r2, .int .i64 f.r3, .int .i64 f.r4, .string f.op, .slice A m c] 30)) w3.heap.size f A m c := ⟨heap_alloc_new _ _⟩
  have X4 := X3.kept ((Kept.refl x w3).alloc (.cells #[.int .i64 f.k, .int .i64 f.vk, .int .i64 f.vn, .string f.vs, .int .i64 f.r1, .int .i64 f.r2, .int .i64 f.r3, .int .i64 f.r4, .string f.op, .slice A m c] 30)) ne2
  have K4 := K3.alloc (.cells #[.int .i64 f.k, .int .i64 f.vk, .int .i64 f.vn, .string f.vs, .int .i64 f.r1, .int .i64 f.r2, .int .i64 f.r3, .int .i64 f.r4, .string f.op, .slice A m c] 30)
  have R4 : RMode (fun g => w.heap.size < g ∧ g ≠ w3.heap.size) x l en nest sumS F O (w3.alloc (.cells #[.int .i64 f.k, .int .i64 f.vk, .int .i64 f.vn, .string f.vs, .int .i64 f.r1, .int .i64 f.r2, .int .i64 f.r3, .int .i64 f.r4, .string f.op, .slice A m c] 30)) f A m er := by
    rcases hp3 with ⟨kd, k', ho, he, hn, hA, hP⟩ | ⟨bad, k2, ho, hi, he, hP⟩
    · exact Or.inl ⟨kd, k', 400, HO.out.trans (rows_go ho), he, by omega, hn, hA.keep ((Kept.refl x w3).alloc _) (fun g hg hl => ⟨by omega, by omega, by omega⟩), hP.alloc _⟩
    · exact Or.inr ⟨bad, k2, HO.out.trans (rows_err ho), hi, he, hP.alloc _⟩
  have s4 := L4.lt
  clear hp3 X3 K3 X1 K1 HI
  go_wp2_with fail
  generalize (w3.alloc (.cells #[.int .i64 f.k, .int .i64 f.vk, .int .i64 f.vn, .string f.vs, .int .i64 f.r1, .int .i64 f.r2, .int .i64 f.r3, .int .i64 f.r4, .string f.op, .slice A m c] 30)) = V at *
  have H4 := Lib.hid (show ∃ f A m c, NLoc V w3.heap.size f A m c ∧ RMode (fun g => w.heap.size < g ∧ g ≠ w3.heap.size) x l en nest sumS F O V f A m er from ⟨f, A, m, c, L4, R4⟩)
  have HXK := Lib.hid (And.intro X4 K4)
  clear L4 R4 X4 K4 k3
  go_loopw [9] (fun v wr => Kept x w wr ∧ NBox wr w.heap.size ∧ w3.heap.size < wr.heap.size ∧ Hid (∃ f A m c, NLoc wr w3.heap.size f A m c ∧ RMode (fun g => w.heap.size < g ∧ g ≠ w3.heap.size) x l en nest sumS F O wr f A m v)) (fun v wr => meas v wr x)
  case atStart => exact ⟨HXK.out.2, HXK.out.1, s4, H4⟩
  case round =>
    obtain ⟨Kr, Xr, lr, Hr⟩ := hrel
    obtain ⟨fq, Aq, mq, cq, L, R⟩ := Hr.out
    clear Hr
    rcases R with ⟨kd, k', r, hO, rfl, hr, hn, hA, hP⟩ | ⟨bad, kk, hO, hi, rfl, hP⟩
    · have hle := hP.le
      obtain ⟨r, rfl⟩ : ∃ q, r = q + 1 := ⟨r - 1, by omega⟩
      have hM : lenAt wr x = l.length - k' := hP.len
      have P4 := Lib.hid hP
      have hOO := Lib.hid hO
      clear hP hO
      go_wp2_with fail
      refine (csees_isAdding wr P4.out hl).mono ?_; rintro e w5 ⟨rfl, hb5⟩
      have k5 : Kept x wr w5 := Kept.of hb5
      have X5 := Xr.kept k5 ne2
      have K5 := Kr.trans k5
      have P5 := Lib.hid (P4.out.below hb5)
      have L5 := L.kept k5 na2
      have A5 := hA.keep (Q := fun g => w.heap.size < g ∧ g ≠ w3.heap.size) k5 (fun g hg hl => ⟨by omega, hg⟩)
      have s5 := L5.lt
      have t5 := X5.lt
      clear P4 hA hb5 k5 L Xr Kr
      cases ho : oneOf l k' sumS with
      | none =>
        have E := Lib.hid (hOO.out.trans (row_end ho))
        obtain ⟨d0, d1, d2, d3, d4, d5, d6, d7, d8, d9, dz0, dz1, dz2, dz3, dz4, dz5, dz6, dz7, dz8, dz9⟩ := (L5).cells
        obtain ⟨f0, f1, f2, f3, f4, f5, f6, f7, f8, f9, z0, z1, z2, z3, z4, z5, z6, z7, z8, z9⟩ := (X5).cells
        go_wp2_with fail
        refine bodyPost_ret (v := .tuple #[.agg #[.int .i64 fq.k, .int .i64 fq.vk, .int .i64 fq.vn, .string fq.vs, .int .i64 fq.r1, .int .i64 fq.r2, .int .i64 fq.r3, .int .i64 fq.r4, .string fq.op, .slice Aq mq cq], .nilIface]) (by simp [results, Tryz.results98, go_sem, f0, f1, f2, f3, f4, f5, f6, f7, f8, f9]) rfl (CPost.ok (f := fq) (A := Aq) (m := mq) (c := cq) (b := w.heap.size) (V := w5) E.out K5 P5.out hn (A5.keep (Q := fun g => w.heap.size ≤ g ∧ g ≠ w.heap.size) (Kept.refl w5.heap.size w5) (fun g hg hl => ⟨by omega, by omega, by omega⟩)) (Nat.le_refl _) hxw ?_)
        repeat (first | with_reducible exact Kept.refl _ _ | with_reducible refine Kept.setCell ?_ _ _ | with_reducible refine Kept.alloc ?_ _)
      | some op =>
        obtain ⟨t, ht, hop⟩ := one_tok ho
        obtain ⟨d0, d1, d2, d3, d4, d5, d6, d7, d8, d9, dz0, dz1, dz2, dz3, dz4, dz5, dz6, dz7, dz8, dz9⟩ := (L5).cells
        go_wp2_with fail
        have HB := cbinary (P := fun g => w.heap.size < g ∧ g ≠ w3.heap.size) (F := F) (f := fq) (A := Aq) (m := mq) (c := cq) (kd := kd) (pre := #[.pointer (some ⟨x, 0, none⟩)]) (post := #[]) eg w5 P5.out hl ht hop A5 hn (fun g hg => by omega) (fun w' hk hp => HM.out _ w' (K5.trans hk) hp)
        unfold nodeV at HB
        refine HB.mono ?_
        rintro e w6 ⟨g3, B3, m3, c3, er3, rfl, k6, hp6⟩
        clear HB d0 d1 d2 d3 d4 d5 d6 d7 d8 d9 dz0 dz1 dz2 dz3 dz4 dz5 dz6 dz7 dz8 dz9
        have K6 := K5.trans k6
        have X6 := X5.kept k6 ne2
        have L6 := L5.kept k6 na2
        have s6 := L6.lt
        have t6 := X6.lt
        unfold nodeV
        have KW : Kept w3.heap.size w6 ((((((((((w6.setCell ⟨w3.heap.size, 0, none⟩ (.int .i64 g3.k)).setCell ⟨w3.heap.size, 1, none⟩ (.int .i64 g3.vk)).setCell ⟨w3.heap.size, 2, none⟩ (.int .i64 g3.vn)).setCell ⟨w3.heap.size, 3, none⟩ (.string g3.vs)).setCell ⟨w3.heap.size, 4, none⟩ (.int .i64 g3.r1)).setCell ⟨w3.heap.size, 5, none⟩ (.int .i64 g3.r2)).setCell ⟨w3.heap.size, 6, none⟩ (.int .i64 g3.r3)).setCell ⟨w3.heap.size, 7, none⟩ (.int .i64 g3.r4)).setCell ⟨w3.heap.size, 8, none⟩ (.string g3.op)).setCell ⟨w3.heap.size, 9, none⟩ (.slice B3 m3 c3)) := by
          repeat (first | with_reducible exact Kept.refl _ _ | with_reducible refine Kept.setCell ?_ _ _ | with_reducible refine Kept.alloc ?_ _)
        have LW := L6.store2 g3 B3 m3 c3
        have RW : RMode (fun g => w.heap.size < g ∧ g ≠ w3.heap.size) x l en nest sumS F O ((((((((((w6.setCell ⟨w3.heap.size, 0, none⟩ (.int .i64 g3.k)).setCell ⟨w3.heap.size, 1, none⟩ (.int .i64 g3.vk)).setCell ⟨w3.heap.size, 2, none⟩ (.int .i64 g3.vn)).setCell ⟨w3.heap.size, 3, none⟩ (.string g3.vs)).setCell ⟨w3.heap.size, 4, none⟩ (.int .i64 g3.r1)).setCell ⟨w3.heap.size, 5, none⟩ (.int .i64 g3.r2)).setCell ⟨w3.heap.size, 6, none⟩ (.int .i64 g3.r3)).setCell ⟨w3.heap.size, 7, none⟩ (.int .i64 g3.r4)).setCell ⟨w3.heap.size, 8, none⟩ (.string g3.op)).setCell ⟨w3.heap.size, 9, none⟩ (.slice B3 m3 c3)) g3 B3 m3 er3 ∧ meas er3 ((((((((((w6.setCell ⟨w3.heap.size, 0, none⟩ (.int .i64 g3.k)).setCell ⟨w3.heap.size, 1, none⟩ (.int .i64 g3.vk)).setCell ⟨w3.heap.size, 2, none⟩ (.int .i64 g3.vn)).setCell ⟨w3.heap.size, 3, none⟩ (.string g3.vs)).setCell ⟨w3.heap.size, 4, none⟩ (.int .i64 g3.r1)).setCell ⟨w3.heap.size, 5, none⟩ (.int .i64 g3.r2)).setCell ⟨w3.heap.size, 6, none⟩ (.int .i64 g3.r3)).setCell ⟨w3.heap.size, 7, none⟩ (.int .i64 g3.r4)).setCell ⟨w3.heap.size, 8, none⟩ (.string g3.op)).setCell ⟨w3.heap.size, 9, none⟩ (.slice B3 m3 c3)) x < meas .nilIface wr x := by
          rw [meas_nil, hM]
          rcases hp6 with ⟨kd2, k2, hq, rfl, hn2, hA2, hP2⟩ | ⟨bad, k2, hq, hi, rfl, hP2⟩
          · cases hf : F (k' + 1) with
            | error b => rw [hf] at hq; cases hq
            | ok q =>
              obtain ⟨b, k3⟩ := q
              rw [hf] at hq
              injection hq with hq; injection hq with hq hk
              subst hk
              have hg := HG.out _ _ _ hf
              have hPW := hP2.kept KW hx3
              refine ⟨Or.inl ⟨kd2, k3, r, ?_, rfl, by omega, hn2, hA2.keep KW (fun g hg hl => ⟨by omega, by omega, by omega⟩), hPW⟩, ?_⟩
              · rw [hOO.out, row_go ho hf, hq]
              · rw [meas_nil, hPW.len]; omega
          · cases hf : F (k' + 1) with
            | error b =>
              rw [hf] at hq
              injection hq with hq
              subst hq
              exact ⟨Or.inr ⟨b, k2, hOO.out.trans (row_bad ho hf), hi, rfl, hP2.kept KW hx3⟩, by rw [meas_err]; omega⟩
            | ok q => rw [hf] at hq; cases hq
        have XW := X6.kept KW na4
        have sW : w3.heap.size < (((((((((((w6.setCell ⟨w3.heap.size, 0, none⟩ (.int .i64 g3.k)).setCell ⟨w3.heap.size, 1, none⟩ (.int .i64 g3.vk)).setCell ⟨w3.heap.size, 2, none⟩ (.int .i64 g3.vn)).setCell ⟨w3.heap.size, 3, none⟩ (.string g3.vs)).setCell ⟨w3.heap.size, 4, none⟩ (.int .i64 g3.r1)).setCell ⟨w3.heap.size, 5, none⟩ (.int .i64 g3.r2)).setCell ⟨w3.heap.size, 6, none⟩ (.int .i64 g3.r3)).setCell ⟨w3.heap.size, 7, none⟩ (.int .i64 g3.r4)).setCell ⟨w3.heap.size, 8, none⟩ (.string g3.op)).setCell ⟨w3.heap.size, 9, none⟩ (.slice B3 m3 c3))).heap.size := LW.lt
        have KWx := K6.then_ KW (by omega)
        clear hp6
        obtain ⟨d0, d1, d2, d3, d4, d5, d6, d7, d8, d9, dz0, dz1, dz2, dz3, dz4, dz5, dz6, dz7, dz8, dz9⟩ := (L6).cells
        go_wp2_with fail
        generalize (((((((((((w6.setCell ⟨w3.heap.size, 0, none⟩ (.int .i64 g3.k)).setCell ⟨w3.heap.size, 1, none⟩ (.int .i64 g3.vk)).setCell ⟨w3.heap.size, 2, none⟩ (.int .i64 g3.vn)).setCell ⟨w3.heap.size, 3, none⟩ (.string g3.vs)).setCell ⟨w3.heap.size, 4, none⟩ (.int .i64 g3.r1)).setCell ⟨w3.heap.size, 5, none⟩ (.int .i64 g3.r2)).setCell ⟨w3.heap.size, 6, none⟩ (.int .i64 g3.r3)).setCell ⟨w3.heap.size, 7, none⟩ (.int .i64 g3.r4)).setCell ⟨w3.heap.size, 8, none⟩ (.string g3.op)).setCell ⟨w3.heap.size, 9, none⟩ (.slice B3 m3 c3))) = W at *
        go_roundw
        case rel => exact ⟨KWx, XW, sW, Lib.hid ⟨_, _, _, _, LW, RW.1⟩⟩
        case measure => exact RW.2
    · obtain ⟨T, u, hT⟩ := errV_some bad
      have HE := Lib.hid hO
      have P3 := Lib.hid hP
      have s5 := L.lt
      have t5 := Xr.lt
      clear hO hP
      rw [hT]
      obtain ⟨d0, d1, d2, d3, d4, d5, d6, d7, d8, d9, dz0, dz1, dz2, dz3, dz4, dz5, dz6, dz7, dz8, dz9⟩ := (L).cells
      obtain ⟨f0, f1, f2, f3, f4, f5, f6, f7, f8, f9, z0, z1, z2, z3, z4, z5, z6, z7, z8, z9⟩ := (Xr).cells
      go_wp2_with fail
      refine bodyPost_ret (v := .tuple #[.agg #[.int .i64 fq.k, .int .i64 fq.vk, .int .i64 fq.vn, .string fq.vs, .int .i64 fq.r1, .int .i64 fq.r2, .int .i64 fq.r3, .int .i64 fq.r4, .string fq.op, .slice Aq mq cq], .iface T u]) (by simp [results, Tryz.results98, go_sem, f0, f1, f2, f3, f4, f5, f6, f7, f8, f9]) rfl (hT ▸ CPost.err (f := fq) (A := Aq) (m := mq) (c := cq) (b := w.heap.size) (V := wr) HE.out hi Kr P3.out (Nat.le_refl _) hxw ?_)
      repeat (first | with_reducible exact Kept.refl _ _ | with_reducible refine Kept.setCell ?_ _ _ | with_reducible refine Kept.alloc ?_ _)
set_option maxRecDepth 100000 in
set_option maxHeartbeats 600000 in
theorem crow_isMultiplying {x k g : Nat} {l : List Tok} {en nest : Int} {F : Nat → Out} (eg : ∀ args w, (callFunc g args).run Tryz.prog w = .ok (.enter g args) w) (w : World) (h : Pc w x l en k nest) (hl : l.length ≤ 300) (hF : Goes l F)
    (hm : ∀ k w', Kept x w w' → Pc w' x l en k nest → Calls Tryz.prog g #[.pointer (some ⟨x, 0, none⟩)] w' (CPost w'.heap.size x l en nest (F k) w')) :
    Calls Tryz.prog 98 #[.pointer (some ⟨x, 0, none⟩), .func (.func 107) #[] #[], .func (.func g) #[.pointer (some ⟨x, 0, none⟩)] #[]] w (CPost w.heap.size x l en nest (rowsF l mulS F k) w) := by
  have hxw := h.lt
  have HI := Lib.hid h
  clear h
  have ne1 : x ≠ w.heap.size := by omega
  have ne2 : w.heap.size ≠ x := by omega
  have HM := Lib.hid hm
  have HG := Lib.hid hF
  clear hm hF
  generalize hO : rowsF l mulS F k = O
  have HO := Lib.hid hO.symm
  clear hO
  have e9 : Enters 81 := fun _ _ => by kernel_rfl
  clear e9
  go_enter Tryz.func98, Tryz.ntmps98
  go_wp2_with fail
  have K1 : Kept x w (w.alloc (.cells #[.int .i64 0, .int .i64 0, .int .i64 0, .string { data := #[] }, .int .i64 0, .int .i64 0, .int .i64 0, .int .i64 0, .string { data := #[] }, .slice none 0 0] 30)) := (Kept.refl x w).alloc _
  have X1 := NBox.new w
  refine (HM.out _ _ K1 (HI.out.alloc _)).mono ?_
  generalize (w.alloc (.cells #[.int .i64 0, .int .i64 0, .int .i64 0, .string { data := #[] }, .int .i64 0, .int .i64 0, .int .i64 0, .int .i64 0, .string { data := #[] }, .slice none 0 0] 30)) = W1 at *
  have lt1 := X1.lt
  rintro e w3 ⟨f, A, m, c, er, rfl, k3, hp3⟩
  have X3 := X1.kept k3 ne2
  have K3 := K1.trans k3
  have lt3 := X3.lt
  have hx3 : x < w3.heap.size := by have := k3.size; omega
  have na1 : x ≠ w3.heap.size := by omega
  have na2 : w3.heap.size ≠ x := by omega
  have na4 : w.heap.size ≠ w3.heap.size := by omega
  have na5 : w3.heap.size ≠ w.heap.size := by omega
  unfold nodeV
  have L4 : NLoc (w3.alloc (.cells #[.int .i64 f.k, .int .i64 f.vk, .int .i64 f.vn, .string f.vs, .int .i64 f.r1, .int .i64 f.r2, .int .i64 f.r3, .int .i64 f.r4, .string f.op, .slice A m c] 30)) w3.heap.size f A m c := ⟨heap_alloc_new _ _⟩
  have X4 := X3.kept ((Kept.refl x w3).alloc (.cells #[.int .i64 f.k, .int .i64 f.vk, .int .i64 f.vn, .string f.vs, .int .i64 f.r1, .int .i64 f.r2, .int .i64 f.r3, .int .i64 f.r4, .string f.op, .slice A m c] 30)) ne2
  have K4 := K3.alloc (.cells #[.int .i64 f.k, .int .i64 f.vk, .int .i64 f.vn, .string f.vs, .int .i64 f.r1, .int .i64 f.r2, .int .i64 f.r3, .int .i64 f.r4, .string f.op, .slice A m c] 30)
  have R4 : RMode (fun g => w.heap.size < g ∧ g ≠ w3.heap.size) x l en nest mulS F O (w3.alloc (.cells #[.int .i64 f.k, .int .i64 f.vk, .int .i64 f.vn, .string f.vs, .int .i64 f.r1, .int .i64 f.r2, .int .i64 f.r3, .int .i64 f.r4, .string f.op, .slice A m c] 30)) f A m er := by
    rcases hp3 with ⟨kd, k', ho, he, hn, hA, hP⟩ | ⟨bad, k2, ho, hi, he, hP⟩
    · exact Or.inl ⟨kd, k', 400, HO.out.trans (rows_go ho), he, by omega, hn, hA.keep ((Kept.refl x w3).alloc _) (fun g hg hl => ⟨by omega, by omega, by omega⟩), hP.alloc _⟩
    · exact Or.inr ⟨bad, k2, HO.out.trans (rows_err ho), hi, he, hP.alloc _⟩
  have s4 := L4.lt
  clear hp3 X3 K3 X1 K1 HI
  go_wp2_with fail
  generalize (w3.alloc (.cells #[.int .i64 f.k, .int .i64 f.vk, .int .i64 f.vn, .string f.vs, .int .i64 f.r1, .int .i64 f.r2, .int .i64 f.r3, .int .i64 f.r4, .string f.op, .slice A m c] 30)) = V at *
  have H4 := Lib.hid (show ∃ f A m c, NLoc V w3.heap.size f A m c ∧ RMode (fun g => w.heap.size < g ∧ g ≠ w3.heap.size) x l en nest mulS F O V f A m er from ⟨f, A, m, c, L4, R4⟩)
  have HXK := Lib.hid (And.intro X4 K4)
  clear L4 R4 X4 K4 k3
  go_loopw [9] (fun v wr => Kept x w wr ∧ NBox wr w.heap.size ∧ w3.heap.size < wr.heap.size ∧ Hid (∃ f A m c, NLoc wr w3.heap.size f A m c ∧ RMode (fun g => w.heap.size < g ∧ g ≠ w3.heap.size) x l en nest mulS F O wr f A m v)) (fun v wr => meas v wr x)
  case atStart => exact ⟨HXK.out.2, HXK.out.1, s4, H4⟩
  case round =>
    obtain ⟨Kr, Xr, lr, Hr⟩ := hrel
    obtain ⟨fq, Aq, mq, cq, L, R⟩ := Hr.out
    clear Hr
    rcases R with ⟨kd, k', r, hO, rfl, hr, hn, hA, hP⟩ | ⟨bad, kk, hO, hi, rfl, hP⟩
    · have hle := hP.le
      obtain ⟨r, rfl⟩ : ∃ q, r = q + 1 := ⟨r - 1, by omega⟩
      have hM : lenAt wr x = l.length - k' := hP.len
      have P4 := Lib.hid hP
      have hOO := Lib.hid hO
      clear hP hO
      go_wp2_with fail
      refine (csees_isMultiplying wr P4.out hl).mono ?_; rintro e w5 ⟨rfl, hb5⟩
      have k5 : Kept x wr w5 := Kept.of hb5
      have X5 := Xr.kept k5 ne2
      have K5 := Kr.trans k5
      have P5 := Lib.hid (P4.out.below hb5)
      have L5 := L.kept k5 na2
      have A5 := hA.keep (Q := fun g => w.heap.size < g ∧ g ≠ w3.heap.size) k5 (fun g hg hl => ⟨by omega, hg⟩)
      have s5 := L5.lt
      have t5 := X5.lt
      clear P4 hA hb5 k5 L Xr Kr
      cases ho : oneOf l k' mulS with
      | none =>
        have E := Lib.hid (hOO.out.trans (row_end ho))
        obtain ⟨d0, d1, d2, d3, d4, d5, d6, d7, d8, d9, dz0, dz1, dz2, dz3, dz4, dz5, dz6, dz7, dz8, dz9⟩ := (L5).cells
        obtain ⟨f0, f1, f2, f3, f4, f5, f6, f7, f8, f9, z0, z1, z2, z3, z4, z5, z6, z7, z8, z9⟩ := (X5).cells
        go_wp2_with fail
        refine bodyPost_ret (v := .tuple #[.agg #[.int .i64 fq.k, .int .i64 fq.vk, .int .i64 fq.vn, .string fq.vs, .int .i64 fq.r1, .int .i64 fq.r2, .int .i64 fq.r3, .int .i64 fq.r4, .string fq.op, .slice Aq mq cq], .nilIface]) (by simp [results, Tryz.results98, go_sem, f0, f1, f2, f3, f4, f5, f6, f7, f8, f9]) rfl (CPost.ok (f := fq) (A := Aq) (m := mq) (c := cq) (b := w.heap.size) (V := w5) E.out K5 P5.out hn (A5.keep (Q := fun g => w.heap.size ≤ g ∧ g ≠ w.heap.size) (Kept.refl w5.heap.size w5) (fun g hg hl => ⟨by omega, by omega, by omega⟩)) (Nat.le_refl _) hxw ?_)
        repeat (first | with_reducible exact Kept.refl _ _ | with_reducible refine Kept.setCell ?_ _ _ | with_reducible refine Kept.alloc ?_ _)
      | some op =>
        obtain ⟨t, ht, hop⟩ := one_tok ho
        obtain ⟨d0, d1, d2, d3, d4, d5, d6, d7, d8, d9, dz0, dz1, dz2, dz3, dz4, dz5, dz6, dz7, dz8, dz9⟩ := (L5).cells
        go_wp2_with fail
        have HB := cbinary (P := fun g => w.heap.size < g ∧ g ≠ w3.heap.size) (F := F) (f := fq) (A := Aq) (m := mq) (c := cq) (kd := kd) (pre := #[.pointer (some ⟨x, 0, none⟩)]) (post := #[]) eg w5 P5.out hl ht hop A5 hn (fun g hg => by omega) (fun w' hk hp => HM.out _ w' (K5.trans hk) hp)
        unfold nodeV at HB
        refine HB.mono ?_
        rintro e w6 ⟨g3, B3, m3, c3, er3, rfl, k6, hp6⟩
        clear HB d0 d1 d2 d3 d4 d5 d6 d7 d8 d9 dz0 dz1 dz2 dz3 dz4 dz5 dz6 dz7 dz8 dz9
        have K6 := K5.trans k6
        have X6 := X5.kept k6 ne2
        have L6 := L5.kept k6 na2
        have s6 := L6.lt
        have t6 := X6.lt
        unfold nodeV
        have KW : Kept w3.heap.size w6 ((((((((((w6.setCell ⟨w3.heap.size, 0, none⟩ (.int .i64 g3.k)).setCell ⟨w3.heap.size, 1, none⟩ (.int .i64 g3.vk)).setCell ⟨w3.heap.size, 2, none⟩ (.int .i64 g3.vn)).setCell ⟨w3.heap.size, 3, none⟩ (.string g3.vs)).setCell ⟨w3.heap.size, 4, none⟩ (.int .i64 g3.r1)).setCell ⟨w3.heap.size, 5, none⟩ (.int .i64 g3.r2)).setCell ⟨w3.heap.size, 6, none⟩ (.int .i64 g3.r3)).setCell ⟨w3.heap.size, 7, none⟩ (.int .i64 g3.r4)).setCell ⟨w3.heap.size, 8, none⟩ (.string g3.op)).setCell ⟨w3.heap.size, 9, none⟩ (.slice B3 m3 c3)) := by
          repeat (first | with_reducible exact Kept.refl _ _ | with_reducible refine Kept.setCell ?_ _ _ | with_reducible refine Kept.alloc ?_ _)
        have LW := L6.store2 g3 B3 m3 c3
        have RW : RMode (fun g => w.heap.size < g ∧ g ≠ w3.heap.size) x l en nest mulS F O ((((((((((w6.setCell ⟨w3.heap.size, 0, none⟩ (.int .i64 g3.k)).setCell ⟨w3.heap.size, 1, none⟩ (.int .i64 g3.vk)).setCell ⟨w3.heap.size, 2, none⟩ (.int .i64 g3.vn)).setCell ⟨w3.heap.size, 3, none⟩ (.string g3.vs)).setCell ⟨w3.heap.size, 4, none⟩ (.int .i64 g3.r1)).setCell ⟨w3.heap.size, 5, none⟩ (.int .i64 g3.r2)).setCell ⟨w3.heap.size, 6, none⟩ (.int .i64 g3.r3)).setCell ⟨w3.heap.size, 7, none⟩ (.int .i64 g3.r4)).setCell ⟨w3.heap.size, 8, none⟩ (.string g3.op)).setCell ⟨w3.heap.size, 9, none⟩ (.slice B3 m3 c3)) g3 B3 m3 er3 ∧ meas er3 ((((((((((w6.setCell ⟨w3.heap.size, 0, none⟩ (.int .i64 g3.k)).setCell ⟨w3.heap.size, 1, none⟩ (.int .i64 g3.vk)).setCell ⟨w3.heap.size, 2, none⟩ (.int .i64 g3.vn)).setCell ⟨w3.heap.size, 3, none⟩ (.string g3.vs)).setCell ⟨w3.heap.size, 4, none⟩ (.int .i64 g3.r1)).setCell ⟨w3.heap.size, 5, none⟩ (.int .i64 g3.r2)).setCell ⟨w3.heap.size, 6, none⟩ (.int .i64 g3.r3)).setCell ⟨w3.heap.size, 7, none⟩ (.int .i64 g3.r4)).setCell ⟨w3.heap.size, 8, none⟩ (.string g3.op)).setCell ⟨w3.heap.size, 9, none⟩ (.slice B3 m3 c3)) x < meas .nilIface wr x := by
          rw [meas_nil, hM]
          rcases hp6 with ⟨kd2, k2, hq, rfl, hn2, hA2, hP2⟩ | ⟨bad, k2, hq, hi, rfl, hP2⟩
          · cases hf : F (k' + 1) with
            | error b => rw [hf] at hq; cases hq
            | ok q =>
              obtain ⟨b, k3⟩ := q
              rw [hf] at hq
              injection hq with hq; injection hq with hq hk
              subst hk
              have hg := HG.out _ _ _ hf
              have hPW := hP2.kept KW hx3
              refine ⟨Or.inl ⟨kd2, k3, r, ?_, rfl, by omega, hn2, hA2.keep KW (fun g hg hl => ⟨by omega, by omega, by omega⟩), hPW⟩, ?_⟩
              · rw [hOO.out, row_go ho hf, hq]
              · rw [meas_nil, hPW.len]; omega
          · cases hf : F (k' + 1) with
            | error b =>
              rw [hf] at hq
              injection hq with hq
              subst hq
              exact ⟨Or.inr ⟨b, k2, hOO.out.trans (row_bad ho hf), hi, rfl, hP2.kept KW hx3⟩, by rw [meas_err]; omega⟩
            | ok q => rw [hf] at hq; cases hq
        have XW := X6.kept KW na4
        have sW : w3.heap.size < (((((((((((w6.setCell ⟨w3.heap.size, 0, none⟩ (.int .i64 g3.k)).setCell ⟨w3.heap.size, 1, none⟩ (.int .i64 g3.vk)).setCell ⟨w3.heap.size, 2, none⟩ (.int .i64 g3.vn)).setCell ⟨w3.heap.size, 3, none⟩ (.string g3.vs)).setCell ⟨w3.heap.size, 4, none⟩ (.int .i64 g3.r1)).setCell ⟨w3.heap.size, 5, none⟩ (.int .i64 g3.r2)).setCell ⟨w3.heap.size, 6, none⟩ (.int .i64 g3.r3)).setCell ⟨w3.heap.size, 7, none⟩ (.int .i64 g3.r4)).setCell ⟨w3.heap.size, 8, none⟩ (.string g3.op)).setCell ⟨w3.heap.size, 9, none⟩ (.slice B3 m3 c3))).heap.size := LW.lt
        have KWx := K6.then_ KW (by omega)
        clear hp6
        obtain ⟨d0, d1, d2, d3, d4, d5, d6, d7, d8, d9, dz0, dz1, dz2, dz3, dz4, dz5, dz6, dz7, dz8, dz9⟩ := (L6).cells
        go_wp2_with fail
        generalize (((((((((((w6.setCell ⟨w3.heap.size, 0, none⟩ (.int .i64 g3.k)).setCell ⟨w3.heap.size, 1, none⟩ (.int .i64 g3.vk)).setCell ⟨w3.heap.size, 2, none⟩ (.int .i64 g3.vn)).setCell ⟨w3.heap.size, 3, none⟩ (.string g3.vs)).setCell ⟨w3.heap.size, 4, none⟩ (.int .i64 g3.r1)).setCell ⟨w3.heap.size, 5, none⟩ (.int .i64 g3.r2)).setCell ⟨w3.heap.size, 6, none⟩ (.int .i64 g3.r3)).setCell ⟨w3.heap.size, 7, none⟩ (.int .i64 g3.r4)).setCell ⟨w3.heap.size, 8, none⟩ (.string g3.op)).setCell ⟨w3.heap.size, 9, none⟩ (.slice B3 m3 c3))) = W at *
        go_roundw
        case rel => exact ⟨KWx, XW, sW, Lib.hid ⟨_, _, _, _, LW, RW.1⟩⟩
        case measure => exact RW.2
    · obtain ⟨T, u, hT⟩ := errV_some bad
      have HE := Lib.hid hO
      have P3 := Lib.hid hP
      have s5 := L.lt
      have t5 := Xr.lt
      clear hO hP
      rw [hT]
      obtain ⟨d0, d1, d2, d3, d4, d5, d6, d7, d8, d9, dz0, dz1, dz2, dz3, dz4, dz5, dz6, dz7, dz8, dz9⟩ := (L).cells
      obtain ⟨f0, f1, f2, f3, f4, f5, f6, f7, f8, f9, z0, z1, z2, z3, z4, z5, z6, z7, z8, z9⟩ := (Xr).cells
      go_wp2_with fail
      refine bodyPost_ret (v := .tuple #[.agg #[.int .i64 fq.k, .int .i64 fq.vk, .int .i64 fq.vn, .string fq.vs, .int .i64 fq.r1, .int .i64 fq.r2, .int .i64 fq.r3, .int .i64 fq.r4, .string fq.op, .slice Aq mq cq], .iface T u]) (by simp [results, Tryz.results98, go_sem, f0, f1, f2, f3, f4, f5, f6, f7, f8, f9]) rfl (hT ▸ CPost.err (f := fq) (A := Aq) (m := mq) (c := cq) (b := w.heap.size) (V := wr) HE.out hi Kr P3.out (Nat.le_refl _) hxw ?_)
      repeat (first | with_reducible exact Kept.refl _ _ | with_reducible refine Kept.setCell ?_ _ _ | with_reducible refine Kept.alloc ?_ _)
end Go.Proofs.YtccigjelbnjcoaaGreatDoor.TreeC
