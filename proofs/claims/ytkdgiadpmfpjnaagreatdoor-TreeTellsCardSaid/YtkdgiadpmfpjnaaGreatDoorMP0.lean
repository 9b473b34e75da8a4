/-
  Contracts of tree's code: the tokens ahead.
-/
import Derived.Test.YtkdgiadpmfpjnaaGreatDoorMAddr
import Derived.Test.YtkdgiadpmfpjnaaGreatDoorMLexF
import Derived.Test.YtkdgiadpmfpjnaaGreatDoorMNumG
import Derived.Test.YtkdgiadpmfpjnaaGreatDoorMNumB
import Derived.Test.YtkdgiadpmfpjnaaGreatDoorMTreeB
import Derived.Maps.AppendAt
import Derived.OwnWalk
import Derived.Deep.AppendLies
namespace Go.Proofs.YtkdgiadpmfpjnaaGreatDoor.TreeC
set_option linter.unusedVariables false
open Go.RowKit Go.Proofs.YtkdgiadpmfpjnaaGreatDoor.NumC Go.Proofs.YtkdgiadpmfpjnaaGreatDoor.LexC

/-- A token's value; a zero one, where there is none. -/
def tokV : Option Tok → Value
  | none => .agg #[.int .i64 0, .int .i64 0, .string { data := #[] }, .int .i64 0]
  | some t => .agg #[.int .i64 t.k, .int .i64 t.n, .string t.s, .int .i64 t.at_]
/-- The code's parser: its block, and the tokens that are ahead of it. -/
theorem Kept.under {x y : Nat} {w w' : World} (h : Kept y w w') (hx : x ≤ y) (hw : x ≤ w.heap.size) : Below x w w' := ⟨h.os, h.tape, h.output, h.size, fun k hk => h.block k (by omega) (by omega)⟩
structure Pc (w : World) (x : Nat) (l : List Tok) (en : Int) (k : Nat) (nest : Int) : Prop where
  le : k ≤ l.length
  lib : ∀ w', Below x w w' → LibIs w'
  ex : ∃ A c, w.heap[x]? = some (.cells #[.slice A (l.length - k) c, .int .i64 en, .int .i64 nest] 55 (0, 0)) ∧ l.length - k ≤ c ∧
    ∀ i (h : i < l.length), k ≤ i → ∃ g, A = some ⟨g, k * 4, none⟩ ∧ g < x ∧
      w.cell? ⟨g, i * 4, none⟩ = some (.int .i64 l[i].k) ∧ w.cell? ⟨g, i * 4 + 1, none⟩ = some (.int .i64 l[i].n) ∧ w.cell? ⟨g, i * 4 + 2, none⟩ = some (.string l[i].s) ∧ w.cell? ⟨g, i * 4 + 3, none⟩ = some (.int .i64 l[i].at_)
theorem Pc.lt {w : World} {x k : Nat} {l : List Tok} {en nest : Int} (h : Pc w x l en k nest) : x < w.heap.size := by
  obtain ⟨A, c, h1, -⟩ := h.ex
  exact (Array.getElem?_eq_some_iff.1 h1).1
theorem Pc.kept {w w' : World} {x y k : Nat} {l : List Tok} {en nest : Int} (h : Pc w x l en k nest) (hk : Kept y w w') (hy : x < y) : Pc w' x l en k nest := by
  have hx := h.lt
  obtain ⟨A, c, h1, h2, h3⟩ := h.ex
  refine ⟨h.le, fun w2 hb => h.lib w2 ((hk.under (by omega) (by omega)).trans hb), A, c, (hk.block x hx (by omega)).trans h1, h2, fun i hi hk' => ?_⟩
  obtain ⟨g, e, hg, f0, f1, f2, f3⟩ := h3 i hi hk'
  have hgy : g ≠ y := by omega
  exact ⟨g, e, hg, hk.cell hgy f0, hk.cell hgy f1, hk.cell hgy f2, hk.cell hgy f3⟩
theorem Pc.below {w w' : World} {x k : Nat} {l : List Tok} {en nest : Int} (h : Pc w x l en k nest) (hb : Below w.heap.size w w') : Pc w' x l en k nest := h.kept (Kept.of (x := w.heap.size) hb) h.lt
theorem Pc.drew {w : World} {x k : Nat} {l : List Tok} {en nest : Int} (h : Pc w x l en k nest) (n : Nat) : Pc (w.drewN n) x l en k nest := ⟨h.le, fun w2 hb => h.lib w2 ⟨hb.os, hb.tape, hb.output, hb.size, hb.block⟩, h.ex⟩
theorem Pc.libs {w : World} {x k : Nat} {l : List Tok} {en nest : Int} (h : Pc w x l en k nest) : LibIs w := h.lib w (Below.refl _ _)
theorem Pc.alloc {w : World} {x k : Nat} {l : List Tok} {en nest : Int} (h : Pc w x l en k nest) (o : Obj) : Pc (w.alloc o) x l en k nest := h.below ((Below.refl _ _).alloc (Nat.le_refl _) o)
theorem Pc.setN {w : World} {x k : Nat} {l : List Tok} {en nest : Int} (h : Pc w x l en k nest) (n' : Int) : Pc (w.setCell ⟨x, 2, none⟩ (.int .i64 n')) x l en k n' := by
  have hxw := h.lt
  obtain ⟨A, c, h1, h2, h3⟩ := h.ex
  refine ⟨h.le, fun w2 hb => h.lib w2 ((((Kept.refl x w).setCell 2 (.int .i64 n')).under (Nat.le_refl _) (by omega)).trans hb), A, c, by simp [World.setCell, Array.getElem?_modify, h1], h2, fun i hi hk' => ?_⟩
  obtain ⟨g, e, hg, f0, f1, f2, f3⟩ := h3 i hi hk'
  have K := (Kept.refl x w).setCell 2 (.int .i64 n')
  have hgx : g ≠ x := by omega
  exact ⟨g, e, hg, K.cell hgx f0, K.cell hgx f1, K.cell hgx f2, K.cell hgx f3⟩
theorem Pc.setT {w : World} {x k : Nat} {l : List Tok} {en nest : Int} (h : Pc w x l en k nest) (hlt : k < l.length) (A' : Option Addr) (c' n' : Nat) (hn : n' = l.length - (k + 1)) (hc : l.length - (k + 1) ≤ c')
    (hA : ∀ g c, w.cell? ⟨x, 0, none⟩ = some (.slice (some ⟨g, k * 4, none⟩) (l.length - k) c) → k + 1 < l.length → A' = some ⟨g, (k + 1) * 4, none⟩) :
    Pc (w.setCell ⟨x, 0, none⟩ (.slice A' n' c')) x l en (k + 1) nest := by
  have hxw := h.lt
  obtain ⟨A, c, h1, h2, h3⟩ := h.ex
  subst hn
  refine ⟨hlt, fun w2 hb => h.lib w2 ((((Kept.refl x w).setCell 0 (.slice A' (l.length - (k + 1)) c')).under (Nat.le_refl _) (by omega)).trans hb), A', c', by simp [World.setCell, Array.getElem?_modify, h1], hc, fun i hi hk' => ?_⟩
  obtain ⟨g, e, hg, f0, f1, f2, f3⟩ := h3 i hi (by omega)
  subst e
  have K := (Kept.refl x w).setCell 0 (.slice A' (l.length - (k + 1)) c')
  have hgx : g ≠ x := by omega
  exact ⟨g, hA g c (by simp [World.cell?, h1]) (by omega), hg, K.cell hgx f0, K.cell hgx f1, K.cell hgx f2, K.cell hgx f3⟩

set_option maxRecDepth 100000 in
set_option maxHeartbeats 4000000 in
theorem cahead0 {x k : Nat} {l : List Tok} {en nest : Int} (w : World) (h : Pc w x l en k nest) (hl : l.length ≤ 300) :
    Calls Tryz.prog 92 #[.pointer (some ⟨x, 0, none⟩), .int .i64 0] w fun e w' => e = .returned (tokV l[k]?) ∧ Below w.heap.size w w' := by
  have hx := h.lt
  have hle := h.le
  obtain ⟨A, c, h1, h2, h3⟩ := h.ex
  have q0 : w.cell? ⟨x, 0, none⟩ = some (.slice A (l.length - k) c) := by simp [World.cell?, h1]
  have H3 := Lib.hid h3
  clear h3 h1 h
  by_cases hlt : k < l.length
  · obtain ⟨g, rfl, hg, f0, f1, f2, f3⟩ := H3.out (k) hlt (by omega)
    clear H3
    have hm : ¬ (l.length - k = 0) := by omega
    have hgw : g < w.heap.size := by omega
    rw [List.getElem?_eq_getElem hlt]
    generalize l[k] = t at *
    generalize l.length - k = m at *
    go_enter Tryz.func92, Tryz.ntmps92
    go_wp2_with fail
    refine bodyPost_ret (v := .agg #[.int .i64 t.k, .int .i64 t.n, .string t.s, .int .i64 t.at_]) (by simp [results, Tryz.results92, go_sem]) rfl ⟨rfl, (Below.refl _ _).alloc (Nat.le_refl _) _⟩
  · rw [List.getElem?_eq_none (by omega)]
    have hm : l.length - k = 0 := by omega
    clear H3
    generalize l.length - k = m at *
    go_enter Tryz.func92, Tryz.ntmps92
    go_wp2_with fail
    refine bodyPost_ret (v := .agg #[.int .i64 0, .int .i64 0, .string { data := #[] }, .int .i64 0]) (by simp [results, Tryz.results92, go_sem]) rfl ⟨rfl, (Below.refl _ _).alloc (Nat.le_refl _) _⟩

set_option maxRecDepth 100000 in
set_option maxHeartbeats 4000000 in
theorem cahead1 {x k : Nat} {l : List Tok} {en nest : Int} (w : World) (h : Pc w x l en k nest) (hl : l.length ≤ 300) :
    Calls Tryz.prog 92 #[.pointer (some ⟨x, 0, none⟩), .int .i64 1] w fun e w' => e = .returned (tokV l[k + 1]?) ∧ Below w.heap.size w w' := by
  have hx := h.lt
  have hle := h.le
  obtain ⟨A, c, h1, h2, h3⟩ := h.ex
  have q0 : w.cell? ⟨x, 0, none⟩ = some (.slice A (l.length - k) c) := by simp [World.cell?, h1]
  have H3 := Lib.hid h3
  clear h3 h1 h
  by_cases hlt : k + 1 < l.length
  · obtain ⟨g, rfl, hg, f0, f1, f2, f3⟩ := H3.out (k + 1) hlt (by omega)
    clear H3
    have hm : ¬ (l.length - k ≤ 1) := by omega
    have hm2 : 1 < l.length - k := by omega
    rw [show (k + 1) * 4 = k * 4 + 4 from by omega] at f0 f1 f2 f3
    have hgw : g < w.heap.size := by omega
    rw [List.getElem?_eq_getElem hlt]
    generalize l[k + 1] = t at *
    generalize l.length - k = m at *
    go_enter Tryz.func92, Tryz.ntmps92
    go_wp2_with fail
    refine bodyPost_ret (v := .agg #[.int .i64 t.k, .int .i64 t.n, .string t.s, .int .i64 t.at_]) (by simp [results, Tryz.results92, go_sem]) rfl ⟨rfl, (Below.refl _ _).alloc (Nat.le_refl _) _⟩
  · rw [List.getElem?_eq_none (by omega)]
    have hm : l.length - k ≤ 1 := by omega
    clear H3
    generalize l.length - k = m at *
    go_enter Tryz.func92, Tryz.ntmps92
    go_wp2_with fail
    refine bodyPost_ret (v := .agg #[.int .i64 0, .int .i64 0, .string { data := #[] }, .int .i64 0]) (by simp [results, Tryz.results92, go_sem]) rfl ⟨rfl, (Below.refl _ _).alloc (Nat.le_refl _) _⟩

set_option maxRecDepth 100000 in
set_option maxHeartbeats 4000000 in
theorem ctake {x k : Nat} {l : List Tok} {en nest : Int} (w : World) (h : Pc w x l en k nest) (hlt : k < l.length) :
    Calls Tryz.prog 93 #[.pointer (some ⟨x, 0, none⟩)] w fun e w' => e = .returned (.tuple #[]) ∧ Pc w' x l en (k + 1) nest ∧ Kept x w w' := by
  have hx := h.lt
  obtain ⟨A, c, h1, h2, h3⟩ := h.ex
  have q0 : w.cell? ⟨x, 0, none⟩ = some (.slice A (l.length - k) c) := by simp [World.cell?, h1]
  have q1 : w.frozen? ⟨x, 0, none⟩ = false := by simp [World.frozen?, h1]
  obtain ⟨g, rfl, -⟩ := h3 k hlt (Nat.le_refl _)
  have H := Lib.hid h
  clear h3 h1 h
  have hm : 1 ≤ l.length - k := by omega
  have hn : Hid (l.length - (k + 1) = l.length - k - 1) := Lib.hid (by omega)
  have hc : Hid (l.length - (k + 1) ≤ c - 1) := Lib.hid (by omega)
  have HLT := Lib.hid hlt
  clear hlt
  generalize hM : l.length - k = m at *
  have HM := Lib.hid hM
  clear hM
  rcases Nat.lt_or_ge c 2 with h | h
  · obtain rfl : c = 1 := by omega
    go_enter Tryz.func93, Tryz.ntmps93
    go_wp2_with fail
    refine bodyPost_end (v := .tuple #[]) (by simp [results, Tryz.results93, go_sem]) rfl ⟨rfl, ?_, (Kept.refl _ _).setCell _ _⟩
    exact H.out.setT HLT.out _ _ _ (by rw [hn.out]; omega) hc.out (fun g2 c2 e h3 => by have := HM.out; omega)
  · have hc1 : ¬ c = 1 := by omega
    go_enter Tryz.func93, Tryz.ntmps93
    go_wp2_with fail
    refine bodyPost_end (v := .tuple #[]) (by simp [results, Tryz.results93, go_sem]) rfl ⟨rfl, ?_, (Kept.refl _ _).setCell _ _⟩
    refine H.out.setT HLT.out _ _ _ (by rw [hn.out]) hc.out (fun g2 c2 e h3 => ?_)
    rw [q0] at e
    injection e with e; injection e with e; injection e with e; injection e with e
    rw [e, Nat.succ_mul]

theorem list_ne {a b : ByteArray} (h : ¬ a = b) : ¬ a.toList = b.toList := fun e => h (ByteArray.ext (Array.toList_inj.1 (by rw [Lib.toList_data, Lib.toList_data] at e; exact e)))
theorem text_ne {s : ByteArray} {b : List UInt8} (h : ¬ s = str b) : (s.toList == b) = false := beq_eq_false_iff_ne.2 fun e => h (ByteArray.ext (Array.toList_inj.1 (by rw [Lib.toList_data] at e; exact e)))
def tokSign (o : Option Tok) (s : ByteArray) : Bool := match o with
  | some t => decide (t.k = 4) && decide (t.s = s)
  | none => false
set_option maxRecDepth 100000 in
set_option maxHeartbeats 4000000 in
theorem cisSign (o : Option Tok) (s : ByteArray) (w : World) :
    Calls Tryz.prog 149 #[tokV o, .string s] w fun e w' => e = .returned (.bool (tokSign o s)) ∧ Below w.heap.size w w' := by
  cases o with
  | none =>
    unfold tokV
    go_enter Tryz.func149, Tryz.ntmps149
    go_wp2_with fail
    go_ret
    exact ⟨rfl, (Below.refl _ _).alloc (Nat.le_refl _) _⟩
  | some t =>
    obtain ⟨k, n, s2, a⟩ := t
    unfold tokV tokSign
    simp only
    by_cases h1 : k = 4
    · by_cases h2 : s2 = s
      · subst h1 h2
        go_enter Tryz.func149, Tryz.ntmps149
        go_wp2_with fail
        go_ret
        exact ⟨by simp, (Below.refl _ _).alloc (Nat.le_refl _) _⟩
      · have d2 : decide (s2 = s) = false := decide_eq_false h2
        subst h1
        go_enter Tryz.func149, Tryz.ntmps149
        go_wp2_with fail
        go_ret
        exact ⟨by simp [h2, list_ne h2], (Below.refl _ _).alloc (Nat.le_refl _) _⟩
    · have d1 : decide (k = 4) = false := decide_eq_false h1
      go_enter Tryz.func149, Tryz.ntmps149
      go_wp2_with fail
      go_ret
      exact ⟨by simp [h1], (Below.refl _ _).alloc (Nat.le_refl _) _⟩

set_option maxRecDepth 100000 in
set_option maxHeartbeats 4000000 in
theorem cseesSign {x k : Nat} {l : List Tok} {en nest : Int} (s : List UInt8) (w : World) (h : Pc w x l en k nest) (hl : l.length ≤ 300) :
    Calls Tryz.prog 132 #[.pointer (some ⟨x, 0, none⟩), .string (str s)] w fun e w' => e = .returned (.bool (isSign l k s)) ∧ Below w.heap.size w w' := by
  have H := Lib.hid (cahead0 w h hl)
  clear h
  have E : Hid (isSign l k s = tokSign l[k]? (str s)) := Lib.hid rfl
  go_enter Tryz.func132, Tryz.ntmps132
  go_wp2_with fail
  refine H.out.mono ?_; rintro e w1 ⟨rfl, hb⟩
  go_wp2_with fail
  refine (cisSign _ _ w1).mono ?_; rintro e w2 ⟨rfl, hb2⟩
  go_wp2_with fail
  go_ret
  exact ⟨by rw [E.out]; rfl, hb.trans (hb2.mono hb.size)⟩

set_option maxRecDepth 100000 in
set_option maxHeartbeats 4000000 in
theorem cisCall {x k : Nat} {l : List Tok} {en nest : Int} (w : World) (h : Pc w x l en k nest) (hl : l.length ≤ 300) :
    Calls Tryz.prog 152 #[.pointer (some ⟨x, 0, none⟩)] w fun e w' => e = .returned (.bool (isSign l (k + 1) [40])) ∧ Below w.heap.size w w' := by
  have H := Lib.hid (cahead1 w h hl)
  clear h
  have E : Hid (isSign l (k + 1) [40] = tokSign l[k + 1]? { data := #[40] }) := Lib.hid rfl
  go_enter Tryz.func152, Tryz.ntmps152
  go_wp2_with fail
  refine H.out.mono ?_; rintro e w1 ⟨rfl, hb⟩
  go_wp2_with fail
  refine (cisSign _ _ w1).mono ?_; rintro e w2 ⟨rfl, hb2⟩
  go_wp2_with fail
  go_ret
  exact ⟨by rw [E.out]; rfl, hb.trans (hb2.mono hb.size)⟩

/-- Is a text one of these? -/
def anyOf (ss : List (List UInt8)) (s : ByteArray) : Bool := ss.any fun u => decide (s = str u)
theorem anyOf_nil (s : ByteArray) : anyOf [] s = false := rfl
theorem anyOf_yes {u : List UInt8} {ss : List (List UInt8)} {s : ByteArray} (h : s = str u) : anyOf (u :: ss) s = true := by simp [anyOf, h]
theorem anyOf_no {u : List UInt8} {ss : List (List UInt8)} {s : ByteArray} (h : ¬ s = str u) : anyOf (u :: ss) s = anyOf ss s := by simp [anyOf, h]
def powS : List (List UInt8) := [[94]]
set_option maxRecDepth 100000 in
set_option maxHeartbeats 4000000 in
theorem cisComparing (s : ByteArray) (w : World) : Calls Tryz.prog 62 #[.string s] w fun e w' => e = .returned (.bool (anyOf cmpS s)) ∧ ∃ n, w' = w.drewN n := by
  unfold cmpS
  by_cases h0 : s = { data := #[61] }
  · rw [anyOf_yes h0]
    subst h0
    go_enter Tryz.func62, Tryz.ntmps62
    go_wp2_with fail
    go_ret
    exact ⟨rfl, 0, rfl⟩
  · have d0 : (s.toList == [61]) = false := text_ne h0
    by_cases h1 : s = { data := #[60, 62] }
    · rw [anyOf_no h0, anyOf_yes h1]
      subst h1
      clear h0
      go_enter Tryz.func62, Tryz.ntmps62
      go_wp2_with fail
      go_ret
      exact ⟨rfl, 0, rfl⟩
    · have d1 : (s.toList == [60, 62]) = false := text_ne h1
      by_cases h2 : s = { data := #[60] }
      · rw [anyOf_no h0, anyOf_no h1, anyOf_yes h2]
        subst h2
        clear h0
        clear h1
        go_enter Tryz.func62, Tryz.ntmps62
        go_wp2_with fail
        go_ret
        exact ⟨rfl, 0, rfl⟩
      · have d2 : (s.toList == [60]) = false := text_ne h2
        by_cases h3 : s = { data := #[60, 61] }
        · rw [anyOf_no h0, anyOf_no h1, anyOf_no h2, anyOf_yes h3]
          subst h3
          clear h0
          clear h1
          clear h2
          go_enter Tryz.func62, Tryz.ntmps62
          go_wp2_with fail
          go_ret
          exact ⟨rfl, 0, rfl⟩
        · have d3 : (s.toList == [60, 61]) = false := text_ne h3
          by_cases h4 : s = { data := #[62] }
          · rw [anyOf_no h0, anyOf_no h1, anyOf_no h2, anyOf_no h3, anyOf_yes h4]
            subst h4
            clear h0
            clear h1
            clear h2
            clear h3
            go_enter Tryz.func62, Tryz.ntmps62
            go_wp2_with fail
            go_ret
            exact ⟨rfl, 0, rfl⟩
          · have d4 : (s.toList == [62]) = false := text_ne h4
            by_cases h5 : s = { data := #[62, 61] }
            · rw [anyOf_no h0, anyOf_no h1, anyOf_no h2, anyOf_no h3, anyOf_no h4, anyOf_yes h5]
              subst h5
              clear h0
              clear h1
              clear h2
              clear h3
              clear h4
              go_enter Tryz.func62, Tryz.ntmps62
              go_wp2_with fail
              go_ret
              exact ⟨rfl, 0, rfl⟩
            · have d5 : (s.toList == [62, 61]) = false := text_ne h5
              rw [anyOf_no h0, anyOf_no h1, anyOf_no h2, anyOf_no h3, anyOf_no h4, anyOf_no h5, anyOf_nil]
              go_enter Tryz.func62, Tryz.ntmps62
              go_wp2_with fail
              go_ret
              exact ⟨rfl, 0, rfl⟩

set_option maxRecDepth 100000 in
set_option maxHeartbeats 4000000 in
theorem cisAdding (s : ByteArray) (w : World) : Calls Tryz.prog 90 #[.string s] w fun e w' => e = .returned (.bool (anyOf sumS s)) ∧ ∃ n, w' = w.drewN n := by
  unfold sumS
  by_cases h0 : s = { data := #[43] }
  · rw [anyOf_yes h0]
    subst h0
    go_enter Tryz.func90, Tryz.ntmps90
    go_wp2_with fail
    go_ret
    exact ⟨rfl, 0, rfl⟩
  · have d0 : (s.toList == [43]) = false := text_ne h0
    by_cases h1 : s = { data := #[45] }
    · rw [anyOf_no h0, anyOf_yes h1]
      subst h1
      clear h0
      go_enter Tryz.func90, Tryz.ntmps90
      go_wp2_with fail
      go_ret
      exact ⟨rfl, 0, rfl⟩
    · have d1 : (s.toList == [45]) = false := text_ne h1
      by_cases h2 : s = { data := #[38] }
      · rw [anyOf_no h0, anyOf_no h1, anyOf_yes h2]
        subst h2
        clear h0
        clear h1
        go_enter Tryz.func90, Tryz.ntmps90
        go_wp2_with fail
        go_ret
        exact ⟨rfl, 0, rfl⟩
      · have d2 : (s.toList == [38]) = false := text_ne h2
        rw [anyOf_no h0, anyOf_no h1, anyOf_no h2, anyOf_nil]
        go_enter Tryz.func90, Tryz.ntmps90
        go_wp2_with fail
        go_ret
        exact ⟨rfl, 0, rfl⟩

set_option maxRecDepth 100000 in
set_option maxHeartbeats 4000000 in
theorem cisMultiplying (s : ByteArray) (w : World) : Calls Tryz.prog 99 #[.string s] w fun e w' => e = .returned (.bool (anyOf mulS s)) ∧ ∃ n, w' = w.drewN n := by
  unfold mulS
  by_cases h0 : s = { data := #[42] }
  · rw [anyOf_yes h0]
    subst h0
    go_enter Tryz.func99, Tryz.ntmps99
    go_wp2_with fail
    go_ret
    exact ⟨rfl, 0, rfl⟩
  · have d0 : (s.toList == [42]) = false := text_ne h0
    by_cases h1 : s = { data := #[47] }
    · rw [anyOf_no h0, anyOf_yes h1]
      subst h1
      clear h0
      go_enter Tryz.func99, Tryz.ntmps99
      go_wp2_with fail
      go_ret
      exact ⟨rfl, 0, rfl⟩
    · have d1 : (s.toList == [47]) = false := text_ne h1
      by_cases h2 : s = { data := #[37] }
      · rw [anyOf_no h0, anyOf_no h1, anyOf_yes h2]
        subst h2
        clear h0
        clear h1
        go_enter Tryz.func99, Tryz.ntmps99
        go_wp2_with fail
        go_ret
        exact ⟨rfl, 0, rfl⟩
      · have d2 : (s.toList == [37]) = false := text_ne h2
        rw [anyOf_no h0, anyOf_no h1, anyOf_no h2, anyOf_nil]
        go_enter Tryz.func99, Tryz.ntmps99
        go_wp2_with fail
        go_ret
        exact ⟨rfl, 0, rfl⟩

set_option maxRecDepth 100000 in
set_option maxHeartbeats 4000000 in
theorem cisPower (s : ByteArray) (w : World) : Calls Tryz.prog 100 #[.string s] w fun e w' => e = .returned (.bool (anyOf powS s)) ∧ ∃ n, w' = w.drewN n := by
  unfold powS
  by_cases h0 : s = { data := #[94] }
  · rw [anyOf_yes h0]
    subst h0
    go_enter Tryz.func100, Tryz.ntmps100
    go_wp2_with fail
    go_ret
    exact ⟨rfl, 0, rfl⟩
  · have d0 : (s.toList == [94]) = false := text_ne h0
    rw [anyOf_no h0, anyOf_nil]
    go_enter Tryz.func100, Tryz.ntmps100
    go_wp2_with fail
    go_ret
    exact ⟨rfl, 0, rfl⟩

theorem one_any (l : List Tok) (k : Nat) (ss : List (List UInt8)) : (oneOf l k ss).isSome = match l[k]? with
    | some t => decide (t.k = 4) && anyOf ss t.s
    | none => false := by
  unfold oneOf isSign anyOf
  cases l[k]? with
  | none => simp
  | some t =>
    by_cases h : t.k = 4
    · simp only [h, decide_true, Bool.true_and]
      induction ss with
      | nil => rfl
      | cons u ss ih => cases hu : decide (t.s = str u) <;> simp only [List.find?, List.any, hu, Option.isSome, Bool.true_or, Bool.false_or]; exact ih
    · simp [h]
theorem one_tok {l : List Tok} {k : Nat} {ss : List (List UInt8)} {op : List UInt8} (h : oneOf l k ss = some op) : ∃ t, l[k]? = some t ∧ t.s = str op := by
  have h := List.find?_some h
  unfold isSign at h
  split at h
  · rename_i t ht
    simp only [Bool.and_eq_true, decide_eq_true_eq] at h
    exact ⟨t, ht, h.2⟩
  · cases h
theorem one_pow (l : List Tok) (k : Nat) : (oneOf l k powS).isSome = isSign l k [94] := by
  unfold oneOf powS
  cases h : isSign l k [94] <;> simp [List.find?, h]
set_option maxRecDepth 100000 in
set_option maxHeartbeats 4000000 in
theorem csees_isComparing {x k : Nat} {l : List Tok} {en nest : Int} (w : World) (h : Pc w x l en k nest) (hl : l.length ≤ 300) :
    Calls Tryz.prog 61 #[.pointer (some ⟨x, 0, none⟩), .func (.func 62) #[] #[]] w fun e w' => e = .returned (.bool (oneOf l k cmpS).isSome) ∧ Below w.heap.size w w' := by
  have H := Lib.hid (cahead0 w h hl)
  clear h
  rw [one_any]
  generalize l[k]? = o at *
  cases o with
  | none =>
    unfold tokV at H
    go_enter Tryz.func61, Tryz.ntmps61
    go_wp2_with fail
    refine H.out.mono ?_; rintro e w1 ⟨rfl, hb⟩
    go_wp2_with fail
    go_ret
    exact ⟨rfl, hb.alloc hb.size _⟩
  | some t =>
    obtain ⟨tk, n, s, a⟩ := t
    unfold tokV at H
    simp only at *
    by_cases h1 : tk = 4
    · subst h1
      go_enter Tryz.func61, Tryz.ntmps61
      go_wp2_with fail
      refine H.out.mono ?_; rintro e w1 ⟨rfl, hb⟩
      have HB := Lib.hid (hb.alloc hb.size (.cells #[.int .i64 4, .int .i64 n, .string s, .int .i64 a] 71))
      clear hb
      go_wp2_with fail
      refine (cisComparing _ _).mono ?_; rintro e w2 ⟨rfl, q, rfl⟩
      go_wp2_with fail
      go_ret
      exact ⟨by simp, below_drewN' HB.out q⟩
    · have d1 : decide (tk = 4) = false := decide_eq_false h1
      go_enter Tryz.func61, Tryz.ntmps61
      go_wp2_with fail
      refine H.out.mono ?_; rintro e w1 ⟨rfl, hb⟩
      go_wp2_with fail
      go_ret
      exact ⟨by simp [h1], hb.alloc hb.size _⟩

set_option maxRecDepth 100000 in
set_option maxHeartbeats 4000000 in
theorem csees_isAdding {x k : Nat} {l : List Tok} {en nest : Int} (w : World) (h : Pc w x l en k nest) (hl : l.length ≤ 300) :
    Calls Tryz.prog 61 #[.pointer (some ⟨x, 0, none⟩), .func (.func 90) #[] #[]] w fun e w' => e = .returned (.bool (oneOf l k sumS).isSome) ∧ Below w.heap.size w w' := by
  have H := Lib.hid (cahead0 w h hl)
  clear h
  rw [one_any]
  generalize l[k]? = o at *
  cases o with
  | none =>
    unfold tokV at H
    go_enter Tryz.func61, Tryz.ntmps61
    go_wp2_with fail
    refine H.out.mono ?_; rintro e w1 ⟨rfl, hb⟩
    go_wp2_with fail
    go_ret
    exact ⟨rfl, hb.alloc hb.size _⟩
  | some t =>
    obtain ⟨tk, n, s, a⟩ := t
    unfold tokV at H
    simp only at *
    by_cases h1 : tk = 4
    · subst h1
      go_enter Tryz.func61, Tryz.ntmps61
      go_wp2_with fail
      refine H.out.mono ?_; rintro e w1 ⟨rfl, hb⟩
      have HB := Lib.hid (hb.alloc hb.size (.cells #[.int .i64 4, .int .i64 n, .string s, .int .i64 a] 71))
      clear hb
      go_wp2_with fail
      refine (cisAdding _ _).mono ?_; rintro e w2 ⟨rfl, q, rfl⟩
      go_wp2_with fail
      go_ret
      exact ⟨by simp, below_drewN' HB.out q⟩
    · have d1 : decide (tk = 4) = false := decide_eq_false h1
      go_enter Tryz.func61, Tryz.ntmps61
      go_wp2_with fail
      refine H.out.mono ?_; rintro e w1 ⟨rfl, hb⟩
      go_wp2_with fail
      go_ret
      exact ⟨by simp [h1], hb.alloc hb.size _⟩

set_option maxRecDepth 100000 in
set_option maxHeartbeats 4000000 in
theorem csees_isMultiplying {x k : Nat} {l : List Tok} {en nest : Int} (w : World) (h : Pc w x l en k nest) (hl : l.length ≤ 300) :
    Calls Tryz.prog 61 #[.pointer (some ⟨x, 0, none⟩), .func (.func 99) #[] #[]] w fun e w' => e = .returned (.bool (oneOf l k mulS).isSome) ∧ Below w.heap.size w w' := by
  have H := Lib.hid (cahead0 w h hl)
  clear h
  rw [one_any]
  generalize l[k]? = o at *
  cases o with
  | none =>
    unfold tokV at H
    go_enter Tryz.func61, Tryz.ntmps61
    go_wp2_with fail
    refine H.out.mono ?_; rintro e w1 ⟨rfl, hb⟩
    go_wp2_with fail
    go_ret
    exact ⟨rfl, hb.alloc hb.size _⟩
  | some t =>
    obtain ⟨tk, n, s, a⟩ := t
    unfold tokV at H
    simp only at *
    by_cases h1 : tk = 4
    · subst h1
      go_enter Tryz.func61, Tryz.ntmps61
      go_wp2_with fail
      refine H.out.mono ?_; rintro e w1 ⟨rfl, hb⟩
      have HB := Lib.hid (hb.alloc hb.size (.cells #[.int .i64 4, .int .i64 n, .string s, .int .i64 a] 71))
      clear hb
      go_wp2_with fail
      refine (cisMultiplying _ _).mono ?_; rintro e w2 ⟨rfl, q, rfl⟩
      go_wp2_with fail
      go_ret
      exact ⟨by simp, below_drewN' HB.out q⟩
    · have d1 : decide (tk = 4) = false := decide_eq_false h1
      go_enter Tryz.func61, Tryz.ntmps61
      go_wp2_with fail
      refine H.out.mono ?_; rintro e w1 ⟨rfl, hb⟩
      go_wp2_with fail
      go_ret
      exact ⟨by simp [h1], hb.alloc hb.size _⟩

set_option maxRecDepth 100000 in
set_option maxHeartbeats 4000000 in
theorem csees_isPower {x k : Nat} {l : List Tok} {en nest : Int} (w : World) (h : Pc w x l en k nest) (hl : l.length ≤ 300) :
    Calls Tryz.prog 61 #[.pointer (some ⟨x, 0, none⟩), .func (.func 100) #[] #[]] w fun e w' => e = .returned (.bool (oneOf l k powS).isSome) ∧ Below w.heap.size w w' := by
  have H := Lib.hid (cahead0 w h hl)
  clear h
  rw [one_any]
  generalize l[k]? = o at *
  cases o with
  | none =>
    unfold tokV at H
    go_enter Tryz.func61, Tryz.ntmps61
    go_wp2_with fail
    refine H.out.mono ?_; rintro e w1 ⟨rfl, hb⟩
    go_wp2_with fail
    go_ret
    exact ⟨rfl, hb.alloc hb.size _⟩
  | some t =>
    obtain ⟨tk, n, s, a⟩ := t
    unfold tokV at H
    simp only at *
    by_cases h1 : tk = 4
    · subst h1
      go_enter Tryz.func61, Tryz.ntmps61
      go_wp2_with fail
      refine H.out.mono ?_; rintro e w1 ⟨rfl, hb⟩
      have HB := Lib.hid (hb.alloc hb.size (.cells #[.int .i64 4, .int .i64 n, .string s, .int .i64 a] 71))
      clear hb
      go_wp2_with fail
      refine (cisPower _ _).mono ?_; rintro e w2 ⟨rfl, q, rfl⟩
      go_wp2_with fail
      go_ret
      exact ⟨by simp, below_drewN' HB.out q⟩
    · have d1 : decide (tk = 4) = false := decide_eq_false h1
      go_enter Tryz.func61, Tryz.ntmps61
      go_wp2_with fail
      refine H.out.mono ?_; rintro e w1 ⟨rfl, hb⟩
      go_wp2_with fail
      go_ret
      exact ⟨by simp [h1], hb.alloc hb.size _⟩

/-- An error as the code tells it. -/
def errV (b : Bad) : Value := if b.1 = 14 then .iface 32 (.int .i64 14) else .iface 77 (.agg #[.int .i64 b.2, .int .i64 13])
theorem errV_deep : errV deepE = .iface 32 (.int .i64 14) := rfl
theorem errV_bad (l : List Tok) (n : Int) (k : Nat) : errV (badAt l n k) = .iface 77 (.agg #[.int .i64 (badAt l n k).2, .int .i64 13]) := rfl
set_option maxRecDepth 100000 in
set_option maxHeartbeats 4000000 in
theorem cmisplaced {x k : Nat} {l : List Tok} {en nest : Int} (w : World) (h : Pc w x l en k nest) (hl : l.length ≤ 300) :
    Calls Tryz.prog 37 #[.pointer (some ⟨x, 0, none⟩)] w fun e w' => e = .returned (errV (badAt l en k)) ∧ ∃ n, w' = w.drewN n := by
  have hx := h.lt
  have hle := h.le
  obtain ⟨A, c, h1, h2, h3⟩ := h.ex
  have q0 : w.cell? ⟨x, 0, none⟩ = some (.slice A (l.length - k) c) := by simp [World.cell?, h1]
  have q1 : w.cell? ⟨x, 1, none⟩ = some (.int .i64 en) := by simp [World.cell?, h1]
  have H3 := Lib.hid h3
  clear h3 h1 h
  rw [errV_bad]
  by_cases hlt : k < l.length
  · obtain ⟨g, rfl, hg, f0, f1, f2, f3⟩ := H3.out k hlt (Nat.le_refl _)
    clear H3
    have hm : ¬ (l.length - k = 0) := by omega
    have E : Hid ((badAt l en k).2 = l[k].at_) := Lib.hid (by unfold badAt; rw [List.getElem?_eq_getElem hlt])
    rw [E.out]
    clear E
    generalize l[k] = t at *
    generalize l.length - k = m at *
    go_enter Tryz.func37, Tryz.ntmps37
    go_wp2_with fail
    go_ret
    exact ⟨rfl, 0, rfl⟩
  · have hm : l.length - k = 0 := by omega
    clear H3
    have E : Hid ((badAt l en k).2 = en) := Lib.hid (by unfold badAt; rw [List.getElem?_eq_none (by omega)])
    rw [E.out]
    clear E
    generalize l.length - k = m at *
    subst hm
    go_enter Tryz.func37, Tryz.ntmps37
    go_wp2_with fail
    go_ret
    exact ⟨rfl, 0, rfl⟩

set_option maxRecDepth 100000 in
set_option maxHeartbeats 4000000 in
theorem cconstant (vk vn : Int) (s : ByteArray) (w : World) :
    Calls Tryz.prog 150 #[.agg #[.int .i64 vk, .int .i64 vn, .string s]] w fun e w' => e = .returned (nodeV (constN vk vn s).f none 0 0) ∧ Below w.heap.size w w' := by
  unfold nodeV constN
  go_enter Tryz.func150, Tryz.ntmps150
  go_wp2_with fail
  refine bodyPost_ret (v := .agg #[.int .i64 1, .int .i64 vk, .int .i64 vn, .string s, .int .i64 0, .int .i64 0, .int .i64 0, .int .i64 0, .string { data := #[] }, .slice none 0 0]) (by simp [results, Tryz.results150, go_sem]) rfl ⟨rfl, ((Below.refl _ _).alloc (Nat.le_refl _) _).alloc (by simp) _⟩

end Go.Proofs.YtkdgiadpmfpjnaaGreatDoor.TreeC

/-
  Contracts of tree's code: makers, nested ones, what closes.
-/
namespace Go.Proofs.YtkdgiadpmfpjnaaGreatDoor.TreeC
set_option linter.unusedVariables false
open Go.RowKit Go.Proofs.YtkdgiadpmfpjnaaGreatDoor.NumC Go.Proofs.YtkdgiadpmfpjnaaGreatDoor.LexC

def IsBad (b : Bad) : Prop := b.1 = 13 ∨ b = deepE
theorem isBad_at (l : List Tok) (n : Int) (k : Nat) : IsBad (badAt l n k) := Or.inl rfl
theorem isBad_deep : IsBad deepE := Or.inr rfl
theorem errV_some (b : Bad) : ∃ T u, errV b = .iface T u := by
  unfold errV; split
  · exact ⟨_, _, rfl⟩
  · exact ⟨_, _, rfl⟩
theorem RowAt.same {w w' : World} {P Q : Nat → Prop} (hP : ∀ g, P g → g < w.heap.size → w'.heap[g]? = w.heap[g]? ∧ Q g) : ∀ (fo : Fo) (g o : Nat), RowAt w P fo g o → RowAt w' Q fo g o := by
  intro fo
  induction fo with
  | nil => intro g o _; trivial
  | cons f kids next ih1 ih2 =>
    intro g o h
    obtain ⟨⟨hx, f0, f1, f2, f3, f4, f5, f6, f7, f8⟩, ⟨A, c, h9, hA⟩, hn⟩ := h
    obtain ⟨hy, hq⟩ := hP g hx (World.block_lt_of_cell? w _ f0)
    have hc (o : Nat) (v : Value) (h : w.cell? ⟨g, o, none⟩ = some v) : w'.cell? ⟨g, o, none⟩ = some v := by rw [← h]; unfold World.cell?; rw [hy]
    refine ⟨⟨hq, hc _ _ f0, hc _ _ f1, hc _ _ f2, hc _ _ f3, hc _ _ f4, hc _ _ f5, hc _ _ f6, hc _ _ f7, hc _ _ f8⟩, ⟨A, c, hc _ _ h9, ?_⟩, ih2 g _ hn⟩
    rcases hA with h | ⟨g', o', e, hr⟩
    · exact Or.inl h
    · exact Or.inr ⟨g', o', e, ih1 g' o' hr⟩
/-- What a maker answers: the node in new rows, and no error; or whatever node, and what is wrong. -/
def CPostP (P : Nat → Prop) (x : Nat) (l : List Tok) (en nest : Int) (out : Out) (w : World) (e : Ending) (w' : World) : Prop :=
  ∃ f A m c er, e = .returned (.tuple #[nodeV f A m c, er]) ∧ Kept x w w' ∧
    ((∃ kd k', out = .ok (⟨f, kd⟩, k') ∧ er = .nilIface ∧ kd.len = m ∧ KidsAt w' P kd A ∧ Pc w' x l en k' nest) ∨
     (∃ b k2, out = .error b ∧ IsBad b ∧ er = errV b ∧ Pc w' x l en k2 nest))
abbrev CPost (B x : Nat) (l : List Tok) (en nest : Int) (out : Out) (w : World) (e : Ending) (w' : World) : Prop := CPostP (fun g => B ≤ g) x l en nest out w e w'
theorem CPost.ok {P : Nat → Prop} {x b k' m c : Nat} {l : List Tok} {en nest : Int} {f : Fld} {kd : Fo} {A : Option Addr} {w V W : World} {out : Out} (ho : out = .ok (⟨f, kd⟩, k')) (hK : Kept x w V) (hP : Pc V x l en k' nest) (hn : kd.len = m) (hA : KidsAt V (fun g => P g ∧ g ≠ b) kd A) (hb : w.heap.size ≤ b) (hx : x < w.heap.size) (hk : Kept b V W) :
    CPostP P x l en nest out w (.returned (.tuple #[nodeV f A m c, .nilIface])) W :=
  ⟨f, A, m, c, _, rfl, hK.then_ hk hb, Or.inl ⟨kd, k', ho, rfl, hn, hA.keep hk (fun g hg _ => ⟨hg.2, hg.1⟩), hP.kept hk (by omega)⟩⟩
theorem CPost.err {P : Nat → Prop} {x b k2 m c : Nat} {l : List Tok} {en nest : Int} {f : Fld} {A : Option Addr} {w V W : World} {out : Out} {bad : Bad} (ho : out = .error bad) (hi : IsBad bad) (hK : Kept x w V) (hP : Pc V x l en k2 nest) (hb : w.heap.size ≤ b) (hx : x < w.heap.size) (hk : Kept b V W) :
    CPostP P x l en nest out w (.returned (.tuple #[nodeV f A m c, errV bad])) W :=
  ⟨f, A, m, c, _, rfl, hK.then_ hk hb, Or.inr ⟨bad, k2, ho, hi, rfl, hP.kept hk (by omega)⟩⟩
/-- Handed on, with another row's number, in a later world. -/
theorem CPost.on {B B' x b m c : Nat} {l : List Tok} {en nest : Int} {f : Fld} {A : Option Addr} {er : Value} {w V W : World} {out : Out}
    (h : (∃ kd k', out = .ok (⟨f, kd⟩, k') ∧ er = .nilIface ∧ kd.len = m ∧ KidsAt V (fun g => B' ≤ g) kd A ∧ Pc V x l en k' nest) ∨ (∃ b k2, out = .error b ∧ IsBad b ∧ er = errV b ∧ Pc V x l en k2 nest))
    (hK : Kept x w V) (hB : B ≤ B') (hbB : b < B') (hb : w.heap.size ≤ b) (hx : x < w.heap.size) (hk : Kept b V W) :
    CPost B x l en nest out w (.returned (.tuple #[nodeV f A m c, er])) W := by
  rcases h with ⟨kd, k', ho, rfl, hn, hA, hP⟩ | ⟨bad, k2, ho, hi, rfl, hP⟩
  · exact CPost.ok ho hK hP hn (hA.keep (Kept.refl V.heap.size _) (fun g hg hl => ⟨by omega, by omega, by omega⟩)) hb hx hk
  · exact CPost.err ho hi hK hP hb hx hk
def Enters (g : Nat) : Prop := ∀ args w, (callFunc g args).run Tryz.prog w = .ok (.enter g args) w

set_option maxRecDepth 100000 in
set_option maxHeartbeats 4000000 in
theorem cnested {x : Nat} (g : Nat) (pre : Array Value) (w : World) (hx : x < w.heap.size) :
    Calls Tryz.prog 122 #[.pointer (some ⟨x, 0, none⟩), .func (.func g) pre #[]] w fun e w' => ∃ b1 b2, e = .returned (.func (.func 134) #[] #[.pointer (some ⟨b1, 0, none⟩), .pointer (some ⟨b2, 0, none⟩)]) ∧ Below w.heap.size w w' ∧
      w'.cell? ⟨b1, 0, none⟩ = some (.pointer (some ⟨x, 0, none⟩)) ∧ w'.cell? ⟨b2, 0, none⟩ = some (.func (.func g) pre #[]) ∧ x < b1 ∧ x < b2 ∧ w.heap.size ≤ b1 ∧ w.heap.size ≤ b2 := by
  go_enter Tryz.func122, Tryz.ntmps122
  go_wp2_with fail
  go_ret
  exact ⟨_, _, rfl, ((Below.refl _ _).alloc (Nat.le_refl _) _).alloc (by simp) _, by simp, by simp, by omega, by omega, by omega, by omega⟩

set_option maxRecDepth 100000 in
set_option maxHeartbeats 4000000 in
theorem cnested1 {x k g : Nat} {l : List Tok} {en nest : Int} {F : Nat → Out} {b1 b2 : Nat} (eg : ∀ args w, (callFunc g args).run Tryz.prog w = .ok (.enter g args) w) (w : World) (h : Pc w x l en k nest) (hn0 : 0 ≤ nest) (hn1 : nest ≤ 40)
    (h1 : w.cell? ⟨b1, 0, none⟩ = some (.pointer (some ⟨x, 0, none⟩))) (h2 : w.cell? ⟨b2, 0, none⟩ = some (.func (.func g) #[.pointer (some ⟨x, 0, none⟩)] #[])) (hx1 : b1 ≠ x) (hx2 : b2 ≠ x)
    (hm : nest < 40 → ∀ w', Kept x w w' → Pc w' x l en k (nest + 1) → Calls Tryz.prog g #[.pointer (some ⟨x, 0, none⟩)] w' (CPost w'.heap.size x l en (nest + 1) (F k) w')) :
    Calls Tryz.prog 134 #[.pointer (some ⟨b1, 0, none⟩), .pointer (some ⟨b2, 0, none⟩)] w (CPost w.heap.size x l en nest (if nest < 40 then F k else .error deepE) w) := by
  have hxw := h.lt
  obtain ⟨A, c, hp, hp2, hp3⟩ := h.ex
  have q2 : w.cell? ⟨x, 2, none⟩ = some (.int .i64 nest) := by simp [World.cell?, hp]
  have z2 : w.frozen? ⟨x, 2, none⟩ = false := by simp [World.frozen?, hp]
  clear hp hp2 hp3
  have HI := Lib.hid h
  clear h
  have hb1 := World.block_lt_of_cell? w _ h1
  have hb2 := World.block_lt_of_cell? w _ h2
  simp only at hb1 hb2
  by_cases hin : nest < 40
  · rw [if_pos hin]
    have hd : ¬ nest = 40 := by omega
    have ne1 : x ≠ w.heap.size := by omega
    have ne2 : w.heap.size ≠ x := by omega
    have HM := Lib.hid (hm hin)
    clear hm
    go_enter Tryz.func134, Tryz.ntmps134
    go_wp2_with fail
    have K1 : Kept x w ((w.setCell ⟨x, 2, none⟩ (.int .i64 (nest + 1))).alloc (.cells #[.int .i64 0, .int .i64 0, .int .i64 0, .string { data := #[] }, .int .i64 0, .int .i64 0, .int .i64 0, .int .i64 0, .string { data := #[] }, .slice none 0 0] 31)) := ((Kept.refl x w).setCell _ _).alloc _
    have X1 : NBox ((w.setCell ⟨x, 2, none⟩ (.int .i64 (nest + 1))).alloc (.cells #[.int .i64 0, .int .i64 0, .int .i64 0, .string { data := #[] }, .int .i64 0, .int .i64 0, .int .i64 0, .int .i64 0, .string { data := #[] }, .slice none 0 0] 31)) w.heap.size := by
      have := NBox.new (w.setCell ⟨x, 2, none⟩ (.int .i64 (nest + 1)))
      rwa [show (w.setCell ⟨x, 2, none⟩ (.int .i64 (nest + 1))).heap.size = w.heap.size by simp [World.setCell]] at this
    refine (HM.out _ K1 ((HI.out.setN (nest + 1)).alloc _)).mono ?_
    generalize ((w.setCell ⟨x, 2, none⟩ (.int .i64 (nest + 1))).alloc (.cells #[.int .i64 0, .int .i64 0, .int .i64 0, .string { data := #[] }, .int .i64 0, .int .i64 0, .int .i64 0, .int .i64 0, .string { data := #[] }, .slice none 0 0] 31)) = W1 at *
    have lt1 := X1.lt
    rintro e w3 ⟨f, A, m, c, er, rfl, k3, hp3⟩
    have X3 := X1.kept k3 ne2
    have K3 := K1.trans k3
    have h13 := (k3.cell hx1 (K1.cell hx1 h1))
    have lt3 := X3.lt
    have P3 : ∃ kk, Pc w3 x l en kk (nest + 1) := by
      rcases hp3 with ⟨kd, k', -, -, -, -, h⟩ | ⟨b, k2, -, -, -, h⟩
      · exact ⟨_, h⟩
      · exact ⟨_, h⟩
    obtain ⟨kk, P3⟩ := P3
    obtain ⟨A3, c3, hp, -, -⟩ := P3.ex
    have q3 : w3.cell? ⟨x, 2, none⟩ = some (.int .i64 (nest + 1)) := by simp [World.cell?, hp]
    have y3 : w3.frozen? ⟨x, 2, none⟩ = false := by simp [World.frozen?, hp]
    clear hp q2 z2 h1 h2
    have hx3 := P3.lt
    have na1 : x ≠ w3.heap.size := by omega
    have na2 : w3.heap.size ≠ x := by omega
    have hb3 : b1 < w3.heap.size := by omega
    have na3 : b1 ≠ w3.heap.size := by omega
    have na4 : w.heap.size ≠ w3.heap.size := by omega
    have na5 : w3.heap.size ≠ w.heap.size := by omega
    have HP := Lib.hid hp3
    clear hp3
    unfold nodeV
    obtain ⟨f0, f1, f2, f3, f4, f5, f6, f7, f8, f9, z0, z1, z2, z3, z4, z5, z6, z7, z8, z9⟩ := (X3).cells
    go_wp2_with fail
    refine bodyPost_ret (v := .tuple #[.agg #[.int .i64 f.k, .int .i64 f.vk, .int .i64 f.vn, .string f.vs, .int .i64 f.r1, .int .i64 f.r2, .int .i64 f.r3, .int .i64 f.r4, .string f.op, .slice A m c], er]) (by simp [results, Tryz.results134, go_sem, f0, f1, f2, f3, f4, f5, f6, f7, f8, f9, lt3]) rfl ?_
    rcases HP.out with ⟨kd, k', ho, rfl, hn, hA, hP⟩ | ⟨bad, k2, ho, hi, rfl, hP⟩
    · refine CPost.ok (f := f) (A := A) (m := m) (c := c) (b := w.heap.size) (V := w3.setCell ⟨x, 2, none⟩ (.int .i64 nest)) ho (K3.setCell _ _) ?_ hn (hA.keep (Q := fun g => w.heap.size ≤ g ∧ g ≠ w.heap.size) ((Kept.refl x w3).setCell _ _) (fun g hg hl => ⟨by omega, by omega, by omega⟩)) (Nat.le_refl _) hxw ?_
      · exact hP.setN nest
      · repeat (first | with_reducible exact Kept.refl _ _ | with_reducible refine Kept.setCell ?_ _ _ | with_reducible refine Kept.alloc ?_ _)
    · refine CPost.err (f := f) (A := A) (m := m) (c := c) (b := w.heap.size) (V := w3.setCell ⟨x, 2, none⟩ (.int .i64 nest)) ho hi (K3.setCell _ _) (hP.setN nest) (Nat.le_refl _) hxw ?_
      repeat (first | with_reducible exact Kept.refl _ _ | with_reducible refine Kept.setCell ?_ _ _ | with_reducible refine Kept.alloc ?_ _)
  · rw [if_neg hin]
    obtain rfl : nest = 40 := by omega
    go_enter Tryz.func134, Tryz.ntmps134
    go_wp2_with fail
    refine bodyPost_ret (v := .tuple #[.agg #[.int .i64 0, .int .i64 0, .int .i64 0, .string { data := #[] }, .int .i64 0, .int .i64 0, .int .i64 0, .int .i64 0, .string { data := #[] }, .slice none 0 0], errV deepE]) (by simp [results, Tryz.results134, go_sem, errV_deep]) rfl (CPost.err (f := fld0) (A := none) (m := 0) (c := 0) (b := w.heap.size) (V := w) rfl isBad_deep (Kept.refl _ _) HI.out (Nat.le_refl _) hxw ?_)
    repeat (first | with_reducible exact Kept.refl _ _ | with_reducible refine Kept.setCell ?_ _ _ | with_reducible refine Kept.alloc ?_ _)


end Go.Proofs.YtkdgiadpmfpjnaaGreatDoor.TreeC

/-
  Contracts of tree's code: what closes; a pair.
-/
namespace Go.Proofs.YtkdgiadpmfpjnaaGreatDoor.TreeC
set_option linter.unusedVariables false
open Go.RowKit Go.Proofs.YtkdgiadpmfpjnaaGreatDoor.NumC Go.Proofs.YtkdgiadpmfpjnaaGreatDoor.LexC

/-- What a maker's answer comes to with the ) behind it. -/
def closedF (l : List Tok) (n : Int) (o : Out) : Out := match o with
  | .error e => .error e
  | .ok (a, k') => match closeF l n k' with
    | .error e => .error e
    | .ok k'' => .ok (a, k'')
theorem closed_err {l : List Tok} {n : Int} {o : Out} {b : Bad} (h : o = .error b) : closedF l n o = .error b := by subst h; rfl
theorem closed_no {l : List Tok} {n : Int} {o : Out} {a : Nd} {k' : Nat} (h : o = .ok (a, k')) (hs : isSign l k' [41] = false) : closedF l n o = .error (badAt l n k') := by subst h; simp [closedF, close_no hs]
theorem closed_yes {l : List Tok} {n : Int} {o : Out} {a : Nd} {k' : Nat} (h : o = .ok (a, k')) (hs : isSign l k' [41] = true) : closedF l n o = .ok (a, k' + 1) := by subst h; simp [closedF, close_ok hs]
theorem Kept.weak {x y : Nat} {w w' : World} (h : Below w.heap.size w w') : Kept x w w' := Kept.of h
set_option maxRecDepth 100000 in
set_option maxHeartbeats 4000000 in
theorem cclosed {x k g : Nat} {l : List Tok} {en nest : Int} {F : Nat → Out} {lb : Array Value} (eg : ∀ args w, (callFunc g args).run Tryz.prog w = .ok (.enter g args) w) (w : World) (h : Pc w x l en k nest) (hl : l.length ≤ 300)
    (hm : ∀ w', Kept x w w' → Pc w' x l en k nest → Calls Tryz.prog g lb w' (CPost w'.heap.size x l en nest (F k) w')) :
    Calls Tryz.prog 155 #[.pointer (some ⟨x, 0, none⟩), .func (.func g) #[] lb] w (CPost w.heap.size x l en nest (closedF l en (F k)) w) := by
  have hxw := h.lt
  have HI := Lib.hid h
  clear h
  have ne1 : x ≠ w.heap.size := by omega
  have ne2 : w.heap.size ≠ x := by omega
  have HM := Lib.hid hm
  have B41 : Hid (({ data := #[41] } : ByteArray) = str [41]) := Lib.hid rfl
  clear hm
  go_enter Tryz.func155, Tryz.ntmps155
  go_wp2_with fail
  have K1 : Kept x w (w.alloc (.cells #[.int .i64 0, .int .i64 0, .int .i64 0, .string { data := #[] }, .int .i64 0, .int .i64 0, .int .i64 0, .int .i64 0, .string { data := #[] }, .slice none 0 0] 31)) := (Kept.refl x w).alloc _
  have X1 := NBox.new w
  refine (HM.out _ K1 (HI.out.alloc _)).mono ?_
  generalize (w.alloc (.cells #[.int .i64 0, .int .i64 0, .int .i64 0, .string { data := #[] }, .int .i64 0, .int .i64 0, .int .i64 0, .int .i64 0, .string { data := #[] }, .slice none 0 0] 31)) = W1 at *
  have lt1 := X1.lt
  rintro e w3 ⟨f, A, m, c, er, rfl, k3, hp3⟩
  have X3 := X1.kept k3 ne2
  have K3 := K1.trans k3
  have lt3 := X3.lt
  have hx3 : x < w3.heap.size := by have := k3.size; omega
  have na1 : x ≠ w3.heap.size := by omega
  have na2 : w3.heap.size ≠ x := by omega
  have na4 : w.heap.size ≠ w3.heap.size := by omega
  have na5 : w3.heap.size ≠ w.heap.size := by omega
  unfold nodeV
  rcases hp3 with ⟨kd, k', ho, rfl, hn, hA, hP⟩ | ⟨bad, k2, ho, hi, rfl, hP⟩
  · have HO := Lib.hid ho
    clear ho
    have VL : NLoc (w3.alloc (.cells #[.int .i64 f.k, .int .i64 f.vk, .int .i64 f.vn, .string f.vs, .int .i64 f.r1, .int .i64 f.r2, .int .i64 f.r3, .int .i64 f.r4, .string f.op, .slice A m c] 31)) w3.heap.size f A m c := ⟨heap_alloc_new _ _⟩
    have X4 := X3.kept ((Kept.refl x w3).alloc (.cells #[.int .i64 f.k, .int .i64 f.vk, .int .i64 f.vn, .string f.vs, .int .i64 f.r1, .int .i64 f.r2, .int .i64 f.r3, .int .i64 f.r4, .string f.op, .slice A m c] 31)) ne2
    have K4 := K3.alloc (.cells #[.int .i64 f.k, .int .i64 f.vk, .int .i64 f.vn, .string f.vs, .int .i64 f.r1, .int .i64 f.r2, .int .i64 f.r3, .int .i64 f.r4, .string f.op, .slice A m c] 31)
    have P4 := Lib.hid (hP.alloc (.cells #[.int .i64 f.k, .int .i64 f.vk, .int .i64 f.vn, .string f.vs, .int .i64 f.r1, .int .i64 f.r2, .int .i64 f.r3, .int .i64 f.r4, .string f.op, .slice A m c] 31))
    have hA4 := hA.keep (Q := fun g => w.heap.size < g ∧ g ≠ w3.heap.size) ((Kept.refl x w3).alloc (.cells #[.int .i64 f.k, .int .i64 f.vk, .int .i64 f.vn, .string f.vs, .int .i64 f.r1, .int .i64 f.r2, .int .i64 f.r3, .int .i64 f.r4, .string f.op, .slice A m c] 31)) (fun g hg hl => ⟨by omega, by omega, by omega⟩)
    have s4 : w3.heap.size < (w3.alloc (.cells #[.int .i64 f.k, .int .i64 f.vk, .int .i64 f.vn, .string f.vs, .int .i64 f.r1, .int .i64 f.r2, .int .i64 f.r3, .int .i64 f.r4, .string f.op, .slice A m c] 31)).heap.size := VL.lt
    clear hP hA
    go_wp2_with fail
    generalize (w3.alloc (.cells #[.int .i64 f.k, .int .i64 f.vk, .int .i64 f.vn, .string f.vs, .int .i64 f.r1, .int .i64 f.r2, .int .i64 f.r3, .int .i64 f.r4, .string f.op, .slice A m c] 31)) = V at *
    rw [B41.out]
    refine (cseesSign [41] V P4.out hl).mono ?_; rintro e w5 ⟨rfl, hb5⟩
    have k5 : Kept x V w5 := Kept.of hb5
    have X5 := X4.kept k5 ne2
    have K5 := K4.trans k5
    have P5 := Lib.hid (P4.out.below hb5)
    have VL5 := VL.kept k5 na2
    have hA5 := hA4.keep (Q := fun g => w.heap.size < g ∧ g ≠ w3.heap.size) k5 (fun g hg hl => ⟨by omega, hg⟩)
    have s5 := VL5.lt
    clear X4 K4 P4 VL hA4 hb5 k5
    cases hs : isSign l k' [41]
    · go_wp2_with fail
      refine (cmisplaced w5 P5.out hl).mono ?_; rintro e w6 ⟨rfl, q, rfl⟩
      have k6 := (Kept.refl x w5).drew q
      have X6 := X5.kept k6 ne2
      have K6 := K5.trans k6
      have P6 := P5.out.drew q
      obtain ⟨f0, f1, f2, f3, f4, f5, f6, f7, f8, f9, z0, z1, z2, z3, z4, z5, z6, z7, z8, z9⟩ := (X6).cells
      go_wp2_with fail
      refine bodyPost_ret (v := .tuple #[.agg #[.int .i64 0, .int .i64 0, .int .i64 0, .string { data := #[] }, .int .i64 0, .int .i64 0, .int .i64 0, .int .i64 0, .string { data := #[] }, .slice none 0 0], errV (badAt l en k')]) (by simp [results, Tryz.results155, go_sem, f0, f1, f2, f3, f4, f5, f6, f7, f8, f9]) rfl (CPost.err (f := fld0) (A := none) (m := 0) (c := 0) (b := w.heap.size) (V := w5.drewN q) (closed_no HO.out hs) (isBad_at _ _ _) K6 P6 (Nat.le_refl _) hxw ?_)
      repeat (first | with_reducible exact Kept.refl _ _ | with_reducible refine Kept.setCell ?_ _ _ | with_reducible refine Kept.alloc ?_ _)
    · have hlt := sign_lt hs
      go_wp2_with fail
      refine (ctake w5 P5.out hlt).mono ?_; rintro e w6 ⟨rfl, P6, k6⟩
      have X6 := X5.kept k6 ne2
      have K6 := K5.trans k6
      have VL6 := VL5.kept k6 na2
      have hA6 := hA5.keep (Q := fun g => w.heap.size ≤ g ∧ g ≠ w.heap.size) k6 (fun g hg hl => ⟨by omega, by omega, by omega⟩)
      have s6 := VL6.lt
      obtain ⟨d0, d1, d2, d3, d4, d5, d6, d7, d8, d9, dz0, dz1, dz2, dz3, dz4, dz5, dz6, dz7, dz8, dz9⟩ := (VL6).cells
      obtain ⟨f0, f1, f2, f3, f4, f5, f6, f7, f8, f9, z0, z1, z2, z3, z4, z5, z6, z7, z8, z9⟩ := (X6).cells
      go_wp2_with fail
      refine bodyPost_ret (v := .tuple #[.agg #[.int .i64 f.k, .int .i64 f.vk, .int .i64 f.vn, .string f.vs, .int .i64 f.r1, .int .i64 f.r2, .int .i64 f.r3, .int .i64 f.r4, .string f.op, .slice A m c], .nilIface]) (by simp [results, Tryz.results155, go_sem, f0, f1, f2, f3, f4, f5, f6, f7, f8, f9]) rfl (CPost.ok (f := f) (A := A) (m := m) (c := c) (b := w.heap.size) (V := w6) (closed_yes HO.out hs) K6 P6 hn hA6 (Nat.le_refl _) hxw ?_)
      repeat (first | with_reducible exact Kept.refl _ _ | with_reducible refine Kept.setCell ?_ _ _ | with_reducible refine Kept.alloc ?_ _)
  · obtain ⟨T, u, hT⟩ := errV_some bad
    have HO := Lib.hid ho
    have P3 := Lib.hid hP
    clear ho hP
    rw [hT]
    obtain ⟨f0, f1, f2, f3, f4, f5, f6, f7, f8, f9, z0, z1, z2, z3, z4, z5, z6, z7, z8, z9⟩ := (X3).cells
    go_wp2_with fail
    refine bodyPost_ret (v := .tuple #[.agg #[.int .i64 0, .int .i64 0, .int .i64 0, .string { data := #[] }, .int .i64 0, .int .i64 0, .int .i64 0, .int .i64 0, .string { data := #[] }, .slice none 0 0], .iface T u]) (by simp [results, Tryz.results155, go_sem, f0, f1, f2, f3, f4, f5, f6, f7, f8, f9, lt3]) rfl (hT ▸ CPost.err (f := fld0) (A := none) (m := 0) (c := 0) (b := w.heap.size) (V := w3) (closed_err HO.out) hi K3 P3.out (Nat.le_refl _) hxw ?_)
    repeat (first | with_reducible exact Kept.refl _ _ | with_reducible refine Kept.setCell ?_ _ _ | with_reducible refine Kept.alloc ?_ _)

theorem field_S (k n : Int) (s : ByteArray) (a : Int) (w : World) : (Instr.field 71 (.agg #[.int .i64 k, .int .i64 n, .string s, .int .i64 a]) 2).run Tryz.prog w = .ok (.string s) w := by kernel_rfl
/-- A pair of a node that is there and of what a maker makes. -/
theorem cpair_kids {w : World} {Q : Nat → Prop} {f g : Fld} {A B : Option Addr} {n m c d b : Nat} {ka kb : Fo} (hb : Q b) (h : w.heap[b]? = some (.cells ((nodeV f A n c).cells ++ (nodeV g B m d).cells) 31 (0, 0)))
    (hn : ka.len = n) (hm : kb.len = m) (hA : KidsAt w Q ka A) (hB : KidsAt w Q kb B) : KidsAt w Q ((Nd.one ⟨f, ka⟩).app (Nd.one ⟨g, kb⟩)) (some ⟨b, 0, none⟩) :=
  Or.inr ⟨b, 0, rfl, rowAt_block hb (vs := [nodeV f A n c, nodeV g B m d]) ⟨⟨A, c, by rw [hn], hA⟩, ⟨⟨B, d, by rw [hm], hB⟩, trivial⟩⟩ h rfl⟩
def binF (op : List UInt8) (a : Nd) (o : Out) : Out := match o with
  | .error e => .error e
  | .ok (b, k') => .ok (pairN op a b, k')
theorem row_at2 (U : World) (a b : Obj) {n : Nat} (h : U.heap.size = n) : ((U.alloc a).alloc b).heap[n + 1]? = some b := by
  subst h
  have e : (U.alloc a).heap.size = U.heap.size + 1 := heap_one _ _
  rw [← e]; exact heap_alloc_new _ _
theorem cpair_fin {P : Nat → Prop} {x b k' n m c d pb : Nat} {l : List Tok} {en nest : Int} {op : List UInt8} {f g : Fld} {A C : Option Addr} {ka kb : Fo} {o : Out} {w V W : World} (hK : Kept x w V) (hP : Pc V x l en k' nest) (ho : o = .ok (⟨g, kb⟩, k'))
    (hn : ka.len = n) (hm : kb.len = m) (hA : KidsAt V (fun g => P g ∧ g ≠ b) ka A) (hB : KidsAt V (fun g => P g ∧ g ≠ b) kb C) (hpb : P pb ∧ pb ≠ b) (hb : w.heap.size ≤ b) (hx : x < w.heap.size) (hk : Kept b V W)
    (hr : W.heap[pb]? = some (.cells ((nodeV f A n c).cells ++ (nodeV g C m d).cells) 31 (0, 0))) :
    CPostP P x l en nest (binF op ⟨f, ka⟩ o) w (.returned (.tuple #[nodeV (pairFld (str op)) (some ⟨pb, 0, none⟩) 2 2, .nilIface])) W := by
  subst ho
  have hA' := hA.keep (Q := fun g => P g ∧ g ≠ b) hk (fun g hg _ => ⟨hg.2, hg⟩)
  have hB' := hB.keep (Q := fun g => P g ∧ g ≠ b) hk (fun g hg _ => ⟨hg.2, hg⟩)
  exact CPost.ok (b := b) (V := W) (kd := (Nd.one ⟨f, ka⟩).app (Nd.one ⟨g, kb⟩)) rfl (hK.then_ hk hb) (hP.kept hk (by omega)) rfl (cpair_kids (w := W) hpb hr hn hm hA' hB') hb hx (Kept.refl _ _)

set_option maxRecDepth 100000 in
set_option maxHeartbeats 4000000 in
theorem cbinary {P : Nat → Prop} {x k g : Nat} {l : List Tok} {en nest : Int} {F : Nat → Out} {pre post : Array Value} (eg : ∀ args w, (callFunc g args).run Tryz.prog w = .ok (.enter g args) w) (w : World) (h : Pc w x l en k nest) (hl : l.length ≤ 300)
    {t : Tok} (ht : l[k]? = some t) {op : List UInt8} (hop : t.s = str op) {f : Fld} {A : Option Addr} {m c : Nat} {kd : Fo} (hA : KidsAt w P kd A) (hn : kd.len = m) (hPx : ∀ g, P g → g ≠ x)
    (hm : ∀ w', Kept x w w' → Pc w' x l en (k + 1) nest → Calls Tryz.prog g (pre ++ post) w' (CPost w'.heap.size x l en nest (F (k + 1)) w')) :
    Calls Tryz.prog 63 #[.pointer (some ⟨x, 0, none⟩), nodeV f A m c, .func (.func g) pre post] w (CPostP (fun g => P g ∨ w.heap.size ≤ g) x l en nest (binF op ⟨f, kd⟩ (F (k + 1))) w) := by
  have hxw := h.lt
  have HI := Lib.hid h
  have hlt : k < l.length := (List.getElem?_eq_some_iff.1 ht).1
  have HT := Lib.hid ht
  clear h ht
  have HM := Lib.hid hm
  clear hm
  unfold nodeV
  have ne1 : x ≠ w.heap.size + 1 := by omega
  have ne2 : w.heap.size + 1 ≠ x := by omega
  have nf1 : x ≠ w.heap.size := by omega
  have nf2 : w.heap.size ≠ x := by omega
  have sz1 : (w.alloc (.cells #[.int .i64 f.k, .int .i64 f.vk, .int .i64 f.vn, .string f.vs, .int .i64 f.r1, .int .i64 f.r2, .int .i64 f.r3, .int .i64 f.r4, .string f.op, .slice A m c] 31)).heap.size = w.heap.size + 1 := heap_one _ _
  have K1 : Kept x w ((w.alloc (.cells #[.int .i64 f.k, .int .i64 f.vk, .int .i64 f.vn, .string f.vs, .int .i64 f.r1, .int .i64 f.r2, .int .i64 f.r3, .int .i64 f.r4, .string f.op, .slice A m c] 31)).alloc (.cells #[.int .i64 0, .int .i64 0, .int .i64 0, .string { data := #[] }, .int .i64 0, .int .i64 0, .int .i64 0, .int .i64 0, .string { data := #[] }, .slice none 0 0] 31)) := ((Kept.refl x w).alloc _).alloc _
  have X1 : NBox ((w.alloc (.cells #[.int .i64 f.k, .int .i64 f.vk, .int .i64 f.vn, .string f.vs, .int .i64 f.r1, .int .i64 f.r2, .int .i64 f.r3, .int .i64 f.r4, .string f.op, .slice A m c] 31)).alloc (.cells #[.int .i64 0, .int .i64 0, .int .i64 0, .string { data := #[] }, .int .i64 0, .int .i64 0, .int .i64 0, .int .i64 0, .string { data := #[] }, .slice none 0 0] 31)) (w.heap.size + 1) := by
    have := NBox.new (w.alloc (.cells #[.int .i64 f.k, .int .i64 f.vk, .int .i64 f.vn, .string f.vs, .int .i64 f.r1, .int .i64 f.r2, .int .i64 f.r3, .int .i64 f.r4, .string f.op, .slice A m c] 31)); rwa [sz1] at this
  have L1 : NLoc ((w.alloc (.cells #[.int .i64 f.k, .int .i64 f.vk, .int .i64 f.vn, .string f.vs, .int .i64 f.r1, .int .i64 f.r2, .int .i64 f.r3, .int .i64 f.r4, .string f.op, .slice A m c] 31)).alloc (.cells #[.int .i64 0, .int .i64 0, .int .i64 0, .string { data := #[] }, .int .i64 0, .int .i64 0, .int .i64 0, .int .i64 0, .string { data := #[] }, .slice none 0 0] 31)) w.heap.size f A m c := by
    have : NLoc (w.alloc (.cells #[.int .i64 f.k, .int .i64 f.vk, .int .i64 f.vn, .string f.vs, .int .i64 f.r1, .int .i64 f.r2, .int .i64 f.r3, .int .i64 f.r4, .string f.op, .slice A m c] 31)) w.heap.size f A m c := ⟨heap_alloc_new _ _⟩
    exact this.kept ((Kept.refl (w.heap.size + 1) _).alloc _) (by omega)
  have P1 := Lib.hid ((HI.out.alloc (.cells #[.int .i64 f.k, .int .i64 f.vk, .int .i64 f.vn, .string f.vs, .int .i64 f.r1, .int .i64 f.r2, .int .i64 f.r3, .int .i64 f.r4, .string f.op, .slice A m c] 31)).alloc (.cells #[.int .i64 0, .int .i64 0, .int .i64 0, .string { data := #[] }, .int .i64 0, .int .i64 0, .int .i64 0, .int .i64 0, .string { data := #[] }, .slice none 0 0] 31))
  have A1 := hA.keep (Q := fun g => (P g ∨ w.heap.size ≤ g) ∧ g ≠ x ∧ g ≠ w.heap.size ∧ g ≠ w.heap.size + 1) ((Kept.of (x := w.heap.size) (((Below.refl _ _).alloc (Nat.le_refl _) (.cells #[.int .i64 f.k, .int .i64 f.vk, .int .i64 f.vn, .string f.vs, .int .i64 f.r1, .int .i64 f.r2, .int .i64 f.r3, .int .i64 f.r4, .string f.op, .slice A m c] 31)).alloc (by rw [sz1]; omega) (.cells #[.int .i64 0, .int .i64 0, .int .i64 0, .string { data := #[] }, .int .i64 0, .int .i64 0, .int .i64 0, .int .i64 0, .string { data := #[] }, .slice none 0 0] 31)))) (fun g hg hl => ⟨by omega, Or.inl hg, hPx g hg, by omega, by omega⟩)
  clear hA
  go_enter Tryz.func63, Tryz.ntmps63
  go_wp2_with fail
  generalize ((w.alloc (.cells #[.int .i64 f.k, .int .i64 f.vk, .int .i64 f.vn, .string f.vs, .int .i64 f.r1, .int .i64 f.r2, .int .i64 f.r3, .int .i64 f.r4, .string f.op, .slice A m c] 31)).alloc (.cells #[.int .i64 0, .int .i64 0, .int .i64 0, .string { data := #[] }, .int .i64 0, .int .i64 0, .int .i64 0, .int .i64 0, .string { data := #[] }, .slice none 0 0] 31)) = W1 at *
  have lt1 := X1.lt
  refine (cahead0 W1 P1.out hl).mono ?_; rintro e w2 ⟨rfl, hb2⟩
  rw [HT.out]
  unfold tokV
  have k2 : Kept x W1 w2 := Kept.of hb2
  have K2 := K1.trans k2
  have X2 := X1.kept k2 ne2
  have L2 := L1.kept k2 nf2
  have P2 := Lib.hid (P1.out.below hb2)
  have A2 := A1.keep (Q := fun g => (P g ∨ w.heap.size ≤ g) ∧ g ≠ x ∧ g ≠ w.heap.size ∧ g ≠ w.heap.size + 1) k2 (fun g hg hl => ⟨hg.2.1, hg⟩)
  clear K1 X1 L1 P1 A1 hb2 k2
  have qS := field_S t.k t.n t.s t.at_ w2
  rw [hop] at qS
  go_wp2_with fail
  refine (ctake w2 P2.out hlt).mono ?_; rintro e w3 ⟨rfl, P3, k3⟩
  have K3 := K2.trans k3
  have X3 := X2.kept k3 ne2
  have L3 := L2.kept k3 nf2
  have A3 := A2.keep (Q := fun g => (P g ∨ w.heap.size ≤ g) ∧ g ≠ x ∧ g ≠ w.heap.size ∧ g ≠ w.heap.size + 1) k3 (fun g hg hl => ⟨hg.2.1, hg⟩)
  have s3 := X3.lt
  clear K2 X2 L2 P2 A2 k3
  go_wp2_with fail
  refine (HM.out _ K3 P3).mono ?_
  rintro e w4 ⟨g2, B2, m2, c2, er, rfl, k4, hp4⟩
  have K4 := K3.trans k4
  have X4 := X3.kept k4 ne2
  have L4 := L3.kept k4 nf2
  have A4 := A3.keep (Q := fun g => (P g ∨ w.heap.size ≤ g) ∧ g ≠ w.heap.size + 1) k4 (fun g hg hl => ⟨hg.2.1, hg.1, hg.2.2.2⟩)
  have lt3 := X4.lt
  have lt4 := L4.lt
  have hx4 : x < w4.heap.size := by have := k4.size; omega
  have na1 : x ≠ w4.heap.size := by omega
  have na2 : w4.heap.size ≠ x := by omega
  have na4 : w.heap.size + 1 ≠ w4.heap.size := by omega
  have na5 : w4.heap.size ≠ w.heap.size + 1 := by omega
  have na6 : w.heap.size ≠ w4.heap.size := by omega
  have na7 : w4.heap.size ≠ w.heap.size := by omega
  unfold nodeV
  rcases hp4 with ⟨kb, k', ho, rfl, hn2, hB2, hP⟩ | ⟨bad, kk, ho, hi, rfl, hP⟩
  · have HO := Lib.hid ho
    have HP := Lib.hid hP
    clear ho hP P3
    have B4 := hB2.keep (Q := fun g => (P g ∨ w.heap.size ≤ g) ∧ g ≠ w.heap.size + 1) (Kept.refl w4.heap.size w4) (fun g hg hl => ⟨by omega, Or.inr (by omega), by omega⟩)
    obtain ⟨d0, d1, d2, d3, d4, d5, d6, d7, d8, d9, dz0, dz1, dz2, dz3, dz4, dz5, dz6, dz7, dz8, dz9⟩ := (L4).cells
    obtain ⟨f0, f1, f2, f3, f4, f5, f6, f7, f8, f9, z0, z1, z2, z3, z4, z5, z6, z7, z8, z9⟩ := (X4).cells
    go_wp2_with fail
    refine bodyPost_ret (v := .tuple #[.agg #[.int .i64 5, .int .i64 0, .int .i64 0, .string { data := #[] }, .int .i64 0, .int .i64 0, .int .i64 0, .int .i64 0, .string (str op), .slice (some ⟨w4.heap.size + 1, 0, none⟩) 2 2], .nilIface]) (by simp [results, Tryz.results63, go_sem, f0, f1, f2, f3, f4, f5, f6, f7, f8, f9, lt3, lt4]) rfl (cpair_fin (c := c) (d := c2) (b := w.heap.size + 1) K4 HP.out HO.out hn hn2 A4 B4 ⟨Or.inr (by omega), by omega⟩ (by omega) hxw ?_ (by rw [row_at2 _ _ _ (show _ = w4.heap.size by simp)]; rfl))
    repeat (first | with_reducible exact Kept.refl _ _ | with_reducible refine Kept.setCell ?_ _ _ | with_reducible refine Kept.alloc ?_ _)
  · obtain ⟨T, u, hT⟩ := errV_some bad
    have HO := Lib.hid (show binF op ⟨f, kd⟩ (F (k + 1)) = .error bad by rw [ho]; rfl)
    have P4 := Lib.hid hP
    clear ho hP P3
    rw [hT]
    obtain ⟨f0, f1, f2, f3, f4, f5, f6, f7, f8, f9, z0, z1, z2, z3, z4, z5, z6, z7, z8, z9⟩ := (X4).cells
    go_wp2_with fail
    refine bodyPost_ret (v := .tuple #[.agg #[.int .i64 0, .int .i64 0, .int .i64 0, .string { data := #[] }, .int .i64 0, .int .i64 0, .int .i64 0, .int .i64 0, .string { data := #[] }, .slice none 0 0], .iface T u]) (by simp [results, Tryz.results63, go_sem, f0, f1, f2, f3, f4, f5, f6, f7, f8, f9, lt3]) rfl (hT ▸ CPost.err (f := fld0) (A := none) (m := 0) (c := 0) (b := w.heap.size + 1) (V := w4) HO.out hi K4 P4.out (by omega) hxw ?_)
    repeat (first | with_reducible exact Kept.refl _ _ | with_reducible refine Kept.setCell ?_ _ _ | with_reducible refine Kept.alloc ?_ _)


end Go.Proofs.YtkdgiadpmfpjnaaGreatDoor.TreeC

/-
  Contracts of tree's code: parts with signs of one row between.
-/
namespace Go.Proofs.YtkdgiadpmfpjnaaGreatDoor.TreeC
set_option linter.unusedVariables false
open Go.RowKit Go.Proofs.YtkdgiadpmfpjnaaGreatDoor.NumC Go.Proofs.YtkdgiadpmfpjnaaGreatDoor.LexC

theorem NLoc.store2 {w : World} {b n c : Nat} {f : Fld} {A : Option Addr} (h : NLoc w b f A n c) (g : Fld) (B : Option Addr) (m d : Nat) :
    NLoc ((((((((((w.setCell ⟨b, 0, none⟩ (.int .i64 g.k)).setCell ⟨b, 1, none⟩ (.int .i64 g.vk)).setCell ⟨b, 2, none⟩ (.int .i64 g.vn)).setCell ⟨b, 3, none⟩ (.string g.vs)).setCell ⟨b, 4, none⟩ (.int .i64 g.r1)).setCell ⟨b, 5, none⟩ (.int .i64 g.r2)).setCell ⟨b, 6, none⟩ (.int .i64 g.r3)).setCell ⟨b, 7, none⟩ (.int .i64 g.r4)).setCell ⟨b, 8, none⟩ (.string g.op)).setCell ⟨b, 9, none⟩ (.slice B m d)) b g B m d := by
  have h1 := h.at_
  exact ⟨by simp [World.setCell, Array.getElem?_modify, h1]⟩
/-- How many tokens are ahead, as the parser's block says. -/
def lenAt (w : World) (x : Nat) : Nat := match w.cell? ⟨x, 0, none⟩ with
  | some (.slice _ n _) => n
  | _ => 0
theorem Pc.len {w : World} {x k : Nat} {l : List Tok} {en nest : Int} (h : Pc w x l en k nest) : lenAt w x = l.length - k := by
  obtain ⟨A, c, h1, -⟩ := h.ex
  unfold lenAt
  rw [show w.cell? ⟨x, 0, none⟩ = some (.slice A (l.length - k) c) by simp [World.cell?, h1]]
def meas (v : Value) (w : World) (x : Nat) : Nat := match v with
  | .nilIface => lenAt w x + 1
  | _ => 0
theorem meas_nil (w : World) (x : Nat) : meas .nilIface w x = lenAt w x + 1 := rfl
theorem meas_err (w : World) (x : Nat) (b : Bad) : meas (errV b) w x = 0 := by
  obtain ⟨T, u, h⟩ := errV_some b
  rw [h]; rfl
/-- Where a row stands: at a node, with so many signs still let go; or behind what is wrong. -/
def RMode (P : Nat → Prop) (x : Nat) (l : List Tok) (en nest : Int) (ss : List (List UInt8)) (part : Nat → Out) (O : Out) (wr : World) (f : Fld) (A : Option Addr) (m : Nat) (er : Value) : Prop :=
  (∃ kd k' r, O = rowF l part ss r ⟨f, kd⟩ k' ∧ er = .nilIface ∧ l.length < r + k' ∧ kd.len = m ∧ KidsAt wr P kd A ∧ Pc wr x l en k' nest) ∨
  (∃ b k2, O = .error b ∧ IsBad b ∧ er = errV b ∧ Pc wr x l en k2 nest)
/-- What a row's first part comes to. -/
def rowsF (l : List Tok) (ss : List (List UInt8)) (part : Nat → Out) (k : Nat) : Out := match part k with
  | .error e => .error e
  | .ok (a, k') => rowF l part ss 400 a k'
theorem rows_err {l : List Tok} {ss : List (List UInt8)} {part : Nat → Out} {k : Nat} {b : Bad} (h : part k = .error b) : rowsF l ss part k = .error b := by simp [rowsF, h]
theorem rows_go {l : List Tok} {ss : List (List UInt8)} {part : Nat → Out} {k k' : Nat} {a : Nd} (h : part k = .ok (a, k')) : rowsF l ss part k = rowF l part ss 400 a k' := by simp [rowsF, h]

set_option maxRecDepth 100000 in
set_option maxHeartbeats 600000 in
theorem crow_isAdding {x k g : Nat} {l : List Tok} {en nest : Int} {F : Nat → Out} (eg : ∀ args w, (callFunc g args).run Tryz.prog w = .ok (.enter g args) w) (w : World) (h : Pc w x l en k nest) (hl : l.length ≤ 300) (hF : Goes l F)
    (hm : ∀ k w', Kept x w w' → Pc w' x l en k nest → Calls Tryz.prog g #[.pointer (some ⟨x, 0, none⟩)] w' (CPost w'.heap.size x l en nest (F k) w')) :
    Calls Tryz.prog 89 #[.pointer (some ⟨x, 0, none⟩), .func (.func 90) #[] #[], .func (.func g) #[.pointer (some ⟨x, 0, none⟩)] #[]] w (CPost w.heap.size x l en nest (rowsF l sumS F k) w) := by
  have hxw := h.lt
  have HI := Lib.hid h
  clear h
  have ne1 : x ≠ w.heap.size := by omega
  have ne2 : w.heap.size ≠ x := by omega
  have HM := Lib.hid hm
  have HG := Lib.hid hF
  clear hm hF
  generalize hO : rowsF l sumS F k = O
  have HO := Lib.hid hO.symm
  clear hO
  have e9 : Enters 63 := fun _ _ => by kernel_rfl
  clear e9
  go_enter Tryz.func89, Tryz.ntmps89
  go_wp2_with fail
  have K1 : Kept x w (w.alloc (.cells #[.int .i64 0, .int .i64 0, .int .i64 0, .string { data := #[] }, .int .i64 0, .int .i64 0, .int .i64 0, .int .i64 0, .string { data := #[] }, .slice none 0 0] 31)) := (Kept.refl x w).alloc _
  have X1 := NBox.new w
  refine (HM.out _ _ K1 (HI.out.alloc _)).mono ?_
  generalize (w.alloc (.cells #[.int .i64 0, .int .i64 0, .int .i64 0, .string { data := #[] }, .int .i64 0, .int .i64 0, .int .i64 0, .int .i64 0, .string { data := #[] }, .slice none 0 0] 31)) = W1 at *
  have lt1 := X1.lt
  rintro e w3 ⟨f, A, m, c, er, rfl, k3, hp3⟩
  have X3 := X1.kept k3 ne2
  have K3 := K1.trans k3
  have lt3 := X3.lt
  have hx3 : x < w3.heap.size := by have := k3.size; omega
  have na1 : x ≠ w3.heap.size := by omega
  have na2 : w3.heap.size ≠ x := by omega
  have na4 : w.heap.size ≠ w3.heap.size := by omega
  have na5 : w3.heap.size ≠ w.heap.size := by omega
  unfold nodeV
  have L4 : NLoc (w3.alloc (.cells #[.int .i64 f.k, .int .i64 f.vk, .int .i64 f.vn, .string f.vs, .int .i64 f.r1, .int .i64 f.r2, .int .i64 f.r3, .int .i64 f.r4, .string f.op, .slice A m c] 31)) w3.heap.size f A m c := ⟨heap_alloc_new _ _⟩
  have X4 := X3.kept ((Kept.refl x w3).alloc (.cells #[.int .i64 f.k, .int .i64 f.vk, .int .i64 f.vn, .string f.vs, .int .i64 f.r1, .int .i64 f.r2, .int .i64 f.r3, .int .i64 f.r4, .string f.op, .slice A m c] 31)) ne2
  have K4 := K3.alloc (.cells #[.int .i64 f.k, .int .i64 f.vk, .int .i64 f.vn, .string f.vs, .int .i64 f.r1, .int .i64 f.r2, .int .i64 f.r3, .int .i64 f.r4, .string f.op, .slice A m c] 31)
  have R4 : RMode (fun g => w.heap.size < g ∧ g ≠ w3.heap.size) x l en nest sumS F O (w3.alloc (.cells #[.int .i64 f.k, .int .i64 f.vk, .int .i64 f.vn, .string f.vs, .int .i64 f.r1, .int .i64 f.r2, .int .i64 f.r3, .int .i64 f.r4, .string f.op, .slice A m c] 31)) f A m er := by
    rcases hp3 with ⟨kd, k', ho, he, hn, hA, hP⟩ | ⟨bad, k2, ho, hi, he, hP⟩
    · exact Or.inl ⟨kd, k', 400, HO.out.trans (rows_go ho), he, by omega, hn, hA.keep ((Kept.refl x w3).alloc _) (fun g hg hl => ⟨by omega, by omega, by omega⟩), hP.alloc _⟩
    · exact Or.inr ⟨bad, k2, HO.out.trans (rows_err ho), hi, he, hP.alloc _⟩
  have s4 := L4.lt
  clear hp3 X3 K3 X1 K1 HI
  go_wp2_with fail
  generalize (w3.alloc (.cells #[.int .i64 f.k, .int .i64 f.vk, .int .i64 f.vn, .string f.vs, .int .i64 f.r1, .int .i64 f.r2, .int .i64 f.r3, .int .i64 f.r4, .string f.op, .slice A m c] 31)) = V at *
  have H4 := Lib.hid (show ∃ f A m c, NLoc V w3.heap.size f A m c ∧ RMode (fun g => w.heap.size < g ∧ g ≠ w3.heap.size) x l en nest sumS F O V f A m er from ⟨f, A, m, c, L4, R4⟩)
  have HXK := Lib.hid (And.intro X4 K4)
  clear L4 R4 X4 K4 k3
  go_loopw [9] (fun v wr => Kept x w wr ∧ NBox wr w.heap.size ∧ w3.heap.size < wr.heap.size ∧ Hid (∃ f A m c, NLoc wr w3.heap.size f A m c ∧ RMode (fun g => w.heap.size < g ∧ g ≠ w3.heap.size) x l en nest sumS F O wr f A m v)) (fun v wr => meas v wr x)
  case atStart => exact ⟨HXK.out.2, HXK.out.1, s4, H4⟩
  case round =>
    obtain ⟨Kr, Xr, lr, Hr⟩ := hrel
    obtain ⟨fq, Aq, mq, cq, L, R⟩ := Hr.out
    clear Hr
    rcases R with ⟨kd, k', r, hO, rfl, hr, hn, hA, hP⟩ | ⟨bad, kk, hO, hi, rfl, hP⟩
    · have hle := hP.le
      obtain ⟨r, rfl⟩ : ∃ q, r = q + 1 := ⟨r - 1, by omega⟩
      have hM : lenAt wr x = l.length - k' := hP.len
      have P4 := Lib.hid hP
      have hOO := Lib.hid hO
      clear hP hO
      go_wp2_with fail
      refine (csees_isAdding wr P4.out hl).mono ?_; rintro e w5 ⟨rfl, hb5⟩
      have k5 : Kept x wr w5 := Kept.of hb5
      have X5 := Xr.kept k5 ne2
      have K5 := Kr.trans k5
      have P5 := Lib.hid (P4.out.below hb5)
      have L5 := L.kept k5 na2
      have A5 := hA.keep (Q := fun g => w.heap.size < g ∧ g ≠ w3.heap.size) k5 (fun g hg hl => ⟨by omega, hg⟩)
      have s5 := L5.lt
      have t5 := X5.lt
      clear P4 hA hb5 k5 L Xr Kr
      cases ho : oneOf l k' sumS with
      | none =>
        have E := Lib.hid (hOO.out.trans (row_end ho))
        obtain ⟨d0, d1, d2, d3, d4, d5, d6, d7, d8, d9, dz0, dz1, dz2, dz3, dz4, dz5, dz6, dz7, dz8, dz9⟩ := (L5).cells
        obtain ⟨f0, f1, f2, f3, f4, f5, f6, f7, f8, f9, z0, z1, z2, z3, z4, z5, z6, z7, z8, z9⟩ := (X5).cells
        go_wp2_with fail
        refine bodyPost_ret (v := .tuple #[.agg #[.int .i64 fq.k, .int .i64 fq.vk, .int .i64 fq.vn, .string fq.vs, .int .i64 fq.r1, .int .i64 fq.r2, .int .i64 fq.r3, .int .i64 fq.r4, .string fq.op, .slice Aq mq cq], .nilIface]) (by simp [results, Tryz.results89, go_sem, f0, f1, f2, f3, f4, f5, f6, f7, f8, f9]) rfl (CPost.ok (f := fq) (A := Aq) (m := mq) (c := cq) (b := w.heap.size) (V := w5) E.out K5 P5.out hn (A5.keep (Q := fun g => w.heap.size ≤ g ∧ g ≠ w.heap.size) (Kept.refl w5.heap.size w5) (fun g hg hl => ⟨by omega, by omega, by omega⟩)) (Nat.le_refl _) hxw ?_)
        repeat (first | with_reducible exact Kept.refl _ _ | with_reducible refine Kept.setCell ?_ _ _ | with_reducible refine Kept.alloc ?_ _)
      | some op =>
        obtain ⟨t, ht, hop⟩ := one_tok ho
        obtain ⟨d0, d1, d2, d3, d4, d5, d6, d7, d8, d9, dz0, dz1, dz2, dz3, dz4, dz5, dz6, dz7, dz8, dz9⟩ := (L5).cells
        go_wp2_with fail
        have HB := cbinary (P := fun g => w.heap.size < g ∧ g ≠ w3.heap.size) (F := F) (f := fq) (A := Aq) (m := mq) (c := cq) (kd := kd) (pre := #[.pointer (some ⟨x, 0, none⟩)]) (post := #[]) eg w5 P5.out hl ht hop A5 hn (fun g hg => by omega) (fun w' hk hp => HM.out _ w' (K5.trans hk) hp)
        unfold nodeV at HB
        refine HB.mono ?_
        rintro e w6 ⟨g3, B3, m3, c3, er3, rfl, k6, hp6⟩
        clear HB d0 d1 d2 d3 d4 d5 d6 d7 d8 d9 dz0 dz1 dz2 dz3 dz4 dz5 dz6 dz7 dz8 dz9
        have K6 := K5.trans k6
        have X6 := X5.kept k6 ne2
        have L6 := L5.kept k6 na2
        have s6 := L6.lt
        have t6 := X6.lt
        unfold nodeV
        have KW : Kept w3.heap.size w6 ((((((((((w6.setCell ⟨w3.heap.size, 0, none⟩ (.int .i64 g3.k)).setCell ⟨w3.heap.size, 1, none⟩ (.int .i64 g3.vk)).setCell ⟨w3.heap.size, 2, none⟩ (.int .i64 g3.vn)).setCell ⟨w3.heap.size, 3, none⟩ (.string g3.vs)).setCell ⟨w3.heap.size, 4, none⟩ (.int .i64 g3.r1)).setCell ⟨w3.heap.size, 5, none⟩ (.int .i64 g3.r2)).setCell ⟨w3.heap.size, 6, none⟩ (.int .i64 g3.r3)).setCell ⟨w3.heap.size, 7, none⟩ (.int .i64 g3.r4)).setCell ⟨w3.heap.size, 8, none⟩ (.string g3.op)).setCell ⟨w3.heap.size, 9, none⟩ (.slice B3 m3 c3)) := by
          repeat (first | with_reducible exact Kept.refl _ _ | with_reducible refine Kept.setCell ?_ _ _ | with_reducible refine Kept.alloc ?_ _)
        have LW := L6.store2 g3 B3 m3 c3
        have RW : RMode (fun g => w.heap.size < g ∧ g ≠ w3.heap.size) x l en nest sumS F O ((((((((((w6.setCell ⟨w3.heap.size, 0, none⟩ (.int .i64 g3.k)).setCell ⟨w3.heap.size, 1, none⟩ (.int .i64 g3.vk)).setCell ⟨w3.heap.size, 2, none⟩ (.int .i64 g3.vn)).setCell ⟨w3.heap.size, 3, none⟩ (.string g3.vs)).setCell ⟨w3.heap.size, 4, none⟩ (.int .i64 g3.r1)).setCell ⟨w3.heap.size, 5, none⟩ (.int .i64 g3.r2)).setCell ⟨w3.heap.size, 6, none⟩ (.int .i64 g3.r3)).setCell ⟨w3.heap.size, 7, none⟩ (.int .i64 g3.r4)).setCell ⟨w3.heap.size, 8, none⟩ (.string g3.op)).setCell ⟨w3.heap.size, 9, none⟩ (.slice B3 m3 c3)) g3 B3 m3 er3 ∧ meas er3 ((((((((((w6.setCell ⟨w3.heap.size, 0, none⟩ (.int .i64 g3.k)).setCell ⟨w3.heap.size, 1, none⟩ (.int .i64 g3.vk)).setCell ⟨w3.heap.size, 2, none⟩ (.int .i64 g3.vn)).setCell ⟨w3.heap.size, 3, none⟩ (.string g3.vs)).setCell ⟨w3.heap.size, 4, none⟩ (.int .i64 g3.r1)).setCell ⟨w3.heap.size, 5, none⟩ (.int .i64 g3.r2)).setCell ⟨w3.heap.size, 6, none⟩ (.int .i64 g3.r3)).setCell ⟨w3.heap.size, 7, none⟩ (.int .i64 g3.r4)).setCell ⟨w3.heap.size, 8, none⟩ (.string g3.op)).setCell ⟨w3.heap.size, 9, none⟩ (.slice B3 m3 c3)) x < meas .nilIface wr x := by
          rw [meas_nil, hM]
          rcases hp6 with ⟨kd2, k2, hq, rfl, hn2, hA2, hP2⟩ | ⟨bad, k2, hq, hi, rfl, hP2⟩
          · cases hf : F (k' + 1) with
            | error b => rw [hf] at hq; cases hq
            | ok q =>
              obtain ⟨b, k3⟩ := q
              rw [hf] at hq
              injection hq with hq; injection hq with hq hk
              subst hk
              have hg := HG.out _ _ _ hf
              have hPW := hP2.kept KW hx3
              refine ⟨Or.inl ⟨kd2, k3, r, ?_, rfl, by omega, hn2, hA2.keep KW (fun g hg hl => ⟨by omega, by omega, by omega⟩), hPW⟩, ?_⟩
              · rw [hOO.out, row_go ho hf, hq]
              · rw [meas_nil, hPW.len]; omega
          · cases hf : F (k' + 1) with
            | error b =>
              rw [hf] at hq
              injection hq with hq
              subst hq
              exact ⟨Or.inr ⟨b, k2, hOO.out.trans (row_bad ho hf), hi, rfl, hP2.kept KW hx3⟩, by rw [meas_err]; omega⟩
            | ok q => rw [hf] at hq; cases hq
        have XW := X6.kept KW na4
        have sW : w3.heap.size < (((((((((((w6.setCell ⟨w3.heap.size, 0, none⟩ (.int .i64 g3.k)).setCell ⟨w3.heap.size, 1, none⟩ (.int .i64 g3.vk)).setCell ⟨w3.heap.size, 2, none⟩ (.int .i64 g3.vn)).setCell ⟨w3.heap.size, 3, none⟩ (.string g3.vs)).setCell ⟨w3.heap.size, 4, none⟩ (.int .i64 g3.r1)).setCell ⟨w3.heap.size, 5, none⟩ (.int .i64 g3.r2)).setCell ⟨w3.heap.size, 6, none⟩ (.int .i64 g3.r3)).setCell ⟨w3.heap.size, 7, none⟩ (.int .i64 g3.r4)).setCell ⟨w3.heap.size, 8, none⟩ (.string g3.op)).setCell ⟨w3.heap.size, 9, none⟩ (.slice B3 m3 c3))).heap.size := LW.lt
        have KWx := K6.then_ KW (by omega)
        clear hp6
        obtain ⟨d0, d1, d2, d3, d4, d5, d6, d7, d8, d9, dz0, dz1, dz2, dz3, dz4, dz5, dz6, dz7, dz8, dz9⟩ := (L6).cells
        go_wp2_with fail
        generalize (((((((((((w6.setCell ⟨w3.heap.size, 0, none⟩ (.int .i64 g3.k)).setCell ⟨w3.heap.size, 1, none⟩ (.int .i64 g3.vk)).setCell ⟨w3.heap.size, 2, none⟩ (.int .i64 g3.vn)).setCell ⟨w3.heap.size, 3, none⟩ (.string g3.vs)).setCell ⟨w3.heap.size, 4, none⟩ (.int .i64 g3.r1)).setCell ⟨w3.heap.size, 5, none⟩ (.int .i64 g3.r2)).setCell ⟨w3.heap.size, 6, none⟩ (.int .i64 g3.r3)).setCell ⟨w3.heap.size, 7, none⟩ (.int .i64 g3.r4)).setCell ⟨w3.heap.size, 8, none⟩ (.string g3.op)).setCell ⟨w3.heap.size, 9, none⟩ (.slice B3 m3 c3))) = W at *
        go_roundw
        case rel => exact ⟨KWx, XW, sW, Lib.hid ⟨_, _, _, _, LW, RW.1⟩⟩
        case measure => exact RW.2
    · obtain ⟨T, u, hT⟩ := errV_some bad
      have HE := Lib.hid hO
      have P3 := Lib.hid hP
      have s5 := L.lt
      have t5 := Xr.lt
      clear hO hP
      rw [hT]
      obtain ⟨d0, d1, d2, d3, d4, d5, d6, d7, d8, d9, dz0, dz1, dz2, dz3, dz4, dz5, dz6, dz7, dz8, dz9⟩ := (L).cells
      obtain ⟨f0, f1, f2, f3, f4, f5, f6, f7, f8, f9, z0, z1, z2, z3, z4, z5, z6, z7, z8, z9⟩ := (Xr).cells
      go_wp2_with fail
      refine bodyPost_ret (v := .tuple #[.agg #[.int .i64 fq.k, .int .i64 fq.vk, .int .i64 fq.vn, .string fq.vs, .int .i64 fq.r1, .int .i64 fq.r2, .int .i64 fq.r3, .int .i64 fq.r4, .string fq.op, .slice Aq mq cq], .iface T u]) (by simp [results, Tryz.results89, go_sem, f0, f1, f2, f3, f4, f5, f6, f7, f8, f9]) rfl (hT ▸ CPost.err (f := fq) (A := Aq) (m := mq) (c := cq) (b := w.heap.size) (V := wr) HE.out hi Kr P3.out (Nat.le_refl _) hxw ?_)
      repeat (first | with_reducible exact Kept.refl _ _ | with_reducible refine Kept.setCell ?_ _ _ | with_reducible refine Kept.alloc ?_ _)

set_option maxRecDepth 100000 in
set_option maxHeartbeats 600000 in
theorem crow_isMultiplying {x k g : Nat} {l : List Tok} {en nest : Int} {F : Nat → Out} (eg : ∀ args w, (callFunc g args).run Tryz.prog w = .ok (.enter g args) w) (w : World) (h : Pc w x l en k nest) (hl : l.length ≤ 300) (hF : Goes l F)
    (hm : ∀ k w', Kept x w w' → Pc w' x l en k nest → Calls Tryz.prog g #[.pointer (some ⟨x, 0, none⟩)] w' (CPost w'.heap.size x l en nest (F k) w')) :
    Calls Tryz.prog 89 #[.pointer (some ⟨x, 0, none⟩), .func (.func 99) #[] #[], .func (.func g) #[.pointer (some ⟨x, 0, none⟩)] #[]] w (CPost w.heap.size x l en nest (rowsF l mulS F k) w) := by
  have hxw := h.lt
  have HI := Lib.hid h
  clear h
  have ne1 : x ≠ w.heap.size := by omega
  have ne2 : w.heap.size ≠ x := by omega
  have HM := Lib.hid hm
  have HG := Lib.hid hF
  clear hm hF
  generalize hO : rowsF l mulS F k = O
  have HO := Lib.hid hO.symm
  clear hO
  have e9 : Enters 63 := fun _ _ => by kernel_rfl
  clear e9
  go_enter Tryz.func89, Tryz.ntmps89
  go_wp2_with fail
  have K1 : Kept x w (w.alloc (.cells #[.int .i64 0, .int .i64 0, .int .i64 0, .string { data := #[] }, .int .i64 0, .int .i64 0, .int .i64 0, .int .i64 0, .string { data := #[] }, .slice none 0 0] 31)) := (Kept.refl x w).alloc _
  have X1 := NBox.new w
  refine (HM.out _ _ K1 (HI.out.alloc _)).mono ?_
  generalize (w.alloc (.cells #[.int .i64 0, .int .i64 0, .int .i64 0, .string { data := #[] }, .int .i64 0, .int .i64 0, .int .i64 0, .int .i64 0, .string { data := #[] }, .slice none 0 0] 31)) = W1 at *
  have lt1 := X1.lt
  rintro e w3 ⟨f, A, m, c, er, rfl, k3, hp3⟩
  have X3 := X1.kept k3 ne2
  have K3 := K1.trans k3
  have lt3 := X3.lt
  have hx3 : x < w3.heap.size := by have := k3.size; omega
  have na1 : x ≠ w3.heap.size := by omega
  have na2 : w3.heap.size ≠ x := by omega
  have na4 : w.heap.size ≠ w3.heap.size := by omega
  have na5 : w3.heap.size ≠ w.heap.size := by omega
  unfold nodeV
  have L4 : NLoc (w3.alloc (.cells #[.int .i64 f.k, .int .i64 f.vk, .int .i64 f.vn, .string f.vs, .int .i64 f.r1, .int .i64 f.r2, .int .i64 f.r3, .int .i64 f.r4, .string f.op, .slice A m c] 31)) w3.heap.size f A m c := ⟨heap_alloc_new _ _⟩
  have X4 := X3.kept ((Kept.refl x w3).alloc (.cells #[.int .i64 f.k, .int .i64 f.vk, .int .i64 f.vn, .string f.vs, .int .i64 f.r1, .int .i64 f.r2, .int .i64 f.r3, .int .i64 f.r4, .string f.op, .slice A m c] 31)) ne2
  have K4 := K3.alloc (.cells #[.int .i64 f.k, .int .i64 f.vk, .int .i64 f.vn, .string f.vs, .int .i64 f.r1, .int .i64 f.r2, .int .i64 f.r3, .int .i64 f.r4, .string f.op, .slice A m c] 31)
  have R4 : RMode (fun g => w.heap.size < g ∧ g ≠ w3.heap.size) x l en nest mulS F O (w3.alloc (.cells #[.int .i64 f.k, .int .i64 f.vk, .int .i64 f.vn, .string f.vs, .int .i64 f.r1, .int .i64 f.r2, .int .i64 f.r3, .int .i64 f.r4, .string f.op, .slice A m c] 31)) f A m er := by
    rcases hp3 with ⟨kd, k', ho, he, hn, hA, hP⟩ | ⟨bad, k2, ho, hi, he, hP⟩
    · exact Or.inl ⟨kd, k', 400, HO.out.trans (rows_go ho), he, by omega, hn, hA.keep ((Kept.refl x w3).alloc _) (fun g hg hl => ⟨by omega, by omega, by omega⟩), hP.alloc _⟩
    · exact Or.inr ⟨bad, k2, HO.out.trans (rows_err ho), hi, he, hP.alloc _⟩
  have s4 := L4.lt
  clear hp3 X3 K3 X1 K1 HI
  go_wp2_with fail
  generalize (w3.alloc (.cells #[.int .i64 f.k, .int .i64 f.vk, .int .i64 f.vn, .string f.vs, .int .i64 f.r1, .int .i64 f.r2, .int .i64 f.r3, .int .i64 f.r4, .string f.op, .slice A m c] 31)) = V at *
  have H4 := Lib.hid (show ∃ f A m c, NLoc V w3.heap.size f A m c ∧ RMode (fun g => w.heap.size < g ∧ g ≠ w3.heap.size) x l en nest mulS F O V f A m er from ⟨f, A, m, c, L4, R4⟩)
  have HXK := Lib.hid (And.intro X4 K4)
  clear L4 R4 X4 K4 k3
  go_loopw [9] (fun v wr => Kept x w wr ∧ NBox wr w.heap.size ∧ w3.heap.size < wr.heap.size ∧ Hid (∃ f A m c, NLoc wr w3.heap.size f A m c ∧ RMode (fun g => w.heap.size < g ∧ g ≠ w3.heap.size) x l en nest mulS F O wr f A m v)) (fun v wr => meas v wr x)
  case atStart => exact ⟨HXK.out.2, HXK.out.1, s4, H4⟩
  case round =>
    obtain ⟨Kr, Xr, lr, Hr⟩ := hrel
    obtain ⟨fq, Aq, mq, cq, L, R⟩ := Hr.out
    clear Hr
    rcases R with ⟨kd, k', r, hO, rfl, hr, hn, hA, hP⟩ | ⟨bad, kk, hO, hi, rfl, hP⟩
    · have hle := hP.le
      obtain ⟨r, rfl⟩ : ∃ q, r = q + 1 := ⟨r - 1, by omega⟩
      have hM : lenAt wr x = l.length - k' := hP.len
      have P4 := Lib.hid hP
      have hOO := Lib.hid hO
      clear hP hO
      go_wp2_with fail
      refine (csees_isMultiplying wr P4.out hl).mono ?_; rintro e w5 ⟨rfl, hb5⟩
      have k5 : Kept x wr w5 := Kept.of hb5
      have X5 := Xr.kept k5 ne2
      have K5 := Kr.trans k5
      have P5 := Lib.hid (P4.out.below hb5)
      have L5 := L.kept k5 na2
      have A5 := hA.keep (Q := fun g => w.heap.size < g ∧ g ≠ w3.heap.size) k5 (fun g hg hl => ⟨by omega, hg⟩)
      have s5 := L5.lt
      have t5 := X5.lt
      clear P4 hA hb5 k5 L Xr Kr
      cases ho : oneOf l k' mulS with
      | none =>
        have E := Lib.hid (hOO.out.trans (row_end ho))
        obtain ⟨d0, d1, d2, d3, d4, d5, d6, d7, d8, d9, dz0, dz1, dz2, dz3, dz4, dz5, dz6, dz7, dz8, dz9⟩ := (L5).cells
        obtain ⟨f0, f1, f2, f3, f4, f5, f6, f7, f8, f9, z0, z1, z2, z3, z4, z5, z6, z7, z8, z9⟩ := (X5).cells
        go_wp2_with fail
        refine bodyPost_ret (v := .tuple #[.agg #[.int .i64 fq.k, .int .i64 fq.vk, .int .i64 fq.vn, .string fq.vs, .int .i64 fq.r1, .int .i64 fq.r2, .int .i64 fq.r3, .int .i64 fq.r4, .string fq.op, .slice Aq mq cq], .nilIface]) (by simp [results, Tryz.results89, go_sem, f0, f1, f2, f3, f4, f5, f6, f7, f8, f9]) rfl (CPost.ok (f := fq) (A := Aq) (m := mq) (c := cq) (b := w.heap.size) (V := w5) E.out K5 P5.out hn (A5.keep (Q := fun g => w.heap.size ≤ g ∧ g ≠ w.heap.size) (Kept.refl w5.heap.size w5) (fun g hg hl => ⟨by omega, by omega, by omega⟩)) (Nat.le_refl _) hxw ?_)
        repeat (first | with_reducible exact Kept.refl _ _ | with_reducible refine Kept.setCell ?_ _ _ | with_reducible refine Kept.alloc ?_ _)
      | some op =>
        obtain ⟨t, ht, hop⟩ := one_tok ho
        obtain ⟨d0, d1, d2, d3, d4, d5, d6, d7, d8, d9, dz0, dz1, dz2, dz3, dz4, dz5, dz6, dz7, dz8, dz9⟩ := (L5).cells
        go_wp2_with fail
        have HB := cbinary (P := fun g => w.heap.size < g ∧ g ≠ w3.heap.size) (F := F) (f := fq) (A := Aq) (m := mq) (c := cq) (kd := kd) (pre := #[.pointer (some ⟨x, 0, none⟩)]) (post := #[]) eg w5 P5.out hl ht hop A5 hn (fun g hg => by omega) (fun w' hk hp => HM.out _ w' (K5.trans hk) hp)
        unfold nodeV at HB
        refine HB.mono ?_
        rintro e w6 ⟨g3, B3, m3, c3, er3, rfl, k6, hp6⟩
        clear HB d0 d1 d2 d3 d4 d5 d6 d7 d8 d9 dz0 dz1 dz2 dz3 dz4 dz5 dz6 dz7 dz8 dz9
        have K6 := K5.trans k6
        have X6 := X5.kept k6 ne2
        have L6 := L5.kept k6 na2
        have s6 := L6.lt
        have t6 := X6.lt
        unfold nodeV
        have KW : Kept w3.heap.size w6 ((((((((((w6.setCell ⟨w3.heap.size, 0, none⟩ (.int .i64 g3.k)).setCell ⟨w3.heap.size, 1, none⟩ (.int .i64 g3.vk)).setCell ⟨w3.heap.size, 2, none⟩ (.int .i64 g3.vn)).setCell ⟨w3.heap.size, 3, none⟩ (.string g3.vs)).setCell ⟨w3.heap.size, 4, none⟩ (.int .i64 g3.r1)).setCell ⟨w3.heap.size, 5, none⟩ (.int .i64 g3.r2)).setCell ⟨w3.heap.size, 6, none⟩ (.int .i64 g3.r3)).setCell ⟨w3.heap.size, 7, none⟩ (.int .i64 g3.r4)).setCell ⟨w3.heap.size, 8, none⟩ (.string g3.op)).setCell ⟨w3.heap.size, 9, none⟩ (.slice B3 m3 c3)) := by
          repeat (first | with_reducible exact Kept.refl _ _ | with_reducible refine Kept.setCell ?_ _ _ | with_reducible refine Kept.alloc ?_ _)
        have LW := L6.store2 g3 B3 m3 c3
        have RW : RMode (fun g => w.heap.size < g ∧ g ≠ w3.heap.size) x l en nest mulS F O ((((((((((w6.setCell ⟨w3.heap.size, 0, none⟩ (.int .i64 g3.k)).setCell ⟨w3.heap.size, 1, none⟩ (.int .i64 g3.vk)).setCell ⟨w3.heap.size, 2, none⟩ (.int .i64 g3.vn)).setCell ⟨w3.heap.size, 3, none⟩ (.string g3.vs)).setCell ⟨w3.heap.size, 4, none⟩ (.int .i64 g3.r1)).setCell ⟨w3.heap.size, 5, none⟩ (.int .i64 g3.r2)).setCell ⟨w3.heap.size, 6, none⟩ (.int .i64 g3.r3)).setCell ⟨w3.heap.size, 7, none⟩ (.int .i64 g3.r4)).setCell ⟨w3.heap.size, 8, none⟩ (.string g3.op)).setCell ⟨w3.heap.size, 9, none⟩ (.slice B3 m3 c3)) g3 B3 m3 er3 ∧ meas er3 ((((((((((w6.setCell ⟨w3.heap.size, 0, none⟩ (.int .i64 g3.k)).setCell ⟨w3.heap.size, 1, none⟩ (.int .i64 g3.vk)).setCell ⟨w3.heap.size, 2, none⟩ (.int .i64 g3.vn)).setCell ⟨w3.heap.size, 3, none⟩ (.string g3.vs)).setCell ⟨w3.heap.size, 4, none⟩ (.int .i64 g3.r1)).setCell ⟨w3.heap.size, 5, none⟩ (.int .i64 g3.r2)).setCell ⟨w3.heap.size, 6, none⟩ (.int .i64 g3.r3)).setCell ⟨w3.heap.size, 7, none⟩ (.int .i64 g3.r4)).setCell ⟨w3.heap.size, 8, none⟩ (.string g3.op)).setCell ⟨w3.heap.size, 9, none⟩ (.slice B3 m3 c3)) x < meas .nilIface wr x := by
          rw [meas_nil, hM]
          rcases hp6 with ⟨kd2, k2, hq, rfl, hn2, hA2, hP2⟩ | ⟨bad, k2, hq, hi, rfl, hP2⟩
          · cases hf : F (k' + 1) with
            | error b => rw [hf] at hq; cases hq
            | ok q =>
              obtain ⟨b, k3⟩ := q
              rw [hf] at hq
              injection hq with hq; injection hq with hq hk
              subst hk
              have hg := HG.out _ _ _ hf
              have hPW := hP2.kept KW hx3
              refine ⟨Or.inl ⟨kd2, k3, r, ?_, rfl, by omega, hn2, hA2.keep KW (fun g hg hl => ⟨by omega, by omega, by omega⟩), hPW⟩, ?_⟩
              · rw [hOO.out, row_go ho hf, hq]
              · rw [meas_nil, hPW.len]; omega
          · cases hf : F (k' + 1) with
            | error b =>
              rw [hf] at hq
              injection hq with hq
              subst hq
              exact ⟨Or.inr ⟨b, k2, hOO.out.trans (row_bad ho hf), hi, rfl, hP2.kept KW hx3⟩, by rw [meas_err]; omega⟩
            | ok q => rw [hf] at hq; cases hq
        have XW := X6.kept KW na4
        have sW : w3.heap.size < (((((((((((w6.setCell ⟨w3.heap.size, 0, none⟩ (.int .i64 g3.k)).setCell ⟨w3.heap.size, 1, none⟩ (.int .i64 g3.vk)).setCell ⟨w3.heap.size, 2, none⟩ (.int .i64 g3.vn)).setCell ⟨w3.heap.size, 3, none⟩ (.string g3.vs)).setCell ⟨w3.heap.size, 4, none⟩ (.int .i64 g3.r1)).setCell ⟨w3.heap.size, 5, none⟩ (.int .i64 g3.r2)).setCell ⟨w3.heap.size, 6, none⟩ (.int .i64 g3.r3)).setCell ⟨w3.heap.size, 7, none⟩ (.int .i64 g3.r4)).setCell ⟨w3.heap.size, 8, none⟩ (.string g3.op)).setCell ⟨w3.heap.size, 9, none⟩ (.slice B3 m3 c3))).heap.size := LW.lt
        have KWx := K6.then_ KW (by omega)
        clear hp6
        obtain ⟨d0, d1, d2, d3, d4, d5, d6, d7, d8, d9, dz0, dz1, dz2, dz3, dz4, dz5, dz6, dz7, dz8, dz9⟩ := (L6).cells
        go_wp2_with fail
        generalize (((((((((((w6.setCell ⟨w3.heap.size, 0, none⟩ (.int .i64 g3.k)).setCell ⟨w3.heap.size, 1, none⟩ (.int .i64 g3.vk)).setCell ⟨w3.heap.size, 2, none⟩ (.int .i64 g3.vn)).setCell ⟨w3.heap.size, 3, none⟩ (.string g3.vs)).setCell ⟨w3.heap.size, 4, none⟩ (.int .i64 g3.r1)).setCell ⟨w3.heap.size, 5, none⟩ (.int .i64 g3.r2)).setCell ⟨w3.heap.size, 6, none⟩ (.int .i64 g3.r3)).setCell ⟨w3.heap.size, 7, none⟩ (.int .i64 g3.r4)).setCell ⟨w3.heap.size, 8, none⟩ (.string g3.op)).setCell ⟨w3.heap.size, 9, none⟩ (.slice B3 m3 c3))) = W at *
        go_roundw
        case rel => exact ⟨KWx, XW, sW, Lib.hid ⟨_, _, _, _, LW, RW.1⟩⟩
        case measure => exact RW.2
    · obtain ⟨T, u, hT⟩ := errV_some bad
      have HE := Lib.hid hO
      have P3 := Lib.hid hP
      have s5 := L.lt
      have t5 := Xr.lt
      clear hO hP
      rw [hT]
      obtain ⟨d0, d1, d2, d3, d4, d5, d6, d7, d8, d9, dz0, dz1, dz2, dz3, dz4, dz5, dz6, dz7, dz8, dz9⟩ := (L).cells
      obtain ⟨f0, f1, f2, f3, f4, f5, f6, f7, f8, f9, z0, z1, z2, z3, z4, z5, z6, z7, z8, z9⟩ := (Xr).cells
      go_wp2_with fail
      refine bodyPost_ret (v := .tuple #[.agg #[.int .i64 fq.k, .int .i64 fq.vk, .int .i64 fq.vn, .string fq.vs, .int .i64 fq.r1, .int .i64 fq.r2, .int .i64 fq.r3, .int .i64 fq.r4, .string fq.op, .slice Aq mq cq], .iface T u]) (by simp [results, Tryz.results89, go_sem, f0, f1, f2, f3, f4, f5, f6, f7, f8, f9]) rfl (hT ▸ CPost.err (f := fq) (A := Aq) (m := mq) (c := cq) (b := w.heap.size) (V := wr) HE.out hi Kr P3.out (Nat.le_refl _) hxw ?_)
      repeat (first | with_reducible exact Kept.refl _ _ | with_reducible refine Kept.setCell ?_ _ _ | with_reducible refine Kept.alloc ?_ _)


end Go.Proofs.YtkdgiadpmfpjnaaGreatDoor.TreeC

/-
  Contracts of tree's code: a call's Args.
-/
namespace Go.Proofs.YtkdgiadpmfpjnaaGreatDoor.TreeC
set_option linter.unusedVariables false
open Go.RowKit Go.Proofs.YtkdgiadpmfpjnaaGreatDoor.NumC Go.Proofs.YtkdgiadpmfpjnaaGreatDoor.LexC

/-- Args' answer: a row of its own of nodes in new rows. -/
def LPost (x : Nat) (l : List Tok) (en nest : Int) (out : Except Bad (Fo × Nat)) (w : World) (e : Ending) (w' : World) : Prop :=
  ∃ A m c er, e = .returned (.tuple #[.slice A m c, er]) ∧ Kept x w w' ∧
    ((∃ fo k', out = .ok (fo, k') ∧ er = .nilIface ∧ fo.len = m ∧ KidsAt w' (fun g => w.heap.size ≤ g) fo A ∧ Pc w' x l en k' nest) ∨
     (∃ b k2, out = .error b ∧ IsBad b ∧ er = errV b ∧ Pc w' x l en k2 nest))
/-- What stands within a call's parentheses. -/
def withinF (l : List Tok) (n : Int) (L : Lev) (into : Bool) (k : Nat) : Except Bad (Fo × Nat) := if isSign l k [41] then .ok (.nil, k) else argsF l n L into 10 .nil k
theorem args_end {l : List Tok} {n : Int} {L : Lev} {into : Bool} {acc : Fo} {k : Nat} : argsF l n L into 0 acc k = .error (badAt l n k) := rfl
theorem args_deep {l : List Tok} {n : Int} {L : Lev} {into : Bool} {acc : Fo} {k r : Nat} (h : into = false) : argsF l n L into (r + 1) acc k = .error deepE := by simp [argsF, h]
theorem args_bad {l : List Tok} {n : Int} {L : Lev} {into : Bool} {acc : Fo} {k r : Nat} {e : Bad} (h : into = true) (h2 : L.fm k = .error e) : argsF l n L into (r + 1) acc k = .error e := by simp [argsF, h, h2]
theorem args_more {l : List Tok} {n : Int} {L : Lev} {into : Bool} {acc : Fo} {k r k' : Nat} {a : Nd} (h : into = true) (h2 : L.fm k = .ok (a, k')) (hs : isSign l k' [44] = true) : argsF l n L into (r + 1) acc k = argsF l n L into r (acc.app a.one) (k' + 1) := by simp [argsF, h, h2, hs]
theorem args_last {l : List Tok} {n : Int} {L : Lev} {into : Bool} {acc : Fo} {k r k' : Nat} {a : Nd} (h : into = true) (h2 : L.fm k = .ok (a, k')) (hs : isSign l k' [44] = false) : argsF l n L into (r + 1) acc k = .ok (acc.app a.one, k') := by simp [argsF, h, h2, hs]
theorem RowV.same {w w' : World} {P Q : Nat → Prop} (hP : ∀ g, P g → g < w.heap.size → w'.heap[g]? = w.heap[g]? ∧ Q g) : ∀ (fo : Fo) (vs : List Value), RowV w P fo vs → RowV w' Q fo vs := by
  intro fo
  induction fo with
  | nil => intro vs h; cases vs with
    | nil => trivial
    | cons v vs => exact h
  | cons f kids next _ ih => intro vs h; cases vs with
    | nil => exact h
    | cons v vs =>
      obtain ⟨⟨A, c, e, hk⟩, hr⟩ := h
      refine ⟨⟨A, c, e, ?_⟩, ih vs hr⟩
      rcases hk with hk | ⟨g, o, e2, hr2⟩
      · exact Or.inl hk
      · exact Or.inr ⟨g, o, e2, RowAt.same hP _ _ _ hr2⟩
theorem Fo.nil_of_len {fo : Fo} (h : fo.len = 0) : fo = .nil := by
  cases fo with
  | nil => rfl
  | cons f k n => simp [Fo.len] at h
theorem ownBlock_slice (A : Option Addr) (n c n' c' : Nat) : Value.ownBlock (.slice A n c) = Value.ownBlock (.slice A n' c') := by cases A <;> rfl
/-- A slice of the call's own that reads as a forest: its row lies apart from its nodes' rows. -/
def AS (w : World) (base : Nat) (v : Value) (fo : Fo) : Prop := ∃ vs, w.ownsRow base 31 10 v fo.len (ncells vs) ∧ RowV w (fun g => base ≤ g ∧ v.ownBlock ≠ some g) fo vs
theorem AS.nil (w : World) (base : Nat) : AS w base (.slice none 0 0) .nil := ⟨[], ⟨rfl, Or.inl ⟨rfl, rfl⟩⟩, trivial⟩
theorem AS.form {w : World} {base : Nat} {v : Value} {fo : Fo} (h : AS w base v fo) : ∃ A c, v = .slice A fo.len c := by
  obtain ⟨vs, ⟨-, ⟨rfl, h⟩ | ⟨g, cap, cur, rfl, -⟩⟩, -⟩ := h
  · exact ⟨none, 0, by rw [h]⟩
  · exact ⟨_, _, rfl⟩
theorem AS.lt {w : World} {base : Nat} {v : Value} {fo : Fo} (h : AS w base v fo) : ∀ k, v.ownBlock = some k → base ≤ k ∧ k < w.heap.size := by
  obtain ⟨vs, h, -⟩ := h
  exact World.ownsRow.lt h
theorem AS.kept {w w' : World} {base x : Nat} {v : Value} {fo : Fo} (h : AS w base v fo) (hk : Kept x w w') (hx : x < base) : AS w' base v fo := by
  obtain ⟨vs, ⟨h1, h2⟩, h3⟩ := h
  refine ⟨vs, ⟨h1, ?_⟩, RowV.keep hk (fun g hg hl => ⟨by have := hg.1; omega, hg⟩) _ _ h3⟩
  rcases h2 with h2 | ⟨g, cap, cur, e, hb, hg, h⟩
  · exact Or.inl h2
  · exact Or.inr ⟨g, cap, cur, e, hb, (hk.block g (Array.getElem?_eq_some_iff.1 hg).1 (by omega)).trans hg, h⟩
theorem AS.kids {w : World} {base : Nat} {A : Option Addr} {n c : Nat} {fo : Fo} (h : AS w base (.slice A n c) fo) : KidsAt w (fun g => base ≤ g) fo A ∧ fo.len = n := by
  obtain ⟨vs, ⟨h1, ⟨e, h2⟩ | ⟨g, cap, cur, e, hb, hg, h4, h5, h6, h7⟩⟩, h3⟩ := h
  · injection e with e1 e2 e3; subst e2; exact ⟨Or.inl (Fo.nil_of_len h2), h2⟩
  · injection e with e1 e2 e3
    refine ⟨Or.inr ⟨g, 0, e1, rowAt_of hb fo vs 0 (RowV.same (fun g hg _ => ⟨rfl, hg.1⟩) _ _ h3) (fun j u hj => ?_)⟩, e2.symm⟩
    rw [Nat.zero_add, cell_of_row w g j cur _ (0, 0) hg]
    rw [← h7, List.getElem?_take] at hj
    split at hj
    · rw [← hj, Array.getElem?_toList]
    · cases hj
theorem AS.snoc {w w' : World} {base : Nat} {v v' : Value} {fo : Fo} {f : Fld} {kd : Fo} {A : Option Addr} {m c : Nat} (vs : List Value) (hv : RowV w (fun g => base ≤ g ∧ v.ownBlock ≠ some g) fo vs) (hm : kd.len = m) (hA : KidsAt w (fun g => base ≤ g ∧ v.ownBlock ≠ some g) kd A)
    (ho : w'.ownsRow base 31 10 v' (fo.len + 1) (ncells vs ++ (nodeV f A m c).cells.toList)) (hg : w.grownBy w' v.ownBlock) (ha : v'.ownBlock = v.ownBlock ∨ v'.ownBlock = some w.heap.size) : AS w' base v' (fo.app (Nd.one ⟨f, kd⟩)) := by
  refine ⟨vs ++ [nodeV f A m c], ?_, ?_⟩
  · rw [ncells_snoc, Fo.len_app]; exact ho
  · have := RowV.snoc (a := ⟨f, kd⟩) (v := nodeV f A m c) ⟨A, c, by rw [hm], hA⟩ fo vs hv
    refine RowV.same (fun g hg2 hl => ⟨hg.block g hl (fun e => hg2.2 e.symm), hg2.1, ?_⟩) _ _ this
    rcases ha with ha | ha
    · rw [ha]; exact hg2.2
    · rw [ha]; intro e; injection e with e; omega
theorem grown_kept {W W' : World} {row : Option Nat} (hg : W.grownBy W' row) : ∃ y, Kept y W W' ∧ (row = some y ∨ y = W.heap.size) := by
  cases row with
  | none => exact ⟨W.heap.size, ⟨hg.os, hg.tape, hg.output, hg.size, fun k hk _ => hg.block k hk (by simp)⟩, Or.inr rfl⟩
  | some y => exact ⟨y, ⟨hg.os, hg.tape, hg.output, hg.size, fun k hk hx => hg.block k hk (by simpa using hx)⟩, Or.inl rfl⟩
def m4 (v : Value) : Nat := match v with
  | .slice _ n _ => 11 - n
  | _ => 0
theorem m4_slice (A : Option Addr) (n c : Nat) : m4 (.slice A n c) = 11 - n := rfl
theorem node_info : (Tryz.prog.info? 31).map (fun i => (i.zero, i.size, i.bytes)) = some (some (.agg #[.int .i64 0, .int .i64 0, .int .i64 0, .string { data := #[] }, .int .i64 0, .int .i64 0, .int .i64 0, .int .i64 0, .string { data := #[] }, .slice none 0 0]), 10, 112) := by kernel_rfl
/-- What stands nested once more answers as the grammar says. -/
structure CCon (x : Nat) (l : List Tok) (en nest : Int) (L : Lev) : Prop where
  fm : ∀ (k : Nat) (w : World), Pc w x l en k nest → Calls Tryz.prog 36 #[.pointer (some ⟨x, 0, none⟩)] w (CPost w.heap.size x l en nest (L.fm k) w)
  pw : ∀ (k : Nat) (w : World), Pc w x l en k nest → Calls Tryz.prog 110 #[.pointer (some ⟨x, 0, none⟩)] w (CPost w.heap.size x l en nest (L.pw k) w)
  un : ∀ (k : Nat) (w : World), Pc w x l en k nest → Calls Tryz.prog 121 #[.pointer (some ⟨x, 0, none⟩)] w (CPost w.heap.size x l en nest (L.un k) w)
set_option maxRecDepth 100000 in
set_option maxHeartbeats 600000 in
theorem cargs {x k : Nat} {l : List Tok} {en nest : Int} {L : Lev} {into : Bool} (w : World) (h : Pc w x l en k nest) (hl : l.length ≤ 300) (hn0 : 0 ≤ nest) (hn1 : nest ≤ 40) (hi : into = decide (nest < 40)) (hc : nest < 40 → CCon x l en (nest + 1) L) :
    Calls Tryz.prog 168 #[.pointer (some ⟨x, 0, none⟩)] w (LPost x l en nest (withinF l en L into k) w) := by
  have hxw := h.lt
  have HI := Lib.hid h
  clear h
  have HC := Lib.hid hc
  have HIN := Lib.hid hi
  clear hc hi
  have B41 : Hid (({ data := #[41] } : ByteArray) = str [41]) := Lib.hid rfl
  have B44 : Hid (({ data := #[44] } : ByteArray) = str [44]) := Lib.hid rfl
  obtain ⟨i0, hi0, hz0, hz1, hz2⟩ := info_parts node_info
  have HZ0 := Lib.hid hz0; have HZ1 := Lib.hid hz1; have HZ2 := Lib.hid hz2; have HI0 := Lib.hid hi0
  clear hz0 hz1 hz2 hi0
  have eg : ∀ args w, (callFunc 36 args).run Tryz.prog w = .ok (.enter 36 args) w := enters_of Tryz.func36 (by kernel_rfl) rfl
  have HEG := Lib.hid eg
  clear eg
  go_enter Tryz.func168, Tryz.ntmps168
  go_wp2_with fail
  rw [B41.out]
  refine (cseesSign [41] w HI.out hl).mono ?_; rintro e w2 ⟨rfl, hb2⟩
  have K2 : Kept x w w2 := Kept.of hb2
  have P2 := Lib.hid (HI.out.below hb2)
  cases hs : isSign l k [41] with
  | true =>
    have E : Hid (withinF l en L into k = .ok (.nil, k)) := Lib.hid (by unfold withinF; rw [if_pos hs])
    go_wp2_with fail
    refine bodyPost_ret (v := .tuple #[.slice none 0 0, .nilIface]) (by simp [results, Tryz.results168, go_sem]) rfl ⟨none, 0, 0, _, rfl, K2, Or.inl ⟨.nil, k, E.out, rfl, rfl, Or.inl rfl, P2.out⟩⟩
  | false =>
    have E : Hid (withinF l en L into k = argsF l en L into 10 .nil k) := Lib.hid (by unfold withinF; rw [if_neg (by rw [hs]; exact Bool.false_ne_true)])
    generalize withinF l en L into k = O at *
    go_wp2_with fail
    have HK2 := Lib.hid K2
    clear K2 hb2
    go_loopw [4] (fun v wr => Hid (∃ (fo : Fo) (k' r : Nat), r + fo.len = 10 ∧ O = argsF l en L into r fo k' ∧ AS wr w.heap.size v fo ∧ Kept x w wr ∧ Pc wr x l en k' nest)) (fun v _ => m4 v)
    case atStart => exact Lib.hid ⟨.nil, k, 10, rfl, E.out, AS.nil _ _, HK2.out, P2.out⟩
    case round =>
      obtain ⟨fo, k', r, hr, hO, hA, hK, hP⟩ := hrel.out
      clear hrel
      obtain ⟨A, c, rfl⟩ := hA.form
      have HA := Lib.hid hA
      have HO := Lib.hid hO
      have HP := Lib.hid hP
      clear hA hO hP
      have hlt := HP.out.lt
      by_cases h10 : fo.len = 10
      · have t10 : ((fo.len : Int) == 10) = true := beq_iff_eq.2 (by omega)
        obtain rfl : r = 0 := by omega
        go_wp2_with fail
        refine (cmisplaced wr HP.out hl).mono ?_; rintro e w3 ⟨rfl, q, rfl⟩
        go_wp2_with fail
        refine bodyPost_ret (v := .tuple #[.slice none 0 0, errV (badAt l en k')]) (by simp [results, Tryz.results168, go_sem]) rfl ⟨none, 0, 0, _, rfl, hK.drew q, Or.inr ⟨_, k', HO.out.trans args_end, isBad_at _ _ _, rfl, HP.out.drew q⟩⟩
      · have t10 : ((fo.len : Int) == 10) = false := beq_eq_false_iff_ne.2 (by omega)
        obtain ⟨r, rfl⟩ : ∃ q, r = q + 1 := ⟨r - 1, by omega⟩
        go_wp2_with fail
        refine (cnested 36 #[.pointer (some ⟨x, 0, none⟩)] wr hlt).mono ?_; rintro e w5 ⟨b1, b2, rfl, hb5, hc1, hc2, hx1, hx2, hs1, hs2⟩
        have k5 : Kept x wr w5 := Kept.of hb5
        have K5 := hK.trans k5
        have P5 := Lib.hid (HP.out.below hb5)
        have A5 := Lib.hid (HA.out.kept k5 hxw)
        clear HA hb5 k5 HP hlt hK
        go_wp2_with fail
        refine (cnested1 (F := L.fm) HEG.out w5 P5.out hn0 hn1 hc1 hc2 (by omega) (by omega) (fun hin w' hk hp => (HC.out hin).fm k' w' hp)).mono ?_
        clear hc1 hc2 hx1 hx2 hs1 hs2
        rintro e w6 ⟨f, A6, m, c6, er, rfl, k6, hp6⟩
        have K6 := K5.trans k6
        have A7 := A5.out.kept k6 hxw
        have hlo := A5.out.lt
        have hx6 : w.heap.size ≤ w6.heap.size := K6.size
        unfold nodeV
        rcases hp6 with ⟨kd, k2, ho, rfl, hn, hA6, hP6⟩ | ⟨bad, k2, ho, hib, rfl, hP6⟩
        · have hin : nest < 40 := by
            by_cases h : nest < 40
            · exact h
            · rw [if_neg h] at ho; cases ho
          rw [if_pos hin] at ho
          have hit : into = true := by rw [HIN.out]; exact decide_eq_true hin
          have HF := Lib.hid ho
          have HIT := Lib.hid hit
          have K8 := (K6.alloc (.cells #[.int .i64 f.k, .int .i64 f.vk, .int .i64 f.vn, .string f.vs, .int .i64 f.r1, .int .i64 f.r2, .int .i64 f.r3, .int .i64 f.r4, .string f.op, .slice A6 m c6] 31)).alloc (.cells #[.int .i64 f.k, .int .i64 f.vk, .int .i64 f.vn, .string f.vs, .int .i64 f.r1, .int .i64 f.r2, .int .i64 f.r3, .int .i64 f.r4, .string f.op, .slice A6 m c6] 31)
          have k8 : Kept x w6 ((w6.alloc (.cells #[.int .i64 f.k, .int .i64 f.vk, .int .i64 f.vn, .string f.vs, .int .i64 f.r1, .int .i64 f.r2, .int .i64 f.r3, .int .i64 f.r4, .string f.op, .slice A6 m c6] 31)).alloc (.cells #[.int .i64 f.k, .int .i64 f.vk, .int .i64 f.vn, .string f.vs, .int .i64 f.r1, .int .i64 f.r2, .int .i64 f.r3, .int .i64 f.r4, .string f.op, .slice A6 m c6] 31)) := ((Kept.refl x w6).alloc _).alloc _
          have A8 := A7.kept k8 hxw
          have P8 := Lib.hid ((hP6.alloc (.cells #[.int .i64 f.k, .int .i64 f.vk, .int .i64 f.vn, .string f.vs, .int .i64 f.r1, .int .i64 f.r2, .int .i64 f.r3, .int .i64 f.r4, .string f.op, .slice A6 m c6] 31)).alloc (.cells #[.int .i64 f.k, .int .i64 f.vk, .int .i64 f.vn, .string f.vs, .int .i64 f.r1, .int .i64 f.r2, .int .i64 f.r3, .int .i64 f.r4, .string f.op, .slice A6 m c6] 31))
          have N8 : KidsAt ((w6.alloc (.cells #[.int .i64 f.k, .int .i64 f.vk, .int .i64 f.vn, .string f.vs, .int .i64 f.r1, .int .i64 f.r2, .int .i64 f.r3, .int .i64 f.r4, .string f.op, .slice A6 m c6] 31)).alloc (.cells #[.int .i64 f.k, .int .i64 f.vk, .int .i64 f.vn, .string f.vs, .int .i64 f.r1, .int .i64 f.r2, .int .i64 f.r3, .int .i64 f.r4, .string f.op, .slice A6 m c6] 31)) (fun g => w.heap.size ≤ g ∧ Value.ownBlock (.slice A fo.len c) ≠ some g) kd A6 := hA6.keep k8 (fun g hg hl => ⟨by have := K5.size; omega, by have := K5.size; omega, fun e => by have := hlo g e; omega⟩)
          have hnb : ((w6.alloc (.cells #[.int .i64 f.k, .int .i64 f.vk, .int .i64 f.vn, .string f.vs, .int .i64 f.r1, .int .i64 f.r2, .int .i64 f.r3, .int .i64 f.r4, .string f.op, .slice A6 m c6] 31)).alloc (.cells #[.int .i64 f.k, .int .i64 f.vk, .int .i64 f.vn, .string f.vs, .int .i64 f.r1, .int .i64 f.r2, .int .i64 f.r3, .int .i64 f.r4, .string f.op, .slice A6 m c6] 31)).heap[w6.heap.size + 1]? = some (.cells #[.int .i64 f.k, .int .i64 f.vk, .int .i64 f.vn, .string f.vs, .int .i64 f.r1, .int .i64 f.r2, .int .i64 f.r3, .int .i64 f.r4, .string f.op, .slice A6 m c6] 31) := row_at2 _ _ _ rfl
          have s8 : w.heap.size ≤ ((w6.alloc (.cells #[.int .i64 f.k, .int .i64 f.vk, .int .i64 f.vn, .string f.vs, .int .i64 f.r1, .int .i64 f.r2, .int .i64 f.r3, .int .i64 f.r4, .string f.op, .slice A6 m c6] 31)).alloc (.cells #[.int .i64 f.k, .int .i64 f.vk, .int .i64 f.vn, .string f.vs, .int .i64 f.r1, .int .i64 f.r2, .int .i64 f.r3, .int .i64 f.r4, .string f.op, .slice A6 m c6] 31)).heap.size := K8.size
          obtain ⟨vs, hown, hvs⟩ := A8
          have HH := Lib.hid hown
          have HNB := Lib.hid hnb
          have HREST := Lib.hid (show RowV ((w6.alloc (.cells #[.int .i64 f.k, .int .i64 f.vk, .int .i64 f.vn, .string f.vs, .int .i64 f.r1, .int .i64 f.r2, .int .i64 f.r3, .int .i64 f.r4, .string f.op, .slice A6 m c6] 31)).alloc (.cells #[.int .i64 f.k, .int .i64 f.vk, .int .i64 f.vn, .string f.vs, .int .i64 f.r1, .int .i64 f.r2, .int .i64 f.r3, .int .i64 f.r4, .string f.op, .slice A6 m c6] 31)) (fun g => w.heap.size ≤ g ∧ Value.ownBlock (.slice A fo.len c) ≠ some g) fo vs ∧ KidsAt ((w6.alloc (.cells #[.int .i64 f.k, .int .i64 f.vk, .int .i64 f.vn, .string f.vs, .int .i64 f.r1, .int .i64 f.r2, .int .i64 f.r3, .int .i64 f.r4, .string f.op, .slice A6 m c6] 31)).alloc (.cells #[.int .i64 f.k, .int .i64 f.vk, .int .i64 f.vn, .string f.vs, .int .i64 f.r1, .int .i64 f.r2, .int .i64 f.r3, .int .i64 f.r4, .string f.op, .slice A6 m c6] 31)) (fun g => w.heap.size ≤ g ∧ Value.ownBlock (.slice A fo.len c) ≠ some g) kd A6 ∧ Kept x w ((w6.alloc (.cells #[.int .i64 f.k, .int .i64 f.vk, .int .i64 f.vn, .string f.vs, .int .i64 f.r1, .int .i64 f.r2, .int .i64 f.r3, .int .i64 f.r4, .string f.op, .slice A6 m c6] 31)).alloc (.cells #[.int .i64 f.k, .int .i64 f.vk, .int .i64 f.vn, .string f.vs, .int .i64 f.r1, .int .i64 f.r2, .int .i64 f.r3, .int .i64 f.r4, .string f.op, .slice A6 m c6] 31)) from ⟨hvs, N8, K8⟩)
          clear ho hit hnb hown hvs N8 K8 k8 A7 A5 K5 K6 k6 P5 hA6 hP6
          go_wp2_with (at_builtin
                       refine wpList_append_own_at _ rfl (.tmp 25) (.tmp 27) _ rfl w.heap.size 31 i0 _ 10 112 Tryz.underlying29 HI0.out HZ0.out HZ1.out HZ2.out rfl (by omega) (.slice A fo.len c) fo.len (ncells vs) rfl HH.out ⟨w6.heap.size + 1, 0, none⟩ 1 1 [.int .i64 f.k, .int .i64 f.vk, .int .i64 f.vn, .string f.vs, .int .i64 f.r1, .int .i64 f.r2, .int .i64 f.r3, .int .i64 f.r4, .string f.op, .slice A6 m c6] rfl rfl (World.news_of_block HNB.out) (by simp [Value.oneCell']) (by unfold maxLen; omega) (by omega) s8 ?_
                       intro v9 w9 hown9 hg9 hnil9 hat9
                       have A9 : AS w9 w.heap.size v9 (fo.app (Nd.one ⟨f, kd⟩)) := AS.snoc (m := m) (c := c6) vs HREST.out.1 hn HREST.out.2.1 hown9 hg9 hat9
                       obtain ⟨y, k9, hy⟩ := grown_kept hg9
                       have hyw : w.heap.size ≤ y := by
                         rcases hy with hy | hy
                         · exact (hlo y hy).1
                         · rw [hy]; exact s8
                       have K9 := HREST.out.2.2.then_ k9 hyw
                       have P9 := Lib.hid (P8.out.kept k9 (by omega))
                       clear hown9 hg9 hnil9 hat9 k9 hy hyw
                       obtain ⟨A10, c10, e10⟩ := A9.form
                       subst e10
                       have HA9 := Lib.hid A9
                       have HK9 := Lib.hid K9
                       clear A9 K9)
          rw [B44.out]
          refine (cseesSign [44] w9 P9.out hl).mono ?_; rintro e w10 ⟨rfl, hb10⟩
          have k10 : Kept x w9 w10 := Kept.of hb10
          have P10 := Lib.hid (P9.out.below hb10)
          have K10 := Lib.hid (HK9.out.trans k10)
          have HA10 := Lib.hid (HA9.out.kept k10 hxw)
          have hlen : (fo.app (Nd.one ⟨f, kd⟩)).len = fo.len + 1 := by rw [Fo.len_app]; rfl
          clear hb10 k10 P9 HA9 HK9
          have EM : Hid (isSign l k2 [44] = true → O = argsF l en L into r (fo.app (Nd.one ⟨f, kd⟩)) (k2 + 1)) := Lib.hid fun hs => HO.out.trans (args_more HIT.out HF.out hs)
          have EL : Hid (isSign l k2 [44] = false → O = .ok (fo.app (Nd.one ⟨f, kd⟩), k2)) := Lib.hid fun hs => HO.out.trans (args_last HIT.out HF.out hs)
          generalize fo.app (Nd.one ⟨f, kd⟩) = fo2 at *
          cases hs9 : isSign l k2 [44] with
          | false =>
            have hkids := HA10.out.kids
            go_wp2_with fail
            refine bodyPost_ret (v := .tuple #[.slice A10 (fo.len + 1) c10, .nilIface]) (by simp [results, Tryz.results168, go_sem]) rfl ⟨A10, _, c10, _, rfl, K10.out, Or.inl ⟨fo2, k2, EL.out hs9, rfl, hlen, hkids.1, P10.out⟩⟩
          | true =>
            have hlt9 := sign_lt hs9
            go_wp2_with fail
            refine (ctake w10 P10.out hlt9).mono ?_; rintro e w11 ⟨rfl, P11, k11⟩
            go_wp2_with fail
            go_roundw
            case rel => exact Lib.hid ⟨fo2, k2 + 1, r, by omega, EM.out hs9, hlen ▸ HA10.out.kept k11 hxw, K10.out.trans k11, P11⟩
            case measure => rw [m4_slice, m4_slice]; omega
        · obtain ⟨T, u, hT⟩ := errV_some bad
          have E2 : Hid (O = .error bad) := by
            by_cases hin : nest < 40
            · rw [if_pos hin] at ho
              exact Lib.hid (HO.out.trans (args_bad (by rw [HIN.out]; exact decide_eq_true hin) ho))
            · rw [if_neg hin] at ho
              injection ho with ho
              subst ho
              exact Lib.hid (HO.out.trans (args_deep (by rw [HIN.out]; exact decide_eq_false hin)))
          have P6 := Lib.hid (hP6.alloc (.cells #[.int .i64 f.k, .int .i64 f.vk, .int .i64 f.vn, .string f.vs, .int .i64 f.r1, .int .i64 f.r2, .int .i64 f.r3, .int .i64 f.r4, .string f.op, .slice A6 m c6] 31))
          have K7 := Lib.hid (K6.alloc (.cells #[.int .i64 f.k, .int .i64 f.vk, .int .i64 f.vn, .string f.vs, .int .i64 f.r1, .int .i64 f.r2, .int .i64 f.r3, .int .i64 f.r4, .string f.op, .slice A6 m c6] 31))
          clear ho hP6
          rw [hT]
          go_wp2_with fail
          refine bodyPost_ret (v := .tuple #[.slice none 0 0, .iface T u]) (by simp [results, Tryz.results168, go_sem]) rfl ⟨none, 0, 0, _, rfl, K7.out, Or.inr ⟨bad, k2, E2.out, hib, hT.symm, P6.out⟩⟩


end Go.Proofs.YtkdgiadpmfpjnaaGreatDoor.TreeC

/-
  Contracts of tree's code: calls.
-/
namespace Go.Proofs.YtkdgiadpmfpjnaaGreatDoor.TreeC
set_option linter.unusedVariables false
open Go.RowKit Go.Proofs.YtkdgiadpmfpjnaaGreatDoor.NumC Go.Proofs.YtkdgiadpmfpjnaaGreatDoor.LexC

/-- The call with its Args, what closes it not yet taken. -/
def callIn (l : List Tok) (n : Int) (L : Lev) (into : Bool) (s : ByteArray) (k : Nat) : Out := match withinF l n L into k with
  | .error e => .error e
  | .ok (fo, k') => .ok (callN s fo, k')
theorem callIn_err {l : List Tok} {n : Int} {L : Lev} {into : Bool} {s : ByteArray} {k : Nat} {b : Bad} (h : withinF l n L into k = .error b) : callIn l n L into s k = .error b := by simp [callIn, h]
theorem callIn_ok {l : List Tok} {n : Int} {L : Lev} {into : Bool} {s : ByteArray} {k k' : Nat} {fo : Fo} (h : withinF l n L into k = .ok (fo, k')) : callIn l n L into s k = .ok (callN s fo, k') := by simp [callIn, h]
theorem callF_in {l : List Tok} {n : Int} {L : Lev} {into : Bool} {t : Tok} {k : Nat} (h8 : ¬ 8 < t.s.size) : callF l n L into t k = closedF l n (callIn l n L into t.s (k + 2)) := by
  unfold callF callIn withinF closedF
  rw [if_neg h8]
  cases hs : isSign l (k + 2) [41] with
  | true => simp [close_ok hs]
  | false =>
    simp only [Bool.false_eq_true, if_false]
    cases argsF l n L into 10 .nil (k + 2) with
    | error e => rfl
    | ok q => obtain ⟨fo, k'⟩ := q; rfl
set_option maxRecDepth 100000 in
set_option maxHeartbeats 600000 in
theorem ccall1 {x k b1 b2 : Nat} {l : List Tok} {en nest : Int} {L : Lev} {into : Bool} {s : ByteArray} (w : World) (h : Pc w x l en k nest) (hl : l.length ≤ 300) (hn0 : 0 ≤ nest) (hn1 : nest ≤ 40) (hi : into = decide (nest < 40)) (hc : nest < 40 → CCon x l en (nest + 1) L)
    (h1 : w.cell? ⟨b1, 0, none⟩ = some (.pointer (some ⟨x, 0, none⟩))) (h2 : w.cell? ⟨b2, 0, none⟩ = some (.string s)) (hx1 : b1 ≠ x) (hx2 : b2 ≠ x) :
    Calls Tryz.prog 167 #[.pointer (some ⟨b1, 0, none⟩), .pointer (some ⟨b2, 0, none⟩)] w (CPost w.heap.size x l en nest (callIn l en L into s k) w) := by
  have hxw := h.lt
  have HI := Lib.hid h
  clear h
  have hb1 := World.block_lt_of_cell? w _ h1
  have hb2 := World.block_lt_of_cell? w _ h2
  simp only at hb1 hb2
  have HC := Lib.hid hc
  have HIN := Lib.hid hi
  clear hc hi
  have ne1 : x ≠ w.heap.size := by omega
  have ne2 : w.heap.size ≠ x := by omega
  have K1 : Kept x w (w.alloc (.cells #[.int .i64 0, .int .i64 0, .int .i64 0, .string { data := #[] }, .int .i64 0, .int .i64 0, .int .i64 0, .int .i64 0, .string { data := #[] }, .slice none 0 0] 31)) := (Kept.refl x w).alloc _
  have X1 := NBox.new w
  have P1 := Lib.hid (HI.out.alloc (.cells #[.int .i64 0, .int .i64 0, .int .i64 0, .string { data := #[] }, .int .i64 0, .int .i64 0, .int .i64 0, .int .i64 0, .string { data := #[] }, .slice none 0 0] 31))
  have c2 := K1.cell hx2 h2
  clear h2
  go_enter Tryz.func167, Tryz.ntmps167
  go_wp2_with fail
  generalize (w.alloc (.cells #[.int .i64 0, .int .i64 0, .int .i64 0, .string { data := #[] }, .int .i64 0, .int .i64 0, .int .i64 0, .int .i64 0, .string { data := #[] }, .slice none 0 0] 31)) = W1 at *
  have lt1 := X1.lt
  refine (cargs W1 P1.out hl hn0 hn1 HIN.out HC.out).mono ?_; rintro e w2 ⟨A, m, c, er, rfl, k2, hp2⟩
  have K2 := K1.trans k2
  have X2 := X1.kept k2 ne2
  have q2 := k2.cell hx2 c2
  clear c2 h1
  obtain ⟨f0, f1, f2, f3, f4, f5, f6, f7, f8, f9, z0, z1, z2, z3, z4, z5, z6, z7, z8, z9⟩ := (X2).cells
  go_wp2_with fail
  rcases hp2 with ⟨fo, k', ho, rfl, hn, hA, hP⟩ | ⟨bad, k', ho, hib, rfl, hP⟩
  · refine bodyPost_ret (v := .tuple #[.agg #[.int .i64 6, .int .i64 0, .int .i64 0, .string { data := #[] }, .int .i64 0, .int .i64 0, .int .i64 0, .int .i64 0, .string s, .slice A m c], .nilIface]) (by simp [results, Tryz.results167, go_sem, f0, f1, f2, f3, f4, f5, f6, f7, f8, f9]) rfl (CPost.ok (f := (callN s fo).f) (kd := fo) (A := A) (m := m) (c := c) (b := w.heap.size) (V := w2) (callIn_ok ho) K2 hP hn (hA.keep (Q := fun g => w.heap.size ≤ g ∧ g ≠ w.heap.size) (Kept.refl w2.heap.size w2) (fun g hg hl => ⟨by omega, by omega, by omega⟩)) (Nat.le_refl _) hxw ?_)
    repeat (first | with_reducible exact Kept.refl _ _ | with_reducible refine Kept.setCell ?_ _ _ | with_reducible refine Kept.alloc ?_ _)
  · refine bodyPost_ret (v := .tuple #[.agg #[.int .i64 6, .int .i64 0, .int .i64 0, .string { data := #[] }, .int .i64 0, .int .i64 0, .int .i64 0, .int .i64 0, .string s, .slice A m c], errV bad]) (by simp [results, Tryz.results167, go_sem, f0, f1, f2, f3, f4, f5, f6, f7, f8, f9]) rfl (CPost.err (f := (callN s .nil).f) (A := A) (m := m) (c := c) (b := w.heap.size) (V := w2) (callIn_err ho) hib K2 hP (Nat.le_refl _) hxw ?_)
    repeat (first | with_reducible exact Kept.refl _ _ | with_reducible refine Kept.setCell ?_ _ _ | with_reducible refine Kept.alloc ?_ _)

set_option maxRecDepth 100000 in
set_option maxHeartbeats 600000 in
theorem ccall {x k : Nat} {l : List Tok} {en nest : Int} {L : Lev} {into : Bool} {t : Tok} (w : World) (h : Pc w x l en k nest) (hl : l.length ≤ 300) (hn0 : 0 ≤ nest) (hn1 : nest ≤ 40) (hi : into = decide (nest < 40)) (hc : nest < 40 → CCon x l en (nest + 1) L)
    (ht : l[k]? = some t) (hts : t.s.size ≤ 1000000) (hs : isSign l (k + 1) [40] = true) :
    Calls Tryz.prog 153 #[.pointer (some ⟨x, 0, none⟩)] w (CPost w.heap.size x l en nest (callF l en L into t k) w) := by
  have hxw := h.lt
  have HI := Lib.hid h
  clear h
  have HC := Lib.hid hc
  have HIN := Lib.hid hi
  have HT := Lib.hid ht
  have hlt : k < l.length := (List.getElem?_eq_some_iff.1 ht).1
  have hlt2 : k + 1 < l.length := sign_lt hs
  clear hc hi ht
  have ne1 : x ≠ w.heap.size + 1 := by omega
  have ne2 : w.heap.size + 1 ≠ x := by omega
  have nf1 : x ≠ w.heap.size := by omega
  have nf2 : w.heap.size ≠ x := by omega
  have sz1 : (w.alloc (.cells #[.pointer (some ⟨x, 0, none⟩)] 74)).heap.size = w.heap.size + 1 := heap_one _ _
  have K1 : Kept x w ((w.alloc (.cells #[.pointer (some ⟨x, 0, none⟩)] 74)).alloc (.cells #[.int .i64 0, .int .i64 0, .int .i64 0, .string { data := #[] }, .int .i64 0, .int .i64 0, .int .i64 0, .int .i64 0, .string { data := #[] }, .slice none 0 0] 31)) := ((Kept.refl x w).alloc _).alloc _
  have X1 : NBox ((w.alloc (.cells #[.pointer (some ⟨x, 0, none⟩)] 74)).alloc (.cells #[.int .i64 0, .int .i64 0, .int .i64 0, .string { data := #[] }, .int .i64 0, .int .i64 0, .int .i64 0, .int .i64 0, .string { data := #[] }, .slice none 0 0] 31)) (w.heap.size + 1) := by
    have := NBox.new (w.alloc (.cells #[.pointer (some ⟨x, 0, none⟩)] 74)); rwa [sz1] at this
  have P1 := Lib.hid ((HI.out.alloc (.cells #[.pointer (some ⟨x, 0, none⟩)] 74)).alloc (.cells #[.int .i64 0, .int .i64 0, .int .i64 0, .string { data := #[] }, .int .i64 0, .int .i64 0, .int .i64 0, .int .i64 0, .string { data := #[] }, .slice none 0 0] 31))
  have q1 : ((w.alloc (.cells #[.pointer (some ⟨x, 0, none⟩)] 74)).alloc (.cells #[.int .i64 0, .int .i64 0, .int .i64 0, .string { data := #[] }, .int .i64 0, .int .i64 0, .int .i64 0, .int .i64 0, .string { data := #[] }, .slice none 0 0] 31)).cell? ⟨w.heap.size, 0, none⟩ = some (.pointer (some ⟨x, 0, none⟩)) := by simp
  have eg : ∀ args w, (callFunc 167 args).run Tryz.prog w = .ok (.enter 167 args) w := enters_of Tryz.func167 (by kernel_rfl) rfl
  have HEG := Lib.hid eg
  clear eg
  go_enter Tryz.func153, Tryz.ntmps153
  go_wp2_with fail
  generalize ((w.alloc (.cells #[.pointer (some ⟨x, 0, none⟩)] 74)).alloc (.cells #[.int .i64 0, .int .i64 0, .int .i64 0, .string { data := #[] }, .int .i64 0, .int .i64 0, .int .i64 0, .int .i64 0, .string { data := #[] }, .slice none 0 0] 31)) = W1 at *
  have lt1 := X1.lt
  refine (cahead0 W1 P1.out hl).mono ?_; rintro e w2 ⟨rfl, hb2⟩
  rw [HT.out]
  unfold tokV
  have k2 : Kept x W1 w2 := Kept.of hb2
  have K2 := K1.trans k2
  have X2 := X1.kept k2 ne2
  have P2 := Lib.hid (P1.out.below hb2)
  have q2 := k2.cell nf2 q1
  have qS := field_S t.k t.n t.s t.at_ w2
  have lt2 := X2.lt
  have hx2 : x < w2.heap.size := by have := k2.size; omega
  have na1 : x ≠ w2.heap.size := by omega
  have na2 : w2.heap.size ≠ x := by omega
  have na3 : w.heap.size + 1 ≠ w2.heap.size := by omega
  have na4 : w2.heap.size ≠ w.heap.size + 1 := by omega
  have na5 : w.heap.size ≠ w2.heap.size := by omega
  have K3 := K2.alloc (.cells #[.string t.s] 9)
  have k3 : Kept x w2 (w2.alloc (.cells #[.string t.s] 9)) := (Kept.refl x w2).alloc _
  have X3 := X2.kept k3 ne2
  have P3 := Lib.hid (P2.out.alloc (.cells #[.string t.s] 9))
  have q3 := k3.cell nf2 q2
  have r3 : (w2.alloc (.cells #[.string t.s] 9)).cell? ⟨w2.heap.size, 0, none⟩ = some (.string t.s) := by simp
  clear K1 X1 P1 q1 k2 hb2 k3
  have lt3 := X3.lt
  by_cases h8 : 8 < t.s.size
  · have E : Hid (callF l en L into t k = .error (badAt l en k)) := Lib.hid (by unfold callF; rw [if_pos h8])
    go_wp2_with fail
    generalize (w2.alloc (.cells #[.string t.s] 9)) = W3 at *
    refine (cmisplaced W3 P3.out hl).mono ?_; rintro e w4 ⟨rfl, q, rfl⟩
    have X4 := X3.kept ((Kept.refl x W3).drew q) ne2
    obtain ⟨f0, f1, f2, f3, f4, f5, f6, f7, f8, f9, z0, z1, z2, z3, z4, z5, z6, z7, z8, z9⟩ := (X4).cells
    go_wp2_with fail
    refine bodyPost_ret (v := .tuple #[.agg #[.int .i64 0, .int .i64 0, .int .i64 0, .string { data := #[] }, .int .i64 0, .int .i64 0, .int .i64 0, .int .i64 0, .string { data := #[] }, .slice none 0 0], errV (badAt l en k)]) (by simp [results, Tryz.results153, go_sem, f0, f1, f2, f3, f4, f5, f6, f7, f8, f9]) rfl (CPost.err (f := fld0) (A := none) (m := 0) (c := 0) (b := w.heap.size + 1) (V := W3.drewN q) E.out (isBad_at _ _ _) (K3.drew q) (P3.out.drew q) (by omega) hxw ?_)
    repeat (first | with_reducible exact Kept.refl _ _ | with_reducible refine Kept.setCell ?_ _ _ | with_reducible refine Kept.alloc ?_ _)
  · have E := Lib.hid (callF_in (l := l) (n := en) (L := L) (into := into) (k := k) h8)
    have h88 : t.s.size ≤ 8 := by omega
    clear X2 P2 q2
    go_wp2_with fail
    generalize (w2.alloc (.cells #[.string t.s] 9)) = W3 at *
    refine (ctake W3 P3.out hlt).mono ?_; rintro e w4 ⟨rfl, P4, k4⟩
    have K4 := K3.trans k4
    have X4 := X3.kept k4 ne2
    have q4 := k4.cell nf2 q3
    have r4 := k4.cell na2 r3
    clear K3 X3 P3 q3 r3 k4
    go_wp2_with fail
    refine (ctake w4 P4 hlt2).mono ?_; rintro e w5 ⟨rfl, P5, k5⟩
    have K5 := K4.trans k5
    have X5 := X4.kept k5 ne2
    have q5 := k5.cell nf2 q4
    have r5 := k5.cell na2 r4
    clear K4 X4 P4 q4 r4 k5
    go_wp2_with fail
    refine (cclosed (F := fun k => callIn l en L into t.s k) HEG.out w5 P5 hl (fun w' hk hp => ccall1 w' hp hl hn0 hn1 HIN.out HC.out (hk.cell nf2 q5) (hk.cell na2 r5) nf2 na2)).mono ?_
    rintro e w6 ⟨f, A, m, c, er, rfl, k6, hp6⟩
    have X6 := X5.kept k6 ne2
    have K6 := K5.trans k6
    rw [← E.out] at hp6
    have HP := Lib.hid hp6
    have lt6 := X5.lt
    have lt7 := X6.lt
    clear hp6
    unfold nodeV
    obtain ⟨f0, f1, f2, f3, f4, f5, f6, f7, f8, f9, z0, z1, z2, z3, z4, z5, z6, z7, z8, z9⟩ := (X6).cells
    go_wp2_with fail
    refine bodyPost_ret (v := .tuple #[.agg #[.int .i64 f.k, .int .i64 f.vk, .int .i64 f.vn, .string f.vs, .int .i64 f.r1, .int .i64 f.r2, .int .i64 f.r3, .int .i64 f.r4, .string f.op, .slice A m c], er]) (by simp [results, Tryz.results153, go_sem, f0, f1, f2, f3, f4, f5, f6, f7, f8, f9]) rfl (CPost.on (f := f) (A := A) (m := m) (c := c) (b := w.heap.size + 1) HP.out K6 (by omega) lt6 (by omega) hxw ?_)
    repeat (first | with_reducible exact Kept.refl _ _ | with_reducible refine Kept.setCell ?_ _ _ | with_reducible refine Kept.alloc ?_ _)


end Go.Proofs.YtkdgiadpmfpjnaaGreatDoor.TreeC

/-
  Contracts of tree's code: how deep a tree is.
-/
namespace Go.Proofs.YtkdgiadpmfpjnaaGreatDoor.TreeC
set_option linter.unusedVariables false
open Go.RowKit Go.Proofs.YtkdgiadpmfpjnaaGreatDoor.NumC Go.Proofs.YtkdgiadpmfpjnaaGreatDoor.LexC

/-- The i-th node of a forest. -/
def Fo.nth : Fo → Nat → Nd
  | .nil, _ => zeroN
  | .cons f k _, 0 => ⟨f, k⟩
  | .cons _ _ n, i + 1 => n.nth i
def Fo.drop : Fo → Nat → Fo
  | x, 0 => x
  | .nil, _ + 1 => .nil
  | .cons _ _ n, i + 1 => n.drop i
theorem Fo.drop_nth : ∀ (x : Fo) (i : Nat), i < x.len → x.drop i = .cons (x.nth i).f (x.nth i).kids (x.drop (i + 1))
  | .nil, i, h => by simp [Fo.len] at h
  | .cons f k n, 0, h => by simp [Fo.drop, Fo.nth]
  | .cons f k n, i + 1, h => by
    have := Fo.drop_nth n i (by simpa [Fo.len] using h)
    simpa [Fo.drop, Fo.nth] using this
theorem Fo.drop_len : ∀ (x : Fo) (i : Nat), x.len ≤ i → x.drop i = .nil
  | .nil, 0, _ => rfl
  | .nil, i + 1, _ => rfl
  | .cons f k n, 0, h => by simp [Fo.len] at h
  | .cons f k n, i + 1, h => by simpa [Fo.drop] using Fo.drop_len n i (by simpa [Fo.len] using h)
theorem Fo.nth_size : ∀ (x : Fo) (i : Nat), i < x.len → (x.nth i).size ≤ x.size
  | .nil, i, h => by simp [Fo.len] at h
  | .cons f k n, 0, h => by simp [Fo.nth, Nd.size, Fo.size]
  | .cons f k n, i + 1, h => by
    have := Fo.nth_size n i (by simpa [Fo.len] using h)
    simp only [Fo.nth, Fo.size]; omega
theorem Fo.drop_size : ∀ (x : Fo) (i : Nat), (x.drop i).size ≤ x.size
  | .nil, 0 => Nat.le_refl _
  | .nil, i + 1 => Nat.le_refl _
  | .cons f k n, 0 => Nat.le_refl _
  | .cons f k n, i + 1 => by have := Fo.drop_size n i; simp only [Fo.drop, Fo.size]; omega
theorem Fo.len_size : ∀ (x : Fo), x.len ≤ x.size
  | .nil => Nat.le_refl _
  | .cons f k n => by have := Fo.len_size n; simp only [Fo.len, Fo.size]; omega
theorem Fo.deep_size : ∀ (x : Fo), x.deep ≤ x.size
  | .nil => Nat.le_refl _
  | .cons f k n => by have := Fo.deep_size n; have := Fo.deep_size k; simp only [Fo.deep, Fo.size]; omega
theorem below_row {w w' : World} {fo : Fo} {A : Option Addr} (h : KidsAt w (fun g => g < w.heap.size) fo A) (hb : Below w.heap.size w w') : KidsAt w' (fun g => g < w'.heap.size) fo A :=
  h.keep (Kept.of (x := w.heap.size) hb) (fun g hg _ => ⟨by omega, by have := hb.size; omega⟩)
theorem RowAt.nth {w : World} {P : Nat → Prop} : ∀ (x : Fo) (g o i : Nat), RowAt w P x g o → i < x.len → ∃ A c, KidsAt w P (x.nth i).kids A ∧ P g ∧
    w.cell? ⟨g, o + i * 10, none⟩ = some (.int .i64 (x.nth i).f.k) ∧ w.cell? ⟨g, o + i * 10 + 1, none⟩ = some (.int .i64 (x.nth i).f.vk) ∧ w.cell? ⟨g, o + i * 10 + 2, none⟩ = some (.int .i64 (x.nth i).f.vn) ∧ w.cell? ⟨g, o + i * 10 + 3, none⟩ = some (.string (x.nth i).f.vs) ∧
    w.cell? ⟨g, o + i * 10 + 4, none⟩ = some (.int .i64 (x.nth i).f.r1) ∧ w.cell? ⟨g, o + i * 10 + 5, none⟩ = some (.int .i64 (x.nth i).f.r2) ∧ w.cell? ⟨g, o + i * 10 + 6, none⟩ = some (.int .i64 (x.nth i).f.r3) ∧ w.cell? ⟨g, o + i * 10 + 7, none⟩ = some (.int .i64 (x.nth i).f.r4) ∧
    w.cell? ⟨g, o + i * 10 + 8, none⟩ = some (.string (x.nth i).f.op) ∧ w.cell? ⟨g, o + i * 10 + 9, none⟩ = some (.slice A (x.nth i).kids.len c)
  | .nil, g, o, i, _, h => by simp [Fo.len] at h
  | .cons f k n, g, o, 0, hr, h => by
    obtain ⟨⟨hp, f0, f1, f2, f3, f4, f5, f6, f7, f8⟩, ⟨A, c, f9, hk⟩, -⟩ := hr
    exact ⟨A, c, hk, hp, by simpa [Fo.nth] using f0, by simpa [Fo.nth] using f1, by simpa [Fo.nth] using f2, by simpa [Fo.nth] using f3, by simpa [Fo.nth] using f4, by simpa [Fo.nth] using f5, by simpa [Fo.nth] using f6, by simpa [Fo.nth] using f7, by simpa [Fo.nth] using f8, by simpa [Fo.nth] using f9⟩
  | .cons f k n, g, o, i + 1, hr, h => by
    have := RowAt.nth n g (o + 10) i hr.2.2 (by simpa [Fo.len] using h)
    simp only [Fo.nth]
    rwa [show o + 10 + i * 10 = o + (i + 1) * 10 from by omega] at this

/-- How much room is left behind a forest's nodes; below nought, if there is too little. -/
def Fo.room : Fo → Int → Int
  | .nil, r => r
  | .cons _ k n, r => if r < 0 then r else n.room (k.room (r - 1))
def Nd.room (a : Nd) (r : Int) : Int := a.kids.room (r - 1)
theorem Fo.room_neg : ∀ (x : Fo) (r : Int), r < 0 → x.room r = r
  | .nil, r, h => rfl
  | .cons f k n, r, h => by simp [Fo.room, h]
theorem Fo.room_ok : ∀ (x : Fo) (r : Int), (x.size : Int) ≤ r → x.room r = r - x.size
  | .nil, r, h => by simp [Fo.room, Fo.size]
  | .cons f k n, r, h => by
    simp only [Fo.size] at h
    rw [Fo.room, if_neg (by omega), Fo.room_ok k (r - 1) (by omega), Fo.room_ok n _ (by omega)]
    simp only [Fo.size]; omega
theorem Fo.room_big : ∀ (x : Fo) (r : Int), 0 ≤ r → r < (x.size : Int) → x.room r = -1
  | .nil, r, h0, h => by simp [Fo.size] at h; omega
  | .cons f k n, r, h0, h => by
    simp only [Fo.size] at h
    rw [Fo.room, if_neg (by omega)]
    by_cases h1 : r - 1 < 0
    · rw [Fo.room_neg k _ h1, Fo.room_neg n _ h1]; omega
    · by_cases hk : (k.size : Int) ≤ r - 1
      · rw [Fo.room_ok k _ hk]
        exact Fo.room_big n _ (by omega) (by omega)
      · rw [Fo.room_big k _ (by omega) (by omega), Fo.room_neg n _ (by omega)]
theorem Nd.room_le (a : Nd) {r : Int} (h : 0 ≤ r) : 0 ≤ a.room r ↔ (a.size : Int) ≤ r := by
  unfold Nd.room Nd.size
  by_cases hk : (a.kids.size : Int) ≤ r - 1
  · rw [Fo.room_ok _ _ hk]; omega
  · by_cases h1 : r - 1 < 0
    · rw [Fo.room_neg _ _ h1]; omega
    · rw [Fo.room_big _ _ (by omega) (by omega)]; omega
theorem Nd.room_lo (a : Nd) {r : Int} (h : 0 ≤ r) : -1 ≤ a.room r ∧ a.room r ≤ r := by
  unfold Nd.room
  by_cases hk : (a.kids.size : Int) ≤ r - 1
  · rw [Fo.room_ok _ _ hk]; omega
  · by_cases h1 : r - 1 < 0
    · rw [Fo.room_neg _ _ h1]; omega
    · rw [Fo.room_big _ _ (by omega) (by omega)]; omega
theorem Fo.room_lo (x : Fo) {r : Int} (h : -1 ≤ r) : -1 ≤ x.room r ∧ x.room r ≤ r := by
  by_cases h1 : r < 0
  · rw [Fo.room_neg _ _ h1]; omega
  · by_cases hk : (x.size : Int) ≤ r
    · rw [Fo.room_ok _ _ hk]; omega
    · rw [Fo.room_big _ _ (by omega) (by omega)]; omega
set_option maxRecDepth 100000 in
set_option maxHeartbeats 1000000 in
theorem croom : ∀ (n : Nat) (a : Nd) (A : Option Addr) (c : Nat) (r : Int) (w : World), a.size ≤ n → a.size ≤ 1000000 → 0 ≤ r → r ≤ 2000 → KidsAt w (fun g => g < w.heap.size) a.kids A →
    Calls Tryz.prog 43 #[.agg #[.int .i64 a.f.k, .int .i64 a.f.vk, .int .i64 a.f.vn, .string a.f.vs, .int .i64 a.f.r1, .int .i64 a.f.r2, .int .i64 a.f.r3, .int .i64 a.f.r4, .string a.f.op, .slice A a.kids.len c], .int .i64 r] w fun e w' => e = .returned (.int .i64 (a.room r)) ∧ Below w.heap.size w w' := by
  intro n
  induction n with
  | zero => intro a A c r w h _; exact absurd h (by unfold Nd.size; omega)
  | succ n ih =>
    intro a A c r w hsz hsm hr0 hr1 hK
    obtain ⟨f, kd⟩ := a
    simp only at hK ⊢
    have HK := Lib.hid hK
    clear hK
    have hlen : kd.len ≤ 1000000 := by have := Fo.len_size kd; have : (Nd.mk f kd).size = 1 + kd.size := rfl; omega
    have hkz : kd.size ≤ n := by have : (Nd.mk f kd).size = 1 + kd.size := rfl; omega
    have hks : kd.size ≤ 1000000 := by have : (Nd.mk f kd).size = 1 + kd.size := rfl; omega
    go_enter Tryz.func43, Tryz.ntmps43
    go_wp2
    go_loopw [1, 5] (fun rv iv wr => ∃ (i : Nat) (q : Int), i ≤ kd.len ∧ rv = .int .i64 q ∧ iv = .int .i64 i ∧ -1 ≤ q ∧ q ≤ 2000 ∧ Below w.heap.size w wr ∧ Hid (wr.cell? ⟨w.heap.size, 9, none⟩ = some (.slice A kd.len c)) ∧ Hid ((kd.drop i).room q = kd.room (r - 1))) (fun _ iv _ => kd.len - (intOf iv).toNat)
    case atStart => exact ⟨0, r - 1, Nat.zero_le _, rfl, rfl, by omega, by omega, (Below.refl _ _).alloc (Nat.le_refl _) _, Lib.hid (by simp), Lib.hid (by cases kd <;> rfl)⟩
    case round =>
      obtain ⟨i, q, hi, rfl, rfl, hq0, hq1, hB, H9, HR⟩ := hrel
      have HKr := below_row HK.out hB
      have h9 := H9.out
      by_cases hlt : i < kd.len
      · have d1 : (i : Int) < (kd.len : Int) := by omega
        by_cases hq : 0 ≤ q
        · obtain ⟨g, o, rfl, hrow⟩ : ∃ g o, A = some ⟨g, o, none⟩ ∧ RowAt wr (fun g => g < wr.heap.size) kd g o := by
            rcases HKr with h | h
            · rw [h] at hlt; exact absurd hlt (by simp [Fo.len])
            · exact h
          obtain ⟨A2, c2, hk2, hp, f0, f1, f2, f3, f4, f5, f6, f7, f8, f9⟩ := RowAt.nth kd g o i hrow hlt
          have hn1 := Fo.nth_size kd i hlt
          have HI := Lib.hid (ih (kd.nth i) A2 c2 q wr (by omega) (by omega) hq hq1 hk2)
          have hlo := Nd.room_lo (kd.nth i) hq
          have HN : Hid ((kd.drop (i + 1)).room ((kd.nth i).room q) = kd.room (r - 1)) := by
            have e := HR.out
            rw [Fo.drop_nth kd i hlt, Fo.room, if_neg (by omega)] at e
            exact Lib.hid e
          clear hrow hk2 HKr ih hn1
          generalize kd.nth i = b at *
          go_wp2_with fail
          refine HI.out.mono ?_; rintro e w2 ⟨rfl, hb2⟩
          go_wp2_with fail
          go_roundw
          case rel => exact ⟨i + 1, b.room q, by omega, rfl, by go_num, by omega, by omega, hB.trans (hb2.mono hB.size), Lib.hid (cell_later hb2 H9.out), HN⟩
          case measure => simp [intOf]; omega
        · have E : Hid (kd.room (r - 1) = q) := Lib.hid (HR.out.symm.trans (Fo.room_neg _ _ (by omega)))
          clear ih HKr
          go_wp2_with fail
          go_ret
          exact ⟨by show Ending.returned (.int .i64 q) = _; rw [← E.out]; rfl, hB⟩
      · have E : Hid (kd.room (r - 1) = q) := Lib.hid (by rw [← HR.out, Fo.drop_len kd i (by omega)]; rfl)
        have d1 : ¬ (i : Int) < (kd.len : Int) := by omega
        clear ih HKr
        go_wp2_with fail
        go_ret
        exact ⟨by show Ending.returned (.int .i64 q) = _; rw [← E.out]; rfl, hB⟩

set_option maxRecDepth 100000 in
set_option maxHeartbeats 1000000 in
theorem csmall (a : Nd) (A : Option Addr) (c : Nat) (w : World) (hsm : a.size ≤ 1000000) (hK : KidsAt w (fun g => g < w.heap.size) a.kids A) :
    Calls Tryz.prog 29 #[.agg #[.int .i64 a.f.k, .int .i64 a.f.vk, .int .i64 a.f.vn, .string a.f.vs, .int .i64 a.f.r1, .int .i64 a.f.r2, .int .i64 a.f.r3, .int .i64 a.f.r4, .string a.f.op, .slice A a.kids.len c]] w fun e w' => e = .returned (.bool (decide (a.size ≤ 2000))) ∧ Below w.heap.size w w' := by
  have HK := Lib.hid hK
  clear hK
  have E : Hid (decide (0 ≤ a.room 2000) = decide (a.size ≤ 2000)) := Lib.hid (by have := Nd.room_le a (r := 2000) (by omega); exact decide_eq_decide.2 (this.trans (by omega)))
  obtain ⟨f, kd⟩ := a
  simp only at *
  go_enter Tryz.func29, Tryz.ntmps29
  go_wp2_with fail
  have hb1 : Below w.heap.size w (w.alloc (.cells #[.int .i64 f.k, .int .i64 f.vk, .int .i64 f.vn, .string f.vs, .int .i64 f.r1, .int .i64 f.r2, .int .i64 f.r3, .int .i64 f.r4, .string f.op, .slice A kd.len c] 31)) := (Below.refl _ _).alloc (Nat.le_refl _) _
  refine (croom (Nd.mk f kd).size ⟨f, kd⟩ A c 2000 _ (Nat.le_refl _) hsm (by omega) (by omega) (below_row HK.out hb1)).mono ?_; rintro e w2 ⟨rfl, hb2⟩
  go_wp2_with fail
  go_ret
  exact ⟨by rw [← E.out]; rfl, hb1.trans (hb2.mono hb1.size)⟩

theorem Fo.deep_drop : ∀ (x : Fo) (i : Nat) (h : i < x.len), (x.drop i).deep = max (x.nth i).deep (x.drop (i + 1)).deep := by
  intro x i h
  rw [Fo.drop_nth x i h]
  simp only [Fo.deep, Nd.deep]
set_option maxRecDepth 100000 in
set_option maxHeartbeats 1000000 in
theorem cdepth : ∀ (n : Nat) (a : Nd) (A : Option Addr) (c : Nat) (w : World), a.size ≤ n → a.size ≤ 1000000 → KidsAt w (fun g => g < w.heap.size) a.kids A →
    Calls Tryz.prog 31 #[.agg #[.int .i64 a.f.k, .int .i64 a.f.vk, .int .i64 a.f.vn, .string a.f.vs, .int .i64 a.f.r1, .int .i64 a.f.r2, .int .i64 a.f.r3, .int .i64 a.f.r4, .string a.f.op, .slice A a.kids.len c]] w fun e w' => e = .returned (.int .i64 (a.deep : Nat)) ∧ Below w.heap.size w w' := by
  intro n
  induction n with
  | zero => intro a A c w h _; exact absurd h (by unfold Nd.size; omega)
  | succ n ih =>
    intro a A c w hsz hsm hK
    obtain ⟨f, kd⟩ := a
    simp only at hK ⊢
    have HK := Lib.hid hK
    clear hK
    have hlen : kd.len ≤ 1000000 := by have := Fo.len_size kd; have : (Nd.mk f kd).size = 1 + kd.size := rfl; omega
    have hkz : kd.size ≤ n := by have : (Nd.mk f kd).size = 1 + kd.size := rfl; omega
    have hks : kd.size ≤ 1000000 := by have : (Nd.mk f kd).size = 1 + kd.size := rfl; omega
    have hdd : kd.deep ≤ 1000000 := Nat.le_trans (Fo.deep_size kd) hks
    go_enter Tryz.func31, Tryz.ntmps31
    go_wp2
    go_loopw [3, 9] (fun dv iv wr => ∃ (i d : Nat), i ≤ kd.len ∧ dv = .int .i64 d ∧ iv = .int .i64 i ∧ Below w.heap.size w wr ∧ Hid (max d (kd.drop i).deep = kd.deep)) (fun _ iv _ => kd.len - (intOf iv).toNat)
    case atStart => exact ⟨0, 0, Nat.zero_le _, rfl, rfl, (Below.refl _ _).alloc (Nat.le_refl _) _, Lib.hid (by cases kd <;> simp [Fo.drop])⟩
    case round =>
      obtain ⟨i, d, hi, rfl, rfl, hB, HR⟩ := hrel
      have HKr := below_row HK.out hB
      by_cases hlt : i < kd.len
      · have d1 : (i : Int) < (kd.len : Int) := by omega
        obtain ⟨g, o, rfl, hrow⟩ : ∃ g o, A = some ⟨g, o, none⟩ ∧ RowAt wr (fun g => g < wr.heap.size) kd g o := by
          rcases HKr with h | h
          · rw [h] at hlt; exact absurd hlt (by simp [Fo.len])
          · exact h
        obtain ⟨A2, c2, hk2, hp, f0, f1, f2, f3, f4, f5, f6, f7, f8, f9⟩ := RowAt.nth kd g o i hrow hlt
        have hn1 := Fo.nth_size kd i hlt
        have hB2 : Below wr.heap.size wr (wr.alloc (.cells #[.int .i64 (kd.nth i).f.k, .int .i64 (kd.nth i).f.vk, .int .i64 (kd.nth i).f.vn, .string (kd.nth i).f.vs, .int .i64 (kd.nth i).f.r1, .int .i64 (kd.nth i).f.r2, .int .i64 (kd.nth i).f.r3, .int .i64 (kd.nth i).f.r4, .string (kd.nth i).f.op, .slice A2 (kd.nth i).kids.len c2] 31)) := (Below.refl _ _).alloc (Nat.le_refl _) _
        have HI := Lib.hid (ih (kd.nth i) A2 c2 _ (by omega) (by omega) (below_row hk2 hB2))
        have HB2 := Lib.hid hB2
        have HN : Hid (max (max d (kd.nth i).deep) (kd.drop (i + 1)).deep = kd.deep) := Lib.hid (by rw [Nat.max_assoc, ← Fo.deep_drop kd i hlt]; exact HR.out)
        have hm1 : max d (kd.nth i).deep ≤ 1000000 := by have := HN.out; omega
        clear hrow hk2 HKr ih hn1 hB2
        generalize kd.nth i = b at *
        go_wp2_with fail
        refine HI.out.mono ?_; rintro e w2 ⟨rfl, hb2⟩
        go_wp2_with fail
        go_roundw
        case rel => exact ⟨i + 1, max d b.deep, by omega, by congr 1; omega, by go_num, hB.trans ((HB2.out.trans (hb2.mono HB2.out.size)).mono hB.size), HN⟩
        case measure => simp [intOf]; omega
      · have E : Hid (kd.deep = d) := Lib.hid (by rw [← HR.out, Fo.drop_len kd i (by omega)]; simp [Fo.deep])
        have d1 : ¬ (i : Int) < (kd.len : Int) := by omega
        have hd : d ≤ 1000000 := by have := E.out; omega
        clear ih HKr
        go_wp2_with fail
        go_ret
        refine ⟨?_, hB⟩
        show Ending.returned (.int .i64 ((d : Int) + 1)) = .returned (.int .i64 (((1 + kd.deep : Nat)) : Int))
        rw [E.out]
        congr 2; omega

set_option maxRecDepth 100000 in
set_option maxHeartbeats 1000000 in
theorem cDepth (a : Nd) (A : Option Addr) (c : Nat) (w : World) (hsm : a.size ≤ 1000000) (hK : KidsAt w (fun g => g < w.heap.size) a.kids A) :
    Calls Tryz.prog 17 #[.agg #[.int .i64 a.f.k, .int .i64 a.f.vk, .int .i64 a.f.vn, .string a.f.vs, .int .i64 a.f.r1, .int .i64 a.f.r2, .int .i64 a.f.r3, .int .i64 a.f.r4, .string a.f.op, .slice A a.kids.len c]] w fun e w' => e = .returned (.int .i64 ((if a.size ≤ 2000 then a.deep else 0 : Nat) : Int)) ∧ Below w.heap.size w w' := by
  have hb1 : Below w.heap.size w (w.alloc (.cells #[.int .i64 a.f.k, .int .i64 a.f.vk, .int .i64 a.f.vn, .string a.f.vs, .int .i64 a.f.r1, .int .i64 a.f.r2, .int .i64 a.f.r3, .int .i64 a.f.r4, .string a.f.op, .slice A a.kids.len c] 31)) := (Below.refl _ _).alloc (Nat.le_refl _) _
  have L1 : NLoc (w.alloc (.cells #[.int .i64 a.f.k, .int .i64 a.f.vk, .int .i64 a.f.vn, .string a.f.vs, .int .i64 a.f.r1, .int .i64 a.f.r2, .int .i64 a.f.r3, .int .i64 a.f.r4, .string a.f.op, .slice A a.kids.len c] 31)) w.heap.size a.f A a.kids.len c := ⟨heap_alloc_new _ _⟩
  have HK := Lib.hid (below_row hK hb1)
  clear hK
  generalize hD : (if a.size ≤ 2000 then a.deep else 0) = D
  have HD := Lib.hid hD.symm
  clear hD
  go_enter Tryz.func17, Tryz.ntmps17
  go_wp2_with fail
  generalize (w.alloc (.cells #[.int .i64 a.f.k, .int .i64 a.f.vk, .int .i64 a.f.vn, .string a.f.vs, .int .i64 a.f.r1, .int .i64 a.f.r2, .int .i64 a.f.r3, .int .i64 a.f.r4, .string a.f.op, .slice A a.kids.len c] 31)) = W1 at *
  refine (csmall a A c W1 hsm HK.out).mono ?_; rintro e w2 ⟨rfl, hb2⟩
  have HK2 := Lib.hid (below_row HK.out hb2)
  have L2 := L1.kept (Kept.of (x := W1.heap.size) hb2) (Nat.ne_of_lt L1.lt)
  have HB := Lib.hid (hb1.trans (hb2.mono hb1.size))
  clear hb1 hb2 HK L1
  by_cases h : a.size ≤ 2000
  · obtain ⟨d0, d1, d2, d3, d4, d5, d6, d7, d8, d9, dz0, dz1, dz2, dz3, dz4, dz5, dz6, dz7, dz8, dz9⟩ := (L2).cells
    have e1 : decide (a.size ≤ 2000) = true := decide_eq_true h
    have e2 : Hid (D = a.deep) := Lib.hid (HD.out.trans (if_pos h))
    go_wp2_with fail
    refine (cdepth a.size a A c w2 (Nat.le_refl _) hsm HK2.out).mono ?_; rintro e w3 ⟨rfl, hb3⟩
    go_wp2_with fail
    go_ret
    exact ⟨by rw [e2.out]; rfl, HB.out.trans (hb3.mono HB.out.size)⟩
  · have e1 : decide (a.size ≤ 2000) = false := decide_eq_false h
    have e2 : Hid (D = 0) := Lib.hid (HD.out.trans (if_neg h))
    go_wp2_with fail
    go_ret
    exact ⟨by rw [e2.out]; rfl, HB.out⟩


end Go.Proofs.YtkdgiadpmfpjnaaGreatDoor.TreeC

/-
  Plain facts on trees that are gone through level by level, or by a queue. No program in it.
-/
namespace Go.Proofs.YtkdgiadpmfpjnaaGreatDoor.TreeC
set_option linter.unusedVariables false
open Go.Proofs.YtkdgiadpmfpjnaaGreatDoor.NumC Go.Proofs.YtkdgiadpmfpjnaaGreatDoor.LexC

theorem Fo.app_len_inj : ∀ (x x' : Fo) {y y' : Fo}, x.len = x'.len → (x.app y = x'.app y' ↔ x = x' ∧ y = y')
  | .nil, .nil, y, y', _ => by simp [Fo.app]
  | .nil, .cons _ _ _, _, _, h => by simp [Fo.len] at h
  | .cons _ _ _, .nil, _, _, h => by simp [Fo.len] at h
  | .cons f k n, .cons f' k' n', y, y', h => by
    have := Fo.app_len_inj n n' (y := y) (y' := y') (by simpa [Fo.len] using h)
    simp only [Fo.app, Fo.cons.injEq, this]
    constructor
    · rintro ⟨a, b, c, d⟩; exact ⟨⟨a, b, c⟩, d⟩
    · rintro ⟨⟨a, b, c⟩, d⟩; exact ⟨a, b, c, d⟩
theorem Fo.drop_app : ∀ (x y : Fo) (i : Nat), i ≤ x.len → (x.app y).drop i = (x.drop i).app y
  | .nil, y, i, h => by
    obtain rfl : i = 0 := by simpa [Fo.len] using h
    cases y <;> rfl
  | .cons f k n, y, 0, _ => rfl
  | .cons f k n, y, i + 1, h => by
    have := Fo.drop_app n y i (by simp only [Fo.len] at h; omega)
    exact this
theorem Fo.nth_app : ∀ (x y : Fo) (i : Nat), i < x.len → (x.app y).nth i = x.nth i
  | .nil, y, i, h => absurd h (by simp [Fo.len])
  | .cons f k n, y, 0, _ => rfl
  | .cons f k n, y, i + 1, h => Fo.nth_app n y i (by simp only [Fo.len] at h; omega)
theorem Fo.drop_zero (x : Fo) : x.drop 0 = x := by cases x <;> rfl
theorem Fo.size_drop (x : Fo) (i : Nat) (h : i < x.len) : (x.drop i).size = 1 + (x.nth i).kids.size + (x.drop (i + 1)).size := by
  rw [Fo.drop_nth x i h]; rfl
/-- A queue's step: what is still to come, with the Args of the one that is gone through behind it. -/
theorem Fo.queue (q : Fo) (k : Nat) (h : k < q.len) : ((q.app (q.nth k).kids).drop (k + 1)) = (q.drop (k + 1)).app (q.nth k).kids := Fo.drop_app _ _ _ h
theorem Fo.queue_size (q : Fo) (k s : Nat) (h : k < q.len) (hs : k + (q.drop k).size = s) : (k + 1) + ((q.app (q.nth k).kids).drop (k + 1)).size = s := by
  rw [Fo.queue q k h, Fo.size_app, ← hs, Fo.size_drop q k h]; omega
/-- The Args of a row's nodes, one behind the other. -/
def Fo.under : Fo → Fo
  | .nil => .nil
  | .cons _ k n => k.app n.under
theorem Fo.under_app (x y : Fo) : (x.app y).under = x.under.app y.under := by
  induction x with
  | nil => rfl
  | cons f k n _ ih => simp only [Fo.app, Fo.under, ih, Fo.app_assoc]
theorem Fo.under_deep (x : Fo) : x.under.deep = x.deep - 1 := by
  induction x with
  | nil => rfl
  | cons f k n _ ih => simp only [Fo.under, Fo.deep_app, Fo.deep, ih]; omega
theorem Fo.under_size (x : Fo) : x.under.size + x.len = x.size := by
  induction x with
  | nil => rfl
  | cons f k n _ ih => simp only [Fo.under, Fo.size_app, Fo.size, Fo.len]; omega
theorem Fo.under_step (x : Fo) (i : Nat) (h : i < x.len) : (x.drop i).under = (x.nth i).kids.app (x.drop (i + 1)).under := by rw [Fo.drop_nth x i h]; rfl
theorem Fo.deep_nil {x : Fo} (h : x.len = 0) : x.deep = 0 := by
  cases x with
  | nil => rfl
  | cons f k n => simp [Fo.len] at h
theorem Fo.deep_pos {x : Fo} (h : 0 < x.len) : 0 < x.deep := by
  cases x with
  | nil => simp [Fo.len] at h
  | cons f k n => simp only [Fo.deep]; omega
theorem Fo.take_app : ∀ (x : Fo) (i : Nat), i < x.len → ∀ y : Fo, x.drop i = y → y.len = x.len - i
  | .nil, i, h, _, _ => absurd h (by simp [Fo.len])
  | .cons f k n, 0, _, y, e => by subst e; simp [Fo.drop_zero]
  | .cons f k n, i + 1, h, y, e => by
    have h' : i < n.len := by simp only [Fo.len] at h; omega
    have := Fo.take_app n i h' y e
    simp only [Fo.len]; omega
theorem Fo.len_drop (x : Fo) (i : Nat) : (x.drop i).len = x.len - i := by
  by_cases h : i < x.len
  · exact Fo.take_app x i h _ rfl
  · rw [Fo.drop_len x i (by omega)]; simp [Fo.len]; omega
/-- Two queues that are alike so far are alike just if what is to come is. -/
theorem Fo.two_step (x y : Fo) (k : Nat) (hx : k < x.len) (hy : k < y.len) (hf : (x.nth k).f = (y.nth k).f) (hl : (x.nth k).kids.len = (y.nth k).kids.len) :
    (x.drop k = y.drop k ↔ (x.app (x.nth k).kids).drop (k + 1) = (y.app (y.nth k).kids).drop (k + 1)) := by
  rw [Fo.queue x k hx, Fo.queue y k hy, Fo.drop_nth x k hx, Fo.drop_nth y k hy]
  simp only [Fo.cons.injEq, hf, true_and]
  constructor
  · rintro ⟨a, b⟩; rw [a, b]
  · intro h
    have hlen : (x.drop (k + 1)).len = (y.drop (k + 1)).len := by
      have := congrArg Fo.len h
      rw [Fo.len_app, Fo.len_app, hl] at this
      omega
    have := (Fo.app_len_inj _ _ hlen).1 h
    exact ⟨this.2, this.1⟩
theorem Fo.two_ne (x y : Fo) (k : Nat) (hx : k < x.len) (hy : k < y.len) (h : ¬ ((x.nth k).f = (y.nth k).f ∧ (x.nth k).kids.len = (y.nth k).kids.len)) : x.drop k ≠ y.drop k := by
  rw [Fo.drop_nth x k hx, Fo.drop_nth y k hy]
  intro e
  injection e with e1 e2 e3
  exact h ⟨e1, by rw [e2]⟩
end Go.Proofs.YtkdgiadpmfpjnaaGreatDoor.TreeC

/-
  A queue of nodes in memory; contract of the statements' helper that counts a tree's nodes.
-/
namespace Go.Proofs.YtkdgiadpmfpjnaaGreatDoor.TreeC
set_option linter.unusedVariables false
open Go.RowKit Go.Proofs.YtkdgiadpmfpjnaaGreatDoor.NumC Go.Proofs.YtkdgiadpmfpjnaaGreatDoor.LexC

theorem addr_add0 (g j : Nat) : (⟨g, 0, none⟩ : Addr).add j = ⟨g, j, none⟩ := by unfold Addr.add; split <;> simp_all
theorem addr_add (g i j : Nat) : (⟨g, i, none⟩ : Addr).add j = ⟨g, i + j, none⟩ := by
  unfold Addr.add
  split
  · rename_i h; subst h; rfl
  · rfl
theorem RowV.nth {w : World} {P : Nat → Prop} : ∀ (fo : Fo) (vs : List Value) (i : Nat), RowV w P fo vs → i < fo.len → ∃ A c, KidsAt w P (fo.nth i).kids A ∧
    ∀ (j : Nat) (u : Value), (nodeV (fo.nth i).f A (fo.nth i).kids.len c).cells[j]? = some u → (ncells vs)[i * 10 + j]? = some u := by
  intro fo
  induction fo with
  | nil => intro vs i _ h; exact absurd h (by simp [Fo.len])
  | cons f kids next _ ih =>
    intro vs i h hi
    cases vs with
    | nil => exact absurd h (by simp [RowV])
    | cons v vs =>
      obtain ⟨⟨A, c, rfl, hA⟩, hr⟩ := h
      cases i with
      | zero =>
        refine ⟨A, c, hA, fun j u hj => ?_⟩
        rw [ncells_cons, Nat.zero_mul, Nat.zero_add, List.getElem?_append_left (by
          have := (Array.getElem?_eq_some_iff.1 hj).1
          rw [Array.length_toList]; exact this)]
        simpa [Fo.nth] using hj
      | succ i =>
        obtain ⟨A2, c2, h1, h2⟩ := ih vs i hr (by simpa [Fo.len] using hi)
        refine ⟨A2, c2, h1, fun j u hj => ?_⟩
        have := h2 j u hj
        rw [ncells_cons, List.getElem?_append_right (by simp [nodeV, Value.cells]; omega)]
        rw [← this]
        congr 1
        simp [nodeV, Value.cells]; omega
theorem RowV.app {w : World} {P : Nat → Prop} {ka : Fo} {ws : List Value} (hw : RowV w P ka ws) : ∀ (fo : Fo) (vs : List Value), RowV w P fo vs → RowV w P (fo.app ka) (vs ++ ws) := by
  intro fo
  induction fo with
  | nil => intro vs h; cases vs with
    | nil => exact hw
    | cons v vs => exact absurd h (by simp [RowV])
  | cons f kids next _ ih => intro vs h; cases vs with
    | nil => exact absurd h (by simp [RowV])
    | cons v vs => exact ⟨h.1, ih vs h.2⟩
theorem ncells_app (vs ws : List Value) : ncells (vs ++ ws) = ncells vs ++ ncells ws := by unfold ncells; rw [List.flatMap_append]
/-- A row in memory, value by value. -/
theorem rowV_of {w : World} {P : Nat → Prop} {g : Nat} : ∀ (fo : Fo) (o : Nat), RowAt w P fo g o → ∃ vs, RowV w P fo vs ∧ (ncells vs).length = fo.len * 10 ∧ ∀ (j : Nat) (u : Value), (ncells vs)[j]? = some u → w.cell? ⟨g, o + j, none⟩ = some u := by
  intro fo
  induction fo with
  | nil => intro o _; exact ⟨[], trivial, rfl, fun j u h => by simp [ncells] at h⟩
  | cons f kids next _ ih =>
    intro o h
    obtain ⟨⟨hp, f0, f1, f2, f3, f4, f5, f6, f7, f8⟩, ⟨A, c, f9, hk⟩, hn⟩ := h
    obtain ⟨vs, h1, h2, h3⟩ := ih (o + 10) hn
    refine ⟨nodeV f A kids.len c :: vs, ⟨⟨A, c, rfl, hk⟩, h1⟩, by rw [ncells_cons, List.length_append, h2]; simp [nodeV, Value.cells, Fo.len]; omega, fun j u hj => ?_⟩
    rw [ncells_cons] at hj
    by_cases hlt : j < 10
    · rw [List.getElem?_append_left (by simpa [nodeV, Value.cells] using hlt)] at hj
      have h10 : j = 0 ∨ j = 1 ∨ j = 2 ∨ j = 3 ∨ j = 4 ∨ j = 5 ∨ j = 6 ∨ j = 7 ∨ j = 8 ∨ j = 9 := by omega
      rcases h10 with rfl | rfl | rfl | rfl | rfl | rfl | rfl | rfl | rfl | rfl <;> (simp [nodeV, Value.cells] at hj; subst hj; assumption)
    · rw [List.getElem?_append_right (by simp [nodeV, Value.cells]; omega)] at hj
      have := h3 (j - 10) u (by simpa [nodeV, Value.cells] using hj)
      rwa [show o + 10 + (j - 10) = o + j from by omega] at this
/-- A queue: a row of the call's own that reads as a forest; its nodes' Args lie below B. -/
def QS (w : World) (B : Nat) (v : Value) (fo : Fo) : Prop := ∃ vs, w.ownsRow B 31 10 v fo.len (ncells vs) ∧ RowV w (fun g => g < B) fo vs
theorem QS.nil (w : World) (B : Nat) : QS w B (.slice none 0 0) .nil := ⟨[], ⟨rfl, Or.inl ⟨rfl, rfl⟩⟩, trivial⟩
theorem QS.form {w : World} {B : Nat} {v : Value} {fo : Fo} (h : QS w B v fo) : ∃ A c, v = .slice A fo.len c := by
  obtain ⟨vs, ⟨-, ⟨rfl, h⟩ | ⟨g, cap, cur, rfl, -⟩⟩, -⟩ := h
  · exact ⟨none, 0, by rw [h]⟩
  · exact ⟨_, _, rfl⟩
theorem QS.lt {w : World} {B : Nat} {v : Value} {fo : Fo} (h : QS w B v fo) : ∀ k, v.ownBlock = some k → B ≤ k ∧ k < w.heap.size := by
  obtain ⟨vs, h, -⟩ := h
  exact World.ownsRow.lt h
theorem QS.below {w w' : World} {B : Nat} {v : Value} {fo : Fo} (h : QS w B v fo) (hk : Below w.heap.size w w') : QS w' B v fo := by
  obtain ⟨vs, ⟨h1, h2⟩, h3⟩ := h
  refine ⟨vs, ⟨h1, ?_⟩, RowV.keep (Kept.of (x := w.heap.size) hk) (fun g hg hl => ⟨by omega, hg⟩) _ _ h3⟩
  rcases h2 with h2 | ⟨g, cap, cur, e, hb, hg, h⟩
  · exact Or.inl h2
  · exact Or.inr ⟨g, cap, cur, e, hb, (hk.block g (Array.getElem?_eq_some_iff.1 hg).1).trans hg, h⟩
theorem QS.nth {w : World} {B : Nat} {v : Value} {fo : Fo} (h : QS w B v fo) (i : Nat) (hi : i < fo.len) : ∃ g c A2 c2, v = .slice (some ⟨g, 0, none⟩) fo.len c ∧ B ≤ g ∧ g < w.heap.size ∧ KidsAt w (fun g => g < B) (fo.nth i).kids A2 ∧
    w.cell? ⟨g, i * 10, none⟩ = some (.int .i64 (fo.nth i).f.k) ∧ w.cell? ⟨g, i * 10 + 1, none⟩ = some (.int .i64 (fo.nth i).f.vk) ∧ w.cell? ⟨g, i * 10 + 2, none⟩ = some (.int .i64 (fo.nth i).f.vn) ∧ w.cell? ⟨g, i * 10 + 3, none⟩ = some (.string (fo.nth i).f.vs) ∧ w.cell? ⟨g, i * 10 + 4, none⟩ = some (.int .i64 (fo.nth i).f.r1) ∧ w.cell? ⟨g, i * 10 + 5, none⟩ = some (.int .i64 (fo.nth i).f.r2) ∧ w.cell? ⟨g, i * 10 + 6, none⟩ = some (.int .i64 (fo.nth i).f.r3) ∧ w.cell? ⟨g, i * 10 + 7, none⟩ = some (.int .i64 (fo.nth i).f.r4) ∧ w.cell? ⟨g, i * 10 + 8, none⟩ = some (.string (fo.nth i).f.op) ∧ w.cell? ⟨g, i * 10 + 9, none⟩ = some (.slice A2 (fo.nth i).kids.len c2) := by
  obtain ⟨vs, hown, hr⟩ := h
  obtain ⟨g, cap, cur, rfl, hb, hg, -⟩ : ∃ g cap cur, v = .slice (some ⟨g, 0, none⟩) fo.len cap ∧ B ≤ g ∧ w.heap[g]? = some (.cells cur 31 (0, 0)) ∧ True := by
    rcases hown.2 with ⟨-, h0⟩ | ⟨g, cap, cur, e, hb, hg, -⟩
    · omega
    · exact ⟨g, cap, cur, e, hb, hg, trivial⟩
  obtain ⟨A2, c2, hk, hc⟩ := RowV.nth fo vs i hr hi
  have hcell : ∀ (j : Nat) (u : Value), (nodeV (fo.nth i).f A2 (fo.nth i).kids.len c2).cells[j]? = some u → w.cell? ⟨g, i * 10 + j, none⟩ = some u := fun j u hj => by
    have := World.ownsRow.cells hown (g := g) rfl _ _ (hc j u hj)
    rwa [addr_add0] at this
  exact ⟨g, cap, A2, c2, rfl, hb, (Array.getElem?_eq_some_iff.1 hg).1, hk, hcell 0 _ rfl, hcell 1 _ rfl, hcell 2 _ rfl, hcell 3 _ rfl, hcell 4 _ rfl, hcell 5 _ rfl, hcell 6 _ rfl, hcell 7 _ rfl, hcell 8 _ rfl, hcell 9 _ rfl⟩
theorem QS.one {w : World} {B g m c : Nat} {f : Fld} {A : Option Addr} {kd : Fo} (hb : w.heap[g]? = some (.cells #[.int .i64 f.k, .int .i64 f.vk, .int .i64 f.vn, .string f.vs, .int .i64 f.r1, .int .i64 f.r2, .int .i64 f.r3, .int .i64 f.r4, .string f.op, .slice A m c] 31 (0, 0))) (hB : B ≤ g) (hm : kd.len = m) (hk : KidsAt w (fun g => g < B) kd A) : QS w B (.slice (some ⟨g, 0, none⟩) 1 1) (Nd.one ⟨f, kd⟩) := by
  subst hm
  exact ⟨[nodeV f A kd.len c], ⟨rfl, Or.inr ⟨g, 1, _, rfl, hB, hb, Nat.le_refl _, by decide, rfl, rfl⟩⟩, ⟨A, c, rfl, hk⟩, trivial⟩
theorem QS.more {w w' : World} {B : Nat} {v v' : Value} {fo kd : Fo} {vs ws : List Value} (hv : RowV w (fun g => g < B) fo vs) (hw : RowV w (fun g => g < B) kd ws) (ho : w'.ownsRow B 31 10 v' (fo.len + kd.len) (ncells vs ++ ncells ws)) (hg : w.grownBy w' v.ownBlock) (hlt : ∀ k, v.ownBlock = some k → B ≤ k ∧ k < w.heap.size) : QS w' B v' (fo.app kd) := by
  refine ⟨vs ++ ws, by rw [ncells_app, Fo.len_app]; exact ho, RowV.same (fun g hg2 hl => ⟨hg.block g hl (fun e => by have := (hlt g e.symm).1; omega), hg2⟩) _ _ (RowV.app hw fo vs hv)⟩
theorem below_grown {w wr w' : World} {B : Nat} {row : Option Nat} (h : Below B w wr) (hB : B ≤ wr.heap.size) (hg : wr.grownBy w' row) (hr : ∀ k, row = some k → B ≤ k) : Below B w w' :=
  ⟨hg.os.trans h.os, hg.tape.trans h.tape, hg.output.trans h.output, Nat.le_trans h.size hg.size, fun k hk => (hg.block k (by omega) (fun e => by have := hr k e.symm; omega)).trans (h.block k hk)⟩
theorem kids_below {w wr : World} {B : Nat} {kd : Fo} {A : Option Addr} (h : KidsAt w (fun g => g < B) kd A) (hb : Below B w wr) (hB : B ≤ w.heap.size) : KidsAt wr (fun g => g < B) kd A := by
  rcases h with h | ⟨g, o, e, hr⟩
  · exact Or.inl h
  · exact Or.inr ⟨g, o, e, RowAt.same (fun g hg hl => ⟨hb.block g hg, hg⟩) _ _ _ hr⟩
theorem kids_row {w : World} {P : Nat → Prop} {kd : Fo} {A : Option Addr} (h : KidsAt w P kd A) {i : Nat} (hi : i < kd.len) : ∃ g o, A = some ⟨g, o, none⟩ ∧ RowAt w P kd g o := by
  rcases h with h | h
  · rw [h] at hi; exact absurd hi (by simp [Fo.len])
  · exact h
/-- Where the count stands: at the k-th node of the queue; all that is to come is in it, or it is too long already. -/
def NMode (q : Fo) (k s M : Nat) : Prop := k ≤ q.len ∧ q.len ≤ M + 2 ∧ q.len ≤ s ∧ (k + (q.drop k).size = s ∨ M + 2 ≤ q.len)
/-- .. and behind so many Args of that node. -/
def NIn (q kd : Fo) (b : Nd) (k i s M : Nat) : Prop := k < q.len ∧ q.len ≤ M + 2 ∧ q.len ≤ s ∧ q.nth k = b ∧ b.kids = kd ∧ ((k + 1) + ((q.app (kd.drop i)).drop (k + 1)).size = s ∨ M + 2 ≤ q.len)
theorem NMode.start {q : Fo} {k s M : Nat} (h : NMode q k s M) (hk : k < q.len) : NIn q (q.nth k).kids (q.nth k) k 0 s M := by
  obtain ⟨h1, h2, h3, h4⟩ := h
  refine ⟨hk, h2, h3, rfl, rfl, ?_⟩
  rcases h4 with h4 | h4
  · exact Or.inl (by rw [Fo.drop_zero]; exact Fo.queue_size q k s hk h4)
  · exact Or.inr h4
theorem NIn.step {q kd : Fo} {b : Nd} {k i s M : Nat} (h : NIn q kd b k i s M) (hi : i < kd.len) (hq : q.len ≤ M + 1) : NIn (q.app (kd.nth i).one) kd b k (i + 1) s M := by
  obtain ⟨h1, h2, h3, h4, h5, h6⟩ := h
  have h7 : (k + 1) + ((q.app (kd.drop i)).drop (k + 1)).size = s := by
    rcases h6 with h6 | h6
    · exact h6
    · omega
  have hl : (kd.drop i).len = kd.len - i := Fo.len_drop kd i
  have hl2 := Fo.len_size ((q.app (kd.drop i)).drop (k + 1))
  rw [Fo.len_drop, Fo.len_app, hl] at hl2
  refine ⟨by rw [Fo.len_app]; omega, by rw [Fo.len_app, Nd.one_len]; omega, by rw [Fo.len_app, Nd.one_len]; omega, by rw [Fo.nth_app _ _ _ h1]; exact h4, h5, Or.inl ?_⟩
  rw [Fo.app_assoc]
  have e : (kd.nth i).one.app (kd.drop (i + 1)) = kd.drop i := by rw [Fo.drop_nth kd i hi]; rfl
  rw [e]; exact h7
theorem NIn.done {q kd : Fo} {b : Nd} {k i s M : Nat} (h : NIn q kd b k i s M) (hi : kd.len ≤ i ∨ M + 2 ≤ q.len) : NMode q (k + 1) s M := by
  obtain ⟨h1, h2, h3, h4, h5, h6⟩ := h
  refine ⟨h1, h2, h3, ?_⟩
  rcases hi with hi | hi
  · rcases h6 with h6 | h6
    · rw [Fo.drop_len kd i hi, Fo.app_nil] at h6; exact Or.inl h6
    · exact Or.inr h6
  · exact Or.inr hi
/-- What the count tells. -/
def NPost (s M : Nat) (w : World) (e : Ending) (w' : World) : Prop := ∃ r : Nat, e = .returned (.int .i64 r) ∧ Below w.heap.size w w' ∧ (s ≤ M → r = s) ∧ (M < s → M < r) ∧ r ≤ M + 1
theorem NMode.end1 {q : Fo} {k s M : Nat} (h : NMode q k s M) (hk : q.len ≤ k) (h1 : k ≤ M + 1) : (s ≤ M → k = s) ∧ (M < s → M < k) ∧ k ≤ M + 1 := by
  obtain ⟨h2, h3, h4, h5⟩ := h
  have : k = s := by
    rcases h5 with h5 | h5
    · rw [Fo.drop_len q k hk] at h5; simpa [Fo.size] using h5
    · omega
  omega
theorem NMode.end2 {q : Fo} {k s M : Nat} (h : NMode q k s M) (hk : M < k) (h1 : k ≤ M + 1) : (s ≤ M → k = s) ∧ (M < s → M < k) ∧ k ≤ M + 1 := by
  obtain ⟨h2, h3, h4, h5⟩ := h
  omega
set_option maxRecDepth 100000 in
set_option maxHeartbeats 2000000 in
theorem knodes (M : Nat) (m : Int) (hm : m = (M : Int)) (hM : M ≤ 100000) (a : Nd) (A : Option Addr) (c : Nat) (w : World) (hK : KidsAt w (fun g => g < w.heap.size) a.kids A) :
    Calls Tryz.prog 27 #[.agg #[.int .i64 a.f.k, .int .i64 a.f.vk, .int .i64 a.f.vn, .string a.f.vs, .int .i64 a.f.r1, .int .i64 a.f.r2, .int .i64 a.f.r3, .int .i64 a.f.r4, .string a.f.op, .slice A a.kids.len c], .int .i64 m] w (NPost a.size M w) := by
  subst hm
  have b1 : Below w.heap.size w (w.alloc (.cells #[.int .i64 a.f.k, .int .i64 a.f.vk, .int .i64 a.f.vn, .string a.f.vs, .int .i64 a.f.r1, .int .i64 a.f.r2, .int .i64 a.f.r3, .int .i64 a.f.r4, .string a.f.op, .slice A a.kids.len c] 31)) := (Below.refl _ _).alloc (Nat.le_refl _) _
  have b2 : Below w.heap.size w ((w.alloc (.cells #[.int .i64 a.f.k, .int .i64 a.f.vk, .int .i64 a.f.vn, .string a.f.vs, .int .i64 a.f.r1, .int .i64 a.f.r2, .int .i64 a.f.r3, .int .i64 a.f.r4, .string a.f.op, .slice A a.kids.len c] 31)).alloc (.cells #[.int .i64 a.f.k, .int .i64 a.f.vk, .int .i64 a.f.vn, .string a.f.vs, .int .i64 a.f.r1, .int .i64 a.f.r2, .int .i64 a.f.r3, .int .i64 a.f.r4, .string a.f.op, .slice A a.kids.len c] 31)) := b1.alloc b1.size _
  have hq : QS ((w.alloc (.cells #[.int .i64 a.f.k, .int .i64 a.f.vk, .int .i64 a.f.vn, .string a.f.vs, .int .i64 a.f.r1, .int .i64 a.f.r2, .int .i64 a.f.r3, .int .i64 a.f.r4, .string a.f.op, .slice A a.kids.len c] 31)).alloc (.cells #[.int .i64 a.f.k, .int .i64 a.f.vk, .int .i64 a.f.vn, .string a.f.vs, .int .i64 a.f.r1, .int .i64 a.f.r2, .int .i64 a.f.r3, .int .i64 a.f.r4, .string a.f.op, .slice A a.kids.len c] 31)) w.heap.size (.slice (some ⟨w.heap.size + 1, 0, none⟩) 1 1) a.one :=
    QS.one (f := a.f) (kd := a.kids) (c := c) (row_at2 _ _ _ rfl) (by omega) rfl (kids_below hK b2 (Nat.le_refl _))
  have hm0 : NMode a.one 0 a.size M := by
    have e : 0 + (a.one.drop 0).size = a.size := by rw [Nat.zero_add, Fo.drop_zero, Nd.one_size]
    have e1 : 1 ≤ a.size := by unfold Nd.size; omega
    exact ⟨Nat.zero_le _, by rw [Nd.one_len]; omega, by rw [Nd.one_len]; exact e1, Or.inl e⟩
  have HS := Lib.hid (show QS ((w.alloc (.cells #[.int .i64 a.f.k, .int .i64 a.f.vk, .int .i64 a.f.vn, .string a.f.vs, .int .i64 a.f.r1, .int .i64 a.f.r2, .int .i64 a.f.r3, .int .i64 a.f.r4, .string a.f.op, .slice A a.kids.len c] 31)).alloc (.cells #[.int .i64 a.f.k, .int .i64 a.f.vk, .int .i64 a.f.vn, .string a.f.vs, .int .i64 a.f.r1, .int .i64 a.f.r2, .int .i64 a.f.r3, .int .i64 a.f.r4, .string a.f.op, .slice A a.kids.len c] 31)) w.heap.size (.slice (some ⟨w.heap.size + 1, 0, none⟩) 1 1) a.one ∧ Below w.heap.size w ((w.alloc (.cells #[.int .i64 a.f.k, .int .i64 a.f.vk, .int .i64 a.f.vn, .string a.f.vs, .int .i64 a.f.r1, .int .i64 a.f.r2, .int .i64 a.f.r3, .int .i64 a.f.r4, .string a.f.op, .slice A a.kids.len c] 31)).alloc (.cells #[.int .i64 a.f.k, .int .i64 a.f.vk, .int .i64 a.f.vn, .string a.f.vs, .int .i64 a.f.r1, .int .i64 a.f.r2, .int .i64 a.f.r3, .int .i64 a.f.r4, .string a.f.op, .slice A a.kids.len c] 31)) ∧ NMode a.one 0 a.size M from ⟨hq, b2, hm0⟩)
  generalize hs : a.size = s at *
  obtain ⟨i0, hi0, hz0, hz1, hz2⟩ := info_parts node_info
  have HZ0 := Lib.hid hz0; have HZ1 := Lib.hid hz1; have HZ2 := Lib.hid hz2; have HI0 := Lib.hid hi0
  clear hz0 hz1 hz2 hi0 b1 b2 hq hm0 hs hK
  have hM0 : (0 : Int) ≤ (M : Int) := Int.natCast_nonneg _
  go_enter Tryz.func27, Tryz.ntmps27
  go_wp2_with fail
  go_loopw [5, 6] (fun v iv wr => ∃ k : Nat, k ≤ M + 1 ∧ iv = .int .i64 k ∧ Hid (∃ q, QS wr w.heap.size v q ∧ Below w.heap.size w wr ∧ NMode q k s M)) (fun _ iv _ => M + 1 - (intOf iv).toNat)
  case atStart => exact ⟨0, Nat.zero_le _, rfl, Lib.hid ⟨_, HS.out.1, HS.out.2.1, HS.out.2.2⟩⟩
  case round =>
    obtain ⟨k, hk, rfl, HR⟩ := hrel
    obtain ⟨q, hQ, hB, hN⟩ := HR.out
    have hql : q.len ≤ 200000 := by have := hN.2.1; omega
    by_cases hlt : k < q.len
    · by_cases hkm : k ≤ M
      · obtain ⟨g, c9, A2, c2, rfl, hg0, hg1, hkid, f0, f1, f2, f3, f4, f5, f6, f7, f8, f9⟩ := hQ.nth k hlt
        have HIN := Lib.hid (hN.start hlt)
        have HQ := Lib.hid (show QS wr w.heap.size _ q ∧ Below w.heap.size w wr from ⟨hQ, hB⟩)
        clear HR HS hQ hB hN hkid f0 f1 f2 f3 f4 f5 f6 f7 f8 f9 hg0 hg1
        go_wp2_with fail
        go_loopw [5, 7] (fun v iv W9 => ∃ i : Nat, iv = .int .i64 i ∧ Hid (∃ q' : Fo, i ≤ q'.len ∧ QS W9 w.heap.size v q' ∧ Below w.heap.size w W9 ∧ NIn q' (q.nth k).kids (q.nth k) k i s M)) (fun v iv _ => (q.nth k).kids.len - (intOf iv).toNat)
        case atStart => exact ⟨0, rfl, Lib.hid ⟨q, Nat.zero_le _, HQ.out.1, HQ.out.2, HIN.out⟩⟩
        case round =>
          obtain ⟨i, rfl, HR⟩ := hrel
          obtain ⟨q', hi, hQ, hB, hN⟩ := HR.out
          clear HR HQ HIN
          have hlt' := hN.1
          have hql' : q'.len ≤ 200000 := by have := hN.2.1; omega
          obtain ⟨g', c9', A2', c2', rfl, hg0, hg1, hkid, f0, f1, f2, f3, f4, f5, f6, f7, f8, f9⟩ := hQ.nth k hlt'
          rw [hN.2.2.2.1] at hkid f9
          generalize q.nth k = b at *
          generalize hkd : b.kids = kd at *
          clear f0 f1 f2 f3 f4 f5 f6 f7 f8
          have HN := Lib.hid hN
          have HKD := Lib.hid hkd
          clear hN hkd
          by_cases hik : i < kd.len
          · by_cases hql2 : q'.len ≤ M + 1
            · obtain ⟨gA, oA, rfl, hrow⟩ := kids_row hkid hik
              obtain ⟨A3, c3, hk3, hp3, h0, h1, h2, h3, h4, h5, h6, h7, h8, h9⟩ := RowAt.nth kd gA oA i hrow hik
              have hsz : w.heap.size ≤ wr.heap.size := hB.size
              have bI : Below wr.heap.size wr (wr.alloc (.cells #[.int .i64 (kd.nth i).f.k, .int .i64 (kd.nth i).f.vk, .int .i64 (kd.nth i).f.vn, .string (kd.nth i).f.vs, .int .i64 (kd.nth i).f.r1, .int .i64 (kd.nth i).f.r2, .int .i64 (kd.nth i).f.r3, .int .i64 (kd.nth i).f.r4, .string (kd.nth i).f.op, .slice A3 (kd.nth i).kids.len c3] 31)) := (Below.refl _ _).alloc (Nat.le_refl _) _
              have hB2 := hB.trans (bI.mono hB.size)
              have hk4 : KidsAt (wr.alloc (.cells #[.int .i64 (kd.nth i).f.k, .int .i64 (kd.nth i).f.vk, .int .i64 (kd.nth i).f.vn, .string (kd.nth i).f.vs, .int .i64 (kd.nth i).f.r1, .int .i64 (kd.nth i).f.r2, .int .i64 (kd.nth i).f.r3, .int .i64 (kd.nth i).f.r4, .string (kd.nth i).f.op, .slice A3 (kd.nth i).kids.len c3] 31)) (fun g => g < w.heap.size) (kd.nth i).kids A3 := kids_below hk3 (bI.mono hB.size) hB.size
              have hlo := hQ.lt
              obtain ⟨vs, hown, hvs⟩ := hQ.below bI
              have hnb := heap_alloc_new wr (.cells #[.int .i64 (kd.nth i).f.k, .int .i64 (kd.nth i).f.vk, .int .i64 (kd.nth i).f.vn, .string (kd.nth i).f.vs, .int .i64 (kd.nth i).f.r1, .int .i64 (kd.nth i).f.r2, .int .i64 (kd.nth i).f.r3, .int .i64 (kd.nth i).f.r4, .string (kd.nth i).f.op, .slice A3 (kd.nth i).kids.len c3] 31)
              have HH := Lib.hid hown
              have HNB := Lib.hid hnb
              have HREST := Lib.hid (show RowV (wr.alloc (.cells #[.int .i64 (kd.nth i).f.k, .int .i64 (kd.nth i).f.vk, .int .i64 (kd.nth i).f.vn, .string (kd.nth i).f.vs, .int .i64 (kd.nth i).f.r1, .int .i64 (kd.nth i).f.r2, .int .i64 (kd.nth i).f.r3, .int .i64 (kd.nth i).f.r4, .string (kd.nth i).f.op, .slice A3 (kd.nth i).kids.len c3] 31)) (fun g => g < w.heap.size) q' vs ∧ KidsAt (wr.alloc (.cells #[.int .i64 (kd.nth i).f.k, .int .i64 (kd.nth i).f.vk, .int .i64 (kd.nth i).f.vn, .string (kd.nth i).f.vs, .int .i64 (kd.nth i).f.r1, .int .i64 (kd.nth i).f.r2, .int .i64 (kd.nth i).f.r3, .int .i64 (kd.nth i).f.r4, .string (kd.nth i).f.op, .slice A3 (kd.nth i).kids.len c3] 31)) (fun g => g < w.heap.size) (kd.nth i).kids A3 ∧ Below w.heap.size w (wr.alloc (.cells #[.int .i64 (kd.nth i).f.k, .int .i64 (kd.nth i).f.vk, .int .i64 (kd.nth i).f.vn, .string (kd.nth i).f.vs, .int .i64 (kd.nth i).f.r1, .int .i64 (kd.nth i).f.r2, .int .i64 (kd.nth i).f.r3, .int .i64 (kd.nth i).f.r4, .string (kd.nth i).f.op, .slice A3 (kd.nth i).kids.len c3] 31)) from ⟨hvs, hk4, hB2⟩)
              have s8 : w.heap.size ≤ (wr.alloc (.cells #[.int .i64 (kd.nth i).f.k, .int .i64 (kd.nth i).f.vk, .int .i64 (kd.nth i).f.vn, .string (kd.nth i).f.vs, .int .i64 (kd.nth i).f.r1, .int .i64 (kd.nth i).f.r2, .int .i64 (kd.nth i).f.r3, .int .i64 (kd.nth i).f.r4, .string (kd.nth i).f.op, .slice A3 (kd.nth i).kids.len c3] 31)).heap.size := hB2.size
              have HST := Lib.hid (HN.out.step hik hql2)
              clear hQ hB hkid hrow hk3 bI hB2 hk4 hown hvs hnb
              go_wp2_with (at_builtin
                           refine wpList_append_own_at _ rfl (.tmp 36) (.tmp 45) _ rfl w.heap.size 31 i0 _ 10 112 Tryz.underlying29 HI0.out HZ0.out HZ1.out HZ2.out rfl (by omega) (.slice (some ⟨g', 0, none⟩) q'.len c9') q'.len (ncells vs) rfl HH.out ⟨wr.heap.size, 0, none⟩ 1 1 [.int .i64 (kd.nth i).f.k, .int .i64 (kd.nth i).f.vk, .int .i64 (kd.nth i).f.vn, .string (kd.nth i).f.vs, .int .i64 (kd.nth i).f.r1, .int .i64 (kd.nth i).f.r2, .int .i64 (kd.nth i).f.r3, .int .i64 (kd.nth i).f.r4, .string (kd.nth i).f.op, .slice A3 (kd.nth i).kids.len c3] rfl rfl (World.news_of_block HNB.out) (by simp [Value.oneCell']) (by unfold maxLen; omega) (by omega) s8 ?_
                           intro v9 w9 hown9 hg9 hnil9 hat9
                           have Q9 : QS w9 w.heap.size v9 (q'.app (kd.nth i).one) := QS.more (kd := (kd.nth i).one) (ws := [nodeV (kd.nth i).f A3 (kd.nth i).kids.len c3]) HREST.out.1 ⟨⟨A3, c3, rfl, HREST.out.2.1⟩, trivial⟩ hown9 hg9 (fun x hx => by have := hlo x hx; exact ⟨this.1, Nat.lt_of_lt_of_le this.2 (by simp)⟩)
                           have B9 : Below w.heap.size w w9 := below_grown HREST.out.2.2 s8 hg9 (fun x hx => (hlo x hx).1)
                           clear hown9 hg9 hnil9 hat9)
              go_roundw
              case rel => exact ⟨i + 1, by go_num, Lib.hid ⟨_, by rw [Fo.len_app, Nd.one_len]; omega, Q9, B9, HST.out⟩⟩
              case measure => simp [intOf]; omega
            · have hov : M + 2 ≤ q'.len := by omega
              have HD := Lib.hid (HN.out.done (Or.inr hov))
              clear hkid
              go_wp2_with fail
              go_roundw
              case rel => exact ⟨k + 1, by omega, by go_num, Lib.hid ⟨q', hQ, hB, HD.out⟩⟩
              case measure => simp [intOf]; omega
          · have HD := Lib.hid (HN.out.done (Or.inl (by omega)))
            clear hkid
            go_wp2_with fail
            go_roundw
            case rel => exact ⟨k + 1, by omega, by go_num, Lib.hid ⟨q', hQ, hB, HD.out⟩⟩
            case measure => simp [intOf]; omega
      · obtain ⟨A, c, rfl⟩ := hQ.form
        have HE := Lib.hid (hN.end2 (by omega) hk)
        have hB9 := hB
        clear hQ HR HS hN
        go_wp2_with fail
        go_ret
        exact ⟨k, rfl, hB9, HE.out⟩
    · obtain ⟨A, c, rfl⟩ := hQ.form
      have HE := Lib.hid (hN.end1 (by omega) hk)
      have hB9 := hB
      clear hQ HR HS hN
      go_wp2_with fail
      go_ret
      exact ⟨k, rfl, hB9, HE.out⟩

end Go.Proofs.YtkdgiadpmfpjnaaGreatDoor.TreeC
