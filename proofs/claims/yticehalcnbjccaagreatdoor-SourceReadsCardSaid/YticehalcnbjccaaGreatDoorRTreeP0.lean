/-
  Contracts of tree's code: the tokens ahead.
-/
import Derived.Test.YticehalcnbjccaaGreatDoorRAddrA
import Derived.Test.YticehalcnbjccaaGreatDoorRLexF
import Derived.Test.YticehalcnbjccaaGreatDoorRNumG
import Derived.Test.YticehalcnbjccaaGreatDoorRNumD
import Derived.Orders
namespace Go.Proofs.YticehalcnbjccaaGreatDoor.TreeC
set_option maxRecDepth 100000
set_option maxHeartbeats 8000000
set_option linter.unusedVariables false
open Go.RowKit NumC LexC
open Cd
open Tryz
open Lib (hid)
def tokV : Option Tok → Value
 | none => .agg jTZ
 | some t => .agg (jT t)
theorem Kept.under {x y : Nat} {w w' : World} (h : Kept y w w') (hx : x ≤ y) (hw : x ≤ w.heap.size) : Below x w w' := ⟨h.os, h.tape, h.output, h.size, fun k hk => h.block k (by omega) (by omega)⟩
structure Pc (w : World) (x : Nat) (l : List Tok) (en : Int) (k : Nat) (nest : Int) : Prop where
 le : k ≤ l.length
 lib : ∀ w', Below x w w' → LibIs w'
 ex : ∃ A c, w.heap[x]? = some (.cells #[.slice A (l.length - k) c, .int .i64 en, .int .i64 nest] 130 (0, 0)) ∧ l.length - k ≤ c ∧
   ∀ i (h : i < l.length), k ≤ i → ∃ g, A = some ⟨g, k * 4, none⟩ ∧ g < x ∧
     w.cell? ⟨g, i * 4, none⟩ = some (.int .i64 l[i].k) ∧ w.cell? ⟨g, i * 4 + 1, none⟩ = some (.int .i64 l[i].n) ∧ w.cell? ⟨g, i * 4 + 2, none⟩ = some (.string l[i].s) ∧ w.cell? ⟨g, i * 4 + 3, none⟩ = some (.int .i64 l[i].at_)
theorem Pc.lt {w : World} {x k : Nat} {l : List Tok} {en nest : Int} (h : Pc w x l en k nest) : x < w.heap.size := by
 obtain ⟨A, c, h1, -⟩ := h.ex
 exact (Array.getElem?_eq_some_iff.1 h1).1
theorem Pc.kept {w w' : World} {x y k : Nat} {l : List Tok} {en nest : Int} (h : Pc w x l en k nest) (hk : Kept y w w') (hy : x < y) : Pc w' x l en k nest := by
 have hx := h.lt
 obtain ⟨A, c, h1, h2, h3⟩ := h.ex
 refine ⟨h.le, fun w2 hb => h.lib w2 ((hk.under (by omega) (by omega)).trans hb), A, c, (hk.block x hx (by omega)).trans h1, h2, fun i hi hk' => ?_⟩
 obtain ⟨g, e, hg, f0, f1, f2, f3⟩ := h3 i hi hk'
 have hgy : g ≠ y := by omega
 exact ⟨g, e, hg, hk.cell hgy f0, hk.cell hgy f1, hk.cell hgy f2, hk.cell hgy f3⟩
theorem Pc.below {w w' : World} {x k : Nat} {l : List Tok} {en nest : Int} (h : Pc w x l en k nest) (hb : Below w.heap.size w w') : Pc w' x l en k nest := h.kept (Kept.of (x := w.heap.size) hb) h.lt
theorem Pc.drew {w : World} {x k : Nat} {l : List Tok} {en nest : Int} (h : Pc w x l en k nest) (n : Nat) : Pc (w.drewN n) x l en k nest := ⟨h.le, fun w2 hb => h.lib w2 ⟨hb.os, hb.tape, hb.output, hb.size, hb.block⟩, h.ex⟩
theorem Pc.libs {w : World} {x k : Nat} {l : List Tok} {en nest : Int} (h : Pc w x l en k nest) : LibIs w := h.lib w (Below.refl _ _)
theorem Pc.alloc {w : World} {x k : Nat} {l : List Tok} {en nest : Int} (h : Pc w x l en k nest) (o : Obj) : Pc (w.alloc o) x l en k nest := h.below ((Below.refl _ _).alloc (Nat.le_refl _) o)
theorem Pc.setN {w : World} {x k : Nat} {l : List Tok} {en nest : Int} (h : Pc w x l en k nest) (n' : Int) : Pc (w.setCell ⟨x, 2, none⟩ (.int .i64 n')) x l en k n' := by
 have hxw := h.lt
 obtain ⟨A, c, h1, h2, h3⟩ := h.ex
 refine ⟨h.le, fun w2 hb => h.lib w2 ((((Kept.refl x w).setCell 2 (.int .i64 n')).under (Nat.le_refl _) (by omega)).trans hb), A, c, by simp [World.setCell, Array.getElem?_modify, h1], h2, fun i hi hk' => ?_⟩
 obtain ⟨g, e, hg, f0, f1, f2, f3⟩ := h3 i hi hk'
 have K := (Kept.refl x w).setCell 2 (.int .i64 n')
 have hgx : g ≠ x := by omega
 exact ⟨g, e, hg, K.cell hgx f0, K.cell hgx f1, K.cell hgx f2, K.cell hgx f3⟩
theorem Pc.setT {w : World} {x k : Nat} {l : List Tok} {en nest : Int} (h : Pc w x l en k nest) (hlt : k < l.length) (A' : Option Addr) (c' n' : Nat) (hn : n' = l.length - (k + 1)) (hc : l.length - (k + 1) ≤ c')
   (hA : ∀ g c, w.cell? ⟨x, 0, none⟩ = some (.slice (some ⟨g, k * 4, none⟩) (l.length - k) c) → k + 1 < l.length → A' = some ⟨g, (k + 1) * 4, none⟩) :
   Pc (w.setCell ⟨x, 0, none⟩ (.slice A' n' c')) x l en (k + 1) nest := by
 have hxw := h.lt
 obtain ⟨A, c, h1, h2, h3⟩ := h.ex
 subst hn
 refine ⟨hlt, fun w2 hb => h.lib w2 ((((Kept.refl x w).setCell 0 (.slice A' (l.length - (k + 1)) c')).under (Nat.le_refl _) (by omega)).trans hb), A', c', by simp [World.setCell, Array.getElem?_modify, h1], hc, fun i hi hk' => ?_⟩
 obtain ⟨g, e, hg, f0, f1, f2, f3⟩ := h3 i hi (by omega)
 subst e
 have K := (Kept.refl x w).setCell 0 (.slice A' (l.length - (k + 1)) c')
 have hgx : g ≠ x := by omega
 exact ⟨g, hA g c (by simp [World.cell?, h1]) (by omega), hg, K.cell hgx f0, K.cell hgx f1, K.cell hgx f2, K.cell hgx f3⟩
theorem cahead0 {x k : Nat} {l : List Tok} {en nest : Int} (w : World) (h : Pc w x l en k nest) (hl : l.length ≤ 300) :
   Calls prog 152 #[.pointer (some ⟨x, 0, none⟩), .int .i64 0] w fun e w' => e = .returned (tokV l[k]?) ∧ Below w.heap.size w w' := by
 have hx := h.lt
 have hle := h.le
 obtain ⟨A, c, h1, h2, h3⟩ := h.ex
 have q0 : w.cell? ⟨x, 0, none⟩ = some (.slice A (l.length - k) c) := by simp [World.cell?, h1]
 have H3 := hid h3
 clear h3 h1 h
 by_cases hlt : k < l.length
 · obtain ⟨g, rfl, hg, f0, f1, f2, f3⟩ := H3.out (k) hlt (by omega)
   clear H3
   have hm : ¬ (l.length - k = 0) := by omega
   have hgw : g < w.heap.size := by omega
   rw [List.getElem?_eq_getElem hlt]
   generalize l[k] = t at *
   generalize l.length - k = m at *
   go_enter func152, ntmps152
   go_wp2_with fail
   refine bodyPost_ret (v := .agg (jT t)) (by simp [results, results152, go_sem]) rfl ⟨rfl, (Below.refl _ _).alloc (Nat.le_refl _) _⟩
 · rw [List.getElem?_eq_none (by omega)]
   have hm : l.length - k = 0 := by omega
   clear H3
   generalize l.length - k = m at *
   go_enter func152, ntmps152
   go_wp2_with fail
   refine bodyPost_ret (v := .agg jTZ) (by simp [results, results152, go_sem]) rfl ⟨rfl, (Below.refl _ _).alloc (Nat.le_refl _) _⟩
theorem cahead1 {x k : Nat} {l : List Tok} {en nest : Int} (w : World) (h : Pc w x l en k nest) (hl : l.length ≤ 300) :
   Calls prog 152 #[.pointer (some ⟨x, 0, none⟩), .int .i64 1] w fun e w' => e = .returned (tokV l[k + 1]?) ∧ Below w.heap.size w w' := by
 have hx := h.lt
 have hle := h.le
 obtain ⟨A, c, h1, h2, h3⟩ := h.ex
 have q0 : w.cell? ⟨x, 0, none⟩ = some (.slice A (l.length - k) c) := by simp [World.cell?, h1]
 have H3 := hid h3
 clear h3 h1 h
 by_cases hlt : k + 1 < l.length
 · obtain ⟨g, rfl, hg, f0, f1, f2, f3⟩ := H3.out (k + 1) hlt (by omega)
   clear H3
   have hm : ¬ (l.length - k ≤ 1) := by omega
   have hm2 : 1 < l.length - k := by omega
   rw [show (k + 1) * 4 = k * 4 + 4 from by omega] at f0 f1 f2 f3
   have hgw : g < w.heap.size := by omega
   rw [List.getElem?_eq_getElem hlt]
   generalize l[k + 1] = t at *
   generalize l.length - k = m at *
   go_enter func152, ntmps152
   go_wp2_with fail
   refine bodyPost_ret (v := .agg (jT t)) (by simp [results, results152, go_sem]) rfl ⟨rfl, (Below.refl _ _).alloc (Nat.le_refl _) _⟩
 · rw [List.getElem?_eq_none (by omega)]
   have hm : l.length - k ≤ 1 := by omega
   clear H3
   generalize l.length - k = m at *
   go_enter func152, ntmps152
   go_wp2_with fail
   refine bodyPost_ret (v := .agg jTZ) (by simp [results, results152, go_sem]) rfl ⟨rfl, (Below.refl _ _).alloc (Nat.le_refl _) _⟩
theorem ctake {x k : Nat} {l : List Tok} {en nest : Int} (w : World) (h : Pc w x l en k nest) (hlt : k < l.length) :
   Calls prog 153 #[.pointer (some ⟨x, 0, none⟩)] w fun e w' => e = .returned (.tuple #[]) ∧ Pc w' x l en (k + 1) nest ∧ Kept x w w' := by
 have hx := h.lt
 obtain ⟨A, c, h1, h2, h3⟩ := h.ex
 have q0 : w.cell? ⟨x, 0, none⟩ = some (.slice A (l.length - k) c) := by simp [World.cell?, h1]
 have q1 : w.frozen? ⟨x, 0, none⟩ = false := by simp [World.frozen?, h1]
 obtain ⟨g, rfl, -⟩ := h3 k hlt (Nat.le_refl _)
 have H := hid h
 clear h3 h1 h
 have hm : 1 ≤ l.length - k := by omega
 have hn : Hid (l.length - (k + 1) = l.length - k - 1) := hid (by omega)
 have hc : Hid (l.length - (k + 1) ≤ c - 1) := hid (by omega)
 have HLT := hid hlt
 clear hlt
 generalize hM : l.length - k = m at *
 have HM := hid hM
 clear hM
 rcases Nat.lt_or_ge c 2 with h | h
 · obtain rfl : c = 1 := by omega
   go_enter func153, ntmps153
   go_wp2_with fail
   refine bodyPost_end (v := .tuple #[]) (by simp [results, results153, go_sem]) rfl ⟨rfl, ?_, (Kept.refl _ _).setCell _ _⟩
   exact H.out.setT HLT.out _ _ _ (by rw [hn.out]; omega) hc.out (fun g2 c2 e h3 => by have := HM.out; omega)
 · have hc1 : ¬ c = 1 := by omega
   go_enter func153, ntmps153
   go_wp2_with fail
   refine bodyPost_end (v := .tuple #[]) (by simp [results, results153, go_sem]) rfl ⟨rfl, ?_, (Kept.refl _ _).setCell _ _⟩
   refine H.out.setT HLT.out _ _ _ (by rw [hn.out]) hc.out (fun g2 c2 e h3 => ?_)
   rw [q0] at e
   injection e with e; injection e with e; injection e with e; injection e with e
   rw [e, Nat.succ_mul]
theorem list_ne {a b : ByteArray} (h : ¬ a = b) : ¬ a.toList = b.toList := fun e => h (ByteArray.ext (Array.toList_inj.1 (by rw [Lib.toList_data, Lib.toList_data] at e; exact e)))
theorem text_ne {s : ByteArray} {b : List UInt8} (h : ¬ s = str b) : (s.toList == b) = false := beq_eq_false_iff_ne.2 fun e => h (ByteArray.ext (Array.toList_inj.1 (by rw [Lib.toList_data] at e; exact e)))
def tokSign (o : Option Tok) (s : ByteArray) : Bool := match o with
 | some t => decide (t.k = 4) && decide (t.s = s)
 | none => false
theorem cisSign (o : Option Tok) (s : ByteArray) (w : World) :
   Calls prog 214 #[tokV o, .string s] w fun e w' => e = .returned (.bool (tokSign o s)) ∧ Below w.heap.size w w' := by
 cases o with
 | none =>
   unfold tokV
   go_enter func214, ntmps214
   go_wp2_with fail
   go_ret
   exact ⟨rfl, (Below.refl _ _).alloc (Nat.le_refl _) _⟩
 | some t =>
   obtain ⟨k, n, s2, a⟩ := t
   unfold tokV tokSign
   simp only
   by_cases h1 : k = 4
   · by_cases h2 : s2 = s
     · subst h1 h2
       go_enter func214, ntmps214
       go_wp2_with fail
       go_ret
       exact ⟨by simp, (Below.refl _ _).alloc (Nat.le_refl _) _⟩
     · have d2 : decide (s2 = s) = false := decide_eq_false h2
       subst h1
       go_enter func214, ntmps214
       go_wp2_with fail
       go_ret
       exact ⟨by simp [h2, list_ne h2], (Below.refl _ _).alloc (Nat.le_refl _) _⟩
   · have d1 : decide (k = 4) = false := decide_eq_false h1
     go_enter func214, ntmps214
     go_wp2_with fail
     go_ret
     exact ⟨by simp [h1], (Below.refl _ _).alloc (Nat.le_refl _) _⟩
theorem cseesSign {x k : Nat} {l : List Tok} {en nest : Int} (s : List UInt8) (w : World) (h : Pc w x l en k nest) (hl : l.length ≤ 300) :
   Calls prog 204 #[.pointer (some ⟨x, 0, none⟩), .string (str s)] w fun e w' => e = .returned (.bool (isSign l k s)) ∧ Below w.heap.size w w' := by
 have H := hid (cahead0 w h hl)
 clear h
 have E : Hid (isSign l k s = tokSign l[k]? (str s)) := hid rfl
 go_enter func204, ntmps204
 go_wp2_with fail
 refine H.out.mono ?_; rintro e w1 ⟨rfl, hb⟩
 go_wp2_with fail
 refine (cisSign _ _ w1).mono ?_; rintro e w2 ⟨rfl, hb2⟩
 go_wp2_with fail
 go_ret
 exact ⟨by rw [E.out]; rfl, hb.trans (hb2.mono hb.size)⟩
theorem cisCall {x k : Nat} {l : List Tok} {en nest : Int} (w : World) (h : Pc w x l en k nest) (hl : l.length ≤ 300) :
   Calls prog 217 #[.pointer (some ⟨x, 0, none⟩)] w fun e w' => e = .returned (.bool (isSign l (k + 1) [40])) ∧ Below w.heap.size w w' := by
 have H := hid (cahead1 w h hl)
 clear h
 have E : Hid (isSign l (k + 1) [40] = tokSign l[k + 1]? { data := #[40] }) := hid rfl
 go_enter func217, ntmps217
 go_wp2_with fail
 refine H.out.mono ?_; rintro e w1 ⟨rfl, hb⟩
 go_wp2_with fail
 refine (cisSign _ _ w1).mono ?_; rintro e w2 ⟨rfl, hb2⟩
 go_wp2_with fail
 go_ret
 exact ⟨by rw [E.out]; rfl, hb.trans (hb2.mono hb.size)⟩
def anyOf (ss : List (List UInt8)) (s : ByteArray) : Bool := ss.any fun u => decide (s = str u)
theorem anyOf_nil (s : ByteArray) : anyOf [] s = false := rfl
theorem anyOf_yes {u : List UInt8} {ss : List (List UInt8)} {s : ByteArray} (h : s = str u) : anyOf (u :: ss) s = true := by simp [anyOf, h]
theorem anyOf_no {u : List UInt8} {ss : List (List UInt8)} {s : ByteArray} (h : ¬ s = str u) : anyOf (u :: ss) s = anyOf ss s := by simp [anyOf, h]
def powS : List (List UInt8) := [[94]]
theorem cisComparing (s : ByteArray) (w : World) : Calls prog 128 #[.string s] w fun e w' => e = .returned (.bool (anyOf cmpS s)) ∧ ∃ n, w' = w.drewN n := by
 unfold cmpS
 by_cases h0 : s = { data := #[61] }
 · rw [anyOf_yes h0]
   subst h0
   go_enter func128, ntmps128
   go_wp2_with fail
   go_ret
   exact ⟨rfl, 0, rfl⟩
 · have d0 : (s.toList == [61]) = false := text_ne h0
   by_cases h1 : s = { data := #[60, 62] }
   · rw [anyOf_no h0, anyOf_yes h1]
     subst h1
     clear h0
     go_enter func128, ntmps128
     go_wp2_with fail
     go_ret
     exact ⟨rfl, 0, rfl⟩
   · have d1 : (s.toList == [60, 62]) = false := text_ne h1
     by_cases h2 : s = { data := #[60] }
     · rw [anyOf_no h0, anyOf_no h1, anyOf_yes h2]
       subst h2
       clear h0
       clear h1
       go_enter func128, ntmps128
       go_wp2_with fail
       go_ret
       exact ⟨rfl, 0, rfl⟩
     · have d2 : (s.toList == [60]) = false := text_ne h2
       by_cases h3 : s = { data := #[60, 61] }
       · rw [anyOf_no h0, anyOf_no h1, anyOf_no h2, anyOf_yes h3]
         subst h3
         clear h0
         clear h1
         clear h2
         go_enter func128, ntmps128
         go_wp2_with fail
         go_ret
         exact ⟨rfl, 0, rfl⟩
       · have d3 : (s.toList == [60, 61]) = false := text_ne h3
         by_cases h4 : s = { data := #[62] }
         · rw [anyOf_no h0, anyOf_no h1, anyOf_no h2, anyOf_no h3, anyOf_yes h4]
           subst h4
           clear h0
           clear h1
           clear h2
           clear h3
           go_enter func128, ntmps128
           go_wp2_with fail
           go_ret
           exact ⟨rfl, 0, rfl⟩
         · have d4 : (s.toList == [62]) = false := text_ne h4
           by_cases h5 : s = { data := #[62, 61] }
           · rw [anyOf_no h0, anyOf_no h1, anyOf_no h2, anyOf_no h3, anyOf_no h4, anyOf_yes h5]
             subst h5
             clear h0
             clear h1
             clear h2
             clear h3
             clear h4
             go_enter func128, ntmps128
             go_wp2_with fail
             go_ret
             exact ⟨rfl, 0, rfl⟩
           · have d5 : (s.toList == [62, 61]) = false := text_ne h5
             rw [anyOf_no h0, anyOf_no h1, anyOf_no h2, anyOf_no h3, anyOf_no h4, anyOf_no h5, anyOf_nil]
             go_enter func128, ntmps128
             go_wp2_with fail
             go_ret
             exact ⟨rfl, 0, rfl⟩
theorem cisAdding (s : ByteArray) (w : World) : Calls prog 150 #[.string s] w fun e w' => e = .returned (.bool (anyOf sumS s)) ∧ ∃ n, w' = w.drewN n := by
 unfold sumS
 by_cases h0 : s = { data := #[43] }
 · rw [anyOf_yes h0]
   subst h0
   go_enter func150, ntmps150
   go_wp2_with fail
   go_ret
   exact ⟨rfl, 0, rfl⟩
 · have d0 : (s.toList == [43]) = false := text_ne h0
   by_cases h1 : s = { data := #[45] }
   · rw [anyOf_no h0, anyOf_yes h1]
     subst h1
     clear h0
     go_enter func150, ntmps150
     go_wp2_with fail
     go_ret
     exact ⟨rfl, 0, rfl⟩
   · have d1 : (s.toList == [45]) = false := text_ne h1
     by_cases h2 : s = { data := #[38] }
     · rw [anyOf_no h0, anyOf_no h1, anyOf_yes h2]
       subst h2
       clear h0
       clear h1
       go_enter func150, ntmps150
       go_wp2_with fail
       go_ret
       exact ⟨rfl, 0, rfl⟩
     · have d2 : (s.toList == [38]) = false := text_ne h2
       rw [anyOf_no h0, anyOf_no h1, anyOf_no h2, anyOf_nil]
       go_enter func150, ntmps150
       go_wp2_with fail
       go_ret
       exact ⟨rfl, 0, rfl⟩
theorem cisMultiplying (s : ByteArray) (w : World) : Calls prog 175 #[.string s] w fun e w' => e = .returned (.bool (anyOf mulS s)) ∧ ∃ n, w' = w.drewN n := by
 unfold mulS
 by_cases h0 : s = { data := #[42] }
 · rw [anyOf_yes h0]
   subst h0
   go_enter func175, ntmps175
   go_wp2_with fail
   go_ret
   exact ⟨rfl, 0, rfl⟩
 · have d0 : (s.toList == [42]) = false := text_ne h0
   by_cases h1 : s = { data := #[47] }
   · rw [anyOf_no h0, anyOf_yes h1]
     subst h1
     clear h0
     go_enter func175, ntmps175
     go_wp2_with fail
     go_ret
     exact ⟨rfl, 0, rfl⟩
   · have d1 : (s.toList == [47]) = false := text_ne h1
     by_cases h2 : s = { data := #[37] }
     · rw [anyOf_no h0, anyOf_no h1, anyOf_yes h2]
       subst h2
       clear h0
       clear h1
       go_enter func175, ntmps175
       go_wp2_with fail
       go_ret
       exact ⟨rfl, 0, rfl⟩
     · have d2 : (s.toList == [37]) = false := text_ne h2
       rw [anyOf_no h0, anyOf_no h1, anyOf_no h2, anyOf_nil]
       go_enter func175, ntmps175
       go_wp2_with fail
       go_ret
       exact ⟨rfl, 0, rfl⟩
theorem cisPower (s : ByteArray) (w : World) : Calls prog 185 #[.string s] w fun e w' => e = .returned (.bool (anyOf powS s)) ∧ ∃ n, w' = w.drewN n := by
 unfold powS
 by_cases h0 : s = { data := #[94] }
 · rw [anyOf_yes h0]
   subst h0
   go_enter func185, ntmps185
   go_wp2_with fail
   go_ret
   exact ⟨rfl, 0, rfl⟩
 · have d0 : (s.toList == [94]) = false := text_ne h0
   rw [anyOf_no h0, anyOf_nil]
   go_enter func185, ntmps185
   go_wp2_with fail
   go_ret
   exact ⟨rfl, 0, rfl⟩
theorem one_any (l : List Tok) (k : Nat) (ss : List (List UInt8)) : (oneOf l k ss).isSome = match l[k]? with
   | some t => decide (t.k = 4) && anyOf ss t.s
   | none => false := by
 unfold oneOf isSign anyOf
 cases l[k]? with
 | none => simp
 | some t =>
   by_cases h : t.k = 4
   · simp only [h, decide_true, Bool.true_and]
     induction ss with
     | nil => rfl
     | cons u ss ih => cases hu : decide (t.s = str u) <;> simp only [List.find?, List.any, hu, Option.isSome, Bool.true_or, Bool.false_or]; exact ih
   · simp [h]
theorem one_tok {l : List Tok} {k : Nat} {ss : List (List UInt8)} {op : List UInt8} (h : oneOf l k ss = some op) : ∃ t, l[k]? = some t ∧ t.s = str op := by
 have h := List.find?_some h
 unfold isSign at h
 split at h
 · rename_i t ht
   simp only [Bool.and_eq_true, decide_eq_true_eq] at h
   exact ⟨t, ht, h.2⟩
 · cases h
theorem one_pow (l : List Tok) (k : Nat) : (oneOf l k powS).isSome = isSign l k [94] := by
 unfold oneOf powS
 cases h : isSign l k [94] <;> simp [List.find?, h]
theorem csees_isComparing {x k : Nat} {l : List Tok} {en nest : Int} (w : World) (h : Pc w x l en k nest) (hl : l.length ≤ 300) :
   Calls prog 127 #[.pointer (some ⟨x, 0, none⟩), .func (.func 128) #[] #[]] w fun e w' => e = .returned (.bool (oneOf l k cmpS).isSome) ∧ Below w.heap.size w w' := by
 have H := hid (cahead0 w h hl)
 clear h
 rw [one_any]
 generalize l[k]? = o at *
 cases o with
 | none =>
   unfold tokV at H
   go_enter func127, ntmps127
   go_wp2_with fail
   refine H.out.mono ?_; rintro e w1 ⟨rfl, hb⟩
   go_wp2_with fail
   go_ret
   exact ⟨rfl, hb.alloc hb.size _⟩
 | some t =>
   obtain ⟨tk, n, s, a⟩ := t
   unfold tokV at H
   simp only at *
   by_cases h1 : tk = 4
   · subst h1
     go_enter func127, ntmps127
     go_wp2_with fail
     refine H.out.mono ?_; rintro e w1 ⟨rfl, hb⟩
     have HB := hid (hb.alloc hb.size (.cells #[.int .i64 4, .int .i64 n, .string s, .int .i64 a] 114))
     clear hb
     go_wp2_with fail
     refine (cisComparing _ _).mono ?_; rintro e w2 ⟨rfl, q, rfl⟩
     go_wp2_with fail
     go_ret
     exact ⟨by simp, below_drewN' HB.out q⟩
   · have d1 : decide (tk = 4) = false := decide_eq_false h1
     go_enter func127, ntmps127
     go_wp2_with fail
     refine H.out.mono ?_; rintro e w1 ⟨rfl, hb⟩
     go_wp2_with fail
     go_ret
     exact ⟨by simp [h1], hb.alloc hb.size _⟩
theorem csees_isAdding {x k : Nat} {l : List Tok} {en nest : Int} (w : World) (h : Pc w x l en k nest) (hl : l.length ≤ 300) :
   Calls prog 127 #[.pointer (some ⟨x, 0, none⟩), .func (.func 150) #[] #[]] w fun e w' => e = .returned (.bool (oneOf l k sumS).isSome) ∧ Below w.heap.size w w' := by
 have H := hid (cahead0 w h hl)
 clear h
 rw [one_any]
 generalize l[k]? = o at *
 cases o with
 | none =>
   unfold tokV at H
   go_enter func127, ntmps127
   go_wp2_with fail
   refine H.out.mono ?_; rintro e w1 ⟨rfl, hb⟩
   go_wp2_with fail
   go_ret
   exact ⟨rfl, hb.alloc hb.size _⟩
 | some t =>
   obtain ⟨tk, n, s, a⟩ := t
   unfold tokV at H
   simp only at *
   by_cases h1 : tk = 4
   · subst h1
     go_enter func127, ntmps127
     go_wp2_with fail
     refine H.out.mono ?_; rintro e w1 ⟨rfl, hb⟩
     have HB := hid (hb.alloc hb.size (.cells #[.int .i64 4, .int .i64 n, .string s, .int .i64 a] 114))
     clear hb
     go_wp2_with fail
     refine (cisAdding _ _).mono ?_; rintro e w2 ⟨rfl, q, rfl⟩
     go_wp2_with fail
     go_ret
     exact ⟨by simp, below_drewN' HB.out q⟩
   · have d1 : decide (tk = 4) = false := decide_eq_false h1
     go_enter func127, ntmps127
     go_wp2_with fail
     refine H.out.mono ?_; rintro e w1 ⟨rfl, hb⟩
     go_wp2_with fail
     go_ret
     exact ⟨by simp [h1], hb.alloc hb.size _⟩
theorem csees_isMultiplying {x k : Nat} {l : List Tok} {en nest : Int} (w : World) (h : Pc w x l en k nest) (hl : l.length ≤ 300) :
   Calls prog 127 #[.pointer (some ⟨x, 0, none⟩), .func (.func 175) #[] #[]] w fun e w' => e = .returned (.bool (oneOf l k mulS).isSome) ∧ Below w.heap.size w w' := by
 have H := hid (cahead0 w h hl)
 clear h
 rw [one_any]
 generalize l[k]? = o at *
 cases o with
 | none =>
   unfold tokV at H
   go_enter func127, ntmps127
   go_wp2_with fail
   refine H.out.mono ?_; rintro e w1 ⟨rfl, hb⟩
   go_wp2_with fail
   go_ret
   exact ⟨rfl, hb.alloc hb.size _⟩
 | some t =>
   obtain ⟨tk, n, s, a⟩ := t
   unfold tokV at H
   simp only at *
   by_cases h1 : tk = 4
   · subst h1
     go_enter func127, ntmps127
     go_wp2_with fail
     refine H.out.mono ?_; rintro e w1 ⟨rfl, hb⟩
     have HB := hid (hb.alloc hb.size (.cells #[.int .i64 4, .int .i64 n, .string s, .int .i64 a] 114))
     clear hb
     go_wp2_with fail
     refine (cisMultiplying _ _).mono ?_; rintro e w2 ⟨rfl, q, rfl⟩
     go_wp2_with fail
     go_ret
     exact ⟨by simp, below_drewN' HB.out q⟩
   · have d1 : decide (tk = 4) = false := decide_eq_false h1
     go_enter func127, ntmps127
     go_wp2_with fail
     refine H.out.mono ?_; rintro e w1 ⟨rfl, hb⟩
     go_wp2_with fail
     go_ret
     exact ⟨by simp [h1], hb.alloc hb.size _⟩
theorem csees_isPower {x k : Nat} {l : List Tok} {en nest : Int} (w : World) (h : Pc w x l en k nest) (hl : l.length ≤ 300) :
   Calls prog 127 #[.pointer (some ⟨x, 0, none⟩), .func (.func 185) #[] #[]] w fun e w' => e = .returned (.bool (oneOf l k powS).isSome) ∧ Below w.heap.size w w' := by
 have H := hid (cahead0 w h hl)
 clear h
 rw [one_any]
 generalize l[k]? = o at *
 cases o with
 | none =>
   unfold tokV at H
   go_enter func127, ntmps127
   go_wp2_with fail
   refine H.out.mono ?_; rintro e w1 ⟨rfl, hb⟩
   go_wp2_with fail
   go_ret
   exact ⟨rfl, hb.alloc hb.size _⟩
 | some t =>
   obtain ⟨tk, n, s, a⟩ := t
   unfold tokV at H
   simp only at *
   by_cases h1 : tk = 4
   · subst h1
     go_enter func127, ntmps127
     go_wp2_with fail
     refine H.out.mono ?_; rintro e w1 ⟨rfl, hb⟩
     have HB := hid (hb.alloc hb.size (.cells #[.int .i64 4, .int .i64 n, .string s, .int .i64 a] 114))
     clear hb
     go_wp2_with fail
     refine (cisPower _ _).mono ?_; rintro e w2 ⟨rfl, q, rfl⟩
     go_wp2_with fail
     go_ret
     exact ⟨by simp, below_drewN' HB.out q⟩
   · have d1 : decide (tk = 4) = false := decide_eq_false h1
     go_enter func127, ntmps127
     go_wp2_with fail
     refine H.out.mono ?_; rintro e w1 ⟨rfl, hb⟩
     go_wp2_with fail
     go_ret
     exact ⟨by simp [h1], hb.alloc hb.size _⟩
def errV (b : Bad) : Value := if b.1 = 14 then .iface 34 (.int .i64 14) else .iface 163 (.agg #[.int .i64 b.2, .int .i64 13])
theorem errV_deep : errV deepE = .iface 34 (.int .i64 14) := rfl
theorem errV_bad (l : List Tok) (n : Int) (k : Nat) : errV (badAt l n k) = .iface 163 (.agg #[.int .i64 (badAt l n k).2, .int .i64 13]) := rfl
theorem cmisplaced {x k : Nat} {l : List Tok} {en nest : Int} (w : World) (h : Pc w x l en k nest) (hl : l.length ≤ 300) :
   Calls prog 99 #[.pointer (some ⟨x, 0, none⟩)] w fun e w' => e = .returned (errV (badAt l en k)) ∧ ∃ n, w' = w.drewN n := by
 have hx := h.lt
 have hle := h.le
 obtain ⟨A, c, h1, h2, h3⟩ := h.ex
 have q0 : w.cell? ⟨x, 0, none⟩ = some (.slice A (l.length - k) c) := by simp [World.cell?, h1]
 have q1 : w.cell? ⟨x, 1, none⟩ = some (.int .i64 en) := by simp [World.cell?, h1]
 have H3 := hid h3
 clear h3 h1 h
 rw [errV_bad]
 by_cases hlt : k < l.length
 · obtain ⟨g, rfl, hg, f0, f1, f2, f3⟩ := H3.out k hlt (Nat.le_refl _)
   clear H3
   have hm : ¬ (l.length - k = 0) := by omega
   have E : Hid ((badAt l en k).2 = l[k].at_) := hid (by unfold badAt; rw [List.getElem?_eq_getElem hlt])
   rw [E.out]
   clear E
   generalize l[k] = t at *
   generalize l.length - k = m at *
   go_enter func99, ntmps99
   go_wp2_with fail
   go_ret
   exact ⟨rfl, 0, rfl⟩
 · have hm : l.length - k = 0 := by omega
   clear H3
   have E : Hid ((badAt l en k).2 = en) := hid (by unfold badAt; rw [List.getElem?_eq_none (by omega)])
   rw [E.out]
   clear E
   generalize l.length - k = m at *
   subst hm
   go_enter func99, ntmps99
   go_wp2_with fail
   go_ret
   exact ⟨rfl, 0, rfl⟩
theorem cconstant (vk vn : Int) (s : ByteArray) (w : World) :
   Calls prog 215 #[.agg (jV vk vn s)] w fun e w' => e = .returned (nodeV (constN vk vn s).f none 0 0) ∧ Below w.heap.size w w' := by
 unfold nodeV constN
 go_enter func215, ntmps215
 go_wp2_with fail
 refine bodyPost_ret (v := .agg #[.int .i64 1, .int .i64 vk, .int .i64 vn, .string s, .int .i64 0, .int .i64 0, .int .i64 0, .int .i64 0, .string { data := #[] }, .slice none 0 0]) (by simp [results, results215, go_sem]) rfl ⟨rfl, ((Below.refl _ _).alloc (Nat.le_refl _) _).alloc (by simp) _⟩
def IsBad (b : Bad) : Prop := b.1 = 13 ∨ b = deepE
theorem isBad_at (l : List Tok) (n : Int) (k : Nat) : IsBad (badAt l n k) := Or.inl rfl
theorem isBad_deep : IsBad deepE := Or.inr rfl
theorem errV_some (b : Bad) : ∃ T u, errV b = .iface T u := by
 unfold errV; split
 · exact ⟨_, _, rfl⟩
 · exact ⟨_, _, rfl⟩
theorem RowAt.same {w w' : World} {P Q : Nat → Prop} (hP : ∀ g, P g → g < w.heap.size → w'.heap[g]? = w.heap[g]? ∧ Q g) : ∀ (fo : Fo) (g o : Nat), RowAt w P fo g o → RowAt w' Q fo g o := by
 intro fo
 induction fo with
 | nil => intro g o _; trivial
 | cons f kids next ih1 ih2 =>
   intro g o h
   obtain ⟨⟨hx, f0, f1, f2, f3, f4, f5, f6, f7, f8⟩, ⟨A, c, h9, hA⟩, hn⟩ := h
   obtain ⟨hy, hq⟩ := hP g hx (World.block_lt_of_cell? w _ f0)
   have hc (o : Nat) (v : Value) (h : w.cell? ⟨g, o, none⟩ = some v) : w'.cell? ⟨g, o, none⟩ = some v := by rw [← h]; unfold World.cell?; rw [hy]
   refine ⟨⟨hq, hc _ _ f0, hc _ _ f1, hc _ _ f2, hc _ _ f3, hc _ _ f4, hc _ _ f5, hc _ _ f6, hc _ _ f7, hc _ _ f8⟩, ⟨A, c, hc _ _ h9, ?_⟩, ih2 g _ hn⟩
   rcases hA with h | ⟨g', o', e, hr⟩
   · exact Or.inl h
   · exact Or.inr ⟨g', o', e, ih1 g' o' hr⟩
def CPostP (P : Nat → Prop) (x : Nat) (l : List Tok) (en nest : Int) (out : Out) (w : World) (e : Ending) (w' : World) : Prop :=
 ∃ f A m c er, e = .returned (.tuple #[nodeV f A m c, er]) ∧ Kept x w w' ∧
   ((∃ kd k', out = .ok (⟨f, kd⟩, k') ∧ er = .nilIface ∧ kd.len = m ∧ KidsAt w' P kd A ∧ Pc w' x l en k' nest) ∨
    (∃ b k2, out = .error b ∧ IsBad b ∧ er = errV b ∧ Pc w' x l en k2 nest))
abbrev CPost (B x : Nat) (l : List Tok) (en nest : Int) (out : Out) (w : World) (e : Ending) (w' : World) : Prop := CPostP (fun g => B ≤ g) x l en nest out w e w'
theorem CPost.ok {P : Nat → Prop} {x b k' m c : Nat} {l : List Tok} {en nest : Int} {f : Fld} {kd : Fo} {A : Option Addr} {w V W : World} {out : Out} (ho : out = .ok (⟨f, kd⟩, k')) (hK : Kept x w V) (hP : Pc V x l en k' nest) (hn : kd.len = m) (hA : KidsAt V (fun g => P g ∧ g ≠ b) kd A) (hb : w.heap.size ≤ b) (hx : x < w.heap.size) (hk : Kept b V W) :
   CPostP P x l en nest out w (.returned (.tuple #[nodeV f A m c, .nilIface])) W :=
 ⟨f, A, m, c, _, rfl, hK.then_ hk hb, Or.inl ⟨kd, k', ho, rfl, hn, hA.keep hk (fun g hg _ => ⟨hg.2, hg.1⟩), hP.kept hk (by omega)⟩⟩
theorem CPost.err {P : Nat → Prop} {x b k2 m c : Nat} {l : List Tok} {en nest : Int} {f : Fld} {A : Option Addr} {w V W : World} {out : Out} {bad : Bad} (ho : out = .error bad) (hi : IsBad bad) (hK : Kept x w V) (hP : Pc V x l en k2 nest) (hb : w.heap.size ≤ b) (hx : x < w.heap.size) (hk : Kept b V W) :
   CPostP P x l en nest out w (.returned (.tuple #[nodeV f A m c, errV bad])) W :=
 ⟨f, A, m, c, _, rfl, hK.then_ hk hb, Or.inr ⟨bad, k2, ho, hi, rfl, hP.kept hk (by omega)⟩⟩
theorem CPost.on {B B' x b m c : Nat} {l : List Tok} {en nest : Int} {f : Fld} {A : Option Addr} {er : Value} {w V W : World} {out : Out}
   (h : (∃ kd k', out = .ok (⟨f, kd⟩, k') ∧ er = .nilIface ∧ kd.len = m ∧ KidsAt V (fun g => B' ≤ g) kd A ∧ Pc V x l en k' nest) ∨ (∃ b k2, out = .error b ∧ IsBad b ∧ er = errV b ∧ Pc V x l en k2 nest))
   (hK : Kept x w V) (hB : B ≤ B') (hbB : b < B') (hb : w.heap.size ≤ b) (hx : x < w.heap.size) (hk : Kept b V W) :
   CPost B x l en nest out w (.returned (.tuple #[nodeV f A m c, er])) W := by
 rcases h with ⟨kd, k', ho, rfl, hn, hA, hP⟩ | ⟨bad, k2, ho, hi, rfl, hP⟩
 · exact CPost.ok ho hK hP hn (hA.keep (Kept.refl V.heap.size _) (fun g hg hl => ⟨by omega, by omega, by omega⟩)) hb hx hk
 · exact CPost.err ho hi hK hP hb hx hk
def Enters (g : Nat) : Prop := ∀ args w, (callFunc g args).run prog w = .ok (.enter g args) w
theorem cnested {x : Nat} (g : Nat) (pre : Array Value) (w : World) (hx : x < w.heap.size) :
   Calls prog 193 #[.pointer (some ⟨x, 0, none⟩), .func (.func g) pre #[]] w fun e w' => ∃ b1 b2, e = .returned (.func (.func 206) #[] #[.pointer (some ⟨b1, 0, none⟩), .pointer (some ⟨b2, 0, none⟩)]) ∧ Below w.heap.size w w' ∧
     w'.cell? ⟨b1, 0, none⟩ = some (.pointer (some ⟨x, 0, none⟩)) ∧ w'.cell? ⟨b2, 0, none⟩ = some (.func (.func g) pre #[]) ∧ x < b1 ∧ x < b2 ∧ w.heap.size ≤ b1 ∧ w.heap.size ≤ b2 := by
 go_enter func193, ntmps193
 go_wp2_with fail
 go_ret
 exact ⟨_, _, rfl, ((Below.refl _ _).alloc (Nat.le_refl _) _).alloc (by simp) _, by simp, by simp, by omega, by omega, by omega, by omega⟩
theorem cnested1 {x k g : Nat} {l : List Tok} {en nest : Int} {F : Nat → Out} {b1 b2 : Nat} (eg : ∀ args w, (callFunc g args).run prog w = .ok (.enter g args) w) (w : World) (h : Pc w x l en k nest) (hn0 : 0 ≤ nest) (hn1 : nest ≤ 40)
   (h1 : w.cell? ⟨b1, 0, none⟩ = some (.pointer (some ⟨x, 0, none⟩))) (h2 : w.cell? ⟨b2, 0, none⟩ = some (.func (.func g) #[.pointer (some ⟨x, 0, none⟩)] #[])) (hx1 : b1 ≠ x) (hx2 : b2 ≠ x)
   (hm : nest < 40 → ∀ w', Kept x w w' → Pc w' x l en k (nest + 1) → Calls prog g #[.pointer (some ⟨x, 0, none⟩)] w' (CPost w'.heap.size x l en (nest + 1) (F k) w')) :
   Calls prog 206 #[.pointer (some ⟨b1, 0, none⟩), .pointer (some ⟨b2, 0, none⟩)] w (CPost w.heap.size x l en nest (if nest < 40 then F k else .error deepE) w) := by
 have hxw := h.lt
 obtain ⟨A, c, hp, hp2, hp3⟩ := h.ex
 have q2 : w.cell? ⟨x, 2, none⟩ = some (.int .i64 nest) := by simp [World.cell?, hp]
 have z2 : w.frozen? ⟨x, 2, none⟩ = false := by simp [World.frozen?, hp]
 clear hp hp2 hp3
 have HI := hid h
 clear h
 have hb1 := World.block_lt_of_cell? w _ h1
 have hb2 := World.block_lt_of_cell? w _ h2
 simp only at hb1 hb2
 by_cases hin : nest < 40
 · rw [if_pos hin]
   have hd : ¬ nest = 40 := by omega
   have ne1 : x ≠ w.heap.size := by omega
   have ne2 : w.heap.size ≠ x := by omega
   have HM := hid (hm hin)
   clear hm
   go_enter func206, ntmps206
   go_wp2_with fail
   have K1 : Kept x w ((w.setCell ⟨x, 2, none⟩ (.int .i64 (nest + 1))).alloc (.cells jZ 31)) := ((Kept.refl x w).setCell _ _).alloc _
   have X1 : NBox ((w.setCell ⟨x, 2, none⟩ (.int .i64 (nest + 1))).alloc (.cells jZ 31)) w.heap.size := by
     have := NBox.new (w.setCell ⟨x, 2, none⟩ (.int .i64 (nest + 1)))
     rwa [show (w.setCell ⟨x, 2, none⟩ (.int .i64 (nest + 1))).heap.size = w.heap.size by simp [World.setCell]] at this
   refine (HM.out _ K1 ((HI.out.setN (nest + 1)).alloc _)).mono ?_
   generalize ((w.setCell ⟨x, 2, none⟩ (.int .i64 (nest + 1))).alloc (.cells jZ 31)) = W1 at *
   have lt1 := X1.lt
   rintro e w3 ⟨f, A, m, c, er, rfl, k3, hp3⟩
   have X3 := X1.kept k3 ne2
   have K3 := K1.trans k3
   have h13 := (k3.cell hx1 (K1.cell hx1 h1))
   have lt3 := X3.lt
   have P3 : ∃ kk, Pc w3 x l en kk (nest + 1) := by
     rcases hp3 with ⟨kd, k', -, -, -, -, h⟩ | ⟨b, k2, -, -, -, h⟩
     · exact ⟨_, h⟩
     · exact ⟨_, h⟩
   obtain ⟨kk, P3⟩ := P3
   obtain ⟨A3, c3, hp, -, -⟩ := P3.ex
   have q3 : w3.cell? ⟨x, 2, none⟩ = some (.int .i64 (nest + 1)) := by simp [World.cell?, hp]
   have y3 : w3.frozen? ⟨x, 2, none⟩ = false := by simp [World.frozen?, hp]
   clear hp q2 z2 h1 h2
   have hx3 := P3.lt
   have na1 : x ≠ w3.heap.size := by omega
   have na2 : w3.heap.size ≠ x := by omega
   have hb3 : b1 < w3.heap.size := by omega
   have na3 : b1 ≠ w3.heap.size := by omega
   have na4 : w.heap.size ≠ w3.heap.size := by omega
   have na5 : w3.heap.size ≠ w.heap.size := by omega
   have HP := hid hp3
   clear hp3
   unfold nodeV
   obtain ⟨f0, f1, f2, f3, f4, f5, f6, f7, f8, f9, z0, z1, z2, z3, z4, z5, z6, z7, z8, z9⟩ := (X3).cells
   go_wp2_with fail
   refine bodyPost_ret (v := .tuple #[.agg (jN f A m c), er]) (by simp [results, results206, go_sem, f0, f1, f2, f3, f4, f5, f6, f7, f8, f9, lt3]) rfl ?_
   rcases HP.out with ⟨kd, k', ho, rfl, hn, hA, hP⟩ | ⟨bad, k2, ho, hi, rfl, hP⟩
   · refine CPost.ok (f := f) (A := A) (m := m) (c := c) (b := w.heap.size) (V := w3.setCell ⟨x, 2, none⟩ (.int .i64 nest)) ho (K3.setCell _ _) ?_ hn (hA.keep (Q := fun g => w.heap.size ≤ g ∧ g ≠ w.heap.size) ((Kept.refl x w3).setCell _ _) (fun g hg hl => ⟨by omega, by omega, by omega⟩)) (Nat.le_refl _) hxw ?_
     · exact hP.setN nest
     · repeat (with_reducible first | exact Kept.refl _ _ | refine Kept.setCell ?_ _ _ | refine Kept.alloc ?_ _)
   · refine CPost.err (f := f) (A := A) (m := m) (c := c) (b := w.heap.size) (V := w3.setCell ⟨x, 2, none⟩ (.int .i64 nest)) ho hi (K3.setCell _ _) (hP.setN nest) (Nat.le_refl _) hxw ?_
     repeat (with_reducible first | exact Kept.refl _ _ | refine Kept.setCell ?_ _ _ | refine Kept.alloc ?_ _)
 · rw [if_neg hin]
   obtain rfl : nest = 40 := by omega
   go_enter func206, ntmps206
   go_wp2_with fail
   refine bodyPost_ret (v := .tuple #[.agg jZ, errV deepE]) (by simp [results, results206, go_sem, errV_deep]) rfl (CPost.err (f := fld0) (A := none) (m := 0) (c := 0) (b := w.heap.size) (V := w) rfl isBad_deep (Kept.refl _ _) HI.out (Nat.le_refl _) hxw ?_)
   repeat (with_reducible first | exact Kept.refl _ _ | refine Kept.setCell ?_ _ _ | refine Kept.alloc ?_ _)
def closedF (l : List Tok) (n : Int) (o : Out) : Out := match o with
 | .error e => .error e
 | .ok (a, k') => match closeF l n k' with
   | .error e => .error e
   | .ok k'' => .ok (a, k'')
theorem closed_err {l : List Tok} {n : Int} {o : Out} {b : Bad} (h : o = .error b) : closedF l n o = .error b := by subst h; rfl
theorem closed_no {l : List Tok} {n : Int} {o : Out} {a : Nd} {k' : Nat} (h : o = .ok (a, k')) (hs : isSign l k' [41] = false) : closedF l n o = .error (badAt l n k') := by subst h; simp [closedF, close_no hs]
theorem closed_yes {l : List Tok} {n : Int} {o : Out} {a : Nd} {k' : Nat} (h : o = .ok (a, k')) (hs : isSign l k' [41] = true) : closedF l n o = .ok (a, k' + 1) := by subst h; simp [closedF, close_ok hs]
theorem cclosed {x k g : Nat} {l : List Tok} {en nest : Int} {F : Nat → Out} {lb : Array Value} (eg : ∀ args w, (callFunc g args).run prog w = .ok (.enter g args) w) (w : World) (h : Pc w x l en k nest) (hl : l.length ≤ 300)
   (hm : ∀ w', Kept x w w' → Pc w' x l en k nest → Calls prog g lb w' (CPost w'.heap.size x l en nest (F k) w')) :
   Calls prog 220 #[.pointer (some ⟨x, 0, none⟩), .func (.func g) #[] lb] w (CPost w.heap.size x l en nest (closedF l en (F k)) w) := by
 have hxw := h.lt
 have HI := hid h
 clear h
 have ne1 : x ≠ w.heap.size := by omega
 have ne2 : w.heap.size ≠ x := by omega
 have HM := hid hm
 have B41 : Hid (({ data := #[41] } : ByteArray) = str [41]) := hid rfl
 clear hm
 go_enter func220, ntmps220
 go_wp2_with fail
 have K1 : Kept x w (w.alloc (.cells jZ 31)) := (Kept.refl x w).alloc _
 have X1 := NBox.new w
 refine (HM.out _ K1 (HI.out.alloc _)).mono ?_
 generalize (w.alloc (.cells jZ 31)) = W1 at *
 have lt1 := X1.lt
 rintro e w3 ⟨f, A, m, c, er, rfl, k3, hp3⟩
 have X3 := X1.kept k3 ne2
 have K3 := K1.trans k3
 have lt3 := X3.lt
 have hx3 : x < w3.heap.size := by have := k3.size; omega
 have na1 : x ≠ w3.heap.size := by omega
 have na2 : w3.heap.size ≠ x := by omega
 have na4 : w.heap.size ≠ w3.heap.size := by omega
 have na5 : w3.heap.size ≠ w.heap.size := by omega
 unfold nodeV
 rcases hp3 with ⟨kd, k', ho, rfl, hn, hA, hP⟩ | ⟨bad, k2, ho, hi, rfl, hP⟩
 · have HO := hid ho
   clear ho
   have VL : NLoc (w3.alloc (.cells (jN f A m c) 31)) w3.heap.size f A m c := ⟨heap_alloc_new _ _⟩
   have X4 := X3.kept ((Kept.refl x w3).alloc (.cells (jN f A m c) 31)) ne2
   have K4 := K3.alloc (.cells (jN f A m c) 31)
   have P4 := hid (hP.alloc (.cells (jN f A m c) 31))
   have hA4 := hA.keep (Q := fun g => w.heap.size < g ∧ g ≠ w3.heap.size) ((Kept.refl x w3).alloc (.cells (jN f A m c) 31)) (fun g hg hl => ⟨by omega, by omega, by omega⟩)
   have s4 : w3.heap.size < (w3.alloc (.cells (jN f A m c) 31)).heap.size := VL.lt
   clear hP hA
   go_wp2_with fail
   generalize (w3.alloc (.cells (jN f A m c) 31)) = V at *
   rw [B41.out]
   refine (cseesSign [41] V P4.out hl).mono ?_; rintro e w5 ⟨rfl, hb5⟩
   have k5 : Kept x V w5 := Kept.of hb5
   have X5 := X4.kept k5 ne2
   have K5 := K4.trans k5
   have P5 := hid (P4.out.below hb5)
   have VL5 := VL.kept k5 na2
   have hA5 := hA4.keep (Q := fun g => w.heap.size < g ∧ g ≠ w3.heap.size) k5 (fun g hg hl => ⟨by omega, hg⟩)
   have s5 := VL5.lt
   clear X4 K4 P4 VL hA4 hb5 k5
   cases hs : isSign l k' [41]
   · go_wp2_with fail
     refine (cmisplaced w5 P5.out hl).mono ?_; rintro e w6 ⟨rfl, q, rfl⟩
     have k6 := (Kept.refl x w5).drew q
     have X6 := X5.kept k6 ne2
     have K6 := K5.trans k6
     have P6 := P5.out.drew q
     obtain ⟨f0, f1, f2, f3, f4, f5, f6, f7, f8, f9, z0, z1, z2, z3, z4, z5, z6, z7, z8, z9⟩ := (X6).cells
     go_wp2_with fail
     refine bodyPost_ret (v := .tuple #[.agg jZ, errV (badAt l en k')]) (by simp [results, results220, go_sem, f0, f1, f2, f3, f4, f5, f6, f7, f8, f9]) rfl (CPost.err (f := fld0) (A := none) (m := 0) (c := 0) (b := w.heap.size) (V := w5.drewN q) (closed_no HO.out hs) (isBad_at _ _ _) K6 P6 (Nat.le_refl _) hxw ?_)
     repeat (with_reducible first | exact Kept.refl _ _ | refine Kept.setCell ?_ _ _ | refine Kept.alloc ?_ _)
   · have hlt := sign_lt hs
     go_wp2_with fail
     refine (ctake w5 P5.out hlt).mono ?_; rintro e w6 ⟨rfl, P6, k6⟩
     have X6 := X5.kept k6 ne2
     have K6 := K5.trans k6
     have VL6 := VL5.kept k6 na2
     have hA6 := hA5.keep (Q := fun g => w.heap.size ≤ g ∧ g ≠ w.heap.size) k6 (fun g hg hl => ⟨by omega, by omega, by omega⟩)
     have s6 := VL6.lt
     obtain ⟨d0, d1, d2, d3, d4, d5, d6, d7, d8, d9, dz0, dz1, dz2, dz3, dz4, dz5, dz6, dz7, dz8, dz9⟩ := (VL6).cells
     obtain ⟨f0, f1, f2, f3, f4, f5, f6, f7, f8, f9, z0, z1, z2, z3, z4, z5, z6, z7, z8, z9⟩ := (X6).cells
     go_wp2_with fail
     refine bodyPost_ret (v := .tuple #[.agg (jN f A m c), .nilIface]) (by simp [results, results220, go_sem, f0, f1, f2, f3, f4, f5, f6, f7, f8, f9]) rfl (CPost.ok (f := f) (A := A) (m := m) (c := c) (b := w.heap.size) (V := w6) (closed_yes HO.out hs) K6 P6 hn hA6 (Nat.le_refl _) hxw ?_)
     repeat (with_reducible first | exact Kept.refl _ _ | refine Kept.setCell ?_ _ _ | refine Kept.alloc ?_ _)
 · obtain ⟨T, u, hT⟩ := errV_some bad
   have HO := hid ho
   have P3 := hid hP
   clear ho hP
   rw [hT]
   obtain ⟨f0, f1, f2, f3, f4, f5, f6, f7, f8, f9, z0, z1, z2, z3, z4, z5, z6, z7, z8, z9⟩ := (X3).cells
   go_wp2_with fail
   refine bodyPost_ret (v := .tuple #[.agg jZ, .iface T u]) (by simp [results, results220, go_sem, f0, f1, f2, f3, f4, f5, f6, f7, f8, f9, lt3]) rfl (hT ▸ CPost.err (f := fld0) (A := none) (m := 0) (c := 0) (b := w.heap.size) (V := w3) (closed_err HO.out) hi K3 P3.out (Nat.le_refl _) hxw ?_)
   repeat (with_reducible first | exact Kept.refl _ _ | refine Kept.setCell ?_ _ _ | refine Kept.alloc ?_ _)
theorem field_S (k n : Int) (s : ByteArray) (a : Int) (w : World) : (Instr.field 114 (.agg #[.int .i64 k, .int .i64 n, .string s, .int .i64 a]) 2).run prog w = .ok (.string s) w := by kernel_rfl
theorem cpair_kids {w : World} {Q : Nat → Prop} {f g : Fld} {A B : Option Addr} {n m c d b : Nat} {ka kb : Fo} (hb : Q b) (h : w.heap[b]? = some (.cells ((nodeV f A n c).cells ++ (nodeV g B m d).cells) 31 (0, 0)))
   (hn : ka.len = n) (hm : kb.len = m) (hA : KidsAt w Q ka A) (hB : KidsAt w Q kb B) : KidsAt w Q ((Nd.one ⟨f, ka⟩).app (Nd.one ⟨g, kb⟩)) (some ⟨b, 0, none⟩) :=
 Or.inr ⟨b, 0, rfl, rowAt_block hb (vs := [nodeV f A n c, nodeV g B m d]) ⟨⟨A, c, by rw [hn], hA⟩, ⟨⟨B, d, by rw [hm], hB⟩, trivial⟩⟩ h rfl⟩
def binF (op : List UInt8) (a : Nd) (o : Out) : Out := match o with
 | .error e => .error e
 | .ok (b, k') => .ok (pairN op a b, k')
theorem row_at2 (U : World) (a b : Obj) {n : Nat} (h : U.heap.size = n) : ((U.alloc a).alloc b).heap[n + 1]? = some b := by
 subst h
 have e : (U.alloc a).heap.size = U.heap.size + 1 := heap_one _ _
 rw [← e]; exact heap_alloc_new _ _
theorem cpair_fin {P : Nat → Prop} {x b k' n m c d pb : Nat} {l : List Tok} {en nest : Int} {op : List UInt8} {f g : Fld} {A C : Option Addr} {ka kb : Fo} {o : Out} {w V W : World} (hK : Kept x w V) (hP : Pc V x l en k' nest) (ho : o = .ok (⟨g, kb⟩, k'))
   (hn : ka.len = n) (hm : kb.len = m) (hA : KidsAt V (fun g => P g ∧ g ≠ b) ka A) (hB : KidsAt V (fun g => P g ∧ g ≠ b) kb C) (hpb : P pb ∧ pb ≠ b) (hb : w.heap.size ≤ b) (hx : x < w.heap.size) (hk : Kept b V W)
   (hr : W.heap[pb]? = some (.cells ((nodeV f A n c).cells ++ (nodeV g C m d).cells) 31 (0, 0))) :
   CPostP P x l en nest (binF op ⟨f, ka⟩ o) w (.returned (.tuple #[nodeV (pairFld (str op)) (some ⟨pb, 0, none⟩) 2 2, .nilIface])) W := by
 subst ho
 have hA' := hA.keep (Q := fun g => P g ∧ g ≠ b) hk (fun g hg _ => ⟨hg.2, hg⟩)
 have hB' := hB.keep (Q := fun g => P g ∧ g ≠ b) hk (fun g hg _ => ⟨hg.2, hg⟩)
 exact CPost.ok (b := b) (V := W) (kd := (Nd.one ⟨f, ka⟩).app (Nd.one ⟨g, kb⟩)) rfl (hK.then_ hk hb) (hP.kept hk (by omega)) rfl (cpair_kids (w := W) hpb hr hn hm hA' hB') hb hx (Kept.refl _ _)
theorem cbinary {P : Nat → Prop} {x k g : Nat} {l : List Tok} {en nest : Int} {F : Nat → Out} {pre post : Array Value} (eg : ∀ args w, (callFunc g args).run prog w = .ok (.enter g args) w) (w : World) (h : Pc w x l en k nest) (hl : l.length ≤ 300)
   {t : Tok} (ht : l[k]? = some t) {op : List UInt8} (hop : t.s = str op) {f : Fld} {A : Option Addr} {m c : Nat} {kd : Fo} (hA : KidsAt w P kd A) (hn : kd.len = m) (hPx : ∀ g, P g → g ≠ x)
   (hm : ∀ w', Kept x w w' → Pc w' x l en (k + 1) nest → Calls prog g (pre ++ post) w' (CPost w'.heap.size x l en nest (F (k + 1)) w')) :
   Calls prog 129 #[.pointer (some ⟨x, 0, none⟩), nodeV f A m c, .func (.func g) pre post] w (CPostP (fun g => P g ∨ w.heap.size ≤ g) x l en nest (binF op ⟨f, kd⟩ (F (k + 1))) w) := by
 have hxw := h.lt
 have HI := hid h
 have hlt : k < l.length := (List.getElem?_eq_some_iff.1 ht).1
 have HT := hid ht
 clear h ht
 have HM := hid hm
 clear hm
 unfold nodeV
 have ne1 : x ≠ w.heap.size + 1 := by omega
 have ne2 : w.heap.size + 1 ≠ x := by omega
 have nf1 : x ≠ w.heap.size := by omega
 have nf2 : w.heap.size ≠ x := by omega
 have sz1 : (w.alloc (.cells (jN f A m c) 31)).heap.size = w.heap.size + 1 := heap_one _ _
 have K1 : Kept x w ((w.alloc (.cells (jN f A m c) 31)).alloc (.cells jZ 31)) := ((Kept.refl x w).alloc _).alloc _
 have X1 : NBox ((w.alloc (.cells (jN f A m c) 31)).alloc (.cells jZ 31)) (w.heap.size + 1) := by
   have := NBox.new (w.alloc (.cells (jN f A m c) 31)); rwa [sz1] at this
 have L1 : NLoc ((w.alloc (.cells (jN f A m c) 31)).alloc (.cells jZ 31)) w.heap.size f A m c := by
   have : NLoc (w.alloc (.cells (jN f A m c) 31)) w.heap.size f A m c := ⟨heap_alloc_new _ _⟩
   exact this.kept ((Kept.refl (w.heap.size + 1) _).alloc _) (by omega)
 have P1 := hid ((HI.out.alloc (.cells (jN f A m c) 31)).alloc (.cells jZ 31))
 have A1 := hA.keep (Q := fun g => (P g ∨ w.heap.size ≤ g) ∧ g ≠ x ∧ g ≠ w.heap.size ∧ g ≠ w.heap.size + 1) ((Kept.of (x := w.heap.size) (((Below.refl _ _).alloc (Nat.le_refl _) (.cells (jN f A m c) 31)).alloc (by rw [sz1]; omega) (.cells jZ 31)))) (fun g hg hl => ⟨by omega, Or.inl hg, hPx g hg, by omega, by omega⟩)
 clear hA
 go_enter func129, ntmps129
 go_wp2_with fail
 generalize ((w.alloc (.cells (jN f A m c) 31)).alloc (.cells jZ 31)) = W1 at *
 have lt1 := X1.lt
 refine (cahead0 W1 P1.out hl).mono ?_; rintro e w2 ⟨rfl, hb2⟩
 rw [HT.out]
 unfold tokV
 have k2 : Kept x W1 w2 := Kept.of hb2
 have K2 := K1.trans k2
 have X2 := X1.kept k2 ne2
 have L2 := L1.kept k2 nf2
 have P2 := hid (P1.out.below hb2)
 have A2 := A1.keep (Q := fun g => (P g ∨ w.heap.size ≤ g) ∧ g ≠ x ∧ g ≠ w.heap.size ∧ g ≠ w.heap.size + 1) k2 (fun g hg hl => ⟨hg.2.1, hg⟩)
 clear K1 X1 L1 P1 A1 hb2 k2
 have qS := field_S t.k t.n t.s t.at_ w2
 rw [hop] at qS
 go_wp2_with fail
 refine (ctake w2 P2.out hlt).mono ?_; rintro e w3 ⟨rfl, P3, k3⟩
 have K3 := K2.trans k3
 have X3 := X2.kept k3 ne2
 have L3 := L2.kept k3 nf2
 have A3 := A2.keep (Q := fun g => (P g ∨ w.heap.size ≤ g) ∧ g ≠ x ∧ g ≠ w.heap.size ∧ g ≠ w.heap.size + 1) k3 (fun g hg hl => ⟨hg.2.1, hg⟩)
 have s3 := X3.lt
 clear K2 X2 L2 P2 A2 k3
 go_wp2_with fail
 refine (HM.out _ K3 P3).mono ?_
 rintro e w4 ⟨g2, B2, m2, c2, er, rfl, k4, hp4⟩
 have K4 := K3.trans k4
 have X4 := X3.kept k4 ne2
 have L4 := L3.kept k4 nf2
 have A4 := A3.keep (Q := fun g => (P g ∨ w.heap.size ≤ g) ∧ g ≠ w.heap.size + 1) k4 (fun g hg hl => ⟨hg.2.1, hg.1, hg.2.2.2⟩)
 have lt3 := X4.lt
 have lt4 := L4.lt
 have hx4 : x < w4.heap.size := by have := k4.size; omega
 have na1 : x ≠ w4.heap.size := by omega
 have na2 : w4.heap.size ≠ x := by omega
 have na4 : w.heap.size + 1 ≠ w4.heap.size := by omega
 have na5 : w4.heap.size ≠ w.heap.size + 1 := by omega
 have na6 : w.heap.size ≠ w4.heap.size := by omega
 have na7 : w4.heap.size ≠ w.heap.size := by omega
 unfold nodeV
 rcases hp4 with ⟨kb, k', ho, rfl, hn2, hB2, hP⟩ | ⟨bad, kk, ho, hi, rfl, hP⟩
 · have HO := hid ho
   have HP := hid hP
   clear ho hP P3
   have B4 := hB2.keep (Q := fun g => (P g ∨ w.heap.size ≤ g) ∧ g ≠ w.heap.size + 1) (Kept.refl w4.heap.size w4) (fun g hg hl => ⟨by omega, Or.inr (by omega), by omega⟩)
   obtain ⟨d0, d1, d2, d3, d4, d5, d6, d7, d8, d9, dz0, dz1, dz2, dz3, dz4, dz5, dz6, dz7, dz8, dz9⟩ := (L4).cells
   obtain ⟨f0, f1, f2, f3, f4, f5, f6, f7, f8, f9, z0, z1, z2, z3, z4, z5, z6, z7, z8, z9⟩ := (X4).cells
   go_wp2_with fail
   refine bodyPost_ret (v := .tuple #[.agg #[.int .i64 5, .int .i64 0, .int .i64 0, .string { data := #[] }, .int .i64 0, .int .i64 0, .int .i64 0, .int .i64 0, .string (str op), .slice (some ⟨w4.heap.size + 1, 0, none⟩) 2 2], .nilIface]) (by simp [results, results129, go_sem, f0, f1, f2, f3, f4, f5, f6, f7, f8, f9, lt3, lt4]) rfl (cpair_fin (c := c) (d := c2) (b := w.heap.size + 1) K4 HP.out HO.out hn hn2 A4 B4 ⟨Or.inr (by omega), by omega⟩ (by omega) hxw ?_ (by rw [row_at2 _ _ _ (show _ = w4.heap.size by simp)]; rfl))
   repeat (with_reducible first | exact Kept.refl _ _ | refine Kept.setCell ?_ _ _ | refine Kept.alloc ?_ _)
 · obtain ⟨T, u, hT⟩ := errV_some bad
   have HO := hid (show binF op ⟨f, kd⟩ (F (k + 1)) = .error bad by rw [ho]; rfl)
   have P4 := hid hP
   clear ho hP P3
   rw [hT]
   obtain ⟨f0, f1, f2, f3, f4, f5, f6, f7, f8, f9, z0, z1, z2, z3, z4, z5, z6, z7, z8, z9⟩ := (X4).cells
   go_wp2_with fail
   refine bodyPost_ret (v := .tuple #[.agg jZ, .iface T u]) (by simp [results, results129, go_sem, f0, f1, f2, f3, f4, f5, f6, f7, f8, f9, lt3]) rfl (hT ▸ CPost.err (f := fld0) (A := none) (m := 0) (c := 0) (b := w.heap.size + 1) (V := w4) HO.out hi K4 P4.out (by omega) hxw ?_)
   repeat (with_reducible first | exact Kept.refl _ _ | refine Kept.setCell ?_ _ _ | refine Kept.alloc ?_ _)
theorem NLoc.store2 {w : World} {b n c : Nat} {f : Fld} {A : Option Addr} (h : NLoc w b f A n c) (g : Fld) (B : Option Addr) (m d : Nat) :
   NLoc ((((((((((w.setCell ⟨b, 0, none⟩ (.int .i64 g.k)).setCell ⟨b, 1, none⟩ (.int .i64 g.vk)).setCell ⟨b, 2, none⟩ (.int .i64 g.vn)).setCell ⟨b, 3, none⟩ (.string g.vs)).setCell ⟨b, 4, none⟩ (.int .i64 g.r1)).setCell ⟨b, 5, none⟩ (.int .i64 g.r2)).setCell ⟨b, 6, none⟩ (.int .i64 g.r3)).setCell ⟨b, 7, none⟩ (.int .i64 g.r4)).setCell ⟨b, 8, none⟩ (.string g.op)).setCell ⟨b, 9, none⟩ (.slice B m d)) b g B m d := by
 have h1 := h.at_
 exact ⟨by simp [World.setCell, Array.getElem?_modify, h1]⟩
def lenAt (w : World) (x : Nat) : Nat := match w.cell? ⟨x, 0, none⟩ with
 | some (.slice _ n _) => n
 | _ => 0
theorem Pc.len {w : World} {x k : Nat} {l : List Tok} {en nest : Int} (h : Pc w x l en k nest) : lenAt w x = l.length - k := by
 obtain ⟨A, c, h1, -⟩ := h.ex
 unfold lenAt
 rw [show w.cell? ⟨x, 0, none⟩ = some (.slice A (l.length - k) c) by simp [World.cell?, h1]]
def meas (v : Value) (w : World) (x : Nat) : Nat := match v with
 | .nilIface => lenAt w x + 1
 | _ => 0
theorem meas_nil (w : World) (x : Nat) : meas .nilIface w x = lenAt w x + 1 := rfl
theorem meas_err (w : World) (x : Nat) (b : Bad) : meas (errV b) w x = 0 := by
 obtain ⟨T, u, h⟩ := errV_some b
 rw [h]; rfl
def RMode (P : Nat → Prop) (x : Nat) (l : List Tok) (en nest : Int) (ss : List (List UInt8)) (part : Nat → Out) (O : Out) (wr : World) (f : Fld) (A : Option Addr) (m : Nat) (er : Value) : Prop :=
 (∃ kd k' r, O = rowF l part ss r ⟨f, kd⟩ k' ∧ er = .nilIface ∧ l.length < r + k' ∧ kd.len = m ∧ KidsAt wr P kd A ∧ Pc wr x l en k' nest) ∨
 (∃ b k2, O = .error b ∧ IsBad b ∧ er = errV b ∧ Pc wr x l en k2 nest)
def rowsF (l : List Tok) (ss : List (List UInt8)) (part : Nat → Out) (k : Nat) : Out := match part k with
 | .error e => .error e
 | .ok (a, k') => rowF l part ss 400 a k'
theorem rows_err {l : List Tok} {ss : List (List UInt8)} {part : Nat → Out} {k : Nat} {b : Bad} (h : part k = .error b) : rowsF l ss part k = .error b := by simp [rowsF, h]
theorem rows_go {l : List Tok} {ss : List (List UInt8)} {part : Nat → Out} {k k' : Nat} {a : Nd} (h : part k = .ok (a, k')) : rowsF l ss part k = rowF l part ss 400 a k' := by simp [rowsF, h]
theorem crow_isAdding {x k g : Nat} {l : List Tok} {en nest : Int} {F : Nat → Out} (eg : ∀ args w, (callFunc g args).run prog w = .ok (.enter g args) w) (w : World) (h : Pc w x l en k nest) (hl : l.length ≤ 300) (hF : Goes l F)
   (hm : ∀ k w', Kept x w w' → Pc w' x l en k nest → Calls prog g #[.pointer (some ⟨x, 0, none⟩)] w' (CPost w'.heap.size x l en nest (F k) w')) :
   Calls prog 149 #[.pointer (some ⟨x, 0, none⟩), .func (.func 150) #[] #[], .func (.func g) #[.pointer (some ⟨x, 0, none⟩)] #[]] w (CPost w.heap.size x l en nest (rowsF l sumS F k) w) := by
 have hxw := h.lt
 have HI := hid h
 clear h
 have ne1 : x ≠ w.heap.size := by omega
 have ne2 : w.heap.size ≠ x := by omega
 have HM := hid hm
 have HG := hid hF
 clear hm hF
 generalize hO : rowsF l sumS F k = O
 have HO := hid hO.symm
 clear hO
 have e9 : Enters 129 := fun _ _ => by kernel_rfl
 clear e9
 go_enter func149, ntmps149
 go_wp2_with fail
 have K1 : Kept x w (w.alloc (.cells jZ 31)) := (Kept.refl x w).alloc _
 have X1 := NBox.new w
 refine (HM.out _ _ K1 (HI.out.alloc _)).mono ?_
 generalize (w.alloc (.cells jZ 31)) = W1 at *
 have lt1 := X1.lt
 rintro e w3 ⟨f, A, m, c, er, rfl, k3, hp3⟩
 have X3 := X1.kept k3 ne2
 have K3 := K1.trans k3
 have lt3 := X3.lt
 have hx3 : x < w3.heap.size := by have := k3.size; omega
 have na1 : x ≠ w3.heap.size := by omega
 have na2 : w3.heap.size ≠ x := by omega
 have na4 : w.heap.size ≠ w3.heap.size := by omega
 have na5 : w3.heap.size ≠ w.heap.size := by omega
 unfold nodeV
 have L4 : NLoc (w3.alloc (.cells (jN f A m c) 31)) w3.heap.size f A m c := ⟨heap_alloc_new _ _⟩
 have X4 := X3.kept ((Kept.refl x w3).alloc (.cells (jN f A m c) 31)) ne2
 have K4 := K3.alloc (.cells (jN f A m c) 31)
 have R4 : RMode (fun g => w.heap.size < g ∧ g ≠ w3.heap.size) x l en nest sumS F O (w3.alloc (.cells (jN f A m c) 31)) f A m er := by
   rcases hp3 with ⟨kd, k', ho, he, hn, hA, hP⟩ | ⟨bad, k2, ho, hi, he, hP⟩
   · exact Or.inl ⟨kd, k', 400, HO.out.trans (rows_go ho), he, by omega, hn, hA.keep ((Kept.refl x w3).alloc _) (fun g hg hl => ⟨by omega, by omega, by omega⟩), hP.alloc _⟩
   · exact Or.inr ⟨bad, k2, HO.out.trans (rows_err ho), hi, he, hP.alloc _⟩
 have s4 := L4.lt
 clear hp3 X3 K3 X1 K1 HI
 go_wp2_with fail
 generalize (w3.alloc (.cells (jN f A m c) 31)) = V at *
 have H4 := hid (show ∃ f A m c, NLoc V w3.heap.size f A m c ∧ RMode (fun g => w.heap.size < g ∧ g ≠ w3.heap.size) x l en nest sumS F O V f A m er from ⟨f, A, m, c, L4, R4⟩)
 have HXK := hid (And.intro X4 K4)
 clear L4 R4 X4 K4 k3
 go_loopw [9] (fun v wr => Kept x w wr ∧ NBox wr w.heap.size ∧ w3.heap.size < wr.heap.size ∧ Hid (∃ f A m c, NLoc wr w3.heap.size f A m c ∧ RMode (fun g => w.heap.size < g ∧ g ≠ w3.heap.size) x l en nest sumS F O wr f A m v)) (fun v wr => meas v wr x)
 case atStart => exact ⟨HXK.out.2, HXK.out.1, s4, H4⟩
 case round =>
   obtain ⟨Kr, Xr, lr, Hr⟩ := hrel
   obtain ⟨fq, Aq, mq, cq, L, R⟩ := Hr.out
   clear Hr
   rcases R with ⟨kd, k', r, hO, rfl, hr, hn, hA, hP⟩ | ⟨bad, kk, hO, hi, rfl, hP⟩
   · have hle := hP.le
     obtain ⟨r, rfl⟩ : ∃ q, r = q + 1 := ⟨r - 1, by omega⟩
     have hM : lenAt wr x = l.length - k' := hP.len
     have P4 := hid hP
     have hOO := hid hO
     clear hP hO
     go_wp2_with fail
     refine (csees_isAdding wr P4.out hl).mono ?_; rintro e w5 ⟨rfl, hb5⟩
     have k5 : Kept x wr w5 := Kept.of hb5
     have X5 := Xr.kept k5 ne2
     have K5 := Kr.trans k5
     have P5 := hid (P4.out.below hb5)
     have L5 := L.kept k5 na2
     have A5 := hA.keep (Q := fun g => w.heap.size < g ∧ g ≠ w3.heap.size) k5 (fun g hg hl => ⟨by omega, hg⟩)
     have s5 := L5.lt
     have t5 := X5.lt
     clear P4 hA hb5 k5 L Xr Kr
     cases ho : oneOf l k' sumS with
     | none =>
       have E := hid (hOO.out.trans (row_end ho))
       obtain ⟨d0, d1, d2, d3, d4, d5, d6, d7, d8, d9, dz0, dz1, dz2, dz3, dz4, dz5, dz6, dz7, dz8, dz9⟩ := (L5).cells
       obtain ⟨f0, f1, f2, f3, f4, f5, f6, f7, f8, f9, z0, z1, z2, z3, z4, z5, z6, z7, z8, z9⟩ := (X5).cells
       go_wp2_with fail
       refine bodyPost_ret (v := .tuple #[.agg (jN fq Aq mq cq), .nilIface]) (by simp [results, results149, go_sem, f0, f1, f2, f3, f4, f5, f6, f7, f8, f9]) rfl (CPost.ok (f := fq) (A := Aq) (m := mq) (c := cq) (b := w.heap.size) (V := w5) E.out K5 P5.out hn (A5.keep (Q := fun g => w.heap.size ≤ g ∧ g ≠ w.heap.size) (Kept.refl w5.heap.size w5) (fun g hg hl => ⟨by omega, by omega, by omega⟩)) (Nat.le_refl _) hxw ?_)
       repeat (with_reducible first | exact Kept.refl _ _ | refine Kept.setCell ?_ _ _ | refine Kept.alloc ?_ _)
     | some op =>
       obtain ⟨t, ht, hop⟩ := one_tok ho
       obtain ⟨d0, d1, d2, d3, d4, d5, d6, d7, d8, d9, dz0, dz1, dz2, dz3, dz4, dz5, dz6, dz7, dz8, dz9⟩ := (L5).cells
       go_wp2_with fail
       have HB := cbinary (P := fun g => w.heap.size < g ∧ g ≠ w3.heap.size) (F := F) (f := fq) (A := Aq) (m := mq) (c := cq) (kd := kd) (pre := #[.pointer (some ⟨x, 0, none⟩)]) (post := #[]) eg w5 P5.out hl ht hop A5 hn (fun g hg => by omega) (fun w' hk hp => HM.out _ w' (K5.trans hk) hp)
       unfold nodeV at HB
       refine HB.mono ?_
       rintro e w6 ⟨g3, B3, m3, c3, er3, rfl, k6, hp6⟩
       clear HB d0 d1 d2 d3 d4 d5 d6 d7 d8 d9 dz0 dz1 dz2 dz3 dz4 dz5 dz6 dz7 dz8 dz9
       have K6 := K5.trans k6
       have X6 := X5.kept k6 ne2
       have L6 := L5.kept k6 na2
       have s6 := L6.lt
       have t6 := X6.lt
       unfold nodeV
       have KW : Kept w3.heap.size w6 ((((((((((w6.setCell ⟨w3.heap.size, 0, none⟩ (.int .i64 g3.k)).setCell ⟨w3.heap.size, 1, none⟩ (.int .i64 g3.vk)).setCell ⟨w3.heap.size, 2, none⟩ (.int .i64 g3.vn)).setCell ⟨w3.heap.size, 3, none⟩ (.string g3.vs)).setCell ⟨w3.heap.size, 4, none⟩ (.int .i64 g3.r1)).setCell ⟨w3.heap.size, 5, none⟩ (.int .i64 g3.r2)).setCell ⟨w3.heap.size, 6, none⟩ (.int .i64 g3.r3)).setCell ⟨w3.heap.size, 7, none⟩ (.int .i64 g3.r4)).setCell ⟨w3.heap.size, 8, none⟩ (.string g3.op)).setCell ⟨w3.heap.size, 9, none⟩ (.slice B3 m3 c3)) := by
         repeat (with_reducible first | exact Kept.refl _ _ | refine Kept.setCell ?_ _ _ | refine Kept.alloc ?_ _)
       have LW := L6.store2 g3 B3 m3 c3
       have RW : RMode (fun g => w.heap.size < g ∧ g ≠ w3.heap.size) x l en nest sumS F O ((((((((((w6.setCell ⟨w3.heap.size, 0, none⟩ (.int .i64 g3.k)).setCell ⟨w3.heap.size, 1, none⟩ (.int .i64 g3.vk)).setCell ⟨w3.heap.size, 2, none⟩ (.int .i64 g3.vn)).setCell ⟨w3.heap.size, 3, none⟩ (.string g3.vs)).setCell ⟨w3.heap.size, 4, none⟩ (.int .i64 g3.r1)).setCell ⟨w3.heap.size, 5, none⟩ (.int .i64 g3.r2)).setCell ⟨w3.heap.size, 6, none⟩ (.int .i64 g3.r3)).setCell ⟨w3.heap.size, 7, none⟩ (.int .i64 g3.r4)).setCell ⟨w3.heap.size, 8, none⟩ (.string g3.op)).setCell ⟨w3.heap.size, 9, none⟩ (.slice B3 m3 c3)) g3 B3 m3 er3 ∧ meas er3 ((((((((((w6.setCell ⟨w3.heap.size, 0, none⟩ (.int .i64 g3.k)).setCell ⟨w3.heap.size, 1, none⟩ (.int .i64 g3.vk)).setCell ⟨w3.heap.size, 2, none⟩ (.int .i64 g3.vn)).setCell ⟨w3.heap.size, 3, none⟩ (.string g3.vs)).setCell ⟨w3.heap.size, 4, none⟩ (.int .i64 g3.r1)).setCell ⟨w3.heap.size, 5, none⟩ (.int .i64 g3.r2)).setCell ⟨w3.heap.size, 6, none⟩ (.int .i64 g3.r3)).setCell ⟨w3.heap.size, 7, none⟩ (.int .i64 g3.r4)).setCell ⟨w3.heap.size, 8, none⟩ (.string g3.op)).setCell ⟨w3.heap.size, 9, none⟩ (.slice B3 m3 c3)) x < meas .nilIface wr x := by
         rw [meas_nil, hM]
         rcases hp6 with ⟨kd2, k2, hq, rfl, hn2, hA2, hP2⟩ | ⟨bad, k2, hq, hi, rfl, hP2⟩
         · cases hf : F (k' + 1) with
           | error b => rw [hf] at hq; cases hq
           | ok q =>
             obtain ⟨b, k3⟩ := q
             rw [hf] at hq
             injection hq with hq; injection hq with hq hk
             subst hk
             have hg := HG.out _ _ _ hf
             have hPW := hP2.kept KW hx3
             refine ⟨Or.inl ⟨kd2, k3, r, ?_, rfl, by omega, hn2, hA2.keep KW (fun g hg hl => ⟨by omega, by omega, by omega⟩), hPW⟩, ?_⟩
             · rw [hOO.out, row_go ho hf, hq]
             · rw [meas_nil, hPW.len]; omega
         · cases hf : F (k' + 1) with
           | error b =>
             rw [hf] at hq
             injection hq with hq
             subst hq
             exact ⟨Or.inr ⟨b, k2, hOO.out.trans (row_bad ho hf), hi, rfl, hP2.kept KW hx3⟩, by rw [meas_err]; omega⟩
           | ok q => rw [hf] at hq; cases hq
       have XW := X6.kept KW na4
       have sW : w3.heap.size < (((((((((((w6.setCell ⟨w3.heap.size, 0, none⟩ (.int .i64 g3.k)).setCell ⟨w3.heap.size, 1, none⟩ (.int .i64 g3.vk)).setCell ⟨w3.heap.size, 2, none⟩ (.int .i64 g3.vn)).setCell ⟨w3.heap.size, 3, none⟩ (.string g3.vs)).setCell ⟨w3.heap.size, 4, none⟩ (.int .i64 g3.r1)).setCell ⟨w3.heap.size, 5, none⟩ (.int .i64 g3.r2)).setCell ⟨w3.heap.size, 6, none⟩ (.int .i64 g3.r3)).setCell ⟨w3.heap.size, 7, none⟩ (.int .i64 g3.r4)).setCell ⟨w3.heap.size, 8, none⟩ (.string g3.op)).setCell ⟨w3.heap.size, 9, none⟩ (.slice B3 m3 c3))).heap.size := LW.lt
       have KWx := K6.then_ KW (by omega)
       clear hp6
       obtain ⟨d0, d1, d2, d3, d4, d5, d6, d7, d8, d9, dz0, dz1, dz2, dz3, dz4, dz5, dz6, dz7, dz8, dz9⟩ := (L6).cells
       go_wp2_with fail
       generalize (((((((((((w6.setCell ⟨w3.heap.size, 0, none⟩ (.int .i64 g3.k)).setCell ⟨w3.heap.size, 1, none⟩ (.int .i64 g3.vk)).setCell ⟨w3.heap.size, 2, none⟩ (.int .i64 g3.vn)).setCell ⟨w3.heap.size, 3, none⟩ (.string g3.vs)).setCell ⟨w3.heap.size, 4, none⟩ (.int .i64 g3.r1)).setCell ⟨w3.heap.size, 5, none⟩ (.int .i64 g3.r2)).setCell ⟨w3.heap.size, 6, none⟩ (.int .i64 g3.r3)).setCell ⟨w3.heap.size, 7, none⟩ (.int .i64 g3.r4)).setCell ⟨w3.heap.size, 8, none⟩ (.string g3.op)).setCell ⟨w3.heap.size, 9, none⟩ (.slice B3 m3 c3))) = W at *
       go_roundw
       case rel => exact ⟨KWx, XW, sW, hid ⟨_, _, _, _, LW, RW.1⟩⟩
       case measure => exact RW.2
   · obtain ⟨T, u, hT⟩ := errV_some bad
     have HE := hid hO
     have P3 := hid hP
     have s5 := L.lt
     have t5 := Xr.lt
     clear hO hP
     rw [hT]
     obtain ⟨d0, d1, d2, d3, d4, d5, d6, d7, d8, d9, dz0, dz1, dz2, dz3, dz4, dz5, dz6, dz7, dz8, dz9⟩ := (L).cells
     obtain ⟨f0, f1, f2, f3, f4, f5, f6, f7, f8, f9, z0, z1, z2, z3, z4, z5, z6, z7, z8, z9⟩ := (Xr).cells
     go_wp2_with fail
     refine bodyPost_ret (v := .tuple #[.agg (jN fq Aq mq cq), .iface T u]) (by simp [results, results149, go_sem, f0, f1, f2, f3, f4, f5, f6, f7, f8, f9]) rfl (hT ▸ CPost.err (f := fq) (A := Aq) (m := mq) (c := cq) (b := w.heap.size) (V := wr) HE.out hi Kr P3.out (Nat.le_refl _) hxw ?_)
     repeat (with_reducible first | exact Kept.refl _ _ | refine Kept.setCell ?_ _ _ | refine Kept.alloc ?_ _)
theorem crow_isMultiplying {x k g : Nat} {l : List Tok} {en nest : Int} {F : Nat → Out} (eg : ∀ args w, (callFunc g args).run prog w = .ok (.enter g args) w) (w : World) (h : Pc w x l en k nest) (hl : l.length ≤ 300) (hF : Goes l F)
   (hm : ∀ k w', Kept x w w' → Pc w' x l en k nest → Calls prog g #[.pointer (some ⟨x, 0, none⟩)] w' (CPost w'.heap.size x l en nest (F k) w')) :
   Calls prog 149 #[.pointer (some ⟨x, 0, none⟩), .func (.func 175) #[] #[], .func (.func g) #[.pointer (some ⟨x, 0, none⟩)] #[]] w (CPost w.heap.size x l en nest (rowsF l mulS F k) w) := by
 have hxw := h.lt
 have HI := hid h
 clear h
 have ne1 : x ≠ w.heap.size := by omega
 have ne2 : w.heap.size ≠ x := by omega
 have HM := hid hm
 have HG := hid hF
 clear hm hF
 generalize hO : rowsF l mulS F k = O
 have HO := hid hO.symm
 clear hO
 have e9 : Enters 129 := fun _ _ => by kernel_rfl
 clear e9
 go_enter func149, ntmps149
 go_wp2_with fail
 have K1 : Kept x w (w.alloc (.cells jZ 31)) := (Kept.refl x w).alloc _
 have X1 := NBox.new w
 refine (HM.out _ _ K1 (HI.out.alloc _)).mono ?_
 generalize (w.alloc (.cells jZ 31)) = W1 at *
 have lt1 := X1.lt
 rintro e w3 ⟨f, A, m, c, er, rfl, k3, hp3⟩
 have X3 := X1.kept k3 ne2
 have K3 := K1.trans k3
 have lt3 := X3.lt
 have hx3 : x < w3.heap.size := by have := k3.size; omega
 have na1 : x ≠ w3.heap.size := by omega
 have na2 : w3.heap.size ≠ x := by omega
 have na4 : w.heap.size ≠ w3.heap.size := by omega
 have na5 : w3.heap.size ≠ w.heap.size := by omega
 unfold nodeV
 have L4 : NLoc (w3.alloc (.cells (jN f A m c) 31)) w3.heap.size f A m c := ⟨heap_alloc_new _ _⟩
 have X4 := X3.kept ((Kept.refl x w3).alloc (.cells (jN f A m c) 31)) ne2
 have K4 := K3.alloc (.cells (jN f A m c) 31)
 have R4 : RMode (fun g => w.heap.size < g ∧ g ≠ w3.heap.size) x l en nest mulS F O (w3.alloc (.cells (jN f A m c) 31)) f A m er := by
   rcases hp3 with ⟨kd, k', ho, he, hn, hA, hP⟩ | ⟨bad, k2, ho, hi, he, hP⟩
   · exact Or.inl ⟨kd, k', 400, HO.out.trans (rows_go ho), he, by omega, hn, hA.keep ((Kept.refl x w3).alloc _) (fun g hg hl => ⟨by omega, by omega, by omega⟩), hP.alloc _⟩
   · exact Or.inr ⟨bad, k2, HO.out.trans (rows_err ho), hi, he, hP.alloc _⟩
 have s4 := L4.lt
 clear hp3 X3 K3 X1 K1 HI
 go_wp2_with fail
 generalize (w3.alloc (.cells (jN f A m c) 31)) = V at *
 have H4 := hid (show ∃ f A m c, NLoc V w3.heap.size f A m c ∧ RMode (fun g => w.heap.size < g ∧ g ≠ w3.heap.size) x l en nest mulS F O V f A m er from ⟨f, A, m, c, L4, R4⟩)
 have HXK := hid (And.intro X4 K4)
 clear L4 R4 X4 K4 k3
 go_loopw [9] (fun v wr => Kept x w wr ∧ NBox wr w.heap.size ∧ w3.heap.size < wr.heap.size ∧ Hid (∃ f A m c, NLoc wr w3.heap.size f A m c ∧ RMode (fun g => w.heap.size < g ∧ g ≠ w3.heap.size) x l en nest mulS F O wr f A m v)) (fun v wr => meas v wr x)
 case atStart => exact ⟨HXK.out.2, HXK.out.1, s4, H4⟩
 case round =>
   obtain ⟨Kr, Xr, lr, Hr⟩ := hrel
   obtain ⟨fq, Aq, mq, cq, L, R⟩ := Hr.out
   clear Hr
   rcases R with ⟨kd, k', r, hO, rfl, hr, hn, hA, hP⟩ | ⟨bad, kk, hO, hi, rfl, hP⟩
   · have hle := hP.le
     obtain ⟨r, rfl⟩ : ∃ q, r = q + 1 := ⟨r - 1, by omega⟩
     have hM : lenAt wr x = l.length - k' := hP.len
     have P4 := hid hP
     have hOO := hid hO
     clear hP hO
     go_wp2_with fail
     refine (csees_isMultiplying wr P4.out hl).mono ?_; rintro e w5 ⟨rfl, hb5⟩
     have k5 : Kept x wr w5 := Kept.of hb5
     have X5 := Xr.kept k5 ne2
     have K5 := Kr.trans k5
     have P5 := hid (P4.out.below hb5)
     have L5 := L.kept k5 na2
     have A5 := hA.keep (Q := fun g => w.heap.size < g ∧ g ≠ w3.heap.size) k5 (fun g hg hl => ⟨by omega, hg⟩)
     have s5 := L5.lt
     have t5 := X5.lt
     clear P4 hA hb5 k5 L Xr Kr
     cases ho : oneOf l k' mulS with
     | none =>
       have E := hid (hOO.out.trans (row_end ho))
       obtain ⟨d0, d1, d2, d3, d4, d5, d6, d7, d8, d9, dz0, dz1, dz2, dz3, dz4, dz5, dz6, dz7, dz8, dz9⟩ := (L5).cells
       obtain ⟨f0, f1, f2, f3, f4, f5, f6, f7, f8, f9, z0, z1, z2, z3, z4, z5, z6, z7, z8, z9⟩ := (X5).cells
       go_wp2_with fail
       refine bodyPost_ret (v := .tuple #[.agg (jN fq Aq mq cq), .nilIface]) (by simp [results, results149, go_sem, f0, f1, f2, f3, f4, f5, f6, f7, f8, f9]) rfl (CPost.ok (f := fq) (A := Aq) (m := mq) (c := cq) (b := w.heap.size) (V := w5) E.out K5 P5.out hn (A5.keep (Q := fun g => w.heap.size ≤ g ∧ g ≠ w.heap.size) (Kept.refl w5.heap.size w5) (fun g hg hl => ⟨by omega, by omega, by omega⟩)) (Nat.le_refl _) hxw ?_)
       repeat (with_reducible first | exact Kept.refl _ _ | refine Kept.setCell ?_ _ _ | refine Kept.alloc ?_ _)
     | some op =>
       obtain ⟨t, ht, hop⟩ := one_tok ho
       obtain ⟨d0, d1, d2, d3, d4, d5, d6, d7, d8, d9, dz0, dz1, dz2, dz3, dz4, dz5, dz6, dz7, dz8, dz9⟩ := (L5).cells
       go_wp2_with fail
       have HB := cbinary (P := fun g => w.heap.size < g ∧ g ≠ w3.heap.size) (F := F) (f := fq) (A := Aq) (m := mq) (c := cq) (kd := kd) (pre := #[.pointer (some ⟨x, 0, none⟩)]) (post := #[]) eg w5 P5.out hl ht hop A5 hn (fun g hg => by omega) (fun w' hk hp => HM.out _ w' (K5.trans hk) hp)
       unfold nodeV at HB
       refine HB.mono ?_
       rintro e w6 ⟨g3, B3, m3, c3, er3, rfl, k6, hp6⟩
       clear HB d0 d1 d2 d3 d4 d5 d6 d7 d8 d9 dz0 dz1 dz2 dz3 dz4 dz5 dz6 dz7 dz8 dz9
       have K6 := K5.trans k6
       have X6 := X5.kept k6 ne2
       have L6 := L5.kept k6 na2
       have s6 := L6.lt
       have t6 := X6.lt
       unfold nodeV
       have KW : Kept w3.heap.size w6 ((((((((((w6.setCell ⟨w3.heap.size, 0, none⟩ (.int .i64 g3.k)).setCell ⟨w3.heap.size, 1, none⟩ (.int .i64 g3.vk)).setCell ⟨w3.heap.size, 2, none⟩ (.int .i64 g3.vn)).setCell ⟨w3.heap.size, 3, none⟩ (.string g3.vs)).setCell ⟨w3.heap.size, 4, none⟩ (.int .i64 g3.r1)).setCell ⟨w3.heap.size, 5, none⟩ (.int .i64 g3.r2)).setCell ⟨w3.heap.size, 6, none⟩ (.int .i64 g3.r3)).setCell ⟨w3.heap.size, 7, none⟩ (.int .i64 g3.r4)).setCell ⟨w3.heap.size, 8, none⟩ (.string g3.op)).setCell ⟨w3.heap.size, 9, none⟩ (.slice B3 m3 c3)) := by
         repeat (with_reducible first | exact Kept.refl _ _ | refine Kept.setCell ?_ _ _ | refine Kept.alloc ?_ _)
       have LW := L6.store2 g3 B3 m3 c3
       have RW : RMode (fun g => w.heap.size < g ∧ g ≠ w3.heap.size) x l en nest mulS F O ((((((((((w6.setCell ⟨w3.heap.size, 0, none⟩ (.int .i64 g3.k)).setCell ⟨w3.heap.size, 1, none⟩ (.int .i64 g3.vk)).setCell ⟨w3.heap.size, 2, none⟩ (.int .i64 g3.vn)).setCell ⟨w3.heap.size, 3, none⟩ (.string g3.vs)).setCell ⟨w3.heap.size, 4, none⟩ (.int .i64 g3.r1)).setCell ⟨w3.heap.size, 5, none⟩ (.int .i64 g3.r2)).setCell ⟨w3.heap.size, 6, none⟩ (.int .i64 g3.r3)).setCell ⟨w3.heap.size, 7, none⟩ (.int .i64 g3.r4)).setCell ⟨w3.heap.size, 8, none⟩ (.string g3.op)).setCell ⟨w3.heap.size, 9, none⟩ (.slice B3 m3 c3)) g3 B3 m3 er3 ∧ meas er3 ((((((((((w6.setCell ⟨w3.heap.size, 0, none⟩ (.int .i64 g3.k)).setCell ⟨w3.heap.size, 1, none⟩ (.int .i64 g3.vk)).setCell ⟨w3.heap.size, 2, none⟩ (.int .i64 g3.vn)).setCell ⟨w3.heap.size, 3, none⟩ (.string g3.vs)).setCell ⟨w3.heap.size, 4, none⟩ (.int .i64 g3.r1)).setCell ⟨w3.heap.size, 5, none⟩ (.int .i64 g3.r2)).setCell ⟨w3.heap.size, 6, none⟩ (.int .i64 g3.r3)).setCell ⟨w3.heap.size, 7, none⟩ (.int .i64 g3.r4)).setCell ⟨w3.heap.size, 8, none⟩ (.string g3.op)).setCell ⟨w3.heap.size, 9, none⟩ (.slice B3 m3 c3)) x < meas .nilIface wr x := by
         rw [meas_nil, hM]
         rcases hp6 with ⟨kd2, k2, hq, rfl, hn2, hA2, hP2⟩ | ⟨bad, k2, hq, hi, rfl, hP2⟩
         · cases hf : F (k' + 1) with
           | error b => rw [hf] at hq; cases hq
           | ok q =>
             obtain ⟨b, k3⟩ := q
             rw [hf] at hq
             injection hq with hq; injection hq with hq hk
             subst hk
             have hg := HG.out _ _ _ hf
             have hPW := hP2.kept KW hx3
             refine ⟨Or.inl ⟨kd2, k3, r, ?_, rfl, by omega, hn2, hA2.keep KW (fun g hg hl => ⟨by omega, by omega, by omega⟩), hPW⟩, ?_⟩
             · rw [hOO.out, row_go ho hf, hq]
             · rw [meas_nil, hPW.len]; omega
         · cases hf : F (k' + 1) with
           | error b =>
             rw [hf] at hq
             injection hq with hq
             subst hq
             exact ⟨Or.inr ⟨b, k2, hOO.out.trans (row_bad ho hf), hi, rfl, hP2.kept KW hx3⟩, by rw [meas_err]; omega⟩
           | ok q => rw [hf] at hq; cases hq
       have XW := X6.kept KW na4
       have sW : w3.heap.size < (((((((((((w6.setCell ⟨w3.heap.size, 0, none⟩ (.int .i64 g3.k)).setCell ⟨w3.heap.size, 1, none⟩ (.int .i64 g3.vk)).setCell ⟨w3.heap.size, 2, none⟩ (.int .i64 g3.vn)).setCell ⟨w3.heap.size, 3, none⟩ (.string g3.vs)).setCell ⟨w3.heap.size, 4, none⟩ (.int .i64 g3.r1)).setCell ⟨w3.heap.size, 5, none⟩ (.int .i64 g3.r2)).setCell ⟨w3.heap.size, 6, none⟩ (.int .i64 g3.r3)).setCell ⟨w3.heap.size, 7, none⟩ (.int .i64 g3.r4)).setCell ⟨w3.heap.size, 8, none⟩ (.string g3.op)).setCell ⟨w3.heap.size, 9, none⟩ (.slice B3 m3 c3))).heap.size := LW.lt
       have KWx := K6.then_ KW (by omega)
       clear hp6
       obtain ⟨d0, d1, d2, d3, d4, d5, d6, d7, d8, d9, dz0, dz1, dz2, dz3, dz4, dz5, dz6, dz7, dz8, dz9⟩ := (L6).cells
       go_wp2_with fail
       generalize (((((((((((w6.setCell ⟨w3.heap.size, 0, none⟩ (.int .i64 g3.k)).setCell ⟨w3.heap.size, 1, none⟩ (.int .i64 g3.vk)).setCell ⟨w3.heap.size, 2, none⟩ (.int .i64 g3.vn)).setCell ⟨w3.heap.size, 3, none⟩ (.string g3.vs)).setCell ⟨w3.heap.size, 4, none⟩ (.int .i64 g3.r1)).setCell ⟨w3.heap.size, 5, none⟩ (.int .i64 g3.r2)).setCell ⟨w3.heap.size, 6, none⟩ (.int .i64 g3.r3)).setCell ⟨w3.heap.size, 7, none⟩ (.int .i64 g3.r4)).setCell ⟨w3.heap.size, 8, none⟩ (.string g3.op)).setCell ⟨w3.heap.size, 9, none⟩ (.slice B3 m3 c3))) = W at *
       go_roundw
       case rel => exact ⟨KWx, XW, sW, hid ⟨_, _, _, _, LW, RW.1⟩⟩
       case measure => exact RW.2
   · obtain ⟨T, u, hT⟩ := errV_some bad
     have HE := hid hO
     have P3 := hid hP
     have s5 := L.lt
     have t5 := Xr.lt
     clear hO hP
     rw [hT]
     obtain ⟨d0, d1, d2, d3, d4, d5, d6, d7, d8, d9, dz0, dz1, dz2, dz3, dz4, dz5, dz6, dz7, dz8, dz9⟩ := (L).cells
     obtain ⟨f0, f1, f2, f3, f4, f5, f6, f7, f8, f9, z0, z1, z2, z3, z4, z5, z6, z7, z8, z9⟩ := (Xr).cells
     go_wp2_with fail
     refine bodyPost_ret (v := .tuple #[.agg (jN fq Aq mq cq), .iface T u]) (by simp [results, results149, go_sem, f0, f1, f2, f3, f4, f5, f6, f7, f8, f9]) rfl (hT ▸ CPost.err (f := fq) (A := Aq) (m := mq) (c := cq) (b := w.heap.size) (V := wr) HE.out hi Kr P3.out (Nat.le_refl _) hxw ?_)
     repeat (with_reducible first | exact Kept.refl _ _ | refine Kept.setCell ?_ _ _ | refine Kept.alloc ?_ _)
end Go.Proofs.YticehalcnbjccaaGreatDoor.TreeC
