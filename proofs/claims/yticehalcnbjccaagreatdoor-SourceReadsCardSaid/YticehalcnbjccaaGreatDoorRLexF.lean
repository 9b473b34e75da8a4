/-
  Contracts of lex's reference: Cut.
-/
import Derived.Test.YticehalcnbjccaaGreatDoorRLexB
import Derived.Test.YticehalcnbjccaaGreatDoorRAddrA
import Derived.Test.YticehalcnbjccaaGreatDoorRNumG
import Derived.Maps.AppendAt
import Derived.OwnWalk
import Derived.Deep.AppendLies
import Derived.Orders
namespace Go.Proofs.YticehalcnbjccaaGreatDoor.LexC
set_option maxRecDepth 100000
set_option maxHeartbeats 8000000
set_option linter.unusedVariables false
open Go.RowKit NumC
open Tryz
open Lib (hid)
def tcells (l : List Tok) : List Value := l.flatMap fun t => [.int .i64 t.k, .int .i64 t.n, .string t.s, .int .i64 t.at_]
theorem tcells_snoc (l : List Tok) (t : Tok) : tcells (l ++ [t]) = tcells l ++ [.int .i64 t.k, .int .i64 t.n, .string t.s, .int .i64 t.at_] := by unfold tcells; rw [List.flatMap_append]; rfl
theorem tok_info : (prog.info? 114).map (fun i => (i.zero, i.size, i.bytes)) = some (some (.agg #[.int .i64 0, .int .i64 0, .string { data := #[] }, .int .i64 0]), 4, 40) := by kernel_rfl
theorem own_below {w w' : World} {base : Nat} {e : TypeId} {size : Nat} {v : Value} {n : Nat} {xs : List Value} (h : w.ownsRow base e size v n xs) (hb : Below w.heap.size w w') : w'.ownsRow base e size v n xs := by
 obtain ⟨h1, h2 | ⟨g, cap, cur, h2, h3, h4, h5⟩⟩ := h
 · exact ⟨h1, Or.inl h2⟩
 · exact ⟨h1, Or.inr ⟨g, cap, cur, h2, h3, (hb.block g (Array.getElem?_eq_some_iff.1 h4).1).trans h4, h5⟩⟩
theorem own_nil (w : World) : w.ownsRow w.heap.size 114 4 (.slice none 0 0) 0 (tcells []) := ⟨rfl, Or.inl ⟨rfl, rfl⟩⟩
theorem own_nil0 (w : World) (base : Nat) : w.ownsRow base 114 4 (.slice none 0 0) 0 (tcells []) := ⟨rfl, Or.inl ⟨rfl, rfl⟩⟩
def CutPost (w : World) (r : Res) (e : Ending) (w' : World) : Prop :=
 ∃ v, e = .returned (.tuple #[v, .int .i64 r.at_, .int .i64 r.err]) ∧ w'.ownsRow w.heap.size 114 4 v r.toks.length (tcells r.toks) ∧ Below w.heap.size w w'
theorem txt_len : ∀ (l : List UInt8) (r : List UInt8 × Nat), txtL l = some r → r.2 ≤ l.length := by
 have key : ∀ (n : Nat) (l : List UInt8), l.length ≤ n → ∀ r, txtL l = some r → r.2 ≤ l.length := by
   intro n
   induction n with
   | zero => intro l hl r h; have : l = [] := List.length_eq_zero_iff.1 (by omega); subst this; cases h
   | succ n ih =>
     intro l hl r h
     cases l with
     | nil => cases h
     | cons c l =>
       by_cases hc : c = 34
       · subst hc
         by_cases h2 : ∃ l', l = 34 :: l'
         · obtain ⟨l', rfl⟩ := h2
           rw [txtL_two] at h
           obtain ⟨q, hq, rfl⟩ := Option.map_eq_some_iff.1 h
           have := ih l' (by simp at hl; omega) q hq
           simp; omega
         · rw [txtL_one (fun l' e => h2 ⟨l', e⟩)] at h
           injection h with h; subst h; simp
       · rw [txtL_no hc] at h
         obtain ⟨q, hq, rfl⟩ := Option.map_eq_some_iff.1 h
         have := ih l (by simp at hl; omega) q hq
         simp; omega
 exact fun l r h => key l.length l (Nat.le_refl _) r h
theorem next_len {c : UInt8} {l : List UInt8} {k n : Int} {s : List UInt8} {m : Nat} (h : nextL (c :: l) = some (k, n, s, m)) : 1 ≤ m ∧ m ≤ (c :: l).length := by
 have tw : ∀ (p : UInt8 → Bool), p c = true → 1 ≤ ((c :: l).takeWhile p).length ∧ ((c :: l).takeWhile p).length ≤ (c :: l).length := fun p hp => by
   refine ⟨?_, (List.takeWhile_sublist p).length_le⟩
   rw [List.takeWhile_cons, hp]; simp
 rw [nextL_cons, tokL] at h
 split at h
 · rename_i hd
   split at h
   · injection h with h; injection h with h1 h; injection h with h2 h; injection h with h3 h4
     rw [← h4]; exact tw _ hd
   · cases h
 · split at h
   · rename_i hl
     injection h with h; injection h with h1 h; injection h with h2 h; injection h with h3 h4
     rw [← h4]; exact tw _ (by unfold wordB; rw [hl]; rfl)
   · split at h
     · obtain ⟨r, hr, e⟩ := Option.map_eq_some_iff.1 h
       injection e with h1 e; injection e with h2 e; injection e with h3 h4
       have := txt_len l r hr
       simp; omega
     · unfold signT at h
       split at h
       · split at h
         · injection h with h; injection h with h1 h; injection h with h2 h; injection h with h3 h4
           rw [← h4]; simp
         · split at h
           · injection h with h; injection h with h1 h; injection h with h2 h; injection h with h3 h4
             rw [← h4]; simp
           · cases h
       · split at h
         · injection h with h; injection h with h1 h; injection h with h2 h; injection h with h3 h4
           rw [← h4]; simp
         · cases h
def Cutting (l : List UInt8) (i : Nat) (acc : List Tok) : Prop := cutF (l.length - i + 1) (l.drop i) i acc = cutL l
theorem Cutting.start {l : List UInt8} (h : l.length ≤ 300) : Cutting l 0 [] := by unfold Cutting cutL; rw [if_neg (by omega)]; simp
theorem Cutting.blank {l : List UInt8} {i : Nat} {acc : List Tok} (h : Cutting l i acc) (hi : i < l.length) (hc : l[i] = 32) : Cutting l (i + 1) acc := by
 unfold Cutting at *
 rw [show l.length - i + 1 = (l.length - (i + 1) + 1) + 1 from by omega, drop_cons hi, cutF, if_pos hc] at h; exact h
theorem cutF_fuel : ∀ (f g : Nat) (l : List UInt8) (i : Nat) (acc : List Tok), l.length < f → l.length < g → cutF f l i acc = cutF g l i acc := by
 intro f
 induction f with
 | zero => intro g l i acc h; omega
 | succ f ih =>
   intro g l i acc hf hg
   cases g with
   | zero => omega
   | succ g =>
     cases l with
     | nil => rfl
     | cons c l =>
       simp only [List.length_cons] at hf hg
       rw [cutF, cutF]
       by_cases hc : c = 32
       · rw [if_pos hc, if_pos hc]; exact ih g l _ _ (by omega) (by omega)
       · rw [if_neg hc, if_neg hc]
         cases hn : nextL (c :: l) with
         | none => rfl
         | some r =>
           obtain ⟨k, n, s, m⟩ := r
           have := next_len hn
           simp only
           apply ih
           · rw [List.length_drop]; simp only [List.length_cons] at *; omega
           · rw [List.length_drop]; simp only [List.length_cons] at *; omega
theorem Cutting.none_ {l : List UInt8} {i : Nat} {acc : List Tok} (h : Cutting l i acc) (hi : i < l.length) (hc : l[i] ≠ 32) (hn : nextL (l.drop i) = none) : cutL l = ⟨[], i, 12⟩ := by
 unfold Cutting at h
 rw [drop_cons hi] at hn
 rw [show l.length - i + 1 = (l.length - (i + 1) + 1) + 1 from by omega, drop_cons hi, cutF, if_neg hc, hn] at h; exact h.symm
theorem Cutting.some_ {l : List UInt8} {i : Nat} {acc : List Tok} {k n : Int} {s : List UInt8} {m : Nat} (h : Cutting l i acc) (hi : i < l.length) (hc : l[i] ≠ 32) (hn : nextL (l.drop i) = some (k, n, s, m)) : Cutting l (i + m) (acc ++ [⟨k, n, str s, i⟩]) ∧ 1 ≤ m ∧ i + m ≤ l.length := by
 have e := drop_cons hi
 have hl := next_len (by rw [← e]; exact hn)
 rw [← e, List.length_drop] at hl
 refine ⟨?_, hl.1, by omega⟩
 unfold Cutting at *
 rw [show l.length - i + 1 = (l.length - (i + 1) + 1) + 1 from by omega, drop_cons hi, cutF, if_neg hc, ← drop_cons hi, hn] at h
 simp only [List.drop_drop] at h
 rw [← h]
 apply cutF_fuel
 · rw [List.length_drop]; omega
 · rw [List.length_drop]; omega
theorem Cutting.end_ {l : List UInt8} {i : Nat} {acc : List Tok} (h : Cutting l i acc) (hi : i = l.length) : cutL l = ⟨acc, 0, 0⟩ := by
 unfold Cutting at h
 rw [List.drop_eq_nil_of_le (by omega), cutF] at h; exact h.symm
theorem nextR_some {l : List UInt8} {i : Nat} {k n : Int} {s : List UInt8} {m : Nat} (h : nextL (l.drop i) = some (k, n, s, m)) : nextR l i = ((⟨k, n, str s, (i : Int)⟩ : Tok), (m : Int)) := by unfold nextR; rw [h]
theorem nextR_none {l : List UInt8} {i : Nat} (h : nextL (l.drop i) = none) : nextR l i = (zeroT, 0) := by unfold nextR; rw [h]
theorem rcut (s : ByteArray) (w : World) (hs : s.size ≤ 1000000) :
   Calls prog 29 #[.string s] w (CutPost w (cutL s.data.toList)) := by
 by_cases h3 : 300 < s.size
 · have E : Hid (cutL s.data.toList = ⟨[], 0, 2⟩) := hid (if_pos (by rw [← list_len]; exact h3))
   go_enter func29, ntmps29
   go_wp2
   refine bodyPost_ret (results_tmp3 rfl _ _ _) rfl ?_
   rw [E.out]
   exact ⟨_, rfl, own_nil w, Below.refl _ _⟩
 · obtain ⟨i0, hi0, hz0, hz1, hz2⟩ := info_parts tok_info
   have HZ0 := hid hz0; have HZ1 := hid hz1; have HZ2 := hid hz2; have HI0 := hid hi0
   clear hz0 hz1 hz2 hi0
   go_enter func29, ntmps29
   go_wp2
   go_loopw [5, 6] (fun lv a wr => ∃ (i : Nat) (acc : List Tok), i ≤ s.size ∧ acc.length ≤ i ∧ a = .int .i64 i ∧ Hid (wr.ownsRow w.heap.size 114 4 lv acc.length (tcells acc)) ∧ Below w.heap.size w wr ∧ Hid (Cutting s.data.toList i acc)) (fun _ a _ => s.size - (intOf a).toNat)
   case atStart => exact ⟨0, [], Nat.zero_le _, Nat.zero_le _, rfl, hid (own_nil w), Below.refl _ _, hid (Cutting.start (by rw [← list_len]; omega))⟩
   case round =>
     obtain ⟨i, acc, hi, hac, rfl, HO, hB, HC⟩ := hrel
     by_cases hlt : i < s.size
     · have hll : i < s.data.toList.length := by rw [← list_len]; exact hlt
       by_cases h32 : s[i].toNat = 32
       · have c1 : ((s[i].toNat : Int) == 32) = true := by rw [h32]; rfl
         have HC2 := hid (HC.out.blank hll (UInt8.toNat_inj.1 h32))
         clear h32
         go_wp2
         go_roundw
         case rel => exact ⟨i + 1, acc, by omega, by omega, by go_num, HO, hB, HC2⟩
         case measure => simp [intOf]; omega
       · have c1 : ((s[i].toNat : Int) == 32) = false := beq_eq_false_iff_ne.2 (by omega)
         have n32 : s.data.toList[i] ≠ 32 := fun e => h32 (by have : s[i] = 32 := e; rw [this]; rfl)
         cases hn : nextL (s.data.toList.drop i) with
         | none =>
           have E := hid (HC.out.none_ hll n32 hn)
           have R := hid (nextR_none hn)
           clear hn n32 h32
           go_wp2_with fail
           refine (rnext s i _ hs hlt).mono ?_; rw [R.out]; rintro e w1 ⟨rfl, hb1⟩
           unfold tokV zeroT nob
           go_wp2
           refine bodyPost_ret (results_tmp3 rfl _ _ _) rfl ?_
           rw [E.out]
           exact ⟨_, rfl, own_nil0 _ _, (hB.trans (hb1.mono hB.size)).alloc (by have := hB.size; have := hb1.size; omega) _⟩
         | some r =>
           obtain ⟨k, n, sx, m⟩ := r
           have HS := hid (HC.out.some_ hll n32 hn)
           have R := hid (nextR_some hn)
           have hm := HS.out.2
           have hm3 : (i : Int) + (m : Int) ≤ 300 := by have := list_len s; omega
           have hm4 : i + m ≤ s.size := by have := list_len s; omega
           clear hn n32 h32
           go_wp2_with fail
           refine (rnext s i _ hs hlt).mono ?_; rw [R.out]; rintro e w1 ⟨rfl, hb1⟩
           have m0 : ((m : Int) == 0) = false := beq_eq_false_iff_ne.2 (by omega)
           unfold tokV
           have hBW : Below wr.heap.size wr ((w1.alloc (.cells #[.int .i64 k, .int .i64 n, .string (str sx), .int .i64 i] 114)).alloc (.cells #[.int .i64 k, .int .i64 n, .string (str sx), .int .i64 i] 114)) := (hb1.alloc hb1.size _).alloc (by have := hb1.size; simp; omega) _
           have HOW := own_below HO.out hBW
           have hlo := World.ownsRow.lt HOW
           have hnb : ((w1.alloc (.cells #[.int .i64 k, .int .i64 n, .string (str sx), .int .i64 i] 114)).alloc (.cells #[.int .i64 k, .int .i64 n, .string (str sx), .int .i64 i] 114)).heap[w1.heap.size + 1]? = some (.cells #[.int .i64 k, .int .i64 n, .string (str sx), .int .i64 i] 114) := by
             rw [← heap_one w1 (.cells #[.int .i64 k, .int .i64 n, .string (str sx), .int .i64 i] 114)]; exact heap_alloc_new _ _
           have hBn := hB.trans (hBW.mono hB.size)
           have HH := hid HOW; have HL := hid hlo; have HNB := hid hnb
           clear hlo hnb HOW
           go_wp2_with (at_builtin
                        refine wpList_append_own_at _ rfl (.tmp 31) (.tmp 33) _ rfl w.heap.size 114 i0 _ 4 40 underlying77 HI0.out HZ0.out HZ1.out HZ2.out rfl (by omega) u5 acc.length (tcells acc) rfl HH.out ⟨w1.heap.size + 1, 0, none⟩ 1 1 [.int .i64 k, .int .i64 n, .string (str sx), .int .i64 i] rfl rfl (World.news_of_block HNB.out) (by simp [Value.oneCell']) (by unfold maxLen; omega) (by omega) hBn.size ?_
                        intro v2 w2 hown2 hg2 hnil2 hat2
                        have HO2 : Hid (w2.ownsRow w.heap.size 114 4 v2 (acc ++ [(⟨k, n, str sx, i⟩ : Tok)]).length (tcells (acc ++ [(⟨k, n, str sx, i⟩ : Tok)]))) := hid (by rw [tcells_snoc, List.length_append]; exact hown2)
                        have hB2 := hBn.grown hg2 hBn.size (fun k hk => (HL.out k hk).1)
                        clear hown2 hg2 hnil2 hat2)
           go_roundw
           case rel => exact ⟨i + m, acc ++ [⟨k, n, str sx, i⟩], hm4, by simp; omega, by go_num, HO2, hB2, hid HS.out.1⟩
           case measure => simp [intOf]; omega
     · have E := hid (HC.out.end_ (by rw [← list_len]; omega))
       go_wp2
       refine bodyPost_ret (results_tmp3 rfl _ _ _) rfl ?_
       rw [E.out]
       exact ⟨_, rfl, HO.out, hB⟩
end Go.Proofs.YticehalcnbjccaaGreatDoor.LexC
namespace Go.Proofs.YticehalcnbjccaaGreatDoor.LexC
set_option maxRecDepth 100000
set_option maxHeartbeats 8000000
set_option linter.unusedVariables false
open Go.RowKit NumC
structure TokAt (w : World) (v : Value) (l : List Tok) : Prop where
 form : ∃ A c, v = .slice A l.length c ∧ ∀ i (h : i < l.length), ∃ g, A = some ⟨g, 0, none⟩ ∧
   w.cell? ⟨g, i * 4, none⟩ = some (.int .i64 l[i].k) ∧ w.cell? ⟨g, i * 4 + 1, none⟩ = some (.int .i64 l[i].n) ∧ w.cell? ⟨g, i * 4 + 2, none⟩ = some (.string l[i].s) ∧ w.cell? ⟨g, i * 4 + 3, none⟩ = some (.int .i64 l[i].at_)
theorem tcells_at : ∀ (l : List Tok) (i : Nat) (h : i < l.length), (tcells l)[i * 4]? = some (.int .i64 l[i].k) ∧ (tcells l)[i * 4 + 1]? = some (.int .i64 l[i].n) ∧ (tcells l)[i * 4 + 2]? = some (.string l[i].s) ∧ (tcells l)[i * 4 + 3]? = some (.int .i64 l[i].at_)
 | [], i, h => by simp at h
 | t :: l, 0, h => ⟨rfl, rfl, rfl, rfl⟩
 | t :: l, i + 1, h => by
   have := tcells_at l i (by simpa using h)
   have e (j : Nat) : (tcells (t :: l))[(i + 1) * 4 + j]? = (tcells l)[i * 4 + j]? := by
     show (([.int .i64 t.k, .int .i64 t.n, .string t.s, .int .i64 t.at_] : List Value) ++ tcells l)[(i + 1) * 4 + j]? = _
     rw [List.getElem?_append_right (by simp; omega)]
     congr 1; simp; omega
   refine ⟨?_, ?_, ?_, ?_⟩
   · have := e 0; simp only [Nat.add_zero] at this; rw [this]; simp only [List.getElem_cons_succ]; exact (tcells_at l i (by simpa using h)).1
   · rw [e 1]; simp only [List.getElem_cons_succ]; exact this.2.1
   · rw [e 2]; simp only [List.getElem_cons_succ]; exact this.2.2.1
   · rw [e 3]; simp only [List.getElem_cons_succ]; exact this.2.2.2
theorem tokAt_own {w : World} {base : Nat} {e : TypeId} {v : Value} {l : List Tok} (h : w.ownsRow base e 4 v l.length (tcells l)) : TokAt w v l := by
 obtain ⟨h1, ⟨h2, h3⟩ | ⟨g, cap, cur, h2, h3, h4, h5, h6, h7, h8⟩⟩ := h
 · exact ⟨none, 0, by rw [h2, h3], fun i h => by omega⟩
 · refine ⟨some ⟨g, 0, none⟩, cap, h2, fun i h => ⟨g, rfl, ?_⟩⟩
   have key (j : Nat) (u : Value) (hu : (tcells l)[j]? = some u) : w.cell? ⟨g, j, none⟩ = some u := by
     rw [cell_of_row w g j cur e (0, 0) h4]
     rw [← h8, List.getElem?_take] at hu
     split at hu
     · rw [← hu, Array.getElem?_toList]
     · cases hu
   have := tcells_at l i h
   exact ⟨key _ _ this.1, key _ _ this.2.1, key _ _ this.2.2.1, key _ _ this.2.2.2⟩
end Go.Proofs.YticehalcnbjccaaGreatDoor.LexC
namespace Go.Proofs.YticehalcnbjccaaGreatDoor.TreeC
set_option maxRecDepth 100000
set_option maxHeartbeats 8000000
set_option linter.unusedVariables false
open Go.RowKit NumC LexC
open Cd
structure Kept (x : Nat) (w w' : World) : Prop where
 os : w'.os = w.os
 tape : w'.tape = w.tape
 output : w'.output = w.output
 size : w.heap.size ≤ w'.heap.size
 block : ∀ k, k < w.heap.size → k ≠ x → w'.heap[k]? = w.heap[k]?
theorem Kept.refl (x : Nat) (w : World) : Kept x w w := ⟨rfl, rfl, rfl, Nat.le_refl _, fun _ _ _ => rfl⟩
theorem Kept.trans {x : Nat} {a b c : World} (h : Kept x a b) (g : Kept x b c) : Kept x a c :=
 ⟨g.os.trans h.os, g.tape.trans h.tape, g.output.trans h.output, Nat.le_trans h.size g.size, fun k hk hx => (g.block k (Nat.lt_of_lt_of_le hk h.size) hx).trans (h.block k hk hx)⟩
theorem Kept.of {x : Nat} {w w' : World} (h : Below w.heap.size w w') : Kept x w w' := ⟨h.os, h.tape, h.output, h.size, fun k hk _ => h.block k hk⟩
theorem Kept.drew {x : Nat} {a w : World} (h : Kept x a w) (n : Nat) : Kept x a (w.drewN n) := ⟨h.os, h.tape, h.output, h.size, h.block⟩
theorem Kept.alloc {x : Nat} {a w : World} (h : Kept x a w) (o : Obj) : Kept x a (w.alloc o) := h.trans (Kept.of ((Below.refl _ _).alloc (Nat.le_refl _) o))
theorem Kept.setCell {x : Nat} {a w : World} (h : Kept x a w) (o : Nat) (v : Value) : Kept x a (w.setCell ⟨x, o, none⟩ v) := by
 have hs : (w.setCell ⟨x, o, none⟩ v).heap.size = w.heap.size := by simp [World.setCell]
 refine ⟨h.os, h.tape, h.output, by rw [hs]; exact h.size, fun k hk hx => ?_⟩
 have : (w.setCell ⟨x, o, none⟩ v).heap[k]? = w.heap[k]? := by
   simp only [World.setCell, Array.getElem?_modify]
   rw [if_neg (fun e => hx e.symm)]
 rw [this]; exact h.block k hk hx
theorem Kept.setNew {x : Nat} {a w : World} (h : Kept x a w) (b o : Nat) (v : Value) (hb : a.heap.size ≤ b) : Kept x a (w.setCell ⟨b, o, none⟩ v) := by
 have hs : (w.setCell ⟨b, o, none⟩ v).heap.size = w.heap.size := by simp [World.setCell]
 refine ⟨h.os, h.tape, h.output, by rw [hs]; exact h.size, fun k hk hx => ?_⟩
 have : (w.setCell ⟨b, o, none⟩ v).heap[k]? = w.heap[k]? := by
   simp only [World.setCell, Array.getElem?_modify]
   rw [if_neg (by omega)]
 rw [this]; exact h.block k hk hx
theorem Kept.cell {x : Nat} {w w' : World} (h : Kept x w w') {b o : Nat} {v : Value} (hx : b ≠ x) (hv : w.cell? ⟨b, o, none⟩ = some v) : w'.cell? ⟨b, o, none⟩ = some v := by
 have hlt : b < w.heap.size := World.block_lt_of_cell? w _ hv
 rw [← hv]
 unfold World.cell?
 rw [h.block b hlt hx]
theorem Kept.then_ {x b : Nat} {w W W' : World} (h : Kept x w W) (g : Kept b W W') (hb : w.heap.size ≤ b) : Kept x w W' :=
 ⟨g.os.trans h.os, g.tape.trans h.tape, g.output.trans h.output, Nat.le_trans h.size g.size, fun k hk hx => (g.block k (Nat.lt_of_lt_of_le hk h.size) (by omega)).trans (h.block k hk hx)⟩
theorem Kept.below {x : Nat} {w W : World} (h : Kept x w W) (hx : w.heap.size ≤ x) : Below w.heap.size w W := ⟨h.os, h.tape, h.output, h.size, fun k hk => h.block k hk (by omega)⟩
structure TokX (w : World) (x : Nat) (v : Value) (l : List Tok) : Prop where
 form : ∃ A c, v = .slice A l.length c ∧ ∀ i (h : i < l.length), ∃ g, A = some ⟨g, 0, none⟩ ∧ g < x ∧
   w.cell? ⟨g, i * 4, none⟩ = some (.int .i64 l[i].k) ∧ w.cell? ⟨g, i * 4 + 1, none⟩ = some (.int .i64 l[i].n) ∧ w.cell? ⟨g, i * 4 + 2, none⟩ = some (.string l[i].s) ∧ w.cell? ⟨g, i * 4 + 3, none⟩ = some (.int .i64 l[i].at_)
theorem TokX.kept {w w' : World} {x y : Nat} {v : Value} {l : List Tok} (h : TokX w x v l) (hk : Kept y w w') (hy : x ≤ y) : TokX w' x v l := by
 obtain ⟨A, c, h1, h2⟩ := h.form
 exact ⟨A, c, h1, fun i hi => by
   obtain ⟨g, e, hx, f0, f1, f2, f3⟩ := h2 i hi
   have hg : g ≠ y := by omega
   exact ⟨g, e, hx, hk.cell hg f0, hk.cell hg f1, hk.cell hg f2, hk.cell hg f3⟩⟩
def nodeV (f : Fld) (A : Option Addr) (n c : Nat) : Value :=
 .agg (jN f A n c)
def RowAt (w : World) (P : Nat → Prop) : Fo → Nat → Nat → Prop
 | .nil, _, _ => True
 | .cons f kids next, g, o => (P g ∧ w.cell? ⟨g, o, none⟩ = some (.int .i64 f.k) ∧ w.cell? ⟨g, o + 1, none⟩ = some (.int .i64 f.vk) ∧ w.cell? ⟨g, o + 2, none⟩ = some (.int .i64 f.vn) ∧ w.cell? ⟨g, o + 3, none⟩ = some (.string f.vs) ∧
     w.cell? ⟨g, o + 4, none⟩ = some (.int .i64 f.r1) ∧ w.cell? ⟨g, o + 5, none⟩ = some (.int .i64 f.r2) ∧ w.cell? ⟨g, o + 6, none⟩ = some (.int .i64 f.r3) ∧ w.cell? ⟨g, o + 7, none⟩ = some (.int .i64 f.r4) ∧ w.cell? ⟨g, o + 8, none⟩ = some (.string f.op)) ∧
   (∃ A c, w.cell? ⟨g, o + 9, none⟩ = some (.slice A kids.len c) ∧ (kids = .nil ∨ ∃ g' o', A = some ⟨g', o', none⟩ ∧ RowAt w P kids g' o')) ∧ RowAt w P next g (o + 10)
theorem RowAt.keep {w w' : World} {P Q : Nat → Prop} {y : Nat} (hk : Kept y w w') (hP : ∀ g, P g → g < w.heap.size → g ≠ y ∧ Q g) : ∀ (fo : Fo) (g o : Nat), RowAt w P fo g o → RowAt w' Q fo g o := by
 intro fo
 induction fo with
 | nil => intro g o _; trivial
 | cons f kids next ih1 ih2 =>
   intro g o h
   obtain ⟨⟨hx, f0, f1, f2, f3, f4, f5, f6, f7, f8⟩, ⟨A, c, h9, hA⟩, hn⟩ := h
   obtain ⟨hy, hq⟩ := hP g hx (World.block_lt_of_cell? w _ f0)
   refine ⟨⟨hq, hk.cell hy f0, hk.cell hy f1, hk.cell hy f2, hk.cell hy f3, hk.cell hy f4, hk.cell hy f5, hk.cell hy f6, hk.cell hy f7, hk.cell hy f8⟩, ⟨A, c, hk.cell hy h9, ?_⟩, ih2 g _ hn⟩
   rcases hA with h | ⟨g', o', e, hr⟩
   · exact Or.inl h
   · exact Or.inr ⟨g', o', e, ih1 g' o' hr⟩
def KidsAt (w : World) (P : Nat → Prop) (fo : Fo) (A : Option Addr) : Prop := fo = .nil ∨ ∃ g o, A = some ⟨g, o, none⟩ ∧ RowAt w P fo g o
theorem KidsAt.keep {w w' : World} {P Q : Nat → Prop} {y : Nat} {fo : Fo} {A : Option Addr} (h : KidsAt w P fo A) (hk : Kept y w w') (hP : ∀ g, P g → g < w.heap.size → g ≠ y ∧ Q g) : KidsAt w' Q fo A := by
 rcases h with h | ⟨g, o, e, hr⟩
 · exact Or.inl h
 · exact Or.inr ⟨g, o, e, RowAt.keep hk hP _ _ _ hr⟩
def NodeAt (w : World) (P : Nat → Prop) (a : Nd) (v : Value) : Prop := ∃ A c, v = nodeV a.f A a.kids.len c ∧ KidsAt w P a.kids A
theorem NodeAt.keep {w w' : World} {P Q : Nat → Prop} {y : Nat} {a : Nd} {v : Value} (h : NodeAt w P a v) (hk : Kept y w w') (hP : ∀ g, P g → g < w.heap.size → g ≠ y ∧ Q g) : NodeAt w' Q a v := by
 obtain ⟨A, c, e, h⟩ := h
 exact ⟨A, c, e, h.keep hk hP⟩
def NodeV (v : Value) : Prop := ∃ f A n c, v = nodeV f A n c
def RowV (w : World) (P : Nat → Prop) : Fo → List Value → Prop
 | .nil, [] => True
 | .nil, _ :: _ => False
 | .cons _ _ _, [] => False
 | .cons f kids next, v :: vs => NodeAt w P ⟨f, kids⟩ v ∧ RowV w P next vs
theorem RowV.keep {w w' : World} {P Q : Nat → Prop} {y : Nat} (hk : Kept y w w') (hP : ∀ g, P g → g < w.heap.size → g ≠ y ∧ Q g) : ∀ (fo : Fo) (vs : List Value), RowV w P fo vs → RowV w' Q fo vs := by
 intro fo
 induction fo with
 | nil => intro vs h; cases vs with
   | nil => trivial
   | cons v vs => exact h
 | cons f kids next _ ih => intro vs h; cases vs with
   | nil => exact h
   | cons v vs => exact ⟨h.1.keep hk hP, ih vs h.2⟩
theorem RowV.snoc {w : World} {P : Nat → Prop} {a : Nd} {v : Value} (ha : NodeAt w P a v) : ∀ (fo : Fo) (vs : List Value), RowV w P fo vs → RowV w P (fo.app a.one) (vs ++ [v]) := by
 intro fo
 induction fo with
 | nil => intro vs h; cases vs with
   | nil => exact ⟨ha, trivial⟩
   | cons v vs => exact absurd h (by simp [RowV])
 | cons f kids next _ ih => intro vs h; cases vs with
   | nil => exact absurd h (by simp [RowV])
   | cons v vs => exact ⟨h.1, ih vs h.2⟩
def ncells (vs : List Value) : List Value := vs.flatMap fun v => v.cells.toList
theorem ncells_snoc (vs : List Value) (v : Value) : ncells (vs ++ [v]) = ncells vs ++ v.cells.toList := by unfold ncells; rw [List.flatMap_append]; simp
theorem ncells_cons (v : Value) (vs : List Value) : ncells (v :: vs) = v.cells.toList ++ ncells vs := by unfold ncells; rw [List.flatMap_cons]
theorem rowAt_of {w : World} {P : Nat → Prop} {g : Nat} (hx : P g) : ∀ (fo : Fo) (vs : List Value) (o : Nat), RowV w P fo vs → (∀ j u, (ncells vs)[j]? = some u → w.cell? ⟨g, o + j, none⟩ = some u) → RowAt w P fo g o := by
 intro fo
 induction fo with
 | nil => intro vs o _ _; trivial
 | cons f kids next _ ih =>
   intro vs o h hc
   cases vs with
   | nil => exact absurd h (by simp [RowV])
   | cons v vs =>
     obtain ⟨⟨A, c, rfl, hA⟩, hr⟩ := h
     rw [ncells_cons] at hc
     refine ⟨⟨hx, hc 0 _ rfl, hc 1 _ rfl, hc 2 _ rfl, hc 3 _ rfl, hc 4 _ rfl, hc 5 _ rfl, hc 6 _ rfl, hc 7 _ rfl, hc 8 _ rfl⟩, ⟨A, c, hc 9 _ rfl, hA⟩, ih vs (o + 10) hr fun j u hj => ?_⟩
     have := hc (10 + j) u (by
       rw [List.getElem?_append_right (by simp [nodeV, Value.cells])]
       simpa [nodeV, Value.cells] using hj)
     rwa [show o + 10 + j = o + (10 + j) by omega]
theorem rowAt_block {w : World} {P : Nat → Prop} {g : Nat} (hx : P g) {fo : Fo} {vs : List Value} {cs : Array Value} (hr : RowV w P fo vs) (hb : w.heap[g]? = some (.cells cs 31 (0, 0))) (hc : cs.toList = ncells vs) : RowAt w P fo g 0 :=
 rowAt_of hx fo vs 0 hr (fun j u hj => by
   rw [Nat.zero_add, cell_of_row w g j cs _ (0, 0) hb, ← hj, ← hc, Array.getElem?_toList])
def PAt (w : World) (x : Nat) (lv : Value) (en k nest e at_ : Int) : Prop :=
 w.heap[x]? = some (.cells #[lv, .int .i64 k, .int .i64 en, .int .i64 nest, .int .i64 e, .int .i64 at_] 82 (0, 0))
theorem PAt.lt {w : World} {x : Nat} {lv : Value} {en k nest e at_ : Int} (h : PAt w x lv en k nest e at_) : x < w.heap.size := (Array.getElem?_eq_some_iff.1 h).1
theorem PAt.cells {w : World} {x : Nat} {lv : Value} {en k nest e at_ : Int} (h : PAt w x lv en k nest e at_) :
   w.cell? ⟨x, 0, none⟩ = some lv ∧ w.cell? ⟨x, 1, none⟩ = some (.int .i64 k) ∧ w.cell? ⟨x, 2, none⟩ = some (.int .i64 en) ∧ w.cell? ⟨x, 3, none⟩ = some (.int .i64 nest) ∧ w.cell? ⟨x, 4, none⟩ = some (.int .i64 e) ∧ w.cell? ⟨x, 5, none⟩ = some (.int .i64 at_) ∧
   w.frozen? ⟨x, 1, none⟩ = false ∧ w.frozen? ⟨x, 3, none⟩ = false ∧ w.frozen? ⟨x, 4, none⟩ = false ∧ w.frozen? ⟨x, 5, none⟩ = false := by
 unfold PAt at h
 refine ⟨?_, ?_, ?_, ?_, ?_, ?_, ?_, ?_, ?_, ?_⟩ <;> simp [World.cell?, World.frozen?, h]
theorem PAt.keep {w w' : World} {x y : Nat} {lv : Value} {en k nest e at_ : Int} (h : PAt w x lv en k nest e at_) (hb : Below y w w') (hx : x < y) : PAt w' x lv en k nest e at_ := (hb.block x hx).trans h
theorem PAt.kept {w w' : World} {x y : Nat} {lv : Value} {en k nest e at_ : Int} (h : PAt w x lv en k nest e at_) (hb : Kept y w w') (hx : x ≠ y) : PAt w' x lv en k nest e at_ := (hb.block x h.lt hx).trans h
theorem PAt.alloc {w : World} {x : Nat} {lv : Value} {en k nest e at_ : Int} (h : PAt w x lv en k nest e at_) (o : Obj) : PAt (w.alloc o) x lv en k nest e at_ := h.keep ((Below.refl _ _).alloc (Nat.le_refl _) o) h.lt
theorem PAt.setK {w : World} {x : Nat} {lv : Value} {en k nest e at_ : Int} (h : PAt w x lv en k nest e at_) (k' : Int) : PAt (w.setCell ⟨x, 1, none⟩ (.int .i64 k')) x lv en k' nest e at_ := by
 unfold PAt at *; simp [World.setCell, Array.getElem?_modify, h]
theorem PAt.setN {w : World} {x : Nat} {lv : Value} {en k nest e at_ : Int} (h : PAt w x lv en k nest e at_) (k' : Int) : PAt (w.setCell ⟨x, 3, none⟩ (.int .i64 k')) x lv en k k' e at_ := by
 unfold PAt at *; simp [World.setCell, Array.getElem?_modify, h]
theorem PAt.setE {w : World} {x : Nat} {lv : Value} {en k nest e at_ : Int} (h : PAt w x lv en k nest e at_) (k' : Int) : PAt (w.setCell ⟨x, 4, none⟩ (.int .i64 k')) x lv en k nest k' at_ := by
 unfold PAt at *; simp [World.setCell, Array.getElem?_modify, h]
theorem PAt.setA {w : World} {x : Nat} {lv : Value} {en k nest e at_ : Int} (h : PAt w x lv en k nest e at_) (k' : Int) : PAt (w.setCell ⟨x, 5, none⟩ (.int .i64 k')) x lv en k nest e k' := by
 unfold PAt at *; simp [World.setCell, Array.getElem?_modify, h]
end Go.Proofs.YticehalcnbjccaaGreatDoor.TreeC
namespace Go.Proofs.YticehalcnbjccaaGreatDoor.TreeC
set_option maxRecDepth 100000
set_option maxHeartbeats 8000000
set_option linter.unusedVariables false
open Go.RowKit NumC LexC
open Tryz
open Lib (hid)
structure Pre (w : World) (x : Nat) (lv : Value) (l : List Tok) (en k nest e at_ : Int) : Prop where
 at_ : PAt w x lv en k nest e at_
 tok : TokX w x lv l
theorem Pre.drew {w : World} {x : Nat} {lv : Value} {l : List Tok} {en k nest e at_ : Int} (h : Pre w x lv l en k nest e at_) (n : Nat) : Pre (w.drewN n) x lv l en k nest e at_ := ⟨h.at_, h.tok.kept (y := x) ((Kept.refl _ _).drew n) (Nat.le_refl _)⟩
theorem Pre.drew1 {w : World} {x : Nat} {lv : Value} {l : List Tok} {en k nest e at_ : Int} (h : Pre w x lv l en k nest e at_) : Pre w.drew x lv l en k nest e at_ := h.drew 1
theorem Pre.alloc {w : World} {x : Nat} {lv : Value} {l : List Tok} {en k nest e at_ : Int} (h : Pre w x lv l en k nest e at_) (o : Obj) : Pre (w.alloc o) x lv l en k nest e at_ := ⟨h.at_.alloc o, h.tok.kept (y := x) ((Kept.refl _ _).alloc o) (Nat.le_refl _)⟩
theorem Pre.setK {w : World} {x : Nat} {lv : Value} {l : List Tok} {en k nest e at_ : Int} (h : Pre w x lv l en k nest e at_) (k' : Int) : Pre (w.setCell ⟨x, 1, none⟩ (.int .i64 k')) x lv l en k' nest e at_ := ⟨h.at_.setK k', h.tok.kept ((Kept.refl _ _).setCell 1 _) (Nat.le_refl _)⟩
theorem Pre.setN {w : World} {x : Nat} {lv : Value} {l : List Tok} {en k nest e at_ : Int} (h : Pre w x lv l en k nest e at_) (k' : Int) : Pre (w.setCell ⟨x, 3, none⟩ (.int .i64 k')) x lv l en k k' e at_ := ⟨h.at_.setN k', h.tok.kept ((Kept.refl _ _).setCell 3 _) (Nat.le_refl _)⟩
theorem Pre.setE {w : World} {x : Nat} {lv : Value} {l : List Tok} {en k nest e at_ : Int} (h : Pre w x lv l en k nest e at_) (k' : Int) : Pre (w.setCell ⟨x, 4, none⟩ (.int .i64 k')) x lv l en k nest k' at_ := ⟨h.at_.setE k', h.tok.kept ((Kept.refl _ _).setCell 4 _) (Nat.le_refl _)⟩
theorem Pre.setA {w : World} {x : Nat} {lv : Value} {l : List Tok} {en k nest e at_ : Int} (h : Pre w x lv l en k nest e at_) (k' : Int) : Pre (w.setCell ⟨x, 5, none⟩ (.int .i64 k')) x lv l en k nest e k' := ⟨h.at_.setA k', h.tok.kept ((Kept.refl _ _).setCell 5 _) (Nat.le_refl _)⟩
theorem Pre.kept {w w' : World} {x y : Nat} {lv : Value} {l : List Tok} {en k nest e at_ : Int} (h : Pre w x lv l en k nest e at_) (hk : Kept y w w') (hy : x < y) : Pre w' x lv l en k nest e at_ := ⟨h.at_.kept hk (by omega), h.tok.kept hk (by omega)⟩
theorem isSign_over {l : List Tok} {k : Nat} {s : List UInt8} (h : l.length ≤ k) : isSign l k s = false := by unfold isSign; rw [List.getElem?_eq_none h]
theorem isSign_at {l : List Tok} {k : Nat} {s : List UInt8} (h : k < l.length) : isSign l k s = (decide (l[k].k = 4) && decide (l[k].s = str s)) := by unfold isSign; rw [List.getElem?_eq_getElem h]
theorem rsign {x : Nat} {lv : Value} {l : List Tok} {en nest at_ : Int} {k : Nat} (s : List UInt8) (w : World) (h : Pre w x lv l en k nest 0 at_) (hl : l.length ≤ 300) :
   Calls prog 86 #[.pointer (some ⟨x, 0, none⟩), .string (str s)] w fun e w' => e = .returned (.bool (isSign l k s)) ∧ ∃ n, w' = w.drewN n := by
 obtain ⟨A, c, rfl, hT⟩ := h.tok.form
 obtain ⟨c0, c1, -, -, c4, -, -, -, -, -⟩ := h.at_.cells
 have HT := hid hT
 clear hT h
 by_cases hk : k < l.length
 · obtain ⟨g, rfl, -, t0, -, t2, -⟩ := HT.out k hk
   have d1 : decide ((k : Int) < (l.length : Int)) = true := decide_eq_true (by omega)
   have e0 := isSign_at (s := s) hk
   generalize l[k].k = tk at *
   generalize l[k].s = ts at *
   by_cases h4 : tk = 4
   · have E : Hid (isSign l k s = (ts.toList == (str s).toList)) := hid (by
       rw [e0, decide_eq_true h4, Bool.true_and]
       by_cases hs : ts = str s
       · rw [decide_eq_true hs, hs]; simp
       · rw [decide_eq_false hs]; symm; exact beq_eq_false_iff_ne.2 (fun e => hs (by rw [Lib.toList_data, Lib.toList_data] at e; exact ByteArray.ext (Array.toList_inj.1 e))))
     subst h4
     rw [E.out]
     clear e0 E
     generalize hb : (ts.toList == (str s).toList) = b
     cases b
     all_goals
       go_enter func86, ntmps86
       go_wp2_with fail
       go_quiet (fail)
       go_wp2_with fail
       go_ret
       exact ⟨rfl, _, rfl⟩
   · have E : Hid (isSign l k s = false) := hid (by rw [e0, decide_eq_false h4]; rfl)
     have f4 : (tk == 4) = false := beq_eq_false_iff_ne.2 h4
     clear e0 h4
     go_enter func86, ntmps86
     go_wp2_with fail
     go_quiet (fail)
     go_wp2_with fail
     go_ret
     exact ⟨by rw [E.out]; rfl, _, rfl⟩
 · have E : Hid (isSign l k s = false) := hid (isSign_over (by omega))
   have d1 : decide ((k : Int) < (l.length : Int)) = false := decide_eq_false (by omega)
   clear HT
   go_enter func86, ntmps86
   go_wp2_with fail
   go_quiet (fail)
   go_wp2_with fail
   go_ret
   exact ⟨by rw [E.out]; rfl, _, rfl⟩
theorem rsign_no {x : Nat} {lv : Value} {l : List Tok} {en k nest at_ e0 : Int} (s : List UInt8) (w : World) (h : Pre w x lv l en k nest e0 at_) (he : e0 ≠ 0) :
   Calls prog 86 #[.pointer (some ⟨x, 0, none⟩), .string (str s)] w fun e w' => e = .returned (.bool false) ∧ ∃ n, w' = w.drewN n := by
 obtain ⟨c0, c1, -, -, c4, -, -, -, -, -⟩ := h.at_.cells
 have f0 : (e0 == 0) = false := beq_eq_false_iff_ne.2 he
 clear h he
 go_enter func86, ntmps86
 go_wp2_with fail
 go_quiet (fail)
 go_wp2_with fail
 go_ret
 exact ⟨rfl, _, rfl⟩
theorem rbad_no {x : Nat} {lv : Value} {l : List Tok} {en k nest at_ e0 : Int} (w : World) (h : Pre w x lv l en k nest e0 at_) (he : e0 ≠ 0) :
   Calls prog 31 #[.pointer (some ⟨x, 0, none⟩)] w fun e w' => e = .returned (.tuple #[]) ∧ w' = w := by
 obtain ⟨c0, c1, c2, c3, c4, c5, z1, z3, z4, z5⟩ := h.at_.cells
 have f0 : (e0 != 0) = true := by rw [bne, beq_eq_false_iff_ne.2 he]; rfl
 clear h he
 go_enter func31, ntmps31
 go_wp2_with fail
 refine bodyPost_ret (v := .tuple #[]) (by simp [results, results31, go_sem]) rfl ⟨rfl, rfl⟩
theorem rbad {x : Nat} {lv : Value} {l : List Tok} {en nest at_ : Int} {k : Nat} (w : World) (h : Pre w x lv l en k nest 0 at_) (hl : l.length ≤ 300) :
   Calls prog 31 #[.pointer (some ⟨x, 0, none⟩)] w fun e w' => e = .returned (.tuple #[]) ∧ Pre w' x lv l en k nest 13 (badAt l en k).2 ∧ Kept x w w' := by
 obtain ⟨A, c, rfl, hT⟩ := h.tok.form
 obtain ⟨c0, c1, c2, c3, c4, c5, z1, z3, z4, z5⟩ := h.at_.cells
 have h2 := hid ((h.setE 13).setA en)
 have K2 := hid (((Kept.refl x w).setCell 4 (.int .i64 13)).setCell 5 (.int .i64 en))
 clear hT h
 by_cases hk : k < l.length
 · have d1 : decide ((k : Int) < (l.length : Int)) = true := decide_eq_true (by omega)
   have E : Hid ((badAt l en k).2 = l[k].at_) := hid (by unfold badAt; rw [List.getElem?_eq_getElem hk])
   go_enter func31, ntmps31
   go_wp2_with fail
   generalize hW : ((w.setCell ⟨x, 4, none⟩ (.int .i64 13)).setCell ⟨x, 5, none⟩ (.int .i64 en)) = W at *
   clear hW c0 c1 c2 c3 c4 c5 z1 z3 z4 z5
   obtain ⟨c0, c1, c2, c3, c4, c5, z1, z3, z4, z5⟩ := h2.out.at_.cells
   go_quiet (fail)
   go_wp2_with fail
   have h3 := (h2.out.drew nq).drew1
   have K3 := (K2.out.drew nq).trans ((Kept.refl x _).drew 1)
   refine region_tail 14 (by kernel_rfl) (by kernel_rfl) ?_
   simp only [List.take_succ_cons, List.take_zero, List.drop_succ_cons, List.drop_zero]
   replace K3 : Kept x w (W.drewN nq).drew := K3
   generalize World.drew (W.drewN nq) = V at *
   clear c0 c1 c2 c3 c4 c5 z1 z3 z4 z5
   obtain ⟨c0, c1, c2, c3, c4, c5, z1, z3, z4, z5⟩ := h3.at_.cells
   obtain ⟨A', c', hv, hT⟩ := h3.tok.form
   injection hv with hA hn hc
   subst hA hc
   obtain ⟨g, rfl, -, t0, t1, t2, t3⟩ := hT k hk
   have H4 := hid (h3.setA (l[k].at_))
   have K4 := hid (K3.setCell 5 (.int .i64 (l[k].at_)))
   clear hT h3 K3
   generalize l[k].at_ = ta at *
   repeat still_step
   refine wpStill_nil ?_
   go_wp2_with fail
   refine bodyPost_end (v := .tuple #[]) (by simp [results, results31, go_sem]) rfl ⟨rfl, by rw [E.out]; exact H4.out, K4.out⟩
 · have d1 : decide ((k : Int) < (l.length : Int)) = false := decide_eq_false (by omega)
   have E : Hid ((badAt l en k).2 = en) := hid (by unfold badAt; rw [List.getElem?_eq_none (by omega)])
   go_enter func31, ntmps31
   go_wp2_with fail
   generalize hW : ((w.setCell ⟨x, 4, none⟩ (.int .i64 13)).setCell ⟨x, 5, none⟩ (.int .i64 en)) = W at *
   clear hW c0 c1 c2 c3 c4 c5 z1 z3 z4 z5
   obtain ⟨c0, c1, c2, c3, c4, c5, z1, z3, z4, z5⟩ := h2.out.at_.cells
   go_quiet (fail)
   go_wp2_with fail
   refine bodyPost_end (v := .tuple #[]) (by simp [results, results31, go_sem]) rfl ⟨rfl, by rw [E.out]; exact h2.out.drew nq, K2.out.drew nq⟩
theorem rinto_yes {x : Nat} {lv : Value} {l : List Tok} {en k nest at_ : Int} (w : World) (h : Pre w x lv l en k nest 0 at_) (h0 : 0 ≤ nest) (h1 : nest < 40) :
   Calls prog 137 #[.pointer (some ⟨x, 0, none⟩)] w fun e w' => e = .returned (.bool true) ∧ Pre w' x lv l en k (nest + 1) 0 at_ ∧ Kept x w w' := by
 obtain ⟨c0, c1, c2, c3, c4, c5, z1, z3, z4, z5⟩ := h.at_.cells
 have d1 : decide (40 ≤ nest) = false := decide_eq_false (by omega)
 have h2 := hid (h.setN (nest + 1))
 have K2 := hid ((Kept.refl x w).setCell 3 (.int .i64 (nest + 1)))
 clear h
 go_enter func137, ntmps137
 go_wp2_with fail
 go_ret
 exact ⟨rfl, h2.out, K2.out⟩
theorem rinto_no {x : Nat} {lv : Value} {l : List Tok} {en k nest at_ : Int} (w : World) (h : Pre w x lv l en k nest 0 at_) (h0 : 40 ≤ nest) (h1 : nest < 100) :
   Calls prog 137 #[.pointer (some ⟨x, 0, none⟩)] w fun e w' => e = .returned (.bool false) ∧ Pre w' x lv l en k (nest + 1) 14 0 ∧ Kept x w w' := by
 obtain ⟨c0, c1, c2, c3, c4, c5, z1, z3, z4, z5⟩ := h.at_.cells
 have d1 : decide (40 ≤ nest) = true := decide_eq_true (by omega)
 have h2 := hid (((h.setE 14).setA 0).setN (nest + 1))
 have K2 := hid ((((Kept.refl x w).setCell 4 (.int .i64 14)).setCell 5 (.int .i64 0)).setCell 3 (.int .i64 (nest + 1)))
 clear h
 go_enter func137, ntmps137
 go_wp2_with fail
 go_ret
 exact ⟨rfl, h2.out, K2.out⟩
theorem rclose_no {x : Nat} {lv : Value} {l : List Tok} {en k nest at_ e0 : Int} (w : World) (h : Pre w x lv l en k nest e0 at_) (he : e0 ≠ 0) :
   Calls prog 184 #[.pointer (some ⟨x, 0, none⟩)] w fun e w' => e = .returned (.tuple #[]) ∧ Pre w' x lv l en k nest e0 at_ ∧ Kept x w w' := by
 have HS := hid (rsign_no [41] w h he)
 have H := hid h
 have B41 : Hid (({ data := #[41] } : ByteArray) = str [41]) := hid rfl
 clear h
 go_enter func184, ntmps184
 go_wp2_with fail
 rw [B41.out]
 refine HS.out.mono ?_; rintro e w1 ⟨rfl, n, rfl⟩
 go_wp2_with fail
 refine (rbad_no _ (H.out.drew n) he).mono ?_; rintro e w1 ⟨rfl, rfl⟩
 go_wp2_with fail
 refine bodyPost_ret (v := .tuple #[]) (by simp [results, results184, go_sem]) rfl ⟨rfl, H.out.drew n, (Kept.refl _ _).drew n⟩
theorem rclose_bad {x : Nat} {lv : Value} {l : List Tok} {en nest : Int} {k : Nat} (w : World) (h : Pre w x lv l en k nest 0 0) (hl : l.length ≤ 300) (hs : isSign l k [41] = false) :
   Calls prog 184 #[.pointer (some ⟨x, 0, none⟩)] w fun e w' => e = .returned (.tuple #[]) ∧ Pre w' x lv l en k nest 13 (badAt l en k).2 ∧ Kept x w w' := by
 have HS := hid (rsign [41] w h hl)
 rw [hs] at HS
 have H := hid h
 have B41 : Hid (({ data := #[41] } : ByteArray) = str [41]) := hid rfl
 clear h
 go_enter func184, ntmps184
 go_wp2_with fail
 rw [B41.out]
 refine HS.out.mono ?_; rintro e w1 ⟨rfl, n, rfl⟩
 go_wp2_with fail
 refine (rbad _ (H.out.drew n) hl).mono ?_; rintro e w1 ⟨rfl, h1, k1⟩
 have H1 := hid h1
 clear h1
 go_wp2_with fail
 refine bodyPost_ret (v := .tuple #[]) (by simp [results, results184, go_sem]) rfl ⟨rfl, H1.out, ((Kept.refl _ _).drew n).trans k1⟩
theorem rclose_ok {x : Nat} {lv : Value} {l : List Tok} {en nest : Int} {k : Nat} (w : World) (h : Pre w x lv l en k nest 0 0) (hl : l.length ≤ 300) (hk : k ≤ 1000) (hs : isSign l k [41] = true) :
   Calls prog 184 #[.pointer (some ⟨x, 0, none⟩)] w fun e w' => e = .returned (.tuple #[]) ∧ Pre w' x lv l en (k + 1 : Nat) nest 0 0 ∧ Kept x w w' := by
 have HS := hid (rsign [41] w h hl)
 rw [hs] at HS
 have H := hid h
 have B41 : Hid (({ data := #[41] } : ByteArray) = str [41]) := hid rfl
 clear h
 go_enter func184, ntmps184
 go_wp2_with fail
 rw [B41.out]
 refine HS.out.mono ?_; rintro e w1 ⟨rfl, n, rfl⟩
 obtain ⟨c0, c1, c2, c3, c4, c5, z1, z3, z4, z5⟩ := (H.out.drew n).at_.cells
 have H1 := hid ((H.out.drew n).setK ((k : Int) + 1))
 have K1 := hid (((Kept.refl x w).drew n).setCell 1 (.int .i64 ((k : Int) + 1)))
 go_wp2_with fail
 refine bodyPost_end (v := .tuple #[]) (by simp [results, results184, go_sem]) rfl ⟨rfl, H1.out, K1.out⟩
end Go.Proofs.YticehalcnbjccaaGreatDoor.TreeC
namespace Go.Proofs.YticehalcnbjccaaGreatDoor.TreeC
set_option maxRecDepth 100000
set_option maxHeartbeats 8000000
set_option linter.unusedVariables false
open Go.RowKit NumC LexC
open Cd
open Tryz
open Lib (hid)
def TextsAt (w : World) (v : Value) (ss : List (List UInt8)) : Prop := ∃ g c, v = .slice (some ⟨g, 0, none⟩) ss.length c ∧ ∀ i (h : i < ss.length), w.cell? ⟨g, i, none⟩ = some (.string (str ss[i]))
def oneB (o : Option (List UInt8)) : ByteArray := match o with
 | some s => str s
 | none => nob
theorem one_none {l : List Tok} {k : Nat} {ss : List (List UInt8)} (h : ∀ i (hi : i < ss.length), isSign l k ss[i] = false) : oneOf l k ss = none := by
 unfold oneOf
 rw [List.find?_eq_none]
 intro s hs
 obtain ⟨i, hi, e⟩ := List.mem_iff_getElem.1 hs
 rw [← e, h i hi]; exact Bool.false_ne_true
theorem one_some {l : List Tok} {k : Nat} {ss : List (List UInt8)} {n : Nat} (h : ∀ i (hi : i < ss.length), i < n → isSign l k ss[i] = false) (hn : n < ss.length) (hs : isSign l k ss[n] = true) : oneOf l k ss = some ss[n] := by
 unfold oneOf
 rw [List.find?_eq_some_iff_getElem]
 refine ⟨hs, n, hn, rfl, fun j hj => ?_⟩
 rw [h j (by omega) hj]; rfl
theorem rone {x : Nat} {lv : Value} {l : List Tok} {en nest : Int} {k : Nat} (ss : List (List UInt8)) (v : Value) (w : World) (h : Pre w x lv l en k nest 0 0) (hl : l.length ≤ 300) (hs : ss.length ≤ 1000) (hv : TextsAt w v ss) :
   Calls prog 55 #[.pointer (some ⟨x, 0, none⟩), v] w fun e w' => e = .returned (.string (oneB (oneOf l k ss))) ∧ ∃ n, w' = w.drewN n := by
 obtain ⟨g, c, rfl, hc⟩ := hv
 have HC := hid hc
 have H := hid h
 clear hc h
 go_enter func55, ntmps55
 go_wp2_with fail
 go_loopw [5] (fun a wr => ∃ i n : Nat, i ≤ ss.length ∧ a = .int .i64 i ∧ wr = w.drewN n ∧ Hid (∀ j (hj : j < ss.length), j < i → isSign l k ss[j] = false)) (fun a _ => ss.length - (intOf a).toNat)
 case atStart => exact ⟨0, 0, Nat.zero_le _, rfl, rfl, hid (fun j hj h => absurd h (Nat.not_lt_zero _))⟩
 case round =>
   obtain ⟨i, n, hi, rfl, rfl, HA⟩ := hrel
   by_cases hlt : i < ss.length
   · have d1 : decide ((i : Int) < (ss.length : Int)) = true := decide_eq_true (by omega)
     have q : (w.drewN n).cell? ⟨g, i, none⟩ = some (.string (str ss[i])) := HC.out i hlt
     have HS := hid (rsign ss[i] _ (H.out.drew n) hl)
     cases hb : isSign l k ss[i]
     · have HN : Hid (∀ j (hj : j < ss.length), j < i + 1 → isSign l k ss[j] = false) := hid (fun j hj h => by
         by_cases e : j = i
         · subst e; exact hb
         · exact HA.out j hj (by omega))
       rw [hb] at HS
       clear hb
       generalize ss[i] = si at *
       go_wp2_with fail
       refine HS.out.mono ?_; rintro e w1 ⟨rfl, m, rfl⟩
       go_wp2_with fail
       go_roundw
       case rel => exact ⟨i + 1, n + m, by omega, by go_num, by simp [World.drewN], HN⟩
       case measure => simp [intOf]; omega
     · have E : Hid (oneOf l k ss = some ss[i]) := hid (one_some HA.out hlt hb)
       rw [hb] at HS
       clear hb
       generalize ss[i] = si at *
       go_wp2_with fail
       refine HS.out.mono ?_; rintro e w1 ⟨rfl, m, rfl⟩
       have q2 : w.cell? ⟨g, i, none⟩ = some (.string (str si)) := q
       go_wp2_with fail
       go_ret
       exact ⟨by rw [E.out]; rfl, n + m, by simp [World.drewN]⟩
   · have d1 : decide ((i : Int) < (ss.length : Int)) = false := decide_eq_false (by omega)
     have E : Hid (oneOf l k ss = none) := hid (one_none (fun j hj => HA.out j hj (by omega)))
     go_wp2_with fail
     go_ret
     exact ⟨by rw [E.out]; rfl, n, rfl⟩
theorem rone_no {x : Nat} {lv : Value} {l : List Tok} {en k nest at_ e0 : Int} (ss : List (List UInt8)) (v : Value) (w : World) (h : Pre w x lv l en k nest e0 at_) (he : e0 ≠ 0) (hs : ss.length ≤ 1000) (hv : TextsAt w v ss) :
   Calls prog 55 #[.pointer (some ⟨x, 0, none⟩), v] w fun e w' => e = .returned (.string nob) ∧ ∃ n, w' = w.drewN n := by
 obtain ⟨g, c, rfl, hc⟩ := hv
 have HC := hid hc
 have H := hid h
 clear hc h
 go_enter func55, ntmps55
 go_wp2_with fail
 go_loopw [5] (fun a wr => ∃ i n : Nat, i ≤ ss.length ∧ a = .int .i64 i ∧ wr = w.drewN n) (fun a _ => ss.length - (intOf a).toNat)
 case atStart => exact ⟨0, 0, Nat.zero_le _, rfl, rfl⟩
 case round =>
   obtain ⟨i, n, hi, rfl, rfl⟩ := hrel
   by_cases hlt : i < ss.length
   · have d1 : decide ((i : Int) < (ss.length : Int)) = true := decide_eq_true (by omega)
     have q : (w.drewN n).cell? ⟨g, i, none⟩ = some (.string (str ss[i])) := HC.out i hlt
     have HS := hid (rsign_no ss[i] _ (H.out.drew n) he)
     generalize ss[i] = si at *
     go_wp2_with fail
     refine HS.out.mono ?_; rintro e w1 ⟨rfl, m, rfl⟩
     go_wp2_with fail
     go_roundw
     case rel => exact ⟨i + 1, n + m, by omega, by go_num, by simp [World.drewN]⟩
     case measure => simp [intOf]; omega
   · have d1 : decide ((i : Int) < (ss.length : Int)) = false := decide_eq_false (by omega)
     go_wp2_with fail
     go_ret
     exact ⟨rfl, n, rfl⟩
theorem rcalled {x : Nat} {lv : Value} {l : List Tok} {en nest : Int} {k : Nat} (w : World) (h : Pre w x lv l en k nest 0 0) (hl : l.length ≤ 300) (hk0 : k ≤ 1000) :
   Calls prog 196 #[.pointer (some ⟨x, 0, none⟩)] w fun e w' => e = .returned (.bool (isSign l (k + 1) [40])) ∧ ∃ n, w' = w.drewN n := by
 obtain ⟨A, c, rfl, hT⟩ := h.tok.form
 obtain ⟨c0, c1, -, -, c4, -, -, -, -, -⟩ := h.at_.cells
 have HT := hid hT
 clear hT h
 by_cases hk : k + 1 < l.length
 · obtain ⟨g, rfl, -, t0, -, t2, -⟩ := HT.out (k + 1) hk
   have d1 : decide ((k : Int) + 1 < (l.length : Int)) = true := decide_eq_true (by omega)
   have e0 := isSign_at (s := [40]) hk
   have B40 : str [40] = { data := #[40] } := rfl
   generalize l[k + 1].k = tk at *
   generalize l[k + 1].s = ts at *
   by_cases h4 : tk = 4
   · have E : Hid (isSign l (k + 1) [40] = (ts.toList == ({ data := #[40] } : ByteArray).toList)) := hid (by
       rw [e0, decide_eq_true h4, Bool.true_and, B40]
       by_cases hs : ts = { data := #[40] }
       · rw [decide_eq_true hs, hs]; simp
       · rw [decide_eq_false hs]; symm; exact beq_eq_false_iff_ne.2 (fun e => hs (by rw [Lib.toList_data, Lib.toList_data] at e; exact ByteArray.ext (Array.toList_inj.1 e))))
     subst h4
     rw [E.out]
     clear e0 E B40
     have e40 : ({ data := #[40] } : ByteArray).toList = [40] := by rw [Lib.toList_data]
     rw [e40]
     generalize hb : (ts.toList == [40]) = b
     clear e40
     cases b
     all_goals
       go_enter func196, ntmps196
       go_wp2_with fail
       go_quiet (fail)
       go_wp2_with fail
       go_ret
       exact ⟨rfl, _, rfl⟩
   · have E : Hid (isSign l (k + 1) [40] = false) := hid (by rw [e0, decide_eq_false h4]; rfl)
     have f4 : (tk == 4) = false := beq_eq_false_iff_ne.2 h4
     clear e0 h4 B40
     go_enter func196, ntmps196
     go_wp2_with fail
     go_quiet (fail)
     go_wp2_with fail
     go_ret
     exact ⟨by rw [E.out]; rfl, _, rfl⟩
 · have E : Hid (isSign l (k + 1) [40] = false) := hid (isSign_over (by omega))
   have d1 : decide ((k : Int) + 1 < (l.length : Int)) = false := decide_eq_false (by omega)
   clear HT
   go_enter func196, ntmps196
   go_wp2_with fail
   go_quiet (fail)
   go_wp2_with fail
   go_ret
   exact ⟨by rw [E.out]; rfl, _, rfl⟩
def pairFld (op : ByteArray) : Fld := ⟨5, 0, 0, nob, 0, 0, 0, 0, op⟩
theorem rpair (op : ByteArray) (f g : Fld) (A B : Option Addr) (n m c d : Nat) (w : World) :
   Calls prog 56 #[.string op, nodeV f A n c, nodeV g B m d] w fun e w' => ∃ b, e = .returned (nodeV (pairFld op) (some ⟨b, 0, none⟩) 2 2) ∧ w.heap.size ≤ b ∧
     w'.heap[b]? = some (.cells ((nodeV f A n c).cells ++ (nodeV g B m d).cells) 31 (0, 0)) ∧ Below w.heap.size w w' := by
 unfold nodeV
 go_enter func56, ntmps56
 go_wp2_with fail
 refine bodyPost_ret (v := .agg #[.int .i64 5, .int .i64 0, .int .i64 0, .string { data := #[] }, .int .i64 0, .int .i64 0, .int .i64 0, .int .i64 0, .string op, .slice (some ⟨w.heap.size + 1 + 1 + 1, 0, none⟩) 2 2]) (by simp [results, results56, go_sem]) rfl ⟨w.heap.size + 1 + 1 + 1, rfl, by omega, ?_, ?_⟩
 · have := heap_alloc_new ((((w.alloc (.cells (jN f A n c) 31)).alloc (.cells (jN g B m d) 31)).alloc (.cells #[.int .i64 5, .int .i64 0, .int .i64 0, .string { data := #[] }, .int .i64 0, .int .i64 0, .int .i64 0, .int .i64 0, .string op, .slice (some ⟨w.heap.size + 1 + 1 + 1, 0, none⟩) 2 2] 31))) (.cells (#[.int .i64 f.k, .int .i64 f.vk, .int .i64 f.vn, .string f.vs, .int .i64 f.r1, .int .i64 f.r2, .int .i64 f.r3, .int .i64 f.r4, .string f.op, .slice A n c, .int .i64 g.k, .int .i64 g.vk, .int .i64 g.vn, .string g.vs, .int .i64 g.r1, .int .i64 g.r2, .int .i64 g.r3, .int .i64 g.r4, .string g.op, .slice B m d]) 31)
   rw [heap_one, heap_one, heap_one] at this
   exact this
 · repeat (with_reducible first | exact Below.refl _ _ | refine Below.alloc ?_ (by first | omega | (simp <;> omega)) _)
end Go.Proofs.YticehalcnbjccaaGreatDoor.TreeC
namespace Go.Proofs.YticehalcnbjccaaGreatDoor.TreeC
set_option maxRecDepth 100000
set_option maxHeartbeats 8000000
set_option linter.unusedVariables false
open Go.RowKit NumC LexC
open Cd
def PPost (x : Nat) (lv : Value) (l : List Tok) (en nest : Int) (out : Out) (w : World) (e : Ending) (w' : World) : Prop :=
 ∃ v, e = .returned v ∧ Kept x w w' ∧ match out with
   | .ok (a, k') => NodeAt w' (fun g => w.heap.size ≤ g) a v ∧ Pre w' x lv l en (k' : Nat) nest 0 0
   | .error b => NodeV v ∧ b.1 ≠ 0 ∧ ∃ k2 n2, nest ≤ n2 ∧ n2 ≤ nest + 1 ∧ Pre w' x lv l en k2 n2 b.1 b.2
structure NBox (w : World) (b : Nat) : Prop where
 at_ : w.heap[b]? = some (.cells jZ 31 (0, 0))
theorem NBox.new (w : World) : NBox (w.alloc (.cells jZ 31)) w.heap.size := ⟨heap_alloc_new _ _⟩
theorem NBox.lt {w : World} {b : Nat} (h : NBox w b) : b < w.heap.size := (Array.getElem?_eq_some_iff.1 h.at_).1
theorem NBox.kept {w w' : World} {b y : Nat} (h : NBox w b) (hk : Kept y w w') (hb : b ≠ y) : NBox w' b := ⟨(hk.block b h.lt hb).trans h.at_⟩
theorem NBox.cells {w : World} {b : Nat} (h : NBox w b) :
   w.cell? ⟨b, 0, none⟩ = some (.int .i64 0) ∧ w.cell? ⟨b, 1, none⟩ = some (.int .i64 0) ∧ w.cell? ⟨b, 2, none⟩ = some (.int .i64 0) ∧ w.cell? ⟨b, 3, none⟩ = some (.string { data := #[] }) ∧ w.cell? ⟨b, 4, none⟩ = some (.int .i64 0) ∧
   w.cell? ⟨b, 5, none⟩ = some (.int .i64 0) ∧ w.cell? ⟨b, 6, none⟩ = some (.int .i64 0) ∧ w.cell? ⟨b, 7, none⟩ = some (.int .i64 0) ∧ w.cell? ⟨b, 8, none⟩ = some (.string { data := #[] }) ∧ w.cell? ⟨b, 9, none⟩ = some (.slice none 0 0) ∧
   w.frozen? ⟨b, 0, none⟩ = false ∧ w.frozen? ⟨b, 1, none⟩ = false ∧ w.frozen? ⟨b, 2, none⟩ = false ∧ w.frozen? ⟨b, 3, none⟩ = false ∧ w.frozen? ⟨b, 4, none⟩ = false ∧
   w.frozen? ⟨b, 5, none⟩ = false ∧ w.frozen? ⟨b, 6, none⟩ = false ∧ w.frozen? ⟨b, 7, none⟩ = false ∧ w.frozen? ⟨b, 8, none⟩ = false ∧ w.frozen? ⟨b, 9, none⟩ = false := by
 have h1 := h.at_
 refine ⟨?_, ?_, ?_, ?_, ?_, ?_, ?_, ?_, ?_, ?_, ?_, ?_, ?_, ?_, ?_, ?_, ?_, ?_, ?_, ?_⟩ <;> simp [World.cell?, World.frozen?, h1]
structure NLoc (w : World) (b : Nat) (f : Fld) (A : Option Addr) (n c : Nat) : Prop where
 at_ : w.heap[b]? = some (.cells (jN f A n c) 31 (0, 0))
theorem NLoc.lt {w : World} {b n c : Nat} {f : Fld} {A : Option Addr} (h : NLoc w b f A n c) : b < w.heap.size := (Array.getElem?_eq_some_iff.1 h.at_).1
theorem NLoc.kept {w w' : World} {b y n c : Nat} {f : Fld} {A : Option Addr} (h : NLoc w b f A n c) (hk : Kept y w w') (hb : b ≠ y) : NLoc w' b f A n c := ⟨(hk.block b h.lt hb).trans h.at_⟩
theorem NLoc.cells {w : World} {b n c : Nat} {f : Fld} {A : Option Addr} (h : NLoc w b f A n c) :
   w.cell? ⟨b, 0, none⟩ = some (.int .i64 f.k) ∧ w.cell? ⟨b, 1, none⟩ = some (.int .i64 f.vk) ∧ w.cell? ⟨b, 2, none⟩ = some (.int .i64 f.vn) ∧ w.cell? ⟨b, 3, none⟩ = some (.string f.vs) ∧ w.cell? ⟨b, 4, none⟩ = some (.int .i64 f.r1) ∧
   w.cell? ⟨b, 5, none⟩ = some (.int .i64 f.r2) ∧ w.cell? ⟨b, 6, none⟩ = some (.int .i64 f.r3) ∧ w.cell? ⟨b, 7, none⟩ = some (.int .i64 f.r4) ∧ w.cell? ⟨b, 8, none⟩ = some (.string f.op) ∧ w.cell? ⟨b, 9, none⟩ = some (.slice A n c) ∧
   w.frozen? ⟨b, 0, none⟩ = false ∧ w.frozen? ⟨b, 1, none⟩ = false ∧ w.frozen? ⟨b, 2, none⟩ = false ∧ w.frozen? ⟨b, 3, none⟩ = false ∧ w.frozen? ⟨b, 4, none⟩ = false ∧
   w.frozen? ⟨b, 5, none⟩ = false ∧ w.frozen? ⟨b, 6, none⟩ = false ∧ w.frozen? ⟨b, 7, none⟩ = false ∧ w.frozen? ⟨b, 8, none⟩ = false ∧ w.frozen? ⟨b, 9, none⟩ = false := by
 have h1 := h.at_
 refine ⟨?_, ?_, ?_, ?_, ?_, ?_, ?_, ?_, ?_, ?_, ?_, ?_, ?_, ?_, ?_, ?_, ?_, ?_, ?_, ?_⟩ <;> simp [World.cell?, World.frozen?, h1]
theorem PPost.ok {x : Nat} {lv : Value} {l : List Tok} {en nest : Int} {a : Nd} {k' b : Nat} {v : Value} {w W W' : World} (hK : Kept x w W) (hP : Pre W x lv l en (k' : Nat) nest 0 0) (hN : NodeAt W (fun g => b < g) a v) (hb : w.heap.size ≤ b) (hx : x < w.heap.size) (hk : Kept b W W') :
   PPost x lv l en nest (.ok (a, k')) w (.returned v) W' :=
 ⟨v, rfl, hK.then_ hk hb, hN.keep hk (fun g hg _ => ⟨by omega, by omega⟩), hP.kept hk (by omega)⟩
theorem PPost.err {x : Nat} {lv : Value} {l : List Tok} {en nest : Int} {c : Bad} {b : Nat} {v : Value} {w W W' : World} {k2 n2 : Int} (hK : Kept x w W) (hP : Pre W x lv l en k2 n2 c.1 c.2) (hv : NodeV v) (hc : c.1 ≠ 0) (h1 : nest ≤ n2) (h2 : n2 ≤ nest + 1) (hb : w.heap.size ≤ b) (hx : x < w.heap.size) (hk : Kept b W W') :
   PPost x lv l en nest (.error c) w (.returned v) W' :=
 ⟨v, rfl, hK.then_ hk hb, hv, hc, k2, n2, h1, h2, hP.kept hk (by omega)⟩
theorem nodeV_any (f : Fld) (A : Option Addr) (n c : Nat) : NodeV (nodeV f A n c) := ⟨f, A, n, c, rfl⟩
end Go.Proofs.YticehalcnbjccaaGreatDoor.TreeC
namespace Go.Proofs.YticehalcnbjccaaGreatDoor.LexC
set_option maxRecDepth 100000
set_option maxHeartbeats 8000000
set_option linter.unusedVariables false
open NumC
theorem cutF_nil (f i : Nat) (acc : List Tok) : cutF f [] i acc = ⟨acc, 0, 0⟩ := by cases f <;> rfl
structure Rise (ts : List Tok) (n : Nat) : Prop where
 up : ts.Pairwise fun a b => a.at_ < b.at_
 lo : ∀ t ∈ ts, 0 ≤ t.at_ ∧ t.at_ < n
theorem cutF_rise : ∀ (f : Nat) (l : List UInt8) (i : Nat) (acc : List Tok), Rise acc i → Rise (cutF f l i acc).toks (i + l.length) := by
 intro f
 induction f with
 | zero => intro l i acc h; exact ⟨h.up, fun t ht => by have := h.lo t ht; omega⟩
 | succ f ih =>
   intro l i acc h
   cases l with
   | nil => exact ⟨h.up, fun t ht => by have := h.lo t ht; omega⟩
   | cons c l =>
     rw [cutF]
     by_cases hc : c = 32
     · rw [if_pos hc]
       have := ih l (i + 1) acc ⟨h.up, fun t ht => by have := h.lo t ht; omega⟩
       rwa [show i + (c :: l).length = i + 1 + l.length from by simp; omega]
     · rw [if_neg hc]
       cases hn : nextL (c :: l) with
       | none => exact ⟨List.Pairwise.nil, fun t ht => by cases ht⟩
       | some r =>
         obtain ⟨k, n, s, m⟩ := r
         have hm := next_len hn
         simp only
         have := ih ((c :: l).drop m) (i + m) (acc ++ [⟨k, n, str s, i⟩]) ⟨?_, ?_⟩
         · rw [List.length_drop] at this
           rwa [show i + m + ((c :: l).length - m) = i + (c :: l).length from by omega] at this
         · rw [List.pairwise_append]
           refine ⟨h.up, List.pairwise_singleton _ _, fun a ha b hb => ?_⟩
           have h1 := h.lo a ha
           rw [List.mem_singleton] at hb
           subst hb
           exact h1.2
         · intro t ht
           rcases List.mem_append.1 ht with ht | ht
           · have := h.lo t ht; omega
           · rw [List.mem_singleton] at ht; subst ht; simp only; omega
end Go.Proofs.YticehalcnbjccaaGreatDoor.LexC
namespace Go.Proofs.YticehalcnbjccaaGreatDoor.PrintC
set_option maxRecDepth 100000
set_option maxHeartbeats 8000000
set_option linter.unusedVariables false
open NumC LexC TreeC
def opRow (o : List UInt8) : Nat :=
 if o = [94] then 4 else if o = [42] ∨ o = [47] ∨ o = [37] then 3 else if o = [43] ∨ o = [45] ∨ o = [38] then 2
 else if o = [61] ∨ o = [60, 62] ∨ o = [60] ∨ o = [60, 61] ∨ o = [62] ∨ o = [62, 61] then 1 else 0
def rowK (f : Fld) : Nat := if f.k = 1 ∨ f.k = 2 ∨ f.k = 3 ∨ f.k = 6 then 6 else if f.k = 4 then 5 else if f.k = 5 then opRow f.op.data.toList else 0
def lo1 (r : Nat) : Nat := if r = 1 then 2 else if r = 4 then 5 else r
def lo2 (r : Nat) : Nat := if r = 1 then 2 else if r = 2 then 3 else if r = 3 then 4 else r
def truT : List UInt8 := [84, 82, 85, 69]
def falT : List UInt8 := [70, 65, 76, 83, 69]
def constT (vk vn : Int) (vs : ByteArray) : List UInt8 := if vk = 3 then quL vs.data.toList else if vk = 1 then (if vn = 0 then falT else truT) else Lib.itoa vn
def closeT (x : List UInt8 × Nat) (least : Nat) : List UInt8 := if x.2 < least then 40 :: (x.1 ++ [41]) else x.1
def joinT : List (List UInt8) → List UInt8
 | [] => []
 | x :: r => match r with
   | [] => x
   | y :: r' => x ++ 44 :: joinT r
def fst0 (l : List (List UInt8 × Nat)) : List UInt8 × Nat := l.headD ([], 0)
def snd0 (l : List (List UInt8 × Nat)) : List UInt8 × Nat := l.tail.headD ([], 0)
def nodeT (f : Fld) (ts : List (List UInt8 × Nat)) : List UInt8 :=
 if f.k = 1 then constT f.vk f.vn f.vs
 else if f.k = 2 then AddrC.nameL f.r1 f.r2
 else if f.k = 3 then AddrC.nameL f.r1 f.r2 ++ 58 :: AddrC.nameL f.r3 f.r4
 else if f.k = 4 then 45 :: closeT (fst0 ts) 5
 else if f.k = 5 then closeT (fst0 ts) (lo1 (rowK f)) ++ (f.op.data.toList ++ closeT (snd0 ts) (lo2 (rowK f)))
 else f.op.data.toList ++ 40 :: (joinT (ts.map (·.1)) ++ [41])
def texts : Fo → List (List UInt8 × Nat)
 | .nil => []
 | .cons f k n => (nodeT f (texts k), rowK f) :: texts n
def textN (a : Nd) : List UInt8 := nodeT a.f (texts a.kids)
def rowN (a : Nd) : Nat := rowK a.f
abbrev PT := Int × Int × ByteArray
def key (t : Tok) : PT := (t.k, t.n, t.s)
def sgn (s : List UInt8) : PT := (4, 0, str s)
def constK (vk vn : Int) (vs : ByteArray) : List PT := if vk = 3 then [(2, 0, vs)] else if vk = 1 then [(3, 0, str (if vn = 0 then falT else truT))] else [(1, vn, str [])]
def closeK (x : List PT × Nat) (least : Nat) : List PT := if x.2 < least then sgn [40] :: (x.1 ++ [sgn [41]]) else x.1
def joinK : List (List PT) → List PT
 | [] => []
 | x :: r => match r with
   | [] => x
   | y :: r' => x ++ sgn [44] :: joinK r
def kst0 (l : List (List PT × Nat)) : List PT × Nat := l.headD ([], 0)
def knd0 (l : List (List PT × Nat)) : List PT × Nat := l.tail.headD ([], 0)
def nodeK (f : Fld) (ts : List (List PT × Nat)) : List PT :=
 if f.k = 1 then constK f.vk f.vn f.vs
 else if f.k = 2 then [(3, 0, str (AddrC.nameL f.r1 f.r2))]
 else if f.k = 3 then [(3, 0, str (AddrC.nameL f.r1 f.r2)), sgn [58], (3, 0, str (AddrC.nameL f.r3 f.r4))]
 else if f.k = 4 then sgn [45] :: closeK (kst0 ts) 5
 else if f.k = 5 then closeK (kst0 ts) (lo1 (rowK f)) ++ (4, 0, f.op) :: closeK (knd0 ts) (lo2 (rowK f))
 else (3, 0, f.op) :: sgn [40] :: (joinK (ts.map (·.1)) ++ [sgn [41]])
def toks : Fo → List (List PT × Nat)
 | .nil => []
 | .cons f k n => (nodeK f (toks k), rowK f) :: toks n
def toksN (a : Nd) : List PT := nodeK a.f (toks a.kids)
theorem itoa_nat {n : Int} (h : 0 ≤ n) : Lib.itoa n = Lib.decDigits n.toNat := by unfold Lib.itoa; rw [if_neg (by omega)]
theorem dig_word {c : UInt8} (h : digB c = true) : wordB c = true := by unfold wordB; rw [h]; simp
structure NameT (s : List UInt8) : Prop where
 head : ∃ c r, s = c :: r ∧ letB c = true
 all : ∀ c ∈ s, wordB c = true
 up : upL s = s
def binS (o : List UInt8) : Bool := [[94], [42], [47], [37], [43], [45], [38], [61], [60, 62], [60], [60, 61], [62], [62, 61]].contains o
theorem bin_cases {o : List UInt8} (h : binS o = true) : o = [94] ∨ o = [42] ∨ o = [47] ∨ o = [37] ∨ o = [43] ∨ o = [45] ∨ o = [38] ∨ o = [61] ∨ o = [60, 62] ∨ o = [60] ∨ o = [60, 61] ∨ o = [62] ∨ o = [62, 61] := by
 simpa [binS] using h
theorem joinT_cons (x y : List UInt8) (r : List (List UInt8)) : joinT (x :: y :: r) = x ++ 44 :: joinT (y :: r) := rfl
end Go.Proofs.YticehalcnbjccaaGreatDoor.PrintC
namespace Go.Proofs.YticehalcnbjccaaGreatDoor.TreeC
set_option maxRecDepth 100000
set_option maxHeartbeats 8000000
set_option linter.unusedVariables false
open Go.RowKit NumC LexC
theorem pair_row {w : World} {Q : Nat → Prop} {f g : Fld} {A B : Option Addr} {n m c d b : Nat} {ka kb : Fo} {op : List UInt8} (hb : Q b) (h : w.heap[b]? = some (.cells ((nodeV f A n c).cells ++ (nodeV g B m d).cells) 31 (0, 0)))
   (hn : ka.len = n) (hm : kb.len = m) (hA : KidsAt w Q ka A) (hB : KidsAt w Q kb B) : NodeAt w Q (pairN op ⟨f, ka⟩ ⟨g, kb⟩) (nodeV (pairFld (str op)) (some ⟨b, 0, none⟩) 2 2) :=
 ⟨some ⟨b, 0, none⟩, 2, rfl, Or.inr ⟨b, 0, rfl, rowAt_block hb (vs := [nodeV f A n c, nodeV g B m d]) ⟨⟨A, c, by rw [hn], hA⟩, ⟨⟨B, d, by rw [hm], hB⟩, trivial⟩⟩ h rfl⟩⟩
end Go.Proofs.YticehalcnbjccaaGreatDoor.TreeC
namespace Go.Proofs.YticehalcnbjccaaGreatDoor.TreeC
set_option maxRecDepth 100000
set_option maxHeartbeats 8000000
set_option linter.unusedVariables false
open NumC LexC
theorem txt_short : ∀ (n : Nat) (l : List UInt8), l.length ≤ n → ∀ r, txtL l = some r → r.1.length ≤ l.length := by
 intro n
 induction n with
 | zero =>
   intro l h r hr
   obtain rfl : l = [] := List.eq_nil_of_length_eq_zero (by omega)
   rw [txtL_nil] at hr; cases hr
 | succ n ih =>
   intro l h r hr
   cases l with
   | nil => rw [txtL_nil] at hr; cases hr
   | cons c l =>
     by_cases hc : c = 34
     · subst hc
       cases l with
       | nil => rw [txtL_one (by intro l' h; cases h)] at hr; injection hr with hr; rw [← hr]; simp
       | cons d l =>
         by_cases hd : d = 34
         · subst hd
           rw [txtL_two] at hr
           obtain ⟨q, hq, e⟩ := Option.map_eq_some_iff.1 hr
           have := ih l (by simp at h; omega) q hq
           rw [← e]; simp; omega
         · rw [txtL_one (by intro l' h; injection h with h1 h2; exact hd h1)] at hr; injection hr with hr; rw [← hr]; simp
     · rw [txtL_no hc] at hr
       obtain ⟨q, hq, e⟩ := Option.map_eq_some_iff.1 hr
       have := ih l (by simp at h; omega) q hq
       rw [← e]; simp; omega
theorem next_short {c : UInt8} {l : List UInt8} {k n : Int} {s : List UInt8} {m : Nat} (h : nextL (c :: l) = some (k, n, s, m)) : s.length ≤ (c :: l).length + 1 := by
 rw [nextL_cons, tokL] at h
 split at h
 · split at h
   · injection h with h; injection h with h1 h; injection h with h2 h; injection h with h3 h4
     rw [← h3]; simp
   · cases h
 · split at h
   · injection h with h; injection h with h1 h; injection h with h2 h; injection h with h3 h4
     rw [← h3, upL_len]
     exact Nat.le_succ_of_le (List.takeWhile_sublist _).length_le
   · split at h
     · obtain ⟨r, hr, e⟩ := Option.map_eq_some_iff.1 h
       injection e with h1 e; injection e with h2 e; injection e with h3 h4
       have := txt_short l.length l (Nat.le_refl _) r hr
       rw [← h3]; simp; omega
     · unfold signT at h
       split at h
       · split at h
         · injection h with h; injection h with h1 h; injection h with h2 h; injection h with h3 h4
           rw [← h3]; simp
         · split at h
           · injection h with h; injection h with h1 h; injection h with h2 h; injection h with h3 h4
             rw [← h3]; simp
           · cases h
       · split at h
         · injection h with h; injection h with h1 h; injection h with h2 h; injection h with h3 h4
           rw [← h3]; simp
         · cases h
theorem cutF_few (N : Nat) : ∀ (f : Nat) (l : List UInt8) (i : Nat) (acc : List Tok), acc.length + l.length ≤ N → (∀ t ∈ acc, t.s.size ≤ N + 1) → (cutF f l i acc).toks.length ≤ N ∧ ∀ t ∈ (cutF f l i acc).toks, t.s.size ≤ N + 1 := by
 intro f
 induction f with
 | zero => intro l i acc h1 h2; simp only [cutF]; exact ⟨by omega, h2⟩
 | succ f ih =>
   intro l i acc h1 h2
   cases l with
   | nil => simp only [cutF]; exact ⟨by omega, h2⟩
   | cons c l =>
     unfold cutF
     split
     · exact ih _ _ _ (by simp at h1; omega) h2
     · split
       · exact ⟨by simp, by simp⟩
       · rename_i k n s m hn
         have hm := next_len hn
         have hs := next_short hn
         refine ih _ _ _ (by simp at h1 hm ⊢; omega) (fun t ht => ?_)
         rcases List.mem_append.1 ht with ht | ht
         · exact h2 t ht
         · obtain rfl : t = ⟨k, n, str s, i⟩ := by simpa using ht
           have : (str s).size = s.length := by simp [str, ByteArray.size]
           simp only [this]; simp at h1 hs; omega
theorem cut_few (s : List UInt8) : (cutL s).toks.length ≤ 300 ∧ ∀ t ∈ (cutL s).toks, t.s.size ≤ 301 := by
 unfold cutL
 split
 · exact ⟨by simp, by simp⟩
 · exact cutF_few 300 _ s 0 [] (by simp; omega) (by simp)
section
variable {l : List Tok} {n : Int} {L : Lev} {into : Bool} {k k' k'' : Nat} {a b : Nd} {e : Bad} {t : Tok} {op : List UInt8}
def Sz (f : Nat → Out) : Prop := ∀ k a k', f k = .ok (a, k') → k + a.size ≤ k'
theorem one_size (a : Nd) : a.one.size = a.size := Nd.one_size a
theorem pair_size (op : List UInt8) (a b : Nd) : (pairN op a b).size = 1 + a.size + b.size := by
 show 1 + (a.one.app b.one).size = _
 rw [Fo.size_app, one_size, one_size]; omega
theorem neg_size (a : Nd) : (negN a).size = 1 + a.size := by show 1 + a.one.size = _; rw [one_size]
theorem row_sz {part : Nat → Out} {ss : List (List UInt8)} (hp : Sz part) (k0 : Nat) : ∀ (g : Nat) (a : Nd) (k : Nat), k0 + a.size ≤ k → ∀ b k', rowF l part ss g a k = .ok (b, k') → k0 + b.size ≤ k' := by
 intro g
 induction g with
 | zero => intro a k hk b k' h; simp only [rowF] at h; injection h with h; injection h with h1 h2; subst h1 h2; exact hk
 | succ g ih =>
   intro a k hk b k' h
   cases ho : oneOf l k ss with
   | none => rw [row_end ho] at h; injection h with h; injection h with h1 h2; subst h1 h2; exact hk
   | some op =>
     cases hq : part (k + 1) with
     | error e => rw [row_bad ho hq] at h; cases h
     | ok r =>
       obtain ⟨c, k2⟩ := r
       rw [row_go ho hq] at h
       have h1 := hp _ _ _ hq
       exact ih _ _ (by rw [pair_size]; omega) _ _ h
structure LSz (L : Lev) : Prop where
 fm : Sz L.fm
 pw : Sz L.pw
 un : Sz L.un
theorem args_sz (hL : LSz L) (k0 : Nat) : ∀ (r : Nat) (acc : Fo) (k : Nat), k0 + acc.size ≤ k → ∀ x k', argsF l n L into r acc k = .ok (x, k') → k0 + x.size ≤ k' := by
 intro r
 induction r with
 | zero => intro acc k _ x k' h; simp only [argsF] at h; cases h
 | succ r ih =>
   intro acc k hk x k' h
   unfold argsF at h
   split at h
   · cases h
   · cases hq : L.fm k with
     | error e => simp only [hq] at h; cases h
     | ok q =>
       obtain ⟨c, k2⟩ := q
       simp only [hq] at h
       have h1 := hL.fm _ _ _ hq
       split at h
       · exact ih _ _ (by rw [Fo.size_app, one_size]; omega) _ _ h
       · injection h with h; injection h with h2 h3; subst h2 h3; rw [Fo.size_app, one_size]; omega
theorem call_sz (hL : LSz L) (h : callF l n L into t k = .ok (a, k')) : k + a.size ≤ k' := by
 unfold callF at h
 split at h
 · cases h
 · split at h
   · injection h with h; injection h with h3 h4; subst h3 h4; show k + (1 + 0) ≤ k + 3; omega
   · cases hq : argsF l n L into 10 .nil (k + 2) with
     | error e => simp only [hq] at h; cases h
     | ok q =>
       obtain ⟨c, k2⟩ := q
       simp only [hq] at h
       have h1 := args_sz hL (k + 2) _ _ _ (by simp [Fo.size]) _ _ hq
       cases hc : isSign l k2 [41] with
       | false => rw [close_no hc] at h; cases h
       | true =>
         rw [close_ok hc] at h
         injection h with h; injection h with h3 h4; subst h3 h4; show k + (1 + c.size) ≤ k2 + 1; omega
theorem name_sz (hL : LSz L) (h : nameF l n L into t k = .ok (a, k')) : k + a.size ≤ k' := by
 unfold nameF at h
 split at h
 · exact call_sz hL h
 · split at h
   · injection h with h; injection h with h3 h4; subst h3 h4; exact Nat.le_refl _
   · split at h
     · injection h with h; injection h with h3 h4; subst h3 h4; exact Nat.le_refl _
     · split at h
       · cases h
       · split at h
         · cases hu : l[k + 2]? with
           | none => simp only [hu] at h; cases h
           | some u =>
             simp only [hu] at h
             split at h
             · injection h with h; injection h with h3 h4; subst h3 h4; show k + (1 + 0) ≤ k + 3; omega
             · cases h
         · injection h with h; injection h with h3 h4; subst h3 h4; exact Nat.le_refl _
theorem part_sz (hL : LSz L) : Sz (partF l n L into) := by
 intro k a k' h
 unfold partF at h
 cases ht : l[k]? with
 | none => simp only [ht] at h; cases h
 | some t =>
   simp only [ht] at h
   split at h
   · injection h with h; injection h with h3 h4; subst h3 h4; exact Nat.le_refl _
   · split at h
     · split at h
       · cases h
       · injection h with h; injection h with h3 h4; subst h3 h4; exact Nat.le_refl _
     · split at h
       · exact name_sz hL h
       · split at h
         · cases hi : into with
           | false => rw [paren_deep hi] at h; cases h
           | true =>
             cases hq : L.fm (k + 1) with
             | error e => rw [paren_err hi hq] at h; cases h
             | ok q =>
               obtain ⟨c, k2⟩ := q
               have h1 := hL.fm _ _ _ hq
               cases hc : isSign l k2 [41] with
               | false => rw [paren_open hi hq hc] at h; cases h
               | true =>
                 rw [paren_ok hi hq hc] at h
                 injection h with h; injection h with h3 h4; subst h3 h4; omega
         · cases h
theorem unary_sz (hL : LSz L) : Sz (unaryF l n L into) := by
 intro k a k' h
 cases hs : isSign l k [45] with
 | false => rw [unary_no hs] at h; exact part_sz hL _ _ _ h
 | true =>
   cases hi : into with
   | false => rw [unary_deep hs hi] at h; cases h
   | true =>
     cases hq : L.un (k + 1) with
     | error e => rw [unary_err hs hi hq] at h; cases h
     | ok q =>
       obtain ⟨c, k2⟩ := q
       have h1 := hL.un _ _ _ hq
       rw [unary_ok hs hi hq] at h
       injection h with h; injection h with h3 h4; subst h3 h4; rw [neg_size]; omega
theorem power_sz (hL : LSz L) : Sz (powerF l n L into) := by
 intro k a k' h
 cases hu : unaryF l n L into k with
 | error e => rw [power_err hu] at h; cases h
 | ok q =>
   obtain ⟨c, k1⟩ := q
   have h1 := unary_sz hL _ _ _ hu
   cases hs : isSign l k1 [94] with
   | false => rw [power_one hu hs] at h; injection h with h; injection h with h3 h4; subst h3 h4; exact h1
   | true =>
     cases hi : into with
     | false => rw [power_deep hu hs hi] at h; cases h
     | true =>
       cases hq : L.pw (k1 + 1) with
       | error e => rw [power_bad hu hs hi hq] at h; cases h
       | ok q =>
         obtain ⟨d, k2⟩ := q
         have h2 := hL.pw _ _ _ hq
         rw [power_ok hu hs hi hq] at h
         injection h with h; injection h with h3 h4; subst h3 h4; rw [pair_size]; omega
theorem product_sz (hL : LSz L) : Sz (productF l n L into) := by
 intro k a k' h
 cases hu : powerF l n L into k with
 | error e => rw [product_err hu] at h; cases h
 | ok q =>
   obtain ⟨c, k1⟩ := q
   rw [product_go hu] at h
   exact row_sz (power_sz hL) k _ _ _ (power_sz hL _ _ _ hu) _ _ h
theorem sum_sz (hL : LSz L) : Sz (sumF l n L into) := by
 intro k a k' h
 cases hu : productF l n L into k with
 | error e => rw [sum_err hu] at h; cases h
 | ok q =>
   obtain ⟨c, k1⟩ := q
   rw [sum_go hu] at h
   exact row_sz (product_sz hL) k _ _ _ (product_sz hL _ _ _ hu) _ _ h
theorem formula_sz (hL : LSz L) : Sz (formulaF l n L into) := by
 intro k a k' h
 cases hu : sumF l n L into k with
 | error e => rw [formula_err hu] at h; cases h
 | ok q =>
   obtain ⟨c, k1⟩ := q
   have h1 := sum_sz hL _ _ _ hu
   cases ho : oneOf l k1 cmpS with
   | none => rw [formula_one hu ho] at h; injection h with h; injection h with h3 h4; subst h3 h4; exact h1
   | some op =>
     cases hq : sumF l n L into (k1 + 1) with
     | error e => rw [formula_bad hu ho hq] at h; cases h
     | ok q =>
       obtain ⟨d, k2⟩ := q
       have h2 := sum_sz hL _ _ _ hq
       rw [formula_ok hu ho hq] at h
       injection h with h; injection h with h3 h4; subst h3 h4; rw [pair_size]; omega
end
theorem lev_sz (l : List Tok) (n : Int) : ∀ r, LSz (lev l n r) := by
 intro r
 induction r with
 | zero => refine ⟨?_, ?_, ?_⟩ <;> (intro k a k' h; cases h)
 | succ r ih => exact ⟨formula_sz ih, power_sz ih, unary_sz ih⟩
def Wrong (l : List Tok) (n : Int) (e : Bad) : Prop := e = deepE ∨ ∃ j, e = badAt l n j
def Er (l : List Tok) (n : Int) (f : Nat → Out) : Prop := ∀ k e, f k = .error e → Wrong l n e
section
variable {l : List Tok} {n : Int} {L : Lev} {into : Bool} {k k' k'' : Nat} {a b : Nd} {e : Bad} {t : Tok} {op : List UInt8}
theorem row_er {part : Nat → Out} {ss : List (List UInt8)} (hp : Er l n part) : ∀ (g : Nat) (a : Nd) (k : Nat), ∀ e, rowF l part ss g a k = .error e → Wrong l n e := by
 intro g
 induction g with
 | zero => intro a k e h; simp only [rowF] at h; cases h
 | succ g ih =>
   intro a k e h
   cases ho : oneOf l k ss with
   | none => rw [row_end ho] at h; cases h
   | some op =>
     cases hq : part (k + 1) with
     | error e => rw [row_bad ho hq] at h; injection h with h; subst h; exact hp _ _ hq
     | ok r =>
       obtain ⟨c, k2⟩ := r
       rw [row_go ho hq] at h
       exact ih _ _ _ h
structure LEr (l : List Tok) (n : Int) (L : Lev) : Prop where
 fm : Er l n L.fm
 pw : Er l n L.pw
 un : Er l n L.un
theorem args_er (hL : LEr l n L) : ∀ (r : Nat) (acc : Fo) (k : Nat), ∀ e, argsF l n L into r acc k = .error e → Wrong l n e := by
 intro r
 induction r with
 | zero => intro acc k e h; simp only [argsF] at h; injection h with h; exact Or.inr ⟨_, h.symm⟩
 | succ r ih =>
   intro acc k e h
   unfold argsF at h
   split at h
   · injection h with h; exact Or.inl h.symm
   · cases hq : L.fm k with
     | error e => simp only [hq] at h; injection h with h; subst h; exact hL.fm _ _ hq
     | ok q =>
       obtain ⟨c, k2⟩ := q
       simp only [hq] at h
       split at h
       · exact ih _ _ _ h
       · cases h
theorem close_er (h : closeF l n k = .error e) : Wrong l n e := by
 cases hc : isSign l k [41] with
 | false => rw [close_no hc] at h; injection h with h; exact Or.inr ⟨_, h.symm⟩
 | true => rw [close_ok hc] at h; cases h
theorem call_er (hL : LEr l n L) (h : callF l n L into t k = .error e) : Wrong l n e := by
 unfold callF at h
 split at h
 · injection h with h; exact Or.inr ⟨_, h.symm⟩
 · split at h
   · cases h
   · cases hq : argsF l n L into 10 .nil (k + 2) with
     | error e => simp only [hq] at h; injection h with h; subst h; exact args_er hL _ _ _ _ hq
     | ok q =>
       obtain ⟨c, k2⟩ := q
       simp only [hq] at h
       cases hc : closeF l n k2 with
       | error e => simp only [hc] at h; injection h with h; subst h; exact close_er hc
       | ok r => simp only [hc] at h; cases h
theorem name_er (hL : LEr l n L) (h : nameF l n L into t k = .error e) : Wrong l n e := by
 unfold nameF at h
 split at h
 · exact call_er hL h
 · split at h
   · cases h
   · split at h
     · cases h
     · split at h
       · injection h with h; exact Or.inr ⟨_, h.symm⟩
       · split at h
         · cases hu : l[k + 2]? with
           | none => simp only [hu] at h; injection h with h; exact Or.inr ⟨_, h.symm⟩
           | some u =>
             simp only [hu] at h
             split at h
             · cases h
             · injection h with h; exact Or.inr ⟨_, h.symm⟩
         · cases h
theorem part_er (hL : LEr l n L) : Er l n (partF l n L into) := by
 intro k e h
 unfold partF at h
 cases ht : l[k]? with
 | none => simp only [ht] at h; injection h with h; exact Or.inr ⟨_, h.symm⟩
 | some t =>
   simp only [ht] at h
   split at h
   · cases h
   · split at h
     · split at h
       · injection h with h; exact Or.inr ⟨_, h.symm⟩
       · cases h
     · split at h
       · exact name_er hL h
       · split at h
         · unfold parenF at h
           split at h
           · injection h with h; exact Or.inl h.symm
           · cases hq : L.fm (k + 1) with
             | error e => simp only [hq] at h; injection h with h; subst h; exact hL.fm _ _ hq
             | ok q =>
               obtain ⟨c, k2⟩ := q
               simp only [hq] at h
               cases hc : closeF l n k2 with
               | error e => simp only [hc] at h; injection h with h; subst h; exact close_er hc
               | ok r => simp only [hc] at h; cases h
         · injection h with h; exact Or.inr ⟨_, h.symm⟩
theorem unary_er (hL : LEr l n L) : Er l n (unaryF l n L into) := by
 intro k e h
 cases hs : isSign l k [45] with
 | false => rw [unary_no hs] at h; exact part_er hL _ _ h
 | true =>
   cases hi : into with
   | false => rw [unary_deep hs hi] at h; injection h with h; exact Or.inl h.symm
   | true =>
     cases hq : L.un (k + 1) with
     | error e => rw [unary_err hs hi hq] at h; injection h with h; subst h; exact hL.un _ _ hq
     | ok q =>
       obtain ⟨c, k2⟩ := q
       rw [unary_ok hs hi hq] at h; cases h
theorem power_er (hL : LEr l n L) : Er l n (powerF l n L into) := by
 intro k e h
 cases hu : unaryF l n L into k with
 | error e => rw [power_err hu] at h; injection h with h; subst h; exact unary_er hL _ _ hu
 | ok q =>
   obtain ⟨c, k1⟩ := q
   cases hs : isSign l k1 [94] with
   | false => rw [power_one hu hs] at h; cases h
   | true =>
     cases hi : into with
     | false => subst hi; rw [power_deep hu hs rfl] at h; injection h with h; exact Or.inl h.symm
     | true =>
       subst hi
       cases hq : L.pw (k1 + 1) with
       | error e => rw [power_bad hu hs rfl hq] at h; injection h with h; subst h; exact hL.pw _ _ hq
       | ok q =>
         obtain ⟨d, k2⟩ := q
         rw [power_ok hu hs rfl hq] at h; cases h
theorem product_er (hL : LEr l n L) : Er l n (productF l n L into) := by
 intro k e h
 cases hu : powerF l n L into k with
 | error e => rw [product_err hu] at h; injection h with h; subst h; exact power_er hL _ _ hu
 | ok q =>
   obtain ⟨c, k1⟩ := q
   rw [product_go hu] at h
   exact row_er (power_er hL) _ _ _ _ h
theorem sum_er (hL : LEr l n L) : Er l n (sumF l n L into) := by
 intro k e h
 cases hu : productF l n L into k with
 | error e => rw [sum_err hu] at h; injection h with h; subst h; exact product_er hL _ _ hu
 | ok q =>
   obtain ⟨c, k1⟩ := q
   rw [sum_go hu] at h
   exact row_er (product_er hL) _ _ _ _ h
theorem formula_er (hL : LEr l n L) : Er l n (formulaF l n L into) := by
 intro k e h
 cases hu : sumF l n L into k with
 | error e => rw [formula_err hu] at h; injection h with h; subst h; exact sum_er hL _ _ hu
 | ok q =>
   obtain ⟨c, k1⟩ := q
   cases ho : oneOf l k1 cmpS with
   | none => rw [formula_one hu ho] at h; cases h
   | some op =>
     cases hq : sumF l n L into (k1 + 1) with
     | error e => rw [formula_bad hu ho hq] at h; injection h with h; subst h; exact sum_er hL _ _ hq
     | ok q =>
       obtain ⟨d, k2⟩ := q
       rw [formula_ok hu ho hq] at h; cases h
end
theorem lev_er (l : List Tok) (n : Int) : ∀ r, LEr l n (lev l n r) := by
 intro r
 induction r with
 | zero => refine ⟨?_, ?_, ?_⟩ <;> (intro k e h; exact Or.inl (by injection h with h; exact h.symm))
 | succ r ih => exact ⟨formula_er ih, power_er ih, unary_er ih⟩
theorem tree_wrong {l : List Tok} {n : Int} {e : Bad} (h : treeF l n = .error e) : Wrong l n e := by
 unfold treeF at h
 cases hq : (lev l n 41).fm 0 with
 | error e => rw [hq] at h; injection h with h; subst h; exact (lev_er l n 41).fm _ _ hq
 | ok q =>
   obtain ⟨b, k⟩ := q
   rw [hq] at h
   simp only at h
   split at h
   · injection h with h; exact Or.inr ⟨_, h.symm⟩
   · cases h
theorem tree_err_ne {l : List Tok} {n : Int} {e : Bad} (h : treeF l n = .error e) : e.1 ≠ 0 := by
 rcases tree_wrong h with rfl | ⟨j, rfl⟩
 · decide
 · show (13 : Int) ≠ 0; decide
theorem cutF_at : ∀ (f : Nat) (l : List UInt8) (i : Nat) (acc : List Tok), 0 ≤ (cutF f l i acc).at_ := by
 intro f
 induction f with
 | zero => intro l i acc; simp [cutF]
 | succ f ih =>
   intro l i acc
   cases l with
   | nil => simp [cutF]
   | cons c l =>
     unfold cutF
     split
     · exact ih _ _ _
     · split
       · simp
       · exact ih _ _ _
theorem cut_at (s : List UInt8) : 0 ≤ (cutL s).at_ := by
 unfold cutL
 split
 · simp
 · exact cutF_at _ _ _ _
theorem cut_lo (s : List UInt8) : ∀ t ∈ (cutL s).toks, 0 ≤ t.at_ := by
 intro t ht
 unfold cutL at ht
 split at ht
 · cases ht
 · exact ((cutF_rise _ s 0 [] ⟨List.Pairwise.nil, fun t h => by cases h⟩).lo t ht).1
theorem parse_at (s : List UInt8) : 0 ≤ (parseL s).at_ := by
 unfold parseL
 by_cases h0 : (cutL s).err ≠ 0
 · rw [if_pos h0]; exact cut_at s
 · rw [if_neg h0]
   cases ht : treeF (cutL s).toks s.length with
   | ok a => simp only; split <;> simp
   | error e =>
     simp only
     rcases tree_wrong ht with rfl | ⟨j, rfl⟩
     · show (0 : Int) ≤ 0; decide
     · show (0 : Int) ≤ (match (cutL s).toks[j]? with | some t => t.at_ | none => (s.length : Int))
       cases hj : (cutL s).toks[j]? with
       | none => simp
       | some t => exact cut_lo s t (List.mem_of_getElem? hj)
end Go.Proofs.YticehalcnbjccaaGreatDoor.TreeC
