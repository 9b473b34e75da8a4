/-
  Contracts of lex's reference: Cut.
-/
import Derived.Test.YtlbnlflfoafioaaDoorLexE
import Derived.Maps.AppendAt
import Derived.OwnWalk
import Derived.Deep.AppendLies
namespace Go.Proofs.YtlbnlflfoafioaaDoor.LexC
set_option linter.unusedVariables false
open Go.RowKit Go.Proofs.YtlbnlflfoafioaaDoor.NumC

/-- The cells of a list of tokens. -/
def tcells (l : List Tok) : List Value := l.flatMap fun t => [.int .i64 t.k, .int .i64 t.n, .string t.s, .int .i64 t.at_]
theorem tcells_snoc (l : List Tok) (t : Tok) : tcells (l ++ [t]) = tcells l ++ [.int .i64 t.k, .int .i64 t.n, .string t.s, .int .i64 t.at_] := by unfold tcells; rw [List.flatMap_append]; rfl
theorem tok_info : (Tryd.prog.info? 33).map (fun i => (i.zero, i.size, i.bytes)) = some (some (.agg #[.int .i64 0, .int .i64 0, .string { data := #[] }, .int .i64 0]), 4, 40) := by kernel_rfl
theorem own_below {w w' : World} {base : Nat} {e : TypeId} {size : Nat} {v : Value} {n : Nat} {xs : List Value} (h : w.ownsRow base e size v n xs) (hb : Below w.heap.size w w') : w'.ownsRow base e size v n xs := by
  obtain ⟨h1, h2 | ⟨g, cap, cur, h2, h3, h4, h5⟩⟩ := h
  · exact ⟨h1, Or.inl h2⟩
  · exact ⟨h1, Or.inr ⟨g, cap, cur, h2, h3, (hb.block g (Array.getElem?_eq_some_iff.1 h4).1).trans h4, h5⟩⟩
theorem own_nil (w : World) : w.ownsRow w.heap.size 33 4 (.slice none 0 0) 0 (tcells []) := ⟨rfl, Or.inl ⟨rfl, rfl⟩⟩
theorem own_nil0 (w : World) (base : Nat) : w.ownsRow base 33 4 (.slice none 0 0) 0 (tcells []) := ⟨rfl, Or.inl ⟨rfl, rfl⟩⟩
/-- What Cut answers: the tokens in a row of its own. -/
def CutPost (w : World) (r : Res) (e : Ending) (w' : World) : Prop :=
  ∃ v, e = .returned (.tuple #[v, .int .i64 r.at_, .int .i64 r.err]) ∧ w'.ownsRow w.heap.size 33 4 v r.toks.length (tcells r.toks) ∧ Below w.heap.size w w'
theorem txt_len : ∀ (l : List UInt8) (r : List UInt8 × Nat), txtL l = some r → r.2 ≤ l.length := by
  have key : ∀ (n : Nat) (l : List UInt8), l.length ≤ n → ∀ r, txtL l = some r → r.2 ≤ l.length := by
    intro n
    induction n with
    | zero => intro l hl r h; have : l = [] := List.length_eq_zero_iff.1 (by omega); subst this; cases h
    | succ n ih =>
      intro l hl r h
      cases l with
      | nil => cases h
      | cons c l =>
        by_cases hc : c = 34
        · subst hc
          by_cases h2 : ∃ l', l = 34 :: l'
          · obtain ⟨l', rfl⟩ := h2
            rw [txtL_two] at h
            obtain ⟨q, hq, rfl⟩ := Option.map_eq_some_iff.1 h
            have := ih l' (by simp at hl; omega) q hq
            simp; omega
          · rw [txtL_one (fun l' e => h2 ⟨l', e⟩)] at h
            injection h with h; subst h; simp
        · rw [txtL_no hc] at h
          obtain ⟨q, hq, rfl⟩ := Option.map_eq_some_iff.1 h
          have := ih l (by simp at hl; omega) q hq
          simp; omega
  exact fun l r h => key l.length l (Nat.le_refl _) r h
theorem next_len {c : UInt8} {l : List UInt8} {k n : Int} {s : List UInt8} {m : Nat} (h : nextL (c :: l) = some (k, n, s, m)) : 1 ≤ m ∧ m ≤ (c :: l).length := by
  have tw : ∀ (p : UInt8 → Bool), p c = true → 1 ≤ ((c :: l).takeWhile p).length ∧ ((c :: l).takeWhile p).length ≤ (c :: l).length := fun p hp => by
    refine ⟨?_, (List.takeWhile_sublist p).length_le⟩
    rw [List.takeWhile_cons, hp]; simp
  rw [nextL_cons, tokL] at h
  split at h
  · rename_i hd
    split at h
    · injection h with h; injection h with h1 h; injection h with h2 h; injection h with h3 h4
      rw [← h4]; exact tw _ hd
    · cases h
  · split at h
    · rename_i hl
      injection h with h; injection h with h1 h; injection h with h2 h; injection h with h3 h4
      rw [← h4]; exact tw _ (by unfold wordB; rw [hl]; rfl)
    · split at h
      · obtain ⟨r, hr, e⟩ := Option.map_eq_some_iff.1 h
        injection e with h1 e; injection e with h2 e; injection e with h3 h4
        have := txt_len l r hr
        simp; omega
      · unfold signT at h
        split at h
        · split at h
          · injection h with h; injection h with h1 h; injection h with h2 h; injection h with h3 h4
            rw [← h4]; simp
          · split at h
            · injection h with h; injection h with h1 h; injection h with h2 h; injection h with h3 h4
              rw [← h4]; simp
            · cases h
        · split at h
          · injection h with h; injection h with h1 h; injection h with h2 h; injection h with h3 h4
            rw [← h4]; simp
          · cases h
/-- Where the walk stands at a place, with these tokens: what is still to come makes the whole. -/
def Cutting (l : List UInt8) (i : Nat) (acc : List Tok) : Prop := cutF (l.length - i + 1) (l.drop i) i acc = cutL l
theorem Cutting.start {l : List UInt8} (h : l.length ≤ 300) : Cutting l 0 [] := by unfold Cutting cutL; rw [if_neg (by omega)]; simp
theorem Cutting.blank {l : List UInt8} {i : Nat} {acc : List Tok} (h : Cutting l i acc) (hi : i < l.length) (hc : l[i] = 32) : Cutting l (i + 1) acc := by
  unfold Cutting at *
  rw [show l.length - i + 1 = (l.length - (i + 1) + 1) + 1 from by omega, drop_cons hi, cutF, if_pos hc] at h; exact h
theorem cutF_fuel : ∀ (f g : Nat) (l : List UInt8) (i : Nat) (acc : List Tok), l.length < f → l.length < g → cutF f l i acc = cutF g l i acc := by
  intro f
  induction f with
  | zero => intro g l i acc h; omega
  | succ f ih =>
    intro g l i acc hf hg
    cases g with
    | zero => omega
    | succ g =>
      cases l with
      | nil => rfl
      | cons c l =>
        simp only [List.length_cons] at hf hg
        rw [cutF, cutF]
        by_cases hc : c = 32
        · rw [if_pos hc, if_pos hc]; exact ih g l _ _ (by omega) (by omega)
        · rw [if_neg hc, if_neg hc]
          cases hn : nextL (c :: l) with
          | none => rfl
          | some r =>
            obtain ⟨k, n, s, m⟩ := r
            have := next_len hn
            simp only
            apply ih
            · rw [List.length_drop]; simp only [List.length_cons] at *; omega
            · rw [List.length_drop]; simp only [List.length_cons] at *; omega
theorem Cutting.none_ {l : List UInt8} {i : Nat} {acc : List Tok} (h : Cutting l i acc) (hi : i < l.length) (hc : l[i] ≠ 32) (hn : nextL (l.drop i) = none) : cutL l = ⟨[], i, 12⟩ := by
  unfold Cutting at h
  rw [drop_cons hi] at hn
  rw [show l.length - i + 1 = (l.length - (i + 1) + 1) + 1 from by omega, drop_cons hi, cutF, if_neg hc, hn] at h; exact h.symm
theorem Cutting.some_ {l : List UInt8} {i : Nat} {acc : List Tok} {k n : Int} {s : List UInt8} {m : Nat} (h : Cutting l i acc) (hi : i < l.length) (hc : l[i] ≠ 32) (hn : nextL (l.drop i) = some (k, n, s, m)) : Cutting l (i + m) (acc ++ [⟨k, n, str s, i⟩]) ∧ 1 ≤ m ∧ i + m ≤ l.length := by
  have e := drop_cons hi
  have hl := next_len (by rw [← e]; exact hn)
  rw [← e, List.length_drop] at hl
  refine ⟨?_, hl.1, by omega⟩
  unfold Cutting at *
  rw [show l.length - i + 1 = (l.length - (i + 1) + 1) + 1 from by omega, drop_cons hi, cutF, if_neg hc, ← drop_cons hi, hn] at h
  simp only [List.drop_drop] at h
  rw [← h]
  apply cutF_fuel
  · rw [List.length_drop]; omega
  · rw [List.length_drop]; omega
theorem Cutting.end_ {l : List UInt8} {i : Nat} {acc : List Tok} (h : Cutting l i acc) (hi : i = l.length) : cutL l = ⟨acc, 0, 0⟩ := by
  unfold Cutting at h
  rw [List.drop_eq_nil_of_le (by omega), cutF] at h; exact h.symm
theorem nextR_some {l : List UInt8} {i : Nat} {k n : Int} {s : List UInt8} {m : Nat} (h : nextL (l.drop i) = some (k, n, s, m)) : nextR l i = ((⟨k, n, str s, (i : Int)⟩ : Tok), (m : Int)) := by unfold nextR; rw [h]
theorem nextR_none {l : List UInt8} {i : Nat} (h : nextL (l.drop i) = none) : nextR l i = (zeroT, 0) := by unfold nextR; rw [h]

set_option maxRecDepth 100000 in
set_option maxHeartbeats 4000000 in
theorem rcut (s : ByteArray) (w : World) (hs : s.size ≤ 1000000) :
    Calls Tryd.prog 9 #[.string s] w (CutPost w (cutL s.data.toList)) := by
  by_cases h3 : 300 < s.size
  · have E : Hid (cutL s.data.toList = ⟨[], 0, 2⟩) := Lib.hid (if_pos (by rw [← list_len]; exact h3))
    go_enter Tryd.func9, Tryd.ntmps9
    go_wp2
    refine bodyPost_ret (results_tmp3 rfl _ _ _) rfl ?_
    rw [E.out]
    exact ⟨_, rfl, own_nil w, Below.refl _ _⟩
  · obtain ⟨i0, hi0, hz0, hz1, hz2⟩ := info_parts tok_info
    have HZ0 := Lib.hid hz0; have HZ1 := Lib.hid hz1; have HZ2 := Lib.hid hz2; have HI0 := Lib.hid hi0
    clear hz0 hz1 hz2 hi0
    go_enter Tryd.func9, Tryd.ntmps9
    go_wp2
    go_loopw [5, 6] (fun lv a wr => ∃ (i : Nat) (acc : List Tok), i ≤ s.size ∧ acc.length ≤ i ∧ a = .int .i64 i ∧ Hid (wr.ownsRow w.heap.size 33 4 lv acc.length (tcells acc)) ∧ Below w.heap.size w wr ∧ Hid (Cutting s.data.toList i acc)) (fun _ a _ => s.size - (intOf a).toNat)
    case atStart => exact ⟨0, [], Nat.zero_le _, Nat.zero_le _, rfl, Lib.hid (own_nil w), Below.refl _ _, Lib.hid (Cutting.start (by rw [← list_len]; omega))⟩
    case round =>
      obtain ⟨i, acc, hi, hac, rfl, HO, hB, HC⟩ := hrel
      by_cases hlt : i < s.size
      · have hll : i < s.data.toList.length := by rw [← list_len]; exact hlt
        by_cases h32 : s[i].toNat = 32
        · have c1 : ((s[i].toNat : Int) == 32) = true := by rw [h32]; rfl
          have HC2 := Lib.hid (HC.out.blank hll (UInt8.toNat_inj.1 h32))
          clear h32
          go_wp2
          go_roundw
          case rel => exact ⟨i + 1, acc, by omega, by omega, by go_num, HO, hB, HC2⟩
          case measure => simp [intOf]; omega
        · have c1 : ((s[i].toNat : Int) == 32) = false := beq_eq_false_iff_ne.2 (by omega)
          have n32 : s.data.toList[i] ≠ 32 := fun e => h32 (by have : s[i] = 32 := e; rw [this]; rfl)
          cases hn : nextL (s.data.toList.drop i) with
          | none =>
            have E := Lib.hid (HC.out.none_ hll n32 hn)
            have R := Lib.hid (nextR_none hn)
            clear hn n32 h32
            go_wp2_with fail
            refine (rnext s i _ hs hlt).mono ?_; rw [R.out]; rintro e w1 ⟨rfl, hb1⟩
            unfold tokV zeroT nob
            go_wp2
            refine bodyPost_ret (results_tmp3 rfl _ _ _) rfl ?_
            rw [E.out]
            exact ⟨_, rfl, own_nil0 _ _, (hB.trans (hb1.mono hB.size)).alloc (by have := hB.size; have := hb1.size; omega) _⟩
          | some r =>
            obtain ⟨k, n, sx, m⟩ := r
            have HS := Lib.hid (HC.out.some_ hll n32 hn)
            have R := Lib.hid (nextR_some hn)
            have hm := HS.out.2
            have hm3 : (i : Int) + (m : Int) ≤ 300 := by have := list_len s; omega
            have hm4 : i + m ≤ s.size := by have := list_len s; omega
            clear hn n32 h32
            go_wp2_with fail
            refine (rnext s i _ hs hlt).mono ?_; rw [R.out]; rintro e w1 ⟨rfl, hb1⟩
            have m0 : ((m : Int) == 0) = false := beq_eq_false_iff_ne.2 (by omega)
            unfold tokV
            have hBW : Below wr.heap.size wr ((w1.alloc (.cells #[.int .i64 k, .int .i64 n, .string (str sx), .int .i64 i] 33)).alloc (.cells #[.int .i64 k, .int .i64 n, .string (str sx), .int .i64 i] 33)) := (hb1.alloc hb1.size _).alloc (by have := hb1.size; simp; omega) _
            have HOW := own_below HO.out hBW
            have hlo := World.ownsRow.lt HOW
            have hnb : ((w1.alloc (.cells #[.int .i64 k, .int .i64 n, .string (str sx), .int .i64 i] 33)).alloc (.cells #[.int .i64 k, .int .i64 n, .string (str sx), .int .i64 i] 33)).heap[w1.heap.size + 1]? = some (.cells #[.int .i64 k, .int .i64 n, .string (str sx), .int .i64 i] 33) := by
              rw [← heap_one w1 (.cells #[.int .i64 k, .int .i64 n, .string (str sx), .int .i64 i] 33)]; exact heap_alloc_new _ _
            have hBn := hB.trans (hBW.mono hB.size)
            have HH := Lib.hid HOW; have HL := Lib.hid hlo; have HNB := Lib.hid hnb
            clear hlo hnb HOW
            go_wp2_with (at_builtin
                         refine wpList_append_own_at _ rfl (.tmp 31) (.tmp 33) _ rfl w.heap.size 33 i0 _ 4 40 Tryd.underlying23 HI0.out HZ0.out HZ1.out HZ2.out rfl (by omega) u5 acc.length (tcells acc) rfl HH.out ⟨w1.heap.size + 1, 0, none⟩ 1 1 [.int .i64 k, .int .i64 n, .string (str sx), .int .i64 i] rfl rfl (World.news_of_block HNB.out) (by simp [Value.oneCell']) (by unfold maxLen; omega) (by omega) hBn.size ?_
                         intro v2 w2 hown2 hg2 hnil2 hat2
                         have HO2 : Hid (w2.ownsRow w.heap.size 33 4 v2 (acc ++ [(⟨k, n, str sx, i⟩ : Tok)]).length (tcells (acc ++ [(⟨k, n, str sx, i⟩ : Tok)]))) := Lib.hid (by rw [tcells_snoc, List.length_append]; exact hown2)
                         have hB2 := hBn.grown hg2 hBn.size (fun k hk => (HL.out k hk).1)
                         clear hown2 hg2 hnil2 hat2)
            go_roundw
            case rel => exact ⟨i + m, acc ++ [⟨k, n, str sx, i⟩], hm4, by simp; omega, by go_num, HO2, hB2, Lib.hid HS.out.1⟩
            case measure => simp [intOf]; omega
      · have E := Lib.hid (HC.out.end_ (by rw [← list_len]; omega))
        go_wp2
        refine bodyPost_ret (results_tmp3 rfl _ _ _) rfl ?_
        rw [E.out]
        exact ⟨_, rfl, HO.out, hB⟩
end Go.Proofs.YtlbnlflfoafioaaDoor.LexC
