
/-
  Who depends on whom, as plain functions over cells with edges: what is reached, direct, loops, an order; what is reached in rounds is what depends, and what an order of all cells has.
-/
namespace Go.Proofs.YtakamedgdiffbaaGreatDoor.GraphC
set_option linter.unusedVariables false
variable {A E : Type} (hit : E → A → Bool)
def anyB (e : E) (l : List A) : Bool := l.any (hit e)
def roundL : List (A × E) → List Bool → List A → List Bool × List A
  | x :: g, b :: s, l => if !b && anyB hit x.2 l then (true :: (roundL g s l).1, x.1 :: (roundL g s l).2) else (b :: (roundL g s l).1, (roundL g s l).2)
  | _, s, _ => (s, [])
def roundsL (g : List (A × E)) : Nat → List Bool → List A → List Bool
  | 0, s, _ => s
  | n + 1, s, l => roundsL g n (roundL hit g s l).1 (roundL hit g s l).2
def pickL : List (A × E) → List Bool → List A
  | x :: g, b :: s => if b then x.1 :: pickL g s else pickL g s
  | _, _ => []
def reachL (g : List (A × E)) (l : List A) : List A := pickL g (roundsL hit g (g.length + 1) (List.replicate g.length false) l)
def directL (g : List (A × E)) (l : List A) : List A := (g.filter fun x => anyB hit x.2 l).map Prod.fst
def cellsL (g : List (A × E)) : List A := g.map Prod.fst
def loopsL [DecidableEq A] (g : List (A × E)) : List A := (cellsL g).filter fun a => (reachL hit g [a]).contains a
inductive Dep (g : List (A × E)) (l : List A) : A × E → Prop
  | here {x : A × E} : x ∈ g → anyB hit x.2 l = true → Dep g l x
  | on {x y : A × E} : x ∈ g → Dep g l y → hit x.2 y.1 = true → Dep g l x
variable {hit}
theorem Dep.mem {g : List (A × E)} {l : List A} {x : A × E} (h : Dep hit g l x) : x ∈ g := by cases h <;> assumption
theorem any_iff {e : E} {l : List A} : anyB hit e l = true ↔ ∃ a, a ∈ l ∧ hit e a = true := by
  unfold anyB; rw [List.any_eq_true]
theorem round_cons (x : A × E) (g : List (A × E)) (b : Bool) (s : List Bool) (l : List A) : roundL hit (x :: g) (b :: s) l =
    if !b && anyB hit x.2 l then (true :: (roundL hit g s l).1, x.1 :: (roundL hit g s l).2) else (b :: (roundL hit g s l).1, (roundL hit g s l).2) := by
  conv => lhs; unfold roundL
theorem round_len (g : List (A × E)) (s : List Bool) (l : List A) : (roundL hit g s l).1.length = s.length := by
  induction g generalizing s with
  | nil => unfold roundL; rfl
  | cons x g ih =>
    cases s with
    | nil => rfl
    | cons b s =>
      unfold roundL
      split <;> simp [ih s]
theorem round_in (g : List (A × E)) (s : List Bool) (l : List A) (i : Nat) (hl : s.length = g.length) (x : A × E) (hx : g[i]? = some x) :
    (roundL hit g s l).1[i]? = some ((s[i]?.getD false) || anyB hit x.2 l) := by
  induction g generalizing s i with
  | nil => simp at hx
  | cons y g ih =>
    cases s with
    | nil => simp at hl
    | cons b s =>
      cases i with
      | zero =>
        simp only [List.getElem?_cons_zero, Option.some.injEq] at hx
        subst hx
        unfold roundL
        cases b <;> cases h : anyB hit y.2 l <;> simp
      | succ i =>
        simp only [List.getElem?_cons_succ] at hx
        have := ih s i (by simpa using hl) hx
        unfold roundL
        split <;> simpa using this
theorem round_new (g : List (A × E)) (s : List Bool) (l : List A) (hl : s.length = g.length) (a : A) :
    a ∈ (roundL hit g s l).2 ↔ ∃ (i : Nat) (x : A × E), g[i]? = some x ∧ x.1 = a ∧ s[i]?.getD false = false ∧ anyB hit x.2 l = true := by
  induction g generalizing s with
  | nil => unfold roundL; simp
  | cons y g ih =>
    cases s with
    | nil => simp at hl
    | cons b s =>
      have e := ih s (by simpa using hl)
      have k : (∃ (i : Nat) (x : A × E), (y :: g)[i]? = some x ∧ x.1 = a ∧ (b :: s)[i]?.getD false = false ∧ anyB hit x.2 l = true) ↔
          (y.1 = a ∧ b = false ∧ anyB hit y.2 l = true) ∨ ∃ (i : Nat) (x : A × E), g[i]? = some x ∧ x.1 = a ∧ s[i]?.getD false = false ∧ anyB hit x.2 l = true := by
        constructor
        · rintro ⟨i, x, h1, h2, h3, h4⟩
          cases i with
          | zero =>
            simp only [List.getElem?_cons_zero, Option.some.injEq] at h1
            subst h1
            exact Or.inl ⟨h2, by simpa using h3, h4⟩
          | succ i => exact Or.inr ⟨i, x, by simpa using h1, h2, by simpa using h3, h4⟩
        · rintro (⟨h2, h3, h4⟩ | ⟨i, x, h1, h2, h3, h4⟩)
          · exact ⟨0, y, rfl, h2, by simpa using h3, h4⟩
          · exact ⟨i + 1, x, by simpa using h1, h2, by simpa using h3, h4⟩
      rw [k, ← e, round_cons]
      by_cases h : (!b && anyB hit y.2 l) = true
      · rw [if_pos h, List.mem_cons]
        rw [Bool.and_eq_true, Bool.not_eq_true'] at h
        constructor
        · rintro (h1 | h1)
          · exact Or.inl ⟨h1.symm, h.1, h.2⟩
          · exact Or.inr h1
        · rintro (h1 | h1)
          · exact Or.inl h1.1.symm
          · exact Or.inr h1
      · rw [if_neg h]
        constructor
        · exact Or.inr
        · rintro (⟨h1, h2, h3⟩ | h1)
          · exact absurd (by rw [h2, h3]; rfl) h
          · exact h1
def numB (s : List Bool) : Nat := (s.filter id).length
theorem round_num (g : List (A × E)) (s : List Bool) (l : List A) (hl : s.length = g.length) :
    numB (roundL hit g s l).1 = numB s + (roundL hit g s l).2.length := by
  induction g generalizing s with
  | nil => unfold roundL; rfl
  | cons y g ih =>
    cases s with
    | nil => simp at hl
    | cons b s =>
      have e := ih s (by simpa using hl)
      unfold numB at e ⊢
      unfold roundL
      by_cases h : (!b && anyB hit y.2 l) = true
      · rw [if_pos h]
        rw [Bool.and_eq_true, Bool.not_eq_true'] at h
        simp [h.1, e]; omega
      · rw [if_neg h]
        cases b <;> simp [e]; omega
theorem num_le (s : List Bool) : numB s ≤ s.length := List.length_filter_le _ _
variable (hit) in
structure Going (g : List (A × E)) (l : List A) (s : List Bool) (m : List A) : Prop where
  len : s.length = g.length
  sound : ∀ (i : Nat) (x : A × E), g[i]? = some x → s[i]? = some true → Dep hit g l x
  front : ∀ a, a ∈ m → a ∈ l ∨ ∃ x, Dep hit g l x ∧ x.1 = a
  shut : ∀ (i : Nat) (x : A × E) (a : A), g[i]? = some x → hit x.2 a = true → (a ∈ l ∨ ∃ (j : Nat) (y : A × E), g[j]? = some y ∧ s[j]? = some true ∧ y.1 = a) → a ∈ m ∨ s[i]? = some true
theorem mem_of_at {α : Type} {g : List α} {i : Nat} {x : α} (h : g[i]? = some x) : x ∈ g := List.mem_of_getElem? h
theorem going_start (g : List (A × E)) (l : List A) : Going hit g l (List.replicate g.length false) l where
  len := by simp
  sound i x h1 h2 := by
    rw [List.getElem?_replicate] at h2
    split at h2 <;> simp at h2
  front a h := Or.inl h
  shut i x a h1 h2 h3 := by
    rcases h3 with h3 | ⟨j, y, h4, h5, h6⟩
    · exact Or.inl h3
    · rw [List.getElem?_replicate] at h5
      split at h5 <;> simp at h5
theorem at_some {g : List (A × E)} {s : List Bool} (hl : s.length = g.length) {i : Nat} {x : A × E} (hx : g[i]? = some x) : ∃ b, s[i]? = some b := by
  obtain ⟨hi, _⟩ := List.getElem?_eq_some_iff.1 hx
  exact ⟨s[i]'(by omega), List.getElem?_eq_getElem _⟩
theorem Going.next {g : List (A × E)} {l : List A} {s : List Bool} {m : List A} (h : Going hit g l s m) :
    Going hit g l (roundL hit g s m).1 (roundL hit g s m).2 where
  len := by rw [round_len, h.len]
  sound i x h1 h2 := by
    rw [round_in g s m i h.len x h1] at h2
    obtain ⟨b, hb⟩ := at_some h.len h1
    rw [hb] at h2
    simp only [Option.getD_some, Option.some.injEq, Bool.or_eq_true] at h2
    rcases h2 with h2 | h2
    · exact h.sound i x h1 (by rw [hb, h2])
    · obtain ⟨a, ha, he⟩ := any_iff.1 h2
      rcases h.front a ha with h3 | ⟨y, h3, h4⟩
      · exact .here (mem_of_at h1) (any_iff.2 ⟨a, h3, he⟩)
      · exact .on (mem_of_at h1) h3 (by rw [h4]; exact he)
  front a ha := by
    obtain ⟨i, x, h1, h2, h3, h4⟩ := (round_new g s m h.len a).1 ha
    obtain ⟨c, hc, he⟩ := any_iff.1 h4
    refine Or.inr ⟨x, ?_, h2⟩
    rcases h.front c hc with h5 | ⟨y, h5, h6⟩
    · exact .here (mem_of_at h1) (any_iff.2 ⟨c, h5, he⟩)
    · exact .on (mem_of_at h1) h5 (by rw [h6]; exact he)
  shut i x a h1 h2 h3 := by
    rw [round_in g s m i h.len x h1]
    obtain ⟨b, hb⟩ := at_some h.len h1
    rw [hb]
    simp only [Option.getD_some, Option.some.injEq, Bool.or_eq_true]
    -- was it known ahead of the round?
    by_cases hk : a ∈ l ∨ ∃ (j : Nat) (y : A × E), g[j]? = some y ∧ s[j]? = some true ∧ y.1 = a
    · rcases h.shut i x a h1 h2 hk with h4 | h4
      · exact Or.inr (Or.inr (any_iff.2 ⟨a, h4, h2⟩))
      · exact Or.inr (Or.inl (by rw [hb] at h4; simpa using h4))
    · rcases h3 with h3 | ⟨j, y, h4, h5, h6⟩
      · exact absurd (Or.inl h3) hk
      · left
        rw [round_in g s m j h.len y h4] at h5
        obtain ⟨c, hc⟩ := at_some h.len h4
        rw [hc] at h5
        simp only [Option.getD_some, Option.some.injEq, Bool.or_eq_true] at h5
        have hn : c = false := by
          cases c
          · rfl
          · exact absurd (Or.inr ⟨j, y, h4, hc, h6⟩) hk
        refine (round_new g s m h.len a).2 ⟨j, y, h4, h6, by rw [hc, hn]; rfl, ?_⟩
        rcases h5 with h5 | h5
        · rw [hn] at h5; simp at h5
        · exact h5
theorem rounds_done (g : List (A × E)) (l : List A) (n : Nat) (s : List Bool) (m : List A) (h : Going hit g l s m)
    (hn : g.length < numB s + n ∨ m = []) : ∃ m', Going hit g l (roundsL hit g n s m) m' ∧ m' = [] := by
  induction n generalizing s m with
  | zero =>
    rcases hn with hn | hn
    · have := num_le s
      have := h.len
      omega
    · exact ⟨m, h, hn⟩
  | succ n ih =>
    unfold roundsL
    refine ih _ _ h.next ?_
    rcases hn with hn | hn
    · by_cases he : (roundL hit g s m).2 = []
      · exact Or.inr he
      · left
        rw [round_num g s m h.len]
        have : 0 < (roundL hit g s m).2.length := List.length_pos_iff.2 he
        omega
    · right
      subst hn
      apply List.eq_nil_iff_forall_not_mem.2
      intro a ha
      obtain ⟨i, x, _, _, _, h4⟩ := (round_new g s [] h.len a).1 ha
      simp [anyB] at h4
theorem reach_at (g : List (A × E)) (l : List A) (i : Nat) (x : A × E) (hx : g[i]? = some x) :
    (roundsL hit g (g.length + 1) (List.replicate g.length false) l)[i]? = some true ↔ Dep hit g l x := by
  obtain ⟨m, h, hm⟩ := rounds_done g l (g.length + 1) _ l (going_start g l) (Or.inl (by omega))
  subst hm
  refine ⟨h.sound i x hx, fun hd => ?_⟩
  induction hd generalizing i with
  | here h1 h2 =>
    obtain ⟨a, ha, he⟩ := any_iff.1 h2
    rcases h.shut i _ a hx he (Or.inl ha) with h3 | h3
    · simp at h3
    · exact h3
  | @on x y h1 h2 h3 ih =>
    obtain ⟨j, hj⟩ := List.getElem?_of_mem h2.mem
    rcases h.shut i _ y.1 hx h3 (Or.inr ⟨j, y, hj, ih j hj, rfl⟩) with h3 | h3
    · simp at h3
    · exact h3
theorem rounds_len (g : List (A × E)) (n : Nat) (s : List Bool) (m : List A) : (roundsL hit g n s m).length = s.length := by
  induction n generalizing s m with
  | zero => rfl
  | succ n ih => unfold roundsL; rw [ih, round_len]
open Classical in
theorem pick_filter (g : List (A × E)) (s : List Bool) (P : A × E → Prop) (hl : s.length = g.length) (h : ∀ (i : Nat) (x : A × E), g[i]? = some x → (s[i]? = some true ↔ P x)) :
    pickL g s = (g.filter fun x => decide (P x)).map Prod.fst := by
  induction g generalizing s with
  | nil => cases s <;> rfl
  | cons y g ih =>
    cases s with
    | nil => simp at hl
    | cons b s =>
      have e := ih s (by simpa using hl) (fun i x hx => by simpa using h (i + 1) x (by simpa using hx))
      have h0 := h 0 y rfl
      unfold pickL
      by_cases hp : P y
      · have : b = true := by simpa using h0.2 hp
        rw [if_pos this, List.filter_cons_of_pos (by simpa using hp), List.map_cons, e]
      · have : ¬ b = true := fun hb => hp (h0.1 (by simp [hb]))
        rw [if_neg this, List.filter_cons_of_neg (by simpa using hp), e]
open Classical in
theorem reach_spec (g : List (A × E)) (l : List A) : reachL hit g l = (g.filter fun x => decide (Dep hit g l x)).map Prod.fst :=
  pick_filter g _ _ (by rw [rounds_len]; simp) (reach_at g l)
theorem mem_reach {g : List (A × E)} {l : List A} {a : A} : a ∈ reachL hit g l ↔ ∃ x, Dep hit g l x ∧ x.1 = a := by
  classical
  rw [reach_spec, List.mem_map]
  constructor
  · rintro ⟨x, h, e⟩
    rw [List.mem_filter, decide_eq_true_eq] at h
    exact ⟨x, h.2, e⟩
  · rintro ⟨x, h, e⟩
    exact ⟨x, by rw [List.mem_filter, decide_eq_true_eq]; exact ⟨h.mem, h⟩, e⟩
/-! Who depends on whom. -/
variable (hit) in
def On (g : List (A × E)) (a b : A) : Prop := ∃ x, Dep hit g [b] x ∧ x.1 = a
theorem On.trans {g : List (A × E)} {a b c : A} (h : On hit g a b) (k : On hit g b c) : On hit g a c := by
  obtain ⟨x, hx, e⟩ := h
  obtain ⟨y, hy, f⟩ := k
  subst e
  refine ⟨x, ?_, rfl⟩
  induction hx with
  | here h1 h2 =>
    obtain ⟨d, hd, he⟩ := any_iff.1 h2
    rw [List.mem_singleton] at hd
    subst hd
    exact .on h1 hy (by rw [f]; exact he)
  | on h1 h2 h3 ih => exact .on h1 ih h3
theorem on_iff {g : List (A × E)} {a b : A} : a ∈ reachL hit g [b] ↔ On hit g a b := mem_reach
theorem On.of_hit {g : List (A × E)} {x : A × E} {b : A} (hx : x ∈ g) (h : hit x.2 b = true) : On hit g x.1 b :=
  ⟨x, .here hx (any_iff.2 ⟨b, List.mem_singleton.2 rfl, h⟩), rfl⟩
theorem mem_direct {g : List (A × E)} {l : List A} {a : A} : a ∈ directL hit g l ↔ ∃ x, x ∈ g ∧ anyB hit x.2 l = true ∧ x.1 = a := by
  unfold directL
  rw [List.mem_map]
  constructor
  · rintro ⟨x, h, e⟩
    rw [List.mem_filter] at h
    exact ⟨x, h.1, h.2, e⟩
  · rintro ⟨x, h, k, e⟩
    exact ⟨x, List.mem_filter.2 ⟨h, k⟩, e⟩
theorem least_one (R : A → A → Prop) (tr : ∀ a b c, R a b → R b c → R a c) (n : Nat) (l : List A) (hn : l.length ≤ n) (ir : ∀ a, a ∈ l → ¬ R a a) (h : l ≠ []) :
    ∃ a, a ∈ l ∧ ∀ b, b ∈ l → ¬ R a b := by
  classical
  induction n generalizing l with
  | zero => exact absurd (List.length_eq_zero_iff.1 (by omega)) h
  | succ n ih =>
    obtain ⟨a, ha⟩ := List.exists_mem_of_ne_nil l h
    by_cases he : (l.filter fun b => decide (R a b)) = []
    · refine ⟨a, ha, fun b hb hr => ?_⟩
      have : b ∈ l.filter fun b => decide (R a b) := List.mem_filter.2 ⟨hb, decide_eq_true hr⟩
      rw [he] at this
      simp at this
    · have hlt : (l.filter fun b => decide (R a b)).length < l.length := by
        rcases Nat.lt_or_ge (l.filter fun b => decide (R a b)).length l.length with h | h
        · exact h
        · have := List.length_filter_eq_length_iff.1 (Nat.le_antisymm (List.length_filter_le _ l) h) a ha
          exact absurd (of_decide_eq_true this) (ir a ha)
      obtain ⟨c, hc, hm⟩ := ih _ (by omega) (fun b hb => ir b (List.mem_filter.1 hb).1) he
      have hac : R a c := of_decide_eq_true (List.mem_filter.1 hc).2
      refine ⟨c, (List.mem_filter.1 hc).1, fun b hb hr => ?_⟩
      exact hm b (List.mem_filter.2 ⟨hb, decide_eq_true (tr a c b hac hr)⟩) hr
section
variable [DecidableEq A]
theorem mem_loops {g : List (A × E)} {a : A} : a ∈ loopsL hit g ↔ On hit g a a := by
  unfold loopsL
  rw [List.mem_filter, List.contains_iff_mem, on_iff]
  exact ⟨fun h => h.2, fun h => ⟨by obtain ⟨x, hx, e⟩ := h; exact List.mem_map.2 ⟨x, hx.mem, e⟩, h⟩⟩
variable (hit) in
def behindB (g : List (A × E)) (a : A) (l : List A) : Bool := l.any fun b => decide (b ≠ a) && (reachL hit g [b]).contains a
theorem behind_iff {g : List (A × E)} {a : A} {l : List A} : behindB hit g a l = true ↔ ∃ b, b ∈ l ∧ b ≠ a ∧ On hit g a b := by
  unfold behindB
  rw [List.any_eq_true]
  constructor
  · rintro ⟨b, h, k⟩
    rw [Bool.and_eq_true, decide_eq_true_eq, List.contains_iff_mem, on_iff] at k
    exact ⟨b, h, k.1, k.2⟩
  · rintro ⟨b, h, k, m⟩
    exact ⟨b, h, by rw [Bool.and_eq_true, decide_eq_true_eq, List.contains_iff_mem, on_iff]; exact ⟨k, m⟩⟩
def orderF (bh : A → List A → Bool) : Nat → List A → List A
  | 0, _ => []
  | n + 1, l => match l.find? (fun a => !bh a l) with
    | none => []
    | some a => a :: orderF bh n (l.erase a)
variable (hit) in
def todoL (g : List (A × E)) (l : List A) : List A := (cellsL g).filter fun a => l.contains a && !(loopsL hit g).contains a
variable (hit) in
def orderL (g : List (A × E)) (l : List A) : List A := orderF (behindB hit g) (todoL hit g l).length (todoL hit g l)
theorem mem_todo {g : List (A × E)} {l : List A} {a : A} : a ∈ todoL hit g l ↔ a ∈ cellsL g ∧ a ∈ l ∧ ¬ On hit g a a := by
  unfold todoL
  rw [List.mem_filter, Bool.and_eq_true, List.contains_iff_mem, Bool.not_eq_true', ← Bool.not_eq_true, List.contains_iff_mem, mem_loops]
theorem todo_nodup {g : List (A × E)} (hg : (cellsL g).Nodup) (l : List A) : (todoL hit g l).Nodup := hg.sublist List.filter_sublist
theorem order_perm (g : List (A × E)) (n : Nat) (l : List A) (hn : l.length = n) (ir : ∀ a, a ∈ l → ¬ On hit g a a) : (orderF (behindB hit g) n l).Perm l := by
  induction n generalizing l with
  | zero => rw [List.length_eq_zero_iff.1 hn]; exact List.Perm.refl _
  | succ n ih =>
    unfold orderF
    obtain ⟨a, ha, hm⟩ := least_one (On hit g) (fun a b c => On.trans) _ l (Nat.le_refl _) ir (by intro e; rw [e] at hn; simp at hn)
    have hs : (l.find? fun a => !behindB hit g a l).isSome := by
      rw [List.find?_isSome]
      refine ⟨a, ha, ?_⟩
      rw [Bool.not_eq_true', ← Bool.not_eq_true, behind_iff]
      rintro ⟨b, hb, _, hr⟩
      exact hm b hb hr
    obtain ⟨c, hc⟩ := Option.isSome_iff_exists.1 hs
    rw [hc]
    have hcl : c ∈ l := List.mem_of_find?_eq_some hc
    have := ih (l.erase c) (by rw [List.length_erase_of_mem hcl]; omega) (fun b hb => ir b (List.mem_of_mem_erase hb))
    exact (this.cons c).trans (List.perm_cons_erase hcl).symm
end
end Go.Proofs.YtakamedgdiffbaaGreatDoor.GraphC
namespace Go.Proofs.YtakamedgdiffbaaGreatDoor.GraphC
set_option linter.unusedVariables false
/-! Cells with edges, as cells go; one that is set. -/
section
variable {A E : Type}
structure Goes (bf : A → A → Bool) : Prop where
  irr : ∀ a, bf a a = false
  tr : ∀ a b c, bf a b = true → bf b c = true → bf a c = true
  tot : ∀ a b, bf a b = false → bf b a = false → a = b
def SrtG (bf : A → A → Bool) (g : List (A × E)) : Prop := g.Pairwise fun x y => bf x.1 y.1 = true
def lessG [DecidableEq A] (g : List (A × E)) (a : A) : List (A × E) := g.filter fun x => decide (x.1 ≠ a)
def aheadG (bf : A → A → Bool) : List (A × E) → A → Nat
  | [], _ => 0
  | x :: g, a => if bf x.1 a then aheadG bf g a + 1 else 0
def putG (bf : A → A → Bool) (g : List (A × E)) (x : A × E) : List (A × E) := g.take (aheadG bf g x.1) ++ x :: g.drop (aheadG bf g x.1)
variable {bf : A → A → Bool}
theorem SrtG.less [DecidableEq A] {g : List (A × E)} (h : SrtG bf g) (a : A) : SrtG bf (lessG g a) := h.sublist List.filter_sublist
theorem mem_less [DecidableEq A] {g : List (A × E)} {a : A} {x : A × E} : x ∈ lessG g a ↔ x ∈ g ∧ x.1 ≠ a := by
  unfold lessG; rw [List.mem_filter, decide_eq_true_eq]
theorem ahead_le (g : List (A × E)) (a : A) : aheadG bf g a ≤ g.length := by
  induction g with
  | nil => exact Nat.le_refl _
  | cons x g ih => unfold aheadG; split <;> simp only [List.length_cons] <;> omega
theorem ahead_take (g : List (A × E)) (a : A) : ∀ x, x ∈ g.take (aheadG bf g a) → bf x.1 a = true := by
  induction g with
  | nil => simp
  | cons y g ih =>
    unfold aheadG
    split
    · rename_i h
      intro x hx
      rw [List.take_succ_cons, List.mem_cons] at hx
      rcases hx with hx | hx
      · rw [hx]; exact h
      · exact ih x hx
    · simp
theorem ahead_drop (hb : Goes bf) {g : List (A × E)} (hs : SrtG bf g) {a : A} (hn : ∀ x, x ∈ g → x.1 ≠ a) : ∀ x, x ∈ g.drop (aheadG bf g a) → bf a x.1 = true := by
  induction g with
  | nil => simp
  | cons y g ih =>
    have hs' := List.pairwise_cons.1 hs
    unfold aheadG
    split
    · intro x hx
      rw [List.drop_succ_cons] at hx
      exact ih hs'.2 (fun x hx => hn x (List.mem_cons_of_mem _ hx)) x hx
    · rename_i h
      have hy : bf a y.1 = true := by
        cases h' : bf a y.1
        · exact absurd (hb.tot _ _ (by simpa using h) h') (hn y List.mem_cons_self)
        · rfl
      intro x hx
      rw [List.drop_zero, List.mem_cons] at hx
      rcases hx with hx | hx
      · rw [hx]; exact hy
      · exact hb.tr _ _ _ hy (hs'.1 x hx)
theorem mem_put {g : List (A × E)} {x y : A × E} : y ∈ putG bf g x ↔ y = x ∨ y ∈ g := by
  unfold putG
  rw [List.mem_append, List.mem_cons]
  have : y ∈ g ↔ y ∈ g.take (aheadG bf g x.1) ∨ y ∈ g.drop (aheadG bf g x.1) := by
    conv => lhs; rw [← List.take_append_drop (aheadG bf g x.1) g]
    rw [List.mem_append]
  rw [this]
  constructor
  · rintro (h | h | h)
    · exact Or.inr (Or.inl h)
    · exact Or.inl h
    · exact Or.inr (Or.inr h)
  · rintro (h | h | h)
    · exact Or.inr (Or.inl h)
    · exact Or.inl h
    · exact Or.inr (Or.inr h)
theorem SrtG.put (hb : Goes bf) {g : List (A × E)} (hs : SrtG bf g) {x : A × E} (hn : ∀ y, y ∈ g → y.1 ≠ x.1) : SrtG bf (putG bf g x) := by
  unfold putG SrtG
  rw [List.pairwise_append]
  have hd := ahead_drop hb hs hn
  have ht := ahead_take (bf := bf) g x.1
  refine ⟨List.Pairwise.sublist (List.take_sublist _ _) hs, List.pairwise_cons.2 ⟨hd, List.Pairwise.sublist (List.drop_sublist _ _) hs⟩, ?_⟩
  intro a ha b hb'
  rw [List.mem_cons] at hb'
  rcases hb' with h | h
  · rw [h]; exact ht a ha
  · exact hb.tr _ _ _ (ht a ha) (hd b h)
theorem SrtG.nodup (hb : Goes bf) {g : List (A × E)} (hs : SrtG bf g) : (cellsL g).Nodup := by
  unfold cellsL
  rw [List.nodup_iff_pairwise_ne, List.pairwise_map]
  exact hs.imp fun {x y} h e => by rw [e, hb.irr] at h; exact absurd h (by decide)
theorem SrtG.only (hb : Goes bf) {g : List (A × E)} (hs : SrtG bf g) {x y : A × E} (hx : x ∈ g) (hy : y ∈ g) (e : x.1 = y.1) : x = y := by
  induction g with
  | nil => simp at hx
  | cons z g ih =>
    have h := List.pairwise_cons.1 hs
    rw [List.mem_cons] at hx hy
    rcases hx with hx | hx <;> rcases hy with hy | hy
    · rw [hx, hy]
    · have := h.1 y hy; rw [← hx, e, hb.irr] at this; exact absurd this (by decide)
    · have := h.1 x hx; rw [← hy, e, hb.irr] at this; exact absurd this (by decide)
    · exact ih h.2 hx hy
theorem srt_ext (hb : Goes bf) {g m : List (A × E)} (hg : SrtG bf g) (hm : SrtG bf m) (h : ∀ x, x ∈ g ↔ x ∈ m) : g = m := by
  induction g generalizing m with
  | nil =>
    cases m with
    | nil => rfl
    | cons y m => exact absurd ((h y).2 List.mem_cons_self) (by simp)
  | cons x g ih =>
    cases m with
    | nil => exact absurd ((h x).1 List.mem_cons_self) (by simp)
    | cons y m =>
      have hg' := List.pairwise_cons.1 hg
      have hm' := List.pairwise_cons.1 hm
      have e : x = y := by
        have h1 := (h x).1 List.mem_cons_self
        have h2 := (h y).2 List.mem_cons_self
        rw [List.mem_cons] at h1 h2
        rcases h1 with h1 | h1
        · exact h1
        · rcases h2 with h2 | h2
          · exact h2.symm
          · have := hb.tr _ _ _ (hg'.1 y h2) (hm'.1 x h1)
            rw [hb.irr] at this
            exact absurd this (by decide)
      subst e
      congr 1
      refine ih hg'.2 hm'.2 fun z => ?_
      have hz := h z
      rw [List.mem_cons, List.mem_cons] at hz
      constructor
      · intro k
        rcases hz.1 (Or.inr k) with r | r
        · subst r; have := hg'.1 z k; rw [hb.irr] at this; exact absurd this (by decide)
        · exact r
      · intro k
        rcases hz.2 (Or.inr k) with r | r
        · subst r; have := hm'.1 z k; rw [hb.irr] at this; exact absurd this (by decide)
        · exact r
def edgesG [DecidableEq A] (d : E) (g : List (A × E)) (a : A) : E := match g.find? fun x => decide (x.1 = a) with
  | some x => x.2
  | none => d
theorem edges_of [DecidableEq A] (hb : Goes bf) {d : E} {g : List (A × E)} (hs : SrtG bf g) {x : A × E} (hx : x ∈ g) : edgesG d g x.1 = x.2 := by
  unfold edgesG
  cases h : g.find? fun y => decide (y.1 = x.1) with
  | none => exact absurd (List.find?_eq_none.1 h x hx) (by simp)
  | some y =>
    have h1 := List.find?_some h
    rw [decide_eq_true_eq] at h1
    rw [hs.only hb (List.mem_of_find?_eq_some h) hx h1]
theorem edges_none [DecidableEq A] {d : E} {g : List (A × E)} {a : A} (h : ∀ x, x ∈ g → x.1 ≠ a) : edgesG d g a = d := by
  unfold edgesG
  rw [List.find?_eq_none.2 (fun x hx => by simpa using h x hx)]
end
end Go.Proofs.YtakamedgdiffbaaGreatDoor.GraphC
namespace Go.Proofs.YtakamedgdiffbaaGreatDoor.GraphC
set_option linter.unusedVariables false
/-! A ring of cells, each of which refers to the next one (GraphRing). -/
def nextN (k i : Nat) : Nat := if i + 1 = k then 0 else i + 1
section
variable {A E : Type} {hit : E → A → Bool}
variable (c : Nat → A) (e : Nat → E)
variable {c e}
end
end Go.Proofs.YtakamedgdiffbaaGreatDoor.GraphC
namespace Go.Proofs.YtakamedgdiffbaaGreatDoor.GraphC
set_option linter.unusedVariables false
def upd {α : Type} (f : Nat → α) (i : Nat) (x : α) : Nat → α := fun j => if j = i then x else f j
theorem upd_self {α : Type} (f : Nat → α) (i : Nat) (x : α) : upd f i x i = x := by simp [upd]
theorem upd_ne {α : Type} (f : Nat → α) {i j : Nat} (x : α) (h : j ≠ i) : upd f i x j = f j := by simp [upd, h]
theorem nodup_len (n : Nat) : ∀ (l : List Nat), l.Nodup → (∀ x, x ∈ l → x < n) → l.length ≤ n := by
  induction n with
  | zero =>
    intro l _ h
    cases l with
    | nil => exact Nat.le_refl _
    | cons x l => exact absurd (h x List.mem_cons_self) (by omega)
  | succ n ih =>
    intro l nd h
    have h1 := ih (l.erase n) (nd.erase n) (fun x hx => by
      have h2 := h x (List.mem_of_mem_erase hx)
      have h3 : x ≠ n := fun e => by rw [e] at hx; exact absurd hx (List.Nodup.not_mem_erase nd)
      omega)
    have h2 := List.length_erase (a := n) (l := l)
    split at h2 <;> omega
section
variable (R : Nat → List Nat)
inductive Rch : Nat → Nat → Prop
  | refl (a : Nat) : Rch a a
  | step {a b c : Nat} : b ∈ R a → Rch b c → Rch a c
def Dpn (a c : Nat) : Prop := ∃ b, b ∈ R a ∧ Rch R b c
end
section
variable {R : Nat → List Nat}
theorem Rch.trans {a b c : Nat} (h : Rch R a b) (k : Rch R b c) : Rch R a c := by
  induction h with
  | refl a => exact k
  | step h1 _ ih => exact .step h1 (ih k)
theorem Rch.one {a b : Nat} (h : b ∈ R a) : Rch R a b := .step h (.refl b)
theorem Dpn.of {a b c : Nat} (h : Rch R a b) (k : Dpn R b c) : Dpn R a c := by
  cases h with
  | refl a => exact k
  | step h1 h2 =>
    obtain ⟨d, hd, k⟩ := k
    exact ⟨_, h1, h2.trans (.step hd k)⟩
theorem Dpn.rch {a c : Nat} (h : Dpn R a c) : Rch R a c := by obtain ⟨b, h1, h2⟩ := h; exact .step h1 h2
end
structure Sp3 where
  a : Nat
  m : Nat
  t : Nat
structure Wk where
  f : Nat → Nat
  al : Nat → Nat
  op : List Nat
section
variable (R : Nat → List Nat) (op : List Nat) (f : Nat → Nat)
structure Seg (a m t hi : Nat) : Prop where
  m1 : 1 ≤ m
  mh : m ≤ hi
  at_ : op[m - 1]? = some a
  tl : t ≤ (R a).length
  met : ∀ (i j : Nat), i < t → (R a)[i]? = some j → f j ≠ 0
  reach : ∀ (q x : Nat), m - 1 ≤ q → q < hi → op[q]? = some x → Rch R a x
  gone : ∀ (q x : Nat), m ≤ q → q < hi → op[q]? = some x → f x ≤ q ∧ ∀ (j : Nat), j ∈ R x → f j ≠ 0
  low : ∀ (q x j p : Nat), m - 1 ≤ q → q < hi → op[q]? = some x → j ∈ R x → (q = m - 1 → ∃ i, i < t ∧ (R a)[i]? = some j) → op[p]? = some j → p < m - 1 → f a ≤ p + 1 ∨ ∃ c, (R a)[t]? = some c ∧ 0 < f c ∧ f c ≤ p + 1
def WayOk : Nat → List Sp3 → Prop
  | hi, [] => hi = 0
  | hi, s :: r => Seg R op f s.a s.m s.t hi ∧ (∀ u, r.head? = some u → (R u.a)[u.t]? = some s.a) ∧ WayOk (s.m - 1) r
end
structure Inv (n : Nat) (R : Nat → List Nat) (σ : Wk) : Prop where
  lt : ∀ (x : Nat), x ∈ σ.op → x < n
  nd : σ.op.Nodup
  fo : ∀ (q x : Nat), σ.op[q]? = some x → 1 ≤ σ.f x ∧ σ.f x ≤ q + 1
  fc : ∀ (i : Nat), i < n → i ∉ σ.op → σ.f i = 0 ∨ σ.f i = 1001
  clo : ∀ (i : Nat), i < n → σ.f i = 1001 → (∀ (j : Nat), j ∈ R i → σ.f j = 1001) ∧ ∀ (j : Nat), (σ.al i).testBit j = true ↔ Dpn R i j
  emp : ∀ (i : Nat), i < n → σ.f i ≠ 1001 → σ.al i = 0
  back : ∀ (q x : Nat), σ.op[q]? = some x → ∃ y, σ.op[σ.f x - 1]? = some y ∧ Rch R x y
section
variable {n : Nat} {R : Nat → List Nat} {σ : Wk}
theorem Inv.len (I : Inv n R σ) : σ.op.length ≤ n := nodup_len n _ I.nd I.lt
theorem Inv.open_lt (I : Inv n R σ) {x : Nat} (h : x ∈ σ.op) : 1 ≤ σ.f x ∧ σ.f x ≤ n := by
  obtain ⟨q, hq⟩ := List.getElem?_of_mem h
  have h1 := I.fo q x hq
  have h2 := (List.getElem?_eq_some_iff.1 hq).1
  have h3 := I.len
  omega
theorem at_inj {l : List Nat} (nd : l.Nodup) {p q x : Nat} (h : l[p]? = some x) (k : l[q]? = some x) : p = q :=
  (List.getElem?_inj (List.getElem?_eq_some_iff.1 h).1 nd).1 (h.trans k.symm)
theorem WayOk.mono {R : Nat → List Nat} {op op' : List Nat} {f f' : Nat → Nat} (hi : Nat) (way : List Sp3)
    (ho : ∀ q, q < hi → op'[q]? = op[q]?) (hl : ∀ p x, op'[p]? = some x → p < hi → op[p]? = some x)
    (he : ∀ q x, q < hi → op[q]? = some x → f' x = f x) (hp : ∀ c, 0 < f c → 0 < f' c ∧ (f' c ≤ f c ∨ hi < f c)) (h : WayOk R op f hi way) : WayOk R op' f' hi way := by
  induction way generalizing hi with
  | nil => exact h
  | cons s r ih =>
    obtain ⟨S, h2, h3⟩ := h
    have m1 := S.m1
    have mh := S.mh
    refine ⟨{ m1 := S.m1, mh := S.mh, tl := S.tl, at_ := ?_, met := ?_, reach := ?_, gone := ?_, low := ?_ }, h2, ih (s.m - 1) (fun q hq => ho q (by omega)) (fun p x h1 h2 => hl p x h1 (by omega)) (fun q x h1 h2 => he q x (by omega) h2) (fun c hc => by
      obtain ⟨k1, k2⟩ := hp c hc
      exact ⟨k1, by omega⟩) h3⟩
    · rw [ho _ (by omega)]; exact S.at_
    · intro i j hi2 hj
      have := hp j (Nat.pos_of_ne_zero (S.met i j hi2 hj))
      omega
    · intro q x h1 h4 h5; rw [ho q h4] at h5; exact S.reach q x h1 h4 h5
    · intro q x h1 h4 h5
      rw [ho q h4] at h5
      obtain ⟨k1, k2⟩ := S.gone q x h1 h4 h5
      refine ⟨by rw [he q x h4 h5]; exact k1, fun j hj => ?_⟩
      have := hp j (Nat.pos_of_ne_zero (k2 j hj))
      omega
    · intro q x j p h1 h4 h5 h6 h7 h8 h9
      rw [ho q h4] at h5
      rcases S.low q x j p h1 h4 h5 h6 h7 (hl p j h8 (by omega)) h9 with k | ⟨c, k1, k2, k3⟩
      · left; rw [he (s.m - 1) s.a (by omega) S.at_]; exact k
      · right
        refine ⟨c, k1, (hp c k2).1, ?_⟩
        rcases (hp c k2).2 with k | k
        · omega
        · omega
def meetW (σ : Wk) (c : Nat) : Wk := { σ with f := upd σ.f c (σ.op.length + 1), op := σ.op ++ [c] }
theorem meet_ok (I : Inv n R σ) (hn : n ≤ 1000) (hR : ∀ i j, i < n → j ∈ R i → j < n) {way : List Sp3} (W : WayOk R σ.op σ.f σ.op.length way) {c : Nat} (hc : c < n) (h0 : σ.f c = 0)
    (hw : ∀ u, way.head? = some u → (R u.a)[u.t]? = some c) :
    Inv n R (meetW σ c) ∧ WayOk R (meetW σ c).op (meetW σ c).f (meetW σ c).op.length (⟨c, σ.op.length + 1, 0⟩ :: way) := by
  have hno : c ∉ σ.op := fun h => by have := (I.open_lt h).1; omega
  have hlen := I.len
  have hne : ∀ x, x ∈ σ.op → upd σ.f c (σ.op.length + 1) x = σ.f x := fun x hx => upd_ne _ _ (fun e => hno (e ▸ hx))
  have hne1 : ∀ q x, σ.op[q]? = some x → upd σ.f c (σ.op.length + 1) x = σ.f x := fun q x hx => hne x (List.mem_of_getElem? hx)
  have hat : ∀ q, q < σ.op.length → (σ.op ++ [c])[q]? = σ.op[q]? := fun q hq => List.getElem?_append_left hq
  have hend : (σ.op ++ [c])[σ.op.length]? = some c := by rw [List.getElem?_append_right (Nat.le_refl _)]; simp
  have hcase : ∀ q x, (σ.op ++ [c])[q]? = some x → (q < σ.op.length ∧ σ.op[q]? = some x) ∨ (q = σ.op.length ∧ x = c) := by
    intro q x h
    by_cases hq : q < σ.op.length
    · left; rw [hat q hq] at h; exact ⟨hq, h⟩
    · right
      have h1 := (List.getElem?_eq_some_iff.1 h).1
      simp only [List.length_append, List.length_cons, List.length_nil] at h1
      have e : q = σ.op.length := by omega
      subst e
      rw [hend] at h
      exact ⟨rfl, by injection h with h; exact h.symm⟩
  have hc1 : (σ.op.length + 1 : Nat) ≤ 1000 := by
    have := nodup_len n (σ.op ++ [c]) (List.nodup_append.2 ⟨I.nd, by simp, fun a ha b hb => by simp at hb; subst hb; rintro rfl; exact hno ha⟩) (fun x hx => by
      rcases List.mem_append.1 hx with h | h
      · exact I.lt x h
      · simp at h; omega)
    simp at this; omega
  refine ⟨{ lt := ?_, nd := ?_, fo := ?_, fc := ?_, clo := ?_, emp := ?_, back := ?_ }, ⟨{ m1 := by simp, mh := by simp [meetW], tl := Nat.zero_le _, at_ := ?_, met := ?_, reach := ?_, gone := ?_, low := ?_ }, ?_, ?_⟩⟩
  · intro x hx
    rcases List.mem_append.1 hx with h | h
    · exact I.lt x h
    · simp at h; omega
  · exact List.nodup_append.2 ⟨I.nd, by simp, fun a ha b hb => by simp at hb; subst hb; rintro rfl; exact hno ha⟩
  · intro q x h
    show 1 ≤ upd σ.f c (σ.op.length + 1) x ∧ upd σ.f c (σ.op.length + 1) x ≤ q + 1
    rcases hcase q x h with ⟨h1, h2⟩ | ⟨h1, h2⟩
    · rw [hne1 q x h2]; exact I.fo q x h2
    · rw [h2, h1, upd_self]; omega
  · intro i hi hn2
    have h1 : i ∉ σ.op := fun h => hn2 (List.mem_append_left _ h)
    have h2 : i ≠ c := fun e => hn2 (List.mem_append_right _ (by simp [e]))
    show upd σ.f c (σ.op.length + 1) i = 0 ∨ upd σ.f c (σ.op.length + 1) i = 1001
    rw [upd_ne _ _ h2]; exact I.fc i hi h1
  · intro i hi h
    have hic : i ≠ c := by rintro rfl; change upd σ.f i (σ.op.length + 1) i = 1001 at h; rw [upd_self] at h; omega
    change upd σ.f c (σ.op.length + 1) i = 1001 at h
    rw [upd_ne _ _ hic] at h
    obtain ⟨h1, h2⟩ := I.clo i hi h
    refine ⟨fun j hj => ?_, h2⟩
    show upd σ.f c (σ.op.length + 1) j = 1001
    have := h1 j hj
    rw [upd_ne _ _ (by rintro rfl; omega)]; exact this
  · intro i hi h
    change upd σ.f c (σ.op.length + 1) i ≠ 1001 at h
    by_cases hic : i = c
    · exact I.emp i hi (by rw [hic, h0]; omega)
    · rw [upd_ne _ _ hic] at h; exact I.emp i hi h
  · intro q x h
    show ∃ y, (σ.op ++ [c])[upd σ.f c (σ.op.length + 1) x - 1]? = some y ∧ Rch R x y
    rcases hcase q x h with ⟨h1, h2⟩ | ⟨h1, h2⟩
    · rw [hne1 q x h2]
      obtain ⟨y, hy, hr⟩ := I.back q x h2
      have := (List.getElem?_eq_some_iff.1 hy).1
      exact ⟨y, by rw [hat _ this]; exact hy, hr⟩
    · rw [h2, upd_self]
      exact ⟨c, by rw [Nat.add_sub_cancel]; exact hend, .refl c⟩
  · show (σ.op ++ [c])[σ.op.length + 1 - 1]? = some c
    rw [Nat.add_sub_cancel]; exact hend
  · intro i j hi; change i < 0 at hi; omega
  · intro q x h1 h2 h3
    rcases hcase q x h3 with ⟨k1, k2⟩ | ⟨k1, k2⟩
    · simp at h1; omega
    · rw [k2]; exact .refl c
  · intro q x h1 h2 h3
    have := (List.getElem?_eq_some_iff.1 h3).1
    simp [meetW] at this h1; omega
  · intro q x j p h1 h2 h3 h4 h5 h6 h7
    simp only [meetW, List.length_append, List.length_cons, List.length_nil] at h2
    obtain ⟨i, hi, -⟩ := h5 (by simp at h1 ⊢; omega)
    change i < 0 at hi; omega
  · exact hw
  · show WayOk R (σ.op ++ [c]) (upd σ.f c (σ.op.length + 1)) (σ.op.length + 1 - 1) way
    rw [Nat.add_sub_cancel]
    refine WayOk.mono σ.op.length way hat (fun p x h1 h2 => by rw [hat p h2] at h1; exact h1) (fun q x h1 h2 => hne1 q x h2) (fun d hd => ?_) W
    rw [upd_ne _ _ (by rintro rfl; omega)]
    exact ⟨hd, Or.inl (Nat.le_refl _)⟩
def lookW (σ : Wk) (a c : Nat) : Wk := { σ with f := upd σ.f a (min (σ.f a) (σ.f c)) }
theorem look_ok (I : Inv n R σ) (hn : n ≤ 1000) (hR : ∀ i j, i < n → j ∈ R i → j < n) {way : List Sp3} {a m t : Nat} (W : WayOk R σ.op σ.f σ.op.length (⟨a, m, t⟩ :: way)) {c : Nat} (ht : (R a)[t]? = some c) (h0 : σ.f c ≠ 0) :
    Inv n R (lookW σ a c) ∧ WayOk R (lookW σ a c).op (lookW σ a c).f (lookW σ a c).op.length (⟨a, m, t + 1⟩ :: way) := by
  obtain ⟨S, h2, h3⟩ := W
  have hlen := I.len
  have m1 : 1 ≤ m := S.m1
  have hao : a ∈ σ.op := List.mem_of_getElem? S.at_
  have han := I.lt a hao
  have hfa := I.open_lt hao
  have hca : c ∈ R a := List.mem_of_getElem? ht
  have hcn := hR a c han hca
  have hnew : 1 ≤ min (σ.f a) (σ.f c) ∧ min (σ.f a) (σ.f c) ≤ σ.f a ∧ min (σ.f a) (σ.f c) ≤ σ.f c := by omega
  generalize hk : min (σ.f a) (σ.f c) = k at hnew
  have hpos : ∀ q x, σ.op[q]? = some x → q ≠ m - 1 → x ≠ a := fun q x h h1 e => h1 (at_inj I.nd (e ▸ h) S.at_)
  refine ⟨{ lt := I.lt, nd := I.nd, fo := ?_, fc := ?_, clo := ?_, emp := ?_, back := ?_ }, ⟨{ m1 := m1, mh := S.mh, tl := ?_, at_ := S.at_, met := ?_, reach := S.reach, gone := ?_, low := ?_ }, h2, ?_⟩⟩
  · intro q x h
    show 1 ≤ upd σ.f a (min (σ.f a) (σ.f c)) x ∧ upd σ.f a (min (σ.f a) (σ.f c)) x ≤ q + 1
    rw [hk]
    have h1 := I.fo q x h
    by_cases e : x = a
    · rw [e, upd_self]; rw [e] at h1; omega
    · rw [upd_ne _ _ e]; exact h1
  · intro i hi h
    show upd σ.f a (min (σ.f a) (σ.f c)) i = 0 ∨ upd σ.f a (min (σ.f a) (σ.f c)) i = 1001
    rw [upd_ne _ _ (by rintro rfl; exact h hao)]; exact I.fc i hi h
  · intro i hi h
    change upd σ.f a (min (σ.f a) (σ.f c)) i = 1001 at h
    rw [hk] at h
    have hia : i ≠ a := by rintro rfl; rw [upd_self] at h; omega
    rw [upd_ne _ _ hia] at h
    obtain ⟨h1, h2⟩ := I.clo i hi h
    refine ⟨fun j hj => ?_, h2⟩
    have h4 := h1 j hj
    show upd σ.f a (min (σ.f a) (σ.f c)) j = 1001
    rw [upd_ne _ _ (by rintro rfl; omega)]; exact h4
  · intro i hi h
    refine I.emp i hi fun e => h ?_
    show upd σ.f a (min (σ.f a) (σ.f c)) i = 1001
    rw [upd_ne _ _ (by rintro rfl; omega)]; exact e
  · intro q x h
    show ∃ y, σ.op[upd σ.f a (min (σ.f a) (σ.f c)) x - 1]? = some y ∧ Rch R x y
    rw [hk]
    by_cases e : x = a
    · rw [e, upd_self]
      by_cases hle : σ.f a ≤ σ.f c
      · rw [show k = σ.f a by omega]
        rw [e] at h
        exact I.back q a h
      · rw [show k = σ.f c by omega]
        have hco : c ∈ σ.op := by
          cases Classical.em (c ∈ σ.op) with
          | inl h => exact h
          | inr h => rcases I.fc c hcn h with h | h <;> omega
        obtain ⟨q2, hq2⟩ := List.getElem?_of_mem hco
        obtain ⟨y, hy, hr⟩ := I.back q2 c hq2
        exact ⟨y, hy, .step hca hr⟩
    · rw [upd_ne _ _ e]; exact I.back q x h
  · have := (List.getElem?_eq_some_iff.1 ht).1; exact this
  · intro i j hi hj
    show upd σ.f a (min (σ.f a) (σ.f c)) j ≠ 0
    rw [hk]
    by_cases e : j = a
    · rw [e, upd_self]; omega
    · rw [upd_ne _ _ e]
      by_cases hit : i = t
      · rw [hit, ht] at hj; injection hj with hj; rw [← hj]; exact h0
      · exact S.met i j (by simp at hi ⊢; omega) hj
  · intro q x h1 h4 h5
    obtain ⟨k1, k2⟩ := S.gone q x h1 h4 h5
    show upd σ.f a (min (σ.f a) (σ.f c)) x ≤ q ∧ ∀ j, j ∈ R x → upd σ.f a (min (σ.f a) (σ.f c)) j ≠ 0
    rw [hk]
    have h1 : m ≤ q := h1
    refine ⟨by rw [upd_ne _ _ (hpos q x h5 (by omega))]; exact k1, fun j hj => ?_⟩
    by_cases e : j = a
    · rw [e, upd_self]; omega
    · rw [upd_ne _ _ e]; exact k2 j hj
  · intro q x j p h1 h4 h5 h6 h7 h8 h9
    left
    show upd σ.f a (min (σ.f a) (σ.f c)) a ≤ p + 1
    rw [hk, upd_self]
    by_cases hjc : j = c ∧ q = m - 1
    · have := I.fo p j h8
      rw [hjc.1] at this; omega
    · have hold : q = m - 1 → ∃ i, i < t ∧ (R a)[i]? = some j := by
        intro e
        obtain ⟨i, hi, hj⟩ := h7 e
        refine ⟨i, ?_, hj⟩
        have : i ≠ t := by rintro rfl; rw [ht] at hj; injection hj with hj; exact hjc ⟨hj.symm, e⟩
        simp at hi ⊢; omega
      rcases S.low q x j p h1 h4 h5 h6 hold h8 h9 with k1 | ⟨d, k1, k2, k3⟩
      · simp only at k1; omega
      · change (R a)[t]? = some d at k1
        rw [ht] at k1; injection k1 with k1; subst k1; omega
  · show WayOk R σ.op (upd σ.f a (min (σ.f a) (σ.f c))) (m - 1) way
    rw [hk]
    have mh : m ≤ σ.op.length := S.mh
    refine WayOk.mono (m - 1) way (fun _ _ => rfl) (fun _ _ h _ => h) (fun q x h1 h4 => upd_ne _ _ (hpos q x h4 (by omega))) (fun d hd => ?_) h3
    by_cases e : d = a
    · rw [e, upd_self]; omega
    · rw [upd_ne _ _ e]; exact ⟨hd, Or.inl (Nat.le_refl _)⟩
theorem early_ok (I : Inv n R σ) {way : List Sp3} {a m t : Nat} (W : WayOk R σ.op σ.f σ.op.length (⟨a, m, t⟩ :: way)) (ht : t = (R a).length) (hlt : σ.f a < m) : WayOk R σ.op σ.f σ.op.length way := by
  obtain ⟨S, h2, h3⟩ := W
  have m1 : 1 ≤ m := S.m1
  have mh : m ≤ σ.op.length := S.mh
  have hao : a ∈ σ.op := List.mem_of_getElem? S.at_
  have hfa := I.open_lt hao
  cases way with
  | nil => simp only [WayOk] at h3; omega
  | cons u r =>
    obtain ⟨U, h4, h5⟩ := h3
    have u1 : 1 ≤ u.m := U.m1
    have uh : u.m ≤ m - 1 := U.mh
    have hua : (R u.a)[u.t]? = some a := h2 u rfl
    have hra : Rch R u.a a := .one (List.mem_of_getElem? hua)
    refine ⟨{ m1 := u1, mh := by omega, tl := U.tl, at_ := U.at_, met := U.met, reach := ?_, gone := ?_, low := ?_ }, h4, h5⟩
    · intro q x k1 k2 k3
      by_cases hq : q < m - 1
      · exact U.reach q x k1 hq k3
      · exact hra.trans (S.reach q x (by simp; omega) k2 k3)
    · intro q x k1 k2 k3
      by_cases hq : q < m - 1
      · exact U.gone q x k1 hq k3
      · by_cases hq2 : q = m - 1
        · subst hq2
          have e : x = a := by have := S.at_; rw [k3] at this; injection this
          subst e
          refine ⟨by omega, fun j hj => ?_⟩
          obtain ⟨i, hi⟩ := List.getElem?_of_mem hj
          exact S.met i j (by have := (List.getElem?_eq_some_iff.1 hi).1; simp; omega) hi
        · exact S.gone q x (by simp; omega) k2 k3
    · intro q x j p k1 k2 k3 k4 k5 k6 k7
      by_cases hq : q < m - 1
      · exact U.low q x j p k1 hq k3 k4 k5 k6 k7
      · right
        refine ⟨a, hua, by omega, ?_⟩
        have := S.low q x j p (by simp; omega) k2 k3 k4 (fun e => by
          have e2 : x = a := by have h := S.at_; simp at e h; rw [e, h] at k3; injection k3 with k3; exact k3.symm
          subst e2
          obtain ⟨i, hi⟩ := List.getElem?_of_mem k4
          exact ⟨i, by have := (List.getElem?_eq_some_iff.1 hi).1; simp; omega, hi⟩) k6 (by simp; omega)
        rcases this with h | ⟨c, h, -⟩
        · exact h
        · simp [ht] at h
structure Ring (R : Nat → List Nat) (σ : Wk) (a m : Nat) : Prop where
  out : ∀ q x j, m - 1 ≤ q → σ.op[q]? = some x → j ∈ R x → σ.f j = 1001 ∨ ∃ p, m - 1 ≤ p ∧ σ.op[p]? = some j
  low : ∀ q x, m - 1 ≤ q → σ.op[q]? = some x → m ≤ σ.f x
  to : ∀ q x, m - 1 ≤ q → σ.op[q]? = some x → Rch R x a
  fro : ∀ q x, m - 1 ≤ q → σ.op[q]? = some x → Rch R a x
theorem ring_of (I : Inv n R σ) (hn : n ≤ 1000) (hR : ∀ i j, i < n → j ∈ R i → j < n) {way : List Sp3} {a m t : Nat} (W : WayOk R σ.op σ.f σ.op.length (⟨a, m, t⟩ :: way)) (ht : t = (R a).length) (hge : ¬ σ.f a < m) : Ring R σ a m := by
  obtain ⟨S, h2, h3⟩ := W
  have m1 : 1 ≤ m := S.m1
  have mh : m ≤ σ.op.length := S.mh
  have hao : a ∈ σ.op := List.mem_of_getElem? S.at_
  have hfa : σ.f a = m := by have := (I.fo (m - 1) a S.at_).2; omega
  have hall : ∀ j, j ∈ R a → ∃ i, i < t ∧ (R a)[i]? = some j := fun j hj => by
    obtain ⟨i, hi⟩ := List.getElem?_of_mem hj
    exact ⟨i, by have := (List.getElem?_eq_some_iff.1 hi).1; omega, hi⟩
  have isa : ∀ x, σ.op[m - 1]? = some x → x = a := fun x h => by have := S.at_; simp at this; rw [h] at this; injection this
  have out : ∀ q x j, m - 1 ≤ q → σ.op[q]? = some x → j ∈ R x → σ.f j = 1001 ∨ ∃ p, m - 1 ≤ p ∧ σ.op[p]? = some j := by
    intro q x j k1 k2 k3
    have hxn := I.lt x (List.mem_of_getElem? k2)
    have hjn := hR x j hxn k3
    have hql := (List.getElem?_eq_some_iff.1 k2).1
    have hmet : σ.f j ≠ 0 := by
      by_cases hq : q = m - 1
      · subst hq
        have e := isa x k2
        subst e
        obtain ⟨i, hi, hj⟩ := hall j k3
        exact S.met i j hi hj
      · exact (S.gone q x (by simp; omega) hql k2).2 j k3
    by_cases hjo : j ∈ σ.op
    · right
      obtain ⟨p, hp⟩ := List.getElem?_of_mem hjo
      refine ⟨p, Nat.le_of_not_lt fun hlt => ?_, hp⟩
      have := S.low q x j p k1 hql k2 k3 (fun e => by simp at e; subst e; have e := isa x k2; subst e; exact hall j k3) hp hlt
      rcases this with h | ⟨c, h, -⟩
      · simp only at h; omega
      · simp [ht] at h
    · rcases I.fc j hjn hjo with h | h
      · exact absurd h hmet
      · exact Or.inl h
  have stay : ∀ x y, Rch R x y → (σ.f x = 1001 ∧ x < n ∨ ∃ p, m - 1 ≤ p ∧ σ.op[p]? = some x) → (σ.f y = 1001 ∧ y < n ∨ ∃ p, m - 1 ≤ p ∧ σ.op[p]? = some y) := by
    intro x y h
    induction h with
    | refl x => exact id
    | step h1 _ ih =>
      intro k
      refine ih ?_
      rcases k with ⟨k1, k2⟩ | ⟨p, k1, k2⟩
      · exact Or.inl ⟨(I.clo _ k2 k1).1 _ h1, hR _ _ k2 h1⟩
      · rcases out p _ _ k1 k2 h1 with h | h
        · exact Or.inl ⟨h, hR _ _ (I.lt _ (List.mem_of_getElem? k2)) h1⟩
        · exact Or.inr h
  have low : ∀ q x, m - 1 ≤ q → σ.op[q]? = some x → m ≤ σ.f x := by
    intro q x k1 k2
    obtain ⟨y, hy, hr⟩ := I.back q x k2
    have hyo := I.open_lt (List.mem_of_getElem? hy)
    have := (I.fo q x k2).1
    rcases stay x y hr (Or.inr ⟨q, k1, k2⟩) with ⟨h, -⟩ | ⟨p, k3, k4⟩
    · omega
    · have := at_inj I.nd hy k4; omega
  refine ⟨out, low, ?_, fun q x k1 k2 => S.reach q x k1 (List.getElem?_eq_some_iff.1 k2).1 k2⟩
  intro q
  induction q using Nat.strongRecOn with
  | _ q ih =>
    intro x k1 k2
    by_cases hq : q = m - 1
    · subst hq
      have e := isa x k2
      subst e
      exact .refl _
    · have h1 := (S.gone q x (by simp; omega) (List.getElem?_eq_some_iff.1 k2).1 k2).1
      have h2 := low q x k1 k2
      obtain ⟨y, hy, hr⟩ := I.back q x k2
      exact hr.trans (ih (σ.f x - 1) (by omega) y (by omega) hy)
theorem ring_all (I : Inv n R σ) (hR : ∀ i j, i < n → j ∈ R i → j < n) {a m : Nat} (G : Ring R σ a m) {s : Nat} (hs : ∀ j, s.testBit j = true ↔ ∃ x, x ∈ σ.op.drop (m - 1) ∧ ∃ y, y ∈ R x ∧ (j = y ∨ (σ.al y).testBit j = true))
    (q x : Nat) (hq : m - 1 ≤ q) (hx : σ.op[q]? = some x) (j : Nat) : s.testBit j = true ↔ Dpn R x j := by
  have mem : ∀ z, z ∈ σ.op.drop (m - 1) ↔ ∃ p, m - 1 ≤ p ∧ σ.op[p]? = some z := by
    intro z
    constructor
    · intro h
      obtain ⟨p, hp⟩ := List.getElem?_of_mem h
      rw [List.getElem?_drop] at hp
      exact ⟨m - 1 + p, by omega, hp⟩
    · rintro ⟨p, h1, h2⟩
      refine List.mem_of_getElem? (i := p - (m - 1)) ?_
      rw [List.getElem?_drop, show m - 1 + (p - (m - 1)) = p by omega]; exact h2
  rw [hs j]
  constructor
  · rintro ⟨z, hz, y, hy, h⟩
    obtain ⟨p, k1, k2⟩ := (mem z).1 hz
    have hxz : Rch R x z := (G.to q x hq hx).trans (G.fro p z k1 k2)
    have hyn := hR z y (I.lt z (List.mem_of_getElem? k2)) hy
    refine Dpn.of hxz ⟨y, hy, ?_⟩
    rcases h with h | h
    · rw [h]; exact .refl y
    · by_cases hc : σ.f y = 1001
      · exact (((I.clo y hyn hc).2 j).1 h).rch
      · rw [I.emp y hyn hc] at h; simp at h
  · rintro ⟨y, hy, hr⟩
    have key : ∀ y j, Rch R y j → ∀ q x, m - 1 ≤ q → σ.op[q]? = some x → y ∈ R x → ∃ x, x ∈ σ.op.drop (m - 1) ∧ ∃ y, y ∈ R x ∧ (j = y ∨ (σ.al y).testBit j = true) := by
      intro y j h
      induction h with
      | refl y => intro q x k1 k2 k3; exact ⟨x, (mem x).2 ⟨q, k1, k2⟩, y, k3, Or.inl rfl⟩
      | step h1 h2 ih =>
        intro q x k1 k2 k3
        rcases G.out q x _ k1 k2 k3 with h | ⟨p, h3, h4⟩
        · have hyn := hR x _ (I.lt x (List.mem_of_getElem? k2)) k3
          exact ⟨x, (mem x).2 ⟨q, k1, k2⟩, _, k3, Or.inr (((I.clo _ hyn h).2 _).2 ⟨_, h1, h2⟩)⟩
        · exact ih p _ h3 h4 h1
    exact key y j hr q x hq hx hy
def closeW (σ : Wk) (m s : Nat) : Wk :=
  { f := fun i => if i ∈ σ.op.drop (m - 1) then 1001 else σ.f i, al := fun i => if i ∈ σ.op.drop (m - 1) then s else σ.al i, op := σ.op.take (m - 1) }
theorem close_ok (I : Inv n R σ) (hn : n ≤ 1000) (hR : ∀ i j, i < n → j ∈ R i → j < n) {way : List Sp3} {a m t : Nat} (W : WayOk R σ.op σ.f σ.op.length (⟨a, m, t⟩ :: way)) (ht : t = (R a).length) (hge : ¬ σ.f a < m)
    {s : Nat} (hs : ∀ j, s.testBit j = true ↔ ∃ x, x ∈ σ.op.drop (m - 1) ∧ ∃ y, y ∈ R x ∧ (j = y ∨ (σ.al y).testBit j = true)) :
    Inv n R (closeW σ m s) ∧ WayOk R (closeW σ m s).op (closeW σ m s).f (closeW σ m s).op.length way := by
  have G := ring_of I hn hR W ht hge
  obtain ⟨S, h2, h3⟩ := W
  have m1 : 1 ≤ m := S.m1
  have mh : m ≤ σ.op.length := S.mh
  have hall := fun q x hq hx j => ring_all I hR G hs q x hq hx j
  have mem : ∀ z, z ∈ σ.op.drop (m - 1) ↔ ∃ p, m - 1 ≤ p ∧ σ.op[p]? = some z := by
    intro z
    constructor
    · intro h
      obtain ⟨p, hp⟩ := List.getElem?_of_mem h
      rw [List.getElem?_drop] at hp
      exact ⟨m - 1 + p, by omega, hp⟩
    · rintro ⟨p, h1, h2⟩
      refine List.mem_of_getElem? (i := p - (m - 1)) ?_
      rw [List.getElem?_drop, show m - 1 + (p - (m - 1)) = p by omega]; exact h2
  have lowat : ∀ q x, q < m - 1 → σ.op[q]? = some x → x ∉ σ.op.drop (m - 1) := fun q x k1 k2 h => by
    obtain ⟨p, h4, h5⟩ := (mem x).1 h
    have := at_inj I.nd k2 h5; omega
  have htake : ∀ q x, (σ.op.take (m - 1))[q]? = some x → q < m - 1 ∧ σ.op[q]? = some x := fun q x h => by
    rw [List.getElem?_take] at h
    split at h
    · rename_i hq; exact ⟨hq, h⟩
    · cases h
  have hin : ∀ x, x ∈ σ.op.drop (m - 1) → x ∈ σ.op := fun x h => List.mem_of_mem_drop h
  have hlen : (σ.op.take (m - 1)).length = m - 1 := by rw [List.length_take]; omega
  refine ⟨{ lt := fun x hx => I.lt x (List.mem_of_mem_take hx), nd := I.nd.sublist (List.take_sublist _ _), fo := ?_, fc := ?_, clo := ?_, emp := ?_, back := ?_ }, ?_⟩
  · intro q x h
    obtain ⟨k1, k2⟩ := htake q x h
    show 1 ≤ (if x ∈ σ.op.drop (m - 1) then 1001 else σ.f x) ∧ (if x ∈ σ.op.drop (m - 1) then 1001 else σ.f x) ≤ q + 1
    rw [if_neg (lowat q x k1 k2)]; exact I.fo q x k2
  · intro i hi h
    show (if i ∈ σ.op.drop (m - 1) then 1001 else σ.f i) = 0 ∨ (if i ∈ σ.op.drop (m - 1) then 1001 else σ.f i) = 1001
    by_cases hd : i ∈ σ.op.drop (m - 1)
    · rw [if_pos hd]; exact Or.inr rfl
    · rw [if_neg hd]
      refine I.fc i hi fun ho => ?_
      rw [← List.take_append_drop (m - 1) σ.op] at ho
      rcases List.mem_append.1 ho with h4 | h4
      · exact h h4
      · exact hd h4
  · intro i hi h
    change (if i ∈ σ.op.drop (m - 1) then 1001 else σ.f i) = 1001 at h
    show (∀ j, j ∈ R i → (if j ∈ σ.op.drop (m - 1) then 1001 else σ.f j) = 1001) ∧ ∀ j, (if i ∈ σ.op.drop (m - 1) then s else σ.al i).testBit j = true ↔ Dpn R i j
    by_cases hd : i ∈ σ.op.drop (m - 1)
    · obtain ⟨q, k1, k2⟩ := (mem i).1 hd
      rw [if_pos hd]
      refine ⟨fun j hj => ?_, hall q i k1 k2⟩
      rcases G.out q i j k1 k2 hj with h | h
      · split <;> first | rfl | exact h
      · rw [if_pos ((mem j).2 h)]
    · rw [if_neg hd] at h ⊢
      obtain ⟨k1, k2⟩ := I.clo i hi h
      refine ⟨fun j hj => ?_, k2⟩
      rw [k1 j hj]; split <;> rfl
  · intro i hi h
    change (if i ∈ σ.op.drop (m - 1) then 1001 else σ.f i) ≠ 1001 at h
    show (if i ∈ σ.op.drop (m - 1) then s else σ.al i) = 0
    by_cases hd : i ∈ σ.op.drop (m - 1)
    · rw [if_pos hd] at h; exact absurd rfl h
    · rw [if_neg hd] at h ⊢; exact I.emp i hi h
  · intro q x h
    obtain ⟨k1, k2⟩ := htake q x h
    show ∃ y, (σ.op.take (m - 1))[(if x ∈ σ.op.drop (m - 1) then 1001 else σ.f x) - 1]? = some y ∧ Rch R x y
    rw [if_neg (lowat q x k1 k2)]
    obtain ⟨y, hy, hr⟩ := I.back q x k2
    have := I.fo q x k2
    exact ⟨y, by rw [List.getElem?_take, if_pos (by omega)]; exact hy, hr⟩
  · show WayOk R (σ.op.take (m - 1)) (fun i => if i ∈ σ.op.drop (m - 1) then 1001 else σ.f i) (σ.op.take (m - 1)).length way
    rw [hlen]
    refine WayOk.mono (m - 1) way (fun q hq => by rw [List.getElem?_take, if_pos hq]) (fun p x h _ => (htake p x h).2) (fun q x k1 k2 => if_neg (lowat q x k1 k2)) (fun c hc => ?_) h3
    by_cases hd : c ∈ σ.op.drop (m - 1)
    · simp only [if_pos hd]
      obtain ⟨q, k1, k2⟩ := (mem c).1 hd
      have := G.low q c k1 k2
      omega
    · simp only [if_neg hd]; exact ⟨hc, Or.inl (Nat.le_refl _)⟩
def unmet (n : Nat) (f : Nat → Nat) : Nat := ((List.range n).filter fun i => decide (f i = 0)).length
def muW (n : Nat) (R : Nat → List Nat) (σ : Wk) (way : List Sp3) : Nat := unmet n σ.f * (n + 2) + (way.map fun s => (R s.a).length - s.t + 1).sum
theorem unmet_eq {f g : Nat → Nat} (h : ∀ i, i < n → (f i = 0 ↔ g i = 0)) : unmet n f = unmet n g := by
  unfold unmet
  congr 1
  refine List.filter_congr fun i hi => ?_
  rw [decide_eq_decide]; exact h i (List.mem_range.1 hi)
theorem filter_len_lt {α : Type} {l : List α} {p q : α → Bool} (h : ∀ x, x ∈ l → p x = true → q x = true) {c : α} (hc : c ∈ l) (h1 : p c = false) (h2 : q c = true) : (l.filter p).length < (l.filter q).length := by
  induction l with
  | nil => cases hc
  | cons y l ih =>
    have hle : (l.filter p).length ≤ (l.filter q).length := by
      clear ih hc
      induction l with
      | nil => exact Nat.le_refl _
      | cons z l ih =>
        have h3 := ih (fun x hx => h x (by rcases List.mem_cons.1 hx with e | e; exact e ▸ List.mem_cons_self; exact List.mem_cons_of_mem _ (List.mem_cons_of_mem _ e)))
        have h4 := h z (List.mem_cons_of_mem _ List.mem_cons_self)
        rw [List.filter_cons, List.filter_cons]
        cases hp : p z
        · cases q z <;> simp <;> omega
        · rw [h4 hp]; simp; omega
    rw [List.filter_cons, List.filter_cons]
    rcases List.mem_cons.1 hc with e | e
    · subst e; rw [h1, h2]; simp; omega
    · have h3 := ih (fun x hx => h x (List.mem_cons_of_mem _ hx)) e
      have h4 := h y List.mem_cons_self
      cases hp : p y
      · cases q y <;> simp <;> omega
      · rw [h4 hp]; simp; omega
theorem mu_meet {σ : Wk} {way : List Sp3} {c : Nat} (hc : c < n) (h0 : σ.f c = 0) (hl : (R c).length ≤ n) : muW n R (meetW σ c) (⟨c, σ.op.length + 1, 0⟩ :: way) < muW n R σ way := by
  have h1 : unmet n (meetW σ c).f < unmet n σ.f := by
    refine filter_len_lt (c := c) (fun x hx h => ?_) (List.mem_range.2 hc) ?_ ?_
    · change decide (upd σ.f c (σ.op.length + 1) x = 0) = true at h
      by_cases e : x = c
      · rw [e, upd_self] at h; simp at h
      · rw [upd_ne _ _ e] at h; exact h
    · show decide (upd σ.f c (σ.op.length + 1) c = 0) = false
      rw [upd_self]; simp
    · simp [h0]
  unfold muW
  rw [List.map_cons, List.sum_cons]
  have h2 : (unmet n (meetW σ c).f + 1) * (n + 2) ≤ unmet n σ.f * (n + 2) := Nat.mul_le_mul_right _ h1
  rw [Nat.add_mul] at h2
  simp only [Nat.sub_zero]
  omega
theorem mu_look {σ : Wk} {way : List Sp3} {a m t c : Nat} (ht : (R a)[t]? = some c) (ha : σ.f a ≠ 0) (h0 : σ.f c ≠ 0) : muW n R (lookW σ a c) (⟨a, m, t + 1⟩ :: way) < muW n R σ (⟨a, m, t⟩ :: way) := by
  have h1 : unmet n (lookW σ a c).f = unmet n σ.f := unmet_eq fun i _ => by
    show upd σ.f a (min (σ.f a) (σ.f c)) i = 0 ↔ σ.f i = 0
    by_cases e : i = a
    · rw [e, upd_self]; omega
    · rw [upd_ne _ _ e]
  have h2 := (List.getElem?_eq_some_iff.1 ht).1
  unfold muW
  rw [h1, List.map_cons, List.sum_cons, List.map_cons, List.sum_cons]
  simp only
  omega
theorem mu_early {σ : Wk} {way : List Sp3} {s : Sp3} : muW n R σ way < muW n R σ (s :: way) := by
  unfold muW
  rw [List.map_cons, List.sum_cons]
  omega
theorem mu_close {σ : Wk} {way : List Sp3} {s : Sp3} {m x : Nat} (h : ∀ i, i ∈ σ.op → σ.f i ≠ 0) : muW n R (closeW σ m x) way < muW n R σ (s :: way) := by
  have h1 : unmet n (closeW σ m x).f = unmet n σ.f := unmet_eq fun i _ => by
    show (if i ∈ σ.op.drop (m - 1) then 1001 else σ.f i) = 0 ↔ σ.f i = 0
    by_cases hd : i ∈ σ.op.drop (m - 1)
    · rw [if_pos hd]
      have := h i (List.mem_of_mem_drop hd)
      omega
    · rw [if_neg hd]
  unfold muW
  rw [h1, List.map_cons, List.sum_cons]
  omega
end
end Go.Proofs.YtakamedgdiffbaaGreatDoor.GraphC
