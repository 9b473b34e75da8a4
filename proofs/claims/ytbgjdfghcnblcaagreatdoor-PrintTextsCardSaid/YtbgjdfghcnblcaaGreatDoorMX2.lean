/-
  Plain facts: each node of what is parsed fits its kind.
-/
import Derived.Test.YtbgjdfghcnblcaaGreatDoorMZ
import Derived.Test.YtbgjdfghcnblcaaGreatDoorMLexF
namespace Go.Proofs.YtbgjdfghcnblcaaGreatDoor.TreeC
set_option linter.unusedVariables false
open Go.Proofs.YtbgjdfghcnblcaaGreatDoor.NumC Go.Proofs.YtbgjdfghcnblcaaGreatDoor.LexC

/-- A name's text: a letter, letters and digits, none of them small. -/
structure NameL (s : List UInt8) : Prop where
  head : ∃ c r, s = c :: r ∧ letB c = true
  all : ∀ c ∈ s, wordB c = true
  up : upL s = s
theorem let_up {c : UInt8} (h : letB c = true) : letB (upC c) = true := by
  by_cases h2 : 97 ≤ c.toNat ∧ c.toNat ≤ 122
  · rw [upC_up h2]; exact letB_iff.2 (Or.inr (by rw [sub32 h2.1]; omega))
  · rw [upC_no h2]; exact h
theorem dig_up {c : UInt8} (h : digB c = true) : upC c = c := upC_no (by have := digB_iff.1 h; omega)
theorem word_up {c : UInt8} (h : wordB c = true) : wordB (upC c) = true := by
  unfold wordB at h ⊢
  cases hl : letB c with
  | true => rw [let_up hl]; rfl
  | false => rw [hl] at h; rw [dig_up (by simpa using h)]; rw [hl]; exact h
theorem let_dig {c : UInt8} (h : letB c = true) : digB c = false := by
  cases hd : digB c with
  | false => rfl
  | true => have := letB_iff.1 h; have := digB_iff.1 hd; omega
theorem take_mem {p : UInt8 → Bool} : ∀ (l : List UInt8), ∀ c ∈ l.takeWhile p, p c = true
  | [], c, h => by cases h
  | a :: l, c, h => by
    rw [List.takeWhile_cons] at h
    split at h
    · rename_i ha
      rcases List.mem_cons.1 h with rfl | h
      · exact ha
      · exact take_mem l c h
    · cases h
theorem take_all {p : UInt8 → Bool} : ∀ (l : List UInt8), (∀ c ∈ l, p c = true) → l.takeWhile p = l
  | [], _ => rfl
  | a :: l, h => by rw [List.takeWhile_cons, if_pos (h a (List.mem_cons_self ..)), take_all l (fun c hc => h c (List.mem_cons_of_mem _ hc))]
theorem nameL_of {c : UInt8} {l : List UInt8} (h : letB c = true) : NameL (upL ((c :: l).takeWhile wordB)) := by
  have hw : wordB c = true := by unfold wordB; rw [h]; rfl
  refine ⟨⟨upC c, upL (l.takeWhile wordB), ?_, let_up h⟩, fun x hx => ?_, upL_idem _⟩
  · rw [List.takeWhile_cons, if_pos hw]; rfl
  · obtain ⟨y, hy, rfl⟩ := List.mem_map.1 hx
    exact word_up (take_mem _ y hy)
/-- A token as Cut tells it. -/
def TokOK (t : Tok) : Prop := (t.k = 1 → 0 ≤ t.n) ∧ (t.k = 3 → ∃ s, t.s = str s ∧ NameL s)
theorem next_ok {c : UInt8} {l : List UInt8} {k n : Int} {s : List UInt8} {m : Nat} (i : Int) (h : nextL (c :: l) = some (k, n, s, m)) : TokOK ⟨k, n, str s, i⟩ := by
  rw [nextL_cons, tokL] at h
  split at h
  · split at h
    · injection h with h; injection h with h1 h; injection h with h2 h; injection h with h3 h4
      exact ⟨fun _ => by show 0 ≤ n; rw [← h2]; omega, fun e => by have : k = 3 := e; omega⟩
    · cases h
  · split at h
    · rename_i hl
      injection h with h; injection h with h1 h; injection h with h2 h; injection h with h3 h4
      exact ⟨fun e => by have : k = 1 := e; omega, fun _ => ⟨s, rfl, by rw [← h3]; exact nameL_of hl⟩⟩
    · split at h
      · obtain ⟨r, hr, e⟩ := Option.map_eq_some_iff.1 h
        injection e with h1 e
        exact ⟨fun e => by have : k = 1 := e; omega, fun e => by have : k = 3 := e; omega⟩
      · have : k = 4 := by
          unfold signT at h
          split at h
          · split at h
            · injection h with h; injection h with h1 h; omega
            · split at h
              · injection h with h; injection h with h1 h; omega
              · cases h
          · split at h
            · injection h with h; injection h with h1 h; omega
            · cases h
        exact ⟨fun e => by have : k = 1 := e; omega, fun e => by have : k = 3 := e; omega⟩
theorem cutF_ok : ∀ (f : Nat) (l : List UInt8) (i : Nat) (acc : List Tok), (∀ t ∈ acc, TokOK t) → ∀ t ∈ (cutF f l i acc).toks, TokOK t := by
  intro f
  induction f with
  | zero => intro l i acc h; simpa only [cutF] using h
  | succ f ih =>
    intro l i acc h
    cases l with
    | nil => simpa only [cutF] using h
    | cons c l =>
      unfold cutF
      split
      · exact ih _ _ _ h
      · split
        · intro t ht; cases ht
        · rename_i k n s m hn
          refine ih _ _ _ (fun t ht => ?_)
          rcases List.mem_append.1 ht with ht | ht
          · exact h t ht
          · obtain rfl : t = ⟨k, n, str s, i⟩ := by simpa using ht
            exact next_ok _ hn
theorem cut_ok (s : List UInt8) : ∀ t ∈ (cutL s).toks, TokOK t := by
  unfold cutL
  split
  · intro t ht; cases ht
  · exact cutF_ok _ _ _ _ (fun t ht => by cases ht)
/-- A name is cut as one name, that it is. -/
theorem name_cut {s : List UInt8} (h : NameL s) (hl : s.length ≤ 300) : cutL s = ⟨[⟨3, 0, str s, 0⟩], 0, 0⟩ := by
  obtain ⟨c, r, rfl, hc⟩ := h.head
  have ht : (c :: r).takeWhile wordB = c :: r := take_all _ h.all
  have hn : nextL (c :: r) = some (3, 0, c :: r, (c :: r).length) := by
    rw [nextL_cons, tokL, if_neg (by rw [let_dig hc]; decide), if_pos hc, ht, h.up]
  have hb : c ≠ 32 := by rintro rfl; revert hc; decide
  unfold cutL
  rw [if_neg (by omega), cutF, if_neg hb, hn]
  simp only [List.drop_length, cutF_nil]
  rfl
theorem fn_ok {t : Tok} (h : TokOK t) (hk : t.k = 3) (h8 : t.s.size ≤ 8) : fnB t.s = true := by
  obtain ⟨s, e, hn⟩ := h.2 hk
  have hl : s.length ≤ 300 := by rw [e] at h8; simp [str, ByteArray.size] at h8; omega
  have hd : t.s.data.toList = s := by rw [e]; simp [str]
  unfold fnB
  rw [hd, name_cut hn hl, decide_eq_true h8]
  simp [e]

section
variable {l : List Tok} {n : Int} {L : Lev} {into : Bool} {k k' k'' : Nat} {a b : Nd} {e : Bad} {t : Tok} {op : List UInt8}
/-- All nodes of a part's tree fit. -/
def Ft (f : Nat → Out) : Prop := ∀ k a k', f k = .ok (a, k') → a.all fitsB = true
theorem one_all (p : Fld → Nat → Bool) (a : Nd) : a.one.all p = a.all p := by simp [Nd.one, Fo.all, Nd.all]
theorem app_all (p : Fld → Nat → Bool) (x y : Fo) : (x.app y).all p = (x.all p && y.all p) := by
  induction x with
  | nil => simp [Fo.app, Fo.all]
  | cons f k n _ ih => simp only [Fo.app, Fo.all, ih]; cases k.all p <;> cases p f k.len <;> simp
theorem f_v (k r1 r2 r3 r4 : Int) (o : ByteArray) : noVB ⟨k, 0, 0, nob, r1, r2, r3, r4, o⟩ = true := decide_eq_true (p := (⟨0, 0, nob⟩ : ValueC.Val) = ⟨0, 0, { data := #[] }⟩) rfl
theorem f_r (k vk vn : Int) (vs o : ByteArray) : noRB ⟨k, vk, vn, vs, 0, 0, 0, 0, o⟩ = true := decide_eq_true ⟨rfl, rfl, rfl, rfl⟩
theorem nob_nil : (nob.toList == ([] : List UInt8)) = true := by decide +kernel
theorem f_o (k vk vn r1 r2 r3 r4 : Int) (vs : ByteArray) : noOB ⟨k, vk, vn, vs, r1, r2, r3, r4, nob⟩ = true := nob_nil
theorem f_t (k vk vn r1 r2 : Int) (vs o : ByteArray) : noTB ⟨k, vk, vn, vs, r1, r2, 0, 0, o⟩ = true := decide_eq_true ⟨rfl, rfl⟩
theorem fits_1 {vk vn : Int} {vs : ByteArray} (h : constB vk vn vs = true) : fitsB ⟨1, vk, vn, vs, 0, 0, 0, 0, nob⟩ 0 = true := by
  have e : fitsB ⟨1, vk, vn, vs, 0, 0, 0, 0, nob⟩ 0 = (constB vk vn vs && noRB ⟨1, vk, vn, vs, 0, 0, 0, 0, nob⟩ && noOB ⟨1, vk, vn, vs, 0, 0, 0, 0, nob⟩ && decide ((0 : Nat) = 0)) := by
    unfold fitsB; rw [if_pos (show (1 : Int) = 1 from rfl)]
  rw [e, h, f_r, f_o]; rfl
theorem fits_2 {r c : Int} (h : AddrC.cellB r c = true) : fitsB ⟨2, 0, 0, nob, r, c, 0, 0, nob⟩ 0 = true := by
  have e : fitsB ⟨2, 0, 0, nob, r, c, 0, 0, nob⟩ 0 = (AddrC.cellB r c && noTB ⟨2, 0, 0, nob, r, c, 0, 0, nob⟩ && noVB ⟨2, 0, 0, nob, r, c, 0, 0, nob⟩ && noOB ⟨2, 0, 0, nob, r, c, 0, 0, nob⟩ && decide ((0 : Nat) = 0)) := by
    unfold fitsB; rw [if_neg (show ¬ (2 : Int) = 1 by decide), if_pos (show (2 : Int) = 2 from rfl)]
  rw [e, h, f_t, f_v, f_o]; rfl
theorem fits_3 {a b c d : Int} (h : AddrC.fineB a b c d = true) : fitsB ⟨3, 0, 0, nob, a, b, c, d, nob⟩ 0 = true := by
  have e : fitsB ⟨3, 0, 0, nob, a, b, c, d, nob⟩ 0 = (AddrC.fineB a b c d && noVB ⟨3, 0, 0, nob, a, b, c, d, nob⟩ && noOB ⟨3, 0, 0, nob, a, b, c, d, nob⟩ && decide ((0 : Nat) = 0)) := by
    unfold fitsB; rw [if_neg (show ¬ (3 : Int) = 1 by decide), if_neg (show ¬ (3 : Int) = 2 by decide), if_pos (show (3 : Int) = 3 from rfl)]
  rw [e, h, f_v, f_o]; rfl
theorem fits_4 : fitsB ⟨4, 0, 0, nob, 0, 0, 0, 0, nob⟩ 1 = true := by
  have e : fitsB ⟨4, 0, 0, nob, 0, 0, 0, 0, nob⟩ 1 = (decide ((1 : Nat) = 1) && noVB ⟨4, 0, 0, nob, 0, 0, 0, 0, nob⟩ && noRB ⟨4, 0, 0, nob, 0, 0, 0, 0, nob⟩ && noOB ⟨4, 0, 0, nob, 0, 0, 0, 0, nob⟩) := by
    unfold fitsB; rw [if_neg (show ¬ (4 : Int) = 1 by decide), if_neg (show ¬ (4 : Int) = 2 by decide), if_neg (show ¬ (4 : Int) = 3 by decide), if_pos (show (4 : Int) = 4 from rfl)]
  rw [e, f_v, f_r, f_o]; rfl
theorem fits_5 {o : ByteArray} (h : binB o = true) : fitsB ⟨5, 0, 0, nob, 0, 0, 0, 0, o⟩ 2 = true := by
  have e : fitsB ⟨5, 0, 0, nob, 0, 0, 0, 0, o⟩ 2 = (binB o && decide ((2 : Nat) = 2) && noVB ⟨5, 0, 0, nob, 0, 0, 0, 0, o⟩ && noRB ⟨5, 0, 0, nob, 0, 0, 0, 0, o⟩) := by
    unfold fitsB; rw [if_neg (show ¬ (5 : Int) = 1 by decide), if_neg (show ¬ (5 : Int) = 2 by decide), if_neg (show ¬ (5 : Int) = 3 by decide), if_neg (show ¬ (5 : Int) = 4 by decide), if_pos (show (5 : Int) = 5 from rfl)]
  rw [e, h, f_v, f_r]; rfl
theorem fits_6 {o : ByteArray} {m : Nat} (h : fnB o = true) (hm : m ≤ 10) : fitsB ⟨6, 0, 0, nob, 0, 0, 0, 0, o⟩ m = true := by
  have e : fitsB ⟨6, 0, 0, nob, 0, 0, 0, 0, o⟩ m = (fnB o && decide (m ≤ 10) && noVB ⟨6, 0, 0, nob, 0, 0, 0, 0, o⟩ && noRB ⟨6, 0, 0, nob, 0, 0, 0, 0, o⟩) := by
    unfold fitsB; rw [if_neg (show ¬ (6 : Int) = 1 by decide), if_neg (show ¬ (6 : Int) = 2 by decide), if_neg (show ¬ (6 : Int) = 3 by decide), if_neg (show ¬ (6 : Int) = 4 by decide), if_neg (show ¬ (6 : Int) = 5 by decide), if_pos (show (6 : Int) = 6 from rfl)]
  rw [e, h, f_v, f_r, decide_eq_true hm]; rfl
theorem leaf_all {f : Fld} (h : fitsB f 0 = true) : (Nd.mk f .nil).all fitsB = true := by
  show (true && fitsB f 0) = true
  rw [h]; rfl
theorem neg_all (h : a.all fitsB = true) : (negN a).all fitsB = true := by
  show ((a.one).all fitsB && fitsB ⟨4, 0, 0, nob, 0, 0, 0, 0, nob⟩ a.one.len) = true
  rw [one_all, h, Nd.one_len, fits_4]; rfl
theorem pair_all (ho : binB (str op) = true) (h : a.all fitsB = true) (g : b.all fitsB = true) : (pairN op a b).all fitsB = true := by
  show ((a.one.app b.one).all fitsB && fitsB ⟨5, 0, 0, nob, 0, 0, 0, 0, str op⟩ (a.one.app b.one).len) = true
  rw [app_all, one_all, one_all, h, g, Fo.len_app, Nd.one_len, Nd.one_len, fits_5 ho]; rfl
theorem call_all {x : Fo} (ho : fnB t.s = true) (hn : x.len ≤ 10) (h : x.all fitsB = true) : (callN t.s x).all fitsB = true := by
  show (x.all fitsB && fitsB ⟨6, 0, 0, nob, 0, 0, 0, 0, t.s⟩ x.len) = true
  rw [h, fits_6 ho hn]; rfl
theorem num_all (h : 0 ≤ t.n) : (constN 2 t.n nob).all fitsB = true := leaf_all (fits_1 (by
  unfold constB
  rw [if_pos rfl, decide_eq_true h, ValueC.goodB_t (Or.inr (Or.inr (Or.inl ⟨rfl, rfl⟩)))]; rfl))
theorem text_all {s : ByteArray} (h : s.size ≤ 200) : (constN 3 0 s).all fitsB = true := leaf_all (fits_1 (by
  unfold constB
  rw [if_neg (by decide), if_pos (Or.inl rfl)]
  exact ValueC.goodB_t (Or.inr (Or.inr (Or.inr (Or.inl ⟨rfl, rfl, h⟩))))))
theorem truth_all : (constN 1 1 nob).all fitsB = true ∧ (constN 1 0 nob).all fitsB = true :=
  ⟨leaf_all (fits_1 (by unfold constB; rw [if_neg (by decide), if_pos (Or.inr rfl)]; exact ValueC.goodB_t (Or.inr (Or.inl ⟨rfl, Or.inr rfl, rfl⟩)))),
   leaf_all (fits_1 (by unfold constB; rw [if_neg (by decide), if_pos (Or.inr rfl)]; exact ValueC.goodB_t (Or.inr (Or.inl ⟨rfl, Or.inl rfl, rfl⟩))))⟩
theorem cell_all {s : List UInt8} (h : AddrC.pOK s = true) : (cellN (AddrC.pR s) (AddrC.pC s)).all fitsB = true := leaf_all (fits_2 (AddrC.cellB_t (AddrC.p_is h).1))
theorem range_all {s u : List UInt8} (h : AddrC.pOK s = true) (g : AddrC.pOK u = true) :
    (rangeN (AddrC.mA (AddrC.pR s) (AddrC.pC s) (AddrC.pR u) (AddrC.pC u)) (AddrC.mB (AddrC.pR s) (AddrC.pC s) (AddrC.pR u) (AddrC.pC u)) (AddrC.mC (AddrC.pR s) (AddrC.pC s) (AddrC.pR u) (AddrC.pC u)) (AddrC.mD (AddrC.pR s) (AddrC.pC s) (AddrC.pR u) (AddrC.pC u))).all fitsB = true := by
  have hc := (AddrC.p_is h).1
  have gc := (AddrC.p_is g).1
  generalize AddrC.pR s = a at *
  generalize AddrC.pC s = b at *
  generalize AddrC.pR u = c at *
  generalize AddrC.pC u = d at *
  obtain ⟨e1, e2, e3, e4⟩ := AddrC.m_t (a := a) (b := b) (c := c) (d := d) (decide_eq_true ⟨hc, gc⟩)
  rw [e1, e2, e3, e4]
  refine leaf_all (fits_3 ?_)
  unfold AddrC.fineB
  refine decide_eq_true ?_
  unfold AddrC.Cell at hc gc
  unfold AddrC.FineP AddrC.Cell AddrC.lo AddrC.hi
  split <;> split <;> split <;> split <;> omega
theorem one_of_mem {ss : List (List UInt8)} (h : oneOf l k ss = some op) : op ∈ ss := List.mem_of_find?_eq_some h
theorem bin_cmp : ∀ op ∈ cmpS, binB (str op) = true := by decide +kernel
theorem bin_sum : ∀ op ∈ sumS, binB (str op) = true := by decide +kernel
theorem bin_mul : ∀ op ∈ mulS, binB (str op) = true := by decide +kernel
theorem bin_pow : binB (str [94]) = true := by decide +kernel
theorem row_ft {part : Nat → Out} {ss : List (List UInt8)} (hs : ∀ op ∈ ss, binB (str op) = true) (hp : Ft part) : ∀ (g : Nat) (a : Nd) (k : Nat), a.all fitsB = true → ∀ b k', rowF l part ss g a k = .ok (b, k') → b.all fitsB = true := by
  intro g
  induction g with
  | zero => intro a k hk b k' h; simp only [rowF] at h; injection h with h; injection h with h1 h2; subst h1 h2; exact hk
  | succ g ih =>
    intro a k hk b k' h
    cases ho : oneOf l k ss with
    | none => rw [row_end ho] at h; injection h with h; injection h with h1 h2; subst h1 h2; exact hk
    | some op =>
      cases hq : part (k + 1) with
      | error e => rw [row_bad ho hq] at h; cases h
      | ok r =>
        obtain ⟨c, k2⟩ := r
        rw [row_go ho hq] at h
        exact ih _ _ (pair_all (hs _ (one_of_mem ho)) hk (hp _ _ _ hq)) _ _ h
structure LFt (L : Lev) : Prop where
  fm : Ft L.fm
  pw : Ft L.pw
  un : Ft L.un
theorem args_ft (hL : LFt L) : ∀ (r : Nat) (acc : Fo) (k : Nat), acc.all fitsB = true → acc.len + r ≤ 10 → ∀ x k', argsF l n L into r acc k = .ok (x, k') → x.all fitsB = true ∧ x.len ≤ 10 := by
  intro r
  induction r with
  | zero => intro acc k _ _ x k' h; simp only [argsF] at h; cases h
  | succ r ih =>
    intro acc k hk hr x k' h
    unfold argsF at h
    split at h
    · cases h
    · cases hq : L.fm k with
      | error e => simp only [hq] at h; cases h
      | ok q =>
        obtain ⟨c, k2⟩ := q
        simp only [hq] at h
        have h1 := hL.fm _ _ _ hq
        have h2 : (acc.app c.one).all fitsB = true := by rw [app_all, one_all, hk, h1]; rfl
        have h3 : (acc.app c.one).len = acc.len + 1 := by rw [Fo.len_app, Nd.one_len]
        split at h
        · exact ih _ _ h2 (by omega) _ _ h
        · injection h with h; injection h with h4 h5; subst h4 h5; exact ⟨h2, by omega⟩
theorem call_ft (hL : LFt L) (ht : TokOK t) (hk3 : t.k = 3) (h : callF l n L into t k = .ok (a, k')) : a.all fitsB = true := by
  unfold callF at h
  split at h
  · cases h
  · rename_i h8
    have hf := fn_ok ht hk3 (by omega)
    split at h
    · injection h with h; injection h with h3 h4; subst h3 h4; exact call_all hf (by decide) rfl
    · cases hq : argsF l n L into 10 .nil (k + 2) with
      | error e => simp only [hq] at h; cases h
      | ok q =>
        obtain ⟨c, k2⟩ := q
        simp only [hq] at h
        have h1 := args_ft hL 10 .nil _ rfl (by simp [Fo.len]) _ _ hq
        cases hc : isSign l k2 [41] with
        | false => rw [close_no hc] at h; cases h
        | true =>
          rw [close_ok hc] at h
          injection h with h; injection h with h3 h4; subst h3 h4; exact call_all hf h1.2 h1.1
theorem name_ft (hL : LFt L) (ht : TokOK t) (hk3 : t.k = 3) (h : nameF l n L into t k = .ok (a, k')) : a.all fitsB = true := by
  unfold nameF at h
  split at h
  · exact call_ft hL ht hk3 h
  · split at h
    · injection h with h; injection h with h3 h4; subst h3 h4; exact truth_all.1
    · split at h
      · injection h with h; injection h with h3 h4; subst h3 h4; exact truth_all.2
      · split at h
        · cases h
        · rename_i hp
          have hp1 : AddrC.pOK t.s.data.toList = true := by simpa using hp
          split at h
          · cases hu : l[k + 2]? with
            | none => simp only [hu] at h; cases h
            | some u =>
              simp only [hu] at h
              split at h
              · rename_i h2
                injection h with h; injection h with h3 h4; subst h3 h4; exact range_all hp1 h2.2.2
              · cases h
          · injection h with h; injection h with h3 h4; subst h3 h4; exact cell_all hp1
theorem part_ft (hl : ∀ t ∈ l, TokOK t) (hL : LFt L) : Ft (partF l n L into) := by
  intro k a k' h
  unfold partF at h
  cases ht : l[k]? with
  | none => simp only [ht] at h; cases h
  | some t =>
    have hto := hl t (List.mem_of_getElem? ht)
    simp only [ht] at h
    split at h
    · rename_i h1
      injection h with h; injection h with h3 h4; subst h3 h4; exact num_all (hto.1 h1)
    · split at h
      · split at h
        · cases h
        · rename_i h2
          injection h with h; injection h with h3 h4; subst h3 h4; exact text_all (by omega)
      · split at h
        · rename_i h3; exact name_ft hL hto h3 h
        · split at h
          · cases hi : into with
            | false => rw [paren_deep hi] at h; cases h
            | true =>
              cases hq : L.fm (k + 1) with
              | error e => rw [paren_err hi hq] at h; cases h
              | ok q =>
                obtain ⟨c, k2⟩ := q
                have h1 := hL.fm _ _ _ hq
                cases hc : isSign l k2 [41] with
                | false => rw [paren_open hi hq hc] at h; cases h
                | true =>
                  rw [paren_ok hi hq hc] at h
                  injection h with h; injection h with h3 h4; subst h3 h4; exact h1
          · cases h
theorem unary_ft (hl : ∀ t ∈ l, TokOK t) (hL : LFt L) : Ft (unaryF l n L into) := by
  intro k a k' h
  cases hs : isSign l k [45] with
  | false => rw [unary_no hs] at h; exact part_ft hl hL _ _ _ h
  | true =>
    cases hi : into with
    | false => rw [unary_deep hs hi] at h; cases h
    | true =>
      cases hq : L.un (k + 1) with
      | error e => rw [unary_err hs hi hq] at h; cases h
      | ok q =>
        obtain ⟨c, k2⟩ := q
        have h1 := hL.un _ _ _ hq
        rw [unary_ok hs hi hq] at h
        injection h with h; injection h with h3 h4; subst h3 h4; exact neg_all h1
theorem power_ft (hl : ∀ t ∈ l, TokOK t) (hL : LFt L) : Ft (powerF l n L into) := by
  intro k a k' h
  cases hu : unaryF l n L into k with
  | error e => rw [power_err hu] at h; cases h
  | ok q =>
    obtain ⟨c, k1⟩ := q
    have h1 := unary_ft hl hL _ _ _ hu
    cases hs : isSign l k1 [94] with
    | false => rw [power_one hu hs] at h; injection h with h; injection h with h3 h4; subst h3 h4; exact h1
    | true =>
      cases hi : into with
      | false => rw [power_deep hu hs hi] at h; cases h
      | true =>
        cases hq : L.pw (k1 + 1) with
        | error e => rw [power_bad hu hs hi hq] at h; cases h
        | ok q =>
          obtain ⟨d, k2⟩ := q
          have h2 := hL.pw _ _ _ hq
          rw [power_ok hu hs hi hq] at h
          injection h with h; injection h with h3 h4; subst h3 h4; exact pair_all bin_pow h1 h2
theorem product_ft (hl : ∀ t ∈ l, TokOK t) (hL : LFt L) : Ft (productF l n L into) := by
  intro k a k' h
  cases hu : powerF l n L into k with
  | error e => rw [product_err hu] at h; cases h
  | ok q =>
    obtain ⟨c, k1⟩ := q
    rw [product_go hu] at h
    exact row_ft bin_mul (power_ft hl hL) _ _ _ (power_ft hl hL _ _ _ hu) _ _ h
theorem sum_ft (hl : ∀ t ∈ l, TokOK t) (hL : LFt L) : Ft (sumF l n L into) := by
  intro k a k' h
  cases hu : productF l n L into k with
  | error e => rw [sum_err hu] at h; cases h
  | ok q =>
    obtain ⟨c, k1⟩ := q
    rw [sum_go hu] at h
    exact row_ft bin_sum (product_ft hl hL) _ _ _ (product_ft hl hL _ _ _ hu) _ _ h
theorem formula_ft (hl : ∀ t ∈ l, TokOK t) (hL : LFt L) : Ft (formulaF l n L into) := by
  intro k a k' h
  cases hu : sumF l n L into k with
  | error e => rw [formula_err hu] at h; cases h
  | ok q =>
    obtain ⟨c, k1⟩ := q
    have h1 := sum_ft hl hL _ _ _ hu
    cases ho : oneOf l k1 cmpS with
    | none => rw [formula_one hu ho] at h; injection h with h; injection h with h3 h4; subst h3 h4; exact h1
    | some op =>
      cases hq : sumF l n L into (k1 + 1) with
      | error e => rw [formula_bad hu ho hq] at h; cases h
      | ok q =>
        obtain ⟨d, k2⟩ := q
        have h2 := sum_ft hl hL _ _ _ hq
        rw [formula_ok hu ho hq] at h
        injection h with h; injection h with h3 h4; subst h3 h4; exact pair_all (bin_cmp _ (one_of_mem ho)) h1 h2
end
theorem lev_ft (l : List Tok) (n : Int) (hl : ∀ t ∈ l, TokOK t) : ∀ r, LFt (lev l n r) := by
  intro r
  induction r with
  | zero => refine ⟨?_, ?_, ?_⟩ <;> (intro k a k' h; cases h)
  | succ r ih => exact ⟨formula_ft hl ih, power_ft hl ih, unary_ft hl ih⟩
/-- What is parsed is good. -/
theorem parse_good (s : List UInt8) (h : (parseL s).err = 0) : goodT fitsB (parseL s).nd = true ∧ (parseL s).nd.deep ≤ 16 ∧ (parseL s).nd.size ≤ 300 := by
  unfold parseL at h ⊢
  by_cases h0 : (cutL s).err ≠ 0
  · rw [if_pos h0] at h; exact absurd h h0
  · rw [if_neg h0] at h ⊢
    cases ht : treeF (cutL s).toks s.length with
    | error e =>
      rw [ht] at h
      simp only at h
      exact absurd h (tree_err_ne ht)
    | ok a =>
      rw [ht] at h
      simp only at h ⊢
      by_cases hd : 16 < a.deep
      · rw [if_pos hd] at h; exact absurd h (by decide)
      · rw [if_neg hd] at h ⊢
        simp only
        unfold treeF at ht
        cases hq : (lev (cutL s).toks (s.length : Int) 41).fm 0 with
        | error e => rw [hq] at ht; cases ht
        | ok q =>
          obtain ⟨b, k⟩ := q
          rw [hq] at ht
          simp only at ht
          split at ht
          · cases ht
          · injection ht with ht
            subst ht
            have h1 := (lev_ft (cutL s).toks (s.length : Int) (cut_ok s) 41).fm _ _ _ hq
            have h2 := (lev_sz (cutL s).toks (s.length : Int) 41).fm _ _ _ hq
            have h3 := ((lev_goes (cutL s).toks (s.length : Int) 41).fm _ _ _ hq).2
            have h4 := (cut_few s).1
            refine ⟨?_, by omega, by omega⟩
            unfold goodT
            rw [decide_eq_true (by omega), decide_eq_true (by omega), h1]; rfl
end Go.Proofs.YtbgjdfghcnblcaaGreatDoor.TreeC
