/-
  Plain facts on formulas as texts: the tree of a tree's text is it.
-/
import Derived.Test.YticehalcnbjccaaGreatDoorBTreeV
import Derived.Test.YticehalcnbjccaaGreatDoorBNumN
import Derived.Test.YticehalcnbjccaaGreatDoorBTreeS
import Derived.LaidEql
import Derived.Stop.Asserts
namespace Go.Proofs.YticehalcnbjccaaGreatDoor.PrintC
set_option linter.unusedVariables false
open Go.Proofs.YticehalcnbjccaaGreatDoor.NumC Go.Proofs.YticehalcnbjccaaGreatDoor.LexC Go.Proofs.YticehalcnbjccaaGreatDoor.TreeC
section
variable {l : List Tok} {n : Int} {k k' m r : Nat} {a b : Nd} {ts x y : List PT} {p : PT} {o : List UInt8}
def At (l : List Tok) (k : Nat) (ts : List PT) : Prop := ∃ z, (l.map key).drop k = ts ++ z
theorem At.left (h : At l k (x ++ y)) : At l k x := by
  obtain ⟨z, h⟩ := h
  exact ⟨y ++ z, by rw [h, List.append_assoc]⟩
theorem At.right (h : At l k (x ++ y)) : At l (k + x.length) y := by
  obtain ⟨z, h⟩ := h
  exact ⟨z, by rw [← List.drop_drop, h, List.append_assoc, List.drop_left]⟩
theorem At.tail (h : At l k (p :: ts)) : At l (k + 1) ts := At.right (x := [p]) h
theorem At.tok (h : At l k (p :: ts)) : ∃ t, l[k]? = some t ∧ key t = p := by
  obtain ⟨z, h⟩ := h
  have h1 : ((l.map key).drop k)[0]? = some p := by rw [h]; rfl
  rw [List.getElem?_drop, Nat.add_zero, List.getElem?_map] at h1
  exact Option.map_eq_some_iff.1 h1
theorem At.le (h : At l k ts) (hne : ts ≠ []) : k + ts.length ≤ l.length := by
  obtain ⟨z, h⟩ := h
  have h1 := congrArg List.length h
  rw [List.length_drop, List.length_map, List.length_append] at h1
  have := List.length_pos_iff.2 hne
  omega
theorem str_inj {a b : List UInt8} : str a = str b ↔ a = b := ⟨fun h => by rw [← str_back a, h, str_back], fun h => by rw [h]⟩
theorem sign_tok (h : At l k (p :: ts)) (s : List UInt8) : isSign l k s = (decide (p.1 = 4) && decide (p.2.2 = str s)) := by
  obtain ⟨t, ht, rfl⟩ := h.tok
  unfold isSign
  rw [ht]; rfl
theorem sign_at (h : At l k (sgn o :: ts)) (s : List UInt8) : isSign l k s = decide (o = s) := by
  rw [sign_tok h]
  show (true && decide (str o = str s)) = _
  rw [Bool.true_and, decide_eq_decide]
  exact str_inj
theorem sign_not (h : At l k (p :: ts)) (hp : p.1 ≠ 4) (s : List UInt8) : isSign l k s = false := by
  rw [sign_tok h, decide_eq_false hp]; rfl
theorem one_at (h : At l k (sgn o :: ts)) (ss : List (List UInt8)) : oneOf l k ss = ss.find? (fun s => decide (o = s)) := by
  unfold oneOf
  congr 1
  funext s
  exact sign_at h s
structure Foll (l : List Tok) (k m : Nat) : Prop where
  fpar : isSign l k [40] = false
  fcol : isSign l k [58] = false
  fpow : m ≤ 4 → isSign l k [94] = false
  fmul : m ≤ 3 → oneOf l k mulS = none
  fsum : m ≤ 2 → oneOf l k sumS = none
  fcmp : m ≤ 1 → oneOf l k cmpS = none
theorem Foll.up (h : Foll l k m) {m' : Nat} (hm : m ≤ m') : Foll l k m' :=
  ⟨h.fpar, h.fcol, fun g => h.fpow (by omega), fun g => h.fmul (by omega), fun g => h.fsum (by omega), fun g => h.fcmp (by omega)⟩
theorem foll_end (h : l.length ≤ k) : Foll l k 1 := by
  have hs : ∀ s, isSign l k s = false := fun s => by unfold isSign; rw [List.getElem?_eq_none h]
  have ho : ∀ ss, oneOf l k ss = none := fun ss => by unfold oneOf; rw [List.find?_eq_none]; intro s _; rw [hs]; simp
  exact ⟨hs _, hs _, fun _ => hs _, fun _ => ho _, fun _ => ho _, fun _ => ho _⟩
theorem foll_close (h : At l k (sgn o :: ts)) (ho : o = [41] ∨ o = [44]) : Foll l k 1 := by
  refine ⟨?_, ?_, fun _ => ?_, fun _ => ?_, fun _ => ?_, fun _ => ?_⟩
  · rw [sign_at h]; rcases ho with rfl | rfl <;> decide
  · rw [sign_at h]; rcases ho with rfl | rfl <;> decide
  · rw [sign_at h]; rcases ho with rfl | rfl <;> decide
  · rw [one_at h]; rcases ho with rfl | rfl <;> decide
  · rw [one_at h]; rcases ho with rfl | rfl <;> decide
  · rw [one_at h]; rcases ho with rfl | rfl <;> decide
theorem foll_bin (h : At l k (sgn o :: ts)) (ho : binS o = true) : Foll l k (opRow o + 1) := by
  have h1 := sign_at h
  have h2 := one_at h
  refine ⟨?_, ?_, ?_, ?_, ?_, ?_⟩
  · rw [h1]; rcases bin_cases ho with rfl | rfl | rfl | rfl | rfl | rfl | rfl | rfl | rfl | rfl | rfl | rfl | rfl <;> decide
  · rw [h1]; rcases bin_cases ho with rfl | rfl | rfl | rfl | rfl | rfl | rfl | rfl | rfl | rfl | rfl | rfl | rfl <;> decide
  · rw [h1]; rcases bin_cases ho with rfl | rfl | rfl | rfl | rfl | rfl | rfl | rfl | rfl | rfl | rfl | rfl | rfl <;> decide
  · rw [h2]; rcases bin_cases ho with rfl | rfl | rfl | rfl | rfl | rfl | rfl | rfl | rfl | rfl | rfl | rfl | rfl <;> decide
  · rw [h2]; rcases bin_cases ho with rfl | rfl | rfl | rfl | rfl | rfl | rfl | rfl | rfl | rfl | rfl | rfl | rfl <;> decide
  · rw [h2]; rcases bin_cases ho with rfl | rfl | rfl | rfl | rfl | rfl | rfl | rfl | rfl | rfl | rfl | rfl | rfl <;> decide
def rd (l : List Tok) (n : Int) (r : Nat) : Nat → Nat → Out
  | 1 => formulaF l n (lev l n r) (decide (1 ≤ r))
  | 2 => sumF l n (lev l n r) (decide (1 ≤ r))
  | 3 => productF l n (lev l n r) (decide (1 ≤ r))
  | 4 => powerF l n (lev l n r) (decide (1 ≤ r))
  | 5 => unaryF l n (lev l n r) (decide (1 ≤ r))
  | _ => partF l n (lev l n r) (decide (1 ≤ r))
theorem raise1 (h1 : 1 ≤ m) (h6 : m ≤ 5) (hn : m = 5 → isSign l k [45] = false) (hf : Foll l k' m) (h : rd l n r (m + 1) k = .ok (a, k')) : rd l n r m k = .ok (a, k') := by
  have hm : m = 1 ∨ m = 2 ∨ m = 3 ∨ m = 4 ∨ m = 5 := by omega
  rcases hm with rfl | rfl | rfl | rfl | rfl
  · exact formula_one h (hf.fcmp (by omega))
  · show sumF l n (lev l n r) (decide (1 ≤ r)) k = _
    rw [sum_go h]; exact row_end (g := 399) (hf.fsum (by omega))
  · show productF l n (lev l n r) (decide (1 ≤ r)) k = _
    rw [product_go h]; exact row_end (g := 399) (hf.fmul (by omega))
  · exact power_one h (hf.fpow (by omega))
  · exact (unary_no (hn rfl)).trans h
theorem raise : ∀ (d m : Nat), 1 ≤ m → m + d ≤ 6 → (m + d = 6 → 1 ≤ d → isSign l k [45] = false) → Foll l k' m → rd l n r (m + d) k = .ok (a, k') → rd l n r m k = .ok (a, k') := by
  intro d
  induction d with
  | zero => intro m _ _ _ _ h; exact h
  | succ d ih =>
    intro m h1 h6 hn hf h
    refine raise1 h1 (by omega) (fun e => hn (by omega) (by omega)) hf ?_
    refine ih (m + 1) (by omega) (by omega) (fun e _ => hn (by omega) (by omega)) (hf.up (by omega)) ?_
    rw [show m + 1 + d = m + (d + 1) by omega]; exact h
def ssOf (m : Nat) : List (List UInt8) := if m = 2 then sumS else mulS
def Chain (l : List Tok) (n : Int) (a : Nd) (k k' r m : Nat) : Prop :=
  ∃ c k1 j, rd l n r (m + 1) k = .ok (c, k1) ∧ k + j ≤ k' ∧ ∀ g, rowF l (rd l n r (m + 1)) (ssOf m) (g + j) c k1 = rowF l (rd l n r (m + 1)) (ssOf m) g a k'
structure OwnR (l : List Tok) (n : Int) (a : Nd) (k k' r : Nat) (row : Nat) : Prop where
  own : ∀ m, 1 ≤ m → m ≤ row → Foll l k' m → rd l n r m k = .ok (a, k')
  chain : ∀ m, (m = 2 ∨ m = 3) → m ≤ row → Foll l k' (m + 1) → Chain l n a k k' r m
theorem own_hi {row : Nat} (hr : 4 ≤ row) (h6 : row ≤ 6) (hk : k ≤ k') (hn : row = 6 → isSign l k [45] = false) (h : Foll l k' row → rd l n r row k = .ok (a, k')) : OwnR l n a k k' r row := by
  have key : ∀ m, 1 ≤ m → m ≤ row → Foll l k' m → rd l n r m k = .ok (a, k') := fun m h1 h2 hf => by
    refine raise (row - m) m h1 (by omega) (fun e _ => hn (by omega)) hf ?_
    rw [show m + (row - m) = row by omega]
    exact h (hf.up h2)
  exact ⟨key, fun m hm h2 hf => ⟨a, k', 0, key (m + 1) (by omega) (by omega) hf, by omega, fun g => rfl⟩⟩
theorem lev_fm (h : 1 ≤ r) : (lev l n r).fm = rd l n (r - 1) 1 ∧ (lev l n r).pw = rd l n (r - 1) 4 ∧ (lev l n r).un = rd l n (r - 1) 5 := by
  obtain ⟨r', rfl⟩ : ∃ r', r = r' + 1 := ⟨r - 1, by omega⟩
  exact ⟨rfl, rfl, rfl⟩
theorem closedR {row least : Nat} (hrow : 1 ≤ row) (hl6 : least ≤ 6) (hr : 1 ≤ r) (hat : At l k (closeK (ts, row) least))
    (h0 : ∀ k, At l k ts → OwnR l n a k (k + ts.length) r row) (h1 : ∀ k, At l k ts → OwnR l n a k (k + ts.length) (r - 1) row) : OwnR l n a k (k + (closeK (ts, row) least).length) r least := by
  unfold closeK at hat ⊢
  simp only at hat ⊢
  by_cases hlt : row < least
  · rw [if_pos hlt] at hat ⊢
    obtain ⟨t, ht, hkey⟩ := hat.tok
    have hk4 : t.k = 4 := congrArg (·.1) hkey
    have hs40 := sign_at hat [40]
    have hs45 : isSign l k [45] = false := by rw [sign_at hat]; decide
    have hin := hat.tail
    have hcl := At.right hin
    have hc := sign_at hcl [41]
    have h6 : rd l n r 6 k = .ok (a, k + (sgn [40] :: (ts ++ [sgn [41]])).length) := by
      show partF l n (lev l n r) (decide (1 ≤ r)) k = _
      unfold partF
      rw [ht]
      simp only [hk4]
      rw [if_neg (by decide), if_neg (by decide), if_neg (by decide), if_pos (by rw [hs40]; decide)]
      have e := (h1 (k + 1) hin.left).own 1 (Nat.le_refl _) hrow (foll_close hcl (Or.inl rfl))
      rw [paren_ok (decide_eq_true hr) (by rw [(lev_fm hr).1]; exact e) (by rw [hc]; decide)]
      congr 2
      simp; omega
    have hlen : k ≤ k + (sgn [40] :: (ts ++ [sgn [41]])).length := by omega
    have := own_hi (row := 6) (n := n) (a := a) (r := r) (by omega) (by omega) hlen (fun _ => hs45) (fun _ => h6)
    exact ⟨fun m g1 g2 => this.own m g1 (by omega), fun m g1 g2 => this.chain m g1 (by omega)⟩
  · rw [if_neg hlt] at hat ⊢
    have := h0 k hat
    exact ⟨fun m g1 g2 => this.own m g1 (by omega), fun m g1 g2 => this.chain m g1 (by omega)⟩
theorem own_chain (hm : m = 2 ∨ m = 3) (h : Chain l n a k k' r m) (hl : l.length ≤ 399) (hk : k' ≤ l.length) (hf : Foll l k' m) : rd l n r m k = .ok (a, k') := by
  obtain ⟨c, k1, j, h1, h2, h3⟩ := h
  rcases hm with rfl | rfl
  · show sumF l n (lev l n r) (decide (1 ≤ r)) k = _
    rw [sum_go h1]
    have := h3 (400 - j)
    rw [show 400 - j + j = 400 by omega] at this
    refine this.trans ?_
    obtain ⟨g, hg⟩ : ∃ g, 400 - j = g + 1 := ⟨399 - j, by omega⟩
    rw [hg]
    exact row_end (hf.fsum (by omega))
  · show productF l n (lev l n r) (decide (1 ≤ r)) k = _
    rw [product_go h1]
    have := h3 (400 - j)
    rw [show 400 - j + j = 400 by omega] at this
    refine this.trans ?_
    obtain ⟨g, hg⟩ : ∃ g, 400 - j = g + 1 := ⟨399 - j, by omega⟩
    rw [hg]
    exact row_end (hf.fmul (by omega))
theorem own_bin {xs ys : List PT} (ho : binS o = true) (hl : l.length ≤ 399) (hr : 1 ≤ r) (hat : At l k (xs ++ sgn o :: ys)) (hy0 : ys ≠ [])
    (hx : OwnR l n a k (k + xs.length) r (lo1 (opRow o))) (hy : OwnR l n b (k + xs.length + 1) (k + xs.length + 1 + ys.length) r (lo2 (opRow o)))
    (hy1 : opRow o = 4 → OwnR l n b (k + xs.length + 1) (k + xs.length + 1 + ys.length) (r - 1) 4) :
    OwnR l n (pairN o a b) k (k + (xs ++ sgn o :: ys).length) r (opRow o) := by
  have hsg := hat.right
  have hfb := foll_bin hsg ho
  have h1 := sign_at hsg
  have h2 := one_at hsg
  have hle : k + (xs ++ sgn o :: ys).length ≤ l.length := hat.le (by simp)
  have hlen : k + (xs ++ sgn o :: ys).length = k + xs.length + 1 + ys.length := by simp; omega
  rw [hlen] at hle ⊢
  have hbr := bin_row ho
  by_cases h4 : opRow o = 4
  · rw [h4] at hx hfb ⊢
    have e94 : o = [94] := by
      rcases bin_cases ho with rfl | rfl | rfl | rfl | rfl | rfl | rfl | rfl | rfl | rfl | rfl | rfl | rfl <;> first | rfl | exact absurd h4 (by decide)
    subst e94
    refine own_hi (by omega) (by omega) (by omega) (fun e => by omega) (fun hf => ?_)
    exact power_ok (hx.own 5 (by omega) (by decide) hfb) (by rw [h1]; decide) (decide_eq_true hr) (by rw [(lev_fm hr).2.1]; exact (hy1 h4).own 4 (by omega) (by omega) hf)
  · by_cases h1r : opRow o = 1
    · rw [h1r] at hx hy hfb ⊢
      have ec : oneOf l (k + xs.length) cmpS = some o := by
        rw [h2]
        rcases bin_cases ho with rfl | rfl | rfl | rfl | rfl | rfl | rfl | rfl | rfl | rfl | rfl | rfl | rfl <;> first | rfl | exact absurd h1r (by decide)
      refine ⟨fun m g1 g2 hf => ?_, fun m g1 g2 => by omega⟩
      obtain rfl : m = 1 := by omega
      exact formula_ok (hx.own 2 (by omega) (by decide) hfb) ec (hy.own 2 (by omega) (by decide) (hf.up (by omega)))
    · have hm : opRow o = 2 ∨ opRow o = 3 := by omega
      have ess : oneOf l (k + xs.length) (ssOf (opRow o)) = some o := by
        rw [h2]
        rcases bin_cases ho with rfl | rfl | rfl | rfl | rfl | rfl | rfl | rfl | rfl | rfl | rfl | rfl | rfl <;> first | rfl | exact absurd hm (by decide)
      generalize hm0 : opRow o = m at *
      have el1 : lo1 m = m := by rcases hm with rfl | rfl <;> rfl
      have el2 : lo2 m = m + 1 := by rcases hm with rfl | rfl <;> rfl
      rw [el1] at hx
      rw [el2] at hy
      have hch : Foll l (k + xs.length + 1 + ys.length) (m + 1) → Chain l n (pairN o a b) k (k + xs.length + 1 + ys.length) r m := fun hf => by
        obtain ⟨c, k1, j, g1, g2, g3⟩ := hx.chain m hm (Nat.le_refl _) hfb
        refine ⟨c, k1, j + 1, g1, by omega, fun g => ?_⟩
        rw [show g + (j + 1) = g + 1 + j by omega, g3 (g + 1)]
        exact row_go ess (hy.own (m + 1) (by omega) (Nat.le_refl _) hf)
      have hown : ∀ i, 1 ≤ i → i ≤ m → Foll l (k + xs.length + 1 + ys.length) i → rd l n r i k = .ok (pairN o a b, k + xs.length + 1 + ys.length) := fun i g1 g2 hf => by
        refine raise (m - i) i g1 (by omega) (fun e _ => by omega) hf ?_
        rw [show i + (m - i) = m by omega]
        exact own_chain hm (hch (hf.up (by omega))) hl hle (hf.up g2)
      refine ⟨hown, fun i g1 g2 hf => ?_⟩
      by_cases hi : i = m
      · subst hi; exact hch hf
      · exact ⟨pairN o a b, _, 0, hown (i + 1) (by omega) (by omega) hf, by omega, fun g => rfl⟩
def HeadK (ts : List PT) : Prop := ∃ p r, ts = p :: r ∧ (p.1 ≠ 4 ∨ p = sgn [40] ∨ p = sgn [45])
theorem head_close (h : HeadK x) (row least : Nat) : HeadK (closeK (x, row) least) := by
  unfold closeK
  simp only
  split
  · exact ⟨_, _, rfl, Or.inr (Or.inl rfl)⟩
  · exact h
theorem head_app (h : HeadK x) : HeadK (x ++ y) := by
  obtain ⟨p, r, rfl, h⟩ := h
  exact ⟨p, r ++ y, rfl, h⟩
theorem toks_len : ∀ x : Fo, (toks x).length = x.len := by
  intro x
  induction x with
  | nil => rfl
  | cons f k n _ ih => simp [toks, Fo.len, ih]
theorem heads : ∀ (x : Fo), x.all fitsB = true → ∀ q ∈ toks x, HeadK q.1
  | .nil, _, q, hq => by cases hq
  | .cons f k n, h, q, hq => by
    simp only [Fo.all, Bool.and_eq_true] at h
    obtain ⟨⟨hk, hf⟩, hn⟩ := h
    rcases List.mem_cons.1 hq with rfl | hq
    · have ih := heads k hk
      have hs := shape_of hf
      have hl := toks_len k
      generalize k.len = m at *
      cases hs with
      | int n h0 => exact ⟨_, _, rfl, Or.inl (by show (1 : Int) ≠ 4; decide)⟩
      | text s hs => exact ⟨_, _, rfl, Or.inl (by show (2 : Int) ≠ 4; decide)⟩
      | yes => exact ⟨_, _, rfl, Or.inl (by decide)⟩
      | no => exact ⟨_, _, rfl, Or.inl (by decide)⟩
      | cell r c hc => exact ⟨_, _, rfl, Or.inl (by show (3 : Int) ≠ 4; decide)⟩
      | range a b c d hc => exact ⟨_, _, rfl, Or.inl (by show (3 : Int) ≠ 4; decide)⟩
      | neg => exact ⟨_, _, rfl, Or.inr (Or.inr rfl)⟩
      | bin o ho =>
        dsimp only
        rw [nodeK_bin]
        match hq : toks k, hl with
        | [q1, q2], _ => exact head_app (head_close (ih q1 (by rw [hq]; simp)) _ _)
      | call o ho h8 m hm =>
        dsimp only
        rw [nodeK_call]; exact ⟨_, _, rfl, Or.inl (by show (3 : Int) ≠ 4; decide)⟩
    · exact heads n hn q hq
theorem head_node (h : a.all fitsB = true) : HeadK (toksN a) := heads (.cons a.f a.kids .nil) (by simpa [Fo.all, Nd.all] using h) _ (List.mem_cons_self ..)
theorem head_no (h : HeadK ts) (hat : At l k ts) : isSign l k [41] = false := by
  obtain ⟨p, r, rfl, h⟩ := h
  rcases h with h | rfl | rfl
  · exact sign_not hat h _
  · rw [sign_at hat]; decide
  · rw [sign_at hat]; decide
theorem row_le {f : Fld} {m : Nat} (h : Shape f m) : 1 ≤ rowK f ∧ rowK f ≤ 6 := by
  cases h with
  | bin o ho =>
    have h : rowK ⟨5, 0, 0, nob, 0, 0, 0, 0, str o⟩ = opRow o := by
      show (if (5 : Int) = 1 ∨ (5 : Int) = 2 ∨ (5 : Int) = 3 ∨ (5 : Int) = 6 then 6 else if (5 : Int) = 4 then 5 else if (5 : Int) = 5 then opRow (str o).data.toList else 0) = _
      rw [if_neg (by decide), if_neg (by decide), if_pos rfl, str_back]
    have := bin_row ho
    rw [h]; omega
  | neg => decide
  | _ => exact ⟨by show 1 ≤ 6; decide, by show 6 ≤ 6; decide⟩
theorem own_args {L : Lev} {s : Nat} (hL : L.fm = rd l n s 1) : ∀ (z : Fo), z ≠ .nil → (∀ b : Nd, b.size ≤ z.size → b.all fitsB = true → b.deep ≤ z.deep → ∀ k, At l k (toksN b) → rowN b ≤ 6 → 1 ≤ rowN b → OwnR l n b k (k + (toksN b).length) s (rowN b)) → z.all fitsB = true →
    ∀ (R : Nat) (acc : Fo) (k : Nat), z.len ≤ R → At l k (joinK ((toks z).map (·.1)) ++ [sgn [41]]) → argsF l n L true R acc k = .ok (acc.app z, k + (joinK ((toks z).map (·.1))).length)
  | .nil, h, _, _, _, _, _, _, _ => absurd rfl h
  | .cons f kd .nil, _, hb, hall, R, acc, k, hR, hat => by
    simp only [Fo.all, Bool.and_eq_true] at hall
    obtain ⟨R', rfl⟩ : ∃ R', R = R' + 1 := ⟨R - 1, by simp only [Fo.len] at hR; omega⟩
    have hrow := row_le (shape_of hall.1.2)
    have hat1 : At l k (toksN ⟨f, kd⟩ ++ [sgn [41]]) := hat
    have h1 := (hb ⟨f, kd⟩ (by simp [Nd.size, Fo.size]) (by simp [Nd.all, hall.1.1, hall.1.2]) (by simp [Nd.deep, Fo.deep]) k hat1.left hrow.2 hrow.1).own 1 (Nat.le_refl _) hrow.1 (foll_close hat1.right (Or.inl rfl))
    have h44 : isSign l (k + (toksN ⟨f, kd⟩).length) [44] = false := by rw [sign_at hat1.right]; decide
    show argsF l n L true (R' + 1) acc k = _
    unfold argsF
    rw [if_neg (by decide), hL, h1]
    simp only [h44]
    rfl
  | .cons f kd (.cons f2 kd2 nx), _, hb, hall, R, acc, k, hR, hat => by
    have hall0 := hall
    rw [Fo.all, Bool.and_eq_true, Bool.and_eq_true] at hall
    obtain ⟨R', rfl⟩ : ∃ R', R = R' + 1 := ⟨R - 1, by simp only [Fo.len] at hR; omega⟩
    have hrow := row_le (shape_of hall.1.2)
    have ej : joinK ((toks (.cons f kd (.cons f2 kd2 nx))).map (·.1)) = toksN ⟨f, kd⟩ ++ sgn [44] :: joinK ((toks (.cons f2 kd2 nx)).map (·.1)) := rfl
    rw [ej] at hat ⊢
    rw [List.append_assoc] at hat
    have hat2 : At l k (toksN ⟨f, kd⟩ ++ sgn [44] :: (joinK ((toks (.cons f2 kd2 nx)).map (·.1)) ++ [sgn [41]])) := hat
    have hsz : (Fo.cons f kd (.cons f2 kd2 nx)).size = 1 + kd.size + (Fo.cons f2 kd2 nx).size := rfl
    have hdp : (Fo.cons f kd (.cons f2 kd2 nx)).deep = max (1 + kd.deep) (Fo.cons f2 kd2 nx).deep := rfl
    have h1 := (hb ⟨f, kd⟩ (by show 1 + kd.size ≤ _; omega) (by simp [Nd.all, hall.1.1, hall.1.2]) (by show 1 + kd.deep ≤ _; omega) k hat2.left hrow.2 hrow.1).own 1 (Nat.le_refl _) hrow.1 (foll_close hat2.right (Or.inr rfl))
    have h44 : isSign l (k + (toksN ⟨f, kd⟩).length) [44] = true := by rw [sign_at hat2.right]; decide
    have ih := own_args hL (.cons f2 kd2 nx) (by simp) (fun b g1 g2 g3 => hb b (by omega) g2 (by omega)) hall.2 R' (acc.app (Nd.mk f kd).one) (k + (toksN ⟨f, kd⟩).length + 1) (by simp only [Fo.len] at hR ⊢; omega) hat2.right.tail
    show argsF l n L true (R' + 1) acc k = _
    unfold argsF
    rw [if_neg (by decide), hL, h1]
    simp only [h44, if_true]
    rw [ih, Fo.app_assoc]
    congr 2
    simp; omega
set_option maxHeartbeats 1000000 in
theorem reads (hl : l.length ≤ 399) : ∀ (N : Nat) (a : Nd), a.size ≤ N → a.all fitsB = true → ∀ r k, 2 * a.deep ≤ r + 2 → At l k (toksN a) → OwnR l n a k (k + (toksN a).length) r (rowN a) := by
  intro N
  induction N with
  | zero => intro a h; exact absurd h (by unfold Nd.size; omega)
  | succ N ih =>
    intro a hsz hall r k hd hat
    obtain ⟨f, kd⟩ := a
    have hall1 : kd.all fitsB = true ∧ fitsB f kd.len = true := by simpa [Nd.all] using hall
    have hsh := shape_of hall1.2
    have hlen : kd.len = kd.len := rfl
    generalize hm : kd.len = m at hsh
    have hle := hat.le (by obtain ⟨p, r, e, -⟩ := head_node hall; rw [e]; simp)
    cases hsh with
    | int v h0 =>
      obtain rfl : kd = .nil := by cases kd with
        | nil => rfl
        | cons _ _ _ => simp [Fo.len] at hm
      have hat : At l k [(1, v, str [])] := hat
      obtain ⟨t, ht, e⟩ := hat.tok
      show OwnR l n _ k _ r 6
      refine own_hi (by decide) (by decide) (by omega) (fun _ => sign_not hat (by show (1 : Int) ≠ 4; decide) _) (fun hf => ?_)
      show partF l n (lev l n r) (decide (1 ≤ r)) k = _
      unfold partF
      rw [ht]
      simp only
      rw [if_pos (show t.k = 1 from congrArg (·.1) e), show t.n = v from congrArg (·.2.1) e]
      rfl
    | text s hs =>
      obtain rfl : kd = .nil := by cases kd with
        | nil => rfl
        | cons _ _ _ => simp [Fo.len] at hm
      have hat : At l k [(2, 0, s)] := hat
      obtain ⟨t, ht, e⟩ := hat.tok
      have e1 : t.k = 2 := congrArg (·.1) e
      have e2 : t.s = s := congrArg (·.2.2) e
      show OwnR l n _ k _ r 6
      refine own_hi (by decide) (by decide) (by omega) (fun _ => sign_not hat (by show (2 : Int) ≠ 4; decide) _) (fun hf => ?_)
      show partF l n (lev l n r) (decide (1 ≤ r)) k = _
      unfold partF
      rw [ht]
      simp only
      rw [if_neg (by rw [e1]; decide), if_pos e1, e2, if_neg (by omega)]
      rfl
    | yes =>
      obtain rfl : kd = .nil := by cases kd with
        | nil => rfl
        | cons _ _ _ => simp [Fo.len] at hm
      have hat : At l k [(3, 0, str truT)] := hat
      obtain ⟨t, ht, e⟩ := hat.tok
      have e1 : t.k = 3 := congrArg (·.1) e
      have e2 : t.s = str truT := congrArg (·.2.2) e
      show OwnR l n _ k _ r 6
      refine own_hi (by decide) (by decide) (by omega) (fun _ => sign_not hat (by show (3 : Int) ≠ 4; decide) _) (fun hf => ?_)
      have hp : isSign l (k + 1) [40] = false := hf.fpar
      show partF l n (lev l n r) (decide (1 ≤ r)) k = _
      unfold partF
      rw [ht]
      simp only
      rw [if_neg (by rw [e1]; decide), if_neg (by rw [e1]; decide), if_pos e1]
      unfold nameF
      rw [if_neg (by rw [hp]; decide), if_pos (by rw [e2]; rfl)]
      rfl
    | no =>
      obtain rfl : kd = .nil := by cases kd with
        | nil => rfl
        | cons _ _ _ => simp [Fo.len] at hm
      have hat : At l k [(3, 0, str falT)] := hat
      obtain ⟨t, ht, e⟩ := hat.tok
      have e1 : t.k = 3 := congrArg (·.1) e
      have e2 : t.s = str falT := congrArg (·.2.2) e
      show OwnR l n _ k _ r 6
      refine own_hi (by decide) (by decide) (by omega) (fun _ => sign_not hat (by show (3 : Int) ≠ 4; decide) _) (fun hf => ?_)
      have hp : isSign l (k + 1) [40] = false := hf.fpar
      show partF l n (lev l n r) (decide (1 ≤ r)) k = _
      unfold partF
      rw [ht]
      simp only
      rw [if_neg (by rw [e1]; decide), if_neg (by rw [e1]; decide), if_pos e1]
      unfold nameF
      rw [if_neg (by rw [hp]; decide), if_neg (by rw [e2]; decide), if_pos (by rw [e2]; rfl)]
      rfl
    | cell rr c hc =>
      obtain rfl : kd = .nil := by cases kd with
        | nil => rfl
        | cons _ _ _ => simp [Fo.len] at hm
      have hat : At l k [(3, 0, str (AddrC.nameL rr c))] := hat
      obtain ⟨t, ht, e⟩ := hat.tok
      have e1 : t.k = 3 := congrArg (·.1) e
      have e2 : t.s = str (AddrC.nameL rr c) := congrArg (·.2.2) e
      have e3 : t.s.data.toList = AddrC.nameL rr c := by rw [e2, str_back]
      obtain ⟨p1, p2, p3⟩ := AddrC.p_some hc e3.symm
      show OwnR l n _ k _ r 6
      refine own_hi (by decide) (by decide) (by omega) (fun _ => sign_not hat (by show (3 : Int) ≠ 4; decide) _) (fun hf => ?_)
      have hp : isSign l (k + 1) [40] = false := hf.fpar
      have hp2 : isSign l (k + 1) [58] = false := hf.fcol
      have hT : t.s ≠ trueB := fun h => by rw [h] at p1; revert p1; decide
      have hF : t.s ≠ falseB := fun h => by rw [h] at p1; revert p1; decide
      show partF l n (lev l n r) (decide (1 ≤ r)) k = _
      unfold partF
      rw [ht]
      simp only
      rw [if_neg (by rw [e1]; decide), if_neg (by rw [e1]; decide), if_pos e1]
      unfold nameF
      rw [if_neg (by rw [hp]; decide), if_neg hT, if_neg hF, if_neg (by rw [p1]; decide), if_neg (by rw [hp2]; decide), p2, p3]
      rfl
    | range ra rb rc rdd hc =>
      obtain rfl : kd = .nil := by cases kd with
        | nil => rfl
        | cons _ _ _ => simp [Fo.len] at hm
      have hat : At l k [(3, 0, str (AddrC.nameL ra rb)), sgn [58], (3, 0, str (AddrC.nameL rc rdd))] := hat
      obtain ⟨t, ht, e⟩ := hat.tok
      obtain ⟨u, hu, ue⟩ := hat.tail.tail.tok
      have e1 : t.k = 3 := congrArg (·.1) e
      have e3 : t.s.data.toList = AddrC.nameL ra rb := by rw [show t.s = str (AddrC.nameL ra rb) from congrArg (·.2.2) e, str_back]
      have f1 : u.k = 3 := congrArg (·.1) ue
      have f3 : u.s.data.toList = AddrC.nameL rc rdd := by rw [show u.s = str (AddrC.nameL rc rdd) from congrArg (·.2.2) ue, str_back]
      obtain ⟨p1, p2, p3⟩ := AddrC.p_some hc.1 e3.symm
      obtain ⟨q1, q2, q3⟩ := AddrC.p_some hc.2.1 f3.symm
      show OwnR l n _ k _ r 6
      refine own_hi (by decide) (by decide) (by omega) (fun _ => sign_not hat (by show (3 : Int) ≠ 4; decide) _) (fun hf => ?_)
      have hp : isSign l (k + 1) [40] = false := by rw [sign_at hat.tail]; decide
      have hp2 : isSign l (k + 1) [58] = true := by rw [sign_at hat.tail]; decide
      have hp3 : isSign l (k + 3) [40] = false := hf.fpar
      have hT : t.s ≠ trueB := fun h => by rw [h] at p1; revert p1; decide
      have hF : t.s ≠ falseB := fun h => by rw [h] at p1; revert p1; decide
      show partF l n (lev l n r) (decide (1 ≤ r)) k = _
      unfold partF
      rw [ht]
      simp only
      rw [if_neg (by rw [e1]; decide), if_neg (by rw [e1]; decide), if_pos e1]
      unfold nameF
      rw [if_neg (by rw [hp]; decide), if_neg hT, if_neg hF, if_neg (by rw [p1]; decide), if_pos hp2, show l[k + 2]? = some u from hu]
      simp only
      rw [if_pos ⟨f1, hp3, q1⟩, p2, p3, q2, q3]
      obtain ⟨m1, m2, m3, m4⟩ := AddrC.m_t (a := ra) (b := rb) (c := rc) (d := rdd) (decide_eq_true ⟨hc.1, hc.2.1⟩)
      rw [m1, m2, m3, m4]
      have hh := hc
      unfold AddrC.FineP at hh
      have g1 : AddrC.lo ra rc = ra := by unfold AddrC.lo; split <;> omega
      have g2 : AddrC.lo rb rdd = rb := by unfold AddrC.lo; split <;> omega
      have g3 : AddrC.hi ra rc = rc := by unfold AddrC.hi; split <;> omega
      have g4 : AddrC.hi rb rdd = rdd := by unfold AddrC.hi; split <;> omega
      rw [g1, g2, g3, g4]
      rfl
    | neg =>
      obtain ⟨f1, k1, rfl⟩ : ∃ f1 k1, kd = .cons f1 k1 .nil := by
        cases kd with
        | nil => simp [Fo.len] at hm
        | cons f1 k1 nx => cases nx with
          | nil => exact ⟨f1, k1, rfl⟩
          | cons _ _ _ => simp [Fo.len] at hm
      have ha1 : (Nd.mk f1 k1).all fitsB = true := by have := hall1.1; simp only [Fo.all, Bool.and_true] at this; exact this
      have hs1 : (Nd.mk f1 k1).size ≤ N := by simp only [Nd.size, Fo.size] at hsz ⊢; omega
      have hd1 : 2 * (Nd.mk f1 k1).deep ≤ r := by simp only [Nd.deep, Fo.deep] at hd ⊢; omega
      have hd0 : 1 ≤ (Nd.mk f1 k1).deep := by simp only [Nd.deep]; omega
      have hrow := row_le (shape_of (by have := ha1; simp only [Nd.all, Bool.and_eq_true] at this; exact this.2 : fitsB f1 k1.len = true))
      have hat2 : At l k (sgn [45] :: closeK (toksN ⟨f1, k1⟩, rowN ⟨f1, k1⟩) 5) := hat
      have hc := closedR (least := 5) (n := n) (a := ⟨f1, k1⟩) (r := r - 1) hrow.1 (by omega) (by omega) hat2.tail (fun k' h' => ih ⟨f1, k1⟩ hs1 ha1 _ k' (by omega) h') (fun k' h' => ih ⟨f1, k1⟩ hs1 ha1 _ k' (by omega) h')
      show OwnR l n _ k (k + (sgn [45] :: closeK (toksN ⟨f1, k1⟩, rowN ⟨f1, k1⟩) 5).length) r 5
      refine own_hi (by decide) (by decide) (by omega) (fun e => by omega) (fun hf => ?_)
      have hlen : k + (sgn [45] :: closeK (toksN ⟨f1, k1⟩, rowN ⟨f1, k1⟩) 5).length = k + 1 + (closeK (toksN ⟨f1, k1⟩, rowN ⟨f1, k1⟩) 5).length := by simp; omega
      rw [hlen] at hf ⊢
      have hr1 : 1 ≤ r := by omega
      show unaryF l n (lev l n r) (decide (1 ≤ r)) k = _
      exact unary_ok (by rw [sign_at hat2]; decide) (decide_eq_true hr1) (by rw [(lev_fm (l := l) (n := n) (r := r) (by omega)).2.2]; exact hc.own 5 (by omega) (by omega) hf)
    | bin o ho =>
      obtain ⟨f1, k1, f2, k2, rfl⟩ : ∃ f1 k1 f2 k2, kd = .cons f1 k1 (.cons f2 k2 .nil) := by
        cases kd with
        | nil => simp [Fo.len] at hm
        | cons f1 k1 nx => cases nx with
          | nil => simp [Fo.len] at hm
          | cons f2 k2 nx => cases nx with
            | nil => exact ⟨f1, k1, f2, k2, rfl⟩
            | cons _ _ _ => simp [Fo.len] at hm
      have hh := hall1.1
      simp only [Fo.all, Bool.and_true, Bool.and_eq_true] at hh
      have ha1 : (Nd.mk f1 k1).all fitsB = true := by simp [Nd.all, hh.1.1, hh.1.2]
      have ha2 : (Nd.mk f2 k2).all fitsB = true := by simp [Nd.all, hh.2.1, hh.2.2]
      have hs1 : (Nd.mk f1 k1).size ≤ N := by simp only [Nd.size, Fo.size] at hsz ⊢; omega
      have hs2 : (Nd.mk f2 k2).size ≤ N := by simp only [Nd.size, Fo.size] at hsz ⊢; omega
      have hd1 : 2 * (Nd.mk f1 k1).deep ≤ r := by simp only [Nd.deep, Fo.deep] at hd ⊢; omega
      have hd2 : 2 * (Nd.mk f2 k2).deep ≤ r := by simp only [Nd.deep, Fo.deep] at hd ⊢; omega
      have hd0 : 1 ≤ (Nd.mk f1 k1).deep := by simp only [Nd.deep]; omega
      have hrow1 := row_le (shape_of hh.1.2)
      have hrow2 := row_le (shape_of hh.2.2)
      have et : toksN ⟨⟨5, 0, 0, nob, 0, 0, 0, 0, str o⟩, .cons f1 k1 (.cons f2 k2 .nil)⟩ = closeK (toksN ⟨f1, k1⟩, rowN ⟨f1, k1⟩) (lo1 (opRow o)) ++ sgn o :: closeK (toksN ⟨f2, k2⟩, rowN ⟨f2, k2⟩) (lo2 (opRow o)) := nodeK_bin o _
      have er : rowN ⟨⟨5, 0, 0, nob, 0, 0, 0, 0, str o⟩, .cons f1 k1 (.cons f2 k2 .nil)⟩ = opRow o := by
        show (if (5 : Int) = 1 ∨ (5 : Int) = 2 ∨ (5 : Int) = 3 ∨ (5 : Int) = 6 then 6 else if (5 : Int) = 4 then 5 else if (5 : Int) = 5 then opRow (str o).data.toList else 0) = _
        rw [if_neg (by decide), if_neg (by decide), if_pos rfl, str_back]
      rw [et] at hat ⊢
      rw [er]
      have hbr := bin_row ho
      have hl1 : lo1 (opRow o) ≤ 6 := by unfold lo1; split <;> (try split) <;> omega
      have hl2 : lo2 (opRow o) ≤ 4 := by unfold lo2; split <;> (try split) <;> (try split) <;> omega
      have hl24 : opRow o = 4 → lo2 (opRow o) = 4 := fun e => by rw [e]; rfl
      have hx := closedR (n := n) (a := ⟨f1, k1⟩) (r := r) hrow1.1 hl1 (by omega) hat.left (fun k' h' => ih ⟨f1, k1⟩ hs1 ha1 _ k' (by omega) h') (fun k' h' => ih ⟨f1, k1⟩ hs1 ha1 _ k' (by omega) h')
      have hy := closedR (n := n) (a := ⟨f2, k2⟩) (r := r) hrow2.1 (by omega) (by omega) hat.right.tail (fun k' h' => ih ⟨f2, k2⟩ hs2 ha2 _ k' (by omega) h') (fun k' h' => ih ⟨f2, k2⟩ hs2 ha2 _ k' (by omega) h')
      have hy1 := closedR (n := n) (a := ⟨f2, k2⟩) (r := r - 1) hrow2.1 (by omega) (by omega) hat.right.tail (fun k' h' => ih ⟨f2, k2⟩ hs2 ha2 _ k' (by omega) h') (fun k' h' => ih ⟨f2, k2⟩ hs2 ha2 _ k' (by omega) h')
      have hne : closeK (toksN ⟨f2, k2⟩, rowN ⟨f2, k2⟩) (lo2 (opRow o)) ≠ [] := by
        obtain ⟨p, r, e, -⟩ := head_close (head_node ha2) (rowN ⟨f2, k2⟩) (lo2 (opRow o))
        rw [e]; simp
      have := own_bin (n := n) ho hl (by omega) hat hne hx hy (fun e => by have h := hy1; rw [hl24 e] at h ⊢; exact h)
      exact this
    | call o hn h8 m hm10 =>
      have et : toksN ⟨⟨6, 0, 0, nob, 0, 0, 0, 0, str o⟩, kd⟩ = (3, 0, str o) :: sgn [40] :: (joinK ((toks kd).map (·.1)) ++ [sgn [41]]) := nodeK_call o _
      rw [et] at hat ⊢
      obtain ⟨t, ht, e⟩ := hat.tok
      have e1 : t.k = 3 := congrArg (·.1) e
      have e2 : t.s = str o := congrArg (·.2.2) e
      have h40 : isSign l (k + 1) [40] = true := by rw [sign_at hat.tail]; decide
      have hin : At l (k + 2) (joinK ((toks kd).map (·.1)) ++ [sgn [41]]) := hat.tail.tail
      have h8s : ¬ 8 < t.s.size := by rw [e2, str_size]; omega
      show OwnR l n _ k _ r 6
      refine own_hi (by decide) (by decide) (by omega) (fun _ => sign_not hat (by show (3 : Int) ≠ 4; decide) _) (fun hf => ?_)
      show partF l n (lev l n r) (decide (1 ≤ r)) k = _
      unfold partF
      rw [ht]
      simp only
      rw [if_neg (by rw [e1]; decide), if_neg (by rw [e1]; decide), if_pos e1]
      unfold nameF
      rw [if_pos h40]
      unfold callF
      rw [if_neg h8s]
      by_cases hkd : kd = .nil
      · subst hkd
        have h41 : isSign l (k + 2) [41] = true := by
          have hin : At l (k + 2) [sgn [41]] := hin
          rw [sign_at hin]; decide
        rw [if_pos h41, e2]
        rfl
      · have hr1 : 1 ≤ r := by
          have : 1 ≤ kd.deep := by cases kd with
            | nil => exact absurd rfl hkd
            | cons f k n => simp only [Fo.deep]; omega
          simp only [Nd.deep] at hd; omega
        have hno : isSign l (k + 2) [41] = false := by
          refine head_no ?_ hin
          cases kd with
          | nil => exact absurd rfl hkd
          | cons f1 k1 nx =>
            have hh := heads _ hall1.1 _ (List.mem_cons_self ..)
            cases nx with
            | nil => exact head_app hh
            | cons f2 k2 nx => exact head_app (head_app hh)
        rw [if_neg (by rw [hno]; decide)]
        have ha := own_args (l := l) (n := n) (L := lev l n r) (s := r - 1) (lev_fm hr1).1 kd hkd (fun b g1 g2 g3 k' g4 g5 g6 => ih b (by simp only [Nd.size] at hsz; omega) g2 _ k' (by simp only [Nd.deep] at hd; omega) g4) hall1.1 10 .nil (k + 2) (by omega) hin
        rw [show decide (1 ≤ r) = true from decide_eq_true hr1, ha]
        simp only
        rw [close_ok (by rw [sign_at hin.right]; decide), e2]
        simp only
        congr 2
        simp; omega
end
theorem print_parse (a : Nd) (h : a.all fitsB = true) (hw : a.all wideB = true) (hd : a.deep ≤ 16) (hl : (textN a).length ≤ 300) : parseL (textN a) = ⟨a, 0, 0⟩ := by
  have hc := cuts_node a h hw
  obtain ⟨ps, hp, hcut⟩ := cut_whole hc hl hc.few
  have hlen : ps.length = (toksN a).length := by rw [← hp, List.length_map]
  have hat : At ps 0 (toksN a) := ⟨[], by rw [hp]; simp⟩
  have hrow : 1 ≤ rowN a := (row_le (shape_of (by simp only [Nd.all, Bool.and_eq_true] at h; exact h.2))).1
  have hfew := hc.few
  have h1 := (reads (n := ((textN a).length : Int)) (l := ps) (by omega) a.size a (Nat.le_refl _) h 40 0 (by omega) hat).own 1 (Nat.le_refl _) hrow (by rw [Nat.zero_add]; exact foll_end (by omega))
  rw [Nat.zero_add] at h1
  unfold parseL
  rw [hcut]
  simp only
  rw [if_neg (by decide)]
  unfold treeF
  have h2 : (lev ps ((textN a).length : Int) 41).fm 0 = .ok (a, (toksN a).length) := h1
  rw [h2]
  simp only
  rw [if_neg (by omega)]
  simp only
  rw [if_neg (by omega)]
end Go.Proofs.YticehalcnbjccaaGreatDoor.PrintC
namespace Go.Proofs.YticehalcnbjccaaGreatDoor.PrintC
set_option linter.unusedVariables false
open Go.Proofs.YticehalcnbjccaaGreatDoor.NumC Go.Proofs.YticehalcnbjccaaGreatDoor.LexC Go.Proofs.YticehalcnbjccaaGreatDoor.TreeC
theorem join_len : ∀ l : List (List UInt8), (joinT l).length ≤ (l.map List.length).sum + l.length
  | [] => by simp [joinT]
  | [x] => by simp [joinT]
  | x :: y :: r => by
    have := join_len (y :: r)
    rw [joinT_cons]
    simp only [List.length_append, List.length_cons, List.map_cons, List.sum_cons] at this ⊢
    omega
theorem close_len (x : List UInt8 × Nat) (least : Nat) : (closeT x least).length ≤ x.1.length + 2 := by
  unfold closeT
  split <;> simp
theorem name_len {r c : Int} (h : AddrC.Cell r c) : (AddrC.nameL r c).length ≤ 22 := by
  rw [AddrC.nameL_cell h, List.length_append, AddrC.colL_len]
  have := (itoa_len (AddrC.cell_i64 h)).2
  split <;> omega
theorem bin_len {o : List UInt8} (h : binS o = true) : o.length ≤ 2 := by
  rcases bin_cases h with rfl | rfl | rfl | rfl | rfl | rfl | rfl | rfl | rfl | rfl | rfl | rfl | rfl <;> decide
theorem texts_length : ∀ x : Fo, (texts x).length = x.len := by
  intro x
  induction x with
  | nil => rfl
  | cons f k n _ ih => simp [texts, Fo.len, ih]
def tsum (l : List (List UInt8 × Nat)) : Nat := (l.map (·.1.length)).sum
theorem text_lens : ∀ (x : Fo), x.all fitsB = true → x.all wideB = true → tsum (texts x) ≤ 500 * x.size
  | .nil, _, _ => by simp [texts, tsum]
  | .cons f k n, h, h2 => by
    simp only [Fo.all, Bool.and_eq_true] at h h2
    obtain ⟨⟨hk, hf⟩, hn⟩ := h
    obtain ⟨⟨gk, gf⟩, gn⟩ := h2
    have ih1 := text_lens k hk gk
    have ih2 := text_lens n hn gn
    have hs := shape_of hf
    have hw : f.vn ≤ 9223372036854775807 := of_decide_eq_true gf
    have hl1 := texts_length k
    have key : (nodeT f (texts k)).length ≤ 500 + tsum (texts k) := by
      clear hf gf ih1 ih2
      generalize hm : k.len = m at *
      generalize texts k = ts at *
      cases hs with
      | int n h0 =>
        show (Lib.itoa n).length ≤ _
        have := (itoa_len (n := n) (by unfold I64; simp only at hw; omega)).2
        omega
      | text s hs =>
        show (quL s.data.toList).length ≤ _
        have := quB_len s.data.toList
        have e := list_len s
        unfold quL
        simp only [List.length_append, List.length_cons, List.length_nil]
        omega
      | yes => show truT.length ≤ _; have : truT.length = 4 := rfl; omega
      | no => show falT.length ≤ _; have : falT.length = 5 := rfl; omega
      | cell r c hc => show (AddrC.nameL r c).length ≤ _; have := name_len hc; omega
      | range a b c d hc =>
        show (AddrC.nameL a b ++ 58 :: AddrC.nameL c d).length ≤ _
        have h1 := name_len hc.1
        have h2 := name_len hc.2.1
        simp only [List.length_append, List.length_cons]
        omega
      | neg =>
        rw [nodeT_neg]
        match ts, hl1 with
        | [x], _ =>
          have := close_len x 5
          simp only [fst0, List.headD_cons, List.length_cons, tsum, List.map_cons, List.map_nil, List.sum_cons, List.sum_nil]
          omega
      | bin o ho =>
        rw [nodeT_bin]
        match ts, hl1 with
        | [x, y], _ =>
          have h1 := close_len x (lo1 (opRow o))
          have h2 := close_len y (lo2 (opRow o))
          have h3 := bin_len ho
          simp only [fst0, snd0, List.headD_cons, List.tail_cons, List.length_append, tsum, List.map_cons, List.map_nil, List.sum_cons, List.sum_nil]
          omega
      | call o ho h8 m hm2 =>
        rw [nodeT_call]
        have h1 := join_len (ts.map (·.1))
        have e : ((ts.map (·.1)).map List.length).sum = tsum ts := by unfold tsum; rw [List.map_map]; rfl
        rw [e, List.length_map] at h1
        simp only [List.length_append, List.length_cons, List.length_nil]
        omega
    have e1 : tsum (texts (.cons f k n)) = (nodeT f (texts k)).length + tsum (texts n) := by simp [texts, tsum]
    have e2 : (Fo.cons f k n).size = 1 + k.size + n.size := rfl
    rw [e1, e2]
    omega
theorem text_len (a : Nd) (h : a.all fitsB = true) (h2 : a.all wideB = true) : (textN a).length ≤ 500 * a.size := by
  have := text_lens (.cons a.f a.kids .nil) (by simpa [Fo.all, Nd.all] using h) (by simpa [Fo.all, Nd.all] using h2)
  simpa [texts, tsum, textN, Fo.size, Nd.size] using this
theorem texts_nth : ∀ (x : Fo) (i : Nat), i < x.len → (texts x)[i]? = some (textN (x.nth i), rowN (x.nth i))
  | .nil, i, h => by simp [Fo.len] at h
  | .cons f k n, 0, h => rfl
  | .cons f k n, i + 1, h => by
    have := texts_nth n i (by simpa [Fo.len] using h)
    simpa [texts, Fo.nth] using this
structure TRes where
  s : List UInt8
  err : Int
def goodN (a : Nd) : Bool := goodT fitsB a
def textR (a : Nd) : TRes := if goodN a = false then ⟨[], 11⟩ else if 300 < (textN a).length then ⟨[], 2⟩ else ⟨textN a, 0⟩
theorem textR_no {a : Nd} (h : goodN a = false) : textR a = ⟨[], 11⟩ := if_pos h
theorem textR_long {a : Nd} (h : goodN a = true) (h2 : 300 < (textN a).length) : textR a = ⟨[], 2⟩ := by unfold textR; rw [if_neg (by rw [h]; decide), if_pos h2]
theorem textR_ok {a : Nd} (h : goodN a = true) (h2 : ¬ 300 < (textN a).length) : textR a = ⟨textN a, 0⟩ := by unfold textR; rw [if_neg (by rw [h]; decide), if_neg h2]
theorem good_parts {a : Nd} (h : goodN a = true) : a.size ≤ 2000 ∧ a.deep ≤ 16 ∧ a.all fitsB = true := by
  unfold goodN goodT at h
  simp only [Bool.and_eq_true, decide_eq_true_eq] at h
  exact ⟨h.1.1, h.1.2, h.2⟩
theorem textR_zero {a : Nd} (h : (textR a).err = 0) : goodN a = true ∧ (textN a).length ≤ 300 ∧ (textR a).s = textN a := by
  cases hg : goodN a with
  | false => rw [textR_no hg] at h; exact absurd h (by decide)
  | true =>
    by_cases h2 : 300 < (textN a).length
    · rw [textR_long hg h2] at h; exact absurd h (by decide)
    · rw [textR_ok hg h2]; exact ⟨rfl, by omega, rfl⟩
end Go.Proofs.YticehalcnbjccaaGreatDoor.PrintC
namespace Go.Proofs.YticehalcnbjccaaGreatDoor.PrintC
set_option linter.unusedVariables false
open Go.Proofs.YticehalcnbjccaaGreatDoor.NumC Go.Proofs.YticehalcnbjccaaGreatDoor.LexC Go.Proofs.YticehalcnbjccaaGreatDoor.TreeC
def opn (p : PT) : Bool := decide (p.1 = 4) && decide (p.2.2 = str [40])
def cntT (ts : List PT) : Nat := ts.countP opn
def cnt (l : List Tok) (k : Nat) : Nat := cntT ((l.map key).take k)
def pc (a : Nd) : Nat := cntT (toksN a)
def fpc : Fo → Nat
  | .nil => 0
  | .cons f k n => pc ⟨f, k⟩ + fpc n
def low (a : Nd) (m : Nat) : Nat := if rowN a < m then 1 else 0
theorem low_le {a : Nd} {m n : Nat} (h : m ≤ n) : low a m ≤ low a n := by unfold low; split <;> split <;> omega
theorem low_no {a : Nd} {m : Nat} (h : m ≤ rowN a) : low a m = 0 := if_neg (by omega)
theorem low_one (a : Nd) (m : Nat) : low a m ≤ 1 := by unfold low; split <;> omega
theorem cnt_app (x y : List PT) : cntT (x ++ y) = cntT x + cntT y := List.countP_append
theorem cnt_cons (p : PT) (x : List PT) : cntT (p :: x) = cntT x + if opn p = true then 1 else 0 := List.countP_cons
theorem opn_sgn (o : List UInt8) : opn (sgn o) = decide (o = [40]) := by
  unfold opn sgn
  simp only [decide_true, Bool.true_and, decide_eq_decide]
  exact str_inj
theorem cnt_close (ts : List PT) (row least : Nat) : cntT (closeK (ts, row) least) = cntT ts + if row < least then 1 else 0 := by
  unfold closeK
  simp only
  split
  · rw [cnt_cons, cnt_app, opn_sgn, cnt_cons, opn_sgn]
    simp [cntT]
  · rfl
theorem cnt_mono (l : List Tok) {k k' : Nat} (h : k ≤ k') : cnt l k ≤ cnt l k' := by
  unfold cnt
  have : (l.map key).take k = ((l.map key).take k').take k := by rw [List.take_take, Nat.min_eq_left h]
  rw [this]
  conv => rhs; rw [← List.take_append_drop k ((l.map key).take k')]
  rw [cnt_app]; omega
theorem cnt_succ (l : List Tok) (k : Nat) : cnt l k ≤ cnt l (k + 1) := cnt_mono l (Nat.le_succ k)
theorem cnt_open {l : List Tok} {k : Nat} (h : isSign l k [40] = true) : cnt l (k + 1) = cnt l k + 1 := by
  unfold isSign at h
  cases ht : l[k]? with
  | none => rw [ht] at h; cases h
  | some t =>
    rw [ht] at h
    simp only at h
    unfold cnt
    rw [List.take_add_one, List.getElem?_map, ht, cnt_app]
    have : opn (key t) = true := h
    simp [cntT, this]
theorem pc_neg (a : Nd) : pc (negN a) = pc a + low a 5 := by
  have e : toksN (negN a) = sgn [45] :: closeK (toksN a, rowN a) 5 := rfl
  unfold pc
  rw [e, cnt_cons, cnt_close, opn_sgn]
  rfl
theorem toks_pair (op : List UInt8) (a b : Nd) : toksN (pairN op a b) = closeK (toksN a, rowN a) (lo1 (opRow op)) ++ sgn op :: closeK (toksN b, rowN b) (lo2 (opRow op)) := nodeK_bin op _
theorem row_pair (op : List UInt8) (a b : Nd) : rowN (pairN op a b) = opRow op := by
  show (if (5 : Int) = 1 ∨ (5 : Int) = 2 ∨ (5 : Int) = 3 ∨ (5 : Int) = 6 then 6 else if (5 : Int) = 4 then 5 else if (5 : Int) = 5 then opRow (str op).data.toList else 0) = _
  rw [if_neg (by decide), if_neg (by decide), if_pos rfl, str_back]
theorem pc_pair {op : List UInt8} (ho : op ≠ [40]) (a b : Nd) : pc (pairN op a b) = pc a + low a (lo1 (opRow op)) + (pc b + low b (lo2 (opRow op))) := by
  unfold pc
  rw [toks_pair, cnt_app, cnt_cons, cnt_close, cnt_close, opn_sgn, decide_eq_false ho]
  unfold low
  simp
theorem fpc_app (x y : Fo) : fpc (x.app y) = fpc x + fpc y := by
  induction x with
  | nil => simp [Fo.app, fpc]
  | cons f k n _ ih => simp only [Fo.app, fpc, ih]; omega
theorem fpc_one (a : Nd) : fpc a.one = pc a := by simp [Nd.one, fpc]
theorem cnt_join : ∀ x : Fo, cntT (joinK ((toks x).map (·.1))) = fpc x
  | .nil => rfl
  | .cons f k .nil => by simp [toks, joinK, fpc, pc, toksN]
  | .cons f k (.cons f2 k2 n) => by
    have ih := cnt_join (.cons f2 k2 n)
    have e : joinK ((toks (.cons f k (.cons f2 k2 n))).map (·.1)) = toksN ⟨f, k⟩ ++ sgn [44] :: joinK ((toks (.cons f2 k2 n)).map (·.1)) := rfl
    rw [e, cnt_app, cnt_cons, ih, opn_sgn]
    simp [fpc, pc]
theorem pc_call (s : ByteArray) (x : Fo) : pc (callN s x) = 1 + fpc x := by
  have e : toksN (callN s x) = (3, 0, s) :: sgn [40] :: (joinK ((toks x).map (·.1)) ++ [sgn [41]]) := by
    have := nodeK_call s.data.toList (toks x)
    rw [str_list] at this
    exact this
  unfold pc
  rw [e, cnt_cons, cnt_cons, cnt_app, cnt_join, cnt_cons, opn_sgn, opn_sgn]
  simp [opn, cntT]; omega
section
variable {l : List Tok} {n : Int} {L : Lev} {into : Bool} {k k' k'' : Nat} {a b : Nd} {e : Bad} {t : Tok} {op : List UInt8}
def WideT (t : Tok) : Prop := t.k = 1 → t.n ≤ 9223372036854775807
def Pn (l : List Tok) (m : Nat) (f : Nat → Out) : Prop := ∀ k a k', f k = .ok (a, k') → a.all wideB = true ∧ cnt l k + pc a + low a m ≤ cnt l k'
structure LPn (l : List Tok) (L : Lev) : Prop where
  fm : Pn l 1 L.fm
  pw : Pn l 4 L.pw
  un : Pn l 5 L.un
theorem wide_leaf {f : Fld} (h : f.vn ≤ 9223372036854775807) : (Nd.mk f .nil).all wideB = true := by
  show (true && wideB f 0) = true
  rw [show wideB f 0 = true from decide_eq_true h]; rfl
theorem wide_neg (h : a.all wideB = true) : (negN a).all wideB = true := by
  show ((a.one).all wideB && wideB ⟨4, 0, 0, nob, 0, 0, 0, 0, nob⟩ a.one.len) = true
  rw [one_all, h]; rfl
theorem wide_pair (h : a.all wideB = true) (g : b.all wideB = true) : (pairN op a b).all wideB = true := by
  show ((a.one.app b.one).all wideB && wideB ⟨5, 0, 0, nob, 0, 0, 0, 0, str op⟩ (a.one.app b.one).len) = true
  rw [app_all, one_all, one_all, h, g]; rfl
theorem wide_call {x : Fo} {s : ByteArray} (h : x.all wideB = true) : (callN s x).all wideB = true := by
  show (x.all wideB && wideB ⟨6, 0, 0, nob, 0, 0, 0, 0, s⟩ x.len) = true
  rw [h]; rfl
theorem row_pn {part : Nat → Out} {ss : List (List UInt8)} {r : Nat} (hr : ∀ op ∈ ss, op ≠ [40] ∧ opRow op = r ∧ lo1 r = r ∧ lo2 r = r + 1) (hp : Pn l (r + 1) part) (k0 : Nat) : ∀ (g : Nat) (a : Nd) (k : Nat), (a.all wideB = true ∧ cnt l k0 + pc a + low a r ≤ cnt l k) → ∀ b k', rowF l part ss g a k = .ok (b, k') → b.all wideB = true ∧ cnt l k0 + pc b + low b r ≤ cnt l k' := by
  intro g
  induction g with
  | zero => intro a k hk b k' h; simp only [rowF] at h; injection h with h; injection h with h1 h2; subst h1 h2; exact hk
  | succ g ih =>
    intro a k hk b k' h
    cases ho : oneOf l k ss with
    | none => rw [row_end ho] at h; injection h with h; injection h with h1 h2; subst h1 h2; exact hk
    | some op =>
      cases hq : part (k + 1) with
      | error e => rw [row_bad ho hq] at h; cases h
      | ok q =>
        obtain ⟨c, k2⟩ := q
        rw [row_go ho hq] at h
        have h1 := hp _ _ _ hq
        obtain ⟨g1, g2, g3, g4⟩ := hr op (one_of_mem ho)
        refine ih _ _ ⟨wide_pair hk.1 h1.1, ?_⟩ _ _ h
        rw [pc_pair g1, g2, g3, g4, low_no (a := pairN op a c) (by rw [row_pair, g2]; exact Nat.le_refl _)]
        have := cnt_succ l k
        have h2 := hk.2
        have h3 := h1.2
        omega
theorem args_pn (hL : LPn l L) (k0 : Nat) : ∀ (r : Nat) (acc : Fo) (k : Nat), (acc.all wideB = true ∧ cnt l k0 + fpc acc ≤ cnt l k) → ∀ x k', argsF l n L into r acc k = .ok (x, k') → x.all wideB = true ∧ cnt l k0 + fpc x ≤ cnt l k' := by
  intro r
  induction r with
  | zero => intro acc k _ x k' h; simp only [argsF] at h; cases h
  | succ r ih =>
    intro acc k hk x k' h
    unfold argsF at h
    split at h
    · cases h
    · cases hq : L.fm k with
      | error e => simp only [hq] at h; cases h
      | ok q =>
        obtain ⟨c, k2⟩ := q
        simp only [hq] at h
        have h1 := hL.fm _ _ _ hq
        have h2 : (acc.app c.one).all wideB = true := by rw [app_all, one_all, hk.1, h1.1]; rfl
        have h3 : cnt l k0 + fpc (acc.app c.one) ≤ cnt l k2 := by rw [fpc_app, fpc_one]; have := hk.2; have := h1.2; omega
        split at h
        · exact ih _ _ ⟨h2, Nat.le_trans h3 (cnt_succ l _)⟩ _ _ h
        · injection h with h; injection h with h4 h5; subst h4 h5; exact ⟨h2, h3⟩
theorem call_pn (hL : LPn l L) (hs : isSign l (k + 1) [40] = true) (h : callF l n L into t k = .ok (a, k')) : a.all wideB = true ∧ cnt l k + pc a + low a 6 ≤ cnt l k' := by
  have hk1 : cnt l k + 1 ≤ cnt l (k + 2) := by
    have h1 := cnt_open hs
    have h2 := cnt_succ l k
    have e : k + 1 + 1 = k + 2 := rfl
    rw [e] at h1
    omega
  have hlow : ∀ x : Fo, low (callN t.s x) 6 = 0 := fun x => low_no (Nat.le_refl 6)
  unfold callF at h
  split at h
  · cases h
  · split at h
    · injection h with h; injection h with h3 h4; subst h3 h4
      refine ⟨wide_call rfl, ?_⟩
      rw [pc_call, hlow]
      have := cnt_mono l (show k + 2 ≤ k + 3 by omega)
      simp only [fpc]; omega
    · cases hq : argsF l n L into 10 .nil (k + 2) with
      | error e => simp only [hq] at h; cases h
      | ok q =>
        obtain ⟨c, k2⟩ := q
        simp only [hq] at h
        have h1 := args_pn hL (k + 2) 10 .nil (k + 2) ⟨rfl, Nat.le_refl _⟩ _ _ hq
        cases hc : isSign l k2 [41] with
        | false => rw [close_no hc] at h; cases h
        | true =>
          rw [close_ok hc] at h
          injection h with h; injection h with h3 h4; subst h3 h4
          refine ⟨wide_call h1.1, ?_⟩
          rw [pc_call, hlow]
          have := cnt_succ l k2
          have := h1.2
          omega
theorem leaf_pn {f : Fld} {j : Nat} (hw : f.vn ≤ 9223372036854775807) (hp : pc ⟨f, .nil⟩ = 0) (hr : rowK f = 6) (hj : k ≤ j) : (Nd.mk f .nil).all wideB = true ∧ cnt l k + pc ⟨f, .nil⟩ + low ⟨f, .nil⟩ 6 ≤ cnt l j := by
  refine ⟨wide_leaf hw, ?_⟩
  rw [hp, low_no (by show 6 ≤ rowK f; rw [hr]; exact Nat.le_refl _)]
  exact cnt_mono l hj
theorem opn_3 (s : ByteArray) : opn (3, 0, s) = false := rfl
theorem name_pn (hL : LPn l L) (h : nameF l n L into t k = .ok (a, k')) : a.all wideB = true ∧ cnt l k + pc a + low a 6 ≤ cnt l k' := by
  unfold nameF at h
  split at h
  · rename_i hs; exact call_pn hL hs h
  · split at h
    · injection h with h; injection h with h3 h4; subst h3 h4; exact leaf_pn (by show (1 : Int) ≤ _; decide) rfl rfl (Nat.le_succ _)
    · split at h
      · injection h with h; injection h with h3 h4; subst h3 h4; exact leaf_pn (by show (0 : Int) ≤ _; decide) rfl rfl (Nat.le_succ _)
      · split at h
        · cases h
        · split at h
          · cases hu : l[k + 2]? with
            | none => simp only [hu] at h; cases h
            | some u =>
              simp only [hu] at h
              split at h
              · injection h with h; injection h with h3 h4; subst h3 h4
                refine leaf_pn (by show (0 : Int) ≤ _; decide) ?_ rfl (by omega)
                show cntT [(3, 0, _), sgn [58], (3, 0, _)] = 0
                rw [cnt_cons, cnt_cons, cnt_cons, opn_3, opn_3, opn_sgn]; rfl
              · cases h
          · injection h with h; injection h with h3 h4; subst h3 h4
            refine leaf_pn (by show (0 : Int) ≤ _; decide) ?_ rfl (Nat.le_succ _)
            show cntT [(3, 0, _)] = 0
            rw [cnt_cons, opn_3]; rfl
theorem part_pn (hl : ∀ t ∈ l, WideT t) (hL : LPn l L) : Pn l 6 (partF l n L into) := by
  intro k a k' h
  unfold partF at h
  cases ht : l[k]? with
  | none => simp only [ht] at h; cases h
  | some t =>
    have hto := hl t (List.mem_of_getElem? ht)
    simp only [ht] at h
    split at h
    · rename_i h1
      injection h with h; injection h with h3 h4; subst h3 h4
      exact leaf_pn (hto h1) rfl rfl (Nat.le_succ _)
    · split at h
      · split at h
        · cases h
        · injection h with h; injection h with h3 h4; subst h3 h4
          refine leaf_pn (by show (0 : Int) ≤ _; decide) ?_ rfl (Nat.le_succ _)
          show cntT [(2, 0, t.s)] = 0
          rw [cnt_cons]; rfl
      · split at h
        · exact name_pn hL h
        · split at h
          · rename_i hs
            cases hi : into with
            | false => rw [paren_deep hi] at h; cases h
            | true =>
              cases hq : L.fm (k + 1) with
              | error e => rw [paren_err hi hq] at h; cases h
              | ok q =>
                obtain ⟨c, k2⟩ := q
                have h1 := hL.fm _ _ _ hq
                cases hc : isSign l k2 [41] with
                | false => rw [paren_open hi hq hc] at h; cases h
                | true =>
                  rw [paren_ok hi hq hc] at h
                  injection h with h; injection h with h3 h4; subst h3 h4
                  refine ⟨h1.1, ?_⟩
                  have := cnt_open hs
                  have := h1.2
                  have := cnt_succ l k2
                  have := low_one c 6
                  omega
          · cases h
theorem unary_pn (hl : ∀ t ∈ l, WideT t) (hL : LPn l L) : Pn l 5 (unaryF l n L into) := by
  intro k a k' h
  cases hs : isSign l k [45] with
  | false =>
    rw [unary_no hs] at h
    have := part_pn hl hL _ _ _ h
    exact ⟨this.1, by have := this.2; have := low_le (a := a) (show 5 ≤ 6 by omega); omega⟩
  | true =>
    cases hi : into with
    | false => rw [unary_deep hs hi] at h; cases h
    | true =>
      cases hq : L.un (k + 1) with
      | error e => rw [unary_err hs hi hq] at h; cases h
      | ok q =>
        obtain ⟨c, k2⟩ := q
        have h1 := hL.un _ _ _ hq
        rw [unary_ok hs hi hq] at h
        injection h with h; injection h with h3 h4; subst h3 h4
        refine ⟨wide_neg h1.1, ?_⟩
        rw [pc_neg, low_no (a := negN c) (show 5 ≤ 5 by omega)]
        have := h1.2
        have := cnt_succ l k
        omega
theorem power_pn (hl : ∀ t ∈ l, WideT t) (hL : LPn l L) : Pn l 4 (powerF l n L into) := by
  intro k a k' h
  cases hu : unaryF l n L into k with
  | error e => rw [power_err hu] at h; cases h
  | ok q =>
    obtain ⟨c, k1⟩ := q
    have h1 := unary_pn hl hL _ _ _ hu
    cases hs : isSign l k1 [94] with
    | false =>
      rw [power_one hu hs] at h; injection h with h; injection h with h3 h4; subst h3 h4
      exact ⟨h1.1, by have := h1.2; have := low_le (a := c) (show 4 ≤ 5 by omega); omega⟩
    | true =>
      cases hi : into with
      | false => rw [power_deep hu hs hi] at h; cases h
      | true =>
        cases hq : L.pw (k1 + 1) with
        | error e => rw [power_bad hu hs hi hq] at h; cases h
        | ok q =>
          obtain ⟨d, k2⟩ := q
          have h2 := hL.pw _ _ _ hq
          rw [power_ok hu hs hi hq] at h
          injection h with h; injection h with h3 h4; subst h3 h4
          refine ⟨wide_pair h1.1 h2.1, ?_⟩
          rw [pc_pair (by decide), show opRow [94] = 4 from rfl, show lo1 4 = 5 from rfl, show lo2 4 = 4 from rfl, low_no (a := pairN [94] c d) (by rw [row_pair]; decide)]
          have := h1.2
          have := h2.2
          have := cnt_succ l k1
          omega
theorem mul_rows : ∀ op ∈ mulS, op ≠ [40] ∧ opRow op = 3 ∧ lo1 3 = 3 ∧ lo2 3 = 3 + 1 := by decide
theorem sum_rows : ∀ op ∈ sumS, op ≠ [40] ∧ opRow op = 2 ∧ lo1 2 = 2 ∧ lo2 2 = 2 + 1 := by decide
theorem cmp_rows : ∀ op ∈ cmpS, op ≠ [40] ∧ opRow op = 1 := by decide
theorem product_pn (hl : ∀ t ∈ l, WideT t) (hL : LPn l L) : Pn l 3 (productF l n L into) := by
  intro k a k' h
  cases hu : powerF l n L into k with
  | error e => rw [product_err hu] at h; cases h
  | ok q =>
    obtain ⟨c, k1⟩ := q
    rw [product_go hu] at h
    have h1 := power_pn hl hL _ _ _ hu
    exact row_pn mul_rows (power_pn hl hL) k _ _ _ ⟨h1.1, by have := h1.2; have := low_le (a := c) (show 3 ≤ 4 by omega); omega⟩ _ _ h
theorem sum_pn (hl : ∀ t ∈ l, WideT t) (hL : LPn l L) : Pn l 2 (sumF l n L into) := by
  intro k a k' h
  cases hu : productF l n L into k with
  | error e => rw [sum_err hu] at h; cases h
  | ok q =>
    obtain ⟨c, k1⟩ := q
    rw [sum_go hu] at h
    have h1 := product_pn hl hL _ _ _ hu
    exact row_pn sum_rows (product_pn hl hL) k _ _ _ ⟨h1.1, by have := h1.2; have := low_le (a := c) (show 2 ≤ 3 by omega); omega⟩ _ _ h
theorem formula_pn (hl : ∀ t ∈ l, WideT t) (hL : LPn l L) : Pn l 1 (formulaF l n L into) := by
  intro k a k' h
  cases hu : sumF l n L into k with
  | error e => rw [formula_err hu] at h; cases h
  | ok q =>
    obtain ⟨c, k1⟩ := q
    have h1 := sum_pn hl hL _ _ _ hu
    cases ho : oneOf l k1 cmpS with
    | none =>
      rw [formula_one hu ho] at h; injection h with h; injection h with h3 h4; subst h3 h4
      exact ⟨h1.1, by have := h1.2; have := low_le (a := c) (show 1 ≤ 2 by omega); omega⟩
    | some op =>
      cases hq : sumF l n L into (k1 + 1) with
      | error e => rw [formula_bad hu ho hq] at h; cases h
      | ok q =>
        obtain ⟨d, k2⟩ := q
        have h2 := sum_pn hl hL _ _ _ hq
        rw [formula_ok hu ho hq] at h
        injection h with h; injection h with h3 h4; subst h3 h4
        obtain ⟨g1, g2⟩ := cmp_rows op (one_of_mem ho)
        refine ⟨wide_pair h1.1 h2.1, ?_⟩
        rw [pc_pair g1, g2, show lo1 1 = 2 from rfl, show lo2 1 = 2 from rfl, low_no (a := pairN op c d) (by rw [row_pair, g2]; exact Nat.le_refl _)]
        have := h1.2
        have := h2.2
        have := cnt_succ l k1
        omega
end
theorem lev_pn (l : List Tok) (n : Int) (hl : ∀ t ∈ l, WideT t) : ∀ r, LPn l (lev l n r) := by
  intro r
  induction r with
  | zero => refine ⟨?_, ?_, ?_⟩ <;> (intro k a k' h; cases h)
  | succ r ih => exact ⟨formula_pn hl ih, power_pn hl ih, unary_pn hl ih⟩
theorem next_wide {c : UInt8} {l : List UInt8} {k n : Int} {s : List UInt8} {m : Nat} (i : Int) (h : nextL (c :: l) = some (k, n, s, m)) : WideT ⟨k, n, str s, i⟩ := by
  intro hk
  rw [nextL_cons, tokL] at h
  split at h
  · split at h
    · rename_i hn
      injection h with h; injection h with h1 h; injection h with h2 h
      show n ≤ _
      omega
    · cases h
  · split at h
    · injection h with h; injection h with h1 h
      have : k = 1 := hk
      omega
    · split at h
      · obtain ⟨r, hr, e⟩ := Option.map_eq_some_iff.1 h
        injection e with h1 e
        have : k = 1 := hk
        omega
      · have hk1 : k = 1 := hk
        have : k = 4 := by
          unfold signT at h
          split at h
          · split at h
            · injection h with h; injection h with h1 h; omega
            · split at h
              · injection h with h; injection h with h1 h; omega
              · cases h
          · split at h
            · injection h with h; injection h with h1 h; omega
            · cases h
        omega
theorem cutF_wide : ∀ (f : Nat) (l : List UInt8) (i : Nat) (acc : List Tok), (∀ t ∈ acc, WideT t) → ∀ t ∈ (cutF f l i acc).toks, WideT t := by
  intro f
  induction f with
  | zero => intro l i acc h; simpa only [cutF] using h
  | succ f ih =>
    intro l i acc h
    cases l with
    | nil => simpa only [cutF] using h
    | cons c l =>
      unfold cutF
      split
      · exact ih _ _ _ h
      · split
        · intro t ht; cases ht
        · rename_i k n s m hn
          refine ih _ _ _ (fun t ht => ?_)
          rcases List.mem_append.1 ht with ht | ht
          · exact h t ht
          · obtain rfl : t = ⟨k, n, str s, i⟩ := by simpa using ht
            exact next_wide _ hn
theorem cut_wide (s : List UInt8) : ∀ t ∈ (cutL s).toks, WideT t := by
  unfold cutL
  split
  · intro t ht; cases ht
  · exact cutF_wide _ _ _ _ (fun t ht => by cases ht)
theorem parse_wide {s : List UInt8} (h : (parseL s).err = 0) : (parseL s).nd.all wideB = true ∧ pc (parseL s).nd ≤ cntT ((cutL s).toks.map key) := by
  unfold parseL at h ⊢
  by_cases h0 : (cutL s).err ≠ 0
  · rw [if_pos h0] at h; exact absurd h h0
  · rw [if_neg h0] at h ⊢
    cases ht : treeF (cutL s).toks s.length with
    | error e => rw [ht] at h; exact absurd h (tree_err_ne ht)
    | ok a =>
      rw [ht] at h
      simp only at h ⊢
      by_cases hd : 16 < a.deep
      · rw [if_pos hd] at h; exact absurd h (by decide)
      · rw [if_neg hd]
        simp only
        unfold treeF at ht
        cases hq : (lev (cutL s).toks s.length 41).fm 0 with
        | error e => rw [hq] at ht; cases ht
        | ok q =>
          obtain ⟨c, k⟩ := q
          rw [hq] at ht
          simp only at ht
          split at ht
          · cases ht
          · injection ht with ht
            subst ht
            have h1 := (lev_pn (cutL s).toks s.length (cut_wide s) 41).fm _ _ _ hq
            refine ⟨h1.1, ?_⟩
            have h2 : cnt (cutL s).toks k ≤ cntT ((cutL s).toks.map key) := by
              unfold cnt
              conv => rhs; rw [← List.take_append_drop k ((cutL s).toks.map key)]
              rw [cnt_app]; omega
            have := h1.2
            omega
end Go.Proofs.YticehalcnbjccaaGreatDoor.PrintC
namespace Go.Proofs.YticehalcnbjccaaGreatDoor.SourceC
set_option linter.unusedVariables false
open Go.Proofs.YticehalcnbjccaaGreatDoor.NumC Go.Proofs.YticehalcnbjccaaGreatDoor.TreeC Go.Proofs.YticehalcnbjccaaGreatDoor.PrintC
open Go.Proofs.YticehalcnbjccaaGreatDoor.LexC (str nob str_size)
open Go.Proofs.YticehalcnbjccaaGreatDoor.ValueC (Val GoodP goodB goodB_t goodB_f nos zeroV showL trueL falseL size_nos)
structure RS where
  k : Int
  v : Val
  nd : Nd
  at_ : Int
  err : Int
def noneR (at_ err : Int) : RS := ⟨0, zeroV, zeroN, at_, err⟩
def valR (v : Val) : RS := ⟨1, v, zeroN, 0, 0⟩
def formR (a : Nd) : RS := ⟨2, zeroV, a, 0, 0⟩
def unq (s : List UInt8) : List UInt8 := if s.head? = some 39 then s.tail else s
def asText (t : List UInt8) : RS := if 200 < t.length then noneR 0 2 else valR ⟨3, 0, str t⟩
def readL (s : List UInt8) : RS :=
  if 300 < s.length then noneR 0 2
  else if s = [] then noneR 0 0
  else if s.head? = some 61 then (if (parseL s.tail).err = 0 then formR (parseL s.tail).nd else noneR ((parseL s.tail).at_ + 1) (parseL s.tail).err)
  else if s = trueL then valR ⟨1, 1, nos⟩
  else if s = falseL then valR ⟨1, 0, nos⟩
  else if parseB s = true then valR ⟨2, parseN s, nos⟩
  else asText (unq s)
def selfB (l : List UInt8) : Bool := decide ((readL l).err = 0 ∧ (readL l).k = 1 ∧ (readL l).v = ⟨3, 0, str l⟩)
def valueL (v : Val) : List UInt8 := if v.k ≠ 3 then showL v else if selfB v.s.data.toList = true then v.s.data.toList else 39 :: v.s.data.toList
def writeL (k : Int) (v : Val) (a : Nd) : TRes :=
  if k = 0 then (if v = zeroV ∧ a = zeroN then ⟨[], 0⟩ else ⟨[], 11⟩)
  else if k = 1 then (if a = zeroN ∧ GoodP v ∧ v.k ≠ 0 ∧ v.k ≠ 4 then ⟨valueL v, 0⟩ else ⟨[], 11⟩)
  else if k = 2 then (if v = zeroV then (if (textR a).err = 0 then (if 299 < (textR a).s.length then ⟨[], 2⟩ else ⟨61 :: (textR a).s, 0⟩) else ⟨[], (textR a).err⟩) else ⟨[], 11⟩)
  else ⟨[], 11⟩
structure CRes where
  s : List UInt8
  at_ : Int
  err : Int
def cleanL (s : List UInt8) : CRes :=
  if (readL s).err = 0 then ⟨(writeL (readL s).k (readL s).v (readL s).nd).s, 0, (writeL (readL s).k (readL s).v (readL s).nd).err⟩ else ⟨[], (readL s).at_, (readL s).err⟩
theorem cutF_at_le : ∀ (f : Nat) (l : List UInt8) (i : Nat) (acc : List LexC.Tok), (LexC.cutF f l i acc).at_ ≤ (i + l.length : Nat) := by
  intro f
  induction f with
  | zero => intro l i acc; show (0 : Int) ≤ _; omega
  | succ f ih =>
    intro l i acc
    cases l with
    | nil => show (0 : Int) ≤ _; omega
    | cons c l =>
      rw [LexC.cutF]
      by_cases hc : c = 32
      · rw [if_pos hc]
        have := ih l (i + 1) acc
        rw [List.length_cons]; omega
      · rw [if_neg hc]
        cases hn : LexC.nextL (c :: l) with
        | none => show (i : Int) ≤ _; omega
        | some r =>
          obtain ⟨k, n, s, m⟩ := r
          have hm := LexC.next_len hn
          simp only
          have := ih ((c :: l).drop m) (i + m) (acc ++ [⟨k, n, str s, i⟩])
          rw [List.length_drop] at this
          omega
theorem parse_at_le (s : List UInt8) : (parseL s).at_ ≤ (s.length : Int) := by
  unfold parseL
  have hc : (LexC.cutL s).at_ ≤ (s.length : Int) := by
    unfold LexC.cutL
    split
    · show (0 : Int) ≤ _; omega
    · have := cutF_at_le (s.length + 1) s 0 []; omega
  by_cases h0 : (LexC.cutL s).err ≠ 0
  · rw [if_pos h0]; exact hc
  · rw [if_neg h0]
    cases ht : treeF (LexC.cutL s).toks s.length with
    | ok a => simp only; split <;> (show (0 : Int) ≤ _; omega)
    | error e =>
      simp only
      rcases tree_wrong ht with rfl | ⟨j, rfl⟩
      · show (0 : Int) ≤ _; omega
      · show (match (LexC.cutL s).toks[j]? with | some t => t.at_ | none => (s.length : Int)) ≤ _
        cases hj : (LexC.cutL s).toks[j]? with
        | none => exact Int.le_refl _
        | some t =>
          have hm := List.mem_of_getElem? hj
          unfold LexC.cutL at hm
          split at hm
          · cases hm
          · have := ((LexC.cutF_rise _ s 0 [] ⟨List.Pairwise.nil, fun t h => by cases h⟩).lo t hm).2
            show t.at_ ≤ _; omega
theorem itoa_first {n : Int} (h : I64 n) : ∃ c r, Lib.itoa n = c :: r ∧ (c = 45 ∨ 48 ≤ c.toNat ∧ c.toNat ≤ 57) := by
  unfold Lib.itoa
  split
  · exact ⟨45, _, rfl, Or.inl rfl⟩
  · cases hd : Lib.decDigits n.toNat with
    | nil => exact absurd hd (decDigits_ne _)
    | cons c r => exact ⟨c, r, rfl, Or.inr (decDigits_all n.toNat c (by rw [hd]; exact List.mem_cons_self))⟩
theorem not_num {c : UInt8} {r : List UInt8} (h1 : c ≠ 45) (h2 : ¬ (48 ≤ c.toNat ∧ c.toNat ≤ 57)) : parseB (c :: r) = false :=
  (parse_none fun m hm e => by
    obtain ⟨d, z, h3, h4⟩ := itoa_first hm
    rw [h3] at e
    injection e with e1 e2
    subst e1
    rcases h4 with h4 | h4
    · exact h1 h4
    · exact h2 h4).2
theorem read_num {n : Int} (h : I64 n) : readL (Lib.itoa n) = valR ⟨2, n, nos⟩ := by
  obtain ⟨c, r, h1, h2⟩ := itoa_first h
  have hl := (itoa_len h).2
  obtain ⟨p1, p2⟩ := parse_some h rfl
  have hc : ∀ d : UInt8, d ≠ 45 → ¬ (48 ≤ d.toNat ∧ d.toNat ≤ 57) → c ≠ d := fun d g1 g2 e => by
    subst e
    rcases h2 with h2 | h2
    · exact g1 h2
    · exact g2 h2
  unfold readL
  rw [if_neg (by omega), if_neg (by rw [h1]; exact List.cons_ne_nil _ _), if_neg (by rw [h1]; exact fun e => hc 61 (by decide) (by decide) (Option.some.inj e)),
    if_neg (by rw [h1]; exact fun e => hc 84 (by decide) (by decide) (List.cons.inj e).1), if_neg (by rw [h1]; exact fun e => hc 70 (by decide) (by decide) (List.cons.inj e).1), if_pos p2, p1]
theorem read_quoted {t : List UInt8} (h : t.length ≤ 200) : readL (39 :: t) = valR ⟨3, 0, str t⟩ := by
  unfold readL
  rw [if_neg (by simp only [List.length_cons]; omega), if_neg (List.cons_ne_nil _ _), if_neg (show ¬ (39 :: t).head? = some 61 from fun e => absurd (Option.some.inj e) (by decide)),
    if_neg (show ¬ 39 :: t = trueL from fun e => absurd (List.cons.inj e).1 (by decide)), if_neg (show ¬ 39 :: t = falseL from fun e => absurd (List.cons.inj e).1 (by decide)), if_neg (by rw [not_num (by decide) (by decide)]; decide)]
  show asText t = _
  unfold asText
  rw [if_neg (by omega)]
theorem read_true : readL trueL = valR ⟨1, 1, nos⟩ := by
  unfold readL
  rw [if_neg (by decide), if_neg (by decide), if_neg (by decide), if_pos rfl]
theorem read_false : readL falseL = valR ⟨1, 0, nos⟩ := by
  unfold readL
  rw [if_neg (by decide), if_neg (by decide), if_neg (by decide), if_neg (by decide), if_pos rfl]
theorem read_form {t : List UInt8} {a : Nd} (hp : parseL t = ⟨a, 0, 0⟩) (hl : t.length ≤ 299) : readL (61 :: t) = formR a := by
  unfold readL
  rw [if_neg (by simp only [List.length_cons]; omega), if_neg (List.cons_ne_nil _ _), if_pos (show (61 :: t).head? = some 61 from rfl)]
  rw [show (61 :: t).tail = t from rfl, hp, if_pos rfl]
theorem str_id (s : ByteArray) : str s.data.toList = s := str_list s
theorem i64_of_small {n : Int} (h : n = 0 ∨ n = 1) : I64 n := by unfold I64; omega
theorem read_ok {s : List UInt8} (h : (readL s).err = 0) : (s = [] ∧ readL s = noneR 0 0) ∨ (∃ t, s = 61 :: t ∧ (parseL t).err = 0 ∧ readL s = formR (parseL t).nd) ∨
    (∃ v, readL s = valR v ∧ GoodP v ∧ v.k ≠ 0 ∧ v.k ≠ 4 ∧ I64 v.n) := by
  unfold readL at h ⊢
  by_cases h1 : 300 < s.length
  · rw [if_pos h1] at h; exact absurd h (by decide)
  rw [if_neg h1] at h ⊢
  by_cases h2 : s = []
  · rw [if_pos h2]; exact Or.inl ⟨h2, rfl⟩
  rw [if_neg h2] at h ⊢
  by_cases h3 : s.head? = some 61
  · rw [if_pos h3] at h ⊢
    obtain ⟨c, t, rfl⟩ := List.exists_cons_of_ne_nil h2
    obtain rfl : c = 61 := Option.some.inj h3
    have h' : (if (parseL t).err = 0 then formR (parseL t).nd else noneR ((parseL t).at_ + 1) (parseL t).err).err = 0 := h
    by_cases h4 : (parseL t).err = 0
    · exact Or.inr (Or.inl ⟨t, rfl, h4, if_pos h4⟩)
    · rw [if_neg h4] at h'; exact absurd h' h4
  rw [if_neg h3] at h ⊢
  refine Or.inr (Or.inr ?_)
  by_cases h4 : s = trueL
  · rw [if_pos h4]; exact ⟨_, rfl, Or.inr (Or.inl ⟨rfl, Or.inr rfl, rfl⟩), by decide, by decide, i64_of_small (Or.inr rfl)⟩
  rw [if_neg h4] at h ⊢
  by_cases h5 : s = falseL
  · rw [if_pos h5]; exact ⟨_, rfl, Or.inr (Or.inl ⟨rfl, Or.inl rfl, rfl⟩), by decide, by decide, i64_of_small (Or.inl rfl)⟩
  rw [if_neg h5] at h ⊢
  by_cases h6 : parseB s = true
  · rw [if_pos h6]; exact ⟨_, rfl, Or.inr (Or.inr (Or.inl ⟨rfl, rfl⟩)), by show (2 : Int) ≠ 0; decide, by show (2 : Int) ≠ 4; decide, parseN_i64 s⟩
  rw [if_neg h6] at h ⊢
  unfold asText at h ⊢
  by_cases h7 : 200 < (unq s).length
  · rw [if_pos h7] at h; exact absurd h (by decide)
  · rw [if_neg h7]; exact ⟨_, rfl, Or.inr (Or.inr (Or.inr (Or.inl ⟨rfl, rfl, by rw [str_size]; omega⟩))), by show (3 : Int) ≠ 0; decide, by show (3 : Int) ≠ 4; decide, i64_of_small (Or.inl rfl)⟩
theorem value_back {v : Val} (hg : GoodP v) (h0 : v.k ≠ 0) (h4 : v.k ≠ 4) (hn : I64 v.n) : readL (valueL v) = valR v := by
  obtain ⟨k, n, s⟩ := v
  unfold valueL
  rcases hg with ⟨h, -⟩ | ⟨rfl, h, hs⟩ | ⟨rfl, hs⟩ | ⟨rfl, h, hs⟩ | ⟨h, -⟩
  · exact absurd h h0
  · simp only at h hs
    obtain rfl := size_nos hs
    rw [if_pos (by show (1 : Int) ≠ 3; decide)]
    unfold showL
    rw [if_pos (goodB_t (Or.inr (Or.inl ⟨rfl, h, hs⟩))), if_pos rfl]
    rcases h with rfl | rfl
    · rw [if_neg (by decide)]; exact read_false
    · rw [if_pos rfl]; exact read_true
  · simp only at hs hn
    obtain rfl := size_nos hs
    rw [if_pos (by show (2 : Int) ≠ 3; decide)]
    unfold showL
    rw [if_pos (goodB_t (Or.inr (Or.inr (Or.inl ⟨rfl, hs⟩)))), if_neg (by show ¬ (2 : Int) = 1; decide), if_pos rfl]
    exact read_num hn
  · simp only at h hs
    subst h
    rw [if_neg (fun h => h rfl)]
    by_cases hb : selfB s.data.toList = true
    · rw [if_pos hb]
      unfold selfB at hb
      obtain ⟨b1, b2, b3⟩ := of_decide_eq_true hb
      rcases read_ok b1 with ⟨-, e⟩ | ⟨t, -, -, e⟩ | ⟨v, e, -⟩
      · rw [e] at b2; exact absurd b2 (by decide)
      · rw [e] at b2; exact absurd b2 (by show ¬ (2 : Int) = 1; decide)
      · show readL s.data.toList = _
        rw [e] at b3 ⊢
        rw [str_id] at b3
        exact congrArg valR b3
    · rw [if_neg hb]
      show readL (39 :: s.data.toList) = _
      rw [read_quoted (by have : s.size = s.data.toList.length := by show s.data.size = _; simp
                          omega), str_id]
  · exact absurd h h4
theorem write_val {v : Val} (hg : GoodP v) (h0 : v.k ≠ 0) (h4 : v.k ≠ 4) : writeL 1 v zeroN = ⟨valueL v, 0⟩ := by
  unfold writeL
  rw [if_neg (by decide), if_pos rfl, if_pos ⟨rfl, hg, h0, h4⟩]
theorem write_val_ok {v : Val} {a : Nd} (h : (writeL 1 v a).err = 0) : a = zeroN ∧ GoodP v ∧ v.k ≠ 0 ∧ v.k ≠ 4 := by
  unfold writeL at h
  rw [if_neg (by decide), if_pos rfl] at h
  by_cases hc : a = zeroN ∧ GoodP v ∧ v.k ≠ 0 ∧ v.k ≠ 4
  · exact hc
  · rw [if_neg hc] at h; exact absurd h (by decide)
theorem write_back {v : Val} (hn : I64 v.n) (h : (writeL 1 v zeroN).err = 0) : readL (writeL 1 v zeroN).s = valR v := by
  obtain ⟨-, h1, h2, h3⟩ := write_val_ok h
  rw [write_val h1 h2 h3]
  exact value_back h1 h2 h3 hn
theorem text_back {a : Nd} (h : (textR a).err = 0) (hw : a.all wideB = true) : parseL (textR a).s = ⟨a, 0, 0⟩ := by
  obtain ⟨h1, h2, h3⟩ := textR_zero h
  obtain ⟨g1, g2, g3⟩ := good_parts h1
  rw [h3]; exact print_parse a g3 hw g2 h2
theorem clean_ok {s : List UInt8} (h : (cleanL s).err = 0) : (readL s).err = 0 ∧ (writeL (readL s).k (readL s).v (readL s).nd).err = 0 ∧ cleanL s = ⟨(writeL (readL s).k (readL s).v (readL s).nd).s, 0, 0⟩ := by
  unfold cleanL at h ⊢
  by_cases h0 : (readL s).err = 0
  · rw [if_pos h0] at h ⊢; exact ⟨h0, h, by rw [show (writeL (readL s).k (readL s).v (readL s).nd).err = 0 from h]⟩
  · rw [if_neg h0] at h; exact absurd h h0
theorem clean_read {s : List UInt8} (h : (cleanL s).err = 0) : readL (cleanL s).s = readL s := by
  obtain ⟨h0, h1, h2⟩ := clean_ok h
  rw [h2]
  show readL (writeL (readL s).k (readL s).v (readL s).nd).s = readL s
  rcases read_ok h0 with ⟨-, e⟩ | ⟨t, -, ht, e⟩ | ⟨v, e, g1, g2, g3, g4⟩
  · rw [e]
    show readL (writeL 0 zeroV zeroN).s = noneR 0 0
    unfold writeL
    rw [if_pos rfl, if_pos ⟨rfl, rfl⟩]
    rfl
  · rw [e] at h1 ⊢
    have h1' : (writeL 2 zeroV (parseL t).nd).err = 0 := h1
    show readL (writeL 2 zeroV (parseL t).nd).s = _
    have hw := (parse_wide ht).1
    generalize (parseL t).nd = a at *
    unfold writeL at h1' ⊢
    rw [if_neg (by decide), if_neg (by decide), if_pos rfl, if_pos rfl] at h1' ⊢
    by_cases herr : (textR a).err = 0
    · rw [if_pos herr] at h1' ⊢
      by_cases hl : 299 < (textR a).s.length
      · rw [if_pos hl] at h1'; exact absurd h1' (by decide)
      · rw [if_neg hl]; exact read_form (text_back herr hw) (by omega)
    · rw [if_neg herr] at h1'; exact absurd h1' herr
  · rw [e]
    show readL (writeL 1 v zeroN).s = _
    rw [write_val g1 g2 g3]
    exact value_back g1 g2 g3 g4
theorem clean_clean {s : List UInt8} (h : (cleanL s).err = 0) : cleanL (cleanL s).s = ⟨(cleanL s).s, 0, 0⟩ := by
  have hr := clean_read h
  obtain ⟨h0, h1, h2⟩ := clean_ok h
  have e : cleanL (cleanL s).s = cleanL s := by
    show (if (readL (cleanL s).s).err = 0 then _ else _) = (if (readL s).err = 0 then _ else _)
    rw [hr]
  rw [e]
  exact h2.trans (by rw [h2])
theorem clean_bad {s : List UInt8} (h : (cleanL s).err ≠ 0) : (cleanL s).s = [] := by
  unfold cleanL at h ⊢
  by_cases h0 : (readL s).err = 0
  · rw [if_pos h0] at h ⊢
    have h' : (writeL (readL s).k (readL s).v (readL s).nd).err ≠ 0 := h
    show (writeL (readL s).k (readL s).v (readL s).nd).s = []
    unfold writeL at h' ⊢
    repeat (first | rfl | exact absurd rfl h' | split at h' <;> rename_i hz <;> first | rw [if_pos hz] | rw [if_neg hz])
  · rw [if_neg h0]
end Go.Proofs.YticehalcnbjccaaGreatDoor.SourceC
namespace Go.Proofs.YticehalcnbjccaaGreatDoor.SourceC
set_option linter.unusedVariables false
set_option linter.unusedSimpArgs false
open Go.RowKit Go.Extern.Stop Go.Stop Go.Extern Go.Proofs.YticehalcnbjccaaGreatDoor.NumC Go.Proofs.YticehalcnbjccaaGreatDoor.LexC Go.Proofs.YticehalcnbjccaaGreatDoor.TreeC
theorem M_valueOfT (t : Addr) (w : World) : (ReflectliteValue.unpack (.iface 74 (.pointer (some t)))).run Tryz.prog w = .ok (.agg #[hnd 74, .pointer (some ⟨w.heap.size, 0, none⟩), .int .u64 150]) (w.alloc (.cells #[.pointer (some t)] 74)) := by kernel_rfl
theorem M_typeT (a : Addr) (w : World) : (ReflectliteValue.methodAny (ReflectliteValue.valueError "reflectlite.Value.Type" 0) (fun t _ _ _ => ReflectliteType.toType t) #[.agg #[hnd 74, .pointer (some a), .int .u64 150]]).run Tryz.prog w = .ok (.iface 137 (.agg #[hnd 74])) w := by kernel_rfl
theorem M_kindT (w : World) : ((ReflectliteType.abiMethod fun t => (fun a : Nat => Value.int IntKind.u8 (a : Int)) <$> Rtype.kind t) #[hnd 74]).run Tryz.prog w = .ok (.int .u8 22) w := by kernel_rfl
theorem M_kindE (w : World) : ((ReflectliteType.abiMethod fun t => (fun a : Nat => Value.int IntKind.u8 (a : Int)) <$> Rtype.kind t) #[hnd 72]).run Tryz.prog w = .ok (.int .u8 25) w := by kernel_rfl
theorem M_partsT (a : Addr) (w : World) : (ReflectliteValue.parts (.agg #[hnd 74, .pointer (some a), .int .u64 150])).run Tryz.prog w = .ok (some (74, a, 150)) w := by kernel_rfl
theorem M_isNilT (a p : Addr) (W : World) (ha : W.cell? a = some (.pointer (some p))) :
    (ReflectliteValue.method (ReflectliteValue.valueError "reflectlite.Value.IsNil" 0) ReflectliteValue.isNil #[.agg #[hnd 74, .pointer (some a), .int .u64 150]]).run Tryz.prog W = .ok (.bool false) W := by
  rw [rl_m]
  simp only [Sem.run_bind, M_partsT, Result.andThen]
  simp [ReflectliteValue.isNil, loadVar, isAgg, underlying, Tryz.underlying74, ha, Result.andThen]
theorem M_elemT (w : World) : (ReflectliteType.method ReflectliteType.elem #[.agg #[hnd 74]]).run Tryz.prog w = .ok (.iface 137 (.agg #[hnd 72])) w := by kernel_rfl
theorem M_implements (w : World) : (ReflectliteType.relation "Implements" ReflectliteType.implements_ #[.agg #[hnd 72], .iface 137 (.agg #[hnd 53])]).run Tryz.prog w = .ok (.bool true) w := by kernel_rfl
theorem M_typeOf (v : Value) (w : World) : (ReflectliteType.typeOf #[.iface 72 v]).run Tryz.prog w = .ok (.iface 137 (.agg #[hnd 72])) w := by kernel_rfl
theorem M_assignable (w : World) : (ReflectliteType.relation "AssignableTo" ReflectliteType.assignableTo #[.agg #[hnd 72], .iface 137 (.agg #[hnd 72])]).run Tryz.prog w = .ok (.bool true) w := by kernel_rfl
theorem M_elemOf (w : World) : (Rtype.elem? 74).run Tryz.prog w = .ok (some 72) w := by kernel_rfl
theorem M_mk (p : Addr) (w : World) : (ReflectliteValue.mk 72 p ReflectliteValue.flagAddr).run Tryz.prog w = .ok (.agg #[hnd 72, .pointer (some p), .int .u64 409]) w := by kernel_rfl
theorem M_elemV (a p : Addr) (W : World) (ha : W.cell? a = some (.pointer (some p))) :
    (ReflectliteValue.method (ReflectliteValue.valueError "reflectlite.Value.Elem" 0) ReflectliteValue.elem #[.agg #[hnd 74, .pointer (some a), .int .u64 150]]).run Tryz.prog W = .ok (.agg #[hnd 72, .pointer (some p), .int .u64 409]) W := by
  rw [rl_m]
  simp only [Sem.run_bind, M_partsT, Result.andThen]
  simp [ReflectliteValue.elem, loadVar, isAgg, underlying, Tryz.underlying74, ha, Result.andThen, M_elemOf, M_mk]
theorem M_partsA (a : Addr) (w : World) : (ReflectliteValue.parts (.agg #[hnd 72, .pointer (some a), .int .u64 409])).run Tryz.prog w = .ok (some (72, a, 409)) w := by kernel_rfl
theorem M_parts (a : Addr) (w : World) : (ReflectliteValue.parts (.agg #[hnd 72, .pointer (some a), .int .u64 153])).run Tryz.prog w = .ok (some (72, a, 153)) w := by kernel_rfl
theorem M_direct (w : World) : (Rtype.directlyAssignable 72 72).run Tryz.prog w = .ok true w := by kernel_rfl
theorem M_valueOf (a n : Int) (w : World) : (ReflectliteValue.unpack (.iface 72 (.agg #[.int .i64 a, .int .i64 n]))).run Tryz.prog w = .ok (.agg #[hnd 72, .pointer (some ⟨w.heap.size, 0, none⟩), .int .u64 153]) (w.alloc (.cells #[.int .i64 a, .int .i64 n] 72)) := by kernel_rfl
theorem not_assignable_M (w : World) : (ReflectliteType.relation "AssignableTo" ReflectliteType.assignableTo #[.agg #[hnd 34], .iface 137 (.agg #[hnd 72])]).run Tryz.prog w = .ok (.bool false) w := by kernel_rfl
theorem M_set (tb bb : Nat) (a n a0 n0 : Int) (W : World) (hb : W.cell? ⟨bb, 0, none⟩ = some (.int .i64 a)) (hb1 : W.cell? ⟨bb, 1, none⟩ = some (.int .i64 n)) (ht : W.cell? ⟨tb, 0, none⟩ = some (.int .i64 a0)) (ht1 : W.cell? ⟨tb, 1, none⟩ = some (.int .i64 n0)) (hf : W.frozen? ⟨tb, 0, none⟩ = false) (hf1 : W.frozen? ⟨tb, 1, none⟩ = false) :
    (ReflectliteValue.set #[.agg #[hnd 72, .pointer (some ⟨tb, 0, none⟩), .int .u64 409], .agg #[hnd 72, .pointer (some ⟨bb, 0, none⟩), .int .u64 153]]).run Tryz.prog W = .ok (.tuple #[]) ((W.setCell ⟨tb, 0, none⟩ (.int .i64 a)).setCell ⟨tb, 1, none⟩ (.int .i64 n)) := by
  rw [rl_s]
  simp only [Sem.run_bind, M_partsA, M_parts, Result.andThen]
  simp [ReflectliteValue.flagAddr, loadVar, isAgg, underlying, Tryz.underlying72, Result.andThen, M_direct, storeVar, Value.cells, storeCells, Addr.add]
  simp [go_sem, loadCells, loadCellsFrom, hb, hb1, ht, ht1, hf, hf1]
theorem un_M (v : Value) (w : World) : (Instr.typeAssert (.iface 72 v) 53 144 true).run Tryz.prog w = .ok (.tuple #[.iface 72 v, .bool true]) w := run_typeAssert_hasB Tryz.underlying144 (by kernel_rfl) v _ w
theorem m_unwrap_M (a n : Value) (w : World) : (Go.method 394 72 (.agg #[a, n]) "Unwrap").run Tryz.prog w = .ok (252, .agg #[a, n]) w := by kernel_rfl
set_option maxRecDepth 100000 in
set_option maxHeartbeats 1000000 in
theorem as_M (a n a0 n0 : Int) (tb : Nat) (va : Addr) (t : Value) (w : World) (hv : w.cell? va = some (.pointer (some ⟨tb, 0, none⟩))) (ht : w.cell? ⟨tb, 0, none⟩ = some (.int .i64 a0)) (ht1 : w.cell? ⟨tb, 1, none⟩ = some (.int .i64 n0)) (hf : w.frozen? ⟨tb, 0, none⟩ = false) (hf1 : w.frozen? ⟨tb, 1, none⟩ = false) :
    Calls Tryz.prog 50 #[.iface 72 (.agg #[.int .i64 a, .int .i64 n]), t, .agg #[hnd 74, .pointer (some va), .int .u64 150], .iface 137 (.agg #[hnd 72])] w fun e w' => e = .returned (.bool true) ∧ Kept tb w w' ∧
      w'.cell? ⟨tb, 0, none⟩ = some (.int .i64 a) ∧ w'.cell? ⟨tb, 1, none⟩ = some (.int .i64 n) := by
  have x0 := @run_callFunc_extern Tryz.prog 51 _ ReflectliteType.typeOf Tryz.func51 (by kernel_rfl) (by kernel_rfl) (by kernel_rfl) (by kernel_rfl)
  have x1 := @run_callFunc_extern Tryz.prog 257 _ (ReflectliteType.relation "AssignableTo" ReflectliteType.assignableTo) Tryz.func257 (by kernel_rfl) (by kernel_rfl) (by kernel_rfl) (by kernel_rfl)
  have x2 := @run_callFunc_extern Tryz.prog 77 _ (ReflectliteValue.method (ReflectliteValue.valueError "reflectlite.Value.Elem" 0) ReflectliteValue.elem) Tryz.func77 (by kernel_rfl) (by kernel_rfl) (by kernel_rfl) (by kernel_rfl)
  have x3 := @run_callFunc_extern Tryz.prog 47 _ (fun args => ReflectliteValue.unpack (args.getD 0 (.tuple #[]))) Tryz.func47 (by kernel_rfl) (by kernel_rfl) (by kernel_rfl) (by kernel_rfl)
  have x4 := @run_callFunc_extern Tryz.prog 78 _ ReflectliteValue.set Tryz.func78 (by kernel_rfl) (by kernel_rfl) (by kernel_rfl) (by kernel_rfl)
  have tO := M_typeOf
  have mA := m_assignable
  have aP := M_assignable
  have vO := M_valueOf
  have hva : va.block < w.heap.size := World.block_lt_of_cell? w _ hv
  have htb : tb < w.heap.size := World.block_lt_of_cell? w _ ht
  have eV := M_elemV va ⟨tb, 0, none⟩ (w.alloc (.cells #[hnd 74, .pointer (some va), .int .u64 150] 102)) (by rw [World.cell?_alloc_lt _ _ va hva]; exact hv)
  have q := fun i => a2_old htb (.cells #[hnd 74, .pointer (some va), .int .u64 150] 102) (.cells #[.int .i64 a, .int .i64 n] 72) i
  have st := M_set tb (w.heap.size + 1) a n a0 n0 ((w.alloc (.cells #[hnd 74, .pointer (some va), .int .u64 150] 102)).alloc (.cells #[.int .i64 a, .int .i64 n] 72)) (by simp) (by simp) ((q 0).1.trans ht) ((q 1).1.trans ht1) ((q 0).2.trans hf) ((q 1).2.trans hf1)
  clear q
  go_enter Tryz.func50, Tryz.ntmps50
  go_wp2
  refine wp_loop_rounds 1 ?_
  rw [rounds_succ]
  go_wp2
  go_ret
  refine ⟨rfl, ?_, ?_, ?_⟩
  · repeat (first | with_reducible exact Kept.refl _ _ | with_reducible refine Kept.setCell ?_ _ _ | with_reducible refine Kept.alloc ?_ _)
  · exact (((Kept.refl w.heap.size _).alloc _).alloc _).cell (by omega) (by simp [go_sem, ht])
  · exact (((Kept.refl w.heap.size _).alloc _).alloc _).cell (by omega) (by simp [go_sem, ht1])
set_option maxRecDepth 100000 in
set_option maxHeartbeats 1000000 in
theorem as_EM (n : Int) (va : Value) (t : Value) (w : World) :
    Calls Tryz.prog 50 #[.iface 34 (.int .i64 n), t, .agg #[hnd 74, va, .int .u64 150], .iface 137 (.agg #[hnd 72])] w fun e w' => e = .returned (.bool false) ∧ Below w.heap.size w w' := by
  have x0 := @run_callFunc_extern Tryz.prog 51 _ ReflectliteType.typeOf Tryz.func51 (by kernel_rfl) (by kernel_rfl) (by kernel_rfl) (by kernel_rfl)
  have x1 := @run_callFunc_extern Tryz.prog 257 _ (ReflectliteType.relation "AssignableTo" ReflectliteType.assignableTo) Tryz.func257 (by kernel_rfl) (by kernel_rfl) (by kernel_rfl) (by kernel_rfl)
  have tO := E_typeOf
  have mA := m_assignable
  have aP := not_assignable_M
  have n1 := no_as_E
  have n2 := no_un_E
  have n3 := no_us_E
  go_enter Tryz.func50, Tryz.ntmps50
  go_wp2
  refine wp_loop_rounds 1 ?_
  rw [rounds_succ]
  go_wp2
  go_ret
  exact ⟨rfl, (Below.refl _ _).alloc (Nat.le_refl _) _⟩
set_option maxRecDepth 100000 in
set_option maxHeartbeats 1000000 in
theorem unwrap_M (a n : Int) (w : World) : Calls Tryz.prog 252 #[.agg #[.int .i64 a, .int .i64 n]] w fun e w' => e = .returned (.iface 34 (.int .i64 n)) ∧ w' = w.alloc (.cells #[.int .i64 a, .int .i64 n] 72) := by
  go_enter Tryz.func252, Tryz.ntmps252
  go_wp2
  go_ret
  exact ⟨rfl, rfl⟩
set_option maxRecDepth 100000 in
set_option maxHeartbeats 1000000 in
theorem M_As (T : TypeId) (u : Value) (tb : Nat) (b : Bool) (R : World → Prop) (w : World) (hg : ErrT w) (htb : tb < w.heap.size)
    (h : ∀ w' (va : Addr) (t : Value), Below w.heap.size w w' → w'.cell? va = some (.pointer (some ⟨tb, 0, none⟩)) → w.heap.size ≤ va.block →
      Calls Tryz.prog 50 #[.iface T u, t, .agg #[hnd 74, .pointer (some va), .int .u64 150], .iface 137 (.agg #[hnd 72])] w' fun e w'' => e = .returned (.bool b) ∧ R w'') :
    Calls Tryz.prog 27 #[.iface T u, .iface 74 (.pointer (some ⟨tb, 0, none⟩))] w fun e w' => e = .returned (.bool b) ∧ R w' := by
  have x0 := @run_callFunc_extern Tryz.prog 47 _ (fun args => ReflectliteValue.unpack (args.getD 0 (.tuple #[]))) Tryz.func47 (by kernel_rfl) (by kernel_rfl) (by kernel_rfl) (by kernel_rfl)
  have x1 := @run_callFunc_extern Tryz.prog 48 _ (ReflectliteValue.methodAny (ReflectliteValue.valueError "reflectlite.Value.Type" 0) (fun t _ _ _ => ReflectliteType.toType t)) Tryz.func48 (by kernel_rfl) (by kernel_rfl) (by kernel_rfl) (by kernel_rfl)
  have x2 := @run_callFunc_extern Tryz.prog 49 _ (ReflectliteValue.method (ReflectliteValue.valueError "reflectlite.Value.IsNil" 0) ReflectliteValue.isNil) Tryz.func49 (by kernel_rfl) (by kernel_rfl) (by kernel_rfl) (by kernel_rfl)
  have x3 := @run_callFunc_extern Tryz.prog 246 _ (ReflectliteType.abiMethod fun t => do pure (.int .u8 (← Rtype.kind t))) Tryz.func246 (by kernel_rfl) (by kernel_rfl) (by kernel_rfl) (by kernel_rfl)
  have x4 := @run_callFunc_extern Tryz.prog 259 _ (ReflectliteType.method ReflectliteType.elem) Tryz.func259 (by kernel_rfl) (by kernel_rfl) (by kernel_rfl) (by kernel_rfl)
  have x5 := @run_callFunc_extern Tryz.prog 260 _ (ReflectliteType.relation "Implements" ReflectliteType.implements_) Tryz.func260 (by kernel_rfl) (by kernel_rfl) (by kernel_rfl) (by kernel_rfl)
  have vT := M_valueOfT
  have tT := M_typeT
  have mK := m_kind
  have mE := m_elem
  have mI := m_implements
  have kT := M_kindT
  have kE := M_kindE
  have eT := M_elemT
  have iE := M_implements
  have h0 : 0 < w.heap.size := World.block_lt_of_cell? w _ hg
  have nI := M_isNilT ⟨w.heap.size, 0, none⟩ ⟨tb, 0, none⟩ ((w.alloc (.cells #[.pointer (some ⟨tb, 0, none⟩)] 74)).alloc (.cells #[hnd 74, .pointer (some ⟨w.heap.size, 0, none⟩), .int .u64 150] 102)) (by simp)
  have hB : Below w.heap.size w ((w.alloc (.cells #[.pointer (some ⟨tb, 0, none⟩)] 74)).alloc (.cells #[hnd 74, .pointer (some ⟨w.heap.size, 0, none⟩), .int .u64 150] 102)) := ((Below.refl _ _).alloc (Nat.le_refl _) _).alloc (by simp) _
  have hg2 : ((w.alloc (.cells #[.pointer (some ⟨tb, 0, none⟩)] 74)).alloc (.cells #[hnd 74, .pointer (some ⟨w.heap.size, 0, none⟩), .int .u64 150] 102)).cell? ⟨0, 0, none⟩ = some (.iface 137 (.agg #[hnd 53])) := cell_later hB hg
  have HH := Lib.hid h
  clear h
  unfold hnd at vT tT kT kE eT iE nI hg2 hB HH
  have hva : ((w.alloc (.cells #[.pointer (some ⟨tb, 0, none⟩)] 74)).alloc (.cells #[.pointer (some ⟨10, 74, none⟩), .pointer (some ⟨w.heap.size, 0, none⟩), .int .u64 150] 102)).cell? ⟨w.heap.size, 0, none⟩ = some (.pointer (some ⟨tb, 0, none⟩)) := by simp
  go_enter Tryz.func27, Tryz.ntmps27
  go_wp2_with (go_at_call 50; refine (HH.out _ ⟨w.heap.size, 0, none⟩ _ hB hva (Nat.le_refl _)).mono ?_; rintro e w2 ⟨rfl, hR⟩)
  go_ret
  exact ⟨rfl, hR⟩
end Go.Proofs.YticehalcnbjccaaGreatDoor.SourceC
namespace Go.Proofs.YticehalcnbjccaaGreatDoor.SourceC
set_option linter.unusedVariables false
set_option linter.unusedSimpArgs false
open Go.RowKit Go.Extern.Stop Go.Stop Go.Extern Go.Proofs.YticehalcnbjccaaGreatDoor.NumC Go.Proofs.YticehalcnbjccaaGreatDoor.LexC Go.Proofs.YticehalcnbjccaaGreatDoor.TreeC
theorem I_typeOf (v : Value) (w : World) : (Extern.ReflectliteType.typeOf #[.iface 34 v]).run Tryz.prog w = .ok (.iface 137 (.agg #[hnd 34])) w := by kernel_rfl
theorem I_comparable (w : World) : ((Extern.ReflectliteType.method fun t => do Rtype.noPackHeld "Comparable" t; (fun a => Value.bool a.comparable) <$> typeInfo t) #[.agg #[hnd 34]]).run Tryz.prog w = .ok (.bool true) w := by kernel_rfl
theorem I_m (v : Value) (w : World) : (Go.method 394 137 v "Comparable").run Tryz.prog w = .ok (258, v) w := by kernel_rfl
theorem I_comp : (Tryz.prog.info? 34).map (·.comparable) = some true := by kernel_rfl
theorem no_is_E (v : Value) (xT : TypeId) (w : World) : (Instr.typeAssert (.iface 34 v) xT 149 true).run Tryz.prog w = .ok (.tuple #[.nilIface, .bool false]) w := run_typeAssert_lacksB Tryz.underlying149 (by kernel_rfl) (by kernel_rfl) v xT w
theorem no_is_M (v : Value) (xT : TypeId) (w : World) : (Instr.typeAssert (.iface 72 v) xT 149 true).run Tryz.prog w = .ok (.tuple #[.nilIface, .bool false]) w := run_typeAssert_lacksB Tryz.underlying149 (by kernel_rfl) (by kernel_rfl) v xT w
theorem eq_E (a b : Int) (w : World) : (binOp .eql 53 (.iface 34 (.int .i64 a)) (.iface 34 (.int .i64 b))).run Tryz.prog w = .ok (.bool (a == b)) w := by
  obtain ⟨i, hi, hcmp⟩ := Option.map_eq_some_iff.1 I_comp
  have h : ∀ d : Nat, (Op.equalIn (d + 2) 53 (.iface 34 (.int .i64 a)) (.iface 34 (.int .i64 b))).run Tryz.prog w = .ok (a == b) w := fun d => by
    simp [Op.equalIn, run_underlying Tryz.underlying53, run_underlying Tryz.underlying34, typeInfo, hi, hcmp]
  simp only [binOp]
  simp [Op.equal, Op.maxDepth, h 9998]
set_option maxRecDepth 100000 in
set_option maxHeartbeats 1000000 in
theorem is_nil (n : Int) (w : World) : Calls Tryz.prog 28 #[.nilIface, .iface 34 (.int .i64 n)] w fun e w' => e = .returned (.bool false) ∧ w' = w := by
  have hn := run_eql_iface_nil_left (P := Tryz.prog) w 34 (.int .i64 n) Tryz.underlying53
  go_enter Tryz.func28, Tryz.ntmps28
  go_wp2
  go_ret
  exact ⟨rfl, rfl⟩
set_option maxRecDepth 100000 in
set_option maxHeartbeats 1000000 in
theorem is_E (a n : Int) (w : World) : Calls Tryz.prog 28 #[.iface 34 (.int .i64 a), .iface 34 (.int .i64 n)] w fun e w' => e = .returned (.bool (a == n)) ∧ Below w.heap.size w w' := by
  have h8 := @run_callFunc_extern Tryz.prog 51 _ Extern.ReflectliteType.typeOf Tryz.func51 (by kernel_rfl) (by kernel_rfl) (by kernel_rfl) (by kernel_rfl)
  have h32 := @run_callFunc_extern Tryz.prog 258 _ (Extern.ReflectliteType.method fun t => do Rtype.noPackHeld "Comparable" t; pure (.bool (← typeInfo t).comparable)) Tryz.func258 (by kernel_rfl) (by kernel_rfl) (by kernel_rfl) (by kernel_rfl)
  have tT := I_typeOf
  have cT := I_comparable
  have mR := I_m
  have n1 := no_is_E
  have n2 := no_un_E
  have n3 := no_us_E
  have q := eq_E a n
  cases hb : a == n <;> rw [hb] at q
  all_goals
    go_enter Tryz.func28, Tryz.ntmps28
    go_wp2
    refine wp_loop_rounds 1 ?_
    rw [rounds_succ]
    go_wp2
    go_ret
    exact ⟨rfl, Below.refl _ _⟩
set_option maxRecDepth 100000 in
set_option maxHeartbeats 1000000 in
theorem is_M (p a n : Int) (w : World) : Calls Tryz.prog 28 #[.iface 72 (.agg #[.int .i64 p, .int .i64 a]), .iface 34 (.int .i64 n)] w fun e w' => e = .returned (.bool (a == n)) ∧ Below w.heap.size w w' := by
  have h8 := @run_callFunc_extern Tryz.prog 51 _ Extern.ReflectliteType.typeOf Tryz.func51 (by kernel_rfl) (by kernel_rfl) (by kernel_rfl) (by kernel_rfl)
  have h32 := @run_callFunc_extern Tryz.prog 258 _ (Extern.ReflectliteType.method fun t => do Rtype.noPackHeld "Comparable" t; pure (.bool (← typeInfo t).comparable)) Tryz.func258 (by kernel_rfl) (by kernel_rfl) (by kernel_rfl) (by kernel_rfl)
  have tT := I_typeOf
  have cT := I_comparable
  have mR := I_m
  have n1 := no_is_E
  have n2 := no_un_E
  have n3 := no_us_E
  have n4 := no_is_M
  have n5 := un_M
  have mU := m_unwrap_M
  have q := eq_E a n
  have hty := fun W => run_eql_iface_types (P := Tryz.prog) 72 34 (.agg #[.int .i64 p, .int .i64 a]) (.int .i64 n) Tryz.underlying53 (by decide) W
  cases hb : a == n <;> rw [hb] at q
  all_goals
    go_enter Tryz.func28, Tryz.ntmps28
    go_wp2
    refine wp_loop_rounds 2 ?_
    rw [rounds_succ]
    go_wp2_with fail
    refine (unwrap_M p a w).mono ?_; rintro e w2 ⟨rfl, rfl⟩
    go_wp2_with fail
    rw [rounds_succ]
    go_wp2
    go_ret
    exact ⟨rfl, (Below.refl _ _).alloc (Nat.le_refl _) _⟩
end Go.Proofs.YticehalcnbjccaaGreatDoor.SourceC
namespace Go.Proofs.YticehalcnbjccaaGreatDoor.SourceC
set_option linter.unusedVariables false
set_option linter.unusedSimpArgs false
open Go.RowKit Go.Proofs.YticehalcnbjccaaGreatDoor.NumC Go.Proofs.YticehalcnbjccaaGreatDoor.TreeC Go.Proofs.YticehalcnbjccaaGreatDoor.PrintC
def OneE (n : Int) : Prop := n = 2 ∨ n = 11 ∨ n = 12 ∨ n = 13 ∨ n = 14
inductive ErrV : Value → Int → Int → Prop
  | none : ErrV .nilIface 0 0
  | num {n : Int} (h : OneE n) : ErrV (.iface 34 (.int .i64 n)) 0 n
  | at_ {a n : Int} (h : OneE n) : ErrV (.iface 72 (.agg #[.int .i64 a, .int .i64 n])) a n
theorem cutF_err : ∀ (f : Nat) (l : List UInt8) (i : Nat) (acc : List LexC.Tok), (LexC.cutF f l i acc).err = 0 ∨ (LexC.cutF f l i acc).err = 12 := by
  intro f
  induction f with
  | zero => intro l i acc; exact Or.inl rfl
  | succ f ih =>
    intro l i acc
    cases l with
    | nil => exact Or.inl rfl
    | cons c l =>
      rw [LexC.cutF]
      by_cases hc : c = 32
      · rw [if_pos hc]; exact ih l (i + 1) acc
      · rw [if_neg hc]
        cases hn : LexC.nextL (c :: l) with
        | none => exact Or.inr rfl
        | some r => obtain ⟨k, n, s, m⟩ := r; exact ih _ _ _
theorem parse_one (s : List UInt8) : (parseL s).err = 0 ∨ OneE (parseL s).err := by
  unfold parseL
  by_cases h0 : (LexC.cutL s).err ≠ 0
  · rw [if_pos h0]
    refine Or.inr ?_
    show OneE (LexC.cutL s).err
    unfold LexC.cutL at h0 ⊢
    by_cases h3 : 300 < s.length
    · rw [if_pos h3]; exact Or.inl rfl
    · rw [if_neg h3] at h0 ⊢
      rcases cutF_err (s.length + 1) s 0 [] with h | h
      · exact absurd h h0
      · rw [h]; exact Or.inr (Or.inr (Or.inl rfl))
  · rw [if_neg h0]
    cases ht : treeF (LexC.cutL s).toks s.length with
    | ok a =>
      simp only
      by_cases hd : 16 < a.deep
      · rw [if_pos hd]; exact Or.inr (Or.inr (Or.inr (Or.inr (Or.inr rfl))))
      · rw [if_neg hd]; exact Or.inl rfl
    | error e =>
      simp only
      rcases tree_wrong ht with rfl | ⟨j, rfl⟩
      · exact Or.inr (Or.inr (Or.inr (Or.inr (Or.inr rfl))))
      · exact Or.inr (Or.inr (Or.inr (Or.inr (Or.inl rfl))))
set_option maxRecDepth 100000 in
set_option maxHeartbeats 1000000 in
theorem nil_As (v : Value) (w : World) : Calls Tryz.prog 27 #[.nilIface, v] w fun e w' => e = .returned (.bool false) ∧ w' = w := by
  go_enter Tryz.func27, Tryz.ntmps27
  go_wp2
  go_ret
  exact ⟨rfl, rfl⟩
set_option maxRecDepth 100000 in
set_option maxHeartbeats 1000000 in
theorem cwhere {E : Value} {a n : Int} (h : ErrV E a n) (w : World) (hg : ErrT w) :
    Calls Tryz.prog 16 #[E] w fun e w' => e = .returned (.int .i64 a) ∧ Below w.heap.size w w' := by
  have hb1 : Below w.heap.size w (w.alloc (.cells #[.int .i64 0, .int .i64 0] 72)) := (Below.refl _ _).alloc (Nat.le_refl _) _
  cases h with
  | none =>
    go_enter Tryz.func16, Tryz.ntmps16
    go_wp2_with fail
    refine (nil_As _ (w.alloc (.cells #[.int .i64 0, .int .i64 0] 72))).mono ?_; rintro e w2 ⟨rfl, rfl⟩
    go_wp2_with fail
    go_ret
    exact ⟨rfl, hb1⟩
  | num h =>
    go_enter Tryz.func16, Tryz.ntmps16
    go_wp2_with fail
    refine (M_As 34 _ w.heap.size false (fun w' => Below (w.alloc (.cells #[.int .i64 0, .int .i64 0] 72)).heap.size (w.alloc (.cells #[.int .i64 0, .int .i64 0] 72)) w') (w.alloc (.cells #[.int .i64 0, .int .i64 0] 72)) (hg.below hb1) (by simp) (fun w' va t hb hv hge => ?_)).mono ?_
    · refine (as_EM n _ t w').mono ?_
      rintro e w2 ⟨rfl, hb2⟩
      exact ⟨rfl, hb.trans (hb2.mono hb.size)⟩
    · rintro e w2 ⟨rfl, hb2⟩
      have q0 : w2.cell? ⟨w.heap.size, 0, none⟩ = some (.int .i64 0) := cell_later hb2 (by simp)
      go_wp2_with fail
      go_ret
      exact ⟨rfl, hb1.trans (hb2.mono (by simp))⟩
  | at_ h =>
    go_enter Tryz.func16, Tryz.ntmps16
    go_wp2_with fail
    refine (M_As 72 _ w.heap.size true (fun w' => Kept w.heap.size (w.alloc (.cells #[.int .i64 0, .int .i64 0] 72)) w' ∧ w'.cell? ⟨w.heap.size, 0, none⟩ = some (.int .i64 a)) (w.alloc (.cells #[.int .i64 0, .int .i64 0] 72)) (hg.below hb1) (by simp) (fun w' va t hb hv hge => ?_)).mono ?_
    · have hc (i : Nat) (hi : i = 0 ∨ i = 1) : w'.cell? ⟨w.heap.size, i, none⟩ = some (.int .i64 0) := by
        refine cell_later hb ?_
        rcases hi with rfl | rfl <;> simp
      have hf (i : Nat) : w'.frozen? ⟨w.heap.size, i, none⟩ = false := by
        have e := hb.block w.heap.size (by simp)
        rw [heap_alloc_new] at e
        simp [World.frozen?, e]
      refine (as_M a n 0 0 w.heap.size va t w' hv (hc 0 (Or.inl rfl)) (hc 1 (Or.inr rfl)) (hf 0) (hf 1)).mono ?_
      rintro e w2 ⟨rfl, k2, q0, q1⟩
      exact ⟨rfl, (Kept.of hb).trans k2, q0⟩
    · rintro e w2 ⟨rfl, k2, q0⟩
      go_wp2_with fail
      go_ret
      exact ⟨rfl, (((Kept.refl w.heap.size w).alloc _).trans k2).below (Nat.le_refl _)⟩
theorem cis {E : Value} {a n : Int} (h : ErrV E a n) (m : Int) (hm : m ≠ 0) (w : World) : Calls Tryz.prog 28 #[E, .iface 34 (.int .i64 m)] w fun e w' => e = .returned (.bool (n == m)) ∧ Below w.heap.size w w' := by
  cases h with
  | none =>
    refine (is_nil m w).mono ?_; rintro e w2 ⟨rfl, rfl⟩
    exact ⟨by rw [beq_eq_false_iff_ne.2 (fun e => hm e.symm)], Below.refl _ _⟩
  | num h => exact is_E n m w
  | at_ h => exact is_M a n m w
theorem ErrV.one {E : Value} {a n : Int} (h : ErrV E a n) : n = 0 ∨ OneE n := by
  cases h with
  | none => exact Or.inl rfl
  | num h => exact Or.inr h
  | at_ h => exact Or.inr h
theorem ErrV.some {E : Value} {a n : Int} (h : ErrV E a n) (hn : n ≠ 0) : ∃ T u, E = .iface T u := by
  cases h with
  | none => exact absurd rfl hn
  | num h => exact ⟨_, _, rfl⟩
  | at_ h => exact ⟨_, _, rfl⟩
theorem ErrV.nil {E : Value} {a : Int} (h : ErrV E a 0) : E = .nilIface ∧ a = 0 := by
  generalize hn : (0 : Int) = n at h
  cases h with
  | none => exact ⟨rfl, rfl⟩
  | num h => subst hn; exact absurd h (by unfold OneE; decide)
  | at_ h => subst hn; exact absurd h (by unfold OneE; decide)
set_option maxRecDepth 100000 in
set_option maxHeartbeats 4000000 in
theorem cwhy {E : Value} {a n : Int} (h : ErrV E a n) (w : World) :
    Calls Tryz.prog 17 #[E] w fun e w' => e = .returned (.int .i64 n) ∧ Below w.heap.size w w' := by
  have HI := Lib.hid (fun m hm W => cis h m hm W)
  have i0 : ∀ w, (Instr.index 75 (.agg #[.int .i64 2, .int .i64 11, .int .i64 12, .int .i64 13, .int .i64 14]) (.int .i64 0)).run Tryz.prog w = .ok (.int .i64 2) w := fun _ => by kernel_rfl
  have i1 : ∀ w, (Instr.index 75 (.agg #[.int .i64 2, .int .i64 11, .int .i64 12, .int .i64 13, .int .i64 14]) (.int .i64 1)).run Tryz.prog w = .ok (.int .i64 11) w := fun _ => by kernel_rfl
  have i2 : ∀ w, (Instr.index 75 (.agg #[.int .i64 2, .int .i64 11, .int .i64 12, .int .i64 13, .int .i64 14]) (.int .i64 2)).run Tryz.prog w = .ok (.int .i64 12) w := fun _ => by kernel_rfl
  have i3 : ∀ w, (Instr.index 75 (.agg #[.int .i64 2, .int .i64 11, .int .i64 12, .int .i64 13, .int .i64 14]) (.int .i64 3)).run Tryz.prog w = .ok (.int .i64 13) w := fun _ => by kernel_rfl
  have i4 : ∀ w, (Instr.index 75 (.agg #[.int .i64 2, .int .i64 11, .int .i64 12, .int .i64 13, .int .i64 14]) (.int .i64 4)).run Tryz.prog w = .ok (.int .i64 14) w := fun _ => by kernel_rfl
  rcases h.one with rfl | rfl | rfl | rfl | rfl | rfl
  · go_enter Tryz.func17, Tryz.ntmps17
    go_wp2_with fail
    refine wp_loop_rounds 6 ?_
    have B0 := Below.refl w.heap.size w
    rw [rounds_succ]
    go_wp2_with fail
    refine (HI.out 2 (by decide) _).mono ?_; rintro e w1 ⟨rfl, hb1⟩
    have B1 := B0.trans (hb1.mono B0.size)
    rw [show ((0 : Int) == 2) = false from rfl]
    go_wp2_with fail
    rw [rounds_succ]
    go_wp2_with fail
    refine (HI.out 11 (by decide) _).mono ?_; rintro e w2 ⟨rfl, hb2⟩
    have B2 := B1.trans (hb2.mono B1.size)
    rw [show ((0 : Int) == 11) = false from rfl]
    go_wp2_with fail
    rw [rounds_succ]
    go_wp2_with fail
    refine (HI.out 12 (by decide) _).mono ?_; rintro e w3 ⟨rfl, hb3⟩
    have B3 := B2.trans (hb3.mono B2.size)
    rw [show ((0 : Int) == 12) = false from rfl]
    go_wp2_with fail
    rw [rounds_succ]
    go_wp2_with fail
    refine (HI.out 13 (by decide) _).mono ?_; rintro e w4 ⟨rfl, hb4⟩
    have B4 := B3.trans (hb4.mono B3.size)
    rw [show ((0 : Int) == 13) = false from rfl]
    go_wp2_with fail
    rw [rounds_succ]
    go_wp2_with fail
    refine (HI.out 14 (by decide) _).mono ?_; rintro e w5 ⟨rfl, hb5⟩
    have B5 := B4.trans (hb5.mono B4.size)
    rw [show ((0 : Int) == 14) = false from rfl]
    go_wp2_with fail
    rw [rounds_succ]
    go_wp2_with fail
    go_ret
    exact ⟨rfl, B5⟩
  · go_enter Tryz.func17, Tryz.ntmps17
    go_wp2_with fail
    refine wp_loop_rounds 1 ?_
    have B0 := Below.refl w.heap.size w
    rw [rounds_succ]
    go_wp2_with fail
    refine (HI.out 2 (by decide) _).mono ?_; rintro e w1 ⟨rfl, hb1⟩
    have B1 := B0.trans (hb1.mono B0.size)
    rw [show ((2 : Int) == 2) = true from rfl]
    go_wp2_with fail
    go_ret
    exact ⟨rfl, B1⟩
  · go_enter Tryz.func17, Tryz.ntmps17
    go_wp2_with fail
    refine wp_loop_rounds 2 ?_
    have B0 := Below.refl w.heap.size w
    rw [rounds_succ]
    go_wp2_with fail
    refine (HI.out 2 (by decide) _).mono ?_; rintro e w1 ⟨rfl, hb1⟩
    have B1 := B0.trans (hb1.mono B0.size)
    rw [show ((11 : Int) == 2) = false from rfl]
    go_wp2_with fail
    rw [rounds_succ]
    go_wp2_with fail
    refine (HI.out 11 (by decide) _).mono ?_; rintro e w2 ⟨rfl, hb2⟩
    have B2 := B1.trans (hb2.mono B1.size)
    rw [show ((11 : Int) == 11) = true from rfl]
    go_wp2_with fail
    go_ret
    exact ⟨rfl, B2⟩
  · go_enter Tryz.func17, Tryz.ntmps17
    go_wp2_with fail
    refine wp_loop_rounds 3 ?_
    have B0 := Below.refl w.heap.size w
    rw [rounds_succ]
    go_wp2_with fail
    refine (HI.out 2 (by decide) _).mono ?_; rintro e w1 ⟨rfl, hb1⟩
    have B1 := B0.trans (hb1.mono B0.size)
    rw [show ((12 : Int) == 2) = false from rfl]
    go_wp2_with fail
    rw [rounds_succ]
    go_wp2_with fail
    refine (HI.out 11 (by decide) _).mono ?_; rintro e w2 ⟨rfl, hb2⟩
    have B2 := B1.trans (hb2.mono B1.size)
    rw [show ((12 : Int) == 11) = false from rfl]
    go_wp2_with fail
    rw [rounds_succ]
    go_wp2_with fail
    refine (HI.out 12 (by decide) _).mono ?_; rintro e w3 ⟨rfl, hb3⟩
    have B3 := B2.trans (hb3.mono B2.size)
    rw [show ((12 : Int) == 12) = true from rfl]
    go_wp2_with fail
    go_ret
    exact ⟨rfl, B3⟩
  · go_enter Tryz.func17, Tryz.ntmps17
    go_wp2_with fail
    refine wp_loop_rounds 4 ?_
    have B0 := Below.refl w.heap.size w
    rw [rounds_succ]
    go_wp2_with fail
    refine (HI.out 2 (by decide) _).mono ?_; rintro e w1 ⟨rfl, hb1⟩
    have B1 := B0.trans (hb1.mono B0.size)
    rw [show ((13 : Int) == 2) = false from rfl]
    go_wp2_with fail
    rw [rounds_succ]
    go_wp2_with fail
    refine (HI.out 11 (by decide) _).mono ?_; rintro e w2 ⟨rfl, hb2⟩
    have B2 := B1.trans (hb2.mono B1.size)
    rw [show ((13 : Int) == 11) = false from rfl]
    go_wp2_with fail
    rw [rounds_succ]
    go_wp2_with fail
    refine (HI.out 12 (by decide) _).mono ?_; rintro e w3 ⟨rfl, hb3⟩
    have B3 := B2.trans (hb3.mono B2.size)
    rw [show ((13 : Int) == 12) = false from rfl]
    go_wp2_with fail
    rw [rounds_succ]
    go_wp2_with fail
    refine (HI.out 13 (by decide) _).mono ?_; rintro e w4 ⟨rfl, hb4⟩
    have B4 := B3.trans (hb4.mono B3.size)
    rw [show ((13 : Int) == 13) = true from rfl]
    go_wp2_with fail
    go_ret
    exact ⟨rfl, B4⟩
  · go_enter Tryz.func17, Tryz.ntmps17
    go_wp2_with fail
    refine wp_loop_rounds 5 ?_
    have B0 := Below.refl w.heap.size w
    rw [rounds_succ]
    go_wp2_with fail
    refine (HI.out 2 (by decide) _).mono ?_; rintro e w1 ⟨rfl, hb1⟩
    have B1 := B0.trans (hb1.mono B0.size)
    rw [show ((14 : Int) == 2) = false from rfl]
    go_wp2_with fail
    rw [rounds_succ]
    go_wp2_with fail
    refine (HI.out 11 (by decide) _).mono ?_; rintro e w2 ⟨rfl, hb2⟩
    have B2 := B1.trans (hb2.mono B1.size)
    rw [show ((14 : Int) == 11) = false from rfl]
    go_wp2_with fail
    rw [rounds_succ]
    go_wp2_with fail
    refine (HI.out 12 (by decide) _).mono ?_; rintro e w3 ⟨rfl, hb3⟩
    have B3 := B2.trans (hb3.mono B2.size)
    rw [show ((14 : Int) == 12) = false from rfl]
    go_wp2_with fail
    rw [rounds_succ]
    go_wp2_with fail
    refine (HI.out 13 (by decide) _).mono ?_; rintro e w4 ⟨rfl, hb4⟩
    have B4 := B3.trans (hb4.mono B3.size)
    rw [show ((14 : Int) == 13) = false from rfl]
    go_wp2_with fail
    rw [rounds_succ]
    go_wp2_with fail
    refine (HI.out 14 (by decide) _).mono ?_; rintro e w5 ⟨rfl, hb5⟩
    have B5 := B4.trans (hb5.mono B4.size)
    rw [show ((14 : Int) == 14) = true from rfl]
    go_wp2_with fail
    go_ret
    exact ⟨rfl, B5⟩
end Go.Proofs.YticehalcnbjccaaGreatDoor.SourceC
