/-
  Plain facts on formulas as texts: a formula has no fewer opening parentheses than its tree's text has; its numbers are of 64 bits.
-/
import Derived.Test.YticehalcnbjccaaGreatDoorRTreeV
import Derived.Test.YticehalcnbjccaaGreatDoorRNumN
import Derived.Test.YticehalcnbjccaaGreatDoorRTreeS
import Derived.Test.YticehalcnbjccaaGreatDoorRAddrD
import Derived.LaidEql
import Derived.Stop.Asserts
namespace Go.Proofs.YticehalcnbjccaaGreatDoor.PrintC
set_option maxRecDepth 100000
set_option maxHeartbeats 8000000
set_option linter.unusedVariables false
open NumC LexC TreeC
def opn (p : PT) : Bool := decide (p.1 = 4) && decide (p.2.2 = str [40])
def cntT (ts : List PT) : Nat := ts.countP opn
def cnt (l : List Tok) (k : Nat) : Nat := cntT ((l.map key).take k)
def pc (a : Nd) : Nat := cntT (toksN a)
def fpc : Fo → Nat
 | .nil => 0
 | .cons f k n => pc ⟨f, k⟩ + fpc n
def low (a : Nd) (m : Nat) : Nat := if rowN a < m then 1 else 0
theorem low_le {a : Nd} {m n : Nat} (h : m ≤ n) : low a m ≤ low a n := by unfold low; split <;> split <;> omega
theorem low_no {a : Nd} {m : Nat} (h : m ≤ rowN a) : low a m = 0 := if_neg (by omega)
theorem low_one (a : Nd) (m : Nat) : low a m ≤ 1 := by unfold low; split <;> omega
theorem cnt_app (x y : List PT) : cntT (x ++ y) = cntT x + cntT y := List.countP_append
theorem cnt_cons (p : PT) (x : List PT) : cntT (p :: x) = cntT x + if opn p = true then 1 else 0 := List.countP_cons
theorem opn_sgn (o : List UInt8) : opn (sgn o) = decide (o = [40]) := by
 unfold opn sgn
 simp only [decide_true, Bool.true_and, decide_eq_decide]
 exact str_inj
theorem cnt_close (ts : List PT) (row least : Nat) : cntT (closeK (ts, row) least) = cntT ts + if row < least then 1 else 0 := by
 unfold closeK
 simp only
 split
 · rw [cnt_cons, cnt_app, opn_sgn, cnt_cons, opn_sgn]
   simp [cntT]
 · rfl
theorem cnt_mono (l : List Tok) {k k' : Nat} (h : k ≤ k') : cnt l k ≤ cnt l k' := by
 unfold cnt
 have : (l.map key).take k = ((l.map key).take k').take k := by rw [List.take_take, Nat.min_eq_left h]
 rw [this]
 conv => rhs; rw [← List.take_append_drop k ((l.map key).take k')]
 rw [cnt_app]; omega
theorem cnt_succ (l : List Tok) (k : Nat) : cnt l k ≤ cnt l (k + 1) := cnt_mono l (Nat.le_succ k)
theorem cnt_open {l : List Tok} {k : Nat} (h : isSign l k [40] = true) : cnt l (k + 1) = cnt l k + 1 := by
 unfold isSign at h
 cases ht : l[k]? with
 | none => rw [ht] at h; cases h
 | some t =>
   rw [ht] at h
   simp only at h
   unfold cnt
   rw [List.take_add_one, List.getElem?_map, ht, cnt_app]
   have : opn (key t) = true := h
   simp [cntT, this]
theorem pc_neg (a : Nd) : pc (negN a) = pc a + low a 5 := by
 have e : toksN (negN a) = sgn [45] :: closeK (toksN a, rowN a) 5 := rfl
 unfold pc
 rw [e, cnt_cons, cnt_close, opn_sgn]
 rfl
theorem toks_pair (op : List UInt8) (a b : Nd) : toksN (pairN op a b) = closeK (toksN a, rowN a) (lo1 (opRow op)) ++ sgn op :: closeK (toksN b, rowN b) (lo2 (opRow op)) := nodeK_bin op _
theorem row_pair (op : List UInt8) (a b : Nd) : rowN (pairN op a b) = opRow op := by
 show (if (5 : Int) = 1 ∨ (5 : Int) = 2 ∨ (5 : Int) = 3 ∨ (5 : Int) = 6 then 6 else if (5 : Int) = 4 then 5 else if (5 : Int) = 5 then opRow (str op).data.toList else 0) = _
 rw [if_neg (by decide), if_neg (by decide), if_pos rfl, str_back]
theorem pc_pair {op : List UInt8} (ho : op ≠ [40]) (a b : Nd) : pc (pairN op a b) = pc a + low a (lo1 (opRow op)) + (pc b + low b (lo2 (opRow op))) := by
 unfold pc
 rw [toks_pair, cnt_app, cnt_cons, cnt_close, cnt_close, opn_sgn, decide_eq_false ho]
 unfold low
 simp
theorem fpc_app (x y : Fo) : fpc (x.app y) = fpc x + fpc y := by
 induction x with
 | nil => simp [Fo.app, fpc]
 | cons f k n _ ih => simp only [Fo.app, fpc, ih]; omega
theorem fpc_one (a : Nd) : fpc a.one = pc a := by simp [Nd.one, fpc]
theorem cnt_join : ∀ x : Fo, cntT (joinK ((toks x).map (·.1))) = fpc x
 | .nil => rfl
 | .cons f k .nil => by simp [toks, joinK, fpc, pc, toksN]
 | .cons f k (.cons f2 k2 n) => by
   have ih := cnt_join (.cons f2 k2 n)
   have e : joinK ((toks (.cons f k (.cons f2 k2 n))).map (·.1)) = toksN ⟨f, k⟩ ++ sgn [44] :: joinK ((toks (.cons f2 k2 n)).map (·.1)) := rfl
   rw [e, cnt_app, cnt_cons, ih, opn_sgn]
   simp [fpc, pc]
theorem pc_call (s : ByteArray) (x : Fo) : pc (callN s x) = 1 + fpc x := by
 have e : toksN (callN s x) = (3, 0, s) :: sgn [40] :: (joinK ((toks x).map (·.1)) ++ [sgn [41]]) := by
   have := nodeK_call s.data.toList (toks x)
   rw [str_list] at this
   exact this
 unfold pc
 rw [e, cnt_cons, cnt_cons, cnt_app, cnt_join, cnt_cons, opn_sgn, opn_sgn]
 simp [opn, cntT]; omega
section
variable {l : List Tok} {n : Int} {L : Lev} {into : Bool} {k k' k'' : Nat} {a b : Nd} {e : Bad} {t : Tok} {op : List UInt8}
def WideT (t : Tok) : Prop := t.k = 1 → t.n ≤ 9223372036854775807
def Pn (l : List Tok) (m : Nat) (f : Nat → Out) : Prop := ∀ k a k', f k = .ok (a, k') → a.all wideB = true ∧ cnt l k + pc a + low a m ≤ cnt l k'
structure LPn (l : List Tok) (L : Lev) : Prop where
 fm : Pn l 1 L.fm
 pw : Pn l 4 L.pw
 un : Pn l 5 L.un
theorem wide_leaf {f : Fld} (h : f.vn ≤ 9223372036854775807) : (Nd.mk f .nil).all wideB = true := by
 show (true && wideB f 0) = true
 rw [show wideB f 0 = true from decide_eq_true h]; rfl
theorem wide_neg (h : a.all wideB = true) : (negN a).all wideB = true := by
 show ((a.one).all wideB && wideB ⟨4, 0, 0, nob, 0, 0, 0, 0, nob⟩ a.one.len) = true
 rw [one_all, h]; rfl
theorem wide_pair (h : a.all wideB = true) (g : b.all wideB = true) : (pairN op a b).all wideB = true := by
 show ((a.one.app b.one).all wideB && wideB ⟨5, 0, 0, nob, 0, 0, 0, 0, str op⟩ (a.one.app b.one).len) = true
 rw [app_all, one_all, one_all, h, g]; rfl
theorem wide_call {x : Fo} {s : ByteArray} (h : x.all wideB = true) : (callN s x).all wideB = true := by
 show (x.all wideB && wideB ⟨6, 0, 0, nob, 0, 0, 0, 0, s⟩ x.len) = true
 rw [h]; rfl
theorem row_pn {part : Nat → Out} {ss : List (List UInt8)} {r : Nat} (hr : ∀ op ∈ ss, op ≠ [40] ∧ opRow op = r ∧ lo1 r = r ∧ lo2 r = r + 1) (hp : Pn l (r + 1) part) (k0 : Nat) : ∀ (g : Nat) (a : Nd) (k : Nat), (a.all wideB = true ∧ cnt l k0 + pc a + low a r ≤ cnt l k) → ∀ b k', rowF l part ss g a k = .ok (b, k') → b.all wideB = true ∧ cnt l k0 + pc b + low b r ≤ cnt l k' := by
 intro g
 induction g with
 | zero => intro a k hk b k' h; simp only [rowF] at h; injection h with h; injection h with h1 h2; subst h1 h2; exact hk
 | succ g ih =>
   intro a k hk b k' h
   cases ho : oneOf l k ss with
   | none => rw [row_end ho] at h; injection h with h; injection h with h1 h2; subst h1 h2; exact hk
   | some op =>
     cases hq : part (k + 1) with
     | error e => rw [row_bad ho hq] at h; cases h
     | ok q =>
       obtain ⟨c, k2⟩ := q
       rw [row_go ho hq] at h
       have h1 := hp _ _ _ hq
       obtain ⟨g1, g2, g3, g4⟩ := hr op (one_of_mem ho)
       refine ih _ _ ⟨wide_pair hk.1 h1.1, ?_⟩ _ _ h
       rw [pc_pair g1, g2, g3, g4, low_no (a := pairN op a c) (by rw [row_pair, g2]; exact Nat.le_refl _)]
       have := cnt_succ l k
       have h2 := hk.2
       have h3 := h1.2
       omega
theorem args_pn (hL : LPn l L) (k0 : Nat) : ∀ (r : Nat) (acc : Fo) (k : Nat), (acc.all wideB = true ∧ cnt l k0 + fpc acc ≤ cnt l k) → ∀ x k', argsF l n L into r acc k = .ok (x, k') → x.all wideB = true ∧ cnt l k0 + fpc x ≤ cnt l k' := by
 intro r
 induction r with
 | zero => intro acc k _ x k' h; simp only [argsF] at h; cases h
 | succ r ih =>
   intro acc k hk x k' h
   unfold argsF at h
   split at h
   · cases h
   · cases hq : L.fm k with
     | error e => simp only [hq] at h; cases h
     | ok q =>
       obtain ⟨c, k2⟩ := q
       simp only [hq] at h
       have h1 := hL.fm _ _ _ hq
       have h2 : (acc.app c.one).all wideB = true := by rw [app_all, one_all, hk.1, h1.1]; rfl
       have h3 : cnt l k0 + fpc (acc.app c.one) ≤ cnt l k2 := by rw [fpc_app, fpc_one]; have := hk.2; have := h1.2; omega
       split at h
       · exact ih _ _ ⟨h2, Nat.le_trans h3 (cnt_succ l _)⟩ _ _ h
       · injection h with h; injection h with h4 h5; subst h4 h5; exact ⟨h2, h3⟩
theorem call_pn (hL : LPn l L) (hs : isSign l (k + 1) [40] = true) (h : callF l n L into t k = .ok (a, k')) : a.all wideB = true ∧ cnt l k + pc a + low a 6 ≤ cnt l k' := by
 have hk1 : cnt l k + 1 ≤ cnt l (k + 2) := by
   have h1 := cnt_open hs
   have h2 := cnt_succ l k
   have e : k + 1 + 1 = k + 2 := rfl
   rw [e] at h1
   omega
 have hlow : ∀ x : Fo, low (callN t.s x) 6 = 0 := fun x => low_no (Nat.le_refl 6)
 unfold callF at h
 split at h
 · cases h
 · split at h
   · injection h with h; injection h with h3 h4; subst h3 h4
     refine ⟨wide_call rfl, ?_⟩
     rw [pc_call, hlow]
     have := cnt_mono l (show k + 2 ≤ k + 3 by omega)
     simp only [fpc]; omega
   · cases hq : argsF l n L into 10 .nil (k + 2) with
     | error e => simp only [hq] at h; cases h
     | ok q =>
       obtain ⟨c, k2⟩ := q
       simp only [hq] at h
       have h1 := args_pn hL (k + 2) 10 .nil (k + 2) ⟨rfl, Nat.le_refl _⟩ _ _ hq
       cases hc : isSign l k2 [41] with
       | false => rw [close_no hc] at h; cases h
       | true =>
         rw [close_ok hc] at h
         injection h with h; injection h with h3 h4; subst h3 h4
         refine ⟨wide_call h1.1, ?_⟩
         rw [pc_call, hlow]
         have := cnt_succ l k2
         have := h1.2
         omega
theorem leaf_pn {f : Fld} {j : Nat} (hw : f.vn ≤ 9223372036854775807) (hp : pc ⟨f, .nil⟩ = 0) (hr : rowK f = 6) (hj : k ≤ j) : (Nd.mk f .nil).all wideB = true ∧ cnt l k + pc ⟨f, .nil⟩ + low ⟨f, .nil⟩ 6 ≤ cnt l j := by
 refine ⟨wide_leaf hw, ?_⟩
 rw [hp, low_no (by show 6 ≤ rowK f; rw [hr]; exact Nat.le_refl _)]
 exact cnt_mono l hj
theorem opn_3 (s : ByteArray) : opn (3, 0, s) = false := rfl
theorem name_pn (hL : LPn l L) (h : nameF l n L into t k = .ok (a, k')) : a.all wideB = true ∧ cnt l k + pc a + low a 6 ≤ cnt l k' := by
 unfold nameF at h
 split at h
 · rename_i hs; exact call_pn hL hs h
 · split at h
   · injection h with h; injection h with h3 h4; subst h3 h4; exact leaf_pn (by show (1 : Int) ≤ _; decide) rfl rfl (Nat.le_succ _)
   · split at h
     · injection h with h; injection h with h3 h4; subst h3 h4; exact leaf_pn (by show (0 : Int) ≤ _; decide) rfl rfl (Nat.le_succ _)
     · split at h
       · cases h
       · split at h
         · cases hu : l[k + 2]? with
           | none => simp only [hu] at h; cases h
           | some u =>
             simp only [hu] at h
             split at h
             · injection h with h; injection h with h3 h4; subst h3 h4
               refine leaf_pn (by show (0 : Int) ≤ _; decide) ?_ rfl (by omega)
               show cntT [(3, 0, _), sgn [58], (3, 0, _)] = 0
               rw [cnt_cons, cnt_cons, cnt_cons, opn_3, opn_3, opn_sgn]; rfl
             · cases h
         · injection h with h; injection h with h3 h4; subst h3 h4
           refine leaf_pn (by show (0 : Int) ≤ _; decide) ?_ rfl (Nat.le_succ _)
           show cntT [(3, 0, _)] = 0
           rw [cnt_cons, opn_3]; rfl
theorem part_pn (hl : ∀ t ∈ l, WideT t) (hL : LPn l L) : Pn l 6 (partF l n L into) := by
 intro k a k' h
 unfold partF at h
 cases ht : l[k]? with
 | none => simp only [ht] at h; cases h
 | some t =>
   have hto := hl t (List.mem_of_getElem? ht)
   simp only [ht] at h
   split at h
   · rename_i h1
     injection h with h; injection h with h3 h4; subst h3 h4
     exact leaf_pn (hto h1) rfl rfl (Nat.le_succ _)
   · split at h
     · split at h
       · cases h
       · injection h with h; injection h with h3 h4; subst h3 h4
         refine leaf_pn (by show (0 : Int) ≤ _; decide) ?_ rfl (Nat.le_succ _)
         show cntT [(2, 0, t.s)] = 0
         rw [cnt_cons]; rfl
     · split at h
       · exact name_pn hL h
       · split at h
         · rename_i hs
           cases hi : into with
           | false => rw [paren_deep hi] at h; cases h
           | true =>
             cases hq : L.fm (k + 1) with
             | error e => rw [paren_err hi hq] at h; cases h
             | ok q =>
               obtain ⟨c, k2⟩ := q
               have h1 := hL.fm _ _ _ hq
               cases hc : isSign l k2 [41] with
               | false => rw [paren_open hi hq hc] at h; cases h
               | true =>
                 rw [paren_ok hi hq hc] at h
                 injection h with h; injection h with h3 h4; subst h3 h4
                 refine ⟨h1.1, ?_⟩
                 have := cnt_open hs
                 have := h1.2
                 have := cnt_succ l k2
                 have := low_one c 6
                 omega
         · cases h
theorem unary_pn (hl : ∀ t ∈ l, WideT t) (hL : LPn l L) : Pn l 5 (unaryF l n L into) := by
 intro k a k' h
 cases hs : isSign l k [45] with
 | false =>
   rw [unary_no hs] at h
   have := part_pn hl hL _ _ _ h
   exact ⟨this.1, by have := this.2; have := low_le (a := a) (show 5 ≤ 6 by omega); omega⟩
 | true =>
   cases hi : into with
   | false => rw [unary_deep hs hi] at h; cases h
   | true =>
     cases hq : L.un (k + 1) with
     | error e => rw [unary_err hs hi hq] at h; cases h
     | ok q =>
       obtain ⟨c, k2⟩ := q
       have h1 := hL.un _ _ _ hq
       rw [unary_ok hs hi hq] at h
       injection h with h; injection h with h3 h4; subst h3 h4
       refine ⟨wide_neg h1.1, ?_⟩
       rw [pc_neg, low_no (a := negN c) (show 5 ≤ 5 by omega)]
       have := h1.2
       have := cnt_succ l k
       omega
theorem power_pn (hl : ∀ t ∈ l, WideT t) (hL : LPn l L) : Pn l 4 (powerF l n L into) := by
 intro k a k' h
 cases hu : unaryF l n L into k with
 | error e => rw [power_err hu] at h; cases h
 | ok q =>
   obtain ⟨c, k1⟩ := q
   have h1 := unary_pn hl hL _ _ _ hu
   cases hs : isSign l k1 [94] with
   | false =>
     rw [power_one hu hs] at h; injection h with h; injection h with h3 h4; subst h3 h4
     exact ⟨h1.1, by have := h1.2; have := low_le (a := c) (show 4 ≤ 5 by omega); omega⟩
   | true =>
     cases hi : into with
     | false => rw [power_deep hu hs hi] at h; cases h
     | true =>
       cases hq : L.pw (k1 + 1) with
       | error e => rw [power_bad hu hs hi hq] at h; cases h
       | ok q =>
         obtain ⟨d, k2⟩ := q
         have h2 := hL.pw _ _ _ hq
         rw [power_ok hu hs hi hq] at h
         injection h with h; injection h with h3 h4; subst h3 h4
         refine ⟨wide_pair h1.1 h2.1, ?_⟩
         rw [pc_pair (by decide), show opRow [94] = 4 from rfl, show lo1 4 = 5 from rfl, show lo2 4 = 4 from rfl, low_no (a := pairN [94] c d) (by rw [row_pair]; decide)]
         have := h1.2
         have := h2.2
         have := cnt_succ l k1
         omega
theorem mul_rows : ∀ op ∈ mulS, op ≠ [40] ∧ opRow op = 3 ∧ lo1 3 = 3 ∧ lo2 3 = 3 + 1 := by decide
theorem sum_rows : ∀ op ∈ sumS, op ≠ [40] ∧ opRow op = 2 ∧ lo1 2 = 2 ∧ lo2 2 = 2 + 1 := by decide
theorem cmp_rows : ∀ op ∈ cmpS, op ≠ [40] ∧ opRow op = 1 := by decide
theorem product_pn (hl : ∀ t ∈ l, WideT t) (hL : LPn l L) : Pn l 3 (productF l n L into) := by
 intro k a k' h
 cases hu : powerF l n L into k with
 | error e => rw [product_err hu] at h; cases h
 | ok q =>
   obtain ⟨c, k1⟩ := q
   rw [product_go hu] at h
   have h1 := power_pn hl hL _ _ _ hu
   exact row_pn mul_rows (power_pn hl hL) k _ _ _ ⟨h1.1, by have := h1.2; have := low_le (a := c) (show 3 ≤ 4 by omega); omega⟩ _ _ h
theorem sum_pn (hl : ∀ t ∈ l, WideT t) (hL : LPn l L) : Pn l 2 (sumF l n L into) := by
 intro k a k' h
 cases hu : productF l n L into k with
 | error e => rw [sum_err hu] at h; cases h
 | ok q =>
   obtain ⟨c, k1⟩ := q
   rw [sum_go hu] at h
   have h1 := product_pn hl hL _ _ _ hu
   exact row_pn sum_rows (product_pn hl hL) k _ _ _ ⟨h1.1, by have := h1.2; have := low_le (a := c) (show 2 ≤ 3 by omega); omega⟩ _ _ h
theorem formula_pn (hl : ∀ t ∈ l, WideT t) (hL : LPn l L) : Pn l 1 (formulaF l n L into) := by
 intro k a k' h
 cases hu : sumF l n L into k with
 | error e => rw [formula_err hu] at h; cases h
 | ok q =>
   obtain ⟨c, k1⟩ := q
   have h1 := sum_pn hl hL _ _ _ hu
   cases ho : oneOf l k1 cmpS with
   | none =>
     rw [formula_one hu ho] at h; injection h with h; injection h with h3 h4; subst h3 h4
     exact ⟨h1.1, by have := h1.2; have := low_le (a := c) (show 1 ≤ 2 by omega); omega⟩
   | some op =>
     cases hq : sumF l n L into (k1 + 1) with
     | error e => rw [formula_bad hu ho hq] at h; cases h
     | ok q =>
       obtain ⟨d, k2⟩ := q
       have h2 := sum_pn hl hL _ _ _ hq
       rw [formula_ok hu ho hq] at h
       injection h with h; injection h with h3 h4; subst h3 h4
       obtain ⟨g1, g2⟩ := cmp_rows op (one_of_mem ho)
       refine ⟨wide_pair h1.1 h2.1, ?_⟩
       rw [pc_pair g1, g2, show lo1 1 = 2 from rfl, show lo2 1 = 2 from rfl, low_no (a := pairN op c d) (by rw [row_pair, g2]; exact Nat.le_refl _)]
       have := h1.2
       have := h2.2
       have := cnt_succ l k1
       omega
end
theorem lev_pn (l : List Tok) (n : Int) (hl : ∀ t ∈ l, WideT t) : ∀ r, LPn l (lev l n r) := by
 intro r
 induction r with
 | zero => refine ⟨?_, ?_, ?_⟩ <;> (intro k a k' h; cases h)
 | succ r ih => exact ⟨formula_pn hl ih, power_pn hl ih, unary_pn hl ih⟩
theorem next_wide {c : UInt8} {l : List UInt8} {k n : Int} {s : List UInt8} {m : Nat} (i : Int) (h : nextL (c :: l) = some (k, n, s, m)) : WideT ⟨k, n, str s, i⟩ := by
 intro hk
 rw [nextL_cons, tokL] at h
 split at h
 · split at h
   · rename_i hn
     injection h with h; injection h with h1 h; injection h with h2 h
     show n ≤ _
     omega
   · cases h
 · split at h
   · injection h with h; injection h with h1 h
     have : k = 1 := hk
     omega
   · split at h
     · obtain ⟨r, hr, e⟩ := Option.map_eq_some_iff.1 h
       injection e with h1 e
       have : k = 1 := hk
       omega
     · have hk1 : k = 1 := hk
       have : k = 4 := by
         unfold signT at h
         split at h
         · split at h
           · injection h with h; injection h with h1 h; omega
           · split at h
             · injection h with h; injection h with h1 h; omega
             · cases h
         · split at h
           · injection h with h; injection h with h1 h; omega
           · cases h
       omega
theorem cutF_wide : ∀ (f : Nat) (l : List UInt8) (i : Nat) (acc : List Tok), (∀ t ∈ acc, WideT t) → ∀ t ∈ (cutF f l i acc).toks, WideT t := by
 intro f
 induction f with
 | zero => intro l i acc h; simpa only [cutF] using h
 | succ f ih =>
   intro l i acc h
   cases l with
   | nil => simpa only [cutF] using h
   | cons c l =>
     unfold cutF
     split
     · exact ih _ _ _ h
     · split
       · intro t ht; cases ht
       · rename_i k n s m hn
         refine ih _ _ _ (fun t ht => ?_)
         rcases List.mem_append.1 ht with ht | ht
         · exact h t ht
         · obtain rfl : t = ⟨k, n, str s, i⟩ := by simpa using ht
           exact next_wide _ hn
theorem cut_wide (s : List UInt8) : ∀ t ∈ (cutL s).toks, WideT t := by
 unfold cutL
 split
 · intro t ht; cases ht
 · exact cutF_wide _ _ _ _ (fun t ht => by cases ht)
theorem parse_wide {s : List UInt8} (h : (parseL s).err = 0) : (parseL s).nd.all wideB = true ∧ pc (parseL s).nd ≤ cntT ((cutL s).toks.map key) := by
 unfold parseL at h ⊢
 by_cases h0 : (cutL s).err ≠ 0
 · rw [if_pos h0] at h; exact absurd h h0
 · rw [if_neg h0] at h ⊢
   cases ht : treeF (cutL s).toks s.length with
   | error e => rw [ht] at h; exact absurd h (tree_err_ne ht)
   | ok a =>
     rw [ht] at h
     simp only at h ⊢
     by_cases hd : 16 < a.deep
     · rw [if_pos hd] at h; exact absurd h (by decide)
     · rw [if_neg hd]
       simp only
       unfold treeF at ht
       cases hq : (lev (cutL s).toks s.length 41).fm 0 with
       | error e => rw [hq] at ht; cases ht
       | ok q =>
         obtain ⟨c, k⟩ := q
         rw [hq] at ht
         simp only at ht
         split at ht
         · cases ht
         · injection ht with ht
           subst ht
           have h1 := (lev_pn (cutL s).toks s.length (cut_wide s) 41).fm _ _ _ hq
           refine ⟨h1.1, ?_⟩
           have h2 : cnt (cutL s).toks k ≤ cntT ((cutL s).toks.map key) := by
             unfold cnt
             conv => rhs; rw [← List.take_append_drop k ((cutL s).toks.map key)]
             rw [cnt_app]; omega
           have := h1.2
           omega
end Go.Proofs.YticehalcnbjccaaGreatDoor.PrintC
namespace Go.Proofs.YticehalcnbjccaaGreatDoor.SourceC
set_option maxRecDepth 100000
set_option maxHeartbeats 8000000
set_option linter.unusedVariables false
open NumC TreeC PrintC
open LexC (str nob str_size)
open ValueC (Val GoodP goodB goodB_t goodB_f nos zeroV showL trueL falseL size_nos)
structure RS where
 k : Int
 v : Val
 nd : Nd
 at_ : Int
 err : Int
def noneR (at_ err : Int) : RS := ⟨0, zeroV, zeroN, at_, err⟩
def valR (v : Val) : RS := ⟨1, v, zeroN, 0, 0⟩
def formR (a : Nd) : RS := ⟨2, zeroV, a, 0, 0⟩
def unq (s : List UInt8) : List UInt8 := if s.head? = some 39 then s.tail else s
def asText (t : List UInt8) : RS := if 200 < t.length then noneR 0 2 else valR ⟨3, 0, str t⟩
def readL (s : List UInt8) : RS :=
 if 300 < s.length then noneR 0 2
 else if s = [] then noneR 0 0
 else if s.head? = some 61 then (if (parseL s.tail).err = 0 then formR (parseL s.tail).nd else noneR ((parseL s.tail).at_ + 1) (parseL s.tail).err)
 else if s = trueL then valR ⟨1, 1, nos⟩
 else if s = falseL then valR ⟨1, 0, nos⟩
 else if parseB s = true then valR ⟨2, parseN s, nos⟩
 else asText (unq s)
def selfB (l : List UInt8) : Bool := decide ((readL l).err = 0 ∧ (readL l).k = 1 ∧ (readL l).v = ⟨3, 0, str l⟩)
def valueL (v : Val) : List UInt8 := if v.k ≠ 3 then showL v else if selfB v.s.data.toList = true then v.s.data.toList else 39 :: v.s.data.toList
def writeL (k : Int) (v : Val) (a : Nd) : TRes :=
 if k = 0 then (if v = zeroV ∧ a = zeroN then ⟨[], 0⟩ else ⟨[], 11⟩)
 else if k = 1 then (if a = zeroN ∧ GoodP v ∧ v.k ≠ 0 ∧ v.k ≠ 4 then ⟨valueL v, 0⟩ else ⟨[], 11⟩)
 else if k = 2 then (if v = zeroV then (if (textR a).err = 0 then (if 299 < (textR a).s.length then ⟨[], 2⟩ else ⟨61 :: (textR a).s, 0⟩) else ⟨[], (textR a).err⟩) else ⟨[], 11⟩)
 else ⟨[], 11⟩
structure CRes where
 s : List UInt8
 at_ : Int
 err : Int
def cleanL (s : List UInt8) : CRes :=
 if (readL s).err = 0 then ⟨(writeL (readL s).k (readL s).v (readL s).nd).s, 0, (writeL (readL s).k (readL s).v (readL s).nd).err⟩ else ⟨[], (readL s).at_, (readL s).err⟩
theorem cutF_at_le : ∀ (f : Nat) (l : List UInt8) (i : Nat) (acc : List LexC.Tok), (LexC.cutF f l i acc).at_ ≤ (i + l.length : Nat) := by
 intro f
 induction f with
 | zero => intro l i acc; show (0 : Int) ≤ _; omega
 | succ f ih =>
   intro l i acc
   cases l with
   | nil => show (0 : Int) ≤ _; omega
   | cons c l =>
     rw [LexC.cutF]
     by_cases hc : c = 32
     · rw [if_pos hc]
       have := ih l (i + 1) acc
       rw [List.length_cons]; omega
     · rw [if_neg hc]
       cases hn : LexC.nextL (c :: l) with
       | none => show (i : Int) ≤ _; omega
       | some r =>
         obtain ⟨k, n, s, m⟩ := r
         have hm := LexC.next_len hn
         simp only
         have := ih ((c :: l).drop m) (i + m) (acc ++ [⟨k, n, str s, i⟩])
         rw [List.length_drop] at this
         omega
theorem parse_at_le (s : List UInt8) : (parseL s).at_ ≤ (s.length : Int) := by
 unfold parseL
 have hc : (LexC.cutL s).at_ ≤ (s.length : Int) := by
   unfold LexC.cutL
   split
   · show (0 : Int) ≤ _; omega
   · have := cutF_at_le (s.length + 1) s 0 []; omega
 by_cases h0 : (LexC.cutL s).err ≠ 0
 · rw [if_pos h0]; exact hc
 · rw [if_neg h0]
   cases ht : treeF (LexC.cutL s).toks s.length with
   | ok a => simp only; split <;> (show (0 : Int) ≤ _; omega)
   | error e =>
     simp only
     rcases tree_wrong ht with rfl | ⟨j, rfl⟩
     · show (0 : Int) ≤ _; omega
     · show (match (LexC.cutL s).toks[j]? with | some t => t.at_ | none => (s.length : Int)) ≤ _
       cases hj : (LexC.cutL s).toks[j]? with
       | none => exact Int.le_refl _
       | some t =>
         have hm := List.mem_of_getElem? hj
         unfold LexC.cutL at hm
         split at hm
         · cases hm
         · have := ((LexC.cutF_rise _ s 0 [] ⟨List.Pairwise.nil, fun t h => by cases h⟩).lo t hm).2
           show t.at_ ≤ _; omega
theorem read_true : readL trueL = valR ⟨1, 1, nos⟩ := by
 unfold readL
 rw [if_neg (by decide), if_neg (by decide), if_neg (by decide), if_pos rfl]
theorem read_false : readL falseL = valR ⟨1, 0, nos⟩ := by
 unfold readL
 rw [if_neg (by decide), if_neg (by decide), if_neg (by decide), if_neg (by decide), if_pos rfl]
theorem str_id (s : ByteArray) : str s.data.toList = s := str_list s
theorem i64_of_small {n : Int} (h : n = 0 ∨ n = 1) : I64 n := by unfold I64; omega
theorem read_ok {s : List UInt8} (h : (readL s).err = 0) : (s = [] ∧ readL s = noneR 0 0) ∨ (∃ t, s = 61 :: t ∧ (parseL t).err = 0 ∧ readL s = formR (parseL t).nd) ∨
   (∃ v, readL s = valR v ∧ GoodP v ∧ v.k ≠ 0 ∧ v.k ≠ 4 ∧ I64 v.n) := by
 unfold readL at h ⊢
 by_cases h1 : 300 < s.length
 · rw [if_pos h1] at h; exact absurd h (by decide)
 rw [if_neg h1] at h ⊢
 by_cases h2 : s = []
 · rw [if_pos h2]; exact Or.inl ⟨h2, rfl⟩
 rw [if_neg h2] at h ⊢
 by_cases h3 : s.head? = some 61
 · rw [if_pos h3] at h ⊢
   obtain ⟨c, t, rfl⟩ := List.exists_cons_of_ne_nil h2
   obtain rfl : c = 61 := Option.some.inj h3
   have h' : (if (parseL t).err = 0 then formR (parseL t).nd else noneR ((parseL t).at_ + 1) (parseL t).err).err = 0 := h
   by_cases h4 : (parseL t).err = 0
   · exact Or.inr (Or.inl ⟨t, rfl, h4, if_pos h4⟩)
   · rw [if_neg h4] at h'; exact absurd h' h4
 rw [if_neg h3] at h ⊢
 refine Or.inr (Or.inr ?_)
 by_cases h4 : s = trueL
 · rw [if_pos h4]; exact ⟨_, rfl, Or.inr (Or.inl ⟨rfl, Or.inr rfl, rfl⟩), by decide, by decide, i64_of_small (Or.inr rfl)⟩
 rw [if_neg h4] at h ⊢
 by_cases h5 : s = falseL
 · rw [if_pos h5]; exact ⟨_, rfl, Or.inr (Or.inl ⟨rfl, Or.inl rfl, rfl⟩), by decide, by decide, i64_of_small (Or.inl rfl)⟩
 rw [if_neg h5] at h ⊢
 by_cases h6 : parseB s = true
 · rw [if_pos h6]; exact ⟨_, rfl, Or.inr (Or.inr (Or.inl ⟨rfl, rfl⟩)), by show (2 : Int) ≠ 0; decide, by show (2 : Int) ≠ 4; decide, parseN_i64 s⟩
 rw [if_neg h6] at h ⊢
 unfold asText at h ⊢
 by_cases h7 : 200 < (unq s).length
 · rw [if_pos h7] at h; exact absurd h (by decide)
 · rw [if_neg h7]; exact ⟨_, rfl, Or.inr (Or.inr (Or.inr (Or.inl ⟨rfl, rfl, by rw [str_size]; omega⟩))), by show (3 : Int) ≠ 0; decide, by show (3 : Int) ≠ 4; decide, i64_of_small (Or.inl rfl)⟩
theorem write_val {v : Val} (hg : GoodP v) (h0 : v.k ≠ 0) (h4 : v.k ≠ 4) : writeL 1 v zeroN = ⟨valueL v, 0⟩ := by
 unfold writeL
 rw [if_neg (by decide), if_pos rfl, if_pos ⟨rfl, hg, h0, h4⟩]
end Go.Proofs.YticehalcnbjccaaGreatDoor.SourceC
namespace Go.Proofs.YticehalcnbjccaaGreatDoor.SourceC
set_option maxRecDepth 100000
set_option maxHeartbeats 8000000
set_option linter.unusedVariables false
set_option linter.unusedSimpArgs false
open Go.RowKit Go.Extern.Stop Go.Stop Go.Extern NumC LexC TreeC
open Tryz
open Lib (hid)
theorem M_valueOfT (t : Addr) (w : World) : (ReflectliteValue.unpack (.iface 74 (.pointer (some t)))).run prog w = .ok (.agg #[hnd 74, .pointer (some ⟨w.heap.size, 0, none⟩), .int .u64 150]) (w.alloc (.cells #[.pointer (some t)] 74)) := by kernel_rfl
theorem M_typeT (a : Addr) (w : World) : (ReflectliteValue.methodAny (ReflectliteValue.valueError "reflectlite.Value.Type" 0) (fun t _ _ _ => ReflectliteType.toType t) #[.agg #[hnd 74, .pointer (some a), .int .u64 150]]).run prog w = .ok (.iface 137 (.agg #[hnd 74])) w := by kernel_rfl
theorem M_kindT (w : World) : ((ReflectliteType.abiMethod fun t => (fun a : Nat => Value.int IntKind.u8 (a : Int)) <$> Rtype.kind t) #[hnd 74]).run prog w = .ok (.int .u8 22) w := by kernel_rfl
theorem M_kindE (w : World) : ((ReflectliteType.abiMethod fun t => (fun a : Nat => Value.int IntKind.u8 (a : Int)) <$> Rtype.kind t) #[hnd 72]).run prog w = .ok (.int .u8 25) w := by kernel_rfl
theorem M_partsT (a : Addr) (w : World) : (ReflectliteValue.parts (.agg #[hnd 74, .pointer (some a), .int .u64 150])).run prog w = .ok (some (74, a, 150)) w := by kernel_rfl
theorem M_isNilT (a p : Addr) (W : World) (ha : W.cell? a = some (.pointer (some p))) :
   (ReflectliteValue.method (ReflectliteValue.valueError "reflectlite.Value.IsNil" 0) ReflectliteValue.isNil #[.agg #[hnd 74, .pointer (some a), .int .u64 150]]).run prog W = .ok (.bool false) W := by
 rw [rl_m]
 simp only [Sem.run_bind, M_partsT, Result.andThen]
 simp [ReflectliteValue.isNil, loadVar, isAgg, underlying, underlying74, ha, Result.andThen]
theorem M_elemT (w : World) : (ReflectliteType.method ReflectliteType.elem #[.agg #[hnd 74]]).run prog w = .ok (.iface 137 (.agg #[hnd 72])) w := by kernel_rfl
theorem M_implements (w : World) : (ReflectliteType.relation "Implements" ReflectliteType.implements_ #[.agg #[hnd 72], .iface 137 (.agg #[hnd 53])]).run prog w = .ok (.bool true) w := by kernel_rfl
theorem M_typeOf (v : Value) (w : World) : (ReflectliteType.typeOf #[.iface 72 v]).run prog w = .ok (.iface 137 (.agg #[hnd 72])) w := by kernel_rfl
theorem M_assignable (w : World) : (ReflectliteType.relation "AssignableTo" ReflectliteType.assignableTo #[.agg #[hnd 72], .iface 137 (.agg #[hnd 72])]).run prog w = .ok (.bool true) w := by kernel_rfl
theorem M_elemOf (w : World) : (Rtype.elem? 74).run prog w = .ok (some 72) w := by kernel_rfl
theorem M_mk (p : Addr) (w : World) : (ReflectliteValue.mk 72 p ReflectliteValue.flagAddr).run prog w = .ok (.agg #[hnd 72, .pointer (some p), .int .u64 409]) w := by kernel_rfl
theorem M_elemV (a p : Addr) (W : World) (ha : W.cell? a = some (.pointer (some p))) :
   (ReflectliteValue.method (ReflectliteValue.valueError "reflectlite.Value.Elem" 0) ReflectliteValue.elem #[.agg #[hnd 74, .pointer (some a), .int .u64 150]]).run prog W = .ok (.agg #[hnd 72, .pointer (some p), .int .u64 409]) W := by
 rw [rl_m]
 simp only [Sem.run_bind, M_partsT, Result.andThen]
 simp [ReflectliteValue.elem, loadVar, isAgg, underlying, underlying74, ha, Result.andThen, M_elemOf, M_mk]
theorem M_partsA (a : Addr) (w : World) : (ReflectliteValue.parts (.agg #[hnd 72, .pointer (some a), .int .u64 409])).run prog w = .ok (some (72, a, 409)) w := by kernel_rfl
theorem M_parts (a : Addr) (w : World) : (ReflectliteValue.parts (.agg #[hnd 72, .pointer (some a), .int .u64 153])).run prog w = .ok (some (72, a, 153)) w := by kernel_rfl
theorem M_direct (w : World) : (Rtype.directlyAssignable 72 72).run prog w = .ok true w := by kernel_rfl
theorem M_valueOf (a n : Int) (w : World) : (ReflectliteValue.unpack (.iface 72 (.agg #[.int .i64 a, .int .i64 n]))).run prog w = .ok (.agg #[hnd 72, .pointer (some ⟨w.heap.size, 0, none⟩), .int .u64 153]) (w.alloc (.cells #[.int .i64 a, .int .i64 n] 72)) := by kernel_rfl
theorem not_assignable_M (w : World) : (ReflectliteType.relation "AssignableTo" ReflectliteType.assignableTo #[.agg #[hnd 34], .iface 137 (.agg #[hnd 72])]).run prog w = .ok (.bool false) w := by kernel_rfl
theorem M_set (tb bb : Nat) (a n a0 n0 : Int) (W : World) (hb : W.cell? ⟨bb, 0, none⟩ = some (.int .i64 a)) (hb1 : W.cell? ⟨bb, 1, none⟩ = some (.int .i64 n)) (ht : W.cell? ⟨tb, 0, none⟩ = some (.int .i64 a0)) (ht1 : W.cell? ⟨tb, 1, none⟩ = some (.int .i64 n0)) (hf : W.frozen? ⟨tb, 0, none⟩ = false) (hf1 : W.frozen? ⟨tb, 1, none⟩ = false) :
   (ReflectliteValue.set #[.agg #[hnd 72, .pointer (some ⟨tb, 0, none⟩), .int .u64 409], .agg #[hnd 72, .pointer (some ⟨bb, 0, none⟩), .int .u64 153]]).run prog W = .ok (.tuple #[]) ((W.setCell ⟨tb, 0, none⟩ (.int .i64 a)).setCell ⟨tb, 1, none⟩ (.int .i64 n)) := by
 rw [rl_s]
 simp only [Sem.run_bind, M_partsA, M_parts, Result.andThen]
 simp [ReflectliteValue.flagAddr, loadVar, isAgg, underlying, underlying72, Result.andThen, M_direct, storeVar, Value.cells, storeCells, Addr.add]
 simp [go_sem, loadCells, loadCellsFrom, hb, hb1, ht, ht1, hf, hf1]
theorem un_M (v : Value) (w : World) : (Instr.typeAssert (.iface 72 v) 53 144 true).run prog w = .ok (.tuple #[.iface 72 v, .bool true]) w := run_typeAssert_hasB underlying144 (by kernel_rfl) v _ w
theorem m_unwrap_M (a n : Value) (w : World) : (Go.method 394 72 (.agg #[a, n]) "Unwrap").run prog w = .ok (252, .agg #[a, n]) w := by kernel_rfl
theorem as_M (a n a0 n0 : Int) (tb : Nat) (va : Addr) (t : Value) (w : World) (hv : w.cell? va = some (.pointer (some ⟨tb, 0, none⟩))) (ht : w.cell? ⟨tb, 0, none⟩ = some (.int .i64 a0)) (ht1 : w.cell? ⟨tb, 1, none⟩ = some (.int .i64 n0)) (hf : w.frozen? ⟨tb, 0, none⟩ = false) (hf1 : w.frozen? ⟨tb, 1, none⟩ = false) :
   Calls prog 50 #[.iface 72 (.agg #[.int .i64 a, .int .i64 n]), t, .agg #[hnd 74, .pointer (some va), .int .u64 150], .iface 137 (.agg #[hnd 72])] w fun e w' => e = .returned (.bool true) ∧ Kept tb w w' ∧
     w'.cell? ⟨tb, 0, none⟩ = some (.int .i64 a) ∧ w'.cell? ⟨tb, 1, none⟩ = some (.int .i64 n) := by
 have x0 := @run_callFunc_extern prog 51 _ ReflectliteType.typeOf func51 (by kernel_rfl) (by kernel_rfl) (by kernel_rfl) (by kernel_rfl)
 have x1 := @run_callFunc_extern prog 257 _ (ReflectliteType.relation "AssignableTo" ReflectliteType.assignableTo) func257 (by kernel_rfl) (by kernel_rfl) (by kernel_rfl) (by kernel_rfl)
 have x2 := @run_callFunc_extern prog 77 _ (ReflectliteValue.method (ReflectliteValue.valueError "reflectlite.Value.Elem" 0) ReflectliteValue.elem) func77 (by kernel_rfl) (by kernel_rfl) (by kernel_rfl) (by kernel_rfl)
 have x3 := @run_callFunc_extern prog 47 _ (fun args => ReflectliteValue.unpack (args.getD 0 (.tuple #[]))) func47 (by kernel_rfl) (by kernel_rfl) (by kernel_rfl) (by kernel_rfl)
 have x4 := @run_callFunc_extern prog 78 _ ReflectliteValue.set func78 (by kernel_rfl) (by kernel_rfl) (by kernel_rfl) (by kernel_rfl)
 have tO := M_typeOf
 have mA := m_assignable
 have aP := M_assignable
 have vO := M_valueOf
 have hva : va.block < w.heap.size := World.block_lt_of_cell? w _ hv
 have htb : tb < w.heap.size := World.block_lt_of_cell? w _ ht
 have eV := M_elemV va ⟨tb, 0, none⟩ (w.alloc (.cells #[hnd 74, .pointer (some va), .int .u64 150] 102)) (by rw [World.cell?_alloc_lt _ _ va hva]; exact hv)
 have q := fun i => a2_old htb (.cells #[hnd 74, .pointer (some va), .int .u64 150] 102) (.cells #[.int .i64 a, .int .i64 n] 72) i
 have st := M_set tb (w.heap.size + 1) a n a0 n0 ((w.alloc (.cells #[hnd 74, .pointer (some va), .int .u64 150] 102)).alloc (.cells #[.int .i64 a, .int .i64 n] 72)) (by simp) (by simp) ((q 0).1.trans ht) ((q 1).1.trans ht1) ((q 0).2.trans hf) ((q 1).2.trans hf1)
 clear q
 go_enter func50, ntmps50
 go_wp2
 refine wp_loop_rounds 1 ?_
 rw [rounds_succ]
 go_wp2
 go_ret
 refine ⟨rfl, ?_, ?_, ?_⟩
 · repeat (with_reducible first | exact Kept.refl _ _ | refine Kept.setCell ?_ _ _ | refine Kept.alloc ?_ _)
 · exact (((Kept.refl w.heap.size _).alloc _).alloc _).cell (by omega) (by simp [go_sem, ht])
 · exact (((Kept.refl w.heap.size _).alloc _).alloc _).cell (by omega) (by simp [go_sem, ht1])
theorem as_EM (n : Int) (va : Value) (t : Value) (w : World) :
   Calls prog 50 #[.iface 34 (.int .i64 n), t, .agg #[hnd 74, va, .int .u64 150], .iface 137 (.agg #[hnd 72])] w fun e w' => e = .returned (.bool false) ∧ Below w.heap.size w w' := by
 have x0 := @run_callFunc_extern prog 51 _ ReflectliteType.typeOf func51 (by kernel_rfl) (by kernel_rfl) (by kernel_rfl) (by kernel_rfl)
 have x1 := @run_callFunc_extern prog 257 _ (ReflectliteType.relation "AssignableTo" ReflectliteType.assignableTo) func257 (by kernel_rfl) (by kernel_rfl) (by kernel_rfl) (by kernel_rfl)
 have tO := E_typeOf
 have mA := m_assignable
 have aP := not_assignable_M
 have n1 := no_as_E
 have n2 := no_un_E
 have n3 := no_us_E
 go_enter func50, ntmps50
 go_wp2
 refine wp_loop_rounds 1 ?_
 rw [rounds_succ]
 go_wp2
 go_ret
 exact ⟨rfl, (Below.refl _ _).alloc (Nat.le_refl _) _⟩
theorem unwrap_M (a n : Int) (w : World) : Calls prog 252 #[.agg #[.int .i64 a, .int .i64 n]] w fun e w' => e = .returned (.iface 34 (.int .i64 n)) ∧ w' = w.alloc (.cells #[.int .i64 a, .int .i64 n] 72) := by
 go_enter func252, ntmps252
 go_wp2
 go_ret
 exact ⟨rfl, rfl⟩
theorem M_As (T : TypeId) (u : Value) (tb : Nat) (b : Bool) (R : World → Prop) (w : World) (hg : ErrT w) (htb : tb < w.heap.size)
   (h : ∀ w' (va : Addr) (t : Value), Below w.heap.size w w' → w'.cell? va = some (.pointer (some ⟨tb, 0, none⟩)) → w.heap.size ≤ va.block →
     Calls prog 50 #[.iface T u, t, .agg #[hnd 74, .pointer (some va), .int .u64 150], .iface 137 (.agg #[hnd 72])] w' fun e w'' => e = .returned (.bool b) ∧ R w'') :
   Calls prog 27 #[.iface T u, .iface 74 (.pointer (some ⟨tb, 0, none⟩))] w fun e w' => e = .returned (.bool b) ∧ R w' := by
 have x0 := @run_callFunc_extern prog 47 _ (fun args => ReflectliteValue.unpack (args.getD 0 (.tuple #[]))) func47 (by kernel_rfl) (by kernel_rfl) (by kernel_rfl) (by kernel_rfl)
 have x1 := @run_callFunc_extern prog 48 _ (ReflectliteValue.methodAny (ReflectliteValue.valueError "reflectlite.Value.Type" 0) (fun t _ _ _ => ReflectliteType.toType t)) func48 (by kernel_rfl) (by kernel_rfl) (by kernel_rfl) (by kernel_rfl)
 have x2 := @run_callFunc_extern prog 49 _ (ReflectliteValue.method (ReflectliteValue.valueError "reflectlite.Value.IsNil" 0) ReflectliteValue.isNil) func49 (by kernel_rfl) (by kernel_rfl) (by kernel_rfl) (by kernel_rfl)
 have x3 := @run_callFunc_extern prog 246 _ (ReflectliteType.abiMethod fun t => do pure (.int .u8 (← Rtype.kind t))) func246 (by kernel_rfl) (by kernel_rfl) (by kernel_rfl) (by kernel_rfl)
 have x4 := @run_callFunc_extern prog 259 _ (ReflectliteType.method ReflectliteType.elem) func259 (by kernel_rfl) (by kernel_rfl) (by kernel_rfl) (by kernel_rfl)
 have x5 := @run_callFunc_extern prog 260 _ (ReflectliteType.relation "Implements" ReflectliteType.implements_) func260 (by kernel_rfl) (by kernel_rfl) (by kernel_rfl) (by kernel_rfl)
 have vT := M_valueOfT
 have tT := M_typeT
 have mK := m_kind
 have mE := m_elem
 have mI := m_implements
 have kT := M_kindT
 have kE := M_kindE
 have eT := M_elemT
 have iE := M_implements
 have h0 : 0 < w.heap.size := World.block_lt_of_cell? w _ hg
 have nI := M_isNilT ⟨w.heap.size, 0, none⟩ ⟨tb, 0, none⟩ ((w.alloc (.cells #[.pointer (some ⟨tb, 0, none⟩)] 74)).alloc (.cells #[hnd 74, .pointer (some ⟨w.heap.size, 0, none⟩), .int .u64 150] 102)) (by simp)
 have hB : Below w.heap.size w ((w.alloc (.cells #[.pointer (some ⟨tb, 0, none⟩)] 74)).alloc (.cells #[hnd 74, .pointer (some ⟨w.heap.size, 0, none⟩), .int .u64 150] 102)) := ((Below.refl _ _).alloc (Nat.le_refl _) _).alloc (by simp) _
 have hg2 : ((w.alloc (.cells #[.pointer (some ⟨tb, 0, none⟩)] 74)).alloc (.cells #[hnd 74, .pointer (some ⟨w.heap.size, 0, none⟩), .int .u64 150] 102)).cell? ⟨0, 0, none⟩ = some (.iface 137 (.agg #[hnd 53])) := cell_later hB hg
 have HH := hid h
 clear h
 unfold hnd at vT tT kT kE eT iE nI hg2 hB HH
 have hva : ((w.alloc (.cells #[.pointer (some ⟨tb, 0, none⟩)] 74)).alloc (.cells #[.pointer (some ⟨10, 74, none⟩), .pointer (some ⟨w.heap.size, 0, none⟩), .int .u64 150] 102)).cell? ⟨w.heap.size, 0, none⟩ = some (.pointer (some ⟨tb, 0, none⟩)) := by simp
 go_enter func27, ntmps27
 go_wp2_with (go_at_call 50; refine (HH.out _ ⟨w.heap.size, 0, none⟩ _ hB hva (Nat.le_refl _)).mono ?_; rintro e w2 ⟨rfl, hR⟩)
 go_ret
 exact ⟨rfl, hR⟩
end Go.Proofs.YticehalcnbjccaaGreatDoor.SourceC
namespace Go.Proofs.YticehalcnbjccaaGreatDoor.SourceC
set_option maxRecDepth 100000
set_option maxHeartbeats 8000000
set_option linter.unusedVariables false
set_option linter.unusedSimpArgs false
open Go.RowKit Go.Extern.Stop Go.Stop Go.Extern NumC LexC TreeC
open Tryz
theorem I_typeOf (v : Value) (w : World) : (Extern.ReflectliteType.typeOf #[.iface 34 v]).run prog w = .ok (.iface 137 (.agg #[hnd 34])) w := by kernel_rfl
theorem I_comparable (w : World) : ((Extern.ReflectliteType.method fun t => do Rtype.noPackHeld "Comparable" t; (fun a => Value.bool a.comparable) <$> typeInfo t) #[.agg #[hnd 34]]).run prog w = .ok (.bool true) w := by kernel_rfl
theorem I_m (v : Value) (w : World) : (Go.method 394 137 v "Comparable").run prog w = .ok (258, v) w := by kernel_rfl
theorem I_comp : (prog.info? 34).map (·.comparable) = some true := by kernel_rfl
theorem no_is_E (v : Value) (xT : TypeId) (w : World) : (Instr.typeAssert (.iface 34 v) xT 149 true).run prog w = .ok (.tuple #[.nilIface, .bool false]) w := run_typeAssert_lacksB underlying149 (by kernel_rfl) (by kernel_rfl) v xT w
theorem no_is_M (v : Value) (xT : TypeId) (w : World) : (Instr.typeAssert (.iface 72 v) xT 149 true).run prog w = .ok (.tuple #[.nilIface, .bool false]) w := run_typeAssert_lacksB underlying149 (by kernel_rfl) (by kernel_rfl) v xT w
theorem eq_E (a b : Int) (w : World) : (binOp .eql 53 (.iface 34 (.int .i64 a)) (.iface 34 (.int .i64 b))).run prog w = .ok (.bool (a == b)) w := by
 obtain ⟨i, hi, hcmp⟩ := Option.map_eq_some_iff.1 I_comp
 have h : ∀ d : Nat, (Op.equalIn (d + 2) 53 (.iface 34 (.int .i64 a)) (.iface 34 (.int .i64 b))).run prog w = .ok (a == b) w := fun d => by
   simp [Op.equalIn, run_underlying underlying53, run_underlying underlying34, typeInfo, hi, hcmp]
 simp only [binOp]
 simp [Op.equal, Op.maxDepth, h 9998]
theorem is_nil (n : Int) (w : World) : Calls prog 28 #[.nilIface, .iface 34 (.int .i64 n)] w fun e w' => e = .returned (.bool false) ∧ w' = w := by
 have hn := run_eql_iface_nil_left (P := prog) w 34 (.int .i64 n) underlying53
 go_enter func28, ntmps28
 go_wp2
 go_ret
 exact ⟨rfl, rfl⟩
theorem is_E (a n : Int) (w : World) : Calls prog 28 #[.iface 34 (.int .i64 a), .iface 34 (.int .i64 n)] w fun e w' => e = .returned (.bool (a == n)) ∧ Below w.heap.size w w' := by
 have h8 := @run_callFunc_extern prog 51 _ Extern.ReflectliteType.typeOf func51 (by kernel_rfl) (by kernel_rfl) (by kernel_rfl) (by kernel_rfl)
 have h32 := @run_callFunc_extern prog 258 _ (Extern.ReflectliteType.method fun t => do Rtype.noPackHeld "Comparable" t; pure (.bool (← typeInfo t).comparable)) func258 (by kernel_rfl) (by kernel_rfl) (by kernel_rfl) (by kernel_rfl)
 have tT := I_typeOf
 have cT := I_comparable
 have mR := I_m
 have n1 := no_is_E
 have n2 := no_un_E
 have n3 := no_us_E
 have q := eq_E a n
 cases hb : a == n <;> rw [hb] at q
 all_goals
   go_enter func28, ntmps28
   go_wp2
   refine wp_loop_rounds 1 ?_
   rw [rounds_succ]
   go_wp2
   go_ret
   exact ⟨rfl, Below.refl _ _⟩
theorem is_M (p a n : Int) (w : World) : Calls prog 28 #[.iface 72 (.agg #[.int .i64 p, .int .i64 a]), .iface 34 (.int .i64 n)] w fun e w' => e = .returned (.bool (a == n)) ∧ Below w.heap.size w w' := by
 have h8 := @run_callFunc_extern prog 51 _ Extern.ReflectliteType.typeOf func51 (by kernel_rfl) (by kernel_rfl) (by kernel_rfl) (by kernel_rfl)
 have h32 := @run_callFunc_extern prog 258 _ (Extern.ReflectliteType.method fun t => do Rtype.noPackHeld "Comparable" t; pure (.bool (← typeInfo t).comparable)) func258 (by kernel_rfl) (by kernel_rfl) (by kernel_rfl) (by kernel_rfl)
 have tT := I_typeOf
 have cT := I_comparable
 have mR := I_m
 have n1 := no_is_E
 have n2 := no_un_E
 have n3 := no_us_E
 have n4 := no_is_M
 have n5 := un_M
 have mU := m_unwrap_M
 have q := eq_E a n
 have hty := fun W => run_eql_iface_types (P := prog) 72 34 (.agg #[.int .i64 p, .int .i64 a]) (.int .i64 n) underlying53 (by decide) W
 cases hb : a == n <;> rw [hb] at q
 all_goals
   go_enter func28, ntmps28
   go_wp2
   refine wp_loop_rounds 2 ?_
   rw [rounds_succ]
   go_wp2_with fail
   refine (unwrap_M p a w).mono ?_; rintro e w2 ⟨rfl, rfl⟩
   go_wp2_with fail
   rw [rounds_succ]
   go_wp2
   go_ret
   exact ⟨rfl, (Below.refl _ _).alloc (Nat.le_refl _) _⟩
end Go.Proofs.YticehalcnbjccaaGreatDoor.SourceC
namespace Go.Proofs.YticehalcnbjccaaGreatDoor.SourceC
set_option maxRecDepth 100000
set_option maxHeartbeats 8000000
set_option linter.unusedVariables false
set_option linter.unusedSimpArgs false
open Go.RowKit NumC TreeC PrintC
open Tryz
open Lib (hid)
def OneE (n : Int) : Prop := n = 2 ∨ n = 11 ∨ n = 12 ∨ n = 13 ∨ n = 14
inductive ErrV : Value → Int → Int → Prop
 | none : ErrV .nilIface 0 0
 | num {n : Int} (h : OneE n) : ErrV (.iface 34 (.int .i64 n)) 0 n
 | at_ {a n : Int} (h : OneE n) : ErrV (.iface 72 (.agg #[.int .i64 a, .int .i64 n])) a n
theorem cutF_err : ∀ (f : Nat) (l : List UInt8) (i : Nat) (acc : List LexC.Tok), (LexC.cutF f l i acc).err = 0 ∨ (LexC.cutF f l i acc).err = 12 := by
 intro f
 induction f with
 | zero => intro l i acc; exact Or.inl rfl
 | succ f ih =>
   intro l i acc
   cases l with
   | nil => exact Or.inl rfl
   | cons c l =>
     rw [LexC.cutF]
     by_cases hc : c = 32
     · rw [if_pos hc]; exact ih l (i + 1) acc
     · rw [if_neg hc]
       cases hn : LexC.nextL (c :: l) with
       | none => exact Or.inr rfl
       | some r => obtain ⟨k, n, s, m⟩ := r; exact ih _ _ _
theorem parse_one (s : List UInt8) : (parseL s).err = 0 ∨ OneE (parseL s).err := by
 unfold parseL
 by_cases h0 : (LexC.cutL s).err ≠ 0
 · rw [if_pos h0]
   refine Or.inr ?_
   show OneE (LexC.cutL s).err
   unfold LexC.cutL at h0 ⊢
   by_cases h3 : 300 < s.length
   · rw [if_pos h3]; exact Or.inl rfl
   · rw [if_neg h3] at h0 ⊢
     rcases cutF_err (s.length + 1) s 0 [] with h | h
     · exact absurd h h0
     · rw [h]; exact Or.inr (Or.inr (Or.inl rfl))
 · rw [if_neg h0]
   cases ht : treeF (LexC.cutL s).toks s.length with
   | ok a =>
     simp only
     by_cases hd : 16 < a.deep
     · rw [if_pos hd]; exact Or.inr (Or.inr (Or.inr (Or.inr (Or.inr rfl))))
     · rw [if_neg hd]; exact Or.inl rfl
   | error e =>
     simp only
     rcases tree_wrong ht with rfl | ⟨j, rfl⟩
     · exact Or.inr (Or.inr (Or.inr (Or.inr (Or.inr rfl))))
     · exact Or.inr (Or.inr (Or.inr (Or.inr (Or.inl rfl))))
theorem nil_As (v : Value) (w : World) : Calls prog 27 #[.nilIface, v] w fun e w' => e = .returned (.bool false) ∧ w' = w := by
 go_enter func27, ntmps27
 go_wp2
 go_ret
 exact ⟨rfl, rfl⟩
theorem cwhere {E : Value} {a n : Int} (h : ErrV E a n) (w : World) (hg : ErrT w) :
   Calls prog 16 #[E] w fun e w' => e = .returned (.int .i64 a) ∧ Below w.heap.size w w' := by
 have hb1 : Below w.heap.size w (w.alloc (.cells #[.int .i64 0, .int .i64 0] 72)) := (Below.refl _ _).alloc (Nat.le_refl _) _
 cases h with
 | none =>
   go_enter func16, ntmps16
   go_wp2_with fail
   refine (nil_As _ (w.alloc (.cells #[.int .i64 0, .int .i64 0] 72))).mono ?_; rintro e w2 ⟨rfl, rfl⟩
   go_wp2_with fail
   go_ret
   exact ⟨rfl, hb1⟩
 | num h =>
   go_enter func16, ntmps16
   go_wp2_with fail
   refine (M_As 34 _ w.heap.size false (fun w' => Below (w.alloc (.cells #[.int .i64 0, .int .i64 0] 72)).heap.size (w.alloc (.cells #[.int .i64 0, .int .i64 0] 72)) w') (w.alloc (.cells #[.int .i64 0, .int .i64 0] 72)) (hg.below hb1) (by simp) (fun w' va t hb hv hge => ?_)).mono ?_
   · refine (as_EM n _ t w').mono ?_
     rintro e w2 ⟨rfl, hb2⟩
     exact ⟨rfl, hb.trans (hb2.mono hb.size)⟩
   · rintro e w2 ⟨rfl, hb2⟩
     have q0 : w2.cell? ⟨w.heap.size, 0, none⟩ = some (.int .i64 0) := cell_later hb2 (by simp)
     go_wp2_with fail
     go_ret
     exact ⟨rfl, hb1.trans (hb2.mono (by simp))⟩
 | at_ h =>
   go_enter func16, ntmps16
   go_wp2_with fail
   refine (M_As 72 _ w.heap.size true (fun w' => Kept w.heap.size (w.alloc (.cells #[.int .i64 0, .int .i64 0] 72)) w' ∧ w'.cell? ⟨w.heap.size, 0, none⟩ = some (.int .i64 a)) (w.alloc (.cells #[.int .i64 0, .int .i64 0] 72)) (hg.below hb1) (by simp) (fun w' va t hb hv hge => ?_)).mono ?_
   · have hc (i : Nat) (hi : i = 0 ∨ i = 1) : w'.cell? ⟨w.heap.size, i, none⟩ = some (.int .i64 0) := by
       refine cell_later hb ?_
       rcases hi with rfl | rfl <;> simp
     have hf (i : Nat) : w'.frozen? ⟨w.heap.size, i, none⟩ = false := by
       have e := hb.block w.heap.size (by simp)
       rw [heap_alloc_new] at e
       simp [World.frozen?, e]
     refine (as_M a n 0 0 w.heap.size va t w' hv (hc 0 (Or.inl rfl)) (hc 1 (Or.inr rfl)) (hf 0) (hf 1)).mono ?_
     rintro e w2 ⟨rfl, k2, q0, q1⟩
     exact ⟨rfl, (Kept.of hb).trans k2, q0⟩
   · rintro e w2 ⟨rfl, k2, q0⟩
     go_wp2_with fail
     go_ret
     exact ⟨rfl, (((Kept.refl w.heap.size w).alloc _).trans k2).below (Nat.le_refl _)⟩
theorem cis {E : Value} {a n : Int} (h : ErrV E a n) (m : Int) (hm : m ≠ 0) (w : World) : Calls prog 28 #[E, .iface 34 (.int .i64 m)] w fun e w' => e = .returned (.bool (n == m)) ∧ Below w.heap.size w w' := by
 cases h with
 | none =>
   refine (is_nil m w).mono ?_; rintro e w2 ⟨rfl, rfl⟩
   exact ⟨by rw [beq_eq_false_iff_ne.2 (fun e => hm e.symm)], Below.refl _ _⟩
 | num h => exact is_E n m w
 | at_ h => exact is_M a n m w
theorem ErrV.one {E : Value} {a n : Int} (h : ErrV E a n) : n = 0 ∨ OneE n := by
 cases h with
 | none => exact Or.inl rfl
 | num h => exact Or.inr h
 | at_ h => exact Or.inr h
theorem ErrV.some {E : Value} {a n : Int} (h : ErrV E a n) (hn : n ≠ 0) : ∃ T u, E = .iface T u := by
 cases h with
 | none => exact absurd rfl hn
 | num h => exact ⟨_, _, rfl⟩
 | at_ h => exact ⟨_, _, rfl⟩
theorem ErrV.nil {E : Value} {a : Int} (h : ErrV E a 0) : E = .nilIface ∧ a = 0 := by
 generalize hn : (0 : Int) = n at h
 cases h with
 | none => exact ⟨rfl, rfl⟩
 | num h => subst hn; exact absurd h (by unfold OneE; decide)
 | at_ h => subst hn; exact absurd h (by unfold OneE; decide)
theorem cwhy {E : Value} {a n : Int} (h : ErrV E a n) (w : World) :
   Calls prog 17 #[E] w fun e w' => e = .returned (.int .i64 n) ∧ Below w.heap.size w w' := by
 have HI := hid (fun m hm W => cis h m hm W)
 have i0 : ∀ w, (Instr.index 75 (.agg #[.int .i64 2, .int .i64 11, .int .i64 12, .int .i64 13, .int .i64 14]) (.int .i64 0)).run prog w = .ok (.int .i64 2) w := fun _ => by kernel_rfl
 have i1 : ∀ w, (Instr.index 75 (.agg #[.int .i64 2, .int .i64 11, .int .i64 12, .int .i64 13, .int .i64 14]) (.int .i64 1)).run prog w = .ok (.int .i64 11) w := fun _ => by kernel_rfl
 have i2 : ∀ w, (Instr.index 75 (.agg #[.int .i64 2, .int .i64 11, .int .i64 12, .int .i64 13, .int .i64 14]) (.int .i64 2)).run prog w = .ok (.int .i64 12) w := fun _ => by kernel_rfl
 have i3 : ∀ w, (Instr.index 75 (.agg #[.int .i64 2, .int .i64 11, .int .i64 12, .int .i64 13, .int .i64 14]) (.int .i64 3)).run prog w = .ok (.int .i64 13) w := fun _ => by kernel_rfl
 have i4 : ∀ w, (Instr.index 75 (.agg #[.int .i64 2, .int .i64 11, .int .i64 12, .int .i64 13, .int .i64 14]) (.int .i64 4)).run prog w = .ok (.int .i64 14) w := fun _ => by kernel_rfl
 rcases h.one with rfl | rfl | rfl | rfl | rfl | rfl
 · go_enter func17, ntmps17
   go_wp2_with fail
   refine wp_loop_rounds 6 ?_
   have B0 := Below.refl w.heap.size w
   rw [rounds_succ]
   go_wp2_with fail
   refine (HI.out 2 (by decide) _).mono ?_; rintro e w1 ⟨rfl, hb1⟩
   have B1 := B0.trans (hb1.mono B0.size)
   rw [show ((0 : Int) == 2) = false from rfl]
   go_wp2_with fail
   rw [rounds_succ]
   go_wp2_with fail
   refine (HI.out 11 (by decide) _).mono ?_; rintro e w2 ⟨rfl, hb2⟩
   have B2 := B1.trans (hb2.mono B1.size)
   rw [show ((0 : Int) == 11) = false from rfl]
   go_wp2_with fail
   rw [rounds_succ]
   go_wp2_with fail
   refine (HI.out 12 (by decide) _).mono ?_; rintro e w3 ⟨rfl, hb3⟩
   have B3 := B2.trans (hb3.mono B2.size)
   rw [show ((0 : Int) == 12) = false from rfl]
   go_wp2_with fail
   rw [rounds_succ]
   go_wp2_with fail
   refine (HI.out 13 (by decide) _).mono ?_; rintro e w4 ⟨rfl, hb4⟩
   have B4 := B3.trans (hb4.mono B3.size)
   rw [show ((0 : Int) == 13) = false from rfl]
   go_wp2_with fail
   rw [rounds_succ]
   go_wp2_with fail
   refine (HI.out 14 (by decide) _).mono ?_; rintro e w5 ⟨rfl, hb5⟩
   have B5 := B4.trans (hb5.mono B4.size)
   rw [show ((0 : Int) == 14) = false from rfl]
   go_wp2_with fail
   rw [rounds_succ]
   go_wp2_with fail
   go_ret
   exact ⟨rfl, B5⟩
 · go_enter func17, ntmps17
   go_wp2_with fail
   refine wp_loop_rounds 1 ?_
   have B0 := Below.refl w.heap.size w
   rw [rounds_succ]
   go_wp2_with fail
   refine (HI.out 2 (by decide) _).mono ?_; rintro e w1 ⟨rfl, hb1⟩
   have B1 := B0.trans (hb1.mono B0.size)
   rw [show ((2 : Int) == 2) = true from rfl]
   go_wp2_with fail
   go_ret
   exact ⟨rfl, B1⟩
 · go_enter func17, ntmps17
   go_wp2_with fail
   refine wp_loop_rounds 2 ?_
   have B0 := Below.refl w.heap.size w
   rw [rounds_succ]
   go_wp2_with fail
   refine (HI.out 2 (by decide) _).mono ?_; rintro e w1 ⟨rfl, hb1⟩
   have B1 := B0.trans (hb1.mono B0.size)
   rw [show ((11 : Int) == 2) = false from rfl]
   go_wp2_with fail
   rw [rounds_succ]
   go_wp2_with fail
   refine (HI.out 11 (by decide) _).mono ?_; rintro e w2 ⟨rfl, hb2⟩
   have B2 := B1.trans (hb2.mono B1.size)
   rw [show ((11 : Int) == 11) = true from rfl]
   go_wp2_with fail
   go_ret
   exact ⟨rfl, B2⟩
 · go_enter func17, ntmps17
   go_wp2_with fail
   refine wp_loop_rounds 3 ?_
   have B0 := Below.refl w.heap.size w
   rw [rounds_succ]
   go_wp2_with fail
   refine (HI.out 2 (by decide) _).mono ?_; rintro e w1 ⟨rfl, hb1⟩
   have B1 := B0.trans (hb1.mono B0.size)
   rw [show ((12 : Int) == 2) = false from rfl]
   go_wp2_with fail
   rw [rounds_succ]
   go_wp2_with fail
   refine (HI.out 11 (by decide) _).mono ?_; rintro e w2 ⟨rfl, hb2⟩
   have B2 := B1.trans (hb2.mono B1.size)
   rw [show ((12 : Int) == 11) = false from rfl]
   go_wp2_with fail
   rw [rounds_succ]
   go_wp2_with fail
   refine (HI.out 12 (by decide) _).mono ?_; rintro e w3 ⟨rfl, hb3⟩
   have B3 := B2.trans (hb3.mono B2.size)
   rw [show ((12 : Int) == 12) = true from rfl]
   go_wp2_with fail
   go_ret
   exact ⟨rfl, B3⟩
 · go_enter func17, ntmps17
   go_wp2_with fail
   refine wp_loop_rounds 4 ?_
   have B0 := Below.refl w.heap.size w
   rw [rounds_succ]
   go_wp2_with fail
   refine (HI.out 2 (by decide) _).mono ?_; rintro e w1 ⟨rfl, hb1⟩
   have B1 := B0.trans (hb1.mono B0.size)
   rw [show ((13 : Int) == 2) = false from rfl]
   go_wp2_with fail
   rw [rounds_succ]
   go_wp2_with fail
   refine (HI.out 11 (by decide) _).mono ?_; rintro e w2 ⟨rfl, hb2⟩
   have B2 := B1.trans (hb2.mono B1.size)
   rw [show ((13 : Int) == 11) = false from rfl]
   go_wp2_with fail
   rw [rounds_succ]
   go_wp2_with fail
   refine (HI.out 12 (by decide) _).mono ?_; rintro e w3 ⟨rfl, hb3⟩
   have B3 := B2.trans (hb3.mono B2.size)
   rw [show ((13 : Int) == 12) = false from rfl]
   go_wp2_with fail
   rw [rounds_succ]
   go_wp2_with fail
   refine (HI.out 13 (by decide) _).mono ?_; rintro e w4 ⟨rfl, hb4⟩
   have B4 := B3.trans (hb4.mono B3.size)
   rw [show ((13 : Int) == 13) = true from rfl]
   go_wp2_with fail
   go_ret
   exact ⟨rfl, B4⟩
 · go_enter func17, ntmps17
   go_wp2_with fail
   refine wp_loop_rounds 5 ?_
   have B0 := Below.refl w.heap.size w
   rw [rounds_succ]
   go_wp2_with fail
   refine (HI.out 2 (by decide) _).mono ?_; rintro e w1 ⟨rfl, hb1⟩
   have B1 := B0.trans (hb1.mono B0.size)
   rw [show ((14 : Int) == 2) = false from rfl]
   go_wp2_with fail
   rw [rounds_succ]
   go_wp2_with fail
   refine (HI.out 11 (by decide) _).mono ?_; rintro e w2 ⟨rfl, hb2⟩
   have B2 := B1.trans (hb2.mono B1.size)
   rw [show ((14 : Int) == 11) = false from rfl]
   go_wp2_with fail
   rw [rounds_succ]
   go_wp2_with fail
   refine (HI.out 12 (by decide) _).mono ?_; rintro e w3 ⟨rfl, hb3⟩
   have B3 := B2.trans (hb3.mono B2.size)
   rw [show ((14 : Int) == 12) = false from rfl]
   go_wp2_with fail
   rw [rounds_succ]
   go_wp2_with fail
   refine (HI.out 13 (by decide) _).mono ?_; rintro e w4 ⟨rfl, hb4⟩
   have B4 := B3.trans (hb4.mono B3.size)
   rw [show ((14 : Int) == 13) = false from rfl]
   go_wp2_with fail
   rw [rounds_succ]
   go_wp2_with fail
   refine (HI.out 14 (by decide) _).mono ?_; rintro e w5 ⟨rfl, hb5⟩
   have B5 := B4.trans (hb5.mono B4.size)
   rw [show ((14 : Int) == 14) = true from rfl]
   go_wp2_with fail
   go_ret
   exact ⟨rfl, B5⟩
end Go.Proofs.YticehalcnbjccaaGreatDoor.SourceC
namespace Go.Proofs.YticehalcnbjccaaGreatDoor.SourceC
set_option maxRecDepth 100000
set_option maxHeartbeats 8000000
set_option linter.unusedVariables false
set_option linter.unusedSimpArgs false
open Go.RowKit NumC TreeC PrintC
open LexC (str nob str_size LexLib)
open ValueC (Val GoodP goodB goodB_t goodB_f nos zeroV showL trueL falseL size_nos)
open Cd
structure SBox (T : Nat) (w : World) (b : Nat) : Prop where
 at_ : w.heap[b]? = some (.cells jSZ T (0, 0))
theorem SBox.new (T : Nat) (w : World) : SBox T (w.alloc (.cells jSZ T)) w.heap.size := ⟨heap_alloc_new _ _⟩
theorem SBox.lt {T : Nat} {w : World} {b : Nat} (h : SBox T w b) : b < w.heap.size := (Array.getElem?_eq_some_iff.1 h.at_).1
theorem SBox.kept {T : Nat} {w w' : World} {b y : Nat} (h : SBox T w b) (hk : Kept y w w') (hb : b ≠ y) : SBox T w' b := ⟨(hk.block b h.lt hb).trans h.at_⟩
theorem SBox.cells {T : Nat} {w : World} {b : Nat} (h : SBox T w b) :
   w.cell? ⟨b, 0, none⟩ = some (.int .i64 0) ∧ w.cell? ⟨b, 1, none⟩ = some (.int .i64 0) ∧ w.cell? ⟨b, 2, none⟩ = some (.int .i64 0) ∧ w.cell? ⟨b, 3, none⟩ = some (.string { data := #[] }) ∧ w.cell? ⟨b, 4, none⟩ = some (.int .i64 0) ∧ w.cell? ⟨b, 5, none⟩ = some (.int .i64 0) ∧ w.cell? ⟨b, 6, none⟩ = some (.int .i64 0) ∧ w.cell? ⟨b, 7, none⟩ = some (.string { data := #[] }) ∧ w.cell? ⟨b, 8, none⟩ = some (.int .i64 0) ∧ w.cell? ⟨b, 9, none⟩ = some (.int .i64 0) ∧ w.cell? ⟨b, 10, none⟩ = some (.int .i64 0) ∧ w.cell? ⟨b, 11, none⟩ = some (.int .i64 0) ∧ w.cell? ⟨b, 12, none⟩ = some (.string { data := #[] }) ∧ w.cell? ⟨b, 13, none⟩ = some (.slice none 0 0) ∧ w.frozen? ⟨b, 0, none⟩ = false ∧ w.frozen? ⟨b, 1, none⟩ = false ∧ w.frozen? ⟨b, 2, none⟩ = false ∧ w.frozen? ⟨b, 3, none⟩ = false ∧ w.frozen? ⟨b, 4, none⟩ = false ∧ w.frozen? ⟨b, 5, none⟩ = false ∧ w.frozen? ⟨b, 6, none⟩ = false ∧ w.frozen? ⟨b, 7, none⟩ = false ∧ w.frozen? ⟨b, 8, none⟩ = false ∧ w.frozen? ⟨b, 9, none⟩ = false ∧ w.frozen? ⟨b, 10, none⟩ = false ∧ w.frozen? ⟨b, 11, none⟩ = false ∧ w.frozen? ⟨b, 12, none⟩ = false ∧ w.frozen? ⟨b, 13, none⟩ = false := by
 have h1 := h.at_
 refine ⟨?_, ?_, ?_, ?_, ?_, ?_, ?_, ?_, ?_, ?_, ?_, ?_, ?_, ?_, ?_, ?_, ?_, ?_, ?_, ?_, ?_, ?_, ?_, ?_, ?_, ?_, ?_, ?_⟩ <;> simp [World.cell?, World.frozen?, h1]
structure RLoc (T : Nat) (w : World) (b : Nat) (k vk vn : Int) (vs : ByteArray) (f : Fld) (A : Option Addr) (m c : Nat) : Prop where
 at_ : w.heap[b]? = some (.cells (jS k vk vn vs f A m c) T (0, 0))
theorem RLoc.lt {T : Nat} {w : World} {b : Nat} {k vk vn : Int} {vs : ByteArray} {f : Fld} {A : Option Addr} {m c : Nat} (h : RLoc T w b k vk vn vs f A m c) : b < w.heap.size := (Array.getElem?_eq_some_iff.1 h.at_).1
theorem RLoc.kept {T : Nat} {w w' : World} {b y : Nat} {k vk vn : Int} {vs : ByteArray} {f : Fld} {A : Option Addr} {m c : Nat} (h : RLoc T w b k vk vn vs f A m c) (hk : Kept y w w') (hb : b ≠ y) : RLoc T w' b k vk vn vs f A m c := ⟨(hk.block b h.lt hb).trans h.at_⟩
theorem RLoc.below {T : Nat} {w w' : World} {b : Nat} {k vk vn : Int} {vs : ByteArray} {f : Fld} {A : Option Addr} {m c : Nat} (h : RLoc T w b k vk vn vs f A m c) (hb : Below w.heap.size w w') : RLoc T w' b k vk vn vs f A m c := h.kept (Kept.of (x := w.heap.size) hb) (Nat.ne_of_lt h.lt)
theorem RLoc.cells {T : Nat} {w : World} {b : Nat} {k vk vn : Int} {vs : ByteArray} {f : Fld} {A : Option Addr} {m c : Nat} (h : RLoc T w b k vk vn vs f A m c) :
   w.cell? ⟨b, 0, none⟩ = some (.int .i64 k) ∧ w.cell? ⟨b, 1, none⟩ = some (.int .i64 vk) ∧ w.cell? ⟨b, 2, none⟩ = some (.int .i64 vn) ∧ w.cell? ⟨b, 3, none⟩ = some (.string vs) ∧ w.cell? ⟨b, 4, none⟩ = some (.int .i64 f.k) ∧ w.cell? ⟨b, 5, none⟩ = some (.int .i64 f.vk) ∧ w.cell? ⟨b, 6, none⟩ = some (.int .i64 f.vn) ∧ w.cell? ⟨b, 7, none⟩ = some (.string f.vs) ∧ w.cell? ⟨b, 8, none⟩ = some (.int .i64 f.r1) ∧ w.cell? ⟨b, 9, none⟩ = some (.int .i64 f.r2) ∧ w.cell? ⟨b, 10, none⟩ = some (.int .i64 f.r3) ∧ w.cell? ⟨b, 11, none⟩ = some (.int .i64 f.r4) ∧ w.cell? ⟨b, 12, none⟩ = some (.string f.op) ∧ w.cell? ⟨b, 13, none⟩ = some (.slice A m c) := by
 have h1 := h.at_
 refine ⟨?_, ?_, ?_, ?_, ?_, ?_, ?_, ?_, ?_, ?_, ?_, ?_, ?_, ?_⟩ <;> simp [World.cell?, h1]
def ReadPost (w : World) (r : RS) (e : Ending) (w' : World) : Prop :=
 ∃ A c, e = .returned (.tuple #[.agg (jS r.k r.v.k r.v.n r.v.s r.nd.f A r.nd.kids.len c), .int .i64 r.at_, .int .i64 r.err]) ∧ Below w.heap.size w w' ∧ KidsAt w' (fun g => w.heap.size ≤ g) r.nd.kids A
theorem ReadPost.nil {w V W : World} {r : RS} {a n : Int} (hr : r = noneR a n) (hB : Below w.heap.size w V) (hk : Kept w.heap.size V W) :
   ReadPost w r (.returned (.tuple #[.agg jSZ, .int .i64 a, .int .i64 n])) W := by
 subst hr
 exact ⟨none, 0, rfl, ((Kept.of hB).trans hk).below (Nat.le_refl _), Or.inl rfl⟩
theorem ReadPost.val {w V W : World} {r : RS} {k n : Int} {s : ByteArray} (hr : r = valR ⟨k, n, s⟩) (hB : Below w.heap.size w V) (hk : Kept w.heap.size V W) :
   ReadPost w r (.returned (.tuple #[.agg (jSV 1 k n s none 0), .int .i64 0, .int .i64 0])) W := by
 subst hr
 exact ⟨none, 0, rfl, ((Kept.of hB).trans hk).below (Nat.le_refl _), Or.inl rfl⟩
theorem ReadPost.form {w V W : World} {r : RS} {f : Fld} {kd : Fo} {A : Option Addr} {m c : Nat} (hr : r = formR ⟨f, kd⟩) (hB : Below w.heap.size w V) (hn : kd.len = m) (hA : KidsAt V (fun g => w.heap.size ≤ g ∧ g ≠ w.heap.size) kd A) (hk : Kept w.heap.size V W) :
   ReadPost w r (.returned (.tuple #[.agg (jS 2 0 0 { data := #[] } f A m c), .int .i64 0, .int .i64 0])) W := by
 subst hr
 exact ⟨A, c, by rw [← hn]; rfl, ((Kept.of hB).trans hk).below (Nat.le_refl _), hA.keep hk (fun g hg _ => ⟨hg.2, hg.1⟩)⟩
theorem ReadPost.pass {w V W : World} {r : RS} {k vk vn a n : Int} {vs : ByteArray} {f : Fld} {kd : Fo} {A : Option Addr} {m c : Nat} (hr : r = ⟨k, ⟨vk, vn, vs⟩, ⟨f, kd⟩, a, n⟩) (hB : Below w.heap.size w V) (hn : kd.len = m) (hA : KidsAt V (fun g => w.heap.size ≤ g ∧ g ≠ w.heap.size) kd A) (hk : Kept w.heap.size V W) :
   ReadPost w r (.returned (.tuple #[.agg (jS k vk vn vs f A m c), .int .i64 a, .int .i64 n])) W := by
 subst hr
 exact ⟨A, c, by rw [← hn], ((Kept.of hB).trans hk).below (Nat.le_refl _), hA.keep hk (fun g hg _ => ⟨hg.2, hg.1⟩)⟩
def ReadIn (w : World) (r : RS) (e : Ending) (w' : World) : Prop :=
 ∃ A c E, e = .returned (.tuple #[.agg (jS r.k r.v.k r.v.n r.v.s r.nd.f A r.nd.kids.len c), E]) ∧ ErrV E r.at_ r.err ∧ Below w.heap.size w w' ∧ KidsAt w' (fun g => w.heap.size ≤ g) r.nd.kids A
theorem ReadIn.nil {w V W : World} {r : RS} {a n : Int} {E : Value} (hr : r = noneR a n) (hE : ErrV E a n) (hB : Below w.heap.size w V) (hk : Kept w.heap.size V W) :
   ReadIn w r (.returned (.tuple #[.agg jSZ, E])) W := by
 subst hr
 exact ⟨none, 0, E, rfl, hE, ((Kept.of hB).trans hk).below (Nat.le_refl _), Or.inl rfl⟩
theorem ReadIn.val {w V W : World} {r : RS} {k n : Int} {s : ByteArray} (hr : r = valR ⟨k, n, s⟩) (hB : Below w.heap.size w V) (hk : Kept w.heap.size V W) :
   ReadIn w r (.returned (.tuple #[.agg (jSV 1 k n s none 0), .nilIface])) W := by
 subst hr
 exact ⟨none, 0, _, rfl, ErrV.none, ((Kept.of hB).trans hk).below (Nat.le_refl _), Or.inl rfl⟩
theorem ReadIn.form {w V W : World} {r : RS} {f : Fld} {kd : Fo} {A : Option Addr} {m c : Nat} (hr : r = formR ⟨f, kd⟩) (hB : Below w.heap.size w V) (hn : kd.len = m) (hA : KidsAt V (fun g => w.heap.size ≤ g ∧ g ≠ w.heap.size) kd A) (hk : Kept w.heap.size V W) :
   ReadIn w r (.returned (.tuple #[.agg (jS 2 0 0 { data := #[] } f A m c), .nilIface])) W := by
 subst hr
 exact ⟨A, c, _, by rw [← hn]; rfl, ErrV.none, ((Kept.of hB).trans hk).below (Nat.le_refl _), hA.keep hk (fun g hg _ => ⟨hg.2, hg.1⟩)⟩
theorem ReadIn.pass {w V W : World} {r : RS} {k vk vn a n : Int} {vs : ByteArray} {f : Fld} {kd : Fo} {A : Option Addr} {m c : Nat} {E : Value} (hr : r = ⟨k, ⟨vk, vn, vs⟩, ⟨f, kd⟩, a, n⟩) (hE : ErrV E a n) (hB : Below w.heap.size w V) (hn : kd.len = m) (hA : KidsAt V (fun g => w.heap.size ≤ g ∧ g ≠ w.heap.size) kd A) (hk : Kept w.heap.size V W) :
   ReadIn w r (.returned (.tuple #[.agg (jS k vk vn vs f A m c), E])) W := by
 subst hr
 exact ⟨A, c, E, by rw [← hn], hE, ((Kept.of hB).trans hk).below (Nat.le_refl _), hA.keep hk (fun g hg _ => ⟨hg.2, hg.1⟩)⟩
theorem kept_drew1 {x : Nat} {a w : World} (h : Kept x a w) : Kept x a w.drew := h.drew 1
def formL (t : List UInt8) : RS := if (parseL t).err = 0 then formR (parseL t).nd else noneR ((parseL t).at_ + 1) (parseL t).err
def plainL (s : List UInt8) : RS :=
 if s = trueL then valR ⟨1, 1, nos⟩
 else if s = falseL then valR ⟨1, 0, nos⟩
 else if parseB s = true then valR ⟨2, parseN s, nos⟩
 else asText (unq s)
theorem read_long {s : List UInt8} (h : 300 < s.length) : readL s = noneR 0 2 := if_pos h
theorem read_none : readL [] = noneR 0 0 := rfl
theorem read_eq {t : List UInt8} (h : ¬ 300 < (61 :: t).length) : readL (61 :: t) = formL t := by
 unfold readL
 rw [if_neg h, if_neg (List.cons_ne_nil _ _), if_pos (show (61 :: t).head? = some 61 from rfl)]
 rfl
theorem read_plain {s : List UInt8} (h : ¬ 300 < s.length) (h0 : s ≠ []) (h1 : s.head? ≠ some 61) : readL s = plainL s := by
 unfold readL
 rw [if_neg h, if_neg h0, if_neg h1]
 rfl
theorem tl1 : ({ data := #[84, 82, 85, 69] } : ByteArray).toList = [84, 82, 85, 69] := by kernel_rfl
theorem tl2 : ({ data := #[70, 65, 76, 83, 69] } : ByteArray).toList = [70, 65, 76, 83, 69] := by kernel_rfl
theorem trim_unq (l : List UInt8) : Lib.trimPrefix l [39] = unq l := by
 cases l with
 | nil => rfl
 | cons c r =>
   unfold Lib.trimPrefix Lib.hasPrefix unq
   by_cases h : c = 39
   · subst h; rfl
   · have h1 : (List.isPrefixOf [39] (c :: r)) = false := by
       show ((39 : UInt8) == c && true) = false
       rw [Bool.and_true]; exact beq_eq_false_iff_ne.2 (fun e => h e.symm)
     rw [h1, if_neg (by decide), if_neg (show ¬ (c :: r).head? = some 39 from fun e => h (Option.some.inj e))]
theorem cut_no {s : List UInt8} (h : s.head? ≠ some 61) : Lib.hasPrefix s [61] = false := by
 cases s with
 | nil => rfl
 | cons c r =>
   show ((61 : UInt8) == c && true) = false
   rw [Bool.and_true]; exact beq_eq_false_iff_ne.2 (fun e => h (by rw [e]; rfl))
end Go.Proofs.YticehalcnbjccaaGreatDoor.SourceC
namespace Go.Proofs.YticehalcnbjccaaGreatDoor.PrintC
set_option maxRecDepth 100000
set_option maxHeartbeats 8000000
set_option linter.unusedVariables false
open Go.RowKit NumC LexC TreeC
open Cd
open Tryz
open Lib (hid)
theorem opRow_toList (s : ByteArray) : s.data.toList = s.toList := (Lib.toList_data s).symm
theorem csignRow (s : ByteArray) (w : World) : Calls prog 142 #[.string s] w fun e w' => e = .returned (.int .i64 (opRow s.data.toList : Nat)) ∧ w = w' := by
 by_cases h0 : s = { data := #[94] }
 · subst h0
   go_enter func142, ntmps142
   go_wp2_with fail
   go_ret
   exact ⟨rfl, rfl⟩
 · have d0 : (s.toList == [94]) = false := text_ne h0
   by_cases h1 : s = { data := #[42] }
   · subst h1
     clear h0 d0
     go_enter func142, ntmps142
     go_wp2_with fail
     go_ret
     exact ⟨rfl, rfl⟩
   · have d1 : (s.toList == [42]) = false := text_ne h1
     by_cases h2 : s = { data := #[47] }
     · subst h2
       clear h0 d0 h1 d1
       go_enter func142, ntmps142
       go_wp2_with fail
       go_ret
       exact ⟨rfl, rfl⟩
     · have d2 : (s.toList == [47]) = false := text_ne h2
       by_cases h3 : s = { data := #[37] }
       · subst h3
         clear h0 d0 h1 d1 h2 d2
         go_enter func142, ntmps142
         go_wp2_with fail
         go_ret
         exact ⟨rfl, rfl⟩
       · have d3 : (s.toList == [37]) = false := text_ne h3
         by_cases h4 : s = { data := #[43] }
         · subst h4
           clear h0 d0 h1 d1 h2 d2 h3 d3
           go_enter func142, ntmps142
           go_wp2_with fail
           go_ret
           exact ⟨rfl, rfl⟩
         · have d4 : (s.toList == [43]) = false := text_ne h4
           by_cases h5 : s = { data := #[45] }
           · subst h5
             clear h0 d0 h1 d1 h2 d2 h3 d3 h4 d4
             go_enter func142, ntmps142
             go_wp2_with fail
             go_ret
             exact ⟨rfl, rfl⟩
           · have d5 : (s.toList == [45]) = false := text_ne h5
             by_cases h6 : s = { data := #[38] }
             · subst h6
               clear h0 d0 h1 d1 h2 d2 h3 d3 h4 d4 h5 d5
               go_enter func142, ntmps142
               go_wp2_with fail
               go_ret
               exact ⟨rfl, rfl⟩
             · have d6 : (s.toList == [38]) = false := text_ne h6
               by_cases h7 : s = { data := #[61] }
               · subst h7
                 clear h0 d0 h1 d1 h2 d2 h3 d3 h4 d4 h5 d5 h6 d6
                 go_enter func142, ntmps142
                 go_wp2_with fail
                 go_ret
                 exact ⟨rfl, rfl⟩
               · have d7 : (s.toList == [61]) = false := text_ne h7
                 by_cases h8 : s = { data := #[60, 62] }
                 · subst h8
                   clear h0 d0 h1 d1 h2 d2 h3 d3 h4 d4 h5 d5 h6 d6 h7 d7
                   go_enter func142, ntmps142
                   go_wp2_with fail
                   go_ret
                   exact ⟨rfl, rfl⟩
                 · have d8 : (s.toList == [60, 62]) = false := text_ne h8
                   by_cases h9 : s = { data := #[60] }
                   · subst h9
                     clear h0 d0 h1 d1 h2 d2 h3 d3 h4 d4 h5 d5 h6 d6 h7 d7 h8 d8
                     go_enter func142, ntmps142
                     go_wp2_with fail
                     go_ret
                     exact ⟨rfl, rfl⟩
                   · have d9 : (s.toList == [60]) = false := text_ne h9
                     by_cases h10 : s = { data := #[60, 61] }
                     · subst h10
                       clear h0 d0 h1 d1 h2 d2 h3 d3 h4 d4 h5 d5 h6 d6 h7 d7 h8 d8 h9 d9
                       go_enter func142, ntmps142
                       go_wp2_with fail
                       go_ret
                       exact ⟨rfl, rfl⟩
                     · have d10 : (s.toList == [60, 61]) = false := text_ne h10
                       by_cases h11 : s = { data := #[62] }
                       · subst h11
                         clear h0 d0 h1 d1 h2 d2 h3 d3 h4 d4 h5 d5 h6 d6 h7 d7 h8 d8 h9 d9 h10 d10
                         go_enter func142, ntmps142
                         go_wp2_with fail
                         go_ret
                         exact ⟨rfl, rfl⟩
                       · have d11 : (s.toList == [62]) = false := text_ne h11
                         by_cases h12 : s = { data := #[62, 61] }
                         · subst h12
                           clear h0 d0 h1 d1 h2 d2 h3 d3 h4 d4 h5 d5 h6 d6 h7 d7 h8 d8 h9 d9 h10 d10 h11 d11
                           go_enter func142, ntmps142
                           go_wp2_with fail
                           go_ret
                           exact ⟨rfl, rfl⟩
                         · have d12 : (s.toList == [62, 61]) = false := text_ne h12
                           have E : Hid (opRow s.data.toList = 0) := hid (by
                             rw [opRow_toList]
                             unfold opRow
                             have g0 : ¬ s.toList = [94] := fun h => by rw [h] at d0; revert d0; decide
                             have g1 : ¬ s.toList = [42] := fun h => by rw [h] at d1; revert d1; decide
                             have g2 : ¬ s.toList = [47] := fun h => by rw [h] at d2; revert d2; decide
                             have g3 : ¬ s.toList = [37] := fun h => by rw [h] at d3; revert d3; decide
                             have g4 : ¬ s.toList = [43] := fun h => by rw [h] at d4; revert d4; decide
                             have g5 : ¬ s.toList = [45] := fun h => by rw [h] at d5; revert d5; decide
                             have g6 : ¬ s.toList = [38] := fun h => by rw [h] at d6; revert d6; decide
                             have g7 : ¬ s.toList = [61] := fun h => by rw [h] at d7; revert d7; decide
                             have g8 : ¬ s.toList = [60, 62] := fun h => by rw [h] at d8; revert d8; decide
                             have g9 : ¬ s.toList = [60] := fun h => by rw [h] at d9; revert d9; decide
                             have g10 : ¬ s.toList = [60, 61] := fun h => by rw [h] at d10; revert d10; decide
                             have g11 : ¬ s.toList = [62] := fun h => by rw [h] at d11; revert d11; decide
                             have g12 : ¬ s.toList = [62, 61] := fun h => by rw [h] at d12; revert d12; decide
                             rw [if_neg g0, if_neg (by simp only [g1, g2, g3, or_self, not_false_eq_true]), if_neg (by simp only [g4, g5, g6, or_self, not_false_eq_true]), if_neg (by simp only [g7, g8, g9, g10, g11, g12, or_self, not_false_eq_true])])
                           clear h0 h1 h2 h3 h4 h5 h6 h7 h8 h9 h10 h11 h12
                           go_enter func142, ntmps142
                           go_wp2_with fail
                           go_ret
                           exact ⟨by rw [E.out]; rfl, rfl⟩
theorem crow (f : Fld) (A : Option Addr) (m c : Nat) (w : World) : Calls prog 117 #[.agg (jN f A m c)] w fun e w' => e = .returned (.int .i64 (rowK f : Nat)) ∧ Below w.heap.size w w' := by
 have hb1 : Below w.heap.size w (w.alloc (.cells (jN f A m c) 31)) := (Below.refl _ _).alloc (Nat.le_refl _) _
 by_cases h1 : f.k = 1
 · have E : Hid (rowK f = 6) := hid (by unfold rowK; simp [h1])
   have e1 : (f.k == 1) = true := beq_iff_eq.2 h1
   have e2 : (f.k == 2) = false := beq_eq_false_iff_ne.2 (by omega)
   have e3 : (f.k == 3) = false := beq_eq_false_iff_ne.2 (by omega)
   have e6 : (f.k == 6) = false := beq_eq_false_iff_ne.2 (by omega)
   have e4 : (f.k == 4) = false := beq_eq_false_iff_ne.2 (by omega)
   have e5 : (f.k == 5) = false := beq_eq_false_iff_ne.2 (by omega)
   clear h1
   go_enter func117, ntmps117
   go_wp2_with fail
   go_ret
   exact ⟨by rw [E.out]; rfl, hb1⟩
 · have e1 : (f.k == 1) = false := beq_eq_false_iff_ne.2 h1
   by_cases h2 : f.k = 2
   · have E : Hid (rowK f = 6) := hid (by unfold rowK; simp [h2])
     have e2 : (f.k == 2) = true := beq_iff_eq.2 h2
     have e3 : (f.k == 3) = false := beq_eq_false_iff_ne.2 (by omega)
     have e6 : (f.k == 6) = false := beq_eq_false_iff_ne.2 (by omega)
     have e4 : (f.k == 4) = false := beq_eq_false_iff_ne.2 (by omega)
     have e5 : (f.k == 5) = false := beq_eq_false_iff_ne.2 (by omega)
     clear h1 h2
     go_enter func117, ntmps117
     go_wp2_with fail
     go_ret
     exact ⟨by rw [E.out]; rfl, hb1⟩
   · have e2 : (f.k == 2) = false := beq_eq_false_iff_ne.2 h2
     by_cases h3 : f.k = 3
     · have E : Hid (rowK f = 6) := hid (by unfold rowK; simp [h3])
       have e3 : (f.k == 3) = true := beq_iff_eq.2 h3
       have e6 : (f.k == 6) = false := beq_eq_false_iff_ne.2 (by omega)
       have e4 : (f.k == 4) = false := beq_eq_false_iff_ne.2 (by omega)
       have e5 : (f.k == 5) = false := beq_eq_false_iff_ne.2 (by omega)
       clear h1 h2 h3
       go_enter func117, ntmps117
       go_wp2_with fail
       go_ret
       exact ⟨by rw [E.out]; rfl, hb1⟩
     · have e3 : (f.k == 3) = false := beq_eq_false_iff_ne.2 h3
       by_cases h6 : f.k = 6
       · have E : Hid (rowK f = 6) := hid (by unfold rowK; simp [h6])
         have e6 : (f.k == 6) = true := beq_iff_eq.2 h6
         have e4 : (f.k == 4) = false := beq_eq_false_iff_ne.2 (by omega)
         have e5 : (f.k == 5) = false := beq_eq_false_iff_ne.2 (by omega)
         clear h1 h2 h3 h6
         go_enter func117, ntmps117
         go_wp2_with fail
         go_ret
         exact ⟨by rw [E.out]; rfl, hb1⟩
       · have e6 : (f.k == 6) = false := beq_eq_false_iff_ne.2 h6
         by_cases h4 : f.k = 4
         · have E : Hid (rowK f = 5) := hid (by unfold rowK; simp [h4])
           have e4 : (f.k == 4) = true := beq_iff_eq.2 h4
           have e5 : (f.k == 5) = false := beq_eq_false_iff_ne.2 (by omega)
           clear h1 h2 h3 h6 h4
           go_enter func117, ntmps117
           go_wp2_with fail
           go_ret
           exact ⟨by rw [E.out]; rfl, hb1⟩
         · have e4 : (f.k == 4) = false := beq_eq_false_iff_ne.2 h4
           by_cases h5 : f.k = 5
           · have E : Hid (rowK f = opRow f.op.data.toList) := hid (by unfold rowK; simp [h5])
             have e5 : (f.k == 5) = true := beq_iff_eq.2 h5
             clear h1 h2 h3 h6 h4 h5
             go_enter func117, ntmps117
             go_wp2_with fail
             refine (csignRow f.op _).mono ?_; rintro e w2 ⟨rfl, rfl⟩
             go_wp2_with fail
             go_ret
             exact ⟨by rw [E.out]; rfl, hb1⟩
           · have e5 : (f.k == 5) = false := beq_eq_false_iff_ne.2 h5
             have E : Hid (rowK f = 0) := hid (by unfold rowK; simp [h1, h2, h3, h6, h4, h5])
             clear h1 h2 h3 h6 h4 h5
             go_enter func117, ntmps117
             go_wp2_with fail
             go_ret
             exact ⟨by rw [E.out]; rfl, hb1⟩
theorem cleast (r : Nat) (h : 1 ≤ r ∧ r ≤ 4) (w : World) : Calls prog 116 #[.int .i64 r] w fun e w' => e = .returned (.tuple #[.int .i64 (lo1 r : Nat), .int .i64 (lo2 r : Nat)]) ∧ w = w' := by
 have hr : r = 1 ∨ r = 2 ∨ r = 3 ∨ r = 4 := by omega
 clear h
 rcases hr with rfl | rfl | rfl | rfl <;>
 ( go_enter func116, ntmps116
   go_wp2_with fail
   go_ret2
   exact ⟨rfl, rfl⟩ )
theorem cshow_int (a : ValueC.Val) (w : World) (hg : ValueC.goodB a = true) (h2 : a.k = 2) (hn : I64 a.n) (hl : LibIs w) :
   Calls prog 65 #[.agg (jV a.k a.n a.s)] w fun e w' => e = .returned (.string (str (Lib.itoa a.n))) ∧ Below w.heap.size w w' := by
 have G := hid hg
 have k2 : (a.k == 2) = true := beq_iff_eq.2 h2
 have hn1 := hid hn
 have HL := hid hl
 clear hg h2 hn hl
 go_enter func65, ntmps65
 go_wp2_with fail
 refine (ValueC.good _ _).mono ?_; rw [G.out]; rintro e w1 ⟨rfl, hb1⟩
 obtain ⟨hc, hf⟩ := bcell hb1
 have hz := size_of hb1
 have hB := below_of hb1
 go_wp2_with fail
 refine (dec _ _ hn1.out (HL.out.below (below_of hb1))).mono ?_; rintro e w2 ⟨rfl, hb2⟩
 replace hB := hB.trans (hb2.mono hB.size)
 go_wp2
 go_ret
 refine ⟨rfl, ?_⟩
 repeat (with_reducible first | exact hB | refine Below.setCell ?_ (by first | omega | (simp <;> omega)) _ | refine Below.alloc ?_ (by first | omega | (simp <;> omega)) _)
theorem cshow_no (a : ValueC.Val) (w : World) (hg : ValueC.goodB a = true) (h1 : a.k = 1) (n0 : a.n = 0) :
   Calls prog 65 #[.agg (jV a.k a.n a.s)] w fun e w' => e = .returned (.string (str (falT))) ∧ Below w.heap.size w w' := by
 have G := hid hg
 have k2 : (a.k == 2) = false := beq_eq_false_iff_ne.2 (by omega)
 have k4 : (a.k == 4) = false := beq_eq_false_iff_ne.2 (by omega)
 have k1 : (a.k == 1) = true := beq_iff_eq.2 h1
 have m0 : (a.n == 0) = true := beq_iff_eq.2 n0
 clear hg h1 n0
 go_enter func65, ntmps65
 go_wp2_with fail
 refine (ValueC.good _ _).mono ?_; rw [G.out]; rintro e w1 ⟨rfl, hb1⟩
 obtain ⟨hc, hf⟩ := bcell hb1
 have hz := size_of hb1
 have hB := below_of hb1
 go_wp2_with fail
 go_ret
 refine ⟨rfl, ?_⟩
 repeat (with_reducible first | exact hB | refine Below.setCell ?_ (by first | omega | (simp <;> omega)) _ | refine Below.alloc ?_ (by first | omega | (simp <;> omega)) _)
theorem cshow_yes (a : ValueC.Val) (w : World) (hg : ValueC.goodB a = true) (h1 : a.k = 1) (n0 : a.n ≠ 0) :
   Calls prog 65 #[.agg (jV a.k a.n a.s)] w fun e w' => e = .returned (.string (str (truT))) ∧ Below w.heap.size w w' := by
 have G := hid hg
 have k2 : (a.k == 2) = false := beq_eq_false_iff_ne.2 (by omega)
 have k4 : (a.k == 4) = false := beq_eq_false_iff_ne.2 (by omega)
 have k1 : (a.k == 1) = true := beq_iff_eq.2 h1
 have m0 : (a.n == 0) = false := beq_eq_false_iff_ne.2 n0
 clear hg h1 n0
 go_enter func65, ntmps65
 go_wp2_with fail
 refine (ValueC.good _ _).mono ?_; rw [G.out]; rintro e w1 ⟨rfl, hb1⟩
 obtain ⟨hc, hf⟩ := bcell hb1
 have hz := size_of hb1
 have hB := below_of hb1
 go_wp2_with fail
 go_ret
 refine ⟨rfl, ?_⟩
 repeat (with_reducible first | exact hB | refine Below.setCell ?_ (by first | omega | (simp <;> omega)) _ | refine Below.alloc ?_ (by first | omega | (simp <;> omega)) _)
theorem cconst (vk vn : Int) (vs : ByteArray) (w : World) (h : constB vk vn vs = true) (hn : vn ≤ 9223372036854775807) (hl : LexLib w) :
   Calls prog 113 #[.agg (jV vk vn vs)] w fun e w' => e = .returned (.string (str (constT vk vn vs))) ∧ Below w.heap.size w w' := by
 have hb1 : Below w.heap.size w (w.alloc (.cells (jV vk vn vs) 24)) := (Below.refl _ _).alloc (Nat.le_refl _) _
 have HL := hid (hl.below hb1)
 have hs : constB vk vn vs = true → (vk = 3 ∧ vs.size ≤ 200) ∨ (vk = 2 ∧ 0 ≤ vn ∧ ValueC.goodB ⟨vk, vn, vs⟩ = true) ∨ (vk = 1 ∧ ValueC.goodB ⟨vk, vn, vs⟩ = true) := fun h => by
   unfold constB at h
   split at h
   · rename_i h2
     rw [Bool.and_eq_true] at h
     exact Or.inr (Or.inl ⟨h2, of_decide_eq_true h.2, h.1⟩)
   · split at h
     · rename_i h3
       have hg : ValueC.GoodP ⟨vk, vn, vs⟩ := of_decide_eq_true h
       rcases h3 with rfl | rfl
       · unfold ValueC.GoodP at hg; simp only at hg; exact Or.inl ⟨rfl, by omega⟩
       · exact Or.inr (Or.inr ⟨rfl, h⟩)
     · cases h
 rcases hs h with ⟨h3, hsz⟩ | ⟨h2, h0, hg⟩ | ⟨h1, hg⟩
 · have E : Hid (constT vk vn vs = quL vs.data.toList) := hid (by unfold constT; rw [if_pos h3])
   have k3 : (vk == 3) = true := beq_iff_eq.2 h3
   clear h hs h3 hn hl
   go_enter func113, ntmps113
   go_wp2_with fail
   refine (quote vs _ (by omega) HL.out).mono ?_; rintro e w2 ⟨rfl, hb2⟩
   go_wp2_with fail
   go_ret
   exact ⟨by rw [E.out]; rfl, hb1.trans (hb2.mono hb1.size)⟩
 · have E : Hid (constT vk vn vs = Lib.itoa vn) := hid (by unfold constT; rw [if_neg (by omega), if_neg (by omega)])
   have k3 : (vk == 3) = false := beq_eq_false_iff_ne.2 (by omega)
   have hi : I64 vn := by unfold I64; omega
   have HC := hid (cshow_int ⟨vk, vn, vs⟩ _ hg h2 hi HL.out.lib)
   clear h hs h2 h0 hg hn hl hi
   go_enter func113, ntmps113
   go_wp2_with fail
   refine HC.out.mono ?_; rintro e w2 ⟨rfl, hb2⟩
   go_wp2_with fail
   go_ret
   exact ⟨by rw [E.out]; rfl, hb1.trans (hb2.mono hb1.size)⟩
 · have k3 : (vk == 3) = false := beq_eq_false_iff_ne.2 (by omega)
   by_cases hz : vn = 0
   · have E : Hid (constT vk vn vs = falT) := hid (by unfold constT; rw [if_neg (by omega), if_pos h1, if_pos hz])
     have HC := hid (cshow_no ⟨vk, vn, vs⟩ (w.alloc (.cells (jV vk vn vs) 24)) hg h1 hz)
     clear h hs h1 hg hn hl hz
     go_enter func113, ntmps113
     go_wp2_with fail
     refine HC.out.mono ?_; rintro e w2 ⟨rfl, hb2⟩
     go_wp2_with fail
     go_ret
     exact ⟨by rw [E.out]; rfl, hb1.trans (hb2.mono hb1.size)⟩
   · have E : Hid (constT vk vn vs = truT) := hid (by unfold constT; rw [if_neg (by omega), if_pos h1, if_neg hz])
     have HC := hid (cshow_yes ⟨vk, vn, vs⟩ (w.alloc (.cells (jV vk vn vs) 24)) hg h1 hz)
     clear h hs h1 hg hn hl hz
     go_enter func113, ntmps113
     go_wp2_with fail
     refine HC.out.mono ?_; rintro e w2 ⟨rfl, hb2⟩
     go_wp2_with fail
     go_ret
     exact ⟨by rw [E.out]; rfl, hb1.trans (hb2.mono hb1.size)⟩
end Go.Proofs.YticehalcnbjccaaGreatDoor.PrintC
