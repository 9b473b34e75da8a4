/-
  Marks as a list of cells, as cells go: plain facts.
-/
import Derived.Test.YtakamedgdiffbaaGreatDoorPPlaysGraphV1
import Derived.Test.YtakamedgdiffbaaGreatDoorPPlaysGraphM
import Derived.Test.YtakamedgdiffbaaGreatDoorPPlaysRefsM
import Derived.Test.YtakamedgdiffbaaGreatDoorPPlaysGraphG
import Derived.Shelf.Spec.TrailingZeros
import Derived.Maps.RangeWalk
namespace Go.Proofs.YtakamedgdiffbaaGreatDoor.GraphC
set_option linter.unusedVariables false
open Go.RowKit Go.Proofs.YtakamedgdiffbaaGreatDoor.NumC Go.Proofs.YtakamedgdiffbaaGreatDoor.RowsC
open Go.Proofs.YtakamedgdiffbaaGreatDoor.RefsC (Rc hitsL colN col_bit coverN)
open Go.Proofs.YtakamedgdiffbaaGreatDoor.AddrC (cellB fineB FineP Cell beforeB hasB)
def bitsL (x : Nat) : List Nat := (List.range 51).filter fun i => x.testBit i
def rowM (m : Nat → Nat) (r : Nat) : List Pt := (bitsL (m r)).map fun (c : Nat) => ⟨(r : Int), (c : Int)⟩
def listM (m : Nat → Nat) : List Pt := (List.range 1001).flatMap (rowM m)
theorem bits_zero : bitsL 0 = [] := by
  unfold bitsL
  rw [List.filter_eq_nil_iff]
  intro i _; simp
theorem low_bit (x : Nat) (hx : x ≠ 0) (hl : x < 18446744073709551616) : Lib.ctz 64 x < 64 ∧ x.testBit (Lib.ctz 64 x) = true ∧ ∀ i, (x &&& (x - 1)).testBit i = (x.testBit i && decide (i ≠ Lib.ctz 64 x)) ∧ (i < Lib.ctz 64 x → x.testBit i = false) := by
  have e : Lib.ctz 64 x = Lib.ctzFrom 64 x := by simp [Lib.ctz, hx]
  rw [e]
  obtain ⟨m, hm, hk⟩ := Lib.ctzFrom_spec 64 x (by omega) (by exact hl)
  generalize Lib.ctzFrom 64 x = k at *
  have hp : 0 < 2 ^ k := Nat.pow_pos (by decide)
  have hb : ∀ i, x.testBit i = (decide (k ≤ i) && (2 * m + 1).testBit (i - k)) := by
    intro i
    rw [hm, Nat.testBit_two_pow_mul]
  have h1 : x - 1 = 2 ^ k * (2 * m) + (2 ^ k - 1) := by
    rw [hm, Nat.mul_add, Nat.mul_one]; omega
  have hb1 : ∀ i, (x - 1).testBit i = if i < k then (2 ^ k - 1).testBit i else (2 * m).testBit (i - k) := by
    intro i
    rw [h1, Nat.testBit_two_pow_mul_add _ (by omega)]
  have odd : ∀ i, (2 * m + 1).testBit i = if i = 0 then true else (2 * m).testBit i := by
    intro i
    cases i with
    | zero => simp [Nat.testBit_zero]
    | succ i =>
      rw [if_neg (by omega), Nat.testBit_succ, Nat.testBit_succ]
      congr 1; omega
  have ev : (2 * m).testBit 0 = false := by simp [Nat.testBit_zero]
  refine ⟨hk, ?_, fun i => ⟨?_, fun hi => ?_⟩⟩
  · rw [hb, odd]; simp
  · rw [Nat.testBit_and, hb1, hb]
    by_cases hik : i < k
    · simp [hik, Nat.not_le.2 hik]
    · rw [if_neg hik, odd]
      by_cases e : i = k
      · subst e; simp [ev]
      · rw [if_neg (by omega)]; simp [Nat.not_lt.1 hik, e]
  · rw [hb]; simp; intro h; omega
theorem filter_range_first (n k : Nat) (p : Nat → Bool) (hk : k < n) (hp : p k = true) (hl : ∀ i, i < k → p i = false) : (List.range n).filter p = k :: (List.range n).filter fun i => p i && decide (i ≠ k) := by
  have e : List.range n = List.range k ++ k :: (List.range (n - k - 1)).map (fun i => k + 1 + i) := by
    have h1 : List.range n = List.range (k + (1 + (n - k - 1))) := by congr 1; omega
    rw [h1, List.range_add, List.range_add, List.map_append, List.map_map]
    simp [List.range_succ]
    intro a ha; omega
  have z1 : (List.range k).filter p = [] := by
    rw [List.filter_eq_nil_iff]; intro i hi; rw [hl i (List.mem_range.1 hi)]; simp
  have z2 : ((List.range k).filter fun i => p i && decide (i ≠ k)) = [] := by
    rw [List.filter_eq_nil_iff]; intro i hi; rw [hl i (List.mem_range.1 hi)]; simp
  rw [e, List.filter_append, List.filter_append, z1, z2, List.filter_cons_of_pos hp, List.filter_cons_of_neg (by simp), List.nil_append, List.nil_append]
  congr 1
  refine List.filter_congr fun i hi => ?_
  obtain ⟨j, -, rfl⟩ := List.mem_map.1 hi
  simp
  intro _; omega
theorem bits_cons (x : Nat) (hx : x ≠ 0) (hl : x < 2251799813685248) : Lib.ctz 64 x < 51 ∧ bitsL x = Lib.ctz 64 x :: bitsL (x &&& (x - 1)) ∧ x &&& (x - 1) < x := by
  obtain ⟨h1, h2, h3⟩ := low_bit x hx (by omega)
  have h4 : Lib.ctz 64 x < 51 := by
    refine Nat.lt_of_not_le fun h => ?_
    have : x < 2 ^ Lib.ctz 64 x := Nat.lt_of_lt_of_le hl (Nat.pow_le_pow_right (n := 2) (by decide) h)
    rw [Nat.testBit_lt_two_pow this] at h2; cases h2
  refine ⟨h4, ?_, ?_⟩
  · unfold bitsL
    rw [filter_range_first 51 _ _ h4 h2 (fun i hi => (h3 i).2 hi)]
    congr 1
    refine List.filter_congr fun i _ => ((h3 i).1).symm
  · have : x &&& (x - 1) ≤ x - 1 := Nat.and_le_right
    omega
theorem mem_bits {x i : Nat} : i ∈ bitsL x ↔ i < 51 ∧ x.testBit i = true := by
  unfold bitsL; rw [List.mem_filter, List.mem_range]
theorem mem_list {m : Nat → Nat} {a : Pt} : a ∈ listM m ↔ ∃ r c : Nat, a = ⟨r, c⟩ ∧ r < 1001 ∧ c < 51 ∧ (m r).testBit c = true := by
  unfold listM rowM
  rw [List.mem_flatMap]
  constructor
  · rintro ⟨r, hr, h⟩
    obtain ⟨c, hc, rfl⟩ := List.mem_map.1 h
    obtain ⟨h1, h2⟩ := mem_bits.1 hc
    exact ⟨r, c, rfl, List.mem_range.1 hr, h1, h2⟩
  · rintro ⟨r, c, rfl, hr, h1, h2⟩
    exact ⟨r, List.mem_range.2 hr, List.mem_map.2 ⟨c, mem_bits.2 ⟨h1, h2⟩, rfl⟩⟩
theorem list_sorted (m : Nat → Nat) : (listM m).Pairwise fun x y => bfP x y = true := by
  unfold listM
  rw [List.pairwise_flatMap]
  refine ⟨fun r _ => ?_, ?_⟩
  · unfold rowM
    rw [List.pairwise_map]
    refine (List.pairwise_lt_range.filter _).imp fun {a b} h => ?_
    have h : (a : Int) < (b : Int) := by omega
    unfold bfP beforeB
    exact decide_eq_true (by simp only [true_and, h, or_true])
  · refine (List.pairwise_lt_range (n := 1001)).imp fun {r s} h x hx y hy => ?_
    obtain ⟨c, -, rfl⟩ := List.mem_map.1 hx
    obtain ⟨d, -, rfl⟩ := List.mem_map.1 hy
    unfold bfP beforeB
    rw [decide_eq_true_eq]; simp only; omega
theorem pts_ext {l m : List Pt} (hl : l.Pairwise fun x y => bfP x y = true) (hm : m.Pairwise fun x y => bfP x y = true) (h : ∀ x, x ∈ l ↔ x ∈ m) : l = m := by
  induction l generalizing m with
  | nil =>
    cases m with
    | nil => rfl
    | cons y m => exact absurd ((h y).2 List.mem_cons_self) (by simp)
  | cons x l ih =>
    cases m with
    | nil => exact absurd ((h x).1 List.mem_cons_self) (by simp)
    | cons y m =>
      obtain ⟨l1, l2⟩ := List.pairwise_cons.1 hl
      obtain ⟨m1, m2⟩ := List.pairwise_cons.1 hm
      have e : x = y := by
        rcases List.mem_cons.1 ((h x).1 List.mem_cons_self) with e | e
        · exact e
        · rcases List.mem_cons.1 ((h y).2 List.mem_cons_self) with e2 | e2
          · exact e2.symm
          · have h1 := l1 y e2
            have h2 := m1 x e
            have := goesP.tr _ _ _ h1 h2
            rw [goesP.irr] at this; cases this
      subst e
      congr 1
      refine ih l2 m2 fun z => ?_
      have hz := h z
      rw [List.mem_cons, List.mem_cons] at hz
      constructor
      · intro hy
        rcases hz.1 (Or.inr hy) with e | e
        · subst e; have := l1 z hy; rw [goesP.irr] at this; cases this
        · exact e
      · intro hy
        rcases hz.2 (Or.inr hy) with e | e
        · subst e; have := m1 z hy; rw [goesP.irr] at this; cases this
        · exact e
structure Marks (m : Nat → Nat) (S : Pt → Prop) : Prop where
  is : ∀ r c : Nat, r < 1001 → c < 51 → ((m r).testBit c = true ↔ S ⟨r, c⟩)
  cell : ∀ a, S a → Cell a.r a.c
theorem Marks.has {m : Nat → Nat} {S : Pt → Prop} (h : Marks m S) {a : Pt} (hc : Cell a.r a.c) : hasM m a = true ↔ S a := by
  obtain ⟨⟨r1, r2⟩, c1, c2⟩ := hc
  unfold hasM
  rw [h.is _ _ (by omega) (by omega), Int.toNat_of_nonneg (by omega), Int.toNat_of_nonneg (by omega)]
theorem Marks.mem {m : Nat → Nat} {S : Pt → Prop} (h : Marks m S) (a : Pt) : a ∈ listM m ↔ S a := by
  rw [mem_list]
  constructor
  · rintro ⟨r, c, rfl, hr, hc, hb⟩; exact (h.is r c hr hc).1 hb
  · intro hs
    obtain ⟨⟨r1, r2⟩, c1, c2⟩ := h.cell a hs
    refine ⟨a.r.toNat, a.c.toNat, ?_, by omega, by omega, ?_⟩
    · rw [Int.toNat_of_nonneg (by omega), Int.toNat_of_nonneg (by omega)]
    · rw [h.is _ _ (by omega) (by omega), Int.toNat_of_nonneg (by omega), Int.toNat_of_nonneg (by omega)]; exact hs
theorem Marks.list {m : Nat → Nat} {S : Pt → Prop} (h : Marks m S) {l : List Pt} (hl : l.Pairwise fun x y => bfP x y = true) (hs : ∀ a, a ∈ l ↔ S a) : listM m = l :=
  pts_ext (list_sorted m) hl fun a => (h.mem a).trans (hs a).symm
theorem marks_zero : Marks (fun _ => 0) fun _ => False := ⟨fun r c _ _ => by simp, fun a h => h.elim⟩
theorem Marks.put {m : Nat → Nat} {S : Pt → Prop} (h : Marks m S) {a : Pt} (hc : Cell a.r a.c) : Marks (putM m a) fun b => b = a ∨ S b where
  is r c hr hk := by
    obtain ⟨⟨r1, r2⟩, c1, c2⟩ := hc
    obtain ⟨ar, ac⟩ := a
    simp only at r1 r2 c1 c2
    unfold putM
    simp only [Pt.mk.injEq]
    by_cases e : r = ar.toNat
    · rw [if_pos e, Nat.testBit_or, Bool.or_eq_true, ← e, h.is r c hr hk, Nat.testBit_two_pow]
      constructor
      · rintro (h1 | h1)
        · exact Or.inr h1
        · left; have := of_decide_eq_true h1; omega
      · rintro (h1 | h1)
        · right; exact decide_eq_true (by omega)
        · exact Or.inl h1
    · rw [if_neg e, h.is r c hr hk]
      constructor
      · exact Or.inr
      · rintro (h1 | h1)
        · omega
        · exact h1
  cell b hb := by
    rcases hb with rfl | hb
    · exact hc
    · exact h.cell b hb
theorem Marks.cover {m : Nat → Nat} {S : Pt → Prop} (h : Marks m S) {x : Rc} (hx : fineB x.a x.b x.c x.d = true) : Marks (covM m x) fun b => hasB x.a x.b x.c x.d b.r b.c = true ∨ S b := by
  have hf : FineP x.a x.b x.c x.d := of_decide_eq_true hx
  obtain ⟨a, b, c, d, rfl, k1, k2, k3, k4, k5, k6⟩ := fine_at hx
  have hh : ∀ r k : Int, hasB (a : Int) b c d r k = true ↔ (a : Int) ≤ r ∧ r ≤ c ∧ (b : Int) ≤ k ∧ k ≤ d := fun r k => by
    unfold hasB
    rw [decide_eq_true_eq]
    exact ⟨fun h => by obtain ⟨-, h⟩ := h; omega, fun h => ⟨hf, by omega⟩⟩
  refine ⟨fun r k hr hk => ?_, fun p hp => ?_⟩
  · show (coverN m (colN b d) a (c + 1 - a) r).testBit k = true ↔ _
    rw [hh]
    unfold coverN
    by_cases e : a ≤ r ∧ r < a + (c + 1 - a)
    · rw [if_pos e, Nat.testBit_or, Bool.or_eq_true, col_bit k5, h.is r k hr hk, decide_eq_true_eq]
      simp only
      constructor
      · rintro (h1 | h1)
        · exact Or.inr h1
        · left; omega
      · rintro (h1 | h1)
        · right; omega
        · exact Or.inl h1
    · rw [if_neg e, h.is r k hr hk]
      simp only
      constructor
      · exact Or.inr
      · rintro (h1 | h1)
        · omega
        · exact h1
  · rcases hp with hp | hp
    · rw [hh] at hp
      exact ⟨by omega, by omega⟩
    · exact h.cell p hp
theorem Marks.meets {m : Nat → Nat} {S : Pt → Prop} (h : Marks m S) {x : Rc} (hx : fineB x.a x.b x.c x.d = true) : meetM m x = true ↔ ∃ p, S p ∧ hasB x.a x.b x.c x.d p.r p.c = true := by
  have hf : FineP x.a x.b x.c x.d := of_decide_eq_true hx
  obtain ⟨a, b, c, d, rfl, k1, k2, k3, k4, k5, k6⟩ := fine_at hx
  have hh : ∀ r k : Int, hasB (a : Int) b c d r k = true ↔ (a : Int) ≤ r ∧ r ≤ c ∧ (b : Int) ≤ k ∧ k ≤ d := fun r k => by
    unfold hasB
    rw [decide_eq_true_eq]
    exact ⟨fun h => by obtain ⟨-, h⟩ := h; omega, fun h => ⟨hf, by omega⟩⟩
  show ((List.range (c + 1 - a)).any fun k => decide (m (a + k) &&& colN b d ≠ 0)) = true ↔ _
  rw [List.any_eq_true]
  constructor
  · rintro ⟨k, hk, hb⟩
    have hk := List.mem_range.1 hk
    have hne := of_decide_eq_true hb
    obtain ⟨i, hi⟩ := Nat.exists_testBit_of_ne_zero hne
    rw [Nat.testBit_and, Bool.and_eq_true, col_bit k5, decide_eq_true_eq] at hi
    refine ⟨⟨((a + k : Nat) : Int), (i : Int)⟩, (h.is (a + k) i (by omega) (by omega)).1 hi.1, ?_⟩
    rw [hh]; simp only; omega
  · rintro ⟨p, hp, hb⟩
    rw [hh] at hb
    have hs := (h.is p.r.toNat p.c.toNat (by omega) (by omega)).2 (by rw [Int.toNat_of_nonneg (by omega), Int.toNat_of_nonneg (by omega)]; exact hp)
    refine ⟨p.r.toNat - a, List.mem_range.2 (by omega), decide_eq_true fun e => ?_⟩
    have h1 : (m (a + (p.r.toNat - a)) &&& colN b d).testBit p.c.toNat = true := by
      rw [Nat.testBit_and, show a + (p.r.toNat - a) = p.r.toNat by omega, hs, col_bit k5, decide_eq_true (by omega)]; rfl
    rw [e] at h1; simp at h1
end Go.Proofs.YtakamedgdiffbaaGreatDoor.GraphC
namespace Go.Proofs.YtakamedgdiffbaaGreatDoor.GraphC
set_option linter.unusedVariables false
open Go.RowKit Go.Proofs.YtakamedgdiffbaaGreatDoor.NumC Go.Proofs.YtakamedgdiffbaaGreatDoor.RowsC
open Go.Proofs.YtakamedgdiffbaaGreatDoor.RefsC (Rc RAt hitsL RBox bits_or bits_and)
open Go.Proofs.YtakamedgdiffbaaGreatDoor.AddrC (cellB fineB FineP Cell)
open Go.Proofs.YtakamedgdiffbaaGreatDoor.TreeC (Kept)
def KTab (w : World) : Prop := TabAt 0 Lib.deBruijn64tab w
theorem KTab.below {w w' : World} (h : KTab w) (hb : Below w.heap.size w w') : KTab w' := fun j hj =>
  (hb.cell (p := ⟨_, j, none⟩) (World.block_lt_of_cell? w _ (h j hj))).trans (h j hj)
set_option maxHeartbeats 1000000 in
set_option maxRecDepth 100000 in
theorem trail_core (x k idx : Nat) (w : World) (hx0 : ((x : Int) == 0) = false)
    (key : IntKind.u64.wrap (bits BinOp.and IntKind.u64 (x : Int) (IntKind.u64.wrap (-(x : Int))) * 285870213051353865) / 288230376151711744 = (idx : Int))
    (hi : idx < 64) (hk : k < 64) (hcell : w.cell? ⟨0, idx, none⟩ = some (.int .u8 (k : Int))) :
    Calls Tryz.prog 60 #[.int .u64 (x : Int)] w fun e w' => e = .returned (.int .i64 (k : Int)) ∧ w = w' := by
  have hi1 : (idx : Int) < 64 := by omega
  have hi2 : (0 : Int) ≤ (idx : Int) := by omega
  have hk1 : IntKind.i64.wrap (k : Int) = (k : Int) := by rw [IntKind.wrap_i64]; omega
  go_enter Tryz.func60, Tryz.ntmps60
  go_wp2_with (simp only [key])
  go_ret
  exact ⟨rfl, rfl⟩
theorem cTrail (x : Nat) (w : World) (hx0 : x ≠ 0) (hx : x < 18446744073709551616) (hK : KTab w) : Calls Tryz.prog 60 #[.int .u64 (x : Int)] w fun e w' => e = .returned (.int .i64 (Lib.ctz 64 x : Nat)) ∧ w = w' := by
  obtain ⟨hlow, hk⟩ := Lib.lowest_bit 64 x hx0 hx
  obtain ⟨hi, htab⟩ := Lib.deBruijn64_at _ hk
  refine trail_core x _ _ w (by simp [hx0]) (tz64_key x _ hx hx0 hlow) hi hk ?_
  have h := hK _ (show _ < Lib.deBruijn64tab.length from hi)
  rw [htab] at h
  exact h
theorem owns_drewN {α : Type} {f : α → List Value} {n : Nat} {ty : TypeId} {w : World} {B : Nat} {v : Value} {l : List α} (h : Owns f n ty w B v l) (k : Nat) : Owns f n ty (w.drewN k) B v l := h
theorem list_succ (m : Nat → Nat) (k : Nat) : (List.range (k + 1)).flatMap (rowM m) = (List.range k).flatMap (rowM m) ++ rowM m k := by
  rw [List.range_succ, List.flatMap_append]; simp
theorem bits_len (x : Nat) : (bitsL x).length ≤ 51 := Nat.le_trans (List.length_filter_le _ _) (by simp)
theorem rows_len (m : Nat → Nat) (k : Nat) : ((List.range k).flatMap (rowM m)).length ≤ k * 51 := by
  induction k with
  | zero => simp
  | succ k ih =>
    rw [list_succ, List.length_append]
    have : (rowM m k).length ≤ 51 := by unfold rowM; rw [List.length_map]; exact bits_len _
    omega
set_option maxHeartbeats 1000000 in
set_option maxRecDepth 100000 in
theorem cmlist (g : Nat) (m : Nat → Nat) (w : World) (hM : MAt w g m) (hK : (∃ r, r < 1001 ∧ m r ≠ 0) → KTab w) : Calls Tryz.prog 36 #[.pointer (some ⟨g, 0, none⟩)] w (CellsPost (listM m) w) := by
  have HM := Lib.hid hM
  have HK := Lib.hid hK
  clear hM hK
  go_enter Tryz.func36, Tryz.ntmps36
  go_wp2_with fail
  go_loopw [2, 6] (fun ov iv wr => ∃ j : Nat, j ≤ 1001 ∧ iv = .int .i64 j ∧ Hid (Below w.heap.size w wr ∧ Owns fP 2 35 wr w.heap.size ov ((List.range j).flatMap (rowM m)))) (fun _ iv _ => 1001 - (intOf iv).toNat)
  case atStart => exact ⟨0, Nat.zero_le _, rfl, Lib.hid ⟨Below.refl _ _, Owns.nil _ _⟩⟩
  case round =>
    obtain ⟨j, hk, rfl, HR2⟩ := hrel
    obtain ⟨hbw, ho⟩ := HR2.out
    by_cases hj : j < 1001
    · have hd1 : (j : Int) < 1001 := by omega
      have hj0 : (0 : Int) ≤ (j : Int) := by omega
      obtain ⟨q1, q2, q3⟩ := (HM.out.below hbw).cell j hj
      have HQ := Lib.hid q3
      have HJ := Lib.hid (show m j ≠ 0 → KTab w from fun h => HK.out ⟨j, hj, h⟩)
      have HB := Lib.hid hbw
      have HO := Lib.hid ho
      clear hbw ho
      go_wp2_with fail
      go_quiet (fail)
      replace HB : Hid (Below w.heap.size w (wr.drewN nq)) := Lib.hid (below_drewN' HB.out nq)
      have HO2 := Lib.hid (owns_drewN HO.out nq)
      clear HO
      generalize (wr.drewN nq) = w1 at *
      generalize hx0 : m j = x0 at *
      have HX := Lib.hid hx0
      clear q1 q2 q3 hx0
      go_wp2_with fail
      go_loopw [2, 4] (fun ov xv wr => ∃ x : Nat, xv = .int .u64 x ∧ Hid (x < 2251799813685248 ∧ (x ≠ 0 → x0 ≠ 0) ∧ Below w.heap.size w wr ∧ ∃ l, Owns fP 2 35 wr w.heap.size ov l ∧ l ++ (bitsL x).map (fun (c : Nat) => (⟨(j : Int), (c : Int)⟩ : Pt)) = (List.range (j + 1)).flatMap (rowM m))) (fun _ xv _ => (intOf xv).toNat)
      case atStart => exact ⟨x0, rfl, Lib.hid ⟨HQ.out, id, HB.out, _, HO2.out, by rw [list_succ]; unfold rowM; rw [HX.out]⟩⟩
      case round =>
        obtain ⟨x, rfl, HR3⟩ := hrel
        obtain ⟨hx, hne, hbw, l, ho, hl⟩ := HR3.out
        by_cases hz : x = 0
        · subst hz
          rw [bits_zero, List.map_nil, List.append_nil] at hl
          subst hl
          have HF := Lib.hid (And.intro hbw ho)
          clear hbw ho hx hne
          go_wp2_with fail
          go_roundw
          case rel => exact ⟨j + 1, by omega, by go_num, HF⟩
          case measure => simp [intOf]; omega
        · obtain ⟨hc, hbt, hlow⟩ := bits_cons x hz hx
          have hcall := cTrail x wr hz (by omega) ((HJ.out (hne hz)).below hbw)
          have hz1 : ¬ (x : Int) = 0 := by omega
          have hz2 : ((x : Int) == 0) = false := by simp; omega
          have hs1 : IntKind.u64.wrap ((x : Int) - 1) = ((x - 1 : Nat) : Int) := by rw [IntKind.wrap_u64]; omega
          have fa := bits_and x (x - 1) (by omega) (by omega)
          have hy : x &&& (x - 1) < 2251799813685248 := by omega
          have hlen : l.length + 1 ≤ 100000000 := by
            have h1 := rows_len m (j + 1)
            rw [← hl, List.length_append] at h1
            omega
          have HH := Lib.hid (show l ++ [(⟨(j : Int), (Lib.ctz 64 x : Nat)⟩ : Pt)] ++ (bitsL (x &&& (x - 1))).map (fun (c : Nat) => (⟨(j : Int), (c : Int)⟩ : Pt)) = (List.range (j + 1)).flatMap (rowM m) by
            rw [← hl, hbt, List.map_cons, List.append_assoc]; rfl)
          obtain ⟨oA, oc, rfl, -⟩ := ho.form
          have HB3 := Lib.hid hbw
          have HO3 := Lib.hid ho
          have hsz := hbw.size
          have HN := Lib.hid hne
          have HZ := Lib.hid hz
          clear hbw ho hl hbt hx hne hz
          generalize x &&& (x - 1) = y at *
          generalize Lib.ctz 64 x = k at *
          go_wp2_with fail
          refine hcall.mono ?_; rintro e w5 ⟨rfl, rfl⟩
          go_wp2_with (at_builtin
                       refine wpList_append_owns kindP _ rfl (.tmp 18) (.tmp 23) rfl (m := [(⟨(j : Int), (k : Int)⟩ : Pt)]) (B := w.heap.size) rfl rfl rfl (HO3.out.below ((Below.refl _ _).alloc (Nat.le_refl _) _)) (Boxed.new wr (⟨(j : Int), (k : Int)⟩ : Pt)).reads hlen (by rw [World.size_alloc]; omega) ?_
                       intro v' w' ho' hg' hat'
                       have HD := Lib.hid (show Below w.heap.size w w' ∧ Owns fP 2 35 w' w.heap.size v' (l ++ [(⟨(j : Int), (k : Int)⟩ : Pt)]) from
                         ⟨below_grown (HB3.out.alloc hsz _) (by rw [World.size_alloc]; omega) hg' (fun i hi => (HO3.out.lt i hi).1), ho'⟩)
                       clear ho' hg' hat')
          go_roundw
          case rel => exact ⟨y, by go_num, Lib.hid ⟨hy, fun _ => HN.out HZ.out, HD.out.1, _, HD.out.2, HH.out⟩⟩
          case measure => simp [intOf]; omega
    · have hd1 : ¬ (j : Int) < 1001 := by omega
      obtain rfl : j = 1001 := by omega
      obtain ⟨oA, oc, rfl, -⟩ := ho.form
      have HF : Hid (CellsPost (listM m) w (.returned (.slice oA (listM m).length oc)) wr) := Lib.hid ⟨_, rfl, ho, hbw⟩
      clear hbw ho
      go_wp2_with fail
      go_ret
      exact HF.out
def MarkPost (S : Pt → Prop) (w : World) (e : Ending) (w' : World) : Prop := ∃ g m, e = .returned (.pointer (some ⟨g, 0, none⟩)) ∧ w.heap.size ≤ g ∧ MAt w' g m ∧ Marks m S ∧ Below w.heap.size w w'
theorem Marks.congr {m : Nat → Nat} {S T : Pt → Prop} (h : Marks m S) (e : ∀ a, S a ↔ T a) : Marks m T := ⟨fun r c hr hc => (h.is r c hr hc).trans (e _), fun a ha => h.cell a ((e a).2 ha)⟩
set_option maxHeartbeats 1000000 in
set_option maxRecDepth 100000 in
theorem cmarked (l : List Pt) (A : Option Addr) (c : Nat) (w : World) (hl : l.length ≤ 1000000) (hR : Reads fP 2 w w.heap.size l A) :
    Calls Tryz.prog 49 #[.slice A l.length c] w (MarkPost (fun p => p ∈ l ∧ Cell p.r p.c) w) := by
  have HR := Lib.hid hR
  clear hR
  go_enter Tryz.func49, Tryz.ntmps49
  go_wp2_with fail
  have hz := MAt.zero w
  have K0 : Below w.heap.size w (w.alloc (.cells Tryz.zeroCells65 65)) := (Below.refl _ w).alloc (Nat.le_refl _) _
  generalize (w.alloc (.cells Tryz.zeroCells65 65)) = W at *
  generalize hg : w.heap.size = g at *
  have HK := Lib.hid K0
  have HZ := Lib.hid hz
  clear K0 hz
  go_loopw [8] (fun iv wr => ∃ k : Nat, k ≤ l.length ∧ iv = .int .i64 k ∧ Hid (Below g w wr ∧ ∃ m, MAt wr g m ∧ Marks m fun p => p ∈ l.take k ∧ Cell p.r p.c)) (fun iv _ => l.length - (intOf iv).toNat)
  case atStart => exact ⟨0, Nat.zero_le _, rfl, Lib.hid ⟨HK.out, _, HZ.out, marks_zero.congr fun a => by simp⟩⟩
  case round =>
    obtain ⟨k, hk, rfl, HR2⟩ := hrel
    obtain ⟨hb, m, hm, hs⟩ := HR2.out
    clear HZ HK
    by_cases hlt : k < l.length
    · have hd1 : (k : Int) < (l.length : Int) := by omega
      obtain ⟨x, hx⟩ := RowsC.at_some l k hlt
      obtain ⟨g0, o, rfl, hg0, c0, c1⟩ := Reads.pt (HR.out.below hb) k x hx
      have HX := Lib.hid (show ∀ p, p ∈ l.take (k + 1) ↔ p = x ∨ p ∈ l.take k by
        intro p; rw [List.take_add_one, hx, List.mem_append]; simp; exact Or.comm)
      have hlg := hm.lt
      have ng : g0 ≠ g := by omega
      have n2 : wr.heap.size ≠ g := by omega
      have n3 : g ≠ wr.heap.size := by omega
      have HB := Lib.hid hb
      have HM := Lib.hid hm
      have HS := Lib.hid hs
      clear hb hm hs hx
      go_wp2_with fail
      have hbx := Boxed.new (f := fP) (ty := 35) wr x
      have B1 : Below g wr (wr.alloc (.cells #[.int .i64 x.r, .int .i64 x.c] 35)) := (Below.refl _ wr).alloc (by omega) _
      have hm1 := HM.out.below ((Below.refl wr.heap.size wr).alloc (Nat.le_refl _) (.cells #[.int .i64 x.r, .int .i64 x.c] 35))
      change Boxed fP 35 (wr.alloc (.cells #[.int .i64 x.r, .int .i64 x.c] 35)) wr.heap.size x at hbx
      generalize (wr.alloc (.cells #[.int .i64 x.r, .int .i64 x.c] 35)) = V at *
      generalize hbn : wr.heap.size = bx at *
      refine (AddrC.good _ _ V).mono ?_; rintro e V2 ⟨rfl, hb2⟩
      have hbx2 := hbx.below hb2 hbx.lt
      have hm2 := hm1.below hb2
      have HB2 : Hid (Below g w V2) := Lib.hid (HB.out.trans (B1.trans (hb2.mono (Nat.le_of_lt hm1.lt))))
      have hlb := hbx2.lt
      have d0 := hbx2.cells 0 _ rfl
      have d1 := hbx2.cells 1 _ rfl
      have HM2 := Lib.hid hm2
      clear hbx hbx2 hm1 hb2 B1 hm2 c0 c1 HB HM
      cases hc : cellB x.r x.c
      · have HC := Lib.hid (of_decide_eq_false hc)
        clear hc
        go_wp2_with fail
        go_roundw
        case rel => exact ⟨k + 1, by omega, by go_num, Lib.hid ⟨HB2.out, m, HM2.out, HS.out.congr fun a => by
          rw [HX.out]
          constructor
          · exact fun h => ⟨Or.inr h.1, h.2⟩
          · rintro ⟨h | h, h2⟩
            · subst h; exact absurd h2 HC.out
            · exact ⟨h, h2⟩⟩⟩
        case measure => simp [intOf]; omega
      · have HC := Lib.hid (show Cell x.r x.c from of_decide_eq_true hc)
        have hcall := cmput g m x V2 HC.out HM2.out
        clear hc
        go_wp2_with fail
        refine hcall.mono ?_; rintro e V3 ⟨rfl, hk3, hm3⟩
        have HB3 : Hid (Below g w V3) := Lib.hid (HB2.out.trans ⟨hk3.os, hk3.tape, hk3.output, hk3.size, fun i hi => hk3.block i (by omega) (by omega)⟩)
        have HM3 := Lib.hid hm3
        clear hk3 hm3 hcall d0 d1
        go_wp2_with fail
        go_roundw
        case rel => exact ⟨k + 1, by omega, by go_num, Lib.hid ⟨HB3.out, _, HM3.out, (HS.out.put HC.out).congr fun a => by
          rw [HX.out]
          constructor
          · rintro (h | h)
            · subst h; exact ⟨Or.inl rfl, HC.out⟩
            · exact ⟨Or.inr h.1, h.2⟩
          · rintro ⟨h | h, h2⟩
            · exact Or.inl h
            · exact Or.inr ⟨h, h2⟩⟩⟩
        case measure => simp [intOf]; omega
    · have hd1 : ¬ (k : Int) < (l.length : Int) := by omega
      obtain rfl : k = l.length := by omega
      rw [List.take_length] at hs
      have HF : Hid (MarkPost (fun p => p ∈ l ∧ Cell p.r p.c) w (.returned (.pointer (some ⟨g, 0, none⟩))) wr) := Lib.hid ⟨g, m, rfl, by omega, hm, hs, by rw [hg]; exact hb⟩
      clear hb hm hs
      go_wp2_with fail
      go_ret
      exact HF.out
end Go.Proofs.YtakamedgdiffbaaGreatDoor.GraphC
namespace Go.Proofs.YtakamedgdiffbaaGreatDoor.GraphC
set_option linter.unusedVariables false
open Go.RowKit Go.Proofs.YtakamedgdiffbaaGreatDoor.NumC Go.Proofs.YtakamedgdiffbaaGreatDoor.RowsC
open Go.Proofs.YtakamedgdiffbaaGreatDoor.RefsC (Rc RAt hitsL RBox bits_or bits_and)
open Go.Proofs.YtakamedgdiffbaaGreatDoor.TreeC (Kept)
def wordN (s j : Nat) : Nat := s / 2 ^ (64 * j) % 18446744073709551616
theorem word_lt (s j : Nat) : wordN s j < 18446744073709551616 := Nat.mod_lt _ (by decide)
theorem word_bit (s j b : Nat) : (wordN s j).testBit b = (decide (b < 64) && s.testBit (64 * j + b)) := by
  unfold wordN
  rw [show (18446744073709551616 : Nat) = 2 ^ 64 from rfl, Nat.testBit_mod_two_pow, Nat.testBit_div_two_pow, Nat.add_comm b]
theorem word_ext {s t j : Nat} (h : ∀ b, b < 64 → s.testBit (64 * j + b) = t.testBit (64 * j + b)) : wordN s j = wordN t j := by
  apply Nat.eq_of_testBit_eq
  intro b
  rw [word_bit, word_bit]
  by_cases hb : b < 64
  · rw [h b hb]
  · simp [hb]
def Top (s : Nat) : Prop := ∀ b, 1024 ≤ b → s.testBit b = false
structure SAt (w : World) (g o s : Nat) : Prop where
  cell : ∀ j, j < 16 → w.cell? ⟨g, o + j, none⟩ = some (.int .u64 ((wordN s j : Nat) : Int))
  soft : ∀ j, j < 16 → w.frozen? ⟨g, o + j, none⟩ = false
  top : Top s
theorem SAt.lt {w : World} {g o s : Nat} (h : SAt w g o s) : g < w.heap.size := World.block_lt_of_cell? w _ (h.cell 0 (by decide))
theorem SAt.block {w w' : World} {g o s : Nat} (h : SAt w g o s) (hb : w'.heap[g]? = w.heap[g]?) : SAt w' g o s where
  cell j hj := (World.cell?_of_block hb).trans (h.cell j hj)
  soft j hj := (World.frozen?_of_block hb).trans (h.soft j hj)
  top := h.top
theorem SAt.kept {w w' : World} {g o s x : Nat} (h : SAt w g o s) (hk : Kept x w w') (hx : g ≠ x) : SAt w' g o s := h.block (hk.block g h.lt hx)
theorem SAt.but {w w' : World} {g o s : Nat} {P : Nat → Prop} (h : SAt w g o s) (hk : But P w w') (hx : ¬ P g) : SAt w' g o s := h.block (hk.block g h.lt hx)
theorem SAt.below {w w' : World} {g o s : Nat} (h : SAt w g o s) (hk : Below w.heap.size w w') : SAt w' g o s := h.block (hk.block g h.lt)
theorem set_top {s at_ : Nat} (hs : Top s) (ha : at_ < 1024) : Top (s ||| 2 ^ at_) := fun b hb => by
  rw [Nat.testBit_or, hs b hb, Nat.testBit_two_pow, decide_eq_false (by omega)]; rfl
theorem SAt.store {w : World} {g o s t j : Nat} (h : SAt w g o s) (ht : Top t) (he : ∀ i, i < 16 → i ≠ j → wordN t i = wordN s i) : SAt (w.setCell ⟨g, o + j, none⟩ (.int .u64 ((wordN t j : Nat) : Int))) g o t where
  cell i hi := by
    by_cases e : i = j
    · subst e
      exact World.cell?_setCell_same _ _ _ (h.cell i hi)
    · rw [World.cell?_setCell_other _ _ _ _ (fun x => e (by injection x; omega)), he i hi e]
      exact h.cell i hi
  soft i hi := by rw [World.frozen?_setCell]; exact h.soft i hi
  top := ht
theorem SAt.zero (w : World) : SAt (w.alloc (.cells #[.int .u64 0, .int .u64 0, .int .u64 0, .int .u64 0, .int .u64 0, .int .u64 0, .int .u64 0, .int .u64 0, .int .u64 0, .int .u64 0, .int .u64 0, .int .u64 0, .int .u64 0, .int .u64 0, .int .u64 0, .int .u64 0] 73)) w.heap.size 0 0 := by
  have h1 : (#[.int .u64 0, .int .u64 0, .int .u64 0, .int .u64 0, .int .u64 0, .int .u64 0, .int .u64 0, .int .u64 0, .int .u64 0, .int .u64 0, .int .u64 0, .int .u64 0, .int .u64 0, .int .u64 0, .int .u64 0, .int .u64 0] : Array Value) = Array.replicate 16 (.int .u64 0) := by kernel_rfl
  have hz : ∀ j, wordN 0 j = 0 := fun j => by unfold wordN; simp
  refine ⟨fun j hj => ?_, fun j hj => ?_, fun b _ => Nat.zero_testBit b⟩
  · rw [hz, Nat.zero_add]
    have := heap_alloc_new w (.cells #[.int .u64 0, .int .u64 0, .int .u64 0, .int .u64 0, .int .u64 0, .int .u64 0, .int .u64 0, .int .u64 0, .int .u64 0, .int .u64 0, .int .u64 0, .int .u64 0, .int .u64 0, .int .u64 0, .int .u64 0, .int .u64 0] 73)
    rw [h1] at this ⊢
    unfold World.cell?
    simp only [this]
    simp [hj]
  · have := heap_alloc_new w (.cells #[.int .u64 0, .int .u64 0, .int .u64 0, .int .u64 0, .int .u64 0, .int .u64 0, .int .u64 0, .int .u64 0, .int .u64 0, .int .u64 0, .int .u64 0, .int .u64 0, .int .u64 0, .int .u64 0, .int .u64 0, .int .u64 0] 73)
    unfold World.frozen?
    simp only [this]
    simp
theorem put_word (s at_ q r : Nat) (he : at_ = 64 * q + r) (hr : r < 64) : wordN (s ||| 2 ^ at_) q = wordN s q ||| 2 ^ r ∧ ∀ i, i ≠ q → wordN (s ||| 2 ^ at_) i = wordN s i := by
  constructor
  · apply Nat.eq_of_testBit_eq
    intro b
    rw [word_bit, Nat.testBit_or, Nat.testBit_or, word_bit, Nat.testBit_two_pow, Nat.testBit_two_pow]
    by_cases hb : b < 64
    · have : decide (at_ = 64 * q + b) = decide (r = b) := by rw [decide_eq_decide]; omega
      rw [this]; simp [hb]
    · have : decide (r = b) = false := decide_eq_false (by omega)
      rw [this]; simp [hb]
  · intro i hi
    refine word_ext fun b hb => ?_
    rw [Nat.testBit_or, Nat.testBit_two_pow, decide_eq_false (by omega), Bool.or_false]
theorem pow64_wrap (r t : Nat) (ht : t = 2 ^ r) (hr : r < 64) : IntKind.u64.wrap (2 ^ r) = (t : Int) ∧ t < 18446744073709551616 := by
  have h3 : (2 : Int) ^ r = ((2 ^ r : Nat) : Int) := by push_cast; rfl
  have h4 : (2 : Nat) ^ r ≤ 2 ^ 63 := Nat.pow_le_pow_right (by decide) (by omega)
  rw [h3, ← ht]
  rw [← ht] at h4
  rw [IntKind.wrap_u64]; omega
set_option maxHeartbeats 1000000 in
set_option maxRecDepth 100000 in
theorem csput (g s at_ : Nat) (w : World) (ha : at_ < 1024) (hS : SAt w g 0 s) :
    Calls Tryz.prog 41 #[.pointer (some ⟨g, 0, none⟩), .int .i64 (at_ : Int)] w fun e w' => e = .returned (.tuple #[]) ∧ Kept g w w' ∧ SAt w' g 0 (s ||| 2 ^ at_) := by
  obtain ⟨q, hq⟩ : ∃ q, q = at_ / 64 := ⟨_, rfl⟩
  obtain ⟨r, hr⟩ : ∃ r, r = at_ % 64 := ⟨_, rfl⟩
  have he : at_ = 64 * q + r := by omega
  have hr64 : r < 64 := by omega
  have hq16 : q < 16 := by omega
  obtain ⟨hw1, hw2⟩ := put_word s at_ q r he hr64
  have hq1 : (at_ : Int) / 64 = (q : Int) := by omega
  have hr1 : (at_ : Int) % 64 = (r : Int) := by omega
  have hr2 : (at_ : Int).tmod 64 = (r : Int) := by rw [Int.tmod_eq_emod_of_nonneg (by omega)]; exact hr1
  have hq2 : (at_ : Int).tdiv 64 = (q : Int) := by rw [Int.tdiv_eq_ediv_of_nonneg (by omega)]; exact hq1
  obtain ⟨t, ht⟩ : ∃ t : Nat, t = 2 ^ r := ⟨_, rfl⟩
  obtain ⟨h1, ht2⟩ := pow64_wrap r t ht hr64
  have q1 : w.cell? ⟨g, q, none⟩ = some (.int .u64 ((wordN s q : Nat) : Int)) := by have := hS.cell q hq16; rwa [Nat.zero_add] at this
  have q2 : w.frozen? ⟨g, q, none⟩ = false := by have := hS.soft q hq16; rwa [Nat.zero_add] at this
  have fo := bits_or (wordN s q) t (word_lt _ _) ht2
  have hS2 : SAt w.drew g 0 s := hS.block rfl
  have HS := hS2.store (j := q) (set_top hS.top ha) (fun i hi hne => hw2 i hne)
  rw [hw1, ← ht, Nat.zero_add] at HS
  have HS := Lib.hid HS
  have hi1 : (q : Int) < 16 := by omega
  have hi0 : (0 : Int) ≤ (q : Int) := by omega
  have hr0 : (0 : Int) ≤ (r : Int) := by omega
  have hqw : IntKind.i64.wrap (q : Int) = (q : Int) := by rw [IntKind.wrap_i64]; omega
  have hrw : IntKind.i64.wrap (r : Int) = (r : Int) := by rw [IntKind.wrap_i64]; omega
  generalize wordN s q = x at *
  have HK := Lib.hid (((Kept.refl g w).drew 1).setCell q (.int .u64 ((x ||| t : Nat) : Int)))
  generalize x ||| t = u at *
  have HE := Lib.hid (And.intro he (And.intro hq hr))
  have HT := Lib.hid ht
  clear hS hS2 hw1 hw2 ht he hq hr
  go_enter Tryz.func41, Tryz.ntmps41
  go_wp2_with fail
  refine region_tail 12 (by kernel_rfl) (by kernel_rfl) ?_
  simp only [List.take_succ_cons, List.take_zero, List.drop_succ_cons, List.drop_zero]
  replace q1 : w.drew.cell? ⟨g, q, none⟩ = some (.int .u64 (x : Int)) := q1
  replace q2 : w.drew.frozen? ⟨g, q, none⟩ = false := q2
  have HK2 : Hid (Kept g w (w.drew.setCell ⟨g, q, none⟩ (.int .u64 (u : Int)))) := HK
  generalize w.drew = V at *
  iterate 12 still_step
  refine wpStill_nil ?_
  go_wp2_with fail
  exact bodyPost_end (results_none (by rfl) _ _ _) rfl ⟨rfl, HK2.out, HS.out⟩
def dropN (s a : Nat) : Nat := s &&& (s ^^^ 2 ^ a)
theorem drop_bit (s a b : Nat) : (dropN s a).testBit b = (s.testBit b && decide (b ≠ a)) := by
  unfold dropN
  rw [Nat.testBit_and, Nat.testBit_xor, Nat.testBit_two_pow]
  by_cases h : b = a
  · subst h; cases s.testBit b <;> simp
  · rw [decide_eq_false (fun e => h e.symm), decide_eq_true h]; cases s.testBit b <;> rfl
theorem drop_word (s at_ q r : Nat) (he : at_ = 64 * q + r) (hr : r < 64) : wordN (dropN s at_) q = dropN (wordN s q) r ∧ ∀ i, i ≠ q → wordN (dropN s at_) i = wordN s i := by
  constructor
  · apply Nat.eq_of_testBit_eq
    intro b
    rw [word_bit, drop_bit, drop_bit, word_bit]
    by_cases hb : b < 64
    · have : decide (64 * q + b ≠ at_) = decide (b ≠ r) := by rw [decide_eq_decide]; omega
      rw [this]; simp [hb]
    · simp [hb]
  · intro i hi
    refine word_ext fun b hb => ?_
    rw [drop_bit, decide_eq_true (by omega), Bool.and_true]
theorem drop_top {s a : Nat} (hs : Top s) : Top (dropN s a) := fun b hb => by rw [drop_bit, hs b hb]; rfl
theorem bits_drop (x r t : Nat) (ht : t = 2 ^ r) (hx : x < 18446744073709551616) (hr : t < 18446744073709551616) : Op.intBits .andNot .u64 (x : Int) (t : Int) = pure (.int .u64 ((dropN x r : Nat) : Int)) := by
  have h : dropN x r < 18446744073709551616 := Nat.lt_of_le_of_lt (by unfold dropN; exact Nat.and_le_left) hx
  show (pure (.int .u64 (IntKind.u64.wrap ((BitVec.ofInt 64 (x : Int) &&& ~~~ BitVec.ofInt 64 (t : Int)).toNat : Int))) : Sem Value) = _
  have e : (BitVec.ofInt 64 (x : Int) &&& ~~~ BitVec.ofInt 64 (t : Int)).toNat = dropN x r := by
    apply Nat.eq_of_testBit_eq
    intro b
    rw [BitVec.testBit_toNat, BitVec.getLsbD_and, BitVec.getLsbD_not, ← BitVec.testBit_toNat, ← BitVec.testBit_toNat, RefsC.ofInt_nat x hx, RefsC.ofInt_nat t hr, drop_bit, ht, Nat.testBit_two_pow]
    by_cases hb : b < 64
    · have : decide (r = b) = !decide (b ≠ r) := by by_cases h : r = b <;> simp [h, eq_comm]
      rw [this]; simp [hb]
    · rw [Nat.testBit_lt_two_pow (Nat.lt_of_lt_of_le hx (Nat.pow_le_pow_right (n := 2) (j := b) (by omega) (show 64 ≤ b by omega)))]; simp
  rw [e]
  congr 2
  rw [IntKind.wrap_u64]; omega
set_option maxHeartbeats 1000000 in
set_option maxRecDepth 100000 in
theorem csdrop (g s at_ : Nat) (w : World) (ha : at_ < 1024) (hS : SAt w g 0 s) :
    Calls Tryz.prog 51 #[.pointer (some ⟨g, 0, none⟩), .int .i64 (at_ : Int)] w fun e w' => e = .returned (.tuple #[]) ∧ Kept g w w' ∧ SAt w' g 0 (dropN s at_) := by
  obtain ⟨q, hq⟩ : ∃ q, q = at_ / 64 := ⟨_, rfl⟩
  obtain ⟨r, hr⟩ : ∃ r, r = at_ % 64 := ⟨_, rfl⟩
  have he : at_ = 64 * q + r := by omega
  have hr64 : r < 64 := by omega
  have hq16 : q < 16 := by omega
  obtain ⟨hw1, hw2⟩ := drop_word s at_ q r he hr64
  have hq1 : (at_ : Int) / 64 = (q : Int) := by omega
  have hr1 : (at_ : Int) % 64 = (r : Int) := by omega
  have hr2 : (at_ : Int).tmod 64 = (r : Int) := by rw [Int.tmod_eq_emod_of_nonneg (by omega)]; exact hr1
  have hq2 : (at_ : Int).tdiv 64 = (q : Int) := by rw [Int.tdiv_eq_ediv_of_nonneg (by omega)]; exact hq1
  obtain ⟨t, ht⟩ : ∃ t : Nat, t = 2 ^ r := ⟨_, rfl⟩
  obtain ⟨h1, ht2⟩ := pow64_wrap r t ht hr64
  have q1 : w.cell? ⟨g, q, none⟩ = some (.int .u64 ((wordN s q : Nat) : Int)) := by have := hS.cell q hq16; rwa [Nat.zero_add] at this
  have q2 : w.frozen? ⟨g, q, none⟩ = false := by have := hS.soft q hq16; rwa [Nat.zero_add] at this
  have fo := bits_drop (wordN s q) r t ht (word_lt _ _) ht2
  have hS2 : SAt w.drew g 0 s := hS.block rfl
  have HS := hS2.store (j := q) (drop_top (a := at_) hS.top) (fun i hi hne => hw2 i hne)
  rw [hw1, Nat.zero_add] at HS
  have HS := Lib.hid HS
  have hi1 : (q : Int) < 16 := by omega
  have hi0 : (0 : Int) ≤ (q : Int) := by omega
  have hr0 : (0 : Int) ≤ (r : Int) := by omega
  have hqw : IntKind.i64.wrap (q : Int) = (q : Int) := by rw [IntKind.wrap_i64]; omega
  have hrw : IntKind.i64.wrap (r : Int) = (r : Int) := by rw [IntKind.wrap_i64]; omega
  generalize wordN s q = x at *
  have HK := Lib.hid (((Kept.refl g w).drew 1).setCell q (.int .u64 ((dropN x r : Nat) : Int)))
  generalize dropN x r = u at *
  have HE := Lib.hid (And.intro he (And.intro hq hr))
  have HT := Lib.hid ht
  clear hS hS2 hw1 hw2 ht he hq hr
  go_enter Tryz.func51, Tryz.ntmps51
  go_wp2_with fail
  refine region_tail 12 (by kernel_rfl) (by kernel_rfl) ?_
  simp only [List.take_succ_cons, List.take_zero, List.drop_succ_cons, List.drop_zero]
  replace q1 : w.drew.cell? ⟨g, q, none⟩ = some (.int .u64 (x : Int)) := q1
  replace q2 : w.drew.frozen? ⟨g, q, none⟩ = false := q2
  have HK2 : Hid (Kept g w (w.drew.setCell ⟨g, q, none⟩ (.int .u64 (u : Int)))) := HK
  generalize w.drew = V at *
  iterate 12 still_step
  refine wpStill_nil ?_
  go_wp2_with fail
  exact bodyPost_end (results_none (by rfl) _ _ _) rfl ⟨rfl, HK2.out, HS.out⟩
theorem bit_word (s at_ q r : Nat) (he : at_ = 64 * q + r) (hr : r < 64) : (wordN s q).testBit r = s.testBit at_ := by
  rw [word_bit, he]; simp [hr]
set_option maxHeartbeats 1000000 in
set_option maxRecDepth 100000 in
theorem cshas (g o s at_ : Nat) (w : World) (ha : at_ < 1024) (hS : SAt w g o s) :
    Calls Tryz.prog 44 #[.pointer (some ⟨g, o, none⟩), .int .i64 (at_ : Int)] w fun e w' => e = .returned (.bool (s.testBit at_)) ∧ w = w' := by
  obtain ⟨q, hq⟩ : ∃ q, q = at_ / 64 := ⟨_, rfl⟩
  obtain ⟨r, hr⟩ : ∃ r, r = at_ % 64 := ⟨_, rfl⟩
  have he : at_ = 64 * q + r := by omega
  have hr64 : r < 64 := by omega
  have hq16 : q < 16 := by omega
  have hq1 : (at_ : Int) / 64 = (q : Int) := by omega
  have hr1 : (at_ : Int) % 64 = (r : Int) := by omega
  have hr2 : (at_ : Int).tmod 64 = (r : Int) := by rw [Int.tmod_eq_emod_of_nonneg (by omega)]; exact hr1
  have hq2 : (at_ : Int).tdiv 64 = (q : Int) := by rw [Int.tdiv_eq_ediv_of_nonneg (by omega)]; exact hq1
  have q1 := hS.cell q hq16
  obtain ⟨v, hv⟩ : ∃ v, s.testBit at_ = v := ⟨_, rfl⟩
  have hb := bit_word s at_ q r he hr64
  rw [hv] at hb
  have f2 := low64 (wordN s q / 2 ^ r) (((wordN s q : Nat) : Int) / 2 ^ r) (by push_cast; rfl) (Nat.lt_of_le_of_lt (Nat.div_le_self _ _) (word_lt _ _))
  rw [bit_of _ _ _ hb] at f2
  have hi1 : (q : Int) < 16 := by omega
  have hi0 : (0 : Int) ≤ (q : Int) := by omega
  have hr0 : (0 : Int) ≤ (r : Int) := by omega
  have hqw : IntKind.i64.wrap (q : Int) = (q : Int) := by rw [IntKind.wrap_i64]; omega
  have hrw : IntKind.i64.wrap (r : Int) = (r : Int) := by rw [IntKind.wrap_i64]; omega
  rw [hv]
  generalize wordN s q = x at *
  have HE := Lib.hid (And.intro he (And.intro hq hr))
  clear hS he hq hr hb hv
  cases v
  · simp only [Bool.false_eq_true, if_false] at f2
    go_enter Tryz.func44, Tryz.ntmps44
    go_wp2_with fail
    go_ret
    exact ⟨rfl, rfl⟩
  · simp only [if_true] at f2
    go_enter Tryz.func44, Tryz.ntmps44
    go_wp2_with fail
    go_ret
    exact ⟨rfl, rfl⟩
def addN (s t k : Nat) : Nat := s ||| (t % 2 ^ (64 * k))
theorem add_bit (s t k b : Nat) : (addN s t k).testBit b = (s.testBit b || (decide (b < 64 * k) && t.testBit b)) := by
  unfold addN; rw [Nat.testBit_or, Nat.testBit_mod_two_pow]
theorem add_word (s t k : Nat) : wordN (addN s t k) k = wordN s k ∧ wordN (addN s t (k + 1)) k = wordN s k ||| wordN t k ∧ ∀ i, i ≠ k → wordN (addN s t (k + 1)) i = wordN (addN s t k) i := by
  refine ⟨word_ext fun b hb => ?_, ?_, fun i hi => word_ext fun b hb => ?_⟩
  · rw [add_bit, decide_eq_false (by omega)]; simp
  · apply Nat.eq_of_testBit_eq
    intro b
    rw [word_bit, Nat.testBit_or, word_bit, word_bit, add_bit]
    by_cases hb : b < 64
    · rw [decide_eq_true (show 64 * k + b < 64 * (k + 1) by omega)]; simp [hb]
    · simp [hb]
  · rw [add_bit, add_bit]
    have : decide (64 * i + b < 64 * (k + 1)) = decide (64 * i + b < 64 * k) := by rw [decide_eq_decide]; omega
    rw [this]
theorem add_all {s t : Nat} (ht : Top t) : addN s t 16 = s ||| t := by
  apply Nat.eq_of_testBit_eq
  intro b
  rw [add_bit, Nat.testBit_or]
  by_cases hb : b < 64 * 16
  · rw [decide_eq_true hb, Bool.true_and]
  · rw [ht b (by omega)]; simp
theorem add_top {s t : Nat} (hs : Top s) (ht : Top t) (k : Nat) : Top (addN s t k) := fun b hb => by
  rw [add_bit, hs b hb, ht b hb]; simp
set_option maxHeartbeats 1000000 in
set_option maxRecDepth 100000 in
theorem csadd (g s h o t : Nat) (w : World) (hS : SAt w g 0 s) (hT : SAt w h o t) (hne : h ≠ g) :
    Calls Tryz.prog 94 #[.pointer (some ⟨g, 0, none⟩), .pointer (some ⟨h, o, none⟩)] w fun e w' => e = .returned (.tuple #[]) ∧ Kept g w w' ∧ SAt w' g 0 (s ||| t) := by
  have HS := Lib.hid hS
  have HT := Lib.hid hT
  have h16 := Lib.hid (add_all (s := s) hT.top)
  clear hS hT
  go_enter Tryz.func94, Tryz.ntmps94
  go_wp2_with fail
  go_loopw [5] (fun iv wr => ∃ i : Nat, i ≤ 16 ∧ iv = .int .i64 i ∧ Hid (Kept g w wr ∧ SAt wr g 0 (addN s t i))) (fun iv _ => 16 - (intOf iv).toNat)
  case atStart => exact ⟨0, Nat.zero_le _, rfl, Lib.hid ⟨Kept.refl _ _, by rw [show addN s t 0 = s by unfold addN; simp [Nat.mod_one]]; exact HS.out⟩⟩
  case round =>
    obtain ⟨i, hi, rfl, HR⟩ := hrel
    obtain ⟨hk, hs⟩ := HR.out
    by_cases hlt : i < 16
    · have hi1 : (i : Int) < 16 := by omega
      have hi0 : (0 : Int) ≤ (i : Int) := by omega
      obtain ⟨hw0, hw1, hw2⟩ := add_word s t i
      have q1 : wr.cell? ⟨g, i, none⟩ = some (.int .u64 ((wordN s i : Nat) : Int)) := by have := hs.cell i hlt; rwa [Nat.zero_add, hw0] at this
      have q2 : wr.frozen? ⟨g, i, none⟩ = false := by have := hs.soft i hlt; rwa [Nat.zero_add] at this
      have q3 := (HT.out.kept hk hne).cell i hlt
      have fo := bits_or (wordN s i) (wordN t i) (word_lt _ _) (word_lt _ _)
      have hs2 : SAt wr.drew g 0 (addN s t i) := hs.block rfl
      have HN := hs2.store (j := i) (add_top HS.out.top HT.out.top (i + 1)) (fun j _ hne => hw2 j hne)
      rw [hw1, Nat.zero_add] at HN
      have HN := Lib.hid HN
      have HK := Lib.hid ((hk.drew 1).setCell i (.int .u64 ((wordN s i ||| wordN t i : Nat) : Int)))
      generalize wordN s i ||| wordN t i = u at *
      generalize wordN s i = x at *
      generalize wordN t i = y at *
      clear hs hs2 hk hw0 hw1 hw2
      go_wp2_with fail
      refine region_tail 13 (by kernel_rfl) (by kernel_rfl) ?_
      simp only [List.take_succ_cons, List.take_zero, List.drop_succ_cons, List.drop_zero]
      replace q1 : wr.drew.cell? ⟨g, i, none⟩ = some (.int .u64 (x : Int)) := q1
      replace q2 : wr.drew.frozen? ⟨g, i, none⟩ = false := q2
      replace q3 : wr.drew.cell? ⟨h, o + i, none⟩ = some (.int .u64 (y : Int)) := q3
      have HK2 : Hid (Kept g w (wr.drew.setCell ⟨g, i, none⟩ (.int .u64 (u : Int)))) := HK
      generalize wr.drew = V at *
      iterate 13 still_step
      refine wpStill_nil ?_
      go_wp2_with fail
      go_roundw
      case rel => exact ⟨i + 1, by omega, by go_num, Lib.hid ⟨HK2.out, HN.out⟩⟩
      case measure => simp [intOf]; omega
    · have hi1 : ¬ (i : Int) < 16 := by omega
      obtain rfl : i = 16 := by omega
      rw [h16.out] at hs
      have HF := Lib.hid (And.intro hk hs)
      clear hk hs
      go_wp2_with fail
      exact bodyPost_end (results_none (by rfl) _ _ _) rfl ⟨rfl, HF.out.1, HF.out.2⟩
theorem meet_words {s t : Nat} (hs : Top s) : s &&& t = 0 ↔ ∀ j, j < 16 → wordN s j &&& wordN t j = 0 := by
  constructor
  · intro h j _
    apply Nat.eq_of_testBit_eq
    intro b
    have := congrArg (fun x => x.testBit (64 * j + b)) h
    simp only [Nat.testBit_and, Nat.zero_testBit] at this ⊢
    rw [word_bit, word_bit]
    by_cases hb : b < 64
    · simp [hb, this]
    · simp [hb]
  · intro h
    apply Nat.eq_of_testBit_eq
    intro b
    rw [Nat.zero_testBit, Nat.testBit_and]
    by_cases hb : b < 1024
    · have h1 := congrArg (fun x => x.testBit (b % 64)) (h (b / 64) (by omega))
      simp only [Nat.testBit_and, Nat.zero_testBit] at h1
      rw [word_bit, word_bit, show 64 * (b / 64) + b % 64 = b by omega, decide_eq_true (by omega)] at h1
      simpa using h1
    · rw [hs b (by omega)]; rfl
set_option maxHeartbeats 1000000 in
set_option maxRecDepth 100000 in
theorem csmeets (g p s h o t : Nat) (w : World) (hS : SAt w g p s) (hT : SAt w h o t) :
    Calls Tryz.prog 46 #[.pointer (some ⟨g, p, none⟩), .pointer (some ⟨h, o, none⟩)] w fun e w' => e = .returned (.bool (decide (s &&& t ≠ 0))) ∧ Below w.heap.size w w' := by
  have HS := Lib.hid hS
  have HT := Lib.hid hT
  have HM := Lib.hid (meet_words (t := t) hS.top)
  obtain ⟨v, hv⟩ : ∃ v, decide (s &&& t ≠ 0) = v := ⟨_, rfl⟩
  rw [hv]
  have HV := Lib.hid hv
  clear hS hT hv
  go_enter Tryz.func46, Tryz.ntmps46
  go_wp2_with fail
  go_loopw [6] (fun iv wr => ∃ i : Nat, i ≤ 16 ∧ iv = .int .i64 i ∧ Hid (Below w.heap.size w wr ∧ ∀ j, j < i → wordN s j &&& wordN t j = 0)) (fun iv _ => 16 - (intOf iv).toNat)
  case atStart => exact ⟨0, Nat.zero_le _, rfl, Lib.hid ⟨Below.refl _ _, fun j hj => absurd hj (by omega)⟩⟩
  case round =>
    obtain ⟨i, hi, rfl, HR⟩ := hrel
    obtain ⟨hb, hz⟩ := HR.out
    by_cases hlt : i < 16
    · have hi1 : (i : Int) < 16 := by omega
      have hi0 : (0 : Int) ≤ (i : Int) := by omega
      have q1 := (HS.out.below hb).cell i hlt
      have q3 := (HT.out.below hb).cell i hlt
      have fo := bits_and (wordN s i) (wordN t i) (word_lt _ _) (word_lt _ _)
      have HU := Lib.hid (rfl : wordN s i &&& wordN t i = wordN s i &&& wordN t i)
      have HX := Lib.hid (show ∃ u, u = wordN s i &&& wordN t i from ⟨_, rfl⟩)
      obtain ⟨u, hu⟩ := HX.out
      rw [← hu] at fo
      have HU := Lib.hid hu
      have HB := Lib.hid hb
      have HZ := Lib.hid hz
      clear hb hz HX hu
      generalize (wordN s i : Nat) = x at q1 fo
      generalize (wordN t i : Nat) = y at q3 fo
      by_cases hu : u = 0
      · subst hu
        go_wp2_with fail
        go_quiet (fail)
        go_wp2_with fail
        go_roundw
        case rel => exact ⟨i + 1, by omega, by go_num, Lib.hid ⟨below_drewN' HB.out nq, fun j hj => by
          by_cases e : j = i
          · subst e; exact HU.out.symm
          · exact HZ.out j (by omega)⟩⟩
        case measure => simp [intOf]; omega
      · have HF : Hid (v = true) := Lib.hid (HV.out.symm.trans <| decide_eq_true fun e => hu (HU.out.trans (HM.out.1 e i hlt)))
        have hu1 : ((u : Int) == 0) = false := by simp; omega
        have hu2 : ¬ (u : Int) = 0 := by omega
        clear hu
        go_wp2_with fail
        go_quiet (fail)
        go_wp2_with fail
        go_ret
        exact ⟨by rw [HF.out]; rfl, below_drewN' HB.out nq⟩
    · have hi1 : ¬ (i : Int) < 16 := by omega
      obtain rfl : i = 16 := by omega
      have HF : Hid (v = false) := Lib.hid (HV.out.symm.trans <| decide_eq_false fun h => h (HM.out.2 hz))
      have HB := Lib.hid hb
      clear hb hz
      go_wp2_with fail
      go_ret
      exact ⟨by rw [HF.out]; rfl, HB.out⟩
end Go.Proofs.YtakamedgdiffbaaGreatDoor.GraphC
namespace Go.Proofs.YtakamedgdiffbaaGreatDoor.GraphC
set_option linter.unusedVariables false
open Go.RowKit Go.Proofs.YtakamedgdiffbaaGreatDoor.NumC Go.Proofs.YtakamedgdiffbaaGreatDoor.RowsC
open Go.MapKept (Stamped stamped_iff stamped_push stamped_modify stamped_erase)
open Go.ChangeMaps (setBlock heap_setBlock_same)
def ptV (p : Pt) : Value := .agg #[.int .i64 p.r, .int .i64 p.c]
theorem pt_inj {x y : Pt} (h : ptV x = ptV y) : x = y := by
  unfold ptV at h
  injection h with h
  have h := congrArg Array.toList h
  simp only [List.cons.injEq, Value.int.injEq, true_and, and_true] at h
  exact pt_eq.1 h
theorem eqPt (x y : Pt) (W : World) : (Op.equal 35 (ptV x) (ptV y)).run Tryz.prog W = .ok (decide (x = y)) W := by
  have h := eqP x y W
  rw [run_eql_struct] at h
  change (Op.equalIn 10000 35 (.agg #[.int .i64 x.r, .int .i64 x.c]) (.agg #[.int .i64 y.r, .int .i64 y.c])).run Tryz.prog W = _
  cases hr : (Op.equalIn 10000 35 (.agg #[.int .i64 x.r, .int .i64 x.c]) (.agg #[.int .i64 y.r, .int .i64 y.c])).run Tryz.prog W with
  | ok v w' =>
    rw [hr] at h
    simp only [Result.andThen, Result.ok.injEq, Value.bool.injEq] at h ⊢
    exact h
  | halt e w' => rw [hr] at h; cases h
theorem checkPt (em : Bool) (p : Pt) (W : World) : (Instr.checkKey em 10000 35 (ptV p)).run Tryz.prog W = .ok () W := by kernel_rfl
theorem staysPt (p : Pt) (W : World) : (Instr.keyThatStays (ptV p) (ptV p)).run Tryz.prog W = .ok (ptV p) W := by
  unfold Instr.keyThatStays ptV
  have : Instr.sameBits 10000 (.agg #[.int .i64 p.r, .int .i64 p.c]) (.agg #[.int .i64 p.r, .int .i64 p.c]) = true := by
    show Instr.sameBits (9998 + 2) _ _ = true
    simp [Instr.sameBits]
  rw [if_pos this]; rfl
theorem askPt (x : Pt) (W : World) : ∀ (es : List MapEntry) (i : Nat), (∀ e, e ∈ es → ∃ p, e.key = ptV p) →
    ((Instr.findAsking 35 (ptV x) es i).run Tryz.prog W = .ok none W ∧ ∀ e, e ∈ es → e.key ≠ ptV x) ∨
    ∃ j e, (Instr.findAsking 35 (ptV x) es i).run Tryz.prog W = .ok (some (i + j, e.val)) W ∧ es[j]? = some e ∧ e.key = ptV x := by
  intro es
  induction es with
  | nil => intro i _; exact Or.inl ⟨rfl, fun e h => by cases h⟩
  | cons e es ih =>
    intro i h
    obtain ⟨p, hp⟩ := h e List.mem_cons_self
    have he := eqPt x p W
    have hrun : (Instr.findAsking 35 (ptV x) (e :: es) i).run Tryz.prog W = if x = p then .ok (some (i, e.val)) W else (Instr.findAsking 35 (ptV x) es (i + 1)).run Tryz.prog W := by
      conv => lhs; unfold Instr.findAsking
      rw [hp, Sem.run_bind, he, Result.andThen_ok]
      by_cases e1 : x = p
      · simp [e1]
      · simp [e1]
    by_cases e1 : x = p
    · right
      exact ⟨0, e, by rw [hrun, if_pos e1]; rfl, rfl, by rw [hp, e1]⟩
    · rw [if_neg e1] at hrun
      rcases ih (i + 1) (fun e h' => h e (List.mem_cons_of_mem _ h')) with ⟨h1, h2⟩ | ⟨j, e', h1, h2, h3⟩
      · left
        refine ⟨hrun.trans h1, fun e' he' => ?_⟩
        rcases List.mem_cons.1 he' with rfl | he'
        · rw [hp]; exact fun k => e1 (pt_inj k).symm
        · exact h2 e' he'
      · right
        exact ⟨j + 1, e', by rw [hrun, h1, show i + 1 + j = i + (j + 1) by omega], h2, h3⟩
theorem findPt (x : Pt) (W : World) (es : List MapEntry) (h : ∀ e, e ∈ es → ∃ p, e.key = ptV p) :
    ((Instr.findKey 35 (ptV x) es).run Tryz.prog W = .ok none W ∧ ∀ e, e ∈ es → e.key ≠ ptV x) ∨
    ∃ j e, (Instr.findKey 35 (ptV x) es).run Tryz.prog W = .ok (some (j, e.val)) W ∧ es[j]? = some e ∧ e.key = ptV x := by
  have hu := Tryz.underlying35
  cases es with
  | nil => exact Or.inl ⟨by simp [Instr.findKey, run_underlying hu, Instr.findNow], fun e h => by cases h⟩
  | cons e es =>
    have hrun : (Instr.findKey 35 (ptV x) (e :: es)).run Tryz.prog W = (Instr.findAsking 35 (ptV x) (e :: es)).run Tryz.prog W := by
      simp [Instr.findKey, run_underlying hu, Instr.findNow, Instr.sameNow, Result.andThen]
    rw [hrun]
    rcases askPt x W (e :: es) 0 h with h1 | ⟨j, e', h1, h2, h3⟩
    · exact Or.inl h1
    · exact Or.inr ⟨j, e', by rw [h1, Nat.zero_add], h2, h3⟩
structure MpAt (w : World) (b : Nat) (es : Array MapEntry) (clock : Nat) : Prop where
  at_ : w.heap[b]? = some (.map es clock)
  stamped : Stamped es clock
  keys : ∀ e, e ∈ es.toList → ∃ p, e.key = ptV p
theorem MpAt.lt {w : World} {b : Nat} {es : Array MapEntry} {clock : Nat} (h : MpAt w b es clock) : b < w.heap.size := (Array.getElem?_eq_some_iff.1 h.at_).1
theorem MpAt.block {w w' : World} {b : Nat} {es : Array MapEntry} {clock : Nat} (h : MpAt w b es clock) (hb : w'.heap[b]? = w.heap[b]?) : MpAt w' b es clock := { h with at_ := hb.trans h.at_ }
theorem MpAt.only {w : World} {b : Nat} {es : Array MapEntry} {clock : Nat} (h : MpAt w b es clock) {x y : MapEntry} (hx : x ∈ es.toList) (hy : y ∈ es.toList) (e : x.key = y.key) : x = y :=
  entry_eq_of_key ((stamped_iff es clock).1 h.stamped).2.2 hx hy e
abbrev TM : TypeId := 46
theorem hTM : Tryz.prog.underlying TM = some (.map 35 36) := Tryz.underlying46
theorem MpAt.look {w : World} {b : Nat} {es : Array MapEntry} {clock : Nat} (h : MpAt w b es clock) (c : Bool) (a : Pt) :
    ((Instr.lookup TM (.map (some b)) (ptV a) c).run Tryz.prog w = .ok (if c then .tuple #[.slice none 0 0, .bool false] else .slice none 0 0) w ∧ ∀ e, e ∈ es.toList → e.key ≠ ptV a) ∨
    ∃ e, e ∈ es.toList ∧ e.key = ptV a ∧ (Instr.lookup TM (.map (some b)) (ptV a) c).run Tryz.prog w = .ok (if c then .tuple #[e.val, .bool true] else e.val) w := by
  have hz : (zeroValue 36).run Tryz.prog w = .ok (.slice none 0 0) w := by kernel_rfl
  have hck := checkPt es.isEmpty a w
  rcases findPt a w es.toList h.keys with ⟨h1, h2⟩ | ⟨j, e, h1, h2, h3⟩
  · refine Or.inl ⟨?_, h2⟩
    simp [Instr.lookup, run_underlying hTM, MapKept.run_getObj_map h.at_, hck, h1, hz, Result.andThen]
  · refine Or.inr ⟨e, List.mem_of_getElem? h2, h3, ?_⟩
    simp [Instr.lookup, run_underlying hTM, MapKept.run_getObj_map h.at_, hck, h1, Result.andThen]
theorem look_nil (w : World) (c : Bool) (a : Pt) : (Instr.lookup TM (.map none) (ptV a) c).run Tryz.prog w = .ok (if c then .tuple #[.slice none 0 0, .bool false] else .slice none 0 0) w := by
  have hz : (zeroValue 36).run Tryz.prog w = .ok (.slice none 0 0) w := by kernel_rfl
  have hck := checkPt true a w
  have h1 : (Instr.findKey 35 (ptV a) []).run Tryz.prog w = .ok none w := by
    rcases findPt a w [] (fun e h => by cases h) with ⟨h1, -⟩ | ⟨j, e, -, h2, -⟩
    · exact h1
    · cases h2
  simp [Instr.lookup, run_underlying hTM, hck, h1, hz, Result.andThen]
theorem MpAt.drop {w : World} {b : Nat} {es : Array MapEntry} {clock : Nat} (h : MpAt w b es clock) (a : Pt) (ty : TypeId) :
    ∃ es', (Builtin.delete_ #[TM, 35] ty #[.map (some b), ptV a]).run Tryz.prog w = .ok (.tuple #[]) (setBlock w b (.map es' clock)) ∧ MpAt (setBlock w b (.map es' clock)) b es' clock ∧
      (∀ e, e ∈ es'.toList ↔ e ∈ es.toList ∧ e.key ≠ ptV a) ∧ (((∀ e, e ∈ es.toList → e.key ≠ ptV a) ∧ es'.size = es.size) ∨ ((∃ e, e ∈ es.toList ∧ e.key = ptV a) ∧ es'.size + 1 = es.size)) := by
  have hck := checkPt es.isEmpty a w
  have hsame : ∀ x, (setBlock w b x).heap[b]? = some x := fun x => heap_setBlock_same h.at_ x
  rcases findPt a w es.toList h.keys with ⟨h1, h2⟩ | ⟨j, e0, h1, h2, h3⟩
  · refine ⟨es, by simp [Builtin.delete_, run_underlying hTM, MapKept.run_getObj_map h.at_, hck, h1, MapKept.run_setObj_map _ h.at_, Result.andThen, setBlock], { h with at_ := hsame _ }, fun e => ⟨fun he => ⟨he, h2 e he⟩, fun he => he.1⟩, Or.inl ⟨h2, rfl⟩⟩
  · have hjl : j < es.toList.length := (List.getElem?_eq_some_iff.1 h2).1
    have hjs : j < es.size := by simpa using hjl
    have hsub : (es.eraseIdxIfInBounds j).toList = es.toList.eraseIdx j := by
      unfold Array.eraseIdxIfInBounds
      rw [dif_pos hjs]
      simp
    have hst := (stamped_iff es clock).1 h.stamped
    have hmem : ∀ e, e ∈ es.toList.eraseIdx j ↔ e ∈ es.toList ∧ e.key ≠ ptV a := by
      intro e
      rw [List.mem_eraseIdx_iff_getElem?]
      constructor
      · rintro ⟨i, hne, hi⟩
        refine ⟨List.mem_of_getElem? hi, fun hk => ?_⟩
        have e1 : e = e0 := entry_eq_of_key hst.2.2 (List.mem_of_getElem? hi) (List.mem_of_getElem? h2) (hk.trans h3.symm)
        subst e1
        have hnd : es.toList.Nodup := by
          refine hst.2.2.imp ?_
          rintro x y hxy rfl; exact hxy rfl
        exact hne ((List.getElem?_inj (List.getElem?_eq_some_iff.1 hi).1 hnd).1 (hi.trans h2.symm))
      · rintro ⟨he, hk⟩
        obtain ⟨i, hi⟩ := List.getElem?_of_mem he
        exact ⟨i, fun e1 => by subst e1; rw [h2] at hi; cases hi; exact hk h3, hi⟩
    refine ⟨es.eraseIdxIfInBounds j, by simp [Builtin.delete_, run_underlying hTM, MapKept.run_getObj_map h.at_, hck, h1, MapKept.run_setObj_map _ h.at_, Result.andThen, setBlock], ⟨hsame _, stamped_erase h.stamped j, fun e he => ?_⟩, fun e => by rw [hsub]; exact hmem e, ?_⟩
    · rw [hsub] at he
      exact h.keys e ((hmem e).1 he).1
    · refine Or.inr ⟨⟨e0, List.mem_of_getElem? h2, h3⟩, ?_⟩
      have : (es.eraseIdxIfInBounds j).size = es.size - 1 := by
        rw [← Array.length_toList, hsub, List.length_eraseIdx, if_pos hjl, Array.length_toList]
      omega
theorem MpAt.store {w : World} {b : Nat} {es : Array MapEntry} {clock : Nat} (h : MpAt w b es clock) (a : Pt) (v : Value) :
    ∃ es' clock', (Instr.mapUpdate TM (.map (some b)) (ptV a) v).run Tryz.prog w = .ok () (setBlock w b (.map es' clock')) ∧ MpAt (setBlock w b (.map es' clock')) b es' clock' ∧
      (∀ e, e ∈ es'.toList → (e ∈ es.toList ∧ e.key ≠ ptV a) ∨ (e.key = ptV a ∧ e.val = v)) ∧ (∀ e, e ∈ es.toList → e.key ≠ ptV a → e ∈ es'.toList) ∧ (∃ e, e ∈ es'.toList ∧ e.key = ptV a) ∧
      (((∀ e, e ∈ es.toList → e.key ≠ ptV a) ∧ es'.size = es.size + 1) ∨ ((∃ e, e ∈ es.toList ∧ e.key = ptV a) ∧ es'.size = es.size)) := by
  have hck := checkPt false a w
  have hst2 := staysPt a w
  have hsame : ∀ x, (setBlock w b x).heap[b]? = some x := fun x => heap_setBlock_same h.at_ x
  rcases findPt a w es.toList h.keys with ⟨h1, h2⟩ | ⟨j, e0, h1, h2, h3⟩
  · refine ⟨es.push ⟨ptV a, v, clock⟩, clock + 1, by simp [Instr.mapUpdate, run_underlying hTM, MapKept.run_getObj_map h.at_, hck, h1, MapKept.run_setObj_map _ h.at_, Result.andThen, setBlock],
      ⟨hsame _, stamped_push h.stamped h2, fun e he => ?_⟩, fun e he => ?_, fun e he hk => ?_, ⟨⟨ptV a, v, clock⟩, by simp, rfl⟩, ?_⟩
    · simp only [Array.toList_push, List.mem_append, List.mem_singleton] at he
      rcases he with he | rfl
      · exact h.keys e he
      · exact ⟨a, rfl⟩
    · simp only [Array.toList_push, List.mem_append, List.mem_singleton] at he
      rcases he with he | rfl
      · exact Or.inl ⟨he, h2 e he⟩
      · exact Or.inr ⟨rfl, rfl⟩
    · simp only [Array.toList_push, List.mem_append]; exact Or.inl he
    · exact Or.inl ⟨h2, Array.size_push _⟩
  · have hj : es[j]? = some e0 := by simpa using h2
    have hjl : j < es.toList.length := (List.getElem?_eq_some_iff.1 h2).1
    have hkeyf : ∀ e', es[j]? = some e' → ({ e' with key := ptV a, val := v } : MapEntry).key = e'.key := fun e' he' => by rw [hj] at he'; cases he'; exact h3.symm
    have hlist : (es.modify j (fun e' => { e' with key := ptV a, val := v })).toList = es.toList.set j { e0 with key := ptV a, val := v } := by rw [Array.toList_modify, ChangeMaps.modify_eq_set _ _ _ _ h2]
    have hst := (stamped_iff es clock).1 h.stamped
    have who : ∀ x, x ∈ es.toList.set j { e0 with key := ptV a, val := v } → x = { e0 with key := ptV a, val := v } ∨ (x ∈ es.toList ∧ x.key ≠ ptV a) := by
      intro x hx
      obtain ⟨i, hi, ex⟩ := List.getElem_of_mem hx
      rw [List.getElem_set] at ex
      split at ex
      · exact Or.inl ex.symm
      · rename_i hne
        have hi' : i < es.toList.length := by simpa using hi
        refine Or.inr ⟨ex ▸ List.getElem_mem hi', fun hk => ?_⟩
        have hm : x ∈ es.toList := ex ▸ List.getElem_mem hi'
        have e1 : x = e0 := entry_eq_of_key hst.2.2 hm (List.mem_of_getElem? h2) (hk.trans h3.symm)
        have hnd : es.toList.Nodup := by
          refine hst.2.2.imp ?_
          rintro x y hxy rfl; exact hxy rfl
        have h5 : es.toList[i]? = some e0 := by rw [List.getElem?_eq_getElem hi', ex, e1]
        exact hne ((List.getElem?_inj (List.getElem?_eq_some_iff.1 h2).1 hnd).1 (h2.trans h5.symm))
    refine ⟨es.modify j (fun e' => { e' with key := ptV a, val := v }), clock, by simp [Instr.mapUpdate, run_underlying hTM, MapKept.run_getObj_map h.at_, hck, h1, hj, h3, hst2, MapKept.run_setObj_map _ h.at_, Result.andThen, setBlock],
      ⟨hsame _, stamped_modify h.stamped _ _ (fun _ _ => rfl) (fun e' _ he' => hkeyf e' he'), fun e he => ?_⟩, fun e he => ?_, fun e he hk => ?_, ⟨{ e0 with key := ptV a, val := v }, ?_, rfl⟩, ?_⟩
    · rw [hlist] at he
      rcases who e he with rfl | ⟨he, -⟩
      · exact ⟨a, rfl⟩
      · exact h.keys e he
    · rw [hlist] at he
      rcases who e he with rfl | he
      · exact Or.inr ⟨rfl, rfl⟩
      · exact Or.inl he
    · rw [hlist]
      obtain ⟨i, hi⟩ := List.getElem?_of_mem he
      have hij : j ≠ i := by rintro rfl; rw [h2] at hi; cases hi; exact hk h3
      exact List.mem_of_getElem? (i := i) (by rw [List.getElem?_set_ne hij]; exact hi)
    · rw [hlist]
      exact List.mem_of_getElem? (i := j) (by rw [List.getElem?_set_self hjl])
    · exact Or.inr ⟨⟨e0, List.mem_of_getElem? h2, h3⟩, Array.size_modify⟩
end Go.Proofs.YtakamedgdiffbaaGreatDoor.GraphC
namespace Go.Proofs.YtakamedgdiffbaaGreatDoor.GraphC
set_option linter.unusedVariables false
open Go.RowKit Go.Proofs.YtakamedgdiffbaaGreatDoor.NumC Go.Proofs.YtakamedgdiffbaaGreatDoor.RowsC
open Go.Proofs.YtakamedgdiffbaaGreatDoor.RefsC (Rc RAt hitsL RBox Srt)
open Go.Proofs.YtakamedgdiffbaaGreatDoor.AddrC (cellB fineB FineP Cell)
open Go.Proofs.YtakamedgdiffbaaGreatDoor.TreeC (Kept)
open Go.MapKept (Stamped stamped_iff)
open Go.ChangeMaps (setBlock heap_setBlock_same)
def EsAt (w : World) (mo : Option Nat) (es : Array MapEntry) : Prop := (mo = none ∧ es = #[]) ∨ ∃ b clock, mo = some b ∧ MpAt w b es clock
theorem EsAt.block {w w' : World} {mo : Option Nat} {es : Array MapEntry} (h : EsAt w mo es) (hb : ∀ b, mo = some b → w'.heap[b]? = w.heap[b]?) : EsAt w' mo es := by
  rcases h with h | ⟨b, clock, e, h⟩
  · exact Or.inl h
  · exact Or.inr ⟨b, clock, e, h.block (hb b e)⟩
theorem EsAt.lt {w : World} {mo : Option Nat} {es : Array MapEntry} (h : EsAt w mo es) : ∀ b, mo = some b → b < w.heap.size := by
  rcases h with ⟨e, -⟩ | ⟨b, clock, e, h⟩
  · intro b e2; rw [e] at e2; cases e2
  · intro b2 e2; rw [e] at e2; cases e2; exact h.lt
def Rg (w : World) (mo : Option Nat) (r : Nat) (es : Array MapEntry) (seen : Array Nat) : Prop :=
  (mo = none ∧ es = #[] ∧ w.heap[r]? = some (.mapIter none 0 #[] 0)) ∨
  ∃ b clock since c0, mo = some b ∧ MpAt w b es clock ∧ w.heap[r]? = some (.mapIter (some b) since seen c0) ∧ (∀ x, x ∈ es.toList → x.born < since) ∧ since ≤ c0 ∧ since ≤ clock
theorem Rg.block {w w' : World} {mo : Option Nat} {r : Nat} {es : Array MapEntry} {seen : Array Nat} (h : Rg w mo r es seen) (hr : w'.heap[r]? = w.heap[r]?) (hb : ∀ b, mo = some b → w'.heap[b]? = w.heap[b]?) : Rg w' mo r es seen := by
  rcases h with ⟨h1, h2, h3⟩ | ⟨b, clock, since, c0, e, h1, h2, h3⟩
  · exact Or.inl ⟨h1, h2, hr.trans h3⟩
  · exact Or.inr ⟨b, clock, since, c0, e, h1.block (hb b e), hr.trans h2, h3⟩
theorem Rg.lt {w : World} {mo : Option Nat} {r : Nat} {es : Array MapEntry} {seen : Array Nat} (h : Rg w mo r es seen) : r < w.heap.size ∧ ∀ b, mo = some b → b < w.heap.size := by
  rcases h with ⟨h1, h2, h3⟩ | ⟨b, clock, since, c0, e, h1, h2, h3⟩
  · exact ⟨(Array.getElem?_eq_some_iff.1 h3).1, fun b e => by rw [h1] at e; cases e⟩
  · exact ⟨(Array.getElem?_eq_some_iff.1 h2).1, fun b2 e2 => by rw [e] at e2; cases e2; exact h1.lt⟩
def rgLeft (w : World) (r : Nat) : Nat :=
  match w.heap[r]? with
  | some (.mapIter (some b) _ seen _) => (match w.heap[b]? with | some (.map es _) => (leftOf es seen).size | _ => 0)
  | _ => 0
theorem Rg.left {w : World} {mo : Option Nat} {r : Nat} {es : Array MapEntry} {seen : Array Nat} (h : Rg w mo r es seen) : rgLeft w r = (leftOf es seen).size := by
  unfold rgLeft
  rcases h with ⟨h1, h2, h3⟩ | ⟨b, clock, since, c0, e, h1, h2, h3⟩
  · rw [h3, h2]; simp [leftOf]
  · rw [h2]; simp only [h1.at_]
theorem mem_left {es : Array MapEntry} {seen : Array Nat} {e : MapEntry} : e ∈ (leftOf es seen).toList ↔ e ∈ es.toList ∧ ¬ e.born ∈ seen.toList := by
  unfold leftOf
  simp
theorem left_push {w : World} {b : Nat} {es : Array MapEntry} {clock : Nat} {seen : Array Nat} {e : MapEntry} (h : MpAt w b es clock) (he : e ∈ (leftOf es seen).toList) :
    (∀ x, x ∈ (leftOf es (seen.push e.born)).toList ↔ x ∈ (leftOf es seen).toList ∧ x ≠ e) ∧ (leftOf es (seen.push e.born)).size < (leftOf es seen).size := by
  have hinj := ((stamped_iff es clock).1 h.stamped).2.1
  have hm := (mem_left.1 he).1
  have hx : ∀ x, x ∈ es.toList → (x.born = e.born ↔ x = e) := fun x hx => ⟨fun hb => born_inj hinj hx hm hb, fun e => by rw [e]⟩
  constructor
  · intro x
    rw [mem_left, mem_left]
    simp only [Array.toList_push, List.mem_append, List.mem_singleton, not_or]
    constructor
    · rintro ⟨h1, h2, h3⟩; exact ⟨⟨h1, h2⟩, fun k => h3 ((hx x h1).2 k)⟩
    · rintro ⟨⟨h1, h2⟩, h3⟩; exact ⟨h1, h2, fun k => h3 ((hx x h1).1 k)⟩
  · rw [← Array.length_toList, ← Array.length_toList]
    unfold leftOf
    rw [Array.toList_filter, Array.toList_filter]
    refine filter_len_lt (c := e) (fun x hx h => ?_) hm ?_ ?_
    · simp only [Array.contains_push, Bool.not_or, Bool.and_eq_true] at h; exact h.1
    · simp
    · have := (mem_left.1 he).2
      simpa using this
theorem EsAt.range {w : World} {mo : Option Nat} {es : Array MapEntry} (h : EsAt w mo es) :
    ∃ w', (Instr.range TM (.map mo)).run Tryz.prog w = .ok (.pointer (some ⟨w.heap.size, 0, none⟩)) w' ∧ Rg w' mo w.heap.size es #[] ∧ Below w.heap.size w w' ∧ w'.heap.size = w.heap.size + 1 := by
  rcases h with ⟨rfl, rfl⟩ | ⟨b, clock, rfl, h⟩
  · exact ⟨_, run_range_nilMap w TM _ _ hTM, Or.inl ⟨rfl, rfl, heap_alloc_new _ _⟩, (Below.refl _ w).alloc (Nat.le_refl _) _, by simp⟩
  · have hb : Below w.heap.size w (w.alloc (.mapIter (some b) clock #[] clock)) := (Below.refl _ w).alloc (Nat.le_refl _) _
    exact ⟨_, run_range_map w TM _ _ b es clock hTM h.at_, Or.inr ⟨b, clock, clock, clock, rfl, h.block (hb.block b h.lt), heap_alloc_new _ _, ((stamped_iff es clock).1 h.stamped).1, Nat.le_refl _, Nat.le_refl _⟩, hb, by simp⟩
theorem Rg.next {w : World} {mo : Option Nat} {r : Nat} {es : Array MapEntry} {seen : Array Nat} (h : Rg w mo r es seen) (ty : TypeId) :
    ((leftOf es seen).toList = [] ∧ (Instr.next (.pointer (some ⟨r, 0, none⟩)) false ty).run Tryz.prog w = .ok (.tuple #[.bool false]) w) ∨
    ∃ e p w', e ∈ (leftOf es seen).toList ∧ e.key = ptV p ∧ (Instr.next (.pointer (some ⟨r, 0, none⟩)) false ty).run Tryz.prog w = .ok (.tuple #[.bool true, ptV p, e.val]) w' ∧ Rg w' mo r es (seen.push e.born) ∧
      (∀ x, x ∈ (leftOf es (seen.push e.born)).toList ↔ x ∈ (leftOf es seen).toList ∧ x ≠ e) ∧ (leftOf es (seen.push e.born)).size < (leftOf es seen).size ∧
      Kept r w w' ∧ w'.heap.size = w.heap.size ∧ (Instr.entry (.pointer (some ⟨r, 0, none⟩))).run Tryz.prog w' = .ok (.tuple #[ptV p, e.val]) w' := by
  rcases h with ⟨rfl, rfl, h3⟩ | ⟨b, clock, since, c0, rfl, h1, h2, h3, h4, h5⟩
  · left
    refine ⟨by simp [leftOf], ?_⟩
    simp [Instr.next, getObj, Sem.run, h3, Result.andThen]
  · rcases run_next_at w ty r b since c0 seen es clock h2 h1.at_ h3 h4 with ⟨h0, hrun⟩ | ⟨e, he, w1, hw1, hrun⟩
    · exact Or.inl ⟨by rw [← List.length_eq_zero_iff, Array.length_toList]; exact h0, hrun⟩
    · right
      obtain ⟨p, hp⟩ := h1.keys e (mem_left.1 he).1
      have hr1 : w1.heap = w.heap := by rcases hw1 with rfl | rfl <;> rfl
      have hne : r ≠ b := fun e => by rw [e, h1.at_] at h2; cases h2
      have hr2 : w1.heap[r]? = some (.mapIter (some b) since seen c0) := by rw [hr1]; exact h2
      have hlt := (Array.getElem?_eq_some_iff.1 h2).1
      have hK : Kept r w (setBlock w1 r (.mapIter (some b) since (seen.push e.born) clock)) := by
        refine ⟨?_, ?_, ?_, ?_, fun k hk hx => ?_⟩
        · rcases hw1 with rfl | rfl <;> rfl
        · rcases hw1 with rfl | rfl <;> rfl
        · rcases hw1 with rfl | rfl <;> rfl
        · simp [setBlock, hr1]
        · simp only [setBlock, hr1]
          rw [Array.getElem?_setIfInBounds_ne (fun e => hx e.symm)]
      have hself : (setBlock w1 r (.mapIter (some b) since (seen.push e.born) clock)).heap[r]? = some (.mapIter (some b) since (seen.push e.born) clock) := by
        simp only [setBlock, hr1]
        rw [Array.getElem?_setIfInBounds_self_of_lt hlt]
      have hb2 := h1.block (hK.block b h1.lt (fun e => hne e.symm))
      obtain ⟨q1, q2⟩ := left_push h1 he
      rw [hp] at hrun
      refine ⟨e, p, _, he, hp, hrun, Or.inr ⟨b, clock, since, clock, rfl, hb2, hself, h3, h5, h5⟩, q1, q2, hK, by simp [setBlock, hr1], ?_⟩
      have := run_entry_at (P := Tryz.prog) _ r b since seen es clock e hself hb2.at_ (mem_left.1 he).1 ((stamped_iff es clock).1 h1.stamped).2.1
      rw [hp] at this
      exact this
section
variable (w : World) {ops : Array Oper} {rest : List Oper} {o : Oper} {a : Act} {Q : Exit → Act → World → Prop}
theorem wpList_range_es (hg : o.guard = none) (m : Operand) (hop : o.op = Op.range TM m) {mo : Option Nat} {es : Array MapEntry} (hm : a.eval m = .map mo) (h : EsAt w mo es)
    (hK : ∀ w', Rg w' mo w.heap.size es #[] → Below w.heap.size w w' → w'.heap.size = w.heap.size + 1 → wpList Tryz.prog ops Q rest (a.put o.dst (.pointer (some ⟨w.heap.size, 0, none⟩))) w') :
    wpList Tryz.prog ops Q (o :: rest) a w := by
  refine wpList_plain hg fun K' hK' => ?_
  obtain ⟨w', hrun, r1, r2, r3⟩ := h.range
  unfold Oper.wp
  simp [execOp, hop, hm, hrun, Result.andThen]
  exact hK' _ _ (hK w' r1 r2 r3)
theorem wpList_next_rg (hg : o.guard = none) (it : Operand) (hop : o.op = Op.next it false) {mo : Option Nat} {r : Nat} {es : Array MapEntry} {seen : Array Nat} (hit : a.eval it = .pointer (some ⟨r, 0, none⟩)) (h : Rg w mo r es seen)
    (hDone : (leftOf es seen).toList = [] → wpList Tryz.prog ops Q rest (a.put o.dst (.tuple #[.bool false])) w)
    (hMore : ∀ e p w', e ∈ (leftOf es seen).toList → e.key = ptV p → Rg w' mo r es (seen.push e.born) →
      (∀ x, x ∈ (leftOf es (seen.push e.born)).toList ↔ x ∈ (leftOf es seen).toList ∧ x ≠ e) → (leftOf es (seen.push e.born)).size < (leftOf es seen).size → Kept r w w' → w'.heap.size = w.heap.size →
      (Instr.entry (.pointer (some ⟨r, 0, none⟩))).run Tryz.prog w' = .ok (.tuple #[ptV p, e.val]) w' → wpList Tryz.prog ops Q rest (a.put o.dst (.tuple #[.bool true, ptV p, e.val])) w') :
    wpList Tryz.prog ops Q (o :: rest) a w := by
  refine wpList_plain hg fun K' hK' => ?_
  unfold Oper.wp
  rcases h.next o.type with ⟨h0, hrun⟩ | ⟨e, p, w', h1, h2, hrun, h3, h4, h5, h6, h7, h8⟩
  · simp [execOp, hop, hit, hrun, Result.andThen]
    exact hK' _ _ (hDone h0)
  · simp [execOp, hop, hit, hrun, Result.andThen]
    exact hK' _ _ (hMore e p w' h1 h2 h3 h4 h5 h6 h7 h8)
end
def RowV (w : World) (Q : Nat → Prop) (l : List Rc) (v : Value) : Prop := ∃ A c, v = .slice A l.length c ∧ RAt w w.heap.size l A ∧ (l ≠ [] → ∀ a, A = some a → Q a.block)
theorem RowV.keep {w w' : World} {Q : Nat → Prop} {l : List Rc} {v : Value} (h : RowV w Q l v) (hs : w.heap.size ≤ w'.heap.size) (hk : ∀ k, Q k → k < w.heap.size → w'.heap[k]? = w.heap[k]?) : RowV w' Q l v := by
  obtain ⟨A, c, e, hr, hq⟩ := h
  refine ⟨A, c, e, ?_, hq⟩
  rcases hr with hr | ⟨g, o, e2, hg, hr⟩
  · exact Or.inl hr
  · by_cases hne : l = []
    · exact Or.inl hne
    · have hb := hk g (hq hne _ e2) hg
      refine Or.inr ⟨g, o, e2, by omega, fun i x hx => ?_⟩
      obtain ⟨c0, c1, c2, c3⟩ := hr i x hx
      exact ⟨(World.cell?_of_block hb).trans c0, (World.cell?_of_block hb).trans c1, (World.cell?_of_block hb).trans c2, (World.cell?_of_block hb).trans c3⟩
theorem RowV.mono {w : World} {Q Q' : Nat → Prop} {l : List Rc} {v : Value} (h : RowV w Q l v) (hq : ∀ k, Q k → Q' k) : RowV w Q' l v := by
  obtain ⟨A, c, e, hr, h2⟩ := h
  exact ⟨A, c, e, hr, fun hne a ha => hq _ (h2 hne a ha)⟩
structure EsG (w : World) (Q : Nat → Prop) (es : Array MapEntry) (G : Gl) : Prop where
  ein : ∀ e, e ∈ es.toList → ∃ x, x ∈ G ∧ e.key = ptV x.1 ∧ RowV w Q x.2 e.val
  eout : ∀ x, x ∈ G → ∃ e, e ∈ es.toList ∧ e.key = ptV x.1
  size : es.size = G.length
theorem EsG.keep {w w' : World} {Q : Nat → Prop} {es : Array MapEntry} {G : Gl} (h : EsG w Q es G) (hs : w.heap.size ≤ w'.heap.size) (hk : ∀ k, Q k → k < w.heap.size → w'.heap[k]? = w.heap[k]?) : EsG w' Q es G := by
  refine ⟨fun e he => ?_, h.eout, h.size⟩
  obtain ⟨x, h1, h2, h3⟩ := h.ein e he
  exact ⟨x, h1, h2, h3.keep hs hk⟩
structure GoodG (G : Gl) : Prop where
  cell : ∀ x, x ∈ G → Cell x.1.r x.1.c
  some_ : ∀ x, x ∈ G → x.2 ≠ []
  fineE : ∀ x, x ∈ G → ∀ r, r ∈ x.2 → fineX r = true
  srt : ∀ x, x ∈ G → Srt x.2
theorem GoodG.nil : GoodG [] := ⟨fun x h => (by cases h), fun x h => (by cases h), fun x h => (by cases h), fun x h => (by cases h)⟩
def MapV (w : World) (Q : Nat → Prop) (mo : Option Nat) (G : Gl) : Prop := (∃ es, EsAt w mo es ∧ EsG w Q es G) ∧ (∀ b, mo = some b → Q b) ∧ (∀ k, Q k → k < w.heap.size)
theorem MapV.keep {w w' : World} {Q : Nat → Prop} {mo : Option Nat} {G : Gl} (h : MapV w Q mo G) (hs : w.heap.size ≤ w'.heap.size) (hk : ∀ k, Q k → k < w.heap.size → w'.heap[k]? = w.heap[k]?) : MapV w' Q mo G := by
  obtain ⟨⟨es, h1, h2⟩, h3, h4⟩ := h
  exact ⟨⟨es, h1.block fun b e => hk b (h3 b e) (h4 b (h3 b e)), h2.keep hs hk⟩, h3, fun k hq => Nat.lt_of_lt_of_le (h4 k hq) hs⟩
theorem MapV.below {w w' : World} {Q : Nat → Prop} {mo : Option Nat} {G : Gl} (h : MapV w Q mo G) (hb : Below w.heap.size w w') : MapV w' Q mo G := h.keep hb.size fun k _ hk => hb.block k hk
def PtrV (w : World) (Q : Nat → Prop) (v : Value) (mo : Option Nat) : Prop := (v = .pointer none ∧ mo = none) ∨ ∃ b, v = .pointer (some ⟨b, 0, none⟩) ∧ w.heap[b]? = some (.cells #[.map mo] 48 (0, 0)) ∧ Q b
theorem PtrV.keep {w w' : World} {Q : Nat → Prop} {v : Value} {mo : Option Nat} (h : PtrV w Q v mo) (hk : ∀ k, Q k → k < w.heap.size → w'.heap[k]? = w.heap[k]?) : PtrV w' Q v mo := by
  rcases h with h | ⟨b, e, h1, h2⟩
  · exact Or.inl h
  · exact Or.inr ⟨b, e, (hk b h2 (Array.getElem?_eq_some_iff.1 h1).1).trans h1, h2⟩
structure GV (w : World) (Q : Nat → Prop) (v : Value) (mo : Option Nat) (G : Gl) : Prop where
  ptr : PtrV w Q v mo
  map : MapV w Q mo G
  good : GoodG G
  tab : G ≠ [] → KTab w
theorem GV.below {w w' : World} {Q : Nat → Prop} {v : Value} {mo : Option Nat} {G : Gl} (h : GV w Q v mo G) (hb : Below w.heap.size w w') : GV w' Q v mo G :=
  ⟨h.ptr.keep fun k _ hk => hb.block k hk, h.map.below hb, h.good, fun hne => (h.tab hne).below hb⟩
set_option maxHeartbeats 1000000 in
set_option maxRecDepth 100000 in
theorem call {Q : Nat → Prop} {v : Value} {mo : Option Nat} (w : World) (h : PtrV w Q v mo) : Calls Tryz.prog 34 #[v] w fun e w' => e = .returned (.map mo) ∧ w = w' := by
  rcases h with ⟨rfl, rfl⟩ | ⟨b, rfl, h, -⟩
  · go_enter Tryz.func34, Tryz.ntmps34
    go_wp2
    go_ret
    exact ⟨rfl, rfl⟩
  · have c0 : w.cell? ⟨b, 0, none⟩ = some (.map mo) := by simp [World.cell?, h]
    clear h
    go_enter Tryz.func34, Tryz.ntmps34
    go_wp2
    go_ret
    exact ⟨rfl, rfl⟩
set_option maxHeartbeats 1000000 in
set_option maxRecDepth 100000 in
theorem cCells {Q : Nat → Prop} {v : Value} {mo : Option Nat} {G : Gl} (w : World) (h : GV w Q v mo G) (hs : SrtG bfP G) : Calls Tryz.prog 13 #[v] w (CellsPost (cellsL G) w) := by
  have HS := Lib.hid hs
  have HV := Lib.hid h
  have hcall := fun W (hb : Below w.heap.size w W) => call W (h.below hb).ptr
  obtain ⟨es, hes, heg⟩ := h.map.1
  have HE := Lib.hid hes
  have HG := Lib.hid heg
  clear h hes heg hs
  go_enter Tryz.func13, Tryz.ntmps13
  go_wp2_with fail
  have hz := MAt.zero w
  have K0 : Below w.heap.size w (w.alloc (.cells Tryz.zeroCells65 65)) := (Below.refl _ w).alloc (Nat.le_refl _) _
  generalize (w.alloc (.cells Tryz.zeroCells65 65)) = W at *
  have hcall2 := hcall W K0
  have HE2 := Lib.hid (HE.out.block (w' := W) fun b e => K0.block b (HE.out.lt b e))
  refine hcall2.mono ?_; rintro e W1 ⟨rfl, rfl⟩
  clear hcall hcall2
  have HK := Lib.hid K0
  have HZ := Lib.hid hz
  have hgl := hz.lt
  clear K0 hz
  go_wp2_with (at_range; refine wpList_range_es W rfl _ rfl rfl HE2.out ?_; intro w1 hrg hb1 hs1)
  have hm1 := HZ.out.below hb1
  have HB1 := Lib.hid (HK.out.trans (hb1.mono (Nat.le_of_lt hgl)))
  have HM1 := Lib.hid hm1
  have HR1 := Lib.hid hrg
  have hne : W.heap.size ≠ w.heap.size := by omega
  clear hrg hb1 hs1 hm1 HZ HE2
  generalize W.heap.size = r at *
  generalize hg : w.heap.size = g at *
  go_frame
  go_loopw [8] (fun _ wr => Hid (∃ seen m, Rg wr mo r es seen ∧ MAt wr g m ∧ Marks m (fun p => ∃ e, e ∈ es.toList ∧ e ∉ (leftOf es seen).toList ∧ e.key = ptV p) ∧ Below g w wr)) (fun _ wr => rgLeft wr r)
  case atStart =>
    refine Lib.hid ⟨#[], _, HR1.out, HM1.out, marks_zero.congr fun a => ⟨fun h => h.elim, ?_⟩, HB1.out⟩
    rintro ⟨e, h1, h2, -⟩
    exact h2 (mem_left.2 ⟨h1, by simp⟩)
  case round =>
    obtain ⟨seen, m, hrg, hm, hs, hb⟩ := hrel.out
    have HB := Lib.hid hb
    have HM := Lib.hid hm
    have HS2 := Lib.hid hs
    have hlr := hrg.lt.1
    have hlm := hm.lt
    clear HM1 HB1 HR1 hb hm hs
    go_wp2_with (at_next; refine wpList_next_rg wr rfl _ rfl rfl hrg ?_ ?_)
    · intro hdone
      have hm9 : Marks _ (fun p => p ∈ cellsL G) := HS2.out.congr fun a => by
        rw [hdone]
        constructor
        · rintro ⟨e, h1, -, h2⟩
          obtain ⟨x, hx, h3, -⟩ := HG.out.ein e h1
          rw [← pt_inj (h3.symm.trans h2)]
          exact List.mem_map.2 ⟨x, hx, rfl⟩
        · intro h
          obtain ⟨x, hx, rfl⟩ := List.mem_map.1 h
          obtain ⟨e, h1, h2⟩ := HG.out.eout x hx
          exact ⟨e, h1, by simp, h2⟩
      have hl := hm9.list (l := cellsL G) (by have := HS.out; unfold SrtG at this; unfold cellsL; rw [List.pairwise_map]; exact this) (fun a => Iff.rfl)
      have hlist := cmlist g m wr HM.out (fun ⟨r, hr, hmr⟩ => by
        have hne : G ≠ [] := by
          rintro rfl
          have h0 : listM m = [] := hl
          obtain ⟨i, hi⟩ := Nat.exists_testBit_of_ne_zero hmr
          have hlt : i < 51 := Nat.lt_of_not_le fun h => by
            have := (HM.out.cell r hr).2.2
            rw [Nat.testBit_lt_two_pow (Nat.lt_of_lt_of_le this (Nat.pow_le_pow_right (n := 2) (by omega) h))] at hi; cases hi
          have := mem_list.2 ⟨r, i, rfl, hr, hlt, hi⟩
          rw [h0] at this; cases this
        exact ((HV.out.tab hne).below (by rw [hg]; exact HB.out)))
      rw [hl] at hlist
      clear hm9 hl hdone hrg
      go_wp2_with fail
      refine hlist.mono ?_; rintro e w5 ⟨v5, rfl, ho5, hb5⟩
      have HF : Hid (CellsPost (cellsL G) w (.returned v5) w5) := Lib.hid ⟨v5, rfl, ho5.mono (by rw [hg]; exact Nat.le_of_lt hlm), by rw [hg]; exact HB.out.trans (hb5.mono (Nat.le_of_lt hlm))⟩
      clear hlist ho5 hb5
      go_wp2_with fail
      go_ret
      exact HF.out
    · intro e p w1 he hp hrg1 hleft hlt hk1 hs1 hen
      have hcell : Cell p.r p.c := by
        obtain ⟨x, hx, h3, -⟩ := HG.out.ein e (mem_left.1 (by simpa using he)).1
        rw [pt_inj (hp.symm.trans h3)]; exact HV.out.good.cell x hx
      have hm1 := HM.out.kept hk1 (fun e => hne e.symm)
      have HB2 := Lib.hid (show Below g w w1 from ⟨hk1.os.trans HB.out.os, hk1.tape.trans HB.out.tape, hk1.output.trans HB.out.output, Nat.le_trans HB.out.size hk1.size, fun i hi => (hk1.block i (by omega) (by omega)).trans (HB.out.block i hi)⟩)
      have HE := Lib.hid (show ∀ q, (∃ e', e' ∈ es.toList ∧ e' ∉ (leftOf es (seen.push e.born)).toList ∧ e'.key = ptV q) ↔ q = p ∨ ∃ e', e' ∈ es.toList ∧ e' ∉ (leftOf es seen).toList ∧ e'.key = ptV q from fun q => by
        constructor
        · rintro ⟨e', h1, h2, h3⟩
          by_cases h4 : e' ∈ (leftOf es seen).toList
          · left
            by_cases h5 : e' = e
            · subst h5; exact pt_inj (h3.symm.trans hp)
            · exact absurd (by simpa using (hleft e').2 ⟨by simpa using h4, h5⟩) h2
          · exact Or.inr ⟨e', h1, h4, h3⟩
        · rintro (rfl | ⟨e', h1, h2, h3⟩)
          · exact ⟨e, (mem_left.1 (by simpa using he)).1, fun h => ((hleft e).1 (by simpa using h)).2 rfl, hp⟩
          · exact ⟨e', h1, fun h => h2 (by simpa using ((hleft e').1 (by simpa using h)).1), h3⟩)
      have HL := Lib.hid (And.intro hrg.left hlt)
      have HRg := Lib.hid hrg1
      have hlt1 := hrg1.lt
      have HC := Lib.hid hcell
      have HM2 := Lib.hid hm1
      have hl1 := hm1.lt
      have hz1 : g ≠ w1.heap.size := by omega
      have hz2 : r ≠ w1.heap.size := by omega
      have hz3 : r < w1.heap.size := by omega
      unfold ptV at hen ⊢
      generalize e.val = ev at *
      generalize hb0 : e.born = born at *
      have H : ∀ V, Below w1.heap.size w1 V → Calls Tryz.prog 35 #[.pointer (some ⟨g, 0, none⟩), .agg #[.int .i64 p.r, .int .i64 p.c]] V fun e w' => e = .returned (.tuple #[]) ∧ Kept g V w' ∧ MAt w' g (putM m p) ∧ Below w1.heap.size w1 V :=
        fun V hb => (cmput g m p V HC.out (HM2.out.below hb)).mono fun e w' h => ⟨h.1, h.2.1, h.2.2, hb⟩
      clear he hp hleft hlt hk1 hs1 hrg hrg1 hm1 hcell hb0
      go_wp2_with fail
      refine (H _ ?_).mono ?_
      · repeat (first | with_reducible exact Below.refl _ _ | with_reducible refine Below.setCell ?_ (by simp <;> omega) _ | with_reducible refine Below.alloc ?_ (by simp <;> omega) _)
      · rintro e5 w5 ⟨rfl, hk5, hm5, hbV⟩
        have HK5 : Hid (Kept g w1 w5) := Lib.hid ((Kept.of hbV).trans hk5)
        have HM5 := Lib.hid hm5
        clear hk5 hm5 hbV H
        go_wp2_with fail
        go_roundw
        case rel =>
          refine Lib.hid ⟨_, _, HRg.out.block (HK5.out.block r hz3 hne) (fun b e => HK5.out.block b (hlt1.2 b e) ?_), HM5.out, (HS2.out.put HC.out).congr fun q => (HE.out q).symm, ?_⟩
          · rintro rfl
            obtain ⟨-, h⟩ := HV.out.map
            have h1 := h.2 b (h.1 b e)
            omega
          · exact ⟨HK5.out.os.trans HB2.out.os, HK5.out.tape.trans HB2.out.tape, HK5.out.output.trans HB2.out.output, Nat.le_trans HB2.out.size HK5.out.size, fun i hi => (HK5.out.block i (by omega) (by omega)).trans (HB2.out.block i hi)⟩
        case measure =>
          have h2 := (HRg.out.block (w' := w5) (HK5.out.block r hz3 hne) (fun b e => HK5.out.block b (hlt1.2 b e) (by
            rintro rfl
            obtain ⟨-, h⟩ := HV.out.map
            have h1 := h.2 b (h.1 b e)
            omega))).left
          rw [h2, HL.out.1]; exact HL.out.2
end Go.Proofs.YtakamedgdiffbaaGreatDoor.GraphC
namespace Go.Proofs.YtakamedgdiffbaaGreatDoor.GraphC
set_option linter.unusedVariables false
open Go.RowKit Go.Proofs.YtakamedgdiffbaaGreatDoor.NumC Go.Proofs.YtakamedgdiffbaaGreatDoor.RowsC
open Go.Proofs.YtakamedgdiffbaaGreatDoor.RefsC (Rc RAt hitsL RBox Srt nth_some)
open Go.Proofs.YtakamedgdiffbaaGreatDoor.AddrC (cellB fineB FineP Cell hasB)
open Go.Proofs.YtakamedgdiffbaaGreatDoor.TreeC (Kept)
set_option maxHeartbeats 1000000 in
set_option maxRecDepth 100000 in
theorem cindexG (g : FuncId) (pre post : Array Value) (p : Rc → Bool) (l : List Rc) (A : Option Addr) (c : Nat) (w : World) (eg : ∀ args w, (callFunc g args).run Tryz.prog w = .ok (.enter g args) w) (hl : l.length ≤ 1000000) (hR : RAt w w.heap.size l A)
    (hp : ∀ (W : World) (x : Rc), x ∈ l → Below w.heap.size w W → Calls Tryz.prog g (pre ++ #[.agg #[.int .i64 x.a, .int .i64 x.b, .int .i64 x.c, .int .i64 x.d]] ++ post) W fun e w' => e = .returned (.bool (p x)) ∧ Below W.heap.size W w') :
    Calls Tryz.prog 53 #[.slice A l.length c, .func (.func g) pre post] w fun e w' => ∃ r : Int, e = .returned (.int .i64 r) ∧ decide (0 ≤ r) = l.any p ∧ Below w.heap.size w w' := by
  have HR := Lib.hid hR
  have HP := Lib.hid hp
  clear hR hp
  go_enter Tryz.func53, Tryz.ntmps53
  go_wp2_with fail
  go_loopw [8] (fun iv wr => ∃ k : Nat, k ≤ l.length ∧ iv = .int .i64 k ∧ Hid (Below w.heap.size w wr ∧ (l.take k).any p = false)) (fun iv _ => l.length - (intOf iv).toNat)
  case atStart => exact ⟨0, Nat.zero_le _, rfl, Lib.hid ⟨Below.refl _ _, rfl⟩⟩
  case round =>
    obtain ⟨k, hk, rfl, HR2⟩ := hrel
    obtain ⟨hb, hn⟩ := HR2.out
    by_cases hlt : k < l.length
    · have hd1 : (k : Int) < (l.length : Int) := by omega
      obtain ⟨x, hx⟩ := nth_some l k hlt
      obtain ⟨g0, o, rfl, hg0, c0, c1, c2, c3⟩ := (HR.out.below hb).nth k x hx
      have hcall := HP.out wr x (List.mem_of_getElem? hx) hb
      have HB := Lib.hid hb
      have HN : Hid ((l.take (k + 1)).any p = p x) := Lib.hid (by rw [List.take_add_one, hx, List.any_append, hn]; simp)
      have HX := Lib.hid hx
      clear hb hn hx
      go_wp2_with fail
      refine hcall.mono ?_; rintro e w5 ⟨rfl, hb5⟩
      have HB5 := Lib.hid (HB.out.trans (hb5.mono HB.out.size))
      clear hb5 c0 c1 c2 c3
      cases hpx : p x
      · rw [hpx] at HN
        go_wp2_with fail
        go_roundw
        case rel => exact ⟨k + 1, by omega, by go_num, Lib.hid ⟨HB5.out, HN.out⟩⟩
        case measure => simp [intOf]; omega
      · have HY := Lib.hid hpx
        clear hpx
        go_wp2_with fail
        go_ret
        refine ⟨(k : Int), rfl, ?_, HB5.out⟩
        rw [decide_eq_true (by omega : (0 : Int) ≤ k)]
        exact (List.any_eq_true.2 ⟨x, List.mem_of_getElem? HX.out, HY.out⟩).symm
    · have hd1 : ¬ (k : Int) < (l.length : Int) := by omega
      obtain rfl : k = l.length := by omega
      rw [List.take_length] at hn
      have HN := Lib.hid hn
      have HB := Lib.hid hb
      clear hn hb
      go_wp2_with fail
      go_ret
      exact ⟨-1, rfl, by rw [HN.out]; rfl, HB.out⟩
set_option maxHeartbeats 1000000 in
set_option maxRecDepth 100000 in
theorem ccontainsG (g : FuncId) (pre post : Array Value) (p : Rc → Bool) (l : List Rc) (A : Option Addr) (c : Nat) (w : World) (eg : ∀ args w, (callFunc g args).run Tryz.prog w = .ok (.enter g args) w) (hl : l.length ≤ 1000000) (hR : RAt w w.heap.size l A)
    (hp : ∀ (W : World) (x : Rc), x ∈ l → Below w.heap.size w W → Calls Tryz.prog g (pre ++ #[.agg #[.int .i64 x.a, .int .i64 x.b, .int .i64 x.c, .int .i64 x.d]] ++ post) W fun e w' => e = .returned (.bool (p x)) ∧ Below W.heap.size W w') :
    Calls Tryz.prog 26 #[.slice A l.length c, .func (.func g) pre post] w fun e w' => e = .returned (.bool (l.any p)) ∧ Below w.heap.size w w' := by
  have hcall := cindexG g pre post p l A c w eg hl hR hp
  clear hp hR
  go_enter Tryz.func26, Tryz.ntmps26
  go_wp2_with fail
  refine hcall.mono ?_; rintro e w5 ⟨r, rfl, hr, hb5⟩
  go_wp2_with fail
  go_ret
  first | exact ⟨rfl, hb5⟩ | exact ⟨ret1 hr, hb5⟩
set_option maxHeartbeats 1000000 in
set_option maxRecDepth 100000 in
theorem ccrooked (x : Rc) (w : World) : Calls Tryz.prog 27 #[.agg #[.int .i64 x.a, .int .i64 x.b, .int .i64 x.c, .int .i64 x.d]] w fun e w' => e = .returned (.bool (!fineX x)) ∧ Below w.heap.size w w' := by
  have h := fun W => AddrC.fine x.a x.b x.c x.d W
  unfold fineX
  generalize fineB x.a x.b x.c x.d = v at *
  go_enter Tryz.func27, Tryz.ntmps27
  go_wp2_with fail
  refine (h _).mono ?_; rintro e w1 ⟨rfl, hb⟩
  replace hb := AddrC.grow hb
  cases v
  · go_wp2_with fail
    go_ret
    exact ⟨rfl, hb⟩
  · go_wp2_with fail
    go_ret
    exact ⟨rfl, hb⟩
theorem callfine (l : List Rc) (A : Option Addr) (c : Nat) (w : World) (hl : l.length ≤ 1000000) (hR : RAt w w.heap.size l A) :
    Calls Tryz.prog 26 #[.slice A l.length c, .func (.func 27) #[] #[]] w fun e w' => e = .returned (.bool (!l.all fineX)) ∧ Below w.heap.size w w' := by
  have eg : ∀ args w, (callFunc 27 args).run Tryz.prog w = .ok (.enter 27 args) w := enters_of Tryz.func27 (by kernel_rfl) rfl
  have h := ccontainsG 27 #[] #[] (fun x => !fineX x) l A c w eg hl hR (fun W x _ _ => by
    simpa using ccrooked x W)
  rwa [show l.any (fun x => !fineX x) = !l.all fineX from by rw [List.not_all_eq_any_not]] at h
theorem cmeetsAll (ga : Nat) (m : Nat → Nat) (S : Pt → Prop) (l : List Rc) (A : Option Addr) (c : Nat) (w : World) (hl : l.length ≤ 1000000) (hR : RAt w w.heap.size l A) (hf : ∀ r, r ∈ l → fineX r = true) (hM : MAt w ga m) (hS : Marks m S) :
    Calls Tryz.prog 26 #[.slice A l.length c, .func (.func 61) #[.pointer (some ⟨ga, 0, none⟩)] #[]] w fun e w' => ∃ v, e = .returned (.bool v) ∧ (v = true ↔ ∃ p, S p ∧ hitP l p = true) ∧ Below w.heap.size w w' := by
  have eg : ∀ args w, (callFunc 61 args).run Tryz.prog w = .ok (.enter 61 args) w := enters_of Tryz.func61 (by kernel_rfl) rfl
  have h := ccontainsG 61 #[.pointer (some ⟨ga, 0, none⟩)] #[] (meetM m) l A c w eg hl hR (fun W x hx hb => by
    simpa using cmmeets ga m x W (hf x hx) (hM.below hb))
  refine h.mono ?_
  rintro e w' ⟨rfl, hb⟩
  refine ⟨_, rfl, ?_, hb⟩
  rw [List.any_eq_true]
  constructor
  · rintro ⟨x, hx, h⟩
    obtain ⟨p, h1, h2⟩ := (hS.meets (hf x hx)).1 h
    exact ⟨p, h1, by unfold hitP hitsL; exact List.any_eq_true.2 ⟨x, hx, h2⟩⟩
  · rintro ⟨p, h1, h2⟩
    unfold hitP hitsL at h2
    obtain ⟨x, hx, h3⟩ := List.any_eq_true.1 h2
    exact ⟨x, hx, (hS.meets (hf x hx)).2 ⟨p, h1, h3⟩⟩
theorem mem_directL {G : Gl} {l : List Pt} {p : Pt} : p ∈ directL hitP G l ↔ ∃ x, x ∈ G ∧ x.1 = p ∧ ∃ a, a ∈ l ∧ hitP x.2 a = true := by
  rw [mem_direct]
  constructor
  · rintro ⟨x, h1, h2, h3⟩
    obtain ⟨a, ha, h4⟩ := any_iff.1 h2
    exact ⟨x, h1, h3, a, ha, h4⟩
  · rintro ⟨x, h1, h2, a, ha, h4⟩
    exact ⟨x, h1, any_iff.2 ⟨a, ha, h4⟩, h2⟩
theorem hit_cell {l : List Rc} {a : Pt} (h : hitP l a = true) : Cell a.r a.c := by
  unfold hitP hitsL at h
  obtain ⟨x, -, h2⟩ := List.any_eq_true.1 h
  unfold hasB at h2
  obtain ⟨⟨⟨⟨k1, k2⟩, k3, k4⟩, ⟨⟨k5, k6⟩, k7, k8⟩, k9, k10⟩, k11, k12, k13, k14⟩ := of_decide_eq_true h2
  exact ⟨by omega, by omega⟩
set_option maxHeartbeats 2000000 in
set_option maxRecDepth 100000 in
theorem cmdirect {Q : Nat → Prop} {v : Value} {mo : Option Nat} {G : Gl} (l : List Pt) (A : Option Addr) (c : Nat) (w : World) (h : GV w Q v mo G) (hbd : Bnd G) (hs0 : SrtG bfP G) (hl : l.length ≤ 1000000) (hR : Reads fP 2 w w.heap.size l A) :
    Calls Tryz.prog 37 #[v, .slice A l.length c] w (MarkPost (fun p => p ∈ directL hitP G l) w) := by
  have HV := Lib.hid h
  have HBD := Lib.hid hbd
  have HS0 := Lib.hid hs0
  have hcall := cmarked l A c w hl hR
  have hall := fun W (hb : Below w.heap.size w W) => call W (h.below hb).ptr
  obtain ⟨es, hes, heg⟩ := h.map.1
  have HE := Lib.hid hes
  have HG := Lib.hid heg
  clear h hes heg hR hbd hs0
  go_enter Tryz.func37, Tryz.ntmps37
  go_wp2_with fail
  refine hcall.mono ?_; rintro e U ⟨ga, ma, rfl, hga, hma, hsa, hbU⟩
  have hlU := hma.lt
  have HMA := Lib.hid hma
  have HSA := Lib.hid hsa
  have HBU := Lib.hid hbU
  clear hcall hma hsa hbU
  go_wp2_with fail
  have hz := MAt.zero U
  have K0 : Below U.heap.size U (U.alloc (.cells Tryz.zeroCells65 65)) := (Below.refl _ U).alloc (Nat.le_refl _) _
  generalize (U.alloc (.cells Tryz.zeroCells65 65)) = W at *
  have K1 := HBU.out.trans (K0.mono HBU.out.size)
  have hcall2 := hall W K1
  have HE2 := Lib.hid (HE.out.block (w' := W) fun b e => K1.block b (HE.out.lt b e))
  refine hcall2.mono ?_; rintro e W1 ⟨rfl, rfl⟩
  have HM0 := Lib.hid (HMA.out.below K0)
  clear hall hcall2 HMA
  have HK := Lib.hid K1
  have HZ := Lib.hid hz
  have hgl := hz.lt
  have hsU := HBU.out.size
  clear K0 K1 hz
  go_wp2_with (at_range; refine wpList_range_es W rfl _ rfl rfl HE2.out ?_; intro w1 hrg hb1 hs1)
  have hm1 := HZ.out.below hb1
  have HA1 := Lib.hid (HM0.out.below hb1)
  have HB1 := Lib.hid (HK.out.trans (hb1.mono (Nat.le_of_lt (Nat.lt_of_le_of_lt hsU hgl))))
  have HM1 := Lib.hid hm1
  have HR1 := Lib.hid hrg
  have hne : W.heap.size ≠ U.heap.size := by omega
  clear hrg hb1 hs1 hm1 HZ HE2 HM0
  generalize W.heap.size = r at *
  generalize hgU : U.heap.size = g at *
  have hgag : ga ≠ g := by omega
  have hgar : ga ≠ r := by omega
  have HGA := Lib.hid (And.intro hga hlU)
  clear hga hlU
  go_frame
  go_loopw [14] (fun _ wr => Hid (∃ seen m, Rg wr mo r es seen ∧ MAt wr g m ∧ MAt wr ga ma ∧ Marks m (fun p => ∃ e, e ∈ es.toList ∧ e ∉ (leftOf es seen).toList ∧ e.key = ptV p ∧ p ∈ directL hitP G l) ∧ Below w.heap.size w wr)) (fun _ wr => rgLeft wr r)
  case atStart =>
    refine Lib.hid ⟨#[], _, HR1.out, HM1.out, HA1.out, marks_zero.congr fun a => ⟨fun h => h.elim, ?_⟩, HB1.out⟩
    rintro ⟨e, h1, h2, -⟩
    exact h2 (mem_left.2 ⟨h1, by simp⟩)
  case round =>
    obtain ⟨seen, m, hrg, hm, ha, hs, hb⟩ := hrel.out
    have HB := Lib.hid hb
    have HM := Lib.hid hm
    have HA := Lib.hid ha
    have HS2 := Lib.hid hs
    have hlr := hrg.lt.1
    have hlm := hm.lt
    clear HM1 HB1 HR1 HA1 hb hm hs ha
    go_wp2_with (at_next; refine wpList_next_rg wr rfl _ rfl rfl hrg ?_ ?_)
    · intro hdone
      have hm9 : Marks m (fun p => p ∈ directL hitP G l) := HS2.out.congr fun a => by
        rw [hdone]
        constructor
        · rintro ⟨e, h1, -, h2, h3⟩; exact h3
        · intro h
          obtain ⟨x, hx, rfl, -⟩ := mem_directL.1 h
          obtain ⟨e, h1, h2⟩ := HG.out.eout x hx
          exact ⟨e, h1, by simp, h2, h⟩
      have HF : Hid (MarkPost (fun p => p ∈ directL hitP G l) w (.returned (.pointer (some ⟨g, 0, none⟩))) wr) := Lib.hid ⟨g, m, rfl, hsU, HM.out, hm9, HB.out⟩
      clear hm9 hdone hrg
      go_wp2_with fail
      go_ret
      exact HF.out
    · intro e p w1 he hp hrg1 hleft hlt hk1 hs1 hen
      have hei := (mem_left.1 (by simpa using he)).1
      obtain ⟨x, hx, hkx, A1, c1, hev, hra, -⟩ := HG.out.ein e hei
      have hpx : p = x.1 := pt_inj (hp.symm.trans hkx)
      subst hpx
      have hcell : Cell x.1.r x.1.c := HV.out.good.cell x hx
      have hm1 := HM.out.kept hk1 (fun e => hne e.symm)
      have ha1 := HA.out.kept hk1 hgar
      have HB2 := Lib.hid (show Below w.heap.size w w1 from ⟨hk1.os.trans HB.out.os, hk1.tape.trans HB.out.tape, hk1.output.trans HB.out.output, Nat.le_trans HB.out.size hk1.size, fun i hi => (hk1.block i (by have := HB.out.size; omega) (by omega)).trans (HB.out.block i hi)⟩)
      have HL := Lib.hid (And.intro hrg.left hlt)
      have HRg := Lib.hid hrg1
      have hlt1 := hrg1.lt
      have HQ := Lib.hid (show ∀ b, mo = some b → b < w.heap.size from fun b e => by obtain ⟨-, h⟩ := HV.out.map; exact h.2 b (h.1 b e))
      have HC := Lib.hid hcell
      have HM2 := Lib.hid hm1
      have HA2 := Lib.hid ha1
      have hl1 := hm1.lt
      have hz1 : g ≠ w1.heap.size := by omega
      have hz2 : r ≠ w1.heap.size := by omega
      have hz3 : r < w1.heap.size := by omega
      have hlx : x.2.length ≤ 1000000 := by have := HBD.out.2 x hx; omega
      have hfx : ∀ r, r ∈ x.2 → fineX r = true := HV.out.good.fineE x hx
      have H0 : ∀ V, Below w1.heap.size w1 V → Calls Tryz.prog 26 #[.slice A1 x.2.length c1, .func (.func 61) #[.pointer (some ⟨ga, 0, none⟩)] #[]] V fun e w' => ∃ v, e = .returned (.bool v) ∧ (v = true ↔ ∃ p, (p ∈ l ∧ Cell p.r p.c) ∧ hitP x.2 p = true) ∧ Below V.heap.size V w' ∧ Below w1.heap.size w1 V :=
        fun V hb => (cmeetsAll ga ma _ x.2 A1 c1 V hlx (((hra.below HB2.out).mono HB2.out.size |>.below hb).mono hb.size) hfx (HA2.out.below hb) HSA.out).mono fun e w' ⟨v, h1, h2, h3⟩ => ⟨v, h1, h2, h3, hb⟩
      have HE := Lib.hid (show ∀ q, (∃ e', e' ∈ es.toList ∧ e' ∉ (leftOf es (seen.push e.born)).toList ∧ e'.key = ptV q ∧ q ∈ directL hitP G l) ↔ (q = x.1 ∧ x.1 ∈ directL hitP G l) ∨ ∃ e', e' ∈ es.toList ∧ e' ∉ (leftOf es seen).toList ∧ e'.key = ptV q ∧ q ∈ directL hitP G l from fun q => by
        constructor
        · rintro ⟨e', h1, h2, h3, h6⟩
          by_cases h4 : e' ∈ (leftOf es seen).toList
          · left
            by_cases h5 : e' = e
            · subst h5
              have := pt_inj (h3.symm.trans hp)
              exact ⟨this, this ▸ h6⟩
            · exact absurd (by simpa using (hleft e').2 ⟨by simpa using h4, h5⟩) h2
          · exact Or.inr ⟨e', h1, h4, h3, h6⟩
        · rintro (⟨rfl, h6⟩ | ⟨e', h1, h2, h3, h6⟩)
          · exact ⟨e, hei, fun h => ((hleft e).1 (by simpa using h)).2 rfl, hp, h6⟩
          · exact ⟨e', h1, fun h => h2 (by simpa using ((hleft e').1 (by simpa using h)).1), h3, h6⟩)
      have HX := Lib.hid (show (∃ p, (p ∈ l ∧ Cell p.r p.c) ∧ hitP x.2 p = true) ↔ x.1 ∈ directL hitP G l from by
        rw [mem_directL]
        constructor
        · rintro ⟨a, h1, h2⟩; exact ⟨x, hx, rfl, a, h1.1, h2⟩
        · rintro ⟨y, hy, h1, a, h2, h3⟩
          have e := SrtG.only goesP HS0.out hy hx h1
          subst e
          exact ⟨a, ⟨h2, hit_cell h3⟩, h3⟩)
      rw [hev] at hen
      unfold ptV at hen ⊢
      rw [hev]
      generalize hb0 : e.born = born at *
      clear he hp hleft hlt hk1 hs1 hrg hrg1 hm1 ha1 hcell hb0 hev hei hkx hra hx
      go_wp2_with fail
      refine (H0 _ ?_).mono ?_
      · repeat (first | with_reducible exact Below.refl _ _ | with_reducible refine Below.setCell ?_ (by simp <;> omega) _ | with_reducible refine Below.alloc ?_ (by simp <;> omega) _)
      · rintro e5 w5 ⟨v5, rfl, hv5, hb5, hbV⟩
        have d0 : w5.cell? ⟨w1.heap.size, 0, none⟩ = some (.int .i64 x.1.r) := (hb5.cell (p := ⟨_, 0, none⟩) (by simp)).trans (by simp [go_sem])
        have d1 : w5.cell? ⟨w1.heap.size, 1, none⟩ = some (.int .i64 x.1.c) := (hb5.cell (p := ⟨_, 1, none⟩) (by simp)).trans (by simp [go_sem])
        have hb15 : Below w1.heap.size w1 w5 := hbV.trans (hb5.mono hbV.size)
        have HB5 := Lib.hid hb15
        have HV5 := Lib.hid (hv5.trans HX.out)
        clear hb5 hbV hb15 hv5 H0
        have hl5 := HB5.out.size
        cases v5
        · go_wp2_with fail
          go_roundw
          case rel =>
            refine Lib.hid ⟨_, m, HRg.out.block (HB5.out.block r hz3) (fun b e => HB5.out.block b (hlt1.2 b e)), HM2.out.below HB5.out, HA2.out.below HB5.out, HS2.out.congr fun q => ?_, HB2.out.trans (HB5.out.mono HB2.out.size)⟩
            rw [HE.out q]
            constructor
            · exact Or.inr
            · rintro (⟨-, h⟩ | h)
              · have := HV5.out.2 h; cases this
              · exact h
          case measure =>
            have h2 := (HRg.out.block (w' := w5) (HB5.out.block r hz3) (fun b e => HB5.out.block b (hlt1.2 b e))).left
            rw [h2, HL.out.1]; exact HL.out.2
        · have hcall := cmput g m x.1 w5 HC.out (HM2.out.below HB5.out)
          go_wp2_with fail
          refine hcall.mono ?_
          rintro e6 w6 ⟨rfl, hk6, hm6⟩
          have HK6 : Hid (Kept g w1 w6) := Lib.hid ((Kept.of HB5.out).trans hk6)
          have HM6 := Lib.hid hm6
          clear hk6 hm6 hcall d0 d1
          go_wp2_with fail
          go_roundw
          case rel =>
            refine Lib.hid ⟨_, _, HRg.out.block (HK6.out.block r hz3 hne) (fun b e => HK6.out.block b (hlt1.2 b e) ?_), HM6.out, HA2.out.kept HK6.out hgag, (HS2.out.put HC.out).congr fun q => ?_, ?_⟩
            · have h1 := HQ.out b e
              omega
            · rw [HE.out q]
              constructor
              · rintro (h | h)
                · exact Or.inl ⟨h, HV5.out.1 trivial⟩
                · exact Or.inr h
              · rintro (⟨h, -⟩ | h)
                · exact Or.inl h
                · exact Or.inr h
            · exact ⟨HK6.out.os.trans HB2.out.os, HK6.out.tape.trans HB2.out.tape, HK6.out.output.trans HB2.out.output, Nat.le_trans HB2.out.size HK6.out.size, fun i hi => (HK6.out.block i (by have := HB2.out.size; omega) (by omega)).trans (HB2.out.block i hi)⟩
          case measure =>
            have h2 := (HRg.out.block (w' := w6) (HK6.out.block r hz3 hne) (fun b e => HK6.out.block b (hlt1.2 b e) (by have h1 := HQ.out b e; omega))).left
            rw [h2, HL.out.1]; exact HL.out.2
set_option maxHeartbeats 1000000 in
set_option maxRecDepth 100000 in
theorem cDirect {Q : Nat → Prop} {v : Value} {mo : Option Nat} {G : Gl} (l : List Pt) (A : Option Addr) (c : Nat) (w : World) (h : GV w Q v mo G) (hbd : Bnd G) (hs : SrtG bfP G) (hl : l.length ≤ 1000000) (hR : Reads fP 2 w w.heap.size l A) :
    Calls Tryz.prog 15 #[v, .slice A l.length c] w (CellsPost (directL hitP G l) w) := by
  have hcall := cmdirect l A c w h hbd hs hl hR
  have HS := Lib.hid hs
  have HV := Lib.hid h
  clear h hR hs hbd
  go_enter Tryz.func15, Tryz.ntmps15
  go_wp2_with fail
  refine hcall.mono ?_; rintro e w1 ⟨g, m, rfl, hg, hm, hS, hb⟩
  have hd : (directL hitP G l).Pairwise fun x y => bfP x y = true := by
    have := HS.out; unfold SrtG at this; unfold directL; rw [List.pairwise_map]; exact this.sublist List.filter_sublist
  have hlist := cmlist g m w1 hm (fun ⟨r, hr, hmr⟩ => (HV.out.tab (by
    rintro rfl
    have h0 : listM m = [] := hS.list hd (fun a => Iff.rfl)
    obtain ⟨i, hi⟩ := Nat.exists_testBit_of_ne_zero hmr
    have hlt : i < 51 := Nat.lt_of_not_le fun h => by
      have := (hm.cell r hr).2.2
      rw [Nat.testBit_lt_two_pow (Nat.lt_of_lt_of_le this (Nat.pow_le_pow_right (n := 2) (by omega) h))] at hi; cases hi
    have := mem_list.2 ⟨r, i, rfl, hr, hlt, hi⟩
    rw [h0] at this; cases this)).below hb)
  rw [hS.list hd (fun a => Iff.rfl)] at hlist
  have HB := Lib.hid hb
  clear hm hS hb hd hcall
  generalize directL hitP G l = D at *
  go_wp2_with fail
  refine hlist.mono ?_; rintro e w5 ⟨v5, rfl, ho5, hb5⟩
  have HF : Hid (CellsPost D w (.returned v5) w5) := Lib.hid ⟨v5, rfl, ho5.mono HB.out.size, HB.out.trans (hb5.mono HB.out.size)⟩
  clear hlist ho5 hb5
  go_wp2_with fail
  go_ret
  exact HF.out
end Go.Proofs.YtakamedgdiffbaaGreatDoor.GraphC
namespace Go.Proofs.YtakamedgdiffbaaGreatDoor.GraphC
set_option linter.unusedVariables false
open Go.RowKit Go.Proofs.YtakamedgdiffbaaGreatDoor.NumC Go.Proofs.YtakamedgdiffbaaGreatDoor.RowsC
open Go.Proofs.YtakamedgdiffbaaGreatDoor.RefsC (Rc RAt hitsL RBox Srt nth_some aheadB)
open Go.Proofs.YtakamedgdiffbaaGreatDoor.AddrC (cellB fineB FineP Cell hasB)
open Go.Proofs.YtakamedgdiffbaaGreatDoor.TreeC (Kept eq_addr)
set_option maxHeartbeats 1000000 in
set_option maxRecDepth 100000 in
theorem cgbefore (x y : Rc) (w : World) : Calls Tryz.prog 57 #[.agg #[.int .i64 x.a, .int .i64 x.b, .int .i64 x.c, .int .i64 x.d], .agg #[.int .i64 y.a, .int .i64 y.b, .int .i64 y.c, .int .i64 y.d]] w fun e w' => e = .returned (.bool (aheadB x y)) ∧ Below w.heap.size w w' := by
  have eA := eq_addr x.a x.b y.a y.b
  by_cases h : x.a = y.a ∧ x.b = y.b
  · have E : Hid (AddrC.beforeB x.c x.d y.c y.d = aheadB x y) := Lib.hid (by unfold aheadB; rw [if_pos h])
    rw [decide_eq_true h] at eA
    clear h
    go_enter Tryz.func57, Tryz.ntmps57
    go_wp2_with fail
    refine (AddrC.before _ _ _ _ _).mono ?_; rw [E.out]; rintro e w1 ⟨rfl, hb1⟩
    go_wp2_with fail
    go_ret
    exact ⟨rfl, AddrC.grow (AddrC.grow hb1)⟩
  · have E : Hid (AddrC.beforeB x.a x.b y.a y.b = aheadB x y) := Lib.hid (by unfold aheadB; rw [if_neg h])
    rw [decide_eq_false h] at eA
    clear h
    go_enter Tryz.func57, Tryz.ntmps57
    go_wp2_with fail
    refine (AddrC.before _ _ _ _ _).mono ?_; rw [E.out]; rintro e w1 ⟨rfl, hb1⟩
    go_wp2_with fail
    go_ret
    exact ⟨rfl, AddrC.grow (AddrC.grow hb1)⟩
def ClonePost (l : List Rc) (w : World) (e : Ending) (w' : World) : Prop := ∃ v, e = .returned v ∧ Owns fR 4 51 w' w.heap.size v l ∧ Below w.heap.size w w'
set_option maxHeartbeats 1000000 in
set_option maxRecDepth 100000 in
theorem cclone (l : List Rc) (A : Option Addr) (c : Nat) (w : World) (hl : l.length ≤ 1000000) (hR : RAt w w.heap.size l A) :
    Calls Tryz.prog 33 #[.slice A l.length c] w (ClonePost l w) := by
  have q22 : ∀ (w : World) (a : Option Addr) (n c n' c' : Nat), (binOp .eql 36 (.slice a n c) (.slice none n' c')).run Tryz.prog w = .ok (.bool a.isNone) w := fun w a n c n' c' => Lib.run_eql_slice_nil w _ _ a n c n' c' Tryz.underlying36
  have h0 : A = none → l = [] := by
    rintro rfl
    rcases hR with h | ⟨g, o, e, -⟩
    · exact h
    · cases e
  have HR := Lib.hid (rat_reads hR)
  have HO : Hid (Owns fR 4 51 (w.alloc (.cells #[] 51)) w.heap.size (.slice (some ⟨w.heap.size, 0, none⟩) 0 0) []) := Lib.hid (Owns.empty w _ (Nat.le_refl _))
  have hb : Below w.heap.size w (w.alloc (.cells #[] 51)) := (Below.refl _ w).alloc (Nat.le_refl _) _
  have HR2 := Lib.hid (HR.out.below hb)
  have HB := Lib.hid hb
  have hl2 : ([] : List Rc).length + l.length ≤ 100000000 := by simp; omega
  clear hR hb
  cases A with
  | none =>
    obtain rfl := h0 rfl
    go_enter Tryz.func33, Tryz.ntmps33
    go_wp2_with fail
    go_ret
    exact ⟨_, rfl, Owns.nil _ _, Below.refl _ _⟩
  | some a =>
    clear h0
    go_enter Tryz.func33, Tryz.ntmps33
    go_wp2_with (at_builtin
                 refine wpList_append_owns kindR _ rfl (.tmp 5) (.tmp 6) rfl (l := []) (m := l) (B := w.heap.size) (M := w.heap.size) rfl rfl rfl HO.out HR2.out hl2 HB.out.size ?_
                 intro v' w' ho' hg' hat'
                 have HD := Lib.hid (show ClonePost l w (.returned v') w' from ⟨v', rfl, by simpa using ho', below_grown HB.out HB.out.size hg' (fun i hi => (HO.out.lt i hi).1)⟩)
                 clear ho' hg' hat')
    go_ret
    exact HD.out
theorem flipW {P : Program} {f : FuncId} {args : Array Value} {w : World} {v : Value} (h : Calls P f args w fun e w' => e = .returned v ∧ w = w') : Calls P f args w fun e w' => e = .returned v ∧ w' = w :=
  h.mono fun _ _ ⟨h1, h2⟩ => ⟨h1, h2.symm⟩
set_option maxHeartbeats 1000000 in
set_option maxRecDepth 100000 in
theorem cEdges {Q : Nat → Prop} {v : Value} {mo : Option Nat} {G : Gl} (a : Pt) (w : World) (h : GV w Q v mo G) (hbd : Bnd G) (hs : SrtG bfP G) :
    Calls Tryz.prog 10 #[v, .agg #[.int .i64 a.r, .int .i64 a.c]] w (EPost (edgesG [] G a) w) := by
  have hb : Below w.heap.size w (w.alloc (.cells #[.int .i64 a.r, .int .i64 a.c] 35)) := (Below.refl _ w).alloc (Nat.le_refl _) _
  have hlook : ∃ A k, (∀ n, (Instr.lookup TM (.map mo) (.agg #[.int .i64 a.r, .int .i64 a.c]) false).run Tryz.prog ((w.alloc (.cells #[.int .i64 a.r, .int .i64 a.c] 35)).drewN n) = .ok (.slice A (edgesG [] G a).length k) ((w.alloc (.cells #[.int .i64 a.r, .int .i64 a.c] 35)).drewN n)) ∧ RAt w w.heap.size (edgesG [] G a) A := by
    obtain ⟨⟨es, hes, heg⟩, h3, h4⟩ := h.map
    rcases hes with ⟨rfl, rfl⟩ | ⟨b, clock, rfl, hm⟩
    · have hG : G = [] := by rw [← List.length_eq_zero_iff, ← heg.size]; rfl
      subst hG
      exact ⟨none, 0, fun n => look_nil _ false a, Or.inl rfl⟩
    · have hm2 : ∀ n, MpAt ((w.alloc (.cells #[.int .i64 a.r, .int .i64 a.c] 35)).drewN n) b es clock := fun n => hm.block (hb.block b hm.lt)
      by_cases hin : ∃ e, e ∈ es.toList ∧ e.key = ptV a
      · obtain ⟨e, he, hk⟩ := hin
        obtain ⟨x, hx, hkx, A, k, hv, hr, -⟩ := heg.ein e he
        have hxa : x.1 = a := pt_inj (hkx.symm.trans hk)
        subst hxa
        rw [edges_of goesP hs hx]
        refine ⟨A, k, fun n => ?_, hr⟩
        rcases (hm2 n).look false x.1 with ⟨-, h2⟩ | ⟨e2, h1, h2, h3⟩
        · exact absurd hk (h2 e he)
        · have := hm.only h1 he (h2.trans hk.symm)
          subst this
          rw [hv] at h3
          exact h3
      · have hno : ∀ x, x ∈ G → x.1 ≠ a := fun x hx e => by
          obtain ⟨e2, h1, h2⟩ := heg.eout x hx
          exact hin ⟨e2, h1, by rw [h2, e]⟩
        rw [edges_none hno]
        refine ⟨none, 0, fun n => ?_, Or.inl rfl⟩
        rcases (hm2 n).look false a with ⟨h1, -⟩ | ⟨e2, h1, h2, -⟩
        · exact h1
        · exact absurd ⟨e2, h1, h2⟩ hin
  obtain ⟨A, k, hlk, hr⟩ := hlook
  have hl : (edgesG [] G a).length ≤ 1000000 := by have := edges_len hbd a; omega
  have hcall : ∀ n, Calls Tryz.prog 34 #[v] ((w.alloc (.cells #[.int .i64 a.r, .int .i64 a.c] 35)).drewN n) fun e w' => e = .returned (.map mo) ∧ (w.alloc (.cells #[.int .i64 a.r, .int .i64 a.c] 35)).drewN n = w' := fun n => call _ ((h.below hb).ptr)
  have hcl : ∀ n, Calls Tryz.prog 33 #[.slice A (edgesG [] G a).length k] ((w.alloc (.cells #[.int .i64 a.r, .int .i64 a.c] 35)).drewN n) (ClonePost (edgesG [] G a) ((w.alloc (.cells #[.int .i64 a.r, .int .i64 a.c] 35)).drewN n)) := fun n => cclone _ A k _ hl ((hr.below hb).mono hb.size)
  have d0 : (w.alloc (.cells #[.int .i64 a.r, .int .i64 a.c] 35)).cell? ⟨w.heap.size, 0, none⟩ = some (.int .i64 a.r) := by simp [go_sem]
  have d1 : (w.alloc (.cells #[.int .i64 a.r, .int .i64 a.c] 35)).cell? ⟨w.heap.size, 1, none⟩ = some (.int .i64 a.c) := by simp [go_sem]
  have HB := Lib.hid hb
  generalize edgesG [] G a = E at *
  clear h hs hb hr
  go_enter Tryz.func10, Tryz.ntmps10
  go_wp2_with fail
  refine region_tail 4 (by kernel_rfl) (by kernel_rfl) ?_
  simp only [List.take_succ_cons, List.take_zero, List.drop_succ_cons, List.drop_zero]
  have hall : Calls Tryz.prog 34 #[v] (w.alloc (.cells #[.int .i64 a.r, .int .i64 a.c] 35)).drew fun e w' => e = .returned (.map mo) ∧ w' = (w.alloc (.cells #[.int .i64 a.r, .int .i64 a.c] 35)).drew := flipW (hcall 1)
  have hlk1 := hlk 1
  have hcl1 := hcl 1
  have HB1 : Hid (Below w.heap.size w ((w.alloc (.cells #[.int .i64 a.r, .int .i64 a.c] 35)).drewN 1)) := Lib.hid (below_drewN' HB.out 1)
  change (w.alloc (.cells #[.int .i64 a.r, .int .i64 a.c] 35)).drew.cell? _ = _ at d0
  change (w.alloc (.cells #[.int .i64 a.r, .int .i64 a.c] 35)).drew.cell? _ = _ at d1
  change Hid (Below w.heap.size w (w.alloc (.cells #[.int .i64 a.r, .int .i64 a.c] 35)).drew) at HB1
  change Sem.run _ _ (w.alloc (.cells #[.int .i64 a.r, .int .i64 a.c] 35)).drew = .ok _ (w.alloc (.cells #[.int .i64 a.r, .int .i64 a.c] 35)).drew at hlk1
  change Calls _ _ _ (w.alloc (.cells #[.int .i64 a.r, .int .i64 a.c] 35)).drew (ClonePost E (w.alloc (.cells #[.int .i64 a.r, .int .i64 a.c] 35)).drew) at hcl1
  generalize (w.alloc (.cells #[.int .i64 a.r, .int .i64 a.c] 35)).drew = V at *
  clear hlk hcall hcl HB
  iterate 1 still_step
  still_call hall
  iterate 2 still_step
  refine wpStill_nil ?_
  go_wp2_with fail
  refine hcl1.mono ?_; rintro e w5 ⟨v5, rfl, ho5, hb5⟩
  obtain ⟨A5, c5, rfl, -⟩ := ho5.form
  have HF : Hid (EPost E w (.returned (.slice A5 E.length c5)) w5) := Lib.hid ⟨A5, c5, rfl, reads_rat (ho5.reads kindR.row).2, HB1.out.trans (hb5.mono HB1.out.size)⟩
  clear ho5 hb5 hcl1
  go_wp2_with fail
  go_ret
  exact HF.out
end Go.Proofs.YtakamedgdiffbaaGreatDoor.GraphC
