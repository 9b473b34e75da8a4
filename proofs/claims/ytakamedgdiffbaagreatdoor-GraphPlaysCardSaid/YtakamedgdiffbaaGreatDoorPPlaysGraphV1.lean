/-
  Cells of the grid that are marked, in memory: one that is put, asked for; a rectangle that is covered, or meets them.
-/
import Derived.Test.YtakamedgdiffbaaGreatDoorPPlaysGraphG
import Derived.Test.YtakamedgdiffbaaGreatDoorPPlaysRefsM
namespace Go.Proofs.YtakamedgdiffbaaGreatDoor.GraphC
set_option linter.unusedVariables false
open Go.RowKit Go.Proofs.YtakamedgdiffbaaGreatDoor.NumC Go.Proofs.YtakamedgdiffbaaGreatDoor.RowsC
open Go.Proofs.YtakamedgdiffbaaGreatDoor.RefsC (Rc RAt hitsL RBox bits_or bits_and colN col_bit col_lt col_wrap coverN)
open Go.Proofs.YtakamedgdiffbaaGreatDoor.AddrC (cellB fineB FineP Cell)
open Go.Proofs.YtakamedgdiffbaaGreatDoor.TreeC (Kept)
def MAt (w : World) (g : Nat) (m : Nat → Nat) : Prop := ∃ cs : Array Value, w.heap[g]? = some (.cells cs 65 (0, 0)) ∧ cs.size = 1001 ∧ ∀ i, i < 1001 → cs[i]? = some (.int .u64 ((m i : Nat) : Int)) ∧ m i < 2251799813685248
theorem MAt.lt {w : World} {g : Nat} {m : Nat → Nat} (h : MAt w g m) : g < w.heap.size := by
  obtain ⟨cs, h, -⟩ := h; exact (Array.getElem?_eq_some_iff.1 h).1
theorem MAt.kept {w w' : World} {g x : Nat} {m : Nat → Nat} (h : MAt w g m) (hk : Kept x w w') (hx : g ≠ x) : MAt w' g m := by
  have hl := h.lt
  obtain ⟨cs, h1, h2⟩ := h
  exact ⟨cs, (hk.block g hl hx).trans h1, h2⟩
theorem MAt.but {w w' : World} {g : Nat} {m : Nat → Nat} {P : Nat → Prop} (h : MAt w g m) (hk : But P w w') (hx : ¬ P g) : MAt w' g m := by
  have hl := h.lt
  obtain ⟨cs, h1, h2⟩ := h
  exact ⟨cs, (hk.block g hl hx).trans h1, h2⟩
theorem MAt.below {w w' : World} {g : Nat} {m : Nat → Nat} (h : MAt w g m) (hk : Below w.heap.size w w') : MAt w' g m := by
  have hl := h.lt
  obtain ⟨cs, h1, h2⟩ := h
  exact ⟨cs, (hk.block g hl).trans h1, h2⟩
theorem MAt.cell {w : World} {g : Nat} {m : Nat → Nat} (h : MAt w g m) (i : Nat) (hi : i < 1001) : w.cell? ⟨g, i, none⟩ = some (.int .u64 ((m i : Nat) : Int)) ∧ w.frozen? ⟨g, i, none⟩ = false ∧ m i < 2251799813685248 := by
  obtain ⟨cs, h1, h2, h3⟩ := h
  refine ⟨?_, ?_, (h3 i hi).2⟩
  · unfold World.cell?; simp [h1, (h3 i hi).1]
  · unfold World.frozen?; simp [h1]
theorem MAt.store {w : World} {g : Nat} {m : Nat → Nat} (h : MAt w g m) (i v : Nat) (hv : v < 2251799813685248) : MAt (w.setCell ⟨g, i, none⟩ (.int .u64 (v : Int))) g (fun j => if j = i then v else m j) := by
  obtain ⟨cs, h1, h2, h3⟩ := h
  refine ⟨_, heap_setCell_same w g i cs _ _ h1, by simpa using h2, fun j hj => ?_⟩
  rw [Array.getElem?_setIfInBounds]
  by_cases e : j = i
  · subst e
    rw [if_pos rfl, if_pos (by omega)]
    exact ⟨by simp, by simpa using hv⟩
  · rw [if_neg (fun e2 => e e2.symm)]
    have := h3 j hj
    simp only [e, if_false]
    exact this
theorem MAt.zero (w : World) : MAt (w.alloc (.cells Tryz.zeroCells65 65)) w.heap.size (fun _ => 0) := by
  have h1 : Tryz.zeroCells65 = Array.replicate 1001 (.int .u64 0) := by kernel_rfl
  refine ⟨_, heap_alloc_new _ _, by rw [h1]; simp, fun i hi => ?_⟩
  rw [h1, Array.getElem?_replicate, if_pos hi]
  exact ⟨rfl, Nat.zero_lt_succ _⟩
def putM (m : Nat → Nat) (a : Pt) : Nat → Nat := fun j => if j = a.r.toNat then m a.r.toNat ||| 2 ^ a.c.toNat else m j
def hasM (m : Nat → Nat) (a : Pt) : Bool := (m a.r.toNat).testBit a.c.toNat
theorem pow_lt {c : Nat} (h : c ≤ 50) : 2 ^ c < 2251799813685248 := Nat.lt_of_le_of_lt (Nat.pow_le_pow_right (by decide) h) (by decide)
theorem pow_wrap (c t : Nat) (ht : t = 2 ^ c) (hc : c ≤ 51) : IntKind.u64.wrap (2 ^ c) = (t : Int) := by
  have h3 : (2 : Int) ^ c = ((2 ^ c : Nat) : Int) := by push_cast; rfl
  have h4 : (2 : Nat) ^ c ≤ 2 ^ 51 := Nat.pow_le_pow_right (by decide) hc
  rw [h3, ← ht]
  rw [← ht] at h4
  rw [IntKind.wrap_u64]; omega
set_option maxHeartbeats 1000000 in
set_option maxRecDepth 100000 in
theorem cmput (g : Nat) (m : Nat → Nat) (a : Pt) (w : World) (hc : Cell a.r a.c) (hM : MAt w g m) :
    Calls Tryz.prog 35 #[.pointer (some ⟨g, 0, none⟩), .agg #[.int .i64 a.r, .int .i64 a.c]] w fun e w' => e = .returned (.tuple #[]) ∧ Kept g w w' ∧ MAt w' g (putM m a) := by
  obtain ⟨⟨r1, r2⟩, c1, c2⟩ := hc
  obtain ⟨r, hr⟩ : ∃ r : Nat, a.r = r := ⟨a.r.toNat, by omega⟩
  obtain ⟨c, hcn⟩ : ∃ c : Nat, a.c = c := ⟨a.c.toNat, by omega⟩
  have HE : Hid (putM m a = fun j => if j = r then m r ||| 2 ^ c else m j) := Lib.hid (by unfold putM; rw [hr, hcn]; rfl)
  have hg := hM.lt
  have n1 : g ≠ w.heap.size := by omega
  rw [hr] at r1 r2 ⊢
  rw [hcn] at c1 c2 ⊢
  have hp := pow_lt (c := c) (by omega)
  obtain ⟨t, ht⟩ : ∃ t : Nat, t = 2 ^ c := ⟨_, rfl⟩
  have h1 := pow_wrap c t ht (by omega)
  rw [← ht] at HE hp
  obtain ⟨q1, q2, q3⟩ := hM.cell r (by omega)
  have fo := bits_or (m r) t (by omega) (by omega)
  have hK := (Kept.refl g w).alloc (.cells #[.int .i64 (r : Int), .int .i64 (c : Int)] 35)
  have hM1 := hM.below ((Below.refl w.heap.size w).alloc (Nat.le_refl _) (.cells #[.int .i64 (r : Int), .int .i64 (c : Int)] 35))
  have hM2 : MAt (w.alloc (.cells #[.int .i64 (r : Int), .int .i64 (c : Int)] 35)).drew g m := hM1
  have HS := Lib.hid (hM2.store r (m r ||| t) (Nat.or_lt_two_pow (n := 51) q3 hp))
  have HK := Lib.hid ((hK.drew 1).setCell r (.int .u64 ((m r ||| t : Nat) : Int)))
  generalize m r ||| t = u at *
  have HT := Lib.hid ht
  clear ht hp
  obtain ⟨q1', q2', -⟩ := hM2.cell r (by omega)
  clear hM hM1 hM2 hK q1 q2
  go_enter Tryz.func35, Tryz.ntmps35
  go_wp2_with fail
  refine region_tail 12 (by kernel_rfl) (by kernel_rfl) ?_
  simp only [List.take_succ_cons, List.take_zero, List.drop_succ_cons, List.drop_zero]
  have d0 : (w.alloc (.cells #[.int .i64 (r : Int), .int .i64 (c : Int)] 35)).drew.cell? ⟨w.heap.size, 0, none⟩ = some (.int .i64 (r : Int)) := by simp [go_sem]
  have d1 : (w.alloc (.cells #[.int .i64 (r : Int), .int .i64 (c : Int)] 35)).drew.cell? ⟨w.heap.size, 1, none⟩ = some (.int .i64 (c : Int)) := by simp [go_sem]
  have e1 : (w.alloc (.cells #[.int .i64 (r : Int), .int .i64 (c : Int)] 35)).drew.cell? ⟨g, r, none⟩ = some (.int .u64 ((m r : Nat) : Int)) := q1'
  have e2 : (w.alloc (.cells #[.int .i64 (r : Int), .int .i64 (c : Int)] 35)).drew.frozen? ⟨g, r, none⟩ = false := q2'
  have HK2 : Hid (Kept g w ((w.alloc (.cells #[.int .i64 (r : Int), .int .i64 (c : Int)] 35)).drew.setCell ⟨g, r, none⟩ (.int .u64 (u : Int)))) := HK
  generalize (w.alloc (.cells #[.int .i64 (r : Int), .int .i64 (c : Int)] 35)).drew = V at *
  have hr9 : (r : Int) < 1001 := by omega
  have hr0 : (0 : Int) ≤ (r : Int) := by omega
  have hc0 : (0 : Int) ≤ (c : Int) := by omega
  iterate 12 still_step
  refine wpStill_nil ?_
  go_wp2_with fail
  rw [HE.out]
  exact bodyPost_end (results_none (by rfl) _ _ _) rfl ⟨rfl, HK2.out, HS.out⟩
theorem low64 (x : Nat) (X : Int) (hX : X = x) (hx : x < 18446744073709551616) : Op.intBits .and .u64 X 1 = pure (.int .u64 ((x % 2 : Nat) : Int)) := by
  rw [RefsC.bits_andI x 1 X 1 hX rfl hx (by decide), Nat.and_one_is_mod]
theorem bit_of (x c : Nat) (v : Bool) (h : x.testBit c = v) : x / 2 ^ c % 2 = if v then 1 else 0 := by
  rw [Nat.testBit_eq_decide_div_mod_eq] at h
  have : x / 2 ^ c % 2 < 2 := Nat.mod_lt _ (by decide)
  cases v
  · simp at h; simp; omega
  · simpa using h
set_option maxHeartbeats 1000000 in
set_option maxRecDepth 100000 in
theorem cmhas (g : Nat) (m : Nat → Nat) (a : Pt) (w : World) (hc : Cell a.r a.c) (hM : MAt w g m) :
    Calls Tryz.prog 40 #[.pointer (some ⟨g, 0, none⟩), .agg #[.int .i64 a.r, .int .i64 a.c]] w fun e w' => e = .returned (.bool (hasM m a)) ∧ Below w.heap.size w w' := by
  obtain ⟨⟨r1, r2⟩, c1, c2⟩ := hc
  obtain ⟨r, hr⟩ : ∃ r : Nat, a.r = r := ⟨a.r.toNat, by omega⟩
  obtain ⟨c, hcn⟩ : ∃ c : Nat, a.c = c := ⟨a.c.toNat, by omega⟩
  obtain ⟨v, hv⟩ : ∃ v, (m r).testBit c = v := ⟨_, rfl⟩
  have HE : Hid (hasM m a = v) := Lib.hid (by unfold hasM; rw [hr, hcn, ← hv]; rfl)
  have hg := hM.lt
  have n1 : g ≠ w.heap.size := by omega
  rw [hr] at r1 r2 ⊢
  rw [hcn] at c1 c2 ⊢
  obtain ⟨q1, q2, q3⟩ := hM.cell r (by omega)
  have f2 := low64 (m r / 2 ^ c) (((m r : Nat) : Int) / 2 ^ c) (by push_cast; rfl) (Nat.lt_of_le_of_lt (Nat.div_le_self _ _) (by omega))
  rw [bit_of _ _ _ hv] at f2
  have hb : Below w.heap.size w (w.alloc (.cells #[.int .i64 (r : Int), .int .i64 (c : Int)] 35)) := (Below.refl _ w).alloc (Nat.le_refl _) _
  have HB := Lib.hid hb
  have hr9 : (r : Int) < 1001 := by omega
  have hr0 : (0 : Int) ≤ (r : Int) := by omega
  have hc0 : (0 : Int) ≤ (c : Int) := by omega
  generalize m r = x at *
  clear hv hM hb q2
  cases v
  · simp only [Bool.false_eq_true, if_false] at f2
    go_enter Tryz.func40, Tryz.ntmps40
    go_wp2_with fail
    go_quiet (fail)
    go_wp2_with fail
    go_ret
    exact ⟨by rw [HE.out]; rfl, below_drewN' HB.out nq⟩
  · simp only [if_true] at f2
    go_enter Tryz.func40, Tryz.ntmps40
    go_wp2_with fail
    go_quiet (fail)
    go_wp2_with fail
    go_ret
    exact ⟨by rw [HE.out]; rfl, below_drewN' HB.out nq⟩
set_option maxHeartbeats 1000000 in
set_option maxRecDepth 100000 in
theorem ccolumns (a c : Int) (p q : Nat) (h1 : p ≤ q) (h2 : q ≤ 50) (w : World) :
    Calls Tryz.prog 71 #[.agg #[.int .i64 a, .int .i64 p, .int .i64 c, .int .i64 q]] w fun e w' => e = .returned (.int .u64 ((colN p q : Nat) : Int)) ∧ Below w.heap.size w w' := by
  have HE := Lib.hid (col_wrap h1 h2)
  have HB := Lib.hid (show Below w.heap.size w (w.alloc (.cells #[.int .i64 a, .int .i64 p, .int .i64 c, .int .i64 q] 51)) from (Below.refl _ w).alloc (Nat.le_refl _) _)
  go_enter Tryz.func71, Tryz.ntmps71
  go_wp2_with fail
  go_quiet (fail)
  go_wp2_with fail
  rw [HE.out]
  go_ret
  exact ⟨rfl, below_drewN' HB.out nq⟩
theorem fine_at {x : Rc} (h : fineB x.a x.b x.c x.d = true) : ∃ a b c d : Nat, x = ⟨a, b, c, d⟩ ∧ 1 ≤ a ∧ a ≤ c ∧ c ≤ 1000 ∧ 1 ≤ b ∧ b ≤ d ∧ d ≤ 50 := by
  have hf : FineP x.a x.b x.c x.d := of_decide_eq_true h
  obtain ⟨⟨⟨k1, k2⟩, k3, k4⟩, ⟨⟨k5, k6⟩, k7, k8⟩, k9, k10⟩ := hf
  obtain ⟨a, b, c, d⟩ := x
  simp only at *
  exact ⟨a.toNat, b.toNat, c.toNat, d.toNat, by rw [Int.toNat_of_nonneg (by omega), Int.toNat_of_nonneg (by omega), Int.toNat_of_nonneg (by omega), Int.toNat_of_nonneg (by omega)], by omega, by omega, by omega, by omega, by omega, by omega⟩
def covM (m : Nat → Nat) (x : Rc) : Nat → Nat := coverN m (colN x.b.toNat x.d.toNat) x.a.toNat (x.c.toNat + 1 - x.a.toNat)
set_option maxHeartbeats 1000000 in
set_option maxRecDepth 100000 in
theorem cmcover (g : Nat) (m : Nat → Nat) (x : Rc) (w : World) (hx : fineB x.a x.b x.c x.d = true) (hM : MAt w g m) :
    Calls Tryz.prog 95 #[.pointer (some ⟨g, 0, none⟩), .agg #[.int .i64 x.a, .int .i64 x.b, .int .i64 x.c, .int .i64 x.d]] w fun e w' => e = .returned (.tuple #[]) ∧ Kept g w w' ∧ MAt w' g (covM m x) := by
  obtain ⟨a, b, c, d, rfl, k1, k2, k3, k4, k5, k6⟩ := fine_at hx
  have HE : Hid (covM m ⟨a, b, c, d⟩ = coverN m (colN b d) a (c + 1 - a)) := Lib.hid rfl
  have hcl := col_lt (p := b) k6
  have hg := hM.lt
  have HK := Lib.hid ((Kept.refl g w).alloc (.cells #[.int .i64 a, .int .i64 b, .int .i64 c, .int .i64 d] 51))
  have HM := Lib.hid (hM.below ((Below.refl w.heap.size w).alloc (Nat.le_refl _) (.cells #[.int .i64 a, .int .i64 b, .int .i64 c, .int .i64 d] 51)))
  have hbx := RBox.new w ⟨a, b, c, d⟩
  clear hx hM
  go_enter Tryz.func95, Tryz.ntmps95
  go_wp2_with fail
  have hgV : w.heap.size < (w.alloc (.cells #[.int .i64 a, .int .i64 b, .int .i64 c, .int .i64 d] 51)).heap.size := by simp
  generalize (w.alloc (.cells #[.int .i64 a, .int .i64 b, .int .i64 c, .int .i64 d] 51)) = V at *
  generalize hbb : w.heap.size = bx at *
  refine (ccolumns a c b d k5 k6 V).mono ?_; rintro e V2 ⟨rfl, hb2⟩
  have HK2 := Lib.hid (HK.out.trans (Kept.of hb2))
  have HM2 := Lib.hid (HM.out.below hb2)
  have hbx2 := hbx.below hb2 hgV
  obtain ⟨d0, d1, d2, d3⟩ := hbx2.cells
  have HX := Lib.hid hbx2
  have hgx : g ≠ bx := by omega
  clear hbx hbx2 HK HM hgV hb2
  generalize colN b d = v at *
  go_wp2_with fail
  clear d0 d1 d2 d3
  go_loopw [5] (fun iv wr => ∃ i : Nat, a ≤ i ∧ i ≤ c + 1 ∧ iv = .int .i64 i ∧ Hid (Kept g w wr ∧ MAt wr g (coverN m v a (i - a)) ∧ RBox wr bx ⟨a, b, c, d⟩)) (fun iv _ => c + 1 - (intOf iv).toNat)
  case atStart =>
    refine ⟨a, Nat.le_refl _, by omega, rfl, Lib.hid ⟨HK2.out, ?_, HX.out⟩⟩
    rw [show coverN m v a (a - a) = m from by funext j; unfold coverN; rw [if_neg (by omega)]]
    exact HM2.out
  case round =>
    obtain ⟨i, hi1, hi2, rfl, HR⟩ := hrel
    obtain ⟨hk, hm, hx⟩ := HR.out
    clear HM2 HK2 HX
    obtain ⟨d0, d1, d2, d3⟩ := hx.cells
    simp only at d0 d1 d2 d3
    by_cases hlt : i ≤ c
    · have hd1 : (i : Int) ≤ (c : Int) := by omega
      obtain ⟨c1, c2, c3⟩ := hm.cell i (by omega)
      have hmi : coverN m v a (i - a) i = m i := by unfold coverN; rw [if_neg (by omega)]
      rw [hmi] at c1 c3
      have fo := bits_or (m i) v (by omega) (by omega)
      have HS := Lib.hid (hm.store i (m i ||| v) (Nat.or_lt_two_pow (n := 51) c3 hcl))
      have HKk := Lib.hid ((hk.drew 1).setCell i (.int .u64 ((m i ||| v : Nat) : Int)))
      have HXX := Lib.hid hx
      have hxl := hx.lt
      generalize hor : m i ||| v = u at *
      have ef : (fun j => if j = i then u else coverN m v a (i - a) j) = coverN m v a (i + 1 - a) := by
        funext j
        unfold coverN
        by_cases e : j = i
        · rw [if_pos e, if_pos (by omega), e]; exact hor.symm
        · rw [if_neg e]
          by_cases e2 : a ≤ j ∧ j < a + (i - a)
          · rw [if_pos e2, if_pos (by omega)]
          · rw [if_neg e2, if_neg (by omega)]
      rw [ef] at HS
      have hi9 : (i : Int) < 1001 := by omega
      have hi0 : (0 : Int) ≤ (i : Int) := by omega
      clear hk hm hx hmi ef hor
      go_wp2_with fail
      refine region_tail 9 (by kernel_rfl) (by kernel_rfl) ?_
      simp only [List.take_succ_cons, List.take_zero, List.drop_succ_cons, List.drop_zero]
      replace c1 : wr.drew.cell? ⟨g, i, none⟩ = some (.int .u64 ((m i : Nat) : Int)) := c1
      replace c2 : wr.drew.frozen? ⟨g, i, none⟩ = false := c2
      replace HS : Hid (MAt (wr.drew.setCell ⟨g, i, none⟩ (.int .u64 (u : Int))) g (coverN m v a (i + 1 - a))) := HS
      replace HKk : Hid (Kept g w (wr.drew.setCell ⟨g, i, none⟩ (.int .u64 (u : Int)))) := HKk
      have HX2 : Hid (RBox (wr.drew.setCell ⟨g, i, none⟩ (.int .u64 (u : Int))) bx ⟨a, b, c, d⟩) := Lib.hid (by
        have : Kept g wr (wr.drew.setCell ⟨g, i, none⟩ (.int .u64 (u : Int))) := ((Kept.refl g wr).drew 1).setCell i _
        exact (this.block bx hxl (fun e => hgx e.symm)).trans HXX.out)
      generalize wr.drew = V3 at *
      iterate 9 still_step
      refine wpStill_nil ?_
      go_wp2_with fail
      go_roundw
      case rel => exact ⟨i + 1, by omega, by omega, by go_num, Lib.hid ⟨HKk.out, HS.out, HX2.out⟩⟩
      case measure => simp [intOf]; omega
    · have hd1 : ¬ (i : Int) ≤ (c : Int) := by omega
      obtain rfl : i = c + 1 := by omega
      have HF := Lib.hid (show Kept g w wr ∧ MAt wr g (coverN m v a (c + 1 - a)) from ⟨hk, hm⟩)
      clear hk hm hx
      go_wp2_with fail
      rw [HE.out]
      exact bodyPost_end (results_none (by rfl) _ _ _) rfl ⟨rfl, HF.out.1, HF.out.2⟩
def meetM (m : Nat → Nat) (x : Rc) : Bool := (List.range (x.c.toNat + 1 - x.a.toNat)).any fun k => decide (m (x.a.toNat + k) &&& colN x.b.toNat x.d.toNat ≠ 0)
theorem slice_marks (g : Nat) (a c : Nat) (w : World) (hac : a ≤ c) (hc : c ≤ 1000) :
    (Instr.sliceAt 65 (.pointer (some ⟨g, 0, none⟩)) (some (.int .i64 (a : Int))) (some (.int .i64 ((c : Int) + 1))) none).run Tryz.prog w = .ok (.slice (some ⟨g, a, none⟩) (c + 1 - a) (1001 - a)) w := by
  have hl : Tryz.prog.arrayLen 65 = 1001 := by kernel_rfl
  have he : Tryz.prog.elem 65 = 63 := by kernel_rfl
  rw [run_sliceAt_array_lh (P := Tryz.prog) w 65 ⟨g, 0, none⟩ (by kernel_rfl) .i64 .i64 a ((c : Int) + 1) (by omega) (by omega) (by rw [hl]; omega), he, Tryz.sizeOf63]
  simp only [Result.andThen_ok, slicedAt, hl]
  rw [if_neg (by omega)]
  have e1 : ((c : Int) + 1).toNat - (a : Int).toNat = c + 1 - a := by omega
  rw [e1, Int.toNat_natCast]
  unfold Addr.add
  split
  · rename_i h
    rw [show a = 0 from by omega]
  · simp
set_option maxHeartbeats 1000000 in
set_option maxRecDepth 100000 in
theorem cmmeets (g : Nat) (m : Nat → Nat) (x : Rc) (w : World) (hx : fineB x.a x.b x.c x.d = true) (hM : MAt w g m) :
    Calls Tryz.prog 61 #[.pointer (some ⟨g, 0, none⟩), .agg #[.int .i64 x.a, .int .i64 x.b, .int .i64 x.c, .int .i64 x.d]] w fun e w' => e = .returned (.bool (meetM m x)) ∧ Below w.heap.size w w' := by
  obtain ⟨a, b, c, d, rfl, k1, k2, k3, k4, k5, k6⟩ := fine_at hx
  have HE : Hid (meetM m ⟨a, b, c, d⟩ = (List.range (c + 1 - a)).any fun k => decide (m (a + k) &&& colN b d ≠ 0)) := Lib.hid rfl
  have hcl := col_lt (p := b) k6
  have hg := hM.lt
  have HB := Lib.hid (show Below w.heap.size w (w.alloc (.cells #[.int .i64 a, .int .i64 b, .int .i64 c, .int .i64 d] 51)) from (Below.refl _ w).alloc (Nat.le_refl _) _)
  have HM := Lib.hid (hM.below ((Below.refl w.heap.size w).alloc (Nat.le_refl _) (.cells #[.int .i64 a, .int .i64 b, .int .i64 c, .int .i64 d] 51)))
  have hbx := RBox.new w ⟨a, b, c, d⟩
  clear hx hM
  go_enter Tryz.func61, Tryz.ntmps61
  go_wp2_with fail
  have hgV : w.heap.size < (w.alloc (.cells #[.int .i64 a, .int .i64 b, .int .i64 c, .int .i64 d] 51)).heap.size := by simp
  generalize (w.alloc (.cells #[.int .i64 a, .int .i64 b, .int .i64 c, .int .i64 d] 51)) = V at *
  generalize hbb : w.heap.size = bx at *
  refine (ccolumns a c b d k5 k6 V).mono ?_; rintro e V2 ⟨rfl, hb2⟩
  have HB2 := Lib.hid (HB.out.trans (hb2.mono (Nat.le_of_lt hgV)))
  have hm2 := HM.out.below hb2
  have hbx2 := hbx.below hb2 hgV
  obtain ⟨d0, d1, d2, d3⟩ := hbx2.cells
  have HM2 := Lib.hid hm2
  have hgx : g ≠ bx := by omega
  clear hbx hbx2 HB HM hgV hb2 hm2
  generalize colN b d = v at *
  simp only at d0 d1 d2 d3
  have hw : IntKind.i64.wrap ((c : Int) + 1) = (c : Int) + 1 := by rw [IntKind.wrap_i64]; omega
  go_wp2_with fail
  have hsl := fun W => slice_marks g a c W k2 k3
  go_quiet (fail)
  replace HM2 : Hid (MAt (V2.drewN nq) g m) := HM2
  replace HB2 : Hid (Below bx w (V2.drewN nq)) := Lib.hid (below_drewN' HB2.out nq)
  generalize (V2.drewN nq) = V3 at *
  clear d0 d1 d2 d3 hsl
  go_wp2_with fail
  go_loopw [21] (fun iv wr => ∃ i : Nat, i ≤ c + 1 - a ∧ iv = .int .i64 i ∧ wr = V3 ∧ Hid (((List.range i).any fun k => decide (m (a + k) &&& v ≠ 0)) = false)) (fun iv _ => c + 1 - a - (intOf iv).toNat)
  case atStart => exact ⟨0, Nat.zero_le _, rfl, rfl, Lib.hid rfl⟩
  case round =>
    obtain ⟨i, hi, rfl, rfl, HN⟩ := hrel
    by_cases hlt : i < c + 1 - a
    · have hd1 : (i : Int) < ((c + 1 - a : Nat) : Int) := by omega
      obtain ⟨c1, c2, c3⟩ := HM2.out.cell (a + i) (by omega)
      have fo := bits_and (m (a + i)) v (by omega) (by omega)
      have HN1 : Hid (((List.range (i + 1)).any fun k => decide (m (a + k) &&& v ≠ 0)) = decide (m (a + i) &&& v ≠ 0)) := Lib.hid (by rw [List.range_succ, List.any_append, HN.out]; simp)
      generalize hu0 : m (a + i) &&& v = u at *
      clear hu0
      by_cases hu : u = 0
      · subst hu
        go_wp2_with fail
        go_roundw
        case rel => exact ⟨i + 1, by omega, by go_num, trivial, Lib.hid (by rw [HN1.out]; rfl)⟩
        case measure => simp [intOf]; omega
      · have HN2 : Hid (((List.range (i + 1)).any fun k => decide (m (a + k) &&& v ≠ 0)) = true) := Lib.hid (by rw [HN1.out]; simpa using hu)
        have hu1 : ((u : Int) == 0) = false := by simp; omega
        have hu2 : ¬ (u : Int) = 0 := by omega
        clear hu HN1
        go_wp2_with fail
        go_ret
        refine ⟨?_, by rw [hbb]; exact HB2.out⟩
        have : ((List.range (c + 1 - a)).any fun k => decide (m (a + k) &&& v ≠ 0)) = true := by
          obtain ⟨k, hk, h⟩ := List.any_eq_true.1 HN2.out
          exact List.any_eq_true.2 ⟨k, List.mem_range.2 (by have := List.mem_range.1 hk; omega), h⟩
        rw [HE.out, this]; rfl
    · have hd1 : ¬ (i : Int) < ((c + 1 - a : Nat) : Int) := by omega
      obtain rfl : i = c + 1 - a := by omega
      go_wp2_with fail
      go_ret
      exact ⟨by rw [HE.out, HN.out]; rfl, HB2.out⟩
end Go.Proofs.YtakamedgdiffbaaGreatDoor.GraphC
