/-
  The walk of RefsOf.
-/
import Derived.Test.YtccigjelbnjcoaaGreatDoorPNamesRefsJ
import Derived.Test.YtccigjelbnjcoaaGreatDoorPNamesNumG
import Derived.Test.YtccigjelbnjcoaaGreatDoorPNamesTreeK7
import Derived.Test.YtccigjelbnjcoaaGreatDoorPNamesTreeV
import Derived.Test.YtccigjelbnjcoaaGreatDoorPNamesTreeK1
import Derived.Test.YtccigjelbnjcoaaGreatDoorPNamesTreeP0
import Derived.Test.YtccigjelbnjcoaaGreatDoorPNamesAddrF
import Derived.Test.YtccigjelbnjcoaaGreatDoorPNamesTreeP4
import Derived.Orders
import Derived.OwnWalk
import Derived.Deep.MidRow
import Derived.Deep.RegionHeld3
namespace Go.Proofs.YtccigjelbnjcoaaGreatDoor.RefsC
set_option linter.unusedVariables false
open Go.RowKit Go.Proofs.YtccigjelbnjcoaaGreatDoor.NumC Go.Proofs.YtccigjelbnjcoaaGreatDoor.LexC Go.Proofs.YtccigjelbnjcoaaGreatDoor.TreeC
theorem later {W w : World} {b : Nat} {f : Fld} {A : Option Addr} {n c : Nat} (L : NLoc W b f A n c) (h : Below W.heap.size W w) : NLoc w b f A n c := L.kept (Kept.of h) (Nat.ne_of_lt L.lt)
end Go.Proofs.YtccigjelbnjcoaaGreatDoor.RefsC
namespace Go.Proofs.YtccigjelbnjcoaaGreatDoor.RefsC
set_option linter.unusedVariables false
open Go.RowKit Go.Proofs.YtccigjelbnjcoaaGreatDoor.NumC Go.Proofs.YtccigjelbnjcoaaGreatDoor.LexC Go.Proofs.YtccigjelbnjcoaaGreatDoor.TreeC
def nmB (f : Fld) (r k : Int) : Bool := ((f.k == 2) && decide (f.r1 = r ∧ f.r2 = k)) || ((f.k == 3) && AddrC.hasB f.r1 f.r2 f.r3 f.r4 r k)
def nmF : Fo → Int → Int → Bool
  | .nil, _, _ => false
  | .cons f kd n, r, k => nmB f r k || (nmF kd r k || nmF n r k)
theorem nm_app (x y : Fo) (r k : Int) : nmF (x.app y) r k = (nmF x r k || nmF y r k) := by
  induction x with
  | nil => simp [Fo.app, nmF]
  | cons f kd n _ ih => simp only [Fo.app, nmF, ih, Bool.or_assoc]
theorem nm_step (q : Fo) (j : Nat) (h : j < q.len) (r k : Int) : nmF (q.drop j) r k = (nmB (q.nth j).f r k || nmF ((q.app (q.nth j).kids).drop (j + 1)) r k) := by
  rw [Fo.queue q j h, nm_app, Fo.drop_nth q j h]
  simp only [nmF]
  cases nmB (q.nth j).f r k <;> cases nmF (q.nth j).kids r k <;> cases nmF (q.drop (j + 1)) r k <;> rfl
theorem has_cell (a b r k : Int) : AddrC.hasB a b a b r k = (decide (a = r ∧ b = k) && AddrC.cellB r k) := by
  unfold AddrC.hasB AddrC.cellB
  rw [← Bool.decide_and, decide_eq_decide]
  unfold AddrC.HasP AddrC.FineP
  constructor
  · rintro ⟨⟨h1, -, -, -⟩, h2, h3, h4, h5⟩
    obtain rfl : a = r := by omega
    obtain rfl : b = k := by omega
    exact ⟨⟨rfl, rfl⟩, h1⟩
  · rintro ⟨⟨rfl, rfl⟩, h⟩
    exact ⟨⟨h, h, Int.le_refl _, Int.le_refl _⟩, Int.le_refl _, Int.le_refl _, Int.le_refl _, Int.le_refl _⟩
theorem has_grid (a b c d r k : Int) : AddrC.hasB a b c d r k = (AddrC.hasB a b c d r k && AddrC.cellB r k) := by
  cases h : AddrC.hasB a b c d r k
  · rfl
  · have : hitsL [⟨a, b, c, d⟩] r k = true := by unfold hitsL; simp [h]
    have h2 := hits_grid this
    rw [show AddrC.cellB r k = true from decide_eq_true h2]; rfl
theorem nm_hits (x : Fo) (r k : Int) : hitsL (namesF x) r k = (nmF x r k && AddrC.cellB r k) := by
  induction x with
  | nil => simp [namesF, nmF, hitsL]
  | cons f kd n ihk ihn =>
    simp only [namesF, nmF, hits_append, ihk, ihn]
    have h1 : hitsL (rcOf f) r k = (nmB f r k && AddrC.cellB r k) := by
      unfold rcOf nmB
      by_cases e2 : f.k = 2
      · rw [if_pos e2, e2]
        show (AddrC.hasB f.r1 f.r2 f.r1 f.r2 r k || false) = _
        rw [Bool.or_false, has_cell]
        simp
      · rw [if_neg e2]
        have t2 : (f.k == 2) = false := by simp [e2]
        by_cases e3 : f.k = 3
        · rw [if_pos e3, t2, e3]
          show (AddrC.hasB f.r1 f.r2 f.r3 f.r4 r k || false) = _
          rw [Bool.or_false, has_grid]
          simp
        · have t3 : (f.k == 3) = false := by simp [e3]
          rw [if_neg e3, t2, t3]
          simp [hitsL]
    rw [h1]
    cases nmB f r k <;> cases nmF kd r k <;> cases nmF n r k <;> cases AddrC.cellB r k <;> rfl
theorem names_hits {a : Nd} (h : goodT fitsB a = true) (r k : Int) : hitsL (ofL a) r k = (nmF a.one r k && AddrC.cellB r k) := by
  rw [← nm_hits]
  unfold ofL
  rw [if_pos h]
  exact hits_ext (refs_mem a) r k
def MIn (a : Nd) (r k : Int) (B : Nat) (w wr : World) (j : Nat) (nm : Bool) (tv : Value) : Prop := ∃ q : Fo, j ≤ q.len ∧ QS wr B tv q ∧ Below B w wr ∧ j + (q.drop j).size = a.size ∧ (nm || nmF (q.drop j) r k) = nmF a.one r k
theorem twelve {W w : World} {f : Fld} {A : Option Addr} {n c : Nat} {r k : Int} (L : NLoc W w.heap.size f A n c) (h0 : W.cell? ⟨w.heap.size + 1, 0, none⟩ = some (.int .i64 r)) (h1 : W.cell? ⟨w.heap.size + 1, 1, none⟩ = some (.int .i64 k)) : W.cell? ⟨w.heap.size, 0, none⟩ = some (.int .i64 f.k) ∧ W.cell? ⟨w.heap.size, 1, none⟩ = some (.int .i64 f.vk) ∧ W.cell? ⟨w.heap.size, 2, none⟩ = some (.int .i64 f.vn) ∧ W.cell? ⟨w.heap.size, 3, none⟩ = some (.string f.vs) ∧ W.cell? ⟨w.heap.size, 4, none⟩ = some (.int .i64 f.r1) ∧ W.cell? ⟨w.heap.size, 5, none⟩ = some (.int .i64 f.r2) ∧ W.cell? ⟨w.heap.size, 6, none⟩ = some (.int .i64 f.r3) ∧ W.cell? ⟨w.heap.size, 7, none⟩ = some (.int .i64 f.r4) ∧ W.cell? ⟨w.heap.size, 8, none⟩ = some (.string f.op) ∧ W.cell? ⟨w.heap.size, 9, none⟩ = some (.slice A n c) ∧ W.cell? ⟨w.heap.size + 1, 0, none⟩ = some (.int .i64 r) ∧ W.cell? ⟨w.heap.size + 1, 1, none⟩ = some (.int .i64 k) := by
  obtain ⟨d0, d1, d2, d3, d4, d5, d6, d7, d8, d9, -⟩ := L.cells
  exact ⟨d0, d1, d2, d3, d4, d5, d6, d7, d8, d9, h0, h1⟩
set_option maxRecDepth 100000 in
set_option maxHeartbeats 4000000 in
theorem refsNames (a : Nd) (A : Option Addr) (c : Nat) (r k : Int) (w : World) (hA : KidsAt w (fun g => g < w.heap.size) a.kids A) (hl : LexLib w) (hg : ErrT w) :
    Calls Tryz.prog 5 #[.agg #[.int .i64 a.f.k, .int .i64 a.f.vk, .int .i64 a.f.vn, .string a.f.vs, .int .i64 a.f.r1, .int .i64 a.f.r2, .int .i64 a.f.r3, .int .i64 a.f.r4, .string a.f.op, .slice A a.kids.len c], .agg #[.int .i64 r, .int .i64 k]] w fun e w' => e = .returned (.bool true) ∧ Below w.heap.size w w' := by
  have B0 : Below w.heap.size w ((w.alloc (.cells #[.int .i64 a.f.k, .int .i64 a.f.vk, .int .i64 a.f.vn, .string a.f.vs, .int .i64 a.f.r1, .int .i64 a.f.r2, .int .i64 a.f.r3, .int .i64 a.f.r4, .string a.f.op, .slice A a.kids.len c] 30)).alloc (.cells #[.int .i64 r, .int .i64 k] 25)) := ((Below.refl _ _).alloc (Nat.le_refl _) _).alloc (by simp) _
  have L00 : NLoc (w.alloc (.cells #[.int .i64 a.f.k, .int .i64 a.f.vk, .int .i64 a.f.vn, .string a.f.vs, .int .i64 a.f.r1, .int .i64 a.f.r2, .int .i64 a.f.r3, .int .i64 a.f.r4, .string a.f.op, .slice A a.kids.len c] 30)) w.heap.size a.f A a.kids.len c := ⟨heap_alloc_new _ _⟩
  have L0 : NLoc ((w.alloc (.cells #[.int .i64 a.f.k, .int .i64 a.f.vk, .int .i64 a.f.vn, .string a.f.vs, .int .i64 a.f.r1, .int .i64 a.f.r2, .int .i64 a.f.r3, .int .i64 a.f.r4, .string a.f.op, .slice A a.kids.len c] 30)).alloc (.cells #[.int .i64 r, .int .i64 k] 25)) w.heap.size a.f A a.kids.len c := L00.kept (Kept.alloc (Kept.refl ((w.alloc (.cells #[.int .i64 a.f.k, .int .i64 a.f.vk, .int .i64 a.f.vn, .string a.f.vs, .int .i64 a.f.r1, .int .i64 a.f.r2, .int .i64 a.f.r3, .int .i64 a.f.r4, .string a.f.op, .slice A a.kids.len c] 30)).heap.size) _) _) (Nat.ne_of_lt L00.lt)
  have HE : ∀ W2 : World, W2 = ((w.alloc (.cells #[.int .i64 a.f.k, .int .i64 a.f.vk, .int .i64 a.f.vn, .string a.f.vs, .int .i64 a.f.r1, .int .i64 a.f.r2, .int .i64 a.f.r3, .int .i64 a.f.r4, .string a.f.op, .slice A a.kids.len c] 30)).alloc (.cells #[.int .i64 r, .int .i64 k] 25)) → W2.cell? ⟨w.heap.size + 1, 0, none⟩ = some (.int .i64 r) ∧ W2.cell? ⟨w.heap.size + 1, 1, none⟩ = some (.int .i64 k) ∧ w.heap.size + 1 < W2.heap.size := by rintro W2 rfl; simp [go_sem]
  obtain ⟨a0, a1, a2⟩ := HE _ rfl
  clear HE
  have HW := Lib.hid (fun (W : World) (hb : Below w.heap.size w W) => cwakes8 W (hl.below hb) (hg.below hb))
  have HL := Lib.hid hl
  have HA := Lib.hid hA
  clear hl hg hA L00
  obtain ⟨d0, d1, d2, d3, d4, d5, d6, d7, d8, d9, -⟩ := L0.cells
  go_enter Tryz.func5, Tryz.ntmps5
  go_wp2_with fail
  generalize ((w.alloc (.cells #[.int .i64 a.f.k, .int .i64 a.f.vk, .int .i64 a.f.vn, .string a.f.vs, .int .i64 a.f.r1, .int .i64 a.f.r2, .int .i64 a.f.r3, .int .i64 a.f.r4, .string a.f.op, .slice A a.kids.len c] 30)).alloc (.cells #[.int .i64 r, .int .i64 k] 25)) = W0 at *
  refine (klarge a A c W0 (below_row HA.out B0)).mono ?_; rintro e w1 ⟨la, rfl, hb1, hla⟩
  have L1 := later L0 hb1
  have B1 := B0.trans (hb1.mono B0.size)
  replace a0 := cell_later hb1 a0
  replace a1 := cell_later hb1 a1
  replace a2 : w.heap.size + 1 < w1.heap.size := Nat.lt_of_lt_of_le a2 hb1.size
  clear d0 d1 d2 d3 d4 d5 d6 d7 d8 d9 L0 hb1 B0
  obtain ⟨d0, d1, d2, d3, d4, d5, d6, d7, d8, d9, -⟩ := L1.cells
  cases la
  case true =>
    go_wp2_with fail
    refine (HW.out _ B1).mono ?_; rintro e w2 ⟨rfl, hb2⟩
    go_wp2_with fail
    go_ret
    exact ⟨ret1 rfl, B1.trans (hb2.mono B1.size)⟩
  case false =>
  obtain ⟨sa, ha⟩ := hla rfl
  have HS := Lib.hid ha
  clear hla ha
  go_wp2_with fail
  refine (rGood a A c w1 (by omega) HS.out (below_row HA.out B1)).mono ?_; rintro e w2 ⟨rfl, hb2⟩
  have L2 := later L1 hb2
  have B2 := B1.trans (hb2.mono B1.size)
  replace a0 := cell_later hb2 a0
  replace a1 := cell_later hb2 a1
  replace a2 : w.heap.size + 1 < w2.heap.size := Nat.lt_of_lt_of_le a2 hb2.size
  clear d0 d1 d2 d3 d4 d5 d6 d7 d8 d9 L1 hb2 B1
  obtain ⟨d0, d1, d2, d3, d4, d5, d6, d7, d8, d9, -⟩ := L2.cells
  cases hgd : goodT fitsB a
  · clear hgd
    go_wp2_with fail
    refine (HW.out _ B2).mono ?_; rintro e w3 ⟨rfl, hb3⟩
    go_wp2_with fail
    go_ret
    exact ⟨ret1 rfl, B2.trans (hb3.mono B2.size)⟩
  have HNH := Lib.hid (names_hits hgd r k)
  clear hgd
  have b3 : Below w2.heap.size w2 (w2.alloc (.cells #[.int .i64 a.f.k, .int .i64 a.f.vk, .int .i64 a.f.vn, .string a.f.vs, .int .i64 a.f.r1, .int .i64 a.f.r2, .int .i64 a.f.r3, .int .i64 a.f.r4, .string a.f.op, .slice A a.kids.len c] 30)) := (Below.refl _ _).alloc (Nat.le_refl _) _
  have HQ : Hid (MIn a r k w2.heap.size w2 (w2.alloc (.cells #[.int .i64 a.f.k, .int .i64 a.f.vk, .int .i64 a.f.vn, .string a.f.vs, .int .i64 a.f.r1, .int .i64 a.f.r2, .int .i64 a.f.r3, .int .i64 a.f.r4, .string a.f.op, .slice A a.kids.len c] 30)) 0 false (.slice (some ⟨w2.heap.size, 0, none⟩) 1 1)) := Lib.hid ⟨a.one, Nat.zero_le _, QS.one (f := a.f) (kd := a.kids) (c := c) (heap_alloc_new _ _) (Nat.le_refl _) rfl (kids_below (below_row HA.out B2) b3 (Nat.le_refl _)), b3, by rw [Fo.drop_zero, Nd.one_size]; omega, by rw [Fo.drop_zero]; rfl⟩
  have HB2 := Lib.hid B2
  have HL2 := Lib.hid L2
  have HA0 := Lib.hid (And.intro a0 a1)
  clear b3
  go_wp2_with fail
  clear d0 d1 d2 d3 d4 d5 d6 d7 d8 d9 a0 a1 B2 L2
  go_loopw [5, 6, 7] (fun nv tv iv wr => ∃ (j : Nat) (nm : Bool), j ≤ 300 ∧ nv = .bool nm ∧ iv = .int .i64 j ∧ Hid (MIn a r k w2.heap.size w2 wr j nm tv)) (fun _ _ iv _ => 300 - (intOf iv).toNat)
  case atStart => exact ⟨0, false, by omega, rfl, rfl, HQ⟩
  case round =>
    clear HQ
    obtain ⟨j, nm, hj, rfl, rfl, HR⟩ := hrel
    obtain ⟨q, hjq, hQ, hB, hsz, hnm⟩ := HR.out
    clear HR
    have hql : q.len ≤ 300 := by
      have h1 := Fo.len_size (q.drop j)
      rw [Fo.len_drop] at h1
      omega
    by_cases hlt : j < q.len
    · obtain ⟨g, c9, A2, c2, rfl, hg0, hg1, hkid, f0, f1, f2, f3, f4, f5, f6, f7, f8, f9⟩ := hQ.nth j hlt
      have hd1 : (j : Int) < (q.len : Int) := by omega
      have hnl : q.len + (q.nth j).kids.len ≤ 1000000 := by
        have h1 := Fo.size_drop q j hlt
        have h2 := Fo.len_size (q.nth j).kids
        omega
      have hb3 : Below wr.heap.size wr (wr.alloc (.cells #[.int .i64 (q.nth j).f.k, .int .i64 (q.nth j).f.vk, .int .i64 (q.nth j).f.vn, .string (q.nth j).f.vs, .int .i64 (q.nth j).f.r1, .int .i64 (q.nth j).f.r2, .int .i64 (q.nth j).f.r3, .int .i64 (q.nth j).f.r4, .string (q.nth j).f.op, .slice A2 (q.nth j).kids.len c2] 30)) := (Below.refl _ _).alloc (Nat.le_refl _) _
      have hBr := hB.size
      have HQ3 := Lib.hid (hQ.below hb3)
      have HKD3 := Lib.hid (kids_below hkid (hb3.mono hBr) hBr)
      have HB3 := Lib.hid (hB.trans (hb3.mono hBr))
      have hlen3 := HB3.out.size
      have L3 : NLoc (wr.alloc (.cells #[.int .i64 (q.nth j).f.k, .int .i64 (q.nth j).f.vk, .int .i64 (q.nth j).f.vn, .string (q.nth j).f.vs, .int .i64 (q.nth j).f.r1, .int .i64 (q.nth j).f.r2, .int .i64 (q.nth j).f.r3, .int .i64 (q.nth j).f.r4, .string (q.nth j).f.op, .slice A2 (q.nth j).kids.len c2] 30)) wr.heap.size (q.nth j).f A2 (q.nth j).kids.len c2 := ⟨heap_alloc_new _ _⟩
      have a0 : (wr.alloc (.cells #[.int .i64 (q.nth j).f.k, .int .i64 (q.nth j).f.vk, .int .i64 (q.nth j).f.vn, .string (q.nth j).f.vs, .int .i64 (q.nth j).f.r1, .int .i64 (q.nth j).f.r2, .int .i64 (q.nth j).f.r3, .int .i64 (q.nth j).f.r4, .string (q.nth j).f.op, .slice A2 (q.nth j).kids.len c2] 30)).cell? ⟨w.heap.size + 1, 0, none⟩ = some (.int .i64 r) := (HB3.out.cell (p := ⟨_, 0, none⟩) a2).trans HA0.out.1
      have a1 : (wr.alloc (.cells #[.int .i64 (q.nth j).f.k, .int .i64 (q.nth j).f.vk, .int .i64 (q.nth j).f.vn, .string (q.nth j).f.vs, .int .i64 (q.nth j).f.r1, .int .i64 (q.nth j).f.r2, .int .i64 (q.nth j).f.r3, .int .i64 (q.nth j).f.r4, .string (q.nth j).f.op, .slice A2 (q.nth j).kids.len c2] 30)).cell? ⟨w.heap.size + 1, 1, none⟩ = some (.int .i64 k) := (HB3.out.cell (p := ⟨_, 1, none⟩) a2).trans HA0.out.2
      have a0r : wr.cell? ⟨w.heap.size + 1, 0, none⟩ = some (.int .i64 r) := (hB.cell (p := ⟨_, 0, none⟩) a2).trans HA0.out.1
      have a1r : wr.cell? ⟨w.heap.size + 1, 1, none⟩ = some (.int .i64 k) := (hB.cell (p := ⟨_, 1, none⟩) a2).trans HA0.out.2
      have hlr : w.heap.size + 1 < wr.heap.size := Nat.lt_of_lt_of_le a2 hB.size
      have HST : Hid (∀ (w9 : World) (v9 : Value) (nm2 : Bool) (w3 : World), QS w3 w2.heap.size (.slice (some ⟨g, 0, none⟩) q.len c9) q → Below w2.heap.size w2 w3 → nm2 = (nm || nmB (q.nth j).f r k) → QS w9 w2.heap.size v9 (q.app (q.nth j).kids) → w3.grownBy w9 (some g) → MIn a r k w2.heap.size w2 w9 (j + 1) nm2 v9) := Lib.hid (fun w9 v9 nm2 w3 hq3 hb3 e hq9 hg9 => ⟨_, by rw [Fo.len_app]; omega, hq9, below_grown hb3 hb3.size hg9 (fun i hi => by cases hi; exact hg0), Fo.queue_size q j a.size hlt hsz, by rw [← hnm, nm_step q j hlt, e, Bool.or_assoc]⟩)
      have eA := eq_addr (q.nth j).f.r1 (q.nth j).f.r2 r k
      have HNB : Hid (nmB (q.nth j).f r k = (((q.nth j).f.k == 2) && decide ((q.nth j).f.r1 = r ∧ (q.nth j).f.r2 = k) || ((q.nth j).f.k == 3) && AddrC.hasB (q.nth j).f.r1 (q.nth j).f.r2 (q.nth j).f.r3 (q.nth j).f.r4 r k)) := Lib.hid rfl
      generalize nmB (q.nth j).f r k = nb at *
      clear hQ hB hsz hnm hkid hb3
      have hsj : j + 1 ≤ 300 := by omega
      cases nm
      case true =>
        have HN2 : Hid (true = (true || nb)) := Lib.hid (by rw [Bool.true_or])
        clear L3 a0 a1 a0r a1r
        go_wp2_with (at_builtin
                     refine wpList_append_queue _ rfl (.tmp 53) (.tmp 55) rfl (B := w2.heap.size) (c := c2) (fo := q) (kd := (q.nth j).kids) (A := A2) rfl rfl HQ3.out HKD3.out hnl hlen3 ?_
                     intro v9 w9 hq9 hg9 hat9
                     have HD9 := Lib.hid (HST.out w9 v9 true _ HQ3.out HB3.out HN2.out hq9 hg9)
                     clear hq9 hg9 hat9)
        go_roundw
        case rel => exact ⟨j + 1, true, by have := Fo.size_drop q j hlt; omega, rfl, by go_num, HD9⟩
        case measure => simp [intOf]; omega
      case false =>
      have e23 : (q.nth j).f.k = 2 ∨ (q.nth j).f.k = 3 ∨ (¬ (q.nth j).f.k = 2 ∧ ¬ (q.nth j).f.k = 3) := by omega
      rcases e23 with e2 | e3 | ⟨e2, e3⟩
      · cases hq : decide ((q.nth j).f.r1 = r ∧ (q.nth j).f.r2 = k)
        · have t2 : ((q.nth j).f.k == 2) = true := by rw [e2]; rfl
          have t3 : ((q.nth j).f.k == 3) = false := by rw [e2]; rfl
          rw [hq] at eA
          have HN2 : Hid (false = (false || nb)) := Lib.hid (by rw [HNB.out, t2, t3, hq]; rfl)
          clear hq e2 L3
          go_wp2_with (at_builtin
                       refine wpList_append_queue _ rfl (.tmp 53) (.tmp 55) rfl (B := w2.heap.size) (c := c2) (fo := q) (kd := (q.nth j).kids) (A := A2) rfl rfl HQ3.out HKD3.out hnl hlen3 ?_
                       intro v9 w9 hq9 hg9 hat9
                       have HD9 := Lib.hid (HST.out w9 v9 false _ HQ3.out HB3.out HN2.out hq9 hg9)
                       clear hq9 hg9 hat9)
          go_roundw
          case rel => exact ⟨j + 1, false, by have := Fo.size_drop q j hlt; omega, rfl, by go_num, HD9⟩
          case measure => simp [intOf]; omega
        · have t2 : ((q.nth j).f.k == 2) = true := by rw [e2]; rfl
          have t3 : ((q.nth j).f.k == 3) = false := by rw [e2]; rfl
          rw [hq] at eA
          have HN2 : Hid (true = (false || nb)) := Lib.hid (by rw [HNB.out, t2, hq]; rfl)
          clear hq e2 L3
          go_wp2_with (at_builtin
                       refine wpList_append_queue _ rfl (.tmp 53) (.tmp 55) rfl (B := w2.heap.size) (c := c2) (fo := q) (kd := (q.nth j).kids) (A := A2) rfl rfl HQ3.out HKD3.out hnl hlen3 ?_
                       intro v9 w9 hq9 hg9 hat9
                       have HD9 := Lib.hid (HST.out w9 v9 true _ HQ3.out HB3.out HN2.out hq9 hg9)
                       clear hq9 hg9 hat9)
          go_roundw
          case rel => exact ⟨j + 1, true, by have := Fo.size_drop q j hlt; omega, rfl, by go_num, HD9⟩
          case measure => simp [intOf]; omega
      · have t2 : ((q.nth j).f.k == 2) = false := by rw [e3]; rfl
        have t3 : ((q.nth j).f.k == 3) = true := by rw [e3]; rfl
        have HN2 : Hid (AddrC.hasB (q.nth j).f.r1 (q.nth j).f.r2 (q.nth j).f.r3 (q.nth j).f.r4 r k = (false || nb)) := Lib.hid (by rw [HNB.out, t2, t3]; rfl)
        clear e3
        go_wp2_with fail
        generalize (wr.alloc (.cells #[.int .i64 (q.nth j).f.k, .int .i64 (q.nth j).f.vk, .int .i64 (q.nth j).f.vn, .string (q.nth j).f.vs, .int .i64 (q.nth j).f.r1, .int .i64 (q.nth j).f.r2, .int .i64 (q.nth j).f.r3, .int .i64 (q.nth j).f.r4, .string (q.nth j).f.op, .slice A2 (q.nth j).kids.len c2] 30)) = V at *
        refine (AddrC.rhas _ _ _ _ _ _ _).mono ?_; rintro e w5 ⟨rfl, hb5⟩
        have L5 := later L3 hb5
        replace HQ3 := Lib.hid (HQ3.out.below hb5)
        replace HKD3 := Lib.hid (kids_below HKD3.out (hb5.mono hlen3) hlen3)
        replace HB3 := Lib.hid (HB3.out.trans (hb5.mono hlen3))
        replace hlen3 := HB3.out.size
        obtain ⟨d0, d1, d2, d3, d4, d5, d6, d7, d8, d9, -⟩ := L5.cells
        clear L5 L3 hb5 a0 a1 a0r a1r f0 f1 f2 f3 f4 f5 f6 f7 f8 f9
        generalize AddrC.hasB (q.nth j).f.r1 (q.nth j).f.r2 (q.nth j).f.r3 (q.nth j).f.r4 r k = hh at *
        go_wp2_with (at_builtin
                     refine wpList_append_queue _ rfl (.tmp 53) (.tmp 55) rfl (B := w2.heap.size) (c := c2) (fo := q) (kd := (q.nth j).kids) (A := A2) rfl rfl HQ3.out HKD3.out hnl hlen3 ?_
                     intro v9 w9 hq9 hg9 hat9
                     have HD9 := Lib.hid (HST.out w9 v9 hh _ HQ3.out HB3.out HN2.out hq9 hg9)
                     clear hq9 hg9 hat9)
        go_roundw
        case rel => exact ⟨j + 1, hh, by have := Fo.size_drop q j hlt; omega, rfl, by go_num, HD9⟩
        case measure => simp [intOf]; omega
      · have t2 : ((q.nth j).f.k == 2) = false := by simp [e2]
        have t3 : ((q.nth j).f.k == 3) = false := by simp [e3]
        have HN2 : Hid (false = (false || nb)) := Lib.hid (by rw [HNB.out, t2, t3]; rfl)
        clear e2 e3 L3
        go_wp2_with (at_builtin
                     refine wpList_append_queue _ rfl (.tmp 53) (.tmp 55) rfl (B := w2.heap.size) (c := c2) (fo := q) (kd := (q.nth j).kids) (A := A2) rfl rfl HQ3.out HKD3.out hnl hlen3 ?_
                     intro v9 w9 hq9 hg9 hat9
                     have HD9 := Lib.hid (HST.out w9 v9 false _ HQ3.out HB3.out HN2.out hq9 hg9)
                     clear hq9 hg9 hat9)
        go_roundw
        case rel => exact ⟨j + 1, false, by have := Fo.size_drop q j hlt; omega, rfl, by go_num, HD9⟩
        case measure => simp [intOf]; omega
    · have hd1 : ¬ (j : Int) < (q.len : Int) := by omega
      obtain ⟨NA, nc, rfl⟩ := hQ.form
      have HBL := Lib.hid hB
      have HNM : Hid (hitsL (ofL a) r k = (nm && AddrC.cellB r k)) := Lib.hid (by rw [HNH.out, ← hnm, Fo.drop_len q j (by omega)]; simp [nmF])
      clear hQ hB hsz hnm
      have HLr := HL2.out.kept (Kept.of HBL.out) (Nat.ne_of_lt HL2.out.lt)
      have LD : NLoc wr.drew w.heap.size a.f A a.kids.len c := ⟨HLr.at_⟩
      have BD : Hid (Below w.heap.size w wr.drew) := Lib.hid (below_drew (HB2.out.trans (HBL.out.mono HB2.out.size)))
      have a0 : wr.drew.cell? ⟨w.heap.size + 1, 0, none⟩ = some (.int .i64 r) := (HBL.out.cell (p := ⟨_, 0, none⟩) a2).trans HA0.out.1
      have a1 : wr.drew.cell? ⟨w.heap.size + 1, 1, none⟩ = some (.int .i64 k) := (HBL.out.cell (p := ⟨_, 1, none⟩) a2).trans HA0.out.2
      have T0 : wr.drew.cell? ⟨w.heap.size, 0, none⟩ = some (.int .i64 a.f.k) ∧ wr.drew.cell? ⟨w.heap.size, 1, none⟩ = some (.int .i64 a.f.vk) ∧ wr.drew.cell? ⟨w.heap.size, 2, none⟩ = some (.int .i64 a.f.vn) ∧ wr.drew.cell? ⟨w.heap.size, 3, none⟩ = some (.string a.f.vs) ∧ wr.drew.cell? ⟨w.heap.size, 4, none⟩ = some (.int .i64 a.f.r1) ∧ wr.drew.cell? ⟨w.heap.size, 5, none⟩ = some (.int .i64 a.f.r2) ∧ wr.drew.cell? ⟨w.heap.size, 6, none⟩ = some (.int .i64 a.f.r3) ∧ wr.drew.cell? ⟨w.heap.size, 7, none⟩ = some (.int .i64 a.f.r4) ∧ wr.drew.cell? ⟨w.heap.size, 8, none⟩ = some (.string a.f.op) ∧ wr.drew.cell? ⟨w.heap.size, 9, none⟩ = some (.slice A a.kids.len c) ∧ wr.drew.cell? ⟨w.heap.size + 1, 0, none⟩ = some (.int .i64 r) ∧ wr.drew.cell? ⟨w.heap.size + 1, 1, none⟩ = some (.int .i64 k) := twelve LD a0 a1
      have hlen : (ofL a).length ≤ 1000000 := Nat.le_trans (ofL_len a) (by decide)
      clear HLr HBL HA0 HL2
      have HNM2 := HNM
      clear HNM
      cases nm
      case true =>
        go_wp2_with fail
        go_region_held3 (fun w' => w'.cell? ⟨w.heap.size, 0, none⟩ = some (.int .i64 a.f.k) ∧ w'.cell? ⟨w.heap.size, 1, none⟩ = some (.int .i64 a.f.vk) ∧ w'.cell? ⟨w.heap.size, 2, none⟩ = some (.int .i64 a.f.vn) ∧ w'.cell? ⟨w.heap.size, 3, none⟩ = some (.string a.f.vs) ∧ w'.cell? ⟨w.heap.size, 4, none⟩ = some (.int .i64 a.f.r1) ∧ w'.cell? ⟨w.heap.size, 5, none⟩ = some (.int .i64 a.f.r2) ∧ w'.cell? ⟨w.heap.size, 6, none⟩ = some (.int .i64 a.f.r3) ∧ w'.cell? ⟨w.heap.size, 7, none⟩ = some (.int .i64 a.f.r4) ∧ w'.cell? ⟨w.heap.size, 8, none⟩ = some (.string a.f.op) ∧ w'.cell? ⟨w.heap.size, 9, none⟩ = some (.slice A a.kids.len c) ∧ w'.cell? ⟨w.heap.size + 1, 0, none⟩ = some (.int .i64 r) ∧ w'.cell? ⟨w.heap.size + 1, 1, none⟩ = some (.int .i64 k))
          (first | exact T0 | exact T1 | exact T2 | exact T3 | exact T4)
          (first
            | (go_at_call 10
               refine (cOf a A c _ (by omega) (HL.out.below BD.out) (below_row HA.out BD.out)).mono ?_; rintro e w3 ⟨v3, rfl, ho3, hb3⟩
               have T1 := twelve (later LD hb3) (cell_later hb3 a0) (cell_later hb3 a1)
               have B3 := BD.out.trans (hb3.mono BD.out.size)
               obtain ⟨A4, c4, rfl⟩ := ho3.form
               have hr3 := ho3.rat.2)
            | (go_at_call 13
               refine (cHits (ofL a) A4 c4 r k _ hlen hr3).mono ?_; rw [HNM2.out]; rintro e w4 ⟨rfl, hb4⟩
               have hb34 := hb3.trans (hb4.mono hb3.size)
               have T2 := twelve (later LD hb34) (cell_later hb34 a0) (cell_later hb34 a1)
               have B4 := B3.trans (hb4.mono B3.size))
            | (go_at_call 22
               refine (AddrC.rgood r k _).mono ?_; rintro e w5 ⟨rfl, hb5⟩
               have hb35 := hb34.trans (hb5.mono hb34.size)
               have T3 := twelve (later LD hb35) (cell_later hb35 a0) (cell_later hb35 a1)
               have B5 := B4.trans (hb5.mono B4.size))
            | (go_at_call 8
               first
                 | (refine (HW.out _ B5).mono ?_; rintro e w6 ⟨rfl, hb6⟩
                    have hb36 := hb35.trans (hb6.mono hb35.size)
                    have T4 := twelve (later LD hb36) (cell_later hb36 a0) (cell_later hb36 a1)
                    have B6 := B5.trans (hb6.mono B5.size))
                 | (refine (HW.out _ B4).mono ?_; rintro e w6 ⟨rfl, hb6⟩
                    have hb36 := hb34.trans (hb6.mono hb34.size)
                    have T4 := twelve (later LD hb36) (cell_later hb36 a0) (cell_later hb36 a1)
                    have B6 := B4.trans (hb6.mono B4.size))))
        all_goals (go_wp2_with fail)
        all_goals go_ret
        all_goals exact ⟨ret1 rfl, B6⟩
      case false =>
        go_wp2_with fail
        obtain ⟨d0, d1, d2, d3, d4, d5, d6, d7, d8, d9, -⟩ := LD.cells
        go_region_law
          (first
            | (go_simp; go_at_call 10
               refine (cOf a A c _ (by omega) (HL.out.below BD.out) (below_row HA.out BD.out)).mono ?_; rintro e w3 ⟨v3, rfl, ho3, hb3⟩
               obtain ⟨e0, e1, e2, e3, e4, e5, e6, e7, e8, e9, e10, e11⟩ := twelve (later LD hb3) (cell_later hb3 a0) (cell_later hb3 a1)
               have B3 := BD.out.trans (hb3.mono BD.out.size)
               obtain ⟨A4, c4, rfl⟩ := ho3.form
               have hr3 := ho3.rat.2)
            | (go_simp; go_at_call 13
               refine (cHits (ofL a) A4 c4 r k _ hlen hr3).mono ?_; rw [HNM2.out]; rintro e w4 ⟨rfl, hb4⟩
               have hb34 := hb3.trans (hb4.mono hb3.size)
               obtain ⟨f0, f1, f2, f3, f4, f5, f6, f7, f8, f9, f10, f11⟩ := twelve (later LD hb34) (cell_later hb34 a0) (cell_later hb34 a1)
               have B4 := B3.trans (hb4.mono B3.size))
            | (go_simp; go_at_call 22
               refine (AddrC.rgood r k _).mono ?_; rintro e w5 ⟨rfl, hb5⟩
               have hb35 := hb34.trans (hb5.mono hb34.size)
               have T3 := twelve (later LD hb35) (cell_later hb35 a0) (cell_later hb35 a1)
               have B5 := B4.trans (hb5.mono B4.size))
            | (go_simp; go_at_call 8
               first
                 | (refine (HW.out _ B5).mono ?_; rintro e w6 ⟨rfl, hb6⟩
                    have hb36 := hb35.trans (hb6.mono hb35.size)
                    have T4 := twelve (later LD hb36) (cell_later hb36 a0) (cell_later hb36 a1)
                    have B6 := B5.trans (hb6.mono B5.size))
                 | (refine (HW.out _ B4).mono ?_; rintro e w6 ⟨rfl, hb6⟩
                    have hb36 := hb34.trans (hb6.mono hb34.size)
                    have T4 := twelve (later LD hb36) (cell_later hb36 a0) (cell_later hb36 a1)
                    have B6 := B4.trans (hb6.mono B4.size))))
        all_goals (go_wp2_with fail)
        all_goals go_ret
        all_goals exact ⟨ret1 rfl, B6⟩
end Go.Proofs.YtccigjelbnjcoaaGreatDoor.RefsC
