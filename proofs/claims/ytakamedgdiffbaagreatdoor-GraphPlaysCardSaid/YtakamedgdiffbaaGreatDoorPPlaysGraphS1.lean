/-
  A row of at most twelve rectangles that is sorted by the library, the comparison being a function that makes memory: the library's own text is walked.
-/
import Derived.Test.YtakamedgdiffbaaGreatDoorPPlaysGraphV2
import Derived.Test.YtakamedgdiffbaaGreatDoorPPlaysShelfG
import Derived.Test.YtakamedgdiffbaaGreatDoorPPlaysGraphU5
import Derived.Deep.RegionHeld3
namespace Go.Proofs.YtakamedgdiffbaaGreatDoor.GraphC
set_option linter.unusedVariables false
open Go.RowKit Go.Proofs.YtakamedgdiffbaaGreatDoor.NumC Go.Proofs.YtakamedgdiffbaaGreatDoor.RowsC
open Go.Proofs.YtakamedgdiffbaaGreatDoor.RefsC (Rc RAt hitsL RBox Srt nth_some aheadB ahead_iff)
open Go.Proofs.YtakamedgdiffbaaGreatDoor.TreeC (Kept)
open Go.Sort (swp swp_get size_swp SortedIn SWO HoldsK swap_worldK putRowK putRowK_self holdsK_putRowK)
instance : Inhabited Rc := ⟨⟨0, 0, 0, 0⟩⟩
theorem mem_get {d : Array Rc} {x : Rc} : x ∈ d.toList ↔ ∃ t, t < d.size ∧ d[t]! = x := by
  constructor
  · intro h
    obtain ⟨i, hi, e⟩ := List.mem_iff_getElem.1 h
    have hi2 : i < d.size := by simpa using hi
    exact ⟨i, hi2, by rw [getElem!_pos d i hi2]; simpa using e⟩
  · rintro ⟨t, ht, rfl⟩
    rw [getElem!_pos d t ht]
    simp
theorem mem_swp {d : Array Rc} {i j : Nat} (hi : i < d.size) (hj : j < d.size) (x : Rc) : x ∈ (swp d i j).toList ↔ x ∈ d.toList := by
  rw [mem_get, mem_get, size_swp]
  constructor
  · rintro ⟨t, ht, rfl⟩
    rw [swp_get d hi hj]
    split
    · exact ⟨i, hi, rfl⟩
    · split
      · exact ⟨j, hj, rfl⟩
      · exact ⟨t, ht, rfl⟩
  · rintro ⟨t, ht, rfl⟩
    by_cases h1 : t = i
    · exact ⟨j, hj, by rw [swp_get d hi hj, if_pos rfl, h1]⟩
    · by_cases h2 : t = j
      · refine ⟨i, hi, ?_⟩
        rw [swp_get d hi hj]
        by_cases h3 : i = j
        · rw [if_pos h3, h2, h3]
        · rw [if_neg h3, if_pos rfl, h2]
      · exact ⟨t, ht, by rw [swp_get d hi hj, if_neg h2, if_neg h1]⟩
theorem swo_ahead : SWO aheadB where
  irrefl x := RefsC.ahead_irrefl x
  trans x y z h1 h2 := RefsC.ahead_trans h1 h2
  ntrans x y z h1 h2 := by
    cases h : aheadB x z
    · rfl
    · have h3 := (ahead_iff x z).1 h
      have h4 : ¬ _ := fun e => absurd ((ahead_iff x y).2 e) (by rw [h1]; decide)
      have h5 : ¬ _ := fun e => absurd ((ahead_iff y z).2 e) (by rw [h2]; decide)
      omega
theorem kept_cellsS (b : Nat) : ∀ (l : List Value) (o : Nat) (w W : World), Kept b w W → Kept b w (W.setCells b o l)
  | [], _, _, _, h => h
  | v :: l, o, w, W, h => kept_cellsS b l (o + 1) w (W.setCell ⟨b, o, none⟩ v) (h.setCell o v)
theorem swapped {sf : Nat} {sb : Array Value} {g n : Nat} (hs : SwapSwapsK Tryz.prog sf sb fR 4 g 0 n) (W : World) (d : Array Rc) (hH : HoldsK fR 4 W g 0 d) (hd : d.size = n) (i j : Nat) (hi : i < n) (hj : j < n) :
    ∃ W', (callFunc sf (#[.int .i64 (i : Int), .int .i64 (j : Int)] ++ sb)).run Tryz.prog W = .ok (.value (.tuple #[])) W' ∧ HoldsK fR 4 W' g 0 (swp d i j) ∧ Kept g W W' := by
  refine ⟨_, hs W d hH hd i j hi hj, ?_, kept_cellsS g _ _ _ _ (kept_cellsS g _ _ _ _ (Kept.refl g W))⟩
  have h := swap_worldK fR 4 (fun _ => rfl) W 0 0 g 0 d i j (by omega) (by omega)
  have e : (putRowK fR 4 (Sort.ahead W 0) g 0 d).drewN 0 = W := putRowK_self fR 4 W g 0 d hH
  rw [e] at h
  rw [h]
  exact holdsK_putRowK fR 4 W g 0 d _ hH (size_swp d i j)
def SrtBut (d : Array Rc) (i j : Nat) : Prop := ∀ p q, p < q → q ≤ i → q ≠ j → aheadB d[q]! d[p]! = false
theorem but_done {d : Array Rc} {i j : Nat} (h : SrtBut d i j) (hj : j ≤ i) (hs : j = 0 ∨ aheadB d[j]! d[j - 1]! = false) : ∀ p q, p < q → q < i + 1 → aheadB d[q]! d[p]! = false := by
  intro p q hpq hq
  by_cases e : q = j
  · subst e
    rcases hs with hs | hs
    · omega
    · by_cases e2 : p = q - 1
      · rw [e2]; exact hs
      · exact swo_ahead.ntrans _ _ _ hs (h p (q - 1) (by omega) (by omega) (by omega))
  · exact h p q hpq (by omega) e
theorem but_step {d : Array Rc} {i j : Nat} (h : SrtBut d i j) (hj : j ≤ i) (hi : i < d.size) (h0 : 0 < j) (hs : aheadB d[j]! d[j - 1]! = true) : SrtBut (swp d j (j - 1)) i (j - 1) := by
  intro p q hpq hq hne
  have hasym : aheadB d[j - 1]! d[j]! = false := RefsC.ahead_asymm hs
  rw [swp_get d (by omega) (by omega), swp_get d (by omega) (by omega)]
  by_cases e1 : q = j
  · subst e1
    rw [if_neg (by omega), if_pos rfl]
    by_cases e2 : p = q - 1
    · rw [if_pos e2]; exact hasym
    · rw [if_neg e2, if_neg (by omega)]; exact h p (q - 1) (by omega) (by omega) (by omega)
  · rw [if_neg hne, if_neg e1]
    by_cases e2 : p = j - 1
    · rw [if_pos e2]; exact h j q (by omega) hq e1
    · rw [if_neg e2]
      by_cases e3 : p = j
      · rw [if_pos e3]; exact h (j - 1) q (by omega) hq e1
      · rw [if_neg e3]; exact h p q hpq hq e1
def LessG (g : Nat) (lb : Array Value) (b n : Nat) (w : World) : Prop := ∀ (V : World) (d : Array Rc) (i j : Nat), Kept b w V → HoldsK fR 4 V b 0 d → d.size = n → i < n → j < n →
  Calls Tryz.prog g (#[.int .i64 (i : Int), .int .i64 (j : Int)] ++ lb) V fun e w' => e = .returned (.bool (aheadB d[i]! d[j]!)) ∧ Below V.heap.size V w'
theorem holds_kept {W W' : World} {b x : Nat} {d : Array Rc} (h : HoldsK fR 4 W b 0 d) (hk : Kept x W W') (hb : b < W.heap.size) (hx : b ≠ x) : HoldsK fR 4 W' b 0 d := fun j hj => by
  obtain ⟨h1, h2⟩ := h j hj
  have e := hk.block b hb hx
  exact ⟨(World.cell?_of_block e).trans h1, (World.frozen?_of_block e).trans h2⟩
theorem holds_below {W W' : World} {b : Nat} {d : Array Rc} (h : HoldsK fR 4 W b 0 d) (hk : Below W.heap.size W W') (hb : b < W.heap.size) : HoldsK fR 4 W' b 0 d := fun j hj => by
  obtain ⟨h1, h2⟩ := h j hj
  have e := hk.block b hb
  exact ⟨(World.cell?_of_block e).trans h1, (World.frozen?_of_block e).trans h2⟩
def SortPost (b : Nat) (d : Array Rc) (w : World) (e : Ending) (w' : World) : Prop := e = .returned (.tuple #[]) ∧ ∃ d' : Array Rc, d'.size = d.size ∧ (∀ x, x ∈ d'.toList ↔ x ∈ d.toList) ∧ SortedIn aheadB 0 d.size d' ∧ HoldsK fR 4 w' b 0 d' ∧ Kept b w w'
set_option maxHeartbeats 2000000 in
set_option maxRecDepth 100000 in
theorem cinsertion (g : Nat) (lb : Array Value) (sf : Nat) (sb : Array Value) (b : Nat) (d : Array Rc) (w : World) (eg : ∀ args w, (callFunc g args).run Tryz.prog w = .ok (.enter g args) w)
    (hless : LessG g lb b d.size w) (hs : SwapSwapsK Tryz.prog sf sb fR 4 b 0 d.size) (hH : HoldsK fR 4 w b 0 d) (hb : b < w.heap.size) (hn : d.size ≤ 12) :
    Calls Tryz.prog 86 #[.agg #[.func (.func g) #[] lb, .func (.func sf) #[] sb], .int .i64 0, .int .i64 (d.size : Int)] w (SortPost b d w) := by
  have HL := Lib.hid hless
  have HS := Lib.hid hs
  have K0 : Kept b w (w.alloc (.cells #[.func (.func g) #[] lb, .func (.func sf) #[] sb] 112)) := (Kept.refl b w).alloc _
  have hB0 : Below w.heap.size w (w.alloc (.cells #[.func (.func g) #[] lb, .func (.func sf) #[] sb] 112)) := (Below.refl _ w).alloc (Nat.le_refl _) _
  have H0 := Lib.hid (holds_below hH hB0 hb)
  have c0 : (w.alloc (.cells #[.func (.func g) #[] lb, .func (.func sf) #[] sb] 112)).cell? ⟨w.heap.size, 0, none⟩ = some (.func (.func g) #[] lb) := by simp [go_sem]
  have c1 : (w.alloc (.cells #[.func (.func g) #[] lb, .func (.func sf) #[] sb] 112)).cell? ⟨w.heap.size, 1, none⟩ = some (.func (.func sf) #[] sb) := by simp [go_sem]
  have hz : w.heap.size < (w.alloc (.cells #[.func (.func g) #[] lb, .func (.func sf) #[] sb] 112)).heap.size := by simp
  have HK0 := Lib.hid K0
  have HC0 := Lib.hid c0
  have HC1 := Lib.hid c1
  clear hless hs K0 hB0 hH c0 c1
  go_enter Tryz.func86, Tryz.ntmps86
  go_wp2_with fail
  generalize (w.alloc (.cells #[.func (.func g) #[] lb, .func (.func sf) #[] sb] 112)) = W at *
  generalize hbx : w.heap.size = bx at *
  have hbb : bx ≠ b := by omega
  go_loopw [6] (fun iv wr => ∃ (i : Nat) (dk : Array Rc), 1 ≤ i ∧ (i ≤ d.size ∨ i = 1) ∧ iv = .int .i64 i ∧ Hid (dk.size = d.size ∧ (∀ x, x ∈ dk.toList ↔ x ∈ d.toList) ∧ (∀ p q, p < q → q < i → aheadB dk[q]! dk[p]! = false) ∧ HoldsK fR 4 wr b 0 dk ∧ Kept b w wr ∧ Kept b W wr)) (fun iv _ => d.size + 1 - (intOf iv).toNat)
  case atStart => exact ⟨1, d, Nat.le_refl _, Or.inr rfl, by go_num, Lib.hid ⟨rfl, fun x => Iff.rfl, fun p q h1 h2 => by omega, H0.out, HK0.out, Kept.refl _ _⟩⟩
  case round =>
    obtain ⟨i, dk, hi1, hi2, rfl, HR⟩ := hrel
    by_cases hlt : i < d.size
    · have hd1 : (i : Int) < (d.size : Int) := by omega
      go_wp2_with fail
      generalize wr = wz at *
      go_loopw [7] (fun jv wr => ∃ (j : Nat) (dj : Array Rc), j ≤ i ∧ jv = .int .i64 j ∧ Hid (dj.size = d.size ∧ (∀ x, x ∈ dj.toList ↔ x ∈ d.toList) ∧ SrtBut dj i j ∧ HoldsK fR 4 wr b 0 dj ∧ Kept b w wr ∧ Kept b W wr)) (fun jv _ => (intOf jv).toNat)
      case atStart =>
        obtain ⟨h1, h2, h3, h4, h5, h6⟩ := HR.out
        exact ⟨i, dk, Nat.le_refl _, rfl, Lib.hid ⟨h1, h2, fun p q hpq hq hne => h3 p q hpq (by omega), h4, h5, h6⟩⟩
      case round =>
        obtain ⟨j, dj, hji, rfl, HJ⟩ := hrel
        obtain ⟨g1, g2, g3, g4, g5, g6⟩ := HJ.out
        have q0 : wr.cell? ⟨bx, 0, none⟩ = some (.func (.func g) #[] lb) := g6.cell hbb HC0.out
        by_cases hj0 : j = 0
        · subst hj0
          have HF := Lib.hid (show (∀ p q, p < q → q < i + 1 → aheadB dj[q]! dj[p]! = false) from but_done g3 hji (Or.inl rfl))
          clear g1 g2 g3 g4 g5 g6
          go_wp2_with fail
          go_roundw
          case rel =>
            obtain ⟨g1, g2, g3, g4, g5, g6⟩ := HJ.out
            exact ⟨i + 1, dj, by omega, Or.inl (by omega), by go_num, Lib.hid ⟨g1, g2, HF.out, g4, g5, g6⟩⟩
          case measure => simp [intOf]; omega
        · have hj1 : (0 : Int) < (j : Int) := by omega
          have hcall := HL.out wr dj j (j - 1) g5 g4 g1 (by omega) (by omega)
          rw [show ((j - 1 : Nat) : Int) = (j : Int) - 1 by omega] at hcall
          have hsub : IntKind.i64.wrap ((j : Int) - 1) = (j : Int) - 1 := by rw [IntKind.wrap_i64]; omega
          have hbw : b < wr.heap.size := by have := g6.size; omega
          have hbxw : bx < wr.heap.size := by have := g6.size; omega
          cases hv : aheadB dj[j]! dj[j - 1]! <;> rw [hv] at hcall
          · have HF := Lib.hid (show (∀ p q, p < q → q < i + 1 → aheadB dj[q]! dj[p]! = false) from but_done g3 hji (Or.inr hv))
            clear g1 g2 g3 g4 g5 g6 hv
            go_wp2_with fail
            refine hcall.mono ?_; rintro e w5 ⟨rfl, hb5⟩
            have HB5 := Lib.hid hb5
            clear hb5 hcall
            go_wp2_with fail
            go_roundw
            case rel =>
              obtain ⟨g1, g2, g3, g4, g5, g6⟩ := HJ.out
              exact ⟨i + 1, dj, by omega, Or.inl (by omega), by go_num, Lib.hid ⟨g1, g2, HF.out, holds_below g4 HB5.out hbw, g5.trans (Kept.of HB5.out), g6.trans (Kept.of HB5.out)⟩⟩
            case measure => simp [intOf]; omega
          · have HF := Lib.hid (but_step g3 hji (by omega) (by omega) hv)
            have hmem := fun x => (mem_swp (d := dj) (i := j) (j := j - 1) (by omega) (by omega) x).trans (g2 x)
            have HM := Lib.hid hmem
            clear g1 g2 g3 g4 g5 g6 hv hmem
            go_wp2_with fail
            refine hcall.mono ?_; rintro e w5 ⟨rfl, hb5⟩
            have q1 : w5.cell? ⟨bx, 1, none⟩ = some (.func (.func sf) #[] sb) := (hb5.cell (p := ⟨bx, 1, none⟩) hbxw).trans (HJ.out.2.2.2.2.2.cell hbb HC1.out)
            obtain ⟨w6, hrun, hh6, hk6⟩ := swapped HS.out w5 dj (holds_below HJ.out.2.2.2.1 hb5 hbw) HJ.out.1 j (j - 1) (by omega) (by omega)
            rw [show ((j - 1 : Nat) : Int) = (j : Int) - 1 by omega] at hrun
            have HB5 := Lib.hid hb5
            have HH6 := Lib.hid hh6
            have HK6 := Lib.hid hk6
            clear hb5 hcall hh6 hk6
            go_wp2_with fail
            go_roundw
            case rel =>
              obtain ⟨g1, g2, g3, g4, g5, g6⟩ := HJ.out
              exact ⟨j - 1, swp dj j (j - 1), by omega, by rw [show ((j - 1 : Nat) : Int) = (j : Int) - 1 by omega], Lib.hid ⟨by rw [size_swp]; exact g1, HM.out, HF.out, HH6.out, (g5.trans (Kept.of HB5.out)).trans HK6.out, (g6.trans (Kept.of HB5.out)).trans HK6.out⟩⟩
            case measure => simp [intOf]; omega
    · have hd1 : ¬ (i : Int) < (d.size : Int) := by omega
      have HF : Hid (SortPost b d w (.returned (.tuple #[])) wr) := Lib.hid (by
        obtain ⟨h1, h2, h3, h4, h5, h6⟩ := HR.out
        exact ⟨rfl, dk, h1, h2, fun p q _ hpq hq => h3 p q hpq (by omega), h4, h5⟩)
      go_wp2_with fail
      exact bodyPost_end (results_none (by rfl) _ _ _) rfl HF.out
end Go.Proofs.YtakamedgdiffbaaGreatDoor.GraphC
namespace Go.Proofs.YtakamedgdiffbaaGreatDoor.GraphC
set_option linter.unusedVariables false
open Go.RowKit Go.Proofs.YtakamedgdiffbaaGreatDoor.NumC Go.Proofs.YtakamedgdiffbaaGreatDoor.RowsC
open Go.Proofs.YtakamedgdiffbaaGreatDoor.RefsC (Rc RAt hitsL RBox Srt nth_some aheadB ahead_iff)
open Go.Proofs.YtakamedgdiffbaaGreatDoor.TreeC (Kept)
open Go.Sort (swp swp_get size_swp SortedIn SWO HoldsK swap_worldK putRowK putRowK_self holdsK_putRowK holdsK_grow)
set_option maxHeartbeats 2000000 in
set_option maxRecDepth 100000 in
theorem cpdq (g : Nat) (lb : Array Value) (sf : Nat) (sb : Array Value) (b : Nat) (d : Array Rc) (lim : Int) (w : World) (eg : ∀ args w, (callFunc g args).run Tryz.prog w = .ok (.enter g args) w)
    (hless : LessG g lb b d.size w) (hs : SwapSwapsK Tryz.prog sf sb fR 4 b 0 d.size) (hH : HoldsK fR 4 w b 0 d) (hb : b < w.heap.size) (hn : d.size ≤ 12) :
    Calls Tryz.prog 69 #[.agg #[.func (.func g) #[] lb, .func (.func sf) #[] sb], .int .i64 0, .int .i64 (d.size : Int), .int .i64 lim] w (SortPost b d w) := by
  have hB0 : Below w.heap.size w (w.alloc (.cells #[.func (.func g) #[] lb, .func (.func sf) #[] sb] 112)) := (Below.refl _ w).alloc (Nat.le_refl _) _
  have hcall := cinsertion g lb sf sb b d (w.alloc (.cells #[.func (.func g) #[] lb, .func (.func sf) #[] sb] 112)) eg
    (fun V e i j hk h1 h2 h3 h4 => hless V e i j ((Kept.of hB0).trans hk) h1 h2 h3 h4) hs (holds_below hH hB0 hb) (by simp; omega) hn
  have HK0 := Lib.hid (Kept.of (x := b) hB0)
  have hn1 : (d.size : Int) ≤ 12 := by omega
  have hsub : IntKind.i64.wrap ((d.size : Int) - 0) = (d.size : Int) := by rw [IntKind.wrap_i64]; omega
  have hsub2 : IntKind.i64.wrap (d.size : Int) = (d.size : Int) := by rw [IntKind.wrap_i64]; omega
  have c0 : (w.alloc (.cells #[.func (.func g) #[] lb, .func (.func sf) #[] sb] 112)).cell? ⟨w.heap.size, 0, none⟩ = some (.func (.func g) #[] lb) := by simp [go_sem]
  have c1 : (w.alloc (.cells #[.func (.func g) #[] lb, .func (.func sf) #[] sb] 112)).cell? ⟨w.heap.size, 1, none⟩ = some (.func (.func sf) #[] sb) := by simp [go_sem]
  clear hless hs hB0 hH
  go_enter Tryz.func69, Tryz.ntmps69
  go_wp2_with fail
  generalize (w.alloc (.cells #[.func (.func g) #[] lb, .func (.func sf) #[] sb] 112)) = W at *
  go_loopw [1, 2] (fun av bv wr => av = .int .i64 0 ∧ bv = .int .i64 (d.size : Int) ∧ Hid (wr = W)) (fun _ _ _ => 0)
  case atStart => exact ⟨rfl, rfl, Lib.hid rfl⟩
  case round =>
    obtain ⟨rfl, rfl, HW⟩ := hrel
    have hw := HW.out
    clear HW
    subst hw
    go_wp2_with fail
    refine hcall.mono ?_; rintro e w5 ⟨rfl, h5⟩
    have HF : Hid (SortPost b d w (.returned (.tuple #[])) w5) := Lib.hid (by
      obtain ⟨d', q1, q2, q3, q4, q5⟩ := h5
      exact ⟨rfl, d', q1, q2, q3, q4, HK0.out.trans q5⟩)
    clear h5 hcall
    go_wp2_with fail
    exact bodyPost_ret (results_none (by rfl) _ _ _) rfl HF.out
noncomputable def infoS : TypeInfo := (Tryz.prog.info? 36).get (by kernel_rfl)
noncomputable def infoE : TypeInfo := (Tryz.prog.info? 51).get (by kernel_rfl)
theorem swapK (n : Nat) (h2 : 2 ≤ n) : Lib.swapperK n infoE 25 = 9 := by
  have a : infoE.hasPointers = false := by kernel_rfl
  have b : infoE.bytes = 32 := by kernel_rfl
  have c : (n == 0) = false := by simp; omega
  have d : (n == 1) = false := by simp; omega
  simp [Lib.swapperK, a, b, c, d]
theorem fR_one (x : Rc) : ∀ v ∈ fR x, v.oneCell' = true := fun v hv => kindR.row.one x v hv
set_option maxHeartbeats 2000000 in
set_option maxRecDepth 100000 in
theorem csortslice (g : Nat) (lb : Array Value) (b c : Nat) (d : Array Rc) (w : World) (eg : ∀ args w, (callFunc g args).run Tryz.prog w = .ok (.enter g args) w)
    (hless : LessG g lb b d.size w) (hH : HoldsK fR 4 w b 0 d) (hb : b < w.heap.size) (hn : d.size ≤ 12) :
    Calls Tryz.prog 55 #[.iface 36 (.slice (some ⟨b, 0, none⟩) d.size c), .func (.func g) #[] lb] w (SortPost b d w) := by
  by_cases h2 : 2 ≤ d.size
  · have hB : Below w.heap.size w (sliceWorld Tryz.prog Tryz.laysGg6_ren 36 (some ⟨b, 0, none⟩) d.size c w) := ((Below.refl _ w).alloc (Nat.le_refl _) _).alloc (by simp) _
    have hbb : sliceBound Tryz.prog 51 infoE 25 (some ⟨b, 0, none⟩) d.size c = #[.slice (some ⟨b, 0, none⟩) d.size c, typeHandle Tryz.prog 51] := by
      unfold sliceBound; rw [swapK _ h2, if_neg (by omega)]
    refine Any.sort_Slice_of_pdq Tryz.laysGg6 36 51 infoS infoE (by kernel_rfl) (by kernel_rfl) (by kernel_rfl) (by kernel_rfl) 25 (fun _ => by kernel_rfl) (some ⟨b, 0, none⟩) d.size c (by omega) 83 (by rw [swapK _ h2]; kernel_rfl) (.func g) #[] lb w
      (fun w' => ∃ d' : Array Rc, d'.size = d.size ∧ (∀ x, x ∈ d'.toList ↔ x ∈ d.toList) ∧ SortedIn aheadB 0 d.size d' ∧ HoldsK fR 4 w' b 0 d' ∧ Kept b w w') ?_
    rw [hbb]
    refine (cpdq g lb 83 _ b d _ _ eg (fun V e i j hk h1 h2 h3 h4 => hless V e i j ((Kept.of hB).trans hk) h1 h2 h3 h4)
      (swapSwapsK_of_literal false 83 (fun args W => run_callFunc_extern Tryz.func83 (by kernel_rfl) (by kernel_rfl) (by kernel_rfl) (e := Extern.ReflectliteSwapper.swap false) (by kernel_rfl) args W) 51 infoE (by kernel_rfl) fR 4 (fun _ => rfl) (by kernel_rfl) (fun _ => by kernel_rfl) fR_one b 0 d.size c)
      (holds_below hH hB hb) (Nat.lt_of_lt_of_le hb hB.size) hn).mono ?_
    rintro e w' ⟨h1, d', q1, q2, q3, q4, q5⟩
    exact ⟨h1, d', q1, q2, q3, q4, (Kept.of hB).trans q5⟩
  · have hsmall : d.size = 0 ∨ d.size = 1 := by omega
    have hp : ∀ f, Tryz.prog.funcs.findIdx? (·.name == "internal/reflectlite" ++ ".Swapper$" ++ toString (Lib.swapperK d.size infoE 25)) = some f → Calls Tryz.prog 55 #[.iface 36 (.slice (some ⟨b, 0, none⟩) d.size c), .func (.func g) #[] lb] w (SortPost b d w) := fun f hf =>
      (Any.sort_Slice_tiny Tryz.laysGg6 36 51 infoS infoE (by kernel_rfl) (by kernel_rfl) (by kernel_rfl) (by kernel_rfl) 25 (fun _ => by kernel_rfl) (some ⟨b, 0, none⟩) d.size c (by omega) f hf (.func g) #[] lb w).mono fun e w' ⟨h1, os, h3⟩ => by
        subst h3
        refine ⟨h1, d, rfl, fun x => Iff.rfl, fun p q _ h5 h6 => by omega, holdsK_grow fR 4 w os b 0 d hb hH, ⟨rfl, rfl, rfl, by simp [Sort.grow], fun k hk _ => ?_⟩⟩
        simp only [Sort.grow]
        rw [Array.getElem?_append_left hk]
    rcases hsmall with h | h
    · exact hp 75 (by rw [h]; kernel_rfl)
    · exact hp 76 (by rw [h]; kernel_rfl)
set_option maxHeartbeats 2000000 in
set_option maxRecDepth 100000 in
theorem cless (b bx c n : Nat) (d : Array Rc) (i j : Nat) (w : World) (hx : w.cell? ⟨bx, 0, none⟩ = some (.slice (some ⟨b, 0, none⟩) n c)) (hH : HoldsK fR 4 w b 0 d) (hd : d.size = n) (hi : i < n) (hj : j < n) (hn : n ≤ 12) :
    Calls Tryz.prog 56 #[.int .i64 (i : Int), .int .i64 (j : Int), .pointer (some ⟨bx, 0, none⟩)] w fun e w' => e = .returned (.bool (aheadB d[i]! d[j]!)) ∧ Below w.heap.size w w' := by
  have hc : ∀ k, k < n → w.cell? ⟨b, k * 4, none⟩ = some (.int .i64 d[k]!.a) ∧ w.cell? ⟨b, k * 4 + 1, none⟩ = some (.int .i64 d[k]!.b) ∧ w.cell? ⟨b, k * 4 + 2, none⟩ = some (.int .i64 d[k]!.c) ∧ w.cell? ⟨b, k * 4 + 3, none⟩ = some (.int .i64 d[k]!.d) := fun k hk => by
    have h0 := (hH.cell (i := k) (c := 0) (by omega) (by omega)).1
    have h1 := (hH.cell (i := k) (c := 1) (by omega) (by omega)).1
    have h2 := (hH.cell (i := k) (c := 2) (by omega) (by omega)).1
    have h3 := (hH.cell (i := k) (c := 3) (by omega) (by omega)).1
    rw [Nat.zero_add] at h0 h1 h2 h3
    exact ⟨h0, h1, h2, h3⟩
  obtain ⟨i0, i1, i2, i3⟩ := hc i hi
  obtain ⟨j0, j1, j2, j3⟩ := hc j hj
  have hcall := fun W => cgbefore d[i]! d[j]! W
  generalize d[i]! = x at *
  generalize d[j]! = y at *
  have hi9 : (i : Int) < (n : Int) := by omega
  have hj9 : (j : Int) < (n : Int) := by omega
  clear hc hH hd hi hj
  go_enter Tryz.func56, Tryz.ntmps56
  go_wp2_with fail
  refine region_tail 8 (by kernel_rfl) (by kernel_rfl) ?_
  simp only [List.take_succ_cons, List.take_zero, List.drop_succ_cons, List.drop_zero]
  change w.drew.cell? _ = _ at hx
  change w.drew.cell? _ = _ at i0
  change w.drew.cell? _ = _ at i1
  change w.drew.cell? _ = _ at i2
  change w.drew.cell? _ = _ at i3
  change w.drew.cell? _ = _ at j0
  change w.drew.cell? _ = _ at j1
  change w.drew.cell? _ = _ at j2
  change w.drew.cell? _ = _ at j3
  have HB : Hid (Below w.heap.size w w.drew) := Lib.hid (below_drewN' (Below.refl _ w) 1)
  generalize w.drew = V at *
  iterate 8 still_step
  refine wpStill_nil ?_
  go_wp2_with fail
  refine (hcall V).mono ?_; rintro e w5 ⟨rfl, hb5⟩
  have HB5 := Lib.hid (HB.out.trans (hb5.mono HB.out.size))
  clear hb5 hcall
  go_wp2_with fail
  go_ret
  exact ⟨rfl, HB5.out⟩
end Go.Proofs.YtakamedgdiffbaaGreatDoor.GraphC
namespace Go.Proofs.YtakamedgdiffbaaGreatDoor.GraphC
set_option linter.unusedVariables false
open Go.RowKit Go.Proofs.YtakamedgdiffbaaGreatDoor.NumC Go.Proofs.YtakamedgdiffbaaGreatDoor.RowsC
open Go.Proofs.YtakamedgdiffbaaGreatDoor.RefsC (Rc RAt hitsL RBox Srt nth_some aheadB ahead_iff ahead_total ahead_trans)
open Go.Proofs.YtakamedgdiffbaaGreatDoor.TreeC (Kept eq_rect)
open Go.Sort (SortedIn HoldsK)
structure R4 (w : World) (b n : Nat) (f : Nat → Rc) : Prop where
  c0 : ∀ i, i < n → w.cell? ⟨b, i * 4, none⟩ = some (.int .i64 (f i).a)
  c1 : ∀ i, i < n → w.cell? ⟨b, i * 4 + 1, none⟩ = some (.int .i64 (f i).b)
  c2 : ∀ i, i < n → w.cell? ⟨b, i * 4 + 2, none⟩ = some (.int .i64 (f i).c)
  c3 : ∀ i, i < n → w.cell? ⟨b, i * 4 + 3, none⟩ = some (.int .i64 (f i).d)
  soft : ∀ o, o < n * 4 → w.frozen? ⟨b, o, none⟩ = false
theorem R4.of {w : World} {b : Nat} {d : Array Rc} (h : HoldsK fR 4 w b 0 d) : R4 w b d.size fun i => d[i]! where
  c0 i hi := by have := (h.cell (i := i) (c := 0) hi (by omega)).1; rw [Nat.zero_add] at this; exact this
  c1 i hi := by have := (h.cell (i := i) (c := 1) hi (by omega)).1; rw [Nat.zero_add] at this; exact this
  c2 i hi := by have := (h.cell (i := i) (c := 2) hi (by omega)).1; rw [Nat.zero_add] at this; exact this
  c3 i hi := by have := (h.cell (i := i) (c := 3) hi (by omega)).1; rw [Nat.zero_add] at this; exact this
  soft o ho := by
    have := (h.cell (i := o / 4) (c := o % 4) (by omega) (by omega)).2
    rw [Nat.zero_add, show o / 4 * 4 + o % 4 = o by omega] at this; exact this
theorem R4.block {w w' : World} {b n : Nat} {f : Nat → Rc} (h : R4 w b n f) (e : w'.heap[b]? = w.heap[b]?) : R4 w' b n f where
  c0 i hi := (World.cell?_of_block e).trans (h.c0 i hi)
  c1 i hi := (World.cell?_of_block e).trans (h.c1 i hi)
  c2 i hi := (World.cell?_of_block e).trans (h.c2 i hi)
  c3 i hi := (World.cell?_of_block e).trans (h.c3 i hi)
  soft o ho := (World.frozen?_of_block e).trans (h.soft o ho)
theorem R4.store {w : World} {b n : Nat} {f : Nat → Rc} (h : R4 w b n f) (t : Nat) (ht : t < n) (x : Rc) :
    R4 ((((w.setCell ⟨b, t * 4, none⟩ (.int .i64 x.a)).setCell ⟨b, t * 4 + 1, none⟩ (.int .i64 x.b)).setCell ⟨b, t * 4 + 2, none⟩ (.int .i64 x.c)).setCell ⟨b, t * 4 + 3, none⟩ (.int .i64 x.d)) b n (upd f t x) := by
  have key : ∀ (o : Nat) (v : Value), w.cell? ⟨b, o, none⟩ = some v → ((((w.setCell ⟨b, t * 4, none⟩ (.int .i64 x.a)).setCell ⟨b, t * 4 + 1, none⟩ (.int .i64 x.b)).setCell ⟨b, t * 4 + 2, none⟩ (.int .i64 x.c)).setCell ⟨b, t * 4 + 3, none⟩ (.int .i64 x.d)).cell? ⟨b, o, none⟩ =
      some (if o = t * 4 then .int .i64 x.a else if o = t * 4 + 1 then .int .i64 x.b else if o = t * 4 + 2 then .int .i64 x.c else if o = t * 4 + 3 then .int .i64 x.d else v) := by
    intro o v hv
    have ne : ∀ p, o ≠ p → (⟨b, p, none⟩ : Addr) ≠ ⟨b, o, none⟩ := fun p hp e => hp (by injection e with _ e; exact e.symm)
    have q1 : (w.setCell ⟨b, t * 4, none⟩ (.int .i64 x.a)).cell? ⟨b, o, none⟩ = some (if o = t * 4 then .int .i64 x.a else v) := by
      by_cases e : o = t * 4
      · subst e; rw [if_pos rfl]; exact World.cell?_setCell_same _ _ _ hv
      · rw [if_neg e, World.cell?_setCell_other _ _ _ _ (ne _ e)]; exact hv
    have q2 := q1
    have q3 : ((w.setCell ⟨b, t * 4, none⟩ (.int .i64 x.a)).setCell ⟨b, t * 4 + 1, none⟩ (.int .i64 x.b)).cell? ⟨b, o, none⟩ = some (if o = t * 4 + 1 then .int .i64 x.b else if o = t * 4 then .int .i64 x.a else v) := by
      by_cases e : o = t * 4 + 1
      · subst e; rw [if_pos rfl]; exact World.cell?_setCell_same _ _ _ q1
      · rw [if_neg e, World.cell?_setCell_other _ _ _ _ (ne _ e)]; exact q1
    have q4 : (((w.setCell ⟨b, t * 4, none⟩ (.int .i64 x.a)).setCell ⟨b, t * 4 + 1, none⟩ (.int .i64 x.b)).setCell ⟨b, t * 4 + 2, none⟩ (.int .i64 x.c)).cell? ⟨b, o, none⟩ = some (if o = t * 4 + 2 then .int .i64 x.c else if o = t * 4 + 1 then .int .i64 x.b else if o = t * 4 then .int .i64 x.a else v) := by
      by_cases e : o = t * 4 + 2
      · subst e; rw [if_pos rfl]; exact World.cell?_setCell_same _ _ _ q3
      · rw [if_neg e, World.cell?_setCell_other _ _ _ _ (ne _ e)]; exact q3
    by_cases e : o = t * 4 + 3
    · subst e
      rw [if_neg (by omega), if_neg (by omega), if_neg (by omega), if_pos rfl]
      exact World.cell?_setCell_same _ _ _ q4
    · rw [World.cell?_setCell_other _ _ _ _ (ne _ e), q4]
      by_cases e1 : o = t * 4
      · simp [e1]
      · by_cases e2 : o = t * 4 + 1
        · simp [e2]
        · by_cases e3 : o = t * 4 + 2
          · simp [e3]
          · simp [e1, e2, e3, e]
  refine ⟨fun i hi => ?_, fun i hi => ?_, fun i hi => ?_, fun i hi => ?_, fun o ho => ?_⟩
  · rw [key _ _ (h.c0 i hi)]
    by_cases e : i = t
    · subst e; rw [upd_self]; simp
    · rw [upd_ne _ _ e, if_neg (by omega), if_neg (by omega), if_neg (by omega), if_neg (by omega)]
  · rw [key _ _ (h.c1 i hi)]
    by_cases e : i = t
    · subst e; rw [upd_self]; simp
    · rw [upd_ne _ _ e, if_neg (by omega), if_neg (by omega), if_neg (by omega), if_neg (by omega)]
  · rw [key _ _ (h.c2 i hi)]
    by_cases e : i = t
    · subst e; rw [upd_self]; simp
    · rw [upd_ne _ _ e, if_neg (by omega), if_neg (by omega), if_neg (by omega), if_neg (by omega)]
  · rw [key _ _ (h.c3 i hi)]
    by_cases e : i = t
    · subst e; rw [upd_self]; simp
    · rw [upd_ne _ _ e, if_neg (by omega), if_neg (by omega), if_neg (by omega), if_neg (by omega)]
  · rw [World.frozen?_setCell, World.frozen?_setCell, World.frozen?_setCell, World.frozen?_setCell]; exact h.soft o ho
theorem cell_setCells {b : Nat} : ∀ (l : List Value) (o p : Nat) (w : World), p < o → (w.setCells b o l).cell? ⟨b, p, none⟩ = w.cell? ⟨b, p, none⟩
  | [], _, _, _, _ => rfl
  | v :: l, o, p, w, h => by
    rw [World.setCells, cell_setCells l (o + 1) p _ (by omega), World.cell?_setCell_other _ _ _ _ (fun e => by injection e with _ e; omega)]
theorem clear4 {w : World} {b n : Nat} {f : Nat → Rc} (h : R4 w b n f) (t c : Nat) (ht : t < n) :
    ∃ w', (∀ rt : TypeId, (Builtin.clear_ #[36] rt #[.slice (some ⟨b, t * 4, none⟩) (n - t) c]).run Tryz.prog w = .ok (.tuple #[]) w') ∧ R4 w' b t f ∧ Kept b w w' := by
  have hv : ∀ w, (zeroValue 51).run Tryz.prog w = .ok (.agg #[.int .i64 0, .int .i64 0, .int .i64 0, .int .i64 0]) w := fun w => by kernel_rfl
  have hsome : ∀ o, o < n * 4 → (w.cell? ⟨b, o, none⟩).isSome = true := fun o ho => by
    have hi : o / 4 < n := by omega
    have e : o = o / 4 * 4 + o % 4 := by omega
    have h4 : o % 4 < 4 := Nat.mod_lt _ (by decide)
    rw [e]
    match hm : o % 4, h4 with
    | 0, _ => rw [Nat.add_zero, h.c0 _ hi]; rfl
    | 1, _ => rw [h.c1 _ hi]; rfl
    | 2, _ => rw [h.c2 _ hi]; rfl
    | 3, _ => rw [h.c3 _ hi]; rfl
  have hlen : (Builtin.zeroCells (.agg #[.int .i64 0, .int .i64 0, .int .i64 0, .int .i64 0] : Value).cells (n - t)).toList.length = (n - t) * 4 := by
    simp [Builtin.zeroCells, Value.cells]
  have hone : ∀ v ∈ (Builtin.zeroCells (.agg #[.int .i64 0, .int .i64 0, .int .i64 0, .int .i64 0] : Value).cells (n - t)).toList, v.oneCell' = true := by
    intro v hv
    simp [Builtin.zeroCells, Value.cells] at hv
    obtain ⟨i, -, rfl⟩ := hv
    have h4 : i % 4 < 4 := Nat.mod_lt _ (by decide)
    match i % 4, h4 with
    | 0, _ => rfl
    | 1, _ => rfl
    | 2, _ => rfl
    | 3, _ => rfl
  generalize hz : (Builtin.zeroCells (.agg #[.int .i64 0, .int .i64 0, .int .i64 0, .int .i64 0] : Value).cells (n - t)).toList = Z at hlen hone
  have hst := run_storeCells_cells (P := Tryz.prog) b (t * 4) Z 0 w (fun j hj => by rw [Nat.add_zero]; exact hsome _ (by omega)) (fun j hj => by rw [Nat.add_zero]; exact h.soft _ (by omega)) hone
  simp only [Nat.add_zero] at hst
  obtain ⟨m, hm⟩ : ∃ m, n - t = m + 1 := ⟨n - t - 1, by omega⟩
  refine ⟨w.setCells b (t * 4) Z, ?_, ⟨fun i hi => ?_, fun i hi => ?_, fun i hi => ?_, fun i hi => ?_, fun o ho => ?_⟩, kept_cellsS b Z _ _ _ (Kept.refl b w)⟩
  · intro rt
    rw [hm] at hz ⊢
    simp [Builtin.clear_, run_underlying Tryz.underlying36, hv, hz, hst]
  · rw [cell_setCells Z _ _ w (by omega)]; exact h.c0 i (by omega)
  · rw [cell_setCells Z _ _ w (by omega)]; exact h.c1 i (by omega)
  · rw [cell_setCells Z _ _ w (by omega)]; exact h.c2 i (by omega)
  · rw [cell_setCells Z _ _ w (by omega)]; exact h.c3 i (by omega)
  · have : ∀ (l : List Value) (o p : Nat) (w : World), (w.setCells b o l).frozen? ⟨b, p, none⟩ = w.frozen? ⟨b, p, none⟩ := by
      intro l
      induction l with
      | nil => intros; rfl
      | cons v l ih => intro o p w; rw [World.setCells, ih, World.frozen?_setCell]
    rw [this]; exact h.soft o (by omega)
structure Gath (f : Nat → Rc) (g : Nat → Rc) (t p : Nat) : Prop where
  srt : ∀ i j, i < j → j < t → aheadB (g i) (g j) = true
  mem : ∀ x, (∃ i, i < t ∧ g i = x) ↔ ∃ i, i < p ∧ f i = x
def SrtF (f : Nat → Rc) (n : Nat) : Prop := ∀ i j, i < j → j < n → aheadB (f j) (f i) = false
theorem srt_strict {f : Nat → Rc} {n : Nat} (h : SrtF f n) {i j : Nat} (hij : i < j) (hj : j < n) (hne : f i ≠ f j) : aheadB (f i) (f j) = true := by
  cases e : aheadB (f i) (f j)
  · exact absurd (ahead_total e (h i j hij hj)) hne
  · rfl
theorem pre_start {f : Nat → Rc} {n p : Nat} (h : SrtF f n) (hp : p < n) (hd : ∀ i, i < p → f i ≠ f (i + 1)) : ∀ i j, i < j → j < p + 1 → aheadB (f i) (f j) = true := by
  intro i j hij hj
  induction j with
  | zero => omega
  | succ j ih =>
    have h1 := srt_strict h (i := j) (j := j + 1) (by omega) (by omega) (hd j (by omega))
    by_cases e : i = j
    · rw [e]; exact h1
    · exact ahead_trans (ih (by omega) (by omega)) h1
theorem Gath.same {f g : Nat → Rc} {t p : Nat} (h : Gath f g t p) (hp : 0 < p) (e : f p = f (p - 1)) : Gath f g t (p + 1) where
  srt := h.srt
  mem x := by
    rw [h.mem x]
    constructor
    · rintro ⟨i, hi, e2⟩; exact ⟨i, by omega, e2⟩
    · rintro ⟨i, hi, e2⟩
      by_cases e3 : i = p
      · exact ⟨p - 1, by omega, by rw [← e, ← e3]; exact e2⟩
      · exact ⟨i, by omega, e2⟩
theorem Gath.more {f g : Nat → Rc} {n t p : Nat} (h : Gath f g t p) (hs : SrtF f n) (hp : 0 < p) (hpn : p < n) (e : f p ≠ f (p - 1)) : Gath f (upd g t (f p)) (t + 1) (p + 1) where
  srt i j hij hj := by
    have h1 := srt_strict hs (i := p - 1) (j := p) (by omega) hpn (fun k => e k.symm)
    rw [upd_ne g _ (show i ≠ t by omega)]
    by_cases ej : j = t
    · rw [ej, upd_self]
      obtain ⟨q, hq, e2⟩ := (h.mem (g i)).1 ⟨i, by omega, rfl⟩
      rw [← e2]
      by_cases e3 : f q = f (p - 1)
      · rw [e3]; exact h1
      · have : q < p - 1 := by
          have : q ≠ p - 1 := by rintro rfl; exact e3 rfl
          omega
        exact ahead_trans (srt_strict hs this (by omega) e3) h1
    · rw [upd_ne g _ ej]; exact h.srt i j hij (by omega)
  mem x := by
    constructor
    · rintro ⟨i, hi, e2⟩
      by_cases ei : i = t
      · rw [ei, upd_self] at e2; exact ⟨p, by omega, e2⟩
      · rw [upd_ne g _ ei] at e2
        obtain ⟨q, hq, e3⟩ := (h.mem x).1 ⟨i, by omega, e2⟩
        exact ⟨q, by omega, e3⟩
    · rintro ⟨q, hq, e2⟩
      by_cases eq : q = p
      · exact ⟨t, by omega, by rw [upd_self, ← eq]; exact e2⟩
      · obtain ⟨i, hi, e3⟩ := (h.mem x).2 ⟨q, by omega, e2⟩
        exact ⟨i, by omega, by rw [upd_ne g _ (by omega)]; exact e3⟩
def CompactPost (f : Nat → Rc) (n b c : Nat) (w : World) (e : Ending) (w' : World) : Prop := ∃ (t : Nat) (g : Nat → Rc), e = .returned (.slice (some ⟨b, 0, none⟩) t c) ∧ t ≤ n ∧ Gath f g t n ∧ R4 w' b t g ∧ Kept b w w'
theorem rc_eq (x y : Rc) (W : World) : (binOp .eql 51 (.agg #[.int .i64 x.a, .int .i64 x.b, .int .i64 x.c, .int .i64 x.d]) (.agg #[.int .i64 y.a, .int .i64 y.b, .int .i64 y.c, .int .i64 y.d])).run Tryz.prog W = .ok (.bool (decide (x = y))) W := by
  rw [eq_rect]
  congr 2
  rw [decide_eq_decide]
  obtain ⟨a, b, c, d⟩ := x
  obtain ⟨a', b', c', d'⟩ := y
  simp
theorem rc_ne (x y : Rc) (W : World) : (binOp .neq 51 (.agg #[.int .i64 x.a, .int .i64 x.b, .int .i64 x.c, .int .i64 x.d]) (.agg #[.int .i64 y.a, .int .i64 y.b, .int .i64 y.c, .int .i64 y.d])).run Tryz.prog W = .ok (.bool (!decide (x = y))) W := by
  have h := rc_eq x y W
  rw [run_eql_struct] at h
  rw [run_neq_struct]
  cases hr : (Op.equalIn 10000 51 (.agg #[.int .i64 x.a, .int .i64 x.b, .int .i64 x.c, .int .i64 x.d]) (.agg #[.int .i64 y.a, .int .i64 y.b, .int .i64 y.c, .int .i64 y.d])).run Tryz.prog W with
  | ok v w' =>
    rw [hr] at h
    simp only [Result.andThen, Result.ok.injEq, Value.bool.injEq] at h ⊢
    obtain ⟨h1, h2⟩ := h
    rw [h1]; simp [h2]
  | halt e w' => rw [hr] at h; cases h
set_option maxHeartbeats 4000000 in
set_option maxRecDepth 100000 in
theorem ccompact (f : Nat → Rc) (n b c : Nat) (w : World) (hR : R4 w b n f) (hs : SrtF f n) (hn : n ≤ 12) (hc : n ≤ c) (hb : b < w.heap.size) :
    Calls Tryz.prog 58 #[.slice (some ⟨b, 0, none⟩) n c] w (CompactPost f n b c w) := by
  have HS := Lib.hid hs
  have HR := Lib.hid hR
  clear hs hR
  by_cases h2 : n < 2
  · have hd : (n : Int) < 2 := by omega
    have HF : Hid (CompactPost f n b c w (.returned (.slice (some ⟨b, 0, none⟩) n c)) w) := Lib.hid ⟨n, f, rfl, Nat.le_refl _, ⟨fun i j h1 h2 => by omega, fun x => Iff.rfl⟩, HR.out, Kept.refl _ _⟩
    go_enter Tryz.func58, Tryz.ntmps58
    go_wp2_with fail
    go_ret
    exact HF.out
  have hd : ¬ (n : Int) < 2 := by omega
  go_enter Tryz.func58, Tryz.ntmps58
  go_wp2_with fail
  go_loopw [3] (fun kv wr => ∃ p : Nat, p + 1 ≤ n ∧ kv = .int .i64 ((p : Int) + 1) ∧ Hid ((∀ i, i < p → f i ≠ f (i + 1)) ∧ Below w.heap.size w wr)) (fun kv _ => n - (intOf kv).toNat)
  case atStart => exact ⟨0, by omega, by go_num, Lib.hid ⟨fun i h => by omega, Below.refl _ _⟩⟩
  case round =>
    obtain ⟨p, hp, rfl, HP⟩ := hrel
    obtain ⟨hne, hbw⟩ := HP.out
    have hrw := HR.out.block (hbw.block b hb)
    by_cases hlt : p + 1 < n
    · have hd1 : (p : Int) + 1 < (n : Int) := by omega
      have hd2 : (0 : Int) ≤ (p : Int) + 1 := by omega
      have hd3 : (p : Int) < (n : Int) := by omega
      have hsub : IntKind.i64.wrap (p : Int) = (p : Int) := by rw [IntKind.wrap_i64]; omega
      have hnat : ((p : Int) + 1).toNat = p + 1 := by omega
      have x0 := hrw.c0 (p + 1) hlt
      have x1 := hrw.c1 (p + 1) hlt
      have x2 := hrw.c2 (p + 1) hlt
      have x3 := hrw.c3 (p + 1) hlt
      have y0 := hrw.c0 p (by omega)
      have y1 := hrw.c1 p (by omega)
      have y2 := hrw.c2 p (by omega)
      have y3 := hrw.c3 p (by omega)
      have eR := fun W => rc_eq (f (p + 1)) (f p) W
      have HX := Lib.hid (rfl : f (p + 1) = f (p + 1))
      obtain ⟨X, hX⟩ : ∃ X, X = f (p + 1) := ⟨_, rfl⟩
      obtain ⟨Y, hY⟩ : ∃ Y, Y = f p := ⟨_, rfl⟩
      rw [← hX] at x0 x1 x2 x3 eR
      rw [← hY] at y0 y1 y2 y3 eR
      have HXY := Lib.hid (And.intro hX hY)
      have HNE := Lib.hid hne
      have HB := Lib.hid hbw
      clear hX hY hne hbw HX hrw
      by_cases hxy : X = Y
      · have hdec : decide (X = Y) = true := decide_eq_true hxy
        have HE : Hid (f (p + 1) = f p) := Lib.hid (by rw [← HXY.out.1, ← HXY.out.2]; exact hxy)
        simp only [hdec] at eR
        clear hxy hdec
        go_wp2_with fail
        go_quiet (fail)
        go_wp2_with fail
        have HK0 := Lib.hid (Kept.of (x := b) (below_drewN' HB.out nq))
        have HG0 := Lib.hid (show Gath f f (p + 1) (p + 1 + 0 + 1) from (Gath.mk (fun i j h1 h2 => pre_start HS.out (p := p) (by omega) HNE.out i j h1 h2) (fun x => Iff.rfl)).same (by omega) (by rw [Nat.add_sub_cancel]; exact HE.out))
        have HR0 := Lib.hid (show R4 (wr.drewN nq) b n f from HR.out.block (HB.out.block b hb))
        generalize (wr.drewN nq) = W0 at *
        clear x0 x1 x2 x3 y0 y1 y2 y3 eR HXY HNE HB HP
        have hcast : ((n - (p + 1) : Nat) : Int) = (n : Int) - ((p : Int) + 1) := by omega
        go_loopw [3, 5] (fun tv qv wz => ∃ (t q : Nat) (g : Nat → Rc), q + 1 ≤ n - (p + 1) ∧ p + 1 ≤ t ∧ t ≤ p + 1 + q ∧ tv = .int .i64 (t : Int) ∧ qv = .int .i64 ((q : Int) + 1) ∧ Hid (R4 wz b n g ∧ Kept b w wz ∧ (∀ i, p + 1 + q ≤ i → i < n → g i = f i) ∧ Gath f g t (p + 1 + q + 1))) (fun _ qv _ => n - (intOf qv).toNat)
        case atStart => exact ⟨p + 1, 0, f, by omega, Nat.le_refl _, by omega, by go_num, by go_num, Lib.hid ⟨HR0.out, HK0.out, fun i _ _ => rfl, HG0.out⟩⟩
        case round =>
          obtain ⟨t, q, g, hq, ht1, ht2, rfl, rfl, HT⟩ := hrel
          obtain ⟨hr, hk, hrest, hG⟩ := HT.out
          by_cases hlq : q + 1 < n - (p + 1)
          · have e1 : (q : Int) + 1 < ((n - (p + 1) : Nat) : Int) := by omega
            have e2 : (0 : Int) ≤ (q : Int) + 1 := by omega
            have e3 : (q : Int) < ((n - (p + 1) : Nat) : Int) := by omega
            have hqsub : IntKind.i64.wrap (q : Int) = (q : Int) := by rw [IntKind.wrap_i64]; omega
            have hqnat : ((q : Int) + 1).toNat = q + 1 := by omega
            have g1 : g (p + 1 + (q + 1)) = f (p + 1 + (q + 1)) := hrest _ (by omega) (by omega)
            have g2 : g (p + 1 + q) = f (p + 1 + q) := hrest _ (by omega) (by omega)
            have o1 : (p + 1 + (q + 1)) * 4 = (p + 1) * 4 + (q + 1) * 4 := by omega
            have o2 : (p + 1 + q) * 4 = (p + 1) * 4 + q * 4 := by omega
            have x0 := hr.c0 (p + 1 + (q + 1)) (by omega)
            have x1 := hr.c1 (p + 1 + (q + 1)) (by omega)
            have x2 := hr.c2 (p + 1 + (q + 1)) (by omega)
            have x3 := hr.c3 (p + 1 + (q + 1)) (by omega)
            have y0 := hr.c0 (p + 1 + q) (by omega)
            have y1 := hr.c1 (p + 1 + q) (by omega)
            have y2 := hr.c2 (p + 1 + q) (by omega)
            have y3 := hr.c3 (p + 1 + q) (by omega)
            rw [o1, g1] at x0 x1 x2 x3
            rw [o2, g2] at y0 y1 y2 y3
            have z0 := hr.c0 t (by omega)
            have z1 := hr.c1 t (by omega)
            have z2 := hr.c2 t (by omega)
            have z3 := hr.c3 t (by omega)
            have s0 := hr.soft (t * 4) (by omega)
            have s1 := hr.soft (t * 4 + 1) (by omega)
            have s2 := hr.soft (t * 4 + 2) (by omega)
            have s3 := hr.soft (t * 4 + 3) (by omega)
            have ht9 : (t : Int) < (n : Int) := by omega
            have hs0 := Lib.hid (show f (p + 1 + q + 1) = f (p + 1 + (q + 1)) from rfl)
            have eN := fun W => rc_ne (f (p + 1 + (q + 1))) (f (p + 1 + q)) W
            obtain ⟨X, hX⟩ : ∃ X, X = f (p + 1 + (q + 1)) := ⟨_, rfl⟩
            obtain ⟨Y, hY⟩ : ∃ Y, Y = f (p + 1 + q) := ⟨_, rfl⟩
            rw [← hX] at x0 x1 x2 x3 eN
            rw [← hY] at y0 y1 y2 y3 eN
            have HXY := Lib.hid (And.intro hX hY)
            clear hX hY hr hk hrest hG g1 g2 o1 o2
            by_cases hxy : X = Y
            · have hdec : decide (X = Y) = true := decide_eq_true hxy
              have HE2 : Hid (f (p + 1 + q + 1) = f (p + 1 + q)) := Lib.hid (by rw [hs0.out, ← HXY.out.1, ← HXY.out.2]; exact hxy)
              simp only [hdec] at eN
              clear hxy hdec
              go_wp2_with fail
              go_quiet (fail)
              go_wp2_with fail
              go_roundw
              case rel =>
                obtain ⟨hr, hk, hrest, hG⟩ := HT.out
                exact ⟨t, q + 1, g, by omega, ht1, by omega, rfl, by go_num, Lib.hid ⟨hr.block rfl, hk.drew _, fun i h1 h2 => hrest i (by omega) h2, hG.same (by omega) (by rw [Nat.add_sub_cancel]; exact HE2.out)⟩⟩
              case measure => simp [intOf]; omega
            · have hdec : decide (X = Y) = false := decide_eq_false hxy
              have HE2 : Hid (f (p + 1 + q + 1) ≠ f (p + 1 + q)) := Lib.hid (by rw [hs0.out, ← HXY.out.1, ← HXY.out.2]; exact hxy)
              simp only [hdec] at eN
              clear hxy hdec
              go_wp2_with fail
              go_quiet (fail)
              go_wp2_with fail
              go_roundw
              case rel =>
                obtain ⟨hr, hk, hrest, hG⟩ := HT.out
                refine ⟨t + 1, q + 1, upd g t X, by omega, by omega, by omega, by go_num, by go_num, Lib.hid ⟨(hr.block (w' := wr.drewN nq) rfl).store t (by omega) X, ((((hk.drew nq).setCell _ _).setCell _ _).setCell _ _).setCell _ _, fun i h1 h2 => by rw [upd_ne _ _ (by omega)]; exact hrest i (by omega) h2, ?_⟩⟩
                have := hG.more HS.out (by omega) (by omega) (by rw [Nat.add_sub_cancel]; exact HE2.out)
                rw [hs0.out, ← HXY.out.1] at this
                exact this
              case measure => simp [intOf]; omega
          · have e1 : ¬ (q : Int) + 1 < ((n - (p + 1) : Nat) : Int) := by omega
            have ht9 : (t : Int) ≤ (n : Int) := by omega
            obtain ⟨w6, hrun, hr6, hk6⟩ := clear4 hr t (c - t) (by omega)
            have HF : Hid (CompactPost f n b c w (.returned (.slice (some ⟨b, 0, none⟩) t c)) w6) := Lib.hid ⟨t, g, rfl, by omega, by rw [show n = p + 1 + q + 1 by omega]; exact hG, hr6, hk.trans hk6⟩
            clear hr hk hrest hG hr6 hk6 HT
            go_wp2_with fail
            go_ret
            exact HF.out
      · have hdec : decide (X = Y) = false := decide_eq_false hxy
        have HE : Hid (f p ≠ f (p + 1)) := Lib.hid (by rw [← HXY.out.1, ← HXY.out.2]; exact fun e => hxy e.symm)
        simp only [hdec] at eR
        clear hxy hdec
        go_wp2_with fail
        go_quiet (fail)
        go_wp2_with fail
        go_roundw
        case rel => exact ⟨p + 1, by omega, by go_num, Lib.hid ⟨fun i hi => by
          by_cases e : i = p
          · subst e; exact HE.out
          · exact HNE.out i (by omega), below_drewN' HB.out nq⟩⟩
        case measure => simp [intOf]; omega
    · have hd1 : ¬ (p : Int) + 1 < (n : Int) := by omega
      have HF : Hid (CompactPost f n b c w (.returned (.slice (some ⟨b, 0, none⟩) n c)) wr) := Lib.hid (by
        obtain ⟨hne, hbw⟩ := HP.out
        refine ⟨n, f, rfl, Nat.le_refl _, ⟨fun i j h1 h2 => ?_, fun x => Iff.rfl⟩, HR.out.block (hbw.block b hb), Kept.of hbw⟩
        exact pre_start HS.out (p := p) (by omega) hne i j h1 (by omega))
      clear hne hbw hrw
      go_wp2_with fail
      go_ret
      exact HF.out
end Go.Proofs.YtakamedgdiffbaaGreatDoor.GraphC
namespace Go.Proofs.YtakamedgdiffbaaGreatDoor.GraphC
set_option linter.unusedVariables false
open Go.RowKit Go.Proofs.YtakamedgdiffbaaGreatDoor.NumC Go.Proofs.YtakamedgdiffbaaGreatDoor.RowsC
open Go.Proofs.YtakamedgdiffbaaGreatDoor.RefsC (Rc RAt hitsL RBox Srt nth_some aheadB ahead_iff ahead_total ahead_trans putL putsL)
open Go.Proofs.YtakamedgdiffbaaGreatDoor.TreeC (Kept)
open Go.Sort (SortedIn HoldsK get_flatK)
theorem puts_mem (l : List Rc) : ∀ m x, x ∈ putsL m l ↔ x ∈ m ∨ x ∈ l := by
  induction l with
  | nil => intro m x; simp [putsL]
  | cons y l ih =>
    intro m x
    have : putsL m (y :: l) = putsL (putL m y) l := rfl
    rw [this, ih, RefsC.put_mem, List.mem_cons]
    constructor
    · rintro ((h | h) | h)
      · exact Or.inl h
      · exact Or.inr (Or.inl h)
      · exact Or.inr (Or.inr h)
    · rintro (h | h | h)
      · exact Or.inl (Or.inl h)
      · exact Or.inl (Or.inr h)
      · exact Or.inr h
theorem puts_srt (l : List Rc) : ∀ m, Srt m → Srt (putsL m l) := by
  induction l with
  | nil => intro m h; exact h
  | cons y l ih => intro m h; exact ih _ (RefsC.put_srt h y)
theorem puts_only {l r : List Rc} (h : Srt r) (hm : ∀ x, x ∈ r ↔ x ∈ l) : r = putsL [] l :=
  RefsC.srt_ext h (puts_srt l [] List.Pairwise.nil) fun x => by rw [hm x, puts_mem]; simp
theorem holds_owns {w : World} {B b m c : Nat} {l : List Rc} (h : Owns fR 4 51 w B (.slice (some ⟨b, 0, none⟩) m c) l) : m = l.length ∧ HoldsK fR 4 w b 0 l.toArray := by
  obtain ⟨hm, hr⟩ := h.reads kindR.row
  subst hm
  refine ⟨rfl, fun u hu => ?_⟩
  have hu2 : u < l.length * 4 := by simpa using hu
  have hi : u / 4 < l.length := by omega
  have h4 : u % 4 < 4 := Nat.mod_lt _ (by decide)
  have hge : (Go.Sort.flatK fR 4 l.toArray)[u]! = (fR l.toArray[u / 4]!)[u % 4]! := get_flatK fR 4 l.toArray u (by simpa using hu2)
  have hx : l.toArray[u / 4]! = l[u / 4] := by rw [getElem!_pos l.toArray _ (by simpa using hi)]; simp
  rw [hge, hx]
  refine ⟨?_, World.ownsRow.frozenAt h _⟩
  rcases hr with hr | ⟨g, o, e, -, hr⟩
  · rw [hr] at hi; simp at hi
  · injection e with e
    injection e with e1 e2
    subst e1 e2
    have hj : (fR l[u / 4])[u % 4]? = some (fR l[u / 4])[u % 4]! := by
      have : u % 4 < (fR l[u / 4]).length := h4
      rw [List.getElem?_eq_getElem this, getElem!_pos (fR l[u / 4]) (u % 4) this]
    have hy : l[u / 4]? = some (l[u / 4]) := List.getElem?_eq_some_iff.2 ⟨hi, rfl⟩
    have := hr _ _ hy _ _ hj
    rw [show 0 + u / 4 * 4 + u % 4 = 0 + u by omega] at this
    exact this
theorem owns_some {w : World} {B : Nat} {v : Value} {l : List Rc} (h : Owns fR 4 51 w B v l) (hne : l ≠ []) : ∃ b c, v = .slice (some ⟨b, 0, none⟩) l.length c ∧ l.length ≤ c ∧ B ≤ b ∧ b < w.heap.size := by
  obtain ⟨A, c, rfl, h1, h2, h3⟩ := h.form
  cases A with
  | none => exact absurd (List.length_eq_zero_iff.1 (by have := h2 rfl; omega)) hne
  | some a =>
    obtain ⟨g, rfl⟩ := h3 a rfl
    have := h.lt g rfl
    exact ⟨g, c, rfl, h1, this.1, this.2⟩
theorem rat_r4 {w : World} {b t : Nat} {g : Nat → Rc} (h : R4 w b t g) (hb : b < w.heap.size) : RAt w w.heap.size ((List.range t).map g) (some ⟨b, 0, none⟩) := by
  refine Or.inr ⟨b, 0, rfl, hb, fun i x hx => ?_⟩
  obtain ⟨h1, e1⟩ := List.getElem?_eq_some_iff.1 hx
  have hi : i < t := by simpa using h1
  have e : g i = x := by simpa using e1
  subst e
  rw [Nat.zero_add]
  exact ⟨h.c0 i hi, h.c1 i hi, h.c2 i hi, h.c3 i hi⟩
set_option maxHeartbeats 2000000 in
set_option maxRecDepth 100000 in
theorem cinOrder (l : List Rc) (A : Option Addr) (c : Nat) (w : World) (hne : l ≠ []) (hl : l.length ≤ 12) (hR : RAt w w.heap.size l A) :
    Calls Tryz.prog 28 #[.slice A l.length c] w (ClonePost (putsL [] l) w) := by
  have hb0 : Below w.heap.size w (w.alloc (.cells #[.slice A l.length c] 36)) := (Below.refl _ w).alloc (Nat.le_refl _) _
  have hcall := cclone l A c (w.alloc (.cells #[.slice A l.length c] 36)) (by omega) ((hR.below hb0).mono hb0.size)
  have eg : ∀ args w, (callFunc 56 args).run Tryz.prog w = .ok (.enter 56 args) w := enters_of Tryz.func56 (by kernel_rfl) rfl
  have HB0 := Lib.hid hb0
  have hz : w.heap.size < (w.alloc (.cells #[.slice A l.length c] 36)).heap.size := by simp
  have c0 : (w.alloc (.cells #[.slice A l.length c] 36)).cell? ⟨w.heap.size, 0, none⟩ = some (.slice A l.length c) := by simp [go_sem]
  have f0 : (w.alloc (.cells #[.slice A l.length c] 36)).frozen? ⟨w.heap.size, 0, none⟩ = false := by simp [go_sem]
  have HE := Lib.hid eg
  clear hb0 hR eg
  go_enter Tryz.func28, Tryz.ntmps28
  go_wp2_with fail
  generalize (w.alloc (.cells #[.slice A l.length c] 36)) = W at *
  generalize hbx : w.heap.size = bx at *
  refine hcall.mono ?_; rintro e w1 ⟨v1, rfl, ho1, hb1⟩
  obtain ⟨b, c1, rfl, hc1, hBb, hbw⟩ := owns_some ho1 hne
  have d0 : w1.cell? ⟨bx, 0, none⟩ = some (.slice A l.length c) := (hb1.cell (p := ⟨bx, 0, none⟩) hz).trans c0
  have d1 : w1.frozen? ⟨bx, 0, none⟩ = false := (hb1.frozen (p := ⟨bx, 0, none⟩) hz).trans f0
  have hbbx : b ≠ bx := by omega
  have hK2 : Kept bx w1 (w1.setCell ⟨bx, 0, none⟩ (.slice (some ⟨b, 0, none⟩) l.length c1)) := (Kept.refl bx w1).setCell 0 _
  have h2 := (holds_owns ho1).2
  have hh2 : HoldsK fR 4 (w1.setCell ⟨bx, 0, none⟩ (.slice (some ⟨b, 0, none⟩) l.length c1)) b 0 l.toArray := holds_kept h2 hK2 hbw hbbx
  have hx2 : (w1.setCell ⟨bx, 0, none⟩ (.slice (some ⟨b, 0, none⟩) l.length c1)).cell? ⟨bx, 0, none⟩ = some (.slice (some ⟨b, 0, none⟩) l.length c1) := World.cell?_setCell_same _ _ _ d0
  have hbw2 : b < (w1.setCell ⟨bx, 0, none⟩ (.slice (some ⟨b, 0, none⟩) l.length c1)).heap.size := Nat.lt_of_lt_of_le hbw hK2.size
  have HB2 : Hid (Below bx w (w1.setCell ⟨bx, 0, none⟩ (.slice (some ⟨b, 0, none⟩) l.length c1))) := Lib.hid (by
    have h := HB0.out.trans (hb1.mono (Nat.le_of_lt hz))
    exact ⟨hK2.os.trans h.os, hK2.tape.trans h.tape, hK2.output.trans h.output, Nat.le_trans h.size hK2.size, fun k hk => (hK2.block k (by have := h.size; omega) (by omega)).trans (h.block k hk)⟩)
  clear hcall ho1 hb1 h2 hK2 c0 f0
  go_wp2_with fail
  generalize (w1.setCell ⟨bx, 0, none⟩ (.slice (some ⟨b, 0, none⟩) l.length c1)) = w2 at *
  have hsz : l.toArray.size = l.length := by simp
  have hsort := csortslice 56 #[.pointer (some ⟨bx, 0, none⟩)] b c1 l.toArray w2 HE.out (fun V d i j hk hh hd hi hj => by
    refine cless b bx c1 l.length d i j V (hk.cell (fun e => hbbx e.symm) hx2) hh (by omega) (by omega) (by omega) hl) hh2 hbw2 (by omega)
  rw [hsz] at hsort
  clear hh2 d0 d1
  refine hsort.mono ?_; rintro e w3 ⟨rfl, d', hd', hmem, hsrt, hh3, hk3⟩
  have hx3 := hk3.cell (fun e => hbbx e.symm) hx2
  have hr4 := R4.of hh3
  have hds : d'.size = l.length := by omega
  have hcomp := ccompact (fun i => d'[i]!) l.length b c1 w3 (by rw [← hds]; exact hr4) (fun i j h1 h2 => hsrt i j (Nat.zero_le _) h1 (by rw [hsz]; exact h2)) hl hc1 (Nat.lt_of_lt_of_le hbw2 hk3.size)
  have HB3 : Hid (Below bx w w3) := Lib.hid ⟨hk3.os.trans HB2.out.os, hk3.tape.trans HB2.out.tape, hk3.output.trans HB2.out.output, Nat.le_trans HB2.out.size hk3.size, fun k hk => (hk3.block k (by have := HB2.out.size; omega) (by omega)).trans (HB2.out.block k hk)⟩
  have HM := Lib.hid (show ∀ x, (∃ i, i < l.length ∧ d'[i]! = x) ↔ x ∈ l from fun x => by
    rw [← hds, ← mem_get, hmem x])
  have hbw3 := Nat.lt_of_lt_of_le hbw2 hk3.size
  clear hsort hh3 hk3 hsrt hmem hr4 hx2
  go_wp2_with fail
  refine hcomp.mono ?_; rintro e w4 ⟨t, g, rfl, ht, hG, hr5, hk5⟩
  have hsl : ((List.range t).map g).length = t := by simp
  have hpl : (List.range t).map g = putsL [] l := puts_only (by
    unfold RefsC.Srt
    rw [List.pairwise_map]
    refine List.Pairwise.imp_of_mem ?_ (List.pairwise_lt_range (n := t))
    intro i j hi hj hij
    exact hG.srt i j hij (List.mem_range.1 hj)) (fun x => by
    rw [List.mem_map, ← HM.out x, ← hG.mem x]
    constructor
    · rintro ⟨i, hi, e⟩; exact ⟨i, List.mem_range.1 hi, e⟩
    · rintro ⟨i, hi, e⟩; exact ⟨i, List.mem_range.2 hi, e⟩)
  have hcl := cclone ((List.range t).map g) (some ⟨b, 0, none⟩) c1 w4 (by omega) (rat_r4 hr5 (Nat.lt_of_lt_of_le hbw3 hk5.size))
  rw [hsl, hpl] at hcl
  have HB4 : Hid (Below bx w w4) := Lib.hid ⟨hk5.os.trans HB3.out.os, hk5.tape.trans HB3.out.tape, hk5.output.trans HB3.out.output, Nat.le_trans HB3.out.size hk5.size, fun k hk => (hk5.block k (by have := HB3.out.size; omega) (by omega)).trans (HB3.out.block k hk)⟩
  clear hcomp hG hr5 hk5 hpl hsl
  generalize putsL [] l = E at *
  go_wp2_with fail
  refine hcl.mono ?_; rintro e w5 ⟨v5, rfl, ho5, hb5⟩
  have HF : Hid (ClonePost E w (.returned v5) w5) := Lib.hid ⟨v5, rfl, by rw [hbx]; exact ho5.mono (by have := HB4.out.size; omega), by rw [hbx]; exact HB4.out.trans (hb5.mono (by have := HB4.out.size; omega))⟩
  clear ho5 hb5 hcl
  go_wp2_with fail
  go_ret
  exact HF.out
end Go.Proofs.YtakamedgdiffbaaGreatDoor.GraphC
namespace Go.Proofs.YtakamedgdiffbaaGreatDoor.GraphC
set_option linter.unusedVariables false
open Go.RowKit Go.Proofs.YtakamedgdiffbaaGreatDoor.NumC Go.Proofs.YtakamedgdiffbaaGreatDoor.RowsC
open Go.Proofs.YtakamedgdiffbaaGreatDoor.RefsC (Rc RAt hitsL RBox Srt nth_some putL putsL)
open Go.Proofs.YtakamedgdiffbaaGreatDoor.AddrC (cellB fineB FineP Cell)
open Go.Proofs.YtakamedgdiffbaaGreatDoor.TreeC (Kept)
open Go.ChangeMaps (setBlock)
theorem put_length {bf : Pt → Pt → Bool} (g : Gl) (x : Pt × List Rc) : (putG bf g x).length = g.length + 1 := by
  unfold putG
  rw [List.length_append, List.length_cons, List.length_take, List.length_drop]
  have := ahead_le (bf := bf) g x.1
  omega
theorem less_none {G : Gl} {a : Pt} (h : ∀ x, x ∈ G → x.1 ≠ a) : lessG G a = G := by
  unfold lessG
  rw [List.filter_eq_self]
  intro x hx
  exact decide_eq_true (h x hx)
theorem less_one {G : Gl} {a : Pt} (hs : SrtG bfP G) (h : ∃ x, x ∈ G ∧ x.1 = a) : (lessG G a).length + 1 = G.length := by
  obtain ⟨x, hx, rfl⟩ := h
  induction G with
  | nil => cases hx
  | cons y G ih =>
    obtain ⟨h1, h2⟩ := List.pairwise_cons.1 hs
    unfold lessG
    rcases List.mem_cons.1 hx with e | e
    · subst e
      rw [List.filter_cons_of_neg (by simp)]
      have : lessG G x.1 = G := less_none fun y hy e => by
        have := h1 y hy
        rw [e, goesP.irr] at this; cases this
      unfold lessG at this
      rw [this]; rfl
    · have hne : y.1 ≠ x.1 := fun e2 => by
        have := h1 x e
        rw [e2, goesP.irr] at this; cases this
      rw [List.filter_cons_of_pos (by simpa using hne)]
      have := ih h2 e
      unfold lessG at this
      simp only [List.length_cons]; omega
theorem setBlock_but {w : World} {b : Nat} {Q : Nat → Prop} (o : Obj) (hb : Q b) : But Q w (setBlock w b o) :=
  ⟨rfl, rfl, rfl, by simp [setBlock], fun k _ hq => by
    simp only [setBlock]
    rw [Array.getElem?_setIfInBounds_ne (fun e => by subst e; exact hq hb)]⟩
def SetsPost (G : Gl) (a : Pt) (l : List Rc) (Q : Nat → Prop) (v : Value) (mo : Option Nat) (w : World) (e : Ending) (w' : World) : Prop :=
  e = .returned (.int .i64 (setR G a l).1) ∧ But Q w w' ∧ ∃ Q', GV w' Q' v mo (setR G a l).2 ∧ KTab w' ∧ Grew w w' Q Q'
theorem KTab.but {Q : Nat → Prop} {w w' : World} (h : KTab w) (hb : But Q w w') (hq : ¬ Q 0) : KTab w' := fun j hj => hb.cell hq (h j hj)
theorem gv_drop {w' : World} {Q : Nat → Prop} {b mb : Nat} {G : Gl} {es es' : Array MapEntry} {clock : Nat} {a : Pt} (hp : PtrV w' Q (.pointer (some ⟨b, 0, none⟩)) (some mb)) (hQ : ∀ k, Q k → k < w'.heap.size) (hmb : Q mb) (hg : GoodG G) (hs : SrtG bfP G) (hK : KTab w') (heg : EsG w' Q es G)
    (hm : MpAt w' mb es' clock) (hmem : ∀ e, e ∈ es'.toList ↔ e ∈ es.toList ∧ e.key ≠ ptV a) (hsz : ((∀ e, e ∈ es.toList → e.key ≠ ptV a) ∧ es'.size = es.size) ∨ ((∃ e, e ∈ es.toList ∧ e.key = ptV a) ∧ es'.size + 1 = es.size)) :
    GV w' Q (.pointer (some ⟨b, 0, none⟩)) (some mb) (lessG G a) := by
  refine ⟨hp, ⟨⟨es', Or.inr ⟨mb, clock, rfl, hm⟩, ⟨fun e he => ?_, fun x hx => ?_, ?_⟩⟩, fun k e => by cases e; exact hmb, hQ⟩, ⟨fun x hx => hg.cell x (mem_less.1 hx).1, fun x hx => hg.some_ x (mem_less.1 hx).1, fun x hx => hg.fineE x (mem_less.1 hx).1, fun x hx => hg.srt x (mem_less.1 hx).1⟩, fun _ => hK⟩
  · obtain ⟨h1, h2⟩ := (hmem e).1 he
    obtain ⟨x, hx, hk, hr⟩ := heg.ein e h1
    exact ⟨x, mem_less.2 ⟨hx, fun e2 => h2 (by rw [hk, e2])⟩, hk, hr⟩
  · obtain ⟨h1, h2⟩ := mem_less.1 hx
    obtain ⟨e, he, hk⟩ := heg.eout x h1
    exact ⟨e, (hmem e).2 ⟨he, fun e2 => h2 (pt_inj (hk.symm.trans e2))⟩, hk⟩
  · have h0 := heg.size
    rcases hsz with ⟨h1, h2⟩ | ⟨⟨e, h1, h2⟩, h3⟩
    · rw [less_none fun x hx e2 => by
        obtain ⟨e, he, hk⟩ := heg.eout x hx
        exact h1 e he (by rw [hk, e2])]
      omega
    · obtain ⟨x, hx, hk, -⟩ := heg.ein e h1
      have := less_one (a := a) hs ⟨x, hx, pt_inj (hk.symm.trans h2)⟩
      omega
theorem gv_store {w' : World} {Q Q' : Nat → Prop} {b mb : Nat} {G : Gl} {es es' : Array MapEntry} {clock : Nat} {a : Pt} {E : List Rc} {v : Value} (hp : PtrV w' Q' (.pointer (some ⟨b, 0, none⟩)) (some mb)) (hQ : ∀ k, Q' k → k < w'.heap.size) (hmb : Q' mb) (hQQ : ∀ k, Q k → Q' k) (hg : GoodG G) (hs : SrtG bfP G) (hK : KTab w') (heg : EsG w' Q es G)
    (hm : MpAt w' mb es' clock) (h1 : ∀ e, e ∈ es'.toList → (e ∈ es.toList ∧ e.key ≠ ptV a) ∨ (e.key = ptV a ∧ e.val = v)) (h2 : ∀ e, e ∈ es.toList → e.key ≠ ptV a → e ∈ es'.toList) (h3 : ∃ e, e ∈ es'.toList ∧ e.key = ptV a)
    (hsz : ((∀ e, e ∈ es.toList → e.key ≠ ptV a) ∧ es'.size = es.size + 1) ∨ ((∃ e, e ∈ es.toList ∧ e.key = ptV a) ∧ es'.size = es.size)) (hv : RowV w' Q' E v) (ha : Cell a.r a.c) (hE : E ≠ []) (hf : ∀ r, r ∈ E → fineX r = true) (hE2 : Srt E) :
    GV w' Q' (.pointer (some ⟨b, 0, none⟩)) (some mb) (putG bfP (lessG G a) (a, E)) := by
  have mem : ∀ x, x ∈ putG bfP (lessG G a) (a, E) ↔ x = (a, E) ∨ (x ∈ G ∧ x.1 ≠ a) := fun x => by rw [mem_put, mem_less]
  refine ⟨hp, ⟨⟨es', Or.inr ⟨mb, clock, rfl, hm⟩, ⟨fun e he => ?_, fun x hx => ?_, ?_⟩⟩, fun k e => by cases e; exact hmb, hQ⟩, ⟨fun x hx => ?_, fun x hx => ?_, fun x hx => ?_, fun x hx => ?_⟩, fun _ => hK⟩
  · rcases h1 e he with ⟨q1, q2⟩ | ⟨q1, q2⟩
    · obtain ⟨x, hx, hk, hr⟩ := heg.ein e q1
      exact ⟨x, (mem x).2 (Or.inr ⟨hx, fun e2 => q2 (by rw [hk, e2])⟩), hk, hr.mono hQQ⟩
    · exact ⟨(a, E), (mem _).2 (Or.inl rfl), q1, by rw [q2]; exact hv⟩
  · rcases (mem x).1 hx with e | ⟨q1, q2⟩
    · rw [e]; exact h3
    · obtain ⟨e, he, hk⟩ := heg.eout x q1
      exact ⟨e, h2 e he (fun e2 => q2 (pt_inj (hk.symm.trans e2))), hk⟩
  · rw [put_length]
    have h0 := heg.size
    rcases hsz with ⟨q1, q2⟩ | ⟨⟨e, q1, q2⟩, q3⟩
    · rw [less_none fun x hx e2 => by
        obtain ⟨e, he, hk⟩ := heg.eout x hx
        exact q1 e he (by rw [hk, e2])]
      omega
    · obtain ⟨x, hx, hk, -⟩ := heg.ein e q1
      have := less_one (a := a) hs ⟨x, hx, pt_inj (hk.symm.trans q2)⟩
      omega
  · rcases (mem x).1 hx with e | ⟨q1, q2⟩
    · rw [e]; exact ha
    · exact hg.cell x q1
  · rcases (mem x).1 hx with e | ⟨q1, q2⟩
    · rw [e]; exact hE
    · exact hg.some_ x q1
  · rcases (mem x).1 hx with e | ⟨q1, q2⟩
    · rw [e]; exact hf
    · exact hg.fineE x q1
  · rcases (mem x).1 hx with e | ⟨q1, q2⟩
    · rw [e]; exact hE2
    · exact hg.srt x q1
theorem setR_bad {G : Gl} {a : Pt} {l : List Rc} (h : cellB a.r a.c = false ∨ l.all fineX = false) : setR G a l = (15, G) := by
  unfold setR
  rcases h with h | h
  · rw [if_pos h]
  · by_cases h1 : cellB a.r a.c = false
    · rw [if_pos h1]
    · rw [if_neg h1, if_pos h]
theorem setR_ok {G : Gl} {a : Pt} {l : List Rc} (h1 : cellB a.r a.c = true) (h2 : l.all fineX = true) : setR G a l = if putsL [] l = [] then (0, lessG G a) else if 1000 ≤ (lessG G a).length then (3, G) else (0, putG bfP (lessG G a) (a, putsL [] l)) := by
  unfold setR; rw [if_neg (by rw [h1]; decide), if_neg (by rw [h2]; decide)]
theorem puts_nil {l : List Rc} : putsL [] l = [] ↔ l = [] := by
  constructor
  · intro h
    cases l with
    | nil => rfl
    | cons x l =>
      have := (puts_mem (x :: l) [] x).2 (Or.inr List.mem_cons_self)
      rw [h] at this; cases this
  · rintro rfl; rfl
theorem map_no_cell {w : World} {mb g o : Nat} {es : Array MapEntry} {clock : Nat} {v : Value} (hm : w.heap[mb]? = some (.map es clock)) (hc : w.cell? ⟨g, o, none⟩ = some v) : g ≠ mb := by
  rintro rfl
  unfold World.cell? at hc
  simp only [hm] at hc
  cases hc
theorem RowV.other {w w' : World} {Q : Nat → Prop} {l : List Rc} {v : Value} {mb : Nat} {es : Array MapEntry} {clock : Nat} (h : RowV w Q l v) (hm : w.heap[mb]? = some (.map es clock)) (hs : w.heap.size ≤ w'.heap.size) (hk : ∀ k, k < w.heap.size → k ≠ mb → w'.heap[k]? = w.heap[k]?) : RowV w' Q l v := by
  obtain ⟨A, c, e, hr, hq⟩ := h
  refine ⟨A, c, e, ?_, hq⟩
  rcases hr with hr | ⟨g, o, e2, hg, hr⟩
  · exact Or.inl hr
  · refine Or.inr ⟨g, o, e2, by omega, fun i x hx => ?_⟩
    obtain ⟨c0, c1, c2, c3⟩ := hr i x hx
    have hb := hk g hg (map_no_cell hm c0)
    exact ⟨(World.cell?_of_block hb).trans c0, (World.cell?_of_block hb).trans c1, (World.cell?_of_block hb).trans c2, (World.cell?_of_block hb).trans c3⟩
theorem EsG.other {w w' : World} {Q : Nat → Prop} {es es2 : Array MapEntry} {G : Gl} {mb clock : Nat} (h : EsG w Q es G) (hm : w.heap[mb]? = some (.map es2 clock)) (hs : w.heap.size ≤ w'.heap.size) (hk : ∀ k, k < w.heap.size → k ≠ mb → w'.heap[k]? = w.heap[k]?) : EsG w' Q es G := by
  refine ⟨fun e he => ?_, h.eout, h.size⟩
  obtain ⟨x, h1, h2, h3⟩ := h.ein e he
  exact ⟨x, h1, h2, h3.other hm hs hk⟩
theorem setBlock_size (w : World) (mb : Nat) (o : Obj) : (setBlock w mb o).heap.size = w.heap.size := by simp [setBlock]
theorem setBlock_kept (w : World) (mb : Nat) (o : Obj) : Kept mb w (setBlock w mb o) :=
  ⟨rfl, rfl, rfl, by simp [setBlock], fun k _ hq => by
    simp only [setBlock]
    rw [Array.getElem?_setIfInBounds_ne (fun e => hq e.symm)]⟩
theorem GV.parts {w : World} {Q : Nat → Prop} {b mb : Nat} {G : Gl} (h : GV w Q (.pointer (some ⟨b, 0, none⟩)) (some mb) G) :
    w.heap[b]? = some (.cells #[.map (some mb)] 48 (0, 0)) ∧ Q b ∧ Q mb ∧ b ≠ mb ∧ (∀ k, Q k → k < w.heap.size) ∧ ∃ es clock, MpAt w mb es clock ∧ EsG w Q es G := by
  obtain ⟨⟨es, hes, heg⟩, h3, h4⟩ := h.map
  have hp : w.heap[b]? = some (.cells #[.map (some mb)] 48 (0, 0)) ∧ Q b := by
    rcases h.ptr with ⟨e, -⟩ | ⟨b', e, h1, h2⟩
    · cases e
    · cases e; exact ⟨h1, h2⟩
  rcases hes with ⟨e, -⟩ | ⟨mb', clock, e, hm⟩
  · cases e
  · cases e
    refine ⟨hp.1, hp.2, h3 _ rfl, fun e => ?_, h4, es, clock, hm, heg⟩
    have h5 := hm.at_
    rw [← e, hp.1] at h5; cases h5
set_option maxHeartbeats 4000000 in
set_option maxRecDepth 100000 in
theorem cSet {Q : Nat → Prop} {b mb : Nat} {G : Gl} (a : Pt) (l : List Rc) (A : Option Addr) (c : Nat) (w : World) (h : GV w Q (.pointer (some ⟨b, 0, none⟩)) (some mb) G) (hK : KTab w) (hnq : ¬ Q 0) (hbd : Bnd G) (hs : SrtG bfP G) (hl : l.length ≤ 12) (hR : RAt w w.heap.size l A) :
    Calls Tryz.prog 7 #[.pointer (some ⟨b, 0, none⟩), .agg #[.int .i64 a.r, .int .i64 a.c], .slice A l.length c] w (SetsPost G a l Q (.pointer (some ⟨b, 0, none⟩)) (some mb) w) := by
  have hb0 : Below w.heap.size w (w.alloc (.cells #[.int .i64 a.r, .int .i64 a.c] 35)) := (Below.refl _ w).alloc (Nat.le_refl _) _
  have hbx := Boxed.new (f := fP) (ty := 35) w a
  change Boxed fP 35 (w.alloc (.cells #[.int .i64 a.r, .int .i64 a.c] 35)) w.heap.size a at hbx
  have hV1 := h.below hb0
  have hK1 := hK.below hb0
  have hR1 := (hR.below hb0).mono hb0.size
  have hz : w.heap.size < (w.alloc (.cells #[.int .i64 a.r, .int .i64 a.c] 35)).heap.size := by simp
  have HB0 := Lib.hid hb0
  have HS := Lib.hid hs
  have HBD := Lib.hid hbd
  have HG := Lib.hid h.good
  clear h hK hR hs hbd hb0
  go_enter Tryz.func7, Tryz.ntmps7
  go_wp2_with fail
  generalize (w.alloc (.cells #[.int .i64 a.r, .int .i64 a.c] 35)) = W at *
  generalize hbxn : w.heap.size = bx at *
  refine (AddrC.good _ _ W).mono ?_; rintro e w1 ⟨rfl, hb1⟩
  have HBx := Lib.hid (hbx.below hb1 hz)
  have HV := Lib.hid (hV1.below hb1)
  have HK := Lib.hid (hK1.below hb1)
  have HR := Lib.hid ((hR1.below hb1).mono hb1.size)
  have HB1 : Hid (Below bx w w1) := Lib.hid (HB0.out.trans (hb1.mono (Nat.le_of_lt hz)))
  clear hbx hV1 hK1 hR1 hb1 HB0 hz
  cases hcell : cellB a.r a.c
  · have HF : Hid (SetsPost G a l Q (.pointer (some ⟨b, 0, none⟩)) (some mb) w (.returned (.int .i64 15)) w1) := Lib.hid (by
      unfold SetsPost
      rw [setR_bad (Or.inl hcell)]
      exact ⟨rfl, But.of (by rw [hbxn]; exact HB1.out), Q, HV.out, HK.out, fun k hk => Or.inl hk⟩)
    clear hcell
    go_wp2_with fail
    go_ret
    exact HF.out
  have HCell := Lib.hid hcell
  have hcall := callfine l A c w1 (by omega) HR.out
  clear hcell
  go_wp2_with fail
  refine hcall.mono ?_; rintro e w2 ⟨rfl, hb2⟩
  have HBx2 := Lib.hid (HBx.out.below hb2 HBx.out.lt)
  have HV2 := Lib.hid (HV.out.below hb2)
  have HK2 := Lib.hid (HK.out.below hb2)
  have HR2 := Lib.hid ((HR.out.below hb2).mono hb2.size)
  have HB2 : Hid (Below bx w w2) := Lib.hid (HB1.out.trans (hb2.mono (by have := HB1.out.size; omega)))
  clear hcall hb2 HBx HV HK HR HB1
  cases hall : l.all fineX
  · have HF : Hid (SetsPost G a l Q (.pointer (some ⟨b, 0, none⟩)) (some mb) w (.returned (.int .i64 15)) w2) := Lib.hid (by
      unfold SetsPost
      rw [setR_bad (Or.inr hall)]
      exact ⟨rfl, But.of (by rw [hbxn]; exact HB2.out), Q, HV2.out, HK2.out, fun k hk => Or.inl hk⟩)
    clear hall
    go_wp2_with fail
    go_ret
    exact HF.out
  have HAll := Lib.hid hall
  have HSR := Lib.hid (setR_ok (G := G) HCell.out hall)
  obtain ⟨p1, p2, p3, p4, p5, es, clock, hm, heg⟩ := HV2.out.parts
  have c0 : w2.cell? ⟨b, 0, none⟩ = some (.map (some mb)) := by simp [World.cell?, p1]
  have d0 := HBx2.out.cells 0 _ rfl
  have d1 := HBx2.out.cells 1 _ rfl
  have HP := Lib.hid (And.intro p1 (And.intro p2 (And.intro p3 (And.intro p4 p5))))
  have HM := Lib.hid hm
  have HE := Lib.hid heg
  have hButW : ∀ W, But Q w2 W → But Q w W := fun W h => (But.of (by rw [hbxn]; exact HB2.out)).trans h (fun k _ h => h)
  have HBW := Lib.hid hButW
  clear hall hm heg p1 p2 p3 p4 p5 hButW
  by_cases hl0 : l = []
  · subst hl0
    obtain ⟨es', hrun, hm', hmem, hsz⟩ := (HM.out.block (w' := w2.drew) rfl).drop a 0
    have HF : Hid (SetsPost G a [] Q (.pointer (some ⟨b, 0, none⟩)) (some mb) w (.returned (.int .i64 0)) (setBlock w2.drew mb (.map es' clock))) := Lib.hid (by
      unfold SetsPost
      rw [HSR.out, if_pos (puts_nil.2 rfl)]
      obtain ⟨p1, p2, p3, p4, p5⟩ := HP.out
      have hk := setBlock_kept w2.drew mb (.map es' clock)
      have hsz2 : (setBlock w2.drew mb (.map es' clock)).heap.size = w2.heap.size := setBlock_size _ _ _
      have hK3 : KTab (setBlock w2.drew mb (.map es' clock)) := KTab.but (w := w2.drew) HK2.out (setBlock_but _ p3) hnq
      refine ⟨rfl, HBW.out _ ((But.of (below_drewN' (Below.refl _ w2) 1)).trans (setBlock_but (w := w2.drew) (.map es' clock) p3) (fun k _ h => h)), Q, ?_, hK3, fun k hk => Or.inl hk⟩
      exact gv_drop (Or.inr ⟨b, rfl, (hk.block b (p5 b p2) p4).trans p1, p2⟩) (fun k hq => by rw [hsz2]; exact p5 k hq) p3 HG.out HS.out hK3 (HE.out.other (w' := setBlock w2.drew mb (.map es' clock)) HM.out.at_ (by rw [hsz2]; exact Nat.le_refl _) (fun k h1 h2 => hk.block k h1 h2)) hm' hmem hsz)
    clear hmem hsz hm'
    unfold ptV at hrun
    go_wp2_with fail
    refine region_tail 5 (by kernel_rfl) (by kernel_rfl) ?_
    simp only [List.take_succ_cons, List.take_zero, List.drop_succ_cons, List.drop_zero]
    change w2.drew.cell? _ = _ at c0
    change w2.drew.cell? _ = _ at d0
    change w2.drew.cell? _ = _ at d1
    generalize w2.drew = V at *
    iterate 5 still_step
    refine wpStill_nil ?_
    go_wp2_with fail
    go_ret
    exact HF.out
  · have hlne : ¬ (l.length : Int) = 0 := by
      intro e
      exact hl0 (List.length_eq_zero_iff.1 (by omega))
    have hlb : ((l.length : Int) == 0) = false := by simpa using hl0
    have hpn : ¬ putsL [] l = [] := fun e => hl0 (puts_nil.1 e)
    have HSR2 : Hid (setR G a l = if 1000 ≤ (lessG G a).length then (3, G) else (0, putG bfP (lessG G a) (a, putsL [] l))) := Lib.hid (by rw [HSR.out, if_neg hpn])
    have HPN := Lib.hid hpn
    have HL0 := Lib.hid hl0
    have HMem := Lib.hid (show ∀ r, r ∈ putsL [] l → fineX r = true from fun r hr => by
      have := (puts_mem l [] r).1 hr
      rcases this with h | h
      · cases h
      · exact (List.all_eq_true.1 HAll.out) r h)
    clear hpn hl0 HSR
    -- what the store does, in whatever world it comes
    have key : ∀ W, Below w2.heap.size w2 W → ¬ 1000 ≤ (lessG G a).length → ∀ w5 v5, Below W.heap.size W w5 → Owns fR 4 51 w5 W.heap.size v5 (putsL [] l) →
        ∃ w6, (Instr.mapUpdate TM (.map (some mb)) (.agg #[.int .i64 a.r, .int .i64 a.c]) v5).run Tryz.prog w5 = .ok () w6 ∧ SetsPost G a l Q (.pointer (some ⟨b, 0, none⟩)) (some mb) w (.returned (.int .i64 0)) w6 ∧ Kept mb w5 w6 := by
      intro W hW hless w5 v5 hb5 ho5
      obtain ⟨p1, p2, p3, p4, p5⟩ := HP.out
      have hW5 : Below w2.heap.size w2 w5 := hW.trans (hb5.mono hW.size)
      have hm5 := HM.out.block (hW5.block mb (p5 mb p3))
      obtain ⟨es', clock', hrun, hm', q1, q2, q3, q4⟩ := hm5.store a v5
      refine ⟨_, hrun, ?_, setBlock_kept w5 mb (.map es' clock')⟩
      unfold SetsPost
      rw [HSR2.out, if_neg hless]
      have hk := setBlock_kept w5 mb (.map es' clock')
      have hsz2 : (setBlock w5 mb (.map es' clock')).heap.size = w5.heap.size := setBlock_size _ _ _
      have hK3 : KTab (setBlock w5 mb (.map es' clock')) := KTab.but (w := w5) (HK2.out.below hW5) (setBlock_but _ p3) hnq
      obtain ⟨b5, c5, rfl, hc5, hB5, hlt5⟩ := owns_some ho5 HPN.out
      have hr5 := reads_rat (ho5.reads kindR.row).2
      have hwW := hW.size
      refine ⟨rfl, HBW.out _ ((But.of hW5).trans (setBlock_but (w := w5) (.map es' clock') p3) (fun k _ h => h)), fun k => Q k ∨ k = b5, ?_, hK3, fun k hk => ?_⟩
      · refine gv_store (Q := Q) (Or.inr ⟨b, rfl, ((hk.block b (by have := p5 b p2; have := hW5.size; omega) p4).trans (hW5.block b (p5 b p2))).trans p1, Or.inl p2⟩) (fun k hq => ?_) (Or.inl p3) (fun k h => Or.inl h) HG.out HS.out hK3
          ((HE.out.keep hW5.size (fun k hq hlt => hW5.block k hlt)).other hm5.at_ (by rw [hsz2]; exact Nat.le_refl _) (fun k h1 h2 => hk.block k h1 h2)) hm' q1 q2 q3 q4 ?_ (of_decide_eq_true HCell.out) HPN.out HMem.out (puts_srt l [] List.Pairwise.nil)
        · rw [hsz2]
          rcases hq with h | h
          · have := p5 k h; have := hW5.size; omega
          · omega
        · exact RowV.other (w := w5) ⟨_, c5, rfl, hr5, fun _ x hx => by cases hx; exact Or.inr rfl⟩ hm5.at_ (by rw [hsz2]; exact Nat.le_refl _) (fun k h1 h2 => hk.block k h1 h2)
      · rcases hk with h | h
        · exact Or.inl h
        · right
          have := HB2.out.size
          rw [hsz2]; omega
    have KEY := Lib.hid key
    have HNB := Lib.hid (map_no_cell HM.out.at_ d0)
    clear key
    rcases (HM.out.block (w' := w2.drewN 0) rfl).look true a with ⟨-, hno⟩ | ⟨e0, he0, hk0, -⟩
    · have hlk : ∀ n, (Instr.lookup TM (.map (some mb)) (.agg #[.int .i64 a.r, .int .i64 a.c]) true).run Tryz.prog (w2.drewN n) = .ok (.tuple #[.slice none 0 0, .bool false]) (w2.drewN n) := fun n => by
        rcases (HM.out.block (w' := w2.drewN n) rfl).look true a with ⟨h1, -⟩ | ⟨e, h1, h2, -⟩
        · exact h1
        · exact absurd h2 (hno e h1)
      have hlen : ∀ W : World, W.heap[mb]? = w2.heap[mb]? → ∀ ty, (Builtin.len_ #[TM] ty #[.map (some mb)]).run Tryz.prog W = .ok (.int .i64 (es.size : Int)) W := fun W hW ty => by
        simp [Builtin.len_, run_underlying hTM, MapKept.run_getObj_map (hW.trans HM.out.at_), Result.andThen, goInt]
      have HSz := Lib.hid (show (lessG G a).length = es.size by
        rw [less_none fun x hx e2 => by
          obtain ⟨e, he, hk⟩ := HE.out.eout x hx
          exact hno e he (by rw [hk, e2])]
        exact HE.out.size.symm)
      have HNO := Lib.hid hno
      clear hno
      by_cases hmany : 1000 ≤ es.size
      · have hge : (1000 : Int) ≤ (es.size : Int) := by omega
        have HF : Hid (∀ n, SetsPost G a l Q (.pointer (some ⟨b, 0, none⟩)) (some mb) w (.returned (.int .i64 3)) (w2.drewN n)) := Lib.hid fun n => by
          have hbn : Below w2.heap.size w2 (w2.drewN n) := below_drewN' (Below.refl _ _) n
          unfold SetsPost
          rw [HSR2.out, if_pos (by rw [HSz.out]; exact hmany)]
          exact ⟨rfl, HBW.out _ (But.of hbn), Q, HV2.out.below hbn, HK2.out.below hbn, fun k hk => Or.inl hk⟩
        go_wp2_with fail
        go_quiet (fail)
        have hlen2 := fun ty => hlen (w2.drewN nq) rfl ty
        go_wp2_with fail
        go_ret
        exact HF.out nq
      · have hge : ¬ (1000 : Int) ≤ (es.size : Int) := by omega
        have HLess : Hid (¬ 1000 ≤ (lessG G a).length) := Lib.hid (by rw [HSz.out]; exact hmany)
        go_wp2_with fail
        go_quiet (fail)
        have hlen2 := fun ty => hlen (w2.drewN nq) rfl ty
        go_wp2_with fail
        have HW := Lib.hid (show Below w2.heap.size w2 (w2.drewN nq).drew from below_drewN' (below_drewN' (Below.refl _ w2) nq) 1)
        have hin := cinOrder l A c (w2.drewN nq).drew HL0.out hl HR2.out
        have HIN := Lib.hid hin
        have HC0 := Lib.hid (And.intro c0 (And.intro d0 d1))
        have k0 : (w2.drewN nq).drew.cell? ⟨b, 0, none⟩ = some (.map (some mb)) := c0
        have k1 : (w2.drewN nq).drew.cell? ⟨bx, 0, none⟩ = some (.int .i64 a.r) := d0
        have k2 : (w2.drewN nq).drew.cell? ⟨bx, 1, none⟩ = some (.int .i64 a.c) := d1
        clear hin hlk
        generalize (w2.drewN nq) = V at *
        go_region_held3 (fun Z => Z.cell? ⟨b, 0, none⟩ = some (.map (some mb)) ∧ Z.cell? ⟨bx, 0, none⟩ = some (.int .i64 a.r) ∧ Z.cell? ⟨bx, 1, none⟩ = some (.int .i64 a.c)) (first | exact ⟨by assumption, by assumption, by assumption⟩)
          (first
            | (go_at_call 28
               refine HIN.out.mono ?_
               rintro e w5 ⟨v5, rfl, ho5, hb5⟩
               have W5 : Below w2.heap.size w2 w5 := HW.out.trans (hb5.mono HW.out.size)
               have e0 : w5.cell? ⟨b, 0, none⟩ = some (.map (some mb)) := (W5.cell (p := ⟨b, 0, none⟩) (HP.out.2.2.2.2 b HP.out.2.1)).trans HC0.out.1
               have e1 : w5.cell? ⟨bx, 0, none⟩ = some (.int .i64 a.r) := (W5.cell (p := ⟨bx, 0, none⟩) HBx2.out.lt).trans HC0.out.2.1
               have e2 : w5.cell? ⟨bx, 1, none⟩ = some (.int .i64 a.c) := (W5.cell (p := ⟨bx, 1, none⟩) HBx2.out.lt).trans HC0.out.2.2
               obtain ⟨w6, hrun, hpost, hk6⟩ := KEY.out V.drew HW.out HLess.out w5 v5 hb5 ho5
               have m0 : w6.cell? ⟨b, 0, none⟩ = some (.map (some mb)) := hk6.cell HP.out.2.2.2.1 e0
               have m1 : w6.cell? ⟨bx, 0, none⟩ = some (.int .i64 a.r) := hk6.cell HNB.out e1
               have m2 : w6.cell? ⟨bx, 1, none⟩ = some (.int .i64 a.c) := hk6.cell HNB.out e2
               have HF := Lib.hid hpost
               clear ho5 hb5 hpost W5 hk6))
        go_wp2_with fail
        go_ret
        exact HF.out
    · have hlk : ∀ n, (Instr.lookup TM (.map (some mb)) (.agg #[.int .i64 a.r, .int .i64 a.c]) true).run Tryz.prog (w2.drewN n) = .ok (.tuple #[e0.val, .bool true]) (w2.drewN n) := fun n => by
        have hm := HM.out.block (w' := w2.drewN n) rfl
        rcases hm.look true a with ⟨-, h2⟩ | ⟨e, h1, h2, h3⟩
        · exact absurd hk0 (h2 e0 he0)
        · rw [hm.only h1 he0 (h2.trans hk0.symm)] at h3
          exact h3
      have HLess : Hid (¬ 1000 ≤ (lessG G a).length) := Lib.hid (by
        obtain ⟨x, hx, hk, -⟩ := HE.out.ein e0 he0
        have h1 := less_one (a := a) HS.out ⟨x, hx, pt_inj (hk.symm.trans hk0)⟩
        have h2 := HBD.out.1
        omega)
      clear he0 hk0
      generalize e0.val = ev at *
      go_wp2_with fail
      go_quiet (fail)
      go_wp2_with fail
      have HW := Lib.hid (show Below w2.heap.size w2 (w2.drewN nq).drew from below_drewN' (below_drewN' (Below.refl _ w2) nq) 1)
      have hin := cinOrder l A c (w2.drewN nq).drew HL0.out hl HR2.out
      have HIN := Lib.hid hin
      have HC0 := Lib.hid (And.intro c0 (And.intro d0 d1))
      have k0 : (w2.drewN nq).drew.cell? ⟨b, 0, none⟩ = some (.map (some mb)) := c0
      have k1 : (w2.drewN nq).drew.cell? ⟨bx, 0, none⟩ = some (.int .i64 a.r) := d0
      have k2 : (w2.drewN nq).drew.cell? ⟨bx, 1, none⟩ = some (.int .i64 a.c) := d1
      clear hin hlk
      generalize (w2.drewN nq) = V at *
      go_region_held3 (fun Z => Z.cell? ⟨b, 0, none⟩ = some (.map (some mb)) ∧ Z.cell? ⟨bx, 0, none⟩ = some (.int .i64 a.r) ∧ Z.cell? ⟨bx, 1, none⟩ = some (.int .i64 a.c)) (first | exact ⟨by assumption, by assumption, by assumption⟩)
        (first
          | (go_at_call 28
             refine HIN.out.mono ?_
             rintro e w5 ⟨v5, rfl, ho5, hb5⟩
             have W5 : Below w2.heap.size w2 w5 := HW.out.trans (hb5.mono HW.out.size)
             have e0 : w5.cell? ⟨b, 0, none⟩ = some (.map (some mb)) := (W5.cell (p := ⟨b, 0, none⟩) (HP.out.2.2.2.2 b HP.out.2.1)).trans HC0.out.1
             have e1 : w5.cell? ⟨bx, 0, none⟩ = some (.int .i64 a.r) := (W5.cell (p := ⟨bx, 0, none⟩) HBx2.out.lt).trans HC0.out.2.1
             have e2 : w5.cell? ⟨bx, 1, none⟩ = some (.int .i64 a.c) := (W5.cell (p := ⟨bx, 1, none⟩) HBx2.out.lt).trans HC0.out.2.2
             obtain ⟨w6, hrun, hpost, hk6⟩ := KEY.out V.drew HW.out HLess.out w5 v5 hb5 ho5
             have m0 : w6.cell? ⟨b, 0, none⟩ = some (.map (some mb)) := hk6.cell HP.out.2.2.2.1 e0
             have m1 : w6.cell? ⟨bx, 0, none⟩ = some (.int .i64 a.r) := hk6.cell HNB.out e1
             have m2 : w6.cell? ⟨bx, 1, none⟩ = some (.int .i64 a.c) := hk6.cell HNB.out e2
             have HF := Lib.hid hpost
             clear ho5 hb5 hpost W5 hk6))
      go_wp2_with fail
      go_ret
      exact HF.out
end Go.Proofs.YtakamedgdiffbaaGreatDoor.GraphC
namespace Go.Proofs.YtakamedgdiffbaaGreatDoor.GraphC
set_option linter.unusedVariables false
open Go.RowKit Go.Proofs.YtakamedgdiffbaaGreatDoor.NumC Go.Proofs.YtakamedgdiffbaaGreatDoor.RowsC
open Go.Proofs.YtakamedgdiffbaaGreatDoor.RefsC (Rc RAt hitsL RBox Srt)
open Go.Proofs.YtakamedgdiffbaaGreatDoor.TreeC (Kept)
def ptOf (G : Gl) (i : Nat) : Pt := ((cellsL G)[i]?).getD ⟨0, 0⟩
theorem pt_of {G : Gl} {i : Nat} {x : Pt × List Rc} (h : G[i]? = some x) : ptOf G i = x.1 := by unfold ptOf; rw [cells_at h]; rfl
def ptsL (G : Gl) (T : List Nat) : List Pt := T.map (ptOf G)
def todoP (q : Nat → Bool) (j : Nat) : List Nat := (List.range j).filter q
theorem todo_next (q : Nat → Bool) (j : Nat) : todoP q (j + 1) = todoP q j ++ (if q j then [j] else []) := by
  unfold todoP
  rw [List.range_succ, List.filter_append]
  congr 1
  cases h : q j <;> simp [h]
theorem todoP_len (q : Nat → Bool) (j : Nat) : (todoP q j).length ≤ j := by
  have := List.length_filter_le q (List.range j)
  simpa [todoP] using this
theorem mem_todoP {q : Nat → Bool} {j i : Nat} : i ∈ todoP q j ↔ i < j ∧ q i = true := by unfold todoP; rw [List.mem_filter, List.mem_range]
theorem todo_those (G : Gl) (q : Nat → Bool) (j : Nat) (hj : j ≤ G.length) : ptsL G (todoP q j) = thoseL (cellsL G) q j := by
  induction j with
  | zero => rfl
  | succ j ih =>
    obtain ⟨x, hx⟩ := at_of_lt (G := G) (i := j) (by omega)
    rw [todo_next, those_next q (cells_at hx)]
    unfold ptsL at ih ⊢
    rw [List.map_append, ih (by omega)]
    congr 1
    cases q j
    · rfl
    · show [ptOf G j] = [x.1]
      rw [pt_of hx]
noncomputable def qO (G : Gl) (l : List Pt) (i : Nat) : Bool := l.contains (ptOf G i) && !pB (Dpn (refsP G) i i)
theorem todo_cells {G : Gl} (nd : (cellsL G).Nodup) (l : List Pt) : ptsL G (todoP (qO G l) G.length) = todoL hitP G l := by
  rw [todo_those G _ _ (Nat.le_refl _), those_filter G _ (fun x => l.contains x.1 && !(loopsL hitP G).contains x.1) (fun i x hx => by
    unfold qO
    rw [pt_of hx]
    congr 2
    rw [Bool.eq_iff_iff, pB_iff, List.contains_iff_mem, mem_loops, dpn_on nd hx hx])]
  unfold todoL cellsL
  rw [List.filter_map]
  rfl
theorem pts_at {G : Gl} {T : List Nat} {i a : Nat} (h : T[i]? = some a) : (ptsL G T)[i]? = some (ptOf G a) := by unfold ptsL; rw [List.getElem?_map, h]; rfl
theorem erase_nth {α : Type} [DecidableEq α] (L : List α) (nd : L.Nodup) (i : Nat) (a : α) (h : L[i]? = some a) : L.erase a = L.take i ++ L.drop (i + 1) := by
  induction L generalizing i with
  | nil => cases h
  | cons x L ih =>
    cases i with
    | zero =>
      simp only [List.getElem?_cons_zero, Option.some.injEq] at h
      subst h
      simp
    | succ i =>
      simp only [List.getElem?_cons_succ] at h
      have hm := List.mem_of_getElem? h
      rw [List.nodup_cons] at nd
      have hne : x ≠ a := fun e => nd.1 (e ▸ hm)
      rw [List.erase_cons_tail (by simpa using hne), ih nd.2 i h]
      rfl
theorem find_nth {α : Type} (p : α → Bool) (L : List α) (i : Nat) (a : α) (h : L[i]? = some a) (hp : p a = true) (hb : ∀ (k : Nat) (b : α), k < i → L[k]? = some b → p b = false) : L.find? p = some a := by
  induction L generalizing i with
  | nil => cases h
  | cons x L ih =>
    cases i with
    | zero =>
      simp only [List.getElem?_cons_zero, Option.some.injEq] at h
      subst h
      rw [List.find?_cons_of_pos hp]
    | succ i =>
      rw [List.find?_cons_of_neg (by rw [hb 0 x (Nat.succ_pos _) rfl]; decide)]
      exact ih i (by simpa using h) (fun k b hk h => hb (k + 1) b (by omega) (by simpa using h))
theorem find_no {α : Type} (p : α → Bool) (L : List α) (hb : ∀ (k : Nat) (b : α), L[k]? = some b → p b = false) : L.find? p = none := by
  rw [List.find?_eq_none]
  intro x hx
  obtain ⟨k, hk⟩ := List.getElem?_of_mem hx
  rw [hb k x hk]; decide
structure TI (G : Gl) (l : List Pt) (m : Nat) (T : List Nat) (O : List Pt) : Prop where
  nd : (ptsL G T).Nodup
  lt : ∀ i, i ∈ T → i < G.length ∧ ¬ Dpn (refsP G) i i
  oz : O.length + T.length ≤ G.length
  eq : O ++ orderF (behindB hitP G) m (ptsL G T) = orderL hitP G l
def Waits (G : Gl) (T : List Nat) (a : Nat) : Prop := ∃ j, j ∈ T ∧ Dpn (refsP G) a j
theorem waits_iff {G : Gl} (nd : (cellsL G).Nodup) {l : List Pt} {m : Nat} {T : List Nat} {O : List Pt} (h : TI G l m T O) {a : Nat} (ha : a ∈ T) : behindB hitP G (ptOf G a) (ptsL G T) = true ↔ Waits G T a := by
  obtain ⟨ha1, ha2⟩ := h.lt a ha
  obtain ⟨x, hx⟩ := at_of_lt ha1
  rw [behind_iff, pt_of hx]
  constructor
  · rintro ⟨b, hb, hne, hon⟩
    obtain ⟨j, hj, e⟩ := List.mem_map.1 hb
    obtain ⟨y, hy⟩ := at_of_lt (h.lt j hj).1
    rw [pt_of hy] at e
    subst e
    exact ⟨j, hj, (dpn_on nd hx hy).2 hon⟩
  · rintro ⟨j, hj, hd⟩
    obtain ⟨y, hy⟩ := at_of_lt (h.lt j hj).1
    refine ⟨y.1, List.mem_map.2 ⟨j, hj, pt_of hy⟩, fun e => ?_, (dpn_on nd hx hy).1 hd⟩
    have := one_cell nd hy hx e
    subst this
    exact ha2 hd
theorem TI.start {G : Gl} (nd : (cellsL G).Nodup) (l : List Pt) : TI G l (todoP (qO G l) G.length).length (todoP (qO G l) G.length) [] where
  nd := by rw [todo_cells nd]; exact todo_nodup nd l
  lt i hi := by
    obtain ⟨h1, h2⟩ := mem_todoP.1 hi
    refine ⟨h1, fun h => ?_⟩
    unfold qO at h2
    rw [Bool.and_eq_true, Bool.not_eq_true', pB_iff.2 h] at h2
    cases h2.2
  oz := by rw [List.length_nil, Nat.zero_add]; exact todoP_len _ _
  eq := by
    rw [List.nil_append, todo_cells nd]
    unfold orderL
    rw [← todo_cells nd l]
    unfold ptsL
    rw [List.length_map]
theorem TI.found {G : Gl} (nd : (cellsL G).Nodup) {l : List Pt} {m : Nat} {T : List Nat} {O : List Pt} (h : TI G l (m + 1) T O) {i a : Nat} (hi : T[i]? = some a) (hno : ¬ Waits G T a) (hb : ∀ k b : Nat, k < i → T[k]? = some b → Waits G T b) :
    TI G l m (T.take i ++ T.drop (i + 1)) (O ++ [ptOf G a]) := by
  have hsub : (T.take i ++ T.drop (i + 1)).Sublist T := by rw [← List.eraseIdx_eq_take_drop_succ]; exact List.eraseIdx_sublist _ _
  have hlt := (List.getElem?_eq_some_iff.1 hi).1
  have ha := List.mem_of_getElem? hi
  have hf : (ptsL G T).find? (fun a => !behindB hitP G a (ptsL G T)) = some (ptOf G a) := find_nth _ _ i _ (pts_at hi) (by
    rw [Bool.not_eq_true', ← Bool.not_eq_true, waits_iff nd h ha]; exact hno) (fun k b hk hkb => by
    obtain ⟨c, hc⟩ := RowsC.at_some T k (by omega)
    rw [pts_at hc] at hkb
    cases hkb
    rw [Bool.not_eq_false', waits_iff nd h (List.mem_of_getElem? hc)]
    exact hb k c hk hc)
  have he : (ptsL G T).erase (ptOf G a) = ptsL G (T.take i ++ T.drop (i + 1)) := by
    rw [erase_nth _ h.nd i _ (pts_at hi)]
    unfold ptsL
    rw [List.map_append, List.map_take, List.map_drop]
  refine ⟨h.nd.sublist (hsub.map _), fun j hj => h.lt j (hsub.subset hj), ?_, ?_⟩
  · have := h.oz
    rw [List.length_append, List.length_append, List.length_singleton, List.length_take, List.length_drop]
    omega
  · have := h.eq
    unfold orderF at this
    rw [hf] at this
    simp only at this
    rw [he] at this
    rw [List.append_assoc]
    exact this
theorem TI.none {G : Gl} (nd : (cellsL G).Nodup) {l : List Pt} {m : Nat} {T : List Nat} {O : List Pt} (h : TI G l (m + 1) T O) (hb : ∀ k b : Nat, T[k]? = some b → Waits G T b) : TI G l m T O := by
  have hf : (ptsL G T).find? (fun a => !behindB hitP G a (ptsL G T)) = .none := find_no _ _ fun k b hkb => by
    have hlt : k < T.length := by have := (List.getElem?_eq_some_iff.1 hkb).1; unfold ptsL at this; rwa [List.length_map] at this
    obtain ⟨c, hc⟩ := RowsC.at_some T k hlt
    rw [pts_at hc] at hkb
    cases hkb
    rw [Bool.not_eq_false', waits_iff nd h (List.mem_of_getElem? hc)]
    exact hb k c hc
  have h0 : ∀ m, orderF (behindB hitP G) m (ptsL G T) = [] := fun m => by
    cases m with
    | zero => rfl
    | succ m => unfold orderF; rw [hf]
  have := h.eq
  rw [h0] at this
  exact { h with eq := by rw [h0]; exact this }
theorem TI.done {G : Gl} {l : List Pt} {T : List Nat} {O : List Pt} (h : TI G l 0 T O) : O = orderL hitP G l := by
  have := h.eq
  unfold orderF at this
  rwa [List.append_nil] at this
theorem stored_all {w : World} {base : Nat} {e : TypeId} {g n cap : Nat} : ∀ (vs : List Value) (o : Nat) (xs : List Value) (w : World), w.ownsRow base e 1 (.slice (some ⟨g, 0, none⟩) n cap) n xs → o + vs.length ≤ xs.length →
    (w.setCells g o vs).ownsRow base e 1 (.slice (some ⟨g, 0, none⟩) n cap) n (xs.take o ++ vs ++ xs.drop (o + vs.length)) ∧ Kept g w (w.setCells g o vs) := by
  intro vs
  induction vs with
  | nil => intro o xs w h hl; exact ⟨by simpa [World.setCells] using h, Kept.refl _ _⟩
  | cons v vs ih =>
    intro o xs w h hl
    rw [List.length_cons] at hl
    obtain ⟨h1, -⟩ := h.stored o v
    obtain ⟨h2, h3⟩ := ih (o + 1) (xs.set o v) _ h1 (by rw [List.length_set]; omega)
    refine ⟨?_, ((Kept.refl g w).setCell o v).trans h3⟩
    show ((w.setCell ⟨g, o, none⟩ v).setCells g (o + 1) vs).ownsRow _ _ _ _ _ _
    have e : (xs.set o v).take (o + 1) ++ vs ++ (xs.set o v).drop (o + 1 + vs.length) = xs.take o ++ v :: vs ++ xs.drop (o + (vs.length + 1)) := by
      rw [List.take_add_one, List.getElem?_set, if_pos rfl, if_pos (by omega), List.take_set_of_le (Nat.le_refl _), List.drop_set_of_lt (by omega), show o + 1 + vs.length = o + (vs.length + 1) by omega]
      simp
    rw [List.length_cons, ← e]
    exact h2
theorem fN_map (T : List Nat) : T.flatMap fN = T.map fun (n : Nat) => Value.int .i64 (n : Int) := by
  induction T with
  | nil => rfl
  | cons x T ih => rw [List.flatMap_cons, ih]; rfl
set_option maxHeartbeats 1000000 in
theorem ccut {w : World} {B g c i : Nat} {T : List Nat} (h : Owns fN 1 3 w B (.slice (some ⟨g, 0, none⟩) T.length c) T) (hi : i < T.length) :
    Calls Tryz.prog 50 #[.slice (some ⟨g, 0, none⟩) T.length c, .int .i64 (i : Int), .int .i64 ((i : Int) + 1)] w fun e w' => e = .returned (.slice (some ⟨g, 0, none⟩) (T.take i ++ T.drop (i + 1)).length c) ∧ Owns fN 1 3 w' B (.slice (some ⟨g, 0, none⟩) (T.take i ++ T.drop (i + 1)).length c) (T.take i ++ T.drop (i + 1)) ∧ Kept g w w' := by
  obtain ⟨A1, c1, e1, e2, -, -⟩ := h.form
  injection e1 with e3 e4 e5
  subst e5
  have hm : c ≤ 9223372036854775807 := by
    rcases h.2 with ⟨h', _⟩ | ⟨g', cap', cur, h', _, hg, _, q, _⟩
    · cases h'
    · injection h' with _ _ h'
      subst h'
      exact q
  have hzl : (T.map fun (n : Nat) => (n : Int)).length = T.length := List.length_map _
  have hcall := Tryz.slices_Delete_int_cells g 0 T.length c i (i + 1) (T.map fun (n : Nat) => (n : Int)) w (by rw [hzl]; exact Nat.le_refl _) e2 hm (Nat.le_succ _) hi (fun j hj => by
    rw [hzl] at hj
    obtain ⟨x, hx⟩ := RowsC.at_some T j hj
    rw [Nat.zero_add, h.cellAt j (by omega), fN_map, List.getElem?_map, hx, List.getD_eq_getElem?_getD, List.getElem?_map, hx]
    rfl) (fun j _ => h.frozenAt _)
  rw [show ((i + 1 : Nat) : Int) = (i : Int) + 1 by push_cast; rfl] at hcall
  refine hcall.mono ?_
  rintro e w' ⟨rfl, q, rfl⟩
  have hd : (w.drewN q).ownsRow B 3 1 (.slice (some ⟨g, 0, none⟩) T.length c) T.length (T.flatMap fN) := h
  have hl2 : (T.take i ++ T.drop (i + 1)).length = T.length - 1 := by rw [List.length_append, List.length_take, List.length_drop]; omega
  have e6 : ((((T.map fun (n : Nat) => (n : Int)).take T.length).take i ++ ((T.map fun (n : Nat) => (n : Int)).take T.length).drop (i + 1) ++ List.replicate (i + 1 - i) 0).map (Value.int .i64)) = (T.take i ++ T.drop (i + 1) ++ [0]).flatMap fN := by
    have ht : (T.map fun (n : Nat) => (n : Int)).take T.length = T.map fun (n : Nat) => (n : Int) := List.take_of_length_le (by rw [hzl]; exact Nat.le_refl _)
    rw [fN_map, ht, show i + 1 - i = 1 by omega]
    simp only [List.map_append, List.map_take, List.map_drop, List.map_map]
    rfl
  rw [e6]
  have hl3 : (T.take i ++ T.drop (i + 1) ++ [0]).length = T.length := by rw [List.length_append, hl2, List.length_singleton]; omega
  obtain ⟨k1, k2⟩ := stored_all (w := w) ((T.take i ++ T.drop (i + 1) ++ [0]).flatMap fN) 0 _ _ hd (by rw [fN_map, fN_map, List.length_map, List.length_map, hl3, Nat.zero_add]; exact Nat.le_refl _)
  have k3 : Owns fN 1 3 ((w.drewN q).setCells g 0 ((T.take i ++ T.drop (i + 1) ++ [0]).flatMap fN)) B (.slice (some ⟨g, 0, none⟩) T.length c) (T.take i ++ T.drop (i + 1) ++ [0]) := by
    unfold Owns
    rw [hl3]
    have hdr : (T.flatMap fN).drop ((T.take i ++ T.drop (i + 1) ++ [0]).flatMap fN).length = [] := List.drop_of_length_le (by rw [fN_map, fN_map, List.length_map, List.length_map, hl3]; exact Nat.le_refl _)
    rw [List.take_zero, List.nil_append, Nat.zero_add, hdr, List.append_nil] at k1
    exact k1
  have k4 := owns_take k3 (T.length - 1) (by rw [hl3]; omega)
  have ht2 : (T.take i ++ T.drop (i + 1) ++ [0]).take (T.length - 1) = T.take i ++ T.drop (i + 1) := (List.take_append_of_le_length (Nat.le_of_eq hl2.symm)).trans (List.take_of_length_le (Nat.le_of_eq hl2))
  rw [ht2] at k4
  rw [hl2]
  exact ⟨by rw [show T.length - (i + 1 - i) = T.length - 1 by omega], k4, ((Kept.refl g w).drew q).trans k2⟩
end Go.Proofs.YtakamedgdiffbaaGreatDoor.GraphC
namespace Go.Proofs.YtakamedgdiffbaaGreatDoor.GraphC
set_option linter.unusedVariables false
open Go.RowKit Go.Proofs.YtakamedgdiffbaaGreatDoor.NumC Go.Proofs.YtakamedgdiffbaaGreatDoor.RowsC
open Go.Proofs.YtakamedgdiffbaaGreatDoor.RefsC (Rc RAt hitsL RBox Srt)
open Go.Proofs.YtakamedgdiffbaaGreatDoor.TreeC (Kept)
structure Chg (b : Option Nat) (w w' : World) : Prop where
  os : w'.os = w.os
  tape : w'.tape = w.tape
  output : w'.output = w.output
  size : w.heap.size ≤ w'.heap.size
  block : ∀ k, k < w.heap.size → b ≠ some k → w'.heap[k]? = w.heap[k]?
theorem Chg.kept {b : Nat} {w w' : World} (h : Kept b w w') : Chg (some b) w w' := ⟨h.os, h.tape, h.output, h.size, fun k hk hn => h.block k hk (fun e => hn (by rw [e]))⟩
theorem Chg.grown {b : Option Nat} {w w' : World} {o : Obj} (h : (w.alloc o).grownBy w' b) : Chg b w w' := by
  have hs := h.size
  rw [World.size_alloc] at hs
  exact ⟨h.os, h.tape, h.output, by omega, fun k hk hn => (h.block k (by rw [World.size_alloc]; omega) (fun e => hn e.symm)).trans (((Below.refl w.heap.size w).alloc (Nat.le_refl _) o).block k hk)⟩
section
variable {w wr w' : World} {b : Option Nat} {B : Nat} {P N Q : Nat → Prop} {mo : Option Nat} {G : Gl} {L : WL} {wv : Value} {σ : Wk}
theorem Chg.rs (h : RS wr wr P N B P N Q mo G L wv σ) (k : Chg b wr w') (hb : ∀ x, b = some x → ¬ P x ∧ ¬ N x ∧ B ≤ x) : RS w' w' P N B P N Q mo G L wv σ :=
  ⟨h.ws.stay k.size fun x hlt hor => k.block x hlt fun e => by
    obtain ⟨h1, h2, h3⟩ := hb x e
    rcases hor with e | e | e
    · omega
    · exact h1 e
    · exact h2 e, h.inv, h.op, ⟨rfl, rfl, rfl, Nat.le_refl _, fun _ _ _ => rfl⟩, fun _ e => Or.inl e, fun _ e => Or.inl e⟩
theorem Chg.set {g s : Nat} (h : SAt wr g 0 s) (k : Chg b wr w') (hb : b ≠ some g) : SAt w' g 0 s := h.block (k.block g h.lt hb)
theorem Chg.mt {g : Nat} {m : Nat → Nat} (h : MAt wr g m) (k : Chg b wr w') (hb : b ≠ some g) : MAt w' g m := by
  obtain ⟨cs, h1, h2⟩ := h
  exact ⟨cs, (k.block g (Array.getElem?_eq_some_iff.1 h1).1 hb).trans h1, h2⟩
theorem Chg.owns {α : Type} {f : α → List Value} {n : Nat} {ty : TypeId} {v : Value} {l : List α} (h : Owns f n ty wr B v l) (k : Chg b wr w') (hb : ∀ x, v.ownBlock = some x → b ≠ some x) : Owns f n ty w' B v l :=
  owns_same h fun x e => k.block x (h.lt x e).2 (hb x e)
theorem Chg.bel (h : Below w.heap.size w wr) (k : Chg b wr w') (hb : ∀ x, b = some x → w.heap.size ≤ x) : Below w.heap.size w w' :=
  ⟨k.os.trans h.os, k.tape.trans h.tape, k.output.trans h.output, Nat.le_trans h.size k.size, fun x hx => (k.block x (by have := h.size; omega) (fun e => by have := hb x e; omega)).trans (h.block x hx)⟩
end
structure OI (w wr : World) (P N Q : Nat → Prop) (mo : Option Nat) (G : Gl) (L : WL) (wv : Value) (σ : Wk) (ga : Nat) (m : Nat → Nat) (hb s : Nat) (tv : Value) (T : List Nat) (ov : Value) (O : List Pt) : Prop where
  rs : RS wr wr P N w.heap.size P N Q mo G L wv σ
  mt : MAt wr ga m
  set : SAt wr hb 0 s
  todo : Owns fN 1 3 wr w.heap.size tv T
  out : Owns fP 2 35 wr w.heap.size ov O
  gP : ¬ P ga ∧ ¬ N ga ∧ w.heap.size ≤ ga ∧ ga ≠ hb
  hP : ¬ P hb ∧ ¬ N hb ∧ w.heap.size ≤ hb
  tP : ∀ k, tv.ownBlock = some k → ¬ P k ∧ ¬ N k ∧ k ≠ hb ∧ k ≠ ga
  oP : ∀ k, ov.ownBlock = some k → ¬ P k ∧ ¬ N k ∧ k ≠ hb ∧ k ≠ ga ∧ tv.ownBlock ≠ some k
  bw : Below w.heap.size w wr
section
variable {w wr w' : World} {P N P' N' Q : Nat → Prop} {mo : Option Nat} {G : Gl} {L : WL} {wv wv' : Value} {σ σ' : Wk} {ga : Nat} {m : Nat → Nat} {hb s s' : Nat} {tv tv' : Value} {T T' : List Nat} {ov ov' : Value} {O O' : List Pt}
theorem OI.under (h : OI w wr P N Q mo G L wv σ ga m hb s tv T ov O) (k : Below wr.heap.size wr w') : OI w w' P N Q mo G L wv σ ga m hb s tv T ov O :=
  { h with rs := (h.rs.under k).now, mt := h.mt.below k, set := h.set.below k, todo := h.todo.below k, out := h.out.below k, bw := h.bw.trans (k.mono h.bw.size) }
theorem OI.ask (h : OI w wr P N Q mo G L wv σ ga m hb s tv T ov O) (r : RS wr w' P N w.heap.size P' N' Q mo G L wv' σ') : OI w w' P' N' Q mo G L wv' σ' ga m hb s tv T ov O := by
  have key : ∀ k, k < wr.heap.size → ¬ P k → ¬ N k → ¬ P' k ∧ ¬ N' k := fun k hk h1 h2 => ⟨fun e => (r.pg k e).elim h1 (fun e => by omega), fun e => (r.ng k e).elim h2 (fun e => by omega)⟩
  have l1 := h.mt.lt
  have l2 := h.set.lt
  refine { rs := r.now, mt := h.mt.but r.bu h.gP.1, set := h.set.but r.bu h.hP.1, todo := owns_same h.todo fun k e => r.bu.block k (h.todo.lt k e).2 (h.tP k e).1, out := owns_same h.out fun k e => r.bu.block k (h.out.lt k e).2 (h.oP k e).1, gP := ?_, hP := ?_, tP := fun k e => ?_, oP := fun k e => ?_, bw := h.bw.trans (r.bu.below (fun k e => (h.rs.ws.plow k e).1) h.bw.size) }
  · obtain ⟨a, b, c⟩ := h.gP; obtain ⟨d, e⟩ := key ga l1 a b; exact ⟨d, e, c⟩
  · obtain ⟨a, b, c⟩ := h.hP; obtain ⟨d, e⟩ := key hb l2 a b; exact ⟨d, e, c⟩
  · obtain ⟨a, b, c⟩ := h.tP k e; obtain ⟨d, f⟩ := key k (h.todo.lt k e).2 a b; exact ⟨d, f, c⟩
  · obtain ⟨a, b, c⟩ := h.oP k e; obtain ⟨d, f⟩ := key k (h.out.lt k e).2 a b; exact ⟨d, f, c⟩
theorem OI.setS (h : OI w wr P N Q mo G L wv σ ga m hb s tv T ov O) (k : Kept hb wr w') (hs : SAt w' hb 0 s') : OI w w' P N Q mo G L wv σ ga m hb s' tv T ov O := by
  have c := Chg.kept k
  refine { h with rs := c.rs h.rs (fun x e => by cases e; exact h.hP), mt := c.mt h.mt (fun e => h.gP.2.2.2 (by injection e with e; exact e.symm)), set := hs, todo := c.owns h.todo (fun x e q => (h.tP x e).2.2.1 (by injection q with q; exact q.symm)), out := c.owns h.out (fun x e q => (h.oP x e).2.2.1 (by injection q with q; exact q.symm)), bw := c.bel h.bw (fun x e => by cases e; exact h.hP.2.2) }
theorem OI.mkT (h : OI w wr P N Q mo G L wv σ ga m hb s tv T ov O) (c : Chg tv.ownBlock wr w') (ht : Owns fN 1 3 w' w.heap.size tv' T') (hv : tv'.ownBlock = tv.ownBlock ∨ ∃ k, tv'.ownBlock = some k ∧ wr.heap.size ≤ k) : OI w w' P N Q mo G L wv σ ga m hb s tv' T' ov O := by
  have l1 := h.mt.lt
  have l2 := h.set.lt
  refine { h with rs := c.rs h.rs (fun x e => ⟨(h.tP x e).1, (h.tP x e).2.1, (h.todo.lt x e).1⟩), mt := c.mt h.mt (fun e => (h.tP _ e).2.2.2 rfl), set := c.set h.set (fun e => (h.tP _ e).2.2.1 rfl), todo := ht, out := c.owns h.out (fun x e => (h.oP x e).2.2.2.2), bw := c.bel h.bw (fun x e => (h.todo.lt x e).1), tP := fun k e => ?_, oP := fun k e => ?_ }
  · rcases hv with hv | ⟨k', hv, hk⟩
    · exact h.tP k (hv ▸ e)
    · rw [hv] at e; cases e
      exact ⟨fun e => by have := (h.rs.ws.plow _ e).2; omega, fun e => by have := (h.rs.ws.nlow _ e).2; omega, by omega, by omega⟩
  · obtain ⟨h1, h2, h3, h4, h5⟩ := h.oP k e
    refine ⟨h1, h2, h3, h4, fun q => ?_⟩
    rcases hv with hv | ⟨k', hv, hk⟩
    · exact h5 (hv ▸ q)
    · rw [hv] at q; cases q
      have := (h.out.lt _ e).2
      omega
theorem OI.mkO (h : OI w wr P N Q mo G L wv σ ga m hb s tv T ov O) (c : Chg ov.ownBlock wr w') (ht : Owns fP 2 35 w' w.heap.size ov' O') (hv : ov'.ownBlock = ov.ownBlock ∨ ∃ k, ov'.ownBlock = some k ∧ wr.heap.size ≤ k) : OI w w' P N Q mo G L wv σ ga m hb s tv T ov' O' := by
  have l1 := h.mt.lt
  have l2 := h.set.lt
  refine { h with rs := c.rs h.rs (fun x e => ⟨(h.oP x e).1, (h.oP x e).2.1, (h.out.lt x e).1⟩), mt := c.mt h.mt (fun e => (h.oP _ e).2.2.2.1 rfl), set := c.set h.set (fun e => (h.oP _ e).2.2.1 rfl), todo := c.owns h.todo (fun x e q => (h.oP x q).2.2.2.2 e), out := ht, bw := c.bel h.bw (fun x e => (h.out.lt x e).1), oP := fun k e => ?_ }
  rcases hv with hv | ⟨k', hv, hk⟩
  · exact h.oP k (hv ▸ e)
  · rw [hv] at e; cases e
    exact ⟨fun e => by have := (h.rs.ws.plow _ e).2; omega, fun e => by have := (h.rs.ws.nlow _ e).2; omega, by omega, by omega, fun q => by have := (h.todo.lt _ q).2; omega⟩
end
end Go.Proofs.YtakamedgdiffbaaGreatDoor.GraphC
namespace Go.Proofs.YtakamedgdiffbaaGreatDoor.GraphC
set_option linter.unusedVariables false
open Go.RowKit Go.Proofs.YtakamedgdiffbaaGreatDoor.NumC Go.Proofs.YtakamedgdiffbaaGreatDoor.RowsC
open Go.Proofs.YtakamedgdiffbaaGreatDoor.RefsC (Rc RAt hitsL RBox Srt)
open Go.Proofs.YtakamedgdiffbaaGreatDoor.TreeC (Kept)
def InL (s : Nat) (T : List Nat) : Prop := ∀ i, s.testBit i = true ↔ i ∈ T
theorem InL.nil : InL 0 [] := fun i => by rw [Nat.zero_testBit]; exact ⟨fun h => (by cases h), fun h => (by cases h)⟩
theorem InL.snoc {s : Nat} {T : List Nat} (h : InL s T) (j : Nat) : InL (s ||| 2 ^ j) (T ++ [j]) := fun i => by
  rw [Nat.testBit_or, Bool.or_eq_true, h i, Nat.testBit_two_pow, decide_eq_true_eq, List.mem_append, List.mem_singleton]
  exact ⟨fun h => h.imp id (fun e => e.symm), fun h => h.imp id (fun e => e.symm)⟩
theorem InL.cut {s : Nat} {T : List Nat} (h : InL s T) (nd : T.Nodup) {i a : Nat} (hi : T[i]? = some a) : InL (dropN s a) (T.take i ++ T.drop (i + 1)) := fun j => by
  rw [drop_bit, Bool.and_eq_true, decide_eq_true_eq, h j, ← erase_nth T nd i a hi, nd.mem_erase_iff]
  exact And.comm
theorem pts_nodup {G : Gl} {T : List Nat} (h : (ptsL G T).Nodup) : T.Nodup := by
  unfold ptsL List.Nodup at h
  rw [List.pairwise_map] at h
  exact h.imp fun hne e => hne (by rw [e])
theorem waits_meet {G : Gl} {s al a : Nat} {T : List Nat} (hs : InL s T) (ha : ∀ j, al.testBit j = true ↔ Dpn (refsP G) a j) : decide (al &&& s ≠ 0) = true ↔ Waits G T a := by
  rw [decide_eq_true_eq, and_some]
  constructor
  · rintro ⟨j, h1, h2⟩; exact ⟨j, (hs j).1 h2, (ha j).1 h1⟩
  · rintro ⟨j, h1, h2⟩; exact ⟨j, (ha j).2 h2, (hs j).2 h1⟩
set_option maxHeartbeats 8000000 in
set_option maxRecDepth 100000 in
theorem cOrder {Q : Nat → Prop} {v : Value} {mo : Option Nat} {G : Gl} (l : List Pt) (A : Option Addr) (c : Nat) (w : World) (h : GV w Q v mo G) (hbd : Bnd G) (hs : SrtG bfP G) (hl : l.length ≤ 1000000) (hR : Reads fP 2 w w.heap.size l A) :
    Calls Tryz.prog 21 #[v, .slice A l.length c] w (CellsPost (orderL hitP G l) w) := by
  have hn := hbd.1
  have hcall := cwalk w h hs hn
  have HV := Lib.hid h
  have HBD := Lib.hid hbd
  have HS := Lib.hid hs
  have HR := Lib.hid hR
  have HND := Lib.hid (SrtG.nodup goesP hs)
  clear h hbd hs hR
  generalize hPost : CellsPost (orderL hitP G l) w = POST
  have HPOST := Lib.hid hPost
  clear hPost
  go_enter Tryz.func21, Tryz.ntmps21
  go_wp2_with fail
  go_step3
  go_wp2_with fail
  refine hcall.mono ?_; rintro e w1 ⟨L, P, N, rfl, hb1, hrs⟩
  have hcall2 := cmarked l A c w1 hl ((HR.out.below hb1).mono hb1.size)
  have HB1 := Lib.hid hb1
  have HRS := Lib.hid hrs
  clear hcall hb1 hrs
  go_wp2_with fail
  refine hcall2.mono ?_; rintro e w2 ⟨ga, m, rfl, hga, hm, hS, hb2⟩
  have hrs2 := (HRS.out.under hb2).now
  have HB2 := Lib.hid (HB1.out.trans (hb2.mono HB1.out.size))
  have c1 := hrs2.ws.cell.2.1
  have hbl := (hrs2.ws.plow _ hrs2.ws.pb).2
  have hgl := hm.lt
  have hga2 : w.heap.size ≤ ga := Nat.le_trans HB1.out.size hga
  have hgP : ¬ P ga ∧ ¬ N ga := ⟨fun e => by have := (HRS.out.ws.plow _ e).2; omega, fun e => by have := (HRS.out.ws.nlow _ e).2; omega⟩
  have n1 : L.b ≠ w2.heap.size := by omega
  have HM := Lib.hid hS
  have HGP := Lib.hid hgP
  have HRS2 := Lib.hid (And.intro hrs2 hm)
  clear hcall2 hb2 hrs2 hm hS HRS HB1 hgP hga
  go_wp2_with fail
  generalize hW : w2.alloc (.cells #[.int .u64 0, .int .u64 0, .int .u64 0, .int .u64 0, .int .u64 0, .int .u64 0, .int .u64 0, .int .u64 0, .int .u64 0, .int .u64 0, .int .u64 0, .int .u64 0, .int .u64 0, .int .u64 0, .int .u64 0, .int .u64 0] 73) = W at *
  have bW : Below w2.heap.size w2 W := by rw [← hW]; exact (Below.refl _ w2).alloc (Nat.le_refl _) _
  have hzW : W.heap.size = w2.heap.size + 1 := by rw [← hW]; exact World.size_alloc _ _
  have hS0 : SAt W w2.heap.size 0 0 := by rw [← hW]; exact SAt.zero w2
  have hI : OI w W P N Q mo G L (.slice none 0 0) wk0 ga m w2.heap.size 0 (.slice none 0 0) [] (.slice none 0 0) [] :=
    { rs := (HRS2.out.1.under bW).now, mt := HRS2.out.2.below bW, set := hS0, todo := Owns.nil _ _, out := Owns.nil _ _, gP := ⟨HGP.out.1, HGP.out.2, hga2, by omega⟩, hP := ⟨fun e => (by have := (HRS2.out.1.ws.plow _ e).2; omega), fun e => (by have := (HRS2.out.1.ws.nlow _ e).2; omega), HB2.out.size⟩, tP := fun k e => (by cases e), oP := fun k e => (by cases e), bw := HB2.out.trans (bW.mono HB2.out.size) }
  have HI := Lib.hid hI
  have hx1 : w2.heap.size < W.heap.size := by omega
  clear hW hzW bW hS0 hI n1 c1 HRS2 HGP hga2
  generalize w2.heap.size = hb at *
  go_loopw [7, 22] (fun tv kv wr => ∃ j : Nat, j ≤ G.length ∧ kv = .int .i64 j ∧ Hid (∃ P N wv σ s, OI w wr P N Q mo G L wv σ ga m hb s tv (todoP (qO G l) j) (.slice none 0 0) [] ∧ InL s (todoP (qO G l) j))) (fun _ kv _ => G.length - (intOf kv).toNat)
  case atStart => exact ⟨0, Nat.zero_le _, rfl, Lib.hid ⟨P, N, _, _, 0, HI.out, InL.nil⟩⟩
  case round =>
    clear HI
    obtain ⟨j, hj, rfl, HRI⟩ := hrel
    obtain ⟨P, N, wv, σ, s, hoi, hin⟩ := HRI.out
    clear HRI
    have HIN := Lib.hid hin
    clear hin
    by_cases hlt : j < G.length
    · have hd1 : (j : Int) < (G.length : Int) := by omega
      obtain ⟨x, hx⟩ := at_of_lt hlt
      obtain ⟨gc, oc, hcA, hgc, x0, x1⟩ := Reads.pt hoi.rs.ws.cells j x.1 (cells_at hx)
      rw [hcA]
      have hBx : Below wr.heap.size wr (wr.alloc (.cells #[.int .i64 x.1.r, .int .i64 x.1.c] 35)) := (Below.refl _ wr).alloc (Nat.le_refl _) _
      have hoi2 := hoi.under hBx
      have hcell := HV.out.good.cell x (mem_of_at hx)
      have hcall := cmhas ga m x.1 _ hcell hoi2.mt
      have HK : Hid (hasM m x.1 = l.contains x.1) := Lib.hid (by
        rw [Bool.eq_iff_iff, HM.out.has hcell, List.contains_iff_mem]
        exact ⟨fun h => h.1, fun h => ⟨h, hcell⟩⟩)
      rw [HK.out] at hcall
      have HOI2 := Lib.hid hoi2
      have HX := Lib.hid hx
      have HLN := Lib.hid (todoP_len (qO G l) j)
      obtain ⟨b, hbb⟩ : ∃ b, l.contains x.1 = b := ⟨_, rfl⟩
      rw [hbb] at hcall
      have HBB := Lib.hid hbb
      have HQ : Hid (∀ d, pB (Dpn (refsP G) j j) = d → qO G l j = (b && !d)) := Lib.hid (fun d hd => by unfold qO; rw [pt_of hx, hbb, hd])
      obtain ⟨tA, tc, htv, -⟩ := hoi.todo.form
      have HTV := Lib.hid htv
      clear hoi hoi2 hBx hx hcA hcell HK hbb htv
      cases b
      · have HTN : Hid (todoP (qO G l) (j + 1) = todoP (qO G l) j) := Lib.hid (by rw [todo_next, HQ.out _ rfl]; simp)
        clear HQ
        go_wp2_with fail
        refine hcall.mono ?_; rintro e w5 ⟨rfl, hb5⟩
        have HOI5 := Lib.hid (HOI2.out.under hb5)
        clear hcall hb5 x0 x1
        go_wp2_with fail
        go_roundw
        case rel => exact ⟨j + 1, by omega, by go_num, Lib.hid ⟨P, N, wv, σ, s, by rw [HTN.out]; exact HOI5.out, by rw [HTN.out]; exact HIN.out⟩⟩
        case measure => simp [intOf]; omega
      · go_wp2_with fail
        refine hcall.mono ?_; rintro e w5 ⟨rfl, hb5⟩
        have HOI5 := Lib.hid (HOI2.out.under hb5)
        have hcall2 := cisLoop j w5 HOI5.out.rs HV.out.good HS.out HBD.out hlt
        clear hcall hb5 x0 x1
        go_wp2_with fail
        refine hcall2.mono ?_; rintro e w6 ⟨d, rfl, hd, P', N', v', σ', hrs6⟩
        have HOI6 := Lib.hid (HOI5.out.ask hrs6)
        have HD : Hid (pB (Dpn (refsP G) j j) = d) := Lib.hid (by rw [Bool.eq_iff_iff, pB_iff]; exact hd.symm)
        clear hcall2 hrs6 hd
        cases d
        · have HTN : Hid (todoP (qO G l) (j + 1) = todoP (qO G l) j ++ [j]) := Lib.hid (by rw [todo_next, HQ.out _ HD.out]; simp)
          have hlen : (todoP (qO G l) j).length + 1 ≤ 100000000 := by have := HLN.out; omega
          have hw6 := HOI6.out.bw.size
          have HO6 := Lib.hid (And.intro HOI6.out.todo HTV.out)
          clear HQ
          generalize todoP (qO G l) j = T at *
          have htv := HTV.out
          subst htv
          go_wp2_with (at_builtin
                       refine wpList_append_owns kindN _ rfl (.tmp 36) (.tmp 38) rfl (m := [j]) (B := w.heap.size) rfl rfl rfl (HOI6.out.todo.below ((Below.refl _ _).alloc (Nat.le_refl _) _)) (Boxed.new (f := fN) w6 j).reads hlen (by rw [World.size_alloc]; omega) ?_
                       intro v2 w9 ho' hg' hat'
                       have HD9 := Lib.hid (And.intro ho' (And.intro hg' hat'))
                       clear ho' hg' hat')
          have HOI9 := Lib.hid (HOI6.out.mkT (Chg.grown HD9.out.2.1) HD9.out.1 (HD9.out.2.2.imp id fun e => ⟨_, e, by rw [World.size_alloc]; exact Nat.le_succ _⟩))
          have hcall3 := csput hb s j w9 (by omega) HOI9.out.set
          refine hcall3.mono ?_; rintro e w10 ⟨rfl, hk10, hs10⟩
          have HOI10 := Lib.hid (HOI9.out.setS hk10 hs10)
          clear hcall3 hk10 hs10
          go_wp2_with fail
          go_roundw
          case rel => exact ⟨j + 1, by omega, by go_num, Lib.hid ⟨P', N', v', σ', _, by rw [HTN.out]; exact HOI10.out, by rw [HTN.out]; exact HIN.out.snoc j⟩⟩
          case measure => simp [intOf]; omega
        · have HTN : Hid (todoP (qO G l) (j + 1) = todoP (qO G l) j) := Lib.hid (by rw [todo_next, HQ.out _ HD.out]; simp)
          clear HQ
          go_wp2_with fail
          go_roundw
          case rel => exact ⟨j + 1, by omega, by go_num, Lib.hid ⟨P', N', v', σ', s, by rw [HTN.out]; exact HOI6.out, by rw [HTN.out]; exact HIN.out⟩⟩
          case measure => simp [intOf]; omega
    · have hd1 : ¬ (j : Int) < (G.length : Int) := by omega
      obtain rfl : j = G.length := by omega
      have HTI := Lib.hid (TI.start HND.out l)
      have HLN := Lib.hid (todoP_len (qO G l) G.length)
      have HOI := Lib.hid hoi
      obtain ⟨tA, tc, htv, -⟩ := hoi.todo.form
      generalize todoP (qO G l) G.length = T0 at *
      subst htv
      clear hoi
      go_wp2_with fail
      clear hd1 hlt hj
      go_step3
      go_wp2_with fail
      go_loopg [4, 7, 45] T0.length (fun k ov tv kv wr => ∃ z : Nat, z + k = T0.length ∧ kv = .int .i64 z ∧ Hid (∃ P N wv σ s T O, OI w wr P N Q mo G L wv σ ga m hb s tv T ov O ∧ InL s T ∧ TI G l k T O))
      case atStart => exact ⟨0, Nat.zero_add _, rfl, Lib.hid ⟨P, N, wv, σ, s, T0, [], HOI.out, HIN.out, HTI.out⟩⟩
      case round =>
        clear HOI HIN HTI
        obtain ⟨z, hz, rfl, HR2⟩ := hrel
        obtain ⟨P, N, wv, σ, s, T, O, hoi, hin, hti⟩ := HR2.out
        clear HR2
        obtain ⟨K1, rfl⟩ : ∃ K1, K1 = gk := ⟨_, rfl⟩
        cases K1 with
        | zero =>
          have hd2 : ¬ (z : Int) < (T0.length : Int) := by omega
          obtain ⟨oA, oc, hov, -⟩ := hoi.out.form
          subst hov
          have HFin : Hid (CellsPost (orderL hitP G l) w (.returned (.slice oA O.length oc)) wr) := Lib.hid ⟨_, rfl, by rw [← hti.done]; exact hoi.out, hoi.bw⟩
          rw [HPOST.out] at HFin
          clear hoi hin hti
          go_wp2_with fail
          first | exact HFin.out | (go_ret; exact HFin.out) | (go_ret2; exact HFin.out)
        | succ K =>
          have hd2 : (z : Int) < (T0.length : Int) := by omega
          obtain ⟨tA, tc, htv, -⟩ := hoi.todo.form
          subst htv
          obtain ⟨oA, oc, hov, -⟩ := hoi.out.form
          subst hov
          have HIN := Lib.hid hin
          have HTI := Lib.hid hti
          have HOI := Lib.hid hoi
          have HZ := Lib.hid hz
          have hTl : T.length ≤ G.length := by have := HTI.out.oz; omega
          have hT0 : z < G.length := by have := HLN.out; omega
          clear hoi hin hti hz
          go_wp2_with fail
          clear hd2
          go_loopg [4, 7, 49] T.length (fun k x y iv wz => x = .slice oA O.length oc ∧ y = .slice tA T.length tc ∧ ∃ i : Nat, i + k = T.length ∧ iv = .int .i64 i ∧ Hid (∃ P N wv σ, OI w wz P N Q mo G L wv σ ga m hb s (.slice tA T.length tc) T (.slice oA O.length oc) O ∧ ∀ k b : Nat, k < i → T[k]? = some b → Waits G T b))
          case atStart => exact ⟨rfl, rfl, 0, Nat.zero_add _, rfl, Lib.hid ⟨P, N, wv, σ, HOI.out, fun k b hk => absurd hk (Nat.not_lt_zero _)⟩⟩
          case round =>
            clear HOI
            obtain ⟨rfl, rfl, i, hi, rfl, HR3⟩ := hrel
            obtain ⟨P, N, wv, σ, hoi, hwt⟩ := HR3.out
            clear HR3
            obtain ⟨K2, rfl⟩ : ∃ K2, K2 = gk := ⟨_, rfl⟩
            have HWT := Lib.hid hwt
            clear hwt
            by_cases hlt : i < T.length
            · have hd3 : (i : Int) < (T.length : Int) := by omega
              have hi0 : (0 : Int) ≤ (i : Int) := by omega
              obtain ⟨a, ha⟩ := RowsC.at_some T i hlt
              obtain ⟨hag, hal⟩ := HTI.out.lt a (List.mem_of_getElem? ha)
              obtain ⟨g9, rfl, zc⟩ : ∃ g9, tA = some ⟨g9, 0, none⟩ ∧ wr.cell? ⟨g9, i, none⟩ = some (.int .i64 (a : Int)) := by
                obtain ⟨A1, c1, e1, -, -, e4⟩ := hoi.todo.form
                cases e1
                rcases (hoi.todo.reads kindN.row).2 with e | ⟨g, o, e, -, hr⟩
                · rw [e] at hlt; simp at hlt
                · obtain ⟨g', e5⟩ := e4 _ e
                  cases e5
                  exact ⟨g, e, by have := hr i a ha 0 _ rfl; simpa using this⟩
              have hcall := cdepends a wr hoi.rs HV.out.good HS.out HBD.out hag
              have HOI := Lib.hid hoi
              have HA := Lib.hid ha
              clear hoi ha
              go_wp2_with fail
              refine hcall.mono ?_; rintro e w5 ⟨rfl, P', N', v', σ', hrs5, hf5⟩
              have HOI5 := Lib.hid (HOI.out.ask hrs5)
              have hcall2 := csmeets L.ga (a * 16) (σ'.al a) hb 0 s w5 (hrs5.ws.alls a hag) HOI5.out.set
              have HW := Lib.hid (waits_meet HIN.out ((hrs5.inv.clo a hag hf5).2))
              clear hcall hrs5 hf5 zc
              generalize decide (σ'.al a &&& s ≠ 0) = b at *
              go_wp2_with fail
              refine hcall2.mono ?_; rintro e w6 ⟨rfl, hb6⟩
              have HOI6 := Lib.hid (HOI5.out.under hb6)
              clear hcall2 hb6 HOI5 HOI
              cases b
              · have HNW := Lib.hid (show ¬ Waits G T a from fun e => by have := HW.out.2 e; cases this)
                have HTI2 := Lib.hid (HTI.out.found HND.out HA.out HNW.out HWT.out)
                obtain ⟨x, hx⟩ := at_of_lt hag
                obtain ⟨gc, oc2, hcA, hgc, x0, x1⟩ := Reads.pt HOI6.out.rs.ws.cells a x.1 (cells_at hx)
                have b1 := HOI6.out.rs.ws.cell.2.1
                rw [hcA] at b1
                have HPX := Lib.hid (pt_of hx)
                have ha9 : (a : Int) < (G.length : Int) := by omega
                have ha0 : (0 : Int) ≤ (a : Int) := by omega
                have hw6 := HOI6.out.bw.size
                have hlen : O.length + 1 ≤ 100000000 := by have := HTI.out.oz; omega
                have htw : IntKind.i64.wrap ((i : Int) + 1) = (i : Int) + 1 := by
                  have := HTI.out.oz
                  rw [IntKind.wrap_i64]; omega
                clear hx hcA hd3 HW
                go_wp2_with (at_builtin
                             refine wpList_append_owns kindP _ rfl (.tmp 59) (.tmp 67) rfl (m := [x.1]) (B := w.heap.size) rfl rfl rfl (HOI6.out.out.below ((Below.refl _ _).alloc (Nat.le_refl _) _)) (Boxed.new w6 x.1).reads hlen (by rw [World.size_alloc]; omega) ?_
                             intro v2 w9 ho' hg' hat'
                             have HD9 := Lib.hid (And.intro ho' (And.intro hg' hat'))
                             clear ho' hg' hat')
                have HOI9 := Lib.hid (HOI6.out.mkO (Chg.grown HD9.out.2.1) HD9.out.1 (HD9.out.2.2.imp id fun e => ⟨_, e, by rw [World.size_alloc]; exact Nat.le_succ _⟩))
                have hcall3 := ccut HOI9.out.todo hlt
                clear x0 x1 b1
                refine hcall3.mono ?_; rintro e w10 ⟨rfl, ho10, hk10⟩
                have HOI10 := Lib.hid (HOI9.out.mkT (Chg.kept hk10) ho10 (Or.inl rfl))
                have hcall4 := csdrop hb s a w10 (by omega) HOI10.out.set
                clear hcall3 ho10 hk10
                go_wp2_with fail
                refine hcall4.mono ?_; rintro e w11 ⟨rfl, hk11, hs11⟩
                have HOI11 := Lib.hid (HOI10.out.setS hk11 hs11)
                clear hcall4 hk11 hs11
                go_wp2_with fail
                go_roundg K
                case measure => omega
                case rel =>
                  have hz := HZ.out
                  have hlq : (T.take i ++ T.drop (i + 1)).length = min i T.length + (T.length - (i + 1)) := by rw [List.length_append, List.length_take, List.length_drop]
                  refine ⟨z + 1, by omega, by go_num, Lib.hid ⟨P', N', v', σ', dropN s a, T.take i ++ T.drop (i + 1), O ++ [x.1], (by rw [← hlq]; exact HOI11.out), HIN.out.cut (pts_nodup HTI.out.nd) HA.out, ?_⟩⟩
                  rw [← HPX.out]
                  exact HTI2.out
              · have HY := Lib.hid (show Waits G T a from HW.out.1 rfl)
                clear HW
                go_wp2_with fail
                go_roundg (T.length - (i + 1))
                case measure => omega
                case rel =>
                  refine ⟨rfl, rfl, i + 1, by omega, by go_num, Lib.hid ⟨P', N', v', σ', HOI6.out, fun k b hk hkb => ?_⟩⟩
                  by_cases e : k = i
                  · subst e
                    rw [HA.out] at hkb
                    cases hkb
                    exact HY.out
                  · exact HWT.out k b (by omega) hkb
            · have hd3 : ¬ (i : Int) < (T.length : Int) := by omega
              have hiT : i = T.length := by omega
              have HTI2 := Lib.hid (HTI.out.none HND.out fun k b hkb => HWT.out k b (by have := (List.getElem?_eq_some_iff.1 hkb).1; omega) hkb)
              have HOI := Lib.hid hoi
              clear hoi hiT hi
              go_wp2_with fail
              go_roundg K
              case measure => omega
              case rel =>
                have hz := HZ.out
                exact ⟨z + 1, by omega, by go_num, Lib.hid ⟨P, N, wv, σ, s, T, O, HOI.out, HIN.out, HTI2.out⟩⟩
end Go.Proofs.YtakamedgdiffbaaGreatDoor.GraphC
