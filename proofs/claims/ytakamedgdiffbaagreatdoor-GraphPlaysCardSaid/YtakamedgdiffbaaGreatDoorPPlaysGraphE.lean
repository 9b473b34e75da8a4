/-
  Contracts of the reference's graph: Loops, behind.
-/
import Derived.Test.YtakamedgdiffbaaGreatDoorPPlaysGraphA
import Derived.Deep.RegionHeld3
namespace Go.Proofs.YtakamedgdiffbaaGreatDoor.GraphC
set_option linter.unusedVariables false
open Go.RowKit Go.Proofs.YtakamedgdiffbaaGreatDoor.NumC Go.Proofs.YtakamedgdiffbaaGreatDoor.RowsC
open Go.Proofs.YtakamedgdiffbaaGreatDoor.RefsC (Rc RAt hitsL)
def loopsF (G : Gl) (j : Nat) : List Pt := (cellsL (G.take j)).filter fun a => (reachL hitP G [a]).contains a
theorem loops_step {G : Gl} {j : Nat} {x : Pt × List Rc} (hx : G[j]? = some x) : loopsF G (j + 1) = if decide (x.1 ∈ reachL hitP G [x.1]) = true then loopsF G j ++ [x.1] else loopsF G j := by
  unfold loopsF cellsL
  rw [List.take_add_one, hx, List.map_append, List.filter_append]
  split
  · rename_i h; rw [show (some x).toList.map Prod.fst = [x.1] from rfl, List.filter_cons_of_pos (by simpa using h)]; rfl
  · rename_i h; rw [show (some x).toList.map Prod.fst = [x.1] from rfl, List.filter_cons_of_neg (by simpa using h)]; simp
theorem loops_len (G : Gl) (j : Nat) : (loopsF G j).length ≤ j := by
  unfold loopsF cellsL
  refine Nat.le_trans (List.length_filter_le _ _) ?_
  rw [List.length_map, List.length_take]; omega
theorem reach_len (G : Gl) (l : List Pt) : (reachL hitP G l).length ≤ G.length := pick_len _ _
theorem below_d {n : Nat} {w w' : World} (h : Below n w w') : Below n w w'.drew := ⟨h.os, h.tape, h.output, h.size, h.block⟩
theorem pt_reads (w : World) (x : Pt) : Reads fP 2 (w.alloc (.cells #[.int .i64 x.r, .int .i64 x.c] 35)).drew (w.alloc (.cells #[.int .i64 x.r, .int .i64 x.c] 35)).drew.heap.size [x] (some ⟨w.heap.size, 0, none⟩) :=
  Boxed.reads (f := fP) (ty := 35) (show Boxed fP 35 (w.alloc (.cells #[.int .i64 x.r, .int .i64 x.c] 35)).drew w.heap.size x from (Boxed.new (f := fP) w x : _))
set_option maxHeartbeats 4000000 in
set_option maxRecDepth 100000 in
theorem rLoops {FP : Nat → Prop} (b : Nat) (G : Gl) (w : World) (hb : Bnd G) (hG : GSt w FP b G) :
    Calls Tryz.prog 20 #[.pointer (some ⟨b, 0, none⟩)] w (CellsPost (loopsL hitP G) w) := by
  have hlt := hG.lt
  have hg1 := hb.1
  have HG := Lib.hid hG
  clear hG
  go_enter Tryz.func20, Tryz.ntmps20
  go_wp2_with fail
  go_loopw [3, 4] (fun ov iv wr => ∃ j : Nat, j ≤ G.length ∧ iv = .int .i64 j ∧ Hid (Below w.heap.size w wr ∧ Owns fP 2 35 wr w.heap.size ov (loopsF G j))) (fun _ iv _ => G.length - (intOf iv).toNat)
  case atStart => exact ⟨0, Nat.zero_le _, rfl, Lib.hid ⟨Below.refl _ _, Owns.nil _ _⟩⟩
  case round =>
    obtain ⟨j, hk, rfl, HR2⟩ := hrel
    obtain ⟨hbw, ho⟩ := HR2.out
    obtain ⟨A, c, c0, hat⟩ := (HG.out.below hbw).form
    obtain ⟨oA, oc, rfl, -⟩ := ho.form
    have hsz := hbw.size
    by_cases hj : j < G.length
    · have hd1 : (j : Int) < (G.length : Int) := by omega
      obtain ⟨x, hx⟩ := RowsC.at_some G j hj
      obtain ⟨g, o, E, k, rfl, c1, c2, c3, hr⟩ := hat j x hx
      have HGr := Lib.hid (HG.out.below hbw)
      have HB := Lib.hid hbw
      have HO := Lib.hid ho
      have HX := Lib.hid hx
      have hst := loops_step hx
      have bg : b < wr.heap.size := HGr.out.lt
      have gg : g < wr.heap.size := World.block_lt_of_cell? wr ⟨g, o + j * 3, none⟩ c1
      have HS := Lib.hid (show wr.cell? ⟨b, 0, none⟩ = some (.slice (some ⟨g, o, none⟩) G.length c) ∧ wr.cell? ⟨g, o + j * 3, none⟩ = some (.int .i64 x.1.r) ∧ wr.cell? ⟨g, o + j * 3 + 1, none⟩ = some (.int .i64 x.1.c) from ⟨c0, c1, c2⟩)
      have keep : ∀ W : World, Below wr.heap.size wr W → W.cell? ⟨b, 0, none⟩ = some (.slice (some ⟨g, o, none⟩) G.length c) ∧ W.cell? ⟨g, o + j * 3, none⟩ = some (.int .i64 x.1.r) ∧ W.cell? ⟨g, o + j * 3 + 1, none⟩ = some (.int .i64 x.1.c) := fun W h =>
        ⟨(h.cell (p := ⟨b, 0, none⟩) bg).trans c0, (h.cell (p := ⟨g, _, none⟩) gg).trans c1, (h.cell (p := ⟨g, _, none⟩) gg).trans c2⟩
      have HK := Lib.hid keep
      clear hbw ho hx hr hat keep
      go_wp2_with fail
      clear c0 c1 c2 c3
      have b1 : Below wr.heap.size wr (wr.alloc (.cells #[.int .i64 x.1.r, .int .i64 x.1.c] 35)).drew := below_d ((Below.refl _ _).alloc (Nat.le_refl _) _)
      have HC := Lib.hid (rReach b G [x.1] (some ⟨wr.heap.size, 0, none⟩) 1 (wr.alloc (.cells #[.int .i64 x.1.r, .int .i64 x.1.c] 35)).drew hb (by simp) (HGr.out.below b1) (pt_reads wr x.1))
      have HB1 := Lib.hid b1
      clear b1
      go_region_held3 (fun w' => w'.cell? ⟨b, 0, none⟩ = some (.slice (some ⟨g, o, none⟩) G.length c) ∧ w'.cell? ⟨g, o + j * 3, none⟩ = some (.int .i64 x.1.r) ∧ w'.cell? ⟨g, o + j * 3 + 1, none⟩ = some (.int .i64 x.1.c))
        (first | with_reducible exact HS.out | exact HK.out _ (below_d (Below.refl _ _)) | exact HK.out _ HB1.out | exact HK.out _ HB5.out | exact HK.out _ HB6.out)
        (first | (go_at_call 18
                  refine HC.out.mono ?_
                  rintro e w5 ⟨v5, rfl, ho5, hb5⟩
                  obtain ⟨A5, c5, rfl, -⟩ := ho5.form
                  have HB5 := Lib.hid (HB1.out.trans (hb5.mono HB1.out.size))
                  have HH := Lib.hid (rhas (reachL hitP G [x.1]) A5 c5 x.1 w5 (Nat.le_trans (reach_len _ _) (by omega)) (ho5.reads kindP.row).2)
                  clear ho5 hb5)
               | (go_at_call 48
                  refine HH.out.mono ?_
                  rintro e w6 ⟨rfl, hb6⟩
                  have HB6 := Lib.hid (HB5.out.trans (hb6.mono HB5.out.size))
                  clear hb6))
      have B6 := HB.out.trans (HB6.out.mono HB.out.size)
      have hsz6 := B6.size
      have HO6 := Lib.hid (HO.out.below HB6.out)
      obtain ⟨d0, d1, d2⟩ := HK.out _ HB6.out
      have HBB := Lib.hid B6
      clear B6
      cases hh : decide (x.1 ∈ reachL hitP G [x.1])
      · rw [hh, if_neg (by decide)] at hst
        have HS2 := Lib.hid hst
        clear hh hst
        go_wp2_with fail
        go_roundw
        case rel => exact ⟨j + 1, by omega, by go_num, Lib.hid ⟨HBB.out, by rw [HS2.out]; exact HO6.out⟩⟩
        case measure => simp [intOf]; omega
      · rw [hh, if_pos rfl] at hst
        have HS2 := Lib.hid hst
        have hlen : (loopsF G j).length + 1 ≤ 100000000 := by
          have := loops_len G j
          omega
        clear hh hst
        go_wp2_with (at_builtin
                     refine wpList_append_owns kindP _ rfl (.tmp 34) (.tmp 43) rfl (m := [x.1]) (B := w.heap.size) rfl rfl rfl (HO6.out.below ((Below.refl _ _).alloc (Nat.le_refl _) _)) (Boxed.new w6 x.1).reads hlen (by rw [World.size_alloc]; omega) ?_
                     intro v' w' ho' hg' hat'
                     have HD := Lib.hid (show Below w.heap.size w w' ∧ Owns fP 2 35 w' w.heap.size v' (loopsF G (j + 1)) from
                       ⟨below_grown (HBB.out.alloc hsz6 _) (by rw [World.size_alloc]; omega) hg' (fun i hi => (HO6.out.lt i hi).1), by rw [HS2.out]; exact ho'⟩)
                     clear ho' hg' hat')
        go_roundw
        case rel => exact ⟨j + 1, by omega, by go_num, HD⟩
        case measure => simp [intOf]; omega
    · have hd1 : ¬ (j : Int) < (G.length : Int) := by omega
      obtain rfl : j = G.length := by omega
      have hll : loopsF G G.length = loopsL hitP G := by unfold loopsF; rw [List.take_length]; rfl
      rw [hll] at ho
      have HF : Hid (CellsPost (loopsL hitP G) w (.returned (.slice oA (loopsL hitP G).length oc)) wr) := Lib.hid ⟨_, rfl, ho, hbw⟩
      clear hbw ho hat
      go_wp2_with fail
      go_ret
      exact HF.out
def bhP (G : Gl) (a x : Pt) : Bool := decide (x ≠ a) && (reachL hitP G [x]).contains a
theorem bh_any (G : Gl) (a : Pt) (l : List Pt) : behindB hitP G a l = l.any (bhP G a) := rfl
set_option maxHeartbeats 4000000 in
set_option maxRecDepth 100000 in
theorem rbehind {FP : Nat → Prop} (b : Nat) (G : Gl) (a : Pt) (l : List Pt) (C : Option Addr) (d : Nat) (w : World) (hb : Bnd G) (hl : l.length ≤ 1000000) (hG : GSt w FP b G) (hL : Reads fP 2 w w.heap.size l C) :
    Calls Tryz.prog 52 #[.pointer (some ⟨b, 0, none⟩), .agg #[.int .i64 a.r, .int .i64 a.c], .slice C l.length d] w fun e w' => e = .returned (.bool (behindB hitP G a l)) ∧ Below w.heap.size w w' := by
  have bW : Below w.heap.size w (w.alloc (.cells #[.int .i64 a.r, .int .i64 a.c] 35)) := (Below.refl _ w).alloc (Nat.le_refl _) _
  have hs : w.heap.size < (w.alloc (.cells #[.int .i64 a.r, .int .i64 a.c] 35)).heap.size := by simp
  have hX : Boxed fP 35 (w.alloc (.cells #[.int .i64 a.r, .int .i64 a.c] 35)) w.heap.size a := Boxed.new w a
  have HL := Lib.hid ((hL.below bW).mono bW.size)
  have HG := Lib.hid (hG.below bW)
  have hg1 := hb.1
  rw [bh_any]
  clear hL hG
  go_enter Tryz.func52, Tryz.ntmps52
  go_wp2_with fail
  generalize (w.alloc (.cells #[.int .i64 a.r, .int .i64 a.c] 35)) = W at *
  have HBW := Lib.hid bW
  have HX := Lib.hid hX
  have HFW : Hid (∀ V, Below W.heap.size W V → Below w.heap.size w V) := Lib.hid fun V h => HBW.out.trans (h.mono HBW.out.size)
  generalize hab : w.heap.size = ab at *
  clear bW hX
  go_loopw [7] (fun iv wr => ∃ j : Nat, j ≤ l.length ∧ iv = .int .i64 j ∧ Hid (Below W.heap.size W wr ∧ (l.take j).any (bhP G a) = false)) (fun iv _ => l.length - (intOf iv).toNat)
  case atStart => exact ⟨0, Nat.zero_le _, rfl, Lib.hid ⟨Below.refl _ _, rfl⟩⟩
  case round =>
    obtain ⟨j, hk, rfl, HR2⟩ := hrel
    obtain ⟨hbw, hn⟩ := HR2.out
    by_cases hlt : j < l.length
    · have hd1 : (j : Int) < (l.length : Int) := by omega
      obtain ⟨x, hx⟩ := RowsC.at_some l j hlt
      obtain ⟨g, o, rfl, hg0, c0, c1⟩ := Reads.pt (HL.out.below hbw) j x hx
      have hX2 := HX.out.below hbw hs
      have e0 := hX2.cells 0 _ rfl
      have e1 := hX2.cells 1 _ rfl
      have HB := Lib.hid hbw
      have HN : Hid ((l.take (j + 1)).any (bhP G a) = bhP G a x) := Lib.hid (by rw [List.take_add_one, hx, List.any_append, hn]; simp)
      have HY := Lib.hid hx
      have eN := neqP x a
      have HGr := Lib.hid (HG.out.below hbw)
      have bg : ab < wr.heap.size := hX2.lt
      have gg : g < wr.heap.size := World.block_lt_of_cell? wr ⟨g, o + j * 2, none⟩ c0
      clear hbw hn hx hX2
      by_cases hxa : x = a
      · rw [decide_eq_true hxa] at eN
        have HXA : Hid (bhP G a x = false) := Lib.hid (by unfold bhP; rw [hxa]; simp)
        clear hxa
        go_wp2_with fail
        go_quiet (fail)
        go_wp2_with fail
        go_roundw
        case rel => exact ⟨j + 1, by omega, by go_num, Lib.hid ⟨below_drewN' HB.out _, by rw [HN.out, HXA.out]⟩⟩
        case measure => simp [intOf]; omega
      · rw [decide_eq_false hxa] at eN
        have HXA := Lib.hid hxa
        clear hxa
        have HS := Lib.hid (show wr.cell? ⟨g, o + j * 2, none⟩ = some (.int .i64 x.r) ∧ wr.cell? ⟨g, o + j * 2 + 1, none⟩ = some (.int .i64 x.c) ∧ wr.cell? ⟨ab, 0, none⟩ = some (.int .i64 a.r) ∧ wr.cell? ⟨ab, 1, none⟩ = some (.int .i64 a.c) from ⟨c0, c1, e0, e1⟩)
        have HK := Lib.hid (show ∀ V : World, Below wr.heap.size wr V → V.cell? ⟨g, o + j * 2, none⟩ = some (.int .i64 x.r) ∧ V.cell? ⟨g, o + j * 2 + 1, none⟩ = some (.int .i64 x.c) ∧ V.cell? ⟨ab, 0, none⟩ = some (.int .i64 a.r) ∧ V.cell? ⟨ab, 1, none⟩ = some (.int .i64 a.c) from fun V h =>
          ⟨(h.cell (p := ⟨g, _, none⟩) gg).trans c0, (h.cell (p := ⟨g, _, none⟩) gg).trans c1, (h.cell (p := ⟨ab, 0, none⟩) bg).trans e0, (h.cell (p := ⟨ab, 1, none⟩) bg).trans e1⟩)
        have b1 : Below wr.heap.size wr (wr.alloc (.cells #[.int .i64 x.r, .int .i64 x.c] 35)).drew := below_d ((Below.refl _ _).alloc (Nat.le_refl _) _)
        have HC := Lib.hid (rReach b G [x] (some ⟨wr.heap.size, 0, none⟩) 1 (wr.alloc (.cells #[.int .i64 x.r, .int .i64 x.c] 35)).drew hb (by simp) (HGr.out.below b1) (pt_reads wr x))
        have HB1 := Lib.hid b1
        clear b1
        go_wp2_with fail
        clear c0 c1 e0 e1
        go_region_held3 (fun w' => w'.cell? ⟨g, o + j * 2, none⟩ = some (.int .i64 x.r) ∧ w'.cell? ⟨g, o + j * 2 + 1, none⟩ = some (.int .i64 x.c) ∧ w'.cell? ⟨ab, 0, none⟩ = some (.int .i64 a.r) ∧ w'.cell? ⟨ab, 1, none⟩ = some (.int .i64 a.c))
          (first | with_reducible exact HS.out | exact HK.out _ (below_d (Below.refl _ _)) | exact HK.out _ HB1.out | exact HK.out _ HB5.out | exact HK.out _ HB6.out)
          (first | (go_at_call 18
                    refine HC.out.mono ?_
                    rintro e w5 ⟨v5, rfl, ho5, hb5⟩
                    obtain ⟨A5, c5, rfl, -⟩ := ho5.form
                    have HB5 := Lib.hid (HB1.out.trans (hb5.mono HB1.out.size))
                    have HH := Lib.hid (rhas (reachL hitP G [x]) A5 c5 a w5 (Nat.le_trans (reach_len _ _) (by omega)) (ho5.reads kindP.row).2)
                    clear ho5 hb5)
                 | (go_at_call 48
                    refine HH.out.mono ?_
                    rintro e w6 ⟨rfl, hb6⟩
                    have HB6 := Lib.hid (HB5.out.trans (hb6.mono HB5.out.size))
                    clear hb6))
        have HBB := Lib.hid (HB.out.trans (HB6.out.mono HB.out.size))
        have HP : Hid (bhP G a x = decide (a ∈ reachL hitP G [x])) := Lib.hid (by unfold bhP; rw [decide_eq_true (show x ≠ a from HXA.out), Bool.true_and]; simp)
        cases hh : decide (a ∈ reachL hitP G [x])
        · rw [hh] at HP
          clear hh
          go_wp2_with fail
          go_roundw
          case rel => exact ⟨j + 1, by omega, by go_num, Lib.hid ⟨HBB.out, by rw [HN.out, HP.out]⟩⟩
          case measure => simp [intOf]; omega
        · rw [hh] at HP
          clear hh
          go_wp2_with fail
          go_ret
          exact ⟨ret1 (List.any_eq_true.2 ⟨x, List.mem_of_getElem? HY.out, HP.out⟩).symm, by first | exact HFW.out _ HBB.out | exact HFW.out _ HB.out | (rw [hab]; exact HFW.out _ HBB.out)⟩
    · have hd1 : ¬ (j : Int) < (l.length : Int) := by omega
      obtain rfl : j = l.length := by omega
      rw [List.take_length] at hn
      have HN := Lib.hid hn
      have HB := Lib.hid hbw
      clear hn hbw
      go_wp2_with fail
      go_ret
      exact ⟨ret1 HN.out.symm, by first | exact HFW.out _ HBB.out | exact HFW.out _ HB.out | (rw [hab]; exact HFW.out _ HBB.out)⟩
end Go.Proofs.YtakamedgdiffbaaGreatDoor.GraphC
namespace Go.Proofs.YtakamedgdiffbaaGreatDoor.GraphC
set_option linter.unusedVariables false
open Go.RowKit Go.Proofs.YtakamedgdiffbaaGreatDoor.NumC Go.Proofs.YtakamedgdiffbaaGreatDoor.RowsC
open Go.Proofs.YtakamedgdiffbaaGreatDoor.RefsC (Rc RAt hitsL)
def todoF (G : Gl) (l : List Pt) (j : Nat) : List Pt := (cellsL (G.take j)).filter fun a => l.contains a && !(loopsL hitP G).contains a
theorem todo_step {G : Gl} {j : Nat} {x : Pt × List Rc} (hx : G[j]? = some x) (l : List Pt) : todoF G l (j + 1) = if (decide (x.1 ∈ l) && !decide (x.1 ∈ loopsL hitP G)) = true then todoF G l j ++ [x.1] else todoF G l j := by
  unfold todoF cellsL
  rw [List.take_add_one, hx, List.map_append, List.filter_append]
  split
  · rename_i h; rw [show (some x).toList.map Prod.fst = [x.1] from rfl, List.filter_cons_of_pos (by simpa using h)]; rfl
  · rename_i h; rw [show (some x).toList.map Prod.fst = [x.1] from rfl, List.filter_cons_of_neg (by simpa using h)]; simp
theorem todo_len (G : Gl) (l : List Pt) (j : Nat) : (todoF G l j).length ≤ G.length := by
  unfold todoF cellsL
  refine Nat.le_trans (List.length_filter_le _ _) ?_
  rw [List.length_map, List.length_take]; omega
theorem loops_len2 (G : Gl) : (loopsL hitP G).length ≤ G.length := by
  unfold loopsL cellsL
  refine Nat.le_trans (List.length_filter_le _ _) ?_
  rw [List.length_map]; exact Nat.le_refl _
theorem find_at {A : Type} (p : A → Bool) (l : List A) (k : Nat) (a : A) (ha : l[k]? = some a) (hp : p a = true) (hn : ∀ i y, i < k → l[i]? = some y → p y = false) : l.find? p = some a := by
  rw [List.find?_eq_some_iff_getElem]
  obtain ⟨hk, hv⟩ := List.getElem?_eq_some_iff.1 ha
  refine ⟨hp, k, hk, hv, fun i hi => ?_⟩
  rw [hn i _ hi (List.getElem?_eq_getElem (by omega))]; rfl
section
variable {A : Type} [DecidableEq A]
theorem erase_at (l : List A) (k : Nat) (a : A) (ha : l[k]? = some a) (hn : ∀ i, i < k → l[i]? ≠ some a) : l.erase a = l.take k ++ l.drop (k + 1) := by
  induction l generalizing k with
  | nil => cases ha
  | cons y l ih =>
    cases k with
    | zero => cases ha; simp
    | succ k =>
      have hy : y ≠ a := fun e => hn 0 (by omega) (by rw [e]; rfl)
      rw [List.erase_cons_tail (by simpa using hy), ih k (by simpa using ha) (fun i hi => by simpa using hn (i + 1) (by omega))]
      simp
theorem order_more (bh : A → List A → Bool) (n : Nat) (l : List A) (k : Nat) (a : A) (ha : l[k]? = some a) (hb : bh a l = false) (hn : ∀ i y, i < k → l[i]? = some y → bh y l = true) :
    orderF bh (n + 1) l = a :: orderF bh n (l.take k ++ l.drop (k + 1)) := by
  have hne : ∀ i, i < k → l[i]? ≠ some a := fun i hi e => by have := hn i a hi e; rw [hb] at this; cases this
  conv => lhs; unfold orderF
  rw [find_at (fun a => !bh a l) l k a ha (by simp [hb]) (fun i y hi hy => by simp [hn i y hi hy])]
  show a :: orderF bh n (l.erase a) = _
  rw [erase_at l k a ha hne]
theorem order_end (bh : A → List A → Bool) (n : Nat) (l : List A) (hn : ∀ i y, i < l.length → l[i]? = some y → bh y l = true) : orderF bh n l = [] := by
  cases n with
  | zero => rfl
  | succ n =>
    unfold orderF
    have : l.find? (fun a => !bh a l) = none := by
      rw [List.find?_eq_none]
      intro x hx
      obtain ⟨i, hi, hv⟩ := List.mem_iff_getElem.1 hx
      simp [hn i x hi (by rw [List.getElem?_eq_getElem hi, hv])]
    rw [this]
end
def lenV : Value → Nat
  | .slice _ n _ => n
  | _ => 0
structure TIn (w wr : World) (G : Gl) (l : List Pt) (LA : Option Addr) (j : Nat) (tv : Value) : Prop where
  below : Below w.heap.size w wr
  todo : Owns fP 2 35 wr w.heap.size tv (todoF G l j)
  loops : Reads fP 2 wr wr.heap.size (loopsL hitP G) LA
  sepr : loopsL hitP G ≠ [] → ∀ a, LA = some a → tv.ownBlock ≠ some a.block
theorem TIn.under {w wr w5 : World} {G : Gl} {l : List Pt} {LA : Option Addr} {j : Nat} {tv : Value} (h : TIn w wr G l LA j tv) (hb : Below wr.heap.size wr w5) : TIn w w5 G l LA j tv :=
  { h with below := h.below.trans (hb.mono h.below.size), todo := h.todo.below hb, loops := (h.loops.below hb).mono hb.size }
theorem TIn.step {w wr w' : World} {G : Gl} {l : List Pt} {LA : Option Addr} {j : Nat} {tv v' : Value} {x : Pt} (h : TIn w wr G l LA j tv) (e : todoF G l (j + 1) = todoF G l j ++ [x]) (ho : Owns fP 2 35 w' w.heap.size v' (todoF G l j ++ [x])) (hg : wr.grownBy w' tv.ownBlock) (ha : v'.ownBlock = tv.ownBlock ∨ v'.ownBlock = some wr.heap.size) : TIn w w' G l LA (j + 1) v' where
  below := below_grown h.below h.below.size hg (fun i hi => (h.todo.lt i hi).1)
  todo := by rw [e]; exact ho
  loops := (h.loops.grown (Nat.le_refl _) hg h.sepr).mono hg.size
  sepr := fun hne a haA => by
    rcases ha with ha | ha
    · rw [ha]; exact h.sepr hne a haA
    · rw [ha]
      intro e2
      have e3 := Option.some.inj e2
      rcases h.loops with h0 | ⟨g, o, e4, hg2, -⟩
      · exact hne h0
      · rw [haA] at e4; cases e4; simp at e3; omega
structure OSt (w wr : World) (G : Gl) (O todo out : List Pt) (tv ov : Value) : Prop where
  below : Below w.heap.size w wr
  td : Owns fP 2 35 wr w.heap.size tv todo
  ou : Owns fP 2 35 wr w.heap.size ov out
  sepr : tv.ownBlock = none ∨ tv.ownBlock ≠ ov.ownBlock
  len : out.length + todo.length ≤ 1000
  is : out ++ orderF (behindB hitP G) todo.length todo = O
theorem OSt.under {w wr w5 : World} {G : Gl} {O todo out : List Pt} {tv ov : Value} (h : OSt w wr G O todo out tv ov) (hb : Below wr.heap.size wr w5) : OSt w w5 G O todo out tv ov :=
  { h with below := h.below.trans (hb.mono h.below.size), td := h.td.below hb, ou := h.ou.below hb }
theorem take_drop_len (l : List Pt) (k : Nat) (hk : k < l.length) : (l.take k ++ l.drop (k + 1)).length + 1 = l.length := by
  rw [List.length_append, List.length_take, List.length_drop]; omega
theorem OSt.next {w wr w' w9 : World} {G : Gl} {O todo out : List Pt} {tv ov ov' tv' : Value} {k : Nat} {a : Pt} (h : OSt w wr G O todo out tv ov) (ha : todo[k]? = some a) (hb : behindB hitP G a todo = false) (hn : ∀ i y, i < k → todo[i]? = some y → behindB hitP G y todo = true)
    (ho : Owns fP 2 35 w' w.heap.size ov' (out ++ [a])) (hbl : Below w.heap.size w w9) (hb9 : Below w'.heap.size w' w9) (ht : Owns fP 2 35 w9 w'.heap.size tv' (todo.take k ++ todo.drop (k + 1))) (hs : w.heap.size ≤ w'.heap.size) : OSt w w9 G O (todo.take k ++ todo.drop (k + 1)) (out ++ [a]) tv' ov' where
  below := hbl
  td := ht.mono hs
  ou := ho.below hb9
  sepr := by
    cases hv : tv'.ownBlock with
    | none => exact Or.inl rfl
    | some q =>
      right
      intro e
      have h1 := (ht.lt q hv).1
      have h2 := (ho.lt q e.symm).2
      omega
  len := by
    have := take_drop_len todo k (List.getElem?_eq_some_iff.1 ha).1
    have := h.len
    simp only [List.length_append, List.length_singleton] at *
    omega
  is := by
    have hl := take_drop_len todo k (List.getElem?_eq_some_iff.1 ha).1
    have := h.is
    rw [← hl, order_more _ _ _ k a ha hb hn] at this
    rw [← this, List.append_assoc]; rfl
set_option maxHeartbeats 4000000 in
set_option maxRecDepth 100000 in
theorem rOrder {FP : Nat → Prop} (b : Nat) (G : Gl) (l : List Pt) (C : Option Addr) (d : Nat) (w : World) (hb : Bnd G) (hl : l.length ≤ 1000000) (hG : GSt w FP b G) (hL : Reads fP 2 w w.heap.size l C) :
    Calls Tryz.prog 22 #[.pointer (some ⟨b, 0, none⟩), .slice C l.length d] w (CellsPost (orderL hitP G l) w) := by
  have hlt := hG.lt
  have hg1 := hb.1
  have HG := Lib.hid hG
  have HL := Lib.hid hL
  have hcall := rLoops b G w hb hG
  clear hG hL
  go_enter Tryz.func22, Tryz.ntmps22
  go_wp2_with fail
  refine hcall.mono ?_; rintro e w1 ⟨lv, rfl, ho1, hb1⟩
  obtain ⟨LA, lc, rfl, -⟩ := ho1.form
  have HI : Hid (TIn w w1 G l LA 0 (.slice none 0 0)) := Lib.hid ⟨hb1, Owns.nil _ _, (ho1.reads kindP.row).2, fun _ a _ h => by cases h⟩
  have hll : (loopsL hitP G).length ≤ 1000000 := Nat.le_trans (loops_len2 G) (by omega)
  clear hcall ho1 hb1
  go_wp2_with fail
  go_loopw [6, 7] (fun tv iv wr => ∃ j : Nat, j ≤ G.length ∧ iv = .int .i64 j ∧ Hid (TIn w wr G l LA j tv)) (fun _ iv _ => G.length - (intOf iv).toNat)
  case atStart => exact ⟨0, Nat.zero_le _, rfl, HI⟩
  case round =>
    clear HI
    obtain ⟨j, hk, rfl, HR2⟩ := hrel
    have R := HR2.out
    obtain ⟨A, c, c0, hat⟩ := (HG.out.below R.below).form
    obtain ⟨tA, tc, rfl, -⟩ := R.todo.form
    have hsz := R.below.size
    by_cases hj : j < G.length
    · have hd1 : (j : Int) < (G.length : Int) := by omega
      obtain ⟨x, hx⟩ := RowsC.at_some G j hj
      obtain ⟨g, o, E, k, rfl, c1, c2, c3, hr⟩ := hat j x hx
      have HR := Lib.hid R
      have hst := todo_step hx l
      clear R hx hr hat HR2
      have bW : Below wr.heap.size wr (wr.alloc (.cells #[.int .i64 x.1.r, .int .i64 x.1.c] 35)) := (Below.refl _ _).alloc (Nat.le_refl _) _
      have hX : Boxed fP 35 (wr.alloc (.cells #[.int .i64 x.1.r, .int .i64 x.1.c] 35)) wr.heap.size x.1 := Boxed.new wr x.1
      have HRW := Lib.hid (HR.out.under bW)
      have hcall := rhas l C d x.1 (wr.alloc (.cells #[.int .i64 x.1.r, .int .i64 x.1.c] 35)) hl ((HL.out.below HRW.out.below).mono HRW.out.below.size)
      have hw9 := hX.lt
      clear bW
      go_wp2_with fail
      refine hcall.mono ?_; rintro e5 w5 ⟨rfl, hb5⟩
      have HR5 := Lib.hid (HRW.out.under hb5)
      have hX5 := hX.below hb5 hw9
      have HX5 := Lib.hid hX5
      have f0 := hX5.cells 0 _ rfl
      have f1 := hX5.cells 1 _ rfl
      have hs5 := HR5.out.below.size
      have hs59 : wr.heap.size < w5.heap.size := hX5.lt
      generalize wr.heap.size = xb at *
      clear hb5 hcall hX hw9 hX5 c0 c1 c2 c3 HRW HR
      cases h1 : decide (x.1 ∈ l)
      · have HS2 : Hid (todoF G l (j + 1) = todoF G l j) := Lib.hid (by rw [hst, h1]; rfl)
        have HD : Hid (TIn w w5 G l LA (j + 1) (.slice tA (todoF G l j).length tc)) := Lib.hid { HR5.out with todo := by rw [HS2.out]; exact HR5.out.todo }
        clear hst h1
        go_wp2_with fail
        go_roundw
        case rel => exact ⟨j + 1, by omega, by go_num, HD⟩
        case measure => simp [intOf]; omega
      · have hcall := rhas (loopsL hitP G) LA lc x.1 w5 hll HR5.out.loops
        go_wp2_with fail
        refine hcall.mono ?_; rintro e6 w6 ⟨rfl, hb6⟩
        have HR6 := Lib.hid (HR5.out.under hb6)
        have hX6 := HX5.out.below hb6 hs59
        have g0 := hX6.cells 0 _ rfl
        have g1 := hX6.cells 1 _ rfl
        have hs6 := HR6.out.below.size
        clear hb6 hcall hX6 f0 f1 HR5 HX5
        cases h2 : decide (x.1 ∈ loopsL hitP G)
        · have HS2 : Hid (todoF G l (j + 1) = todoF G l j ++ [x.1]) := Lib.hid (by rw [hst, h1, h2]; rfl)
          have hlen : (todoF G l j).length + 1 ≤ 100000000 := by
            have := todo_len G l j
            omega
          clear hst h1 h2
          go_wp2_with (at_builtin
                       refine wpList_append_owns kindP _ rfl (.tmp 39) (.tmp 41) rfl (m := [x.1]) (B := w.heap.size) rfl rfl rfl (HR6.out.todo.below ((Below.refl _ _).alloc (Nat.le_refl _) _)) (Boxed.new w6 x.1).reads hlen (by rw [World.size_alloc]; omega) ?_
                       intro v' w' ho' hg' hat'
                       have HD := Lib.hid ((HR6.out.under ((Below.refl _ _).alloc (Nat.le_refl _) _)).step HS2.out ho' hg' hat')
                       clear ho' hg' hat')
          go_roundw
          case rel => exact ⟨j + 1, by omega, by go_num, HD⟩
          case measure => simp [intOf]; omega
        · have HS2 : Hid (todoF G l (j + 1) = todoF G l j) := Lib.hid (by rw [hst, h1, h2]; rfl)
          have HD : Hid (TIn w w6 G l LA (j + 1) (.slice tA (todoF G l j).length tc)) := Lib.hid { HR6.out with todo := by rw [HS2.out]; exact HR6.out.todo }
          clear hst h1 h2
          go_wp2_with fail
          go_roundw
          case rel => exact ⟨j + 1, by omega, by go_num, HD⟩
          case measure => simp [intOf]; omega
    · have hd1 : ¬ (j : Int) < (G.length : Int) := by omega
      obtain rfl : j = G.length := by omega
      have htl : todoF G l G.length = todoL hitP G l := by unfold todoF; rw [List.take_length]; rfl
      have htn := todo_len G l G.length
      have HO : Hid (OSt w wr G (orderL hitP G l) (todoF G l G.length) [] (.slice tA (todoF G l G.length).length tc) (.slice none 0 0)) := Lib.hid ⟨R.below, R.todo, Owns.nil _ _, (by
        cases h : (Value.slice tA (todoF G l G.length).length tc).ownBlock with
        | none => exact Or.inl rfl
        | some q => exact Or.inr fun e => by cases e), by simp only [List.length_nil]; omega, by rw [htl]; rfl⟩
      generalize todoF G l G.length = todo0 at *
      generalize hO : orderL hitP G l = O at *
      clear R hat HR2 htl
      go_wp2_with fail
      go_loopw [6, 9] (fun tv ov wr => Hid (∃ todo out, OSt w wr G O todo out tv ov)) (fun tv _ _ => lenV tv)
      case atStart => exact Lib.hid ⟨_, _, HO.out⟩
      case round =>
        clear HO
        obtain ⟨todo, out, R⟩ := hrel.out
        obtain ⟨tA2, tc2, rfl, htc, htn2, hta⟩ := R.td.form
        obtain ⟨oA, oc, rfl, -⟩ := R.ou.form
        have hlen := R.len
        by_cases hj : 0 < todo.length
        · have hd2 : (0 : Int) < (todo.length : Int) := by omega
          have HR : Hid (OSt w wr G O todo out (.slice tA2 todo.length tc2) (.slice oA out.length oc) ∧ ∀ i y, i < 0 → todo[i]? = some y → behindB hitP G y todo = true) := Lib.hid ⟨R, fun i y h => absurd h (Nat.not_lt_zero _)⟩
          clear R hrel
          go_wp2_with fail
          go_loopw [10] (fun av wr => ∃ k : Nat, k ≤ todo.length ∧ av = .int .i64 k ∧ Hid (OSt w wr G O todo out (.slice tA2 todo.length tc2) (.slice oA out.length oc) ∧ ∀ i y, i < k → todo[i]? = some y → behindB hitP G y todo = true)) (fun av _ => todo.length - (intOf av).toNat)
          case atStart => exact ⟨0, Nat.zero_le _, rfl, HR⟩
          case round =>
            clear HR
            obtain ⟨k, hk0, rfl, HR3⟩ := hrel
            obtain ⟨R, hn⟩ := HR3.out
            have htr := (R.td.reads kindP.row).2
            by_cases hk1 : k < todo.length
            · have hd3 : (k : Int) < (todo.length : Int) := by omega
              obtain ⟨x, hx⟩ := RowsC.at_some todo k hk1
              obtain ⟨g, o, rfl, -, c1, c2⟩ := Reads.pt htr k x hx
              have hcall := rbehind b G x todo (some ⟨g, o, none⟩) tc2 wr hb (by omega) (HG.out.below R.below) htr
              have HR := Lib.hid R
              have HN := Lib.hid hn
              have HX := Lib.hid hx
              clear R hn hx HR3
              go_wp2_with fail
              refine hcall.mono ?_; rintro e5 w5 ⟨rfl, hb5⟩
              have HR5 := Lib.hid (HR.out.under hb5)
              have htr5 := (HR5.out.td.reads kindP.row).2
              obtain ⟨g9, o9, e9, -, f1, f2⟩ := Reads.pt htr5 k x HX.out
              obtain ⟨e91, e92⟩ : g9 = g ∧ o9 = o := by injection e9 with e9; injection e9 with e1 e2; exact ⟨e1.symm, e2.symm⟩
              subst e91 e92
              have hs5 := HR5.out.below.size
              clear hb5 hcall htr htr5 e9 c1 c2 HR
              cases hbh : behindB hitP G x todo
              · have HBH := Lib.hid hbh
                have hd4 : ((k : Int) == (todo.length : Int)) = false := by simp; omega
                clear hbh
                go_wp2_with (at_builtin
                             refine wpList_append_owns kindP _ rfl (.tmp 65) (.tmp 70) rfl (m := [x]) (l := out) (B := w.heap.size) rfl rfl rfl (HR5.out.ou.below ((Below.refl _ _).alloc (Nat.le_refl _) _)) (Boxed.new w5 x).reads (by simp; omega) (by rw [World.size_alloc]; omega) ?_
                             intro ov' w' ho' hg' hat'
                             have HO' := Lib.hid ho'
                             have HG' := Lib.hid hg'
                             clear ho' hg' hat')
                have hsz' : w.heap.size ≤ w'.heap.size := Nat.le_trans hs5 (Nat.le_trans (by rw [World.size_alloc]; omega) HG'.out.size)
                have ht' : Reads fP 2 w' w'.heap.size todo (some ⟨g9, o9, none⟩) := by
                  have b1 : Below w5.heap.size w5 (w5.alloc (.cells #[.int .i64 x.r, .int .i64 x.c] 35)) := (Below.refl _ _).alloc (Nat.le_refl _) _
                  have := ((HR5.out.td.below b1).grown HG'.out (by
                    rcases HR5.out.sepr with h | h
                    · exact Or.inl h
                    · exact Or.inr h))
                  exact (this.reads kindP.row).2
                have HT := Lib.hid ht'
                have hB' : Below w.heap.size w w' := below_grown (HR5.out.below.alloc hs5 _) (by rw [World.size_alloc]; omega) HG'.out (fun i hi => (HR5.out.ou.lt i hi).1)
                have HB' := Lib.hid hB'
                clear ht' hB' f1 f2
                have hk2 : (k : Int) ≤ (todo.length : Int) := by omega
                have hk3 : (k : Int) ≤ (tc2 : Int) := by omega
                obtain ⟨k1, hke⟩ : ∃ k1, k1 = k + 1 := ⟨_, rfl⟩
                have hk4 : (k1 : Int) ≤ (todo.length : Int) := by omega
                have hk5 : (k1 : Int) ≤ (tc2 : Int) := by omega
                have hk6 : IntKind.i64.wrap ((k : Int) + 1) = (k1 : Int) := by rw [IntKind.wrap_i64]; omega
                have hk7 : (0 : Int) ≤ (k : Int) := by omega
                have hk8 : (0 : Int) ≤ (k1 : Int) := by omega
                have hdl : (todo.drop k1).length = todo.length - k1 := List.length_drop ..
                have HKE := Lib.hid hke
                clear hke
                have hkl : (todo.take k).length = k := by rw [List.length_take, Nat.min_eq_left (by omega)]
                have HNX : Hid (∀ (v8 : Value) (w8 : World), Below w'.heap.size w' w8 → Owns fP 2 35 w8 w'.heap.size v8 ([] ++ todo.take k ++ todo.drop k1) → OSt w w8 G O (todo.take k ++ todo.drop k1) (out ++ [x]) v8 ov' ∧ lenV v8 < lenV (.slice (some ⟨g9, o9, none⟩) todo.length tc2)) := Lib.hid fun v8 w8 hb8 ho8 => by
                  have hke := HKE.out
                  rw [List.nil_append] at ho8
                  subst hke
                  refine ⟨HR5.out.next HX.out HBH.out HN.out HO'.out (HB'.out.trans (hb8.mono hsz')) hb8 ho8 hsz', ?_⟩
                  obtain ⟨A8, c8, rfl, -⟩ := ho8.form
                  have := take_drop_len todo k hk1
                  show (todo.take k ++ todo.drop (k + 1)).length < todo.length
                  omega
                by_cases hck : tc2 = k1
                · have hdn : todo.drop k1 = [] := List.drop_eq_nil_of_le (by omega)
                  have HDN := Lib.hid hdn
                  subst hck
                  have b7 : Below w'.heap.size w' (w'.alloc (.cells #[] 35)).drew := below_d ((Below.refl _ _).alloc (Nat.le_refl _) _)
                  have E7 := Lib.hid (show Owns fP 2 35 (w'.alloc (.cells #[] 35)).drew w'.heap.size (.slice (some ⟨w'.heap.size, 0, none⟩) 0 0) [] from Owns.empty w' _ (Nat.le_refl _))
                  have T7 := Lib.hid ((HT.out.take k).below b7)
                  have B7 := Lib.hid b7
                  clear b7
                  go_region_held3 (fun _ => True) (trivial)
                    (first | (refine step_append_owns kindP _ rfl (.tmp 72) (.tmp 75) rfl (l := []) (m := todo.take k) (B := w'.heap.size) (M := w'.heap.size) rfl rfl hkl.symm E7.out T7.out (by simp; omega) B7.out.size ?_
                              intro v7 w7 ho7 hg7 hat7
                              have BB7 := Lib.hid (below_grown B7.out B7.out.size hg7 (fun i hi => by cases hi; exact Nat.le_refl _))
                              have TT7 := Lib.hid (show Reads fP 2 w7 w'.heap.size (todo.drop tc2) (some ⟨g9, o9, none⟩) from Or.inl HDN.out)
                              have HO7 := Lib.hid ho7
                              clear ho7 hg7 hat7)
                           | (refine step_append_owns kindP _ rfl (.tmp 76) (.tmp 80) rfl (l := [] ++ todo.take k) (m := todo.drop tc2) (B := w'.heap.size) (M := w'.heap.size) rfl rfl (show 0 = (todo.drop tc2).length by rw [HDN.out]; rfl) HO7.out TT7.out (by simp; omega) BB7.out.size ?_
                              intro v8 w8 ho8 hg8 hat8
                              have HE := Lib.hid (HNX.out v8 w8 (below_grown BB7.out BB7.out.size hg8 (fun i hi => (HO7.out.lt i hi).1)) ho8)
                              clear ho8 hg8 hat8))
                  have HM := Lib.hid HE.out.2
                  replace HE := Lib.hid HE.out.1
                  go_wp2_with fail
                  go_roundw
                  case rel => exact Lib.hid ⟨_, _, HE.out⟩
                  case measure => exact HM.out
                · skip
                  have b7 : Below w'.heap.size w' (w'.alloc (.cells #[] 35)).drew := below_d ((Below.refl _ _).alloc (Nat.le_refl _) _)
                  have E7 := Lib.hid (show Owns fP 2 35 (w'.alloc (.cells #[] 35)).drew w'.heap.size (.slice (some ⟨w'.heap.size, 0, none⟩) 0 0) [] from Owns.empty w' _ (Nat.le_refl _))
                  have T7 := Lib.hid ((HT.out.take k).below b7)
                  have B7 := Lib.hid b7
                  clear b7
                  go_region_held3 (fun _ => True) (trivial)
                    (first | (refine step_append_owns kindP _ rfl (.tmp 72) (.tmp 75) rfl (l := []) (m := todo.take k) (B := w'.heap.size) (M := w'.heap.size) rfl rfl hkl.symm E7.out T7.out (by simp; omega) B7.out.size ?_
                              intro v7 w7 ho7 hg7 hat7
                              have BB7 := Lib.hid (below_grown B7.out B7.out.size hg7 (fun i hi => by cases hi; exact Nat.le_refl _))
                              have TT7 := Lib.hid ((HT.out.drop k1).below BB7.out)
                              have HO7 := Lib.hid ho7
                              clear ho7 hg7 hat7)
                           | (refine step_append_owns kindP _ rfl (.tmp 76) (.tmp 80) rfl (l := [] ++ todo.take k) (m := todo.drop k1) (B := w'.heap.size) (M := w'.heap.size) rfl rfl hdl.symm HO7.out TT7.out (by simp; omega) BB7.out.size ?_
                              intro v8 w8 ho8 hg8 hat8
                              have HE := Lib.hid (HNX.out v8 w8 (below_grown BB7.out BB7.out.size hg8 (fun i hi => (HO7.out.lt i hi).1)) ho8)
                              clear ho8 hg8 hat8))
                  have HM := Lib.hid HE.out.2
                  replace HE := Lib.hid HE.out.1
                  go_wp2_with fail
                  go_roundw
                  case rel => exact Lib.hid ⟨_, _, HE.out⟩
                  case measure => exact HM.out
              · have HBH := Lib.hid hbh
                clear hbh
                go_wp2_with fail
                go_roundw
                case rel => exact ⟨k + 1, by omega, by go_num, Lib.hid ⟨HR5.out, fun i y hi hy => by
                  by_cases e : i = k
                  · subst e; rw [HX.out] at hy; cases hy; exact HBH.out
                  · exact HN.out i y (by omega) hy⟩⟩
                case measure => simp [intOf]; omega
            · have hd3 : ¬ (k : Int) < (todo.length : Int) := by omega
              obtain rfl : k = todo.length := by omega
              have HF : Hid (CellsPost O w (.returned (.slice oA out.length oc)) wr) := Lib.hid ⟨_, rfl, by
                have h1 := R.is
                rw [order_end _ _ _ hn, List.append_nil] at h1
                rw [← h1]; exact R.ou, R.below⟩
              clear R hn HR3 htr
              go_wp2_with fail
              go_ret
              exact HF.out
        · have hd2 : ¬ (0 : Int) < (todo.length : Int) := by omega
          have hF : CellsPost O w (.returned (.slice oA out.length oc)) wr := ⟨_, rfl, by
            have h1 := R.is
            rw [List.length_eq_zero_iff.1 (show todo.length = 0 by omega)] at h1
            have h2 : out = O := by rw [← h1]; exact (List.append_nil _).symm
            rw [← h2]; exact R.ou, R.below⟩
          have HF := Lib.hid hF
          clear R hF hrel
          go_wp2_with fail
          go_ret
          exact HF.out
end Go.Proofs.YtakamedgdiffbaaGreatDoor.GraphC
