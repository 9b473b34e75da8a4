/-
  Contract of the reference's Good.
-/
import Derived.Test.YticehalcnbjccaaGreatDoorRTreeP8
import Derived.Test.YticehalcnbjccaaGreatDoorRTreeK6
namespace Go.Proofs.YticehalcnbjccaaGreatDoor.TreeC
set_option maxRecDepth 100000
set_option maxHeartbeats 8000000
set_option linter.unusedVariables false
open Go.RowKit NumC LexC
open Cd
open Tryz
open Lib (hid)
theorem Fo.all_app (p : Fld → Nat → Bool) (x y : Fo) : (x.app y).all p = (x.all p && y.all p) := by
 induction x with
 | nil => simp [Fo.app, Fo.all]
 | cons f k n _ ih => simp only [Fo.app, Fo.all, ih, Bool.and_assoc]
theorem Fo.all_step (p : Fld → Nat → Bool) (q : Fo) (k : Nat) (h : k < q.len) : (q.drop k).all p = (p (q.nth k).f (q.nth k).kids.len && ((q.app (q.nth k).kids).drop (k + 1)).all p) := by
 rw [Fo.queue q k h, Fo.all_app, Fo.all_drop p q k h]
 unfold Nd.all
 cases (q.nth k).kids.all p <;> cases p (q.nth k).f (q.nth k).kids.len <;> cases (q.drop (k + 1)).all p <;> rfl
theorem Fo.short_node (q : Fo) (k : Nat) (h : k < q.len) (hs : (q.drop k).Short) : (q.nth k).f.op.size ≤ 1000000 ∧ ((q.app (q.nth k).kids).drop (k + 1)).Short := by
 rw [Fo.drop_nth q k h] at hs
 refine ⟨Nat.le_trans hs.1.2 (by decide), ?_⟩
 rw [Fo.queue q k h, Fo.short_app]
 exact ⟨hs.2.2, hs.2.1⟩
def GdIn (a : Nd) (w wr : World) (k : Nat) (v : Value) : Prop := ∃ q : Fo, k ≤ q.len ∧ QS wr w.heap.size v q ∧ Below w.heap.size w wr ∧ k + (q.drop k).size = a.size ∧ (q.drop k).Short ∧ (q.drop k).all fitsB = a.all fitsB
theorem rGood (a : Nd) (A : Option Addr) (c : Nat) (w : World) (hs : a.size ≤ 2000) (hsh : a.one.Short) (hK : KidsAt w (fun g => g < w.heap.size) a.kids A) : Calls prog 59 #[.agg (jN a.f A a.kids.len c)] w fun e w' => e = .returned (.bool (goodT fitsB a)) ∧ Below w.heap.size w w' := by
 have b1 : Below w.heap.size w (w.alloc (.cells (jN a.f A a.kids.len c) 31)) := (Below.refl _ _).alloc (Nat.le_refl _) _
 have L1 : NLoc (w.alloc (.cells (jN a.f A a.kids.len c) 31)) w.heap.size a.f A a.kids.len c := ⟨heap_alloc_new _ _⟩
 have HK1 := hid (below_row hK b1)
 have HK := hid hK
 have HSH := hid hsh
 have HS := hid hs
 have hdd : a.deep ≤ a.size := by have := Fo.deep_size a.kids; unfold Nd.deep Nd.size; omega
 have hd1 : 1 ≤ a.deep := by unfold Nd.deep; omega
 generalize hG : goodT fitsB a = G
 have HG : Hid (G = (decide (a.deep ≤ 16) && a.all fitsB)) := hid (by rw [← hG]; unfold goodT; rw [decide_eq_true hs, Bool.true_and])
 clear hK hsh hG
 obtain ⟨d0, d1, d2, d3, d4, d5, d6, d7, d8, d9, -⟩ := L1.cells
 go_enter func59, ntmps59
 go_wp2_with fail
 generalize (w.alloc (.cells (jN a.f A a.kids.len c) 31)) = W1 at *
 refine (rDepth a A c W1 HK1.out).mono ?_; rintro e w2 ⟨rfl, hb2⟩
 rw [if_pos HS.out]
 have B2 : Below w.heap.size w w2 := b1.trans (hb2.mono b1.size)
 have L2 := L1.kept (Kept.of (x := W1.heap.size) hb2) (Nat.ne_of_lt L1.lt)
 clear L1 b1 HK1 d0 d1 d2 d3 d4 d5 d6 d7 d8 d9
 have t0 : ¬ ((a.deep : Int) < 1) := by omega
 obtain ⟨d0, d1, d2, d3, d4, d5, d6, d7, d8, d9, -⟩ := L2.cells
 have HB2 := hid B2
 by_cases h16 : a.deep ≤ 16
 · have t1 : ¬ (16 : Int) < (a.deep : Int) := by omega
   have HG2 : Hid (G = a.all fitsB) := hid (by rw [HG.out, decide_eq_true h16, Bool.true_and])
   have b3 : Below w.heap.size w (w2.alloc (.cells (jN a.f A a.kids.len c) 31)) := B2.alloc B2.size _
   have HQ : Hid (GdIn a w (w2.alloc (.cells (jN a.f A a.kids.len c) 31)) 0 (.slice (some ⟨w2.heap.size, 0, none⟩) 1 1)) := hid ⟨a.one, Nat.zero_le _, QS.one (f := a.f) (kd := a.kids) (c := c) (heap_alloc_new _ _) B2.size rfl (kids_below HK.out b3 (Nat.le_refl _)), b3, by rw [Nat.zero_add, Fo.drop_zero, Nd.one_size], by rw [Fo.drop_zero]; exact HSH.out, by rw [Fo.drop_zero]; simp [Nd.one, Fo.all, Nd.all]⟩
   clear hb2 B2 b3 L2 HG hdd hd1 h16
   go_wp2_with fail
   go_loopw [4, 5] (fun v iv wr => ∃ k : Nat, k ≤ 2000 ∧ iv = .int .i64 k ∧ Hid (GdIn a w wr k v)) (fun _ iv _ => 2000 - (intOf iv).toNat)
   case atStart => exact ⟨0, by omega, rfl, HQ⟩
   case round =>
     clear HQ HB2 d0 d1 d2 d3 d4 d5 d6 d7 d8 d9
     obtain ⟨k, hk, rfl, HR⟩ := hrel
     obtain ⟨q, hkq, hQ, hB, hsz, hsr, hal⟩ := HR.out
     clear HR
     have hql : q.len ≤ 2000 := by
       have h1 := Fo.len_size (q.drop k)
       rw [Fo.len_drop] at h1
       omega
     by_cases hlt : k < q.len
     · obtain ⟨g, c9, A2, c2, rfl, hg0, hg1, hkid, f0, f1, f2, f3, f4, f5, f6, f7, f8, f9⟩ := hQ.nth k hlt
       have hd1 : (k : Int) < (q.len : Int) := by omega
       obtain ⟨hop, hsn⟩ := Fo.short_node q k hlt hsr
       have hnl : q.len + (q.nth k).kids.len ≤ 1000000 := by
         have h1 := Fo.size_drop q k hlt
         have h2 := Fo.len_size (q.nth k).kids
         omega
       have HST := hid (show k + (q.drop k).size = a.size from hsz)
       have HSN := hid hsn
       have HAL : Hid (a.all fitsB = (fitsB (q.nth k).f (q.nth k).kids.len && ((q.app (q.nth k).kids).drop (k + 1)).all fitsB)) := hid (by rw [← hal, Fo.all_step fitsB q k hlt])
       have HQ := hid hQ
       have HB := hid hB
       clear hsz hsr hal hsn hQ hkid hB
       go_wp2_with fail
       refine (rfits (q.nth k).f A2 (q.nth k).kids.len c2 _ (by omega) hop).mono ?_; rintro e w4 ⟨rfl, hb4⟩
       clear f0 f1 f2 f3 f4 f5 f6 f7 f8 f9
       have hQ4 := HQ.out.below hb4
       have hB4 := HB.out.trans (hb4.mono HB.out.size)
       clear hb4 HQ HB
       obtain ⟨g4, c4, A4, e4, he, hg4, hg5, hkid, f0, f1, f2, f3, f4, f5, f6, f7, f8, f9⟩ := hQ4.nth k hlt
       injection he with he1 he2 he3
       injection he1 with he1
       injection he1 with he1
       subst he1 he3
       clear he2
       have HN := hid hQ4
       have HKD := hid hkid
       have hBs := hB4.size
       have HB4 := hid hB4
       clear hQ4 hkid hB4
       cases hf : fitsB (q.nth k).f (q.nth k).kids.len
       · have HE : Hid (G = false) := hid (by rw [HG2.out, HAL.out, hf, Bool.false_and])
         go_wp2_with fail
         go_ret
         exact ⟨ret1 HE.out.symm, HB4.out⟩
       · have HA2 : Hid (((q.app (q.nth k).kids).drop (k + 1)).all fitsB = a.all fitsB) := hid (by rw [HAL.out, hf, Bool.true_and])
         go_wp2_with (at_builtin
                      refine wpList_append_queue _ rfl (.tmp 28) (.tmp 33) rfl (B := w.heap.size) (c := e4) (fo := q) (kd := (q.nth k).kids) (A := A4) rfl rfl HN.out HKD.out hnl hBs ?_
                      intro v9 w9 hq9 hg9 hat9
                      have HD9 : Hid (GdIn a w w9 (k + 1) v9) := hid ⟨_, by rw [Fo.len_app]; omega, hq9, below_grown HB4.out hBs hg9 (fun k hk => (HN.out.lt k hk).1), Fo.queue_size q k a.size hlt HST.out, HSN.out, HA2.out⟩
                      clear hq9 hg9 hat9)
         go_roundw
         case rel => exact ⟨k + 1, by omega, by go_num, HD9⟩
         case measure => simp [intOf]; omega
     · have hd1 : ¬ (k : Int) < (q.len : Int) := by omega
       obtain ⟨NA, nc, rfl⟩ := hQ.form
       have HB := hid hB
       have HE : Hid (G = true) := hid (by rw [HG2.out, ← hal, Fo.drop_len q k (by omega)]; rfl)
       clear hQ hB hsz hsr hal
       go_wp2_with fail
       go_ret
       exact ⟨ret1 HE.out.symm, HB.out⟩
 · have t1 : (16 : Int) < (a.deep : Int) := by omega
   have HE : Hid (G = false) := hid (by rw [HG.out, decide_eq_false h16, Bool.false_and])
   clear hb2 B2 L2
   go_wp2_with fail
   go_ret
   exact ⟨ret1 HE.out.symm, HB2.out⟩
end Go.Proofs.YticehalcnbjccaaGreatDoor.TreeC
