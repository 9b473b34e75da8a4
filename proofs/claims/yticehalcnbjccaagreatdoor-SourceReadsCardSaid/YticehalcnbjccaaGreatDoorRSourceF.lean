/-
  Contract of source's code: Read.
-/
import Derived.Test.YticehalcnbjccaaGreatDoorRSourceC
import Derived.Deep.RegionHeld3
namespace Go.Proofs.YticehalcnbjccaaGreatDoor.SourceC
set_option maxRecDepth 100000
set_option maxHeartbeats 8000000
set_option linter.unusedVariables false
set_option linter.unusedSimpArgs false
open Go.RowKit NumC TreeC PrintC
open LexC (str nob str_size LexLib)
open ValueC (Val GoodP goodB goodB_t goodB_f nos zeroV showL trueL falseL size_nos)
open Cd
open Tryz
open Lib (hid)
theorem cRead (s : ByteArray) (w : World) (hl : LexLib w) (hg : ErrT w) : Calls prog 7 #[.string s] w (ReadPost w (readL s.data.toList)) := by
 have X1 := SBox.new 33 w
 have B1 : Below w.heap.size w (w.alloc (.cells jSZ 33)) := (Below.refl _ _).alloc (Nat.le_refl _) _
 have HR := hid (cread s (w.alloc (.cells jSZ 33)) (hl.below B1) (hg.below B1))
 have HG := hid hg
 have HW1 := hid (show (w.alloc (.cells jSZ 33)).heap.size = w.heap.size + 1 by simp)
 have lt1 := X1.lt
 clear hl hg
 generalize hrr : readL s.data.toList = r at *
 obtain ⟨k, ⟨vk, vn, vs⟩, ⟨f, kd⟩, pat, per⟩ := r
 clear hrr
 go_enter func7, ntmps7
 go_wp2_with fail
 generalize (w.alloc (.cells jSZ 33)) = W1 at *
 refine HR.out.mono ?_; rintro e w2 ⟨A, c, EE, rfl, hE, hb2, hK⟩
 simp only at hE hK ⊢
 have X2 := X1.kept (Kept.of (x := W1.heap.size) hb2) (Nat.ne_of_lt lt1)
 have B2 := B1.trans (hb2.mono B1.size)
 have lt2 := X2.lt
 have na2 : w.heap.size ≠ w2.heap.size := Nat.ne_of_lt lt2
 have nb2 : w2.heap.size ≠ w.heap.size := Ne.symm na2
 have g3 : Below w2.heap.size w2 (w2.alloc (.cells (jS k vk vn vs f A kd.len c) 33)) := (Below.refl _ _).alloc (Nat.le_refl _) _
 have X3 := X2.kept (Kept.of (x := w2.heap.size) g3) na2
 have R3 : RLoc 33 (w2.alloc (.cells (jS k vk vn vs f A kd.len c) 33)) w2.heap.size k vk vn vs f A kd.len c := ⟨heap_alloc_new _ _⟩
 have B3 := B2.trans (g3.mono B2.size)
 have hK3 : KidsAt (w2.alloc (.cells (jS k vk vn vs f A kd.len c) 33)) (fun g => w.heap.size ≤ g ∧ g ≠ w.heap.size) kd A := hK.keep (Kept.of (x := w2.heap.size) g3) (fun g hg hlt => by have := HW1.out; have hg' : W1.heap.size ≤ g := hg; exact ⟨by omega, by omega, by omega⟩)
 have HWH := hid (fun W h => cwhere hE W h)
 have HWY := hid (fun W => cwhy hE W)
 have hW3 := hid (show (w2.alloc (.cells (jS k vk vn vs f A kd.len c) 33)).heap.size = w2.heap.size + 1 by simp)
 clear X1 X2 B1 B2 hb2 hK HR g3 hE lt1
 have lt3 := R3.lt
 go_wp2_with fail
 generalize (w2.alloc (.cells (jS k vk vn vs f A kd.len c) 33)) = W3 at *
 have HB := hid B3
 have HX := hid X3
 have HRR := hid R3
 clear B3 X3
 obtain ⟨d0, d1, d2, d3, d4, d5, d6, d7, d8, d9, d10, d11, d12, d13⟩ := R3.cells
 clear R3
 have D0 : Below W3.heap.size W3 W3.drew := below_drewN' (Below.refl _ _) 1
 have RD := HRR.out.below D0
 have BD : Below w.heap.size w W3.drew := HB.out.trans (D0.mono HB.out.size)
 have ED := HG.out.below BD
 have XD := HX.out.kept (Kept.of (x := W3.heap.size) D0) (by omega)
 have lD : w2.heap.size < W3.drew.heap.size := RD.lt
 have HKD := hid hK3
 clear D0 hK3
 go_region_held3 (fun w' => w'.cell? ⟨w2.heap.size, 0, none⟩ = some (.int .i64 k) ∧ w'.cell? ⟨w2.heap.size, 1, none⟩ = some (.int .i64 vk) ∧ w'.cell? ⟨w2.heap.size, 2, none⟩ = some (.int .i64 vn) ∧ w'.cell? ⟨w2.heap.size, 3, none⟩ = some (.string vs) ∧ w'.cell? ⟨w2.heap.size, 4, none⟩ = some (.int .i64 f.k) ∧ w'.cell? ⟨w2.heap.size, 5, none⟩ = some (.int .i64 f.vk) ∧ w'.cell? ⟨w2.heap.size, 6, none⟩ = some (.int .i64 f.vn) ∧ w'.cell? ⟨w2.heap.size, 7, none⟩ = some (.string f.vs) ∧ w'.cell? ⟨w2.heap.size, 8, none⟩ = some (.int .i64 f.r1) ∧ w'.cell? ⟨w2.heap.size, 9, none⟩ = some (.int .i64 f.r2) ∧ w'.cell? ⟨w2.heap.size, 10, none⟩ = some (.int .i64 f.r3) ∧ w'.cell? ⟨w2.heap.size, 11, none⟩ = some (.int .i64 f.r4) ∧ w'.cell? ⟨w2.heap.size, 12, none⟩ = some (.string f.op) ∧ w'.cell? ⟨w2.heap.size, 13, none⟩ = some (.slice A kd.len c))
   (first | with_reducible exact RD.cells | with_reducible exact R5.cells | with_reducible exact R6.cells | (refine (R6.kept (y := w.heap.size) ?_ nb2).cells; (repeat (with_reducible first | exact Kept.refl _ _ | refine Kept.setCell ?_ _ _)); done))
   ((first | (go_at_call 16; refine (HWH.out _ ED).mono ?_; rintro e w5 ⟨rfl, hb5⟩; have R5 := RD.below hb5; have X5 := XD.kept (Kept.of (x := W3.drew.heap.size) hb5) (by omega); have B5 := BD.trans (hb5.mono BD.size); have l5 := R5.lt) | (go_at_call 17; refine (HWY.out _).mono ?_; rintro e w6 ⟨rfl, hb6⟩; have R6 := R5.below hb6; have X6 := X5.kept (Kept.of (x := w5.heap.size) hb6) (by omega); have B6 := B5.trans (hb6.mono B5.size); have l6 := R6.lt; obtain ⟨f0, f1, f2, f3, f4, f5, f6, f7, f8, f9, f10, f11, f12, f13, z0, z1, z2, z3, z4, z5, z6, z7, z8, z9, z10, z11, z12, z13⟩ := X6.cells)))
 have HB6 := hid B6
 have K6 : KidsAt w6 (fun g => w.heap.size ≤ g ∧ g ≠ w.heap.size) kd A := HKD.out.keep (((Kept.of (x := W3.heap.size + 0) (below_drewN' (Below.refl W3.heap.size W3) 1)).trans (Kept.of (x := W3.heap.size + 0) (hb5.mono (by have := hb5.size; simp)))).trans (Kept.of (x := W3.heap.size + 0) (hb6.mono (by have := hb5.size; simp at this; omega)))) (fun g hg hlt => ⟨by omega, hg⟩)
 clear HWH HWY HKD RD R5 R6 XD X5 X6 HX HRR BD B5 B6 ED HG hb5 hb6 d0 d1 d2 d3 d4 d5 d6 d7 d8 d9 d10 d11 d12 d13
 go_wp2_with fail
 refine bodyPost_ret (v := .tuple #[.agg (jS k vk vn vs f A kd.len c), .int .i64 pat, .int .i64 per]) (by simp [results, results7, go_sem, f0, f1, f2, f3, f4, f5, f6, f7, f8, f9, f10, f11, f12, f13, l6, lt2]) rfl (ReadPost.pass (V := w6) rfl HB6.out rfl K6 ?_)
 repeat (with_reducible first | exact Kept.refl _ _ | refine Kept.setCell ?_ _ _ | refine Kept.alloc ?_ _ | refine Kept.drew ?_ _ | refine kept_drew1 ?_)
end Go.Proofs.YticehalcnbjccaaGreatDoor.SourceC
