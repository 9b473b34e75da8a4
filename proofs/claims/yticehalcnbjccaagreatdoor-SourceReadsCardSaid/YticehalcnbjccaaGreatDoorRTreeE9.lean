/-
  Contracts of tree's reference: unary, power, under a tighter bound.
-/
import Derived.Test.YticehalcnbjccaaGreatDoorRLexF
namespace Go.Proofs.YticehalcnbjccaaGreatDoor.TreeC
set_option maxRecDepth 100000
set_option maxHeartbeats 8000000
set_option linter.unusedVariables false
open Go.RowKit NumC LexC
open Cd
open Tryz
open Lib (hid)
structure Con1 (x : Nat) (lv : Value) (l : List Tok) (en nest : Int) (L : Lev) : Prop where
 fm : ∀ (k : Nat) (w : World), k ≤ 301 → Pre w x lv l en k nest 0 0 → Calls prog 30 #[.pointer (some ⟨x, 0, none⟩)] w (PPost x lv l en nest (L.fm k) w)
 pw : ∀ (k : Nat) (w : World), k ≤ 301 → Pre w x lv l en k nest 0 0 → Calls prog 104 #[.pointer (some ⟨x, 0, none⟩)] w (PPost x lv l en nest (L.pw k) w)
 un : ∀ (k : Nat) (w : World), k ≤ 301 → Pre w x lv l en k nest 0 0 → Calls prog 136 #[.pointer (some ⟨x, 0, none⟩)] w (PPost x lv l en nest (L.un k) w)
theorem runary1 {x : Nat} {lv : Value} {l : List Tok} {en nest : Int} {L : Lev} {into : Bool} {k : Nat} (w : World) (h : Pre w x lv l en k nest 0 0) (hl : l.length ≤ 300) (hk : k ≤ 301) (hn0 : 0 ≤ nest) (hn1 : nest ≤ 40) (hi : into = decide (nest < 40))
   (hc : into = true → Con1 x lv l en (nest + 1) L) (hp : ∀ (w : World), Pre w x lv l en k nest 0 0 → Calls prog 162 #[.pointer (some ⟨x, 0, none⟩)] w (PPost x lv l en nest (partF l en L into k) w)) :
   Calls prog 136 #[.pointer (some ⟨x, 0, none⟩)] w (PPost x lv l en nest (unaryF l en L into k) w) := by
 have hxw := h.at_.lt
 have HX := NBox.new w
 have H0 := h.alloc (.cells jZ 31)
 have K0 : Kept x w (w.alloc (.cells jZ 31)) := (Kept.refl _ _).alloc _
 have hs0 : (w.alloc (.cells jZ 31)).heap.size = w.heap.size + 1 := heap_one _ _
 generalize hW : (w.alloc (.cells jZ 31)) = W at *
 have HS := hid (rsign [45] W H0 hl)
 have HI := hid H0
 have B45 : Hid (({ data := #[45] } : ByteArray) = str [45]) := hid rfl
 have ne1 : x ≠ w.heap.size := by omega
 have ne2 : w.heap.size ≠ x := by omega
 generalize hO : unaryF l en L into k = O
 have HO := hid hO.symm
 have HIN := hid hi
 clear h H0 hO hi
 by_cases hs : isSign l k [45] = true
 · rw [hs] at HS
   by_cases hin : nest < 40
   · have hlt := sign_lt hs
     have hit := hid (show into = true by rw [HIN.out]; exact decide_eq_true hin)
     have HC := hid (hc hit.out)
     go_enter func136, ntmps136
     go_wp2_with fail
     rw [B45.out]
     refine HS.out.mono ?_; rintro e w1 ⟨rfl, n, rfl⟩
     have H1 := (HI.out.drew n).setK ((k : Int) + 1)
     have K1 := (K0.drew n).setCell 1 (.int .i64 ((k : Int) + 1))
     have X1 := HX.kept (((Kept.refl x W).drew n).setCell 1 (.int .i64 ((k : Int) + 1))) ne2
     obtain ⟨c0, c1, c2, c3, c4, c5, y1, y3, y4, y5⟩ := (HI.out.drew n).at_.cells
     go_wp2_with fail
     refine (rinto_yes _ H1 hn0 hin).mono ?_; rintro e w2 ⟨rfl, H2, k2⟩
     have K2 := K1.trans k2
     have X2 := X1.kept k2 ne2
     have lt2 := X2.lt
     rw [show ((k : Int) + 1) = ((k + 1 : Nat) : Int) from by omega] at H2
     clear c0 c1 c2 c3 c4 c5 y1 y3 y4 y5
     clear H1 K1 X1 k2
     go_wp2_with fail
     refine (HC.out.un (k + 1) w2 (by omega) H2).mono ?_; intro e w3 hp3
     clear H2
     have hs2 := K2.size
     cases hr : L.un (k + 1) with
     | error b =>
       rw [hr] at hp3
       obtain ⟨v, rfl, k3, ⟨f, A, m, c, rfl⟩, hb0, k4, n2, hn2, hn3, H3⟩ := hp3
       have E := hid (HO.out.trans (unary_err hs hit.out hr))
       clear hr
       have K3 := K2.trans k3
       have X3 := X2.kept k3 ne2
       have lt3 := X3.lt
       have hs3 := k3.size
       unfold nodeV
       have K4 := K3.alloc (.cells (jN f A m c) 31)
       have X4 := X3.kept ((Kept.refl x w3).alloc (.cells (jN f A m c) 31)) ne2
       have H4 := H3.alloc (.cells (jN f A m c) 31)
       have L4 : NLoc (w3.alloc (.cells (jN f A m c) 31)) w3.heap.size f A m c := ⟨heap_alloc_new _ _⟩
       generalize hV : (w3.alloc (.cells (jN f A m c) 31)) = V at *
       have nb : w.heap.size ≠ w3.heap.size := by omega
       have nb2 : w3.heap.size ≠ w.heap.size := by omega
       have nx : x ≠ w3.heap.size := by have := H3.at_.lt; omega
       have nx2 : w3.heap.size ≠ x := by omega
       have H5 := H4.setN (n2 - 1)
       have K5 := K4.setCell 3 (.int .i64 (n2 - 1))
       have X5 := X4.kept ((Kept.refl x V).setCell 3 (.int .i64 (n2 - 1))) ne2
       have L5 := L4.kept ((Kept.refl x V).setCell 3 (.int .i64 (n2 - 1))) nx2
       obtain ⟨c0, c1, c2, c3, c4, c5, y1, y3, y4, y5⟩ := (H4).at_.cells
       generalize hU : (V.setCell ⟨x, 3, none⟩ (.int .i64 (n2 - 1))) = U at *
       obtain ⟨d0, d1, d2, d3, d4, d5, d6, d7, d8, d9, dz0, dz1, dz2, dz3, dz4, dz5, dz6, dz7, dz8, dz9⟩ := (L5).cells
       have lt5 := X5.lt
       have K6 := K5.alloc (.cells (jN f A m c) 31)
       have H6 := H5.alloc (.cells (jN f A m c) 31)
       have X6 := X5.kept ((Kept.refl x U).alloc (.cells (jN f A m c) 31)) ne2
       have R6 : (U.alloc (.cells (jN f A m c) 31)).heap[U.heap.size]? = some (.cells (jN f A m c) 31 (0, 0)) := heap_alloc_new _ _
       generalize hT : (U.alloc (.cells (jN f A m c) 31)) = T at *
       obtain ⟨f0, f1, f2, f3, f4, f5, f6, f7, f8, f9, z0, z1, z2, z3, z4, z5, z6, z7, z8, z9⟩ := (X6).cells
       go_wp2_with fail
       rw [E.out]
       refine bodyPost_ret (v := .agg #[.int .i64 4, .int .i64 0, .int .i64 0, .string { data := #[] }, .int .i64 0, .int .i64 0, .int .i64 0, .int .i64 0, .string { data := #[] }, .slice (some ⟨U.heap.size, 0, none⟩) 1 1]) (by simp [results, results136, go_sem, f0, f1, f2, f3, f4, f5, f6, f7, f8, f9]) rfl (PPost.err (b := w.heap.size) K6 H6 (nodeV_any ⟨4, 0, 0, nob, 0, 0, 0, 0, nob⟩ _ _ _) hb0 (by omega) (by omega) (Nat.le_refl _) hxw ?_)
       repeat (with_reducible first | exact Kept.refl _ _ | refine Kept.setCell ?_ _ _)
     | ok q =>
       obtain ⟨a, k'⟩ := q
       rw [hr] at hp3
       obtain ⟨v, rfl, k3, ⟨A, c, rfl, hA⟩, H3⟩ := hp3
       have E := hid (HO.out.trans (unary_ok hs hit.out hr))
       obtain ⟨f, kd⟩ := a
       simp only at hA
       clear hr
       generalize hm : kd.len = m at *
       have K3 := K2.trans k3
       have X3 := X2.kept k3 ne2
       have lt3 := X3.lt
       have hs3 := k3.size
       unfold nodeV
       have K4 := K3.alloc (.cells (jN f A m c) 31)
       have X4 := X3.kept ((Kept.refl x w3).alloc (.cells (jN f A m c) 31)) ne2
       have H4 := H3.alloc (.cells (jN f A m c) 31)
       have L4 : NLoc (w3.alloc (.cells (jN f A m c) 31)) w3.heap.size f A m c := ⟨heap_alloc_new _ _⟩
       have A4 : KidsAt (w3.alloc (.cells (jN f A m c) 31)) (fun g => w.heap.size < g ∧ g ≠ w3.heap.size) kd A := hA.keep ((Kept.refl x w3).alloc _) (fun g hg hl => ⟨by have := H3.at_.lt; omega, by omega, by omega⟩)
       generalize hV : (w3.alloc (.cells (jN f A m c) 31)) = V at *
       have nb : w.heap.size ≠ w3.heap.size := by omega
       have nb2 : w3.heap.size ≠ w.heap.size := by omega
       have nx : x ≠ w3.heap.size := by have := H3.at_.lt; omega
       have nx2 : w3.heap.size ≠ x := by omega
       have H5 := H4.setN ((nest + 1) - 1)
       have K5 := K4.setCell 3 (.int .i64 ((nest + 1) - 1))
       have X5 := X4.kept ((Kept.refl x V).setCell 3 (.int .i64 ((nest + 1) - 1))) ne2
       have L5 := L4.kept ((Kept.refl x V).setCell 3 (.int .i64 ((nest + 1) - 1))) nx2
       have A5 := A4.keep (Q := fun g => w.heap.size < g) ((Kept.refl x V).setCell 3 (.int .i64 ((nest + 1) - 1))) (fun g hg hl => ⟨by omega, by omega⟩)
       rw [show nest + 1 - 1 = nest from by omega] at H5 K5 X5 L5 A5
       obtain ⟨c0, c1, c2, c3, c4, c5, y1, y3, y4, y5⟩ := (H4).at_.cells
       generalize hU : (V.setCell ⟨x, 3, none⟩ (.int .i64 nest)) = U at *
       obtain ⟨d0, d1, d2, d3, d4, d5, d6, d7, d8, d9, dz0, dz1, dz2, dz3, dz4, dz5, dz6, dz7, dz8, dz9⟩ := (L5).cells
       have lt5 := X5.lt
       have K6 := K5.alloc (.cells (jN f A m c) 31)
       have H6 := H5.alloc (.cells (jN f A m c) 31)
       have X6 := X5.kept ((Kept.refl x U).alloc (.cells (jN f A m c) 31)) ne2
       have R6 : (U.alloc (.cells (jN f A m c) 31)).heap[U.heap.size]? = some (.cells (jN f A m c) 31 (0, 0)) := heap_alloc_new _ _
       have A6 := A5.keep (Q := fun g => w.heap.size < g) ((Kept.refl x U).alloc (.cells (jN f A m c) 31)) (fun g hg hl => ⟨by have := H5.at_.lt; omega, hg⟩)
       generalize hT : (U.alloc (.cells (jN f A m c) 31)) = T at *
       obtain ⟨f0, f1, f2, f3, f4, f5, f6, f7, f8, f9, z0, z1, z2, z3, z4, z5, z6, z7, z8, z9⟩ := (X6).cells
       go_wp2_with fail
       rw [E.out]
       refine bodyPost_ret (v := .agg #[.int .i64 4, .int .i64 0, .int .i64 0, .string { data := #[] }, .int .i64 0, .int .i64 0, .int .i64 0, .int .i64 0, .string { data := #[] }, .slice (some ⟨U.heap.size, 0, none⟩) 1 1]) (by simp [results, results136, go_sem, f0, f1, f2, f3, f4, f5, f6, f7, f8, f9]) rfl (PPost.ok (b := w.heap.size) K6 H6 ?_ (Nat.le_refl _) hxw ?_)
       · refine ⟨some ⟨U.heap.size, 0, none⟩, 1, rfl, Or.inr ⟨_, _, rfl, rowAt_block (by show w.heap.size < U.heap.size; omega) (vs := [nodeV f A m c]) ⟨⟨A, c, by rw [hm], A6⟩, trivial⟩ R6 ?_⟩⟩
         rfl
       · repeat (with_reducible first | exact Kept.refl _ _ | refine Kept.setCell ?_ _ _)
   · have hif := hid (show into = false by rw [HIN.out]; exact decide_eq_false hin)
     have E := hid (HO.out.trans (unary_deep hs hif.out))
     go_enter func136, ntmps136
     go_wp2_with fail
     rw [B45.out]
     refine HS.out.mono ?_; rintro e w1 ⟨rfl, n, rfl⟩
     have H1 := (HI.out.drew n).setK ((k : Int) + 1)
     have K1 := (K0.drew n).setCell 1 (.int .i64 ((k : Int) + 1))
     have X1 := HX.kept (((Kept.refl x W).drew n).setCell 1 (.int .i64 ((k : Int) + 1))) ne2
     obtain ⟨c0, c1, c2, c3, c4, c5, y1, y3, y4, y5⟩ := (HI.out.drew n).at_.cells
     go_wp2_with fail
     refine (rinto_no _ H1 (by omega) (by omega)).mono ?_; rintro e w2 ⟨rfl, H2, k2⟩
     have K2 := K1.trans k2
     have X2 := X1.kept k2 ne2
     obtain ⟨f0, f1, f2, f3, f4, f5, f6, f7, f8, f9, z0, z1, z2, z3, z4, z5, z6, z7, z8, z9⟩ := (X2).cells
     go_wp2_with fail
     rw [E.out]
     refine bodyPost_ret (v := .agg jZ) (by simp [results, results136, go_sem, f0, f1, f2, f3, f4, f5, f6, f7, f8, f9]) rfl (PPost.err (b := w.heap.size) K2 H2 (nodeV_any fld0 _ _ _) (by decide) (by omega) (by omega) (Nat.le_refl _) hxw ?_)
     repeat (with_reducible first | exact Kept.refl _ _ | refine Kept.setCell ?_ _ _)
 · have hs2 : isSign l k [45] = false := by simpa using hs
   rw [hs2] at HS
   have E := hid (HO.out.trans (unary_no hs2))
   have HP := hid hp
   go_enter func136, ntmps136
   go_wp2_with fail
   rw [B45.out]
   refine HS.out.mono ?_; rintro e w1 ⟨rfl, n, rfl⟩
   have H1 := HI.out.drew n
   have K1 := K0.drew n
   have X1 := HX.kept ((Kept.refl x W).drew n) ne2
   go_wp2_with fail
   refine (HP.out _ H1).mono ?_; intro e w3 hp3
   clear H1
   have hs2 := K1.size
   generalize hr : partF l en L into k = R at *
   cases R with
   | error b =>
     obtain ⟨v, rfl, k3, ⟨f, A, m, c, rfl⟩, hb0, k4, n2, hn2, hn3, H3⟩ := hp3
     have K3 := K1.trans k3
     have X3 := X1.kept k3 ne2
     unfold nodeV
     obtain ⟨f0, f1, f2, f3, f4, f5, f6, f7, f8, f9, z0, z1, z2, z3, z4, z5, z6, z7, z8, z9⟩ := (X3).cells
     go_wp2_with fail
     rw [E.out]
     refine bodyPost_ret (v := .agg (jN f A m c)) (by simp [results, results136, go_sem, f0, f1, f2, f3, f4, f5, f6, f7, f8, f9]) rfl (PPost.err (b := w.heap.size) K3 H3 (nodeV_any f _ _ _) hb0 hn2 hn3 (Nat.le_refl _) hxw ?_)
     repeat (with_reducible first | exact Kept.refl _ _ | refine Kept.setCell ?_ _ _)
   | ok q =>
     obtain ⟨a, k'⟩ := q
     obtain ⟨v, rfl, k3, ⟨A, c, rfl, hA⟩, H3⟩ := hp3
     obtain ⟨f, kd⟩ := a
     simp only at hA
     generalize hm : kd.len = m at *
     have K3 := K1.trans k3
     have X3 := X1.kept k3 ne2
     unfold nodeV
     obtain ⟨f0, f1, f2, f3, f4, f5, f6, f7, f8, f9, z0, z1, z2, z3, z4, z5, z6, z7, z8, z9⟩ := (X3).cells
     go_wp2_with fail
     rw [E.out]
     refine bodyPost_ret (v := .agg (jN f A m c)) (by simp [results, results136, go_sem, f0, f1, f2, f3, f4, f5, f6, f7, f8, f9]) rfl (PPost.ok (b := w.heap.size) K3 H3 ⟨A, c, by rw [hm]; rfl, hA.keep (Kept.refl w3.heap.size _) (fun g hg hl => ⟨by omega, by have : (W.drewN n).heap.size = w.heap.size + 1 := hs0; omega⟩)⟩ (Nat.le_refl _) hxw ?_)
     repeat (with_reducible first | exact Kept.refl _ _ | refine Kept.setCell ?_ _ _)
theorem rpower1 {x : Nat} {lv : Value} {l : List Tok} {en nest : Int} {L : Lev} {into : Bool} {k : Nat} (w : World) (h : Pre w x lv l en k nest 0 0) (hl : l.length ≤ 300) (hk : k ≤ 301) (hn0 : 0 ≤ nest) (hn1 : nest ≤ 40) (hi : into = decide (nest < 40)) (hL : LGoes l L)
   (hc : into = true → Con1 x lv l en (nest + 1) L) (hu : ∀ (w : World), Pre w x lv l en k nest 0 0 → Calls prog 136 #[.pointer (some ⟨x, 0, none⟩)] w (PPost x lv l en nest (unaryF l en L into k) w)) :
   Calls prog 104 #[.pointer (some ⟨x, 0, none⟩)] w (PPost x lv l en nest (powerF l en L into k) w) := by
 have hxw := h.at_.lt
 have HX := NBox.new w
 have H0 := h.alloc (.cells jZ 31)
 have K0 : Kept x w (w.alloc (.cells jZ 31)) := (Kept.refl _ _).alloc _
 generalize hW : (w.alloc (.cells jZ 31)) = W at *
 have HU := hid (hu W H0)
 have B94 : Hid (({ data := #[94] } : ByteArray) = str [94]) := hid rfl
 have ne1 : x ≠ w.heap.size := by omega
 have ne2 : w.heap.size ≠ x := by omega
 have lt0 := HX.lt
 generalize hO : powerF l en L into k = O
 have HO := hid hO.symm
 have HIN := hid hi
 clear h H0 hO hi hu
 cases hr : unaryF l en L into k with
 | error b =>
   rw [hr] at HU
   go_enter func104, ntmps104
   go_wp2_with fail
   refine HU.out.mono ?_; intro e w3 hp3
   obtain ⟨v, rfl, k3, ⟨f, A, m, c, rfl⟩, hb0, k4, n2, hn2, hn3, H3⟩ := hp3
   unfold nodeV
   have K1 := K0.trans k3
   have X2 := HX.kept k3 ne2
   have lta : x < w3.heap.size := H3.at_.lt
   have nxa : w3.heap.size ≠ x := by omega
   have nya : x ≠ w3.heap.size := by omega
   have lba := X2.lt
   have nba : w.heap.size ≠ w3.heap.size := by omega
   have nca : w3.heap.size ≠ w.heap.size := by omega
   have L5 : NLoc (w3.alloc (.cells (jN f A m c) 31)) w3.heap.size f A m c := ⟨heap_alloc_new _ _⟩
   have H4 := H3.alloc (.cells (jN f A m c) 31)
   have K6 := K1.trans ((Kept.refl x w3).alloc (.cells (jN f A m c) 31))
   have X7 := X2.kept ((Kept.refl x w3).alloc (.cells (jN f A m c) 31)) ne2
   generalize hV3 : (w3.alloc (.cells (jN f A m c) 31)) = V3 at *
   have E := hid (HO.out.trans (power_err hr))
   clear hr
   have HS := hid (rsign_no [94] V3 H4 hb0)
   go_wp2_with fail
   rw [B94.out]
   refine HS.out.mono ?_; rintro e w4 ⟨rfl, n, rfl⟩
   have K8 := K6.trans ((Kept.refl x V3).drew n)
   have X9 := X7.kept ((Kept.refl x V3).drew n) ne2
   have L10 := L5.kept ((Kept.refl x V3).drew n) nxa
   try clear a0 a1 a2 a3 a4 a5 a6 a7 a8 a9 az0 az1 az2 az3 az4 az5 az6 az7 az8 az9
   obtain ⟨a0, a1, a2, a3, a4, a5, a6, a7, a8, a9, az0, az1, az2, az3, az4, az5, az6, az7, az8, az9⟩ := (L10).cells
   try clear f0 f1 f2 f3 f4 f5 f6 f7 f8 f9 z0 z1 z2 z3 z4 z5 z6 z7 z8 z9
   obtain ⟨f0, f1, f2, f3, f4, f5, f6, f7, f8, f9, z0, z1, z2, z3, z4, z5, z6, z7, z8, z9⟩ := (X9).cells
   go_wp2_with fail
   rw [E.out]
   refine bodyPost_ret (v := .agg (jN f A m c)) (by simp [results, results104, go_sem, f0, f1, f2, f3, f4, f5, f6, f7, f8, f9]) rfl (PPost.err (b := w.heap.size) K8 (H4.drew n) (nodeV_any f _ _ _) hb0 hn2 hn3 (Nat.le_refl _) hxw ?_)
   repeat (with_reducible first | exact Kept.refl _ _ | refine Kept.setCell ?_ _ _)
 | ok q =>
   obtain ⟨a, k'⟩ := q
   rw [hr] at HU
   go_enter func104, ntmps104
   go_wp2_with fail
   refine HU.out.mono ?_; intro e w3 hp3
   obtain ⟨v, rfl, k3, ⟨A, c, rfl, hA0⟩, H3⟩ := hp3
   obtain ⟨f, kd⟩ := a
   simp only at hA0
   generalize hm : kd.len = m at *
   have HM := hid hm
   clear hm
   have hA := hA0.keep (Q := fun g => w.heap.size < g) (Kept.refl w3.heap.size w3) (fun g hg hl => ⟨by omega, by omega⟩)
   clear hA0
   unfold nodeV
   have K11 := K0.trans k3
   have X12 := HX.kept k3 ne2
   have lta : x < w3.heap.size := H3.at_.lt
   have nxa : w3.heap.size ≠ x := by omega
   have nya : x ≠ w3.heap.size := by omega
   have lba := X12.lt
   have nba : w.heap.size ≠ w3.heap.size := by omega
   have nca : w3.heap.size ≠ w.heap.size := by omega
   have L15 : NLoc (w3.alloc (.cells (jN f A m c) 31)) w3.heap.size f A m c := ⟨heap_alloc_new _ _⟩
   have H14 := H3.alloc (.cells (jN f A m c) 31)
   have K16 := K11.trans ((Kept.refl x w3).alloc (.cells (jN f A m c) 31))
   have X17 := X12.kept ((Kept.refl x w3).alloc (.cells (jN f A m c) 31)) ne2
   have A18 := hA.keep (Q := (fun g => w.heap.size < g)) ((Kept.refl x w3).alloc (.cells (jN f A m c) 31)) (fun g hg hl => ⟨by have := hg; omega, hg⟩)
   generalize hV13 : (w3.alloc (.cells (jN f A m c) 31)) = V13 at *
   have hg := unary_goes hL _ _ _ hr
   have HS := hid (rsign [94] V13 H14 hl)
   cases hs : isSign l k' [94] with
   | false =>
     have E := hid (HO.out.trans (power_one hr hs))
     rw [hs] at HS
     clear hr
     go_wp2_with fail
     rw [B94.out]
     refine HS.out.mono ?_; rintro e w4 ⟨rfl, n, rfl⟩
     have K19 := K16.trans ((Kept.refl x V13).drew n)
     have X20 := X17.kept ((Kept.refl x V13).drew n) ne2
     have L21 := L15.kept ((Kept.refl x V13).drew n) nxa
     have A22 := A18.keep (Q := (fun g => w.heap.size < g)) ((Kept.refl x V13).drew n) (fun g hg hl => ⟨by have := hg; omega, hg⟩)
     try clear a0 a1 a2 a3 a4 a5 a6 a7 a8 a9 az0 az1 az2 az3 az4 az5 az6 az7 az8 az9
     obtain ⟨a0, a1, a2, a3, a4, a5, a6, a7, a8, a9, az0, az1, az2, az3, az4, az5, az6, az7, az8, az9⟩ := (L21).cells
     try clear f0 f1 f2 f3 f4 f5 f6 f7 f8 f9 z0 z1 z2 z3 z4 z5 z6 z7 z8 z9
     obtain ⟨f0, f1, f2, f3, f4, f5, f6, f7, f8, f9, z0, z1, z2, z3, z4, z5, z6, z7, z8, z9⟩ := (X20).cells
     go_wp2_with fail
     rw [E.out]
     refine bodyPost_ret (v := .agg (jN f A m c)) (by simp [results, results104, go_sem, f0, f1, f2, f3, f4, f5, f6, f7, f8, f9]) rfl (PPost.ok (b := w.heap.size) K19 (H14.drew n) ⟨A, c, by rw [HM.out]; rfl, A22⟩ (Nat.le_refl _) hxw ?_)
     repeat (with_reducible first | exact Kept.refl _ _ | refine Kept.setCell ?_ _ _)
   | true =>
     rw [hs] at HS
     go_wp2_with fail
     rw [B94.out]
     refine HS.out.mono ?_; rintro e w4 ⟨rfl, n, rfl⟩
     have K23 := K16.trans ((Kept.refl x V13).drew n)
     have X24 := X17.kept ((Kept.refl x V13).drew n) ne2
     have L25 := L15.kept ((Kept.refl x V13).drew n) nxa
     have A26 := A18.keep (Q := (fun g => w.heap.size < g)) ((Kept.refl x V13).drew n) (fun g hg hl => ⟨by have := hg; omega, hg⟩)
     try clear c0 c1 c2 c3 c4 c5 y1 y3 y4 y5
     obtain ⟨c0, c1, c2, c3, c4, c5, y1, y3, y4, y5⟩ := ((H14.drew n)).at_.cells
     have H28 := (H14.drew n).setK ((k' : Int) + 1)
     have K29 := K23.trans ((Kept.refl x (V13.drewN n)).setCell 1 (.int .i64 ((k' : Int) + 1)))
     have X30 := X24.kept ((Kept.refl x (V13.drewN n)).setCell 1 (.int .i64 ((k' : Int) + 1))) ne2
     have L31 := L25.kept ((Kept.refl x (V13.drewN n)).setCell 1 (.int .i64 ((k' : Int) + 1))) nxa
     have A32 := A26.keep (Q := (fun g => w.heap.size < g)) ((Kept.refl x (V13.drewN n)).setCell 1 (.int .i64 ((k' : Int) + 1))) (fun g hg hl => ⟨by have := hg; omega, hg⟩)
     generalize hV27 : ((V13.drewN n).setCell ⟨x, 1, none⟩ (.int .i64 ((k' : Int) + 1))) = V27 at *
     go_wp2_with fail
     by_cases hin : nest < 40
     rotate_left
     · have hif := hid (show into = false by rw [HIN.out]; exact decide_eq_false hin)
       have E := hid (HO.out.trans (power_deep hr hs hif.out))
       clear hr
       refine (rinto_no _ H28 (by omega) (by omega)).mono ?_; rintro e w5 ⟨rfl, H5, k5⟩
       have K33 := K29.trans k5
       have X34 := X30.kept k5 ne2
       have L35 := L31.kept k5 nxa
       have A36 := A32.keep (Q := (fun g => w.heap.size < g)) k5 (fun g hg hl => ⟨by have := hg; omega, hg⟩)
       try clear a0 a1 a2 a3 a4 a5 a6 a7 a8 a9 az0 az1 az2 az3 az4 az5 az6 az7 az8 az9
       obtain ⟨a0, a1, a2, a3, a4, a5, a6, a7, a8, a9, az0, az1, az2, az3, az4, az5, az6, az7, az8, az9⟩ := (L35).cells
       try clear f0 f1 f2 f3 f4 f5 f6 f7 f8 f9 z0 z1 z2 z3 z4 z5 z6 z7 z8 z9
       obtain ⟨f0, f1, f2, f3, f4, f5, f6, f7, f8, f9, z0, z1, z2, z3, z4, z5, z6, z7, z8, z9⟩ := (X34).cells
       go_wp2_with fail
       rw [E.out]
       refine bodyPost_ret (v := .agg (jN f A m c)) (by simp [results, results104, go_sem, f0, f1, f2, f3, f4, f5, f6, f7, f8, f9]) rfl (PPost.err (b := w.heap.size) K33 H5 (nodeV_any f _ _ _) (by decide) (by omega) (by omega) (Nat.le_refl _) hxw ?_)
       repeat (with_reducible first | exact Kept.refl _ _ | refine Kept.setCell ?_ _ _)
     · have hit := hid (show into = true by rw [HIN.out]; exact decide_eq_true hin)
       have HC := hid (hc hit.out)
       refine (rinto_yes _ H28 hn0 hin).mono ?_; rintro e w5 ⟨rfl, H5, k5⟩
       have K37 := K29.trans k5
       have X38 := X30.kept k5 ne2
       have L39 := L31.kept k5 nxa
       have A40 := A32.keep (Q := (fun g => w.heap.size < g)) k5 (fun g hg hl => ⟨by have := hg; omega, hg⟩)
       rw [show ((k' : Int) + 1) = ((k' + 1 : Nat) : Int) from by omega] at H5
       clear k5
       try clear c0 c1 c2 c3 c4 c5 y1 y3 y4 y5
       go_wp2_with fail
       refine (HC.out.pw (k' + 1) w5 (by omega) H5).mono ?_; intro e w6 hp6
       have lt5 := X38.lt
       cases hr2 : L.pw (k' + 1) with
       | error b =>
         rw [hr2] at hp6
         obtain ⟨v2, rfl, k6, ⟨g, B, m2, d, rfl⟩, hb0, k4, n2, hn2, hn3, H6⟩ := hp6
         have E := hid (HO.out.trans (power_bad hr hs hit.out hr2))
         clear hr hr2
         unfold nodeV
         have K41 := K37.trans k6
         have X42 := X38.kept k6 ne2
         have L43 := L39.kept k6 nxa
         have A44 := A40.keep (Q := (fun g => w.heap.size < g)) k6 (fun g hg hl => ⟨by have := hg; omega, hg⟩)
         have ltb : x < w6.heap.size := H6.at_.lt
         have nxb : w6.heap.size ≠ x := by omega
         have nyb : x ≠ w6.heap.size := by omega
         have lbb := X42.lt
         have nbb : w.heap.size ≠ w6.heap.size := by omega
         have ncb : w6.heap.size ≠ w.heap.size := by omega
         have nab := L43.lt
         have mab : w3.heap.size ≠ w6.heap.size := by omega
         have qab : w6.heap.size ≠ w3.heap.size := by omega
         have L47 : NLoc (w6.alloc (.cells (jN g B m2 d) 31)) w6.heap.size g B m2 d := ⟨heap_alloc_new _ _⟩
         have H46 := H6.alloc (.cells (jN g B m2 d) 31)
         have K48 := K41.trans ((Kept.refl x w6).alloc (.cells (jN g B m2 d) 31))
         have X49 := X42.kept ((Kept.refl x w6).alloc (.cells (jN g B m2 d) 31)) ne2
         have L50 := L43.kept ((Kept.refl x w6).alloc (.cells (jN g B m2 d) 31)) nxa
         have A51 := A44.keep (Q := (fun g => w.heap.size < g)) ((Kept.refl x w6).alloc (.cells (jN g B m2 d) 31)) (fun g hg hl => ⟨by have := hg; omega, hg⟩)
         generalize hV45 : (w6.alloc (.cells (jN g B m2 d) 31)) = V45 at *
         try clear c0 c1 c2 c3 c4 c5 y1 y3 y4 y5
         obtain ⟨c0, c1, c2, c3, c4, c5, y1, y3, y4, y5⟩ := (H46).at_.cells
         have H53 := H46.setN (n2 - 1)
         have K54 := K48.trans ((Kept.refl x V45).setCell 3 (.int .i64 (n2 - 1)))
         have X55 := X49.kept ((Kept.refl x V45).setCell 3 (.int .i64 (n2 - 1))) ne2
         have L56 := L50.kept ((Kept.refl x V45).setCell 3 (.int .i64 (n2 - 1))) nxa
         have L57 := L47.kept ((Kept.refl x V45).setCell 3 (.int .i64 (n2 - 1))) nxb
         have A58 := A51.keep (Q := (fun g => w.heap.size < g)) ((Kept.refl x V45).setCell 3 (.int .i64 (n2 - 1))) (fun g hg hl => ⟨by have := hg; omega, hg⟩)
         generalize hV52 : (V45.setCell ⟨x, 3, none⟩ (.int .i64 (n2 - 1))) = V52 at *
         try clear a0 a1 a2 a3 a4 a5 a6 a7 a8 a9 az0 az1 az2 az3 az4 az5 az6 az7 az8 az9
         obtain ⟨a0, a1, a2, a3, a4, a5, a6, a7, a8, a9, az0, az1, az2, az3, az4, az5, az6, az7, az8, az9⟩ := (L56).cells
         try clear b0 b1 b2 b3 b4 b5 b6 b7 b8 b9 bz0 bz1 bz2 bz3 bz4 bz5 bz6 bz7 bz8 bz9
         obtain ⟨b0, b1, b2, b3, b4, b5, b6, b7, b8, b9, bz0, bz1, bz2, bz3, bz4, bz5, bz6, bz7, bz8, bz9⟩ := (L57).cells
         have HP := hid (rpair (str [94]) f g A B m m2 c d V52)
         unfold nodeV at HP
         go_wp2_with fail
         rw [B94.out]
         refine HP.out.mono ?_; rintro e w8 ⟨pb, rfl, hpb, hpr, hb8⟩
         have k8 : Kept x V52 w8 := Kept.of hb8
         have H59 : Pre w8 x lv l en k4 (n2 - 1) b.1 b.2 := ⟨H53.at_.keep hb8 H53.at_.lt, H53.tok.kept k8 (Nat.le_refl _)⟩
         have lt8 := X55.lt
         have K60 := K54.trans k8
         have X61 := X55.kept k8 ne2
         have L62 := L56.kept k8 nxa
         have L63 := L57.kept k8 nxb
         have A64 := A58.keep (Q := (fun g => w.heap.size < g)) k8 (fun g hg hl => ⟨by have := hg; omega, hg⟩)
         try clear f0 f1 f2 f3 f4 f5 f6 f7 f8 f9 z0 z1 z2 z3 z4 z5 z6 z7 z8 z9
         obtain ⟨f0, f1, f2, f3, f4, f5, f6, f7, f8, f9, z0, z1, z2, z3, z4, z5, z6, z7, z8, z9⟩ := (X61).cells
         go_wp2_with fail
         rw [E.out]
         refine bodyPost_ret (v := .agg (jN (pairFld (str [94])) (some ⟨pb, 0, none⟩) 2 2)) (by simp [results, results104, go_sem, f0, f1, f2, f3, f4, f5, f6, f7, f8, f9]) rfl (PPost.err (b := w.heap.size) K60 H59 (nodeV_any (pairFld (str [94])) _ _ _) hb0 (by omega) (by omega) (Nat.le_refl _) hxw ?_)
         repeat (with_reducible first | exact Kept.refl _ _ | refine Kept.setCell ?_ _ _)
       | ok q2 =>
         obtain ⟨a2, k2⟩ := q2
         rw [hr2] at hp6
         obtain ⟨v2, rfl, k6, ⟨B, d, rfl, hB0⟩, H6⟩ := hp6
         have E := hid (HO.out.trans (power_ok hr hs hit.out hr2))
         clear hr hr2
         obtain ⟨g, kb⟩ := a2
         simp only at hB0
         generalize hm2 : kb.len = m2 at *
         have HM2 := hid hm2
         clear hm2
         have hB := hB0.keep (Q := fun g => w.heap.size < g) (Kept.refl w6.heap.size w6) (fun g hg hl => ⟨by omega, by omega⟩)
         clear hB0
         unfold nodeV
         have K65 := K37.trans k6
         have X66 := X38.kept k6 ne2
         have L67 := L39.kept k6 nxa
         have A68 := A40.keep (Q := (fun g => w.heap.size < g)) k6 (fun g hg hl => ⟨by have := hg; omega, hg⟩)
         have ltb : x < w6.heap.size := H6.at_.lt
         have nxb : w6.heap.size ≠ x := by omega
         have nyb : x ≠ w6.heap.size := by omega
         have lbb := X66.lt
         have nbb : w.heap.size ≠ w6.heap.size := by omega
         have ncb : w6.heap.size ≠ w.heap.size := by omega
         have nab := L67.lt
         have mab : w3.heap.size ≠ w6.heap.size := by omega
         have qab : w6.heap.size ≠ w3.heap.size := by omega
         have L71 : NLoc (w6.alloc (.cells (jN g B m2 d) 31)) w6.heap.size g B m2 d := ⟨heap_alloc_new _ _⟩
         have H70 := H6.alloc (.cells (jN g B m2 d) 31)
         have K72 := K65.trans ((Kept.refl x w6).alloc (.cells (jN g B m2 d) 31))
         have X73 := X66.kept ((Kept.refl x w6).alloc (.cells (jN g B m2 d) 31)) ne2
         have L74 := L67.kept ((Kept.refl x w6).alloc (.cells (jN g B m2 d) 31)) nxa
         have A75 := A68.keep (Q := (fun g => w.heap.size < g)) ((Kept.refl x w6).alloc (.cells (jN g B m2 d) 31)) (fun g hg hl => ⟨by have := hg; omega, hg⟩)
         have A76 := hB.keep (Q := (fun g => w.heap.size < g)) ((Kept.refl x w6).alloc (.cells (jN g B m2 d) 31)) (fun g hg hl => ⟨by have := hg; omega, hg⟩)
         generalize hV69 : (w6.alloc (.cells (jN g B m2 d) 31)) = V69 at *
         try clear c0 c1 c2 c3 c4 c5 y1 y3 y4 y5
         obtain ⟨c0, c1, c2, c3, c4, c5, y1, y3, y4, y5⟩ := (H70).at_.cells
         have H78 := H70.setN (nest + 1 - 1)
         have K79 := K72.trans ((Kept.refl x V69).setCell 3 (.int .i64 (nest + 1 - 1)))
         have X80 := X73.kept ((Kept.refl x V69).setCell 3 (.int .i64 (nest + 1 - 1))) ne2
         have L81 := L74.kept ((Kept.refl x V69).setCell 3 (.int .i64 (nest + 1 - 1))) nxa
         have L82 := L71.kept ((Kept.refl x V69).setCell 3 (.int .i64 (nest + 1 - 1))) nxb
         have A83 := A75.keep (Q := (fun g => w.heap.size < g)) ((Kept.refl x V69).setCell 3 (.int .i64 (nest + 1 - 1))) (fun g hg hl => ⟨by have := hg; omega, hg⟩)
         have A84 := A76.keep (Q := (fun g => w.heap.size < g)) ((Kept.refl x V69).setCell 3 (.int .i64 (nest + 1 - 1))) (fun g hg hl => ⟨by have := hg; omega, hg⟩)
         generalize hV77 : (V69.setCell ⟨x, 3, none⟩ (.int .i64 (nest + 1 - 1))) = V77 at *
         rw [show nest + 1 - 1 = nest from by omega] at *
         try clear a0 a1 a2 a3 a4 a5 a6 a7 a8 a9 az0 az1 az2 az3 az4 az5 az6 az7 az8 az9
         obtain ⟨a0, a1, a2, a3, a4, a5, a6, a7, a8, a9, az0, az1, az2, az3, az4, az5, az6, az7, az8, az9⟩ := (L81).cells
         try clear b0 b1 b2 b3 b4 b5 b6 b7 b8 b9 bz0 bz1 bz2 bz3 bz4 bz5 bz6 bz7 bz8 bz9
         obtain ⟨b0, b1, b2, b3, b4, b5, b6, b7, b8, b9, bz0, bz1, bz2, bz3, bz4, bz5, bz6, bz7, bz8, bz9⟩ := (L82).cells
         have HP := hid (rpair (str [94]) f g A B m m2 c d V77)
         unfold nodeV at HP
         go_wp2_with fail
         rw [B94.out]
         refine HP.out.mono ?_; rintro e w8 ⟨pb, rfl, hpb, hpr, hb8⟩
         have k8 : Kept x V77 w8 := Kept.of hb8
         have H85 : Pre w8 x lv l en (k2 : Nat) nest 0 0 := ⟨H78.at_.keep hb8 H78.at_.lt, H78.tok.kept k8 (Nat.le_refl _)⟩
         have lt8 := X80.lt
         have K86 := K79.trans k8
         have X87 := X80.kept k8 ne2
         have L88 := L81.kept k8 nxa
         have L89 := L82.kept k8 nxb
         have A90 := A83.keep (Q := (fun g => w.heap.size < g)) k8 (fun g hg hl => ⟨by have := hg; omega, hg⟩)
         have A91 := A84.keep (Q := (fun g => w.heap.size < g)) k8 (fun g hg hl => ⟨by have := hg; omega, hg⟩)
         try clear f0 f1 f2 f3 f4 f5 f6 f7 f8 f9 z0 z1 z2 z3 z4 z5 z6 z7 z8 z9
         obtain ⟨f0, f1, f2, f3, f4, f5, f6, f7, f8, f9, z0, z1, z2, z3, z4, z5, z6, z7, z8, z9⟩ := (X87).cells
         go_wp2_with fail
         rw [E.out]
         refine bodyPost_ret (v := .agg (jN (pairFld (str [94])) (some ⟨pb, 0, none⟩) 2 2)) (by simp [results, results104, go_sem, f0, f1, f2, f3, f4, f5, f6, f7, f8, f9]) rfl (PPost.ok (b := w.heap.size) K86 H85 (pair_row (by omega) hpr HM.out HM2.out A90 A91) (Nat.le_refl _) hxw ?_)
         repeat (with_reducible first | exact Kept.refl _ _ | refine Kept.setCell ?_ _ _)
end Go.Proofs.YticehalcnbjccaaGreatDoor.TreeC
