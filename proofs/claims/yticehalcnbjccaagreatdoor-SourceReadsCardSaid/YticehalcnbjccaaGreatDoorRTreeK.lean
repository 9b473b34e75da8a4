/-
  Contract of tree's reference: part, with parentheses; part whole.
-/
import Derived.Test.YticehalcnbjccaaGreatDoorRTreeI
import Derived.Test.YticehalcnbjccaaGreatDoorRTreeE9
import Derived.Deep.RegionHeld3
namespace Go.Proofs.YticehalcnbjccaaGreatDoor.TreeC
set_option maxRecDepth 100000
set_option maxHeartbeats 8000000
set_option linter.unusedVariables false
open Go.RowKit NumC LexC
open Cd
open Tryz
open Lib (hid)
theorem rpart_paren {x : Nat} {lv : Value} {l : List Tok} {en nest : Int} {L : Lev} {into : Bool} {k : Nat} (w : World) (h : Pre w x lv l en k nest 0 0) (hl : l.length ≤ 300) (hk : k ≤ 301) (hn0 : 0 ≤ nest) (hn1 : nest ≤ 40) (hi : into = decide (nest < 40)) (hL : LGoes l L)
   {t : Tok} (ht : l[k]? = some t) (h1 : t.k ≠ 1) (h2 : t.k ≠ 2) (h3 : t.k ≠ 3) (h4 : isSign l k [40] = true)
   (hc : into = true → Con1 x lv l en (nest + 1) L) :
   Calls prog 162 #[.pointer (some ⟨x, 0, none⟩)] w (PPost x lv l en nest (partF l en L into k) w) := by
 have hxw := h.at_.lt
 have HX := NBox.new w
 have H0 := h.alloc (.cells jZ 31)
 have K0 : Kept x w (w.alloc (.cells jZ 31)) := (Kept.refl _ _).alloc _
 generalize hW : (w.alloc (.cells jZ 31)) = W at *
 have ne1 : x ≠ w.heap.size := by omega
 have ne2 : w.heap.size ≠ x := by omega
 have lt0 := HX.lt
 generalize hO : partF l en L into k = O
 have HO := hid hO.symm
 have HIN := hid hi
 clear h hO hi
 have hc2 := hid hc
 clear hc
 have hlt : k < l.length := (List.getElem?_eq_some_iff.1 ht).1
 have hte : l[k] = t := (List.getElem?_eq_some_iff.1 ht).2
 obtain ⟨TA, tc, hlv, hT⟩ := H0.tok.form
 subst hlv
 obtain ⟨tg, rfl, hgx, t0, t1, t2, t3⟩ := hT k hlt
 rw [hte] at t0 t1 t2 t3
 have d1 : decide ((l.length : Int) ≤ (k : Int)) = false := decide_eq_false (by omega)
 obtain ⟨c0, c1, c2, c3, c4, c5, y1, y3, y4, y5⟩ := (H0).at_.cells
 have E0 := hid (HO.out.trans (part_paren ht h1 h2 h3 h4))
 have p1 : (t.k == 1) = false := beq_eq_false_iff_ne.2 h1
 have p2 : (t.k == 2) = false := beq_eq_false_iff_ne.2 h2
 have p3 : (t.k == 3) = false := beq_eq_false_iff_ne.2 h3
 have B40 : Hid (({ data := #[40] } : ByteArray) = str [40]) := hid rfl
 have H4 := hid h4
 clear h1 h2 h3 h4
 clear hT
 go_enter func162, ntmps162
 go_wp2_with fail
 go_quiet (fail)
 go_wp2_with fail
 have HZ := H0.drew (nq + 1)
 have KZ := K0.drew (nq + 1)
 have XZ := HX.kept ((Kept.refl x W).drew (nq + 1)) ne2
 have SS : ∀ w2 : World, w2.cell? ⟨x, 0, none⟩ = W.cell? ⟨x, 0, none⟩ → w2.cell? ⟨x, 1, none⟩ = W.cell? ⟨x, 1, none⟩ → (∀ o, w2.cell? ⟨tg, o, none⟩ = W.cell? ⟨tg, o, none⟩) → w2.cell? ⟨x, 0, none⟩ = some (.slice (some ⟨tg, 0, none⟩) l.length tc) ∧ w2.cell? ⟨x, 1, none⟩ = some (.int .i64 (k : Int)) ∧ w2.cell? ⟨tg, k * 4, none⟩ = some (.int .i64 t.k) ∧ w2.cell? ⟨tg, k * 4 + 1, none⟩ = some (.int .i64 t.n) ∧ w2.cell? ⟨tg, k * 4 + 2, none⟩ = some (.string t.s) ∧ w2.cell? ⟨tg, k * 4 + 3, none⟩ = some (.int .i64 t.at_) := fun w2 h0 h1 h2 => ⟨h0.trans c0, h1.trans c1, (h2 _).trans t0, (h2 _).trans t1, (h2 _).trans t2, (h2 _).trans t3⟩
 have n1 : x < W.heap.size := H0.at_.lt
 have n2 : tg < W.heap.size := by omega
 have S0 := SS (W.drewN (nq + 1)) rfl rfl (fun _ => rfl)
 have S3 := SS (W.drewN nq).drew rfl rfl (fun _ => rfl)
 have S1 := SS ((W.drewN (nq + 1)).alloc (.cells jTZ 114)) (World.cell?_alloc_lt _ _ _ n1) (World.cell?_alloc_lt _ _ _ n1) (fun _ => World.cell?_alloc_lt _ _ _ n2)
 have S2 := SS ((W.drewN (nq + 1)).alloc (.cells (jT t) 114)) (World.cell?_alloc_lt _ _ _ n1) (World.cell?_alloc_lt _ _ _ n1) (fun _ => World.cell?_alloc_lt _ _ _ n2)
 have nx1 : x ≠ W.heap.size := by omega
 have nx2 : tg ≠ W.heap.size := by omega
 have KZ2 : Kept W.heap.size ((W.drewN (nq + 1)).alloc (.cells jTZ 114)) ((((((W.drewN (nq + 1)).alloc (.cells jTZ 114)).setCell ⟨W.heap.size, 0, none⟩ (.int .i64 t.k)).setCell ⟨W.heap.size, 1, none⟩ (.int .i64 t.n)).setCell ⟨W.heap.size, 2, none⟩ (.string t.s)).setCell ⟨W.heap.size, 3, none⟩ (.int .i64 t.at_)) := by repeat (with_reducible first | exact Kept.refl _ _ | refine Kept.setCell ?_ _ _)
 have S4 : ((((((W.drewN (nq + 1)).alloc (.cells jTZ 114)).setCell ⟨W.heap.size, 0, none⟩ (.int .i64 t.k)).setCell ⟨W.heap.size, 1, none⟩ (.int .i64 t.n)).setCell ⟨W.heap.size, 2, none⟩ (.string t.s)).setCell ⟨W.heap.size, 3, none⟩ (.int .i64 t.at_)).cell? ⟨x, 0, none⟩ = some (.slice (some ⟨tg, 0, none⟩) l.length tc) ∧ ((((((W.drewN (nq + 1)).alloc (.cells jTZ 114)).setCell ⟨W.heap.size, 0, none⟩ (.int .i64 t.k)).setCell ⟨W.heap.size, 1, none⟩ (.int .i64 t.n)).setCell ⟨W.heap.size, 2, none⟩ (.string t.s)).setCell ⟨W.heap.size, 3, none⟩ (.int .i64 t.at_)).cell? ⟨x, 1, none⟩ = some (.int .i64 (k : Int)) ∧ ((((((W.drewN (nq + 1)).alloc (.cells jTZ 114)).setCell ⟨W.heap.size, 0, none⟩ (.int .i64 t.k)).setCell ⟨W.heap.size, 1, none⟩ (.int .i64 t.n)).setCell ⟨W.heap.size, 2, none⟩ (.string t.s)).setCell ⟨W.heap.size, 3, none⟩ (.int .i64 t.at_)).cell? ⟨tg, k * 4, none⟩ = some (.int .i64 t.k) ∧ ((((((W.drewN (nq + 1)).alloc (.cells jTZ 114)).setCell ⟨W.heap.size, 0, none⟩ (.int .i64 t.k)).setCell ⟨W.heap.size, 1, none⟩ (.int .i64 t.n)).setCell ⟨W.heap.size, 2, none⟩ (.string t.s)).setCell ⟨W.heap.size, 3, none⟩ (.int .i64 t.at_)).cell? ⟨tg, k * 4 + 1, none⟩ = some (.int .i64 t.n) ∧ ((((((W.drewN (nq + 1)).alloc (.cells jTZ 114)).setCell ⟨W.heap.size, 0, none⟩ (.int .i64 t.k)).setCell ⟨W.heap.size, 1, none⟩ (.int .i64 t.n)).setCell ⟨W.heap.size, 2, none⟩ (.string t.s)).setCell ⟨W.heap.size, 3, none⟩ (.int .i64 t.at_)).cell? ⟨tg, k * 4 + 2, none⟩ = some (.string t.s) ∧ ((((((W.drewN (nq + 1)).alloc (.cells jTZ 114)).setCell ⟨W.heap.size, 0, none⟩ (.int .i64 t.k)).setCell ⟨W.heap.size, 1, none⟩ (.int .i64 t.n)).setCell ⟨W.heap.size, 2, none⟩ (.string t.s)).setCell ⟨W.heap.size, 3, none⟩ (.int .i64 t.at_)).cell? ⟨tg, k * 4 + 3, none⟩ = some (.int .i64 t.at_) := by
   obtain ⟨a0, a1, a2, a3, a4, a5⟩ := S1
   exact ⟨KZ2.cell nx1 a0, KZ2.cell nx1 a1, KZ2.cell nx2 a2, KZ2.cell nx2 a3, KZ2.cell nx2 a4, KZ2.cell nx2 a5⟩
 clear c0 c1 c2 c3 c4 c5 y1 y3 y4 y5
 clear t0 t1 t2 t3 SS
 have HS0 := hid S0
 have HS3 := hid S3
 have HS4 := hid S4
 have HS1 := hid S1
 have HS2 := hid S2
 clear S0 S1 S2 S3 S4
 have nb := heap_alloc_new (W.drewN (nq + 1)) (.cells jTZ 114)
 have vz : ((W.drewN (nq + 1)).alloc (.cells jTZ 114)).cell? ⟨W.heap.size, 0, none⟩ = some (.int .i64 0) ∧ ((W.drewN (nq + 1)).alloc (.cells jTZ 114)).cell? ⟨W.heap.size, 1, none⟩ = some (.int .i64 0) ∧ ((W.drewN (nq + 1)).alloc (.cells jTZ 114)).cell? ⟨W.heap.size, 2, none⟩ = some (.string { data := #[] }) ∧ ((W.drewN (nq + 1)).alloc (.cells jTZ 114)).cell? ⟨W.heap.size, 3, none⟩ = some (.int .i64 0) ∧ ((W.drewN (nq + 1)).alloc (.cells jTZ 114)).frozen? ⟨W.heap.size, 0, none⟩ = false ∧ ((W.drewN (nq + 1)).alloc (.cells jTZ 114)).frozen? ⟨W.heap.size, 1, none⟩ = false ∧ ((W.drewN (nq + 1)).alloc (.cells jTZ 114)).frozen? ⟨W.heap.size, 2, none⟩ = false ∧ ((W.drewN (nq + 1)).alloc (.cells jTZ 114)).frozen? ⟨W.heap.size, 3, none⟩ = false := by
   have nb2 : ((W.drewN (nq + 1)).alloc (.cells jTZ 114)).heap[W.heap.size]? = some (.cells jTZ 114 (0, 0)) := nb
   refine ⟨?_, ?_, ?_, ?_, ?_, ?_, ?_, ?_⟩ <;> simp only [World.cell?, World.frozen?, nb2] <;> rfl
 obtain ⟨v0, v1, v2, v3, v4, v5, v6, v7⟩ := vz
 have TT : TLoc ((((((W.drewN (nq + 1)).alloc (.cells jTZ 114)).setCell ⟨W.heap.size, 0, none⟩ (.int .i64 t.k)).setCell ⟨W.heap.size, 1, none⟩ (.int .i64 t.n)).setCell ⟨W.heap.size, 2, none⟩ (.string t.s)).setCell ⟨W.heap.size, 3, none⟩ (.int .i64 t.at_)) W.heap.size t := by
   have nb2 : ((W.drewN (nq + 1)).alloc (.cells jTZ 114)).heap[W.heap.size]? = some (.cells jTZ 114 (0, 0)) := nb
   exact TLoc.store nb2 t
 clear nb
 go_region_held3 (fun w' => w'.cell? ⟨x, 0, none⟩ = some (.slice (some ⟨tg, 0, none⟩) l.length tc) ∧ w'.cell? ⟨x, 1, none⟩ = some (.int .i64 (k : Int)) ∧ w'.cell? ⟨tg, k * 4, none⟩ = some (.int .i64 t.k) ∧ w'.cell? ⟨tg, k * 4 + 1, none⟩ = some (.int .i64 t.n) ∧ w'.cell? ⟨tg, k * 4 + 2, none⟩ = some (.string t.s) ∧ w'.cell? ⟨tg, k * 4 + 3, none⟩ = some (.int .i64 t.at_))
   (with_reducible first | exact HS3.out | exact HS0.out | exact HS1.out | exact HS2.out | exact HS4.out) (first | fail)
 clear HS0 HS1 HS2 HS3 HS4 v0 v1 v2 v3 v4 v5 v6 v7
 have HT := (HZ.alloc (.cells jTZ 114)).kept KZ2 n1
 have KT := (KZ.alloc (.cells jTZ 114)).then_ KZ2 (by omega)
 have XT := (XZ.kept ((Kept.refl x _).alloc (.cells jTZ 114)) ne2).kept KZ2 (by omega)
 have nxt : W.heap.size ≠ x := by omega
 have nbt : w.heap.size ≠ W.heap.size := by omega
 have nct : W.heap.size ≠ w.heap.size := by omega
 clear KZ2
 generalize hV : ((((((W.drewN (nq + 1)).alloc (.cells jTZ 114)).setCell ⟨W.heap.size, 0, none⟩ (.int .i64 t.k)).setCell ⟨W.heap.size, 1, none⟩ (.int .i64 t.n)).setCell ⟨W.heap.size, 2, none⟩ (.string t.s)).setCell ⟨W.heap.size, 3, none⟩ (.int .i64 t.at_)) = T at *
 obtain ⟨q0, q1, q2, q3⟩ := TT.cells
 have HS := hid (rsign [40] T HT hl)
 rw [H4.out] at HS
 go_wp2_with fail
 rw [B40.out]
 refine HS.out.mono ?_; rintro e w1 ⟨rfl, n, rfl⟩
 have H2 := (HT.drew n).setK ((k : Int) + 1)
 have K2 := (KT.drew n).setCell 1 (.int .i64 ((k : Int) + 1))
 have X2 := XT.kept (((Kept.refl x T).drew n).setCell 1 (.int .i64 ((k : Int) + 1))) ne2
 obtain ⟨c0, c1, c2, c3, c4, c5, y1, y3, y4, y5⟩ := (HT.drew n).at_.cells
 generalize hU : ((T.drewN n).setCell ⟨x, 1, none⟩ (.int .i64 ((k : Int) + 1))) = U at *
 go_wp2_with fail
 rw [show ((k : Int) + 1) = ((k + 1 : Nat) : Int) from by omega] at H2
 clear c0 c1 c2 c3 c4 c5 y1 y3 y4 y5
 clear q0 q1 q2 q3 p1 p2 p3 d1 hV hU
 by_cases hin : nest < 40
 rotate_left
 · have hif := hid (show into = false by rw [HIN.out]; exact decide_eq_false hin)
   have E := hid (E0.out.trans (paren_deep hif.out))
   refine (rinto_no _ H2 (by omega) (by omega)).mono ?_; rintro e w5 ⟨rfl, H5, k5⟩
   have K5 := K2.trans k5
   have X5 := X2.kept k5 ne2
   obtain ⟨f0, f1, f2, f3, f4, f5, f6, f7, f8, f9, z0, z1, z2, z3, z4, z5, z6, z7, z8, z9⟩ := (X5).cells
   go_wp2_with fail
   rw [E.out]
   refine bodyPost_ret (v := .agg jZ) (by simp [results, results162, go_sem, f0, f1, f2, f3, f4, f5, f6, f7, f8, f9]) rfl (PPost.err (b := w.heap.size) K5 H5 (nodeV_any fld0 _ _ _) (by decide) (by omega) (by omega) (Nat.le_refl _) hxw ?_)
   repeat (with_reducible first | exact Kept.refl _ _ | refine Kept.setCell ?_ _ _)
 · have hit := hid (show into = true by rw [HIN.out]; exact decide_eq_true hin)
   have HC := hid (hc2.out hit.out)
   refine (rinto_yes _ H2 hn0 hin).mono ?_; rintro e w5 ⟨rfl, H5, k5⟩
   have K5 := K2.trans k5
   have X5 := X2.kept k5 ne2
   have b5 := X5.lt
   go_wp2_with fail
   refine (HC.out.fm (k + 1) w5 (by omega) H5).mono ?_; intro e w6 hp
   obtain ⟨f, A, m, c, rfl, k6, hm⟩ := post_split hp
   unfold nodeV
   have K6 := K5.trans k6
   have X6 := X5.kept k6 ne2
   have b6 := X6.lt
   have K7 := K6.alloc (.cells (jN f A m c) 31)
   have X7 := X6.kept ((Kept.refl x w6).alloc (.cells (jN f A m c) 31)) ne2
   have L7 : NLoc (w6.alloc (.cells (jN f A m c) 31)) w6.heap.size f A m c := ⟨heap_alloc_new _ _⟩
   have s6 : x < w6.heap.size := by omega
   have nx : x ≠ w6.heap.size := by omega
   have nx2 : w6.heap.size ≠ x := by omega
   have nb : w.heap.size ≠ w6.heap.size := by omega
   have nb2 : w6.heap.size ≠ w.heap.size := by omega
   rcases hm with ⟨kd, k', ho, hm, hA, hP⟩ | ⟨b, k3, n2, ho, hb0, h1, h2, hP⟩
   · have hg := hL.fm _ _ _ ho
     have HM := hid hm
     have H7 := hP.alloc (.cells (jN f A m c) 31)
     have A7 : KidsAt (w6.alloc (.cells (jN f A m c) 31)) (fun g => w.heap.size < g) kd A := hA.keep ((Kept.refl x w6).alloc _) (fun g hg hl => ⟨by omega, by omega⟩)
     clear hm hA hP hp
     generalize hV7 : (w6.alloc (.cells (jN f A m c) 31)) = V7 at *
     have H8 := H7.setN (nest + 1 - 1)
     have K8 := K7.setCell 3 (.int .i64 (nest + 1 - 1))
     have X8 := X7.kept ((Kept.refl x V7).setCell 3 (.int .i64 (nest + 1 - 1))) ne2
     have L8 := L7.kept ((Kept.refl x V7).setCell 3 (.int .i64 (nest + 1 - 1))) nx2
     obtain ⟨c0, c1, c2, c3, c4, c5, y1, y3, y4, y5⟩ := (H7).at_.cells
     have A8 := A7.keep (Q := fun g => w.heap.size < g) ((Kept.refl x V7).setCell 3 (.int .i64 (nest + 1 - 1))) (fun g hg hl => ⟨by omega, hg⟩)
     rw [show nest + 1 - 1 = nest from by omega] at H8 K8 X8 L8 A8
     generalize hV8 : (V7.setCell ⟨x, 3, none⟩ (.int .i64 nest)) = V8 at *
     go_wp2_with fail
     clear c0 c1 c2 c3 c4 c5 y1 y3 y4 y5
     cases hs : isSign l k' [41] with
     | false =>
       have E := hid (E0.out.trans (paren_open hit.out ho hs))
       refine (rclose_bad _ H8 hl hs).mono ?_; rintro e w9 ⟨rfl, H9, k9⟩
       have K9 := K8.trans k9
       have X9 := X8.kept k9 ne2
       have L9 := L8.kept k9 nx2
       obtain ⟨f0, f1, f2, f3, f4, f5, f6, f7, f8, f9, z0, z1, z2, z3, z4, z5, z6, z7, z8, z9⟩ := (X9).cells
       obtain ⟨a0, a1, a2, a3, a4, a5, a6, a7, a8, a9, az0, az1, az2, az3, az4, az5, az6, az7, az8, az9⟩ := (L9).cells
       go_wp2_with fail
       rw [E.out]
       refine bodyPost_ret (v := .agg (jN f A m c)) (by simp [results, results162, go_sem, f0, f1, f2, f3, f4, f5, f6, f7, f8, f9]) rfl (PPost.err (b := w.heap.size) K9 H9 (nodeV_any f _ _ _) (by show (13 : Int) ≠ 0; decide) (Int.le_refl _) (by omega) (Nat.le_refl _) hxw ?_)
       repeat (with_reducible first | exact Kept.refl _ _ | refine Kept.setCell ?_ _ _)
     | true =>
       have E := hid (E0.out.trans (paren_ok hit.out ho hs))
       refine (rclose_ok _ H8 hl (by omega) hs).mono ?_; rintro e w9 ⟨rfl, H9, k9⟩
       have K9 := K8.trans k9
       have X9 := X8.kept k9 ne2
       have L9 := L8.kept k9 nx2
       have A9 := A8.keep (Q := fun g => w.heap.size < g) k9 (fun g hg hl => ⟨by omega, hg⟩)
       obtain ⟨f0, f1, f2, f3, f4, f5, f6, f7, f8, f9, z0, z1, z2, z3, z4, z5, z6, z7, z8, z9⟩ := (X9).cells
       obtain ⟨a0, a1, a2, a3, a4, a5, a6, a7, a8, a9, az0, az1, az2, az3, az4, az5, az6, az7, az8, az9⟩ := (L9).cells
       go_wp2_with fail
       rw [E.out]
       refine bodyPost_ret (v := .agg (jN f A m c)) (by simp [results, results162, go_sem, f0, f1, f2, f3, f4, f5, f6, f7, f8, f9]) rfl (PPost.ok (b := w.heap.size) K9 H9 ⟨A, c, by rw [HM.out]; rfl, A9⟩ (Nat.le_refl _) hxw ?_)
       repeat (with_reducible first | exact Kept.refl _ _ | refine Kept.setCell ?_ _ _)
   · have E := hid (E0.out.trans (paren_err hit.out ho))
     have H7 := hP.alloc (.cells (jN f A m c) 31)
     clear hP hp
     generalize hV7 : (w6.alloc (.cells (jN f A m c) 31)) = V7 at *
     have H8 := H7.setN (n2 - 1)
     have K8 := K7.setCell 3 (.int .i64 (n2 - 1))
     have X8 := X7.kept ((Kept.refl x V7).setCell 3 (.int .i64 (n2 - 1))) ne2
     have L8 := L7.kept ((Kept.refl x V7).setCell 3 (.int .i64 (n2 - 1))) nx2
     obtain ⟨c0, c1, c2, c3, c4, c5, y1, y3, y4, y5⟩ := (H7).at_.cells
     generalize hV8 : (V7.setCell ⟨x, 3, none⟩ (.int .i64 (n2 - 1))) = V8 at *
     go_wp2_with fail
     clear c0 c1 c2 c3 c4 c5 y1 y3 y4 y5
     refine (rclose_no _ H8 hb0).mono ?_; rintro e w9 ⟨rfl, H9, k9⟩
     have K9 := K8.trans k9
     have X9 := X8.kept k9 ne2
     have L9 := L8.kept k9 nx2
     obtain ⟨f0, f1, f2, f3, f4, f5, f6, f7, f8, f9, z0, z1, z2, z3, z4, z5, z6, z7, z8, z9⟩ := (X9).cells
     obtain ⟨a0, a1, a2, a3, a4, a5, a6, a7, a8, a9, az0, az1, az2, az3, az4, az5, az6, az7, az8, az9⟩ := (L9).cells
     go_wp2_with fail
     rw [E.out]
     refine bodyPost_ret (v := .agg (jN f A m c)) (by simp [results, results162, go_sem, f0, f1, f2, f3, f4, f5, f6, f7, f8, f9]) rfl (PPost.err (b := w.heap.size) K9 H9 (nodeV_any f _ _ _) hb0 (by omega) (by omega) (Nat.le_refl _) hxw ?_)
     repeat (with_reducible first | exact Kept.refl _ _ | refine Kept.setCell ?_ _ _)
theorem rpart {x : Nat} {lv : Value} {l : List Tok} {en nest : Int} {L : Lev} {into : Bool} {k : Nat} (w : World) (h : Pre w x lv l en k nest 0 0) (hl : l.length ≤ 300) (hk : k ≤ 301) (hn0 : 0 ≤ nest) (hn1 : nest ≤ 40) (hi : into = decide (nest < 40)) (hL : LGoes l L)
   (hc : into = true → Con1 x lv l en (nest + 1) L)
   (hnm : ∀ (t : Tok) (w : World), l[k]? = some t → Pre w x lv l en k nest 0 0 → Calls prog 183 #[.pointer (some ⟨x, 0, none⟩), tokV t] w (PPost x lv l en nest (nameF l en L into t k) w)) :
   Calls prog 162 #[.pointer (some ⟨x, 0, none⟩)] w (PPost x lv l en nest (partF l en L into k) w) := by
 cases ht : l[k]? with
 | none => exact rpart_over w h hl hk hn0 hn1 hi hL (List.getElem?_eq_none_iff.1 ht)
 | some t =>
   by_cases h1 : t.k = 1
   · exact rpart_int w h hl hk hn0 hn1 hi hL ht h1
   · by_cases h2 : t.k = 2
     · by_cases h200 : 200 < t.s.size
       · exact rpart_long w h hl hk hn0 hn1 hi hL ht h2 h200
       · exact rpart_text w h hl hk hn0 hn1 hi hL ht h2 h200
     · by_cases h3 : t.k = 3
       · exact rpart_name w h hl hk hn0 hn1 hi hL ht h3 (fun w hw => hnm t w ht hw)
       · cases h4 : isSign l k [40] with
         | false => exact rpart_none w h hl hk hn0 hn1 hi hL ht h1 h2 h3 h4
         | true => exact rpart_paren w h hl hk hn0 hn1 hi hL ht h1 h2 h3 h4 hc
end Go.Proofs.YticehalcnbjccaaGreatDoor.TreeC
