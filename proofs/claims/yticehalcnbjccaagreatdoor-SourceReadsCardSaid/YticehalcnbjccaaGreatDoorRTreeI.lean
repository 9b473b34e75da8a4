/-
  Contract of tree's reference: formula.
-/
import Derived.Test.YticehalcnbjccaaGreatDoorRTreeG
import Derived.Deep.RegionHeld3
namespace Go.Proofs.YticehalcnbjccaaGreatDoor.TreeC
set_option maxRecDepth 100000
set_option maxHeartbeats 8000000
set_option linter.unusedVariables false
open Go.RowKit NumC LexC
open Cd
open Tryz
open Lib (hid)
theorem rformula {x : Nat} {lv : Value} {l : List Tok} {en nest : Int} {L : Lev} {into : Bool} {k : Nat} (w : World) (h : Pre w x lv l en k nest 0 0) (hl : l.length ≤ 300) (hk : k ≤ 301) (hL : LGoes l L)
   (hu : ∀ (k : Nat) (w : World), k ≤ 301 → Pre w x lv l en k nest 0 0 → Calls prog 54 #[.pointer (some ⟨x, 0, none⟩)] w (PPost x lv l en nest (sumF l en L into k) w)) :
   Calls prog 30 #[.pointer (some ⟨x, 0, none⟩)] w (PPost x lv l en nest (formulaF l en L into k) w) := by
 have hxw := h.at_.lt
 have HX := NBox.new w
 have H0 := h.alloc (.cells jZ 31)
 have K0 : Kept x w (w.alloc (.cells jZ 31)) := (Kept.refl _ _).alloc _
 generalize hW : (w.alloc (.cells jZ 31)) = W at *
 have HU := hid (hu k W (by omega) H0)
 have HP := hid hu
 have ne1 : x ≠ w.heap.size := by omega
 have ne2 : w.heap.size ≠ x := by omega
 have lt0 := HX.lt
 have HG := hid (show Goes l (sumF l en L into) from sum_goes hL)
 generalize hO : formulaF l en L into k = O
 have HO := hid hO.symm
 clear h H0 hO hu
 go_enter func30, ntmps30
 go_wp2_with fail
 refine HU.out.mono ?_; intro e w3 hp3
 obtain ⟨f, A, m, c, rfl, k3, hm⟩ := post_split hp3
 have lt3 := HX.kept k3 ne2
 unfold nodeV
 have H3x : x < w3.heap.size := by have := k3.size; omega
 have lbx := lt3.lt
 have Ka : Kept x w (w3.alloc (.cells (jN f A m c) 31)) := (K0.trans k3).alloc _
 have Xa := lt3.kept ((Kept.refl x w3).alloc (.cells (jN f A m c) 31)) ne2
 have La : NLoc (w3.alloc (.cells (jN f A m c) 31)) w3.heap.size f A m c := ⟨heap_alloc_new _ _⟩
 have nxa : w3.heap.size ≠ x := by omega
 have nya : x ≠ w3.heap.size := by omega
 have nba : w.heap.size ≠ w3.heap.size := by omega
 have nca : w3.heap.size ≠ w.heap.size := by omega
 have lwa := La.lt
 have HT : TextsAt ((w3.alloc (.cells (jN f A m c) 31)).alloc (.cells #[.string { data := #[61] }, .string { data := #[60, 62] }, .string { data := #[60] }, .string { data := #[60, 61] }, .string { data := #[62] }, .string { data := #[62, 61] }] 9)) (.slice (some ⟨(w3.alloc (.cells (jN f A m c) 31)).heap.size, 0, none⟩) 6 6) cmpS := ⟨(w3.alloc (.cells (jN f A m c) 31)).heap.size, 6, rfl, fun i h => by
     have hb := heap_alloc_new (w3.alloc (.cells (jN f A m c) 31)) (.cells #[.string { data := #[61] }, .string { data := #[60, 62] }, .string { data := #[60] }, .string { data := #[60, 61] }, .string { data := #[62] }, .string { data := #[62, 61] }] 9)
     have h3 : i < 6 := h
     have h012 : i = 0 ∨ i = 1 ∨ i = 2 ∨ i = 3 ∨ i = 4 ∨ i = 5 := by omega
     rw [cell_of_row _ _ _ _ _ (0, 0) hb]
     rcases h012 with rfl | rfl | rfl | rfl | rfl | rfl <;> rfl⟩
 have Kn := Ka.alloc (.cells #[.string { data := #[61] }, .string { data := #[60, 62] }, .string { data := #[60] }, .string { data := #[60, 61] }, .string { data := #[62] }, .string { data := #[62, 61] }] 9)
 have Xn := Xa.kept ((Kept.refl x (w3.alloc (.cells (jN f A m c) 31))).alloc (.cells #[.string { data := #[61] }, .string { data := #[60, 62] }, .string { data := #[60] }, .string { data := #[60, 61] }, .string { data := #[62] }, .string { data := #[62, 61] }] 9)) ne2
 have Ln := La.kept ((Kept.refl x (w3.alloc (.cells (jN f A m c) 31))).alloc (.cells #[.string { data := #[61] }, .string { data := #[60, 62] }, .string { data := #[60] }, .string { data := #[60, 61] }, .string { data := #[62] }, .string { data := #[62, 61] }] 9)) nxa
 rcases hm with ⟨kd, k', ho, hm, hA, hP⟩ | ⟨b, k2, n2, ho, hb0, hn2, hn3, hP⟩
 · have HM := hid hm
   have hk2 := (HG.out _ _ _ ho).2
   have Hn := (hP.alloc (.cells (jN f A m c) 31)).alloc (.cells #[.string { data := #[61] }, .string { data := #[60, 62] }, .string { data := #[60] }, .string { data := #[60, 61] }, .string { data := #[62] }, .string { data := #[62, 61] }] 9)
   have HS := hid (rone cmpS _ _ Hn hl (by decide) HT)
   have An := (hA.keep (Q := fun g => w.heap.size < g) ((Kept.refl x w3).alloc (.cells (jN f A m c) 31)) (fun g hg hl => ⟨by omega, by omega⟩)).keep (Q := fun g => w.heap.size < g) ((Kept.refl x (w3.alloc (.cells (jN f A m c) 31))).alloc (.cells #[.string { data := #[61] }, .string { data := #[60, 62] }, .string { data := #[60] }, .string { data := #[60, 61] }, .string { data := #[62] }, .string { data := #[62, 61] }] 9)) (fun g hg hl => ⟨by omega, hg⟩)
   clear hm hP hA HT hp3 HU La Xa Ka
   generalize hV1 : (w3.alloc (.cells (jN f A m c) 31)) = V1 at *
   generalize hV : (V1.alloc (.cells #[.string { data := #[61] }, .string { data := #[60, 62] }, .string { data := #[60] }, .string { data := #[60, 61] }, .string { data := #[62] }, .string { data := #[62, 61] }] 9)) = V at *
   cases hs : oneOf l k' cmpS with
   | none =>
     rw [hs] at HS
     have E2 := hid (HO.out.trans (formula_one ho hs))
     clear ho hs
     have e0 : (({ data := #[] } : ByteArray).toList != []) = false := by rw [Lib.toList_data]; rfl
     simp only [oneB, nob] at HS
     go_wp2_with fail
     refine HS.out.mono ?_; rintro e w4 ⟨rfl, n, rfl⟩
     have K4 := Kn.drew n
     have H4 := Hn.drew n
     have X4 := Xn.kept ((Kept.refl x V).drew n) ne2
     have L4 := Ln.kept ((Kept.refl x V).drew n) nxa
     have A4 := An.keep (Q := fun g => w.heap.size < g) ((Kept.refl x V).drew n) (fun g hg hl => ⟨by omega, hg⟩)
     obtain ⟨f0, f1, f2, f3, f4, f5, f6, f7, f8, f9, z0, z1, z2, z3, z4, z5, z6, z7, z8, z9⟩ := (X4).cells
     obtain ⟨a0, a1, a2, a3, a4, a5, a6, a7, a8, a9, az0, az1, az2, az3, az4, az5, az6, az7, az8, az9⟩ := (L4).cells
     go_wp2_with fail
     rw [E2.out]
     refine bodyPost_ret (v := .agg (jN f A m c)) (by simp [results, results30, go_sem, f0, f1, f2, f3, f4, f5, f6, f7, f8, f9]) rfl (PPost.ok (b := w.heap.size) K4 H4 ⟨A, c, by rw [HM.out]; rfl, A4⟩ (Nat.le_refl _) hxw ?_)
     repeat (with_reducible first | exact Kept.refl _ _ | refine Kept.setCell ?_ _ _)
   | some op =>
     rw [hs] at HS
     have hop : op = [61] ∨ op = [60, 62] ∨ op = [60] ∨ op = [60, 61] ∨ op = [62] ∨ op = [62, 61] := by have := List.mem_of_find?_eq_some hs; simpa [cmpS] using this
     have e1 : ((str op).toList == []) = false := by rcases hop with rfl | rfl | rfl | rfl | rfl | rfl <;> (rw [Lib.toList_data]; rfl)
     have e0 : ((str op).toList != []) = true := by rcases hop with rfl | rfl | rfl | rfl | rfl | rfl <;> (rw [Lib.toList_data]; rfl)
     simp only [oneB] at HS
     have Ho := hid ho
     have Hs := hid hs
     clear ho hs hop
     go_wp2_with fail
     refine HS.out.mono ?_; rintro e w4 ⟨rfl, n, rfl⟩
     have K4 := (Kn.drew n).setCell 1 (.int .i64 ((k' : Int) + 1))
     have H4 := (Hn.drew n).setK ((k' : Int) + 1)
     have X4 := Xn.kept (((Kept.refl x V).drew n).setCell 1 (.int .i64 ((k' : Int) + 1))) ne2
     have L4 := Ln.kept (((Kept.refl x V).drew n).setCell 1 (.int .i64 ((k' : Int) + 1))) nxa
     have A4 := An.keep (Q := fun g => w.heap.size < g) (((Kept.refl x V).drew n).setCell 1 (.int .i64 ((k' : Int) + 1))) (fun g hg hl => ⟨by omega, hg⟩)
     obtain ⟨c0, c1, c2, c3, c4, c5, y1, y3, y4, y5⟩ := (Hn.drew n).at_.cells
     generalize hU : ((V.drewN n).setCell ⟨x, 1, none⟩ (.int .i64 ((k' : Int) + 1))) = U at *
     rw [show ((k' : Int) + 1) = ((k' + 1 : Nat) : Int) from by omega] at H4
     have HC := hid (HP.out (k' + 1) U.drew (by omega) H4.drew1)
     have L5 := L4.drew
     have X5 := X4.kept ((Kept.refl x U).drew 1) ne2
     go_wp2_with fail
     clear c0 c1 c2 c3 c4 c5 y1 y3 y4 y5 hU hV hV1 e0 e1
     go_region_held3 (fun w' => w'.cell? ⟨w3.heap.size, 0, none⟩ = some (.int .i64 f.k) ∧ w'.cell? ⟨w3.heap.size, 1, none⟩ = some (.int .i64 f.vk) ∧ w'.cell? ⟨w3.heap.size, 2, none⟩ = some (.int .i64 f.vn) ∧ w'.cell? ⟨w3.heap.size, 3, none⟩ = some (.string f.vs) ∧ w'.cell? ⟨w3.heap.size, 4, none⟩ = some (.int .i64 f.r1) ∧ w'.cell? ⟨w3.heap.size, 5, none⟩ = some (.int .i64 f.r2) ∧ w'.cell? ⟨w3.heap.size, 6, none⟩ = some (.int .i64 f.r3) ∧ w'.cell? ⟨w3.heap.size, 7, none⟩ = some (.int .i64 f.r4) ∧ w'.cell? ⟨w3.heap.size, 8, none⟩ = some (.string f.op) ∧ w'.cell? ⟨w3.heap.size, 9, none⟩ = some (.slice A m c))
       (first | with_reducible exact L5.ten | with_reducible exact L6.ten | with_reducible exact L7.ten | exact (L7.kept (y := w.heap.size) (by repeat (with_reducible first | exact Kept.refl _ _ | refine Kept.setCell ?_ _ _)) nca).ten)
       (first | (go_at_call 54; refine HC.out.mono ?_; intro e w5 hp5; obtain ⟨g, B, m2, d, rfl, k5, hm5⟩ := post_split hp5; unfold nodeV; have L6 := L5.kept k5 nxa) | (go_at_call 56; refine (rpair (str op) f g A B m m2 c d _).mono ?_; rintro e w6 ⟨pb, rfl, hpb, hpr, hb6⟩; have L7 := L6.kept (Kept.of (x := x) hb6) nxa; have X6 : NBox w6 w.heap.size := ((show NBox U.drew w.heap.size from X5).kept k5 ne2).kept (Kept.of (x := x) hb6) ne2; obtain ⟨f0, f1, f2, f3, f4, f5, f6, f7, f8, f9, z0, z1, z2, z3, z4, z5, z6, z7, z8, z9⟩ := (X6).cells; unfold nodeV))
     all_goals
       have K6 : Kept x w w6 := ((show Kept x w U.drew from K4.drew 1).trans k5).trans (Kept.of hb6)
       have l5 := L5.lt
       have l6 := L6.lt
       have b5 : w.heap.size < U.drew.heap.size := X4.lt
       have A6 : KidsAt w6 (fun g => w.heap.size < g) kd A := ((A4.keep (Q := fun g => w.heap.size < g) ((Kept.refl x U).drew 1) (fun g hg hl => ⟨by omega, hg⟩)).keep (Q := fun g => w.heap.size < g) k5 (fun g hg hl => ⟨by omega, hg⟩)).keep (Kept.of (x := x) hb6) (fun g hg hl => ⟨by omega, hg⟩)
       have hp1 : w.heap.size < pb := by omega
       go_wp2_with fail
       rcases hm5 with ⟨kb, k2, ho2, hmb, hB, hP⟩ | ⟨b, k2, n2, ho2, hb0, h1, h2, hP⟩
       · rw [HO.out.trans (formula_ok Ho.out Hs.out ho2)]
         refine bodyPost_ret (v := .agg (jN (pairFld (str op)) (some ⟨pb, 0, none⟩) 2 2)) (by simp [results, results30, go_sem, f0, f1, f2, f3, f4, f5, f6, f7, f8, f9]) rfl (PPost.ok (b := w.heap.size) K6 (pre_below hP hb6) (pair_row (Q := fun g => w.heap.size < g) hp1 hpr HM.out hmb A6 (hB.keep (Kept.of (x := x) hb6) (fun g hg hl => ⟨by omega, by omega⟩))) (Nat.le_refl _) hxw ?_)
         repeat (with_reducible first | exact Kept.refl _ _ | refine Kept.setCell ?_ _ _)
       · rw [HO.out.trans (formula_bad Ho.out Hs.out ho2)]
         refine bodyPost_ret (v := .agg (jN (pairFld (str op)) (some ⟨pb, 0, none⟩) 2 2)) (by simp [results, results30, go_sem, f0, f1, f2, f3, f4, f5, f6, f7, f8, f9]) rfl (PPost.err (b := w.heap.size) K6 (pre_below hP hb6) (nodeV_any (pairFld (str op)) _ _ _) hb0 h1 h2 (Nat.le_refl _) hxw ?_)
         repeat (with_reducible first | exact Kept.refl _ _ | refine Kept.setCell ?_ _ _)
 · have HE := hid (HO.out.trans (formula_err ho))
   have Hn := (hP.alloc (.cells (jN f A m c) 31)).alloc (.cells #[.string { data := #[61] }, .string { data := #[60, 62] }, .string { data := #[60] }, .string { data := #[60, 61] }, .string { data := #[62] }, .string { data := #[62, 61] }] 9)
   have HS := hid (rone_no cmpS _ _ Hn hb0 (by decide) HT)
   clear hP HT hp3 HU La Xa Ka
   generalize hV1 : (w3.alloc (.cells (jN f A m c) 31)) = V1 at *
   generalize hV : (V1.alloc (.cells #[.string { data := #[61] }, .string { data := #[60, 62] }, .string { data := #[60] }, .string { data := #[60, 61] }, .string { data := #[62] }, .string { data := #[62, 61] }] 9)) = V at *
   have e0 : (({ data := #[] } : ByteArray).toList != []) = false := by rw [Lib.toList_data]; rfl
   simp only [nob] at HS
   go_wp2_with fail
   refine HS.out.mono ?_; rintro e w4 ⟨rfl, n, rfl⟩
   have K4 := Kn.drew n
   have H4 := Hn.drew n
   have X4 := Xn.kept ((Kept.refl x V).drew n) ne2
   have L4 := Ln.kept ((Kept.refl x V).drew n) nxa
   obtain ⟨f0, f1, f2, f3, f4, f5, f6, f7, f8, f9, z0, z1, z2, z3, z4, z5, z6, z7, z8, z9⟩ := (X4).cells
   obtain ⟨a0, a1, a2, a3, a4, a5, a6, a7, a8, a9, az0, az1, az2, az3, az4, az5, az6, az7, az8, az9⟩ := (L4).cells
   go_wp2_with fail
   rw [HE.out]
   refine bodyPost_ret (v := .agg (jN f A m c)) (by simp [results, results30, go_sem, f0, f1, f2, f3, f4, f5, f6, f7, f8, f9]) rfl (PPost.err (b := w.heap.size) K4 H4 (nodeV_any f _ _ _) hb0 hn2 hn3 (Nat.le_refl _) hxw ?_)
   repeat (with_reducible first | exact Kept.refl _ _ | refine Kept.setCell ?_ _ _)
structure TLoc (w : World) (b : Nat) (t : Tok) : Prop where
 at_ : w.heap[b]? = some (.cells (jT t) 114 (0, 0))
theorem TLoc.lt {w : World} {b : Nat} {t : Tok} (h : TLoc w b t) : b < w.heap.size := (Array.getElem?_eq_some_iff.1 h.at_).1
theorem TLoc.kept {w w' : World} {b y : Nat} {t : Tok} (h : TLoc w b t) (hk : Kept y w w') (hb : b ≠ y) : TLoc w' b t := ⟨(hk.block b h.lt hb).trans h.at_⟩
theorem TLoc.cells {w : World} {b : Nat} {t : Tok} (h : TLoc w b t) : w.cell? ⟨b, 0, none⟩ = some (.int .i64 t.k) ∧ w.cell? ⟨b, 1, none⟩ = some (.int .i64 t.n) ∧ w.cell? ⟨b, 2, none⟩ = some (.string t.s) ∧ w.cell? ⟨b, 3, none⟩ = some (.int .i64 t.at_) := by
 have h1 := h.at_
 refine ⟨?_, ?_, ?_, ?_⟩ <;> simp [World.cell?, h1]
theorem TLoc.store {w : World} {b : Nat} {a0 a1 a2 a3 : Value} (h : w.heap[b]? = some (.cells #[a0, a1, a2, a3] 114 (0, 0))) (t : Tok) :
   TLoc ((((w.setCell ⟨b, 0, none⟩ (.int .i64 t.k)).setCell ⟨b, 1, none⟩ (.int .i64 t.n)).setCell ⟨b, 2, none⟩ (.string t.s)).setCell ⟨b, 3, none⟩ (.int .i64 t.at_)) b t := ⟨by simp [World.setCell, Array.getElem?_modify, h]⟩
section
variable {l : List Tok} {n : Int} {L : Lev} {into : Bool} {k : Nat} {t : Tok}
theorem part_over (h : l.length ≤ k) : partF l n L into k = .error (badAt l n k) := by simp [partF, List.getElem?_eq_none h]
theorem part_int (h : l[k]? = some t) (h1 : t.k = 1) : partF l n L into k = .ok (constN 2 t.n nob, k + 1) := by simp [partF, h, h1]
theorem part_long (h : l[k]? = some t) (h1 : t.k = 2) (h2 : 200 < t.s.size) : partF l n L into k = .error (badAt l n k) := by simp [partF, h, h1, h2]
theorem part_text (h : l[k]? = some t) (h1 : t.k = 2) (h2 : ¬ 200 < t.s.size) : partF l n L into k = .ok (constN 3 0 t.s, k + 1) := by
 unfold partF
 simp only [h]
 rw [if_neg (by rw [h1]; decide), if_pos h1, if_neg h2]
theorem part_name (h : l[k]? = some t) (h1 : t.k = 3) : partF l n L into k = nameF l n L into t k := by simp [partF, h, h1]
theorem part_none (h : l[k]? = some t) (h1 : t.k ≠ 1) (h2 : t.k ≠ 2) (h3 : t.k ≠ 3) (h4 : isSign l k [40] = false) : partF l n L into k = .error (badAt l n k) := by simp [partF, h, h1, h2, h3, h4]
theorem part_paren (h : l[k]? = some t) (h1 : t.k ≠ 1) (h2 : t.k ≠ 2) (h3 : t.k ≠ 3) (h4 : isSign l k [40] = true) : partF l n L into k = parenF l n L into (k + 1) := by simp [partF, h, h1, h2, h3, h4]
end
theorem rpart_over {x : Nat} {lv : Value} {l : List Tok} {en nest : Int} {L : Lev} {into : Bool} {k : Nat} (w : World) (h : Pre w x lv l en k nest 0 0) (hl : l.length ≤ 300) (hk : k ≤ 301) (hn0 : 0 ≤ nest) (hn1 : nest ≤ 40) (hi : into = decide (nest < 40)) (hL : LGoes l L)
   (ho : l.length ≤ k) :
   Calls prog 162 #[.pointer (some ⟨x, 0, none⟩)] w (PPost x lv l en nest (partF l en L into k) w) := by
 have hxw := h.at_.lt
 have HX := NBox.new w
 have H0 := h.alloc (.cells jZ 31)
 have K0 : Kept x w (w.alloc (.cells jZ 31)) := (Kept.refl _ _).alloc _
 generalize hW : (w.alloc (.cells jZ 31)) = W at *
 have ne1 : x ≠ w.heap.size := by omega
 have ne2 : w.heap.size ≠ x := by omega
 have lt0 := HX.lt
 generalize hO : partF l en L into k = O
 have HO := hid hO.symm
 have HIN := hid hi
 clear h hO hi
 obtain ⟨TA, tc, rfl, -⟩ := H0.tok.form
 obtain ⟨c0, c1, c2, c3, c4, c5, y1, y3, y4, y5⟩ := (H0).at_.cells
 have d1 : decide ((l.length : Int) ≤ (k : Int)) = true := decide_eq_true (by omega)
 have E := hid (HO.out.trans (part_over ho))
 go_enter func162, ntmps162
 go_wp2_with fail
 go_quiet (fail)
 go_wp2_with fail
 refine (rbad _ (H0.drew nq) hl).mono ?_; rintro e w2 ⟨rfl, H2, k2⟩
 have K2 := (K0.drew nq).trans k2
 have X2 := (HX.kept ((Kept.refl x W).drew nq) ne2).kept k2 ne2
 clear c0 c1 c2 c3 c4 c5 y1 y3 y4 y5
 obtain ⟨f0, f1, f2, f3, f4, f5, f6, f7, f8, f9, z0, z1, z2, z3, z4, z5, z6, z7, z8, z9⟩ := (X2).cells
 go_wp2_with fail
 rw [E.out]
 refine bodyPost_ret (v := .agg jZ) (by simp [results, results162, go_sem, f0, f1, f2, f3, f4, f5, f6, f7, f8, f9]) rfl (PPost.err (b := w.heap.size) K2 H2 (nodeV_any fld0 _ _ _) (by show (13 : Int) ≠ 0; decide) (Int.le_refl _) (by omega) (Nat.le_refl _) hxw ?_)
 repeat (with_reducible first | exact Kept.refl _ _ | refine Kept.setCell ?_ _ _)
theorem rpart_int {x : Nat} {lv : Value} {l : List Tok} {en nest : Int} {L : Lev} {into : Bool} {k : Nat} (w : World) (h : Pre w x lv l en k nest 0 0) (hl : l.length ≤ 300) (hk : k ≤ 301) (hn0 : 0 ≤ nest) (hn1 : nest ≤ 40) (hi : into = decide (nest < 40)) (hL : LGoes l L)
   {t : Tok} (ht : l[k]? = some t) (h1 : t.k = 1) :
   Calls prog 162 #[.pointer (some ⟨x, 0, none⟩)] w (PPost x lv l en nest (partF l en L into k) w) := by
 have hxw := h.at_.lt
 have HX := NBox.new w
 have H0 := h.alloc (.cells jZ 31)
 have K0 : Kept x w (w.alloc (.cells jZ 31)) := (Kept.refl _ _).alloc _
 generalize hW : (w.alloc (.cells jZ 31)) = W at *
 have ne1 : x ≠ w.heap.size := by omega
 have ne2 : w.heap.size ≠ x := by omega
 have lt0 := HX.lt
 generalize hO : partF l en L into k = O
 have HO := hid hO.symm
 have HIN := hid hi
 clear h hO hi
 have hlt : k < l.length := (List.getElem?_eq_some_iff.1 ht).1
 have hte : l[k] = t := (List.getElem?_eq_some_iff.1 ht).2
 obtain ⟨TA, tc, hlv, hT⟩ := H0.tok.form
 subst hlv
 obtain ⟨tg, rfl, hgx, t0, t1, t2, t3⟩ := hT k hlt
 rw [hte] at t0 t1 t2 t3
 have d1 : decide ((l.length : Int) ≤ (k : Int)) = false := decide_eq_false (by omega)
 obtain ⟨c0, c1, c2, c3, c4, c5, y1, y3, y4, y5⟩ := (H0).at_.cells
 have E := hid (HO.out.trans (part_int ht h1))
 have p1 : (t.k == 1) = true := by rw [h1]; rfl
 clear h1
 clear hT
 go_enter func162, ntmps162
 go_wp2_with fail
 go_quiet (fail)
 go_wp2_with fail
 have HZ := H0.drew (nq + 1)
 have KZ := K0.drew (nq + 1)
 have XZ := HX.kept ((Kept.refl x W).drew (nq + 1)) ne2
 have SS : ∀ w2 : World, w2.cell? ⟨x, 0, none⟩ = W.cell? ⟨x, 0, none⟩ → w2.cell? ⟨x, 1, none⟩ = W.cell? ⟨x, 1, none⟩ → (∀ o, w2.cell? ⟨tg, o, none⟩ = W.cell? ⟨tg, o, none⟩) → w2.cell? ⟨x, 0, none⟩ = some (.slice (some ⟨tg, 0, none⟩) l.length tc) ∧ w2.cell? ⟨x, 1, none⟩ = some (.int .i64 (k : Int)) ∧ w2.cell? ⟨tg, k * 4, none⟩ = some (.int .i64 t.k) ∧ w2.cell? ⟨tg, k * 4 + 1, none⟩ = some (.int .i64 t.n) ∧ w2.cell? ⟨tg, k * 4 + 2, none⟩ = some (.string t.s) ∧ w2.cell? ⟨tg, k * 4 + 3, none⟩ = some (.int .i64 t.at_) := fun w2 h0 h1 h2 => ⟨h0.trans c0, h1.trans c1, (h2 _).trans t0, (h2 _).trans t1, (h2 _).trans t2, (h2 _).trans t3⟩
 have n1 : x < W.heap.size := H0.at_.lt
 have n2 : tg < W.heap.size := by omega
 have S0 := SS (W.drewN (nq + 1)) rfl rfl (fun _ => rfl)
 have S3 := SS (W.drewN nq).drew rfl rfl (fun _ => rfl)
 have S1 := SS ((W.drewN (nq + 1)).alloc (.cells jTZ 114)) (World.cell?_alloc_lt _ _ _ n1) (World.cell?_alloc_lt _ _ _ n1) (fun _ => World.cell?_alloc_lt _ _ _ n2)
 have S2 := SS ((W.drewN (nq + 1)).alloc (.cells (jT t) 114)) (World.cell?_alloc_lt _ _ _ n1) (World.cell?_alloc_lt _ _ _ n1) (fun _ => World.cell?_alloc_lt _ _ _ n2)
 have nx1 : x ≠ W.heap.size := by omega
 have nx2 : tg ≠ W.heap.size := by omega
 have KZ2 : Kept W.heap.size ((W.drewN (nq + 1)).alloc (.cells jTZ 114)) ((((((W.drewN (nq + 1)).alloc (.cells jTZ 114)).setCell ⟨W.heap.size, 0, none⟩ (.int .i64 t.k)).setCell ⟨W.heap.size, 1, none⟩ (.int .i64 t.n)).setCell ⟨W.heap.size, 2, none⟩ (.string t.s)).setCell ⟨W.heap.size, 3, none⟩ (.int .i64 t.at_)) := by repeat (with_reducible first | exact Kept.refl _ _ | refine Kept.setCell ?_ _ _)
 have S4 : ((((((W.drewN (nq + 1)).alloc (.cells jTZ 114)).setCell ⟨W.heap.size, 0, none⟩ (.int .i64 t.k)).setCell ⟨W.heap.size, 1, none⟩ (.int .i64 t.n)).setCell ⟨W.heap.size, 2, none⟩ (.string t.s)).setCell ⟨W.heap.size, 3, none⟩ (.int .i64 t.at_)).cell? ⟨x, 0, none⟩ = some (.slice (some ⟨tg, 0, none⟩) l.length tc) ∧ ((((((W.drewN (nq + 1)).alloc (.cells jTZ 114)).setCell ⟨W.heap.size, 0, none⟩ (.int .i64 t.k)).setCell ⟨W.heap.size, 1, none⟩ (.int .i64 t.n)).setCell ⟨W.heap.size, 2, none⟩ (.string t.s)).setCell ⟨W.heap.size, 3, none⟩ (.int .i64 t.at_)).cell? ⟨x, 1, none⟩ = some (.int .i64 (k : Int)) ∧ ((((((W.drewN (nq + 1)).alloc (.cells jTZ 114)).setCell ⟨W.heap.size, 0, none⟩ (.int .i64 t.k)).setCell ⟨W.heap.size, 1, none⟩ (.int .i64 t.n)).setCell ⟨W.heap.size, 2, none⟩ (.string t.s)).setCell ⟨W.heap.size, 3, none⟩ (.int .i64 t.at_)).cell? ⟨tg, k * 4, none⟩ = some (.int .i64 t.k) ∧ ((((((W.drewN (nq + 1)).alloc (.cells jTZ 114)).setCell ⟨W.heap.size, 0, none⟩ (.int .i64 t.k)).setCell ⟨W.heap.size, 1, none⟩ (.int .i64 t.n)).setCell ⟨W.heap.size, 2, none⟩ (.string t.s)).setCell ⟨W.heap.size, 3, none⟩ (.int .i64 t.at_)).cell? ⟨tg, k * 4 + 1, none⟩ = some (.int .i64 t.n) ∧ ((((((W.drewN (nq + 1)).alloc (.cells jTZ 114)).setCell ⟨W.heap.size, 0, none⟩ (.int .i64 t.k)).setCell ⟨W.heap.size, 1, none⟩ (.int .i64 t.n)).setCell ⟨W.heap.size, 2, none⟩ (.string t.s)).setCell ⟨W.heap.size, 3, none⟩ (.int .i64 t.at_)).cell? ⟨tg, k * 4 + 2, none⟩ = some (.string t.s) ∧ ((((((W.drewN (nq + 1)).alloc (.cells jTZ 114)).setCell ⟨W.heap.size, 0, none⟩ (.int .i64 t.k)).setCell ⟨W.heap.size, 1, none⟩ (.int .i64 t.n)).setCell ⟨W.heap.size, 2, none⟩ (.string t.s)).setCell ⟨W.heap.size, 3, none⟩ (.int .i64 t.at_)).cell? ⟨tg, k * 4 + 3, none⟩ = some (.int .i64 t.at_) := by
   obtain ⟨a0, a1, a2, a3, a4, a5⟩ := S1
   exact ⟨KZ2.cell nx1 a0, KZ2.cell nx1 a1, KZ2.cell nx2 a2, KZ2.cell nx2 a3, KZ2.cell nx2 a4, KZ2.cell nx2 a5⟩
 clear c0 c1 c2 c3 c4 c5 y1 y3 y4 y5
 clear t0 t1 t2 t3 SS
 have HS0 := hid S0
 have HS3 := hid S3
 have HS4 := hid S4
 have HS1 := hid S1
 have HS2 := hid S2
 clear S0 S1 S2 S3 S4
 have nb := heap_alloc_new (W.drewN (nq + 1)) (.cells jTZ 114)
 have vz : ((W.drewN (nq + 1)).alloc (.cells jTZ 114)).cell? ⟨W.heap.size, 0, none⟩ = some (.int .i64 0) ∧ ((W.drewN (nq + 1)).alloc (.cells jTZ 114)).cell? ⟨W.heap.size, 1, none⟩ = some (.int .i64 0) ∧ ((W.drewN (nq + 1)).alloc (.cells jTZ 114)).cell? ⟨W.heap.size, 2, none⟩ = some (.string { data := #[] }) ∧ ((W.drewN (nq + 1)).alloc (.cells jTZ 114)).cell? ⟨W.heap.size, 3, none⟩ = some (.int .i64 0) ∧ ((W.drewN (nq + 1)).alloc (.cells jTZ 114)).frozen? ⟨W.heap.size, 0, none⟩ = false ∧ ((W.drewN (nq + 1)).alloc (.cells jTZ 114)).frozen? ⟨W.heap.size, 1, none⟩ = false ∧ ((W.drewN (nq + 1)).alloc (.cells jTZ 114)).frozen? ⟨W.heap.size, 2, none⟩ = false ∧ ((W.drewN (nq + 1)).alloc (.cells jTZ 114)).frozen? ⟨W.heap.size, 3, none⟩ = false := by
   have nb2 : ((W.drewN (nq + 1)).alloc (.cells jTZ 114)).heap[W.heap.size]? = some (.cells jTZ 114 (0, 0)) := nb
   refine ⟨?_, ?_, ?_, ?_, ?_, ?_, ?_, ?_⟩ <;> simp only [World.cell?, World.frozen?, nb2] <;> rfl
 obtain ⟨v0, v1, v2, v3, v4, v5, v6, v7⟩ := vz
 have TT : TLoc ((((((W.drewN (nq + 1)).alloc (.cells jTZ 114)).setCell ⟨W.heap.size, 0, none⟩ (.int .i64 t.k)).setCell ⟨W.heap.size, 1, none⟩ (.int .i64 t.n)).setCell ⟨W.heap.size, 2, none⟩ (.string t.s)).setCell ⟨W.heap.size, 3, none⟩ (.int .i64 t.at_)) W.heap.size t := by
   have nb2 : ((W.drewN (nq + 1)).alloc (.cells jTZ 114)).heap[W.heap.size]? = some (.cells jTZ 114 (0, 0)) := nb
   exact TLoc.store nb2 t
 clear nb
 go_region_held3 (fun w' => w'.cell? ⟨x, 0, none⟩ = some (.slice (some ⟨tg, 0, none⟩) l.length tc) ∧ w'.cell? ⟨x, 1, none⟩ = some (.int .i64 (k : Int)) ∧ w'.cell? ⟨tg, k * 4, none⟩ = some (.int .i64 t.k) ∧ w'.cell? ⟨tg, k * 4 + 1, none⟩ = some (.int .i64 t.n) ∧ w'.cell? ⟨tg, k * 4 + 2, none⟩ = some (.string t.s) ∧ w'.cell? ⟨tg, k * 4 + 3, none⟩ = some (.int .i64 t.at_))
   (with_reducible first | exact HS3.out | exact HS0.out | exact HS1.out | exact HS2.out | exact HS4.out) (first | fail)
 clear HS0 HS1 HS2 HS3 HS4 v0 v1 v2 v3 v4 v5 v6 v7
 have HT := (HZ.alloc (.cells jTZ 114)).kept KZ2 n1
 have KT := (KZ.alloc (.cells jTZ 114)).then_ KZ2 (by omega)
 have XT := (XZ.kept ((Kept.refl x _).alloc (.cells jTZ 114)) ne2).kept KZ2 (by omega)
 have nxt : W.heap.size ≠ x := by omega
 have nbt : w.heap.size ≠ W.heap.size := by omega
 have nct : W.heap.size ≠ w.heap.size := by omega
 clear KZ2
 generalize hV : ((((((W.drewN (nq + 1)).alloc (.cells jTZ 114)).setCell ⟨W.heap.size, 0, none⟩ (.int .i64 t.k)).setCell ⟨W.heap.size, 1, none⟩ (.int .i64 t.n)).setCell ⟨W.heap.size, 2, none⟩ (.string t.s)).setCell ⟨W.heap.size, 3, none⟩ (.int .i64 t.at_)) = T at *
 obtain ⟨q0, q1, q2, q3⟩ := TT.cells
 have HT2 := HT.setK ((k : Int) + 1)
 have KT2 := KT.setCell 1 (.int .i64 ((k : Int) + 1))
 have XT2 := XT.kept ((Kept.refl x T).setCell 1 (.int .i64 ((k : Int) + 1))) ne2
 have TT2 := TT.kept ((Kept.refl x T).setCell 1 (.int .i64 ((k : Int) + 1))) nxt
 obtain ⟨c0, c1, c2, c3, c4, c5, y1, y3, y4, y5⟩ := (HT).at_.cells
 generalize hU : (T.setCell ⟨x, 1, none⟩ (.int .i64 ((k : Int) + 1))) = U at *
 rw [show ((k : Int) + 1) = ((k + 1 : Nat) : Int) from by omega] at HT2
 obtain ⟨r0, r1, r2, r3⟩ := TT2.cells
 obtain ⟨f0, f1, f2, f3, f4, f5, f6, f7, f8, f9, z0, z1, z2, z3, z4, z5, z6, z7, z8, z9⟩ := (XT2).cells
 go_wp2_with fail
 rw [E.out]
 refine bodyPost_ret (v := .agg #[.int .i64 1, .int .i64 2, .int .i64 t.n, .string { data := #[] }, .int .i64 0, .int .i64 0, .int .i64 0, .int .i64 0, .string { data := #[] }, .slice none 0 0]) (by simp [results, results162, go_sem, f0, f1, f2, f3, f4, f5, f6, f7, f8, f9]) rfl (PPost.ok (b := w.heap.size) KT2 HT2 (a := (constN 2 t.n nob)) ⟨none, 0, rfl, Or.inl rfl⟩ (Nat.le_refl _) hxw ?_)
 repeat (with_reducible first | exact Kept.refl _ _ | refine Kept.setCell ?_ _ _)
theorem rpart_text {x : Nat} {lv : Value} {l : List Tok} {en nest : Int} {L : Lev} {into : Bool} {k : Nat} (w : World) (h : Pre w x lv l en k nest 0 0) (hl : l.length ≤ 300) (hk : k ≤ 301) (hn0 : 0 ≤ nest) (hn1 : nest ≤ 40) (hi : into = decide (nest < 40)) (hL : LGoes l L)
   {t : Tok} (ht : l[k]? = some t) (h1 : t.k = 2) (h2 : ¬ 200 < t.s.size) :
   Calls prog 162 #[.pointer (some ⟨x, 0, none⟩)] w (PPost x lv l en nest (partF l en L into k) w) := by
 have hxw := h.at_.lt
 have HX := NBox.new w
 have H0 := h.alloc (.cells jZ 31)
 have K0 : Kept x w (w.alloc (.cells jZ 31)) := (Kept.refl _ _).alloc _
 generalize hW : (w.alloc (.cells jZ 31)) = W at *
 have ne1 : x ≠ w.heap.size := by omega
 have ne2 : w.heap.size ≠ x := by omega
 have lt0 := HX.lt
 generalize hO : partF l en L into k = O
 have HO := hid hO.symm
 have HIN := hid hi
 clear h hO hi
 have hlt : k < l.length := (List.getElem?_eq_some_iff.1 ht).1
 have hte : l[k] = t := (List.getElem?_eq_some_iff.1 ht).2
 obtain ⟨TA, tc, hlv, hT⟩ := H0.tok.form
 subst hlv
 obtain ⟨tg, rfl, hgx, t0, t1, t2, t3⟩ := hT k hlt
 rw [hte] at t0 t1 t2 t3
 have d1 : decide ((l.length : Int) ≤ (k : Int)) = false := decide_eq_false (by omega)
 obtain ⟨c0, c1, c2, c3, c4, c5, y1, y3, y4, y5⟩ := (H0).at_.cells
 have E := hid (HO.out.trans (part_text ht h1 h2))
 have p1 : (t.k == 1) = false := by rw [h1]; rfl
 have p2 : (t.k == 2) = true := by rw [h1]; rfl
 clear h1
 have d2 : decide (200 < (t.s.size : Int)) = false := decide_eq_false (by omega)
 clear hT
 go_enter func162, ntmps162
 go_wp2_with fail
 go_quiet (fail)
 go_wp2_with fail
 have HZ := H0.drew (nq + 1)
 have KZ := K0.drew (nq + 1)
 have XZ := HX.kept ((Kept.refl x W).drew (nq + 1)) ne2
 have SS : ∀ w2 : World, w2.cell? ⟨x, 0, none⟩ = W.cell? ⟨x, 0, none⟩ → w2.cell? ⟨x, 1, none⟩ = W.cell? ⟨x, 1, none⟩ → (∀ o, w2.cell? ⟨tg, o, none⟩ = W.cell? ⟨tg, o, none⟩) → w2.cell? ⟨x, 0, none⟩ = some (.slice (some ⟨tg, 0, none⟩) l.length tc) ∧ w2.cell? ⟨x, 1, none⟩ = some (.int .i64 (k : Int)) ∧ w2.cell? ⟨tg, k * 4, none⟩ = some (.int .i64 t.k) ∧ w2.cell? ⟨tg, k * 4 + 1, none⟩ = some (.int .i64 t.n) ∧ w2.cell? ⟨tg, k * 4 + 2, none⟩ = some (.string t.s) ∧ w2.cell? ⟨tg, k * 4 + 3, none⟩ = some (.int .i64 t.at_) := fun w2 h0 h1 h2 => ⟨h0.trans c0, h1.trans c1, (h2 _).trans t0, (h2 _).trans t1, (h2 _).trans t2, (h2 _).trans t3⟩
 have n1 : x < W.heap.size := H0.at_.lt
 have n2 : tg < W.heap.size := by omega
 have S0 := SS (W.drewN (nq + 1)) rfl rfl (fun _ => rfl)
 have S3 := SS (W.drewN nq).drew rfl rfl (fun _ => rfl)
 have S1 := SS ((W.drewN (nq + 1)).alloc (.cells jTZ 114)) (World.cell?_alloc_lt _ _ _ n1) (World.cell?_alloc_lt _ _ _ n1) (fun _ => World.cell?_alloc_lt _ _ _ n2)
 have S2 := SS ((W.drewN (nq + 1)).alloc (.cells (jT t) 114)) (World.cell?_alloc_lt _ _ _ n1) (World.cell?_alloc_lt _ _ _ n1) (fun _ => World.cell?_alloc_lt _ _ _ n2)
 have nx1 : x ≠ W.heap.size := by omega
 have nx2 : tg ≠ W.heap.size := by omega
 have KZ2 : Kept W.heap.size ((W.drewN (nq + 1)).alloc (.cells jTZ 114)) ((((((W.drewN (nq + 1)).alloc (.cells jTZ 114)).setCell ⟨W.heap.size, 0, none⟩ (.int .i64 t.k)).setCell ⟨W.heap.size, 1, none⟩ (.int .i64 t.n)).setCell ⟨W.heap.size, 2, none⟩ (.string t.s)).setCell ⟨W.heap.size, 3, none⟩ (.int .i64 t.at_)) := by repeat (with_reducible first | exact Kept.refl _ _ | refine Kept.setCell ?_ _ _)
 have S4 : ((((((W.drewN (nq + 1)).alloc (.cells jTZ 114)).setCell ⟨W.heap.size, 0, none⟩ (.int .i64 t.k)).setCell ⟨W.heap.size, 1, none⟩ (.int .i64 t.n)).setCell ⟨W.heap.size, 2, none⟩ (.string t.s)).setCell ⟨W.heap.size, 3, none⟩ (.int .i64 t.at_)).cell? ⟨x, 0, none⟩ = some (.slice (some ⟨tg, 0, none⟩) l.length tc) ∧ ((((((W.drewN (nq + 1)).alloc (.cells jTZ 114)).setCell ⟨W.heap.size, 0, none⟩ (.int .i64 t.k)).setCell ⟨W.heap.size, 1, none⟩ (.int .i64 t.n)).setCell ⟨W.heap.size, 2, none⟩ (.string t.s)).setCell ⟨W.heap.size, 3, none⟩ (.int .i64 t.at_)).cell? ⟨x, 1, none⟩ = some (.int .i64 (k : Int)) ∧ ((((((W.drewN (nq + 1)).alloc (.cells jTZ 114)).setCell ⟨W.heap.size, 0, none⟩ (.int .i64 t.k)).setCell ⟨W.heap.size, 1, none⟩ (.int .i64 t.n)).setCell ⟨W.heap.size, 2, none⟩ (.string t.s)).setCell ⟨W.heap.size, 3, none⟩ (.int .i64 t.at_)).cell? ⟨tg, k * 4, none⟩ = some (.int .i64 t.k) ∧ ((((((W.drewN (nq + 1)).alloc (.cells jTZ 114)).setCell ⟨W.heap.size, 0, none⟩ (.int .i64 t.k)).setCell ⟨W.heap.size, 1, none⟩ (.int .i64 t.n)).setCell ⟨W.heap.size, 2, none⟩ (.string t.s)).setCell ⟨W.heap.size, 3, none⟩ (.int .i64 t.at_)).cell? ⟨tg, k * 4 + 1, none⟩ = some (.int .i64 t.n) ∧ ((((((W.drewN (nq + 1)).alloc (.cells jTZ 114)).setCell ⟨W.heap.size, 0, none⟩ (.int .i64 t.k)).setCell ⟨W.heap.size, 1, none⟩ (.int .i64 t.n)).setCell ⟨W.heap.size, 2, none⟩ (.string t.s)).setCell ⟨W.heap.size, 3, none⟩ (.int .i64 t.at_)).cell? ⟨tg, k * 4 + 2, none⟩ = some (.string t.s) ∧ ((((((W.drewN (nq + 1)).alloc (.cells jTZ 114)).setCell ⟨W.heap.size, 0, none⟩ (.int .i64 t.k)).setCell ⟨W.heap.size, 1, none⟩ (.int .i64 t.n)).setCell ⟨W.heap.size, 2, none⟩ (.string t.s)).setCell ⟨W.heap.size, 3, none⟩ (.int .i64 t.at_)).cell? ⟨tg, k * 4 + 3, none⟩ = some (.int .i64 t.at_) := by
   obtain ⟨a0, a1, a2, a3, a4, a5⟩ := S1
   exact ⟨KZ2.cell nx1 a0, KZ2.cell nx1 a1, KZ2.cell nx2 a2, KZ2.cell nx2 a3, KZ2.cell nx2 a4, KZ2.cell nx2 a5⟩
 clear c0 c1 c2 c3 c4 c5 y1 y3 y4 y5
 clear t0 t1 t2 t3 SS
 have HS0 := hid S0
 have HS3 := hid S3
 have HS4 := hid S4
 have HS1 := hid S1
 have HS2 := hid S2
 clear S0 S1 S2 S3 S4
 have nb := heap_alloc_new (W.drewN (nq + 1)) (.cells jTZ 114)
 have vz : ((W.drewN (nq + 1)).alloc (.cells jTZ 114)).cell? ⟨W.heap.size, 0, none⟩ = some (.int .i64 0) ∧ ((W.drewN (nq + 1)).alloc (.cells jTZ 114)).cell? ⟨W.heap.size, 1, none⟩ = some (.int .i64 0) ∧ ((W.drewN (nq + 1)).alloc (.cells jTZ 114)).cell? ⟨W.heap.size, 2, none⟩ = some (.string { data := #[] }) ∧ ((W.drewN (nq + 1)).alloc (.cells jTZ 114)).cell? ⟨W.heap.size, 3, none⟩ = some (.int .i64 0) ∧ ((W.drewN (nq + 1)).alloc (.cells jTZ 114)).frozen? ⟨W.heap.size, 0, none⟩ = false ∧ ((W.drewN (nq + 1)).alloc (.cells jTZ 114)).frozen? ⟨W.heap.size, 1, none⟩ = false ∧ ((W.drewN (nq + 1)).alloc (.cells jTZ 114)).frozen? ⟨W.heap.size, 2, none⟩ = false ∧ ((W.drewN (nq + 1)).alloc (.cells jTZ 114)).frozen? ⟨W.heap.size, 3, none⟩ = false := by
   have nb2 : ((W.drewN (nq + 1)).alloc (.cells jTZ 114)).heap[W.heap.size]? = some (.cells jTZ 114 (0, 0)) := nb
   refine ⟨?_, ?_, ?_, ?_, ?_, ?_, ?_, ?_⟩ <;> simp only [World.cell?, World.frozen?, nb2] <;> rfl
 obtain ⟨v0, v1, v2, v3, v4, v5, v6, v7⟩ := vz
 have TT : TLoc ((((((W.drewN (nq + 1)).alloc (.cells jTZ 114)).setCell ⟨W.heap.size, 0, none⟩ (.int .i64 t.k)).setCell ⟨W.heap.size, 1, none⟩ (.int .i64 t.n)).setCell ⟨W.heap.size, 2, none⟩ (.string t.s)).setCell ⟨W.heap.size, 3, none⟩ (.int .i64 t.at_)) W.heap.size t := by
   have nb2 : ((W.drewN (nq + 1)).alloc (.cells jTZ 114)).heap[W.heap.size]? = some (.cells jTZ 114 (0, 0)) := nb
   exact TLoc.store nb2 t
 clear nb
 go_region_held3 (fun w' => w'.cell? ⟨x, 0, none⟩ = some (.slice (some ⟨tg, 0, none⟩) l.length tc) ∧ w'.cell? ⟨x, 1, none⟩ = some (.int .i64 (k : Int)) ∧ w'.cell? ⟨tg, k * 4, none⟩ = some (.int .i64 t.k) ∧ w'.cell? ⟨tg, k * 4 + 1, none⟩ = some (.int .i64 t.n) ∧ w'.cell? ⟨tg, k * 4 + 2, none⟩ = some (.string t.s) ∧ w'.cell? ⟨tg, k * 4 + 3, none⟩ = some (.int .i64 t.at_))
   (with_reducible first | exact HS3.out | exact HS0.out | exact HS1.out | exact HS2.out | exact HS4.out) (first | fail)
 clear HS0 HS1 HS2 HS3 HS4 v0 v1 v2 v3 v4 v5 v6 v7
 have HT := (HZ.alloc (.cells jTZ 114)).kept KZ2 n1
 have KT := (KZ.alloc (.cells jTZ 114)).then_ KZ2 (by omega)
 have XT := (XZ.kept ((Kept.refl x _).alloc (.cells jTZ 114)) ne2).kept KZ2 (by omega)
 have nxt : W.heap.size ≠ x := by omega
 have nbt : w.heap.size ≠ W.heap.size := by omega
 have nct : W.heap.size ≠ w.heap.size := by omega
 clear KZ2
 generalize hV : ((((((W.drewN (nq + 1)).alloc (.cells jTZ 114)).setCell ⟨W.heap.size, 0, none⟩ (.int .i64 t.k)).setCell ⟨W.heap.size, 1, none⟩ (.int .i64 t.n)).setCell ⟨W.heap.size, 2, none⟩ (.string t.s)).setCell ⟨W.heap.size, 3, none⟩ (.int .i64 t.at_)) = T at *
 obtain ⟨q0, q1, q2, q3⟩ := TT.cells
 have HT2 := HT.setK ((k : Int) + 1)
 have KT2 := KT.setCell 1 (.int .i64 ((k : Int) + 1))
 have XT2 := XT.kept ((Kept.refl x T).setCell 1 (.int .i64 ((k : Int) + 1))) ne2
 have TT2 := TT.kept ((Kept.refl x T).setCell 1 (.int .i64 ((k : Int) + 1))) nxt
 obtain ⟨c0, c1, c2, c3, c4, c5, y1, y3, y4, y5⟩ := (HT).at_.cells
 generalize hU : (T.setCell ⟨x, 1, none⟩ (.int .i64 ((k : Int) + 1))) = U at *
 rw [show ((k : Int) + 1) = ((k + 1 : Nat) : Int) from by omega] at HT2
 obtain ⟨r0, r1, r2, r3⟩ := TT2.cells
 obtain ⟨f0, f1, f2, f3, f4, f5, f6, f7, f8, f9, z0, z1, z2, z3, z4, z5, z6, z7, z8, z9⟩ := (XT2).cells
 go_wp2_with fail
 rw [E.out]
 refine bodyPost_ret (v := .agg #[.int .i64 1, .int .i64 3, .int .i64 0, .string t.s, .int .i64 0, .int .i64 0, .int .i64 0, .int .i64 0, .string { data := #[] }, .slice none 0 0]) (by simp [results, results162, go_sem, f0, f1, f2, f3, f4, f5, f6, f7, f8, f9]) rfl (PPost.ok (b := w.heap.size) KT2 HT2 (a := (constN 3 0 t.s)) ⟨none, 0, rfl, Or.inl rfl⟩ (Nat.le_refl _) hxw ?_)
 repeat (with_reducible first | exact Kept.refl _ _ | refine Kept.setCell ?_ _ _)
theorem rpart_long {x : Nat} {lv : Value} {l : List Tok} {en nest : Int} {L : Lev} {into : Bool} {k : Nat} (w : World) (h : Pre w x lv l en k nest 0 0) (hl : l.length ≤ 300) (hk : k ≤ 301) (hn0 : 0 ≤ nest) (hn1 : nest ≤ 40) (hi : into = decide (nest < 40)) (hL : LGoes l L)
   {t : Tok} (ht : l[k]? = some t) (h1 : t.k = 2) (h2 : 200 < t.s.size) :
   Calls prog 162 #[.pointer (some ⟨x, 0, none⟩)] w (PPost x lv l en nest (partF l en L into k) w) := by
 have hxw := h.at_.lt
 have HX := NBox.new w
 have H0 := h.alloc (.cells jZ 31)
 have K0 : Kept x w (w.alloc (.cells jZ 31)) := (Kept.refl _ _).alloc _
 generalize hW : (w.alloc (.cells jZ 31)) = W at *
 have ne1 : x ≠ w.heap.size := by omega
 have ne2 : w.heap.size ≠ x := by omega
 have lt0 := HX.lt
 generalize hO : partF l en L into k = O
 have HO := hid hO.symm
 have HIN := hid hi
 clear h hO hi
 have hlt : k < l.length := (List.getElem?_eq_some_iff.1 ht).1
 have hte : l[k] = t := (List.getElem?_eq_some_iff.1 ht).2
 obtain ⟨TA, tc, hlv, hT⟩ := H0.tok.form
 subst hlv
 obtain ⟨tg, rfl, hgx, t0, t1, t2, t3⟩ := hT k hlt
 rw [hte] at t0 t1 t2 t3
 have d1 : decide ((l.length : Int) ≤ (k : Int)) = false := decide_eq_false (by omega)
 obtain ⟨c0, c1, c2, c3, c4, c5, y1, y3, y4, y5⟩ := (H0).at_.cells
 have E := hid (HO.out.trans (part_long ht h1 h2))
 have p1 : (t.k == 1) = false := by rw [h1]; rfl
 have p2 : (t.k == 2) = true := by rw [h1]; rfl
 clear h1
 have d2 : decide (200 < (t.s.size : Int)) = true := decide_eq_true (by omega)
 clear hT
 go_enter func162, ntmps162
 go_wp2_with fail
 go_quiet (fail)
 go_wp2_with fail
 have HZ := H0.drew (nq + 1)
 have KZ := K0.drew (nq + 1)
 have XZ := HX.kept ((Kept.refl x W).drew (nq + 1)) ne2
 have SS : ∀ w2 : World, w2.cell? ⟨x, 0, none⟩ = W.cell? ⟨x, 0, none⟩ → w2.cell? ⟨x, 1, none⟩ = W.cell? ⟨x, 1, none⟩ → (∀ o, w2.cell? ⟨tg, o, none⟩ = W.cell? ⟨tg, o, none⟩) → w2.cell? ⟨x, 0, none⟩ = some (.slice (some ⟨tg, 0, none⟩) l.length tc) ∧ w2.cell? ⟨x, 1, none⟩ = some (.int .i64 (k : Int)) ∧ w2.cell? ⟨tg, k * 4, none⟩ = some (.int .i64 t.k) ∧ w2.cell? ⟨tg, k * 4 + 1, none⟩ = some (.int .i64 t.n) ∧ w2.cell? ⟨tg, k * 4 + 2, none⟩ = some (.string t.s) ∧ w2.cell? ⟨tg, k * 4 + 3, none⟩ = some (.int .i64 t.at_) := fun w2 h0 h1 h2 => ⟨h0.trans c0, h1.trans c1, (h2 _).trans t0, (h2 _).trans t1, (h2 _).trans t2, (h2 _).trans t3⟩
 have n1 : x < W.heap.size := H0.at_.lt
 have n2 : tg < W.heap.size := by omega
 have S0 := SS (W.drewN (nq + 1)) rfl rfl (fun _ => rfl)
 have S3 := SS (W.drewN nq).drew rfl rfl (fun _ => rfl)
 have S1 := SS ((W.drewN (nq + 1)).alloc (.cells jTZ 114)) (World.cell?_alloc_lt _ _ _ n1) (World.cell?_alloc_lt _ _ _ n1) (fun _ => World.cell?_alloc_lt _ _ _ n2)
 have S2 := SS ((W.drewN (nq + 1)).alloc (.cells (jT t) 114)) (World.cell?_alloc_lt _ _ _ n1) (World.cell?_alloc_lt _ _ _ n1) (fun _ => World.cell?_alloc_lt _ _ _ n2)
 have nx1 : x ≠ W.heap.size := by omega
 have nx2 : tg ≠ W.heap.size := by omega
 have KZ2 : Kept W.heap.size ((W.drewN (nq + 1)).alloc (.cells jTZ 114)) ((((((W.drewN (nq + 1)).alloc (.cells jTZ 114)).setCell ⟨W.heap.size, 0, none⟩ (.int .i64 t.k)).setCell ⟨W.heap.size, 1, none⟩ (.int .i64 t.n)).setCell ⟨W.heap.size, 2, none⟩ (.string t.s)).setCell ⟨W.heap.size, 3, none⟩ (.int .i64 t.at_)) := by repeat (with_reducible first | exact Kept.refl _ _ | refine Kept.setCell ?_ _ _)
 have S4 : ((((((W.drewN (nq + 1)).alloc (.cells jTZ 114)).setCell ⟨W.heap.size, 0, none⟩ (.int .i64 t.k)).setCell ⟨W.heap.size, 1, none⟩ (.int .i64 t.n)).setCell ⟨W.heap.size, 2, none⟩ (.string t.s)).setCell ⟨W.heap.size, 3, none⟩ (.int .i64 t.at_)).cell? ⟨x, 0, none⟩ = some (.slice (some ⟨tg, 0, none⟩) l.length tc) ∧ ((((((W.drewN (nq + 1)).alloc (.cells jTZ 114)).setCell ⟨W.heap.size, 0, none⟩ (.int .i64 t.k)).setCell ⟨W.heap.size, 1, none⟩ (.int .i64 t.n)).setCell ⟨W.heap.size, 2, none⟩ (.string t.s)).setCell ⟨W.heap.size, 3, none⟩ (.int .i64 t.at_)).cell? ⟨x, 1, none⟩ = some (.int .i64 (k : Int)) ∧ ((((((W.drewN (nq + 1)).alloc (.cells jTZ 114)).setCell ⟨W.heap.size, 0, none⟩ (.int .i64 t.k)).setCell ⟨W.heap.size, 1, none⟩ (.int .i64 t.n)).setCell ⟨W.heap.size, 2, none⟩ (.string t.s)).setCell ⟨W.heap.size, 3, none⟩ (.int .i64 t.at_)).cell? ⟨tg, k * 4, none⟩ = some (.int .i64 t.k) ∧ ((((((W.drewN (nq + 1)).alloc (.cells jTZ 114)).setCell ⟨W.heap.size, 0, none⟩ (.int .i64 t.k)).setCell ⟨W.heap.size, 1, none⟩ (.int .i64 t.n)).setCell ⟨W.heap.size, 2, none⟩ (.string t.s)).setCell ⟨W.heap.size, 3, none⟩ (.int .i64 t.at_)).cell? ⟨tg, k * 4 + 1, none⟩ = some (.int .i64 t.n) ∧ ((((((W.drewN (nq + 1)).alloc (.cells jTZ 114)).setCell ⟨W.heap.size, 0, none⟩ (.int .i64 t.k)).setCell ⟨W.heap.size, 1, none⟩ (.int .i64 t.n)).setCell ⟨W.heap.size, 2, none⟩ (.string t.s)).setCell ⟨W.heap.size, 3, none⟩ (.int .i64 t.at_)).cell? ⟨tg, k * 4 + 2, none⟩ = some (.string t.s) ∧ ((((((W.drewN (nq + 1)).alloc (.cells jTZ 114)).setCell ⟨W.heap.size, 0, none⟩ (.int .i64 t.k)).setCell ⟨W.heap.size, 1, none⟩ (.int .i64 t.n)).setCell ⟨W.heap.size, 2, none⟩ (.string t.s)).setCell ⟨W.heap.size, 3, none⟩ (.int .i64 t.at_)).cell? ⟨tg, k * 4 + 3, none⟩ = some (.int .i64 t.at_) := by
   obtain ⟨a0, a1, a2, a3, a4, a5⟩ := S1
   exact ⟨KZ2.cell nx1 a0, KZ2.cell nx1 a1, KZ2.cell nx2 a2, KZ2.cell nx2 a3, KZ2.cell nx2 a4, KZ2.cell nx2 a5⟩
 clear c0 c1 c2 c3 c4 c5 y1 y3 y4 y5
 clear t0 t1 t2 t3 SS
 have HS0 := hid S0
 have HS3 := hid S3
 have HS4 := hid S4
 have HS1 := hid S1
 have HS2 := hid S2
 clear S0 S1 S2 S3 S4
 have nb := heap_alloc_new (W.drewN (nq + 1)) (.cells jTZ 114)
 have vz : ((W.drewN (nq + 1)).alloc (.cells jTZ 114)).cell? ⟨W.heap.size, 0, none⟩ = some (.int .i64 0) ∧ ((W.drewN (nq + 1)).alloc (.cells jTZ 114)).cell? ⟨W.heap.size, 1, none⟩ = some (.int .i64 0) ∧ ((W.drewN (nq + 1)).alloc (.cells jTZ 114)).cell? ⟨W.heap.size, 2, none⟩ = some (.string { data := #[] }) ∧ ((W.drewN (nq + 1)).alloc (.cells jTZ 114)).cell? ⟨W.heap.size, 3, none⟩ = some (.int .i64 0) ∧ ((W.drewN (nq + 1)).alloc (.cells jTZ 114)).frozen? ⟨W.heap.size, 0, none⟩ = false ∧ ((W.drewN (nq + 1)).alloc (.cells jTZ 114)).frozen? ⟨W.heap.size, 1, none⟩ = false ∧ ((W.drewN (nq + 1)).alloc (.cells jTZ 114)).frozen? ⟨W.heap.size, 2, none⟩ = false ∧ ((W.drewN (nq + 1)).alloc (.cells jTZ 114)).frozen? ⟨W.heap.size, 3, none⟩ = false := by
   have nb2 : ((W.drewN (nq + 1)).alloc (.cells jTZ 114)).heap[W.heap.size]? = some (.cells jTZ 114 (0, 0)) := nb
   refine ⟨?_, ?_, ?_, ?_, ?_, ?_, ?_, ?_⟩ <;> simp only [World.cell?, World.frozen?, nb2] <;> rfl
 obtain ⟨v0, v1, v2, v3, v4, v5, v6, v7⟩ := vz
 have TT : TLoc ((((((W.drewN (nq + 1)).alloc (.cells jTZ 114)).setCell ⟨W.heap.size, 0, none⟩ (.int .i64 t.k)).setCell ⟨W.heap.size, 1, none⟩ (.int .i64 t.n)).setCell ⟨W.heap.size, 2, none⟩ (.string t.s)).setCell ⟨W.heap.size, 3, none⟩ (.int .i64 t.at_)) W.heap.size t := by
   have nb2 : ((W.drewN (nq + 1)).alloc (.cells jTZ 114)).heap[W.heap.size]? = some (.cells jTZ 114 (0, 0)) := nb
   exact TLoc.store nb2 t
 clear nb
 go_region_held3 (fun w' => w'.cell? ⟨x, 0, none⟩ = some (.slice (some ⟨tg, 0, none⟩) l.length tc) ∧ w'.cell? ⟨x, 1, none⟩ = some (.int .i64 (k : Int)) ∧ w'.cell? ⟨tg, k * 4, none⟩ = some (.int .i64 t.k) ∧ w'.cell? ⟨tg, k * 4 + 1, none⟩ = some (.int .i64 t.n) ∧ w'.cell? ⟨tg, k * 4 + 2, none⟩ = some (.string t.s) ∧ w'.cell? ⟨tg, k * 4 + 3, none⟩ = some (.int .i64 t.at_))
   (with_reducible first | exact HS3.out | exact HS0.out | exact HS1.out | exact HS2.out | exact HS4.out) (first | fail)
 clear HS0 HS1 HS2 HS3 HS4 v0 v1 v2 v3 v4 v5 v6 v7
 have HT := (HZ.alloc (.cells jTZ 114)).kept KZ2 n1
 have KT := (KZ.alloc (.cells jTZ 114)).then_ KZ2 (by omega)
 have XT := (XZ.kept ((Kept.refl x _).alloc (.cells jTZ 114)) ne2).kept KZ2 (by omega)
 have nxt : W.heap.size ≠ x := by omega
 have nbt : w.heap.size ≠ W.heap.size := by omega
 have nct : W.heap.size ≠ w.heap.size := by omega
 clear KZ2
 generalize hV : ((((((W.drewN (nq + 1)).alloc (.cells jTZ 114)).setCell ⟨W.heap.size, 0, none⟩ (.int .i64 t.k)).setCell ⟨W.heap.size, 1, none⟩ (.int .i64 t.n)).setCell ⟨W.heap.size, 2, none⟩ (.string t.s)).setCell ⟨W.heap.size, 3, none⟩ (.int .i64 t.at_)) = T at *
 obtain ⟨q0, q1, q2, q3⟩ := TT.cells
 go_wp2_with fail
 refine (rbad _ HT hl).mono ?_; rintro e w2 ⟨rfl, H2, k2⟩
 have K2 := KT.trans k2
 have X2 := XT.kept k2 ne2
 obtain ⟨f0, f1, f2, f3, f4, f5, f6, f7, f8, f9, z0, z1, z2, z3, z4, z5, z6, z7, z8, z9⟩ := (X2).cells
 go_wp2_with fail
 rw [E.out]
 refine bodyPost_ret (v := .agg jZ) (by simp [results, results162, go_sem, f0, f1, f2, f3, f4, f5, f6, f7, f8, f9]) rfl (PPost.err (b := w.heap.size) K2 H2 (nodeV_any fld0 _ _ _) (by show (13 : Int) ≠ 0; decide) (Int.le_refl _) (by omega) (Nat.le_refl _) hxw ?_)
 repeat (with_reducible first | exact Kept.refl _ _ | refine Kept.setCell ?_ _ _)
theorem rpart_name {x : Nat} {lv : Value} {l : List Tok} {en nest : Int} {L : Lev} {into : Bool} {k : Nat} (w : World) (h : Pre w x lv l en k nest 0 0) (hl : l.length ≤ 300) (hk : k ≤ 301) (hn0 : 0 ≤ nest) (hn1 : nest ≤ 40) (hi : into = decide (nest < 40)) (hL : LGoes l L)
   {t : Tok} (ht : l[k]? = some t) (h1 : t.k = 3)
   (hnm : ∀ (w : World), Pre w x lv l en k nest 0 0 → Calls prog 183 #[.pointer (some ⟨x, 0, none⟩), tokV t] w (PPost x lv l en nest (nameF l en L into t k) w)) :
   Calls prog 162 #[.pointer (some ⟨x, 0, none⟩)] w (PPost x lv l en nest (partF l en L into k) w) := by
 have hxw := h.at_.lt
 have HX := NBox.new w
 have H0 := h.alloc (.cells jZ 31)
 have K0 : Kept x w (w.alloc (.cells jZ 31)) := (Kept.refl _ _).alloc _
 generalize hW : (w.alloc (.cells jZ 31)) = W at *
 have ne1 : x ≠ w.heap.size := by omega
 have ne2 : w.heap.size ≠ x := by omega
 have lt0 := HX.lt
 generalize hO : partF l en L into k = O
 have HO := hid hO.symm
 have HIN := hid hi
 clear h hO hi
 have hlt : k < l.length := (List.getElem?_eq_some_iff.1 ht).1
 have hte : l[k] = t := (List.getElem?_eq_some_iff.1 ht).2
 obtain ⟨TA, tc, hlv, hT⟩ := H0.tok.form
 subst hlv
 obtain ⟨tg, rfl, hgx, t0, t1, t2, t3⟩ := hT k hlt
 rw [hte] at t0 t1 t2 t3
 have d1 : decide ((l.length : Int) ≤ (k : Int)) = false := decide_eq_false (by omega)
 obtain ⟨c0, c1, c2, c3, c4, c5, y1, y3, y4, y5⟩ := (H0).at_.cells
 have E := hid (HO.out.trans (part_name ht h1))
 have p1 : (t.k == 1) = false := by rw [h1]; rfl
 have p2 : (t.k == 2) = false := by rw [h1]; rfl
 have p3 : (t.k == 3) = true := by rw [h1]; rfl
 have HN := hid hnm
 clear h1 hnm
 clear hT
 go_enter func162, ntmps162
 go_wp2_with fail
 go_quiet (fail)
 go_wp2_with fail
 have HZ := H0.drew (nq + 1)
 have KZ := K0.drew (nq + 1)
 have XZ := HX.kept ((Kept.refl x W).drew (nq + 1)) ne2
 have SS : ∀ w2 : World, w2.cell? ⟨x, 0, none⟩ = W.cell? ⟨x, 0, none⟩ → w2.cell? ⟨x, 1, none⟩ = W.cell? ⟨x, 1, none⟩ → (∀ o, w2.cell? ⟨tg, o, none⟩ = W.cell? ⟨tg, o, none⟩) → w2.cell? ⟨x, 0, none⟩ = some (.slice (some ⟨tg, 0, none⟩) l.length tc) ∧ w2.cell? ⟨x, 1, none⟩ = some (.int .i64 (k : Int)) ∧ w2.cell? ⟨tg, k * 4, none⟩ = some (.int .i64 t.k) ∧ w2.cell? ⟨tg, k * 4 + 1, none⟩ = some (.int .i64 t.n) ∧ w2.cell? ⟨tg, k * 4 + 2, none⟩ = some (.string t.s) ∧ w2.cell? ⟨tg, k * 4 + 3, none⟩ = some (.int .i64 t.at_) := fun w2 h0 h1 h2 => ⟨h0.trans c0, h1.trans c1, (h2 _).trans t0, (h2 _).trans t1, (h2 _).trans t2, (h2 _).trans t3⟩
 have n1 : x < W.heap.size := H0.at_.lt
 have n2 : tg < W.heap.size := by omega
 have S0 := SS (W.drewN (nq + 1)) rfl rfl (fun _ => rfl)
 have S3 := SS (W.drewN nq).drew rfl rfl (fun _ => rfl)
 have S1 := SS ((W.drewN (nq + 1)).alloc (.cells jTZ 114)) (World.cell?_alloc_lt _ _ _ n1) (World.cell?_alloc_lt _ _ _ n1) (fun _ => World.cell?_alloc_lt _ _ _ n2)
 have S2 := SS ((W.drewN (nq + 1)).alloc (.cells (jT t) 114)) (World.cell?_alloc_lt _ _ _ n1) (World.cell?_alloc_lt _ _ _ n1) (fun _ => World.cell?_alloc_lt _ _ _ n2)
 have nx1 : x ≠ W.heap.size := by omega
 have nx2 : tg ≠ W.heap.size := by omega
 have KZ2 : Kept W.heap.size ((W.drewN (nq + 1)).alloc (.cells jTZ 114)) ((((((W.drewN (nq + 1)).alloc (.cells jTZ 114)).setCell ⟨W.heap.size, 0, none⟩ (.int .i64 t.k)).setCell ⟨W.heap.size, 1, none⟩ (.int .i64 t.n)).setCell ⟨W.heap.size, 2, none⟩ (.string t.s)).setCell ⟨W.heap.size, 3, none⟩ (.int .i64 t.at_)) := by repeat (with_reducible first | exact Kept.refl _ _ | refine Kept.setCell ?_ _ _)
 have S4 : ((((((W.drewN (nq + 1)).alloc (.cells jTZ 114)).setCell ⟨W.heap.size, 0, none⟩ (.int .i64 t.k)).setCell ⟨W.heap.size, 1, none⟩ (.int .i64 t.n)).setCell ⟨W.heap.size, 2, none⟩ (.string t.s)).setCell ⟨W.heap.size, 3, none⟩ (.int .i64 t.at_)).cell? ⟨x, 0, none⟩ = some (.slice (some ⟨tg, 0, none⟩) l.length tc) ∧ ((((((W.drewN (nq + 1)).alloc (.cells jTZ 114)).setCell ⟨W.heap.size, 0, none⟩ (.int .i64 t.k)).setCell ⟨W.heap.size, 1, none⟩ (.int .i64 t.n)).setCell ⟨W.heap.size, 2, none⟩ (.string t.s)).setCell ⟨W.heap.size, 3, none⟩ (.int .i64 t.at_)).cell? ⟨x, 1, none⟩ = some (.int .i64 (k : Int)) ∧ ((((((W.drewN (nq + 1)).alloc (.cells jTZ 114)).setCell ⟨W.heap.size, 0, none⟩ (.int .i64 t.k)).setCell ⟨W.heap.size, 1, none⟩ (.int .i64 t.n)).setCell ⟨W.heap.size, 2, none⟩ (.string t.s)).setCell ⟨W.heap.size, 3, none⟩ (.int .i64 t.at_)).cell? ⟨tg, k * 4, none⟩ = some (.int .i64 t.k) ∧ ((((((W.drewN (nq + 1)).alloc (.cells jTZ 114)).setCell ⟨W.heap.size, 0, none⟩ (.int .i64 t.k)).setCell ⟨W.heap.size, 1, none⟩ (.int .i64 t.n)).setCell ⟨W.heap.size, 2, none⟩ (.string t.s)).setCell ⟨W.heap.size, 3, none⟩ (.int .i64 t.at_)).cell? ⟨tg, k * 4 + 1, none⟩ = some (.int .i64 t.n) ∧ ((((((W.drewN (nq + 1)).alloc (.cells jTZ 114)).setCell ⟨W.heap.size, 0, none⟩ (.int .i64 t.k)).setCell ⟨W.heap.size, 1, none⟩ (.int .i64 t.n)).setCell ⟨W.heap.size, 2, none⟩ (.string t.s)).setCell ⟨W.heap.size, 3, none⟩ (.int .i64 t.at_)).cell? ⟨tg, k * 4 + 2, none⟩ = some (.string t.s) ∧ ((((((W.drewN (nq + 1)).alloc (.cells jTZ 114)).setCell ⟨W.heap.size, 0, none⟩ (.int .i64 t.k)).setCell ⟨W.heap.size, 1, none⟩ (.int .i64 t.n)).setCell ⟨W.heap.size, 2, none⟩ (.string t.s)).setCell ⟨W.heap.size, 3, none⟩ (.int .i64 t.at_)).cell? ⟨tg, k * 4 + 3, none⟩ = some (.int .i64 t.at_) := by
   obtain ⟨a0, a1, a2, a3, a4, a5⟩ := S1
   exact ⟨KZ2.cell nx1 a0, KZ2.cell nx1 a1, KZ2.cell nx2 a2, KZ2.cell nx2 a3, KZ2.cell nx2 a4, KZ2.cell nx2 a5⟩
 clear c0 c1 c2 c3 c4 c5 y1 y3 y4 y5
 clear t0 t1 t2 t3 SS
 have HS0 := hid S0
 have HS3 := hid S3
 have HS4 := hid S4
 have HS1 := hid S1
 have HS2 := hid S2
 clear S0 S1 S2 S3 S4
 have nb := heap_alloc_new (W.drewN (nq + 1)) (.cells jTZ 114)
 have vz : ((W.drewN (nq + 1)).alloc (.cells jTZ 114)).cell? ⟨W.heap.size, 0, none⟩ = some (.int .i64 0) ∧ ((W.drewN (nq + 1)).alloc (.cells jTZ 114)).cell? ⟨W.heap.size, 1, none⟩ = some (.int .i64 0) ∧ ((W.drewN (nq + 1)).alloc (.cells jTZ 114)).cell? ⟨W.heap.size, 2, none⟩ = some (.string { data := #[] }) ∧ ((W.drewN (nq + 1)).alloc (.cells jTZ 114)).cell? ⟨W.heap.size, 3, none⟩ = some (.int .i64 0) ∧ ((W.drewN (nq + 1)).alloc (.cells jTZ 114)).frozen? ⟨W.heap.size, 0, none⟩ = false ∧ ((W.drewN (nq + 1)).alloc (.cells jTZ 114)).frozen? ⟨W.heap.size, 1, none⟩ = false ∧ ((W.drewN (nq + 1)).alloc (.cells jTZ 114)).frozen? ⟨W.heap.size, 2, none⟩ = false ∧ ((W.drewN (nq + 1)).alloc (.cells jTZ 114)).frozen? ⟨W.heap.size, 3, none⟩ = false := by
   have nb2 : ((W.drewN (nq + 1)).alloc (.cells jTZ 114)).heap[W.heap.size]? = some (.cells jTZ 114 (0, 0)) := nb
   refine ⟨?_, ?_, ?_, ?_, ?_, ?_, ?_, ?_⟩ <;> simp only [World.cell?, World.frozen?, nb2] <;> rfl
 obtain ⟨v0, v1, v2, v3, v4, v5, v6, v7⟩ := vz
 have TT : TLoc ((((((W.drewN (nq + 1)).alloc (.cells jTZ 114)).setCell ⟨W.heap.size, 0, none⟩ (.int .i64 t.k)).setCell ⟨W.heap.size, 1, none⟩ (.int .i64 t.n)).setCell ⟨W.heap.size, 2, none⟩ (.string t.s)).setCell ⟨W.heap.size, 3, none⟩ (.int .i64 t.at_)) W.heap.size t := by
   have nb2 : ((W.drewN (nq + 1)).alloc (.cells jTZ 114)).heap[W.heap.size]? = some (.cells jTZ 114 (0, 0)) := nb
   exact TLoc.store nb2 t
 clear nb
 go_region_held3 (fun w' => w'.cell? ⟨x, 0, none⟩ = some (.slice (some ⟨tg, 0, none⟩) l.length tc) ∧ w'.cell? ⟨x, 1, none⟩ = some (.int .i64 (k : Int)) ∧ w'.cell? ⟨tg, k * 4, none⟩ = some (.int .i64 t.k) ∧ w'.cell? ⟨tg, k * 4 + 1, none⟩ = some (.int .i64 t.n) ∧ w'.cell? ⟨tg, k * 4 + 2, none⟩ = some (.string t.s) ∧ w'.cell? ⟨tg, k * 4 + 3, none⟩ = some (.int .i64 t.at_))
   (with_reducible first | exact HS3.out | exact HS0.out | exact HS1.out | exact HS2.out | exact HS4.out) (first | fail)
 clear HS0 HS1 HS2 HS3 HS4 v0 v1 v2 v3 v4 v5 v6 v7
 have HT := (HZ.alloc (.cells jTZ 114)).kept KZ2 n1
 have KT := (KZ.alloc (.cells jTZ 114)).then_ KZ2 (by omega)
 have XT := (XZ.kept ((Kept.refl x _).alloc (.cells jTZ 114)) ne2).kept KZ2 (by omega)
 have nxt : W.heap.size ≠ x := by omega
 have nbt : w.heap.size ≠ W.heap.size := by omega
 have nct : W.heap.size ≠ w.heap.size := by omega
 clear KZ2
 generalize hV : ((((((W.drewN (nq + 1)).alloc (.cells jTZ 114)).setCell ⟨W.heap.size, 0, none⟩ (.int .i64 t.k)).setCell ⟨W.heap.size, 1, none⟩ (.int .i64 t.n)).setCell ⟨W.heap.size, 2, none⟩ (.string t.s)).setCell ⟨W.heap.size, 3, none⟩ (.int .i64 t.at_)) = T at *
 obtain ⟨q0, q1, q2, q3⟩ := TT.cells
 have HC := hid (HN.out T HT)
 unfold tokV at HC
 go_wp2_with fail
 refine HC.out.mono ?_; intro e w2 hp
 obtain ⟨f, A, m, c, rfl, k2, hm⟩ := post_split hp
 unfold nodeV
 have K2 := KT.trans k2
 have X2 := XT.kept k2 ne2
 have bt := XT.lt
 obtain ⟨f0, f1, f2, f3, f4, f5, f6, f7, f8, f9, z0, z1, z2, z3, z4, z5, z6, z7, z8, z9⟩ := (X2).cells
 go_wp2_with fail
 rw [E.out]
 rcases hm with ⟨kd, k', ho, hm, hA, hP⟩ | ⟨b, k3, n2, ho, hb0, h1, h2, hP⟩
 · rw [ho]
   refine bodyPost_ret (v := .agg (jN f A m c)) (by simp [results, results162, go_sem, f0, f1, f2, f3, f4, f5, f6, f7, f8, f9]) rfl (PPost.ok (b := w.heap.size) K2 hP ⟨A, c, by rw [hm]; rfl, hA.keep (Kept.refl w2.heap.size w2) (fun g hg hl => ⟨by omega, by omega⟩)⟩ (Nat.le_refl _) hxw ?_)
   repeat (with_reducible first | exact Kept.refl _ _ | refine Kept.setCell ?_ _ _)
 · rw [ho]
   refine bodyPost_ret (v := .agg (jN f A m c)) (by simp [results, results162, go_sem, f0, f1, f2, f3, f4, f5, f6, f7, f8, f9]) rfl (PPost.err (b := w.heap.size) K2 hP (nodeV_any f _ _ _) hb0 h1 h2 (Nat.le_refl _) hxw ?_)
   repeat (with_reducible first | exact Kept.refl _ _ | refine Kept.setCell ?_ _ _)
theorem rpart_none {x : Nat} {lv : Value} {l : List Tok} {en nest : Int} {L : Lev} {into : Bool} {k : Nat} (w : World) (h : Pre w x lv l en k nest 0 0) (hl : l.length ≤ 300) (hk : k ≤ 301) (hn0 : 0 ≤ nest) (hn1 : nest ≤ 40) (hi : into = decide (nest < 40)) (hL : LGoes l L)
   {t : Tok} (ht : l[k]? = some t) (h1 : t.k ≠ 1) (h2 : t.k ≠ 2) (h3 : t.k ≠ 3) (h4 : isSign l k [40] = false) :
   Calls prog 162 #[.pointer (some ⟨x, 0, none⟩)] w (PPost x lv l en nest (partF l en L into k) w) := by
 have hxw := h.at_.lt
 have HX := NBox.new w
 have H0 := h.alloc (.cells jZ 31)
 have K0 : Kept x w (w.alloc (.cells jZ 31)) := (Kept.refl _ _).alloc _
 generalize hW : (w.alloc (.cells jZ 31)) = W at *
 have ne1 : x ≠ w.heap.size := by omega
 have ne2 : w.heap.size ≠ x := by omega
 have lt0 := HX.lt
 generalize hO : partF l en L into k = O
 have HO := hid hO.symm
 have HIN := hid hi
 clear h hO hi
 have hlt : k < l.length := (List.getElem?_eq_some_iff.1 ht).1
 have hte : l[k] = t := (List.getElem?_eq_some_iff.1 ht).2
 obtain ⟨TA, tc, hlv, hT⟩ := H0.tok.form
 subst hlv
 obtain ⟨tg, rfl, hgx, t0, t1, t2, t3⟩ := hT k hlt
 rw [hte] at t0 t1 t2 t3
 have d1 : decide ((l.length : Int) ≤ (k : Int)) = false := decide_eq_false (by omega)
 obtain ⟨c0, c1, c2, c3, c4, c5, y1, y3, y4, y5⟩ := (H0).at_.cells
 have E := hid (HO.out.trans (part_none ht h1 h2 h3 h4))
 have p1 : (t.k == 1) = false := beq_eq_false_iff_ne.2 h1
 have p2 : (t.k == 2) = false := beq_eq_false_iff_ne.2 h2
 have p3 : (t.k == 3) = false := beq_eq_false_iff_ne.2 h3
 have B40 : Hid (({ data := #[40] } : ByteArray) = str [40]) := hid rfl
 have H4 := hid h4
 clear h1 h2 h3 h4
 clear hT
 go_enter func162, ntmps162
 go_wp2_with fail
 go_quiet (fail)
 go_wp2_with fail
 have HZ := H0.drew (nq + 1)
 have KZ := K0.drew (nq + 1)
 have XZ := HX.kept ((Kept.refl x W).drew (nq + 1)) ne2
 have SS : ∀ w2 : World, w2.cell? ⟨x, 0, none⟩ = W.cell? ⟨x, 0, none⟩ → w2.cell? ⟨x, 1, none⟩ = W.cell? ⟨x, 1, none⟩ → (∀ o, w2.cell? ⟨tg, o, none⟩ = W.cell? ⟨tg, o, none⟩) → w2.cell? ⟨x, 0, none⟩ = some (.slice (some ⟨tg, 0, none⟩) l.length tc) ∧ w2.cell? ⟨x, 1, none⟩ = some (.int .i64 (k : Int)) ∧ w2.cell? ⟨tg, k * 4, none⟩ = some (.int .i64 t.k) ∧ w2.cell? ⟨tg, k * 4 + 1, none⟩ = some (.int .i64 t.n) ∧ w2.cell? ⟨tg, k * 4 + 2, none⟩ = some (.string t.s) ∧ w2.cell? ⟨tg, k * 4 + 3, none⟩ = some (.int .i64 t.at_) := fun w2 h0 h1 h2 => ⟨h0.trans c0, h1.trans c1, (h2 _).trans t0, (h2 _).trans t1, (h2 _).trans t2, (h2 _).trans t3⟩
 have n1 : x < W.heap.size := H0.at_.lt
 have n2 : tg < W.heap.size := by omega
 have S0 := SS (W.drewN (nq + 1)) rfl rfl (fun _ => rfl)
 have S3 := SS (W.drewN nq).drew rfl rfl (fun _ => rfl)
 have S1 := SS ((W.drewN (nq + 1)).alloc (.cells jTZ 114)) (World.cell?_alloc_lt _ _ _ n1) (World.cell?_alloc_lt _ _ _ n1) (fun _ => World.cell?_alloc_lt _ _ _ n2)
 have S2 := SS ((W.drewN (nq + 1)).alloc (.cells (jT t) 114)) (World.cell?_alloc_lt _ _ _ n1) (World.cell?_alloc_lt _ _ _ n1) (fun _ => World.cell?_alloc_lt _ _ _ n2)
 have nx1 : x ≠ W.heap.size := by omega
 have nx2 : tg ≠ W.heap.size := by omega
 have KZ2 : Kept W.heap.size ((W.drewN (nq + 1)).alloc (.cells jTZ 114)) ((((((W.drewN (nq + 1)).alloc (.cells jTZ 114)).setCell ⟨W.heap.size, 0, none⟩ (.int .i64 t.k)).setCell ⟨W.heap.size, 1, none⟩ (.int .i64 t.n)).setCell ⟨W.heap.size, 2, none⟩ (.string t.s)).setCell ⟨W.heap.size, 3, none⟩ (.int .i64 t.at_)) := by repeat (with_reducible first | exact Kept.refl _ _ | refine Kept.setCell ?_ _ _)
 have S4 : ((((((W.drewN (nq + 1)).alloc (.cells jTZ 114)).setCell ⟨W.heap.size, 0, none⟩ (.int .i64 t.k)).setCell ⟨W.heap.size, 1, none⟩ (.int .i64 t.n)).setCell ⟨W.heap.size, 2, none⟩ (.string t.s)).setCell ⟨W.heap.size, 3, none⟩ (.int .i64 t.at_)).cell? ⟨x, 0, none⟩ = some (.slice (some ⟨tg, 0, none⟩) l.length tc) ∧ ((((((W.drewN (nq + 1)).alloc (.cells jTZ 114)).setCell ⟨W.heap.size, 0, none⟩ (.int .i64 t.k)).setCell ⟨W.heap.size, 1, none⟩ (.int .i64 t.n)).setCell ⟨W.heap.size, 2, none⟩ (.string t.s)).setCell ⟨W.heap.size, 3, none⟩ (.int .i64 t.at_)).cell? ⟨x, 1, none⟩ = some (.int .i64 (k : Int)) ∧ ((((((W.drewN (nq + 1)).alloc (.cells jTZ 114)).setCell ⟨W.heap.size, 0, none⟩ (.int .i64 t.k)).setCell ⟨W.heap.size, 1, none⟩ (.int .i64 t.n)).setCell ⟨W.heap.size, 2, none⟩ (.string t.s)).setCell ⟨W.heap.size, 3, none⟩ (.int .i64 t.at_)).cell? ⟨tg, k * 4, none⟩ = some (.int .i64 t.k) ∧ ((((((W.drewN (nq + 1)).alloc (.cells jTZ 114)).setCell ⟨W.heap.size, 0, none⟩ (.int .i64 t.k)).setCell ⟨W.heap.size, 1, none⟩ (.int .i64 t.n)).setCell ⟨W.heap.size, 2, none⟩ (.string t.s)).setCell ⟨W.heap.size, 3, none⟩ (.int .i64 t.at_)).cell? ⟨tg, k * 4 + 1, none⟩ = some (.int .i64 t.n) ∧ ((((((W.drewN (nq + 1)).alloc (.cells jTZ 114)).setCell ⟨W.heap.size, 0, none⟩ (.int .i64 t.k)).setCell ⟨W.heap.size, 1, none⟩ (.int .i64 t.n)).setCell ⟨W.heap.size, 2, none⟩ (.string t.s)).setCell ⟨W.heap.size, 3, none⟩ (.int .i64 t.at_)).cell? ⟨tg, k * 4 + 2, none⟩ = some (.string t.s) ∧ ((((((W.drewN (nq + 1)).alloc (.cells jTZ 114)).setCell ⟨W.heap.size, 0, none⟩ (.int .i64 t.k)).setCell ⟨W.heap.size, 1, none⟩ (.int .i64 t.n)).setCell ⟨W.heap.size, 2, none⟩ (.string t.s)).setCell ⟨W.heap.size, 3, none⟩ (.int .i64 t.at_)).cell? ⟨tg, k * 4 + 3, none⟩ = some (.int .i64 t.at_) := by
   obtain ⟨a0, a1, a2, a3, a4, a5⟩ := S1
   exact ⟨KZ2.cell nx1 a0, KZ2.cell nx1 a1, KZ2.cell nx2 a2, KZ2.cell nx2 a3, KZ2.cell nx2 a4, KZ2.cell nx2 a5⟩
 clear c0 c1 c2 c3 c4 c5 y1 y3 y4 y5
 clear t0 t1 t2 t3 SS
 have HS0 := hid S0
 have HS3 := hid S3
 have HS4 := hid S4
 have HS1 := hid S1
 have HS2 := hid S2
 clear S0 S1 S2 S3 S4
 have nb := heap_alloc_new (W.drewN (nq + 1)) (.cells jTZ 114)
 have vz : ((W.drewN (nq + 1)).alloc (.cells jTZ 114)).cell? ⟨W.heap.size, 0, none⟩ = some (.int .i64 0) ∧ ((W.drewN (nq + 1)).alloc (.cells jTZ 114)).cell? ⟨W.heap.size, 1, none⟩ = some (.int .i64 0) ∧ ((W.drewN (nq + 1)).alloc (.cells jTZ 114)).cell? ⟨W.heap.size, 2, none⟩ = some (.string { data := #[] }) ∧ ((W.drewN (nq + 1)).alloc (.cells jTZ 114)).cell? ⟨W.heap.size, 3, none⟩ = some (.int .i64 0) ∧ ((W.drewN (nq + 1)).alloc (.cells jTZ 114)).frozen? ⟨W.heap.size, 0, none⟩ = false ∧ ((W.drewN (nq + 1)).alloc (.cells jTZ 114)).frozen? ⟨W.heap.size, 1, none⟩ = false ∧ ((W.drewN (nq + 1)).alloc (.cells jTZ 114)).frozen? ⟨W.heap.size, 2, none⟩ = false ∧ ((W.drewN (nq + 1)).alloc (.cells jTZ 114)).frozen? ⟨W.heap.size, 3, none⟩ = false := by
   have nb2 : ((W.drewN (nq + 1)).alloc (.cells jTZ 114)).heap[W.heap.size]? = some (.cells jTZ 114 (0, 0)) := nb
   refine ⟨?_, ?_, ?_, ?_, ?_, ?_, ?_, ?_⟩ <;> simp only [World.cell?, World.frozen?, nb2] <;> rfl
 obtain ⟨v0, v1, v2, v3, v4, v5, v6, v7⟩ := vz
 have TT : TLoc ((((((W.drewN (nq + 1)).alloc (.cells jTZ 114)).setCell ⟨W.heap.size, 0, none⟩ (.int .i64 t.k)).setCell ⟨W.heap.size, 1, none⟩ (.int .i64 t.n)).setCell ⟨W.heap.size, 2, none⟩ (.string t.s)).setCell ⟨W.heap.size, 3, none⟩ (.int .i64 t.at_)) W.heap.size t := by
   have nb2 : ((W.drewN (nq + 1)).alloc (.cells jTZ 114)).heap[W.heap.size]? = some (.cells jTZ 114 (0, 0)) := nb
   exact TLoc.store nb2 t
 clear nb
 go_region_held3 (fun w' => w'.cell? ⟨x, 0, none⟩ = some (.slice (some ⟨tg, 0, none⟩) l.length tc) ∧ w'.cell? ⟨x, 1, none⟩ = some (.int .i64 (k : Int)) ∧ w'.cell? ⟨tg, k * 4, none⟩ = some (.int .i64 t.k) ∧ w'.cell? ⟨tg, k * 4 + 1, none⟩ = some (.int .i64 t.n) ∧ w'.cell? ⟨tg, k * 4 + 2, none⟩ = some (.string t.s) ∧ w'.cell? ⟨tg, k * 4 + 3, none⟩ = some (.int .i64 t.at_))
   (with_reducible first | exact HS3.out | exact HS0.out | exact HS1.out | exact HS2.out | exact HS4.out) (first | fail)
 clear HS0 HS1 HS2 HS3 HS4 v0 v1 v2 v3 v4 v5 v6 v7
 have HT := (HZ.alloc (.cells jTZ 114)).kept KZ2 n1
 have KT := (KZ.alloc (.cells jTZ 114)).then_ KZ2 (by omega)
 have XT := (XZ.kept ((Kept.refl x _).alloc (.cells jTZ 114)) ne2).kept KZ2 (by omega)
 have nxt : W.heap.size ≠ x := by omega
 have nbt : w.heap.size ≠ W.heap.size := by omega
 have nct : W.heap.size ≠ w.heap.size := by omega
 clear KZ2
 generalize hV : ((((((W.drewN (nq + 1)).alloc (.cells jTZ 114)).setCell ⟨W.heap.size, 0, none⟩ (.int .i64 t.k)).setCell ⟨W.heap.size, 1, none⟩ (.int .i64 t.n)).setCell ⟨W.heap.size, 2, none⟩ (.string t.s)).setCell ⟨W.heap.size, 3, none⟩ (.int .i64 t.at_)) = T at *
 obtain ⟨q0, q1, q2, q3⟩ := TT.cells
 have HS := hid (rsign [40] T HT hl)
 rw [H4.out] at HS
 go_wp2_with fail
 rw [B40.out]
 refine HS.out.mono ?_; rintro e w1 ⟨rfl, n, rfl⟩
 go_wp2_with fail
 refine (rbad _ (HT.drew n) hl).mono ?_; rintro e w2 ⟨rfl, H2, k2⟩
 have K2 := (KT.drew n).trans k2
 have X2 := (XT.kept ((Kept.refl x T).drew n) ne2).kept k2 ne2
 obtain ⟨f0, f1, f2, f3, f4, f5, f6, f7, f8, f9, z0, z1, z2, z3, z4, z5, z6, z7, z8, z9⟩ := (X2).cells
 go_wp2_with fail
 rw [E.out]
 refine bodyPost_ret (v := .agg jZ) (by simp [results, results162, go_sem, f0, f1, f2, f3, f4, f5, f6, f7, f8, f9]) rfl (PPost.err (b := w.heap.size) K2 H2 (nodeV_any fld0 _ _ _) (by show (13 : Int) ≠ 0; decide) (Int.le_refl _) (by omega) (Nat.le_refl _) hxw ?_)
 repeat (with_reducible first | exact Kept.refl _ _ | refine Kept.setCell ?_ _ _)
end Go.Proofs.YticehalcnbjccaaGreatDoor.TreeC
