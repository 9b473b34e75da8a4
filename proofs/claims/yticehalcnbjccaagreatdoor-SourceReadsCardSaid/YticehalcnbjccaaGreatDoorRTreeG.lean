/-
  Contract of tree's reference: product.
-/
import Derived.Test.YticehalcnbjccaaGreatDoorRLexF
import Derived.Deep.RegionWith
namespace Go.Proofs.YticehalcnbjccaaGreatDoor.TreeC
set_option maxRecDepth 100000
set_option maxHeartbeats 8000000
set_option linter.unusedVariables false
open Go.RowKit NumC LexC
open Cd
open Tryz
open Lib (hid)
theorem NLoc.drew {w : World} {b n c : Nat} {f : Fld} {A : Option Addr} (h : NLoc w b f A n c) : NLoc w.drew b f A n c := ⟨h.at_⟩
theorem NLoc.ten {w : World} {b n c : Nat} {f : Fld} {A : Option Addr} (h : NLoc w b f A n c) : w.cell? ⟨b, 0, none⟩ = some (.int .i64 f.k) ∧ w.cell? ⟨b, 1, none⟩ = some (.int .i64 f.vk) ∧ w.cell? ⟨b, 2, none⟩ = some (.int .i64 f.vn) ∧ w.cell? ⟨b, 3, none⟩ = some (.string f.vs) ∧ w.cell? ⟨b, 4, none⟩ = some (.int .i64 f.r1) ∧
   w.cell? ⟨b, 5, none⟩ = some (.int .i64 f.r2) ∧ w.cell? ⟨b, 6, none⟩ = some (.int .i64 f.r3) ∧ w.cell? ⟨b, 7, none⟩ = some (.int .i64 f.r4) ∧ w.cell? ⟨b, 8, none⟩ = some (.string f.op) ∧ w.cell? ⟨b, 9, none⟩ = some (.slice A n c) := by
 obtain ⟨h0, h1, h2, h3, h4, h5, h6, h7, h8, h9, -⟩ := h.cells
 exact ⟨h0, h1, h2, h3, h4, h5, h6, h7, h8, h9⟩
theorem NLoc.store {w : World} {b n c : Nat} {f : Fld} {A : Option Addr} (h : NLoc w b f A n c) (g : Fld) (B : Option Addr) (m d : Nat) :
   NLoc ((((((((((w.setCell ⟨b, 0, none⟩ (.int .i64 g.k)).setCell ⟨b, 1, none⟩ (.int .i64 g.vk)).setCell ⟨b, 2, none⟩ (.int .i64 g.vn)).setCell ⟨b, 3, none⟩ (.string g.vs)).setCell ⟨b, 4, none⟩ (.int .i64 g.r1)).setCell ⟨b, 5, none⟩ (.int .i64 g.r2)).setCell ⟨b, 6, none⟩ (.int .i64 g.r3)).setCell ⟨b, 7, none⟩ (.int .i64 g.r4)).setCell ⟨b, 8, none⟩ (.string g.op)).setCell ⟨b, 9, none⟩ (.slice B m d)) b g B m d := by
 have h1 := h.at_
 exact ⟨by simp [World.setCell, Array.getElem?_modify, h1]⟩
theorem pre_below {w w' : World} {x : Nat} {lv : Value} {l : List Tok} {en k nest e at_ : Int} (h : Pre w x lv l en k nest e at_) (hb : Below w.heap.size w w') : Pre w' x lv l en k nest e at_ := ⟨h.at_.keep hb h.at_.lt, h.tok.kept (y := x) (Kept.of hb) (Nat.le_refl _)⟩
theorem pair_kids {w : World} {Q : Nat → Prop} {f g : Fld} {A B : Option Addr} {n m c d b : Nat} {ka kb : Fo} (hb : Q b) (h : w.heap[b]? = some (.cells ((nodeV f A n c).cells ++ (nodeV g B m d).cells) 31 (0, 0)))
   (hn : ka.len = n) (hm : kb.len = m) (hA : KidsAt w Q ka A) (hB : KidsAt w Q kb B) : KidsAt w Q ((Nd.one ⟨f, ka⟩).app (Nd.one ⟨g, kb⟩)) (some ⟨b, 0, none⟩) :=
 Or.inr ⟨b, 0, rfl, rowAt_block hb (vs := [nodeV f A n c, nodeV g B m d]) ⟨⟨A, c, by rw [hn], hA⟩, ⟨⟨B, d, by rw [hm], hB⟩, trivial⟩⟩ h rfl⟩
theorem post_split {x : Nat} {lv : Value} {l : List Tok} {en nest : Int} {out : Out} {w w' : World} {e : Ending} (h : PPost x lv l en nest out w e w') :
   ∃ f A m c, e = .returned (nodeV f A m c) ∧ Kept x w w' ∧ ((∃ kd k', out = .ok (⟨f, kd⟩, k') ∧ kd.len = m ∧ KidsAt w' (fun g => w.heap.size ≤ g) kd A ∧ Pre w' x lv l en (k' : Nat) nest 0 0) ∨
     (∃ (b : Bad) (k2 n2 : Int), out = .error b ∧ b.1 ≠ 0 ∧ nest ≤ n2 ∧ n2 ≤ nest + 1 ∧ Pre w' x lv l en k2 n2 b.1 b.2)) := by
 obtain ⟨v, rfl, hk, h⟩ := h
 cases out with
 | error b =>
   obtain ⟨⟨f, A, n, c, rfl⟩, hb, k2, n2, h1, h2, hP⟩ := h
   exact ⟨f, A, n, c, rfl, hk, Or.inr ⟨b, k2, n2, rfl, hb, h1, h2, hP⟩⟩
 | ok q =>
   obtain ⟨⟨f, kd⟩, k'⟩ := q
   obtain ⟨⟨A, c, rfl, hA⟩, hP⟩ := h
   exact ⟨f, A, kd.len, c, rfl, hk, Or.inl ⟨kd, k', rfl, rfl, hA, hP⟩⟩
def Mode (w : World) (x : Nat) (lv : Value) (l : List Tok) (en nest : Int) (b3 : Nat) (ss : List (List UInt8)) (part : Nat → Out) (O : Out) (wr : World) (r : Nat) (f : Fld) (A : Option Addr) (m : Nat) : Prop :=
 (∃ (kd : Fo) (k' : Nat), kd.len = m ∧ KidsAt wr (fun g => w.heap.size < g ∧ g ≠ b3) kd A ∧ Pre wr x lv l en k' nest 0 0 ∧ k' ≤ l.length ∧ O = rowF l part ss r ⟨f, kd⟩ k') ∨
 (∃ (b : Bad) (k2 n2 : Int), b.1 ≠ 0 ∧ nest ≤ n2 ∧ n2 ≤ nest + 1 ∧ Pre wr x lv l en k2 n2 b.1 b.2 ∧ O = .error b)
theorem rproduct {x : Nat} {lv : Value} {l : List Tok} {en nest : Int} {L : Lev} {into : Bool} {k : Nat} (w : World) (h : Pre w x lv l en k nest 0 0) (hl : l.length ≤ 300) (hk : k ≤ 301) (hL : LGoes l L)
   (hu : ∀ (k : Nat) (w : World), k ≤ 301 → Pre w x lv l en k nest 0 0 → Calls prog 104 #[.pointer (some ⟨x, 0, none⟩)] w (PPost x lv l en nest (powerF l en L into k) w)) :
   Calls prog 85 #[.pointer (some ⟨x, 0, none⟩)] w (PPost x lv l en nest (productF l en L into k) w) := by
 have hxw := h.at_.lt
 have HX := NBox.new w
 have H0 := h.alloc (.cells jZ 31)
 have K0 : Kept x w (w.alloc (.cells jZ 31)) := (Kept.refl _ _).alloc _
 generalize hW : (w.alloc (.cells jZ 31)) = W at *
 have HU := hid (hu k W (by omega) H0)
 have HP := hid hu
 have ne1 : x ≠ w.heap.size := by omega
 have ne2 : w.heap.size ≠ x := by omega
 have lt0 := HX.lt
 have HG := hid (show Goes l (powerF l en L into) from power_goes hL)
 generalize hO : productF l en L into k = O
 have HO := hid hO.symm
 clear h H0 hO hu
 go_enter func85, ntmps85
 go_wp2_with fail
 refine HU.out.mono ?_; intro e w3 hp3
 obtain ⟨ff, fA, fm, fc, rfl, k3, hm⟩ := post_split hp3
 have lt3 := HX.kept k3 ne2
 unfold nodeV
 have H3x : x < w3.heap.size := by have := k3.size; omega
 have lbx := lt3.lt
 have Ka : Kept x w (w3.alloc (.cells (jN ff fA fm fc) 31)) := (K0.trans k3).alloc _
 have Xa := lt3.kept ((Kept.refl x w3).alloc (.cells (jN ff fA fm fc) 31)) ne2
 have La : NLoc (w3.alloc (.cells (jN ff fA fm fc) 31)) w3.heap.size ff fA fm fc := ⟨heap_alloc_new _ _⟩
 have nxa : w3.heap.size ≠ x := by omega
 have nya : x ≠ w3.heap.size := by omega
 have nba : w.heap.size ≠ w3.heap.size := by omega
 have nca : w3.heap.size ≠ w.heap.size := by omega
 have HM : Mode w x lv l en nest w3.heap.size mulS (powerF l en L into) O (w3.alloc (.cells (jN ff fA fm fc) 31)) 400 ff fA fm := by
   rcases hm with ⟨kd, k', ho, hm, hA, hP⟩ | ⟨b, k2, n2, ho, hb0, h1, h2, hP⟩
   · exact Or.inl ⟨kd, k', hm, hA.keep ((Kept.refl x w3).alloc _) (fun g hg hl => ⟨by omega, by omega, by omega⟩), hP.alloc _, (HG.out _ _ _ ho).2, HO.out.trans (product_go ho)⟩
   · exact Or.inr ⟨b, k2, n2, hb0, h1, h2, hP.alloc _, HO.out.trans (product_err ho)⟩
 have KK := hid Ka
 have XX := hid Xa
 have LL := hid La
 have MM := hid HM
 clear hm HU Ka Xa La HM hp3
 generalize hV : (w3.alloc (.cells (jN ff fA fm fc) 31)) = V at *
 go_wp2_with fail
 go_loopw [4] (fun a wr => ∃ (i : Nat) (f : Fld) (A : Option Addr) (m c : Nat), i ≤ 400 ∧ a = .int .i64 i ∧ Hid (Kept x w wr) ∧ Hid (NBox wr w.heap.size) ∧ Hid (NLoc wr w3.heap.size f A m c) ∧ Hid (Mode w x lv l en nest w3.heap.size mulS (powerF l en L into) O wr (400 - i) f A m)) (fun a _ => 401 - (intOf a).toNat)
 case atStart => exact ⟨0, ff, fA, fm, fc, by omega, rfl, KK, XX, LL, MM⟩
 case round =>
   clear KK XX LL MM hV
   obtain ⟨i, f, A, m, c, hi, rfl, KK, XX, LL, MM⟩ := hrel
   have Xr := XX.out
   have Lr := LL.out
   have bx := Xr.lt
   have lx := Lr.lt
   by_cases hlt : i < 400
   · have d1 : decide ((i : Int) < 400) = true := decide_eq_true (by omega)
     have HT : TextsAt (wr.alloc (.cells #[.string { data := #[42] }, .string { data := #[47] }, .string { data := #[37] }] 9)) (.slice (some ⟨wr.heap.size, 0, none⟩) 3 3) mulS := ⟨wr.heap.size, 3, rfl, fun i h => by
         have hb := heap_alloc_new wr (.cells #[.string { data := #[42] }, .string { data := #[47] }, .string { data := #[37] }] 9)
         have h3 : i < 3 := h
         have h012 : i = 0 ∨ i = 1 ∨ i = 2 := by omega
         rw [cell_of_row _ _ _ _ _ (0, 0) hb]
         rcases h012 with rfl | rfl | rfl <;> rfl⟩
     have Kn := (KK.out).alloc (.cells #[.string { data := #[42] }, .string { data := #[47] }, .string { data := #[37] }] 9)
     have Xn := Xr.kept ((Kept.refl x wr).alloc (.cells #[.string { data := #[42] }, .string { data := #[47] }, .string { data := #[37] }] 9)) ne2
     have Ln := Lr.kept ((Kept.refl x wr).alloc (.cells #[.string { data := #[42] }, .string { data := #[47] }, .string { data := #[37] }] 9)) nxa
     rcases MM.out with ⟨kd, k', hm, hA, hP, hk2, hE⟩ | ⟨b, k2, n2, hb0, hn2, hn3, hP, hE⟩
     · have HM := hid hm
       have HE := hid hE
       have Hn := hP.alloc (.cells #[.string { data := #[42] }, .string { data := #[47] }, .string { data := #[37] }] 9)
       have HS := hid (rone mulS _ _ Hn hl (by decide) HT)
       have An := hA.keep (Q := fun g => w.heap.size < g ∧ g ≠ w3.heap.size) ((Kept.refl x wr).alloc (.cells #[.string { data := #[42] }, .string { data := #[47] }, .string { data := #[37] }] 9)) (fun g hg hl => ⟨by omega, hg⟩)
       clear hm hE hP hA MM HT
       obtain ⟨r0, hr0⟩ : ∃ r0, 400 - i = r0 + 1 := ⟨399 - i, by omega⟩
       rw [hr0] at HE
       generalize hV : (wr.alloc (.cells #[.string { data := #[42] }, .string { data := #[47] }, .string { data := #[37] }] 9)) = V at *
       cases ho : oneOf l k' mulS with
       | none =>
         rw [ho] at HS
         have E2 := hid (HE.out.trans (row_end ho))
         clear HE ho
         have e0 : (({ data := #[] } : ByteArray).toList == []) = true := by rw [Lib.toList_data]; rfl
         simp only [oneB, nob] at HS
         go_wp2_with fail
         refine HS.out.mono ?_; rintro e w4 ⟨rfl, n, rfl⟩
         have K4 := Kn.drew n
         have H4 := Hn.drew n
         have X4 := Xn.kept ((Kept.refl x V).drew n) ne2
         have L4 := Ln.kept ((Kept.refl x V).drew n) nxa
         have A4 := An.keep (Q := fun g => w.heap.size < g) ((Kept.refl x V).drew n) (fun g hg hl => ⟨by omega, hg.1⟩)
         obtain ⟨f0, f1, f2, f3, f4, f5, f6, f7, f8, f9, z0, z1, z2, z3, z4, z5, z6, z7, z8, z9⟩ := (X4).cells
         obtain ⟨a0, a1, a2, a3, a4, a5, a6, a7, a8, a9, az0, az1, az2, az3, az4, az5, az6, az7, az8, az9⟩ := (L4).cells
         go_wp2_with fail
         rw [E2.out]
         refine bodyPost_ret (v := .agg (jN f A m c)) (by simp [results, results85, go_sem, f0, f1, f2, f3, f4, f5, f6, f7, f8, f9]) rfl (PPost.ok (b := w.heap.size) K4 H4 ⟨A, c, by rw [HM.out]; rfl, A4⟩ (Nat.le_refl _) hxw ?_)
         repeat (with_reducible first | exact Kept.refl _ _ | refine Kept.setCell ?_ _ _)
       | some op =>
         rw [ho] at HS
         have hop : op = [42] ∨ op = [47] ∨ op = [37] := by have := List.mem_of_find?_eq_some ho; simpa [mulS] using this
         have e0 : ((str op).toList == []) = false := by rcases hop with rfl | rfl | rfl <;> (rw [Lib.toList_data]; rfl)
         simp only [oneB] at HS
         go_wp2_with fail
         refine HS.out.mono ?_; rintro e w4 ⟨rfl, n, rfl⟩
         have K4 := (Kn.drew n).setCell 1 (.int .i64 ((k' : Int) + 1))
         have H4 := (Hn.drew n).setK ((k' : Int) + 1)
         have X4 := Xn.kept (((Kept.refl x V).drew n).setCell 1 (.int .i64 ((k' : Int) + 1))) ne2
         have L4 := Ln.kept (((Kept.refl x V).drew n).setCell 1 (.int .i64 ((k' : Int) + 1))) nxa
         have A4 := An.keep (Q := fun g => w.heap.size < g ∧ g ≠ w3.heap.size) (((Kept.refl x V).drew n).setCell 1 (.int .i64 ((k' : Int) + 1))) (fun g hg hl => ⟨by omega, hg⟩)
         obtain ⟨c0, c1, c2, c3, c4, c5, y1, y3, y4, y5⟩ := (Hn.drew n).at_.cells
         generalize hU : ((V.drewN n).setCell ⟨x, 1, none⟩ (.int .i64 ((k' : Int) + 1))) = U at *
         rw [show ((k' : Int) + 1) = ((k' + 1 : Nat) : Int) from by omega] at H4
         have HC := hid (HP.out (k' + 1) U.drew (by omega) H4.drew1)
         have L5 := L4.drew
         obtain ⟨a0, a1, a2, a3, a4, a5, a6, a7, a8, a9, az0, az1, az2, az3, az4, az5, az6, az7, az8, az9⟩ := (L4).cells
         have X5 := X4.kept ((Kept.refl x U).drew 1) ne2
         have K5 := K4.drew 1
         go_wp2_with fail
         have hr1 : Hid (400 - (i + 1) = r0) := hid (by omega)
         clear a0 a1 a2 a3 a4 a5 a6 a7 a8 a9 az0 az1 az2 az3 az4 az5 az6 az7 az8 az9 c0 c1 c2 c3 c4 c5 y1 y3 y4 y5 hU hV d1 e0 hr0 hop Xr Lr bx lx KK XX LL
         obtain ⟨a0, a1, a2, a3, a4, a5, a6, a7, a8, a9, az0, az1, az2, az3, az4, az5, az6, az7, az8, az9⟩ := (L5).cells
         clear az0 az1 az2 az3 az4 az5 az6 az7 az8 az9
         go_region_with (first | (go_at_call 104; refine HC.out.mono ?_; intro e w5 hp5; obtain ⟨g, B, m2, d, rfl, k5, hm5⟩ := post_split hp5; have L6 := L5.kept k5 nxa; obtain ⟨d0, d1, d2, d3, d4, d5, d6, d7, d8, d9, dz0, dz1, dz2, dz3, dz4, dz5, dz6, dz7, dz8, dz9⟩ := (L6).cells; clear dz0 dz1 dz2 dz3 dz4 dz5 dz6 dz7 dz8 dz9; unfold nodeV) | (go_at_call 56; refine (rpair (str op) f g A B m m2 c d _).mono ?_; rintro e w6 ⟨pb, rfl, hpb, hpr, hb6⟩; have L7 := L6.kept (Kept.of (x := x) hb6) nxa; obtain ⟨e0, e1, e2, e3, e4, e5, e6, e7, e8, e9, ez0, ez1, ez2, ez3, ez4, ez5, ez6, ez7, ez8, ez9⟩ := (L7).cells; unfold nodeV))
         all_goals
           have K6 : Kept x w w6 := ((show Kept x w U.drew from K4.drew 1).trans k5).trans (Kept.of hb6)
           have X6 : NBox w6 w.heap.size := ((show NBox U.drew w.heap.size from X5).kept k5 ne2).kept (Kept.of (x := x) hb6) ne2
           have l5 := L5.lt
           have l6 := L6.lt
           have b5 : w.heap.size < U.drew.heap.size := X4.lt
           have A6 : KidsAt w6 (fun g => w.heap.size < g ∧ g ≠ w3.heap.size) kd A := ((A4.keep (Q := fun g => w.heap.size < g ∧ g ≠ w3.heap.size) ((Kept.refl x U).drew 1) (fun g hg hl => ⟨by omega, hg⟩)).keep (Q := fun g => w.heap.size < g ∧ g ≠ w3.heap.size) k5 (fun g hg hl => ⟨by omega, hg⟩)).keep (Kept.of (x := x) hb6) (fun g hg hl => ⟨by omega, hg⟩)
           have L7b := hid (L7.store (pairFld (str op)) (some ⟨pb, 0, none⟩) 2 2)
           have hp1 : w.heap.size < pb ∧ pb ≠ w3.heap.size := by omega
           clear e0 e1 e2 e3 e4 e5 e6 e7 e8 e9 ez0 ez1 ez2 ez3 ez4 ez5 ez6 ez7 ez8 ez9
           go_wp2_with fail
           go_roundw
           case rel =>
             refine ⟨i + 1, pairFld (str op), some ⟨pb, 0, none⟩, 2, 2, by omega, by go_num, hid (K6.then_ (b := w3.heap.size) ?_ (by omega)), hid (X6.kept (y := w3.heap.size) ?_ nba), hid L7b.out, hid ?_⟩
             · repeat (with_reducible first | exact Kept.refl _ _ | refine Kept.setCell ?_ _ _)
             · repeat (with_reducible first | exact Kept.refl _ _ | refine Kept.setCell ?_ _ _)
             · rcases hm5 with ⟨kb, k2, ho2, hmb, hB, hP⟩ | ⟨b, k2, n2, ho2, hb0, h1, h2, hP⟩
               · refine Or.inl ⟨(Nd.one ⟨f, kd⟩).app (Nd.one ⟨g, kb⟩), k2, rfl, (pair_kids hp1 hpr HM.out hmb A6 (hB.keep (Kept.of (x := x) hb6) (fun g hg hl => ⟨by omega, by omega, by omega⟩))).keep (y := w3.heap.size) ?_ (fun g hg hl => ⟨hg.2, hg⟩), (pre_below hP hb6).kept (y := w3.heap.size) ?_ (by omega), (HG.out _ _ _ ho2).2, ?_⟩
                 · repeat (with_reducible first | exact Kept.refl _ _ | refine Kept.setCell ?_ _ _)
                 · repeat (with_reducible first | exact Kept.refl _ _ | refine Kept.setCell ?_ _ _)
                 · rw [hr1.out]; exact HE.out.trans (row_go ho ho2)
               · refine Or.inr ⟨b, k2, n2, hb0, h1, h2, (pre_below hP hb6).kept (y := w3.heap.size) ?_ (by omega), HE.out.trans (row_bad ho ho2)⟩
                 repeat (with_reducible first | exact Kept.refl _ _ | refine Kept.setCell ?_ _ _)
           case measure => simp [intOf]; omega
     · have HE := hid hE
       have Hn := hP.alloc (.cells #[.string { data := #[42] }, .string { data := #[47] }, .string { data := #[37] }] 9)
       have HS := hid (rone_no mulS _ _ Hn hb0 (by decide) HT)
       clear hE hP MM HT
       generalize hV : (wr.alloc (.cells #[.string { data := #[42] }, .string { data := #[47] }, .string { data := #[37] }] 9)) = V at *
       have e0 : (({ data := #[] } : ByteArray).toList == []) = true := by rw [Lib.toList_data]; rfl
       simp only [nob] at HS
       go_wp2_with fail
       refine HS.out.mono ?_; rintro e w4 ⟨rfl, n, rfl⟩
       have K4 := Kn.drew n
       have H4 := Hn.drew n
       have X4 := Xn.kept ((Kept.refl x V).drew n) ne2
       have L4 := Ln.kept ((Kept.refl x V).drew n) nxa
       obtain ⟨f0, f1, f2, f3, f4, f5, f6, f7, f8, f9, z0, z1, z2, z3, z4, z5, z6, z7, z8, z9⟩ := (X4).cells
       obtain ⟨a0, a1, a2, a3, a4, a5, a6, a7, a8, a9, az0, az1, az2, az3, az4, az5, az6, az7, az8, az9⟩ := (L4).cells
       go_wp2_with fail
       rw [HE.out]
       refine bodyPost_ret (v := .agg (jN f A m c)) (by simp [results, results85, go_sem, f0, f1, f2, f3, f4, f5, f6, f7, f8, f9]) rfl (PPost.err (b := w.heap.size) K4 H4 (nodeV_any f _ _ _) hb0 hn2 hn3 (Nat.le_refl _) hxw ?_)
       repeat (with_reducible first | exact Kept.refl _ _ | refine Kept.setCell ?_ _ _)
   · have h400 : i = 400 := by omega
     subst h400
     have d1 : decide (((400 : Nat) : Int) < 400) = false := by decide
     have Kn := KK.out
     rcases MM.out with ⟨kd, k', hm, hA, hP, hk2, hE⟩ | ⟨b, k2, n2, hb0, hn2, hn3, hP, hE⟩
     · have HM := hid hm
       have HE := hid hE
       have A4 := hA.keep (Q := fun g => w.heap.size < g) (Kept.refl wr.heap.size wr) (fun g hg hl => ⟨by omega, hg.1⟩)
       clear hm hE hA MM
       obtain ⟨f0, f1, f2, f3, f4, f5, f6, f7, f8, f9, z0, z1, z2, z3, z4, z5, z6, z7, z8, z9⟩ := (Xr).cells
       obtain ⟨a0, a1, a2, a3, a4, a5, a6, a7, a8, a9, az0, az1, az2, az3, az4, az5, az6, az7, az8, az9⟩ := (Lr).cells
       go_wp2_with fail
       rw [HE.out]
       refine bodyPost_ret (v := .agg (jN f A m c)) (by simp [results, results85, go_sem, f0, f1, f2, f3, f4, f5, f6, f7, f8, f9]) rfl (PPost.ok (b := w.heap.size) Kn hP ⟨A, c, by rw [HM.out]; rfl, A4⟩ (Nat.le_refl _) hxw ?_)
       repeat (with_reducible first | exact Kept.refl _ _ | refine Kept.setCell ?_ _ _)
     · have HE := hid hE
       clear hE MM
       obtain ⟨f0, f1, f2, f3, f4, f5, f6, f7, f8, f9, z0, z1, z2, z3, z4, z5, z6, z7, z8, z9⟩ := (Xr).cells
       obtain ⟨a0, a1, a2, a3, a4, a5, a6, a7, a8, a9, az0, az1, az2, az3, az4, az5, az6, az7, az8, az9⟩ := (Lr).cells
       go_wp2_with fail
       rw [HE.out]
       refine bodyPost_ret (v := .agg (jN f A m c)) (by simp [results, results85, go_sem, f0, f1, f2, f3, f4, f5, f6, f7, f8, f9]) rfl (PPost.err (b := w.heap.size) Kn hP (nodeV_any f _ _ _) hb0 hn2 hn3 (Nat.le_refl _) hxw ?_)
       repeat (with_reducible first | exact Kept.refl _ _ | refine Kept.setCell ?_ _ _)
theorem rsum {x : Nat} {lv : Value} {l : List Tok} {en nest : Int} {L : Lev} {into : Bool} {k : Nat} (w : World) (h : Pre w x lv l en k nest 0 0) (hl : l.length ≤ 300) (hk : k ≤ 301) (hL : LGoes l L)
   (hu : ∀ (k : Nat) (w : World), k ≤ 301 → Pre w x lv l en k nest 0 0 → Calls prog 85 #[.pointer (some ⟨x, 0, none⟩)] w (PPost x lv l en nest (productF l en L into k) w)) :
   Calls prog 54 #[.pointer (some ⟨x, 0, none⟩)] w (PPost x lv l en nest (sumF l en L into k) w) := by
 have hxw := h.at_.lt
 have HX := NBox.new w
 have H0 := h.alloc (.cells jZ 31)
 have K0 : Kept x w (w.alloc (.cells jZ 31)) := (Kept.refl _ _).alloc _
 generalize hW : (w.alloc (.cells jZ 31)) = W at *
 have HU := hid (hu k W (by omega) H0)
 have HP := hid hu
 have ne1 : x ≠ w.heap.size := by omega
 have ne2 : w.heap.size ≠ x := by omega
 have lt0 := HX.lt
 have HG := hid (show Goes l (productF l en L into) from product_goes hL)
 generalize hO : sumF l en L into k = O
 have HO := hid hO.symm
 clear h H0 hO hu
 go_enter func54, ntmps54
 go_wp2_with fail
 refine HU.out.mono ?_; intro e w3 hp3
 obtain ⟨ff, fA, fm, fc, rfl, k3, hm⟩ := post_split hp3
 have lt3 := HX.kept k3 ne2
 unfold nodeV
 have H3x : x < w3.heap.size := by have := k3.size; omega
 have lbx := lt3.lt
 have Ka : Kept x w (w3.alloc (.cells (jN ff fA fm fc) 31)) := (K0.trans k3).alloc _
 have Xa := lt3.kept ((Kept.refl x w3).alloc (.cells (jN ff fA fm fc) 31)) ne2
 have La : NLoc (w3.alloc (.cells (jN ff fA fm fc) 31)) w3.heap.size ff fA fm fc := ⟨heap_alloc_new _ _⟩
 have nxa : w3.heap.size ≠ x := by omega
 have nya : x ≠ w3.heap.size := by omega
 have nba : w.heap.size ≠ w3.heap.size := by omega
 have nca : w3.heap.size ≠ w.heap.size := by omega
 have HM : Mode w x lv l en nest w3.heap.size sumS (productF l en L into) O (w3.alloc (.cells (jN ff fA fm fc) 31)) 400 ff fA fm := by
   rcases hm with ⟨kd, k', ho, hm, hA, hP⟩ | ⟨b, k2, n2, ho, hb0, h1, h2, hP⟩
   · exact Or.inl ⟨kd, k', hm, hA.keep ((Kept.refl x w3).alloc _) (fun g hg hl => ⟨by omega, by omega, by omega⟩), hP.alloc _, (HG.out _ _ _ ho).2, HO.out.trans (sum_go ho)⟩
   · exact Or.inr ⟨b, k2, n2, hb0, h1, h2, hP.alloc _, HO.out.trans (sum_err ho)⟩
 have KK := hid Ka
 have XX := hid Xa
 have LL := hid La
 have MM := hid HM
 clear hm HU Ka Xa La HM hp3
 generalize hV : (w3.alloc (.cells (jN ff fA fm fc) 31)) = V at *
 go_wp2_with fail
 go_loopw [4] (fun a wr => ∃ (i : Nat) (f : Fld) (A : Option Addr) (m c : Nat), i ≤ 400 ∧ a = .int .i64 i ∧ Hid (Kept x w wr) ∧ Hid (NBox wr w.heap.size) ∧ Hid (NLoc wr w3.heap.size f A m c) ∧ Hid (Mode w x lv l en nest w3.heap.size sumS (productF l en L into) O wr (400 - i) f A m)) (fun a _ => 401 - (intOf a).toNat)
 case atStart => exact ⟨0, ff, fA, fm, fc, by omega, rfl, KK, XX, LL, MM⟩
 case round =>
   clear KK XX LL MM hV
   obtain ⟨i, f, A, m, c, hi, rfl, KK, XX, LL, MM⟩ := hrel
   have Xr := XX.out
   have Lr := LL.out
   have bx := Xr.lt
   have lx := Lr.lt
   by_cases hlt : i < 400
   · have d1 : decide ((i : Int) < 400) = true := decide_eq_true (by omega)
     have HT : TextsAt (wr.alloc (.cells #[.string { data := #[43] }, .string { data := #[45] }, .string { data := #[38] }] 9)) (.slice (some ⟨wr.heap.size, 0, none⟩) 3 3) sumS := ⟨wr.heap.size, 3, rfl, fun i h => by
         have hb := heap_alloc_new wr (.cells #[.string { data := #[43] }, .string { data := #[45] }, .string { data := #[38] }] 9)
         have h3 : i < 3 := h
         have h012 : i = 0 ∨ i = 1 ∨ i = 2 := by omega
         rw [cell_of_row _ _ _ _ _ (0, 0) hb]
         rcases h012 with rfl | rfl | rfl <;> rfl⟩
     have Kn := (KK.out).alloc (.cells #[.string { data := #[43] }, .string { data := #[45] }, .string { data := #[38] }] 9)
     have Xn := Xr.kept ((Kept.refl x wr).alloc (.cells #[.string { data := #[43] }, .string { data := #[45] }, .string { data := #[38] }] 9)) ne2
     have Ln := Lr.kept ((Kept.refl x wr).alloc (.cells #[.string { data := #[43] }, .string { data := #[45] }, .string { data := #[38] }] 9)) nxa
     rcases MM.out with ⟨kd, k', hm, hA, hP, hk2, hE⟩ | ⟨b, k2, n2, hb0, hn2, hn3, hP, hE⟩
     · have HM := hid hm
       have HE := hid hE
       have Hn := hP.alloc (.cells #[.string { data := #[43] }, .string { data := #[45] }, .string { data := #[38] }] 9)
       have HS := hid (rone sumS _ _ Hn hl (by decide) HT)
       have An := hA.keep (Q := fun g => w.heap.size < g ∧ g ≠ w3.heap.size) ((Kept.refl x wr).alloc (.cells #[.string { data := #[43] }, .string { data := #[45] }, .string { data := #[38] }] 9)) (fun g hg hl => ⟨by omega, hg⟩)
       clear hm hE hP hA MM HT
       obtain ⟨r0, hr0⟩ : ∃ r0, 400 - i = r0 + 1 := ⟨399 - i, by omega⟩
       rw [hr0] at HE
       generalize hV : (wr.alloc (.cells #[.string { data := #[43] }, .string { data := #[45] }, .string { data := #[38] }] 9)) = V at *
       cases ho : oneOf l k' sumS with
       | none =>
         rw [ho] at HS
         have E2 := hid (HE.out.trans (row_end ho))
         clear HE ho
         have e0 : (({ data := #[] } : ByteArray).toList == []) = true := by rw [Lib.toList_data]; rfl
         simp only [oneB, nob] at HS
         go_wp2_with fail
         refine HS.out.mono ?_; rintro e w4 ⟨rfl, n, rfl⟩
         have K4 := Kn.drew n
         have H4 := Hn.drew n
         have X4 := Xn.kept ((Kept.refl x V).drew n) ne2
         have L4 := Ln.kept ((Kept.refl x V).drew n) nxa
         have A4 := An.keep (Q := fun g => w.heap.size < g) ((Kept.refl x V).drew n) (fun g hg hl => ⟨by omega, hg.1⟩)
         obtain ⟨f0, f1, f2, f3, f4, f5, f6, f7, f8, f9, z0, z1, z2, z3, z4, z5, z6, z7, z8, z9⟩ := (X4).cells
         obtain ⟨a0, a1, a2, a3, a4, a5, a6, a7, a8, a9, az0, az1, az2, az3, az4, az5, az6, az7, az8, az9⟩ := (L4).cells
         go_wp2_with fail
         rw [E2.out]
         refine bodyPost_ret (v := .agg (jN f A m c)) (by simp [results, results54, go_sem, f0, f1, f2, f3, f4, f5, f6, f7, f8, f9]) rfl (PPost.ok (b := w.heap.size) K4 H4 ⟨A, c, by rw [HM.out]; rfl, A4⟩ (Nat.le_refl _) hxw ?_)
         repeat (with_reducible first | exact Kept.refl _ _ | refine Kept.setCell ?_ _ _)
       | some op =>
         rw [ho] at HS
         have hop : op = [43] ∨ op = [45] ∨ op = [38] := by have := List.mem_of_find?_eq_some ho; simpa [sumS] using this
         have e0 : ((str op).toList == []) = false := by rcases hop with rfl | rfl | rfl <;> (rw [Lib.toList_data]; rfl)
         simp only [oneB] at HS
         go_wp2_with fail
         refine HS.out.mono ?_; rintro e w4 ⟨rfl, n, rfl⟩
         have K4 := (Kn.drew n).setCell 1 (.int .i64 ((k' : Int) + 1))
         have H4 := (Hn.drew n).setK ((k' : Int) + 1)
         have X4 := Xn.kept (((Kept.refl x V).drew n).setCell 1 (.int .i64 ((k' : Int) + 1))) ne2
         have L4 := Ln.kept (((Kept.refl x V).drew n).setCell 1 (.int .i64 ((k' : Int) + 1))) nxa
         have A4 := An.keep (Q := fun g => w.heap.size < g ∧ g ≠ w3.heap.size) (((Kept.refl x V).drew n).setCell 1 (.int .i64 ((k' : Int) + 1))) (fun g hg hl => ⟨by omega, hg⟩)
         obtain ⟨c0, c1, c2, c3, c4, c5, y1, y3, y4, y5⟩ := (Hn.drew n).at_.cells
         generalize hU : ((V.drewN n).setCell ⟨x, 1, none⟩ (.int .i64 ((k' : Int) + 1))) = U at *
         rw [show ((k' : Int) + 1) = ((k' + 1 : Nat) : Int) from by omega] at H4
         have HC := hid (HP.out (k' + 1) U.drew (by omega) H4.drew1)
         have L5 := L4.drew
         obtain ⟨a0, a1, a2, a3, a4, a5, a6, a7, a8, a9, az0, az1, az2, az3, az4, az5, az6, az7, az8, az9⟩ := (L4).cells
         have X5 := X4.kept ((Kept.refl x U).drew 1) ne2
         have K5 := K4.drew 1
         go_wp2_with fail
         have hr1 : Hid (400 - (i + 1) = r0) := hid (by omega)
         clear a0 a1 a2 a3 a4 a5 a6 a7 a8 a9 az0 az1 az2 az3 az4 az5 az6 az7 az8 az9 c0 c1 c2 c3 c4 c5 y1 y3 y4 y5 hU hV d1 e0 hr0 hop Xr Lr bx lx KK XX LL
         obtain ⟨a0, a1, a2, a3, a4, a5, a6, a7, a8, a9, az0, az1, az2, az3, az4, az5, az6, az7, az8, az9⟩ := (L5).cells
         clear az0 az1 az2 az3 az4 az5 az6 az7 az8 az9
         go_region_with (first | (go_at_call 85; refine HC.out.mono ?_; intro e w5 hp5; obtain ⟨g, B, m2, d, rfl, k5, hm5⟩ := post_split hp5; have L6 := L5.kept k5 nxa; obtain ⟨d0, d1, d2, d3, d4, d5, d6, d7, d8, d9, dz0, dz1, dz2, dz3, dz4, dz5, dz6, dz7, dz8, dz9⟩ := (L6).cells; clear dz0 dz1 dz2 dz3 dz4 dz5 dz6 dz7 dz8 dz9; unfold nodeV) | (go_at_call 56; refine (rpair (str op) f g A B m m2 c d _).mono ?_; rintro e w6 ⟨pb, rfl, hpb, hpr, hb6⟩; have L7 := L6.kept (Kept.of (x := x) hb6) nxa; obtain ⟨e0, e1, e2, e3, e4, e5, e6, e7, e8, e9, ez0, ez1, ez2, ez3, ez4, ez5, ez6, ez7, ez8, ez9⟩ := (L7).cells; unfold nodeV))
         all_goals
           have K6 : Kept x w w6 := ((show Kept x w U.drew from K4.drew 1).trans k5).trans (Kept.of hb6)
           have X6 : NBox w6 w.heap.size := ((show NBox U.drew w.heap.size from X5).kept k5 ne2).kept (Kept.of (x := x) hb6) ne2
           have l5 := L5.lt
           have l6 := L6.lt
           have b5 : w.heap.size < U.drew.heap.size := X4.lt
           have A6 : KidsAt w6 (fun g => w.heap.size < g ∧ g ≠ w3.heap.size) kd A := ((A4.keep (Q := fun g => w.heap.size < g ∧ g ≠ w3.heap.size) ((Kept.refl x U).drew 1) (fun g hg hl => ⟨by omega, hg⟩)).keep (Q := fun g => w.heap.size < g ∧ g ≠ w3.heap.size) k5 (fun g hg hl => ⟨by omega, hg⟩)).keep (Kept.of (x := x) hb6) (fun g hg hl => ⟨by omega, hg⟩)
           have L7b := hid (L7.store (pairFld (str op)) (some ⟨pb, 0, none⟩) 2 2)
           have hp1 : w.heap.size < pb ∧ pb ≠ w3.heap.size := by omega
           clear e0 e1 e2 e3 e4 e5 e6 e7 e8 e9 ez0 ez1 ez2 ez3 ez4 ez5 ez6 ez7 ez8 ez9
           go_wp2_with fail
           go_roundw
           case rel =>
             refine ⟨i + 1, pairFld (str op), some ⟨pb, 0, none⟩, 2, 2, by omega, by go_num, hid (K6.then_ (b := w3.heap.size) ?_ (by omega)), hid (X6.kept (y := w3.heap.size) ?_ nba), hid L7b.out, hid ?_⟩
             · repeat (with_reducible first | exact Kept.refl _ _ | refine Kept.setCell ?_ _ _)
             · repeat (with_reducible first | exact Kept.refl _ _ | refine Kept.setCell ?_ _ _)
             · rcases hm5 with ⟨kb, k2, ho2, hmb, hB, hP⟩ | ⟨b, k2, n2, ho2, hb0, h1, h2, hP⟩
               · refine Or.inl ⟨(Nd.one ⟨f, kd⟩).app (Nd.one ⟨g, kb⟩), k2, rfl, (pair_kids hp1 hpr HM.out hmb A6 (hB.keep (Kept.of (x := x) hb6) (fun g hg hl => ⟨by omega, by omega, by omega⟩))).keep (y := w3.heap.size) ?_ (fun g hg hl => ⟨hg.2, hg⟩), (pre_below hP hb6).kept (y := w3.heap.size) ?_ (by omega), (HG.out _ _ _ ho2).2, ?_⟩
                 · repeat (with_reducible first | exact Kept.refl _ _ | refine Kept.setCell ?_ _ _)
                 · repeat (with_reducible first | exact Kept.refl _ _ | refine Kept.setCell ?_ _ _)
                 · rw [hr1.out]; exact HE.out.trans (row_go ho ho2)
               · refine Or.inr ⟨b, k2, n2, hb0, h1, h2, (pre_below hP hb6).kept (y := w3.heap.size) ?_ (by omega), HE.out.trans (row_bad ho ho2)⟩
                 repeat (with_reducible first | exact Kept.refl _ _ | refine Kept.setCell ?_ _ _)
           case measure => simp [intOf]; omega
     · have HE := hid hE
       have Hn := hP.alloc (.cells #[.string { data := #[43] }, .string { data := #[45] }, .string { data := #[38] }] 9)
       have HS := hid (rone_no sumS _ _ Hn hb0 (by decide) HT)
       clear hE hP MM HT
       generalize hV : (wr.alloc (.cells #[.string { data := #[43] }, .string { data := #[45] }, .string { data := #[38] }] 9)) = V at *
       have e0 : (({ data := #[] } : ByteArray).toList == []) = true := by rw [Lib.toList_data]; rfl
       simp only [nob] at HS
       go_wp2_with fail
       refine HS.out.mono ?_; rintro e w4 ⟨rfl, n, rfl⟩
       have K4 := Kn.drew n
       have H4 := Hn.drew n
       have X4 := Xn.kept ((Kept.refl x V).drew n) ne2
       have L4 := Ln.kept ((Kept.refl x V).drew n) nxa
       obtain ⟨f0, f1, f2, f3, f4, f5, f6, f7, f8, f9, z0, z1, z2, z3, z4, z5, z6, z7, z8, z9⟩ := (X4).cells
       obtain ⟨a0, a1, a2, a3, a4, a5, a6, a7, a8, a9, az0, az1, az2, az3, az4, az5, az6, az7, az8, az9⟩ := (L4).cells
       go_wp2_with fail
       rw [HE.out]
       refine bodyPost_ret (v := .agg (jN f A m c)) (by simp [results, results54, go_sem, f0, f1, f2, f3, f4, f5, f6, f7, f8, f9]) rfl (PPost.err (b := w.heap.size) K4 H4 (nodeV_any f _ _ _) hb0 hn2 hn3 (Nat.le_refl _) hxw ?_)
       repeat (with_reducible first | exact Kept.refl _ _ | refine Kept.setCell ?_ _ _)
   · have h400 : i = 400 := by omega
     subst h400
     have d1 : decide (((400 : Nat) : Int) < 400) = false := by decide
     have Kn := KK.out
     rcases MM.out with ⟨kd, k', hm, hA, hP, hk2, hE⟩ | ⟨b, k2, n2, hb0, hn2, hn3, hP, hE⟩
     · have HM := hid hm
       have HE := hid hE
       have A4 := hA.keep (Q := fun g => w.heap.size < g) (Kept.refl wr.heap.size wr) (fun g hg hl => ⟨by omega, hg.1⟩)
       clear hm hE hA MM
       obtain ⟨f0, f1, f2, f3, f4, f5, f6, f7, f8, f9, z0, z1, z2, z3, z4, z5, z6, z7, z8, z9⟩ := (Xr).cells
       obtain ⟨a0, a1, a2, a3, a4, a5, a6, a7, a8, a9, az0, az1, az2, az3, az4, az5, az6, az7, az8, az9⟩ := (Lr).cells
       go_wp2_with fail
       rw [HE.out]
       refine bodyPost_ret (v := .agg (jN f A m c)) (by simp [results, results54, go_sem, f0, f1, f2, f3, f4, f5, f6, f7, f8, f9]) rfl (PPost.ok (b := w.heap.size) Kn hP ⟨A, c, by rw [HM.out]; rfl, A4⟩ (Nat.le_refl _) hxw ?_)
       repeat (with_reducible first | exact Kept.refl _ _ | refine Kept.setCell ?_ _ _)
     · have HE := hid hE
       clear hE MM
       obtain ⟨f0, f1, f2, f3, f4, f5, f6, f7, f8, f9, z0, z1, z2, z3, z4, z5, z6, z7, z8, z9⟩ := (Xr).cells
       obtain ⟨a0, a1, a2, a3, a4, a5, a6, a7, a8, a9, az0, az1, az2, az3, az4, az5, az6, az7, az8, az9⟩ := (Lr).cells
       go_wp2_with fail
       rw [HE.out]
       refine bodyPost_ret (v := .agg (jN f A m c)) (by simp [results, results54, go_sem, f0, f1, f2, f3, f4, f5, f6, f7, f8, f9]) rfl (PPost.err (b := w.heap.size) Kn hP (nodeV_any f _ _ _) hb0 hn2 hn3 (Nat.le_refl _) hxw ?_)
       repeat (with_reducible first | exact Kept.refl _ _ | refine Kept.setCell ?_ _ _)
end Go.Proofs.YticehalcnbjccaaGreatDoor.TreeC
