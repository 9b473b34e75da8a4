/-
  Contracts of tree's code: unary, power.
-/
import Derived.Test.YticehalcnbjccaaGreatDoorRTreeP4
import Derived.Test.YticehalcnbjccaaGreatDoorRTreeP0
import Derived.Deep.RegionWith
import Derived.Laws.OwnMore
namespace Go.Proofs.YticehalcnbjccaaGreatDoor.TreeC
set_option maxRecDepth 100000
set_option maxHeartbeats 8000000
set_option linter.unusedVariables false
open Go.RowKit NumC LexC
open Cd
open Tryz
open Lib (hid)
theorem Pc.drew1 {w : World} {x k : Nat} {l : List Tok} {en nest : Int} (h : Pc w x l en k nest) : Pc w.drew x l en k nest := ⟨h.le, fun w2 hb => h.lib w2 ⟨hb.os, hb.tape, hb.output, hb.size, hb.block⟩, h.ex⟩
theorem NLoc.drew2 {w : World} {b n c : Nat} {f : Fld} {A : Option Addr} (h : NLoc w b f A n c) : NLoc w.drew b f A n c := ⟨h.at_⟩
theorem Kept.drew2 {x : Nat} {a w : World} (h : Kept x a w) : Kept x a w.drew := ⟨h.os, h.tape, h.output, h.size, h.block⟩
theorem neg_fin {P : Nat → Prop} {x b k' n c pb : Nat} {l : List Tok} {en nest : Int} {f : Fld} {A : Option Addr} {ka : Fo} {o : Out} {w V W : World} (ho : o = .ok (negN ⟨f, ka⟩, k')) (hK : Kept x w V) (hP : Pc V x l en k' nest)
   (hn : ka.len = n) (hA : KidsAt V (fun g => P g ∧ g ≠ b) ka A) (hpb : P pb ∧ pb ≠ b) (hb : w.heap.size ≤ b) (hx : x < w.heap.size) (hk : Kept b V W)
   (hr : W.heap[pb]? = some (.cells (nodeV f A n c).cells 31 (0, 0))) :
   CPostP P x l en nest o w (.returned (.tuple #[nodeV (negN ⟨f, ka⟩).f (some ⟨pb, 0, none⟩) 1 1, .nilIface])) W := by
 have hA' := hA.keep (Q := fun g => P g ∧ g ≠ b) hk (fun g hg _ => ⟨hg.2, hg⟩)
 refine CPost.ok (b := b) (V := W) (kd := Nd.one ⟨f, ka⟩) ho (hK.then_ hk hb) (hP.kept hk (by omega)) rfl (Or.inr ⟨pb, 0, rfl, rowAt_block hpb (vs := [nodeV f A n c]) ⟨⟨A, c, by rw [hn], hA'⟩, trivial⟩ hr ?_⟩) hb hx (Kept.refl _ _)
 rfl
theorem cunary {x k : Nat} {l : List Tok} {en nest : Int} {L : Lev} {into : Bool} (E : Env x l en nest L into) (w : World) (h : Pc w x l en k nest) :
   Calls prog 192 #[.pointer (some ⟨x, 0, none⟩)] w (CPost w.heap.size x l en nest (unaryF l en L into k) w) := by
 have hxw := h.lt
 have HI := hid h
 clear h
 have HE := hid E
 have hl := E.hl
 clear E
 have ne1 : x ≠ w.heap.size := by omega
 have ne2 : w.heap.size ≠ x := by omega
 have K1 : Kept x w (w.alloc (.cells jZ 31)) := (Kept.refl x w).alloc _
 have X1 := NBox.new w
 have P1 := hid (HI.out.alloc (.cells jZ 31))
 clear HI
 have B45 : Hid (({ data := #[45] } : ByteArray) = str [45]) := hid rfl
 have egu : ∀ args w, (callFunc 192 args).run prog w = .ok (.enter 192 args) w := enters_of func192 (by kernel_rfl) rfl
 have HEGu := hid egu
 clear egu
 go_enter func192, ntmps192
 go_wp2_with fail
 generalize (w.alloc (.cells jZ 31)) = W1 at *
 rw [B45.out]
 refine (cseesSign [45] W1 P1.out hl).mono ?_; rintro e w2 ⟨rfl, hb2⟩
 have k2 : Kept x W1 w2 := Kept.of hb2
 have K2 := K1.trans k2
 have X2 := X1.kept k2 ne2
 have P2 := hid (P1.out.below hb2)
 clear K1 X1 P1 hb2 k2
 cases hs : isSign l k [45] with
 | false =>
   have EO : Hid (unaryF l en L into k = partF l en L into k) := hid (unary_no hs)
   go_wp2_with fail
   refine (cpart HE.out w2 P2.out).mono ?_
   rintro e w6 ⟨f, A, m, c, er, rfl, k6, hp6⟩
   have X6 := X2.kept k6 ne2
   have K6 := K2.trans k6
   rw [← EO.out] at hp6
   have HP := hid hp6
   have lt6 := X2.lt
   have lt7 := X6.lt
   clear hp6
   unfold nodeV
   obtain ⟨f0, f1, f2, f3, f4, f5, f6, f7, f8, f9, z0, z1, z2, z3, z4, z5, z6, z7, z8, z9⟩ := (X6).cells
   go_wp2_with fail
   refine bodyPost_ret (v := .tuple #[.agg (jN f A m c), er]) (by simp [results, results192, go_sem, f0, f1, f2, f3, f4, f5, f6, f7, f8, f9]) rfl (CPost.on (f := f) (A := A) (m := m) (c := c) (b := w.heap.size) HP.out K6 (by omega) lt6 (Nat.le_refl _) hxw ?_)
   repeat (with_reducible first | exact Kept.refl _ _ | refine Kept.setCell ?_ _ _ | refine Kept.alloc ?_ _)
 | true =>
   have hlt := sign_lt hs
   go_wp2_with fail
   refine (ctake w2 P2.out hlt).mono ?_; rintro e w4 ⟨rfl, P4, k4⟩
   have X4 := X2.kept k4 ne2
   have K4 := K2.trans k4
   clear X2 K2 P2 k4
   go_wp2_with fail
   refine (cnested 192 #[.pointer (some ⟨x, 0, none⟩)] w4 P4.lt).mono ?_; rintro e w5 ⟨b1, b2, rfl, hb5, hc1, hc2, hx1, hx2, hs1, hs2⟩
   have k5 : Kept x w4 w5 := Kept.of hb5
   have X5 := X4.kept k5 ne2
   have K5 := K4.trans k5
   have P5 := P4.below hb5
   clear X4 K4 P4 hb5 k5
   go_wp2_with fail
   refine (cnested1 (F := L.un) HEGu.out w5 P5 HE.out.hn0 HE.out.hn1 hc1 hc2 (by omega) (by omega) (fun hin w2 hk2 hp2 => (HE.out.hc hin).un _ w2 hp2)).mono ?_
   clear hc1 hc2 hx1 hx2 hs1 hs2
   rintro e w6 ⟨f, A, m, c, er, rfl, k6, hp6⟩
   have X6 := X5.kept k6 ne2
   have K6 := K5.trans k6
   have lt5 := X5.lt
   have lt3 := X6.lt
   have hx6 : x < w6.heap.size := by omega
   have na1 : x ≠ w6.heap.size := by omega
   have na2 : w6.heap.size ≠ x := by omega
   have na4 : w.heap.size ≠ w6.heap.size := by omega
   have na5 : w6.heap.size ≠ w.heap.size := by omega
   clear X5 K5 P5 k6
   unfold nodeV
   obtain ⟨f0, f1, f2, f3, f4, f5, f6, f7, f8, f9, z0, z1, z2, z3, z4, z5, z6, z7, z8, z9⟩ := (X6).cells
   rcases hp6 with ⟨kd, k', ho, rfl, hn, hA, hP⟩ | ⟨bad, k', ho, hi, rfl, hP⟩
   · have hin : nest < 40 := by
       by_cases h : nest < 40
       · exact h
       · rw [if_neg h] at ho; cases ho
     rw [if_pos hin] at ho
     have EO := hid (unary_ok (l := l) (n := en) (L := L) (into := into) hs (by rw [HE.out.hi]; exact decide_eq_true hin) ho)
     clear ho
     go_wp2_with fail
     refine bodyPost_ret (v := .tuple #[.agg #[.int .i64 4, .int .i64 0, .int .i64 0, .string { data := #[] }, .int .i64 0, .int .i64 0, .int .i64 0, .int .i64 0, .string { data := #[] }, .slice (some ⟨w6.heap.size + 1, 0, none⟩) 1 1], .nilIface]) (by simp [results, results192, go_sem, f0, f1, f2, f3, f4, f5, f6, f7, f8, f9, lt3]) rfl (neg_fin (c := c) (b := w.heap.size) EO.out K6 hP hn (hA.keep (Q := fun g => w.heap.size ≤ g ∧ g ≠ w.heap.size) (Kept.refl w6.heap.size w6) (fun g hg hl => ⟨by omega, by omega, by omega⟩)) ⟨by omega, by omega⟩ (Nat.le_refl _) hxw ?_ (by rw [row_at2 _ _ _ (show _ = w6.heap.size by simp)]; rfl))
     repeat (with_reducible first | exact Kept.refl _ _ | refine Kept.setCell ?_ _ _ | refine Kept.alloc ?_ _)
   · obtain ⟨T, u, hT⟩ := errV_some bad
     have EO : Hid (unaryF l en L into k = .error bad) := by
       by_cases hin : nest < 40
       · rw [if_pos hin] at ho
         exact hid (unary_err hs (by rw [HE.out.hi]; exact decide_eq_true hin) ho)
       · rw [if_neg hin] at ho
         injection ho with ho
         subst ho
         exact hid (unary_deep hs (by rw [HE.out.hi]; exact decide_eq_false hin))
     clear ho
     rw [hT]
     go_wp2_with fail
     refine bodyPost_ret (v := .tuple #[.agg jZ, .iface T u]) (by simp [results, results192, go_sem, f0, f1, f2, f3, f4, f5, f6, f7, f8, f9, lt3]) rfl (hT ▸ CPost.err (f := fld0) (A := none) (m := 0) (c := 0) (b := w.heap.size) (V := w6) EO.out hi K6 hP (Nat.le_refl _) hxw ?_)
     repeat (with_reducible first | exact Kept.refl _ _ | refine Kept.setCell ?_ _ _ | refine Kept.alloc ?_ _)
theorem cpower {x k : Nat} {l : List Tok} {en nest : Int} {L : Lev} {into : Bool} (E : Env x l en nest L into) (w : World) (h : Pc w x l en k nest) :
   Calls prog 176 #[.pointer (some ⟨x, 0, none⟩)] w (CPost w.heap.size x l en nest (powerF l en L into k) w) := by
 have hxw := h.lt
 have HI := hid h
 clear h
 have HE := hid E
 have hl := E.hl
 clear E
 have ne1 : x ≠ w.heap.size := by omega
 have ne2 : w.heap.size ≠ x := by omega
 have K1 : Kept x w (w.alloc (.cells jZ 31)) := (Kept.refl x w).alloc _
 have X1 := NBox.new w
 have P1 := hid (HI.out.alloc (.cells jZ 31))
 clear HI
 have egn : ∀ args w, (callFunc 206 args).run prog w = .ok (.enter 206 args) w := enters_of func206 (by kernel_rfl) rfl
 have HEGn := hid egn
 clear egn
 have egp : ∀ args w, (callFunc 176 args).run prog w = .ok (.enter 176 args) w := enters_of func176 (by kernel_rfl) rfl
 have HEGp := hid egp
 clear egp
 go_enter func176, ntmps176
 go_wp2_with fail
 generalize (w.alloc (.cells jZ 31)) = W1 at *
 refine (cunary HE.out W1 P1.out).mono ?_
 have lt1 := X1.lt
 rintro e w3 ⟨f, A, m, c, er, rfl, k3, hp3⟩
 have X3 := X1.kept k3 ne2
 have K3 := K1.trans k3
 have lt3 := X3.lt
 have hx3 : x < w3.heap.size := by have := k3.size; omega
 have na1 : x ≠ w3.heap.size := by omega
 have na2 : w3.heap.size ≠ x := by omega
 have na4 : w.heap.size ≠ w3.heap.size := by omega
 have na5 : w3.heap.size ≠ w.heap.size := by omega
 clear K1 X1 P1 k3
 unfold nodeV
 rcases hp3 with ⟨kd, k', ho, rfl, hn, hA, hP⟩ | ⟨bad, k2, ho, hi, rfl, hP⟩
 · have HO := hid ho
   clear ho
   have L4 : NLoc (w3.alloc (.cells (jN f A m c) 31)) w3.heap.size f A m c := ⟨heap_alloc_new _ _⟩
   have X4 := X3.kept ((Kept.refl x w3).alloc (.cells (jN f A m c) 31)) ne2
   have K4 := K3.alloc (.cells (jN f A m c) 31)
   have P4 := hid (hP.alloc (.cells (jN f A m c) 31))
   have A4 := hA.keep (Q := fun g => w.heap.size < g ∧ g ≠ w3.heap.size) ((Kept.refl x w3).alloc (.cells (jN f A m c) 31)) (fun g hg hl => ⟨by omega, by omega, by omega⟩)
   clear hP hA X3 K3
   go_wp2_with fail
   generalize (w3.alloc (.cells (jN f A m c) 31)) = V at *
   refine (csees_isPower V P4.out hl).mono ?_; rintro e w5 ⟨rfl, hb5⟩
   rw [one_pow]
   have k5 : Kept x V w5 := Kept.of hb5
   have X5 := X4.kept k5 ne2
   have K5 := K4.trans k5
   have P5 := hid (P4.out.below hb5)
   have L5 := L4.kept k5 na2
   have A5 := A4.keep (Q := fun g => w.heap.size < g ∧ g ≠ w3.heap.size) k5 (fun g hg hl => ⟨by omega, hg⟩)
   have s5 := L5.lt
   have t5 := X5.lt
   clear X4 K4 P4 L4 A4 hb5 k5
   cases hs : isSign l k' [94] with
   | false =>
     have EO := hid (power_one HO.out hs)
     obtain ⟨d0, d1, d2, d3, d4, d5, d6, d7, d8, d9, dz0, dz1, dz2, dz3, dz4, dz5, dz6, dz7, dz8, dz9⟩ := (L5).cells
     obtain ⟨f0, f1, f2, f3, f4, f5, f6, f7, f8, f9, z0, z1, z2, z3, z4, z5, z6, z7, z8, z9⟩ := (X5).cells
     go_wp2_with fail
     refine bodyPost_ret (v := .tuple #[.agg (jN f A m c), .nilIface]) (by simp [results, results176, go_sem, f0, f1, f2, f3, f4, f5, f6, f7, f8, f9]) rfl (CPost.ok (f := f) (A := A) (m := m) (c := c) (b := w.heap.size) (V := w5) EO.out K5 P5.out hn (A5.keep (Q := fun g => w.heap.size ≤ g ∧ g ≠ w.heap.size) (Kept.refl w5.heap.size w5) (fun g hg hl => ⟨by omega, by omega, by omega⟩)) (Nat.le_refl _) hxw ?_)
     repeat (with_reducible first | exact Kept.refl _ _ | refine Kept.setCell ?_ _ _ | refine Kept.alloc ?_ _)
   | true =>
     obtain ⟨t, ht, hop⟩ : ∃ t, l[k']? = some t ∧ t.s = str [94] := by
       unfold isSign at hs
       split at hs
       · rename_i t ht; simp only [Bool.and_eq_true, decide_eq_true_eq] at hs; exact ⟨t, ht, hs.2⟩
       · cases hs
     have HT := hid ht
     have HS := hid hs
     have P6 := hid P5.out.drew1
     have L6 := L5.drew2
     have X6 := X5.kept ((Kept.refl x w5).drew 1) ne2
     have K6 := hid K5.drew2
     have A6 := A5.keep (Q := fun g => w.heap.size < g ∧ g ≠ w3.heap.size) ((Kept.refl x w5).drew2) (fun g hg hl => ⟨by omega, hg⟩)
     have s6 : w3.heap.size < w5.drew.heap.size := s5
     have hx6 : x < w5.drew.heap.size := P6.out.lt
     have HA6 := hid A6
     have HX6 : Hid (NBox w5.drew w.heap.size) := hid X6
     have HN := hid hn
     clear ht hs P5 K5 A5 A6 X5 X6 hn
     go_wp2_with fail
     obtain ⟨a0, a1, a2, a3, a4, a5, a6, a7, a8, a9, az0, az1, az2, az3, az4, az5, az6, az7, az8, az9⟩ := (L6).cells
     clear az0 az1 az2 az3 az4 az5 az6 az7 az8 az9
     clear L5
     go_region_with (first | (go_at_call 193; refine (cnested 176 #[.pointer (some ⟨x, 0, none⟩)] w5.drew hx6).mono ?_; rintro e w7 ⟨b1, b2, rfl, hb7, hc1, hc2, hx1, hx2, hs1, hs2⟩; have L7 := L6.kept (Kept.of (x := x) hb7) na2; obtain ⟨e0, e1, e2, e3, e4, e5, e6, e7, e8, e9, ez0, ez1, ez2, ez3, ez4, ez5, ez6, ez7, ez8, ez9⟩ := (L7).cells; clear ez0 ez1 ez2 ez3 ez4 ez5 ez6 ez7 ez8 ez9) | (go_at_call 129; refine (cbinary (P := fun g => w.heap.size < g ∧ g ≠ w3.heap.size) (F := fun k => if nest < 40 then L.pw k else .error deepE) (op := [94]) (f := f) (A := A) (m := m) (c := c) (kd := kd) (pre := #[]) (post := #[.pointer (some ⟨b1, 0, none⟩), .pointer (some ⟨b2, 0, none⟩)]) HEGn.out w7 (P6.out.below hb7) hl HT.out hop (HA6.out.keep (Kept.of (x := x) hb7) (fun g hg hl => ⟨by omega, hg⟩)) HN.out (fun g hg => by omega) (fun w' hk hp => cnested1 (F := L.pw) HEGp.out w' hp HE.out.hn0 HE.out.hn1 (hk.cell (by omega) hc1) (hk.cell (by omega) hc2) (by omega) (by omega) (fun hin w2 hk2 hp2 => (HE.out.hc hin).pw _ w2 hp2))).mono ?_; rintro e w8 ⟨fw, A8, m8, c8, er8, rfl, k8, hp8⟩; have X8 := (HX6.out.kept (Kept.of (x := x) hb7) ne2).kept k8 ne2; obtain ⟨f0, f1, f2, f3, f4, f5, f6, f7, f8, f9, z0, z1, z2, z3, z4, z5, z6, z7, z8, z9⟩ := (X8).cells; unfold nodeV))
     all_goals
       have K8 : Kept x w w8 := (K6.out.trans (Kept.of hb7)).trans k8
       have l7 : w3.heap.size < w7.heap.size := L7.lt
       have EO : Hid (powerF l en L into k = binF [94] ⟨f, kd⟩ (if nest < 40 then L.pw (k' + 1) else .error deepE)) := by
         by_cases hin : nest < 40
         · rw [if_pos hin]
           cases hq : L.pw (k' + 1) with
           | error e => exact hid (power_bad HO.out HS.out (by rw [HE.out.hi]; exact decide_eq_true hin) hq)
           | ok q => exact hid (power_ok HO.out HS.out (by rw [HE.out.hi]; exact decide_eq_true hin) hq)
         · rw [if_neg hin]
           exact hid (power_deep HO.out HS.out (by rw [HE.out.hi]; exact decide_eq_false hin))
       go_wp2_with fail
       refine bodyPost_ret (v := .tuple #[.agg (jN fw A8 m8 c8), er8]) (by simp [results, results176, go_sem, f0, f1, f2, f3, f4, f5, f6, f7, f8, f9]) rfl ?_
       rcases hp8 with ⟨kd2, k2, hq, rfl, hn2, hA2, hP2⟩ | ⟨bad, k2, hq, hi, rfl, hP2⟩
       · refine CPost.ok (f := fw) (kd := kd2) (A := A8) (m := m8) (c := c8) (b := w.heap.size) (V := w8) (EO.out.trans hq) K8 hP2 hn2 (hA2.keep (Q := fun g => w.heap.size ≤ g ∧ g ≠ w.heap.size) (Kept.refl w8.heap.size w8) (fun g hg hl => ⟨by omega, by omega, by omega⟩)) (Nat.le_refl _) hxw ?_
         repeat (with_reducible first | exact Kept.refl _ _ | refine Kept.setCell ?_ _ _ | refine Kept.alloc ?_ _)
       · refine CPost.err (f := fw) (A := A8) (m := m8) (c := c8) (b := w.heap.size) (V := w8) (EO.out.trans hq) hi K8 hP2 (Nat.le_refl _) hxw ?_
         repeat (with_reducible first | exact Kept.refl _ _ | refine Kept.setCell ?_ _ _ | refine Kept.alloc ?_ _)
 · obtain ⟨T, u, hT⟩ := errV_some bad
   have EO := hid (power_err ho)
   have P3 := hid hP
   clear ho hP
   rw [hT]
   obtain ⟨f0, f1, f2, f3, f4, f5, f6, f7, f8, f9, z0, z1, z2, z3, z4, z5, z6, z7, z8, z9⟩ := (X3).cells
   go_wp2_with fail
   refine bodyPost_ret (v := .tuple #[.agg (jN f A m c), .iface T u]) (by simp [results, results176, go_sem, f0, f1, f2, f3, f4, f5, f6, f7, f8, f9, lt3]) rfl (hT ▸ CPost.err (f := f) (A := A) (m := m) (c := c) (b := w.heap.size) (V := w3) EO.out hi K3 P3.out (Nat.le_refl _) hxw ?_)
   repeat (with_reducible first | exact Kept.refl _ _ | refine Kept.setCell ?_ _ _ | refine Kept.alloc ?_ _)
theorem product_rows (l : List Tok) (n : Int) (L : Lev) (into : Bool) (k : Nat) : productF l n L into k = rowsF l mulS (powerF l n L into) k := rfl
theorem sum_rows (l : List Tok) (n : Int) (L : Lev) (into : Bool) (k : Nat) : sumF l n L into k = rowsF l sumS (productF l n L into) k := rfl
theorem cproduct {x k : Nat} {l : List Tok} {en nest : Int} {L : Lev} {into : Bool} (E : Env x l en nest L into) (w : World) (h : Pc w x l en k nest) :
   Calls prog 151 #[.pointer (some ⟨x, 0, none⟩)] w (CPost w.heap.size x l en nest (productF l en L into k) w) := by
 have hxw := h.lt
 have HI := hid h
 clear h
 have HE := hid E
 have hl := E.hl
 clear E
 have ne1 : x ≠ w.heap.size := by omega
 have ne2 : w.heap.size ≠ x := by omega
 have K1 : Kept x w (w.alloc (.cells jZ 31)) := (Kept.refl x w).alloc _
 have X1 := NBox.new w
 have P1 := hid (HI.out.alloc (.cells jZ 31))
 clear HI
 have egp : ∀ args w, (callFunc 176 args).run prog w = .ok (.enter 176 args) w := enters_of func176 (by kernel_rfl) rfl
 have HEGp := hid egp
 clear egp
 go_enter func151, ntmps151
 go_wp2_with fail
 generalize (w.alloc (.cells jZ 31)) = W1 at *
 refine (crow_isMultiplying (F := powerF l en L into) HEGp.out W1 P1.out hl (power_goes HE.out.hL) (fun k w' hk hp => cpower HE.out w' hp)).mono ?_
 rintro e w6 ⟨f, A, m, c, er, rfl, k6, hp6⟩
 have X6 := X1.kept k6 ne2
 have K6 := K1.trans k6
 rw [← product_rows] at hp6
 have HP := hid hp6
 have lt6 := X1.lt
 have lt7 := X6.lt
 clear hp6
 unfold nodeV
 obtain ⟨f0, f1, f2, f3, f4, f5, f6, f7, f8, f9, z0, z1, z2, z3, z4, z5, z6, z7, z8, z9⟩ := (X6).cells
 go_wp2_with fail
 refine bodyPost_ret (v := .tuple #[.agg (jN f A m c), er]) (by simp [results, results151, go_sem, f0, f1, f2, f3, f4, f5, f6, f7, f8, f9]) rfl (CPost.on (f := f) (A := A) (m := m) (c := c) (b := w.heap.size) HP.out K6 (by omega) lt6 (Nat.le_refl _) hxw ?_)
 repeat (with_reducible first | exact Kept.refl _ _ | refine Kept.setCell ?_ _ _ | refine Kept.alloc ?_ _)
theorem csum {x k : Nat} {l : List Tok} {en nest : Int} {L : Lev} {into : Bool} (E : Env x l en nest L into) (w : World) (h : Pc w x l en k nest) :
   Calls prog 126 #[.pointer (some ⟨x, 0, none⟩)] w (CPost w.heap.size x l en nest (sumF l en L into k) w) := by
 have hxw := h.lt
 have HI := hid h
 clear h
 have HE := hid E
 have hl := E.hl
 clear E
 have ne1 : x ≠ w.heap.size := by omega
 have ne2 : w.heap.size ≠ x := by omega
 have K1 : Kept x w (w.alloc (.cells jZ 31)) := (Kept.refl x w).alloc _
 have X1 := NBox.new w
 have P1 := hid (HI.out.alloc (.cells jZ 31))
 clear HI
 have egp : ∀ args w, (callFunc 151 args).run prog w = .ok (.enter 151 args) w := enters_of func151 (by kernel_rfl) rfl
 have HEGp := hid egp
 clear egp
 go_enter func126, ntmps126
 go_wp2_with fail
 generalize (w.alloc (.cells jZ 31)) = W1 at *
 refine (crow_isAdding (F := productF l en L into) HEGp.out W1 P1.out hl (product_goes HE.out.hL) (fun k w' hk hp => cproduct HE.out w' hp)).mono ?_
 rintro e w6 ⟨f, A, m, c, er, rfl, k6, hp6⟩
 have X6 := X1.kept k6 ne2
 have K6 := K1.trans k6
 rw [← sum_rows] at hp6
 have HP := hid hp6
 have lt6 := X1.lt
 have lt7 := X6.lt
 clear hp6
 unfold nodeV
 obtain ⟨f0, f1, f2, f3, f4, f5, f6, f7, f8, f9, z0, z1, z2, z3, z4, z5, z6, z7, z8, z9⟩ := (X6).cells
 go_wp2_with fail
 refine bodyPost_ret (v := .tuple #[.agg (jN f A m c), er]) (by simp [results, results126, go_sem, f0, f1, f2, f3, f4, f5, f6, f7, f8, f9]) rfl (CPost.on (f := f) (A := A) (m := m) (c := c) (b := w.heap.size) HP.out K6 (by omega) lt6 (Nat.le_refl _) hxw ?_)
 repeat (with_reducible first | exact Kept.refl _ _ | refine Kept.setCell ?_ _ _ | refine Kept.alloc ?_ _)
theorem cformula {x k : Nat} {l : List Tok} {en nest : Int} {L : Lev} {into : Bool} (E : Env x l en nest L into) (w : World) (h : Pc w x l en k nest) :
   Calls prog 98 #[.pointer (some ⟨x, 0, none⟩)] w (CPost w.heap.size x l en nest (formulaF l en L into k) w) := by
 have hxw := h.lt
 have HI := hid h
 clear h
 have HE := hid E
 have hl := E.hl
 clear E
 have ne1 : x ≠ w.heap.size := by omega
 have ne2 : w.heap.size ≠ x := by omega
 have K1 : Kept x w (w.alloc (.cells jZ 31)) := (Kept.refl x w).alloc _
 have X1 := NBox.new w
 have P1 := hid (HI.out.alloc (.cells jZ 31))
 clear HI
 have egp : ∀ args w, (callFunc 126 args).run prog w = .ok (.enter 126 args) w := enters_of func126 (by kernel_rfl) rfl
 have HEGp := hid egp
 clear egp
 go_enter func98, ntmps98
 go_wp2_with fail
 generalize (w.alloc (.cells jZ 31)) = W1 at *
 refine (csum HE.out W1 P1.out).mono ?_
 have lt1 := X1.lt
 rintro e w3 ⟨f, A, m, c, er, rfl, k3, hp3⟩
 have X3 := X1.kept k3 ne2
 have K3 := K1.trans k3
 have lt3 := X3.lt
 have hx3 : x < w3.heap.size := by have := k3.size; omega
 have na1 : x ≠ w3.heap.size := by omega
 have na2 : w3.heap.size ≠ x := by omega
 have na4 : w.heap.size ≠ w3.heap.size := by omega
 have na5 : w3.heap.size ≠ w.heap.size := by omega
 clear K1 X1 P1 k3
 unfold nodeV
 rcases hp3 with ⟨kd, k', ho, rfl, hn, hA, hP⟩ | ⟨bad, k2, ho, hi, rfl, hP⟩
 · have HO := hid ho
   clear ho
   have L4 : NLoc (w3.alloc (.cells (jN f A m c) 31)) w3.heap.size f A m c := ⟨heap_alloc_new _ _⟩
   have X4 := X3.kept ((Kept.refl x w3).alloc (.cells (jN f A m c) 31)) ne2
   have K4 := K3.alloc (.cells (jN f A m c) 31)
   have P4 := hid (hP.alloc (.cells (jN f A m c) 31))
   have A4 := hA.keep (Q := fun g => w.heap.size < g ∧ g ≠ w3.heap.size) ((Kept.refl x w3).alloc (.cells (jN f A m c) 31)) (fun g hg hl => ⟨by omega, by omega, by omega⟩)
   clear hP hA X3 K3
   go_wp2_with fail
   generalize (w3.alloc (.cells (jN f A m c) 31)) = V at *
   refine (csees_isComparing V P4.out hl).mono ?_; rintro e w5 ⟨rfl, hb5⟩
   have k5 : Kept x V w5 := Kept.of hb5
   have X5 := X4.kept k5 ne2
   have K5 := K4.trans k5
   have P5 := hid (P4.out.below hb5)
   have L5 := L4.kept k5 na2
   have A5 := A4.keep (Q := fun g => w.heap.size < g ∧ g ≠ w3.heap.size) k5 (fun g hg hl => ⟨by omega, hg⟩)
   have s5 := L5.lt
   have t5 := X5.lt
   clear X4 K4 P4 L4 A4 hb5 k5
   obtain ⟨d0, d1, d2, d3, d4, d5, d6, d7, d8, d9, dz0, dz1, dz2, dz3, dz4, dz5, dz6, dz7, dz8, dz9⟩ := (L5).cells
   cases hs : oneOf l k' cmpS with
   | none =>
     have EO := hid (formula_one HO.out hs)
     obtain ⟨f0, f1, f2, f3, f4, f5, f6, f7, f8, f9, z0, z1, z2, z3, z4, z5, z6, z7, z8, z9⟩ := (X5).cells
     go_wp2_with fail
     refine bodyPost_ret (v := .tuple #[.agg (jN f A m c), .nilIface]) (by simp [results, results98, go_sem, f0, f1, f2, f3, f4, f5, f6, f7, f8, f9]) rfl (CPost.ok (f := f) (A := A) (m := m) (c := c) (b := w.heap.size) (V := w5) EO.out K5 P5.out hn (A5.keep (Q := fun g => w.heap.size ≤ g ∧ g ≠ w.heap.size) (Kept.refl w5.heap.size w5) (fun g hg hl => ⟨by omega, by omega, by omega⟩)) (Nat.le_refl _) hxw ?_)
     repeat (with_reducible first | exact Kept.refl _ _ | refine Kept.setCell ?_ _ _ | refine Kept.alloc ?_ _)
   | some op =>
     obtain ⟨t, ht, hop⟩ := one_tok hs
     have EO : Hid (formulaF l en L into k = binF op ⟨f, kd⟩ (sumF l en L into (k' + 1))) := by
       cases hq : sumF l en L into (k' + 1) with
       | error e => exact hid (formula_bad HO.out hs hq)
       | ok q => exact hid (formula_ok HO.out hs hq)
     go_wp2_with fail
     have HB := cbinary (P := fun g => w.heap.size < g ∧ g ≠ w3.heap.size) (F := sumF l en L into) (f := f) (A := A) (m := m) (c := c) (kd := kd) (pre := #[.pointer (some ⟨x, 0, none⟩)]) (post := #[]) HEGp.out w5 P5.out hl ht hop A5 hn (fun g hg => by omega) (fun w' hk hp => csum HE.out w' hp)
     unfold nodeV at HB
     refine HB.mono ?_
     rintro e w8 ⟨fw, A8, m8, c8, er8, rfl, k8, hp8⟩
     have K8 := K5.trans k8
     have X8 := X5.kept k8 ne2
     clear HB
     obtain ⟨f0, f1, f2, f3, f4, f5, f6, f7, f8, f9, z0, z1, z2, z3, z4, z5, z6, z7, z8, z9⟩ := (X8).cells
     unfold nodeV
     go_wp2_with fail
     refine bodyPost_ret (v := .tuple #[.agg (jN fw A8 m8 c8), er8]) (by simp [results, results98, go_sem, f0, f1, f2, f3, f4, f5, f6, f7, f8, f9]) rfl ?_
     rcases hp8 with ⟨kd2, k2, hq, rfl, hn2, hA2, hP2⟩ | ⟨bad, k2, hq, hi, rfl, hP2⟩
     · refine CPost.ok (f := fw) (kd := kd2) (A := A8) (m := m8) (c := c8) (b := w.heap.size) (V := w8) (EO.out.trans hq) K8 hP2 hn2 (hA2.keep (Q := fun g => w.heap.size ≤ g ∧ g ≠ w.heap.size) (Kept.refl w8.heap.size w8) (fun g hg hl => ⟨by omega, by omega, by omega⟩)) (Nat.le_refl _) hxw ?_
       repeat (with_reducible first | exact Kept.refl _ _ | refine Kept.setCell ?_ _ _ | refine Kept.alloc ?_ _)
     · refine CPost.err (f := fw) (A := A8) (m := m8) (c := c8) (b := w.heap.size) (V := w8) (EO.out.trans hq) hi K8 hP2 (Nat.le_refl _) hxw ?_
       repeat (with_reducible first | exact Kept.refl _ _ | refine Kept.setCell ?_ _ _ | refine Kept.alloc ?_ _)
 · obtain ⟨T, u, hT⟩ := errV_some bad
   have EO := hid (formula_err ho)
   have P3 := hid hP
   clear ho hP
   rw [hT]
   obtain ⟨f0, f1, f2, f3, f4, f5, f6, f7, f8, f9, z0, z1, z2, z3, z4, z5, z6, z7, z8, z9⟩ := (X3).cells
   go_wp2_with fail
   refine bodyPost_ret (v := .tuple #[.agg (jN f A m c), .iface T u]) (by simp [results, results98, go_sem, f0, f1, f2, f3, f4, f5, f6, f7, f8, f9, lt3]) rfl (hT ▸ CPost.err (f := f) (A := A) (m := m) (c := c) (b := w.heap.size) (V := w3) EO.out hi K3 P3.out (Nat.le_refl _) hxw ?_)
   repeat (with_reducible first | exact Kept.refl _ _ | refine Kept.setCell ?_ _ _ | refine Kept.alloc ?_ _)
theorem ccon {x : Nat} {l : List Tok} {en : Int} (hl : l.length ≤ 300) (hts : ∀ (i : Nat) (t : Tok), l[i]? = some t → t.s.size ≤ 1000000) : ∀ (r : Nat), r ≤ 40 → CCon x l en (40 - (r : Int)) (lev l en (r + 1)) := by
 intro r
 induction r with
 | zero =>
   intro _
   have E : Env x l en (40 - ((0 : Nat) : Int)) (lev l en 0) (decide (1 ≤ 0)) := ⟨hl, by omega, by omega, by simp, fun h => absurd h (by omega), hts, lev_goes l en 0⟩
   exact ⟨fun k w h => cformula E w h, fun k w h => cpower E w h, fun k w h => cunary E w h⟩
 | succ r ih =>
   intro hr
   have E : Env x l en (40 - ((r + 1 : Nat) : Int)) (lev l en (r + 1)) (decide (1 ≤ r + 1)) := ⟨hl, by omega, by omega, by
     rw [decide_eq_true (by omega), decide_eq_true (by omega)], fun _ => by
     have := ih (by omega)
     rw [show (40 - ((r + 1 : Nat) : Int) + 1) = 40 - (r : Int) from by omega]; exact this, hts, lev_goes l en (r + 1)⟩
   exact ⟨fun k w h => cformula E w h, fun k w h => cpower E w h, fun k w h => cunary E w h⟩
def Fo.nth : Fo → Nat → Nd
 | .nil, _ => zeroN
 | .cons f k _, 0 => ⟨f, k⟩
 | .cons _ _ n, i + 1 => n.nth i
def Fo.drop : Fo → Nat → Fo
 | x, 0 => x
 | .nil, _ + 1 => .nil
 | .cons _ _ n, i + 1 => n.drop i
theorem Fo.drop_nth : ∀ (x : Fo) (i : Nat), i < x.len → x.drop i = .cons (x.nth i).f (x.nth i).kids (x.drop (i + 1))
 | .nil, i, h => by simp [Fo.len] at h
 | .cons f k n, 0, h => by simp [Fo.drop, Fo.nth]
 | .cons f k n, i + 1, h => by
   have := Fo.drop_nth n i (by simpa [Fo.len] using h)
   simpa [Fo.drop, Fo.nth] using this
theorem Fo.drop_len : ∀ (x : Fo) (i : Nat), x.len ≤ i → x.drop i = .nil
 | .nil, 0, _ => rfl
 | .nil, i + 1, _ => rfl
 | .cons f k n, 0, h => by simp [Fo.len] at h
 | .cons f k n, i + 1, h => by simpa [Fo.drop] using Fo.drop_len n i (by simpa [Fo.len] using h)
theorem Fo.nth_size : ∀ (x : Fo) (i : Nat), i < x.len → (x.nth i).size ≤ x.size
 | .nil, i, h => by simp [Fo.len] at h
 | .cons f k n, 0, h => by simp [Fo.nth, Nd.size, Fo.size]
 | .cons f k n, i + 1, h => by
   have := Fo.nth_size n i (by simpa [Fo.len] using h)
   simp only [Fo.nth, Fo.size]; omega
theorem Fo.len_size : ∀ (x : Fo), x.len ≤ x.size
 | .nil => Nat.le_refl _
 | .cons f k n => by have := Fo.len_size n; simp only [Fo.len, Fo.size]; omega
theorem Fo.deep_size : ∀ (x : Fo), x.deep ≤ x.size
 | .nil => Nat.le_refl _
 | .cons f k n => by have := Fo.deep_size n; have := Fo.deep_size k; simp only [Fo.deep, Fo.size]; omega
theorem below_row {w w' : World} {fo : Fo} {A : Option Addr} (h : KidsAt w (fun g => g < w.heap.size) fo A) (hb : Below w.heap.size w w') : KidsAt w' (fun g => g < w'.heap.size) fo A :=
 h.keep (Kept.of (x := w.heap.size) hb) (fun g hg _ => ⟨by omega, by have := hb.size; omega⟩)
theorem RowAt.nth {w : World} {P : Nat → Prop} : ∀ (x : Fo) (g o i : Nat), RowAt w P x g o → i < x.len → ∃ A c, KidsAt w P (x.nth i).kids A ∧ P g ∧
   w.cell? ⟨g, o + i * 10, none⟩ = some (.int .i64 (x.nth i).f.k) ∧ w.cell? ⟨g, o + i * 10 + 1, none⟩ = some (.int .i64 (x.nth i).f.vk) ∧ w.cell? ⟨g, o + i * 10 + 2, none⟩ = some (.int .i64 (x.nth i).f.vn) ∧ w.cell? ⟨g, o + i * 10 + 3, none⟩ = some (.string (x.nth i).f.vs) ∧
   w.cell? ⟨g, o + i * 10 + 4, none⟩ = some (.int .i64 (x.nth i).f.r1) ∧ w.cell? ⟨g, o + i * 10 + 5, none⟩ = some (.int .i64 (x.nth i).f.r2) ∧ w.cell? ⟨g, o + i * 10 + 6, none⟩ = some (.int .i64 (x.nth i).f.r3) ∧ w.cell? ⟨g, o + i * 10 + 7, none⟩ = some (.int .i64 (x.nth i).f.r4) ∧
   w.cell? ⟨g, o + i * 10 + 8, none⟩ = some (.string (x.nth i).f.op) ∧ w.cell? ⟨g, o + i * 10 + 9, none⟩ = some (.slice A (x.nth i).kids.len c)
 | .nil, g, o, i, _, h => by simp [Fo.len] at h
 | .cons f k n, g, o, 0, hr, h => by
   obtain ⟨⟨hp, f0, f1, f2, f3, f4, f5, f6, f7, f8⟩, ⟨A, c, f9, hk⟩, -⟩ := hr
   exact ⟨A, c, hk, hp, by simpa [Fo.nth] using f0, by simpa [Fo.nth] using f1, by simpa [Fo.nth] using f2, by simpa [Fo.nth] using f3, by simpa [Fo.nth] using f4, by simpa [Fo.nth] using f5, by simpa [Fo.nth] using f6, by simpa [Fo.nth] using f7, by simpa [Fo.nth] using f8, by simpa [Fo.nth] using f9⟩
 | .cons f k n, g, o, i + 1, hr, h => by
   have := RowAt.nth n g (o + 10) i hr.2.2 (by simpa [Fo.len] using h)
   simp only [Fo.nth]
   rwa [show o + 10 + i * 10 = o + (i + 1) * 10 from by omega] at this
def Fo.room : Fo → Int → Int
 | .nil, r => r
 | .cons _ k n, r => if r < 0 then r else n.room (k.room (r - 1))
def Nd.room (a : Nd) (r : Int) : Int := a.kids.room (r - 1)
theorem Fo.room_neg : ∀ (x : Fo) (r : Int), r < 0 → x.room r = r
 | .nil, r, h => rfl
 | .cons f k n, r, h => by simp [Fo.room, h]
theorem Fo.room_ok : ∀ (x : Fo) (r : Int), (x.size : Int) ≤ r → x.room r = r - x.size
 | .nil, r, h => by simp [Fo.room, Fo.size]
 | .cons f k n, r, h => by
   simp only [Fo.size] at h
   rw [Fo.room, if_neg (by omega), Fo.room_ok k (r - 1) (by omega), Fo.room_ok n _ (by omega)]
   simp only [Fo.size]; omega
theorem Fo.room_big : ∀ (x : Fo) (r : Int), 0 ≤ r → r < (x.size : Int) → x.room r = -1
 | .nil, r, h0, h => by simp [Fo.size] at h; omega
 | .cons f k n, r, h0, h => by
   simp only [Fo.size] at h
   rw [Fo.room, if_neg (by omega)]
   by_cases h1 : r - 1 < 0
   · rw [Fo.room_neg k _ h1, Fo.room_neg n _ h1]; omega
   · by_cases hk : (k.size : Int) ≤ r - 1
     · rw [Fo.room_ok k _ hk]
       exact Fo.room_big n _ (by omega) (by omega)
     · rw [Fo.room_big k _ (by omega) (by omega), Fo.room_neg n _ (by omega)]
theorem Nd.room_le (a : Nd) {r : Int} (h : 0 ≤ r) : 0 ≤ a.room r ↔ (a.size : Int) ≤ r := by
 unfold Nd.room Nd.size
 by_cases hk : (a.kids.size : Int) ≤ r - 1
 · rw [Fo.room_ok _ _ hk]; omega
 · by_cases h1 : r - 1 < 0
   · rw [Fo.room_neg _ _ h1]; omega
   · rw [Fo.room_big _ _ (by omega) (by omega)]; omega
theorem Nd.room_lo (a : Nd) {r : Int} (h : 0 ≤ r) : -1 ≤ a.room r ∧ a.room r ≤ r := by
 unfold Nd.room
 by_cases hk : (a.kids.size : Int) ≤ r - 1
 · rw [Fo.room_ok _ _ hk]; omega
 · by_cases h1 : r - 1 < 0
   · rw [Fo.room_neg _ _ h1]; omega
   · rw [Fo.room_big _ _ (by omega) (by omega)]; omega
theorem croom : ∀ (n : Nat) (a : Nd) (A : Option Addr) (c : Nat) (r : Int) (w : World), a.size ≤ n → a.size ≤ 1000000 → 0 ≤ r → r ≤ 2000 → KidsAt w (fun g => g < w.heap.size) a.kids A →
   Calls prog 92 #[.agg (jN a.f A a.kids.len c), .int .i64 r] w fun e w' => e = .returned (.int .i64 (a.room r)) ∧ Below w.heap.size w w' := by
 intro n
 induction n with
 | zero => intro a A c r w h _; exact absurd h (by unfold Nd.size; omega)
 | succ n ih =>
   intro a A c r w hsz hsm hr0 hr1 hK
   obtain ⟨f, kd⟩ := a
   simp only at hK ⊢
   have HK := hid hK
   clear hK
   have hlen : kd.len ≤ 1000000 := by have := Fo.len_size kd; have : (Nd.mk f kd).size = 1 + kd.size := rfl; omega
   have hkz : kd.size ≤ n := by have : (Nd.mk f kd).size = 1 + kd.size := rfl; omega
   have hks : kd.size ≤ 1000000 := by have : (Nd.mk f kd).size = 1 + kd.size := rfl; omega
   go_enter func92, ntmps92
   go_wp2
   go_loopw [1, 5] (fun rv iv wr => ∃ (i : Nat) (q : Int), i ≤ kd.len ∧ rv = .int .i64 q ∧ iv = .int .i64 i ∧ -1 ≤ q ∧ q ≤ 2000 ∧ Below w.heap.size w wr ∧ Hid (wr.cell? ⟨w.heap.size, 9, none⟩ = some (.slice A kd.len c)) ∧ Hid ((kd.drop i).room q = kd.room (r - 1))) (fun _ iv _ => kd.len - (intOf iv).toNat)
   case atStart => exact ⟨0, r - 1, Nat.zero_le _, rfl, rfl, by omega, by omega, (Below.refl _ _).alloc (Nat.le_refl _) _, hid (by simp), hid (by cases kd <;> rfl)⟩
   case round =>
     obtain ⟨i, q, hi, rfl, rfl, hq0, hq1, hB, H9, HR⟩ := hrel
     have HKr := below_row HK.out hB
     have h9 := H9.out
     by_cases hlt : i < kd.len
     · have d1 : (i : Int) < (kd.len : Int) := by omega
       by_cases hq : 0 ≤ q
       · obtain ⟨g, o, rfl, hrow⟩ : ∃ g o, A = some ⟨g, o, none⟩ ∧ RowAt wr (fun g => g < wr.heap.size) kd g o := by
           rcases HKr with h | h
           · rw [h] at hlt; exact absurd hlt (by simp [Fo.len])
           · exact h
         obtain ⟨A2, c2, hk2, hp, f0, f1, f2, f3, f4, f5, f6, f7, f8, f9⟩ := RowAt.nth kd g o i hrow hlt
         have hn1 := Fo.nth_size kd i hlt
         have HI := hid (ih (kd.nth i) A2 c2 q wr (by omega) (by omega) hq hq1 hk2)
         have hlo := Nd.room_lo (kd.nth i) hq
         have HN : Hid ((kd.drop (i + 1)).room ((kd.nth i).room q) = kd.room (r - 1)) := by
           have e := HR.out
           rw [Fo.drop_nth kd i hlt, Fo.room, if_neg (by omega)] at e
           exact hid e
         clear hrow hk2 HKr ih hn1
         generalize kd.nth i = b at *
         go_wp2_with fail
         refine HI.out.mono ?_; rintro e w2 ⟨rfl, hb2⟩
         go_wp2_with fail
         go_roundw
         case rel => exact ⟨i + 1, b.room q, by omega, rfl, by go_num, by omega, by omega, hB.trans (hb2.mono hB.size), hid (cell_later hb2 H9.out), HN⟩
         case measure => simp [intOf]; omega
       · have E : Hid (kd.room (r - 1) = q) := hid (HR.out.symm.trans (Fo.room_neg _ _ (by omega)))
         clear ih HKr
         go_wp2_with fail
         go_ret
         exact ⟨by show Ending.returned (.int .i64 q) = _; rw [← E.out]; rfl, hB⟩
     · have E : Hid (kd.room (r - 1) = q) := hid (by rw [← HR.out, Fo.drop_len kd i (by omega)]; rfl)
       have d1 : ¬ (i : Int) < (kd.len : Int) := by omega
       clear ih HKr
       go_wp2_with fail
       go_ret
       exact ⟨by show Ending.returned (.int .i64 q) = _; rw [← E.out]; rfl, hB⟩
theorem csmall (a : Nd) (A : Option Addr) (c : Nat) (w : World) (hsm : a.size ≤ 1000000) (hK : KidsAt w (fun g => g < w.heap.size) a.kids A) :
   Calls prog 61 #[.agg (jN a.f A a.kids.len c)] w fun e w' => e = .returned (.bool (decide (a.size ≤ 2000))) ∧ Below w.heap.size w w' := by
 have HK := hid hK
 clear hK
 have E : Hid (decide (0 ≤ a.room 2000) = decide (a.size ≤ 2000)) := hid (by have := Nd.room_le a (r := 2000) (by omega); exact decide_eq_decide.2 (this.trans (by omega)))
 obtain ⟨f, kd⟩ := a
 simp only at *
 go_enter func61, ntmps61
 go_wp2_with fail
 have hb1 : Below w.heap.size w (w.alloc (.cells (jN f A kd.len c) 31)) := (Below.refl _ _).alloc (Nat.le_refl _) _
 refine (croom (Nd.mk f kd).size ⟨f, kd⟩ A c 2000 _ (Nat.le_refl _) hsm (by omega) (by omega) (below_row HK.out hb1)).mono ?_; rintro e w2 ⟨rfl, hb2⟩
 go_wp2_with fail
 go_ret
 exact ⟨by rw [← E.out]; rfl, hb1.trans (hb2.mono hb1.size)⟩
theorem Fo.deep_drop : ∀ (x : Fo) (i : Nat) (h : i < x.len), (x.drop i).deep = max (x.nth i).deep (x.drop (i + 1)).deep := by
 intro x i h
 rw [Fo.drop_nth x i h]
 simp only [Fo.deep, Nd.deep]
theorem cdepth : ∀ (n : Nat) (a : Nd) (A : Option Addr) (c : Nat) (w : World), a.size ≤ n → a.size ≤ 1000000 → KidsAt w (fun g => g < w.heap.size) a.kids A →
   Calls prog 111 #[.agg (jN a.f A a.kids.len c)] w fun e w' => e = .returned (.int .i64 (a.deep : Nat)) ∧ Below w.heap.size w w' := by
 intro n
 induction n with
 | zero => intro a A c w h _; exact absurd h (by unfold Nd.size; omega)
 | succ n ih =>
   intro a A c w hsz hsm hK
   obtain ⟨f, kd⟩ := a
   simp only at hK ⊢
   have HK := hid hK
   clear hK
   have hlen : kd.len ≤ 1000000 := by have := Fo.len_size kd; have : (Nd.mk f kd).size = 1 + kd.size := rfl; omega
   have hkz : kd.size ≤ n := by have : (Nd.mk f kd).size = 1 + kd.size := rfl; omega
   have hks : kd.size ≤ 1000000 := by have : (Nd.mk f kd).size = 1 + kd.size := rfl; omega
   have hdd : kd.deep ≤ 1000000 := Nat.le_trans (Fo.deep_size kd) hks
   go_enter func111, ntmps111
   go_wp2
   go_loopw [3, 9] (fun dv iv wr => ∃ (i d : Nat), i ≤ kd.len ∧ dv = .int .i64 d ∧ iv = .int .i64 i ∧ Below w.heap.size w wr ∧ Hid (max d (kd.drop i).deep = kd.deep)) (fun _ iv _ => kd.len - (intOf iv).toNat)
   case atStart => exact ⟨0, 0, Nat.zero_le _, rfl, rfl, (Below.refl _ _).alloc (Nat.le_refl _) _, hid (by cases kd <;> simp [Fo.drop])⟩
   case round =>
     obtain ⟨i, d, hi, rfl, rfl, hB, HR⟩ := hrel
     have HKr := below_row HK.out hB
     by_cases hlt : i < kd.len
     · have d1 : (i : Int) < (kd.len : Int) := by omega
       obtain ⟨g, o, rfl, hrow⟩ : ∃ g o, A = some ⟨g, o, none⟩ ∧ RowAt wr (fun g => g < wr.heap.size) kd g o := by
         rcases HKr with h | h
         · rw [h] at hlt; exact absurd hlt (by simp [Fo.len])
         · exact h
       obtain ⟨A2, c2, hk2, hp, f0, f1, f2, f3, f4, f5, f6, f7, f8, f9⟩ := RowAt.nth kd g o i hrow hlt
       have hn1 := Fo.nth_size kd i hlt
       have hB2 : Below wr.heap.size wr (wr.alloc (.cells (jN (kd.nth i).f A2 (kd.nth i).kids.len c2) 31)) := (Below.refl _ _).alloc (Nat.le_refl _) _
       have HI := hid (ih (kd.nth i) A2 c2 _ (by omega) (by omega) (below_row hk2 hB2))
       have HB2 := hid hB2
       have HN : Hid (max (max d (kd.nth i).deep) (kd.drop (i + 1)).deep = kd.deep) := hid (by rw [Nat.max_assoc, ← Fo.deep_drop kd i hlt]; exact HR.out)
       have hm1 : max d (kd.nth i).deep ≤ 1000000 := by have := HN.out; omega
       clear hrow hk2 HKr ih hn1 hB2
       generalize kd.nth i = b at *
       go_wp2_with fail
       refine HI.out.mono ?_; rintro e w2 ⟨rfl, hb2⟩
       go_wp2_with fail
       go_roundw
       case rel => exact ⟨i + 1, max d b.deep, by omega, by congr 1; omega, by go_num, hB.trans ((HB2.out.trans (hb2.mono HB2.out.size)).mono hB.size), HN⟩
       case measure => simp [intOf]; omega
     · have E : Hid (kd.deep = d) := hid (by rw [← HR.out, Fo.drop_len kd i (by omega)]; simp [Fo.deep])
       have d1 : ¬ (i : Int) < (kd.len : Int) := by omega
       have hd : d ≤ 1000000 := by have := E.out; omega
       clear ih HKr
       go_wp2_with fail
       go_ret
       refine ⟨?_, hB⟩
       show Ending.returned (.int .i64 ((d : Int) + 1)) = .returned (.int .i64 (((1 + kd.deep : Nat)) : Int))
       rw [E.out]
       congr 2; omega
theorem cDepth (a : Nd) (A : Option Addr) (c : Nat) (w : World) (hsm : a.size ≤ 1000000) (hK : KidsAt w (fun g => g < w.heap.size) a.kids A) :
   Calls prog 100 #[.agg (jN a.f A a.kids.len c)] w fun e w' => e = .returned (.int .i64 ((if a.size ≤ 2000 then a.deep else 0 : Nat) : Int)) ∧ Below w.heap.size w w' := by
 have hb1 : Below w.heap.size w (w.alloc (.cells (jN a.f A a.kids.len c) 31)) := (Below.refl _ _).alloc (Nat.le_refl _) _
 have L1 : NLoc (w.alloc (.cells (jN a.f A a.kids.len c) 31)) w.heap.size a.f A a.kids.len c := ⟨heap_alloc_new _ _⟩
 have HK := hid (below_row hK hb1)
 clear hK
 generalize hD : (if a.size ≤ 2000 then a.deep else 0) = D
 have HD := hid hD.symm
 clear hD
 go_enter func100, ntmps100
 go_wp2_with fail
 generalize (w.alloc (.cells (jN a.f A a.kids.len c) 31)) = W1 at *
 refine (csmall a A c W1 hsm HK.out).mono ?_; rintro e w2 ⟨rfl, hb2⟩
 have HK2 := hid (below_row HK.out hb2)
 have L2 := L1.kept (Kept.of (x := W1.heap.size) hb2) (Nat.ne_of_lt L1.lt)
 have HB := hid (hb1.trans (hb2.mono hb1.size))
 clear hb1 hb2 HK L1
 by_cases h : a.size ≤ 2000
 · obtain ⟨d0, d1, d2, d3, d4, d5, d6, d7, d8, d9, dz0, dz1, dz2, dz3, dz4, dz5, dz6, dz7, dz8, dz9⟩ := (L2).cells
   have e1 : decide (a.size ≤ 2000) = true := decide_eq_true h
   have e2 : Hid (D = a.deep) := hid (HD.out.trans (if_pos h))
   go_wp2_with fail
   refine (cdepth a.size a A c w2 (Nat.le_refl _) hsm HK2.out).mono ?_; rintro e w3 ⟨rfl, hb3⟩
   go_wp2_with fail
   go_ret
   exact ⟨by rw [e2.out]; rfl, HB.out.trans (hb3.mono HB.out.size)⟩
 · have e1 : decide (a.size ≤ 2000) = false := decide_eq_false h
   have e2 : Hid (D = 0) := hid (HD.out.trans (if_neg h))
   go_wp2_with fail
   go_ret
   exact ⟨by rw [e2.out]; rfl, HB.out⟩
end Go.Proofs.YticehalcnbjccaaGreatDoor.TreeC
namespace Go.Proofs.YticehalcnbjccaaGreatDoor.TreeC
set_option maxRecDepth 100000
set_option maxHeartbeats 8000000
set_option linter.unusedVariables false
open NumC LexC
theorem Fo.drop_app : ∀ (x y : Fo) (i : Nat), i ≤ x.len → (x.app y).drop i = (x.drop i).app y
 | .nil, y, i, h => by
   obtain rfl : i = 0 := by simpa [Fo.len] using h
   cases y <;> rfl
 | .cons f k n, y, 0, _ => rfl
 | .cons f k n, y, i + 1, h => by
   have := Fo.drop_app n y i (by simp only [Fo.len] at h; omega)
   exact this
theorem Fo.nth_app : ∀ (x y : Fo) (i : Nat), i < x.len → (x.app y).nth i = x.nth i
 | .nil, y, i, h => absurd h (by simp [Fo.len])
 | .cons f k n, y, 0, _ => rfl
 | .cons f k n, y, i + 1, h => Fo.nth_app n y i (by simp only [Fo.len] at h; omega)
theorem Fo.drop_zero (x : Fo) : x.drop 0 = x := by cases x <;> rfl
theorem Fo.size_drop (x : Fo) (i : Nat) (h : i < x.len) : (x.drop i).size = 1 + (x.nth i).kids.size + (x.drop (i + 1)).size := by
 rw [Fo.drop_nth x i h]; rfl
theorem Fo.queue (q : Fo) (k : Nat) (h : k < q.len) : ((q.app (q.nth k).kids).drop (k + 1)) = (q.drop (k + 1)).app (q.nth k).kids := Fo.drop_app _ _ _ h
theorem Fo.queue_size (q : Fo) (k s : Nat) (h : k < q.len) (hs : k + (q.drop k).size = s) : (k + 1) + ((q.app (q.nth k).kids).drop (k + 1)).size = s := by
 rw [Fo.queue q k h, Fo.size_app, ← hs, Fo.size_drop q k h]; omega
def Fo.under : Fo → Fo
 | .nil => .nil
 | .cons _ k n => k.app n.under
theorem Fo.under_deep (x : Fo) : x.under.deep = x.deep - 1 := by
 induction x with
 | nil => rfl
 | cons f k n _ ih => simp only [Fo.under, Fo.deep_app, Fo.deep, ih]; omega
theorem Fo.under_size (x : Fo) : x.under.size + x.len = x.size := by
 induction x with
 | nil => rfl
 | cons f k n _ ih => simp only [Fo.under, Fo.size_app, Fo.size, Fo.len]; omega
theorem Fo.under_step (x : Fo) (i : Nat) (h : i < x.len) : (x.drop i).under = (x.nth i).kids.app (x.drop (i + 1)).under := by rw [Fo.drop_nth x i h]; rfl
theorem Fo.deep_nil {x : Fo} (h : x.len = 0) : x.deep = 0 := by
 cases x with
 | nil => rfl
 | cons f k n => simp [Fo.len] at h
theorem Fo.deep_pos {x : Fo} (h : 0 < x.len) : 0 < x.deep := by
 cases x with
 | nil => simp [Fo.len] at h
 | cons f k n => simp only [Fo.deep]; omega
theorem Fo.take_app : ∀ (x : Fo) (i : Nat), i < x.len → ∀ y : Fo, x.drop i = y → y.len = x.len - i
 | .nil, i, h, _, _ => absurd h (by simp [Fo.len])
 | .cons f k n, 0, _, y, e => by subst e; simp [Fo.drop_zero]
 | .cons f k n, i + 1, h, y, e => by
   have h' : i < n.len := by simp only [Fo.len] at h; omega
   have := Fo.take_app n i h' y e
   simp only [Fo.len]; omega
theorem Fo.len_drop (x : Fo) (i : Nat) : (x.drop i).len = x.len - i := by
 by_cases h : i < x.len
 · exact Fo.take_app x i h _ rfl
 · rw [Fo.drop_len x i (by omega)]; simp [Fo.len]; omega
end Go.Proofs.YticehalcnbjccaaGreatDoor.TreeC
namespace Go.Proofs.YticehalcnbjccaaGreatDoor.TreeC
set_option maxRecDepth 100000
set_option maxHeartbeats 8000000
set_option linter.unusedVariables false
open Go.RowKit NumC LexC
open Cd
open Tryz
open Lib (hid)
theorem addr_add0 (g j : Nat) : (⟨g, 0, none⟩ : Addr).add j = ⟨g, j, none⟩ := by unfold Addr.add; split <;> simp_all
theorem addr_add (g i j : Nat) : (⟨g, i, none⟩ : Addr).add j = ⟨g, i + j, none⟩ := by
 unfold Addr.add
 split
 · rename_i h; subst h; rfl
 · rfl
theorem RowV.nth {w : World} {P : Nat → Prop} : ∀ (fo : Fo) (vs : List Value) (i : Nat), RowV w P fo vs → i < fo.len → ∃ A c, KidsAt w P (fo.nth i).kids A ∧
   ∀ (j : Nat) (u : Value), (nodeV (fo.nth i).f A (fo.nth i).kids.len c).cells[j]? = some u → (ncells vs)[i * 10 + j]? = some u := by
 intro fo
 induction fo with
 | nil => intro vs i _ h; exact absurd h (by simp [Fo.len])
 | cons f kids next _ ih =>
   intro vs i h hi
   cases vs with
   | nil => exact absurd h (by simp [RowV])
   | cons v vs =>
     obtain ⟨⟨A, c, rfl, hA⟩, hr⟩ := h
     cases i with
     | zero =>
       refine ⟨A, c, hA, fun j u hj => ?_⟩
       rw [ncells_cons, Nat.zero_mul, Nat.zero_add, List.getElem?_append_left (by
         have := (Array.getElem?_eq_some_iff.1 hj).1
         rw [Array.length_toList]; exact this)]
       simpa [Fo.nth] using hj
     | succ i =>
       obtain ⟨A2, c2, h1, h2⟩ := ih vs i hr (by simpa [Fo.len] using hi)
       refine ⟨A2, c2, h1, fun j u hj => ?_⟩
       have := h2 j u hj
       rw [ncells_cons, List.getElem?_append_right (by simp [nodeV, Value.cells]; omega)]
       rw [← this]
       congr 1
       simp [nodeV, Value.cells]; omega
theorem RowV.app {w : World} {P : Nat → Prop} {ka : Fo} {ws : List Value} (hw : RowV w P ka ws) : ∀ (fo : Fo) (vs : List Value), RowV w P fo vs → RowV w P (fo.app ka) (vs ++ ws) := by
 intro fo
 induction fo with
 | nil => intro vs h; cases vs with
   | nil => exact hw
   | cons v vs => exact absurd h (by simp [RowV])
 | cons f kids next _ ih => intro vs h; cases vs with
   | nil => exact absurd h (by simp [RowV])
   | cons v vs => exact ⟨h.1, ih vs h.2⟩
theorem ncells_app (vs ws : List Value) : ncells (vs ++ ws) = ncells vs ++ ncells ws := by unfold ncells; rw [List.flatMap_append]
theorem rowV_of {w : World} {P : Nat → Prop} {g : Nat} : ∀ (fo : Fo) (o : Nat), RowAt w P fo g o → ∃ vs, RowV w P fo vs ∧ (ncells vs).length = fo.len * 10 ∧ ∀ (j : Nat) (u : Value), (ncells vs)[j]? = some u → w.cell? ⟨g, o + j, none⟩ = some u := by
 intro fo
 induction fo with
 | nil => intro o _; exact ⟨[], trivial, rfl, fun j u h => by simp [ncells] at h⟩
 | cons f kids next _ ih =>
   intro o h
   obtain ⟨⟨hp, f0, f1, f2, f3, f4, f5, f6, f7, f8⟩, ⟨A, c, f9, hk⟩, hn⟩ := h
   obtain ⟨vs, h1, h2, h3⟩ := ih (o + 10) hn
   refine ⟨nodeV f A kids.len c :: vs, ⟨⟨A, c, rfl, hk⟩, h1⟩, by rw [ncells_cons, List.length_append, h2]; simp [nodeV, Value.cells, Fo.len]; omega, fun j u hj => ?_⟩
   rw [ncells_cons] at hj
   by_cases hlt : j < 10
   · rw [List.getElem?_append_left (by simpa [nodeV, Value.cells] using hlt)] at hj
     have h10 : j = 0 ∨ j = 1 ∨ j = 2 ∨ j = 3 ∨ j = 4 ∨ j = 5 ∨ j = 6 ∨ j = 7 ∨ j = 8 ∨ j = 9 := by omega
     rcases h10 with rfl | rfl | rfl | rfl | rfl | rfl | rfl | rfl | rfl | rfl <;> (simp [nodeV, Value.cells] at hj; subst hj; assumption)
   · rw [List.getElem?_append_right (by simp [nodeV, Value.cells]; omega)] at hj
     have := h3 (j - 10) u (by simpa [nodeV, Value.cells] using hj)
     rwa [show o + 10 + (j - 10) = o + j from by omega] at this
def QS (w : World) (B : Nat) (v : Value) (fo : Fo) : Prop := ∃ vs, w.ownsRow B 31 10 v fo.len (ncells vs) ∧ RowV w (fun g => g < B) fo vs
theorem QS.nil (w : World) (B : Nat) : QS w B (.slice none 0 0) .nil := ⟨[], ⟨rfl, Or.inl ⟨rfl, rfl⟩⟩, trivial⟩
theorem QS.form {w : World} {B : Nat} {v : Value} {fo : Fo} (h : QS w B v fo) : ∃ A c, v = .slice A fo.len c := by
 obtain ⟨vs, ⟨-, ⟨rfl, h⟩ | ⟨g, cap, cur, rfl, -⟩⟩, -⟩ := h
 · exact ⟨none, 0, by rw [h]⟩
 · exact ⟨_, _, rfl⟩
theorem QS.lt {w : World} {B : Nat} {v : Value} {fo : Fo} (h : QS w B v fo) : ∀ k, v.ownBlock = some k → B ≤ k ∧ k < w.heap.size := by
 obtain ⟨vs, h, -⟩ := h
 exact World.ownsRow.lt h
theorem QS.below {w w' : World} {B : Nat} {v : Value} {fo : Fo} (h : QS w B v fo) (hk : Below w.heap.size w w') : QS w' B v fo := by
 obtain ⟨vs, ⟨h1, h2⟩, h3⟩ := h
 refine ⟨vs, ⟨h1, ?_⟩, RowV.keep (Kept.of (x := w.heap.size) hk) (fun g hg hl => ⟨by omega, hg⟩) _ _ h3⟩
 rcases h2 with h2 | ⟨g, cap, cur, e, hb, hg, h⟩
 · exact Or.inl h2
 · exact Or.inr ⟨g, cap, cur, e, hb, (hk.block g (Array.getElem?_eq_some_iff.1 hg).1).trans hg, h⟩
theorem QS.nth {w : World} {B : Nat} {v : Value} {fo : Fo} (h : QS w B v fo) (i : Nat) (hi : i < fo.len) : ∃ g c A2 c2, v = .slice (some ⟨g, 0, none⟩) fo.len c ∧ B ≤ g ∧ g < w.heap.size ∧ KidsAt w (fun g => g < B) (fo.nth i).kids A2 ∧
   w.cell? ⟨g, i * 10, none⟩ = some (.int .i64 (fo.nth i).f.k) ∧ w.cell? ⟨g, i * 10 + 1, none⟩ = some (.int .i64 (fo.nth i).f.vk) ∧ w.cell? ⟨g, i * 10 + 2, none⟩ = some (.int .i64 (fo.nth i).f.vn) ∧ w.cell? ⟨g, i * 10 + 3, none⟩ = some (.string (fo.nth i).f.vs) ∧ w.cell? ⟨g, i * 10 + 4, none⟩ = some (.int .i64 (fo.nth i).f.r1) ∧ w.cell? ⟨g, i * 10 + 5, none⟩ = some (.int .i64 (fo.nth i).f.r2) ∧ w.cell? ⟨g, i * 10 + 6, none⟩ = some (.int .i64 (fo.nth i).f.r3) ∧ w.cell? ⟨g, i * 10 + 7, none⟩ = some (.int .i64 (fo.nth i).f.r4) ∧ w.cell? ⟨g, i * 10 + 8, none⟩ = some (.string (fo.nth i).f.op) ∧ w.cell? ⟨g, i * 10 + 9, none⟩ = some (.slice A2 (fo.nth i).kids.len c2) := by
 obtain ⟨vs, hown, hr⟩ := h
 obtain ⟨g, cap, cur, rfl, hb, hg, -⟩ : ∃ g cap cur, v = .slice (some ⟨g, 0, none⟩) fo.len cap ∧ B ≤ g ∧ w.heap[g]? = some (.cells cur 31 (0, 0)) ∧ True := by
   rcases hown.2 with ⟨-, h0⟩ | ⟨g, cap, cur, e, hb, hg, -⟩
   · omega
   · exact ⟨g, cap, cur, e, hb, hg, trivial⟩
 obtain ⟨A2, c2, hk, hc⟩ := RowV.nth fo vs i hr hi
 have hcell : ∀ (j : Nat) (u : Value), (nodeV (fo.nth i).f A2 (fo.nth i).kids.len c2).cells[j]? = some u → w.cell? ⟨g, i * 10 + j, none⟩ = some u := fun j u hj => by
   have := World.ownsRow.cells hown (g := g) rfl _ _ (hc j u hj)
   rwa [addr_add0] at this
 exact ⟨g, cap, A2, c2, rfl, hb, (Array.getElem?_eq_some_iff.1 hg).1, hk, hcell 0 _ rfl, hcell 1 _ rfl, hcell 2 _ rfl, hcell 3 _ rfl, hcell 4 _ rfl, hcell 5 _ rfl, hcell 6 _ rfl, hcell 7 _ rfl, hcell 8 _ rfl, hcell 9 _ rfl⟩
theorem QS.one {w : World} {B g m c : Nat} {f : Fld} {A : Option Addr} {kd : Fo} (hb : w.heap[g]? = some (.cells (jN f A m c) 31 (0, 0))) (hB : B ≤ g) (hm : kd.len = m) (hk : KidsAt w (fun g => g < B) kd A) : QS w B (.slice (some ⟨g, 0, none⟩) 1 1) (Nd.one ⟨f, kd⟩) := by
 subst hm
 exact ⟨[nodeV f A kd.len c], ⟨rfl, Or.inr ⟨g, 1, _, rfl, hB, hb, Nat.le_refl _, by decide, rfl, rfl⟩⟩, ⟨A, c, rfl, hk⟩, trivial⟩
theorem QS.more {w w' : World} {B : Nat} {v v' : Value} {fo kd : Fo} {vs ws : List Value} (hv : RowV w (fun g => g < B) fo vs) (hw : RowV w (fun g => g < B) kd ws) (ho : w'.ownsRow B 31 10 v' (fo.len + kd.len) (ncells vs ++ ncells ws)) (hg : w.grownBy w' v.ownBlock) (hlt : ∀ k, v.ownBlock = some k → B ≤ k ∧ k < w.heap.size) : QS w' B v' (fo.app kd) := by
 refine ⟨vs ++ ws, by rw [ncells_app, Fo.len_app]; exact ho, RowV.same (fun g hg2 hl => ⟨hg.block g hl (fun e => by have := (hlt g e.symm).1; omega), hg2⟩) _ _ (RowV.app hw fo vs hv)⟩
theorem below_grown {w wr w' : World} {B : Nat} {row : Option Nat} (h : Below B w wr) (hB : B ≤ wr.heap.size) (hg : wr.grownBy w' row) (hr : ∀ k, row = some k → B ≤ k) : Below B w w' :=
 ⟨hg.os.trans h.os, hg.tape.trans h.tape, hg.output.trans h.output, Nat.le_trans h.size hg.size, fun k hk => (hg.block k (by omega) (fun e => by have := hr k e.symm; omega)).trans (h.block k hk)⟩
theorem kids_below {w wr : World} {B : Nat} {kd : Fo} {A : Option Addr} (h : KidsAt w (fun g => g < B) kd A) (hb : Below B w wr) (hB : B ≤ w.heap.size) : KidsAt wr (fun g => g < B) kd A := by
 rcases h with h | ⟨g, o, e, hr⟩
 · exact Or.inl h
 · exact Or.inr ⟨g, o, e, RowAt.same (fun g hg hl => ⟨hb.block g hg, hg⟩) _ _ _ hr⟩
theorem kids_row {w : World} {P : Nat → Prop} {kd : Fo} {A : Option Addr} (h : KidsAt w P kd A) {i : Nat} (hi : i < kd.len) : ∃ g o, A = some ⟨g, o, none⟩ ∧ RowAt w P kd g o := by
 rcases h with h | h
 · rw [h] at hi; exact absurd hi (by simp [Fo.len])
 · exact h
def NMode (q : Fo) (k s M : Nat) : Prop := k ≤ q.len ∧ q.len ≤ M + 2 ∧ q.len ≤ s ∧ (k + (q.drop k).size = s ∨ M + 2 ≤ q.len)
def NIn (q kd : Fo) (b : Nd) (k i s M : Nat) : Prop := k < q.len ∧ q.len ≤ M + 2 ∧ q.len ≤ s ∧ q.nth k = b ∧ b.kids = kd ∧ ((k + 1) + ((q.app (kd.drop i)).drop (k + 1)).size = s ∨ M + 2 ≤ q.len)
theorem NMode.start {q : Fo} {k s M : Nat} (h : NMode q k s M) (hk : k < q.len) : NIn q (q.nth k).kids (q.nth k) k 0 s M := by
 obtain ⟨h1, h2, h3, h4⟩ := h
 refine ⟨hk, h2, h3, rfl, rfl, ?_⟩
 rcases h4 with h4 | h4
 · exact Or.inl (by rw [Fo.drop_zero]; exact Fo.queue_size q k s hk h4)
 · exact Or.inr h4
theorem NIn.step {q kd : Fo} {b : Nd} {k i s M : Nat} (h : NIn q kd b k i s M) (hi : i < kd.len) (hq : q.len ≤ M + 1) : NIn (q.app (kd.nth i).one) kd b k (i + 1) s M := by
 obtain ⟨h1, h2, h3, h4, h5, h6⟩ := h
 have h7 : (k + 1) + ((q.app (kd.drop i)).drop (k + 1)).size = s := by
   rcases h6 with h6 | h6
   · exact h6
   · omega
 have hl : (kd.drop i).len = kd.len - i := Fo.len_drop kd i
 have hl2 := Fo.len_size ((q.app (kd.drop i)).drop (k + 1))
 rw [Fo.len_drop, Fo.len_app, hl] at hl2
 refine ⟨by rw [Fo.len_app]; omega, by rw [Fo.len_app, Nd.one_len]; omega, by rw [Fo.len_app, Nd.one_len]; omega, by rw [Fo.nth_app _ _ _ h1]; exact h4, h5, Or.inl ?_⟩
 rw [Fo.app_assoc]
 have e : (kd.nth i).one.app (kd.drop (i + 1)) = kd.drop i := by rw [Fo.drop_nth kd i hi]; rfl
 rw [e]; exact h7
theorem NIn.done {q kd : Fo} {b : Nd} {k i s M : Nat} (h : NIn q kd b k i s M) (hi : kd.len ≤ i ∨ M + 2 ≤ q.len) : NMode q (k + 1) s M := by
 obtain ⟨h1, h2, h3, h4, h5, h6⟩ := h
 refine ⟨h1, h2, h3, ?_⟩
 rcases hi with hi | hi
 · rcases h6 with h6 | h6
   · rw [Fo.drop_len kd i hi, Fo.app_nil] at h6; exact Or.inl h6
   · exact Or.inr h6
 · exact Or.inr hi
def NPost (s M : Nat) (w : World) (e : Ending) (w' : World) : Prop := ∃ r : Nat, e = .returned (.int .i64 r) ∧ Below w.heap.size w w' ∧ (s ≤ M → r = s) ∧ (M < s → M < r) ∧ r ≤ M + 1
theorem NMode.end1 {q : Fo} {k s M : Nat} (h : NMode q k s M) (hk : q.len ≤ k) (h1 : k ≤ M + 1) : (s ≤ M → k = s) ∧ (M < s → M < k) ∧ k ≤ M + 1 := by
 obtain ⟨h2, h3, h4, h5⟩ := h
 have : k = s := by
   rcases h5 with h5 | h5
   · rw [Fo.drop_len q k hk] at h5; simpa [Fo.size] using h5
   · omega
 omega
theorem NMode.end2 {q : Fo} {k s M : Nat} (h : NMode q k s M) (hk : M < k) (h1 : k ≤ M + 1) : (s ≤ M → k = s) ∧ (M < s → M < k) ∧ k ≤ M + 1 := by
 obtain ⟨h2, h3, h4, h5⟩ := h
 omega
theorem knodes (M : Nat) (m : Int) (hm : m = (M : Int)) (hM : M ≤ 100000) (a : Nd) (A : Option Addr) (c : Nat) (w : World) (hK : KidsAt w (fun g => g < w.heap.size) a.kids A) :
   Calls prog 23 #[.agg (jN a.f A a.kids.len c), .int .i64 m] w (NPost a.size M w) := by
 subst hm
 have b1 : Below w.heap.size w (w.alloc (.cells (jN a.f A a.kids.len c) 31)) := (Below.refl _ _).alloc (Nat.le_refl _) _
 have b2 : Below w.heap.size w ((w.alloc (.cells (jN a.f A a.kids.len c) 31)).alloc (.cells (jN a.f A a.kids.len c) 31)) := b1.alloc b1.size _
 have hq : QS ((w.alloc (.cells (jN a.f A a.kids.len c) 31)).alloc (.cells (jN a.f A a.kids.len c) 31)) w.heap.size (.slice (some ⟨w.heap.size + 1, 0, none⟩) 1 1) a.one :=
   QS.one (f := a.f) (kd := a.kids) (c := c) (row_at2 _ _ _ rfl) (by omega) rfl (kids_below hK b2 (Nat.le_refl _))
 have hm0 : NMode a.one 0 a.size M := by
   have e : 0 + (a.one.drop 0).size = a.size := by rw [Nat.zero_add, Fo.drop_zero, Nd.one_size]
   have e1 : 1 ≤ a.size := by unfold Nd.size; omega
   exact ⟨Nat.zero_le _, by rw [Nd.one_len]; omega, by rw [Nd.one_len]; exact e1, Or.inl e⟩
 have HS := hid (show QS ((w.alloc (.cells (jN a.f A a.kids.len c) 31)).alloc (.cells (jN a.f A a.kids.len c) 31)) w.heap.size (.slice (some ⟨w.heap.size + 1, 0, none⟩) 1 1) a.one ∧ Below w.heap.size w ((w.alloc (.cells (jN a.f A a.kids.len c) 31)).alloc (.cells (jN a.f A a.kids.len c) 31)) ∧ NMode a.one 0 a.size M from ⟨hq, b2, hm0⟩)
 generalize hs : a.size = s at *
 obtain ⟨i0, hi0, hz0, hz1, hz2⟩ := info_parts node_info
 have HZ0 := hid hz0; have HZ1 := hid hz1; have HZ2 := hid hz2; have HI0 := hid hi0
 clear hz0 hz1 hz2 hi0 b1 b2 hq hm0 hs hK
 have hM0 : (0 : Int) ≤ (M : Int) := Int.natCast_nonneg _
 go_enter func23, ntmps23
 go_wp2_with fail
 go_loopw [5, 6] (fun v iv wr => ∃ k : Nat, k ≤ M + 1 ∧ iv = .int .i64 k ∧ Hid (∃ q, QS wr w.heap.size v q ∧ Below w.heap.size w wr ∧ NMode q k s M)) (fun _ iv _ => M + 1 - (intOf iv).toNat)
 case atStart => exact ⟨0, Nat.zero_le _, rfl, hid ⟨_, HS.out.1, HS.out.2.1, HS.out.2.2⟩⟩
 case round =>
   obtain ⟨k, hk, rfl, HR⟩ := hrel
   obtain ⟨q, hQ, hB, hN⟩ := HR.out
   have hql : q.len ≤ 200000 := by have := hN.2.1; omega
   by_cases hlt : k < q.len
   · by_cases hkm : k ≤ M
     · obtain ⟨g, c9, A2, c2, rfl, hg0, hg1, hkid, f0, f1, f2, f3, f4, f5, f6, f7, f8, f9⟩ := hQ.nth k hlt
       have HIN := hid (hN.start hlt)
       have HQ := hid (show QS wr w.heap.size _ q ∧ Below w.heap.size w wr from ⟨hQ, hB⟩)
       clear HR HS hQ hB hN hkid f0 f1 f2 f3 f4 f5 f6 f7 f8 f9 hg0 hg1
       go_wp2_with fail
       go_loopw [5, 7] (fun v iv W9 => ∃ i : Nat, iv = .int .i64 i ∧ Hid (∃ q' : Fo, i ≤ q'.len ∧ QS W9 w.heap.size v q' ∧ Below w.heap.size w W9 ∧ NIn q' (q.nth k).kids (q.nth k) k i s M)) (fun v iv _ => (q.nth k).kids.len - (intOf iv).toNat)
       case atStart => exact ⟨0, rfl, hid ⟨q, Nat.zero_le _, HQ.out.1, HQ.out.2, HIN.out⟩⟩
       case round =>
         obtain ⟨i, rfl, HR⟩ := hrel
         obtain ⟨q', hi, hQ, hB, hN⟩ := HR.out
         clear HR HQ HIN
         have hlt' := hN.1
         have hql' : q'.len ≤ 200000 := by have := hN.2.1; omega
         obtain ⟨g', c9', A2', c2', rfl, hg0, hg1, hkid, f0, f1, f2, f3, f4, f5, f6, f7, f8, f9⟩ := hQ.nth k hlt'
         rw [hN.2.2.2.1] at hkid f9
         generalize q.nth k = b at *
         generalize hkd : b.kids = kd at *
         clear f0 f1 f2 f3 f4 f5 f6 f7 f8
         have HN := hid hN
         have HKD := hid hkd
         clear hN hkd
         by_cases hik : i < kd.len
         · by_cases hql2 : q'.len ≤ M + 1
           · obtain ⟨gA, oA, rfl, hrow⟩ := kids_row hkid hik
             obtain ⟨A3, c3, hk3, hp3, h0, h1, h2, h3, h4, h5, h6, h7, h8, h9⟩ := RowAt.nth kd gA oA i hrow hik
             have hsz : w.heap.size ≤ wr.heap.size := hB.size
             have bI : Below wr.heap.size wr (wr.alloc (.cells (jN (kd.nth i).f A3 (kd.nth i).kids.len c3) 31)) := (Below.refl _ _).alloc (Nat.le_refl _) _
             have hB2 := hB.trans (bI.mono hB.size)
             have hk4 : KidsAt (wr.alloc (.cells (jN (kd.nth i).f A3 (kd.nth i).kids.len c3) 31)) (fun g => g < w.heap.size) (kd.nth i).kids A3 := kids_below hk3 (bI.mono hB.size) hB.size
             have hlo := hQ.lt
             obtain ⟨vs, hown, hvs⟩ := hQ.below bI
             have hnb := heap_alloc_new wr (.cells (jN (kd.nth i).f A3 (kd.nth i).kids.len c3) 31)
             have HH := hid hown
             have HNB := hid hnb
             have HREST := hid (show RowV (wr.alloc (.cells (jN (kd.nth i).f A3 (kd.nth i).kids.len c3) 31)) (fun g => g < w.heap.size) q' vs ∧ KidsAt (wr.alloc (.cells (jN (kd.nth i).f A3 (kd.nth i).kids.len c3) 31)) (fun g => g < w.heap.size) (kd.nth i).kids A3 ∧ Below w.heap.size w (wr.alloc (.cells (jN (kd.nth i).f A3 (kd.nth i).kids.len c3) 31)) from ⟨hvs, hk4, hB2⟩)
             have s8 : w.heap.size ≤ (wr.alloc (.cells (jN (kd.nth i).f A3 (kd.nth i).kids.len c3) 31)).heap.size := hB2.size
             have HST := hid (HN.out.step hik hql2)
             clear hQ hB hkid hrow hk3 bI hB2 hk4 hown hvs hnb
             go_wp2_with (at_builtin
                          refine wpList_append_own_at _ rfl (.tmp 36) (.tmp 45) _ rfl w.heap.size 31 i0 _ 10 112 underlying29 HI0.out HZ0.out HZ1.out HZ2.out rfl (by omega) (.slice (some ⟨g', 0, none⟩) q'.len c9') q'.len (ncells vs) rfl HH.out ⟨wr.heap.size, 0, none⟩ 1 1 [.int .i64 (kd.nth i).f.k, .int .i64 (kd.nth i).f.vk, .int .i64 (kd.nth i).f.vn, .string (kd.nth i).f.vs, .int .i64 (kd.nth i).f.r1, .int .i64 (kd.nth i).f.r2, .int .i64 (kd.nth i).f.r3, .int .i64 (kd.nth i).f.r4, .string (kd.nth i).f.op, .slice A3 (kd.nth i).kids.len c3] rfl rfl (World.news_of_block HNB.out) (by simp [Value.oneCell']) (by unfold maxLen; omega) (by omega) s8 ?_
                          intro v9 w9 hown9 hg9 hnil9 hat9
                          have Q9 : QS w9 w.heap.size v9 (q'.app (kd.nth i).one) := QS.more (kd := (kd.nth i).one) (ws := [nodeV (kd.nth i).f A3 (kd.nth i).kids.len c3]) HREST.out.1 ⟨⟨A3, c3, rfl, HREST.out.2.1⟩, trivial⟩ hown9 hg9 (fun x hx => by have := hlo x hx; exact ⟨this.1, Nat.lt_of_lt_of_le this.2 (by simp)⟩)
                          have B9 : Below w.heap.size w w9 := below_grown HREST.out.2.2 s8 hg9 (fun x hx => (hlo x hx).1)
                          clear hown9 hg9 hnil9 hat9)
             go_roundw
             case rel => exact ⟨i + 1, by go_num, hid ⟨_, by rw [Fo.len_app, Nd.one_len]; omega, Q9, B9, HST.out⟩⟩
             case measure => simp [intOf]; omega
           · have hov : M + 2 ≤ q'.len := by omega
             have HD := hid (HN.out.done (Or.inr hov))
             clear hkid
             go_wp2_with fail
             go_roundw
             case rel => exact ⟨k + 1, by omega, by go_num, hid ⟨q', hQ, hB, HD.out⟩⟩
             case measure => simp [intOf]; omega
         · have HD := hid (HN.out.done (Or.inl (by omega)))
           clear hkid
           go_wp2_with fail
           go_roundw
           case rel => exact ⟨k + 1, by omega, by go_num, hid ⟨q', hQ, hB, HD.out⟩⟩
           case measure => simp [intOf]; omega
     · obtain ⟨A, c, rfl⟩ := hQ.form
       have HE := hid (hN.end2 (by omega) hk)
       have hB9 := hB
       clear hQ HR HS hN
       go_wp2_with fail
       go_ret
       exact ⟨k, rfl, hB9, HE.out⟩
   · obtain ⟨A, c, rfl⟩ := hQ.form
     have HE := hid (hN.end1 (by omega) hk)
     have hB9 := hB
     clear hQ HR HS hN
     go_wp2_with fail
     go_ret
     exact ⟨k, rfl, hB9, HE.out⟩
theorem ncells_one {w : World} {P : Nat → Prop} : ∀ (fo : Fo) (vs : List Value), RowV w P fo vs → ∀ u ∈ ncells vs, u.oneCell' = true := by
 intro fo
 induction fo with
 | nil => intro vs h; cases vs with
   | nil => intro u hu; simp [ncells] at hu
   | cons v vs => exact absurd h (by simp [RowV])
 | cons f kids next _ ih => intro vs h; cases vs with
   | nil => exact absurd h (by simp [RowV])
   | cons v vs =>
     obtain ⟨⟨A, c, rfl, -⟩, hr⟩ := h
     intro u hu
     rw [ncells_cons, List.mem_append] at hu
     rcases hu with hu | hu
     · simp [nodeV, Value.cells] at hu
       rcases hu with rfl | rfl | rfl | rfl | rfl | rfl | rfl | rfl | rfl | rfl <;> rfl
     · exact ih vs hr u hu
theorem run_append_none0 {w : World} (base : Nat) (t ty e : TypeId) (i : TypeInfo) (size c : Nat) (ht : prog.underlying t = some (.slice e)) (hi : prog.info? e = some i)
   (v : Value) (n : Nat) (xs : List Value) (hown : w.ownsRow base e size v n xs) : (Builtin.append_ #[t, t] ty #[v, .slice none 0 c]).run prog w = .ok v w := by
 rcases hown.2 with ⟨rfl, rfl⟩ | ⟨g, cap, cur, rfl, _, _, hnc, _⟩
 · simp [Builtin.append_, run_underlying ht, sizeOf, typeInfo, hi, Builtin.lenOf, Builtin.firstCells]
 · simp [Builtin.append_, run_underlying ht, sizeOf, typeInfo, hi, Builtin.lenOf, Builtin.firstCells, hnc, storeCells]
theorem run_queue (ty : TypeId) {w : World} {B c : Nat} {v : Value} {fo kd : Fo} {A : Option Addr} (h : QS w B v fo) (hk : KidsAt w (fun g => g < B) kd A) (hl : fo.len + kd.len ≤ 1000000) (hB : B ≤ w.heap.size) :
   ∃ v' w', (Builtin.append_ #[29, 29] ty #[v, .slice A kd.len c]).run prog w = .ok v' w' ∧ QS w' B v' (fo.app kd) ∧ w.grownBy w' v.ownBlock ∧ (v'.ownBlock = v.ownBlock ∨ v'.ownBlock = some w.heap.size) := by
 obtain ⟨i0, hi0, hz0, hz1, hz2⟩ := info_parts node_info
 have hlo := h.lt
 obtain ⟨vs, hown, hvs⟩ := h
 have hkey : ∃ ws, RowV w (fun g => g < B) kd ws ∧ (ncells ws).length = kd.len * 10 ∧ (A = none → kd = .nil) ∧ ∀ a, A = some a → ∀ j u, (ncells ws)[j]? = some u → w.cell? (a.add j) = some u := by
   rcases hk with rfl | ⟨g, o, rfl, hr⟩
   · exact ⟨[], trivial, rfl, fun _ => rfl, fun a _ j u hj => by simp [ncells] at hj⟩
   · obtain ⟨ws, h1, h2, h3⟩ := rowV_of kd o hr
     exact ⟨ws, h1, h2, (fun e => by cases e), (fun a e j u hj => by cases e; rw [addr_add]; exact h3 j u hj)⟩
 obtain ⟨ws, hws, hlen, hnone, hcell⟩ := hkey
 cases A with
 | none =>
   obtain rfl := hnone rfl
   refine ⟨v, w, run_append_none0 B 29 ty 31 i0 10 c underlying29 hi0 v fo.len (ncells vs) hown, by rw [Fo.app_nil]; exact ⟨vs, hown, hvs⟩, ⟨rfl, rfl, rfl, Nat.le_refl _, fun _ _ _ => rfl⟩, Or.inl rfl⟩
 | some a =>
   obtain ⟨v', w', hr, h1, h2, -, h3⟩ := run_append_own_at (P := prog) w B 29 ty 31 i0 _ 10 112 underlying29 hi0 hz0 hz1 hz2 rfl (by omega) v fo.len (ncells vs) hown a kd.len c (ncells ws) hlen (hcell a rfl) (ncells_one kd ws hws) (by unfold maxLen; omega) (by omega) hB
   exact ⟨v', w', hr, QS.more hvs hws h1 h2 hlo, h2, h3⟩
theorem wpList_append_queue {ops : Array Oper} {rest : List Oper} {o : Oper} {a : Act} {Q : Exit → Act → World → Prop} (w : World) (hgd : o.guard = none) (s x : Operand) (ho : o.op = .call { callee := .builtin .append, args := #[s, x], argTypes := #[29, 29] })
   {B c : Nat} {v : Value} {fo kd : Fo} {A : Option Addr} (hs : a.eval s = v) (hx : a.eval x = .slice A kd.len c) (hq : QS w B v fo) (hk : KidsAt w (fun g => g < B) kd A) (hl : fo.len + kd.len ≤ 1000000) (hB : B ≤ w.heap.size)
   (h : ∀ v' w', QS w' B v' (fo.app kd) → w.grownBy w' v.ownBlock → (v'.ownBlock = v.ownBlock ∨ v'.ownBlock = some w.heap.size) → wpList prog ops Q rest (a.put o.dst v') w') :
   wpList prog ops Q (o :: rest) a w := by
 refine wpList_plain hgd fun K hK => ?_
 obtain ⟨v', w', hr, h2, h3, h4⟩ := run_queue o.type (c := c) hq hk hl hB
 unfold Oper.wp execOp
 simp only [ho, resolve, invoke, builtin, Sem.run_bind, Sem.run_pure, Result.andThen_ok, List.map_toArray, List.map_cons, List.map_nil, hs, hx, hr]
 exact hK _ _ (h v' w' h2 h3 h4)
theorem step_append_queue {ops : Array Oper} {o : Oper} {a : Act} {K : Act → World → Prop} {Q : Exit → Act → World → Prop} {E : Prop} (w : World) (hgd : o.guard = none) (s x : Operand) (ho : o.op = .call { callee := .builtin .append, args := #[s, x], argTypes := #[29, 29] })
   {B c : Nat} {v : Value} {fo kd : Fo} {A : Option Addr} (hs : a.eval s = v) (hx : a.eval x = .slice A kd.len c) (hq : QS w B v fo) (hk : KidsAt w (fun g => g < B) kd A) (hl : fo.len + kd.len ≤ 1000000) (hB : B ≤ w.heap.size)
   (h : ∀ v' w', QS w' B v' (fo.app kd) → w.grownBy w' v.ownBlock → (v'.ownBlock = v.ownBlock ∨ v'.ownBlock = some w.heap.size) → K (a.put o.dst v') w') :
   if Region.wanted o (yielded ops a.tmps) = true then Oper.wp prog o a w K Q else E := by
 have hw : Region.wanted o (yielded ops a.tmps) = true := by simp [Region.wanted, hgd]
 rw [if_pos hw]
 obtain ⟨v', w', hr, h2, h3, h4⟩ := run_queue o.type (c := c) hq hk hl hB
 unfold Oper.wp execOp
 simp only [ho, resolve, invoke, builtin, Sem.run_bind, Sem.run_pure, Result.andThen_ok, List.map_toArray, List.map_cons, List.map_nil, hs, hx, hr]
 exact h v' w' h2 h3 h4
theorem QS.grown {w w' : World} {B : Nat} {v : Value} {fo : Fo} {row : Option Nat} (h : QS w B v fo) (hg : w.grownBy w' row) (hr : ∀ k, row = some k → B ≤ k) (hne : v.ownBlock = none ∨ v.ownBlock ≠ row) (hB : B ≤ w.heap.size) : QS w' B v fo := by
 obtain ⟨vs, hown, hvs⟩ := h
 exact ⟨vs, hown.kept hg hne, RowV.same (fun g hg2 hl => ⟨hg.block g hl (fun e => by have := hr g e.symm; omega), hg2⟩) _ _ hvs⟩
def DOut (w wr : World) (D : Nat) (v : Value) (d : Nat) : Prop := ∃ row : Fo, QS wr w.heap.size v row ∧ Below w.heap.size w wr ∧ d + row.deep = D ∧ row.size ≤ 2000
def DIn (w wr : World) (row : Fo) (rv v : Value) (k : Nat) : Prop := ∃ nx : Fo, QS wr w.heap.size v nx ∧ QS wr w.heap.size rv row ∧ Below w.heap.size w wr ∧ (v.ownBlock = none ∨ v.ownBlock ≠ rv.ownBlock) ∧ nx.app (row.drop k).under = row.under
theorem DIn.step {w wr w' : World} {row : Fo} {rv v v' : Value} {k : Nat} {nx : Fo} (hk : k < row.len) (hn : QS w' w.heap.size v' (nx.app (row.nth k).kids)) (hR : QS wr w.heap.size rv row) (hB : Below w.heap.size w wr) (hne : v.ownBlock = none ∨ v.ownBlock ≠ rv.ownBlock) (hv : QS wr w.heap.size v nx) (he : nx.app (row.drop k).under = row.under)
   (hg : wr.grownBy w' v.ownBlock) (ha : v'.ownBlock = v.ownBlock ∨ v'.ownBlock = some wr.heap.size) : DIn w w' row rv v' (k + 1) := by
 have hlo := hv.lt
 have hlr := hR.lt
 refine ⟨_, hn, hR.grown hg (fun k hk => (hlo k hk).1) ?_ hB.size, below_grown hB hB.size hg (fun k hk => (hlo k hk).1), ?_, ?_⟩
 · rcases hne with hne | hne
   · right; intro e; rw [hne] at e
     obtain ⟨g, c, A2, c2, rfl, -⟩ := hR.nth k hk
     cases e
   · exact Or.inr fun e => hne e.symm
 · rcases ha with ha | ha
   · rw [ha]; exact hne
   · right; rw [ha]; intro e; have := (hlr _ e.symm).2; omega
 · rw [Fo.app_assoc, ← Fo.under_step row k hk]; exact he
theorem rDepth (a : Nd) (A : Option Addr) (c : Nat) (w : World) (hK : KidsAt w (fun g => g < w.heap.size) a.kids A) :
   Calls prog 32 #[.agg (jN a.f A a.kids.len c)] w fun e w' => e = .returned (.int .i64 ((if a.size ≤ 2000 then a.deep else 0 : Nat) : Int)) ∧ Below w.heap.size w w' := by
 have b1 : Below w.heap.size w (w.alloc (.cells (jN a.f A a.kids.len c) 31)) := (Below.refl _ _).alloc (Nat.le_refl _) _
 have L1 : NLoc (w.alloc (.cells (jN a.f A a.kids.len c) 31)) w.heap.size a.f A a.kids.len c := ⟨heap_alloc_new _ _⟩
 have HK1 := hid (below_row hK b1)
 have HK := hid hK
 generalize hD : (if a.size ≤ 2000 then a.deep else 0) = D
 have HD := hid hD.symm
 clear hD hK
 go_enter func32, ntmps32
 go_wp2_with fail
 generalize (w.alloc (.cells (jN a.f A a.kids.len c) 31)) = W1 at *
 refine (knodes 2000 2000 rfl (by decide) a A c W1 HK1.out).mono ?_; rintro e w2 ⟨r, rfl, hb2, hr1, hr2, hr3⟩
 have B2 : Below w.heap.size w w2 := b1.trans (hb2.mono b1.size)
 have L2 := L1.kept (Kept.of (x := W1.heap.size) hb2) (Nat.ne_of_lt L1.lt)
 clear L1 b1 HK1
 by_cases hs : a.size ≤ 2000
 · have hr : r ≤ 2000 := by have := hr1 hs; omega
   have E0 : Hid (D = a.deep) := hid (HD.out.trans (if_pos hs))
   have hdd : a.deep ≤ a.size := by have := Fo.deep_size a.kids; unfold Nd.deep Nd.size; omega
   have t1 : ¬ (2000 : Int) < (r : Int) := by omega
   obtain ⟨d0, d1, d2, d3, d4, d5, d6, d7, d8, d9, -⟩ := L2.cells
   have HB2 := hid B2
   have b3 : Below w.heap.size w (w2.alloc (.cells (jN a.f A a.kids.len c) 31)) := B2.alloc B2.size _
   have HQ : Hid (DOut w (w2.alloc (.cells (jN a.f A a.kids.len c) 31)) a.deep (.slice (some ⟨w2.heap.size, 0, none⟩) 1 1) 0) := hid ⟨a.one, QS.one (f := a.f) (kd := a.kids) (c := c) (heap_alloc_new _ _) B2.size rfl (kids_below HK.out b3 (Nat.le_refl _)), b3, by rw [Nd.one_deep]; omega, by rw [Nd.one_size]; exact hs⟩
   clear hr1 hr2 hr3 hb2 B2 b3 L2
   go_wp2_with fail
   go_loopw [3, 4, 5] (fun v dv iv wr => ∃ d : Nat, d ≤ 2000 ∧ dv = .int .i64 d ∧ iv = .int .i64 d ∧ Hid (DOut w wr a.deep v d)) (fun _ _ iv _ => 2001 - (intOf iv).toNat)
   case atStart => exact ⟨0, by omega, rfl, rfl, HQ⟩
   case round =>
     clear HQ HB2 d0 d1 d2 d3 d4 d5 d6 d7 d8 d9
     obtain ⟨d, hd, rfl, rfl, HR⟩ := hrel
     obtain ⟨row, hQ, hB, hde, hrs⟩ := HR.out
     clear HR
     have hrl : row.len ≤ 2000 := Nat.le_trans (Fo.len_size row) hrs
     obtain ⟨RA, rc, rfl⟩ := hQ.form
     by_cases h0 : 0 < row.len
     · have hdp := Fo.deep_pos h0
       have hd2 : d < 2000 := by omega
       have HIN : Hid (DIn w wr row (.slice RA row.len rc) (.slice none 0 0) 0) := hid ⟨.nil, QS.nil _ _, hQ, hB, Or.inl rfl, by rw [Fo.drop_zero]; rfl⟩
       have HDE := hid (show d + row.deep = a.deep ∧ row.size ≤ 2000 from ⟨hde, hrs⟩)
       clear hQ hB hde hrs
       go_wp2_with fail
       go_loopw [6, 7] (fun v iv W9 => ∃ k : Nat, k ≤ row.len ∧ iv = .int .i64 k ∧ Hid (DIn w W9 row (.slice RA row.len rc) v k)) (fun _ iv _ => row.len - (intOf iv).toNat)
       case atStart => exact ⟨0, Nat.zero_le _, rfl, HIN⟩
       case round =>
         clear HIN
         obtain ⟨k, hk, rfl, HR⟩ := hrel
         obtain ⟨nx, hN, hQ, hB, hne, he⟩ := HR.out
         clear HR
         by_cases hlt : k < row.len
         · have hd1 : (k : Int) < (row.len : Int) := by omega
           obtain ⟨g, c9, A2, c2, e9, hg0, hg1, hkid, f0, f1, f2, f3, f4, f5, f6, f7, f8, f9⟩ := hQ.nth k hlt
           injection e9 with e91 e92 e93
           subst e91 e93
           have HST := hid (show QS wr w.heap.size _ row ∧ Below w.heap.size w wr ∧ _ ∧ nx.app (row.drop k).under = row.under from ⟨hQ, hB, hne, he⟩)
           have HN := hid hN
           have HKD := hid hkid
           have hnl : nx.len + (row.nth k).kids.len ≤ 1000000 := by
             have h1 := congrArg Fo.len he
             rw [Fo.len_app, Fo.under_step row k hlt, Fo.len_app] at h1
             have h2 := Fo.len_size row.under
             have h3 := Fo.under_size row
             have h4 := HDE.out.2
             omega
           have hBs := hB.size
           have HN2 := hid hN
           clear hQ hB hne he hN hkid f0 f1 f2 f3 f4 f5 f6 f7 f8 hg0 hg1
           obtain ⟨NA, nc, rfl⟩ := HN2.out.form
           clear HN2
           go_wp2_with (at_builtin
                        refine wpList_append_queue _ rfl (.tmp 28) (.tmp 33) rfl (B := w.heap.size) (c := c2) (fo := nx) (kd := (row.nth k).kids) (A := A2) rfl rfl HN.out HKD.out hnl hBs ?_
                        intro v9 w9 hq9 hg9 hat9
                        have HD9 : Hid (DIn w w9 row _ v9 (k + 1)) := hid (DIn.step hlt hq9 HST.out.1 HST.out.2.1 HST.out.2.2.1 HN.out HST.out.2.2.2 hg9 hat9)
                        clear hq9 hg9 hat9)
           go_roundw
           case rel => exact ⟨k + 1, by omega, by go_num, HD9⟩
           case measure => simp [intOf]; omega
         · have hd1 : ¬ (k : Int) < (row.len : Int) := by omega
           have hnx : nx = row.under := by rw [← he, Fo.drop_len row k (by omega)]; exact (Fo.app_nil nx).symm
           subst hnx
           obtain ⟨NA, nc, rfl⟩ := hN.form
           have HO : Hid (DOut w wr a.deep _ (d + 1)) := hid ⟨row.under, hN, hB, by have h1 := HDE.out.1; have h2 := Fo.under_deep row; omega, by have h1 := HDE.out.2; have h2 := Fo.under_size row; omega⟩
           clear hN hQ hB hne he
           go_wp2_with fail
           go_roundw
           case rel => exact ⟨d + 1, by omega, by go_num, by go_num, HO⟩
           case measure => simp [intOf]; omega
     · have hz : row.len = 0 := by omega
       have h0' : ¬ 0 < row.len := h0
       have E1 : Hid (a.deep = d) := hid (by have := Fo.deep_nil hz; omega)
       have hB9 := hid hB
       clear hQ hB hde hrs
       go_wp2_with fail
       go_ret
       exact ⟨by show Ending.returned (.int .i64 (d : Int)) = _; rw [E0.out, E1.out], hB9.out⟩
 · have t1 : (2000 : Int) < (r : Int) := by have := hr2 (by omega); omega
   have E0 : Hid (D = 0) := hid (HD.out.trans (if_neg hs))
   have HB2 := hid B2
   clear hr1 hr2 hr3 hb2 B2 L2
   go_wp2_with fail
   go_ret
   exact ⟨by rw [E0.out]; rfl, HB2.out⟩
end Go.Proofs.YticehalcnbjccaaGreatDoor.TreeC
namespace Go.Proofs.YticehalcnbjccaaGreatDoor.TreeC
set_option maxRecDepth 100000
set_option maxHeartbeats 8000000
set_option linter.unusedVariables false
open Go.RowKit NumC LexC
def Fo.Short : Fo → Prop
 | .nil => True
 | .cons f k n => (f.vs.size ≤ 1000 ∧ f.op.size ≤ 100) ∧ k.Short ∧ n.Short
theorem Fo.short_app (x y : Fo) : (x.app y).Short ↔ x.Short ∧ y.Short := by
 induction x with
 | nil => simp [Fo.app, Fo.Short]
 | cons f k n _ ih => simp only [Fo.app, Fo.Short, ih]; constructor <;> (rintro ⟨h1, h2⟩; simp_all)
end Go.Proofs.YticehalcnbjccaaGreatDoor.TreeC
