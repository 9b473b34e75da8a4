/-
  Contracts of tree's code: unary, power.
-/
import Derived.Test.YtkdgiadpmfpjnaaGreatDoorMP4
import Derived.Deep.RegionWith
namespace Go.Proofs.YtkdgiadpmfpjnaaGreatDoor.TreeC
set_option linter.unusedVariables false
open Go.RowKit Go.Proofs.YtkdgiadpmfpjnaaGreatDoor.NumC Go.Proofs.YtkdgiadpmfpjnaaGreatDoor.LexC

theorem Pc.drew1 {w : World} {x k : Nat} {l : List Tok} {en nest : Int} (h : Pc w x l en k nest) : Pc w.drew x l en k nest := ⟨h.le, fun w2 hb => h.lib w2 ⟨hb.os, hb.tape, hb.output, hb.size, hb.block⟩, h.ex⟩
theorem NLoc.drew2 {w : World} {b n c : Nat} {f : Fld} {A : Option Addr} (h : NLoc w b f A n c) : NLoc w.drew b f A n c := ⟨h.at_⟩
theorem Kept.drew2 {x : Nat} {a w : World} (h : Kept x a w) : Kept x a w.drew := ⟨h.os, h.tape, h.output, h.size, h.block⟩
theorem neg_fin {P : Nat → Prop} {x b k' n c pb : Nat} {l : List Tok} {en nest : Int} {f : Fld} {A : Option Addr} {ka : Fo} {o : Out} {w V W : World} (ho : o = .ok (negN ⟨f, ka⟩, k')) (hK : Kept x w V) (hP : Pc V x l en k' nest)
    (hn : ka.len = n) (hA : KidsAt V (fun g => P g ∧ g ≠ b) ka A) (hpb : P pb ∧ pb ≠ b) (hb : w.heap.size ≤ b) (hx : x < w.heap.size) (hk : Kept b V W)
    (hr : W.heap[pb]? = some (.cells (nodeV f A n c).cells 31 (0, 0))) :
    CPostP P x l en nest o w (.returned (.tuple #[nodeV (negN ⟨f, ka⟩).f (some ⟨pb, 0, none⟩) 1 1, .nilIface])) W := by
  have hA' := hA.keep (Q := fun g => P g ∧ g ≠ b) hk (fun g hg _ => ⟨hg.2, hg⟩)
  refine CPost.ok (b := b) (V := W) (kd := Nd.one ⟨f, ka⟩) ho (hK.then_ hk hb) (hP.kept hk (by omega)) rfl (Or.inr ⟨pb, 0, rfl, rowAt_block hpb (vs := [nodeV f A n c]) ⟨⟨A, c, by rw [hn], hA'⟩, trivial⟩ hr ?_⟩) hb hx (Kept.refl _ _)
  rfl
set_option maxRecDepth 100000 in
set_option maxHeartbeats 4000000 in
theorem cunary {x k : Nat} {l : List Tok} {en nest : Int} {L : Lev} {into : Bool} (E : Env x l en nest L into) (w : World) (h : Pc w x l en k nest) :
    Calls Tryz.prog 121 #[.pointer (some ⟨x, 0, none⟩)] w (CPost w.heap.size x l en nest (unaryF l en L into k) w) := by
  have hxw := h.lt
  have HI := Lib.hid h
  clear h
  have HE := Lib.hid E
  have hl := E.hl
  clear E
  have ne1 : x ≠ w.heap.size := by omega
  have ne2 : w.heap.size ≠ x := by omega
  have K1 : Kept x w (w.alloc (.cells #[.int .i64 0, .int .i64 0, .int .i64 0, .string { data := #[] }, .int .i64 0, .int .i64 0, .int .i64 0, .int .i64 0, .string { data := #[] }, .slice none 0 0] 31)) := (Kept.refl x w).alloc _
  have X1 := NBox.new w
  have P1 := Lib.hid (HI.out.alloc (.cells #[.int .i64 0, .int .i64 0, .int .i64 0, .string { data := #[] }, .int .i64 0, .int .i64 0, .int .i64 0, .int .i64 0, .string { data := #[] }, .slice none 0 0] 31))
  clear HI
  have B45 : Hid (({ data := #[45] } : ByteArray) = str [45]) := Lib.hid rfl
  have egu : ∀ args w, (callFunc 121 args).run Tryz.prog w = .ok (.enter 121 args) w := enters_of Tryz.func121 (by kernel_rfl) rfl
  have HEGu := Lib.hid egu
  clear egu
  go_enter Tryz.func121, Tryz.ntmps121
  go_wp2_with fail
  generalize (w.alloc (.cells #[.int .i64 0, .int .i64 0, .int .i64 0, .string { data := #[] }, .int .i64 0, .int .i64 0, .int .i64 0, .int .i64 0, .string { data := #[] }, .slice none 0 0] 31)) = W1 at *
  rw [B45.out]
  refine (cseesSign [45] W1 P1.out hl).mono ?_; rintro e w2 ⟨rfl, hb2⟩
  have k2 : Kept x W1 w2 := Kept.of hb2
  have K2 := K1.trans k2
  have X2 := X1.kept k2 ne2
  have P2 := Lib.hid (P1.out.below hb2)
  clear K1 X1 P1 hb2 k2
  cases hs : isSign l k [45] with
  | false =>
    have EO : Hid (unaryF l en L into k = partF l en L into k) := Lib.hid (unary_no hs)
    go_wp2_with fail
    refine (cpart HE.out w2 P2.out).mono ?_
    rintro e w6 ⟨f, A, m, c, er, rfl, k6, hp6⟩
    have X6 := X2.kept k6 ne2
    have K6 := K2.trans k6
    rw [← EO.out] at hp6
    have HP := Lib.hid hp6
    have lt6 := X2.lt
    have lt7 := X6.lt
    clear hp6
    unfold nodeV
    obtain ⟨f0, f1, f2, f3, f4, f5, f6, f7, f8, f9, z0, z1, z2, z3, z4, z5, z6, z7, z8, z9⟩ := (X6).cells
    go_wp2_with fail
    refine bodyPost_ret (v := .tuple #[.agg #[.int .i64 f.k, .int .i64 f.vk, .int .i64 f.vn, .string f.vs, .int .i64 f.r1, .int .i64 f.r2, .int .i64 f.r3, .int .i64 f.r4, .string f.op, .slice A m c], er]) (by simp [results, Tryz.results121, go_sem, f0, f1, f2, f3, f4, f5, f6, f7, f8, f9]) rfl (CPost.on (f := f) (A := A) (m := m) (c := c) (b := w.heap.size) HP.out K6 (by omega) lt6 (Nat.le_refl _) hxw ?_)
    repeat (first | with_reducible exact Kept.refl _ _ | with_reducible refine Kept.setCell ?_ _ _ | with_reducible refine Kept.alloc ?_ _)
  | true =>
    have hlt := sign_lt hs
    go_wp2_with fail
    refine (ctake w2 P2.out hlt).mono ?_; rintro e w4 ⟨rfl, P4, k4⟩
    have X4 := X2.kept k4 ne2
    have K4 := K2.trans k4
    clear X2 K2 P2 k4
    go_wp2_with fail
    refine (cnested 121 #[.pointer (some ⟨x, 0, none⟩)] w4 P4.lt).mono ?_; rintro e w5 ⟨b1, b2, rfl, hb5, hc1, hc2, hx1, hx2, hs1, hs2⟩
    have k5 : Kept x w4 w5 := Kept.of hb5
    have X5 := X4.kept k5 ne2
    have K5 := K4.trans k5
    have P5 := P4.below hb5
    clear X4 K4 P4 hb5 k5
    go_wp2_with fail
    refine (cnested1 (F := L.un) HEGu.out w5 P5 HE.out.hn0 HE.out.hn1 hc1 hc2 (by omega) (by omega) (fun hin w2 hk2 hp2 => (HE.out.hc hin).un _ w2 hp2)).mono ?_
    clear hc1 hc2 hx1 hx2 hs1 hs2
    rintro e w6 ⟨f, A, m, c, er, rfl, k6, hp6⟩
    have X6 := X5.kept k6 ne2
    have K6 := K5.trans k6
    have lt5 := X5.lt
    have lt3 := X6.lt
    have hx6 : x < w6.heap.size := by omega
    have na1 : x ≠ w6.heap.size := by omega
    have na2 : w6.heap.size ≠ x := by omega
    have na4 : w.heap.size ≠ w6.heap.size := by omega
    have na5 : w6.heap.size ≠ w.heap.size := by omega
    clear X5 K5 P5 k6
    unfold nodeV
    obtain ⟨f0, f1, f2, f3, f4, f5, f6, f7, f8, f9, z0, z1, z2, z3, z4, z5, z6, z7, z8, z9⟩ := (X6).cells
    rcases hp6 with ⟨kd, k', ho, rfl, hn, hA, hP⟩ | ⟨bad, k', ho, hi, rfl, hP⟩
    · have hin : nest < 40 := by
        by_cases h : nest < 40
        · exact h
        · rw [if_neg h] at ho; cases ho
      rw [if_pos hin] at ho
      have EO := Lib.hid (unary_ok (l := l) (n := en) (L := L) (into := into) hs (by rw [HE.out.hi]; exact decide_eq_true hin) ho)
      clear ho
      go_wp2_with fail
      refine bodyPost_ret (v := .tuple #[.agg #[.int .i64 4, .int .i64 0, .int .i64 0, .string { data := #[] }, .int .i64 0, .int .i64 0, .int .i64 0, .int .i64 0, .string { data := #[] }, .slice (some ⟨w6.heap.size + 1, 0, none⟩) 1 1], .nilIface]) (by simp [results, Tryz.results121, go_sem, f0, f1, f2, f3, f4, f5, f6, f7, f8, f9, lt3]) rfl (neg_fin (c := c) (b := w.heap.size) EO.out K6 hP hn (hA.keep (Q := fun g => w.heap.size ≤ g ∧ g ≠ w.heap.size) (Kept.refl w6.heap.size w6) (fun g hg hl => ⟨by omega, by omega, by omega⟩)) ⟨by omega, by omega⟩ (Nat.le_refl _) hxw ?_ (by rw [row_at2 _ _ _ (show _ = w6.heap.size by simp)]; rfl))
      repeat (first | with_reducible exact Kept.refl _ _ | with_reducible refine Kept.setCell ?_ _ _ | with_reducible refine Kept.alloc ?_ _)
    · obtain ⟨T, u, hT⟩ := errV_some bad
      have EO : Hid (unaryF l en L into k = .error bad) := by
        by_cases hin : nest < 40
        · rw [if_pos hin] at ho
          exact Lib.hid (unary_err hs (by rw [HE.out.hi]; exact decide_eq_true hin) ho)
        · rw [if_neg hin] at ho
          injection ho with ho
          subst ho
          exact Lib.hid (unary_deep hs (by rw [HE.out.hi]; exact decide_eq_false hin))
      clear ho
      rw [hT]
      go_wp2_with fail
      refine bodyPost_ret (v := .tuple #[.agg #[.int .i64 0, .int .i64 0, .int .i64 0, .string { data := #[] }, .int .i64 0, .int .i64 0, .int .i64 0, .int .i64 0, .string { data := #[] }, .slice none 0 0], .iface T u]) (by simp [results, Tryz.results121, go_sem, f0, f1, f2, f3, f4, f5, f6, f7, f8, f9, lt3]) rfl (hT ▸ CPost.err (f := fld0) (A := none) (m := 0) (c := 0) (b := w.heap.size) (V := w6) EO.out hi K6 hP (Nat.le_refl _) hxw ?_)
      repeat (first | with_reducible exact Kept.refl _ _ | with_reducible refine Kept.setCell ?_ _ _ | with_reducible refine Kept.alloc ?_ _)

set_option maxRecDepth 100000 in
set_option maxHeartbeats 4000000 in
theorem cpower {x k : Nat} {l : List Tok} {en nest : Int} {L : Lev} {into : Bool} (E : Env x l en nest L into) (w : World) (h : Pc w x l en k nest) :
    Calls Tryz.prog 110 #[.pointer (some ⟨x, 0, none⟩)] w (CPost w.heap.size x l en nest (powerF l en L into k) w) := by
  have hxw := h.lt
  have HI := Lib.hid h
  clear h
  have HE := Lib.hid E
  have hl := E.hl
  clear E
  have ne1 : x ≠ w.heap.size := by omega
  have ne2 : w.heap.size ≠ x := by omega
  have K1 : Kept x w (w.alloc (.cells #[.int .i64 0, .int .i64 0, .int .i64 0, .string { data := #[] }, .int .i64 0, .int .i64 0, .int .i64 0, .int .i64 0, .string { data := #[] }, .slice none 0 0] 31)) := (Kept.refl x w).alloc _
  have X1 := NBox.new w
  have P1 := Lib.hid (HI.out.alloc (.cells #[.int .i64 0, .int .i64 0, .int .i64 0, .string { data := #[] }, .int .i64 0, .int .i64 0, .int .i64 0, .int .i64 0, .string { data := #[] }, .slice none 0 0] 31))
  clear HI
  have egn : ∀ args w, (callFunc 134 args).run Tryz.prog w = .ok (.enter 134 args) w := enters_of Tryz.func134 (by kernel_rfl) rfl
  have HEGn := Lib.hid egn
  clear egn
  have egp : ∀ args w, (callFunc 110 args).run Tryz.prog w = .ok (.enter 110 args) w := enters_of Tryz.func110 (by kernel_rfl) rfl
  have HEGp := Lib.hid egp
  clear egp
  go_enter Tryz.func110, Tryz.ntmps110
  go_wp2_with fail
  generalize (w.alloc (.cells #[.int .i64 0, .int .i64 0, .int .i64 0, .string { data := #[] }, .int .i64 0, .int .i64 0, .int .i64 0, .int .i64 0, .string { data := #[] }, .slice none 0 0] 31)) = W1 at *
  refine (cunary HE.out W1 P1.out).mono ?_
  have lt1 := X1.lt
  rintro e w3 ⟨f, A, m, c, er, rfl, k3, hp3⟩
  have X3 := X1.kept k3 ne2
  have K3 := K1.trans k3
  have lt3 := X3.lt
  have hx3 : x < w3.heap.size := by have := k3.size; omega
  have na1 : x ≠ w3.heap.size := by omega
  have na2 : w3.heap.size ≠ x := by omega
  have na4 : w.heap.size ≠ w3.heap.size := by omega
  have na5 : w3.heap.size ≠ w.heap.size := by omega
  clear K1 X1 P1 k3
  unfold nodeV
  rcases hp3 with ⟨kd, k', ho, rfl, hn, hA, hP⟩ | ⟨bad, k2, ho, hi, rfl, hP⟩
  · have HO := Lib.hid ho
    clear ho
    have L4 : NLoc (w3.alloc (.cells #[.int .i64 f.k, .int .i64 f.vk, .int .i64 f.vn, .string f.vs, .int .i64 f.r1, .int .i64 f.r2, .int .i64 f.r3, .int .i64 f.r4, .string f.op, .slice A m c] 31)) w3.heap.size f A m c := ⟨heap_alloc_new _ _⟩
    have X4 := X3.kept ((Kept.refl x w3).alloc (.cells #[.int .i64 f.k, .int .i64 f.vk, .int .i64 f.vn, .string f.vs, .int .i64 f.r1, .int .i64 f.r2, .int .i64 f.r3, .int .i64 f.r4, .string f.op, .slice A m c] 31)) ne2
    have K4 := K3.alloc (.cells #[.int .i64 f.k, .int .i64 f.vk, .int .i64 f.vn, .string f.vs, .int .i64 f.r1, .int .i64 f.r2, .int .i64 f.r3, .int .i64 f.r4, .string f.op, .slice A m c] 31)
    have P4 := Lib.hid (hP.alloc (.cells #[.int .i64 f.k, .int .i64 f.vk, .int .i64 f.vn, .string f.vs, .int .i64 f.r1, .int .i64 f.r2, .int .i64 f.r3, .int .i64 f.r4, .string f.op, .slice A m c] 31))
    have A4 := hA.keep (Q := fun g => w.heap.size < g ∧ g ≠ w3.heap.size) ((Kept.refl x w3).alloc (.cells #[.int .i64 f.k, .int .i64 f.vk, .int .i64 f.vn, .string f.vs, .int .i64 f.r1, .int .i64 f.r2, .int .i64 f.r3, .int .i64 f.r4, .string f.op, .slice A m c] 31)) (fun g hg hl => ⟨by omega, by omega, by omega⟩)
    clear hP hA X3 K3
    go_wp2_with fail
    generalize (w3.alloc (.cells #[.int .i64 f.k, .int .i64 f.vk, .int .i64 f.vn, .string f.vs, .int .i64 f.r1, .int .i64 f.r2, .int .i64 f.r3, .int .i64 f.r4, .string f.op, .slice A m c] 31)) = V at *
    refine (csees_isPower V P4.out hl).mono ?_; rintro e w5 ⟨rfl, hb5⟩
    rw [one_pow]
    have k5 : Kept x V w5 := Kept.of hb5
    have X5 := X4.kept k5 ne2
    have K5 := K4.trans k5
    have P5 := Lib.hid (P4.out.below hb5)
    have L5 := L4.kept k5 na2
    have A5 := A4.keep (Q := fun g => w.heap.size < g ∧ g ≠ w3.heap.size) k5 (fun g hg hl => ⟨by omega, hg⟩)
    have s5 := L5.lt
    have t5 := X5.lt
    clear X4 K4 P4 L4 A4 hb5 k5
    cases hs : isSign l k' [94] with
    | false =>
      have EO := Lib.hid (power_one HO.out hs)
      obtain ⟨d0, d1, d2, d3, d4, d5, d6, d7, d8, d9, dz0, dz1, dz2, dz3, dz4, dz5, dz6, dz7, dz8, dz9⟩ := (L5).cells
      obtain ⟨f0, f1, f2, f3, f4, f5, f6, f7, f8, f9, z0, z1, z2, z3, z4, z5, z6, z7, z8, z9⟩ := (X5).cells
      go_wp2_with fail
      refine bodyPost_ret (v := .tuple #[.agg #[.int .i64 f.k, .int .i64 f.vk, .int .i64 f.vn, .string f.vs, .int .i64 f.r1, .int .i64 f.r2, .int .i64 f.r3, .int .i64 f.r4, .string f.op, .slice A m c], .nilIface]) (by simp [results, Tryz.results110, go_sem, f0, f1, f2, f3, f4, f5, f6, f7, f8, f9]) rfl (CPost.ok (f := f) (A := A) (m := m) (c := c) (b := w.heap.size) (V := w5) EO.out K5 P5.out hn (A5.keep (Q := fun g => w.heap.size ≤ g ∧ g ≠ w.heap.size) (Kept.refl w5.heap.size w5) (fun g hg hl => ⟨by omega, by omega, by omega⟩)) (Nat.le_refl _) hxw ?_)
      repeat (first | with_reducible exact Kept.refl _ _ | with_reducible refine Kept.setCell ?_ _ _ | with_reducible refine Kept.alloc ?_ _)
    | true =>
      obtain ⟨t, ht, hop⟩ : ∃ t, l[k']? = some t ∧ t.s = str [94] := by
        unfold isSign at hs
        split at hs
        · rename_i t ht; simp only [Bool.and_eq_true, decide_eq_true_eq] at hs; exact ⟨t, ht, hs.2⟩
        · cases hs
      have HT := Lib.hid ht
      have HS := Lib.hid hs
      have P6 := Lib.hid P5.out.drew1
      have L6 := L5.drew2
      have X6 := X5.kept ((Kept.refl x w5).drew 1) ne2
      have K6 := Lib.hid K5.drew2
      have A6 := A5.keep (Q := fun g => w.heap.size < g ∧ g ≠ w3.heap.size) ((Kept.refl x w5).drew2) (fun g hg hl => ⟨by omega, hg⟩)
      have s6 : w3.heap.size < w5.drew.heap.size := s5
      have hx6 : x < w5.drew.heap.size := P6.out.lt
      have HA6 := Lib.hid A6
      have HX6 : Hid (NBox w5.drew w.heap.size) := Lib.hid X6
      have HN := Lib.hid hn
      clear ht hs P5 K5 A5 A6 X5 X6 hn
      go_wp2_with fail
      obtain ⟨a0, a1, a2, a3, a4, a5, a6, a7, a8, a9, az0, az1, az2, az3, az4, az5, az6, az7, az8, az9⟩ := (L6).cells
      clear az0 az1 az2 az3 az4 az5 az6 az7 az8 az9
      clear L5
      go_region_with (first | (go_at_call 122; refine (cnested 110 #[.pointer (some ⟨x, 0, none⟩)] w5.drew hx6).mono ?_; rintro e w7 ⟨b1, b2, rfl, hb7, hc1, hc2, hx1, hx2, hs1, hs2⟩; have L7 := L6.kept (Kept.of (x := x) hb7) na2; obtain ⟨e0, e1, e2, e3, e4, e5, e6, e7, e8, e9, ez0, ez1, ez2, ez3, ez4, ez5, ez6, ez7, ez8, ez9⟩ := (L7).cells; clear ez0 ez1 ez2 ez3 ez4 ez5 ez6 ez7 ez8 ez9) | (go_at_call 63; refine (cbinary (P := fun g => w.heap.size < g ∧ g ≠ w3.heap.size) (F := fun k => if nest < 40 then L.pw k else .error deepE) (op := [94]) (f := f) (A := A) (m := m) (c := c) (kd := kd) (pre := #[]) (post := #[.pointer (some ⟨b1, 0, none⟩), .pointer (some ⟨b2, 0, none⟩)]) HEGn.out w7 (P6.out.below hb7) hl HT.out hop (HA6.out.keep (Kept.of (x := x) hb7) (fun g hg hl => ⟨by omega, hg⟩)) HN.out (fun g hg => by omega) (fun w' hk hp => cnested1 (F := L.pw) HEGp.out w' hp HE.out.hn0 HE.out.hn1 (hk.cell (by omega) hc1) (hk.cell (by omega) hc2) (by omega) (by omega) (fun hin w2 hk2 hp2 => (HE.out.hc hin).pw _ w2 hp2))).mono ?_; rintro e w8 ⟨fw, A8, m8, c8, er8, rfl, k8, hp8⟩; have X8 := (HX6.out.kept (Kept.of (x := x) hb7) ne2).kept k8 ne2; obtain ⟨f0, f1, f2, f3, f4, f5, f6, f7, f8, f9, z0, z1, z2, z3, z4, z5, z6, z7, z8, z9⟩ := (X8).cells; unfold nodeV))
      all_goals
        have K8 : Kept x w w8 := (K6.out.trans (Kept.of hb7)).trans k8
        have l7 : w3.heap.size < w7.heap.size := L7.lt
        have EO : Hid (powerF l en L into k = binF [94] ⟨f, kd⟩ (if nest < 40 then L.pw (k' + 1) else .error deepE)) := by
          by_cases hin : nest < 40
          · rw [if_pos hin]
            cases hq : L.pw (k' + 1) with
            | error e => exact Lib.hid (power_bad HO.out HS.out (by rw [HE.out.hi]; exact decide_eq_true hin) hq)
            | ok q => exact Lib.hid (power_ok HO.out HS.out (by rw [HE.out.hi]; exact decide_eq_true hin) hq)
          · rw [if_neg hin]
            exact Lib.hid (power_deep HO.out HS.out (by rw [HE.out.hi]; exact decide_eq_false hin))
        go_wp2_with fail
        refine bodyPost_ret (v := .tuple #[.agg #[.int .i64 fw.k, .int .i64 fw.vk, .int .i64 fw.vn, .string fw.vs, .int .i64 fw.r1, .int .i64 fw.r2, .int .i64 fw.r3, .int .i64 fw.r4, .string fw.op, .slice A8 m8 c8], er8]) (by simp [results, Tryz.results110, go_sem, f0, f1, f2, f3, f4, f5, f6, f7, f8, f9]) rfl ?_
        rcases hp8 with ⟨kd2, k2, hq, rfl, hn2, hA2, hP2⟩ | ⟨bad, k2, hq, hi, rfl, hP2⟩
        · refine CPost.ok (f := fw) (kd := kd2) (A := A8) (m := m8) (c := c8) (b := w.heap.size) (V := w8) (EO.out.trans hq) K8 hP2 hn2 (hA2.keep (Q := fun g => w.heap.size ≤ g ∧ g ≠ w.heap.size) (Kept.refl w8.heap.size w8) (fun g hg hl => ⟨by omega, by omega, by omega⟩)) (Nat.le_refl _) hxw ?_
          repeat (first | with_reducible exact Kept.refl _ _ | with_reducible refine Kept.setCell ?_ _ _ | with_reducible refine Kept.alloc ?_ _)
        · refine CPost.err (f := fw) (A := A8) (m := m8) (c := c8) (b := w.heap.size) (V := w8) (EO.out.trans hq) hi K8 hP2 (Nat.le_refl _) hxw ?_
          repeat (first | with_reducible exact Kept.refl _ _ | with_reducible refine Kept.setCell ?_ _ _ | with_reducible refine Kept.alloc ?_ _)
  · obtain ⟨T, u, hT⟩ := errV_some bad
    have EO := Lib.hid (power_err ho)
    have P3 := Lib.hid hP
    clear ho hP
    rw [hT]
    obtain ⟨f0, f1, f2, f3, f4, f5, f6, f7, f8, f9, z0, z1, z2, z3, z4, z5, z6, z7, z8, z9⟩ := (X3).cells
    go_wp2_with fail
    refine bodyPost_ret (v := .tuple #[.agg #[.int .i64 f.k, .int .i64 f.vk, .int .i64 f.vn, .string f.vs, .int .i64 f.r1, .int .i64 f.r2, .int .i64 f.r3, .int .i64 f.r4, .string f.op, .slice A m c], .iface T u]) (by simp [results, Tryz.results110, go_sem, f0, f1, f2, f3, f4, f5, f6, f7, f8, f9, lt3]) rfl (hT ▸ CPost.err (f := f) (A := A) (m := m) (c := c) (b := w.heap.size) (V := w3) EO.out hi K3 P3.out (Nat.le_refl _) hxw ?_)
    repeat (first | with_reducible exact Kept.refl _ _ | with_reducible refine Kept.setCell ?_ _ _ | with_reducible refine Kept.alloc ?_ _)


end Go.Proofs.YtkdgiadpmfpjnaaGreatDoor.TreeC

/-
  Contracts of tree's code: product, sum, formula; all of them at each nesting.
-/
namespace Go.Proofs.YtkdgiadpmfpjnaaGreatDoor.TreeC
set_option linter.unusedVariables false
open Go.RowKit Go.Proofs.YtkdgiadpmfpjnaaGreatDoor.NumC Go.Proofs.YtkdgiadpmfpjnaaGreatDoor.LexC

theorem product_rows (l : List Tok) (n : Int) (L : Lev) (into : Bool) (k : Nat) : productF l n L into k = rowsF l mulS (powerF l n L into) k := rfl
theorem sum_rows (l : List Tok) (n : Int) (L : Lev) (into : Bool) (k : Nat) : sumF l n L into k = rowsF l sumS (productF l n L into) k := rfl
set_option maxRecDepth 100000 in
set_option maxHeartbeats 4000000 in
theorem cproduct {x k : Nat} {l : List Tok} {en nest : Int} {L : Lev} {into : Bool} (E : Env x l en nest L into) (w : World) (h : Pc w x l en k nest) :
    Calls Tryz.prog 91 #[.pointer (some ⟨x, 0, none⟩)] w (CPost w.heap.size x l en nest (productF l en L into k) w) := by
  have hxw := h.lt
  have HI := Lib.hid h
  clear h
  have HE := Lib.hid E
  have hl := E.hl
  clear E
  have ne1 : x ≠ w.heap.size := by omega
  have ne2 : w.heap.size ≠ x := by omega
  have K1 : Kept x w (w.alloc (.cells #[.int .i64 0, .int .i64 0, .int .i64 0, .string { data := #[] }, .int .i64 0, .int .i64 0, .int .i64 0, .int .i64 0, .string { data := #[] }, .slice none 0 0] 31)) := (Kept.refl x w).alloc _
  have X1 := NBox.new w
  have P1 := Lib.hid (HI.out.alloc (.cells #[.int .i64 0, .int .i64 0, .int .i64 0, .string { data := #[] }, .int .i64 0, .int .i64 0, .int .i64 0, .int .i64 0, .string { data := #[] }, .slice none 0 0] 31))
  clear HI
  have egp : ∀ args w, (callFunc 110 args).run Tryz.prog w = .ok (.enter 110 args) w := enters_of Tryz.func110 (by kernel_rfl) rfl
  have HEGp := Lib.hid egp
  clear egp
  go_enter Tryz.func91, Tryz.ntmps91
  go_wp2_with fail
  generalize (w.alloc (.cells #[.int .i64 0, .int .i64 0, .int .i64 0, .string { data := #[] }, .int .i64 0, .int .i64 0, .int .i64 0, .int .i64 0, .string { data := #[] }, .slice none 0 0] 31)) = W1 at *
  refine (crow_isMultiplying (F := powerF l en L into) HEGp.out W1 P1.out hl (power_goes HE.out.hL) (fun k w' hk hp => cpower HE.out w' hp)).mono ?_
  rintro e w6 ⟨f, A, m, c, er, rfl, k6, hp6⟩
  have X6 := X1.kept k6 ne2
  have K6 := K1.trans k6
  rw [← product_rows] at hp6
  have HP := Lib.hid hp6
  have lt6 := X1.lt
  have lt7 := X6.lt
  clear hp6
  unfold nodeV
  obtain ⟨f0, f1, f2, f3, f4, f5, f6, f7, f8, f9, z0, z1, z2, z3, z4, z5, z6, z7, z8, z9⟩ := (X6).cells
  go_wp2_with fail
  refine bodyPost_ret (v := .tuple #[.agg #[.int .i64 f.k, .int .i64 f.vk, .int .i64 f.vn, .string f.vs, .int .i64 f.r1, .int .i64 f.r2, .int .i64 f.r3, .int .i64 f.r4, .string f.op, .slice A m c], er]) (by simp [results, Tryz.results91, go_sem, f0, f1, f2, f3, f4, f5, f6, f7, f8, f9]) rfl (CPost.on (f := f) (A := A) (m := m) (c := c) (b := w.heap.size) HP.out K6 (by omega) lt6 (Nat.le_refl _) hxw ?_)
  repeat (first | with_reducible exact Kept.refl _ _ | with_reducible refine Kept.setCell ?_ _ _ | with_reducible refine Kept.alloc ?_ _)

set_option maxRecDepth 100000 in
set_option maxHeartbeats 4000000 in
theorem csum {x k : Nat} {l : List Tok} {en nest : Int} {L : Lev} {into : Bool} (E : Env x l en nest L into) (w : World) (h : Pc w x l en k nest) :
    Calls Tryz.prog 60 #[.pointer (some ⟨x, 0, none⟩)] w (CPost w.heap.size x l en nest (sumF l en L into k) w) := by
  have hxw := h.lt
  have HI := Lib.hid h
  clear h
  have HE := Lib.hid E
  have hl := E.hl
  clear E
  have ne1 : x ≠ w.heap.size := by omega
  have ne2 : w.heap.size ≠ x := by omega
  have K1 : Kept x w (w.alloc (.cells #[.int .i64 0, .int .i64 0, .int .i64 0, .string { data := #[] }, .int .i64 0, .int .i64 0, .int .i64 0, .int .i64 0, .string { data := #[] }, .slice none 0 0] 31)) := (Kept.refl x w).alloc _
  have X1 := NBox.new w
  have P1 := Lib.hid (HI.out.alloc (.cells #[.int .i64 0, .int .i64 0, .int .i64 0, .string { data := #[] }, .int .i64 0, .int .i64 0, .int .i64 0, .int .i64 0, .string { data := #[] }, .slice none 0 0] 31))
  clear HI
  have egp : ∀ args w, (callFunc 91 args).run Tryz.prog w = .ok (.enter 91 args) w := enters_of Tryz.func91 (by kernel_rfl) rfl
  have HEGp := Lib.hid egp
  clear egp
  go_enter Tryz.func60, Tryz.ntmps60
  go_wp2_with fail
  generalize (w.alloc (.cells #[.int .i64 0, .int .i64 0, .int .i64 0, .string { data := #[] }, .int .i64 0, .int .i64 0, .int .i64 0, .int .i64 0, .string { data := #[] }, .slice none 0 0] 31)) = W1 at *
  refine (crow_isAdding (F := productF l en L into) HEGp.out W1 P1.out hl (product_goes HE.out.hL) (fun k w' hk hp => cproduct HE.out w' hp)).mono ?_
  rintro e w6 ⟨f, A, m, c, er, rfl, k6, hp6⟩
  have X6 := X1.kept k6 ne2
  have K6 := K1.trans k6
  rw [← sum_rows] at hp6
  have HP := Lib.hid hp6
  have lt6 := X1.lt
  have lt7 := X6.lt
  clear hp6
  unfold nodeV
  obtain ⟨f0, f1, f2, f3, f4, f5, f6, f7, f8, f9, z0, z1, z2, z3, z4, z5, z6, z7, z8, z9⟩ := (X6).cells
  go_wp2_with fail
  refine bodyPost_ret (v := .tuple #[.agg #[.int .i64 f.k, .int .i64 f.vk, .int .i64 f.vn, .string f.vs, .int .i64 f.r1, .int .i64 f.r2, .int .i64 f.r3, .int .i64 f.r4, .string f.op, .slice A m c], er]) (by simp [results, Tryz.results60, go_sem, f0, f1, f2, f3, f4, f5, f6, f7, f8, f9]) rfl (CPost.on (f := f) (A := A) (m := m) (c := c) (b := w.heap.size) HP.out K6 (by omega) lt6 (Nat.le_refl _) hxw ?_)
  repeat (first | with_reducible exact Kept.refl _ _ | with_reducible refine Kept.setCell ?_ _ _ | with_reducible refine Kept.alloc ?_ _)

set_option maxRecDepth 100000 in
set_option maxHeartbeats 4000000 in
theorem cformula {x k : Nat} {l : List Tok} {en nest : Int} {L : Lev} {into : Bool} (E : Env x l en nest L into) (w : World) (h : Pc w x l en k nest) :
    Calls Tryz.prog 36 #[.pointer (some ⟨x, 0, none⟩)] w (CPost w.heap.size x l en nest (formulaF l en L into k) w) := by
  have hxw := h.lt
  have HI := Lib.hid h
  clear h
  have HE := Lib.hid E
  have hl := E.hl
  clear E
  have ne1 : x ≠ w.heap.size := by omega
  have ne2 : w.heap.size ≠ x := by omega
  have K1 : Kept x w (w.alloc (.cells #[.int .i64 0, .int .i64 0, .int .i64 0, .string { data := #[] }, .int .i64 0, .int .i64 0, .int .i64 0, .int .i64 0, .string { data := #[] }, .slice none 0 0] 31)) := (Kept.refl x w).alloc _
  have X1 := NBox.new w
  have P1 := Lib.hid (HI.out.alloc (.cells #[.int .i64 0, .int .i64 0, .int .i64 0, .string { data := #[] }, .int .i64 0, .int .i64 0, .int .i64 0, .int .i64 0, .string { data := #[] }, .slice none 0 0] 31))
  clear HI
  have egp : ∀ args w, (callFunc 60 args).run Tryz.prog w = .ok (.enter 60 args) w := enters_of Tryz.func60 (by kernel_rfl) rfl
  have HEGp := Lib.hid egp
  clear egp
  go_enter Tryz.func36, Tryz.ntmps36
  go_wp2_with fail
  generalize (w.alloc (.cells #[.int .i64 0, .int .i64 0, .int .i64 0, .string { data := #[] }, .int .i64 0, .int .i64 0, .int .i64 0, .int .i64 0, .string { data := #[] }, .slice none 0 0] 31)) = W1 at *
  refine (csum HE.out W1 P1.out).mono ?_
  have lt1 := X1.lt
  rintro e w3 ⟨f, A, m, c, er, rfl, k3, hp3⟩
  have X3 := X1.kept k3 ne2
  have K3 := K1.trans k3
  have lt3 := X3.lt
  have hx3 : x < w3.heap.size := by have := k3.size; omega
  have na1 : x ≠ w3.heap.size := by omega
  have na2 : w3.heap.size ≠ x := by omega
  have na4 : w.heap.size ≠ w3.heap.size := by omega
  have na5 : w3.heap.size ≠ w.heap.size := by omega
  clear K1 X1 P1 k3
  unfold nodeV
  rcases hp3 with ⟨kd, k', ho, rfl, hn, hA, hP⟩ | ⟨bad, k2, ho, hi, rfl, hP⟩
  · have HO := Lib.hid ho
    clear ho
    have L4 : NLoc (w3.alloc (.cells #[.int .i64 f.k, .int .i64 f.vk, .int .i64 f.vn, .string f.vs, .int .i64 f.r1, .int .i64 f.r2, .int .i64 f.r3, .int .i64 f.r4, .string f.op, .slice A m c] 31)) w3.heap.size f A m c := ⟨heap_alloc_new _ _⟩
    have X4 := X3.kept ((Kept.refl x w3).alloc (.cells #[.int .i64 f.k, .int .i64 f.vk, .int .i64 f.vn, .string f.vs, .int .i64 f.r1, .int .i64 f.r2, .int .i64 f.r3, .int .i64 f.r4, .string f.op, .slice A m c] 31)) ne2
    have K4 := K3.alloc (.cells #[.int .i64 f.k, .int .i64 f.vk, .int .i64 f.vn, .string f.vs, .int .i64 f.r1, .int .i64 f.r2, .int .i64 f.r3, .int .i64 f.r4, .string f.op, .slice A m c] 31)
    have P4 := Lib.hid (hP.alloc (.cells #[.int .i64 f.k, .int .i64 f.vk, .int .i64 f.vn, .string f.vs, .int .i64 f.r1, .int .i64 f.r2, .int .i64 f.r3, .int .i64 f.r4, .string f.op, .slice A m c] 31))
    have A4 := hA.keep (Q := fun g => w.heap.size < g ∧ g ≠ w3.heap.size) ((Kept.refl x w3).alloc (.cells #[.int .i64 f.k, .int .i64 f.vk, .int .i64 f.vn, .string f.vs, .int .i64 f.r1, .int .i64 f.r2, .int .i64 f.r3, .int .i64 f.r4, .string f.op, .slice A m c] 31)) (fun g hg hl => ⟨by omega, by omega, by omega⟩)
    clear hP hA X3 K3
    go_wp2_with fail
    generalize (w3.alloc (.cells #[.int .i64 f.k, .int .i64 f.vk, .int .i64 f.vn, .string f.vs, .int .i64 f.r1, .int .i64 f.r2, .int .i64 f.r3, .int .i64 f.r4, .string f.op, .slice A m c] 31)) = V at *
    refine (csees_isComparing V P4.out hl).mono ?_; rintro e w5 ⟨rfl, hb5⟩
    have k5 : Kept x V w5 := Kept.of hb5
    have X5 := X4.kept k5 ne2
    have K5 := K4.trans k5
    have P5 := Lib.hid (P4.out.below hb5)
    have L5 := L4.kept k5 na2
    have A5 := A4.keep (Q := fun g => w.heap.size < g ∧ g ≠ w3.heap.size) k5 (fun g hg hl => ⟨by omega, hg⟩)
    have s5 := L5.lt
    have t5 := X5.lt
    clear X4 K4 P4 L4 A4 hb5 k5
    obtain ⟨d0, d1, d2, d3, d4, d5, d6, d7, d8, d9, dz0, dz1, dz2, dz3, dz4, dz5, dz6, dz7, dz8, dz9⟩ := (L5).cells
    cases hs : oneOf l k' cmpS with
    | none =>
      have EO := Lib.hid (formula_one HO.out hs)
      obtain ⟨f0, f1, f2, f3, f4, f5, f6, f7, f8, f9, z0, z1, z2, z3, z4, z5, z6, z7, z8, z9⟩ := (X5).cells
      go_wp2_with fail
      refine bodyPost_ret (v := .tuple #[.agg #[.int .i64 f.k, .int .i64 f.vk, .int .i64 f.vn, .string f.vs, .int .i64 f.r1, .int .i64 f.r2, .int .i64 f.r3, .int .i64 f.r4, .string f.op, .slice A m c], .nilIface]) (by simp [results, Tryz.results36, go_sem, f0, f1, f2, f3, f4, f5, f6, f7, f8, f9]) rfl (CPost.ok (f := f) (A := A) (m := m) (c := c) (b := w.heap.size) (V := w5) EO.out K5 P5.out hn (A5.keep (Q := fun g => w.heap.size ≤ g ∧ g ≠ w.heap.size) (Kept.refl w5.heap.size w5) (fun g hg hl => ⟨by omega, by omega, by omega⟩)) (Nat.le_refl _) hxw ?_)
      repeat (first | with_reducible exact Kept.refl _ _ | with_reducible refine Kept.setCell ?_ _ _ | with_reducible refine Kept.alloc ?_ _)
    | some op =>
      obtain ⟨t, ht, hop⟩ := one_tok hs
      have EO : Hid (formulaF l en L into k = binF op ⟨f, kd⟩ (sumF l en L into (k' + 1))) := by
        cases hq : sumF l en L into (k' + 1) with
        | error e => exact Lib.hid (formula_bad HO.out hs hq)
        | ok q => exact Lib.hid (formula_ok HO.out hs hq)
      go_wp2_with fail
      have HB := cbinary (P := fun g => w.heap.size < g ∧ g ≠ w3.heap.size) (F := sumF l en L into) (f := f) (A := A) (m := m) (c := c) (kd := kd) (pre := #[.pointer (some ⟨x, 0, none⟩)]) (post := #[]) HEGp.out w5 P5.out hl ht hop A5 hn (fun g hg => by omega) (fun w' hk hp => csum HE.out w' hp)
      unfold nodeV at HB
      refine HB.mono ?_
      rintro e w8 ⟨fw, A8, m8, c8, er8, rfl, k8, hp8⟩
      have K8 := K5.trans k8
      have X8 := X5.kept k8 ne2
      clear HB
      obtain ⟨f0, f1, f2, f3, f4, f5, f6, f7, f8, f9, z0, z1, z2, z3, z4, z5, z6, z7, z8, z9⟩ := (X8).cells
      unfold nodeV
      go_wp2_with fail
      refine bodyPost_ret (v := .tuple #[.agg #[.int .i64 fw.k, .int .i64 fw.vk, .int .i64 fw.vn, .string fw.vs, .int .i64 fw.r1, .int .i64 fw.r2, .int .i64 fw.r3, .int .i64 fw.r4, .string fw.op, .slice A8 m8 c8], er8]) (by simp [results, Tryz.results36, go_sem, f0, f1, f2, f3, f4, f5, f6, f7, f8, f9]) rfl ?_
      rcases hp8 with ⟨kd2, k2, hq, rfl, hn2, hA2, hP2⟩ | ⟨bad, k2, hq, hi, rfl, hP2⟩
      · refine CPost.ok (f := fw) (kd := kd2) (A := A8) (m := m8) (c := c8) (b := w.heap.size) (V := w8) (EO.out.trans hq) K8 hP2 hn2 (hA2.keep (Q := fun g => w.heap.size ≤ g ∧ g ≠ w.heap.size) (Kept.refl w8.heap.size w8) (fun g hg hl => ⟨by omega, by omega, by omega⟩)) (Nat.le_refl _) hxw ?_
        repeat (first | with_reducible exact Kept.refl _ _ | with_reducible refine Kept.setCell ?_ _ _ | with_reducible refine Kept.alloc ?_ _)
      · refine CPost.err (f := fw) (A := A8) (m := m8) (c := c8) (b := w.heap.size) (V := w8) (EO.out.trans hq) hi K8 hP2 (Nat.le_refl _) hxw ?_
        repeat (first | with_reducible exact Kept.refl _ _ | with_reducible refine Kept.setCell ?_ _ _ | with_reducible refine Kept.alloc ?_ _)
  · obtain ⟨T, u, hT⟩ := errV_some bad
    have EO := Lib.hid (formula_err ho)
    have P3 := Lib.hid hP
    clear ho hP
    rw [hT]
    obtain ⟨f0, f1, f2, f3, f4, f5, f6, f7, f8, f9, z0, z1, z2, z3, z4, z5, z6, z7, z8, z9⟩ := (X3).cells
    go_wp2_with fail
    refine bodyPost_ret (v := .tuple #[.agg #[.int .i64 f.k, .int .i64 f.vk, .int .i64 f.vn, .string f.vs, .int .i64 f.r1, .int .i64 f.r2, .int .i64 f.r3, .int .i64 f.r4, .string f.op, .slice A m c], .iface T u]) (by simp [results, Tryz.results36, go_sem, f0, f1, f2, f3, f4, f5, f6, f7, f8, f9, lt3]) rfl (hT ▸ CPost.err (f := f) (A := A) (m := m) (c := c) (b := w.heap.size) (V := w3) EO.out hi K3 P3.out (Nat.le_refl _) hxw ?_)
    repeat (first | with_reducible exact Kept.refl _ _ | with_reducible refine Kept.setCell ?_ _ _ | with_reducible refine Kept.alloc ?_ _)

/-- At each nesting all that stands there answers as the grammar says. -/
theorem ccon {x : Nat} {l : List Tok} {en : Int} (hl : l.length ≤ 300) (hts : ∀ (i : Nat) (t : Tok), l[i]? = some t → t.s.size ≤ 1000000) : ∀ (r : Nat), r ≤ 40 → CCon x l en (40 - (r : Int)) (lev l en (r + 1)) := by
  intro r
  induction r with
  | zero =>
    intro _
    have E : Env x l en (40 - ((0 : Nat) : Int)) (lev l en 0) (decide (1 ≤ 0)) := ⟨hl, by omega, by omega, by simp, fun h => absurd h (by omega), hts, lev_goes l en 0⟩
    exact ⟨fun k w h => cformula E w h, fun k w h => cpower E w h, fun k w h => cunary E w h⟩
  | succ r ih =>
    intro hr
    have E : Env x l en (40 - ((r + 1 : Nat) : Int)) (lev l en (r + 1)) (decide (1 ≤ r + 1)) := ⟨hl, by omega, by omega, by
      rw [decide_eq_true (by omega), decide_eq_true (by omega)], fun _ => by
      have := ih (by omega)
      rw [show (40 - ((r + 1 : Nat) : Int) + 1) = 40 - (r : Int) from by omega]; exact this, hts, lev_goes l en (r + 1)⟩
    exact ⟨fun k w h => cformula E w h, fun k w h => cpower E w h, fun k w h => cunary E w h⟩

end Go.Proofs.YtkdgiadpmfpjnaaGreatDoor.TreeC
