/-
  Contracts of tree's code: unary, power.
-/
import Derived.Test.YtccigjelbnjcoaaGreatDoorPOfTreeP3
import Derived.Test.YtccigjelbnjcoaaGreatDoorPOfTreeP0
import Derived.Test.YtccigjelbnjcoaaGreatDoorPOfNumR
import Derived.Test.YtccigjelbnjcoaaGreatDoorPOfLexF
import Derived.Deep.RegionWith
import Derived.Laws.OwnMore
namespace Go.Proofs.YtccigjelbnjcoaaGreatDoor.TreeC
set_option linter.unusedVariables false
open Go.RowKit Go.Proofs.YtccigjelbnjcoaaGreatDoor.NumC Go.Proofs.YtccigjelbnjcoaaGreatDoor.LexC
theorem Pc.drew1 {w : World} {x k : Nat} {l : List Tok} {en nest : Int} (h : Pc w x l en k nest) : Pc w.drew x l en k nest := ⟨h.le, fun w2 hb => h.lib w2 ⟨hb.os, hb.tape, hb.output, hb.size, hb.block⟩, h.ex⟩
theorem NLoc.drew2 {w : World} {b n c : Nat} {f : Fld} {A : Option Addr} (h : NLoc w b f A n c) : NLoc w.drew b f A n c := ⟨h.at_⟩
theorem Kept.drew2 {x : Nat} {a w : World} (h : Kept x a w) : Kept x a w.drew := ⟨h.os, h.tape, h.output, h.size, h.block⟩
theorem neg_fin {P : Nat → Prop} {x b k' n c pb : Nat} {l : List Tok} {en nest : Int} {f : Fld} {A : Option Addr} {ka : Fo} {o : Out} {w V W : World} (ho : o = .ok (negN ⟨f, ka⟩, k')) (hK : Kept x w V) (hP : Pc V x l en k' nest)
    (hn : ka.len = n) (hA : KidsAt V (fun g => P g ∧ g ≠ b) ka A) (hpb : P pb ∧ pb ≠ b) (hb : w.heap.size ≤ b) (hx : x < w.heap.size) (hk : Kept b V W)
    (hr : W.heap[pb]? = some (.cells (nodeV f A n c).cells 30 (0, 0))) :
    CPostP P x l en nest o w (.returned (.tuple #[nodeV (negN ⟨f, ka⟩).f (some ⟨pb, 0, none⟩) 1 1, .nilIface])) W := by
  have hA' := hA.keep (Q := fun g => P g ∧ g ≠ b) hk (fun g hg _ => ⟨hg.2, hg⟩)
  refine CPost.ok (b := b) (V := W) (kd := Nd.one ⟨f, ka⟩) ho (hK.then_ hk hb) (hP.kept hk (by omega)) rfl (Or.inr ⟨pb, 0, rfl, rowAt_block hpb (vs := [nodeV f A n c]) ⟨⟨A, c, by rw [hn], hA'⟩, trivial⟩ hr ?_⟩) hb hx (Kept.refl _ _)
  rfl
set_option maxRecDepth 100000 in
set_option maxHeartbeats 4000000 in
theorem cunary {x k : Nat} {l : List Tok} {en nest : Int} {L : Lev} {into : Bool} (E : Env x l en nest L into) (w : World) (h : Pc w x l en k nest) :
    Calls Tryz.prog 129 #[.pointer (some ⟨x, 0, none⟩)] w (CPost w.heap.size x l en nest (unaryF l en L into k) w) := by
  have hxw := h.lt
  have HI := Lib.hid h
  clear h
  have HE := Lib.hid E
  have hl := E.hl
  clear E
  have ne1 : x ≠ w.heap.size := by omega
  have ne2 : w.heap.size ≠ x := by omega
  have K1 : Kept x w (w.alloc (.cells #[.int .i64 0, .int .i64 0, .int .i64 0, .string { data := #[] }, .int .i64 0, .int .i64 0, .int .i64 0, .int .i64 0, .string { data := #[] }, .slice none 0 0] 30)) := (Kept.refl x w).alloc _
  have X1 := NBox.new w
  have P1 := Lib.hid (HI.out.alloc (.cells #[.int .i64 0, .int .i64 0, .int .i64 0, .string { data := #[] }, .int .i64 0, .int .i64 0, .int .i64 0, .int .i64 0, .string { data := #[] }, .slice none 0 0] 30))
  clear HI
  have B45 : Hid (({ data := #[45] } : ByteArray) = str [45]) := Lib.hid rfl
  have egu : ∀ args w, (callFunc 129 args).run Tryz.prog w = .ok (.enter 129 args) w := enters_of Tryz.func129 (by kernel_rfl) rfl
  have HEGu := Lib.hid egu
  clear egu
  go_enter Tryz.func129, Tryz.ntmps129
  go_wp2_with fail
  generalize (w.alloc (.cells #[.int .i64 0, .int .i64 0, .int .i64 0, .string { data := #[] }, .int .i64 0, .int .i64 0, .int .i64 0, .int .i64 0, .string { data := #[] }, .slice none 0 0] 30)) = W1 at *
  rw [B45.out]
  refine (cseesSign [45] W1 P1.out hl).mono ?_; rintro e w2 ⟨rfl, hb2⟩
  have k2 : Kept x W1 w2 := Kept.of hb2
  have K2 := K1.trans k2
  have X2 := X1.kept k2 ne2
  have P2 := Lib.hid (P1.out.below hb2)
  clear K1 X1 P1 hb2 k2
  cases hs : isSign l k [45] with
  | false =>
    have EO : Hid (unaryF l en L into k = partF l en L into k) := Lib.hid (unary_no hs)
    go_wp2_with fail
    refine (cpart HE.out w2 P2.out).mono ?_
    rintro e w6 ⟨f, A, m, c, er, rfl, k6, hp6⟩
    have X6 := X2.kept k6 ne2
    have K6 := K2.trans k6
    rw [← EO.out] at hp6
    have HP := Lib.hid hp6
    have lt6 := X2.lt
    have lt7 := X6.lt
    clear hp6
    unfold nodeV
    obtain ⟨f0, f1, f2, f3, f4, f5, f6, f7, f8, f9, z0, z1, z2, z3, z4, z5, z6, z7, z8, z9⟩ := (X6).cells
    go_wp2_with fail
    refine bodyPost_ret (v := .tuple #[.agg #[.int .i64 f.k, .int .i64 f.vk, .int .i64 f.vn, .string f.vs, .int .i64 f.r1, .int .i64 f.r2, .int .i64 f.r3, .int .i64 f.r4, .string f.op, .slice A m c], er]) (by simp [results, Tryz.results129, go_sem, f0, f1, f2, f3, f4, f5, f6, f7, f8, f9]) rfl (CPost.on (f := f) (A := A) (m := m) (c := c) (b := w.heap.size) HP.out K6 (by omega) lt6 (Nat.le_refl _) hxw ?_)
    repeat (first | with_reducible exact Kept.refl _ _ | with_reducible refine Kept.setCell ?_ _ _ | with_reducible refine Kept.alloc ?_ _)
  | true =>
    have hlt := sign_lt hs
    go_wp2_with fail
    refine (ctake w2 P2.out hlt).mono ?_; rintro e w4 ⟨rfl, P4, k4⟩
    have X4 := X2.kept k4 ne2
    have K4 := K2.trans k4
    clear X2 K2 P2 k4
    go_wp2_with fail
    refine (cnested 129 #[.pointer (some ⟨x, 0, none⟩)] w4 P4.lt).mono ?_; rintro e w5 ⟨b1, b2, rfl, hb5, hc1, hc2, hx1, hx2, hs1, hs2⟩
    have k5 : Kept x w4 w5 := Kept.of hb5
    have X5 := X4.kept k5 ne2
    have K5 := K4.trans k5
    have P5 := P4.below hb5
    clear X4 K4 P4 hb5 k5
    go_wp2_with fail
    refine (cnested1 (F := L.un) HEGu.out w5 P5 HE.out.hn0 HE.out.hn1 hc1 hc2 (by omega) (by omega) (fun hin w2 hk2 hp2 => (HE.out.hc hin).un _ w2 hp2)).mono ?_
    clear hc1 hc2 hx1 hx2 hs1 hs2
    rintro e w6 ⟨f, A, m, c, er, rfl, k6, hp6⟩
    have X6 := X5.kept k6 ne2
    have K6 := K5.trans k6
    have lt5 := X5.lt
    have lt3 := X6.lt
    have hx6 : x < w6.heap.size := by omega
    have na1 : x ≠ w6.heap.size := by omega
    have na2 : w6.heap.size ≠ x := by omega
    have na4 : w.heap.size ≠ w6.heap.size := by omega
    have na5 : w6.heap.size ≠ w.heap.size := by omega
    clear X5 K5 P5 k6
    unfold nodeV
    obtain ⟨f0, f1, f2, f3, f4, f5, f6, f7, f8, f9, z0, z1, z2, z3, z4, z5, z6, z7, z8, z9⟩ := (X6).cells
    rcases hp6 with ⟨kd, k', ho, rfl, hn, hA, hP⟩ | ⟨bad, k', ho, hi, rfl, hP⟩
    · have hin : nest < 40 := by
        by_cases h : nest < 40
        · exact h
        · rw [if_neg h] at ho; cases ho
      rw [if_pos hin] at ho
      have EO := Lib.hid (unary_ok (l := l) (n := en) (L := L) (into := into) hs (by rw [HE.out.hi]; exact decide_eq_true hin) ho)
      clear ho
      go_wp2_with fail
      refine bodyPost_ret (v := .tuple #[.agg #[.int .i64 4, .int .i64 0, .int .i64 0, .string { data := #[] }, .int .i64 0, .int .i64 0, .int .i64 0, .int .i64 0, .string { data := #[] }, .slice (some ⟨w6.heap.size + 1, 0, none⟩) 1 1], .nilIface]) (by simp [results, Tryz.results129, go_sem, f0, f1, f2, f3, f4, f5, f6, f7, f8, f9, lt3]) rfl (neg_fin (c := c) (b := w.heap.size) EO.out K6 hP hn (hA.keep (Q := fun g => w.heap.size ≤ g ∧ g ≠ w.heap.size) (Kept.refl w6.heap.size w6) (fun g hg hl => ⟨by omega, by omega, by omega⟩)) ⟨by omega, by omega⟩ (Nat.le_refl _) hxw ?_ (by rw [row_at2 _ _ _ (show _ = w6.heap.size by simp)]; rfl))
      repeat (first | with_reducible exact Kept.refl _ _ | with_reducible refine Kept.setCell ?_ _ _ | with_reducible refine Kept.alloc ?_ _)
    · obtain ⟨T, u, hT⟩ := errV_some bad
      have EO : Hid (unaryF l en L into k = .error bad) := by
        by_cases hin : nest < 40
        · rw [if_pos hin] at ho
          exact Lib.hid (unary_err hs (by rw [HE.out.hi]; exact decide_eq_true hin) ho)
        · rw [if_neg hin] at ho
          injection ho with ho
          subst ho
          exact Lib.hid (unary_deep hs (by rw [HE.out.hi]; exact decide_eq_false hin))
      clear ho
      rw [hT]
      go_wp2_with fail
      refine bodyPost_ret (v := .tuple #[.agg #[.int .i64 0, .int .i64 0, .int .i64 0, .string { data := #[] }, .int .i64 0, .int .i64 0, .int .i64 0, .int .i64 0, .string { data := #[] }, .slice none 0 0], .iface T u]) (by simp [results, Tryz.results129, go_sem, f0, f1, f2, f3, f4, f5, f6, f7, f8, f9, lt3]) rfl (hT ▸ CPost.err (f := fld0) (A := none) (m := 0) (c := 0) (b := w.heap.size) (V := w6) EO.out hi K6 hP (Nat.le_refl _) hxw ?_)
      repeat (first | with_reducible exact Kept.refl _ _ | with_reducible refine Kept.setCell ?_ _ _ | with_reducible refine Kept.alloc ?_ _)
set_option maxRecDepth 100000 in
set_option maxHeartbeats 4000000 in
theorem cpower {x k : Nat} {l : List Tok} {en nest : Int} {L : Lev} {into : Bool} (E : Env x l en nest L into) (w : World) (h : Pc w x l en k nest) :
    Calls Tryz.prog 119 #[.pointer (some ⟨x, 0, none⟩)] w (CPost w.heap.size x l en nest (powerF l en L into k) w) := by
  have hxw := h.lt
  have HI := Lib.hid h
  clear h
  have HE := Lib.hid E
  have hl := E.hl
  clear E
  have ne1 : x ≠ w.heap.size := by omega
  have ne2 : w.heap.size ≠ x := by omega
  have K1 : Kept x w (w.alloc (.cells #[.int .i64 0, .int .i64 0, .int .i64 0, .string { data := #[] }, .int .i64 0, .int .i64 0, .int .i64 0, .int .i64 0, .string { data := #[] }, .slice none 0 0] 30)) := (Kept.refl x w).alloc _
  have X1 := NBox.new w
  have P1 := Lib.hid (HI.out.alloc (.cells #[.int .i64 0, .int .i64 0, .int .i64 0, .string { data := #[] }, .int .i64 0, .int .i64 0, .int .i64 0, .int .i64 0, .string { data := #[] }, .slice none 0 0] 30))
  clear HI
  have egn : ∀ args w, (callFunc 141 args).run Tryz.prog w = .ok (.enter 141 args) w := enters_of Tryz.func141 (by kernel_rfl) rfl
  have HEGn := Lib.hid egn
  clear egn
  have egp : ∀ args w, (callFunc 119 args).run Tryz.prog w = .ok (.enter 119 args) w := enters_of Tryz.func119 (by kernel_rfl) rfl
  have HEGp := Lib.hid egp
  clear egp
  go_enter Tryz.func119, Tryz.ntmps119
  go_wp2_with fail
  generalize (w.alloc (.cells #[.int .i64 0, .int .i64 0, .int .i64 0, .string { data := #[] }, .int .i64 0, .int .i64 0, .int .i64 0, .int .i64 0, .string { data := #[] }, .slice none 0 0] 30)) = W1 at *
  refine (cunary HE.out W1 P1.out).mono ?_
  have lt1 := X1.lt
  rintro e w3 ⟨f, A, m, c, er, rfl, k3, hp3⟩
  have X3 := X1.kept k3 ne2
  have K3 := K1.trans k3
  have lt3 := X3.lt
  have hx3 : x < w3.heap.size := by have := k3.size; omega
  have na1 : x ≠ w3.heap.size := by omega
  have na2 : w3.heap.size ≠ x := by omega
  have na4 : w.heap.size ≠ w3.heap.size := by omega
  have na5 : w3.heap.size ≠ w.heap.size := by omega
  clear K1 X1 P1 k3
  unfold nodeV
  rcases hp3 with ⟨kd, k', ho, rfl, hn, hA, hP⟩ | ⟨bad, k2, ho, hi, rfl, hP⟩
  · have HO := Lib.hid ho
    clear ho
    have L4 : NLoc (w3.alloc (.cells #[.int .i64 f.k, .int .i64 f.vk, .int .i64 f.vn, .string f.vs, .int .i64 f.r1, .int .i64 f.r2, .int .i64 f.r3, .int .i64 f.r4, .string f.op, .slice A m c] 30)) w3.heap.size f A m c := ⟨heap_alloc_new _ _⟩
    have X4 := X3.kept ((Kept.refl x w3).alloc (.cells #[.int .i64 f.k, .int .i64 f.vk, .int .i64 f.vn, .string f.vs, .int .i64 f.r1, .int .i64 f.r2, .int .i64 f.r3, .int .i64 f.r4, .string f.op, .slice A m c] 30)) ne2
    have K4 := K3.alloc (.cells #[.int .i64 f.k, .int .i64 f.vk, .int .i64 f.vn, .string f.vs, .int .i64 f.r1, .int .i64 f.r2, .int .i64 f.r3, .int .i64 f.r4, .string f.op, .slice A m c] 30)
    have P4 := Lib.hid (hP.alloc (.cells #[.int .i64 f.k, .int .i64 f.vk, .int .i64 f.vn, .string f.vs, .int .i64 f.r1, .int .i64 f.r2, .int .i64 f.r3, .int .i64 f.r4, .string f.op, .slice A m c] 30))
    have A4 := hA.keep (Q := fun g => w.heap.size < g ∧ g ≠ w3.heap.size) ((Kept.refl x w3).alloc (.cells #[.int .i64 f.k, .int .i64 f.vk, .int .i64 f.vn, .string f.vs, .int .i64 f.r1, .int .i64 f.r2, .int .i64 f.r3, .int .i64 f.r4, .string f.op, .slice A m c] 30)) (fun g hg hl => ⟨by omega, by omega, by omega⟩)
    clear hP hA X3 K3
    go_wp2_with fail
    generalize (w3.alloc (.cells #[.int .i64 f.k, .int .i64 f.vk, .int .i64 f.vn, .string f.vs, .int .i64 f.r1, .int .i64 f.r2, .int .i64 f.r3, .int .i64 f.r4, .string f.op, .slice A m c] 30)) = V at *
    refine (csees_isPower V P4.out hl).mono ?_; rintro e w5 ⟨rfl, hb5⟩
    rw [one_pow]
    have k5 : Kept x V w5 := Kept.of hb5
    have X5 := X4.kept k5 ne2
    have K5 := K4.trans k5
    have P5 := Lib.hid (P4.out.below hb5)
    have L5 := L4.kept k5 na2
    have A5 := A4.keep (Q := fun g => w.heap.size < g ∧ g ≠ w3.heap.size) k5 (fun g hg hl => ⟨by omega, hg⟩)
    have s5 := L5.lt
    have t5 := X5.lt
    clear X4 K4 P4 L4 A4 hb5 k5
    cases hs : isSign l k' [94] with
    | false =>
      have EO := Lib.hid (power_one HO.out hs)
      obtain ⟨d0, d1, d2, d3, d4, d5, d6, d7, d8, d9, dz0, dz1, dz2, dz3, dz4, dz5, dz6, dz7, dz8, dz9⟩ := (L5).cells
      obtain ⟨f0, f1, f2, f3, f4, f5, f6, f7, f8, f9, z0, z1, z2, z3, z4, z5, z6, z7, z8, z9⟩ := (X5).cells
      go_wp2_with fail
      refine bodyPost_ret (v := .tuple #[.agg #[.int .i64 f.k, .int .i64 f.vk, .int .i64 f.vn, .string f.vs, .int .i64 f.r1, .int .i64 f.r2, .int .i64 f.r3, .int .i64 f.r4, .string f.op, .slice A m c], .nilIface]) (by simp [results, Tryz.results119, go_sem, f0, f1, f2, f3, f4, f5, f6, f7, f8, f9]) rfl (CPost.ok (f := f) (A := A) (m := m) (c := c) (b := w.heap.size) (V := w5) EO.out K5 P5.out hn (A5.keep (Q := fun g => w.heap.size ≤ g ∧ g ≠ w.heap.size) (Kept.refl w5.heap.size w5) (fun g hg hl => ⟨by omega, by omega, by omega⟩)) (Nat.le_refl _) hxw ?_)
      repeat (first | with_reducible exact Kept.refl _ _ | with_reducible refine Kept.setCell ?_ _ _ | with_reducible refine Kept.alloc ?_ _)
    | true =>
      obtain ⟨t, ht, hop⟩ : ∃ t, l[k']? = some t ∧ t.s = str [94] := by
        unfold isSign at hs
        split at hs
        · rename_i t ht; simp only [Bool.and_eq_true, decide_eq_true_eq] at hs; exact ⟨t, ht, hs.2⟩
        · cases hs
      have HT := Lib.hid ht
      have HS := Lib.hid hs
      have P6 := Lib.hid P5.out.drew1
      have L6 := L5.drew2
      have X6 := X5.kept ((Kept.refl x w5).drew 1) ne2
      have K6 := Lib.hid K5.drew2
      have A6 := A5.keep (Q := fun g => w.heap.size < g ∧ g ≠ w3.heap.size) ((Kept.refl x w5).drew2) (fun g hg hl => ⟨by omega, hg⟩)
      have s6 : w3.heap.size < w5.drew.heap.size := s5
      have hx6 : x < w5.drew.heap.size := P6.out.lt
      have HA6 := Lib.hid A6
      have HX6 : Hid (NBox w5.drew w.heap.size) := Lib.hid X6
      have HN := Lib.hid hn
      clear ht hs P5 K5 A5 A6 X5 X6 hn
      go_wp2_with fail
      obtain ⟨a0, a1, a2, a3, a4, a5, a6, a7, a8, a9, az0, az1, az2, az3, az4, az5, az6, az7, az8, az9⟩ := (L6).cells
      clear az0 az1 az2 az3 az4 az5 az6 az7 az8 az9
      clear L5
      go_region_with (first | (go_at_call 130; refine (cnested 119 #[.pointer (some ⟨x, 0, none⟩)] w5.drew hx6).mono ?_; rintro e w7 ⟨b1, b2, rfl, hb7, hc1, hc2, hx1, hx2, hs1, hs2⟩; have L7 := L6.kept (Kept.of (x := x) hb7) na2; obtain ⟨e0, e1, e2, e3, e4, e5, e6, e7, e8, e9, ez0, ez1, ez2, ez3, ez4, ez5, ez6, ez7, ez8, ez9⟩ := (L7).cells; clear ez0 ez1 ez2 ez3 ez4 ez5 ez6 ez7 ez8 ez9) | (go_at_call 81; refine (cbinary (P := fun g => w.heap.size < g ∧ g ≠ w3.heap.size) (F := fun k => if nest < 40 then L.pw k else .error deepE) (op := [94]) (f := f) (A := A) (m := m) (c := c) (kd := kd) (pre := #[]) (post := #[.pointer (some ⟨b1, 0, none⟩), .pointer (some ⟨b2, 0, none⟩)]) HEGn.out w7 (P6.out.below hb7) hl HT.out hop (HA6.out.keep (Kept.of (x := x) hb7) (fun g hg hl => ⟨by omega, hg⟩)) HN.out (fun g hg => by omega) (fun w' hk hp => cnested1 (F := L.pw) HEGp.out w' hp HE.out.hn0 HE.out.hn1 (hk.cell (by omega) hc1) (hk.cell (by omega) hc2) (by omega) (by omega) (fun hin w2 hk2 hp2 => (HE.out.hc hin).pw _ w2 hp2))).mono ?_; rintro e w8 ⟨fw, A8, m8, c8, er8, rfl, k8, hp8⟩; have X8 := (HX6.out.kept (Kept.of (x := x) hb7) ne2).kept k8 ne2; obtain ⟨f0, f1, f2, f3, f4, f5, f6, f7, f8, f9, z0, z1, z2, z3, z4, z5, z6, z7, z8, z9⟩ := (X8).cells; unfold nodeV))
      all_goals
        have K8 : Kept x w w8 := (K6.out.trans (Kept.of hb7)).trans k8
        have l7 : w3.heap.size < w7.heap.size := L7.lt
        have EO : Hid (powerF l en L into k = binF [94] ⟨f, kd⟩ (if nest < 40 then L.pw (k' + 1) else .error deepE)) := by
          by_cases hin : nest < 40
          · rw [if_pos hin]
            cases hq : L.pw (k' + 1) with
            | error e => exact Lib.hid (power_bad HO.out HS.out (by rw [HE.out.hi]; exact decide_eq_true hin) hq)
            | ok q => exact Lib.hid (power_ok HO.out HS.out (by rw [HE.out.hi]; exact decide_eq_true hin) hq)
          · rw [if_neg hin]
            exact Lib.hid (power_deep HO.out HS.out (by rw [HE.out.hi]; exact decide_eq_false hin))
        go_wp2_with fail
        refine bodyPost_ret (v := .tuple #[.agg #[.int .i64 fw.k, .int .i64 fw.vk, .int .i64 fw.vn, .string fw.vs, .int .i64 fw.r1, .int .i64 fw.r2, .int .i64 fw.r3, .int .i64 fw.r4, .string fw.op, .slice A8 m8 c8], er8]) (by simp [results, Tryz.results119, go_sem, f0, f1, f2, f3, f4, f5, f6, f7, f8, f9]) rfl ?_
        rcases hp8 with ⟨kd2, k2, hq, rfl, hn2, hA2, hP2⟩ | ⟨bad, k2, hq, hi, rfl, hP2⟩
        · refine CPost.ok (f := fw) (kd := kd2) (A := A8) (m := m8) (c := c8) (b := w.heap.size) (V := w8) (EO.out.trans hq) K8 hP2 hn2 (hA2.keep (Q := fun g => w.heap.size ≤ g ∧ g ≠ w.heap.size) (Kept.refl w8.heap.size w8) (fun g hg hl => ⟨by omega, by omega, by omega⟩)) (Nat.le_refl _) hxw ?_
          repeat (first | with_reducible exact Kept.refl _ _ | with_reducible refine Kept.setCell ?_ _ _ | with_reducible refine Kept.alloc ?_ _)
        · refine CPost.err (f := fw) (A := A8) (m := m8) (c := c8) (b := w.heap.size) (V := w8) (EO.out.trans hq) hi K8 hP2 (Nat.le_refl _) hxw ?_
          repeat (first | with_reducible exact Kept.refl _ _ | with_reducible refine Kept.setCell ?_ _ _ | with_reducible refine Kept.alloc ?_ _)
  · obtain ⟨T, u, hT⟩ := errV_some bad
    have EO := Lib.hid (power_err ho)
    have P3 := Lib.hid hP
    clear ho hP
    rw [hT]
    obtain ⟨f0, f1, f2, f3, f4, f5, f6, f7, f8, f9, z0, z1, z2, z3, z4, z5, z6, z7, z8, z9⟩ := (X3).cells
    go_wp2_with fail
    refine bodyPost_ret (v := .tuple #[.agg #[.int .i64 f.k, .int .i64 f.vk, .int .i64 f.vn, .string f.vs, .int .i64 f.r1, .int .i64 f.r2, .int .i64 f.r3, .int .i64 f.r4, .string f.op, .slice A m c], .iface T u]) (by simp [results, Tryz.results119, go_sem, f0, f1, f2, f3, f4, f5, f6, f7, f8, f9, lt3]) rfl (hT ▸ CPost.err (f := f) (A := A) (m := m) (c := c) (b := w.heap.size) (V := w3) EO.out hi K3 P3.out (Nat.le_refl _) hxw ?_)
    repeat (first | with_reducible exact Kept.refl _ _ | with_reducible refine Kept.setCell ?_ _ _ | with_reducible refine Kept.alloc ?_ _)
end Go.Proofs.YtccigjelbnjcoaaGreatDoor.TreeC
namespace Go.Proofs.YtccigjelbnjcoaaGreatDoor.TreeC
set_option linter.unusedVariables false
open Go.RowKit Go.Proofs.YtccigjelbnjcoaaGreatDoor.NumC Go.Proofs.YtccigjelbnjcoaaGreatDoor.LexC
theorem product_rows (l : List Tok) (n : Int) (L : Lev) (into : Bool) (k : Nat) : productF l n L into k = rowsF l mulS (powerF l n L into) k := rfl
theorem sum_rows (l : List Tok) (n : Int) (L : Lev) (into : Bool) (k : Nat) : sumF l n L into k = rowsF l sumS (productF l n L into) k := rfl
set_option maxRecDepth 100000 in
set_option maxHeartbeats 4000000 in
theorem cproduct {x k : Nat} {l : List Tok} {en nest : Int} {L : Lev} {into : Bool} (E : Env x l en nest L into) (w : World) (h : Pc w x l en k nest) :
    Calls Tryz.prog 100 #[.pointer (some ⟨x, 0, none⟩)] w (CPost w.heap.size x l en nest (productF l en L into k) w) := by
  have hxw := h.lt
  have HI := Lib.hid h
  clear h
  have HE := Lib.hid E
  have hl := E.hl
  clear E
  have ne1 : x ≠ w.heap.size := by omega
  have ne2 : w.heap.size ≠ x := by omega
  have K1 : Kept x w (w.alloc (.cells #[.int .i64 0, .int .i64 0, .int .i64 0, .string { data := #[] }, .int .i64 0, .int .i64 0, .int .i64 0, .int .i64 0, .string { data := #[] }, .slice none 0 0] 30)) := (Kept.refl x w).alloc _
  have X1 := NBox.new w
  have P1 := Lib.hid (HI.out.alloc (.cells #[.int .i64 0, .int .i64 0, .int .i64 0, .string { data := #[] }, .int .i64 0, .int .i64 0, .int .i64 0, .int .i64 0, .string { data := #[] }, .slice none 0 0] 30))
  clear HI
  have egp : ∀ args w, (callFunc 119 args).run Tryz.prog w = .ok (.enter 119 args) w := enters_of Tryz.func119 (by kernel_rfl) rfl
  have HEGp := Lib.hid egp
  clear egp
  go_enter Tryz.func100, Tryz.ntmps100
  go_wp2_with fail
  generalize (w.alloc (.cells #[.int .i64 0, .int .i64 0, .int .i64 0, .string { data := #[] }, .int .i64 0, .int .i64 0, .int .i64 0, .int .i64 0, .string { data := #[] }, .slice none 0 0] 30)) = W1 at *
  refine (crow_isMultiplying (F := powerF l en L into) HEGp.out W1 P1.out hl (power_goes HE.out.hL) (fun k w' hk hp => cpower HE.out w' hp)).mono ?_
  rintro e w6 ⟨f, A, m, c, er, rfl, k6, hp6⟩
  have X6 := X1.kept k6 ne2
  have K6 := K1.trans k6
  rw [← product_rows] at hp6
  have HP := Lib.hid hp6
  have lt6 := X1.lt
  have lt7 := X6.lt
  clear hp6
  unfold nodeV
  obtain ⟨f0, f1, f2, f3, f4, f5, f6, f7, f8, f9, z0, z1, z2, z3, z4, z5, z6, z7, z8, z9⟩ := (X6).cells
  go_wp2_with fail
  refine bodyPost_ret (v := .tuple #[.agg #[.int .i64 f.k, .int .i64 f.vk, .int .i64 f.vn, .string f.vs, .int .i64 f.r1, .int .i64 f.r2, .int .i64 f.r3, .int .i64 f.r4, .string f.op, .slice A m c], er]) (by simp [results, Tryz.results100, go_sem, f0, f1, f2, f3, f4, f5, f6, f7, f8, f9]) rfl (CPost.on (f := f) (A := A) (m := m) (c := c) (b := w.heap.size) HP.out K6 (by omega) lt6 (Nat.le_refl _) hxw ?_)
  repeat (first | with_reducible exact Kept.refl _ _ | with_reducible refine Kept.setCell ?_ _ _ | with_reducible refine Kept.alloc ?_ _)
set_option maxRecDepth 100000 in
set_option maxHeartbeats 4000000 in
theorem csum {x k : Nat} {l : List Tok} {en nest : Int} {L : Lev} {into : Bool} (E : Env x l en nest L into) (w : World) (h : Pc w x l en k nest) :
    Calls Tryz.prog 78 #[.pointer (some ⟨x, 0, none⟩)] w (CPost w.heap.size x l en nest (sumF l en L into k) w) := by
  have hxw := h.lt
  have HI := Lib.hid h
  clear h
  have HE := Lib.hid E
  have hl := E.hl
  clear E
  have ne1 : x ≠ w.heap.size := by omega
  have ne2 : w.heap.size ≠ x := by omega
  have K1 : Kept x w (w.alloc (.cells #[.int .i64 0, .int .i64 0, .int .i64 0, .string { data := #[] }, .int .i64 0, .int .i64 0, .int .i64 0, .int .i64 0, .string { data := #[] }, .slice none 0 0] 30)) := (Kept.refl x w).alloc _
  have X1 := NBox.new w
  have P1 := Lib.hid (HI.out.alloc (.cells #[.int .i64 0, .int .i64 0, .int .i64 0, .string { data := #[] }, .int .i64 0, .int .i64 0, .int .i64 0, .int .i64 0, .string { data := #[] }, .slice none 0 0] 30))
  clear HI
  have egp : ∀ args w, (callFunc 100 args).run Tryz.prog w = .ok (.enter 100 args) w := enters_of Tryz.func100 (by kernel_rfl) rfl
  have HEGp := Lib.hid egp
  clear egp
  go_enter Tryz.func78, Tryz.ntmps78
  go_wp2_with fail
  generalize (w.alloc (.cells #[.int .i64 0, .int .i64 0, .int .i64 0, .string { data := #[] }, .int .i64 0, .int .i64 0, .int .i64 0, .int .i64 0, .string { data := #[] }, .slice none 0 0] 30)) = W1 at *
  refine (crow_isAdding (F := productF l en L into) HEGp.out W1 P1.out hl (product_goes HE.out.hL) (fun k w' hk hp => cproduct HE.out w' hp)).mono ?_
  rintro e w6 ⟨f, A, m, c, er, rfl, k6, hp6⟩
  have X6 := X1.kept k6 ne2
  have K6 := K1.trans k6
  rw [← sum_rows] at hp6
  have HP := Lib.hid hp6
  have lt6 := X1.lt
  have lt7 := X6.lt
  clear hp6
  unfold nodeV
  obtain ⟨f0, f1, f2, f3, f4, f5, f6, f7, f8, f9, z0, z1, z2, z3, z4, z5, z6, z7, z8, z9⟩ := (X6).cells
  go_wp2_with fail
  refine bodyPost_ret (v := .tuple #[.agg #[.int .i64 f.k, .int .i64 f.vk, .int .i64 f.vn, .string f.vs, .int .i64 f.r1, .int .i64 f.r2, .int .i64 f.r3, .int .i64 f.r4, .string f.op, .slice A m c], er]) (by simp [results, Tryz.results78, go_sem, f0, f1, f2, f3, f4, f5, f6, f7, f8, f9]) rfl (CPost.on (f := f) (A := A) (m := m) (c := c) (b := w.heap.size) HP.out K6 (by omega) lt6 (Nat.le_refl _) hxw ?_)
  repeat (first | with_reducible exact Kept.refl _ _ | with_reducible refine Kept.setCell ?_ _ _ | with_reducible refine Kept.alloc ?_ _)
set_option maxRecDepth 100000 in
set_option maxHeartbeats 4000000 in
theorem cformula {x k : Nat} {l : List Tok} {en nest : Int} {L : Lev} {into : Bool} (E : Env x l en nest L into) (w : World) (h : Pc w x l en k nest) :
    Calls Tryz.prog 59 #[.pointer (some ⟨x, 0, none⟩)] w (CPost w.heap.size x l en nest (formulaF l en L into k) w) := by
  have hxw := h.lt
  have HI := Lib.hid h
  clear h
  have HE := Lib.hid E
  have hl := E.hl
  clear E
  have ne1 : x ≠ w.heap.size := by omega
  have ne2 : w.heap.size ≠ x := by omega
  have K1 : Kept x w (w.alloc (.cells #[.int .i64 0, .int .i64 0, .int .i64 0, .string { data := #[] }, .int .i64 0, .int .i64 0, .int .i64 0, .int .i64 0, .string { data := #[] }, .slice none 0 0] 30)) := (Kept.refl x w).alloc _
  have X1 := NBox.new w
  have P1 := Lib.hid (HI.out.alloc (.cells #[.int .i64 0, .int .i64 0, .int .i64 0, .string { data := #[] }, .int .i64 0, .int .i64 0, .int .i64 0, .int .i64 0, .string { data := #[] }, .slice none 0 0] 30))
  clear HI
  have egp : ∀ args w, (callFunc 78 args).run Tryz.prog w = .ok (.enter 78 args) w := enters_of Tryz.func78 (by kernel_rfl) rfl
  have HEGp := Lib.hid egp
  clear egp
  go_enter Tryz.func59, Tryz.ntmps59
  go_wp2_with fail
  generalize (w.alloc (.cells #[.int .i64 0, .int .i64 0, .int .i64 0, .string { data := #[] }, .int .i64 0, .int .i64 0, .int .i64 0, .int .i64 0, .string { data := #[] }, .slice none 0 0] 30)) = W1 at *
  refine (csum HE.out W1 P1.out).mono ?_
  have lt1 := X1.lt
  rintro e w3 ⟨f, A, m, c, er, rfl, k3, hp3⟩
  have X3 := X1.kept k3 ne2
  have K3 := K1.trans k3
  have lt3 := X3.lt
  have hx3 : x < w3.heap.size := by have := k3.size; omega
  have na1 : x ≠ w3.heap.size := by omega
  have na2 : w3.heap.size ≠ x := by omega
  have na4 : w.heap.size ≠ w3.heap.size := by omega
  have na5 : w3.heap.size ≠ w.heap.size := by omega
  clear K1 X1 P1 k3
  unfold nodeV
  rcases hp3 with ⟨kd, k', ho, rfl, hn, hA, hP⟩ | ⟨bad, k2, ho, hi, rfl, hP⟩
  · have HO := Lib.hid ho
    clear ho
    have L4 : NLoc (w3.alloc (.cells #[.int .i64 f.k, .int .i64 f.vk, .int .i64 f.vn, .string f.vs, .int .i64 f.r1, .int .i64 f.r2, .int .i64 f.r3, .int .i64 f.r4, .string f.op, .slice A m c] 30)) w3.heap.size f A m c := ⟨heap_alloc_new _ _⟩
    have X4 := X3.kept ((Kept.refl x w3).alloc (.cells #[.int .i64 f.k, .int .i64 f.vk, .int .i64 f.vn, .string f.vs, .int .i64 f.r1, .int .i64 f.r2, .int .i64 f.r3, .int .i64 f.r4, .string f.op, .slice A m c] 30)) ne2
    have K4 := K3.alloc (.cells #[.int .i64 f.k, .int .i64 f.vk, .int .i64 f.vn, .string f.vs, .int .i64 f.r1, .int .i64 f.r2, .int .i64 f.r3, .int .i64 f.r4, .string f.op, .slice A m c] 30)
    have P4 := Lib.hid (hP.alloc (.cells #[.int .i64 f.k, .int .i64 f.vk, .int .i64 f.vn, .string f.vs, .int .i64 f.r1, .int .i64 f.r2, .int .i64 f.r3, .int .i64 f.r4, .string f.op, .slice A m c] 30))
    have A4 := hA.keep (Q := fun g => w.heap.size < g ∧ g ≠ w3.heap.size) ((Kept.refl x w3).alloc (.cells #[.int .i64 f.k, .int .i64 f.vk, .int .i64 f.vn, .string f.vs, .int .i64 f.r1, .int .i64 f.r2, .int .i64 f.r3, .int .i64 f.r4, .string f.op, .slice A m c] 30)) (fun g hg hl => ⟨by omega, by omega, by omega⟩)
    clear hP hA X3 K3
    go_wp2_with fail
    generalize (w3.alloc (.cells #[.int .i64 f.k, .int .i64 f.vk, .int .i64 f.vn, .string f.vs, .int .i64 f.r1, .int .i64 f.r2, .int .i64 f.r3, .int .i64 f.r4, .string f.op, .slice A m c] 30)) = V at *
    refine (csees_isComparing V P4.out hl).mono ?_; rintro e w5 ⟨rfl, hb5⟩
    have k5 : Kept x V w5 := Kept.of hb5
    have X5 := X4.kept k5 ne2
    have K5 := K4.trans k5
    have P5 := Lib.hid (P4.out.below hb5)
    have L5 := L4.kept k5 na2
    have A5 := A4.keep (Q := fun g => w.heap.size < g ∧ g ≠ w3.heap.size) k5 (fun g hg hl => ⟨by omega, hg⟩)
    have s5 := L5.lt
    have t5 := X5.lt
    clear X4 K4 P4 L4 A4 hb5 k5
    obtain ⟨d0, d1, d2, d3, d4, d5, d6, d7, d8, d9, dz0, dz1, dz2, dz3, dz4, dz5, dz6, dz7, dz8, dz9⟩ := (L5).cells
    cases hs : oneOf l k' cmpS with
    | none =>
      have EO := Lib.hid (formula_one HO.out hs)
      obtain ⟨f0, f1, f2, f3, f4, f5, f6, f7, f8, f9, z0, z1, z2, z3, z4, z5, z6, z7, z8, z9⟩ := (X5).cells
      go_wp2_with fail
      refine bodyPost_ret (v := .tuple #[.agg #[.int .i64 f.k, .int .i64 f.vk, .int .i64 f.vn, .string f.vs, .int .i64 f.r1, .int .i64 f.r2, .int .i64 f.r3, .int .i64 f.r4, .string f.op, .slice A m c], .nilIface]) (by simp [results, Tryz.results59, go_sem, f0, f1, f2, f3, f4, f5, f6, f7, f8, f9]) rfl (CPost.ok (f := f) (A := A) (m := m) (c := c) (b := w.heap.size) (V := w5) EO.out K5 P5.out hn (A5.keep (Q := fun g => w.heap.size ≤ g ∧ g ≠ w.heap.size) (Kept.refl w5.heap.size w5) (fun g hg hl => ⟨by omega, by omega, by omega⟩)) (Nat.le_refl _) hxw ?_)
      repeat (first | with_reducible exact Kept.refl _ _ | with_reducible refine Kept.setCell ?_ _ _ | with_reducible refine Kept.alloc ?_ _)
    | some op =>
      obtain ⟨t, ht, hop⟩ := one_tok hs
      have EO : Hid (formulaF l en L into k = binF op ⟨f, kd⟩ (sumF l en L into (k' + 1))) := by
        cases hq : sumF l en L into (k' + 1) with
        | error e => exact Lib.hid (formula_bad HO.out hs hq)
        | ok q => exact Lib.hid (formula_ok HO.out hs hq)
      go_wp2_with fail
      have HB := cbinary (P := fun g => w.heap.size < g ∧ g ≠ w3.heap.size) (F := sumF l en L into) (f := f) (A := A) (m := m) (c := c) (kd := kd) (pre := #[.pointer (some ⟨x, 0, none⟩)]) (post := #[]) HEGp.out w5 P5.out hl ht hop A5 hn (fun g hg => by omega) (fun w' hk hp => csum HE.out w' hp)
      unfold nodeV at HB
      refine HB.mono ?_
      rintro e w8 ⟨fw, A8, m8, c8, er8, rfl, k8, hp8⟩
      have K8 := K5.trans k8
      have X8 := X5.kept k8 ne2
      clear HB
      obtain ⟨f0, f1, f2, f3, f4, f5, f6, f7, f8, f9, z0, z1, z2, z3, z4, z5, z6, z7, z8, z9⟩ := (X8).cells
      unfold nodeV
      go_wp2_with fail
      refine bodyPost_ret (v := .tuple #[.agg #[.int .i64 fw.k, .int .i64 fw.vk, .int .i64 fw.vn, .string fw.vs, .int .i64 fw.r1, .int .i64 fw.r2, .int .i64 fw.r3, .int .i64 fw.r4, .string fw.op, .slice A8 m8 c8], er8]) (by simp [results, Tryz.results59, go_sem, f0, f1, f2, f3, f4, f5, f6, f7, f8, f9]) rfl ?_
      rcases hp8 with ⟨kd2, k2, hq, rfl, hn2, hA2, hP2⟩ | ⟨bad, k2, hq, hi, rfl, hP2⟩
      · refine CPost.ok (f := fw) (kd := kd2) (A := A8) (m := m8) (c := c8) (b := w.heap.size) (V := w8) (EO.out.trans hq) K8 hP2 hn2 (hA2.keep (Q := fun g => w.heap.size ≤ g ∧ g ≠ w.heap.size) (Kept.refl w8.heap.size w8) (fun g hg hl => ⟨by omega, by omega, by omega⟩)) (Nat.le_refl _) hxw ?_
        repeat (first | with_reducible exact Kept.refl _ _ | with_reducible refine Kept.setCell ?_ _ _ | with_reducible refine Kept.alloc ?_ _)
      · refine CPost.err (f := fw) (A := A8) (m := m8) (c := c8) (b := w.heap.size) (V := w8) (EO.out.trans hq) hi K8 hP2 (Nat.le_refl _) hxw ?_
        repeat (first | with_reducible exact Kept.refl _ _ | with_reducible refine Kept.setCell ?_ _ _ | with_reducible refine Kept.alloc ?_ _)
  · obtain ⟨T, u, hT⟩ := errV_some bad
    have EO := Lib.hid (formula_err ho)
    have P3 := Lib.hid hP
    clear ho hP
    rw [hT]
    obtain ⟨f0, f1, f2, f3, f4, f5, f6, f7, f8, f9, z0, z1, z2, z3, z4, z5, z6, z7, z8, z9⟩ := (X3).cells
    go_wp2_with fail
    refine bodyPost_ret (v := .tuple #[.agg #[.int .i64 f.k, .int .i64 f.vk, .int .i64 f.vn, .string f.vs, .int .i64 f.r1, .int .i64 f.r2, .int .i64 f.r3, .int .i64 f.r4, .string f.op, .slice A m c], .iface T u]) (by simp [results, Tryz.results59, go_sem, f0, f1, f2, f3, f4, f5, f6, f7, f8, f9, lt3]) rfl (hT ▸ CPost.err (f := f) (A := A) (m := m) (c := c) (b := w.heap.size) (V := w3) EO.out hi K3 P3.out (Nat.le_refl _) hxw ?_)
    repeat (first | with_reducible exact Kept.refl _ _ | with_reducible refine Kept.setCell ?_ _ _ | with_reducible refine Kept.alloc ?_ _)
theorem ccon {x : Nat} {l : List Tok} {en : Int} (hl : l.length ≤ 300) (hts : ∀ (i : Nat) (t : Tok), l[i]? = some t → t.s.size ≤ 1000000) : ∀ (r : Nat), r ≤ 40 → CCon x l en (40 - (r : Int)) (lev l en (r + 1)) := by
  intro r
  induction r with
  | zero =>
    intro _
    have E : Env x l en (40 - ((0 : Nat) : Int)) (lev l en 0) (decide (1 ≤ 0)) := ⟨hl, by omega, by omega, by simp, fun h => absurd h (by omega), hts, lev_goes l en 0⟩
    exact ⟨fun k w h => cformula E w h, fun k w h => cpower E w h, fun k w h => cunary E w h⟩
  | succ r ih =>
    intro hr
    have E : Env x l en (40 - ((r + 1 : Nat) : Int)) (lev l en (r + 1)) (decide (1 ≤ r + 1)) := ⟨hl, by omega, by omega, by
      rw [decide_eq_true (by omega), decide_eq_true (by omega)], fun _ => by
      have := ih (by omega)
      rw [show (40 - ((r + 1 : Nat) : Int) + 1) = 40 - (r : Int) from by omega]; exact this, hts, lev_goes l en (r + 1)⟩
    exact ⟨fun k w h => cformula E w h, fun k w h => cpower E w h, fun k w h => cunary E w h⟩
end Go.Proofs.YtccigjelbnjcoaaGreatDoor.TreeC
namespace Go.Proofs.YtccigjelbnjcoaaGreatDoor.TreeC
set_option linter.unusedVariables false
open Go.RowKit Go.Proofs.YtccigjelbnjcoaaGreatDoor.NumC Go.Proofs.YtccigjelbnjcoaaGreatDoor.LexC
theorem addr_add0 (g j : Nat) : (⟨g, 0, none⟩ : Addr).add j = ⟨g, j, none⟩ := by unfold Addr.add; split <;> simp_all
theorem addr_add (g i j : Nat) : (⟨g, i, none⟩ : Addr).add j = ⟨g, i + j, none⟩ := by
  unfold Addr.add
  split
  · rename_i h; subst h; rfl
  · rfl
theorem RowV.nth {w : World} {P : Nat → Prop} : ∀ (fo : Fo) (vs : List Value) (i : Nat), RowV w P fo vs → i < fo.len → ∃ A c, KidsAt w P (fo.nth i).kids A ∧
    ∀ (j : Nat) (u : Value), (nodeV (fo.nth i).f A (fo.nth i).kids.len c).cells[j]? = some u → (ncells vs)[i * 10 + j]? = some u := by
  intro fo
  induction fo with
  | nil => intro vs i _ h; exact absurd h (by simp [Fo.len])
  | cons f kids next _ ih =>
    intro vs i h hi
    cases vs with
    | nil => exact absurd h (by simp [RowV])
    | cons v vs =>
      obtain ⟨⟨A, c, rfl, hA⟩, hr⟩ := h
      cases i with
      | zero =>
        refine ⟨A, c, hA, fun j u hj => ?_⟩
        rw [ncells_cons, Nat.zero_mul, Nat.zero_add, List.getElem?_append_left (by
          have := (Array.getElem?_eq_some_iff.1 hj).1
          rw [Array.length_toList]; exact this)]
        simpa [Fo.nth] using hj
      | succ i =>
        obtain ⟨A2, c2, h1, h2⟩ := ih vs i hr (by simpa [Fo.len] using hi)
        refine ⟨A2, c2, h1, fun j u hj => ?_⟩
        have := h2 j u hj
        rw [ncells_cons, List.getElem?_append_right (by simp [nodeV, Value.cells]; omega)]
        rw [← this]
        congr 1
        simp [nodeV, Value.cells]; omega
theorem RowV.app {w : World} {P : Nat → Prop} {ka : Fo} {ws : List Value} (hw : RowV w P ka ws) : ∀ (fo : Fo) (vs : List Value), RowV w P fo vs → RowV w P (fo.app ka) (vs ++ ws) := by
  intro fo
  induction fo with
  | nil => intro vs h; cases vs with
    | nil => exact hw
    | cons v vs => exact absurd h (by simp [RowV])
  | cons f kids next _ ih => intro vs h; cases vs with
    | nil => exact absurd h (by simp [RowV])
    | cons v vs => exact ⟨h.1, ih vs h.2⟩
theorem ncells_app (vs ws : List Value) : ncells (vs ++ ws) = ncells vs ++ ncells ws := by unfold ncells; rw [List.flatMap_append]
theorem rowV_of {w : World} {P : Nat → Prop} {g : Nat} : ∀ (fo : Fo) (o : Nat), RowAt w P fo g o → ∃ vs, RowV w P fo vs ∧ (ncells vs).length = fo.len * 10 ∧ ∀ (j : Nat) (u : Value), (ncells vs)[j]? = some u → w.cell? ⟨g, o + j, none⟩ = some u := by
  intro fo
  induction fo with
  | nil => intro o _; exact ⟨[], trivial, rfl, fun j u h => by simp [ncells] at h⟩
  | cons f kids next _ ih =>
    intro o h
    obtain ⟨⟨hp, f0, f1, f2, f3, f4, f5, f6, f7, f8⟩, ⟨A, c, f9, hk⟩, hn⟩ := h
    obtain ⟨vs, h1, h2, h3⟩ := ih (o + 10) hn
    refine ⟨nodeV f A kids.len c :: vs, ⟨⟨A, c, rfl, hk⟩, h1⟩, by rw [ncells_cons, List.length_append, h2]; simp [nodeV, Value.cells, Fo.len]; omega, fun j u hj => ?_⟩
    rw [ncells_cons] at hj
    by_cases hlt : j < 10
    · rw [List.getElem?_append_left (by simpa [nodeV, Value.cells] using hlt)] at hj
      have h10 : j = 0 ∨ j = 1 ∨ j = 2 ∨ j = 3 ∨ j = 4 ∨ j = 5 ∨ j = 6 ∨ j = 7 ∨ j = 8 ∨ j = 9 := by omega
      rcases h10 with rfl | rfl | rfl | rfl | rfl | rfl | rfl | rfl | rfl | rfl <;> (simp [nodeV, Value.cells] at hj; subst hj; assumption)
    · rw [List.getElem?_append_right (by simp [nodeV, Value.cells]; omega)] at hj
      have := h3 (j - 10) u (by simpa [nodeV, Value.cells] using hj)
      rwa [show o + 10 + (j - 10) = o + j from by omega] at this
def QS (w : World) (B : Nat) (v : Value) (fo : Fo) : Prop := ∃ vs, w.ownsRow B 30 10 v fo.len (ncells vs) ∧ RowV w (fun g => g < B) fo vs
theorem QS.nil (w : World) (B : Nat) : QS w B (.slice none 0 0) .nil := ⟨[], ⟨rfl, Or.inl ⟨rfl, rfl⟩⟩, trivial⟩
theorem QS.form {w : World} {B : Nat} {v : Value} {fo : Fo} (h : QS w B v fo) : ∃ A c, v = .slice A fo.len c := by
  obtain ⟨vs, ⟨-, ⟨rfl, h⟩ | ⟨g, cap, cur, rfl, -⟩⟩, -⟩ := h
  · exact ⟨none, 0, by rw [h]⟩
  · exact ⟨_, _, rfl⟩
theorem QS.lt {w : World} {B : Nat} {v : Value} {fo : Fo} (h : QS w B v fo) : ∀ k, v.ownBlock = some k → B ≤ k ∧ k < w.heap.size := by
  obtain ⟨vs, h, -⟩ := h
  exact World.ownsRow.lt h
theorem QS.below {w w' : World} {B : Nat} {v : Value} {fo : Fo} (h : QS w B v fo) (hk : Below w.heap.size w w') : QS w' B v fo := by
  obtain ⟨vs, ⟨h1, h2⟩, h3⟩ := h
  refine ⟨vs, ⟨h1, ?_⟩, RowV.keep (Kept.of (x := w.heap.size) hk) (fun g hg hl => ⟨by omega, hg⟩) _ _ h3⟩
  rcases h2 with h2 | ⟨g, cap, cur, e, hb, hg, h⟩
  · exact Or.inl h2
  · exact Or.inr ⟨g, cap, cur, e, hb, (hk.block g (Array.getElem?_eq_some_iff.1 hg).1).trans hg, h⟩
theorem QS.nth {w : World} {B : Nat} {v : Value} {fo : Fo} (h : QS w B v fo) (i : Nat) (hi : i < fo.len) : ∃ g c A2 c2, v = .slice (some ⟨g, 0, none⟩) fo.len c ∧ B ≤ g ∧ g < w.heap.size ∧ KidsAt w (fun g => g < B) (fo.nth i).kids A2 ∧
    w.cell? ⟨g, i * 10, none⟩ = some (.int .i64 (fo.nth i).f.k) ∧ w.cell? ⟨g, i * 10 + 1, none⟩ = some (.int .i64 (fo.nth i).f.vk) ∧ w.cell? ⟨g, i * 10 + 2, none⟩ = some (.int .i64 (fo.nth i).f.vn) ∧ w.cell? ⟨g, i * 10 + 3, none⟩ = some (.string (fo.nth i).f.vs) ∧ w.cell? ⟨g, i * 10 + 4, none⟩ = some (.int .i64 (fo.nth i).f.r1) ∧ w.cell? ⟨g, i * 10 + 5, none⟩ = some (.int .i64 (fo.nth i).f.r2) ∧ w.cell? ⟨g, i * 10 + 6, none⟩ = some (.int .i64 (fo.nth i).f.r3) ∧ w.cell? ⟨g, i * 10 + 7, none⟩ = some (.int .i64 (fo.nth i).f.r4) ∧ w.cell? ⟨g, i * 10 + 8, none⟩ = some (.string (fo.nth i).f.op) ∧ w.cell? ⟨g, i * 10 + 9, none⟩ = some (.slice A2 (fo.nth i).kids.len c2) := by
  obtain ⟨vs, hown, hr⟩ := h
  obtain ⟨g, cap, cur, rfl, hb, hg, -⟩ : ∃ g cap cur, v = .slice (some ⟨g, 0, none⟩) fo.len cap ∧ B ≤ g ∧ w.heap[g]? = some (.cells cur 30 (0, 0)) ∧ True := by
    rcases hown.2 with ⟨-, h0⟩ | ⟨g, cap, cur, e, hb, hg, -⟩
    · omega
    · exact ⟨g, cap, cur, e, hb, hg, trivial⟩
  obtain ⟨A2, c2, hk, hc⟩ := RowV.nth fo vs i hr hi
  have hcell : ∀ (j : Nat) (u : Value), (nodeV (fo.nth i).f A2 (fo.nth i).kids.len c2).cells[j]? = some u → w.cell? ⟨g, i * 10 + j, none⟩ = some u := fun j u hj => by
    have := World.ownsRow.cells hown (g := g) rfl _ _ (hc j u hj)
    rwa [addr_add0] at this
  exact ⟨g, cap, A2, c2, rfl, hb, (Array.getElem?_eq_some_iff.1 hg).1, hk, hcell 0 _ rfl, hcell 1 _ rfl, hcell 2 _ rfl, hcell 3 _ rfl, hcell 4 _ rfl, hcell 5 _ rfl, hcell 6 _ rfl, hcell 7 _ rfl, hcell 8 _ rfl, hcell 9 _ rfl⟩
theorem QS.one {w : World} {B g m c : Nat} {f : Fld} {A : Option Addr} {kd : Fo} (hb : w.heap[g]? = some (.cells #[.int .i64 f.k, .int .i64 f.vk, .int .i64 f.vn, .string f.vs, .int .i64 f.r1, .int .i64 f.r2, .int .i64 f.r3, .int .i64 f.r4, .string f.op, .slice A m c] 30 (0, 0))) (hB : B ≤ g) (hm : kd.len = m) (hk : KidsAt w (fun g => g < B) kd A) : QS w B (.slice (some ⟨g, 0, none⟩) 1 1) (Nd.one ⟨f, kd⟩) := by
  subst hm
  exact ⟨[nodeV f A kd.len c], ⟨rfl, Or.inr ⟨g, 1, _, rfl, hB, hb, Nat.le_refl _, by decide, rfl, rfl⟩⟩, ⟨A, c, rfl, hk⟩, trivial⟩
theorem QS.more {w w' : World} {B : Nat} {v v' : Value} {fo kd : Fo} {vs ws : List Value} (hv : RowV w (fun g => g < B) fo vs) (hw : RowV w (fun g => g < B) kd ws) (ho : w'.ownsRow B 30 10 v' (fo.len + kd.len) (ncells vs ++ ncells ws)) (hg : w.grownBy w' v.ownBlock) (hlt : ∀ k, v.ownBlock = some k → B ≤ k ∧ k < w.heap.size) : QS w' B v' (fo.app kd) := by
  refine ⟨vs ++ ws, by rw [ncells_app, Fo.len_app]; exact ho, RowV.same (fun g hg2 hl => ⟨hg.block g hl (fun e => by have := (hlt g e.symm).1; omega), hg2⟩) _ _ (RowV.app hw fo vs hv)⟩
theorem below_grown {w wr w' : World} {B : Nat} {row : Option Nat} (h : Below B w wr) (hB : B ≤ wr.heap.size) (hg : wr.grownBy w' row) (hr : ∀ k, row = some k → B ≤ k) : Below B w w' :=
  ⟨hg.os.trans h.os, hg.tape.trans h.tape, hg.output.trans h.output, Nat.le_trans h.size hg.size, fun k hk => (hg.block k (by omega) (fun e => by have := hr k e.symm; omega)).trans (h.block k hk)⟩
theorem kids_below {w wr : World} {B : Nat} {kd : Fo} {A : Option Addr} (h : KidsAt w (fun g => g < B) kd A) (hb : Below B w wr) (hB : B ≤ w.heap.size) : KidsAt wr (fun g => g < B) kd A := by
  rcases h with h | ⟨g, o, e, hr⟩
  · exact Or.inl h
  · exact Or.inr ⟨g, o, e, RowAt.same (fun g hg hl => ⟨hb.block g hg, hg⟩) _ _ _ hr⟩
theorem kids_row {w : World} {P : Nat → Prop} {kd : Fo} {A : Option Addr} (h : KidsAt w P kd A) {i : Nat} (hi : i < kd.len) : ∃ g o, A = some ⟨g, o, none⟩ ∧ RowAt w P kd g o := by
  rcases h with h | h
  · rw [h] at hi; exact absurd hi (by simp [Fo.len])
  · exact h
def NMode (q : Fo) (k s M : Nat) : Prop := k ≤ q.len ∧ q.len ≤ M + 2 ∧ q.len ≤ s ∧ (k + (q.drop k).size = s ∨ M + 2 ≤ q.len)
def NIn (q kd : Fo) (b : Nd) (k i s M : Nat) : Prop := k < q.len ∧ q.len ≤ M + 2 ∧ q.len ≤ s ∧ q.nth k = b ∧ b.kids = kd ∧ ((k + 1) + ((q.app (kd.drop i)).drop (k + 1)).size = s ∨ M + 2 ≤ q.len)
theorem NMode.start {q : Fo} {k s M : Nat} (h : NMode q k s M) (hk : k < q.len) : NIn q (q.nth k).kids (q.nth k) k 0 s M := by
  obtain ⟨h1, h2, h3, h4⟩ := h
  refine ⟨hk, h2, h3, rfl, rfl, ?_⟩
  rcases h4 with h4 | h4
  · exact Or.inl (by rw [Fo.drop_zero]; exact Fo.queue_size q k s hk h4)
  · exact Or.inr h4
theorem NIn.step {q kd : Fo} {b : Nd} {k i s M : Nat} (h : NIn q kd b k i s M) (hi : i < kd.len) (hq : q.len ≤ M + 1) : NIn (q.app (kd.nth i).one) kd b k (i + 1) s M := by
  obtain ⟨h1, h2, h3, h4, h5, h6⟩ := h
  have h7 : (k + 1) + ((q.app (kd.drop i)).drop (k + 1)).size = s := by
    rcases h6 with h6 | h6
    · exact h6
    · omega
  have hl : (kd.drop i).len = kd.len - i := Fo.len_drop kd i
  have hl2 := Fo.len_size ((q.app (kd.drop i)).drop (k + 1))
  rw [Fo.len_drop, Fo.len_app, hl] at hl2
  refine ⟨by rw [Fo.len_app]; omega, by rw [Fo.len_app, Nd.one_len]; omega, by rw [Fo.len_app, Nd.one_len]; omega, by rw [Fo.nth_app _ _ _ h1]; exact h4, h5, Or.inl ?_⟩
  rw [Fo.app_assoc]
  have e : (kd.nth i).one.app (kd.drop (i + 1)) = kd.drop i := by rw [Fo.drop_nth kd i hi]; rfl
  rw [e]; exact h7
theorem NIn.done {q kd : Fo} {b : Nd} {k i s M : Nat} (h : NIn q kd b k i s M) (hi : kd.len ≤ i ∨ M + 2 ≤ q.len) : NMode q (k + 1) s M := by
  obtain ⟨h1, h2, h3, h4, h5, h6⟩ := h
  refine ⟨h1, h2, h3, ?_⟩
  rcases hi with hi | hi
  · rcases h6 with h6 | h6
    · rw [Fo.drop_len kd i hi, Fo.app_nil] at h6; exact Or.inl h6
    · exact Or.inr h6
  · exact Or.inr hi
def NPost (s M : Nat) (w : World) (e : Ending) (w' : World) : Prop := ∃ r : Nat, e = .returned (.int .i64 r) ∧ Below w.heap.size w w' ∧ (s ≤ M → r = s) ∧ (M < s → M < r) ∧ r ≤ M + 1
theorem NMode.end1 {q : Fo} {k s M : Nat} (h : NMode q k s M) (hk : q.len ≤ k) (h1 : k ≤ M + 1) : (s ≤ M → k = s) ∧ (M < s → M < k) ∧ k ≤ M + 1 := by
  obtain ⟨h2, h3, h4, h5⟩ := h
  have : k = s := by
    rcases h5 with h5 | h5
    · rw [Fo.drop_len q k hk] at h5; simpa [Fo.size] using h5
    · omega
  omega
theorem NMode.end2 {q : Fo} {k s M : Nat} (h : NMode q k s M) (hk : M < k) (h1 : k ≤ M + 1) : (s ≤ M → k = s) ∧ (M < s → M < k) ∧ k ≤ M + 1 := by
  obtain ⟨h2, h3, h4, h5⟩ := h
  omega
set_option maxRecDepth 100000 in
set_option maxHeartbeats 2000000 in
theorem knodes (M : Nat) (m : Int) (hm : m = (M : Int)) (hM : M ≤ 100000) (a : Nd) (A : Option Addr) (c : Nat) (w : World) (hK : KidsAt w (fun g => g < w.heap.size) a.kids A) :
    Calls Tryz.prog 26 #[.agg #[.int .i64 a.f.k, .int .i64 a.f.vk, .int .i64 a.f.vn, .string a.f.vs, .int .i64 a.f.r1, .int .i64 a.f.r2, .int .i64 a.f.r3, .int .i64 a.f.r4, .string a.f.op, .slice A a.kids.len c], .int .i64 m] w (NPost a.size M w) := by
  subst hm
  have b1 : Below w.heap.size w (w.alloc (.cells #[.int .i64 a.f.k, .int .i64 a.f.vk, .int .i64 a.f.vn, .string a.f.vs, .int .i64 a.f.r1, .int .i64 a.f.r2, .int .i64 a.f.r3, .int .i64 a.f.r4, .string a.f.op, .slice A a.kids.len c] 30)) := (Below.refl _ _).alloc (Nat.le_refl _) _
  have b2 : Below w.heap.size w ((w.alloc (.cells #[.int .i64 a.f.k, .int .i64 a.f.vk, .int .i64 a.f.vn, .string a.f.vs, .int .i64 a.f.r1, .int .i64 a.f.r2, .int .i64 a.f.r3, .int .i64 a.f.r4, .string a.f.op, .slice A a.kids.len c] 30)).alloc (.cells #[.int .i64 a.f.k, .int .i64 a.f.vk, .int .i64 a.f.vn, .string a.f.vs, .int .i64 a.f.r1, .int .i64 a.f.r2, .int .i64 a.f.r3, .int .i64 a.f.r4, .string a.f.op, .slice A a.kids.len c] 30)) := b1.alloc b1.size _
  have hq : QS ((w.alloc (.cells #[.int .i64 a.f.k, .int .i64 a.f.vk, .int .i64 a.f.vn, .string a.f.vs, .int .i64 a.f.r1, .int .i64 a.f.r2, .int .i64 a.f.r3, .int .i64 a.f.r4, .string a.f.op, .slice A a.kids.len c] 30)).alloc (.cells #[.int .i64 a.f.k, .int .i64 a.f.vk, .int .i64 a.f.vn, .string a.f.vs, .int .i64 a.f.r1, .int .i64 a.f.r2, .int .i64 a.f.r3, .int .i64 a.f.r4, .string a.f.op, .slice A a.kids.len c] 30)) w.heap.size (.slice (some ⟨w.heap.size + 1, 0, none⟩) 1 1) a.one :=
    QS.one (f := a.f) (kd := a.kids) (c := c) (row_at2 _ _ _ rfl) (by omega) rfl (kids_below hK b2 (Nat.le_refl _))
  have hm0 : NMode a.one 0 a.size M := by
    have e : 0 + (a.one.drop 0).size = a.size := by rw [Nat.zero_add, Fo.drop_zero, Nd.one_size]
    have e1 : 1 ≤ a.size := by unfold Nd.size; omega
    exact ⟨Nat.zero_le _, by rw [Nd.one_len]; omega, by rw [Nd.one_len]; exact e1, Or.inl e⟩
  have HS := Lib.hid (show QS ((w.alloc (.cells #[.int .i64 a.f.k, .int .i64 a.f.vk, .int .i64 a.f.vn, .string a.f.vs, .int .i64 a.f.r1, .int .i64 a.f.r2, .int .i64 a.f.r3, .int .i64 a.f.r4, .string a.f.op, .slice A a.kids.len c] 30)).alloc (.cells #[.int .i64 a.f.k, .int .i64 a.f.vk, .int .i64 a.f.vn, .string a.f.vs, .int .i64 a.f.r1, .int .i64 a.f.r2, .int .i64 a.f.r3, .int .i64 a.f.r4, .string a.f.op, .slice A a.kids.len c] 30)) w.heap.size (.slice (some ⟨w.heap.size + 1, 0, none⟩) 1 1) a.one ∧ Below w.heap.size w ((w.alloc (.cells #[.int .i64 a.f.k, .int .i64 a.f.vk, .int .i64 a.f.vn, .string a.f.vs, .int .i64 a.f.r1, .int .i64 a.f.r2, .int .i64 a.f.r3, .int .i64 a.f.r4, .string a.f.op, .slice A a.kids.len c] 30)).alloc (.cells #[.int .i64 a.f.k, .int .i64 a.f.vk, .int .i64 a.f.vn, .string a.f.vs, .int .i64 a.f.r1, .int .i64 a.f.r2, .int .i64 a.f.r3, .int .i64 a.f.r4, .string a.f.op, .slice A a.kids.len c] 30)) ∧ NMode a.one 0 a.size M from ⟨hq, b2, hm0⟩)
  generalize hs : a.size = s at *
  obtain ⟨i0, hi0, hz0, hz1, hz2⟩ := info_parts node_info
  have HZ0 := Lib.hid hz0; have HZ1 := Lib.hid hz1; have HZ2 := Lib.hid hz2; have HI0 := Lib.hid hi0
  clear hz0 hz1 hz2 hi0 b1 b2 hq hm0 hs hK
  have hM0 : (0 : Int) ≤ (M : Int) := Int.natCast_nonneg _
  go_enter Tryz.func26, Tryz.ntmps26
  go_wp2_with fail
  go_loopw [5, 6] (fun v iv wr => ∃ k : Nat, k ≤ M + 1 ∧ iv = .int .i64 k ∧ Hid (∃ q, QS wr w.heap.size v q ∧ Below w.heap.size w wr ∧ NMode q k s M)) (fun _ iv _ => M + 1 - (intOf iv).toNat)
  case atStart => exact ⟨0, Nat.zero_le _, rfl, Lib.hid ⟨_, HS.out.1, HS.out.2.1, HS.out.2.2⟩⟩
  case round =>
    obtain ⟨k, hk, rfl, HR⟩ := hrel
    obtain ⟨q, hQ, hB, hN⟩ := HR.out
    have hql : q.len ≤ 200000 := by have := hN.2.1; omega
    by_cases hlt : k < q.len
    · by_cases hkm : k ≤ M
      · obtain ⟨g, c9, A2, c2, rfl, hg0, hg1, hkid, f0, f1, f2, f3, f4, f5, f6, f7, f8, f9⟩ := hQ.nth k hlt
        have HIN := Lib.hid (hN.start hlt)
        have HQ := Lib.hid (show QS wr w.heap.size _ q ∧ Below w.heap.size w wr from ⟨hQ, hB⟩)
        clear HR HS hQ hB hN hkid f0 f1 f2 f3 f4 f5 f6 f7 f8 f9 hg0 hg1
        go_wp2_with fail
        go_loopw [5, 7] (fun v iv W9 => ∃ i : Nat, iv = .int .i64 i ∧ Hid (∃ q' : Fo, i ≤ q'.len ∧ QS W9 w.heap.size v q' ∧ Below w.heap.size w W9 ∧ NIn q' (q.nth k).kids (q.nth k) k i s M)) (fun v iv _ => (q.nth k).kids.len - (intOf iv).toNat)
        case atStart => exact ⟨0, rfl, Lib.hid ⟨q, Nat.zero_le _, HQ.out.1, HQ.out.2, HIN.out⟩⟩
        case round =>
          obtain ⟨i, rfl, HR⟩ := hrel
          obtain ⟨q', hi, hQ, hB, hN⟩ := HR.out
          clear HR HQ HIN
          have hlt' := hN.1
          have hql' : q'.len ≤ 200000 := by have := hN.2.1; omega
          obtain ⟨g', c9', A2', c2', rfl, hg0, hg1, hkid, f0, f1, f2, f3, f4, f5, f6, f7, f8, f9⟩ := hQ.nth k hlt'
          rw [hN.2.2.2.1] at hkid f9
          generalize q.nth k = b at *
          generalize hkd : b.kids = kd at *
          clear f0 f1 f2 f3 f4 f5 f6 f7 f8
          have HN := Lib.hid hN
          have HKD := Lib.hid hkd
          clear hN hkd
          by_cases hik : i < kd.len
          · by_cases hql2 : q'.len ≤ M + 1
            · obtain ⟨gA, oA, rfl, hrow⟩ := kids_row hkid hik
              obtain ⟨A3, c3, hk3, hp3, h0, h1, h2, h3, h4, h5, h6, h7, h8, h9⟩ := RowAt.nth kd gA oA i hrow hik
              have hsz : w.heap.size ≤ wr.heap.size := hB.size
              have bI : Below wr.heap.size wr (wr.alloc (.cells #[.int .i64 (kd.nth i).f.k, .int .i64 (kd.nth i).f.vk, .int .i64 (kd.nth i).f.vn, .string (kd.nth i).f.vs, .int .i64 (kd.nth i).f.r1, .int .i64 (kd.nth i).f.r2, .int .i64 (kd.nth i).f.r3, .int .i64 (kd.nth i).f.r4, .string (kd.nth i).f.op, .slice A3 (kd.nth i).kids.len c3] 30)) := (Below.refl _ _).alloc (Nat.le_refl _) _
              have hB2 := hB.trans (bI.mono hB.size)
              have hk4 : KidsAt (wr.alloc (.cells #[.int .i64 (kd.nth i).f.k, .int .i64 (kd.nth i).f.vk, .int .i64 (kd.nth i).f.vn, .string (kd.nth i).f.vs, .int .i64 (kd.nth i).f.r1, .int .i64 (kd.nth i).f.r2, .int .i64 (kd.nth i).f.r3, .int .i64 (kd.nth i).f.r4, .string (kd.nth i).f.op, .slice A3 (kd.nth i).kids.len c3] 30)) (fun g => g < w.heap.size) (kd.nth i).kids A3 := kids_below hk3 (bI.mono hB.size) hB.size
              have hlo := hQ.lt
              obtain ⟨vs, hown, hvs⟩ := hQ.below bI
              have hnb := heap_alloc_new wr (.cells #[.int .i64 (kd.nth i).f.k, .int .i64 (kd.nth i).f.vk, .int .i64 (kd.nth i).f.vn, .string (kd.nth i).f.vs, .int .i64 (kd.nth i).f.r1, .int .i64 (kd.nth i).f.r2, .int .i64 (kd.nth i).f.r3, .int .i64 (kd.nth i).f.r4, .string (kd.nth i).f.op, .slice A3 (kd.nth i).kids.len c3] 30)
              have HH := Lib.hid hown
              have HNB := Lib.hid hnb
              have HREST := Lib.hid (show RowV (wr.alloc (.cells #[.int .i64 (kd.nth i).f.k, .int .i64 (kd.nth i).f.vk, .int .i64 (kd.nth i).f.vn, .string (kd.nth i).f.vs, .int .i64 (kd.nth i).f.r1, .int .i64 (kd.nth i).f.r2, .int .i64 (kd.nth i).f.r3, .int .i64 (kd.nth i).f.r4, .string (kd.nth i).f.op, .slice A3 (kd.nth i).kids.len c3] 30)) (fun g => g < w.heap.size) q' vs ∧ KidsAt (wr.alloc (.cells #[.int .i64 (kd.nth i).f.k, .int .i64 (kd.nth i).f.vk, .int .i64 (kd.nth i).f.vn, .string (kd.nth i).f.vs, .int .i64 (kd.nth i).f.r1, .int .i64 (kd.nth i).f.r2, .int .i64 (kd.nth i).f.r3, .int .i64 (kd.nth i).f.r4, .string (kd.nth i).f.op, .slice A3 (kd.nth i).kids.len c3] 30)) (fun g => g < w.heap.size) (kd.nth i).kids A3 ∧ Below w.heap.size w (wr.alloc (.cells #[.int .i64 (kd.nth i).f.k, .int .i64 (kd.nth i).f.vk, .int .i64 (kd.nth i).f.vn, .string (kd.nth i).f.vs, .int .i64 (kd.nth i).f.r1, .int .i64 (kd.nth i).f.r2, .int .i64 (kd.nth i).f.r3, .int .i64 (kd.nth i).f.r4, .string (kd.nth i).f.op, .slice A3 (kd.nth i).kids.len c3] 30)) from ⟨hvs, hk4, hB2⟩)
              have s8 : w.heap.size ≤ (wr.alloc (.cells #[.int .i64 (kd.nth i).f.k, .int .i64 (kd.nth i).f.vk, .int .i64 (kd.nth i).f.vn, .string (kd.nth i).f.vs, .int .i64 (kd.nth i).f.r1, .int .i64 (kd.nth i).f.r2, .int .i64 (kd.nth i).f.r3, .int .i64 (kd.nth i).f.r4, .string (kd.nth i).f.op, .slice A3 (kd.nth i).kids.len c3] 30)).heap.size := hB2.size
              have HST := Lib.hid (HN.out.step hik hql2)
              clear hQ hB hkid hrow hk3 bI hB2 hk4 hown hvs hnb
              go_wp2_with (at_builtin
                           refine wpList_append_own_at _ rfl (.tmp 36) (.tmp 45) _ rfl w.heap.size 30 i0 _ 10 112 Tryz.underlying28 HI0.out HZ0.out HZ1.out HZ2.out rfl (by omega) (.slice (some ⟨g', 0, none⟩) q'.len c9') q'.len (ncells vs) rfl HH.out ⟨wr.heap.size, 0, none⟩ 1 1 [.int .i64 (kd.nth i).f.k, .int .i64 (kd.nth i).f.vk, .int .i64 (kd.nth i).f.vn, .string (kd.nth i).f.vs, .int .i64 (kd.nth i).f.r1, .int .i64 (kd.nth i).f.r2, .int .i64 (kd.nth i).f.r3, .int .i64 (kd.nth i).f.r4, .string (kd.nth i).f.op, .slice A3 (kd.nth i).kids.len c3] rfl rfl (World.news_of_block HNB.out) (by simp [Value.oneCell']) (by unfold maxLen; omega) (by omega) s8 ?_
                           intro v9 w9 hown9 hg9 hnil9 hat9
                           have Q9 : QS w9 w.heap.size v9 (q'.app (kd.nth i).one) := QS.more (kd := (kd.nth i).one) (ws := [nodeV (kd.nth i).f A3 (kd.nth i).kids.len c3]) HREST.out.1 ⟨⟨A3, c3, rfl, HREST.out.2.1⟩, trivial⟩ hown9 hg9 (fun x hx => by have := hlo x hx; exact ⟨this.1, Nat.lt_of_lt_of_le this.2 (by simp)⟩)
                           have B9 : Below w.heap.size w w9 := below_grown HREST.out.2.2 s8 hg9 (fun x hx => (hlo x hx).1)
                           clear hown9 hg9 hnil9 hat9)
              go_roundw
              case rel => exact ⟨i + 1, by go_num, Lib.hid ⟨_, by rw [Fo.len_app, Nd.one_len]; omega, Q9, B9, HST.out⟩⟩
              case measure => simp [intOf]; omega
            · have hov : M + 2 ≤ q'.len := by omega
              have HD := Lib.hid (HN.out.done (Or.inr hov))
              clear hkid
              go_wp2_with fail
              go_roundw
              case rel => exact ⟨k + 1, by omega, by go_num, Lib.hid ⟨q', hQ, hB, HD.out⟩⟩
              case measure => simp [intOf]; omega
          · have HD := Lib.hid (HN.out.done (Or.inl (by omega)))
            clear hkid
            go_wp2_with fail
            go_roundw
            case rel => exact ⟨k + 1, by omega, by go_num, Lib.hid ⟨q', hQ, hB, HD.out⟩⟩
            case measure => simp [intOf]; omega
      · obtain ⟨A, c, rfl⟩ := hQ.form
        have HE := Lib.hid (hN.end2 (by omega) hk)
        have hB9 := hB
        clear hQ HR HS hN
        go_wp2_with fail
        go_ret
        exact ⟨k, rfl, hB9, HE.out⟩
    · obtain ⟨A, c, rfl⟩ := hQ.form
      have HE := Lib.hid (hN.end1 (by omega) hk)
      have hB9 := hB
      clear hQ HR HS hN
      go_wp2_with fail
      go_ret
      exact ⟨k, rfl, hB9, HE.out⟩
end Go.Proofs.YtccigjelbnjcoaaGreatDoor.TreeC
namespace Go.Proofs.YtccigjelbnjcoaaGreatDoor.TreeC
set_option linter.unusedVariables false
open Go.RowKit Go.Proofs.YtccigjelbnjcoaaGreatDoor.NumC Go.Proofs.YtccigjelbnjcoaaGreatDoor.LexC
theorem ncells_one {w : World} {P : Nat → Prop} : ∀ (fo : Fo) (vs : List Value), RowV w P fo vs → ∀ u ∈ ncells vs, u.oneCell' = true := by
  intro fo
  induction fo with
  | nil => intro vs h; cases vs with
    | nil => intro u hu; simp [ncells] at hu
    | cons v vs => exact absurd h (by simp [RowV])
  | cons f kids next _ ih => intro vs h; cases vs with
    | nil => exact absurd h (by simp [RowV])
    | cons v vs =>
      obtain ⟨⟨A, c, rfl, -⟩, hr⟩ := h
      intro u hu
      rw [ncells_cons, List.mem_append] at hu
      rcases hu with hu | hu
      · simp [nodeV, Value.cells] at hu
        rcases hu with rfl | rfl | rfl | rfl | rfl | rfl | rfl | rfl | rfl | rfl <;> rfl
      · exact ih vs hr u hu
theorem run_append_none0 {w : World} (base : Nat) (t ty e : TypeId) (i : TypeInfo) (size c : Nat) (ht : Tryz.prog.underlying t = some (.slice e)) (hi : Tryz.prog.info? e = some i)
    (v : Value) (n : Nat) (xs : List Value) (hown : w.ownsRow base e size v n xs) : (Builtin.append_ #[t, t] ty #[v, .slice none 0 c]).run Tryz.prog w = .ok v w := by
  rcases hown.2 with ⟨rfl, rfl⟩ | ⟨g, cap, cur, rfl, _, _, hnc, _⟩
  · simp [Builtin.append_, run_underlying ht, sizeOf, typeInfo, hi, Builtin.lenOf, Builtin.firstCells]
  · simp [Builtin.append_, run_underlying ht, sizeOf, typeInfo, hi, Builtin.lenOf, Builtin.firstCells, hnc, storeCells]
theorem run_queue (ty : TypeId) {w : World} {B c : Nat} {v : Value} {fo kd : Fo} {A : Option Addr} (h : QS w B v fo) (hk : KidsAt w (fun g => g < B) kd A) (hl : fo.len + kd.len ≤ 1000000) (hB : B ≤ w.heap.size) :
    ∃ v' w', (Builtin.append_ #[28, 28] ty #[v, .slice A kd.len c]).run Tryz.prog w = .ok v' w' ∧ QS w' B v' (fo.app kd) ∧ w.grownBy w' v.ownBlock ∧ (v'.ownBlock = v.ownBlock ∨ v'.ownBlock = some w.heap.size) := by
  obtain ⟨i0, hi0, hz0, hz1, hz2⟩ := info_parts node_info
  have hlo := h.lt
  obtain ⟨vs, hown, hvs⟩ := h
  have hkey : ∃ ws, RowV w (fun g => g < B) kd ws ∧ (ncells ws).length = kd.len * 10 ∧ (A = none → kd = .nil) ∧ ∀ a, A = some a → ∀ j u, (ncells ws)[j]? = some u → w.cell? (a.add j) = some u := by
    rcases hk with rfl | ⟨g, o, rfl, hr⟩
    · exact ⟨[], trivial, rfl, fun _ => rfl, fun a _ j u hj => by simp [ncells] at hj⟩
    · obtain ⟨ws, h1, h2, h3⟩ := rowV_of kd o hr
      exact ⟨ws, h1, h2, (fun e => by cases e), (fun a e j u hj => by cases e; rw [addr_add]; exact h3 j u hj)⟩
  obtain ⟨ws, hws, hlen, hnone, hcell⟩ := hkey
  cases A with
  | none =>
    obtain rfl := hnone rfl
    refine ⟨v, w, run_append_none0 B 28 ty 30 i0 10 c Tryz.underlying28 hi0 v fo.len (ncells vs) hown, by rw [Fo.app_nil]; exact ⟨vs, hown, hvs⟩, ⟨rfl, rfl, rfl, Nat.le_refl _, fun _ _ _ => rfl⟩, Or.inl rfl⟩
  | some a =>
    obtain ⟨v', w', hr, h1, h2, -, h3⟩ := run_append_own_at (P := Tryz.prog) w B 28 ty 30 i0 _ 10 112 Tryz.underlying28 hi0 hz0 hz1 hz2 rfl (by omega) v fo.len (ncells vs) hown a kd.len c (ncells ws) hlen (hcell a rfl) (ncells_one kd ws hws) (by unfold maxLen; omega) (by omega) hB
    exact ⟨v', w', hr, QS.more hvs hws h1 h2 hlo, h2, h3⟩
theorem wpList_append_queue {ops : Array Oper} {rest : List Oper} {o : Oper} {a : Act} {Q : Exit → Act → World → Prop} (w : World) (hgd : o.guard = none) (s x : Operand) (ho : o.op = .call { callee := .builtin .append, args := #[s, x], argTypes := #[28, 28] })
    {B c : Nat} {v : Value} {fo kd : Fo} {A : Option Addr} (hs : a.eval s = v) (hx : a.eval x = .slice A kd.len c) (hq : QS w B v fo) (hk : KidsAt w (fun g => g < B) kd A) (hl : fo.len + kd.len ≤ 1000000) (hB : B ≤ w.heap.size)
    (h : ∀ v' w', QS w' B v' (fo.app kd) → w.grownBy w' v.ownBlock → (v'.ownBlock = v.ownBlock ∨ v'.ownBlock = some w.heap.size) → wpList Tryz.prog ops Q rest (a.put o.dst v') w') :
    wpList Tryz.prog ops Q (o :: rest) a w := by
  refine wpList_plain hgd fun K hK => ?_
  obtain ⟨v', w', hr, h2, h3, h4⟩ := run_queue o.type (c := c) hq hk hl hB
  unfold Oper.wp execOp
  simp only [ho, resolve, invoke, builtin, Sem.run_bind, Sem.run_pure, Result.andThen_ok, List.map_toArray, List.map_cons, List.map_nil, hs, hx, hr]
  exact hK _ _ (h v' w' h2 h3 h4)
theorem QS.grown {w w' : World} {B : Nat} {v : Value} {fo : Fo} {row : Option Nat} (h : QS w B v fo) (hg : w.grownBy w' row) (hr : ∀ k, row = some k → B ≤ k) (hne : v.ownBlock = none ∨ v.ownBlock ≠ row) (hB : B ≤ w.heap.size) : QS w' B v fo := by
  obtain ⟨vs, hown, hvs⟩ := h
  exact ⟨vs, hown.kept hg hne, RowV.same (fun g hg2 hl => ⟨hg.block g hl (fun e => by have := hr g e.symm; omega), hg2⟩) _ _ hvs⟩
def DOut (w wr : World) (D : Nat) (v : Value) (d : Nat) : Prop := ∃ row : Fo, QS wr w.heap.size v row ∧ Below w.heap.size w wr ∧ d + row.deep = D ∧ row.size ≤ 2000
def DIn (w wr : World) (row : Fo) (rv v : Value) (k : Nat) : Prop := ∃ nx : Fo, QS wr w.heap.size v nx ∧ QS wr w.heap.size rv row ∧ Below w.heap.size w wr ∧ (v.ownBlock = none ∨ v.ownBlock ≠ rv.ownBlock) ∧ nx.app (row.drop k).under = row.under
theorem DIn.step {w wr w' : World} {row : Fo} {rv v v' : Value} {k : Nat} {nx : Fo} (hk : k < row.len) (hn : QS w' w.heap.size v' (nx.app (row.nth k).kids)) (hR : QS wr w.heap.size rv row) (hB : Below w.heap.size w wr) (hne : v.ownBlock = none ∨ v.ownBlock ≠ rv.ownBlock) (hv : QS wr w.heap.size v nx) (he : nx.app (row.drop k).under = row.under)
    (hg : wr.grownBy w' v.ownBlock) (ha : v'.ownBlock = v.ownBlock ∨ v'.ownBlock = some wr.heap.size) : DIn w w' row rv v' (k + 1) := by
  have hlo := hv.lt
  have hlr := hR.lt
  refine ⟨_, hn, hR.grown hg (fun k hk => (hlo k hk).1) ?_ hB.size, below_grown hB hB.size hg (fun k hk => (hlo k hk).1), ?_, ?_⟩
  · rcases hne with hne | hne
    · right; intro e; rw [hne] at e
      obtain ⟨g, c, A2, c2, rfl, -⟩ := hR.nth k hk
      cases e
    · exact Or.inr fun e => hne e.symm
  · rcases ha with ha | ha
    · rw [ha]; exact hne
    · right; rw [ha]; intro e; have := (hlr _ e.symm).2; omega
  · rw [Fo.app_assoc, ← Fo.under_step row k hk]; exact he
set_option maxRecDepth 100000 in
set_option maxHeartbeats 2000000 in
theorem rDepth (a : Nd) (A : Option Addr) (c : Nat) (w : World) (hK : KidsAt w (fun g => g < w.heap.size) a.kids A) :
    Calls Tryz.prog 23 #[.agg #[.int .i64 a.f.k, .int .i64 a.f.vk, .int .i64 a.f.vn, .string a.f.vs, .int .i64 a.f.r1, .int .i64 a.f.r2, .int .i64 a.f.r3, .int .i64 a.f.r4, .string a.f.op, .slice A a.kids.len c]] w fun e w' => e = .returned (.int .i64 ((if a.size ≤ 2000 then a.deep else 0 : Nat) : Int)) ∧ Below w.heap.size w w' := by
  have b1 : Below w.heap.size w (w.alloc (.cells #[.int .i64 a.f.k, .int .i64 a.f.vk, .int .i64 a.f.vn, .string a.f.vs, .int .i64 a.f.r1, .int .i64 a.f.r2, .int .i64 a.f.r3, .int .i64 a.f.r4, .string a.f.op, .slice A a.kids.len c] 30)) := (Below.refl _ _).alloc (Nat.le_refl _) _
  have L1 : NLoc (w.alloc (.cells #[.int .i64 a.f.k, .int .i64 a.f.vk, .int .i64 a.f.vn, .string a.f.vs, .int .i64 a.f.r1, .int .i64 a.f.r2, .int .i64 a.f.r3, .int .i64 a.f.r4, .string a.f.op, .slice A a.kids.len c] 30)) w.heap.size a.f A a.kids.len c := ⟨heap_alloc_new _ _⟩
  have HK1 := Lib.hid (below_row hK b1)
  have HK := Lib.hid hK
  generalize hD : (if a.size ≤ 2000 then a.deep else 0) = D
  have HD := Lib.hid hD.symm
  clear hD hK
  go_enter Tryz.func23, Tryz.ntmps23
  go_wp2_with fail
  generalize (w.alloc (.cells #[.int .i64 a.f.k, .int .i64 a.f.vk, .int .i64 a.f.vn, .string a.f.vs, .int .i64 a.f.r1, .int .i64 a.f.r2, .int .i64 a.f.r3, .int .i64 a.f.r4, .string a.f.op, .slice A a.kids.len c] 30)) = W1 at *
  refine (knodes 2000 2000 rfl (by decide) a A c W1 HK1.out).mono ?_; rintro e w2 ⟨r, rfl, hb2, hr1, hr2, hr3⟩
  have B2 : Below w.heap.size w w2 := b1.trans (hb2.mono b1.size)
  have L2 := L1.kept (Kept.of (x := W1.heap.size) hb2) (Nat.ne_of_lt L1.lt)
  clear L1 b1 HK1
  by_cases hs : a.size ≤ 2000
  · have hr : r ≤ 2000 := by have := hr1 hs; omega
    have E0 : Hid (D = a.deep) := Lib.hid (HD.out.trans (if_pos hs))
    have hdd : a.deep ≤ a.size := by have := Fo.deep_size a.kids; unfold Nd.deep Nd.size; omega
    have t1 : ¬ (2000 : Int) < (r : Int) := by omega
    obtain ⟨d0, d1, d2, d3, d4, d5, d6, d7, d8, d9, -⟩ := L2.cells
    have HB2 := Lib.hid B2
    have b3 : Below w.heap.size w (w2.alloc (.cells #[.int .i64 a.f.k, .int .i64 a.f.vk, .int .i64 a.f.vn, .string a.f.vs, .int .i64 a.f.r1, .int .i64 a.f.r2, .int .i64 a.f.r3, .int .i64 a.f.r4, .string a.f.op, .slice A a.kids.len c] 30)) := B2.alloc B2.size _
    have HQ : Hid (DOut w (w2.alloc (.cells #[.int .i64 a.f.k, .int .i64 a.f.vk, .int .i64 a.f.vn, .string a.f.vs, .int .i64 a.f.r1, .int .i64 a.f.r2, .int .i64 a.f.r3, .int .i64 a.f.r4, .string a.f.op, .slice A a.kids.len c] 30)) a.deep (.slice (some ⟨w2.heap.size, 0, none⟩) 1 1) 0) := Lib.hid ⟨a.one, QS.one (f := a.f) (kd := a.kids) (c := c) (heap_alloc_new _ _) B2.size rfl (kids_below HK.out b3 (Nat.le_refl _)), b3, by rw [Nd.one_deep]; omega, by rw [Nd.one_size]; exact hs⟩
    clear hr1 hr2 hr3 hb2 B2 b3 L2
    go_wp2_with fail
    go_loopw [3, 4, 5] (fun v dv iv wr => ∃ d : Nat, d ≤ 2000 ∧ dv = .int .i64 d ∧ iv = .int .i64 d ∧ Hid (DOut w wr a.deep v d)) (fun _ _ iv _ => 2001 - (intOf iv).toNat)
    case atStart => exact ⟨0, by omega, rfl, rfl, HQ⟩
    case round =>
      clear HQ HB2 d0 d1 d2 d3 d4 d5 d6 d7 d8 d9
      obtain ⟨d, hd, rfl, rfl, HR⟩ := hrel
      obtain ⟨row, hQ, hB, hde, hrs⟩ := HR.out
      clear HR
      have hrl : row.len ≤ 2000 := Nat.le_trans (Fo.len_size row) hrs
      obtain ⟨RA, rc, rfl⟩ := hQ.form
      by_cases h0 : 0 < row.len
      · have hdp := Fo.deep_pos h0
        have hd2 : d < 2000 := by omega
        have HIN : Hid (DIn w wr row (.slice RA row.len rc) (.slice none 0 0) 0) := Lib.hid ⟨.nil, QS.nil _ _, hQ, hB, Or.inl rfl, by rw [Fo.drop_zero]; rfl⟩
        have HDE := Lib.hid (show d + row.deep = a.deep ∧ row.size ≤ 2000 from ⟨hde, hrs⟩)
        clear hQ hB hde hrs
        go_wp2_with fail
        go_loopw [6, 7] (fun v iv W9 => ∃ k : Nat, k ≤ row.len ∧ iv = .int .i64 k ∧ Hid (DIn w W9 row (.slice RA row.len rc) v k)) (fun _ iv _ => row.len - (intOf iv).toNat)
        case atStart => exact ⟨0, Nat.zero_le _, rfl, HIN⟩
        case round =>
          clear HIN
          obtain ⟨k, hk, rfl, HR⟩ := hrel
          obtain ⟨nx, hN, hQ, hB, hne, he⟩ := HR.out
          clear HR
          by_cases hlt : k < row.len
          · have hd1 : (k : Int) < (row.len : Int) := by omega
            obtain ⟨g, c9, A2, c2, e9, hg0, hg1, hkid, f0, f1, f2, f3, f4, f5, f6, f7, f8, f9⟩ := hQ.nth k hlt
            injection e9 with e91 e92 e93
            subst e91 e93
            have HST := Lib.hid (show QS wr w.heap.size _ row ∧ Below w.heap.size w wr ∧ _ ∧ nx.app (row.drop k).under = row.under from ⟨hQ, hB, hne, he⟩)
            have HN := Lib.hid hN
            have HKD := Lib.hid hkid
            have hnl : nx.len + (row.nth k).kids.len ≤ 1000000 := by
              have h1 := congrArg Fo.len he
              rw [Fo.len_app, Fo.under_step row k hlt, Fo.len_app] at h1
              have h2 := Fo.len_size row.under
              have h3 := Fo.under_size row
              have h4 := HDE.out.2
              omega
            have hBs := hB.size
            have HN2 := Lib.hid hN
            clear hQ hB hne he hN hkid f0 f1 f2 f3 f4 f5 f6 f7 f8 hg0 hg1
            obtain ⟨NA, nc, rfl⟩ := HN2.out.form
            clear HN2
            go_wp2_with (at_builtin
                         refine wpList_append_queue _ rfl (.tmp 28) (.tmp 33) rfl (B := w.heap.size) (c := c2) (fo := nx) (kd := (row.nth k).kids) (A := A2) rfl rfl HN.out HKD.out hnl hBs ?_
                         intro v9 w9 hq9 hg9 hat9
                         have HD9 : Hid (DIn w w9 row _ v9 (k + 1)) := Lib.hid (DIn.step hlt hq9 HST.out.1 HST.out.2.1 HST.out.2.2.1 HN.out HST.out.2.2.2 hg9 hat9)
                         clear hq9 hg9 hat9)
            go_roundw
            case rel => exact ⟨k + 1, by omega, by go_num, HD9⟩
            case measure => simp [intOf]; omega
          · have hd1 : ¬ (k : Int) < (row.len : Int) := by omega
            have hnx : nx = row.under := by rw [← he, Fo.drop_len row k (by omega)]; exact (Fo.app_nil nx).symm
            subst hnx
            obtain ⟨NA, nc, rfl⟩ := hN.form
            have HO : Hid (DOut w wr a.deep _ (d + 1)) := Lib.hid ⟨row.under, hN, hB, by have h1 := HDE.out.1; have h2 := Fo.under_deep row; omega, by have h1 := HDE.out.2; have h2 := Fo.under_size row; omega⟩
            clear hN hQ hB hne he
            go_wp2_with fail
            go_roundw
            case rel => exact ⟨d + 1, by omega, by go_num, by go_num, HO⟩
            case measure => simp [intOf]; omega
      · have hz : row.len = 0 := by omega
        have h0' : ¬ 0 < row.len := h0
        have E1 : Hid (a.deep = d) := Lib.hid (by have := Fo.deep_nil hz; omega)
        have hB9 := Lib.hid hB
        clear hQ hB hde hrs
        go_wp2_with fail
        go_ret
        exact ⟨by show Ending.returned (.int .i64 (d : Int)) = _; rw [E0.out, E1.out], hB9.out⟩
  · have t1 : (2000 : Int) < (r : Int) := by have := hr2 (by omega); omega
    have E0 : Hid (D = 0) := Lib.hid (HD.out.trans (if_neg hs))
    have HB2 := Lib.hid B2
    clear hr1 hr2 hr3 hb2 B2 L2
    go_wp2_with fail
    go_ret
    exact ⟨by rw [E0.out]; rfl, HB2.out⟩
end Go.Proofs.YtccigjelbnjcoaaGreatDoor.TreeC
namespace Go.Proofs.YtccigjelbnjcoaaGreatDoor.RefsC
set_option linter.unusedVariables false
open Go.RowKit Go.Proofs.YtccigjelbnjcoaaGreatDoor.NumC
open Go.Proofs.YtccigjelbnjcoaaGreatDoor.TreeC (Kept)
def RowsAt (w : World) (g : Nat) (m : Nat → Nat) : Prop := ∃ cs : Array Value, w.heap[g]? = some (.cells cs 57 (0, 0)) ∧ cs.size = 1001 ∧ ∀ i, i < 1001 → cs[i]? = some (.int .u64 ((m i : Nat) : Int)) ∧ m i < 2251799813685248
theorem RowsAt.lt {w : World} {g : Nat} {m : Nat → Nat} (h : RowsAt w g m) : g < w.heap.size := by
  obtain ⟨cs, h, -⟩ := h; exact (Array.getElem?_eq_some_iff.1 h).1
theorem RowsAt.below {w w' : World} {g : Nat} {m : Nat → Nat} (h : RowsAt w g m) (hk : Below w.heap.size w w') : RowsAt w' g m := by
  have hl := h.lt
  obtain ⟨cs, h1, h2⟩ := h
  exact ⟨cs, (hk.block g hl).trans h1, h2⟩
theorem RowsAt.cell {w : World} {g : Nat} {m : Nat → Nat} (h : RowsAt w g m) (i : Nat) (hi : i < 1001) : w.cell? ⟨g, i, none⟩ = some (.int .u64 ((m i : Nat) : Int)) ∧ w.frozen? ⟨g, i, none⟩ = false ∧ m i < 2251799813685248 := by
  obtain ⟨cs, h1, h2, h3⟩ := h
  refine ⟨?_, ?_, (h3 i hi).2⟩
  · unfold World.cell?; simp [h1, (h3 i hi).1]
  · unfold World.frozen?; simp [h1]
theorem RowsAt.store {w : World} {g : Nat} {m : Nat → Nat} (h : RowsAt w g m) (i v : Nat) (hv : v < 2251799813685248) : RowsAt (w.setCell ⟨g, i, none⟩ (.int .u64 (v : Int))) g (fun j => if j = i then v else m j) := by
  obtain ⟨cs, h1, h2, h3⟩ := h
  refine ⟨_, heap_setCell_same w g i cs _ _ h1, by simpa using h2, fun j hj => ?_⟩
  rw [Array.getElem?_setIfInBounds]
  by_cases e : j = i
  · subst e
    rw [if_pos rfl, if_pos (by omega)]
    exact ⟨by simp, by simpa using hv⟩
  · rw [if_neg (fun e2 => e e2.symm)]
    have := h3 j hj
    simp only [e, if_false]
    exact this
def colN (p q : Nat) : Nat := 2 ^ (q + 1) - 2 ^ p
theorem col_bit {p q : Nat} (h : p ≤ q) (i : Nat) : (colN p q).testBit i = decide (p ≤ i ∧ i ≤ q) := by
  have e : colN p q = 2 ^ p * (2 ^ (q + 1 - p) - 1) := by
    unfold colN
    rw [Nat.mul_sub, Nat.mul_one, ← Nat.pow_add, show p + (q + 1 - p) = q + 1 from by omega]
  rw [e, Nat.testBit_two_pow_mul, Nat.testBit_two_pow_sub_one, ← Bool.decide_and, decide_eq_decide]
  omega
theorem col_lt {p q : Nat} (hq : q ≤ 50) : colN p q < 2251799813685248 := by
  unfold colN
  have h1 : 2 ^ (q + 1) ≤ 2 ^ 51 := Nat.pow_le_pow_right (by decide) (by omega)
  have h2 : 0 < 2 ^ p := Nat.pow_pos (by decide)
  omega
theorem col_wrap {p q : Nat} (h : p ≤ q) (hq : q ≤ 50) : IntKind.u64.wrap (IntKind.u64.wrap (2 ^ (q + 1)) - IntKind.u64.wrap (2 ^ p)) = ((colN p q : Nat) : Int) := by
  have h1 : (2 : Nat) ^ (q + 1) ≤ 2 ^ 51 := Nat.pow_le_pow_right (by decide) (by omega)
  have h2 : (2 : Nat) ^ p ≤ 2 ^ (q + 1) := Nat.pow_le_pow_right (by decide) (by omega)
  have h3 : (2 : Int) ^ (q + 1) = ((2 ^ (q + 1) : Nat) : Int) := by push_cast; rfl
  have h4 : (2 : Int) ^ p = ((2 ^ p : Nat) : Int) := by push_cast; rfl
  rw [h3, h4]
  unfold colN
  generalize (2 : Nat) ^ (q + 1) = x at *
  generalize (2 : Nat) ^ p = y at *
  clear h3 h4
  simp only [IntKind.wrap_u64]
  omega
def coverN (m : Nat → Nat) (v o n : Nat) (i : Nat) : Nat := if o ≤ i ∧ i < o + n then m i ||| v else m i
set_option maxHeartbeats 1000000 in
set_option maxRecDepth 100000 in
theorem ccover (a c : Int) (p q : Nat) (h1 : p ≤ q) (h2 : q ≤ 50) (g o n cap : Nat) (m : Nat → Nat) (w : World) (ho : o + n ≤ 1001) (hR : RowsAt w g m) :
    Calls Tryz.prog 39 #[.slice (some ⟨g, o, none⟩) n cap, .agg #[.int .i64 a, .int .i64 p, .int .i64 c, .int .i64 q]] w fun e w' => e = .returned (.tuple #[]) ∧ Kept g w w' ∧ RowsAt w' g (coverN m (colN p q) o n) := by
  have HE := Lib.hid (col_wrap h1 h2)
  have hcl := col_lt (p := p) h2
  have HR := Lib.hid hR
  have hg := hR.lt
  clear hR
  go_enter Tryz.func39, Tryz.ntmps39
  go_wp2
  go_quiet (fail)
  go_wp2_with fail
  rw [HE.out]
  generalize hcv0 : colN p q = v at *
  have hcv := Lib.hid hcv0
  clear hcv0
  have K1 : Kept g w ((w.alloc (.cells #[.int .i64 a, .int .i64 p, .int .i64 c, .int .i64 q] 27)).drewN nq) := ((Kept.refl g w).alloc _).drew nq
  have HR1 : RowsAt ((w.alloc (.cells #[.int .i64 a, .int .i64 p, .int .i64 c, .int .i64 q] 27)).drewN nq) g m := HR.out.below (((Below.refl _ w).alloc (Nat.le_refl _) _).trans ⟨rfl, rfl, rfl, Nat.le_refl _, fun _ _ => rfl⟩)
  generalize ((w.alloc (.cells #[.int .i64 a, .int .i64 p, .int .i64 c, .int .i64 q] 27)).drewN nq) = W at *
  go_loopw [18] (fun iv wr => ∃ i : Nat, i ≤ n ∧ iv = .int .i64 i ∧ Hid (Kept g W wr ∧ RowsAt wr g (coverN m v o i))) (fun iv _ => n - (intOf iv).toNat)
  case atStart =>
    refine ⟨0, Nat.zero_le _, rfl, Lib.hid ⟨Kept.refl _ _, ?_⟩⟩
    rw [show coverN m v o 0 = m from by funext j; unfold coverN; rw [if_neg (by omega)]]
    exact HR1
  case round =>
    obtain ⟨i, hi, rfl, HR2⟩ := hrel
    obtain ⟨hk, hr⟩ := HR2.out
    by_cases hlt : i < n
    · have hd1 : (i : Int) < (n : Int) := by omega
      obtain ⟨c1, c2, c3⟩ := hr.cell (o + i) (by omega)
      have hm : coverN m v o i (o + i) = m (o + i) := by unfold coverN; rw [if_neg (by omega)]
      rw [hm] at c1 c3
      have fo := bits_or (m (o + i)) v (by omega) (by omega)
      have HS := Lib.hid (hr.store (o + i) (m (o + i) ||| v) (Nat.or_lt_two_pow (n := 51) c3 hcl))
      have HK := Lib.hid (hk.setCell (o + i) (.int .u64 ((m (o + i) ||| v : Nat) : Int)))
      generalize hor : m (o + i) ||| v = u at *
      clear hk hr hm
      have ef : (fun j => if j = o + i then u else coverN m v o i j) = coverN m v o (i + 1) := by
        funext j
        unfold coverN
        by_cases e : j = o + i
        · rw [if_pos e, if_pos (by omega), e]; exact hor.symm
        · rw [if_neg e]
          by_cases e2 : o ≤ j ∧ j < o + i
          · rw [if_pos e2, if_pos (by omega)]
          · rw [if_neg e2, if_neg (by omega)]
      rw [ef] at HS
      go_wp2
      go_roundw
      case rel => exact ⟨i + 1, by omega, by go_num, Lib.hid ⟨HK.out, HS.out⟩⟩
      case measure => simp [intOf]; omega
    · have hd1 : ¬ (i : Int) < (n : Int) := by omega
      obtain rfl : i = n := by omega
      have HF := Lib.hid (show Kept g w wr ∧ RowsAt wr g (coverN m v o i) from ⟨K1.trans hk, hr⟩)
      clear hk hr
      go_wp2
      rw [← hcv.out] at HF
      exact bodyPost_end (results_none (by rfl) _ _ _) rfl ⟨rfl, HF.out.1, HF.out.2⟩
end Go.Proofs.YtccigjelbnjcoaaGreatDoor.RefsC
namespace Go.Proofs.YtccigjelbnjcoaaGreatDoor.RefsC
set_option linter.unusedVariables false
open Go.Proofs.YtccigjelbnjcoaaGreatDoor.AddrC (Cell cellB beforeB FineP fineB MeetP meetB HasP hasB)
def laidN (m : Nat → Nat) (x : Rc) : Nat → Nat := if fineB x.a x.b x.c x.d = true then coverN m (colN x.b.toNat x.d.toNat) x.a.toNat (x.c - x.a + 1).toNat else m
def rowsN (l : List Rc) : Nat → Nat := l.foldl laidN (fun _ => 0)
theorem rows_take (l : List Rc) (k : Nat) (x : Rc) (hx : l[k]? = some x) : rowsN (l.take (k + 1)) = laidN (rowsN (l.take k)) x := by
  have hk : k < l.length := (List.getElem?_eq_some_iff.1 hx).1
  unfold rowsN
  rw [List.take_add_one, hx, List.foldl_append]
  rfl
theorem rows_bit (l : List Rc) (r i : Nat) : ∀ m : Nat → Nat, (l.foldl laidN m r).testBit i = ((m r).testBit i || hitsL l r i) := by
  induction l with
  | nil => intro m; simp [hitsL]
  | cons x l ih =>
    intro m
    rw [List.foldl_cons, ih]
    have h1 : hitsL (x :: l) r i = (hasB x.a x.b x.c x.d r i || hitsL l r i) := by unfold hitsL; rw [List.any_cons]
    rw [h1, ← Bool.or_assoc]
    congr 1
    unfold laidN
    by_cases hf : fineB x.a x.b x.c x.d = true
    · rw [if_pos hf]
      have hfp : FineP x.a x.b x.c x.d := of_decide_eq_true hf
      have hfp2 := hfp
      obtain ⟨⟨⟨k1, k2⟩, k3, k4⟩, ⟨⟨k5, k6⟩, k7, k8⟩, k9, k10⟩ := hfp2
      unfold coverN
      split
      · rename_i hr
        rw [Nat.testBit_or, col_bit (by omega)]
        congr 1
        unfold hasB
        rw [decide_eq_decide]
        constructor
        · intro h; exact ⟨hfp, by omega, by omega, by omega, by omega⟩
        · rintro ⟨-, h⟩; omega
      · rename_i hr
        have : hasB x.a x.b x.c x.d r i = false := decide_eq_false (fun h => by obtain ⟨-, h⟩ := h; omega)
        rw [this, Bool.or_false]
    · rw [if_neg hf]
      have : hasB x.a x.b x.c x.d r i = false := decide_eq_false (fun h => hf (decide_eq_true h.1))
      rw [this, Bool.or_false]
theorem rows_hit (l : List Rc) (r i : Nat) : (rowsN l r).testBit i = hitsL l r i := by
  unfold rowsN
  rw [rows_bit]; simp
theorem ones_row (l : List Rc) (r : Nat) : onesN (rowsN l r) = rowL l r := by
  unfold onesN rowL
  have h1 : ((List.range 64).filter fun i => (rowsN l r).testBit i) = (List.range 64).filter fun (i : Nat) => hitsL l r i := List.filter_congr fun i _ => rows_hit l r i
  rw [h1]
  have h2 : List.range 64 = [0] ++ ((List.range 50).map (· + 1) ++ (List.range 13).map (· + 51)) := by decide +kernel
  rw [h2, List.filter_append, List.filter_append, List.length_append, List.length_append]
  have h3 : ([0].filter fun (i : Nat) => hitsL l r i) = [] := by
    rw [List.filter_eq_nil_iff]
    intro i hi hh
    have := hits_grid hh
    unfold Cell at this
    simp at hi
    omega
  have h4 : (((List.range 13).map (· + 51)).filter fun (i : Nat) => hitsL l r i) = [] := by
    rw [List.filter_eq_nil_iff]
    intro i hi hh
    have := hits_grid hh
    unfold Cell at this
    obtain ⟨j, hj, rfl⟩ := List.mem_map.1 hi
    omega
  rw [h3, h4, List.filter_map, List.length_map]
  simp only [List.length_nil, Nat.zero_add, Nat.add_zero]
  congr 1
theorem row_zero (l : List Rc) : rowL l 0 = 0 := by
  unfold rowL
  rw [List.length_eq_zero_iff, List.filter_eq_nil_iff]
  intro i hi hh
  have := hits_grid hh
  unfold Cell at this
  omega
theorem cells_rows (l : List Rc) : ((List.range 1001).map fun j => onesN (rowsN l j)).sum = cellsL l := by
  unfold cellsL
  rw [List.range_succ_eq_map, List.map_cons, List.sum_cons, List.map_map, ones_row, show ((0 : Nat) : Int) = 0 from rfl, row_zero, Nat.zero_add]
  refine congrArg List.sum (List.map_congr_left fun j hj => ?_)
  show onesN (rowsN l (j + 1)) = _
  rw [ones_row]
  rfl
end Go.Proofs.YtccigjelbnjcoaaGreatDoor.RefsC
namespace Go.Proofs.YtccigjelbnjcoaaGreatDoor.RefsC
set_option linter.unusedVariables false
open Go.RowKit Go.Proofs.YtccigjelbnjcoaaGreatDoor.NumC
open Go.Proofs.YtccigjelbnjcoaaGreatDoor.TreeC (Kept)
theorem zero_rows (w : World) : RowsAt (w.alloc (.cells Tryz.zeroCells57 57)) w.heap.size (fun _ => 0) := by
  have h1 : Tryz.zeroCells57 = Array.replicate 1001 (.int .u64 0) := by kernel_rfl
  refine ⟨_, heap_alloc_new _ _, by rw [h1]; simp, fun i hi => ?_⟩
  rw [h1, Array.getElem?_replicate, if_pos hi]
  exact ⟨rfl, Nat.zero_lt_succ _⟩
theorem below_kept {g : Nat} {w W W' : World} (h : Below g w W) (hg : g ≤ W.heap.size) (k : Kept g W W') : Below g w W' :=
  ⟨k.os.trans h.os, k.tape.trans h.tape, k.output.trans h.output, Nat.le_trans h.size k.size, fun i hi => (k.block i (by omega) (by omega)).trans (h.block i hi)⟩
theorem slice_rows (g : Nat) (a c : Int) (w : World) (ha : 0 ≤ a) (hac : a ≤ c + 1) (hc : c ≤ 1000) (ha2 : a ≤ 1000) :
    (Instr.sliceAt 57 (.pointer (some ⟨g, 0, none⟩)) (some (.int .i64 a)) (some (.int .i64 (c + 1))) none).run Tryz.prog w = .ok (.slice (some ⟨g, a.toNat, none⟩) (c - a + 1).toNat (1001 - a.toNat)) w := by
  have hl : Tryz.prog.arrayLen 57 = 1001 := by kernel_rfl
  have he : Tryz.prog.elem 57 = 56 := by kernel_rfl
  rw [run_sliceAt_array_lh (P := Tryz.prog) w 57 ⟨g, 0, none⟩ (by kernel_rfl) .i64 .i64 a (c + 1) ha hac (by rw [hl]; omega), he, Tryz.sizeOf56]
  simp only [Result.andThen_ok, slicedAt, hl]
  rw [if_neg (by omega)]
  have e1 : (c + 1).toNat - a.toNat = (c - a + 1).toNat := by omega
  rw [e1]
  unfold Addr.add
  split
  · rename_i h
    rw [show a.toNat = 0 from by omega]
  · simp
theorem wpList_load_rows {ops : Array Oper} {rest : List Oper} {o : Oper} {a : Act} {Q : Exit → Act → World → Prop} (w : World) (hgd : o.guard = none) (x : Operand) (ho : o.op = .load 57 x) {g : Nat} {cs : Array Value}
    (hx : a.eval x = .pointer (some ⟨g, 0, none⟩)) (hcs : w.heap[g]? = some (.cells cs 57 (0, 0))) (hs : cs.size = 1001)
    (h : wpList Tryz.prog ops Q rest (a.put o.dst (.agg cs)) w) : wpList Tryz.prog ops Q (o :: rest) a w := by
  refine wpList_plain hgd fun K hK => ?_
  have hl : (loadCells ⟨g, 0, none⟩ cs.toList.length).run Tryz.prog w = .ok cs w := by
    have := run_loadCells_list (P := Tryz.prog) w ⟨g, 0, none⟩ cs.toList (fun j v hj => by
      have : (⟨g, 0, none⟩ : Addr).add j = ⟨g, j, none⟩ := by unfold Addr.add; split <;> simp_all
      rw [this]
      unfold World.cell?
      simp only [hcs]
      simpa using hj)
    simpa using this
  rw [Array.length_toList, hs] at hl
  unfold Oper.wp execOp
  simp only [ho, hx, Instr.loadAt, Instr.sureAddr, Sem.run_bind, Sem.run_pure, Result.andThen_ok, loadVar, Tryz.isAgg57, Tryz.sizeOf57, hl, if_true]
  exact hK _ _ h
theorem index_rows {cs : Array Value} {i : Nat} {v : Value} (hi : i < 1001) (hv : cs[i]? = some v) (w : World) :
    (Instr.index 57 (.agg cs) (.int .i64 (i : Int))).run Tryz.prog w = .ok v w := by
  have hu : Tryz.prog.underlying 57 = some (.array 1001 56) := by kernel_rfl
  have h1 : (0 : Int) ≤ (i : Int) ∧ (i : Int) < (1001 : Nat) := by omega
  simp only [Instr.index, asIntOf, run_underlying hu, Sem.run_bind, Sem.run_pure, Result.andThen_ok, if_pos h1, part, Tryz.isAgg56, Tryz.sizeOf56, Int.toNat_natCast, Nat.mul_one, hv]
  rfl
set_option maxHeartbeats 1000000 in
set_option maxRecDepth 100000 in
theorem cCells (l : List Rc) (A : Option Addr) (c : Nat) (w : World) (hl : l.length ≤ 1000000) (hR : RAt w w.heap.size l A) : Calls Tryz.prog 18 #[.slice A l.length c] w fun e w' => e = .returned (.int .i64 (cellsL l : Int)) ∧ Below w.heap.size w w' := by
  have HR := Lib.hid hR
  clear hR
  go_enter Tryz.func18, Tryz.ntmps18
  go_wp2_with fail
  have hz := zero_rows w
  have K0 : Below w.heap.size w (w.alloc (.cells Tryz.zeroCells57 57)) := (Below.refl _ w).alloc (Nat.le_refl _) _
  generalize (w.alloc (.cells Tryz.zeroCells57 57)) = W at *
  generalize hg : w.heap.size = g at *
  have HK := Lib.hid K0
  have HZ := Lib.hid hz
  clear K0 hz
  go_loopw [11] (fun iv wr => ∃ k : Nat, k ≤ l.length ∧ iv = .int .i64 k ∧ Hid (Below g w wr ∧ RowsAt wr g (rowsN (l.take k)))) (fun iv _ => l.length - (intOf iv).toNat)
  case atStart => exact ⟨0, Nat.zero_le _, rfl, Lib.hid ⟨HK.out, HZ.out⟩⟩
  case round =>
    obtain ⟨k, hk, rfl, HR2⟩ := hrel
    obtain ⟨hb, hr⟩ := HR2.out
    clear HZ HK
    by_cases hlt : k < l.length
    · have hd1 : (k : Int) < (l.length : Int) := by omega
      obtain ⟨x, hx⟩ := nth_some l k hlt
      have HX := Lib.hid (rows_take l k x hx)
      obtain ⟨g0, o, rfl, hg0, c0, c1, c2, c3⟩ := (HR.out.below hb).nth k x hx
      have hlg := hr.lt
      have ng : g0 ≠ g := by omega
      have n2 : wr.heap.size ≠ g := by omega
      have HB := Lib.hid hb
      have HRR := Lib.hid hr
      clear hb hr
      go_wp2_with fail
      have hbx := RBox.new wr x
      have B1 : Below g wr (wr.alloc (.cells #[.int .i64 x.a, .int .i64 x.b, .int .i64 x.c, .int .i64 x.d] 27)) := (Below.refl _ wr).alloc (by omega) _
      have hr1 := HRR.out.below ((Below.refl wr.heap.size wr).alloc (Nat.le_refl _) (.cells #[.int .i64 x.a, .int .i64 x.b, .int .i64 x.c, .int .i64 x.d] 27))
      generalize (wr.alloc (.cells #[.int .i64 x.a, .int .i64 x.b, .int .i64 x.c, .int .i64 x.d] 27)) = V at *
      generalize hbn : wr.heap.size = bx at *
      refine (AddrC.fine _ _ _ _ _).mono ?_; rintro e V2 ⟨rfl, hb2⟩
      have hbx2 := hbx.below hb2 hbx.lt
      have hr2 := hr1.below hb2
      have HB2 : Hid (Below g w V2) := Lib.hid (HB.out.trans (B1.trans (hb2.mono (Nat.le_of_lt hr1.lt))))
      have hlb := hbx2.lt
      obtain ⟨d0, d1, d2, d3⟩ := hbx2.cells
      have HR2 := Lib.hid hr2
      clear hbx hbx2 hr1 hb2 B1 hr2 c0 c1 c2 c3 HB HRR
      cases hf : AddrC.fineB x.a x.b x.c x.d
      · have HF : Hid (rowsN (l.take (k + 1)) = rowsN (l.take k)) := Lib.hid (by rw [HX.out]; unfold laidN; rw [hf]; rfl)
        clear hf
        go_wp2_with fail
        go_roundw
        case rel => exact ⟨k + 1, by omega, by go_num, Lib.hid ⟨HB2.out, by rw [HF.out]; exact HR2.out⟩⟩
        case measure => simp [intOf]; omega
      · have HF : Hid (rowsN (l.take (k + 1)) = coverN (rowsN (l.take k)) (colN x.b.toNat x.d.toNat) x.a.toNat (x.c - x.a + 1).toNat) := Lib.hid (by rw [HX.out]; unfold laidN; rw [hf]; rfl)
        have hfp : AddrC.FineP x.a x.b x.c x.d := of_decide_eq_true hf
        obtain ⟨⟨⟨k1, k2⟩, k3, k4⟩, ⟨⟨k5, k6⟩, k7, k8⟩, k9, k10⟩ := hfp
        clear hf
        go_wp2_with fail
        refine region_tail 9 (by kernel_rfl) (by kernel_rfl) ?_
        simp only [List.take_succ_cons, List.take_zero, List.drop_succ_cons, List.drop_zero]
        replace d0 : V2.drew.cell? ⟨bx, 0, none⟩ = some (.int .i64 x.a) := d0
        replace d1 : V2.drew.cell? ⟨bx, 1, none⟩ = some (.int .i64 x.b) := d1
        replace d2 : V2.drew.cell? ⟨bx, 2, none⟩ = some (.int .i64 x.c) := d2
        replace d3 : V2.drew.cell? ⟨bx, 3, none⟩ = some (.int .i64 x.d) := d3
        replace HB2 : Hid (Below g w V2.drew) := Lib.hid (below_drew HB2.out)
        replace HR2 : Hid (RowsAt V2.drew g (rowsN (l.take k))) := Lib.hid HR2.out
        replace hlb : bx < V2.drew.heap.size := hlb
        generalize V2.drew = V3 at *
        have hw : IntKind.i64.wrap (x.c + 1) = x.c + 1 := by rw [IntKind.wrap_i64]; omega
        have hsl := slice_rows g x.a x.c V3 (by omega) (by omega) (by omega) (by omega)
        iterate 9 still_step
        refine wpStill_nil ?_
        go_wp2_with fail
        have hcv := ccover x.a x.c x.b.toNat x.d.toNat (by omega) (by omega) g x.a.toNat (x.c - x.a + 1).toNat (1001 - x.a.toNat) (rowsN (l.take k)) V3 (by omega) HR2.out
        rw [Int.toNat_of_nonneg (by omega), Int.toNat_of_nonneg (by omega)] at hcv
        refine hcv.mono ?_; rintro e V4 ⟨rfl, hk4, hr4⟩
        have HB4 : Hid (Below g w V4) := Lib.hid (below_kept HB2.out (by omega) hk4)
        have HR4 : Hid (RowsAt V4 g (rowsN (l.take (k + 1)))) := Lib.hid (by rw [HF.out]; exact hr4)
        clear hk4 hr4 d0 d1 d2 d3 hsl hw
        go_wp2_with fail
        go_roundw
        case rel => exact ⟨k + 1, by omega, by go_num, Lib.hid ⟨HB4.out, HR4.out⟩⟩
        case measure => simp [intOf]; omega
    · have hd1 : ¬ (k : Int) < (l.length : Int) := by omega
      obtain rfl : k = l.length := by omega
      have hr9 : RowsAt wr g (rowsN l) := by rw [List.take_length] at hr; exact hr
      have HB9 := Lib.hid hb
      clear hb hr
      have HR9 := Lib.hid hr9
      obtain ⟨cs, hcs, hsz, hcc⟩ := hr9
      have HCC := Lib.hid hcc
      have HCS := Lib.hid hcs
      have HSZ := Lib.hid hsz
      clear hcc hcs hsz
      go_wp2_with (refine wpList_load_rows _ rfl (.tmp 3) rfl rfl HCS.out HSZ.out ?_)
      go_loopw [6, 29] (fun sv iv W9 => ∃ i s : Nat, i ≤ 1001 ∧ s ≤ 64 * i ∧ sv = .int .i64 s ∧ iv = .int .i64 i ∧ W9 = wr ∧ Hid (s = ((List.range i).map fun j => onesN (rowsN l j)).sum)) (fun _ iv _ => 1001 - (intOf iv).toNat)
      case atStart => exact ⟨0, 0, by omega, by omega, rfl, rfl, rfl, Lib.hid rfl⟩
      case round =>
        obtain ⟨i, s, hi, hs, rfl, rfl, rfl, HS⟩ := hrel
        by_cases hlt : i < 1001
        · have hd2 : (i : Int) < 1001 := by omega
          obtain ⟨q1, q2⟩ := HCC.out i hlt
          have hov : onesN (rowsN l i) ≤ 64 := by
            unfold onesN
            exact Nat.le_trans (List.length_filter_le _ _) (by simp)
          have hcall := ones (rowsN l i) (by omega) wr
          have HN : Hid (s + onesN (rowsN l i) = ((List.range (i + 1)).map fun j => onesN (rowsN l j)).sum) := Lib.hid (by rw [List.range_succ, List.map_append, List.sum_append, ← HS.out]; simp)
          generalize onesN (rowsN l i) = u at *
          generalize rowsN l i = v at *
          have hsz2 := HSZ.out
          have hix := index_rows hlt q1 wr
          go_wp2_with fail
          refine hcall.mono ?_; rintro e w5 ⟨rfl, rfl⟩
          go_wp2_with fail
          go_roundw
          case rel => exact ⟨i + 1, s + u, by omega, by omega, by go_num, by go_num, trivial, HN⟩
          case measure => simp [intOf]; omega
        · have hd2 : ¬ (i : Int) < 1001 := by omega
          obtain rfl : i = 1001 := by omega
          go_wp2_with fail
          go_ret
          refine ⟨?_, HB9.out⟩
          rw [HS.out, cells_rows]
          rfl
end Go.Proofs.YtccigjelbnjcoaaGreatDoor.RefsC
namespace Go.Proofs.YtccigjelbnjcoaaGreatDoor.TreeC
set_option linter.unusedVariables false
open Go.RowKit Go.Proofs.YtccigjelbnjcoaaGreatDoor.NumC Go.Proofs.YtccigjelbnjcoaaGreatDoor.LexC
def Fo.Short : Fo → Prop
  | .nil => True
  | .cons f k n => (f.vs.size ≤ 1000 ∧ f.op.size ≤ 100) ∧ k.Short ∧ n.Short
theorem Fo.short_app (x y : Fo) : (x.app y).Short ↔ x.Short ∧ y.Short := by
  induction x with
  | nil => simp [Fo.app, Fo.Short]
  | cons f k n _ ih => simp only [Fo.app, Fo.Short, ih]; constructor <;> (rintro ⟨h1, h2⟩; simp_all)
theorem Fo.short_step (q : Fo) (k : Nat) (h : k < q.len) (hs : (q.nth k).f.vs.size ≤ 1000 ∧ (q.nth k).f.op.size ≤ 100) (h2 : ((q.app (q.nth k).kids).drop (k + 1)).Short) : (q.drop k).Short := by
  rw [Fo.queue q k h, Fo.short_app] at h2
  rw [Fo.drop_nth q k h]
  exact ⟨hs, h2.2, h2.1⟩
def LgPost (a : Nd) (w : World) (e : Ending) (w' : World) : Prop := ∃ b : Bool, e = .returned (.bool b) ∧ Below w.heap.size w w' ∧ (b = false → a.size ≤ 300 ∧ a.one.Short)
def LgIn (a : Nd) (w wr : World) (k : Nat) (v : Value) : Prop := ∃ q : Fo, k ≤ q.len ∧ QS wr w.heap.size v q ∧ Below w.heap.size w wr ∧ k + (q.drop k).size = a.size ∧ ((q.drop k).Short → a.one.Short)
set_option maxRecDepth 100000 in
set_option maxHeartbeats 2000000 in
theorem klarge (a : Nd) (A : Option Addr) (c : Nat) (w : World) (hK : KidsAt w (fun g => g < w.heap.size) a.kids A) : Calls Tryz.prog 7 #[.agg #[.int .i64 a.f.k, .int .i64 a.f.vk, .int .i64 a.f.vn, .string a.f.vs, .int .i64 a.f.r1, .int .i64 a.f.r2, .int .i64 a.f.r3, .int .i64 a.f.r4, .string a.f.op, .slice A a.kids.len c]] w (LgPost a w) := by
  have b1 : Below w.heap.size w (w.alloc (.cells #[.int .i64 a.f.k, .int .i64 a.f.vk, .int .i64 a.f.vn, .string a.f.vs, .int .i64 a.f.r1, .int .i64 a.f.r2, .int .i64 a.f.r3, .int .i64 a.f.r4, .string a.f.op, .slice A a.kids.len c] 30)) := (Below.refl _ _).alloc (Nat.le_refl _) _
  have L1 : NLoc (w.alloc (.cells #[.int .i64 a.f.k, .int .i64 a.f.vk, .int .i64 a.f.vn, .string a.f.vs, .int .i64 a.f.r1, .int .i64 a.f.r2, .int .i64 a.f.r3, .int .i64 a.f.r4, .string a.f.op, .slice A a.kids.len c] 30)) w.heap.size a.f A a.kids.len c := ⟨heap_alloc_new _ _⟩
  have HK1 := Lib.hid (below_row hK b1)
  have HK := Lib.hid hK
  clear hK
  go_enter Tryz.func7, Tryz.ntmps7
  go_wp2_with fail
  generalize (w.alloc (.cells #[.int .i64 a.f.k, .int .i64 a.f.vk, .int .i64 a.f.vn, .string a.f.vs, .int .i64 a.f.r1, .int .i64 a.f.r2, .int .i64 a.f.r3, .int .i64 a.f.r4, .string a.f.op, .slice A a.kids.len c] 30)) = W1 at *
  refine (knodes 300 300 rfl (by decide) a A c W1 HK1.out).mono ?_; rintro e w2 ⟨r, rfl, hb2, hr1, hr2, hr3⟩
  have B2 : Below w.heap.size w w2 := b1.trans (hb2.mono b1.size)
  have L2 := L1.kept (Kept.of (x := W1.heap.size) hb2) (Nat.ne_of_lt L1.lt)
  clear L1 b1 HK1
  by_cases hs : a.size ≤ 300
  · have hr : r ≤ 300 := by have := hr1 hs; omega
    have t1 : ¬ (300 : Int) < (r : Int) := by omega
    obtain ⟨d0, d1, d2, d3, d4, d5, d6, d7, d8, d9, -⟩ := L2.cells
    have HB2 := Lib.hid B2
    have b3 : Below w.heap.size w (w2.alloc (.cells #[.int .i64 a.f.k, .int .i64 a.f.vk, .int .i64 a.f.vn, .string a.f.vs, .int .i64 a.f.r1, .int .i64 a.f.r2, .int .i64 a.f.r3, .int .i64 a.f.r4, .string a.f.op, .slice A a.kids.len c] 30)) := B2.alloc B2.size _
    have HQ : Hid (LgIn a w (w2.alloc (.cells #[.int .i64 a.f.k, .int .i64 a.f.vk, .int .i64 a.f.vn, .string a.f.vs, .int .i64 a.f.r1, .int .i64 a.f.r2, .int .i64 a.f.r3, .int .i64 a.f.r4, .string a.f.op, .slice A a.kids.len c] 30)) 0 (.slice (some ⟨w2.heap.size, 0, none⟩) 1 1)) := Lib.hid ⟨a.one, Nat.zero_le _, QS.one (f := a.f) (kd := a.kids) (c := c) (heap_alloc_new _ _) B2.size rfl (kids_below HK.out b3 (Nat.le_refl _)), b3, by rw [Nat.zero_add, Fo.drop_zero, Nd.one_size], fun h => by rwa [Fo.drop_zero] at h⟩
    clear hr1 hr2 hr3 hb2 B2 b3 L2
    go_wp2_with fail
    go_loopw [3, 4] (fun v iv wr => ∃ k : Nat, k ≤ 300 ∧ iv = .int .i64 k ∧ Hid (LgIn a w wr k v)) (fun _ iv _ => 300 - (intOf iv).toNat)
    case atStart => exact ⟨0, by omega, rfl, HQ⟩
    case round =>
      clear HQ HB2 d0 d1 d2 d3 d4 d5 d6 d7 d8 d9
      obtain ⟨k, hk, rfl, HR⟩ := hrel
      obtain ⟨q, hkq, hQ, hB, hsz, hsh⟩ := HR.out
      clear HR
      have hql : q.len ≤ 300 := by
        have h1 := Fo.len_size (q.drop k)
        rw [Fo.len_drop] at h1
        omega
      by_cases hlt : k < q.len
      · obtain ⟨g, c9, A2, c2, rfl, hg0, hg1, hkid, f0, f1, f2, f3, f4, f5, f6, f7, f8, f9⟩ := hQ.nth k hlt
        have hd1 : (k : Int) < (q.len : Int) := by omega
        have HST := Lib.hid (show k + (q.drop k).size = a.size ∧ ((q.drop k).Short → a.one.Short) from ⟨hsz, hsh⟩)
        have HN := Lib.hid hQ
        have HKD := Lib.hid hkid
        have hBs := hB.size
        have HB := Lib.hid hB
        have hnl : q.len + (q.nth k).kids.len ≤ 1000000 := by
          have h1 := Fo.size_drop q k hlt
          have h2 := Fo.len_size (q.nth k).kids
          omega
        clear hsz hsh hQ hkid hB
        by_cases h1 : 1000 < (q.nth k).f.vs.size
        · have e1 : (1000 : Int) < ((q.nth k).f.vs.size : Int) := by omega
          go_wp2_with fail
          go_ret
          exact ⟨true, rfl, HB.out, fun h => by cases h⟩
        · have e1 : ¬ (1000 : Int) < ((q.nth k).f.vs.size : Int) := by omega
          by_cases h2 : 100 < (q.nth k).f.op.size
          · have e2 : (100 : Int) < ((q.nth k).f.op.size : Int) := by omega
            go_wp2_with fail
            go_ret
            exact ⟨true, rfl, HB.out, fun h => by cases h⟩
          · have e2 : ¬ (100 : Int) < ((q.nth k).f.op.size : Int) := by omega
            have HSH := Lib.hid (show (q.nth k).f.vs.size ≤ 1000 ∧ (q.nth k).f.op.size ≤ 100 from ⟨by omega, by omega⟩)
            clear h1 h2
            go_wp2_with (at_builtin
                         refine wpList_append_queue _ rfl (.tmp 37) (.tmp 42) rfl (B := w.heap.size) (c := c2) (fo := q) (kd := (q.nth k).kids) (A := A2) rfl rfl HN.out HKD.out hnl hBs ?_
                         intro v9 w9 hq9 hg9 hat9
                         have HD9 : Hid (LgIn a w w9 (k + 1) v9) := Lib.hid ⟨_, by rw [Fo.len_app]; omega, hq9, below_grown HB.out hBs hg9 (fun k hk => (HN.out.lt k hk).1), Fo.queue_size q k a.size hlt HST.out.1, fun h => HST.out.2 (Fo.short_step q k hlt HSH.out h)⟩
                         clear hq9 hg9 hat9)
            go_roundw
            case rel => exact ⟨k + 1, by omega, by go_num, HD9⟩
            case measure => simp [intOf]; omega
      · have hd1 : ¬ (k : Int) < (q.len : Int) := by omega
        obtain ⟨NA, nc, rfl⟩ := hQ.form
        have HB := Lib.hid hB
        have HE := Lib.hid (hsh (by rw [Fo.drop_len q k (by omega)]; trivial))
        clear hQ hB hsz hsh
        go_wp2_with fail
        go_ret
        exact ⟨false, rfl, HB.out, fun _ => ⟨hs, HE.out⟩⟩
  · have t1 : (300 : Int) < (r : Int) := by have := hr2 (by omega); omega
    have HB2 := Lib.hid B2
    clear hr1 hr2 hr3 hb2 B2 L2
    go_wp2_with fail
    go_ret
    exact ⟨true, rfl, HB2.out, fun h => by cases h⟩
end Go.Proofs.YtccigjelbnjcoaaGreatDoor.TreeC
