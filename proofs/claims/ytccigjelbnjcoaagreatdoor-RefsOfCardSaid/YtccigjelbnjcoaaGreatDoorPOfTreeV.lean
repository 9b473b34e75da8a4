/-
  Contracts of tree's code: a whole formula, Parse.
-/
import Derived.Test.YtccigjelbnjcoaaGreatDoorPOfTreeP8
import Derived.Test.YtccigjelbnjcoaaGreatDoorPOfTreeP0
import Derived.Test.YtccigjelbnjcoaaGreatDoorPOfTreeS
import Derived.Test.YtccigjelbnjcoaaGreatDoorPOfLexF
import Derived.Test.YtccigjelbnjcoaaGreatDoorPOfLexZ7
import Derived.Test.YtccigjelbnjcoaaGreatDoorPOfAddrF
import Derived.Test.YtccigjelbnjcoaaGreatDoorPOfAddrA
import Derived.Test.YtccigjelbnjcoaaGreatDoorPOfNumG
namespace Go.Proofs.YtccigjelbnjcoaaGreatDoor.TreeC
set_option linter.unusedVariables false
open Go.RowKit Go.Proofs.YtccigjelbnjcoaaGreatDoor.NumC Go.Proofs.YtccigjelbnjcoaaGreatDoor.LexC
def wholeF (l : List Tok) (n : Int) : Except Bad Nd := match treeF l n with
  | .error e => .error e
  | .ok a => if 16 < a.deep then .error deepE else .ok a
theorem whole_bad {l : List Tok} {n : Int} {b : Bad} (h : (lev l n 41).fm 0 = .error b) : wholeF l n = .error b := by simp [wholeF, treeF, h]
theorem whole_more {l : List Tok} {n : Int} {a : Nd} {k : Nat} (h : (lev l n 41).fm 0 = .ok (a, k)) (hk : k < l.length) : wholeF l n = .error (badAt l n k) := by simp [wholeF, treeF, h, hk]
theorem whole_deep {l : List Tok} {n : Int} {a : Nd} {k : Nat} (h : (lev l n 41).fm 0 = .ok (a, k)) (hk : ¬ k < l.length) (hd : 16 < a.deep) : wholeF l n = .error deepE := by simp [wholeF, treeF, h, hk, hd]
theorem whole_ok {l : List Tok} {n : Int} {a : Nd} {k : Nat} (h : (lev l n 41).fm 0 = .ok (a, k)) (hk : ¬ k < l.length) (hd : ¬ 16 < a.deep) : wholeF l n = .ok a := by simp [wholeF, treeF, h, hk, hd]
def WPost (x : Nat) (out : Except Bad Nd) (w : World) (e : Ending) (w' : World) : Prop :=
  ∃ f A m c er, e = .returned (.tuple #[nodeV f A m c, er]) ∧ Kept x w w' ∧
    ((∃ kd, out = .ok ⟨f, kd⟩ ∧ er = .nilIface ∧ kd.len = m ∧ KidsAt w' (fun g => w.heap.size ≤ g) kd A) ∨ (∃ b, out = .error b ∧ IsBad b ∧ er = errV b))
theorem WPost.err {x b : Nat} {out : Except Bad Nd} {bad : Bad} {w V W : World} (ho : out = .error bad) (hi : IsBad bad) (hK : Kept x w V) (hb : w.heap.size ≤ b) (hk : Kept b V W) :
    WPost x out w (.returned (.tuple #[nodeV fld0 none 0 0, errV bad])) W := ⟨fld0, none, 0, 0, _, rfl, hK.then_ hk hb, Or.inr ⟨bad, ho, hi, rfl⟩⟩
set_option maxRecDepth 100000 in
set_option maxHeartbeats 1000000 in
theorem cwhole {x : Nat} {l : List Tok} {en : Int} (w : World) (h : Pc w x l en 0 0) (hl : l.length ≤ 300) (hts : ∀ (i : Nat) (t : Tok), l[i]? = some t → t.s.size ≤ 1000000) :
    Calls Tryz.prog 45 #[.pointer (some ⟨x, 0, none⟩)] w (WPost x (wholeF l en) w) := by
  have hxw := h.lt
  have HI := Lib.hid h
  clear h
  have HC := Lib.hid (ccon (x := x) (en := en) hl hts 40 (Nat.le_refl _))
  have ne1 : x ≠ w.heap.size := by omega
  have ne2 : w.heap.size ≠ x := by omega
  have K1 : Kept x w (w.alloc (.cells #[.int .i64 0, .int .i64 0, .int .i64 0, .string { data := #[] }, .int .i64 0, .int .i64 0, .int .i64 0, .int .i64 0, .string { data := #[] }, .slice none 0 0] 30)) := (Kept.refl x w).alloc _
  have X1 := NBox.new w
  have P1 := Lib.hid (HI.out.alloc (.cells #[.int .i64 0, .int .i64 0, .int .i64 0, .string { data := #[] }, .int .i64 0, .int .i64 0, .int .i64 0, .int .i64 0, .string { data := #[] }, .slice none 0 0] 30))
  clear HI hts
  go_enter Tryz.func45, Tryz.ntmps45
  go_wp2_with fail
  generalize (w.alloc (.cells #[.int .i64 0, .int .i64 0, .int .i64 0, .string { data := #[] }, .int .i64 0, .int .i64 0, .int .i64 0, .int .i64 0, .string { data := #[] }, .slice none 0 0] 30)) = W1 at *
  refine (HC.out.fm 0 W1 P1.out).mono ?_
  have lt1 := X1.lt
  rintro e w3 ⟨f, A, m, c, er, rfl, k3, hp3⟩
  have X3 := X1.kept k3 ne2
  have K3 := K1.trans k3
  have lt3 := X3.lt
  have hx3 : x < w3.heap.size := by have := k3.size; omega
  have na1 : x ≠ w3.heap.size := by omega
  have na2 : w3.heap.size ≠ x := by omega
  have na4 : w.heap.size ≠ w3.heap.size := by omega
  have na5 : w3.heap.size ≠ w.heap.size := by omega
  clear K1 X1 P1 k3
  unfold nodeV
  rcases hp3 with ⟨kd, k', ho, rfl, hn, hA, hP⟩ | ⟨bad, k2, ho, hi, rfl, hP⟩
  · have hsz := (lev_sz l en 41).fm _ _ _ ho
    have hgo := (lev_goes l en 41).fm _ _ _ ho
    have HO := Lib.hid ho
    clear ho
    have L4 : NLoc (w3.alloc (.cells #[.int .i64 f.k, .int .i64 f.vk, .int .i64 f.vn, .string f.vs, .int .i64 f.r1, .int .i64 f.r2, .int .i64 f.r3, .int .i64 f.r4, .string f.op, .slice A m c] 30)) w3.heap.size f A m c := ⟨heap_alloc_new _ _⟩
    have X4 := X3.kept ((Kept.refl x w3).alloc (.cells #[.int .i64 f.k, .int .i64 f.vk, .int .i64 f.vn, .string f.vs, .int .i64 f.r1, .int .i64 f.r2, .int .i64 f.r3, .int .i64 f.r4, .string f.op, .slice A m c] 30)) ne2
    have K4 := K3.alloc (.cells #[.int .i64 f.k, .int .i64 f.vk, .int .i64 f.vn, .string f.vs, .int .i64 f.r1, .int .i64 f.r2, .int .i64 f.r3, .int .i64 f.r4, .string f.op, .slice A m c] 30)
    have P4 := Lib.hid (hP.alloc (.cells #[.int .i64 f.k, .int .i64 f.vk, .int .i64 f.vn, .string f.vs, .int .i64 f.r1, .int .i64 f.r2, .int .i64 f.r3, .int .i64 f.r4, .string f.op, .slice A m c] 30))
    have A4 := hA.keep (Q := fun g => w.heap.size < g ∧ g ≠ w3.heap.size) ((Kept.refl x w3).alloc (.cells #[.int .i64 f.k, .int .i64 f.vk, .int .i64 f.vn, .string f.vs, .int .i64 f.r1, .int .i64 f.r2, .int .i64 f.r3, .int .i64 f.r4, .string f.op, .slice A m c] 30)) (fun g hg hl => ⟨by omega, by omega, by omega⟩)
    have B4 := hA.keep (Q := fun g => g < (w3.alloc (.cells #[.int .i64 f.k, .int .i64 f.vk, .int .i64 f.vn, .string f.vs, .int .i64 f.r1, .int .i64 f.r2, .int .i64 f.r3, .int .i64 f.r4, .string f.op, .slice A m c] 30)).heap.size) ((Kept.refl x w3).alloc (.cells #[.int .i64 f.k, .int .i64 f.vk, .int .i64 f.vn, .string f.vs, .int .i64 f.r1, .int .i64 f.r2, .int .i64 f.r3, .int .i64 f.r4, .string f.op, .slice A m c] 30)) (fun g hg hl => ⟨by omega, by have := L4.lt; omega⟩)
    clear hP hA X3 K3
    obtain ⟨A7, c7, h7, -, -⟩ := P4.out.ex
    have q7 : (w3.alloc (.cells #[.int .i64 f.k, .int .i64 f.vk, .int .i64 f.vn, .string f.vs, .int .i64 f.r1, .int .i64 f.r2, .int .i64 f.r3, .int .i64 f.r4, .string f.op, .slice A m c] 30)).cell? ⟨x, 0, none⟩ = some (.slice A7 (l.length - k') c7) := by simp only [World.cell?, h7]; rfl
    clear h7
    have s4 := L4.lt
    have t4 := X4.lt
    by_cases hlt : k' < l.length
    · have hm : 0 < l.length - k' := by omega
      have EO := Lib.hid (whole_more HO.out hlt)
      have HM := Lib.hid (cmisplaced _ P4.out hl)
      go_wp2_with fail
      generalize (w3.alloc (.cells #[.int .i64 f.k, .int .i64 f.vk, .int .i64 f.vn, .string f.vs, .int .i64 f.r1, .int .i64 f.r2, .int .i64 f.r3, .int .i64 f.r4, .string f.op, .slice A m c] 30)) = V at *
      refine HM.out.mono ?_; rintro e w4 ⟨rfl, q, rfl⟩
      have X5 := X4.kept ((Kept.refl x V).drew q) ne2
      obtain ⟨f0, f1, f2, f3, f4, f5, f6, f7, f8, f9, z0, z1, z2, z3, z4, z5, z6, z7, z8, z9⟩ := (X5).cells
      go_wp2_with fail
      refine bodyPost_ret (v := .tuple #[.agg #[.int .i64 0, .int .i64 0, .int .i64 0, .string { data := #[] }, .int .i64 0, .int .i64 0, .int .i64 0, .int .i64 0, .string { data := #[] }, .slice none 0 0], errV (badAt l en k')]) (by simp [results, Tryz.results45, go_sem, f0, f1, f2, f3, f4, f5, f6, f7, f8, f9]) rfl (WPost.err (b := w.heap.size) (V := V.drewN q) EO.out (isBad_at _ _ _) (K4.drew q) (Nat.le_refl _) ?_)
      repeat (first | with_reducible exact Kept.refl _ _ | with_reducible refine Kept.setCell ?_ _ _ | with_reducible refine Kept.alloc ?_ _)
    · have hm : l.length - k' = 0 := by omega
      have HD := Lib.hid (cDepth ⟨f, kd⟩ A c (w3.alloc (.cells #[.int .i64 f.k, .int .i64 f.vk, .int .i64 f.vn, .string f.vs, .int .i64 f.r1, .int .i64 f.r2, .int .i64 f.r3, .int .i64 f.r4, .string f.op, .slice A m c] 30)) (by omega) B4)
      rw [if_pos (show (Nd.mk f kd).size ≤ 2000 by omega)] at HD
      simp only [hn] at HD
      go_wp2_with fail
      generalize (w3.alloc (.cells #[.int .i64 f.k, .int .i64 f.vk, .int .i64 f.vn, .string f.vs, .int .i64 f.r1, .int .i64 f.r2, .int .i64 f.r3, .int .i64 f.r4, .string f.op, .slice A m c] 30)) = V at *
      refine HD.out.mono ?_; rintro e w4 ⟨rfl, hb4⟩
      have k4 : Kept x V w4 := Kept.of hb4
      have X5 := X4.kept k4 ne2
      have K5 := K4.trans k4
      have L5 := L4.kept k4 na2
      have A5 := A4.keep (Q := fun g => w.heap.size ≤ g ∧ g ≠ w.heap.size) k4 (fun g hg hl => ⟨by omega, by omega, by omega⟩)
      clear HD B4 A4 X4 K4 L4 hb4 k4 P4
      obtain ⟨d0, d1, d2, d3, d4, d5, d6, d7, d8, d9, dz0, dz1, dz2, dz3, dz4, dz5, dz6, dz7, dz8, dz9⟩ := (L5).cells
      obtain ⟨f0, f1, f2, f3, f4, f5, f6, f7, f8, f9, z0, z1, z2, z3, z4, z5, z6, z7, z8, z9⟩ := (X5).cells
      by_cases hd : 16 < (Nd.mk f kd).deep
      · have EO := Lib.hid (whole_deep HO.out hlt hd)
        have d1 : (16 : Int) < ((Nd.mk f kd).deep : Int) := by omega
        clear HO
        generalize (Nd.mk f kd).deep = D at *
        go_wp2_with fail
        refine bodyPost_ret (v := .tuple #[.agg #[.int .i64 0, .int .i64 0, .int .i64 0, .string { data := #[] }, .int .i64 0, .int .i64 0, .int .i64 0, .int .i64 0, .string { data := #[] }, .slice none 0 0], .iface 49 (.int .i64 14)]) (by simp [results, Tryz.results45, go_sem, f0, f1, f2, f3, f4, f5, f6, f7, f8, f9]) rfl (WPost.err (b := w.heap.size) (V := w4) EO.out isBad_deep K5 (Nat.le_refl _) ?_)
        repeat (first | with_reducible exact Kept.refl _ _ | with_reducible refine Kept.setCell ?_ _ _ | with_reducible refine Kept.alloc ?_ _)
      · have EO := Lib.hid (whole_ok HO.out hlt hd)
        have d1 : ((Nd.mk f kd).deep : Int) ≤ 16 := by omega
        clear HO
        generalize (Nd.mk f kd).deep = D at *
        go_wp2_with fail
        refine bodyPost_ret (v := .tuple #[.agg #[.int .i64 f.k, .int .i64 f.vk, .int .i64 f.vn, .string f.vs, .int .i64 f.r1, .int .i64 f.r2, .int .i64 f.r3, .int .i64 f.r4, .string f.op, .slice A m c], .nilIface]) (by simp [results, Tryz.results45, go_sem, f0, f1, f2, f3, f4, f5, f6, f7, f8, f9]) rfl ⟨f, A, m, c, _, rfl, K5.then_ (b := w.heap.size) ?_ (Nat.le_refl _), Or.inl ⟨kd, EO.out, rfl, hn, A5.keep (y := w.heap.size) (Q := fun g => w.heap.size ≤ g) ?_ (fun g hg _ => ⟨hg.2, hg.1⟩)⟩⟩
        all_goals repeat (first | with_reducible exact Kept.refl _ _ | with_reducible refine Kept.setCell ?_ _ _ | with_reducible refine Kept.alloc ?_ _)
  · obtain ⟨T, u, hT⟩ := errV_some bad
    have EO := Lib.hid (whole_bad ho)
    clear ho hP
    rw [hT]
    obtain ⟨f0, f1, f2, f3, f4, f5, f6, f7, f8, f9, z0, z1, z2, z3, z4, z5, z6, z7, z8, z9⟩ := (X3).cells
    go_wp2_with fail
    refine bodyPost_ret (v := .tuple #[.agg #[.int .i64 0, .int .i64 0, .int .i64 0, .string { data := #[] }, .int .i64 0, .int .i64 0, .int .i64 0, .int .i64 0, .string { data := #[] }, .slice none 0 0], .iface T u]) (by simp [results, Tryz.results45, go_sem, f0, f1, f2, f3, f4, f5, f6, f7, f8, f9, lt3]) rfl (hT ▸ WPost.err (b := w.heap.size) (V := w3) EO.out hi K3 (Nat.le_refl _) ?_)
    repeat (first | with_reducible exact Kept.refl _ _ | with_reducible refine Kept.setCell ?_ _ _ | with_reducible refine Kept.alloc ?_ _)
theorem own_form {w : World} {base : Nat} {e : TypeId} {size : Nat} {v : Value} {n : Nat} {xs : List Value} (h : w.ownsRow base e size v n xs) : ∃ A c, v = .slice A n c ∧ n ≤ c := by
  obtain ⟨-, ⟨h2, h3⟩ | ⟨g, cap, cur, h2, -, -, h5, -⟩⟩ := h
  · exact ⟨none, 0, by rw [h2, h3], by omega⟩
  · exact ⟨_, _, h2, h5⟩
theorem pc_start {w w2 : World} {A : Option Addr} {c : Nat} {l : List Tok} (en : Int) (hl : LibIs w) (hw : Below w.heap.size w w2) (ht : TokAt w2 (.slice A l.length c) l) (hc : l.length ≤ c) :
    Pc (w2.alloc (.cells #[.slice A l.length c, .int .i64 en, .int .i64 0] 67)) w2.heap.size l en 0 0 := by
  have hb : Below w2.heap.size w2 (w2.alloc (.cells #[.slice A l.length c, .int .i64 en, .int .i64 0] 67)) := (Below.refl _ _).alloc (Nat.le_refl _) _
  refine ⟨Nat.zero_le _, fun w' h => hl.below ((hw.trans (hb.mono hw.size)).trans (h.mono hw.size)), A, c, heap_alloc_new _ _, by omega, fun i hi _ => ?_⟩
  obtain ⟨A', c', e, hT⟩ := ht.form
  injection e with e1 e2 e3
  subst e1
  obtain ⟨g, e, f0, f1, f2, f3⟩ := hT i hi
  exact ⟨g, by rw [e], World.block_lt_of_cell? w2 _ f0, cell_later hb f0, cell_later hb f1, cell_later hb f2, cell_later hb f3⟩
def ParsePost (w : World) (r : PRes) (e : Ending) (w' : World) : Prop :=
  ∃ v, e = .returned (.tuple #[v, .int .i64 r.at_, .int .i64 r.err]) ∧ Below w.heap.size w w' ∧ NodeAt w' (fun g => w.heap.size ≤ g) r.nd v
theorem ParsePost.zero {w V W : World} {r : PRes} {a n : Int} (hr : r = ⟨zeroN, a, n⟩) (hB : Below w.heap.size w V) (hk : Kept w.heap.size V W) :
    ParsePost w r (.returned (.tuple #[nodeV fld0 none 0 0, .int .i64 a, .int .i64 n])) W := by
  subst hr
  exact ⟨_, rfl, ((Kept.of hB).trans hk).below (Nat.le_refl _), none, 0, rfl, Or.inl rfl⟩
theorem ParsePost.ok {w V W : World} {r : PRes} {f : Fld} {kd : Fo} {A : Option Addr} {m c : Nat} (hr : r = ⟨⟨f, kd⟩, 0, 0⟩) (hB : Below w.heap.size w V) (hn : kd.len = m) (hA : KidsAt V (fun g => w.heap.size ≤ g ∧ g ≠ w.heap.size) kd A) (hk : Kept w.heap.size V W) :
    ParsePost w r (.returned (.tuple #[nodeV f A m c, .int .i64 0, .int .i64 0])) W := by
  subst hr
  exact ⟨_, rfl, ((Kept.of hB).trans hk).below (Nat.le_refl _), A, c, by rw [hn], hA.keep hk (fun g hg _ => ⟨hg.2, hg.1⟩)⟩
theorem parse_lex {s : List UInt8} (h : (cutL s).err ≠ 0) : parseL s = ⟨zeroN, (cutL s).at_, (cutL s).err⟩ := by unfold parseL; rw [if_pos h]
theorem parse_bad {s : List UInt8} {b : Bad} (h : (cutL s).err = 0) (hw : wholeF (cutL s).toks s.length = .error b) : parseL s = ⟨zeroN, b.2, b.1⟩ := by
  unfold parseL wholeF at *
  rw [if_neg (by rw [h]; decide)]
  cases ht : treeF (cutL s).toks s.length with
  | error e => rw [ht] at hw; injection hw with hw; subst hw; rfl
  | ok a =>
    rw [ht] at hw
    simp only at hw
    split at hw
    · rename_i hd; injection hw with hw; subst hw; simp only [if_pos hd]; rfl
    · cases hw
theorem parse_ok {s : List UInt8} {a : Nd} (h : (cutL s).err = 0) (hw : wholeF (cutL s).toks s.length = .ok a) : parseL s = ⟨a, 0, 0⟩ := by
  unfold parseL wholeF at *
  rw [if_neg (by rw [h]; decide)]
  cases ht : treeF (cutL s).toks s.length with
  | error e => rw [ht] at hw; cases hw
  | ok b =>
    rw [ht] at hw
    simp only at hw
    split at hw
    · cases hw
    · rename_i hd; injection hw with hw; subst hw; simp only [if_neg hd]
set_option maxRecDepth 100000 in
set_option maxHeartbeats 1000000 in
theorem cParse (s : ByteArray) (w : World) (hs : s.size ≤ 1000000) (hl : LexLib w) (hg : ErrT w) :
    Calls Tryz.prog 27 #[.string s] w (ParsePost w (parseL s.data.toList)) := by
  have X1 := NBox.new w
  have B1 : Below w.heap.size w (w.alloc (.cells #[.int .i64 0, .int .i64 0, .int .i64 0, .string { data := #[] }, .int .i64 0, .int .i64 0, .int .i64 0, .int .i64 0, .string { data := #[] }, .slice none 0 0] 30)) := (Below.refl _ _).alloc (Nat.le_refl _) _
  have hl1 := Lib.hid (hl.below B1)
  have lt1 := X1.lt
  obtain ⟨hfew, hshort⟩ := cut_few s.data.toList
  have HF := Lib.hid hfew
  have HS := Lib.hid hshort
  clear hfew hshort
  have HL := Lib.hid (list_len s)
  go_enter Tryz.func27, Tryz.ntmps27
  go_wp2_with fail
  generalize (w.alloc (.cells #[.int .i64 0, .int .i64 0, .int .i64 0, .string { data := #[] }, .int .i64 0, .int .i64 0, .int .i64 0, .int .i64 0, .string { data := #[] }, .slice none 0 0] 30)) = W1 at *
  refine (LexC.cut s W1 hs hl1.out).mono ?_; rintro e w2 ⟨v, rfl, hown, hb2⟩
  have ht := tokAt_own hown
  obtain ⟨A, c, rfl, hc⟩ := own_form hown
  clear hown
  have B2 := B1.trans (hb2.mono B1.size)
  have X2 := X1.kept (Kept.of (x := W1.heap.size) hb2) (by omega)
  have lt2 := X2.lt
  have na1 : w.heap.size ≠ w2.heap.size := by omega
  have na2 : w2.heap.size ≠ w.heap.size := by omega
  by_cases he : (cutL s.data.toList).err = 0
  · have hN := Lib.hid (pc_start (s.size : Int) hl.lib B2 ht hc)
    have B4 : Below w.heap.size w (w2.alloc (.cells #[.slice A (cutL s.data.toList).toks.length c, .int .i64 s.size, .int .i64 0] 67)) := B2.alloc (by omega) _
    have X4 := X2.kept ((Kept.refl w2.heap.size w2).alloc (.cells #[.slice A (cutL s.data.toList).toks.length c, .int .i64 s.size, .int .i64 0] 67)) na1
    have HE := Lib.hid he
    have e1 : ((cutL s.data.toList).err == 0) = true := beq_iff_eq.2 he
    clear ht hc
    go_wp2_with fail
    generalize (w2.alloc (.cells #[.slice A (cutL s.data.toList).toks.length c, .int .i64 s.size, .int .i64 0] 67)) = W4 at *
    refine (cwhole W4 hN.out HF.out (fun i t hi => by have := HS.out t (List.mem_of_getElem? hi); omega)).mono ?_
    rintro e w5 ⟨f, A5, m, c5, er, rfl, k5, hp⟩
    have X5 := X4.kept k5 na1
    have lt4 := X4.lt
    have B5 : Below w.heap.size w w5 := B4.trans (k5.under (by omega) (by omega))
    have lt5 := X5.lt
    have na3 : w.heap.size ≠ w5.heap.size := by omega
    have na4 : w5.heap.size ≠ w.heap.size := by omega
    unfold nodeV
    rw [show (s.size : Int) = ((s.data.toList.length : Nat) : Int) from by rw [← HL.out]] at hp
    rcases hp with ⟨kd, ho, rfl, hn, hA⟩ | ⟨b, ho, hi, rfl⟩
    · have EO := Lib.hid (parse_ok HE.out ho)
      have hA6 := hA.keep (Q := fun g => w.heap.size ≤ g ∧ g ≠ w.heap.size) (Kept.refl w5.heap.size w5) (fun g hg hl => ⟨by omega, by omega, by omega⟩)
      clear ho hA e1
      obtain ⟨f0, f1, f2, f3, f4, f5, f6, f7, f8, f9, z0, z1, z2, z3, z4, z5, z6, z7, z8, z9⟩ := (X5).cells
      go_wp2_with fail
      refine bodyPost_ret (v := .tuple #[.agg #[.int .i64 f.k, .int .i64 f.vk, .int .i64 f.vn, .string f.vs, .int .i64 f.r1, .int .i64 f.r2, .int .i64 f.r3, .int .i64 f.r4, .string f.op, .slice A5 m c5], .int .i64 0, .int .i64 0]) (by simp [results, Tryz.results27, go_sem, f0, f1, f2, f3, f4, f5, f6, f7, f8, f9, lt5]) rfl (ParsePost.ok (f := f) (A := A5) (m := m) (c := c5) (V := w5) EO.out B5 hn hA6 ?_)
      repeat (first | with_reducible exact Kept.refl _ _ | with_reducible refine Kept.setCell ?_ _ _ | with_reducible refine Kept.alloc ?_ _)
    · have EO := Lib.hid (parse_bad HE.out ho)
      obtain ⟨T, u, hT⟩ := errV_some b
      have B5a : Below w.heap.size w (w5.alloc (.cells #[.int .i64 f.k, .int .i64 f.vk, .int .i64 f.vn, .string f.vs, .int .i64 f.r1, .int .i64 f.r2, .int .i64 f.r3, .int .i64 f.r4, .string f.op, .slice A5 m c5] 30)) := B5.alloc (by omega) _
      have X5a := X5.kept ((Kept.refl w5.heap.size w5).alloc (.cells #[.int .i64 f.k, .int .i64 f.vk, .int .i64 f.vn, .string f.vs, .int .i64 f.r1, .int .i64 f.r2, .int .i64 f.r3, .int .i64 f.r4, .string f.op, .slice A5 m c5] 30)) na3
      have HPl := Lib.hid (cplaceOf b hi (w5.alloc (.cells #[.int .i64 f.k, .int .i64 f.vk, .int .i64 f.vn, .string f.vs, .int .i64 f.r1, .int .i64 f.r2, .int .i64 f.r3, .int .i64 f.r4, .string f.op, .slice A5 m c5] 30)) (hg.below B5a))
      have HNu := Lib.hid (fun (w6 : World) (h6 : ErrT w6) => cnumberOf b hi w6 h6)
      rw [hT] at HPl HNu ⊢
      clear ho e1
      have lt5a := X5a.lt
      go_wp2_with fail
      generalize (w5.alloc (.cells #[.int .i64 f.k, .int .i64 f.vk, .int .i64 f.vn, .string f.vs, .int .i64 f.r1, .int .i64 f.r2, .int .i64 f.r3, .int .i64 f.r4, .string f.op, .slice A5 m c5] 30)) = W5 at *
      refine HPl.out.mono ?_; rintro e w6 ⟨rfl, k6⟩
      have B6 : Below w.heap.size w w6 := B5a.trans (k6.under (by omega) (by omega))
      have X6 := X5a.kept k6 (by omega)
      have lt6 := X6.lt
      have na5 : w.heap.size ≠ w6.heap.size := by omega
      go_wp2_with fail
      refine (HNu.out w6 (hg.below B6)).mono ?_; rintro e w7 ⟨rfl, k7⟩
      have B7 : Below w.heap.size w w7 := B6.trans (k7.under (by omega) (by omega))
      have X7 := X6.kept k7 na5
      obtain ⟨f0, f1, f2, f3, f4, f5, f6, f7, f8, f9, z0, z1, z2, z3, z4, z5, z6, z7, z8, z9⟩ := (X7).cells
      go_wp2_with fail
      refine bodyPost_ret (v := .tuple #[.agg #[.int .i64 0, .int .i64 0, .int .i64 0, .string { data := #[] }, .int .i64 0, .int .i64 0, .int .i64 0, .int .i64 0, .string { data := #[] }, .slice none 0 0], .int .i64 b.2, .int .i64 b.1]) (by simp [results, Tryz.results27, go_sem, f0, f1, f2, f3, f4, f5, f6, f7, f8, f9]) rfl (ParsePost.zero (V := w7) EO.out B7 ?_)
      repeat (first | with_reducible exact Kept.refl _ _ | with_reducible refine Kept.setCell ?_ _ _ | with_reducible refine Kept.alloc ?_ _)
  · have EO := Lib.hid (parse_lex he)
    have e1 : ((cutL s.data.toList).err == 0) = false := beq_eq_false_iff_ne.2 he
    obtain ⟨f0, f1, f2, f3, f4, f5, f6, f7, f8, f9, z0, z1, z2, z3, z4, z5, z6, z7, z8, z9⟩ := (X2).cells
    go_wp2_with fail
    refine bodyPost_ret (v := .tuple #[.agg #[.int .i64 0, .int .i64 0, .int .i64 0, .string { data := #[] }, .int .i64 0, .int .i64 0, .int .i64 0, .int .i64 0, .string { data := #[] }, .slice none 0 0], .int .i64 (cutL s.data.toList).at_, .int .i64 (cutL s.data.toList).err]) (by simp [results, Tryz.results27, go_sem, f0, f1, f2, f3, f4, f5, f6, f7, f8, f9]) rfl (ParsePost.zero (V := w2) EO.out B2 ?_)
    repeat (first | with_reducible exact Kept.refl _ _ | with_reducible refine Kept.setCell ?_ _ _ | with_reducible refine Kept.alloc ?_ _)
end Go.Proofs.YtccigjelbnjcoaaGreatDoor.TreeC
namespace Go.Proofs.YtccigjelbnjcoaaGreatDoor.TreeC
set_option linter.unusedVariables false
open Go.RowKit Go.Proofs.YtccigjelbnjcoaaGreatDoor.NumC Go.Proofs.YtccigjelbnjcoaaGreatDoor.LexC
def constB (k n : Int) (s : ByteArray) : Bool := if k = 2 then ValueC.goodB ⟨k, n, s⟩ && decide (0 ≤ n) else if k = 3 ∨ k = 1 then ValueC.goodB ⟨k, n, s⟩ else false
set_option maxRecDepth 100000 in
set_option maxHeartbeats 1000000 in
theorem cisConst (k n : Int) (s : ByteArray) (w : World) : Calls Tryz.prog 86 #[.agg #[.int .i64 k, .int .i64 n, .string s]] w fun e w' => e = .returned (.bool (constB k n s)) ∧ Below w.heap.size w w' := by
  have hb1 : Below w.heap.size w (w.alloc (.cells #[.int .i64 k, .int .i64 n, .string s] 23)) := (Below.refl _ _).alloc (Nat.le_refl _) _
  have HG := ValueC.good ⟨k, n, s⟩ (w.alloc (.cells #[.int .i64 k, .int .i64 n, .string s] 23))
  have hq : (w.alloc (.cells #[.int .i64 k, .int .i64 n, .string s] 23)).cell? ⟨w.heap.size, 1, none⟩ = some (.int .i64 n) := by simp
  have HC := Lib.hid (And.intro hb1 (And.intro HG hq))
  clear hb1 HG hq
  by_cases h2 : k = 2
  · have E : Hid (constB k n s = (ValueC.goodB ⟨k, n, s⟩ && decide (0 ≤ n))) := Lib.hid (if_pos h2)
    have b2 : (k == 2) = true := beq_iff_eq.2 h2
    clear h2
    go_enter Tryz.func86, Tryz.ntmps86
    go_wp2_with fail
    generalize (w.alloc (.cells #[.int .i64 k, .int .i64 n, .string s] 23)) = W1 at *
    refine HC.out.2.1.mono ?_; rintro e w2 ⟨rfl, hb2⟩
    have q2 := cell_later hb2 HC.out.2.2
    have hB := HC.out.1.trans (hb2.mono HC.out.1.size)
    cases hg : ValueC.goodB ⟨k, n, s⟩ with
    | false =>
      rw [hg] at E
      go_wp2_with fail
      go_ret
      exact ⟨by rw [E.out]; rfl, hB⟩
    | true =>
      rw [hg] at E
      go_wp2_with fail
      go_ret
      exact ⟨by rw [E.out]; simp, hB⟩
  · have b2 : (k == 2) = false := beq_eq_false_iff_ne.2 h2
    by_cases h3 : k = 3
    · have E : Hid (constB k n s = ValueC.goodB ⟨k, n, s⟩) := Lib.hid ((if_neg h2).trans (if_pos (Or.inl h3)))
      have b3 : (k == 3) = true := beq_iff_eq.2 h3
      clear h2 h3
      go_enter Tryz.func86, Tryz.ntmps86
      go_wp2_with fail
      generalize (w.alloc (.cells #[.int .i64 k, .int .i64 n, .string s] 23)) = W1 at *
      refine HC.out.2.1.mono ?_; rintro e w2 ⟨rfl, hb2⟩
      have hB := HC.out.1.trans (hb2.mono HC.out.1.size)
      go_wp2_with fail
      go_ret
      exact ⟨by rw [E.out]; rfl, hB⟩
    · have b3 : (k == 3) = false := beq_eq_false_iff_ne.2 h3
      by_cases h1 : k = 1
      · have E : Hid (constB k n s = ValueC.goodB ⟨k, n, s⟩) := Lib.hid ((if_neg h2).trans (if_pos (Or.inr h1)))
        have b1 : (k == 1) = true := beq_iff_eq.2 h1
        clear h2 h3 h1
        go_enter Tryz.func86, Tryz.ntmps86
        go_wp2_with fail
        generalize (w.alloc (.cells #[.int .i64 k, .int .i64 n, .string s] 23)) = W1 at *
        refine HC.out.2.1.mono ?_; rintro e w2 ⟨rfl, hb2⟩
        have hB := HC.out.1.trans (hb2.mono HC.out.1.size)
        go_wp2_with fail
        go_ret
        exact ⟨by rw [E.out]; rfl, hB⟩
      · have E : Hid (constB k n s = false) := Lib.hid ((if_neg h2).trans (if_neg (fun h => h.elim h3 h1)))
        have b1 : (k == 1) = false := beq_eq_false_iff_ne.2 h1
        clear h2 h3 h1
        go_enter Tryz.func86, Tryz.ntmps86
        go_wp2_with fail
        go_ret
        exact ⟨by rw [E.out]; rfl, HC.out.1⟩
def binB (s : ByteArray) : Bool := anyOf cmpS s || anyOf sumS s || anyOf mulS s || anyOf powS s
set_option maxRecDepth 100000 in
set_option maxHeartbeats 1000000 in
theorem cisBinary (s : ByteArray) (w : World) : Calls Tryz.prog 87 #[.string s] w fun e w' => e = .returned (.bool (binB s)) ∧ Below w.heap.size w w' := by
  cases h0 : anyOf cmpS s with
  | true =>
    go_enter Tryz.func87, Tryz.ntmps87
    go_wp2_with fail
    refine (cisComparing s _).mono ?_; rw [h0]; rintro e w1 ⟨rfl, q0, rfl⟩
    go_wp2_with fail
    go_ret
    exact ⟨by rw [show binB s = true by simp [binB, h0]]; rfl, below_drewN' (Below.refl _ _) _⟩
  | false =>
    cases h1 : anyOf sumS s with
    | true =>
      go_enter Tryz.func87, Tryz.ntmps87
      go_wp2_with fail
      refine (cisComparing s _).mono ?_; rw [h0]; rintro e w1 ⟨rfl, q0, rfl⟩
      go_wp2_with fail
      refine (cisAdding s _).mono ?_; rw [h1]; rintro e w2 ⟨rfl, q1, rfl⟩
      go_wp2_with fail
      go_ret
      exact ⟨by rw [show binB s = true by simp [binB, h0, h1]]; rfl, below_drewN' (Below.refl _ _) _⟩
    | false =>
      cases h2 : anyOf mulS s with
      | true =>
        go_enter Tryz.func87, Tryz.ntmps87
        go_wp2_with fail
        refine (cisComparing s _).mono ?_; rw [h0]; rintro e w1 ⟨rfl, q0, rfl⟩
        go_wp2_with fail
        refine (cisAdding s _).mono ?_; rw [h1]; rintro e w2 ⟨rfl, q1, rfl⟩
        go_wp2_with fail
        refine (cisMultiplying s _).mono ?_; rw [h2]; rintro e w3 ⟨rfl, q2, rfl⟩
        go_wp2_with fail
        go_ret
        exact ⟨by rw [show binB s = true by simp [binB, h0, h1, h2]]; rfl, below_drewN' (Below.refl _ _) _⟩
      | false =>
        cases h3 : anyOf powS s with
        | true =>
          go_enter Tryz.func87, Tryz.ntmps87
          go_wp2_with fail
          refine (cisComparing s _).mono ?_; rw [h0]; rintro e w1 ⟨rfl, q0, rfl⟩
          go_wp2_with fail
          refine (cisAdding s _).mono ?_; rw [h1]; rintro e w2 ⟨rfl, q1, rfl⟩
          go_wp2_with fail
          refine (cisMultiplying s _).mono ?_; rw [h2]; rintro e w3 ⟨rfl, q2, rfl⟩
          go_wp2_with fail
          refine (cisPower s _).mono ?_; rw [h3]; rintro e w4 ⟨rfl, q3, rfl⟩
          go_wp2_with fail
          go_ret
          exact ⟨by rw [show binB s = true by simp [binB, h0, h1, h2, h3]]; rfl, below_drewN' (Below.refl _ _) _⟩
        | false =>
          go_enter Tryz.func87, Tryz.ntmps87
          go_wp2_with fail
          refine (cisComparing s _).mono ?_; rw [h0]; rintro e w1 ⟨rfl, q0, rfl⟩
          go_wp2_with fail
          refine (cisAdding s _).mono ?_; rw [h1]; rintro e w2 ⟨rfl, q1, rfl⟩
          go_wp2_with fail
          refine (cisMultiplying s _).mono ?_; rw [h2]; rintro e w3 ⟨rfl, q2, rfl⟩
          go_wp2_with fail
          refine (cisPower s _).mono ?_; rw [h3]; rintro e w4 ⟨rfl, q3, rfl⟩
          go_wp2_with fail
          go_ret
          exact ⟨by rw [show binB s = false by simp [binB, h0, h1, h2, h3]]; rfl, below_drewN' (Below.refl _ _) _⟩
def fnB (s : ByteArray) : Bool := decide (s.size ≤ 8) && match (cutL s.data.toList).toks with
  | [t] => decide (t.k = 3) && decide (t.s = s)
  | _ => false
set_option maxRecDepth 100000 in
set_option maxHeartbeats 1000000 in
theorem cisName (s : ByteArray) (w : World) (hl : LexLib w) : Calls Tryz.prog 88 #[.string s] w fun e w' => e = .returned (.bool (fnB s)) ∧ Below w.heap.size w w' := by
  by_cases h8 : 8 < s.size
  · have E : Hid (fnB s = false) := Lib.hid (by unfold fnB; rw [decide_eq_false (by omega)]; rfl)
    go_enter Tryz.func88, Tryz.ntmps88
    go_wp2_with fail
    go_ret
    exact ⟨by rw [E.out]; rfl, Below.refl _ _⟩
  · have h9 : s.size ≤ 8 := by omega
    have E : Hid (fnB s = match (cutL s.data.toList).toks with
      | [t] => decide (t.k = 3) && decide (t.s = s)
      | _ => false) := Lib.hid (by unfold fnB; rw [decide_eq_true h9]; rfl)
    go_enter Tryz.func88, Tryz.ntmps88
    go_wp2_with fail
    refine (LexC.cut s w (by omega) hl).mono ?_; rintro e w2 ⟨v, rfl, hown, hb2⟩
    have ht := tokAt_own hown
    obtain ⟨A, c, rfl, hc⟩ := own_form hown
    clear hown
    generalize (cutL s.data.toList).toks = l at *
    by_cases h1 : l.length = 1
    · obtain ⟨t, rfl⟩ := List.length_eq_one_iff.1 h1
      obtain ⟨A', c', e, hT⟩ := ht.form
      injection e with e1 e2 e3
      subst e1
      obtain ⟨g, rfl, f0, f1, f2, f3⟩ := hT 0 (by simp)
      obtain ⟨tk, tn, ts, ta⟩ := t
      simp only [List.getElem_cons_zero, Nat.zero_mul, Nat.zero_add] at f0 f1 f2 f3
      simp only [List.length_cons, List.length_nil] at *
      clear hT ht
      by_cases hk : tk = 3
      · subst hk
        by_cases he : ts = s
        · subst he
          go_wp2_with fail
          go_ret
          exact ⟨by rw [E.out]; simp, hb2⟩
        · have hne := list_ne he
          go_wp2_with fail
          go_ret
          exact ⟨by rw [E.out]; simp [he, hne], hb2⟩
      · have b3 : (tk == 3) = false := beq_eq_false_iff_ne.2 hk
        go_wp2_with fail
        go_ret
        exact ⟨by rw [E.out]; simp [hk], hb2⟩
    · have b1 : ((l.length : Int) == 1) = false := beq_eq_false_iff_ne.2 (by omega)
      have E2 : Hid (fnB s = false) := Lib.hid (by
        rw [E.out]
        match l, h1 with
        | [], _ => rfl
        | [t], h => exact absurd rfl h
        | _ :: _ :: _, _ => rfl)
      clear E ht
      generalize l.length = ll at *
      go_wp2_with fail
      go_ret
      exact ⟨by rw [E2.out]; rfl, hb2⟩
end Go.Proofs.YtccigjelbnjcoaaGreatDoor.TreeC
namespace Go.Proofs.YtccigjelbnjcoaaGreatDoor.TreeC
set_option linter.unusedVariables false
open Go.RowKit Go.Proofs.YtccigjelbnjcoaaGreatDoor.NumC Go.Proofs.YtccigjelbnjcoaaGreatDoor.LexC
def noVB (f : Fld) : Bool := ValueC.sameB ⟨f.vk, f.vn, f.vs⟩ ⟨0, 0, { data := #[] }⟩
def noRB (f : Fld) : Bool := decide (f.r1 = 0 ∧ f.r2 = 0 ∧ f.r3 = 0 ∧ f.r4 = 0)
def noOB (f : Fld) : Bool := f.op.toList == []
def noTB (f : Fld) : Bool := decide (f.r3 = 0 ∧ f.r4 = 0)
def fitsB (f : Fld) (n : Nat) : Bool :=
  if f.k = 1 then constB f.vk f.vn f.vs && noRB f && noOB f && decide (n = 0)
  else if f.k = 2 then AddrC.cellB f.r1 f.r2 && noTB f && noVB f && noOB f && decide (n = 0)
  else if f.k = 3 then AddrC.fineB f.r1 f.r2 f.r3 f.r4 && noVB f && noOB f && decide (n = 0)
  else if f.k = 4 then decide (n = 1) && noVB f && noRB f && noOB f
  else if f.k = 5 then binB f.op && decide (n = 2) && noVB f && noRB f
  else if f.k = 6 then fnB f.op && decide (n ≤ 10) && noVB f && noRB f
  else false
set_option maxHeartbeats 1000000 in
theorem eqIn_addr (a b a' b' : Int) (W : World) :
    (Op.equalIn 9999 25 (.agg #[.int .i64 a, .int .i64 b]) (.agg #[.int .i64 a', .int .i64 b'])).run Tryz.prog W = .ok (decide (a = a' ∧ b = b')) W := by
  have hS2 : Tryz.prog.underlying 25 = some (.struct (Tryz.prog.fieldsOf 25)) := by kernel_rfl
  have hp2 : Tryz.prog.stoodInHeld 25 = false := by kernel_rfl
  have a1 := Tryz.isAgg3; have z1 := Tryz.sizeOf3; have u1 := Tryz.underlying3
  rw [show (9999 : Nat) = 9998 + 1 from rfl, run_equalIn_agg W 9998 25 _ _ hS2 hp2]
  simp only [Program.fieldsOf, Tryz.underlying25]
  go_simp
  by_cases h1 : a = a' <;> by_cases h2 : b = b' <;> simp [h1, h2]
set_option maxHeartbeats 1000000 in
theorem eq_rect (a b c d a' b' c' d' : Int) (W : World) :
    (binOp .eql 27 (.agg #[.int .i64 a, .int .i64 b, .int .i64 c, .int .i64 d]) (.agg #[.int .i64 a', .int .i64 b', .int .i64 c', .int .i64 d'])).run Tryz.prog W = .ok (.bool (decide (a = a' ∧ b = b' ∧ c = c' ∧ d = d'))) W := by
  have hS : Tryz.prog.underlying 27 = some (.struct (Tryz.prog.fieldsOf 27)) := by kernel_rfl
  have hp : Tryz.prog.stoodInHeld 27 = false := by kernel_rfl
  rw [run_eql_struct, show (10000 : Nat) = 9999 + 1 from rfl, run_equalIn_agg W 9999 27 _ _ hS hp]
  simp only [Program.fieldsOf, Tryz.underlying27]
  have p0 : ∀ (x y z u : Int) (w : World), (part 25 #[.int .i64 x, .int .i64 y, .int .i64 z, .int .i64 u] 0).run Tryz.prog w = .ok (.agg #[.int .i64 x, .int .i64 y]) w := fun _ _ _ _ _ => by kernel_rfl
  have p2 : ∀ (x y z u : Int) (w : World), (part 25 #[.int .i64 x, .int .i64 y, .int .i64 z, .int .i64 u] 2).run Tryz.prog w = .ok (.agg #[.int .i64 z, .int .i64 u]) w := fun _ _ _ _ _ => by kernel_rfl
  simp only [Op.eqFields, Sem.run_bind, Sem.run_ite, p0, p2, eqIn_addr, Result.andThen]
  by_cases h1 : a = a' <;> by_cases h2 : b = b' <;> by_cases h3 : c = c' <;> by_cases h4 : d = d' <;> simp [h1, h2, h3, h4]
set_option maxHeartbeats 1000000 in
theorem eq_addr (a b a' b' : Int) (W : World) :
    (binOp .eql 25 (.agg #[.int .i64 a, .int .i64 b]) (.agg #[.int .i64 a', .int .i64 b'])).run Tryz.prog W = .ok (.bool (decide (a = a' ∧ b = b'))) W := by
  have hS2 : Tryz.prog.underlying 25 = some (.struct (Tryz.prog.fieldsOf 25)) := by kernel_rfl
  have hp2 : Tryz.prog.stoodInHeld 25 = false := by kernel_rfl
  have a1 := Tryz.isAgg3; have z1 := Tryz.sizeOf3; have u1 := Tryz.underlying3
  rw [run_eql_struct, show (10000 : Nat) = 9999 + 1 from rfl, run_equalIn_agg W 9999 25 _ _ hS2 hp2]
  simp only [Program.fieldsOf, Tryz.underlying25]
  go_simp
  by_cases h1 : a = a' <;> by_cases h2 : b = b' <;> simp [h1, h2]
set_option maxRecDepth 100000 in
set_option maxHeartbeats 1000000 in
theorem cfits1 (f : Fld) (A : Option Addr) (m c : Nat) (w : World) (hm : m ≤ 1000000) (hl : LexLib w) (hk : f.k = 1) :
    Calls Tryz.prog 64 #[.agg #[.int .i64 f.k, .int .i64 f.vk, .int .i64 f.vn, .string f.vs, .int .i64 f.r1, .int .i64 f.r2, .int .i64 f.r3, .int .i64 f.r4, .string f.op, .slice A m c]] w fun e w' => e = .returned (.bool (fitsB f m)) ∧ Below w.heap.size w w' := by
  have hb1 : Below w.heap.size w (w.alloc (.cells #[.int .i64 f.k, .int .i64 f.vk, .int .i64 f.vn, .string f.vs, .int .i64 f.r1, .int .i64 f.r2, .int .i64 f.r3, .int .i64 f.r4, .string f.op, .slice A m c] 30)) := (Below.refl _ _).alloc (Nat.le_refl _) _
  have L1 : NLoc (w.alloc (.cells #[.int .i64 f.k, .int .i64 f.vk, .int .i64 f.vn, .string f.vs, .int .i64 f.r1, .int .i64 f.r2, .int .i64 f.r3, .int .i64 f.r4, .string f.op, .slice A m c] 30)) w.heap.size f A m c := ⟨heap_alloc_new _ _⟩
  have eV : ∀ W, (binOp .eql 23 (.agg #[.int .i64 f.vk, .int .i64 f.vn, .string f.vs]) (.agg #[.int .i64 0, .int .i64 0, .string { data := #[] }])).run Tryz.prog W = .ok (.bool (noVB f)) W := fun W => ValueC.eqs _ _ _ _ _ _ W
  have eR : ∀ W, (binOp .eql 27 (.agg #[.int .i64 f.r1, .int .i64 f.r2, .int .i64 f.r3, .int .i64 f.r4]) (.agg #[.int .i64 0, .int .i64 0, .int .i64 0, .int .i64 0])).run Tryz.prog W = .ok (.bool (noRB f)) W := fun W => eq_rect _ _ _ _ _ _ _ _ W
  have eO : (f.op.toList == []) = noOB f := rfl
  generalize hD : fitsB f m = D
  have HD := Lib.hid hD.symm
  clear hD
  have HK := Lib.hid hk
  clear hk
  obtain ⟨d0, d1, d2, d3, d4, d5, d6, d7, d8, d9, -⟩ := L1.cells
  go_enter Tryz.func64, Tryz.ntmps64
  go_wp2_with fail
  generalize (w.alloc (.cells #[.int .i64 f.k, .int .i64 f.vk, .int .i64 f.vn, .string f.vs, .int .i64 f.r1, .int .i64 f.r2, .int .i64 f.r3, .int .i64 f.r4, .string f.op, .slice A m c] 30)) = W1 at *
  go_quiet (fail)
  have L2 := L1.kept ((Kept.refl W1.heap.size W1).drew nq) (Nat.ne_of_lt L1.lt)
  have HB0 := Lib.hid (hb1.trans (below_drewN' (Below.refl _ _) nq))
  clear d0 d1 d2 d3 d4 d5 d6 d7 d8 d9
  obtain ⟨d0, d1, d2, d3, d4, d5, d6, d7, d8, d9, -⟩ := L2.cells
  rw [HK.out] at d0
  generalize W1.drewN nq = W2 at *
  clear eV eR eO
  go_wp2_with fail
  refine (cisConst f.vk f.vn f.vs _).mono ?_; rintro e w2 ⟨rfl, hb2⟩
  have HB1 := Lib.hid (HB0.out.trans (hb2.mono HB0.out.size))
  have HE : Hid (D = (constB f.vk f.vn f.vs && noRB f && noOB f && decide (m = 0))) := Lib.hid (HD.out.trans (by simp only [fitsB, HK.out]; simp))
  clear HD
  by_cases hm0 : m = 0
  · have e0 : ((m : Int) == 0) = true := beq_iff_eq.2 (by omega)
    cases c0 : constB f.vk f.vn f.vs <;> cases c1 : noRB f <;> cases c2 : noOB f
    all_goals
      go_wp2_with fail
      go_ret
      exact ⟨by rw [HE.out]; simp [hm0, c0, c1, c2], HB1.out⟩
  · have e0 : ((m : Int) == 0) = false := beq_eq_false_iff_ne.2 (by omega)
    cases c0 : constB f.vk f.vn f.vs <;> cases c1 : noRB f <;> cases c2 : noOB f
    all_goals
      go_wp2_with fail
      go_ret
      exact ⟨by rw [HE.out]; simp [hm0, c0, c1, c2], HB1.out⟩
set_option maxRecDepth 100000 in
set_option maxHeartbeats 1000000 in
theorem cfits2 (f : Fld) (A : Option Addr) (m c : Nat) (w : World) (hm : m ≤ 1000000) (hl : LexLib w) (hk : f.k = 2) :
    Calls Tryz.prog 64 #[.agg #[.int .i64 f.k, .int .i64 f.vk, .int .i64 f.vn, .string f.vs, .int .i64 f.r1, .int .i64 f.r2, .int .i64 f.r3, .int .i64 f.r4, .string f.op, .slice A m c]] w fun e w' => e = .returned (.bool (fitsB f m)) ∧ Below w.heap.size w w' := by
  have hb1 : Below w.heap.size w (w.alloc (.cells #[.int .i64 f.k, .int .i64 f.vk, .int .i64 f.vn, .string f.vs, .int .i64 f.r1, .int .i64 f.r2, .int .i64 f.r3, .int .i64 f.r4, .string f.op, .slice A m c] 30)) := (Below.refl _ _).alloc (Nat.le_refl _) _
  have L1 : NLoc (w.alloc (.cells #[.int .i64 f.k, .int .i64 f.vk, .int .i64 f.vn, .string f.vs, .int .i64 f.r1, .int .i64 f.r2, .int .i64 f.r3, .int .i64 f.r4, .string f.op, .slice A m c] 30)) w.heap.size f A m c := ⟨heap_alloc_new _ _⟩
  have eV : ∀ W, (binOp .eql 23 (.agg #[.int .i64 f.vk, .int .i64 f.vn, .string f.vs]) (.agg #[.int .i64 0, .int .i64 0, .string { data := #[] }])).run Tryz.prog W = .ok (.bool (noVB f)) W := fun W => ValueC.eqs _ _ _ _ _ _ W
  have eR : ∀ W, (binOp .eql 27 (.agg #[.int .i64 f.r1, .int .i64 f.r2, .int .i64 f.r3, .int .i64 f.r4]) (.agg #[.int .i64 0, .int .i64 0, .int .i64 0, .int .i64 0])).run Tryz.prog W = .ok (.bool (noRB f)) W := fun W => eq_rect _ _ _ _ _ _ _ _ W
  have eO : (f.op.toList == []) = noOB f := rfl
  have eT : ∀ W, (binOp .eql 25 (.agg #[.int .i64 f.r3, .int .i64 f.r4]) (.agg #[.int .i64 0, .int .i64 0])).run Tryz.prog W = .ok (.bool (noTB f)) W := fun W => eq_addr _ _ _ _ W
  generalize hD : fitsB f m = D
  have HD := Lib.hid hD.symm
  clear hD
  have HK := Lib.hid hk
  clear hk
  obtain ⟨d0, d1, d2, d3, d4, d5, d6, d7, d8, d9, -⟩ := L1.cells
  go_enter Tryz.func64, Tryz.ntmps64
  go_wp2_with fail
  generalize (w.alloc (.cells #[.int .i64 f.k, .int .i64 f.vk, .int .i64 f.vn, .string f.vs, .int .i64 f.r1, .int .i64 f.r2, .int .i64 f.r3, .int .i64 f.r4, .string f.op, .slice A m c] 30)) = W1 at *
  go_quiet (fail)
  have L2 := L1.kept ((Kept.refl W1.heap.size W1).drew nq) (Nat.ne_of_lt L1.lt)
  have HB0 := Lib.hid (hb1.trans (below_drewN' (Below.refl _ _) nq))
  clear d0 d1 d2 d3 d4 d5 d6 d7 d8 d9
  obtain ⟨d0, d1, d2, d3, d4, d5, d6, d7, d8, d9, -⟩ := L2.cells
  rw [HK.out] at d0
  generalize W1.drewN nq = W2 at *
  clear eV eR eO
  go_wp2_with fail
  refine (AddrC.good f.r1 f.r2 _).mono ?_; rintro e w2 ⟨rfl, hb2⟩
  have L3 := L2.kept (Kept.of (x := W2.heap.size) hb2) (Nat.ne_of_lt L2.lt)
  clear d0 d1 d2 d3 d4 d5 d6 d7 d8 d9
  obtain ⟨d0, d1, d2, d3, d4, d5, d6, d7, d8, d9, -⟩ := L3.cells
  have HB1 := Lib.hid (HB0.out.trans (hb2.mono HB0.out.size))
  have HE : Hid (D = (AddrC.cellB f.r1 f.r2 && noTB f && noVB f && noOB f && decide (m = 0))) := Lib.hid (HD.out.trans (by simp only [fitsB, HK.out]; simp))
  clear HD
  by_cases hm0 : m = 0
  · have e0 : ((m : Int) == 0) = true := beq_iff_eq.2 (by omega)
    cases c0 : AddrC.cellB f.r1 f.r2 <;> cases c1 : noTB f <;> cases c2 : noVB f <;> cases c3 : noOB f
    all_goals
      go_wp2_with fail
      go_ret
      exact ⟨by rw [HE.out]; simp [hm0, c0, c1, c2, c3], HB1.out⟩
  · have e0 : ((m : Int) == 0) = false := beq_eq_false_iff_ne.2 (by omega)
    cases c0 : AddrC.cellB f.r1 f.r2 <;> cases c1 : noTB f <;> cases c2 : noVB f <;> cases c3 : noOB f
    all_goals
      go_wp2_with fail
      go_ret
      exact ⟨by rw [HE.out]; simp [hm0, c0, c1, c2, c3], HB1.out⟩
set_option maxRecDepth 100000 in
set_option maxHeartbeats 1000000 in
theorem cfits3 (f : Fld) (A : Option Addr) (m c : Nat) (w : World) (hm : m ≤ 1000000) (hl : LexLib w) (hk : f.k = 3) :
    Calls Tryz.prog 64 #[.agg #[.int .i64 f.k, .int .i64 f.vk, .int .i64 f.vn, .string f.vs, .int .i64 f.r1, .int .i64 f.r2, .int .i64 f.r3, .int .i64 f.r4, .string f.op, .slice A m c]] w fun e w' => e = .returned (.bool (fitsB f m)) ∧ Below w.heap.size w w' := by
  have hb1 : Below w.heap.size w (w.alloc (.cells #[.int .i64 f.k, .int .i64 f.vk, .int .i64 f.vn, .string f.vs, .int .i64 f.r1, .int .i64 f.r2, .int .i64 f.r3, .int .i64 f.r4, .string f.op, .slice A m c] 30)) := (Below.refl _ _).alloc (Nat.le_refl _) _
  have L1 : NLoc (w.alloc (.cells #[.int .i64 f.k, .int .i64 f.vk, .int .i64 f.vn, .string f.vs, .int .i64 f.r1, .int .i64 f.r2, .int .i64 f.r3, .int .i64 f.r4, .string f.op, .slice A m c] 30)) w.heap.size f A m c := ⟨heap_alloc_new _ _⟩
  have eV : ∀ W, (binOp .eql 23 (.agg #[.int .i64 f.vk, .int .i64 f.vn, .string f.vs]) (.agg #[.int .i64 0, .int .i64 0, .string { data := #[] }])).run Tryz.prog W = .ok (.bool (noVB f)) W := fun W => ValueC.eqs _ _ _ _ _ _ W
  have eR : ∀ W, (binOp .eql 27 (.agg #[.int .i64 f.r1, .int .i64 f.r2, .int .i64 f.r3, .int .i64 f.r4]) (.agg #[.int .i64 0, .int .i64 0, .int .i64 0, .int .i64 0])).run Tryz.prog W = .ok (.bool (noRB f)) W := fun W => eq_rect _ _ _ _ _ _ _ _ W
  have eO : (f.op.toList == []) = noOB f := rfl
  generalize hD : fitsB f m = D
  have HD := Lib.hid hD.symm
  clear hD
  have HK := Lib.hid hk
  clear hk
  obtain ⟨d0, d1, d2, d3, d4, d5, d6, d7, d8, d9, -⟩ := L1.cells
  go_enter Tryz.func64, Tryz.ntmps64
  go_wp2_with fail
  generalize (w.alloc (.cells #[.int .i64 f.k, .int .i64 f.vk, .int .i64 f.vn, .string f.vs, .int .i64 f.r1, .int .i64 f.r2, .int .i64 f.r3, .int .i64 f.r4, .string f.op, .slice A m c] 30)) = W1 at *
  go_quiet (fail)
  have L2 := L1.kept ((Kept.refl W1.heap.size W1).drew nq) (Nat.ne_of_lt L1.lt)
  have HB0 := Lib.hid (hb1.trans (below_drewN' (Below.refl _ _) nq))
  clear d0 d1 d2 d3 d4 d5 d6 d7 d8 d9
  obtain ⟨d0, d1, d2, d3, d4, d5, d6, d7, d8, d9, -⟩ := L2.cells
  rw [HK.out] at d0
  generalize W1.drewN nq = W2 at *
  clear eV eR eO
  go_wp2_with fail
  refine (AddrC.fine f.r1 f.r2 f.r3 f.r4 _).mono ?_; rintro e w2 ⟨rfl, hb2⟩
  have HB1 := Lib.hid (HB0.out.trans (hb2.mono HB0.out.size))
  have HE : Hid (D = (AddrC.fineB f.r1 f.r2 f.r3 f.r4 && noVB f && noOB f && decide (m = 0))) := Lib.hid (HD.out.trans (by simp only [fitsB, HK.out]; simp))
  clear HD
  by_cases hm0 : m = 0
  · have e0 : ((m : Int) == 0) = true := beq_iff_eq.2 (by omega)
    cases c0 : AddrC.fineB f.r1 f.r2 f.r3 f.r4 <;> cases c1 : noVB f <;> cases c2 : noOB f
    all_goals
      go_wp2_with fail
      go_ret
      exact ⟨by rw [HE.out]; simp [hm0, c0, c1, c2], HB1.out⟩
  · have e0 : ((m : Int) == 0) = false := beq_eq_false_iff_ne.2 (by omega)
    cases c0 : AddrC.fineB f.r1 f.r2 f.r3 f.r4 <;> cases c1 : noVB f <;> cases c2 : noOB f
    all_goals
      go_wp2_with fail
      go_ret
      exact ⟨by rw [HE.out]; simp [hm0, c0, c1, c2], HB1.out⟩
set_option maxRecDepth 100000 in
set_option maxHeartbeats 1000000 in
theorem cfits4 (f : Fld) (A : Option Addr) (m c : Nat) (w : World) (hm : m ≤ 1000000) (hl : LexLib w) (hk : f.k = 4) :
    Calls Tryz.prog 64 #[.agg #[.int .i64 f.k, .int .i64 f.vk, .int .i64 f.vn, .string f.vs, .int .i64 f.r1, .int .i64 f.r2, .int .i64 f.r3, .int .i64 f.r4, .string f.op, .slice A m c]] w fun e w' => e = .returned (.bool (fitsB f m)) ∧ Below w.heap.size w w' := by
  have hb1 : Below w.heap.size w (w.alloc (.cells #[.int .i64 f.k, .int .i64 f.vk, .int .i64 f.vn, .string f.vs, .int .i64 f.r1, .int .i64 f.r2, .int .i64 f.r3, .int .i64 f.r4, .string f.op, .slice A m c] 30)) := (Below.refl _ _).alloc (Nat.le_refl _) _
  have L1 : NLoc (w.alloc (.cells #[.int .i64 f.k, .int .i64 f.vk, .int .i64 f.vn, .string f.vs, .int .i64 f.r1, .int .i64 f.r2, .int .i64 f.r3, .int .i64 f.r4, .string f.op, .slice A m c] 30)) w.heap.size f A m c := ⟨heap_alloc_new _ _⟩
  have eV : ∀ W, (binOp .eql 23 (.agg #[.int .i64 f.vk, .int .i64 f.vn, .string f.vs]) (.agg #[.int .i64 0, .int .i64 0, .string { data := #[] }])).run Tryz.prog W = .ok (.bool (noVB f)) W := fun W => ValueC.eqs _ _ _ _ _ _ W
  have eR : ∀ W, (binOp .eql 27 (.agg #[.int .i64 f.r1, .int .i64 f.r2, .int .i64 f.r3, .int .i64 f.r4]) (.agg #[.int .i64 0, .int .i64 0, .int .i64 0, .int .i64 0])).run Tryz.prog W = .ok (.bool (noRB f)) W := fun W => eq_rect _ _ _ _ _ _ _ _ W
  have eO : (f.op.toList == []) = noOB f := rfl
  generalize hD : fitsB f m = D
  have HD := Lib.hid hD.symm
  clear hD
  have HK := Lib.hid hk
  clear hk
  obtain ⟨d0, d1, d2, d3, d4, d5, d6, d7, d8, d9, -⟩ := L1.cells
  go_enter Tryz.func64, Tryz.ntmps64
  go_wp2_with fail
  generalize (w.alloc (.cells #[.int .i64 f.k, .int .i64 f.vk, .int .i64 f.vn, .string f.vs, .int .i64 f.r1, .int .i64 f.r2, .int .i64 f.r3, .int .i64 f.r4, .string f.op, .slice A m c] 30)) = W1 at *
  go_quiet (fail)
  have L2 := L1.kept ((Kept.refl W1.heap.size W1).drew nq) (Nat.ne_of_lt L1.lt)
  have HB0 := Lib.hid (hb1.trans (below_drewN' (Below.refl _ _) nq))
  clear d0 d1 d2 d3 d4 d5 d6 d7 d8 d9
  obtain ⟨d0, d1, d2, d3, d4, d5, d6, d7, d8, d9, -⟩ := L2.cells
  rw [HK.out] at d0
  generalize W1.drewN nq = W2 at *
  clear eV eR eO
  have HE : Hid (D = (decide (m = 1) && noVB f && noRB f && noOB f)) := Lib.hid (HD.out.trans (by simp only [fitsB, HK.out]; simp))
  clear HD
  by_cases hm0 : m = 1
  · have e0 : ((m : Int) == 1) = true := beq_iff_eq.2 (by omega)
    cases c0 : noVB f <;> cases c1 : noRB f <;> cases c2 : noOB f
    all_goals
      go_wp2_with fail
      go_ret
      exact ⟨by rw [HE.out]; simp [hm0, c0, c1, c2], HB0.out⟩
  · have e0 : ((m : Int) == 1) = false := beq_eq_false_iff_ne.2 (by omega)
    cases c0 : noVB f <;> cases c1 : noRB f <;> cases c2 : noOB f
    all_goals
      go_wp2_with fail
      go_ret
      exact ⟨by rw [HE.out]; simp [hm0, c0, c1, c2], HB0.out⟩
set_option maxRecDepth 100000 in
set_option maxHeartbeats 1000000 in
theorem cfits5 (f : Fld) (A : Option Addr) (m c : Nat) (w : World) (hm : m ≤ 1000000) (hl : LexLib w) (hk : f.k = 5) :
    Calls Tryz.prog 64 #[.agg #[.int .i64 f.k, .int .i64 f.vk, .int .i64 f.vn, .string f.vs, .int .i64 f.r1, .int .i64 f.r2, .int .i64 f.r3, .int .i64 f.r4, .string f.op, .slice A m c]] w fun e w' => e = .returned (.bool (fitsB f m)) ∧ Below w.heap.size w w' := by
  have hb1 : Below w.heap.size w (w.alloc (.cells #[.int .i64 f.k, .int .i64 f.vk, .int .i64 f.vn, .string f.vs, .int .i64 f.r1, .int .i64 f.r2, .int .i64 f.r3, .int .i64 f.r4, .string f.op, .slice A m c] 30)) := (Below.refl _ _).alloc (Nat.le_refl _) _
  have L1 : NLoc (w.alloc (.cells #[.int .i64 f.k, .int .i64 f.vk, .int .i64 f.vn, .string f.vs, .int .i64 f.r1, .int .i64 f.r2, .int .i64 f.r3, .int .i64 f.r4, .string f.op, .slice A m c] 30)) w.heap.size f A m c := ⟨heap_alloc_new _ _⟩
  have eV : ∀ W, (binOp .eql 23 (.agg #[.int .i64 f.vk, .int .i64 f.vn, .string f.vs]) (.agg #[.int .i64 0, .int .i64 0, .string { data := #[] }])).run Tryz.prog W = .ok (.bool (noVB f)) W := fun W => ValueC.eqs _ _ _ _ _ _ W
  have eR : ∀ W, (binOp .eql 27 (.agg #[.int .i64 f.r1, .int .i64 f.r2, .int .i64 f.r3, .int .i64 f.r4]) (.agg #[.int .i64 0, .int .i64 0, .int .i64 0, .int .i64 0])).run Tryz.prog W = .ok (.bool (noRB f)) W := fun W => eq_rect _ _ _ _ _ _ _ _ W
  have eO : (f.op.toList == []) = noOB f := rfl
  generalize hD : fitsB f m = D
  have HD := Lib.hid hD.symm
  clear hD
  have HK := Lib.hid hk
  clear hk
  obtain ⟨d0, d1, d2, d3, d4, d5, d6, d7, d8, d9, -⟩ := L1.cells
  go_enter Tryz.func64, Tryz.ntmps64
  go_wp2_with fail
  generalize (w.alloc (.cells #[.int .i64 f.k, .int .i64 f.vk, .int .i64 f.vn, .string f.vs, .int .i64 f.r1, .int .i64 f.r2, .int .i64 f.r3, .int .i64 f.r4, .string f.op, .slice A m c] 30)) = W1 at *
  go_quiet (fail)
  have L2 := L1.kept ((Kept.refl W1.heap.size W1).drew nq) (Nat.ne_of_lt L1.lt)
  have HB0 := Lib.hid (hb1.trans (below_drewN' (Below.refl _ _) nq))
  clear d0 d1 d2 d3 d4 d5 d6 d7 d8 d9
  obtain ⟨d0, d1, d2, d3, d4, d5, d6, d7, d8, d9, -⟩ := L2.cells
  rw [HK.out] at d0
  generalize W1.drewN nq = W2 at *
  clear eV eR eO
  go_wp2_with fail
  refine (cisBinary f.op _).mono ?_; rintro e w2 ⟨rfl, hb2⟩
  have HB1 := Lib.hid (HB0.out.trans (hb2.mono HB0.out.size))
  have HE : Hid (D = (binB f.op && decide (m = 2) && noVB f && noRB f)) := Lib.hid (HD.out.trans (by simp only [fitsB, HK.out]; simp))
  clear HD
  by_cases hm0 : m = 2
  · have e0 : ((m : Int) == 2) = true := beq_iff_eq.2 (by omega)
    cases c0 : binB f.op <;> cases c1 : noVB f <;> cases c2 : noRB f
    all_goals
      go_wp2_with fail
      go_ret
      exact ⟨by rw [HE.out]; simp [hm0, c0, c1, c2], HB1.out⟩
  · have e0 : ((m : Int) == 2) = false := beq_eq_false_iff_ne.2 (by omega)
    cases c0 : binB f.op <;> cases c1 : noVB f <;> cases c2 : noRB f
    all_goals
      go_wp2_with fail
      go_ret
      exact ⟨by rw [HE.out]; simp [hm0, c0, c1, c2], HB1.out⟩
set_option maxRecDepth 100000 in
set_option maxHeartbeats 1000000 in
theorem cfits6 (f : Fld) (A : Option Addr) (m c : Nat) (w : World) (hm : m ≤ 1000000) (hl : LexLib w) (hk : f.k = 6) :
    Calls Tryz.prog 64 #[.agg #[.int .i64 f.k, .int .i64 f.vk, .int .i64 f.vn, .string f.vs, .int .i64 f.r1, .int .i64 f.r2, .int .i64 f.r3, .int .i64 f.r4, .string f.op, .slice A m c]] w fun e w' => e = .returned (.bool (fitsB f m)) ∧ Below w.heap.size w w' := by
  have hb1 : Below w.heap.size w (w.alloc (.cells #[.int .i64 f.k, .int .i64 f.vk, .int .i64 f.vn, .string f.vs, .int .i64 f.r1, .int .i64 f.r2, .int .i64 f.r3, .int .i64 f.r4, .string f.op, .slice A m c] 30)) := (Below.refl _ _).alloc (Nat.le_refl _) _
  have L1 : NLoc (w.alloc (.cells #[.int .i64 f.k, .int .i64 f.vk, .int .i64 f.vn, .string f.vs, .int .i64 f.r1, .int .i64 f.r2, .int .i64 f.r3, .int .i64 f.r4, .string f.op, .slice A m c] 30)) w.heap.size f A m c := ⟨heap_alloc_new _ _⟩
  have eV : ∀ W, (binOp .eql 23 (.agg #[.int .i64 f.vk, .int .i64 f.vn, .string f.vs]) (.agg #[.int .i64 0, .int .i64 0, .string { data := #[] }])).run Tryz.prog W = .ok (.bool (noVB f)) W := fun W => ValueC.eqs _ _ _ _ _ _ W
  have eR : ∀ W, (binOp .eql 27 (.agg #[.int .i64 f.r1, .int .i64 f.r2, .int .i64 f.r3, .int .i64 f.r4]) (.agg #[.int .i64 0, .int .i64 0, .int .i64 0, .int .i64 0])).run Tryz.prog W = .ok (.bool (noRB f)) W := fun W => eq_rect _ _ _ _ _ _ _ _ W
  have eO : (f.op.toList == []) = noOB f := rfl
  generalize hD : fitsB f m = D
  have HD := Lib.hid hD.symm
  clear hD
  have HK := Lib.hid hk
  clear hk
  obtain ⟨d0, d1, d2, d3, d4, d5, d6, d7, d8, d9, -⟩ := L1.cells
  go_enter Tryz.func64, Tryz.ntmps64
  go_wp2_with fail
  generalize (w.alloc (.cells #[.int .i64 f.k, .int .i64 f.vk, .int .i64 f.vn, .string f.vs, .int .i64 f.r1, .int .i64 f.r2, .int .i64 f.r3, .int .i64 f.r4, .string f.op, .slice A m c] 30)) = W1 at *
  go_quiet (fail)
  have L2 := L1.kept ((Kept.refl W1.heap.size W1).drew nq) (Nat.ne_of_lt L1.lt)
  have HB0 := Lib.hid (hb1.trans (below_drewN' (Below.refl _ _) nq))
  clear d0 d1 d2 d3 d4 d5 d6 d7 d8 d9
  obtain ⟨d0, d1, d2, d3, d4, d5, d6, d7, d8, d9, -⟩ := L2.cells
  rw [HK.out] at d0
  generalize W1.drewN nq = W2 at *
  clear eV eR eO
  go_wp2_with fail
  refine (cisName f.op _ (hl.below HB0.out)).mono ?_; rintro e w2 ⟨rfl, hb2⟩
  have HB1 := Lib.hid (HB0.out.trans (hb2.mono HB0.out.size))
  have HE : Hid (D = (fnB f.op && decide (m ≤ 10) && noVB f && noRB f)) := Lib.hid (HD.out.trans (by simp only [fitsB, HK.out]; simp))
  clear HD
  by_cases hm0 : m ≤ 10
  · have e0 : (m : Int) ≤ 10 := by omega
    cases c0 : fnB f.op <;> cases c1 : noVB f <;> cases c2 : noRB f
    all_goals
      go_wp2_with fail
      go_ret
      exact ⟨by rw [HE.out]; simp [hm0, c0, c1, c2], HB1.out⟩
  · have e0 : ¬ (m : Int) ≤ 10 := by omega
    cases c0 : fnB f.op <;> cases c1 : noVB f <;> cases c2 : noRB f
    all_goals
      go_wp2_with fail
      go_ret
      exact ⟨by rw [HE.out]; simp [hm0, c0, c1, c2], HB1.out⟩
set_option maxRecDepth 100000 in
set_option maxHeartbeats 1000000 in
theorem cfits0 (f : Fld) (A : Option Addr) (m c : Nat) (w : World) (hm : m ≤ 1000000) (hl : LexLib w) (h1 : f.k ≠ 1) (h2 : f.k ≠ 2) (h3 : f.k ≠ 3) (h4 : f.k ≠ 4) (h5 : f.k ≠ 5) (h6 : f.k ≠ 6) :
    Calls Tryz.prog 64 #[.agg #[.int .i64 f.k, .int .i64 f.vk, .int .i64 f.vn, .string f.vs, .int .i64 f.r1, .int .i64 f.r2, .int .i64 f.r3, .int .i64 f.r4, .string f.op, .slice A m c]] w fun e w' => e = .returned (.bool (fitsB f m)) ∧ Below w.heap.size w w' := by
  have hb1 : Below w.heap.size w (w.alloc (.cells #[.int .i64 f.k, .int .i64 f.vk, .int .i64 f.vn, .string f.vs, .int .i64 f.r1, .int .i64 f.r2, .int .i64 f.r3, .int .i64 f.r4, .string f.op, .slice A m c] 30)) := (Below.refl _ _).alloc (Nat.le_refl _) _
  have L1 : NLoc (w.alloc (.cells #[.int .i64 f.k, .int .i64 f.vk, .int .i64 f.vn, .string f.vs, .int .i64 f.r1, .int .i64 f.r2, .int .i64 f.r3, .int .i64 f.r4, .string f.op, .slice A m c] 30)) w.heap.size f A m c := ⟨heap_alloc_new _ _⟩
  have eV : ∀ W, (binOp .eql 23 (.agg #[.int .i64 f.vk, .int .i64 f.vn, .string f.vs]) (.agg #[.int .i64 0, .int .i64 0, .string { data := #[] }])).run Tryz.prog W = .ok (.bool (noVB f)) W := fun W => ValueC.eqs _ _ _ _ _ _ W
  have eR : ∀ W, (binOp .eql 27 (.agg #[.int .i64 f.r1, .int .i64 f.r2, .int .i64 f.r3, .int .i64 f.r4]) (.agg #[.int .i64 0, .int .i64 0, .int .i64 0, .int .i64 0])).run Tryz.prog W = .ok (.bool (noRB f)) W := fun W => eq_rect _ _ _ _ _ _ _ _ W
  have eO : (f.op.toList == []) = noOB f := rfl
  generalize hD : fitsB f m = D
  have HD := Lib.hid hD.symm
  clear hD
  have HK := Lib.hid (And.intro h1 (And.intro h2 (And.intro h3 (And.intro h4 (And.intro h5 h6)))))
  clear h1 h2 h3 h4 h5 h6
  obtain ⟨d0, d1, d2, d3, d4, d5, d6, d7, d8, d9, -⟩ := L1.cells
  go_enter Tryz.func64, Tryz.ntmps64
  go_wp2_with fail
  generalize (w.alloc (.cells #[.int .i64 f.k, .int .i64 f.vk, .int .i64 f.vn, .string f.vs, .int .i64 f.r1, .int .i64 f.r2, .int .i64 f.r3, .int .i64 f.r4, .string f.op, .slice A m c] 30)) = W1 at *
  go_quiet (fail)
  have L2 := L1.kept ((Kept.refl W1.heap.size W1).drew nq) (Nat.ne_of_lt L1.lt)
  have HB0 := Lib.hid (hb1.trans (below_drewN' (Below.refl _ _) nq))
  clear d0 d1 d2 d3 d4 d5 d6 d7 d8 d9
  obtain ⟨d0, d1, d2, d3, d4, d5, d6, d7, d8, d9, -⟩ := L2.cells
  have b1 : (f.k == 1) = false := beq_eq_false_iff_ne.2 HK.out.1
  have b2 : (f.k == 2) = false := beq_eq_false_iff_ne.2 HK.out.2.1
  have b3 : (f.k == 3) = false := beq_eq_false_iff_ne.2 HK.out.2.2.1
  have b4 : (f.k == 4) = false := beq_eq_false_iff_ne.2 HK.out.2.2.2.1
  have b5 : (f.k == 5) = false := beq_eq_false_iff_ne.2 HK.out.2.2.2.2.1
  have b6 : (f.k == 6) = false := beq_eq_false_iff_ne.2 HK.out.2.2.2.2.2
  generalize W1.drewN nq = W2 at *
  clear eV eR eO
  have HE : Hid (D = false) := Lib.hid (HD.out.trans (by simp [fitsB, HK.out.1, HK.out.2.1, HK.out.2.2.1, HK.out.2.2.2.1, HK.out.2.2.2.2.1, HK.out.2.2.2.2.2]))
  go_wp2_with fail
  go_ret
  exact ⟨by rw [HE.out]; rfl, HB0.out⟩
theorem fits_all : Fits fitsB := fun f A m c w hm hl => by
  by_cases h1 : f.k = 1
  · exact cfits1 f A m c w hm hl h1
  by_cases h2 : f.k = 2
  · exact cfits2 f A m c w hm hl h2
  by_cases h3 : f.k = 3
  · exact cfits3 f A m c w hm hl h3
  by_cases h4 : f.k = 4
  · exact cfits4 f A m c w hm hl h4
  by_cases h5 : f.k = 5
  · exact cfits5 f A m c w hm hl h5
  by_cases h6 : f.k = 6
  · exact cfits6 f A m c w hm hl h6
  exact cfits0 f A m c w hm hl h1 h2 h3 h4 h5 h6
end Go.Proofs.YtccigjelbnjcoaaGreatDoor.TreeC
namespace Go.Proofs.YtccigjelbnjcoaaGreatDoor.RefsC
set_option linter.unusedVariables false
open Go.RowKit Go.Proofs.YtccigjelbnjcoaaGreatDoor.NumC
open Go.Proofs.YtccigjelbnjcoaaGreatDoor.TreeC (eq_rect eq_addr addr_add0 addr_add below_grown)
def rcells (l : List Rc) : List Value := l.flatMap fun x => [.int .i64 x.a, .int .i64 x.b, .int .i64 x.c, .int .i64 x.d]
theorem rcells_cons (x : Rc) (l : List Rc) : rcells (x :: l) = .int .i64 x.a :: .int .i64 x.b :: .int .i64 x.c :: .int .i64 x.d :: rcells l := rfl
theorem rcells_app (l m : List Rc) : rcells (l ++ m) = rcells l ++ rcells m := by unfold rcells; rw [List.flatMap_append]
theorem rcells_len (l : List Rc) : (rcells l).length = l.length * 4 := by
  induction l with
  | nil => rfl
  | cons x l ih => rw [rcells_cons, List.length_cons, List.length_cons, List.length_cons, List.length_cons, ih, List.length_cons]; omega
theorem rcells_one (l : List Rc) : ∀ u ∈ rcells l, u.oneCell' = true := by
  induction l with
  | nil => intro u hu; cases hu
  | cons x l ih =>
    intro u hu
    rw [rcells_cons] at hu
    simp only [List.mem_cons] at hu
    rcases hu with rfl | rfl | rfl | rfl | hu
    · rfl
    · rfl
    · rfl
    · rfl
    · exact ih u hu
theorem rcells_at (l : List Rc) : ∀ (i : Nat) (x : Rc), l[i]? = some x → (rcells l)[i * 4]? = some (.int .i64 x.a) ∧ (rcells l)[i * 4 + 1]? = some (.int .i64 x.b) ∧ (rcells l)[i * 4 + 2]? = some (.int .i64 x.c) ∧ (rcells l)[i * 4 + 3]? = some (.int .i64 x.d) := by
  induction l with
  | nil => intro i x h; cases h
  | cons y l ih =>
    intro i x h
    cases i with
    | zero => cases h; exact ⟨rfl, rfl, rfl, rfl⟩
    | succ i =>
      obtain ⟨h0, h1, h2, h3⟩ := ih i x h
      rw [rcells_cons, show (i + 1) * 4 = i * 4 + 1 + 1 + 1 + 1 from by omega, show i * 4 + 1 + 1 + 1 + 1 + 1 = (i * 4 + 1) + 1 + 1 + 1 + 1 from by omega, show i * 4 + 1 + 1 + 1 + 1 + 2 = (i * 4 + 2) + 1 + 1 + 1 + 1 from by omega, show i * 4 + 1 + 1 + 1 + 1 + 3 = (i * 4 + 3) + 1 + 1 + 1 + 1 from by omega]
      simp only [List.getElem?_cons_succ]
      exact ⟨h0, h1, h2, h3⟩
theorem RAt.cells {w : World} {B : Nat} {l : List Rc} {A : Option Addr} (h : RAt w B l A) (hne : l ≠ []) : ∃ g o, A = some ⟨g, o, none⟩ ∧ g < B ∧ ∀ j u, (rcells l)[j]? = some u → w.cell? ⟨g, o + j, none⟩ = some u := by
  rcases h with h | ⟨g, o, e, hg, h⟩
  · exact absurd h hne
  · refine ⟨g, o, e, hg, fun j u hj => ?_⟩
    have hl : j < (rcells l).length := (List.getElem?_eq_some_iff.1 hj).1
    rw [rcells_len] at hl
    obtain ⟨x, hx⟩ := nth_some l (j / 4) (by omega)
    obtain ⟨c0, c1, c2, c3⟩ := h _ x hx
    obtain ⟨r0, r1, r2, r3⟩ := rcells_at l _ x hx
    have h4 : j = j / 4 * 4 ∨ j = j / 4 * 4 + 1 ∨ j = j / 4 * 4 + 2 ∨ j = j / 4 * 4 + 3 := by omega
    rcases h4 with h4 | h4 | h4 | h4
    · rw [h4, r0] at hj; cases hj; rw [h4]; exact c0
    · rw [h4, r1] at hj; cases hj; rw [h4]; exact c1
    · rw [h4, r2] at hj; cases hj; rw [h4]; exact c2
    · rw [h4, r3] at hj; cases hj; rw [h4]; exact c3
def OS (w : World) (B : Nat) (v : Value) (l : List Rc) : Prop := w.ownsRow B 27 4 v l.length (rcells l)
theorem OS.nil (w : World) (B : Nat) : OS w B (.slice none 0 0) [] := ⟨rfl, Or.inl ⟨rfl, rfl⟩⟩
theorem OS.form {w : World} {B : Nat} {v : Value} {l : List Rc} (h : OS w B v l) : ∃ A c, v = .slice A l.length c := by
  obtain ⟨-, ⟨rfl, h⟩ | ⟨g, cap, cur, rfl, -⟩⟩ := h
  · exact ⟨none, 0, by rw [h]⟩
  · exact ⟨_, _, rfl⟩
theorem OS.lt {w : World} {B : Nat} {v : Value} {l : List Rc} (h : OS w B v l) : ∀ k, v.ownBlock = some k → B ≤ k ∧ k < w.heap.size := World.ownsRow.lt h
theorem OS.below {w w' : World} {B : Nat} {v : Value} {l : List Rc} (h : OS w B v l) (hk : Below w.heap.size w w') : OS w' B v l := by
  obtain ⟨h1, h2⟩ := h
  refine ⟨h1, ?_⟩
  rcases h2 with h2 | ⟨g, cap, cur, e, hb, hg, h⟩
  · exact Or.inl h2
  · exact Or.inr ⟨g, cap, cur, e, hb, (hk.block g (Array.getElem?_eq_some_iff.1 hg).1).trans hg, h⟩
theorem OS.grown {w w' : World} {B : Nat} {v : Value} {l : List Rc} {row : Option Nat} (h : OS w B v l) (hg : w.grownBy w' row) (hne : v.ownBlock = none ∨ v.ownBlock ≠ row) : OS w' B v l := World.ownsRow.kept h hg hne
theorem OS.mono {w : World} {B C : Nat} {v : Value} {l : List Rc} (h : OS w B v l) (hb : C ≤ B) : OS w C v l := by
  obtain ⟨h1, h2⟩ := h
  refine ⟨h1, ?_⟩
  rcases h2 with h2 | ⟨g, cap, cur, e, hb2, h⟩
  · exact Or.inl h2
  · exact Or.inr ⟨g, cap, cur, e, Nat.le_trans hb hb2, h⟩
theorem OS.rat {w : World} {B c n : Nat} {A : Option Addr} {l : List Rc} (h : OS w B (.slice A n c) l) : n = l.length ∧ RAt w w.heap.size l A := by
  have hc := fun g hg => World.ownsRow.cells (g := g) h hg
  obtain ⟨h1, ⟨h2, h3⟩ | ⟨g, cap, cur, e, hb, hg, h2⟩⟩ := h
  · cases h2; exact ⟨h3.symm, Or.inl (List.length_eq_zero_iff.1 h3)⟩
  · injection e with e1 e2 e3
    subst e1 e2 e3
    refine ⟨rfl, Or.inr ⟨g, 0, rfl, (Array.getElem?_eq_some_iff.1 hg).1, fun i x hx => ?_⟩⟩
    obtain ⟨r0, r1, r2, r3⟩ := rcells_at l i x hx
    have hh : ∀ j u, (rcells l)[j]? = some u → w.cell? ⟨g, 0 + j, none⟩ = some u := fun j u hj => by
      have := hc g rfl j u hj
      rwa [addr_add0, ← Nat.zero_add j] at this
    exact ⟨hh _ _ r0, hh _ _ r1, hh _ _ r2, hh _ _ r3⟩
set_option maxHeartbeats 1000000 in
set_option maxRecDepth 100000 in
theorem cbefore (x y : Rc) (w : World) : Calls Tryz.prog 52 #[.agg #[.int .i64 x.a, .int .i64 x.b, .int .i64 x.c, .int .i64 x.d], .agg #[.int .i64 y.a, .int .i64 y.b, .int .i64 y.c, .int .i64 y.d]] w fun e w' => e = .returned (.bool (aheadB x y)) ∧ Below w.heap.size w w' := by
  have eA := eq_addr x.a x.b y.a y.b
  by_cases h : x.a = y.a ∧ x.b = y.b
  · have E : Hid (AddrC.beforeB x.c x.d y.c y.d = aheadB x y) := Lib.hid (by unfold aheadB; rw [if_pos h])
    rw [decide_eq_true h] at eA
    clear h
    go_enter Tryz.func52, Tryz.ntmps52
    go_wp2_with fail
    refine (AddrC.before _ _ _ _ _).mono ?_; rw [E.out]; rintro e w1 ⟨rfl, hb1⟩
    go_wp2_with fail
    go_ret
    exact ⟨rfl, AddrC.grow (AddrC.grow hb1)⟩
  · have E : Hid (AddrC.beforeB x.a x.b y.a y.b = aheadB x y) := Lib.hid (by unfold aheadB; rw [if_neg h])
    rw [decide_eq_false h] at eA
    clear h
    go_enter Tryz.func52, Tryz.ntmps52
    go_wp2_with fail
    refine (AddrC.before _ _ _ _ _).mono ?_; rw [E.out]; rintro e w1 ⟨rfl, hb1⟩
    go_wp2_with fail
    go_ret
    exact ⟨rfl, AddrC.grow (AddrC.grow hb1)⟩
set_option maxHeartbeats 1000000 in
set_option maxRecDepth 100000 in
theorem rAhead (x y : Rc) (w : World) : Calls Tryz.prog 25 #[.agg #[.int .i64 x.a, .int .i64 x.b, .int .i64 x.c, .int .i64 x.d], .agg #[.int .i64 y.a, .int .i64 y.b, .int .i64 y.c, .int .i64 y.d]] w fun e w' => e = .returned (.bool (aheadB x y)) ∧ Below w.heap.size w w' := by
  have eA : ∀ W, (binOp .neq 25 (.agg #[.int .i64 x.a, .int .i64 x.b]) (.agg #[.int .i64 y.a, .int .i64 y.b])).run Tryz.prog W = .ok (.bool (!decide (x.a = y.a ∧ x.b = y.b))) W := fun W => by
    have h := eq_addr x.a x.b y.a y.b W
    rw [run_eql_struct] at h
    rw [run_neq_struct]
    cases hr : (Op.equalIn 10000 25 (.agg #[.int .i64 x.a, .int .i64 x.b]) (.agg #[.int .i64 y.a, .int .i64 y.b])).run Tryz.prog W with
    | ok v w' =>
      rw [hr] at h
      simp only [Result.andThen, Result.ok.injEq, Value.bool.injEq] at h ⊢
      obtain ⟨h1, h2⟩ := h
      rw [h1]; simp [h2]
    | halt e w' => rw [hr] at h; cases h
  by_cases h : x.a = y.a ∧ x.b = y.b
  · have E : Hid (AddrC.beforeB x.c x.d y.c y.d = aheadB x y) := Lib.hid (by unfold aheadB; rw [if_pos h])
    rw [decide_eq_true h] at eA
    clear h
    go_enter Tryz.func25, Tryz.ntmps25
    go_wp2_with fail
    refine (AddrC.rbefore _ _ _ _ _).mono ?_; rw [E.out]; rintro e w1 ⟨rfl, hb1⟩
    go_wp2_with fail
    go_ret
    exact ⟨rfl, AddrC.grow (AddrC.grow hb1)⟩
  · have E : Hid (AddrC.beforeB x.a x.b y.a y.b = aheadB x y) := Lib.hid (by unfold aheadB; rw [if_neg h])
    rw [decide_eq_false h] at eA
    clear h
    go_enter Tryz.func25, Tryz.ntmps25
    go_wp2_with fail
    refine (AddrC.rbefore _ _ _ _ _).mono ?_; rw [E.out]; rintro e w1 ⟨rfl, hb1⟩
    go_wp2_with fail
    go_ret
    exact ⟨rfl, AddrC.grow (AddrC.grow hb1)⟩
end Go.Proofs.YtccigjelbnjcoaaGreatDoor.RefsC
namespace Go.Proofs.YtccigjelbnjcoaaGreatDoor.RefsC
set_option linter.unusedVariables false
open Go.RowKit Go.Proofs.YtccigjelbnjcoaaGreatDoor.NumC
set_option maxHeartbeats 1000000 in
set_option maxRecDepth 100000 in
theorem cput1 (b1 b2 b3 : Nat) (i : Nat) (l : List Rc) (A : Option Addr) (c : Nat) (x y : Rc) (W : World) (hi : l[i]? = some y) (h1 : W.cell? ⟨b1, 0, none⟩ = some (.func (.func 52) #[] #[])) (h2 : W.cell? ⟨b2, 0, none⟩ = some (.slice A l.length c)) (h3 : RBox W b3 x) (hR : RAt W W.heap.size l A) (hl : l.length ≤ 1000000) :
    Calls Tryz.prog 66 #[.int .i64 (i : Nat), .pointer (some ⟨b1, 0, none⟩), .pointer (some ⟨b2, 0, none⟩), .pointer (some ⟨b3, 0, none⟩)] W fun e w' => e = .returned (.bool (!aheadB y x)) ∧ Below W.heap.size W w' := by
  have hlt : i < l.length := (List.getElem?_eq_some_iff.1 hi).1
  have hd : (i : Int) < (l.length : Int) := by omega
  obtain ⟨g, o, rfl, hg, c0, c1, c2, c3⟩ := hR.nth i y hi
  obtain ⟨d0, d1, d2, d3⟩ := h3.cells
  have hb3 := h3.lt
  have hcall := fun W => cbefore y x W
  have eg : ∀ args w, (callFunc 52 args).run Tryz.prog w = .ok (.enter 52 args) w := enters_of Tryz.func52 (by kernel_rfl) rfl
  clear hR h3 hi
  go_enter Tryz.func66, Tryz.ntmps66
  go_wp2_with fail
  refine region_tail 6 (by kernel_rfl) (by kernel_rfl) ?_
  simp only [List.take_succ_cons, List.take_zero, List.drop_succ_cons, List.drop_zero]
  replace h1 : W.drew.cell? ⟨b1, 0, none⟩ = some (.func (.func 52) #[] #[]) := h1
  replace h2 : W.drew.cell? ⟨b2, 0, none⟩ = some (.slice (some ⟨g, o, none⟩) l.length c) := h2
  replace c0 : W.drew.cell? ⟨g, o + i * 4, none⟩ = some (.int .i64 y.a) := c0
  replace c1 : W.drew.cell? ⟨g, o + i * 4 + 1, none⟩ = some (.int .i64 y.b) := c1
  replace c2 : W.drew.cell? ⟨g, o + i * 4 + 2, none⟩ = some (.int .i64 y.c) := c2
  replace c3 : W.drew.cell? ⟨g, o + i * 4 + 3, none⟩ = some (.int .i64 y.d) := c3
  replace d0 : W.drew.cell? ⟨b3, 0, none⟩ = some (.int .i64 x.a) := d0
  replace d1 : W.drew.cell? ⟨b3, 1, none⟩ = some (.int .i64 x.b) := d1
  replace d2 : W.drew.cell? ⟨b3, 2, none⟩ = some (.int .i64 x.c) := d2
  replace d3 : W.drew.cell? ⟨b3, 3, none⟩ = some (.int .i64 x.d) := d3
  have hB : Hid (Below W.heap.size W W.drew) := Lib.hid (below_drew (Below.refl _ _))
  generalize W.drew = V at *
  iterate 6 still_step
  refine wpStill_nil ?_
  go_wp2_with fail
  refine (hcall _).mono ?_; rintro e w5 ⟨rfl, hb5⟩
  go_wp2_with fail
  go_ret
  exact ⟨rfl, hB.out.trans (hb5.mono hB.out.size)⟩
set_option maxHeartbeats 1000000 in
set_option maxRecDepth 100000 in
theorem csearch (g n b1 b2 b3 : Nat) (p : Nat → Bool) (w : World) (eg : ∀ args w, (callFunc g args).run Tryz.prog w = .ok (.enter g args) w) (hn : n ≤ 1000000)
    (hp : ∀ (W : World) (i : Nat), Below w.heap.size w W → i < n → Calls Tryz.prog g #[.int .i64 (i : Nat), .pointer (some ⟨b1, 0, none⟩), .pointer (some ⟨b2, 0, none⟩), .pointer (some ⟨b3, 0, none⟩)] W fun e w' => e = .returned (.bool (p i)) ∧ Below W.heap.size W w')
    (mono : ∀ a b, a ≤ b → b < n → p a = true → p b = true) :
    Calls Tryz.prog 65 #[.int .i64 (n : Nat), .func (.func g) #[] #[.pointer (some ⟨b1, 0, none⟩), .pointer (some ⟨b2, 0, none⟩), .pointer (some ⟨b3, 0, none⟩)]] w fun e w' => ∃ k : Nat, e = .returned (.int .i64 k) ∧ k ≤ n ∧ (∀ i, i < k → p i = false) ∧ (∀ i, k ≤ i → i < n → p i = true) ∧ Below w.heap.size w w' := by
  have HP := Lib.hid hp
  have HM := Lib.hid mono
  clear hp mono
  go_enter Tryz.func65, Tryz.ntmps65
  go_wp2_with fail
  go_loopw [5, 6] (fun lv hv wr => ∃ lo hi : Nat, lo ≤ hi ∧ hi ≤ n ∧ lv = .int .i64 lo ∧ hv = .int .i64 hi ∧ Hid (Below w.heap.size w wr ∧ (∀ i, i < lo → p i = false) ∧ (∀ i, hi ≤ i → i < n → p i = true))) (fun lv hv _ => (intOf hv).toNat - (intOf lv).toNat)
  case atStart => exact ⟨0, n, Nat.zero_le _, Nat.le_refl _, rfl, rfl, Lib.hid ⟨Below.refl _ _, fun i hi => absurd hi (Nat.not_lt_zero _), fun i h1 h2 => absurd h2 (by omega)⟩⟩
  case round =>
    obtain ⟨lo, hi, h1, h2, rfl, rfl, HR⟩ := hrel
    by_cases hlt : lo < hi
    · have hd : (lo : Int) < (hi : Int) := by omega
      have hcall := HP.out wr ((lo + hi) / 2) HR.out.1 (by omega)
      rw [show (((lo + hi) / 2 : Nat) : Int) = ((lo : Int) + (hi : Int)) / 2 by omega] at hcall
      cases hpm : p ((lo + hi) / 2) <;> rw [hpm] at hcall
      · have HPM := Lib.hid hpm
        clear hpm
        go_wp2_with fail
        refine hcall.mono ?_; rintro e w5 ⟨rfl, hb5⟩
        have HB := Lib.hid (HR.out.1.trans (hb5.mono HR.out.1.size))
        clear hb5
        go_wp2_with fail
        go_roundw
        case rel =>
          refine ⟨(lo + hi) / 2 + 1, hi, by omega, h2, by rw [show ((((lo + hi) / 2 + 1 : Nat)) : Int) = ((lo : Int) + (hi : Int)) / 2 + 1 by omega], rfl, Lib.hid ⟨HB.out, fun i hi2 => ?_, HR.out.2.2⟩⟩
          cases hpi : p i
          · rfl
          · have := HM.out i ((lo + hi) / 2) (by omega) (by omega) hpi
            rw [HPM.out] at this; cases this
        case measure => simp [intOf]; omega
      · have HPM := Lib.hid hpm
        clear hpm
        go_wp2_with fail
        refine hcall.mono ?_; rintro e w5 ⟨rfl, hb5⟩
        have HB := Lib.hid (HR.out.1.trans (hb5.mono HR.out.1.size))
        clear hb5
        go_wp2_with fail
        go_roundw
        case rel =>
          refine ⟨lo, (lo + hi) / 2, by omega, by omega, rfl, by rw [show (((lo + hi) / 2 : Nat) : Int) = ((lo : Int) + (hi : Int)) / 2 by omega], Lib.hid ⟨HB.out, HR.out.2.1, fun i hi1 hi2 => HM.out ((lo + hi) / 2) i hi1 hi2 HPM.out⟩⟩
        case measure => simp [intOf]; omega
    · have hd : ¬ (lo : Int) < (hi : Int) := by omega
      obtain rfl : hi = lo := by omega
      go_wp2_with fail
      go_ret
      exact ⟨hi, rfl, h2, HR.out.2.1, HR.out.2.2, HR.out.1⟩
end Go.Proofs.YtccigjelbnjcoaaGreatDoor.RefsC
namespace Go.Proofs.YtccigjelbnjcoaaGreatDoor.RefsC
set_option linter.unusedVariables false
open Go.RowKit Go.Proofs.YtccigjelbnjcoaaGreatDoor.NumC
open Go.Proofs.YtccigjelbnjcoaaGreatDoor.TreeC (eq_rect)
set_option maxHeartbeats 1000000 in
set_option maxRecDepth 100000 in
theorem cindex (g b : Nat) (p : Rc → Bool) (l : List Rc) (A : Option Addr) (c : Nat) (w : World) (eg : ∀ args w, (callFunc g args).run Tryz.prog w = .ok (.enter g args) w) (hl : l.length ≤ 1000000) (hR : RAt w w.heap.size l A)
    (hp : ∀ (W : World) (x : Rc), Below w.heap.size w W → Calls Tryz.prog g #[.agg #[.int .i64 x.a, .int .i64 x.b, .int .i64 x.c, .int .i64 x.d], .pointer (some ⟨b, 0, none⟩)] W fun e w' => e = .returned (.bool (p x)) ∧ Below W.heap.size W w') :
    Calls Tryz.prog 53 #[.slice A l.length c, .func (.func g) #[] #[.pointer (some ⟨b, 0, none⟩)]] w fun e w' => ∃ r : Int, e = .returned (.int .i64 r) ∧ decide (0 ≤ r) = l.any p ∧ Below w.heap.size w w' := by
  have HR := Lib.hid hR
  have HP := Lib.hid hp
  clear hR hp
  go_enter Tryz.func53, Tryz.ntmps53
  go_wp2_with fail
  go_loopw [8] (fun iv wr => ∃ k : Nat, k ≤ l.length ∧ iv = .int .i64 k ∧ Hid (Below w.heap.size w wr ∧ (l.take k).any p = false)) (fun iv _ => l.length - (intOf iv).toNat)
  case atStart => exact ⟨0, Nat.zero_le _, rfl, Lib.hid ⟨Below.refl _ _, rfl⟩⟩
  case round =>
    obtain ⟨k, hk, rfl, HR2⟩ := hrel
    obtain ⟨hb, hn⟩ := HR2.out
    by_cases hlt : k < l.length
    · have hd1 : (k : Int) < (l.length : Int) := by omega
      obtain ⟨x, hx⟩ := nth_some l k hlt
      obtain ⟨g0, o, rfl, hg0, c0, c1, c2, c3⟩ := (HR.out.below hb).nth k x hx
      have hcall := HP.out wr x hb
      have HB := Lib.hid hb
      have HN : Hid ((l.take (k + 1)).any p = p x) := Lib.hid (by rw [List.take_add_one, hx, List.any_append, hn]; simp)
      have HX := Lib.hid hx
      clear hb hn hx
      go_wp2_with fail
      refine hcall.mono ?_; rintro e w5 ⟨rfl, hb5⟩
      have HB5 := Lib.hid (HB.out.trans (hb5.mono HB.out.size))
      clear hb5 c0 c1 c2 c3
      cases hpx : p x
      · rw [hpx] at HN
        go_wp2_with fail
        go_roundw
        case rel => exact ⟨k + 1, by omega, by go_num, Lib.hid ⟨HB5.out, HN.out⟩⟩
        case measure => simp [intOf]; omega
      · have HY := Lib.hid hpx
        clear hpx
        go_wp2_with fail
        go_ret
        refine ⟨(k : Int), rfl, ?_, HB5.out⟩
        rw [decide_eq_true (by omega : (0 : Int) ≤ k)]
        exact (List.any_eq_true.2 ⟨x, List.mem_of_getElem? HX.out, HY.out⟩).symm
    · have hd1 : ¬ (k : Int) < (l.length : Int) := by omega
      obtain rfl : k = l.length := by omega
      rw [List.take_length] at hn
      have HN := Lib.hid hn
      have HB := Lib.hid hb
      clear hn hb
      go_wp2_with fail
      go_ret
      exact ⟨-1, rfl, by rw [HN.out]; rfl, HB.out⟩
set_option maxHeartbeats 1000000 in
set_option maxRecDepth 100000 in
theorem ccontains (g b : Nat) (p : Rc → Bool) (l : List Rc) (A : Option Addr) (c : Nat) (w : World) (eg : ∀ args w, (callFunc g args).run Tryz.prog w = .ok (.enter g args) w) (hl : l.length ≤ 1000000) (hR : RAt w w.heap.size l A)
    (hp : ∀ (W : World) (x : Rc), Below w.heap.size w W → Calls Tryz.prog g #[.agg #[.int .i64 x.a, .int .i64 x.b, .int .i64 x.c, .int .i64 x.d], .pointer (some ⟨b, 0, none⟩)] W fun e w' => e = .returned (.bool (p x)) ∧ Below W.heap.size W w') :
    Calls Tryz.prog 31 #[.slice A l.length c, .func (.func g) #[] #[.pointer (some ⟨b, 0, none⟩)]] w fun e w' => e = .returned (.bool (l.any p)) ∧ Below w.heap.size w w' := by
  have hcall := cindex g b p l A c w eg hl hR hp
  clear hp hR
  go_enter Tryz.func31, Tryz.ntmps31
  go_wp2_with fail
  refine hcall.mono ?_; rintro e w5 ⟨r, rfl, hr, hb5⟩
  go_wp2_with fail
  go_ret
  first | exact ⟨rfl, hb5⟩ | exact ⟨ret1 hr, hb5⟩
set_option maxHeartbeats 1000000 in
set_option maxRecDepth 100000 in
theorem chits1 (r k : Int) (b : Nat) (x : Rc) (W : World) (h0 : W.cell? ⟨b, 0, none⟩ = some (.int .i64 r)) (h1 : W.cell? ⟨b, 1, none⟩ = some (.int .i64 k)) (hb : b < W.heap.size) :
    Calls Tryz.prog 32 #[.agg #[.int .i64 x.a, .int .i64 x.b, .int .i64 x.c, .int .i64 x.d], .pointer (some ⟨b, 0, none⟩)] W fun e w' => e = .returned (.bool (AddrC.hasB x.a x.b x.c x.d r k)) ∧ Below W.heap.size W w' := by
  have ne : b ≠ W.heap.size := by omega
  go_enter Tryz.func32, Tryz.ntmps32
  go_wp2_with fail
  refine (AddrC.has _ _ _ _ _ _ _).mono ?_; rintro e w5 ⟨rfl, hb5⟩
  go_wp2_with fail
  go_ret
  exact ⟨rfl, AddrC.grow hb5⟩
set_option maxHeartbeats 1000000 in
set_option maxRecDepth 100000 in
theorem cHits (l : List Rc) (A : Option Addr) (c : Nat) (r k : Int) (w : World) (hl : l.length ≤ 1000000) (hR : RAt w w.heap.size l A) :
    Calls Tryz.prog 13 #[.slice A l.length c, .agg #[.int .i64 r, .int .i64 k]] w fun e w' => e = .returned (.bool (hitsL l r k)) ∧ Below w.heap.size w w' := by
  have eg : ∀ args w, (callFunc 32 args).run Tryz.prog w = .ok (.enter 32 args) w := enters_of Tryz.func32 (by kernel_rfl) rfl
  have bW : Below w.heap.size w (w.alloc (.cells #[.int .i64 r, .int .i64 k] 25)) := (Below.refl _ w).alloc (Nat.le_refl _) _
  have h0 : (w.alloc (.cells #[.int .i64 r, .int .i64 k] 25)).cell? ⟨w.heap.size, 0, none⟩ = some (.int .i64 r) := by simp [go_sem]
  have h1 : (w.alloc (.cells #[.int .i64 r, .int .i64 k] 25)).cell? ⟨w.heap.size, 1, none⟩ = some (.int .i64 k) := by simp [go_sem]
  have hs : w.heap.size < (w.alloc (.cells #[.int .i64 r, .int .i64 k] 25)).heap.size := by simp
  have hcall := ccontains 32 w.heap.size (fun x => AddrC.hasB x.a x.b x.c x.d r k) l A c (w.alloc (.cells #[.int .i64 r, .int .i64 k] 25)) eg hl ((hR.below bW).mono (Nat.le_of_lt hs)) (fun W x hb => chits1 r k _ x W ((hb.cell (p := ⟨_, 0, none⟩) hs).trans h0) ((hb.cell (p := ⟨_, 1, none⟩) hs).trans h1) (Nat.lt_of_lt_of_le hs hb.size))
  clear eg hR
  go_enter Tryz.func13, Tryz.ntmps13
  go_wp2_with fail
  refine hcall.mono ?_; rintro e w5 ⟨rfl, hb5⟩
  go_wp2_with fail
  go_ret
  exact ⟨rfl, AddrC.grow hb5⟩
end Go.Proofs.YtccigjelbnjcoaaGreatDoor.RefsC
namespace Go.Proofs.YtccigjelbnjcoaaGreatDoor.RefsC
set_option linter.unusedVariables false
open Go.Proofs.YtccigjelbnjcoaaGreatDoor.TreeC
def gathF : Fo → List Rc → List Rc
  | .nil, l => l
  | .cons f k n, l => gathF n (if f.k = 2 then putL l ⟨f.r1, f.r2, f.r1, f.r2⟩ else if f.k = 3 then putL l ⟨f.r1, f.r2, f.r3, f.r4⟩ else gathF k l)
def gathN (l : List Rc) (a : Nd) : List Rc := if a.f.k = 2 then putL l ⟨a.f.r1, a.f.r2, a.f.r1, a.f.r2⟩ else if a.f.k = 3 then putL l ⟨a.f.r1, a.f.r2, a.f.r3, a.f.r4⟩ else gathF a.kids l
theorem gath_drop (x : Fo) (i : Nat) (h : i < x.len) (l : List Rc) : gathF (x.drop i) l = gathF (x.drop (i + 1)) (gathN l (x.nth i)) := by
  rw [Fo.drop_nth x i h]; rfl
theorem put_len_le (l : List Rc) (x : Rc) : (putL l x).length ≤ l.length + 1 := by
  induction l with
  | nil => exact Nat.le_refl _
  | cons y l ih =>
    unfold putL
    split
    · simp only [List.length_cons]; omega
    · split <;> simp only [List.length_cons] <;> omega
theorem gath_len (x : Fo) : ∀ l : List Rc, (gathF x l).length ≤ l.length + x.size := by
  induction x with
  | nil => intro l; exact Nat.le_refl _
  | cons f k n ihk ihn =>
    intro l
    have h1 := put_len_le l ⟨f.r1, f.r2, f.r1, f.r2⟩
    have h2 := put_len_le l ⟨f.r1, f.r2, f.r3, f.r4⟩
    have h3 := ihk l
    unfold gathF Fo.size
    split
    · have := ihn (putL l ⟨f.r1, f.r2, f.r1, f.r2⟩); omega
    · split
      · have := ihn (putL l ⟨f.r1, f.r2, f.r3, f.r4⟩); omega
      · have := ihn (gathF k l); omega
theorem gathN_len (a : Nd) (l : List Rc) : (gathN l a).length ≤ l.length + a.size := by
  have := gath_len a.one l
  rw [Nd.one_size] at this
  exact this
theorem gath_srt (x : Fo) : ∀ l : List Rc, Srt l → Srt (gathF x l) := by
  induction x with
  | nil => intro l h; exact h
  | cons f k n ihk ihn =>
    intro l h
    unfold gathF
    split
    · exact ihn _ (put_srt h _)
    · split
      · exact ihn _ (put_srt h _)
      · exact ihn _ (ihk _ h)
theorem gathN_srt (a : Nd) (l : List Rc) (h : Srt l) : Srt (gathN l a) := gath_srt a.one l h
theorem all_leaf {f : Fld} {n : Nat} (h : fitsB f n = true) (hk : f.k = 2 ∨ f.k = 3) : n = 0 := by
  unfold fitsB at h
  rcases hk with hk | hk
  · rw [hk] at h; simp at h; omega
  · rw [hk] at h; simp at h; omega
theorem len_zero {x : Fo} (h : x.len = 0) : x = .nil := by
  cases x with
  | nil => rfl
  | cons f k n => simp [Fo.len] at h
theorem gath_mem (x : Fo) : ∀ (l : List Rc), x.all fitsB = true → ∀ r, r ∈ gathF x l ↔ r ∈ l ∨ r ∈ namesF x := by
  induction x with
  | nil => intro l _ r; simp [gathF, namesF]
  | cons f k n ihk ihn =>
    intro l h r
    unfold Fo.all at h
    rw [Bool.and_eq_true, Bool.and_eq_true] at h
    obtain ⟨⟨h1, h2⟩, h3⟩ := h
    unfold gathF namesF rcOf
    by_cases e2 : f.k = 2
    · have hk := len_zero (all_leaf h2 (Or.inl e2))
      subst hk
      rw [if_pos e2, if_pos e2, ihn _ h3, put_mem]
      simp only [List.mem_append, List.mem_singleton, namesF, List.nil_append, or_assoc]
    · rw [if_neg e2, if_neg e2]
      by_cases e3 : f.k = 3
      · have hk := len_zero (all_leaf h2 (Or.inr e3))
        subst hk
        rw [if_pos e3, if_pos e3, ihn _ h3, put_mem]
        simp only [List.mem_append, List.mem_singleton, namesF, List.nil_append, or_assoc]
      · rw [if_neg e3, if_neg e3, ihn _ h3, ihk _ h1]
        simp only [List.mem_append, List.nil_append, or_assoc]
theorem good_all {a : Nd} (h : goodT fitsB a = true) : a.one.all fitsB = true := by
  unfold goodT at h
  rw [Bool.and_eq_true] at h
  have h2 := h.2
  unfold Nd.all at h2
  show (a.kids.all fitsB && fitsB a.f a.kids.len && Fo.all fitsB .nil) = true
  rw [h2]; rfl
theorem good_size {a : Nd} (h : goodT fitsB a = true) : a.size ≤ 2000 := by
  unfold goodT at h
  rw [Bool.and_eq_true, Bool.and_eq_true] at h
  exact of_decide_eq_true h.1.1
theorem gath_good {a : Nd} (h : goodT fitsB a = true) : gathN [] a = refsL a :=
  refs_of (gathN_srt a [] srt_nil) (fun x => by
    have h1 := gath_mem a.one [] (good_all h) x
    show x ∈ gathF a.one [] ↔ _
    simpa using h1)
end Go.Proofs.YtccigjelbnjcoaaGreatDoor.RefsC
namespace Go.Proofs.YtccigjelbnjcoaaGreatDoor.TreeC
set_option linter.unusedVariables false
open Go.RowKit Go.Proofs.YtccigjelbnjcoaaGreatDoor.NumC Go.Proofs.YtccigjelbnjcoaaGreatDoor.LexC
def capB (c : UInt8) : Bool := decide (65 ≤ c.toNat ∧ c.toNat ≤ 90)
def capd (c : UInt8) : Bool := capB c || digB c
def wordL : List UInt8 → Bool
  | [] => false
  | c :: l => capB c && l.all capd
theorem wordL_cons (c : UInt8) (l : List UInt8) : wordL (c :: l) = (capB c && l.all capd) := rfl
theorem str_dl (l : List UInt8) : (str l).data.toList = l := by simp [str]
theorem up_word (c : UInt8) (h : wordB c = true) : capd (upC c) = true := by
  unfold wordB at h
  unfold capd capB
  by_cases hd : digB c = true
  · have h1 := digB_iff.1 hd
    rw [upC_no (by omega), hd]; simp
  · have hl : letB c = true := by simpa [hd] using h
    have h2 := letB_iff.1 hl
    by_cases h3 : 97 ≤ c.toNat ∧ c.toNat ≤ 122
    · rw [upC_up h3]
      have h4 := sub32 h3.1
      simp only [h4]
      have : decide (65 ≤ c.toNat - 32 ∧ c.toNat - 32 ≤ 90) = true := decide_eq_true (by omega)
      rw [this]; rfl
    · rw [upC_no h3]
      have : decide (65 ≤ c.toNat ∧ c.toNat ≤ 90) = true := decide_eq_true (by omega)
      rw [this]; rfl
theorem up_cap (c : UInt8) (h : letB c = true) : capB (upC c) = true := by
  have h2 := letB_iff.1 h
  unfold capB
  by_cases h3 : 97 ≤ c.toNat ∧ c.toNat ≤ 122
  · rw [upC_up h3, sub32 h3.1]; exact decide_eq_true (by omega)
  · rw [upC_no h3]; exact decide_eq_true (by omega)
theorem all_while {p : UInt8 → Bool} : ∀ l : List UInt8, ∀ c ∈ l.takeWhile p, p c = true := by
  intro l
  induction l with
  | nil => intro c h; simp at h
  | cons d l ih =>
    intro c h
    rw [List.takeWhile_cons] at h
    split at h
    · rename_i hd
      rcases List.mem_cons.1 h with h | h
      · rw [h]; exact hd
      · exact ih c h
    · simp at h
theorem next_word {l : List UInt8} {n : Int} {s : List UInt8} {m : Nat} (h : nextL l = some (3, n, s, m)) : wordL s = true := by
  cases l with
  | nil => cases h
  | cons c l =>
    rw [nextL_cons] at h
    unfold tokL at h
    by_cases h1 : digB c = true
    · rw [if_pos h1] at h
      split at h
      · injection h with h; injection h with h2 h3; cases h2
      · cases h
    · rw [if_neg h1] at h
      by_cases h2 : letB c = true
      · rw [if_pos h2] at h
        injection h with h; injection h with _ h; injection h with _ h; injection h with h _
        subst h
        have hw : wordB c = true := by unfold wordB; rw [h2]; rfl
        rw [List.takeWhile_cons, if_pos hw]
        unfold upL
        rw [List.map_cons]
        rw [wordL_cons, up_cap c h2, Bool.true_and, List.all_eq_true]
        intro d hd
        obtain ⟨e, he, rfl⟩ := List.mem_map.1 hd
        exact up_word e (all_while l e he)
      · rw [if_neg h2] at h
        by_cases h3 : c = 34
        · rw [if_pos h3] at h
          cases ht : txtL l with
          | none => rw [ht] at h; cases h
          | some r => rw [ht] at h; simp at h
        · rw [if_neg h3] at h
          unfold signT at h
          split at h <;> (repeat (split at h)) <;> simp at h
theorem cut_words : ∀ (f : Nat) (l : List UInt8) (i : Nat) (acc : List Tok), (∀ t ∈ acc, t.k = 3 → wordL t.s.data.toList = true) → ∀ t ∈ (cutF f l i acc).toks, t.k = 3 → wordL t.s.data.toList = true := by
  intro f
  induction f with
  | zero => intro l i acc h; simpa [cutF] using h
  | succ f ih =>
    intro l i acc h
    cases l with
    | nil => simpa [cutF] using h
    | cons c l =>
      rw [cutF]
      by_cases hc : c = 32
      · rw [if_pos hc]; exact ih l (i + 1) acc h
      · rw [if_neg hc]
        cases hn : nextL (c :: l) with
        | none => intro t ht; simp at ht
        | some q =>
          obtain ⟨k, n, s, m⟩ := q
          refine ih _ _ _ fun t ht hk => ?_
          rcases List.mem_append.1 ht with ht | ht
          · exact h t ht hk
          · obtain rfl := List.mem_singleton.1 ht
            simp only at hk
            subst hk
            show wordL (str s).data.toList = true
            rw [str_dl]
            exact next_word hn
theorem take_allK {p : UInt8 → Bool} : ∀ l : List UInt8, (∀ c ∈ l, p c = true) → l.takeWhile p = l := by
  intro l
  induction l with
  | nil => intro _; rfl
  | cons c l ih => intro h; rw [List.takeWhile_cons, if_pos (h c (by simp)), ih fun d hd => h d (by simp [hd])]
theorem cap_let {c : UInt8} (h : capB c = true) : letB c = true := by
  unfold capB at h
  exact letB_iff.2 (Or.inr (of_decide_eq_true h))
theorem capd_word {c : UInt8} (h : capd c = true) : wordB c = true ∧ upC c = c := by
  unfold capd at h
  by_cases h1 : capB c = true
  · have h2 := of_decide_eq_true (show decide (65 ≤ c.toNat ∧ c.toNat ≤ 90) = true from h1)
    exact ⟨by unfold wordB; rw [cap_let h1]; rfl, upC_no (by omega)⟩
  · have h3 : digB c = true := by simpa [h1] using h
    have h2 := digB_iff.1 h3
    exact ⟨by unfold wordB; rw [h3]; simp, upC_no (by omega)⟩
theorem cut_word (l : List UInt8) (h : wordL l = true) (h8 : l.length ≤ 8) : (cutL l).toks = [⟨3, 0, str l, 0⟩] := by
  cases l with
  | nil => cases h
  | cons c l =>
    unfold wordL at h
    rw [Bool.and_eq_true, List.all_eq_true] at h
    obtain ⟨hc, hl⟩ := h
    have hlet := cap_let hc
    have hcd : capd c = true := by unfold capd; rw [hc]; rfl
    have hdig : ¬ digB c = true := fun e => by
      have h1 := digB_iff.1 e
      have h2 := of_decide_eq_true (show decide (65 ≤ c.toNat ∧ c.toNat ≤ 90) = true from hc)
      omega
    have hall : ∀ d ∈ c :: l, capd d = true := fun d hd => by
      rcases List.mem_cons.1 hd with rfl | hd
      · exact hcd
      · exact hl d hd
    have ht : (c :: l).takeWhile wordB = c :: l := take_allK _ fun d hd => (capd_word (hall d hd)).1
    have hu : upL (c :: l) = c :: l := by
      unfold upL
      conv => rhs; rw [← List.map_id (c :: l)]
      exact List.map_congr_left fun d hd => (capd_word (hall d hd)).2
    have hn : nextL (c :: l) = some (3, 0, c :: l, (c :: l).length) := by
      rw [nextL_cons]
      unfold tokL
      rw [if_neg hdig, if_pos hlet, ht, hu]
    have h32 : c ≠ 32 := fun e => by
      have h2 := of_decide_eq_true (show decide (65 ≤ c.toNat ∧ c.toNat ≤ 90) = true from hc)
      rw [e] at h2
      exact absurd h2 (by decide)
    unfold cutL
    rw [if_neg (by omega), cutF, if_neg h32, hn]
    simp only [List.drop_length, List.nil_append]
    cases hf : (c :: l).length with
    | zero => simp at hf
    | succ n => simp [cutF]
theorem fn_word (s : ByteArray) : fnB s = (decide (s.size ≤ 8) && wordL s.data.toList) := by
  unfold fnB
  by_cases h8 : s.size ≤ 8
  · rw [decide_eq_true h8, Bool.true_and, Bool.true_and]
    have hl : s.data.toList.length ≤ 8 := by rw [show s.data.toList.length = s.size from Array.length_toList]; exact h8
    cases hw : wordL s.data.toList with
    | true =>
      rw [cut_word _ hw hl]
      simp only [decide_true, Bool.true_and, decide_eq_true_eq]
      exact ByteArray.ext (Array.toList_inj.1 (str_dl _))
    | false =>
      split
      · rename_i t ht
        by_cases hk : t.k = 3
        · have h1 := cut_words (s.data.toList.length + 1) s.data.toList 0 [] (fun t ht => by simp at ht)
          have h2 : (cutL s.data.toList) = cutF (s.data.toList.length + 1) s.data.toList 0 [] := by unfold cutL; rw [if_neg (by omega)]
          rw [← h2, ht] at h1
          have h3 := h1 t (by simp) hk
          have : decide (t.s = s) = false := decide_eq_false (fun e => by rw [e, hw] at h3; cases h3)
          rw [this, Bool.and_false]
        · rw [decide_eq_false hk]; rfl
      · rfl
  · rw [decide_eq_false h8]; rfl
theorem wordL_at {l : List UInt8} (h0 : 0 < l.length) : wordL l = (capB l[0] && l.all capd) := by
  cases l with
  | nil => simp at h0
  | cons c l =>
    rw [wordL_cons]
    show _ = (capB c && (c :: l).all capd)
    rw [List.all_cons]
    cases hc : capB c with
    | false => rfl
    | true => simp [capd, hc]
set_option maxRecDepth 100000 in
set_option maxHeartbeats 1000000 in
theorem rword (s : ByteArray) (w : World) (hs : s.size ≤ 1000000) : Calls Tryz.prog 57 #[.string s] w fun e w' => e = .returned (.bool (decide (s.size ≤ 8) && wordL s.data.toList)) ∧ w = w' := by
  have hsl : s.data.toList.length = s.size := Array.length_toList
  by_cases h0 : s.size < 1
  · have E : Hid ((decide (s.size ≤ 8) && wordL s.data.toList) = false) := Lib.hid (by
      have : s.data.toList = [] := List.length_eq_zero_iff.1 (by omega)
      rw [this]; simp [wordL])
    have d1 : (s.size : Int) < 1 := by omega
    clear hsl h0
    go_enter Tryz.func57, Tryz.ntmps57
    go_wp2
    go_ret
    exact ⟨ret1 E.out.symm, rfl⟩
  · have d1 : ¬ (s.size : Int) < 1 := by omega
    by_cases h8 : 8 < s.size
    · have E : Hid ((decide (s.size ≤ 8) && wordL s.data.toList) = false) := Lib.hid (by rw [decide_eq_false (by omega)]; rfl)
      have d2 : (8 : Int) < (s.size : Int) := by omega
      clear hsl h0 h8
      go_enter Tryz.func57, Tryz.ntmps57
      go_wp2
      go_ret
      exact ⟨ret1 E.out.symm, rfl⟩
    · have d2 : ¬ (8 : Int) < (s.size : Int) := by omega
      have hp : 0 < s.size := by omega
      have hw := wordL_at (l := s.data.toList) (by omega)
      have h00 : s.data.toList[0]'(by omega) = s[0] := rfl
      rw [h00] at hw
      have hle : decide (s.size ≤ 8) = true := decide_eq_true (by omega)
      have HW := Lib.hid hw
      have HLE := Lib.hid hle
      have HSL := Lib.hid hsl
      clear hw hle hsl h0 h8 h00
      by_cases h65 : s[0].toNat < 65
      · have E : Hid ((decide (s.size ≤ 8) && wordL s.data.toList) = false) := Lib.hid (by rw [HW.out, show capB s[0] = false from decide_eq_false (by omega)]; simp)
        have e1 : ((s[0].toNat : Int) < 65) := by omega
        clear h65
        go_enter Tryz.func57, Tryz.ntmps57
        go_wp2
        go_ret
        exact ⟨ret1 E.out.symm, rfl⟩
      · have e1 : ¬ ((s[0].toNat : Int) < 65) := by omega
        by_cases h90 : 90 < s[0].toNat
        · have E : Hid ((decide (s.size ≤ 8) && wordL s.data.toList) = false) := Lib.hid (by rw [HW.out, show capB s[0] = false from decide_eq_false (by omega)]; simp)
          have e2 : ((90 : Int) < (s[0].toNat : Int)) := by omega
          clear h65 h90
          go_enter Tryz.func57, Tryz.ntmps57
          go_wp2
          go_ret
          exact ⟨ret1 E.out.symm, rfl⟩
        · have e2 : ¬ ((90 : Int) < (s[0].toNat : Int)) := by omega
          have HC : Hid (capB s[0] = true) := Lib.hid (decide_eq_true (by omega))
          clear h65 h90
          go_enter Tryz.func57, Tryz.ntmps57
          go_wp2
          go_loop [3] (fun iv => ∃ k : Nat, k ≤ s.size ∧ iv = .int .i64 k ∧ Hid ((s.data.toList.take k).all capd = true)) (fun iv => s.size - (intOf iv).toNat)
          case atStart => exact ⟨0, Nat.zero_le _, rfl, Lib.hid rfl⟩
          case round =>
            obtain ⟨k, hk, rfl, HA⟩ := hrel
            by_cases hlt : k < s.size
            · have d3 : (k : Int) < (s.size : Int) := by omega
              have HT := Lib.hid (take_snoc s k hlt)
              have HM : Hid (capd s[k] = false → (decide (s.size ≤ 8) && wordL s.data.toList) = false) := Lib.hid (fun h => by
                have h2 : s.data.toList.all capd = false := by
                  rw [List.all_eq_false]
                  exact ⟨s[k], by
                    have : s[k] = s.data.toList[k]'(by rw [HSL.out]; exact hlt) := rfl
                    rw [this]; exact List.getElem_mem _, by rw [h]; exact Bool.false_ne_true⟩
                rw [HW.out, h2]; simp)
              have HS : Hid (capd s[k] = true → (s.data.toList.take (k + 1)).all capd = true) := Lib.hid (fun h => by rw [HT.out, List.all_append, HA.out]; simp [h])
              have hb := u8_lt s[k]
              by_cases c1 : 65 ≤ s[k].toNat
              · have t1 : decide ((65 : Int) ≤ (s[k].toNat : Int)) = true := decide_eq_true (by omega)
                by_cases c2 : s[k].toNat ≤ 90
                · have t2 : decide ((s[k].toNat : Int) ≤ 90) = true := decide_eq_true (by omega)
                  have HN := Lib.hid (HS.out (by unfold capd; rw [show capB s[k] = true from decide_eq_true ⟨c1, c2⟩]; rfl))
                  go_wp2
                  go_round
                  case rel => exact ⟨k + 1, by omega, by go_num, HN⟩
                  case measure => simp [intOf]; omega
                · have t2 : decide ((s[k].toNat : Int) ≤ 90) = false := decide_eq_false (by omega)
                  have t3 : decide ((48 : Int) ≤ (s[k].toNat : Int)) = true := decide_eq_true (by omega)
                  have t4 : decide ((s[k].toNat : Int) ≤ 57) = false := decide_eq_false (by omega)
                  have HN := Lib.hid (HM.out (by unfold capd digB; rw [show capB s[k] = false from decide_eq_false (by omega), decide_eq_false (by omega)]; rfl))
                  go_wp2
                  go_ret
                  exact ⟨ret1 HN.out.symm, rfl⟩
              · have t1 : decide ((65 : Int) ≤ (s[k].toNat : Int)) = false := decide_eq_false (by omega)
                by_cases c3 : 48 ≤ s[k].toNat
                · have t3 : decide ((48 : Int) ≤ (s[k].toNat : Int)) = true := decide_eq_true (by omega)
                  by_cases c4 : s[k].toNat ≤ 57
                  · have t4 : decide ((s[k].toNat : Int) ≤ 57) = true := decide_eq_true (by omega)
                    have HN := Lib.hid (HS.out (by unfold capd; rw [show digB s[k] = true from digB_iff.2 ⟨c3, c4⟩]; simp))
                    go_wp2
                    go_round
                    case rel => exact ⟨k + 1, by omega, by go_num, HN⟩
                    case measure => simp [intOf]; omega
                  · have t4 : decide ((s[k].toNat : Int) ≤ 57) = false := decide_eq_false (by omega)
                    have HN := Lib.hid (HM.out (by unfold capd digB; rw [show capB s[k] = false from decide_eq_false (by omega), decide_eq_false (by omega)]; rfl))
                    go_wp2
                    go_ret
                    exact ⟨ret1 HN.out.symm, rfl⟩
                · have t3 : decide ((48 : Int) ≤ (s[k].toNat : Int)) = false := decide_eq_false (by omega)
                  have HN := Lib.hid (HM.out (by unfold capd digB; rw [show capB s[k] = false from decide_eq_false (by omega), decide_eq_false (by omega)]; rfl))
                  go_wp2
                  go_ret
                  exact ⟨ret1 HN.out.symm, rfl⟩
            · have d3 : ¬ (k : Int) < (s.size : Int) := by omega
              have HN : Hid ((decide (s.size ≤ 8) && wordL s.data.toList) = true) := Lib.hid (by
                have h1 := HA.out
                rw [List.take_of_length_le (by rw [HSL.out]; omega)] at h1
                rw [HLE.out, HW.out, HC.out, h1]; rfl)
              go_wp2
              go_ret
              exact ⟨ret1 HN.out.symm, rfl⟩
def opsL : List (List UInt8) := [[61], [60, 62], [60], [60, 61], [62], [62, 61], [43], [45], [38], [42], [47], [37], [94]]
theorem ops_any (s : ByteArray) : binB s = opsL.any (fun o => decide (s = str o)) := by
  unfold binB
  simp only [anyOf, opsL, cmpS, sumS, mulS, powS, List.any_cons, List.any_nil]
  simp [Bool.or_assoc]
theorem ops_len : opsL.length = 13 := rfl
theorem ops_cell (i : Nat) (h : i < 13) : (#[.string { data := #[61] }, .string { data := #[60, 62] }, .string { data := #[60] }, .string { data := #[60, 61] }, .string { data := #[62] }, .string { data := #[62, 61] }, .string { data := #[43] }, .string { data := #[45] }, .string { data := #[38] }, .string { data := #[42] }, .string { data := #[47] }, .string { data := #[37] }, .string { data := #[94] }] : Array Value)[i]? = some (.string (str (opsL[i]'h))) := by
  have h13 : i = 0 ∨ i = 1 ∨ i = 2 ∨ i = 3 ∨ i = 4 ∨ i = 5 ∨ i = 6 ∨ i = 7 ∨ i = 8 ∨ i = 9 ∨ i = 10 ∨ i = 11 ∨ i = 12 := by omega
  rcases h13 with rfl | rfl | rfl | rfl | rfl | rfl | rfl | rfl | rfl | rfl | rfl | rfl | rfl <;> rfl
theorem rops (w : World) : Calls Tryz.prog 69 #[] w fun e w' => e = .returned (.slice (some ⟨w.heap.size, 0, none⟩) 13 13) ∧ w' = w.alloc (.cells #[.string { data := #[61] }, .string { data := #[60, 62] }, .string { data := #[60] }, .string { data := #[60, 61] }, .string { data := #[62] }, .string { data := #[62, 61] }, .string { data := #[43] }, .string { data := #[45] }, .string { data := #[38] }, .string { data := #[42] }, .string { data := #[47] }, .string { data := #[37] }, .string { data := #[94] }] 9) := by
  go_enter Tryz.func69, Tryz.ntmps69
  go_wp2
  go_ret
  exact ⟨rfl, rfl⟩
set_option maxRecDepth 100000 in
set_option maxHeartbeats 1000000 in
theorem rsignOp (s : ByteArray) (w : World) : Calls Tryz.prog 56 #[.string s] w fun e w' => e = .returned (.bool (binB s)) ∧ Below w.heap.size w w' := by
  have HO := Lib.hid (ops_any s)
  have hB : Below w.heap.size w (w.alloc (.cells #[.string { data := #[61] }, .string { data := #[60, 62] }, .string { data := #[60] }, .string { data := #[60, 61] }, .string { data := #[62] }, .string { data := #[62, 61] }, .string { data := #[43] }, .string { data := #[45] }, .string { data := #[38] }, .string { data := #[42] }, .string { data := #[47] }, .string { data := #[37] }, .string { data := #[94] }] 9)) := (Below.refl _ _).alloc (Nat.le_refl _) _
  have hc : ∀ i (h : i < 13), (w.alloc (.cells #[.string { data := #[61] }, .string { data := #[60, 62] }, .string { data := #[60] }, .string { data := #[60, 61] }, .string { data := #[62] }, .string { data := #[62, 61] }, .string { data := #[43] }, .string { data := #[45] }, .string { data := #[38] }, .string { data := #[42] }, .string { data := #[47] }, .string { data := #[37] }, .string { data := #[94] }] 9)).cell? ⟨w.heap.size, i, none⟩ = some (.string (str (opsL[i]'h))) := fun i h => by rw [World.cell?_alloc_mark]; exact ops_cell i h
  have HC := Lib.hid hc
  have HBB := Lib.hid hB
  clear hB hc
  go_enter Tryz.func56, Tryz.ntmps56
  go_wp2_with fail
  refine (rops w).mono ?_; rintro e w1 ⟨rfl, rfl⟩
  go_wp2_with fail
  generalize (w.alloc (.cells #[.string { data := #[61] }, .string { data := #[60, 62] }, .string { data := #[60] }, .string { data := #[60, 61] }, .string { data := #[62] }, .string { data := #[62, 61] }, .string { data := #[43] }, .string { data := #[45] }, .string { data := #[38] }, .string { data := #[42] }, .string { data := #[47] }, .string { data := #[37] }, .string { data := #[94] }] 9)) = W1 at *
  go_loop [4] (fun iv => ∃ k : Nat, k ≤ 13 ∧ iv = .int .i64 k ∧ Hid ((opsL.take k).any (fun o => decide (s = str o)) = false)) (fun iv => 13 - (intOf iv).toNat)
  case atStart => exact ⟨0, by omega, rfl, Lib.hid rfl⟩
  case round =>
    obtain ⟨k, hk, rfl, HA⟩ := hrel
    by_cases hlt : k < 13
    · have d3 : (k : Int) < 13 := by omega
      have c1 := HC.out k hlt
      have hT : opsL.take (k + 1) = opsL.take k ++ [opsL[k]'hlt] := by rw [List.take_succ_eq_append_getElem (by rw [ops_len]; exact hlt)]; rfl
      have HT := Lib.hid hT
      have hM : opsL[k]'hlt ∈ opsL := List.getElem_mem _
      have HM := Lib.hid hM
      clear hT hM
      generalize opsL[k]'hlt = o at *
      by_cases hs : s = str o
      · have E : Hid (binB s = true) := Lib.hid (by rw [HO.out, List.any_eq_true]; exact ⟨o, HM.out, decide_eq_true hs⟩)
        have q1 : ((str o).toList == s.toList) = true := by rw [hs]; simp
        have q2 : (str o).toList = s.toList := by rw [hs]
        clear hs
        go_wp2_with fail
        go_ret
        exact ⟨ret1 E.out.symm, HBB.out⟩
      · have HN : Hid ((opsL.take (k + 1)).any (fun o => decide (s = str o)) = false) := Lib.hid (by rw [HT.out, List.any_append, HA.out]; simp [hs])
        have q2 : ¬ (str o).toList = s.toList := fun e => hs (ByteArray.ext (Array.toList_inj.1 (by rw [Lib.toList_data, Lib.toList_data] at e; exact e.symm)))
        have q1 : ((str o).toList == s.toList) = false := beq_eq_false_iff_ne.2 q2
        clear hs
        go_wp2_with fail
        go_round
        case rel => exact ⟨k + 1, by omega, by go_num, HN⟩
        case measure => simp [intOf]; omega
    · have d3 : ¬ (k : Int) < 13 := by omega
      have E : Hid (binB s = false) := Lib.hid (by
        have h1 := HA.out
        rw [List.take_of_length_le (by rw [ops_len]; omega)] at h1
        rw [HO.out, h1])
      go_wp2_with fail
      go_ret
      exact ⟨ret1 E.out.symm, HBB.out⟩
end Go.Proofs.YtccigjelbnjcoaaGreatDoor.TreeC
