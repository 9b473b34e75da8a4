/-
  Contracts of tree's code: a whole formula, Parse.
-/
import Derived.Test.YtbgjdfghcnblcaaGreatDoorMP4
import Derived.Test.YtbgjdfghcnblcaaGreatDoorMK1
import Derived.Test.YtbgjdfghcnblcaaGreatDoorMS
import Derived.Test.YtbgjdfghcnblcaaGreatDoorMLexF
import Derived.Test.YtbgjdfghcnblcaaGreatDoorMLexZ7
namespace Go.Proofs.YtbgjdfghcnblcaaGreatDoor.TreeC
set_option linter.unusedVariables false
open Go.RowKit Go.Proofs.YtbgjdfghcnblcaaGreatDoor.NumC Go.Proofs.YtbgjdfghcnblcaaGreatDoor.LexC

def wholeF (l : List Tok) (n : Int) : Except Bad Nd := match treeF l n with
  | .error e => .error e
  | .ok a => if 16 < a.deep then .error deepE else .ok a
theorem whole_bad {l : List Tok} {n : Int} {b : Bad} (h : (lev l n 41).fm 0 = .error b) : wholeF l n = .error b := by simp [wholeF, treeF, h]
theorem whole_more {l : List Tok} {n : Int} {a : Nd} {k : Nat} (h : (lev l n 41).fm 0 = .ok (a, k)) (hk : k < l.length) : wholeF l n = .error (badAt l n k) := by simp [wholeF, treeF, h, hk]
theorem whole_deep {l : List Tok} {n : Int} {a : Nd} {k : Nat} (h : (lev l n 41).fm 0 = .ok (a, k)) (hk : ¬ k < l.length) (hd : 16 < a.deep) : wholeF l n = .error deepE := by simp [wholeF, treeF, h, hk, hd]
theorem whole_ok {l : List Tok} {n : Int} {a : Nd} {k : Nat} (h : (lev l n 41).fm 0 = .ok (a, k)) (hk : ¬ k < l.length) (hd : ¬ 16 < a.deep) : wholeF l n = .ok a := by simp [wholeF, treeF, h, hk, hd]
/-- What a whole formula answers. -/
def WPost (x : Nat) (out : Except Bad Nd) (w : World) (e : Ending) (w' : World) : Prop :=
  ∃ f A m c er, e = .returned (.tuple #[nodeV f A m c, er]) ∧ Kept x w w' ∧
    ((∃ kd, out = .ok ⟨f, kd⟩ ∧ er = .nilIface ∧ kd.len = m ∧ KidsAt w' (fun g => w.heap.size ≤ g) kd A) ∨ (∃ b, out = .error b ∧ IsBad b ∧ er = errV b))
theorem WPost.err {x b : Nat} {out : Except Bad Nd} {bad : Bad} {w V W : World} (ho : out = .error bad) (hi : IsBad bad) (hK : Kept x w V) (hb : w.heap.size ≤ b) (hk : Kept b V W) :
    WPost x out w (.returned (.tuple #[nodeV fld0 none 0 0, errV bad])) W := ⟨fld0, none, 0, 0, _, rfl, hK.then_ hk hb, Or.inr ⟨bad, ho, hi, rfl⟩⟩
set_option maxRecDepth 100000 in
set_option maxHeartbeats 1000000 in
theorem cwhole {x : Nat} {l : List Tok} {en : Int} (w : World) (h : Pc w x l en 0 0) (hl : l.length ≤ 300) (hts : ∀ (i : Nat) (t : Tok), l[i]? = some t → t.s.size ≤ 1000000) :
    Calls Tryz.prog 28 #[.pointer (some ⟨x, 0, none⟩)] w (WPost x (wholeF l en) w) := by
  have hxw := h.lt
  have HI := Lib.hid h
  clear h
  have HC := Lib.hid (ccon (x := x) (en := en) hl hts 40 (Nat.le_refl _))
  have ne1 : x ≠ w.heap.size := by omega
  have ne2 : w.heap.size ≠ x := by omega
  have K1 : Kept x w (w.alloc (.cells #[.int .i64 0, .int .i64 0, .int .i64 0, .string { data := #[] }, .int .i64 0, .int .i64 0, .int .i64 0, .int .i64 0, .string { data := #[] }, .slice none 0 0] 30)) := (Kept.refl x w).alloc _
  have X1 := NBox.new w
  have P1 := Lib.hid (HI.out.alloc (.cells #[.int .i64 0, .int .i64 0, .int .i64 0, .string { data := #[] }, .int .i64 0, .int .i64 0, .int .i64 0, .int .i64 0, .string { data := #[] }, .slice none 0 0] 30))
  clear HI hts
  go_enter Tryz.func28, Tryz.ntmps28
  go_wp2_with fail
  generalize (w.alloc (.cells #[.int .i64 0, .int .i64 0, .int .i64 0, .string { data := #[] }, .int .i64 0, .int .i64 0, .int .i64 0, .int .i64 0, .string { data := #[] }, .slice none 0 0] 30)) = W1 at *
  refine (HC.out.fm 0 W1 P1.out).mono ?_
  have lt1 := X1.lt
  rintro e w3 ⟨f, A, m, c, er, rfl, k3, hp3⟩
  have X3 := X1.kept k3 ne2
  have K3 := K1.trans k3
  have lt3 := X3.lt
  have hx3 : x < w3.heap.size := by have := k3.size; omega
  have na1 : x ≠ w3.heap.size := by omega
  have na2 : w3.heap.size ≠ x := by omega
  have na4 : w.heap.size ≠ w3.heap.size := by omega
  have na5 : w3.heap.size ≠ w.heap.size := by omega
  clear K1 X1 P1 k3
  unfold nodeV
  rcases hp3 with ⟨kd, k', ho, rfl, hn, hA, hP⟩ | ⟨bad, k2, ho, hi, rfl, hP⟩
  · have hsz := (lev_sz l en 41).fm _ _ _ ho
    have hgo := (lev_goes l en 41).fm _ _ _ ho
    have HO := Lib.hid ho
    clear ho
    have L4 : NLoc (w3.alloc (.cells #[.int .i64 f.k, .int .i64 f.vk, .int .i64 f.vn, .string f.vs, .int .i64 f.r1, .int .i64 f.r2, .int .i64 f.r3, .int .i64 f.r4, .string f.op, .slice A m c] 30)) w3.heap.size f A m c := ⟨heap_alloc_new _ _⟩
    have X4 := X3.kept ((Kept.refl x w3).alloc (.cells #[.int .i64 f.k, .int .i64 f.vk, .int .i64 f.vn, .string f.vs, .int .i64 f.r1, .int .i64 f.r2, .int .i64 f.r3, .int .i64 f.r4, .string f.op, .slice A m c] 30)) ne2
    have K4 := K3.alloc (.cells #[.int .i64 f.k, .int .i64 f.vk, .int .i64 f.vn, .string f.vs, .int .i64 f.r1, .int .i64 f.r2, .int .i64 f.r3, .int .i64 f.r4, .string f.op, .slice A m c] 30)
    have P4 := Lib.hid (hP.alloc (.cells #[.int .i64 f.k, .int .i64 f.vk, .int .i64 f.vn, .string f.vs, .int .i64 f.r1, .int .i64 f.r2, .int .i64 f.r3, .int .i64 f.r4, .string f.op, .slice A m c] 30))
    have A4 := hA.keep (Q := fun g => w.heap.size < g ∧ g ≠ w3.heap.size) ((Kept.refl x w3).alloc (.cells #[.int .i64 f.k, .int .i64 f.vk, .int .i64 f.vn, .string f.vs, .int .i64 f.r1, .int .i64 f.r2, .int .i64 f.r3, .int .i64 f.r4, .string f.op, .slice A m c] 30)) (fun g hg hl => ⟨by omega, by omega, by omega⟩)
    have B4 := hA.keep (Q := fun g => g < (w3.alloc (.cells #[.int .i64 f.k, .int .i64 f.vk, .int .i64 f.vn, .string f.vs, .int .i64 f.r1, .int .i64 f.r2, .int .i64 f.r3, .int .i64 f.r4, .string f.op, .slice A m c] 30)).heap.size) ((Kept.refl x w3).alloc (.cells #[.int .i64 f.k, .int .i64 f.vk, .int .i64 f.vn, .string f.vs, .int .i64 f.r1, .int .i64 f.r2, .int .i64 f.r3, .int .i64 f.r4, .string f.op, .slice A m c] 30)) (fun g hg hl => ⟨by omega, by have := L4.lt; omega⟩)
    clear hP hA X3 K3
    obtain ⟨A7, c7, h7, -, -⟩ := P4.out.ex
    have q7 : (w3.alloc (.cells #[.int .i64 f.k, .int .i64 f.vk, .int .i64 f.vn, .string f.vs, .int .i64 f.r1, .int .i64 f.r2, .int .i64 f.r3, .int .i64 f.r4, .string f.op, .slice A m c] 30)).cell? ⟨x, 0, none⟩ = some (.slice A7 (l.length - k') c7) := by simp only [World.cell?, h7]; rfl
    clear h7
    have s4 := L4.lt
    have t4 := X4.lt
    by_cases hlt : k' < l.length
    · have hm : 0 < l.length - k' := by omega
      have EO := Lib.hid (whole_more HO.out hlt)
      have HM := Lib.hid (cmisplaced _ P4.out hl)
      go_wp2_with fail
      generalize (w3.alloc (.cells #[.int .i64 f.k, .int .i64 f.vk, .int .i64 f.vn, .string f.vs, .int .i64 f.r1, .int .i64 f.r2, .int .i64 f.r3, .int .i64 f.r4, .string f.op, .slice A m c] 30)) = V at *
      refine HM.out.mono ?_; rintro e w4 ⟨rfl, q, rfl⟩
      have X5 := X4.kept ((Kept.refl x V).drew q) ne2
      obtain ⟨f0, f1, f2, f3, f4, f5, f6, f7, f8, f9, z0, z1, z2, z3, z4, z5, z6, z7, z8, z9⟩ := (X5).cells
      go_wp2_with fail
      refine bodyPost_ret (v := .tuple #[.agg #[.int .i64 0, .int .i64 0, .int .i64 0, .string { data := #[] }, .int .i64 0, .int .i64 0, .int .i64 0, .int .i64 0, .string { data := #[] }, .slice none 0 0], errV (badAt l en k')]) (by simp [results, Tryz.results28, go_sem, f0, f1, f2, f3, f4, f5, f6, f7, f8, f9]) rfl (WPost.err (b := w.heap.size) (V := V.drewN q) EO.out (isBad_at _ _ _) (K4.drew q) (Nat.le_refl _) ?_)
      repeat (first | with_reducible exact Kept.refl _ _ | with_reducible refine Kept.setCell ?_ _ _ | with_reducible refine Kept.alloc ?_ _)
    · have hm : l.length - k' = 0 := by omega
      have HD := Lib.hid (cDepth ⟨f, kd⟩ A c (w3.alloc (.cells #[.int .i64 f.k, .int .i64 f.vk, .int .i64 f.vn, .string f.vs, .int .i64 f.r1, .int .i64 f.r2, .int .i64 f.r3, .int .i64 f.r4, .string f.op, .slice A m c] 30)) (by omega) B4)
      rw [if_pos (show (Nd.mk f kd).size ≤ 2000 by omega)] at HD
      simp only [hn] at HD
      go_wp2_with fail
      generalize (w3.alloc (.cells #[.int .i64 f.k, .int .i64 f.vk, .int .i64 f.vn, .string f.vs, .int .i64 f.r1, .int .i64 f.r2, .int .i64 f.r3, .int .i64 f.r4, .string f.op, .slice A m c] 30)) = V at *
      refine HD.out.mono ?_; rintro e w4 ⟨rfl, hb4⟩
      have k4 : Kept x V w4 := Kept.of hb4
      have X5 := X4.kept k4 ne2
      have K5 := K4.trans k4
      have L5 := L4.kept k4 na2
      have A5 := A4.keep (Q := fun g => w.heap.size ≤ g ∧ g ≠ w.heap.size) k4 (fun g hg hl => ⟨by omega, by omega, by omega⟩)
      clear HD B4 A4 X4 K4 L4 hb4 k4 P4
      obtain ⟨d0, d1, d2, d3, d4, d5, d6, d7, d8, d9, dz0, dz1, dz2, dz3, dz4, dz5, dz6, dz7, dz8, dz9⟩ := (L5).cells
      obtain ⟨f0, f1, f2, f3, f4, f5, f6, f7, f8, f9, z0, z1, z2, z3, z4, z5, z6, z7, z8, z9⟩ := (X5).cells
      by_cases hd : 16 < (Nd.mk f kd).deep
      · have EO := Lib.hid (whole_deep HO.out hlt hd)
        have d1 : (16 : Int) < ((Nd.mk f kd).deep : Int) := by omega
        clear HO
        generalize (Nd.mk f kd).deep = D at *
        go_wp2_with fail
        refine bodyPost_ret (v := .tuple #[.agg #[.int .i64 0, .int .i64 0, .int .i64 0, .string { data := #[] }, .int .i64 0, .int .i64 0, .int .i64 0, .int .i64 0, .string { data := #[] }, .slice none 0 0], .iface 34 (.int .i64 14)]) (by simp [results, Tryz.results28, go_sem, f0, f1, f2, f3, f4, f5, f6, f7, f8, f9]) rfl (WPost.err (b := w.heap.size) (V := w4) EO.out isBad_deep K5 (Nat.le_refl _) ?_)
        repeat (first | with_reducible exact Kept.refl _ _ | with_reducible refine Kept.setCell ?_ _ _ | with_reducible refine Kept.alloc ?_ _)
      · have EO := Lib.hid (whole_ok HO.out hlt hd)
        have d1 : ((Nd.mk f kd).deep : Int) ≤ 16 := by omega
        clear HO
        generalize (Nd.mk f kd).deep = D at *
        go_wp2_with fail
        refine bodyPost_ret (v := .tuple #[.agg #[.int .i64 f.k, .int .i64 f.vk, .int .i64 f.vn, .string f.vs, .int .i64 f.r1, .int .i64 f.r2, .int .i64 f.r3, .int .i64 f.r4, .string f.op, .slice A m c], .nilIface]) (by simp [results, Tryz.results28, go_sem, f0, f1, f2, f3, f4, f5, f6, f7, f8, f9]) rfl ⟨f, A, m, c, _, rfl, K5.then_ (b := w.heap.size) ?_ (Nat.le_refl _), Or.inl ⟨kd, EO.out, rfl, hn, A5.keep (y := w.heap.size) (Q := fun g => w.heap.size ≤ g) ?_ (fun g hg _ => ⟨hg.2, hg.1⟩)⟩⟩
        all_goals repeat (first | with_reducible exact Kept.refl _ _ | with_reducible refine Kept.setCell ?_ _ _ | with_reducible refine Kept.alloc ?_ _)
  · obtain ⟨T, u, hT⟩ := errV_some bad
    have EO := Lib.hid (whole_bad ho)
    clear ho hP
    rw [hT]
    obtain ⟨f0, f1, f2, f3, f4, f5, f6, f7, f8, f9, z0, z1, z2, z3, z4, z5, z6, z7, z8, z9⟩ := (X3).cells
    go_wp2_with fail
    refine bodyPost_ret (v := .tuple #[.agg #[.int .i64 0, .int .i64 0, .int .i64 0, .string { data := #[] }, .int .i64 0, .int .i64 0, .int .i64 0, .int .i64 0, .string { data := #[] }, .slice none 0 0], .iface T u]) (by simp [results, Tryz.results28, go_sem, f0, f1, f2, f3, f4, f5, f6, f7, f8, f9, lt3]) rfl (hT ▸ WPost.err (b := w.heap.size) (V := w3) EO.out hi K3 (Nat.le_refl _) ?_)
    repeat (first | with_reducible exact Kept.refl _ _ | with_reducible refine Kept.setCell ?_ _ _ | with_reducible refine Kept.alloc ?_ _)

theorem own_form {w : World} {base : Nat} {e : TypeId} {size : Nat} {v : Value} {n : Nat} {xs : List Value} (h : w.ownsRow base e size v n xs) : ∃ A c, v = .slice A n c ∧ n ≤ c := by
  obtain ⟨-, ⟨h2, h3⟩ | ⟨g, cap, cur, h2, -, -, h5, -⟩⟩ := h
  · exact ⟨none, 0, by rw [h2, h3], by omega⟩
  · exact ⟨_, _, h2, h5⟩
theorem pc_start {w w2 : World} {A : Option Addr} {c : Nat} {l : List Tok} (en : Int) (hl : LibIs w) (hw : Below w.heap.size w w2) (ht : TokAt w2 (.slice A l.length c) l) (hc : l.length ≤ c) :
    Pc (w2.alloc (.cells #[.slice A l.length c, .int .i64 en, .int .i64 0] 60)) w2.heap.size l en 0 0 := by
  have hb : Below w2.heap.size w2 (w2.alloc (.cells #[.slice A l.length c, .int .i64 en, .int .i64 0] 60)) := (Below.refl _ _).alloc (Nat.le_refl _) _
  refine ⟨Nat.zero_le _, fun w' h => hl.below ((hw.trans (hb.mono hw.size)).trans (h.mono hw.size)), A, c, heap_alloc_new _ _, by omega, fun i hi _ => ?_⟩
  obtain ⟨A', c', e, hT⟩ := ht.form
  injection e with e1 e2 e3
  subst e1
  obtain ⟨g, e, f0, f1, f2, f3⟩ := hT i hi
  exact ⟨g, by rw [e], World.block_lt_of_cell? w2 _ f0, cell_later hb f0, cell_later hb f1, cell_later hb f2, cell_later hb f3⟩
/-- What Parse answers. -/
def ParsePost (w : World) (r : PRes) (e : Ending) (w' : World) : Prop :=
  ∃ v, e = .returned (.tuple #[v, .int .i64 r.at_, .int .i64 r.err]) ∧ Below w.heap.size w w' ∧ NodeAt w' (fun g => w.heap.size ≤ g) r.nd v
theorem ParsePost.zero {w V W : World} {r : PRes} {a n : Int} (hr : r = ⟨zeroN, a, n⟩) (hB : Below w.heap.size w V) (hk : Kept w.heap.size V W) :
    ParsePost w r (.returned (.tuple #[nodeV fld0 none 0 0, .int .i64 a, .int .i64 n])) W := by
  subst hr
  exact ⟨_, rfl, ((Kept.of hB).trans hk).below (Nat.le_refl _), none, 0, rfl, Or.inl rfl⟩
theorem ParsePost.ok {w V W : World} {r : PRes} {f : Fld} {kd : Fo} {A : Option Addr} {m c : Nat} (hr : r = ⟨⟨f, kd⟩, 0, 0⟩) (hB : Below w.heap.size w V) (hn : kd.len = m) (hA : KidsAt V (fun g => w.heap.size ≤ g ∧ g ≠ w.heap.size) kd A) (hk : Kept w.heap.size V W) :
    ParsePost w r (.returned (.tuple #[nodeV f A m c, .int .i64 0, .int .i64 0])) W := by
  subst hr
  exact ⟨_, rfl, ((Kept.of hB).trans hk).below (Nat.le_refl _), A, c, by rw [hn], hA.keep hk (fun g hg _ => ⟨hg.2, hg.1⟩)⟩
theorem parse_lex {s : List UInt8} (h : (cutL s).err ≠ 0) : parseL s = ⟨zeroN, (cutL s).at_, (cutL s).err⟩ := by unfold parseL; rw [if_pos h]
theorem parse_bad {s : List UInt8} {b : Bad} (h : (cutL s).err = 0) (hw : wholeF (cutL s).toks s.length = .error b) : parseL s = ⟨zeroN, b.2, b.1⟩ := by
  unfold parseL wholeF at *
  rw [if_neg (by rw [h]; decide)]
  cases ht : treeF (cutL s).toks s.length with
  | error e => rw [ht] at hw; injection hw with hw; subst hw; rfl
  | ok a =>
    rw [ht] at hw
    simp only at hw
    split at hw
    · rename_i hd; injection hw with hw; subst hw; simp only [if_pos hd]; rfl
    · cases hw
theorem parse_ok {s : List UInt8} {a : Nd} (h : (cutL s).err = 0) (hw : wholeF (cutL s).toks s.length = .ok a) : parseL s = ⟨a, 0, 0⟩ := by
  unfold parseL wholeF at *
  rw [if_neg (by rw [h]; decide)]
  cases ht : treeF (cutL s).toks s.length with
  | error e => rw [ht] at hw; cases hw
  | ok b =>
    rw [ht] at hw
    simp only at hw
    split at hw
    · cases hw
    · rename_i hd; injection hw with hw; subst hw; simp only [if_neg hd]
set_option maxRecDepth 100000 in
set_option maxHeartbeats 1000000 in
theorem cParse (s : ByteArray) (w : World) (hs : s.size ≤ 1000000) (hl : LexLib w) (hg : ErrT w) :
    Calls Tryz.prog 15 #[.string s] w (ParsePost w (parseL s.data.toList)) := by
  have X1 := NBox.new w
  have B1 : Below w.heap.size w (w.alloc (.cells #[.int .i64 0, .int .i64 0, .int .i64 0, .string { data := #[] }, .int .i64 0, .int .i64 0, .int .i64 0, .int .i64 0, .string { data := #[] }, .slice none 0 0] 30)) := (Below.refl _ _).alloc (Nat.le_refl _) _
  have hl1 := Lib.hid (hl.below B1)
  have lt1 := X1.lt
  obtain ⟨hfew, hshort⟩ := cut_few s.data.toList
  have HF := Lib.hid hfew
  have HS := Lib.hid hshort
  clear hfew hshort
  have HL := Lib.hid (list_len s)
  go_enter Tryz.func15, Tryz.ntmps15
  go_wp2_with fail
  generalize (w.alloc (.cells #[.int .i64 0, .int .i64 0, .int .i64 0, .string { data := #[] }, .int .i64 0, .int .i64 0, .int .i64 0, .int .i64 0, .string { data := #[] }, .slice none 0 0] 30)) = W1 at *
  refine (LexC.cut s W1 hs hl1.out).mono ?_; rintro e w2 ⟨v, rfl, hown, hb2⟩
  have ht := tokAt_own hown
  obtain ⟨A, c, rfl, hc⟩ := own_form hown
  clear hown
  have B2 := B1.trans (hb2.mono B1.size)
  have X2 := X1.kept (Kept.of (x := W1.heap.size) hb2) (by omega)
  have lt2 := X2.lt
  have na1 : w.heap.size ≠ w2.heap.size := by omega
  have na2 : w2.heap.size ≠ w.heap.size := by omega
  by_cases he : (cutL s.data.toList).err = 0
  · have hN := Lib.hid (pc_start (s.size : Int) hl.lib B2 ht hc)
    have B4 : Below w.heap.size w (w2.alloc (.cells #[.slice A (cutL s.data.toList).toks.length c, .int .i64 s.size, .int .i64 0] 60)) := B2.alloc (by omega) _
    have X4 := X2.kept ((Kept.refl w2.heap.size w2).alloc (.cells #[.slice A (cutL s.data.toList).toks.length c, .int .i64 s.size, .int .i64 0] 60)) na1
    have HE := Lib.hid he
    have e1 : ((cutL s.data.toList).err == 0) = true := beq_iff_eq.2 he
    clear ht hc
    go_wp2_with fail
    generalize (w2.alloc (.cells #[.slice A (cutL s.data.toList).toks.length c, .int .i64 s.size, .int .i64 0] 60)) = W4 at *
    refine (cwhole W4 hN.out HF.out (fun i t hi => by have := HS.out t (List.mem_of_getElem? hi); omega)).mono ?_
    rintro e w5 ⟨f, A5, m, c5, er, rfl, k5, hp⟩
    have X5 := X4.kept k5 na1
    have lt4 := X4.lt
    have B5 : Below w.heap.size w w5 := B4.trans (k5.under (by omega) (by omega))
    have lt5 := X5.lt
    have na3 : w.heap.size ≠ w5.heap.size := by omega
    have na4 : w5.heap.size ≠ w.heap.size := by omega
    unfold nodeV
    rw [show (s.size : Int) = ((s.data.toList.length : Nat) : Int) from by rw [← HL.out]] at hp
    rcases hp with ⟨kd, ho, rfl, hn, hA⟩ | ⟨b, ho, hi, rfl⟩
    · have EO := Lib.hid (parse_ok HE.out ho)
      have hA6 := hA.keep (Q := fun g => w.heap.size ≤ g ∧ g ≠ w.heap.size) (Kept.refl w5.heap.size w5) (fun g hg hl => ⟨by omega, by omega, by omega⟩)
      clear ho hA e1
      obtain ⟨f0, f1, f2, f3, f4, f5, f6, f7, f8, f9, z0, z1, z2, z3, z4, z5, z6, z7, z8, z9⟩ := (X5).cells
      go_wp2_with fail
      refine bodyPost_ret (v := .tuple #[.agg #[.int .i64 f.k, .int .i64 f.vk, .int .i64 f.vn, .string f.vs, .int .i64 f.r1, .int .i64 f.r2, .int .i64 f.r3, .int .i64 f.r4, .string f.op, .slice A5 m c5], .int .i64 0, .int .i64 0]) (by simp [results, Tryz.results15, go_sem, f0, f1, f2, f3, f4, f5, f6, f7, f8, f9, lt5]) rfl (ParsePost.ok (f := f) (A := A5) (m := m) (c := c5) (V := w5) EO.out B5 hn hA6 ?_)
      repeat (first | with_reducible exact Kept.refl _ _ | with_reducible refine Kept.setCell ?_ _ _ | with_reducible refine Kept.alloc ?_ _)
    · have EO := Lib.hid (parse_bad HE.out ho)
      obtain ⟨T, u, hT⟩ := errV_some b
      have B5a : Below w.heap.size w (w5.alloc (.cells #[.int .i64 f.k, .int .i64 f.vk, .int .i64 f.vn, .string f.vs, .int .i64 f.r1, .int .i64 f.r2, .int .i64 f.r3, .int .i64 f.r4, .string f.op, .slice A5 m c5] 30)) := B5.alloc (by omega) _
      have X5a := X5.kept ((Kept.refl w5.heap.size w5).alloc (.cells #[.int .i64 f.k, .int .i64 f.vk, .int .i64 f.vn, .string f.vs, .int .i64 f.r1, .int .i64 f.r2, .int .i64 f.r3, .int .i64 f.r4, .string f.op, .slice A5 m c5] 30)) na3
      have HPl := Lib.hid (cplaceOf b hi (w5.alloc (.cells #[.int .i64 f.k, .int .i64 f.vk, .int .i64 f.vn, .string f.vs, .int .i64 f.r1, .int .i64 f.r2, .int .i64 f.r3, .int .i64 f.r4, .string f.op, .slice A5 m c5] 30)) (hg.below B5a))
      have HNu := Lib.hid (fun (w6 : World) (h6 : ErrT w6) => cnumberOf b hi w6 h6)
      rw [hT] at HPl HNu ⊢
      clear ho e1
      have lt5a := X5a.lt
      go_wp2_with fail
      generalize (w5.alloc (.cells #[.int .i64 f.k, .int .i64 f.vk, .int .i64 f.vn, .string f.vs, .int .i64 f.r1, .int .i64 f.r2, .int .i64 f.r3, .int .i64 f.r4, .string f.op, .slice A5 m c5] 30)) = W5 at *
      refine HPl.out.mono ?_; rintro e w6 ⟨rfl, k6⟩
      have B6 : Below w.heap.size w w6 := B5a.trans (k6.under (by omega) (by omega))
      have X6 := X5a.kept k6 (by omega)
      have lt6 := X6.lt
      have na5 : w.heap.size ≠ w6.heap.size := by omega
      go_wp2_with fail
      refine (HNu.out w6 (hg.below B6)).mono ?_; rintro e w7 ⟨rfl, k7⟩
      have B7 : Below w.heap.size w w7 := B6.trans (k7.under (by omega) (by omega))
      have X7 := X6.kept k7 na5
      obtain ⟨f0, f1, f2, f3, f4, f5, f6, f7, f8, f9, z0, z1, z2, z3, z4, z5, z6, z7, z8, z9⟩ := (X7).cells
      go_wp2_with fail
      refine bodyPost_ret (v := .tuple #[.agg #[.int .i64 0, .int .i64 0, .int .i64 0, .string { data := #[] }, .int .i64 0, .int .i64 0, .int .i64 0, .int .i64 0, .string { data := #[] }, .slice none 0 0], .int .i64 b.2, .int .i64 b.1]) (by simp [results, Tryz.results15, go_sem, f0, f1, f2, f3, f4, f5, f6, f7, f8, f9]) rfl (ParsePost.zero (V := w7) EO.out B7 ?_)
      repeat (first | with_reducible exact Kept.refl _ _ | with_reducible refine Kept.setCell ?_ _ _ | with_reducible refine Kept.alloc ?_ _)
  · have EO := Lib.hid (parse_lex he)
    have e1 : ((cutL s.data.toList).err == 0) = false := beq_eq_false_iff_ne.2 he
    obtain ⟨f0, f1, f2, f3, f4, f5, f6, f7, f8, f9, z0, z1, z2, z3, z4, z5, z6, z7, z8, z9⟩ := (X2).cells
    go_wp2_with fail
    refine bodyPost_ret (v := .tuple #[.agg #[.int .i64 0, .int .i64 0, .int .i64 0, .string { data := #[] }, .int .i64 0, .int .i64 0, .int .i64 0, .int .i64 0, .string { data := #[] }, .slice none 0 0], .int .i64 (cutL s.data.toList).at_, .int .i64 (cutL s.data.toList).err]) (by simp [results, Tryz.results15, go_sem, f0, f1, f2, f3, f4, f5, f6, f7, f8, f9]) rfl (ParsePost.zero (V := w2) EO.out B2 ?_)
    repeat (first | with_reducible exact Kept.refl _ _ | with_reducible refine Kept.setCell ?_ _ _ | with_reducible refine Kept.alloc ?_ _)


end Go.Proofs.YtbgjdfghcnblcaaGreatDoor.TreeC
