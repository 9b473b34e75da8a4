/-
  Contracts of tree's code: a whole formula, Parse.
-/
import Derived.Test.YticehalcnbjccaaGreatDoorRTreeP8
import Derived.Test.YticehalcnbjccaaGreatDoorRTreeS
import Derived.Test.YticehalcnbjccaaGreatDoorRLexF
import Derived.Test.YticehalcnbjccaaGreatDoorRLexZ7
import Derived.Test.YticehalcnbjccaaGreatDoorRAddrD
import Derived.Test.YticehalcnbjccaaGreatDoorRAddrA
namespace Go.Proofs.YticehalcnbjccaaGreatDoor.TreeC
set_option maxRecDepth 100000
set_option maxHeartbeats 8000000
set_option linter.unusedVariables false
open Go.RowKit NumC LexC
open Cd
open Tryz
open Lib (hid)
def wholeF (l : List Tok) (n : Int) : Except Bad Nd := match treeF l n with
 | .error e => .error e
 | .ok a => if 16 < a.deep then .error deepE else .ok a
theorem whole_bad {l : List Tok} {n : Int} {b : Bad} (h : (lev l n 41).fm 0 = .error b) : wholeF l n = .error b := by simp [wholeF, treeF, h]
theorem whole_more {l : List Tok} {n : Int} {a : Nd} {k : Nat} (h : (lev l n 41).fm 0 = .ok (a, k)) (hk : k < l.length) : wholeF l n = .error (badAt l n k) := by simp [wholeF, treeF, h, hk]
theorem whole_deep {l : List Tok} {n : Int} {a : Nd} {k : Nat} (h : (lev l n 41).fm 0 = .ok (a, k)) (hk : ¬ k < l.length) (hd : 16 < a.deep) : wholeF l n = .error deepE := by simp [wholeF, treeF, h, hk, hd]
theorem whole_ok {l : List Tok} {n : Int} {a : Nd} {k : Nat} (h : (lev l n 41).fm 0 = .ok (a, k)) (hk : ¬ k < l.length) (hd : ¬ 16 < a.deep) : wholeF l n = .ok a := by simp [wholeF, treeF, h, hk, hd]
def WPost (x : Nat) (out : Except Bad Nd) (w : World) (e : Ending) (w' : World) : Prop :=
 ∃ f A m c er, e = .returned (.tuple #[nodeV f A m c, er]) ∧ Kept x w w' ∧
   ((∃ kd, out = .ok ⟨f, kd⟩ ∧ er = .nilIface ∧ kd.len = m ∧ KidsAt w' (fun g => w.heap.size ≤ g) kd A) ∨ (∃ b, out = .error b ∧ IsBad b ∧ er = errV b))
theorem WPost.err {x b : Nat} {out : Except Bad Nd} {bad : Bad} {w V W : World} (ho : out = .error bad) (hi : IsBad bad) (hK : Kept x w V) (hb : w.heap.size ≤ b) (hk : Kept b V W) :
   WPost x out w (.returned (.tuple #[nodeV fld0 none 0 0, errV bad])) W := ⟨fld0, none, 0, 0, _, rfl, hK.then_ hk hb, Or.inr ⟨bad, ho, hi, rfl⟩⟩
theorem cwhole {x : Nat} {l : List Tok} {en : Int} (w : World) (h : Pc w x l en 0 0) (hl : l.length ≤ 300) (hts : ∀ (i : Nat) (t : Tok), l[i]? = some t → t.s.size ≤ 1000000) :
   Calls prog 70 #[.pointer (some ⟨x, 0, none⟩)] w (WPost x (wholeF l en) w) := by
 have hxw := h.lt
 have HI := hid h
 clear h
 have HC := hid (ccon (x := x) (en := en) hl hts 40 (Nat.le_refl _))
 have ne1 : x ≠ w.heap.size := by omega
 have ne2 : w.heap.size ≠ x := by omega
 have K1 : Kept x w (w.alloc (.cells jZ 31)) := (Kept.refl x w).alloc _
 have X1 := NBox.new w
 have P1 := hid (HI.out.alloc (.cells jZ 31))
 clear HI hts
 go_enter func70, ntmps70
 go_wp2_with fail
 generalize (w.alloc (.cells jZ 31)) = W1 at *
 refine (HC.out.fm 0 W1 P1.out).mono ?_
 have lt1 := X1.lt
 rintro e w3 ⟨f, A, m, c, er, rfl, k3, hp3⟩
 have X3 := X1.kept k3 ne2
 have K3 := K1.trans k3
 have lt3 := X3.lt
 have hx3 : x < w3.heap.size := by have := k3.size; omega
 have na1 : x ≠ w3.heap.size := by omega
 have na2 : w3.heap.size ≠ x := by omega
 have na4 : w.heap.size ≠ w3.heap.size := by omega
 have na5 : w3.heap.size ≠ w.heap.size := by omega
 clear K1 X1 P1 k3
 unfold nodeV
 rcases hp3 with ⟨kd, k', ho, rfl, hn, hA, hP⟩ | ⟨bad, k2, ho, hi, rfl, hP⟩
 · have hsz := (lev_sz l en 41).fm _ _ _ ho
   have hgo := (lev_goes l en 41).fm _ _ _ ho
   have HO := hid ho
   clear ho
   have L4 : NLoc (w3.alloc (.cells (jN f A m c) 31)) w3.heap.size f A m c := ⟨heap_alloc_new _ _⟩
   have X4 := X3.kept ((Kept.refl x w3).alloc (.cells (jN f A m c) 31)) ne2
   have K4 := K3.alloc (.cells (jN f A m c) 31)
   have P4 := hid (hP.alloc (.cells (jN f A m c) 31))
   have A4 := hA.keep (Q := fun g => w.heap.size < g ∧ g ≠ w3.heap.size) ((Kept.refl x w3).alloc (.cells (jN f A m c) 31)) (fun g hg hl => ⟨by omega, by omega, by omega⟩)
   have B4 := hA.keep (Q := fun g => g < (w3.alloc (.cells (jN f A m c) 31)).heap.size) ((Kept.refl x w3).alloc (.cells (jN f A m c) 31)) (fun g hg hl => ⟨by omega, by have := L4.lt; omega⟩)
   clear hP hA X3 K3
   obtain ⟨A7, c7, h7, -, -⟩ := P4.out.ex
   have q7 : (w3.alloc (.cells (jN f A m c) 31)).cell? ⟨x, 0, none⟩ = some (.slice A7 (l.length - k') c7) := by simp only [World.cell?, h7]; rfl
   clear h7
   have s4 := L4.lt
   have t4 := X4.lt
   by_cases hlt : k' < l.length
   · have hm : 0 < l.length - k' := by omega
     have EO := hid (whole_more HO.out hlt)
     have HM := hid (cmisplaced _ P4.out hl)
     go_wp2_with fail
     generalize (w3.alloc (.cells (jN f A m c) 31)) = V at *
     refine HM.out.mono ?_; rintro e w4 ⟨rfl, q, rfl⟩
     have X5 := X4.kept ((Kept.refl x V).drew q) ne2
     obtain ⟨f0, f1, f2, f3, f4, f5, f6, f7, f8, f9, z0, z1, z2, z3, z4, z5, z6, z7, z8, z9⟩ := (X5).cells
     go_wp2_with fail
     refine bodyPost_ret (v := .tuple #[.agg jZ, errV (badAt l en k')]) (by simp [results, results70, go_sem, f0, f1, f2, f3, f4, f5, f6, f7, f8, f9]) rfl (WPost.err (b := w.heap.size) (V := V.drewN q) EO.out (isBad_at _ _ _) (K4.drew q) (Nat.le_refl _) ?_)
     repeat (with_reducible first | exact Kept.refl _ _ | refine Kept.setCell ?_ _ _ | refine Kept.alloc ?_ _)
   · have hm : l.length - k' = 0 := by omega
     have HD := hid (cDepth ⟨f, kd⟩ A c (w3.alloc (.cells (jN f A m c) 31)) (by omega) B4)
     rw [if_pos (show (Nd.mk f kd).size ≤ 2000 by omega)] at HD
     simp only [hn] at HD
     go_wp2_with fail
     generalize (w3.alloc (.cells (jN f A m c) 31)) = V at *
     refine HD.out.mono ?_; rintro e w4 ⟨rfl, hb4⟩
     have k4 : Kept x V w4 := Kept.of hb4
     have X5 := X4.kept k4 ne2
     have K5 := K4.trans k4
     have L5 := L4.kept k4 na2
     have A5 := A4.keep (Q := fun g => w.heap.size ≤ g ∧ g ≠ w.heap.size) k4 (fun g hg hl => ⟨by omega, by omega, by omega⟩)
     clear HD B4 A4 X4 K4 L4 hb4 k4 P4
     obtain ⟨d0, d1, d2, d3, d4, d5, d6, d7, d8, d9, dz0, dz1, dz2, dz3, dz4, dz5, dz6, dz7, dz8, dz9⟩ := (L5).cells
     obtain ⟨f0, f1, f2, f3, f4, f5, f6, f7, f8, f9, z0, z1, z2, z3, z4, z5, z6, z7, z8, z9⟩ := (X5).cells
     by_cases hd : 16 < (Nd.mk f kd).deep
     · have EO := hid (whole_deep HO.out hlt hd)
       have d1 : (16 : Int) < ((Nd.mk f kd).deep : Int) := by omega
       clear HO
       generalize (Nd.mk f kd).deep = D at *
       go_wp2_with fail
       refine bodyPost_ret (v := .tuple #[.agg jZ, .iface 34 (.int .i64 14)]) (by simp [results, results70, go_sem, f0, f1, f2, f3, f4, f5, f6, f7, f8, f9]) rfl (WPost.err (b := w.heap.size) (V := w4) EO.out isBad_deep K5 (Nat.le_refl _) ?_)
       repeat (with_reducible first | exact Kept.refl _ _ | refine Kept.setCell ?_ _ _ | refine Kept.alloc ?_ _)
     · have EO := hid (whole_ok HO.out hlt hd)
       have d1 : ((Nd.mk f kd).deep : Int) ≤ 16 := by omega
       clear HO
       generalize (Nd.mk f kd).deep = D at *
       go_wp2_with fail
       refine bodyPost_ret (v := .tuple #[.agg (jN f A m c), .nilIface]) (by simp [results, results70, go_sem, f0, f1, f2, f3, f4, f5, f6, f7, f8, f9]) rfl ⟨f, A, m, c, _, rfl, K5.then_ (b := w.heap.size) ?_ (Nat.le_refl _), Or.inl ⟨kd, EO.out, rfl, hn, A5.keep (y := w.heap.size) (Q := fun g => w.heap.size ≤ g) ?_ (fun g hg _ => ⟨hg.2, hg.1⟩)⟩⟩
       all_goals repeat (with_reducible first | exact Kept.refl _ _ | refine Kept.setCell ?_ _ _ | refine Kept.alloc ?_ _)
 · obtain ⟨T, u, hT⟩ := errV_some bad
   have EO := hid (whole_bad ho)
   clear ho hP
   rw [hT]
   obtain ⟨f0, f1, f2, f3, f4, f5, f6, f7, f8, f9, z0, z1, z2, z3, z4, z5, z6, z7, z8, z9⟩ := (X3).cells
   go_wp2_with fail
   refine bodyPost_ret (v := .tuple #[.agg jZ, .iface T u]) (by simp [results, results70, go_sem, f0, f1, f2, f3, f4, f5, f6, f7, f8, f9, lt3]) rfl (hT ▸ WPost.err (b := w.heap.size) (V := w3) EO.out hi K3 (Nat.le_refl _) ?_)
   repeat (with_reducible first | exact Kept.refl _ _ | refine Kept.setCell ?_ _ _ | refine Kept.alloc ?_ _)
theorem own_form {w : World} {base : Nat} {e : TypeId} {size : Nat} {v : Value} {n : Nat} {xs : List Value} (h : w.ownsRow base e size v n xs) : ∃ A c, v = .slice A n c ∧ n ≤ c := by
 obtain ⟨-, ⟨h2, h3⟩ | ⟨g, cap, cur, h2, -, -, h5, -⟩⟩ := h
 · exact ⟨none, 0, by rw [h2, h3], by omega⟩
 · exact ⟨_, _, h2, h5⟩
theorem pc_start {w w2 : World} {A : Option Addr} {c : Nat} {l : List Tok} (en : Int) (hl : LibIs w) (hw : Below w.heap.size w w2) (ht : TokAt w2 (.slice A l.length c) l) (hc : l.length ≤ c) :
   Pc (w2.alloc (.cells #[.slice A l.length c, .int .i64 en, .int .i64 0] 130)) w2.heap.size l en 0 0 := by
 have hb : Below w2.heap.size w2 (w2.alloc (.cells #[.slice A l.length c, .int .i64 en, .int .i64 0] 130)) := (Below.refl _ _).alloc (Nat.le_refl _) _
 refine ⟨Nat.zero_le _, fun w' h => hl.below ((hw.trans (hb.mono hw.size)).trans (h.mono hw.size)), A, c, heap_alloc_new _ _, by omega, fun i hi _ => ?_⟩
 obtain ⟨A', c', e, hT⟩ := ht.form
 injection e with e1 e2 e3
 subst e1
 obtain ⟨g, e, f0, f1, f2, f3⟩ := hT i hi
 exact ⟨g, by rw [e], World.block_lt_of_cell? w2 _ f0, cell_later hb f0, cell_later hb f1, cell_later hb f2, cell_later hb f3⟩
def ParsePost (w : World) (r : PRes) (e : Ending) (w' : World) : Prop :=
 ∃ v, e = .returned (.tuple #[v, .int .i64 r.at_, .int .i64 r.err]) ∧ Below w.heap.size w w' ∧ NodeAt w' (fun g => w.heap.size ≤ g) r.nd v
theorem ParsePost.zero {w V W : World} {r : PRes} {a n : Int} (hr : r = ⟨zeroN, a, n⟩) (hB : Below w.heap.size w V) (hk : Kept w.heap.size V W) :
   ParsePost w r (.returned (.tuple #[nodeV fld0 none 0 0, .int .i64 a, .int .i64 n])) W := by
 subst hr
 exact ⟨_, rfl, ((Kept.of hB).trans hk).below (Nat.le_refl _), none, 0, rfl, Or.inl rfl⟩
theorem ParsePost.ok {w V W : World} {r : PRes} {f : Fld} {kd : Fo} {A : Option Addr} {m c : Nat} (hr : r = ⟨⟨f, kd⟩, 0, 0⟩) (hB : Below w.heap.size w V) (hn : kd.len = m) (hA : KidsAt V (fun g => w.heap.size ≤ g ∧ g ≠ w.heap.size) kd A) (hk : Kept w.heap.size V W) :
   ParsePost w r (.returned (.tuple #[nodeV f A m c, .int .i64 0, .int .i64 0])) W := by
 subst hr
 exact ⟨_, rfl, ((Kept.of hB).trans hk).below (Nat.le_refl _), A, c, by rw [hn], hA.keep hk (fun g hg _ => ⟨hg.2, hg.1⟩)⟩
theorem parse_lex {s : List UInt8} (h : (cutL s).err ≠ 0) : parseL s = ⟨zeroN, (cutL s).at_, (cutL s).err⟩ := by unfold parseL; rw [if_pos h]
theorem parse_bad {s : List UInt8} {b : Bad} (h : (cutL s).err = 0) (hw : wholeF (cutL s).toks s.length = .error b) : parseL s = ⟨zeroN, b.2, b.1⟩ := by
 unfold parseL wholeF at *
 rw [if_neg (by rw [h]; decide)]
 cases ht : treeF (cutL s).toks s.length with
 | error e => rw [ht] at hw; injection hw with hw; subst hw; rfl
 | ok a =>
   rw [ht] at hw
   simp only at hw
   split at hw
   · rename_i hd; injection hw with hw; subst hw; simp only [if_pos hd]; rfl
   · cases hw
theorem parse_ok {s : List UInt8} {a : Nd} (h : (cutL s).err = 0) (hw : wholeF (cutL s).toks s.length = .ok a) : parseL s = ⟨a, 0, 0⟩ := by
 unfold parseL wholeF at *
 rw [if_neg (by rw [h]; decide)]
 cases ht : treeF (cutL s).toks s.length with
 | error e => rw [ht] at hw; cases hw
 | ok b =>
   rw [ht] at hw
   simp only at hw
   split at hw
   · cases hw
   · rename_i hd; injection hw with hw; subst hw; simp only [if_neg hd]
theorem cParse (s : ByteArray) (w : World) (hs : s.size ≤ 1000000) (hl : LexLib w) (hg : ErrT w) :
   Calls prog 43 #[.string s] w (ParsePost w (parseL s.data.toList)) := by
 have X1 := NBox.new w
 have B1 : Below w.heap.size w (w.alloc (.cells jZ 31)) := (Below.refl _ _).alloc (Nat.le_refl _) _
 have hl1 := hid (hl.below B1)
 have lt1 := X1.lt
 obtain ⟨hfew, hshort⟩ := cut_few s.data.toList
 have HF := hid hfew
 have HS := hid hshort
 clear hfew hshort
 have HL := hid (list_len s)
 go_enter func43, ntmps43
 go_wp2_with fail
 generalize (w.alloc (.cells jZ 31)) = W1 at *
 refine (LexC.cut s W1 hs hl1.out).mono ?_; rintro e w2 ⟨v, rfl, hown, hb2⟩
 have ht := tokAt_own hown
 obtain ⟨A, c, rfl, hc⟩ := own_form hown
 clear hown
 have B2 := B1.trans (hb2.mono B1.size)
 have X2 := X1.kept (Kept.of (x := W1.heap.size) hb2) (by omega)
 have lt2 := X2.lt
 have na1 : w.heap.size ≠ w2.heap.size := by omega
 have na2 : w2.heap.size ≠ w.heap.size := by omega
 by_cases he : (cutL s.data.toList).err = 0
 · have hN := hid (pc_start (s.size : Int) hl.lib B2 ht hc)
   have B4 : Below w.heap.size w (w2.alloc (.cells #[.slice A (cutL s.data.toList).toks.length c, .int .i64 s.size, .int .i64 0] 130)) := B2.alloc (by omega) _
   have X4 := X2.kept ((Kept.refl w2.heap.size w2).alloc (.cells #[.slice A (cutL s.data.toList).toks.length c, .int .i64 s.size, .int .i64 0] 130)) na1
   have HE := hid he
   have e1 : ((cutL s.data.toList).err == 0) = true := beq_iff_eq.2 he
   clear ht hc
   go_wp2_with fail
   generalize (w2.alloc (.cells #[.slice A (cutL s.data.toList).toks.length c, .int .i64 s.size, .int .i64 0] 130)) = W4 at *
   refine (cwhole W4 hN.out HF.out (fun i t hi => by have := HS.out t (List.mem_of_getElem? hi); omega)).mono ?_
   rintro e w5 ⟨f, A5, m, c5, er, rfl, k5, hp⟩
   have X5 := X4.kept k5 na1
   have lt4 := X4.lt
   have B5 : Below w.heap.size w w5 := B4.trans (k5.under (by omega) (by omega))
   have lt5 := X5.lt
   have na3 : w.heap.size ≠ w5.heap.size := by omega
   have na4 : w5.heap.size ≠ w.heap.size := by omega
   unfold nodeV
   rw [show (s.size : Int) = ((s.data.toList.length : Nat) : Int) from by rw [← HL.out]] at hp
   rcases hp with ⟨kd, ho, rfl, hn, hA⟩ | ⟨b, ho, hi, rfl⟩
   · have EO := hid (parse_ok HE.out ho)
     have hA6 := hA.keep (Q := fun g => w.heap.size ≤ g ∧ g ≠ w.heap.size) (Kept.refl w5.heap.size w5) (fun g hg hl => ⟨by omega, by omega, by omega⟩)
     clear ho hA e1
     obtain ⟨f0, f1, f2, f3, f4, f5, f6, f7, f8, f9, z0, z1, z2, z3, z4, z5, z6, z7, z8, z9⟩ := (X5).cells
     go_wp2_with fail
     refine bodyPost_ret (v := .tuple #[.agg (jN f A5 m c5), .int .i64 0, .int .i64 0]) (by simp [results, results43, go_sem, f0, f1, f2, f3, f4, f5, f6, f7, f8, f9, lt5]) rfl (ParsePost.ok (f := f) (A := A5) (m := m) (c := c5) (V := w5) EO.out B5 hn hA6 ?_)
     repeat (with_reducible first | exact Kept.refl _ _ | refine Kept.setCell ?_ _ _ | refine Kept.alloc ?_ _)
   · have EO := hid (parse_bad HE.out ho)
     obtain ⟨T, u, hT⟩ := errV_some b
     have B5a : Below w.heap.size w (w5.alloc (.cells (jN f A5 m c5) 31)) := B5.alloc (by omega) _
     have X5a := X5.kept ((Kept.refl w5.heap.size w5).alloc (.cells (jN f A5 m c5) 31)) na3
     have HPl := hid (cplaceOf b hi (w5.alloc (.cells (jN f A5 m c5) 31)) (hg.below B5a))
     have HNu := hid (fun (w6 : World) (h6 : ErrT w6) => cnumberOf b hi w6 h6)
     rw [hT] at HPl HNu ⊢
     clear ho e1
     have lt5a := X5a.lt
     go_wp2_with fail
     generalize (w5.alloc (.cells (jN f A5 m c5) 31)) = W5 at *
     refine HPl.out.mono ?_; rintro e w6 ⟨rfl, k6⟩
     have B6 : Below w.heap.size w w6 := B5a.trans (k6.under (by omega) (by omega))
     have X6 := X5a.kept k6 (by omega)
     have lt6 := X6.lt
     have na5 : w.heap.size ≠ w6.heap.size := by omega
     go_wp2_with fail
     refine (HNu.out w6 (hg.below B6)).mono ?_; rintro e w7 ⟨rfl, k7⟩
     have B7 : Below w.heap.size w w7 := B6.trans (k7.under (by omega) (by omega))
     have X7 := X6.kept k7 na5
     obtain ⟨f0, f1, f2, f3, f4, f5, f6, f7, f8, f9, z0, z1, z2, z3, z4, z5, z6, z7, z8, z9⟩ := (X7).cells
     go_wp2_with fail
     refine bodyPost_ret (v := .tuple #[.agg jZ, .int .i64 b.2, .int .i64 b.1]) (by simp [results, results43, go_sem, f0, f1, f2, f3, f4, f5, f6, f7, f8, f9]) rfl (ParsePost.zero (V := w7) EO.out B7 ?_)
     repeat (with_reducible first | exact Kept.refl _ _ | refine Kept.setCell ?_ _ _ | refine Kept.alloc ?_ _)
 · have EO := hid (parse_lex he)
   have e1 : ((cutL s.data.toList).err == 0) = false := beq_eq_false_iff_ne.2 he
   obtain ⟨f0, f1, f2, f3, f4, f5, f6, f7, f8, f9, z0, z1, z2, z3, z4, z5, z6, z7, z8, z9⟩ := (X2).cells
   go_wp2_with fail
   refine bodyPost_ret (v := .tuple #[.agg jZ, .int .i64 (cutL s.data.toList).at_, .int .i64 (cutL s.data.toList).err]) (by simp [results, results43, go_sem, f0, f1, f2, f3, f4, f5, f6, f7, f8, f9]) rfl (ParsePost.zero (V := w2) EO.out B2 ?_)
   repeat (with_reducible first | exact Kept.refl _ _ | refine Kept.setCell ?_ _ _ | refine Kept.alloc ?_ _)
def constB (k n : Int) (s : ByteArray) : Bool := if k = 2 then ValueC.goodB ⟨k, n, s⟩ && decide (0 ≤ n) else if k = 3 ∨ k = 1 then ValueC.goodB ⟨k, n, s⟩ else false
theorem cisConst (k n : Int) (s : ByteArray) (w : World) : Calls prog 163 #[.agg (jV k n s)] w fun e w' => e = .returned (.bool (constB k n s)) ∧ Below w.heap.size w w' := by
 have hb1 : Below w.heap.size w (w.alloc (.cells (jV k n s) 24)) := (Below.refl _ _).alloc (Nat.le_refl _) _
 have HG := ValueC.good ⟨k, n, s⟩ (w.alloc (.cells (jV k n s) 24))
 have hq : (w.alloc (.cells (jV k n s) 24)).cell? ⟨w.heap.size, 1, none⟩ = some (.int .i64 n) := by simp
 have HC := hid (And.intro hb1 (And.intro HG hq))
 clear hb1 HG hq
 by_cases h2 : k = 2
 · have E : Hid (constB k n s = (ValueC.goodB ⟨k, n, s⟩ && decide (0 ≤ n))) := hid (if_pos h2)
   have b2 : (k == 2) = true := beq_iff_eq.2 h2
   clear h2
   go_enter func163, ntmps163
   go_wp2_with fail
   generalize (w.alloc (.cells (jV k n s) 24)) = W1 at *
   refine HC.out.2.1.mono ?_; rintro e w2 ⟨rfl, hb2⟩
   have q2 := cell_later hb2 HC.out.2.2
   have hB := HC.out.1.trans (hb2.mono HC.out.1.size)
   cases hg : ValueC.goodB ⟨k, n, s⟩ with
   | false =>
     rw [hg] at E
     go_wp2_with fail
     go_ret
     exact ⟨by rw [E.out]; rfl, hB⟩
   | true =>
     rw [hg] at E
     go_wp2_with fail
     go_ret
     exact ⟨by rw [E.out]; simp, hB⟩
 · have b2 : (k == 2) = false := beq_eq_false_iff_ne.2 h2
   by_cases h3 : k = 3
   · have E : Hid (constB k n s = ValueC.goodB ⟨k, n, s⟩) := hid ((if_neg h2).trans (if_pos (Or.inl h3)))
     have b3 : (k == 3) = true := beq_iff_eq.2 h3
     clear h2 h3
     go_enter func163, ntmps163
     go_wp2_with fail
     generalize (w.alloc (.cells (jV k n s) 24)) = W1 at *
     refine HC.out.2.1.mono ?_; rintro e w2 ⟨rfl, hb2⟩
     have hB := HC.out.1.trans (hb2.mono HC.out.1.size)
     go_wp2_with fail
     go_ret
     exact ⟨by rw [E.out]; rfl, hB⟩
   · have b3 : (k == 3) = false := beq_eq_false_iff_ne.2 h3
     by_cases h1 : k = 1
     · have E : Hid (constB k n s = ValueC.goodB ⟨k, n, s⟩) := hid ((if_neg h2).trans (if_pos (Or.inr h1)))
       have b1 : (k == 1) = true := beq_iff_eq.2 h1
       clear h2 h3 h1
       go_enter func163, ntmps163
       go_wp2_with fail
       generalize (w.alloc (.cells (jV k n s) 24)) = W1 at *
       refine HC.out.2.1.mono ?_; rintro e w2 ⟨rfl, hb2⟩
       have hB := HC.out.1.trans (hb2.mono HC.out.1.size)
       go_wp2_with fail
       go_ret
       exact ⟨by rw [E.out]; rfl, hB⟩
     · have E : Hid (constB k n s = false) := hid ((if_neg h2).trans (if_neg (fun h => h.elim h3 h1)))
       have b1 : (k == 1) = false := beq_eq_false_iff_ne.2 h1
       clear h2 h3 h1
       go_enter func163, ntmps163
       go_wp2_with fail
       go_ret
       exact ⟨by rw [E.out]; rfl, HC.out.1⟩
def binB (s : ByteArray) : Bool := anyOf cmpS s || anyOf sumS s || anyOf mulS s || anyOf powS s
theorem cisBinary (s : ByteArray) (w : World) : Calls prog 165 #[.string s] w fun e w' => e = .returned (.bool (binB s)) ∧ Below w.heap.size w w' := by
 cases h0 : anyOf cmpS s with
 | true =>
   go_enter func165, ntmps165
   go_wp2_with fail
   refine (cisComparing s _).mono ?_; rw [h0]; rintro e w1 ⟨rfl, q0, rfl⟩
   go_wp2_with fail
   go_ret
   exact ⟨by rw [show binB s = true by simp [binB, h0]]; rfl, below_drewN' (Below.refl _ _) _⟩
 | false =>
   cases h1 : anyOf sumS s with
   | true =>
     go_enter func165, ntmps165
     go_wp2_with fail
     refine (cisComparing s _).mono ?_; rw [h0]; rintro e w1 ⟨rfl, q0, rfl⟩
     go_wp2_with fail
     refine (cisAdding s _).mono ?_; rw [h1]; rintro e w2 ⟨rfl, q1, rfl⟩
     go_wp2_with fail
     go_ret
     exact ⟨by rw [show binB s = true by simp [binB, h0, h1]]; rfl, below_drewN' (Below.refl _ _) _⟩
   | false =>
     cases h2 : anyOf mulS s with
     | true =>
       go_enter func165, ntmps165
       go_wp2_with fail
       refine (cisComparing s _).mono ?_; rw [h0]; rintro e w1 ⟨rfl, q0, rfl⟩
       go_wp2_with fail
       refine (cisAdding s _).mono ?_; rw [h1]; rintro e w2 ⟨rfl, q1, rfl⟩
       go_wp2_with fail
       refine (cisMultiplying s _).mono ?_; rw [h2]; rintro e w3 ⟨rfl, q2, rfl⟩
       go_wp2_with fail
       go_ret
       exact ⟨by rw [show binB s = true by simp [binB, h0, h1, h2]]; rfl, below_drewN' (Below.refl _ _) _⟩
     | false =>
       cases h3 : anyOf powS s with
       | true =>
         go_enter func165, ntmps165
         go_wp2_with fail
         refine (cisComparing s _).mono ?_; rw [h0]; rintro e w1 ⟨rfl, q0, rfl⟩
         go_wp2_with fail
         refine (cisAdding s _).mono ?_; rw [h1]; rintro e w2 ⟨rfl, q1, rfl⟩
         go_wp2_with fail
         refine (cisMultiplying s _).mono ?_; rw [h2]; rintro e w3 ⟨rfl, q2, rfl⟩
         go_wp2_with fail
         refine (cisPower s _).mono ?_; rw [h3]; rintro e w4 ⟨rfl, q3, rfl⟩
         go_wp2_with fail
         go_ret
         exact ⟨by rw [show binB s = true by simp [binB, h0, h1, h2, h3]]; rfl, below_drewN' (Below.refl _ _) _⟩
       | false =>
         go_enter func165, ntmps165
         go_wp2_with fail
         refine (cisComparing s _).mono ?_; rw [h0]; rintro e w1 ⟨rfl, q0, rfl⟩
         go_wp2_with fail
         refine (cisAdding s _).mono ?_; rw [h1]; rintro e w2 ⟨rfl, q1, rfl⟩
         go_wp2_with fail
         refine (cisMultiplying s _).mono ?_; rw [h2]; rintro e w3 ⟨rfl, q2, rfl⟩
         go_wp2_with fail
         refine (cisPower s _).mono ?_; rw [h3]; rintro e w4 ⟨rfl, q3, rfl⟩
         go_wp2_with fail
         go_ret
         exact ⟨by rw [show binB s = false by simp [binB, h0, h1, h2, h3]]; rfl, below_drewN' (Below.refl _ _) _⟩
def fnB (s : ByteArray) : Bool := decide (s.size ≤ 8) && match (cutL s.data.toList).toks with
 | [t] => decide (t.k = 3) && decide (t.s = s)
 | _ => false
theorem cisName (s : ByteArray) (w : World) (hl : LexLib w) : Calls prog 166 #[.string s] w fun e w' => e = .returned (.bool (fnB s)) ∧ Below w.heap.size w w' := by
 by_cases h8 : 8 < s.size
 · have E : Hid (fnB s = false) := hid (by unfold fnB; rw [decide_eq_false (by omega)]; rfl)
   go_enter func166, ntmps166
   go_wp2_with fail
   go_ret
   exact ⟨by rw [E.out]; rfl, Below.refl _ _⟩
 · have h9 : s.size ≤ 8 := by omega
   have E : Hid (fnB s = match (cutL s.data.toList).toks with
     | [t] => decide (t.k = 3) && decide (t.s = s)
     | _ => false) := hid (by unfold fnB; rw [decide_eq_true h9]; rfl)
   go_enter func166, ntmps166
   go_wp2_with fail
   refine (LexC.cut s w (by omega) hl).mono ?_; rintro e w2 ⟨v, rfl, hown, hb2⟩
   have ht := tokAt_own hown
   obtain ⟨A, c, rfl, hc⟩ := own_form hown
   clear hown
   generalize (cutL s.data.toList).toks = l at *
   by_cases h1 : l.length = 1
   · obtain ⟨t, rfl⟩ := List.length_eq_one_iff.1 h1
     obtain ⟨A', c', e, hT⟩ := ht.form
     injection e with e1 e2 e3
     subst e1
     obtain ⟨g, rfl, f0, f1, f2, f3⟩ := hT 0 (by simp)
     obtain ⟨tk, tn, ts, ta⟩ := t
     simp only [List.getElem_cons_zero, Nat.zero_mul, Nat.zero_add] at f0 f1 f2 f3
     simp only [List.length_cons, List.length_nil] at *
     clear hT ht
     by_cases hk : tk = 3
     · subst hk
       by_cases he : ts = s
       · subst he
         go_wp2_with fail
         go_ret
         exact ⟨by rw [E.out]; simp, hb2⟩
       · have hne := list_ne he
         go_wp2_with fail
         go_ret
         exact ⟨by rw [E.out]; simp [he, hne], hb2⟩
     · have b3 : (tk == 3) = false := beq_eq_false_iff_ne.2 hk
       go_wp2_with fail
       go_ret
       exact ⟨by rw [E.out]; simp [hk], hb2⟩
   · have b1 : ((l.length : Int) == 1) = false := beq_eq_false_iff_ne.2 (by omega)
     have E2 : Hid (fnB s = false) := hid (by
       rw [E.out]
       match l, h1 with
       | [], _ => rfl
       | [t], h => exact absurd rfl h
       | _ :: _ :: _, _ => rfl)
     clear E ht
     generalize l.length = ll at *
     go_wp2_with fail
     go_ret
     exact ⟨by rw [E2.out]; rfl, hb2⟩
def noVB (f : Fld) : Bool := ValueC.sameB ⟨f.vk, f.vn, f.vs⟩ ⟨0, 0, { data := #[] }⟩
def noRB (f : Fld) : Bool := decide (f.r1 = 0 ∧ f.r2 = 0 ∧ f.r3 = 0 ∧ f.r4 = 0)
def noOB (f : Fld) : Bool := f.op.toList == []
def noTB (f : Fld) : Bool := decide (f.r3 = 0 ∧ f.r4 = 0)
def fitsB (f : Fld) (n : Nat) : Bool :=
 if f.k = 1 then constB f.vk f.vn f.vs && noRB f && noOB f && decide (n = 0)
 else if f.k = 2 then AddrC.cellB f.r1 f.r2 && noTB f && noVB f && noOB f && decide (n = 0)
 else if f.k = 3 then AddrC.fineB f.r1 f.r2 f.r3 f.r4 && noVB f && noOB f && decide (n = 0)
 else if f.k = 4 then decide (n = 1) && noVB f && noRB f && noOB f
 else if f.k = 5 then binB f.op && decide (n = 2) && noVB f && noRB f
 else if f.k = 6 then fnB f.op && decide (n ≤ 10) && noVB f && noRB f
 else false
theorem eqIn_addr (a b a' b' : Int) (W : World) :
   (Op.equalIn 9999 26 (.agg #[.int .i64 a, .int .i64 b]) (.agg #[.int .i64 a', .int .i64 b'])).run prog W = .ok (decide (a = a' ∧ b = b')) W := by
 have hS2 : prog.underlying 26 = some (.struct (prog.fieldsOf 26)) := by kernel_rfl
 have hp2 : prog.stoodInHeld 26 = false := by kernel_rfl
 have a1 := Tryz.isAgg3; have z1 := Tryz.sizeOf3; have u1 := underlying3
 rw [show (9999 : Nat) = 9998 + 1 from rfl, run_equalIn_agg W 9998 26 _ _ hS2 hp2]
 simp only [Program.fieldsOf, underlying26]
 go_simp
 by_cases h1 : a = a' <;> by_cases h2 : b = b' <;> simp [h1, h2]
theorem eq_rect (a b c d a' b' c' d' : Int) (W : World) :
   (binOp .eql 28 (.agg (jR a b c d)) (.agg (jR a' b' c' d'))).run prog W = .ok (.bool (decide (a = a' ∧ b = b' ∧ c = c' ∧ d = d'))) W := by
 have hS : prog.underlying 28 = some (.struct (prog.fieldsOf 28)) := by kernel_rfl
 have hp : prog.stoodInHeld 28 = false := by kernel_rfl
 rw [run_eql_struct, show (10000 : Nat) = 9999 + 1 from rfl, run_equalIn_agg W 9999 28 _ _ hS hp]
 simp only [Program.fieldsOf, underlying28]
 have p0 : ∀ (x y z u : Int) (w : World), (part 26 (jR x y z u) 0).run prog w = .ok (.agg #[.int .i64 x, .int .i64 y]) w := fun _ _ _ _ _ => by kernel_rfl
 have p2 : ∀ (x y z u : Int) (w : World), (part 26 (jR x y z u) 2).run prog w = .ok (.agg #[.int .i64 z, .int .i64 u]) w := fun _ _ _ _ _ => by kernel_rfl
 simp only [Op.eqFields, Sem.run_bind, Sem.run_ite, p0, p2, eqIn_addr, Result.andThen]
 by_cases h1 : a = a' <;> by_cases h2 : b = b' <;> by_cases h3 : c = c' <;> by_cases h4 : d = d' <;> simp [h1, h2, h3, h4]
theorem eq_addr (a b a' b' : Int) (W : World) :
   (binOp .eql 26 (.agg #[.int .i64 a, .int .i64 b]) (.agg #[.int .i64 a', .int .i64 b'])).run prog W = .ok (.bool (decide (a = a' ∧ b = b'))) W := by
 have hS2 : prog.underlying 26 = some (.struct (prog.fieldsOf 26)) := by kernel_rfl
 have hp2 : prog.stoodInHeld 26 = false := by kernel_rfl
 have a1 := Tryz.isAgg3; have z1 := Tryz.sizeOf3; have u1 := underlying3
 rw [run_eql_struct, show (10000 : Nat) = 9999 + 1 from rfl, run_equalIn_agg W 9999 26 _ _ hS2 hp2]
 simp only [Program.fieldsOf, underlying26]
 go_simp
 by_cases h1 : a = a' <;> by_cases h2 : b = b' <;> simp [h1, h2]
theorem cfits1 (f : Fld) (A : Option Addr) (m c : Nat) (w : World) (hm : m ≤ 1000000) (hl : LexLib w) (hk : f.k = 1) :
   Calls prog 138 #[.agg (jN f A m c)] w fun e w' => e = .returned (.bool (fitsB f m)) ∧ Below w.heap.size w w' := by
 have hb1 : Below w.heap.size w (w.alloc (.cells (jN f A m c) 31)) := (Below.refl _ _).alloc (Nat.le_refl _) _
 have L1 : NLoc (w.alloc (.cells (jN f A m c) 31)) w.heap.size f A m c := ⟨heap_alloc_new _ _⟩
 have eV : ∀ W, (binOp .eql 24 (.agg (jV f.vk f.vn f.vs)) (.agg (jV 0 0 { data := #[] }))).run prog W = .ok (.bool (noVB f)) W := fun W => ValueC.eqs _ _ _ _ _ _ W
 have eR : ∀ W, (binOp .eql 28 (.agg (jR f.r1 f.r2 f.r3 f.r4)) (.agg (jR 0 0 0 0))).run prog W = .ok (.bool (noRB f)) W := fun W => eq_rect _ _ _ _ _ _ _ _ W
 have eO : (f.op.toList == []) = noOB f := rfl
 generalize hD : fitsB f m = D
 have HD := hid hD.symm
 clear hD
 have HK := hid hk
 clear hk
 obtain ⟨d0, d1, d2, d3, d4, d5, d6, d7, d8, d9, -⟩ := L1.cells
 go_enter func138, ntmps138
 go_wp2_with fail
 generalize (w.alloc (.cells (jN f A m c) 31)) = W1 at *
 go_quiet (fail)
 have L2 := L1.kept ((Kept.refl W1.heap.size W1).drew nq) (Nat.ne_of_lt L1.lt)
 have HB0 := hid (hb1.trans (below_drewN' (Below.refl _ _) nq))
 clear d0 d1 d2 d3 d4 d5 d6 d7 d8 d9
 obtain ⟨d0, d1, d2, d3, d4, d5, d6, d7, d8, d9, -⟩ := L2.cells
 rw [HK.out] at d0
 generalize W1.drewN nq = W2 at *
 clear eV eR eO
 go_wp2_with fail
 refine (cisConst f.vk f.vn f.vs _).mono ?_; rintro e w2 ⟨rfl, hb2⟩
 have HB1 := hid (HB0.out.trans (hb2.mono HB0.out.size))
 have HE : Hid (D = (constB f.vk f.vn f.vs && noRB f && noOB f && decide (m = 0))) := hid (HD.out.trans (by simp only [fitsB, HK.out]; simp))
 clear HD
 by_cases hm0 : m = 0
 · have e0 : ((m : Int) == 0) = true := beq_iff_eq.2 (by omega)
   cases c0 : constB f.vk f.vn f.vs <;> cases c1 : noRB f <;> cases c2 : noOB f
   all_goals
     go_wp2_with fail
     go_ret
     exact ⟨by rw [HE.out]; simp [hm0, c0, c1, c2], HB1.out⟩
 · have e0 : ((m : Int) == 0) = false := beq_eq_false_iff_ne.2 (by omega)
   cases c0 : constB f.vk f.vn f.vs <;> cases c1 : noRB f <;> cases c2 : noOB f
   all_goals
     go_wp2_with fail
     go_ret
     exact ⟨by rw [HE.out]; simp [hm0, c0, c1, c2], HB1.out⟩
theorem cfits2 (f : Fld) (A : Option Addr) (m c : Nat) (w : World) (hm : m ≤ 1000000) (hl : LexLib w) (hk : f.k = 2) :
   Calls prog 138 #[.agg (jN f A m c)] w fun e w' => e = .returned (.bool (fitsB f m)) ∧ Below w.heap.size w w' := by
 have hb1 : Below w.heap.size w (w.alloc (.cells (jN f A m c) 31)) := (Below.refl _ _).alloc (Nat.le_refl _) _
 have L1 : NLoc (w.alloc (.cells (jN f A m c) 31)) w.heap.size f A m c := ⟨heap_alloc_new _ _⟩
 have eV : ∀ W, (binOp .eql 24 (.agg (jV f.vk f.vn f.vs)) (.agg (jV 0 0 { data := #[] }))).run prog W = .ok (.bool (noVB f)) W := fun W => ValueC.eqs _ _ _ _ _ _ W
 have eR : ∀ W, (binOp .eql 28 (.agg (jR f.r1 f.r2 f.r3 f.r4)) (.agg (jR 0 0 0 0))).run prog W = .ok (.bool (noRB f)) W := fun W => eq_rect _ _ _ _ _ _ _ _ W
 have eO : (f.op.toList == []) = noOB f := rfl
 have eT : ∀ W, (binOp .eql 26 (.agg #[.int .i64 f.r3, .int .i64 f.r4]) (.agg #[.int .i64 0, .int .i64 0])).run prog W = .ok (.bool (noTB f)) W := fun W => eq_addr _ _ _ _ W
 generalize hD : fitsB f m = D
 have HD := hid hD.symm
 clear hD
 have HK := hid hk
 clear hk
 obtain ⟨d0, d1, d2, d3, d4, d5, d6, d7, d8, d9, -⟩ := L1.cells
 go_enter func138, ntmps138
 go_wp2_with fail
 generalize (w.alloc (.cells (jN f A m c) 31)) = W1 at *
 go_quiet (fail)
 have L2 := L1.kept ((Kept.refl W1.heap.size W1).drew nq) (Nat.ne_of_lt L1.lt)
 have HB0 := hid (hb1.trans (below_drewN' (Below.refl _ _) nq))
 clear d0 d1 d2 d3 d4 d5 d6 d7 d8 d9
 obtain ⟨d0, d1, d2, d3, d4, d5, d6, d7, d8, d9, -⟩ := L2.cells
 rw [HK.out] at d0
 generalize W1.drewN nq = W2 at *
 clear eV eR eO
 go_wp2_with fail
 refine (AddrC.good f.r1 f.r2 _).mono ?_; rintro e w2 ⟨rfl, hb2⟩
 have L3 := L2.kept (Kept.of (x := W2.heap.size) hb2) (Nat.ne_of_lt L2.lt)
 clear d0 d1 d2 d3 d4 d5 d6 d7 d8 d9
 obtain ⟨d0, d1, d2, d3, d4, d5, d6, d7, d8, d9, -⟩ := L3.cells
 have HB1 := hid (HB0.out.trans (hb2.mono HB0.out.size))
 have HE : Hid (D = (AddrC.cellB f.r1 f.r2 && noTB f && noVB f && noOB f && decide (m = 0))) := hid (HD.out.trans (by simp only [fitsB, HK.out]; simp))
 clear HD
 by_cases hm0 : m = 0
 · have e0 : ((m : Int) == 0) = true := beq_iff_eq.2 (by omega)
   cases c0 : AddrC.cellB f.r1 f.r2 <;> cases c1 : noTB f <;> cases c2 : noVB f <;> cases c3 : noOB f
   all_goals
     go_wp2_with fail
     go_ret
     exact ⟨by rw [HE.out]; simp [hm0, c0, c1, c2, c3], HB1.out⟩
 · have e0 : ((m : Int) == 0) = false := beq_eq_false_iff_ne.2 (by omega)
   cases c0 : AddrC.cellB f.r1 f.r2 <;> cases c1 : noTB f <;> cases c2 : noVB f <;> cases c3 : noOB f
   all_goals
     go_wp2_with fail
     go_ret
     exact ⟨by rw [HE.out]; simp [hm0, c0, c1, c2, c3], HB1.out⟩
theorem cfits3 (f : Fld) (A : Option Addr) (m c : Nat) (w : World) (hm : m ≤ 1000000) (hl : LexLib w) (hk : f.k = 3) :
   Calls prog 138 #[.agg (jN f A m c)] w fun e w' => e = .returned (.bool (fitsB f m)) ∧ Below w.heap.size w w' := by
 have hb1 : Below w.heap.size w (w.alloc (.cells (jN f A m c) 31)) := (Below.refl _ _).alloc (Nat.le_refl _) _
 have L1 : NLoc (w.alloc (.cells (jN f A m c) 31)) w.heap.size f A m c := ⟨heap_alloc_new _ _⟩
 have eV : ∀ W, (binOp .eql 24 (.agg (jV f.vk f.vn f.vs)) (.agg (jV 0 0 { data := #[] }))).run prog W = .ok (.bool (noVB f)) W := fun W => ValueC.eqs _ _ _ _ _ _ W
 have eR : ∀ W, (binOp .eql 28 (.agg (jR f.r1 f.r2 f.r3 f.r4)) (.agg (jR 0 0 0 0))).run prog W = .ok (.bool (noRB f)) W := fun W => eq_rect _ _ _ _ _ _ _ _ W
 have eO : (f.op.toList == []) = noOB f := rfl
 generalize hD : fitsB f m = D
 have HD := hid hD.symm
 clear hD
 have HK := hid hk
 clear hk
 obtain ⟨d0, d1, d2, d3, d4, d5, d6, d7, d8, d9, -⟩ := L1.cells
 go_enter func138, ntmps138
 go_wp2_with fail
 generalize (w.alloc (.cells (jN f A m c) 31)) = W1 at *
 go_quiet (fail)
 have L2 := L1.kept ((Kept.refl W1.heap.size W1).drew nq) (Nat.ne_of_lt L1.lt)
 have HB0 := hid (hb1.trans (below_drewN' (Below.refl _ _) nq))
 clear d0 d1 d2 d3 d4 d5 d6 d7 d8 d9
 obtain ⟨d0, d1, d2, d3, d4, d5, d6, d7, d8, d9, -⟩ := L2.cells
 rw [HK.out] at d0
 generalize W1.drewN nq = W2 at *
 clear eV eR eO
 go_wp2_with fail
 refine (AddrC.fine f.r1 f.r2 f.r3 f.r4 _).mono ?_; rintro e w2 ⟨rfl, hb2⟩
 have HB1 := hid (HB0.out.trans (hb2.mono HB0.out.size))
 have HE : Hid (D = (AddrC.fineB f.r1 f.r2 f.r3 f.r4 && noVB f && noOB f && decide (m = 0))) := hid (HD.out.trans (by simp only [fitsB, HK.out]; simp))
 clear HD
 by_cases hm0 : m = 0
 · have e0 : ((m : Int) == 0) = true := beq_iff_eq.2 (by omega)
   cases c0 : AddrC.fineB f.r1 f.r2 f.r3 f.r4 <;> cases c1 : noVB f <;> cases c2 : noOB f
   all_goals
     go_wp2_with fail
     go_ret
     exact ⟨by rw [HE.out]; simp [hm0, c0, c1, c2], HB1.out⟩
 · have e0 : ((m : Int) == 0) = false := beq_eq_false_iff_ne.2 (by omega)
   cases c0 : AddrC.fineB f.r1 f.r2 f.r3 f.r4 <;> cases c1 : noVB f <;> cases c2 : noOB f
   all_goals
     go_wp2_with fail
     go_ret
     exact ⟨by rw [HE.out]; simp [hm0, c0, c1, c2], HB1.out⟩
theorem cfits4 (f : Fld) (A : Option Addr) (m c : Nat) (w : World) (hm : m ≤ 1000000) (hl : LexLib w) (hk : f.k = 4) :
   Calls prog 138 #[.agg (jN f A m c)] w fun e w' => e = .returned (.bool (fitsB f m)) ∧ Below w.heap.size w w' := by
 have hb1 : Below w.heap.size w (w.alloc (.cells (jN f A m c) 31)) := (Below.refl _ _).alloc (Nat.le_refl _) _
 have L1 : NLoc (w.alloc (.cells (jN f A m c) 31)) w.heap.size f A m c := ⟨heap_alloc_new _ _⟩
 have eV : ∀ W, (binOp .eql 24 (.agg (jV f.vk f.vn f.vs)) (.agg (jV 0 0 { data := #[] }))).run prog W = .ok (.bool (noVB f)) W := fun W => ValueC.eqs _ _ _ _ _ _ W
 have eR : ∀ W, (binOp .eql 28 (.agg (jR f.r1 f.r2 f.r3 f.r4)) (.agg (jR 0 0 0 0))).run prog W = .ok (.bool (noRB f)) W := fun W => eq_rect _ _ _ _ _ _ _ _ W
 have eO : (f.op.toList == []) = noOB f := rfl
 generalize hD : fitsB f m = D
 have HD := hid hD.symm
 clear hD
 have HK := hid hk
 clear hk
 obtain ⟨d0, d1, d2, d3, d4, d5, d6, d7, d8, d9, -⟩ := L1.cells
 go_enter func138, ntmps138
 go_wp2_with fail
 generalize (w.alloc (.cells (jN f A m c) 31)) = W1 at *
 go_quiet (fail)
 have L2 := L1.kept ((Kept.refl W1.heap.size W1).drew nq) (Nat.ne_of_lt L1.lt)
 have HB0 := hid (hb1.trans (below_drewN' (Below.refl _ _) nq))
 clear d0 d1 d2 d3 d4 d5 d6 d7 d8 d9
 obtain ⟨d0, d1, d2, d3, d4, d5, d6, d7, d8, d9, -⟩ := L2.cells
 rw [HK.out] at d0
 generalize W1.drewN nq = W2 at *
 clear eV eR eO
 have HE : Hid (D = (decide (m = 1) && noVB f && noRB f && noOB f)) := hid (HD.out.trans (by simp only [fitsB, HK.out]; simp))
 clear HD
 by_cases hm0 : m = 1
 · have e0 : ((m : Int) == 1) = true := beq_iff_eq.2 (by omega)
   cases c0 : noVB f <;> cases c1 : noRB f <;> cases c2 : noOB f
   all_goals
     go_wp2_with fail
     go_ret
     exact ⟨by rw [HE.out]; simp [hm0, c0, c1, c2], HB0.out⟩
 · have e0 : ((m : Int) == 1) = false := beq_eq_false_iff_ne.2 (by omega)
   cases c0 : noVB f <;> cases c1 : noRB f <;> cases c2 : noOB f
   all_goals
     go_wp2_with fail
     go_ret
     exact ⟨by rw [HE.out]; simp [hm0, c0, c1, c2], HB0.out⟩
theorem cfits5 (f : Fld) (A : Option Addr) (m c : Nat) (w : World) (hm : m ≤ 1000000) (hl : LexLib w) (hk : f.k = 5) :
   Calls prog 138 #[.agg (jN f A m c)] w fun e w' => e = .returned (.bool (fitsB f m)) ∧ Below w.heap.size w w' := by
 have hb1 : Below w.heap.size w (w.alloc (.cells (jN f A m c) 31)) := (Below.refl _ _).alloc (Nat.le_refl _) _
 have L1 : NLoc (w.alloc (.cells (jN f A m c) 31)) w.heap.size f A m c := ⟨heap_alloc_new _ _⟩
 have eV : ∀ W, (binOp .eql 24 (.agg (jV f.vk f.vn f.vs)) (.agg (jV 0 0 { data := #[] }))).run prog W = .ok (.bool (noVB f)) W := fun W => ValueC.eqs _ _ _ _ _ _ W
 have eR : ∀ W, (binOp .eql 28 (.agg (jR f.r1 f.r2 f.r3 f.r4)) (.agg (jR 0 0 0 0))).run prog W = .ok (.bool (noRB f)) W := fun W => eq_rect _ _ _ _ _ _ _ _ W
 have eO : (f.op.toList == []) = noOB f := rfl
 generalize hD : fitsB f m = D
 have HD := hid hD.symm
 clear hD
 have HK := hid hk
 clear hk
 obtain ⟨d0, d1, d2, d3, d4, d5, d6, d7, d8, d9, -⟩ := L1.cells
 go_enter func138, ntmps138
 go_wp2_with fail
 generalize (w.alloc (.cells (jN f A m c) 31)) = W1 at *
 go_quiet (fail)
 have L2 := L1.kept ((Kept.refl W1.heap.size W1).drew nq) (Nat.ne_of_lt L1.lt)
 have HB0 := hid (hb1.trans (below_drewN' (Below.refl _ _) nq))
 clear d0 d1 d2 d3 d4 d5 d6 d7 d8 d9
 obtain ⟨d0, d1, d2, d3, d4, d5, d6, d7, d8, d9, -⟩ := L2.cells
 rw [HK.out] at d0
 generalize W1.drewN nq = W2 at *
 clear eV eR eO
 go_wp2_with fail
 refine (cisBinary f.op _).mono ?_; rintro e w2 ⟨rfl, hb2⟩
 have HB1 := hid (HB0.out.trans (hb2.mono HB0.out.size))
 have HE : Hid (D = (binB f.op && decide (m = 2) && noVB f && noRB f)) := hid (HD.out.trans (by simp only [fitsB, HK.out]; simp))
 clear HD
 by_cases hm0 : m = 2
 · have e0 : ((m : Int) == 2) = true := beq_iff_eq.2 (by omega)
   cases c0 : binB f.op <;> cases c1 : noVB f <;> cases c2 : noRB f
   all_goals
     go_wp2_with fail
     go_ret
     exact ⟨by rw [HE.out]; simp [hm0, c0, c1, c2], HB1.out⟩
 · have e0 : ((m : Int) == 2) = false := beq_eq_false_iff_ne.2 (by omega)
   cases c0 : binB f.op <;> cases c1 : noVB f <;> cases c2 : noRB f
   all_goals
     go_wp2_with fail
     go_ret
     exact ⟨by rw [HE.out]; simp [hm0, c0, c1, c2], HB1.out⟩
theorem cfits6 (f : Fld) (A : Option Addr) (m c : Nat) (w : World) (hm : m ≤ 1000000) (hl : LexLib w) (hk : f.k = 6) :
   Calls prog 138 #[.agg (jN f A m c)] w fun e w' => e = .returned (.bool (fitsB f m)) ∧ Below w.heap.size w w' := by
 have hb1 : Below w.heap.size w (w.alloc (.cells (jN f A m c) 31)) := (Below.refl _ _).alloc (Nat.le_refl _) _
 have L1 : NLoc (w.alloc (.cells (jN f A m c) 31)) w.heap.size f A m c := ⟨heap_alloc_new _ _⟩
 have eV : ∀ W, (binOp .eql 24 (.agg (jV f.vk f.vn f.vs)) (.agg (jV 0 0 { data := #[] }))).run prog W = .ok (.bool (noVB f)) W := fun W => ValueC.eqs _ _ _ _ _ _ W
 have eR : ∀ W, (binOp .eql 28 (.agg (jR f.r1 f.r2 f.r3 f.r4)) (.agg (jR 0 0 0 0))).run prog W = .ok (.bool (noRB f)) W := fun W => eq_rect _ _ _ _ _ _ _ _ W
 have eO : (f.op.toList == []) = noOB f := rfl
 generalize hD : fitsB f m = D
 have HD := hid hD.symm
 clear hD
 have HK := hid hk
 clear hk
 obtain ⟨d0, d1, d2, d3, d4, d5, d6, d7, d8, d9, -⟩ := L1.cells
 go_enter func138, ntmps138
 go_wp2_with fail
 generalize (w.alloc (.cells (jN f A m c) 31)) = W1 at *
 go_quiet (fail)
 have L2 := L1.kept ((Kept.refl W1.heap.size W1).drew nq) (Nat.ne_of_lt L1.lt)
 have HB0 := hid (hb1.trans (below_drewN' (Below.refl _ _) nq))
 clear d0 d1 d2 d3 d4 d5 d6 d7 d8 d9
 obtain ⟨d0, d1, d2, d3, d4, d5, d6, d7, d8, d9, -⟩ := L2.cells
 rw [HK.out] at d0
 generalize W1.drewN nq = W2 at *
 clear eV eR eO
 go_wp2_with fail
 refine (cisName f.op _ (hl.below HB0.out)).mono ?_; rintro e w2 ⟨rfl, hb2⟩
 have HB1 := hid (HB0.out.trans (hb2.mono HB0.out.size))
 have HE : Hid (D = (fnB f.op && decide (m ≤ 10) && noVB f && noRB f)) := hid (HD.out.trans (by simp only [fitsB, HK.out]; simp))
 clear HD
 by_cases hm0 : m ≤ 10
 · have e0 : (m : Int) ≤ 10 := by omega
   cases c0 : fnB f.op <;> cases c1 : noVB f <;> cases c2 : noRB f
   all_goals
     go_wp2_with fail
     go_ret
     exact ⟨by rw [HE.out]; simp [hm0, c0, c1, c2], HB1.out⟩
 · have e0 : ¬ (m : Int) ≤ 10 := by omega
   cases c0 : fnB f.op <;> cases c1 : noVB f <;> cases c2 : noRB f
   all_goals
     go_wp2_with fail
     go_ret
     exact ⟨by rw [HE.out]; simp [hm0, c0, c1, c2], HB1.out⟩
theorem cfits0 (f : Fld) (A : Option Addr) (m c : Nat) (w : World) (hm : m ≤ 1000000) (hl : LexLib w) (h1 : f.k ≠ 1) (h2 : f.k ≠ 2) (h3 : f.k ≠ 3) (h4 : f.k ≠ 4) (h5 : f.k ≠ 5) (h6 : f.k ≠ 6) :
   Calls prog 138 #[.agg (jN f A m c)] w fun e w' => e = .returned (.bool (fitsB f m)) ∧ Below w.heap.size w w' := by
 have hb1 : Below w.heap.size w (w.alloc (.cells (jN f A m c) 31)) := (Below.refl _ _).alloc (Nat.le_refl _) _
 have L1 : NLoc (w.alloc (.cells (jN f A m c) 31)) w.heap.size f A m c := ⟨heap_alloc_new _ _⟩
 have eV : ∀ W, (binOp .eql 24 (.agg (jV f.vk f.vn f.vs)) (.agg (jV 0 0 { data := #[] }))).run prog W = .ok (.bool (noVB f)) W := fun W => ValueC.eqs _ _ _ _ _ _ W
 have eR : ∀ W, (binOp .eql 28 (.agg (jR f.r1 f.r2 f.r3 f.r4)) (.agg (jR 0 0 0 0))).run prog W = .ok (.bool (noRB f)) W := fun W => eq_rect _ _ _ _ _ _ _ _ W
 have eO : (f.op.toList == []) = noOB f := rfl
 generalize hD : fitsB f m = D
 have HD := hid hD.symm
 clear hD
 have HK := hid (And.intro h1 (And.intro h2 (And.intro h3 (And.intro h4 (And.intro h5 h6)))))
 clear h1 h2 h3 h4 h5 h6
 obtain ⟨d0, d1, d2, d3, d4, d5, d6, d7, d8, d9, -⟩ := L1.cells
 go_enter func138, ntmps138
 go_wp2_with fail
 generalize (w.alloc (.cells (jN f A m c) 31)) = W1 at *
 go_quiet (fail)
 have L2 := L1.kept ((Kept.refl W1.heap.size W1).drew nq) (Nat.ne_of_lt L1.lt)
 have HB0 := hid (hb1.trans (below_drewN' (Below.refl _ _) nq))
 clear d0 d1 d2 d3 d4 d5 d6 d7 d8 d9
 obtain ⟨d0, d1, d2, d3, d4, d5, d6, d7, d8, d9, -⟩ := L2.cells
 have b1 : (f.k == 1) = false := beq_eq_false_iff_ne.2 HK.out.1
 have b2 : (f.k == 2) = false := beq_eq_false_iff_ne.2 HK.out.2.1
 have b3 : (f.k == 3) = false := beq_eq_false_iff_ne.2 HK.out.2.2.1
 have b4 : (f.k == 4) = false := beq_eq_false_iff_ne.2 HK.out.2.2.2.1
 have b5 : (f.k == 5) = false := beq_eq_false_iff_ne.2 HK.out.2.2.2.2.1
 have b6 : (f.k == 6) = false := beq_eq_false_iff_ne.2 HK.out.2.2.2.2.2
 generalize W1.drewN nq = W2 at *
 clear eV eR eO
 have HE : Hid (D = false) := hid (HD.out.trans (by simp [fitsB, HK.out.1, HK.out.2.1, HK.out.2.2.1, HK.out.2.2.2.1, HK.out.2.2.2.2.1, HK.out.2.2.2.2.2]))
 go_wp2_with fail
 go_ret
 exact ⟨by rw [HE.out]; rfl, HB0.out⟩
theorem fits_all : Fits fitsB := fun f A m c w hm hl => by
 by_cases h1 : f.k = 1
 · exact cfits1 f A m c w hm hl h1
 by_cases h2 : f.k = 2
 · exact cfits2 f A m c w hm hl h2
 by_cases h3 : f.k = 3
 · exact cfits3 f A m c w hm hl h3
 by_cases h4 : f.k = 4
 · exact cfits4 f A m c w hm hl h4
 by_cases h5 : f.k = 5
 · exact cfits5 f A m c w hm hl h5
 by_cases h6 : f.k = 6
 · exact cfits6 f A m c w hm hl h6
 exact cfits0 f A m c w hm hl h1 h2 h3 h4 h5 h6
end Go.Proofs.YticehalcnbjccaaGreatDoor.TreeC
namespace Go.Proofs.YticehalcnbjccaaGreatDoor.TreeC
set_option maxRecDepth 100000
set_option maxHeartbeats 8000000
set_option linter.unusedVariables false
open NumC LexC
structure NameL (s : List UInt8) : Prop where
 head : ∃ c r, s = c :: r ∧ letB c = true
 all : ∀ c ∈ s, wordB c = true
 up : upL s = s
theorem let_up {c : UInt8} (h : letB c = true) : letB (upC c) = true := by
 by_cases h2 : 97 ≤ c.toNat ∧ c.toNat ≤ 122
 · rw [upC_up h2]; exact letB_iff.2 (Or.inr (by rw [sub32 h2.1]; omega))
 · rw [upC_no h2]; exact h
theorem dig_up {c : UInt8} (h : digB c = true) : upC c = c := upC_no (by have := digB_iff.1 h; omega)
theorem word_up {c : UInt8} (h : wordB c = true) : wordB (upC c) = true := by
 unfold wordB at h ⊢
 cases hl : letB c with
 | true => rw [let_up hl]; rfl
 | false => rw [hl] at h; rw [dig_up (by simpa using h)]; rw [hl]; exact h
theorem let_dig {c : UInt8} (h : letB c = true) : digB c = false := by
 cases hd : digB c with
 | false => rfl
 | true => have := letB_iff.1 h; have := digB_iff.1 hd; omega
theorem take_mem {p : UInt8 → Bool} : ∀ (l : List UInt8), ∀ c ∈ l.takeWhile p, p c = true
 | [], c, h => by cases h
 | a :: l, c, h => by
   rw [List.takeWhile_cons] at h
   split at h
   · rename_i ha
     rcases List.mem_cons.1 h with rfl | h
     · exact ha
     · exact take_mem l c h
   · cases h
theorem take_all {p : UInt8 → Bool} : ∀ (l : List UInt8), (∀ c ∈ l, p c = true) → l.takeWhile p = l
 | [], _ => rfl
 | a :: l, h => by rw [List.takeWhile_cons, if_pos (h a (List.mem_cons_self ..)), take_all l (fun c hc => h c (List.mem_cons_of_mem _ hc))]
theorem nameL_of {c : UInt8} {l : List UInt8} (h : letB c = true) : NameL (upL ((c :: l).takeWhile wordB)) := by
 have hw : wordB c = true := by unfold wordB; rw [h]; rfl
 refine ⟨⟨upC c, upL (l.takeWhile wordB), ?_, let_up h⟩, fun x hx => ?_, upL_idem _⟩
 · rw [List.takeWhile_cons, if_pos hw]; rfl
 · obtain ⟨y, hy, rfl⟩ := List.mem_map.1 hx
   exact word_up (take_mem _ y hy)
def TokOK (t : Tok) : Prop := (t.k = 1 → 0 ≤ t.n) ∧ (t.k = 3 → ∃ s, t.s = str s ∧ NameL s)
theorem next_ok {c : UInt8} {l : List UInt8} {k n : Int} {s : List UInt8} {m : Nat} (i : Int) (h : nextL (c :: l) = some (k, n, s, m)) : TokOK ⟨k, n, str s, i⟩ := by
 rw [nextL_cons, tokL] at h
 split at h
 · split at h
   · injection h with h; injection h with h1 h; injection h with h2 h; injection h with h3 h4
     exact ⟨fun _ => by show 0 ≤ n; rw [← h2]; omega, fun e => by have : k = 3 := e; omega⟩
   · cases h
 · split at h
   · rename_i hl
     injection h with h; injection h with h1 h; injection h with h2 h; injection h with h3 h4
     exact ⟨fun e => by have : k = 1 := e; omega, fun _ => ⟨s, rfl, by rw [← h3]; exact nameL_of hl⟩⟩
   · split at h
     · obtain ⟨r, hr, e⟩ := Option.map_eq_some_iff.1 h
       injection e with h1 e
       exact ⟨fun e => by have : k = 1 := e; omega, fun e => by have : k = 3 := e; omega⟩
     · have : k = 4 := by
         unfold signT at h
         split at h
         · split at h
           · injection h with h; injection h with h1 h; omega
           · split at h
             · injection h with h; injection h with h1 h; omega
             · cases h
         · split at h
           · injection h with h; injection h with h1 h; omega
           · cases h
       exact ⟨fun e => by have : k = 1 := e; omega, fun e => by have : k = 3 := e; omega⟩
theorem cutF_ok : ∀ (f : Nat) (l : List UInt8) (i : Nat) (acc : List Tok), (∀ t ∈ acc, TokOK t) → ∀ t ∈ (cutF f l i acc).toks, TokOK t := by
 intro f
 induction f with
 | zero => intro l i acc h; simpa only [cutF] using h
 | succ f ih =>
   intro l i acc h
   cases l with
   | nil => simpa only [cutF] using h
   | cons c l =>
     unfold cutF
     split
     · exact ih _ _ _ h
     · split
       · intro t ht; cases ht
       · rename_i k n s m hn
         refine ih _ _ _ (fun t ht => ?_)
         rcases List.mem_append.1 ht with ht | ht
         · exact h t ht
         · obtain rfl : t = ⟨k, n, str s, i⟩ := by simpa using ht
           exact next_ok _ hn
theorem cut_ok (s : List UInt8) : ∀ t ∈ (cutL s).toks, TokOK t := by
 unfold cutL
 split
 · intro t ht; cases ht
 · exact cutF_ok _ _ _ _ (fun t ht => by cases ht)
theorem name_cut {s : List UInt8} (h : NameL s) (hl : s.length ≤ 300) : cutL s = ⟨[⟨3, 0, str s, 0⟩], 0, 0⟩ := by
 obtain ⟨c, r, rfl, hc⟩ := h.head
 have ht : (c :: r).takeWhile wordB = c :: r := take_all _ h.all
 have hn : nextL (c :: r) = some (3, 0, c :: r, (c :: r).length) := by
   rw [nextL_cons, tokL, if_neg (by rw [let_dig hc]; decide), if_pos hc, ht, h.up]
 have hb : c ≠ 32 := by rintro rfl; revert hc; decide
 unfold cutL
 rw [if_neg (by omega), cutF, if_neg hb, hn]
 simp only [List.drop_length, cutF_nil]
 rfl
theorem fn_ok {t : Tok} (h : TokOK t) (hk : t.k = 3) (h8 : t.s.size ≤ 8) : fnB t.s = true := by
 obtain ⟨s, e, hn⟩ := h.2 hk
 have hl : s.length ≤ 300 := by rw [e] at h8; simp [str, ByteArray.size] at h8; omega
 have hd : t.s.data.toList = s := by rw [e]; simp [str]
 unfold fnB
 rw [hd, name_cut hn hl, decide_eq_true h8]
 simp [e]
section
variable {l : List Tok} {n : Int} {L : Lev} {into : Bool} {k k' k'' : Nat} {a b : Nd} {e : Bad} {t : Tok} {op : List UInt8}
def Ft (f : Nat → Out) : Prop := ∀ k a k', f k = .ok (a, k') → a.all fitsB = true
theorem one_all (p : Fld → Nat → Bool) (a : Nd) : a.one.all p = a.all p := by simp [Nd.one, Fo.all, Nd.all]
theorem app_all (p : Fld → Nat → Bool) (x y : Fo) : (x.app y).all p = (x.all p && y.all p) := by
 induction x with
 | nil => simp [Fo.app, Fo.all]
 | cons f k n _ ih => simp only [Fo.app, Fo.all, ih]; cases k.all p <;> cases p f k.len <;> simp
theorem f_v (k r1 r2 r3 r4 : Int) (o : ByteArray) : noVB ⟨k, 0, 0, nob, r1, r2, r3, r4, o⟩ = true := decide_eq_true (p := (⟨0, 0, nob⟩ : ValueC.Val) = ⟨0, 0, { data := #[] }⟩) rfl
theorem f_r (k vk vn : Int) (vs o : ByteArray) : noRB ⟨k, vk, vn, vs, 0, 0, 0, 0, o⟩ = true := decide_eq_true ⟨rfl, rfl, rfl, rfl⟩
theorem nob_nil : (nob.toList == ([] : List UInt8)) = true := by decide +kernel
theorem f_o (k vk vn r1 r2 r3 r4 : Int) (vs : ByteArray) : noOB ⟨k, vk, vn, vs, r1, r2, r3, r4, nob⟩ = true := nob_nil
theorem f_t (k vk vn r1 r2 : Int) (vs o : ByteArray) : noTB ⟨k, vk, vn, vs, r1, r2, 0, 0, o⟩ = true := decide_eq_true ⟨rfl, rfl⟩
theorem fits_1 {vk vn : Int} {vs : ByteArray} (h : constB vk vn vs = true) : fitsB ⟨1, vk, vn, vs, 0, 0, 0, 0, nob⟩ 0 = true := by
 have e : fitsB ⟨1, vk, vn, vs, 0, 0, 0, 0, nob⟩ 0 = (constB vk vn vs && noRB ⟨1, vk, vn, vs, 0, 0, 0, 0, nob⟩ && noOB ⟨1, vk, vn, vs, 0, 0, 0, 0, nob⟩ && decide ((0 : Nat) = 0)) := by
   unfold fitsB; rw [if_pos (show (1 : Int) = 1 from rfl)]
 rw [e, h, f_r, f_o]; rfl
theorem fits_2 {r c : Int} (h : AddrC.cellB r c = true) : fitsB ⟨2, 0, 0, nob, r, c, 0, 0, nob⟩ 0 = true := by
 have e : fitsB ⟨2, 0, 0, nob, r, c, 0, 0, nob⟩ 0 = (AddrC.cellB r c && noTB ⟨2, 0, 0, nob, r, c, 0, 0, nob⟩ && noVB ⟨2, 0, 0, nob, r, c, 0, 0, nob⟩ && noOB ⟨2, 0, 0, nob, r, c, 0, 0, nob⟩ && decide ((0 : Nat) = 0)) := by
   unfold fitsB; rw [if_neg (show ¬ (2 : Int) = 1 by decide), if_pos (show (2 : Int) = 2 from rfl)]
 rw [e, h, f_t, f_v, f_o]; rfl
theorem fits_3 {a b c d : Int} (h : AddrC.fineB a b c d = true) : fitsB ⟨3, 0, 0, nob, a, b, c, d, nob⟩ 0 = true := by
 have e : fitsB ⟨3, 0, 0, nob, a, b, c, d, nob⟩ 0 = (AddrC.fineB a b c d && noVB ⟨3, 0, 0, nob, a, b, c, d, nob⟩ && noOB ⟨3, 0, 0, nob, a, b, c, d, nob⟩ && decide ((0 : Nat) = 0)) := by
   unfold fitsB; rw [if_neg (show ¬ (3 : Int) = 1 by decide), if_neg (show ¬ (3 : Int) = 2 by decide), if_pos (show (3 : Int) = 3 from rfl)]
 rw [e, h, f_v, f_o]; rfl
theorem fits_4 : fitsB ⟨4, 0, 0, nob, 0, 0, 0, 0, nob⟩ 1 = true := by
 have e : fitsB ⟨4, 0, 0, nob, 0, 0, 0, 0, nob⟩ 1 = (decide ((1 : Nat) = 1) && noVB ⟨4, 0, 0, nob, 0, 0, 0, 0, nob⟩ && noRB ⟨4, 0, 0, nob, 0, 0, 0, 0, nob⟩ && noOB ⟨4, 0, 0, nob, 0, 0, 0, 0, nob⟩) := by
   unfold fitsB; rw [if_neg (show ¬ (4 : Int) = 1 by decide), if_neg (show ¬ (4 : Int) = 2 by decide), if_neg (show ¬ (4 : Int) = 3 by decide), if_pos (show (4 : Int) = 4 from rfl)]
 rw [e, f_v, f_r, f_o]; rfl
theorem fits_5 {o : ByteArray} (h : binB o = true) : fitsB ⟨5, 0, 0, nob, 0, 0, 0, 0, o⟩ 2 = true := by
 have e : fitsB ⟨5, 0, 0, nob, 0, 0, 0, 0, o⟩ 2 = (binB o && decide ((2 : Nat) = 2) && noVB ⟨5, 0, 0, nob, 0, 0, 0, 0, o⟩ && noRB ⟨5, 0, 0, nob, 0, 0, 0, 0, o⟩) := by
   unfold fitsB; rw [if_neg (show ¬ (5 : Int) = 1 by decide), if_neg (show ¬ (5 : Int) = 2 by decide), if_neg (show ¬ (5 : Int) = 3 by decide), if_neg (show ¬ (5 : Int) = 4 by decide), if_pos (show (5 : Int) = 5 from rfl)]
 rw [e, h, f_v, f_r]; rfl
theorem fits_6 {o : ByteArray} {m : Nat} (h : fnB o = true) (hm : m ≤ 10) : fitsB ⟨6, 0, 0, nob, 0, 0, 0, 0, o⟩ m = true := by
 have e : fitsB ⟨6, 0, 0, nob, 0, 0, 0, 0, o⟩ m = (fnB o && decide (m ≤ 10) && noVB ⟨6, 0, 0, nob, 0, 0, 0, 0, o⟩ && noRB ⟨6, 0, 0, nob, 0, 0, 0, 0, o⟩) := by
   unfold fitsB; rw [if_neg (show ¬ (6 : Int) = 1 by decide), if_neg (show ¬ (6 : Int) = 2 by decide), if_neg (show ¬ (6 : Int) = 3 by decide), if_neg (show ¬ (6 : Int) = 4 by decide), if_neg (show ¬ (6 : Int) = 5 by decide), if_pos (show (6 : Int) = 6 from rfl)]
 rw [e, h, f_v, f_r, decide_eq_true hm]; rfl
theorem leaf_all {f : Fld} (h : fitsB f 0 = true) : (Nd.mk f .nil).all fitsB = true := by
 show (true && fitsB f 0) = true
 rw [h]; rfl
theorem neg_all (h : a.all fitsB = true) : (negN a).all fitsB = true := by
 show ((a.one).all fitsB && fitsB ⟨4, 0, 0, nob, 0, 0, 0, 0, nob⟩ a.one.len) = true
 rw [one_all, h, Nd.one_len, fits_4]; rfl
theorem pair_all (ho : binB (str op) = true) (h : a.all fitsB = true) (g : b.all fitsB = true) : (pairN op a b).all fitsB = true := by
 show ((a.one.app b.one).all fitsB && fitsB ⟨5, 0, 0, nob, 0, 0, 0, 0, str op⟩ (a.one.app b.one).len) = true
 rw [app_all, one_all, one_all, h, g, Fo.len_app, Nd.one_len, Nd.one_len, fits_5 ho]; rfl
theorem call_all {x : Fo} (ho : fnB t.s = true) (hn : x.len ≤ 10) (h : x.all fitsB = true) : (callN t.s x).all fitsB = true := by
 show (x.all fitsB && fitsB ⟨6, 0, 0, nob, 0, 0, 0, 0, t.s⟩ x.len) = true
 rw [h, fits_6 ho hn]; rfl
theorem num_all (h : 0 ≤ t.n) : (constN 2 t.n nob).all fitsB = true := leaf_all (fits_1 (by
 unfold constB
 rw [if_pos rfl, decide_eq_true h, ValueC.goodB_t (Or.inr (Or.inr (Or.inl ⟨rfl, rfl⟩)))]; rfl))
theorem text_all {s : ByteArray} (h : s.size ≤ 200) : (constN 3 0 s).all fitsB = true := leaf_all (fits_1 (by
 unfold constB
 rw [if_neg (by decide), if_pos (Or.inl rfl)]
 exact ValueC.goodB_t (Or.inr (Or.inr (Or.inr (Or.inl ⟨rfl, rfl, h⟩))))))
theorem truth_all : (constN 1 1 nob).all fitsB = true ∧ (constN 1 0 nob).all fitsB = true :=
 ⟨leaf_all (fits_1 (by unfold constB; rw [if_neg (by decide), if_pos (Or.inr rfl)]; exact ValueC.goodB_t (Or.inr (Or.inl ⟨rfl, Or.inr rfl, rfl⟩)))),
  leaf_all (fits_1 (by unfold constB; rw [if_neg (by decide), if_pos (Or.inr rfl)]; exact ValueC.goodB_t (Or.inr (Or.inl ⟨rfl, Or.inl rfl, rfl⟩))))⟩
theorem cell_all {s : List UInt8} (h : AddrC.pOK s = true) : (cellN (AddrC.pR s) (AddrC.pC s)).all fitsB = true := leaf_all (fits_2 (AddrC.cellB_t (AddrC.p_is h).1))
theorem range_all {s u : List UInt8} (h : AddrC.pOK s = true) (g : AddrC.pOK u = true) :
   (rangeN (AddrC.mA (AddrC.pR s) (AddrC.pC s) (AddrC.pR u) (AddrC.pC u)) (AddrC.mB (AddrC.pR s) (AddrC.pC s) (AddrC.pR u) (AddrC.pC u)) (AddrC.mC (AddrC.pR s) (AddrC.pC s) (AddrC.pR u) (AddrC.pC u)) (AddrC.mD (AddrC.pR s) (AddrC.pC s) (AddrC.pR u) (AddrC.pC u))).all fitsB = true := by
 have hc := (AddrC.p_is h).1
 have gc := (AddrC.p_is g).1
 generalize AddrC.pR s = a at *
 generalize AddrC.pC s = b at *
 generalize AddrC.pR u = c at *
 generalize AddrC.pC u = d at *
 obtain ⟨e1, e2, e3, e4⟩ := AddrC.m_t (a := a) (b := b) (c := c) (d := d) (decide_eq_true ⟨hc, gc⟩)
 rw [e1, e2, e3, e4]
 refine leaf_all (fits_3 ?_)
 unfold AddrC.fineB
 refine decide_eq_true ?_
 unfold AddrC.Cell at hc gc
 unfold AddrC.FineP AddrC.Cell AddrC.lo AddrC.hi
 split <;> split <;> split <;> split <;> omega
theorem one_of_mem {ss : List (List UInt8)} (h : oneOf l k ss = some op) : op ∈ ss := List.mem_of_find?_eq_some h
theorem bin_cmp : ∀ op ∈ cmpS, binB (str op) = true := by decide +kernel
theorem bin_sum : ∀ op ∈ sumS, binB (str op) = true := by decide +kernel
theorem bin_mul : ∀ op ∈ mulS, binB (str op) = true := by decide +kernel
theorem bin_pow : binB (str [94]) = true := by decide +kernel
theorem row_ft {part : Nat → Out} {ss : List (List UInt8)} (hs : ∀ op ∈ ss, binB (str op) = true) (hp : Ft part) : ∀ (g : Nat) (a : Nd) (k : Nat), a.all fitsB = true → ∀ b k', rowF l part ss g a k = .ok (b, k') → b.all fitsB = true := by
 intro g
 induction g with
 | zero => intro a k hk b k' h; simp only [rowF] at h; injection h with h; injection h with h1 h2; subst h1 h2; exact hk
 | succ g ih =>
   intro a k hk b k' h
   cases ho : oneOf l k ss with
   | none => rw [row_end ho] at h; injection h with h; injection h with h1 h2; subst h1 h2; exact hk
   | some op =>
     cases hq : part (k + 1) with
     | error e => rw [row_bad ho hq] at h; cases h
     | ok r =>
       obtain ⟨c, k2⟩ := r
       rw [row_go ho hq] at h
       exact ih _ _ (pair_all (hs _ (one_of_mem ho)) hk (hp _ _ _ hq)) _ _ h
structure LFt (L : Lev) : Prop where
 fm : Ft L.fm
 pw : Ft L.pw
 un : Ft L.un
theorem args_ft (hL : LFt L) : ∀ (r : Nat) (acc : Fo) (k : Nat), acc.all fitsB = true → acc.len + r ≤ 10 → ∀ x k', argsF l n L into r acc k = .ok (x, k') → x.all fitsB = true ∧ x.len ≤ 10 := by
 intro r
 induction r with
 | zero => intro acc k _ _ x k' h; simp only [argsF] at h; cases h
 | succ r ih =>
   intro acc k hk hr x k' h
   unfold argsF at h
   split at h
   · cases h
   · cases hq : L.fm k with
     | error e => simp only [hq] at h; cases h
     | ok q =>
       obtain ⟨c, k2⟩ := q
       simp only [hq] at h
       have h1 := hL.fm _ _ _ hq
       have h2 : (acc.app c.one).all fitsB = true := by rw [app_all, one_all, hk, h1]; rfl
       have h3 : (acc.app c.one).len = acc.len + 1 := by rw [Fo.len_app, Nd.one_len]
       split at h
       · exact ih _ _ h2 (by omega) _ _ h
       · injection h with h; injection h with h4 h5; subst h4 h5; exact ⟨h2, by omega⟩
theorem call_ft (hL : LFt L) (ht : TokOK t) (hk3 : t.k = 3) (h : callF l n L into t k = .ok (a, k')) : a.all fitsB = true := by
 unfold callF at h
 split at h
 · cases h
 · rename_i h8
   have hf := fn_ok ht hk3 (by omega)
   split at h
   · injection h with h; injection h with h3 h4; subst h3 h4; exact call_all hf (by decide) rfl
   · cases hq : argsF l n L into 10 .nil (k + 2) with
     | error e => simp only [hq] at h; cases h
     | ok q =>
       obtain ⟨c, k2⟩ := q
       simp only [hq] at h
       have h1 := args_ft hL 10 .nil _ rfl (by simp [Fo.len]) _ _ hq
       cases hc : isSign l k2 [41] with
       | false => rw [close_no hc] at h; cases h
       | true =>
         rw [close_ok hc] at h
         injection h with h; injection h with h3 h4; subst h3 h4; exact call_all hf h1.2 h1.1
theorem name_ft (hL : LFt L) (ht : TokOK t) (hk3 : t.k = 3) (h : nameF l n L into t k = .ok (a, k')) : a.all fitsB = true := by
 unfold nameF at h
 split at h
 · exact call_ft hL ht hk3 h
 · split at h
   · injection h with h; injection h with h3 h4; subst h3 h4; exact truth_all.1
   · split at h
     · injection h with h; injection h with h3 h4; subst h3 h4; exact truth_all.2
     · split at h
       · cases h
       · rename_i hp
         have hp1 : AddrC.pOK t.s.data.toList = true := by simpa using hp
         split at h
         · cases hu : l[k + 2]? with
           | none => simp only [hu] at h; cases h
           | some u =>
             simp only [hu] at h
             split at h
             · rename_i h2
               injection h with h; injection h with h3 h4; subst h3 h4; exact range_all hp1 h2.2.2
             · cases h
         · injection h with h; injection h with h3 h4; subst h3 h4; exact cell_all hp1
theorem part_ft (hl : ∀ t ∈ l, TokOK t) (hL : LFt L) : Ft (partF l n L into) := by
 intro k a k' h
 unfold partF at h
 cases ht : l[k]? with
 | none => simp only [ht] at h; cases h
 | some t =>
   have hto := hl t (List.mem_of_getElem? ht)
   simp only [ht] at h
   split at h
   · rename_i h1
     injection h with h; injection h with h3 h4; subst h3 h4; exact num_all (hto.1 h1)
   · split at h
     · split at h
       · cases h
       · rename_i h2
         injection h with h; injection h with h3 h4; subst h3 h4; exact text_all (by omega)
     · split at h
       · rename_i h3; exact name_ft hL hto h3 h
       · split at h
         · cases hi : into with
           | false => rw [paren_deep hi] at h; cases h
           | true =>
             cases hq : L.fm (k + 1) with
             | error e => rw [paren_err hi hq] at h; cases h
             | ok q =>
               obtain ⟨c, k2⟩ := q
               have h1 := hL.fm _ _ _ hq
               cases hc : isSign l k2 [41] with
               | false => rw [paren_open hi hq hc] at h; cases h
               | true =>
                 rw [paren_ok hi hq hc] at h
                 injection h with h; injection h with h3 h4; subst h3 h4; exact h1
         · cases h
theorem unary_ft (hl : ∀ t ∈ l, TokOK t) (hL : LFt L) : Ft (unaryF l n L into) := by
 intro k a k' h
 cases hs : isSign l k [45] with
 | false => rw [unary_no hs] at h; exact part_ft hl hL _ _ _ h
 | true =>
   cases hi : into with
   | false => rw [unary_deep hs hi] at h; cases h
   | true =>
     cases hq : L.un (k + 1) with
     | error e => rw [unary_err hs hi hq] at h; cases h
     | ok q =>
       obtain ⟨c, k2⟩ := q
       have h1 := hL.un _ _ _ hq
       rw [unary_ok hs hi hq] at h
       injection h with h; injection h with h3 h4; subst h3 h4; exact neg_all h1
theorem power_ft (hl : ∀ t ∈ l, TokOK t) (hL : LFt L) : Ft (powerF l n L into) := by
 intro k a k' h
 cases hu : unaryF l n L into k with
 | error e => rw [power_err hu] at h; cases h
 | ok q =>
   obtain ⟨c, k1⟩ := q
   have h1 := unary_ft hl hL _ _ _ hu
   cases hs : isSign l k1 [94] with
   | false => rw [power_one hu hs] at h; injection h with h; injection h with h3 h4; subst h3 h4; exact h1
   | true =>
     cases hi : into with
     | false => rw [power_deep hu hs hi] at h; cases h
     | true =>
       cases hq : L.pw (k1 + 1) with
       | error e => rw [power_bad hu hs hi hq] at h; cases h
       | ok q =>
         obtain ⟨d, k2⟩ := q
         have h2 := hL.pw _ _ _ hq
         rw [power_ok hu hs hi hq] at h
         injection h with h; injection h with h3 h4; subst h3 h4; exact pair_all bin_pow h1 h2
theorem product_ft (hl : ∀ t ∈ l, TokOK t) (hL : LFt L) : Ft (productF l n L into) := by
 intro k a k' h
 cases hu : powerF l n L into k with
 | error e => rw [product_err hu] at h; cases h
 | ok q =>
   obtain ⟨c, k1⟩ := q
   rw [product_go hu] at h
   exact row_ft bin_mul (power_ft hl hL) _ _ _ (power_ft hl hL _ _ _ hu) _ _ h
theorem sum_ft (hl : ∀ t ∈ l, TokOK t) (hL : LFt L) : Ft (sumF l n L into) := by
 intro k a k' h
 cases hu : productF l n L into k with
 | error e => rw [sum_err hu] at h; cases h
 | ok q =>
   obtain ⟨c, k1⟩ := q
   rw [sum_go hu] at h
   exact row_ft bin_sum (product_ft hl hL) _ _ _ (product_ft hl hL _ _ _ hu) _ _ h
theorem formula_ft (hl : ∀ t ∈ l, TokOK t) (hL : LFt L) : Ft (formulaF l n L into) := by
 intro k a k' h
 cases hu : sumF l n L into k with
 | error e => rw [formula_err hu] at h; cases h
 | ok q =>
   obtain ⟨c, k1⟩ := q
   have h1 := sum_ft hl hL _ _ _ hu
   cases ho : oneOf l k1 cmpS with
   | none => rw [formula_one hu ho] at h; injection h with h; injection h with h3 h4; subst h3 h4; exact h1
   | some op =>
     cases hq : sumF l n L into (k1 + 1) with
     | error e => rw [formula_bad hu ho hq] at h; cases h
     | ok q =>
       obtain ⟨d, k2⟩ := q
       have h2 := sum_ft hl hL _ _ _ hq
       rw [formula_ok hu ho hq] at h
       injection h with h; injection h with h3 h4; subst h3 h4; exact pair_all (bin_cmp _ (one_of_mem ho)) h1 h2
end
theorem lev_ft (l : List Tok) (n : Int) (hl : ∀ t ∈ l, TokOK t) : ∀ r, LFt (lev l n r) := by
 intro r
 induction r with
 | zero => refine ⟨?_, ?_, ?_⟩ <;> (intro k a k' h; cases h)
 | succ r ih => exact ⟨formula_ft hl ih, power_ft hl ih, unary_ft hl ih⟩
theorem parse_good (s : List UInt8) (h : (parseL s).err = 0) : goodT fitsB (parseL s).nd = true ∧ (parseL s).nd.deep ≤ 16 ∧ (parseL s).nd.size ≤ 300 := by
 unfold parseL at h ⊢
 by_cases h0 : (cutL s).err ≠ 0
 · rw [if_pos h0] at h; exact absurd h h0
 · rw [if_neg h0] at h ⊢
   cases ht : treeF (cutL s).toks s.length with
   | error e =>
     rw [ht] at h
     simp only at h
     exact absurd h (tree_err_ne ht)
   | ok a =>
     rw [ht] at h
     simp only at h ⊢
     by_cases hd : 16 < a.deep
     · rw [if_pos hd] at h; exact absurd h (by decide)
     · rw [if_neg hd] at h ⊢
       simp only
       unfold treeF at ht
       cases hq : (lev (cutL s).toks (s.length : Int) 41).fm 0 with
       | error e => rw [hq] at ht; cases ht
       | ok q =>
         obtain ⟨b, k⟩ := q
         rw [hq] at ht
         simp only at ht
         split at ht
         · cases ht
         · injection ht with ht
           subst ht
           have h1 := (lev_ft (cutL s).toks (s.length : Int) (cut_ok s) 41).fm _ _ _ hq
           have h2 := (lev_sz (cutL s).toks (s.length : Int) 41).fm _ _ _ hq
           have h3 := ((lev_goes (cutL s).toks (s.length : Int) 41).fm _ _ _ hq).2
           have h4 := (cut_few s).1
           refine ⟨?_, by omega, by omega⟩
           unfold goodT
           rw [decide_eq_true (by omega), decide_eq_true (by omega), h1]; rfl
end Go.Proofs.YticehalcnbjccaaGreatDoor.TreeC
namespace Go.Proofs.YticehalcnbjccaaGreatDoor.PrintC
set_option maxRecDepth 100000
set_option maxHeartbeats 8000000
set_option linter.unusedVariables false
open NumC LexC TreeC
inductive Shape : Fld → Nat → Prop where
 | int (n : Int) (h : 0 ≤ n) : Shape ⟨1, 2, n, nob, 0, 0, 0, 0, nob⟩ 0
 | text (s : ByteArray) (h : s.size ≤ 200) : Shape ⟨1, 3, 0, s, 0, 0, 0, 0, nob⟩ 0
 | yes : Shape ⟨1, 1, 1, nob, 0, 0, 0, 0, nob⟩ 0
 | no : Shape ⟨1, 1, 0, nob, 0, 0, 0, 0, nob⟩ 0
 | cell (r c : Int) (h : AddrC.Cell r c) : Shape ⟨2, 0, 0, nob, r, c, 0, 0, nob⟩ 0
 | range (a b c d : Int) (h : AddrC.FineP a b c d) : Shape ⟨3, 0, 0, nob, a, b, c, d, nob⟩ 0
 | neg : Shape ⟨4, 0, 0, nob, 0, 0, 0, 0, nob⟩ 1
 | bin (o : List UInt8) (h : binS o = true) : Shape ⟨5, 0, 0, nob, 0, 0, 0, 0, str o⟩ 2
 | call (o : List UInt8) (h : NameT o) (h8 : o.length ≤ 8) (m : Nat) (hm : m ≤ 10) : Shape ⟨6, 0, 0, nob, 0, 0, 0, 0, str o⟩ m
theorem no_v {k vk vn r1 r2 r3 r4 : Int} {vs op : ByteArray} (h : noVB ⟨k, vk, vn, vs, r1, r2, r3, r4, op⟩ = true) : vk = 0 ∧ vn = 0 ∧ vs = nob := by
 have h : decide ((⟨vk, vn, vs⟩ : ValueC.Val) = ⟨0, 0, { data := #[] }⟩) = true := h
 have := of_decide_eq_true h
 injection this with h1 h2 h3
 exact ⟨h1, h2, h3⟩
theorem no_r {k vk vn r1 r2 r3 r4 : Int} {vs op : ByteArray} (h : noRB ⟨k, vk, vn, vs, r1, r2, r3, r4, op⟩ = true) : r1 = 0 ∧ r2 = 0 ∧ r3 = 0 ∧ r4 = 0 := of_decide_eq_true h
theorem no_t {k vk vn r1 r2 r3 r4 : Int} {vs op : ByteArray} (h : noTB ⟨k, vk, vn, vs, r1, r2, r3, r4, op⟩ = true) : r3 = 0 ∧ r4 = 0 := of_decide_eq_true h
theorem no_o {k vk vn r1 r2 r3 r4 : Int} {vs op : ByteArray} (h : noOB ⟨k, vk, vn, vs, r1, r2, r3, r4, op⟩ = true) : op = nob := by
 have h : (op.toList == ([] : List UInt8)) = true := h
 have h1 : op.toList = [] := eq_of_beq h
 rw [Lib.toList_data] at h1
 exact ByteArray.ext (Array.toList_inj.1 h1)
theorem size_nob {s : ByteArray} (h : s.size = 0) : s = nob := ValueC.size_nos h
theorem str_list (s : ByteArray) : str s.data.toList = s := by obtain ⟨⟨l⟩⟩ := s; rfl
theorem str_back (l : List UInt8) : (str l).data.toList = l := by simp [str]
theorem bin_is {s : ByteArray} (h : binB s = true) : ∃ o, s = str o ∧ binS o = true := by
 refine ⟨s.data.toList, (str_list s).symm, ?_⟩
 unfold binB anyOf at h
 simp only [Bool.or_eq_true, List.any_eq_true] at h
 have key : ∀ ss : List (List UInt8), (∀ o ∈ ss, binS o = true) → (∃ x, x ∈ ss ∧ decide (s = str x) = true) → binS s.data.toList = true := fun ss hs ⟨x, hx, e⟩ => by
   have e := of_decide_eq_true e
   rw [e, str_back]; exact hs x hx
 rcases h with ((h | h) | h) | h
 · exact key cmpS (by decide) h
 · exact key sumS (by decide) h
 · exact key mulS (by decide) h
 · exact key powS (by decide) h
theorem fn_is {s : ByteArray} (h : fnB s = true) : ∃ o, s = str o ∧ NameT o ∧ o.length ≤ 8 := by
 unfold fnB at h
 rw [Bool.and_eq_true] at h
 have h8 := of_decide_eq_true h.1
 have h2 := h.2
 have hk := cut_ok s.data.toList
 split at h2
 · rename_i t ht
   rw [Bool.and_eq_true] at h2
   obtain ⟨o, e, hn⟩ := (hk t (by rw [ht]; simp)).2 (of_decide_eq_true h2.1)
   have e2 := of_decide_eq_true h2.2
   rw [e] at e2
   refine ⟨o, e2.symm, ⟨hn.head, hn.all, hn.up⟩, ?_⟩
   rw [← e2] at h8
   simpa [str, ByteArray.size] using h8
 · cases h2
theorem shape_of {f : Fld} {m : Nat} (h : fitsB f m = true) : Shape f m := by
 obtain ⟨k, vk, vn, vs, r1, r2, r3, r4, op⟩ := f
 unfold fitsB at h
 simp only at h
 split at h
 · rename_i h1
   subst h1
   simp only [Bool.and_eq_true, decide_eq_true_eq] at h
   obtain ⟨⟨⟨hc, hr⟩, ho⟩, rfl⟩ := h
   obtain ⟨rfl, rfl, rfl, rfl⟩ := no_r hr
   obtain rfl := no_o ho
   unfold constB at hc
   split at hc
   · rename_i h2
     subst h2
     rw [Bool.and_eq_true] at hc
     have hg : ValueC.GoodP ⟨2, vn, vs⟩ := of_decide_eq_true hc.1
     have hs : vs.size = 0 := by unfold ValueC.GoodP at hg; simp only at hg; omega
     obtain rfl := size_nob hs
     exact .int vn (of_decide_eq_true hc.2)
   · split at hc
     · rename_i h3
       have hg : ValueC.GoodP ⟨vk, vn, vs⟩ := of_decide_eq_true hc
       unfold ValueC.GoodP at hg
       simp only at hg
       rcases h3 with rfl | rfl
       · have h4 : vn = 0 ∧ vs.size ≤ 200 := by omega
         obtain ⟨rfl, h5⟩ := h4
         exact .text vs h5
       · have h4 : (vn = 0 ∨ vn = 1) ∧ vs.size = 0 := by omega
         obtain ⟨h5, h6⟩ := h4
         obtain rfl := size_nob h6
         rcases h5 with rfl | rfl
         · exact .no
         · exact .yes
     · cases hc
 · split at h
   · rename_i h1
     subst h1
     simp only [Bool.and_eq_true, decide_eq_true_eq] at h
     obtain ⟨⟨⟨⟨hc, ht⟩, hv⟩, ho⟩, rfl⟩ := h
     obtain ⟨rfl, rfl⟩ := no_t ht
     obtain ⟨rfl, rfl, rfl⟩ := no_v hv
     obtain rfl := no_o ho
     exact .cell r1 r2 (of_decide_eq_true hc)
   · split at h
     · rename_i h1
       subst h1
       simp only [Bool.and_eq_true, decide_eq_true_eq] at h
       obtain ⟨⟨⟨hc, hv⟩, ho⟩, rfl⟩ := h
       obtain ⟨rfl, rfl, rfl⟩ := no_v hv
       obtain rfl := no_o ho
       exact .range r1 r2 r3 r4 (of_decide_eq_true hc)
     · split at h
       · rename_i h1
         subst h1
         simp only [Bool.and_eq_true, decide_eq_true_eq] at h
         obtain ⟨⟨⟨rfl, hv⟩, hr⟩, ho⟩ := h
         obtain ⟨rfl, rfl, rfl⟩ := no_v hv
         obtain ⟨rfl, rfl, rfl, rfl⟩ := no_r hr
         obtain rfl := no_o ho
         exact .neg
       · split at h
         · rename_i h1
           subst h1
           simp only [Bool.and_eq_true, decide_eq_true_eq] at h
           obtain ⟨⟨⟨hb, rfl⟩, hv⟩, hr⟩ := h
           obtain ⟨rfl, rfl, rfl⟩ := no_v hv
           obtain ⟨rfl, rfl, rfl, rfl⟩ := no_r hr
           obtain ⟨o, rfl, ho⟩ := bin_is hb
           exact .bin o ho
         · split at h
           · rename_i h1
             subst h1
             simp only [Bool.and_eq_true, decide_eq_true_eq] at h
             obtain ⟨⟨⟨hb, hm⟩, hv⟩, hr⟩ := h
             obtain ⟨rfl, rfl, rfl⟩ := no_v hv
             obtain ⟨rfl, rfl, rfl, rfl⟩ := no_r hr
             obtain ⟨o, rfl, ho, h8⟩ := fn_is hb
             exact .call o ho h8 m hm
           · cases h
def wideB (f : Fld) (n : Nat) : Bool := decide (f.vn ≤ 9223372036854775807)
theorem u8_of (n : Nat) (h : n < 256) : (UInt8.ofNat n).toNat = n := AddrC.u8_small h
theorem name_cell {r c : Int} (h : AddrC.Cell r c) : NameT (AddrC.nameL r c) := by
 have hh := h
 unfold AddrC.Cell at hh
 rw [AddrC.nameL_cell h, itoa_nat (by omega)]
 have hcol : ∀ x ∈ AddrC.colL c, 65 ≤ x.toNat ∧ x.toNat ≤ 90 := by
   intro x hx
   unfold AddrC.colL at hx
   split at hx
   · obtain rfl := List.mem_singleton.1 hx
     rw [u8_of _ (by omega)]; omega
   · rcases List.mem_cons.1 hx with rfl | hx
     · decide
     · obtain rfl := List.mem_singleton.1 hx
       rw [u8_of _ (by omega)]; omega
 have hne : AddrC.colL c ≠ [] := by unfold AddrC.colL; split <;> simp
 have hd := decDigits_all r.toNat
 generalize AddrC.colL c = x at *
 generalize Lib.decDigits r.toNat = y at *
 have hlet : ∀ a ∈ x, letB a = true := fun a ha => letB_iff.2 (Or.inr (hcol a ha))
 refine ⟨?_, fun a ha => ?_, ?_⟩
 · cases x with
   | nil => exact absurd rfl hne
   | cons a x => exact ⟨a, x ++ y, rfl, hlet a (List.mem_cons_self ..)⟩
 · rcases List.mem_append.1 ha with ha | ha
   · unfold wordB; rw [hlet a ha]; rfl
   · exact dig_word (digB_iff.2 (hd a ha))
 · unfold upL
   conv => rhs; rw [← List.map_id (x ++ y)]
   apply List.map_congr_left
   intro a ha
   refine upC_no ?_
   rcases List.mem_append.1 ha with ha | ha
   · have := hcol a ha; omega
   · have := hd a ha; omega
theorem name_true : NameT truT := ⟨⟨84, [82, 85, 69], rfl, by decide⟩, by decide, by decide⟩
theorem name_false : NameT falT := ⟨⟨70, [65, 76, 83, 69], rfl, by decide⟩, by decide, by decide⟩
theorem bin_row {o : List UInt8} (h : binS o = true) : 1 ≤ opRow o ∧ opRow o ≤ 4 := by
 rcases bin_cases h with rfl | rfl | rfl | rfl | rfl | rfl | rfl | rfl | rfl | rfl | rfl | rfl | rfl <;> decide
theorem nodeT_bin (o : List UInt8) (ts : List (List UInt8 × Nat)) : nodeT ⟨5, 0, 0, nob, 0, 0, 0, 0, str o⟩ ts = closeT (fst0 ts) (lo1 (opRow o)) ++ (o ++ closeT (snd0 ts) (lo2 (opRow o))) := by
 have h : rowK ⟨5, 0, 0, nob, 0, 0, 0, 0, str o⟩ = opRow o := by
   show (if (5 : Int) = 1 ∨ (5 : Int) = 2 ∨ (5 : Int) = 3 ∨ (5 : Int) = 6 then 6 else if (5 : Int) = 4 then 5 else if (5 : Int) = 5 then opRow (str o).data.toList else 0) = _
   rw [if_neg (by decide), if_neg (by decide), if_pos rfl, str_back]
 unfold nodeT
 rw [h]
 simp only
 rw [if_neg (by decide), if_neg (by decide), if_neg (by decide), if_neg (by decide), if_pos trivial, str_back]
theorem nodeK_bin (o : List UInt8) (ts : List (List PT × Nat)) : nodeK ⟨5, 0, 0, nob, 0, 0, 0, 0, str o⟩ ts = closeK (kst0 ts) (lo1 (opRow o)) ++ sgn o :: closeK (knd0 ts) (lo2 (opRow o)) := by
 have h : rowK ⟨5, 0, 0, nob, 0, 0, 0, 0, str o⟩ = opRow o := by
   show (if (5 : Int) = 1 ∨ (5 : Int) = 2 ∨ (5 : Int) = 3 ∨ (5 : Int) = 6 then 6 else if (5 : Int) = 4 then 5 else if (5 : Int) = 5 then opRow (str o).data.toList else 0) = _
   rw [if_neg (by decide), if_neg (by decide), if_pos rfl, str_back]
 unfold nodeK
 rw [h]
 simp only
 rw [if_neg (by decide), if_neg (by decide), if_neg (by decide), if_neg (by decide), if_pos trivial]
 rfl
theorem nodeT_call (o : List UInt8) (ts : List (List UInt8 × Nat)) : nodeT ⟨6, 0, 0, nob, 0, 0, 0, 0, str o⟩ ts = o ++ 40 :: (joinT (ts.map (·.1)) ++ [41]) := by
 unfold nodeT
 simp only
 rw [if_neg (by decide), if_neg (by decide), if_neg (by decide), if_neg (by decide), if_neg (by decide), str_back]
theorem nodeK_call (o : List UInt8) (ts : List (List PT × Nat)) : nodeK ⟨6, 0, 0, nob, 0, 0, 0, 0, str o⟩ ts = (3, 0, str o) :: sgn [40] :: (joinK (ts.map (·.1)) ++ [sgn [41]]) := by
 unfold nodeK
 simp only
 rw [if_neg (by decide), if_neg (by decide), if_neg (by decide), if_neg (by decide), if_neg (by decide)]
theorem nodeT_neg (ts : List (List UInt8 × Nat)) : nodeT ⟨4, 0, 0, nob, 0, 0, 0, 0, nob⟩ ts = 45 :: closeT (fst0 ts) 5 := rfl
section
variable {l : List Tok} {n : Int} {k k' m r : Nat} {a b : Nd} {ts x y : List PT} {p : PT} {o : List UInt8}
theorem str_inj {a b : List UInt8} : str a = str b ↔ a = b := ⟨fun h => by rw [← str_back a, h, str_back], fun h => by rw [h]⟩
end
theorem join_len : ∀ l : List (List UInt8), (joinT l).length ≤ (l.map List.length).sum + l.length
 | [] => by simp [joinT]
 | [x] => by simp [joinT]
 | x :: y :: r => by
   have := join_len (y :: r)
   rw [joinT_cons]
   simp only [List.length_append, List.length_cons, List.map_cons, List.sum_cons] at this ⊢
   omega
theorem close_len (x : List UInt8 × Nat) (least : Nat) : (closeT x least).length ≤ x.1.length + 2 := by
 unfold closeT
 split <;> simp
theorem name_len {r c : Int} (h : AddrC.Cell r c) : (AddrC.nameL r c).length ≤ 22 := by
 rw [AddrC.nameL_cell h, List.length_append, AddrC.colL_len]
 have := (itoa_len (AddrC.cell_i64 h)).2
 split <;> omega
theorem bin_len {o : List UInt8} (h : binS o = true) : o.length ≤ 2 := by
 rcases bin_cases h with rfl | rfl | rfl | rfl | rfl | rfl | rfl | rfl | rfl | rfl | rfl | rfl | rfl <;> decide
theorem texts_length : ∀ x : Fo, (texts x).length = x.len := by
 intro x
 induction x with
 | nil => rfl
 | cons f k n _ ih => simp [texts, Fo.len, ih]
def tsum (l : List (List UInt8 × Nat)) : Nat := (l.map (·.1.length)).sum
theorem text_lens : ∀ (x : Fo), x.all fitsB = true → x.all wideB = true → tsum (texts x) ≤ 500 * x.size
 | .nil, _, _ => by simp [texts, tsum]
 | .cons f k n, h, h2 => by
   simp only [Fo.all, Bool.and_eq_true] at h h2
   obtain ⟨⟨hk, hf⟩, hn⟩ := h
   obtain ⟨⟨gk, gf⟩, gn⟩ := h2
   have ih1 := text_lens k hk gk
   have ih2 := text_lens n hn gn
   have hs := shape_of hf
   have hw : f.vn ≤ 9223372036854775807 := of_decide_eq_true gf
   have hl1 := texts_length k
   have key : (nodeT f (texts k)).length ≤ 500 + tsum (texts k) := by
     clear hf gf ih1 ih2
     generalize hm : k.len = m at *
     generalize texts k = ts at *
     cases hs with
     | int n h0 =>
       show (Lib.itoa n).length ≤ _
       have := (itoa_len (n := n) (by unfold I64; simp only at hw; omega)).2
       omega
     | text s hs =>
       show (quL s.data.toList).length ≤ _
       have := quB_len s.data.toList
       have e := list_len s
       unfold quL
       simp only [List.length_append, List.length_cons, List.length_nil]
       omega
     | yes => show truT.length ≤ _; have : truT.length = 4 := rfl; omega
     | no => show falT.length ≤ _; have : falT.length = 5 := rfl; omega
     | cell r c hc => show (AddrC.nameL r c).length ≤ _; have := name_len hc; omega
     | range a b c d hc =>
       show (AddrC.nameL a b ++ 58 :: AddrC.nameL c d).length ≤ _
       have h1 := name_len hc.1
       have h2 := name_len hc.2.1
       simp only [List.length_append, List.length_cons]
       omega
     | neg =>
       rw [nodeT_neg]
       match ts, hl1 with
       | [x], _ =>
         have := close_len x 5
         simp only [fst0, List.headD_cons, List.length_cons, tsum, List.map_cons, List.map_nil, List.sum_cons, List.sum_nil]
         omega
     | bin o ho =>
       rw [nodeT_bin]
       match ts, hl1 with
       | [x, y], _ =>
         have h1 := close_len x (lo1 (opRow o))
         have h2 := close_len y (lo2 (opRow o))
         have h3 := bin_len ho
         simp only [fst0, snd0, List.headD_cons, List.tail_cons, List.length_append, tsum, List.map_cons, List.map_nil, List.sum_cons, List.sum_nil]
         omega
     | call o ho h8 m hm2 =>
       rw [nodeT_call]
       have h1 := join_len (ts.map (·.1))
       have e : ((ts.map (·.1)).map List.length).sum = tsum ts := by unfold tsum; rw [List.map_map]; rfl
       rw [e, List.length_map] at h1
       simp only [List.length_append, List.length_cons, List.length_nil]
       omega
   have e1 : tsum (texts (.cons f k n)) = (nodeT f (texts k)).length + tsum (texts n) := by simp [texts, tsum]
   have e2 : (Fo.cons f k n).size = 1 + k.size + n.size := rfl
   rw [e1, e2]
   omega
theorem text_len (a : Nd) (h : a.all fitsB = true) (h2 : a.all wideB = true) : (textN a).length ≤ 500 * a.size := by
 have := text_lens (.cons a.f a.kids .nil) (by simpa [Fo.all, Nd.all] using h) (by simpa [Fo.all, Nd.all] using h2)
 simpa [texts, tsum, textN, Fo.size, Nd.size] using this
theorem texts_nth : ∀ (x : Fo) (i : Nat), i < x.len → (texts x)[i]? = some (textN (x.nth i), rowN (x.nth i))
 | .nil, i, h => by simp [Fo.len] at h
 | .cons f k n, 0, h => rfl
 | .cons f k n, i + 1, h => by
   have := texts_nth n i (by simpa [Fo.len] using h)
   simpa [texts, Fo.nth] using this
structure TRes where
 s : List UInt8
 err : Int
def goodN (a : Nd) : Bool := goodT fitsB a
def textR (a : Nd) : TRes := if goodN a = false then ⟨[], 11⟩ else if 300 < (textN a).length then ⟨[], 2⟩ else ⟨textN a, 0⟩
theorem textR_no {a : Nd} (h : goodN a = false) : textR a = ⟨[], 11⟩ := if_pos h
theorem textR_long {a : Nd} (h : goodN a = true) (h2 : 300 < (textN a).length) : textR a = ⟨[], 2⟩ := by unfold textR; rw [if_neg (by rw [h]; decide), if_pos h2]
theorem textR_ok {a : Nd} (h : goodN a = true) (h2 : ¬ 300 < (textN a).length) : textR a = ⟨textN a, 0⟩ := by unfold textR; rw [if_neg (by rw [h]; decide), if_neg h2]
theorem good_parts {a : Nd} (h : goodN a = true) : a.size ≤ 2000 ∧ a.deep ≤ 16 ∧ a.all fitsB = true := by
 unfold goodN goodT at h
 simp only [Bool.and_eq_true, decide_eq_true_eq] at h
 exact ⟨h.1.1, h.1.2, h.2⟩
end Go.Proofs.YticehalcnbjccaaGreatDoor.PrintC
