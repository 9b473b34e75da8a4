/-
  Contracts of source's code: writtenText, writtenValue, writtenFormula.
-/
import Derived.Test.YticehalcnbjccaaGreatDoorRSourceC
import Derived.Test.YticehalcnbjccaaGreatDoorRPrintB
import Derived.Test.YticehalcnbjccaaGreatDoorRAddrD
import Derived.Test.YticehalcnbjccaaGreatDoorRTreeK6
import Derived.Test.YticehalcnbjccaaGreatDoorRNumG
namespace Go.Proofs.YticehalcnbjccaaGreatDoor.SourceC
set_option maxRecDepth 100000
set_option maxHeartbeats 8000000
set_option linter.unusedVariables false
set_option linter.unusedSimpArgs false
open Go.RowKit NumC TreeC PrintC
open LexC (str nob str_size LexLib)
open ValueC (Val GoodP goodB goodB_t goodB_f nos zeroV showL trueL falseL size_nos)
open Cd
open Tryz
open Lib (hid)
def WrIn (w : World) (r : TRes) (e : Ending) (w' : World) : Prop :=
 ∃ E, e = .returned (.tuple #[.string (str r.s), E]) ∧ ErrV E 0 r.err ∧ Below w.heap.size w w'
structure VB (w : World) (b : Nat) (k n : Int) (s : ByteArray) : Prop where
 at_ : w.heap[b]? = some (.cells (jV k n s) 24 (0, 0))
theorem VB.lt {w : World} {b : Nat} {k n : Int} {s : ByteArray} (h : VB w b k n s) : b < w.heap.size := (Array.getElem?_eq_some_iff.1 h.at_).1
theorem VB.below {w w' : World} {b : Nat} {k n : Int} {s : ByteArray} (h : VB w b k n s) (hb : Below w.heap.size w w') : VB w' b k n s := ⟨(hb.block b h.lt).trans h.at_⟩
theorem VB.cells {w : World} {b : Nat} {k n : Int} {s : ByteArray} (h : VB w b k n s) : w.cell? ⟨b, 0, none⟩ = some (.int .i64 k) ∧ w.cell? ⟨b, 1, none⟩ = some (.int .i64 n) ∧ w.cell? ⟨b, 2, none⟩ = some (.string s) := by
 have h1 := h.at_
 refine ⟨?_, ?_, ?_⟩ <;> simp [World.cell?, h1]
theorem quote_str (s : ByteArray) : ({ data := #[39] } : ByteArray) ++ s = str (39 :: s.data.toList) := by
 have e : str [39] ++ str s.data.toList = str ([39] ++ s.data.toList) := ByteArray.mk_append_mk _ _
 rw [str_id] at e
 exact e
theorem eq_str (l : List UInt8) : ({ data := #[61] } : ByteArray) ++ str l = str (61 :: l) := ByteArray.mk_append_mk [61] l
theorem value_self {s : ByteArray} (h : selfB s.data.toList = true) : str (valueL ⟨3, 0, s⟩) = s := by
 unfold valueL; rw [if_neg (fun h => h rfl), if_pos h]; exact str_id s
theorem value_quote {s : ByteArray} (h : selfB s.data.toList = false) : str (valueL ⟨3, 0, s⟩) = { data := #[39] } ++ s := by
 unfold valueL; rw [if_neg (fun h => h rfl), if_neg (by rw [h]; decide)]; exact (quote_str s).symm
theorem self_of {s : ByteArray} {r : RS} (hr : readL s.data.toList = r) (h : r.err = 0) : selfB s.data.toList = ValueC.sameB r.v ⟨3, 0, s⟩ := by
 unfold selfB ValueC.sameB
 rw [hr, str_id]
 refine decide_eq_decide.2 ⟨fun ⟨_, _, h3⟩ => h3, fun h3 => ⟨h, ?_, h3⟩⟩
 rcases read_ok (s := s.data.toList) (by rw [hr]; exact h) with ⟨-, e⟩ | ⟨t, -, -, e⟩ | ⟨v, e, -⟩
 · rw [← hr, e] at h3; exact absurd (congrArg Val.k h3) (by show ¬ (0 : Int) = 3; decide)
 · rw [← hr, e] at h3; exact absurd (congrArg Val.k h3) (by show ¬ (0 : Int) = 3; decide)
 · rw [← hr, e]; rfl
theorem self_not {s : ByteArray} {r : RS} (hr : readL s.data.toList = r) (h : r.err ≠ 0) : selfB s.data.toList = false := by
 unfold selfB
 rw [hr]
 exact decide_eq_false (fun hh => h hh.1)
theorem cwrittenText (s : ByteArray) (w : World) (hs : s.size ≤ 200) (hl : LexLib w) (hg : ErrT w) :
   Calls prog 66 #[.agg (jV 3 0 s)] w fun e w' => e = .returned (.string (str (valueL ⟨3, 0, s⟩))) ∧ Below w.heap.size w w' := by
 have B1 : Below w.heap.size w (w.alloc (.cells (jV 3 0 s) 24)) := (Below.refl _ _).alloc (Nat.le_refl _) _
 have V1 : VB (w.alloc (.cells (jV 3 0 s) 24)) w.heap.size 3 0 s := ⟨heap_alloc_new _ _⟩
 have HR := hid (cread s (w.alloc (.cells (jV 3 0 s) 24)) (hl.below B1) (hg.below B1))
 have HQ : ∀ W, Calls prog 64 #[.string ({ data := #[39] } ++ s)] W fun e w' => e = .returned (.string ({ data := #[39] } ++ s)) ∧ Below W.heap.size W w' := fun W => ValueC.clone _ W (by rw [ByteArray.size_append]; show 1 + s.size ≤ _; omega)
 have HC : ∀ W, Calls prog 64 #[.string s] W fun e w' => e = .returned (.string s) ∧ Below W.heap.size W w' := fun W => ValueC.clone _ W (by omega)
 obtain ⟨c0, c1, c2⟩ := V1.cells
 have hsf := hid (fun r (hr : readL s.data.toList = r) (h : r.err = 0) => self_of hr h)
 have hsn := hid (fun r (hr : readL s.data.toList = r) (h : r.err ≠ 0) => self_not hr h)
 have hv1 := hid (fun h => value_self (s := s) h)
 have hv2 := hid (fun h => value_quote (s := s) h)
 have HQ := hid HQ
 have HC := hid HC
 clear hl hg
 go_enter func66, ntmps66
 go_wp2_with fail
 generalize (w.alloc (.cells (jV 3 0 s) 24)) = W1 at *
 refine HR.out.mono ?_; rintro e w2 ⟨A, c, EE, rfl, hE, hb2, hK⟩
 have V2 := V1.below hb2
 have B2 := B1.trans (hb2.mono B1.size)
 have lt2 := V2.lt
 clear c0 c1 c2 V1 B1 hb2 hK HR
 replace hsf := hsf.out _ rfl
 replace hsn := hsn.out _ rfl
 generalize readL s.data.toList = r at *
 obtain ⟨k, ⟨vk, vn, vs⟩, ⟨f, kd⟩, pat, per⟩ := r
 simp only at hE hsf hsn ⊢
 have g3 : Below w2.heap.size w2 (w2.alloc (.cells (jS k vk vn vs f A kd.len c) 33)) := (Below.refl _ _).alloc (Nat.le_refl _) _
 have V3 := V2.below g3
 have R3 : RLoc 33 (w2.alloc (.cells (jS k vk vn vs f A kd.len c) 33)) w2.heap.size k vk vn vs f A kd.len c := ⟨heap_alloc_new _ _⟩
 have B3 := B2.trans (g3.mono B2.size)
 obtain ⟨c0, c1, c2⟩ := V3.cells
 clear g3 V2 B2
 obtain ⟨d0, d1, d2, d3, d4, d5, d6, d7, d8, d9, d10, d11, d12, d13⟩ := R3.cells
 by_cases hz : per = 0
 · subst hz
   obtain ⟨rfl, rfl⟩ := hE.nil
   replace hsf := hsf rfl
   clear hE hsn
   go_wp2_with fail
   generalize (w2.alloc (.cells (jS k vk vn vs f A kd.len c) 33)) = W3 at *
   refine (ValueC.same ⟨vk, vn, vs⟩ ⟨3, 0, s⟩ W3).mono ?_; rintro e w4 ⟨rfl, hb4⟩
   have V4 := V3.below hb4
   have B4 := B3.trans (hb4.mono B3.size)
   clear c0 c1 c2 V3 B3 hb4 R3 d0 d1 d2 d3 d4 d5 d6 d7 d8 d9 d10 d11 d12 d13
   obtain ⟨c0, c1, c2⟩ := V4.cells
   rw [← hsf]
   cases hself : selfB s.data.toList
   · have E := hid (hv2.out hself)
     clear hself hsf hv1 hv2
     go_wp2_with fail
     refine (HQ.out w4).mono ?_; rintro e w5 ⟨rfl, hb5⟩
     go_wp2_with fail
     go_ret
     exact ⟨by rw [E.out]; rfl, B4.trans (hb5.mono B4.size)⟩
   · have E := hid (hv1.out hself)
     clear hself hsf hv1 hv2
     go_wp2_with fail
     refine (HC.out w4).mono ?_; rintro e w5 ⟨rfl, hb5⟩
     go_wp2_with fail
     go_ret
     exact ⟨by rw [E.out]; rfl, B4.trans (hb5.mono B4.size)⟩
 · obtain ⟨TT, u, rfl⟩ := hE.some hz
   have E := hid (hv2.out (hsn hz))
   clear hE hsn hsf hv1 hv2
   go_wp2_with fail
   generalize (w2.alloc (.cells (jS k vk vn vs f A kd.len c) 33)) = W3 at *
   refine (HQ.out W3).mono ?_; rintro e w5 ⟨rfl, hb5⟩
   go_wp2_with fail
   go_ret
   exact ⟨by rw [E.out]; rfl, B3.trans (hb5.mono B3.size)⟩
def valR2 (v : Val) : TRes := if GoodP v ∧ v.k ≠ 0 ∧ v.k ≠ 4 then ⟨valueL v, 0⟩ else ⟨[], 11⟩
theorem fault_len (n : Int) : (ValueC.faultL n).length ≤ 8 := by
 unfold ValueC.faultL
 repeat (first | decide | split)
theorem show_len {v : Val} (hn : I64 v.n) (h : GoodP v) (h3 : v.k ≠ 3) : (showL v).length ≤ 281474976710656 := by
 unfold showL
 rw [if_pos (goodB_t h)]
 by_cases h1 : v.k = 1
 · rw [if_pos h1]
   have e1 : trueL.length = 4 := rfl
   have e2 : falseL.length = 5 := rfl
   split <;> omega
 rw [if_neg h1]
 by_cases h2 : v.k = 2
 · rw [if_pos h2]; have := (itoa_len hn).2; omega
 rw [if_neg h2]
 by_cases h4 : v.k = 4
 · rw [if_pos h4]; have := fault_len v.n; omega
 rw [if_neg h4]
 have hz : v.s.size = 0 := by
   rcases h with ⟨_, _, h⟩ | ⟨h, _⟩ | ⟨h, _⟩ | ⟨h, _⟩ | ⟨h, _⟩
   · exact h
   · exact absurd h h1
   · exact absurd h h2
   · exact absurd h h3
   · exact absurd h h4
 have : v.s.data.toList.length = v.s.size := Array.length_toList
 omega
theorem cwrittenValue (v : Val) (w : World) (hn : I64 v.n) (hl : LexLib w) (hg : ErrT w) :
   Calls prog 40 #[.agg (jV v.k v.n v.s)] w (WrIn w (valR2 v)) := by
 have B1 : Below w.heap.size w (w.alloc (.cells (jV v.k v.n v.s) 24)) := (Below.refl _ _).alloc (Nat.le_refl _) _
 have V1 : VB (w.alloc (.cells (jV v.k v.n v.s) 24)) w.heap.size v.k v.n v.s := ⟨heap_alloc_new _ _⟩
 have HL := hid hl
 have HG := hid hg
 obtain ⟨c0, c1, c2⟩ := V1.cells
 have HGD := hid (ValueC.good v (w.alloc (.cells (jV v.k v.n v.s) 24)))
 have HSH := hid (fun W (h : LibIs W) hg hk => ValueC.shows12 v W hn h hg hk)
 have HSZ := hid (fun h h3 => show_len hn h h3)
 clear hl hg hn
 go_enter func40, ntmps40
 go_wp2_with fail
 generalize (w.alloc (.cells (jV v.k v.n v.s) 24)) = W1 at *
 refine HGD.out.mono ?_; rintro e w2 ⟨rfl, hb2⟩
 have V2 := V1.below hb2
 have B2 := B1.trans (hb2.mono B1.size)
 clear c0 c1 c2 V1 B1 hb2 HGD
 obtain ⟨c0, c1, c2⟩ := V2.cells
 cases hgd : goodB v
 · have E : Hid (valR2 v = ⟨[], 11⟩) := hid (if_neg (fun h => by have := goodB_t h.1; rw [hgd] at this; cases this))
   clear hgd
   go_wp2_with fail
   go_ret2
   exact ⟨_, by rw [E.out]; rfl, by rw [E.out]; exact ErrV.num (Or.inr (Or.inl rfl)), B2⟩
 have hp : GoodP v := of_decide_eq_true hgd
 by_cases k2 : v.k = 2
 · have E : Hid (valR2 v = ⟨valueL v, 0⟩) := hid (if_pos ⟨hp, by omega, by omega⟩)
   have E2 : Hid ((⟨(showL v).toArray⟩ : ByteArray) = str (valueL v)) := hid (by unfold valueL; rw [if_pos (by omega)]; rfl)
   have e2 : (v.k == 2) = true := beq_iff_eq.2 k2
   have hsz : (str (valueL v)).size ≤ 281474976710656 := by
     rw [str_size]; unfold valueL; rw [if_pos (by omega)]; exact HSZ.out hp (by omega)
   have HGB := hid hgd
   have HK2 := hid (show v.k = 1 ∨ v.k = 2 from Or.inr k2)
   clear hgd hp k2
   go_wp2_with fail
   refine (HSH.out w2 (HL.out.below B2).lib HGB.out HK2.out).mono ?_; rintro e w3 ⟨rfl, hb3⟩
   rw [E2.out]
   have B3 := B2.trans (hb3.mono B2.size)
   go_wp2_with fail
   refine (ValueC.clone (str (valueL v)) w3 hsz).mono ?_; rintro e w4 ⟨rfl, hb4⟩
   go_wp2_with fail
   go_ret2
   exact ⟨_, by rw [E.out]; rfl, by rw [E.out]; exact ErrV.none, B3.trans (hb4.mono B3.size)⟩
 have e2 : (v.k == 2) = false := beq_eq_false_iff_ne.2 k2
 by_cases k1 : v.k = 1
 · have E : Hid (valR2 v = ⟨valueL v, 0⟩) := hid (if_pos ⟨hp, by omega, by omega⟩)
   have E2 : Hid ((⟨(showL v).toArray⟩ : ByteArray) = str (valueL v)) := hid (by unfold valueL; rw [if_pos (by omega)]; rfl)
   have e1 : (v.k == 1) = true := beq_iff_eq.2 k1
   have hsz : (str (valueL v)).size ≤ 281474976710656 := by
     rw [str_size]; unfold valueL; rw [if_pos (by omega)]; exact HSZ.out hp (by omega)
   have HGB := hid hgd
   have HK2 := hid (show v.k = 1 ∨ v.k = 2 from Or.inl k1)
   clear hgd hp k1 k2
   go_wp2_with fail
   refine (HSH.out w2 (HL.out.below B2).lib HGB.out HK2.out).mono ?_; rintro e w3 ⟨rfl, hb3⟩
   rw [E2.out]
   have B3 := B2.trans (hb3.mono B2.size)
   go_wp2_with fail
   refine (ValueC.clone (str (valueL v)) w3 hsz).mono ?_; rintro e w4 ⟨rfl, hb4⟩
   go_wp2_with fail
   go_ret2
   exact ⟨_, by rw [E.out]; rfl, by rw [E.out]; exact ErrV.none, B3.trans (hb4.mono B3.size)⟩
 have e1 : (v.k == 1) = false := beq_eq_false_iff_ne.2 k1
 by_cases k3 : v.k = 3
 · have e3 : (v.k == 3) = true := beq_iff_eq.2 k3
   obtain ⟨hn0, hs2⟩ : v.n = 0 ∧ v.s.size ≤ 200 := by
     rcases hp with ⟨h, -⟩ | ⟨h, -⟩ | ⟨h, -⟩ | ⟨-, h⟩ | ⟨h, -⟩
     · omega
     · omega
     · omega
     · exact h
     · omega
   have E : Hid (valR2 v = ⟨valueL v, 0⟩) := hid (if_pos ⟨hp, by omega, by omega⟩)
   have HT := hid (cwrittenText v.s w2 hs2 (HL.out.below B2) (HG.out.below B2))
   have EV : Hid (valueL ⟨3, 0, v.s⟩ = valueL v) := hid (by rw [← k3, ← hn0])
   clear hgd hp HSH
   obtain ⟨k, n, s⟩ := v
   simp only at *
   subst k3 hn0
   go_wp2_with fail
   refine HT.out.mono ?_; rintro e w3 ⟨rfl, hb3⟩
   go_wp2_with fail
   go_ret2
   exact ⟨_, by rw [E.out]; rfl, by rw [E.out]; exact ErrV.none, B2.trans (hb3.mono B2.size)⟩
 · have e3 : (v.k == 3) = false := beq_eq_false_iff_ne.2 k3
   have E : Hid (valR2 v = ⟨[], 11⟩) := hid (if_neg (fun h => by
     rcases hp with ⟨h', -⟩ | ⟨h', -⟩ | ⟨h', -⟩ | ⟨h', -⟩ | ⟨h', -⟩
     · exact h.2.1 h'
     · exact k1 h'
     · exact k2 h'
     · exact k3 h'
     · exact h.2.2 h'))
   clear hgd hp
   go_wp2_with fail
   go_ret2
   exact ⟨_, by rw [E.out]; rfl, by rw [E.out]; exact ErrV.num (Or.inr (Or.inl rfl)), B2⟩
def formT (a : Nd) : TRes := if (textR a).err = 0 then (if 299 < (textR a).s.length then ⟨[], 2⟩ else ⟨61 :: (textR a).s, 0⟩) else ⟨[], (textR a).err⟩
theorem text_one (a : Nd) : (textR a).err = 0 ∨ OneE (textR a).err := by
 cases hg : goodN a with
 | false => rw [textR_no hg]; exact Or.inr (Or.inr (Or.inl rfl))
 | true =>
   by_cases h2 : 300 < (textN a).length
   · rw [textR_long hg h2]; exact Or.inr (Or.inl rfl)
   · rw [textR_ok hg h2]; exact Or.inl rfl
theorem text_short (a : Nd) : (textR a).s.length ≤ 300 := by
 cases hg : goodN a with
 | false => rw [textR_no hg]; exact Nat.zero_le _
 | true =>
   by_cases h2 : 300 < (textN a).length
   · rw [textR_long hg h2]; exact Nat.zero_le _
   · rw [textR_ok hg h2]; show (textN a).length ≤ 300; omega
theorem cwrittenFormula (a : Nd) (A : Option Addr) (c : Nat) (w : World) (hs : a.size ≤ 1990) (hw : a.all wideB = true) (hl : LexLib w) (hK : KidsAt w (fun g => g < w.heap.size) a.kids A) :
   Calls prog 41 #[.agg (jN a.f A a.kids.len c), .bool true] w (WrIn w (formT a)) := by
 have hb1 : Below w.heap.size w (w.alloc (.cells (jN a.f A a.kids.len c) 31)) := (Below.refl _ _).alloc (Nat.le_refl _) _
 have L1 : NLoc (w.alloc (.cells (jN a.f A a.kids.len c) 31)) w.heap.size a.f A a.kids.len c := ⟨heap_alloc_new _ _⟩
 have HT := hid (cText a A c (w.alloc (.cells (jN a.f A a.kids.len c) 31)) hs hw (hl.below hb1) (below_row hK hb1))
 have HO := hid (text_one a)
 have HS := hid (text_short a)
 have HF := hid (show formT a = (if (textR a).err = 0 then (if 299 < (textR a).s.length then ⟨[], 2⟩ else ⟨61 :: (textR a).s, 0⟩) else ⟨[], (textR a).err⟩) from rfl)
 generalize formT a = R at *
 generalize textR a = t at *
 clear hK hl hs hw
 obtain ⟨f, kd⟩ := a
 simp only at *
 obtain ⟨d0, d1, d2, d3, d4, d5, d6, d7, d8, d9, -⟩ := L1.cells
 go_enter func41, ntmps41
 go_wp2_with fail
 generalize (w.alloc (.cells (jN f A kd.len c) 31)) = W1 at *
 refine HT.out.mono ?_; rintro e w2 ⟨rfl, hb2⟩
 have B2 := hb1.trans (hb2.mono hb1.size)
 clear d0 d1 d2 d3 d4 d5 d6 d7 d8 d9 L1 hb1 hb2 HT
 obtain ⟨l, n⟩ := t
 simp only at HO HS HF ⊢
 by_cases hz : n = 0
 · subst hz
   rw [if_pos rfl] at HF
   have HZ := hid (str_size l)
   have i0 : IntKind.i64.wrap (1 + ((str l).size : Int)) = 1 + ((str l).size : Int) := IntWalk.i64_in _ (by rw [HZ.out]; have := HS.out; omega)
   by_cases h2 : 299 < l.length
   · rw [if_pos h2] at HF
     have t1 : (300 : Int) < 1 + ((str l).size : Int) := by rw [HZ.out]; omega
     clear h2
     generalize str l = u at *
     go_wp2_with fail
     go_ret2
     exact ⟨_, by rw [HF.out]; rfl, by rw [HF.out]; exact ErrV.num (Or.inl rfl), B2⟩
   · rw [if_neg h2] at HF
     have t1 : ¬ (300 : Int) < 1 + ((str l).size : Int) := by rw [HZ.out]; omega
     have HEQ := hid (eq_str l)
     clear h2
     generalize str l = u at *
     go_wp2_with fail
     go_ret2
     exact ⟨_, by rw [HF.out, HEQ.out]; rfl, by rw [HF.out]; exact ErrV.none, B2⟩
 · have q : (n != 0) = true := by rw [bne, beq_eq_false_iff_ne.2 hz]; rfl
   rw [if_neg hz] at HF
   have HV := hid (ErrV.num (HO.out.resolve_left hz))
   clear hz
   generalize str l = u at *
   go_wp2_with fail
   go_ret2
   exact ⟨_, by rw [HF.out]; rfl, by rw [HF.out]; exact HV.out, B2⟩
theorem write_0 {v : Val} {a : Nd} (h : (ValueC.sameB v zeroV && decide (a = zeroN)) = true) : writeL 0 v a = ⟨[], 0⟩ := by
 unfold writeL
 rw [Bool.and_eq_true] at h
 rw [if_pos rfl, if_pos ⟨of_decide_eq_true h.1, of_decide_eq_true h.2⟩]
theorem write_0n {v : Val} {a : Nd} (h : (ValueC.sameB v zeroV && decide (a = zeroN)) = false) : writeL 0 v a = ⟨[], 11⟩ := by
 unfold writeL
 rw [if_pos rfl, if_neg]
 rintro ⟨h1, h2⟩
 rw [h1, h2] at h
 exact absurd h (by unfold ValueC.sameB; simp)
theorem write_1 {v : Val} {a : Nd} (h : decide (a = zeroN) = true) : writeL 1 v a = valR2 v := by
 unfold writeL valR2
 rw [if_neg (by decide), if_pos rfl]
 have h := of_decide_eq_true h
 by_cases hc : GoodP v ∧ v.k ≠ 0 ∧ v.k ≠ 4
 · rw [if_pos ⟨h, hc⟩, if_pos hc]
 · rw [if_neg (fun x => hc x.2), if_neg hc]
theorem write_1n {v : Val} {a : Nd} (h : decide (a = zeroN) = false) : writeL 1 v a = ⟨[], 11⟩ := by
 unfold writeL
 rw [if_neg (by decide), if_pos rfl, if_neg (fun x => of_decide_eq_false h x.1)]
theorem write_2 (a : Nd) : writeL 2 zeroV a = formT a := by
 unfold writeL
 rw [if_neg (by decide), if_neg (by decide), if_pos rfl, if_pos rfl]
 rfl
theorem kids_zero (w : World) (P : Nat → Prop) : KidsAt w P zeroN.kids none := Or.inl rfl
theorem cwritten (k : Int) (v : Val) (a : Nd) (A : Option Addr) (c : Nat) (w : World) (hk : k = 0 ∨ k = 1 ∨ k = 2) (h2 : k = 2 → v = zeroV) (hs : a.size ≤ 1990) (hw : a.all wideB = true) (hn : I64 v.n) (hl : LexLib w) (hg : ErrT w) (hK : KidsAt w (fun g => g < w.heap.size) a.kids A) :
   Calls prog 22 #[.agg (jS k v.k v.n v.s a.f A a.kids.len c)] w (WrIn w (writeL k v a)) := by
 have B1 : Below w.heap.size w (w.alloc (.cells (jS k v.k v.n v.s a.f A a.kids.len c) 33)) := (Below.refl _ _).alloc (Nat.le_refl _) _
 have R1 : RLoc 33 (w.alloc (.cells (jS k v.k v.n v.s a.f A a.kids.len c) 33)) w.heap.size k v.k v.n v.s a.f A a.kids.len c := ⟨heap_alloc_new _ _⟩
 have HK := hid (below_row hK B1)
 have HL := hid (hl.below B1)
 have HG := hid (hg.below B1)
 have HV1 := hid (fun W h1 h2 => cwrittenValue v W hn h1 h2)
 have HF := hid (fun W h1 h2 => cwrittenFormula a A c W hs hw h1 h2)
 have W0 := hid (fun h => write_0 (v := v) (a := a) h)
 have W0n := hid (fun h => write_0n (v := v) (a := a) h)
 have W1y := hid (fun h => write_1 (v := v) (a := a) h)
 have W1n := hid (fun h => write_1n (v := v) (a := a) h)
 have W2 := hid (write_2 a)
 have HSV := hid (fun W => ValueC.same v zeroV W)
 have HSN := hid (fun W (h : KidsAt W (fun g => g < W.heap.size) a.kids A) => cSame a zeroN A none c 0 W (by omega) (by decide) h (kids_zero W _))
 have H2 := hid h2
 clear hK hl hg hs hw hn h2
 obtain ⟨f, kd⟩ := a
 obtain ⟨vk, vn, vs⟩ := v
 simp only at *
 obtain ⟨d0, d1, d2, d3, d4, d5, d6, d7, d8, d9, d10, d11, d12, d13⟩ := R1.cells
 go_enter func22, ntmps22
 go_wp2_with fail
 generalize (w.alloc (.cells (jS k vk vn vs f A kd.len c) 33)) = w1 at *
 have WG : ∀ u : Gr w1, Below w.heap.size w u.now := fun u => B1.trans (u.below.mono B1.size)
 have HS1 : Hid (∀ u : Gr w1, Calls prog 38 #[.agg (jV vk vn vs), .agg (jV 0 0 { data := #[] })] u.now fun e w' => e = .returned (.bool (ValueC.sameB ⟨vk, vn, vs⟩ zeroV)) ∧ Below u.now.heap.size u.now w') := hid (fun u => HSV.out u.now)
 have HS2 : Hid (∀ u : Gr w1, Calls prog 39 #[.agg (jN f A kd.len c), .agg jZ] u.now fun e w' => e = .returned (.bool (decide (Nd.mk f kd = zeroN))) ∧ Below u.now.heap.size u.now w') := hid (fun u => HSN.out u.now (below_row HK.out u.below))
 clear HSV HSN R1
 generalize hb1 : ValueC.sameB ⟨vk, vn, vs⟩ zeroV = b1 at *
 generalize decide (Nd.mk f kd = zeroN) = b2 at *
 replace d0 := Gr.cell _ _ _ (Below.refl _ _) d0
 replace d1 := Gr.cell _ _ _ (Below.refl _ _) d1
 replace d2 := Gr.cell _ _ _ (Below.refl _ _) d2
 replace d3 := Gr.cell _ _ _ (Below.refl _ _) d3
 replace d4 := Gr.cell _ _ _ (Below.refl _ _) d4
 replace d5 := Gr.cell _ _ _ (Below.refl _ _) d5
 replace d6 := Gr.cell _ _ _ (Below.refl _ _) d6
 replace d7 := Gr.cell _ _ _ (Below.refl _ _) d7
 replace d8 := Gr.cell _ _ _ (Below.refl _ _) d8
 replace d9 := Gr.cell _ _ _ (Below.refl _ _) d9
 replace d10 := Gr.cell _ _ _ (Below.refl _ _) d10
 replace d11 := Gr.cell _ _ _ (Below.refl _ _) d11
 replace d12 := Gr.cell _ _ _ (Below.refl _ _) d12
 replace d13 := Gr.cell _ _ _ (Below.refl _ _) d13
 refine region_grown (by kernel_rfl) (by kernel_rfl) ?_
 repeat (go_big_quiet_step (first
   | (go_at_call 38; exact grown_of (HS1.out _))
   | (go_at_call 39; exact grown_of (HS2.out _))))
 refine wpQuiet_nil ?_
 intro w6 hw6; obtain ⟨u, rfl⟩ := hw6
 have HKu := hid (below_row HK.out u.below)
 have HLu := hid (HL.out.below u.below)
 have HGu := hid (HG.out.below u.below)
 rcases hk with rfl | rfl | rfl
 · cases hbb : (b1 && b2)
   · have E := hid (W0n.out hbb)
     cases b1 <;> cases b2 <;> first | exact absurd hbb (by decide) | skip
     all_goals
       go_wp2_with fail
       go_ret2
       exact ⟨_, by rw [E.out]; rfl, by rw [E.out]; exact ErrV.num (Or.inr (Or.inl rfl)), WG u⟩
   · have E := hid (W0.out hbb)
     rw [Bool.and_eq_true] at hbb
     obtain ⟨rfl, rfl⟩ := hbb
     go_wp2_with fail
     go_ret2
     exact ⟨_, by rw [E.out]; rfl, by rw [E.out]; exact ErrV.none, WG u⟩
 · cases b2
   · have E := hid (W1n.out rfl)
     go_wp2_with fail
     go_ret2
     exact ⟨_, by rw [E.out]; rfl, by rw [E.out]; exact ErrV.num (Or.inr (Or.inl rfl)), WG u⟩
   · have E := hid (W1y.out rfl)
     go_wp2_with fail
     refine (HV1.out u.now HLu.out HGu.out).mono ?_; rintro e w3 ⟨EE, rfl, hE, hb3⟩
     rw [← E.out] at hE ⊢
     generalize writeL 1 ⟨vk, vn, vs⟩ ⟨f, kd⟩ = R at *
     go_wp2_with fail
     go_ret2
     exact ⟨_, rfl, hE, (WG u).trans (hb3.mono (WG u).size)⟩
 · have hz := H2.out rfl
   obtain rfl : b1 = true := by rw [← hb1, hz]; exact decide_eq_true rfl
   have HQ2 : Hid (writeL 2 ⟨vk, vn, vs⟩ ⟨f, kd⟩ = formT ⟨f, kd⟩) := hid (by rw [hz]; exact W2.out)
   clear hb1
   go_wp2_with fail
   refine (HF.out u.now HLu.out HKu.out).mono ?_; rintro e w3 ⟨EE, rfl, hE, hb3⟩
   generalize formT ⟨f, kd⟩ = R at *
   go_wp2_with fail
   go_ret2
   exact ⟨_, by rw [HQ2.out]; rfl, by rw [HQ2.out]; exact hE, (WG u).trans (hb3.mono (WG u).size)⟩
theorem cWrite (k : Int) (v : Val) (a : Nd) (A : Option Addr) (c : Nat) (w : World) (hk : k = 0 ∨ k = 1 ∨ k = 2) (h2 : k = 2 → v = zeroV) (hs : a.size ≤ 1990) (hw : a.all wideB = true) (hn : I64 v.n) (hl : LexLib w) (hg : ErrT w) (hK : KidsAt w (fun g => g < w.heap.size) a.kids A) :
   Calls prog 12 #[.agg (jS k v.k v.n v.s a.f A a.kids.len c)] w fun e w' => e = .returned (.tuple #[.string (str (writeL k v a).s), .int .i64 (writeL k v a).err]) ∧ Below w.heap.size w w' := by
 have B1 : Below w.heap.size w (w.alloc (.cells (jS k v.k v.n v.s a.f A a.kids.len c) 33)) := (Below.refl _ _).alloc (Nat.le_refl _) _
 have R1 : RLoc 33 (w.alloc (.cells (jS k v.k v.n v.s a.f A a.kids.len c) 33)) w.heap.size k v.k v.n v.s a.f A a.kids.len c := ⟨heap_alloc_new _ _⟩
 have HW := hid (cwritten k v a A c (w.alloc (.cells (jS k v.k v.n v.s a.f A a.kids.len c) 33)) hk h2 hs hw hn (hl.below B1) (hg.below B1) (below_row hK B1))
 clear hK hl hg hs hw hn h2 hk
 generalize writeL k v a = R at *
 obtain ⟨f, kd⟩ := a
 obtain ⟨vk, vn, vs⟩ := v
 simp only at *
 obtain ⟨d0, d1, d2, d3, d4, d5, d6, d7, d8, d9, d10, d11, d12, d13⟩ := R1.cells
 go_enter func12, ntmps12
 go_wp2_with fail
 generalize (w.alloc (.cells (jS k vk vn vs f A kd.len c) 33)) = w1 at *
 refine HW.out.mono ?_; rintro e w2 ⟨EE, rfl, hE, hb2⟩
 have B2 := B1.trans (hb2.mono B1.size)
 obtain ⟨l, n⟩ := R
 simp only at hE ⊢
 generalize hu : str l = u at *
 clear R1 d0 d1 d2 d3 d4 d5 d6 d7 d8 d9 d10 d11 d12 d13 HW hb2
 go_wp2_with fail
 refine (cwhy hE w2).mono ?_; rintro e w3 ⟨rfl, hb3⟩
 go_wp2_with fail
 go_ret2
 exact ⟨by subst hu; rfl, B2.trans (hb3.mono B2.size)⟩
theorem read_fits {s : List UInt8} (h : (readL s).err = 0) : ((readL s).k = 0 ∨ (readL s).k = 1 ∨ (readL s).k = 2) ∧ ((readL s).k = 2 → (readL s).v = zeroV) ∧ (readL s).nd.size ≤ 300 ∧ (readL s).nd.all wideB = true ∧ I64 (readL s).v.n := by
 have hz : zeroN.size ≤ 300 := by decide
 have hzw : zeroN.all wideB = true := by decide
 have h0 : I64 0 := i64_of_small (Or.inl rfl)
 rcases read_ok h with ⟨-, e⟩ | ⟨t, -, ht, e⟩ | ⟨v, e, -, -, -, hn⟩
 · rw [e]; exact ⟨Or.inl rfl, fun _ => rfl, hz, hzw, h0⟩
 · rw [e]; exact ⟨Or.inr (Or.inr rfl), fun _ => rfl, (parse_good t ht).2.2, (parse_wide ht).1, h0⟩
 · rw [e]; exact ⟨Or.inr (Or.inl rfl), fun h => absurd h (by show ¬ (1 : Int) = 2; decide), hz, hzw, hn⟩
def ClIn (w : World) (r : CRes) (e : Ending) (w' : World) : Prop :=
 ∃ E, e = .returned (.tuple #[.string (str r.s), E]) ∧ ErrV E r.at_ r.err ∧ Below w.heap.size w w'
theorem clean_err {s : List UInt8} (h : (readL s).err ≠ 0) : cleanL s = ⟨[], (readL s).at_, (readL s).err⟩ := if_neg h
theorem clean_go {s : List UInt8} (h : (readL s).err = 0) : cleanL s = ⟨(writeL (readL s).k (readL s).v (readL s).nd).s, 0, (writeL (readL s).k (readL s).v (readL s).nd).err⟩ := if_pos h
theorem ccleaned (s : ByteArray) (w : World) (hl : LexLib w) (hg : ErrT w) : Calls prog 20 #[.string s] w (ClIn w (cleanL s.data.toList)) := by
 have HR := hid (cread s w hl hg)
 have HC1 := hid (fun h => clean_err (s := s.data.toList) h)
 have HC2 := hid (fun h => And.intro (clean_go (s := s.data.toList) h) (read_fits h))
 have HL := hid hl
 have HG := hid hg
 clear hl hg
 generalize cleanL s.data.toList = R at *
 generalize readL s.data.toList = r at *
 go_enter func20, ntmps20
 go_wp2_with fail
 refine HR.out.mono ?_; rintro e w2 ⟨A, c, EE, rfl, hE, hb2, hK⟩
 clear HR
 obtain ⟨k, ⟨vk, vn, vs⟩, ⟨f, kd⟩, pat, per⟩ := r
 simp only at hE hK HC1 HC2 ⊢
 have g3 : Below w2.heap.size w2 (w2.alloc (.cells (jS k vk vn vs f A kd.len c) 33)) := (Below.refl _ _).alloc (Nat.le_refl _) _
 have B3 := hb2.trans (g3.mono hb2.size)
 have K3 : KidsAt (w2.alloc (.cells (jS k vk vn vs f A kd.len c) 33)) (fun g => g < (w2.alloc (.cells (jS k vk vn vs f A kd.len c) 33)).heap.size) kd A := hK.keep (y := w2.heap.size) (Kept.of g3) (fun g hg hlt => ⟨by omega, by simp; omega⟩)
 have R3 : RLoc 33 (w2.alloc (.cells (jS k vk vn vs f A kd.len c) 33)) w2.heap.size k vk vn vs f A kd.len c := ⟨heap_alloc_new _ _⟩
 clear g3 hK hb2
 by_cases hz : per = 0
 · subst hz
   obtain ⟨rfl, rfl⟩ := hE.nil
   obtain ⟨E, F1, F2, F3, F4, F5⟩ := HC2.out rfl
   have HW := hid (cwritten k ⟨vk, vn, vs⟩ ⟨f, kd⟩ A c _ F1 F2 (by omega) F4 F5 (HL.out.below B3) (HG.out.below B3) K3)
   replace E := hid E
   clear HC1 HC2 F1 F2 F3 F4 F5 K3 hE
   obtain ⟨d0, d1, d2, d3, d4, d5, d6, d7, d8, d9, d10, d11, d12, d13⟩ := R3.cells
   generalize writeL k ⟨vk, vn, vs⟩ ⟨f, kd⟩ = Q at *
   go_wp2_with fail
   generalize (w2.alloc (.cells (jS k vk vn vs f A kd.len c) 33)) = W3 at *
   refine HW.out.mono ?_; rintro e w4 ⟨EE, rfl, hE, hb4⟩
   clear d0 d1 d2 d3 d4 d5 d6 d7 d8 d9 d10 d11 d12 d13 R3 HW
   obtain ⟨l, n⟩ := Q
   simp only at hE E ⊢
   generalize hu : str l = u at *
   go_wp2_with fail
   go_ret2
   exact ⟨EE, by rw [E.out]; subst hu; rfl, by rw [E.out]; exact hE, B3.trans (hb4.mono B3.size)⟩
 · obtain ⟨TT, u, rfl⟩ := hE.some hz
   have E := hid (HC1.out hz)
   have HE := hid hE
   clear HC1 HC2 hE hz K3
   go_wp2_with fail
   go_ret2
   exact ⟨_, by rw [E.out]; rfl, by rw [E.out]; exact HE.out, B3⟩
theorem cClean (s : ByteArray) (w : World) (hl : LexLib w) (hg : ErrT w) : Calls prog 9 #[.string s] w fun e w' => e = .returned (.tuple #[.string (str (cleanL s.data.toList).s), .int .i64 (cleanL s.data.toList).at_, .int .i64 (cleanL s.data.toList).err]) ∧ Below w.heap.size w w' := by
 have HR := hid (ccleaned s w hl hg)
 have HG := hid hg
 clear hl hg
 generalize cleanL s.data.toList = R at *
 obtain ⟨l, pat, per⟩ := R
 go_enter func9, ntmps9
 go_wp2_with fail
 refine HR.out.mono ?_; rintro e w2 ⟨EE, rfl, hE, hb2⟩
 simp only at hE ⊢
 generalize hu : str l = S at *
 have HG2 := HG.out.below hb2
 have HWY := hid (fun W => cwhy hE W)
 have HWH := hid (cwhere hE w2 HG2)
 clear HR hE HG2 HG
 go_wp2_with fail
 refine HWH.out.mono ?_; rintro e w3 ⟨rfl, hb3⟩
 go_wp2_with fail
 refine (HWY.out w3).mono ?_; rintro e w4 ⟨rfl, hb4⟩
 go_wp2_with fail
 refine bodyPost_ret (v := .tuple #[.string S, .int .i64 pat, .int .i64 per]) (by simp [results, results9, go_sem]) rfl ?_
 exact ⟨by subst hu; rfl, (hb2.trans (hb3.mono hb2.size)).trans (hb4.mono (by have := hb3.size; have := hb2.size; omega))⟩
end Go.Proofs.YticehalcnbjccaaGreatDoor.SourceC
