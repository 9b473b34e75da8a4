/-
  Contracts of source's code: readFormula, readValue, read.
-/
import Derived.Test.YticehalcnbjccaaGreatDoorRPrintQ
import Derived.Test.YticehalcnbjccaaGreatDoorRNumD
import Derived.Test.YticehalcnbjccaaGreatDoorRAddrD
import Derived.Test.YticehalcnbjccaaGreatDoorRShelfB
namespace Go.Proofs.YticehalcnbjccaaGreatDoor.SourceC
set_option maxRecDepth 100000
set_option maxHeartbeats 8000000
set_option linter.unusedVariables false
set_option linter.unusedSimpArgs false
open Go.RowKit NumC TreeC PrintC
open LexC (str nob str_size LexLib)
open ValueC (Val GoodP goodB goodB_t goodB_f nos zeroV showL trueL falseL size_nos)
open Cd
open Tryz
open Lib (hid)
theorem creadFormula (s : ByteArray) (w : World) (hs : s.size ≤ 300) (hl : LexLib w) (hg : ErrT w) : Calls prog 25 #[.string s] w (ReadIn w (formL s.data.toList)) := by
 have X1 := SBox.new 33 w
 have B1 : Below w.heap.size w (w.alloc (.cells jSZ 33)) := (Below.refl _ _).alloc (Nat.le_refl _) _
 have HS := hid hs
 have HP := hid (cParse s (w.alloc (.cells jSZ 33)) (by omega) (hl.below B1) (hg.below B1))
 have HW1 := hid (show (w.alloc (.cells jSZ 33)).heap.size = w.heap.size + 1 by simp)
 have lt1 := X1.lt
 have HA := hid (And.intro (parse_at s.data.toList) (And.intro (parse_at_le s.data.toList) (parse_one s.data.toList)))
 have HLN := hid (show s.data.toList.length = s.size from Array.length_toList)
 clear hs hl hg
 go_enter func25, ntmps25
 go_wp2_with fail
 generalize (w.alloc (.cells jSZ 33)) = W1 at *
 refine HP.out.mono ?_; rintro e w2 ⟨v, rfl, hb2, A, c, rfl, hK⟩
 have X2 := X1.kept (Kept.of (x := W1.heap.size) hb2) (Nat.ne_of_lt lt1)
 have B2 := B1.trans (hb2.mono B1.size)
 have hK2 : KidsAt w2 (fun g => w.heap.size ≤ g ∧ g ≠ w.heap.size) (parseL s.data.toList).nd.kids A := hK.keep (Kept.refl w.heap.size w2) (fun g hg _ => by have := HW1.out; have hg' : W1.heap.size ≤ g := hg; exact ⟨by omega, by omega, by omega⟩)
 have lt2 := X2.lt
 have na2 : w.heap.size ≠ w2.heap.size := Nat.ne_of_lt lt2
 have nb2 : w2.heap.size ≠ w.heap.size := Ne.symm na2
 clear X1 B1 hK hb2 lt1 HP
 have EF := hid (show formL s.data.toList = (if (parseL s.data.toList).err = 0 then formR (parseL s.data.toList).nd else noneR ((parseL s.data.toList).at_ + 1) (parseL s.data.toList).err) from rfl)
 generalize hrr : parseL s.data.toList = r at *
 clear hrr
 obtain ⟨⟨f, kd⟩, pat, per⟩ := r
 simp only at hK2 EF HA ⊢
 obtain ⟨a0, a1, a3⟩ := HA.out
 have a2 : pat ≤ 300 := by have := HS.out; have := HLN.out; omega
 have i0 : IntKind.i64.wrap (pat + 1) = pat + 1 := IntWalk.i64_in _ (by omega)
 have HO := hid a3
 clear a1 a2 a3 HA
 obtain ⟨f0, f1, f2, f3, f4, f5, f6, f7, f8, f9, f10, f11, f12, f13, z0, z1, z2, z3, z4, z5, z6, z7, z8, z9, z10, z11, z12, z13⟩ := X2.cells
 have HK := hid hK2
 clear hK2 X2
 unfold nodeV
 by_cases hz : per = 0
 · subst hz
   have E := hid (EF.out.trans (if_pos rfl))
   clear EF HO
   go_wp2_with fail
   refine bodyPost_ret (v := .tuple #[.agg (jS 2 0 0 { data := #[] } f A kd.len c), .nilIface]) (by simp [results, results25, go_sem, f0, f1, f2, f3, f4, f5, f6, f7, f8, f9, f10, f11, f12, f13, lt2]) rfl (ReadIn.form (V := w2) E.out B2 rfl HK.out ?_)
   repeat (with_reducible first | exact Kept.refl _ _ | refine Kept.setCell ?_ _ _ | refine Kept.alloc ?_ _ | refine Kept.drew ?_ _ | refine kept_drew1 ?_)
 · have q5 : (per != 0) = true := by rw [bne, beq_eq_false_iff_ne.2 hz]; rfl
   have E := hid (EF.out.trans (if_neg hz))
   have HV := hid (ErrV.at_ (a := pat + 1) (HO.out.resolve_left hz))
   clear hz EF HO
   go_wp2_with fail
   refine bodyPost_ret (v := .tuple #[.agg jSZ, .iface 72 (.agg #[.int .i64 (pat + 1), .int .i64 per])]) (by simp [results, results25, go_sem, f0, f1, f2, f3, f4, f5, f6, f7, f8, f9, f10, f11, f12, f13, lt2]) rfl (ReadIn.nil (V := w2) E.out HV.out B2 ?_)
   repeat (with_reducible first | exact Kept.refl _ _ | refine Kept.setCell ?_ _ _ | refine Kept.alloc ?_ _ | refine Kept.drew ?_ _ | refine kept_drew1 ?_)
theorem creadValue (s : ByteArray) (w : World) (hl : LibIs w) : Calls prog 26 #[.string s] w (ReadIn w (plainL s.data.toList)) := by
 have X1 := SBox.new 33 w
 have B1 : Below w.heap.size w (w.alloc (.cells jSZ 33)) := (Below.refl _ _).alloc (Nat.le_refl _) _
 obtain ⟨f0, f1, f2, f3, f4, f5, f6, f7, f8, f9, f10, f11, f12, f13, z0, z1, z2, z3, z4, z5, z6, z7, z8, z9, z10, z11, z12, z13⟩ := X1.cells
 by_cases hT : s = { data := #[84, 82, 85, 69] }
 · have E := hid (show plainL s.data.toList = valR ⟨1, 1, nos⟩ from by unfold plainL; rw [hT]; exact if_pos rfl)
   have q1 : s.toList = [84, 82, 85, 69] := by rw [hT]; exact tl1
   have q2 : (s.toList == [84, 82, 85, 69]) = true := by rw [q1]; rfl
   clear hT
   go_enter func26, ntmps26
   go_wp2_with fail
   refine bodyPost_ret (v := .tuple #[.agg (jSV 1 1 1 { data := #[] } none 0), .nilIface]) (by simp [results, results26, go_sem, f0, f1, f2, f3, f4, f5, f6, f7, f8, f9, f10, f11, f12, f13]) rfl (ReadIn.val (V := w) E.out (Below.refl _ _) ?_)
   repeat (with_reducible first | exact Kept.refl _ _ | refine Kept.setCell ?_ _ _ | refine Kept.alloc ?_ _ | refine Kept.drew ?_ _ | refine kept_drew1 ?_)
 have q1 : ¬ s.toList = [84, 82, 85, 69] := fun e => absurd (ValueC.str_ne (s' := { data := #[84, 82, 85, 69] }) hT) (by rw [e, tl1]; decide)
 have q1' : (s.toList == [84, 82, 85, 69]) = false := beq_eq_false_iff_ne.2 q1
 by_cases hF : s = { data := #[70, 65, 76, 83, 69] }
 · have E := hid (show plainL s.data.toList = valR ⟨1, 0, nos⟩ from by unfold plainL; rw [hF]; rw [if_neg (by decide)]; exact if_pos rfl)
   have q3 : s.toList = [70, 65, 76, 83, 69] := by rw [hF]; exact tl2
   have q4 : (s.toList == [70, 65, 76, 83, 69]) = true := by rw [q3]; rfl
   clear hF hT
   go_enter func26, ntmps26
   go_wp2_with fail
   refine bodyPost_ret (v := .tuple #[.agg (jSV 1 1 0 { data := #[] } none 0), .nilIface]) (by simp [results, results26, go_sem, f0, f1, f2, f3, f4, f5, f6, f7, f8, f9, f10, f11, f12, f13]) rfl (ReadIn.val (V := w) E.out (Below.refl _ _) ?_)
   repeat (with_reducible first | exact Kept.refl _ _ | refine Kept.setCell ?_ _ _ | refine Kept.alloc ?_ _ | refine Kept.drew ?_ _ | refine kept_drew1 ?_)
 have q2 : ¬ s.toList = [70, 65, 76, 83, 69] := fun e => absurd (ValueC.str_ne (s' := { data := #[70, 65, 76, 83, 69] }) hF) (by rw [e, tl2]; decide)
 have q2' : (s.toList == [70, 65, 76, 83, 69]) = false := beq_eq_false_iff_ne.2 q2
 have EV := hid (show plainL s.data.toList = if parseB s.data.toList = true then valR ⟨2, parseN s.data.toList, nos⟩ else asText (unq s.data.toList) from by
   unfold plainL
   rw [if_neg (fun e => hT (by rw [← str_id s, e]; rfl)), if_neg (fun e => hF (by rw [← str_id s, e]; rfl))])
 have HP := hid (parse s (w.alloc (.cells jSZ 33)) (hl.below B1))
 have lt1 := X1.lt
 clear hT hF hl f0 f1 f2 f3 f4 f5 f6 f7 f8 f9 f10 f11 f12 f13 z0 z1 z2 z3 z4 z5 z6 z7 z8 z9 z10 z11 z12 z13
 go_enter func26, ntmps26
 go_wp2_with fail
 generalize (w.alloc (.cells jSZ 33)) = W1 at *
 refine HP.out.mono ?_; rintro e w2 ⟨rfl, hb2⟩
 have X2 := X1.kept (Kept.of (x := W1.heap.size) hb2) (Nat.ne_of_lt lt1)
 have B2 := B1.trans (hb2.mono B1.size)
 have lt2 := X2.lt
 clear X1 B1 hb2 lt1 HP
 generalize parseN s.data.toList = n at *
 cases hpb : parseB s.data.toList
 · rw [hpb, if_neg (by decide)] at EV
   clear hpb
   have ht : (⟨(Lib.trimPrefix s.data.toList [39]).toArray⟩ : ByteArray) = str (unq s.data.toList) := by rw [trim_unq]; rfl
   have HT := hid ht
   have HN := hid (str_size (unq s.data.toList))
   clear ht
   go_wp2_with fail
   refine (Tryz.strings_TrimPrefix s { data := #[39] } w2).mono ?_; rintro e w3 ⟨rfl, rfl⟩
   rw [show (⟨(Lib.trimPrefix s.data.toList (ByteArray.mk #[39]).data.toList).toArray⟩ : ByteArray) = str (unq s.data.toList) from HT.out]
   clear HT
   go_wp2_with fail
   refine (ValueC.of (str (unq s.data.toList)) w3).mono ?_
   by_cases h5 : 200 < (str (unq s.data.toList)).size
   · rw [show ValueC.ofV (str (unq s.data.toList)) = ⟨4, 7, nos⟩ from if_pos h5]
     have E := hid (show plainL s.data.toList = noneR 0 2 from EV.out.trans (by unfold asText; rw [if_pos (by rw [← HN.out]; exact h5)]))
     rintro e w4 ⟨rfl, hb4⟩
     have X4 := X2.kept (Kept.of (x := w3.heap.size) hb4) (Nat.ne_of_lt X2.lt)
     have B4 := B2.trans (hb4.mono B2.size)
     have lt4 := X4.lt
     have na4 : w.heap.size ≠ w4.heap.size := Nat.ne_of_lt lt4
     have nb4 : w4.heap.size ≠ w.heap.size := Ne.symm na4
     obtain ⟨f0, f1, f2, f3, f4, f5, f6, f7, f8, f9, f10, f11, f12, f13, z0, z1, z2, z3, z4, z5, z6, z7, z8, z9, z10, z11, z12, z13⟩ := X4.cells
     clear X2 X4 B2 hb4 h5 EV HN
     go_wp2_with fail
     refine bodyPost_ret (v := .tuple #[.agg jSZ, .iface 34 (.int .i64 2)]) (by simp [results, results26, go_sem, f0, f1, f2, f3, f4, f5, f6, f7, f8, f9, f10, f11, f12, f13, lt4]) rfl (ReadIn.nil (V := w4) E.out (ErrV.num (Or.inl rfl)) B4 ?_)
     repeat (with_reducible first | exact Kept.refl _ _ | refine Kept.setCell ?_ _ _ | refine Kept.alloc ?_ _ | refine Kept.drew ?_ _ | refine kept_drew1 ?_)
   · rw [show ValueC.ofV (str (unq s.data.toList)) = ⟨3, 0, str (unq s.data.toList)⟩ from if_neg h5]
     have E := hid (show plainL s.data.toList = valR ⟨3, 0, str (unq s.data.toList)⟩ from EV.out.trans (by unfold asText; rw [if_neg (by rw [← HN.out]; exact h5)]))
     rintro e w4 ⟨rfl, hb4⟩
     have X4 := X2.kept (Kept.of (x := w3.heap.size) hb4) (Nat.ne_of_lt X2.lt)
     have B4 := B2.trans (hb4.mono B2.size)
     have lt4 := X4.lt
     have na4 : w.heap.size ≠ w4.heap.size := Nat.ne_of_lt lt4
     have nb4 : w4.heap.size ≠ w.heap.size := Ne.symm na4
     obtain ⟨f0, f1, f2, f3, f4, f5, f6, f7, f8, f9, f10, f11, f12, f13, z0, z1, z2, z3, z4, z5, z6, z7, z8, z9, z10, z11, z12, z13⟩ := X4.cells
     clear X2 X4 B2 hb4 h5 EV HN
     generalize str (unq s.data.toList) = u at *
     go_wp2_with fail
     refine bodyPost_ret (v := .tuple #[.agg (jSV 1 3 0 u none 0), .nilIface]) (by simp [results, results26, go_sem, f0, f1, f2, f3, f4, f5, f6, f7, f8, f9, f10, f11, f12, f13, lt4]) rfl (ReadIn.val (V := w4) E.out B4 ?_)
     repeat (with_reducible first | exact Kept.refl _ _ | refine Kept.setCell ?_ _ _ | refine Kept.alloc ?_ _ | refine Kept.drew ?_ _ | refine kept_drew1 ?_)
 · rw [hpb, if_pos rfl] at EV
   clear hpb
   obtain ⟨f0, f1, f2, f3, f4, f5, f6, f7, f8, f9, f10, f11, f12, f13, z0, z1, z2, z3, z4, z5, z6, z7, z8, z9, z10, z11, z12, z13⟩ := X2.cells
   clear X2
   go_wp2_with fail
   refine bodyPost_ret (v := .tuple #[.agg (jSV 1 2 n { data := #[] } none 0), .nilIface]) (by simp [results, results26, go_sem, f0, f1, f2, f3, f4, f5, f6, f7, f8, f9, f10, f11, f12, f13, lt2]) rfl (ReadIn.val (V := w2) EV.out B2 ?_)
   repeat (with_reducible first | exact Kept.refl _ _ | refine Kept.setCell ?_ _ _ | refine Kept.alloc ?_ _ | refine Kept.drew ?_ _ | refine kept_drew1 ?_)
theorem cread (s : ByteArray) (w : World) (hl : LexLib w) (hg : ErrT w) : Calls prog 15 #[.string s] w (ReadIn w (readL s.data.toList)) := by
 have X1 := SBox.new 33 w
 have B1 : Below w.heap.size w (w.alloc (.cells jSZ 33)) := (Below.refl _ _).alloc (Nat.le_refl _) _
 have hlen : s.data.toList.length = s.size := Array.length_toList
 obtain ⟨f0, f1, f2, f3, f4, f5, f6, f7, f8, f9, f10, f11, f12, f13, z0, z1, z2, z3, z4, z5, z6, z7, z8, z9, z10, z11, z12, z13⟩ := X1.cells
 go_enter func15, ntmps15
 by_cases h1 : 300 < s.size
 · have E := hid (read_long (s := s.data.toList) (by omega))
   have t1 : (300 : Int) < (s.size : Int) := by omega
   have HV := hid (ErrV.num (n := 2) (Or.inl rfl))
   clear hl hg
   go_wp2_with fail
   refine bodyPost_ret (v := .tuple #[.agg jSZ, .iface 34 (.int .i64 2)]) (by simp [results, results15, go_sem, f0, f1, f2, f3, f4, f5, f6, f7, f8, f9, f10, f11, f12, f13]) rfl (ReadIn.nil (V := (w.alloc (.cells jSZ 33))) E.out HV.out B1 ?_)
   repeat (with_reducible first | exact Kept.refl _ _ | refine Kept.setCell ?_ _ _ | refine Kept.alloc ?_ _ | refine Kept.drew ?_ _ | refine kept_drew1 ?_)
 have t1 : ¬ (300 : Int) < (s.size : Int) := by omega
 by_cases h2 : s.size = 0
 · obtain ⟨y1, y2⟩ := ValueC.yes_none h2
   have E := hid (show readL s.data.toList = noneR 0 0 from by rw [show s.data.toList = [] from by rw [List.eq_nil_iff_length_eq_zero]; omega]; exact read_none)
   clear h1 hl hg
   go_wp2_with fail
   refine bodyPost_ret (v := .tuple #[.agg jSZ, .nilIface]) (by simp [results, results15, go_sem, f0, f1, f2, f3, f4, f5, f6, f7, f8, f9, f10, f11, f12, f13]) rfl (ReadIn.nil (V := (w.alloc (.cells jSZ 33))) E.out ErrV.none B1 ?_)
   repeat (with_reducible first | exact Kept.refl _ _ | refine Kept.setCell ?_ _ _ | refine Kept.alloc ?_ _ | refine Kept.drew ?_ _ | refine kept_drew1 ?_)
 obtain ⟨y1, y2⟩ := ValueC.not_none h2
 have HLN := hid hlen
 have HL := hid (hl.below B1)
 have HG := hid (hg.below B1)
 have lt1 := X1.lt
 have HW1 := hid (show (w.alloc (.cells jSZ 33)).heap.size = w.heap.size + 1 by simp)
 have HLEN : Hid (s.size ≤ 300) := hid (by omega)
 clear hl hg hlen f0 f1 f2 f3 f4 f5 f6 f7 f8 f9 f10 f11 f12 f13 z0 z1 z2 z3 z4 z5 z6 z7 z8 z9 z10 z11 z12 z13
 by_cases h3 : s.data.toList.head? = some 61
 · obtain ⟨t, ht⟩ : ∃ t, s.data.toList = 61 :: t := by
     cases hs : s.data.toList with
     | nil => rw [hs] at h3; cases h3
     | cons c r => rw [hs] at h3; exact ⟨r, by rw [Option.some.inj h3]⟩
   have htl : (str t).size ≤ 300 := by
     rw [str_size]
     have h8 := HLN.out
     rw [ht, List.length_cons] at h8
     have := HLEN.out
     omega
   have E0 := hid (show readL s.data.toList = formL (str t).data.toList from by
     rw [ht, read_eq (by rw [← ht, HLN.out]; exact h1), PrintC.str_back])
   have HC := hid (Tryz.strings_CutPrefix s { data := #[61] } (w.alloc (.cells jSZ 33)))
   rw [show Lib.trimPrefix s.data.toList (ByteArray.mk #[61]).data.toList = t from by rw [ht]; rfl, show Lib.hasPrefix s.data.toList (ByteArray.mk #[61]).data.toList = true from by rw [ht]; rfl] at HC
   clear h3 ht h1 h2
   go_wp2_with fail
   generalize (w.alloc (.cells jSZ 33)) = W1 at *
   refine HC.out.mono ?_; rintro e w9 ⟨rfl, rfl⟩
   rw [show (⟨t.toArray⟩ : ByteArray) = str t from rfl]
   generalize str t = u at *
   go_wp2_with fail
   have HR := creadFormula u w9 htl HL.out HG.out
   generalize formL u.data.toList = r at *
   refine HR.mono ?_; rintro e w2 ⟨A, c, EE, rfl, hE, hb2, hK⟩
   have X2 := X1.kept (Kept.of (x := w9.heap.size) hb2) (Nat.ne_of_lt lt1)
   have B2 := B1.trans (hb2.mono B1.size)
   have lt2 := X2.lt
   have hK2 : KidsAt w2 (fun g => w.heap.size ≤ g ∧ g ≠ w.heap.size) r.nd.kids A := hK.keep (Kept.refl w.heap.size w2) (fun g hg _ => by have := HW1.out; have hg' : w9.heap.size ≤ g := hg; exact ⟨by omega, by omega, by omega⟩)
   clear HR HC hK hb2 B1 X1 lt1
   obtain ⟨k, ⟨vk, vn, vs⟩, ⟨f, kd⟩, pat, per⟩ := r
   simp only at hK2 hE ⊢
   have HK := hid hK2
   have HV := hid hE
   clear hK2 hE
   obtain ⟨f0, f1, f2, f3, f4, f5, f6, f7, f8, f9, f10, f11, f12, f13, z0, z1, z2, z3, z4, z5, z6, z7, z8, z9, z10, z11, z12, z13⟩ := X2.cells
   clear X2
   go_wp2_with fail
   refine bodyPost_ret (v := .tuple #[.agg (jS k vk vn vs f A kd.len c), EE]) (by simp [results, results15, go_sem, f0, f1, f2, f3, f4, f5, f6, f7, f8, f9, f10, f11, f12, f13, lt2]) rfl (ReadIn.pass (V := w2) E0.out HV.out B2 rfl HK.out ?_)
   repeat (with_reducible first | exact Kept.refl _ _ | refine Kept.setCell ?_ _ _ | refine Kept.alloc ?_ _ | refine Kept.drew ?_ _ | refine kept_drew1 ?_)
 · have E0 := hid (read_plain (s := s.data.toList) (by rw [HLN.out]; exact h1) (by rw [List.ne_nil_iff_length_pos, HLN.out]; omega) h3)
   have HC := hid (Tryz.strings_CutPrefix s { data := #[61] } (w.alloc (.cells jSZ 33)))
   rw [show Lib.hasPrefix s.data.toList (ByteArray.mk #[61]).data.toList = false from cut_no h3] at HC
   clear h3 h1 h2
   go_wp2_with fail
   generalize (w.alloc (.cells jSZ 33)) = W1 at *
   refine HC.out.mono ?_; rintro e w9 ⟨rfl, rfl⟩
   go_wp2_with fail
   have HR := creadValue s w9 HL.out.lib
   generalize plainL s.data.toList = r at *
   refine HR.mono ?_; rintro e w2 ⟨A, c, EE, rfl, hE, hb2, hK⟩
   have X2 := X1.kept (Kept.of (x := w9.heap.size) hb2) (Nat.ne_of_lt lt1)
   have B2 := B1.trans (hb2.mono B1.size)
   have lt2 := X2.lt
   have hK2 : KidsAt w2 (fun g => w.heap.size ≤ g ∧ g ≠ w.heap.size) r.nd.kids A := hK.keep (Kept.refl w.heap.size w2) (fun g hg _ => by have := HW1.out; have hg' : w9.heap.size ≤ g := hg; exact ⟨by omega, by omega, by omega⟩)
   clear HR HC hK hb2 B1 X1 lt1
   obtain ⟨k, ⟨vk, vn, vs⟩, ⟨f, kd⟩, pat, per⟩ := r
   simp only at hK2 hE ⊢
   have HK := hid hK2
   have HV := hid hE
   clear hK2 hE
   obtain ⟨f0, f1, f2, f3, f4, f5, f6, f7, f8, f9, f10, f11, f12, f13, z0, z1, z2, z3, z4, z5, z6, z7, z8, z9, z10, z11, z12, z13⟩ := X2.cells
   clear X2
   go_wp2_with fail
   refine bodyPost_ret (v := .tuple #[.agg (jS k vk vn vs f A kd.len c), EE]) (by simp [results, results15, go_sem, f0, f1, f2, f3, f4, f5, f6, f7, f8, f9, f10, f11, f12, f13, lt2]) rfl (ReadIn.pass (V := w2) E0.out HV.out B2 rfl HK.out ?_)
   repeat (with_reducible first | exact Kept.refl _ _ | refine Kept.setCell ?_ _ _ | refine Kept.alloc ?_ _ | refine Kept.drew ?_ _ | refine kept_drew1 ?_)
end Go.Proofs.YticehalcnbjccaaGreatDoor.SourceC
