/-
  Contracts of print's code: a tree's text (closed, listed, written).
-/
import Derived.Test.YticehalcnbjccaaGreatDoorRPrintQ
import Derived.Test.YticehalcnbjccaaGreatDoorRTreeV
import Derived.Test.YticehalcnbjccaaGreatDoorRTreeP8
import Derived.Test.YticehalcnbjccaaGreatDoorRTreeP0
import Derived.Test.YticehalcnbjccaaGreatDoorRAddrD
import Derived.Test.YticehalcnbjccaaGreatDoorRNumG
import Derived.Test.YticehalcnbjccaaGreatDoorRTreeK6
import Derived.OwnWalk
import Derived.Deep.MidRow
namespace Go.Proofs.YticehalcnbjccaaGreatDoor.PrintC
set_option maxRecDepth 100000
set_option maxHeartbeats 8000000
set_option linter.unusedVariables false
open Go.RowKit NumC LexC TreeC
open Cd
open Tryz
open Lib (hid)
theorem wrap_str (x : List UInt8) : ({ data := #[40] } : ByteArray) ++ str x ++ { data := #[41] } = str (40 :: (x ++ [41])) := by
 show str [40] ++ str x ++ str [41] = _
 rw [str_app, str_app]; rfl
def Wr (a : Nd) : Prop := ∀ (A : Option Addr) (c : Nat) (w : World), LexLib w → KidsAt w (fun g => g < w.heap.size) a.kids A →
 Calls prog 96 #[.agg (jN a.f A a.kids.len c)] w fun e w' => e = .returned (.string (str (textN a))) ∧ Below w.heap.size w w'
theorem cclosed (a : Nd) (h : Wr a) (least : Nat) (hsz : (textN a).length ≤ 1000000) (A : Option Addr) (c : Nat) (w : World) (hl : LexLib w) (hK : KidsAt w (fun g => g < w.heap.size) a.kids A) :
   Calls prog 115 #[.agg (jN a.f A a.kids.len c), .int .i64 least] w fun e w' => e = .returned (.string (str (closeT (textN a, rowN a) least))) ∧ Below w.heap.size w w' := by
 have hb1 : Below w.heap.size w (w.alloc (.cells (jN a.f A a.kids.len c) 31)) := (Below.refl _ _).alloc (Nat.le_refl _) _
 have L1 : NLoc (w.alloc (.cells (jN a.f A a.kids.len c) 31)) w.heap.size a.f A a.kids.len c := ⟨heap_alloc_new _ _⟩
 have HK := hid (below_row hK hb1)
 have HL := hid (hl.below hb1)
 have HW := hid h
 have hT : (str (textN a)).size ≤ 1000000 := by rw [str_size]; exact hsz
 have E1 : Hid (rowK a.f < least → str (closeT (textN a, rowN a) least) = { data := #[40] } ++ str (textN a) ++ { data := #[41] }) := hid (fun h => by rw [wrap_str]; unfold closeT; rw [if_pos (show (textN a, rowN a).2 < least from h)])
 have E2 : Hid (¬ rowK a.f < least → str (closeT (textN a, rowN a) least) = str (textN a)) := hid (fun h => by unfold closeT; rw [if_neg (show ¬ (textN a, rowN a).2 < least from h)])
 clear hK hl h hsz
 obtain ⟨f, kd⟩ := a
 simp only at *
 obtain ⟨d0, d1, d2, d3, d4, d5, d6, d7, d8, d9, -⟩ := L1.cells
 go_enter func115, ntmps115
 go_wp2_with fail
 generalize (w.alloc (.cells (jN f A kd.len c) 31)) = W1 at *
 refine (crow f A kd.len c W1).mono ?_; rintro e w2 ⟨rfl, hb2⟩
 have L2 := L1.kept (Kept.of (x := W1.heap.size) hb2) (Nat.ne_of_lt L1.lt)
 have HK2 := hid (below_row HK.out hb2)
 have HL2 := hid (HL.out.below hb2)
 have HB := hid (hb1.trans (hb2.mono hb1.size))
 clear d0 d1 d2 d3 d4 d5 d6 d7 d8 d9 L1 HK HL hb1 hb2
 obtain ⟨d0, d1, d2, d3, d4, d5, d6, d7, d8, d9, -⟩ := L2.cells
 by_cases hlt : rowK f < least
 · have t1 : ((rowK f : Nat) : Int) < (least : Int) := by omega
   have E := hid (E1.out hlt)
   clear hlt E1 E2
   go_wp2_with fail
   refine (HW.out A c w2 HL2.out HK2.out).mono ?_; rintro e w3 ⟨rfl, hb3⟩
   generalize str (textN ⟨f, kd⟩) = T at *
   have s1 : ¬ 9223372036854775807 < 1 + T.size := by omega
   have s2 : ¬ 9223372036854775807 < 1 + T.size + 1 := by omega
   go_wp2_with fail
   go_ret
   exact ⟨by rw [E.out]; rfl, HB.out.trans (hb3.mono HB.out.size)⟩
 · have t1 : ¬ ((rowK f : Nat) : Int) < (least : Int) := by omega
   have E := hid (E2.out hlt)
   clear hlt E1 E2
   go_wp2_with fail
   refine (HW.out A c w2 HL2.out HK2.out).mono ?_; rintro e w3 ⟨rfl, hb3⟩
   go_wp2_with fail
   go_ret
   exact ⟨by rw [E.out]; rfl, HB.out.trans (hb3.mono HB.out.size)⟩
theorem joinT_eq : ∀ l : List (List UInt8), joinT l = Lib.join l [44]
 | [] => rfl
 | [x] => by simp [joinT, Lib.join, List.intercalate]
 | x :: y :: r => by
   have := joinT_eq (y :: r)
   rw [joinT_cons, this]
   simp [Lib.join, List.intercalate, List.intersperse]
structure TxIn (w wr : World) (kd : Fo) (i g : Nat) : Prop where
 below : Below w.heap.size w wr
 lt : g < wr.heap.size
 gt : w.heap.size ≤ g
 room : wr.there g 0 kd.len
 items : ∀ j, j < i → wr.cell? ⟨g, j, none⟩ = some (.string (str (textN (kd.nth j))))
theorem str_info : (prog.info? 9).map (fun i => (i.zero, i.size, i.bytes)) = some (some (.string { data := #[] }), 1, 16) := by kernel_rfl
theorem own_there1 {w : World} {base n g : Nat} {e : TypeId} {xs : List Value} (h : w.ownsRow base e 1 (.slice (some ⟨g, 0, none⟩) n n) n xs) : w.there g 0 n ∧ g < w.heap.size := by
 rcases h.2 with ⟨h, -⟩ | ⟨g', cap, cur, he, hb, hg, h1, h2, hs, -⟩
 · cases h
 · injection he with he1 he2 he3
   injection he1 with he1
   injection he1 with he1
   subst he1 he3
   refine ⟨fun j hj => ?_, (Array.getElem?_eq_some_iff.1 hg).1⟩
   have hj2 : j < cur.size := by omega
   constructor <;> simp [World.cell?, World.frozen?, hg, hj2]
theorem TxIn.start {w W5 w6 : World} {kd : Fo} {e : TypeId} {xs : List Value} (B5 : Below w.heap.size w W5)
   (ho6 : w6.ownsRow 0 e 1 (.slice (some ⟨W5.heap.size, 0, none⟩) kd.len kd.len) kd.len xs) (hg6 : W5.grownBy w6 none) : TxIn w w6 kd 0 W5.heap.size := by
 have h1 : Below W5.heap.size W5 w6 := below_grown (Below.refl _ _) (Nat.le_refl _) hg6 (fun k h => by cases h)
 exact ⟨B5.trans (h1.mono B5.size), (own_there1 ho6).2, B5.size, (own_there1 ho6).1, fun j hj => absurd hj (Nat.not_lt_zero _)⟩
theorem there_below {w w' : World} {g o n : Nat} (h : w.there g o n) (hb : Below w.heap.size w w') (hg : g < w.heap.size) : w'.there g o n := fun j hj => by
 have h1 := h j hj
 have h2 := hb.block g hg
 unfold World.cell? World.frozen? at h1 ⊢
 rw [h2]
 exact h1
theorem TxIn.step {w wr W1 w2 : World} {kd : Fo} {i g : Nat} (h : TxIn w wr kd i g) (hi : i < kd.len) (h1 : Below wr.heap.size wr W1) (h2 : Below W1.heap.size W1 w2) :
   TxIn w (w2.setCell ⟨g, i, none⟩ (.string (str (textN (kd.nth i))))) kd (i + 1) g := by
 have hB : Below wr.heap.size wr w2 := h1.trans (h2.mono h1.size)
 have s1 := h.below.size
 have s2 := hB.size
 have l0 := h.lt
 have g0 := h.gt
 have kk : Kept g w2 (w2.setCell ⟨g, i, none⟩ (.string (str (textN (kd.nth i))))) := (Kept.refl g w2).setCell _ _
 have k2 := (Kept.of (x := g) hB).trans kk
 have t2 := there_below h.room hB l0
 have hx := t2 i hi
 rw [Nat.zero_add] at hx
 refine ⟨h.below.trans (k2.under (by omega) s1), Nat.lt_of_lt_of_le l0 k2.size, g0, World.there_setCells t2 g i [.string (str (textN (kd.nth i)))], fun j hj => ?_⟩
 by_cases hji : j = i
 · subst hji
   obtain ⟨v, hv⟩ := Option.isSome_iff_exists.1 hx.1
   have e := World.rangeAt_setCells_same (w := w2) (b := g) (o := j) [.string (str (textN (kd.nth j)))] (fun q hq => by
     have : q = 0 := by simpa using hq
     subst this
     exact hx)
   exact e 0 _ rfl
 · have e1 := (Kept.of (x := w2.heap.size) hB).cell (by omega) (h.items j (by omega))
   rw [← e1]
   show (w2.setCell ⟨g, i, none⟩ _).cell? ⟨g, j, none⟩ = _
   simp only [World.setCell, World.cell?, Array.getElem?_modify, if_true]
   cases hg : w2.heap[g]? with
   | none => rfl
   | some ob => cases ob <;> simp [Ne.symm hji]
theorem clisted (kd : Fo) (h : ∀ i, i < kd.len → Wr (kd.nth i)) (A : Option Addr) (c : Nat) (w : World) (hsz : (joinT ((texts kd).map (·.1))).length ≤ 1000000) (hlen : kd.len ≤ 2000) (hl : LexLib w) (hK : KidsAt w (fun g => g < w.heap.size) kd A) :
   Calls prog 118 #[.slice A kd.len c] w fun e w' => e = .returned (.string (str (joinT ((texts kd).map (·.1))))) ∧ Below w.heap.size w w' := by
 have HK := hid hK
 have HL := hid hl
 have HW := hid h
 have HS := hid hsz
 clear hK hl h hsz
 go_enter func118, ntmps118
 obtain ⟨i0, hi, hz0, hz1, hz2⟩ := info_parts str_info
 go_wp2_with (at_make
              refine wpList_make_full _ rfl (.tmp 7) (.tmp 7) 118 rfl 0 9 i0 _ 1 underlying118 hi hz0 hz1 .i64 .i64 (kd.len : Int) (kd.len : Int) kd.len rfl rfl rfl rfl (by rw [hz2]; omega) (by unfold maxLen; omega) (Nat.zero_le _) ?_
              intro w6 ho6 hg6
              have HC := hid (TxIn.start (Below.refl _ _) ho6 hg6)
              clear ho6 hg6)
 go_loopw [11] (fun iv wr => ∃ i : Nat, i ≤ kd.len ∧ iv = .int .i64 i ∧ Hid (TxIn w wr kd i w.heap.size)) (fun iv _ => kd.len - (intOf iv).toNat)
 case atStart => exact ⟨0, Nat.zero_le _, rfl, HC⟩
 case round =>
   clear HC
   obtain ⟨i, hi0, rfl, HR⟩ := hrel
   have HKr := below_row HK.out HR.out.below
   by_cases hlt : i < kd.len
   · have t1 : (i : Int) < (kd.len : Int) := by omega
     obtain ⟨ga, o, rfl, hrow⟩ : ∃ ga o, A = some ⟨ga, o, none⟩ ∧ RowAt wr (fun g => g < wr.heap.size) kd ga o := by
       rcases HKr with h | h
       · rw [h] at hlt; exact absurd hlt (by simp [Fo.len])
       · exact h
     obtain ⟨A2, c2, hk2, hp, f0, f1, f2, f3, f4, f5, f6, f7, f8, f9⟩ := RowAt.nth kd ga o i hrow hlt
     have hB2 : Below wr.heap.size wr (wr.alloc (.cells (jN (kd.nth i).f A2 (kd.nth i).kids.len c2) 31)) := (Below.refl _ _).alloc (Nat.le_refl _) _
     have HI := hid (HW.out i hlt A2 c2 _ (HL.out.below (HR.out.below.trans (hB2.mono HR.out.below.size))) (below_row hk2 hB2))
     have HB2 := hid hB2
     clear hrow hk2 HKr hB2
     go_wp2_with fail
     refine HI.out.mono ?_; rintro e w2 ⟨rfl, hb2⟩
     have HS := hid (HR.out.step hlt HB2.out hb2)
     have ht := there_below HR.out.room (HB2.out.trans (hb2.mono HB2.out.size)) HR.out.lt i hlt
     rw [Nat.zero_add] at ht
     obtain ⟨v0, e0⟩ : ∃ v, w2.cell? ⟨w.heap.size, i, none⟩ = some v := Option.isSome_iff_exists.1 ht.1
     have y0 : w2.frozen? ⟨w.heap.size, i, none⟩ = false := ht.2
     clear hb2 HB2 HI f0 f1 f2 f3 f4 f5 f6 f7 f8 f9 ht
     go_wp2_with fail
     go_roundw
     case rel => exact ⟨i + 1, by omega, by go_num, HS⟩
     case measure => simp [intOf]; omega
   · have hie : i = kd.len := by omega
     subst hie
     clear HKr
     have t1 : ¬ (kd.len : Int) < (kd.len : Int) := by omega
     have HJ : Calls prog 143 #[.slice (some ⟨w.heap.size, 0, none⟩) kd.len kd.len, .string { data := #[44] }] wr fun e w' => e = .returned (.string (str (joinT ((texts kd).map (·.1))))) ∧ Below wr.heap.size wr w' := by
       have e1 : ((texts kd).map (fun p => str p.1)).length = kd.len := by rw [List.length_map, texts_length]
       have e2 : ((texts kd).map (fun p => str p.1)).map (·.data.toList) = (texts kd).map (·.1) := by
         rw [List.map_map]; apply List.map_congr_left; intro q _; exact str_back q.1
       have e3 : Lib.join (((texts kd).map (fun p => str p.1)).map (·.data.toList)) ({ data := #[44] } : ByteArray).data.toList = joinT ((texts kd).map (·.1)) := by rw [e2, joinT_eq]
       have := Tryz.strings_Join w.heap.size 0 kd.len ((texts kd).map (fun p => str p.1)) { data := #[44] } wr (fun j x hj => by
         have hj2 : j < kd.len := by
           have := (List.getElem?_eq_some_iff.1 hj).1
           rwa [e1] at this
         rw [Nat.zero_add, HR.out.items j hj2]
         rw [List.getElem?_map, texts_nth kd j hj2] at hj
         injection hj with hj
         rw [← hj]) HR.out.lt (by rw [e1]; omega) (by rw [e1]; exact Nat.le_refl _) (by rw [e3]; exact Nat.le_trans HS.out (by decide))
       rw [e1, e3] at this
       exact this
     have HB := hid HR.out.below
     have HJ2 := hid HJ
     clear HJ
     go_wp2_with fail
     refine HJ2.out.mono ?_; rintro e w3 ⟨rfl, hb3⟩
     go_wp2_with fail
     go_ret
     exact ⟨rfl, HB.out.trans (hb3.mono HB.out.size)⟩
theorem cw1 (f : Fld) (A : Option Addr) (m c : Nat) (w : World) (hk : f.k = 1) (hc : constB f.vk f.vn f.vs = true) (hn : f.vn ≤ 9223372036854775807) (hl : LexLib w) :
   Calls prog 96 #[.agg (jN f A m c)] w fun e w' => e = .returned (.string (str (constT f.vk f.vn f.vs))) ∧ Below w.heap.size w w' := by
 have hb1 : Below w.heap.size w (w.alloc (.cells (jN f A m c) 31)) := (Below.refl _ _).alloc (Nat.le_refl _) _
 have L1 : NLoc (w.alloc (.cells (jN f A m c) 31)) w.heap.size f A m c := ⟨heap_alloc_new _ _⟩
 have e1 : (f.k == 1) = true := beq_iff_eq.2 hk
 have HC := hid (cconst f.vk f.vn f.vs _ hc hn (hl.below hb1))
 clear hk hc hn hl
 obtain ⟨d0, d1, d2, d3, d4, d5, d6, d7, d8, d9, -⟩ := L1.cells
 go_enter func96, ntmps96
 go_wp2_with fail
 generalize (w.alloc (.cells (jN f A m c) 31)) = W1 at *
 refine HC.out.mono ?_; rintro e w2 ⟨rfl, hb2⟩
 go_wp2_with fail
 go_ret
 exact ⟨rfl, hb1.trans (hb2.mono hb1.size)⟩
theorem cw2 (f : Fld) (A : Option Addr) (m c : Nat) (w : World) (hk : f.k = 2) (hl : LexLib w) :
   Calls prog 96 #[.agg (jN f A m c)] w fun e w' => e = .returned (.string (str (AddrC.nameL f.r1 f.r2))) ∧ Below w.heap.size w w' := by
 have hb1 : Below w.heap.size w (w.alloc (.cells (jN f A m c) 31)) := (Below.refl _ _).alloc (Nat.le_refl _) _
 have L1 : NLoc (w.alloc (.cells (jN f A m c) 31)) w.heap.size f A m c := ⟨heap_alloc_new _ _⟩
 have e1 : (f.k == 1) = false := beq_eq_false_iff_ne.2 (by omega)
 have e2 : (f.k == 2) = true := beq_iff_eq.2 hk
 have HC := hid (AddrC.name f.r1 f.r2 _ (hl.below hb1).lib)
 clear hk hl
 obtain ⟨d0, d1, d2, d3, d4, d5, d6, d7, d8, d9, -⟩ := L1.cells
 go_enter func96, ntmps96
 go_wp2_with fail
 generalize (w.alloc (.cells (jN f A m c) 31)) = W1 at *
 refine HC.out.mono ?_; rintro e w2 ⟨rfl, hb2⟩
 go_wp2_with fail
 go_ret
 exact ⟨rfl, hb1.trans (hb2.mono hb1.size)⟩
theorem cw3 (f : Fld) (A : Option Addr) (m c : Nat) (w : World) (hk : f.k = 3) (hc : AddrC.FineP f.r1 f.r2 f.r3 f.r4) (hl : LexLib w) :
   Calls prog 96 #[.agg (jN f A m c)] w fun e w' => e = .returned (.string (str (AddrC.nameL f.r1 f.r2 ++ 58 :: AddrC.nameL f.r3 f.r4))) ∧ Below w.heap.size w w' := by
 have hb1 : Below w.heap.size w (w.alloc (.cells (jN f A m c) 31)) := (Below.refl _ _).alloc (Nat.le_refl _) _
 have L1 : NLoc (w.alloc (.cells (jN f A m c) 31)) w.heap.size f A m c := ⟨heap_alloc_new _ _⟩
 have e1 : (f.k == 1) = false := beq_eq_false_iff_ne.2 (by omega)
 have e2 : (f.k == 2) = false := beq_eq_false_iff_ne.2 (by omega)
 have e3 : (f.k == 3) = true := beq_iff_eq.2 hk
 have h1 := name_len hc.1
 have h2 := name_len hc.2.1
 have E := hid (show str (AddrC.nameL f.r1 f.r2) ++ { data := #[58] } ++ str (AddrC.nameL f.r3 f.r4) = str (AddrC.nameL f.r1 f.r2 ++ 58 :: AddrC.nameL f.r3 f.r4) by
   show str _ ++ str [58] ++ str _ = _
   rw [str_app, str_app, List.append_assoc]; rfl)
 have HL := hid (hl.below hb1)
 have HB := hid hb1
 have N1 := hid (fun (W : World) (h : LexLib W) => AddrC.name f.r1 f.r2 W h.lib)
 have N2 := hid (fun (W : World) (h : LexLib W) => AddrC.name f.r3 f.r4 W h.lib)
 have s1 : (str (AddrC.nameL f.r1 f.r2)).size ≤ 22 := by rw [str_size]; exact h1
 have s2 : (str (AddrC.nameL f.r3 f.r4)).size ≤ 22 := by rw [str_size]; exact h2
 have n1 : (⟨(AddrC.nameL f.r1 f.r2).toArray⟩ : ByteArray) = str (AddrC.nameL f.r1 f.r2) := rfl
 have n2 : (⟨(AddrC.nameL f.r3 f.r4).toArray⟩ : ByteArray) = str (AddrC.nameL f.r3 f.r4) := rfl
 rw [n1] at N1
 rw [n2] at N2
 generalize str (AddrC.nameL f.r1 f.r2 ++ 58 :: AddrC.nameL f.r3 f.r4) = R at *
 generalize str (AddrC.nameL f.r1 f.r2) = X at *
 generalize str (AddrC.nameL f.r3 f.r4) = Y at *
 have t1 : ¬ 9223372036854775807 < X.size + 1 := by omega
 have t2 : ¬ 9223372036854775807 < X.size + 1 + Y.size := by omega
 clear hk hc hl h1 h2 hb1 n1 n2
 obtain ⟨d0, d1, d2, d3, d4, d5, d6, d7, d8, d9, -⟩ := L1.cells
 go_enter func96, ntmps96
 go_wp2_with fail
 generalize (w.alloc (.cells (jN f A m c) 31)) = W1 at *
 replace d0 := Gr.cell _ _ _ (Below.refl _ _) d0
 replace d1 := Gr.cell _ _ _ (Below.refl _ _) d1
 replace d2 := Gr.cell _ _ _ (Below.refl _ _) d2
 replace d3 := Gr.cell _ _ _ (Below.refl _ _) d3
 replace d4 := Gr.cell _ _ _ (Below.refl _ _) d4
 replace d5 := Gr.cell _ _ _ (Below.refl _ _) d5
 replace d6 := Gr.cell _ _ _ (Below.refl _ _) d6
 replace d7 := Gr.cell _ _ _ (Below.refl _ _) d7
 replace d8 := Gr.cell _ _ _ (Below.refl _ _) d8
 replace d9 := Gr.cell _ _ _ (Below.refl _ _) d9
 have LG : ∀ u : Gr W1, LexLib u.now := fun u => HL.out.below u.below
 refine region_grown (by kernel_rfl) (by kernel_rfl) ?_
 repeat (go_big_quiet_step (first | (go_at_call 114; first | with_reducible exact grown_of (N1.out _ (LG _)) | with_reducible exact grown_of (N2.out _ (LG _)))))
 refine wpQuiet_nil ?_
 intro w5 hw5; obtain ⟨u, rfl⟩ := hw5
 go_wp2_with fail
 go_ret
 exact ⟨by rw [← E.out]; rfl, HB.out.trans (u.below.mono HB.out.size)⟩
theorem cw4 (f : Fld) (A : Option Addr) (m c : Nat) (w : World) (f1 : Fld) (k1 : Fo) (hk : f.k = 4) (hm : m = 1) (h1 : Wr ⟨f1, k1⟩) (hsz : (textN ⟨f1, k1⟩).length ≤ 1000000) (hl : LexLib w) (hK : KidsAt w (fun g => g < w.heap.size) (.cons f1 k1 .nil) A) :
   Calls prog 96 #[.agg (jN f A m c)] w fun e w' => e = .returned (.string (str (45 :: closeT (textN ⟨f1, k1⟩, rowN ⟨f1, k1⟩) 5))) ∧ Below w.heap.size w w' := by
 have hb1 : Below w.heap.size w (w.alloc (.cells (jN f A m c) 31)) := (Below.refl _ _).alloc (Nat.le_refl _) _
 have L1 : NLoc (w.alloc (.cells (jN f A m c) 31)) w.heap.size f A m c := ⟨heap_alloc_new _ _⟩
 have e1 : (f.k == 1) = false := beq_eq_false_iff_ne.2 (by omega)
 have e2 : (f.k == 2) = false := beq_eq_false_iff_ne.2 (by omega)
 have e3 : (f.k == 3) = false := beq_eq_false_iff_ne.2 (by omega)
 have e4 : (f.k == 4) = true := beq_iff_eq.2 hk
 have hKd := below_row hK hb1
 obtain ⟨g, o, rfl, ⟨hp, f0, f1', f2, f3, f4, f5, f6, f7, f8⟩, ⟨A1, c1, f9, hk1⟩, -⟩ : ∃ g o, A = some ⟨g, o, none⟩ ∧ RowAt (w.alloc (.cells (jN f A m c) 31)) (fun g => g < (w.alloc (.cells (jN f A m c) 31)).heap.size) (.cons f1 k1 .nil) g o := by
   rcases hKd with h | h
   · cases h
   · exact h
 have HL := hid (hl.below hb1)
 have HB := hid hb1
 have HC := hid (cclosed ⟨f1, k1⟩ h1 5 hsz A1 c1 _ HL.out hk1)
 have hs := close_len (textN ⟨f1, k1⟩, rowN ⟨f1, k1⟩) 5
 have hs2 : (str (closeT (textN ⟨f1, k1⟩, rowN ⟨f1, k1⟩) 5)).size ≤ 1000002 := by rw [str_size]; simp only at hs; omega
 have E : Hid ({ data := #[45] } ++ str (closeT (textN ⟨f1, k1⟩, rowN ⟨f1, k1⟩) 5) = str (45 :: closeT (textN ⟨f1, k1⟩, rowN ⟨f1, k1⟩) 5)) := hid (by
   show str [45] ++ str _ = _
   rw [str_app]; rfl)
 generalize str (45 :: closeT (textN ⟨f1, k1⟩, rowN ⟨f1, k1⟩) 5) = R at *
 generalize str (closeT (textN ⟨f1, k1⟩, rowN ⟨f1, k1⟩) 5) = X at *
 have t1 : ¬ 9223372036854775807 < 1 + X.size := by omega
 subst hm
 clear hk hl hK hKd h1 hsz hs hk1 hb1
 simp only at HC
 obtain ⟨d0, d1, d2, d3, d4, d5, d6, d7, d8, d9, -⟩ := L1.cells
 go_enter func96, ntmps96
 go_wp2_with fail
 refine HC.out.mono ?_; rintro e w2 ⟨rfl, hb2⟩
 go_wp2_with fail
 go_ret
 exact ⟨by rw [← E.out]; rfl, HB.out.trans (hb2.mono HB.out.size)⟩
theorem cw5 (f : Fld) (A : Option Addr) (m c : Nat) (w : World) (f1 f2 : Fld) (k1 k2 : Fo) (hk : f.k = 5) (hm : m = 2) (hr : 1 ≤ rowK f ∧ rowK f ≤ 4) (hop : f.op.size ≤ 2) (h1 : Wr ⟨f1, k1⟩) (h2 : Wr ⟨f2, k2⟩) (hsz1 : (textN ⟨f1, k1⟩).length ≤ 1000000) (hsz2 : (textN ⟨f2, k2⟩).length ≤ 1000000) (hl : LexLib w) (hK : KidsAt w (fun g => g < w.heap.size) (.cons f1 k1 (.cons f2 k2 .nil)) A) :
   Calls prog 96 #[.agg (jN f A m c)] w fun e w' => e = .returned (.string (str (closeT (textN ⟨f1, k1⟩, rowN ⟨f1, k1⟩) (lo1 (rowK f)) ++ (f.op.data.toList ++ closeT (textN ⟨f2, k2⟩, rowN ⟨f2, k2⟩) (lo2 (rowK f)))))) ∧ Below w.heap.size w w' := by
 have hb1 : Below w.heap.size w (w.alloc (.cells (jN f A m c) 31)) := (Below.refl _ _).alloc (Nat.le_refl _) _
 have L1 : NLoc (w.alloc (.cells (jN f A m c) 31)) w.heap.size f A m c := ⟨heap_alloc_new _ _⟩
 have e1 : (f.k == 1) = false := beq_eq_false_iff_ne.2 (by omega)
 have e2 : (f.k == 2) = false := beq_eq_false_iff_ne.2 (by omega)
 have e3 : (f.k == 3) = false := beq_eq_false_iff_ne.2 (by omega)
 have e4 : (f.k == 4) = false := beq_eq_false_iff_ne.2 (by omega)
 have e5 : (f.k == 5) = true := beq_iff_eq.2 hk
 have HK := hid (below_row hK hb1)
 have HL := hid (hl.below hb1)
 have hs1 := close_len (textN ⟨f1, k1⟩, rowN ⟨f1, k1⟩) (lo1 (rowK f))
 have hs2 := close_len (textN ⟨f2, k2⟩, rowN ⟨f2, k2⟩) (lo2 (rowK f))
 have hs3 : (str (closeT (textN ⟨f1, k1⟩, rowN ⟨f1, k1⟩) (lo1 (rowK f)))).size ≤ 1000002 := by rw [str_size]; simp only at hs1; omega
 have hs4 : (str (closeT (textN ⟨f2, k2⟩, rowN ⟨f2, k2⟩) (lo2 (rowK f)))).size ≤ 1000002 := by rw [str_size]; simp only at hs2; omega
 have E : Hid (str (closeT (textN ⟨f1, k1⟩, rowN ⟨f1, k1⟩) (lo1 (rowK f))) ++ f.op ++ str (closeT (textN ⟨f2, k2⟩, rowN ⟨f2, k2⟩) (lo2 (rowK f))) = str (closeT (textN ⟨f1, k1⟩, rowN ⟨f1, k1⟩) (lo1 (rowK f)) ++ (f.op.data.toList ++ closeT (textN ⟨f2, k2⟩, rowN ⟨f2, k2⟩) (lo2 (rowK f))))) := hid (by
   conv => lhs; rw [← str_list f.op]
   rw [str_app, str_app, List.append_assoc])
 have C1 := hid (fun (A1 : Option Addr) (c1 : Nat) (W : World) (hl : LexLib W) (hk : KidsAt W (fun g => g < W.heap.size) k1 A1) => cclosed ⟨f1, k1⟩ h1 (lo1 (rowK f)) hsz1 A1 c1 W hl hk)
 have C2 := hid (fun (A1 : Option Addr) (c1 : Nat) (W : World) (hl : LexLib W) (hk : KidsAt W (fun g => g < W.heap.size) k2 A1) => cclosed ⟨f2, k2⟩ h2 (lo2 (rowK f)) hsz2 A1 c1 W hl hk)
 have HR := hid (fun W => cleast (rowK f) hr W)
 have HW := hid (fun W => crow f A m c W)
 simp only at C1 C2
 generalize str (closeT (textN ⟨f1, k1⟩, rowN ⟨f1, k1⟩) (lo1 (rowK f)) ++ (f.op.data.toList ++ closeT (textN ⟨f2, k2⟩, rowN ⟨f2, k2⟩) (lo2 (rowK f)))) = R at *
 generalize str (closeT (textN ⟨f1, k1⟩, rowN ⟨f1, k1⟩) (lo1 (rowK f))) = X at *
 generalize str (closeT (textN ⟨f2, k2⟩, rowN ⟨f2, k2⟩) (lo2 (rowK f))) = Y at *
 have t1 : ¬ 9223372036854775807 < X.size + f.op.size := by omega
 have t2 : ¬ 9223372036854775807 < X.size + f.op.size + Y.size := by omega
 generalize ((rowK f : Nat) : Int) = ro at *
 generalize ((lo1 (rowK f) : Nat) : Int) = r1 at *
 generalize ((lo2 (rowK f) : Nat) : Int) = r2 at *
 subst hm
 clear hk hl hK h1 h2 hsz1 hsz2 hs1 hs2 hr hop
 obtain ⟨d0, d1, d2, d3, d4, d5, d6, d7, d8, d9, -⟩ := L1.cells
 go_enter func96, ntmps96
 go_wp2_with fail
 generalize (w.alloc (.cells (jN f A 2 c) 31)) = W1 at *
 refine (HW.out W1).mono ?_; rintro e w2 ⟨rfl, hb2⟩
 have L2 := L1.kept (Kept.of (x := W1.heap.size) hb2) (Nat.ne_of_lt L1.lt)
 have HK2 := hid (below_row HK.out hb2)
 have HL2 := hid (HL.out.below hb2)
 have HB := hid (hb1.trans (hb2.mono hb1.size))
 clear d0 d1 d2 d3 d4 d5 d6 d7 d8 d9 L1 HK HL hb1 hb2
 obtain ⟨d0, d1, d2, d3, d4, d5, d6, d7, d8, d9, -⟩ := L2.cells
 go_wp2_with fail
 refine (HR.out w2).mono ?_; rintro e w3 ⟨rfl, rfl⟩
 go_wp2_with fail
 obtain ⟨g, o, rfl, ⟨hp, f0, f1', f2', f3, f4, f5, f6, f7, f8⟩, ⟨A1, c1, f9, hk1⟩, ⟨hp2, g0, g1, g2, g3, g4, g5, g6, g7, g8⟩, ⟨A2, c2, g9, hk2⟩, -⟩ : ∃ g o, A = some ⟨g, o, none⟩ ∧ RowAt w2 (fun g => g < w2.heap.size) (.cons f1 k1 (.cons f2 k2 .nil)) g o := by
   rcases HK2.out with h | h
   · cases h
   · exact h
 have D1 := hid (fun (u : Gr w2) => C1.out A1 c1 u.now (HL2.out.below u.below) (below_row hk1 u.below))
 have D2 := hid (fun (u : Gr w2) => C2.out A2 c2 u.now (HL2.out.below u.below) (below_row hk2 u.below))
 clear hp hp2 hk1 hk2 C1 C2 HK2 L2 HR HW
 replace d0 := Gr.cell _ _ _ (Below.refl _ _) d0
 replace d1 := Gr.cell _ _ _ (Below.refl _ _) d1
 replace d2 := Gr.cell _ _ _ (Below.refl _ _) d2
 replace d3 := Gr.cell _ _ _ (Below.refl _ _) d3
 replace d4 := Gr.cell _ _ _ (Below.refl _ _) d4
 replace d5 := Gr.cell _ _ _ (Below.refl _ _) d5
 replace d6 := Gr.cell _ _ _ (Below.refl _ _) d6
 replace d7 := Gr.cell _ _ _ (Below.refl _ _) d7
 replace d8 := Gr.cell _ _ _ (Below.refl _ _) d8
 replace d9 := Gr.cell _ _ _ (Below.refl _ _) d9
 replace f1' := Gr.cell _ _ _ (Below.refl _ _) f1'
 replace f2' := Gr.cell _ _ _ (Below.refl _ _) f2'
 replace f0 := Gr.cell _ _ _ (Below.refl _ _) f0
 replace f3 := Gr.cell _ _ _ (Below.refl _ _) f3
 replace f4 := Gr.cell _ _ _ (Below.refl _ _) f4
 replace f5 := Gr.cell _ _ _ (Below.refl _ _) f5
 replace f6 := Gr.cell _ _ _ (Below.refl _ _) f6
 replace f7 := Gr.cell _ _ _ (Below.refl _ _) f7
 replace f8 := Gr.cell _ _ _ (Below.refl _ _) f8
 replace f9 := Gr.cell _ _ _ (Below.refl _ _) f9
 replace g0 := Gr.cell _ _ _ (Below.refl _ _) g0
 replace g1 := Gr.cell _ _ _ (Below.refl _ _) g1
 replace g2 := Gr.cell _ _ _ (Below.refl _ _) g2
 replace g3 := Gr.cell _ _ _ (Below.refl _ _) g3
 replace g4 := Gr.cell _ _ _ (Below.refl _ _) g4
 replace g5 := Gr.cell _ _ _ (Below.refl _ _) g5
 replace g6 := Gr.cell _ _ _ (Below.refl _ _) g6
 replace g7 := Gr.cell _ _ _ (Below.refl _ _) g7
 replace g8 := Gr.cell _ _ _ (Below.refl _ _) g8
 replace g9 := Gr.cell _ _ _ (Below.refl _ _) g9
 refine region_grown (by kernel_rfl) (by kernel_rfl) ?_
 repeat (go_big_quiet_step (first | (go_at_call 115; first | with_reducible exact grown_of (D1.out _) | with_reducible exact grown_of (D2.out _))))
 refine wpQuiet_nil ?_
 intro w5 hw5; obtain ⟨u, rfl⟩ := hw5
 go_wp2_with fail
 go_ret
 exact ⟨by rw [← E.out]; rfl, HB.out.trans (u.below.mono HB.out.size)⟩
theorem cw6 (f : Fld) (A : Option Addr) (m c : Nat) (w : World) (kd : Fo) (hk : f.k = 6) (hm : m = kd.len) (hop : f.op.size ≤ 8) (h : ∀ i, i < kd.len → Wr (kd.nth i)) (hsz : (joinT ((texts kd).map (·.1))).length ≤ 1000000) (hlen : kd.len ≤ 2000) (hl : LexLib w) (hK : KidsAt w (fun g => g < w.heap.size) kd A) :
   Calls prog 96 #[.agg (jN f A m c)] w fun e w' => e = .returned (.string (str (f.op.data.toList ++ 40 :: (joinT ((texts kd).map (·.1)) ++ [41])))) ∧ Below w.heap.size w w' := by
 have hb1 : Below w.heap.size w (w.alloc (.cells (jN f A m c) 31)) := (Below.refl _ _).alloc (Nat.le_refl _) _
 have L1 : NLoc (w.alloc (.cells (jN f A m c) 31)) w.heap.size f A m c := ⟨heap_alloc_new _ _⟩
 have e1 : (f.k == 1) = false := beq_eq_false_iff_ne.2 (by omega)
 have e2 : (f.k == 2) = false := beq_eq_false_iff_ne.2 (by omega)
 have e3 : (f.k == 3) = false := beq_eq_false_iff_ne.2 (by omega)
 have e4 : (f.k == 4) = false := beq_eq_false_iff_ne.2 (by omega)
 have e5 : (f.k == 5) = false := beq_eq_false_iff_ne.2 (by omega)
 have HB := hid hb1
 have hKd := below_row hK hb1
 have D1 := hid (fun (u : Gr (w.alloc (.cells (jN f A m c) 31))) => clisted kd h A c u.now hsz hlen ((hl.below hb1).below u.below) (below_row hKd u.below))
 have hs : (str (joinT ((texts kd).map (·.1)))).size ≤ 1000000 := by rw [str_size]; exact hsz
 have E : Hid (f.op ++ { data := #[40] } ++ str (joinT ((texts kd).map (·.1))) ++ { data := #[41] } = str (f.op.data.toList ++ 40 :: (joinT ((texts kd).map (·.1)) ++ [41]))) := hid (by
   conv => lhs; rw [← str_list f.op]
   show str _ ++ str [40] ++ str _ ++ str [41] = _
   rw [str_app, str_app, str_app]; simp)
 generalize str (f.op.data.toList ++ 40 :: (joinT ((texts kd).map (·.1)) ++ [41])) = R at *
 generalize str (joinT ((texts kd).map (·.1))) = X at *
 have t1 : ¬ 9223372036854775807 < f.op.size + 1 := by omega
 have t2 : ¬ 9223372036854775807 < f.op.size + 1 + X.size := by omega
 have t3 : ¬ 9223372036854775807 < f.op.size + 1 + X.size + 1 := by omega
 subst hm
 clear hk hl hK hKd h hsz hlen hop hb1
 obtain ⟨d0, d1, d2, d3, d4, d5, d6, d7, d8, d9, -⟩ := L1.cells
 go_enter func96, ntmps96
 go_wp2_with fail
 generalize (w.alloc (.cells (jN f A kd.len c) 31)) = W1 at *
 replace d0 := Gr.cell _ _ _ (Below.refl _ _) d0
 replace d1 := Gr.cell _ _ _ (Below.refl _ _) d1
 replace d2 := Gr.cell _ _ _ (Below.refl _ _) d2
 replace d3 := Gr.cell _ _ _ (Below.refl _ _) d3
 replace d4 := Gr.cell _ _ _ (Below.refl _ _) d4
 replace d5 := Gr.cell _ _ _ (Below.refl _ _) d5
 replace d6 := Gr.cell _ _ _ (Below.refl _ _) d6
 replace d7 := Gr.cell _ _ _ (Below.refl _ _) d7
 replace d8 := Gr.cell _ _ _ (Below.refl _ _) d8
 replace d9 := Gr.cell _ _ _ (Below.refl _ _) d9
 refine region_grown (by kernel_rfl) (by kernel_rfl) ?_
 repeat (go_big_quiet_step (first | (go_at_call 118; with_reducible exact grown_of (D1.out _))))
 refine wpQuiet_nil ?_
 intro w5 hw5; obtain ⟨u, rfl⟩ := hw5
 go_wp2_with fail
 go_ret
 exact ⟨by rw [← E.out]; rfl, HB.out.trans (u.below.mono HB.out.size)⟩
theorem fits_const {f : Fld} {m : Nat} (h : fitsB f m = true) (hk : f.k = 1) : constB f.vk f.vn f.vs = true := by
 unfold fitsB at h
 rw [if_pos hk] at h
 simp only [Bool.and_eq_true] at h
 exact h.1.1.1
theorem Fo.all_nth (p : Fld → Nat → Bool) : ∀ (x : Fo) (i : Nat), i < x.len → x.all p = true → (x.nth i).all p = true
 | .nil, i, h, _ => by simp [Fo.len] at h
 | .cons f k n, 0, _, h => by simp only [Fo.all, Bool.and_eq_true] at h; simp [Fo.nth, Nd.all, h.1.1, h.1.2]
 | .cons f k n, i + 1, hi, h => by
   simp only [Fo.all, Bool.and_eq_true] at h
   exact Fo.all_nth p n i (by simpa [Fo.len] using hi) h.2
theorem shape_k {f : Fld} {m : Nat} (h : Shape f m) : f.k = 1 ∨ f.k = 2 ∨ (f.k = 3 ∧ AddrC.FineP f.r1 f.r2 f.r3 f.r4) ∨ (f.k = 4 ∧ m = 1) ∨ (f.k = 5 ∧ m = 2 ∧ (1 ≤ rowK f ∧ rowK f ≤ 4) ∧ f.op.size ≤ 2) ∨ (f.k = 6 ∧ f.op.size ≤ 8 ∧ m ≤ 10) := by
 cases h with
 | int v h0 => exact Or.inl rfl
 | text s hs => exact Or.inl rfl
 | yes => exact Or.inl rfl
 | no => exact Or.inl rfl
 | cell r cc hc => exact Or.inr (Or.inl rfl)
 | range ra rb rc rdd hc => exact Or.inr (Or.inr (Or.inl ⟨rfl, hc⟩))
 | neg => exact Or.inr (Or.inr (Or.inr (Or.inl ⟨rfl, rfl⟩)))
 | bin o ho =>
   have er : rowK ⟨5, 0, 0, nob, 0, 0, 0, 0, str o⟩ = opRow o := by
     show (if (5 : Int) = 1 ∨ (5 : Int) = 2 ∨ (5 : Int) = 3 ∨ (5 : Int) = 6 then 6 else if (5 : Int) = 4 then 5 else if (5 : Int) = 5 then opRow (str o).data.toList else 0) = _
     rw [if_neg (by decide), if_neg (by decide), if_pos rfl, str_back]
   exact Or.inr (Or.inr (Or.inr (Or.inr (Or.inl ⟨rfl, rfl, by rw [er]; exact bin_row ho, by show (str o).size ≤ 2; rw [str_size]; exact bin_len ho⟩))))
 | call o hn h8 m hm10 => exact Or.inr (Or.inr (Or.inr (Or.inr (Or.inr ⟨rfl, by show (str o).size ≤ 8; rw [str_size]; exact h8, hm10⟩))))
theorem text_1 {f : Fld} (kd : Fo) (h : f.k = 1) : textN ⟨f, kd⟩ = constT f.vk f.vn f.vs := if_pos h
theorem text_2 {f : Fld} (kd : Fo) (h : f.k = 2) : textN ⟨f, kd⟩ = AddrC.nameL f.r1 f.r2 := by unfold textN nodeT; simp only [h]; rfl
theorem text_3 {f : Fld} (kd : Fo) (h : f.k = 3) : textN ⟨f, kd⟩ = AddrC.nameL f.r1 f.r2 ++ 58 :: AddrC.nameL f.r3 f.r4 := by unfold textN nodeT; simp only [h]; rfl
theorem text_4 {f : Fld} (f1 : Fld) (k1 : Fo) (h : f.k = 4) : textN ⟨f, .cons f1 k1 .nil⟩ = 45 :: closeT (textN ⟨f1, k1⟩, rowN ⟨f1, k1⟩) 5 := by unfold textN nodeT; simp only [h]; rfl
theorem text_5 {f : Fld} (f1 f2 : Fld) (k1 k2 : Fo) (h : f.k = 5) : textN ⟨f, .cons f1 k1 (.cons f2 k2 .nil)⟩ = closeT (textN ⟨f1, k1⟩, rowN ⟨f1, k1⟩) (lo1 (rowK f)) ++ (f.op.data.toList ++ closeT (textN ⟨f2, k2⟩, rowN ⟨f2, k2⟩) (lo2 (rowK f))) := by unfold textN nodeT; simp only [h]; rfl
theorem text_6 {f : Fld} (kd : Fo) (h : f.k = 6) : textN ⟨f, kd⟩ = f.op.data.toList ++ 40 :: (joinT ((texts kd).map (·.1)) ++ [41]) := by unfold textN nodeT; simp only [h]; rfl
theorem one_kid {kd : Fo} (hm : kd.len = 1) : ∃ f1 k1, kd = .cons f1 k1 .nil := by
 cases kd with
 | nil => simp [Fo.len] at hm
 | cons f1 k1 nx => cases nx with
   | nil => exact ⟨f1, k1, rfl⟩
   | cons _ _ _ => simp [Fo.len] at hm
theorem two_kids {kd : Fo} (hm : kd.len = 2) : ∃ f1 k1 f2 k2, kd = .cons f1 k1 (.cons f2 k2 .nil) := by
 cases kd with
 | nil => simp [Fo.len] at hm
 | cons f1 k1 nx => cases nx with
   | nil => simp [Fo.len] at hm
   | cons f2 k2 nx => cases nx with
     | nil => exact ⟨f1, k1, f2, k2, rfl⟩
     | cons _ _ _ => simp [Fo.len] at hm
theorem kid_one {p : Fld → Nat → Bool} {f1 : Fld} {k1 : Fo} (h : (Fo.cons f1 k1 .nil).all p = true) : (Nd.mk f1 k1).all p = true := by simp only [Fo.all, Bool.and_true] at h; exact h
theorem kid_two {p : Fld → Nat → Bool} {f1 f2 : Fld} {k1 k2 : Fo} (h : (Fo.cons f1 k1 (.cons f2 k2 .nil)).all p = true) : (Nd.mk f1 k1).all p = true ∧ (Nd.mk f2 k2).all p = true := by
 simp only [Fo.all, Bool.and_true, Bool.and_eq_true] at h
 exact ⟨by simp [Nd.all, h.1.1, h.1.2], by simp [Nd.all, h.2.1, h.2.2]⟩
theorem cwritten : ∀ (N : Nat) (a : Nd), a.size ≤ N → a.size ≤ 1990 → a.all fitsB = true → a.all wideB = true → Wr a := by
 intro N
 induction N with
 | zero => intro a h; exact absurd h (by unfold Nd.size; omega)
 | succ N ih =>
   intro a hsz hsm hall hw A c w hl hK
   obtain ⟨f, kd⟩ := a
   have hall1 : kd.all fitsB = true ∧ fitsB f kd.len = true := by simpa [Nd.all] using hall
   have hw1 : kd.all wideB = true ∧ f.vn ≤ 9223372036854775807 := by simpa [Nd.all, wideB] using hw
   have hz : 1 + kd.size ≤ N + 1 := hsz
   have hz2 : 1 + kd.size ≤ 1990 := hsm
   have hlen : ∀ a : Nd, a.size ≤ 1990 → a.all fitsB = true → a.all wideB = true → (textN a).length ≤ 1000000 := fun a h1 h2 h3 => by have := text_len a h2 h3; omega
   have hK : KidsAt w (fun g => g < w.heap.size) kd A := hK
   dsimp only
   rcases shape_k (shape_of hall1.2) with hk | hk | ⟨hk, hc⟩ | ⟨hk, hm⟩ | ⟨hk, hm, hr, hop⟩ | ⟨hk, hop, hm⟩
   · rw [text_1 kd hk]; exact cw1 f A kd.len c w hk (fits_const hall1.2 hk) hw1.2 hl
   · rw [text_2 kd hk]; exact cw2 f A kd.len c w hk hl
   · rw [text_3 kd hk]; exact cw3 f A kd.len c w hk hc hl
   · obtain ⟨f1, k1, rfl⟩ := one_kid hm
     have ha1 := kid_one hall1.1
     have ha2 := kid_one hw1.1
     have hs1 : (Nd.mk f1 k1).size ≤ N ∧ (Nd.mk f1 k1).size ≤ 1990 := by simp only [Nd.size, Fo.size] at hz hz2 ⊢; omega
     rw [text_4 f1 k1 hk]
     exact cw4 f A _ c w f1 k1 hk hm (ih _ hs1.1 hs1.2 ha1 ha2) (hlen _ hs1.2 ha1 ha2) hl hK
   · obtain ⟨f1, k1, f2, k2, rfl⟩ := two_kids hm
     obtain ⟨ha1, ha2⟩ := kid_two hall1.1
     obtain ⟨hb1, hb2⟩ := kid_two hw1.1
     have hs1 : (Nd.mk f1 k1).size ≤ N ∧ (Nd.mk f1 k1).size ≤ 1990 := by simp only [Nd.size, Fo.size] at hz hz2 ⊢; omega
     have hs2 : (Nd.mk f2 k2).size ≤ N ∧ (Nd.mk f2 k2).size ≤ 1990 := by simp only [Nd.size, Fo.size] at hz hz2 ⊢; omega
     rw [text_5 f1 f2 k1 k2 hk]
     exact cw5 f A _ c w f1 f2 k1 k2 hk hm hr hop (ih _ hs1.1 hs1.2 ha1 hb1) (ih _ hs2.1 hs2.2 ha2 hb2) (hlen _ hs1.2 ha1 hb1) (hlen _ hs2.2 ha2 hb2) hl hK
   · have h3 := text_lens kd hall1.1 hw1.1
     have h1 := join_len ((texts kd).map (·.1))
     have e : (((texts kd).map (·.1)).map List.length).sum = tsum (texts kd) := by unfold tsum; rw [List.map_map]; rfl
     rw [e, List.length_map, texts_length] at h1
     rw [text_6 kd hk]
     exact cw6 f A _ c w kd hk rfl hop (fun i hi => by
       have := Fo.nth_size kd i hi
       exact ih (kd.nth i) (by omega) (by omega) (Fo.all_nth _ kd i hi hall1.1) (Fo.all_nth _ kd i hi hw1.1)) (by omega) (by omega) hl hK
theorem cText (a : Nd) (A : Option Addr) (c : Nat) (w : World) (hs : a.size ≤ 1990) (hw : a.all wideB = true) (hl : LexLib w) (hK : KidsAt w (fun g => g < w.heap.size) a.kids A) :
   Calls prog 67 #[.agg (jN a.f A a.kids.len c)] w fun e w' => e = .returned (.tuple #[.string (str (textR a).s), .int .i64 (textR a).err]) ∧ Below w.heap.size w w' := by
 have hb1 : Below w.heap.size w (w.alloc (.cells (jN a.f A a.kids.len c) 31)) := (Below.refl _ _).alloc (Nat.le_refl _) _
 have L1 : NLoc (w.alloc (.cells (jN a.f A a.kids.len c) 31)) w.heap.size a.f A a.kids.len c := ⟨heap_alloc_new _ _⟩
 have HG := hid (cGood fitsB fits_all a A c _ (by omega) (hl.below hb1) (below_row hK hb1))
 have HK := hid (below_row hK hb1)
 have HL := hid (hl.below hb1)
 have HW := hid (fun (h : goodN a = true) => And.intro (cwritten a.size a (Nat.le_refl _) hs (good_parts h).2.2 hw) (text_len a (good_parts h).2.2 hw))
 have HS := hid hs
 have eg : goodT fitsB a = goodN a := rfl
 rw [eg] at HG
 clear hK hl hs hw eg
 obtain ⟨f, kd⟩ := a
 simp only at *
 obtain ⟨d0, d1, d2, d3, d4, d5, d6, d7, d8, d9, -⟩ := L1.cells
 go_enter func67, ntmps67
 go_wp2_with fail
 generalize (w.alloc (.cells (jN f A kd.len c) 31)) = W1 at *
 refine HG.out.mono ?_; rintro e w2 ⟨rfl, hb2⟩
 have L2 := L1.kept (Kept.of (x := W1.heap.size) hb2) (Nat.ne_of_lt L1.lt)
 have HK2 := hid (below_row HK.out hb2)
 have HL2 := hid (HL.out.below hb2)
 have HB := hid (hb1.trans (hb2.mono hb1.size))
 clear d0 d1 d2 d3 d4 d5 d6 d7 d8 d9 L1 HK HL hb1 hb2 HG
 obtain ⟨d0, d1, d2, d3, d4, d5, d6, d7, d8, d9, -⟩ := L2.cells
 cases hg : goodN ⟨f, kd⟩ with
 | false =>
   have ER := hid (textR_no hg)
   clear hg HW
   go_wp2_with fail
   go_ret2
   exact ⟨by rw [ER.out]; rfl, HB.out⟩
 | true =>
   obtain ⟨HWr, hlen⟩ := HW.out hg
   have hT : (str (textN ⟨f, kd⟩)).size = (textN ⟨f, kd⟩).length := str_size _
   have HW2 := hid (HWr A c w2 HL2.out HK2.out)
   have hcl : (str (textN ⟨f, kd⟩)).size ≤ 281474976710656 := by rw [hT]; have := HS.out; omega
   have HC := hid (fun W => ValueC.clone (str (textN ⟨f, kd⟩)) W hcl)
   by_cases hlt : 300 < (textN ⟨f, kd⟩).length
   · have ER := hid (textR_long hg hlt)
     have t1 : (300 : Int) < ((str (textN ⟨f, kd⟩)).size : Int) := by omega
     clear hg HW hT hcl HWr hlen HC hlt
     simp only at HW2
     generalize str (textN ⟨f, kd⟩) = T at *
     go_wp2_with fail
     refine HW2.out.mono ?_; rintro e w3 ⟨rfl, hb3⟩
     go_wp2_with fail
     go_ret2
     exact ⟨by rw [ER.out]; rfl, HB.out.trans (hb3.mono HB.out.size)⟩
   · have ER := hid (textR_ok hg hlt)
     have t1 : ¬ (300 : Int) < ((str (textN ⟨f, kd⟩)).size : Int) := by omega
     clear hg HW hT hcl HWr hlen hlt
     simp only at HW2
     have ER2 : Hid (str (textR ⟨f, kd⟩).s = str (textN ⟨f, kd⟩) ∧ (textR ⟨f, kd⟩).err = 0) := hid (by rw [ER.out]; exact ⟨rfl, rfl⟩)
     generalize str (textN ⟨f, kd⟩) = T at *
     go_wp2_with fail
     refine HW2.out.mono ?_; rintro e w3 ⟨rfl, hb3⟩
     have HB3 := hid (HB.out.trans (hb3.mono HB.out.size))
     go_wp2_with fail
     refine (HC.out w3).mono ?_; rintro e w4 ⟨rfl, hb4⟩
     go_wp2_with fail
     go_ret2
     exact ⟨by rw [ER2.out.1, ER2.out.2]; rfl, HB3.out.trans (hb4.mono HB3.out.size)⟩
theorem op_none (s : ByteArray) (h : opsL.any (fun o => decide (s = str o)) = false) : opRow s.data.toList = 0 := by
 rw [List.any_eq_false] at h
 have key : ∀ o ∈ opsL, ¬ s.data.toList = o := fun o ho e => h o ho (decide_eq_true (by rw [← e, str_list]))
 unfold opRow
 have g1 := key [61] (by decide)
 have g2 := key [60, 62] (by decide)
 have g3 := key [60] (by decide)
 have g4 := key [60, 61] (by decide)
 have g5 := key [62] (by decide)
 have g6 := key [62, 61] (by decide)
 have g7 := key [43] (by decide)
 have g8 := key [45] (by decide)
 have g9 := key [38] (by decide)
 have g10 := key [42] (by decide)
 have g11 := key [47] (by decide)
 have g12 := key [37] (by decide)
 have g13 := key [94] (by decide)
 simp only [g1, g2, g3, g4, g5, g6, g7, g8, g9, g10, g11, g12, g13, or_self, if_false]
theorem thirteen (i : Nat) (h : i < 13) : i = 0 ∨ i = 1 ∨ i = 2 ∨ i = 3 ∨ i = 4 ∨ i = 5 ∨ i = 6 ∨ i = 7 ∨ i = 8 ∨ i = 9 ∨ i = 10 ∨ i = 11 ∨ i = 12 := by omega
theorem row_cell (i : Nat) (h : i < 13) (W : World) : (W.alloc (.cells #[.int .i64 1, .int .i64 1, .int .i64 1, .int .i64 1, .int .i64 1, .int .i64 1, .int .i64 2, .int .i64 2, .int .i64 2, .int .i64 3, .int .i64 3, .int .i64 3, .int .i64 4] 3)).cell? ⟨W.heap.size, i, none⟩ = some (.int .i64 ((opRow (opsL[i]'h) : Nat) : Int)) := by
 rw [World.cell?_alloc_mark]
 rcases thirteen i h with rfl | rfl | rfl | rfl | rfl | rfl | rfl | rfl | rfl | rfl | rfl | rfl | rfl <;> rfl
theorem rrow5 (f : Fld) (A : Option Addr) (m c : Nat) (w : World) (hk : f.k = 5) : Calls prog 91 #[.agg (jN f A m c)] w fun e w' => e = .returned (.int .i64 (rowK f : Nat)) ∧ Below w.heap.size w w' := by
 have hb1 : Below w.heap.size w (w.alloc (.cells (jN f A m c) 31)) := (Below.refl _ _).alloc (Nat.le_refl _) _
 have L1 : NLoc (w.alloc (.cells (jN f A m c) 31)) w.heap.size f A m c := ⟨heap_alloc_new _ _⟩
 have e1 : (f.k == 1) = false := beq_eq_false_iff_ne.2 (by omega)
 have e2 : (f.k == 2) = false := beq_eq_false_iff_ne.2 (by omega)
 have e3 : (f.k == 3) = false := beq_eq_false_iff_ne.2 (by omega)
 have e4 : (f.k == 4) = false := beq_eq_false_iff_ne.2 (by omega)
 have e5 : (f.k == 5) = true := beq_iff_eq.2 hk
 have e6 : (f.k == 6) = false := beq_eq_false_iff_ne.2 (by omega)
 have g1 : Below (w.alloc (.cells (jN f A m c) 31)).heap.size (w.alloc (.cells (jN f A m c) 31)) ((w.alloc (.cells (jN f A m c) 31)).alloc (.cells #[.string { data := #[61] }, .string { data := #[60, 62] }, .string { data := #[60] }, .string { data := #[60, 61] }, .string { data := #[62] }, .string { data := #[62, 61] }, .string { data := #[43] }, .string { data := #[45] }, .string { data := #[38] }, .string { data := #[42] }, .string { data := #[47] }, .string { data := #[37] }, .string { data := #[94] }] 9)) := (Below.refl _ _).alloc (Nat.le_refl _) _
 have L2 := L1.kept (Kept.of (x := (w.alloc (.cells (jN f A m c) 31)).heap.size) g1) (Nat.ne_of_lt L1.lt)
 have hc : ∀ i (h : i < 13), ((w.alloc (.cells (jN f A m c) 31)).alloc (.cells #[.string { data := #[61] }, .string { data := #[60, 62] }, .string { data := #[60] }, .string { data := #[60, 61] }, .string { data := #[62] }, .string { data := #[62, 61] }, .string { data := #[43] }, .string { data := #[45] }, .string { data := #[38] }, .string { data := #[42] }, .string { data := #[47] }, .string { data := #[37] }, .string { data := #[94] }] 9)).cell? ⟨(w.alloc (.cells (jN f A m c) 31)).heap.size, i, none⟩ = some (.string (str (opsL[i]'h))) := fun i h => by rw [World.cell?_alloc_mark]; exact ops_cell i h
 have ER : Hid (rowK f = opRow f.op.data.toList) := hid (by unfold rowK; simp [hk])
 have HC := hid hc
 have HB := hid (hb1.trans (g1.mono hb1.size))
 clear hb1 hc hk
 obtain ⟨d0, d1, d2, d3, d4, d5, d6, d7, d8, d9, -⟩ := L1.cells
 go_enter func91, ntmps91
 go_wp2_with fail
 generalize (w.alloc (.cells (jN f A m c) 31)) = W0 at *
 refine (rops W0).mono ?_; rintro e w1 ⟨rfl, rfl⟩
 clear d0 d1 d2 d3 d4 d5 d6 d7 d8 d9 L1 g1
 have d8 := (L2.cells).2.2.2.2.2.2.2.2.1
 go_wp2_with fail
 generalize (W0.alloc (.cells #[.string { data := #[61] }, .string { data := #[60, 62] }, .string { data := #[60] }, .string { data := #[60, 61] }, .string { data := #[62] }, .string { data := #[62, 61] }, .string { data := #[43] }, .string { data := #[45] }, .string { data := #[38] }, .string { data := #[42] }, .string { data := #[47] }, .string { data := #[37] }, .string { data := #[94] }] 9)) = W1 at *
 generalize W0.heap.size = ob at *
 go_loopw [4] (fun iv wr => ∃ k : Nat, k ≤ 13 ∧ iv = .int .i64 k ∧ Below W1.heap.size W1 wr ∧ Hid ((opsL.take k).any (fun o => decide (f.op = str o)) = false)) (fun iv _ => 13 - (intOf iv).toNat)
 case atStart => exact ⟨0, by omega, rfl, Below.refl _ _, hid rfl⟩
 case round =>
   obtain ⟨k, hk, rfl, hB, HA⟩ := hrel
   have r8 := cell_later hB d8
   by_cases hlt : k < 13
   · have d3 : (k : Int) < 13 := by omega
     have c1 := cell_later hB (HC.out k hlt)
     have hT : opsL.take (k + 1) = opsL.take k ++ [opsL[k]'hlt] := by rw [List.take_succ_eq_append_getElem (by rw [ops_len]; exact hlt)]; rfl
     have HT := hid hT
     have HR := hid (row_cell k hlt)
     clear hT
     generalize opsL[k]'hlt = o at *
     by_cases hs : f.op = str o
     · have E : Hid (((rowK f : Nat) : Int) = ((opRow o : Nat) : Int)) := hid (by rw [ER.out, hs, str_back])
       have q1 : ((str o).toList == f.op.toList) = true := by rw [hs]; simp
       have q2 : (str o).toList = f.op.toList := by rw [hs]
       clear hs
       go_wp2_with fail
       go_quiet (fail)
       have HB2 := hid (HB.out.trans ((below_drewN' hB nq).mono HB.out.size))
       generalize wr.drewN nq = W2 at *
       have rr := HR.out W2
       generalize ((opRow o : Nat) : Int) = ro at *
       go_wp2_with fail
       go_ret
       exact ⟨by rw [E.out]; rfl, HB2.out.alloc HB2.out.size _⟩
     · have HN : Hid ((opsL.take (k + 1)).any (fun o => decide (f.op = str o)) = false) := hid (by rw [HT.out, List.any_append, HA.out]; simp [hs])
       have q2 : ¬ (str o).toList = f.op.toList := fun e => hs (ByteArray.ext (Array.toList_inj.1 (by rw [Lib.toList_data, Lib.toList_data] at e; exact e.symm)))
       have q1 : ((str o).toList == f.op.toList) = false := beq_eq_false_iff_ne.2 q2
       clear hs HR
       go_wp2_with fail
       go_quiet (fail)
       go_wp2_with fail
       go_roundw
       case rel => exact ⟨k + 1, by omega, by go_num, below_drewN' hB _, HN⟩
       case measure => simp [intOf]; omega
   · have d3 : ¬ (k : Int) < 13 := by omega
     have E : Hid (rowK f = 0) := hid (by
       have h1 := HA.out
       rw [List.take_of_length_le (by rw [ops_len]; omega)] at h1
       rw [ER.out, op_none _ h1])
     go_wp2_with fail
     go_ret
     exact ⟨by rw [E.out]; rfl, HB.out.trans (hB.mono HB.out.size)⟩
theorem rrow (f : Fld) (A : Option Addr) (m c : Nat) (w : World) : Calls prog 91 #[.agg (jN f A m c)] w fun e w' => e = .returned (.int .i64 (rowK f : Nat)) ∧ Below w.heap.size w w' := by
 have hb1 : Below w.heap.size w (w.alloc (.cells (jN f A m c) 31)) := (Below.refl _ _).alloc (Nat.le_refl _) _
 by_cases h5 : f.k = 5
 · exact rrow5 f A m c w h5
 have e5 : (f.k == 5) = false := beq_eq_false_iff_ne.2 h5
 by_cases h1 : f.k = 1
 · have E : Hid (rowK f = 6) := hid (by unfold rowK; simp [h1])
   have e1 : (f.k == 1) = true := beq_iff_eq.2 h1
   have e2 : (f.k == 2) = false := beq_eq_false_iff_ne.2 (by omega)
   have e3 : (f.k == 3) = false := beq_eq_false_iff_ne.2 (by omega)
   have e6 : (f.k == 6) = false := beq_eq_false_iff_ne.2 (by omega)
   have e4 : (f.k == 4) = false := beq_eq_false_iff_ne.2 (by omega)
   clear h5 h1
   go_enter func91, ntmps91
   go_wp2_with fail
   go_ret
   exact ⟨by rw [E.out]; rfl, hb1⟩
 · have e1 : (f.k == 1) = false := beq_eq_false_iff_ne.2 h1
   by_cases h2 : f.k = 2
   · have E : Hid (rowK f = 6) := hid (by unfold rowK; simp [h2])
     have e2 : (f.k == 2) = true := beq_iff_eq.2 h2
     have e3 : (f.k == 3) = false := beq_eq_false_iff_ne.2 (by omega)
     have e6 : (f.k == 6) = false := beq_eq_false_iff_ne.2 (by omega)
     have e4 : (f.k == 4) = false := beq_eq_false_iff_ne.2 (by omega)
     clear h5 h1 h2
     go_enter func91, ntmps91
     go_wp2_with fail
     go_ret
     exact ⟨by rw [E.out]; rfl, hb1⟩
   · have e2 : (f.k == 2) = false := beq_eq_false_iff_ne.2 h2
     by_cases h3 : f.k = 3
     · have E : Hid (rowK f = 6) := hid (by unfold rowK; simp [h3])
       have e3 : (f.k == 3) = true := beq_iff_eq.2 h3
       have e6 : (f.k == 6) = false := beq_eq_false_iff_ne.2 (by omega)
       have e4 : (f.k == 4) = false := beq_eq_false_iff_ne.2 (by omega)
       clear h5 h1 h2 h3
       go_enter func91, ntmps91
       go_wp2_with fail
       go_ret
       exact ⟨by rw [E.out]; rfl, hb1⟩
     · have e3 : (f.k == 3) = false := beq_eq_false_iff_ne.2 h3
       by_cases h6 : f.k = 6
       · have E : Hid (rowK f = 6) := hid (by unfold rowK; simp [h6])
         have e6 : (f.k == 6) = true := beq_iff_eq.2 h6
         have e4 : (f.k == 4) = false := beq_eq_false_iff_ne.2 (by omega)
         clear h5 h1 h2 h3 h6
         go_enter func91, ntmps91
         go_wp2_with fail
         go_ret
         exact ⟨by rw [E.out]; rfl, hb1⟩
       · have e6 : (f.k == 6) = false := beq_eq_false_iff_ne.2 h6
         by_cases h4 : f.k = 4
         · have E : Hid (rowK f = 5) := hid (by unfold rowK; simp [h4])
           have e4 : (f.k == 4) = true := beq_iff_eq.2 h4
           clear h5 h1 h2 h3 h6 h4
           go_enter func91, ntmps91
           go_wp2_with fail
           go_ret
           exact ⟨by rw [E.out]; rfl, hb1⟩
         · have e4 : (f.k == 4) = false := beq_eq_false_iff_ne.2 h4
           have E : Hid (rowK f = 0) := hid (by unfold rowK; simp [h5, h1, h2, h3, h6, h4])
           clear h5 h1 h2 h3 h6 h4
           go_enter func91, ntmps91
           go_wp2_with fail
           go_ret
           exact ⟨by rw [E.out]; rfl, hb1⟩
end Go.Proofs.YticehalcnbjccaaGreatDoor.PrintC
