/-
  Contracts of source's reference: Write of what Read tells without an error; Clean.
-/
import Derived.Test.YticehalcnbjccaaGreatDoorRTreeK6
import Derived.Test.YticehalcnbjccaaGreatDoorRPrintE
import Derived.Test.YticehalcnbjccaaGreatDoorRAddrD
import Derived.Test.YticehalcnbjccaaGreatDoorRSourceD
import Derived.Test.YticehalcnbjccaaGreatDoorRTreeK3
import Derived.Test.YticehalcnbjccaaGreatDoorRSourceF
import Derived.Test.YticehalcnbjccaaGreatDoorRTreeP8
namespace Go.Proofs.YticehalcnbjccaaGreatDoor.SourceC
set_option maxRecDepth 100000
set_option maxHeartbeats 8000000
set_option linter.unusedVariables false
set_option linter.unusedSimpArgs false
open Go.RowKit NumC TreeC PrintC
open LexC (str nob str_size LexLib)
open ValueC (Val GoodP goodB goodB_t goodB_f nos zeroV showL trueL falseL size_nos)
open Cd
open Tryz
open Lib (hid)
theorem eql_rect0 (W : World) : (binOp .eql 28 (.agg (jR 0 0 0 0)) (.agg (jR 0 0 0 0))).run prog W = .ok (.bool true) W := by kernel_rfl
theorem self_kind {s : ByteArray} {r : RS} (hr : readL s.data.toList = r) (h : selfB s.data.toList = true) : r.k = 1 := by
 unfold selfB at h
 rw [hr] at h
 exact (of_decide_eq_true h).2.1
theorem fits_short {f : Fld} {n : Nat} (h : fitsB f n = true) : f.vs.size ≤ 1000 ∧ f.op.size ≤ 100 ∧ f.k ≠ 0 := by
 have hn : nob.size = 0 := rfl
 cases shape_of h with
 | int n h => exact ⟨by show nob.size ≤ 1000; omega, by show nob.size ≤ 100; omega, by show (1 : Int) ≠ 0; decide⟩
 | text s hs => exact ⟨by show s.size ≤ 1000; omega, by show nob.size ≤ 100; omega, by show (1 : Int) ≠ 0; decide⟩
 | yes => exact ⟨by show nob.size ≤ 1000; omega, by show nob.size ≤ 100; omega, by show (1 : Int) ≠ 0; decide⟩
 | no => exact ⟨by show nob.size ≤ 1000; omega, by show nob.size ≤ 100; omega, by show (1 : Int) ≠ 0; decide⟩
 | cell r cc hc => exact ⟨by show nob.size ≤ 1000; omega, by show nob.size ≤ 100; omega, by show (2 : Int) ≠ 0; decide⟩
 | range ra rb rc rdd hc => exact ⟨by show nob.size ≤ 1000; omega, by show nob.size ≤ 100; omega, by show (3 : Int) ≠ 0; decide⟩
 | neg => exact ⟨by show nob.size ≤ 1000; omega, by show nob.size ≤ 100; omega, by show (4 : Int) ≠ 0; decide⟩
 | bin o ho => exact ⟨by show nob.size ≤ 1000; omega, by show (str o).size ≤ 100; rw [str_size]; have := bin_len ho; omega, by show (5 : Int) ≠ 0; decide⟩
 | call o hn h8 m hm10 => exact ⟨by show nob.size ≤ 1000; have hn : nob.size = 0 := rfl; omega, by show (str o).size ≤ 100; rw [str_size]; omega, by show (6 : Int) ≠ 0; decide⟩
theorem short_of : ∀ x : Fo, x.all fitsB = true → x.Short
 | .nil, _ => trivial
 | .cons f k n, h => by
   simp only [Fo.all, Bool.and_eq_true] at h
   obtain ⟨h1, h2, -⟩ := fits_short h.1.2
   exact ⟨⟨h1, h2⟩, short_of k h.1.1, short_of n h.2⟩
theorem parse_fits {t : List UInt8} (h : (parseL t).err = 0) : (parseL t).nd.size ≤ 1990 ∧ (parseL t).nd.one.Short ∧ (parseL t).nd.all wideB = true ∧ (parseL t).nd.f.k ≠ 0 := by
 obtain ⟨h1, h2, h3⟩ := parse_good t h
 have hw := (parse_wide h).1
 have ha := (good_parts (a := (parseL t).nd) h1).2.2
 generalize (parseL t).nd = a at *
 obtain ⟨f, kd⟩ := a
 have ha2 : kd.all fitsB = true ∧ fitsB f kd.len = true := by
   have : (kd.all fitsB && fitsB f kd.len) = true := ha
   rwa [Bool.and_eq_true] at this
 obtain ⟨s1, s2, s3⟩ := fits_short ha2.2
 exact ⟨by omega, ⟨⟨s1, s2⟩, short_of kd ha2.1, trivial⟩, hw, s3⟩
structure L1v (w : World) (b : Nat) (kd k n : Int) (s : ByteArray) (A : Option Addr) (c : Nat) : Prop where
 at_ : w.heap[b]? = some (.cells (jSV kd k n s A c) 37 (0, 0))
theorem L1v.lt {w : World} {b : Nat} {kd k n : Int} {s : ByteArray} {A : Option Addr} {c : Nat} (h : L1v w b kd k n   s   A   c) : b < w.heap.size := (Array.getElem?_eq_some_iff.1 h.at_).1
theorem L1v.below {w w' : World} {b : Nat} {kd k n : Int} {s : ByteArray} {A : Option Addr} {c : Nat} (h : L1v w b kd k n   s   A   c) (hb : Below w.heap.size w w') : L1v w' b kd k n   s   A   c := ⟨(hb.block b h.lt).trans h.at_⟩
theorem L1v.cells {w : World} {b : Nat} {kd k n : Int} {s : ByteArray} {A : Option Addr} {c : Nat} (h : L1v w b kd k n   s   A   c) : w.cell? ⟨b, 0, none⟩ = some (.int .i64 kd) ∧ w.cell? ⟨b, 1, none⟩ = some (.int .i64 k) ∧ w.cell? ⟨b, 2, none⟩ = some (.int .i64 n) ∧ w.cell? ⟨b, 3, none⟩ = some (.string s) ∧ w.cell? ⟨b, 4, none⟩ = some (.int .i64 0) ∧ w.cell? ⟨b, 5, none⟩ = some (.int .i64 0) ∧ w.cell? ⟨b, 6, none⟩ = some (.int .i64 0) ∧ w.cell? ⟨b, 7, none⟩ = some (.string { data := #[] }) ∧ w.cell? ⟨b, 8, none⟩ = some (.int .i64 0) ∧ w.cell? ⟨b, 9, none⟩ = some (.int .i64 0) ∧ w.cell? ⟨b, 10, none⟩ = some (.int .i64 0) ∧ w.cell? ⟨b, 11, none⟩ = some (.int .i64 0) ∧ w.cell? ⟨b, 12, none⟩ = some (.string { data := #[] }) ∧ w.cell? ⟨b, 13, none⟩ = some (.slice A 0 c) := by
 have h1 := h.at_
 refine ⟨?_, ?_, ?_, ?_, ?_, ?_, ?_, ?_, ?_, ?_, ?_, ?_, ?_, ?_⟩ <;> simp [World.cell?, h1]
structure L2n (w : World) (b : Nat) (f : Fld) (A : Option Addr) (m c : Nat) : Prop where
 at_ : w.heap[b]? = some (.cells (jS 2 0 0 { data := #[] } f A m c) 37 (0, 0))
theorem L2n.cells {w : World} {b : Nat} {f : Fld} {A : Option Addr} {m c : Nat} (h : L2n w b f   A   m c) : w.cell? ⟨b, 0, none⟩ = some (.int .i64 2) ∧ w.cell? ⟨b, 1, none⟩ = some (.int .i64 0) ∧ w.cell? ⟨b, 2, none⟩ = some (.int .i64 0) ∧ w.cell? ⟨b, 3, none⟩ = some (.string { data := #[] }) ∧ w.cell? ⟨b, 4, none⟩ = some (.int .i64 f.k) ∧ w.cell? ⟨b, 5, none⟩ = some (.int .i64 f.vk) ∧ w.cell? ⟨b, 6, none⟩ = some (.int .i64 f.vn) ∧ w.cell? ⟨b, 7, none⟩ = some (.string f.vs) ∧ w.cell? ⟨b, 8, none⟩ = some (.int .i64 f.r1) ∧ w.cell? ⟨b, 9, none⟩ = some (.int .i64 f.r2) ∧ w.cell? ⟨b, 10, none⟩ = some (.int .i64 f.r3) ∧ w.cell? ⟨b, 11, none⟩ = some (.int .i64 f.r4) ∧ w.cell? ⟨b, 12, none⟩ = some (.string f.op) ∧ w.cell? ⟨b, 13, none⟩ = some (.slice A m c) := by
 have h1 := h.at_
 refine ⟨?_, ?_, ?_, ?_, ?_, ?_, ?_, ?_, ?_, ?_, ?_, ?_, ?_, ?_⟩ <;> simp [World.cell?, h1]
theorem rWrite_0 (A : Option Addr) (c : Nat) (w : World) : Calls prog 21 #[.agg (jSV 0 0 0 { data := #[] } A c)] w fun e w' => e = .returned (.tuple #[.string { data := #[] }, .int .i64 0]) ∧ Below w.heap.size w w' := by
 have e0 : ∀ W, (binOp .eql 24 (.agg (jV 0 0 { data := #[] })) (.agg (jV 0 0 { data := #[] }))).run prog W = .ok (.bool true) W := fun W => ValueC.eqs 0 0 0 0 nos nos W
 have eR : ∀ W, (binOp .eql 28 (.agg (jR 0 0 0 0)) (.agg (jR 0 0 0 0))).run prog W = .ok (.bool true) W := eql_rect0
 have R1 : L1v (w.alloc (.cells (jSV 0 0 0 { data := #[] } A c) 37)) w.heap.size 0 0 0 { data := #[] } A c := ⟨heap_alloc_new _ _⟩
 obtain ⟨d0, d1, d2, d3, d4, d5, d6, d7, d8, d9, d10, d11, d12, d13⟩ := R1.cells
 go_enter func21, ntmps21
 go_wp2_with fail
 go_ret2
 exact ⟨rfl, (Below.refl _ _).alloc (Nat.le_refl _) _⟩
theorem rWrite_1 (v : Val) (A : Option Addr) (c : Nat) (w : World) (hp : GoodP v) (hk : v.k = 1 ∨ v.k = 2) (hn : I64 v.n) : Calls prog 21 #[.agg (jSV 1 v.k v.n v.s A c)] w fun e w' => e = .returned (.tuple #[.string (str (valueL v)), .int .i64 0]) ∧ Below w.heap.size w w' := by
 have e0 : ∀ W, (binOp .eql 24 (.agg (jV 0 0 { data := #[] })) (.agg (jV 0 0 { data := #[] }))).run prog W = .ok (.bool true) W := fun W => ValueC.eqs 0 0 0 0 nos nos W
 have eR : ∀ W, (binOp .eql 28 (.agg (jR 0 0 0 0)) (.agg (jR 0 0 0 0))).run prog W = .ok (.bool true) W := eql_rect0
 have R1 : L1v (w.alloc (.cells (jSV 1 v.k v.n v.s A c) 37)) w.heap.size 1 v.k v.n v.s A c := ⟨heap_alloc_new _ _⟩
 have B1 : Below w.heap.size w (w.alloc (.cells (jSV 1 v.k v.n v.s A c) 37)) := (Below.refl _ _).alloc (Nat.le_refl _) _
 have HG := hid (ValueC.rgood v)
 rw [goodB_t hp] at HG
 have HS := hid (fun W => ValueC.rshow v W hn)
 have E2 : Hid ((⟨(showL v).toArray⟩ : ByteArray) = str (valueL v)) := hid (by unfold valueL; rw [if_pos (by omega)]; rfl)
 rw [E2.out] at HS
 have q0 : (v.k == 0) = false := beq_eq_false_iff_ne.2 (by omega)
 have q4 : (v.k == 4) = false := beq_eq_false_iff_ne.2 (by omega)
 have q3 : (v.k != 3) = true := by rw [bne, beq_eq_false_iff_ne.2 (show v.k ≠ 3 by omega)]; rfl
 generalize str (valueL v) = S at *
 have eV := hid (fun W => ValueC.eqs v.k v.n 0 0 v.s nos W)
 rw [show ValueC.sameB ⟨v.k, v.n, v.s⟩ ⟨0, 0, nos⟩ = false from decide_eq_false (fun h => by have := congrArg Val.k h; simp only at this; omega)] at eV
 have eV := eV.out
 unfold nos at eV
 clear hp hk hn E2
 obtain ⟨k, n, s⟩ := v
 simp only at *
 obtain ⟨d0, d1, d2, d3, d4, d5, d6, d7, d8, d9, d10, d11, d12, d13⟩ := R1.cells
 go_enter func21, ntmps21
 go_wp2_with fail
 generalize (w.alloc (.cells (jSV 1 k n s A c) 37)) = W1 at *
 refine (HG.out W1).mono ?_; rintro e w2 ⟨rfl, hb2⟩
 have R2 := R1.below hb2
 have B2 := B1.trans (hb2.mono B1.size)
 clear d0 d1 d2 d3 d4 d5 d6 d7 d8 d9 d10 d11 d12 d13 R1 B1 hb2 HG
 obtain ⟨d0, d1, d2, d3, d4, d5, d6, d7, d8, d9, d10, d11, d12, d13⟩ := R2.cells
 go_wp2_with fail
 refine (HS.out w2).mono ?_; rintro e w3 ⟨rfl, hb3⟩
 go_wp2_with fail
 go_ret2
 exact ⟨rfl, B2.trans (hb3.mono B2.size)⟩
theorem rWrite_t (s : ByteArray) (A : Option Addr) (c : Nat) (w : World) (hs : s.size ≤ 200)
   (HR : ∀ W, Calls prog 8 #[.string s] W (ReadPost W (readL s.data.toList))) : Calls prog 21 #[.agg (jSV 1 3 0 s A c)] w fun e w' => e = .returned (.tuple #[.string (str (valueL ⟨3, 0, s⟩)), .int .i64 0]) ∧ Below w.heap.size w w' := by
 have e0 : ∀ W, (binOp .eql 24 (.agg (jV 0 0 { data := #[] })) (.agg (jV 0 0 { data := #[] }))).run prog W = .ok (.bool true) W := fun W => ValueC.eqs 0 0 0 0 nos nos W
 have eR : ∀ W, (binOp .eql 28 (.agg (jR 0 0 0 0)) (.agg (jR 0 0 0 0))).run prog W = .ok (.bool true) W := eql_rect0
 have R1 : L1v (w.alloc (.cells (jSV 1 3 0 s A c) 37)) w.heap.size 1 3 0 s A c := ⟨heap_alloc_new _ _⟩
 have B1 : Below w.heap.size w (w.alloc (.cells (jSV 1 3 0 s A c) 37)) := (Below.refl _ _).alloc (Nat.le_refl _) _
 have HG := hid (ValueC.rgood ⟨3, 0, s⟩)
 rw [goodB_t (show GoodP ⟨3, 0, s⟩ from Or.inr (Or.inr (Or.inr (Or.inl ⟨rfl, rfl, hs⟩))))] at HG
 have HR := hid HR
 have hsf := hid (fun r (hr : readL s.data.toList = r) (h : r.err = 0) => self_of hr h)
 have hsn := hid (fun r (hr : readL s.data.toList = r) (h : r.err ≠ 0) => self_not hr h)
 have hk1 := hid (fun r (hr : readL s.data.toList = r) (h : selfB s.data.toList = true) => self_kind hr h)
 have hv1 := hid (fun h => value_self (s := s) h)
 have hv2 := hid (fun h => value_quote (s := s) h)
 have eV := fun W => ValueC.eqs 3 0 0 0 s nos W
 rw [show ValueC.sameB ⟨3, 0, s⟩ ⟨0, 0, nos⟩ = false from decide_eq_false (fun h => by have := congrArg Val.k h; simp only at this; omega)] at eV
 unfold nos at eV
 obtain ⟨d0, d1, d2, d3, d4, d5, d6, d7, d8, d9, d10, d11, d12, d13⟩ := R1.cells
 go_enter func21, ntmps21
 go_wp2_with fail
 generalize (w.alloc (.cells (jSV 1 3 0 s A c) 37)) = W1 at *
 refine (HG.out W1).mono ?_; rintro e w2 ⟨rfl, hb2⟩
 have R2 := R1.below hb2
 have B2 := B1.trans (hb2.mono B1.size)
 clear d0 d1 d2 d3 d4 d5 d6 d7 d8 d9 d10 d11 d12 d13 R1 B1 hb2 HG
 obtain ⟨d0, d1, d2, d3, d4, d5, d6, d7, d8, d9, d10, d11, d12, d13⟩ := R2.cells
 go_wp2_with fail
 refine (HR.out w2).mono ?_; rintro e w3 ⟨A', c', rfl, hb3, hK⟩
 have R3 := R2.below hb3
 have B3 := B2.trans (hb3.mono B2.size)
 clear d0 d1 d2 d3 d4 d5 d6 d7 d8 d9 d10 d11 d12 d13 R2 B2 hb3 HR hK
 replace hsf := hsf.out _ rfl
 replace hsn := hsn.out _ rfl
 replace hk1 := hk1.out _ rfl
 generalize readL s.data.toList = r at *
 obtain ⟨k, ⟨vk, vn, vs⟩, ⟨f, kd⟩, pat, per⟩ := r
 simp only at hsf hsn hk1 ⊢
 have g4 : Below w3.heap.size w3 (w3.alloc (.cells (jS k vk vn vs f A' kd.len c') 37)) := (Below.refl _ _).alloc (Nat.le_refl _) _
 have R4 := R3.below g4
 have Q4 : RLoc 37 (w3.alloc (.cells (jS k vk vn vs f A' kd.len c') 37)) w3.heap.size k vk vn vs f A' kd.len c' := ⟨heap_alloc_new _ _⟩
 have B4 := B3.trans (g4.mono B3.size)
 obtain ⟨d0, d1, d2, d3, d4, d5, d6, d7, d8, d9, d10, d11, d12, d13⟩ := R4.cells
 obtain ⟨g0, g1, g2, g3, g4, g5, g6, g7, g8, g9, g10, g11, g12, g13⟩ := Q4.cells
 clear g4 R3 B3
 by_cases hz : per = 0
 · subst hz
   replace hsf := hsf rfl
   clear hsn
   by_cases hk : k = 1
   · subst hk
     go_wp2_with fail
     generalize (w3.alloc (.cells (jS 1 vk vn vs f A' kd.len c') 37)) = W4 at *
     refine (ValueC.keepValue ⟨vk, vn, vs⟩ ⟨3, 0, s⟩ W4).mono ?_; rintro e w5 ⟨rfl, hb5⟩
     have R5 := R4.below hb5
     have B5 := B4.trans (hb5.mono B4.size)
     clear d0 d1 d2 d3 d4 d5 d6 d7 d8 d9 d10 d11 d12 d13 R4 B4 hb5 Q4 g0 g1 g2 g3 g4 g5 g6 g7 g8 g9 g10 g11 g12 g13
     obtain ⟨d0, d1, d2, d3, d4, d5, d6, d7, d8, d9, d10, d11, d12, d13⟩ := R5.cells
     rw [← hsf]
     cases hself : selfB s.data.toList
     · have E := hid (hv2.out hself)
       clear hself hsf hv1 hv2 hk1
       go_wp2_with fail
       go_ret2
       exact ⟨by rw [E.out]; rfl, B5⟩
     · have E := hid (hv1.out hself)
       clear hself hsf hv1 hv2 hk1
       go_wp2_with fail
       go_ret2
       exact ⟨by rw [E.out]; rfl, B5⟩
   · have qk : (k == 1) = false := beq_eq_false_iff_ne.2 hk
     have E := hid (hv2.out (by
       cases hself : selfB s.data.toList
       · rfl
       · exact absurd (hk1 hself) hk))
     clear hsf hv1 hv2 hk1 hk
     go_wp2_with fail
     go_ret2
     exact ⟨by rw [E.out]; rfl, B4⟩
 · have qz : (per == 0) = false := beq_eq_false_iff_ne.2 hz
   have E := hid (hv2.out (hsn hz))
   clear hsn hsf hv1 hv2 hk1 hz
   go_wp2_with fail
   go_ret2
   exact ⟨by rw [E.out]; rfl, B4⟩
theorem rWrite_2 (a : Nd) (A : Option Addr) (c : Nat) (w : World) (hs : a.size ≤ 1990) (hsh : a.one.Short) (hw : a.all wideB = true) (h0 : a.f.k ≠ 0) (hK : KidsAt w (fun g => g < w.heap.size) a.kids A) :
   Calls prog 21 #[.agg (jS 2 0 0 { data := #[] } a.f A a.kids.len c)] w fun e w' => e = .returned (.tuple #[.string (str (formT a).s), .int .i64 (formT a).err]) ∧ Below w.heap.size w w' := by
 have e0 : ∀ W, (binOp .eql 24 (.agg (jV 0 0 { data := #[] })) (.agg (jV 0 0 { data := #[] }))).run prog W = .ok (.bool true) W := fun W => ValueC.eqs 0 0 0 0 nos nos W
 have eR : ∀ W, (binOp .eql 28 (.agg (jR 0 0 0 0)) (.agg (jR 0 0 0 0))).run prog W = .ok (.bool true) W := eql_rect0
 have R1 : L2n (w.alloc (.cells (jS 2 0 0 { data := #[] } a.f A a.kids.len c) 37)) w.heap.size a.f A a.kids.len c := ⟨heap_alloc_new _ _⟩
 have B1 : Below w.heap.size w (w.alloc (.cells (jS 2 0 0 { data := #[] } a.f A a.kids.len c) 37)) := (Below.refl _ _).alloc (Nat.le_refl _) _
 have HT := hid (rText a A c (w.alloc (.cells (jS 2 0 0 { data := #[] } a.f A a.kids.len c) 37)) hs hsh hw (below_row hK B1))
 have HS := hid (text_short a)
 have HF := hid (show formT a = (if (textR a).err = 0 then (if 299 < (textR a).s.length then ⟨[], 2⟩ else ⟨61 :: (textR a).s, 0⟩) else ⟨[], (textR a).err⟩) from rfl)
 generalize formT a = R at *
 generalize textR a = t at *
 clear hK hs hw hsh
 obtain ⟨f, kd⟩ := a
 simp only at *
 have q0 : (f.k == 0) = false := beq_eq_false_iff_ne.2 h0
 clear h0
 obtain ⟨d0, d1, d2, d3, d4, d5, d6, d7, d8, d9, d10, d11, d12, d13⟩ := R1.cells
 go_enter func21, ntmps21
 go_wp2_with fail
 generalize (w.alloc (.cells (jS 2 0 0 { data := #[] } f A kd.len c) 37)) = W1 at *
 refine HT.out.mono ?_; rintro e w2 ⟨rfl, hb2⟩
 have B2 := B1.trans (hb2.mono B1.size)
 clear d0 d1 d2 d3 d4 d5 d6 d7 d8 d9 d10 d11 d12 d13 R1 B1 hb2 HT
 obtain ⟨l, n⟩ := t
 simp only at HS HF ⊢
 have HZ := hid (str_size l)
 by_cases hz : n = 0
 · subst hz
   rw [if_pos rfl] at HF
   by_cases h2 : 299 < l.length
   · rw [if_pos h2] at HF
     have t1 : (299 : Int) < ((str l).size : Int) := by rw [HZ.out]; omega
     clear h2 HZ
     generalize str l = u at *
     go_wp2_with fail
     go_ret2
     exact ⟨by rw [HF.out]; rfl, B2⟩
   · rw [if_neg h2] at HF
     have t1 : ¬ (299 : Int) < ((str l).size : Int) := by rw [HZ.out]; omega
     have HEQ := hid (eq_str l)
     clear h2 HZ
     generalize str l = u at *
     go_wp2_with fail
     go_ret2
     exact ⟨by rw [HF.out, HEQ.out]; rfl, B2⟩
 · have q : (n != 0) = true := by rw [bne, beq_eq_false_iff_ne.2 hz]; rfl
   rw [if_neg hz] at HF
   clear hz HZ
   generalize str l = u at *
   go_wp2_with fail
   go_ret2
   exact ⟨by rw [HF.out]; rfl, B2⟩
theorem rWrite_read {s : List UInt8} (h : (readL s).err = 0) (HR : ∀ (s : ByteArray) W, Calls prog 8 #[.string s] W (ReadPost W (readL s.data.toList))) (A : Option Addr) (c : Nat) (w : World) (hK : KidsAt w (fun g => g < w.heap.size) (readL s).nd.kids A) :
   Calls prog 21 #[.agg (jS (readL s).k (readL s).v.k (readL s).v.n (readL s).v.s (readL s).nd.f A (readL s).nd.kids.len c)] w fun e w' => e = .returned (.tuple #[.string (str (writeL (readL s).k (readL s).v (readL s).nd).s), .int .i64 (writeL (readL s).k (readL s).v (readL s).nd).err]) ∧ Below w.heap.size w w' := by
 rcases read_ok h with ⟨-, e⟩ | ⟨t, -, ht, e⟩ | ⟨v, e, g1, g2, g3, g4⟩
 · rw [e]
   exact rWrite_0 A c w
 · rw [e] at hK ⊢
   obtain ⟨h1, h2, h3, h4⟩ := parse_fits ht
   have := rWrite_2 (parseL t).nd A c w h1 h2 h3 h4 hK
   rw [show formT (parseL t).nd = writeL 2 zeroV (parseL t).nd from by unfold writeL; rw [if_neg (by decide), if_neg (by decide), if_pos rfl, if_pos rfl]; rfl] at this
   exact this
 · rw [e]
   have hwv := write_val g1 g2 g3
   by_cases h3 : v.k = 3
   · obtain ⟨hn0, hs2⟩ : v.n = 0 ∧ v.s.size ≤ 200 := by
       rcases g1 with ⟨h, -⟩ | ⟨h, -⟩ | ⟨h, -⟩ | ⟨-, h⟩ | ⟨h, -⟩
       · omega
       · omega
       · omega
       · exact h
       · omega
     obtain ⟨k, n, x⟩ := v
     simp only at h3 hn0 hs2
     subst h3 hn0
     have := rWrite_t x A c w hs2 (fun W => HR x W)
     show Calls _ _ _ _ _
     rw [show writeL (valR ⟨3, 0, x⟩).k (valR ⟨3, 0, x⟩).v (valR ⟨3, 0, x⟩).nd = ⟨valueL ⟨3, 0, x⟩, 0⟩ from hwv]
     exact this
   · have hk : v.k = 1 ∨ v.k = 2 := by
       rcases g1 with ⟨h, -⟩ | ⟨h, -⟩ | ⟨h, -⟩ | ⟨h, -⟩ | ⟨h, -⟩
       · exact absurd h g2
       · exact Or.inl h
       · exact Or.inr h
       · exact absurd h h3
       · exact absurd h g3
     have := rWrite_1 v A c w g1 hk g4
     rw [show writeL (valR v).k (valR v).v (valR v).nd = ⟨valueL v, 0⟩ from hwv]
     exact this
theorem rClean (HR0 : ∀ (s : ByteArray) W, Calls prog 8 #[.string s] W (ReadPost W (readL s.data.toList))) (s : ByteArray) (w : World) : Calls prog 10 #[.string s] w fun e w' => e = .returned (.tuple #[.string (str (cleanL s.data.toList).s), .int .i64 (cleanL s.data.toList).at_, .int .i64 (cleanL s.data.toList).err]) ∧ Below w.heap.size w w' := by
 have HR := hid (HR0 s w)
 have HW := hid (fun h A c W hk => rWrite_read (s := s.data.toList) h HR0 A c W hk)
 have HC1 := hid (fun (h : (readL s.data.toList).err ≠ 0) => show cleanL s.data.toList = ⟨[], (readL s.data.toList).at_, (readL s.data.toList).err⟩ from if_neg h)
 have HC2 := hid (fun (h : (readL s.data.toList).err = 0) => show cleanL s.data.toList = ⟨(writeL (readL s.data.toList).k (readL s.data.toList).v (readL s.data.toList).nd).s, 0, (writeL (readL s.data.toList).k (readL s.data.toList).v (readL s.data.toList).nd).err⟩ from if_pos h)
 clear HR0
 generalize cleanL s.data.toList = R at *
 generalize readL s.data.toList = r at *
 go_enter func10, ntmps10
 go_wp2_with fail
 refine HR.out.mono ?_; rintro e w2 ⟨A, c, rfl, hb2, hK⟩
 clear HR
 obtain ⟨k, ⟨vk, vn, vs⟩, ⟨f, kd⟩, pat, per⟩ := r
 simp only at hK HC1 HC2 HW ⊢
 have g3 : Below w2.heap.size w2 (w2.alloc (.cells (jS k vk vn vs f A kd.len c) 37)) := (Below.refl _ _).alloc (Nat.le_refl _) _
 have B3 := hb2.trans (g3.mono hb2.size)
 have K3 : KidsAt (w2.alloc (.cells (jS k vk vn vs f A kd.len c) 37)) (fun g => g < (w2.alloc (.cells (jS k vk vn vs f A kd.len c) 37)).heap.size) kd A := hK.keep (y := w2.heap.size) (Kept.of g3) (fun g hg hlt => ⟨by omega, by simp; omega⟩)
 have R3 : RLoc 37 (w2.alloc (.cells (jS k vk vn vs f A kd.len c) 37)) w2.heap.size k vk vn vs f A kd.len c := ⟨heap_alloc_new _ _⟩
 clear g3 hK hb2
 by_cases hz : per = 0
 · subst hz
   have E := hid (HC2.out rfl)
   have HWr := hid (HW.out rfl A c _ K3)
   clear HC1 HC2 HW K3
   obtain ⟨d0, d1, d2, d3, d4, d5, d6, d7, d8, d9, d10, d11, d12, d13⟩ := R3.cells
   generalize writeL k ⟨vk, vn, vs⟩ ⟨f, kd⟩ = Q at *
   go_wp2_with fail
   generalize (w2.alloc (.cells (jS k vk vn vs f A kd.len c) 37)) = W3 at *
   refine HWr.out.mono ?_; rintro e w4 ⟨rfl, hb4⟩
   clear d0 d1 d2 d3 d4 d5 d6 d7 d8 d9 d10 d11 d12 d13 R3 HWr
   obtain ⟨l, n⟩ := Q
   simp only at E ⊢
   generalize hu : str l = u at *
   go_wp2_with fail
   refine bodyPost_ret (v := .tuple #[.string u, .int .i64 0, .int .i64 n]) (by simp [results, results10, go_sem]) rfl ?_
   exact ⟨by rw [E.out]; subst hu; rfl, B3.trans (hb4.mono B3.size)⟩
 · have q : (per != 0) = true := by rw [bne, beq_eq_false_iff_ne.2 hz]; rfl
   have E := hid (HC1.out hz)
   clear HC1 HC2 hz K3 HW
   go_wp2_with fail
   refine bodyPost_ret (v := .tuple #[.string { data := #[] }, .int .i64 pat, .int .i64 per]) (by simp [results, results10, go_sem]) rfl ?_
   exact ⟨by rw [E.out]; rfl, B3⟩
structure SLoc (T : Nat) (w : World) (b : Nat) (kd k n : Int) (s : ByteArray) (A : Option Addr) (c : Nat) : Prop where
 at_ : w.heap[b]? = some (.cells (jSV kd k n s A c) T (0, 0))
theorem SLoc.lt {T : Nat} {w : World} {b : Nat} {kd k n : Int} {s : ByteArray} {A : Option Addr} {c : Nat} (h : SLoc T w b kd k n s A c) : b < w.heap.size := (Array.getElem?_eq_some_iff.1 h.at_).1
theorem SLoc.below {T : Nat} {w : World} {b : Nat} {kd k n : Int} {s : ByteArray} {A : Option Addr} {c : Nat} {w' : World} (h : SLoc T w b kd k n s A c) (hb : Below w.heap.size w w') : SLoc T w' b kd k n s A c := ⟨(hb.block b h.lt).trans h.at_⟩
theorem SLoc.cells {T : Nat} {w : World} {b : Nat} {kd k n : Int} {s : ByteArray} {A : Option Addr} {c : Nat} (h : SLoc T w b kd k n s A c) : w.cell? ⟨b, 0, none⟩ = some (.int .i64 kd) ∧ w.cell? ⟨b, 1, none⟩ = some (.int .i64 k) ∧ w.cell? ⟨b, 2, none⟩ = some (.int .i64 n) ∧ w.cell? ⟨b, 3, none⟩ = some (.string s) ∧ w.cell? ⟨b, 4, none⟩ = some (.int .i64 0) ∧ w.cell? ⟨b, 5, none⟩ = some (.int .i64 0) ∧ w.cell? ⟨b, 6, none⟩ = some (.int .i64 0) ∧ w.cell? ⟨b, 7, none⟩ = some (.string { data := #[] }) ∧ w.cell? ⟨b, 8, none⟩ = some (.int .i64 0) ∧ w.cell? ⟨b, 9, none⟩ = some (.int .i64 0) ∧ w.cell? ⟨b, 10, none⟩ = some (.int .i64 0) ∧ w.cell? ⟨b, 11, none⟩ = some (.int .i64 0) ∧ w.cell? ⟨b, 12, none⟩ = some (.string { data := #[] }) ∧ w.cell? ⟨b, 13, none⟩ = some (.slice A 0 c) := by
 have h1 := h.at_
 refine ⟨?_, ?_, ?_, ?_, ?_, ?_, ?_, ?_, ?_, ?_, ?_, ?_, ?_, ?_⟩ <;> simp [World.cell?, h1]
theorem cRead_r {s : ByteArray} {r : RS} (hr : readL s.data.toList = r) (w : World) (hl : LexLib w) (hg : ErrT w) : Calls prog 7 #[.string s] w (ReadPost w r) := by
 subst hr; exact cRead s w hl hg
theorem cRead_val {s : ByteArray} {k n : Int} {x : ByteArray} (hr : readL s.data.toList = valR ⟨k, n, x⟩) (w : World) (hl : LexLib w) (hg : ErrT w) : Calls prog 7 #[.string s] w fun e w' =>
   ∃ A c, e = .returned (.tuple #[.agg (jSV 1 k n x A c), .int .i64 0, .int .i64 0]) ∧ Below w.heap.size w w' :=
 (cRead_r hr w hl hg).mono (fun e w' h => by obtain ⟨A, c, he, hb, -⟩ := h; exact ⟨A, c, he, hb⟩)
theorem cRead_none {s : ByteArray} {a n : Int} (hr : readL s.data.toList = noneR a n) (w : World) (hl : LexLib w) (hg : ErrT w) : Calls prog 7 #[.string s] w fun e w' =>
   ∃ A c, e = .returned (.tuple #[.agg (jSV 0 0 0 { data := #[] } A c), .int .i64 a, .int .i64 n]) ∧ Below w.heap.size w w' :=
 (cRead_r hr w hl hg).mono (fun e w' h => by obtain ⟨A, c, he, hb, -⟩ := h; exact ⟨A, c, he, hb⟩)
theorem cWrite_val (k n : Int) (x : ByteArray) (A : Option Addr) (c : Nat) (r : TRes) (hr : writeL 1 ⟨k, n, x⟩ zeroN = r) (w : World) (hn : I64 n) (hl : LexLib w) (hg : ErrT w) :
   Calls prog 12 #[.agg (jSV 1 k n x A c)] w fun e w' => e = .returned (.tuple #[.string (str r.s), .int .i64 r.err]) ∧ Below w.heap.size w w' := by
 subst hr
 exact cWrite 1 ⟨k, n, x⟩ zeroN A c w (Or.inr (Or.inl rfl)) (fun h => absurd h (by decide)) (by decide) (by decide) hn hl hg (Or.inl rfl)
theorem cClean_r {s : ByteArray} {r : CRes} (hr : cleanL s.data.toList = r) (w : World) (hl : LexLib w) (hg : ErrT w) : Calls prog 9 #[.string s] w fun e w' => e = .returned (.tuple #[.string (str r.s), .int .i64 r.at_, .int .i64 r.err]) ∧ Below w.heap.size w w' := by
 subst hr; exact cClean s w hl hg
theorem wk_1 : readL ({ data := #[39, 49, 50] } : ByteArray).data.toList = valR ⟨3, 0, str [49, 50]⟩ := by kernel_rfl
theorem wk_2 : writeL 1 ⟨3, 0, str [49, 50]⟩ zeroN = ⟨[39, 49, 50], 0⟩ := by kernel_rfl
theorem wk_3 : cleanL ({ data := #[61, 32, 97, 49, 32, 43, 32, 49] } : ByteArray).data.toList = ⟨[61, 65, 49, 43, 49], 0, 0⟩ := by kernel_rfl
theorem wk_4 : readL ({ data := #[61, 49, 43] } : ByteArray).data.toList = noneR 3 13 := by kernel_rfl
theorem cwakes7 (w : World) (hl : LexLib w) (hg : ErrT w) : Calls prog 6 #[] w fun e w' => e = .returned (.bool true) ∧ Below w.heap.size w w' := by
 have HL := hid hl
 have HG := hid hg
 clear hl hg
 go_enter func6, ntmps6
 go_wp2_with fail
 refine (cRead_val wk_1 w HL.out HG.out).mono ?_; rintro e w1 ⟨A, c, rfl, hb1⟩
 have M2 : SLoc 33 (w1.alloc (.cells (jSV 1 3 0 (str [49, 50]) A c) 33)) w1.heap.size 1 3 0 (str [49, 50]) A c := ⟨heap_alloc_new _ _⟩
 have N2 : Below w.heap.size w (w1.alloc (.cells (jSV 1 3 0 (str [49, 50]) A c) 33)) := hb1.alloc hb1.size _
 have HW := hid (cWrite_val 3 0 (str [49, 50]) A c _ wk_2 (w1.alloc (.cells (jSV 1 3 0 (str [49, 50]) A c) 33)) (i64_of_small (Or.inl rfl)) (HL.out.below N2) (HG.out.below N2))
 generalize str [49, 50] = X at *
 clear hb1
 obtain ⟨d0, d1, d2, d3, d4, d5, d6, d7, d8, d9, d10, d11, d12, d13⟩ := M2.cells
 go_wp2_with fail
 generalize (w1.alloc (.cells (jSV 1 3 0 X A c) 33)) = W2 at *
 refine HW.out.mono ?_; rintro e w3 ⟨rfl, hb3⟩
 have M3 := M2.below hb3
 have N3 := N2.trans (hb3.mono N2.size)
 clear d0 d1 d2 d3 d4 d5 d6 d7 d8 d9 d10 d11 d12 d13 M2 N2 hb3 HW
 go_wp2_with fail
 refine (cClean_r wk_3 w3 (HL.out.below N3) (HG.out.below N3)).mono ?_; rintro e w4 ⟨rfl, hb4⟩
 have M4 := M3.below hb4
 have N4 := N3.trans (hb4.mono N3.size)
 clear M3 N3 hb4
 go_wp2_with fail
 refine (cRead_none wk_4 w4 (HL.out.below N4) (HG.out.below N4)).mono ?_; rintro e w5 ⟨A', c', rfl, hb5⟩
 have g6 : Below w5.heap.size w5 (w5.alloc (.cells (jSV 0 0 0 { data := #[] } A' c') 33)) := (Below.refl _ _).alloc (Nat.le_refl _) _
 have M6 := (M4.below hb5).below g6
 have N5 := N4.trans (hb5.mono N4.size)
 have HN := hid (N5.trans (g6.mono N5.size))
 clear M4 N4 hb5 g6 N5
 obtain ⟨d0, d1, d2, d3, d4, d5, d6, d7, d8, d9, d10, d11, d12, d13⟩ := M6.cells
 have t1 : ((str [39, 49, 50]).toList == [39, 49, 50]) = true := by rw [Lib.toList_data, str_back]; rfl
 have t2 : (str [39, 49, 50]).toList = [39, 49, 50] := by rw [Lib.toList_data, str_back]
 have t3 : ((str [61, 65, 49, 43, 49]).toList == [61, 65, 49, 43, 49]) = true := by rw [Lib.toList_data, str_back]; rfl
 have t4 : (str [61, 65, 49, 43, 49]).toList = [61, 65, 49, 43, 49] := by rw [Lib.toList_data, str_back]
 clear M6
 go_wp2_with fail
 go_ret
 exact ⟨rfl, HN.out⟩
theorem node_self (a : Nd) (A A' : Option Addr) (c c' : Nat) (w : World) (hs : a.size ≤ 300) (hA : KidsAt w (fun g => g < w.heap.size) a.kids A) (hA' : KidsAt w (fun g => g < w.heap.size) a.kids A') :
   Calls prog 14 #[.agg (jN a.f A a.kids.len c), .agg (jN a.f A' a.kids.len c')] w fun e w' => e = .returned (.bool true) ∧ Below w.heap.size w w' := knode a A A' c c' w hs hA hA'
theorem csame7 (k : Int) (v : Val) (a : Nd) (A A' : Option Addr) (c c' : Nat) (w : World) (hs : a.size ≤ 300) (hA : KidsAt w (fun g => g < w.heap.size) a.kids A) (hA' : KidsAt w (fun g => g < w.heap.size) a.kids A') :
   Calls prog 11 #[.agg (jS k v.k v.n v.s a.f A a.kids.len c), .agg (jS k v.k v.n v.s a.f A' a.kids.len c')] w fun e w' => e = .returned (.bool true) ∧ Below w.heap.size w w' := by
 have N1 : Below w.heap.size w (w.alloc (.cells (jS k v.k v.n v.s a.f A a.kids.len c) 33)) := (Below.refl _ _).alloc (Nat.le_refl _) _
 have M1 : RLoc 33 (w.alloc (.cells (jS k v.k v.n v.s a.f A a.kids.len c) 33)) w.heap.size k v.k v.n v.s a.f A a.kids.len c := ⟨heap_alloc_new _ _⟩
 have g2 : Below (w.alloc (.cells (jS k v.k v.n v.s a.f A a.kids.len c) 33)).heap.size (w.alloc (.cells (jS k v.k v.n v.s a.f A a.kids.len c) 33)) ((w.alloc (.cells (jS k v.k v.n v.s a.f A a.kids.len c) 33)).alloc (.cells (jS k v.k v.n v.s a.f A' a.kids.len c') 37)) := (Below.refl _ _).alloc (Nat.le_refl _) _
 have M2 := M1.below g2
 have Q2 : RLoc 37 ((w.alloc (.cells (jS k v.k v.n v.s a.f A a.kids.len c) 33)).alloc (.cells (jS k v.k v.n v.s a.f A' a.kids.len c') 37)) (w.alloc (.cells (jS k v.k v.n v.s a.f A a.kids.len c) 33)).heap.size k v.k v.n v.s a.f A' a.kids.len c' := ⟨heap_alloc_new _ _⟩
 have N2 := N1.trans (g2.mono N1.size)
 have z1 : (w.alloc (.cells (jS k v.k v.n v.s a.f A a.kids.len c) 33)).heap.size = w.heap.size + 1 := LexC.heap_one _ _
 rw [z1] at Q2
 have HV := hid (fun W => ValueC.keepValue v v W)
 rw [show ValueC.sameB v v = true from decide_eq_true rfl] at HV
 have HN := hid (fun (W : World) (h : Below w.heap.size w W) => node_self a A A' c c' W hs (below_row hA h) (below_row hA' h))
 clear N1 M1 g2 z1 hA hA' hs
 obtain ⟨f, kd⟩ := a
 obtain ⟨vk, vn, vs⟩ := v
 simp only at *
 obtain ⟨d0, d1, d2, d3, d4, d5, d6, d7, d8, d9, d10, d11, d12, d13⟩ := M2.cells
 obtain ⟨g0, g1, g2, g3, g4, g5, g6, g7, g8, g9, g10, g11, g12, g13⟩ := Q2.cells
 go_enter func11, ntmps11
 go_wp2_with fail
 generalize ((w.alloc (.cells (jS k vk vn vs f A kd.len c) 33)).alloc (.cells (jS k vk vn vs f A' kd.len c') 37)) = W2 at *
 refine (HV.out W2).mono ?_; rintro e w3 ⟨rfl, hb3⟩
 have M3 := M2.below hb3
 have Q3 := Q2.below hb3
 have N3 := N2.trans (hb3.mono N2.size)
 clear d0 d1 d2 d3 d4 d5 d6 d7 d8 d9 d10 d11 d12 d13 g0 g1 g2 g3 g4 g5 g6 g7 g8 g9 g10 g11 g12 g13 M2 Q2 N2 hb3 HV
 obtain ⟨d0, d1, d2, d3, d4, d5, d6, d7, d8, d9, d10, d11, d12, d13⟩ := M3.cells
 obtain ⟨g0, g1, g2, g3, g4, g5, g6, g7, g8, g9, g10, g11, g12, g13⟩ := Q3.cells
 go_wp2_with fail
 refine (HN.out w3 N3).mono ?_; rintro e w4 ⟨rfl, hb4⟩
 go_wp2_with fail
 go_ret
 exact ⟨rfl, N3.trans (hb4.mono N3.size)⟩
theorem nd_small (s : List UInt8) : (readL s).nd.size ≤ 300 := by
 by_cases h : (readL s).err = 0
 · exact (read_fits h).2.2.1
 · have e : (readL s).nd = zeroN := by
     unfold readL asText at h ⊢
     repeat (first | rfl | exact absurd rfl h | split at h <;> rename_i hz <;> first | rw [if_pos hz] | rw [if_neg hz])
   rw [e]; decide
theorem rRead (s : ByteArray) (w : World) : Calls prog 8 #[.string s] w (ReadPost w (readL s.data.toList)) := rRead_of (fun t W h => rParse t W h) s w
theorem sourceReads (s : ByteArray) (w : World) (hl : LexLib w) (hg : ErrT w) : Calls prog 3 #[.string s] w fun e w' => e = .returned (.bool true) ∧ Below w.heap.size w w' := by
 have HW := hid (fun (W : World) (hb : Below w.heap.size w W) => cwakes7 W (hl.below hb) (hg.below hb))
 by_cases h3 : 3000 < s.size
 · have t1 : (3000 : Int) < (s.size : Int) := by omega
   clear hl hg
   go_enter func3, ntmps3
   go_wp2_with fail
   refine (HW.out w (Below.refl _ _)).mono ?_; rintro e w1 ⟨rfl, hb1⟩
   go_wp2_with fail
   go_ret
   exact ⟨rfl, hb1⟩
 have t1 : ¬ (3000 : Int) < (s.size : Int) := by omega
 have HR := hid (cRead s w hl hg)
 have HRR := hid (fun W => rRead s W)
 have HC := hid (fun (W : World) (hb : Below w.heap.size w W) => cClean s W (hl.below hb) (hg.below hb))
 have HCC := hid (fun W => rClean rRead s W)
 have HS := hid (nd_small s.data.toList)
 clear hl hg h3
 generalize cleanL s.data.toList = q at *
 generalize readL s.data.toList = r at *
 obtain ⟨k, ⟨vk, vn, vs⟩, ⟨f, kd⟩, pat, per⟩ := r
 obtain ⟨l, qat, qer⟩ := q
 simp only at HS HC HCC
 generalize str l = u at *
 go_enter func3, ntmps3
 go_wp2_with fail
 refine HR.out.mono ?_; rintro e w1 ⟨A, c, rfl, hb1, hK1⟩
 simp only at hK1 ⊢
 have g2 : Below w1.heap.size w1 (w1.alloc (.cells (jS k vk vn vs f A kd.len c) 33)) := (Below.refl _ _).alloc (Nat.le_refl _) _
 have N2 := hb1.trans (g2.mono hb1.size)
 have M2 : RLoc 33 (w1.alloc (.cells (jS k vk vn vs f A kd.len c) 33)) w1.heap.size k vk vn vs f A kd.len c := ⟨heap_alloc_new _ _⟩
 have K2 : KidsAt (w1.alloc (.cells (jS k vk vn vs f A kd.len c) 33)) (fun g => g < (w1.alloc (.cells (jS k vk vn vs f A kd.len c) 33)).heap.size) kd A := hK1.keep (y := w1.heap.size) (Kept.of g2) (fun g hg hlt => ⟨by omega, by simp; omega⟩)
 clear g2 hK1 hb1 HR
 go_wp2_with fail
 generalize (w1.alloc (.cells (jS k vk vn vs f A kd.len c) 33)) = W2 at *
 refine (HRR.out W2).mono ?_; rintro e w3 ⟨A', c', rfl, hb3, hK3⟩
 simp only at hK3 ⊢
 have g4 : Below w3.heap.size w3 (w3.alloc (.cells (jS k vk vn vs f A' kd.len c') 37)) := (Below.refl _ _).alloc (Nat.le_refl _) _
 have N3 := N2.trans (hb3.mono N2.size)
 have N4 := N3.trans (g4.mono N3.size)
 have M4 := (M2.below hb3).below g4
 have Q4 : RLoc 37 (w3.alloc (.cells (jS k vk vn vs f A' kd.len c') 37)) w3.heap.size k vk vn vs f A' kd.len c' := ⟨heap_alloc_new _ _⟩
 have K4 := below_row (below_row K2 hb3) g4
 have J4 : KidsAt (w3.alloc (.cells (jS k vk vn vs f A' kd.len c') 37)) (fun g => g < (w3.alloc (.cells (jS k vk vn vs f A' kd.len c') 37)).heap.size) kd A' := hK3.keep (y := w3.heap.size) (Kept.of g4) (fun g hg hlt => ⟨by omega, by simp; omega⟩)
 clear g4 hK3 hb3 HRR N2 N3 M2 K2
 go_wp2_with fail
 generalize (w3.alloc (.cells (jS k vk vn vs f A' kd.len c') 37)) = W4 at *
 refine (HC.out W4 N4).mono ?_; rintro e w5 ⟨rfl, hb5⟩
 have N5 := N4.trans (hb5.mono N4.size)
 have M5 := M4.below hb5
 have Q5 := Q4.below hb5
 have K5 := below_row K4 hb5
 have J5 := below_row J4 hb5
 clear N4 M4 Q4 K4 J4 hb5 HC
 go_wp2_with fail
 refine (HCC.out w5).mono ?_; rintro e w6 ⟨rfl, hb6⟩
 have N6 := N5.trans (hb6.mono N5.size)
 have M6 := M5.below hb6
 have Q6 := Q5.below hb6
 have HSM := hid (csame7 k ⟨vk, vn, vs⟩ ⟨f, kd⟩ A A' c c' w6 HS.out (below_row K5 hb6) (below_row J5 hb6))
 clear N5 M5 Q5 K5 J5 hb6 HCC HS
 obtain ⟨d0, d1, d2, d3, d4, d5, d6, d7, d8, d9, d10, d11, d12, d13⟩ := M6.cells
 obtain ⟨g0, g1, g2, g3, g4, g5, g6, g7, g8, g9, g10, g11, g12, g13⟩ := Q6.cells
 clear M6 Q6
 go_wp2_with fail
 refine HSM.out.mono ?_; rintro e w7 ⟨rfl, hb7⟩
 have N7 := N6.trans (hb7.mono N6.size)
 clear d0 d1 d2 d3 d4 d5 d6 d7 d8 d9 d10 d11 d12 d13 g0 g1 g2 g3 g4 g5 g6 g7 g8 g9 g10 g11 g12 g13 N6 hb7 HSM
 go_wp2_with fail
 refine (HW.out w7 N7).mono ?_; rintro e w8 ⟨rfl, hb8⟩
 go_wp2_with fail
 go_ret
 exact ⟨rfl, N7.trans (hb8.mono N7.size)⟩
end Go.Proofs.YticehalcnbjccaaGreatDoor.SourceC
