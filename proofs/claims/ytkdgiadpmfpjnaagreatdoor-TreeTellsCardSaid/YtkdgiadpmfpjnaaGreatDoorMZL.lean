/-
  The walk of the statement TreeDeep: for all arguments it answers true (by plain facts on the texts that the caller gives).
-/
import Derived.Test.YtkdgiadpmfpjnaaGreatDoorMZ
import Derived.Test.YtkdgiadpmfpjnaaGreatDoorMLexF
namespace Go.Proofs.YtkdgiadpmfpjnaaGreatDoor.TreeC
set_option linter.unusedVariables false
open Go.RowKit Go.Proofs.YtkdgiadpmfpjnaaGreatDoor.NumC Go.Proofs.YtkdgiadpmfpjnaaGreatDoor.LexC

def openT (k : Nat) : List UInt8 := List.replicate k 40 ++ [49] ++ List.replicate k 41
def minusT (k : Nat) : List UInt8 := List.replicate k 45 ++ [49]
def powT (k : Nat) : List UInt8 := [49] ++ (List.replicate k [94, 49]).flatten
theorem str_app (l m : List UInt8) : str l ++ str m = str (l ++ m) := by
  apply ByteArray.ext
  rw [ByteArray.data_append]
  simp [str]
theorem str_len (l : List UInt8) : (str l).size = l.length := by simp [str, ByteArray.size]
theorem pow_len (k : Nat) : (powT k).length = 1 + 2 * k := by
  unfold powT
  rw [List.length_append, List.length_flatten]
  simp; omega
theorem str_list (l : List UInt8) : (str l).data.toList = l := by simp [str]
theorem rep_snoc (k : Nat) (c : UInt8) : str (List.replicate k c) ++ { data := #[c] } = str (List.replicate (k + 1) c) := by
  rw [show ({ data := #[c] } : ByteArray) = str [c] from rfl, str_app, List.replicate_succ']
theorem pow_snoc (k : Nat) : str (powT k) ++ { data := #[94, 49] } = str (powT (k + 1)) := by
  rw [show ({ data := #[94, 49] } : ByteArray) = str [94, 49] from rfl, str_app]
  unfold powT
  rw [List.replicate_succ', List.flatten_append]
  simp
theorem open_str (k : Nat) : str (List.replicate k 40) ++ { data := #[49] } ++ str (List.replicate k 41) = str (openT k) := by
  rw [show ({ data := #[49] } : ByteArray) = str [49] from rfl, str_app, str_app]; rfl
theorem minus_str (k : Nat) : str (List.replicate k 45) ++ { data := #[49] } = str (minusT k) := by
  rw [show ({ data := #[49] } : ByteArray) = str [49] from rfl, str_app]; rfl
/-- What the statement says, of the texts alone. -/
structure DeepFacts : Prop where
  op : ∀ k, k < 60 → (parseL (openT k)).err = if k ≤ 40 then 0 else 14
  mi : ∀ k, k < 60 → (parseL (minusT k)).err = if k < 16 then 0 else 14
  po : ∀ k, k < 60 → (parseL (powT k)).err = if k < 16 then 0 else 14
set_option maxRecDepth 100000 in
set_option maxHeartbeats 2000000 in
theorem treeDeep (D : DeepFacts) (n : Int) (h0 : 0 ≤ n) (h1 : n ≤ 255) (w : World) (hl : LexLib w) (hg : ErrT w) : Calls Tryz.prog 7 #[.int .u8 n] w fun e w' => e = .returned (.bool true) ∧ Below w.heap.size w w' := by
  have HL := Lib.hid hl
  have HG := Lib.hid hg
  clear hl hg
  obtain ⟨k, hk60, hkn⟩ : ∃ k : Nat, k < 60 ∧ n.tmod 60 = (k : Int) := ⟨(n.tmod 60).toNat, by have := Int.tmod_lt_of_pos n (show (0 : Int) < 60 by decide); omega, by have := Int.tmod_nonneg 60 h0; omega⟩
  go_enter Tryz.func7, Tryz.ntmps7
  go_wp2_with fail
  go_loopw [4, 5, 6, 7, 8] (fun a b c d iv wr => ∃ i : Nat, i ≤ k ∧ iv = .int .i64 i ∧ a = .string (str (List.replicate i 40)) ∧ b = .string (str (List.replicate i 41)) ∧ c = .string (str (List.replicate i 45)) ∧ d = .string (str (powT i)) ∧ wr = w) (fun _ _ _ _ iv _ => k - (intOf iv).toNat)
  case atStart => exact ⟨0, Nat.zero_le _, rfl, rfl, rfl, rfl, rfl, rfl⟩
  case round =>
    obtain ⟨i, hi, rfl, rfl, rfl, rfl, rfl, rfl⟩ := hrel
    by_cases hlt : i < k
    · have d1 : (i : Int) < (k : Int) := by omega
      have z1 : (str (List.replicate i 40)).size = i := by rw [str_len]; simp
      have z2 : (str (List.replicate i 41)).size = i := by rw [str_len]; simp
      have z3 : (str (List.replicate i 45)).size = i := by rw [str_len]; simp
      have z4 : (str (powT i)).size = 1 + 2 * i := by rw [str_len]; exact pow_len i
      have r1 := rep_snoc i 40
      have r2 := rep_snoc i 41
      have r3 := rep_snoc i 45
      have r4 := pow_snoc i
      go_wp2_with fail
      go_roundw
      case rel => exact ⟨i + 1, by omega, by go_num, rfl, rfl, rfl, rfl, trivial⟩
      case measure => simp [intOf]; omega
    · obtain rfl : i = k := by omega
      have d1 : ¬ (i : Int) < (i : Int) := by omega
      have z1 : (str (List.replicate i 40)).size = i := by rw [str_len]; simp
      have z2 : (str (List.replicate i 41)).size = i := by rw [str_len]; simp
      have z3 : (str (List.replicate i 45)).size = i := by rw [str_len]; simp
      have z5 : (str (openT i)).size ≤ 1000000 := by rw [str_len]; simp [openT]; omega
      have z6 : (str (minusT i)).size ≤ 1000000 := by rw [str_len]; simp [minusT]; omega
      have z4 : (str (powT i)).size ≤ 1000000 := by rw [str_len, pow_len]; omega
      have r1 := open_str i
      have r3 := minus_str i
      have E1 := Lib.hid (D.op i hk60)
      have E2 := Lib.hid (D.mi i hk60)
      have E3 := Lib.hid (D.po i hk60)
      have HZ := Lib.hid (And.intro z5 (And.intro z6 z4))
      clear z5 z6 z4
      go_wp2_with fail
      refine (cParse (str (openT i)) _ HZ.out.1 HL.out HG.out).mono ?_
      rw [str_list]
      generalize parseL (openT i) = p1 at *
      obtain ⟨q1, a1, e1⟩ := p1
      simp only at E1
      rintro e w1 ⟨v, rfl, hb1, A1, c1, rfl, -⟩
      unfold nodeV
      have B1 : Below wr.heap.size wr (w1.alloc (.cells #[.int .i64 q1.f.k, .int .i64 q1.f.vk, .int .i64 q1.f.vn, .string q1.f.vs, .int .i64 q1.f.r1, .int .i64 q1.f.r2, .int .i64 q1.f.r3, .int .i64 q1.f.r4, .string q1.f.op, .slice A1 q1.kids.len c1] 31)) := hb1.alloc hb1.size _
      go_wp2_with fail
      generalize (w1.alloc (.cells #[.int .i64 q1.f.k, .int .i64 q1.f.vk, .int .i64 q1.f.vn, .string q1.f.vs, .int .i64 q1.f.r1, .int .i64 q1.f.r2, .int .i64 q1.f.r3, .int .i64 q1.f.r4, .string q1.f.op, .slice A1 q1.kids.len c1] 31)) = W1 at *
      refine (cParse (str (minusT i)) W1 HZ.out.2.1 (HL.out.below B1) (HG.out.below B1)).mono ?_
      rw [str_list]
      generalize parseL (minusT i) = p2 at *
      obtain ⟨q2, a2, e2⟩ := p2
      simp only at E2
      rintro e w2 ⟨v, rfl, hb2, A2, c2, rfl, -⟩
      unfold nodeV
      have B2 : Below wr.heap.size wr (w2.alloc (.cells #[.int .i64 q2.f.k, .int .i64 q2.f.vk, .int .i64 q2.f.vn, .string q2.f.vs, .int .i64 q2.f.r1, .int .i64 q2.f.r2, .int .i64 q2.f.r3, .int .i64 q2.f.r4, .string q2.f.op, .slice A2 q2.kids.len c2] 31)) := (B1.trans (hb2.mono B1.size)).alloc (by have := B1.size; have := hb2.size; omega) _
      go_wp2_with fail
      generalize (w2.alloc (.cells #[.int .i64 q2.f.k, .int .i64 q2.f.vk, .int .i64 q2.f.vn, .string q2.f.vs, .int .i64 q2.f.r1, .int .i64 q2.f.r2, .int .i64 q2.f.r3, .int .i64 q2.f.r4, .string q2.f.op, .slice A2 q2.kids.len c2] 31)) = W2 at *
      refine (cParse (str (powT i)) W2 HZ.out.2.2 (HL.out.below B2) (HG.out.below B2)).mono ?_
      rw [str_list]
      generalize parseL (powT i) = p3 at *
      obtain ⟨q3, a3, e3⟩ := p3
      simp only at E3
      rintro e w3 ⟨v, rfl, hb3, A3, c3, rfl, -⟩
      unfold nodeV
      have B3 : Below wr.heap.size wr (w3.alloc (.cells #[.int .i64 q3.f.k, .int .i64 q3.f.vk, .int .i64 q3.f.vn, .string q3.f.vs, .int .i64 q3.f.r1, .int .i64 q3.f.r2, .int .i64 q3.f.r3, .int .i64 q3.f.r4, .string q3.f.op, .slice A3 q3.kids.len c3] 31)) := (B2.trans (hb3.mono B2.size)).alloc (by have := B2.size; have := hb3.size; omega) _
      have HW := Lib.hid (cwakes _ (HL.out.below B3) (HG.out.below B3))
      have E1' := E1.out; have E2' := E2.out; have E3' := E3.out
      clear E1 E2 E3 r1 r3 z1 z2 z3
      by_cases k1 : i < 16
      · rw [if_pos (by omega)] at E1'; rw [if_pos k1] at E2' E3'
        subst E1' E2' E3'
        have t1 : (i : Int) ≤ 40 := by omega
        have t2 : (i : Int) < 16 := by omega
        go_wp2_with fail
        refine HW.out.mono ?_; rintro e w4 ⟨rfl, hb4⟩
        go_wp2_with fail
        go_ret
        refine ⟨?_, B3.trans (hb4.mono B3.size)⟩
        first
          | rfl
          | (show Ending.returned (Value.bool _) = _; congr 2; simp; omega)
      · rw [if_neg k1] at E2' E3'
        by_cases k2 : i ≤ 40
        · rw [if_pos k2] at E1'
          subst E1' E2' E3'
          have t1 : (i : Int) ≤ 40 := by omega
          have t2 : ¬ (i : Int) < 16 := by omega
          go_wp2_with fail
          refine HW.out.mono ?_; rintro e w4 ⟨rfl, hb4⟩
          go_wp2_with fail
          go_ret
          refine ⟨?_, B3.trans (hb4.mono B3.size)⟩
          first
            | rfl
            | (show Ending.returned (Value.bool _) = _; congr 2; simp; omega)
        · rw [if_neg k2] at E1'
          subst E1' E2' E3'
          have t1 : ¬ (i : Int) ≤ 40 := by omega
          have t2 : ¬ (i : Int) < 16 := by omega
          go_wp2_with fail
          refine HW.out.mono ?_; rintro e w4 ⟨rfl, hb4⟩
          go_wp2_with fail
          go_ret
          refine ⟨?_, B3.trans (hb4.mono B3.size)⟩
          first
            | rfl
            | (show Ending.returned (Value.bool _) = _; congr 2; simp; omega)

end Go.Proofs.YtkdgiadpmfpjnaaGreatDoor.TreeC

/-
  Contracts of tree's code: whether two trees are alike.
-/
namespace Go.Proofs.YtkdgiadpmfpjnaaGreatDoor.TreeC
set_option linter.unusedVariables false
open Go.RowKit Go.Proofs.YtkdgiadpmfpjnaaGreatDoor.NumC Go.Proofs.YtkdgiadpmfpjnaaGreatDoor.LexC

/-- What 'alike' answers of trees of at most so many nodes. -/
def Alike (n : Nat) : Prop := ∀ (a b : Nd) (A B : Option Addr) (c d : Nat) (w : World), a.size ≤ n → a.size ≤ 1000000 → b.size ≤ 1000000 → KidsAt w (fun g => g < w.heap.size) a.kids A → KidsAt w (fun g => g < w.heap.size) b.kids B →
    Calls Tryz.prog 34 #[.agg #[.int .i64 a.f.k, .int .i64 a.f.vk, .int .i64 a.f.vn, .string a.f.vs, .int .i64 a.f.r1, .int .i64 a.f.r2, .int .i64 a.f.r3, .int .i64 a.f.r4, .string a.f.op, .slice A a.kids.len c], .agg #[.int .i64 b.f.k, .int .i64 b.f.vk, .int .i64 b.f.vn, .string b.f.vs, .int .i64 b.f.r1, .int .i64 b.f.r2, .int .i64 b.f.r3, .int .i64 b.f.r4, .string b.f.op, .slice B b.kids.len d]] w fun e w' => e = .returned (.bool (decide (a = b))) ∧ Below w.heap.size w w'
theorem Fo.drop_eq (x y : Fo) (i : Nat) (hx : i < x.len) (hy : i < y.len) : decide (x.drop i = y.drop i) = (decide (x.nth i = y.nth i) && decide (x.drop (i + 1) = y.drop (i + 1))) := by
  rw [Fo.drop_nth x i hx, Fo.drop_nth y i hy]
  generalize x.nth i = p
  generalize y.nth i = q
  obtain ⟨p1, p2⟩ := p
  obtain ⟨q1, q2⟩ := q
  by_cases h1 : p1 = q1 <;> by_cases h2 : p2 = q2 <;> by_cases h3 : x.drop (i + 1) = y.drop (i + 1) <;> simp [h1, h2, h3]
theorem Fo.len_ne {x y : Fo} (h : x.len ≠ y.len) : decide (x = y) = false := decide_eq_false (fun e => h (by rw [e]))
set_option maxRecDepth 100000 in
set_option maxHeartbeats 1000000 in
theorem cequal (n : Nat) (H : Alike n) (x y : Fo) (A B : Option Addr) (c d : Nat) (w : World) (hn : x.size ≤ n) (hx : x.size ≤ 1000000) (hy : y.size ≤ 1000000) (hA : KidsAt w (fun g => g < w.heap.size) x A) (hB : KidsAt w (fun g => g < w.heap.size) y B) :
    Calls Tryz.prog 52 #[.slice A x.len c, .slice B y.len d, .func (.func 34) #[] #[]] w fun e w' => e = .returned (.bool (decide (x = y))) ∧ Below w.heap.size w w' := by
  have HA := Lib.hid hA
  have HB := Lib.hid hB
  clear hA hB
  have lx := Fo.len_size x
  have ly := Fo.len_size y
  by_cases hl : x.len = y.len
  · have e1 : ((x.len : Int) != (y.len : Int)) = false := by rw [hl]; simp
    have HLN := Lib.hid hl
    clear hl
    go_enter Tryz.func52, Tryz.ntmps52
    go_wp2_with fail
    go_loopw [17] (fun iv wr => ∃ (i : Nat), i ≤ x.len ∧ iv = .int .i64 i ∧ Below w.heap.size w wr ∧ Hid (decide (x.drop i = y.drop i) = decide (x = y))) (fun iv _ => x.len - (intOf iv).toNat)
    case atStart => exact ⟨0, Nat.zero_le _, rfl, Below.refl _ _, Lib.hid (by cases x <;> cases y <;> rfl)⟩
    case round =>
      obtain ⟨i, hi, rfl, hW, HR⟩ := hrel
      have KA := below_row HA.out hW
      have KB := below_row HB.out hW
      by_cases hlt : i < x.len
      · have d1 : (i : Int) < (x.len : Int) := by omega
        have d2 : (i : Int) < (y.len : Int) := by have := HLN.out; omega
        have hlt2 : i < y.len := by have := HLN.out; omega
        obtain ⟨g, o, rfl, hrow⟩ : ∃ g o, A = some ⟨g, o, none⟩ ∧ RowAt wr (fun g => g < wr.heap.size) x g o := by
          rcases KA with h | h
          · rw [h] at hlt; exact absurd hlt (by simp [Fo.len])
          · exact h
        obtain ⟨g', o', rfl, hrow'⟩ : ∃ g o, B = some ⟨g, o, none⟩ ∧ RowAt wr (fun g => g < wr.heap.size) y g o := by
          rcases KB with h | h
          · rw [h] at hlt2; exact absurd hlt2 (by simp [Fo.len])
          · exact h
        obtain ⟨A2, c2, hk2, hpp, f0, f1, f2, f3, f4, f5, f6, f7, f8, f9⟩ := RowAt.nth x g o i hrow hlt
        have b1 : Below wr.heap.size wr (wr.alloc (.cells #[.int .i64 (x.nth i).f.k, .int .i64 (x.nth i).f.vk, .int .i64 (x.nth i).f.vn, .string (x.nth i).f.vs, .int .i64 (x.nth i).f.r1, .int .i64 (x.nth i).f.r2, .int .i64 (x.nth i).f.r3, .int .i64 (x.nth i).f.r4, .string (x.nth i).f.op, .slice A2 (x.nth i).kids.len c2] 31)) := (Below.refl _ _).alloc (Nat.le_refl _) _
        have hrow2 := RowAt.keep (Q := fun g => g < wr.heap.size) (Kept.of (x := wr.heap.size) b1) (fun g hg hl => ⟨by omega, hg⟩) y g' o' hrow'
        obtain ⟨B2, d2', hk3, hpq, r0, r1, r2, r3, r4, r5, r6, r7, r8, r9⟩ := RowAt.nth y g' o' i hrow2 hlt2
        have hn1 := Fo.nth_size x i hlt
        have hn2 := Fo.nth_size y i hlt2
        have b2 : Below wr.heap.size wr ((wr.alloc (.cells #[.int .i64 (x.nth i).f.k, .int .i64 (x.nth i).f.vk, .int .i64 (x.nth i).f.vn, .string (x.nth i).f.vs, .int .i64 (x.nth i).f.r1, .int .i64 (x.nth i).f.r2, .int .i64 (x.nth i).f.r3, .int .i64 (x.nth i).f.r4, .string (x.nth i).f.op, .slice A2 (x.nth i).kids.len c2] 31)).alloc (.cells #[.int .i64 (y.nth i).f.k, .int .i64 (y.nth i).f.vk, .int .i64 (y.nth i).f.vn, .string (y.nth i).f.vs, .int .i64 (y.nth i).f.r1, .int .i64 (y.nth i).f.r2, .int .i64 (y.nth i).f.r3, .int .i64 (y.nth i).f.r4, .string (y.nth i).f.op, .slice B2 (y.nth i).kids.len d2'] 31)) := b1.alloc b1.size _
        have M1 : NLoc ((wr.alloc (.cells #[.int .i64 (x.nth i).f.k, .int .i64 (x.nth i).f.vk, .int .i64 (x.nth i).f.vn, .string (x.nth i).f.vs, .int .i64 (x.nth i).f.r1, .int .i64 (x.nth i).f.r2, .int .i64 (x.nth i).f.r3, .int .i64 (x.nth i).f.r4, .string (x.nth i).f.op, .slice A2 (x.nth i).kids.len c2] 31)).alloc (.cells #[.int .i64 (y.nth i).f.k, .int .i64 (y.nth i).f.vk, .int .i64 (y.nth i).f.vn, .string (y.nth i).f.vs, .int .i64 (y.nth i).f.r1, .int .i64 (y.nth i).f.r2, .int .i64 (y.nth i).f.r3, .int .i64 (y.nth i).f.r4, .string (y.nth i).f.op, .slice B2 (y.nth i).kids.len d2'] 31)) wr.heap.size (x.nth i).f A2 (x.nth i).kids.len c2 := NLoc.kept ⟨heap_alloc_new _ _⟩ ((Kept.refl (wr.alloc (.cells #[.int .i64 (x.nth i).f.k, .int .i64 (x.nth i).f.vk, .int .i64 (x.nth i).f.vn, .string (x.nth i).f.vs, .int .i64 (x.nth i).f.r1, .int .i64 (x.nth i).f.r2, .int .i64 (x.nth i).f.r3, .int .i64 (x.nth i).f.r4, .string (x.nth i).f.op, .slice A2 (x.nth i).kids.len c2] 31)).heap.size _).alloc _) (by simp)
        have z1 : (wr.alloc (.cells #[.int .i64 (x.nth i).f.k, .int .i64 (x.nth i).f.vk, .int .i64 (x.nth i).f.vn, .string (x.nth i).f.vs, .int .i64 (x.nth i).f.r1, .int .i64 (x.nth i).f.r2, .int .i64 (x.nth i).f.r3, .int .i64 (x.nth i).f.r4, .string (x.nth i).f.op, .slice A2 (x.nth i).kids.len c2] 31)).heap.size = wr.heap.size + 1 := heap_one _ _
        have M2 : NLoc ((wr.alloc (.cells #[.int .i64 (x.nth i).f.k, .int .i64 (x.nth i).f.vk, .int .i64 (x.nth i).f.vn, .string (x.nth i).f.vs, .int .i64 (x.nth i).f.r1, .int .i64 (x.nth i).f.r2, .int .i64 (x.nth i).f.r3, .int .i64 (x.nth i).f.r4, .string (x.nth i).f.op, .slice A2 (x.nth i).kids.len c2] 31)).alloc (.cells #[.int .i64 (y.nth i).f.k, .int .i64 (y.nth i).f.vk, .int .i64 (y.nth i).f.vn, .string (y.nth i).f.vs, .int .i64 (y.nth i).f.r1, .int .i64 (y.nth i).f.r2, .int .i64 (y.nth i).f.r3, .int .i64 (y.nth i).f.r4, .string (y.nth i).f.op, .slice B2 (y.nth i).kids.len d2'] 31)) (wr.heap.size + 1) (y.nth i).f B2 (y.nth i).kids.len d2' := ⟨by rw [← z1]; exact heap_alloc_new _ _⟩
        clear z1
        have k2 := below_row hk2 b2
        have k3 : KidsAt ((wr.alloc (.cells #[.int .i64 (x.nth i).f.k, .int .i64 (x.nth i).f.vk, .int .i64 (x.nth i).f.vn, .string (x.nth i).f.vs, .int .i64 (x.nth i).f.r1, .int .i64 (x.nth i).f.r2, .int .i64 (x.nth i).f.r3, .int .i64 (x.nth i).f.r4, .string (x.nth i).f.op, .slice A2 (x.nth i).kids.len c2] 31)).alloc (.cells #[.int .i64 (y.nth i).f.k, .int .i64 (y.nth i).f.vk, .int .i64 (y.nth i).f.vn, .string (y.nth i).f.vs, .int .i64 (y.nth i).f.r1, .int .i64 (y.nth i).f.r2, .int .i64 (y.nth i).f.r3, .int .i64 (y.nth i).f.r4, .string (y.nth i).f.op, .slice B2 (y.nth i).kids.len d2'] 31)) (fun g => g < ((wr.alloc (.cells #[.int .i64 (x.nth i).f.k, .int .i64 (x.nth i).f.vk, .int .i64 (x.nth i).f.vn, .string (x.nth i).f.vs, .int .i64 (x.nth i).f.r1, .int .i64 (x.nth i).f.r2, .int .i64 (x.nth i).f.r3, .int .i64 (x.nth i).f.r4, .string (x.nth i).f.op, .slice A2 (x.nth i).kids.len c2] 31)).alloc (.cells #[.int .i64 (y.nth i).f.k, .int .i64 (y.nth i).f.vk, .int .i64 (y.nth i).f.vn, .string (y.nth i).f.vs, .int .i64 (y.nth i).f.r1, .int .i64 (y.nth i).f.r2, .int .i64 (y.nth i).f.r3, .int .i64 (y.nth i).f.r4, .string (y.nth i).f.op, .slice B2 (y.nth i).kids.len d2'] 31)).heap.size) (y.nth i).kids B2 := hk3.keep (Kept.of (x := (wr.alloc (.cells #[.int .i64 (x.nth i).f.k, .int .i64 (x.nth i).f.vk, .int .i64 (x.nth i).f.vn, .string (x.nth i).f.vs, .int .i64 (x.nth i).f.r1, .int .i64 (x.nth i).f.r2, .int .i64 (x.nth i).f.r3, .int .i64 (x.nth i).f.r4, .string (x.nth i).f.op, .slice A2 (x.nth i).kids.len c2] 31)).heap.size) ((Below.refl _ _).alloc (Nat.le_refl _) _)) (fun g hg hl => ⟨by omega, by have := b2.size; omega⟩)
        have HI := Lib.hid (H (x.nth i) (y.nth i) A2 B2 c2 d2' _ (by omega) (by omega) (by omega) k2 k3)
        have HB2 := Lib.hid b2
        have HD : Hid ((decide (x.nth i = y.nth i) && decide (x.drop (i + 1) = y.drop (i + 1))) = decide (x = y)) := Lib.hid (by rw [← Fo.drop_eq x y i hlt hlt2]; exact HR.out)
        clear hrow hrow' hrow2 hk2 hk3 k2 k3 KA KB H hn1 hn2 b1 b2 HR hpp hpq
        generalize x.nth i = p at *
        generalize y.nth i = q at *
        obtain ⟨m0, m1, m2, m3, m4, m5, m6, m7, m8, m9, -⟩ := M1.cells
        obtain ⟨n0, n1, n2, n3, n4, n5, n6, n7, n8, n9, -⟩ := M2.cells
        clear M1 M2
        go_wp2_with fail
        refine HI.out.mono ?_; rintro e w2 ⟨rfl, hb2⟩
        have hbb := HB2.out.trans (hb2.mono HB2.out.size)
        cases hs : decide (p = q) with
        | false =>
          have E : Hid (decide (x = y) = false) := Lib.hid (by have := HD.out; rw [hs] at this; simpa using this.symm)
          go_wp2_with fail
          go_ret
          exact ⟨by rw [E.out]; rfl, hW.trans (hbb.mono hW.size)⟩
        | true =>
          go_wp2_with fail
          go_roundw
          case rel => exact ⟨i + 1, by omega, by go_num, hW.trans (hbb.mono hW.size), Lib.hid (by have := HD.out; rw [hs, Bool.true_and] at this; exact this)⟩
          case measure => simp [intOf]; omega
      · have E : Hid (decide (x = y) = true) := Lib.hid (by have := HR.out; rw [Fo.drop_len x i (by omega), Fo.drop_len y i (by have := HLN.out; omega)] at this; rw [← this]; exact decide_eq_true rfl)
        have d1 : ¬ (i : Int) < (x.len : Int) := by omega
        clear H KA KB
        go_wp2_with fail
        go_ret
        exact ⟨by rw [E.out]; rfl, hW⟩
  · have e1 : ((x.len : Int) != (y.len : Int)) = true := by simp; omega
    have E := Lib.hid (Fo.len_ne hl)
    clear H
    go_enter Tryz.func52, Tryz.ntmps52
    go_wp2_with fail
    go_ret
    exact ⟨by rw [E.out]; rfl, Below.refl _ _⟩
/-- Are the fields alike? -/
def sameF (f h : Fld) : Bool := decide (f.k = h.k) && (ValueC.sameB ⟨f.vk, f.vn, f.vs⟩ ⟨h.vk, h.vn, h.vs⟩ && (decide (f.r1 = h.r1 ∧ f.r2 = h.r2 ∧ f.r3 = h.r3 ∧ f.r4 = h.r4) && (f.op.toList == h.op.toList)))
theorem list_eq {a b : ByteArray} (h : a.toList = b.toList) : a = b := by
  rw [Lib.toList_data, Lib.toList_data] at h
  obtain ⟨⟨a⟩⟩ := a
  obtain ⟨⟨b⟩⟩ := b
  have : a = b := h
  rw [this]
theorem same_nd (f h : Fld) (x y : Fo) : (sameF f h && decide (x = y)) = decide (Nd.mk f x = Nd.mk h y) := by
  obtain ⟨k, vk, vn, vs, r1, r2, r3, r4, op⟩ := f
  obtain ⟨k', vk', vn', vs', r1', r2', r3', r4', op'⟩ := h
  have e : (op.toList == op'.toList) = decide (op = op') := by
    by_cases h : op = op'
    · subst h; simp
    · rw [decide_eq_false h]; exact beq_eq_false_iff_ne.2 (fun e => h (list_eq e))
  simp only [sameF, ValueC.sameB, e]
  rw [Bool.eq_iff_iff]
  simp only [Bool.and_eq_true, decide_eq_true_eq, Nd.mk.injEq, Fld.mk.injEq, ValueC.Val.mk.injEq]
  constructor
  · rintro ⟨⟨h1, ⟨h2, h3, h4⟩, ⟨h5, h6, h7, h8⟩, h9⟩, h10⟩; exact ⟨⟨h1, h2, h3, h4, h5, h6, h7, h8, h9⟩, h10⟩
  · rintro ⟨⟨h1, h2, h3, h4, h5, h6, h7, h8, h9⟩, h10⟩; exact ⟨⟨h1, ⟨h2, h3, h4⟩, ⟨h5, h6, h7, h8⟩, h9⟩, h10⟩
set_option maxRecDepth 100000 in
set_option maxHeartbeats 1000000 in
theorem calike1 (n : Nat) (H : Alike n) (f h : Fld) (x y : Fo) (A B : Option Addr) (c d : Nat) (w : World) (hn : x.size ≤ n) (hx : x.size ≤ 1000000) (hy : y.size ≤ 1000000) (hA : KidsAt w (fun g => g < w.heap.size) x A) (hB : KidsAt w (fun g => g < w.heap.size) y B) :
    Calls Tryz.prog 34 #[.agg #[.int .i64 f.k, .int .i64 f.vk, .int .i64 f.vn, .string f.vs, .int .i64 f.r1, .int .i64 f.r2, .int .i64 f.r3, .int .i64 f.r4, .string f.op, .slice A x.len c], .agg #[.int .i64 h.k, .int .i64 h.vk, .int .i64 h.vn, .string h.vs, .int .i64 h.r1, .int .i64 h.r2, .int .i64 h.r3, .int .i64 h.r4, .string h.op, .slice B y.len d]] w fun e w' => e = .returned (.bool (decide (Nd.mk f x = Nd.mk h y))) ∧ Below w.heap.size w w' := by
  have b1 : Below w.heap.size w (w.alloc (.cells #[.int .i64 f.k, .int .i64 f.vk, .int .i64 f.vn, .string f.vs, .int .i64 f.r1, .int .i64 f.r2, .int .i64 f.r3, .int .i64 f.r4, .string f.op, .slice A x.len c] 31)) := (Below.refl _ _).alloc (Nat.le_refl _) _
  have b2 : Below w.heap.size w ((w.alloc (.cells #[.int .i64 f.k, .int .i64 f.vk, .int .i64 f.vn, .string f.vs, .int .i64 f.r1, .int .i64 f.r2, .int .i64 f.r3, .int .i64 f.r4, .string f.op, .slice A x.len c] 31)).alloc (.cells #[.int .i64 h.k, .int .i64 h.vk, .int .i64 h.vn, .string h.vs, .int .i64 h.r1, .int .i64 h.r2, .int .i64 h.r3, .int .i64 h.r4, .string h.op, .slice B y.len d] 31)) := b1.alloc b1.size _
  have L1 : NLoc ((w.alloc (.cells #[.int .i64 f.k, .int .i64 f.vk, .int .i64 f.vn, .string f.vs, .int .i64 f.r1, .int .i64 f.r2, .int .i64 f.r3, .int .i64 f.r4, .string f.op, .slice A x.len c] 31)).alloc (.cells #[.int .i64 h.k, .int .i64 h.vk, .int .i64 h.vn, .string h.vs, .int .i64 h.r1, .int .i64 h.r2, .int .i64 h.r3, .int .i64 h.r4, .string h.op, .slice B y.len d] 31)) w.heap.size f A x.len c := NLoc.kept ⟨heap_alloc_new _ _⟩ ((Kept.refl (w.alloc (.cells #[.int .i64 f.k, .int .i64 f.vk, .int .i64 f.vn, .string f.vs, .int .i64 f.r1, .int .i64 f.r2, .int .i64 f.r3, .int .i64 f.r4, .string f.op, .slice A x.len c] 31)).heap.size _).alloc _) (by simp)
  have z1 : (w.alloc (.cells #[.int .i64 f.k, .int .i64 f.vk, .int .i64 f.vn, .string f.vs, .int .i64 f.r1, .int .i64 f.r2, .int .i64 f.r3, .int .i64 f.r4, .string f.op, .slice A x.len c] 31)).heap.size = w.heap.size + 1 := heap_one _ _
  have L2 : NLoc ((w.alloc (.cells #[.int .i64 f.k, .int .i64 f.vk, .int .i64 f.vn, .string f.vs, .int .i64 f.r1, .int .i64 f.r2, .int .i64 f.r3, .int .i64 f.r4, .string f.op, .slice A x.len c] 31)).alloc (.cells #[.int .i64 h.k, .int .i64 h.vk, .int .i64 h.vn, .string h.vs, .int .i64 h.r1, .int .i64 h.r2, .int .i64 h.r3, .int .i64 h.r4, .string h.op, .slice B y.len d] 31)) (w.heap.size + 1) h B y.len d := ⟨by rw [← z1]; exact heap_alloc_new _ _⟩
  clear z1
  have HA := Lib.hid (below_row hA b2)
  have HB := Lib.hid (below_row hB b2)
  have HW := Lib.hid b2
  have HD := Lib.hid (same_nd f h x y)
  have eR : ∀ W, (binOp .eql 28 (.agg #[.int .i64 f.r1, .int .i64 f.r2, .int .i64 f.r3, .int .i64 f.r4]) (.agg #[.int .i64 h.r1, .int .i64 h.r2, .int .i64 h.r3, .int .i64 h.r4])).run Tryz.prog W = .ok (.bool (decide (f.r1 = h.r1 ∧ f.r2 = h.r2 ∧ f.r3 = h.r3 ∧ f.r4 = h.r4))) W := fun W => eq_rect _ _ _ _ _ _ _ _ W
  clear hA hB b1 b2
  obtain ⟨d0, d1, d2, d3, d4, d5, d6, d7, d8, d9, -⟩ := L1.cells
  obtain ⟨h0, h1, h2, h3, h4, h5, h6, h7, h8, h9, -⟩ := L2.cells
  cases hk : decide (f.k = h.k) with
  | false =>
    have e0 : (f.k == h.k) = false := beq_eq_false_iff_ne.2 (of_decide_eq_false hk)
    have E : Hid (decide (Nd.mk f x = Nd.mk h y) = false) := Lib.hid (by rw [← HD.out]; simp [sameF, hk])
    clear H
    go_enter Tryz.func34, Tryz.ntmps34
    go_wp2_with fail
    go_ret
    exact ⟨by rw [E.out]; rfl, HW.out⟩
  | true =>
    have e0 : (f.k == h.k) = true := beq_iff_eq.2 (of_decide_eq_true hk)
    have HH := Lib.hid H
    clear H
    go_enter Tryz.func34, Tryz.ntmps34
    go_wp2_with fail
    generalize ((w.alloc (.cells #[.int .i64 f.k, .int .i64 f.vk, .int .i64 f.vn, .string f.vs, .int .i64 f.r1, .int .i64 f.r2, .int .i64 f.r3, .int .i64 f.r4, .string f.op, .slice A x.len c] 31)).alloc (.cells #[.int .i64 h.k, .int .i64 h.vk, .int .i64 h.vn, .string h.vs, .int .i64 h.r1, .int .i64 h.r2, .int .i64 h.r3, .int .i64 h.r4, .string h.op, .slice B y.len d] 31)) = W1 at *
    refine (ValueC.same ⟨f.vk, f.vn, f.vs⟩ ⟨h.vk, h.vn, h.vs⟩ W1).mono ?_; rintro e w2 ⟨rfl, hb2⟩
    have N1 := L1.kept (Kept.of (x := W1.heap.size) hb2) (Nat.ne_of_lt L1.lt)
    have N2 := L2.kept (Kept.of (x := W1.heap.size) hb2) (Nat.ne_of_lt L2.lt)
    have HA2 := Lib.hid (below_row HA.out hb2)
    have HB2 := Lib.hid (below_row HB.out hb2)
    have HW2 := Lib.hid (HW.out.trans (hb2.mono HW.out.size))
    clear d0 d1 d2 d3 d4 d5 d6 d7 d8 d9 h0 h1 h2 h3 h4 h5 h6 h7 h8 h9 L1 L2 HA HB
    obtain ⟨d0, d1, d2, d3, d4, d5, d6, d7, d8, d9, -⟩ := N1.cells
    obtain ⟨h0, h1, h2, h3, h4, h5, h6, h7, h8, h9, -⟩ := N2.cells
    cases hv : ValueC.sameB ⟨f.vk, f.vn, f.vs⟩ ⟨h.vk, h.vn, h.vs⟩ with
    | false =>
      have E : Hid (decide (Nd.mk f x = Nd.mk h y) = false) := Lib.hid (by rw [← HD.out]; simp [sameF, hv])
      go_wp2_with fail
      go_ret
      exact ⟨by rw [E.out]; rfl, HW2.out⟩
    | true =>
      cases hr : decide (f.r1 = h.r1 ∧ f.r2 = h.r2 ∧ f.r3 = h.r3 ∧ f.r4 = h.r4) with
      | false =>
        rw [hr] at eR
        have E : Hid (decide (Nd.mk f x = Nd.mk h y) = false) := Lib.hid (by rw [← HD.out]; unfold sameF; rw [hr]; simp)
        go_wp2_with fail
        go_ret
        exact ⟨by rw [E.out]; rfl, HW2.out⟩
      | true =>
        rw [hr] at eR
        cases ho : (f.op.toList == h.op.toList) with
        | false =>
          have E : Hid (decide (Nd.mk f x = Nd.mk h y) = false) := Lib.hid (by rw [← HD.out]; unfold sameF; rw [ho]; simp)
          go_wp2_with fail
          go_ret
          exact ⟨by rw [E.out]; rfl, HW2.out⟩
        | true =>
          have E : Hid (decide (Nd.mk f x = Nd.mk h y) = decide (x = y)) := Lib.hid (by rw [← HD.out]; unfold sameF; rw [ho, hr, hv, hk]; simp)
          go_wp2_with fail
          refine (cequal n HH.out x y A B c d w2 hn hx hy HA2.out HB2.out).mono ?_; rintro e w3 ⟨rfl, hb3⟩
          go_wp2_with fail
          go_ret
          exact ⟨by rw [E.out]; rfl, HW2.out.trans (hb3.mono HW2.out.size)⟩
theorem alike_all : ∀ n, Alike n := by
  intro n
  induction n with
  | zero => intro a b A B c d w h; exact absurd h (by unfold Nd.size; omega)
  | succ n ih =>
    intro a b A B c d w h1 h2 h3 hA hB
    obtain ⟨f, x⟩ := a
    obtain ⟨h, y⟩ := b
    have e1 : (Nd.mk f x).size = 1 + x.size := rfl
    have e2 : (Nd.mk h y).size = 1 + y.size := rfl
    exact calike1 n ih f h x y A B c d w (by omega) (by omega) (by omega) hA hB
set_option maxRecDepth 100000 in
set_option maxHeartbeats 1000000 in
/-- Same: of trees of which the first has at most 2000 nodes. -/
theorem cSame (a b : Nd) (A B : Option Addr) (c d : Nat) (w : World) (ha : a.size ≤ 2000) (hb : b.size ≤ 1000000) (hA : KidsAt w (fun g => g < w.heap.size) a.kids A) (hB : KidsAt w (fun g => g < w.heap.size) b.kids B) :
    Calls Tryz.prog 19 #[.agg #[.int .i64 a.f.k, .int .i64 a.f.vk, .int .i64 a.f.vn, .string a.f.vs, .int .i64 a.f.r1, .int .i64 a.f.r2, .int .i64 a.f.r3, .int .i64 a.f.r4, .string a.f.op, .slice A a.kids.len c], .agg #[.int .i64 b.f.k, .int .i64 b.f.vk, .int .i64 b.f.vn, .string b.f.vs, .int .i64 b.f.r1, .int .i64 b.f.r2, .int .i64 b.f.r3, .int .i64 b.f.r4, .string b.f.op, .slice B b.kids.len d]] w fun e w' => e = .returned (.bool (decide (a = b))) ∧ Below w.heap.size w w' := by
  have b1 : Below w.heap.size w (w.alloc (.cells #[.int .i64 a.f.k, .int .i64 a.f.vk, .int .i64 a.f.vn, .string a.f.vs, .int .i64 a.f.r1, .int .i64 a.f.r2, .int .i64 a.f.r3, .int .i64 a.f.r4, .string a.f.op, .slice A a.kids.len c] 31)) := (Below.refl _ _).alloc (Nat.le_refl _) _
  have b2 : Below w.heap.size w ((w.alloc (.cells #[.int .i64 a.f.k, .int .i64 a.f.vk, .int .i64 a.f.vn, .string a.f.vs, .int .i64 a.f.r1, .int .i64 a.f.r2, .int .i64 a.f.r3, .int .i64 a.f.r4, .string a.f.op, .slice A a.kids.len c] 31)).alloc (.cells #[.int .i64 b.f.k, .int .i64 b.f.vk, .int .i64 b.f.vn, .string b.f.vs, .int .i64 b.f.r1, .int .i64 b.f.r2, .int .i64 b.f.r3, .int .i64 b.f.r4, .string b.f.op, .slice B b.kids.len d] 31)) := b1.alloc b1.size _
  have L1 : NLoc ((w.alloc (.cells #[.int .i64 a.f.k, .int .i64 a.f.vk, .int .i64 a.f.vn, .string a.f.vs, .int .i64 a.f.r1, .int .i64 a.f.r2, .int .i64 a.f.r3, .int .i64 a.f.r4, .string a.f.op, .slice A a.kids.len c] 31)).alloc (.cells #[.int .i64 b.f.k, .int .i64 b.f.vk, .int .i64 b.f.vn, .string b.f.vs, .int .i64 b.f.r1, .int .i64 b.f.r2, .int .i64 b.f.r3, .int .i64 b.f.r4, .string b.f.op, .slice B b.kids.len d] 31)) w.heap.size a.f A a.kids.len c := NLoc.kept ⟨heap_alloc_new _ _⟩ ((Kept.refl (w.alloc (.cells #[.int .i64 a.f.k, .int .i64 a.f.vk, .int .i64 a.f.vn, .string a.f.vs, .int .i64 a.f.r1, .int .i64 a.f.r2, .int .i64 a.f.r3, .int .i64 a.f.r4, .string a.f.op, .slice A a.kids.len c] 31)).heap.size _).alloc _) (by simp)
  have z1 : (w.alloc (.cells #[.int .i64 a.f.k, .int .i64 a.f.vk, .int .i64 a.f.vn, .string a.f.vs, .int .i64 a.f.r1, .int .i64 a.f.r2, .int .i64 a.f.r3, .int .i64 a.f.r4, .string a.f.op, .slice A a.kids.len c] 31)).heap.size = w.heap.size + 1 := heap_one _ _
  have L2 : NLoc ((w.alloc (.cells #[.int .i64 a.f.k, .int .i64 a.f.vk, .int .i64 a.f.vn, .string a.f.vs, .int .i64 a.f.r1, .int .i64 a.f.r2, .int .i64 a.f.r3, .int .i64 a.f.r4, .string a.f.op, .slice A a.kids.len c] 31)).alloc (.cells #[.int .i64 b.f.k, .int .i64 b.f.vk, .int .i64 b.f.vn, .string b.f.vs, .int .i64 b.f.r1, .int .i64 b.f.r2, .int .i64 b.f.r3, .int .i64 b.f.r4, .string b.f.op, .slice B b.kids.len d] 31)) (w.heap.size + 1) b.f B b.kids.len d := ⟨by rw [← z1]; exact heap_alloc_new _ _⟩
  clear z1
  have HA := Lib.hid (below_row hA b2)
  have HB := Lib.hid (below_row hB b2)
  have HW := Lib.hid b2
  have e1 : decide (a.size ≤ 2000) = true := decide_eq_true ha
  clear hA hB b1 b2
  obtain ⟨d0, d1, d2, d3, d4, d5, d6, d7, d8, d9, -⟩ := L1.cells
  go_enter Tryz.func19, Tryz.ntmps19
  go_wp2_with fail
  generalize ((w.alloc (.cells #[.int .i64 a.f.k, .int .i64 a.f.vk, .int .i64 a.f.vn, .string a.f.vs, .int .i64 a.f.r1, .int .i64 a.f.r2, .int .i64 a.f.r3, .int .i64 a.f.r4, .string a.f.op, .slice A a.kids.len c] 31)).alloc (.cells #[.int .i64 b.f.k, .int .i64 b.f.vk, .int .i64 b.f.vn, .string b.f.vs, .int .i64 b.f.r1, .int .i64 b.f.r2, .int .i64 b.f.r3, .int .i64 b.f.r4, .string b.f.op, .slice B b.kids.len d] 31)) = W1 at *
  refine (csmall a A c W1 (by omega) HA.out).mono ?_; rintro e w2 ⟨rfl, hb2⟩
  have N1 := L1.kept (Kept.of (x := W1.heap.size) hb2) (Nat.ne_of_lt L1.lt)
  have N2 := L2.kept (Kept.of (x := W1.heap.size) hb2) (Nat.ne_of_lt L2.lt)
  have HA2 := Lib.hid (below_row HA.out hb2)
  have HB2 := Lib.hid (below_row HB.out hb2)
  have HW2 := Lib.hid (HW.out.trans (hb2.mono HW.out.size))
  clear d0 d1 d2 d3 d4 d5 d6 d7 d8 d9 L1 L2 HA HB
  obtain ⟨d0, d1, d2, d3, d4, d5, d6, d7, d8, d9, -⟩ := N1.cells
  obtain ⟨h0, h1, h2, h3, h4, h5, h6, h7, h8, h9, -⟩ := N2.cells
  go_wp2_with fail
  refine (alike_all a.size a b A B c d w2 (Nat.le_refl _) (by omega) hb HA2.out HB2.out).mono ?_; rintro e w3 ⟨rfl, hb3⟩
  go_wp2_with fail
  go_ret
  exact ⟨rfl, HW2.out.trans (hb3.mono HW2.out.size)⟩
end Go.Proofs.YtkdgiadpmfpjnaaGreatDoor.TreeC

/-
  Plain facts: each node of what is parsed fits its kind.
-/
namespace Go.Proofs.YtkdgiadpmfpjnaaGreatDoor.TreeC
set_option linter.unusedVariables false
open Go.Proofs.YtkdgiadpmfpjnaaGreatDoor.NumC Go.Proofs.YtkdgiadpmfpjnaaGreatDoor.LexC

/-- A name's text: a letter, letters and digits, none of them small. -/
structure NameL (s : List UInt8) : Prop where
  head : ∃ c r, s = c :: r ∧ letB c = true
  all : ∀ c ∈ s, wordB c = true
  up : upL s = s
theorem let_up {c : UInt8} (h : letB c = true) : letB (upC c) = true := by
  by_cases h2 : 97 ≤ c.toNat ∧ c.toNat ≤ 122
  · rw [upC_up h2]; exact letB_iff.2 (Or.inr (by rw [sub32 h2.1]; omega))
  · rw [upC_no h2]; exact h
theorem dig_up {c : UInt8} (h : digB c = true) : upC c = c := upC_no (by have := digB_iff.1 h; omega)
theorem word_up {c : UInt8} (h : wordB c = true) : wordB (upC c) = true := by
  unfold wordB at h ⊢
  cases hl : letB c with
  | true => rw [let_up hl]; rfl
  | false => rw [hl] at h; rw [dig_up (by simpa using h)]; rw [hl]; exact h
theorem let_dig {c : UInt8} (h : letB c = true) : digB c = false := by
  cases hd : digB c with
  | false => rfl
  | true => have := letB_iff.1 h; have := digB_iff.1 hd; omega
theorem take_mem {p : UInt8 → Bool} : ∀ (l : List UInt8), ∀ c ∈ l.takeWhile p, p c = true
  | [], c, h => by cases h
  | a :: l, c, h => by
    rw [List.takeWhile_cons] at h
    split at h
    · rename_i ha
      rcases List.mem_cons.1 h with rfl | h
      · exact ha
      · exact take_mem l c h
    · cases h
theorem take_all {p : UInt8 → Bool} : ∀ (l : List UInt8), (∀ c ∈ l, p c = true) → l.takeWhile p = l
  | [], _ => rfl
  | a :: l, h => by rw [List.takeWhile_cons, if_pos (h a (List.mem_cons_self ..)), take_all l (fun c hc => h c (List.mem_cons_of_mem _ hc))]
theorem nameL_of {c : UInt8} {l : List UInt8} (h : letB c = true) : NameL (upL ((c :: l).takeWhile wordB)) := by
  have hw : wordB c = true := by unfold wordB; rw [h]; rfl
  refine ⟨⟨upC c, upL (l.takeWhile wordB), ?_, let_up h⟩, fun x hx => ?_, upL_idem _⟩
  · rw [List.takeWhile_cons, if_pos hw]; rfl
  · obtain ⟨y, hy, rfl⟩ := List.mem_map.1 hx
    exact word_up (take_mem _ y hy)
/-- A token as Cut tells it. -/
def TokOK (t : Tok) : Prop := (t.k = 1 → 0 ≤ t.n) ∧ (t.k = 3 → ∃ s, t.s = str s ∧ NameL s)
theorem next_ok {c : UInt8} {l : List UInt8} {k n : Int} {s : List UInt8} {m : Nat} (i : Int) (h : nextL (c :: l) = some (k, n, s, m)) : TokOK ⟨k, n, str s, i⟩ := by
  rw [nextL_cons, tokL] at h
  split at h
  · split at h
    · injection h with h; injection h with h1 h; injection h with h2 h; injection h with h3 h4
      exact ⟨fun _ => by show 0 ≤ n; rw [← h2]; omega, fun e => by have : k = 3 := e; omega⟩
    · cases h
  · split at h
    · rename_i hl
      injection h with h; injection h with h1 h; injection h with h2 h; injection h with h3 h4
      exact ⟨fun e => by have : k = 1 := e; omega, fun _ => ⟨s, rfl, by rw [← h3]; exact nameL_of hl⟩⟩
    · split at h
      · obtain ⟨r, hr, e⟩ := Option.map_eq_some_iff.1 h
        injection e with h1 e
        exact ⟨fun e => by have : k = 1 := e; omega, fun e => by have : k = 3 := e; omega⟩
      · have : k = 4 := by
          unfold signT at h
          split at h
          · split at h
            · injection h with h; injection h with h1 h; omega
            · split at h
              · injection h with h; injection h with h1 h; omega
              · cases h
          · split at h
            · injection h with h; injection h with h1 h; omega
            · cases h
        exact ⟨fun e => by have : k = 1 := e; omega, fun e => by have : k = 3 := e; omega⟩
theorem cutF_ok : ∀ (f : Nat) (l : List UInt8) (i : Nat) (acc : List Tok), (∀ t ∈ acc, TokOK t) → ∀ t ∈ (cutF f l i acc).toks, TokOK t := by
  intro f
  induction f with
  | zero => intro l i acc h; simpa only [cutF] using h
  | succ f ih =>
    intro l i acc h
    cases l with
    | nil => simpa only [cutF] using h
    | cons c l =>
      unfold cutF
      split
      · exact ih _ _ _ h
      · split
        · intro t ht; cases ht
        · rename_i k n s m hn
          refine ih _ _ _ (fun t ht => ?_)
          rcases List.mem_append.1 ht with ht | ht
          · exact h t ht
          · obtain rfl : t = ⟨k, n, str s, i⟩ := by simpa using ht
            exact next_ok _ hn
theorem cut_ok (s : List UInt8) : ∀ t ∈ (cutL s).toks, TokOK t := by
  unfold cutL
  split
  · intro t ht; cases ht
  · exact cutF_ok _ _ _ _ (fun t ht => by cases ht)
/-- A name is cut as one name, that it is. -/
theorem name_cut {s : List UInt8} (h : NameL s) (hl : s.length ≤ 300) : cutL s = ⟨[⟨3, 0, str s, 0⟩], 0, 0⟩ := by
  obtain ⟨c, r, rfl, hc⟩ := h.head
  have ht : (c :: r).takeWhile wordB = c :: r := take_all _ h.all
  have hn : nextL (c :: r) = some (3, 0, c :: r, (c :: r).length) := by
    rw [nextL_cons, tokL, if_neg (by rw [let_dig hc]; decide), if_pos hc, ht, h.up]
  have hb : c ≠ 32 := by rintro rfl; revert hc; decide
  unfold cutL
  rw [if_neg (by omega), cutF, if_neg hb, hn]
  simp only [List.drop_length, cutF_nil]
  rfl
theorem fn_ok {t : Tok} (h : TokOK t) (hk : t.k = 3) (h8 : t.s.size ≤ 8) : fnB t.s = true := by
  obtain ⟨s, e, hn⟩ := h.2 hk
  have hl : s.length ≤ 300 := by rw [e] at h8; simp [str, ByteArray.size] at h8; omega
  have hd : t.s.data.toList = s := by rw [e]; simp [str]
  unfold fnB
  rw [hd, name_cut hn hl, decide_eq_true h8]
  simp [e]

section
variable {l : List Tok} {n : Int} {L : Lev} {into : Bool} {k k' k'' : Nat} {a b : Nd} {e : Bad} {t : Tok} {op : List UInt8}
/-- All nodes of a part's tree fit. -/
def Ft (f : Nat → Out) : Prop := ∀ k a k', f k = .ok (a, k') → a.all fitsB = true
theorem one_all (p : Fld → Nat → Bool) (a : Nd) : a.one.all p = a.all p := by simp [Nd.one, Fo.all, Nd.all]
theorem app_all (p : Fld → Nat → Bool) (x y : Fo) : (x.app y).all p = (x.all p && y.all p) := by
  induction x with
  | nil => simp [Fo.app, Fo.all]
  | cons f k n _ ih => simp only [Fo.app, Fo.all, ih]; cases k.all p <;> cases p f k.len <;> simp
theorem f_v (k r1 r2 r3 r4 : Int) (o : ByteArray) : noVB ⟨k, 0, 0, nob, r1, r2, r3, r4, o⟩ = true := decide_eq_true (p := (⟨0, 0, nob⟩ : ValueC.Val) = ⟨0, 0, { data := #[] }⟩) rfl
theorem f_r (k vk vn : Int) (vs o : ByteArray) : noRB ⟨k, vk, vn, vs, 0, 0, 0, 0, o⟩ = true := decide_eq_true ⟨rfl, rfl, rfl, rfl⟩
theorem nob_nil : (nob.toList == ([] : List UInt8)) = true := by decide +kernel
theorem f_o (k vk vn r1 r2 r3 r4 : Int) (vs : ByteArray) : noOB ⟨k, vk, vn, vs, r1, r2, r3, r4, nob⟩ = true := nob_nil
theorem f_t (k vk vn r1 r2 : Int) (vs o : ByteArray) : noTB ⟨k, vk, vn, vs, r1, r2, 0, 0, o⟩ = true := decide_eq_true ⟨rfl, rfl⟩
theorem fits_1 {vk vn : Int} {vs : ByteArray} (h : constB vk vn vs = true) : fitsB ⟨1, vk, vn, vs, 0, 0, 0, 0, nob⟩ 0 = true := by
  have e : fitsB ⟨1, vk, vn, vs, 0, 0, 0, 0, nob⟩ 0 = (constB vk vn vs && noRB ⟨1, vk, vn, vs, 0, 0, 0, 0, nob⟩ && noOB ⟨1, vk, vn, vs, 0, 0, 0, 0, nob⟩ && decide ((0 : Nat) = 0)) := by
    unfold fitsB; rw [if_pos (show (1 : Int) = 1 from rfl)]
  rw [e, h, f_r, f_o]; rfl
theorem fits_2 {r c : Int} (h : AddrC.cellB r c = true) : fitsB ⟨2, 0, 0, nob, r, c, 0, 0, nob⟩ 0 = true := by
  have e : fitsB ⟨2, 0, 0, nob, r, c, 0, 0, nob⟩ 0 = (AddrC.cellB r c && noTB ⟨2, 0, 0, nob, r, c, 0, 0, nob⟩ && noVB ⟨2, 0, 0, nob, r, c, 0, 0, nob⟩ && noOB ⟨2, 0, 0, nob, r, c, 0, 0, nob⟩ && decide ((0 : Nat) = 0)) := by
    unfold fitsB; rw [if_neg (show ¬ (2 : Int) = 1 by decide), if_pos (show (2 : Int) = 2 from rfl)]
  rw [e, h, f_t, f_v, f_o]; rfl
theorem fits_3 {a b c d : Int} (h : AddrC.fineB a b c d = true) : fitsB ⟨3, 0, 0, nob, a, b, c, d, nob⟩ 0 = true := by
  have e : fitsB ⟨3, 0, 0, nob, a, b, c, d, nob⟩ 0 = (AddrC.fineB a b c d && noVB ⟨3, 0, 0, nob, a, b, c, d, nob⟩ && noOB ⟨3, 0, 0, nob, a, b, c, d, nob⟩ && decide ((0 : Nat) = 0)) := by
    unfold fitsB; rw [if_neg (show ¬ (3 : Int) = 1 by decide), if_neg (show ¬ (3 : Int) = 2 by decide), if_pos (show (3 : Int) = 3 from rfl)]
  rw [e, h, f_v, f_o]; rfl
theorem fits_4 : fitsB ⟨4, 0, 0, nob, 0, 0, 0, 0, nob⟩ 1 = true := by
  have e : fitsB ⟨4, 0, 0, nob, 0, 0, 0, 0, nob⟩ 1 = (decide ((1 : Nat) = 1) && noVB ⟨4, 0, 0, nob, 0, 0, 0, 0, nob⟩ && noRB ⟨4, 0, 0, nob, 0, 0, 0, 0, nob⟩ && noOB ⟨4, 0, 0, nob, 0, 0, 0, 0, nob⟩) := by
    unfold fitsB; rw [if_neg (show ¬ (4 : Int) = 1 by decide), if_neg (show ¬ (4 : Int) = 2 by decide), if_neg (show ¬ (4 : Int) = 3 by decide), if_pos (show (4 : Int) = 4 from rfl)]
  rw [e, f_v, f_r, f_o]; rfl
theorem fits_5 {o : ByteArray} (h : binB o = true) : fitsB ⟨5, 0, 0, nob, 0, 0, 0, 0, o⟩ 2 = true := by
  have e : fitsB ⟨5, 0, 0, nob, 0, 0, 0, 0, o⟩ 2 = (binB o && decide ((2 : Nat) = 2) && noVB ⟨5, 0, 0, nob, 0, 0, 0, 0, o⟩ && noRB ⟨5, 0, 0, nob, 0, 0, 0, 0, o⟩) := by
    unfold fitsB; rw [if_neg (show ¬ (5 : Int) = 1 by decide), if_neg (show ¬ (5 : Int) = 2 by decide), if_neg (show ¬ (5 : Int) = 3 by decide), if_neg (show ¬ (5 : Int) = 4 by decide), if_pos (show (5 : Int) = 5 from rfl)]
  rw [e, h, f_v, f_r]; rfl
theorem fits_6 {o : ByteArray} {m : Nat} (h : fnB o = true) (hm : m ≤ 10) : fitsB ⟨6, 0, 0, nob, 0, 0, 0, 0, o⟩ m = true := by
  have e : fitsB ⟨6, 0, 0, nob, 0, 0, 0, 0, o⟩ m = (fnB o && decide (m ≤ 10) && noVB ⟨6, 0, 0, nob, 0, 0, 0, 0, o⟩ && noRB ⟨6, 0, 0, nob, 0, 0, 0, 0, o⟩) := by
    unfold fitsB; rw [if_neg (show ¬ (6 : Int) = 1 by decide), if_neg (show ¬ (6 : Int) = 2 by decide), if_neg (show ¬ (6 : Int) = 3 by decide), if_neg (show ¬ (6 : Int) = 4 by decide), if_neg (show ¬ (6 : Int) = 5 by decide), if_pos (show (6 : Int) = 6 from rfl)]
  rw [e, h, f_v, f_r, decide_eq_true hm]; rfl
theorem leaf_all {f : Fld} (h : fitsB f 0 = true) : (Nd.mk f .nil).all fitsB = true := by
  show (true && fitsB f 0) = true
  rw [h]; rfl
theorem neg_all (h : a.all fitsB = true) : (negN a).all fitsB = true := by
  show ((a.one).all fitsB && fitsB ⟨4, 0, 0, nob, 0, 0, 0, 0, nob⟩ a.one.len) = true
  rw [one_all, h, Nd.one_len, fits_4]; rfl
theorem pair_all (ho : binB (str op) = true) (h : a.all fitsB = true) (g : b.all fitsB = true) : (pairN op a b).all fitsB = true := by
  show ((a.one.app b.one).all fitsB && fitsB ⟨5, 0, 0, nob, 0, 0, 0, 0, str op⟩ (a.one.app b.one).len) = true
  rw [app_all, one_all, one_all, h, g, Fo.len_app, Nd.one_len, Nd.one_len, fits_5 ho]; rfl
theorem call_all {x : Fo} (ho : fnB t.s = true) (hn : x.len ≤ 10) (h : x.all fitsB = true) : (callN t.s x).all fitsB = true := by
  show (x.all fitsB && fitsB ⟨6, 0, 0, nob, 0, 0, 0, 0, t.s⟩ x.len) = true
  rw [h, fits_6 ho hn]; rfl
theorem num_all (h : 0 ≤ t.n) : (constN 2 t.n nob).all fitsB = true := leaf_all (fits_1 (by
  unfold constB
  rw [if_pos rfl, decide_eq_true h, ValueC.goodB_t (Or.inr (Or.inr (Or.inl ⟨rfl, rfl⟩)))]; rfl))
theorem text_all {s : ByteArray} (h : s.size ≤ 200) : (constN 3 0 s).all fitsB = true := leaf_all (fits_1 (by
  unfold constB
  rw [if_neg (by decide), if_pos (Or.inl rfl)]
  exact ValueC.goodB_t (Or.inr (Or.inr (Or.inr (Or.inl ⟨rfl, rfl, h⟩))))))
theorem truth_all : (constN 1 1 nob).all fitsB = true ∧ (constN 1 0 nob).all fitsB = true :=
  ⟨leaf_all (fits_1 (by unfold constB; rw [if_neg (by decide), if_pos (Or.inr rfl)]; exact ValueC.goodB_t (Or.inr (Or.inl ⟨rfl, Or.inr rfl, rfl⟩)))),
   leaf_all (fits_1 (by unfold constB; rw [if_neg (by decide), if_pos (Or.inr rfl)]; exact ValueC.goodB_t (Or.inr (Or.inl ⟨rfl, Or.inl rfl, rfl⟩))))⟩
theorem cell_all {s : List UInt8} (h : AddrC.pOK s = true) : (cellN (AddrC.pR s) (AddrC.pC s)).all fitsB = true := leaf_all (fits_2 (AddrC.cellB_t (AddrC.p_is h).1))
theorem range_all {s u : List UInt8} (h : AddrC.pOK s = true) (g : AddrC.pOK u = true) :
    (rangeN (AddrC.mA (AddrC.pR s) (AddrC.pC s) (AddrC.pR u) (AddrC.pC u)) (AddrC.mB (AddrC.pR s) (AddrC.pC s) (AddrC.pR u) (AddrC.pC u)) (AddrC.mC (AddrC.pR s) (AddrC.pC s) (AddrC.pR u) (AddrC.pC u)) (AddrC.mD (AddrC.pR s) (AddrC.pC s) (AddrC.pR u) (AddrC.pC u))).all fitsB = true := by
  have hc := (AddrC.p_is h).1
  have gc := (AddrC.p_is g).1
  generalize AddrC.pR s = a at *
  generalize AddrC.pC s = b at *
  generalize AddrC.pR u = c at *
  generalize AddrC.pC u = d at *
  obtain ⟨e1, e2, e3, e4⟩ := AddrC.m_t (a := a) (b := b) (c := c) (d := d) (decide_eq_true ⟨hc, gc⟩)
  rw [e1, e2, e3, e4]
  refine leaf_all (fits_3 ?_)
  unfold AddrC.fineB
  refine decide_eq_true ?_
  unfold AddrC.Cell at hc gc
  unfold AddrC.FineP AddrC.Cell AddrC.lo AddrC.hi
  split <;> split <;> split <;> split <;> omega
theorem one_of_mem {ss : List (List UInt8)} (h : oneOf l k ss = some op) : op ∈ ss := List.mem_of_find?_eq_some h
theorem bin_cmp : ∀ op ∈ cmpS, binB (str op) = true := by decide +kernel
theorem bin_sum : ∀ op ∈ sumS, binB (str op) = true := by decide +kernel
theorem bin_mul : ∀ op ∈ mulS, binB (str op) = true := by decide +kernel
theorem bin_pow : binB (str [94]) = true := by decide +kernel
theorem row_ft {part : Nat → Out} {ss : List (List UInt8)} (hs : ∀ op ∈ ss, binB (str op) = true) (hp : Ft part) : ∀ (g : Nat) (a : Nd) (k : Nat), a.all fitsB = true → ∀ b k', rowF l part ss g a k = .ok (b, k') → b.all fitsB = true := by
  intro g
  induction g with
  | zero => intro a k hk b k' h; simp only [rowF] at h; injection h with h; injection h with h1 h2; subst h1 h2; exact hk
  | succ g ih =>
    intro a k hk b k' h
    cases ho : oneOf l k ss with
    | none => rw [row_end ho] at h; injection h with h; injection h with h1 h2; subst h1 h2; exact hk
    | some op =>
      cases hq : part (k + 1) with
      | error e => rw [row_bad ho hq] at h; cases h
      | ok r =>
        obtain ⟨c, k2⟩ := r
        rw [row_go ho hq] at h
        exact ih _ _ (pair_all (hs _ (one_of_mem ho)) hk (hp _ _ _ hq)) _ _ h
structure LFt (L : Lev) : Prop where
  fm : Ft L.fm
  pw : Ft L.pw
  un : Ft L.un
theorem args_ft (hL : LFt L) : ∀ (r : Nat) (acc : Fo) (k : Nat), acc.all fitsB = true → acc.len + r ≤ 10 → ∀ x k', argsF l n L into r acc k = .ok (x, k') → x.all fitsB = true ∧ x.len ≤ 10 := by
  intro r
  induction r with
  | zero => intro acc k _ _ x k' h; simp only [argsF] at h; cases h
  | succ r ih =>
    intro acc k hk hr x k' h
    unfold argsF at h
    split at h
    · cases h
    · cases hq : L.fm k with
      | error e => simp only [hq] at h; cases h
      | ok q =>
        obtain ⟨c, k2⟩ := q
        simp only [hq] at h
        have h1 := hL.fm _ _ _ hq
        have h2 : (acc.app c.one).all fitsB = true := by rw [app_all, one_all, hk, h1]; rfl
        have h3 : (acc.app c.one).len = acc.len + 1 := by rw [Fo.len_app, Nd.one_len]
        split at h
        · exact ih _ _ h2 (by omega) _ _ h
        · injection h with h; injection h with h4 h5; subst h4 h5; exact ⟨h2, by omega⟩
theorem call_ft (hL : LFt L) (ht : TokOK t) (hk3 : t.k = 3) (h : callF l n L into t k = .ok (a, k')) : a.all fitsB = true := by
  unfold callF at h
  split at h
  · cases h
  · rename_i h8
    have hf := fn_ok ht hk3 (by omega)
    split at h
    · injection h with h; injection h with h3 h4; subst h3 h4; exact call_all hf (by decide) rfl
    · cases hq : argsF l n L into 10 .nil (k + 2) with
      | error e => simp only [hq] at h; cases h
      | ok q =>
        obtain ⟨c, k2⟩ := q
        simp only [hq] at h
        have h1 := args_ft hL 10 .nil _ rfl (by simp [Fo.len]) _ _ hq
        cases hc : isSign l k2 [41] with
        | false => rw [close_no hc] at h; cases h
        | true =>
          rw [close_ok hc] at h
          injection h with h; injection h with h3 h4; subst h3 h4; exact call_all hf h1.2 h1.1
theorem name_ft (hL : LFt L) (ht : TokOK t) (hk3 : t.k = 3) (h : nameF l n L into t k = .ok (a, k')) : a.all fitsB = true := by
  unfold nameF at h
  split at h
  · exact call_ft hL ht hk3 h
  · split at h
    · injection h with h; injection h with h3 h4; subst h3 h4; exact truth_all.1
    · split at h
      · injection h with h; injection h with h3 h4; subst h3 h4; exact truth_all.2
      · split at h
        · cases h
        · rename_i hp
          have hp1 : AddrC.pOK t.s.data.toList = true := by simpa using hp
          split at h
          · cases hu : l[k + 2]? with
            | none => simp only [hu] at h; cases h
            | some u =>
              simp only [hu] at h
              split at h
              · rename_i h2
                injection h with h; injection h with h3 h4; subst h3 h4; exact range_all hp1 h2.2.2
              · cases h
          · injection h with h; injection h with h3 h4; subst h3 h4; exact cell_all hp1
theorem part_ft (hl : ∀ t ∈ l, TokOK t) (hL : LFt L) : Ft (partF l n L into) := by
  intro k a k' h
  unfold partF at h
  cases ht : l[k]? with
  | none => simp only [ht] at h; cases h
  | some t =>
    have hto := hl t (List.mem_of_getElem? ht)
    simp only [ht] at h
    split at h
    · rename_i h1
      injection h with h; injection h with h3 h4; subst h3 h4; exact num_all (hto.1 h1)
    · split at h
      · split at h
        · cases h
        · rename_i h2
          injection h with h; injection h with h3 h4; subst h3 h4; exact text_all (by omega)
      · split at h
        · rename_i h3; exact name_ft hL hto h3 h
        · split at h
          · cases hi : into with
            | false => rw [paren_deep hi] at h; cases h
            | true =>
              cases hq : L.fm (k + 1) with
              | error e => rw [paren_err hi hq] at h; cases h
              | ok q =>
                obtain ⟨c, k2⟩ := q
                have h1 := hL.fm _ _ _ hq
                cases hc : isSign l k2 [41] with
                | false => rw [paren_open hi hq hc] at h; cases h
                | true =>
                  rw [paren_ok hi hq hc] at h
                  injection h with h; injection h with h3 h4; subst h3 h4; exact h1
          · cases h
theorem unary_ft (hl : ∀ t ∈ l, TokOK t) (hL : LFt L) : Ft (unaryF l n L into) := by
  intro k a k' h
  cases hs : isSign l k [45] with
  | false => rw [unary_no hs] at h; exact part_ft hl hL _ _ _ h
  | true =>
    cases hi : into with
    | false => rw [unary_deep hs hi] at h; cases h
    | true =>
      cases hq : L.un (k + 1) with
      | error e => rw [unary_err hs hi hq] at h; cases h
      | ok q =>
        obtain ⟨c, k2⟩ := q
        have h1 := hL.un _ _ _ hq
        rw [unary_ok hs hi hq] at h
        injection h with h; injection h with h3 h4; subst h3 h4; exact neg_all h1
theorem power_ft (hl : ∀ t ∈ l, TokOK t) (hL : LFt L) : Ft (powerF l n L into) := by
  intro k a k' h
  cases hu : unaryF l n L into k with
  | error e => rw [power_err hu] at h; cases h
  | ok q =>
    obtain ⟨c, k1⟩ := q
    have h1 := unary_ft hl hL _ _ _ hu
    cases hs : isSign l k1 [94] with
    | false => rw [power_one hu hs] at h; injection h with h; injection h with h3 h4; subst h3 h4; exact h1
    | true =>
      cases hi : into with
      | false => rw [power_deep hu hs hi] at h; cases h
      | true =>
        cases hq : L.pw (k1 + 1) with
        | error e => rw [power_bad hu hs hi hq] at h; cases h
        | ok q =>
          obtain ⟨d, k2⟩ := q
          have h2 := hL.pw _ _ _ hq
          rw [power_ok hu hs hi hq] at h
          injection h with h; injection h with h3 h4; subst h3 h4; exact pair_all bin_pow h1 h2
theorem product_ft (hl : ∀ t ∈ l, TokOK t) (hL : LFt L) : Ft (productF l n L into) := by
  intro k a k' h
  cases hu : powerF l n L into k with
  | error e => rw [product_err hu] at h; cases h
  | ok q =>
    obtain ⟨c, k1⟩ := q
    rw [product_go hu] at h
    exact row_ft bin_mul (power_ft hl hL) _ _ _ (power_ft hl hL _ _ _ hu) _ _ h
theorem sum_ft (hl : ∀ t ∈ l, TokOK t) (hL : LFt L) : Ft (sumF l n L into) := by
  intro k a k' h
  cases hu : productF l n L into k with
  | error e => rw [sum_err hu] at h; cases h
  | ok q =>
    obtain ⟨c, k1⟩ := q
    rw [sum_go hu] at h
    exact row_ft bin_sum (product_ft hl hL) _ _ _ (product_ft hl hL _ _ _ hu) _ _ h
theorem formula_ft (hl : ∀ t ∈ l, TokOK t) (hL : LFt L) : Ft (formulaF l n L into) := by
  intro k a k' h
  cases hu : sumF l n L into k with
  | error e => rw [formula_err hu] at h; cases h
  | ok q =>
    obtain ⟨c, k1⟩ := q
    have h1 := sum_ft hl hL _ _ _ hu
    cases ho : oneOf l k1 cmpS with
    | none => rw [formula_one hu ho] at h; injection h with h; injection h with h3 h4; subst h3 h4; exact h1
    | some op =>
      cases hq : sumF l n L into (k1 + 1) with
      | error e => rw [formula_bad hu ho hq] at h; cases h
      | ok q =>
        obtain ⟨d, k2⟩ := q
        have h2 := sum_ft hl hL _ _ _ hq
        rw [formula_ok hu ho hq] at h
        injection h with h; injection h with h3 h4; subst h3 h4; exact pair_all (bin_cmp _ (one_of_mem ho)) h1 h2
end
theorem lev_ft (l : List Tok) (n : Int) (hl : ∀ t ∈ l, TokOK t) : ∀ r, LFt (lev l n r) := by
  intro r
  induction r with
  | zero => refine ⟨?_, ?_, ?_⟩ <;> (intro k a k' h; cases h)
  | succ r ih => exact ⟨formula_ft hl ih, power_ft hl ih, unary_ft hl ih⟩
/-- What is parsed is good. -/
theorem parse_good (s : List UInt8) (h : (parseL s).err = 0) : goodT fitsB (parseL s).nd = true ∧ (parseL s).nd.deep ≤ 16 ∧ (parseL s).nd.size ≤ 300 := by
  unfold parseL at h ⊢
  by_cases h0 : (cutL s).err ≠ 0
  · rw [if_pos h0] at h; exact absurd h h0
  · rw [if_neg h0] at h ⊢
    cases ht : treeF (cutL s).toks s.length with
    | error e =>
      rw [ht] at h
      simp only at h
      exact absurd h (tree_err_ne ht)
    | ok a =>
      rw [ht] at h
      simp only at h ⊢
      by_cases hd : 16 < a.deep
      · rw [if_pos hd] at h; exact absurd h (by decide)
      · rw [if_neg hd] at h ⊢
        simp only
        unfold treeF at ht
        cases hq : (lev (cutL s).toks (s.length : Int) 41).fm 0 with
        | error e => rw [hq] at ht; cases ht
        | ok q =>
          obtain ⟨b, k⟩ := q
          rw [hq] at ht
          simp only at ht
          split at ht
          · cases ht
          · injection ht with ht
            subst ht
            have h1 := (lev_ft (cutL s).toks (s.length : Int) (cut_ok s) 41).fm _ _ _ hq
            have h2 := (lev_sz (cutL s).toks (s.length : Int) 41).fm _ _ _ hq
            have h3 := ((lev_goes (cutL s).toks (s.length : Int) 41).fm _ _ _ hq).2
            have h4 := (cut_few s).1
            refine ⟨?_, by omega, by omega⟩
            unfold goodT
            rw [decide_eq_true (by omega), decide_eq_true (by omega), h1]; rfl
end Go.Proofs.YtkdgiadpmfpjnaaGreatDoor.TreeC

/-
  Plain facts: a text within parentheses is the same tree, or too deep.
-/
namespace Go.Proofs.YtkdgiadpmfpjnaaGreatDoor.TreeC
set_option linter.unusedVariables false
open Go.Proofs.YtkdgiadpmfpjnaaGreatDoor.NumC Go.Proofs.YtkdgiadpmfpjnaaGreatDoor.LexC

/-- The tokens l stand in l2 one place on, behind them a closing parenthesis. -/
structure Par (l l2 : List Tok) : Prop where
  tok : ∀ k (h : k < l.length), ∃ t2, l2[k + 1]? = some t2 ∧ t2.k = l[k].k ∧ t2.n = l[k].n ∧ t2.s = l[k].s
  last : ∃ t2, l2[l.length + 1]? = some t2 ∧ t2.k = 4 ∧ t2.s = str [41]
section
variable {l l2 : List Tok} {n n2 : Int} {L L2 : Lev} {into into2 : Bool} {k k' k'' : Nat} {a b : Nd} {e : Bad} {t t2 : Tok} {op : List UInt8}
theorem Par.sign (hp : Par l l2) (hk : k < l.length) (s : List UInt8) : isSign l2 (k + 1) s = isSign l k s := by
  obtain ⟨t2, e, e1, e2, e3⟩ := hp.tok k hk
  unfold isSign
  rw [e, List.getElem?_eq_getElem hk]
  simp only [e1, e3]
theorem Par.sign' (hp : Par l l2) (hk : k ≤ l.length) {s : List UInt8} (hs : str [41] ≠ str s) : isSign l2 (k + 1) s = isSign l k s := by
  rcases Nat.lt_or_ge k l.length with h | h
  · exact hp.sign h s
  · obtain rfl : k = l.length := by omega
    obtain ⟨t2, e, e1, e3⟩ := hp.last
    unfold isSign
    rw [e, List.getElem?_eq_none (Nat.le_refl _)]
    simp only [e1, e3]
    simp [hs]
theorem Par.one (hp : Par l l2) (hk : k ≤ l.length) : ∀ {ss : List (List UInt8)}, (∀ s ∈ ss, str [41] ≠ str s) → oneOf l2 (k + 1) ss = oneOf l k ss := by
  intro ss
  unfold oneOf
  induction ss with
  | nil => intro _; rfl
  | cons s ss ih =>
    intro hs
    rw [List.find?_cons, List.find?_cons, hp.sign' hk (hs s (List.mem_cons_self ..)), ih (fun s h => hs s (List.mem_cons_of_mem _ h))]
theorem no_cmp : ∀ s ∈ cmpS, str [41] ≠ str s := by decide +kernel
theorem no_sum : ∀ s ∈ sumS, str [41] ≠ str s := by decide +kernel
theorem no_mul : ∀ s ∈ mulS, str [41] ≠ str s := by decide +kernel
theorem no_1 : str [41] ≠ str [94] := by decide +kernel
theorem no_2 : str [41] ≠ str [44] := by decide +kernel
theorem no_3 : str [41] ≠ str [40] := by decide +kernel
theorem no_4 : str [41] ≠ str [58] := by decide +kernel
/-- What one part makes the other makes one place on, or it is too deep. -/
def As1 (F F2 : Nat → Out) : Prop := ∀ k a k', F k = .ok (a, k') → F2 (k + 1) = .ok (a, k' + 1) ∨ F2 (k + 1) = .error deepE
structure LAs1 (L L2 : Lev) : Prop where
  fm : As1 L.fm L2.fm
  pw : As1 L.pw L2.pw
  un : As1 L.un L2.un
theorem row_as {P P2 : Nat → Out} {ss : List (List UInt8)} (hs : ∀ s ∈ ss, str [41] ≠ str s) (hp : Par l l2) (hg : Goes l P) (h1 : As1 P P2) : ∀ (g : Nat) (a : Nd) (k : Nat), k ≤ l.length → ∀ b k', rowF l P ss g a k = .ok (b, k') →
    rowF l2 P2 ss g a (k + 1) = .ok (b, k' + 1) ∨ rowF l2 P2 ss g a (k + 1) = .error deepE := by
  intro g
  induction g with
  | zero => intro a k hk b k' h; simp only [rowF] at h ⊢; injection h with h; injection h with h1 h2; subst h1 h2; exact Or.inl rfl
  | succ g ih =>
    intro a k hk b k' h
    cases ho : oneOf l k ss with
    | none => rw [row_end ho] at h; injection h with h; injection h with h1 h2; subst h1 h2; exact Or.inl (row_end (by rw [hp.one hk hs]; exact ho))
    | some op =>
      have ho2 : oneOf l2 (k + 1) ss = some op := by rw [hp.one hk hs]; exact ho
      cases hq : P (k + 1) with
      | error e => rw [row_bad ho hq] at h; cases h
      | ok r =>
        obtain ⟨c, k2⟩ := r
        rw [row_go ho hq] at h
        have hkl := (hg _ _ _ hq).2
        rcases h1 _ _ _ hq with h2 | h2
        · rw [row_go ho2 h2]; exact ih _ _ hkl _ _ h
        · exact Or.inr (row_bad ho2 h2)
theorem args_as (hp : Par l l2) (hL : LGoes l L) (h1 : LAs1 L L2) : ∀ (r : Nat) (acc : Fo) (k : Nat), ∀ x k', argsF l n L into r acc k = .ok (x, k') →
    argsF l2 n2 L2 into2 r acc (k + 1) = .ok (x, k' + 1) ∨ argsF l2 n2 L2 into2 r acc (k + 1) = .error deepE := by
  intro r
  induction r with
  | zero => intro acc k x k' h; simp only [argsF] at h; cases h
  | succ r ih =>
    intro acc k x k' h
    unfold argsF at h
    split at h
    · cases h
    · cases hq : L.fm k with
      | error e => simp only [hq] at h; cases h
      | ok q =>
        obtain ⟨c, k2⟩ := q
        simp only [hq] at h
        have hkl := (hL.fm _ _ _ hq).2
        have hs := hp.sign' hkl no_2
        by_cases hi : into2 = false
        · refine Or.inr ?_
          unfold argsF; rw [if_pos hi]
        · rcases h1.fm _ _ _ hq with h2 | h2
          · have e : argsF l2 n2 L2 into2 (r + 1) acc (k + 1) = (if isSign l k2 [44] = true then argsF l2 n2 L2 into2 r (acc.app c.one) (k2 + 1 + 1) else .ok (acc.app c.one, k2 + 1)) := by
              rw [argsF, if_neg hi, h2]; simp only [hs]
            rw [e]
            split at h
            · rename_i h44
              rw [if_pos h44]; exact ih _ _ _ _ h
            · rename_i h44
              rw [if_neg h44]; injection h with h; injection h with h3 h4; subst h3 h4; exact Or.inl rfl
          · refine Or.inr ?_
            rw [argsF, if_neg hi, h2]
theorem call_as (hp : Par l l2) (hL : LGoes l L) (h1 : LAs1 L L2) (ht : t2.s = t.s) (h : callF l n L into t k = .ok (a, k')) :
    callF l2 n2 L2 into2 t2 (k + 1) = .ok (a, k' + 1) ∨ callF l2 n2 L2 into2 t2 (k + 1) = .error deepE := by
  unfold callF at h ⊢
  rw [ht]
  split at h
  · cases h
  · rename_i h8
    rw [if_neg h8]
    split at h
    · rename_i h2
      have := hp.sign (sign_lt h2) [41]
      rw [if_pos (by rw [show k + 1 + 2 = k + 2 + 1 by omega, this]; exact h2)]
      injection h with h; injection h with h3 h4; subst h3 h4; exact Or.inl rfl
    · rename_i h2
      cases hq : argsF l n L into 10 .nil (k + 2) with
      | error e => simp only [hq] at h; cases h
      | ok q =>
        obtain ⟨c, k2⟩ := q
        simp only [hq] at h
        have hg := args_goes hL _ _ _ _ _ hq
        rw [if_neg (by rw [show k + 1 + 2 = k + 2 + 1 by omega, hp.sign (by omega)]; exact h2)]
        cases hc : isSign l k2 [41] with
        | false => rw [close_no hc] at h; cases h
        | true =>
          rw [close_ok hc] at h
          injection h with h; injection h with h3 h4; subst h3 h4
          have hc2 : isSign l2 (k2 + 1) [41] = true := by rw [hp.sign (sign_lt hc)]; exact hc
          rw [show k + 1 + 2 = k + 2 + 1 by omega]
          rcases args_as (n2 := n2) (into2 := into2) hp hL h1 10 .nil _ _ _ hq with h3 | h3
          · simp only [h3, close_ok hc2]; exact Or.inl trivial
          · simp only [h3]; exact Or.inr trivial
theorem name_as (hp : Par l l2) (hL : LGoes l L) (h1 : LAs1 L L2) (ht : t2.s = t.s) (hk : k < l.length) (h : nameF l n L into t k = .ok (a, k')) :
    nameF l2 n2 L2 into2 t2 (k + 1) = .ok (a, k' + 1) ∨ nameF l2 n2 L2 into2 t2 (k + 1) = .error deepE := by
  unfold nameF at h ⊢
  rw [ht, hp.sign' (k := k + 1) (by omega) no_3, hp.sign' (k := k + 1) (by omega) no_4]
  split at h
  · rename_i h2; rw [if_pos h2]; exact call_as hp hL h1 ht h
  · rename_i h2
    rw [if_neg h2]
    split at h
    · rename_i h3; rw [if_pos h3]; injection h with h; injection h with h3 h4; subst h3 h4; exact Or.inl rfl
    · rename_i h3
      rw [if_neg h3]
      split at h
      · rename_i h4; rw [if_pos h4]; injection h with h; injection h with h3 h4; subst h3 h4; exact Or.inl rfl
      · rename_i h4
        rw [if_neg h4]
        split at h
        · cases h
        · rename_i h5
          rw [if_neg h5]
          split at h
          · rename_i h6
            rw [if_pos h6]
            cases hu : l[k + 2]? with
            | none => simp only [hu] at h; cases h
            | some u =>
              have hlt : k + 2 < l.length := (List.getElem?_eq_some_iff.1 hu).1
              obtain ⟨u2, f, f1, f2, f3⟩ := hp.tok (k + 2) hlt
              rw [(List.getElem?_eq_some_iff.1 hu).2] at f1 f2 f3
              have hs := hp.sign' (k := k + 3) (by omega) no_3
              simp only [hu] at h
              rw [show k + 1 + 2 = k + 2 + 1 by omega, f]
              simp only [f1, f3, show k + 1 + 3 = k + 3 + 1 by omega, hs]
              split at h
              · rename_i h7
                rw [if_pos h7]
                injection h with h; injection h with h3 h4; subst h3 h4; exact Or.inl rfl
              · cases h
          · rename_i h6
            rw [if_neg h6]
            injection h with h; injection h with h3 h4; subst h3 h4; exact Or.inl rfl
theorem paren_as (hp : Par l l2) (h1 : LAs1 L L2) (h : parenF l n L into k = .ok (a, k')) : parenF l2 n2 L2 into2 (k + 1) = .ok (a, k' + 1) ∨ parenF l2 n2 L2 into2 (k + 1) = .error deepE := by
  cases hi2 : into2 with
  | false => exact Or.inr (paren_deep rfl)
  | true =>
    cases hi : into with
    | false => rw [paren_deep hi] at h; cases h
    | true =>
      cases hq : L.fm k with
      | error e => rw [paren_err hi hq] at h; cases h
      | ok q =>
        obtain ⟨c, k2⟩ := q
        cases hc : isSign l k2 [41] with
        | false => rw [paren_open hi hq hc] at h; cases h
        | true =>
          rw [paren_ok hi hq hc] at h
          injection h with h; injection h with h3 h4; subst h3 h4
          rcases h1.fm _ _ _ hq with h2 | h2
          · exact Or.inl (paren_ok rfl h2 (by rw [hp.sign (sign_lt hc)]; exact hc))
          · exact Or.inr (paren_err rfl h2)
theorem part_as (hp : Par l l2) (hL : LGoes l L) (h1 : LAs1 L L2) : As1 (partF l n L into) (partF l2 n2 L2 into2) := by
  intro k a k' h
  unfold partF at h ⊢
  cases ht : l[k]? with
  | none => simp only [ht] at h; cases h
  | some t =>
    have hlt : k < l.length := (List.getElem?_eq_some_iff.1 ht).1
    obtain ⟨t2, f, f1, f2, f3⟩ := hp.tok k hlt
    rw [(List.getElem?_eq_some_iff.1 ht).2] at f1 f2 f3
    have hs := hp.sign hlt [40]
    simp only [ht] at h
    simp only [f, f1, f2, f3, hs]
    split at h
    · rename_i h2; rw [if_pos h2]; injection h with h; injection h with h3 h4; subst h3 h4; exact Or.inl rfl
    · rename_i h2
      rw [if_neg h2]
      split at h
      · rename_i h3
        rw [if_pos h3]
        split at h
        · cases h
        · rename_i h4; rw [if_neg h4]; injection h with h; injection h with h3 h4; subst h3 h4; exact Or.inl rfl
      · rename_i h3
        rw [if_neg h3]
        split at h
        · rename_i h4; rw [if_pos h4]; exact name_as hp hL h1 f3 hlt h
        · rename_i h4
          rw [if_neg h4]
          split at h
          · rename_i h5; rw [if_pos h5]; exact paren_as hp h1 h
          · cases h
theorem unary_as (hp : Par l l2) (hL : LGoes l L) (h1 : LAs1 L L2) : As1 (unaryF l n L into) (unaryF l2 n2 L2 into2) := by
  intro k a k' h
  have hk : k < l.length := by have := unary_goes hL _ _ _ h; omega
  have hs2 := hp.sign hk [45]
  cases hs : isSign l k [45] with
  | false => rw [unary_no hs] at h; rw [unary_no (by rw [hs2]; exact hs)]; exact part_as hp hL h1 _ _ _ h
  | true =>
    rw [hs] at hs2
    cases hi2 : into2 with
    | false => exact Or.inr (unary_deep hs2 rfl)
    | true =>
      cases hi : into with
      | false => rw [unary_deep hs hi] at h; cases h
      | true =>
        cases hq : L.un (k + 1) with
        | error e => rw [unary_err hs hi hq] at h; cases h
        | ok q =>
          obtain ⟨c, k2⟩ := q
          rw [unary_ok hs hi hq] at h
          injection h with h; injection h with h3 h4; subst h3 h4
          rcases h1.un _ _ _ hq with h2 | h2
          · exact Or.inl (unary_ok hs2 rfl h2)
          · exact Or.inr (unary_err hs2 rfl h2)
theorem power_as (hp : Par l l2) (hL : LGoes l L) (h1 : LAs1 L L2) : As1 (powerF l n L into) (powerF l2 n2 L2 into2) := by
  intro k a k' h
  cases hu : unaryF l n L into k with
  | error e => rw [power_err hu] at h; cases h
  | ok q =>
    obtain ⟨c, k1⟩ := q
    have hkl := (unary_goes hL _ _ _ hu).2
    have hs2 := hp.sign' hkl no_1
    rcases unary_as (n2 := n2) (into2 := into2) hp hL h1 _ _ _ hu with hu2 | hu2
    · cases hs : isSign l k1 [94] with
      | false => rw [power_one hu hs] at h; injection h with h; injection h with h3 h4; subst h3 h4; exact Or.inl (power_one hu2 (by rw [hs2]; exact hs))
      | true =>
        rw [hs] at hs2
        cases hi2 : into2 with
        | false => subst hi2; exact Or.inr (power_deep hu2 hs2 rfl)
        | true =>
          subst hi2
          cases hi : into with
          | false => rw [power_deep hu hs hi] at h; cases h
          | true =>
            cases hq : L.pw (k1 + 1) with
            | error e => rw [power_bad hu hs hi hq] at h; cases h
            | ok q =>
              obtain ⟨d, k2⟩ := q
              rw [power_ok hu hs hi hq] at h
              injection h with h; injection h with h3 h4; subst h3 h4
              rcases h1.pw _ _ _ hq with h2 | h2
              · exact Or.inl (power_ok hu2 hs2 rfl h2)
              · exact Or.inr (power_bad hu2 hs2 rfl h2)
    · exact Or.inr (power_err hu2)
theorem product_as (hp : Par l l2) (hL : LGoes l L) (h1 : LAs1 L L2) : As1 (productF l n L into) (productF l2 n2 L2 into2) := by
  intro k a k' h
  cases hu : powerF l n L into k with
  | error e => rw [product_err hu] at h; cases h
  | ok q =>
    obtain ⟨c, k1⟩ := q
    rw [product_go hu] at h
    rcases power_as (n2 := n2) (into2 := into2) hp hL h1 _ _ _ hu with hu2 | hu2
    · rw [product_go hu2]
      exact row_as no_mul hp (power_goes hL) (power_as hp hL h1) _ _ _ (power_goes hL _ _ _ hu).2 _ _ h
    · exact Or.inr (product_err hu2)
theorem sum_as (hp : Par l l2) (hL : LGoes l L) (h1 : LAs1 L L2) : As1 (sumF l n L into) (sumF l2 n2 L2 into2) := by
  intro k a k' h
  cases hu : productF l n L into k with
  | error e => rw [sum_err hu] at h; cases h
  | ok q =>
    obtain ⟨c, k1⟩ := q
    rw [sum_go hu] at h
    rcases product_as (n2 := n2) (into2 := into2) hp hL h1 _ _ _ hu with hu2 | hu2
    · rw [sum_go hu2]
      exact row_as no_sum hp (product_goes hL) (product_as hp hL h1) _ _ _ (product_goes hL _ _ _ hu).2 _ _ h
    · exact Or.inr (sum_err hu2)
theorem formula_as (hp : Par l l2) (hL : LGoes l L) (h1 : LAs1 L L2) : As1 (formulaF l n L into) (formulaF l2 n2 L2 into2) := by
  intro k a k' h
  cases hu : sumF l n L into k with
  | error e => rw [formula_err hu] at h; cases h
  | ok q =>
    obtain ⟨c, k1⟩ := q
    have hkl := (sum_goes hL _ _ _ hu).2
    have hs2 := hp.one hkl no_cmp
    rcases sum_as (n2 := n2) (into2 := into2) hp hL h1 _ _ _ hu with hu2 | hu2
    · cases ho : oneOf l k1 cmpS with
      | none => rw [formula_one hu ho] at h; injection h with h; injection h with h3 h4; subst h3 h4; exact Or.inl (formula_one hu2 (by rw [hs2]; exact ho))
      | some op =>
        rw [ho] at hs2
        cases hq : sumF l n L into (k1 + 1) with
        | error e => rw [formula_bad hu ho hq] at h; cases h
        | ok q =>
          obtain ⟨d, k2⟩ := q
          rw [formula_ok hu ho hq] at h
          injection h with h; injection h with h3 h4; subst h3 h4
          rcases sum_as (n2 := n2) (into2 := into2) hp hL h1 _ _ _ hq with h2 | h2
          · exact Or.inl (formula_ok hu2 hs2 h2)
          · exact Or.inr (formula_bad hu2 hs2 h2)
    · exact Or.inr (formula_err hu2)
end
theorem lev_as {l l2 : List Tok} (n n2 : Int) (hp : Par l l2) : ∀ r r2, LAs1 (lev l n r) (lev l2 n2 r2) := by
  intro r
  induction r with
  | zero => intro r2; refine ⟨?_, ?_, ?_⟩ <;> (intro k a k' h; cases h)
  | succ r ih =>
    intro r2
    cases r2 with
    | zero => exact ⟨fun _ _ _ _ => Or.inr rfl, fun _ _ _ _ => Or.inr rfl, fun _ _ _ _ => Or.inr rfl⟩
    | succ r2 =>
      have hL := lev_goes l n r
      exact ⟨formula_as hp hL (ih r2), power_as hp hL (ih r2), unary_as hp hL (ih r2)⟩
/-- A tree within parentheses: it itself, or it is too deep. -/
theorem tree_as {l l2 : List Tok} {n n2 : Int} {a : Nd} (hp : Par l l2) (h0 : ∃ t, l2[0]? = some t ∧ t.k = 4 ∧ t.s = str [40]) (hl : l2.length = l.length + 2) (h : treeF l n = .ok a) :
    treeF l2 n2 = .ok a ∨ treeF l2 n2 = .error deepE := by
  unfold treeF at h ⊢
  cases hq : (lev l n 41).fm 0 with
  | error e => rw [hq] at h; cases h
  | ok q =>
    obtain ⟨b, k⟩ := q
    rw [hq] at h
    simp only at h
    split at h
    · cases h
    · rename_i hk
      injection h with h; subst h
      have hkl := ((lev_goes l n 41).fm _ _ _ hq).2
      obtain rfl : k = l.length := by omega
      obtain ⟨t, e, e1, e2⟩ := h0
      have s40 : isSign l2 0 [40] = true := by unfold isSign; rw [e]; simp [e1, e2]
      have s45 : isSign l2 0 [45] = false := by unfold isSign; rw [e]; simp only [e2]; rw [decide_eq_false (show ¬ str [40] = str [45] by decide +kernel)]; simp
      have s41 : isSign l2 (l.length + 1) [41] = true := by obtain ⟨u, f, f1, f2⟩ := hp.last; unfold isSign; rw [f]; simp [f1, f2]
      have hend : ∀ s, isSign l2 (l.length + 2) s = false := fun s => by unfold isSign; rw [List.getElem?_eq_none (by omega)]
      have hone : ∀ ss, oneOf l2 (l.length + 2) ss = none := fun ss => by unfold oneOf; exact List.find?_eq_none.2 (fun s _ => by rw [hend]; decide)
      have hpart : partF l2 n2 (lev l2 n2 40) true 0 = parenF l2 n2 (lev l2 n2 40) true 1 := by
        unfold partF; rw [e]
        simp only [e1]
        rw [if_neg (by decide), if_neg (by decide), if_neg (by decide), if_pos s40]
      have hfm : (lev l2 n2 41).fm 0 = formulaF l2 n2 (lev l2 n2 40) true 0 := rfl
      rw [hfm]
      rcases (lev_as n n2 hp 41 40).fm _ _ _ hq with h2 | h2
      · have hu : unaryF l2 n2 (lev l2 n2 40) true 0 = .ok (b, l.length + 2) := by
          rw [unary_no s45, hpart, paren_ok rfl h2 s41]
        have hpw : powerF l2 n2 (lev l2 n2 40) true 0 = .ok (b, l.length + 2) := power_one hu (hend _)
        have hpr : productF l2 n2 (lev l2 n2 40) true 0 = .ok (b, l.length + 2) := by rw [product_go hpw]; exact row_end (hone _)
        have hsm : sumF l2 n2 (lev l2 n2 40) true 0 = .ok (b, l.length + 2) := by rw [sum_go hpr]; exact row_end (hone _)
        rw [formula_one hsm (hone _)]
        simp only [hl, Nat.lt_irrefl, if_false]
        exact Or.inl trivial
      · have hu : unaryF l2 n2 (lev l2 n2 40) true 0 = .error deepE := by rw [unary_no s45, hpart, paren_err rfl h2]
        rw [formula_err (sum_err (product_err (power_err hu)))]
        exact Or.inr rfl
/-! What Cut makes of a text within parentheses. -/
theorem take_ap {p : UInt8 → Bool} {x : UInt8} (h : p x = false) (l : List UInt8) : (l ++ [x]).takeWhile p = l.takeWhile p := take_app h l
theorem txt_ap : ∀ (n : Nat) (l : List UInt8), l.length ≤ n → txtL (l ++ [41]) = txtL l := by
  intro n
  induction n with
  | zero =>
    intro l hl
    have : l = [] := List.length_eq_zero_iff.1 (by omega)
    subst this
    show txtL [41] = txtL []
    rw [txtL_no (by decide)]; rfl
  | succ n ih =>
    intro l hl
    cases l with
    | nil => show txtL [41] = txtL []; rw [txtL_no (by decide)]; rfl
    | cons c l =>
      rw [List.cons_append]
      by_cases hc : c = 34
      · subst hc
        by_cases h2 : ∃ l', l = 34 :: l'
        · obtain ⟨l', rfl⟩ := h2
          rw [List.cons_append, txtL_two, txtL_two, ih l' (by simp at hl; omega)]
        · rw [txtL_one (fun l' e => h2 ⟨l', e⟩), txtL_one (fun l' e => ?_)]
          cases l with
          | nil => cases e
          | cons d l => rw [List.cons_append] at e; injection e with e1 e2; exact h2 ⟨l, by rw [e1]⟩
      · rw [txtL_no hc, txtL_no hc, ih l (by simp at hl; omega)]
theorem next_ap (c : UInt8) (l : List UInt8) : nextL (c :: (l ++ [41])) = nextL (c :: l) := by
  have t1 : (c :: (l ++ [41])).takeWhile digB = (c :: l).takeWhile digB := take_ap (p := digB) (by decide) (c :: l)
  have t2 : (c :: (l ++ [41])).takeWhile wordB = (c :: l).takeWhile wordB := take_ap (p := wordB) (by decide) (c :: l)
  rw [nextL_cons, nextL_cons]
  unfold tokL
  rw [t1, t2, txt_ap l.length l (Nat.le_refl _)]
  have t3 : signT c (l ++ [41]) = signT c l := by
    cases l with
    | nil =>
      show signT c [41] = signT c []
      have : sign2 c 41 = false := by simp [sign2]
      simp [signT, this]
    | cons d l => rfl
  rw [t3]
def on1 (t : Tok) : Tok := ⟨t.k, t.n, t.s, t.at_ + 1⟩
theorem cutF_par : ∀ (f g : Nat) (l : List UInt8) (i : Nat) (acc acc2 : List Tok), l.length + 1 < f → l.length < g → (cutF g l i acc).err = 0 →
    ∃ new : List Tok, (cutF g l i acc).toks = acc ++ new ∧ ∃ p, cutF f (l ++ [41]) (i + 1) acc2 = ⟨acc2 ++ new.map on1 ++ [⟨4, 0, str [41], p⟩], 0, 0⟩ := by
  intro f
  induction f with
  | zero => intro g l i acc acc2 h; omega
  | succ f ih =>
    intro g l i acc acc2 hf hg he
    cases g with
    | zero => omega
    | succ g =>
      cases l with
      | nil =>
        refine ⟨[], by simp [cutF], ((i + 1 : Nat) : Int), ?_⟩
        show cutF (f + 1) [41] (i + 1) acc2 = _
        have hn : nextL [41] = some (4, 0, [41], 1) := rfl
        rw [cutF, if_neg (by decide), hn]
        simp only [List.map_nil, List.append_nil]
        exact cutF_nil _ _ _
      | cons c l =>
        simp only [List.length_cons] at hf hg
        rw [cutF] at he
        rw [List.cons_append, cutF, cutF]
        by_cases hc : c = 32
        · rw [if_pos hc] at he
          rw [if_pos hc, if_pos hc]
          exact ih g l (i + 1) acc acc2 (by omega) (by omega) he
        · rw [if_neg hc] at he
          rw [if_neg hc, if_neg hc, next_ap]
          cases hn : nextL (c :: l) with
          | none => rw [hn] at he; simp only at he; exact absurd he (by decide)
          | some r =>
            obtain ⟨k, n, s, m⟩ := r
            rw [hn] at he
            have hm := next_len hn
            simp only at he ⊢
            have e1 : (c :: (l ++ [41])).drop m = (c :: l).drop m ++ [41] := by
              rw [← List.cons_append, List.drop_append_of_le_length hm.2]
            rw [e1]
            obtain ⟨new, h1, p, h2⟩ := ih g ((c :: l).drop m) (i + m) (acc ++ [⟨k, n, str s, i⟩]) (acc2 ++ [on1 ⟨k, n, str s, i⟩]) (by rw [List.length_drop]; simp only [List.length_cons] at *; omega) (by rw [List.length_drop]; simp only [List.length_cons] at *; omega) he
            refine ⟨⟨k, n, str s, i⟩ :: new, by rw [h1]; simp, p, ?_⟩
            rw [show i + m + 1 = i + 1 + m by omega] at h2
            have e3 : (⟨k, n, str s, ((i + 1 : Nat) : Int)⟩ : Tok) = on1 ⟨k, n, str s, i⟩ := rfl
            rw [e3, h2]; simp
theorem cut_par {s : List UInt8} (h : s.length ≤ 290) (he : (cutL s).err = 0) : ∃ p, cutL (40 :: (s ++ [41])) = ⟨⟨4, 0, str [40], 0⟩ :: (cutL s).toks.map on1 ++ [⟨4, 0, str [41], p⟩], 0, 0⟩ := by
  have e2 : cutL s = cutF (s.length + 1) s 0 [] := by unfold cutL; rw [if_neg (by omega)]
  rw [e2] at he ⊢
  obtain ⟨new, h1, p, h2⟩ := cutF_par (s.length + 2) (s.length + 1) s 0 [] [⟨4, 0, str [40], 0⟩] (by omega) (by omega) he
  refine ⟨p, ?_⟩
  have e : cutL (40 :: (s ++ [41])) = cutF (s.length + 3) (40 :: (s ++ [41])) 0 [] := by
    unfold cutL
    rw [if_neg (by simp; omega)]
    simp
  have hn : nextL (40 :: (s ++ [41])) = some (4, 0, [40], 1) := by
    cases s with
    | nil => rfl
    | cons d s =>
      have : sign2 40 d = false := by simp [sign2]
      simp [nextL, tokL, digB, letB, signT, this, sign1]
  rw [e, cutF, if_neg (by decide), hn, h1]
  simp only [List.drop_succ_cons, List.drop_zero, List.nil_append, Nat.zero_add]
  rw [Nat.zero_add] at h2
  exact h2
/-- A text that is parsed, within parentheses: the same tree, or too deep. -/
theorem parse_par {s : List UInt8} (h : s.length ≤ 290) (he : (parseL s).err = 0) : parseL (40 :: (s ++ [41])) = parseL s ∨ (parseL (40 :: (s ++ [41]))).err = 14 := by
  unfold parseL at he
  by_cases h0 : (cutL s).err ≠ 0
  · rw [if_pos h0] at he; exact absurd he h0
  · rw [if_neg h0] at he
    have h00 : (cutL s).err = 0 := Decidable.not_not.1 h0
    obtain ⟨p, hc⟩ := cut_par h h00
    cases ht : treeF (cutL s).toks s.length with
    | error e => rw [ht] at he; simp only at he; exact absurd he (tree_err_ne ht)
    | ok a =>
      have hP : Par (cutL s).toks (⟨4, 0, str [40], 0⟩ :: (cutL s).toks.map on1 ++ [⟨4, 0, str [41], p⟩]) := by
        refine ⟨fun k hk => ⟨on1 (cutL s).toks[k], ?_, rfl, rfl, rfl⟩, ⟨⟨4, 0, str [41], p⟩, ?_, rfl, rfl⟩⟩
        · rw [List.cons_append, List.getElem?_cons_succ, List.getElem?_append_left (by simpa using hk), List.getElem?_map, List.getElem?_eq_getElem hk]; rfl
        · rw [List.cons_append, List.getElem?_cons_succ, List.getElem?_append_right (by simp)]; simp
      have hT := tree_as (n2 := ((40 :: (s ++ [41])).length : Int)) hP ⟨_, rfl, rfl, rfl⟩ (by simp) ht
      have E : parseL s = (if 16 < a.deep then ⟨zeroN, 0, 14⟩ else ⟨a, 0, 0⟩) := by
        unfold parseL; rw [if_neg h0, ht]
      have E2 : ∀ o, treeF (⟨4, 0, str [40], 0⟩ :: (cutL s).toks.map on1 ++ [⟨4, 0, str [41], p⟩]) ((40 :: (s ++ [41])).length : Int) = o → parseL (40 :: (s ++ [41])) = (match o with
          | .error e => ⟨zeroN, e.2, e.1⟩
          | .ok a => if 16 < a.deep then ⟨zeroN, 0, 14⟩ else ⟨a, 0, 0⟩) := by
        intro o ho
        unfold parseL; rw [hc]; simp only [ne_eq, not_true_eq_false, if_false]; rw [ho]; cases o <;> rfl
      rcases hT with h2 | h2
      · exact Or.inl (by rw [E, E2 _ h2])
      · exact Or.inr (by rw [E2 _ h2]; rfl)
end Go.Proofs.YtkdgiadpmfpjnaaGreatDoor.TreeC

/-
  The walk of the statement TreeGood: for all arguments it answers true.
-/
namespace Go.Proofs.YtkdgiadpmfpjnaaGreatDoor.TreeC
set_option linter.unusedVariables false
open Go.RowKit Go.Proofs.YtkdgiadpmfpjnaaGreatDoor.NumC Go.Proofs.YtkdgiadpmfpjnaaGreatDoor.LexC

theorem paren_str (s : ByteArray) : ({ data := #[40] } ++ s ++ { data := #[41] } : ByteArray).data.toList = 40 :: (s.data.toList ++ [41]) := by
  rw [ByteArray.data_append, ByteArray.data_append]; simp
theorem paren_size (s : ByteArray) : ({ data := #[40] } ++ s ++ { data := #[41] } : ByteArray).size = s.size + 2 := by
  rw [ByteArray.size_append, ByteArray.size_append]
  show 1 + s.size + 1 = _
  omega
set_option maxRecDepth 100000 in
set_option maxHeartbeats 2000000 in
theorem treeGood (s : ByteArray) (w : World) (hl : LexLib w) (hg : ErrT w) : Calls Tryz.prog 5 #[.string s] w fun e w' => e = .returned (.bool true) ∧ Below w.heap.size w w' := by
  have HL := Lib.hid hl
  have HG := Lib.hid hg
  clear hl hg
  by_cases hs : 290 < s.size
  · have d0 : (290 : Int) < (s.size : Int) := by omega
    have HW := Lib.hid (cwakes w HL.out HG.out)
    go_enter Tryz.func5, Tryz.ntmps5
    go_wp2_with fail
    refine HW.out.mono ?_; rintro e w1 ⟨rfl, hb1⟩
    go_wp2_with fail
    go_ret
    exact ⟨rfl, hb1⟩
  · have dn : ¬ (290 : Int) < (s.size : Int) := by omega
    have hs2 : s.size ≤ 1000000 := by omega
    have hlen : s.data.toList.length ≤ 290 := by rw [show s.data.toList.length = s.size from Array.length_toList]; omega
    have PS := Lib.hid (paren_str s)
    have PZ : ({ data := #[40] } ++ s ++ { data := #[41] } : ByteArray).size ≤ 1000000 := by rw [paren_size]; omega
    have F0 := Lib.hid (parse_at s.data.toList)
    have F1 := Lib.hid (fun h => parse_bad_zero (s := s.data.toList) h)
    have F2 := Lib.hid (fun h => parse_ok_at (s := s.data.toList) h)
    have F3 := Lib.hid (fun h => parse_good s.data.toList h)
    have F4 := Lib.hid (fun h => parse_par hlen h)
    have F5 := Lib.hid (fun h => parse_ok_at (s := 40 :: (s.data.toList ++ [41])) h)
    have HZ := Lib.hid (And.intro hs2 PZ)
    clear hs2 PZ hlen
    go_enter Tryz.func5, Tryz.ntmps5
    go_wp2_with fail
    refine (cParse s w HZ.out.1 HL.out HG.out).mono ?_
    generalize parseL s.data.toList = p1 at *
    obtain ⟨⟨f, x⟩, a1, e1⟩ := p1
    simp only at F0 F1 F2 F3 F4 F5
    rintro e w1 ⟨v, rfl, hb1, A, c, rfl, hK1⟩
    unfold nodeV
    simp only at hK1 ⊢
    have B1 : Below w.heap.size w (w1.alloc (.cells #[.int .i64 f.k, .int .i64 f.vk, .int .i64 f.vn, .string f.vs, .int .i64 f.r1, .int .i64 f.r2, .int .i64 f.r3, .int .i64 f.r4, .string f.op, .slice A x.len c] 31)) := hb1.alloc hb1.size _
    have M1 : NLoc (w1.alloc (.cells #[.int .i64 f.k, .int .i64 f.vk, .int .i64 f.vn, .string f.vs, .int .i64 f.r1, .int .i64 f.r2, .int .i64 f.r3, .int .i64 f.r4, .string f.op, .slice A x.len c] 31)) w1.heap.size f A x.len c := ⟨heap_alloc_new _ _⟩
    have K1 : KidsAt (w1.alloc (.cells #[.int .i64 f.k, .int .i64 f.vk, .int .i64 f.vn, .string f.vs, .int .i64 f.r1, .int .i64 f.r2, .int .i64 f.r3, .int .i64 f.r4, .string f.op, .slice A x.len c] 31)) (fun bb => bb < (w1.alloc (.cells #[.int .i64 f.k, .int .i64 f.vk, .int .i64 f.vn, .string f.vs, .int .i64 f.r1, .int .i64 f.r2, .int .i64 f.r3, .int .i64 f.r4, .string f.op, .slice A x.len c] 31)).heap.size) x A := hK1.keep (y := w1.heap.size) ((Kept.refl w1.heap.size w1).alloc _) (fun bb hg hl => ⟨by omega, by simp; omega⟩)
    clear hK1 hb1
    go_wp2_with fail
    generalize (w1.alloc (.cells #[.int .i64 f.k, .int .i64 f.vk, .int .i64 f.vn, .string f.vs, .int .i64 f.r1, .int .i64 f.r2, .int .i64 f.r3, .int .i64 f.r4, .string f.op, .slice A x.len c] 31)) = W1 at *
    refine (cParse _ W1 HZ.out.2 (HL.out.below B1) (HG.out.below B1)).mono ?_
    rw [PS.out]
    generalize parseL (40 :: (s.data.toList ++ [41])) = p2 at *
    obtain ⟨⟨g, y⟩, a2, e2⟩ := p2
    simp only at F4 F5
    rintro e w2 ⟨v, rfl, hb2, A2, c2, rfl, hK2⟩
    unfold nodeV
    simp only at hK2 ⊢
    have B2 : Below w.heap.size w (w2.alloc (.cells #[.int .i64 g.k, .int .i64 g.vk, .int .i64 g.vn, .string g.vs, .int .i64 g.r1, .int .i64 g.r2, .int .i64 g.r3, .int .i64 g.r4, .string g.op, .slice A2 y.len c2] 31)) := (B1.trans (hb2.mono B1.size)).alloc (by have := B1.size; have := hb2.size; omega) _
    have b12 : Below W1.heap.size W1 (w2.alloc (.cells #[.int .i64 g.k, .int .i64 g.vk, .int .i64 g.vn, .string g.vs, .int .i64 g.r1, .int .i64 g.r2, .int .i64 g.r3, .int .i64 g.r4, .string g.op, .slice A2 y.len c2] 31)) := hb2.alloc hb2.size _
    have M2 : NLoc (w2.alloc (.cells #[.int .i64 g.k, .int .i64 g.vk, .int .i64 g.vn, .string g.vs, .int .i64 g.r1, .int .i64 g.r2, .int .i64 g.r3, .int .i64 g.r4, .string g.op, .slice A2 y.len c2] 31)) w2.heap.size g A2 y.len c2 := ⟨heap_alloc_new _ _⟩
    have N1 := M1.kept (Kept.of (x := W1.heap.size) b12) (Nat.ne_of_lt M1.lt)
    have K2 : KidsAt (w2.alloc (.cells #[.int .i64 g.k, .int .i64 g.vk, .int .i64 g.vn, .string g.vs, .int .i64 g.r1, .int .i64 g.r2, .int .i64 g.r3, .int .i64 g.r4, .string g.op, .slice A2 y.len c2] 31)) (fun bb => bb < (w2.alloc (.cells #[.int .i64 g.k, .int .i64 g.vk, .int .i64 g.vn, .string g.vs, .int .i64 g.r1, .int .i64 g.r2, .int .i64 g.r3, .int .i64 g.r4, .string g.op, .slice A2 y.len c2] 31)).heap.size) y A2 := hK2.keep (y := w2.heap.size) ((Kept.refl w2.heap.size w2).alloc _) (fun bb hg hl => ⟨by omega, by simp; omega⟩)
    have J1 := below_row K1 b12
    have lt1 := M1.lt
    have le2 := hb2.size
    have ne12 : w1.heap.size ≠ w2.heap.size := by omega
    clear M1 K1 hK2 b12 hb2
    generalize hW2 : (w2.alloc (.cells #[.int .i64 g.k, .int .i64 g.vk, .int .i64 g.vn, .string g.vs, .int .i64 g.r1, .int .i64 g.r2, .int .i64 g.r3, .int .i64 g.r4, .string g.op, .slice A2 y.len c2] 31)) = W2 at *
    have HW := Lib.hid (fun (W : World) (hb : Below w.heap.size w W) => cwakes W (HL.out.below hb) (HG.out.below hb))
    by_cases he : e1 = 0
    · have q1 : (e1 != 0) = false := by simp [he]
      have ha1 := F2.out he
      have hgd := F3.out he
      have h4 := F4.out he
      have GS : (Nd.mk f x).size ≤ 300 := hgd.2.2
      have HGd := Lib.hid (fun (W : World) (hl : LexLib W) (hk : KidsAt W (fun bb => bb < W.heap.size) x A) => cGood fitsB fits_all ⟨f, x⟩ A c W (by omega) hl hk)
      rw [hgd.1] at HGd
      by_cases h14 : e2 = 14
      · have q2 : (e2 == 14) = true := by simp [h14]
        obtain ⟨d0, d1, d2, d3, d4, d5, d6, d7, d8, d9, -⟩ := N1.cells
        clear F0 F1 F2 F3 F4 F5 HZ PS
        go_wp2_with fail
        refine (HGd.out W2 (HL.out.below B2) J1).mono ?_; rintro e w3 ⟨rfl, hb3⟩
        have B3 := B2.trans (hb3.mono B2.size)
        go_wp2_with fail
        refine (HW.out _ B3).mono ?_; rintro e w4 ⟨rfl, hb4⟩
        go_wp2_with fail
        go_ret
        exact ⟨rfl, B3.trans (hb4.mono B3.size)⟩
      · have q2 : (e2 == 14) = false := by simp [h14]
        have h5 : (⟨⟨g, y⟩, a2, e2⟩ : PRes) = ⟨⟨f, x⟩, a1, e1⟩ := h4.resolve_right h14
        injection h5 with h6 h7 h8
        injection h6 with h9 h10
        subst h9 h10 h7 h8 he ha1
        have HDp := Lib.hid (fun (W : World) (hk : KidsAt W (fun bb => bb < W.heap.size) y A) => cDepth ⟨g, y⟩ A c W (by omega) hk)
        rw [if_pos (by omega)] at HDp
        have hdp : ((Nd.mk g y).deep : Int) ≤ 16 := by have := hgd.2.1; omega
        have HS := Lib.hid (fun (W : World) (hk : KidsAt W (fun bb => bb < W.heap.size) y A) (hj : KidsAt W (fun bb => bb < W.heap.size) y A2) => cSame ⟨g, y⟩ ⟨g, y⟩ A A2 c c2 W (by omega) (by omega) hk hj)
        have hsame : decide ((⟨g, y⟩ : Nd) = ⟨g, y⟩) = true := decide_eq_true rfl
        rw [hsame] at HS
        generalize (Nd.mk g y).deep = dp at *
        clear F0 F1 F2 F3 F4 F5 HZ PS hgd h4 hsame
        obtain ⟨d0, d1, d2, d3, d4, d5, d6, d7, d8, d9, -⟩ := N1.cells
        go_wp2_with fail
        refine (HGd.out W2 (HL.out.below B2) J1).mono ?_; rintro e w3 ⟨rfl, hb3⟩
        have B3 := B2.trans (hb3.mono B2.size)
        have O1 := N1.kept (Kept.of (x := W2.heap.size) hb3) (Nat.ne_of_lt N1.lt)
        have O2 := M2.kept (Kept.of (x := W2.heap.size) hb3) (Nat.ne_of_lt M2.lt)
        have J3 := below_row J1 hb3
        have K3 := below_row K2 hb3
        clear d0 d1 d2 d3 d4 d5 d6 d7 d8 d9 N1 M2 J1 K2
        obtain ⟨d0, d1, d2, d3, d4, d5, d6, d7, d8, d9, -⟩ := O1.cells
        go_wp2_with fail
        refine (HDp.out w3 J3).mono ?_; rintro e w4 ⟨rfl, hb4⟩
        have B4 := B3.trans (hb4.mono B3.size)
        have Q1 := O1.kept (Kept.of (x := w3.heap.size) hb4) (Nat.ne_of_lt O1.lt)
        have Q2 := O2.kept (Kept.of (x := w3.heap.size) hb4) (Nat.ne_of_lt O2.lt)
        have J4 := below_row J3 hb4
        have K4 := below_row K3 hb4
        clear d0 d1 d2 d3 d4 d5 d6 d7 d8 d9 O1 O2 J3 K3
        obtain ⟨d0, d1, d2, d3, d4, d5, d6, d7, d8, d9, -⟩ := Q1.cells
        obtain ⟨r0, r1, r2, r3, r4, r5, r6, r7, r8, r9, -⟩ := Q2.cells
        go_wp2_with fail
        refine (HS.out w4 J4 K4).mono ?_; rintro e w5 ⟨rfl, hb5⟩
        have B5 := B4.trans (hb5.mono B4.size)
        go_wp2_with fail
        refine (HW.out _ B5).mono ?_; rintro e w6 ⟨rfl, hb6⟩
        go_wp2_with fail
        go_ret
        exact ⟨rfl, B5.trans (hb6.mono B5.size)⟩
    · have q1 : (e1 != 0) = true := by simp [he]
      have hz := F1.out he
      injection hz with hz1 hz2
      subst hz1 hz2
      have ha : 0 ≤ a1 := F0.out
      have N1' : NLoc W2 w1.heap.size fld0 A 0 c := N1
      obtain ⟨d0', d1, d2, d3, d4, d5, d6, d7, d8, d9, -⟩ := N1'.cells
      have dk : W2.cell? ⟨w1.heap.size, 0, none⟩ = some (.int .i64 0) := d0'
      clear F0 F1 F2 F3 F4 F5 HZ PS
      by_cases h14 : e1 = 14
      · have q2 : (e1 == 14) = true := by simp [h14]
        go_wp2_with fail
        refine (HW.out _ B2).mono ?_; rintro e w4 ⟨rfl, hb4⟩
        go_wp2_with fail
        go_ret
        exact ⟨rfl, B2.trans (hb4.mono B2.size)⟩
      · have q2 : (e1 == 14) = false := by simp [h14]
        by_cases h0 : e2 = 0
        · have q3 : (e2 != 0) = false := by simp [h0]
          go_wp2_with fail
          refine (HW.out _ B2).mono ?_; rintro e w4 ⟨rfl, hb4⟩
          go_wp2_with fail
          go_ret
          exact ⟨rfl, B2.trans (hb4.mono B2.size)⟩
        · have q3 : (e2 != 0) = true := by simp [h0]
          go_wp2_with fail
          refine (HW.out _ B2).mono ?_; rintro e w4 ⟨rfl, hb4⟩
          go_wp2_with fail
          go_ret
          exact ⟨rfl, B2.trans (hb4.mono B2.size)⟩
end Go.Proofs.YtkdgiadpmfpjnaaGreatDoor.TreeC
