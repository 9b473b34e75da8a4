/-
  What was put is taken as it was; unlike things have unlike bytes: plain facts.
-/
import Derived.Test.YtflpnpppljalaaaDoorPackI
namespace Go.Proofs.YtflpnpppljalaaaDoor.PackC
set_option linter.unusedVariables false
open Go.RowKit Go.Proofs.YtflpnpppljalaaaDoor.NumC

theorem rowS_list (l : List UInt8) : (rowS l).data.toList = l := List.toList_toArray
theorem list_append (s t : ByteArray) : (s ++ t).data.toList = s.data.toList ++ t.data.toList := by
  rw [ByteArray.data_append, Array.toList_append]
theorem size_list (s : ByteArray) : s.size = s.data.toList.length := rfl
theorem bytes_ext {s t : ByteArray} (h : s.data.toList = t.data.toList) : s = t := ByteArray.ext (Array.ext' h)
theorem num8 (v : Nat) (hv : v < 18446744073709551616) : numE v 8 = 0 ∧ numS v 8 = rowS (beN 8 v) := by
  have h : numE v 8 = 0 := by
    unfold numE
    rw [if_pos (by decide), if_pos (by show v / 256 ^ 8 = 0; rw [show (256 : Nat) ^ 8 = 18446744073709551616 by decide]; omega)]
  exact ⟨h, by unfold numS; rw [h]; rfl⟩
theorem text_ok (s : ByteArray) (hs : s.size ≤ 65535) : textE s = 0 ∧ textS s = rowS (beN 2 s.size) ++ s := ⟨if_neg (by omega), if_neg (by omega)⟩
theorem rowS_size (l : List UInt8) : (rowS l).size = l.length := by unfold rowS; exact List.size_toArray
theorem take_ok (l m t : List UInt8) (b : ByteArray) (hb : b.data.toList = l ++ (m ++ t)) (hm : sizedB (m.length : Int) = true) : takeE b l.length m.length = 0 ∧ takeV b l.length m.length = valF 0 m ∧ takeK b l.length m.length = l.length + m.length := by
  have hz : b.size = l.length + (m.length + t.length) := by rw [size_list, hb, List.length_append, List.length_append]
  have h : takeE b l.length m.length = 0 := by unfold takeE; rw [if_pos hm, if_pos (by omega)]
  refine ⟨h, ?_, by unfold takeK; rw [if_pos h]⟩
  unfold takeV
  rw [if_pos h, hb, Int.toNat_natCast, Int.toNat_natCast, List.drop_left, List.take_left]
theorem cut_ok (l t : List UInt8) (s b : ByteArray) (m : Int) (hs : s.size ≤ 65535) (hm : (s.size : Int) ≤ m) (hb : b.data.toList = l ++ (beN 2 s.size ++ (s.data.toList ++ t))) :
    cutE b l.length m = 0 ∧ cutS b l.length m = s ∧ cutK b l.length m = l.length + 2 + s.size := by
  obtain ⟨t1, t2, t3⟩ := take_ok l (beN 2 s.size) (s.data.toList ++ t) b hb (by rw [be_len]; decide)
  rw [be_len] at t1 t2 t3
  rw [be_val 2 _ (by have : (256 : Nat) ^ 2 = 65536 := by decide
                     omega)] at t2
  have t1 : takeE b l.length 2 = 0 := t1
  have t2 : takeV b l.length 2 = s.size := t2
  have t3 : takeK b l.length 2 = l.length + 2 := t3
  have hz : b.size = l.length + (2 + (s.size + t.length)) := by
    rw [size_list, hb, List.length_append, List.length_append, be_len, List.length_append, ← size_list s]
  have h : cutE b l.length m = 0 := by
    unfold cutE
    rw [t1, t2, t3, if_neg (by omega), if_neg (by omega)]
  refine ⟨h, ?_, by unfold cutK; rw [if_pos h, t2, t3]⟩
  unfold cutS
  rw [if_pos h, t2, Int.toNat_natCast]
  apply bytes_ext
  rw [ByteArray.data_extract, Array.toList_extract, List.extract_eq_take_drop, hb, ← List.append_assoc, List.drop_left' (by rw [List.length_append, be_len]),
    show l.length + 2 + s.size - (l.length + 2) = s.data.toList.length by rw [← size_list]; omega, List.take_left]
/-- All of PackBack. -/
theorem back_all (v : Nat) (s r : ByteArray) (hv : v < 18446744073709551616) (hs : s.size ≤ 60000) (A C B : ByteArray) (hA : A = rowS (beN 8 v)) (hC : C = rowS (beN 2 s.size) ++ s) (hB : B = r ++ A ++ C ++ r) :
    takeE B r.size 8 = 0 ∧ takeV B r.size 8 = v ∧ takeK B r.size 8 = r.size + 8 ∧ cutE B (r.size + 8) 60000 = 0 ∧ cutS B (r.size + 8) 60000 = s ∧ cutK B (r.size + 8) 60000 = r.size + 10 + s.size := by
  have hl : B.data.toList = r.data.toList ++ (beN 8 v ++ (beN 2 s.size ++ (s.data.toList ++ r.data.toList))) := by
    rw [hB, hA, hC]
    simp only [list_append, rowS_list, List.append_assoc]
  have h1 := take_ok r.data.toList (beN 8 v) _ B hl (by rw [be_len]; decide)
  rw [be_len, be_val 8 v (by rw [show (256 : Nat) ^ 8 = 18446744073709551616 by decide]; exact hv)] at h1
  have h2 := cut_ok (r.data.toList ++ beN 8 v) r.data.toList s B 60000 (by omega) (by omega) (by rw [hl, List.append_assoc])
  rw [List.length_append, be_len] at h2
  have e8 : ((r.data.toList.length + 8 : Nat) : Int) = (r.size : Int) + 8 := by rw [← size_list]; omega
  rw [e8] at h2
  refine ⟨h1.1, h1.2.1, h1.2.2, h2.1, h2.2.1, ?_⟩
  rw [h2.2.2]; omega
theorem text_inj {s t : ByteArray} (hs : s.size ≤ 65535) (ht : t.size ≤ 65535) : textS s = textS t ↔ s = t := by
  constructor
  · intro h
    rw [(text_ok s hs).2, (text_ok t ht).2] at h
    have h1 := congrArg (fun b : ByteArray => b.data.toList.drop 2) h
    simp only [list_append, rowS_list] at h1
    rw [List.drop_left' (by rw [be_len]), List.drop_left' (by rw [be_len])] at h1
    exact bytes_ext h1
  · intro h; rw [h]
theorem num_inj {v u : Nat} (hv : v < 18446744073709551616) (hu : u < 18446744073709551616) : numS v 8 = numS u 8 ↔ v = u := by
  have e : (256 : Nat) ^ 8 = 18446744073709551616 := by decide
  constructor
  · intro h
    rw [(num8 v hv).2, (num8 u hu).2] at h
    have h1 := congrArg (fun b : ByteArray => b.data.toList) h
    simp only [rowS_list] at h1
    exact be_inj (by rw [e]; exact hv) (by rw [e]; exact hu) h1
  · intro h; rw [h]
end Go.Proofs.YtflpnpppljalaaaDoor.PackC
