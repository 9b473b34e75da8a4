/-
  Contracts of package lex: Upper, Quote.
-/
import Derived.Test.YtkdgiadpmfpjnaaGreatDoorMLexB
import Derived.Test.YtkdgiadpmfpjnaaGreatDoorMLexS
import Derived.Test.YtkdgiadpmfpjnaaGreatDoorMNumB
import Derived.Test.YtkdgiadpmfpjnaaGreatDoorShelf
import Derived.Lib.Replace
namespace Go.Proofs.YtkdgiadpmfpjnaaGreatDoor.LexC
set_option linter.unusedVariables false
open Go.RowKit Go.Proofs.YtkdgiadpmfpjnaaGreatDoor.NumC

/-- A builder of one's own, that holds these bytes. -/
abbrev Holds (B : Nat) (l : List UInt8) (w : World) : Prop := Lib.IsBuilder 108 5 B B (Lib.byteCells l) w
theorem holds_new (w : World) : Holds w.heap.size [] (w.alloc (.cells #[.pointer none, .slice none 0 0] 108)) := Lib.fresh_isBuilder _ _ w
theorem one_cell (l : List UInt8) (c : UInt8) : Lib.byteCells l ++ [Value.int .u8 (c.toNat : Int)] = Lib.byteCells (l ++ [c]) := by rw [Lib.byteCells_append]; rfl
/-- A byte more. -/
theorem writeByte (B : Nat) (l : List UInt8) (c : UInt8) (w : World) (h : Holds B l w) (hl : l.length ≤ 2000000) (hB : B ≤ w.heap.size) :
    Calls Tryz.prog 84 #[.pointer (some ⟨B, 0, none⟩), .int .u8 (c.toNat : Int)] w fun e w' => e = .returned .nilIface ∧ Holds B (l ++ [c]) w' ∧ Below B w w' :=
  (Tryz.Builder_WriteByte B B _ _ _ h (by rw [Lib.byteCells_length]; omega) hB).mono fun e w' ⟨h1, h2, h3⟩ => ⟨h1, by rw [one_cell] at h2; exact Or.inr h2, h3⟩
theorem bString (B : Nat) (l : List UInt8) (w : World) (h : Holds B l w) (hB : B ≤ w.heap.size) :
    Calls Tryz.prog 83 #[.pointer (some ⟨B, 0, none⟩)] w fun e w' => e = .returned (.string (str l)) ∧ Below B w w' := Tryz.Builder_String_any B B l w h hB
theorem bGrow (B n : Nat) (w : World) (hb : w.heap[B]? = some (.cells #[.pointer none, .slice none 0 0] 108 (0, 0))) (hB : B ≤ w.heap.size) (hn : n ≤ 1000000) :
    Calls Tryz.prog 87 #[.pointer (some ⟨B, 0, none⟩), .int .i64 n] w fun e w' => e = .returned (.tuple #[]) ∧ Holds B [] w' ∧ Below B w w' :=
  (Tryz.Builder_Grow_fresh B B n w (Nat.le_refl _) hb hB (by omega)).mono fun e w' ⟨h1, h2, h3⟩ => ⟨h1, Or.inr h2, h3⟩
theorem upL_snoc (l : List UInt8) (c : UInt8) : upL (l ++ [c]) = upL l ++ [upC c] := by unfold upL; rw [List.map_append]; rfl

set_option maxRecDepth 100000 in
set_option maxHeartbeats 2000000 in
theorem upper (s : ByteArray) (w : World) (hs : s.size ≤ 1000000) :
    Calls Tryz.prog 58 #[.string s] w fun e w' => e = .returned (.string (str (upL s.data.toList))) ∧ Below w.heap.size w w' := by
  have hb0 : (w.alloc (.cells #[.pointer none, .slice none 0 0] 108)).heap[w.heap.size]? = some (.cells #[.pointer none, .slice none 0 0] 108 (0, 0)) := heap_alloc_new _ _
  have hB0 : Below w.heap.size w (w.alloc (.cells #[.pointer none, .slice none 0 0] 108)) := (Below.refl _ _).alloc (Nat.le_refl _) _
  have HB0 := Lib.hid hb0
  clear hb0
  go_enter Tryz.func58, Tryz.ntmps58
  go_wp2_with fail
  refine (bGrow w.heap.size s.size _ HB0.out hB0.size hs).mono ?_; rintro e w1 ⟨rfl, hh, hb1⟩
  have hB1 := hB0.trans hb1
  have HH := Lib.hid hh
  clear hh HB0
  go_wp2_with fail
  go_loopw [11] (fun a wr => ∃ k : Nat, k ≤ s.size ∧ a = .int .i64 k ∧ Below w.heap.size w wr ∧ Hid (Holds w.heap.size (upL (s.data.toList.take k)) wr)) (fun a _ => s.size - (intOf a).toNat)
  case atStart => exact ⟨0, Nat.zero_le _, rfl, hB1, HH⟩
  case round =>
    obtain ⟨k, hk, rfl, hB, HU⟩ := hrel
    have hlen : (upL (s.data.toList.take k)).length ≤ 2000000 := by rw [upL_len]; have := List.length_take_le k s.data.toList; omega
    by_cases hlt : k < s.size
    · have HT : Hid (upL (s.data.toList.take k) ++ [upC s[k]] = upL (s.data.toList.take (k + 1))) := Lib.hid (by rw [take_snoc s k hlt, upL_snoc])
      have W := writeByte w.heap.size _ (upC s[k]) _ HU.out hlen hB.size
      rw [HT.out] at W
      by_cases h1 : 97 ≤ s[k].toNat ∧ s[k].toNat ≤ 122
      · have e1 : ((upC s[k]).toNat : Int) = (s[k].toNat : Int) - 32 := by rw [upC_up h1, sub32 h1.1]; omega
        have d1 : decide (97 ≤ (s[k].toNat : Int)) = true := decide_eq_true (by omega)
        have d2 : decide ((s[k].toNat : Int) ≤ 122) = true := decide_eq_true (by omega)
        have d3 : 32 ≤ (s[k].toNat : Int) := by omega
        have d4 : (s[k].toNat : Int) ≤ 255 := by omega
        rw [e1] at W
        have HW := Lib.hid W
        clear h1 e1 W
        go_wp2_with fail
        refine HW.out.mono ?_; rintro e w2 ⟨rfl, hh2, hb2⟩
        have HH2 := Lib.hid hh2
        clear hh2
        go_wp2
        go_roundw
        case rel => exact ⟨k + 1, by omega, by go_num, hB.trans hb2, HH2⟩
        case measure => simp [intOf]; omega
      · rw [upC_no h1] at W
        have HW := Lib.hid W
        clear W
        by_cases h2 : 97 ≤ s[k].toNat
        · have d1 : decide (97 ≤ (s[k].toNat : Int)) = true := decide_eq_true (by omega)
          have d2 : decide ((s[k].toNat : Int) ≤ 122) = false := decide_eq_false (by omega)
          clear h1
          go_wp2_with fail
          refine HW.out.mono ?_; rintro e w2 ⟨rfl, hh2, hb2⟩
          have HH2 := Lib.hid hh2
          clear hh2
          go_wp2
          go_roundw
          case rel => exact ⟨k + 1, by omega, by go_num, hB.trans hb2, HH2⟩
          case measure => simp [intOf]; omega
        · have d1 : decide (97 ≤ (s[k].toNat : Int)) = false := decide_eq_false (by omega)
          clear h1 h2
          go_wp2_with fail
          refine HW.out.mono ?_; rintro e w2 ⟨rfl, hh2, hb2⟩
          have HH2 := Lib.hid hh2
          clear hh2
          go_wp2
          go_roundw
          case rel => exact ⟨k + 1, by omega, by go_num, hB.trans hb2, HH2⟩
          case measure => simp [intOf]; omega
    · have HT : Hid (s.data.toList.take k = s.data.toList) := Lib.hid (List.take_of_length_le (by rw [← list_len]; omega))
      have W := bString w.heap.size _ _ HU.out hB.size
      rw [HT.out] at W
      have HW := Lib.hid W
      clear W
      go_wp2_with fail
      refine HW.out.mono ?_; rintro e w2 ⟨rfl, hb2⟩
      go_wp2
      go_ret
      exact ⟨rfl, hB.trans hb2⟩

/-- What package lex asks of the world: the library's variables as they are laid; a number in the one that a search reads. -/
structure LexLib (w : World) : Prop where
  lib : LibIs w
  max : ∃ m, w.cell? ⟨1, 0, none⟩ = some (.int .i64 m)
theorem LexLib.below {w w' : World} (h : LexLib w) (hb : Below w.heap.size w w') : LexLib w' :=
  ⟨h.lib.below hb, by obtain ⟨m, hm⟩ := h.max; exact ⟨m, cell_later hb hm⟩⟩
theorem replK (l : List UInt8) : Lib.replaceK [34] [34, 34] (l.count 34) l = l.flatMap quC := by
  induction l with
  | nil => rfl
  | cons c l ih =>
    by_cases hc : c = 34
    · subst hc
      have h0 : Lib.index (34 :: l) [34] = ((0 : Nat) : Int) := by simp [Lib.index, List.isPrefixOf]
      rw [List.count_cons_self, Lib.replaceK_hit _ _ _ _ 0 h0]
      simp only [List.take_zero, List.nil_append, List.length_cons, List.length_nil, Nat.zero_add, List.drop_succ_cons, List.drop_zero]
      rw [ih, List.flatMap_cons]; rfl
    · have e : quC c = [c] := if_neg hc
      rw [List.count_cons_of_ne hc, List.flatMap_cons, e, ← ih]
      cases hk : l.count 34 with
      | zero => rfl
      | succ k =>
        obtain ⟨i, hi⟩ := Lib.index_of_count (s := l) (old := [34]) (by rw [Lib.count_one]; omega)
        have h1 : Lib.index (c :: l) [34] = ((i + 1 : Nat) : Int) := by
          have hp : ([34] : List UInt8).isPrefixOf (c :: l) = false := by
            have : ((34 : UInt8) == c) = false := beq_eq_false_iff_ne.2 (fun e => hc e.symm)
            simp [List.isPrefixOf, this]
          rw [Lib.index, hp, hi, if_neg Bool.false_ne_true, if_neg (by simp)]
          omega
        rw [Lib.replaceK_hit _ _ _ _ _ h1, Lib.replaceK_hit _ _ _ _ _ hi]
        simp only [List.take_succ_cons, List.drop_succ_cons, List.length_cons, List.length_nil, List.cons_append, Nat.zero_add, List.nil_append]
theorem repl_quote (l : List UInt8) : Lib.replaceAll l [34] [34, 34] = l.flatMap quC := by
  unfold Lib.replaceAll Lib.replace
  rw [if_neg (by decide)]
  have : Lib.replaceNum l [34] (-1) = l.count 34 := by unfold Lib.replaceNum; rw [if_pos (Or.inl (by decide)), Lib.count_one]
  rw [this, replK]
theorem flat_len (l : List UInt8) : (l.flatMap quC).length ≤ 2 * l.length := by
  have := quB_len l
  unfold quB at this
  simp only [List.length_cons] at this
  omega

end Go.Proofs.YtkdgiadpmfpjnaaGreatDoor.LexC
