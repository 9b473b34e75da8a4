/-
  Contracts of package lex: Upper, Quote.
-/
import Derived.Test.YtccigjelbnjcoaaGreatDoorPUnionLexA
import Derived.Test.YtccigjelbnjcoaaGreatDoorPUnionNumG
import Derived.Test.YtccigjelbnjcoaaGreatDoorPUnionLexS
import Derived.Test.YtccigjelbnjcoaaGreatDoorPUnionShelf
import Derived.Test.YtccigjelbnjcoaaGreatDoorPUnionNumD
import Derived.Test.YtccigjelbnjcoaaGreatDoorPUnionLexC
import Derived.Test.YtccigjelbnjcoaaGreatDoorPUnionLexZ2
import Derived.Lib.Replace
import Derived.Deep.QuietTactic
import Derived.BigQuiet
namespace Go.Proofs.YtccigjelbnjcoaaGreatDoor.LexC
set_option linter.unusedVariables false
open Go.RowKit Go.Proofs.YtccigjelbnjcoaaGreatDoor.NumC
abbrev Holds (B : Nat) (l : List UInt8) (w : World) : Prop := Lib.IsBuilder 117 5 B B (Lib.byteCells l) w
theorem holds_new (w : World) : Holds w.heap.size [] (w.alloc (.cells #[.pointer none, .slice none 0 0] 117)) := Lib.fresh_isBuilder _ _ w
theorem one_cell (l : List UInt8) (c : UInt8) : Lib.byteCells l ++ [Value.int .u8 (c.toNat : Int)] = Lib.byteCells (l ++ [c]) := by rw [Lib.byteCells_append]; rfl
theorem writeByte (B : Nat) (l : List UInt8) (c : UInt8) (w : World) (h : Holds B l w) (hl : l.length ≤ 2000000) (hB : B ≤ w.heap.size) :
    Calls Tryz.prog 92 #[.pointer (some ⟨B, 0, none⟩), .int .u8 (c.toNat : Int)] w fun e w' => e = .returned .nilIface ∧ Holds B (l ++ [c]) w' ∧ Below B w w' :=
  (Tryz.Builder_WriteByte B B _ _ _ h (by rw [Lib.byteCells_length]; omega) hB).mono fun e w' ⟨h1, h2, h3⟩ => ⟨h1, by rw [one_cell] at h2; exact Or.inr h2, h3⟩
theorem bString (B : Nat) (l : List UInt8) (w : World) (h : Holds B l w) (hB : B ≤ w.heap.size) :
    Calls Tryz.prog 91 #[.pointer (some ⟨B, 0, none⟩)] w fun e w' => e = .returned (.string (str l)) ∧ Below B w w' := Tryz.Builder_String_any B B l w h hB
theorem bGrow (B n : Nat) (w : World) (hb : w.heap[B]? = some (.cells #[.pointer none, .slice none 0 0] 117 (0, 0))) (hB : B ≤ w.heap.size) (hn : n ≤ 1000000) :
    Calls Tryz.prog 95 #[.pointer (some ⟨B, 0, none⟩), .int .i64 n] w fun e w' => e = .returned (.tuple #[]) ∧ Holds B [] w' ∧ Below B w w' :=
  (Tryz.Builder_Grow_fresh B B n w (Nat.le_refl _) hb hB (by omega)).mono fun e w' ⟨h1, h2, h3⟩ => ⟨h1, Or.inr h2, h3⟩
theorem upL_snoc (l : List UInt8) (c : UInt8) : upL (l ++ [c]) = upL l ++ [upC c] := by unfold upL; rw [List.map_append]; rfl
set_option maxRecDepth 100000 in
set_option maxHeartbeats 2000000 in
theorem upper (s : ByteArray) (w : World) (hs : s.size ≤ 1000000) :
    Calls Tryz.prog 75 #[.string s] w fun e w' => e = .returned (.string (str (upL s.data.toList))) ∧ Below w.heap.size w w' := by
  have hb0 : (w.alloc (.cells #[.pointer none, .slice none 0 0] 117)).heap[w.heap.size]? = some (.cells #[.pointer none, .slice none 0 0] 117 (0, 0)) := heap_alloc_new _ _
  have hB0 : Below w.heap.size w (w.alloc (.cells #[.pointer none, .slice none 0 0] 117)) := (Below.refl _ _).alloc (Nat.le_refl _) _
  have HB0 := Lib.hid hb0
  clear hb0
  go_enter Tryz.func75, Tryz.ntmps75
  go_wp2_with fail
  refine (bGrow w.heap.size s.size _ HB0.out hB0.size hs).mono ?_; rintro e w1 ⟨rfl, hh, hb1⟩
  have hB1 := hB0.trans hb1
  have HH := Lib.hid hh
  clear hh HB0
  go_wp2_with fail
  go_loopw [11] (fun a wr => ∃ k : Nat, k ≤ s.size ∧ a = .int .i64 k ∧ Below w.heap.size w wr ∧ Hid (Holds w.heap.size (upL (s.data.toList.take k)) wr)) (fun a _ => s.size - (intOf a).toNat)
  case atStart => exact ⟨0, Nat.zero_le _, rfl, hB1, HH⟩
  case round =>
    obtain ⟨k, hk, rfl, hB, HU⟩ := hrel
    have hlen : (upL (s.data.toList.take k)).length ≤ 2000000 := by rw [upL_len]; have := List.length_take_le k s.data.toList; omega
    by_cases hlt : k < s.size
    · have HT : Hid (upL (s.data.toList.take k) ++ [upC s[k]] = upL (s.data.toList.take (k + 1))) := Lib.hid (by rw [take_snoc s k hlt, upL_snoc])
      have W := writeByte w.heap.size _ (upC s[k]) _ HU.out hlen hB.size
      rw [HT.out] at W
      by_cases h1 : 97 ≤ s[k].toNat ∧ s[k].toNat ≤ 122
      · have e1 : ((upC s[k]).toNat : Int) = (s[k].toNat : Int) - 32 := by rw [upC_up h1, sub32 h1.1]; omega
        have d1 : decide (97 ≤ (s[k].toNat : Int)) = true := decide_eq_true (by omega)
        have d2 : decide ((s[k].toNat : Int) ≤ 122) = true := decide_eq_true (by omega)
        have d3 : 32 ≤ (s[k].toNat : Int) := by omega
        have d4 : (s[k].toNat : Int) ≤ 255 := by omega
        rw [e1] at W
        have HW := Lib.hid W
        clear h1 e1 W
        go_wp2_with fail
        refine HW.out.mono ?_; rintro e w2 ⟨rfl, hh2, hb2⟩
        have HH2 := Lib.hid hh2
        clear hh2
        go_wp2
        go_roundw
        case rel => exact ⟨k + 1, by omega, by go_num, hB.trans hb2, HH2⟩
        case measure => simp [intOf]; omega
      · rw [upC_no h1] at W
        have HW := Lib.hid W
        clear W
        by_cases h2 : 97 ≤ s[k].toNat
        · have d1 : decide (97 ≤ (s[k].toNat : Int)) = true := decide_eq_true (by omega)
          have d2 : decide ((s[k].toNat : Int) ≤ 122) = false := decide_eq_false (by omega)
          clear h1
          go_wp2_with fail
          refine HW.out.mono ?_; rintro e w2 ⟨rfl, hh2, hb2⟩
          have HH2 := Lib.hid hh2
          clear hh2
          go_wp2
          go_roundw
          case rel => exact ⟨k + 1, by omega, by go_num, hB.trans hb2, HH2⟩
          case measure => simp [intOf]; omega
        · have d1 : decide (97 ≤ (s[k].toNat : Int)) = false := decide_eq_false (by omega)
          clear h1 h2
          go_wp2_with fail
          refine HW.out.mono ?_; rintro e w2 ⟨rfl, hh2, hb2⟩
          have HH2 := Lib.hid hh2
          clear hh2
          go_wp2
          go_roundw
          case rel => exact ⟨k + 1, by omega, by go_num, hB.trans hb2, HH2⟩
          case measure => simp [intOf]; omega
    · have HT : Hid (s.data.toList.take k = s.data.toList) := Lib.hid (List.take_of_length_le (by rw [← list_len]; omega))
      have W := bString w.heap.size _ _ HU.out hB.size
      rw [HT.out] at W
      have HW := Lib.hid W
      clear W
      go_wp2_with fail
      refine HW.out.mono ?_; rintro e w2 ⟨rfl, hb2⟩
      go_wp2
      go_ret
      exact ⟨rfl, hB.trans hb2⟩
structure LexLib (w : World) : Prop where
  lib : LibIs w
  max : ∃ m, w.cell? ⟨1, 0, none⟩ = some (.int .i64 m)
theorem LexLib.below {w w' : World} (h : LexLib w) (hb : Below w.heap.size w w') : LexLib w' :=
  ⟨h.lib.below hb, by obtain ⟨m, hm⟩ := h.max; exact ⟨m, cell_later hb hm⟩⟩
end Go.Proofs.YtccigjelbnjcoaaGreatDoor.LexC
namespace Go.Proofs.YtccigjelbnjcoaaGreatDoor.LexC
set_option linter.unusedVariables false
open Go.RowKit Go.Proofs.YtccigjelbnjcoaaGreatDoor.NumC
structure Box (w : World) (b : Nat) : Prop where
  at_ : w.heap[b]? = some (.cells #[.int .i64 0, .int .i64 0, .string { data := #[] }, .int .i64 0] 80 (0, 0))
theorem Box.new (w : World) : Box (w.alloc (.cells #[.int .i64 0, .int .i64 0, .string { data := #[] }, .int .i64 0] 80)) w.heap.size := ⟨heap_alloc_new _ _⟩
theorem Box.lt {w : World} {b : Nat} (h : Box w b) : b < w.heap.size := (Array.getElem?_eq_some_iff.1 h.at_).1
theorem Box.below {w w' : World} {b B : Nat} (h : Box w b) (hb : Below B w w') (hB : b < B) : Box w' b := ⟨(hb.block b hB).trans h.at_⟩
theorem Box.cells {w : World} {b : Nat} (h : Box w b) : w.cell? ⟨b, 0, none⟩ = some (.int .i64 0) ∧ w.cell? ⟨b, 1, none⟩ = some (.int .i64 0) ∧ w.cell? ⟨b, 2, none⟩ = some (.string { data := #[] }) ∧ w.cell? ⟨b, 3, none⟩ = some (.int .i64 0) ∧
    w.frozen? ⟨b, 0, none⟩ = false ∧ w.frozen? ⟨b, 1, none⟩ = false ∧ w.frozen? ⟨b, 2, none⟩ = false ∧ w.frozen? ⟨b, 3, none⟩ = false := by
  have h1 := h.at_
  refine ⟨?_, ?_, ?_, ?_, ?_, ?_, ?_, ?_⟩ <;> simp [World.cell?, World.frozen?, h1]
set_option maxRecDepth 100000 in
set_option maxHeartbeats 2000000 in
theorem firstText (s : ByteArray) (w : World) (hs : s.size ≤ 1000000) (h0 : 0 < s.size) :
    Calls Tryz.prog 70 #[.string s] w fun e w' => e = .returned (.tuple #[tokV (textR s.data.toList 0).1, .int .i64 (textR s.data.toList 0).2]) ∧ Below w.heap.size w w' := by
  have hx : (w.alloc (.cells #[.int .i64 0, .int .i64 0, .string { data := #[] }, .int .i64 0] 80)).heap.size = w.heap.size + 1 := heap_one _ _
  have HX := Box.new w
  have hB0 : Below w.heap.size w (w.alloc (.cells #[.int .i64 0, .int .i64 0, .string { data := #[] }, .int .i64 0] 80)) := (Below.refl _ _).alloc (Nat.le_refl _) _
  have hh := holds_new (w.alloc (.cells #[.int .i64 0, .int .i64 0, .string { data := #[] }, .int .i64 0] 80))
  have hb1 : Below (w.heap.size + 1) (w.alloc (.cells #[.int .i64 0, .int .i64 0, .string { data := #[] }, .int .i64 0] 80)) ((w.alloc (.cells #[.int .i64 0, .int .i64 0, .string { data := #[] }, .int .i64 0] 80)).alloc (.cells #[.pointer none, .slice none 0 0] 117)) := (Below.refl _ _).alloc (by omega) _
  rw [hx] at hh
  have HX1 := Lib.hid (HX.below hb1 (Nat.lt_succ_self _))
  have hB1 := hB0.trans (hb1.mono (Nat.le_succ _))
  have HH := Lib.hid hh
  clear hx HX hh hb1 hB0
  go_enter Tryz.func70, Tryz.ntmps70
  go_wp2_with fail
  go_loopw [5] (fun a wr => ∃ (n : Nat) (acc : List UInt8), 1 ≤ n ∧ n ≤ s.size + 1 ∧ a = .int .i64 n ∧ acc.length ≤ n ∧ Below w.heap.size w wr ∧ Hid (Box wr w.heap.size) ∧ Hid (Holds (w.heap.size + 1) acc wr) ∧ Hid (Txt s.data.toList 0 n acc)) (fun a _ => s.size + 1 - (intOf a).toNat)
  case atStart => exact ⟨1, [], Nat.le_refl _, by omega, rfl, by simp, hB1, HX1, HH, Lib.hid (Txt.nil _ _)⟩
  case round =>
    obtain ⟨n, acc, hin, hn, rfl, hac, hB, HX, HH, HT⟩ := hrel
    have hlt2 := HX.out.lt
    by_cases hlt : n < s.size
    · have hll : n < s.data.toList.length := by rw [← list_len]; exact hlt
      by_cases hc : s[n].toNat = 34
      · have h34 : s.data.toList[n] = 34 := UInt8.toNat_inj.1 hc
        have c1 : ((s[n].toNat : Int) == 34) = true := by rw [hc]; rfl
        by_cases h2 : n + 1 < s.size
        · have hl2 : n + 1 < s.data.toList.length := by rw [← list_len]; exact h2
          by_cases hd : s[n + 1].toNat = 34
          · have h342 : s.data.toList[n + 1] = 34 := UInt8.toNat_inj.1 hd
            have HN := Lib.hid (HT.out.two (by omega) hl2 h34 h342)
            have c2 : ((s[n + 1].toNat : Int) == 34) = true := by rw [hd]; rfl
            have c3 : ((s[n + 1].toNat : Int) != 34) = false := by rw [bne, c2]; rfl
            have W := writeByte (w.heap.size + 1) _ s[n + 1] _ HH.out (by omega) (by omega)
            rw [show s[n + 1] = 34 from h342] at W
            have HW := Lib.hid W
            have c4 : ((s[n + 1].toNat : Int)) = (((34 : UInt8).toNat : Nat) : Int) := by rw [hd]; rfl
            have HW4 := Lib.hid c4
            clear hc h34 hd h342 W c4
            go_wp2_with fail
            rw [HW4.out]
            refine HW.out.mono ?_; rintro e w2 ⟨rfl, hh2, hb2⟩
            have HX2 := Lib.hid (HX.out.below hb2 (Nat.lt_succ_self _))
            have HH2 := Lib.hid hh2
            clear hh2
            go_wp2
            go_roundw
            case rel => exact ⟨n + 2, acc ++ [34], by omega, by omega, by go_num, by simp; omega, hB.trans (hb2.mono (Nat.le_succ _)), HX2, HH2, HN⟩
            case measure => simp [intOf]; omega
          · have c2 : ((s[n + 1].toNat : Int) == 34) = false := beq_eq_false_iff_ne.2 (by omega)
            have c3 : ((s[n + 1].toNat : Int) != 34) = true := by rw [bne, c2]; rfl
            have E := Lib.hid (HT.out.end_ (by omega) hll h34 (fun h e => hd (by have : s[n + 1] = 34 := e; rw [this]; rfl)))
            have W := Lib.hid (bString (w.heap.size + 1) _ _ HH.out (by omega))
            clear hc h34 hd
            go_wp2_with fail
            refine W.out.mono ?_; rintro e w2 ⟨rfl, hb2⟩
            have HX2 := HX.out.below hb2 (Nat.lt_succ_self _)
            have hBB := hB.trans (hb2.mono (Nat.le_succ _))
            have hlt3 := HX2.lt
            obtain ⟨f0, f1, f2, f3, z0, z1, z2, z3⟩ := HX2.cells
            go_wp2
            refine bodyPost_ret (v := .tuple #[.agg #[.int .i64 2, .int .i64 0, .string (str acc), .int .i64 0], .int .i64 ((n : Int) + 1)]) (by simp [results, Tryz.results70, go_sem, f0, f1, f2, f3]) rfl ⟨tok_eq (m := (n : Int) + 1) (t := ⟨2, 0, str acc, 0⟩) (by rw [E.out]; rfl) (by rw [E.out]; simp), ?_⟩
            repeat (first | with_reducible exact hBB | with_reducible refine Below.setCell ?_ (by first | omega | (simp <;> omega)) _ | with_reducible refine Below.alloc ?_ (by first | omega | (simp <;> omega)) _)
        · have E := Lib.hid (HT.out.end_ (by omega) hll h34 (fun h e => h2 (by rw [list_len]; exact h)))
          have c5 : ((n : Int) + 1 == s.size) = true := beq_iff_eq.2 (by omega)
          have W := Lib.hid (bString (w.heap.size + 1) _ _ HH.out (by omega))
          clear hc h34
          go_wp2_with fail
          refine W.out.mono ?_; rintro e w2 ⟨rfl, hb2⟩
          have HX2 := HX.out.below hb2 (Nat.lt_succ_self _)
          have hBB := hB.trans (hb2.mono (Nat.le_succ _))
          have hlt3 := HX2.lt
          obtain ⟨f0, f1, f2, f3, z0, z1, z2, z3⟩ := HX2.cells
          go_wp2
          refine bodyPost_ret (v := .tuple #[.agg #[.int .i64 2, .int .i64 0, .string (str acc), .int .i64 0], .int .i64 ((n : Int) + 1)]) (by simp [results, Tryz.results70, go_sem, f0, f1, f2, f3]) rfl ⟨tok_eq (m := (n : Int) + 1) (t := ⟨2, 0, str acc, 0⟩) (by rw [E.out]; rfl) (by rw [E.out]; simp), ?_⟩
          repeat (first | with_reducible exact hBB | with_reducible refine Below.setCell ?_ (by first | omega | (simp <;> omega)) _ | with_reducible refine Below.alloc ?_ (by first | omega | (simp <;> omega)) _)
      · have h34 : s.data.toList[n] ≠ 34 := fun e => hc (by have : s[n] = 34 := e; rw [this]; rfl)
        have HN : Hid (Txt s.data.toList 0 (n + 1) (acc ++ [s[n]])) := Lib.hid (HT.out.more (by omega) hll h34)
        have c1 : ((s[n].toNat : Int) == 34) = false := beq_eq_false_iff_ne.2 (by omega)
        have HW := Lib.hid (writeByte (w.heap.size + 1) _ s[n] _ HH.out (by omega) (by omega))
        clear hc h34
        go_wp2_with fail
        refine HW.out.mono ?_; rintro e w2 ⟨rfl, hh2, hb2⟩
        have HX2 := Lib.hid (HX.out.below hb2 (Nat.lt_succ_self _))
        have HH2 := Lib.hid hh2
        clear hh2
        go_wp2
        go_roundw
        case rel => exact ⟨n + 1, acc ++ [s[n]], by omega, by omega, by go_num, by simp; omega, hB.trans (hb2.mono (Nat.le_succ _)), HX2, HH2, HN⟩
        case measure => simp [intOf]; omega
    · have E := Lib.hid (HT.out.no (by rw [← list_len]; omega))
      have hBB := hB
      obtain ⟨f0, f1, f2, f3, z0, z1, z2, z3⟩ := HX.out.cells
      go_wp2
      refine bodyPost_ret (v := .tuple #[.agg #[.int .i64 0, .int .i64 0, .string { data := #[] }, .int .i64 0], .int .i64 0]) (by simp [results, Tryz.results70, go_sem, f0, f1, f2, f3]) rfl ⟨by rw [E.out]; rfl, ?_⟩
      repeat (first | with_reducible exact hBB | with_reducible refine Below.setCell ?_ (by first | omega | (simp <;> omega)) _ | with_reducible refine Below.alloc ?_ (by first | omega | (simp <;> omega)) _)
end Go.Proofs.YtccigjelbnjcoaaGreatDoor.LexC
namespace Go.Proofs.YtccigjelbnjcoaaGreatDoor.LexC
set_option linter.unusedVariables false
open Go.RowKit Go.Proofs.YtccigjelbnjcoaaGreatDoor.NumC
def bare (l : List UInt8) : List UInt8 := (l.take (l.length - 1)).dropWhile (· == 48) ++ l.drop (l.length - 1)
theorem val_zero (c : UInt8) (l : List UInt8) (h : c = 48) : val (c :: l) = val l := by subst h; rfl
theorem digits_spell : ∀ (k : Nat) (l : List UInt8), l.length ≤ k → l ≠ [] → (∀ c ∈ l, digB c = true) → (l.length = 1 ∨ ∃ c r, l = c :: r ∧ c ≠ 48) → l = Lib.decDigits (val l) ∧ (l.length ≠ 1 → 1 ≤ val l) := by
  intro k
  induction k with
  | zero => intro l h1 h2; exact absurd (List.length_eq_zero_iff.1 (by omega)) h2
  | succ k ih =>
    intro l h1 h2 h3 h4
    obtain ⟨t, c, rfl⟩ : ∃ t c, l = t ++ [c] := ⟨l.dropLast, l.getLast h2, (List.dropLast_concat_getLast h2).symm⟩
    have hc := digB_iff.1 (h3 c (by simp))
    have hv : val (t ++ [c]) = val t * 10 + (c.toNat - 48) := val_snoc t c
    by_cases ht : t = []
    · subst ht
      have hv0 : val ([] ++ [c]) = c.toNat - 48 := by rw [hv]; show 0 * 10 + _ = _; omega
      refine ⟨?_, fun h => absurd rfl h⟩
      rw [hv0, Lib.decDigits, dif_pos (by omega), show 48 + (c.toNat - 48) = c.toNat from by omega, UInt8.ofNat_toNat]; rfl
    · have hlen : (t ++ [c]).length ≠ 1 := by
        have := List.length_pos_iff.2 ht
        simp only [List.length_append, List.length_cons, List.length_nil]; omega
      obtain ⟨d, r, e, hd⟩ := h4.resolve_left hlen
      obtain ⟨r', rfl⟩ : ∃ r', t = d :: r' := by
        cases t with
        | nil => exact absurd rfl ht
        | cons x y => exact ⟨y, by injection e with e1 e2; rw [e1]⟩
      have i1 := ih (d :: r') (by simp at h1 ⊢; omega) ht (fun x hx => h3 x (by simp at hx ⊢; rcases hx with h | h <;> simp [h])) (Or.inr ⟨d, r', rfl, hd⟩)
      have hpos : 1 ≤ val (d :: r') := by
        by_cases hr : (d :: r').length = 1
        · have : r' = [] := List.length_eq_zero_iff.1 (by simpa using hr)
          subst this
          have h5 := digB_iff.1 (h3 d (by simp))
          have : d.toNat ≠ 48 := fun e => hd (UInt8.toNat_inj.1 e)
          show 1 ≤ 0 * 10 + (d.toNat - 48); omega
        · exact i1.2 hr
      refine ⟨?_, fun _ => by rw [hv]; omega⟩
      conv => lhs; rw [i1.1]
      rw [hv]
      conv => rhs; rw [Lib.decDigits]
      rw [dif_neg (by omega), show (val (d :: r') * 10 + (c.toNat - 48)) / 10 = val (d :: r') from by omega, show (val (d :: r') * 10 + (c.toNat - 48)) % 10 = c.toNat - 48 from by omega, show 48 + (c.toNat - 48) = c.toNat from by omega, UInt8.ofNat_toNat]
theorem bare_facts (l : List UInt8) (h : l ≠ []) (hd : ∀ c ∈ l, digB c = true) : bare l = Lib.decDigits (val l) := by
  have key : ∀ (t : List UInt8) (c : UInt8), (∀ x ∈ t ++ [c], digB x = true) → val (t.dropWhile (· == 48) ++ [c]) = val (t ++ [c]) ∧ (t.dropWhile (· == 48) ++ [c]) = Lib.decDigits (val (t.dropWhile (· == 48) ++ [c])) := by
    intro t
    induction t with
    | nil => intro c hx; exact ⟨rfl, (digits_spell _ _ (Nat.le_refl _) (by simp) (by simpa using hx) (Or.inl rfl)).1⟩
    | cons d t ih =>
      intro c hx
      by_cases h48 : d = 48
      · have i := ih c (fun x h => hx x (by simp at h ⊢; rcases h with h | h <;> simp [h]))
        rw [List.dropWhile_cons_of_pos (by simp [h48]), i.1]
        refine ⟨?_, by rw [← i.1]; exact i.2⟩
        rw [List.cons_append, val_zero d _ h48]
      · rw [List.dropWhile_cons_of_neg (by simp [h48])]
        exact ⟨rfl, (digits_spell _ _ (Nat.le_refl _) (by simp) hx (Or.inr ⟨d, t ++ [c], rfl, h48⟩)).1⟩
  have e : l = l.take (l.length - 1) ++ [l.getLast h] := by rw [← List.dropLast_eq_take]; exact (List.dropLast_concat_getLast h).symm
  have e2 : l.drop (l.length - 1) = [l.getLast h] := by
    have h1 : l.length - 1 < l.length := by have := List.length_pos_iff.2 h; omega
    rw [List.drop_eq_getElem_cons h1, List.drop_eq_nil_of_le (by omega), List.getLast_eq_getElem]
  have k := key (l.take (l.length - 1)) (l.getLast h) (by rw [← e]; exact hd)
  unfold bare
  rw [e2, k.2, k.1, ← e]
theorem parse_in {l : List UInt8} (h : l ≠ []) (hd : ∀ c ∈ l, digB c = true) (hv : numV l < 9223372036854775808) : parseN (bare l) = numV l ∧ parseB (bare l) = true := by
  rw [bare_facts l h hd]
  have hv2 : val l < 9223372036854775808 := hv
  refine parse_some (m := ((numV l : Nat) : Int)) (by unfold I64; omega) ?_
  unfold Lib.itoa
  rw [if_neg (by omega)]; rfl
theorem parse_out {l : List UInt8} (h : l ≠ []) (hd : ∀ c ∈ l, digB c = true) (hv : ¬ numV l < 9223372036854775808) : parseN (bare l) = 0 ∧ parseB (bare l) = false := by
  rw [bare_facts l h hd]
  have hv2 : ¬ val l < 9223372036854775808 := hv
  refine parse_none fun m hm e => ?_
  unfold Lib.itoa at e
  split at e
  · have h1 := decDigits_all (val l) 45 (by rw [← e]; simp)
    have : (45 : UInt8).toNat = 45 := rfl
    omega
  · have := congrArg val e
    rw [val_decDigits, val_decDigits] at this
    unfold I64 at hm; omega
theorem run_ne {c : UInt8} {l : List UInt8} (h : digB c = true) : (c :: l).takeWhile digB ≠ [] := by rw [List.takeWhile_cons, h]; simp
theorem run_all (p : UInt8 → Bool) (l : List UInt8) : ∀ c ∈ l.takeWhile p, p c = true := by
  induction l with
  | nil => intro c h; simp at h
  | cons d l ih =>
    intro c h
    rw [List.takeWhile_cons] at h
    split at h
    · rename_i hd
      rcases List.mem_cons.1 h with rfl | h
      · exact hd
      · exact ih c h
    · simp at h
theorem run_take (p : UInt8 → Bool) (l : List UInt8) : l.takeWhile p = l.take (l.takeWhile p).length := by
  induction l with
  | nil => rfl
  | cons d l ih =>
    rw [List.takeWhile_cons]
    split
    · rw [List.length_cons, List.take_succ_cons, ← ih]
    · rfl
set_option maxRecDepth 100000 in
set_option maxHeartbeats 2000000 in
theorem firstInt (s : ByteArray) (w : World) (hs : s.size ≤ 1000000) (h0 : 0 < s.size) (hd : digB s[0] = true) (hl : LexLib w) :
    Calls Tryz.prog 72 #[.string s] w fun e w' => e = .returned (.tuple #[tokV (numR s.data.toList 0).1, .int .i64 (numR s.data.toList 0).2]) ∧ Below w.heap.size w w' := by
  have hcons : s.data.toList = s[0] :: s.data.toList.drop 1 := by
    have := drop_cons (l := s.data.toList) (i := 0) (by rw [← list_len]; exact h0)
    rwa [List.drop_zero] at this
  have hne : s.data.toList.takeWhile digB ≠ [] := by rw [hcons]; exact run_ne hd
  have hall := run_all digB s.data.toList
  obtain ⟨m, hm⟩ : ∃ m, (s.data.toList.takeWhile digB).length = m + 1 := ⟨(s.data.toList.takeWhile digB).length - 1, by have := List.length_pos_iff.2 hne; omega⟩
  have hms : m + 1 ≤ s.size := by rw [← hm, list_len]; exact (List.takeWhile_sublist digB).length_le
  have htk := run_take digB s.data.toList
  rw [hm] at htk
  have hx1 : (s.extract 0 m).data.toList = (s.data.toList.takeWhile digB).take ((s.data.toList.takeWhile digB).length - 1) := by
    rw [Lib.extract_data, htk, List.drop_zero, List.length_take, List.take_take]
    congr 1; have := list_len s; omega
  have hx2 : (s.extract m (m + 1)).data.toList = (s.data.toList.takeWhile digB).drop ((s.data.toList.takeWhile digB).length - 1) := by
    rw [Lib.extract_data, htk, List.length_take, List.drop_take]
    have := list_len s
    rw [show min (m + 1) s.data.toList.length - 1 = m from by omega]
  have hbare : Hid (str ((s.extract 0 m).data.toList.dropWhile (· == 48)) ++ s.extract m (m + 1) = str (bare (s.data.toList.takeWhile digB))) := Lib.hid (by
    unfold bare
    rw [← hx1, ← hx2, ← str_app]; rfl)
  have hsz : (str ((s.extract 0 m).data.toList.dropWhile (· == 48))).size + (s.extract m (m + 1)).size ≤ 1000000 := by
    have h1 := (List.dropWhile_sublist (· == (48 : UInt8)) (l := (s.extract 0 m).data.toList)).length_le
    rw [str_size, ByteArray.size_extract]
    have h2 := list_len (s.extract 0 m)
    rw [ByteArray.size_extract] at h2
    omega
  have HX := Box.new w
  have hB0 : Below w.heap.size w (w.alloc (.cells #[.int .i64 0, .int .i64 0, .string { data := #[] }, .int .i64 0] 80)) := (Below.refl _ _).alloc (Nat.le_refl _) _
  have hl1 := hl.lib.below hB0
  have A1 : ∀ W : World, (Op.stringOp .add (ByteArray.mk (Lib.trimLeftB (s.extract 0 m).data.toList 48).toArray) (s.extract m (m + 1))).run Tryz.prog W = .ok (.string (str (bare (s.data.toList.takeWhile digB)))) W := fun W => by
    rw [show (ByteArray.mk (Lib.trimLeftB (s.extract 0 m).data.toList 48).toArray) = str ((s.extract 0 m).data.toList.dropWhile (· == 48)) from rfl, run_string_add_sum W _ _ (by omega), hbare.out]
  have hcount := countDigit s (w.alloc (.cells #[.int .i64 0, .int .i64 0, .string { data := #[] }, .int .i64 0] 80)) hs
  rw [hm] at hcount
  have HC := Lib.hid hcount
  have hmi : ((m + 1 : Nat) : Int) = (m : Int) + 1 := by omega
  have HT : Hid (∀ W : World, Calls Tryz.prog 94 #[.string (s.extract 0 m), .string { data := #[48] }] W fun e w' => e = .returned (.string { data := (Lib.trimLeftB (s.extract 0 m).data.toList 48).toArray }) ∧ W = w') := Lib.hid (fun W => (Tryz.strings_TrimLeft_one (s.extract 0 m) 48 (by decide) W).mono fun e w' ⟨h1, h2⟩ => ⟨h1, h2.symm⟩)
  have hlt2 := HX.lt
  have hms1 : m ≤ s.size := by omega
  have hms3 : (m : Int) ≤ (m : Int) + 1 := by omega
  have hms4 : (m : Int) + 1 ≤ (s.size : Int) := by omega
  by_cases hv : numV (s.data.toList.takeWhile digB) < 9223372036854775808
  · have hp := parse_in hne hall hv
    have E : Hid (numR s.data.toList 0 = (⟨1, numV (s.data.toList.takeWhile digB), nob, 0⟩, ((m : Int) + 1))) := Lib.hid (by unfold numR; rw [List.drop_zero, if_pos hv, hm, hmi]; rfl)
    have hpar := fun W (h : LibIs W) => parse (str (bare (s.data.toList.takeWhile digB))) W h
    rw [show (str (bare (s.data.toList.takeWhile digB))).data.toList = bare (s.data.toList.takeWhile digB) from rfl, hp.1, hp.2] at hpar
    have HP := Lib.hid hpar
    clear hpar hp hx1 hx2 htk hne hall hcount hsz hm hcons
    generalize numV (s.data.toList.takeWhile digB) = U at *
    generalize str (bare (s.data.toList.takeWhile digB)) = T at *
    generalize Lib.trimLeftB (s.extract 0 m).data.toList 48 = TL at *
    go_enter Tryz.func72, Tryz.ntmps72
    go_wp2_with fail
    refine HC.out.mono ?_; rw [hmi]; rintro e w1 ⟨rfl, rfl⟩
    generalize hW : (w.alloc (.cells #[.int .i64 0, .int .i64 0, .string { data := #[] }, .int .i64 0] 80)) = W at *
    clear hW
    have LG : ∀ u : Gr W, LibIs u.now := fun u => hl1.below u.below
    go_wp2_with fail
    refine region_grown (by kernel_rfl) (by kernel_rfl) ?_
    repeat (go_big_quiet_step (first
      | (go_at_call 94; exact grown_same (HT.out _))
      | (go_at_call 93; exact grown_of (HP.out _ (LG _)))))
    refine wpQuiet_nil ?_
    intro w3 hw3; obtain ⟨u, rfl⟩ := hw3
    have HX2 := HX.below u.below hlt2
    have hBB := hB0.trans (u.below.mono hB0.size)
    have hlt3 := HX2.lt
    obtain ⟨f0, f1, f2, f3, z0, z1, z2, z3⟩ := HX2.cells
    go_wp2
    refine bodyPost_ret (v := .tuple #[.agg #[.int .i64 1, .int .i64 U, .string { data := #[] }, .int .i64 0], .int .i64 ((m : Int) + 1)]) (by simp [results, Tryz.results72, go_sem, f0, f1, f2, f3]) rfl ⟨by rw [E.out]; rfl, ?_⟩
    repeat (first | with_reducible exact hBB | with_reducible refine Below.setCell ?_ (by first | omega | (simp <;> omega)) _ | with_reducible refine Below.alloc ?_ (by first | omega | (simp <;> omega)) _)
  · have hp := parse_out hne hall hv
    have E : Hid (numR s.data.toList 0 = (zeroT, 0)) := Lib.hid (by unfold numR; rw [List.drop_zero, if_neg hv])
    have hpar := fun W (h : LibIs W) => parse (str (bare (s.data.toList.takeWhile digB))) W h
    rw [show (str (bare (s.data.toList.takeWhile digB))).data.toList = bare (s.data.toList.takeWhile digB) from rfl, hp.1, hp.2] at hpar
    have HP := Lib.hid hpar
    clear hpar hp hx1 hx2 htk hne hall hcount hsz hm hcons hv
    generalize str (bare (s.data.toList.takeWhile digB)) = T at *
    generalize Lib.trimLeftB (s.extract 0 m).data.toList 48 = TL at *
    go_enter Tryz.func72, Tryz.ntmps72
    go_wp2_with fail
    refine HC.out.mono ?_; rw [hmi]; rintro e w1 ⟨rfl, rfl⟩
    generalize hW : (w.alloc (.cells #[.int .i64 0, .int .i64 0, .string { data := #[] }, .int .i64 0] 80)) = W at *
    clear hW
    have LG : ∀ u : Gr W, LibIs u.now := fun u => hl1.below u.below
    go_wp2_with fail
    refine region_grown (by kernel_rfl) (by kernel_rfl) ?_
    repeat (go_big_quiet_step (first
      | (go_at_call 94; exact grown_same (HT.out _))
      | (go_at_call 93; exact grown_of (HP.out _ (LG _)))))
    refine wpQuiet_nil ?_
    intro w3 hw3; obtain ⟨u, rfl⟩ := hw3
    have HX2 := HX.below u.below hlt2
    have hBB := hB0.trans (u.below.mono hB0.size)
    have hlt3 := HX2.lt
    obtain ⟨f0, f1, f2, f3, z0, z1, z2, z3⟩ := HX2.cells
    go_wp2
    refine bodyPost_ret (v := .tuple #[.agg #[.int .i64 0, .int .i64 0, .string { data := #[] }, .int .i64 0], .int .i64 0]) (by simp [results, Tryz.results72, go_sem, f0, f1, f2, f3]) rfl ⟨by rw [E.out]; rfl, ?_⟩
    repeat (first | with_reducible exact hBB | with_reducible refine Below.setCell ?_ (by first | omega | (simp <;> omega)) _ | with_reducible refine Below.alloc ?_ (by first | omega | (simp <;> omega)) _)
end Go.Proofs.YtccigjelbnjcoaaGreatDoor.LexC
namespace Go.Proofs.YtccigjelbnjcoaaGreatDoor.LexC
set_option linter.unusedVariables false
open Go.RowKit Go.Proofs.YtccigjelbnjcoaaGreatDoor.NumC
theorem ext0 (s : ByteArray) (m : Nat) : s.extract 0 m = str (s.data.toList.take m) := by
  apply ByteArray.ext
  apply Array.toList_inj.1
  rw [Lib.extract_data, List.drop_zero, Nat.sub_zero]; rfl
theorem signT_form {c : UInt8} {l : List UInt8} {r : Int × Int × List UInt8 × Nat} (h : signT c l = some r) : r = (4, 0, (c :: l).take r.2.2.2, r.2.2.2) ∧ 1 ≤ r.2.2.2 ∧ r.2.2.2 ≤ (c :: l).length := by
  unfold signT at h
  split at h
  · split at h
    · injection h with h; subst h; simp
    · split at h
      · injection h with h; subst h; simp
      · cases h
  · split at h
    · injection h with h; subst h; simp
    · cases h
theorem first_cons {s : ByteArray} (h0 : 0 < s.size) : s.data.toList = s[0] :: s.data.toList.drop 1 := by
  have := drop_cons (l := s.data.toList) (i := 0) (by rw [← list_len]; exact h0)
  rwa [List.drop_zero] at this
theorem next_sign {s : ByteArray} (h0 : 0 < s.size) (hd : digB s[0] = false) (hl : letB s[0] = false) (hc : s[0].toNat ≠ 34) :
    signN s.data.toList ≤ s.size ∧ nextR s.data.toList 0 = if signN s.data.toList = 0 then (zeroT, 0) else (⟨4, 0, s.extract 0 (signN s.data.toList), 0⟩, (signN s.data.toList : Int)) := by
  have hc2 : s[0] ≠ 34 := fun e => hc (by rw [e]; rfl)
  have e := first_cons h0
  have hlen := list_len s
  rw [ext0]
  generalize s.data.toList = L at *
  generalize hr : L.drop 1 = r at *
  subst e
  unfold nextR
  rw [List.drop_zero, nextL_cons, tokL, hd, hl, if_neg Bool.false_ne_true, if_neg Bool.false_ne_true, if_neg hc2]
  cases hs : signT s[0] r with
  | none => rw [signN_none hs, if_pos rfl]; exact ⟨Nat.zero_le _, rfl⟩
  | some x =>
    obtain ⟨h1, h2, h3⟩ := signT_form hs
    rw [signN_some hs, if_neg (by omega)]
    refine ⟨by omega, ?_⟩
    generalize hm : x.2.2.2 = m at *
    subst h1
    rfl
theorem next_name {s : ByteArray} (h0 : 0 < s.size) (hd : digB s[0] = false) (hl : letB s[0] = true) :
    (s.data.toList.takeWhile wordB).length ≤ s.size ∧ nextR s.data.toList 0 = (⟨3, 0, str (upL (s.extract 0 (s.data.toList.takeWhile wordB).length).data.toList), 0⟩, ((s.data.toList.takeWhile wordB).length : Int)) := by
  refine ⟨by rw [list_len]; exact (List.takeWhile_sublist wordB).length_le, ?_⟩
  rw [ext0, show (str (s.data.toList.take (s.data.toList.takeWhile wordB).length)).data.toList = s.data.toList.take (s.data.toList.takeWhile wordB).length from rfl, ← run_take]
  have e := first_cons h0
  unfold nextR
  rw [List.drop_zero, e, nextL_cons, tokL, hd, if_neg Bool.false_ne_true, if_pos hl]; rfl
theorem clone_ (s : ByteArray) (w : World) (v : Value) (h : Calls Tryz.prog 97 #[.string s] w fun e w' => e = .returned v ∧ Below w.heap.size w w') :
    Calls Tryz.prog 77 #[.string s] w fun e w' => e = .returned v ∧ Below w.heap.size w w' := by
  go_enter Tryz.func77, Tryz.ntmps77
  go_wp2_with fail
  refine h.mono ?_; rintro e w1 ⟨rfl, hb1⟩
  go_wp2
  go_ret
  exact ⟨rfl, hb1⟩
set_option maxRecDepth 100000 in
set_option maxHeartbeats 2000000 in
theorem first_text (s : ByteArray) (w : World) (hs : s.size ≤ 1000000) (h0 : 0 < s.size) (hl : LexLib w) (hc : s[0].toNat = 34) :
    Calls Tryz.prog 58 #[.string s] w fun e w' => e = .returned (.tuple #[tokV (nextR s.data.toList 0).1, .int .i64 (nextR s.data.toList 0).2]) ∧ Below w.heap.size w w' := by
  have hll : 0 < s.data.toList.length := by rw [← list_len]; exact h0
  have HX := Box.new w
  have hB0 : Below w.heap.size w (w.alloc (.cells #[.int .i64 0, .int .i64 0, .string { data := #[] }, .int .i64 0] 80)) := (Below.refl _ _).alloc (Nat.le_refl _) _
  have hl1 := hl.below hB0
  have hlt2 := HX.lt
  generalize hW : (w.alloc (.cells #[.int .i64 0, .int .i64 0, .string { data := #[] }, .int .i64 0] 80)) = W at *
  have E := Lib.hid (next_text hll (UInt8.toNat_inj.1 hc : s.data.toList[0] = 34))
  have c1 : ((s[0].toNat : Int) == 34) = true := by rw [hc]; rfl
  have HC := Lib.hid (firstText s W hs h0)
  clear hc
  go_enter Tryz.func58, Tryz.ntmps58
  go_wp2_with fail
  refine HC.out.mono ?_; rintro e w1 ⟨rfl, hb1⟩
  unfold tokV
  generalize textR s.data.toList 0 = R at *
  obtain ⟨⟨tk, tn, ts, ta⟩, m⟩ := R
  have hBB := hB0.trans (hb1.mono hB0.size)
  have HX2 := HX.below hb1 hlt2
  have hlt3 := HX2.lt
  obtain ⟨f0, f1, f2, f3, z0, z1, z2, z3⟩ := HX2.cells
  go_wp2
  refine bodyPost_ret (v := .tuple #[.agg #[.int .i64 tk, .int .i64 tn, .string ts, .int .i64 ta], .int .i64 m]) (by simp [results, Tryz.results58, go_sem, f0, f1, f2, f3]) rfl ⟨by rw [E.out]; rfl, ?_⟩
  repeat (first | with_reducible exact hBB | with_reducible refine Below.setCell ?_ (by first | omega | (simp <;> omega)) _ | with_reducible refine Below.alloc ?_ (by first | omega | (simp <;> omega)) _)
set_option maxRecDepth 100000 in
set_option maxHeartbeats 2000000 in
theorem first_digit (s : ByteArray) (w : World) (hs : s.size ≤ 1000000) (h0 : 0 < s.size) (hl : LexLib w) (hc : s[0].toNat ≠ 34) (hd : digB s[0] = true) :
    Calls Tryz.prog 58 #[.string s] w fun e w' => e = .returned (.tuple #[tokV (nextR s.data.toList 0).1, .int .i64 (nextR s.data.toList 0).2]) ∧ Below w.heap.size w w' := by
  have hll : 0 < s.data.toList.length := by rw [← list_len]; exact h0
  have HX := Box.new w
  have hB0 : Below w.heap.size w (w.alloc (.cells #[.int .i64 0, .int .i64 0, .string { data := #[] }, .int .i64 0] 80)) := (Below.refl _ _).alloc (Nat.le_refl _) _
  have hl1 := hl.below hB0
  have hlt2 := HX.lt
  generalize hW : (w.alloc (.cells #[.int .i64 0, .int .i64 0, .string { data := #[] }, .int .i64 0] 80)) = W at *
  have E := Lib.hid (next_digit hll hd)
  have c1 : ((s[0].toNat : Int) == 34) = false := beq_eq_false_iff_ne.2 (by omega)
  have HC := Lib.hid (firstInt s W hs h0 hd hl1)
  have HD := Lib.hid hd
  clear hc hd
  go_enter Tryz.func58, Tryz.ntmps58
  go_wp2_with fail
  refine (isDigit s[0] _).mono ?_; rw [HD.out]; rintro e w1 ⟨rfl, rfl⟩
  go_wp2_with fail
  refine HC.out.mono ?_; rintro e w1 ⟨rfl, hb1⟩
  unfold tokV
  generalize numR s.data.toList 0 = R at *
  obtain ⟨⟨tk, tn, ts, ta⟩, m⟩ := R
  have hBB := hB0.trans (hb1.mono hB0.size)
  have HX2 := HX.below hb1 hlt2
  have hlt3 := HX2.lt
  obtain ⟨f0, f1, f2, f3, z0, z1, z2, z3⟩ := HX2.cells
  go_wp2
  refine bodyPost_ret (v := .tuple #[.agg #[.int .i64 tk, .int .i64 tn, .string ts, .int .i64 ta], .int .i64 m]) (by simp [results, Tryz.results58, go_sem, f0, f1, f2, f3]) rfl ⟨by rw [E.out]; rfl, ?_⟩
  repeat (first | with_reducible exact hBB | with_reducible refine Below.setCell ?_ (by first | omega | (simp <;> omega)) _ | with_reducible refine Below.alloc ?_ (by first | omega | (simp <;> omega)) _)
set_option maxRecDepth 100000 in
set_option maxHeartbeats 2000000 in
theorem first_name (s : ByteArray) (w : World) (hs : s.size ≤ 1000000) (h0 : 0 < s.size) (hl : LexLib w) (hc : s[0].toNat ≠ 34) (hd : digB s[0] = false) (hn : letB s[0] = true) :
    Calls Tryz.prog 58 #[.string s] w fun e w' => e = .returned (.tuple #[tokV (nextR s.data.toList 0).1, .int .i64 (nextR s.data.toList 0).2]) ∧ Below w.heap.size w w' := by
  have hll : 0 < s.data.toList.length := by rw [← list_len]; exact h0
  have HX := Box.new w
  have hB0 : Below w.heap.size w (w.alloc (.cells #[.int .i64 0, .int .i64 0, .string { data := #[] }, .int .i64 0] 80)) := (Below.refl _ _).alloc (Nat.le_refl _) _
  have hl1 := hl.below hB0
  have hlt2 := HX.lt
  generalize hW : (w.alloc (.cells #[.int .i64 0, .int .i64 0, .string { data := #[] }, .int .i64 0] 80)) = W at *
  obtain ⟨hn1, hn2⟩ := next_name h0 hd hn
  have c1 : ((s[0].toNat : Int) == 34) = false := beq_eq_false_iff_ne.2 (by omega)
  have HD := Lib.hid hd
  have HN : Hid (wordB s[0] = true) := Lib.hid (by unfold wordB; rw [hn]; rfl)
  have HK := Lib.hid (countName s W hs)
  generalize (s.data.toList.takeWhile wordB).length = n at *
  have E := Lib.hid hn2
  have hx : (s.extract 0 n).size ≤ 1000000 := by rw [ByteArray.size_extract]; omega
  have HU := Lib.hid (upper (s.extract 0 n) W hx)
  clear hc hd hn hn2 hx
  go_enter Tryz.func58, Tryz.ntmps58
  go_wp2_with fail
  refine (isDigit s[0] _).mono ?_; rw [HD.out]; rintro e w1 ⟨rfl, rfl⟩
  go_wp2_with fail
  refine (inName s[0] _).mono ?_; rw [HN.out]; rintro e w1 ⟨rfl, rfl⟩
  go_wp2_with fail
  refine HK.out.mono ?_; rintro e w1 ⟨rfl, rfl⟩
  go_wp2_with fail
  refine HU.out.mono ?_; rintro e w1 ⟨rfl, hb1⟩
  generalize str (upL (s.extract 0 n).data.toList) = TS at *
  have hBB := hB0.trans (hb1.mono hB0.size)
  have HX2 := HX.below hb1 hlt2
  have hlt3 := HX2.lt
  obtain ⟨f0, f1, f2, f3, z0, z1, z2, z3⟩ := HX2.cells
  go_wp2
  refine bodyPost_ret (v := .tuple #[.agg #[.int .i64 3, .int .i64 0, .string TS, .int .i64 0], .int .i64 n]) (by simp [results, Tryz.results58, go_sem, f0, f1, f2, f3]) rfl ⟨by rw [E.out]; rfl, ?_⟩
  repeat (first | with_reducible exact hBB | with_reducible refine Below.setCell ?_ (by first | omega | (simp <;> omega)) _ | with_reducible refine Below.alloc ?_ (by first | omega | (simp <;> omega)) _)
set_option maxRecDepth 100000 in
set_option maxHeartbeats 2000000 in
theorem first_none (s : ByteArray) (w : World) (hs : s.size ≤ 1000000) (h0 : 0 < s.size) (hl : LexLib w) (hc : s[0].toNat ≠ 34) (hd : digB s[0] = false) (hn : letB s[0] = false) (hz : signN s.data.toList = 0) :
    Calls Tryz.prog 58 #[.string s] w fun e w' => e = .returned (.tuple #[tokV (nextR s.data.toList 0).1, .int .i64 (nextR s.data.toList 0).2]) ∧ Below w.heap.size w w' := by
  have hll : 0 < s.data.toList.length := by rw [← list_len]; exact h0
  have HX := Box.new w
  have hB0 : Below w.heap.size w (w.alloc (.cells #[.int .i64 0, .int .i64 0, .string { data := #[] }, .int .i64 0] 80)) := (Below.refl _ _).alloc (Nat.le_refl _) _
  have hl1 := hl.below hB0
  have hlt2 := HX.lt
  generalize hW : (w.alloc (.cells #[.int .i64 0, .int .i64 0, .string { data := #[] }, .int .i64 0] 80)) = W at *
  obtain ⟨hn1, hn2⟩ := next_sign h0 hd hn hc
  have c1 : ((s[0].toNat : Int) == 34) = false := beq_eq_false_iff_ne.2 (by omega)
  have HD := Lib.hid hd
  have HN : Hid (wordB s[0] = false) := Lib.hid (by unfold wordB; rw [hn, hd]; rfl)
  have HK := Lib.hid (signLength s W hs h0)
  generalize signN s.data.toList = n at *
  subst hz
  rw [if_pos rfl] at hn2
  have E := Lib.hid hn2
  clear hc hd hn hn2
  go_enter Tryz.func58, Tryz.ntmps58
  go_wp2_with fail
  refine (isDigit s[0] _).mono ?_; rw [HD.out]; rintro e w1 ⟨rfl, rfl⟩
  go_wp2_with fail
  refine (inName s[0] _).mono ?_; rw [HN.out]; rintro e w1 ⟨rfl, rfl⟩
  go_wp2_with fail
  refine HK.out.mono ?_; rintro e w1 ⟨rfl, rfl⟩
  have hb1 := Below.refl W.heap.size W
  have hBB := hB0.trans (hb1.mono hB0.size)
  have HX2 := HX.below hb1 hlt2
  have hlt3 := HX2.lt
  obtain ⟨f0, f1, f2, f3, z0, z1, z2, z3⟩ := HX2.cells
  go_wp2
  refine bodyPost_ret (v := .tuple #[.agg #[.int .i64 0, .int .i64 0, .string { data := #[] }, .int .i64 0], .int .i64 0]) (by simp [results, Tryz.results58, go_sem, f0, f1, f2, f3]) rfl ⟨by rw [E.out]; rfl, ?_⟩
  repeat (first | with_reducible exact hBB | with_reducible refine Below.setCell ?_ (by first | omega | (simp <;> omega)) _ | with_reducible refine Below.alloc ?_ (by first | omega | (simp <;> omega)) _)
set_option maxRecDepth 100000 in
set_option maxHeartbeats 2000000 in
theorem first_sign (s : ByteArray) (w : World) (hs : s.size ≤ 1000000) (h0 : 0 < s.size) (hl : LexLib w) (hc : s[0].toNat ≠ 34) (hd : digB s[0] = false) (hn : letB s[0] = false) (hz : signN s.data.toList ≠ 0) :
    Calls Tryz.prog 58 #[.string s] w fun e w' => e = .returned (.tuple #[tokV (nextR s.data.toList 0).1, .int .i64 (nextR s.data.toList 0).2]) ∧ Below w.heap.size w w' := by
  have hll : 0 < s.data.toList.length := by rw [← list_len]; exact h0
  have HX := Box.new w
  have hB0 : Below w.heap.size w (w.alloc (.cells #[.int .i64 0, .int .i64 0, .string { data := #[] }, .int .i64 0] 80)) := (Below.refl _ _).alloc (Nat.le_refl _) _
  have hl1 := hl.below hB0
  have hlt2 := HX.lt
  generalize hW : (w.alloc (.cells #[.int .i64 0, .int .i64 0, .string { data := #[] }, .int .i64 0] 80)) = W at *
  obtain ⟨hn1, hn2⟩ := next_sign h0 hd hn hc
  have c1 : ((s[0].toNat : Int) == 34) = false := beq_eq_false_iff_ne.2 (by omega)
  have HD := Lib.hid hd
  have HN : Hid (wordB s[0] = false) := Lib.hid (by unfold wordB; rw [hn, hd]; rfl)
  have HK := Lib.hid (signLength s W hs h0)
  generalize signN s.data.toList = n at *
  rw [if_neg hz] at hn2
  have E := Lib.hid hn2
  have c2 : ((n : Int) == 0) = false := beq_eq_false_iff_ne.2 (by omega)
  have hx : (s.extract 0 n).size ≤ 281474976710656 := by rw [ByteArray.size_extract]; omega
  have HU := Lib.hid (Tryz.stringslite_Clone (s.extract 0 n) W hx)
  clear hc hd hn hn2 hx hz
  go_enter Tryz.func58, Tryz.ntmps58
  go_wp2_with fail
  refine (isDigit s[0] _).mono ?_; rw [HD.out]; rintro e w1 ⟨rfl, rfl⟩
  go_wp2_with fail
  refine (inName s[0] _).mono ?_; rw [HN.out]; rintro e w1 ⟨rfl, rfl⟩
  go_wp2_with fail
  refine HK.out.mono ?_; rintro e w1 ⟨rfl, rfl⟩
  go_wp2_with fail
  refine (clone_ _ _ _ HU.out).mono ?_; rintro e w1 ⟨rfl, hb1⟩
  have hBB := hB0.trans (hb1.mono hB0.size)
  have HX2 := HX.below hb1 hlt2
  have hlt3 := HX2.lt
  obtain ⟨f0, f1, f2, f3, z0, z1, z2, z3⟩ := HX2.cells
  go_wp2
  refine bodyPost_ret (v := .tuple #[.agg #[.int .i64 4, .int .i64 0, .string (s.extract 0 n), .int .i64 0], .int .i64 n]) (by simp [results, Tryz.results58, go_sem, f0, f1, f2, f3]) rfl ⟨by rw [E.out]; rfl, ?_⟩
  repeat (first | with_reducible exact hBB | with_reducible refine Below.setCell ?_ (by first | omega | (simp <;> omega)) _ | with_reducible refine Below.alloc ?_ (by first | omega | (simp <;> omega)) _)
theorem first (s : ByteArray) (w : World) (hs : s.size ≤ 1000000) (h0 : 0 < s.size) (hl : LexLib w) :
    Calls Tryz.prog 58 #[.string s] w fun e w' => e = .returned (.tuple #[tokV (nextR s.data.toList 0).1, .int .i64 (nextR s.data.toList 0).2]) ∧ Below w.heap.size w w' := by
  by_cases hc : s[0].toNat = 34
  · exact first_text s w hs h0 hl hc
  · cases hd : digB s[0]
    · cases hn : letB s[0]
      · by_cases hz : signN s.data.toList = 0
        · exact first_none s w hs h0 hl hc hd hn hz
        · exact first_sign s w hs h0 hl hc hd hn hz
      · exact first_name s w hs h0 hl hc hd hn
    · exact first_digit s w hs h0 hl hc hd
end Go.Proofs.YtccigjelbnjcoaaGreatDoor.LexC
