/-
  Contract of package lex: firstText.
-/
import Derived.Test.YtlbnlflfoafioaaDoorLexE
import Derived.Test.YtlbnlflfoafioaaDoorLexZ3
namespace Go.Proofs.YtlbnlflfoafioaaDoor.LexC
set_option linter.unusedVariables false
open Go.RowKit Go.Proofs.YtlbnlflfoafioaaDoor.NumC

/-- A block that holds a zero token. -/
structure Box (w : World) (b : Nat) : Prop where
  at_ : w.heap[b]? = some (.cells #[.int .i64 0, .int .i64 0, .string { data := #[] }, .int .i64 0] 33 (0, 0))
theorem Box.new (w : World) : Box (w.alloc (.cells #[.int .i64 0, .int .i64 0, .string { data := #[] }, .int .i64 0] 33)) w.heap.size := ⟨heap_alloc_new _ _⟩
theorem Box.lt {w : World} {b : Nat} (h : Box w b) : b < w.heap.size := (Array.getElem?_eq_some_iff.1 h.at_).1
theorem Box.below {w w' : World} {b B : Nat} (h : Box w b) (hb : Below B w w') (hB : b < B) : Box w' b := ⟨(hb.block b hB).trans h.at_⟩
theorem Box.cells {w : World} {b : Nat} (h : Box w b) : w.cell? ⟨b, 0, none⟩ = some (.int .i64 0) ∧ w.cell? ⟨b, 1, none⟩ = some (.int .i64 0) ∧ w.cell? ⟨b, 2, none⟩ = some (.string { data := #[] }) ∧ w.cell? ⟨b, 3, none⟩ = some (.int .i64 0) ∧
    w.frozen? ⟨b, 0, none⟩ = false ∧ w.frozen? ⟨b, 1, none⟩ = false ∧ w.frozen? ⟨b, 2, none⟩ = false ∧ w.frozen? ⟨b, 3, none⟩ = false := by
  have h1 := h.at_
  refine ⟨?_, ?_, ?_, ?_, ?_, ?_, ?_, ?_⟩ <;> simp [World.cell?, World.frozen?, h1]

set_option maxRecDepth 100000 in
set_option maxHeartbeats 2000000 in
theorem firstText (s : ByteArray) (w : World) (hs : s.size ≤ 1000000) (h0 : 0 < s.size) :
    Calls Tryd.prog 21 #[.string s] w fun e w' => e = .returned (.tuple #[tokV (textR s.data.toList 0).1, .int .i64 (textR s.data.toList 0).2]) ∧ Below w.heap.size w w' := by
  have hx : (w.alloc (.cells #[.int .i64 0, .int .i64 0, .string { data := #[] }, .int .i64 0] 33)).heap.size = w.heap.size + 1 := heap_one _ _
  have HX := Box.new w
  have hB0 : Below w.heap.size w (w.alloc (.cells #[.int .i64 0, .int .i64 0, .string { data := #[] }, .int .i64 0] 33)) := (Below.refl _ _).alloc (Nat.le_refl _) _
  have hh := holds_new (w.alloc (.cells #[.int .i64 0, .int .i64 0, .string { data := #[] }, .int .i64 0] 33))
  have hb1 : Below (w.heap.size + 1) (w.alloc (.cells #[.int .i64 0, .int .i64 0, .string { data := #[] }, .int .i64 0] 33)) ((w.alloc (.cells #[.int .i64 0, .int .i64 0, .string { data := #[] }, .int .i64 0] 33)).alloc (.cells #[.pointer none, .slice none 0 0] 43)) := (Below.refl _ _).alloc (by omega) _
  rw [hx] at hh
  have HX1 := Lib.hid (HX.below hb1 (Nat.lt_succ_self _))
  have hB1 := hB0.trans (hb1.mono (Nat.le_succ _))
  have HH := Lib.hid hh
  clear hx HX hh hb1 hB0
  go_enter Tryd.func21, Tryd.ntmps21
  go_wp2_with fail
  go_loopw [5] (fun a wr => ∃ (n : Nat) (acc : List UInt8), 1 ≤ n ∧ n ≤ s.size + 1 ∧ a = .int .i64 n ∧ acc.length ≤ n ∧ Below w.heap.size w wr ∧ Hid (Box wr w.heap.size) ∧ Hid (Holds (w.heap.size + 1) acc wr) ∧ Hid (Txt s.data.toList 0 n acc)) (fun a _ => s.size + 1 - (intOf a).toNat)
  case atStart => exact ⟨1, [], Nat.le_refl _, by omega, rfl, by simp, hB1, HX1, HH, Lib.hid (Txt.nil _ _)⟩
  case round =>
    obtain ⟨n, acc, hin, hn, rfl, hac, hB, HX, HH, HT⟩ := hrel
    have hlt2 := HX.out.lt
    by_cases hlt : n < s.size
    · have hll : n < s.data.toList.length := by rw [← list_len]; exact hlt
      by_cases hc : s[n].toNat = 34
      · have h34 : s.data.toList[n] = 34 := UInt8.toNat_inj.1 hc
        have c1 : ((s[n].toNat : Int) == 34) = true := by rw [hc]; rfl
        by_cases h2 : n + 1 < s.size
        · have hl2 : n + 1 < s.data.toList.length := by rw [← list_len]; exact h2
          by_cases hd : s[n + 1].toNat = 34
          · have h342 : s.data.toList[n + 1] = 34 := UInt8.toNat_inj.1 hd
            have HN := Lib.hid (HT.out.two (by omega) hl2 h34 h342)
            have c2 : ((s[n + 1].toNat : Int) == 34) = true := by rw [hd]; rfl
            have c3 : ((s[n + 1].toNat : Int) != 34) = false := by rw [bne, c2]; rfl
            have W := writeByte (w.heap.size + 1) _ s[n + 1] _ HH.out (by omega) (by omega)
            rw [show s[n + 1] = 34 from h342] at W
            have HW := Lib.hid W
            have c4 : ((s[n + 1].toNat : Int)) = (((34 : UInt8).toNat : Nat) : Int) := by rw [hd]; rfl
            have HW4 := Lib.hid c4
            clear hc h34 hd h342 W c4
            go_wp2_with fail
            rw [HW4.out]
            refine HW.out.mono ?_; rintro e w2 ⟨rfl, hh2, hb2⟩
            have HX2 := Lib.hid (HX.out.below hb2 (Nat.lt_succ_self _))
            have HH2 := Lib.hid hh2
            clear hh2
            go_wp2
            go_roundw
            case rel => exact ⟨n + 2, acc ++ [34], by omega, by omega, by go_num, by simp; omega, hB.trans (hb2.mono (Nat.le_succ _)), HX2, HH2, HN⟩
            case measure => simp [intOf]; omega
          · have c2 : ((s[n + 1].toNat : Int) == 34) = false := beq_eq_false_iff_ne.2 (by omega)
            have c3 : ((s[n + 1].toNat : Int) != 34) = true := by rw [bne, c2]; rfl
            have E := Lib.hid (HT.out.end_ (by omega) hll h34 (fun h e => hd (by have : s[n + 1] = 34 := e; rw [this]; rfl)))
            have W := Lib.hid (bString (w.heap.size + 1) _ _ HH.out (by omega))
            clear hc h34 hd
            go_wp2_with fail
            refine W.out.mono ?_; rintro e w2 ⟨rfl, hb2⟩
            have HX2 := HX.out.below hb2 (Nat.lt_succ_self _)
            have hBB := hB.trans (hb2.mono (Nat.le_succ _))
            have hlt3 := HX2.lt
            obtain ⟨f0, f1, f2, f3, z0, z1, z2, z3⟩ := HX2.cells
            go_wp2
            refine bodyPost_ret (v := .tuple #[.agg #[.int .i64 2, .int .i64 0, .string (str acc), .int .i64 0], .int .i64 ((n : Int) + 1)]) (by simp [results, Tryd.results21, go_sem, f0, f1, f2, f3]) rfl ⟨tok_eq (m := (n : Int) + 1) (t := ⟨2, 0, str acc, 0⟩) (by rw [E.out]; rfl) (by rw [E.out]; simp), ?_⟩
            repeat (first | with_reducible exact hBB | with_reducible refine Below.setCell ?_ (by first | omega | (simp <;> omega)) _ | with_reducible refine Below.alloc ?_ (by first | omega | (simp <;> omega)) _)
        · have E := Lib.hid (HT.out.end_ (by omega) hll h34 (fun h e => h2 (by rw [list_len]; exact h)))
          have c5 : ((n : Int) + 1 == s.size) = true := beq_iff_eq.2 (by omega)
          have W := Lib.hid (bString (w.heap.size + 1) _ _ HH.out (by omega))
          clear hc h34
          go_wp2_with fail
          refine W.out.mono ?_; rintro e w2 ⟨rfl, hb2⟩
          have HX2 := HX.out.below hb2 (Nat.lt_succ_self _)
          have hBB := hB.trans (hb2.mono (Nat.le_succ _))
          have hlt3 := HX2.lt
          obtain ⟨f0, f1, f2, f3, z0, z1, z2, z3⟩ := HX2.cells
          go_wp2
          refine bodyPost_ret (v := .tuple #[.agg #[.int .i64 2, .int .i64 0, .string (str acc), .int .i64 0], .int .i64 ((n : Int) + 1)]) (by simp [results, Tryd.results21, go_sem, f0, f1, f2, f3]) rfl ⟨tok_eq (m := (n : Int) + 1) (t := ⟨2, 0, str acc, 0⟩) (by rw [E.out]; rfl) (by rw [E.out]; simp), ?_⟩
          repeat (first | with_reducible exact hBB | with_reducible refine Below.setCell ?_ (by first | omega | (simp <;> omega)) _ | with_reducible refine Below.alloc ?_ (by first | omega | (simp <;> omega)) _)
      · have h34 : s.data.toList[n] ≠ 34 := fun e => hc (by have : s[n] = 34 := e; rw [this]; rfl)
        have HN : Hid (Txt s.data.toList 0 (n + 1) (acc ++ [s[n]])) := Lib.hid (HT.out.more (by omega) hll h34)
        have c1 : ((s[n].toNat : Int) == 34) = false := beq_eq_false_iff_ne.2 (by omega)
        have HW := Lib.hid (writeByte (w.heap.size + 1) _ s[n] _ HH.out (by omega) (by omega))
        clear hc h34
        go_wp2_with fail
        refine HW.out.mono ?_; rintro e w2 ⟨rfl, hh2, hb2⟩
        have HX2 := Lib.hid (HX.out.below hb2 (Nat.lt_succ_self _))
        have HH2 := Lib.hid hh2
        clear hh2
        go_wp2
        go_roundw
        case rel => exact ⟨n + 1, acc ++ [s[n]], by omega, by omega, by go_num, by simp; omega, hB.trans (hb2.mono (Nat.le_succ _)), HX2, HH2, HN⟩
        case measure => simp [intOf]; omega
    · have E := Lib.hid (HT.out.no (by rw [← list_len]; omega))
      have hBB := hB
      obtain ⟨f0, f1, f2, f3, z0, z1, z2, z3⟩ := HX.out.cells
      go_wp2
      refine bodyPost_ret (v := .tuple #[.agg #[.int .i64 0, .int .i64 0, .string { data := #[] }, .int .i64 0], .int .i64 0]) (by simp [results, Tryd.results21, go_sem, f0, f1, f2, f3]) rfl ⟨by rw [E.out]; rfl, ?_⟩
      repeat (first | with_reducible exact hBB | with_reducible refine Below.setCell ?_ (by first | omega | (simp <;> omega)) _ | with_reducible refine Below.alloc ?_ (by first | omega | (simp <;> omega)) _)
end Go.Proofs.YtlbnlflfoafioaaDoor.LexC
