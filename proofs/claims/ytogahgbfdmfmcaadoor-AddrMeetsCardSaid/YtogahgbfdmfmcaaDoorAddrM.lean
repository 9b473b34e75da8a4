/-
  Plain facts on cells, their names, and what a text names. No program in it.
-/
import Derived.Test.YtogahgbfdmfmcaaDoorNumN
namespace Go.Proofs.YtogahgbfdmfmcaaDoor.AddrC
set_option linter.unusedVariables false
open Go.Proofs.YtogahgbfdmfmcaaDoor.NumC

/-- It is a cell of the grid. -/
def Cell (r c : Int) : Prop := (1 ≤ r ∧ r ≤ 1000) ∧ (1 ≤ c ∧ c ≤ 50)
instance (r c : Int) : Decidable (Cell r c) := by unfold Cell; infer_instance
/-- A column's name. -/
def colL (c : Int) : List UInt8 := if c ≤ 26 then [UInt8.ofNat (64 + c.toNat)] else [65, UInt8.ofNat (38 + c.toNat)]
/-- A cell's name. -/
def nameL (r c : Int) : List UInt8 := if Cell r c then colL c ++ Lib.itoa r else []
theorem nameL_cell {r c : Int} (h : Cell r c) : nameL r c = colL c ++ Lib.itoa r := by unfold nameL; rw [if_pos h]
theorem nameL_no {r c : Int} (h : ¬ Cell r c) : nameL r c = [] := by unfold nameL; rw [if_neg h]
theorem cell_i64 {r c : Int} (h : Cell r c) : I64 r := by unfold Cell at h; unfold I64; omega
/-- The column that a text begins with (0: none), and what is behind it. -/
def cutL : Nat → List UInt8 → Nat × List UInt8
  | k, [] => (k, [])
  | k, x :: l => if x.toNat < 65 ∨ 90 < x.toNat then (k, x :: l) else if 50 < k * 26 + (x.toNat - 64) then (0, []) else cutL (k * 26 + (x.toNat - 64)) l
theorem cutL_nil (k : Nat) : cutL k [] = (k, []) := rfl
theorem cutL_stop {k : Nat} {x : UInt8} {l : List UInt8} (h : x.toNat < 65 ∨ 90 < x.toNat) : cutL k (x :: l) = (k, x :: l) := by unfold cutL; rw [if_pos h]
theorem cutL_big {k : Nat} {x : UInt8} {l : List UInt8} (h : ¬ (x.toNat < 65 ∨ 90 < x.toNat)) (h2 : 50 < k * 26 + (x.toNat - 64)) : cutL k (x :: l) = (0, []) := by unfold cutL; rw [if_neg h, if_pos h2]
theorem cutL_on {k : Nat} {x : UInt8} {l : List UInt8} (h : ¬ (x.toNat < 65 ∨ 90 < x.toNat)) (h2 : ¬ 50 < k * 26 + (x.toNat - 64)) : cutL k (x :: l) = cutL (k * 26 + (x.toNat - 64)) l := by rw [cutL, if_neg h, if_neg h2]
theorem cutL_le (l : List UInt8) : ∀ k, k ≤ 50 → (cutL k l).1 ≤ 50 := by
  induction l with
  | nil => intro k h; exact h
  | cons x l ih =>
    intro k h
    by_cases h1 : x.toNat < 65 ∨ 90 < x.toNat
    · rw [cutL_stop h1]; exact h
    · by_cases h2 : 50 < k * 26 + (x.toNat - 64)
      · rw [cutL_big h1 h2]; omega
      · rw [cutL_on h1 h2]; exact ih _ (by omega)
theorem u8_small {n : Nat} (h : n < 256) : (UInt8.ofNat n).toNat = n := by rw [UInt8.toNat_ofNat']; omega
theorem u8_back (x : UInt8) : UInt8.ofNat x.toNat = x := by apply UInt8.toNat_inj.1; rw [u8_small x.toNat_lt]
theorem cutL_col {c : Int} (h0 : 1 ≤ c) (h1 : c ≤ 50) (t : List UInt8) (ht : ∀ x l, t = x :: l → x.toNat < 65 ∨ 90 < x.toNat) : cutL 0 (colL c ++ t) = (c.toNat, t) := by
  have stop : ∀ k, cutL k t = (k, t) := by
    intro k
    cases t with
    | nil => rfl
    | cons x l => exact cutL_stop (ht x l rfl)
  unfold colL
  split
  · rename_i h
    have e := u8_small (n := 64 + c.toNat) (by omega)
    rw [List.cons_append, List.nil_append, cutL_on (by rw [e]; omega) (by rw [e]; omega), stop, e]
    congr 1; omega
  · rename_i h
    have e := u8_small (n := 38 + c.toNat) (by omega)
    rw [List.cons_append, List.cons_append, List.nil_append, cutL_on (by decide) (by decide), cutL_on (by rw [e]; omega) (by rw [e, show (65 : UInt8).toNat = 65 from rfl]; omega), stop, e]
    congr 1; rw [show (65 : UInt8).toNat = 65 from rfl]; omega
theorem cutL_inv {s t : List UInt8} {k : Nat} (h : cutL 0 s = (k, t)) (hk : k ≠ 0) : 1 ≤ k ∧ k ≤ 50 ∧ s = colL k ++ t := by
  cases s with
  | nil => rw [cutL_nil] at h; injection h with h1 h2; omega
  | cons x l =>
    by_cases h1 : x.toNat < 65 ∨ 90 < x.toNat
    · rw [cutL_stop h1] at h; injection h with h1 h2; omega
    · by_cases h2 : 50 < 0 * 26 + (x.toNat - 64)
      · rw [cutL_big h1 h2] at h; injection h with h1 h2; omega
      · rw [cutL_on h1 h2] at h
        have ex : ∀ m : Nat, m = x.toNat - 64 → colL m = [x] := by
          intro m hm
          unfold colL
          rw [if_pos (by omega), Int.toNat_natCast, show 64 + m = x.toNat by omega, u8_back]
        cases l with
        | nil =>
          rw [cutL_nil] at h; injection h with h3 h4
          subst h4
          rw [ex k (by omega)]
          exact ⟨by omega, by omega, rfl⟩
        | cons y l =>
          by_cases h3 : y.toNat < 65 ∨ 90 < y.toNat
          · rw [cutL_stop h3] at h; injection h with h4 h5
            subst h5
            rw [ex k (by omega)]
            exact ⟨by omega, by omega, rfl⟩
          · by_cases h4 : 50 < (0 * 26 + (x.toNat - 64)) * 26 + (y.toNat - 64)
            · rw [cutL_big h3 h4] at h; injection h with h5 h6; omega
            · rw [cutL_on h3 h4] at h
              have hx : x = 65 := by apply UInt8.toNat_inj.1; rw [show (65 : UInt8).toNat = 65 from rfl]; omega
              subst hx
              rw [show (65 : UInt8).toNat = 65 from rfl] at h h4
              have ey : ∀ m : Nat, m = 26 + (y.toNat - 64) → colL m = [65, y] := by
                intro m hm
                unfold colL
                rw [if_neg (by omega), Int.toNat_natCast, show 38 + m = y.toNat by omega, u8_back]
              cases l with
              | nil =>
                rw [cutL_nil] at h; injection h with h5 h6
                subst h6
                rw [ey k (by omega)]
                exact ⟨by omega, by omega, rfl⟩
              | cons z l =>
                by_cases h5 : z.toNat < 65 ∨ 90 < z.toNat
                · rw [cutL_stop h5] at h; injection h with h6 h7
                  subst h7
                  rw [ey k (by omega)]
                  exact ⟨by omega, by omega, rfl⟩
                · rw [cutL_big h5 (by omega)] at h; injection h with h6 h7; omega
theorem itoa_head {r : Int} {x : UInt8} {l : List UInt8} (h : 0 ≤ r) (e : Lib.itoa r = x :: l) : x.toNat < 65 ∨ 90 < x.toNat := by
  unfold Lib.itoa at e
  rw [if_neg (by omega)] at e
  have := decDigits_all r.toNat x (by rw [e]; exact List.mem_cons_self)
  omega
theorem itoa_ne (r : Int) : Lib.itoa r ≠ [] := by
  unfold Lib.itoa; split
  · simp
  · exact decDigits_ne _
/-- What a text names: whether it is a cell, its row, its column. -/
def pOK (s : List UInt8) : Bool := decide ((cutL 0 s).1 ≠ 0 ∧ parseB (cutL 0 s).2 = true ∧ 1 ≤ parseN (cutL 0 s).2 ∧ parseN (cutL 0 s).2 ≤ 1000)
def pR (s : List UInt8) : Int := if pOK s then parseN (cutL 0 s).2 else 0
def pC (s : List UInt8) : Int := if pOK s then ((cutL 0 s).1 : Int) else 0
theorem parse_is {l : List UInt8} (h : parseB l = true) : Lib.itoa (parseN l) = l := by
  unfold parseB at h; unfold parseN
  rcases ha : Lib.atoiAll l with v | _ | _
  · rw [ha] at h; simp only at h ⊢
    rw [if_pos (of_decide_eq_true h)]; exact of_decide_eq_true h
  · rw [ha] at h; cases h
  · rw [ha] at h; cases h
theorem p_some {r c : Int} {s : List UInt8} (h : Cell r c) (e : nameL r c = s) : pOK s = true ∧ pR s = r ∧ pC s = c := by
  have hh := h
  unfold Cell at hh
  rw [nameL_cell h] at e
  have h1 := cutL_col hh.2.1 hh.2.2 (Lib.itoa r) (fun x l e => itoa_head (by omega) e)
  rw [e] at h1
  have h2 := parse_some (cell_i64 h) rfl
  have h3 : pOK s = true := by
    unfold pOK; rw [h1]; simp only
    rw [h2.1, h2.2]
    exact decide_eq_true ⟨by omega, rfl, hh.1.1, hh.1.2⟩
  refine ⟨h3, ?_, ?_⟩
  · unfold pR; rw [h3, h1]; exact h2.1
  · unfold pC; rw [h3, h1]; simp only [if_true]; omega
theorem p_is {s : List UInt8} (h : pOK s = true) : Cell (pR s) (pC s) ∧ nameL (pR s) (pC s) = s := by
  have e1 : pR s = parseN (cutL 0 s).2 := by unfold pR; rw [h]; rfl
  have e2 : pC s = ((cutL 0 s).1 : Int) := by unfold pC; rw [h]; rfl
  unfold pOK at h
  obtain ⟨h1, h2, h3, h4⟩ := of_decide_eq_true h
  obtain ⟨g1, g2, g3⟩ := cutL_inv (s := s) (t := (cutL 0 s).2) (k := (cutL 0 s).1) rfl h1
  have hc : Cell (pR s) (pC s) := by rw [e1, e2]; unfold Cell; omega
  refine ⟨hc, ?_⟩
  rw [nameL_cell hc, e1, e2, parse_is h2]
  exact g3.symm
theorem p_none {s : List UInt8} (h : ∀ r c, Cell r c → nameL r c ≠ s) : pOK s = false ∧ pR s = 0 ∧ pC s = 0 := by
  have h3 : pOK s = false := by
    cases e : pOK s
    · rfl
    · exact absurd (p_is e).2 (h _ _ (p_is e).1)
  refine ⟨h3, ?_, ?_⟩
  · unfold pR; rw [h3]; rfl
  · unfold pC; rw [h3]; rfl
theorem name_inj {r c r' c' : Int} (h : Cell r c) (h' : Cell r' c') (e : nameL r c = nameL r' c') : r = r' ∧ c = c' := by
  have h1 := p_some h rfl
  have h2 := p_some h' e.symm
  exact ⟨h1.2.1.symm.trans h2.2.1, h1.2.2.symm.trans h2.2.2⟩
/-- One of column c alone is looked for. -/
theorem name_col {r c : Int} {s : List UInt8} (h : Cell r c) (e : nameL r c = s) : s.take (colL c).length = colL c ∧ (colL c).length < s.length ∧ s.drop (colL c).length = Lib.itoa r := by
  rw [nameL_cell h] at e
  subst e
  refine ⟨by rw [List.take_left], ?_, by rw [List.drop_left]⟩
  rw [List.length_append]
  have := List.length_pos_iff.2 (itoa_ne r)
  omega
theorem colL_len (c : Int) : (colL c).length = if c ≤ 26 then 1 else 2 := by unfold colL; split <;> rfl
end Go.Proofs.YtogahgbfdmfmcaaDoor.AddrC
