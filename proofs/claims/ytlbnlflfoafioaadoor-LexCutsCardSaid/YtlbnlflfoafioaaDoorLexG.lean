/-
  A contract of the keeper's Tokens: two rows of the same tokens are alike.
-/
import Derived.Test.YtlbnlflfoafioaaDoorLexF
namespace Go.Proofs.YtlbnlflfoafioaaDoor.LexC
set_option linter.unusedVariables false
open Go.RowKit Go.Proofs.YtlbnlflfoafioaaDoor.NumC

/-- A row that reads as these tokens. -/
structure TokAt (w : World) (v : Value) (l : List Tok) : Prop where
  form : ∃ A c, v = .slice A l.length c ∧ ∀ i (h : i < l.length), ∃ g, A = some ⟨g, 0, none⟩ ∧
    w.cell? ⟨g, i * 4, none⟩ = some (.int .i64 l[i].k) ∧ w.cell? ⟨g, i * 4 + 1, none⟩ = some (.int .i64 l[i].n) ∧ w.cell? ⟨g, i * 4 + 2, none⟩ = some (.string l[i].s) ∧ w.cell? ⟨g, i * 4 + 3, none⟩ = some (.int .i64 l[i].at_)
theorem tcells_at : ∀ (l : List Tok) (i : Nat) (h : i < l.length), (tcells l)[i * 4]? = some (.int .i64 l[i].k) ∧ (tcells l)[i * 4 + 1]? = some (.int .i64 l[i].n) ∧ (tcells l)[i * 4 + 2]? = some (.string l[i].s) ∧ (tcells l)[i * 4 + 3]? = some (.int .i64 l[i].at_)
  | [], i, h => by simp at h
  | t :: l, 0, h => ⟨rfl, rfl, rfl, rfl⟩
  | t :: l, i + 1, h => by
    have := tcells_at l i (by simpa using h)
    have e (j : Nat) : (tcells (t :: l))[(i + 1) * 4 + j]? = (tcells l)[i * 4 + j]? := by
      show (([.int .i64 t.k, .int .i64 t.n, .string t.s, .int .i64 t.at_] : List Value) ++ tcells l)[(i + 1) * 4 + j]? = _
      rw [List.getElem?_append_right (by simp; omega)]
      congr 1; simp; omega
    refine ⟨?_, ?_, ?_, ?_⟩
    · have := e 0; simp only [Nat.add_zero] at this; rw [this]; simp only [List.getElem_cons_succ]; exact (tcells_at l i (by simpa using h)).1
    · rw [e 1]; simp only [List.getElem_cons_succ]; exact this.2.1
    · rw [e 2]; simp only [List.getElem_cons_succ]; exact this.2.2.1
    · rw [e 3]; simp only [List.getElem_cons_succ]; exact this.2.2.2
theorem tokAt_own {w : World} {base : Nat} {e : TypeId} {v : Value} {l : List Tok} (h : w.ownsRow base e 4 v l.length (tcells l)) : TokAt w v l := by
  obtain ⟨h1, ⟨h2, h3⟩ | ⟨g, cap, cur, h2, h3, h4, h5, h6, h7, h8⟩⟩ := h
  · exact ⟨none, 0, by rw [h2, h3], fun i h => by omega⟩
  · refine ⟨some ⟨g, 0, none⟩, cap, h2, fun i h => ⟨g, rfl, ?_⟩⟩
    have key (j : Nat) (u : Value) (hu : (tcells l)[j]? = some u) : w.cell? ⟨g, j, none⟩ = some u := by
      rw [cell_of_row w g j cur e (0, 0) h4]
      rw [← h8, List.getElem?_take] at hu
      split at hu
      · rw [← hu, Array.getElem?_toList]
      · cases hu
    have := tcells_at l i h
    exact ⟨key _ _ this.1, key _ _ this.2.1, key _ _ this.2.2.1, key _ _ this.2.2.2⟩
theorem TokAt.below {w w' : World} {v : Value} {l : List Tok} (h : TokAt w v l) (hb : Below w.heap.size w w') : TokAt w' v l := by
  obtain ⟨A, c, h1, h2⟩ := h.form
  exact ⟨A, c, h1, fun i hi => by
    obtain ⟨g, e, f0, f1, f2, f3⟩ := h2 i hi
    exact ⟨g, e, cell_later hb f0, cell_later hb f1, cell_later hb f2, cell_later hb f3⟩⟩

set_option maxRecDepth 100000 in
set_option maxHeartbeats 4000000 in
theorem keepSame (l : List Tok) (va vb : Value) (w : World) (hl : l.length ≤ 1000000) (ha : TokAt w va l) (hb : TokAt w vb l) :
    Calls Tryd.prog 10 #[va, vb] w fun e w' => e = .returned (.bool true) ∧ Below w.heap.size w w' := by
  obtain ⟨A, ca, rfl, ha2⟩ := ha.form
  obtain ⟨B, cb, rfl, hb2⟩ := hb.form
  have HA := Lib.hid ha2; have HB := Lib.hid hb2
  clear ha2 hb2 ha hb
  go_enter Tryd.func10, Tryd.ntmps10
  go_wp2
  go_loopw [5] (fun a wr => ∃ i : Nat, i ≤ l.length ∧ a = .int .i64 i ∧ Below w.heap.size w wr) (fun a _ => l.length - (intOf a).toNat)
  case atStart => exact ⟨0, Nat.zero_le _, rfl, Below.refl _ _⟩
  case round =>
    obtain ⟨i, hi, rfl, hw⟩ := hrel
    by_cases hlt : i < l.length
    · obtain ⟨g, eA, a0, a1, a2, a3⟩ := HA.out i hlt
      obtain ⟨g2, eB, b0, b1, b2, b3⟩ := HB.out i hlt
      subst eA eB
      have A0 := cell_later hw a0; have A1 := cell_later hw a1; have A2 := cell_later hw a2; have A3 := cell_later hw a3
      have B0 := cell_later hw b0; have B1 := cell_later hw b1; have B2 := cell_later hw b2; have B3 := cell_later hw b3
      clear a0 a1 a2 a3 b0 b1 b2 b3
      generalize l[i].k = tk at *
      generalize l[i].n = tn at *
      generalize l[i].s = ts at *
      generalize l[i].at_ = ta at *
      have e0 : (tk != tk) = false := by simp
      have e1 : (tn != tn) = false := by simp
      have e2 : (ts.toList != ts.toList) = false := by simp
      have e3 : (ta != ta) = false := by simp
      go_wp2_with fail
      go_quiet (fail)
      go_wp2
      go_roundw
      case rel => exact ⟨i + 1, by omega, by go_num, below_drewN' hw _⟩
      case measure => simp [intOf]; omega
    · go_wp2
      go_ret
      exact ⟨rfl, hw⟩
end Go.Proofs.YtlbnlflfoafioaaDoor.LexC
