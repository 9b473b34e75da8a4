/-
  Contracts of lex's reference: Upper.
-/
import Derived.Test.YtgkabngpekokaaaLexA
import Derived.Test.YtgkabngpekokaaaNumG
namespace Go.Proofs.Ytgkabngpekokaaa.LexC
set_option linter.unusedVariables false
open Go.RowKit Go.Proofs.Ytgkabngpekokaaa.NumC

/-- The cells of a row of bytes that is turned to upper case up to k. -/
def UpTo (wr : World) (g : Nat) (s : ByteArray) (k : Nat) : Prop := ∀ j (hj : j < s.size), wr.cell? ⟨g, j, none⟩ = some (.int .u8 (((if j < k then upC s[j] else s[j]).toNat : Nat) : Int))
def Soft (wr : World) (g n : Nat) : Prop := ∀ j, j < n → wr.frozen? ⟨g, j, none⟩ = false
theorem UpTo.at_ {wr : World} {g : Nat} {s : ByteArray} {k : Nat} (h : UpTo wr g s k) (hk : k < s.size) : wr.cell? ⟨g, k, none⟩ = some (.int .u8 (s[k].toNat : Int)) := by
  have := h k hk; rwa [if_neg (by omega)] at this
theorem UpTo.stay {wr : World} {g : Nat} {s : ByteArray} {k : Nat} (h : UpTo wr g s k) (hk : k < s.size) (hc : upC s[k] = s[k]) : UpTo wr g s (k + 1) := fun j hj => by
  have := h j hj
  by_cases e : j = k
  · subst e; rw [if_pos (by omega), hc]; rwa [if_neg (by omega)] at this
  · by_cases hjk : j < k
    · rw [if_pos (by omega)]; rwa [if_pos hjk] at this
    · rw [if_neg (by omega)]; rwa [if_neg hjk] at this
theorem UpTo.put {wr : World} {g : Nat} {s : ByteArray} {k : Nat} (h : UpTo wr g s k) (hk : k < s.size) : UpTo (wr.setCell ⟨g, k, none⟩ (.int .u8 ((upC s[k]).toNat : Int))) g s (k + 1) := fun j hj => by
  by_cases e : j = k
  · subst e
    rw [if_pos (by omega)]
    exact World.cell?_setCell_same _ _ _ (h.at_ hk)
  · rw [World.cell?_setCell_other _ _ _ _ (fun x => e (by injection x; omega))]
    have := h j hj
    by_cases hjk : j < k
    · rw [if_pos (by omega)]; rwa [if_pos hjk] at this
    · rw [if_neg (by omega)]; rwa [if_neg hjk] at this
theorem Soft.put {wr : World} {g n : Nat} (h : Soft wr g n) (a : Addr) (v : Value) : Soft (wr.setCell a v) g n := fun j hj => by
  rw [World.frozen?_setCell]; exact h j hj
theorem upL_at (s : ByteArray) (j : Nat) (h1 : j < (upL s.data.toList).length) (h2 : j < s.size) : (upL s.data.toList)[j] = upC s[j] := by simp only [upL, List.getElem_map]; rfl
theorem add_off (b j : Nat) : (⟨b, 0, none⟩ : Addr).add j = ⟨b, j, none⟩ := by
  unfold Addr.add
  by_cases h : j = 0
  · subst h; simp
  · simp [h]
set_option maxRecDepth 100000 in
set_option maxHeartbeats 1000000 in
theorem rupper (s : ByteArray) (w : World) (hs : s.size ≤ 1000000) :
    Calls Try.prog 40 #[.string s] w fun e w' => e = .returned (.string (str (upL s.data.toList))) ∧ Below w.heap.size w w' := by
  have HC := run_bytes_of_string (P := Try.prog) w 9 44 5 s Try.underlying9 Try.underlying44 Try.underlying5
  have hcells : UpTo (w.drew.alloc (.cells (bytesRow s (grownCap w s.size 0 5)) 5 ((bytesRow s (grownCap w s.size 0 5)).size, (bytesRow s (grownCap w s.size 0 5)).size + 1))) w.heap.size s 0 := fun j hj => by
    rw [if_neg (by omega)]
    have := World.cell?_alloc_mark w.drew (bytesRow s (grownCap w s.size 0 5)) 5 ((bytesRow s (grownCap w s.size 0 5)).size, (bytesRow s (grownCap w s.size 0 5)).size + 1) j
    rw [show w.drew.heap.size = w.heap.size from rfl] at this
    rw [this]; exact bytesRow_at s _ j hj
  have hsoft : Soft (w.drew.alloc (.cells (bytesRow s (grownCap w s.size 0 5)) 5 ((bytesRow s (grownCap w s.size 0 5)).size, (bytesRow s (grownCap w s.size 0 5)).size + 1))) w.heap.size s.size := fun j hj => by
    have := World.frozen?_alloc_mark w.drew (bytesRow s (grownCap w s.size 0 5)) 5 (bytesRow s (grownCap w s.size 0 5)).size ((bytesRow s (grownCap w s.size 0 5)).size + 1) j
    rw [show w.drew.heap.size = w.heap.size from rfl] at this
    rw [this]
    have h2 : j < (bytesRow s (grownCap w s.size 0 5)).size := by unfold bytesRow; simp; omega
    simp; omega
  have hbel : Below w.heap.size w (w.drew.alloc (.cells (bytesRow s (grownCap w s.size 0 5)) 5 ((bytesRow s (grownCap w s.size 0 5)).size, (bytesRow s (grownCap w s.size 0 5)).size + 1))) := (below_drewN' (Below.refl _ _) 1).alloc (Nat.le_refl _) _
  generalize hW : (w.drew.alloc (.cells (bytesRow s (grownCap w s.size 0 5)) 5 ((bytesRow s (grownCap w s.size 0 5)).size, (bytesRow s (grownCap w s.size 0 5)).size + 1))) = W0 at *
  generalize grownCap w s.size 0 5 = cp at *
  clear hW
  have HU := Lib.hid hcells
  have HF := Lib.hid hsoft
  clear hcells hsoft
  go_enter Try.func40, Try.ntmps40
  go_wp2
  go_loopw [4] (fun i wr => ∃ k : Nat, k ≤ s.size ∧ i = .int .i64 k ∧ Below w.heap.size w wr ∧ Hid (UpTo wr w.heap.size s k) ∧ Hid (Soft wr w.heap.size s.size)) (fun i _ => s.size - (intOf i).toNat)
  case atStart => exact ⟨0, Nat.zero_le _, rfl, hbel, HU, HF⟩
  case round =>
    obtain ⟨k, hk, rfl, hB, HU1, HF1⟩ := hrel
    by_cases hlt : k < s.size
    · have f0 := HU1.out.at_ hlt
      have z0 := HF1.out k hlt
      by_cases h1 : 97 ≤ s[k].toNat ∧ s[k].toNat ≤ 122
      · have U1 := Lib.hid (HU1.out.put hlt)
        have F1 := Lib.hid (HF1.out.put ⟨w.heap.size, k, none⟩ (.int .u8 ((upC s[k]).toNat : Int)))
        have e1 : ((upC s[k]).toNat : Int) = (s[k].toNat : Int) - 32 := by rw [upC_up h1, sub32 h1.1]; omega
        rw [e1] at U1 F1
        have d1 : decide (97 ≤ (s[k].toNat : Int)) = true := decide_eq_true (by omega)
        have d2 : decide ((s[k].toNat : Int) ≤ 122) = true := decide_eq_true (by omega)
        have d3 : 32 ≤ (s[k].toNat : Int) := by omega
        have d4 : (s[k].toNat : Int) ≤ 255 := by omega
        have B1 := hB.setCell (p := ⟨w.heap.size, k, none⟩) (Nat.le_refl _) (.int .u8 ((s[k].toNat : Int) - 32))
        clear h1 e1
        go_wp2
        go_roundw
        case rel => exact ⟨k + 1, by omega, by go_num, B1, U1, F1⟩
        case measure => simp [intOf]; omega
      · have U1 := Lib.hid (HU1.out.stay hlt (upC_no h1))
        by_cases h2 : 97 ≤ s[k].toNat
        · have d1 : decide (97 ≤ (s[k].toNat : Int)) = true := decide_eq_true (by omega)
          have d2 : decide ((s[k].toNat : Int) ≤ 122) = false := decide_eq_false (by omega)
          clear h1
          go_wp2
          go_roundw
          case rel => exact ⟨k + 1, by omega, by go_num, hB, U1, HF1⟩
          case measure => simp [intOf]; omega
        · have d1 : decide (97 ≤ (s[k].toNat : Int)) = false := decide_eq_false (by omega)
          clear h1 h2
          go_wp2
          go_roundw
          case rel => exact ⟨k + 1, by omega, by go_num, hB, U1, HF1⟩
          case measure => simp [intOf]; omega
    · have hks : k = s.size := by omega
      have hul : (upL s.data.toList).length = s.size := by rw [upL_len, list_len]
      have HB := run_convert_bytes_back (P := Try.prog) wr 44 9 5 ⟨w.heap.size, 0, none⟩ cp (upL s.data.toList) Try.underlying44 Try.underlying5 Try.underlying9 (fun j hj => by
        have := HU1.out j (by omega)
        rw [if_pos (by omega)] at this
        rw [upL_at s j hj (by omega), ← this, add_off])
      rw [hul] at HB
      clear hul hks
      go_wp2
      go_ret
      exact ⟨rfl, hB⟩
end Go.Proofs.Ytgkabngpekokaaa.LexC
