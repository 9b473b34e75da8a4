/-
  The statements' own example of layer 2 (wakes) answers true.
-/
import Derived.Test.YtogahgbfdmfmcaaDoorAddrE
import Derived.Test.YtogahgbfdmfmcaaDoorAddrF
namespace Go.Proofs.YtogahgbfdmfmcaaDoor.AddrC
set_option linter.unusedVariables false
open Go.RowKit Go.Proofs.YtogahgbfdmfmcaaDoor.NumC

def aa3 : ByteArray := { data := #[65, 65, 51] }
def ay1 : ByteArray := { data := #[65, 89, 49] }
theorem name_aa3 : nameL 3 27 = aa3.data.toList := by
  rw [nameL_cell (by decide)]
  unfold Lib.itoa
  rw [if_neg (by decide), Lib.decDigits_one (by decide)]
  decide
theorem parse_aa3 : pOK aa3.data.toList = true ∧ pR aa3.data.toList = 3 ∧ pC aa3.data.toList = 27 := p_some (by decide) name_aa3
theorem parse_ay1 : pR ay1.data.toList = 0 ∧ pC ay1.data.toList = 0 ∧ pOK ay1.data.toList = false := (p_parts (k := 0) (d := []) (by decide)).1 (Or.inl rfl)
theorem grown {w : World} {o : Obj} : Below w.heap.size w (w.alloc o) := (Below.refl _ _).alloc (Nat.le_refl _) _

set_option maxRecDepth 100000 in
set_option maxHeartbeats 2000000 in
theorem awakes (w : World) (hl : LibIs w) :
    Calls Tryd.prog 8 #[] w fun e w' => e = .returned (.bool true) ∧ Below w.heap.size w w' := by
  have P1 := Lib.hid parse_aa3
  have P2 := Lib.hid parse_ay1
  have M : Hid (mA 3 5 7 2 = 3 ∧ mB 3 5 7 2 = 2 ∧ mC 3 5 7 2 = 7 ∧ mD 3 5 7 2 = 5 ∧ madeB 3 5 7 2 = true) := Lib.hid (by decide)
  have N := Lib.hid name_aa3
  have C : Hid (countN 3 2 7 5 = 20) := Lib.hid (by decide)
  have H : Hid (hasB 3 2 7 5 4 4 = true) := Lib.hid (by decide)
  have G : Hid (cellB 3 27 = true) := Lib.hid (by decide)
  have Q : (({ data := aa3.data } : ByteArray).toList == [65, 65, 51]) = true := by rw [Lib.toList_data]; rfl
  go_enter Tryd.func8, Tryd.ntmps8
  go_wp2_with fail
  refine (aparse aa3 _ (by decide) hl).mono ?_; rw [P1.out.1, P1.out.2.1, P1.out.2.2]; rintro e w1 ⟨rfl, hb1⟩
  have hl1 := hl.below hb1
  have B1 : Below w.heap.size w (w1.alloc (.cells #[.int .i64 3, .int .i64 27] 23)) := hb1.trans (grown.mono hb1.size)
  have x0 : (w1.alloc (.cells #[.int .i64 3, .int .i64 27] 23)).cell? ⟨w1.heap.size, 0, none⟩ = some (.int .i64 3) := by simp [go_sem]
  have x1 : (w1.alloc (.cells #[.int .i64 3, .int .i64 27] 23)).cell? ⟨w1.heap.size, 1, none⟩ = some (.int .i64 27) := by simp [go_sem]
  go_wp2_with fail
  refine (aparse ay1 _ (by decide) (hl.below B1)).mono ?_; rw [P2.out.1, P2.out.2.1, P2.out.2.2]; rintro e w2 ⟨rfl, hb2⟩
  have B2 : Below w.heap.size w (w2.alloc (.cells #[.int .i64 0, .int .i64 0] 23)) := (B1.trans (hb2.mono B1.size)).trans (grown.mono (B1.trans (hb2.mono B1.size)).size)
  replace x0 := cell_later (grown (o := .cells #[.int .i64 0, .int .i64 0] 23)) (cell_later hb2 x0)
  replace x1 := cell_later (grown (o := .cells #[.int .i64 0, .int .i64 0] 23)) (cell_later hb2 x1)
  go_wp2_with fail
  refine (made 3 5 7 2 _).mono ?_; rw [M.out.1, M.out.2.1, M.out.2.2.1, M.out.2.2.2.1, M.out.2.2.2.2]; rintro e w3 ⟨rfl, hb3⟩
  have B3 : Below w.heap.size w (w3.alloc (.cells #[.int .i64 3, .int .i64 2, .int .i64 7, .int .i64 5] 35)) := (B2.trans (hb3.mono B2.size)).trans (grown.mono (B2.trans (hb3.mono B2.size)).size)
  replace x0 := cell_later (grown (o := .cells #[.int .i64 3, .int .i64 2, .int .i64 7, .int .i64 5] 35)) (cell_later hb3 x0)
  replace x1 := cell_later (grown (o := .cells #[.int .i64 3, .int .i64 2, .int .i64 7, .int .i64 5] 35)) (cell_later hb3 x1)
  go_wp2_with fail
  refine (name 3 27 _ (hl.below B3)).mono ?_; rw [N.out]; rintro e w4 ⟨rfl, hb4⟩
  replace x0 := cell_later hb4 x0
  replace x1 := cell_later hb4 x1
  obtain ⟨hc, hf⟩ := bcell hb4
  go_wp2_with fail
  refine (count 3 2 7 5 _).mono ?_; rw [C.out]; rintro e w5 ⟨rfl, hb5⟩
  replace x0 := cell_later hb5 x0
  replace x1 := cell_later hb5 x1
  have hb45 := hb4.trans (hb5.mono hb4.size)
  clear hc hf
  obtain ⟨hc, hf⟩ := bcell hb45
  go_wp2_with fail
  refine (has 3 2 7 5 4 4 _).mono ?_; rw [H.out]; rintro e w6 ⟨rfl, hb6⟩
  replace x0 := cell_later hb6 x0
  replace x1 := cell_later hb6 x1
  go_wp2_with fail
  refine (good 3 27 _).mono ?_; rw [G.out]; rintro e w7 ⟨rfl, hb7⟩
  go_wp2
  go_ret
  have hE := hb45.trans ((hb6.trans (hb7.mono hb6.size)).mono hb45.size)
  exact ⟨ret1 rfl, B3.trans (hE.mono B3.size)⟩
end Go.Proofs.YtogahgbfdmfmcaaDoor.AddrC
