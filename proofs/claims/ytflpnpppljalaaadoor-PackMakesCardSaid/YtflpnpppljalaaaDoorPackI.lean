/-
  What the program's bytes are taken to be; what every statement asks besides answers true.
-/
import Derived.Test.YtflpnpppljalaaaDoorPackB
namespace Go.Proofs.YtflpnpppljalaaaDoor.PackC
set_option linter.unusedVariables false
open Go.RowKit Go.Proofs.YtflpnpppljalaaaDoor.NumC Go.Proofs.YtflpnpppljalaaaDoor.RowsC

/-- The program's pack: K is what its own variables have to hold. -/
structure CodeP (K : World → Prop) : Prop where
  keep : ∀ {w w' : World}, K w → Below w.heap.size w w' → K w'
  pNum : ∀ (v : Nat) (n : Int) (w : World), K w → v < 18446744073709551616 → I64 n → Calls Tryd.prog 8 #[.int .u64 (v : Nat), .int .i64 n] w fun e w' => e = .returned (.tuple #[.string (numS v n), .int .i64 (numE v n)]) ∧ Below w.heap.size w w'
  pText : ∀ (s : ByteArray) (w : World), K w → s.size ≤ 100000 → Calls Tryd.prog 10 #[.string s] w fun e w' => e = .returned (.tuple #[.string (textS s), .int .i64 (textE s)]) ∧ Below w.heap.size w w'
  pTake : ∀ (b : ByteArray) (p n : Int) (w : World), K w → b.size ≤ 100000 → I64 p → I64 n → Calls Tryd.prog 12 #[.string b, .int .i64 p, .int .i64 n] w fun e w' => e = .returned (.tuple #[.int .u64 (takeV b p n : Nat), .int .i64 (takeK b p n), .int .i64 (takeE b p n)]) ∧ Below w.heap.size w w'
  pCut : ∀ (b : ByteArray) (p m : Int) (w : World), K w → b.size ≤ 100000 → I64 p → I64 m → Calls Tryd.prog 14 #[.string b, .int .i64 p, .int .i64 m] w fun e w' => e = .returned (.tuple #[.string (cutS b p m), .int .i64 (cutK b p m), .int .i64 (cutE b p m)]) ∧ Below w.heap.size w w'

set_option maxHeartbeats 1000000 in
theorem cwakes {K : World → Prop} (I : CodeP K) (w : World) (hK : K w) : Calls Tryd.prog 7 #[] w fun e w' => e = .returned (.bool true) ∧ Below w.heap.size w w' := by
  have HI := Lib.hid I
  have HK := Lib.hid hK
  have E1 := Lib.hid (show numS 258 2 = ⟨#[1, 2]⟩ ∧ numE 258 2 = 0 by decide +kernel)
  have E2 := Lib.hid (show textS ⟨#[97]⟩ = ⟨#[0, 1, 97]⟩ ∧ textE ⟨#[97]⟩ = 0 by decide +kernel)
  have E3 := Lib.hid (show takeV ⟨#[1, 2, 3]⟩ 1 2 = 515 ∧ takeK ⟨#[1, 2, 3]⟩ 1 2 = 3 ∧ takeE ⟨#[1, 2, 3]⟩ 1 2 = 0 by decide +kernel)
  have E4 := Lib.hid (show cutS ⟨#[0, 1, 97]⟩ 0 9 = ⟨#[97]⟩ ∧ cutK ⟨#[0, 1, 97]⟩ 0 9 = 3 ∧ cutE ⟨#[0, 1, 97]⟩ 0 9 = 0 by decide +kernel)
  have hi : ∀ k : Int, 0 ≤ k ∧ k < 10 → I64 k := fun k h => by unfold I64; omega
  clear I hK
  go_enter Tryd.func7, Tryd.ntmps7
  go_wp2_with fail
  refine (HI.out.pNum 258 2 w HK.out (by decide) (hi 2 (by decide))).mono ?_; rw [E1.out.1, E1.out.2]; rintro e x1 ⟨rfl, hb1⟩
  have B1 := Lib.hid (hb1)
  have K1 := Lib.hid (HI.out.keep HK.out hb1)
  clear hb1
  go_wp2_with fail
  refine (HI.out.pText ⟨#[97]⟩ x1 K1.out (by decide)).mono ?_; rw [E2.out.1, E2.out.2]; rintro e x2 ⟨rfl, hb2⟩
  have B2 := Lib.hid (B1.out.trans (hb2.mono B1.out.size))
  have K2 := Lib.hid (HI.out.keep K1.out hb2)
  clear hb2
  go_wp2_with fail
  refine (HI.out.pTake ⟨#[1, 2, 3]⟩ 1 2 x2 K2.out (by decide) (hi 1 (by decide)) (hi 2 (by decide))).mono ?_; rw [E3.out.1, E3.out.2.1, E3.out.2.2]; rintro e x3 ⟨rfl, hb3⟩
  have B3 := Lib.hid (B2.out.trans (hb3.mono B2.out.size))
  have K3 := Lib.hid (HI.out.keep K2.out hb3)
  clear hb3
  go_wp2_with fail
  refine (HI.out.pCut ⟨#[0, 1, 97]⟩ 0 9 x3 K3.out (by decide) (hi 0 (by decide)) (hi 9 (by decide))).mono ?_; rw [E4.out.1, E4.out.2.1, E4.out.2.2]; rintro e x4 ⟨rfl, hb4⟩
  have B4 := Lib.hid (B3.out.trans (hb4.mono B3.out.size))
  have K4 := Lib.hid (HI.out.keep K3.out hb4)
  clear hb4
  go_wp2_with fail
  go_ret
  exact ⟨rfl, B4.out⟩
end Go.Proofs.YtflpnpppljalaaaDoor.PackC
