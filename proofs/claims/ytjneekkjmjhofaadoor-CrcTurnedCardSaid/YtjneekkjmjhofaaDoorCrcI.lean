/-
  What the program's sums are taken to do; what every statement asks besides answers true; the law CrcSums.
-/
import Derived.Test.YtjneekkjmjhofaaDoorCrcA
namespace Go.Proofs.YtjneekkjmjhofaaDoor.CrcC
set_option linter.unusedVariables false
open Go.RowKit Go.Proofs.YtjneekkjmjhofaaDoor.NumC

/-- The program's sums: K is what their own variables have to hold. -/
structure CodeC (K : World → Prop) : Prop where
  keep : ∀ {w w' : World}, K w → Below w.heap.size w w' → K w'
  sum : ∀ (s : ByteArray) (w : World), K w → s.size ≤ 20000 → Calls Tryd.prog 7 #[.string s] w fun e w' => e = .returned (.int .u32 (sumN s.data.toList : Nat)) ∧ Below w.heap.size w w'
  next : ∀ (a : Nat) (b : UInt8) (w : World), K w → a < 4294967296 → Calls Tryd.prog 9 #[.int .u32 (a : Nat), .int .u8 (b.toNat : Nat)] w fun e w' => e = .returned (.int .u32 (nextN a b : Nat)) ∧ Below w.heap.size w w'
  join : ∀ (a b n : Nat) (w : World), K w → a < 4294967296 → b < 4294967296 → n ≤ 20000 → Calls Tryd.prog 11 #[.int .u32 (a : Nat), .int .u32 (b : Nat), .int .i64 n] w fun e w' => e = .returned (.int .u32 (joinN a b n : Nat)) ∧ Below w.heap.size w w'
  none : ∀ (a b : Nat) (n : Int) (w : World), K w → a < 4294967296 → b < 4294967296 → n < 0 → -9223372036854775808 ≤ n → Calls Tryd.prog 11 #[.int .u32 (a : Nat), .int .u32 (b : Nat), .int .i64 n] w fun e w' => e = .returned (.int .u32 0) ∧ Below w.heap.size w w'

set_option maxHeartbeats 1000000 in
theorem cwakes {K : World → Prop} (I : CodeC K) (w : World) (hK : K w) : Calls Tryd.prog 6 #[] w fun e w' => e = .returned (.bool true) ∧ Below w.heap.size w w' := by
  have HI := Lib.hid I
  have B := Lib.hid (Below.refl w.heap.size w)
  have h8 : sumN [49, 50, 51, 52, 53, 54, 55, 56] < 4294967296 := sum_lt _
  have h5 : sumN [49, 50, 51, 52, 53] < 4294967296 := sum_lt _
  have h4 : sumN [54, 55, 56, 57] < 4294967296 := sum_lt _
  have HK := Lib.hid hK
  have E1 := Lib.hid (show nextN (sumN [49, 50, 51, 52, 53, 54, 55, 56]) 57 = 0xcbf43926 by rw [← sum_next]; exact sum_digits)
  have E2 := Lib.hid (show joinN (sumN [49, 50, 51, 52, 53]) (sumN [54, 55, 56, 57]) 4 = 0xcbf43926 by
    have := sum_join [49, 50, 51, 52, 53] [54, 55, 56, 57]
    rw [show ([54, 55, 56, 57] : List UInt8).length = 4 from rfl] at this
    rw [← this]; exact sum_digits)
  have c1 := HI.out.sum { data := #[49, 50, 51, 52, 53, 54, 55, 56, 57] } w hK (by decide)
  rw [show sumN (ByteArray.mk #[49, 50, 51, 52, 53, 54, 55, 56, 57]).data.toList = 0xcbf43926 from sum_digits] at c1
  have C8 := Lib.hid (fun (w : World) (h : K w) => show Calls Tryd.prog 7 #[.string { data := #[49, 50, 51, 52, 53, 54, 55, 56] }] w (fun e w' => e = .returned (.int .u32 (sumN [49, 50, 51, 52, 53, 54, 55, 56] : Nat)) ∧ Below w.heap.size w w') from HI.out.sum _ w h (by decide))
  have C5 := Lib.hid (fun (w : World) (h : K w) => show Calls Tryd.prog 7 #[.string { data := #[49, 50, 51, 52, 53] }] w (fun e w' => e = .returned (.int .u32 (sumN [49, 50, 51, 52, 53] : Nat)) ∧ Below w.heap.size w w') from HI.out.sum _ w h (by decide))
  have C4 := Lib.hid (fun (w : World) (h : K w) => show Calls Tryd.prog 7 #[.string { data := #[54, 55, 56, 57] }] w (fun e w' => e = .returned (.int .u32 (sumN [54, 55, 56, 57] : Nat)) ∧ Below w.heap.size w w') from HI.out.sum _ w h (by decide))
  generalize sumN [49, 50, 51, 52, 53, 54, 55, 56] = n8 at *
  generalize sumN [49, 50, 51, 52, 53] = n5 at *
  generalize sumN [54, 55, 56, 57] = n4 at *
  clear I hK
  go_enter Tryd.func6, Tryd.ntmps6
  go_wp2_with fail
  refine c1.mono ?_; rintro e w1 ⟨rfl, hb1⟩
  have K1 := Lib.hid (HI.out.keep HK.out hb1)
  have B1 := Lib.hid (B.out.trans (hb1.mono B.out.size))
  clear c1 hb1
  go_wp2_with fail
  refine (C8.out w1 K1.out).mono ?_; rintro e w2 ⟨rfl, hb2⟩
  have K2 := Lib.hid (HI.out.keep K1.out hb2)
  have B2 := Lib.hid (B1.out.trans (hb2.mono B1.out.size))
  clear hb2
  go_wp2_with fail
  refine (HI.out.next n8 57 w2 K2.out h8).mono ?_; rw [E1.out]; rintro e w3 ⟨rfl, hb3⟩
  have K3 := Lib.hid (HI.out.keep K2.out hb3)
  have B3 := Lib.hid (B2.out.trans (hb3.mono B2.out.size))
  clear hb3
  go_wp2_with fail
  refine (C5.out w3 K3.out).mono ?_; rintro e w4 ⟨rfl, hb4⟩
  have K4 := Lib.hid (HI.out.keep K3.out hb4)
  have B4 := Lib.hid (B3.out.trans (hb4.mono B3.out.size))
  clear hb4
  go_wp2_with fail
  refine (C4.out w4 K4.out).mono ?_; rintro e w5 ⟨rfl, hb5⟩
  have K5 := Lib.hid (HI.out.keep K4.out hb5)
  have B5 := Lib.hid (B4.out.trans (hb5.mono B4.out.size))
  clear hb5
  go_wp2_with fail
  refine (HI.out.join n5 n4 4 w5 K5.out h5 h4 (by decide)).mono ?_; rw [E2.out]; rintro e w6 ⟨rfl, hb6⟩
  have B6 := Lib.hid (B5.out.trans (hb6.mono B5.out.size))
  clear hb6
  go_wp2_with fail
  go_ret
  exact ⟨rfl, B6.out⟩
end Go.Proofs.YtjneekkjmjhofaaDoor.CrcC
