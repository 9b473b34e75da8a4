/-
  Contracts of the reference's numbers: whole, signed, or, Add, Sub. Nothing is assumed but that the arguments are numbers of their kinds.
-/
import Derived.Test.YtccigjelbnjcoaaGreatDoorProg
import Derived.Test.YtccigjelbnjcoaaGreatDoorPTellNumM
import Derived.WalkKit
import Derived.WalkSpells
import Derived.WalkLawsBesides
import Derived.Deep.QuietTactic
import Derived.BigQuiet
import Derived.Lib.Hide
namespace Go.Proofs.YtccigjelbnjcoaaGreatDoor.NumC
set_option linter.unusedVariables false
open Go.RowKit
theorem bcell {W w1 : World} (hb : Below W.heap.size W w1) : (∀ b o, b < W.heap.size → w1.cell? ⟨b, o, none⟩ = W.cell? ⟨b, o, none⟩) ∧ (∀ b o, b < W.heap.size → w1.frozen? ⟨b, o, none⟩ = W.frozen? ⟨b, o, none⟩) :=
  ⟨fun b o h => hb.cell (p := ⟨b, o, none⟩) h, fun b o h => hb.frozen (p := ⟨b, o, none⟩) h⟩
theorem below_of {w w1 : World} {o : Obj} (hb1 : Below (w.alloc o).heap.size (w.alloc o) w1) : Below w.heap.size w w1 :=
  ((Below.refl _ _).alloc (Nat.le_refl _) o).trans (hb1.mono (by simp))
theorem below_then {w w1 w2 : World} {o : Obj} (hb1 : Below (w.alloc o).heap.size (w.alloc o) w1) (hb2 : Below w1.heap.size w1 w2) : Below (w.alloc o).heap.size (w.alloc o) w2 :=
  hb1.trans (hb2.mono hb1.size)
end Go.Proofs.YtccigjelbnjcoaaGreatDoor.NumC
namespace Go.Proofs.YtccigjelbnjcoaaGreatDoor.RefsC
set_option linter.unusedVariables false
open Go.RowKit Go.Proofs.YtccigjelbnjcoaaGreatDoor.NumC
theorem ofInt_nat (x : Nat) (hx : x < 18446744073709551616) : (BitVec.ofInt 64 (x : Int)).toNat = x := by
  rw [BitVec.toNat_ofInt]
  have : ((2 ^ 64 : Nat) : Int) = 18446744073709551616 := rfl
  rw [this]
  omega
theorem bits_and (x y : Nat) (hx : x < 18446744073709551616) (hy : y < 18446744073709551616) : Op.intBits .and .u64 (x : Int) (y : Int) = pure (.int .u64 ((x &&& y : Nat) : Int)) := by
  have h : x &&& y < 18446744073709551616 := Nat.lt_of_le_of_lt Nat.and_le_left hx
  show (pure (.int .u64 (IntKind.u64.wrap ((BitVec.ofInt 64 (x : Int) &&& BitVec.ofInt 64 (y : Int)).toNat : Int))) : Sem Value) = _
  rw [BitVec.toNat_and, ofInt_nat x hx, ofInt_nat y hy]
  congr 2
  rw [IntKind.wrap_u64]; omega
theorem bits_or (x y : Nat) (hx : x < 18446744073709551616) (hy : y < 18446744073709551616) : Op.intBits .or .u64 (x : Int) (y : Int) = pure (.int .u64 ((x ||| y : Nat) : Int)) := by
  have h : x ||| y < 18446744073709551616 := Nat.or_lt_two_pow (n := 64) hx hy
  show (pure (.int .u64 (IntKind.u64.wrap ((BitVec.ofInt 64 (x : Int) ||| BitVec.ofInt 64 (y : Int)).toNat : Int))) : Sem Value) = _
  rw [BitVec.toNat_or, ofInt_nat x hx, ofInt_nat y hy]
  congr 2
  rw [IntKind.wrap_u64]; omega
theorem bits_andI (x y : Nat) (X Y : Int) (hX : X = x) (hY : Y = y) (hx : x < 18446744073709551616) (hy : y < 18446744073709551616) : Op.intBits .and .u64 X Y = pure (.int .u64 ((x &&& y : Nat) : Int)) := by
  subst hX hY; exact bits_and x y hx hy
theorem bits_low (v : Nat) (V : Int) (hV : V = v) (hv : v < 9223372036854775808) : Op.intBits .and .i64 V 127 = pure (.int .i64 ((v % 128 : Nat) : Int)) := by
  subst hV
  have h1 : (BitVec.ofInt 64 (v : Int)).toNat = v := ofInt_nat v (by omega)
  show (pure (.int .i64 (IntKind.i64.wrap ((BitVec.ofInt 64 (v : Int) &&& BitVec.ofInt 64 127).toNat : Int))) : Sem Value) = _
  have h2 : (BitVec.ofInt 64 (127 : Int)).toNat = 2 ^ 7 - 1 := by decide
  rw [BitVec.toNat_and, h1, h2, Nat.and_two_pow_sub_one_eq_mod]
  congr 2
  rw [IntKind.wrap_i64]; omega
def onesN (x : Nat) : Nat := ((List.range 64).filter fun i => x.testBit i).length
set_option maxHeartbeats 1000000 in
set_option maxRecDepth 100000 in
theorem ones (x : Nat) (hx : x < 18446744073709551616) (w : World) : Calls Tryz.prog 40 #[.int .u64 (x : Int)] w fun e w' => e = .returned (.int .i64 (onesN x : Int)) ∧ w' = w := by
  have hp := pc_sum x hx _ rfl
  have HP : Hid (_ ∧ _) := Lib.hid hp
  clear hp
  obtain ⟨a1, h1⟩ : ∃ a, a = x / 2 &&& 0x5555555555555555 := ⟨_, rfl⟩
  obtain ⟨a2, h2⟩ : ∃ a, a = x &&& 0x5555555555555555 := ⟨_, rfl⟩
  have b1 : a1 ≤ 6148914691236517205 := by rw [h1]; exact Nat.and_le_right
  have b2 : a2 ≤ 6148914691236517205 := by rw [h2]; exact Nat.and_le_right
  obtain ⟨a3, h3⟩ : ∃ a, a = (a1 + a2) / 4 &&& 0x3333333333333333 := ⟨_, rfl⟩
  obtain ⟨a4, h4⟩ : ∃ a, a = (a1 + a2) &&& 0x3333333333333333 := ⟨_, rfl⟩
  have b3 : a3 ≤ 3689348814741910323 := by rw [h3]; exact Nat.and_le_right
  have b4 : a4 ≤ 3689348814741910323 := by rw [h4]; exact Nat.and_le_right
  obtain ⟨a5, h5⟩ : ∃ a, a = ((a3 + a4) / 16 + (a3 + a4)) &&& 0x0f0f0f0f0f0f0f0f := ⟨_, rfl⟩
  have e5 : pc3 (pc2 (pc1 x)) = a5 := by
    unfold pc1; rw [← h1, ← h2]; unfold pc2; rw [← h3, ← h4]; unfold pc3; rw [← h5]
  have f1 := bits_andI (x / 2) 0x5555555555555555 ((x : Int) / 2) 6148914691236517205 (by omega) rfl (by omega) (by decide)
  have f2 := bits_andI x 0x5555555555555555 (x : Int) 6148914691236517205 rfl rfl hx (by decide)
  have f3 := bits_andI ((a1 + a2) / 4) 0x3333333333333333 (((a1 : Int) + (a2 : Int)) / 4) 3689348814741910323 (by omega) rfl (by omega) (by decide)
  have f4 := bits_andI (a1 + a2) 0x3333333333333333 ((a1 : Int) + (a2 : Int)) 3689348814741910323 (by omega) rfl (by omega) (by decide)
  have f5 := bits_andI ((a3 + a4) / 16 + (a3 + a4)) 0x0f0f0f0f0f0f0f0f (((a3 : Int) + (a4 : Int)) / 16 + ((a3 : Int) + (a4 : Int))) 1085102592571150095 (by omega) rfl (by omega) (by decide)
  rw [← h1] at f1; rw [← h2] at f2; rw [← h3] at f3; rw [← h4] at f4; rw [← h5] at f5
  have HQ := HP.out
  rw [e5] at HQ
  have b5 := HQ.1
  have hq := HQ.2
  clear HQ HP e5 h1 h2 h3 h4 h5
  have hq : Hid (_ = onesN x) := Lib.hid hq
  obtain ⟨v, hv⟩ : ∃ v, v = ((a5 + a5 / 256) + (a5 + a5 / 256) / 65536) + ((a5 + a5 / 256) + (a5 + a5 / 256) / 65536) / 4294967296 := ⟨_, rfl⟩
  have hv2 : v < 9223372036854775808 := by omega
  have f6 := bits_low v ((((a5 : Int) + (a5 : Int) / 256) + ((a5 : Int) + (a5 : Int) / 256) / 65536) + (((a5 : Int) + (a5 : Int) / 256) + ((a5 : Int) + (a5 : Int) / 256) / 65536) / 4294967296) (by omega) hv2
  have hq : Hid (v % 128 = onesN x) := Lib.hid (by rw [hv]; exact hq.out)
  clear hv hv2
  go_enter Tryz.func40, Tryz.ntmps40
  go_wp2
  go_ret
  exact ⟨by rw [← hq.out]; rfl, rfl⟩
end Go.Proofs.YtccigjelbnjcoaaGreatDoor.RefsC
