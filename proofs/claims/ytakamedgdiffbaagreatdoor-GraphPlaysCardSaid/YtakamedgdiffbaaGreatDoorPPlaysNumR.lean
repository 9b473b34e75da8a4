/-
  Contracts of the reference's numbers: whole, signed, or, Add, Sub. Nothing is assumed but that the arguments are numbers of their kinds.
-/
import Derived.Test.YtakamedgdiffbaaGreatDoorProg
import Derived.Test.YtakamedgdiffbaaGreatDoorPPlaysNumM
import Derived.WalkKit
import Derived.WalkSpells
import Derived.WalkLawsBesides
import Derived.Deep.QuietTactic
import Derived.BigQuiet
import Derived.Lib.Hide
namespace Go.Proofs.YtakamedgdiffbaaGreatDoor.NumC
set_option linter.unusedVariables false
open Go.RowKit
theorem bcell {W w1 : World} (hb : Below W.heap.size W w1) : (∀ b o, b < W.heap.size → w1.cell? ⟨b, o, none⟩ = W.cell? ⟨b, o, none⟩) ∧ (∀ b o, b < W.heap.size → w1.frozen? ⟨b, o, none⟩ = W.frozen? ⟨b, o, none⟩) :=
  ⟨fun b o h => hb.cell (p := ⟨b, o, none⟩) h, fun b o h => hb.frozen (p := ⟨b, o, none⟩) h⟩
theorem below_of {w w1 : World} {o : Obj} (hb1 : Below (w.alloc o).heap.size (w.alloc o) w1) : Below w.heap.size w w1 :=
  ((Below.refl _ _).alloc (Nat.le_refl _) o).trans (hb1.mono (by simp))
theorem below_then {w w1 w2 : World} {o : Obj} (hb1 : Below (w.alloc o).heap.size (w.alloc o) w1) (hb2 : Below w1.heap.size w1 w2) : Below (w.alloc o).heap.size (w.alloc o) w2 :=
  hb1.trans (hb2.mono hb1.size)
end Go.Proofs.YtakamedgdiffbaaGreatDoor.NumC
namespace Go.Proofs.YtakamedgdiffbaaGreatDoor.RefsC
set_option linter.unusedVariables false
open Go.RowKit Go.Proofs.YtakamedgdiffbaaGreatDoor.NumC
theorem ofInt_nat (x : Nat) (hx : x < 18446744073709551616) : (BitVec.ofInt 64 (x : Int)).toNat = x := by
  rw [BitVec.toNat_ofInt]
  have : ((2 ^ 64 : Nat) : Int) = 18446744073709551616 := rfl
  rw [this]
  omega
theorem bits_and (x y : Nat) (hx : x < 18446744073709551616) (hy : y < 18446744073709551616) : Op.intBits .and .u64 (x : Int) (y : Int) = pure (.int .u64 ((x &&& y : Nat) : Int)) := by
  have h : x &&& y < 18446744073709551616 := Nat.lt_of_le_of_lt Nat.and_le_left hx
  show (pure (.int .u64 (IntKind.u64.wrap ((BitVec.ofInt 64 (x : Int) &&& BitVec.ofInt 64 (y : Int)).toNat : Int))) : Sem Value) = _
  rw [BitVec.toNat_and, ofInt_nat x hx, ofInt_nat y hy]
  congr 2
  rw [IntKind.wrap_u64]; omega
theorem bits_or (x y : Nat) (hx : x < 18446744073709551616) (hy : y < 18446744073709551616) : Op.intBits .or .u64 (x : Int) (y : Int) = pure (.int .u64 ((x ||| y : Nat) : Int)) := by
  have h : x ||| y < 18446744073709551616 := Nat.or_lt_two_pow (n := 64) hx hy
  show (pure (.int .u64 (IntKind.u64.wrap ((BitVec.ofInt 64 (x : Int) ||| BitVec.ofInt 64 (y : Int)).toNat : Int))) : Sem Value) = _
  rw [BitVec.toNat_or, ofInt_nat x hx, ofInt_nat y hy]
  congr 2
  rw [IntKind.wrap_u64]; omega
theorem bits_andI (x y : Nat) (X Y : Int) (hX : X = x) (hY : Y = y) (hx : x < 18446744073709551616) (hy : y < 18446744073709551616) : Op.intBits .and .u64 X Y = pure (.int .u64 ((x &&& y : Nat) : Int)) := by
  subst hX hY; exact bits_and x y hx hy
end Go.Proofs.YtakamedgdiffbaaGreatDoor.RefsC
