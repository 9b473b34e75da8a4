/-
  The laws of crc at numbers as arguments bring them.
-/
import Derived.Test.YtjneekkjmjhofaaDoorCrcL1
import Derived.Test.YtjneekkjmjhofaaDoorCrcL2
namespace Go.Proofs.YtjneekkjmjhofaaDoor.CrcC
set_option linter.unusedVariables false
open Go.RowKit Go.Proofs.YtjneekkjmjhofaaDoor.NumC

theorem u32_of_wf {a : Int} (h : (Lit.int .u32 a).wf = true) : 0 ≤ a ∧ a ≤ 4294967295 := by
  simp [Lit.wf, IntKind.min, IntKind.max, IntKind.signed, IntKind.bits] at h; omega
theorem byte_of {b : Int} (h : 0 ≤ b ∧ b ≤ 255) : ∃ x : UInt8, b = (x.toNat : Int) := ⟨UInt8.ofNat b.toNat, by
  have : (UInt8.ofNat b.toNat).toNat = b.toNat := by rw [UInt8.toNat_ofNat']; omega
  rw [this]; omega⟩
theorem crcSumsI {K : World → Prop} (I : CodeC K) (s : ByteArray) (a b : Int) (w : World) (ha : 0 ≤ a ∧ a ≤ 4294967295) (hb : 0 ≤ b ∧ b ≤ 255) (hK : K w) :
    Calls Tryd.prog 3 #[.string s, .int .u32 a, .int .u8 b] w fun e w' => e = .returned (.bool true) ∧ Below w.heap.size w w' := by
  obtain ⟨n, rfl⟩ : ∃ n : Nat, a = n := ⟨a.toNat, by omega⟩
  obtain ⟨x, rfl⟩ := byte_of hb
  exact crcSums I s n x w (by omega) hK
theorem crcTurnedI {K : World → Prop} (I : CodeC K) (s : ByteArray) (a f : Int) (w : World) (ha : I64 a) (hf : 0 ≤ f ∧ f ≤ 4294967295) (hK : K w) :
    Calls Tryd.prog 5 #[.string s, .int .i64 a, .int .u32 f] w fun e w' => e = .returned (.bool true) ∧ Below w.heap.size w w' := by
  obtain ⟨n, rfl⟩ : ∃ n : Nat, f = n := ⟨f.toNat, by omega⟩
  exact crcTurned I s a n w ha (by omega) hK
end Go.Proofs.YtjneekkjmjhofaaDoor.CrcC
