/-
  The laws of pack at numbers as arguments bring them.
-/
import Derived.Test.YtflpnpppljalaaaDoorPackL1
import Derived.Test.YtflpnpppljalaaaDoorPackL3
namespace Go.Proofs.YtflpnpppljalaaaDoor.PackC
set_option linter.unusedVariables false
open Go.RowKit Go.Proofs.YtflpnpppljalaaaDoor.NumC

theorem u64_of_wf {a : Int} (h : (Lit.int .u64 a).wf = true) : 0 ≤ a ∧ a ≤ 18446744073709551615 := by
  simp [Lit.wf, IntKind.min, IntKind.max, IntKind.signed, IntKind.bits] at h; omega
theorem packMakesI {K : World → Prop} (I : CodeP K) (v n : Int) (s : ByteArray) (w : World) (hv : 0 ≤ v ∧ v ≤ 18446744073709551615) (hn : I64 n) (hK : K w) :
    Calls Tryd.prog 3 #[.int .u64 v, .int .i64 n, .string s] w fun e w' => e = .returned (.bool true) ∧ Below w.heap.size w w' := by
  obtain ⟨a, rfl⟩ : ∃ a : Nat, v = a := ⟨v.toNat, by omega⟩
  exact packMakes I a n s w (by omega) hn hK
theorem packBackI {K : World → Prop} (I : CodeP K) (v : Int) (s r : ByteArray) (w : World) (hv : 0 ≤ v ∧ v ≤ 18446744073709551615) (hK : K w) :
    Calls Tryd.prog 5 #[.int .u64 v, .string s, .string r] w fun e w' => e = .returned (.bool true) ∧ Below w.heap.size w w' := by
  obtain ⟨a, rfl⟩ : ∃ a : Nat, v = a := ⟨v.toNat, by omega⟩
  exact packBack I a s r w (by omega) hK
theorem packApartI {K : World → Prop} (I : CodeP K) (f : Nat → Int) (s t : ByteArray) (w : World) (hf : ∀ i, i < 2 → (Lit.int .u64 (f i)).wf = true) (hK : K w) :
    Calls Tryd.prog 6 #[.agg ((List.range 2).map fun i => Value.int .u64 (f i)).toArray, .string s, .string t] w fun e w' => e = .returned (.bool true) ∧ Below w.heap.size w w' := by
  have h0 := u64_of_wf (hf 0 (by decide))
  have h1 := u64_of_wf (hf 1 (by decide))
  obtain ⟨a, ha⟩ : ∃ a : Nat, f 0 = a := ⟨(f 0).toNat, by omega⟩
  obtain ⟨b, hb⟩ : ∃ b : Nat, f 1 = b := ⟨(f 1).toNat, by omega⟩
  have e : ((List.range 2).map fun i => Value.int .u64 (f i)).toArray = #[.int .u64 (a : Nat), .int .u64 (b : Nat)] := by rw [← ha, ← hb]; rfl
  rw [e]
  exact packApart I a b s t w (by omega) (by omega) hK
end Go.Proofs.YtflpnpppljalaaaDoor.PackC
