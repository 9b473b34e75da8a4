/-
  Contracts of package addr and of its reference: columns' names, Made, Mod. Nothing is assumed but that the arguments are numbers of their kinds.
-/
import Derived.Test.YtogahgbfdmfmcaaDoorAddrA
import Derived.Test.YtogahgbfdmfmcaaDoorNumE
namespace Go.Proofs.YtogahgbfdmfmcaaDoor.AddrC
set_option linter.unusedVariables false
open Go.RowKit Go.Proofs.YtogahgbfdmfmcaaDoor.NumC

def abc : ByteArray := { data := #[65, 66, 67, 68, 69, 70, 71, 72, 73, 74, 75, 76, 77, 78, 79, 80, 81, 82, 83, 84, 85, 86, 87, 88, 89, 90] }
theorem abc_fin : ∀ i : Fin 26, (([65, 66, 67, 68, 69, 70, 71, 72, 73, 74, 75, 76, 77, 78, 79, 80, 81, 82, 83, 84, 85, 86, 87, 88, 89, 90] : List UInt8).drop i.val).take (i.val + 1 - i.val) = [UInt8.ofNat (65 + i.val)] := by decide
theorem letter (d : Nat) (h : d < 26) : ({ data := #[65, 66, 67, 68, 69, 70, 71, 72, 73, 74, 75, 76, 77, 78, 79, 80, 81, 82, 83, 84, 85, 86, 87, 88, 89, 90] } : ByteArray).extract d (d + 1) = ⟨[UInt8.ofNat (65 + d)].toArray⟩ := by
  apply WideShapes.bytes_inj
  rw [Lib.extract_data]
  exact abc_fin ⟨d, h⟩

set_option maxHeartbeats 400000 in
theorem rcolumn (c : Int) (w : World) (h0 : 1 ≤ c) (h1 : c ≤ 50) :
    Calls Tryd.prog 30 #[.int .i64 c] w fun e w' => e = .returned (.string ⟨(colL c).toArray⟩) ∧ w = w' := by
  by_cases h : c ≤ 26
  · obtain ⟨d, rfl⟩ : ∃ d : Nat, c = d + 1 := ⟨(c - 1).toNat, by omega⟩
    have E : Hid (colL (d + 1) = [UInt8.ofNat (65 + d)]) := Lib.hid (by unfold colL; rw [if_pos h, show 64 + ((d : Int) + 1).toNat = 65 + d from by omega])
    have P := Lib.hid (letter d (by omega))
    have hd : d < 26 := by omega
    clear h h0 h1
    go_enter Tryd.func30, Tryd.ntmps30
    go_wp2
    go_ret
    exact ⟨rets' (by rw [E.out]; exact P.out), rfl⟩
  · obtain ⟨d, rfl⟩ : ∃ d : Nat, c = d + 27 := ⟨(c - 27).toNat, by omega⟩
    have E : Hid (colL (d + 27) = [65, UInt8.ofNat (65 + d)]) := Lib.hid (by unfold colL; rw [if_neg h, show 38 + ((d : Int) + 27).toNat = 65 + d from by omega])
    have P := Lib.hid (letter d (by omega))
    have hd : d < 24 := by omega
    clear h h0 h1
    go_enter Tryd.func30, Tryd.ntmps30
    go_wp2
    go_ret
    exact ⟨rets' (by rw [E.out, P.out]; exact cons_str _ _), rfl⟩

set_option maxHeartbeats 400000 in
theorem columnName1 (c : Int) (w : World) (h0 : 1 ≤ c) (h : c ≤ 26) :
    Calls Tryd.prog 32 #[.int .i64 c] w fun e w' => e = .returned (.string ⟨(colL c).toArray⟩) ∧ w = w' := by
  obtain ⟨d, rfl⟩ : ∃ d : Nat, c = d + 1 := ⟨(c - 1).toNat, by omega⟩
  have E : Hid (colL (d + 1) = [UInt8.ofNat (65 + d)]) := Lib.hid (by unfold colL; rw [if_pos h, show 64 + ((d : Int) + 1).toNat = 65 + d from by omega])
  have hd : d < 26 := by omega
  have P := Lib.hid (letter d (by omega))
  have q1 : (d : Int) / 26 = 0 := by omega
  have q2 : (d : Int) % 26 = d := by omega
  clear h h0
  go_enter Tryd.func32, Tryd.ntmps32
  go_wp2_with fail
  go_ret
  exact ⟨rets' (by rw [E.out]; exact P.out), rfl⟩

set_option maxHeartbeats 400000 in
theorem columnName (c : Int) (w : World) (h0 : 1 ≤ c) (h1 : c ≤ 50) :
    Calls Tryd.prog 32 #[.int .i64 c] w fun e w' => e = .returned (.string ⟨(colL c).toArray⟩) ∧ w = w' := by
  by_cases h : c ≤ 26
  · exact columnName1 c w h0 h
  · obtain ⟨d, rfl⟩ : ∃ d : Nat, c = d + 27 := ⟨(c - 27).toNat, by omega⟩
    have E : Hid (colL (d + 27) = [65, UInt8.ofNat (65 + d)]) := Lib.hid (by unfold colL; rw [if_neg h, show 38 + ((d : Int) + 27).toNat = 65 + d from by omega])
    have E1 : Hid (colL 1 = [65]) := Lib.hid rfl
    have hd : d < 24 := by omega
    have P := Lib.hid (letter d (by omega))
    clear h h0 h1
    have q1 : ((d : Int) + 27 - 1) / 26 = 1 := by omega
    have q2 : ((d : Int) + 27 - 1) % 26 = d := by omega
    have q3 : (d + 27 - 1) % 26 = d := by omega
    go_enter Tryd.func32, Tryd.ntmps32
    go_wp2_with fail
    refine (columnName1 1 _ (by omega) (by omega)).mono ?_; rw [E1.out]; rintro e w' ⟨rfl, rfl⟩
    go_wp2_with fail
    go_ret
    exact ⟨rets' (by rw [E.out, P.out]; exact cons_str _ _), rfl⟩

/-- What Mod answers. -/
def modK (k m : Int) : Int := k.tmod m % m
theorem modK_bd (k : Int) {m : Int} (hm : 0 < m) : 0 ≤ modK k m ∧ modK k m < m := ⟨Int.emod_nonneg _ (by omega), Int.emod_lt_of_pos _ hm⟩

set_option maxHeartbeats 400000 in
theorem keepMod (k m : Int) (w : World) (hk : I64 k) (hm : 0 < m) (hm1 : m ≤ 1000) :
    Calls Tryd.prog 27 #[.int .i64 k, .int .i64 m] w fun e w' => e = .returned (.int .i64 (modK k m)) ∧ w = w' := by
  have h1 : ¬ m < 1 := by omega
  have b1 : (m == 0) = false := beq_eq_false_iff_ne.2 (by omega)
  have b2 : (m == -1) = false := beq_eq_false_iff_ne.2 (by omega)
  have t := Int.tmod_lt_of_pos k hm
  have t2 : -m < k.tmod m := by
    by_cases h : 0 ≤ k
    · have := Int.tmod_nonneg m h; omega
    · have h5 : (-k).tmod m < m := Int.tmod_lt_of_pos _ hm
      rw [Int.neg_tmod] at h5; omega
  go_enter Tryd.func27, Tryd.ntmps27
  go_wp2
  go_ret
  exact ⟨rfl, rfl⟩
end Go.Proofs.YtogahgbfdmfmcaaDoor.AddrC
