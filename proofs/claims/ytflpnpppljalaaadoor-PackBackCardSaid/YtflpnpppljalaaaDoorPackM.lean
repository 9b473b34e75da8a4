/-
  Numbers and texts as bytes, as plain functions.
-/
import Derived.Test.YtflpnpppljalaaaDoorProg
namespace Go.Proofs.YtflpnpppljalaaaDoor.PackC
set_option linter.unusedVariables false

def nos : ByteArray := ⟨#[]⟩
def rowS (l : List UInt8) : ByteArray := ⟨l.toArray⟩
/-- So many bytes of a number, the highest first. -/
def beN : Nat → Nat → List UInt8
  | 0, _ => []
  | k + 1, v => UInt8.ofNat (v / 256 ^ k % 256) :: beN k v
def valF (a : Nat) (l : List UInt8) : Nat := l.foldl (fun a b => a * 256 + b.toNat) a
def sizedB (n : Int) : Bool := n == 1 || (n == 2 || (n == 4 || n == 8))
def numE (v : Nat) (n : Int) : Int := if sizedB n = true then (if v / 256 ^ n.toNat = 0 then 0 else 2) else 1
def numS (v : Nat) (n : Int) : ByteArray := if numE v n = 0 then rowS (beN n.toNat v) else nos
def textE (s : ByteArray) : Int := if 65535 < s.size then 2 else 0
def textS (s : ByteArray) : ByteArray := if 65535 < s.size then nos else rowS (beN 2 s.size) ++ s
def takeE (b : ByteArray) (p n : Int) : Int := if sizedB n = true then (if 0 ≤ p ∧ p ≤ b.size ∧ n ≤ b.size - p then 0 else 11) else 1
def takeV (b : ByteArray) (p n : Int) : Nat := if takeE b p n = 0 then valF 0 ((b.data.toList.drop p.toNat).take n.toNat) else 0
def takeK (b : ByteArray) (p n : Int) : Int := if takeE b p n = 0 then p + n else 0
def cutE (b : ByteArray) (p m : Int) : Int := if takeE b p 2 ≠ 0 ∨ (b.size : Int) - takeK b p 2 < takeV b p 2 then 11 else if m < takeV b p 2 then 2 else 0
def cutS (b : ByteArray) (p m : Int) : ByteArray := if cutE b p m = 0 then b.extract (p.toNat + 2) (p.toNat + 2 + takeV b p 2) else nos
def cutK (b : ByteArray) (p m : Int) : Int := if cutE b p m = 0 then takeK b p 2 + takeV b p 2 else 0

theorem sized_of {n : Int} (h : sizedB n = true) : n = 1 ∨ n = 2 ∨ n = 4 ∨ n = 8 := by
  unfold sizedB at h; simpa using h
theorem sized_nat {n : Int} (h : sizedB n = true) : ∃ k : Nat, n = k ∧ 1 ≤ k ∧ k ≤ 8 := by
  rcases sized_of h with rfl | rfl | rfl | rfl
  · exact ⟨1, rfl, by decide, by decide⟩
  · exact ⟨2, rfl, by decide, by decide⟩
  · exact ⟨4, rfl, by decide, by decide⟩
  · exact ⟨8, rfl, by decide, by decide⟩
theorem be_len (k v : Nat) : (beN k v).length = k := by
  induction k with
  | zero => rfl
  | succ k ih => unfold beN; rw [List.length_cons, ih]
theorem val_cons (a : Nat) (x : UInt8) (l : List UInt8) : valF a (x :: l) = valF (a * 256 + x.toNat) l := rfl
theorem val_append (a : Nat) (l m : List UInt8) : valF a (l ++ m) = valF (valF a l) m := by unfold valF; rw [List.foldl_append]
theorem val_lt (l : List UInt8) : ∀ a, valF a l < (a + 1) * 256 ^ l.length := by
  induction l with
  | nil => intro a; show a < (a + 1) * 256 ^ 0; omega
  | cons x l ih =>
    intro a
    have h := ih (a * 256 + x.toNat)
    have hx := x.toNat_lt
    rw [val_cons, List.length_cons, Nat.pow_succ]
    refine Nat.lt_of_lt_of_le h ?_
    rw [← Nat.mul_assoc, Nat.mul_right_comm]
    exact Nat.mul_le_mul_right _ (by omega)
theorem byte_toNat {n : Nat} (h : n < 256) : (UInt8.ofNat n).toNat = n := by rw [UInt8.toNat_ofNat']; omega
theorem val_be (k v a : Nat) : valF a (beN k v) = a * 256 ^ k + v % 256 ^ k := by
  induction k generalizing a with
  | zero => show a = a * 256 ^ 0 + v % 256 ^ 0; rw [Nat.pow_zero, Nat.mod_one]; omega
  | succ k ih =>
    unfold beN
    rw [val_cons, ih, byte_toNat (Nat.mod_lt _ (by decide)), Nat.pow_succ, Nat.mod_mul]
    rw [Nat.add_mul, Nat.mul_assoc a 256, Nat.mul_comm 256, Nat.mul_comm (256 ^ k) (v / 256 ^ k % 256)]
    omega
theorem be_val (k v : Nat) (h : v < 256 ^ k) : valF 0 (beN k v) = v := by
  rw [val_be, Nat.zero_mul, Nat.zero_add, Nat.mod_eq_of_lt h]
theorem be_inj {k v u : Nat} (hv : v < 256 ^ k) (hu : u < 256 ^ k) (h : beN k v = beN k u) : v = u := by
  rw [← be_val k v hv, h, be_val k u hu]
/-- One byte more, below those that are there. -/
theorem be_row (n k v : Nat) (hk : k < n) : ((List.replicate (n - k) (0 : UInt8) ++ beN k v).set (n - k - 1) (UInt8.ofNat (v / 256 ^ k % 256))) = List.replicate (n - (k + 1)) (0 : UInt8) ++ beN (k + 1) v := by
  obtain ⟨d, hd⟩ : ∃ d, n - k = d + 1 := ⟨n - k - 1, by omega⟩
  rw [hd, show n - (k + 1) = d by omega, show d + 1 - 1 = d by omega]
  have e : List.replicate (d + 1) (0 : UInt8) = List.replicate d 0 ++ [0] := List.replicate_succ'
  rw [e, List.append_assoc, List.set_append_right _ _ (by rw [List.length_replicate]; exact Nat.le_refl _), List.length_replicate, Nat.sub_self]
  rfl
theorem div_more (v k : Nat) : v / 256 ^ k / 256 = v / 256 ^ (k + 1) := by rw [Nat.div_div_eq_div_mul, Nat.pow_succ]
/-- Bytes in the order of their numbers. -/
theorem be_lt (k : Nat) : ∀ v u : Nat, v < 256 ^ k → u < 256 ^ k → (beN k v < beN k u ↔ v < u) := by
  induction k with
  | zero =>
    intro v u hv hu
    rw [Nat.pow_zero] at hv hu
    have e1 : v = 0 := by omega
    have e2 : u = 0 := by omega
    subst e1 e2
    exact ⟨fun h => absurd h (List.lt_irrefl _), fun h => absurd h (Nat.lt_irrefl _)⟩
  | succ k ih =>
    intro v u hv hu
    have hp : 0 < 256 ^ k := Nat.pow_pos (by decide)
    have hlow : ∀ x, beN k x = beN k (x % 256 ^ k) := by
      intro x
      have : ∀ j, j ≤ k → beN j x = beN j (x % 256 ^ k) := by
        intro j
        induction j with
        | zero => intro _; rfl
        | succ j ihj =>
          intro hj
          unfold beN
          rw [ihj (by omega)]
          congr 2
          have e : 256 ^ k = 256 ^ j * 256 ^ (k - j) := by rw [← Nat.pow_add]; congr 1; omega
          have e2 : 256 ^ (k - j) = 256 * 256 ^ (k - j - 1) := by rw [← Nat.pow_succ']; congr 1; omega
          rw [e, Nat.mod_mul_right_div_self, e2, Nat.mod_mul_right_mod]
      exact this k (Nat.le_refl _)
    have hv1 : v / 256 ^ k < 256 := Nat.div_lt_of_lt_mul (by rw [Nat.pow_succ] at hv; exact hv)
    have hu1 : u / 256 ^ k < 256 := Nat.div_lt_of_lt_mul (by rw [Nat.pow_succ] at hu; exact hu)
    unfold beN
    rw [Nat.mod_eq_of_lt hv1, Nat.mod_eq_of_lt hu1, List.cons_lt_cons_iff, hlow v, hlow u, ih _ _ (Nat.mod_lt _ hp) (Nat.mod_lt _ hp)]
    have hcmp : (UInt8.ofNat (v / 256 ^ k) < UInt8.ofNat (u / 256 ^ k)) ↔ v / 256 ^ k < u / 256 ^ k := by
      rw [UInt8.lt_iff_toNat_lt, byte_toNat hv1, byte_toNat hu1]
    have heq : (UInt8.ofNat (v / 256 ^ k) = UInt8.ofNat (u / 256 ^ k)) ↔ v / 256 ^ k = u / 256 ^ k := by
      constructor
      · intro h; rw [← byte_toNat hv1, h, byte_toNat hu1]
      · intro h; rw [h]
    rw [hcmp, heq]
    have ev := Nat.div_add_mod v (256 ^ k)
    have eu := Nat.div_add_mod u (256 ^ k)
    have hmv := Nat.mod_lt v hp
    have hmu := Nat.mod_lt u hp
    generalize v / 256 ^ k = a at *
    generalize u / 256 ^ k = b at *
    generalize v % 256 ^ k = c at *
    generalize u % 256 ^ k = d at *
    generalize 256 ^ k = p at *
    rw [← ev, ← eu]
    constructor
    · rintro (h | ⟨h, h2⟩)
      · have : p * (a + 1) ≤ p * b := Nat.mul_le_mul_left _ h
        rw [Nat.mul_succ] at this
        omega
      · subst h; omega
    · intro h
      rcases Nat.lt_trichotomy a b with h2 | h2 | h2
      · exact Or.inl h2
      · subst h2; exact Or.inr ⟨rfl, by omega⟩
      · have : p * (b + 1) ≤ p * a := Nat.mul_le_mul_left _ h2
        rw [Nat.mul_succ] at this
        omega
end Go.Proofs.YtflpnpppljalaaaDoor.PackC
