/-
  Plain arithmetic for package num: sizes of numbers, a number or that there is none. No program in it.
-/
import Derived.WalkKit
namespace Go.Proofs.YtccigjelbnjcoaaGreatDoor.NumC
set_option linter.unusedVariables false
open Go.RowKit
def I64 (a : Int) : Prop := -9223372036854775808 ≤ a ∧ a ≤ 9223372036854775807
instance (n : Int) : Decidable (I64 n) := by unfold I64; infer_instance
theorem ret2 {x x' : Int} {b b' : Bool} (hx : x = x') (hb : b = b') : Ending.returned (.tuple #[.int .i64 x, .bool b]) = .returned (.tuple #[.int .i64 x', .bool b']) := by subst hx hb; rfl
theorem ret1 {b b' : Bool} (hb : b = b') : Ending.returned (.bool b) = .returned (.bool b') := by subst hb; rfl
def pw (a : Int) (k : Nat) : Int := a ^ k
end Go.Proofs.YtccigjelbnjcoaaGreatDoor.NumC
namespace Go.Proofs.YtccigjelbnjcoaaGreatDoor.RefsC
set_option linter.unusedVariables false
def byt : List Nat → Nat
  | [] => 0
  | b :: l => b + 256 * byt l
theorem land_add (h m l k : Nat) (hl : l < 256) (hk : k < 256) : (l + 256 * h) &&& (k + 256 * m) = (l &&& k) + 256 * (h &&& m) := by
  have e1 : l + 256 * h = 2 ^ 8 * h + l := by omega
  have e2 : k + 256 * m = 2 ^ 8 * m + k := by omega
  have h3 : l &&& k < 2 ^ 8 := Nat.lt_of_le_of_lt Nat.and_le_left hl
  have e3 : (l &&& k) + 256 * (h &&& m) = 2 ^ 8 * (h &&& m) + (l &&& k) := by omega
  rw [e1, e2, e3]
  apply Nat.eq_of_testBit_eq
  intro i
  rw [Nat.testBit_and, Nat.testBit_two_pow_mul_add _ (by simpa using hl), Nat.testBit_two_pow_mul_add _ (by simpa using hk), Nat.testBit_two_pow_mul_add _ h3]
  split
  · rw [Nat.testBit_and]
  · rw [Nat.testBit_and]
def msk (b : Nat) (n : Nat) : Nat := byt (List.replicate n b)
theorem msk_succ (b n : Nat) : msk b (n + 1) = b + 256 * msk b n := rfl
theorem land_byt (k : Nat) (hk : k < 256) : ∀ l : List Nat, (∀ b ∈ l, b < 256) → byt l &&& msk k l.length = byt (l.map (· &&& k))
  | [], _ => by simp [byt]
  | b :: l, h => by
    rw [List.length_cons, msk_succ, List.map_cons]
    show (b + 256 * byt l) &&& _ = (b &&& k) + 256 * byt (l.map (· &&& k))
    rw [land_add _ _ _ _ (h b (List.mem_cons_self ..)) hk, land_byt k hk l (fun c hc => h c (List.mem_cons_of_mem _ hc))]
theorem shr1 : ∀ l : List Nat, (∀ b ∈ l, b < 256) → byt l / 2 &&& msk 85 l.length = byt (l.map (fun b => b / 2 &&& 85))
  | [], _ => by simp [byt]
  | b :: l, h => by
    have hb := h b (List.mem_cons_self ..)
    rw [List.length_cons, msk_succ, List.map_cons]
    show (b + 256 * byt l) / 2 &&& _ = (b / 2 &&& 85) + 256 * byt (l.map (fun b => b / 2 &&& 85))
    have e : (b + 256 * byt l) / 2 = (b / 2 + 128 * (byt l % 2)) + 256 * (byt l / 2) := by omega
    rw [e, land_add _ _ _ _ (by omega) (by decide), shr1 l (fun c hc => h c (List.mem_cons_of_mem _ hc))]
    have key : ∀ (b : Fin 256) (e : Fin 2), (b.val / 2 + 128 * e.val) &&& 85 = b.val / 2 &&& 85 := by decide +kernel
    have := key ⟨b, hb⟩ ⟨byt l % 2, by omega⟩
    simp only at this
    rw [this]
theorem shr2 : ∀ l : List Nat, (∀ b ∈ l, b < 256) → byt l / 4 &&& msk 51 l.length = byt (l.map (fun b => b / 4 &&& 51))
  | [], _ => by simp [byt]
  | b :: l, h => by
    have hb := h b (List.mem_cons_self ..)
    rw [List.length_cons, msk_succ, List.map_cons]
    show (b + 256 * byt l) / 4 &&& _ = (b / 4 &&& 51) + 256 * byt (l.map (fun b => b / 4 &&& 51))
    have e : (b + 256 * byt l) / 4 = (b / 4 + 64 * (byt l % 4)) + 256 * (byt l / 4) := by omega
    rw [e, land_add _ _ _ _ (by omega) (by decide), shr2 l (fun c hc => h c (List.mem_cons_of_mem _ hc))]
    have key : ∀ (b : Fin 256) (e : Fin 4), (b.val / 4 + 64 * e.val) &&& 51 = b.val / 4 &&& 51 := by decide +kernel
    have := key ⟨b, hb⟩ ⟨byt l % 4, by omega⟩
    simp only at this
    rw [this]
theorem byt_add (f g : Nat → Nat) : ∀ l : List Nat, byt (l.map f) + byt (l.map g) = byt (l.map (fun b => f b + g b))
  | [] => rfl
  | b :: l => by
    show (f b + 256 * byt (l.map f)) + (g b + 256 * byt (l.map g)) = (f b + g b) + 256 * byt (l.map (fun b => f b + g b))
    rw [← byt_add f g l]; omega
theorem byt_low : ∀ l : List Nat, (∀ b ∈ l, b % 16 ≤ 4) → byt l % 16 ≤ 4
  | [], _ => by simp [byt]
  | b :: l, h => by
    have := h b (List.mem_cons_self ..)
    show (b + 256 * byt l) % 16 ≤ 4
    omega
theorem shr4 : ∀ l : List Nat, (∀ b ∈ l, b / 16 ≤ 4 ∧ b % 16 ≤ 4) → (byt l / 16 + byt l) &&& msk 15 l.length = byt (l.map (fun b => b / 16 + b % 16))
  | [], _ => by simp [byt]
  | b :: l, h => by
    have hb := h b (List.mem_cons_self ..)
    have hl := byt_low l (fun c hc => (h c (List.mem_cons_of_mem _ hc)).2)
    rw [List.length_cons, msk_succ, List.map_cons]
    show ((b + 256 * byt l) / 16 + (b + 256 * byt l)) &&& _ = (b / 16 + b % 16) + 256 * byt (l.map (fun b => b / 16 + b % 16))
    have e : (b + 256 * byt l) / 16 + (b + 256 * byt l) = (b / 16 + b + 16 * (byt l % 16)) + 256 * (byt l / 16 + byt l) := by omega
    rw [e, land_add _ _ _ _ (by omega) (by decide), shr4 l (fun c hc => h c (List.mem_cons_of_mem _ hc))]
    have e2 : (b / 16 + b + 16 * (byt l % 16)) &&& 15 = b / 16 + b % 16 := by
      rw [show (15 : Nat) = 2 ^ 4 - 1 from rfl, Nat.and_two_pow_sub_one_eq_mod]
      omega
    rw [e2]
def pop8 (b : Nat) : Nat := ((List.range 8).filter fun i => b.testBit i).length
theorem pop8_of : ∀ b : Fin 256, ((b.val / 2 &&& 85) + (b.val &&& 85)) < 256 ∧
    (let c := (b.val / 2 &&& 85) + (b.val &&& 85); let d := (c / 4 &&& 51) + (c &&& 51); d / 16 ≤ 4 ∧ d % 16 ≤ 4 ∧ d < 256 ∧ d / 16 + d % 16 = pop8 b.val ∧ pop8 b.val ≤ 8) := by decide +kernel
def pc1 (x : Nat) : Nat := (x / 2 &&& 0x5555555555555555) + (x &&& 0x5555555555555555)
def pc2 (x : Nat) : Nat := (x / 4 &&& 0x3333333333333333) + (x &&& 0x3333333333333333)
def pc3 (x : Nat) : Nat := (x / 16 + x) &&& 0x0f0f0f0f0f0f0f0f
theorem pc_byt (b0 b1 b2 b3 b4 b5 b6 b7 : Nat) (h0 : b0 < 256) (h1 : b1 < 256) (h2 : b2 < 256) (h3 : b3 < 256) (h4 : b4 < 256) (h5 : b5 < 256) (h6 : b6 < 256) (h7 : b7 < 256) :
    pc3 (pc2 (pc1 (byt [b0, b1, b2, b3, b4, b5, b6, b7]))) = byt [pop8 b0, pop8 b1, pop8 b2, pop8 b3, pop8 b4, pop8 b5, pop8 b6, pop8 b7] := by
  have H : ∀ b ∈ [b0, b1, b2, b3, b4, b5, b6, b7], b < 256 := by simp; omega
  have m1 : (0x5555555555555555 : Nat) = msk 85 8 := by decide +kernel
  have m2 : (0x3333333333333333 : Nat) = msk 51 8 := by decide +kernel
  have m3 : (0x0f0f0f0f0f0f0f0f : Nat) = msk 15 8 := by decide +kernel
  generalize hl : [b0, b1, b2, b3, b4, b5, b6, b7] = l at H
  have hn : l.length = 8 := by rw [← hl]; rfl
  have e1 : pc1 (byt l) = byt (l.map fun b => (b / 2 &&& 85) + (b &&& 85)) := by
    unfold pc1
    rw [m1, ← hn, shr1 l H, land_byt 85 (by decide) l H, byt_add]
  rw [e1]
  have H1 : ∀ b ∈ l.map (fun b => (b / 2 &&& 85) + (b &&& 85)), b < 256 := by
    intro b hb
    obtain ⟨c, hc, rfl⟩ := List.mem_map.1 hb
    exact (pop8_of ⟨c, H c hc⟩).1
  have e2 : pc2 (byt (l.map fun b => (b / 2 &&& 85) + (b &&& 85))) = byt ((l.map fun b => (b / 2 &&& 85) + (b &&& 85)).map fun b => (b / 4 &&& 51) + (b &&& 51)) := by
    have hn1 : (l.map fun b => (b / 2 &&& 85) + (b &&& 85)).length = 8 := by rw [List.length_map, hn]
    generalize (l.map fun b => (b / 2 &&& 85) + (b &&& 85)) = k at *
    unfold pc2
    rw [m2, ← hn1, shr2 k H1, land_byt 51 (by decide) k H1, byt_add]
  rw [e2]
  have H2 : ∀ b ∈ ((l.map fun b => (b / 2 &&& 85) + (b &&& 85)).map fun b => (b / 4 &&& 51) + (b &&& 51)), b / 16 ≤ 4 ∧ b % 16 ≤ 4 := by
    intro b hb
    obtain ⟨c, hc, rfl⟩ := List.mem_map.1 hb
    obtain ⟨d, hd, rfl⟩ := List.mem_map.1 hc
    have := pop8_of ⟨d, H d hd⟩
    exact ⟨this.2.1, this.2.2.1⟩
  have e3 : pc3 (byt ((l.map fun b => (b / 2 &&& 85) + (b &&& 85)).map fun b => (b / 4 &&& 51) + (b &&& 51))) = byt (((l.map fun b => (b / 2 &&& 85) + (b &&& 85)).map fun b => (b / 4 &&& 51) + (b &&& 51)).map fun b => b / 16 + b % 16) := by
    have hn2 : ((l.map fun b => (b / 2 &&& 85) + (b &&& 85)).map fun b => (b / 4 &&& 51) + (b &&& 51)).length = 8 := by rw [List.length_map, List.length_map, hn]
    generalize ((l.map fun b => (b / 2 &&& 85) + (b &&& 85)).map fun b => (b / 4 &&& 51) + (b &&& 51)) = k at *
    unfold pc3
    rw [m3, ← hn2, shr4 k H2]
  rw [e3]
  have e4 : ((l.map fun b => (b / 2 &&& 85) + (b &&& 85)).map fun b => (b / 4 &&& 51) + (b &&& 51)).map (fun b => b / 16 + b % 16) = l.map pop8 := by
    rw [List.map_map, List.map_map]
    apply List.map_congr_left
    intro b hb
    exact (pop8_of ⟨b, H b hb⟩).2.2.2.2.1
  rw [e4, ← hl]
  rfl
theorem pc_sum (x : Nat) (hx : x < 18446744073709551616) (y : Nat) (hy : y = pc3 (pc2 (pc1 x))) :
    let z := y + y / 256; let u := z + z / 65536; let v := u + u / 4294967296
    y ≤ 578721382704613384 ∧ v % 128 = ((List.range 64).filter fun i => x.testBit i).length := by
  have hb : x = byt [x % 256, x / 256 % 256, x / 65536 % 256, x / 16777216 % 256, x / 4294967296 % 256, x / 1099511627776 % 256, x / 281474976710656 % 256, x / 72057594037927936] := by
    simp only [byt]; omega
  have hp := pc_byt (x % 256) (x / 256 % 256) (x / 65536 % 256) (x / 16777216 % 256) (x / 4294967296 % 256) (x / 1099511627776 % 256) (x / 281474976710656 % 256) (x / 72057594037927936) (by omega) (by omega) (by omega) (by omega) (by omega) (by omega) (by omega) (by omega)
  rw [← hb, ← hy] at hp
  have h8 : ∀ b, b < 256 → pop8 b ≤ 8 := fun b h => (pop8_of ⟨b, h⟩).2.2.2.2.2
  have ht : ∀ j i, i < 8 → j < 8 → x.testBit (8 * j + i) = (x / 2 ^ (8 * j) % 256).testBit i := fun j i hi hj => by
    rw [show (256 : Nat) = 2 ^ 8 from rfl, Nat.testBit_mod_two_pow, Nat.testBit_div_two_pow, decide_eq_true hi, Bool.true_and, Nat.add_comm]
  have hs : ((List.range 64).filter fun i => x.testBit i).length = pop8 (x % 256) + pop8 (x / 256 % 256) + pop8 (x / 65536 % 256) + pop8 (x / 16777216 % 256) + pop8 (x / 4294967296 % 256) + pop8 (x / 1099511627776 % 256) + pop8 (x / 281474976710656 % 256) + pop8 (x / 72057594037927936) := by
    have hr : List.range 64 = ((List.range 8).map fun j => (List.range 8).map fun i => 8 * j + i).flatten := by decide +kernel
    have h1 : ∀ j, j < 8 → (((List.range 8).map fun i => 8 * j + i).filter fun i => x.testBit i).length = pop8 (x / 2 ^ (8 * j) % 256) := fun j hj => by
      rw [List.filter_map, List.length_map]
      unfold pop8
      congr 1
      apply List.filter_congr
      intro i hi
      exact ht j i (by simpa using hi) hj
    rw [hr]
    simp only [List.filter_flatten, List.map_map, List.length_flatten]
    have h2 : (List.map List.length (List.map (List.filter fun i => x.testBit i) (List.map (fun j => List.map (fun i => 8 * j + i) (List.range 8)) (List.range 8)))) = (List.range 8).map fun j => pop8 (x / 2 ^ (8 * j) % 256) := by
      rw [List.map_map, List.map_map]
      apply List.map_congr_left
      intro j hj
      exact h1 j (by simpa using hj)
    simp only [List.map_map] at h2
    rw [h2]
    have h7 : x / 72057594037927936 % 256 = x / 72057594037927936 := by omega
    simp only [show List.range 8 = [0, 1, 2, 3, 4, 5, 6, 7] from rfl, List.map_cons, List.map_nil, List.sum_cons, List.sum_nil]
    simp only [show 2 ^ (8 * 0) = 1 from rfl, show 2 ^ (8 * 1) = 256 from rfl, show 2 ^ (8 * 2) = 65536 from rfl, show 2 ^ (8 * 3) = 16777216 from rfl, show 2 ^ (8 * 4) = 4294967296 from rfl, show 2 ^ (8 * 5) = 1099511627776 from rfl, show 2 ^ (8 * 6) = 281474976710656 from rfl, show 2 ^ (8 * 7) = 72057594037927936 from rfl, h7, Nat.div_one]
    omega
  rw [hs]
  have g0 := h8 (x % 256) (by omega)
  have g1 := h8 (x / 256 % 256) (by omega)
  have g2 := h8 (x / 65536 % 256) (by omega)
  have g3 := h8 (x / 16777216 % 256) (by omega)
  have g4 := h8 (x / 4294967296 % 256) (by omega)
  have g5 := h8 (x / 1099511627776 % 256) (by omega)
  have g6 := h8 (x / 281474976710656 % 256) (by omega)
  have g7 := h8 (x / 72057594037927936) (by omega)
  simp only [byt] at hp
  generalize pop8 (x % 256) = p0 at *
  generalize pop8 (x / 256 % 256) = p1 at *
  generalize pop8 (x / 65536 % 256) = p2 at *
  generalize pop8 (x / 16777216 % 256) = p3 at *
  generalize pop8 (x / 4294967296 % 256) = p4 at *
  generalize pop8 (x / 1099511627776 % 256) = p5 at *
  generalize pop8 (x / 281474976710656 % 256) = p6 at *
  generalize pop8 (x / 72057594037927936) = p7 at *
  clear hb hs ht h8 hy hx
  intro z u v
  obtain ⟨q7, e7⟩ : ∃ q, q = p7 := ⟨_, rfl⟩
  obtain ⟨q6, e6⟩ : ∃ q, q = p6 + 256 * q7 := ⟨_, rfl⟩
  obtain ⟨q5, e5⟩ : ∃ q, q = p5 + 256 * q6 := ⟨_, rfl⟩
  obtain ⟨q4, e4⟩ : ∃ q, q = p4 + 256 * q5 := ⟨_, rfl⟩
  obtain ⟨q3, e3⟩ : ∃ q, q = p3 + 256 * q4 := ⟨_, rfl⟩
  obtain ⟨q2, e2⟩ : ∃ q, q = p2 + 256 * q3 := ⟨_, rfl⟩
  obtain ⟨q1, e1⟩ : ∃ q, q = p1 + 256 * q2 := ⟨_, rfl⟩
  have ey : y = p0 + 256 * q1 := by
    rw [hp, e1, e2, e3, e4, e5, e6, e7]; rfl
  have hz : z = y + q1 := by
    have : y / 256 = q1 := by omega
    show y + y / 256 = _
    rw [this]
  have hu : u = y + q1 + q2 + q3 := by
    have : z / 65536 = q2 + q3 := by rw [hz, ey, e1, e2]; clear_value z u v; clear hp; omega
    show z + z / 65536 = _
    rw [this, hz]; omega
  have hv : v = y + q1 + q2 + q3 + q4 + q5 + q6 + q7 := by
    have : u / 4294967296 = q4 + q5 + q6 + q7 := by
      have t0 : y = p0 + 256 * p1 + 65536 * p2 + 16777216 * p3 + 4294967296 * q4 := by rw [ey, e1, e2, e3]; omega
      have t1 : q1 = p1 + 256 * p2 + 65536 * p3 + 16777216 * p4 + 4294967296 * q5 := by rw [e1, e2, e3, e4]; omega
      have t2 : q2 = p2 + 256 * p3 + 65536 * p4 + 16777216 * p5 + 4294967296 * q6 := by rw [e2, e3, e4, e5]; omega
      have t3 : q3 = p3 + 256 * p4 + 65536 * p5 + 16777216 * p6 + 4294967296 * q7 := by rw [e3, e4, e5, e6]; omega
      rw [hu]
      clear_value z u v
      clear hp hu hz ey e1 e2 e3 e4 e5 e6 e7
      omega
    show u + u / 4294967296 = _
    rw [this, hu]; omega
  clear_value z u v
  constructor
  · rw [ey, e1, e2, e3, e4, e5, e6, e7]; clear hp hz hu hv ey e1 e2 e3 e4 e5 e6 e7; omega
  · have : v = (p0 + p1 + p2 + p3 + p4 + p5 + p6 + p7) + 256 * (q1 + q2 + q3 + q4 + q5 + q6 + q7) := by
      clear hp hz hu; omega
    rw [this]
    clear hp hz hu hv ey e1 e2 e3 e4 e5 e6 e7 this
    omega
end Go.Proofs.YtccigjelbnjcoaaGreatDoor.RefsC
