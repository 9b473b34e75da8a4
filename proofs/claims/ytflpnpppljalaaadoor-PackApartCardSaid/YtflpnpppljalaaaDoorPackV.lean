/-
  The landed code's contracts: numbers and texts as bytes.
-/
import Derived.Test.YtflpnpppljalaaaDoorPackI
import Derived.Test.YtflpnpppljalaaaDoorPackS
import Derived.Test.YtflpnpppljalaaaDoorErrB
namespace Go.Proofs.YtflpnpppljalaaaDoor.PackC
set_option linter.unusedVariables false
open Go.RowKit Go.Proofs.YtflpnpppljalaaaDoor.NumC Go.Proofs.YtflpnpppljalaaaDoor.RowsC Go.Proofs.YtflpnpppljalaaaDoor.ErrC

theorem csized (n : Int) (w : World) : Calls Tryd.prog 22 #[.int .i64 n] w fun e w' => e = .returned (.bool (sizedB n)) ∧ w' = w := by
  unfold sizedB
  cases h1 : (n == 1) <;> cases h2 : (n == 2) <;> cases h4 : (n == 4) <;> cases h8 : (n == 8) <;>
  · go_enter Tryd.func22, Tryd.ntmps22
    go_wp2
    go_ret
    exact ⟨rfl, rfl⟩
theorem pow_bytes (k : Nat) : (2 : Nat) ^ (8 * k) = 256 ^ k := by rw [Nat.pow_mul]
/-- What spell tells: the bytes and no error, or an error of that number. -/
def SpellPost (v : Nat) (n : Int) (w : World) (e : Ending) (w' : World) : Prop := ∃ x, e = .returned (.tuple #[.string (numS v n), x]) ∧ ErrIs x (numE v n) ∧ (x = .nilIface ↔ numE v n = 0) ∧ Below w.heap.size w w'
set_option maxHeartbeats 1000000 in
set_option maxRecDepth 100000 in
theorem cspell (v : Nat) (n : Int) (w : World) (hv : v < 18446744073709551616) :
    Calls Tryd.prog 16 #[.int .u64 (v : Nat), .int .i64 n] w (SpellPost v n w) := by
  cases hz : sizedB n
  · have E1 : numE v n = 1 := by unfold numE; rw [hz]; rfl
    have E2 : numS v n = nos := by unfold numS; rw [E1]; rfl
    have HP : Hid (SpellPost v n w (.returned (.tuple #[.string ⟨#[]⟩, .iface 24 (.int .i64 1)])) w) := Lib.hid ⟨_, by rw [E2]; rfl, by rw [E1]; exact .bare 1, by rw [E1]; simp, Below.refl _ _⟩
    have hc := csized n w
    rw [hz] at hc
    clear hz E1 E2
    go_enter Tryd.func16, Tryd.ntmps16
    go_wp2_with fail
    refine hc.mono ?_; rintro e w1 ⟨rfl, rfl⟩
    clear hc
    go_wp2_with fail
    go_ret2
    exact HP.out
  · obtain ⟨k, rfl, hk1, hk8⟩ := sized_nat hz
    have hc := csized (k : Int) w
    rw [hz] at hc
    have HZ := Lib.hid hz
    have g0 : IntKind.i64.wrap (8 * (k : Int)) = ((8 * k : Nat) : Int) := by rw [IntKind.wrap_i64]; omega
    clear hz
    have hq : (v : Int) / 2 ^ (8 * k) = ((v / 256 ^ k : Nat) : Int) := by rw [← pow_bytes]; push_cast; rfl
    by_cases h0 : v / 256 ^ k = 0
    · have d0 : ((v : Int) / 2 ^ (8 * k) != 0) = false := by rw [hq, h0]; rfl
      have E1 : numE v k = 0 := by unfold numE; rw [HZ.out, if_pos rfl, Int.toNat_natCast, if_pos h0]
      have E2 : numS v k = rowS (beN k v) := by unfold numS; rw [E1, if_pos rfl, Int.toNat_natCast]
      have HP : Hid (∀ w1, Below w.heap.size w w1 → SpellPost v k w (.returned (.tuple #[.string ⟨(beN k v).toArray⟩, .nilIface])) w1) := Lib.hid fun w1 hb => ⟨_, by rw [E2]; rfl, by rw [E1]; exact .none, by rw [E1]; simp, hb⟩
      clear h0 hq E1 E2 HZ
      go_enter Tryd.func16, Tryd.ntmps16
      go_wp2_with fail
      refine hc.mono ?_; rintro e w1 ⟨rfl, rfl⟩
      clear hc
      have HH := Lib.hid (holds_new w1)
      have HB := Lib.hid ((Below.refl w1.heap.size w1).alloc (Nat.le_refl _) (.cells #[.pointer none, .slice none 0 0] 60))
      go_wp2_with fail
      go_loopw [7] (fun a wr => ∃ (m : Nat) (l : List UInt8), m ≤ k ∧ a = .int .i64 ((m : Int) - 1) ∧ Hid (l.length ≤ 8 ∧ l ++ beN m v = beN k v ∧ Holds w1.heap.size l wr ∧ Below w1.heap.size w1 wr)) (fun a _ => (intOf a + 1).toNat)
      case atStart => exact ⟨k, [], Nat.le_refl _, rfl, Lib.hid ⟨Nat.zero_le _, rfl, HH.out, HB.out⟩⟩
      case round =>
        obtain ⟨m, l, hm, rfl, HR⟩ := hrel
        rcases m with _ | d
        · have hl : l = beN k v := by have := HR.out.2.1; rw [← this]; exact (List.append_nil l).symm
          have W := bString w1.heap.size l wr HR.out.2.2.1 HR.out.2.2.2.size
          rw [hl] at W
          have HW := Lib.hid HR.out.2.2.2
          have d1 : decide ((0 : Int) ≤ ((0 : Nat) : Int) - 1) = false := by decide
          clear HR
          go_wp2_with fail
          refine W.mono ?_; rintro e w2 ⟨rfl, hb2⟩
          go_wp2
          go_ret2
          exact HP.out _ (HW.out.trans hb2)
        · have hd : ((d + 1 : Nat) : Int) - 1 = (d : Int) := by omega
          rw [hd]
          have hd8 : d < 8 := by omega
          have g1 : IntKind.i64.wrap (8 * (d : Int)) = ((8 * d : Nat) : Int) := by rw [IntKind.wrap_i64]; omega
          have W := writeByte w1.heap.size l (UInt8.ofNat (v / 256 ^ d % 256)) wr HR.out.2.2.1 (by have := HR.out.1; omega) HR.out.2.2.2.size
          have hy : ((UInt8.ofNat (v / 256 ^ d % 256)).toNat : Int) = (v : Int) / 2 ^ (8 * d) % 256 := by
            rw [byte_toNat (Nat.mod_lt _ (by decide)), ← pow_bytes]; push_cast; rfl
          rw [hy] at W
          have hg := IntKind.wrap_u8 ((v : Int) / 2 ^ (8 * d))
          have HL := Lib.hid (show (l ++ [UInt8.ofNat (v / 256 ^ d % 256)]).length ≤ 8 ∧ (l ++ [UInt8.ofNat (v / 256 ^ d % 256)]) ++ beN d v = beN k v by
            have h2 : (l ++ [UInt8.ofNat (v / 256 ^ d % 256)]) ++ beN d v = beN k v := by rw [List.append_assoc]; exact HR.out.2.1
            refine ⟨?_, h2⟩
            have h3 := congrArg List.length h2
            rw [List.length_append, be_len, be_len] at h3
            omega)
          have HB2 := Lib.hid HR.out.2.2.2
          clear HR hy
          go_wp2_with fail
          refine W.mono ?_; rintro e w2 ⟨rfl, hh2, hb2⟩
          go_wp2
          go_roundw
          case rel => exact ⟨d, _, by omega, by go_num, Lib.hid ⟨HL.out.1, HL.out.2, hh2, HB2.out.trans hb2⟩⟩
          case measure => simp [intOf]
    · have d0 : ((v : Int) / 2 ^ (8 * k) != 0) = true := by rw [hq, bne_iff_ne]; omega
      have E1 : numE v k = 2 := by unfold numE; rw [HZ.out, if_pos rfl, Int.toNat_natCast, if_neg h0]
      have E2 : numS v k = nos := by unfold numS; rw [E1]; rfl
      have HP : Hid (∀ a b, SpellPost v k w (.returned (.tuple #[.string ⟨#[]⟩, .iface 57 (.agg #[.int .i64 a, .int .i64 b, .int .i64 2])])) w) := Lib.hid fun a b => ⟨_, by rw [E2]; rfl, by rw [E1]; exact .fits a b 2, by rw [E1]; simp, Below.refl _ _⟩
      clear h0 hq E1 E2 HZ
      go_enter Tryd.func16, Tryd.ntmps16
      go_wp2_with fail
      refine hc.mono ?_; rintro e w1 ⟨rfl, rfl⟩
      clear hc
      go_wp2_with fail
      go_ret2
      exact HP.out _ _
theorem ofInt64 (x : Nat) (hx : x < 18446744073709551616) : (BitVec.ofInt 64 (x : Int)).toNat = x := by
  rw [BitVec.toNat_ofInt]
  have : ((2 ^ 64 : Nat) : Int) = 18446744073709551616 := rfl
  rw [this]
  omega
set_option maxRecDepth 100000 in
theorem or_low64 (n b : Nat) (N B : Int) (hN : N = n * 256) (hB : B = b) (hn : n < 72057594037927936) (hb : b < 256) : Op.intBits .or .u64 N B = pure (.int .u64 ((n * 256 + b : Nat) : Int)) := by
  subst hN hB
  show (pure (.int .u64 (IntKind.u64.wrap ((BitVec.ofInt 64 ((n : Int) * 256) ||| BitVec.ofInt 64 (b : Int)).toNat : Int))) : Sem Value) = _
  have e1 : (n : Int) * 256 = ((n * 256 : Nat) : Int) := by push_cast; rfl
  rw [BitVec.toNat_or, e1, ofInt64 (n * 256) (by omega), ofInt64 b (by omega)]
  have e2 : n * 256 ||| b = n * 256 + b := by
    rw [show n * 256 = n <<< 8 from (Nat.shiftLeft_eq n 8).symm]
    exact (Nat.shiftLeft_add_eq_or_of_lt (show b < 2 ^ 8 from hb) n).symm
  rw [e2]
  congr 2
  rw [IntKind.wrap_u64]; omega
theorem ext_list (b : ByteArray) (q n : Nat) : (b.extract q (q + n)).data.toList = (b.data.toList.drop q).take n := by
  rw [ByteArray.data_extract, Array.toList_extract, List.extract_eq_take_drop, Nat.add_sub_cancel_left]
/-- Bytes that stand there. -/
theorem cstretch (b : ByteArray) (q n : Nat) (w : World) (hb : b.size ≤ 1000000) (h : q + n ≤ b.size) :
    Calls Tryd.prog 26 #[.string b, .int .i64 q, .int .i64 n] w fun e w' => e = .returned (.tuple #[.string (b.extract q (q + n)), .int .i64 ((q : Int) + n), .nilIface]) ∧ w' = w := by
  have d0 : decide ((q : Int) < 0) = false := decide_eq_false (by omega)
  have g1 : IntKind.i64.wrap ((b.size : Int) - (q : Int)) = (b.size : Int) - (q : Int) := by rw [IntKind.wrap_i64]; omega
  have d2 : decide ((b.size : Int) - (q : Int) < (n : Int)) = false := decide_eq_false (by omega)
  have g2 : IntKind.i64.wrap ((q : Int) + (n : Int)) = (q : Int) + (n : Int) := by rw [IntKind.wrap_i64]; omega
  go_enter Tryd.func26, Tryd.ntmps26
  go_wp2
  go_ret3
  exact ⟨rfl, rfl⟩
/-- Bytes that don't. -/
theorem cstretch_no (b : ByteArray) (p : Int) (n : Nat) (w : World) (hb : b.size ≤ 1000000) (hp : I64 p) (h : ¬ (0 ≤ p ∧ (n : Int) ≤ b.size - p)) :
    Calls Tryd.prog 26 #[.string b, .int .i64 p, .int .i64 n] w fun e w' => e = .returned (.tuple #[.string ⟨#[]⟩, .int .i64 0, .iface 57 (.agg #[.int .i64 p, .int .i64 n, .int .i64 11])]) ∧ w' = w := by
  unfold I64 at hp
  by_cases h0 : p < 0
  · have d0 : decide (p < 0) = true := decide_eq_true h0
    go_enter Tryd.func26, Tryd.ntmps26
    go_wp2
    go_ret3
    exact ⟨rfl, rfl⟩
  · have d0 : decide (p < 0) = false := decide_eq_false h0
    have g1 : IntKind.i64.wrap ((b.size : Int) - p) = (b.size : Int) - p := by rw [IntKind.wrap_i64]; omega
    have d2 : decide ((b.size : Int) - p < (n : Int)) = true := decide_eq_true (by omega)
    go_enter Tryd.func26, Tryd.ntmps26
    go_wp2
    go_ret3
    exact ⟨rfl, rfl⟩
/-- What number tells. -/
def NumberPost (b : ByteArray) (p n : Int) (w : World) (e : Ending) (w' : World) : Prop := ∃ x, e = .returned (.tuple #[.int .u64 (takeV b p n : Nat), .int .i64 (takeK b p n), x]) ∧ ErrIs x (takeE b p n) ∧ (x = .nilIface ↔ takeE b p n = 0) ∧ Below w.heap.size w w'
set_option maxHeartbeats 1000000 in
set_option maxRecDepth 100000 in
theorem cnumber (b : ByteArray) (p n : Int) (w : World) (hb : b.size ≤ 1000000) (hp : I64 p) :
    Calls Tryd.prog 20 #[.string b, .int .i64 p, .int .i64 n] w (NumberPost b p n w) := by
  cases hz : sizedB n
  · have E1 : takeE b p n = 1 := by unfold takeE; rw [hz]; rfl
    have E2 : takeV b p n = 0 := by unfold takeV; rw [E1]; rfl
    have E3 : takeK b p n = 0 := by unfold takeK; rw [E1]; rfl
    have HP : Hid (NumberPost b p n w (.returned (.tuple #[.int .u64 0, .int .i64 0, .iface 24 (.int .i64 1)])) w) := Lib.hid ⟨_, by rw [E2, E3]; rfl, by rw [E1]; exact .bare 1, by rw [E1]; simp, Below.refl _ _⟩
    have hc := csized n w
    rw [hz] at hc
    clear hz E1 E2 E3
    go_enter Tryd.func20, Tryd.ntmps20
    go_wp2_with fail
    refine hc.mono ?_; rintro e w1 ⟨rfl, rfl⟩
    clear hc
    go_wp2_with fail
    go_ret3
    exact HP.out
  · obtain ⟨k, rfl, hk1, hk8⟩ := sized_nat hz
    have hc := csized (k : Int) w
    rw [hz] at hc
    by_cases hin : 0 ≤ p ∧ (k : Int) ≤ b.size - p
    · have E1 : takeE b p k = 0 := by unfold takeE; rw [hz, if_pos rfl, if_pos ⟨hin.1, by omega, hin.2⟩]
      have E3 : takeK b p k = p + k := by unfold takeK; rw [E1]; rfl
      obtain ⟨h0, h2⟩ := hin
      obtain ⟨q, rfl⟩ : ∃ q : Nat, p = q := ⟨p.toNat, by omega⟩
      have E2 : takeV b q k = valF 0 (b.extract q (q + k)).data.toList := by unfold takeV; rw [E1, ext_list]; rfl
      have hcs := cstretch b q k w hb (by omega)
      have hsz : (b.extract q (q + k)).size = k := by rw [ByteArray.size_extract, Nat.min_eq_left (by omega), Nat.add_sub_cancel_left]
      have HP : Hid (∀ u : Nat, u = valF 0 (b.extract q (q + k)).data.toList → NumberPost b q k w (.returned (.tuple #[.int .u64 (u : Nat), .int .i64 ((q : Int) + k), .nilIface])) w) := Lib.hid fun u hu => ⟨.nilIface, by rw [hu, ← E2, E3], by rw [E1]; exact .none, by rw [E1]; simp, Below.refl _ _⟩
      obtain ⟨s, hs⟩ : ∃ s, s = b.extract q (q + k) := ⟨_, rfl⟩
      rw [← hs] at hcs HP hsz
      clear E1 E2 E3 hz hs
      have hll : s.data.toList.length = k := hsz
      go_enter Tryd.func20, Tryd.ntmps20
      go_wp2_with fail
      refine hc.mono ?_; rintro e w1 ⟨rfl, rfl⟩
      clear hc
      go_wp2_with fail
      refine hcs.mono ?_; rintro e w1 ⟨rfl, rfl⟩
      clear hcs
      go_wp2_with fail
      go_loopw [12, 31] (fun vv iv wr => ∃ j u : Nat, j ≤ k ∧ vv = .int .u64 (u : Nat) ∧ iv = .int .i64 j ∧ Hid (u = valF 0 (s.data.toList.take j) ∧ wr = w1)) (fun _ iv _ => k - (intOf iv).toNat)
      case atStart => exact ⟨0, 0, Nat.zero_le _, rfl, rfl, Lib.hid ⟨by rw [List.take_zero]; rfl, rfl⟩⟩
      case round =>
        obtain ⟨j, u, hj, rfl, rfl, HR⟩ := hrel
        by_cases hlt : j < k
        · have hjs : j < s.size := by omega
          have hu : u * 256 + s[j].toNat < 18446744073709551616 := by
            have h := val_small (s.data.toList.take (j + 1)) (by rw [List.length_take]; omega)
            rw [val_step s.data.toList j (by omega)] at h
            rw [HR.out.1]; exact h
          have HN := Lib.hid (show u * 256 + s[j].toNat = valF 0 (s.data.toList.take (j + 1)) by rw [val_step s.data.toList j (by omega), HR.out.1]; rfl)
          obtain ⟨x, hx⟩ : ∃ x, x = s[j].toNat := ⟨_, rfl⟩
          have hx8 : x < 256 := by rw [hx]; exact s[j].toNat_lt
          have hxi : ((s[j].toNat : Nat) : Int) = (x : Int) := by rw [hx]
          rw [← hx] at hu HN
          have HX := Lib.hid hx
          have g4 : IntKind.u64.wrap (x : Int) = (x : Int) := by rw [IntKind.wrap_u64]; omega
          have g5 : IntKind.u64.wrap ((u : Int) * 256) = (u : Int) * 256 := by rw [IntKind.wrap_u64]; omega
          have f1 := or_low64 u x ((u : Int) * 256) (x : Int) rfl rfl (by omega) hx8
          obtain ⟨m, hm⟩ : ∃ m, m = u * 256 + x := ⟨_, rfl⟩
          rw [← hm] at f1 HN
          clear hx hm
          go_wp2_with fail
          go_roundw
          case rel => exact ⟨j + 1, m, by omega, rfl, by go_num, Lib.hid ⟨HN.out, HR.out.2⟩⟩
          case measure => simp [intOf]; omega
        · obtain rfl : j = k := by omega
          have HF := HP.out u (by rw [HR.out.1, List.take_of_length_le (by omega)])
          obtain rfl := HR.out.2
          have HF := Lib.hid HF
          go_wp2_with fail
          go_ret3
          exact HF.out
    · have E1 : takeE b p k = 11 := by unfold takeE; rw [hz, if_pos rfl, if_neg (fun h => hin ⟨h.1, h.2.2⟩)]
      have E2 : takeV b p k = 0 := by unfold takeV; rw [E1]; rfl
      have E3 : takeK b p k = 0 := by unfold takeK; rw [E1]; rfl
      have HP : Hid (∀ y z, NumberPost b p k w (.returned (.tuple #[.int .u64 0, .int .i64 0, .iface 57 (.agg #[.int .i64 y, .int .i64 z, .int .i64 11])])) w) := Lib.hid fun y z => ⟨_, by rw [E2, E3]; rfl, by rw [E1]; exact .fits y z 11, by rw [E1]; simp, Below.refl _ _⟩
      have hcs := cstretch_no b p k w hb hp hin
      clear hz E1 E2 E3 hin
      go_enter Tryd.func20, Tryd.ntmps20
      go_wp2_with fail
      refine hc.mono ?_; rintro e w1 ⟨rfl, rfl⟩
      clear hc
      go_wp2_with fail
      refine hcs.mono ?_; rintro e w1 ⟨rfl, rfl⟩
      clear hcs
      go_wp2_with fail
      go_ret3
      exact HP.out _ _
theorem cclone (s : ByteArray) (w : World) (h : s.size ≤ 1000000) : Calls Tryd.prog 27 #[.string s] w fun e w' => e = .returned (.string s) ∧ Below w.heap.size w w' := by
  have W := Tryd.stringslite_Clone s w (by omega)
  go_enter Tryd.func27, Tryd.ntmps27
  go_wp2_with fail
  refine W.mono ?_; rintro e w1 ⟨rfl, hb1⟩
  go_wp2
  go_ret
  exact ⟨rfl, hb1⟩
/-- What text tells. -/
def TextPost (b : ByteArray) (p m : Int) (w : World) (e : Ending) (w' : World) : Prop := ∃ x, e = .returned (.tuple #[.string (cutS b p m), .int .i64 (cutK b p m), x]) ∧ ErrIs x (cutE b p m) ∧ Below w.heap.size w w'
set_option maxHeartbeats 1000000 in
set_option maxRecDepth 100000 in
theorem ctext (b : ByteArray) (p m : Int) (w : World) (hb : b.size ≤ 1000000) (hp : I64 p) :
    Calls Tryd.prog 21 #[.string b, .int .i64 p, .int .i64 m] w (TextPost b p m w) := by
  have hc := cnumber b p 2 w hb hp
  by_cases h : takeE b p 2 = 0
  · obtain ⟨h1, h2, h3, h4⟩ := take_two b p h
    obtain ⟨q, rfl⟩ : ∃ q : Nat, p = q := ⟨p.toNat, by omega⟩
    obtain ⟨n, hn⟩ : ∃ n, n = takeV b q 2 := ⟨_, rfl⟩
    have e1 : cutE b q m = if (b.size : Int) - ((q : Int) + 2) < (n : Int) then 11 else if m < (n : Int) then 2 else 0 := by
      unfold cutE; rw [h, h3, ← hn]; simp
    have e2 : cutS b q m = if cutE b q m = 0 then b.extract (q + 2) (q + 2 + n) else nos := by unfold cutS; rw [← hn]; rfl
    have e3 : cutK b q m = if cutE b q m = 0 then (q : Int) + 2 + (n : Int) else 0 := by unfold cutK; rw [h3, ← hn]
    have hc : Calls Tryd.prog 20 #[.string b, .int .i64 q, .int .i64 2] w fun e w' => e = .returned (.tuple #[.int .u64 (n : Nat), .int .i64 ((q + 2 : Nat) : Int), .nilIface]) ∧ Below w.heap.size w w' :=
      hc.mono fun e w' hx => by
        obtain ⟨x, rfl, -, hi, hb'⟩ := hx
        rw [h3, ← hn, hi.2 h]
        exact ⟨rfl, hb'⟩
    rw [← hn] at h4
    have g0 : IntKind.i64.wrap (n : Int) = (n : Int) := by rw [IntKind.wrap_i64]; omega
    clear h h3 hn
    by_cases c1 : (b.size : Int) - ((q : Int) + 2) < (n : Int)
    · have E1 : cutE b q m = 11 := by rw [e1, if_pos c1]
      have E2 : cutS b q m = nos := by rw [e2, E1]; rfl
      have E3 : cutK b q m = 0 := by rw [e3, E1]; rfl
      have HP : Hid (∀ y z w1, Below w.heap.size w w1 → TextPost b q m w (.returned (.tuple #[.string ⟨#[]⟩, .int .i64 0, .iface 57 (.agg #[.int .i64 y, .int .i64 z, .int .i64 11])])) w1) := Lib.hid fun y z w1 hb' => ⟨_, by rw [E2, E3]; rfl, by rw [E1]; exact .fits y z 11, hb'⟩
      have hcs := fun w1 => cstretch_no b ((q + 2 : Nat) : Int) n w1 hb (by unfold I64; omega) (by omega)
      clear e1 e2 e3 E1 E2 E3
      go_enter Tryd.func21, Tryd.ntmps21
      go_wp2_with fail
      refine hc.mono ?_; rintro e w1 ⟨rfl, hb1⟩
      clear hc
      go_wp2_with fail
      refine (hcs _).mono ?_; rintro e w1 ⟨rfl, rfl⟩
      clear hcs
      go_wp2_with fail
      go_ret3
      exact HP.out _ _ _ hb1
    · have hcs := fun w1 => cstretch b (q + 2) n w1 hb (by omega)
      have hsz : (b.extract (q + 2) (q + 2 + n)).size = n := by rw [ByteArray.size_extract, Nat.min_eq_left (by omega), Nat.add_sub_cancel_left]
      by_cases c2 : m < (n : Int)
      · have E1 : cutE b q m = 2 := by rw [e1, if_neg c1, if_pos c2]
        have E2 : cutS b q m = nos := by rw [e2, E1]; rfl
        have E3 : cutK b q m = 0 := by rw [e3, E1]; rfl
        have HP : Hid (∀ y z w1, Below w.heap.size w w1 → TextPost b q m w (.returned (.tuple #[.string ⟨#[]⟩, .int .i64 0, .iface 57 (.agg #[.int .i64 y, .int .i64 z, .int .i64 2])])) w1) := Lib.hid fun y z w1 hb' => ⟨_, by rw [E2, E3]; rfl, by rw [E1]; exact .fits y z 2, hb'⟩
        generalize b.extract (q + 2) (q + 2 + n) = s at hcs hsz
        have d1 : decide (m < (s.size : Int)) = true := decide_eq_true (by omega)
        clear e1 e2 e3 E1 E2 E3
        go_enter Tryd.func21, Tryd.ntmps21
        go_wp2_with fail
        refine hc.mono ?_; rintro e w1 ⟨rfl, hb1⟩
        clear hc
        go_wp2_with fail
        refine (hcs _).mono ?_; rintro e w1 ⟨rfl, rfl⟩
        clear hcs
        go_wp2_with fail
        go_ret3
        exact HP.out _ _ _ hb1
      · have E1 : cutE b q m = 0 := by rw [e1, if_neg c1, if_neg c2]
        have E2 : cutS b q m = b.extract (q + 2) (q + 2 + n) := by rw [e2, E1]; rfl
        have E3 : cutK b q m = (q : Int) + 2 + (n : Int) := by rw [e3, E1]; rfl
        have HP : Hid (∀ w1, Below w.heap.size w w1 → TextPost b q m w (.returned (.tuple #[.string (b.extract (q + 2) (q + 2 + n)), .int .i64 (((q + 2 : Nat) : Int) + (n : Int)), .nilIface])) w1) := Lib.hid fun w1 hb' => ⟨_, by rw [E2, E3]; rfl, by rw [E1]; exact .none, hb'⟩
        generalize b.extract (q + 2) (q + 2 + n) = s at hcs hsz HP
        have d1 : decide (m < (s.size : Int)) = false := decide_eq_false (by omega)
        have hcl := fun w1 => cclone s w1 (by omega)
        clear e1 e2 e3 E1 E2 E3
        go_enter Tryd.func21, Tryd.ntmps21
        go_wp2_with fail
        refine hc.mono ?_; rintro e w1 ⟨rfl, hb1⟩
        clear hc
        go_wp2_with fail
        refine (hcs _).mono ?_; rintro e w1 ⟨rfl, rfl⟩
        clear hcs
        go_wp2_with fail
        refine (hcl _).mono ?_; rintro e w2 ⟨rfl, hb2⟩
        clear hcl
        go_wp2
        go_ret3
        exact HP.out _ (hb1.trans (hb2.mono hb1.size))
  · obtain ⟨t1, t2, t3⟩ := take_errs b p h
    have E1 : cutE b p m = 11 := by unfold cutE; rw [if_pos (Or.inl h)]
    have E2 : cutS b p m = nos := by unfold cutS; rw [E1]; rfl
    have E3 : cutK b p m = 0 := by unfold cutK; rw [E1]; rfl
    have HP : Hid (∀ x w1, ErrIs x 11 → Below w.heap.size w w1 → TextPost b p m w (.returned (.tuple #[.string ⟨#[]⟩, .int .i64 0, x])) w1) := Lib.hid fun x w1 hx hb' => ⟨_, by rw [E2, E3]; rfl, by rw [E1]; exact hx, hb'⟩
    have hc : Calls Tryd.prog 20 #[.string b, .int .i64 p, .int .i64 2] w fun e w' => (∃ x, e = .returned (.tuple #[.int .u64 0, .int .i64 0, x]) ∧ ErrIs x 11) ∧ Below w.heap.size w w' :=
      hc.mono fun e w' hx => by
        obtain ⟨x, rfl, hi, -, hb'⟩ := hx
        rw [t2, t3]
        rw [t1] at hi
        exact ⟨⟨x, rfl, hi⟩, hb'⟩
    clear h t1 t2 t3 E1 E2 E3
    go_enter Tryd.func21, Tryd.ntmps21
    go_wp2_with fail
    refine hc.mono ?_; rintro e w1 ⟨⟨x, rfl, hx⟩, hb1⟩
    clear hc
    have HF := Lib.hid (HP.out x w1 hx hb1)
    generalize hn : (11 : Int) = n11 at hx
    cases hx with
    | none => exact absurd hn (by decide)
    | bare =>
      go_wp2_with fail
      go_ret3
      exact HF.out
    | fits =>
      go_wp2_with fail
      go_ret3
      exact HF.out
/-- The landed code keeps what is taken of it: the library's type lies in its variable. -/
theorem codeP : CodeP ErrT where
  keep h hb := h.below hb
  pNum v n w hK hv hn := by
    have hc := cspell v n w hv
    have HK := Lib.hid hK
    clear hK
    go_enter Tryd.func8, Tryd.ntmps8
    go_wp2_with fail
    refine hc.mono ?_; rintro e w1 ⟨x, rfl, hx, -, hb1⟩
    clear hc
    have hw := cwhy x _ hx w1 (HK.out.below hb1)
    go_wp2_with fail
    refine hw.mono ?_; rintro e w2 ⟨rfl, hb2⟩
    go_wp2
    go_ret2
    exact ⟨rfl, hb1.trans (hb2.mono hb1.size)⟩
  pText s w hK hs := by
    have hc := cspell s.size 2 w (by omega)
    have HK := Lib.hid hK
    have g0 : IntKind.u64.wrap (s.size : Int) = (s.size : Int) := by rw [IntKind.wrap_u64]; omega
    clear hK
    by_cases h : 65535 < s.size
    · have n1 : numE s.size 2 = 2 := by
        unfold numE
        rw [if_pos (by decide), if_neg (show ¬ s.size / 256 ^ (2 : Int).toNat = 0 by show ¬ s.size / 65536 = 0; omega)]
      have E1 : Hid (textE s = 2) := Lib.hid (if_pos h)
      have E2 : Hid (textS s = nos) := Lib.hid (if_pos h)
      have hc : Calls Tryd.prog 16 #[.int .u64 (s.size : Nat), .int .i64 2] w fun e w' => (∃ t x, e = .returned (.tuple #[.string t, x]) ∧ ErrIs x 2 ∧ x ≠ .nilIface) ∧ Below w.heap.size w w' :=
        hc.mono fun e w' hx => by
          obtain ⟨x, rfl, hi, hj, hb'⟩ := hx
          rw [n1] at hi hj
          exact ⟨⟨_, x, rfl, hi, fun h => absurd (hj.1 h) (by decide)⟩, hb'⟩
      clear n1
      go_enter Tryd.func10, Tryd.ntmps10
      go_wp2_with fail
      refine hc.mono ?_; rintro e w1 ⟨⟨t, x, rfl, hx, hne⟩, hb1⟩
      clear hc
      have hw := cwhy x _ hx w1 (HK.out.below hb1)
      generalize hn : (2 : Int) = n2 at hx
      cases hx with
      | none => exact absurd rfl hne
      | bare =>
        clear hne
        subst hn
        go_wp2_with fail
        refine hw.mono ?_; rintro e w2 ⟨rfl, hb2⟩
        go_wp2
        go_ret2
        exact ⟨two_eq E2.out.symm E1.out.symm, hb1.trans (hb2.mono hb1.size)⟩
      | fits =>
        clear hne
        subst hn
        go_wp2_with fail
        refine hw.mono ?_; rintro e w2 ⟨rfl, hb2⟩
        go_wp2
        go_ret2
        exact ⟨two_eq E2.out.symm E1.out.symm, hb1.trans (hb2.mono hb1.size)⟩
    · have E1 : Hid (textE s = 0) := Lib.hid (if_neg h)
      have E2 : Hid (textS s = rowS (beN 2 s.size) ++ s) := Lib.hid (if_neg h)
      have hc : Calls Tryd.prog 16 #[.int .u64 (s.size : Nat), .int .i64 2] w fun e w' => e = .returned (.tuple #[.string (rowS (beN 2 s.size)), .nilIface]) ∧ Below w.heap.size w w' :=
        hc.mono fun e w' hx => by
          obtain ⟨x, rfl, -, hj, hb'⟩ := hx
          have n1 := num2 s.size (by omega)
          rw [hj.2 n1.1, n1.2]
          exact ⟨rfl, hb'⟩
      have hz : (rowS (beN 2 s.size)).size = 2 := rfl
      generalize rowS (beN 2 s.size) = t at *
      have hbig : ¬ 9223372036854775807 < t.size + s.size := by omega
      go_enter Tryd.func10, Tryd.ntmps10
      go_wp2_with fail
      refine hc.mono ?_; rintro e w1 ⟨rfl, hb1⟩
      clear hc
      go_wp2_with fail
      go_ret2
      exact ⟨two_eq E2.out.symm E1.out.symm, hb1⟩
  pTake b p n w hK hb hp hn := by
    have hc := cnumber b p n w (by omega) hp
    have HK := Lib.hid hK
    clear hK
    go_enter Tryd.func12, Tryd.ntmps12
    go_wp2_with fail
    refine hc.mono ?_; rintro e w1 ⟨x, rfl, hx, -, hb1⟩
    clear hc
    have hw := cwhy x _ hx w1 (HK.out.below hb1)
    go_wp2_with fail
    refine hw.mono ?_; rintro e w2 ⟨rfl, hb2⟩
    go_wp2
    go_ret3
    exact ⟨rfl, hb1.trans (hb2.mono hb1.size)⟩
  pCut b p m w hK hb hp hm := by
    have hc := ctext b p m w (by omega) hp
    have HK := Lib.hid hK
    clear hK
    go_enter Tryd.func14, Tryd.ntmps14
    go_wp2_with fail
    refine hc.mono ?_; rintro e w1 ⟨x, rfl, hx, hb1⟩
    clear hc
    have hw := cwhy x _ hx w1 (HK.out.below hb1)
    go_wp2_with fail
    refine hw.mono ?_; rintro e w2 ⟨rfl, hb2⟩
    go_wp2
    go_ret3
    exact ⟨rfl, hb1.trans (hb2.mono hb1.size)⟩
end Go.Proofs.YtflpnpppljalaaaDoor.PackC
