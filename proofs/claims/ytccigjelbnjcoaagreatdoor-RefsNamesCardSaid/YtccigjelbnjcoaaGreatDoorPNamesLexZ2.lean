/-
  Contract of package lex: signLength.
-/
import Derived.Test.YtccigjelbnjcoaaGreatDoorPNamesLexA
import Derived.Test.YtccigjelbnjcoaaGreatDoorPNamesShelf
namespace Go.Proofs.YtccigjelbnjcoaaGreatDoor.LexC
set_option linter.unusedVariables false
open Go.RowKit Go.Proofs.YtccigjelbnjcoaaGreatDoor.NumC
def signN : List UInt8 → Nat
  | [] => 0
  | c :: l => match signT c l with
    | some r => r.2.2.2
    | none => 0
theorem signN_none {c : UInt8} {l : List UInt8} (h : signT c l = none) : signN (c :: l) = 0 := by
  show (match signT c l with | some r => r.2.2.2 | none => 0) = 0
  rw [h]
theorem signN_some {c : UInt8} {l : List UInt8} {r : Int × Int × List UInt8 × Nat} (h : signT c l = some r) : signN (c :: l) = r.2.2.2 := by
  show (match signT c l with | some r => r.2.2.2 | none => 0) = r.2.2.2
  rw [h]
theorem pre_cons (d : UInt8) (t : List UInt8) (x : UInt8) : Lib.hasPrefix (d :: t) [x] = (x == d) := by simp [Lib.hasPrefix, List.isPrefixOf]
theorem rest_list (s : ByteArray) (h : 0 < s.size) : s.data.toList = s[0] :: (s.extract 1 s.size).data.toList := by
  rw [Lib.extract_data, List.take_of_length_le (by rw [List.length_drop, ← list_len]; omega)]
  have := List.drop_eq_getElem_cons (l := s.data.toList) (i := 0) (by rw [← list_len]; exact h)
  rw [List.drop_zero] at this
  exact this
theorem sign_60 (l : List UInt8) : signN (60 :: l) = if Lib.hasPrefix l [62] = true then 2 else if Lib.hasPrefix l [61] = true then 2 else 1 := by
  cases l with
  | nil => rfl
  | cons d t =>
    rw [pre_cons, pre_cons]
    by_cases h1 : (62 : UInt8) = d
    · subst h1; rfl
    · by_cases h2 : (61 : UInt8) = d
      · subst h2; rfl
      · have e1 : ((62 : UInt8) == d) = false := beq_eq_false_iff_ne.2 h1
        have e2 : ((61 : UInt8) == d) = false := beq_eq_false_iff_ne.2 h2
        have e3 : sign2 60 d = false := by
          have a1 : (d == 62) = false := beq_eq_false_iff_ne.2 (fun e => h1 e.symm)
          have a2 : (d == 61) = false := beq_eq_false_iff_ne.2 (fun e => h2 e.symm)
          unfold sign2; rw [a1, a2]; rfl
        have e4 : signT 60 (d :: t) = some (4, 0, [60], 1) := by unfold signT; simp only [e3]; rfl
        rw [e1, e2, signN_some e4]; rfl
theorem sign_62 (l : List UInt8) : signN (62 :: l) = if Lib.hasPrefix l [61] = true then 2 else 1 := by
  cases l with
  | nil => rfl
  | cons d t =>
    rw [pre_cons]
    by_cases h2 : (61 : UInt8) = d
    · subst h2; rfl
    · have e2 : ((61 : UInt8) == d) = false := beq_eq_false_iff_ne.2 h2
      have e3 : sign2 62 d = false := by
        have a2 : (d == 61) = false := beq_eq_false_iff_ne.2 (fun e => h2 e.symm)
        unfold sign2; rw [a2]; rfl
      have e4 : signT 62 (d :: t) = some (4, 0, [62], 1) := by unfold signT; simp only [e3]; rfl
      rw [e2, signN_some e4]; rfl
theorem sign_1 (c : UInt8) (l : List UInt8) (h0 : c ≠ 60) (h1 : c ≠ 62) : signN (c :: l) = if sign1 c = true then 1 else 0 := by
  have a0 : (c == 60) = false := beq_eq_false_iff_ne.2 h0
  have a1 : (c == 62) = false := beq_eq_false_iff_ne.2 h1
  cases l with
  | nil =>
    cases h : sign1 c
    · have e4 : signT c [] = none := by unfold signT; rw [h]; rfl
      rw [signN_none e4]; rfl
    · have e4 : signT c [] = some (4, 0, [c], 1) := by unfold signT; rw [h]; rfl
      rw [signN_some e4]; rfl
  | cons d t =>
    have e3 : sign2 c d = false := by unfold sign2; rw [a0, a1]; rfl
    cases h : sign1 c
    · have e4 : signT c (d :: t) = none := by unfold signT; simp only [e3, h]; rfl
      rw [signN_none e4]; rfl
    · have e4 : signT c (d :: t) = some (4, 0, [c], 1) := by unfold signT; simp only [e3, h]; rfl
      rw [signN_some e4]; rfl
set_option maxRecDepth 100000 in
set_option maxHeartbeats 2000000 in
theorem signLength (s : ByteArray) (w : World) (hs : s.size ≤ 1000000) (h0 : 0 < s.size) :
    Calls Tryz.prog 76 #[.string s] w fun e w' => e = .returned (.int .i64 (signN s.data.toList : Nat)) ∧ w = w' := by
  rw [rest_list s h0]
  by_cases hc60 : s[0].toNat = 60
  · have e0 : s[0] = 60 := UInt8.toNat_inj.1 hc60
    have E0 := Lib.hid (sign_60 (s.extract 1 s.size).data.toList)
    rw [← e0] at E0
    cases hp : Lib.hasPrefix (s.extract 1 s.size).data.toList [62]
    · cases hq : Lib.hasPrefix (s.extract 1 s.size).data.toList [61]
      · have E : Hid (signN (s[0] :: (s.extract 1 s.size).data.toList) = 1) := Lib.hid (by rw [E0.out, hp, hq]; rfl)
        have P62 := Lib.hid hp
        have P61 := Lib.hid hq
        have c60 : ((s[0].toNat : Int) == 60) = true := by rw [hc60]; rfl
        have c62 : ((s[0].toNat : Int) == 62) = false := beq_eq_false_iff_ne.2 (by omega)
        have c43 : ((s[0].toNat : Int) == 43) = false := beq_eq_false_iff_ne.2 (by omega)
        have c45 : ((s[0].toNat : Int) == 45) = false := beq_eq_false_iff_ne.2 (by omega)
        have c42 : ((s[0].toNat : Int) == 42) = false := beq_eq_false_iff_ne.2 (by omega)
        have c47 : ((s[0].toNat : Int) == 47) = false := beq_eq_false_iff_ne.2 (by omega)
        have c37 : ((s[0].toNat : Int) == 37) = false := beq_eq_false_iff_ne.2 (by omega)
        have c94 : ((s[0].toNat : Int) == 94) = false := beq_eq_false_iff_ne.2 (by omega)
        have c38 : ((s[0].toNat : Int) == 38) = false := beq_eq_false_iff_ne.2 (by omega)
        have c61 : ((s[0].toNat : Int) == 61) = false := beq_eq_false_iff_ne.2 (by omega)
        have c40 : ((s[0].toNat : Int) == 40) = false := beq_eq_false_iff_ne.2 (by omega)
        have c41 : ((s[0].toNat : Int) == 41) = false := beq_eq_false_iff_ne.2 (by omega)
        have c44 : ((s[0].toNat : Int) == 44) = false := beq_eq_false_iff_ne.2 (by omega)
        have c58 : ((s[0].toNat : Int) == 58) = false := beq_eq_false_iff_ne.2 (by omega)
        clear hp hq E0 e0 hc60
        go_enter Tryz.func76, Tryz.ntmps76
        go_wp2_with fail
        refine (Tryz.strings_HasPrefix _ { data := #[62] } _).mono ?_; rw [show Lib.hasPrefix (s.extract 1 s.size).data.toList (ByteArray.mk #[62]).data.toList = false from P62.out]; rintro e w1 ⟨rfl, rfl⟩
        go_wp2_with fail
        refine (Tryz.strings_HasPrefix _ { data := #[61] } _).mono ?_; rw [show Lib.hasPrefix (s.extract 1 s.size).data.toList (ByteArray.mk #[61]).data.toList = false from P61.out]; rintro e w1 ⟨rfl, rfl⟩
        go_wp2_with fail
        go_ret
        exact ⟨by rw [E.out]; rfl, rfl⟩
      · have E : Hid (signN (s[0] :: (s.extract 1 s.size).data.toList) = 2) := Lib.hid (by rw [E0.out, hp, hq]; rfl)
        have P62 := Lib.hid hp
        have P61 := Lib.hid hq
        have c60 : ((s[0].toNat : Int) == 60) = true := by rw [hc60]; rfl
        have c62 : ((s[0].toNat : Int) == 62) = false := beq_eq_false_iff_ne.2 (by omega)
        have c43 : ((s[0].toNat : Int) == 43) = false := beq_eq_false_iff_ne.2 (by omega)
        have c45 : ((s[0].toNat : Int) == 45) = false := beq_eq_false_iff_ne.2 (by omega)
        have c42 : ((s[0].toNat : Int) == 42) = false := beq_eq_false_iff_ne.2 (by omega)
        have c47 : ((s[0].toNat : Int) == 47) = false := beq_eq_false_iff_ne.2 (by omega)
        have c37 : ((s[0].toNat : Int) == 37) = false := beq_eq_false_iff_ne.2 (by omega)
        have c94 : ((s[0].toNat : Int) == 94) = false := beq_eq_false_iff_ne.2 (by omega)
        have c38 : ((s[0].toNat : Int) == 38) = false := beq_eq_false_iff_ne.2 (by omega)
        have c61 : ((s[0].toNat : Int) == 61) = false := beq_eq_false_iff_ne.2 (by omega)
        have c40 : ((s[0].toNat : Int) == 40) = false := beq_eq_false_iff_ne.2 (by omega)
        have c41 : ((s[0].toNat : Int) == 41) = false := beq_eq_false_iff_ne.2 (by omega)
        have c44 : ((s[0].toNat : Int) == 44) = false := beq_eq_false_iff_ne.2 (by omega)
        have c58 : ((s[0].toNat : Int) == 58) = false := beq_eq_false_iff_ne.2 (by omega)
        clear hp hq E0 e0 hc60
        go_enter Tryz.func76, Tryz.ntmps76
        go_wp2_with fail
        refine (Tryz.strings_HasPrefix _ { data := #[62] } _).mono ?_; rw [show Lib.hasPrefix (s.extract 1 s.size).data.toList (ByteArray.mk #[62]).data.toList = false from P62.out]; rintro e w1 ⟨rfl, rfl⟩
        go_wp2_with fail
        refine (Tryz.strings_HasPrefix _ { data := #[61] } _).mono ?_; rw [show Lib.hasPrefix (s.extract 1 s.size).data.toList (ByteArray.mk #[61]).data.toList = true from P61.out]; rintro e w1 ⟨rfl, rfl⟩
        go_wp2_with fail
        go_ret
        exact ⟨by rw [E.out]; rfl, rfl⟩
    · have hq : Lib.hasPrefix (s.extract 1 s.size).data.toList [61] = false := by
        revert hp
        cases (s.extract 1 s.size).data.toList with
        | nil => intro _; rfl
        | cons d t =>
          rw [pre_cons, pre_cons]; intro h
          have : (62 : UInt8) = d := beq_iff_eq.1 h
          subst this; rfl
      have E : Hid (signN (s[0] :: (s.extract 1 s.size).data.toList) = 2) := Lib.hid (by rw [E0.out, hp]; rfl)
      have P62 := Lib.hid hp
      have P61 := Lib.hid hq
      have c60 : ((s[0].toNat : Int) == 60) = true := by rw [hc60]; rfl
      have c62 : ((s[0].toNat : Int) == 62) = false := beq_eq_false_iff_ne.2 (by omega)
      have c43 : ((s[0].toNat : Int) == 43) = false := beq_eq_false_iff_ne.2 (by omega)
      have c45 : ((s[0].toNat : Int) == 45) = false := beq_eq_false_iff_ne.2 (by omega)
      have c42 : ((s[0].toNat : Int) == 42) = false := beq_eq_false_iff_ne.2 (by omega)
      have c47 : ((s[0].toNat : Int) == 47) = false := beq_eq_false_iff_ne.2 (by omega)
      have c37 : ((s[0].toNat : Int) == 37) = false := beq_eq_false_iff_ne.2 (by omega)
      have c94 : ((s[0].toNat : Int) == 94) = false := beq_eq_false_iff_ne.2 (by omega)
      have c38 : ((s[0].toNat : Int) == 38) = false := beq_eq_false_iff_ne.2 (by omega)
      have c61 : ((s[0].toNat : Int) == 61) = false := beq_eq_false_iff_ne.2 (by omega)
      have c40 : ((s[0].toNat : Int) == 40) = false := beq_eq_false_iff_ne.2 (by omega)
      have c41 : ((s[0].toNat : Int) == 41) = false := beq_eq_false_iff_ne.2 (by omega)
      have c44 : ((s[0].toNat : Int) == 44) = false := beq_eq_false_iff_ne.2 (by omega)
      have c58 : ((s[0].toNat : Int) == 58) = false := beq_eq_false_iff_ne.2 (by omega)
      clear hp hq E0 e0 hc60
      go_enter Tryz.func76, Tryz.ntmps76
      go_wp2_with fail
      refine (Tryz.strings_HasPrefix _ { data := #[62] } _).mono ?_; rw [show Lib.hasPrefix (s.extract 1 s.size).data.toList (ByteArray.mk #[62]).data.toList = true from P62.out]; rintro e w1 ⟨rfl, rfl⟩
      go_wp2_with fail
      refine (Tryz.strings_HasPrefix _ { data := #[61] } _).mono ?_; rw [show Lib.hasPrefix (s.extract 1 s.size).data.toList (ByteArray.mk #[61]).data.toList = false from P61.out]; rintro e w1 ⟨rfl, rfl⟩
      go_wp2_with fail
      go_ret
      exact ⟨by rw [E.out]; rfl, rfl⟩
  · by_cases hc62 : s[0].toNat = 62
    · have e0 : s[0] = 62 := UInt8.toNat_inj.1 hc62
      have E0 := Lib.hid (sign_62 (s.extract 1 s.size).data.toList)
      rw [← e0] at E0
      cases hq : Lib.hasPrefix (s.extract 1 s.size).data.toList [61]
      · have E : Hid (signN (s[0] :: (s.extract 1 s.size).data.toList) = 1) := Lib.hid (by rw [E0.out, hq]; rfl)
        have P61 := Lib.hid hq
        have c60 : ((s[0].toNat : Int) == 60) = false := beq_eq_false_iff_ne.2 (by omega)
        have c62 : ((s[0].toNat : Int) == 62) = true := by rw [hc62]; rfl
        have c43 : ((s[0].toNat : Int) == 43) = false := beq_eq_false_iff_ne.2 (by omega)
        have c45 : ((s[0].toNat : Int) == 45) = false := beq_eq_false_iff_ne.2 (by omega)
        have c42 : ((s[0].toNat : Int) == 42) = false := beq_eq_false_iff_ne.2 (by omega)
        have c47 : ((s[0].toNat : Int) == 47) = false := beq_eq_false_iff_ne.2 (by omega)
        have c37 : ((s[0].toNat : Int) == 37) = false := beq_eq_false_iff_ne.2 (by omega)
        have c94 : ((s[0].toNat : Int) == 94) = false := beq_eq_false_iff_ne.2 (by omega)
        have c38 : ((s[0].toNat : Int) == 38) = false := beq_eq_false_iff_ne.2 (by omega)
        have c61 : ((s[0].toNat : Int) == 61) = false := beq_eq_false_iff_ne.2 (by omega)
        have c40 : ((s[0].toNat : Int) == 40) = false := beq_eq_false_iff_ne.2 (by omega)
        have c41 : ((s[0].toNat : Int) == 41) = false := beq_eq_false_iff_ne.2 (by omega)
        have c44 : ((s[0].toNat : Int) == 44) = false := beq_eq_false_iff_ne.2 (by omega)
        have c58 : ((s[0].toNat : Int) == 58) = false := beq_eq_false_iff_ne.2 (by omega)
        clear hq E0 e0 hc60 hc62
        go_enter Tryz.func76, Tryz.ntmps76
        go_wp2_with fail
        refine (Tryz.strings_HasPrefix _ { data := #[61] } _).mono ?_; rw [show Lib.hasPrefix (s.extract 1 s.size).data.toList (ByteArray.mk #[61]).data.toList = false from P61.out]; rintro e w1 ⟨rfl, rfl⟩
        go_wp2_with fail
        go_ret
        exact ⟨by rw [E.out]; rfl, rfl⟩
      · have E : Hid (signN (s[0] :: (s.extract 1 s.size).data.toList) = 2) := Lib.hid (by rw [E0.out, hq]; rfl)
        have P61 := Lib.hid hq
        have c60 : ((s[0].toNat : Int) == 60) = false := beq_eq_false_iff_ne.2 (by omega)
        have c62 : ((s[0].toNat : Int) == 62) = true := by rw [hc62]; rfl
        have c43 : ((s[0].toNat : Int) == 43) = false := beq_eq_false_iff_ne.2 (by omega)
        have c45 : ((s[0].toNat : Int) == 45) = false := beq_eq_false_iff_ne.2 (by omega)
        have c42 : ((s[0].toNat : Int) == 42) = false := beq_eq_false_iff_ne.2 (by omega)
        have c47 : ((s[0].toNat : Int) == 47) = false := beq_eq_false_iff_ne.2 (by omega)
        have c37 : ((s[0].toNat : Int) == 37) = false := beq_eq_false_iff_ne.2 (by omega)
        have c94 : ((s[0].toNat : Int) == 94) = false := beq_eq_false_iff_ne.2 (by omega)
        have c38 : ((s[0].toNat : Int) == 38) = false := beq_eq_false_iff_ne.2 (by omega)
        have c61 : ((s[0].toNat : Int) == 61) = false := beq_eq_false_iff_ne.2 (by omega)
        have c40 : ((s[0].toNat : Int) == 40) = false := beq_eq_false_iff_ne.2 (by omega)
        have c41 : ((s[0].toNat : Int) == 41) = false := beq_eq_false_iff_ne.2 (by omega)
        have c44 : ((s[0].toNat : Int) == 44) = false := beq_eq_false_iff_ne.2 (by omega)
        have c58 : ((s[0].toNat : Int) == 58) = false := beq_eq_false_iff_ne.2 (by omega)
        clear hq E0 e0 hc60 hc62
        go_enter Tryz.func76, Tryz.ntmps76
        go_wp2_with fail
        refine (Tryz.strings_HasPrefix _ { data := #[61] } _).mono ?_; rw [show Lib.hasPrefix (s.extract 1 s.size).data.toList (ByteArray.mk #[61]).data.toList = true from P61.out]; rintro e w1 ⟨rfl, rfl⟩
        go_wp2_with fail
        go_ret
        exact ⟨by rw [E.out]; rfl, rfl⟩
    · have n60 : s[0] ≠ 60 := fun e => hc60 (by rw [e]; rfl)
      have n62 : s[0] ≠ 62 := fun e => hc62 (by rw [e]; rfl)
      have E0 := Lib.hid (sign_1 s[0] (s.extract 1 s.size).data.toList n60 n62)
      clear n60 n62
      by_cases hc43 : s[0].toNat = 43
      · have E : Hid (signN (s[0] :: (s.extract 1 s.size).data.toList) = 1) := Lib.hid (by rw [E0.out, show s[0] = 43 from UInt8.toNat_inj.1 hc43]; rfl)
        have c60 : ((s[0].toNat : Int) == 60) = false := beq_eq_false_iff_ne.2 (by omega)
        have c62 : ((s[0].toNat : Int) == 62) = false := beq_eq_false_iff_ne.2 (by omega)
        have c43 : ((s[0].toNat : Int) == 43) = true := by rw [hc43]; rfl
        have c45 : ((s[0].toNat : Int) == 45) = false := beq_eq_false_iff_ne.2 (by omega)
        have c42 : ((s[0].toNat : Int) == 42) = false := beq_eq_false_iff_ne.2 (by omega)
        have c47 : ((s[0].toNat : Int) == 47) = false := beq_eq_false_iff_ne.2 (by omega)
        have c37 : ((s[0].toNat : Int) == 37) = false := beq_eq_false_iff_ne.2 (by omega)
        have c94 : ((s[0].toNat : Int) == 94) = false := beq_eq_false_iff_ne.2 (by omega)
        have c38 : ((s[0].toNat : Int) == 38) = false := beq_eq_false_iff_ne.2 (by omega)
        have c61 : ((s[0].toNat : Int) == 61) = false := beq_eq_false_iff_ne.2 (by omega)
        have c40 : ((s[0].toNat : Int) == 40) = false := beq_eq_false_iff_ne.2 (by omega)
        have c41 : ((s[0].toNat : Int) == 41) = false := beq_eq_false_iff_ne.2 (by omega)
        have c44 : ((s[0].toNat : Int) == 44) = false := beq_eq_false_iff_ne.2 (by omega)
        have c58 : ((s[0].toNat : Int) == 58) = false := beq_eq_false_iff_ne.2 (by omega)
        clear hc60 hc62 hc43 E0
        go_enter Tryz.func76, Tryz.ntmps76
        go_wp2_with fail
        go_ret
        exact ⟨by rw [E.out]; rfl, rfl⟩
      · have u43 := hc43
        by_cases hc45 : s[0].toNat = 45
        · have E : Hid (signN (s[0] :: (s.extract 1 s.size).data.toList) = 1) := Lib.hid (by rw [E0.out, show s[0] = 45 from UInt8.toNat_inj.1 hc45]; rfl)
          have c60 : ((s[0].toNat : Int) == 60) = false := beq_eq_false_iff_ne.2 (by omega)
          have c62 : ((s[0].toNat : Int) == 62) = false := beq_eq_false_iff_ne.2 (by omega)
          have c43 : ((s[0].toNat : Int) == 43) = false := beq_eq_false_iff_ne.2 (by omega)
          have c45 : ((s[0].toNat : Int) == 45) = true := by rw [hc45]; rfl
          have c42 : ((s[0].toNat : Int) == 42) = false := beq_eq_false_iff_ne.2 (by omega)
          have c47 : ((s[0].toNat : Int) == 47) = false := beq_eq_false_iff_ne.2 (by omega)
          have c37 : ((s[0].toNat : Int) == 37) = false := beq_eq_false_iff_ne.2 (by omega)
          have c94 : ((s[0].toNat : Int) == 94) = false := beq_eq_false_iff_ne.2 (by omega)
          have c38 : ((s[0].toNat : Int) == 38) = false := beq_eq_false_iff_ne.2 (by omega)
          have c61 : ((s[0].toNat : Int) == 61) = false := beq_eq_false_iff_ne.2 (by omega)
          have c40 : ((s[0].toNat : Int) == 40) = false := beq_eq_false_iff_ne.2 (by omega)
          have c41 : ((s[0].toNat : Int) == 41) = false := beq_eq_false_iff_ne.2 (by omega)
          have c44 : ((s[0].toNat : Int) == 44) = false := beq_eq_false_iff_ne.2 (by omega)
          have c58 : ((s[0].toNat : Int) == 58) = false := beq_eq_false_iff_ne.2 (by omega)
          clear hc60 hc62 hc43 hc45 E0
          go_enter Tryz.func76, Tryz.ntmps76
          go_wp2_with fail
          go_ret
          exact ⟨by rw [E.out]; rfl, rfl⟩
        · have u45 := hc45
          by_cases hc42 : s[0].toNat = 42
          · have E : Hid (signN (s[0] :: (s.extract 1 s.size).data.toList) = 1) := Lib.hid (by rw [E0.out, show s[0] = 42 from UInt8.toNat_inj.1 hc42]; rfl)
            have c60 : ((s[0].toNat : Int) == 60) = false := beq_eq_false_iff_ne.2 (by omega)
            have c62 : ((s[0].toNat : Int) == 62) = false := beq_eq_false_iff_ne.2 (by omega)
            have c43 : ((s[0].toNat : Int) == 43) = false := beq_eq_false_iff_ne.2 (by omega)
            have c45 : ((s[0].toNat : Int) == 45) = false := beq_eq_false_iff_ne.2 (by omega)
            have c42 : ((s[0].toNat : Int) == 42) = true := by rw [hc42]; rfl
            have c47 : ((s[0].toNat : Int) == 47) = false := beq_eq_false_iff_ne.2 (by omega)
            have c37 : ((s[0].toNat : Int) == 37) = false := beq_eq_false_iff_ne.2 (by omega)
            have c94 : ((s[0].toNat : Int) == 94) = false := beq_eq_false_iff_ne.2 (by omega)
            have c38 : ((s[0].toNat : Int) == 38) = false := beq_eq_false_iff_ne.2 (by omega)
            have c61 : ((s[0].toNat : Int) == 61) = false := beq_eq_false_iff_ne.2 (by omega)
            have c40 : ((s[0].toNat : Int) == 40) = false := beq_eq_false_iff_ne.2 (by omega)
            have c41 : ((s[0].toNat : Int) == 41) = false := beq_eq_false_iff_ne.2 (by omega)
            have c44 : ((s[0].toNat : Int) == 44) = false := beq_eq_false_iff_ne.2 (by omega)
            have c58 : ((s[0].toNat : Int) == 58) = false := beq_eq_false_iff_ne.2 (by omega)
            clear hc60 hc62 hc43 hc45 hc42 E0
            go_enter Tryz.func76, Tryz.ntmps76
            go_wp2_with fail
            go_ret
            exact ⟨by rw [E.out]; rfl, rfl⟩
          · have u42 := hc42
            by_cases hc47 : s[0].toNat = 47
            · have E : Hid (signN (s[0] :: (s.extract 1 s.size).data.toList) = 1) := Lib.hid (by rw [E0.out, show s[0] = 47 from UInt8.toNat_inj.1 hc47]; rfl)
              have c60 : ((s[0].toNat : Int) == 60) = false := beq_eq_false_iff_ne.2 (by omega)
              have c62 : ((s[0].toNat : Int) == 62) = false := beq_eq_false_iff_ne.2 (by omega)
              have c43 : ((s[0].toNat : Int) == 43) = false := beq_eq_false_iff_ne.2 (by omega)
              have c45 : ((s[0].toNat : Int) == 45) = false := beq_eq_false_iff_ne.2 (by omega)
              have c42 : ((s[0].toNat : Int) == 42) = false := beq_eq_false_iff_ne.2 (by omega)
              have c47 : ((s[0].toNat : Int) == 47) = true := by rw [hc47]; rfl
              have c37 : ((s[0].toNat : Int) == 37) = false := beq_eq_false_iff_ne.2 (by omega)
              have c94 : ((s[0].toNat : Int) == 94) = false := beq_eq_false_iff_ne.2 (by omega)
              have c38 : ((s[0].toNat : Int) == 38) = false := beq_eq_false_iff_ne.2 (by omega)
              have c61 : ((s[0].toNat : Int) == 61) = false := beq_eq_false_iff_ne.2 (by omega)
              have c40 : ((s[0].toNat : Int) == 40) = false := beq_eq_false_iff_ne.2 (by omega)
              have c41 : ((s[0].toNat : Int) == 41) = false := beq_eq_false_iff_ne.2 (by omega)
              have c44 : ((s[0].toNat : Int) == 44) = false := beq_eq_false_iff_ne.2 (by omega)
              have c58 : ((s[0].toNat : Int) == 58) = false := beq_eq_false_iff_ne.2 (by omega)
              clear hc60 hc62 hc43 hc45 hc42 hc47 E0
              go_enter Tryz.func76, Tryz.ntmps76
              go_wp2_with fail
              go_ret
              exact ⟨by rw [E.out]; rfl, rfl⟩
            · have u47 := hc47
              by_cases hc37 : s[0].toNat = 37
              · have E : Hid (signN (s[0] :: (s.extract 1 s.size).data.toList) = 1) := Lib.hid (by rw [E0.out, show s[0] = 37 from UInt8.toNat_inj.1 hc37]; rfl)
                have c60 : ((s[0].toNat : Int) == 60) = false := beq_eq_false_iff_ne.2 (by omega)
                have c62 : ((s[0].toNat : Int) == 62) = false := beq_eq_false_iff_ne.2 (by omega)
                have c43 : ((s[0].toNat : Int) == 43) = false := beq_eq_false_iff_ne.2 (by omega)
                have c45 : ((s[0].toNat : Int) == 45) = false := beq_eq_false_iff_ne.2 (by omega)
                have c42 : ((s[0].toNat : Int) == 42) = false := beq_eq_false_iff_ne.2 (by omega)
                have c47 : ((s[0].toNat : Int) == 47) = false := beq_eq_false_iff_ne.2 (by omega)
                have c37 : ((s[0].toNat : Int) == 37) = true := by rw [hc37]; rfl
                have c94 : ((s[0].toNat : Int) == 94) = false := beq_eq_false_iff_ne.2 (by omega)
                have c38 : ((s[0].toNat : Int) == 38) = false := beq_eq_false_iff_ne.2 (by omega)
                have c61 : ((s[0].toNat : Int) == 61) = false := beq_eq_false_iff_ne.2 (by omega)
                have c40 : ((s[0].toNat : Int) == 40) = false := beq_eq_false_iff_ne.2 (by omega)
                have c41 : ((s[0].toNat : Int) == 41) = false := beq_eq_false_iff_ne.2 (by omega)
                have c44 : ((s[0].toNat : Int) == 44) = false := beq_eq_false_iff_ne.2 (by omega)
                have c58 : ((s[0].toNat : Int) == 58) = false := beq_eq_false_iff_ne.2 (by omega)
                clear hc60 hc62 hc43 hc45 hc42 hc47 hc37 E0
                go_enter Tryz.func76, Tryz.ntmps76
                go_wp2_with fail
                go_ret
                exact ⟨by rw [E.out]; rfl, rfl⟩
              · have u37 := hc37
                by_cases hc94 : s[0].toNat = 94
                · have E : Hid (signN (s[0] :: (s.extract 1 s.size).data.toList) = 1) := Lib.hid (by rw [E0.out, show s[0] = 94 from UInt8.toNat_inj.1 hc94]; rfl)
                  have c60 : ((s[0].toNat : Int) == 60) = false := beq_eq_false_iff_ne.2 (by omega)
                  have c62 : ((s[0].toNat : Int) == 62) = false := beq_eq_false_iff_ne.2 (by omega)
                  have c43 : ((s[0].toNat : Int) == 43) = false := beq_eq_false_iff_ne.2 (by omega)
                  have c45 : ((s[0].toNat : Int) == 45) = false := beq_eq_false_iff_ne.2 (by omega)
                  have c42 : ((s[0].toNat : Int) == 42) = false := beq_eq_false_iff_ne.2 (by omega)
                  have c47 : ((s[0].toNat : Int) == 47) = false := beq_eq_false_iff_ne.2 (by omega)
                  have c37 : ((s[0].toNat : Int) == 37) = false := beq_eq_false_iff_ne.2 (by omega)
                  have c94 : ((s[0].toNat : Int) == 94) = true := by rw [hc94]; rfl
                  have c38 : ((s[0].toNat : Int) == 38) = false := beq_eq_false_iff_ne.2 (by omega)
                  have c61 : ((s[0].toNat : Int) == 61) = false := beq_eq_false_iff_ne.2 (by omega)
                  have c40 : ((s[0].toNat : Int) == 40) = false := beq_eq_false_iff_ne.2 (by omega)
                  have c41 : ((s[0].toNat : Int) == 41) = false := beq_eq_false_iff_ne.2 (by omega)
                  have c44 : ((s[0].toNat : Int) == 44) = false := beq_eq_false_iff_ne.2 (by omega)
                  have c58 : ((s[0].toNat : Int) == 58) = false := beq_eq_false_iff_ne.2 (by omega)
                  clear hc60 hc62 hc43 hc45 hc42 hc47 hc37 hc94 E0
                  go_enter Tryz.func76, Tryz.ntmps76
                  go_wp2_with fail
                  go_ret
                  exact ⟨by rw [E.out]; rfl, rfl⟩
                · have u94 := hc94
                  by_cases hc38 : s[0].toNat = 38
                  · have E : Hid (signN (s[0] :: (s.extract 1 s.size).data.toList) = 1) := Lib.hid (by rw [E0.out, show s[0] = 38 from UInt8.toNat_inj.1 hc38]; rfl)
                    have c60 : ((s[0].toNat : Int) == 60) = false := beq_eq_false_iff_ne.2 (by omega)
                    have c62 : ((s[0].toNat : Int) == 62) = false := beq_eq_false_iff_ne.2 (by omega)
                    have c43 : ((s[0].toNat : Int) == 43) = false := beq_eq_false_iff_ne.2 (by omega)
                    have c45 : ((s[0].toNat : Int) == 45) = false := beq_eq_false_iff_ne.2 (by omega)
                    have c42 : ((s[0].toNat : Int) == 42) = false := beq_eq_false_iff_ne.2 (by omega)
                    have c47 : ((s[0].toNat : Int) == 47) = false := beq_eq_false_iff_ne.2 (by omega)
                    have c37 : ((s[0].toNat : Int) == 37) = false := beq_eq_false_iff_ne.2 (by omega)
                    have c94 : ((s[0].toNat : Int) == 94) = false := beq_eq_false_iff_ne.2 (by omega)
                    have c38 : ((s[0].toNat : Int) == 38) = true := by rw [hc38]; rfl
                    have c61 : ((s[0].toNat : Int) == 61) = false := beq_eq_false_iff_ne.2 (by omega)
                    have c40 : ((s[0].toNat : Int) == 40) = false := beq_eq_false_iff_ne.2 (by omega)
                    have c41 : ((s[0].toNat : Int) == 41) = false := beq_eq_false_iff_ne.2 (by omega)
                    have c44 : ((s[0].toNat : Int) == 44) = false := beq_eq_false_iff_ne.2 (by omega)
                    have c58 : ((s[0].toNat : Int) == 58) = false := beq_eq_false_iff_ne.2 (by omega)
                    clear hc60 hc62 hc43 hc45 hc42 hc47 hc37 hc94 hc38 E0
                    go_enter Tryz.func76, Tryz.ntmps76
                    go_wp2_with fail
                    go_ret
                    exact ⟨by rw [E.out]; rfl, rfl⟩
                  · have u38 := hc38
                    by_cases hc61 : s[0].toNat = 61
                    · have E : Hid (signN (s[0] :: (s.extract 1 s.size).data.toList) = 1) := Lib.hid (by rw [E0.out, show s[0] = 61 from UInt8.toNat_inj.1 hc61]; rfl)
                      have c60 : ((s[0].toNat : Int) == 60) = false := beq_eq_false_iff_ne.2 (by omega)
                      have c62 : ((s[0].toNat : Int) == 62) = false := beq_eq_false_iff_ne.2 (by omega)
                      have c43 : ((s[0].toNat : Int) == 43) = false := beq_eq_false_iff_ne.2 (by omega)
                      have c45 : ((s[0].toNat : Int) == 45) = false := beq_eq_false_iff_ne.2 (by omega)
                      have c42 : ((s[0].toNat : Int) == 42) = false := beq_eq_false_iff_ne.2 (by omega)
                      have c47 : ((s[0].toNat : Int) == 47) = false := beq_eq_false_iff_ne.2 (by omega)
                      have c37 : ((s[0].toNat : Int) == 37) = false := beq_eq_false_iff_ne.2 (by omega)
                      have c94 : ((s[0].toNat : Int) == 94) = false := beq_eq_false_iff_ne.2 (by omega)
                      have c38 : ((s[0].toNat : Int) == 38) = false := beq_eq_false_iff_ne.2 (by omega)
                      have c61 : ((s[0].toNat : Int) == 61) = true := by rw [hc61]; rfl
                      have c40 : ((s[0].toNat : Int) == 40) = false := beq_eq_false_iff_ne.2 (by omega)
                      have c41 : ((s[0].toNat : Int) == 41) = false := beq_eq_false_iff_ne.2 (by omega)
                      have c44 : ((s[0].toNat : Int) == 44) = false := beq_eq_false_iff_ne.2 (by omega)
                      have c58 : ((s[0].toNat : Int) == 58) = false := beq_eq_false_iff_ne.2 (by omega)
                      clear hc60 hc62 hc43 hc45 hc42 hc47 hc37 hc94 hc38 hc61 E0
                      go_enter Tryz.func76, Tryz.ntmps76
                      go_wp2_with fail
                      go_ret
                      exact ⟨by rw [E.out]; rfl, rfl⟩
                    · have u61 := hc61
                      by_cases hc40 : s[0].toNat = 40
                      · have E : Hid (signN (s[0] :: (s.extract 1 s.size).data.toList) = 1) := Lib.hid (by rw [E0.out, show s[0] = 40 from UInt8.toNat_inj.1 hc40]; rfl)
                        have c60 : ((s[0].toNat : Int) == 60) = false := beq_eq_false_iff_ne.2 (by omega)
                        have c62 : ((s[0].toNat : Int) == 62) = false := beq_eq_false_iff_ne.2 (by omega)
                        have c43 : ((s[0].toNat : Int) == 43) = false := beq_eq_false_iff_ne.2 (by omega)
                        have c45 : ((s[0].toNat : Int) == 45) = false := beq_eq_false_iff_ne.2 (by omega)
                        have c42 : ((s[0].toNat : Int) == 42) = false := beq_eq_false_iff_ne.2 (by omega)
                        have c47 : ((s[0].toNat : Int) == 47) = false := beq_eq_false_iff_ne.2 (by omega)
                        have c37 : ((s[0].toNat : Int) == 37) = false := beq_eq_false_iff_ne.2 (by omega)
                        have c94 : ((s[0].toNat : Int) == 94) = false := beq_eq_false_iff_ne.2 (by omega)
                        have c38 : ((s[0].toNat : Int) == 38) = false := beq_eq_false_iff_ne.2 (by omega)
                        have c61 : ((s[0].toNat : Int) == 61) = false := beq_eq_false_iff_ne.2 (by omega)
                        have c40 : ((s[0].toNat : Int) == 40) = true := by rw [hc40]; rfl
                        have c41 : ((s[0].toNat : Int) == 41) = false := beq_eq_false_iff_ne.2 (by omega)
                        have c44 : ((s[0].toNat : Int) == 44) = false := beq_eq_false_iff_ne.2 (by omega)
                        have c58 : ((s[0].toNat : Int) == 58) = false := beq_eq_false_iff_ne.2 (by omega)
                        clear hc60 hc62 hc43 hc45 hc42 hc47 hc37 hc94 hc38 hc61 hc40 E0
                        go_enter Tryz.func76, Tryz.ntmps76
                        go_wp2_with fail
                        go_ret
                        exact ⟨by rw [E.out]; rfl, rfl⟩
                      · have u40 := hc40
                        by_cases hc41 : s[0].toNat = 41
                        · have E : Hid (signN (s[0] :: (s.extract 1 s.size).data.toList) = 1) := Lib.hid (by rw [E0.out, show s[0] = 41 from UInt8.toNat_inj.1 hc41]; rfl)
                          have c60 : ((s[0].toNat : Int) == 60) = false := beq_eq_false_iff_ne.2 (by omega)
                          have c62 : ((s[0].toNat : Int) == 62) = false := beq_eq_false_iff_ne.2 (by omega)
                          have c43 : ((s[0].toNat : Int) == 43) = false := beq_eq_false_iff_ne.2 (by omega)
                          have c45 : ((s[0].toNat : Int) == 45) = false := beq_eq_false_iff_ne.2 (by omega)
                          have c42 : ((s[0].toNat : Int) == 42) = false := beq_eq_false_iff_ne.2 (by omega)
                          have c47 : ((s[0].toNat : Int) == 47) = false := beq_eq_false_iff_ne.2 (by omega)
                          have c37 : ((s[0].toNat : Int) == 37) = false := beq_eq_false_iff_ne.2 (by omega)
                          have c94 : ((s[0].toNat : Int) == 94) = false := beq_eq_false_iff_ne.2 (by omega)
                          have c38 : ((s[0].toNat : Int) == 38) = false := beq_eq_false_iff_ne.2 (by omega)
                          have c61 : ((s[0].toNat : Int) == 61) = false := beq_eq_false_iff_ne.2 (by omega)
                          have c40 : ((s[0].toNat : Int) == 40) = false := beq_eq_false_iff_ne.2 (by omega)
                          have c41 : ((s[0].toNat : Int) == 41) = true := by rw [hc41]; rfl
                          have c44 : ((s[0].toNat : Int) == 44) = false := beq_eq_false_iff_ne.2 (by omega)
                          have c58 : ((s[0].toNat : Int) == 58) = false := beq_eq_false_iff_ne.2 (by omega)
                          clear hc60 hc62 hc43 hc45 hc42 hc47 hc37 hc94 hc38 hc61 hc40 hc41 E0
                          go_enter Tryz.func76, Tryz.ntmps76
                          go_wp2_with fail
                          go_ret
                          exact ⟨by rw [E.out]; rfl, rfl⟩
                        · have u41 := hc41
                          by_cases hc44 : s[0].toNat = 44
                          · have E : Hid (signN (s[0] :: (s.extract 1 s.size).data.toList) = 1) := Lib.hid (by rw [E0.out, show s[0] = 44 from UInt8.toNat_inj.1 hc44]; rfl)
                            have c60 : ((s[0].toNat : Int) == 60) = false := beq_eq_false_iff_ne.2 (by omega)
                            have c62 : ((s[0].toNat : Int) == 62) = false := beq_eq_false_iff_ne.2 (by omega)
                            have c43 : ((s[0].toNat : Int) == 43) = false := beq_eq_false_iff_ne.2 (by omega)
                            have c45 : ((s[0].toNat : Int) == 45) = false := beq_eq_false_iff_ne.2 (by omega)
                            have c42 : ((s[0].toNat : Int) == 42) = false := beq_eq_false_iff_ne.2 (by omega)
                            have c47 : ((s[0].toNat : Int) == 47) = false := beq_eq_false_iff_ne.2 (by omega)
                            have c37 : ((s[0].toNat : Int) == 37) = false := beq_eq_false_iff_ne.2 (by omega)
                            have c94 : ((s[0].toNat : Int) == 94) = false := beq_eq_false_iff_ne.2 (by omega)
                            have c38 : ((s[0].toNat : Int) == 38) = false := beq_eq_false_iff_ne.2 (by omega)
                            have c61 : ((s[0].toNat : Int) == 61) = false := beq_eq_false_iff_ne.2 (by omega)
                            have c40 : ((s[0].toNat : Int) == 40) = false := beq_eq_false_iff_ne.2 (by omega)
                            have c41 : ((s[0].toNat : Int) == 41) = false := beq_eq_false_iff_ne.2 (by omega)
                            have c44 : ((s[0].toNat : Int) == 44) = true := by rw [hc44]; rfl
                            have c58 : ((s[0].toNat : Int) == 58) = false := beq_eq_false_iff_ne.2 (by omega)
                            clear hc60 hc62 hc43 hc45 hc42 hc47 hc37 hc94 hc38 hc61 hc40 hc41 hc44 E0
                            go_enter Tryz.func76, Tryz.ntmps76
                            go_wp2_with fail
                            go_ret
                            exact ⟨by rw [E.out]; rfl, rfl⟩
                          · have u44 := hc44
                            by_cases hc58 : s[0].toNat = 58
                            · have E : Hid (signN (s[0] :: (s.extract 1 s.size).data.toList) = 1) := Lib.hid (by rw [E0.out, show s[0] = 58 from UInt8.toNat_inj.1 hc58]; rfl)
                              have c60 : ((s[0].toNat : Int) == 60) = false := beq_eq_false_iff_ne.2 (by omega)
                              have c62 : ((s[0].toNat : Int) == 62) = false := beq_eq_false_iff_ne.2 (by omega)
                              have c43 : ((s[0].toNat : Int) == 43) = false := beq_eq_false_iff_ne.2 (by omega)
                              have c45 : ((s[0].toNat : Int) == 45) = false := beq_eq_false_iff_ne.2 (by omega)
                              have c42 : ((s[0].toNat : Int) == 42) = false := beq_eq_false_iff_ne.2 (by omega)
                              have c47 : ((s[0].toNat : Int) == 47) = false := beq_eq_false_iff_ne.2 (by omega)
                              have c37 : ((s[0].toNat : Int) == 37) = false := beq_eq_false_iff_ne.2 (by omega)
                              have c94 : ((s[0].toNat : Int) == 94) = false := beq_eq_false_iff_ne.2 (by omega)
                              have c38 : ((s[0].toNat : Int) == 38) = false := beq_eq_false_iff_ne.2 (by omega)
                              have c61 : ((s[0].toNat : Int) == 61) = false := beq_eq_false_iff_ne.2 (by omega)
                              have c40 : ((s[0].toNat : Int) == 40) = false := beq_eq_false_iff_ne.2 (by omega)
                              have c41 : ((s[0].toNat : Int) == 41) = false := beq_eq_false_iff_ne.2 (by omega)
                              have c44 : ((s[0].toNat : Int) == 44) = false := beq_eq_false_iff_ne.2 (by omega)
                              have c58 : ((s[0].toNat : Int) == 58) = true := by rw [hc58]; rfl
                              clear hc60 hc62 hc43 hc45 hc42 hc47 hc37 hc94 hc38 hc61 hc40 hc41 hc44 hc58 E0
                              go_enter Tryz.func76, Tryz.ntmps76
                              go_wp2_with fail
                              go_ret
                              exact ⟨by rw [E.out]; rfl, rfl⟩
                            · have u58 := hc58
                              have E1 : sign1 s[0] = false := by
                                unfold sign1
                                rw [List.contains_eq_mem]
                                refine decide_eq_false fun h => ?_
                                simp only [List.mem_cons, List.mem_nil_iff, or_false] at h
                                rcases h with h | h | h | h | h | h | h | h | h | h | h | h | h | h
                                · exact hc43 (by rw [h]; rfl)
                                · exact hc45 (by rw [h]; rfl)
                                · exact hc42 (by rw [h]; rfl)
                                · exact hc47 (by rw [h]; rfl)
                                · exact hc37 (by rw [h]; rfl)
                                · exact hc94 (by rw [h]; rfl)
                                · exact hc38 (by rw [h]; rfl)
                                · exact hc61 (by rw [h]; rfl)
                                · exact hc60 (by rw [h]; rfl)
                                · exact hc62 (by rw [h]; rfl)
                                · exact hc40 (by rw [h]; rfl)
                                · exact hc41 (by rw [h]; rfl)
                                · exact hc44 (by rw [h]; rfl)
                                · exact hc58 (by rw [h]; rfl)
                              have E : Hid (signN (s[0] :: (s.extract 1 s.size).data.toList) = 0) := Lib.hid (by rw [E0.out, E1]; rfl)
                              have c60 : ((s[0].toNat : Int) == 60) = false := beq_eq_false_iff_ne.2 (by omega)
                              have c62 : ((s[0].toNat : Int) == 62) = false := beq_eq_false_iff_ne.2 (by omega)
                              have c43 : ((s[0].toNat : Int) == 43) = false := beq_eq_false_iff_ne.2 (by omega)
                              have c45 : ((s[0].toNat : Int) == 45) = false := beq_eq_false_iff_ne.2 (by omega)
                              have c42 : ((s[0].toNat : Int) == 42) = false := beq_eq_false_iff_ne.2 (by omega)
                              have c47 : ((s[0].toNat : Int) == 47) = false := beq_eq_false_iff_ne.2 (by omega)
                              have c37 : ((s[0].toNat : Int) == 37) = false := beq_eq_false_iff_ne.2 (by omega)
                              have c94 : ((s[0].toNat : Int) == 94) = false := beq_eq_false_iff_ne.2 (by omega)
                              have c38 : ((s[0].toNat : Int) == 38) = false := beq_eq_false_iff_ne.2 (by omega)
                              have c61 : ((s[0].toNat : Int) == 61) = false := beq_eq_false_iff_ne.2 (by omega)
                              have c40 : ((s[0].toNat : Int) == 40) = false := beq_eq_false_iff_ne.2 (by omega)
                              have c41 : ((s[0].toNat : Int) == 41) = false := beq_eq_false_iff_ne.2 (by omega)
                              have c44 : ((s[0].toNat : Int) == 44) = false := beq_eq_false_iff_ne.2 (by omega)
                              have c58 : ((s[0].toNat : Int) == 58) = false := beq_eq_false_iff_ne.2 (by omega)
                              clear hc60 hc62 hc43 hc45 hc42 hc47 hc37 hc94 hc38 hc61 hc40 hc41 hc44 hc58 u43 u45 u42 u47 u37 u94 u38 u61 u40 u41 u44 u58 E0 E1
                              go_enter Tryz.func76, Tryz.ntmps76
                              go_wp2_with fail
                              go_ret
                              exact ⟨by rw [E.out]; rfl, rfl⟩
end Go.Proofs.YtccigjelbnjcoaaGreatDoor.LexC
