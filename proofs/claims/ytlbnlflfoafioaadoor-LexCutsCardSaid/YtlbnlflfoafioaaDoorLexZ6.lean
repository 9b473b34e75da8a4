/-
  Contract of package lex: first.
-/
import Derived.Test.YtlbnlflfoafioaaDoorLexZ2
import Derived.Test.YtlbnlflfoafioaaDoorLexZ5
namespace Go.Proofs.YtlbnlflfoafioaaDoor.LexC
set_option linter.unusedVariables false
open Go.RowKit Go.Proofs.YtlbnlflfoafioaaDoor.NumC

theorem ext0 (s : ByteArray) (m : Nat) : s.extract 0 m = str (s.data.toList.take m) := by
  apply ByteArray.ext
  apply Array.toList_inj.1
  rw [Lib.extract_data, List.drop_zero, Nat.sub_zero]; rfl
theorem signT_form {c : UInt8} {l : List UInt8} {r : Int × Int × List UInt8 × Nat} (h : signT c l = some r) : r = (4, 0, (c :: l).take r.2.2.2, r.2.2.2) ∧ 1 ≤ r.2.2.2 ∧ r.2.2.2 ≤ (c :: l).length := by
  unfold signT at h
  split at h
  · split at h
    · injection h with h; subst h; simp
    · split at h
      · injection h with h; subst h; simp
      · cases h
  · split at h
    · injection h with h; subst h; simp
    · cases h
theorem first_cons {s : ByteArray} (h0 : 0 < s.size) : s.data.toList = s[0] :: s.data.toList.drop 1 := by
  have := drop_cons (l := s.data.toList) (i := 0) (by rw [← list_len]; exact h0)
  rwa [List.drop_zero] at this
theorem next_sign {s : ByteArray} (h0 : 0 < s.size) (hd : digB s[0] = false) (hl : letB s[0] = false) (hc : s[0].toNat ≠ 34) :
    signN s.data.toList ≤ s.size ∧ nextR s.data.toList 0 = if signN s.data.toList = 0 then (zeroT, 0) else (⟨4, 0, s.extract 0 (signN s.data.toList), 0⟩, (signN s.data.toList : Int)) := by
  have hc2 : s[0] ≠ 34 := fun e => hc (by rw [e]; rfl)
  have e := first_cons h0
  have hlen := list_len s
  rw [ext0]
  generalize s.data.toList = L at *
  generalize hr : L.drop 1 = r at *
  subst e
  unfold nextR
  rw [List.drop_zero, nextL_cons, tokL, hd, hl, if_neg Bool.false_ne_true, if_neg Bool.false_ne_true, if_neg hc2]
  cases hs : signT s[0] r with
  | none => rw [signN_none hs, if_pos rfl]; exact ⟨Nat.zero_le _, rfl⟩
  | some x =>
    obtain ⟨h1, h2, h3⟩ := signT_form hs
    rw [signN_some hs, if_neg (by omega)]
    refine ⟨by omega, ?_⟩
    generalize hm : x.2.2.2 = m at *
    subst h1
    rfl
theorem next_name {s : ByteArray} (h0 : 0 < s.size) (hd : digB s[0] = false) (hl : letB s[0] = true) :
    (s.data.toList.takeWhile wordB).length ≤ s.size ∧ nextR s.data.toList 0 = (⟨3, 0, str (upL (s.extract 0 (s.data.toList.takeWhile wordB).length).data.toList), 0⟩, ((s.data.toList.takeWhile wordB).length : Int)) := by
  refine ⟨by rw [list_len]; exact (List.takeWhile_sublist wordB).length_le, ?_⟩
  rw [ext0, show (str (s.data.toList.take (s.data.toList.takeWhile wordB).length)).data.toList = s.data.toList.take (s.data.toList.takeWhile wordB).length from rfl, ← run_take]
  have e := first_cons h0
  unfold nextR
  rw [List.drop_zero, e, nextL_cons, tokL, hd, if_neg Bool.false_ne_true, if_pos hl]; rfl

theorem clone_ (s : ByteArray) (w : World) (v : Value) (h : Calls Tryd.prog 39 #[.string s] w fun e w' => e = .returned v ∧ Below w.heap.size w w') :
    Calls Tryd.prog 27 #[.string s] w fun e w' => e = .returned v ∧ Below w.heap.size w w' := by
  go_enter Tryd.func27, Tryd.ntmps27
  go_wp2_with fail
  refine h.mono ?_; rintro e w1 ⟨rfl, hb1⟩
  go_wp2
  go_ret
  exact ⟨rfl, hb1⟩
set_option maxRecDepth 100000 in
set_option maxHeartbeats 2000000 in
theorem first_text (s : ByteArray) (w : World) (hs : s.size ≤ 1000000) (h0 : 0 < s.size) (hl : LexLib w) (hc : s[0].toNat = 34) :
    Calls Tryd.prog 15 #[.string s] w fun e w' => e = .returned (.tuple #[tokV (nextR s.data.toList 0).1, .int .i64 (nextR s.data.toList 0).2]) ∧ Below w.heap.size w w' := by
  have hll : 0 < s.data.toList.length := by rw [← list_len]; exact h0
  have HX := Box.new w
  have hB0 : Below w.heap.size w (w.alloc (.cells #[.int .i64 0, .int .i64 0, .string { data := #[] }, .int .i64 0] 33)) := (Below.refl _ _).alloc (Nat.le_refl _) _
  have hl1 := hl.below hB0
  have hlt2 := HX.lt
  generalize hW : (w.alloc (.cells #[.int .i64 0, .int .i64 0, .string { data := #[] }, .int .i64 0] 33)) = W at *
  have E := Lib.hid (next_text hll (UInt8.toNat_inj.1 hc : s.data.toList[0] = 34))
  have c1 : ((s[0].toNat : Int) == 34) = true := by rw [hc]; rfl
  have HC := Lib.hid (firstText s W hs h0)
  clear hc
  go_enter Tryd.func15, Tryd.ntmps15
  go_wp2_with fail
  refine HC.out.mono ?_; rintro e w1 ⟨rfl, hb1⟩
  unfold tokV
  generalize textR s.data.toList 0 = R at *
  obtain ⟨⟨tk, tn, ts, ta⟩, m⟩ := R
  have hBB := hB0.trans (hb1.mono hB0.size)
  have HX2 := HX.below hb1 hlt2
  have hlt3 := HX2.lt
  obtain ⟨f0, f1, f2, f3, z0, z1, z2, z3⟩ := HX2.cells
  go_wp2
  refine bodyPost_ret (v := .tuple #[.agg #[.int .i64 tk, .int .i64 tn, .string ts, .int .i64 ta], .int .i64 m]) (by simp [results, Tryd.results15, go_sem, f0, f1, f2, f3]) rfl ⟨by rw [E.out]; rfl, ?_⟩
  repeat (first | with_reducible exact hBB | with_reducible refine Below.setCell ?_ (by first | omega | (simp <;> omega)) _ | with_reducible refine Below.alloc ?_ (by first | omega | (simp <;> omega)) _)

set_option maxRecDepth 100000 in
set_option maxHeartbeats 2000000 in
theorem first_digit (s : ByteArray) (w : World) (hs : s.size ≤ 1000000) (h0 : 0 < s.size) (hl : LexLib w) (hc : s[0].toNat ≠ 34) (hd : digB s[0] = true) :
    Calls Tryd.prog 15 #[.string s] w fun e w' => e = .returned (.tuple #[tokV (nextR s.data.toList 0).1, .int .i64 (nextR s.data.toList 0).2]) ∧ Below w.heap.size w w' := by
  have hll : 0 < s.data.toList.length := by rw [← list_len]; exact h0
  have HX := Box.new w
  have hB0 : Below w.heap.size w (w.alloc (.cells #[.int .i64 0, .int .i64 0, .string { data := #[] }, .int .i64 0] 33)) := (Below.refl _ _).alloc (Nat.le_refl _) _
  have hl1 := hl.below hB0
  have hlt2 := HX.lt
  generalize hW : (w.alloc (.cells #[.int .i64 0, .int .i64 0, .string { data := #[] }, .int .i64 0] 33)) = W at *
  have E := Lib.hid (next_digit hll hd)
  have c1 : ((s[0].toNat : Int) == 34) = false := beq_eq_false_iff_ne.2 (by omega)
  have HC := Lib.hid (firstInt s W hs h0 hd hl1)
  have HD := Lib.hid hd
  clear hc hd
  go_enter Tryd.func15, Tryd.ntmps15
  go_wp2_with fail
  refine (isDigit s[0] _).mono ?_; rw [HD.out]; rintro e w1 ⟨rfl, rfl⟩
  go_wp2_with fail
  refine HC.out.mono ?_; rintro e w1 ⟨rfl, hb1⟩
  unfold tokV
  generalize numR s.data.toList 0 = R at *
  obtain ⟨⟨tk, tn, ts, ta⟩, m⟩ := R
  have hBB := hB0.trans (hb1.mono hB0.size)
  have HX2 := HX.below hb1 hlt2
  have hlt3 := HX2.lt
  obtain ⟨f0, f1, f2, f3, z0, z1, z2, z3⟩ := HX2.cells
  go_wp2
  refine bodyPost_ret (v := .tuple #[.agg #[.int .i64 tk, .int .i64 tn, .string ts, .int .i64 ta], .int .i64 m]) (by simp [results, Tryd.results15, go_sem, f0, f1, f2, f3]) rfl ⟨by rw [E.out]; rfl, ?_⟩
  repeat (first | with_reducible exact hBB | with_reducible refine Below.setCell ?_ (by first | omega | (simp <;> omega)) _ | with_reducible refine Below.alloc ?_ (by first | omega | (simp <;> omega)) _)

set_option maxRecDepth 100000 in
set_option maxHeartbeats 2000000 in
theorem first_name (s : ByteArray) (w : World) (hs : s.size ≤ 1000000) (h0 : 0 < s.size) (hl : LexLib w) (hc : s[0].toNat ≠ 34) (hd : digB s[0] = false) (hn : letB s[0] = true) :
    Calls Tryd.prog 15 #[.string s] w fun e w' => e = .returned (.tuple #[tokV (nextR s.data.toList 0).1, .int .i64 (nextR s.data.toList 0).2]) ∧ Below w.heap.size w w' := by
  have hll : 0 < s.data.toList.length := by rw [← list_len]; exact h0
  have HX := Box.new w
  have hB0 : Below w.heap.size w (w.alloc (.cells #[.int .i64 0, .int .i64 0, .string { data := #[] }, .int .i64 0] 33)) := (Below.refl _ _).alloc (Nat.le_refl _) _
  have hl1 := hl.below hB0
  have hlt2 := HX.lt
  generalize hW : (w.alloc (.cells #[.int .i64 0, .int .i64 0, .string { data := #[] }, .int .i64 0] 33)) = W at *
  obtain ⟨hn1, hn2⟩ := next_name h0 hd hn
  have c1 : ((s[0].toNat : Int) == 34) = false := beq_eq_false_iff_ne.2 (by omega)
  have HD := Lib.hid hd
  have HN : Hid (wordB s[0] = true) := Lib.hid (by unfold wordB; rw [hn]; rfl)
  have HK := Lib.hid (countName s W hs)
  generalize (s.data.toList.takeWhile wordB).length = n at *
  have E := Lib.hid hn2
  have hx : (s.extract 0 n).size ≤ 1000000 := by rw [ByteArray.size_extract]; omega
  have HU := Lib.hid (upper (s.extract 0 n) W hx)
  clear hc hd hn hn2 hx
  go_enter Tryd.func15, Tryd.ntmps15
  go_wp2_with fail
  refine (isDigit s[0] _).mono ?_; rw [HD.out]; rintro e w1 ⟨rfl, rfl⟩
  go_wp2_with fail
  refine (inName s[0] _).mono ?_; rw [HN.out]; rintro e w1 ⟨rfl, rfl⟩
  go_wp2_with fail
  refine HK.out.mono ?_; rintro e w1 ⟨rfl, rfl⟩
  go_wp2_with fail
  refine HU.out.mono ?_; rintro e w1 ⟨rfl, hb1⟩
  generalize str (upL (s.extract 0 n).data.toList) = TS at *
  have hBB := hB0.trans (hb1.mono hB0.size)
  have HX2 := HX.below hb1 hlt2
  have hlt3 := HX2.lt
  obtain ⟨f0, f1, f2, f3, z0, z1, z2, z3⟩ := HX2.cells
  go_wp2
  refine bodyPost_ret (v := .tuple #[.agg #[.int .i64 3, .int .i64 0, .string TS, .int .i64 0], .int .i64 n]) (by simp [results, Tryd.results15, go_sem, f0, f1, f2, f3]) rfl ⟨by rw [E.out]; rfl, ?_⟩
  repeat (first | with_reducible exact hBB | with_reducible refine Below.setCell ?_ (by first | omega | (simp <;> omega)) _ | with_reducible refine Below.alloc ?_ (by first | omega | (simp <;> omega)) _)

set_option maxRecDepth 100000 in
set_option maxHeartbeats 2000000 in
theorem first_none (s : ByteArray) (w : World) (hs : s.size ≤ 1000000) (h0 : 0 < s.size) (hl : LexLib w) (hc : s[0].toNat ≠ 34) (hd : digB s[0] = false) (hn : letB s[0] = false) (hz : signN s.data.toList = 0) :
    Calls Tryd.prog 15 #[.string s] w fun e w' => e = .returned (.tuple #[tokV (nextR s.data.toList 0).1, .int .i64 (nextR s.data.toList 0).2]) ∧ Below w.heap.size w w' := by
  have hll : 0 < s.data.toList.length := by rw [← list_len]; exact h0
  have HX := Box.new w
  have hB0 : Below w.heap.size w (w.alloc (.cells #[.int .i64 0, .int .i64 0, .string { data := #[] }, .int .i64 0] 33)) := (Below.refl _ _).alloc (Nat.le_refl _) _
  have hl1 := hl.below hB0
  have hlt2 := HX.lt
  generalize hW : (w.alloc (.cells #[.int .i64 0, .int .i64 0, .string { data := #[] }, .int .i64 0] 33)) = W at *
  obtain ⟨hn1, hn2⟩ := next_sign h0 hd hn hc
  have c1 : ((s[0].toNat : Int) == 34) = false := beq_eq_false_iff_ne.2 (by omega)
  have HD := Lib.hid hd
  have HN : Hid (wordB s[0] = false) := Lib.hid (by unfold wordB; rw [hn, hd]; rfl)
  have HK := Lib.hid (signLength s W hs h0)
  generalize signN s.data.toList = n at *
  subst hz
  rw [if_pos rfl] at hn2
  have E := Lib.hid hn2
  clear hc hd hn hn2
  go_enter Tryd.func15, Tryd.ntmps15
  go_wp2_with fail
  refine (isDigit s[0] _).mono ?_; rw [HD.out]; rintro e w1 ⟨rfl, rfl⟩
  go_wp2_with fail
  refine (inName s[0] _).mono ?_; rw [HN.out]; rintro e w1 ⟨rfl, rfl⟩
  go_wp2_with fail
  refine HK.out.mono ?_; rintro e w1 ⟨rfl, rfl⟩
  have hb1 := Below.refl W.heap.size W
  have hBB := hB0.trans (hb1.mono hB0.size)
  have HX2 := HX.below hb1 hlt2
  have hlt3 := HX2.lt
  obtain ⟨f0, f1, f2, f3, z0, z1, z2, z3⟩ := HX2.cells
  go_wp2
  refine bodyPost_ret (v := .tuple #[.agg #[.int .i64 0, .int .i64 0, .string { data := #[] }, .int .i64 0], .int .i64 0]) (by simp [results, Tryd.results15, go_sem, f0, f1, f2, f3]) rfl ⟨by rw [E.out]; rfl, ?_⟩
  repeat (first | with_reducible exact hBB | with_reducible refine Below.setCell ?_ (by first | omega | (simp <;> omega)) _ | with_reducible refine Below.alloc ?_ (by first | omega | (simp <;> omega)) _)

set_option maxRecDepth 100000 in
set_option maxHeartbeats 2000000 in
theorem first_sign (s : ByteArray) (w : World) (hs : s.size ≤ 1000000) (h0 : 0 < s.size) (hl : LexLib w) (hc : s[0].toNat ≠ 34) (hd : digB s[0] = false) (hn : letB s[0] = false) (hz : signN s.data.toList ≠ 0) :
    Calls Tryd.prog 15 #[.string s] w fun e w' => e = .returned (.tuple #[tokV (nextR s.data.toList 0).1, .int .i64 (nextR s.data.toList 0).2]) ∧ Below w.heap.size w w' := by
  have hll : 0 < s.data.toList.length := by rw [← list_len]; exact h0
  have HX := Box.new w
  have hB0 : Below w.heap.size w (w.alloc (.cells #[.int .i64 0, .int .i64 0, .string { data := #[] }, .int .i64 0] 33)) := (Below.refl _ _).alloc (Nat.le_refl _) _
  have hl1 := hl.below hB0
  have hlt2 := HX.lt
  generalize hW : (w.alloc (.cells #[.int .i64 0, .int .i64 0, .string { data := #[] }, .int .i64 0] 33)) = W at *
  obtain ⟨hn1, hn2⟩ := next_sign h0 hd hn hc
  have c1 : ((s[0].toNat : Int) == 34) = false := beq_eq_false_iff_ne.2 (by omega)
  have HD := Lib.hid hd
  have HN : Hid (wordB s[0] = false) := Lib.hid (by unfold wordB; rw [hn, hd]; rfl)
  have HK := Lib.hid (signLength s W hs h0)
  generalize signN s.data.toList = n at *
  rw [if_neg hz] at hn2
  have E := Lib.hid hn2
  have c2 : ((n : Int) == 0) = false := beq_eq_false_iff_ne.2 (by omega)
  have hx : (s.extract 0 n).size ≤ 281474976710656 := by rw [ByteArray.size_extract]; omega
  have HU := Lib.hid (Tryd.stringslite_Clone (s.extract 0 n) W hx)
  clear hc hd hn hn2 hx hz
  go_enter Tryd.func15, Tryd.ntmps15
  go_wp2_with fail
  refine (isDigit s[0] _).mono ?_; rw [HD.out]; rintro e w1 ⟨rfl, rfl⟩
  go_wp2_with fail
  refine (inName s[0] _).mono ?_; rw [HN.out]; rintro e w1 ⟨rfl, rfl⟩
  go_wp2_with fail
  refine HK.out.mono ?_; rintro e w1 ⟨rfl, rfl⟩
  go_wp2_with fail
  refine (clone_ _ _ _ HU.out).mono ?_; rintro e w1 ⟨rfl, hb1⟩
  have hBB := hB0.trans (hb1.mono hB0.size)
  have HX2 := HX.below hb1 hlt2
  have hlt3 := HX2.lt
  obtain ⟨f0, f1, f2, f3, z0, z1, z2, z3⟩ := HX2.cells
  go_wp2
  refine bodyPost_ret (v := .tuple #[.agg #[.int .i64 4, .int .i64 0, .string (s.extract 0 n), .int .i64 0], .int .i64 n]) (by simp [results, Tryd.results15, go_sem, f0, f1, f2, f3]) rfl ⟨by rw [E.out]; rfl, ?_⟩
  repeat (first | with_reducible exact hBB | with_reducible refine Below.setCell ?_ (by first | omega | (simp <;> omega)) _ | with_reducible refine Below.alloc ?_ (by first | omega | (simp <;> omega)) _)

theorem first (s : ByteArray) (w : World) (hs : s.size ≤ 1000000) (h0 : 0 < s.size) (hl : LexLib w) :
    Calls Tryd.prog 15 #[.string s] w fun e w' => e = .returned (.tuple #[tokV (nextR s.data.toList 0).1, .int .i64 (nextR s.data.toList 0).2]) ∧ Below w.heap.size w w' := by
  by_cases hc : s[0].toNat = 34
  · exact first_text s w hs h0 hl hc
  · cases hd : digB s[0]
    · cases hn : letB s[0]
      · by_cases hz : signN s.data.toList = 0
        · exact first_none s w hs h0 hl hc hd hn hz
        · exact first_sign s w hs h0 hl hc hd hn hz
      · exact first_name s w hs h0 hl hc hd hn
    · exact first_digit s w hs h0 hl hc hd
end Go.Proofs.YtlbnlflfoafioaaDoor.LexC
