/-
  Contract of package lex: firstInt.
-/
import Derived.Test.YtlbnlflfoafioaaDoorLexZ1
import Derived.Test.YtlbnlflfoafioaaDoorLexZ4
import Derived.Deep.QuietTactic
import Derived.BigQuiet
namespace Go.Proofs.YtlbnlflfoafioaaDoor.LexC
set_option linter.unusedVariables false
open Go.RowKit Go.Proofs.YtlbnlflfoafioaaDoor.NumC

/-- Digits without their noughts ahead, all but the last one. -/
def bare (l : List UInt8) : List UInt8 := (l.take (l.length - 1)).dropWhile (· == 48) ++ l.drop (l.length - 1)
theorem flip {f : FuncId} {args : Array Value} {W : World} {v : Value} (h : Calls Tryd.prog f args W fun e w' => e = .returned v ∧ W = w') : Calls Tryd.prog f args W fun e w' => e = .returned v ∧ w' = W := h.mono fun _ _ ⟨h1, h2⟩ => ⟨h1, h2.symm⟩
theorem numV_val (l : List UInt8) : numV l = val l := rfl
theorem val_zero (c : UInt8) (l : List UInt8) (h : c = 48) : val (c :: l) = val l := by subst h; rfl
theorem digits_spell : ∀ (k : Nat) (l : List UInt8), l.length ≤ k → l ≠ [] → (∀ c ∈ l, digB c = true) → (l.length = 1 ∨ ∃ c r, l = c :: r ∧ c ≠ 48) → l = Lib.decDigits (val l) ∧ (l.length ≠ 1 → 1 ≤ val l) := by
  intro k
  induction k with
  | zero => intro l h1 h2; exact absurd (List.length_eq_zero_iff.1 (by omega)) h2
  | succ k ih =>
    intro l h1 h2 h3 h4
    obtain ⟨t, c, rfl⟩ : ∃ t c, l = t ++ [c] := ⟨l.dropLast, l.getLast h2, (List.dropLast_concat_getLast h2).symm⟩
    have hc := digB_iff.1 (h3 c (by simp))
    have hv : val (t ++ [c]) = val t * 10 + (c.toNat - 48) := val_snoc t c
    by_cases ht : t = []
    · subst ht
      have hv0 : val ([] ++ [c]) = c.toNat - 48 := by rw [hv]; show 0 * 10 + _ = _; omega
      refine ⟨?_, fun h => absurd rfl h⟩
      rw [hv0, Lib.decDigits, dif_pos (by omega), show 48 + (c.toNat - 48) = c.toNat from by omega, UInt8.ofNat_toNat]; rfl
    · have hlen : (t ++ [c]).length ≠ 1 := by
        have := List.length_pos_iff.2 ht
        simp only [List.length_append, List.length_cons, List.length_nil]; omega
      obtain ⟨d, r, e, hd⟩ := h4.resolve_left hlen
      obtain ⟨r', rfl⟩ : ∃ r', t = d :: r' := by
        cases t with
        | nil => exact absurd rfl ht
        | cons x y => exact ⟨y, by injection e with e1 e2; rw [e1]⟩
      have i1 := ih (d :: r') (by simp at h1 ⊢; omega) ht (fun x hx => h3 x (by simp at hx ⊢; rcases hx with h | h <;> simp [h])) (Or.inr ⟨d, r', rfl, hd⟩)
      have hpos : 1 ≤ val (d :: r') := by
        by_cases hr : (d :: r').length = 1
        · have : r' = [] := List.length_eq_zero_iff.1 (by simpa using hr)
          subst this
          have h5 := digB_iff.1 (h3 d (by simp))
          have : d.toNat ≠ 48 := fun e => hd (UInt8.toNat_inj.1 e)
          show 1 ≤ 0 * 10 + (d.toNat - 48); omega
        · exact i1.2 hr
      refine ⟨?_, fun _ => by rw [hv]; omega⟩
      conv => lhs; rw [i1.1]
      rw [hv]
      conv => rhs; rw [Lib.decDigits]
      rw [dif_neg (by omega), show (val (d :: r') * 10 + (c.toNat - 48)) / 10 = val (d :: r') from by omega, show (val (d :: r') * 10 + (c.toNat - 48)) % 10 = c.toNat - 48 from by omega, show 48 + (c.toNat - 48) = c.toNat from by omega, UInt8.ofNat_toNat]
theorem bare_facts (l : List UInt8) (h : l ≠ []) (hd : ∀ c ∈ l, digB c = true) : bare l = Lib.decDigits (val l) := by
  have key : ∀ (t : List UInt8) (c : UInt8), (∀ x ∈ t ++ [c], digB x = true) → val (t.dropWhile (· == 48) ++ [c]) = val (t ++ [c]) ∧ (t.dropWhile (· == 48) ++ [c]) = Lib.decDigits (val (t.dropWhile (· == 48) ++ [c])) := by
    intro t
    induction t with
    | nil => intro c hx; exact ⟨rfl, (digits_spell _ _ (Nat.le_refl _) (by simp) (by simpa using hx) (Or.inl rfl)).1⟩
    | cons d t ih =>
      intro c hx
      by_cases h48 : d = 48
      · have i := ih c (fun x h => hx x (by simp at h ⊢; rcases h with h | h <;> simp [h]))
        rw [List.dropWhile_cons_of_pos (by simp [h48]), i.1]
        refine ⟨?_, by rw [← i.1]; exact i.2⟩
        rw [List.cons_append, val_zero d _ h48]
      · rw [List.dropWhile_cons_of_neg (by simp [h48])]
        exact ⟨rfl, (digits_spell _ _ (Nat.le_refl _) (by simp) hx (Or.inr ⟨d, t ++ [c], rfl, h48⟩)).1⟩
  have e : l = l.take (l.length - 1) ++ [l.getLast h] := by rw [← List.dropLast_eq_take]; exact (List.dropLast_concat_getLast h).symm
  have e2 : l.drop (l.length - 1) = [l.getLast h] := by
    have h1 : l.length - 1 < l.length := by have := List.length_pos_iff.2 h; omega
    rw [List.drop_eq_getElem_cons h1, List.drop_eq_nil_of_le (by omega), List.getLast_eq_getElem]
  have k := key (l.take (l.length - 1)) (l.getLast h) (by rw [← e]; exact hd)
  unfold bare
  rw [e2, k.2, k.1, ← e]
theorem parse_in {l : List UInt8} (h : l ≠ []) (hd : ∀ c ∈ l, digB c = true) (hv : numV l < 9223372036854775808) : parseN (bare l) = numV l ∧ parseB (bare l) = true := by
  rw [bare_facts l h hd]
  have hv2 : val l < 9223372036854775808 := hv
  refine parse_some (m := ((numV l : Nat) : Int)) (by unfold I64; omega) ?_
  unfold Lib.itoa
  rw [if_neg (by omega)]; rfl
theorem parse_out {l : List UInt8} (h : l ≠ []) (hd : ∀ c ∈ l, digB c = true) (hv : ¬ numV l < 9223372036854775808) : parseN (bare l) = 0 ∧ parseB (bare l) = false := by
  rw [bare_facts l h hd]
  have hv2 : ¬ val l < 9223372036854775808 := hv
  refine parse_none fun m hm e => ?_
  unfold Lib.itoa at e
  split at e
  · have h1 := decDigits_all (val l) 45 (by rw [← e]; simp)
    have : (45 : UInt8).toNat = 45 := rfl
    omega
  · have := congrArg val e
    rw [val_decDigits, val_decDigits] at this
    unfold I64 at hm; omega
theorem run_ne {c : UInt8} {l : List UInt8} (h : digB c = true) : (c :: l).takeWhile digB ≠ [] := by rw [List.takeWhile_cons, h]; simp
theorem run_all (p : UInt8 → Bool) (l : List UInt8) : ∀ c ∈ l.takeWhile p, p c = true := by
  induction l with
  | nil => intro c h; simp at h
  | cons d l ih =>
    intro c h
    rw [List.takeWhile_cons] at h
    split at h
    · rename_i hd
      rcases List.mem_cons.1 h with rfl | h
      · exact hd
      · exact ih c h
    · simp at h
theorem run_take (p : UInt8 → Bool) (l : List UInt8) : l.takeWhile p = l.take (l.takeWhile p).length := by
  induction l with
  | nil => rfl
  | cons d l ih =>
    rw [List.takeWhile_cons]
    split
    · rw [List.length_cons, List.take_succ_cons, ← ih]
    · rfl

set_option maxRecDepth 100000 in
set_option maxHeartbeats 2000000 in
theorem firstInt (s : ByteArray) (w : World) (hs : s.size ≤ 1000000) (h0 : 0 < s.size) (hd : digB s[0] = true) (hl : LexLib w) :
    Calls Tryd.prog 23 #[.string s] w fun e w' => e = .returned (.tuple #[tokV (numR s.data.toList 0).1, .int .i64 (numR s.data.toList 0).2]) ∧ Below w.heap.size w w' := by
  have hcons : s.data.toList = s[0] :: s.data.toList.drop 1 := by
    have := drop_cons (l := s.data.toList) (i := 0) (by rw [← list_len]; exact h0)
    rwa [List.drop_zero] at this
  have hne : s.data.toList.takeWhile digB ≠ [] := by rw [hcons]; exact run_ne hd
  have hall := run_all digB s.data.toList
  obtain ⟨m, hm⟩ : ∃ m, (s.data.toList.takeWhile digB).length = m + 1 := ⟨(s.data.toList.takeWhile digB).length - 1, by have := List.length_pos_iff.2 hne; omega⟩
  have hms : m + 1 ≤ s.size := by rw [← hm, list_len]; exact (List.takeWhile_sublist digB).length_le
  have htk := run_take digB s.data.toList
  rw [hm] at htk
  have hx1 : (s.extract 0 m).data.toList = (s.data.toList.takeWhile digB).take ((s.data.toList.takeWhile digB).length - 1) := by
    rw [Lib.extract_data, htk, List.drop_zero, List.length_take, List.take_take]
    congr 1; have := list_len s; omega
  have hx2 : (s.extract m (m + 1)).data.toList = (s.data.toList.takeWhile digB).drop ((s.data.toList.takeWhile digB).length - 1) := by
    rw [Lib.extract_data, htk, List.length_take, List.drop_take]
    have := list_len s
    rw [show min (m + 1) s.data.toList.length - 1 = m from by omega]
  have hbare : Hid (str ((s.extract 0 m).data.toList.dropWhile (· == 48)) ++ s.extract m (m + 1) = str (bare (s.data.toList.takeWhile digB))) := Lib.hid (by
    unfold bare
    rw [← hx1, ← hx2, ← str_app]; rfl)
  have hsz : (str ((s.extract 0 m).data.toList.dropWhile (· == 48))).size + (s.extract m (m + 1)).size ≤ 1000000 := by
    have h1 := (List.dropWhile_sublist (· == (48 : UInt8)) (l := (s.extract 0 m).data.toList)).length_le
    rw [str_size, ByteArray.size_extract]
    have h2 := list_len (s.extract 0 m)
    rw [ByteArray.size_extract] at h2
    omega
  have HX := Box.new w
  have hB0 : Below w.heap.size w (w.alloc (.cells #[.int .i64 0, .int .i64 0, .string { data := #[] }, .int .i64 0] 33)) := (Below.refl _ _).alloc (Nat.le_refl _) _
  have hl1 := hl.lib.below hB0
  have A1 : ∀ W : World, (Op.stringOp .add (ByteArray.mk (Lib.trimLeftB (s.extract 0 m).data.toList 48).toArray) (s.extract m (m + 1))).run Tryd.prog W = .ok (.string (str (bare (s.data.toList.takeWhile digB)))) W := fun W => by
    rw [show (ByteArray.mk (Lib.trimLeftB (s.extract 0 m).data.toList 48).toArray) = str ((s.extract 0 m).data.toList.dropWhile (· == 48)) from rfl, run_string_add_sum W _ _ (by omega), hbare.out]
  have hcount := countDigit s (w.alloc (.cells #[.int .i64 0, .int .i64 0, .string { data := #[] }, .int .i64 0] 33)) hs
  rw [hm] at hcount
  have HC := Lib.hid hcount
  have hmi : ((m + 1 : Nat) : Int) = (m : Int) + 1 := by omega
  have HT : Hid (∀ W : World, Calls Tryd.prog 37 #[.string (s.extract 0 m), .string { data := #[48] }] W fun e w' => e = .returned (.string { data := (Lib.trimLeftB (s.extract 0 m).data.toList 48).toArray }) ∧ W = w') := Lib.hid (fun W => (Tryd.strings_TrimLeft_one (s.extract 0 m) 48 (by decide) W).mono fun e w' ⟨h1, h2⟩ => ⟨h1, h2.symm⟩)
  have hlt2 := HX.lt
  have hms1 : m ≤ s.size := by omega
  have hms3 : (m : Int) ≤ (m : Int) + 1 := by omega
  have hms4 : (m : Int) + 1 ≤ (s.size : Int) := by omega
  by_cases hv : numV (s.data.toList.takeWhile digB) < 9223372036854775808
  · have hp := parse_in hne hall hv
    have E : Hid (numR s.data.toList 0 = (⟨1, numV (s.data.toList.takeWhile digB), nob, 0⟩, ((m : Int) + 1))) := Lib.hid (by unfold numR; rw [List.drop_zero, if_pos hv, hm, hmi]; rfl)
    have hpar := fun W (h : LibIs W) => parse (str (bare (s.data.toList.takeWhile digB))) W h
    rw [show (str (bare (s.data.toList.takeWhile digB))).data.toList = bare (s.data.toList.takeWhile digB) from rfl, hp.1, hp.2] at hpar
    have HP := Lib.hid hpar
    clear hpar hp hx1 hx2 htk hne hall hcount hsz hm hcons
    generalize numV (s.data.toList.takeWhile digB) = U at *
    generalize str (bare (s.data.toList.takeWhile digB)) = T at *
    generalize Lib.trimLeftB (s.extract 0 m).data.toList 48 = TL at *
    go_enter Tryd.func23, Tryd.ntmps23
    go_wp2_with fail
    refine HC.out.mono ?_; rw [hmi]; rintro e w1 ⟨rfl, rfl⟩
    generalize hW : (w.alloc (.cells #[.int .i64 0, .int .i64 0, .string { data := #[] }, .int .i64 0] 33)) = W at *
    clear hW
    have LG : ∀ u : Gr W, LibIs u.now := fun u => hl1.below u.below
    go_wp2_with fail
    refine region_grown (by kernel_rfl) (by kernel_rfl) ?_
    repeat (go_big_quiet_step (first
      | (go_at_call 37; exact grown_same (HT.out _))
      | (go_at_call 36; exact grown_of (HP.out _ (LG _)))))
    refine wpQuiet_nil ?_
    intro w3 hw3; obtain ⟨u, rfl⟩ := hw3
    have HX2 := HX.below u.below hlt2
    have hBB := hB0.trans (u.below.mono hB0.size)
    have hlt3 := HX2.lt
    obtain ⟨f0, f1, f2, f3, z0, z1, z2, z3⟩ := HX2.cells
    go_wp2
    refine bodyPost_ret (v := .tuple #[.agg #[.int .i64 1, .int .i64 U, .string { data := #[] }, .int .i64 0], .int .i64 ((m : Int) + 1)]) (by simp [results, Tryd.results23, go_sem, f0, f1, f2, f3]) rfl ⟨by rw [E.out]; rfl, ?_⟩
    repeat (first | with_reducible exact hBB | with_reducible refine Below.setCell ?_ (by first | omega | (simp <;> omega)) _ | with_reducible refine Below.alloc ?_ (by first | omega | (simp <;> omega)) _)
  · have hp := parse_out hne hall hv
    have E : Hid (numR s.data.toList 0 = (zeroT, 0)) := Lib.hid (by unfold numR; rw [List.drop_zero, if_neg hv])
    have hpar := fun W (h : LibIs W) => parse (str (bare (s.data.toList.takeWhile digB))) W h
    rw [show (str (bare (s.data.toList.takeWhile digB))).data.toList = bare (s.data.toList.takeWhile digB) from rfl, hp.1, hp.2] at hpar
    have HP := Lib.hid hpar
    clear hpar hp hx1 hx2 htk hne hall hcount hsz hm hcons hv
    generalize str (bare (s.data.toList.takeWhile digB)) = T at *
    generalize Lib.trimLeftB (s.extract 0 m).data.toList 48 = TL at *
    go_enter Tryd.func23, Tryd.ntmps23
    go_wp2_with fail
    refine HC.out.mono ?_; rw [hmi]; rintro e w1 ⟨rfl, rfl⟩
    generalize hW : (w.alloc (.cells #[.int .i64 0, .int .i64 0, .string { data := #[] }, .int .i64 0] 33)) = W at *
    clear hW
    have LG : ∀ u : Gr W, LibIs u.now := fun u => hl1.below u.below
    go_wp2_with fail
    refine region_grown (by kernel_rfl) (by kernel_rfl) ?_
    repeat (go_big_quiet_step (first
      | (go_at_call 37; exact grown_same (HT.out _))
      | (go_at_call 36; exact grown_of (HP.out _ (LG _)))))
    refine wpQuiet_nil ?_
    intro w3 hw3; obtain ⟨u, rfl⟩ := hw3
    have HX2 := HX.below u.below hlt2
    have hBB := hB0.trans (u.below.mono hB0.size)
    have hlt3 := HX2.lt
    obtain ⟨f0, f1, f2, f3, z0, z1, z2, z3⟩ := HX2.cells
    go_wp2
    refine bodyPost_ret (v := .tuple #[.agg #[.int .i64 0, .int .i64 0, .string { data := #[] }, .int .i64 0], .int .i64 0]) (by simp [results, Tryd.results23, go_sem, f0, f1, f2, f3]) rfl ⟨by rw [E.out]; rfl, ?_⟩
    repeat (first | with_reducible exact hBB | with_reducible refine Below.setCell ?_ (by first | omega | (simp <;> omega)) _ | with_reducible refine Below.alloc ?_ (by first | omega | (simp <;> omega)) _)
end Go.Proofs.YtlbnlflfoafioaaDoor.LexC
