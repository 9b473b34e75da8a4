/-
  Contracts of package addr: cutColumn, Parse. Of the world: the library's table and its two errors read as they are laid.
-/
import Derived.Test.YtccigjelbnjcoaaGreatDoorPTellAddrA
import Derived.Test.YtccigjelbnjcoaaGreatDoorPTellNumN
import Derived.Test.YtccigjelbnjcoaaGreatDoorPTellNumR
import Derived.Test.YtccigjelbnjcoaaGreatDoorPTellNumD
import Derived.Test.YtccigjelbnjcoaaGreatDoorPTellNumG
import Derived.Test.YtccigjelbnjcoaaGreatDoorPTellShelf
import Derived.Lib.Strings
import Derived.WideShapes
import Derived.Laws.RangeAny
import Derived.Laws.StructEq
import Derived.LoopN
namespace Go.Proofs.YtccigjelbnjcoaaGreatDoor.AddrC
set_option linter.unusedVariables false
open Go.RowKit Go.Proofs.YtccigjelbnjcoaaGreatDoor.NumC
theorem drop_at (s : ByteArray) (k : Nat) (h : k < s.size) : s.data.toList.drop k = s[k] :: s.data.toList.drop (k + 1) := by
  have e : s[k] = s.data.toList[k]'(by rw [← len_list]; exact h) := rfl
  rw [e]; exact List.drop_eq_getElem_cons (by rw [← len_list]; exact h)
theorem drop_str (s : ByteArray) (k : Nat) : s.extract k s.size = ⟨(s.data.toList.drop k).toArray⟩ := by
  apply WideShapes.bytes_inj
  rw [Lib.extract_data, List.take_of_length_le (by rw [List.length_drop, ← len_list]; exact Nat.le_refl _)]
theorem cut_eq {n n' : Int} {s s' : ByteArray} (hn : n = n') (hs : s = s') : Ending.returned (.tuple #[.int .i64 n, .string s]) = .returned (.tuple #[.int .i64 n', .string s']) := by subst hn hs; rfl
set_option maxRecDepth 100000 in
set_option maxHeartbeats 1000000 in
theorem cutColumn (s : ByteArray) (w : World) (hs : s.size ≤ 9223372036854775807) :
    Calls Tryz.prog 177 #[.string s] w fun e w' => e = .returned (.tuple #[.int .i64 (cutL 0 s.data.toList).1, .string ⟨(cutL 0 s.data.toList).2.toArray⟩]) ∧ Below w.heap.size w w' := by
  have B : ∀ p, Below w.heap.size w (w.iter s p) := fun p => (Below.refl _ _).alloc (Nat.le_refl _) _
  go_enter Tryz.func177, Tryz.ntmps177
  go_wp2
  go_loopw [2] (fun n w' => ∃ pos k : Nat, w' = w.iter s pos ∧ n = .int .i64 k ∧ k ≤ 50 ∧ pos ≤ s.size ∧ Hid (cutL k (s.data.toList.drop pos) = cutL 0 s.data.toList)) (fun _ w' => s.size - w'.iterPos w.heap.size)
  case atStart => exact ⟨0, 0, rfl, rfl, by omega, by omega, Lib.hid rfl⟩
  case round =>
    obtain ⟨pos, k, rfl, rfl, hk, hpos, HC⟩ := hrel
    by_cases hp : pos < s.size
    · have D := Lib.hid (drop_at s pos hp)
      have Es := Lib.hid (drop_str s pos)
      by_cases ha : s[pos].toNat < 128
      · have hnx : ∀ ty, (Instr.next (.pointer (some ⟨w.heap.size, 0, none⟩)) true ty).run Tryz.prog (w.iter s pos) = _ := fun ty => run_next_ascii w s pos ty hp ha
        by_cases h1 : s[pos].toNat < 65 ∨ 90 < s[pos].toNat
        · have E : Hid (cutL 0 s.data.toList = (k, s.data.toList.drop pos)) := Lib.hid (by rw [← HC.out, D.out]; exact cutL_stop h1)
          rcases h1 with h1 | h1
          all_goals
            go_wp2
            go_quiet (fail)
            go_wp2
            go_ret2
            exact ⟨cut_eq (by rw [E.out]) (by rw [E.out, Es.out]), below_drewN' (B _) _⟩
        · have h2 : 65 ≤ s[pos].toNat := by omega
          have h3 : s[pos].toNat ≤ 90 := by omega
          by_cases h4 : 50 < k * 26 + (s[pos].toNat - 64)
          · have E : Hid (cutL 0 s.data.toList = (0, [])) := Lib.hid (by rw [← HC.out, D.out]; exact cutL_big h1 h4)
            clear h1
            go_wp2
            go_ret2
            exact ⟨cut_eq (by rw [E.out]; rfl) (by rw [E.out]), B _⟩
          · have E : Hid (cutL (k * 26 + (s[pos].toNat - 64)) (s.data.toList.drop (pos + 1)) = cutL 0 s.data.toList) := Lib.hid (by rw [← HC.out, D.out]; exact (cutL_on h1 h4).symm)
            clear h1
            go_wp2
            go_roundw
            case rel => exact ⟨pos + 1, k * 26 + (s[pos].toNat - 64), rfl, congrArg _ (by omega), by omega, by omega, E⟩
            case measure => simp; omega
      · obtain ⟨hr, hwd⟩ := decode_high s pos hp (by omega)
        have hr2 := decode_le s pos
        have h1 : s[pos].toNat < 65 ∨ 90 < s[pos].toNat := by omega
        have E : Hid (cutL 0 s.data.toList = (k, s.data.toList.drop pos)) := Lib.hid (by rw [← HC.out, D.out]; exact cutL_stop h1)
        have hnx : ∀ ty, (Instr.next (.pointer (some ⟨w.heap.size, 0, none⟩)) true ty).run Tryz.prog (w.iter s pos) = _ := fun ty => run_next_any w s pos ty hp
        clear h1
        generalize (Utf8.decode s pos).1 = q at *
        generalize pos + (Utf8.decode s pos).2 = pos' at *
        go_wp2
        go_quiet (fail)
        go_wp2
        go_ret2
        exact ⟨cut_eq (by rw [E.out]) (by rw [E.out, Es.out]), below_drewN' (B _) _⟩
    · obtain rfl : pos = s.size := by omega
      have E : Hid (cutL 0 s.data.toList = (k, [])) := Lib.hid (by rw [← HC.out, List.drop_of_length_le (by rw [← len_list]; exact Nat.le_refl _)]; exact cutL_nil k)
      have hnx : ∀ ty, (Instr.next (.pointer (some ⟨w.heap.size, 0, none⟩)) true ty).run Tryz.prog (w.iter s s.size) = _ := fun ty => run_next_end w s s.size ty hp
      go_wp2
      go_ret2
      exact ⟨cut_eq (by rw [E.out]) (by rw [E.out]), B _⟩
theorem p_parts {l d : List UInt8} {k : Nat} (h : cutL 0 l = (k, d)) :
    (k = 0 ∨ parseB d = false ∨ parseN d < 1 ∨ 1000 < parseN d → pR l = 0 ∧ pC l = 0 ∧ pOK l = false) ∧
    (k ≠ 0 → parseB d = true → 1 ≤ parseN d → parseN d ≤ 1000 → pR l = parseN d ∧ pC l = k ∧ pOK l = true) := by
  refine ⟨fun hh => ?_, fun h1 h2 h3 h4 => ?_⟩
  · have e : pOK l = false := by
      unfold pOK; rw [h]; simp only
      refine decide_eq_false fun ⟨h1, h2, h3, h4⟩ => ?_
      rcases hh with hh | hh | hh | hh
      · exact h1 hh
      · rw [hh] at h2; cases h2
      · omega
      · omega
    unfold pR pC; rw [e]; exact ⟨rfl, rfl, rfl⟩
  · have e : pOK l = true := by
      unfold pOK; rw [h]; simp only
      exact decide_eq_true ⟨h1, h2, h3, h4⟩
    unfold pR pC; rw [e, h]; exact ⟨rfl, rfl, rfl⟩
theorem list_str (d : List UInt8) : (⟨d.toArray⟩ : ByteArray).data.toList = d := rfl
set_option maxRecDepth 100000 in
set_option maxHeartbeats 1000000 in
theorem aparse (s : ByteArray) (w : World) (hs : s.size ≤ 9223372036854775807) (hl : LibIs w) :
    Calls Tryz.prog 176 #[.string s] w fun e w' => e = .returned (.tuple #[.agg #[.int .i64 (pR s.data.toList), .int .i64 (pC s.data.toList)], .bool (pOK s.data.toList)]) ∧ Below w.heap.size w w' := by
  obtain ⟨k, d, hkd⟩ : ∃ k d, cutL 0 s.data.toList = (k, d) := ⟨_, _, rfl⟩
  obtain ⟨q1, q2⟩ := p_parts hkd
  have HK := Lib.hid hkd
  clear hkd
  by_cases hk : k = 0
  · have E := Lib.hid (q1 (Or.inl hk))
    rw [E.out.1, E.out.2.1, E.out.2.2]
    have k0 : ((k : Int) == 0) = true := beq_iff_eq.2 (by omega)
    clear q1 q2 hk
    go_enter Tryz.func176, Tryz.ntmps176
    go_wp2_with fail
    refine (cutColumn _ _ hs).mono ?_; rw [HK.out]; rintro e w1 ⟨rfl, hb1⟩
    have hl1 := hl.below (grow hb1)
    obtain ⟨hc, hf⟩ := bcell hb1
    go_wp2_with fail
    refine (parse _ _ hl1).mono ?_; rw [list_str, show parseN d = parseN d from rfl]; rintro e w2 ⟨rfl, hb2⟩
    have hb3 := below_then hb1 hb2
    clear hc hf
    obtain ⟨hc, hf⟩ := bcell hb3
    have hB := grow hb3
    go_wp2
    refine bodyPost_ret (v := .tuple #[.agg #[.int .i64 0, .int .i64 0], .bool false]) (by simp [results, Tryz.results176, go_sem, hc]) rfl ⟨rfl, ?_⟩
    repeat (first | with_reducible exact hB | with_reducible refine Below.setCell ?_ (by simp <;> omega) _ | with_reducible refine Below.alloc ?_ (by simp <;> omega) _)
  · have k0 : ((k : Int) == 0) = false := beq_eq_false_iff_ne.2 (by omega)
    cases hB : parseB d
    · have E := Lib.hid (q1 (Or.inr (Or.inl hB)))
      rw [E.out.1, E.out.2.1, E.out.2.2]
      have P := Lib.hid hB
      clear q1 q2 hk hB
      go_enter Tryz.func176, Tryz.ntmps176
      go_wp2_with fail
      refine (cutColumn _ _ hs).mono ?_; rw [HK.out]; rintro e w1 ⟨rfl, hb1⟩
      have hl1 := hl.below (grow hb1)
      obtain ⟨hc, hf⟩ := bcell hb1
      go_wp2_with fail
      refine (parse _ _ hl1).mono ?_; rw [list_str, P.out]; rintro e w2 ⟨rfl, hb2⟩
      have hb3 := below_then hb1 hb2
      clear hc hf
      obtain ⟨hc, hf⟩ := bcell hb3
      have hB := grow hb3
      go_wp2
      refine bodyPost_ret (v := .tuple #[.agg #[.int .i64 0, .int .i64 0], .bool false]) (by simp [results, Tryz.results176, go_sem, hc]) rfl ⟨rfl, ?_⟩
      repeat (first | with_reducible exact hB | with_reducible refine Below.setCell ?_ (by simp <;> omega) _ | with_reducible refine Below.alloc ?_ (by simp <;> omega) _)
    · have P := Lib.hid hB
      have hi := parseN_i64 d
      unfold I64 at hi
      by_cases h1 : parseN d < 1
      · have E := Lib.hid (q1 (Or.inr (Or.inr (Or.inl h1))))
        rw [E.out.1, E.out.2.1, E.out.2.2]
        clear q1 q2 hk hB
        go_enter Tryz.func176, Tryz.ntmps176
        go_wp2_with fail
        refine (cutColumn _ _ hs).mono ?_; rw [HK.out]; rintro e w1 ⟨rfl, hb1⟩
        have hl1 := hl.below (grow hb1)
        obtain ⟨hc, hf⟩ := bcell hb1
        go_wp2_with fail
        refine (parse _ _ hl1).mono ?_; rw [list_str, P.out]; rintro e w2 ⟨rfl, hb2⟩
        have hb3 := below_then hb1 hb2
        clear hc hf
        obtain ⟨hc, hf⟩ := bcell hb3
        have hB := grow hb3
        go_wp2
        refine bodyPost_ret (v := .tuple #[.agg #[.int .i64 0, .int .i64 0], .bool false]) (by simp [results, Tryz.results176, go_sem, hc]) rfl ⟨rfl, ?_⟩
        repeat (first | with_reducible exact hB | with_reducible refine Below.setCell ?_ (by simp <;> omega) _ | with_reducible refine Below.alloc ?_ (by simp <;> omega) _)
      · by_cases h2 : 1000 < parseN d
        · have E := Lib.hid (q1 (Or.inr (Or.inr (Or.inr h2))))
          rw [E.out.1, E.out.2.1, E.out.2.2]
          clear q1 q2 hk hB
          go_enter Tryz.func176, Tryz.ntmps176
          go_wp2_with fail
          refine (cutColumn _ _ hs).mono ?_; rw [HK.out]; rintro e w1 ⟨rfl, hb1⟩
          have hl1 := hl.below (grow hb1)
          obtain ⟨hc, hf⟩ := bcell hb1
          go_wp2_with fail
          refine (parse _ _ hl1).mono ?_; rw [list_str, P.out]; rintro e w2 ⟨rfl, hb2⟩
          have hb3 := below_then hb1 hb2
          clear hc hf
          obtain ⟨hc, hf⟩ := bcell hb3
          have hB := grow hb3
          go_wp2
          refine bodyPost_ret (v := .tuple #[.agg #[.int .i64 0, .int .i64 0], .bool false]) (by simp [results, Tryz.results176, go_sem, hc]) rfl ⟨rfl, ?_⟩
          repeat (first | with_reducible exact hB | with_reducible refine Below.setCell ?_ (by simp <;> omega) _ | with_reducible refine Below.alloc ?_ (by simp <;> omega) _)
        · have E := Lib.hid (q2 hk hB (by omega) (by omega))
          rw [E.out.1, E.out.2.1, E.out.2.2]
          clear q1 q2 hk hB
          go_enter Tryz.func176, Tryz.ntmps176
          go_wp2_with fail
          refine (cutColumn _ _ hs).mono ?_; rw [HK.out]; rintro e w1 ⟨rfl, hb1⟩
          have hl1 := hl.below (grow hb1)
          obtain ⟨hc, hf⟩ := bcell hb1
          go_wp2_with fail
          refine (parse _ _ hl1).mono ?_; rw [list_str, P.out]; rintro e w2 ⟨rfl, hb2⟩
          have hb3 := below_then hb1 hb2
          clear hc hf
          obtain ⟨hc, hf⟩ := bcell hb3
          have hB := grow hb3
          go_wp2
          refine bodyPost_ret (v := .tuple #[.agg #[.int .i64 (parseN d), .int .i64 k], .bool true]) (by simp [results, Tryz.results176, go_sem, hc]) rfl ⟨rfl, ?_⟩
          repeat (first | with_reducible exact hB | with_reducible refine Below.setCell ?_ (by simp <;> omega) _ | with_reducible refine Below.alloc ?_ (by simp <;> omega) _)
end Go.Proofs.YtccigjelbnjcoaaGreatDoor.AddrC
namespace Go.Proofs.YtccigjelbnjcoaaGreatDoor.ValueC
set_option linter.unusedVariables false
open Go.RowKit Go.Proofs.YtccigjelbnjcoaaGreatDoor.NumC
theorem grown {w : World} {o : Obj} : Below w.heap.size w (w.alloc o) := (Below.refl _ _).alloc (Nat.le_refl _) _
theorem yes_none {s : ByteArray} (h : s.size = 0) : s.toList.isEmpty = true ∧ (s.toList == []) = true := by
  rw [size_nos h]; exact ⟨by rw [Lib.toList_data]; rfl, by rw [Lib.toList_data]; rfl⟩
theorem not_none {s : ByteArray} (h : ¬ s.size = 0) : s.toList.isEmpty = false ∧ (s.toList == []) = false := by
  have : s.toList ≠ [] := by
    rw [Lib.toList_data]; intro e; apply h
    show s.data.size = 0
    rw [← Array.length_toList, e]; rfl
  exact ⟨by simpa using this, beq_eq_false_iff_ne.2 this⟩
set_option maxHeartbeats 1000000 in
theorem rgood_of (k n : Int) (s : ByteArray) (w : World) :
    Calls Tryz.prog 55 #[.agg #[.int .i64 k, .int .i64 n, .string s]] w fun e w' => e = .returned (.bool (goodB ⟨k, n, s⟩)) ∧ Below w.heap.size w w' := by
  by_cases hk0 : k = 0
  · subst hk0
    by_cases hn0 : n = 0
    · subst hn0
      by_cases hs : s.size = 0
      · have hs1 := (yes_none hs).1
        have hs2 := (yes_none hs).2
        have E : Hid (goodB ⟨0, 0, s⟩ = true) := Lib.hid (goodB_t (Or.inl ⟨rfl, rfl, hs⟩))
        go_enter Tryz.func55, Tryz.ntmps55
        go_wp2
        go_ret
        exact ⟨ret1 E.out.symm, grown⟩
      · have hs1 := (not_none hs).1
        have hs2 := (not_none hs).2
        have E : Hid (goodB ⟨0, 0, s⟩ = false) := Lib.hid (goodB_f (fun h => by unfold GoodP at h; simp only at h; omega))
        go_enter Tryz.func55, Tryz.ntmps55
        go_wp2
        go_ret
        exact ⟨ret1 E.out.symm, grown⟩
    · have n0 : (n == 0) = false := beq_eq_false_iff_ne.2 hn0
      have E : Hid (goodB ⟨0, n, s⟩ = false) := Lib.hid (goodB_f (fun h => by unfold GoodP at h; simp only at h; omega))
      go_enter Tryz.func55, Tryz.ntmps55
      go_wp2
      go_ret
      exact ⟨ret1 E.out.symm, grown⟩
  have k0 : (k == 0) = false := beq_eq_false_iff_ne.2 hk0
  by_cases hk1 : k = 1
  · subst hk1
    by_cases hn0 : n = 0
    · subst hn0
      by_cases hs : s.size = 0
      · have hs1 := (yes_none hs).1
        have hs2 := (yes_none hs).2
        have E : Hid (goodB ⟨1, 0, s⟩ = true) := Lib.hid (goodB_t (Or.inr (Or.inl ⟨rfl, Or.inl rfl, hs⟩)))
        go_enter Tryz.func55, Tryz.ntmps55
        go_wp2
        go_ret
        exact ⟨ret1 E.out.symm, grown⟩
      · have hs1 := (not_none hs).1
        have hs2 := (not_none hs).2
        have E : Hid (goodB ⟨1, 0, s⟩ = false) := Lib.hid (goodB_f (fun h => by unfold GoodP at h; simp only at h; omega))
        go_enter Tryz.func55, Tryz.ntmps55
        go_wp2
        go_ret
        exact ⟨ret1 E.out.symm, grown⟩
    · have n0 : (n == 0) = false := beq_eq_false_iff_ne.2 hn0
      by_cases hn1 : n = 1
      · subst hn1
        by_cases hs : s.size = 0
        · have hs1 := (yes_none hs).1
          have hs2 := (yes_none hs).2
          have E : Hid (goodB ⟨1, 1, s⟩ = true) := Lib.hid (goodB_t (Or.inr (Or.inl ⟨rfl, Or.inr rfl, hs⟩)))
          go_enter Tryz.func55, Tryz.ntmps55
          go_wp2
          go_ret
          exact ⟨ret1 E.out.symm, grown⟩
        · have hs1 := (not_none hs).1
          have hs2 := (not_none hs).2
          have E : Hid (goodB ⟨1, 1, s⟩ = false) := Lib.hid (goodB_f (fun h => by unfold GoodP at h; simp only at h; omega))
          go_enter Tryz.func55, Tryz.ntmps55
          go_wp2
          go_ret
          exact ⟨ret1 E.out.symm, grown⟩
      · have n1 : (n == 1) = false := beq_eq_false_iff_ne.2 hn1
        have E : Hid (goodB ⟨1, n, s⟩ = false) := Lib.hid (goodB_f (fun h => by unfold GoodP at h; simp only at h; omega))
        go_enter Tryz.func55, Tryz.ntmps55
        go_wp2
        go_ret
        exact ⟨ret1 E.out.symm, grown⟩
  have k1 : (k == 1) = false := beq_eq_false_iff_ne.2 hk1
  by_cases hk2 : k = 2
  · subst hk2
    by_cases hs : s.size = 0
    · have hs1 := (yes_none hs).1
      have hs2 := (yes_none hs).2
      have E : Hid (goodB ⟨2, n, s⟩ = true) := Lib.hid (goodB_t (Or.inr (Or.inr (Or.inl ⟨rfl, hs⟩))))
      go_enter Tryz.func55, Tryz.ntmps55
      go_wp2
      go_ret
      exact ⟨ret1 E.out.symm, grown⟩
    · have hs1 := (not_none hs).1
      have hs2 := (not_none hs).2
      have E : Hid (goodB ⟨2, n, s⟩ = false) := Lib.hid (goodB_f (fun h => by unfold GoodP at h; simp only at h; omega))
      go_enter Tryz.func55, Tryz.ntmps55
      go_wp2
      go_ret
      exact ⟨ret1 E.out.symm, grown⟩
  have k2 : (k == 2) = false := beq_eq_false_iff_ne.2 hk2
  by_cases hk3 : k = 3
  · subst hk3
    by_cases hn0 : n = 0
    · subst hn0
      by_cases hs : s.size ≤ 200
      · have hs1 : decide ((s.size : Int) ≤ 200) = true := decide_eq_true (by omega)
        have E : Hid (goodB ⟨3, 0, s⟩ = true) := Lib.hid (goodB_t (Or.inr (Or.inr (Or.inr (Or.inl ⟨rfl, rfl, hs⟩)))))
        go_enter Tryz.func55, Tryz.ntmps55
        go_wp2
        go_ret
        exact ⟨ret1 E.out.symm, grown⟩
      · have hs1 : decide ((s.size : Int) ≤ 200) = false := decide_eq_false (by omega)
        have E : Hid (goodB ⟨3, 0, s⟩ = false) := Lib.hid (goodB_f (fun h => by unfold GoodP at h; simp only at h; omega))
        go_enter Tryz.func55, Tryz.ntmps55
        go_wp2
        go_ret
        exact ⟨ret1 E.out.symm, grown⟩
    · have n0 : (n == 0) = false := beq_eq_false_iff_ne.2 hn0
      have E : Hid (goodB ⟨3, n, s⟩ = false) := Lib.hid (goodB_f (fun h => by unfold GoodP at h; simp only at h; omega))
      go_enter Tryz.func55, Tryz.ntmps55
      go_wp2
      go_ret
      exact ⟨ret1 E.out.symm, grown⟩
  have k3 : (k == 3) = false := beq_eq_false_iff_ne.2 hk3
  by_cases hk4 : k = 4
  · subst hk4
    by_cases hn1 : 1 ≤ n
    · by_cases hn8 : n ≤ 8
      · skip
        by_cases hs : s.size = 0
        · have hs1 := (yes_none hs).1
          have hs2 := (yes_none hs).2
          have E : Hid (goodB ⟨4, n, s⟩ = true) := Lib.hid (goodB_t (Or.inr (Or.inr (Or.inr (Or.inr ⟨rfl, ⟨hn1, hn8⟩, hs⟩)))))
          go_enter Tryz.func55, Tryz.ntmps55
          go_wp2
          go_ret
          exact ⟨ret1 E.out.symm, grown⟩
        · have hs1 := (not_none hs).1
          have hs2 := (not_none hs).2
          have E : Hid (goodB ⟨4, n, s⟩ = false) := Lib.hid (goodB_f (fun h => by unfold GoodP at h; simp only at h; omega))
          go_enter Tryz.func55, Tryz.ntmps55
          go_wp2
          go_ret
          exact ⟨ret1 E.out.symm, grown⟩
      · have hn9 : decide (n ≤ 8) = false := decide_eq_false hn8
        have E : Hid (goodB ⟨4, n, s⟩ = false) := Lib.hid (goodB_f (fun h => by unfold GoodP at h; simp only at h; omega))
        go_enter Tryz.func55, Tryz.ntmps55
        go_wp2
        go_ret
        exact ⟨ret1 E.out.symm, grown⟩
    · have hn9 : decide (1 ≤ n) = false := decide_eq_false hn1
      have E : Hid (goodB ⟨4, n, s⟩ = false) := Lib.hid (goodB_f (fun h => by unfold GoodP at h; simp only at h; omega))
      go_enter Tryz.func55, Tryz.ntmps55
      go_wp2
      go_ret
      exact ⟨ret1 E.out.symm, grown⟩
  have k4 : (k == 4) = false := beq_eq_false_iff_ne.2 hk4
  have E : Hid (goodB ⟨k, n, s⟩ = false) := Lib.hid (goodB_f (fun h => by unfold GoodP at h; simp only at h; omega))
  go_enter Tryz.func55, Tryz.ntmps55
  go_wp2
  go_ret
  exact ⟨ret1 E.out.symm, grown⟩
theorem rgood (a : Val) (w : World) :
    Calls Tryz.prog 55 #[.agg #[.int .i64 a.k, .int .i64 a.n, .string a.s]] w fun e w' => e = .returned (.bool (goodB a)) ∧ Below w.heap.size w w' := rgood_of a.k a.n a.s w
theorem same_iff {k n k' n' : Int} {s s' : ByteArray} : sameB ⟨k, n, s⟩ ⟨k', n', s'⟩ = decide (k = k' ∧ n = n' ∧ s = s') := by
  unfold sameB; rw [decide_eq_decide]; exact ⟨fun h => by injection h with h1 h2 h3; exact ⟨h1, h2, h3⟩, fun ⟨h1, h2, h3⟩ => by subst h1 h2 h3; rfl⟩
end Go.Proofs.YtccigjelbnjcoaaGreatDoor.ValueC
namespace Go.Proofs.YtccigjelbnjcoaaGreatDoor.ValueC
set_option linter.unusedVariables false
open Go.RowKit Go.Proofs.YtccigjelbnjcoaaGreatDoor.NumC
set_option maxHeartbeats 1000000 in
theorem cgood_of (k n : Int) (s : ByteArray) (w : World) :
    Calls Tryz.prog 106 #[.agg #[.int .i64 k, .int .i64 n, .string s]] w fun e w' => e = .returned (.bool (goodB ⟨k, n, s⟩)) ∧ Below w.heap.size w w' := by
  by_cases hk0 : k = 0
  · subst hk0
    by_cases hn0 : n = 0
    · subst hn0
      by_cases hs : s.size = 0
      · have hs1 := (yes_none hs).1
        have hs2 := (yes_none hs).2
        have E : Hid (goodB ⟨0, 0, s⟩ = true) := Lib.hid (goodB_t (Or.inl ⟨rfl, rfl, hs⟩))
        go_enter Tryz.func106, Tryz.ntmps106
        go_wp2
        go_ret
        exact ⟨ret1 E.out.symm, grown⟩
      · have hs1 := (not_none hs).1
        have hs2 := (not_none hs).2
        have E : Hid (goodB ⟨0, 0, s⟩ = false) := Lib.hid (goodB_f (fun h => by unfold GoodP at h; simp only at h; omega))
        go_enter Tryz.func106, Tryz.ntmps106
        go_wp2
        go_ret
        exact ⟨ret1 E.out.symm, grown⟩
    · have n0 : (n == 0) = false := beq_eq_false_iff_ne.2 hn0
      have E : Hid (goodB ⟨0, n, s⟩ = false) := Lib.hid (goodB_f (fun h => by unfold GoodP at h; simp only at h; omega))
      go_enter Tryz.func106, Tryz.ntmps106
      go_wp2
      go_ret
      exact ⟨ret1 E.out.symm, grown⟩
  have k0 : (k == 0) = false := beq_eq_false_iff_ne.2 hk0
  by_cases hk1 : k = 1
  · subst hk1
    by_cases hn0 : n = 0
    · subst hn0
      by_cases hs : s.size = 0
      · have hs1 := (yes_none hs).1
        have hs2 := (yes_none hs).2
        have E : Hid (goodB ⟨1, 0, s⟩ = true) := Lib.hid (goodB_t (Or.inr (Or.inl ⟨rfl, Or.inl rfl, hs⟩)))
        go_enter Tryz.func106, Tryz.ntmps106
        go_wp2
        go_ret
        exact ⟨ret1 E.out.symm, grown⟩
      · have hs1 := (not_none hs).1
        have hs2 := (not_none hs).2
        have E : Hid (goodB ⟨1, 0, s⟩ = false) := Lib.hid (goodB_f (fun h => by unfold GoodP at h; simp only at h; omega))
        go_enter Tryz.func106, Tryz.ntmps106
        go_wp2
        go_ret
        exact ⟨ret1 E.out.symm, grown⟩
    · have n0 : (n == 0) = false := beq_eq_false_iff_ne.2 hn0
      by_cases hn1 : n = 1
      · subst hn1
        by_cases hs : s.size = 0
        · have hs1 := (yes_none hs).1
          have hs2 := (yes_none hs).2
          have E : Hid (goodB ⟨1, 1, s⟩ = true) := Lib.hid (goodB_t (Or.inr (Or.inl ⟨rfl, Or.inr rfl, hs⟩)))
          go_enter Tryz.func106, Tryz.ntmps106
          go_wp2
          go_ret
          exact ⟨ret1 E.out.symm, grown⟩
        · have hs1 := (not_none hs).1
          have hs2 := (not_none hs).2
          have E : Hid (goodB ⟨1, 1, s⟩ = false) := Lib.hid (goodB_f (fun h => by unfold GoodP at h; simp only at h; omega))
          go_enter Tryz.func106, Tryz.ntmps106
          go_wp2
          go_ret
          exact ⟨ret1 E.out.symm, grown⟩
      · have n1 : (n == 1) = false := beq_eq_false_iff_ne.2 hn1
        have E : Hid (goodB ⟨1, n, s⟩ = false) := Lib.hid (goodB_f (fun h => by unfold GoodP at h; simp only at h; omega))
        go_enter Tryz.func106, Tryz.ntmps106
        go_wp2
        go_ret
        exact ⟨ret1 E.out.symm, grown⟩
  have k1 : (k == 1) = false := beq_eq_false_iff_ne.2 hk1
  by_cases hk2 : k = 2
  · subst hk2
    by_cases hs : s.size = 0
    · have hs1 := (yes_none hs).1
      have hs2 := (yes_none hs).2
      have E : Hid (goodB ⟨2, n, s⟩ = true) := Lib.hid (goodB_t (Or.inr (Or.inr (Or.inl ⟨rfl, hs⟩))))
      go_enter Tryz.func106, Tryz.ntmps106
      go_wp2
      go_ret
      exact ⟨ret1 E.out.symm, grown⟩
    · have hs1 := (not_none hs).1
      have hs2 := (not_none hs).2
      have E : Hid (goodB ⟨2, n, s⟩ = false) := Lib.hid (goodB_f (fun h => by unfold GoodP at h; simp only at h; omega))
      go_enter Tryz.func106, Tryz.ntmps106
      go_wp2
      go_ret
      exact ⟨ret1 E.out.symm, grown⟩
  have k2 : (k == 2) = false := beq_eq_false_iff_ne.2 hk2
  by_cases hk3 : k = 3
  · subst hk3
    by_cases hn0 : n = 0
    · subst hn0
      by_cases hs : s.size ≤ 200
      · have hs1 : decide ((s.size : Int) ≤ 200) = true := decide_eq_true (by omega)
        have E : Hid (goodB ⟨3, 0, s⟩ = true) := Lib.hid (goodB_t (Or.inr (Or.inr (Or.inr (Or.inl ⟨rfl, rfl, hs⟩)))))
        go_enter Tryz.func106, Tryz.ntmps106
        go_wp2
        go_ret
        exact ⟨ret1 E.out.symm, grown⟩
      · have hs1 : decide ((s.size : Int) ≤ 200) = false := decide_eq_false (by omega)
        have E : Hid (goodB ⟨3, 0, s⟩ = false) := Lib.hid (goodB_f (fun h => by unfold GoodP at h; simp only at h; omega))
        go_enter Tryz.func106, Tryz.ntmps106
        go_wp2
        go_ret
        exact ⟨ret1 E.out.symm, grown⟩
    · have n0 : (n == 0) = false := beq_eq_false_iff_ne.2 hn0
      have E : Hid (goodB ⟨3, n, s⟩ = false) := Lib.hid (goodB_f (fun h => by unfold GoodP at h; simp only at h; omega))
      go_enter Tryz.func106, Tryz.ntmps106
      go_wp2
      go_ret
      exact ⟨ret1 E.out.symm, grown⟩
  have k3 : (k == 3) = false := beq_eq_false_iff_ne.2 hk3
  by_cases hk4 : k = 4
  · subst hk4
    by_cases hn1 : 1 ≤ n
    · by_cases hn8 : n ≤ 8
      · skip
        by_cases hs : s.size = 0
        · have hs1 := (yes_none hs).1
          have hs2 := (yes_none hs).2
          have E : Hid (goodB ⟨4, n, s⟩ = true) := Lib.hid (goodB_t (Or.inr (Or.inr (Or.inr (Or.inr ⟨rfl, ⟨hn1, hn8⟩, hs⟩)))))
          go_enter Tryz.func106, Tryz.ntmps106
          go_wp2
          go_ret
          exact ⟨ret1 E.out.symm, grown⟩
        · have hs1 := (not_none hs).1
          have hs2 := (not_none hs).2
          have E : Hid (goodB ⟨4, n, s⟩ = false) := Lib.hid (goodB_f (fun h => by unfold GoodP at h; simp only at h; omega))
          go_enter Tryz.func106, Tryz.ntmps106
          go_wp2
          go_ret
          exact ⟨ret1 E.out.symm, grown⟩
      · have hn9 : decide (n ≤ 8) = false := decide_eq_false hn8
        have E : Hid (goodB ⟨4, n, s⟩ = false) := Lib.hid (goodB_f (fun h => by unfold GoodP at h; simp only at h; omega))
        go_enter Tryz.func106, Tryz.ntmps106
        go_wp2
        go_ret
        exact ⟨ret1 E.out.symm, grown⟩
    · have hn9 : decide (1 ≤ n) = false := decide_eq_false hn1
      have E : Hid (goodB ⟨4, n, s⟩ = false) := Lib.hid (goodB_f (fun h => by unfold GoodP at h; simp only at h; omega))
      go_enter Tryz.func106, Tryz.ntmps106
      go_wp2
      go_ret
      exact ⟨ret1 E.out.symm, grown⟩
  have k4 : (k == 4) = false := beq_eq_false_iff_ne.2 hk4
  have E : Hid (goodB ⟨k, n, s⟩ = false) := Lib.hid (goodB_f (fun h => by unfold GoodP at h; simp only at h; omega))
  go_enter Tryz.func106, Tryz.ntmps106
  go_wp2
  go_ret
  exact ⟨ret1 E.out.symm, grown⟩
theorem good (a : Val) (w : World) :
    Calls Tryz.prog 106 #[.agg #[.int .i64 a.k, .int .i64 a.n, .string a.s]] w fun e w' => e = .returned (.bool (goodB a)) ∧ Below w.heap.size w w' := cgood_of a.k a.n a.s w
theorem eqs (k n k' n' : Int) (s s' : ByteArray) (W : World) :
    (binOp .eql 23 (.agg #[.int .i64 k, .int .i64 n, .string s]) (.agg #[.int .i64 k', .int .i64 n', .string s'])).run Tryz.prog W = .ok (.bool (sameB ⟨k, n, s⟩ ⟨k', n', s'⟩)) W := by
  have hS : Tryz.prog.underlying 23 = some (.struct (Tryz.prog.fieldsOf 23)) := by kernel_rfl
  have hp : Tryz.prog.stoodInHeld 23 = false := by kernel_rfl
  have a1 := Tryz.isAgg3; have z1 := Tryz.sizeOf3; have u1 := Tryz.underlying3
  have a2 := Tryz.isAgg2; have z2 := Tryz.sizeOf2; have u2 := Tryz.underlying2
  have a3 := Tryz.isAgg9; have z3 := Tryz.sizeOf9; have u3 := Tryz.underlying9
  rw [run_eql_struct, show (10000 : Nat) = 9999 + 1 from rfl, run_equalIn_agg W 9999 23 _ _ hS hp]
  simp only [Program.fieldsOf, Tryz.underlying23]
  rw [same_iff]
  go_simp
  by_cases h1 : k = k' <;> by_cases h2 : n = n' <;> by_cases h3 : s = s' <;> simp [h1, h2, h3, Lib.toList_data]
  all_goals (first | exact fun e => h3 (ByteArray.ext e) | skip)
def cmpS (x y : ByteArray) : Int := if bl x y then -1 else if bl y x then 1 else 0
end Go.Proofs.YtccigjelbnjcoaaGreatDoor.ValueC
