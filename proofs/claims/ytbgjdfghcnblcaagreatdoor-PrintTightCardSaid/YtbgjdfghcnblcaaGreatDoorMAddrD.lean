/-
  Contracts of package addr and of its reference: Name. Of the world: the library's table and its two errors read as they are laid.
-/
import Derived.Test.YtbgjdfghcnblcaaGreatDoorMNumE
import Derived.Test.YtbgjdfghcnblcaaGreatDoorMNumG
import Derived.Laws.RangeAny
namespace Go.Proofs.YtbgjdfghcnblcaaGreatDoor.AddrC
set_option linter.unusedVariables false
open Go.RowKit Go.Proofs.YtbgjdfghcnblcaaGreatDoor.NumC

theorem two_str (a b : List UInt8) : ((⟨a.toArray⟩ : ByteArray) ++ (⟨b.toArray⟩ : ByteArray)) = ⟨(a ++ b).toArray⟩ := by
  apply WideShapes.bytes_inj
  rw [ByteArray.data_append, Array.toList_append]

set_option maxHeartbeats 1000000 in
theorem name (r c : Int) (w : World) (hl : LibIs w) :
    Calls Tryz.prog 36 #[.agg #[.int .i64 r, .int .i64 c]] w fun e w' => e = .returned (.string ⟨(nameL r c).toArray⟩) ∧ Below w.heap.size w w' := by
  by_cases h : Cell r c
  · have G := Lib.hid (cellB_t h)
    have E := Lib.hid (nameL_cell h)
    have T := Lib.hid (two_str (colL c) (Lib.itoa r))
    have ir := Lib.hid (cell_i64 h)
    have hs : ¬ 9223372036854775807 < (colL c).length + (Lib.itoa r).length := by
      have h1 := (itoa_len (cell_i64 h)).2
      have h2 := colL_len c
      split at h2 <;> omega
    have hc1 : 1 ≤ c := h.2.1
    have hc2 : c ≤ 50 := h.2.2
    clear h
    go_enter Tryz.func36, Tryz.ntmps36
    go_wp2_with fail
    refine (good _ _ _).mono ?_; rw [G.out]; rintro e w1 ⟨rfl, hb1⟩
    obtain ⟨hc, hf⟩ := bcell hb1
    go_wp2_with fail
    refine region_grown (by kernel_rfl) (by kernel_rfl) ?_
    have C0 := Gr.cell w.heap.size 0 (.int .i64 r) hb1 (by simp [go_sem])
    have C1 := Gr.cell w.heap.size 1 (.int .i64 c) hb1 (by simp [go_sem])
    have LG : ∀ u : Gr w1, LibIs u.now := fun u => hl.below ((grow hb1).trans (u.below.mono (grow hb1).size))
    repeat (go_big_quiet_step (first | (go_at_call 59; exact grown_same (columnName _ _ hc1 hc2)) | (go_at_call 60; exact grown_of (dec _ _ ir.out (LG _)))))
    refine wpQuiet_nil ?_
    intro w2 hw2; obtain ⟨u, rfl⟩ := hw2
    go_wp2_with fail
    go_ret
    exact ⟨rets' (by rw [T.out, E.out]), (grow hb1).trans (u.below.mono (grow hb1).size)⟩
  · have G := Lib.hid (cellB_f h)
    have E := Lib.hid (nameL_no h)
    clear h
    go_enter Tryz.func36, Tryz.ntmps36
    go_wp2_with fail
    refine (good _ _ _).mono ?_; rw [G.out]; rintro e w1 ⟨rfl, hb1⟩
    go_wp2_with fail
    go_ret
    exact ⟨rets' (by rw [E.out]), grow hb1⟩
set_option maxHeartbeats 1000000 in
theorem rname (r c : Int) (w : World) :
    Calls Tryz.prog 45 #[.agg #[.int .i64 r, .int .i64 c]] w fun e w' => e = .returned (.string ⟨(nameL r c).toArray⟩) ∧ Below w.heap.size w w' := by
  by_cases h : Cell r c
  · have G := Lib.hid (cellB_t h)
    have E := Lib.hid (nameL_cell h)
    have T := Lib.hid (two_str (colL c) (Lib.itoa r))
    have ir := Lib.hid (cell_i64 h)
    have hs : ¬ 9223372036854775807 < (colL c).length + (Lib.itoa r).length := by
      have h1 := (itoa_len (cell_i64 h)).2
      have h2 := colL_len c
      split at h2 <;> omega
    have hc1 : 1 ≤ c := h.2.1
    have hc2 : c ≤ 50 := h.2.2
    clear h
    go_enter Tryz.func45, Tryz.ntmps45
    go_wp2_with fail
    refine (rgood _ _ _).mono ?_; rw [G.out]; rintro e w1 ⟨rfl, hb1⟩
    obtain ⟨hc, hf⟩ := bcell hb1
    go_wp2_with fail
    refine region_grown (by kernel_rfl) (by kernel_rfl) ?_
    have C0 := Gr.cell w.heap.size 0 (.int .i64 r) hb1 (by simp [go_sem])
    have C1 := Gr.cell w.heap.size 1 (.int .i64 c) hb1 (by simp [go_sem])
    repeat (go_big_quiet_step (first | (go_at_call 69; exact grown_same (rcolumn _ _ hc1 hc2)) | (go_at_call 44; exact grown_same (rdec _ _ ir.out))))
    refine wpQuiet_nil ?_
    intro w2 hw2; obtain ⟨u, rfl⟩ := hw2
    go_wp2_with fail
    go_ret
    exact ⟨rets' (by rw [T.out, E.out]), (grow hb1).trans (u.below.mono (grow hb1).size)⟩
  · have G := Lib.hid (cellB_f h)
    have E := Lib.hid (nameL_no h)
    clear h
    go_enter Tryz.func45, Tryz.ntmps45
    go_wp2_with fail
    refine (rgood _ _ _).mono ?_; rw [G.out]; rintro e w1 ⟨rfl, hb1⟩
    go_wp2_with fail
    go_ret
    exact ⟨rets' (by rw [E.out]), grow hb1⟩
end Go.Proofs.YtbgjdfghcnblcaaGreatDoor.AddrC

/-
  Contracts of package addr: cutColumn, Parse. Of the world: the library's table and its two errors read as they are laid.
-/
namespace Go.Proofs.YtbgjdfghcnblcaaGreatDoor.AddrC
set_option linter.unusedVariables false
open Go.RowKit Go.Proofs.YtbgjdfghcnblcaaGreatDoor.NumC

theorem drop_at (s : ByteArray) (k : Nat) (h : k < s.size) : s.data.toList.drop k = s[k] :: s.data.toList.drop (k + 1) := by
  have e : s[k] = s.data.toList[k]'(by rw [← len_list]; exact h) := rfl
  rw [e]; exact List.drop_eq_getElem_cons (by rw [← len_list]; exact h)
theorem drop_str (s : ByteArray) (k : Nat) : s.extract k s.size = ⟨(s.data.toList.drop k).toArray⟩ := by
  apply WideShapes.bytes_inj
  rw [Lib.extract_data, List.take_of_length_le (by rw [List.length_drop, ← len_list]; exact Nat.le_refl _)]
theorem cut_eq {n n' : Int} {s s' : ByteArray} (hn : n = n') (hs : s = s') : Ending.returned (.tuple #[.int .i64 n, .string s]) = .returned (.tuple #[.int .i64 n', .string s']) := by subst hn hs; rfl
theorem nil_str : ({ data := #[] } : ByteArray) = ⟨([] : List UInt8).toArray⟩ := rfl

set_option maxRecDepth 100000 in
set_option maxHeartbeats 1000000 in
theorem cutColumn (s : ByteArray) (w : World) (hs : s.size ≤ 9223372036854775807) :
    Calls Tryz.prog 181 #[.string s] w fun e w' => e = .returned (.tuple #[.int .i64 (cutL 0 s.data.toList).1, .string ⟨(cutL 0 s.data.toList).2.toArray⟩]) ∧ Below w.heap.size w w' := by
  have B : ∀ p, Below w.heap.size w (w.iter s p) := fun p => (Below.refl _ _).alloc (Nat.le_refl _) _
  go_enter Tryz.func181, Tryz.ntmps181
  go_wp2
  go_loopw [2] (fun n w' => ∃ pos k : Nat, w' = w.iter s pos ∧ n = .int .i64 k ∧ k ≤ 50 ∧ pos ≤ s.size ∧ Hid (cutL k (s.data.toList.drop pos) = cutL 0 s.data.toList)) (fun _ w' => s.size - w'.iterPos w.heap.size)
  case atStart => exact ⟨0, 0, rfl, rfl, by omega, by omega, Lib.hid rfl⟩
  case round =>
    obtain ⟨pos, k, rfl, rfl, hk, hpos, HC⟩ := hrel
    by_cases hp : pos < s.size
    · have D := Lib.hid (drop_at s pos hp)
      have Es := Lib.hid (drop_str s pos)
      by_cases ha : s[pos].toNat < 128
      · have hnx : ∀ ty, (Instr.next (.pointer (some ⟨w.heap.size, 0, none⟩)) true ty).run Tryz.prog (w.iter s pos) = _ := fun ty => run_next_ascii w s pos ty hp ha
        by_cases h1 : s[pos].toNat < 65 ∨ 90 < s[pos].toNat
        · have E : Hid (cutL 0 s.data.toList = (k, s.data.toList.drop pos)) := Lib.hid (by rw [← HC.out, D.out]; exact cutL_stop h1)
          rcases h1 with h1 | h1
          all_goals
            go_wp2
            go_quiet (fail)
            go_wp2
            go_ret2
            exact ⟨cut_eq (by rw [E.out]) (by rw [E.out, Es.out]), below_drewN' (B _) _⟩
        · have h2 : 65 ≤ s[pos].toNat := by omega
          have h3 : s[pos].toNat ≤ 90 := by omega
          by_cases h4 : 50 < k * 26 + (s[pos].toNat - 64)
          · have E : Hid (cutL 0 s.data.toList = (0, [])) := Lib.hid (by rw [← HC.out, D.out]; exact cutL_big h1 h4)
            clear h1
            go_wp2
            go_ret2
            exact ⟨cut_eq (by rw [E.out]; rfl) (by rw [E.out]), B _⟩
          · have E : Hid (cutL (k * 26 + (s[pos].toNat - 64)) (s.data.toList.drop (pos + 1)) = cutL 0 s.data.toList) := Lib.hid (by rw [← HC.out, D.out]; exact (cutL_on h1 h4).symm)
            clear h1
            go_wp2
            go_roundw
            case rel => exact ⟨pos + 1, k * 26 + (s[pos].toNat - 64), rfl, congrArg _ (by omega), by omega, by omega, E⟩
            case measure => simp; omega
      · obtain ⟨hr, hwd⟩ := decode_high s pos hp (by omega)
        have hr2 := decode_le s pos
        have h1 : s[pos].toNat < 65 ∨ 90 < s[pos].toNat := by omega
        have E : Hid (cutL 0 s.data.toList = (k, s.data.toList.drop pos)) := Lib.hid (by rw [← HC.out, D.out]; exact cutL_stop h1)
        have hnx : ∀ ty, (Instr.next (.pointer (some ⟨w.heap.size, 0, none⟩)) true ty).run Tryz.prog (w.iter s pos) = _ := fun ty => run_next_any w s pos ty hp
        clear h1
        generalize (Utf8.decode s pos).1 = q at *
        generalize pos + (Utf8.decode s pos).2 = pos' at *
        go_wp2
        go_quiet (fail)
        go_wp2
        go_ret2
        exact ⟨cut_eq (by rw [E.out]) (by rw [E.out, Es.out]), below_drewN' (B _) _⟩
    · obtain rfl : pos = s.size := by omega
      have E : Hid (cutL 0 s.data.toList = (k, [])) := Lib.hid (by rw [← HC.out, List.drop_of_length_le (by rw [← len_list]; exact Nat.le_refl _)]; exact cutL_nil k)
      have hnx : ∀ ty, (Instr.next (.pointer (some ⟨w.heap.size, 0, none⟩)) true ty).run Tryz.prog (w.iter s s.size) = _ := fun ty => run_next_end w s s.size ty hp
      go_wp2
      go_ret2
      exact ⟨cut_eq (by rw [E.out]) (by rw [E.out]), B _⟩

theorem p_parts {l d : List UInt8} {k : Nat} (h : cutL 0 l = (k, d)) :
    (k = 0 ∨ parseB d = false ∨ parseN d < 1 ∨ 1000 < parseN d → pR l = 0 ∧ pC l = 0 ∧ pOK l = false) ∧
    (k ≠ 0 → parseB d = true → 1 ≤ parseN d → parseN d ≤ 1000 → pR l = parseN d ∧ pC l = k ∧ pOK l = true) := by
  refine ⟨fun hh => ?_, fun h1 h2 h3 h4 => ?_⟩
  · have e : pOK l = false := by
      unfold pOK; rw [h]; simp only
      refine decide_eq_false fun ⟨h1, h2, h3, h4⟩ => ?_
      rcases hh with hh | hh | hh | hh
      · exact h1 hh
      · rw [hh] at h2; cases h2
      · omega
      · omega
    unfold pR pC; rw [e]; exact ⟨rfl, rfl, rfl⟩
  · have e : pOK l = true := by
      unfold pOK; rw [h]; simp only
      exact decide_eq_true ⟨h1, h2, h3, h4⟩
    unfold pR pC; rw [e, h]; exact ⟨rfl, rfl, rfl⟩
theorem list_str (d : List UInt8) : (⟨d.toArray⟩ : ByteArray).data.toList = d := rfl

set_option maxRecDepth 100000 in
set_option maxHeartbeats 1000000 in
theorem aparse (s : ByteArray) (w : World) (hs : s.size ≤ 9223372036854775807) (hl : LibIs w) :
    Calls Tryz.prog 180 #[.string s] w fun e w' => e = .returned (.tuple #[.agg #[.int .i64 (pR s.data.toList), .int .i64 (pC s.data.toList)], .bool (pOK s.data.toList)]) ∧ Below w.heap.size w w' := by
  obtain ⟨k, d, hkd⟩ : ∃ k d, cutL 0 s.data.toList = (k, d) := ⟨_, _, rfl⟩
  obtain ⟨q1, q2⟩ := p_parts hkd
  have HK := Lib.hid hkd
  clear hkd
  by_cases hk : k = 0
  · have E := Lib.hid (q1 (Or.inl hk))
    rw [E.out.1, E.out.2.1, E.out.2.2]
    have k0 : ((k : Int) == 0) = true := beq_iff_eq.2 (by omega)
    clear q1 q2 hk
    go_enter Tryz.func180, Tryz.ntmps180
    go_wp2_with fail
    refine (cutColumn _ _ hs).mono ?_; rw [HK.out]; rintro e w1 ⟨rfl, hb1⟩
    have hl1 := hl.below (grow hb1)
    obtain ⟨hc, hf⟩ := bcell hb1
    go_wp2_with fail
    refine (parse _ _ hl1).mono ?_; rw [list_str, show parseN d = parseN d from rfl]; rintro e w2 ⟨rfl, hb2⟩
    have hb3 := below_then hb1 hb2
    clear hc hf
    obtain ⟨hc, hf⟩ := bcell hb3
    have hB := grow hb3
    go_wp2
    refine bodyPost_ret (v := .tuple #[.agg #[.int .i64 0, .int .i64 0], .bool false]) (by simp [results, Tryz.results180, go_sem, hc]) rfl ⟨rfl, ?_⟩
    repeat (first | with_reducible exact hB | with_reducible refine Below.setCell ?_ (by simp <;> omega) _ | with_reducible refine Below.alloc ?_ (by simp <;> omega) _)
  · have k0 : ((k : Int) == 0) = false := beq_eq_false_iff_ne.2 (by omega)
    cases hB : parseB d
    · have E := Lib.hid (q1 (Or.inr (Or.inl hB)))
      rw [E.out.1, E.out.2.1, E.out.2.2]
      have P := Lib.hid hB
      clear q1 q2 hk hB
      go_enter Tryz.func180, Tryz.ntmps180
      go_wp2_with fail
      refine (cutColumn _ _ hs).mono ?_; rw [HK.out]; rintro e w1 ⟨rfl, hb1⟩
      have hl1 := hl.below (grow hb1)
      obtain ⟨hc, hf⟩ := bcell hb1
      go_wp2_with fail
      refine (parse _ _ hl1).mono ?_; rw [list_str, P.out]; rintro e w2 ⟨rfl, hb2⟩
      have hb3 := below_then hb1 hb2
      clear hc hf
      obtain ⟨hc, hf⟩ := bcell hb3
      have hB := grow hb3
      go_wp2
      refine bodyPost_ret (v := .tuple #[.agg #[.int .i64 0, .int .i64 0], .bool false]) (by simp [results, Tryz.results180, go_sem, hc]) rfl ⟨rfl, ?_⟩
      repeat (first | with_reducible exact hB | with_reducible refine Below.setCell ?_ (by simp <;> omega) _ | with_reducible refine Below.alloc ?_ (by simp <;> omega) _)
    · have P := Lib.hid hB
      have hi := parseN_i64 d
      unfold I64 at hi
      by_cases h1 : parseN d < 1
      · have E := Lib.hid (q1 (Or.inr (Or.inr (Or.inl h1))))
        rw [E.out.1, E.out.2.1, E.out.2.2]
        clear q1 q2 hk hB
        go_enter Tryz.func180, Tryz.ntmps180
        go_wp2_with fail
        refine (cutColumn _ _ hs).mono ?_; rw [HK.out]; rintro e w1 ⟨rfl, hb1⟩
        have hl1 := hl.below (grow hb1)
        obtain ⟨hc, hf⟩ := bcell hb1
        go_wp2_with fail
        refine (parse _ _ hl1).mono ?_; rw [list_str, P.out]; rintro e w2 ⟨rfl, hb2⟩
        have hb3 := below_then hb1 hb2
        clear hc hf
        obtain ⟨hc, hf⟩ := bcell hb3
        have hB := grow hb3
        go_wp2
        refine bodyPost_ret (v := .tuple #[.agg #[.int .i64 0, .int .i64 0], .bool false]) (by simp [results, Tryz.results180, go_sem, hc]) rfl ⟨rfl, ?_⟩
        repeat (first | with_reducible exact hB | with_reducible refine Below.setCell ?_ (by simp <;> omega) _ | with_reducible refine Below.alloc ?_ (by simp <;> omega) _)
      · by_cases h2 : 1000 < parseN d
        · have E := Lib.hid (q1 (Or.inr (Or.inr (Or.inr h2))))
          rw [E.out.1, E.out.2.1, E.out.2.2]
          clear q1 q2 hk hB
          go_enter Tryz.func180, Tryz.ntmps180
          go_wp2_with fail
          refine (cutColumn _ _ hs).mono ?_; rw [HK.out]; rintro e w1 ⟨rfl, hb1⟩
          have hl1 := hl.below (grow hb1)
          obtain ⟨hc, hf⟩ := bcell hb1
          go_wp2_with fail
          refine (parse _ _ hl1).mono ?_; rw [list_str, P.out]; rintro e w2 ⟨rfl, hb2⟩
          have hb3 := below_then hb1 hb2
          clear hc hf
          obtain ⟨hc, hf⟩ := bcell hb3
          have hB := grow hb3
          go_wp2
          refine bodyPost_ret (v := .tuple #[.agg #[.int .i64 0, .int .i64 0], .bool false]) (by simp [results, Tryz.results180, go_sem, hc]) rfl ⟨rfl, ?_⟩
          repeat (first | with_reducible exact hB | with_reducible refine Below.setCell ?_ (by simp <;> omega) _ | with_reducible refine Below.alloc ?_ (by simp <;> omega) _)
        · have E := Lib.hid (q2 hk hB (by omega) (by omega))
          rw [E.out.1, E.out.2.1, E.out.2.2]
          clear q1 q2 hk hB
          go_enter Tryz.func180, Tryz.ntmps180
          go_wp2_with fail
          refine (cutColumn _ _ hs).mono ?_; rw [HK.out]; rintro e w1 ⟨rfl, hb1⟩
          have hl1 := hl.below (grow hb1)
          obtain ⟨hc, hf⟩ := bcell hb1
          go_wp2_with fail
          refine (parse _ _ hl1).mono ?_; rw [list_str, P.out]; rintro e w2 ⟨rfl, hb2⟩
          have hb3 := below_then hb1 hb2
          clear hc hf
          obtain ⟨hc, hf⟩ := bcell hb3
          have hB := grow hb3
          go_wp2
          refine bodyPost_ret (v := .tuple #[.agg #[.int .i64 (parseN d), .int .i64 k], .bool true]) (by simp [results, Tryz.results180, go_sem, hc]) rfl ⟨rfl, ?_⟩
          repeat (first | with_reducible exact hB | with_reducible refine Below.setCell ?_ (by simp <;> omega) _ | with_reducible refine Below.alloc ?_ (by simp <;> omega) _)
end Go.Proofs.YtbgjdfghcnblcaaGreatDoor.AddrC

/-
  Contracts of the reference of addr: Parse.
-/
namespace Go.Proofs.YtbgjdfghcnblcaaGreatDoor.AddrC
set_option linter.unusedVariables false
open Go.RowKit Go.Proofs.YtbgjdfghcnblcaaGreatDoor.NumC

/-- No cell of a column ahead of c has that name. -/
def NotYet (l : List UInt8) (c : Int) : Prop := ∀ r k, Cell r k → k < c → nameL r k ≠ l
theorem notYet_next {l : List UInt8} {c : Int} (h : NotYet l c) (h2 : ∀ r, Cell r c → nameL r c ≠ l) : NotYet l (c + 1) := fun r k hr hk => by
  by_cases e : k = c
  · subst e; exact h2 r hr
  · exact h r k hr (by omega)
theorem notYet_end {l : List UInt8} (h : NotYet l 51) : pR l = 0 ∧ pC l = 0 ∧ pOK l = false := by
  have := p_none (s := l) fun r c hc => h r c hc (by have := hc.2.2; omega)
  exact ⟨this.2.1, this.2.2, this.1⟩
/-- The text begins with the column's name, and there is more. -/
def begins (l : List UInt8) (c : Int) : Prop := (colL c).length < l.length ∧ l.take (colL c).length = colL c
theorem not_begins {l : List UInt8} {c : Int} (h : ¬ begins l c) : ∀ r, Cell r c → nameL r c ≠ l := fun r hr e => h ⟨(name_col hr e).2.1, (name_col hr e).1⟩
theorem not_digits {l : List UInt8} {c : Int} (h : ¬ (parseB (l.drop (colL c).length) = true ∧ Cell (parseN (l.drop (colL c).length)) c)) : ∀ r, Cell r c → nameL r c ≠ l := fun r hr e => by
  have h1 := (name_col hr e).2.2
  have h2 := parse_some (cell_i64 hr) h1.symm
  exact h ⟨h2.2, by rw [h2.1]; exact hr⟩
theorem yes_digits {l : List UInt8} {c : Int} (hb : begins l c) (h : parseB (l.drop (colL c).length) = true) (h2 : Cell (parseN (l.drop (colL c).length)) c) : nameL (parseN (l.drop (colL c).length)) c = l := by
  rw [nameL_cell h2, parse_is h]
  have := List.take_append_drop (colL c).length l
  rwa [hb.2] at this

theorem agg3 {x y x' y' : Int} {b b' : Bool} (h : x = x' ∧ y = y' ∧ b = b') : Ending.returned (.agg #[.int .i64 x, .int .i64 y, .bool b]) = .returned (.agg #[.int .i64 x', .int .i64 y', .bool b']) := by obtain ⟨rfl, rfl, rfl⟩ := h; rfl
theorem take_str (s : ByteArray) (m : Nat) : (s.extract 0 m).toList = s.data.toList.take m := by
  rw [Lib.toList_data, Lib.extract_data, List.drop_zero, Nat.sub_zero]
theorem drop_list (s : ByteArray) (m : Nat) : (s.extract m s.size).data.toList = s.data.toList.drop m := by rw [drop_str]

end Go.Proofs.YtbgjdfghcnblcaaGreatDoor.AddrC
