/-
  Contracts of the reference of addr: Parse.
-/
import Derived.Test.YtogahgbfdmfmcaaDoorAddrF
namespace Go.Proofs.YtogahgbfdmfmcaaDoor.AddrC
set_option linter.unusedVariables false
open Go.RowKit Go.Proofs.YtogahgbfdmfmcaaDoor.NumC

/-- No cell of a column ahead of c has that name. -/
def NotYet (l : List UInt8) (c : Int) : Prop := ∀ r k, Cell r k → k < c → nameL r k ≠ l
theorem notYet_next {l : List UInt8} {c : Int} (h : NotYet l c) (h2 : ∀ r, Cell r c → nameL r c ≠ l) : NotYet l (c + 1) := fun r k hr hk => by
  by_cases e : k = c
  · subst e; exact h2 r hr
  · exact h r k hr (by omega)
theorem notYet_end {l : List UInt8} (h : NotYet l 51) : pR l = 0 ∧ pC l = 0 ∧ pOK l = false := by
  have := p_none (s := l) fun r c hc => h r c hc (by have := hc.2.2; omega)
  exact ⟨this.2.1, this.2.2, this.1⟩
/-- The text begins with the column's name, and there is more. -/
def begins (l : List UInt8) (c : Int) : Prop := (colL c).length < l.length ∧ l.take (colL c).length = colL c
theorem not_begins {l : List UInt8} {c : Int} (h : ¬ begins l c) : ∀ r, Cell r c → nameL r c ≠ l := fun r hr e => h ⟨(name_col hr e).2.1, (name_col hr e).1⟩
theorem not_digits {l : List UInt8} {c : Int} (h : ¬ (parseB (l.drop (colL c).length) = true ∧ Cell (parseN (l.drop (colL c).length)) c)) : ∀ r, Cell r c → nameL r c ≠ l := fun r hr e => by
  have h1 := (name_col hr e).2.2
  have h2 := parse_some (cell_i64 hr) h1.symm
  exact h ⟨h2.2, by rw [h2.1]; exact hr⟩
theorem yes_digits {l : List UInt8} {c : Int} (hb : begins l c) (h : parseB (l.drop (colL c).length) = true) (h2 : Cell (parseN (l.drop (colL c).length)) c) : nameL (parseN (l.drop (colL c).length)) c = l := by
  rw [nameL_cell h2, parse_is h]
  have := List.take_append_drop (colL c).length l
  rwa [hb.2] at this

def gotW (w : World) : World := w.alloc (Obj.cells #[.int .i64 0, .int .i64 0, .bool false] 28)
theorem agg3 {x y x' y' : Int} {b b' : Bool} (h : x = x' ∧ y = y' ∧ b = b') : Ending.returned (.agg #[.int .i64 x, .int .i64 y, .bool b]) = .returned (.agg #[.int .i64 x', .int .i64 y', .bool b']) := by obtain ⟨rfl, rfl, rfl⟩ := h; rfl
theorem take_str (s : ByteArray) (m : Nat) : (s.extract 0 m).toList = s.data.toList.take m := by
  rw [Lib.toList_data, Lib.extract_data, List.drop_zero, Nat.sub_zero]
theorem drop_list (s : ByteArray) (m : Nat) : (s.extract m s.size).data.toList = s.data.toList.drop m := by rw [drop_str]

set_option maxRecDepth 100000 in
set_option maxHeartbeats 4000000 in
theorem raparse (s : ByteArray) (w : World) (hs : s.size ≤ 9223372036854775807) :
    Calls Tryd.prog 10 #[.string s] w fun e w' => e = .returned (.agg #[.int .i64 (pR s.data.toList), .int .i64 (pC s.data.toList), .bool (pOK s.data.toList)]) ∧ Below w.heap.size w w' := by
  go_enter Tryd.func10, Tryd.ntmps10
  go_wp2
  go_loopw [3] (fun i wr => ∃ c : Nat, 1 ≤ c ∧ c ≤ 51 ∧ i = .int .i64 c ∧ Hid (NotYet s.data.toList c) ∧ Below (gotW w).heap.size (gotW w) wr) (fun i _ => 51 - (intOf i).toNat)
  case atStart => exact ⟨1, by omega, by omega, rfl, Lib.hid fun r k hr hk => by have := hr.2.1; omega, Below.refl _ _⟩
  case round =>
    obtain ⟨c, hc1, hc2, rfl, HN, hw⟩ := hrel
    obtain ⟨hc, hf⟩ := bcell hw
    have hz : w.heap.size < wr.heap.size := by have := hw.size; unfold gotW at this; simp at this; omega
    by_cases h51 : c = 51
    · have E := Lib.hid (notYet_end (by have := HN.out; rwa [h51] at this))
      have h50 : 50 < c := by omega
      have hB := below_of hw
      unfold gotW at hc hf
      clear hw
      go_wp2
      refine bodyPost_ret (v := .agg #[.int .i64 0, .int .i64 0, .bool false]) (by simp [results, Tryd.results10, go_sem, hc]) rfl ⟨agg3 ⟨E.out.1.symm, E.out.2.1.symm, E.out.2.2.symm⟩, ?_⟩
      repeat (first | with_reducible exact hB | with_reducible refine Below.setCell ?_ (by simp <;> omega) _ | with_reducible refine Below.alloc ?_ (by simp <;> omega) _)
    · have hc3 : c ≤ 50 := by omega
      clear h51
      have hl2 : (colL c).length ≤ 2 := by rw [colL_len]; split <;> omega
      by_cases hlen : (colL c).length < s.size
      · by_cases he : s.data.toList.take (colL c).length = colL c
        · have hb : begins s.data.toList c := ⟨by rw [← len_list]; exact hlen, he⟩
          have he1 : ((s.extract 0 (colL c).length).toList == colL c) = true := beq_iff_eq.2 ((take_str s _).trans he)
          have DL := Lib.hid (drop_list s (colL c).length)
          cases hp : parseB (s.data.toList.drop (colL c).length)
          · have PB := Lib.hid hp
            have HN' := Lib.hid (notYet_next HN.out (not_digits (fun h => by rw [hp] at h; cases h.1)))
            clear hp he hb
            go_wp2_with fail
            refine (rcolumn _ _ (by omega) (by omega)).mono ?_; rintro e w' ⟨rfl, rfl⟩
            go_wp2_with fail
            refine (rparse _ _).mono ?_; rw [DL.out, PB.out]; rintro e w1 ⟨rfl, hb1⟩
            have hw1 := hw.trans (hb1.mono hw.size)
            have hz1 : w.heap.size < w1.heap.size := Nat.lt_of_lt_of_le hz hb1.size
            go_wp2
            go_roundw
            case rel => exact ⟨c + 1, by omega, by omega, by go_num, HN', (hw1.alloc hw1.size _).alloc (by have := hw1.size; simp <;> omega) _⟩
            case measure => simp [intOf]; omega
          · by_cases hcell : Cell (parseN (s.data.toList.drop (colL c).length)) c
            · have PB := Lib.hid hp
              have hnm := yes_digits hb hp hcell
              have E := Lib.hid (p_some hcell hnm)
              have G := Lib.hid (cellB_t hcell)
              have he2 : (nameL (parseN (s.data.toList.drop (colL c).length)) c == s.toList) = true := by rw [Lib.toList_data, hnm]; exact beq_self_eq_true _
              have hi := parseN_i64 (s.data.toList.drop (colL c).length)
              unfold I64 at hi
              clear hp he hb hnm hcell
              go_wp2_with fail
              refine (rcolumn _ _ (by omega) (by omega)).mono ?_; rintro e w' ⟨rfl, rfl⟩
              go_wp2_with fail
              refine (rparse _ _).mono ?_; rw [DL.out, PB.out]; rintro e w1 ⟨rfl, hb1⟩
              have hw1 := hw.trans (hb1.mono hw.size)
              have hz1 : w.heap.size < w1.heap.size := Nat.lt_of_lt_of_le hz hb1.size
              clear hc hf
              obtain ⟨hc, hf⟩ := bcell hw1
              unfold gotW at hc hf
              go_wp2_with fail
              refine (rgood _ _ _).mono ?_; rw [G.out]; rintro e w2 ⟨rfl, hb2⟩
              obtain ⟨hd, hg⟩ := bcell hb2
              go_wp2_with fail
              refine (rname _ _ _).mono ?_; rintro e w3 ⟨rfl, hb3⟩
              have hb4 := hb2.trans (hb3.mono hb2.size)
              have hB : Below w.heap.size w w3 := (below_of hw1).trans ((below_of (below_of hb4)).mono (below_of hw1).size)
              clear hd hg hc hf
              obtain ⟨hd, hg⟩ := bcell hb4
              have hr := hw1.trans ((below_of (below_of hb4)).mono hw1.size)
              obtain ⟨hc, hf⟩ := bcell hr
              unfold gotW at hc hf
              go_wp2
              refine bodyPost_ret (v := .agg #[.int .i64 (parseN (s.data.toList.drop (colL c).length)), .int .i64 c, .bool true]) (by simp [results, Tryd.results10, go_sem, hc]) rfl ⟨agg3 ⟨E.out.2.1.symm, E.out.2.2.symm, E.out.1.symm⟩, ?_⟩
              repeat (first | with_reducible exact hB | with_reducible refine Below.setCell ?_ (by simp <;> omega) _ | with_reducible refine Below.alloc ?_ (by simp <;> omega) _)
            · have PB := Lib.hid hp
              have HN' := Lib.hid (notYet_next HN.out (not_digits (fun h => hcell h.2)))
              have G := Lib.hid (cellB_f hcell)
              have hi := parseN_i64 (s.data.toList.drop (colL c).length)
              unfold I64 at hi
              clear hp he hb hcell
              go_wp2_with fail
              refine (rcolumn _ _ (by omega) (by omega)).mono ?_; rintro e w' ⟨rfl, rfl⟩
              go_wp2_with fail
              refine (rparse _ _).mono ?_; rw [DL.out, PB.out]; rintro e w1 ⟨rfl, hb1⟩
              have hw1 := hw.trans (hb1.mono hw.size)
              have hz1 : w.heap.size < w1.heap.size := Nat.lt_of_lt_of_le hz hb1.size
              clear hc hf
              obtain ⟨hc, hf⟩ := bcell hw1
              unfold gotW at hc hf
              go_wp2_with fail
              refine (rgood _ _ _).mono ?_; rw [G.out]; rintro e w2 ⟨rfl, hb2⟩
              have hw2 : Below (gotW w).heap.size (gotW w) w2 := hw1.trans ((below_of (below_of hb2)).mono hw1.size)
              go_wp2
              go_roundw
              case rel => exact ⟨c + 1, by omega, by omega, by go_num, HN', hw2⟩
              case measure => simp [intOf]; omega
        · have HN' := Lib.hid (notYet_next HN.out (not_begins (fun h => he h.2)))
          have he1 : ((s.extract 0 (colL c).length).toList == colL c) = false := beq_eq_false_iff_ne.2 fun e => he ((take_str s _).symm.trans e)
          clear he
          go_wp2_with fail
          refine (rcolumn _ _ (by omega) (by omega)).mono ?_; rintro e w' ⟨rfl, rfl⟩
          go_wp2
          go_roundw
          case rel => exact ⟨c + 1, by omega, by omega, by go_num, HN', hw⟩
          case measure => simp [intOf]; omega
      · have HN' := Lib.hid (notYet_next HN.out (not_begins (fun h => hlen (by rw [len_list]; exact h.1))))
        have hlen' : s.size ≤ (colL c).length := by omega
        clear hlen
        go_wp2_with fail
        refine (rcolumn _ _ (by omega) (by omega)).mono ?_; rintro e w' ⟨rfl, rfl⟩
        go_wp2
        go_roundw
        case rel => exact ⟨c + 1, by omega, by omega, by go_num, HN', hw⟩
        case measure => simp [intOf]; omega
end Go.Proofs.YtogahgbfdmfmcaaDoor.AddrC
