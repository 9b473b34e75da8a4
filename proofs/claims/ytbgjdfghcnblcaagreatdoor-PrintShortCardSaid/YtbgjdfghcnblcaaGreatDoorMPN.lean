/-
  Plain facts on formulas as texts: what a node that fits looks like; the tokens of its text.
-/
import Derived.Test.YtbgjdfghcnblcaaGreatDoorMLexF
import Derived.Test.YtbgjdfghcnblcaaGreatDoorMX2
namespace Go.Proofs.YtbgjdfghcnblcaaGreatDoor.PrintC
set_option linter.unusedVariables false
open Go.Proofs.YtbgjdfghcnblcaaGreatDoor.NumC Go.Proofs.YtbgjdfghcnblcaaGreatDoor.LexC Go.Proofs.YtbgjdfghcnblcaaGreatDoor.TreeC

/-- What a node that fits looks like, with so many Args. -/
inductive Shape : Fld → Nat → Prop where
  | int (n : Int) (h : 0 ≤ n) : Shape ⟨1, 2, n, nob, 0, 0, 0, 0, nob⟩ 0
  | text (s : ByteArray) (h : s.size ≤ 200) : Shape ⟨1, 3, 0, s, 0, 0, 0, 0, nob⟩ 0
  | yes : Shape ⟨1, 1, 1, nob, 0, 0, 0, 0, nob⟩ 0
  | no : Shape ⟨1, 1, 0, nob, 0, 0, 0, 0, nob⟩ 0
  | cell (r c : Int) (h : AddrC.Cell r c) : Shape ⟨2, 0, 0, nob, r, c, 0, 0, nob⟩ 0
  | range (a b c d : Int) (h : AddrC.FineP a b c d) : Shape ⟨3, 0, 0, nob, a, b, c, d, nob⟩ 0
  | neg : Shape ⟨4, 0, 0, nob, 0, 0, 0, 0, nob⟩ 1
  | bin (o : List UInt8) (h : binS o = true) : Shape ⟨5, 0, 0, nob, 0, 0, 0, 0, str o⟩ 2
  | call (o : List UInt8) (h : NameT o) (h8 : o.length ≤ 8) (m : Nat) (hm : m ≤ 10) : Shape ⟨6, 0, 0, nob, 0, 0, 0, 0, str o⟩ m
theorem no_v {k vk vn r1 r2 r3 r4 : Int} {vs op : ByteArray} (h : noVB ⟨k, vk, vn, vs, r1, r2, r3, r4, op⟩ = true) : vk = 0 ∧ vn = 0 ∧ vs = nob := by
  have h : decide ((⟨vk, vn, vs⟩ : ValueC.Val) = ⟨0, 0, { data := #[] }⟩) = true := h
  have := of_decide_eq_true h
  injection this with h1 h2 h3
  exact ⟨h1, h2, h3⟩
theorem no_r {k vk vn r1 r2 r3 r4 : Int} {vs op : ByteArray} (h : noRB ⟨k, vk, vn, vs, r1, r2, r3, r4, op⟩ = true) : r1 = 0 ∧ r2 = 0 ∧ r3 = 0 ∧ r4 = 0 := of_decide_eq_true h
theorem no_t {k vk vn r1 r2 r3 r4 : Int} {vs op : ByteArray} (h : noTB ⟨k, vk, vn, vs, r1, r2, r3, r4, op⟩ = true) : r3 = 0 ∧ r4 = 0 := of_decide_eq_true h
theorem no_o {k vk vn r1 r2 r3 r4 : Int} {vs op : ByteArray} (h : noOB ⟨k, vk, vn, vs, r1, r2, r3, r4, op⟩ = true) : op = nob := by
  have h : (op.toList == ([] : List UInt8)) = true := h
  have h1 : op.toList = [] := eq_of_beq h
  rw [Lib.toList_data] at h1
  exact ByteArray.ext (Array.toList_inj.1 h1)
theorem size_nob {s : ByteArray} (h : s.size = 0) : s = nob := ValueC.size_nos h
theorem str_list (s : ByteArray) : str s.data.toList = s := by obtain ⟨⟨l⟩⟩ := s; rfl
theorem str_back (l : List UInt8) : (str l).data.toList = l := by simp [str]
theorem bin_is {s : ByteArray} (h : binB s = true) : ∃ o, s = str o ∧ binS o = true := by
  refine ⟨s.data.toList, (str_list s).symm, ?_⟩
  unfold binB anyOf at h
  simp only [Bool.or_eq_true, List.any_eq_true] at h
  have key : ∀ ss : List (List UInt8), (∀ o ∈ ss, binS o = true) → (∃ x, x ∈ ss ∧ decide (s = str x) = true) → binS s.data.toList = true := fun ss hs ⟨x, hx, e⟩ => by
    have e := of_decide_eq_true e
    rw [e, str_back]; exact hs x hx
  rcases h with ((h | h) | h) | h
  · exact key cmpS (by decide) h
  · exact key sumS (by decide) h
  · exact key mulS (by decide) h
  · exact key powS (by decide) h
theorem fn_is {s : ByteArray} (h : fnB s = true) : ∃ o, s = str o ∧ NameT o ∧ o.length ≤ 8 := by
  unfold fnB at h
  rw [Bool.and_eq_true] at h
  have h8 := of_decide_eq_true h.1
  have h2 := h.2
  have hk := cut_ok s.data.toList
  split at h2
  · rename_i t ht
    rw [Bool.and_eq_true] at h2
    obtain ⟨o, e, hn⟩ := (hk t (by rw [ht]; simp)).2 (of_decide_eq_true h2.1)
    have e2 := of_decide_eq_true h2.2
    rw [e] at e2
    refine ⟨o, e2.symm, ⟨hn.head, hn.all, hn.up⟩, ?_⟩
    rw [← e2] at h8
    simpa [str, ByteArray.size] using h8
  · cases h2
theorem shape_of {f : Fld} {m : Nat} (h : fitsB f m = true) : Shape f m := by
  obtain ⟨k, vk, vn, vs, r1, r2, r3, r4, op⟩ := f
  unfold fitsB at h
  simp only at h
  split at h
  · rename_i h1
    subst h1
    simp only [Bool.and_eq_true, decide_eq_true_eq] at h
    obtain ⟨⟨⟨hc, hr⟩, ho⟩, rfl⟩ := h
    obtain ⟨rfl, rfl, rfl, rfl⟩ := no_r hr
    obtain rfl := no_o ho
    unfold constB at hc
    split at hc
    · rename_i h2
      subst h2
      rw [Bool.and_eq_true] at hc
      have hg : ValueC.GoodP ⟨2, vn, vs⟩ := of_decide_eq_true hc.1
      have hs : vs.size = 0 := by unfold ValueC.GoodP at hg; simp only at hg; omega
      obtain rfl := size_nob hs
      exact .int vn (of_decide_eq_true hc.2)
    · split at hc
      · rename_i h3
        have hg : ValueC.GoodP ⟨vk, vn, vs⟩ := of_decide_eq_true hc
        unfold ValueC.GoodP at hg
        simp only at hg
        rcases h3 with rfl | rfl
        · have h4 : vn = 0 ∧ vs.size ≤ 200 := by omega
          obtain ⟨rfl, h5⟩ := h4
          exact .text vs h5
        · have h4 : (vn = 0 ∨ vn = 1) ∧ vs.size = 0 := by omega
          obtain ⟨h5, h6⟩ := h4
          obtain rfl := size_nob h6
          rcases h5 with rfl | rfl
          · exact .no
          · exact .yes
      · cases hc
  · split at h
    · rename_i h1
      subst h1
      simp only [Bool.and_eq_true, decide_eq_true_eq] at h
      obtain ⟨⟨⟨⟨hc, ht⟩, hv⟩, ho⟩, rfl⟩ := h
      obtain ⟨rfl, rfl⟩ := no_t ht
      obtain ⟨rfl, rfl, rfl⟩ := no_v hv
      obtain rfl := no_o ho
      exact .cell r1 r2 (of_decide_eq_true hc)
    · split at h
      · rename_i h1
        subst h1
        simp only [Bool.and_eq_true, decide_eq_true_eq] at h
        obtain ⟨⟨⟨hc, hv⟩, ho⟩, rfl⟩ := h
        obtain ⟨rfl, rfl, rfl⟩ := no_v hv
        obtain rfl := no_o ho
        exact .range r1 r2 r3 r4 (of_decide_eq_true hc)
      · split at h
        · rename_i h1
          subst h1
          simp only [Bool.and_eq_true, decide_eq_true_eq] at h
          obtain ⟨⟨⟨rfl, hv⟩, hr⟩, ho⟩ := h
          obtain ⟨rfl, rfl, rfl⟩ := no_v hv
          obtain ⟨rfl, rfl, rfl, rfl⟩ := no_r hr
          obtain rfl := no_o ho
          exact .neg
        · split at h
          · rename_i h1
            subst h1
            simp only [Bool.and_eq_true, decide_eq_true_eq] at h
            obtain ⟨⟨⟨hb, rfl⟩, hv⟩, hr⟩ := h
            obtain ⟨rfl, rfl, rfl⟩ := no_v hv
            obtain ⟨rfl, rfl, rfl, rfl⟩ := no_r hr
            obtain ⟨o, rfl, ho⟩ := bin_is hb
            exact .bin o ho
          · split at h
            · rename_i h1
              subst h1
              simp only [Bool.and_eq_true, decide_eq_true_eq] at h
              obtain ⟨⟨⟨hb, hm⟩, hv⟩, hr⟩ := h
              obtain ⟨rfl, rfl, rfl⟩ := no_v hv
              obtain ⟨rfl, rfl, rfl, rfl⟩ := no_r hr
              obtain ⟨o, rfl, ho, h8⟩ := fn_is hb
              exact .call o ho h8 m hm
            · cases h
/-- All numbers are of 64 bits. -/
def wideB (f : Fld) (n : Nat) : Bool := decide (f.vn ≤ 9223372036854775807)
/-- A cell's name is a name. -/
theorem u8_of (n : Nat) (h : n < 256) : (UInt8.ofNat n).toNat = n := AddrC.u8_small h
theorem name_cell {r c : Int} (h : AddrC.Cell r c) : NameT (AddrC.nameL r c) := by
  have hh := h
  unfold AddrC.Cell at hh
  rw [AddrC.nameL_cell h, itoa_nat (by omega)]
  have hcol : ∀ x ∈ AddrC.colL c, 65 ≤ x.toNat ∧ x.toNat ≤ 90 := by
    intro x hx
    unfold AddrC.colL at hx
    split at hx
    · obtain rfl := List.mem_singleton.1 hx
      rw [u8_of _ (by omega)]; omega
    · rcases List.mem_cons.1 hx with rfl | hx
      · decide
      · obtain rfl := List.mem_singleton.1 hx
        rw [u8_of _ (by omega)]; omega
  have hne : AddrC.colL c ≠ [] := by unfold AddrC.colL; split <;> simp
  have hd := decDigits_all r.toNat
  generalize AddrC.colL c = x at *
  generalize Lib.decDigits r.toNat = y at *
  have hlet : ∀ a ∈ x, letB a = true := fun a ha => letB_iff.2 (Or.inr (hcol a ha))
  refine ⟨?_, fun a ha => ?_, ?_⟩
  · cases x with
    | nil => exact absurd rfl hne
    | cons a x => exact ⟨a, x ++ y, rfl, hlet a (List.mem_cons_self ..)⟩
  · rcases List.mem_append.1 ha with ha | ha
    · unfold wordB; rw [hlet a ha]; rfl
    · exact dig_word (digB_iff.2 (hd a ha))
  · unfold upL
    conv => rhs; rw [← List.map_id (x ++ y)]
    apply List.map_congr_left
    intro a ha
    refine upC_no ?_
    rcases List.mem_append.1 ha with ha | ha
    · have := hcol a ha; omega
    · have := hd a ha; omega
theorem name_true : NameT truT := ⟨⟨84, [82, 85, 69], rfl, by decide⟩, by decide, by decide⟩
theorem name_false : NameT falT := ⟨⟨70, [65, 76, 83, 69], rfl, by decide⟩, by decide, by decide⟩
theorem bin_row {o : List UInt8} (h : binS o = true) : 1 ≤ opRow o ∧ opRow o ≤ 4 := by
  rcases bin_cases h with rfl | rfl | rfl | rfl | rfl | rfl | rfl | rfl | rfl | rfl | rfl | rfl | rfl <;> decide
/-- What a node's text is, shape by shape. -/
theorem nodeT_bin (o : List UInt8) (ts : List (List UInt8 × Nat)) : nodeT ⟨5, 0, 0, nob, 0, 0, 0, 0, str o⟩ ts = closeT (fst0 ts) (lo1 (opRow o)) ++ (o ++ closeT (snd0 ts) (lo2 (opRow o))) := by
  have h : rowK ⟨5, 0, 0, nob, 0, 0, 0, 0, str o⟩ = opRow o := by
    show (if (5 : Int) = 1 ∨ (5 : Int) = 2 ∨ (5 : Int) = 3 ∨ (5 : Int) = 6 then 6 else if (5 : Int) = 4 then 5 else if (5 : Int) = 5 then opRow (str o).data.toList else 0) = _
    rw [if_neg (by decide), if_neg (by decide), if_pos rfl, str_back]
  unfold nodeT
  rw [h]
  simp only
  rw [if_neg (by decide), if_neg (by decide), if_neg (by decide), if_neg (by decide), if_pos trivial, str_back]
theorem nodeK_bin (o : List UInt8) (ts : List (List PT × Nat)) : nodeK ⟨5, 0, 0, nob, 0, 0, 0, 0, str o⟩ ts = closeK (kst0 ts) (lo1 (opRow o)) ++ sgn o :: closeK (knd0 ts) (lo2 (opRow o)) := by
  have h : rowK ⟨5, 0, 0, nob, 0, 0, 0, 0, str o⟩ = opRow o := by
    show (if (5 : Int) = 1 ∨ (5 : Int) = 2 ∨ (5 : Int) = 3 ∨ (5 : Int) = 6 then 6 else if (5 : Int) = 4 then 5 else if (5 : Int) = 5 then opRow (str o).data.toList else 0) = _
    rw [if_neg (by decide), if_neg (by decide), if_pos rfl, str_back]
  unfold nodeK
  rw [h]
  simp only
  rw [if_neg (by decide), if_neg (by decide), if_neg (by decide), if_neg (by decide), if_pos trivial]
  rfl
theorem nodeT_call (o : List UInt8) (ts : List (List UInt8 × Nat)) : nodeT ⟨6, 0, 0, nob, 0, 0, 0, 0, str o⟩ ts = o ++ 40 :: (joinT (ts.map (·.1)) ++ [41]) := by
  unfold nodeT
  simp only
  rw [if_neg (by decide), if_neg (by decide), if_neg (by decide), if_neg (by decide), if_neg (by decide), str_back]
theorem nodeK_call (o : List UInt8) (ts : List (List PT × Nat)) : nodeK ⟨6, 0, 0, nob, 0, 0, 0, 0, str o⟩ ts = (3, 0, str o) :: sgn [40] :: (joinK (ts.map (·.1)) ++ [sgn [41]]) := by
  unfold nodeK
  simp only
  rw [if_neg (by decide), if_neg (by decide), if_neg (by decide), if_neg (by decide), if_neg (by decide)]
theorem nodeT_neg (ts : List (List UInt8 × Nat)) : nodeT ⟨4, 0, 0, nob, 0, 0, 0, 0, nob⟩ ts = 45 :: closeT (fst0 ts) 5 := rfl
theorem nodeK_neg (ts : List (List PT × Nat)) : nodeK ⟨4, 0, 0, nob, 0, 0, 0, 0, nob⟩ ts = sgn [45] :: closeK (kst0 ts) 5 := rfl
theorem cuts_close {s : List UInt8} {ts : List PT} (h : Cuts s ts) (row least : Nat) : Cuts (closeT (s, row) least) (closeK (ts, row) least) := by
  unfold closeT closeK
  simp only
  split
  · exact cuts_paren h
  · exact h
/-- The texts of nodes, and their tokens. -/
inductive CutsFo : List (List UInt8 × Nat) → List (List PT × Nat) → Prop where
  | nil : CutsFo [] []
  | cons {x xs r l ls} : Cuts x xs → CutsFo l ls → CutsFo ((x, r) :: l) ((xs, r) :: ls)
theorem CutsFo.args {l : List (List UInt8 × Nat)} {ls : List (List PT × Nat)} (h : CutsFo l ls) : CutsAll (l.map (·.1)) (ls.map (·.1)) := by
  induction h with
  | nil => exact .nil
  | cons h _ ih => exact .cons h ih
theorem cuts_fo : ∀ (x : Fo), x.all fitsB = true → x.all wideB = true → CutsFo (texts x) (toks x)
  | .nil, _, _ => .nil
  | .cons f k n, h, h2 => by
    simp only [Fo.all, Bool.and_eq_true] at h h2
    obtain ⟨⟨hk, hf⟩, hn⟩ := h
    obtain ⟨⟨gk, gf⟩, gn⟩ := h2
    have ih1 := cuts_fo k hk gk
    have ih2 := cuts_fo n hn gn
    refine .cons ?_ ih2
    have hs := shape_of hf
    have hw : f.vn ≤ 9223372036854775807 := of_decide_eq_true gf
    clear hf gf
    generalize hm : k.len = m at hs
    have hl1 : (texts k).length = m := by
      rw [← hm]
      have : ∀ x : Fo, (texts x).length = x.len := by intro x; induction x with
        | nil => rfl
        | cons f k n _ ih => simp [texts, Fo.len, ih]
      exact this k
    cases hs with
    | int n h0 => exact cuts_int h0 hw
    | text s hs =>
      have := cuts_text s.data.toList
      rwa [str_list] at this
    | yes => exact cuts_name name_true
    | no => exact cuts_name name_false
    | cell r c hc => exact cuts_name (name_cell hc)
    | range a b c d hc => exact cuts_range (name_cell hc.1) (name_cell hc.2.1)
    | neg =>
      rw [nodeT_neg, nodeK_neg]
      generalize texts k = ts at *
      generalize toks k = ks at *
      cases ih1 with
      | nil => cases hl1
      | cons hx _ => exact cuts_neg (cuts_close hx _ _)
    | bin o ho =>
      rw [nodeT_bin, nodeK_bin]
      generalize texts k = ts at *
      generalize toks k = ks at *
      cases ih1 with
      | nil => cases hl1
      | cons hx h2 =>
        cases h2 with
        | nil => cases hl1
        | cons hy _ => exact cuts_bin ho (cuts_close hx _ _) (cuts_close hy _ _)
    | call o ho h8 m hm =>
      rw [nodeT_call, nodeK_call]
      exact cuts_call ho ih1.args
theorem cuts_node (a : Nd) (h : a.all fitsB = true) (h2 : a.all wideB = true) : Cuts (textN a) (toksN a) := by
  have : CutsFo (texts (.cons a.f a.kids .nil)) (toks (.cons a.f a.kids .nil)) := cuts_fo _ (by simpa [Fo.all, Nd.all] using h) (by simpa [Fo.all, Nd.all] using h2)
  cases this with
  | cons h _ => exact h
end Go.Proofs.YtbgjdfghcnblcaaGreatDoor.PrintC

/-
  Contracts of print's code: the rows, what parentheses are wanted, a constant's text.
-/
namespace Go.Proofs.YtbgjdfghcnblcaaGreatDoor.PrintC
set_option linter.unusedVariables false
open Go.RowKit Go.Proofs.YtbgjdfghcnblcaaGreatDoor.NumC Go.Proofs.YtbgjdfghcnblcaaGreatDoor.LexC Go.Proofs.YtbgjdfghcnblcaaGreatDoor.TreeC

theorem opRow_toList (s : ByteArray) : s.data.toList = s.toList := (Lib.toList_data s).symm
set_option maxRecDepth 100000 in
set_option maxHeartbeats 2000000 in
theorem csignRow (s : ByteArray) (w : World) : Calls Tryz.prog 24 #[.string s] w fun e w' => e = .returned (.int .i64 (opRow s.data.toList : Nat)) ∧ w = w' := by
  by_cases h0 : s = { data := #[94] }
  · subst h0
    go_enter Tryz.func24, Tryz.ntmps24
    go_wp2_with fail
    go_ret
    exact ⟨rfl, rfl⟩
  · have d0 : (s.toList == [94]) = false := text_ne h0
    by_cases h1 : s = { data := #[42] }
    · subst h1
      clear h0 d0
      go_enter Tryz.func24, Tryz.ntmps24
      go_wp2_with fail
      go_ret
      exact ⟨rfl, rfl⟩
    · have d1 : (s.toList == [42]) = false := text_ne h1
      by_cases h2 : s = { data := #[47] }
      · subst h2
        clear h0 d0 h1 d1
        go_enter Tryz.func24, Tryz.ntmps24
        go_wp2_with fail
        go_ret
        exact ⟨rfl, rfl⟩
      · have d2 : (s.toList == [47]) = false := text_ne h2
        by_cases h3 : s = { data := #[37] }
        · subst h3
          clear h0 d0 h1 d1 h2 d2
          go_enter Tryz.func24, Tryz.ntmps24
          go_wp2_with fail
          go_ret
          exact ⟨rfl, rfl⟩
        · have d3 : (s.toList == [37]) = false := text_ne h3
          by_cases h4 : s = { data := #[43] }
          · subst h4
            clear h0 d0 h1 d1 h2 d2 h3 d3
            go_enter Tryz.func24, Tryz.ntmps24
            go_wp2_with fail
            go_ret
            exact ⟨rfl, rfl⟩
          · have d4 : (s.toList == [43]) = false := text_ne h4
            by_cases h5 : s = { data := #[45] }
            · subst h5
              clear h0 d0 h1 d1 h2 d2 h3 d3 h4 d4
              go_enter Tryz.func24, Tryz.ntmps24
              go_wp2_with fail
              go_ret
              exact ⟨rfl, rfl⟩
            · have d5 : (s.toList == [45]) = false := text_ne h5
              by_cases h6 : s = { data := #[38] }
              · subst h6
                clear h0 d0 h1 d1 h2 d2 h3 d3 h4 d4 h5 d5
                go_enter Tryz.func24, Tryz.ntmps24
                go_wp2_with fail
                go_ret
                exact ⟨rfl, rfl⟩
              · have d6 : (s.toList == [38]) = false := text_ne h6
                by_cases h7 : s = { data := #[61] }
                · subst h7
                  clear h0 d0 h1 d1 h2 d2 h3 d3 h4 d4 h5 d5 h6 d6
                  go_enter Tryz.func24, Tryz.ntmps24
                  go_wp2_with fail
                  go_ret
                  exact ⟨rfl, rfl⟩
                · have d7 : (s.toList == [61]) = false := text_ne h7
                  by_cases h8 : s = { data := #[60, 62] }
                  · subst h8
                    clear h0 d0 h1 d1 h2 d2 h3 d3 h4 d4 h5 d5 h6 d6 h7 d7
                    go_enter Tryz.func24, Tryz.ntmps24
                    go_wp2_with fail
                    go_ret
                    exact ⟨rfl, rfl⟩
                  · have d8 : (s.toList == [60, 62]) = false := text_ne h8
                    by_cases h9 : s = { data := #[60] }
                    · subst h9
                      clear h0 d0 h1 d1 h2 d2 h3 d3 h4 d4 h5 d5 h6 d6 h7 d7 h8 d8
                      go_enter Tryz.func24, Tryz.ntmps24
                      go_wp2_with fail
                      go_ret
                      exact ⟨rfl, rfl⟩
                    · have d9 : (s.toList == [60]) = false := text_ne h9
                      by_cases h10 : s = { data := #[60, 61] }
                      · subst h10
                        clear h0 d0 h1 d1 h2 d2 h3 d3 h4 d4 h5 d5 h6 d6 h7 d7 h8 d8 h9 d9
                        go_enter Tryz.func24, Tryz.ntmps24
                        go_wp2_with fail
                        go_ret
                        exact ⟨rfl, rfl⟩
                      · have d10 : (s.toList == [60, 61]) = false := text_ne h10
                        by_cases h11 : s = { data := #[62] }
                        · subst h11
                          clear h0 d0 h1 d1 h2 d2 h3 d3 h4 d4 h5 d5 h6 d6 h7 d7 h8 d8 h9 d9 h10 d10
                          go_enter Tryz.func24, Tryz.ntmps24
                          go_wp2_with fail
                          go_ret
                          exact ⟨rfl, rfl⟩
                        · have d11 : (s.toList == [62]) = false := text_ne h11
                          by_cases h12 : s = { data := #[62, 61] }
                          · subst h12
                            clear h0 d0 h1 d1 h2 d2 h3 d3 h4 d4 h5 d5 h6 d6 h7 d7 h8 d8 h9 d9 h10 d10 h11 d11
                            go_enter Tryz.func24, Tryz.ntmps24
                            go_wp2_with fail
                            go_ret
                            exact ⟨rfl, rfl⟩
                          · have d12 : (s.toList == [62, 61]) = false := text_ne h12
                            have E : Hid (opRow s.data.toList = 0) := Lib.hid (by
                              rw [opRow_toList]
                              unfold opRow
                              have g0 : ¬ s.toList = [94] := fun h => by rw [h] at d0; revert d0; decide
                              have g1 : ¬ s.toList = [42] := fun h => by rw [h] at d1; revert d1; decide
                              have g2 : ¬ s.toList = [47] := fun h => by rw [h] at d2; revert d2; decide
                              have g3 : ¬ s.toList = [37] := fun h => by rw [h] at d3; revert d3; decide
                              have g4 : ¬ s.toList = [43] := fun h => by rw [h] at d4; revert d4; decide
                              have g5 : ¬ s.toList = [45] := fun h => by rw [h] at d5; revert d5; decide
                              have g6 : ¬ s.toList = [38] := fun h => by rw [h] at d6; revert d6; decide
                              have g7 : ¬ s.toList = [61] := fun h => by rw [h] at d7; revert d7; decide
                              have g8 : ¬ s.toList = [60, 62] := fun h => by rw [h] at d8; revert d8; decide
                              have g9 : ¬ s.toList = [60] := fun h => by rw [h] at d9; revert d9; decide
                              have g10 : ¬ s.toList = [60, 61] := fun h => by rw [h] at d10; revert d10; decide
                              have g11 : ¬ s.toList = [62] := fun h => by rw [h] at d11; revert d11; decide
                              have g12 : ¬ s.toList = [62, 61] := fun h => by rw [h] at d12; revert d12; decide
                              rw [if_neg g0, if_neg (by simp only [g1, g2, g3, or_self, not_false_eq_true]), if_neg (by simp only [g4, g5, g6, or_self, not_false_eq_true]), if_neg (by simp only [g7, g8, g9, g10, g11, g12, or_self, not_false_eq_true])])
                            clear h0 h1 h2 h3 h4 h5 h6 h7 h8 h9 h10 h11 h12
                            go_enter Tryz.func24, Tryz.ntmps24
                            go_wp2_with fail
                            go_ret
                            exact ⟨by rw [E.out]; rfl, rfl⟩

set_option maxRecDepth 100000 in
set_option maxHeartbeats 2000000 in
theorem crow (f : Fld) (A : Option Addr) (m c : Nat) (w : World) : Calls Tryz.prog 12 #[.agg #[.int .i64 f.k, .int .i64 f.vk, .int .i64 f.vn, .string f.vs, .int .i64 f.r1, .int .i64 f.r2, .int .i64 f.r3, .int .i64 f.r4, .string f.op, .slice A m c]] w fun e w' => e = .returned (.int .i64 (rowK f : Nat)) ∧ Below w.heap.size w w' := by
  have hb1 : Below w.heap.size w (w.alloc (.cells #[.int .i64 f.k, .int .i64 f.vk, .int .i64 f.vn, .string f.vs, .int .i64 f.r1, .int .i64 f.r2, .int .i64 f.r3, .int .i64 f.r4, .string f.op, .slice A m c] 30)) := (Below.refl _ _).alloc (Nat.le_refl _) _
  by_cases h1 : f.k = 1
  · have E : Hid (rowK f = 6) := Lib.hid (by unfold rowK; simp [h1])
    have e1 : (f.k == 1) = true := beq_iff_eq.2 h1
    have e2 : (f.k == 2) = false := beq_eq_false_iff_ne.2 (by omega)
    have e3 : (f.k == 3) = false := beq_eq_false_iff_ne.2 (by omega)
    have e6 : (f.k == 6) = false := beq_eq_false_iff_ne.2 (by omega)
    have e4 : (f.k == 4) = false := beq_eq_false_iff_ne.2 (by omega)
    have e5 : (f.k == 5) = false := beq_eq_false_iff_ne.2 (by omega)
    clear h1
    go_enter Tryz.func12, Tryz.ntmps12
    go_wp2_with fail
    go_ret
    exact ⟨by rw [E.out]; rfl, hb1⟩
  · have e1 : (f.k == 1) = false := beq_eq_false_iff_ne.2 h1
    by_cases h2 : f.k = 2
    · have E : Hid (rowK f = 6) := Lib.hid (by unfold rowK; simp [h2])
      have e2 : (f.k == 2) = true := beq_iff_eq.2 h2
      have e3 : (f.k == 3) = false := beq_eq_false_iff_ne.2 (by omega)
      have e6 : (f.k == 6) = false := beq_eq_false_iff_ne.2 (by omega)
      have e4 : (f.k == 4) = false := beq_eq_false_iff_ne.2 (by omega)
      have e5 : (f.k == 5) = false := beq_eq_false_iff_ne.2 (by omega)
      clear h1 h2
      go_enter Tryz.func12, Tryz.ntmps12
      go_wp2_with fail
      go_ret
      exact ⟨by rw [E.out]; rfl, hb1⟩
    · have e2 : (f.k == 2) = false := beq_eq_false_iff_ne.2 h2
      by_cases h3 : f.k = 3
      · have E : Hid (rowK f = 6) := Lib.hid (by unfold rowK; simp [h3])
        have e3 : (f.k == 3) = true := beq_iff_eq.2 h3
        have e6 : (f.k == 6) = false := beq_eq_false_iff_ne.2 (by omega)
        have e4 : (f.k == 4) = false := beq_eq_false_iff_ne.2 (by omega)
        have e5 : (f.k == 5) = false := beq_eq_false_iff_ne.2 (by omega)
        clear h1 h2 h3
        go_enter Tryz.func12, Tryz.ntmps12
        go_wp2_with fail
        go_ret
        exact ⟨by rw [E.out]; rfl, hb1⟩
      · have e3 : (f.k == 3) = false := beq_eq_false_iff_ne.2 h3
        by_cases h6 : f.k = 6
        · have E : Hid (rowK f = 6) := Lib.hid (by unfold rowK; simp [h6])
          have e6 : (f.k == 6) = true := beq_iff_eq.2 h6
          have e4 : (f.k == 4) = false := beq_eq_false_iff_ne.2 (by omega)
          have e5 : (f.k == 5) = false := beq_eq_false_iff_ne.2 (by omega)
          clear h1 h2 h3 h6
          go_enter Tryz.func12, Tryz.ntmps12
          go_wp2_with fail
          go_ret
          exact ⟨by rw [E.out]; rfl, hb1⟩
        · have e6 : (f.k == 6) = false := beq_eq_false_iff_ne.2 h6
          by_cases h4 : f.k = 4
          · have E : Hid (rowK f = 5) := Lib.hid (by unfold rowK; simp [h4])
            have e4 : (f.k == 4) = true := beq_iff_eq.2 h4
            have e5 : (f.k == 5) = false := beq_eq_false_iff_ne.2 (by omega)
            clear h1 h2 h3 h6 h4
            go_enter Tryz.func12, Tryz.ntmps12
            go_wp2_with fail
            go_ret
            exact ⟨by rw [E.out]; rfl, hb1⟩
          · have e4 : (f.k == 4) = false := beq_eq_false_iff_ne.2 h4
            by_cases h5 : f.k = 5
            · have E : Hid (rowK f = opRow f.op.data.toList) := Lib.hid (by unfold rowK; simp [h5])
              have e5 : (f.k == 5) = true := beq_iff_eq.2 h5
              clear h1 h2 h3 h6 h4 h5
              go_enter Tryz.func12, Tryz.ntmps12
              go_wp2_with fail
              refine (csignRow f.op _).mono ?_; rintro e w2 ⟨rfl, rfl⟩
              go_wp2_with fail
              go_ret
              exact ⟨by rw [E.out]; rfl, hb1⟩
            · have e5 : (f.k == 5) = false := beq_eq_false_iff_ne.2 h5
              have E : Hid (rowK f = 0) := Lib.hid (by unfold rowK; simp [h1, h2, h3, h6, h4, h5])
              clear h1 h2 h3 h6 h4 h5
              go_enter Tryz.func12, Tryz.ntmps12
              go_wp2_with fail
              go_ret
              exact ⟨by rw [E.out]; rfl, hb1⟩

set_option maxRecDepth 100000 in
set_option maxHeartbeats 2000000 in
theorem cleast (r : Nat) (h : 1 ≤ r ∧ r ≤ 4) (w : World) : Calls Tryz.prog 38 #[.int .i64 r] w fun e w' => e = .returned (.tuple #[.int .i64 (lo1 r : Nat), .int .i64 (lo2 r : Nat)]) ∧ w = w' := by
  have hr : r = 1 ∨ r = 2 ∨ r = 3 ∨ r = 4 := by omega
  clear h
  rcases hr with rfl | rfl | rfl | rfl <;>
  ( go_enter Tryz.func38, Tryz.ntmps38
    go_wp2_with fail
    go_ret2
    exact ⟨rfl, rfl⟩ )

set_option maxRecDepth 100000 in
set_option maxHeartbeats 2000000 in
theorem cshow_int (a : ValueC.Val) (w : World) (hg : ValueC.goodB a = true) (h2 : a.k = 2) (hn : I64 a.n) (hl : LibIs w) :
    Calls Tryz.prog 57 #[.agg #[.int .i64 a.k, .int .i64 a.n, .string a.s]] w fun e w' => e = .returned (.string (str (Lib.itoa a.n))) ∧ Below w.heap.size w w' := by
  have G := Lib.hid hg
  have k2 : (a.k == 2) = true := beq_iff_eq.2 h2
  have hn1 := Lib.hid hn
  have HL := Lib.hid hl
  clear hg h2 hn hl
  go_enter Tryz.func57, Tryz.ntmps57
  go_wp2_with fail
  refine (ValueC.good _ _).mono ?_; rw [G.out]; rintro e w1 ⟨rfl, hb1⟩
  obtain ⟨hc, hf⟩ := bcell hb1
  have hz := size_of hb1
  have hB := below_of hb1
  go_wp2_with fail
  refine (dec _ _ hn1.out (HL.out.below (below_of hb1))).mono ?_; rintro e w2 ⟨rfl, hb2⟩
  replace hB := hB.trans (hb2.mono hB.size)
  go_wp2
  go_ret
  refine ⟨rfl, ?_⟩
  repeat (first | with_reducible exact hB | with_reducible refine Below.setCell ?_ (by first | omega | (simp <;> omega)) _ | with_reducible refine Below.alloc ?_ (by first | omega | (simp <;> omega)) _)

set_option maxRecDepth 100000 in
set_option maxHeartbeats 2000000 in
theorem cshow_no (a : ValueC.Val) (w : World) (hg : ValueC.goodB a = true) (h1 : a.k = 1) (n0 : a.n = 0) :
    Calls Tryz.prog 57 #[.agg #[.int .i64 a.k, .int .i64 a.n, .string a.s]] w fun e w' => e = .returned (.string (str (falT))) ∧ Below w.heap.size w w' := by
  have G := Lib.hid hg
  have k2 : (a.k == 2) = false := beq_eq_false_iff_ne.2 (by omega)
  have k4 : (a.k == 4) = false := beq_eq_false_iff_ne.2 (by omega)
  have k1 : (a.k == 1) = true := beq_iff_eq.2 h1
  have m0 : (a.n == 0) = true := beq_iff_eq.2 n0
  clear hg h1 n0
  go_enter Tryz.func57, Tryz.ntmps57
  go_wp2_with fail
  refine (ValueC.good _ _).mono ?_; rw [G.out]; rintro e w1 ⟨rfl, hb1⟩
  obtain ⟨hc, hf⟩ := bcell hb1
  have hz := size_of hb1
  have hB := below_of hb1
  go_wp2_with fail
  go_ret
  refine ⟨rfl, ?_⟩
  repeat (first | with_reducible exact hB | with_reducible refine Below.setCell ?_ (by first | omega | (simp <;> omega)) _ | with_reducible refine Below.alloc ?_ (by first | omega | (simp <;> omega)) _)

set_option maxRecDepth 100000 in
set_option maxHeartbeats 2000000 in
theorem cshow_yes (a : ValueC.Val) (w : World) (hg : ValueC.goodB a = true) (h1 : a.k = 1) (n0 : a.n ≠ 0) :
    Calls Tryz.prog 57 #[.agg #[.int .i64 a.k, .int .i64 a.n, .string a.s]] w fun e w' => e = .returned (.string (str (truT))) ∧ Below w.heap.size w w' := by
  have G := Lib.hid hg
  have k2 : (a.k == 2) = false := beq_eq_false_iff_ne.2 (by omega)
  have k4 : (a.k == 4) = false := beq_eq_false_iff_ne.2 (by omega)
  have k1 : (a.k == 1) = true := beq_iff_eq.2 h1
  have m0 : (a.n == 0) = false := beq_eq_false_iff_ne.2 n0
  clear hg h1 n0
  go_enter Tryz.func57, Tryz.ntmps57
  go_wp2_with fail
  refine (ValueC.good _ _).mono ?_; rw [G.out]; rintro e w1 ⟨rfl, hb1⟩
  obtain ⟨hc, hf⟩ := bcell hb1
  have hz := size_of hb1
  have hB := below_of hb1
  go_wp2_with fail
  go_ret
  refine ⟨rfl, ?_⟩
  repeat (first | with_reducible exact hB | with_reducible refine Below.setCell ?_ (by first | omega | (simp <;> omega)) _ | with_reducible refine Below.alloc ?_ (by first | omega | (simp <;> omega)) _)

set_option maxRecDepth 100000 in
set_option maxHeartbeats 2000000 in
theorem cconst (vk vn : Int) (vs : ByteArray) (w : World) (h : constB vk vn vs = true) (hn : vn ≤ 9223372036854775807) (hl : LexLib w) :
    Calls Tryz.prog 35 #[.agg #[.int .i64 vk, .int .i64 vn, .string vs]] w fun e w' => e = .returned (.string (str (constT vk vn vs))) ∧ Below w.heap.size w w' := by
  have hb1 : Below w.heap.size w (w.alloc (.cells #[.int .i64 vk, .int .i64 vn, .string vs] 23)) := (Below.refl _ _).alloc (Nat.le_refl _) _
  have HL := Lib.hid (hl.below hb1)
  have hs : constB vk vn vs = true → (vk = 3 ∧ vs.size ≤ 200) ∨ (vk = 2 ∧ 0 ≤ vn ∧ ValueC.goodB ⟨vk, vn, vs⟩ = true) ∨ (vk = 1 ∧ ValueC.goodB ⟨vk, vn, vs⟩ = true) := fun h => by
    unfold constB at h
    split at h
    · rename_i h2
      rw [Bool.and_eq_true] at h
      exact Or.inr (Or.inl ⟨h2, of_decide_eq_true h.2, h.1⟩)
    · split at h
      · rename_i h3
        have hg : ValueC.GoodP ⟨vk, vn, vs⟩ := of_decide_eq_true h
        rcases h3 with rfl | rfl
        · unfold ValueC.GoodP at hg; simp only at hg; exact Or.inl ⟨rfl, by omega⟩
        · exact Or.inr (Or.inr ⟨rfl, h⟩)
      · cases h
  rcases hs h with ⟨h3, hsz⟩ | ⟨h2, h0, hg⟩ | ⟨h1, hg⟩
  · have E : Hid (constT vk vn vs = quL vs.data.toList) := Lib.hid (by unfold constT; rw [if_pos h3])
    have k3 : (vk == 3) = true := beq_iff_eq.2 h3
    clear h hs h3 hn hl
    go_enter Tryz.func35, Tryz.ntmps35
    go_wp2_with fail
    refine (quote vs _ (by omega) HL.out).mono ?_; rintro e w2 ⟨rfl, hb2⟩
    go_wp2_with fail
    go_ret
    exact ⟨by rw [E.out]; rfl, hb1.trans (hb2.mono hb1.size)⟩
  · have E : Hid (constT vk vn vs = Lib.itoa vn) := Lib.hid (by unfold constT; rw [if_neg (by omega), if_neg (by omega)])
    have k3 : (vk == 3) = false := beq_eq_false_iff_ne.2 (by omega)
    have hi : I64 vn := by unfold I64; omega
    have HC := Lib.hid (cshow_int ⟨vk, vn, vs⟩ _ hg h2 hi HL.out.lib)
    clear h hs h2 h0 hg hn hl hi
    go_enter Tryz.func35, Tryz.ntmps35
    go_wp2_with fail
    refine HC.out.mono ?_; rintro e w2 ⟨rfl, hb2⟩
    go_wp2_with fail
    go_ret
    exact ⟨by rw [E.out]; rfl, hb1.trans (hb2.mono hb1.size)⟩
  · have k3 : (vk == 3) = false := beq_eq_false_iff_ne.2 (by omega)
    by_cases hz : vn = 0
    · have E : Hid (constT vk vn vs = falT) := Lib.hid (by unfold constT; rw [if_neg (by omega), if_pos h1, if_pos hz])
      have HC := Lib.hid (cshow_no ⟨vk, vn, vs⟩ (w.alloc (.cells #[.int .i64 vk, .int .i64 vn, .string vs] 23)) hg h1 hz)
      clear h hs h1 hg hn hl hz
      go_enter Tryz.func35, Tryz.ntmps35
      go_wp2_with fail
      refine HC.out.mono ?_; rintro e w2 ⟨rfl, hb2⟩
      go_wp2_with fail
      go_ret
      exact ⟨by rw [E.out]; rfl, hb1.trans (hb2.mono hb1.size)⟩
    · have E : Hid (constT vk vn vs = truT) := Lib.hid (by unfold constT; rw [if_neg (by omega), if_pos h1, if_neg hz])
      have HC := Lib.hid (cshow_yes ⟨vk, vn, vs⟩ (w.alloc (.cells #[.int .i64 vk, .int .i64 vn, .string vs] 23)) hg h1 hz)
      clear h hs h1 hg hn hl hz
      go_enter Tryz.func35, Tryz.ntmps35
      go_wp2_with fail
      refine HC.out.mono ?_; rintro e w2 ⟨rfl, hb2⟩
      go_wp2_with fail
      go_ret
      exact ⟨by rw [E.out]; rfl, hb1.trans (hb2.mono hb1.size)⟩
end Go.Proofs.YtbgjdfghcnblcaaGreatDoor.PrintC

/-
  Plain facts on formulas as texts: how long a text is.
-/
namespace Go.Proofs.YtbgjdfghcnblcaaGreatDoor.PrintC
set_option linter.unusedVariables false
open Go.Proofs.YtbgjdfghcnblcaaGreatDoor.NumC Go.Proofs.YtbgjdfghcnblcaaGreatDoor.LexC Go.Proofs.YtbgjdfghcnblcaaGreatDoor.TreeC

theorem join_len : ∀ l : List (List UInt8), (joinT l).length ≤ (l.map List.length).sum + l.length
  | [] => by simp [joinT]
  | [x] => by simp [joinT]
  | x :: y :: r => by
    have := join_len (y :: r)
    rw [joinT_cons]
    simp only [List.length_append, List.length_cons, List.map_cons, List.sum_cons] at this ⊢
    omega
theorem close_len (x : List UInt8 × Nat) (least : Nat) : (closeT x least).length ≤ x.1.length + 2 := by
  unfold closeT
  split <;> simp
theorem name_len {r c : Int} (h : AddrC.Cell r c) : (AddrC.nameL r c).length ≤ 22 := by
  rw [AddrC.nameL_cell h, List.length_append, AddrC.colL_len]
  have := (itoa_len (AddrC.cell_i64 h)).2
  split <;> omega
theorem bin_len {o : List UInt8} (h : binS o = true) : o.length ≤ 2 := by
  rcases bin_cases h with rfl | rfl | rfl | rfl | rfl | rfl | rfl | rfl | rfl | rfl | rfl | rfl | rfl <;> decide
theorem texts_length : ∀ x : Fo, (texts x).length = x.len := by
  intro x
  induction x with
  | nil => rfl
  | cons f k n _ ih => simp [texts, Fo.len, ih]
def tsum (l : List (List UInt8 × Nat)) : Nat := (l.map (·.1.length)).sum
theorem text_lens : ∀ (x : Fo), x.all fitsB = true → x.all wideB = true → tsum (texts x) ≤ 500 * x.size
  | .nil, _, _ => by simp [texts, tsum]
  | .cons f k n, h, h2 => by
    simp only [Fo.all, Bool.and_eq_true] at h h2
    obtain ⟨⟨hk, hf⟩, hn⟩ := h
    obtain ⟨⟨gk, gf⟩, gn⟩ := h2
    have ih1 := text_lens k hk gk
    have ih2 := text_lens n hn gn
    have hs := shape_of hf
    have hw : f.vn ≤ 9223372036854775807 := of_decide_eq_true gf
    have hl1 := texts_length k
    have key : (nodeT f (texts k)).length ≤ 500 + tsum (texts k) := by
      clear hf gf ih1 ih2
      generalize hm : k.len = m at *
      generalize texts k = ts at *
      cases hs with
      | int n h0 =>
        show (Lib.itoa n).length ≤ _
        have := (itoa_len (n := n) (by unfold I64; simp only at hw; omega)).2
        omega
      | text s hs =>
        show (quL s.data.toList).length ≤ _
        have := quB_len s.data.toList
        have e := list_len s
        unfold quL
        simp only [List.length_append, List.length_cons, List.length_nil]
        omega
      | yes => show truT.length ≤ _; have : truT.length = 4 := rfl; omega
      | no => show falT.length ≤ _; have : falT.length = 5 := rfl; omega
      | cell r c hc => show (AddrC.nameL r c).length ≤ _; have := name_len hc; omega
      | range a b c d hc =>
        show (AddrC.nameL a b ++ 58 :: AddrC.nameL c d).length ≤ _
        have h1 := name_len hc.1
        have h2 := name_len hc.2.1
        simp only [List.length_append, List.length_cons]
        omega
      | neg =>
        rw [nodeT_neg]
        match ts, hl1 with
        | [x], _ =>
          have := close_len x 5
          simp only [fst0, List.headD_cons, List.length_cons, tsum, List.map_cons, List.map_nil, List.sum_cons, List.sum_nil]
          omega
      | bin o ho =>
        rw [nodeT_bin]
        match ts, hl1 with
        | [x, y], _ =>
          have h1 := close_len x (lo1 (opRow o))
          have h2 := close_len y (lo2 (opRow o))
          have h3 := bin_len ho
          simp only [fst0, snd0, List.headD_cons, List.tail_cons, List.length_append, tsum, List.map_cons, List.map_nil, List.sum_cons, List.sum_nil]
          omega
      | call o ho h8 m hm2 =>
        rw [nodeT_call]
        have h1 := join_len (ts.map (·.1))
        have e : ((ts.map (·.1)).map List.length).sum = tsum ts := by unfold tsum; rw [List.map_map]; rfl
        rw [e, List.length_map] at h1
        simp only [List.length_append, List.length_cons, List.length_nil]
        omega
    have e1 : tsum (texts (.cons f k n)) = (nodeT f (texts k)).length + tsum (texts n) := by simp [texts, tsum]
    have e2 : (Fo.cons f k n).size = 1 + k.size + n.size := rfl
    rw [e1, e2]
    omega
theorem text_len (a : Nd) (h : a.all fitsB = true) (h2 : a.all wideB = true) : (textN a).length ≤ 500 * a.size := by
  have := text_lens (.cons a.f a.kids .nil) (by simpa [Fo.all, Nd.all] using h) (by simpa [Fo.all, Nd.all] using h2)
  simpa [texts, tsum, textN, Fo.size, Nd.size] using this
/-- The i-th node's text. -/
theorem texts_nth : ∀ (x : Fo) (i : Nat), i < x.len → (texts x)[i]? = some (textN (x.nth i), rowN (x.nth i))
  | .nil, i, h => by simp [Fo.len] at h
  | .cons f k n, 0, h => rfl
  | .cons f k n, i + 1, h => by
    have := texts_nth n i (by simpa [Fo.len] using h)
    simpa [texts, Fo.nth] using this
/-- What Text tells. -/
structure TRes where
  s : List UInt8
  err : Int
def goodN (a : Nd) : Bool := goodT fitsB a
def textR (a : Nd) : TRes := if goodN a = false then ⟨[], 11⟩ else if 300 < (textN a).length then ⟨[], 2⟩ else ⟨textN a, 0⟩
theorem textR_no {a : Nd} (h : goodN a = false) : textR a = ⟨[], 11⟩ := if_pos h
theorem textR_long {a : Nd} (h : goodN a = true) (h2 : 300 < (textN a).length) : textR a = ⟨[], 2⟩ := by unfold textR; rw [if_neg (by rw [h]; decide), if_pos h2]
theorem textR_ok {a : Nd} (h : goodN a = true) (h2 : ¬ 300 < (textN a).length) : textR a = ⟨textN a, 0⟩ := by unfold textR; rw [if_neg (by rw [h]; decide), if_neg h2]
theorem good_parts {a : Nd} (h : goodN a = true) : a.size ≤ 2000 ∧ a.deep ≤ 16 ∧ a.all fitsB = true := by
  unfold goodN goodT at h
  simp only [Bool.and_eq_true, decide_eq_true_eq] at h
  exact ⟨h.1.1, h.1.2, h.2⟩
theorem textR_zero {a : Nd} (h : (textR a).err = 0) : goodN a = true ∧ (textN a).length ≤ 300 ∧ (textR a).s = textN a := by
  cases hg : goodN a with
  | false => rw [textR_no hg] at h; exact absurd h (by decide)
  | true =>
    by_cases h2 : 300 < (textN a).length
    · rw [textR_long hg h2] at h; exact absurd h (by decide)
    · rw [textR_ok hg h2]; exact ⟨rfl, by omega, rfl⟩
end Go.Proofs.YtbgjdfghcnblcaaGreatDoor.PrintC
