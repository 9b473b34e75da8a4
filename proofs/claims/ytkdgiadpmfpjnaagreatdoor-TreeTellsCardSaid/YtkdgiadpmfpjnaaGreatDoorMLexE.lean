/-
  Contracts of lex's reference: next.
-/
import Derived.Test.YtkdgiadpmfpjnaaGreatDoorMLexB
import Derived.IntWalk
namespace Go.Proofs.YtkdgiadpmfpjnaaGreatDoor.LexC
set_option linter.unusedVariables false
open Go.RowKit Go.Proofs.YtkdgiadpmfpjnaaGreatDoor.NumC

theorem two_str (s : ByteArray) (k : Nat) (h : k + 1 < s.size) : s.extract k (k + 2) = str [s[k], s[k + 1]] := by
  apply ByteArray.ext
  apply Array.toList_inj.1
  rw [Lib.extract_data, show k + 2 - k = 2 from by omega, List.drop_eq_getElem_cons (by rw [← list_len]; omega), List.drop_eq_getElem_cons (by rw [← list_len]; exact h)]
  rfl
theorem heap_one (w : World) (o : Obj) : (w.alloc o).heap.size = w.heap.size + 1 := by simp
theorem str_list (l : List UInt8) : (str l).toList = l := by rw [Lib.toList_data]; rfl
/-- A sign. -/
def signS (m : Nat) : ByteArray := str (signL.getD m [])
theorem signS_at {x : List UInt8} (h : signI x < 17) : signS (signI x) = str x := by unfold signS; rw [signI_at h]
theorem sign_yes {s : ByteArray} {i k : Nat} {x : List UInt8} (e : s.extract i k = str x) (h : signI x < 17) : ((signS (signI x)).toList == (s.extract i k).toList) = true := by
  rw [e, signS_at h]; exact beq_self_eq_true _
theorem sign_no {s : ByteArray} {i k m : Nat} {x : List UInt8} (e : s.extract i k = str x) (h : m < signI x) : ((signS m).toList == (s.extract i k).toList) = false := by
  unfold signS; rw [e, str_list, str_list]; exact beq_eq_false_iff_ne.2 (signI_lt h)
theorem signs_there {W wr : World} (h : Below (W.alloc (.cells signCells 9)).heap.size (W.alloc (.cells signCells 9)) wr) {m : Nat} (hm : m < 17) : wr.cell? ⟨W.heap.size, m, none⟩ = some (.string (signS m)) := by
  refine cell_later h ?_
  have := signs_cell m hm
  unfold signS
  rw [World.cell?_alloc_mark]; exact this

set_option maxRecDepth 100000 in
set_option maxHeartbeats 4000000 in
theorem rnext_two (s : ByteArray) (i : Nat) (w : World) (hs : s.size ≤ 1000000) (hi : i < s.size) (hd : digB s[i] = false) (hl : letB s[i] = false) (hc : s[i].toNat ≠ 34) (h2 : i + 1 < s.size) (h3 : signI [s[i], s[i + 1]] < 17) :
    Calls Tryz.prog 39 #[.string s, .int .i64 i] w fun e w' => e = .returned (.tuple #[tokV (nextR s.data.toList i).1, .int .i64 (nextR s.data.toList i).2]) ∧ Below w.heap.size w w' := by
  have hll : i < s.data.toList.length := by rw [← list_len]; exact hi
  have HD := Lib.hid hd; have HL := Lib.hid hl
  have h34 : s.data.toList[i] ≠ 34 := fun e => hc (by have : s[i] = 34 := e; rw [this]; rfl)
  have c1 : ((s[i].toNat : Int) == 34) = false := beq_eq_false_iff_ne.2 (by omega)
  have E := Lib.hid (next_two (l := s.data.toList) (i := i) (by rw [← list_len]; exact h2) hd hl h34 h3)
  have EX := two_str s i h2
  have ST : ∀ wr, Below ((w.alloc (.cells #[.int .i64 0, .int .i64 0, .string { data := #[] }, .int .i64 0] 71)).alloc (.cells signCells 9)).heap.size ((w.alloc (.cells #[.int .i64 0, .int .i64 0, .string { data := #[] }, .int .i64 0] 71)).alloc (.cells signCells 9)) wr → ∀ m, m < 17 → wr.cell? ⟨w.heap.size + 1, m, none⟩ = some (.string (signS m)) := fun wr hb m hm => by have := signs_there (W := w.alloc (.cells #[.int .i64 0, .int .i64 0, .string { data := #[] }, .int .i64 0] 71)) hb hm; rwa [heap_one] at this
  have SY := sign_yes EX h3
  have SN := fun m hm => sign_no (m := m) EX hm
  have HST := Lib.hid ST; have HSY := Lib.hid SY; have HSN := Lib.hid SN; have H3 := Lib.hid h3
  have HEX := Lib.hid EX
  have HAT := Lib.hid (signS_at h3)
  have v1 : IntKind.i64.wrap ((i : Int) + 2) = (i : Int) + 2 := IntWalk.i64_in _ (by omega)
  have v2 : ((i : Int) + 2).toNat = i + 2 := by omega
  clear hd hl h34 hc ST SY SN EX
  go_enter Tryz.func39, Tryz.ntmps39
  go_wp2_with fail
  refine (rdigit s[i] _).mono ?_; rw [HD.out]; rintro e w' ⟨rfl, rfl⟩
  go_wp2_with fail
  refine (rletter s[i] _).mono ?_; rw [HL.out]; rintro e w' ⟨rfl, rfl⟩
  go_wp2_with fail
  refine wp_loop_rounds 4 ?_
  rw [rounds_succ]
  go_wp2_with fail
  refine (rsigns _).mono ?_; rintro e w' ⟨rfl, rfl⟩
  go_wp2_with fail
  go_loopw [10] (fun a wr => ∃ m : Nat, m ≤ signI [s[i], s[i + 1]] ∧ a = .int .i64 m ∧ Below ((w.alloc (.cells #[.int .i64 0, .int .i64 0, .string { data := #[] }, .int .i64 0] 71)).alloc (.cells signCells 9)).heap.size ((w.alloc (.cells #[.int .i64 0, .int .i64 0, .string { data := #[] }, .int .i64 0] 71)).alloc (.cells signCells 9)) wr) (fun a _ => 17 - (intOf a).toNat)
  case atStart => exact ⟨0, Nat.zero_le _, rfl, Below.refl _ _⟩
  case round =>
    obtain ⟨m, hm, rfl, hw⟩ := hrel
    have hm17 := signI_le [s[i], s[i + 1]]
    by_cases he : m = signI [s[i], s[i + 1]]
    · have hlt : m < 17 := by rw [he]; exact H3.out
      have f0 := HST.out wr hw m hlt
      have t1 : ((signS m).toList == (s.extract i (i + 2)).toList) = true := by rw [he]; exact HSY.out
      have HE : Hid (signS m = str [s[i], s[i + 1]]) := Lib.hid (by rw [he, HAT.out])
      clear he
      obtain ⟨hc, hf⟩ := bcell hw
      have r0 : wr.cell? ⟨w.heap.size, 0, none⟩ = some (.int .i64 0) := by rw [hc _ _ (by simp <;> omega)]; simp [go_sem]
      have z0 : wr.frozen? ⟨w.heap.size, 0, none⟩ = false := by rw [hf _ _ (by simp <;> omega)]; simp [go_sem]
      have r1 : wr.cell? ⟨w.heap.size, 1, none⟩ = some (.int .i64 0) := by rw [hc _ _ (by simp <;> omega)]; simp [go_sem]
      have z1 : wr.frozen? ⟨w.heap.size, 1, none⟩ = false := by rw [hf _ _ (by simp <;> omega)]; simp [go_sem]
      have r2 : wr.cell? ⟨w.heap.size, 2, none⟩ = some (.string { data := #[] }) := by rw [hc _ _ (by simp <;> omega)]; simp [go_sem]
      have z2 : wr.frozen? ⟨w.heap.size, 2, none⟩ = false := by rw [hf _ _ (by simp <;> omega)]; simp [go_sem]
      have r3 : wr.cell? ⟨w.heap.size, 3, none⟩ = some (.int .i64 0) := by rw [hc _ _ (by simp <;> omega)]; simp [go_sem]
      have z3 : wr.frozen? ⟨w.heap.size, 3, none⟩ = false := by rw [hf _ _ (by simp <;> omega)]; simp [go_sem]
      have hB := below_of (below_of hw)
      clear hc hf
      go_wp2_with fail
      go_quiet (fail)
      go_wp2
      refine bodyPost_ret (v := .tuple #[.agg #[.int .i64 4, .int .i64 0, .string (signS m), .int .i64 i], .int .i64 2]) (by simp [results, Tryz.results39, go_sem, r0, r1, r2, r3]) rfl ⟨by rw [E.out, HE.out]; rfl, ?_⟩
      repeat (first | with_reducible exact hB | with_reducible exact below_drewN' hB _ | with_reducible refine Below.setCell ?_ (by first | omega | (simp <;> omega)) _ | with_reducible refine Below.alloc ?_ (by first | omega | (simp <;> omega)) _)
    · have hlt2 : m < signI [s[i], s[i + 1]] := by omega
      have hlt : m < 17 := by omega
      have f0 := HST.out wr hw m hlt
      have t1 : ((signS m).toList == (s.extract i (i + 2)).toList) = false := HSN.out m hlt2
      clear he
      go_wp2_with fail
      go_quiet (fail)
      go_wp2
      go_roundw
      case rel => exact ⟨m + 1, by omega, by go_num, below_drewN' hw _⟩
      case measure => simp [intOf]; omega

set_option maxRecDepth 100000 in
set_option maxHeartbeats 4000000 in
theorem rnext_one1 (s : ByteArray) (i : Nat) (w : World) (hs : s.size ≤ 1000000) (hi : i < s.size) (hd : digB s[i] = false) (hl : letB s[i] = false) (hc : s[i].toNat ≠ 34) (h2 : ¬ i + 1 < s.size) (h1 : signI [s[i]] < 17) :
    Calls Tryz.prog 39 #[.string s, .int .i64 i] w fun e w' => e = .returned (.tuple #[tokV (nextR s.data.toList i).1, .int .i64 (nextR s.data.toList i).2]) ∧ Below w.heap.size w w' := by
  have hll : i < s.data.toList.length := by rw [← list_len]; exact hi
  have HD := Lib.hid hd; have HL := Lib.hid hl
  have h34 : s.data.toList[i] ≠ 34 := fun e => hc (by have : s[i] = 34 := e; rw [this]; rfl)
  have c1 : ((s[i].toNat : Int) == 34) = false := beq_eq_false_iff_ne.2 (by omega)
  have E := Lib.hid (next_one (l := s.data.toList) (i := i) hll hd hl h34 (fun h => absurd (by rw [list_len]; exact h) h2) h1)
  have EX := one_str s i hi
  have HSN := Lib.hid (fun m hm => sign_no (m := m) EX hm)
  have H1 := Lib.hid h1
  have v1 : IntKind.i64.wrap ((i : Int) + 1) = (i : Int) + 1 := IntWalk.i64_in _ (by omega)
  have v2 : ((i : Int) + 1).toNat = i + 1 := by omega
  have HSY := Lib.hid (sign_yes EX h1)
  have HAT := Lib.hid (signS_at h1)
  clear hd hl h34 hc EX h1
  go_enter Tryz.func39, Tryz.ntmps39
  go_wp2_with fail
  refine (rdigit s[i] _).mono ?_; rw [HD.out]; rintro e w' ⟨rfl, rfl⟩
  go_wp2_with fail
  refine (rletter s[i] _).mono ?_; rw [HL.out]; rintro e w' ⟨rfl, rfl⟩
  go_wp2_with fail
  refine wp_loop_rounds 4 ?_
  rw [rounds_succ]
  go_wp2_with fail
  have hv := Below.refl (w.alloc (.cells #[.int .i64 0, .int .i64 0, .string { data := #[] }, .int .i64 0] 71)).heap.size (w.alloc (.cells #[.int .i64 0, .int .i64 0, .string { data := #[] }, .int .i64 0] 71))
  rw [rounds_succ]
  go_wp2_with fail
  refine (rsigns _).mono ?_; rintro e w' ⟨rfl, rfl⟩
  go_wp2_with fail
  go_loopw [10] (fun a w3 => ∃ m : Nat, m ≤ signI [s[i]] ∧ a = .int .i64 m ∧ Below ((w.alloc (.cells #[.int .i64 0, .int .i64 0, .string { data := #[] }, .int .i64 0] 71)).alloc (.cells signCells 9)).heap.size ((w.alloc (.cells #[.int .i64 0, .int .i64 0, .string { data := #[] }, .int .i64 0] 71)).alloc (.cells signCells 9)) w3) (fun a _ => 17 - (intOf a).toNat)
  case atStart => exact ⟨0, Nat.zero_le _, rfl, Below.refl _ _⟩
  case round =>
    obtain ⟨m2, hm2, rfl, hw2⟩ := hrel
    have hm17b := signI_le [s[i]]
    have hv3 := hv.trans ((below_of hw2).mono hv.size)
    by_cases he2 : m2 = signI [s[i]]
    · have hlt3 : m2 < 17 := by rw [he2]; exact H1.out
      have g0 := signs_there hw2 hlt3; rw [heap_one] at g0
      have t2 : ((signS m2).toList == (s.extract i (i + 1)).toList) = true := by rw [he2]; exact HSY.out
      have HE : Hid (signS m2 = str [s[i]]) := Lib.hid (by rw [he2, HAT.out])
      clear he2
      obtain ⟨hc, hf⟩ := bcell hv3
      have r0 : wr.cell? ⟨w.heap.size, 0, none⟩ = some (.int .i64 0) := by rw [hc _ _ (by simp <;> omega)]; simp [go_sem]
      have z0 : wr.frozen? ⟨w.heap.size, 0, none⟩ = false := by rw [hf _ _ (by simp <;> omega)]; simp [go_sem]
      have r1 : wr.cell? ⟨w.heap.size, 1, none⟩ = some (.int .i64 0) := by rw [hc _ _ (by simp <;> omega)]; simp [go_sem]
      have z1 : wr.frozen? ⟨w.heap.size, 1, none⟩ = false := by rw [hf _ _ (by simp <;> omega)]; simp [go_sem]
      have r2 : wr.cell? ⟨w.heap.size, 2, none⟩ = some (.string { data := #[] }) := by rw [hc _ _ (by simp <;> omega)]; simp [go_sem]
      have z2 : wr.frozen? ⟨w.heap.size, 2, none⟩ = false := by rw [hf _ _ (by simp <;> omega)]; simp [go_sem]
      have r3 : wr.cell? ⟨w.heap.size, 3, none⟩ = some (.int .i64 0) := by rw [hc _ _ (by simp <;> omega)]; simp [go_sem]
      have z3 : wr.frozen? ⟨w.heap.size, 3, none⟩ = false := by rw [hf _ _ (by simp <;> omega)]; simp [go_sem]
      have hB := below_of hv3
      clear hc hf
      go_wp2_with fail
      go_quiet (fail)
      go_wp2
      refine bodyPost_ret (v := .tuple #[.agg #[.int .i64 4, .int .i64 0, .string (signS m2), .int .i64 i], .int .i64 1]) (by simp [results, Tryz.results39, go_sem, r0, r1, r2, r3]) rfl ⟨by rw [E.out, HE.out]; rfl, ?_⟩
      repeat (first | with_reducible exact hB | with_reducible exact below_drewN' hB _ | with_reducible refine Below.setCell ?_ (by first | omega | (simp <;> omega)) _ | with_reducible refine Below.alloc ?_ (by first | omega | (simp <;> omega)) _)
    · have hlt4 : m2 < signI [s[i]] := by omega
      have hlt3 : m2 < 17 := by omega
      have g0 := signs_there hw2 hlt3; rw [heap_one] at g0
      have t2 : ((signS m2).toList == (s.extract i (i + 1)).toList) = false := HSN.out m2 hlt4
      clear he2
      go_wp2_with fail
      go_quiet (fail)
      go_wp2
      go_roundw
      case rel => exact ⟨m2 + 1, by omega, by go_num, below_drewN' hw2 _⟩
      case measure => simp [intOf]; omega

set_option maxRecDepth 100000 in
set_option maxHeartbeats 4000000 in
theorem rnext_one2 (s : ByteArray) (i : Nat) (w : World) (hs : s.size ≤ 1000000) (hi : i < s.size) (hd : digB s[i] = false) (hl : letB s[i] = false) (hc : s[i].toNat ≠ 34) (h2 : i + 1 < s.size) (h3 : ¬ signI [s[i], s[i + 1]] < 17) (h1 : signI [s[i]] < 17) :
    Calls Tryz.prog 39 #[.string s, .int .i64 i] w fun e w' => e = .returned (.tuple #[tokV (nextR s.data.toList i).1, .int .i64 (nextR s.data.toList i).2]) ∧ Below w.heap.size w w' := by
  have hll : i < s.data.toList.length := by rw [← list_len]; exact hi
  have HD := Lib.hid hd; have HL := Lib.hid hl
  have h34 : s.data.toList[i] ≠ 34 := fun e => hc (by have : s[i] = 34 := e; rw [this]; rfl)
  have c1 : ((s[i].toNat : Int) == 34) = false := beq_eq_false_iff_ne.2 (by omega)
  have E := Lib.hid (next_one (l := s.data.toList) (i := i) hll hd hl h34 (fun h => h3) h1)
  have EX := one_str s i hi
  have HSN := Lib.hid (fun m hm => sign_no (m := m) EX hm)
  have H1 := Lib.hid h1
  have v1 : IntKind.i64.wrap ((i : Int) + 1) = (i : Int) + 1 := IntWalk.i64_in _ (by omega)
  have v2 : ((i : Int) + 1).toNat = i + 1 := by omega
  have HSY := Lib.hid (sign_yes EX h1)
  have HAT := Lib.hid (signS_at h1)
  have EX2 := two_str s i h2
  have ST : ∀ wr, Below ((w.alloc (.cells #[.int .i64 0, .int .i64 0, .string { data := #[] }, .int .i64 0] 71)).alloc (.cells signCells 9)).heap.size ((w.alloc (.cells #[.int .i64 0, .int .i64 0, .string { data := #[] }, .int .i64 0] 71)).alloc (.cells signCells 9)) wr → ∀ m, m < 17 → wr.cell? ⟨w.heap.size + 1, m, none⟩ = some (.string (signS m)) := fun wr hb m hm => by have := signs_there (W := w.alloc (.cells #[.int .i64 0, .int .i64 0, .string { data := #[] }, .int .i64 0] 71)) hb hm; rwa [heap_one] at this
  have HST := Lib.hid ST
  have HSN2 := Lib.hid (fun m hm => sign_no (m := m) EX2 hm)
  have H3 := Lib.hid h3
  have v3 : IntKind.i64.wrap ((i : Int) + 2) = (i : Int) + 2 := IntWalk.i64_in _ (by omega)
  have v4 : ((i : Int) + 2).toNat = i + 2 := by omega
  clear ST EX2 h3
  clear hd hl h34 hc EX h1
  go_enter Tryz.func39, Tryz.ntmps39
  go_wp2_with fail
  refine (rdigit s[i] _).mono ?_; rw [HD.out]; rintro e w' ⟨rfl, rfl⟩
  go_wp2_with fail
  refine (rletter s[i] _).mono ?_; rw [HL.out]; rintro e w' ⟨rfl, rfl⟩
  go_wp2_with fail
  refine wp_loop_rounds 4 ?_
  rw [rounds_succ]
  go_wp2_with fail
  refine (rsigns _).mono ?_; rintro e w' ⟨rfl, rfl⟩
  go_wp2_with fail
  go_loopw [10] (fun a wr => ∃ m : Nat, m ≤ signI [s[i], s[i + 1]] ∧ a = .int .i64 m ∧ Below ((w.alloc (.cells #[.int .i64 0, .int .i64 0, .string { data := #[] }, .int .i64 0] 71)).alloc (.cells signCells 9)).heap.size ((w.alloc (.cells #[.int .i64 0, .int .i64 0, .string { data := #[] }, .int .i64 0] 71)).alloc (.cells signCells 9)) wr) (fun a _ => 17 - (intOf a).toNat)
  case atStart => exact ⟨0, Nat.zero_le _, rfl, Below.refl _ _⟩
  case round =>
    obtain ⟨m, hm, rfl, hw⟩ := hrel
    have hm17 := signI_le [s[i], s[i + 1]]
    have H317 := H3.out
    by_cases hlt : m < 17
    · have hlt2 : m < signI [s[i], s[i + 1]] := by omega
      have f0 := HST.out wr hw m hlt
      have t1 : ((signS m).toList == (s.extract i (i + 2)).toList) = false := HSN2.out m hlt2
      go_wp2_with fail
      go_quiet (fail)
      go_wp2
      go_roundw
      case rel => exact ⟨m + 1, by omega, by go_num, below_drewN' hw _⟩
      case measure => simp [intOf]; omega
    · have hv := below_of hw
      go_wp2_with fail
      rw [rounds_succ]
      go_wp2_with fail
      refine (rsigns _).mono ?_; rintro e w' ⟨rfl, rfl⟩
      go_wp2_with fail
      go_loopw [10] (fun a w3 => ∃ m : Nat, m ≤ signI [s[i]] ∧ a = .int .i64 m ∧ Below (wr.alloc (.cells signCells 9)).heap.size (wr.alloc (.cells signCells 9)) w3) (fun a _ => 17 - (intOf a).toNat)
      case atStart => exact ⟨0, Nat.zero_le _, rfl, Below.refl _ _⟩
      case round =>
        obtain ⟨m2, hm2, rfl, hw2⟩ := hrel
        have hm17b := signI_le [s[i]]
        have hv3 := hv.trans ((below_of hw2).mono hv.size)
        by_cases he2 : m2 = signI [s[i]]
        · have hlt3 : m2 < 17 := by rw [he2]; exact H1.out
          have g0 := signs_there hw2 hlt3
          have t2 : ((signS m2).toList == (s.extract i (i + 1)).toList) = true := by rw [he2]; exact HSY.out
          have HE : Hid (signS m2 = str [s[i]]) := Lib.hid (by rw [he2, HAT.out])
          clear he2
          obtain ⟨hc, hf⟩ := bcell hv3
          have r0 : wr.cell? ⟨w.heap.size, 0, none⟩ = some (.int .i64 0) := by rw [hc _ _ (by simp <;> omega)]; simp [go_sem]
          have z0 : wr.frozen? ⟨w.heap.size, 0, none⟩ = false := by rw [hf _ _ (by simp <;> omega)]; simp [go_sem]
          have r1 : wr.cell? ⟨w.heap.size, 1, none⟩ = some (.int .i64 0) := by rw [hc _ _ (by simp <;> omega)]; simp [go_sem]
          have z1 : wr.frozen? ⟨w.heap.size, 1, none⟩ = false := by rw [hf _ _ (by simp <;> omega)]; simp [go_sem]
          have r2 : wr.cell? ⟨w.heap.size, 2, none⟩ = some (.string { data := #[] }) := by rw [hc _ _ (by simp <;> omega)]; simp [go_sem]
          have z2 : wr.frozen? ⟨w.heap.size, 2, none⟩ = false := by rw [hf _ _ (by simp <;> omega)]; simp [go_sem]
          have r3 : wr.cell? ⟨w.heap.size, 3, none⟩ = some (.int .i64 0) := by rw [hc _ _ (by simp <;> omega)]; simp [go_sem]
          have z3 : wr.frozen? ⟨w.heap.size, 3, none⟩ = false := by rw [hf _ _ (by simp <;> omega)]; simp [go_sem]
          have hB := below_of hv3
          clear hc hf
          go_wp2_with fail
          go_quiet (fail)
          go_wp2
          refine bodyPost_ret (v := .tuple #[.agg #[.int .i64 4, .int .i64 0, .string (signS m2), .int .i64 i], .int .i64 1]) (by simp [results, Tryz.results39, go_sem, r0, r1, r2, r3]) rfl ⟨by rw [E.out, HE.out]; rfl, ?_⟩
          repeat (first | with_reducible exact hB | with_reducible exact below_drewN' hB _ | with_reducible refine Below.setCell ?_ (by first | omega | (simp <;> omega)) _ | with_reducible refine Below.alloc ?_ (by first | omega | (simp <;> omega)) _)
        · have hlt4 : m2 < signI [s[i]] := by omega
          have hlt3 : m2 < 17 := by omega
          have g0 := signs_there hw2 hlt3
          have t2 : ((signS m2).toList == (s.extract i (i + 1)).toList) = false := HSN.out m2 hlt4
          clear he2
          go_wp2_with fail
          go_quiet (fail)
          go_wp2
          go_roundw
          case rel => exact ⟨m2 + 1, by omega, by go_num, below_drewN' hw2 _⟩
          case measure => simp [intOf]; omega

set_option maxRecDepth 100000 in
set_option maxHeartbeats 4000000 in
theorem rnext_none1 (s : ByteArray) (i : Nat) (w : World) (hs : s.size ≤ 1000000) (hi : i < s.size) (hd : digB s[i] = false) (hl : letB s[i] = false) (hc : s[i].toNat ≠ 34) (h2 : ¬ i + 1 < s.size) (h1 : ¬ signI [s[i]] < 17) :
    Calls Tryz.prog 39 #[.string s, .int .i64 i] w fun e w' => e = .returned (.tuple #[tokV (nextR s.data.toList i).1, .int .i64 (nextR s.data.toList i).2]) ∧ Below w.heap.size w w' := by
  have hll : i < s.data.toList.length := by rw [← list_len]; exact hi
  have HD := Lib.hid hd; have HL := Lib.hid hl
  have h34 : s.data.toList[i] ≠ 34 := fun e => hc (by have : s[i] = 34 := e; rw [this]; rfl)
  have c1 : ((s[i].toNat : Int) == 34) = false := beq_eq_false_iff_ne.2 (by omega)
  have E := Lib.hid (next_none (l := s.data.toList) (i := i) hll hd hl h34 (fun h => absurd (by rw [list_len]; exact h) h2) h1)
  have EX := one_str s i hi
  have HSN := Lib.hid (fun m hm => sign_no (m := m) EX hm)
  have H1 := Lib.hid h1
  have v1 : IntKind.i64.wrap ((i : Int) + 1) = (i : Int) + 1 := IntWalk.i64_in _ (by omega)
  have v2 : ((i : Int) + 1).toNat = i + 1 := by omega
  clear hd hl h34 hc EX h1
  go_enter Tryz.func39, Tryz.ntmps39
  go_wp2_with fail
  refine (rdigit s[i] _).mono ?_; rw [HD.out]; rintro e w' ⟨rfl, rfl⟩
  go_wp2_with fail
  refine (rletter s[i] _).mono ?_; rw [HL.out]; rintro e w' ⟨rfl, rfl⟩
  go_wp2_with fail
  refine wp_loop_rounds 4 ?_
  rw [rounds_succ]
  go_wp2_with fail
  have hv := Below.refl (w.alloc (.cells #[.int .i64 0, .int .i64 0, .string { data := #[] }, .int .i64 0] 71)).heap.size (w.alloc (.cells #[.int .i64 0, .int .i64 0, .string { data := #[] }, .int .i64 0] 71))
  rw [rounds_succ]
  go_wp2_with fail
  refine (rsigns _).mono ?_; rintro e w' ⟨rfl, rfl⟩
  go_wp2_with fail
  go_loopw [10] (fun a w3 => ∃ m : Nat, m ≤ signI [s[i]] ∧ a = .int .i64 m ∧ Below ((w.alloc (.cells #[.int .i64 0, .int .i64 0, .string { data := #[] }, .int .i64 0] 71)).alloc (.cells signCells 9)).heap.size ((w.alloc (.cells #[.int .i64 0, .int .i64 0, .string { data := #[] }, .int .i64 0] 71)).alloc (.cells signCells 9)) w3) (fun a _ => 17 - (intOf a).toNat)
  case atStart => exact ⟨0, Nat.zero_le _, rfl, Below.refl _ _⟩
  case round =>
    obtain ⟨m2, hm2, rfl, hw2⟩ := hrel
    have hm17b := signI_le [s[i]]
    have hv3 := hv.trans ((below_of hw2).mono hv.size)
    have H17 := H1.out
    by_cases hlt3 : m2 < 17
    · have hlt4 : m2 < signI [s[i]] := by omega
      have g0 := signs_there hw2 hlt3; rw [heap_one] at g0
      have t2 : ((signS m2).toList == (s.extract i (i + 1)).toList) = false := HSN.out m2 hlt4
      go_wp2_with fail
      go_quiet (fail)
      go_wp2
      go_roundw
      case rel => exact ⟨m2 + 1, by omega, by go_num, below_drewN' hw2 _⟩
      case measure => simp [intOf]; omega
    · skip
      obtain ⟨hc, hf⟩ := bcell hv3
      have r0 : wr.cell? ⟨w.heap.size, 0, none⟩ = some (.int .i64 0) := by rw [hc _ _ (by simp <;> omega)]; simp [go_sem]
      have z0 : wr.frozen? ⟨w.heap.size, 0, none⟩ = false := by rw [hf _ _ (by simp <;> omega)]; simp [go_sem]
      have r1 : wr.cell? ⟨w.heap.size, 1, none⟩ = some (.int .i64 0) := by rw [hc _ _ (by simp <;> omega)]; simp [go_sem]
      have z1 : wr.frozen? ⟨w.heap.size, 1, none⟩ = false := by rw [hf _ _ (by simp <;> omega)]; simp [go_sem]
      have r2 : wr.cell? ⟨w.heap.size, 2, none⟩ = some (.string { data := #[] }) := by rw [hc _ _ (by simp <;> omega)]; simp [go_sem]
      have z2 : wr.frozen? ⟨w.heap.size, 2, none⟩ = false := by rw [hf _ _ (by simp <;> omega)]; simp [go_sem]
      have r3 : wr.cell? ⟨w.heap.size, 3, none⟩ = some (.int .i64 0) := by rw [hc _ _ (by simp <;> omega)]; simp [go_sem]
      have z3 : wr.frozen? ⟨w.heap.size, 3, none⟩ = false := by rw [hf _ _ (by simp <;> omega)]; simp [go_sem]
      have hB := below_of hv3
      clear hc hf
      go_wp2_with fail
      rw [rounds_succ]
      go_wp2
      refine bodyPost_ret (v := .tuple #[.agg #[.int .i64 0, .int .i64 0, .string { data := #[] }, .int .i64 0], .int .i64 0]) (by simp [results, Tryz.results39, go_sem, r0, r1, r2, r3]) rfl ⟨by rw [E.out]; rfl, ?_⟩
      repeat (first | with_reducible exact hB | with_reducible refine Below.setCell ?_ (by first | omega | (simp <;> omega)) _ | with_reducible refine Below.alloc ?_ (by first | omega | (simp <;> omega)) _)

set_option maxRecDepth 100000 in
set_option maxHeartbeats 4000000 in
theorem rnext_none2 (s : ByteArray) (i : Nat) (w : World) (hs : s.size ≤ 1000000) (hi : i < s.size) (hd : digB s[i] = false) (hl : letB s[i] = false) (hc : s[i].toNat ≠ 34) (h2 : i + 1 < s.size) (h3 : ¬ signI [s[i], s[i + 1]] < 17) (h1 : ¬ signI [s[i]] < 17) :
    Calls Tryz.prog 39 #[.string s, .int .i64 i] w fun e w' => e = .returned (.tuple #[tokV (nextR s.data.toList i).1, .int .i64 (nextR s.data.toList i).2]) ∧ Below w.heap.size w w' := by
  have hll : i < s.data.toList.length := by rw [← list_len]; exact hi
  have HD := Lib.hid hd; have HL := Lib.hid hl
  have h34 : s.data.toList[i] ≠ 34 := fun e => hc (by have : s[i] = 34 := e; rw [this]; rfl)
  have c1 : ((s[i].toNat : Int) == 34) = false := beq_eq_false_iff_ne.2 (by omega)
  have E := Lib.hid (next_none (l := s.data.toList) (i := i) hll hd hl h34 (fun h => h3) h1)
  have EX := one_str s i hi
  have HSN := Lib.hid (fun m hm => sign_no (m := m) EX hm)
  have H1 := Lib.hid h1
  have v1 : IntKind.i64.wrap ((i : Int) + 1) = (i : Int) + 1 := IntWalk.i64_in _ (by omega)
  have v2 : ((i : Int) + 1).toNat = i + 1 := by omega
  have EX2 := two_str s i h2
  have ST : ∀ wr, Below ((w.alloc (.cells #[.int .i64 0, .int .i64 0, .string { data := #[] }, .int .i64 0] 71)).alloc (.cells signCells 9)).heap.size ((w.alloc (.cells #[.int .i64 0, .int .i64 0, .string { data := #[] }, .int .i64 0] 71)).alloc (.cells signCells 9)) wr → ∀ m, m < 17 → wr.cell? ⟨w.heap.size + 1, m, none⟩ = some (.string (signS m)) := fun wr hb m hm => by have := signs_there (W := w.alloc (.cells #[.int .i64 0, .int .i64 0, .string { data := #[] }, .int .i64 0] 71)) hb hm; rwa [heap_one] at this
  have HST := Lib.hid ST
  have HSN2 := Lib.hid (fun m hm => sign_no (m := m) EX2 hm)
  have H3 := Lib.hid h3
  have v3 : IntKind.i64.wrap ((i : Int) + 2) = (i : Int) + 2 := IntWalk.i64_in _ (by omega)
  have v4 : ((i : Int) + 2).toNat = i + 2 := by omega
  clear ST EX2 h3
  clear hd hl h34 hc EX h1
  go_enter Tryz.func39, Tryz.ntmps39
  go_wp2_with fail
  refine (rdigit s[i] _).mono ?_; rw [HD.out]; rintro e w' ⟨rfl, rfl⟩
  go_wp2_with fail
  refine (rletter s[i] _).mono ?_; rw [HL.out]; rintro e w' ⟨rfl, rfl⟩
  go_wp2_with fail
  refine wp_loop_rounds 4 ?_
  rw [rounds_succ]
  go_wp2_with fail
  refine (rsigns _).mono ?_; rintro e w' ⟨rfl, rfl⟩
  go_wp2_with fail
  go_loopw [10] (fun a wr => ∃ m : Nat, m ≤ signI [s[i], s[i + 1]] ∧ a = .int .i64 m ∧ Below ((w.alloc (.cells #[.int .i64 0, .int .i64 0, .string { data := #[] }, .int .i64 0] 71)).alloc (.cells signCells 9)).heap.size ((w.alloc (.cells #[.int .i64 0, .int .i64 0, .string { data := #[] }, .int .i64 0] 71)).alloc (.cells signCells 9)) wr) (fun a _ => 17 - (intOf a).toNat)
  case atStart => exact ⟨0, Nat.zero_le _, rfl, Below.refl _ _⟩
  case round =>
    obtain ⟨m, hm, rfl, hw⟩ := hrel
    have hm17 := signI_le [s[i], s[i + 1]]
    have H317 := H3.out
    by_cases hlt : m < 17
    · have hlt2 : m < signI [s[i], s[i + 1]] := by omega
      have f0 := HST.out wr hw m hlt
      have t1 : ((signS m).toList == (s.extract i (i + 2)).toList) = false := HSN2.out m hlt2
      go_wp2_with fail
      go_quiet (fail)
      go_wp2
      go_roundw
      case rel => exact ⟨m + 1, by omega, by go_num, below_drewN' hw _⟩
      case measure => simp [intOf]; omega
    · have hv := below_of hw
      go_wp2_with fail
      rw [rounds_succ]
      go_wp2_with fail
      refine (rsigns _).mono ?_; rintro e w' ⟨rfl, rfl⟩
      go_wp2_with fail
      go_loopw [10] (fun a w3 => ∃ m : Nat, m ≤ signI [s[i]] ∧ a = .int .i64 m ∧ Below (wr.alloc (.cells signCells 9)).heap.size (wr.alloc (.cells signCells 9)) w3) (fun a _ => 17 - (intOf a).toNat)
      case atStart => exact ⟨0, Nat.zero_le _, rfl, Below.refl _ _⟩
      case round =>
        obtain ⟨m2, hm2, rfl, hw2⟩ := hrel
        have hm17b := signI_le [s[i]]
        have hv3 := hv.trans ((below_of hw2).mono hv.size)
        have H17 := H1.out
        by_cases hlt3 : m2 < 17
        · have hlt4 : m2 < signI [s[i]] := by omega
          have g0 := signs_there hw2 hlt3
          have t2 : ((signS m2).toList == (s.extract i (i + 1)).toList) = false := HSN.out m2 hlt4
          go_wp2_with fail
          go_quiet (fail)
          go_wp2
          go_roundw
          case rel => exact ⟨m2 + 1, by omega, by go_num, below_drewN' hw2 _⟩
          case measure => simp [intOf]; omega
        · skip
          obtain ⟨hc, hf⟩ := bcell hv3
          have r0 : wr.cell? ⟨w.heap.size, 0, none⟩ = some (.int .i64 0) := by rw [hc _ _ (by simp <;> omega)]; simp [go_sem]
          have z0 : wr.frozen? ⟨w.heap.size, 0, none⟩ = false := by rw [hf _ _ (by simp <;> omega)]; simp [go_sem]
          have r1 : wr.cell? ⟨w.heap.size, 1, none⟩ = some (.int .i64 0) := by rw [hc _ _ (by simp <;> omega)]; simp [go_sem]
          have z1 : wr.frozen? ⟨w.heap.size, 1, none⟩ = false := by rw [hf _ _ (by simp <;> omega)]; simp [go_sem]
          have r2 : wr.cell? ⟨w.heap.size, 2, none⟩ = some (.string { data := #[] }) := by rw [hc _ _ (by simp <;> omega)]; simp [go_sem]
          have z2 : wr.frozen? ⟨w.heap.size, 2, none⟩ = false := by rw [hf _ _ (by simp <;> omega)]; simp [go_sem]
          have r3 : wr.cell? ⟨w.heap.size, 3, none⟩ = some (.int .i64 0) := by rw [hc _ _ (by simp <;> omega)]; simp [go_sem]
          have z3 : wr.frozen? ⟨w.heap.size, 3, none⟩ = false := by rw [hf _ _ (by simp <;> omega)]; simp [go_sem]
          have hB := below_of hv3
          clear hc hf
          go_wp2_with fail
          rw [rounds_succ]
          go_wp2
          refine bodyPost_ret (v := .tuple #[.agg #[.int .i64 0, .int .i64 0, .string { data := #[] }, .int .i64 0], .int .i64 0]) (by simp [results, Tryz.results39, go_sem, r0, r1, r2, r3]) rfl ⟨by rw [E.out]; rfl, ?_⟩
          repeat (first | with_reducible exact hB | with_reducible refine Below.setCell ?_ (by first | omega | (simp <;> omega)) _ | with_reducible refine Below.alloc ?_ (by first | omega | (simp <;> omega)) _)

theorem rnext (s : ByteArray) (i : Nat) (w : World) (hs : s.size ≤ 1000000) (hi : i < s.size) :
    Calls Tryz.prog 39 #[.string s, .int .i64 i] w fun e w' => e = .returned (.tuple #[tokV (nextR s.data.toList i).1, .int .i64 (nextR s.data.toList i).2]) ∧ Below w.heap.size w w' := by
  cases hd : digB s[i]
  · cases hl : letB s[i]
    · by_cases hc : s[i].toNat = 34
      · exact rnext_text s i w hs hi hc
      · by_cases h2 : i + 1 < s.size
        · by_cases h3 : signI [s[i], s[i + 1]] < 17
          · exact rnext_two s i w hs hi hd hl hc h2 h3
          · by_cases h1 : signI [s[i]] < 17
            · exact rnext_one2 s i w hs hi hd hl hc h2 h3 h1
            · exact rnext_none2 s i w hs hi hd hl hc h2 h3 h1
        · by_cases h1 : signI [s[i]] < 17
          · exact rnext_one1 s i w hs hi hd hl hc h2 h1
          · exact rnext_none1 s i w hs hi hd hl hc h2 h1
    · exact rnext_letter s i w hs hi hd hl
  · exact rnext_digit s i w hs hi hd
end Go.Proofs.YtkdgiadpmfpjnaaGreatDoor.LexC
