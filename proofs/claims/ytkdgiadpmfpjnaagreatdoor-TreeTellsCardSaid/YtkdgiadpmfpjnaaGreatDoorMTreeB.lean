/-
  Contracts of tree's reference: the parser's small methods.
-/
import Derived.Test.YtkdgiadpmfpjnaaGreatDoorMLexF
import Derived.Test.YtkdgiadpmfpjnaaGreatDoorMNumG
import Derived.Test.YtkdgiadpmfpjnaaGreatDoorMAddr
namespace Go.Proofs.YtkdgiadpmfpjnaaGreatDoor.TreeC
set_option linter.unusedVariables false
open Go.RowKit Go.Proofs.YtkdgiadpmfpjnaaGreatDoor.NumC Go.Proofs.YtkdgiadpmfpjnaaGreatDoor.LexC

/-- What the parser's methods find: the tokens, the state. -/
structure Pre (w : World) (x : Nat) (lv : Value) (l : List Tok) (en k nest e at_ : Int) : Prop where
  at_ : PAt w x lv en k nest e at_
  tok : TokX w x lv l
theorem Pre.drew {w : World} {x : Nat} {lv : Value} {l : List Tok} {en k nest e at_ : Int} (h : Pre w x lv l en k nest e at_) (n : Nat) : Pre (w.drewN n) x lv l en k nest e at_ := ⟨h.at_, h.tok.kept (y := x) ((Kept.refl _ _).drew n) (Nat.le_refl _)⟩
theorem Pre.drew1 {w : World} {x : Nat} {lv : Value} {l : List Tok} {en k nest e at_ : Int} (h : Pre w x lv l en k nest e at_) : Pre w.drew x lv l en k nest e at_ := h.drew 1
theorem Pre.alloc {w : World} {x : Nat} {lv : Value} {l : List Tok} {en k nest e at_ : Int} (h : Pre w x lv l en k nest e at_) (o : Obj) : Pre (w.alloc o) x lv l en k nest e at_ := ⟨h.at_.alloc o, h.tok.kept (y := x) ((Kept.refl _ _).alloc o) (Nat.le_refl _)⟩
theorem Pre.setK {w : World} {x : Nat} {lv : Value} {l : List Tok} {en k nest e at_ : Int} (h : Pre w x lv l en k nest e at_) (k' : Int) : Pre (w.setCell ⟨x, 1, none⟩ (.int .i64 k')) x lv l en k' nest e at_ := ⟨h.at_.setK k', h.tok.kept ((Kept.refl _ _).setCell 1 _) (Nat.le_refl _)⟩
theorem Pre.setN {w : World} {x : Nat} {lv : Value} {l : List Tok} {en k nest e at_ : Int} (h : Pre w x lv l en k nest e at_) (k' : Int) : Pre (w.setCell ⟨x, 3, none⟩ (.int .i64 k')) x lv l en k k' e at_ := ⟨h.at_.setN k', h.tok.kept ((Kept.refl _ _).setCell 3 _) (Nat.le_refl _)⟩
theorem Pre.setE {w : World} {x : Nat} {lv : Value} {l : List Tok} {en k nest e at_ : Int} (h : Pre w x lv l en k nest e at_) (k' : Int) : Pre (w.setCell ⟨x, 4, none⟩ (.int .i64 k')) x lv l en k nest k' at_ := ⟨h.at_.setE k', h.tok.kept ((Kept.refl _ _).setCell 4 _) (Nat.le_refl _)⟩
theorem Pre.setA {w : World} {x : Nat} {lv : Value} {l : List Tok} {en k nest e at_ : Int} (h : Pre w x lv l en k nest e at_) (k' : Int) : Pre (w.setCell ⟨x, 5, none⟩ (.int .i64 k')) x lv l en k nest e k' := ⟨h.at_.setA k', h.tok.kept ((Kept.refl _ _).setCell 5 _) (Nat.le_refl _)⟩
theorem Pre.kept {w w' : World} {x y : Nat} {lv : Value} {l : List Tok} {en k nest e at_ : Int} (h : Pre w x lv l en k nest e at_) (hk : Kept y w w') (hy : x < y) : Pre w' x lv l en k nest e at_ := ⟨h.at_.kept hk (by omega), h.tok.kept hk (by omega)⟩
theorem isSign_over {l : List Tok} {k : Nat} {s : List UInt8} (h : l.length ≤ k) : isSign l k s = false := by unfold isSign; rw [List.getElem?_eq_none h]
theorem isSign_at {l : List Tok} {k : Nat} {s : List UInt8} (h : k < l.length) : isSign l k s = (decide (l[k].k = 4) && decide (l[k].s = str s)) := by unfold isSign; rw [List.getElem?_eq_getElem h]

set_option maxRecDepth 100000 in
set_option maxHeartbeats 2000000 in
theorem rsign {x : Nat} {lv : Value} {l : List Tok} {en nest at_ : Int} {k : Nat} (s : List UInt8) (w : World) (h : Pre w x lv l en k nest 0 at_) (hl : l.length ≤ 300) :
    Calls Tryz.prog 75 #[.pointer (some ⟨x, 0, none⟩), .string (str s)] w fun e w' => e = .returned (.bool (isSign l k s)) ∧ ∃ n, w' = w.drewN n := by
  obtain ⟨A, c, rfl, hT⟩ := h.tok.form
  obtain ⟨c0, c1, -, -, c4, -, -, -, -, -⟩ := h.at_.cells
  have HT := Lib.hid hT
  clear hT h
  by_cases hk : k < l.length
  · obtain ⟨g, rfl, -, t0, -, t2, -⟩ := HT.out k hk
    have d1 : decide ((k : Int) < (l.length : Int)) = true := decide_eq_true (by omega)
    have e0 := isSign_at (s := s) hk
    generalize l[k].k = tk at *
    generalize l[k].s = ts at *
    by_cases h4 : tk = 4
    · have E : Hid (isSign l k s = (ts.toList == (str s).toList)) := Lib.hid (by
        rw [e0, decide_eq_true h4, Bool.true_and]
        by_cases hs : ts = str s
        · rw [decide_eq_true hs, hs]; simp
        · rw [decide_eq_false hs]; symm; exact beq_eq_false_iff_ne.2 (fun e => hs (by rw [Lib.toList_data, Lib.toList_data] at e; exact ByteArray.ext (Array.toList_inj.1 e))))
      subst h4
      rw [E.out]
      clear e0 E
      generalize hb : (ts.toList == (str s).toList) = b
      cases b
      all_goals
        go_enter Tryz.func75, Tryz.ntmps75
        go_wp2_with fail
        go_quiet (fail)
        go_wp2_with fail
        go_ret
        exact ⟨rfl, _, rfl⟩
    · have E : Hid (isSign l k s = false) := Lib.hid (by rw [e0, decide_eq_false h4]; rfl)
      have f4 : (tk == 4) = false := beq_eq_false_iff_ne.2 h4
      clear e0 h4
      go_enter Tryz.func75, Tryz.ntmps75
      go_wp2_with fail
      go_quiet (fail)
      go_wp2_with fail
      go_ret
      exact ⟨by rw [E.out]; rfl, _, rfl⟩
  · have E : Hid (isSign l k s = false) := Lib.hid (isSign_over (by omega))
    have d1 : decide ((k : Int) < (l.length : Int)) = false := decide_eq_false (by omega)
    clear HT
    go_enter Tryz.func75, Tryz.ntmps75
    go_wp2_with fail
    go_quiet (fail)
    go_wp2_with fail
    go_ret
    exact ⟨by rw [E.out]; rfl, _, rfl⟩

set_option maxRecDepth 100000 in
set_option maxHeartbeats 2000000 in
theorem rsign_no {x : Nat} {lv : Value} {l : List Tok} {en k nest at_ e0 : Int} (s : List UInt8) (w : World) (h : Pre w x lv l en k nest e0 at_) (he : e0 ≠ 0) :
    Calls Tryz.prog 75 #[.pointer (some ⟨x, 0, none⟩), .string (str s)] w fun e w' => e = .returned (.bool false) ∧ ∃ n, w' = w.drewN n := by
  obtain ⟨c0, c1, -, -, c4, -, -, -, -, -⟩ := h.at_.cells
  have f0 : (e0 == 0) = false := beq_eq_false_iff_ne.2 he
  clear h he
  go_enter Tryz.func75, Tryz.ntmps75
  go_wp2_with fail
  go_quiet (fail)
  go_wp2_with fail
  go_ret
  exact ⟨rfl, _, rfl⟩
end Go.Proofs.YtkdgiadpmfpjnaaGreatDoor.TreeC

/-
  Contracts of tree's reference: bad, into, close.
-/
namespace Go.Proofs.YtkdgiadpmfpjnaaGreatDoor.TreeC
set_option linter.unusedVariables false
open Go.RowKit Go.Proofs.YtkdgiadpmfpjnaaGreatDoor.NumC Go.Proofs.YtkdgiadpmfpjnaaGreatDoor.LexC

theorem rbad_no {x : Nat} {lv : Value} {l : List Tok} {en k nest at_ e0 : Int} (w : World) (h : Pre w x lv l en k nest e0 at_) (he : e0 ≠ 0) :
    Calls Tryz.prog 26 #[.pointer (some ⟨x, 0, none⟩)] w fun e w' => e = .returned (.tuple #[]) ∧ w' = w := by
  obtain ⟨c0, c1, c2, c3, c4, c5, z1, z3, z4, z5⟩ := h.at_.cells
  have f0 : (e0 != 0) = true := by rw [bne, beq_eq_false_iff_ne.2 he]; rfl
  clear h he
  go_enter Tryz.func26, Tryz.ntmps26
  go_wp2_with fail
  refine bodyPost_ret (v := .tuple #[]) (by simp [results, Tryz.results26, go_sem]) rfl ⟨rfl, rfl⟩

set_option maxRecDepth 100000 in
set_option maxHeartbeats 2000000 in
theorem rbad {x : Nat} {lv : Value} {l : List Tok} {en nest at_ : Int} {k : Nat} (w : World) (h : Pre w x lv l en k nest 0 at_) (hl : l.length ≤ 300) :
    Calls Tryz.prog 26 #[.pointer (some ⟨x, 0, none⟩)] w fun e w' => e = .returned (.tuple #[]) ∧ Pre w' x lv l en k nest 13 (badAt l en k).2 ∧ Kept x w w' := by
  obtain ⟨A, c, rfl, hT⟩ := h.tok.form
  obtain ⟨c0, c1, c2, c3, c4, c5, z1, z3, z4, z5⟩ := h.at_.cells
  have h2 := Lib.hid ((h.setE 13).setA en)
  have K2 := Lib.hid (((Kept.refl x w).setCell 4 (.int .i64 13)).setCell 5 (.int .i64 en))
  clear hT h
  by_cases hk : k < l.length
  · have d1 : decide ((k : Int) < (l.length : Int)) = true := decide_eq_true (by omega)
    have E : Hid ((badAt l en k).2 = l[k].at_) := Lib.hid (by unfold badAt; rw [List.getElem?_eq_getElem hk])
    go_enter Tryz.func26, Tryz.ntmps26
    go_wp2_with fail
    generalize hW : ((w.setCell ⟨x, 4, none⟩ (.int .i64 13)).setCell ⟨x, 5, none⟩ (.int .i64 en)) = W at *
    clear hW c0 c1 c2 c3 c4 c5 z1 z3 z4 z5
    obtain ⟨c0, c1, c2, c3, c4, c5, z1, z3, z4, z5⟩ := h2.out.at_.cells
    go_quiet (fail)
    go_wp2_with fail
    have h3 := (h2.out.drew nq).drew1
    have K3 := (K2.out.drew nq).trans ((Kept.refl x _).drew 1)
    refine region_tail 14 (by kernel_rfl) (by kernel_rfl) ?_
    simp only [List.take_succ_cons, List.take_zero, List.drop_succ_cons, List.drop_zero]
    replace K3 : Kept x w (W.drewN nq).drew := K3
    generalize World.drew (W.drewN nq) = V at *
    clear c0 c1 c2 c3 c4 c5 z1 z3 z4 z5
    obtain ⟨c0, c1, c2, c3, c4, c5, z1, z3, z4, z5⟩ := h3.at_.cells
    obtain ⟨A', c', hv, hT⟩ := h3.tok.form
    injection hv with hA hn hc
    subst hA hc
    obtain ⟨g, rfl, -, t0, t1, t2, t3⟩ := hT k hk
    have H4 := Lib.hid (h3.setA (l[k].at_))
    have K4 := Lib.hid (K3.setCell 5 (.int .i64 (l[k].at_)))
    clear hT h3 K3
    generalize l[k].at_ = ta at *
    repeat still_step
    refine wpStill_nil ?_
    go_wp2_with fail
    refine bodyPost_end (v := .tuple #[]) (by simp [results, Tryz.results26, go_sem]) rfl ⟨rfl, by rw [E.out]; exact H4.out, K4.out⟩
  · have d1 : decide ((k : Int) < (l.length : Int)) = false := decide_eq_false (by omega)
    have E : Hid ((badAt l en k).2 = en) := Lib.hid (by unfold badAt; rw [List.getElem?_eq_none (by omega)])
    go_enter Tryz.func26, Tryz.ntmps26
    go_wp2_with fail
    generalize hW : ((w.setCell ⟨x, 4, none⟩ (.int .i64 13)).setCell ⟨x, 5, none⟩ (.int .i64 en)) = W at *
    clear hW c0 c1 c2 c3 c4 c5 z1 z3 z4 z5
    obtain ⟨c0, c1, c2, c3, c4, c5, z1, z3, z4, z5⟩ := h2.out.at_.cells
    go_quiet (fail)
    go_wp2_with fail
    refine bodyPost_end (v := .tuple #[]) (by simp [results, Tryz.results26, go_sem]) rfl ⟨rfl, by rw [E.out]; exact h2.out.drew nq, K2.out.drew nq⟩

set_option maxRecDepth 100000 in
set_option maxHeartbeats 2000000 in
theorem rinto_yes {x : Nat} {lv : Value} {l : List Tok} {en k nest at_ : Int} (w : World) (h : Pre w x lv l en k nest 0 at_) (h0 : 0 ≤ nest) (h1 : nest < 40) :
    Calls Tryz.prog 112 #[.pointer (some ⟨x, 0, none⟩)] w fun e w' => e = .returned (.bool true) ∧ Pre w' x lv l en k (nest + 1) 0 at_ ∧ Kept x w w' := by
  obtain ⟨c0, c1, c2, c3, c4, c5, z1, z3, z4, z5⟩ := h.at_.cells
  have d1 : decide (40 ≤ nest) = false := decide_eq_false (by omega)
  have h2 := Lib.hid (h.setN (nest + 1))
  have K2 := Lib.hid ((Kept.refl x w).setCell 3 (.int .i64 (nest + 1)))
  clear h
  go_enter Tryz.func112, Tryz.ntmps112
  go_wp2_with fail
  go_ret
  exact ⟨rfl, h2.out, K2.out⟩

set_option maxRecDepth 100000 in
set_option maxHeartbeats 2000000 in
theorem rinto_no {x : Nat} {lv : Value} {l : List Tok} {en k nest at_ : Int} (w : World) (h : Pre w x lv l en k nest 0 at_) (h0 : 40 ≤ nest) (h1 : nest < 100) :
    Calls Tryz.prog 112 #[.pointer (some ⟨x, 0, none⟩)] w fun e w' => e = .returned (.bool false) ∧ Pre w' x lv l en k (nest + 1) 14 0 ∧ Kept x w w' := by
  obtain ⟨c0, c1, c2, c3, c4, c5, z1, z3, z4, z5⟩ := h.at_.cells
  have d1 : decide (40 ≤ nest) = true := decide_eq_true (by omega)
  have h2 := Lib.hid (((h.setE 14).setA 0).setN (nest + 1))
  have K2 := Lib.hid ((((Kept.refl x w).setCell 4 (.int .i64 14)).setCell 5 (.int .i64 0)).setCell 3 (.int .i64 (nest + 1)))
  clear h
  go_enter Tryz.func112, Tryz.ntmps112
  go_wp2_with fail
  go_ret
  exact ⟨rfl, h2.out, K2.out⟩

theorem rclose_no {x : Nat} {lv : Value} {l : List Tok} {en k nest at_ e0 : Int} (w : World) (h : Pre w x lv l en k nest e0 at_) (he : e0 ≠ 0) :
    Calls Tryz.prog 136 #[.pointer (some ⟨x, 0, none⟩)] w fun e w' => e = .returned (.tuple #[]) ∧ Pre w' x lv l en k nest e0 at_ ∧ Kept x w w' := by
  have HS := Lib.hid (rsign_no [41] w h he)
  have H := Lib.hid h
  have B41 : Hid (({ data := #[41] } : ByteArray) = str [41]) := Lib.hid rfl
  clear h
  go_enter Tryz.func136, Tryz.ntmps136
  go_wp2_with fail
  rw [B41.out]
  refine HS.out.mono ?_; rintro e w1 ⟨rfl, n, rfl⟩
  go_wp2_with fail
  refine (rbad_no _ (H.out.drew n) he).mono ?_; rintro e w1 ⟨rfl, rfl⟩
  go_wp2_with fail
  refine bodyPost_ret (v := .tuple #[]) (by simp [results, Tryz.results136, go_sem]) rfl ⟨rfl, H.out.drew n, (Kept.refl _ _).drew n⟩

set_option maxRecDepth 100000 in
set_option maxHeartbeats 2000000 in
theorem rclose_bad {x : Nat} {lv : Value} {l : List Tok} {en nest : Int} {k : Nat} (w : World) (h : Pre w x lv l en k nest 0 0) (hl : l.length ≤ 300) (hs : isSign l k [41] = false) :
    Calls Tryz.prog 136 #[.pointer (some ⟨x, 0, none⟩)] w fun e w' => e = .returned (.tuple #[]) ∧ Pre w' x lv l en k nest 13 (badAt l en k).2 ∧ Kept x w w' := by
  have HS := Lib.hid (rsign [41] w h hl)
  rw [hs] at HS
  have H := Lib.hid h
  have B41 : Hid (({ data := #[41] } : ByteArray) = str [41]) := Lib.hid rfl
  clear h
  go_enter Tryz.func136, Tryz.ntmps136
  go_wp2_with fail
  rw [B41.out]
  refine HS.out.mono ?_; rintro e w1 ⟨rfl, n, rfl⟩
  go_wp2_with fail
  refine (rbad _ (H.out.drew n) hl).mono ?_; rintro e w1 ⟨rfl, h1, k1⟩
  have H1 := Lib.hid h1
  clear h1
  go_wp2_with fail
  refine bodyPost_ret (v := .tuple #[]) (by simp [results, Tryz.results136, go_sem]) rfl ⟨rfl, H1.out, ((Kept.refl _ _).drew n).trans k1⟩

set_option maxRecDepth 100000 in
set_option maxHeartbeats 2000000 in
theorem rclose_ok {x : Nat} {lv : Value} {l : List Tok} {en nest : Int} {k : Nat} (w : World) (h : Pre w x lv l en k nest 0 0) (hl : l.length ≤ 300) (hk : k ≤ 1000) (hs : isSign l k [41] = true) :
    Calls Tryz.prog 136 #[.pointer (some ⟨x, 0, none⟩)] w fun e w' => e = .returned (.tuple #[]) ∧ Pre w' x lv l en (k + 1 : Nat) nest 0 0 ∧ Kept x w w' := by
  have HS := Lib.hid (rsign [41] w h hl)
  rw [hs] at HS
  have H := Lib.hid h
  have B41 : Hid (({ data := #[41] } : ByteArray) = str [41]) := Lib.hid rfl
  clear h
  go_enter Tryz.func136, Tryz.ntmps136
  go_wp2_with fail
  rw [B41.out]
  refine HS.out.mono ?_; rintro e w1 ⟨rfl, n, rfl⟩
  obtain ⟨c0, c1, c2, c3, c4, c5, z1, z3, z4, z5⟩ := (H.out.drew n).at_.cells
  have H1 := Lib.hid ((H.out.drew n).setK ((k : Int) + 1))
  have K1 := Lib.hid (((Kept.refl x w).drew n).setCell 1 (.int .i64 ((k : Int) + 1)))
  go_wp2_with fail
  refine bodyPost_end (v := .tuple #[]) (by simp [results, Tryz.results136, go_sem]) rfl ⟨rfl, H1.out, K1.out⟩
end Go.Proofs.YtkdgiadpmfpjnaaGreatDoor.TreeC

/-
  Contracts of tree's reference: one, called, pair.
-/
namespace Go.Proofs.YtkdgiadpmfpjnaaGreatDoor.TreeC
set_option linter.unusedVariables false
open Go.RowKit Go.Proofs.YtkdgiadpmfpjnaaGreatDoor.NumC Go.Proofs.YtkdgiadpmfpjnaaGreatDoor.LexC

/-- A row of texts. -/
def TextsAt (w : World) (v : Value) (ss : List (List UInt8)) : Prop := ∃ g c, v = .slice (some ⟨g, 0, none⟩) ss.length c ∧ ∀ i (h : i < ss.length), w.cell? ⟨g, i, none⟩ = some (.string (str ss[i]))
def oneB (o : Option (List UInt8)) : ByteArray := match o with
  | some s => str s
  | none => nob
theorem one_none {l : List Tok} {k : Nat} {ss : List (List UInt8)} (h : ∀ i (hi : i < ss.length), isSign l k ss[i] = false) : oneOf l k ss = none := by
  unfold oneOf
  rw [List.find?_eq_none]
  intro s hs
  obtain ⟨i, hi, e⟩ := List.mem_iff_getElem.1 hs
  rw [← e, h i hi]; exact Bool.false_ne_true
theorem one_some {l : List Tok} {k : Nat} {ss : List (List UInt8)} {n : Nat} (h : ∀ i (hi : i < ss.length), i < n → isSign l k ss[i] = false) (hn : n < ss.length) (hs : isSign l k ss[n] = true) : oneOf l k ss = some ss[n] := by
  unfold oneOf
  rw [List.find?_eq_some_iff_getElem]
  refine ⟨hs, n, hn, rfl, fun j hj => ?_⟩
  rw [h j (by omega) hj]; rfl

set_option maxRecDepth 100000 in
set_option maxHeartbeats 2000000 in
theorem rone {x : Nat} {lv : Value} {l : List Tok} {en nest : Int} {k : Nat} (ss : List (List UInt8)) (v : Value) (w : World) (h : Pre w x lv l en k nest 0 0) (hl : l.length ≤ 300) (hs : ss.length ≤ 1000) (hv : TextsAt w v ss) :
    Calls Tryz.prog 41 #[.pointer (some ⟨x, 0, none⟩), v] w fun e w' => e = .returned (.string (oneB (oneOf l k ss))) ∧ ∃ n, w' = w.drewN n := by
  obtain ⟨g, c, rfl, hc⟩ := hv
  have HC := Lib.hid hc
  have H := Lib.hid h
  clear hc h
  go_enter Tryz.func41, Tryz.ntmps41
  go_wp2_with fail
  go_loopw [5] (fun a wr => ∃ i n : Nat, i ≤ ss.length ∧ a = .int .i64 i ∧ wr = w.drewN n ∧ Hid (∀ j (hj : j < ss.length), j < i → isSign l k ss[j] = false)) (fun a _ => ss.length - (intOf a).toNat)
  case atStart => exact ⟨0, 0, Nat.zero_le _, rfl, rfl, Lib.hid (fun j hj h => absurd h (Nat.not_lt_zero _))⟩
  case round =>
    obtain ⟨i, n, hi, rfl, rfl, HA⟩ := hrel
    by_cases hlt : i < ss.length
    · have d1 : decide ((i : Int) < (ss.length : Int)) = true := decide_eq_true (by omega)
      have q : (w.drewN n).cell? ⟨g, i, none⟩ = some (.string (str ss[i])) := HC.out i hlt
      have HS := Lib.hid (rsign ss[i] _ (H.out.drew n) hl)
      cases hb : isSign l k ss[i]
      · have HN : Hid (∀ j (hj : j < ss.length), j < i + 1 → isSign l k ss[j] = false) := Lib.hid (fun j hj h => by
          by_cases e : j = i
          · subst e; exact hb
          · exact HA.out j hj (by omega))
        rw [hb] at HS
        clear hb
        generalize ss[i] = si at *
        go_wp2_with fail
        refine HS.out.mono ?_; rintro e w1 ⟨rfl, m, rfl⟩
        go_wp2_with fail
        go_roundw
        case rel => exact ⟨i + 1, n + m, by omega, by go_num, by simp [World.drewN], HN⟩
        case measure => simp [intOf]; omega
      · have E : Hid (oneOf l k ss = some ss[i]) := Lib.hid (one_some HA.out hlt hb)
        rw [hb] at HS
        clear hb
        generalize ss[i] = si at *
        go_wp2_with fail
        refine HS.out.mono ?_; rintro e w1 ⟨rfl, m, rfl⟩
        have q2 : w.cell? ⟨g, i, none⟩ = some (.string (str si)) := q
        go_wp2_with fail
        go_ret
        exact ⟨by rw [E.out]; rfl, n + m, by simp [World.drewN]⟩
    · have d1 : decide ((i : Int) < (ss.length : Int)) = false := decide_eq_false (by omega)
      have E : Hid (oneOf l k ss = none) := Lib.hid (one_none (fun j hj => HA.out j hj (by omega)))
      go_wp2_with fail
      go_ret
      exact ⟨by rw [E.out]; rfl, n, rfl⟩

set_option maxRecDepth 100000 in
set_option maxHeartbeats 2000000 in
theorem rone_no {x : Nat} {lv : Value} {l : List Tok} {en k nest at_ e0 : Int} (ss : List (List UInt8)) (v : Value) (w : World) (h : Pre w x lv l en k nest e0 at_) (he : e0 ≠ 0) (hs : ss.length ≤ 1000) (hv : TextsAt w v ss) :
    Calls Tryz.prog 41 #[.pointer (some ⟨x, 0, none⟩), v] w fun e w' => e = .returned (.string nob) ∧ ∃ n, w' = w.drewN n := by
  obtain ⟨g, c, rfl, hc⟩ := hv
  have HC := Lib.hid hc
  have H := Lib.hid h
  clear hc h
  go_enter Tryz.func41, Tryz.ntmps41
  go_wp2_with fail
  go_loopw [5] (fun a wr => ∃ i n : Nat, i ≤ ss.length ∧ a = .int .i64 i ∧ wr = w.drewN n) (fun a _ => ss.length - (intOf a).toNat)
  case atStart => exact ⟨0, 0, Nat.zero_le _, rfl, rfl⟩
  case round =>
    obtain ⟨i, n, hi, rfl, rfl⟩ := hrel
    by_cases hlt : i < ss.length
    · have d1 : decide ((i : Int) < (ss.length : Int)) = true := decide_eq_true (by omega)
      have q : (w.drewN n).cell? ⟨g, i, none⟩ = some (.string (str ss[i])) := HC.out i hlt
      have HS := Lib.hid (rsign_no ss[i] _ (H.out.drew n) he)
      generalize ss[i] = si at *
      go_wp2_with fail
      refine HS.out.mono ?_; rintro e w1 ⟨rfl, m, rfl⟩
      go_wp2_with fail
      go_roundw
      case rel => exact ⟨i + 1, n + m, by omega, by go_num, by simp [World.drewN]⟩
      case measure => simp [intOf]; omega
    · have d1 : decide ((i : Int) < (ss.length : Int)) = false := decide_eq_false (by omega)
      go_wp2_with fail
      go_ret
      exact ⟨rfl, n, rfl⟩

set_option maxRecDepth 100000 in
set_option maxHeartbeats 2000000 in
theorem rcalled {x : Nat} {lv : Value} {l : List Tok} {en nest : Int} {k : Nat} (w : World) (h : Pre w x lv l en k nest 0 0) (hl : l.length ≤ 300) (hk0 : k ≤ 1000) :
    Calls Tryz.prog 156 #[.pointer (some ⟨x, 0, none⟩)] w fun e w' => e = .returned (.bool (isSign l (k + 1) [40])) ∧ ∃ n, w' = w.drewN n := by
  obtain ⟨A, c, rfl, hT⟩ := h.tok.form
  obtain ⟨c0, c1, -, -, c4, -, -, -, -, -⟩ := h.at_.cells
  have HT := Lib.hid hT
  clear hT h
  by_cases hk : k + 1 < l.length
  · obtain ⟨g, rfl, -, t0, -, t2, -⟩ := HT.out (k + 1) hk
    have d1 : decide ((k : Int) + 1 < (l.length : Int)) = true := decide_eq_true (by omega)
    have e0 := isSign_at (s := [40]) hk
    have B40 : str [40] = { data := #[40] } := rfl
    generalize l[k + 1].k = tk at *
    generalize l[k + 1].s = ts at *
    by_cases h4 : tk = 4
    · have E : Hid (isSign l (k + 1) [40] = (ts.toList == ({ data := #[40] } : ByteArray).toList)) := Lib.hid (by
        rw [e0, decide_eq_true h4, Bool.true_and, B40]
        by_cases hs : ts = { data := #[40] }
        · rw [decide_eq_true hs, hs]; simp
        · rw [decide_eq_false hs]; symm; exact beq_eq_false_iff_ne.2 (fun e => hs (by rw [Lib.toList_data, Lib.toList_data] at e; exact ByteArray.ext (Array.toList_inj.1 e))))
      subst h4
      rw [E.out]
      clear e0 E B40
      have e40 : ({ data := #[40] } : ByteArray).toList = [40] := by rw [Lib.toList_data]
      rw [e40]
      generalize hb : (ts.toList == [40]) = b
      clear e40
      cases b
      all_goals
        go_enter Tryz.func156, Tryz.ntmps156
        go_wp2_with fail
        go_quiet (fail)
        go_wp2_with fail
        go_ret
        exact ⟨rfl, _, rfl⟩
    · have E : Hid (isSign l (k + 1) [40] = false) := Lib.hid (by rw [e0, decide_eq_false h4]; rfl)
      have f4 : (tk == 4) = false := beq_eq_false_iff_ne.2 h4
      clear e0 h4 B40
      go_enter Tryz.func156, Tryz.ntmps156
      go_wp2_with fail
      go_quiet (fail)
      go_wp2_with fail
      go_ret
      exact ⟨by rw [E.out]; rfl, _, rfl⟩
  · have E : Hid (isSign l (k + 1) [40] = false) := Lib.hid (isSign_over (by omega))
    have d1 : decide ((k : Int) + 1 < (l.length : Int)) = false := decide_eq_false (by omega)
    clear HT
    go_enter Tryz.func156, Tryz.ntmps156
    go_wp2_with fail
    go_quiet (fail)
    go_wp2_with fail
    go_ret
    exact ⟨by rw [E.out]; rfl, _, rfl⟩

/-- A pair of nodes in a new row. -/
def pairFld (op : ByteArray) : Fld := ⟨5, 0, 0, nob, 0, 0, 0, 0, op⟩
set_option maxRecDepth 100000 in
set_option maxHeartbeats 2000000 in
theorem rpair (op : ByteArray) (f g : Fld) (A B : Option Addr) (n m c d : Nat) (w : World) :
    Calls Tryz.prog 42 #[.string op, nodeV f A n c, nodeV g B m d] w fun e w' => ∃ b, e = .returned (nodeV (pairFld op) (some ⟨b, 0, none⟩) 2 2) ∧ w.heap.size ≤ b ∧
      w'.heap[b]? = some (.cells ((nodeV f A n c).cells ++ (nodeV g B m d).cells) 31 (0, 0)) ∧ Below w.heap.size w w' := by
  unfold nodeV
  go_enter Tryz.func42, Tryz.ntmps42
  go_wp2_with fail
  refine bodyPost_ret (v := .agg #[.int .i64 5, .int .i64 0, .int .i64 0, .string { data := #[] }, .int .i64 0, .int .i64 0, .int .i64 0, .int .i64 0, .string op, .slice (some ⟨w.heap.size + 1 + 1 + 1, 0, none⟩) 2 2]) (by simp [results, Tryz.results42, go_sem]) rfl ⟨w.heap.size + 1 + 1 + 1, rfl, by omega, ?_, ?_⟩
  · have := heap_alloc_new ((((w.alloc (.cells #[.int .i64 f.k, .int .i64 f.vk, .int .i64 f.vn, .string f.vs, .int .i64 f.r1, .int .i64 f.r2, .int .i64 f.r3, .int .i64 f.r4, .string f.op, .slice A n c] 31)).alloc (.cells #[.int .i64 g.k, .int .i64 g.vk, .int .i64 g.vn, .string g.vs, .int .i64 g.r1, .int .i64 g.r2, .int .i64 g.r3, .int .i64 g.r4, .string g.op, .slice B m d] 31)).alloc (.cells #[.int .i64 5, .int .i64 0, .int .i64 0, .string { data := #[] }, .int .i64 0, .int .i64 0, .int .i64 0, .int .i64 0, .string op, .slice (some ⟨w.heap.size + 1 + 1 + 1, 0, none⟩) 2 2] 31))) (.cells (#[.int .i64 f.k, .int .i64 f.vk, .int .i64 f.vn, .string f.vs, .int .i64 f.r1, .int .i64 f.r2, .int .i64 f.r3, .int .i64 f.r4, .string f.op, .slice A n c, .int .i64 g.k, .int .i64 g.vk, .int .i64 g.vn, .string g.vs, .int .i64 g.r1, .int .i64 g.r2, .int .i64 g.r3, .int .i64 g.r4, .string g.op, .slice B m d]) 31)
    rw [heap_one, heap_one, heap_one] at this
    exact this
  · repeat (first | with_reducible exact Below.refl _ _ | with_reducible refine Below.alloc ?_ (by first | omega | (simp <;> omega)) _)
end Go.Proofs.YtkdgiadpmfpjnaaGreatDoor.TreeC

/-
  What a part of the grammar answers in memory; contract of tree's reference: unary.
-/
namespace Go.Proofs.YtkdgiadpmfpjnaaGreatDoor.TreeC
set_option linter.unusedVariables false
open Go.RowKit Go.Proofs.YtkdgiadpmfpjnaaGreatDoor.NumC Go.Proofs.YtkdgiadpmfpjnaaGreatDoor.LexC

/-- A part's answer: the node in new rows, the parser behind it; or an error, and whatever node. -/
def PPost (x : Nat) (lv : Value) (l : List Tok) (en nest : Int) (out : Out) (w : World) (e : Ending) (w' : World) : Prop :=
  ∃ v, e = .returned v ∧ Kept x w w' ∧ match out with
    | .ok (a, k') => NodeAt w' (fun g => w.heap.size ≤ g) a v ∧ Pre w' x lv l en (k' : Nat) nest 0 0
    | .error b => NodeV v ∧ b.1 ≠ 0 ∧ ∃ k2 n2, nest ≤ n2 ∧ n2 ≤ nest + 1 ∧ Pre w' x lv l en k2 n2 b.1 b.2
/-- A block that holds a zero node. -/
structure NBox (w : World) (b : Nat) : Prop where
  at_ : w.heap[b]? = some (.cells #[.int .i64 0, .int .i64 0, .int .i64 0, .string { data := #[] }, .int .i64 0, .int .i64 0, .int .i64 0, .int .i64 0, .string { data := #[] }, .slice none 0 0] 31 (0, 0))
theorem NBox.new (w : World) : NBox (w.alloc (.cells #[.int .i64 0, .int .i64 0, .int .i64 0, .string { data := #[] }, .int .i64 0, .int .i64 0, .int .i64 0, .int .i64 0, .string { data := #[] }, .slice none 0 0] 31)) w.heap.size := ⟨heap_alloc_new _ _⟩
theorem NBox.lt {w : World} {b : Nat} (h : NBox w b) : b < w.heap.size := (Array.getElem?_eq_some_iff.1 h.at_).1
theorem NBox.kept {w w' : World} {b y : Nat} (h : NBox w b) (hk : Kept y w w') (hb : b ≠ y) : NBox w' b := ⟨(hk.block b h.lt hb).trans h.at_⟩
theorem NBox.cells {w : World} {b : Nat} (h : NBox w b) :
    w.cell? ⟨b, 0, none⟩ = some (.int .i64 0) ∧ w.cell? ⟨b, 1, none⟩ = some (.int .i64 0) ∧ w.cell? ⟨b, 2, none⟩ = some (.int .i64 0) ∧ w.cell? ⟨b, 3, none⟩ = some (.string { data := #[] }) ∧ w.cell? ⟨b, 4, none⟩ = some (.int .i64 0) ∧
    w.cell? ⟨b, 5, none⟩ = some (.int .i64 0) ∧ w.cell? ⟨b, 6, none⟩ = some (.int .i64 0) ∧ w.cell? ⟨b, 7, none⟩ = some (.int .i64 0) ∧ w.cell? ⟨b, 8, none⟩ = some (.string { data := #[] }) ∧ w.cell? ⟨b, 9, none⟩ = some (.slice none 0 0) ∧
    w.frozen? ⟨b, 0, none⟩ = false ∧ w.frozen? ⟨b, 1, none⟩ = false ∧ w.frozen? ⟨b, 2, none⟩ = false ∧ w.frozen? ⟨b, 3, none⟩ = false ∧ w.frozen? ⟨b, 4, none⟩ = false ∧
    w.frozen? ⟨b, 5, none⟩ = false ∧ w.frozen? ⟨b, 6, none⟩ = false ∧ w.frozen? ⟨b, 7, none⟩ = false ∧ w.frozen? ⟨b, 8, none⟩ = false ∧ w.frozen? ⟨b, 9, none⟩ = false := by
  have h1 := h.at_
  refine ⟨?_, ?_, ?_, ?_, ?_, ?_, ?_, ?_, ?_, ?_, ?_, ?_, ?_, ?_, ?_, ?_, ?_, ?_, ?_, ?_⟩ <;> simp [World.cell?, World.frozen?, h1]
/-- A block that holds a node. -/
structure NLoc (w : World) (b : Nat) (f : Fld) (A : Option Addr) (n c : Nat) : Prop where
  at_ : w.heap[b]? = some (.cells #[.int .i64 f.k, .int .i64 f.vk, .int .i64 f.vn, .string f.vs, .int .i64 f.r1, .int .i64 f.r2, .int .i64 f.r3, .int .i64 f.r4, .string f.op, .slice A n c] 31 (0, 0))
theorem NLoc.lt {w : World} {b n c : Nat} {f : Fld} {A : Option Addr} (h : NLoc w b f A n c) : b < w.heap.size := (Array.getElem?_eq_some_iff.1 h.at_).1
theorem NLoc.kept {w w' : World} {b y n c : Nat} {f : Fld} {A : Option Addr} (h : NLoc w b f A n c) (hk : Kept y w w') (hb : b ≠ y) : NLoc w' b f A n c := ⟨(hk.block b h.lt hb).trans h.at_⟩
theorem NLoc.cells {w : World} {b n c : Nat} {f : Fld} {A : Option Addr} (h : NLoc w b f A n c) :
    w.cell? ⟨b, 0, none⟩ = some (.int .i64 f.k) ∧ w.cell? ⟨b, 1, none⟩ = some (.int .i64 f.vk) ∧ w.cell? ⟨b, 2, none⟩ = some (.int .i64 f.vn) ∧ w.cell? ⟨b, 3, none⟩ = some (.string f.vs) ∧ w.cell? ⟨b, 4, none⟩ = some (.int .i64 f.r1) ∧
    w.cell? ⟨b, 5, none⟩ = some (.int .i64 f.r2) ∧ w.cell? ⟨b, 6, none⟩ = some (.int .i64 f.r3) ∧ w.cell? ⟨b, 7, none⟩ = some (.int .i64 f.r4) ∧ w.cell? ⟨b, 8, none⟩ = some (.string f.op) ∧ w.cell? ⟨b, 9, none⟩ = some (.slice A n c) ∧
    w.frozen? ⟨b, 0, none⟩ = false ∧ w.frozen? ⟨b, 1, none⟩ = false ∧ w.frozen? ⟨b, 2, none⟩ = false ∧ w.frozen? ⟨b, 3, none⟩ = false ∧ w.frozen? ⟨b, 4, none⟩ = false ∧
    w.frozen? ⟨b, 5, none⟩ = false ∧ w.frozen? ⟨b, 6, none⟩ = false ∧ w.frozen? ⟨b, 7, none⟩ = false ∧ w.frozen? ⟨b, 8, none⟩ = false ∧ w.frozen? ⟨b, 9, none⟩ = false := by
  have h1 := h.at_
  refine ⟨?_, ?_, ?_, ?_, ?_, ?_, ?_, ?_, ?_, ?_, ?_, ?_, ?_, ?_, ?_, ?_, ?_, ?_, ?_, ?_⟩ <;> simp [World.cell?, World.frozen?, h1]
theorem PPost.ok {x : Nat} {lv : Value} {l : List Tok} {en nest : Int} {a : Nd} {k' b : Nat} {v : Value} {w W W' : World} (hK : Kept x w W) (hP : Pre W x lv l en (k' : Nat) nest 0 0) (hN : NodeAt W (fun g => b < g) a v) (hb : w.heap.size ≤ b) (hx : x < w.heap.size) (hk : Kept b W W') :
    PPost x lv l en nest (.ok (a, k')) w (.returned v) W' :=
  ⟨v, rfl, hK.then_ hk hb, hN.keep hk (fun g hg _ => ⟨by omega, by omega⟩), hP.kept hk (by omega)⟩
theorem PPost.err {x : Nat} {lv : Value} {l : List Tok} {en nest : Int} {c : Bad} {b : Nat} {v : Value} {w W W' : World} {k2 n2 : Int} (hK : Kept x w W) (hP : Pre W x lv l en k2 n2 c.1 c.2) (hv : NodeV v) (hc : c.1 ≠ 0) (h1 : nest ≤ n2) (h2 : n2 ≤ nest + 1) (hb : w.heap.size ≤ b) (hx : x < w.heap.size) (hk : Kept b W W') :
    PPost x lv l en nest (.error c) w (.returned v) W' :=
  ⟨v, rfl, hK.then_ hk hb, hv, hc, k2, n2, h1, h2, hP.kept hk (by omega)⟩
theorem nodeV_any (f : Fld) (A : Option Addr) (n c : Nat) : NodeV (nodeV f A n c) := ⟨f, A, n, c, rfl⟩
/-- What stands nested once more answers as the grammar says. -/
structure Con (x : Nat) (lv : Value) (l : List Tok) (en nest : Int) (L : Lev) : Prop where
  fm : ∀ (k : Nat) (w : World), k ≤ 900 → Pre w x lv l en k nest 0 0 → Calls Tryz.prog 25 #[.pointer (some ⟨x, 0, none⟩)] w (PPost x lv l en nest (L.fm k) w)
  pw : ∀ (k : Nat) (w : World), k ≤ 900 → Pre w x lv l en k nest 0 0 → Calls Tryz.prog 97 #[.pointer (some ⟨x, 0, none⟩)] w (PPost x lv l en nest (L.pw k) w)
  un : ∀ (k : Nat) (w : World), k ≤ 900 → Pre w x lv l en k nest 0 0 → Calls Tryz.prog 111 #[.pointer (some ⟨x, 0, none⟩)] w (PPost x lv l en nest (L.un k) w)

set_option maxRecDepth 100000 in
set_option maxHeartbeats 4000000 in
theorem runary {x : Nat} {lv : Value} {l : List Tok} {en nest : Int} {L : Lev} {into : Bool} {k : Nat} (w : World) (h : Pre w x lv l en k nest 0 0) (hl : l.length ≤ 300) (hk : k ≤ 800) (hn0 : 0 ≤ nest) (hn1 : nest ≤ 40) (hi : into = decide (nest < 40))
    (hc : into = true → Con x lv l en (nest + 1) L) (hp : ∀ (w : World), Pre w x lv l en k nest 0 0 → Calls Tryz.prog 123 #[.pointer (some ⟨x, 0, none⟩)] w (PPost x lv l en nest (partF l en L into k) w)) :
    Calls Tryz.prog 111 #[.pointer (some ⟨x, 0, none⟩)] w (PPost x lv l en nest (unaryF l en L into k) w) := by
  have hxw := h.at_.lt
  have HX := NBox.new w
  have H0 := h.alloc (.cells #[.int .i64 0, .int .i64 0, .int .i64 0, .string { data := #[] }, .int .i64 0, .int .i64 0, .int .i64 0, .int .i64 0, .string { data := #[] }, .slice none 0 0] 31)
  have K0 : Kept x w (w.alloc (.cells #[.int .i64 0, .int .i64 0, .int .i64 0, .string { data := #[] }, .int .i64 0, .int .i64 0, .int .i64 0, .int .i64 0, .string { data := #[] }, .slice none 0 0] 31)) := (Kept.refl _ _).alloc _
  have hs0 : (w.alloc (.cells #[.int .i64 0, .int .i64 0, .int .i64 0, .string { data := #[] }, .int .i64 0, .int .i64 0, .int .i64 0, .int .i64 0, .string { data := #[] }, .slice none 0 0] 31)).heap.size = w.heap.size + 1 := heap_one _ _
  generalize hW : (w.alloc (.cells #[.int .i64 0, .int .i64 0, .int .i64 0, .string { data := #[] }, .int .i64 0, .int .i64 0, .int .i64 0, .int .i64 0, .string { data := #[] }, .slice none 0 0] 31)) = W at *
  have HS := Lib.hid (rsign [45] W H0 hl)
  have HI := Lib.hid H0
  have B45 : Hid (({ data := #[45] } : ByteArray) = str [45]) := Lib.hid rfl
  have ne1 : x ≠ w.heap.size := by omega
  have ne2 : w.heap.size ≠ x := by omega
  generalize hO : unaryF l en L into k = O
  have HO := Lib.hid hO.symm
  have HIN := Lib.hid hi
  clear h H0 hO hi
  by_cases hs : isSign l k [45] = true
  · rw [hs] at HS
    by_cases hin : nest < 40
    · have hit := Lib.hid (show into = true by rw [HIN.out]; exact decide_eq_true hin)
      have HC := Lib.hid (hc hit.out)
      go_enter Tryz.func111, Tryz.ntmps111
      go_wp2_with fail
      rw [B45.out]
      refine HS.out.mono ?_; rintro e w1 ⟨rfl, n, rfl⟩
      have H1 := (HI.out.drew n).setK ((k : Int) + 1)
      have K1 := (K0.drew n).setCell 1 (.int .i64 ((k : Int) + 1))
      have X1 := HX.kept (((Kept.refl x W).drew n).setCell 1 (.int .i64 ((k : Int) + 1))) ne2
      obtain ⟨c0, c1, c2, c3, c4, c5, y1, y3, y4, y5⟩ := (HI.out.drew n).at_.cells
      go_wp2_with fail
      refine (rinto_yes _ H1 hn0 hin).mono ?_; rintro e w2 ⟨rfl, H2, k2⟩
      have K2 := K1.trans k2
      have X2 := X1.kept k2 ne2
      have lt2 := X2.lt
      rw [show ((k : Int) + 1) = ((k + 1 : Nat) : Int) from by omega] at H2
      clear c0 c1 c2 c3 c4 c5 y1 y3 y4 y5
      clear H1 K1 X1 k2
      go_wp2_with fail
      refine (HC.out.un (k + 1) w2 (by omega) H2).mono ?_; intro e w3 hp3
      clear H2
      have hs2 := K2.size
      cases hr : L.un (k + 1) with
      | error b =>
        rw [hr] at hp3
        obtain ⟨v, rfl, k3, ⟨f, A, m, c, rfl⟩, hb0, k4, n2, hn2, hn3, H3⟩ := hp3
        have E := Lib.hid (HO.out.trans (unary_err hs hit.out hr))
        clear hr
        have K3 := K2.trans k3
        have X3 := X2.kept k3 ne2
        have lt3 := X3.lt
        have hs3 := k3.size
        unfold nodeV
        have K4 := K3.alloc (.cells #[.int .i64 f.k, .int .i64 f.vk, .int .i64 f.vn, .string f.vs, .int .i64 f.r1, .int .i64 f.r2, .int .i64 f.r3, .int .i64 f.r4, .string f.op, .slice A m c] 31)
        have X4 := X3.kept ((Kept.refl x w3).alloc (.cells #[.int .i64 f.k, .int .i64 f.vk, .int .i64 f.vn, .string f.vs, .int .i64 f.r1, .int .i64 f.r2, .int .i64 f.r3, .int .i64 f.r4, .string f.op, .slice A m c] 31)) ne2
        have H4 := H3.alloc (.cells #[.int .i64 f.k, .int .i64 f.vk, .int .i64 f.vn, .string f.vs, .int .i64 f.r1, .int .i64 f.r2, .int .i64 f.r3, .int .i64 f.r4, .string f.op, .slice A m c] 31)
        have L4 : NLoc (w3.alloc (.cells #[.int .i64 f.k, .int .i64 f.vk, .int .i64 f.vn, .string f.vs, .int .i64 f.r1, .int .i64 f.r2, .int .i64 f.r3, .int .i64 f.r4, .string f.op, .slice A m c] 31)) w3.heap.size f A m c := ⟨heap_alloc_new _ _⟩
        generalize hV : (w3.alloc (.cells #[.int .i64 f.k, .int .i64 f.vk, .int .i64 f.vn, .string f.vs, .int .i64 f.r1, .int .i64 f.r2, .int .i64 f.r3, .int .i64 f.r4, .string f.op, .slice A m c] 31)) = V at *
        have nb : w.heap.size ≠ w3.heap.size := by omega
        have nb2 : w3.heap.size ≠ w.heap.size := by omega
        have nx : x ≠ w3.heap.size := by have := H3.at_.lt; omega
        have nx2 : w3.heap.size ≠ x := by omega
        have H5 := H4.setN (n2 - 1)
        have K5 := K4.setCell 3 (.int .i64 (n2 - 1))
        have X5 := X4.kept ((Kept.refl x V).setCell 3 (.int .i64 (n2 - 1))) ne2
        have L5 := L4.kept ((Kept.refl x V).setCell 3 (.int .i64 (n2 - 1))) nx2
        obtain ⟨c0, c1, c2, c3, c4, c5, y1, y3, y4, y5⟩ := (H4).at_.cells
        generalize hU : (V.setCell ⟨x, 3, none⟩ (.int .i64 (n2 - 1))) = U at *
        obtain ⟨d0, d1, d2, d3, d4, d5, d6, d7, d8, d9, dz0, dz1, dz2, dz3, dz4, dz5, dz6, dz7, dz8, dz9⟩ := (L5).cells
        have lt5 := X5.lt
        have K6 := K5.alloc (.cells #[.int .i64 f.k, .int .i64 f.vk, .int .i64 f.vn, .string f.vs, .int .i64 f.r1, .int .i64 f.r2, .int .i64 f.r3, .int .i64 f.r4, .string f.op, .slice A m c] 31)
        have H6 := H5.alloc (.cells #[.int .i64 f.k, .int .i64 f.vk, .int .i64 f.vn, .string f.vs, .int .i64 f.r1, .int .i64 f.r2, .int .i64 f.r3, .int .i64 f.r4, .string f.op, .slice A m c] 31)
        have X6 := X5.kept ((Kept.refl x U).alloc (.cells #[.int .i64 f.k, .int .i64 f.vk, .int .i64 f.vn, .string f.vs, .int .i64 f.r1, .int .i64 f.r2, .int .i64 f.r3, .int .i64 f.r4, .string f.op, .slice A m c] 31)) ne2
        have R6 : (U.alloc (.cells #[.int .i64 f.k, .int .i64 f.vk, .int .i64 f.vn, .string f.vs, .int .i64 f.r1, .int .i64 f.r2, .int .i64 f.r3, .int .i64 f.r4, .string f.op, .slice A m c] 31)).heap[U.heap.size]? = some (.cells #[.int .i64 f.k, .int .i64 f.vk, .int .i64 f.vn, .string f.vs, .int .i64 f.r1, .int .i64 f.r2, .int .i64 f.r3, .int .i64 f.r4, .string f.op, .slice A m c] 31 (0, 0)) := heap_alloc_new _ _
        generalize hT : (U.alloc (.cells #[.int .i64 f.k, .int .i64 f.vk, .int .i64 f.vn, .string f.vs, .int .i64 f.r1, .int .i64 f.r2, .int .i64 f.r3, .int .i64 f.r4, .string f.op, .slice A m c] 31)) = T at *
        obtain ⟨f0, f1, f2, f3, f4, f5, f6, f7, f8, f9, z0, z1, z2, z3, z4, z5, z6, z7, z8, z9⟩ := (X6).cells
        go_wp2_with fail
        rw [E.out]
        refine bodyPost_ret (v := .agg #[.int .i64 4, .int .i64 0, .int .i64 0, .string { data := #[] }, .int .i64 0, .int .i64 0, .int .i64 0, .int .i64 0, .string { data := #[] }, .slice (some ⟨U.heap.size, 0, none⟩) 1 1]) (by simp [results, Tryz.results111, go_sem, f0, f1, f2, f3, f4, f5, f6, f7, f8, f9]) rfl (PPost.err (b := w.heap.size) K6 H6 (nodeV_any ⟨4, 0, 0, nob, 0, 0, 0, 0, nob⟩ _ _ _) hb0 (by omega) (by omega) (Nat.le_refl _) hxw ?_)
        repeat (first | with_reducible exact Kept.refl _ _ | with_reducible refine Kept.setCell ?_ _ _)
      | ok q =>
        obtain ⟨a, k'⟩ := q
        rw [hr] at hp3
        obtain ⟨v, rfl, k3, ⟨A, c, rfl, hA⟩, H3⟩ := hp3
        have E := Lib.hid (HO.out.trans (unary_ok hs hit.out hr))
        obtain ⟨f, kd⟩ := a
        simp only at hA
        clear hr
        generalize hm : kd.len = m at *
        have K3 := K2.trans k3
        have X3 := X2.kept k3 ne2
        have lt3 := X3.lt
        have hs3 := k3.size
        unfold nodeV
        have K4 := K3.alloc (.cells #[.int .i64 f.k, .int .i64 f.vk, .int .i64 f.vn, .string f.vs, .int .i64 f.r1, .int .i64 f.r2, .int .i64 f.r3, .int .i64 f.r4, .string f.op, .slice A m c] 31)
        have X4 := X3.kept ((Kept.refl x w3).alloc (.cells #[.int .i64 f.k, .int .i64 f.vk, .int .i64 f.vn, .string f.vs, .int .i64 f.r1, .int .i64 f.r2, .int .i64 f.r3, .int .i64 f.r4, .string f.op, .slice A m c] 31)) ne2
        have H4 := H3.alloc (.cells #[.int .i64 f.k, .int .i64 f.vk, .int .i64 f.vn, .string f.vs, .int .i64 f.r1, .int .i64 f.r2, .int .i64 f.r3, .int .i64 f.r4, .string f.op, .slice A m c] 31)
        have L4 : NLoc (w3.alloc (.cells #[.int .i64 f.k, .int .i64 f.vk, .int .i64 f.vn, .string f.vs, .int .i64 f.r1, .int .i64 f.r2, .int .i64 f.r3, .int .i64 f.r4, .string f.op, .slice A m c] 31)) w3.heap.size f A m c := ⟨heap_alloc_new _ _⟩
        have A4 : KidsAt (w3.alloc (.cells #[.int .i64 f.k, .int .i64 f.vk, .int .i64 f.vn, .string f.vs, .int .i64 f.r1, .int .i64 f.r2, .int .i64 f.r3, .int .i64 f.r4, .string f.op, .slice A m c] 31)) (fun g => w.heap.size < g ∧ g ≠ w3.heap.size) kd A := hA.keep ((Kept.refl x w3).alloc _) (fun g hg hl => ⟨by have := H3.at_.lt; omega, by omega, by omega⟩)
        generalize hV : (w3.alloc (.cells #[.int .i64 f.k, .int .i64 f.vk, .int .i64 f.vn, .string f.vs, .int .i64 f.r1, .int .i64 f.r2, .int .i64 f.r3, .int .i64 f.r4, .string f.op, .slice A m c] 31)) = V at *
        have nb : w.heap.size ≠ w3.heap.size := by omega
        have nb2 : w3.heap.size ≠ w.heap.size := by omega
        have nx : x ≠ w3.heap.size := by have := H3.at_.lt; omega
        have nx2 : w3.heap.size ≠ x := by omega
        have H5 := H4.setN ((nest + 1) - 1)
        have K5 := K4.setCell 3 (.int .i64 ((nest + 1) - 1))
        have X5 := X4.kept ((Kept.refl x V).setCell 3 (.int .i64 ((nest + 1) - 1))) ne2
        have L5 := L4.kept ((Kept.refl x V).setCell 3 (.int .i64 ((nest + 1) - 1))) nx2
        have A5 := A4.keep (Q := fun g => w.heap.size < g) ((Kept.refl x V).setCell 3 (.int .i64 ((nest + 1) - 1))) (fun g hg hl => ⟨by omega, by omega⟩)
        rw [show nest + 1 - 1 = nest from by omega] at H5 K5 X5 L5 A5
        obtain ⟨c0, c1, c2, c3, c4, c5, y1, y3, y4, y5⟩ := (H4).at_.cells
        generalize hU : (V.setCell ⟨x, 3, none⟩ (.int .i64 nest)) = U at *
        obtain ⟨d0, d1, d2, d3, d4, d5, d6, d7, d8, d9, dz0, dz1, dz2, dz3, dz4, dz5, dz6, dz7, dz8, dz9⟩ := (L5).cells
        have lt5 := X5.lt
        have K6 := K5.alloc (.cells #[.int .i64 f.k, .int .i64 f.vk, .int .i64 f.vn, .string f.vs, .int .i64 f.r1, .int .i64 f.r2, .int .i64 f.r3, .int .i64 f.r4, .string f.op, .slice A m c] 31)
        have H6 := H5.alloc (.cells #[.int .i64 f.k, .int .i64 f.vk, .int .i64 f.vn, .string f.vs, .int .i64 f.r1, .int .i64 f.r2, .int .i64 f.r3, .int .i64 f.r4, .string f.op, .slice A m c] 31)
        have X6 := X5.kept ((Kept.refl x U).alloc (.cells #[.int .i64 f.k, .int .i64 f.vk, .int .i64 f.vn, .string f.vs, .int .i64 f.r1, .int .i64 f.r2, .int .i64 f.r3, .int .i64 f.r4, .string f.op, .slice A m c] 31)) ne2
        have R6 : (U.alloc (.cells #[.int .i64 f.k, .int .i64 f.vk, .int .i64 f.vn, .string f.vs, .int .i64 f.r1, .int .i64 f.r2, .int .i64 f.r3, .int .i64 f.r4, .string f.op, .slice A m c] 31)).heap[U.heap.size]? = some (.cells #[.int .i64 f.k, .int .i64 f.vk, .int .i64 f.vn, .string f.vs, .int .i64 f.r1, .int .i64 f.r2, .int .i64 f.r3, .int .i64 f.r4, .string f.op, .slice A m c] 31 (0, 0)) := heap_alloc_new _ _
        have A6 := A5.keep (Q := fun g => w.heap.size < g) ((Kept.refl x U).alloc (.cells #[.int .i64 f.k, .int .i64 f.vk, .int .i64 f.vn, .string f.vs, .int .i64 f.r1, .int .i64 f.r2, .int .i64 f.r3, .int .i64 f.r4, .string f.op, .slice A m c] 31)) (fun g hg hl => ⟨by have := H5.at_.lt; omega, hg⟩)
        generalize hT : (U.alloc (.cells #[.int .i64 f.k, .int .i64 f.vk, .int .i64 f.vn, .string f.vs, .int .i64 f.r1, .int .i64 f.r2, .int .i64 f.r3, .int .i64 f.r4, .string f.op, .slice A m c] 31)) = T at *
        obtain ⟨f0, f1, f2, f3, f4, f5, f6, f7, f8, f9, z0, z1, z2, z3, z4, z5, z6, z7, z8, z9⟩ := (X6).cells
        go_wp2_with fail
        rw [E.out]
        refine bodyPost_ret (v := .agg #[.int .i64 4, .int .i64 0, .int .i64 0, .string { data := #[] }, .int .i64 0, .int .i64 0, .int .i64 0, .int .i64 0, .string { data := #[] }, .slice (some ⟨U.heap.size, 0, none⟩) 1 1]) (by simp [results, Tryz.results111, go_sem, f0, f1, f2, f3, f4, f5, f6, f7, f8, f9]) rfl (PPost.ok (b := w.heap.size) K6 H6 ?_ (Nat.le_refl _) hxw ?_)
        · refine ⟨some ⟨U.heap.size, 0, none⟩, 1, rfl, Or.inr ⟨_, _, rfl, rowAt_block (by show w.heap.size < U.heap.size; omega) (vs := [nodeV f A m c]) ⟨⟨A, c, by rw [hm], A6⟩, trivial⟩ R6 ?_⟩⟩
          rfl
        · repeat (first | with_reducible exact Kept.refl _ _ | with_reducible refine Kept.setCell ?_ _ _)
    · have hif := Lib.hid (show into = false by rw [HIN.out]; exact decide_eq_false hin)
      have E := Lib.hid (HO.out.trans (unary_deep hs hif.out))
      go_enter Tryz.func111, Tryz.ntmps111
      go_wp2_with fail
      rw [B45.out]
      refine HS.out.mono ?_; rintro e w1 ⟨rfl, n, rfl⟩
      have H1 := (HI.out.drew n).setK ((k : Int) + 1)
      have K1 := (K0.drew n).setCell 1 (.int .i64 ((k : Int) + 1))
      have X1 := HX.kept (((Kept.refl x W).drew n).setCell 1 (.int .i64 ((k : Int) + 1))) ne2
      obtain ⟨c0, c1, c2, c3, c4, c5, y1, y3, y4, y5⟩ := (HI.out.drew n).at_.cells
      go_wp2_with fail
      refine (rinto_no _ H1 (by omega) (by omega)).mono ?_; rintro e w2 ⟨rfl, H2, k2⟩
      have K2 := K1.trans k2
      have X2 := X1.kept k2 ne2
      obtain ⟨f0, f1, f2, f3, f4, f5, f6, f7, f8, f9, z0, z1, z2, z3, z4, z5, z6, z7, z8, z9⟩ := (X2).cells
      go_wp2_with fail
      rw [E.out]
      refine bodyPost_ret (v := .agg #[.int .i64 0, .int .i64 0, .int .i64 0, .string { data := #[] }, .int .i64 0, .int .i64 0, .int .i64 0, .int .i64 0, .string { data := #[] }, .slice none 0 0]) (by simp [results, Tryz.results111, go_sem, f0, f1, f2, f3, f4, f5, f6, f7, f8, f9]) rfl (PPost.err (b := w.heap.size) K2 H2 (nodeV_any fld0 _ _ _) (by decide) (by omega) (by omega) (Nat.le_refl _) hxw ?_)
      repeat (first | with_reducible exact Kept.refl _ _ | with_reducible refine Kept.setCell ?_ _ _)
  · have hs2 : isSign l k [45] = false := by simpa using hs
    rw [hs2] at HS
    have E := Lib.hid (HO.out.trans (unary_no hs2))
    have HP := Lib.hid hp
    go_enter Tryz.func111, Tryz.ntmps111
    go_wp2_with fail
    rw [B45.out]
    refine HS.out.mono ?_; rintro e w1 ⟨rfl, n, rfl⟩
    have H1 := HI.out.drew n
    have K1 := K0.drew n
    have X1 := HX.kept ((Kept.refl x W).drew n) ne2
    go_wp2_with fail
    refine (HP.out _ H1).mono ?_; intro e w3 hp3
    clear H1
    have hs2 := K1.size
    generalize hr : partF l en L into k = R at *
    cases R with
    | error b =>
      obtain ⟨v, rfl, k3, ⟨f, A, m, c, rfl⟩, hb0, k4, n2, hn2, hn3, H3⟩ := hp3
      have K3 := K1.trans k3
      have X3 := X1.kept k3 ne2
      unfold nodeV
      obtain ⟨f0, f1, f2, f3, f4, f5, f6, f7, f8, f9, z0, z1, z2, z3, z4, z5, z6, z7, z8, z9⟩ := (X3).cells
      go_wp2_with fail
      rw [E.out]
      refine bodyPost_ret (v := .agg #[.int .i64 f.k, .int .i64 f.vk, .int .i64 f.vn, .string f.vs, .int .i64 f.r1, .int .i64 f.r2, .int .i64 f.r3, .int .i64 f.r4, .string f.op, .slice A m c]) (by simp [results, Tryz.results111, go_sem, f0, f1, f2, f3, f4, f5, f6, f7, f8, f9]) rfl (PPost.err (b := w.heap.size) K3 H3 (nodeV_any f _ _ _) hb0 hn2 hn3 (Nat.le_refl _) hxw ?_)
      repeat (first | with_reducible exact Kept.refl _ _ | with_reducible refine Kept.setCell ?_ _ _)
    | ok q =>
      obtain ⟨a, k'⟩ := q
      obtain ⟨v, rfl, k3, ⟨A, c, rfl, hA⟩, H3⟩ := hp3
      obtain ⟨f, kd⟩ := a
      simp only at hA
      generalize hm : kd.len = m at *
      have K3 := K1.trans k3
      have X3 := X1.kept k3 ne2
      unfold nodeV
      obtain ⟨f0, f1, f2, f3, f4, f5, f6, f7, f8, f9, z0, z1, z2, z3, z4, z5, z6, z7, z8, z9⟩ := (X3).cells
      go_wp2_with fail
      rw [E.out]
      refine bodyPost_ret (v := .agg #[.int .i64 f.k, .int .i64 f.vk, .int .i64 f.vn, .string f.vs, .int .i64 f.r1, .int .i64 f.r2, .int .i64 f.r3, .int .i64 f.r4, .string f.op, .slice A m c]) (by simp [results, Tryz.results111, go_sem, f0, f1, f2, f3, f4, f5, f6, f7, f8, f9]) rfl (PPost.ok (b := w.heap.size) K3 H3 ⟨A, c, by rw [hm]; rfl, hA.keep (Kept.refl w3.heap.size _) (fun g hg hl => ⟨by omega, by have : (W.drewN n).heap.size = w.heap.size + 1 := hs0; omega⟩)⟩ (Nat.le_refl _) hxw ?_)
      repeat (first | with_reducible exact Kept.refl _ _ | with_reducible refine Kept.setCell ?_ _ _)
end Go.Proofs.YtkdgiadpmfpjnaaGreatDoor.TreeC

/-
  Contract of tree's reference: power.
-/
namespace Go.Proofs.YtkdgiadpmfpjnaaGreatDoor.TreeC
set_option linter.unusedVariables false
open Go.RowKit Go.Proofs.YtkdgiadpmfpjnaaGreatDoor.NumC Go.Proofs.YtkdgiadpmfpjnaaGreatDoor.LexC

/-- A pair's answer, read. -/
theorem pair_row {w : World} {Q : Nat → Prop} {f g : Fld} {A B : Option Addr} {n m c d b : Nat} {ka kb : Fo} {op : List UInt8} (hb : Q b) (h : w.heap[b]? = some (.cells ((nodeV f A n c).cells ++ (nodeV g B m d).cells) 31 (0, 0)))
    (hn : ka.len = n) (hm : kb.len = m) (hA : KidsAt w Q ka A) (hB : KidsAt w Q kb B) : NodeAt w Q (pairN op ⟨f, ka⟩ ⟨g, kb⟩) (nodeV (pairFld (str op)) (some ⟨b, 0, none⟩) 2 2) :=
  ⟨some ⟨b, 0, none⟩, 2, rfl, Or.inr ⟨b, 0, rfl, rowAt_block hb (vs := [nodeV f A n c, nodeV g B m d]) ⟨⟨A, c, by rw [hn], hA⟩, ⟨⟨B, d, by rw [hm], hB⟩, trivial⟩⟩ h rfl⟩⟩

set_option maxRecDepth 100000 in
set_option maxHeartbeats 4000000 in
theorem rpower {x : Nat} {lv : Value} {l : List Tok} {en nest : Int} {L : Lev} {into : Bool} {k : Nat} (w : World) (h : Pre w x lv l en k nest 0 0) (hl : l.length ≤ 300) (hk : k ≤ 700) (hn0 : 0 ≤ nest) (hn1 : nest ≤ 40) (hi : into = decide (nest < 40)) (hL : LGoes l L)
    (hc : into = true → Con x lv l en (nest + 1) L) (hu : ∀ (w : World), Pre w x lv l en k nest 0 0 → Calls Tryz.prog 111 #[.pointer (some ⟨x, 0, none⟩)] w (PPost x lv l en nest (unaryF l en L into k) w)) :
    Calls Tryz.prog 97 #[.pointer (some ⟨x, 0, none⟩)] w (PPost x lv l en nest (powerF l en L into k) w) := by
  have hxw := h.at_.lt
  have HX := NBox.new w
  have H0 := h.alloc (.cells #[.int .i64 0, .int .i64 0, .int .i64 0, .string { data := #[] }, .int .i64 0, .int .i64 0, .int .i64 0, .int .i64 0, .string { data := #[] }, .slice none 0 0] 31)
  have K0 : Kept x w (w.alloc (.cells #[.int .i64 0, .int .i64 0, .int .i64 0, .string { data := #[] }, .int .i64 0, .int .i64 0, .int .i64 0, .int .i64 0, .string { data := #[] }, .slice none 0 0] 31)) := (Kept.refl _ _).alloc _
  generalize hW : (w.alloc (.cells #[.int .i64 0, .int .i64 0, .int .i64 0, .string { data := #[] }, .int .i64 0, .int .i64 0, .int .i64 0, .int .i64 0, .string { data := #[] }, .slice none 0 0] 31)) = W at *
  have HU := Lib.hid (hu W H0)
  have B94 : Hid (({ data := #[94] } : ByteArray) = str [94]) := Lib.hid rfl
  have ne1 : x ≠ w.heap.size := by omega
  have ne2 : w.heap.size ≠ x := by omega
  have lt0 := HX.lt
  generalize hO : powerF l en L into k = O
  have HO := Lib.hid hO.symm
  have HIN := Lib.hid hi
  clear h H0 hO hi hu
  cases hr : unaryF l en L into k with
  | error b =>
    rw [hr] at HU
    go_enter Tryz.func97, Tryz.ntmps97
    go_wp2_with fail
    refine HU.out.mono ?_; intro e w3 hp3
    obtain ⟨v, rfl, k3, ⟨f, A, m, c, rfl⟩, hb0, k4, n2, hn2, hn3, H3⟩ := hp3
    unfold nodeV
    have K1 := K0.trans k3
    have X2 := HX.kept k3 ne2
    have lta : x < w3.heap.size := H3.at_.lt
    have nxa : w3.heap.size ≠ x := by omega
    have nya : x ≠ w3.heap.size := by omega
    have lba := X2.lt
    have nba : w.heap.size ≠ w3.heap.size := by omega
    have nca : w3.heap.size ≠ w.heap.size := by omega
    have L5 : NLoc (w3.alloc (.cells #[.int .i64 f.k, .int .i64 f.vk, .int .i64 f.vn, .string f.vs, .int .i64 f.r1, .int .i64 f.r2, .int .i64 f.r3, .int .i64 f.r4, .string f.op, .slice A m c] 31)) w3.heap.size f A m c := ⟨heap_alloc_new _ _⟩
    have H4 := H3.alloc (.cells #[.int .i64 f.k, .int .i64 f.vk, .int .i64 f.vn, .string f.vs, .int .i64 f.r1, .int .i64 f.r2, .int .i64 f.r3, .int .i64 f.r4, .string f.op, .slice A m c] 31)
    have K6 := K1.trans ((Kept.refl x w3).alloc (.cells #[.int .i64 f.k, .int .i64 f.vk, .int .i64 f.vn, .string f.vs, .int .i64 f.r1, .int .i64 f.r2, .int .i64 f.r3, .int .i64 f.r4, .string f.op, .slice A m c] 31))
    have X7 := X2.kept ((Kept.refl x w3).alloc (.cells #[.int .i64 f.k, .int .i64 f.vk, .int .i64 f.vn, .string f.vs, .int .i64 f.r1, .int .i64 f.r2, .int .i64 f.r3, .int .i64 f.r4, .string f.op, .slice A m c] 31)) ne2
    generalize hV3 : (w3.alloc (.cells #[.int .i64 f.k, .int .i64 f.vk, .int .i64 f.vn, .string f.vs, .int .i64 f.r1, .int .i64 f.r2, .int .i64 f.r3, .int .i64 f.r4, .string f.op, .slice A m c] 31)) = V3 at *
    have E := Lib.hid (HO.out.trans (power_err hr))
    clear hr
    have HS := Lib.hid (rsign_no [94] V3 H4 hb0)
    go_wp2_with fail
    rw [B94.out]
    refine HS.out.mono ?_; rintro e w4 ⟨rfl, n, rfl⟩
    have K8 := K6.trans ((Kept.refl x V3).drew n)
    have X9 := X7.kept ((Kept.refl x V3).drew n) ne2
    have L10 := L5.kept ((Kept.refl x V3).drew n) nxa
    try clear a0 a1 a2 a3 a4 a5 a6 a7 a8 a9 az0 az1 az2 az3 az4 az5 az6 az7 az8 az9
    obtain ⟨a0, a1, a2, a3, a4, a5, a6, a7, a8, a9, az0, az1, az2, az3, az4, az5, az6, az7, az8, az9⟩ := (L10).cells
    try clear f0 f1 f2 f3 f4 f5 f6 f7 f8 f9 z0 z1 z2 z3 z4 z5 z6 z7 z8 z9
    obtain ⟨f0, f1, f2, f3, f4, f5, f6, f7, f8, f9, z0, z1, z2, z3, z4, z5, z6, z7, z8, z9⟩ := (X9).cells
    go_wp2_with fail
    rw [E.out]
    refine bodyPost_ret (v := .agg #[.int .i64 f.k, .int .i64 f.vk, .int .i64 f.vn, .string f.vs, .int .i64 f.r1, .int .i64 f.r2, .int .i64 f.r3, .int .i64 f.r4, .string f.op, .slice A m c]) (by simp [results, Tryz.results97, go_sem, f0, f1, f2, f3, f4, f5, f6, f7, f8, f9]) rfl (PPost.err (b := w.heap.size) K8 (H4.drew n) (nodeV_any f _ _ _) hb0 hn2 hn3 (Nat.le_refl _) hxw ?_)
    repeat (first | with_reducible exact Kept.refl _ _ | with_reducible refine Kept.setCell ?_ _ _)
  | ok q =>
    obtain ⟨a, k'⟩ := q
    rw [hr] at HU
    go_enter Tryz.func97, Tryz.ntmps97
    go_wp2_with fail
    refine HU.out.mono ?_; intro e w3 hp3
    obtain ⟨v, rfl, k3, ⟨A, c, rfl, hA0⟩, H3⟩ := hp3
    obtain ⟨f, kd⟩ := a
    simp only at hA0
    generalize hm : kd.len = m at *
    have HM := Lib.hid hm
    clear hm
    have hA := hA0.keep (Q := fun g => w.heap.size < g) (Kept.refl w3.heap.size w3) (fun g hg hl => ⟨by omega, by omega⟩)
    clear hA0
    unfold nodeV
    have K11 := K0.trans k3
    have X12 := HX.kept k3 ne2
    have lta : x < w3.heap.size := H3.at_.lt
    have nxa : w3.heap.size ≠ x := by omega
    have nya : x ≠ w3.heap.size := by omega
    have lba := X12.lt
    have nba : w.heap.size ≠ w3.heap.size := by omega
    have nca : w3.heap.size ≠ w.heap.size := by omega
    have L15 : NLoc (w3.alloc (.cells #[.int .i64 f.k, .int .i64 f.vk, .int .i64 f.vn, .string f.vs, .int .i64 f.r1, .int .i64 f.r2, .int .i64 f.r3, .int .i64 f.r4, .string f.op, .slice A m c] 31)) w3.heap.size f A m c := ⟨heap_alloc_new _ _⟩
    have H14 := H3.alloc (.cells #[.int .i64 f.k, .int .i64 f.vk, .int .i64 f.vn, .string f.vs, .int .i64 f.r1, .int .i64 f.r2, .int .i64 f.r3, .int .i64 f.r4, .string f.op, .slice A m c] 31)
    have K16 := K11.trans ((Kept.refl x w3).alloc (.cells #[.int .i64 f.k, .int .i64 f.vk, .int .i64 f.vn, .string f.vs, .int .i64 f.r1, .int .i64 f.r2, .int .i64 f.r3, .int .i64 f.r4, .string f.op, .slice A m c] 31))
    have X17 := X12.kept ((Kept.refl x w3).alloc (.cells #[.int .i64 f.k, .int .i64 f.vk, .int .i64 f.vn, .string f.vs, .int .i64 f.r1, .int .i64 f.r2, .int .i64 f.r3, .int .i64 f.r4, .string f.op, .slice A m c] 31)) ne2
    have A18 := hA.keep (Q := (fun g => w.heap.size < g)) ((Kept.refl x w3).alloc (.cells #[.int .i64 f.k, .int .i64 f.vk, .int .i64 f.vn, .string f.vs, .int .i64 f.r1, .int .i64 f.r2, .int .i64 f.r3, .int .i64 f.r4, .string f.op, .slice A m c] 31)) (fun g hg hl => ⟨by have := hg; omega, hg⟩)
    generalize hV13 : (w3.alloc (.cells #[.int .i64 f.k, .int .i64 f.vk, .int .i64 f.vn, .string f.vs, .int .i64 f.r1, .int .i64 f.r2, .int .i64 f.r3, .int .i64 f.r4, .string f.op, .slice A m c] 31)) = V13 at *
    have hg := unary_goes hL _ _ _ hr
    have HS := Lib.hid (rsign [94] V13 H14 hl)
    cases hs : isSign l k' [94] with
    | false =>
      have E := Lib.hid (HO.out.trans (power_one hr hs))
      rw [hs] at HS
      clear hr
      go_wp2_with fail
      rw [B94.out]
      refine HS.out.mono ?_; rintro e w4 ⟨rfl, n, rfl⟩
      have K19 := K16.trans ((Kept.refl x V13).drew n)
      have X20 := X17.kept ((Kept.refl x V13).drew n) ne2
      have L21 := L15.kept ((Kept.refl x V13).drew n) nxa
      have A22 := A18.keep (Q := (fun g => w.heap.size < g)) ((Kept.refl x V13).drew n) (fun g hg hl => ⟨by have := hg; omega, hg⟩)
      try clear a0 a1 a2 a3 a4 a5 a6 a7 a8 a9 az0 az1 az2 az3 az4 az5 az6 az7 az8 az9
      obtain ⟨a0, a1, a2, a3, a4, a5, a6, a7, a8, a9, az0, az1, az2, az3, az4, az5, az6, az7, az8, az9⟩ := (L21).cells
      try clear f0 f1 f2 f3 f4 f5 f6 f7 f8 f9 z0 z1 z2 z3 z4 z5 z6 z7 z8 z9
      obtain ⟨f0, f1, f2, f3, f4, f5, f6, f7, f8, f9, z0, z1, z2, z3, z4, z5, z6, z7, z8, z9⟩ := (X20).cells
      go_wp2_with fail
      rw [E.out]
      refine bodyPost_ret (v := .agg #[.int .i64 f.k, .int .i64 f.vk, .int .i64 f.vn, .string f.vs, .int .i64 f.r1, .int .i64 f.r2, .int .i64 f.r3, .int .i64 f.r4, .string f.op, .slice A m c]) (by simp [results, Tryz.results97, go_sem, f0, f1, f2, f3, f4, f5, f6, f7, f8, f9]) rfl (PPost.ok (b := w.heap.size) K19 (H14.drew n) ⟨A, c, by rw [HM.out]; rfl, A22⟩ (Nat.le_refl _) hxw ?_)
      repeat (first | with_reducible exact Kept.refl _ _ | with_reducible refine Kept.setCell ?_ _ _)
    | true =>
      rw [hs] at HS
      go_wp2_with fail
      rw [B94.out]
      refine HS.out.mono ?_; rintro e w4 ⟨rfl, n, rfl⟩
      have K23 := K16.trans ((Kept.refl x V13).drew n)
      have X24 := X17.kept ((Kept.refl x V13).drew n) ne2
      have L25 := L15.kept ((Kept.refl x V13).drew n) nxa
      have A26 := A18.keep (Q := (fun g => w.heap.size < g)) ((Kept.refl x V13).drew n) (fun g hg hl => ⟨by have := hg; omega, hg⟩)
      try clear c0 c1 c2 c3 c4 c5 y1 y3 y4 y5
      obtain ⟨c0, c1, c2, c3, c4, c5, y1, y3, y4, y5⟩ := ((H14.drew n)).at_.cells
      have H28 := (H14.drew n).setK ((k' : Int) + 1)
      have K29 := K23.trans ((Kept.refl x (V13.drewN n)).setCell 1 (.int .i64 ((k' : Int) + 1)))
      have X30 := X24.kept ((Kept.refl x (V13.drewN n)).setCell 1 (.int .i64 ((k' : Int) + 1))) ne2
      have L31 := L25.kept ((Kept.refl x (V13.drewN n)).setCell 1 (.int .i64 ((k' : Int) + 1))) nxa
      have A32 := A26.keep (Q := (fun g => w.heap.size < g)) ((Kept.refl x (V13.drewN n)).setCell 1 (.int .i64 ((k' : Int) + 1))) (fun g hg hl => ⟨by have := hg; omega, hg⟩)
      generalize hV27 : ((V13.drewN n).setCell ⟨x, 1, none⟩ (.int .i64 ((k' : Int) + 1))) = V27 at *
      go_wp2_with fail
      by_cases hin : nest < 40
      rotate_left
      · have hif := Lib.hid (show into = false by rw [HIN.out]; exact decide_eq_false hin)
        have E := Lib.hid (HO.out.trans (power_deep hr hs hif.out))
        clear hr
        refine (rinto_no _ H28 (by omega) (by omega)).mono ?_; rintro e w5 ⟨rfl, H5, k5⟩
        have K33 := K29.trans k5
        have X34 := X30.kept k5 ne2
        have L35 := L31.kept k5 nxa
        have A36 := A32.keep (Q := (fun g => w.heap.size < g)) k5 (fun g hg hl => ⟨by have := hg; omega, hg⟩)
        try clear a0 a1 a2 a3 a4 a5 a6 a7 a8 a9 az0 az1 az2 az3 az4 az5 az6 az7 az8 az9
        obtain ⟨a0, a1, a2, a3, a4, a5, a6, a7, a8, a9, az0, az1, az2, az3, az4, az5, az6, az7, az8, az9⟩ := (L35).cells
        try clear f0 f1 f2 f3 f4 f5 f6 f7 f8 f9 z0 z1 z2 z3 z4 z5 z6 z7 z8 z9
        obtain ⟨f0, f1, f2, f3, f4, f5, f6, f7, f8, f9, z0, z1, z2, z3, z4, z5, z6, z7, z8, z9⟩ := (X34).cells
        go_wp2_with fail
        rw [E.out]
        refine bodyPost_ret (v := .agg #[.int .i64 f.k, .int .i64 f.vk, .int .i64 f.vn, .string f.vs, .int .i64 f.r1, .int .i64 f.r2, .int .i64 f.r3, .int .i64 f.r4, .string f.op, .slice A m c]) (by simp [results, Tryz.results97, go_sem, f0, f1, f2, f3, f4, f5, f6, f7, f8, f9]) rfl (PPost.err (b := w.heap.size) K33 H5 (nodeV_any f _ _ _) (by decide) (by omega) (by omega) (Nat.le_refl _) hxw ?_)
        repeat (first | with_reducible exact Kept.refl _ _ | with_reducible refine Kept.setCell ?_ _ _)
      · have hit := Lib.hid (show into = true by rw [HIN.out]; exact decide_eq_true hin)
        have HC := Lib.hid (hc hit.out)
        refine (rinto_yes _ H28 hn0 hin).mono ?_; rintro e w5 ⟨rfl, H5, k5⟩
        have K37 := K29.trans k5
        have X38 := X30.kept k5 ne2
        have L39 := L31.kept k5 nxa
        have A40 := A32.keep (Q := (fun g => w.heap.size < g)) k5 (fun g hg hl => ⟨by have := hg; omega, hg⟩)
        rw [show ((k' : Int) + 1) = ((k' + 1 : Nat) : Int) from by omega] at H5
        clear k5
        try clear c0 c1 c2 c3 c4 c5 y1 y3 y4 y5
        go_wp2_with fail
        refine (HC.out.pw (k' + 1) w5 (by omega) H5).mono ?_; intro e w6 hp6
        have lt5 := X38.lt
        cases hr2 : L.pw (k' + 1) with
        | error b =>
          rw [hr2] at hp6
          obtain ⟨v2, rfl, k6, ⟨g, B, m2, d, rfl⟩, hb0, k4, n2, hn2, hn3, H6⟩ := hp6
          have E := Lib.hid (HO.out.trans (power_bad hr hs hit.out hr2))
          clear hr hr2
          unfold nodeV
          have K41 := K37.trans k6
          have X42 := X38.kept k6 ne2
          have L43 := L39.kept k6 nxa
          have A44 := A40.keep (Q := (fun g => w.heap.size < g)) k6 (fun g hg hl => ⟨by have := hg; omega, hg⟩)
          have ltb : x < w6.heap.size := H6.at_.lt
          have nxb : w6.heap.size ≠ x := by omega
          have nyb : x ≠ w6.heap.size := by omega
          have lbb := X42.lt
          have nbb : w.heap.size ≠ w6.heap.size := by omega
          have ncb : w6.heap.size ≠ w.heap.size := by omega
          have nab := L43.lt
          have mab : w3.heap.size ≠ w6.heap.size := by omega
          have qab : w6.heap.size ≠ w3.heap.size := by omega
          have L47 : NLoc (w6.alloc (.cells #[.int .i64 g.k, .int .i64 g.vk, .int .i64 g.vn, .string g.vs, .int .i64 g.r1, .int .i64 g.r2, .int .i64 g.r3, .int .i64 g.r4, .string g.op, .slice B m2 d] 31)) w6.heap.size g B m2 d := ⟨heap_alloc_new _ _⟩
          have H46 := H6.alloc (.cells #[.int .i64 g.k, .int .i64 g.vk, .int .i64 g.vn, .string g.vs, .int .i64 g.r1, .int .i64 g.r2, .int .i64 g.r3, .int .i64 g.r4, .string g.op, .slice B m2 d] 31)
          have K48 := K41.trans ((Kept.refl x w6).alloc (.cells #[.int .i64 g.k, .int .i64 g.vk, .int .i64 g.vn, .string g.vs, .int .i64 g.r1, .int .i64 g.r2, .int .i64 g.r3, .int .i64 g.r4, .string g.op, .slice B m2 d] 31))
          have X49 := X42.kept ((Kept.refl x w6).alloc (.cells #[.int .i64 g.k, .int .i64 g.vk, .int .i64 g.vn, .string g.vs, .int .i64 g.r1, .int .i64 g.r2, .int .i64 g.r3, .int .i64 g.r4, .string g.op, .slice B m2 d] 31)) ne2
          have L50 := L43.kept ((Kept.refl x w6).alloc (.cells #[.int .i64 g.k, .int .i64 g.vk, .int .i64 g.vn, .string g.vs, .int .i64 g.r1, .int .i64 g.r2, .int .i64 g.r3, .int .i64 g.r4, .string g.op, .slice B m2 d] 31)) nxa
          have A51 := A44.keep (Q := (fun g => w.heap.size < g)) ((Kept.refl x w6).alloc (.cells #[.int .i64 g.k, .int .i64 g.vk, .int .i64 g.vn, .string g.vs, .int .i64 g.r1, .int .i64 g.r2, .int .i64 g.r3, .int .i64 g.r4, .string g.op, .slice B m2 d] 31)) (fun g hg hl => ⟨by have := hg; omega, hg⟩)
          generalize hV45 : (w6.alloc (.cells #[.int .i64 g.k, .int .i64 g.vk, .int .i64 g.vn, .string g.vs, .int .i64 g.r1, .int .i64 g.r2, .int .i64 g.r3, .int .i64 g.r4, .string g.op, .slice B m2 d] 31)) = V45 at *
          try clear c0 c1 c2 c3 c4 c5 y1 y3 y4 y5
          obtain ⟨c0, c1, c2, c3, c4, c5, y1, y3, y4, y5⟩ := (H46).at_.cells
          have H53 := H46.setN (n2 - 1)
          have K54 := K48.trans ((Kept.refl x V45).setCell 3 (.int .i64 (n2 - 1)))
          have X55 := X49.kept ((Kept.refl x V45).setCell 3 (.int .i64 (n2 - 1))) ne2
          have L56 := L50.kept ((Kept.refl x V45).setCell 3 (.int .i64 (n2 - 1))) nxa
          have L57 := L47.kept ((Kept.refl x V45).setCell 3 (.int .i64 (n2 - 1))) nxb
          have A58 := A51.keep (Q := (fun g => w.heap.size < g)) ((Kept.refl x V45).setCell 3 (.int .i64 (n2 - 1))) (fun g hg hl => ⟨by have := hg; omega, hg⟩)
          generalize hV52 : (V45.setCell ⟨x, 3, none⟩ (.int .i64 (n2 - 1))) = V52 at *
          try clear a0 a1 a2 a3 a4 a5 a6 a7 a8 a9 az0 az1 az2 az3 az4 az5 az6 az7 az8 az9
          obtain ⟨a0, a1, a2, a3, a4, a5, a6, a7, a8, a9, az0, az1, az2, az3, az4, az5, az6, az7, az8, az9⟩ := (L56).cells
          try clear b0 b1 b2 b3 b4 b5 b6 b7 b8 b9 bz0 bz1 bz2 bz3 bz4 bz5 bz6 bz7 bz8 bz9
          obtain ⟨b0, b1, b2, b3, b4, b5, b6, b7, b8, b9, bz0, bz1, bz2, bz3, bz4, bz5, bz6, bz7, bz8, bz9⟩ := (L57).cells
          have HP := Lib.hid (rpair (str [94]) f g A B m m2 c d V52)
          unfold nodeV at HP
          go_wp2_with fail
          rw [B94.out]
          refine HP.out.mono ?_; rintro e w8 ⟨pb, rfl, hpb, hpr, hb8⟩
          have k8 : Kept x V52 w8 := Kept.of hb8
          have H59 : Pre w8 x lv l en k4 (n2 - 1) b.1 b.2 := ⟨H53.at_.keep hb8 H53.at_.lt, H53.tok.kept k8 (Nat.le_refl _)⟩
          have lt8 := X55.lt
          have K60 := K54.trans k8
          have X61 := X55.kept k8 ne2
          have L62 := L56.kept k8 nxa
          have L63 := L57.kept k8 nxb
          have A64 := A58.keep (Q := (fun g => w.heap.size < g)) k8 (fun g hg hl => ⟨by have := hg; omega, hg⟩)
          try clear f0 f1 f2 f3 f4 f5 f6 f7 f8 f9 z0 z1 z2 z3 z4 z5 z6 z7 z8 z9
          obtain ⟨f0, f1, f2, f3, f4, f5, f6, f7, f8, f9, z0, z1, z2, z3, z4, z5, z6, z7, z8, z9⟩ := (X61).cells
          go_wp2_with fail
          rw [E.out]
          refine bodyPost_ret (v := .agg #[.int .i64 (pairFld (str [94])).k, .int .i64 (pairFld (str [94])).vk, .int .i64 (pairFld (str [94])).vn, .string (pairFld (str [94])).vs, .int .i64 (pairFld (str [94])).r1, .int .i64 (pairFld (str [94])).r2, .int .i64 (pairFld (str [94])).r3, .int .i64 (pairFld (str [94])).r4, .string (pairFld (str [94])).op, .slice (some ⟨pb, 0, none⟩) 2 2]) (by simp [results, Tryz.results97, go_sem, f0, f1, f2, f3, f4, f5, f6, f7, f8, f9]) rfl (PPost.err (b := w.heap.size) K60 H59 (nodeV_any (pairFld (str [94])) _ _ _) hb0 (by omega) (by omega) (Nat.le_refl _) hxw ?_)
          repeat (first | with_reducible exact Kept.refl _ _ | with_reducible refine Kept.setCell ?_ _ _)
        | ok q2 =>
          obtain ⟨a2, k2⟩ := q2
          rw [hr2] at hp6
          obtain ⟨v2, rfl, k6, ⟨B, d, rfl, hB0⟩, H6⟩ := hp6
          have E := Lib.hid (HO.out.trans (power_ok hr hs hit.out hr2))
          clear hr hr2
          obtain ⟨g, kb⟩ := a2
          simp only at hB0
          generalize hm2 : kb.len = m2 at *
          have HM2 := Lib.hid hm2
          clear hm2
          have hB := hB0.keep (Q := fun g => w.heap.size < g) (Kept.refl w6.heap.size w6) (fun g hg hl => ⟨by omega, by omega⟩)
          clear hB0
          unfold nodeV
          have K65 := K37.trans k6
          have X66 := X38.kept k6 ne2
          have L67 := L39.kept k6 nxa
          have A68 := A40.keep (Q := (fun g => w.heap.size < g)) k6 (fun g hg hl => ⟨by have := hg; omega, hg⟩)
          have ltb : x < w6.heap.size := H6.at_.lt
          have nxb : w6.heap.size ≠ x := by omega
          have nyb : x ≠ w6.heap.size := by omega
          have lbb := X66.lt
          have nbb : w.heap.size ≠ w6.heap.size := by omega
          have ncb : w6.heap.size ≠ w.heap.size := by omega
          have nab := L67.lt
          have mab : w3.heap.size ≠ w6.heap.size := by omega
          have qab : w6.heap.size ≠ w3.heap.size := by omega
          have L71 : NLoc (w6.alloc (.cells #[.int .i64 g.k, .int .i64 g.vk, .int .i64 g.vn, .string g.vs, .int .i64 g.r1, .int .i64 g.r2, .int .i64 g.r3, .int .i64 g.r4, .string g.op, .slice B m2 d] 31)) w6.heap.size g B m2 d := ⟨heap_alloc_new _ _⟩
          have H70 := H6.alloc (.cells #[.int .i64 g.k, .int .i64 g.vk, .int .i64 g.vn, .string g.vs, .int .i64 g.r1, .int .i64 g.r2, .int .i64 g.r3, .int .i64 g.r4, .string g.op, .slice B m2 d] 31)
          have K72 := K65.trans ((Kept.refl x w6).alloc (.cells #[.int .i64 g.k, .int .i64 g.vk, .int .i64 g.vn, .string g.vs, .int .i64 g.r1, .int .i64 g.r2, .int .i64 g.r3, .int .i64 g.r4, .string g.op, .slice B m2 d] 31))
          have X73 := X66.kept ((Kept.refl x w6).alloc (.cells #[.int .i64 g.k, .int .i64 g.vk, .int .i64 g.vn, .string g.vs, .int .i64 g.r1, .int .i64 g.r2, .int .i64 g.r3, .int .i64 g.r4, .string g.op, .slice B m2 d] 31)) ne2
          have L74 := L67.kept ((Kept.refl x w6).alloc (.cells #[.int .i64 g.k, .int .i64 g.vk, .int .i64 g.vn, .string g.vs, .int .i64 g.r1, .int .i64 g.r2, .int .i64 g.r3, .int .i64 g.r4, .string g.op, .slice B m2 d] 31)) nxa
          have A75 := A68.keep (Q := (fun g => w.heap.size < g)) ((Kept.refl x w6).alloc (.cells #[.int .i64 g.k, .int .i64 g.vk, .int .i64 g.vn, .string g.vs, .int .i64 g.r1, .int .i64 g.r2, .int .i64 g.r3, .int .i64 g.r4, .string g.op, .slice B m2 d] 31)) (fun g hg hl => ⟨by have := hg; omega, hg⟩)
          have A76 := hB.keep (Q := (fun g => w.heap.size < g)) ((Kept.refl x w6).alloc (.cells #[.int .i64 g.k, .int .i64 g.vk, .int .i64 g.vn, .string g.vs, .int .i64 g.r1, .int .i64 g.r2, .int .i64 g.r3, .int .i64 g.r4, .string g.op, .slice B m2 d] 31)) (fun g hg hl => ⟨by have := hg; omega, hg⟩)
          generalize hV69 : (w6.alloc (.cells #[.int .i64 g.k, .int .i64 g.vk, .int .i64 g.vn, .string g.vs, .int .i64 g.r1, .int .i64 g.r2, .int .i64 g.r3, .int .i64 g.r4, .string g.op, .slice B m2 d] 31)) = V69 at *
          try clear c0 c1 c2 c3 c4 c5 y1 y3 y4 y5
          obtain ⟨c0, c1, c2, c3, c4, c5, y1, y3, y4, y5⟩ := (H70).at_.cells
          have H78 := H70.setN (nest + 1 - 1)
          have K79 := K72.trans ((Kept.refl x V69).setCell 3 (.int .i64 (nest + 1 - 1)))
          have X80 := X73.kept ((Kept.refl x V69).setCell 3 (.int .i64 (nest + 1 - 1))) ne2
          have L81 := L74.kept ((Kept.refl x V69).setCell 3 (.int .i64 (nest + 1 - 1))) nxa
          have L82 := L71.kept ((Kept.refl x V69).setCell 3 (.int .i64 (nest + 1 - 1))) nxb
          have A83 := A75.keep (Q := (fun g => w.heap.size < g)) ((Kept.refl x V69).setCell 3 (.int .i64 (nest + 1 - 1))) (fun g hg hl => ⟨by have := hg; omega, hg⟩)
          have A84 := A76.keep (Q := (fun g => w.heap.size < g)) ((Kept.refl x V69).setCell 3 (.int .i64 (nest + 1 - 1))) (fun g hg hl => ⟨by have := hg; omega, hg⟩)
          generalize hV77 : (V69.setCell ⟨x, 3, none⟩ (.int .i64 (nest + 1 - 1))) = V77 at *
          rw [show nest + 1 - 1 = nest from by omega] at *
          try clear a0 a1 a2 a3 a4 a5 a6 a7 a8 a9 az0 az1 az2 az3 az4 az5 az6 az7 az8 az9
          obtain ⟨a0, a1, a2, a3, a4, a5, a6, a7, a8, a9, az0, az1, az2, az3, az4, az5, az6, az7, az8, az9⟩ := (L81).cells
          try clear b0 b1 b2 b3 b4 b5 b6 b7 b8 b9 bz0 bz1 bz2 bz3 bz4 bz5 bz6 bz7 bz8 bz9
          obtain ⟨b0, b1, b2, b3, b4, b5, b6, b7, b8, b9, bz0, bz1, bz2, bz3, bz4, bz5, bz6, bz7, bz8, bz9⟩ := (L82).cells
          have HP := Lib.hid (rpair (str [94]) f g A B m m2 c d V77)
          unfold nodeV at HP
          go_wp2_with fail
          rw [B94.out]
          refine HP.out.mono ?_; rintro e w8 ⟨pb, rfl, hpb, hpr, hb8⟩
          have k8 : Kept x V77 w8 := Kept.of hb8
          have H85 : Pre w8 x lv l en (k2 : Nat) nest 0 0 := ⟨H78.at_.keep hb8 H78.at_.lt, H78.tok.kept k8 (Nat.le_refl _)⟩
          have lt8 := X80.lt
          have K86 := K79.trans k8
          have X87 := X80.kept k8 ne2
          have L88 := L81.kept k8 nxa
          have L89 := L82.kept k8 nxb
          have A90 := A83.keep (Q := (fun g => w.heap.size < g)) k8 (fun g hg hl => ⟨by have := hg; omega, hg⟩)
          have A91 := A84.keep (Q := (fun g => w.heap.size < g)) k8 (fun g hg hl => ⟨by have := hg; omega, hg⟩)
          try clear f0 f1 f2 f3 f4 f5 f6 f7 f8 f9 z0 z1 z2 z3 z4 z5 z6 z7 z8 z9
          obtain ⟨f0, f1, f2, f3, f4, f5, f6, f7, f8, f9, z0, z1, z2, z3, z4, z5, z6, z7, z8, z9⟩ := (X87).cells
          go_wp2_with fail
          rw [E.out]
          refine bodyPost_ret (v := .agg #[.int .i64 (pairFld (str [94])).k, .int .i64 (pairFld (str [94])).vk, .int .i64 (pairFld (str [94])).vn, .string (pairFld (str [94])).vs, .int .i64 (pairFld (str [94])).r1, .int .i64 (pairFld (str [94])).r2, .int .i64 (pairFld (str [94])).r3, .int .i64 (pairFld (str [94])).r4, .string (pairFld (str [94])).op, .slice (some ⟨pb, 0, none⟩) 2 2]) (by simp [results, Tryz.results97, go_sem, f0, f1, f2, f3, f4, f5, f6, f7, f8, f9]) rfl (PPost.ok (b := w.heap.size) K86 H85 (pair_row (by omega) hpr HM.out HM2.out A90 A91) (Nat.le_refl _) hxw ?_)
          repeat (first | with_reducible exact Kept.refl _ _ | with_reducible refine Kept.setCell ?_ _ _)
end Go.Proofs.YtkdgiadpmfpjnaaGreatDoor.TreeC

/-
  Contracts of tree's reference: unary, power, under a tighter bound.
-/
namespace Go.Proofs.YtkdgiadpmfpjnaaGreatDoor.TreeC
set_option linter.unusedVariables false
open Go.RowKit Go.Proofs.YtkdgiadpmfpjnaaGreatDoor.NumC Go.Proofs.YtkdgiadpmfpjnaaGreatDoor.LexC

/-- What stands nested once more answers as the grammar says. -/
structure Con1 (x : Nat) (lv : Value) (l : List Tok) (en nest : Int) (L : Lev) : Prop where
  fm : ∀ (k : Nat) (w : World), k ≤ 301 → Pre w x lv l en k nest 0 0 → Calls Tryz.prog 25 #[.pointer (some ⟨x, 0, none⟩)] w (PPost x lv l en nest (L.fm k) w)
  pw : ∀ (k : Nat) (w : World), k ≤ 301 → Pre w x lv l en k nest 0 0 → Calls Tryz.prog 97 #[.pointer (some ⟨x, 0, none⟩)] w (PPost x lv l en nest (L.pw k) w)
  un : ∀ (k : Nat) (w : World), k ≤ 301 → Pre w x lv l en k nest 0 0 → Calls Tryz.prog 111 #[.pointer (some ⟨x, 0, none⟩)] w (PPost x lv l en nest (L.un k) w)

set_option maxRecDepth 100000 in
set_option maxHeartbeats 4000000 in
theorem runary1 {x : Nat} {lv : Value} {l : List Tok} {en nest : Int} {L : Lev} {into : Bool} {k : Nat} (w : World) (h : Pre w x lv l en k nest 0 0) (hl : l.length ≤ 300) (hk : k ≤ 301) (hn0 : 0 ≤ nest) (hn1 : nest ≤ 40) (hi : into = decide (nest < 40))
    (hc : into = true → Con1 x lv l en (nest + 1) L) (hp : ∀ (w : World), Pre w x lv l en k nest 0 0 → Calls Tryz.prog 123 #[.pointer (some ⟨x, 0, none⟩)] w (PPost x lv l en nest (partF l en L into k) w)) :
    Calls Tryz.prog 111 #[.pointer (some ⟨x, 0, none⟩)] w (PPost x lv l en nest (unaryF l en L into k) w) := by
  have hxw := h.at_.lt
  have HX := NBox.new w
  have H0 := h.alloc (.cells #[.int .i64 0, .int .i64 0, .int .i64 0, .string { data := #[] }, .int .i64 0, .int .i64 0, .int .i64 0, .int .i64 0, .string { data := #[] }, .slice none 0 0] 31)
  have K0 : Kept x w (w.alloc (.cells #[.int .i64 0, .int .i64 0, .int .i64 0, .string { data := #[] }, .int .i64 0, .int .i64 0, .int .i64 0, .int .i64 0, .string { data := #[] }, .slice none 0 0] 31)) := (Kept.refl _ _).alloc _
  have hs0 : (w.alloc (.cells #[.int .i64 0, .int .i64 0, .int .i64 0, .string { data := #[] }, .int .i64 0, .int .i64 0, .int .i64 0, .int .i64 0, .string { data := #[] }, .slice none 0 0] 31)).heap.size = w.heap.size + 1 := heap_one _ _
  generalize hW : (w.alloc (.cells #[.int .i64 0, .int .i64 0, .int .i64 0, .string { data := #[] }, .int .i64 0, .int .i64 0, .int .i64 0, .int .i64 0, .string { data := #[] }, .slice none 0 0] 31)) = W at *
  have HS := Lib.hid (rsign [45] W H0 hl)
  have HI := Lib.hid H0
  have B45 : Hid (({ data := #[45] } : ByteArray) = str [45]) := Lib.hid rfl
  have ne1 : x ≠ w.heap.size := by omega
  have ne2 : w.heap.size ≠ x := by omega
  generalize hO : unaryF l en L into k = O
  have HO := Lib.hid hO.symm
  have HIN := Lib.hid hi
  clear h H0 hO hi
  by_cases hs : isSign l k [45] = true
  · rw [hs] at HS
    by_cases hin : nest < 40
    · have hlt := sign_lt hs
      have hit := Lib.hid (show into = true by rw [HIN.out]; exact decide_eq_true hin)
      have HC := Lib.hid (hc hit.out)
      go_enter Tryz.func111, Tryz.ntmps111
      go_wp2_with fail
      rw [B45.out]
      refine HS.out.mono ?_; rintro e w1 ⟨rfl, n, rfl⟩
      have H1 := (HI.out.drew n).setK ((k : Int) + 1)
      have K1 := (K0.drew n).setCell 1 (.int .i64 ((k : Int) + 1))
      have X1 := HX.kept (((Kept.refl x W).drew n).setCell 1 (.int .i64 ((k : Int) + 1))) ne2
      obtain ⟨c0, c1, c2, c3, c4, c5, y1, y3, y4, y5⟩ := (HI.out.drew n).at_.cells
      go_wp2_with fail
      refine (rinto_yes _ H1 hn0 hin).mono ?_; rintro e w2 ⟨rfl, H2, k2⟩
      have K2 := K1.trans k2
      have X2 := X1.kept k2 ne2
      have lt2 := X2.lt
      rw [show ((k : Int) + 1) = ((k + 1 : Nat) : Int) from by omega] at H2
      clear c0 c1 c2 c3 c4 c5 y1 y3 y4 y5
      clear H1 K1 X1 k2
      go_wp2_with fail
      refine (HC.out.un (k + 1) w2 (by omega) H2).mono ?_; intro e w3 hp3
      clear H2
      have hs2 := K2.size
      cases hr : L.un (k + 1) with
      | error b =>
        rw [hr] at hp3
        obtain ⟨v, rfl, k3, ⟨f, A, m, c, rfl⟩, hb0, k4, n2, hn2, hn3, H3⟩ := hp3
        have E := Lib.hid (HO.out.trans (unary_err hs hit.out hr))
        clear hr
        have K3 := K2.trans k3
        have X3 := X2.kept k3 ne2
        have lt3 := X3.lt
        have hs3 := k3.size
        unfold nodeV
        have K4 := K3.alloc (.cells #[.int .i64 f.k, .int .i64 f.vk, .int .i64 f.vn, .string f.vs, .int .i64 f.r1, .int .i64 f.r2, .int .i64 f.r3, .int .i64 f.r4, .string f.op, .slice A m c] 31)
        have X4 := X3.kept ((Kept.refl x w3).alloc (.cells #[.int .i64 f.k, .int .i64 f.vk, .int .i64 f.vn, .string f.vs, .int .i64 f.r1, .int .i64 f.r2, .int .i64 f.r3, .int .i64 f.r4, .string f.op, .slice A m c] 31)) ne2
        have H4 := H3.alloc (.cells #[.int .i64 f.k, .int .i64 f.vk, .int .i64 f.vn, .string f.vs, .int .i64 f.r1, .int .i64 f.r2, .int .i64 f.r3, .int .i64 f.r4, .string f.op, .slice A m c] 31)
        have L4 : NLoc (w3.alloc (.cells #[.int .i64 f.k, .int .i64 f.vk, .int .i64 f.vn, .string f.vs, .int .i64 f.r1, .int .i64 f.r2, .int .i64 f.r3, .int .i64 f.r4, .string f.op, .slice A m c] 31)) w3.heap.size f A m c := ⟨heap_alloc_new _ _⟩
        generalize hV : (w3.alloc (.cells #[.int .i64 f.k, .int .i64 f.vk, .int .i64 f.vn, .string f.vs, .int .i64 f.r1, .int .i64 f.r2, .int .i64 f.r3, .int .i64 f.r4, .string f.op, .slice A m c] 31)) = V at *
        have nb : w.heap.size ≠ w3.heap.size := by omega
        have nb2 : w3.heap.size ≠ w.heap.size := by omega
        have nx : x ≠ w3.heap.size := by have := H3.at_.lt; omega
        have nx2 : w3.heap.size ≠ x := by omega
        have H5 := H4.setN (n2 - 1)
        have K5 := K4.setCell 3 (.int .i64 (n2 - 1))
        have X5 := X4.kept ((Kept.refl x V).setCell 3 (.int .i64 (n2 - 1))) ne2
        have L5 := L4.kept ((Kept.refl x V).setCell 3 (.int .i64 (n2 - 1))) nx2
        obtain ⟨c0, c1, c2, c3, c4, c5, y1, y3, y4, y5⟩ := (H4).at_.cells
        generalize hU : (V.setCell ⟨x, 3, none⟩ (.int .i64 (n2 - 1))) = U at *
        obtain ⟨d0, d1, d2, d3, d4, d5, d6, d7, d8, d9, dz0, dz1, dz2, dz3, dz4, dz5, dz6, dz7, dz8, dz9⟩ := (L5).cells
        have lt5 := X5.lt
        have K6 := K5.alloc (.cells #[.int .i64 f.k, .int .i64 f.vk, .int .i64 f.vn, .string f.vs, .int .i64 f.r1, .int .i64 f.r2, .int .i64 f.r3, .int .i64 f.r4, .string f.op, .slice A m c] 31)
        have H6 := H5.alloc (.cells #[.int .i64 f.k, .int .i64 f.vk, .int .i64 f.vn, .string f.vs, .int .i64 f.r1, .int .i64 f.r2, .int .i64 f.r3, .int .i64 f.r4, .string f.op, .slice A m c] 31)
        have X6 := X5.kept ((Kept.refl x U).alloc (.cells #[.int .i64 f.k, .int .i64 f.vk, .int .i64 f.vn, .string f.vs, .int .i64 f.r1, .int .i64 f.r2, .int .i64 f.r3, .int .i64 f.r4, .string f.op, .slice A m c] 31)) ne2
        have R6 : (U.alloc (.cells #[.int .i64 f.k, .int .i64 f.vk, .int .i64 f.vn, .string f.vs, .int .i64 f.r1, .int .i64 f.r2, .int .i64 f.r3, .int .i64 f.r4, .string f.op, .slice A m c] 31)).heap[U.heap.size]? = some (.cells #[.int .i64 f.k, .int .i64 f.vk, .int .i64 f.vn, .string f.vs, .int .i64 f.r1, .int .i64 f.r2, .int .i64 f.r3, .int .i64 f.r4, .string f.op, .slice A m c] 31 (0, 0)) := heap_alloc_new _ _
        generalize hT : (U.alloc (.cells #[.int .i64 f.k, .int .i64 f.vk, .int .i64 f.vn, .string f.vs, .int .i64 f.r1, .int .i64 f.r2, .int .i64 f.r3, .int .i64 f.r4, .string f.op, .slice A m c] 31)) = T at *
        obtain ⟨f0, f1, f2, f3, f4, f5, f6, f7, f8, f9, z0, z1, z2, z3, z4, z5, z6, z7, z8, z9⟩ := (X6).cells
        go_wp2_with fail
        rw [E.out]
        refine bodyPost_ret (v := .agg #[.int .i64 4, .int .i64 0, .int .i64 0, .string { data := #[] }, .int .i64 0, .int .i64 0, .int .i64 0, .int .i64 0, .string { data := #[] }, .slice (some ⟨U.heap.size, 0, none⟩) 1 1]) (by simp [results, Tryz.results111, go_sem, f0, f1, f2, f3, f4, f5, f6, f7, f8, f9]) rfl (PPost.err (b := w.heap.size) K6 H6 (nodeV_any ⟨4, 0, 0, nob, 0, 0, 0, 0, nob⟩ _ _ _) hb0 (by omega) (by omega) (Nat.le_refl _) hxw ?_)
        repeat (first | with_reducible exact Kept.refl _ _ | with_reducible refine Kept.setCell ?_ _ _)
      | ok q =>
        obtain ⟨a, k'⟩ := q
        rw [hr] at hp3
        obtain ⟨v, rfl, k3, ⟨A, c, rfl, hA⟩, H3⟩ := hp3
        have E := Lib.hid (HO.out.trans (unary_ok hs hit.out hr))
        obtain ⟨f, kd⟩ := a
        simp only at hA
        clear hr
        generalize hm : kd.len = m at *
        have K3 := K2.trans k3
        have X3 := X2.kept k3 ne2
        have lt3 := X3.lt
        have hs3 := k3.size
        unfold nodeV
        have K4 := K3.alloc (.cells #[.int .i64 f.k, .int .i64 f.vk, .int .i64 f.vn, .string f.vs, .int .i64 f.r1, .int .i64 f.r2, .int .i64 f.r3, .int .i64 f.r4, .string f.op, .slice A m c] 31)
        have X4 := X3.kept ((Kept.refl x w3).alloc (.cells #[.int .i64 f.k, .int .i64 f.vk, .int .i64 f.vn, .string f.vs, .int .i64 f.r1, .int .i64 f.r2, .int .i64 f.r3, .int .i64 f.r4, .string f.op, .slice A m c] 31)) ne2
        have H4 := H3.alloc (.cells #[.int .i64 f.k, .int .i64 f.vk, .int .i64 f.vn, .string f.vs, .int .i64 f.r1, .int .i64 f.r2, .int .i64 f.r3, .int .i64 f.r4, .string f.op, .slice A m c] 31)
        have L4 : NLoc (w3.alloc (.cells #[.int .i64 f.k, .int .i64 f.vk, .int .i64 f.vn, .string f.vs, .int .i64 f.r1, .int .i64 f.r2, .int .i64 f.r3, .int .i64 f.r4, .string f.op, .slice A m c] 31)) w3.heap.size f A m c := ⟨heap_alloc_new _ _⟩
        have A4 : KidsAt (w3.alloc (.cells #[.int .i64 f.k, .int .i64 f.vk, .int .i64 f.vn, .string f.vs, .int .i64 f.r1, .int .i64 f.r2, .int .i64 f.r3, .int .i64 f.r4, .string f.op, .slice A m c] 31)) (fun g => w.heap.size < g ∧ g ≠ w3.heap.size) kd A := hA.keep ((Kept.refl x w3).alloc _) (fun g hg hl => ⟨by have := H3.at_.lt; omega, by omega, by omega⟩)
        generalize hV : (w3.alloc (.cells #[.int .i64 f.k, .int .i64 f.vk, .int .i64 f.vn, .string f.vs, .int .i64 f.r1, .int .i64 f.r2, .int .i64 f.r3, .int .i64 f.r4, .string f.op, .slice A m c] 31)) = V at *
        have nb : w.heap.size ≠ w3.heap.size := by omega
        have nb2 : w3.heap.size ≠ w.heap.size := by omega
        have nx : x ≠ w3.heap.size := by have := H3.at_.lt; omega
        have nx2 : w3.heap.size ≠ x := by omega
        have H5 := H4.setN ((nest + 1) - 1)
        have K5 := K4.setCell 3 (.int .i64 ((nest + 1) - 1))
        have X5 := X4.kept ((Kept.refl x V).setCell 3 (.int .i64 ((nest + 1) - 1))) ne2
        have L5 := L4.kept ((Kept.refl x V).setCell 3 (.int .i64 ((nest + 1) - 1))) nx2
        have A5 := A4.keep (Q := fun g => w.heap.size < g) ((Kept.refl x V).setCell 3 (.int .i64 ((nest + 1) - 1))) (fun g hg hl => ⟨by omega, by omega⟩)
        rw [show nest + 1 - 1 = nest from by omega] at H5 K5 X5 L5 A5
        obtain ⟨c0, c1, c2, c3, c4, c5, y1, y3, y4, y5⟩ := (H4).at_.cells
        generalize hU : (V.setCell ⟨x, 3, none⟩ (.int .i64 nest)) = U at *
        obtain ⟨d0, d1, d2, d3, d4, d5, d6, d7, d8, d9, dz0, dz1, dz2, dz3, dz4, dz5, dz6, dz7, dz8, dz9⟩ := (L5).cells
        have lt5 := X5.lt
        have K6 := K5.alloc (.cells #[.int .i64 f.k, .int .i64 f.vk, .int .i64 f.vn, .string f.vs, .int .i64 f.r1, .int .i64 f.r2, .int .i64 f.r3, .int .i64 f.r4, .string f.op, .slice A m c] 31)
        have H6 := H5.alloc (.cells #[.int .i64 f.k, .int .i64 f.vk, .int .i64 f.vn, .string f.vs, .int .i64 f.r1, .int .i64 f.r2, .int .i64 f.r3, .int .i64 f.r4, .string f.op, .slice A m c] 31)
        have X6 := X5.kept ((Kept.refl x U).alloc (.cells #[.int .i64 f.k, .int .i64 f.vk, .int .i64 f.vn, .string f.vs, .int .i64 f.r1, .int .i64 f.r2, .int .i64 f.r3, .int .i64 f.r4, .string f.op, .slice A m c] 31)) ne2
        have R6 : (U.alloc (.cells #[.int .i64 f.k, .int .i64 f.vk, .int .i64 f.vn, .string f.vs, .int .i64 f.r1, .int .i64 f.r2, .int .i64 f.r3, .int .i64 f.r4, .string f.op, .slice A m c] 31)).heap[U.heap.size]? = some (.cells #[.int .i64 f.k, .int .i64 f.vk, .int .i64 f.vn, .string f.vs, .int .i64 f.r1, .int .i64 f.r2, .int .i64 f.r3, .int .i64 f.r4, .string f.op, .slice A m c] 31 (0, 0)) := heap_alloc_new _ _
        have A6 := A5.keep (Q := fun g => w.heap.size < g) ((Kept.refl x U).alloc (.cells #[.int .i64 f.k, .int .i64 f.vk, .int .i64 f.vn, .string f.vs, .int .i64 f.r1, .int .i64 f.r2, .int .i64 f.r3, .int .i64 f.r4, .string f.op, .slice A m c] 31)) (fun g hg hl => ⟨by have := H5.at_.lt; omega, hg⟩)
        generalize hT : (U.alloc (.cells #[.int .i64 f.k, .int .i64 f.vk, .int .i64 f.vn, .string f.vs, .int .i64 f.r1, .int .i64 f.r2, .int .i64 f.r3, .int .i64 f.r4, .string f.op, .slice A m c] 31)) = T at *
        obtain ⟨f0, f1, f2, f3, f4, f5, f6, f7, f8, f9, z0, z1, z2, z3, z4, z5, z6, z7, z8, z9⟩ := (X6).cells
        go_wp2_with fail
        rw [E.out]
        refine bodyPost_ret (v := .agg #[.int .i64 4, .int .i64 0, .int .i64 0, .string { data := #[] }, .int .i64 0, .int .i64 0, .int .i64 0, .int .i64 0, .string { data := #[] }, .slice (some ⟨U.heap.size, 0, none⟩) 1 1]) (by simp [results, Tryz.results111, go_sem, f0, f1, f2, f3, f4, f5, f6, f7, f8, f9]) rfl (PPost.ok (b := w.heap.size) K6 H6 ?_ (Nat.le_refl _) hxw ?_)
        · refine ⟨some ⟨U.heap.size, 0, none⟩, 1, rfl, Or.inr ⟨_, _, rfl, rowAt_block (by show w.heap.size < U.heap.size; omega) (vs := [nodeV f A m c]) ⟨⟨A, c, by rw [hm], A6⟩, trivial⟩ R6 ?_⟩⟩
          rfl
        · repeat (first | with_reducible exact Kept.refl _ _ | with_reducible refine Kept.setCell ?_ _ _)
    · have hif := Lib.hid (show into = false by rw [HIN.out]; exact decide_eq_false hin)
      have E := Lib.hid (HO.out.trans (unary_deep hs hif.out))
      go_enter Tryz.func111, Tryz.ntmps111
      go_wp2_with fail
      rw [B45.out]
      refine HS.out.mono ?_; rintro e w1 ⟨rfl, n, rfl⟩
      have H1 := (HI.out.drew n).setK ((k : Int) + 1)
      have K1 := (K0.drew n).setCell 1 (.int .i64 ((k : Int) + 1))
      have X1 := HX.kept (((Kept.refl x W).drew n).setCell 1 (.int .i64 ((k : Int) + 1))) ne2
      obtain ⟨c0, c1, c2, c3, c4, c5, y1, y3, y4, y5⟩ := (HI.out.drew n).at_.cells
      go_wp2_with fail
      refine (rinto_no _ H1 (by omega) (by omega)).mono ?_; rintro e w2 ⟨rfl, H2, k2⟩
      have K2 := K1.trans k2
      have X2 := X1.kept k2 ne2
      obtain ⟨f0, f1, f2, f3, f4, f5, f6, f7, f8, f9, z0, z1, z2, z3, z4, z5, z6, z7, z8, z9⟩ := (X2).cells
      go_wp2_with fail
      rw [E.out]
      refine bodyPost_ret (v := .agg #[.int .i64 0, .int .i64 0, .int .i64 0, .string { data := #[] }, .int .i64 0, .int .i64 0, .int .i64 0, .int .i64 0, .string { data := #[] }, .slice none 0 0]) (by simp [results, Tryz.results111, go_sem, f0, f1, f2, f3, f4, f5, f6, f7, f8, f9]) rfl (PPost.err (b := w.heap.size) K2 H2 (nodeV_any fld0 _ _ _) (by decide) (by omega) (by omega) (Nat.le_refl _) hxw ?_)
      repeat (first | with_reducible exact Kept.refl _ _ | with_reducible refine Kept.setCell ?_ _ _)
  · have hs2 : isSign l k [45] = false := by simpa using hs
    rw [hs2] at HS
    have E := Lib.hid (HO.out.trans (unary_no hs2))
    have HP := Lib.hid hp
    go_enter Tryz.func111, Tryz.ntmps111
    go_wp2_with fail
    rw [B45.out]
    refine HS.out.mono ?_; rintro e w1 ⟨rfl, n, rfl⟩
    have H1 := HI.out.drew n
    have K1 := K0.drew n
    have X1 := HX.kept ((Kept.refl x W).drew n) ne2
    go_wp2_with fail
    refine (HP.out _ H1).mono ?_; intro e w3 hp3
    clear H1
    have hs2 := K1.size
    generalize hr : partF l en L into k = R at *
    cases R with
    | error b =>
      obtain ⟨v, rfl, k3, ⟨f, A, m, c, rfl⟩, hb0, k4, n2, hn2, hn3, H3⟩ := hp3
      have K3 := K1.trans k3
      have X3 := X1.kept k3 ne2
      unfold nodeV
      obtain ⟨f0, f1, f2, f3, f4, f5, f6, f7, f8, f9, z0, z1, z2, z3, z4, z5, z6, z7, z8, z9⟩ := (X3).cells
      go_wp2_with fail
      rw [E.out]
      refine bodyPost_ret (v := .agg #[.int .i64 f.k, .int .i64 f.vk, .int .i64 f.vn, .string f.vs, .int .i64 f.r1, .int .i64 f.r2, .int .i64 f.r3, .int .i64 f.r4, .string f.op, .slice A m c]) (by simp [results, Tryz.results111, go_sem, f0, f1, f2, f3, f4, f5, f6, f7, f8, f9]) rfl (PPost.err (b := w.heap.size) K3 H3 (nodeV_any f _ _ _) hb0 hn2 hn3 (Nat.le_refl _) hxw ?_)
      repeat (first | with_reducible exact Kept.refl _ _ | with_reducible refine Kept.setCell ?_ _ _)
    | ok q =>
      obtain ⟨a, k'⟩ := q
      obtain ⟨v, rfl, k3, ⟨A, c, rfl, hA⟩, H3⟩ := hp3
      obtain ⟨f, kd⟩ := a
      simp only at hA
      generalize hm : kd.len = m at *
      have K3 := K1.trans k3
      have X3 := X1.kept k3 ne2
      unfold nodeV
      obtain ⟨f0, f1, f2, f3, f4, f5, f6, f7, f8, f9, z0, z1, z2, z3, z4, z5, z6, z7, z8, z9⟩ := (X3).cells
      go_wp2_with fail
      rw [E.out]
      refine bodyPost_ret (v := .agg #[.int .i64 f.k, .int .i64 f.vk, .int .i64 f.vn, .string f.vs, .int .i64 f.r1, .int .i64 f.r2, .int .i64 f.r3, .int .i64 f.r4, .string f.op, .slice A m c]) (by simp [results, Tryz.results111, go_sem, f0, f1, f2, f3, f4, f5, f6, f7, f8, f9]) rfl (PPost.ok (b := w.heap.size) K3 H3 ⟨A, c, by rw [hm]; rfl, hA.keep (Kept.refl w3.heap.size _) (fun g hg hl => ⟨by omega, by have : (W.drewN n).heap.size = w.heap.size + 1 := hs0; omega⟩)⟩ (Nat.le_refl _) hxw ?_)
      repeat (first | with_reducible exact Kept.refl _ _ | with_reducible refine Kept.setCell ?_ _ _)

set_option maxRecDepth 100000 in
set_option maxHeartbeats 4000000 in
theorem rpower1 {x : Nat} {lv : Value} {l : List Tok} {en nest : Int} {L : Lev} {into : Bool} {k : Nat} (w : World) (h : Pre w x lv l en k nest 0 0) (hl : l.length ≤ 300) (hk : k ≤ 301) (hn0 : 0 ≤ nest) (hn1 : nest ≤ 40) (hi : into = decide (nest < 40)) (hL : LGoes l L)
    (hc : into = true → Con1 x lv l en (nest + 1) L) (hu : ∀ (w : World), Pre w x lv l en k nest 0 0 → Calls Tryz.prog 111 #[.pointer (some ⟨x, 0, none⟩)] w (PPost x lv l en nest (unaryF l en L into k) w)) :
    Calls Tryz.prog 97 #[.pointer (some ⟨x, 0, none⟩)] w (PPost x lv l en nest (powerF l en L into k) w) := by
  have hxw := h.at_.lt
  have HX := NBox.new w
  have H0 := h.alloc (.cells #[.int .i64 0, .int .i64 0, .int .i64 0, .string { data := #[] }, .int .i64 0, .int .i64 0, .int .i64 0, .int .i64 0, .string { data := #[] }, .slice none 0 0] 31)
  have K0 : Kept x w (w.alloc (.cells #[.int .i64 0, .int .i64 0, .int .i64 0, .string { data := #[] }, .int .i64 0, .int .i64 0, .int .i64 0, .int .i64 0, .string { data := #[] }, .slice none 0 0] 31)) := (Kept.refl _ _).alloc _
  generalize hW : (w.alloc (.cells #[.int .i64 0, .int .i64 0, .int .i64 0, .string { data := #[] }, .int .i64 0, .int .i64 0, .int .i64 0, .int .i64 0, .string { data := #[] }, .slice none 0 0] 31)) = W at *
  have HU := Lib.hid (hu W H0)
  have B94 : Hid (({ data := #[94] } : ByteArray) = str [94]) := Lib.hid rfl
  have ne1 : x ≠ w.heap.size := by omega
  have ne2 : w.heap.size ≠ x := by omega
  have lt0 := HX.lt
  generalize hO : powerF l en L into k = O
  have HO := Lib.hid hO.symm
  have HIN := Lib.hid hi
  clear h H0 hO hi hu
  cases hr : unaryF l en L into k with
  | error b =>
    rw [hr] at HU
    go_enter Tryz.func97, Tryz.ntmps97
    go_wp2_with fail
    refine HU.out.mono ?_; intro e w3 hp3
    obtain ⟨v, rfl, k3, ⟨f, A, m, c, rfl⟩, hb0, k4, n2, hn2, hn3, H3⟩ := hp3
    unfold nodeV
    have K1 := K0.trans k3
    have X2 := HX.kept k3 ne2
    have lta : x < w3.heap.size := H3.at_.lt
    have nxa : w3.heap.size ≠ x := by omega
    have nya : x ≠ w3.heap.size := by omega
    have lba := X2.lt
    have nba : w.heap.size ≠ w3.heap.size := by omega
    have nca : w3.heap.size ≠ w.heap.size := by omega
    have L5 : NLoc (w3.alloc (.cells #[.int .i64 f.k, .int .i64 f.vk, .int .i64 f.vn, .string f.vs, .int .i64 f.r1, .int .i64 f.r2, .int .i64 f.r3, .int .i64 f.r4, .string f.op, .slice A m c] 31)) w3.heap.size f A m c := ⟨heap_alloc_new _ _⟩
    have H4 := H3.alloc (.cells #[.int .i64 f.k, .int .i64 f.vk, .int .i64 f.vn, .string f.vs, .int .i64 f.r1, .int .i64 f.r2, .int .i64 f.r3, .int .i64 f.r4, .string f.op, .slice A m c] 31)
    have K6 := K1.trans ((Kept.refl x w3).alloc (.cells #[.int .i64 f.k, .int .i64 f.vk, .int .i64 f.vn, .string f.vs, .int .i64 f.r1, .int .i64 f.r2, .int .i64 f.r3, .int .i64 f.r4, .string f.op, .slice A m c] 31))
    have X7 := X2.kept ((Kept.refl x w3).alloc (.cells #[.int .i64 f.k, .int .i64 f.vk, .int .i64 f.vn, .string f.vs, .int .i64 f.r1, .int .i64 f.r2, .int .i64 f.r3, .int .i64 f.r4, .string f.op, .slice A m c] 31)) ne2
    generalize hV3 : (w3.alloc (.cells #[.int .i64 f.k, .int .i64 f.vk, .int .i64 f.vn, .string f.vs, .int .i64 f.r1, .int .i64 f.r2, .int .i64 f.r3, .int .i64 f.r4, .string f.op, .slice A m c] 31)) = V3 at *
    have E := Lib.hid (HO.out.trans (power_err hr))
    clear hr
    have HS := Lib.hid (rsign_no [94] V3 H4 hb0)
    go_wp2_with fail
    rw [B94.out]
    refine HS.out.mono ?_; rintro e w4 ⟨rfl, n, rfl⟩
    have K8 := K6.trans ((Kept.refl x V3).drew n)
    have X9 := X7.kept ((Kept.refl x V3).drew n) ne2
    have L10 := L5.kept ((Kept.refl x V3).drew n) nxa
    try clear a0 a1 a2 a3 a4 a5 a6 a7 a8 a9 az0 az1 az2 az3 az4 az5 az6 az7 az8 az9
    obtain ⟨a0, a1, a2, a3, a4, a5, a6, a7, a8, a9, az0, az1, az2, az3, az4, az5, az6, az7, az8, az9⟩ := (L10).cells
    try clear f0 f1 f2 f3 f4 f5 f6 f7 f8 f9 z0 z1 z2 z3 z4 z5 z6 z7 z8 z9
    obtain ⟨f0, f1, f2, f3, f4, f5, f6, f7, f8, f9, z0, z1, z2, z3, z4, z5, z6, z7, z8, z9⟩ := (X9).cells
    go_wp2_with fail
    rw [E.out]
    refine bodyPost_ret (v := .agg #[.int .i64 f.k, .int .i64 f.vk, .int .i64 f.vn, .string f.vs, .int .i64 f.r1, .int .i64 f.r2, .int .i64 f.r3, .int .i64 f.r4, .string f.op, .slice A m c]) (by simp [results, Tryz.results97, go_sem, f0, f1, f2, f3, f4, f5, f6, f7, f8, f9]) rfl (PPost.err (b := w.heap.size) K8 (H4.drew n) (nodeV_any f _ _ _) hb0 hn2 hn3 (Nat.le_refl _) hxw ?_)
    repeat (first | with_reducible exact Kept.refl _ _ | with_reducible refine Kept.setCell ?_ _ _)
  | ok q =>
    obtain ⟨a, k'⟩ := q
    rw [hr] at HU
    go_enter Tryz.func97, Tryz.ntmps97
    go_wp2_with fail
    refine HU.out.mono ?_; intro e w3 hp3
    obtain ⟨v, rfl, k3, ⟨A, c, rfl, hA0⟩, H3⟩ := hp3
    obtain ⟨f, kd⟩ := a
    simp only at hA0
    generalize hm : kd.len = m at *
    have HM := Lib.hid hm
    clear hm
    have hA := hA0.keep (Q := fun g => w.heap.size < g) (Kept.refl w3.heap.size w3) (fun g hg hl => ⟨by omega, by omega⟩)
    clear hA0
    unfold nodeV
    have K11 := K0.trans k3
    have X12 := HX.kept k3 ne2
    have lta : x < w3.heap.size := H3.at_.lt
    have nxa : w3.heap.size ≠ x := by omega
    have nya : x ≠ w3.heap.size := by omega
    have lba := X12.lt
    have nba : w.heap.size ≠ w3.heap.size := by omega
    have nca : w3.heap.size ≠ w.heap.size := by omega
    have L15 : NLoc (w3.alloc (.cells #[.int .i64 f.k, .int .i64 f.vk, .int .i64 f.vn, .string f.vs, .int .i64 f.r1, .int .i64 f.r2, .int .i64 f.r3, .int .i64 f.r4, .string f.op, .slice A m c] 31)) w3.heap.size f A m c := ⟨heap_alloc_new _ _⟩
    have H14 := H3.alloc (.cells #[.int .i64 f.k, .int .i64 f.vk, .int .i64 f.vn, .string f.vs, .int .i64 f.r1, .int .i64 f.r2, .int .i64 f.r3, .int .i64 f.r4, .string f.op, .slice A m c] 31)
    have K16 := K11.trans ((Kept.refl x w3).alloc (.cells #[.int .i64 f.k, .int .i64 f.vk, .int .i64 f.vn, .string f.vs, .int .i64 f.r1, .int .i64 f.r2, .int .i64 f.r3, .int .i64 f.r4, .string f.op, .slice A m c] 31))
    have X17 := X12.kept ((Kept.refl x w3).alloc (.cells #[.int .i64 f.k, .int .i64 f.vk, .int .i64 f.vn, .string f.vs, .int .i64 f.r1, .int .i64 f.r2, .int .i64 f.r3, .int .i64 f.r4, .string f.op, .slice A m c] 31)) ne2
    have A18 := hA.keep (Q := (fun g => w.heap.size < g)) ((Kept.refl x w3).alloc (.cells #[.int .i64 f.k, .int .i64 f.vk, .int .i64 f.vn, .string f.vs, .int .i64 f.r1, .int .i64 f.r2, .int .i64 f.r3, .int .i64 f.r4, .string f.op, .slice A m c] 31)) (fun g hg hl => ⟨by have := hg; omega, hg⟩)
    generalize hV13 : (w3.alloc (.cells #[.int .i64 f.k, .int .i64 f.vk, .int .i64 f.vn, .string f.vs, .int .i64 f.r1, .int .i64 f.r2, .int .i64 f.r3, .int .i64 f.r4, .string f.op, .slice A m c] 31)) = V13 at *
    have hg := unary_goes hL _ _ _ hr
    have HS := Lib.hid (rsign [94] V13 H14 hl)
    cases hs : isSign l k' [94] with
    | false =>
      have E := Lib.hid (HO.out.trans (power_one hr hs))
      rw [hs] at HS
      clear hr
      go_wp2_with fail
      rw [B94.out]
      refine HS.out.mono ?_; rintro e w4 ⟨rfl, n, rfl⟩
      have K19 := K16.trans ((Kept.refl x V13).drew n)
      have X20 := X17.kept ((Kept.refl x V13).drew n) ne2
      have L21 := L15.kept ((Kept.refl x V13).drew n) nxa
      have A22 := A18.keep (Q := (fun g => w.heap.size < g)) ((Kept.refl x V13).drew n) (fun g hg hl => ⟨by have := hg; omega, hg⟩)
      try clear a0 a1 a2 a3 a4 a5 a6 a7 a8 a9 az0 az1 az2 az3 az4 az5 az6 az7 az8 az9
      obtain ⟨a0, a1, a2, a3, a4, a5, a6, a7, a8, a9, az0, az1, az2, az3, az4, az5, az6, az7, az8, az9⟩ := (L21).cells
      try clear f0 f1 f2 f3 f4 f5 f6 f7 f8 f9 z0 z1 z2 z3 z4 z5 z6 z7 z8 z9
      obtain ⟨f0, f1, f2, f3, f4, f5, f6, f7, f8, f9, z0, z1, z2, z3, z4, z5, z6, z7, z8, z9⟩ := (X20).cells
      go_wp2_with fail
      rw [E.out]
      refine bodyPost_ret (v := .agg #[.int .i64 f.k, .int .i64 f.vk, .int .i64 f.vn, .string f.vs, .int .i64 f.r1, .int .i64 f.r2, .int .i64 f.r3, .int .i64 f.r4, .string f.op, .slice A m c]) (by simp [results, Tryz.results97, go_sem, f0, f1, f2, f3, f4, f5, f6, f7, f8, f9]) rfl (PPost.ok (b := w.heap.size) K19 (H14.drew n) ⟨A, c, by rw [HM.out]; rfl, A22⟩ (Nat.le_refl _) hxw ?_)
      repeat (first | with_reducible exact Kept.refl _ _ | with_reducible refine Kept.setCell ?_ _ _)
    | true =>
      rw [hs] at HS
      go_wp2_with fail
      rw [B94.out]
      refine HS.out.mono ?_; rintro e w4 ⟨rfl, n, rfl⟩
      have K23 := K16.trans ((Kept.refl x V13).drew n)
      have X24 := X17.kept ((Kept.refl x V13).drew n) ne2
      have L25 := L15.kept ((Kept.refl x V13).drew n) nxa
      have A26 := A18.keep (Q := (fun g => w.heap.size < g)) ((Kept.refl x V13).drew n) (fun g hg hl => ⟨by have := hg; omega, hg⟩)
      try clear c0 c1 c2 c3 c4 c5 y1 y3 y4 y5
      obtain ⟨c0, c1, c2, c3, c4, c5, y1, y3, y4, y5⟩ := ((H14.drew n)).at_.cells
      have H28 := (H14.drew n).setK ((k' : Int) + 1)
      have K29 := K23.trans ((Kept.refl x (V13.drewN n)).setCell 1 (.int .i64 ((k' : Int) + 1)))
      have X30 := X24.kept ((Kept.refl x (V13.drewN n)).setCell 1 (.int .i64 ((k' : Int) + 1))) ne2
      have L31 := L25.kept ((Kept.refl x (V13.drewN n)).setCell 1 (.int .i64 ((k' : Int) + 1))) nxa
      have A32 := A26.keep (Q := (fun g => w.heap.size < g)) ((Kept.refl x (V13.drewN n)).setCell 1 (.int .i64 ((k' : Int) + 1))) (fun g hg hl => ⟨by have := hg; omega, hg⟩)
      generalize hV27 : ((V13.drewN n).setCell ⟨x, 1, none⟩ (.int .i64 ((k' : Int) + 1))) = V27 at *
      go_wp2_with fail
      by_cases hin : nest < 40
      rotate_left
      · have hif := Lib.hid (show into = false by rw [HIN.out]; exact decide_eq_false hin)
        have E := Lib.hid (HO.out.trans (power_deep hr hs hif.out))
        clear hr
        refine (rinto_no _ H28 (by omega) (by omega)).mono ?_; rintro e w5 ⟨rfl, H5, k5⟩
        have K33 := K29.trans k5
        have X34 := X30.kept k5 ne2
        have L35 := L31.kept k5 nxa
        have A36 := A32.keep (Q := (fun g => w.heap.size < g)) k5 (fun g hg hl => ⟨by have := hg; omega, hg⟩)
        try clear a0 a1 a2 a3 a4 a5 a6 a7 a8 a9 az0 az1 az2 az3 az4 az5 az6 az7 az8 az9
        obtain ⟨a0, a1, a2, a3, a4, a5, a6, a7, a8, a9, az0, az1, az2, az3, az4, az5, az6, az7, az8, az9⟩ := (L35).cells
        try clear f0 f1 f2 f3 f4 f5 f6 f7 f8 f9 z0 z1 z2 z3 z4 z5 z6 z7 z8 z9
        obtain ⟨f0, f1, f2, f3, f4, f5, f6, f7, f8, f9, z0, z1, z2, z3, z4, z5, z6, z7, z8, z9⟩ := (X34).cells
        go_wp2_with fail
        rw [E.out]
        refine bodyPost_ret (v := .agg #[.int .i64 f.k, .int .i64 f.vk, .int .i64 f.vn, .string f.vs, .int .i64 f.r1, .int .i64 f.r2, .int .i64 f.r3, .int .i64 f.r4, .string f.op, .slice A m c]) (by simp [results, Tryz.results97, go_sem, f0, f1, f2, f3, f4, f5, f6, f7, f8, f9]) rfl (PPost.err (b := w.heap.size) K33 H5 (nodeV_any f _ _ _) (by decide) (by omega) (by omega) (Nat.le_refl _) hxw ?_)
        repeat (first | with_reducible exact Kept.refl _ _ | with_reducible refine Kept.setCell ?_ _ _)
      · have hit := Lib.hid (show into = true by rw [HIN.out]; exact decide_eq_true hin)
        have HC := Lib.hid (hc hit.out)
        refine (rinto_yes _ H28 hn0 hin).mono ?_; rintro e w5 ⟨rfl, H5, k5⟩
        have K37 := K29.trans k5
        have X38 := X30.kept k5 ne2
        have L39 := L31.kept k5 nxa
        have A40 := A32.keep (Q := (fun g => w.heap.size < g)) k5 (fun g hg hl => ⟨by have := hg; omega, hg⟩)
        rw [show ((k' : Int) + 1) = ((k' + 1 : Nat) : Int) from by omega] at H5
        clear k5
        try clear c0 c1 c2 c3 c4 c5 y1 y3 y4 y5
        go_wp2_with fail
        refine (HC.out.pw (k' + 1) w5 (by omega) H5).mono ?_; intro e w6 hp6
        have lt5 := X38.lt
        cases hr2 : L.pw (k' + 1) with
        | error b =>
          rw [hr2] at hp6
          obtain ⟨v2, rfl, k6, ⟨g, B, m2, d, rfl⟩, hb0, k4, n2, hn2, hn3, H6⟩ := hp6
          have E := Lib.hid (HO.out.trans (power_bad hr hs hit.out hr2))
          clear hr hr2
          unfold nodeV
          have K41 := K37.trans k6
          have X42 := X38.kept k6 ne2
          have L43 := L39.kept k6 nxa
          have A44 := A40.keep (Q := (fun g => w.heap.size < g)) k6 (fun g hg hl => ⟨by have := hg; omega, hg⟩)
          have ltb : x < w6.heap.size := H6.at_.lt
          have nxb : w6.heap.size ≠ x := by omega
          have nyb : x ≠ w6.heap.size := by omega
          have lbb := X42.lt
          have nbb : w.heap.size ≠ w6.heap.size := by omega
          have ncb : w6.heap.size ≠ w.heap.size := by omega
          have nab := L43.lt
          have mab : w3.heap.size ≠ w6.heap.size := by omega
          have qab : w6.heap.size ≠ w3.heap.size := by omega
          have L47 : NLoc (w6.alloc (.cells #[.int .i64 g.k, .int .i64 g.vk, .int .i64 g.vn, .string g.vs, .int .i64 g.r1, .int .i64 g.r2, .int .i64 g.r3, .int .i64 g.r4, .string g.op, .slice B m2 d] 31)) w6.heap.size g B m2 d := ⟨heap_alloc_new _ _⟩
          have H46 := H6.alloc (.cells #[.int .i64 g.k, .int .i64 g.vk, .int .i64 g.vn, .string g.vs, .int .i64 g.r1, .int .i64 g.r2, .int .i64 g.r3, .int .i64 g.r4, .string g.op, .slice B m2 d] 31)
          have K48 := K41.trans ((Kept.refl x w6).alloc (.cells #[.int .i64 g.k, .int .i64 g.vk, .int .i64 g.vn, .string g.vs, .int .i64 g.r1, .int .i64 g.r2, .int .i64 g.r3, .int .i64 g.r4, .string g.op, .slice B m2 d] 31))
          have X49 := X42.kept ((Kept.refl x w6).alloc (.cells #[.int .i64 g.k, .int .i64 g.vk, .int .i64 g.vn, .string g.vs, .int .i64 g.r1, .int .i64 g.r2, .int .i64 g.r3, .int .i64 g.r4, .string g.op, .slice B m2 d] 31)) ne2
          have L50 := L43.kept ((Kept.refl x w6).alloc (.cells #[.int .i64 g.k, .int .i64 g.vk, .int .i64 g.vn, .string g.vs, .int .i64 g.r1, .int .i64 g.r2, .int .i64 g.r3, .int .i64 g.r4, .string g.op, .slice B m2 d] 31)) nxa
          have A51 := A44.keep (Q := (fun g => w.heap.size < g)) ((Kept.refl x w6).alloc (.cells #[.int .i64 g.k, .int .i64 g.vk, .int .i64 g.vn, .string g.vs, .int .i64 g.r1, .int .i64 g.r2, .int .i64 g.r3, .int .i64 g.r4, .string g.op, .slice B m2 d] 31)) (fun g hg hl => ⟨by have := hg; omega, hg⟩)
          generalize hV45 : (w6.alloc (.cells #[.int .i64 g.k, .int .i64 g.vk, .int .i64 g.vn, .string g.vs, .int .i64 g.r1, .int .i64 g.r2, .int .i64 g.r3, .int .i64 g.r4, .string g.op, .slice B m2 d] 31)) = V45 at *
          try clear c0 c1 c2 c3 c4 c5 y1 y3 y4 y5
          obtain ⟨c0, c1, c2, c3, c4, c5, y1, y3, y4, y5⟩ := (H46).at_.cells
          have H53 := H46.setN (n2 - 1)
          have K54 := K48.trans ((Kept.refl x V45).setCell 3 (.int .i64 (n2 - 1)))
          have X55 := X49.kept ((Kept.refl x V45).setCell 3 (.int .i64 (n2 - 1))) ne2
          have L56 := L50.kept ((Kept.refl x V45).setCell 3 (.int .i64 (n2 - 1))) nxa
          have L57 := L47.kept ((Kept.refl x V45).setCell 3 (.int .i64 (n2 - 1))) nxb
          have A58 := A51.keep (Q := (fun g => w.heap.size < g)) ((Kept.refl x V45).setCell 3 (.int .i64 (n2 - 1))) (fun g hg hl => ⟨by have := hg; omega, hg⟩)
          generalize hV52 : (V45.setCell ⟨x, 3, none⟩ (.int .i64 (n2 - 1))) = V52 at *
          try clear a0 a1 a2 a3 a4 a5 a6 a7 a8 a9 az0 az1 az2 az3 az4 az5 az6 az7 az8 az9
          obtain ⟨a0, a1, a2, a3, a4, a5, a6, a7, a8, a9, az0, az1, az2, az3, az4, az5, az6, az7, az8, az9⟩ := (L56).cells
          try clear b0 b1 b2 b3 b4 b5 b6 b7 b8 b9 bz0 bz1 bz2 bz3 bz4 bz5 bz6 bz7 bz8 bz9
          obtain ⟨b0, b1, b2, b3, b4, b5, b6, b7, b8, b9, bz0, bz1, bz2, bz3, bz4, bz5, bz6, bz7, bz8, bz9⟩ := (L57).cells
          have HP := Lib.hid (rpair (str [94]) f g A B m m2 c d V52)
          unfold nodeV at HP
          go_wp2_with fail
          rw [B94.out]
          refine HP.out.mono ?_; rintro e w8 ⟨pb, rfl, hpb, hpr, hb8⟩
          have k8 : Kept x V52 w8 := Kept.of hb8
          have H59 : Pre w8 x lv l en k4 (n2 - 1) b.1 b.2 := ⟨H53.at_.keep hb8 H53.at_.lt, H53.tok.kept k8 (Nat.le_refl _)⟩
          have lt8 := X55.lt
          have K60 := K54.trans k8
          have X61 := X55.kept k8 ne2
          have L62 := L56.kept k8 nxa
          have L63 := L57.kept k8 nxb
          have A64 := A58.keep (Q := (fun g => w.heap.size < g)) k8 (fun g hg hl => ⟨by have := hg; omega, hg⟩)
          try clear f0 f1 f2 f3 f4 f5 f6 f7 f8 f9 z0 z1 z2 z3 z4 z5 z6 z7 z8 z9
          obtain ⟨f0, f1, f2, f3, f4, f5, f6, f7, f8, f9, z0, z1, z2, z3, z4, z5, z6, z7, z8, z9⟩ := (X61).cells
          go_wp2_with fail
          rw [E.out]
          refine bodyPost_ret (v := .agg #[.int .i64 (pairFld (str [94])).k, .int .i64 (pairFld (str [94])).vk, .int .i64 (pairFld (str [94])).vn, .string (pairFld (str [94])).vs, .int .i64 (pairFld (str [94])).r1, .int .i64 (pairFld (str [94])).r2, .int .i64 (pairFld (str [94])).r3, .int .i64 (pairFld (str [94])).r4, .string (pairFld (str [94])).op, .slice (some ⟨pb, 0, none⟩) 2 2]) (by simp [results, Tryz.results97, go_sem, f0, f1, f2, f3, f4, f5, f6, f7, f8, f9]) rfl (PPost.err (b := w.heap.size) K60 H59 (nodeV_any (pairFld (str [94])) _ _ _) hb0 (by omega) (by omega) (Nat.le_refl _) hxw ?_)
          repeat (first | with_reducible exact Kept.refl _ _ | with_reducible refine Kept.setCell ?_ _ _)
        | ok q2 =>
          obtain ⟨a2, k2⟩ := q2
          rw [hr2] at hp6
          obtain ⟨v2, rfl, k6, ⟨B, d, rfl, hB0⟩, H6⟩ := hp6
          have E := Lib.hid (HO.out.trans (power_ok hr hs hit.out hr2))
          clear hr hr2
          obtain ⟨g, kb⟩ := a2
          simp only at hB0
          generalize hm2 : kb.len = m2 at *
          have HM2 := Lib.hid hm2
          clear hm2
          have hB := hB0.keep (Q := fun g => w.heap.size < g) (Kept.refl w6.heap.size w6) (fun g hg hl => ⟨by omega, by omega⟩)
          clear hB0
          unfold nodeV
          have K65 := K37.trans k6
          have X66 := X38.kept k6 ne2
          have L67 := L39.kept k6 nxa
          have A68 := A40.keep (Q := (fun g => w.heap.size < g)) k6 (fun g hg hl => ⟨by have := hg; omega, hg⟩)
          have ltb : x < w6.heap.size := H6.at_.lt
          have nxb : w6.heap.size ≠ x := by omega
          have nyb : x ≠ w6.heap.size := by omega
          have lbb := X66.lt
          have nbb : w.heap.size ≠ w6.heap.size := by omega
          have ncb : w6.heap.size ≠ w.heap.size := by omega
          have nab := L67.lt
          have mab : w3.heap.size ≠ w6.heap.size := by omega
          have qab : w6.heap.size ≠ w3.heap.size := by omega
          have L71 : NLoc (w6.alloc (.cells #[.int .i64 g.k, .int .i64 g.vk, .int .i64 g.vn, .string g.vs, .int .i64 g.r1, .int .i64 g.r2, .int .i64 g.r3, .int .i64 g.r4, .string g.op, .slice B m2 d] 31)) w6.heap.size g B m2 d := ⟨heap_alloc_new _ _⟩
          have H70 := H6.alloc (.cells #[.int .i64 g.k, .int .i64 g.vk, .int .i64 g.vn, .string g.vs, .int .i64 g.r1, .int .i64 g.r2, .int .i64 g.r3, .int .i64 g.r4, .string g.op, .slice B m2 d] 31)
          have K72 := K65.trans ((Kept.refl x w6).alloc (.cells #[.int .i64 g.k, .int .i64 g.vk, .int .i64 g.vn, .string g.vs, .int .i64 g.r1, .int .i64 g.r2, .int .i64 g.r3, .int .i64 g.r4, .string g.op, .slice B m2 d] 31))
          have X73 := X66.kept ((Kept.refl x w6).alloc (.cells #[.int .i64 g.k, .int .i64 g.vk, .int .i64 g.vn, .string g.vs, .int .i64 g.r1, .int .i64 g.r2, .int .i64 g.r3, .int .i64 g.r4, .string g.op, .slice B m2 d] 31)) ne2
          have L74 := L67.kept ((Kept.refl x w6).alloc (.cells #[.int .i64 g.k, .int .i64 g.vk, .int .i64 g.vn, .string g.vs, .int .i64 g.r1, .int .i64 g.r2, .int .i64 g.r3, .int .i64 g.r4, .string g.op, .slice B m2 d] 31)) nxa
          have A75 := A68.keep (Q := (fun g => w.heap.size < g)) ((Kept.refl x w6).alloc (.cells #[.int .i64 g.k, .int .i64 g.vk, .int .i64 g.vn, .string g.vs, .int .i64 g.r1, .int .i64 g.r2, .int .i64 g.r3, .int .i64 g.r4, .string g.op, .slice B m2 d] 31)) (fun g hg hl => ⟨by have := hg; omega, hg⟩)
          have A76 := hB.keep (Q := (fun g => w.heap.size < g)) ((Kept.refl x w6).alloc (.cells #[.int .i64 g.k, .int .i64 g.vk, .int .i64 g.vn, .string g.vs, .int .i64 g.r1, .int .i64 g.r2, .int .i64 g.r3, .int .i64 g.r4, .string g.op, .slice B m2 d] 31)) (fun g hg hl => ⟨by have := hg; omega, hg⟩)
          generalize hV69 : (w6.alloc (.cells #[.int .i64 g.k, .int .i64 g.vk, .int .i64 g.vn, .string g.vs, .int .i64 g.r1, .int .i64 g.r2, .int .i64 g.r3, .int .i64 g.r4, .string g.op, .slice B m2 d] 31)) = V69 at *
          try clear c0 c1 c2 c3 c4 c5 y1 y3 y4 y5
          obtain ⟨c0, c1, c2, c3, c4, c5, y1, y3, y4, y5⟩ := (H70).at_.cells
          have H78 := H70.setN (nest + 1 - 1)
          have K79 := K72.trans ((Kept.refl x V69).setCell 3 (.int .i64 (nest + 1 - 1)))
          have X80 := X73.kept ((Kept.refl x V69).setCell 3 (.int .i64 (nest + 1 - 1))) ne2
          have L81 := L74.kept ((Kept.refl x V69).setCell 3 (.int .i64 (nest + 1 - 1))) nxa
          have L82 := L71.kept ((Kept.refl x V69).setCell 3 (.int .i64 (nest + 1 - 1))) nxb
          have A83 := A75.keep (Q := (fun g => w.heap.size < g)) ((Kept.refl x V69).setCell 3 (.int .i64 (nest + 1 - 1))) (fun g hg hl => ⟨by have := hg; omega, hg⟩)
          have A84 := A76.keep (Q := (fun g => w.heap.size < g)) ((Kept.refl x V69).setCell 3 (.int .i64 (nest + 1 - 1))) (fun g hg hl => ⟨by have := hg; omega, hg⟩)
          generalize hV77 : (V69.setCell ⟨x, 3, none⟩ (.int .i64 (nest + 1 - 1))) = V77 at *
          rw [show nest + 1 - 1 = nest from by omega] at *
          try clear a0 a1 a2 a3 a4 a5 a6 a7 a8 a9 az0 az1 az2 az3 az4 az5 az6 az7 az8 az9
          obtain ⟨a0, a1, a2, a3, a4, a5, a6, a7, a8, a9, az0, az1, az2, az3, az4, az5, az6, az7, az8, az9⟩ := (L81).cells
          try clear b0 b1 b2 b3 b4 b5 b6 b7 b8 b9 bz0 bz1 bz2 bz3 bz4 bz5 bz6 bz7 bz8 bz9
          obtain ⟨b0, b1, b2, b3, b4, b5, b6, b7, b8, b9, bz0, bz1, bz2, bz3, bz4, bz5, bz6, bz7, bz8, bz9⟩ := (L82).cells
          have HP := Lib.hid (rpair (str [94]) f g A B m m2 c d V77)
          unfold nodeV at HP
          go_wp2_with fail
          rw [B94.out]
          refine HP.out.mono ?_; rintro e w8 ⟨pb, rfl, hpb, hpr, hb8⟩
          have k8 : Kept x V77 w8 := Kept.of hb8
          have H85 : Pre w8 x lv l en (k2 : Nat) nest 0 0 := ⟨H78.at_.keep hb8 H78.at_.lt, H78.tok.kept k8 (Nat.le_refl _)⟩
          have lt8 := X80.lt
          have K86 := K79.trans k8
          have X87 := X80.kept k8 ne2
          have L88 := L81.kept k8 nxa
          have L89 := L82.kept k8 nxb
          have A90 := A83.keep (Q := (fun g => w.heap.size < g)) k8 (fun g hg hl => ⟨by have := hg; omega, hg⟩)
          have A91 := A84.keep (Q := (fun g => w.heap.size < g)) k8 (fun g hg hl => ⟨by have := hg; omega, hg⟩)
          try clear f0 f1 f2 f3 f4 f5 f6 f7 f8 f9 z0 z1 z2 z3 z4 z5 z6 z7 z8 z9
          obtain ⟨f0, f1, f2, f3, f4, f5, f6, f7, f8, f9, z0, z1, z2, z3, z4, z5, z6, z7, z8, z9⟩ := (X87).cells
          go_wp2_with fail
          rw [E.out]
          refine bodyPost_ret (v := .agg #[.int .i64 (pairFld (str [94])).k, .int .i64 (pairFld (str [94])).vk, .int .i64 (pairFld (str [94])).vn, .string (pairFld (str [94])).vs, .int .i64 (pairFld (str [94])).r1, .int .i64 (pairFld (str [94])).r2, .int .i64 (pairFld (str [94])).r3, .int .i64 (pairFld (str [94])).r4, .string (pairFld (str [94])).op, .slice (some ⟨pb, 0, none⟩) 2 2]) (by simp [results, Tryz.results97, go_sem, f0, f1, f2, f3, f4, f5, f6, f7, f8, f9]) rfl (PPost.ok (b := w.heap.size) K86 H85 (pair_row (by omega) hpr HM.out HM2.out A90 A91) (Nat.le_refl _) hxw ?_)
          repeat (first | with_reducible exact Kept.refl _ _ | with_reducible refine Kept.setCell ?_ _ _)
end Go.Proofs.YtkdgiadpmfpjnaaGreatDoor.TreeC
