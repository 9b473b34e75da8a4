/-
  Contracts of lex's reference: Cut.
-/
import Derived.Test.YtccigjelbnjcoaaGreatDoorPTellLexC
import Derived.Test.YtccigjelbnjcoaaGreatDoorPTellAddrA
import Derived.Test.YtccigjelbnjcoaaGreatDoorPTellNumG
import Derived.Maps.AppendAt
import Derived.OwnWalk
import Derived.Deep.AppendLies
import Derived.Orders
namespace Go.Proofs.YtccigjelbnjcoaaGreatDoor.LexC
set_option linter.unusedVariables false
open Go.RowKit Go.Proofs.YtccigjelbnjcoaaGreatDoor.NumC
def tcells (l : List Tok) : List Value := l.flatMap fun t => [.int .i64 t.k, .int .i64 t.n, .string t.s, .int .i64 t.at_]
theorem tcells_snoc (l : List Tok) (t : Tok) : tcells (l ++ [t]) = tcells l ++ [.int .i64 t.k, .int .i64 t.n, .string t.s, .int .i64 t.at_] := by unfold tcells; rw [List.flatMap_append]; rfl
theorem tok_info : (Tryz.prog.info? 80).map (fun i => (i.zero, i.size, i.bytes)) = some (some (.agg #[.int .i64 0, .int .i64 0, .string { data := #[] }, .int .i64 0]), 4, 40) := by kernel_rfl
theorem own_below {w w' : World} {base : Nat} {e : TypeId} {size : Nat} {v : Value} {n : Nat} {xs : List Value} (h : w.ownsRow base e size v n xs) (hb : Below w.heap.size w w') : w'.ownsRow base e size v n xs := by
  obtain ⟨h1, h2 | ⟨g, cap, cur, h2, h3, h4, h5⟩⟩ := h
  · exact ⟨h1, Or.inl h2⟩
  · exact ⟨h1, Or.inr ⟨g, cap, cur, h2, h3, (hb.block g (Array.getElem?_eq_some_iff.1 h4).1).trans h4, h5⟩⟩
theorem own_nil (w : World) : w.ownsRow w.heap.size 80 4 (.slice none 0 0) 0 (tcells []) := ⟨rfl, Or.inl ⟨rfl, rfl⟩⟩
theorem own_nil0 (w : World) (base : Nat) : w.ownsRow base 80 4 (.slice none 0 0) 0 (tcells []) := ⟨rfl, Or.inl ⟨rfl, rfl⟩⟩
def CutPost (w : World) (r : Res) (e : Ending) (w' : World) : Prop :=
  ∃ v, e = .returned (.tuple #[v, .int .i64 r.at_, .int .i64 r.err]) ∧ w'.ownsRow w.heap.size 80 4 v r.toks.length (tcells r.toks) ∧ Below w.heap.size w w'
theorem txt_len : ∀ (l : List UInt8) (r : List UInt8 × Nat), txtL l = some r → r.2 ≤ l.length := by
  have key : ∀ (n : Nat) (l : List UInt8), l.length ≤ n → ∀ r, txtL l = some r → r.2 ≤ l.length := by
    intro n
    induction n with
    | zero => intro l hl r h; have : l = [] := List.length_eq_zero_iff.1 (by omega); subst this; cases h
    | succ n ih =>
      intro l hl r h
      cases l with
      | nil => cases h
      | cons c l =>
        by_cases hc : c = 34
        · subst hc
          by_cases h2 : ∃ l', l = 34 :: l'
          · obtain ⟨l', rfl⟩ := h2
            rw [txtL_two] at h
            obtain ⟨q, hq, rfl⟩ := Option.map_eq_some_iff.1 h
            have := ih l' (by simp at hl; omega) q hq
            simp; omega
          · rw [txtL_one (fun l' e => h2 ⟨l', e⟩)] at h
            injection h with h; subst h; simp
        · rw [txtL_no hc] at h
          obtain ⟨q, hq, rfl⟩ := Option.map_eq_some_iff.1 h
          have := ih l (by simp at hl; omega) q hq
          simp; omega
  exact fun l r h => key l.length l (Nat.le_refl _) r h
theorem next_len {c : UInt8} {l : List UInt8} {k n : Int} {s : List UInt8} {m : Nat} (h : nextL (c :: l) = some (k, n, s, m)) : 1 ≤ m ∧ m ≤ (c :: l).length := by
  have tw : ∀ (p : UInt8 → Bool), p c = true → 1 ≤ ((c :: l).takeWhile p).length ∧ ((c :: l).takeWhile p).length ≤ (c :: l).length := fun p hp => by
    refine ⟨?_, (List.takeWhile_sublist p).length_le⟩
    rw [List.takeWhile_cons, hp]; simp
  rw [nextL_cons, tokL] at h
  split at h
  · rename_i hd
    split at h
    · injection h with h; injection h with h1 h; injection h with h2 h; injection h with h3 h4
      rw [← h4]; exact tw _ hd
    · cases h
  · split at h
    · rename_i hl
      injection h with h; injection h with h1 h; injection h with h2 h; injection h with h3 h4
      rw [← h4]; exact tw _ (by unfold wordB; rw [hl]; rfl)
    · split at h
      · obtain ⟨r, hr, e⟩ := Option.map_eq_some_iff.1 h
        injection e with h1 e; injection e with h2 e; injection e with h3 h4
        have := txt_len l r hr
        simp; omega
      · unfold signT at h
        split at h
        · split at h
          · injection h with h; injection h with h1 h; injection h with h2 h; injection h with h3 h4
            rw [← h4]; simp
          · split at h
            · injection h with h; injection h with h1 h; injection h with h2 h; injection h with h3 h4
              rw [← h4]; simp
            · cases h
        · split at h
          · injection h with h; injection h with h1 h; injection h with h2 h; injection h with h3 h4
            rw [← h4]; simp
          · cases h
def Cutting (l : List UInt8) (i : Nat) (acc : List Tok) : Prop := cutF (l.length - i + 1) (l.drop i) i acc = cutL l
theorem Cutting.start {l : List UInt8} (h : l.length ≤ 300) : Cutting l 0 [] := by unfold Cutting cutL; rw [if_neg (by omega)]; simp
theorem Cutting.blank {l : List UInt8} {i : Nat} {acc : List Tok} (h : Cutting l i acc) (hi : i < l.length) (hc : l[i] = 32) : Cutting l (i + 1) acc := by
  unfold Cutting at *
  rw [show l.length - i + 1 = (l.length - (i + 1) + 1) + 1 from by omega, drop_cons hi, cutF, if_pos hc] at h; exact h
theorem cutF_fuel : ∀ (f g : Nat) (l : List UInt8) (i : Nat) (acc : List Tok), l.length < f → l.length < g → cutF f l i acc = cutF g l i acc := by
  intro f
  induction f with
  | zero => intro g l i acc h; omega
  | succ f ih =>
    intro g l i acc hf hg
    cases g with
    | zero => omega
    | succ g =>
      cases l with
      | nil => rfl
      | cons c l =>
        simp only [List.length_cons] at hf hg
        rw [cutF, cutF]
        by_cases hc : c = 32
        · rw [if_pos hc, if_pos hc]; exact ih g l _ _ (by omega) (by omega)
        · rw [if_neg hc, if_neg hc]
          cases hn : nextL (c :: l) with
          | none => rfl
          | some r =>
            obtain ⟨k, n, s, m⟩ := r
            have := next_len hn
            simp only
            apply ih
            · rw [List.length_drop]; simp only [List.length_cons] at *; omega
            · rw [List.length_drop]; simp only [List.length_cons] at *; omega
theorem Cutting.none_ {l : List UInt8} {i : Nat} {acc : List Tok} (h : Cutting l i acc) (hi : i < l.length) (hc : l[i] ≠ 32) (hn : nextL (l.drop i) = none) : cutL l = ⟨[], i, 12⟩ := by
  unfold Cutting at h
  rw [drop_cons hi] at hn
  rw [show l.length - i + 1 = (l.length - (i + 1) + 1) + 1 from by omega, drop_cons hi, cutF, if_neg hc, hn] at h; exact h.symm
theorem Cutting.some_ {l : List UInt8} {i : Nat} {acc : List Tok} {k n : Int} {s : List UInt8} {m : Nat} (h : Cutting l i acc) (hi : i < l.length) (hc : l[i] ≠ 32) (hn : nextL (l.drop i) = some (k, n, s, m)) : Cutting l (i + m) (acc ++ [⟨k, n, str s, i⟩]) ∧ 1 ≤ m ∧ i + m ≤ l.length := by
  have e := drop_cons hi
  have hl := next_len (by rw [← e]; exact hn)
  rw [← e, List.length_drop] at hl
  refine ⟨?_, hl.1, by omega⟩
  unfold Cutting at *
  rw [show l.length - i + 1 = (l.length - (i + 1) + 1) + 1 from by omega, drop_cons hi, cutF, if_neg hc, ← drop_cons hi, hn] at h
  simp only [List.drop_drop] at h
  rw [← h]
  apply cutF_fuel
  · rw [List.length_drop]; omega
  · rw [List.length_drop]; omega
theorem Cutting.end_ {l : List UInt8} {i : Nat} {acc : List Tok} (h : Cutting l i acc) (hi : i = l.length) : cutL l = ⟨acc, 0, 0⟩ := by
  unfold Cutting at h
  rw [List.drop_eq_nil_of_le (by omega), cutF] at h; exact h.symm
theorem nextR_some {l : List UInt8} {i : Nat} {k n : Int} {s : List UInt8} {m : Nat} (h : nextL (l.drop i) = some (k, n, s, m)) : nextR l i = ((⟨k, n, str s, (i : Int)⟩ : Tok), (m : Int)) := by unfold nextR; rw [h]
theorem nextR_none {l : List UInt8} {i : Nat} (h : nextL (l.drop i) = none) : nextR l i = (zeroT, 0) := by unfold nextR; rw [h]
end Go.Proofs.YtccigjelbnjcoaaGreatDoor.LexC
namespace Go.Proofs.YtccigjelbnjcoaaGreatDoor.LexC
set_option linter.unusedVariables false
open Go.RowKit Go.Proofs.YtccigjelbnjcoaaGreatDoor.NumC
structure TokAt (w : World) (v : Value) (l : List Tok) : Prop where
  form : ∃ A c, v = .slice A l.length c ∧ ∀ i (h : i < l.length), ∃ g, A = some ⟨g, 0, none⟩ ∧
    w.cell? ⟨g, i * 4, none⟩ = some (.int .i64 l[i].k) ∧ w.cell? ⟨g, i * 4 + 1, none⟩ = some (.int .i64 l[i].n) ∧ w.cell? ⟨g, i * 4 + 2, none⟩ = some (.string l[i].s) ∧ w.cell? ⟨g, i * 4 + 3, none⟩ = some (.int .i64 l[i].at_)
theorem tcells_at : ∀ (l : List Tok) (i : Nat) (h : i < l.length), (tcells l)[i * 4]? = some (.int .i64 l[i].k) ∧ (tcells l)[i * 4 + 1]? = some (.int .i64 l[i].n) ∧ (tcells l)[i * 4 + 2]? = some (.string l[i].s) ∧ (tcells l)[i * 4 + 3]? = some (.int .i64 l[i].at_)
  | [], i, h => by simp at h
  | t :: l, 0, h => ⟨rfl, rfl, rfl, rfl⟩
  | t :: l, i + 1, h => by
    have := tcells_at l i (by simpa using h)
    have e (j : Nat) : (tcells (t :: l))[(i + 1) * 4 + j]? = (tcells l)[i * 4 + j]? := by
      show (([.int .i64 t.k, .int .i64 t.n, .string t.s, .int .i64 t.at_] : List Value) ++ tcells l)[(i + 1) * 4 + j]? = _
      rw [List.getElem?_append_right (by simp; omega)]
      congr 1; simp; omega
    refine ⟨?_, ?_, ?_, ?_⟩
    · have := e 0; simp only [Nat.add_zero] at this; rw [this]; simp only [List.getElem_cons_succ]; exact (tcells_at l i (by simpa using h)).1
    · rw [e 1]; simp only [List.getElem_cons_succ]; exact this.2.1
    · rw [e 2]; simp only [List.getElem_cons_succ]; exact this.2.2.1
    · rw [e 3]; simp only [List.getElem_cons_succ]; exact this.2.2.2
theorem tokAt_own {w : World} {base : Nat} {e : TypeId} {v : Value} {l : List Tok} (h : w.ownsRow base e 4 v l.length (tcells l)) : TokAt w v l := by
  obtain ⟨h1, ⟨h2, h3⟩ | ⟨g, cap, cur, h2, h3, h4, h5, h6, h7, h8⟩⟩ := h
  · exact ⟨none, 0, by rw [h2, h3], fun i h => by omega⟩
  · refine ⟨some ⟨g, 0, none⟩, cap, h2, fun i h => ⟨g, rfl, ?_⟩⟩
    have key (j : Nat) (u : Value) (hu : (tcells l)[j]? = some u) : w.cell? ⟨g, j, none⟩ = some u := by
      rw [cell_of_row w g j cur e (0, 0) h4]
      rw [← h8, List.getElem?_take] at hu
      split at hu
      · rw [← hu, Array.getElem?_toList]
      · cases hu
    have := tcells_at l i h
    exact ⟨key _ _ this.1, key _ _ this.2.1, key _ _ this.2.2.1, key _ _ this.2.2.2⟩
end Go.Proofs.YtccigjelbnjcoaaGreatDoor.LexC
namespace Go.Proofs.YtccigjelbnjcoaaGreatDoor.TreeC
set_option linter.unusedVariables false
open Go.RowKit Go.Proofs.YtccigjelbnjcoaaGreatDoor.NumC Go.Proofs.YtccigjelbnjcoaaGreatDoor.LexC
structure Kept (x : Nat) (w w' : World) : Prop where
  os : w'.os = w.os
  tape : w'.tape = w.tape
  output : w'.output = w.output
  size : w.heap.size ≤ w'.heap.size
  block : ∀ k, k < w.heap.size → k ≠ x → w'.heap[k]? = w.heap[k]?
theorem Kept.refl (x : Nat) (w : World) : Kept x w w := ⟨rfl, rfl, rfl, Nat.le_refl _, fun _ _ _ => rfl⟩
theorem Kept.trans {x : Nat} {a b c : World} (h : Kept x a b) (g : Kept x b c) : Kept x a c :=
  ⟨g.os.trans h.os, g.tape.trans h.tape, g.output.trans h.output, Nat.le_trans h.size g.size, fun k hk hx => (g.block k (Nat.lt_of_lt_of_le hk h.size) hx).trans (h.block k hk hx)⟩
theorem Kept.of {x : Nat} {w w' : World} (h : Below w.heap.size w w') : Kept x w w' := ⟨h.os, h.tape, h.output, h.size, fun k hk _ => h.block k hk⟩
theorem Kept.drew {x : Nat} {a w : World} (h : Kept x a w) (n : Nat) : Kept x a (w.drewN n) := ⟨h.os, h.tape, h.output, h.size, h.block⟩
theorem Kept.alloc {x : Nat} {a w : World} (h : Kept x a w) (o : Obj) : Kept x a (w.alloc o) := h.trans (Kept.of ((Below.refl _ _).alloc (Nat.le_refl _) o))
theorem Kept.setCell {x : Nat} {a w : World} (h : Kept x a w) (o : Nat) (v : Value) : Kept x a (w.setCell ⟨x, o, none⟩ v) := by
  have hs : (w.setCell ⟨x, o, none⟩ v).heap.size = w.heap.size := by simp [World.setCell]
  refine ⟨h.os, h.tape, h.output, by rw [hs]; exact h.size, fun k hk hx => ?_⟩
  have : (w.setCell ⟨x, o, none⟩ v).heap[k]? = w.heap[k]? := by
    simp only [World.setCell, Array.getElem?_modify]
    rw [if_neg (fun e => hx e.symm)]
  rw [this]; exact h.block k hk hx
theorem Kept.cell {x : Nat} {w w' : World} (h : Kept x w w') {b o : Nat} {v : Value} (hx : b ≠ x) (hv : w.cell? ⟨b, o, none⟩ = some v) : w'.cell? ⟨b, o, none⟩ = some v := by
  have hlt : b < w.heap.size := World.block_lt_of_cell? w _ hv
  rw [← hv]
  unfold World.cell?
  rw [h.block b hlt hx]
theorem Kept.then_ {x b : Nat} {w W W' : World} (h : Kept x w W) (g : Kept b W W') (hb : w.heap.size ≤ b) : Kept x w W' :=
  ⟨g.os.trans h.os, g.tape.trans h.tape, g.output.trans h.output, Nat.le_trans h.size g.size, fun k hk hx => (g.block k (Nat.lt_of_lt_of_le hk h.size) (by omega)).trans (h.block k hk hx)⟩
theorem Kept.below {x : Nat} {w W : World} (h : Kept x w W) (hx : w.heap.size ≤ x) : Below w.heap.size w W := ⟨h.os, h.tape, h.output, h.size, fun k hk => h.block k hk (by omega)⟩
def nodeV (f : Fld) (A : Option Addr) (n c : Nat) : Value :=
  .agg #[.int .i64 f.k, .int .i64 f.vk, .int .i64 f.vn, .string f.vs, .int .i64 f.r1, .int .i64 f.r2, .int .i64 f.r3, .int .i64 f.r4, .string f.op, .slice A n c]
def RowAt (w : World) (P : Nat → Prop) : Fo → Nat → Nat → Prop
  | .nil, _, _ => True
  | .cons f kids next, g, o => (P g ∧ w.cell? ⟨g, o, none⟩ = some (.int .i64 f.k) ∧ w.cell? ⟨g, o + 1, none⟩ = some (.int .i64 f.vk) ∧ w.cell? ⟨g, o + 2, none⟩ = some (.int .i64 f.vn) ∧ w.cell? ⟨g, o + 3, none⟩ = some (.string f.vs) ∧
      w.cell? ⟨g, o + 4, none⟩ = some (.int .i64 f.r1) ∧ w.cell? ⟨g, o + 5, none⟩ = some (.int .i64 f.r2) ∧ w.cell? ⟨g, o + 6, none⟩ = some (.int .i64 f.r3) ∧ w.cell? ⟨g, o + 7, none⟩ = some (.int .i64 f.r4) ∧ w.cell? ⟨g, o + 8, none⟩ = some (.string f.op)) ∧
    (∃ A c, w.cell? ⟨g, o + 9, none⟩ = some (.slice A kids.len c) ∧ (kids = .nil ∨ ∃ g' o', A = some ⟨g', o', none⟩ ∧ RowAt w P kids g' o')) ∧ RowAt w P next g (o + 10)
theorem RowAt.keep {w w' : World} {P Q : Nat → Prop} {y : Nat} (hk : Kept y w w') (hP : ∀ g, P g → g < w.heap.size → g ≠ y ∧ Q g) : ∀ (fo : Fo) (g o : Nat), RowAt w P fo g o → RowAt w' Q fo g o := by
  intro fo
  induction fo with
  | nil => intro g o _; trivial
  | cons f kids next ih1 ih2 =>
    intro g o h
    obtain ⟨⟨hx, f0, f1, f2, f3, f4, f5, f6, f7, f8⟩, ⟨A, c, h9, hA⟩, hn⟩ := h
    obtain ⟨hy, hq⟩ := hP g hx (World.block_lt_of_cell? w _ f0)
    refine ⟨⟨hq, hk.cell hy f0, hk.cell hy f1, hk.cell hy f2, hk.cell hy f3, hk.cell hy f4, hk.cell hy f5, hk.cell hy f6, hk.cell hy f7, hk.cell hy f8⟩, ⟨A, c, hk.cell hy h9, ?_⟩, ih2 g _ hn⟩
    rcases hA with h | ⟨g', o', e, hr⟩
    · exact Or.inl h
    · exact Or.inr ⟨g', o', e, ih1 g' o' hr⟩
def KidsAt (w : World) (P : Nat → Prop) (fo : Fo) (A : Option Addr) : Prop := fo = .nil ∨ ∃ g o, A = some ⟨g, o, none⟩ ∧ RowAt w P fo g o
theorem KidsAt.keep {w w' : World} {P Q : Nat → Prop} {y : Nat} {fo : Fo} {A : Option Addr} (h : KidsAt w P fo A) (hk : Kept y w w') (hP : ∀ g, P g → g < w.heap.size → g ≠ y ∧ Q g) : KidsAt w' Q fo A := by
  rcases h with h | ⟨g, o, e, hr⟩
  · exact Or.inl h
  · exact Or.inr ⟨g, o, e, RowAt.keep hk hP _ _ _ hr⟩
def NodeAt (w : World) (P : Nat → Prop) (a : Nd) (v : Value) : Prop := ∃ A c, v = nodeV a.f A a.kids.len c ∧ KidsAt w P a.kids A
theorem NodeAt.keep {w w' : World} {P Q : Nat → Prop} {y : Nat} {a : Nd} {v : Value} (h : NodeAt w P a v) (hk : Kept y w w') (hP : ∀ g, P g → g < w.heap.size → g ≠ y ∧ Q g) : NodeAt w' Q a v := by
  obtain ⟨A, c, e, h⟩ := h
  exact ⟨A, c, e, h.keep hk hP⟩
def RowV (w : World) (P : Nat → Prop) : Fo → List Value → Prop
  | .nil, [] => True
  | .nil, _ :: _ => False
  | .cons _ _ _, [] => False
  | .cons f kids next, v :: vs => NodeAt w P ⟨f, kids⟩ v ∧ RowV w P next vs
theorem RowV.keep {w w' : World} {P Q : Nat → Prop} {y : Nat} (hk : Kept y w w') (hP : ∀ g, P g → g < w.heap.size → g ≠ y ∧ Q g) : ∀ (fo : Fo) (vs : List Value), RowV w P fo vs → RowV w' Q fo vs := by
  intro fo
  induction fo with
  | nil => intro vs h; cases vs with
    | nil => trivial
    | cons v vs => exact h
  | cons f kids next _ ih => intro vs h; cases vs with
    | nil => exact h
    | cons v vs => exact ⟨h.1.keep hk hP, ih vs h.2⟩
theorem RowV.snoc {w : World} {P : Nat → Prop} {a : Nd} {v : Value} (ha : NodeAt w P a v) : ∀ (fo : Fo) (vs : List Value), RowV w P fo vs → RowV w P (fo.app a.one) (vs ++ [v]) := by
  intro fo
  induction fo with
  | nil => intro vs h; cases vs with
    | nil => exact ⟨ha, trivial⟩
    | cons v vs => exact absurd h (by simp [RowV])
  | cons f kids next _ ih => intro vs h; cases vs with
    | nil => exact absurd h (by simp [RowV])
    | cons v vs => exact ⟨h.1, ih vs h.2⟩
def ncells (vs : List Value) : List Value := vs.flatMap fun v => v.cells.toList
theorem ncells_snoc (vs : List Value) (v : Value) : ncells (vs ++ [v]) = ncells vs ++ v.cells.toList := by unfold ncells; rw [List.flatMap_append]; simp
theorem ncells_cons (v : Value) (vs : List Value) : ncells (v :: vs) = v.cells.toList ++ ncells vs := by unfold ncells; rw [List.flatMap_cons]
theorem rowAt_of {w : World} {P : Nat → Prop} {g : Nat} (hx : P g) : ∀ (fo : Fo) (vs : List Value) (o : Nat), RowV w P fo vs → (∀ j u, (ncells vs)[j]? = some u → w.cell? ⟨g, o + j, none⟩ = some u) → RowAt w P fo g o := by
  intro fo
  induction fo with
  | nil => intro vs o _ _; trivial
  | cons f kids next _ ih =>
    intro vs o h hc
    cases vs with
    | nil => exact absurd h (by simp [RowV])
    | cons v vs =>
      obtain ⟨⟨A, c, rfl, hA⟩, hr⟩ := h
      rw [ncells_cons] at hc
      refine ⟨⟨hx, hc 0 _ rfl, hc 1 _ rfl, hc 2 _ rfl, hc 3 _ rfl, hc 4 _ rfl, hc 5 _ rfl, hc 6 _ rfl, hc 7 _ rfl, hc 8 _ rfl⟩, ⟨A, c, hc 9 _ rfl, hA⟩, ih vs (o + 10) hr fun j u hj => ?_⟩
      have := hc (10 + j) u (by
        rw [List.getElem?_append_right (by simp [nodeV, Value.cells])]
        simpa [nodeV, Value.cells] using hj)
      rwa [show o + 10 + j = o + (10 + j) by omega]
theorem rowAt_block {w : World} {P : Nat → Prop} {g : Nat} (hx : P g) {fo : Fo} {vs : List Value} {cs : Array Value} (hr : RowV w P fo vs) (hb : w.heap[g]? = some (.cells cs 30 (0, 0))) (hc : cs.toList = ncells vs) : RowAt w P fo g 0 :=
  rowAt_of hx fo vs 0 hr (fun j u hj => by
    rw [Nat.zero_add, cell_of_row w g j cs _ (0, 0) hb, ← hj, ← hc, Array.getElem?_toList])
end Go.Proofs.YtccigjelbnjcoaaGreatDoor.TreeC
namespace Go.Proofs.YtccigjelbnjcoaaGreatDoor.TreeC
set_option linter.unusedVariables false
open Go.RowKit Go.Proofs.YtccigjelbnjcoaaGreatDoor.NumC Go.Proofs.YtccigjelbnjcoaaGreatDoor.LexC
def pairFld (op : ByteArray) : Fld := ⟨5, 0, 0, nob, 0, 0, 0, 0, op⟩
end Go.Proofs.YtccigjelbnjcoaaGreatDoor.TreeC
namespace Go.Proofs.YtccigjelbnjcoaaGreatDoor.TreeC
set_option linter.unusedVariables false
open Go.RowKit Go.Proofs.YtccigjelbnjcoaaGreatDoor.NumC Go.Proofs.YtccigjelbnjcoaaGreatDoor.LexC
structure NBox (w : World) (b : Nat) : Prop where
  at_ : w.heap[b]? = some (.cells #[.int .i64 0, .int .i64 0, .int .i64 0, .string { data := #[] }, .int .i64 0, .int .i64 0, .int .i64 0, .int .i64 0, .string { data := #[] }, .slice none 0 0] 30 (0, 0))
theorem NBox.new (w : World) : NBox (w.alloc (.cells #[.int .i64 0, .int .i64 0, .int .i64 0, .string { data := #[] }, .int .i64 0, .int .i64 0, .int .i64 0, .int .i64 0, .string { data := #[] }, .slice none 0 0] 30)) w.heap.size := ⟨heap_alloc_new _ _⟩
theorem NBox.lt {w : World} {b : Nat} (h : NBox w b) : b < w.heap.size := (Array.getElem?_eq_some_iff.1 h.at_).1
theorem NBox.kept {w w' : World} {b y : Nat} (h : NBox w b) (hk : Kept y w w') (hb : b ≠ y) : NBox w' b := ⟨(hk.block b h.lt hb).trans h.at_⟩
theorem NBox.cells {w : World} {b : Nat} (h : NBox w b) :
    w.cell? ⟨b, 0, none⟩ = some (.int .i64 0) ∧ w.cell? ⟨b, 1, none⟩ = some (.int .i64 0) ∧ w.cell? ⟨b, 2, none⟩ = some (.int .i64 0) ∧ w.cell? ⟨b, 3, none⟩ = some (.string { data := #[] }) ∧ w.cell? ⟨b, 4, none⟩ = some (.int .i64 0) ∧
    w.cell? ⟨b, 5, none⟩ = some (.int .i64 0) ∧ w.cell? ⟨b, 6, none⟩ = some (.int .i64 0) ∧ w.cell? ⟨b, 7, none⟩ = some (.int .i64 0) ∧ w.cell? ⟨b, 8, none⟩ = some (.string { data := #[] }) ∧ w.cell? ⟨b, 9, none⟩ = some (.slice none 0 0) ∧
    w.frozen? ⟨b, 0, none⟩ = false ∧ w.frozen? ⟨b, 1, none⟩ = false ∧ w.frozen? ⟨b, 2, none⟩ = false ∧ w.frozen? ⟨b, 3, none⟩ = false ∧ w.frozen? ⟨b, 4, none⟩ = false ∧
    w.frozen? ⟨b, 5, none⟩ = false ∧ w.frozen? ⟨b, 6, none⟩ = false ∧ w.frozen? ⟨b, 7, none⟩ = false ∧ w.frozen? ⟨b, 8, none⟩ = false ∧ w.frozen? ⟨b, 9, none⟩ = false := by
  have h1 := h.at_
  refine ⟨?_, ?_, ?_, ?_, ?_, ?_, ?_, ?_, ?_, ?_, ?_, ?_, ?_, ?_, ?_, ?_, ?_, ?_, ?_, ?_⟩ <;> simp [World.cell?, World.frozen?, h1]
structure NLoc (w : World) (b : Nat) (f : Fld) (A : Option Addr) (n c : Nat) : Prop where
  at_ : w.heap[b]? = some (.cells #[.int .i64 f.k, .int .i64 f.vk, .int .i64 f.vn, .string f.vs, .int .i64 f.r1, .int .i64 f.r2, .int .i64 f.r3, .int .i64 f.r4, .string f.op, .slice A n c] 30 (0, 0))
theorem NLoc.lt {w : World} {b n c : Nat} {f : Fld} {A : Option Addr} (h : NLoc w b f A n c) : b < w.heap.size := (Array.getElem?_eq_some_iff.1 h.at_).1
theorem NLoc.kept {w w' : World} {b y n c : Nat} {f : Fld} {A : Option Addr} (h : NLoc w b f A n c) (hk : Kept y w w') (hb : b ≠ y) : NLoc w' b f A n c := ⟨(hk.block b h.lt hb).trans h.at_⟩
theorem NLoc.cells {w : World} {b n c : Nat} {f : Fld} {A : Option Addr} (h : NLoc w b f A n c) :
    w.cell? ⟨b, 0, none⟩ = some (.int .i64 f.k) ∧ w.cell? ⟨b, 1, none⟩ = some (.int .i64 f.vk) ∧ w.cell? ⟨b, 2, none⟩ = some (.int .i64 f.vn) ∧ w.cell? ⟨b, 3, none⟩ = some (.string f.vs) ∧ w.cell? ⟨b, 4, none⟩ = some (.int .i64 f.r1) ∧
    w.cell? ⟨b, 5, none⟩ = some (.int .i64 f.r2) ∧ w.cell? ⟨b, 6, none⟩ = some (.int .i64 f.r3) ∧ w.cell? ⟨b, 7, none⟩ = some (.int .i64 f.r4) ∧ w.cell? ⟨b, 8, none⟩ = some (.string f.op) ∧ w.cell? ⟨b, 9, none⟩ = some (.slice A n c) ∧
    w.frozen? ⟨b, 0, none⟩ = false ∧ w.frozen? ⟨b, 1, none⟩ = false ∧ w.frozen? ⟨b, 2, none⟩ = false ∧ w.frozen? ⟨b, 3, none⟩ = false ∧ w.frozen? ⟨b, 4, none⟩ = false ∧
    w.frozen? ⟨b, 5, none⟩ = false ∧ w.frozen? ⟨b, 6, none⟩ = false ∧ w.frozen? ⟨b, 7, none⟩ = false ∧ w.frozen? ⟨b, 8, none⟩ = false ∧ w.frozen? ⟨b, 9, none⟩ = false := by
  have h1 := h.at_
  refine ⟨?_, ?_, ?_, ?_, ?_, ?_, ?_, ?_, ?_, ?_, ?_, ?_, ?_, ?_, ?_, ?_, ?_, ?_, ?_, ?_⟩ <;> simp [World.cell?, World.frozen?, h1]
end Go.Proofs.YtccigjelbnjcoaaGreatDoor.TreeC
namespace Go.Proofs.YtccigjelbnjcoaaGreatDoor.TreeC
set_option linter.unusedVariables false
open Go.Proofs.YtccigjelbnjcoaaGreatDoor.NumC Go.Proofs.YtccigjelbnjcoaaGreatDoor.LexC
theorem txt_short : ∀ (n : Nat) (l : List UInt8), l.length ≤ n → ∀ r, txtL l = some r → r.1.length ≤ l.length := by
  intro n
  induction n with
  | zero =>
    intro l h r hr
    obtain rfl : l = [] := List.eq_nil_of_length_eq_zero (by omega)
    rw [txtL_nil] at hr; cases hr
  | succ n ih =>
    intro l h r hr
    cases l with
    | nil => rw [txtL_nil] at hr; cases hr
    | cons c l =>
      by_cases hc : c = 34
      · subst hc
        cases l with
        | nil => rw [txtL_one (by intro l' h; cases h)] at hr; injection hr with hr; rw [← hr]; simp
        | cons d l =>
          by_cases hd : d = 34
          · subst hd
            rw [txtL_two] at hr
            obtain ⟨q, hq, e⟩ := Option.map_eq_some_iff.1 hr
            have := ih l (by simp at h; omega) q hq
            rw [← e]; simp; omega
          · rw [txtL_one (by intro l' h; injection h with h1 h2; exact hd h1)] at hr; injection hr with hr; rw [← hr]; simp
      · rw [txtL_no hc] at hr
        obtain ⟨q, hq, e⟩ := Option.map_eq_some_iff.1 hr
        have := ih l (by simp at h; omega) q hq
        rw [← e]; simp; omega
theorem next_short {c : UInt8} {l : List UInt8} {k n : Int} {s : List UInt8} {m : Nat} (h : nextL (c :: l) = some (k, n, s, m)) : s.length ≤ (c :: l).length + 1 := by
  rw [nextL_cons, tokL] at h
  split at h
  · split at h
    · injection h with h; injection h with h1 h; injection h with h2 h; injection h with h3 h4
      rw [← h3]; simp
    · cases h
  · split at h
    · injection h with h; injection h with h1 h; injection h with h2 h; injection h with h3 h4
      rw [← h3, upL_len]
      exact Nat.le_succ_of_le (List.takeWhile_sublist _).length_le
    · split at h
      · obtain ⟨r, hr, e⟩ := Option.map_eq_some_iff.1 h
        injection e with h1 e; injection e with h2 e; injection e with h3 h4
        have := txt_short l.length l (Nat.le_refl _) r hr
        rw [← h3]; simp; omega
      · unfold signT at h
        split at h
        · split at h
          · injection h with h; injection h with h1 h; injection h with h2 h; injection h with h3 h4
            rw [← h3]; simp
          · split at h
            · injection h with h; injection h with h1 h; injection h with h2 h; injection h with h3 h4
              rw [← h3]; simp
            · cases h
        · split at h
          · injection h with h; injection h with h1 h; injection h with h2 h; injection h with h3 h4
            rw [← h3]; simp
          · cases h
theorem cutF_few (N : Nat) : ∀ (f : Nat) (l : List UInt8) (i : Nat) (acc : List Tok), acc.length + l.length ≤ N → (∀ t ∈ acc, t.s.size ≤ N + 1) → (cutF f l i acc).toks.length ≤ N ∧ ∀ t ∈ (cutF f l i acc).toks, t.s.size ≤ N + 1 := by
  intro f
  induction f with
  | zero => intro l i acc h1 h2; simp only [cutF]; exact ⟨by omega, h2⟩
  | succ f ih =>
    intro l i acc h1 h2
    cases l with
    | nil => simp only [cutF]; exact ⟨by omega, h2⟩
    | cons c l =>
      unfold cutF
      split
      · exact ih _ _ _ (by simp at h1; omega) h2
      · split
        · exact ⟨by simp, by simp⟩
        · rename_i k n s m hn
          have hm := next_len hn
          have hs := next_short hn
          refine ih _ _ _ (by simp at h1 hm ⊢; omega) (fun t ht => ?_)
          rcases List.mem_append.1 ht with ht | ht
          · exact h2 t ht
          · obtain rfl : t = ⟨k, n, str s, i⟩ := by simpa using ht
            have : (str s).size = s.length := by simp [str, ByteArray.size]
            simp only [this]; simp at h1 hs; omega
theorem cut_few (s : List UInt8) : (cutL s).toks.length ≤ 300 ∧ ∀ t ∈ (cutL s).toks, t.s.size ≤ 301 := by
  unfold cutL
  split
  · exact ⟨by simp, by simp⟩
  · exact cutF_few 300 _ s 0 [] (by simp; omega) (by simp)
section
variable {l : List Tok} {n : Int} {L : Lev} {into : Bool} {k k' k'' : Nat} {a b : Nd} {e : Bad} {t : Tok} {op : List UInt8}
def Sz (f : Nat → Out) : Prop := ∀ k a k', f k = .ok (a, k') → k + a.size ≤ k'
theorem one_size (a : Nd) : a.one.size = a.size := Nd.one_size a
theorem pair_size (op : List UInt8) (a b : Nd) : (pairN op a b).size = 1 + a.size + b.size := by
  show 1 + (a.one.app b.one).size = _
  rw [Fo.size_app, one_size, one_size]; omega
theorem neg_size (a : Nd) : (negN a).size = 1 + a.size := by show 1 + a.one.size = _; rw [one_size]
theorem row_sz {part : Nat → Out} {ss : List (List UInt8)} (hp : Sz part) (k0 : Nat) : ∀ (g : Nat) (a : Nd) (k : Nat), k0 + a.size ≤ k → ∀ b k', rowF l part ss g a k = .ok (b, k') → k0 + b.size ≤ k' := by
  intro g
  induction g with
  | zero => intro a k hk b k' h; simp only [rowF] at h; injection h with h; injection h with h1 h2; subst h1 h2; exact hk
  | succ g ih =>
    intro a k hk b k' h
    cases ho : oneOf l k ss with
    | none => rw [row_end ho] at h; injection h with h; injection h with h1 h2; subst h1 h2; exact hk
    | some op =>
      cases hq : part (k + 1) with
      | error e => rw [row_bad ho hq] at h; cases h
      | ok r =>
        obtain ⟨c, k2⟩ := r
        rw [row_go ho hq] at h
        have h1 := hp _ _ _ hq
        exact ih _ _ (by rw [pair_size]; omega) _ _ h
structure LSz (L : Lev) : Prop where
  fm : Sz L.fm
  pw : Sz L.pw
  un : Sz L.un
theorem args_sz (hL : LSz L) (k0 : Nat) : ∀ (r : Nat) (acc : Fo) (k : Nat), k0 + acc.size ≤ k → ∀ x k', argsF l n L into r acc k = .ok (x, k') → k0 + x.size ≤ k' := by
  intro r
  induction r with
  | zero => intro acc k _ x k' h; simp only [argsF] at h; cases h
  | succ r ih =>
    intro acc k hk x k' h
    unfold argsF at h
    split at h
    · cases h
    · cases hq : L.fm k with
      | error e => simp only [hq] at h; cases h
      | ok q =>
        obtain ⟨c, k2⟩ := q
        simp only [hq] at h
        have h1 := hL.fm _ _ _ hq
        split at h
        · exact ih _ _ (by rw [Fo.size_app, one_size]; omega) _ _ h
        · injection h with h; injection h with h2 h3; subst h2 h3; rw [Fo.size_app, one_size]; omega
theorem call_sz (hL : LSz L) (h : callF l n L into t k = .ok (a, k')) : k + a.size ≤ k' := by
  unfold callF at h
  split at h
  · cases h
  · split at h
    · injection h with h; injection h with h3 h4; subst h3 h4; show k + (1 + 0) ≤ k + 3; omega
    · cases hq : argsF l n L into 10 .nil (k + 2) with
      | error e => simp only [hq] at h; cases h
      | ok q =>
        obtain ⟨c, k2⟩ := q
        simp only [hq] at h
        have h1 := args_sz hL (k + 2) _ _ _ (by simp [Fo.size]) _ _ hq
        cases hc : isSign l k2 [41] with
        | false => rw [close_no hc] at h; cases h
        | true =>
          rw [close_ok hc] at h
          injection h with h; injection h with h3 h4; subst h3 h4; show k + (1 + c.size) ≤ k2 + 1; omega
theorem name_sz (hL : LSz L) (h : nameF l n L into t k = .ok (a, k')) : k + a.size ≤ k' := by
  unfold nameF at h
  split at h
  · exact call_sz hL h
  · split at h
    · injection h with h; injection h with h3 h4; subst h3 h4; exact Nat.le_refl _
    · split at h
      · injection h with h; injection h with h3 h4; subst h3 h4; exact Nat.le_refl _
      · split at h
        · cases h
        · split at h
          · cases hu : l[k + 2]? with
            | none => simp only [hu] at h; cases h
            | some u =>
              simp only [hu] at h
              split at h
              · injection h with h; injection h with h3 h4; subst h3 h4; show k + (1 + 0) ≤ k + 3; omega
              · cases h
          · injection h with h; injection h with h3 h4; subst h3 h4; exact Nat.le_refl _
theorem part_sz (hL : LSz L) : Sz (partF l n L into) := by
  intro k a k' h
  unfold partF at h
  cases ht : l[k]? with
  | none => simp only [ht] at h; cases h
  | some t =>
    simp only [ht] at h
    split at h
    · injection h with h; injection h with h3 h4; subst h3 h4; exact Nat.le_refl _
    · split at h
      · split at h
        · cases h
        · injection h with h; injection h with h3 h4; subst h3 h4; exact Nat.le_refl _
      · split at h
        · exact name_sz hL h
        · split at h
          · cases hi : into with
            | false => rw [paren_deep hi] at h; cases h
            | true =>
              cases hq : L.fm (k + 1) with
              | error e => rw [paren_err hi hq] at h; cases h
              | ok q =>
                obtain ⟨c, k2⟩ := q
                have h1 := hL.fm _ _ _ hq
                cases hc : isSign l k2 [41] with
                | false => rw [paren_open hi hq hc] at h; cases h
                | true =>
                  rw [paren_ok hi hq hc] at h
                  injection h with h; injection h with h3 h4; subst h3 h4; omega
          · cases h
theorem unary_sz (hL : LSz L) : Sz (unaryF l n L into) := by
  intro k a k' h
  cases hs : isSign l k [45] with
  | false => rw [unary_no hs] at h; exact part_sz hL _ _ _ h
  | true =>
    cases hi : into with
    | false => rw [unary_deep hs hi] at h; cases h
    | true =>
      cases hq : L.un (k + 1) with
      | error e => rw [unary_err hs hi hq] at h; cases h
      | ok q =>
        obtain ⟨c, k2⟩ := q
        have h1 := hL.un _ _ _ hq
        rw [unary_ok hs hi hq] at h
        injection h with h; injection h with h3 h4; subst h3 h4; rw [neg_size]; omega
theorem power_sz (hL : LSz L) : Sz (powerF l n L into) := by
  intro k a k' h
  cases hu : unaryF l n L into k with
  | error e => rw [power_err hu] at h; cases h
  | ok q =>
    obtain ⟨c, k1⟩ := q
    have h1 := unary_sz hL _ _ _ hu
    cases hs : isSign l k1 [94] with
    | false => rw [power_one hu hs] at h; injection h with h; injection h with h3 h4; subst h3 h4; exact h1
    | true =>
      cases hi : into with
      | false => rw [power_deep hu hs hi] at h; cases h
      | true =>
        cases hq : L.pw (k1 + 1) with
        | error e => rw [power_bad hu hs hi hq] at h; cases h
        | ok q =>
          obtain ⟨d, k2⟩ := q
          have h2 := hL.pw _ _ _ hq
          rw [power_ok hu hs hi hq] at h
          injection h with h; injection h with h3 h4; subst h3 h4; rw [pair_size]; omega
theorem product_sz (hL : LSz L) : Sz (productF l n L into) := by
  intro k a k' h
  cases hu : powerF l n L into k with
  | error e => rw [product_err hu] at h; cases h
  | ok q =>
    obtain ⟨c, k1⟩ := q
    rw [product_go hu] at h
    exact row_sz (power_sz hL) k _ _ _ (power_sz hL _ _ _ hu) _ _ h
theorem sum_sz (hL : LSz L) : Sz (sumF l n L into) := by
  intro k a k' h
  cases hu : productF l n L into k with
  | error e => rw [sum_err hu] at h; cases h
  | ok q =>
    obtain ⟨c, k1⟩ := q
    rw [sum_go hu] at h
    exact row_sz (product_sz hL) k _ _ _ (product_sz hL _ _ _ hu) _ _ h
theorem formula_sz (hL : LSz L) : Sz (formulaF l n L into) := by
  intro k a k' h
  cases hu : sumF l n L into k with
  | error e => rw [formula_err hu] at h; cases h
  | ok q =>
    obtain ⟨c, k1⟩ := q
    have h1 := sum_sz hL _ _ _ hu
    cases ho : oneOf l k1 cmpS with
    | none => rw [formula_one hu ho] at h; injection h with h; injection h with h3 h4; subst h3 h4; exact h1
    | some op =>
      cases hq : sumF l n L into (k1 + 1) with
      | error e => rw [formula_bad hu ho hq] at h; cases h
      | ok q =>
        obtain ⟨d, k2⟩ := q
        have h2 := sum_sz hL _ _ _ hq
        rw [formula_ok hu ho hq] at h
        injection h with h; injection h with h3 h4; subst h3 h4; rw [pair_size]; omega
end
theorem lev_sz (l : List Tok) (n : Int) : ∀ r, LSz (lev l n r) := by
  intro r
  induction r with
  | zero => refine ⟨?_, ?_, ?_⟩ <;> (intro k a k' h; cases h)
  | succ r ih => exact ⟨formula_sz ih, power_sz ih, unary_sz ih⟩
end Go.Proofs.YtccigjelbnjcoaaGreatDoor.TreeC
