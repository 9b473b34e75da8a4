/-
  A source in memory; what the two Reads answer.
-/
import Derived.Test.YticehalcnbjccaaGreatDoorBPrintO
import Derived.Test.YticehalcnbjccaaGreatDoorBTreeV
import Derived.Test.YticehalcnbjccaaGreatDoorBAddrD
namespace Go.Proofs.YticehalcnbjccaaGreatDoor.SourceC
set_option linter.unusedVariables false
set_option linter.unusedSimpArgs false
open Go.RowKit Go.Proofs.YticehalcnbjccaaGreatDoor.NumC Go.Proofs.YticehalcnbjccaaGreatDoor.TreeC Go.Proofs.YticehalcnbjccaaGreatDoor.PrintC
open Go.Proofs.YticehalcnbjccaaGreatDoor.LexC (str nob str_size LexLib)
open Go.Proofs.YticehalcnbjccaaGreatDoor.ValueC (Val GoodP goodB goodB_t goodB_f nos zeroV showL trueL falseL size_nos)
structure SBox (T : Nat) (w : World) (b : Nat) : Prop where
  at_ : w.heap[b]? = some (.cells #[.int .i64 0, .int .i64 0, .int .i64 0, .string { data := #[] }, .int .i64 0, .int .i64 0, .int .i64 0, .string { data := #[] }, .int .i64 0, .int .i64 0, .int .i64 0, .int .i64 0, .string { data := #[] }, .slice none 0 0] T (0, 0))
theorem SBox.new (T : Nat) (w : World) : SBox T (w.alloc (.cells #[.int .i64 0, .int .i64 0, .int .i64 0, .string { data := #[] }, .int .i64 0, .int .i64 0, .int .i64 0, .string { data := #[] }, .int .i64 0, .int .i64 0, .int .i64 0, .int .i64 0, .string { data := #[] }, .slice none 0 0] T)) w.heap.size := ⟨heap_alloc_new _ _⟩
theorem SBox.lt {T : Nat} {w : World} {b : Nat} (h : SBox T w b) : b < w.heap.size := (Array.getElem?_eq_some_iff.1 h.at_).1
theorem SBox.kept {T : Nat} {w w' : World} {b y : Nat} (h : SBox T w b) (hk : Kept y w w') (hb : b ≠ y) : SBox T w' b := ⟨(hk.block b h.lt hb).trans h.at_⟩
theorem SBox.cells {T : Nat} {w : World} {b : Nat} (h : SBox T w b) :
    w.cell? ⟨b, 0, none⟩ = some (.int .i64 0) ∧ w.cell? ⟨b, 1, none⟩ = some (.int .i64 0) ∧ w.cell? ⟨b, 2, none⟩ = some (.int .i64 0) ∧ w.cell? ⟨b, 3, none⟩ = some (.string { data := #[] }) ∧ w.cell? ⟨b, 4, none⟩ = some (.int .i64 0) ∧ w.cell? ⟨b, 5, none⟩ = some (.int .i64 0) ∧ w.cell? ⟨b, 6, none⟩ = some (.int .i64 0) ∧ w.cell? ⟨b, 7, none⟩ = some (.string { data := #[] }) ∧ w.cell? ⟨b, 8, none⟩ = some (.int .i64 0) ∧ w.cell? ⟨b, 9, none⟩ = some (.int .i64 0) ∧ w.cell? ⟨b, 10, none⟩ = some (.int .i64 0) ∧ w.cell? ⟨b, 11, none⟩ = some (.int .i64 0) ∧ w.cell? ⟨b, 12, none⟩ = some (.string { data := #[] }) ∧ w.cell? ⟨b, 13, none⟩ = some (.slice none 0 0) ∧ w.frozen? ⟨b, 0, none⟩ = false ∧ w.frozen? ⟨b, 1, none⟩ = false ∧ w.frozen? ⟨b, 2, none⟩ = false ∧ w.frozen? ⟨b, 3, none⟩ = false ∧ w.frozen? ⟨b, 4, none⟩ = false ∧ w.frozen? ⟨b, 5, none⟩ = false ∧ w.frozen? ⟨b, 6, none⟩ = false ∧ w.frozen? ⟨b, 7, none⟩ = false ∧ w.frozen? ⟨b, 8, none⟩ = false ∧ w.frozen? ⟨b, 9, none⟩ = false ∧ w.frozen? ⟨b, 10, none⟩ = false ∧ w.frozen? ⟨b, 11, none⟩ = false ∧ w.frozen? ⟨b, 12, none⟩ = false ∧ w.frozen? ⟨b, 13, none⟩ = false := by
  have h1 := h.at_
  refine ⟨?_, ?_, ?_, ?_, ?_, ?_, ?_, ?_, ?_, ?_, ?_, ?_, ?_, ?_, ?_, ?_, ?_, ?_, ?_, ?_, ?_, ?_, ?_, ?_, ?_, ?_, ?_, ?_⟩ <;> simp [World.cell?, World.frozen?, h1]
structure RLoc (T : Nat) (w : World) (b : Nat) (k vk vn : Int) (vs : ByteArray) (f : Fld) (A : Option Addr) (m c : Nat) : Prop where
  at_ : w.heap[b]? = some (.cells #[.int .i64 k, .int .i64 vk, .int .i64 vn, .string vs, .int .i64 f.k, .int .i64 f.vk, .int .i64 f.vn, .string f.vs, .int .i64 f.r1, .int .i64 f.r2, .int .i64 f.r3, .int .i64 f.r4, .string f.op, .slice A m c] T (0, 0))
theorem RLoc.lt {T : Nat} {w : World} {b : Nat} {k vk vn : Int} {vs : ByteArray} {f : Fld} {A : Option Addr} {m c : Nat} (h : RLoc T w b k vk vn vs f A m c) : b < w.heap.size := (Array.getElem?_eq_some_iff.1 h.at_).1
theorem RLoc.kept {T : Nat} {w w' : World} {b y : Nat} {k vk vn : Int} {vs : ByteArray} {f : Fld} {A : Option Addr} {m c : Nat} (h : RLoc T w b k vk vn vs f A m c) (hk : Kept y w w') (hb : b ≠ y) : RLoc T w' b k vk vn vs f A m c := ⟨(hk.block b h.lt hb).trans h.at_⟩
theorem RLoc.below {T : Nat} {w w' : World} {b : Nat} {k vk vn : Int} {vs : ByteArray} {f : Fld} {A : Option Addr} {m c : Nat} (h : RLoc T w b k vk vn vs f A m c) (hb : Below w.heap.size w w') : RLoc T w' b k vk vn vs f A m c := h.kept (Kept.of (x := w.heap.size) hb) (Nat.ne_of_lt h.lt)
theorem RLoc.cells {T : Nat} {w : World} {b : Nat} {k vk vn : Int} {vs : ByteArray} {f : Fld} {A : Option Addr} {m c : Nat} (h : RLoc T w b k vk vn vs f A m c) :
    w.cell? ⟨b, 0, none⟩ = some (.int .i64 k) ∧ w.cell? ⟨b, 1, none⟩ = some (.int .i64 vk) ∧ w.cell? ⟨b, 2, none⟩ = some (.int .i64 vn) ∧ w.cell? ⟨b, 3, none⟩ = some (.string vs) ∧ w.cell? ⟨b, 4, none⟩ = some (.int .i64 f.k) ∧ w.cell? ⟨b, 5, none⟩ = some (.int .i64 f.vk) ∧ w.cell? ⟨b, 6, none⟩ = some (.int .i64 f.vn) ∧ w.cell? ⟨b, 7, none⟩ = some (.string f.vs) ∧ w.cell? ⟨b, 8, none⟩ = some (.int .i64 f.r1) ∧ w.cell? ⟨b, 9, none⟩ = some (.int .i64 f.r2) ∧ w.cell? ⟨b, 10, none⟩ = some (.int .i64 f.r3) ∧ w.cell? ⟨b, 11, none⟩ = some (.int .i64 f.r4) ∧ w.cell? ⟨b, 12, none⟩ = some (.string f.op) ∧ w.cell? ⟨b, 13, none⟩ = some (.slice A m c) := by
  have h1 := h.at_
  refine ⟨?_, ?_, ?_, ?_, ?_, ?_, ?_, ?_, ?_, ?_, ?_, ?_, ?_, ?_⟩ <;> simp [World.cell?, h1]
def ReadPost (w : World) (r : RS) (e : Ending) (w' : World) : Prop :=
  ∃ A c, e = .returned (.tuple #[.agg #[.int .i64 r.k, .int .i64 r.v.k, .int .i64 r.v.n, .string r.v.s, .int .i64 r.nd.f.k, .int .i64 r.nd.f.vk, .int .i64 r.nd.f.vn, .string r.nd.f.vs, .int .i64 r.nd.f.r1, .int .i64 r.nd.f.r2, .int .i64 r.nd.f.r3, .int .i64 r.nd.f.r4, .string r.nd.f.op, .slice A r.nd.kids.len c], .int .i64 r.at_, .int .i64 r.err]) ∧ Below w.heap.size w w' ∧ KidsAt w' (fun g => w.heap.size ≤ g) r.nd.kids A
theorem ReadPost.pass {w V W : World} {r : RS} {k vk vn a n : Int} {vs : ByteArray} {f : Fld} {kd : Fo} {A : Option Addr} {m c : Nat} (hr : r = ⟨k, ⟨vk, vn, vs⟩, ⟨f, kd⟩, a, n⟩) (hB : Below w.heap.size w V) (hn : kd.len = m) (hA : KidsAt V (fun g => w.heap.size ≤ g ∧ g ≠ w.heap.size) kd A) (hk : Kept w.heap.size V W) :
    ReadPost w r (.returned (.tuple #[.agg #[.int .i64 k, .int .i64 vk, .int .i64 vn, .string vs, .int .i64 f.k, .int .i64 f.vk, .int .i64 f.vn, .string f.vs, .int .i64 f.r1, .int .i64 f.r2, .int .i64 f.r3, .int .i64 f.r4, .string f.op, .slice A m c], .int .i64 a, .int .i64 n])) W := by
  subst hr
  exact ⟨A, c, by rw [← hn], ((Kept.of hB).trans hk).below (Nat.le_refl _), hA.keep hk (fun g hg _ => ⟨hg.2, hg.1⟩)⟩
def ReadIn (w : World) (r : RS) (e : Ending) (w' : World) : Prop :=
  ∃ A c E, e = .returned (.tuple #[.agg #[.int .i64 r.k, .int .i64 r.v.k, .int .i64 r.v.n, .string r.v.s, .int .i64 r.nd.f.k, .int .i64 r.nd.f.vk, .int .i64 r.nd.f.vn, .string r.nd.f.vs, .int .i64 r.nd.f.r1, .int .i64 r.nd.f.r2, .int .i64 r.nd.f.r3, .int .i64 r.nd.f.r4, .string r.nd.f.op, .slice A r.nd.kids.len c], E]) ∧ ErrV E r.at_ r.err ∧ Below w.heap.size w w' ∧ KidsAt w' (fun g => w.heap.size ≤ g) r.nd.kids A
theorem ReadIn.nil {w V W : World} {r : RS} {a n : Int} {E : Value} (hr : r = noneR a n) (hE : ErrV E a n) (hB : Below w.heap.size w V) (hk : Kept w.heap.size V W) :
    ReadIn w r (.returned (.tuple #[.agg #[.int .i64 0, .int .i64 0, .int .i64 0, .string { data := #[] }, .int .i64 0, .int .i64 0, .int .i64 0, .string { data := #[] }, .int .i64 0, .int .i64 0, .int .i64 0, .int .i64 0, .string { data := #[] }, .slice none 0 0], E])) W := by
  subst hr
  exact ⟨none, 0, E, rfl, hE, ((Kept.of hB).trans hk).below (Nat.le_refl _), Or.inl rfl⟩
theorem ReadIn.val {w V W : World} {r : RS} {k n : Int} {s : ByteArray} (hr : r = valR ⟨k, n, s⟩) (hB : Below w.heap.size w V) (hk : Kept w.heap.size V W) :
    ReadIn w r (.returned (.tuple #[.agg #[.int .i64 1, .int .i64 k, .int .i64 n, .string s, .int .i64 0, .int .i64 0, .int .i64 0, .string { data := #[] }, .int .i64 0, .int .i64 0, .int .i64 0, .int .i64 0, .string { data := #[] }, .slice none 0 0], .nilIface])) W := by
  subst hr
  exact ⟨none, 0, _, rfl, ErrV.none, ((Kept.of hB).trans hk).below (Nat.le_refl _), Or.inl rfl⟩
theorem ReadIn.form {w V W : World} {r : RS} {f : Fld} {kd : Fo} {A : Option Addr} {m c : Nat} (hr : r = formR ⟨f, kd⟩) (hB : Below w.heap.size w V) (hn : kd.len = m) (hA : KidsAt V (fun g => w.heap.size ≤ g ∧ g ≠ w.heap.size) kd A) (hk : Kept w.heap.size V W) :
    ReadIn w r (.returned (.tuple #[.agg #[.int .i64 2, .int .i64 0, .int .i64 0, .string { data := #[] }, .int .i64 f.k, .int .i64 f.vk, .int .i64 f.vn, .string f.vs, .int .i64 f.r1, .int .i64 f.r2, .int .i64 f.r3, .int .i64 f.r4, .string f.op, .slice A m c], .nilIface])) W := by
  subst hr
  exact ⟨A, c, _, by rw [← hn]; rfl, ErrV.none, ((Kept.of hB).trans hk).below (Nat.le_refl _), hA.keep hk (fun g hg _ => ⟨hg.2, hg.1⟩)⟩
theorem ReadIn.pass {w V W : World} {r : RS} {k vk vn a n : Int} {vs : ByteArray} {f : Fld} {kd : Fo} {A : Option Addr} {m c : Nat} {E : Value} (hr : r = ⟨k, ⟨vk, vn, vs⟩, ⟨f, kd⟩, a, n⟩) (hE : ErrV E a n) (hB : Below w.heap.size w V) (hn : kd.len = m) (hA : KidsAt V (fun g => w.heap.size ≤ g ∧ g ≠ w.heap.size) kd A) (hk : Kept w.heap.size V W) :
    ReadIn w r (.returned (.tuple #[.agg #[.int .i64 k, .int .i64 vk, .int .i64 vn, .string vs, .int .i64 f.k, .int .i64 f.vk, .int .i64 f.vn, .string f.vs, .int .i64 f.r1, .int .i64 f.r2, .int .i64 f.r3, .int .i64 f.r4, .string f.op, .slice A m c], E])) W := by
  subst hr
  exact ⟨A, c, E, by rw [← hn], hE, ((Kept.of hB).trans hk).below (Nat.le_refl _), hA.keep hk (fun g hg _ => ⟨hg.2, hg.1⟩)⟩
theorem kept_drew1 {x : Nat} {a w : World} (h : Kept x a w) : Kept x a w.drew := h.drew 1
def formL (t : List UInt8) : RS := if (parseL t).err = 0 then formR (parseL t).nd else noneR ((parseL t).at_ + 1) (parseL t).err
def plainL (s : List UInt8) : RS :=
  if s = trueL then valR ⟨1, 1, nos⟩
  else if s = falseL then valR ⟨1, 0, nos⟩
  else if parseB s = true then valR ⟨2, parseN s, nos⟩
  else asText (unq s)
theorem read_long {s : List UInt8} (h : 300 < s.length) : readL s = noneR 0 2 := if_pos h
theorem read_none : readL [] = noneR 0 0 := rfl
theorem read_eq {t : List UInt8} (h : ¬ 300 < (61 :: t).length) : readL (61 :: t) = formL t := by
  unfold readL
  rw [if_neg h, if_neg (List.cons_ne_nil _ _), if_pos (show (61 :: t).head? = some 61 from rfl)]
  rfl
theorem read_plain {s : List UInt8} (h : ¬ 300 < s.length) (h0 : s ≠ []) (h1 : s.head? ≠ some 61) : readL s = plainL s := by
  unfold readL
  rw [if_neg h, if_neg h0, if_neg h1]
  rfl
theorem tl1 : ({ data := #[84, 82, 85, 69] } : ByteArray).toList = [84, 82, 85, 69] := by kernel_rfl
theorem tl2 : ({ data := #[70, 65, 76, 83, 69] } : ByteArray).toList = [70, 65, 76, 83, 69] := by kernel_rfl
theorem trim_unq (l : List UInt8) : Lib.trimPrefix l [39] = unq l := by
  cases l with
  | nil => rfl
  | cons c r =>
    unfold Lib.trimPrefix Lib.hasPrefix unq
    by_cases h : c = 39
    · subst h; rfl
    · have h1 : (List.isPrefixOf [39] (c :: r)) = false := by
        show ((39 : UInt8) == c && true) = false
        rw [Bool.and_true]; exact beq_eq_false_iff_ne.2 (fun e => h e.symm)
      rw [h1, if_neg (by decide), if_neg (show ¬ (c :: r).head? = some 39 from fun e => h (Option.some.inj e))]
theorem cut_no {s : List UInt8} (h : s.head? ≠ some 61) : Lib.hasPrefix s [61] = false := by
  cases s with
  | nil => rfl
  | cons c r =>
    show ((61 : UInt8) == c && true) = false
    rw [Bool.and_true]; exact beq_eq_false_iff_ne.2 (fun e => h (by rw [e]; rfl))
end Go.Proofs.YticehalcnbjccaaGreatDoor.SourceC
namespace Go.Proofs.YticehalcnbjccaaGreatDoor.PrintC
set_option linter.unusedVariables false
open Go.RowKit Go.Proofs.YticehalcnbjccaaGreatDoor.NumC Go.Proofs.YticehalcnbjccaaGreatDoor.LexC Go.Proofs.YticehalcnbjccaaGreatDoor.TreeC
theorem opRow_toList (s : ByteArray) : s.data.toList = s.toList := (Lib.toList_data s).symm
set_option maxRecDepth 100000 in
set_option maxHeartbeats 2000000 in
theorem csignRow (s : ByteArray) (w : World) : Calls Tryz.prog 142 #[.string s] w fun e w' => e = .returned (.int .i64 (opRow s.data.toList : Nat)) ∧ w = w' := by
  by_cases h0 : s = { data := #[94] }
  · subst h0
    go_enter Tryz.func142, Tryz.ntmps142
    go_wp2_with fail
    go_ret
    exact ⟨rfl, rfl⟩
  · have d0 : (s.toList == [94]) = false := text_ne h0
    by_cases h1 : s = { data := #[42] }
    · subst h1
      clear h0 d0
      go_enter Tryz.func142, Tryz.ntmps142
      go_wp2_with fail
      go_ret
      exact ⟨rfl, rfl⟩
    · have d1 : (s.toList == [42]) = false := text_ne h1
      by_cases h2 : s = { data := #[47] }
      · subst h2
        clear h0 d0 h1 d1
        go_enter Tryz.func142, Tryz.ntmps142
        go_wp2_with fail
        go_ret
        exact ⟨rfl, rfl⟩
      · have d2 : (s.toList == [47]) = false := text_ne h2
        by_cases h3 : s = { data := #[37] }
        · subst h3
          clear h0 d0 h1 d1 h2 d2
          go_enter Tryz.func142, Tryz.ntmps142
          go_wp2_with fail
          go_ret
          exact ⟨rfl, rfl⟩
        · have d3 : (s.toList == [37]) = false := text_ne h3
          by_cases h4 : s = { data := #[43] }
          · subst h4
            clear h0 d0 h1 d1 h2 d2 h3 d3
            go_enter Tryz.func142, Tryz.ntmps142
            go_wp2_with fail
            go_ret
            exact ⟨rfl, rfl⟩
          · have d4 : (s.toList == [43]) = false := text_ne h4
            by_cases h5 : s = { data := #[45] }
            · subst h5
              clear h0 d0 h1 d1 h2 d2 h3 d3 h4 d4
              go_enter Tryz.func142, Tryz.ntmps142
              go_wp2_with fail
              go_ret
              exact ⟨rfl, rfl⟩
            · have d5 : (s.toList == [45]) = false := text_ne h5
              by_cases h6 : s = { data := #[38] }
              · subst h6
                clear h0 d0 h1 d1 h2 d2 h3 d3 h4 d4 h5 d5
                go_enter Tryz.func142, Tryz.ntmps142
                go_wp2_with fail
                go_ret
                exact ⟨rfl, rfl⟩
              · have d6 : (s.toList == [38]) = false := text_ne h6
                by_cases h7 : s = { data := #[61] }
                · subst h7
                  clear h0 d0 h1 d1 h2 d2 h3 d3 h4 d4 h5 d5 h6 d6
                  go_enter Tryz.func142, Tryz.ntmps142
                  go_wp2_with fail
                  go_ret
                  exact ⟨rfl, rfl⟩
                · have d7 : (s.toList == [61]) = false := text_ne h7
                  by_cases h8 : s = { data := #[60, 62] }
                  · subst h8
                    clear h0 d0 h1 d1 h2 d2 h3 d3 h4 d4 h5 d5 h6 d6 h7 d7
                    go_enter Tryz.func142, Tryz.ntmps142
                    go_wp2_with fail
                    go_ret
                    exact ⟨rfl, rfl⟩
                  · have d8 : (s.toList == [60, 62]) = false := text_ne h8
                    by_cases h9 : s = { data := #[60] }
                    · subst h9
                      clear h0 d0 h1 d1 h2 d2 h3 d3 h4 d4 h5 d5 h6 d6 h7 d7 h8 d8
                      go_enter Tryz.func142, Tryz.ntmps142
                      go_wp2_with fail
                      go_ret
                      exact ⟨rfl, rfl⟩
                    · have d9 : (s.toList == [60]) = false := text_ne h9
                      by_cases h10 : s = { data := #[60, 61] }
                      · subst h10
                        clear h0 d0 h1 d1 h2 d2 h3 d3 h4 d4 h5 d5 h6 d6 h7 d7 h8 d8 h9 d9
                        go_enter Tryz.func142, Tryz.ntmps142
                        go_wp2_with fail
                        go_ret
                        exact ⟨rfl, rfl⟩
                      · have d10 : (s.toList == [60, 61]) = false := text_ne h10
                        by_cases h11 : s = { data := #[62] }
                        · subst h11
                          clear h0 d0 h1 d1 h2 d2 h3 d3 h4 d4 h5 d5 h6 d6 h7 d7 h8 d8 h9 d9 h10 d10
                          go_enter Tryz.func142, Tryz.ntmps142
                          go_wp2_with fail
                          go_ret
                          exact ⟨rfl, rfl⟩
                        · have d11 : (s.toList == [62]) = false := text_ne h11
                          by_cases h12 : s = { data := #[62, 61] }
                          · subst h12
                            clear h0 d0 h1 d1 h2 d2 h3 d3 h4 d4 h5 d5 h6 d6 h7 d7 h8 d8 h9 d9 h10 d10 h11 d11
                            go_enter Tryz.func142, Tryz.ntmps142
                            go_wp2_with fail
                            go_ret
                            exact ⟨rfl, rfl⟩
                          · have d12 : (s.toList == [62, 61]) = false := text_ne h12
                            have E : Hid (opRow s.data.toList = 0) := Lib.hid (by
                              rw [opRow_toList]
                              unfold opRow
                              have g0 : ¬ s.toList = [94] := fun h => by rw [h] at d0; revert d0; decide
                              have g1 : ¬ s.toList = [42] := fun h => by rw [h] at d1; revert d1; decide
                              have g2 : ¬ s.toList = [47] := fun h => by rw [h] at d2; revert d2; decide
                              have g3 : ¬ s.toList = [37] := fun h => by rw [h] at d3; revert d3; decide
                              have g4 : ¬ s.toList = [43] := fun h => by rw [h] at d4; revert d4; decide
                              have g5 : ¬ s.toList = [45] := fun h => by rw [h] at d5; revert d5; decide
                              have g6 : ¬ s.toList = [38] := fun h => by rw [h] at d6; revert d6; decide
                              have g7 : ¬ s.toList = [61] := fun h => by rw [h] at d7; revert d7; decide
                              have g8 : ¬ s.toList = [60, 62] := fun h => by rw [h] at d8; revert d8; decide
                              have g9 : ¬ s.toList = [60] := fun h => by rw [h] at d9; revert d9; decide
                              have g10 : ¬ s.toList = [60, 61] := fun h => by rw [h] at d10; revert d10; decide
                              have g11 : ¬ s.toList = [62] := fun h => by rw [h] at d11; revert d11; decide
                              have g12 : ¬ s.toList = [62, 61] := fun h => by rw [h] at d12; revert d12; decide
                              rw [if_neg g0, if_neg (by simp only [g1, g2, g3, or_self, not_false_eq_true]), if_neg (by simp only [g4, g5, g6, or_self, not_false_eq_true]), if_neg (by simp only [g7, g8, g9, g10, g11, g12, or_self, not_false_eq_true])])
                            clear h0 h1 h2 h3 h4 h5 h6 h7 h8 h9 h10 h11 h12
                            go_enter Tryz.func142, Tryz.ntmps142
                            go_wp2_with fail
                            go_ret
                            exact ⟨by rw [E.out]; rfl, rfl⟩
set_option maxRecDepth 100000 in
set_option maxHeartbeats 2000000 in
theorem crow (f : Fld) (A : Option Addr) (m c : Nat) (w : World) : Calls Tryz.prog 117 #[.agg #[.int .i64 f.k, .int .i64 f.vk, .int .i64 f.vn, .string f.vs, .int .i64 f.r1, .int .i64 f.r2, .int .i64 f.r3, .int .i64 f.r4, .string f.op, .slice A m c]] w fun e w' => e = .returned (.int .i64 (rowK f : Nat)) ∧ Below w.heap.size w w' := by
  have hb1 : Below w.heap.size w (w.alloc (.cells #[.int .i64 f.k, .int .i64 f.vk, .int .i64 f.vn, .string f.vs, .int .i64 f.r1, .int .i64 f.r2, .int .i64 f.r3, .int .i64 f.r4, .string f.op, .slice A m c] 31)) := (Below.refl _ _).alloc (Nat.le_refl _) _
  by_cases h1 : f.k = 1
  · have E : Hid (rowK f = 6) := Lib.hid (by unfold rowK; simp [h1])
    have e1 : (f.k == 1) = true := beq_iff_eq.2 h1
    have e2 : (f.k == 2) = false := beq_eq_false_iff_ne.2 (by omega)
    have e3 : (f.k == 3) = false := beq_eq_false_iff_ne.2 (by omega)
    have e6 : (f.k == 6) = false := beq_eq_false_iff_ne.2 (by omega)
    have e4 : (f.k == 4) = false := beq_eq_false_iff_ne.2 (by omega)
    have e5 : (f.k == 5) = false := beq_eq_false_iff_ne.2 (by omega)
    clear h1
    go_enter Tryz.func117, Tryz.ntmps117
    go_wp2_with fail
    go_ret
    exact ⟨by rw [E.out]; rfl, hb1⟩
  · have e1 : (f.k == 1) = false := beq_eq_false_iff_ne.2 h1
    by_cases h2 : f.k = 2
    · have E : Hid (rowK f = 6) := Lib.hid (by unfold rowK; simp [h2])
      have e2 : (f.k == 2) = true := beq_iff_eq.2 h2
      have e3 : (f.k == 3) = false := beq_eq_false_iff_ne.2 (by omega)
      have e6 : (f.k == 6) = false := beq_eq_false_iff_ne.2 (by omega)
      have e4 : (f.k == 4) = false := beq_eq_false_iff_ne.2 (by omega)
      have e5 : (f.k == 5) = false := beq_eq_false_iff_ne.2 (by omega)
      clear h1 h2
      go_enter Tryz.func117, Tryz.ntmps117
      go_wp2_with fail
      go_ret
      exact ⟨by rw [E.out]; rfl, hb1⟩
    · have e2 : (f.k == 2) = false := beq_eq_false_iff_ne.2 h2
      by_cases h3 : f.k = 3
      · have E : Hid (rowK f = 6) := Lib.hid (by unfold rowK; simp [h3])
        have e3 : (f.k == 3) = true := beq_iff_eq.2 h3
        have e6 : (f.k == 6) = false := beq_eq_false_iff_ne.2 (by omega)
        have e4 : (f.k == 4) = false := beq_eq_false_iff_ne.2 (by omega)
        have e5 : (f.k == 5) = false := beq_eq_false_iff_ne.2 (by omega)
        clear h1 h2 h3
        go_enter Tryz.func117, Tryz.ntmps117
        go_wp2_with fail
        go_ret
        exact ⟨by rw [E.out]; rfl, hb1⟩
      · have e3 : (f.k == 3) = false := beq_eq_false_iff_ne.2 h3
        by_cases h6 : f.k = 6
        · have E : Hid (rowK f = 6) := Lib.hid (by unfold rowK; simp [h6])
          have e6 : (f.k == 6) = true := beq_iff_eq.2 h6
          have e4 : (f.k == 4) = false := beq_eq_false_iff_ne.2 (by omega)
          have e5 : (f.k == 5) = false := beq_eq_false_iff_ne.2 (by omega)
          clear h1 h2 h3 h6
          go_enter Tryz.func117, Tryz.ntmps117
          go_wp2_with fail
          go_ret
          exact ⟨by rw [E.out]; rfl, hb1⟩
        · have e6 : (f.k == 6) = false := beq_eq_false_iff_ne.2 h6
          by_cases h4 : f.k = 4
          · have E : Hid (rowK f = 5) := Lib.hid (by unfold rowK; simp [h4])
            have e4 : (f.k == 4) = true := beq_iff_eq.2 h4
            have e5 : (f.k == 5) = false := beq_eq_false_iff_ne.2 (by omega)
            clear h1 h2 h3 h6 h4
            go_enter Tryz.func117, Tryz.ntmps117
            go_wp2_with fail
            go_ret
            exact ⟨by rw [E.out]; rfl, hb1⟩
          · have e4 : (f.k == 4) = false := beq_eq_false_iff_ne.2 h4
            by_cases h5 : f.k = 5
            · have E : Hid (rowK f = opRow f.op.data.toList) := Lib.hid (by unfold rowK; simp [h5])
              have e5 : (f.k == 5) = true := beq_iff_eq.2 h5
              clear h1 h2 h3 h6 h4 h5
              go_enter Tryz.func117, Tryz.ntmps117
              go_wp2_with fail
              refine (csignRow f.op _).mono ?_; rintro e w2 ⟨rfl, rfl⟩
              go_wp2_with fail
              go_ret
              exact ⟨by rw [E.out]; rfl, hb1⟩
            · have e5 : (f.k == 5) = false := beq_eq_false_iff_ne.2 h5
              have E : Hid (rowK f = 0) := Lib.hid (by unfold rowK; simp [h1, h2, h3, h6, h4, h5])
              clear h1 h2 h3 h6 h4 h5
              go_enter Tryz.func117, Tryz.ntmps117
              go_wp2_with fail
              go_ret
              exact ⟨by rw [E.out]; rfl, hb1⟩
set_option maxRecDepth 100000 in
set_option maxHeartbeats 2000000 in
theorem cleast (r : Nat) (h : 1 ≤ r ∧ r ≤ 4) (w : World) : Calls Tryz.prog 116 #[.int .i64 r] w fun e w' => e = .returned (.tuple #[.int .i64 (lo1 r : Nat), .int .i64 (lo2 r : Nat)]) ∧ w = w' := by
  have hr : r = 1 ∨ r = 2 ∨ r = 3 ∨ r = 4 := by omega
  clear h
  rcases hr with rfl | rfl | rfl | rfl <;>
  ( go_enter Tryz.func116, Tryz.ntmps116
    go_wp2_with fail
    go_ret2
    exact ⟨rfl, rfl⟩ )
set_option maxRecDepth 100000 in
set_option maxHeartbeats 2000000 in
theorem cshow_int (a : ValueC.Val) (w : World) (hg : ValueC.goodB a = true) (h2 : a.k = 2) (hn : I64 a.n) (hl : LibIs w) :
    Calls Tryz.prog 65 #[.agg #[.int .i64 a.k, .int .i64 a.n, .string a.s]] w fun e w' => e = .returned (.string (str (Lib.itoa a.n))) ∧ Below w.heap.size w w' := by
  have G := Lib.hid hg
  have k2 : (a.k == 2) = true := beq_iff_eq.2 h2
  have hn1 := Lib.hid hn
  have HL := Lib.hid hl
  clear hg h2 hn hl
  go_enter Tryz.func65, Tryz.ntmps65
  go_wp2_with fail
  refine (ValueC.good _ _).mono ?_; rw [G.out]; rintro e w1 ⟨rfl, hb1⟩
  obtain ⟨hc, hf⟩ := bcell hb1
  have hz := size_of hb1
  have hB := below_of hb1
  go_wp2_with fail
  refine (dec _ _ hn1.out (HL.out.below (below_of hb1))).mono ?_; rintro e w2 ⟨rfl, hb2⟩
  replace hB := hB.trans (hb2.mono hB.size)
  go_wp2
  go_ret
  refine ⟨rfl, ?_⟩
  repeat (first | with_reducible exact hB | with_reducible refine Below.setCell ?_ (by first | omega | (simp <;> omega)) _ | with_reducible refine Below.alloc ?_ (by first | omega | (simp <;> omega)) _)
set_option maxRecDepth 100000 in
set_option maxHeartbeats 2000000 in
theorem cshow_no (a : ValueC.Val) (w : World) (hg : ValueC.goodB a = true) (h1 : a.k = 1) (n0 : a.n = 0) :
    Calls Tryz.prog 65 #[.agg #[.int .i64 a.k, .int .i64 a.n, .string a.s]] w fun e w' => e = .returned (.string (str (falT))) ∧ Below w.heap.size w w' := by
  have G := Lib.hid hg
  have k2 : (a.k == 2) = false := beq_eq_false_iff_ne.2 (by omega)
  have k4 : (a.k == 4) = false := beq_eq_false_iff_ne.2 (by omega)
  have k1 : (a.k == 1) = true := beq_iff_eq.2 h1
  have m0 : (a.n == 0) = true := beq_iff_eq.2 n0
  clear hg h1 n0
  go_enter Tryz.func65, Tryz.ntmps65
  go_wp2_with fail
  refine (ValueC.good _ _).mono ?_; rw [G.out]; rintro e w1 ⟨rfl, hb1⟩
  obtain ⟨hc, hf⟩ := bcell hb1
  have hz := size_of hb1
  have hB := below_of hb1
  go_wp2_with fail
  go_ret
  refine ⟨rfl, ?_⟩
  repeat (first | with_reducible exact hB | with_reducible refine Below.setCell ?_ (by first | omega | (simp <;> omega)) _ | with_reducible refine Below.alloc ?_ (by first | omega | (simp <;> omega)) _)
set_option maxRecDepth 100000 in
set_option maxHeartbeats 2000000 in
theorem cshow_yes (a : ValueC.Val) (w : World) (hg : ValueC.goodB a = true) (h1 : a.k = 1) (n0 : a.n ≠ 0) :
    Calls Tryz.prog 65 #[.agg #[.int .i64 a.k, .int .i64 a.n, .string a.s]] w fun e w' => e = .returned (.string (str (truT))) ∧ Below w.heap.size w w' := by
  have G := Lib.hid hg
  have k2 : (a.k == 2) = false := beq_eq_false_iff_ne.2 (by omega)
  have k4 : (a.k == 4) = false := beq_eq_false_iff_ne.2 (by omega)
  have k1 : (a.k == 1) = true := beq_iff_eq.2 h1
  have m0 : (a.n == 0) = false := beq_eq_false_iff_ne.2 n0
  clear hg h1 n0
  go_enter Tryz.func65, Tryz.ntmps65
  go_wp2_with fail
  refine (ValueC.good _ _).mono ?_; rw [G.out]; rintro e w1 ⟨rfl, hb1⟩
  obtain ⟨hc, hf⟩ := bcell hb1
  have hz := size_of hb1
  have hB := below_of hb1
  go_wp2_with fail
  go_ret
  refine ⟨rfl, ?_⟩
  repeat (first | with_reducible exact hB | with_reducible refine Below.setCell ?_ (by first | omega | (simp <;> omega)) _ | with_reducible refine Below.alloc ?_ (by first | omega | (simp <;> omega)) _)
set_option maxRecDepth 100000 in
set_option maxHeartbeats 2000000 in
theorem cconst (vk vn : Int) (vs : ByteArray) (w : World) (h : constB vk vn vs = true) (hn : vn ≤ 9223372036854775807) (hl : LexLib w) :
    Calls Tryz.prog 113 #[.agg #[.int .i64 vk, .int .i64 vn, .string vs]] w fun e w' => e = .returned (.string (str (constT vk vn vs))) ∧ Below w.heap.size w w' := by
  have hb1 : Below w.heap.size w (w.alloc (.cells #[.int .i64 vk, .int .i64 vn, .string vs] 24)) := (Below.refl _ _).alloc (Nat.le_refl _) _
  have HL := Lib.hid (hl.below hb1)
  have hs : constB vk vn vs = true → (vk = 3 ∧ vs.size ≤ 200) ∨ (vk = 2 ∧ 0 ≤ vn ∧ ValueC.goodB ⟨vk, vn, vs⟩ = true) ∨ (vk = 1 ∧ ValueC.goodB ⟨vk, vn, vs⟩ = true) := fun h => by
    unfold constB at h
    split at h
    · rename_i h2
      rw [Bool.and_eq_true] at h
      exact Or.inr (Or.inl ⟨h2, of_decide_eq_true h.2, h.1⟩)
    · split at h
      · rename_i h3
        have hg : ValueC.GoodP ⟨vk, vn, vs⟩ := of_decide_eq_true h
        rcases h3 with rfl | rfl
        · unfold ValueC.GoodP at hg; simp only at hg; exact Or.inl ⟨rfl, by omega⟩
        · exact Or.inr (Or.inr ⟨rfl, h⟩)
      · cases h
  rcases hs h with ⟨h3, hsz⟩ | ⟨h2, h0, hg⟩ | ⟨h1, hg⟩
  · have E : Hid (constT vk vn vs = quL vs.data.toList) := Lib.hid (by unfold constT; rw [if_pos h3])
    have k3 : (vk == 3) = true := beq_iff_eq.2 h3
    clear h hs h3 hn hl
    go_enter Tryz.func113, Tryz.ntmps113
    go_wp2_with fail
    refine (quote vs _ (by omega) HL.out).mono ?_; rintro e w2 ⟨rfl, hb2⟩
    go_wp2_with fail
    go_ret
    exact ⟨by rw [E.out]; rfl, hb1.trans (hb2.mono hb1.size)⟩
  · have E : Hid (constT vk vn vs = Lib.itoa vn) := Lib.hid (by unfold constT; rw [if_neg (by omega), if_neg (by omega)])
    have k3 : (vk == 3) = false := beq_eq_false_iff_ne.2 (by omega)
    have hi : I64 vn := by unfold I64; omega
    have HC := Lib.hid (cshow_int ⟨vk, vn, vs⟩ _ hg h2 hi HL.out.lib)
    clear h hs h2 h0 hg hn hl hi
    go_enter Tryz.func113, Tryz.ntmps113
    go_wp2_with fail
    refine HC.out.mono ?_; rintro e w2 ⟨rfl, hb2⟩
    go_wp2_with fail
    go_ret
    exact ⟨by rw [E.out]; rfl, hb1.trans (hb2.mono hb1.size)⟩
  · have k3 : (vk == 3) = false := beq_eq_false_iff_ne.2 (by omega)
    by_cases hz : vn = 0
    · have E : Hid (constT vk vn vs = falT) := Lib.hid (by unfold constT; rw [if_neg (by omega), if_pos h1, if_pos hz])
      have HC := Lib.hid (cshow_no ⟨vk, vn, vs⟩ (w.alloc (.cells #[.int .i64 vk, .int .i64 vn, .string vs] 24)) hg h1 hz)
      clear h hs h1 hg hn hl hz
      go_enter Tryz.func113, Tryz.ntmps113
      go_wp2_with fail
      refine HC.out.mono ?_; rintro e w2 ⟨rfl, hb2⟩
      go_wp2_with fail
      go_ret
      exact ⟨by rw [E.out]; rfl, hb1.trans (hb2.mono hb1.size)⟩
    · have E : Hid (constT vk vn vs = truT) := Lib.hid (by unfold constT; rw [if_neg (by omega), if_pos h1, if_neg hz])
      have HC := Lib.hid (cshow_yes ⟨vk, vn, vs⟩ (w.alloc (.cells #[.int .i64 vk, .int .i64 vn, .string vs] 24)) hg h1 hz)
      clear h hs h1 hg hn hl hz
      go_enter Tryz.func113, Tryz.ntmps113
      go_wp2_with fail
      refine HC.out.mono ?_; rintro e w2 ⟨rfl, hb2⟩
      go_wp2_with fail
      go_ret
      exact ⟨by rw [E.out]; rfl, hb1.trans (hb2.mono hb1.size)⟩
end Go.Proofs.YticehalcnbjccaaGreatDoor.PrintC
namespace Go.Proofs.YticehalcnbjccaaGreatDoor.TreeC
set_option linter.unusedVariables false
open Go.RowKit Go.Proofs.YticehalcnbjccaaGreatDoor.NumC Go.Proofs.YticehalcnbjccaaGreatDoor.LexC
def Alike (n : Nat) : Prop := ∀ (a b : Nd) (A B : Option Addr) (c d : Nat) (w : World), a.size ≤ n → a.size ≤ 1000000 → b.size ≤ 1000000 → KidsAt w (fun g => g < w.heap.size) a.kids A → KidsAt w (fun g => g < w.heap.size) b.kids B →
    Calls Tryz.prog 62 #[.agg #[.int .i64 a.f.k, .int .i64 a.f.vk, .int .i64 a.f.vn, .string a.f.vs, .int .i64 a.f.r1, .int .i64 a.f.r2, .int .i64 a.f.r3, .int .i64 a.f.r4, .string a.f.op, .slice A a.kids.len c], .agg #[.int .i64 b.f.k, .int .i64 b.f.vk, .int .i64 b.f.vn, .string b.f.vs, .int .i64 b.f.r1, .int .i64 b.f.r2, .int .i64 b.f.r3, .int .i64 b.f.r4, .string b.f.op, .slice B b.kids.len d]] w fun e w' => e = .returned (.bool (decide (a = b))) ∧ Below w.heap.size w w'
theorem Fo.drop_eq (x y : Fo) (i : Nat) (hx : i < x.len) (hy : i < y.len) : decide (x.drop i = y.drop i) = (decide (x.nth i = y.nth i) && decide (x.drop (i + 1) = y.drop (i + 1))) := by
  rw [Fo.drop_nth x i hx, Fo.drop_nth y i hy]
  generalize x.nth i = p
  generalize y.nth i = q
  obtain ⟨p1, p2⟩ := p
  obtain ⟨q1, q2⟩ := q
  by_cases h1 : p1 = q1 <;> by_cases h2 : p2 = q2 <;> by_cases h3 : x.drop (i + 1) = y.drop (i + 1) <;> simp [h1, h2, h3]
theorem Fo.len_ne {x y : Fo} (h : x.len ≠ y.len) : decide (x = y) = false := decide_eq_false (fun e => h (by rw [e]))
set_option maxRecDepth 100000 in
set_option maxHeartbeats 1000000 in
theorem cequal (n : Nat) (H : Alike n) (x y : Fo) (A B : Option Addr) (c d : Nat) (w : World) (hn : x.size ≤ n) (hx : x.size ≤ 1000000) (hy : y.size ≤ 1000000) (hA : KidsAt w (fun g => g < w.heap.size) x A) (hB : KidsAt w (fun g => g < w.heap.size) y B) :
    Calls Tryz.prog 93 #[.slice A x.len c, .slice B y.len d, .func (.func 62) #[] #[]] w fun e w' => e = .returned (.bool (decide (x = y))) ∧ Below w.heap.size w w' := by
  have HA := Lib.hid hA
  have HB := Lib.hid hB
  clear hA hB
  have lx := Fo.len_size x
  have ly := Fo.len_size y
  by_cases hl : x.len = y.len
  · have e1 : ((x.len : Int) != (y.len : Int)) = false := by rw [hl]; simp
    have HLN := Lib.hid hl
    clear hl
    go_enter Tryz.func93, Tryz.ntmps93
    go_wp2_with fail
    go_loopw [17] (fun iv wr => ∃ (i : Nat), i ≤ x.len ∧ iv = .int .i64 i ∧ Below w.heap.size w wr ∧ Hid (decide (x.drop i = y.drop i) = decide (x = y))) (fun iv _ => x.len - (intOf iv).toNat)
    case atStart => exact ⟨0, Nat.zero_le _, rfl, Below.refl _ _, Lib.hid (by cases x <;> cases y <;> rfl)⟩
    case round =>
      obtain ⟨i, hi, rfl, hW, HR⟩ := hrel
      have KA := below_row HA.out hW
      have KB := below_row HB.out hW
      by_cases hlt : i < x.len
      · have d1 : (i : Int) < (x.len : Int) := by omega
        have d2 : (i : Int) < (y.len : Int) := by have := HLN.out; omega
        have hlt2 : i < y.len := by have := HLN.out; omega
        obtain ⟨g, o, rfl, hrow⟩ : ∃ g o, A = some ⟨g, o, none⟩ ∧ RowAt wr (fun g => g < wr.heap.size) x g o := by
          rcases KA with h | h
          · rw [h] at hlt; exact absurd hlt (by simp [Fo.len])
          · exact h
        obtain ⟨g', o', rfl, hrow'⟩ : ∃ g o, B = some ⟨g, o, none⟩ ∧ RowAt wr (fun g => g < wr.heap.size) y g o := by
          rcases KB with h | h
          · rw [h] at hlt2; exact absurd hlt2 (by simp [Fo.len])
          · exact h
        obtain ⟨A2, c2, hk2, hpp, f0, f1, f2, f3, f4, f5, f6, f7, f8, f9⟩ := RowAt.nth x g o i hrow hlt
        have b1 : Below wr.heap.size wr (wr.alloc (.cells #[.int .i64 (x.nth i).f.k, .int .i64 (x.nth i).f.vk, .int .i64 (x.nth i).f.vn, .string (x.nth i).f.vs, .int .i64 (x.nth i).f.r1, .int .i64 (x.nth i).f.r2, .int .i64 (x.nth i).f.r3, .int .i64 (x.nth i).f.r4, .string (x.nth i).f.op, .slice A2 (x.nth i).kids.len c2] 31)) := (Below.refl _ _).alloc (Nat.le_refl _) _
        have hrow2 := RowAt.keep (Q := fun g => g < wr.heap.size) (Kept.of (x := wr.heap.size) b1) (fun g hg hl => ⟨by omega, hg⟩) y g' o' hrow'
        obtain ⟨B2, d2', hk3, hpq, r0, r1, r2, r3, r4, r5, r6, r7, r8, r9⟩ := RowAt.nth y g' o' i hrow2 hlt2
        have hn1 := Fo.nth_size x i hlt
        have hn2 := Fo.nth_size y i hlt2
        have b2 : Below wr.heap.size wr ((wr.alloc (.cells #[.int .i64 (x.nth i).f.k, .int .i64 (x.nth i).f.vk, .int .i64 (x.nth i).f.vn, .string (x.nth i).f.vs, .int .i64 (x.nth i).f.r1, .int .i64 (x.nth i).f.r2, .int .i64 (x.nth i).f.r3, .int .i64 (x.nth i).f.r4, .string (x.nth i).f.op, .slice A2 (x.nth i).kids.len c2] 31)).alloc (.cells #[.int .i64 (y.nth i).f.k, .int .i64 (y.nth i).f.vk, .int .i64 (y.nth i).f.vn, .string (y.nth i).f.vs, .int .i64 (y.nth i).f.r1, .int .i64 (y.nth i).f.r2, .int .i64 (y.nth i).f.r3, .int .i64 (y.nth i).f.r4, .string (y.nth i).f.op, .slice B2 (y.nth i).kids.len d2'] 31)) := b1.alloc b1.size _
        have M1 : NLoc ((wr.alloc (.cells #[.int .i64 (x.nth i).f.k, .int .i64 (x.nth i).f.vk, .int .i64 (x.nth i).f.vn, .string (x.nth i).f.vs, .int .i64 (x.nth i).f.r1, .int .i64 (x.nth i).f.r2, .int .i64 (x.nth i).f.r3, .int .i64 (x.nth i).f.r4, .string (x.nth i).f.op, .slice A2 (x.nth i).kids.len c2] 31)).alloc (.cells #[.int .i64 (y.nth i).f.k, .int .i64 (y.nth i).f.vk, .int .i64 (y.nth i).f.vn, .string (y.nth i).f.vs, .int .i64 (y.nth i).f.r1, .int .i64 (y.nth i).f.r2, .int .i64 (y.nth i).f.r3, .int .i64 (y.nth i).f.r4, .string (y.nth i).f.op, .slice B2 (y.nth i).kids.len d2'] 31)) wr.heap.size (x.nth i).f A2 (x.nth i).kids.len c2 := NLoc.kept ⟨heap_alloc_new _ _⟩ ((Kept.refl (wr.alloc (.cells #[.int .i64 (x.nth i).f.k, .int .i64 (x.nth i).f.vk, .int .i64 (x.nth i).f.vn, .string (x.nth i).f.vs, .int .i64 (x.nth i).f.r1, .int .i64 (x.nth i).f.r2, .int .i64 (x.nth i).f.r3, .int .i64 (x.nth i).f.r4, .string (x.nth i).f.op, .slice A2 (x.nth i).kids.len c2] 31)).heap.size _).alloc _) (by simp)
        have z1 : (wr.alloc (.cells #[.int .i64 (x.nth i).f.k, .int .i64 (x.nth i).f.vk, .int .i64 (x.nth i).f.vn, .string (x.nth i).f.vs, .int .i64 (x.nth i).f.r1, .int .i64 (x.nth i).f.r2, .int .i64 (x.nth i).f.r3, .int .i64 (x.nth i).f.r4, .string (x.nth i).f.op, .slice A2 (x.nth i).kids.len c2] 31)).heap.size = wr.heap.size + 1 := heap_one _ _
        have M2 : NLoc ((wr.alloc (.cells #[.int .i64 (x.nth i).f.k, .int .i64 (x.nth i).f.vk, .int .i64 (x.nth i).f.vn, .string (x.nth i).f.vs, .int .i64 (x.nth i).f.r1, .int .i64 (x.nth i).f.r2, .int .i64 (x.nth i).f.r3, .int .i64 (x.nth i).f.r4, .string (x.nth i).f.op, .slice A2 (x.nth i).kids.len c2] 31)).alloc (.cells #[.int .i64 (y.nth i).f.k, .int .i64 (y.nth i).f.vk, .int .i64 (y.nth i).f.vn, .string (y.nth i).f.vs, .int .i64 (y.nth i).f.r1, .int .i64 (y.nth i).f.r2, .int .i64 (y.nth i).f.r3, .int .i64 (y.nth i).f.r4, .string (y.nth i).f.op, .slice B2 (y.nth i).kids.len d2'] 31)) (wr.heap.size + 1) (y.nth i).f B2 (y.nth i).kids.len d2' := ⟨by rw [← z1]; exact heap_alloc_new _ _⟩
        clear z1
        have k2 := below_row hk2 b2
        have k3 : KidsAt ((wr.alloc (.cells #[.int .i64 (x.nth i).f.k, .int .i64 (x.nth i).f.vk, .int .i64 (x.nth i).f.vn, .string (x.nth i).f.vs, .int .i64 (x.nth i).f.r1, .int .i64 (x.nth i).f.r2, .int .i64 (x.nth i).f.r3, .int .i64 (x.nth i).f.r4, .string (x.nth i).f.op, .slice A2 (x.nth i).kids.len c2] 31)).alloc (.cells #[.int .i64 (y.nth i).f.k, .int .i64 (y.nth i).f.vk, .int .i64 (y.nth i).f.vn, .string (y.nth i).f.vs, .int .i64 (y.nth i).f.r1, .int .i64 (y.nth i).f.r2, .int .i64 (y.nth i).f.r3, .int .i64 (y.nth i).f.r4, .string (y.nth i).f.op, .slice B2 (y.nth i).kids.len d2'] 31)) (fun g => g < ((wr.alloc (.cells #[.int .i64 (x.nth i).f.k, .int .i64 (x.nth i).f.vk, .int .i64 (x.nth i).f.vn, .string (x.nth i).f.vs, .int .i64 (x.nth i).f.r1, .int .i64 (x.nth i).f.r2, .int .i64 (x.nth i).f.r3, .int .i64 (x.nth i).f.r4, .string (x.nth i).f.op, .slice A2 (x.nth i).kids.len c2] 31)).alloc (.cells #[.int .i64 (y.nth i).f.k, .int .i64 (y.nth i).f.vk, .int .i64 (y.nth i).f.vn, .string (y.nth i).f.vs, .int .i64 (y.nth i).f.r1, .int .i64 (y.nth i).f.r2, .int .i64 (y.nth i).f.r3, .int .i64 (y.nth i).f.r4, .string (y.nth i).f.op, .slice B2 (y.nth i).kids.len d2'] 31)).heap.size) (y.nth i).kids B2 := hk3.keep (Kept.of (x := (wr.alloc (.cells #[.int .i64 (x.nth i).f.k, .int .i64 (x.nth i).f.vk, .int .i64 (x.nth i).f.vn, .string (x.nth i).f.vs, .int .i64 (x.nth i).f.r1, .int .i64 (x.nth i).f.r2, .int .i64 (x.nth i).f.r3, .int .i64 (x.nth i).f.r4, .string (x.nth i).f.op, .slice A2 (x.nth i).kids.len c2] 31)).heap.size) ((Below.refl _ _).alloc (Nat.le_refl _) _)) (fun g hg hl => ⟨by omega, by have := b2.size; omega⟩)
        have HI := Lib.hid (H (x.nth i) (y.nth i) A2 B2 c2 d2' _ (by omega) (by omega) (by omega) k2 k3)
        have HB2 := Lib.hid b2
        have HD : Hid ((decide (x.nth i = y.nth i) && decide (x.drop (i + 1) = y.drop (i + 1))) = decide (x = y)) := Lib.hid (by rw [← Fo.drop_eq x y i hlt hlt2]; exact HR.out)
        clear hrow hrow' hrow2 hk2 hk3 k2 k3 KA KB H hn1 hn2 b1 b2 HR hpp hpq
        generalize x.nth i = p at *
        generalize y.nth i = q at *
        obtain ⟨m0, m1, m2, m3, m4, m5, m6, m7, m8, m9, -⟩ := M1.cells
        obtain ⟨n0, n1, n2, n3, n4, n5, n6, n7, n8, n9, -⟩ := M2.cells
        clear M1 M2
        go_wp2_with fail
        refine HI.out.mono ?_; rintro e w2 ⟨rfl, hb2⟩
        have hbb := HB2.out.trans (hb2.mono HB2.out.size)
        cases hs : decide (p = q) with
        | false =>
          have E : Hid (decide (x = y) = false) := Lib.hid (by have := HD.out; rw [hs] at this; simpa using this.symm)
          go_wp2_with fail
          go_ret
          exact ⟨by rw [E.out]; rfl, hW.trans (hbb.mono hW.size)⟩
        | true =>
          go_wp2_with fail
          go_roundw
          case rel => exact ⟨i + 1, by omega, by go_num, hW.trans (hbb.mono hW.size), Lib.hid (by have := HD.out; rw [hs, Bool.true_and] at this; exact this)⟩
          case measure => simp [intOf]; omega
      · have E : Hid (decide (x = y) = true) := Lib.hid (by have := HR.out; rw [Fo.drop_len x i (by omega), Fo.drop_len y i (by have := HLN.out; omega)] at this; rw [← this]; exact decide_eq_true rfl)
        have d1 : ¬ (i : Int) < (x.len : Int) := by omega
        clear H KA KB
        go_wp2_with fail
        go_ret
        exact ⟨by rw [E.out]; rfl, hW⟩
  · have e1 : ((x.len : Int) != (y.len : Int)) = true := by simp; omega
    have E := Lib.hid (Fo.len_ne hl)
    clear H
    go_enter Tryz.func93, Tryz.ntmps93
    go_wp2_with fail
    go_ret
    exact ⟨by rw [E.out]; rfl, Below.refl _ _⟩
def sameF (f h : Fld) : Bool := decide (f.k = h.k) && (ValueC.sameB ⟨f.vk, f.vn, f.vs⟩ ⟨h.vk, h.vn, h.vs⟩ && (decide (f.r1 = h.r1 ∧ f.r2 = h.r2 ∧ f.r3 = h.r3 ∧ f.r4 = h.r4) && (f.op.toList == h.op.toList)))
theorem list_eq {a b : ByteArray} (h : a.toList = b.toList) : a = b := by
  rw [Lib.toList_data, Lib.toList_data] at h
  obtain ⟨⟨a⟩⟩ := a
  obtain ⟨⟨b⟩⟩ := b
  have : a = b := h
  rw [this]
theorem same_nd (f h : Fld) (x y : Fo) : (sameF f h && decide (x = y)) = decide (Nd.mk f x = Nd.mk h y) := by
  obtain ⟨k, vk, vn, vs, r1, r2, r3, r4, op⟩ := f
  obtain ⟨k', vk', vn', vs', r1', r2', r3', r4', op'⟩ := h
  have e : (op.toList == op'.toList) = decide (op = op') := by
    by_cases h : op = op'
    · subst h; simp
    · rw [decide_eq_false h]; exact beq_eq_false_iff_ne.2 (fun e => h (list_eq e))
  simp only [sameF, ValueC.sameB, e]
  rw [Bool.eq_iff_iff]
  simp only [Bool.and_eq_true, decide_eq_true_eq, Nd.mk.injEq, Fld.mk.injEq, ValueC.Val.mk.injEq]
  constructor
  · rintro ⟨⟨h1, ⟨h2, h3, h4⟩, ⟨h5, h6, h7, h8⟩, h9⟩, h10⟩; exact ⟨⟨h1, h2, h3, h4, h5, h6, h7, h8, h9⟩, h10⟩
  · rintro ⟨⟨h1, h2, h3, h4, h5, h6, h7, h8, h9⟩, h10⟩; exact ⟨⟨h1, ⟨h2, h3, h4⟩, ⟨h5, h6, h7, h8⟩, h9⟩, h10⟩
set_option maxRecDepth 100000 in
set_option maxHeartbeats 1000000 in
theorem calike1 (n : Nat) (H : Alike n) (f h : Fld) (x y : Fo) (A B : Option Addr) (c d : Nat) (w : World) (hn : x.size ≤ n) (hx : x.size ≤ 1000000) (hy : y.size ≤ 1000000) (hA : KidsAt w (fun g => g < w.heap.size) x A) (hB : KidsAt w (fun g => g < w.heap.size) y B) :
    Calls Tryz.prog 62 #[.agg #[.int .i64 f.k, .int .i64 f.vk, .int .i64 f.vn, .string f.vs, .int .i64 f.r1, .int .i64 f.r2, .int .i64 f.r3, .int .i64 f.r4, .string f.op, .slice A x.len c], .agg #[.int .i64 h.k, .int .i64 h.vk, .int .i64 h.vn, .string h.vs, .int .i64 h.r1, .int .i64 h.r2, .int .i64 h.r3, .int .i64 h.r4, .string h.op, .slice B y.len d]] w fun e w' => e = .returned (.bool (decide (Nd.mk f x = Nd.mk h y))) ∧ Below w.heap.size w w' := by
  have b1 : Below w.heap.size w (w.alloc (.cells #[.int .i64 f.k, .int .i64 f.vk, .int .i64 f.vn, .string f.vs, .int .i64 f.r1, .int .i64 f.r2, .int .i64 f.r3, .int .i64 f.r4, .string f.op, .slice A x.len c] 31)) := (Below.refl _ _).alloc (Nat.le_refl _) _
  have b2 : Below w.heap.size w ((w.alloc (.cells #[.int .i64 f.k, .int .i64 f.vk, .int .i64 f.vn, .string f.vs, .int .i64 f.r1, .int .i64 f.r2, .int .i64 f.r3, .int .i64 f.r4, .string f.op, .slice A x.len c] 31)).alloc (.cells #[.int .i64 h.k, .int .i64 h.vk, .int .i64 h.vn, .string h.vs, .int .i64 h.r1, .int .i64 h.r2, .int .i64 h.r3, .int .i64 h.r4, .string h.op, .slice B y.len d] 31)) := b1.alloc b1.size _
  have L1 : NLoc ((w.alloc (.cells #[.int .i64 f.k, .int .i64 f.vk, .int .i64 f.vn, .string f.vs, .int .i64 f.r1, .int .i64 f.r2, .int .i64 f.r3, .int .i64 f.r4, .string f.op, .slice A x.len c] 31)).alloc (.cells #[.int .i64 h.k, .int .i64 h.vk, .int .i64 h.vn, .string h.vs, .int .i64 h.r1, .int .i64 h.r2, .int .i64 h.r3, .int .i64 h.r4, .string h.op, .slice B y.len d] 31)) w.heap.size f A x.len c := NLoc.kept ⟨heap_alloc_new _ _⟩ ((Kept.refl (w.alloc (.cells #[.int .i64 f.k, .int .i64 f.vk, .int .i64 f.vn, .string f.vs, .int .i64 f.r1, .int .i64 f.r2, .int .i64 f.r3, .int .i64 f.r4, .string f.op, .slice A x.len c] 31)).heap.size _).alloc _) (by simp)
  have z1 : (w.alloc (.cells #[.int .i64 f.k, .int .i64 f.vk, .int .i64 f.vn, .string f.vs, .int .i64 f.r1, .int .i64 f.r2, .int .i64 f.r3, .int .i64 f.r4, .string f.op, .slice A x.len c] 31)).heap.size = w.heap.size + 1 := heap_one _ _
  have L2 : NLoc ((w.alloc (.cells #[.int .i64 f.k, .int .i64 f.vk, .int .i64 f.vn, .string f.vs, .int .i64 f.r1, .int .i64 f.r2, .int .i64 f.r3, .int .i64 f.r4, .string f.op, .slice A x.len c] 31)).alloc (.cells #[.int .i64 h.k, .int .i64 h.vk, .int .i64 h.vn, .string h.vs, .int .i64 h.r1, .int .i64 h.r2, .int .i64 h.r3, .int .i64 h.r4, .string h.op, .slice B y.len d] 31)) (w.heap.size + 1) h B y.len d := ⟨by rw [← z1]; exact heap_alloc_new _ _⟩
  clear z1
  have HA := Lib.hid (below_row hA b2)
  have HB := Lib.hid (below_row hB b2)
  have HW := Lib.hid b2
  have HD := Lib.hid (same_nd f h x y)
  have eR : ∀ W, (binOp .eql 28 (.agg #[.int .i64 f.r1, .int .i64 f.r2, .int .i64 f.r3, .int .i64 f.r4]) (.agg #[.int .i64 h.r1, .int .i64 h.r2, .int .i64 h.r3, .int .i64 h.r4])).run Tryz.prog W = .ok (.bool (decide (f.r1 = h.r1 ∧ f.r2 = h.r2 ∧ f.r3 = h.r3 ∧ f.r4 = h.r4))) W := fun W => eq_rect _ _ _ _ _ _ _ _ W
  clear hA hB b1 b2
  obtain ⟨d0, d1, d2, d3, d4, d5, d6, d7, d8, d9, -⟩ := L1.cells
  obtain ⟨h0, h1, h2, h3, h4, h5, h6, h7, h8, h9, -⟩ := L2.cells
  cases hk : decide (f.k = h.k) with
  | false =>
    have e0 : (f.k == h.k) = false := beq_eq_false_iff_ne.2 (of_decide_eq_false hk)
    have E : Hid (decide (Nd.mk f x = Nd.mk h y) = false) := Lib.hid (by rw [← HD.out]; simp [sameF, hk])
    clear H
    go_enter Tryz.func62, Tryz.ntmps62
    go_wp2_with fail
    go_ret
    exact ⟨by rw [E.out]; rfl, HW.out⟩
  | true =>
    have e0 : (f.k == h.k) = true := beq_iff_eq.2 (of_decide_eq_true hk)
    have HH := Lib.hid H
    clear H
    go_enter Tryz.func62, Tryz.ntmps62
    go_wp2_with fail
    generalize ((w.alloc (.cells #[.int .i64 f.k, .int .i64 f.vk, .int .i64 f.vn, .string f.vs, .int .i64 f.r1, .int .i64 f.r2, .int .i64 f.r3, .int .i64 f.r4, .string f.op, .slice A x.len c] 31)).alloc (.cells #[.int .i64 h.k, .int .i64 h.vk, .int .i64 h.vn, .string h.vs, .int .i64 h.r1, .int .i64 h.r2, .int .i64 h.r3, .int .i64 h.r4, .string h.op, .slice B y.len d] 31)) = W1 at *
    refine (ValueC.same ⟨f.vk, f.vn, f.vs⟩ ⟨h.vk, h.vn, h.vs⟩ W1).mono ?_; rintro e w2 ⟨rfl, hb2⟩
    have N1 := L1.kept (Kept.of (x := W1.heap.size) hb2) (Nat.ne_of_lt L1.lt)
    have N2 := L2.kept (Kept.of (x := W1.heap.size) hb2) (Nat.ne_of_lt L2.lt)
    have HA2 := Lib.hid (below_row HA.out hb2)
    have HB2 := Lib.hid (below_row HB.out hb2)
    have HW2 := Lib.hid (HW.out.trans (hb2.mono HW.out.size))
    clear d0 d1 d2 d3 d4 d5 d6 d7 d8 d9 h0 h1 h2 h3 h4 h5 h6 h7 h8 h9 L1 L2 HA HB
    obtain ⟨d0, d1, d2, d3, d4, d5, d6, d7, d8, d9, -⟩ := N1.cells
    obtain ⟨h0, h1, h2, h3, h4, h5, h6, h7, h8, h9, -⟩ := N2.cells
    cases hv : ValueC.sameB ⟨f.vk, f.vn, f.vs⟩ ⟨h.vk, h.vn, h.vs⟩ with
    | false =>
      have E : Hid (decide (Nd.mk f x = Nd.mk h y) = false) := Lib.hid (by rw [← HD.out]; simp [sameF, hv])
      go_wp2_with fail
      go_ret
      exact ⟨by rw [E.out]; rfl, HW2.out⟩
    | true =>
      cases hr : decide (f.r1 = h.r1 ∧ f.r2 = h.r2 ∧ f.r3 = h.r3 ∧ f.r4 = h.r4) with
      | false =>
        rw [hr] at eR
        have E : Hid (decide (Nd.mk f x = Nd.mk h y) = false) := Lib.hid (by rw [← HD.out]; unfold sameF; rw [hr]; simp)
        go_wp2_with fail
        go_ret
        exact ⟨by rw [E.out]; rfl, HW2.out⟩
      | true =>
        rw [hr] at eR
        cases ho : (f.op.toList == h.op.toList) with
        | false =>
          have E : Hid (decide (Nd.mk f x = Nd.mk h y) = false) := Lib.hid (by rw [← HD.out]; unfold sameF; rw [ho]; simp)
          go_wp2_with fail
          go_ret
          exact ⟨by rw [E.out]; rfl, HW2.out⟩
        | true =>
          have E : Hid (decide (Nd.mk f x = Nd.mk h y) = decide (x = y)) := Lib.hid (by rw [← HD.out]; unfold sameF; rw [ho, hr, hv, hk]; simp)
          go_wp2_with fail
          refine (cequal n HH.out x y A B c d w2 hn hx hy HA2.out HB2.out).mono ?_; rintro e w3 ⟨rfl, hb3⟩
          go_wp2_with fail
          go_ret
          exact ⟨by rw [E.out]; rfl, HW2.out.trans (hb3.mono HW2.out.size)⟩
theorem alike_all : ∀ n, Alike n := by
  intro n
  induction n with
  | zero => intro a b A B c d w h; exact absurd h (by unfold Nd.size; omega)
  | succ n ih =>
    intro a b A B c d w h1 h2 h3 hA hB
    obtain ⟨f, x⟩ := a
    obtain ⟨h, y⟩ := b
    have e1 : (Nd.mk f x).size = 1 + x.size := rfl
    have e2 : (Nd.mk h y).size = 1 + y.size := rfl
    exact calike1 n ih f h x y A B c d w (by omega) (by omega) (by omega) hA hB
set_option maxRecDepth 100000 in
set_option maxHeartbeats 1000000 in
theorem cSame (a b : Nd) (A B : Option Addr) (c d : Nat) (w : World) (ha : a.size ≤ 2000) (hb : b.size ≤ 1000000) (hA : KidsAt w (fun g => g < w.heap.size) a.kids A) (hB : KidsAt w (fun g => g < w.heap.size) b.kids B) :
    Calls Tryz.prog 39 #[.agg #[.int .i64 a.f.k, .int .i64 a.f.vk, .int .i64 a.f.vn, .string a.f.vs, .int .i64 a.f.r1, .int .i64 a.f.r2, .int .i64 a.f.r3, .int .i64 a.f.r4, .string a.f.op, .slice A a.kids.len c], .agg #[.int .i64 b.f.k, .int .i64 b.f.vk, .int .i64 b.f.vn, .string b.f.vs, .int .i64 b.f.r1, .int .i64 b.f.r2, .int .i64 b.f.r3, .int .i64 b.f.r4, .string b.f.op, .slice B b.kids.len d]] w fun e w' => e = .returned (.bool (decide (a = b))) ∧ Below w.heap.size w w' := by
  have b1 : Below w.heap.size w (w.alloc (.cells #[.int .i64 a.f.k, .int .i64 a.f.vk, .int .i64 a.f.vn, .string a.f.vs, .int .i64 a.f.r1, .int .i64 a.f.r2, .int .i64 a.f.r3, .int .i64 a.f.r4, .string a.f.op, .slice A a.kids.len c] 31)) := (Below.refl _ _).alloc (Nat.le_refl _) _
  have b2 : Below w.heap.size w ((w.alloc (.cells #[.int .i64 a.f.k, .int .i64 a.f.vk, .int .i64 a.f.vn, .string a.f.vs, .int .i64 a.f.r1, .int .i64 a.f.r2, .int .i64 a.f.r3, .int .i64 a.f.r4, .string a.f.op, .slice A a.kids.len c] 31)).alloc (.cells #[.int .i64 b.f.k, .int .i64 b.f.vk, .int .i64 b.f.vn, .string b.f.vs, .int .i64 b.f.r1, .int .i64 b.f.r2, .int .i64 b.f.r3, .int .i64 b.f.r4, .string b.f.op, .slice B b.kids.len d] 31)) := b1.alloc b1.size _
  have L1 : NLoc ((w.alloc (.cells #[.int .i64 a.f.k, .int .i64 a.f.vk, .int .i64 a.f.vn, .string a.f.vs, .int .i64 a.f.r1, .int .i64 a.f.r2, .int .i64 a.f.r3, .int .i64 a.f.r4, .string a.f.op, .slice A a.kids.len c] 31)).alloc (.cells #[.int .i64 b.f.k, .int .i64 b.f.vk, .int .i64 b.f.vn, .string b.f.vs, .int .i64 b.f.r1, .int .i64 b.f.r2, .int .i64 b.f.r3, .int .i64 b.f.r4, .string b.f.op, .slice B b.kids.len d] 31)) w.heap.size a.f A a.kids.len c := NLoc.kept ⟨heap_alloc_new _ _⟩ ((Kept.refl (w.alloc (.cells #[.int .i64 a.f.k, .int .i64 a.f.vk, .int .i64 a.f.vn, .string a.f.vs, .int .i64 a.f.r1, .int .i64 a.f.r2, .int .i64 a.f.r3, .int .i64 a.f.r4, .string a.f.op, .slice A a.kids.len c] 31)).heap.size _).alloc _) (by simp)
  have z1 : (w.alloc (.cells #[.int .i64 a.f.k, .int .i64 a.f.vk, .int .i64 a.f.vn, .string a.f.vs, .int .i64 a.f.r1, .int .i64 a.f.r2, .int .i64 a.f.r3, .int .i64 a.f.r4, .string a.f.op, .slice A a.kids.len c] 31)).heap.size = w.heap.size + 1 := heap_one _ _
  have L2 : NLoc ((w.alloc (.cells #[.int .i64 a.f.k, .int .i64 a.f.vk, .int .i64 a.f.vn, .string a.f.vs, .int .i64 a.f.r1, .int .i64 a.f.r2, .int .i64 a.f.r3, .int .i64 a.f.r4, .string a.f.op, .slice A a.kids.len c] 31)).alloc (.cells #[.int .i64 b.f.k, .int .i64 b.f.vk, .int .i64 b.f.vn, .string b.f.vs, .int .i64 b.f.r1, .int .i64 b.f.r2, .int .i64 b.f.r3, .int .i64 b.f.r4, .string b.f.op, .slice B b.kids.len d] 31)) (w.heap.size + 1) b.f B b.kids.len d := ⟨by rw [← z1]; exact heap_alloc_new _ _⟩
  clear z1
  have HA := Lib.hid (below_row hA b2)
  have HB := Lib.hid (below_row hB b2)
  have HW := Lib.hid b2
  have e1 : decide (a.size ≤ 2000) = true := decide_eq_true ha
  clear hA hB b1 b2
  obtain ⟨d0, d1, d2, d3, d4, d5, d6, d7, d8, d9, -⟩ := L1.cells
  go_enter Tryz.func39, Tryz.ntmps39
  go_wp2_with fail
  generalize ((w.alloc (.cells #[.int .i64 a.f.k, .int .i64 a.f.vk, .int .i64 a.f.vn, .string a.f.vs, .int .i64 a.f.r1, .int .i64 a.f.r2, .int .i64 a.f.r3, .int .i64 a.f.r4, .string a.f.op, .slice A a.kids.len c] 31)).alloc (.cells #[.int .i64 b.f.k, .int .i64 b.f.vk, .int .i64 b.f.vn, .string b.f.vs, .int .i64 b.f.r1, .int .i64 b.f.r2, .int .i64 b.f.r3, .int .i64 b.f.r4, .string b.f.op, .slice B b.kids.len d] 31)) = W1 at *
  refine (csmall a A c W1 (by omega) HA.out).mono ?_; rintro e w2 ⟨rfl, hb2⟩
  have N1 := L1.kept (Kept.of (x := W1.heap.size) hb2) (Nat.ne_of_lt L1.lt)
  have N2 := L2.kept (Kept.of (x := W1.heap.size) hb2) (Nat.ne_of_lt L2.lt)
  have HA2 := Lib.hid (below_row HA.out hb2)
  have HB2 := Lib.hid (below_row HB.out hb2)
  have HW2 := Lib.hid (HW.out.trans (hb2.mono HW.out.size))
  clear d0 d1 d2 d3 d4 d5 d6 d7 d8 d9 L1 L2 HA HB
  obtain ⟨d0, d1, d2, d3, d4, d5, d6, d7, d8, d9, -⟩ := N1.cells
  obtain ⟨h0, h1, h2, h3, h4, h5, h6, h7, h8, h9, -⟩ := N2.cells
  go_wp2_with fail
  refine (alike_all a.size a b A B c d w2 (Nat.le_refl _) (by omega) hb HA2.out HB2.out).mono ?_; rintro e w3 ⟨rfl, hb3⟩
  go_wp2_with fail
  go_ret
  exact ⟨rfl, HW2.out.trans (hb3.mono HW2.out.size)⟩
end Go.Proofs.YticehalcnbjccaaGreatDoor.TreeC
