/-
  Contracts of tree's code: whether two trees are alike.
-/
import Derived.Test.YtbgjdfghcnblcaaGreatDoorMZ
namespace Go.Proofs.YtbgjdfghcnblcaaGreatDoor.TreeC
set_option linter.unusedVariables false
open Go.RowKit Go.Proofs.YtbgjdfghcnblcaaGreatDoor.NumC Go.Proofs.YtbgjdfghcnblcaaGreatDoor.LexC

/-- What 'alike' answers of trees of at most so many nodes. -/
def Alike (n : Nat) : Prop := ∀ (a b : Nd) (A B : Option Addr) (c d : Nat) (w : World), a.size ≤ n → a.size ≤ 1000000 → b.size ≤ 1000000 → KidsAt w (fun g => g < w.heap.size) a.kids A → KidsAt w (fun g => g < w.heap.size) b.kids B →
    Calls Tryz.prog 32 #[.agg #[.int .i64 a.f.k, .int .i64 a.f.vk, .int .i64 a.f.vn, .string a.f.vs, .int .i64 a.f.r1, .int .i64 a.f.r2, .int .i64 a.f.r3, .int .i64 a.f.r4, .string a.f.op, .slice A a.kids.len c], .agg #[.int .i64 b.f.k, .int .i64 b.f.vk, .int .i64 b.f.vn, .string b.f.vs, .int .i64 b.f.r1, .int .i64 b.f.r2, .int .i64 b.f.r3, .int .i64 b.f.r4, .string b.f.op, .slice B b.kids.len d]] w fun e w' => e = .returned (.bool (decide (a = b))) ∧ Below w.heap.size w w'
theorem Fo.drop_eq (x y : Fo) (i : Nat) (hx : i < x.len) (hy : i < y.len) : decide (x.drop i = y.drop i) = (decide (x.nth i = y.nth i) && decide (x.drop (i + 1) = y.drop (i + 1))) := by
  rw [Fo.drop_nth x i hx, Fo.drop_nth y i hy]
  generalize x.nth i = p
  generalize y.nth i = q
  obtain ⟨p1, p2⟩ := p
  obtain ⟨q1, q2⟩ := q
  by_cases h1 : p1 = q1 <;> by_cases h2 : p2 = q2 <;> by_cases h3 : x.drop (i + 1) = y.drop (i + 1) <;> simp [h1, h2, h3]
theorem Fo.len_ne {x y : Fo} (h : x.len ≠ y.len) : decide (x = y) = false := decide_eq_false (fun e => h (by rw [e]))
set_option maxRecDepth 100000 in
set_option maxHeartbeats 1000000 in
theorem cequal (n : Nat) (H : Alike n) (x y : Fo) (A B : Option Addr) (c d : Nat) (w : World) (hn : x.size ≤ n) (hx : x.size ≤ 1000000) (hy : y.size ≤ 1000000) (hA : KidsAt w (fun g => g < w.heap.size) x A) (hB : KidsAt w (fun g => g < w.heap.size) y B) :
    Calls Tryz.prog 54 #[.slice A x.len c, .slice B y.len d, .func (.func 32) #[] #[]] w fun e w' => e = .returned (.bool (decide (x = y))) ∧ Below w.heap.size w w' := by
  have HA := Lib.hid hA
  have HB := Lib.hid hB
  clear hA hB
  have lx := Fo.len_size x
  have ly := Fo.len_size y
  by_cases hl : x.len = y.len
  · have e1 : ((x.len : Int) != (y.len : Int)) = false := by rw [hl]; simp
    have HLN := Lib.hid hl
    clear hl
    go_enter Tryz.func54, Tryz.ntmps54
    go_wp2_with fail
    go_loopw [17] (fun iv wr => ∃ (i : Nat), i ≤ x.len ∧ iv = .int .i64 i ∧ Below w.heap.size w wr ∧ Hid (decide (x.drop i = y.drop i) = decide (x = y))) (fun iv _ => x.len - (intOf iv).toNat)
    case atStart => exact ⟨0, Nat.zero_le _, rfl, Below.refl _ _, Lib.hid (by cases x <;> cases y <;> rfl)⟩
    case round =>
      obtain ⟨i, hi, rfl, hW, HR⟩ := hrel
      have KA := below_row HA.out hW
      have KB := below_row HB.out hW
      by_cases hlt : i < x.len
      · have d1 : (i : Int) < (x.len : Int) := by omega
        have d2 : (i : Int) < (y.len : Int) := by have := HLN.out; omega
        have hlt2 : i < y.len := by have := HLN.out; omega
        obtain ⟨g, o, rfl, hrow⟩ : ∃ g o, A = some ⟨g, o, none⟩ ∧ RowAt wr (fun g => g < wr.heap.size) x g o := by
          rcases KA with h | h
          · rw [h] at hlt; exact absurd hlt (by simp [Fo.len])
          · exact h
        obtain ⟨g', o', rfl, hrow'⟩ : ∃ g o, B = some ⟨g, o, none⟩ ∧ RowAt wr (fun g => g < wr.heap.size) y g o := by
          rcases KB with h | h
          · rw [h] at hlt2; exact absurd hlt2 (by simp [Fo.len])
          · exact h
        obtain ⟨A2, c2, hk2, hpp, f0, f1, f2, f3, f4, f5, f6, f7, f8, f9⟩ := RowAt.nth x g o i hrow hlt
        have b1 : Below wr.heap.size wr (wr.alloc (.cells #[.int .i64 (x.nth i).f.k, .int .i64 (x.nth i).f.vk, .int .i64 (x.nth i).f.vn, .string (x.nth i).f.vs, .int .i64 (x.nth i).f.r1, .int .i64 (x.nth i).f.r2, .int .i64 (x.nth i).f.r3, .int .i64 (x.nth i).f.r4, .string (x.nth i).f.op, .slice A2 (x.nth i).kids.len c2] 30)) := (Below.refl _ _).alloc (Nat.le_refl _) _
        have hrow2 := RowAt.keep (Q := fun g => g < wr.heap.size) (Kept.of (x := wr.heap.size) b1) (fun g hg hl => ⟨by omega, hg⟩) y g' o' hrow'
        obtain ⟨B2, d2', hk3, hpq, r0, r1, r2, r3, r4, r5, r6, r7, r8, r9⟩ := RowAt.nth y g' o' i hrow2 hlt2
        have hn1 := Fo.nth_size x i hlt
        have hn2 := Fo.nth_size y i hlt2
        have b2 : Below wr.heap.size wr ((wr.alloc (.cells #[.int .i64 (x.nth i).f.k, .int .i64 (x.nth i).f.vk, .int .i64 (x.nth i).f.vn, .string (x.nth i).f.vs, .int .i64 (x.nth i).f.r1, .int .i64 (x.nth i).f.r2, .int .i64 (x.nth i).f.r3, .int .i64 (x.nth i).f.r4, .string (x.nth i).f.op, .slice A2 (x.nth i).kids.len c2] 30)).alloc (.cells #[.int .i64 (y.nth i).f.k, .int .i64 (y.nth i).f.vk, .int .i64 (y.nth i).f.vn, .string (y.nth i).f.vs, .int .i64 (y.nth i).f.r1, .int .i64 (y.nth i).f.r2, .int .i64 (y.nth i).f.r3, .int .i64 (y.nth i).f.r4, .string (y.nth i).f.op, .slice B2 (y.nth i).kids.len d2'] 30)) := b1.alloc b1.size _
        have M1 : NLoc ((wr.alloc (.cells #[.int .i64 (x.nth i).f.k, .int .i64 (x.nth i).f.vk, .int .i64 (x.nth i).f.vn, .string (x.nth i).f.vs, .int .i64 (x.nth i).f.r1, .int .i64 (x.nth i).f.r2, .int .i64 (x.nth i).f.r3, .int .i64 (x.nth i).f.r4, .string (x.nth i).f.op, .slice A2 (x.nth i).kids.len c2] 30)).alloc (.cells #[.int .i64 (y.nth i).f.k, .int .i64 (y.nth i).f.vk, .int .i64 (y.nth i).f.vn, .string (y.nth i).f.vs, .int .i64 (y.nth i).f.r1, .int .i64 (y.nth i).f.r2, .int .i64 (y.nth i).f.r3, .int .i64 (y.nth i).f.r4, .string (y.nth i).f.op, .slice B2 (y.nth i).kids.len d2'] 30)) wr.heap.size (x.nth i).f A2 (x.nth i).kids.len c2 := NLoc.kept ⟨heap_alloc_new _ _⟩ ((Kept.refl (wr.alloc (.cells #[.int .i64 (x.nth i).f.k, .int .i64 (x.nth i).f.vk, .int .i64 (x.nth i).f.vn, .string (x.nth i).f.vs, .int .i64 (x.nth i).f.r1, .int .i64 (x.nth i).f.r2, .int .i64 (x.nth i).f.r3, .int .i64 (x.nth i).f.r4, .string (x.nth i).f.op, .slice A2 (x.nth i).kids.len c2] 30)).heap.size _).alloc _) (by simp)
        have z1 : (wr.alloc (.cells #[.int .i64 (x.nth i).f.k, .int .i64 (x.nth i).f.vk, .int .i64 (x.nth i).f.vn, .string (x.nth i).f.vs, .int .i64 (x.nth i).f.r1, .int .i64 (x.nth i).f.r2, .int .i64 (x.nth i).f.r3, .int .i64 (x.nth i).f.r4, .string (x.nth i).f.op, .slice A2 (x.nth i).kids.len c2] 30)).heap.size = wr.heap.size + 1 := heap_one _ _
        have M2 : NLoc ((wr.alloc (.cells #[.int .i64 (x.nth i).f.k, .int .i64 (x.nth i).f.vk, .int .i64 (x.nth i).f.vn, .string (x.nth i).f.vs, .int .i64 (x.nth i).f.r1, .int .i64 (x.nth i).f.r2, .int .i64 (x.nth i).f.r3, .int .i64 (x.nth i).f.r4, .string (x.nth i).f.op, .slice A2 (x.nth i).kids.len c2] 30)).alloc (.cells #[.int .i64 (y.nth i).f.k, .int .i64 (y.nth i).f.vk, .int .i64 (y.nth i).f.vn, .string (y.nth i).f.vs, .int .i64 (y.nth i).f.r1, .int .i64 (y.nth i).f.r2, .int .i64 (y.nth i).f.r3, .int .i64 (y.nth i).f.r4, .string (y.nth i).f.op, .slice B2 (y.nth i).kids.len d2'] 30)) (wr.heap.size + 1) (y.nth i).f B2 (y.nth i).kids.len d2' := ⟨by rw [← z1]; exact heap_alloc_new _ _⟩
        clear z1
        have k2 := below_row hk2 b2
        have k3 : KidsAt ((wr.alloc (.cells #[.int .i64 (x.nth i).f.k, .int .i64 (x.nth i).f.vk, .int .i64 (x.nth i).f.vn, .string (x.nth i).f.vs, .int .i64 (x.nth i).f.r1, .int .i64 (x.nth i).f.r2, .int .i64 (x.nth i).f.r3, .int .i64 (x.nth i).f.r4, .string (x.nth i).f.op, .slice A2 (x.nth i).kids.len c2] 30)).alloc (.cells #[.int .i64 (y.nth i).f.k, .int .i64 (y.nth i).f.vk, .int .i64 (y.nth i).f.vn, .string (y.nth i).f.vs, .int .i64 (y.nth i).f.r1, .int .i64 (y.nth i).f.r2, .int .i64 (y.nth i).f.r3, .int .i64 (y.nth i).f.r4, .string (y.nth i).f.op, .slice B2 (y.nth i).kids.len d2'] 30)) (fun g => g < ((wr.alloc (.cells #[.int .i64 (x.nth i).f.k, .int .i64 (x.nth i).f.vk, .int .i64 (x.nth i).f.vn, .string (x.nth i).f.vs, .int .i64 (x.nth i).f.r1, .int .i64 (x.nth i).f.r2, .int .i64 (x.nth i).f.r3, .int .i64 (x.nth i).f.r4, .string (x.nth i).f.op, .slice A2 (x.nth i).kids.len c2] 30)).alloc (.cells #[.int .i64 (y.nth i).f.k, .int .i64 (y.nth i).f.vk, .int .i64 (y.nth i).f.vn, .string (y.nth i).f.vs, .int .i64 (y.nth i).f.r1, .int .i64 (y.nth i).f.r2, .int .i64 (y.nth i).f.r3, .int .i64 (y.nth i).f.r4, .string (y.nth i).f.op, .slice B2 (y.nth i).kids.len d2'] 30)).heap.size) (y.nth i).kids B2 := hk3.keep (Kept.of (x := (wr.alloc (.cells #[.int .i64 (x.nth i).f.k, .int .i64 (x.nth i).f.vk, .int .i64 (x.nth i).f.vn, .string (x.nth i).f.vs, .int .i64 (x.nth i).f.r1, .int .i64 (x.nth i).f.r2, .int .i64 (x.nth i).f.r3, .int .i64 (x.nth i).f.r4, .string (x.nth i).f.op, .slice A2 (x.nth i).kids.len c2] 30)).heap.size) ((Below.refl _ _).alloc (Nat.le_refl _) _)) (fun g hg hl => ⟨by omega, by have := b2.size; omega⟩)
        have HI := Lib.hid (H (x.nth i) (y.nth i) A2 B2 c2 d2' _ (by omega) (by omega) (by omega) k2 k3)
        have HB2 := Lib.hid b2
        have HD : Hid ((decide (x.nth i = y.nth i) && decide (x.drop (i + 1) = y.drop (i + 1))) = decide (x = y)) := Lib.hid (by rw [← Fo.drop_eq x y i hlt hlt2]; exact HR.out)
        clear hrow hrow' hrow2 hk2 hk3 k2 k3 KA KB H hn1 hn2 b1 b2 HR hpp hpq
        generalize x.nth i = p at *
        generalize y.nth i = q at *
        obtain ⟨m0, m1, m2, m3, m4, m5, m6, m7, m8, m9, -⟩ := M1.cells
        obtain ⟨n0, n1, n2, n3, n4, n5, n6, n7, n8, n9, -⟩ := M2.cells
        clear M1 M2
        go_wp2_with fail
        refine HI.out.mono ?_; rintro e w2 ⟨rfl, hb2⟩
        have hbb := HB2.out.trans (hb2.mono HB2.out.size)
        cases hs : decide (p = q) with
        | false =>
          have E : Hid (decide (x = y) = false) := Lib.hid (by have := HD.out; rw [hs] at this; simpa using this.symm)
          go_wp2_with fail
          go_ret
          exact ⟨by rw [E.out]; rfl, hW.trans (hbb.mono hW.size)⟩
        | true =>
          go_wp2_with fail
          go_roundw
          case rel => exact ⟨i + 1, by omega, by go_num, hW.trans (hbb.mono hW.size), Lib.hid (by have := HD.out; rw [hs, Bool.true_and] at this; exact this)⟩
          case measure => simp [intOf]; omega
      · have E : Hid (decide (x = y) = true) := Lib.hid (by have := HR.out; rw [Fo.drop_len x i (by omega), Fo.drop_len y i (by have := HLN.out; omega)] at this; rw [← this]; exact decide_eq_true rfl)
        have d1 : ¬ (i : Int) < (x.len : Int) := by omega
        clear H KA KB
        go_wp2_with fail
        go_ret
        exact ⟨by rw [E.out]; rfl, hW⟩
  · have e1 : ((x.len : Int) != (y.len : Int)) = true := by simp; omega
    have E := Lib.hid (Fo.len_ne hl)
    clear H
    go_enter Tryz.func54, Tryz.ntmps54
    go_wp2_with fail
    go_ret
    exact ⟨by rw [E.out]; rfl, Below.refl _ _⟩
/-- Are the fields alike? -/
def sameF (f h : Fld) : Bool := decide (f.k = h.k) && (ValueC.sameB ⟨f.vk, f.vn, f.vs⟩ ⟨h.vk, h.vn, h.vs⟩ && (decide (f.r1 = h.r1 ∧ f.r2 = h.r2 ∧ f.r3 = h.r3 ∧ f.r4 = h.r4) && (f.op.toList == h.op.toList)))
theorem list_eq {a b : ByteArray} (h : a.toList = b.toList) : a = b := by
  rw [Lib.toList_data, Lib.toList_data] at h
  obtain ⟨⟨a⟩⟩ := a
  obtain ⟨⟨b⟩⟩ := b
  have : a = b := h
  rw [this]
theorem same_nd (f h : Fld) (x y : Fo) : (sameF f h && decide (x = y)) = decide (Nd.mk f x = Nd.mk h y) := by
  obtain ⟨k, vk, vn, vs, r1, r2, r3, r4, op⟩ := f
  obtain ⟨k', vk', vn', vs', r1', r2', r3', r4', op'⟩ := h
  have e : (op.toList == op'.toList) = decide (op = op') := by
    by_cases h : op = op'
    · subst h; simp
    · rw [decide_eq_false h]; exact beq_eq_false_iff_ne.2 (fun e => h (list_eq e))
  simp only [sameF, ValueC.sameB, e]
  rw [Bool.eq_iff_iff]
  simp only [Bool.and_eq_true, decide_eq_true_eq, Nd.mk.injEq, Fld.mk.injEq, ValueC.Val.mk.injEq]
  constructor
  · rintro ⟨⟨h1, ⟨h2, h3, h4⟩, ⟨h5, h6, h7, h8⟩, h9⟩, h10⟩; exact ⟨⟨h1, h2, h3, h4, h5, h6, h7, h8, h9⟩, h10⟩
  · rintro ⟨⟨h1, h2, h3, h4, h5, h6, h7, h8, h9⟩, h10⟩; exact ⟨⟨h1, ⟨h2, h3, h4⟩, ⟨h5, h6, h7, h8⟩, h9⟩, h10⟩
set_option maxRecDepth 100000 in
set_option maxHeartbeats 1000000 in
theorem calike1 (n : Nat) (H : Alike n) (f h : Fld) (x y : Fo) (A B : Option Addr) (c d : Nat) (w : World) (hn : x.size ≤ n) (hx : x.size ≤ 1000000) (hy : y.size ≤ 1000000) (hA : KidsAt w (fun g => g < w.heap.size) x A) (hB : KidsAt w (fun g => g < w.heap.size) y B) :
    Calls Tryz.prog 32 #[.agg #[.int .i64 f.k, .int .i64 f.vk, .int .i64 f.vn, .string f.vs, .int .i64 f.r1, .int .i64 f.r2, .int .i64 f.r3, .int .i64 f.r4, .string f.op, .slice A x.len c], .agg #[.int .i64 h.k, .int .i64 h.vk, .int .i64 h.vn, .string h.vs, .int .i64 h.r1, .int .i64 h.r2, .int .i64 h.r3, .int .i64 h.r4, .string h.op, .slice B y.len d]] w fun e w' => e = .returned (.bool (decide (Nd.mk f x = Nd.mk h y))) ∧ Below w.heap.size w w' := by
  have b1 : Below w.heap.size w (w.alloc (.cells #[.int .i64 f.k, .int .i64 f.vk, .int .i64 f.vn, .string f.vs, .int .i64 f.r1, .int .i64 f.r2, .int .i64 f.r3, .int .i64 f.r4, .string f.op, .slice A x.len c] 30)) := (Below.refl _ _).alloc (Nat.le_refl _) _
  have b2 : Below w.heap.size w ((w.alloc (.cells #[.int .i64 f.k, .int .i64 f.vk, .int .i64 f.vn, .string f.vs, .int .i64 f.r1, .int .i64 f.r2, .int .i64 f.r3, .int .i64 f.r4, .string f.op, .slice A x.len c] 30)).alloc (.cells #[.int .i64 h.k, .int .i64 h.vk, .int .i64 h.vn, .string h.vs, .int .i64 h.r1, .int .i64 h.r2, .int .i64 h.r3, .int .i64 h.r4, .string h.op, .slice B y.len d] 30)) := b1.alloc b1.size _
  have L1 : NLoc ((w.alloc (.cells #[.int .i64 f.k, .int .i64 f.vk, .int .i64 f.vn, .string f.vs, .int .i64 f.r1, .int .i64 f.r2, .int .i64 f.r3, .int .i64 f.r4, .string f.op, .slice A x.len c] 30)).alloc (.cells #[.int .i64 h.k, .int .i64 h.vk, .int .i64 h.vn, .string h.vs, .int .i64 h.r1, .int .i64 h.r2, .int .i64 h.r3, .int .i64 h.r4, .string h.op, .slice B y.len d] 30)) w.heap.size f A x.len c := NLoc.kept ⟨heap_alloc_new _ _⟩ ((Kept.refl (w.alloc (.cells #[.int .i64 f.k, .int .i64 f.vk, .int .i64 f.vn, .string f.vs, .int .i64 f.r1, .int .i64 f.r2, .int .i64 f.r3, .int .i64 f.r4, .string f.op, .slice A x.len c] 30)).heap.size _).alloc _) (by simp)
  have z1 : (w.alloc (.cells #[.int .i64 f.k, .int .i64 f.vk, .int .i64 f.vn, .string f.vs, .int .i64 f.r1, .int .i64 f.r2, .int .i64 f.r3, .int .i64 f.r4, .string f.op, .slice A x.len c] 30)).heap.size = w.heap.size + 1 := heap_one _ _
  have L2 : NLoc ((w.alloc (.cells #[.int .i64 f.k, .int .i64 f.vk, .int .i64 f.vn, .string f.vs, .int .i64 f.r1, .int .i64 f.r2, .int .i64 f.r3, .int .i64 f.r4, .string f.op, .slice A x.len c] 30)).alloc (.cells #[.int .i64 h.k, .int .i64 h.vk, .int .i64 h.vn, .string h.vs, .int .i64 h.r1, .int .i64 h.r2, .int .i64 h.r3, .int .i64 h.r4, .string h.op, .slice B y.len d] 30)) (w.heap.size + 1) h B y.len d := ⟨by rw [← z1]; exact heap_alloc_new _ _⟩
  clear z1
  have HA := Lib.hid (below_row hA b2)
  have HB := Lib.hid (below_row hB b2)
  have HW := Lib.hid b2
  have HD := Lib.hid (same_nd f h x y)
  have eR : ∀ W, (binOp .eql 27 (.agg #[.int .i64 f.r1, .int .i64 f.r2, .int .i64 f.r3, .int .i64 f.r4]) (.agg #[.int .i64 h.r1, .int .i64 h.r2, .int .i64 h.r3, .int .i64 h.r4])).run Tryz.prog W = .ok (.bool (decide (f.r1 = h.r1 ∧ f.r2 = h.r2 ∧ f.r3 = h.r3 ∧ f.r4 = h.r4))) W := fun W => eq_rect _ _ _ _ _ _ _ _ W
  clear hA hB b1 b2
  obtain ⟨d0, d1, d2, d3, d4, d5, d6, d7, d8, d9, -⟩ := L1.cells
  obtain ⟨h0, h1, h2, h3, h4, h5, h6, h7, h8, h9, -⟩ := L2.cells
  cases hk : decide (f.k = h.k) with
  | false =>
    have e0 : (f.k == h.k) = false := beq_eq_false_iff_ne.2 (of_decide_eq_false hk)
    have E : Hid (decide (Nd.mk f x = Nd.mk h y) = false) := Lib.hid (by rw [← HD.out]; simp [sameF, hk])
    clear H
    go_enter Tryz.func32, Tryz.ntmps32
    go_wp2_with fail
    go_ret
    exact ⟨by rw [E.out]; rfl, HW.out⟩
  | true =>
    have e0 : (f.k == h.k) = true := beq_iff_eq.2 (of_decide_eq_true hk)
    have HH := Lib.hid H
    clear H
    go_enter Tryz.func32, Tryz.ntmps32
    go_wp2_with fail
    generalize ((w.alloc (.cells #[.int .i64 f.k, .int .i64 f.vk, .int .i64 f.vn, .string f.vs, .int .i64 f.r1, .int .i64 f.r2, .int .i64 f.r3, .int .i64 f.r4, .string f.op, .slice A x.len c] 30)).alloc (.cells #[.int .i64 h.k, .int .i64 h.vk, .int .i64 h.vn, .string h.vs, .int .i64 h.r1, .int .i64 h.r2, .int .i64 h.r3, .int .i64 h.r4, .string h.op, .slice B y.len d] 30)) = W1 at *
    refine (ValueC.same ⟨f.vk, f.vn, f.vs⟩ ⟨h.vk, h.vn, h.vs⟩ W1).mono ?_; rintro e w2 ⟨rfl, hb2⟩
    have N1 := L1.kept (Kept.of (x := W1.heap.size) hb2) (Nat.ne_of_lt L1.lt)
    have N2 := L2.kept (Kept.of (x := W1.heap.size) hb2) (Nat.ne_of_lt L2.lt)
    have HA2 := Lib.hid (below_row HA.out hb2)
    have HB2 := Lib.hid (below_row HB.out hb2)
    have HW2 := Lib.hid (HW.out.trans (hb2.mono HW.out.size))
    clear d0 d1 d2 d3 d4 d5 d6 d7 d8 d9 h0 h1 h2 h3 h4 h5 h6 h7 h8 h9 L1 L2 HA HB
    obtain ⟨d0, d1, d2, d3, d4, d5, d6, d7, d8, d9, -⟩ := N1.cells
    obtain ⟨h0, h1, h2, h3, h4, h5, h6, h7, h8, h9, -⟩ := N2.cells
    cases hv : ValueC.sameB ⟨f.vk, f.vn, f.vs⟩ ⟨h.vk, h.vn, h.vs⟩ with
    | false =>
      have E : Hid (decide (Nd.mk f x = Nd.mk h y) = false) := Lib.hid (by rw [← HD.out]; simp [sameF, hv])
      go_wp2_with fail
      go_ret
      exact ⟨by rw [E.out]; rfl, HW2.out⟩
    | true =>
      cases hr : decide (f.r1 = h.r1 ∧ f.r2 = h.r2 ∧ f.r3 = h.r3 ∧ f.r4 = h.r4) with
      | false =>
        rw [hr] at eR
        have E : Hid (decide (Nd.mk f x = Nd.mk h y) = false) := Lib.hid (by rw [← HD.out]; unfold sameF; rw [hr]; simp)
        go_wp2_with fail
        go_ret
        exact ⟨by rw [E.out]; rfl, HW2.out⟩
      | true =>
        rw [hr] at eR
        cases ho : (f.op.toList == h.op.toList) with
        | false =>
          have E : Hid (decide (Nd.mk f x = Nd.mk h y) = false) := Lib.hid (by rw [← HD.out]; unfold sameF; rw [ho]; simp)
          go_wp2_with fail
          go_ret
          exact ⟨by rw [E.out]; rfl, HW2.out⟩
        | true =>
          have E : Hid (decide (Nd.mk f x = Nd.mk h y) = decide (x = y)) := Lib.hid (by rw [← HD.out]; unfold sameF; rw [ho, hr, hv, hk]; simp)
          go_wp2_with fail
          refine (cequal n HH.out x y A B c d w2 hn hx hy HA2.out HB2.out).mono ?_; rintro e w3 ⟨rfl, hb3⟩
          go_wp2_with fail
          go_ret
          exact ⟨by rw [E.out]; rfl, HW2.out.trans (hb3.mono HW2.out.size)⟩
theorem alike_all : ∀ n, Alike n := by
  intro n
  induction n with
  | zero => intro a b A B c d w h; exact absurd h (by unfold Nd.size; omega)
  | succ n ih =>
    intro a b A B c d w h1 h2 h3 hA hB
    obtain ⟨f, x⟩ := a
    obtain ⟨h, y⟩ := b
    have e1 : (Nd.mk f x).size = 1 + x.size := rfl
    have e2 : (Nd.mk h y).size = 1 + y.size := rfl
    exact calike1 n ih f h x y A B c d w (by omega) (by omega) (by omega) hA hB
set_option maxRecDepth 100000 in
set_option maxHeartbeats 1000000 in
/-- Same: of trees of which the first has at most 2000 nodes. -/
theorem cSame (a b : Nd) (A B : Option Addr) (c d : Nat) (w : World) (ha : a.size ≤ 2000) (hb : b.size ≤ 1000000) (hA : KidsAt w (fun g => g < w.heap.size) a.kids A) (hB : KidsAt w (fun g => g < w.heap.size) b.kids B) :
    Calls Tryz.prog 16 #[.agg #[.int .i64 a.f.k, .int .i64 a.f.vk, .int .i64 a.f.vn, .string a.f.vs, .int .i64 a.f.r1, .int .i64 a.f.r2, .int .i64 a.f.r3, .int .i64 a.f.r4, .string a.f.op, .slice A a.kids.len c], .agg #[.int .i64 b.f.k, .int .i64 b.f.vk, .int .i64 b.f.vn, .string b.f.vs, .int .i64 b.f.r1, .int .i64 b.f.r2, .int .i64 b.f.r3, .int .i64 b.f.r4, .string b.f.op, .slice B b.kids.len d]] w fun e w' => e = .returned (.bool (decide (a = b))) ∧ Below w.heap.size w w' := by
  have b1 : Below w.heap.size w (w.alloc (.cells #[.int .i64 a.f.k, .int .i64 a.f.vk, .int .i64 a.f.vn, .string a.f.vs, .int .i64 a.f.r1, .int .i64 a.f.r2, .int .i64 a.f.r3, .int .i64 a.f.r4, .string a.f.op, .slice A a.kids.len c] 30)) := (Below.refl _ _).alloc (Nat.le_refl _) _
  have b2 : Below w.heap.size w ((w.alloc (.cells #[.int .i64 a.f.k, .int .i64 a.f.vk, .int .i64 a.f.vn, .string a.f.vs, .int .i64 a.f.r1, .int .i64 a.f.r2, .int .i64 a.f.r3, .int .i64 a.f.r4, .string a.f.op, .slice A a.kids.len c] 30)).alloc (.cells #[.int .i64 b.f.k, .int .i64 b.f.vk, .int .i64 b.f.vn, .string b.f.vs, .int .i64 b.f.r1, .int .i64 b.f.r2, .int .i64 b.f.r3, .int .i64 b.f.r4, .string b.f.op, .slice B b.kids.len d] 30)) := b1.alloc b1.size _
  have L1 : NLoc ((w.alloc (.cells #[.int .i64 a.f.k, .int .i64 a.f.vk, .int .i64 a.f.vn, .string a.f.vs, .int .i64 a.f.r1, .int .i64 a.f.r2, .int .i64 a.f.r3, .int .i64 a.f.r4, .string a.f.op, .slice A a.kids.len c] 30)).alloc (.cells #[.int .i64 b.f.k, .int .i64 b.f.vk, .int .i64 b.f.vn, .string b.f.vs, .int .i64 b.f.r1, .int .i64 b.f.r2, .int .i64 b.f.r3, .int .i64 b.f.r4, .string b.f.op, .slice B b.kids.len d] 30)) w.heap.size a.f A a.kids.len c := NLoc.kept ⟨heap_alloc_new _ _⟩ ((Kept.refl (w.alloc (.cells #[.int .i64 a.f.k, .int .i64 a.f.vk, .int .i64 a.f.vn, .string a.f.vs, .int .i64 a.f.r1, .int .i64 a.f.r2, .int .i64 a.f.r3, .int .i64 a.f.r4, .string a.f.op, .slice A a.kids.len c] 30)).heap.size _).alloc _) (by simp)
  have z1 : (w.alloc (.cells #[.int .i64 a.f.k, .int .i64 a.f.vk, .int .i64 a.f.vn, .string a.f.vs, .int .i64 a.f.r1, .int .i64 a.f.r2, .int .i64 a.f.r3, .int .i64 a.f.r4, .string a.f.op, .slice A a.kids.len c] 30)).heap.size = w.heap.size + 1 := heap_one _ _
  have L2 : NLoc ((w.alloc (.cells #[.int .i64 a.f.k, .int .i64 a.f.vk, .int .i64 a.f.vn, .string a.f.vs, .int .i64 a.f.r1, .int .i64 a.f.r2, .int .i64 a.f.r3, .int .i64 a.f.r4, .string a.f.op, .slice A a.kids.len c] 30)).alloc (.cells #[.int .i64 b.f.k, .int .i64 b.f.vk, .int .i64 b.f.vn, .string b.f.vs, .int .i64 b.f.r1, .int .i64 b.f.r2, .int .i64 b.f.r3, .int .i64 b.f.r4, .string b.f.op, .slice B b.kids.len d] 30)) (w.heap.size + 1) b.f B b.kids.len d := ⟨by rw [← z1]; exact heap_alloc_new _ _⟩
  clear z1
  have HA := Lib.hid (below_row hA b2)
  have HB := Lib.hid (below_row hB b2)
  have HW := Lib.hid b2
  have e1 : decide (a.size ≤ 2000) = true := decide_eq_true ha
  clear hA hB b1 b2
  obtain ⟨d0, d1, d2, d3, d4, d5, d6, d7, d8, d9, -⟩ := L1.cells
  go_enter Tryz.func16, Tryz.ntmps16
  go_wp2_with fail
  generalize ((w.alloc (.cells #[.int .i64 a.f.k, .int .i64 a.f.vk, .int .i64 a.f.vn, .string a.f.vs, .int .i64 a.f.r1, .int .i64 a.f.r2, .int .i64 a.f.r3, .int .i64 a.f.r4, .string a.f.op, .slice A a.kids.len c] 30)).alloc (.cells #[.int .i64 b.f.k, .int .i64 b.f.vk, .int .i64 b.f.vn, .string b.f.vs, .int .i64 b.f.r1, .int .i64 b.f.r2, .int .i64 b.f.r3, .int .i64 b.f.r4, .string b.f.op, .slice B b.kids.len d] 30)) = W1 at *
  refine (csmall a A c W1 (by omega) HA.out).mono ?_; rintro e w2 ⟨rfl, hb2⟩
  have N1 := L1.kept (Kept.of (x := W1.heap.size) hb2) (Nat.ne_of_lt L1.lt)
  have N2 := L2.kept (Kept.of (x := W1.heap.size) hb2) (Nat.ne_of_lt L2.lt)
  have HA2 := Lib.hid (below_row HA.out hb2)
  have HB2 := Lib.hid (below_row HB.out hb2)
  have HW2 := Lib.hid (HW.out.trans (hb2.mono HW.out.size))
  clear d0 d1 d2 d3 d4 d5 d6 d7 d8 d9 L1 L2 HA HB
  obtain ⟨d0, d1, d2, d3, d4, d5, d6, d7, d8, d9, -⟩ := N1.cells
  obtain ⟨h0, h1, h2, h3, h4, h5, h6, h7, h8, h9, -⟩ := N2.cells
  go_wp2_with fail
  refine (alike_all a.size a b A B c d w2 (Nat.le_refl _) (by omega) hb HA2.out HB2.out).mono ?_; rintro e w3 ⟨rfl, hb3⟩
  go_wp2_with fail
  go_ret
  exact ⟨rfl, HW2.out.trans (hb3.mono HW2.out.size)⟩
end Go.Proofs.YtbgjdfghcnblcaaGreatDoor.TreeC
