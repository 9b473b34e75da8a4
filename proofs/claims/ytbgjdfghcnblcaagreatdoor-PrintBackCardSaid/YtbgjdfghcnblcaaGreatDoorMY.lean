/-
  Contracts of tree's code: whether each node fits (by a contract of 'fits' that the caller gives), Good.
-/
import Derived.Test.YtbgjdfghcnblcaaGreatDoorMK1
import Derived.Test.YtbgjdfghcnblcaaGreatDoorMLexZ3
namespace Go.Proofs.YtbgjdfghcnblcaaGreatDoor.TreeC
set_option linter.unusedVariables false
open Go.RowKit Go.Proofs.YtbgjdfghcnblcaaGreatDoor.NumC Go.Proofs.YtbgjdfghcnblcaaGreatDoor.LexC

/-- Do all nodes of a forest fit? -/
def Fo.all (p : Fld → Nat → Bool) : Fo → Bool
  | .nil => true
  | .cons f k n => k.all p && p f k.len && n.all p
def Nd.all (p : Fld → Nat → Bool) (a : Nd) : Bool := a.kids.all p && p a.f a.kids.len
theorem Fo.all_drop (p : Fld → Nat → Bool) (x : Fo) (i : Nat) (h : i < x.len) : (x.drop i).all p = ((x.nth i).all p && (x.drop (i + 1)).all p) := by
  rw [Fo.drop_nth x i h]
  simp only [Fo.all, Nd.all]
/-- A contract of 'fits'. -/
def Fits (p : Fld → Nat → Bool) : Prop := ∀ (f : Fld) (A : Option Addr) (m c : Nat) (w : World), m ≤ 1000000 → LexLib w → Calls Tryz.prog 55 #[.agg #[.int .i64 f.k, .int .i64 f.vk, .int .i64 f.vn, .string f.vs, .int .i64 f.r1, .int .i64 f.r2, .int .i64 f.r3, .int .i64 f.r4, .string f.op, .slice A m c]] w fun e w' => e = .returned (.bool (p f m)) ∧ Below w.heap.size w w'
set_option maxRecDepth 100000 in
set_option maxHeartbeats 1000000 in
theorem csound (p : Fld → Nat → Bool) (hp : Fits p) : ∀ (n : Nat) (a : Nd) (A : Option Addr) (c : Nat) (w : World), a.size ≤ n → a.size ≤ 1000000 → LexLib w → KidsAt w (fun g => g < w.heap.size) a.kids A →
    Calls Tryz.prog 34 #[.agg #[.int .i64 a.f.k, .int .i64 a.f.vk, .int .i64 a.f.vn, .string a.f.vs, .int .i64 a.f.r1, .int .i64 a.f.r2, .int .i64 a.f.r3, .int .i64 a.f.r4, .string a.f.op, .slice A a.kids.len c]] w fun e w' => e = .returned (.bool (a.all p)) ∧ Below w.heap.size w w' := by
  intro n
  induction n with
  | zero => intro a A c w h _; exact absurd h (by unfold Nd.size; omega)
  | succ n ih =>
    intro a A c w hsz hsm hll hK
    obtain ⟨f, kd⟩ := a
    simp only at hK ⊢
    have HK := Lib.hid hK
    clear hK
    have hlen : kd.len ≤ 1000000 := by have := Fo.len_size kd; have : (Nd.mk f kd).size = 1 + kd.size := rfl; omega
    have hkz : kd.size ≤ n := by have : (Nd.mk f kd).size = 1 + kd.size := rfl; omega
    have hks : kd.size ≤ 1000000 := by have : (Nd.mk f kd).size = 1 + kd.size := rfl; omega
    have L1 : NLoc (w.alloc (.cells #[.int .i64 f.k, .int .i64 f.vk, .int .i64 f.vn, .string f.vs, .int .i64 f.r1, .int .i64 f.r2, .int .i64 f.r3, .int .i64 f.r4, .string f.op, .slice A kd.len c] 30)) w.heap.size f A kd.len c := ⟨heap_alloc_new _ _⟩
    have HL := Lib.hid L1
    have HLL := Lib.hid hll
    clear L1 hll
    go_enter Tryz.func34, Tryz.ntmps34
    go_wp2_with fail
    go_loopw [8] (fun iv wr => ∃ (i : Nat), i ≤ kd.len ∧ iv = .int .i64 i ∧ Below w.heap.size w wr ∧ Hid (NLoc wr w.heap.size f A kd.len c) ∧ w.heap.size < wr.heap.size ∧ Hid ((kd.drop i).all p = kd.all p)) (fun iv _ => kd.len - (intOf iv).toNat)
    case atStart => exact ⟨0, Nat.zero_le _, rfl, (Below.refl _ _).alloc (Nat.le_refl _) _, HL, HL.out.lt, Lib.hid (by cases kd <;> rfl)⟩
    case round =>
      obtain ⟨i, hi, rfl, hB, HN, hwl, HR⟩ := hrel
      have HKr := below_row HK.out hB
      by_cases hlt : i < kd.len
      · have d1 : (i : Int) < (kd.len : Int) := by omega
        obtain ⟨g, o, rfl, hrow⟩ : ∃ g o, A = some ⟨g, o, none⟩ ∧ RowAt wr (fun g => g < wr.heap.size) kd g o := by
          rcases HKr with h | h
          · rw [h] at hlt; exact absurd hlt (by simp [Fo.len])
          · exact h
        obtain ⟨A2, c2, hk2, hpp, f0, f1, f2, f3, f4, f5, f6, f7, f8, f9⟩ := RowAt.nth kd g o i hrow hlt
        have hn1 := Fo.nth_size kd i hlt
        have hB2 : Below wr.heap.size wr (wr.alloc (.cells #[.int .i64 (kd.nth i).f.k, .int .i64 (kd.nth i).f.vk, .int .i64 (kd.nth i).f.vn, .string (kd.nth i).f.vs, .int .i64 (kd.nth i).f.r1, .int .i64 (kd.nth i).f.r2, .int .i64 (kd.nth i).f.r3, .int .i64 (kd.nth i).f.r4, .string (kd.nth i).f.op, .slice A2 (kd.nth i).kids.len c2] 30)) := (Below.refl _ _).alloc (Nat.le_refl _) _
        have HI := Lib.hid (ih (kd.nth i) A2 c2 _ (by omega) (by omega) (HLL.out.below (hB.trans (hB2.mono hB.size))) (below_row hk2 hB2))
        have HB2 := Lib.hid hB2
        have HD : Hid (((kd.nth i).all p && (kd.drop (i + 1)).all p) = kd.all p) := Lib.hid (by rw [← Fo.all_drop p kd i hlt]; exact HR.out)
        clear hrow hk2 HKr ih hn1 hB2
        generalize kd.nth i = b at *
        go_wp2_with fail
        refine HI.out.mono ?_; rintro e w2 ⟨rfl, hb2⟩
        have hbb := HB2.out.trans (hb2.mono HB2.out.size)
        have hsz2 := hbb.size
        cases hs : b.all p with
        | false =>
          have E : Hid ((Nd.mk f kd).all p = false) := Lib.hid (by have := HD.out; rw [hs] at this; unfold Nd.all; simp only [← this, Bool.false_and])
          go_wp2_with fail
          go_ret
          exact ⟨by rw [E.out]; rfl, hB.trans (hbb.mono hB.size)⟩
        | true =>
          go_wp2_with fail
          go_roundw
          case rel => exact ⟨i + 1, by omega, by go_num, hB.trans (hbb.mono hB.size), Lib.hid (HN.out.kept (Kept.of (x := wr.heap.size) hbb) (by omega)), by omega, Lib.hid (by have := HD.out; rw [hs, Bool.true_and] at this; exact this)⟩
          case measure => simp [intOf]; omega
      · have E : Hid ((Nd.mk f kd).all p = p f kd.len) := Lib.hid (by have := HR.out; rw [Fo.drop_len kd i (by omega)] at this; unfold Nd.all; simp only [← this, Fo.all, Bool.true_and])
        have d1 : ¬ (i : Int) < (kd.len : Int) := by omega
        have HF := Lib.hid (hp f A kd.len c wr hlen (HLL.out.below hB))
        clear ih HKr
        obtain ⟨d0, d1, d2, d3, d4, d5, d6, d7, d8, d9, dz0, dz1, dz2, dz3, dz4, dz5, dz6, dz7, dz8, dz9⟩ := (HN.out).cells
        go_wp2_with fail
        refine HF.out.mono ?_; rintro e w2 ⟨rfl, hb2⟩
        go_wp2_with fail
        go_ret
        exact ⟨by rw [E.out]; rfl, hB.trans (hb2.mono hB.size)⟩

/-- Is a tree good, if 'fits' says so much of each node? -/
def goodT (p : Fld → Nat → Bool) (a : Nd) : Bool := decide (a.size ≤ 2000) && decide (a.deep ≤ 16) && a.all p
set_option maxRecDepth 100000 in
set_option maxHeartbeats 1000000 in
theorem cGood (p : Fld → Nat → Bool) (hp : Fits p) (a : Nd) (A : Option Addr) (c : Nat) (w : World) (hsm : a.size ≤ 1000000) (hll : LexLib w) (hK : KidsAt w (fun g => g < w.heap.size) a.kids A) :
    Calls Tryz.prog 19 #[.agg #[.int .i64 a.f.k, .int .i64 a.f.vk, .int .i64 a.f.vn, .string a.f.vs, .int .i64 a.f.r1, .int .i64 a.f.r2, .int .i64 a.f.r3, .int .i64 a.f.r4, .string a.f.op, .slice A a.kids.len c]] w fun e w' => e = .returned (.bool (goodT p a)) ∧ Below w.heap.size w w' := by
  have hb1 : Below w.heap.size w (w.alloc (.cells #[.int .i64 a.f.k, .int .i64 a.f.vk, .int .i64 a.f.vn, .string a.f.vs, .int .i64 a.f.r1, .int .i64 a.f.r2, .int .i64 a.f.r3, .int .i64 a.f.r4, .string a.f.op, .slice A a.kids.len c] 30)) := (Below.refl _ _).alloc (Nat.le_refl _) _
  have L1 : NLoc (w.alloc (.cells #[.int .i64 a.f.k, .int .i64 a.f.vk, .int .i64 a.f.vn, .string a.f.vs, .int .i64 a.f.r1, .int .i64 a.f.r2, .int .i64 a.f.r3, .int .i64 a.f.r4, .string a.f.op, .slice A a.kids.len c] 30)) w.heap.size a.f A a.kids.len c := ⟨heap_alloc_new _ _⟩
  have HLL := Lib.hid hll
  clear hll
  have HK := Lib.hid (below_row hK hb1)
  have hds : a.deep ≤ 1000001 := by have := Fo.deep_size a.kids; unfold Nd.deep; unfold Nd.size at hsm; omega
  clear hK
  generalize hD : goodT p a = D
  have HD := Lib.hid hD.symm
  clear hD
  go_enter Tryz.func19, Tryz.ntmps19
  go_wp2_with fail
  generalize (w.alloc (.cells #[.int .i64 a.f.k, .int .i64 a.f.vk, .int .i64 a.f.vn, .string a.f.vs, .int .i64 a.f.r1, .int .i64 a.f.r2, .int .i64 a.f.r3, .int .i64 a.f.r4, .string a.f.op, .slice A a.kids.len c] 30)) = W1 at *
  refine (csmall a A c W1 hsm HK.out).mono ?_; rintro e w2 ⟨rfl, hb2⟩
  have HK2 := Lib.hid (below_row HK.out hb2)
  have L2 := L1.kept (Kept.of (x := W1.heap.size) hb2) (Nat.ne_of_lt L1.lt)
  have HB := Lib.hid (hb1.trans (hb2.mono hb1.size))
  clear hb1 hb2 HK L1
  by_cases h : a.size ≤ 2000
  · obtain ⟨d0, d1, d2, d3, d4, d5, d6, d7, d8, d9, dz0, dz1, dz2, dz3, dz4, dz5, dz6, dz7, dz8, dz9⟩ := (L2).cells
    have e1 : decide (a.size ≤ 2000) = true := decide_eq_true h
    go_wp2_with fail
    refine (cdepth a.size a A c w2 (Nat.le_refl _) hsm HK2.out).mono ?_; rintro e w3 ⟨rfl, hb3⟩
    have HK3 := Lib.hid (below_row HK2.out hb3)
    have L3 := L2.kept (Kept.of (x := w2.heap.size) hb3) (Nat.ne_of_lt L2.lt)
    have HB3 := Lib.hid (HB.out.trans (hb3.mono HB.out.size))
    clear d0 d1 d2 d3 d4 d5 d6 d7 d8 d9 dz0 dz1 dz2 dz3 dz4 dz5 dz6 dz7 dz8 dz9
    obtain ⟨d0, d1, d2, d3, d4, d5, d6, d7, d8, d9, dz0, dz1, dz2, dz3, dz4, dz5, dz6, dz7, dz8, dz9⟩ := (L3).cells
    by_cases hd : a.deep ≤ 16
    · have e2 : (a.deep : Int) ≤ 16 := by omega
      go_wp2_with fail
      refine (csound p hp a.size a A c w3 (Nat.le_refl _) hsm (HLL.out.below HB3.out) HK3.out).mono ?_; rintro e w4 ⟨rfl, hb4⟩
      have E : Hid (D = a.all p) := Lib.hid (HD.out.trans (by simp [goodT, h, hd]))
      go_wp2_with fail
      go_ret
      exact ⟨by rw [E.out]; rfl, HB3.out.trans (hb4.mono HB3.out.size)⟩
    · have e2 : ¬ (a.deep : Int) ≤ 16 := by omega
      have E : Hid (D = false) := Lib.hid (HD.out.trans (by simp [goodT, hd]))
      go_wp2_with fail
      go_ret
      exact ⟨by rw [E.out]; rfl, HB3.out⟩
  · have e1 : decide (a.size ≤ 2000) = false := decide_eq_false h
    have E : Hid (D = false) := Lib.hid (HD.out.trans (by simp [goodT, h]))
    go_wp2_with fail
    go_ret
    exact ⟨by rw [E.out]; rfl, HB.out⟩


end Go.Proofs.YtbgjdfghcnblcaaGreatDoor.TreeC
