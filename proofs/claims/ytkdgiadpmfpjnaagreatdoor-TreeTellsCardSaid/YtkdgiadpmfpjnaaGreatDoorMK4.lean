/-
  Contract of the statements' helper that tells a tree too large to be gone through.
-/
import Derived.Test.YtkdgiadpmfpjnaaGreatDoorMK2
namespace Go.Proofs.YtkdgiadpmfpjnaaGreatDoor.TreeC
set_option linter.unusedVariables false
open Go.RowKit Go.Proofs.YtkdgiadpmfpjnaaGreatDoor.NumC Go.Proofs.YtkdgiadpmfpjnaaGreatDoor.LexC

/-- Texts of at most 1000 bytes, signs and names of at most 100. -/
def Fo.Short : Fo → Prop
  | .nil => True
  | .cons f k n => (f.vs.size ≤ 1000 ∧ f.op.size ≤ 100) ∧ k.Short ∧ n.Short
theorem Fo.short_app (x y : Fo) : (x.app y).Short ↔ x.Short ∧ y.Short := by
  induction x with
  | nil => simp [Fo.app, Fo.Short]
  | cons f k n _ ih => simp only [Fo.app, Fo.Short, ih]; constructor <;> (rintro ⟨h1, h2⟩; simp_all)
theorem Fo.short_step (q : Fo) (k : Nat) (h : k < q.len) (hs : (q.nth k).f.vs.size ≤ 1000 ∧ (q.nth k).f.op.size ≤ 100) (h2 : ((q.app (q.nth k).kids).drop (k + 1)).Short) : (q.drop k).Short := by
  rw [Fo.queue q k h, Fo.short_app] at h2
  rw [Fo.drop_nth q k h]
  exact ⟨hs, h2.2, h2.1⟩
/-- What is told. -/
def LgPost (a : Nd) (w : World) (e : Ending) (w' : World) : Prop := ∃ b : Bool, e = .returned (.bool b) ∧ Below w.heap.size w w' ∧ (b = false → a.size ≤ 300 ∧ a.one.Short)
/-- Where the queue stands. -/
def LgIn (a : Nd) (w wr : World) (k : Nat) (v : Value) : Prop := ∃ q : Fo, k ≤ q.len ∧ QS wr w.heap.size v q ∧ Below w.heap.size w wr ∧ k + (q.drop k).size = a.size ∧ ((q.drop k).Short → a.one.Short)
set_option maxRecDepth 100000 in
set_option maxHeartbeats 2000000 in
theorem klarge (a : Nd) (A : Option Addr) (c : Nat) (w : World) (hK : KidsAt w (fun g => g < w.heap.size) a.kids A) : Calls Tryz.prog 13 #[.agg #[.int .i64 a.f.k, .int .i64 a.f.vk, .int .i64 a.f.vn, .string a.f.vs, .int .i64 a.f.r1, .int .i64 a.f.r2, .int .i64 a.f.r3, .int .i64 a.f.r4, .string a.f.op, .slice A a.kids.len c]] w (LgPost a w) := by
  have b1 : Below w.heap.size w (w.alloc (.cells #[.int .i64 a.f.k, .int .i64 a.f.vk, .int .i64 a.f.vn, .string a.f.vs, .int .i64 a.f.r1, .int .i64 a.f.r2, .int .i64 a.f.r3, .int .i64 a.f.r4, .string a.f.op, .slice A a.kids.len c] 31)) := (Below.refl _ _).alloc (Nat.le_refl _) _
  have L1 : NLoc (w.alloc (.cells #[.int .i64 a.f.k, .int .i64 a.f.vk, .int .i64 a.f.vn, .string a.f.vs, .int .i64 a.f.r1, .int .i64 a.f.r2, .int .i64 a.f.r3, .int .i64 a.f.r4, .string a.f.op, .slice A a.kids.len c] 31)) w.heap.size a.f A a.kids.len c := ⟨heap_alloc_new _ _⟩
  have HK1 := Lib.hid (below_row hK b1)
  have HK := Lib.hid hK
  clear hK
  go_enter Tryz.func13, Tryz.ntmps13
  go_wp2_with fail
  generalize (w.alloc (.cells #[.int .i64 a.f.k, .int .i64 a.f.vk, .int .i64 a.f.vn, .string a.f.vs, .int .i64 a.f.r1, .int .i64 a.f.r2, .int .i64 a.f.r3, .int .i64 a.f.r4, .string a.f.op, .slice A a.kids.len c] 31)) = W1 at *
  refine (knodes 300 300 rfl (by decide) a A c W1 HK1.out).mono ?_; rintro e w2 ⟨r, rfl, hb2, hr1, hr2, hr3⟩
  have B2 : Below w.heap.size w w2 := b1.trans (hb2.mono b1.size)
  have L2 := L1.kept (Kept.of (x := W1.heap.size) hb2) (Nat.ne_of_lt L1.lt)
  clear L1 b1 HK1
  by_cases hs : a.size ≤ 300
  · have hr : r ≤ 300 := by have := hr1 hs; omega
    have t1 : ¬ (300 : Int) < (r : Int) := by omega
    obtain ⟨d0, d1, d2, d3, d4, d5, d6, d7, d8, d9, -⟩ := L2.cells
    have HB2 := Lib.hid B2
    have b3 : Below w.heap.size w (w2.alloc (.cells #[.int .i64 a.f.k, .int .i64 a.f.vk, .int .i64 a.f.vn, .string a.f.vs, .int .i64 a.f.r1, .int .i64 a.f.r2, .int .i64 a.f.r3, .int .i64 a.f.r4, .string a.f.op, .slice A a.kids.len c] 31)) := B2.alloc B2.size _
    have HQ : Hid (LgIn a w (w2.alloc (.cells #[.int .i64 a.f.k, .int .i64 a.f.vk, .int .i64 a.f.vn, .string a.f.vs, .int .i64 a.f.r1, .int .i64 a.f.r2, .int .i64 a.f.r3, .int .i64 a.f.r4, .string a.f.op, .slice A a.kids.len c] 31)) 0 (.slice (some ⟨w2.heap.size, 0, none⟩) 1 1)) := Lib.hid ⟨a.one, Nat.zero_le _, QS.one (f := a.f) (kd := a.kids) (c := c) (heap_alloc_new _ _) B2.size rfl (kids_below HK.out b3 (Nat.le_refl _)), b3, by rw [Nat.zero_add, Fo.drop_zero, Nd.one_size], fun h => by rwa [Fo.drop_zero] at h⟩
    clear hr1 hr2 hr3 hb2 B2 b3 L2
    go_wp2_with fail
    go_loopw [3, 4] (fun v iv wr => ∃ k : Nat, k ≤ 300 ∧ iv = .int .i64 k ∧ Hid (LgIn a w wr k v)) (fun _ iv _ => 300 - (intOf iv).toNat)
    case atStart => exact ⟨0, by omega, rfl, HQ⟩
    case round =>
      clear HQ HB2 d0 d1 d2 d3 d4 d5 d6 d7 d8 d9
      obtain ⟨k, hk, rfl, HR⟩ := hrel
      obtain ⟨q, hkq, hQ, hB, hsz, hsh⟩ := HR.out
      clear HR
      have hql : q.len ≤ 300 := by
        have h1 := Fo.len_size (q.drop k)
        rw [Fo.len_drop] at h1
        omega
      by_cases hlt : k < q.len
      · obtain ⟨g, c9, A2, c2, rfl, hg0, hg1, hkid, f0, f1, f2, f3, f4, f5, f6, f7, f8, f9⟩ := hQ.nth k hlt
        have hd1 : (k : Int) < (q.len : Int) := by omega
        have HST := Lib.hid (show k + (q.drop k).size = a.size ∧ ((q.drop k).Short → a.one.Short) from ⟨hsz, hsh⟩)
        have HN := Lib.hid hQ
        have HKD := Lib.hid hkid
        have hBs := hB.size
        have HB := Lib.hid hB
        have hnl : q.len + (q.nth k).kids.len ≤ 1000000 := by
          have h1 := Fo.size_drop q k hlt
          have h2 := Fo.len_size (q.nth k).kids
          omega
        clear hsz hsh hQ hkid hB
        by_cases h1 : 1000 < (q.nth k).f.vs.size
        · have e1 : (1000 : Int) < ((q.nth k).f.vs.size : Int) := by omega
          go_wp2_with fail
          go_ret
          exact ⟨true, rfl, HB.out, fun h => by cases h⟩
        · have e1 : ¬ (1000 : Int) < ((q.nth k).f.vs.size : Int) := by omega
          by_cases h2 : 100 < (q.nth k).f.op.size
          · have e2 : (100 : Int) < ((q.nth k).f.op.size : Int) := by omega
            go_wp2_with fail
            go_ret
            exact ⟨true, rfl, HB.out, fun h => by cases h⟩
          · have e2 : ¬ (100 : Int) < ((q.nth k).f.op.size : Int) := by omega
            have HSH := Lib.hid (show (q.nth k).f.vs.size ≤ 1000 ∧ (q.nth k).f.op.size ≤ 100 from ⟨by omega, by omega⟩)
            clear h1 h2
            go_wp2_with (at_builtin
                         refine wpList_append_queue _ rfl (.tmp 37) (.tmp 42) rfl (B := w.heap.size) (c := c2) (fo := q) (kd := (q.nth k).kids) (A := A2) rfl rfl HN.out HKD.out hnl hBs ?_
                         intro v9 w9 hq9 hg9 hat9
                         have HD9 : Hid (LgIn a w w9 (k + 1) v9) := Lib.hid ⟨_, by rw [Fo.len_app]; omega, hq9, below_grown HB.out hBs hg9 (fun k hk => (HN.out.lt k hk).1), Fo.queue_size q k a.size hlt HST.out.1, fun h => HST.out.2 (Fo.short_step q k hlt HSH.out h)⟩
                         clear hq9 hg9 hat9)
            go_roundw
            case rel => exact ⟨k + 1, by omega, by go_num, HD9⟩
            case measure => simp [intOf]; omega
      · have hd1 : ¬ (k : Int) < (q.len : Int) := by omega
        obtain ⟨NA, nc, rfl⟩ := hQ.form
        have HB := Lib.hid hB
        have HE := Lib.hid (hsh (by rw [Fo.drop_len q k (by omega)]; trivial))
        clear hQ hB hsz hsh
        go_wp2_with fail
        go_ret
        exact ⟨false, rfl, HB.out, fun _ => ⟨hs, HE.out⟩⟩
  · have t1 : (300 : Int) < (r : Int) := by have := hr2 (by omega); omega
    have HB2 := Lib.hid B2
    clear hr1 hr2 hr3 hb2 B2 L2
    go_wp2_with fail
    go_ret
    exact ⟨true, rfl, HB2.out, fun h => by cases h⟩

end Go.Proofs.YtkdgiadpmfpjnaaGreatDoor.TreeC
