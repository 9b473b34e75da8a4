/-
  Contracts of tree's code: how deep a tree is.
-/
import Derived.Test.YticehalcnbjccaaGreatDoorBTreeP0
import Derived.Test.YticehalcnbjccaaGreatDoorBTreeP4
import Derived.Laws.OwnMore
namespace Go.Proofs.YticehalcnbjccaaGreatDoor.TreeC
set_option linter.unusedVariables false
open Go.RowKit Go.Proofs.YticehalcnbjccaaGreatDoor.NumC Go.Proofs.YticehalcnbjccaaGreatDoor.LexC
def Fo.nth : Fo → Nat → Nd
  | .nil, _ => zeroN
  | .cons f k _, 0 => ⟨f, k⟩
  | .cons _ _ n, i + 1 => n.nth i
def Fo.drop : Fo → Nat → Fo
  | x, 0 => x
  | .nil, _ + 1 => .nil
  | .cons _ _ n, i + 1 => n.drop i
theorem Fo.drop_nth : ∀ (x : Fo) (i : Nat), i < x.len → x.drop i = .cons (x.nth i).f (x.nth i).kids (x.drop (i + 1))
  | .nil, i, h => by simp [Fo.len] at h
  | .cons f k n, 0, h => by simp [Fo.drop, Fo.nth]
  | .cons f k n, i + 1, h => by
    have := Fo.drop_nth n i (by simpa [Fo.len] using h)
    simpa [Fo.drop, Fo.nth] using this
theorem Fo.drop_len : ∀ (x : Fo) (i : Nat), x.len ≤ i → x.drop i = .nil
  | .nil, 0, _ => rfl
  | .nil, i + 1, _ => rfl
  | .cons f k n, 0, h => by simp [Fo.len] at h
  | .cons f k n, i + 1, h => by simpa [Fo.drop] using Fo.drop_len n i (by simpa [Fo.len] using h)
theorem Fo.nth_size : ∀ (x : Fo) (i : Nat), i < x.len → (x.nth i).size ≤ x.size
  | .nil, i, h => by simp [Fo.len] at h
  | .cons f k n, 0, h => by simp [Fo.nth, Nd.size, Fo.size]
  | .cons f k n, i + 1, h => by
    have := Fo.nth_size n i (by simpa [Fo.len] using h)
    simp only [Fo.nth, Fo.size]; omega
theorem Fo.len_size : ∀ (x : Fo), x.len ≤ x.size
  | .nil => Nat.le_refl _
  | .cons f k n => by have := Fo.len_size n; simp only [Fo.len, Fo.size]; omega
theorem Fo.deep_size : ∀ (x : Fo), x.deep ≤ x.size
  | .nil => Nat.le_refl _
  | .cons f k n => by have := Fo.deep_size n; have := Fo.deep_size k; simp only [Fo.deep, Fo.size]; omega
theorem below_row {w w' : World} {fo : Fo} {A : Option Addr} (h : KidsAt w (fun g => g < w.heap.size) fo A) (hb : Below w.heap.size w w') : KidsAt w' (fun g => g < w'.heap.size) fo A :=
  h.keep (Kept.of (x := w.heap.size) hb) (fun g hg _ => ⟨by omega, by have := hb.size; omega⟩)
theorem RowAt.nth {w : World} {P : Nat → Prop} : ∀ (x : Fo) (g o i : Nat), RowAt w P x g o → i < x.len → ∃ A c, KidsAt w P (x.nth i).kids A ∧ P g ∧
    w.cell? ⟨g, o + i * 10, none⟩ = some (.int .i64 (x.nth i).f.k) ∧ w.cell? ⟨g, o + i * 10 + 1, none⟩ = some (.int .i64 (x.nth i).f.vk) ∧ w.cell? ⟨g, o + i * 10 + 2, none⟩ = some (.int .i64 (x.nth i).f.vn) ∧ w.cell? ⟨g, o + i * 10 + 3, none⟩ = some (.string (x.nth i).f.vs) ∧
    w.cell? ⟨g, o + i * 10 + 4, none⟩ = some (.int .i64 (x.nth i).f.r1) ∧ w.cell? ⟨g, o + i * 10 + 5, none⟩ = some (.int .i64 (x.nth i).f.r2) ∧ w.cell? ⟨g, o + i * 10 + 6, none⟩ = some (.int .i64 (x.nth i).f.r3) ∧ w.cell? ⟨g, o + i * 10 + 7, none⟩ = some (.int .i64 (x.nth i).f.r4) ∧
    w.cell? ⟨g, o + i * 10 + 8, none⟩ = some (.string (x.nth i).f.op) ∧ w.cell? ⟨g, o + i * 10 + 9, none⟩ = some (.slice A (x.nth i).kids.len c)
  | .nil, g, o, i, _, h => by simp [Fo.len] at h
  | .cons f k n, g, o, 0, hr, h => by
    obtain ⟨⟨hp, f0, f1, f2, f3, f4, f5, f6, f7, f8⟩, ⟨A, c, f9, hk⟩, -⟩ := hr
    exact ⟨A, c, hk, hp, by simpa [Fo.nth] using f0, by simpa [Fo.nth] using f1, by simpa [Fo.nth] using f2, by simpa [Fo.nth] using f3, by simpa [Fo.nth] using f4, by simpa [Fo.nth] using f5, by simpa [Fo.nth] using f6, by simpa [Fo.nth] using f7, by simpa [Fo.nth] using f8, by simpa [Fo.nth] using f9⟩
  | .cons f k n, g, o, i + 1, hr, h => by
    have := RowAt.nth n g (o + 10) i hr.2.2 (by simpa [Fo.len] using h)
    simp only [Fo.nth]
    rwa [show o + 10 + i * 10 = o + (i + 1) * 10 from by omega] at this
def Fo.room : Fo → Int → Int
  | .nil, r => r
  | .cons _ k n, r => if r < 0 then r else n.room (k.room (r - 1))
def Nd.room (a : Nd) (r : Int) : Int := a.kids.room (r - 1)
theorem Fo.room_neg : ∀ (x : Fo) (r : Int), r < 0 → x.room r = r
  | .nil, r, h => rfl
  | .cons f k n, r, h => by simp [Fo.room, h]
theorem Fo.room_ok : ∀ (x : Fo) (r : Int), (x.size : Int) ≤ r → x.room r = r - x.size
  | .nil, r, h => by simp [Fo.room, Fo.size]
  | .cons f k n, r, h => by
    simp only [Fo.size] at h
    rw [Fo.room, if_neg (by omega), Fo.room_ok k (r - 1) (by omega), Fo.room_ok n _ (by omega)]
    simp only [Fo.size]; omega
theorem Fo.room_big : ∀ (x : Fo) (r : Int), 0 ≤ r → r < (x.size : Int) → x.room r = -1
  | .nil, r, h0, h => by simp [Fo.size] at h; omega
  | .cons f k n, r, h0, h => by
    simp only [Fo.size] at h
    rw [Fo.room, if_neg (by omega)]
    by_cases h1 : r - 1 < 0
    · rw [Fo.room_neg k _ h1, Fo.room_neg n _ h1]; omega
    · by_cases hk : (k.size : Int) ≤ r - 1
      · rw [Fo.room_ok k _ hk]
        exact Fo.room_big n _ (by omega) (by omega)
      · rw [Fo.room_big k _ (by omega) (by omega), Fo.room_neg n _ (by omega)]
theorem Nd.room_le (a : Nd) {r : Int} (h : 0 ≤ r) : 0 ≤ a.room r ↔ (a.size : Int) ≤ r := by
  unfold Nd.room Nd.size
  by_cases hk : (a.kids.size : Int) ≤ r - 1
  · rw [Fo.room_ok _ _ hk]; omega
  · by_cases h1 : r - 1 < 0
    · rw [Fo.room_neg _ _ h1]; omega
    · rw [Fo.room_big _ _ (by omega) (by omega)]; omega
theorem Nd.room_lo (a : Nd) {r : Int} (h : 0 ≤ r) : -1 ≤ a.room r ∧ a.room r ≤ r := by
  unfold Nd.room
  by_cases hk : (a.kids.size : Int) ≤ r - 1
  · rw [Fo.room_ok _ _ hk]; omega
  · by_cases h1 : r - 1 < 0
    · rw [Fo.room_neg _ _ h1]; omega
    · rw [Fo.room_big _ _ (by omega) (by omega)]; omega
set_option maxRecDepth 100000 in
set_option maxHeartbeats 1000000 in
theorem croom : ∀ (n : Nat) (a : Nd) (A : Option Addr) (c : Nat) (r : Int) (w : World), a.size ≤ n → a.size ≤ 1000000 → 0 ≤ r → r ≤ 2000 → KidsAt w (fun g => g < w.heap.size) a.kids A →
    Calls Tryz.prog 92 #[.agg #[.int .i64 a.f.k, .int .i64 a.f.vk, .int .i64 a.f.vn, .string a.f.vs, .int .i64 a.f.r1, .int .i64 a.f.r2, .int .i64 a.f.r3, .int .i64 a.f.r4, .string a.f.op, .slice A a.kids.len c], .int .i64 r] w fun e w' => e = .returned (.int .i64 (a.room r)) ∧ Below w.heap.size w w' := by
  intro n
  induction n with
  | zero => intro a A c r w h _; exact absurd h (by unfold Nd.size; omega)
  | succ n ih =>
    intro a A c r w hsz hsm hr0 hr1 hK
    obtain ⟨f, kd⟩ := a
    simp only at hK ⊢
    have HK := Lib.hid hK
    clear hK
    have hlen : kd.len ≤ 1000000 := by have := Fo.len_size kd; have : (Nd.mk f kd).size = 1 + kd.size := rfl; omega
    have hkz : kd.size ≤ n := by have : (Nd.mk f kd).size = 1 + kd.size := rfl; omega
    have hks : kd.size ≤ 1000000 := by have : (Nd.mk f kd).size = 1 + kd.size := rfl; omega
    go_enter Tryz.func92, Tryz.ntmps92
    go_wp2
    go_loopw [1, 5] (fun rv iv wr => ∃ (i : Nat) (q : Int), i ≤ kd.len ∧ rv = .int .i64 q ∧ iv = .int .i64 i ∧ -1 ≤ q ∧ q ≤ 2000 ∧ Below w.heap.size w wr ∧ Hid (wr.cell? ⟨w.heap.size, 9, none⟩ = some (.slice A kd.len c)) ∧ Hid ((kd.drop i).room q = kd.room (r - 1))) (fun _ iv _ => kd.len - (intOf iv).toNat)
    case atStart => exact ⟨0, r - 1, Nat.zero_le _, rfl, rfl, by omega, by omega, (Below.refl _ _).alloc (Nat.le_refl _) _, Lib.hid (by simp), Lib.hid (by cases kd <;> rfl)⟩
    case round =>
      obtain ⟨i, q, hi, rfl, rfl, hq0, hq1, hB, H9, HR⟩ := hrel
      have HKr := below_row HK.out hB
      have h9 := H9.out
      by_cases hlt : i < kd.len
      · have d1 : (i : Int) < (kd.len : Int) := by omega
        by_cases hq : 0 ≤ q
        · obtain ⟨g, o, rfl, hrow⟩ : ∃ g o, A = some ⟨g, o, none⟩ ∧ RowAt wr (fun g => g < wr.heap.size) kd g o := by
            rcases HKr with h | h
            · rw [h] at hlt; exact absurd hlt (by simp [Fo.len])
            · exact h
          obtain ⟨A2, c2, hk2, hp, f0, f1, f2, f3, f4, f5, f6, f7, f8, f9⟩ := RowAt.nth kd g o i hrow hlt
          have hn1 := Fo.nth_size kd i hlt
          have HI := Lib.hid (ih (kd.nth i) A2 c2 q wr (by omega) (by omega) hq hq1 hk2)
          have hlo := Nd.room_lo (kd.nth i) hq
          have HN : Hid ((kd.drop (i + 1)).room ((kd.nth i).room q) = kd.room (r - 1)) := by
            have e := HR.out
            rw [Fo.drop_nth kd i hlt, Fo.room, if_neg (by omega)] at e
            exact Lib.hid e
          clear hrow hk2 HKr ih hn1
          generalize kd.nth i = b at *
          go_wp2_with fail
          refine HI.out.mono ?_; rintro e w2 ⟨rfl, hb2⟩
          go_wp2_with fail
          go_roundw
          case rel => exact ⟨i + 1, b.room q, by omega, rfl, by go_num, by omega, by omega, hB.trans (hb2.mono hB.size), Lib.hid (cell_later hb2 H9.out), HN⟩
          case measure => simp [intOf]; omega
        · have E : Hid (kd.room (r - 1) = q) := Lib.hid (HR.out.symm.trans (Fo.room_neg _ _ (by omega)))
          clear ih HKr
          go_wp2_with fail
          go_ret
          exact ⟨by show Ending.returned (.int .i64 q) = _; rw [← E.out]; rfl, hB⟩
      · have E : Hid (kd.room (r - 1) = q) := Lib.hid (by rw [← HR.out, Fo.drop_len kd i (by omega)]; rfl)
        have d1 : ¬ (i : Int) < (kd.len : Int) := by omega
        clear ih HKr
        go_wp2_with fail
        go_ret
        exact ⟨by show Ending.returned (.int .i64 q) = _; rw [← E.out]; rfl, hB⟩
set_option maxRecDepth 100000 in
set_option maxHeartbeats 1000000 in
theorem csmall (a : Nd) (A : Option Addr) (c : Nat) (w : World) (hsm : a.size ≤ 1000000) (hK : KidsAt w (fun g => g < w.heap.size) a.kids A) :
    Calls Tryz.prog 61 #[.agg #[.int .i64 a.f.k, .int .i64 a.f.vk, .int .i64 a.f.vn, .string a.f.vs, .int .i64 a.f.r1, .int .i64 a.f.r2, .int .i64 a.f.r3, .int .i64 a.f.r4, .string a.f.op, .slice A a.kids.len c]] w fun e w' => e = .returned (.bool (decide (a.size ≤ 2000))) ∧ Below w.heap.size w w' := by
  have HK := Lib.hid hK
  clear hK
  have E : Hid (decide (0 ≤ a.room 2000) = decide (a.size ≤ 2000)) := Lib.hid (by have := Nd.room_le a (r := 2000) (by omega); exact decide_eq_decide.2 (this.trans (by omega)))
  obtain ⟨f, kd⟩ := a
  simp only at *
  go_enter Tryz.func61, Tryz.ntmps61
  go_wp2_with fail
  have hb1 : Below w.heap.size w (w.alloc (.cells #[.int .i64 f.k, .int .i64 f.vk, .int .i64 f.vn, .string f.vs, .int .i64 f.r1, .int .i64 f.r2, .int .i64 f.r3, .int .i64 f.r4, .string f.op, .slice A kd.len c] 31)) := (Below.refl _ _).alloc (Nat.le_refl _) _
  refine (croom (Nd.mk f kd).size ⟨f, kd⟩ A c 2000 _ (Nat.le_refl _) hsm (by omega) (by omega) (below_row HK.out hb1)).mono ?_; rintro e w2 ⟨rfl, hb2⟩
  go_wp2_with fail
  go_ret
  exact ⟨by rw [← E.out]; rfl, hb1.trans (hb2.mono hb1.size)⟩
theorem Fo.deep_drop : ∀ (x : Fo) (i : Nat) (h : i < x.len), (x.drop i).deep = max (x.nth i).deep (x.drop (i + 1)).deep := by
  intro x i h
  rw [Fo.drop_nth x i h]
  simp only [Fo.deep, Nd.deep]
set_option maxRecDepth 100000 in
set_option maxHeartbeats 1000000 in
theorem cdepth : ∀ (n : Nat) (a : Nd) (A : Option Addr) (c : Nat) (w : World), a.size ≤ n → a.size ≤ 1000000 → KidsAt w (fun g => g < w.heap.size) a.kids A →
    Calls Tryz.prog 111 #[.agg #[.int .i64 a.f.k, .int .i64 a.f.vk, .int .i64 a.f.vn, .string a.f.vs, .int .i64 a.f.r1, .int .i64 a.f.r2, .int .i64 a.f.r3, .int .i64 a.f.r4, .string a.f.op, .slice A a.kids.len c]] w fun e w' => e = .returned (.int .i64 (a.deep : Nat)) ∧ Below w.heap.size w w' := by
  intro n
  induction n with
  | zero => intro a A c w h _; exact absurd h (by unfold Nd.size; omega)
  | succ n ih =>
    intro a A c w hsz hsm hK
    obtain ⟨f, kd⟩ := a
    simp only at hK ⊢
    have HK := Lib.hid hK
    clear hK
    have hlen : kd.len ≤ 1000000 := by have := Fo.len_size kd; have : (Nd.mk f kd).size = 1 + kd.size := rfl; omega
    have hkz : kd.size ≤ n := by have : (Nd.mk f kd).size = 1 + kd.size := rfl; omega
    have hks : kd.size ≤ 1000000 := by have : (Nd.mk f kd).size = 1 + kd.size := rfl; omega
    have hdd : kd.deep ≤ 1000000 := Nat.le_trans (Fo.deep_size kd) hks
    go_enter Tryz.func111, Tryz.ntmps111
    go_wp2
    go_loopw [3, 9] (fun dv iv wr => ∃ (i d : Nat), i ≤ kd.len ∧ dv = .int .i64 d ∧ iv = .int .i64 i ∧ Below w.heap.size w wr ∧ Hid (max d (kd.drop i).deep = kd.deep)) (fun _ iv _ => kd.len - (intOf iv).toNat)
    case atStart => exact ⟨0, 0, Nat.zero_le _, rfl, rfl, (Below.refl _ _).alloc (Nat.le_refl _) _, Lib.hid (by cases kd <;> simp [Fo.drop])⟩
    case round =>
      obtain ⟨i, d, hi, rfl, rfl, hB, HR⟩ := hrel
      have HKr := below_row HK.out hB
      by_cases hlt : i < kd.len
      · have d1 : (i : Int) < (kd.len : Int) := by omega
        obtain ⟨g, o, rfl, hrow⟩ : ∃ g o, A = some ⟨g, o, none⟩ ∧ RowAt wr (fun g => g < wr.heap.size) kd g o := by
          rcases HKr with h | h
          · rw [h] at hlt; exact absurd hlt (by simp [Fo.len])
          · exact h
        obtain ⟨A2, c2, hk2, hp, f0, f1, f2, f3, f4, f5, f6, f7, f8, f9⟩ := RowAt.nth kd g o i hrow hlt
        have hn1 := Fo.nth_size kd i hlt
        have hB2 : Below wr.heap.size wr (wr.alloc (.cells #[.int .i64 (kd.nth i).f.k, .int .i64 (kd.nth i).f.vk, .int .i64 (kd.nth i).f.vn, .string (kd.nth i).f.vs, .int .i64 (kd.nth i).f.r1, .int .i64 (kd.nth i).f.r2, .int .i64 (kd.nth i).f.r3, .int .i64 (kd.nth i).f.r4, .string (kd.nth i).f.op, .slice A2 (kd.nth i).kids.len c2] 31)) := (Below.refl _ _).alloc (Nat.le_refl _) _
        have HI := Lib.hid (ih (kd.nth i) A2 c2 _ (by omega) (by omega) (below_row hk2 hB2))
        have HB2 := Lib.hid hB2
        have HN : Hid (max (max d (kd.nth i).deep) (kd.drop (i + 1)).deep = kd.deep) := Lib.hid (by rw [Nat.max_assoc, ← Fo.deep_drop kd i hlt]; exact HR.out)
        have hm1 : max d (kd.nth i).deep ≤ 1000000 := by have := HN.out; omega
        clear hrow hk2 HKr ih hn1 hB2
        generalize kd.nth i = b at *
        go_wp2_with fail
        refine HI.out.mono ?_; rintro e w2 ⟨rfl, hb2⟩
        go_wp2_with fail
        go_roundw
        case rel => exact ⟨i + 1, max d b.deep, by omega, by congr 1; omega, by go_num, hB.trans ((HB2.out.trans (hb2.mono HB2.out.size)).mono hB.size), HN⟩
        case measure => simp [intOf]; omega
      · have E : Hid (kd.deep = d) := Lib.hid (by rw [← HR.out, Fo.drop_len kd i (by omega)]; simp [Fo.deep])
        have d1 : ¬ (i : Int) < (kd.len : Int) := by omega
        have hd : d ≤ 1000000 := by have := E.out; omega
        clear ih HKr
        go_wp2_with fail
        go_ret
        refine ⟨?_, hB⟩
        show Ending.returned (.int .i64 ((d : Int) + 1)) = .returned (.int .i64 (((1 + kd.deep : Nat)) : Int))
        rw [E.out]
        congr 2; omega
set_option maxRecDepth 100000 in
set_option maxHeartbeats 1000000 in
theorem cDepth (a : Nd) (A : Option Addr) (c : Nat) (w : World) (hsm : a.size ≤ 1000000) (hK : KidsAt w (fun g => g < w.heap.size) a.kids A) :
    Calls Tryz.prog 100 #[.agg #[.int .i64 a.f.k, .int .i64 a.f.vk, .int .i64 a.f.vn, .string a.f.vs, .int .i64 a.f.r1, .int .i64 a.f.r2, .int .i64 a.f.r3, .int .i64 a.f.r4, .string a.f.op, .slice A a.kids.len c]] w fun e w' => e = .returned (.int .i64 ((if a.size ≤ 2000 then a.deep else 0 : Nat) : Int)) ∧ Below w.heap.size w w' := by
  have hb1 : Below w.heap.size w (w.alloc (.cells #[.int .i64 a.f.k, .int .i64 a.f.vk, .int .i64 a.f.vn, .string a.f.vs, .int .i64 a.f.r1, .int .i64 a.f.r2, .int .i64 a.f.r3, .int .i64 a.f.r4, .string a.f.op, .slice A a.kids.len c] 31)) := (Below.refl _ _).alloc (Nat.le_refl _) _
  have L1 : NLoc (w.alloc (.cells #[.int .i64 a.f.k, .int .i64 a.f.vk, .int .i64 a.f.vn, .string a.f.vs, .int .i64 a.f.r1, .int .i64 a.f.r2, .int .i64 a.f.r3, .int .i64 a.f.r4, .string a.f.op, .slice A a.kids.len c] 31)) w.heap.size a.f A a.kids.len c := ⟨heap_alloc_new _ _⟩
  have HK := Lib.hid (below_row hK hb1)
  clear hK
  generalize hD : (if a.size ≤ 2000 then a.deep else 0) = D
  have HD := Lib.hid hD.symm
  clear hD
  go_enter Tryz.func100, Tryz.ntmps100
  go_wp2_with fail
  generalize (w.alloc (.cells #[.int .i64 a.f.k, .int .i64 a.f.vk, .int .i64 a.f.vn, .string a.f.vs, .int .i64 a.f.r1, .int .i64 a.f.r2, .int .i64 a.f.r3, .int .i64 a.f.r4, .string a.f.op, .slice A a.kids.len c] 31)) = W1 at *
  refine (csmall a A c W1 hsm HK.out).mono ?_; rintro e w2 ⟨rfl, hb2⟩
  have HK2 := Lib.hid (below_row HK.out hb2)
  have L2 := L1.kept (Kept.of (x := W1.heap.size) hb2) (Nat.ne_of_lt L1.lt)
  have HB := Lib.hid (hb1.trans (hb2.mono hb1.size))
  clear hb1 hb2 HK L1
  by_cases h : a.size ≤ 2000
  · obtain ⟨d0, d1, d2, d3, d4, d5, d6, d7, d8, d9, dz0, dz1, dz2, dz3, dz4, dz5, dz6, dz7, dz8, dz9⟩ := (L2).cells
    have e1 : decide (a.size ≤ 2000) = true := decide_eq_true h
    have e2 : Hid (D = a.deep) := Lib.hid (HD.out.trans (if_pos h))
    go_wp2_with fail
    refine (cdepth a.size a A c w2 (Nat.le_refl _) hsm HK2.out).mono ?_; rintro e w3 ⟨rfl, hb3⟩
    go_wp2_with fail
    go_ret
    exact ⟨by rw [e2.out]; rfl, HB.out.trans (hb3.mono HB.out.size)⟩
  · have e1 : decide (a.size ≤ 2000) = false := decide_eq_false h
    have e2 : Hid (D = 0) := Lib.hid (HD.out.trans (if_neg h))
    go_wp2_with fail
    go_ret
    exact ⟨by rw [e2.out]; rfl, HB.out⟩
end Go.Proofs.YticehalcnbjccaaGreatDoor.TreeC
namespace Go.Proofs.YticehalcnbjccaaGreatDoor.TreeC
set_option linter.unusedVariables false
open Go.Proofs.YticehalcnbjccaaGreatDoor.NumC Go.Proofs.YticehalcnbjccaaGreatDoor.LexC
theorem Fo.app_len_inj : ∀ (x x' : Fo) {y y' : Fo}, x.len = x'.len → (x.app y = x'.app y' ↔ x = x' ∧ y = y')
  | .nil, .nil, y, y', _ => by simp [Fo.app]
  | .nil, .cons _ _ _, _, _, h => by simp [Fo.len] at h
  | .cons _ _ _, .nil, _, _, h => by simp [Fo.len] at h
  | .cons f k n, .cons f' k' n', y, y', h => by
    have := Fo.app_len_inj n n' (y := y) (y' := y') (by simpa [Fo.len] using h)
    simp only [Fo.app, Fo.cons.injEq, this]
    constructor
    · rintro ⟨a, b, c, d⟩; exact ⟨⟨a, b, c⟩, d⟩
    · rintro ⟨⟨a, b, c⟩, d⟩; exact ⟨a, b, c, d⟩
theorem Fo.drop_app : ∀ (x y : Fo) (i : Nat), i ≤ x.len → (x.app y).drop i = (x.drop i).app y
  | .nil, y, i, h => by
    obtain rfl : i = 0 := by simpa [Fo.len] using h
    cases y <;> rfl
  | .cons f k n, y, 0, _ => rfl
  | .cons f k n, y, i + 1, h => by
    have := Fo.drop_app n y i (by simp only [Fo.len] at h; omega)
    exact this
theorem Fo.nth_app : ∀ (x y : Fo) (i : Nat), i < x.len → (x.app y).nth i = x.nth i
  | .nil, y, i, h => absurd h (by simp [Fo.len])
  | .cons f k n, y, 0, _ => rfl
  | .cons f k n, y, i + 1, h => Fo.nth_app n y i (by simp only [Fo.len] at h; omega)
theorem Fo.drop_zero (x : Fo) : x.drop 0 = x := by cases x <;> rfl
theorem Fo.size_drop (x : Fo) (i : Nat) (h : i < x.len) : (x.drop i).size = 1 + (x.nth i).kids.size + (x.drop (i + 1)).size := by
  rw [Fo.drop_nth x i h]; rfl
theorem Fo.queue (q : Fo) (k : Nat) (h : k < q.len) : ((q.app (q.nth k).kids).drop (k + 1)) = (q.drop (k + 1)).app (q.nth k).kids := Fo.drop_app _ _ _ h
theorem Fo.queue_size (q : Fo) (k s : Nat) (h : k < q.len) (hs : k + (q.drop k).size = s) : (k + 1) + ((q.app (q.nth k).kids).drop (k + 1)).size = s := by
  rw [Fo.queue q k h, Fo.size_app, ← hs, Fo.size_drop q k h]; omega
theorem Fo.take_app : ∀ (x : Fo) (i : Nat), i < x.len → ∀ y : Fo, x.drop i = y → y.len = x.len - i
  | .nil, i, h, _, _ => absurd h (by simp [Fo.len])
  | .cons f k n, 0, _, y, e => by subst e; simp [Fo.drop_zero]
  | .cons f k n, i + 1, h, y, e => by
    have h' : i < n.len := by simp only [Fo.len] at h; omega
    have := Fo.take_app n i h' y e
    simp only [Fo.len]; omega
theorem Fo.len_drop (x : Fo) (i : Nat) : (x.drop i).len = x.len - i := by
  by_cases h : i < x.len
  · exact Fo.take_app x i h _ rfl
  · rw [Fo.drop_len x i (by omega)]; simp [Fo.len]; omega
theorem Fo.two_step (x y : Fo) (k : Nat) (hx : k < x.len) (hy : k < y.len) (hf : (x.nth k).f = (y.nth k).f) (hl : (x.nth k).kids.len = (y.nth k).kids.len) :
    (x.drop k = y.drop k ↔ (x.app (x.nth k).kids).drop (k + 1) = (y.app (y.nth k).kids).drop (k + 1)) := by
  rw [Fo.queue x k hx, Fo.queue y k hy, Fo.drop_nth x k hx, Fo.drop_nth y k hy]
  simp only [Fo.cons.injEq, hf, true_and]
  constructor
  · rintro ⟨a, b⟩; rw [a, b]
  · intro h
    have hlen : (x.drop (k + 1)).len = (y.drop (k + 1)).len := by
      have := congrArg Fo.len h
      rw [Fo.len_app, Fo.len_app, hl] at this
      omega
    have := (Fo.app_len_inj _ _ hlen).1 h
    exact ⟨this.2, this.1⟩
theorem Fo.two_ne (x y : Fo) (k : Nat) (hx : k < x.len) (hy : k < y.len) (h : ¬ ((x.nth k).f = (y.nth k).f ∧ (x.nth k).kids.len = (y.nth k).kids.len)) : x.drop k ≠ y.drop k := by
  rw [Fo.drop_nth x k hx, Fo.drop_nth y k hy]
  intro e
  injection e with e1 e2 e3
  exact h ⟨e1, by rw [e2]⟩
end Go.Proofs.YticehalcnbjccaaGreatDoor.TreeC
namespace Go.Proofs.YticehalcnbjccaaGreatDoor.TreeC
set_option linter.unusedVariables false
open Go.RowKit Go.Proofs.YticehalcnbjccaaGreatDoor.NumC Go.Proofs.YticehalcnbjccaaGreatDoor.LexC
theorem addr_add0 (g j : Nat) : (⟨g, 0, none⟩ : Addr).add j = ⟨g, j, none⟩ := by unfold Addr.add; split <;> simp_all
theorem addr_add (g i j : Nat) : (⟨g, i, none⟩ : Addr).add j = ⟨g, i + j, none⟩ := by
  unfold Addr.add
  split
  · rename_i h; subst h; rfl
  · rfl
theorem RowV.nth {w : World} {P : Nat → Prop} : ∀ (fo : Fo) (vs : List Value) (i : Nat), RowV w P fo vs → i < fo.len → ∃ A c, KidsAt w P (fo.nth i).kids A ∧
    ∀ (j : Nat) (u : Value), (nodeV (fo.nth i).f A (fo.nth i).kids.len c).cells[j]? = some u → (ncells vs)[i * 10 + j]? = some u := by
  intro fo
  induction fo with
  | nil => intro vs i _ h; exact absurd h (by simp [Fo.len])
  | cons f kids next _ ih =>
    intro vs i h hi
    cases vs with
    | nil => exact absurd h (by simp [RowV])
    | cons v vs =>
      obtain ⟨⟨A, c, rfl, hA⟩, hr⟩ := h
      cases i with
      | zero =>
        refine ⟨A, c, hA, fun j u hj => ?_⟩
        rw [ncells_cons, Nat.zero_mul, Nat.zero_add, List.getElem?_append_left (by
          have := (Array.getElem?_eq_some_iff.1 hj).1
          rw [Array.length_toList]; exact this)]
        simpa [Fo.nth] using hj
      | succ i =>
        obtain ⟨A2, c2, h1, h2⟩ := ih vs i hr (by simpa [Fo.len] using hi)
        refine ⟨A2, c2, h1, fun j u hj => ?_⟩
        have := h2 j u hj
        rw [ncells_cons, List.getElem?_append_right (by simp [nodeV, Value.cells]; omega)]
        rw [← this]
        congr 1
        simp [nodeV, Value.cells]; omega
theorem RowV.app {w : World} {P : Nat → Prop} {ka : Fo} {ws : List Value} (hw : RowV w P ka ws) : ∀ (fo : Fo) (vs : List Value), RowV w P fo vs → RowV w P (fo.app ka) (vs ++ ws) := by
  intro fo
  induction fo with
  | nil => intro vs h; cases vs with
    | nil => exact hw
    | cons v vs => exact absurd h (by simp [RowV])
  | cons f kids next _ ih => intro vs h; cases vs with
    | nil => exact absurd h (by simp [RowV])
    | cons v vs => exact ⟨h.1, ih vs h.2⟩
theorem ncells_app (vs ws : List Value) : ncells (vs ++ ws) = ncells vs ++ ncells ws := by unfold ncells; rw [List.flatMap_append]
theorem rowV_of {w : World} {P : Nat → Prop} {g : Nat} : ∀ (fo : Fo) (o : Nat), RowAt w P fo g o → ∃ vs, RowV w P fo vs ∧ (ncells vs).length = fo.len * 10 ∧ ∀ (j : Nat) (u : Value), (ncells vs)[j]? = some u → w.cell? ⟨g, o + j, none⟩ = some u := by
  intro fo
  induction fo with
  | nil => intro o _; exact ⟨[], trivial, rfl, fun j u h => by simp [ncells] at h⟩
  | cons f kids next _ ih =>
    intro o h
    obtain ⟨⟨hp, f0, f1, f2, f3, f4, f5, f6, f7, f8⟩, ⟨A, c, f9, hk⟩, hn⟩ := h
    obtain ⟨vs, h1, h2, h3⟩ := ih (o + 10) hn
    refine ⟨nodeV f A kids.len c :: vs, ⟨⟨A, c, rfl, hk⟩, h1⟩, by rw [ncells_cons, List.length_append, h2]; simp [nodeV, Value.cells, Fo.len]; omega, fun j u hj => ?_⟩
    rw [ncells_cons] at hj
    by_cases hlt : j < 10
    · rw [List.getElem?_append_left (by simpa [nodeV, Value.cells] using hlt)] at hj
      have h10 : j = 0 ∨ j = 1 ∨ j = 2 ∨ j = 3 ∨ j = 4 ∨ j = 5 ∨ j = 6 ∨ j = 7 ∨ j = 8 ∨ j = 9 := by omega
      rcases h10 with rfl | rfl | rfl | rfl | rfl | rfl | rfl | rfl | rfl | rfl <;> (simp [nodeV, Value.cells] at hj; subst hj; assumption)
    · rw [List.getElem?_append_right (by simp [nodeV, Value.cells]; omega)] at hj
      have := h3 (j - 10) u (by simpa [nodeV, Value.cells] using hj)
      rwa [show o + 10 + (j - 10) = o + j from by omega] at this
def QS (w : World) (B : Nat) (v : Value) (fo : Fo) : Prop := ∃ vs, w.ownsRow B 31 10 v fo.len (ncells vs) ∧ RowV w (fun g => g < B) fo vs
theorem QS.form {w : World} {B : Nat} {v : Value} {fo : Fo} (h : QS w B v fo) : ∃ A c, v = .slice A fo.len c := by
  obtain ⟨vs, ⟨-, ⟨rfl, h⟩ | ⟨g, cap, cur, rfl, -⟩⟩, -⟩ := h
  · exact ⟨none, 0, by rw [h]⟩
  · exact ⟨_, _, rfl⟩
theorem QS.lt {w : World} {B : Nat} {v : Value} {fo : Fo} (h : QS w B v fo) : ∀ k, v.ownBlock = some k → B ≤ k ∧ k < w.heap.size := by
  obtain ⟨vs, h, -⟩ := h
  exact World.ownsRow.lt h
theorem QS.below {w w' : World} {B : Nat} {v : Value} {fo : Fo} (h : QS w B v fo) (hk : Below w.heap.size w w') : QS w' B v fo := by
  obtain ⟨vs, ⟨h1, h2⟩, h3⟩ := h
  refine ⟨vs, ⟨h1, ?_⟩, RowV.keep (Kept.of (x := w.heap.size) hk) (fun g hg hl => ⟨by omega, hg⟩) _ _ h3⟩
  rcases h2 with h2 | ⟨g, cap, cur, e, hb, hg, h⟩
  · exact Or.inl h2
  · exact Or.inr ⟨g, cap, cur, e, hb, (hk.block g (Array.getElem?_eq_some_iff.1 hg).1).trans hg, h⟩
theorem QS.nth {w : World} {B : Nat} {v : Value} {fo : Fo} (h : QS w B v fo) (i : Nat) (hi : i < fo.len) : ∃ g c A2 c2, v = .slice (some ⟨g, 0, none⟩) fo.len c ∧ B ≤ g ∧ g < w.heap.size ∧ KidsAt w (fun g => g < B) (fo.nth i).kids A2 ∧
    w.cell? ⟨g, i * 10, none⟩ = some (.int .i64 (fo.nth i).f.k) ∧ w.cell? ⟨g, i * 10 + 1, none⟩ = some (.int .i64 (fo.nth i).f.vk) ∧ w.cell? ⟨g, i * 10 + 2, none⟩ = some (.int .i64 (fo.nth i).f.vn) ∧ w.cell? ⟨g, i * 10 + 3, none⟩ = some (.string (fo.nth i).f.vs) ∧ w.cell? ⟨g, i * 10 + 4, none⟩ = some (.int .i64 (fo.nth i).f.r1) ∧ w.cell? ⟨g, i * 10 + 5, none⟩ = some (.int .i64 (fo.nth i).f.r2) ∧ w.cell? ⟨g, i * 10 + 6, none⟩ = some (.int .i64 (fo.nth i).f.r3) ∧ w.cell? ⟨g, i * 10 + 7, none⟩ = some (.int .i64 (fo.nth i).f.r4) ∧ w.cell? ⟨g, i * 10 + 8, none⟩ = some (.string (fo.nth i).f.op) ∧ w.cell? ⟨g, i * 10 + 9, none⟩ = some (.slice A2 (fo.nth i).kids.len c2) := by
  obtain ⟨vs, hown, hr⟩ := h
  obtain ⟨g, cap, cur, rfl, hb, hg, -⟩ : ∃ g cap cur, v = .slice (some ⟨g, 0, none⟩) fo.len cap ∧ B ≤ g ∧ w.heap[g]? = some (.cells cur 31 (0, 0)) ∧ True := by
    rcases hown.2 with ⟨-, h0⟩ | ⟨g, cap, cur, e, hb, hg, -⟩
    · omega
    · exact ⟨g, cap, cur, e, hb, hg, trivial⟩
  obtain ⟨A2, c2, hk, hc⟩ := RowV.nth fo vs i hr hi
  have hcell : ∀ (j : Nat) (u : Value), (nodeV (fo.nth i).f A2 (fo.nth i).kids.len c2).cells[j]? = some u → w.cell? ⟨g, i * 10 + j, none⟩ = some u := fun j u hj => by
    have := World.ownsRow.cells hown (g := g) rfl _ _ (hc j u hj)
    rwa [addr_add0] at this
  exact ⟨g, cap, A2, c2, rfl, hb, (Array.getElem?_eq_some_iff.1 hg).1, hk, hcell 0 _ rfl, hcell 1 _ rfl, hcell 2 _ rfl, hcell 3 _ rfl, hcell 4 _ rfl, hcell 5 _ rfl, hcell 6 _ rfl, hcell 7 _ rfl, hcell 8 _ rfl, hcell 9 _ rfl⟩
theorem QS.one {w : World} {B g m c : Nat} {f : Fld} {A : Option Addr} {kd : Fo} (hb : w.heap[g]? = some (.cells #[.int .i64 f.k, .int .i64 f.vk, .int .i64 f.vn, .string f.vs, .int .i64 f.r1, .int .i64 f.r2, .int .i64 f.r3, .int .i64 f.r4, .string f.op, .slice A m c] 31 (0, 0))) (hB : B ≤ g) (hm : kd.len = m) (hk : KidsAt w (fun g => g < B) kd A) : QS w B (.slice (some ⟨g, 0, none⟩) 1 1) (Nd.one ⟨f, kd⟩) := by
  subst hm
  exact ⟨[nodeV f A kd.len c], ⟨rfl, Or.inr ⟨g, 1, _, rfl, hB, hb, Nat.le_refl _, by decide, rfl, rfl⟩⟩, ⟨A, c, rfl, hk⟩, trivial⟩
theorem QS.more {w w' : World} {B : Nat} {v v' : Value} {fo kd : Fo} {vs ws : List Value} (hv : RowV w (fun g => g < B) fo vs) (hw : RowV w (fun g => g < B) kd ws) (ho : w'.ownsRow B 31 10 v' (fo.len + kd.len) (ncells vs ++ ncells ws)) (hg : w.grownBy w' v.ownBlock) (hlt : ∀ k, v.ownBlock = some k → B ≤ k ∧ k < w.heap.size) : QS w' B v' (fo.app kd) := by
  refine ⟨vs ++ ws, by rw [ncells_app, Fo.len_app]; exact ho, RowV.same (fun g hg2 hl => ⟨hg.block g hl (fun e => by have := (hlt g e.symm).1; omega), hg2⟩) _ _ (RowV.app hw fo vs hv)⟩
theorem below_grown {w wr w' : World} {B : Nat} {row : Option Nat} (h : Below B w wr) (hB : B ≤ wr.heap.size) (hg : wr.grownBy w' row) (hr : ∀ k, row = some k → B ≤ k) : Below B w w' :=
  ⟨hg.os.trans h.os, hg.tape.trans h.tape, hg.output.trans h.output, Nat.le_trans h.size hg.size, fun k hk => (hg.block k (by omega) (fun e => by have := hr k e.symm; omega)).trans (h.block k hk)⟩
theorem kids_below {w wr : World} {B : Nat} {kd : Fo} {A : Option Addr} (h : KidsAt w (fun g => g < B) kd A) (hb : Below B w wr) (hB : B ≤ w.heap.size) : KidsAt wr (fun g => g < B) kd A := by
  rcases h with h | ⟨g, o, e, hr⟩
  · exact Or.inl h
  · exact Or.inr ⟨g, o, e, RowAt.same (fun g hg hl => ⟨hb.block g hg, hg⟩) _ _ _ hr⟩
theorem kids_row {w : World} {P : Nat → Prop} {kd : Fo} {A : Option Addr} (h : KidsAt w P kd A) {i : Nat} (hi : i < kd.len) : ∃ g o, A = some ⟨g, o, none⟩ ∧ RowAt w P kd g o := by
  rcases h with h | h
  · rw [h] at hi; exact absurd hi (by simp [Fo.len])
  · exact h
def NMode (q : Fo) (k s M : Nat) : Prop := k ≤ q.len ∧ q.len ≤ M + 2 ∧ q.len ≤ s ∧ (k + (q.drop k).size = s ∨ M + 2 ≤ q.len)
def NIn (q kd : Fo) (b : Nd) (k i s M : Nat) : Prop := k < q.len ∧ q.len ≤ M + 2 ∧ q.len ≤ s ∧ q.nth k = b ∧ b.kids = kd ∧ ((k + 1) + ((q.app (kd.drop i)).drop (k + 1)).size = s ∨ M + 2 ≤ q.len)
theorem NMode.start {q : Fo} {k s M : Nat} (h : NMode q k s M) (hk : k < q.len) : NIn q (q.nth k).kids (q.nth k) k 0 s M := by
  obtain ⟨h1, h2, h3, h4⟩ := h
  refine ⟨hk, h2, h3, rfl, rfl, ?_⟩
  rcases h4 with h4 | h4
  · exact Or.inl (by rw [Fo.drop_zero]; exact Fo.queue_size q k s hk h4)
  · exact Or.inr h4
theorem NIn.step {q kd : Fo} {b : Nd} {k i s M : Nat} (h : NIn q kd b k i s M) (hi : i < kd.len) (hq : q.len ≤ M + 1) : NIn (q.app (kd.nth i).one) kd b k (i + 1) s M := by
  obtain ⟨h1, h2, h3, h4, h5, h6⟩ := h
  have h7 : (k + 1) + ((q.app (kd.drop i)).drop (k + 1)).size = s := by
    rcases h6 with h6 | h6
    · exact h6
    · omega
  have hl : (kd.drop i).len = kd.len - i := Fo.len_drop kd i
  have hl2 := Fo.len_size ((q.app (kd.drop i)).drop (k + 1))
  rw [Fo.len_drop, Fo.len_app, hl] at hl2
  refine ⟨by rw [Fo.len_app]; omega, by rw [Fo.len_app, Nd.one_len]; omega, by rw [Fo.len_app, Nd.one_len]; omega, by rw [Fo.nth_app _ _ _ h1]; exact h4, h5, Or.inl ?_⟩
  rw [Fo.app_assoc]
  have e : (kd.nth i).one.app (kd.drop (i + 1)) = kd.drop i := by rw [Fo.drop_nth kd i hi]; rfl
  rw [e]; exact h7
theorem NIn.done {q kd : Fo} {b : Nd} {k i s M : Nat} (h : NIn q kd b k i s M) (hi : kd.len ≤ i ∨ M + 2 ≤ q.len) : NMode q (k + 1) s M := by
  obtain ⟨h1, h2, h3, h4, h5, h6⟩ := h
  refine ⟨h1, h2, h3, ?_⟩
  rcases hi with hi | hi
  · rcases h6 with h6 | h6
    · rw [Fo.drop_len kd i hi, Fo.app_nil] at h6; exact Or.inl h6
    · exact Or.inr h6
  · exact Or.inr hi
def NPost (s M : Nat) (w : World) (e : Ending) (w' : World) : Prop := ∃ r : Nat, e = .returned (.int .i64 r) ∧ Below w.heap.size w w' ∧ (s ≤ M → r = s) ∧ (M < s → M < r) ∧ r ≤ M + 1
theorem NMode.end1 {q : Fo} {k s M : Nat} (h : NMode q k s M) (hk : q.len ≤ k) (h1 : k ≤ M + 1) : (s ≤ M → k = s) ∧ (M < s → M < k) ∧ k ≤ M + 1 := by
  obtain ⟨h2, h3, h4, h5⟩ := h
  have : k = s := by
    rcases h5 with h5 | h5
    · rw [Fo.drop_len q k hk] at h5; simpa [Fo.size] using h5
    · omega
  omega
theorem NMode.end2 {q : Fo} {k s M : Nat} (h : NMode q k s M) (hk : M < k) (h1 : k ≤ M + 1) : (s ≤ M → k = s) ∧ (M < s → M < k) ∧ k ≤ M + 1 := by
  obtain ⟨h2, h3, h4, h5⟩ := h
  omega
set_option maxRecDepth 100000 in
set_option maxHeartbeats 2000000 in
theorem knodes (M : Nat) (m : Int) (hm : m = (M : Int)) (hM : M ≤ 100000) (a : Nd) (A : Option Addr) (c : Nat) (w : World) (hK : KidsAt w (fun g => g < w.heap.size) a.kids A) :
    Calls Tryz.prog 23 #[.agg #[.int .i64 a.f.k, .int .i64 a.f.vk, .int .i64 a.f.vn, .string a.f.vs, .int .i64 a.f.r1, .int .i64 a.f.r2, .int .i64 a.f.r3, .int .i64 a.f.r4, .string a.f.op, .slice A a.kids.len c], .int .i64 m] w (NPost a.size M w) := by
  subst hm
  have b1 : Below w.heap.size w (w.alloc (.cells #[.int .i64 a.f.k, .int .i64 a.f.vk, .int .i64 a.f.vn, .string a.f.vs, .int .i64 a.f.r1, .int .i64 a.f.r2, .int .i64 a.f.r3, .int .i64 a.f.r4, .string a.f.op, .slice A a.kids.len c] 31)) := (Below.refl _ _).alloc (Nat.le_refl _) _
  have b2 : Below w.heap.size w ((w.alloc (.cells #[.int .i64 a.f.k, .int .i64 a.f.vk, .int .i64 a.f.vn, .string a.f.vs, .int .i64 a.f.r1, .int .i64 a.f.r2, .int .i64 a.f.r3, .int .i64 a.f.r4, .string a.f.op, .slice A a.kids.len c] 31)).alloc (.cells #[.int .i64 a.f.k, .int .i64 a.f.vk, .int .i64 a.f.vn, .string a.f.vs, .int .i64 a.f.r1, .int .i64 a.f.r2, .int .i64 a.f.r3, .int .i64 a.f.r4, .string a.f.op, .slice A a.kids.len c] 31)) := b1.alloc b1.size _
  have hq : QS ((w.alloc (.cells #[.int .i64 a.f.k, .int .i64 a.f.vk, .int .i64 a.f.vn, .string a.f.vs, .int .i64 a.f.r1, .int .i64 a.f.r2, .int .i64 a.f.r3, .int .i64 a.f.r4, .string a.f.op, .slice A a.kids.len c] 31)).alloc (.cells #[.int .i64 a.f.k, .int .i64 a.f.vk, .int .i64 a.f.vn, .string a.f.vs, .int .i64 a.f.r1, .int .i64 a.f.r2, .int .i64 a.f.r3, .int .i64 a.f.r4, .string a.f.op, .slice A a.kids.len c] 31)) w.heap.size (.slice (some ⟨w.heap.size + 1, 0, none⟩) 1 1) a.one :=
    QS.one (f := a.f) (kd := a.kids) (c := c) (row_at2 _ _ _ rfl) (by omega) rfl (kids_below hK b2 (Nat.le_refl _))
  have hm0 : NMode a.one 0 a.size M := by
    have e : 0 + (a.one.drop 0).size = a.size := by rw [Nat.zero_add, Fo.drop_zero, Nd.one_size]
    have e1 : 1 ≤ a.size := by unfold Nd.size; omega
    exact ⟨Nat.zero_le _, by rw [Nd.one_len]; omega, by rw [Nd.one_len]; exact e1, Or.inl e⟩
  have HS := Lib.hid (show QS ((w.alloc (.cells #[.int .i64 a.f.k, .int .i64 a.f.vk, .int .i64 a.f.vn, .string a.f.vs, .int .i64 a.f.r1, .int .i64 a.f.r2, .int .i64 a.f.r3, .int .i64 a.f.r4, .string a.f.op, .slice A a.kids.len c] 31)).alloc (.cells #[.int .i64 a.f.k, .int .i64 a.f.vk, .int .i64 a.f.vn, .string a.f.vs, .int .i64 a.f.r1, .int .i64 a.f.r2, .int .i64 a.f.r3, .int .i64 a.f.r4, .string a.f.op, .slice A a.kids.len c] 31)) w.heap.size (.slice (some ⟨w.heap.size + 1, 0, none⟩) 1 1) a.one ∧ Below w.heap.size w ((w.alloc (.cells #[.int .i64 a.f.k, .int .i64 a.f.vk, .int .i64 a.f.vn, .string a.f.vs, .int .i64 a.f.r1, .int .i64 a.f.r2, .int .i64 a.f.r3, .int .i64 a.f.r4, .string a.f.op, .slice A a.kids.len c] 31)).alloc (.cells #[.int .i64 a.f.k, .int .i64 a.f.vk, .int .i64 a.f.vn, .string a.f.vs, .int .i64 a.f.r1, .int .i64 a.f.r2, .int .i64 a.f.r3, .int .i64 a.f.r4, .string a.f.op, .slice A a.kids.len c] 31)) ∧ NMode a.one 0 a.size M from ⟨hq, b2, hm0⟩)
  generalize hs : a.size = s at *
  obtain ⟨i0, hi0, hz0, hz1, hz2⟩ := info_parts node_info
  have HZ0 := Lib.hid hz0; have HZ1 := Lib.hid hz1; have HZ2 := Lib.hid hz2; have HI0 := Lib.hid hi0
  clear hz0 hz1 hz2 hi0 b1 b2 hq hm0 hs hK
  have hM0 : (0 : Int) ≤ (M : Int) := Int.natCast_nonneg _
  go_enter Tryz.func23, Tryz.ntmps23
  go_wp2_with fail
  go_loopw [5, 6] (fun v iv wr => ∃ k : Nat, k ≤ M + 1 ∧ iv = .int .i64 k ∧ Hid (∃ q, QS wr w.heap.size v q ∧ Below w.heap.size w wr ∧ NMode q k s M)) (fun _ iv _ => M + 1 - (intOf iv).toNat)
  case atStart => exact ⟨0, Nat.zero_le _, rfl, Lib.hid ⟨_, HS.out.1, HS.out.2.1, HS.out.2.2⟩⟩
  case round =>
    obtain ⟨k, hk, rfl, HR⟩ := hrel
    obtain ⟨q, hQ, hB, hN⟩ := HR.out
    have hql : q.len ≤ 200000 := by have := hN.2.1; omega
    by_cases hlt : k < q.len
    · by_cases hkm : k ≤ M
      · obtain ⟨g, c9, A2, c2, rfl, hg0, hg1, hkid, f0, f1, f2, f3, f4, f5, f6, f7, f8, f9⟩ := hQ.nth k hlt
        have HIN := Lib.hid (hN.start hlt)
        have HQ := Lib.hid (show QS wr w.heap.size _ q ∧ Below w.heap.size w wr from ⟨hQ, hB⟩)
        clear HR HS hQ hB hN hkid f0 f1 f2 f3 f4 f5 f6 f7 f8 f9 hg0 hg1
        go_wp2_with fail
        go_loopw [5, 7] (fun v iv W9 => ∃ i : Nat, iv = .int .i64 i ∧ Hid (∃ q' : Fo, i ≤ q'.len ∧ QS W9 w.heap.size v q' ∧ Below w.heap.size w W9 ∧ NIn q' (q.nth k).kids (q.nth k) k i s M)) (fun v iv _ => (q.nth k).kids.len - (intOf iv).toNat)
        case atStart => exact ⟨0, rfl, Lib.hid ⟨q, Nat.zero_le _, HQ.out.1, HQ.out.2, HIN.out⟩⟩
        case round =>
          obtain ⟨i, rfl, HR⟩ := hrel
          obtain ⟨q', hi, hQ, hB, hN⟩ := HR.out
          clear HR HQ HIN
          have hlt' := hN.1
          have hql' : q'.len ≤ 200000 := by have := hN.2.1; omega
          obtain ⟨g', c9', A2', c2', rfl, hg0, hg1, hkid, f0, f1, f2, f3, f4, f5, f6, f7, f8, f9⟩ := hQ.nth k hlt'
          rw [hN.2.2.2.1] at hkid f9
          generalize q.nth k = b at *
          generalize hkd : b.kids = kd at *
          clear f0 f1 f2 f3 f4 f5 f6 f7 f8
          have HN := Lib.hid hN
          have HKD := Lib.hid hkd
          clear hN hkd
          by_cases hik : i < kd.len
          · by_cases hql2 : q'.len ≤ M + 1
            · obtain ⟨gA, oA, rfl, hrow⟩ := kids_row hkid hik
              obtain ⟨A3, c3, hk3, hp3, h0, h1, h2, h3, h4, h5, h6, h7, h8, h9⟩ := RowAt.nth kd gA oA i hrow hik
              have hsz : w.heap.size ≤ wr.heap.size := hB.size
              have bI : Below wr.heap.size wr (wr.alloc (.cells #[.int .i64 (kd.nth i).f.k, .int .i64 (kd.nth i).f.vk, .int .i64 (kd.nth i).f.vn, .string (kd.nth i).f.vs, .int .i64 (kd.nth i).f.r1, .int .i64 (kd.nth i).f.r2, .int .i64 (kd.nth i).f.r3, .int .i64 (kd.nth i).f.r4, .string (kd.nth i).f.op, .slice A3 (kd.nth i).kids.len c3] 31)) := (Below.refl _ _).alloc (Nat.le_refl _) _
              have hB2 := hB.trans (bI.mono hB.size)
              have hk4 : KidsAt (wr.alloc (.cells #[.int .i64 (kd.nth i).f.k, .int .i64 (kd.nth i).f.vk, .int .i64 (kd.nth i).f.vn, .string (kd.nth i).f.vs, .int .i64 (kd.nth i).f.r1, .int .i64 (kd.nth i).f.r2, .int .i64 (kd.nth i).f.r3, .int .i64 (kd.nth i).f.r4, .string (kd.nth i).f.op, .slice A3 (kd.nth i).kids.len c3] 31)) (fun g => g < w.heap.size) (kd.nth i).kids A3 := kids_below hk3 (bI.mono hB.size) hB.size
              have hlo := hQ.lt
              obtain ⟨vs, hown, hvs⟩ := hQ.below bI
              have hnb := heap_alloc_new wr (.cells #[.int .i64 (kd.nth i).f.k, .int .i64 (kd.nth i).f.vk, .int .i64 (kd.nth i).f.vn, .string (kd.nth i).f.vs, .int .i64 (kd.nth i).f.r1, .int .i64 (kd.nth i).f.r2, .int .i64 (kd.nth i).f.r3, .int .i64 (kd.nth i).f.r4, .string (kd.nth i).f.op, .slice A3 (kd.nth i).kids.len c3] 31)
              have HH := Lib.hid hown
              have HNB := Lib.hid hnb
              have HREST := Lib.hid (show RowV (wr.alloc (.cells #[.int .i64 (kd.nth i).f.k, .int .i64 (kd.nth i).f.vk, .int .i64 (kd.nth i).f.vn, .string (kd.nth i).f.vs, .int .i64 (kd.nth i).f.r1, .int .i64 (kd.nth i).f.r2, .int .i64 (kd.nth i).f.r3, .int .i64 (kd.nth i).f.r4, .string (kd.nth i).f.op, .slice A3 (kd.nth i).kids.len c3] 31)) (fun g => g < w.heap.size) q' vs ∧ KidsAt (wr.alloc (.cells #[.int .i64 (kd.nth i).f.k, .int .i64 (kd.nth i).f.vk, .int .i64 (kd.nth i).f.vn, .string (kd.nth i).f.vs, .int .i64 (kd.nth i).f.r1, .int .i64 (kd.nth i).f.r2, .int .i64 (kd.nth i).f.r3, .int .i64 (kd.nth i).f.r4, .string (kd.nth i).f.op, .slice A3 (kd.nth i).kids.len c3] 31)) (fun g => g < w.heap.size) (kd.nth i).kids A3 ∧ Below w.heap.size w (wr.alloc (.cells #[.int .i64 (kd.nth i).f.k, .int .i64 (kd.nth i).f.vk, .int .i64 (kd.nth i).f.vn, .string (kd.nth i).f.vs, .int .i64 (kd.nth i).f.r1, .int .i64 (kd.nth i).f.r2, .int .i64 (kd.nth i).f.r3, .int .i64 (kd.nth i).f.r4, .string (kd.nth i).f.op, .slice A3 (kd.nth i).kids.len c3] 31)) from ⟨hvs, hk4, hB2⟩)
              have s8 : w.heap.size ≤ (wr.alloc (.cells #[.int .i64 (kd.nth i).f.k, .int .i64 (kd.nth i).f.vk, .int .i64 (kd.nth i).f.vn, .string (kd.nth i).f.vs, .int .i64 (kd.nth i).f.r1, .int .i64 (kd.nth i).f.r2, .int .i64 (kd.nth i).f.r3, .int .i64 (kd.nth i).f.r4, .string (kd.nth i).f.op, .slice A3 (kd.nth i).kids.len c3] 31)).heap.size := hB2.size
              have HST := Lib.hid (HN.out.step hik hql2)
              clear hQ hB hkid hrow hk3 bI hB2 hk4 hown hvs hnb
              go_wp2_with (at_builtin
                           refine wpList_append_own_at _ rfl (.tmp 36) (.tmp 45) _ rfl w.heap.size 31 i0 _ 10 112 Tryz.underlying29 HI0.out HZ0.out HZ1.out HZ2.out rfl (by omega) (.slice (some ⟨g', 0, none⟩) q'.len c9') q'.len (ncells vs) rfl HH.out ⟨wr.heap.size, 0, none⟩ 1 1 [.int .i64 (kd.nth i).f.k, .int .i64 (kd.nth i).f.vk, .int .i64 (kd.nth i).f.vn, .string (kd.nth i).f.vs, .int .i64 (kd.nth i).f.r1, .int .i64 (kd.nth i).f.r2, .int .i64 (kd.nth i).f.r3, .int .i64 (kd.nth i).f.r4, .string (kd.nth i).f.op, .slice A3 (kd.nth i).kids.len c3] rfl rfl (World.news_of_block HNB.out) (by simp [Value.oneCell']) (by unfold maxLen; omega) (by omega) s8 ?_
                           intro v9 w9 hown9 hg9 hnil9 hat9
                           have Q9 : QS w9 w.heap.size v9 (q'.app (kd.nth i).one) := QS.more (kd := (kd.nth i).one) (ws := [nodeV (kd.nth i).f A3 (kd.nth i).kids.len c3]) HREST.out.1 ⟨⟨A3, c3, rfl, HREST.out.2.1⟩, trivial⟩ hown9 hg9 (fun x hx => by have := hlo x hx; exact ⟨this.1, Nat.lt_of_lt_of_le this.2 (by simp)⟩)
                           have B9 : Below w.heap.size w w9 := below_grown HREST.out.2.2 s8 hg9 (fun x hx => (hlo x hx).1)
                           clear hown9 hg9 hnil9 hat9)
              go_roundw
              case rel => exact ⟨i + 1, by go_num, Lib.hid ⟨_, by rw [Fo.len_app, Nd.one_len]; omega, Q9, B9, HST.out⟩⟩
              case measure => simp [intOf]; omega
            · have hov : M + 2 ≤ q'.len := by omega
              have HD := Lib.hid (HN.out.done (Or.inr hov))
              clear hkid
              go_wp2_with fail
              go_roundw
              case rel => exact ⟨k + 1, by omega, by go_num, Lib.hid ⟨q', hQ, hB, HD.out⟩⟩
              case measure => simp [intOf]; omega
          · have HD := Lib.hid (HN.out.done (Or.inl (by omega)))
            clear hkid
            go_wp2_with fail
            go_roundw
            case rel => exact ⟨k + 1, by omega, by go_num, Lib.hid ⟨q', hQ, hB, HD.out⟩⟩
            case measure => simp [intOf]; omega
      · obtain ⟨A, c, rfl⟩ := hQ.form
        have HE := Lib.hid (hN.end2 (by omega) hk)
        have hB9 := hB
        clear hQ HR HS hN
        go_wp2_with fail
        go_ret
        exact ⟨k, rfl, hB9, HE.out⟩
    · obtain ⟨A, c, rfl⟩ := hQ.form
      have HE := Lib.hid (hN.end1 (by omega) hk)
      have hB9 := hB
      clear hQ HR HS hN
      go_wp2_with fail
      go_ret
      exact ⟨k, rfl, hB9, HE.out⟩
end Go.Proofs.YticehalcnbjccaaGreatDoor.TreeC
namespace Go.Proofs.YticehalcnbjccaaGreatDoor.TreeC
set_option linter.unusedVariables false
open Go.RowKit Go.Proofs.YticehalcnbjccaaGreatDoor.NumC Go.Proofs.YticehalcnbjccaaGreatDoor.LexC
theorem ncells_one {w : World} {P : Nat → Prop} : ∀ (fo : Fo) (vs : List Value), RowV w P fo vs → ∀ u ∈ ncells vs, u.oneCell' = true := by
  intro fo
  induction fo with
  | nil => intro vs h; cases vs with
    | nil => intro u hu; simp [ncells] at hu
    | cons v vs => exact absurd h (by simp [RowV])
  | cons f kids next _ ih => intro vs h; cases vs with
    | nil => exact absurd h (by simp [RowV])
    | cons v vs =>
      obtain ⟨⟨A, c, rfl, -⟩, hr⟩ := h
      intro u hu
      rw [ncells_cons, List.mem_append] at hu
      rcases hu with hu | hu
      · simp [nodeV, Value.cells] at hu
        rcases hu with rfl | rfl | rfl | rfl | rfl | rfl | rfl | rfl | rfl | rfl <;> rfl
      · exact ih vs hr u hu
theorem run_append_none0 {w : World} (base : Nat) (t ty e : TypeId) (i : TypeInfo) (size c : Nat) (ht : Tryz.prog.underlying t = some (.slice e)) (hi : Tryz.prog.info? e = some i)
    (v : Value) (n : Nat) (xs : List Value) (hown : w.ownsRow base e size v n xs) : (Builtin.append_ #[t, t] ty #[v, .slice none 0 c]).run Tryz.prog w = .ok v w := by
  rcases hown.2 with ⟨rfl, rfl⟩ | ⟨g, cap, cur, rfl, _, _, hnc, _⟩
  · simp [Builtin.append_, run_underlying ht, sizeOf, typeInfo, hi, Builtin.lenOf, Builtin.firstCells]
  · simp [Builtin.append_, run_underlying ht, sizeOf, typeInfo, hi, Builtin.lenOf, Builtin.firstCells, hnc, storeCells]
theorem run_queue (ty : TypeId) {w : World} {B c : Nat} {v : Value} {fo kd : Fo} {A : Option Addr} (h : QS w B v fo) (hk : KidsAt w (fun g => g < B) kd A) (hl : fo.len + kd.len ≤ 1000000) (hB : B ≤ w.heap.size) :
    ∃ v' w', (Builtin.append_ #[29, 29] ty #[v, .slice A kd.len c]).run Tryz.prog w = .ok v' w' ∧ QS w' B v' (fo.app kd) ∧ w.grownBy w' v.ownBlock ∧ (v'.ownBlock = v.ownBlock ∨ v'.ownBlock = some w.heap.size) := by
  obtain ⟨i0, hi0, hz0, hz1, hz2⟩ := info_parts node_info
  have hlo := h.lt
  obtain ⟨vs, hown, hvs⟩ := h
  have hkey : ∃ ws, RowV w (fun g => g < B) kd ws ∧ (ncells ws).length = kd.len * 10 ∧ (A = none → kd = .nil) ∧ ∀ a, A = some a → ∀ j u, (ncells ws)[j]? = some u → w.cell? (a.add j) = some u := by
    rcases hk with rfl | ⟨g, o, rfl, hr⟩
    · exact ⟨[], trivial, rfl, fun _ => rfl, fun a _ j u hj => by simp [ncells] at hj⟩
    · obtain ⟨ws, h1, h2, h3⟩ := rowV_of kd o hr
      exact ⟨ws, h1, h2, (fun e => by cases e), (fun a e j u hj => by cases e; rw [addr_add]; exact h3 j u hj)⟩
  obtain ⟨ws, hws, hlen, hnone, hcell⟩ := hkey
  cases A with
  | none =>
    obtain rfl := hnone rfl
    refine ⟨v, w, run_append_none0 B 29 ty 31 i0 10 c Tryz.underlying29 hi0 v fo.len (ncells vs) hown, by rw [Fo.app_nil]; exact ⟨vs, hown, hvs⟩, ⟨rfl, rfl, rfl, Nat.le_refl _, fun _ _ _ => rfl⟩, Or.inl rfl⟩
  | some a =>
    obtain ⟨v', w', hr, h1, h2, -, h3⟩ := run_append_own_at (P := Tryz.prog) w B 29 ty 31 i0 _ 10 112 Tryz.underlying29 hi0 hz0 hz1 hz2 rfl (by omega) v fo.len (ncells vs) hown a kd.len c (ncells ws) hlen (hcell a rfl) (ncells_one kd ws hws) (by unfold maxLen; omega) (by omega) hB
    exact ⟨v', w', hr, QS.more hvs hws h1 h2 hlo, h2, h3⟩
theorem step_append_queue {ops : Array Oper} {o : Oper} {a : Act} {K : Act → World → Prop} {Q : Exit → Act → World → Prop} {E : Prop} (w : World) (hgd : o.guard = none) (s x : Operand) (ho : o.op = .call { callee := .builtin .append, args := #[s, x], argTypes := #[29, 29] })
    {B c : Nat} {v : Value} {fo kd : Fo} {A : Option Addr} (hs : a.eval s = v) (hx : a.eval x = .slice A kd.len c) (hq : QS w B v fo) (hk : KidsAt w (fun g => g < B) kd A) (hl : fo.len + kd.len ≤ 1000000) (hB : B ≤ w.heap.size)
    (h : ∀ v' w', QS w' B v' (fo.app kd) → w.grownBy w' v.ownBlock → (v'.ownBlock = v.ownBlock ∨ v'.ownBlock = some w.heap.size) → K (a.put o.dst v') w') :
    if Region.wanted o (yielded ops a.tmps) = true then Oper.wp Tryz.prog o a w K Q else E := by
  have hw : Region.wanted o (yielded ops a.tmps) = true := by simp [Region.wanted, hgd]
  rw [if_pos hw]
  obtain ⟨v', w', hr, h2, h3, h4⟩ := run_queue o.type (c := c) hq hk hl hB
  unfold Oper.wp execOp
  simp only [ho, resolve, invoke, builtin, Sem.run_bind, Sem.run_pure, Result.andThen_ok, List.map_toArray, List.map_cons, List.map_nil, hs, hx, hr]
  exact h v' w' h2 h3 h4
theorem QS.grown {w w' : World} {B : Nat} {v : Value} {fo : Fo} {row : Option Nat} (h : QS w B v fo) (hg : w.grownBy w' row) (hr : ∀ k, row = some k → B ≤ k) (hne : v.ownBlock = none ∨ v.ownBlock ≠ row) (hB : B ≤ w.heap.size) : QS w' B v fo := by
  obtain ⟨vs, hown, hvs⟩ := h
  exact ⟨vs, hown.kept hg hne, RowV.same (fun g hg2 hl => ⟨hg.block g hl (fun e => by have := hr g e.symm; omega), hg2⟩) _ _ hvs⟩
end Go.Proofs.YticehalcnbjccaaGreatDoor.TreeC
