/-
  Contracts of tree's code: how deep a tree is.
-/
import Derived.Test.YticehalcnbjccaaGreatDoorKTreeP0
import Derived.Test.YticehalcnbjccaaGreatDoorKTreeP4
namespace Go.Proofs.YticehalcnbjccaaGreatDoor.TreeC
set_option linter.unusedVariables false
open Go.RowKit Go.Proofs.YticehalcnbjccaaGreatDoor.NumC Go.Proofs.YticehalcnbjccaaGreatDoor.LexC
def Fo.nth : Fo → Nat → Nd
  | .nil, _ => zeroN
  | .cons f k _, 0 => ⟨f, k⟩
  | .cons _ _ n, i + 1 => n.nth i
def Fo.drop : Fo → Nat → Fo
  | x, 0 => x
  | .nil, _ + 1 => .nil
  | .cons _ _ n, i + 1 => n.drop i
theorem Fo.drop_nth : ∀ (x : Fo) (i : Nat), i < x.len → x.drop i = .cons (x.nth i).f (x.nth i).kids (x.drop (i + 1))
  | .nil, i, h => by simp [Fo.len] at h
  | .cons f k n, 0, h => by simp [Fo.drop, Fo.nth]
  | .cons f k n, i + 1, h => by
    have := Fo.drop_nth n i (by simpa [Fo.len] using h)
    simpa [Fo.drop, Fo.nth] using this
theorem Fo.drop_len : ∀ (x : Fo) (i : Nat), x.len ≤ i → x.drop i = .nil
  | .nil, 0, _ => rfl
  | .nil, i + 1, _ => rfl
  | .cons f k n, 0, h => by simp [Fo.len] at h
  | .cons f k n, i + 1, h => by simpa [Fo.drop] using Fo.drop_len n i (by simpa [Fo.len] using h)
theorem Fo.nth_size : ∀ (x : Fo) (i : Nat), i < x.len → (x.nth i).size ≤ x.size
  | .nil, i, h => by simp [Fo.len] at h
  | .cons f k n, 0, h => by simp [Fo.nth, Nd.size, Fo.size]
  | .cons f k n, i + 1, h => by
    have := Fo.nth_size n i (by simpa [Fo.len] using h)
    simp only [Fo.nth, Fo.size]; omega
theorem Fo.len_size : ∀ (x : Fo), x.len ≤ x.size
  | .nil => Nat.le_refl _
  | .cons f k n => by have := Fo.len_size n; simp only [Fo.len, Fo.size]; omega
theorem Fo.deep_size : ∀ (x : Fo), x.deep ≤ x.size
  | .nil => Nat.le_refl _
  | .cons f k n => by have := Fo.deep_size n; have := Fo.deep_size k; simp only [Fo.deep, Fo.size]; omega
theorem below_row {w w' : World} {fo : Fo} {A : Option Addr} (h : KidsAt w (fun g => g < w.heap.size) fo A) (hb : Below w.heap.size w w') : KidsAt w' (fun g => g < w'.heap.size) fo A :=
  h.keep (Kept.of (x := w.heap.size) hb) (fun g hg _ => ⟨by omega, by have := hb.size; omega⟩)
theorem RowAt.nth {w : World} {P : Nat → Prop} : ∀ (x : Fo) (g o i : Nat), RowAt w P x g o → i < x.len → ∃ A c, KidsAt w P (x.nth i).kids A ∧ P g ∧
    w.cell? ⟨g, o + i * 10, none⟩ = some (.int .i64 (x.nth i).f.k) ∧ w.cell? ⟨g, o + i * 10 + 1, none⟩ = some (.int .i64 (x.nth i).f.vk) ∧ w.cell? ⟨g, o + i * 10 + 2, none⟩ = some (.int .i64 (x.nth i).f.vn) ∧ w.cell? ⟨g, o + i * 10 + 3, none⟩ = some (.string (x.nth i).f.vs) ∧
    w.cell? ⟨g, o + i * 10 + 4, none⟩ = some (.int .i64 (x.nth i).f.r1) ∧ w.cell? ⟨g, o + i * 10 + 5, none⟩ = some (.int .i64 (x.nth i).f.r2) ∧ w.cell? ⟨g, o + i * 10 + 6, none⟩ = some (.int .i64 (x.nth i).f.r3) ∧ w.cell? ⟨g, o + i * 10 + 7, none⟩ = some (.int .i64 (x.nth i).f.r4) ∧
    w.cell? ⟨g, o + i * 10 + 8, none⟩ = some (.string (x.nth i).f.op) ∧ w.cell? ⟨g, o + i * 10 + 9, none⟩ = some (.slice A (x.nth i).kids.len c)
  | .nil, g, o, i, _, h => by simp [Fo.len] at h
  | .cons f k n, g, o, 0, hr, h => by
    obtain ⟨⟨hp, f0, f1, f2, f3, f4, f5, f6, f7, f8⟩, ⟨A, c, f9, hk⟩, -⟩ := hr
    exact ⟨A, c, hk, hp, by simpa [Fo.nth] using f0, by simpa [Fo.nth] using f1, by simpa [Fo.nth] using f2, by simpa [Fo.nth] using f3, by simpa [Fo.nth] using f4, by simpa [Fo.nth] using f5, by simpa [Fo.nth] using f6, by simpa [Fo.nth] using f7, by simpa [Fo.nth] using f8, by simpa [Fo.nth] using f9⟩
  | .cons f k n, g, o, i + 1, hr, h => by
    have := RowAt.nth n g (o + 10) i hr.2.2 (by simpa [Fo.len] using h)
    simp only [Fo.nth]
    rwa [show o + 10 + i * 10 = o + (i + 1) * 10 from by omega] at this
def Fo.room : Fo → Int → Int
  | .nil, r => r
  | .cons _ k n, r => if r < 0 then r else n.room (k.room (r - 1))
def Nd.room (a : Nd) (r : Int) : Int := a.kids.room (r - 1)
theorem Fo.room_neg : ∀ (x : Fo) (r : Int), r < 0 → x.room r = r
  | .nil, r, h => rfl
  | .cons f k n, r, h => by simp [Fo.room, h]
theorem Fo.room_ok : ∀ (x : Fo) (r : Int), (x.size : Int) ≤ r → x.room r = r - x.size
  | .nil, r, h => by simp [Fo.room, Fo.size]
  | .cons f k n, r, h => by
    simp only [Fo.size] at h
    rw [Fo.room, if_neg (by omega), Fo.room_ok k (r - 1) (by omega), Fo.room_ok n _ (by omega)]
    simp only [Fo.size]; omega
theorem Fo.room_big : ∀ (x : Fo) (r : Int), 0 ≤ r → r < (x.size : Int) → x.room r = -1
  | .nil, r, h0, h => by simp [Fo.size] at h; omega
  | .cons f k n, r, h0, h => by
    simp only [Fo.size] at h
    rw [Fo.room, if_neg (by omega)]
    by_cases h1 : r - 1 < 0
    · rw [Fo.room_neg k _ h1, Fo.room_neg n _ h1]; omega
    · by_cases hk : (k.size : Int) ≤ r - 1
      · rw [Fo.room_ok k _ hk]
        exact Fo.room_big n _ (by omega) (by omega)
      · rw [Fo.room_big k _ (by omega) (by omega), Fo.room_neg n _ (by omega)]
theorem Nd.room_le (a : Nd) {r : Int} (h : 0 ≤ r) : 0 ≤ a.room r ↔ (a.size : Int) ≤ r := by
  unfold Nd.room Nd.size
  by_cases hk : (a.kids.size : Int) ≤ r - 1
  · rw [Fo.room_ok _ _ hk]; omega
  · by_cases h1 : r - 1 < 0
    · rw [Fo.room_neg _ _ h1]; omega
    · rw [Fo.room_big _ _ (by omega) (by omega)]; omega
theorem Nd.room_lo (a : Nd) {r : Int} (h : 0 ≤ r) : -1 ≤ a.room r ∧ a.room r ≤ r := by
  unfold Nd.room
  by_cases hk : (a.kids.size : Int) ≤ r - 1
  · rw [Fo.room_ok _ _ hk]; omega
  · by_cases h1 : r - 1 < 0
    · rw [Fo.room_neg _ _ h1]; omega
    · rw [Fo.room_big _ _ (by omega) (by omega)]; omega
set_option maxRecDepth 100000 in
set_option maxHeartbeats 1000000 in
theorem croom : ∀ (n : Nat) (a : Nd) (A : Option Addr) (c : Nat) (r : Int) (w : World), a.size ≤ n → a.size ≤ 1000000 → 0 ≤ r → r ≤ 2000 → KidsAt w (fun g => g < w.heap.size) a.kids A →
    Calls Tryz.prog 92 #[.agg #[.int .i64 a.f.k, .int .i64 a.f.vk, .int .i64 a.f.vn, .string a.f.vs, .int .i64 a.f.r1, .int .i64 a.f.r2, .int .i64 a.f.r3, .int .i64 a.f.r4, .string a.f.op, .slice A a.kids.len c], .int .i64 r] w fun e w' => e = .returned (.int .i64 (a.room r)) ∧ Below w.heap.size w w' := by
  intro n
  induction n with
  | zero => intro a A c r w h _; exact absurd h (by unfold Nd.size; omega)
  | succ n ih =>
    intro a A c r w hsz hsm hr0 hr1 hK
    obtain ⟨f, kd⟩ := a
    simp only at hK ⊢
    have HK := Lib.hid hK
    clear hK
    have hlen : kd.len ≤ 1000000 := by have := Fo.len_size kd; have : (Nd.mk f kd).size = 1 + kd.size := rfl; omega
    have hkz : kd.size ≤ n := by have : (Nd.mk f kd).size = 1 + kd.size := rfl; omega
    have hks : kd.size ≤ 1000000 := by have : (Nd.mk f kd).size = 1 + kd.size := rfl; omega
    go_enter Tryz.func92, Tryz.ntmps92
    go_wp2
    go_loopw [1, 5] (fun rv iv wr => ∃ (i : Nat) (q : Int), i ≤ kd.len ∧ rv = .int .i64 q ∧ iv = .int .i64 i ∧ -1 ≤ q ∧ q ≤ 2000 ∧ Below w.heap.size w wr ∧ Hid (wr.cell? ⟨w.heap.size, 9, none⟩ = some (.slice A kd.len c)) ∧ Hid ((kd.drop i).room q = kd.room (r - 1))) (fun _ iv _ => kd.len - (intOf iv).toNat)
    case atStart => exact ⟨0, r - 1, Nat.zero_le _, rfl, rfl, by omega, by omega, (Below.refl _ _).alloc (Nat.le_refl _) _, Lib.hid (by simp), Lib.hid (by cases kd <;> rfl)⟩
    case round =>
      obtain ⟨i, q, hi, rfl, rfl, hq0, hq1, hB, H9, HR⟩ := hrel
      have HKr := below_row HK.out hB
      have h9 := H9.out
      by_cases hlt : i < kd.len
      · have d1 : (i : Int) < (kd.len : Int) := by omega
        by_cases hq : 0 ≤ q
        · obtain ⟨g, o, rfl, hrow⟩ : ∃ g o, A = some ⟨g, o, none⟩ ∧ RowAt wr (fun g => g < wr.heap.size) kd g o := by
            rcases HKr with h | h
            · rw [h] at hlt; exact absurd hlt (by simp [Fo.len])
            · exact h
          obtain ⟨A2, c2, hk2, hp, f0, f1, f2, f3, f4, f5, f6, f7, f8, f9⟩ := RowAt.nth kd g o i hrow hlt
          have hn1 := Fo.nth_size kd i hlt
          have HI := Lib.hid (ih (kd.nth i) A2 c2 q wr (by omega) (by omega) hq hq1 hk2)
          have hlo := Nd.room_lo (kd.nth i) hq
          have HN : Hid ((kd.drop (i + 1)).room ((kd.nth i).room q) = kd.room (r - 1)) := by
            have e := HR.out
            rw [Fo.drop_nth kd i hlt, Fo.room, if_neg (by omega)] at e
            exact Lib.hid e
          clear hrow hk2 HKr ih hn1
          generalize kd.nth i = b at *
          go_wp2_with fail
          refine HI.out.mono ?_; rintro e w2 ⟨rfl, hb2⟩
          go_wp2_with fail
          go_roundw
          case rel => exact ⟨i + 1, b.room q, by omega, rfl, by go_num, by omega, by omega, hB.trans (hb2.mono hB.size), Lib.hid (cell_later hb2 H9.out), HN⟩
          case measure => simp [intOf]; omega
        · have E : Hid (kd.room (r - 1) = q) := Lib.hid (HR.out.symm.trans (Fo.room_neg _ _ (by omega)))
          clear ih HKr
          go_wp2_with fail
          go_ret
          exact ⟨by show Ending.returned (.int .i64 q) = _; rw [← E.out]; rfl, hB⟩
      · have E : Hid (kd.room (r - 1) = q) := Lib.hid (by rw [← HR.out, Fo.drop_len kd i (by omega)]; rfl)
        have d1 : ¬ (i : Int) < (kd.len : Int) := by omega
        clear ih HKr
        go_wp2_with fail
        go_ret
        exact ⟨by show Ending.returned (.int .i64 q) = _; rw [← E.out]; rfl, hB⟩
set_option maxRecDepth 100000 in
set_option maxHeartbeats 1000000 in
theorem csmall (a : Nd) (A : Option Addr) (c : Nat) (w : World) (hsm : a.size ≤ 1000000) (hK : KidsAt w (fun g => g < w.heap.size) a.kids A) :
    Calls Tryz.prog 61 #[.agg #[.int .i64 a.f.k, .int .i64 a.f.vk, .int .i64 a.f.vn, .string a.f.vs, .int .i64 a.f.r1, .int .i64 a.f.r2, .int .i64 a.f.r3, .int .i64 a.f.r4, .string a.f.op, .slice A a.kids.len c]] w fun e w' => e = .returned (.bool (decide (a.size ≤ 2000))) ∧ Below w.heap.size w w' := by
  have HK := Lib.hid hK
  clear hK
  have E : Hid (decide (0 ≤ a.room 2000) = decide (a.size ≤ 2000)) := Lib.hid (by have := Nd.room_le a (r := 2000) (by omega); exact decide_eq_decide.2 (this.trans (by omega)))
  obtain ⟨f, kd⟩ := a
  simp only at *
  go_enter Tryz.func61, Tryz.ntmps61
  go_wp2_with fail
  have hb1 : Below w.heap.size w (w.alloc (.cells #[.int .i64 f.k, .int .i64 f.vk, .int .i64 f.vn, .string f.vs, .int .i64 f.r1, .int .i64 f.r2, .int .i64 f.r3, .int .i64 f.r4, .string f.op, .slice A kd.len c] 31)) := (Below.refl _ _).alloc (Nat.le_refl _) _
  refine (croom (Nd.mk f kd).size ⟨f, kd⟩ A c 2000 _ (Nat.le_refl _) hsm (by omega) (by omega) (below_row HK.out hb1)).mono ?_; rintro e w2 ⟨rfl, hb2⟩
  go_wp2_with fail
  go_ret
  exact ⟨by rw [← E.out]; rfl, hb1.trans (hb2.mono hb1.size)⟩
theorem Fo.deep_drop : ∀ (x : Fo) (i : Nat) (h : i < x.len), (x.drop i).deep = max (x.nth i).deep (x.drop (i + 1)).deep := by
  intro x i h
  rw [Fo.drop_nth x i h]
  simp only [Fo.deep, Nd.deep]
set_option maxRecDepth 100000 in
set_option maxHeartbeats 1000000 in
theorem cdepth : ∀ (n : Nat) (a : Nd) (A : Option Addr) (c : Nat) (w : World), a.size ≤ n → a.size ≤ 1000000 → KidsAt w (fun g => g < w.heap.size) a.kids A →
    Calls Tryz.prog 111 #[.agg #[.int .i64 a.f.k, .int .i64 a.f.vk, .int .i64 a.f.vn, .string a.f.vs, .int .i64 a.f.r1, .int .i64 a.f.r2, .int .i64 a.f.r3, .int .i64 a.f.r4, .string a.f.op, .slice A a.kids.len c]] w fun e w' => e = .returned (.int .i64 (a.deep : Nat)) ∧ Below w.heap.size w w' := by
  intro n
  induction n with
  | zero => intro a A c w h _; exact absurd h (by unfold Nd.size; omega)
  | succ n ih =>
    intro a A c w hsz hsm hK
    obtain ⟨f, kd⟩ := a
    simp only at hK ⊢
    have HK := Lib.hid hK
    clear hK
    have hlen : kd.len ≤ 1000000 := by have := Fo.len_size kd; have : (Nd.mk f kd).size = 1 + kd.size := rfl; omega
    have hkz : kd.size ≤ n := by have : (Nd.mk f kd).size = 1 + kd.size := rfl; omega
    have hks : kd.size ≤ 1000000 := by have : (Nd.mk f kd).size = 1 + kd.size := rfl; omega
    have hdd : kd.deep ≤ 1000000 := Nat.le_trans (Fo.deep_size kd) hks
    go_enter Tryz.func111, Tryz.ntmps111
    go_wp2
    go_loopw [3, 9] (fun dv iv wr => ∃ (i d : Nat), i ≤ kd.len ∧ dv = .int .i64 d ∧ iv = .int .i64 i ∧ Below w.heap.size w wr ∧ Hid (max d (kd.drop i).deep = kd.deep)) (fun _ iv _ => kd.len - (intOf iv).toNat)
    case atStart => exact ⟨0, 0, Nat.zero_le _, rfl, rfl, (Below.refl _ _).alloc (Nat.le_refl _) _, Lib.hid (by cases kd <;> simp [Fo.drop])⟩
    case round =>
      obtain ⟨i, d, hi, rfl, rfl, hB, HR⟩ := hrel
      have HKr := below_row HK.out hB
      by_cases hlt : i < kd.len
      · have d1 : (i : Int) < (kd.len : Int) := by omega
        obtain ⟨g, o, rfl, hrow⟩ : ∃ g o, A = some ⟨g, o, none⟩ ∧ RowAt wr (fun g => g < wr.heap.size) kd g o := by
          rcases HKr with h | h
          · rw [h] at hlt; exact absurd hlt (by simp [Fo.len])
          · exact h
        obtain ⟨A2, c2, hk2, hp, f0, f1, f2, f3, f4, f5, f6, f7, f8, f9⟩ := RowAt.nth kd g o i hrow hlt
        have hn1 := Fo.nth_size kd i hlt
        have hB2 : Below wr.heap.size wr (wr.alloc (.cells #[.int .i64 (kd.nth i).f.k, .int .i64 (kd.nth i).f.vk, .int .i64 (kd.nth i).f.vn, .string (kd.nth i).f.vs, .int .i64 (kd.nth i).f.r1, .int .i64 (kd.nth i).f.r2, .int .i64 (kd.nth i).f.r3, .int .i64 (kd.nth i).f.r4, .string (kd.nth i).f.op, .slice A2 (kd.nth i).kids.len c2] 31)) := (Below.refl _ _).alloc (Nat.le_refl _) _
        have HI := Lib.hid (ih (kd.nth i) A2 c2 _ (by omega) (by omega) (below_row hk2 hB2))
        have HB2 := Lib.hid hB2
        have HN : Hid (max (max d (kd.nth i).deep) (kd.drop (i + 1)).deep = kd.deep) := Lib.hid (by rw [Nat.max_assoc, ← Fo.deep_drop kd i hlt]; exact HR.out)
        have hm1 : max d (kd.nth i).deep ≤ 1000000 := by have := HN.out; omega
        clear hrow hk2 HKr ih hn1 hB2
        generalize kd.nth i = b at *
        go_wp2_with fail
        refine HI.out.mono ?_; rintro e w2 ⟨rfl, hb2⟩
        go_wp2_with fail
        go_roundw
        case rel => exact ⟨i + 1, max d b.deep, by omega, by congr 1; omega, by go_num, hB.trans ((HB2.out.trans (hb2.mono HB2.out.size)).mono hB.size), HN⟩
        case measure => simp [intOf]; omega
      · have E : Hid (kd.deep = d) := Lib.hid (by rw [← HR.out, Fo.drop_len kd i (by omega)]; simp [Fo.deep])
        have d1 : ¬ (i : Int) < (kd.len : Int) := by omega
        have hd : d ≤ 1000000 := by have := E.out; omega
        clear ih HKr
        go_wp2_with fail
        go_ret
        refine ⟨?_, hB⟩
        show Ending.returned (.int .i64 ((d : Int) + 1)) = .returned (.int .i64 (((1 + kd.deep : Nat)) : Int))
        rw [E.out]
        congr 2; omega
set_option maxRecDepth 100000 in
set_option maxHeartbeats 1000000 in
theorem cDepth (a : Nd) (A : Option Addr) (c : Nat) (w : World) (hsm : a.size ≤ 1000000) (hK : KidsAt w (fun g => g < w.heap.size) a.kids A) :
    Calls Tryz.prog 100 #[.agg #[.int .i64 a.f.k, .int .i64 a.f.vk, .int .i64 a.f.vn, .string a.f.vs, .int .i64 a.f.r1, .int .i64 a.f.r2, .int .i64 a.f.r3, .int .i64 a.f.r4, .string a.f.op, .slice A a.kids.len c]] w fun e w' => e = .returned (.int .i64 ((if a.size ≤ 2000 then a.deep else 0 : Nat) : Int)) ∧ Below w.heap.size w w' := by
  have hb1 : Below w.heap.size w (w.alloc (.cells #[.int .i64 a.f.k, .int .i64 a.f.vk, .int .i64 a.f.vn, .string a.f.vs, .int .i64 a.f.r1, .int .i64 a.f.r2, .int .i64 a.f.r3, .int .i64 a.f.r4, .string a.f.op, .slice A a.kids.len c] 31)) := (Below.refl _ _).alloc (Nat.le_refl _) _
  have L1 : NLoc (w.alloc (.cells #[.int .i64 a.f.k, .int .i64 a.f.vk, .int .i64 a.f.vn, .string a.f.vs, .int .i64 a.f.r1, .int .i64 a.f.r2, .int .i64 a.f.r3, .int .i64 a.f.r4, .string a.f.op, .slice A a.kids.len c] 31)) w.heap.size a.f A a.kids.len c := ⟨heap_alloc_new _ _⟩
  have HK := Lib.hid (below_row hK hb1)
  clear hK
  generalize hD : (if a.size ≤ 2000 then a.deep else 0) = D
  have HD := Lib.hid hD.symm
  clear hD
  go_enter Tryz.func100, Tryz.ntmps100
  go_wp2_with fail
  generalize (w.alloc (.cells #[.int .i64 a.f.k, .int .i64 a.f.vk, .int .i64 a.f.vn, .string a.f.vs, .int .i64 a.f.r1, .int .i64 a.f.r2, .int .i64 a.f.r3, .int .i64 a.f.r4, .string a.f.op, .slice A a.kids.len c] 31)) = W1 at *
  refine (csmall a A c W1 hsm HK.out).mono ?_; rintro e w2 ⟨rfl, hb2⟩
  have HK2 := Lib.hid (below_row HK.out hb2)
  have L2 := L1.kept (Kept.of (x := W1.heap.size) hb2) (Nat.ne_of_lt L1.lt)
  have HB := Lib.hid (hb1.trans (hb2.mono hb1.size))
  clear hb1 hb2 HK L1
  by_cases h : a.size ≤ 2000
  · obtain ⟨d0, d1, d2, d3, d4, d5, d6, d7, d8, d9, dz0, dz1, dz2, dz3, dz4, dz5, dz6, dz7, dz8, dz9⟩ := (L2).cells
    have e1 : decide (a.size ≤ 2000) = true := decide_eq_true h
    have e2 : Hid (D = a.deep) := Lib.hid (HD.out.trans (if_pos h))
    go_wp2_with fail
    refine (cdepth a.size a A c w2 (Nat.le_refl _) hsm HK2.out).mono ?_; rintro e w3 ⟨rfl, hb3⟩
    go_wp2_with fail
    go_ret
    exact ⟨by rw [e2.out]; rfl, HB.out.trans (hb3.mono HB.out.size)⟩
  · have e1 : decide (a.size ≤ 2000) = false := decide_eq_false h
    have e2 : Hid (D = 0) := Lib.hid (HD.out.trans (if_neg h))
    go_wp2_with fail
    go_ret
    exact ⟨by rw [e2.out]; rfl, HB.out⟩
end Go.Proofs.YticehalcnbjccaaGreatDoor.TreeC
namespace Go.Proofs.YticehalcnbjccaaGreatDoor.TreeC
set_option linter.unusedVariables false
open Go.RowKit Go.Proofs.YticehalcnbjccaaGreatDoor.NumC Go.Proofs.YticehalcnbjccaaGreatDoor.LexC
theorem RowV.app {w : World} {P : Nat → Prop} {ka : Fo} {ws : List Value} (hw : RowV w P ka ws) : ∀ (fo : Fo) (vs : List Value), RowV w P fo vs → RowV w P (fo.app ka) (vs ++ ws) := by
  intro fo
  induction fo with
  | nil => intro vs h; cases vs with
    | nil => exact hw
    | cons v vs => exact absurd h (by simp [RowV])
  | cons f kids next _ ih => intro vs h; cases vs with
    | nil => exact absurd h (by simp [RowV])
    | cons v vs => exact ⟨h.1, ih vs h.2⟩
theorem ncells_app (vs ws : List Value) : ncells (vs ++ ws) = ncells vs ++ ncells ws := by unfold ncells; rw [List.flatMap_append]
def QS (w : World) (B : Nat) (v : Value) (fo : Fo) : Prop := ∃ vs, w.ownsRow B 31 10 v fo.len (ncells vs) ∧ RowV w (fun g => g < B) fo vs
theorem QS.more {w w' : World} {B : Nat} {v v' : Value} {fo kd : Fo} {vs ws : List Value} (hv : RowV w (fun g => g < B) fo vs) (hw : RowV w (fun g => g < B) kd ws) (ho : w'.ownsRow B 31 10 v' (fo.len + kd.len) (ncells vs ++ ncells ws)) (hg : w.grownBy w' v.ownBlock) (hlt : ∀ k, v.ownBlock = some k → B ≤ k ∧ k < w.heap.size) : QS w' B v' (fo.app kd) := by
  refine ⟨vs ++ ws, by rw [ncells_app, Fo.len_app]; exact ho, RowV.same (fun g hg2 hl => ⟨hg.block g hl (fun e => by have := (hlt g e.symm).1; omega), hg2⟩) _ _ (RowV.app hw fo vs hv)⟩
theorem below_grown {w wr w' : World} {B : Nat} {row : Option Nat} (h : Below B w wr) (hB : B ≤ wr.heap.size) (hg : wr.grownBy w' row) (hr : ∀ k, row = some k → B ≤ k) : Below B w w' :=
  ⟨hg.os.trans h.os, hg.tape.trans h.tape, hg.output.trans h.output, Nat.le_trans h.size hg.size, fun k hk => (hg.block k (by omega) (fun e => by have := hr k e.symm; omega)).trans (h.block k hk)⟩
end Go.Proofs.YticehalcnbjccaaGreatDoor.TreeC
