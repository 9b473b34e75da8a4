/-
  Contracts of package text: barred, within, whole, turned.
-/
import Derived.Test.YtgkabngpekokaaaTextB
import Derived.Test.YtgkabngpekokaaaValueC1
import Derived.Test.YtgkabngpekokaaaShelf
namespace Go.Proofs.Ytgkabngpekokaaa.TextC
set_option linter.unusedVariables false
set_option linter.unusedSimpArgs false
open Go.RowKit Go.Proofs.Ytgkabngpekokaaa.NumC
open Go.Proofs.Ytgkabngpekokaaa.ValueC (Val failV failV_yes ofV nos)
open Go.Proofs.Ytgkabngpekokaaa.LexC (upC upL str Soft add_off)

theorem heap_up (w : World) (o : Obj) : (w.alloc o).heap.size = w.heap.size + 1 := by simp
def barN (n : Int) (b : Bool) : Int := if 200 < n then 7 else if b then 0 else 5
theorem bar_long {n : Int} {b : Bool} (h : 200 < n) : barN n b = 7 := if_pos h
theorem bar_arg {n : Int} (h : ¬ 200 < n) : barN n false = 5 := if_neg h
theorem bar_ok {n : Int} (h : ¬ 200 < n) : barN n true = 0 := if_neg h
set_option maxHeartbeats 1000000 in
theorem cbarred (n : Int) (b : Bool) (w : World) : Calls Try.prog 32 #[.int .i64 n, .bool b] w fun e w' => e = .returned (.int .i64 (barN n b)) ∧ w' = w := by
  by_cases h : 200 < n
  · have E := Lib.hid (bar_long (b := b) h)
    go_enter Try.func32, Try.ntmps32
    go_wp2
    go_ret
    exact ⟨by rw [E.out]; rfl, rfl⟩
  · have d : decide (200 < n) = false := decide_eq_false h
    cases b
    · have E := Lib.hid (bar_arg h)
      go_enter Try.func32, Try.ntmps32
      go_wp2
      go_ret
      exact ⟨by rw [E.out]; rfl, rfl⟩
    · have E := Lib.hid (bar_ok h)
      go_enter Try.func32, Try.ntmps32
      go_wp2
      go_ret
      exact ⟨by rw [E.out]; rfl, rfl⟩
theorem two_eq {a a' b b' : Int} (h1 : a = a') (h2 : b = b') : Ending.returned (.tuple #[.int .i64 a, .int .i64 b]) = .returned (.tuple #[.int .i64 a', .int .i64 b']) := by subst h1 h2; rfl
set_option maxHeartbeats 1000000 in
theorem cwithin (p q z : Nat) (w : World) (hp : (p : Int) ≤ 9223372036854775807) (hz : z ≤ 200) :
    Calls Try.prog 34 #[.int .i64 p, .int .i64 q, .int .i64 z] w fun e w' => e = .returned (.tuple #[.int .i64 (min p z : Nat), .int .i64 (min p z + min q (z - min p z) : Nat)]) ∧ w' = w := by
  have g1 : IntKind.i64.wrap ((z : Int) - (p : Int)) = (z : Int) - (p : Int) := by rw [IntKind.wrap_i64]; omega
  by_cases h : z < p
  · have d1 : decide ((z : Int) - (p : Int) < 0) = true := decide_eq_true (by omega)
    have d2 : (z : Int) < (p : Int) := by omega
    have g2 : IntKind.i64.wrap (z : Int) = (z : Int) := by rw [IntKind.wrap_i64]; omega
    go_enter Try.func34, Try.ntmps34
    go_wp2
    go_ret2
    exact ⟨two_eq (by omega) (by omega), rfl⟩
  · have d1 : decide ((z : Int) - (p : Int) < 0) = false := decide_eq_false (by omega)
    have d2 : ¬ (z : Int) < (p : Int) := by omega
    by_cases h2 : z - p < q
    · have d3 : decide ((z : Int) - (p : Int) < (q : Int)) = true := decide_eq_true (by omega)
      have g2 : IntKind.i64.wrap ((p : Int) + ((z : Int) - (p : Int))) = (z : Int) := by rw [IntKind.wrap_i64]; omega
      go_enter Try.func34, Try.ntmps34
      go_wp2
      go_ret2
      exact ⟨two_eq (by omega) (by omega), rfl⟩
    · have d3 : decide ((z : Int) - (p : Int) < (q : Int)) = false := decide_eq_false (by omega)
      have g2 : IntKind.i64.wrap ((p : Int) + (q : Int)) = (p : Int) + (q : Int) := by rw [IntKind.wrap_i64]; omega
      go_enter Try.func34, Try.ntmps34
      go_wp2
      go_ret2
      exact ⟨two_eq (by omega) (by omega), rfl⟩
set_option maxHeartbeats 1000000 in
theorem cwhole (n : Int) (w : World) : Calls Try.prog 37 #[.int .i64 n] w (VPost ⟨2, n, nos⟩ w) := by
  have hB := Below.refl w.heap.size w
  go_enter Try.func37, Try.ntmps37
  go_wp2
  refine bodyPost_ret (v := .agg #[.int .i64 2, .int .i64 n, .string { data := #[] }]) (by simp [results, Try.results37, go_sem]) rfl ⟨rfl, ?_⟩
  repeat (first | with_reducible exact hB | with_reducible refine Below.setCell ?_ (by simp <;> omega) _ | with_reducible refine Below.alloc ?_ (by simp <;> omega) _)
/-- The cells of a row of bytes that is turned up to k. -/
def TurnTo (T : UInt8 → UInt8) (wr : World) (g : Nat) (s : ByteArray) (k : Nat) : Prop := ∀ j (hj : j < s.size), wr.cell? ⟨g, j, none⟩ = some (.int .u8 (((if j < k then T s[j] else s[j]).toNat : Nat) : Int))
theorem TurnTo.at_ {T : UInt8 → UInt8} {wr : World} {g : Nat} {s : ByteArray} {k : Nat} (h : TurnTo T wr g s k) (hk : k < s.size) : wr.cell? ⟨g, k, none⟩ = some (.int .u8 (s[k].toNat : Int)) := by
  have := h k hk; rwa [if_neg (by omega)] at this
theorem TurnTo.stay {T : UInt8 → UInt8} {wr : World} {g : Nat} {s : ByteArray} {k : Nat} (h : TurnTo T wr g s k) (hk : k < s.size) (hc : T s[k] = s[k]) : TurnTo T wr g s (k + 1) := fun j hj => by
  have := h j hj
  by_cases e : j = k
  · subst e; rw [if_pos (by omega), hc]; rwa [if_neg (by omega)] at this
  · by_cases hjk : j < k
    · rw [if_pos (by omega)]; rwa [if_pos hjk] at this
    · rw [if_neg (by omega)]; rwa [if_neg hjk] at this
theorem TurnTo.put {T : UInt8 → UInt8} {wr : World} {g : Nat} {s : ByteArray} {k : Nat} (h : TurnTo T wr g s k) (hk : k < s.size) : TurnTo T (wr.setCell ⟨g, k, none⟩ (.int .u8 ((T s[k]).toNat : Int))) g s (k + 1) := fun j hj => by
  by_cases e : j = k
  · subst e
    rw [if_pos (by omega)]
    exact World.cell?_setCell_same _ _ _ (h.at_ hk)
  · rw [World.cell?_setCell_other _ _ _ _ (fun x => e (by injection x; omega))]
    have := h j hj
    by_cases hjk : j < k
    · rw [if_pos (by omega)]; rwa [if_pos hjk] at this
    · rw [if_neg (by omega)]; rwa [if_neg hjk] at this
theorem map_at (T : UInt8 → UInt8) (s : ByteArray) (j : Nat) (h1 : j < (s.data.toList.map T).length) (h2 : j < s.size) : (s.data.toList.map T)[j] = T s[j] := by simp only [List.getElem_map]; rfl
theorem map_len (T : UInt8 → UInt8) (s : ByteArray) : (s.data.toList.map T).length = s.size := by rw [List.length_map]; rfl
/-- A text's bytes as a row of one's own. -/
theorem bytes_row (T : UInt8 → UInt8) (V : World) (s : ByteArray) : ∃ (cp : Nat) (W0 : World), (convert 9 44 (.string s)).run Try.prog V = .ok (.slice (some ⟨V.heap.size, 0, none⟩) s.size cp) W0
    ∧ TurnTo T W0 V.heap.size s 0 ∧ Soft W0 V.heap.size s.size ∧ Below V.heap.size V W0 := by
  refine ⟨_, _, run_bytes_of_string (P := Try.prog) V 9 44 5 s Try.underlying9 Try.underlying44 Try.underlying5, fun j hj => ?_, fun j hj => ?_, (below_drewN' (Below.refl _ _) 1).alloc (Nat.le_refl _) _⟩
  · rw [if_neg (by omega)]
    have := World.cell?_alloc_mark V.drew (bytesRow s (grownCap V s.size 0 5)) 5 ((bytesRow s (grownCap V s.size 0 5)).size, (bytesRow s (grownCap V s.size 0 5)).size + 1) j
    rw [show V.drew.heap.size = V.heap.size from rfl] at this
    rw [this]; exact bytesRow_at s _ j hj
  · have := World.frozen?_alloc_mark V.drew (bytesRow s (grownCap V s.size 0 5)) 5 (bytesRow s (grownCap V s.size 0 5)).size ((bytesRow s (grownCap V s.size 0 5)).size + 1) j
    rw [show V.drew.heap.size = V.heap.size from rfl] at this
    rw [this]
    have h2 : j < (bytesRow s (grownCap V s.size 0 5)).size := by unfold bytesRow; simp; omega
    simp; omega
/-- What the bit does. -/
theorem flip_bit (c d : UInt8) (h : c ^^^ 32 = d) : Op.intBits .xor .u8 (c.toNat : Int) 32 = pure (.int .u8 (d.toNat : Int)) := by
  subst h
  have key : ∀ n : Fin 256, bits .xor .u8 ((UInt8.ofNat n.val).toNat : Int) 32 = ((UInt8.ofNat n.val ^^^ 32).toNat : Int) := by decide +kernel
  have := key ⟨c.toNat, c.toNat_lt⟩
  simp only [UInt8.ofNat_toNat] at this
  rw [intBits_xor, this]
/-- Turned: the bytes from f to l. -/
def turnV (T : UInt8 → UInt8) (s : ByteArray) : Val := if 200 < s.size then lngV else txtV (str (s.data.toList.map T))
set_option maxHeartbeats 1000000 in
set_option maxRecDepth 100000 in
theorem cturned (T : UInt8 → UInt8) (f l : Nat) (s : ByteArray) (w : World) (hT : ∀ c : UInt8, (f ≤ c.toNat ∧ c.toNat ≤ l → c ^^^ 32 = T c) ∧ (¬ (f ≤ c.toNat ∧ c.toNat ≤ l) → T c = c)) :
    Calls Try.prog 39 #[.string s, .int .u8 f, .int .u8 l] w (VPost (turnV T s) w) := by
  by_cases hs : 200 < s.size
  · have E : Hid (turnV T s = lngV) := Lib.hid (by unfold turnV; rw [if_pos hs])
    go_enter Try.func39, Try.ntmps39
    go_wp2_with fail
    refine (cbarred _ _ _).mono ?_; rw [bar_long (by omega)]; rintro e w0 ⟨rfl, rfl⟩
    go_wp2_with fail
    refine (ValueC.fail 7 _).mono ?_; rw [failV_yes (by omega)]; rintro e w1 ⟨rfl, hb1⟩
    obtain ⟨hc, hf⟩ := bcell hb1
    have hz := size_of hb1
    have hB := below_of hb1
    go_wp2
    refine bodyPost_ret (v := .agg #[.int .i64 4, .int .i64 7, .string { data := #[] }]) (by simp [results, Try.results39, go_sem, hc, nos, txtV]) rfl ⟨by rw [E.out]; try (first | rfl | simp [lngV, argV, nonV, txtV, nos]), ?_⟩
    repeat (first | with_reducible exact hB | with_reducible refine Below.setCell ?_ (by simp <;> omega) _ | with_reducible refine Below.alloc ?_ (by simp <;> omega) _)
  · have E : Hid (turnV T s = ⟨3, 0, str (s.data.toList.map T)⟩) := Lib.hid (by unfold turnV; rw [if_neg hs]; rfl)
    obtain ⟨cp, W0, HC, hu0, hs0, hb0⟩ := bytes_row T (w.alloc (.cells #[.int .i64 0, .int .i64 0, .string { data := #[] }] 25)) s
    rw [heap_up] at HC hu0 hs0
    have HU := Lib.hid hu0
    have HF := Lib.hid hs0
    clear hu0 hs0
    go_enter Try.func39, Try.ntmps39
    go_wp2_with fail
    refine (cbarred _ _ _).mono ?_; rw [bar_ok (by omega)]; rintro e w0 ⟨rfl, rfl⟩
    go_wp2
    go_loopw [22] (fun i wr => ∃ k : Nat, k ≤ s.size ∧ i = .int .i64 k ∧ Below (w.alloc (.cells #[.int .i64 0, .int .i64 0, .string { data := #[] }] 25)).heap.size (w.alloc (.cells #[.int .i64 0, .int .i64 0, .string { data := #[] }] 25)) wr ∧ Hid (TurnTo T wr (w.heap.size + 1) s k) ∧ Hid (Soft wr (w.heap.size + 1) s.size)) (fun i _ => s.size - (intOf i).toNat)
    case atStart => exact ⟨0, Nat.zero_le _, rfl, hb0, HU, HF⟩
    case round =>
      obtain ⟨k, hk, rfl, hB, HU1, HF1⟩ := hrel
      by_cases hlt : k < s.size
      · have f0 := HU1.out.at_ hlt
        have z0 := HF1.out k hlt
        by_cases h1 : f ≤ s[k].toNat ∧ s[k].toNat ≤ l
        · have X := flip_bit _ _ ((hT s[k]).1 h1)
          have U1 := Lib.hid (HU1.out.put hlt)
          have F1 := Lib.hid (HF1.out.put ⟨w.heap.size + 1, k, none⟩ (.int .u8 ((T s[k]).toNat : Int)))
          have d1 : decide ((f : Int) ≤ (s[k].toNat : Int)) = true := decide_eq_true (by omega)
          have d2 : decide ((s[k].toNat : Int) ≤ (l : Int)) = true := decide_eq_true (by omega)
          have B1 := hB.setCell (p := ⟨w.heap.size + 1, k, none⟩) (by rw [heap_up]; exact Nat.le_refl _) (.int .u8 ((T s[k]).toNat : Int))
          have e1 : f ≤ s[k].toNat := h1.1
          have e2 : s[k].toNat ≤ l := h1.2
          clear h1
          go_wp2
          go_roundw
          case rel => exact ⟨k + 1, by omega, by go_num, B1, U1, F1⟩
          case measure => simp [intOf]; omega
        · have U1 := Lib.hid (HU1.out.stay hlt ((hT s[k]).2 h1))
          by_cases h2 : f ≤ s[k].toNat
          · have d1 : decide ((f : Int) ≤ (s[k].toNat : Int)) = true := decide_eq_true (by omega)
            have d2 : decide ((s[k].toNat : Int) ≤ (l : Int)) = false := decide_eq_false (by omega)
            have e2 : ¬ s[k].toNat ≤ l := fun h => h1 ⟨h2, h⟩
            clear h1
            go_wp2
            go_roundw
            case rel => exact ⟨k + 1, by omega, by go_num, hB, U1, HF1⟩
            case measure => simp [intOf]; omega
          · have d1 : decide ((f : Int) ≤ (s[k].toNat : Int)) = false := decide_eq_false (by omega)
            clear h1
            go_wp2
            go_roundw
            case rel => exact ⟨k + 1, by omega, by go_num, hB, U1, HF1⟩
            case measure => simp [intOf]; omega
      · have hks : k = s.size := by omega
        have hul := map_len T s
        have HB := run_convert_bytes_back (P := Try.prog) wr 44 9 5 ⟨w.heap.size + 1, 0, none⟩ cp (s.data.toList.map T) Try.underlying44 Try.underlying5 Try.underlying9 (fun j hj => by
          have := HU1.out j (by omega)
          rw [if_pos (by omega)] at this
          rw [map_at T s j hj (by omega), ← this, add_off])
        rw [hul] at HB
        have hsz : (str (s.data.toList.map T)).size ≤ 200 := by rw [str_size, hul]; omega
        clear hul hks
        go_wp2_with fail
        refine (ValueC.of (str (s.data.toList.map T)) _).mono ?_; rw [ofV_small hsz]; rintro e w1 ⟨rfl, hb1⟩
        have hb2 := below_then hB hb1
        obtain ⟨hc, hf⟩ := bcell hb2
        have hz := size_of hb2
        have hB := below_of hb2
        go_wp2
        refine bodyPost_ret (v := .agg #[.int .i64 3, .int .i64 0, .string (str (s.data.toList.map T))]) (by simp [results, Try.results39, go_sem, hc, nos, txtV]) rfl ⟨by rw [E.out]; try (first | rfl | simp [lngV, argV, nonV, txtV, nos]), ?_⟩
        repeat (first | with_reducible exact hB | with_reducible refine Below.setCell ?_ (by simp <;> omega) _ | with_reducible refine Below.alloc ?_ (by simp <;> omega) _)
end Go.Proofs.Ytgkabngpekokaaa.TextC
