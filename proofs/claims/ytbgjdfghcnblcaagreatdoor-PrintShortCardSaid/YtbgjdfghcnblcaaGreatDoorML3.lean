/-
  The walk of PrintShort.
-/
import Derived.Test.YtbgjdfghcnblcaaGreatDoorMPB
import Derived.Test.YtbgjdfghcnblcaaGreatDoorML2
import Derived.Test.YtbgjdfghcnblcaaGreatDoorMAddrD
namespace Go.Proofs.YtbgjdfghcnblcaaGreatDoor.PrintC
set_option linter.unusedVariables false
open Go.RowKit Go.Proofs.YtbgjdfghcnblcaaGreatDoor.NumC Go.Proofs.YtbgjdfghcnblcaaGreatDoor.LexC Go.Proofs.YtbgjdfghcnblcaaGreatDoor.TreeC

theorem short_at {f : Fld} {kd : Fo} {i : Nat} (hk : f.k = 5) (hi : i = 0) (hg : goodN ⟨f, kd⟩ = true) (hw : (Nd.mk f kd).all wideB = true) (hl : (textN ⟨f, kd⟩).length ≤ 300)
    (hx : (textN ⟨f, kd⟩).take ((textN (kd.nth i)).length + 2) = 40 :: (textN (kd.nth i) ++ [41]))
    (he : (parseL (textN (kd.nth i) ++ (textN ⟨f, kd⟩).drop ((textN (kd.nth i)).length + 2))).err = 0) :
    (parseL (textN (kd.nth i) ++ (textN ⟨f, kd⟩).drop ((textN (kd.nth i)).length + 2))).nd ≠ ⟨f, kd⟩ := by
  subst hi
  obtain ⟨-, -, g3⟩ := good_parts hg
  have hall1 : kd.all fitsB = true ∧ fitsB f kd.len = true := by simpa [Nd.all] using g3
  have hs := shape_of hall1.2
  have hm : kd.len = 2 := by
    rcases shape_k hs with h | h | ⟨h, -⟩ | ⟨h, -⟩ | ⟨-, h, -⟩ | ⟨h, -⟩ <;> first | exact h | (rw [hk] at h; exact absurd h (by decide))
  obtain ⟨f1, k1, f2, k2, rfl⟩ := two_kids hm
  exact short_bare hk (two_of hk g3 hw) hl hx he
theorem take_bytes (x : List UInt8) (m : Nat) : ((str x).extract 0 m).toList = x.take m := by rw [AddrC.take_str, str_back]
theorem drop_bytes (x : List UInt8) (m : Nat) : (str x).extract m (str x).size = str (x.drop m) := by
  rw [AddrC.drop_str, str_back]; rfl
theorem wrap_list (x : List UInt8) : (({ data := #[40] } : ByteArray) ++ str x ++ { data := #[41] }).toList = 40 :: (x ++ [41]) := by rw [wrap_str, Lib.toList_data, str_back]
set_option maxRecDepth 100000 in
set_option maxHeartbeats 4000000 in
theorem printShort (a : Nd) (A : Option Addr) (c : Nat) (w : World) (hA : KidsAt w (fun g => g < w.heap.size) a.kids A) (hw : a.all wideB = true) (hl : LexLib w) (hg : ErrT w) :
    Calls Tryz.prog 5 #[.agg #[.int .i64 a.f.k, .int .i64 a.f.vk, .int .i64 a.f.vn, .string a.f.vs, .int .i64 a.f.r1, .int .i64 a.f.r2, .int .i64 a.f.r3, .int .i64 a.f.r4, .string a.f.op, .slice A a.kids.len c]] w fun e w' => e = .returned (.bool true) ∧ Below w.heap.size w w' := by
  have B0 : Below w.heap.size w (w.alloc (.cells #[.int .i64 a.f.k, .int .i64 a.f.vk, .int .i64 a.f.vn, .string a.f.vs, .int .i64 a.f.r1, .int .i64 a.f.r2, .int .i64 a.f.r3, .int .i64 a.f.r4, .string a.f.op, .slice A a.kids.len c] 30)) := (Below.refl _ _).alloc (Nat.le_refl _) _
  have L0 : NLoc (w.alloc (.cells #[.int .i64 a.f.k, .int .i64 a.f.vk, .int .i64 a.f.vn, .string a.f.vs, .int .i64 a.f.r1, .int .i64 a.f.r2, .int .i64 a.f.r3, .int .i64 a.f.r4, .string a.f.op, .slice A a.kids.len c] 30)) w.heap.size a.f A a.kids.len c := ⟨heap_alloc_new _ _⟩
  have HW := Lib.hid (fun (W : World) (hb : Below w.heap.size w W) => cwakes6 W (hl.below hb) (hg.below hb))
  have HL := Lib.hid hl
  have HG := Lib.hid hg
  have HA := Lib.hid hA
  have HWD := Lib.hid hw
  clear hl hg hA hw
  obtain ⟨f, kd⟩ := a
  simp only at *
  obtain ⟨d0, d1, d2, d3, d4, d5, d6, d7, d8, d9, -⟩ := L0.cells
  go_enter Tryz.func5, Tryz.ntmps5
  go_wp2_with fail
  generalize (w.alloc (.cells #[.int .i64 f.k, .int .i64 f.vk, .int .i64 f.vn, .string f.vs, .int .i64 f.r1, .int .i64 f.r2, .int .i64 f.r3, .int .i64 f.r4, .string f.op, .slice A kd.len c] 30)) = W0 at *
  refine (klarge ⟨f, kd⟩ A c W0 (kids_now HA.out B0)).mono ?_; rintro e w1 ⟨la, rfl, hb1, hla⟩
  have L1 := L0.kept (Kept.of (x := W0.heap.size) hb1) (Nat.ne_of_lt L0.lt)
  have B1 := B0.trans (hb1.mono B0.size)
  clear d0 d1 d2 d3 d4 d5 d6 d7 d8 d9 L0 hb1 B0
  obtain ⟨d0, d1, d2, d3, d4, d5, d6, d7, d8, d9, -⟩ := L1.cells
  cases la
  case true =>
    go_wp2_with fail
    refine (HW.out _ B1).mono ?_; rintro e ww ⟨rfl, hbb⟩
    go_wp2_with fail
    go_ret
    exact ⟨ret1 rfl, B1.trans (hbb.mono B1.size)⟩
  case false =>
  obtain ⟨sa, -⟩ := hla rfl
  clear hla
  have HT0 := Lib.hid (cText ⟨f, kd⟩ A c w1 (by omega) HWD.out (HL.out.below B1) (kids_now HA.out B1))
  simp only at HT0
  go_wp2_with fail
  refine HT0.out.mono ?_; rintro e w2 ⟨rfl, hb2⟩
  have L2 := L1.kept (Kept.of (x := w1.heap.size) hb2) (Nat.ne_of_lt L1.lt)
  have B2 := B1.trans (hb2.mono B1.size)
  clear d0 d1 d2 d3 d4 d5 d6 d7 d8 d9 L1 hb2 B1 HT0
  obtain ⟨d0, d1, d2, d3, d4, d5, d6, d7, d8, d9, -⟩ := L2.cells
  by_cases herr : (textR ⟨f, kd⟩).err = 0
  · obtain ⟨hgood, hlen, hst⟩ := textR_zero herr
    rw [herr, hst]
    by_cases hk : f.k = 5 ∨ f.k = 4
    · have HKO := Lib.hid (kid_ok hgood HWD.out hlen (by rcases hk with h | h; exact Or.inr h; exact Or.inl h))
      have h2 := HKO.out.1
      have hkl3 : kd.len ≤ 300 := by have := Fo.len_size kd; have : (Nd.mk f kd).size = 1 + kd.size := rfl; omega
      have HSA := Lib.hid (fun (i : Nat) (h5 : f.k = 5) (hi : i = 0) hx he => short_at (i := i) h5 hi hgood HWD.out hlen hx he)
      have hTS : (str (textN ⟨f, kd⟩)).size = (textN ⟨f, kd⟩).length := str_size _
      have t2 : ¬ ((str (textN ⟨f, kd⟩)).size : Int) < 2 := by omega
      have p1 : (f.k == 5 || f.k == 4) = true := by rcases hk with h | h <;> simp [h]
      have HP1 := Lib.hid p1
      have HK := Lib.hid hk
      have key : ∀ (b5 b4 : Bool), (f.k == 5) = b5 → (f.k == 4) = b4 → (b5 || b4) = true → True := fun _ _ _ _ _ => trivial
      clear key p1 hst herr hgood
      have hsplit : ((f.k == 5) = true) ∨ ((f.k == 5) = false ∧ (f.k == 4) = true) := by
        rcases hk with h | h
        · exact Or.inl (beq_iff_eq.2 h)
        · exact Or.inr ⟨beq_eq_false_iff_ne.2 (by omega), beq_iff_eq.2 h⟩
      clear hk
      generalize hTT : str (textN ⟨f, kd⟩) = T at *
      have HTT := Lib.hid hTT
      have HTS := Lib.hid hTS
      have hTl : T.size ≤ 300 := by omega
      clear hTT hTS h2
      rcases hsplit with e5 | ⟨e5, e4⟩
      · have n5 : (f.k != 5) = false := by rw [bne, e5]; rfl
        have h5 : f.k = 5 := beq_iff_eq.1 e5
        have HS5 := Lib.hid (fun i => HSA.out i h5)
        clear HSA h5
        go_wp2_with fail
        go_loopw [5] (fun iv wr => ∃ i : Nat, i ≤ kd.len ∧ iv = .int .i64 i ∧ Below w2.heap.size w2 wr) (fun iv _ => kd.len - (intOf iv).toNat)
        case atStart => exact ⟨0, Nat.zero_le _, rfl, Below.refl _ _⟩
        case round =>
          obtain ⟨i, hi, rfl, hB⟩ := hrel
          have BR := B2.trans (hB.mono B2.size)
          have HKr := kids_now HA.out BR
          have r0 := cell_later hB d0
          have r9 := cell_later hB d9
          by_cases hlt : i < kd.len
          · have q1 : (i : Int) < (kd.len : Int) := by omega
            obtain ⟨hko, hkw, hkz, hkg, hkl⟩ := HKO.out.2 i hlt
            obtain ⟨ga, o, rfl, hrow⟩ : ∃ ga o, A = some ⟨ga, o, none⟩ ∧ RowAt wr (fun g => g < wr.heap.size) kd ga o := by
              rcases HKr with h | h
              · rw [h] at hlt; exact absurd hlt (by simp [Fo.len])
              · exact h
            obtain ⟨A2, c2, hk2, hp, f0, f1, f2, f3, f4, f5, f6, f7, f8, f9⟩ := RowAt.nth kd ga o i hrow hlt
            have HT := Lib.hid (cText (kd.nth i) A2 c2 wr (by omega) hkw (HL.out.below BR) hk2)
            rw [hko] at HT
            have hUS : (str (textN (kd.nth i))).size = (textN (kd.nth i)).length := str_size _
            have q3 : ¬ 9223372036854775807 < 1 + (str (textN (kd.nth i))).size := by omega
            have q4 : ¬ 9223372036854775807 < 1 + (str (textN (kd.nth i))).size + 1 := by omega
            clear hrow hk2 HKr hp
            simp only at HT
            generalize hUU : str (textN (kd.nth i)) = U at *
            have HUU := Lib.hid hUU
            have HUS := Lib.hid hUS
            have hul : U.size ≤ 300 := by omega
            clear hUU hUS hkl hko hkg hkw hkz
            go_wp2_with fail
            refine HT.out.mono ?_; rintro e w3 ⟨rfl, hb3⟩
            have hB3 := hB.trans (hb3.mono hB.size)
            have BR3 := B2.trans (hB3.mono B2.size)
            replace r0 := cell_later hb3 r0
            replace r9 := cell_later hb3 r9
            replace f0 := cell_later hb3 f0
            replace f1 := cell_later hb3 f1
            replace f2 := cell_later hb3 f2
            replace f3 := cell_later hb3 f3
            replace f4 := cell_later hb3 f4
            replace f5 := cell_later hb3 f5
            replace f6 := cell_later hb3 f6
            replace f7 := cell_later hb3 f7
            replace f8 := cell_later hb3 f8
            replace f9 := cell_later hb3 f9
            clear hb3 hB BR HT
            by_cases hz : i = 0
            · have z1 : ((i : Int) == 0) = true := beq_iff_eq.2 (by omega)
              have HZ := Lib.hid hz
              clear hz
              by_cases hL : 1 + U.size + 1 < T.size
              · have z2 : (1 : Int) + (U.size : Int) + 1 < (T.size : Int) := by omega
                have hle : 1 + U.size + 1 ≤ T.size := by omega
                by_cases hX : (textN ⟨f, kd⟩).take ((textN (kd.nth i)).length + 2) = 40 :: (textN (kd.nth i) ++ [41])
                · have sx : (T.extract 0 (1 + U.size + 1)).toList = ({ data := #[40] } ++ U ++ { data := #[41] }).toList := by
                    rw [← HTT.out, ← HUU.out, take_bytes, wrap_list, str_size, show 1 + (textN (kd.nth i)).length + 1 = (textN (kd.nth i)).length + 2 by omega]
                    exact hX
                  have HSX := Lib.hid (fun he => HS5.out i HZ.out hX he)
                  have hbe : (U ++ T.extract (1 + U.size + 1) T.size) = str (textN (kd.nth i) ++ (textN ⟨f, kd⟩).drop ((textN (kd.nth i)).length + 2)) := by
                    rw [← HTT.out, ← HUU.out, drop_bytes, str_app, str_size, show 1 + (textN (kd.nth i)).length + 1 = (textN (kd.nth i)).length + 2 by omega]
                  have HBE := Lib.hid hbe
                  have hbl : (textN (kd.nth i) ++ (textN ⟨f, kd⟩).drop ((textN (kd.nth i)).length + 2)).length ≤ 600 := by
                    have h1 := HUS.out
                    have h2 := HTS.out
                    rw [List.length_append, List.length_drop]; omega
                  have HPB := Lib.hid (fun (W : World) hl hg => cParse (str (textN (kd.nth i) ++ (textN ⟨f, kd⟩).drop ((textN (kd.nth i)).length + 2))) W (by rw [str_size]; omega) hl hg)
                  rw [str_back] at HPB
                  have HPG := Lib.hid (fun h => (parse_good (textN (kd.nth i) ++ (textN ⟨f, kd⟩).drop ((textN (kd.nth i)).length + 2)) h).2.2)
                  generalize parseL (textN (kd.nth i) ++ (textN ⟨f, kd⟩).drop ((textN (kd.nth i)).length + 2)) = pr at *
                  clear hbe hX hbl
                  generalize str (textN (kd.nth i) ++ (textN ⟨f, kd⟩).drop ((textN (kd.nth i)).length + 2)) = R at *
                  have hRU : ¬ 9223372036854775807 < U.size + (T.size - (1 + U.size + 1)) := by omega
                  have HRW := Lib.hid (crow (kd.nth i).f A2 (kd.nth i).kids.len c2 w3)
                  go_wp2_with fail
                  refine HRW.out.mono ?_; rintro e w4 ⟨rfl, hb4⟩
                  have hB4 := hB3.trans (hb4.mono hB3.size)
                  have BR4 := B2.trans (hB4.mono B2.size)
                  by_cases h5 : rowK (kd.nth i).f < 5
                  · have z5 : ((rowK (kd.nth i).f : Nat) : Int) < 5 := by omega
                    go_wp2_with fail
                    rw [HBE.out]
                    refine (HPB.out w4 (HL.out.below BR4) (HG.out.below BR4)).mono ?_
                    obtain ⟨b, pat, per⟩ := pr
                    simp only at HPG HSX
                    rintro e w5 ⟨v, rfl, hb5, B, d, rfl, hKp⟩
                    have ev : nodeV b.f B b.kids.len d = .agg #[.int .i64 b.f.k, .int .i64 b.f.vk, .int .i64 b.f.vn, .string b.f.vs, .int .i64 b.f.r1, .int .i64 b.f.r2, .int .i64 b.f.r3, .int .i64 b.f.r4, .string b.f.op, .slice B b.kids.len d] := rfl
                    simp only at hKp ⊢
                    rw [ev]
                    clear ev
                    have hB5 := hB4.trans (hb5.mono hB4.size)
                    have g5 : Below w5.heap.size w5 (w5.alloc (.cells #[.int .i64 b.f.k, .int .i64 b.f.vk, .int .i64 b.f.vn, .string b.f.vs, .int .i64 b.f.r1, .int .i64 b.f.r2, .int .i64 b.f.r3, .int .i64 b.f.r4, .string b.f.op, .slice B b.kids.len d] 30)) := (Below.refl _ _).alloc (Nat.le_refl _) _
                    have hB6 := hB5.trans (g5.mono hB5.size)
                    have BR6 := B2.trans (hB6.mono B2.size)
                    have M6 : NLoc (w5.alloc (.cells #[.int .i64 b.f.k, .int .i64 b.f.vk, .int .i64 b.f.vn, .string b.f.vs, .int .i64 b.f.r1, .int .i64 b.f.r2, .int .i64 b.f.r3, .int .i64 b.f.r4, .string b.f.op, .slice B b.kids.len d] 30)) w5.heap.size b.f B b.kids.len d := ⟨heap_alloc_new _ _⟩
                    have L6 := L2.kept (Kept.of (x := w2.heap.size) hB6) (Nat.ne_of_lt L2.lt)
                    have KM : KidsAt (w5.alloc (.cells #[.int .i64 b.f.k, .int .i64 b.f.vk, .int .i64 b.f.vn, .string b.f.vs, .int .i64 b.f.r1, .int .i64 b.f.r2, .int .i64 b.f.r3, .int .i64 b.f.r4, .string b.f.op, .slice B b.kids.len d] 30)) (fun g => g < (w5.alloc (.cells #[.int .i64 b.f.k, .int .i64 b.f.vk, .int .i64 b.f.vn, .string b.f.vs, .int .i64 b.f.r1, .int .i64 b.f.r2, .int .i64 b.f.r3, .int .i64 b.f.r4, .string b.f.op, .slice B b.kids.len d] 30)).heap.size) b.kids B := hKp.keep (y := w5.heap.size) ((Kept.refl _ _).alloc _) (fun g hg hlt => ⟨by omega, by simp; omega⟩)
                    clear hb5 hb4 hKp g5 hB5 f0 f1 f2 f3 f4 f5 f6 f7 f8 f9 r0 r9 d0 d1 d2 d3 d4 d5 d6 d7 d8 d9 HBE HPB
                    obtain ⟨d0, d1, d2, d3, d4, d5, d6, d7, d8, d9, -⟩ := L6.cells
                    obtain ⟨m0, m1, m2, m3, m4, m5, m6, m7, m8, m9, -⟩ := M6.cells
                    by_cases hper : per = 0
                    · subst hper
                      have hbs := HPG.out rfl
                      have hne : decide (b = ⟨f, kd⟩) = false := decide_eq_false (HSX.out rfl)
                      have HSM := Lib.hid (cSame b ⟨f, kd⟩ B (some ⟨ga, o, none⟩) d c (w5.alloc (.cells #[.int .i64 b.f.k, .int .i64 b.f.vk, .int .i64 b.f.vn, .string b.f.vs, .int .i64 b.f.r1, .int .i64 b.f.r2, .int .i64 b.f.r3, .int .i64 b.f.r4, .string b.f.op, .slice B b.kids.len d] 30)) (by omega) (by omega) KM (kids_now HA.out BR6))
                      rw [hne] at HSM
                      simp only at HSM
                      clear hne KM L6 M6
                      go_wp2_with fail
                      generalize (w5.alloc (.cells #[.int .i64 b.f.k, .int .i64 b.f.vk, .int .i64 b.f.vn, .string b.f.vs, .int .i64 b.f.r1, .int .i64 b.f.r2, .int .i64 b.f.r3, .int .i64 b.f.r4, .string b.f.op, .slice B b.kids.len d] 30)) = W5 at *
                      refine HSM.out.mono ?_; rintro e w6 ⟨rfl, hb6⟩
                      have hB7 := hB6.trans (hb6.mono hB6.size)
                      go_wp2_with fail
                      go_roundw
                      case rel => exact ⟨i + 1, by omega, by go_num, hB7⟩
                      case measure => simp [intOf]; omega
                    · have p1 : (per == 0) = false := beq_eq_false_iff_ne.2 hper
                      clear KM L6 M6
                      go_wp2_with fail
                      go_roundw
                      case rel => exact ⟨i + 1, by omega, by go_num, hB6⟩
                      case measure => simp [intOf]; omega
                  · have z5 : ¬ ((rowK (kd.nth i).f : Nat) : Int) < 5 := by omega
                    go_wp2_with fail
                    go_roundw
                    case rel => exact ⟨i + 1, by omega, by go_num, hB4⟩
                    case measure => simp [intOf]; omega
                · have sx : ¬ (T.extract 0 (1 + U.size + 1)).toList = ({ data := #[40] } ++ U ++ { data := #[41] }).toList := by
                    rw [← HTT.out, ← HUU.out, take_bytes, wrap_list, str_size, show 1 + (textN (kd.nth i)).length + 1 = (textN (kd.nth i)).length + 2 by omega]
                    exact hX
                  clear hX
                  go_wp2_with fail
                  go_roundw
                  case rel => exact ⟨i + 1, by omega, by go_num, hB3⟩
                  case measure => simp [intOf]; omega
              · have z2 : ¬ (1 : Int) + (U.size : Int) + 1 < (T.size : Int) := by omega
                clear hL
                go_wp2_with fail
                go_roundw
                case rel => exact ⟨i + 1, by omega, by go_num, hB3⟩
                case measure => simp [intOf]; omega
            · have z1 : ((i : Int) == 0) = false := beq_eq_false_iff_ne.2 (by omega)
              go_wp2_with fail
              go_roundw
              case rel => exact ⟨i + 1, by omega, by go_num, hB3⟩
              case measure => simp [intOf]; omega
          · have q1 : ¬ (i : Int) < (kd.len : Int) := by omega
            clear HKr
            go_wp2_with fail
            refine (HW.out _ BR).mono ?_; rintro e ww ⟨rfl, hbb⟩
            go_wp2_with fail
            go_ret
            exact ⟨ret1 rfl, BR.trans (hbb.mono BR.size)⟩
      · clear HSA
        have n5 : (f.k != 5) = true := by rw [bne, e5]; rfl
        have n4 : (f.k != 4) = false := by rw [bne, e4]; rfl
        go_wp2_with fail
        go_loopw [5] (fun iv wr => ∃ i : Nat, i ≤ kd.len ∧ iv = .int .i64 i ∧ Below w2.heap.size w2 wr) (fun iv _ => kd.len - (intOf iv).toNat)
        case atStart => exact ⟨0, Nat.zero_le _, rfl, Below.refl _ _⟩
        case round =>
          obtain ⟨i, hi, rfl, hB⟩ := hrel
          have BR := B2.trans (hB.mono B2.size)
          have HKr := kids_now HA.out BR
          have r0 := cell_later hB d0
          have r9 := cell_later hB d9
          by_cases hlt : i < kd.len
          · have q1 : (i : Int) < (kd.len : Int) := by omega
            obtain ⟨hko, hkw, hkz, hkg, hkl⟩ := HKO.out.2 i hlt
            obtain ⟨ga, o, rfl, hrow⟩ : ∃ ga o, A = some ⟨ga, o, none⟩ ∧ RowAt wr (fun g => g < wr.heap.size) kd ga o := by
              rcases HKr with h | h
              · rw [h] at hlt; exact absurd hlt (by simp [Fo.len])
              · exact h
            obtain ⟨A2, c2, hk2, hp, f0, f1, f2, f3, f4, f5, f6, f7, f8, f9⟩ := RowAt.nth kd ga o i hrow hlt
            have HT := Lib.hid (cText (kd.nth i) A2 c2 wr (by omega) hkw (HL.out.below BR) hk2)
            rw [hko] at HT
            have hUS : (str (textN (kd.nth i))).size = (textN (kd.nth i)).length := str_size _
            have q3 : ¬ 9223372036854775807 < 1 + (str (textN (kd.nth i))).size := by omega
            have q4 : ¬ 9223372036854775807 < 1 + (str (textN (kd.nth i))).size + 1 := by omega
            clear hrow hk2 HKr hp
            simp only at HT
            generalize hUU : str (textN (kd.nth i)) = U at *
            have HUU := Lib.hid hUU
            have HUS := Lib.hid hUS
            have hul : U.size ≤ 300 := by omega
            clear hUU hUS hkl hko hkg hkw hkz
            go_wp2_with fail
            refine HT.out.mono ?_; rintro e w3 ⟨rfl, hb3⟩
            have hB3 := hB.trans (hb3.mono hB.size)
            have BR3 := B2.trans (hB3.mono B2.size)
            replace r0 := cell_later hb3 r0
            replace r9 := cell_later hb3 r9
            replace f0 := cell_later hb3 f0
            replace f1 := cell_later hb3 f1
            replace f2 := cell_later hb3 f2
            replace f3 := cell_later hb3 f3
            replace f4 := cell_later hb3 f4
            replace f5 := cell_later hb3 f5
            replace f6 := cell_later hb3 f6
            replace f7 := cell_later hb3 f7
            replace f8 := cell_later hb3 f8
            replace f9 := cell_later hb3 f9
            clear hb3 hB BR HT
            by_cases hz : i = 0
            · have z1 : ((i : Int) == 0) = true := beq_iff_eq.2 (by omega)
              have HZ := Lib.hid hz
              clear hz
              by_cases hL : 1 + U.size + 1 < T.size
              · have z2 : (1 : Int) + (U.size : Int) + 1 < (T.size : Int) := by omega
                go_wp2_with fail
                go_roundw
                case rel => exact ⟨i + 1, by omega, by go_num, hB3⟩
                case measure => simp [intOf]; omega
              · have z2 : ¬ (1 : Int) + (U.size : Int) + 1 < (T.size : Int) := by omega
                clear hL
                go_wp2_with fail
                go_roundw
                case rel => exact ⟨i + 1, by omega, by go_num, hB3⟩
                case measure => simp [intOf]; omega
            · have z1 : ((i : Int) == 0) = false := beq_eq_false_iff_ne.2 (by omega)
              go_wp2_with fail
              go_roundw
              case rel => exact ⟨i + 1, by omega, by go_num, hB3⟩
              case measure => simp [intOf]; omega
          · have q1 : ¬ (i : Int) < (kd.len : Int) := by omega
            clear HKr
            go_wp2_with fail
            refine (HW.out _ BR).mono ?_; rintro e ww ⟨rfl, hbb⟩
            go_wp2_with fail
            go_ret
            exact ⟨ret1 rfl, BR.trans (hbb.mono BR.size)⟩
    · have e5 : (f.k == 5) = false := beq_eq_false_iff_ne.2 (fun h => hk (Or.inl h))
      have e4 : (f.k == 4) = false := beq_eq_false_iff_ne.2 (fun h => hk (Or.inr h))
      have n5 : (f.k != 5) = true := by rw [bne, e5]; rfl
      have n4 : (f.k != 4) = true := by rw [bne, e4]; rfl
      clear hk hst herr hgood hlen
      go_wp2_with fail
      refine (HW.out _ B2).mono ?_; rintro e ww ⟨rfl, hbb⟩
      go_wp2_with fail
      go_ret
      exact ⟨ret1 rfl, B2.trans (hbb.mono B2.size)⟩
  · have p1 : ((textR ⟨f, kd⟩).err == 0) = false := beq_eq_false_iff_ne.2 herr
    generalize (textR ⟨f, kd⟩).err = er at *
    generalize str (textR ⟨f, kd⟩).s = T at *
    go_wp2_with fail
    refine (HW.out _ B2).mono ?_; rintro e ww ⟨rfl, hbb⟩
    go_wp2_with fail
    go_ret
    exact ⟨ret1 rfl, B2.trans (hbb.mono B2.size)⟩

end Go.Proofs.YtbgjdfghcnblcaaGreatDoor.PrintC
