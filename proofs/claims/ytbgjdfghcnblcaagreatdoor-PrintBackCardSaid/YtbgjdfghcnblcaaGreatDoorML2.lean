/-
  The walk of PrintBack.
-/
import Derived.Test.YtbgjdfghcnblcaaGreatDoorMO
import Derived.Test.YtbgjdfghcnblcaaGreatDoorML1
import Derived.Test.YtbgjdfghcnblcaaGreatDoorME1
namespace Go.Proofs.YtbgjdfghcnblcaaGreatDoor.PrintC
set_option linter.unusedVariables false
open Go.RowKit Go.Proofs.YtbgjdfghcnblcaaGreatDoor.NumC Go.Proofs.YtbgjdfghcnblcaaGreatDoor.LexC Go.Proofs.YtbgjdfghcnblcaaGreatDoor.TreeC

/-- A good tree's text is parsed to it. -/
theorem back1 {a : Nd} (h : (textR a).err = 0) (hw : a.all wideB = true) : parseL (textR a).s = ⟨a, 0, 0⟩ := by
  obtain ⟨h1, h2, h3⟩ := textR_zero h
  obtain ⟨g1, g2, g3⟩ := good_parts h1
  rw [h3]; exact print_parse a g3 hw g2 h2
theorem textR_len (a : Nd) : (textR a).s.length ≤ 300 := by
  cases hg : goodN a with
  | false => rw [textR_no hg]; exact Nat.zero_le _
  | true =>
    by_cases h2 : 300 < (textN a).length
    · rw [textR_long hg h2]; exact Nat.zero_le _
    · rw [textR_ok hg h2]; show (textN a).length ≤ 300; omega
theorem textR_good {a : Nd} (hg : goodN a = true) : (textR a).err = 0 ∨ (textR a).err = 2 := by
  by_cases h2 : 300 < (textN a).length
  · rw [textR_long hg h2]; exact Or.inr rfl
  · rw [textR_ok hg h2]; exact Or.inl rfl
/-- Parse of a text that was told. -/
theorem cParseT (a : Nd) (w : World) (hl : LexLib w) (hg : ErrT w) : Calls Tryz.prog 15 #[.string (str (textR a).s)] w (ParsePost w (parseL (textR a).s)) := by
  have := cParse (str (textR a).s) w (by rw [str_size]; have := textR_len a; omega) hl hg
  rwa [str_back] at this
theorem csame_self (a : Nd) (A B : Option Addr) (c d : Nat) (w : World) (ha : a.size ≤ 300) (hA : KidsAt w (fun g => g < w.heap.size) a.kids A) (hB : KidsAt w (fun g => g < w.heap.size) a.kids B) :
    Calls Tryz.prog 16 #[.agg #[.int .i64 a.f.k, .int .i64 a.f.vk, .int .i64 a.f.vn, .string a.f.vs, .int .i64 a.f.r1, .int .i64 a.f.r2, .int .i64 a.f.r3, .int .i64 a.f.r4, .string a.f.op, .slice A a.kids.len c], .agg #[.int .i64 a.f.k, .int .i64 a.f.vk, .int .i64 a.f.vn, .string a.f.vs, .int .i64 a.f.r1, .int .i64 a.f.r2, .int .i64 a.f.r3, .int .i64 a.f.r4, .string a.f.op, .slice B a.kids.len d]] w fun e w' => e = .returned (.bool true) ∧ Below w.heap.size w w' := by
  have := cSame a a A B c d w (by omega) (by omega) hA hB
  rwa [show decide (a = a) = true from decide_eq_true rfl] at this
set_option maxRecDepth 100000 in
set_option maxHeartbeats 4000000 in
theorem printBack (a : Nd) (A : Option Addr) (c : Nat) (s : ByteArray) (w : World) (hA : KidsAt w (fun g => g < w.heap.size) a.kids A) (hw : a.all wideB = true) (hl : LexLib w) (hg : ErrT w) :
    Calls Tryz.prog 4 #[.agg #[.int .i64 a.f.k, .int .i64 a.f.vk, .int .i64 a.f.vn, .string a.f.vs, .int .i64 a.f.r1, .int .i64 a.f.r2, .int .i64 a.f.r3, .int .i64 a.f.r4, .string a.f.op, .slice A a.kids.len c], .string s] w fun e w' => e = .returned (.bool true) ∧ Below w.heap.size w w' := by
  have B0 : Below w.heap.size w (w.alloc (.cells #[.int .i64 a.f.k, .int .i64 a.f.vk, .int .i64 a.f.vn, .string a.f.vs, .int .i64 a.f.r1, .int .i64 a.f.r2, .int .i64 a.f.r3, .int .i64 a.f.r4, .string a.f.op, .slice A a.kids.len c] 30)) := (Below.refl _ _).alloc (Nat.le_refl _) _
  have L0 : NLoc (w.alloc (.cells #[.int .i64 a.f.k, .int .i64 a.f.vk, .int .i64 a.f.vn, .string a.f.vs, .int .i64 a.f.r1, .int .i64 a.f.r2, .int .i64 a.f.r3, .int .i64 a.f.r4, .string a.f.op, .slice A a.kids.len c] 30)) w.heap.size a.f A a.kids.len c := ⟨heap_alloc_new _ _⟩
  have HW := Lib.hid (fun (W : World) (hb : Below w.heap.size w W) => cwakes6 W (hl.below hb) (hg.below hb))
  have HL := Lib.hid hl
  have HG := Lib.hid hg
  have HA := Lib.hid hA
  have HWD := Lib.hid hw
  clear hl hg hA hw
  obtain ⟨d0, d1, d2, d3, d4, d5, d6, d7, d8, d9, -⟩ := L0.cells
  go_enter Tryz.func4, Tryz.ntmps4
  go_wp2_with fail
  generalize (w.alloc (.cells #[.int .i64 a.f.k, .int .i64 a.f.vk, .int .i64 a.f.vn, .string a.f.vs, .int .i64 a.f.r1, .int .i64 a.f.r2, .int .i64 a.f.r3, .int .i64 a.f.r4, .string a.f.op, .slice A a.kids.len c] 30)) = W0 at *
  refine (klarge a A c W0 (kids_now HA.out B0)).mono ?_; rintro e w1 ⟨la, rfl, hb1, hla⟩
  have L1 := L0.kept (Kept.of (x := W0.heap.size) hb1) (Nat.ne_of_lt L0.lt)
  have B1 := B0.trans (hb1.mono B0.size)
  clear d0 d1 d2 d3 d4 d5 d6 d7 d8 d9 L0 hb1 B0
  obtain ⟨d0, d1, d2, d3, d4, d5, d6, d7, d8, d9, -⟩ := L1.cells
  cases la
  case true =>
    go_wp2_with fail
    refine (HW.out _ B1).mono ?_; rintro e w2 ⟨rfl, hb2⟩
    go_wp2_with fail
    go_ret
    exact ⟨ret1 rfl, B1.trans (hb2.mono B1.size)⟩
  case false =>
  obtain ⟨sa, -⟩ := hla rfl
  clear hla
  by_cases hs : 2000 < s.size
  · have t1 : (2000 : Int) < (s.size : Int) := by omega
    go_wp2_with fail
    refine (HW.out _ B1).mono ?_; rintro e w2 ⟨rfl, hb2⟩
    go_wp2_with fail
    go_ret
    exact ⟨ret1 rfl, B1.trans (hb2.mono B1.size)⟩
  have t1 : ¬ (2000 : Int) < (s.size : Int) := by omega
  go_wp2_with fail
  refine (cText a A c w1 (by omega) HWD.out (HL.out.below B1) (kids_now HA.out B1)).mono ?_; rintro e w2 ⟨rfl, hb2⟩
  have L2 := L1.kept (Kept.of (x := w1.heap.size) hb2) (Nat.ne_of_lt L1.lt)
  have B2 := B1.trans (hb2.mono B1.size)
  clear d0 d1 d2 d3 d4 d5 d6 d7 d8 d9 L1 hb2 B1
  by_cases herr : (textR a).err = 0
  · rw [herr]
    have HB1 := Lib.hid (back1 herr HWD.out)
    have HPT := Lib.hid (cParseT a w2 (HL.out.below B2) (HG.out.below B2))
    rw [HB1.out] at HPT
    clear herr HB1
    generalize str (textR a).s = T at *
    go_wp2_with fail
    refine HPT.out.mono ?_; rintro e w3 ⟨v, rfl, hb3, B, d, rfl, hK3⟩
    have L3 := L2.kept (Kept.of (x := w2.heap.size) hb3) (Nat.ne_of_lt L2.lt)
    have ev : nodeV a.f B a.kids.len d = .agg #[.int .i64 a.f.k, .int .i64 a.f.vk, .int .i64 a.f.vn, .string a.f.vs, .int .i64 a.f.r1, .int .i64 a.f.r2, .int .i64 a.f.r3, .int .i64 a.f.r4, .string a.f.op, .slice B a.kids.len d] := rfl
    rw [ev]
    clear ev
    have M4 : NLoc (w3.alloc (.cells #[.int .i64 a.f.k, .int .i64 a.f.vk, .int .i64 a.f.vn, .string a.f.vs, .int .i64 a.f.r1, .int .i64 a.f.r2, .int .i64 a.f.r3, .int .i64 a.f.r4, .string a.f.op, .slice B a.kids.len d] 30)) w3.heap.size a.f B a.kids.len d := ⟨heap_alloc_new _ _⟩
    have B4 : Below w.heap.size w (w3.alloc (.cells #[.int .i64 a.f.k, .int .i64 a.f.vk, .int .i64 a.f.vn, .string a.f.vs, .int .i64 a.f.r1, .int .i64 a.f.r2, .int .i64 a.f.r3, .int .i64 a.f.r4, .string a.f.op, .slice B a.kids.len d] 30)) := (B2.trans (hb3.mono B2.size)).alloc (by have := B2.size; have := hb3.size; omega) _
    have KM4 : KidsAt (w3.alloc (.cells #[.int .i64 a.f.k, .int .i64 a.f.vk, .int .i64 a.f.vn, .string a.f.vs, .int .i64 a.f.r1, .int .i64 a.f.r2, .int .i64 a.f.r3, .int .i64 a.f.r4, .string a.f.op, .slice B a.kids.len d] 30)) (fun g => g < (w3.alloc (.cells #[.int .i64 a.f.k, .int .i64 a.f.vk, .int .i64 a.f.vn, .string a.f.vs, .int .i64 a.f.r1, .int .i64 a.f.r2, .int .i64 a.f.r3, .int .i64 a.f.r4, .string a.f.op, .slice B a.kids.len d] 30)).heap.size) a.kids B := hK3.keep (y := w3.heap.size) ((Kept.refl _ _).alloc _) (fun g hg hlt => ⟨by omega, by simp; omega⟩)
    have g4 : Below w3.heap.size w3 (w3.alloc (.cells #[.int .i64 a.f.k, .int .i64 a.f.vk, .int .i64 a.f.vn, .string a.f.vs, .int .i64 a.f.r1, .int .i64 a.f.r2, .int .i64 a.f.r3, .int .i64 a.f.r4, .string a.f.op, .slice B a.kids.len d] 30)) := (Below.refl _ _).alloc (Nat.le_refl _) _
    have L4 := L3.kept (Kept.of (x := w3.heap.size) g4) (Nat.ne_of_lt L3.lt)
    clear L2 L3 hb3 hK3 g4 B2 HPT
    obtain ⟨d0, d1, d2, d3, d4, d5, d6, d7, d8, d9, -⟩ := L4.cells
    obtain ⟨m0, m1, m2, m3, m4, m5, m6, m7, m8, m9, -⟩ := M4.cells
    have HSM := Lib.hid (csame_self a B A d c _ sa KM4 (kids_now HA.out B4))
    clear L4 M4 KM4
    go_wp2_with fail
    generalize (w3.alloc (.cells #[.int .i64 a.f.k, .int .i64 a.f.vk, .int .i64 a.f.vn, .string a.f.vs, .int .i64 a.f.r1, .int .i64 a.f.r2, .int .i64 a.f.r3, .int .i64 a.f.r4, .string a.f.op, .slice B a.kids.len d] 30)) = W4 at *
    generalize w3.heap.size = g3 at *
    refine HSM.out.mono ?_; rintro e w5 ⟨rfl, hb5⟩
    have B5 := B4.trans (hb5.mono B4.size)
    clear d0 d1 d2 d3 d4 d5 d6 d7 d8 d9 m0 m1 m2 m3 m4 m5 m6 m7 m8 m9 hb5 B4 HSM
    have HPS := Lib.hid (cParse s w5 (by omega) (HL.out.below B5) (HG.out.below B5))
    have HPG := Lib.hid (fun h => And.intro (parse_good s.data.toList h) (parse_wide (s := s.data.toList) h).1)
    generalize parseL s.data.toList = pr at *
    obtain ⟨b, pat, per⟩ := pr
    simp only at HPG
    go_wp2_with fail
    refine HPS.out.mono ?_; rintro e wp ⟨v, rfl, hbp, B, d, rfl, hKp⟩
    have ev : nodeV b.f B b.kids.len d = .agg #[.int .i64 b.f.k, .int .i64 b.f.vk, .int .i64 b.f.vn, .string b.f.vs, .int .i64 b.f.r1, .int .i64 b.f.r2, .int .i64 b.f.r3, .int .i64 b.f.r4, .string b.f.op, .slice B b.kids.len d] := rfl
    rw [ev]
    clear ev
    have Lp : NLoc (wp.alloc (.cells #[.int .i64 b.f.k, .int .i64 b.f.vk, .int .i64 b.f.vn, .string b.f.vs, .int .i64 b.f.r1, .int .i64 b.f.r2, .int .i64 b.f.r3, .int .i64 b.f.r4, .string b.f.op, .slice B b.kids.len d] 30)) wp.heap.size b.f B b.kids.len d := ⟨heap_alloc_new _ _⟩
    have Bp : Below w.heap.size w (wp.alloc (.cells #[.int .i64 b.f.k, .int .i64 b.f.vk, .int .i64 b.f.vn, .string b.f.vs, .int .i64 b.f.r1, .int .i64 b.f.r2, .int .i64 b.f.r3, .int .i64 b.f.r4, .string b.f.op, .slice B b.kids.len d] 30)) := (B5.trans (hbp.mono B5.size)).alloc (by have := B5.size; have := hbp.size; omega) _
    have KLp : KidsAt (wp.alloc (.cells #[.int .i64 b.f.k, .int .i64 b.f.vk, .int .i64 b.f.vn, .string b.f.vs, .int .i64 b.f.r1, .int .i64 b.f.r2, .int .i64 b.f.r3, .int .i64 b.f.r4, .string b.f.op, .slice B b.kids.len d] 30)) (fun g => g < (wp.alloc (.cells #[.int .i64 b.f.k, .int .i64 b.f.vk, .int .i64 b.f.vn, .string b.f.vs, .int .i64 b.f.r1, .int .i64 b.f.r2, .int .i64 b.f.r3, .int .i64 b.f.r4, .string b.f.op, .slice B b.kids.len d] 30)).heap.size) b.kids B := hKp.keep (y := wp.heap.size) ((Kept.refl _ _).alloc _) (fun g hg hlt => ⟨by omega, by simp; omega⟩)
    clear HPS hbp hKp B5
    simp only at Lp Bp KLp ⊢
    by_cases hper : per = 0
    · subst hper
      obtain ⟨⟨hgd, -, hbz⟩, hbw⟩ := HPG.out rfl
      have hgood : goodN b = true := hgd
      have HT := Lib.hid (fun (W : World) (A : Option Addr) (c : Nat) hl hk => cText b A c W (by omega) hbw hl hk)
      clear HPG hgd
      obtain ⟨d0, d1, d2, d3, d4, d5, d6, d7, d8, d9, -⟩ := Lp.cells
      go_wp2_with fail
      generalize (wp.alloc (.cells #[.int .i64 b.f.k, .int .i64 b.f.vk, .int .i64 b.f.vn, .string b.f.vs, .int .i64 b.f.r1, .int .i64 b.f.r2, .int .i64 b.f.r3, .int .i64 b.f.r4, .string b.f.op, .slice B b.kids.len d] 30)) = Wp at *
      generalize wp.heap.size = gp at *
      refine (HT.out Wp B d (HL.out.below Bp) KLp).mono ?_; rintro e w4 ⟨rfl, hb4⟩
      have L4 := Lp.kept (Kept.of (x := Wp.heap.size) hb4) (Nat.ne_of_lt Lp.lt)
      have B4 := Bp.trans (hb4.mono Bp.size)
      have K4 := below_row KLp hb4
      clear d0 d1 d2 d3 d4 d5 d6 d7 d8 d9 Lp KLp hb4 Bp
      rcases textR_good hgood with herr | herr
      · rw [herr]
        have HB1 := Lib.hid (back1 herr hbw)
        have HPT := Lib.hid (fun (W : World) hl hg => cParseT b W hl hg)
        rw [HB1.out] at HPT
        have HT2 : Hid (∀ (W : World) (A : Option Addr) (c : Nat), LexLib W → KidsAt W (fun g => g < W.heap.size) b.kids A → Calls Tryz.prog 10 #[.agg #[.int .i64 b.f.k, .int .i64 b.f.vk, .int .i64 b.f.vn, .string b.f.vs, .int .i64 b.f.r1, .int .i64 b.f.r2, .int .i64 b.f.r3, .int .i64 b.f.r4, .string b.f.op, .slice A b.kids.len c]] W fun e w' => e = .returned (.tuple #[.string (str (textR b).s), .int .i64 0]) ∧ Below W.heap.size W w') := Lib.hid (fun W A c h1 h2 => by have := HT.out W A c h1 h2; rwa [herr] at this)
        clear herr HT HB1
        generalize str (textR b).s = T at *
        go_wp2_with fail
        refine (HPT.out w4 (HL.out.below B4) (HG.out.below B4)).mono ?_; rintro e w5 ⟨v, rfl, hb5, B5, dd5, rfl, hK5⟩
        have L5 := L4.kept (Kept.of (x := w4.heap.size) hb5) (Nat.ne_of_lt L4.lt)
        have K5 := below_row K4 hb5
        have ev : nodeV b.f B5 b.kids.len dd5 = .agg #[.int .i64 b.f.k, .int .i64 b.f.vk, .int .i64 b.f.vn, .string b.f.vs, .int .i64 b.f.r1, .int .i64 b.f.r2, .int .i64 b.f.r3, .int .i64 b.f.r4, .string b.f.op, .slice B5 b.kids.len dd5] := rfl
        rw [ev]
        clear ev
        have M6 : NLoc (w5.alloc (.cells #[.int .i64 b.f.k, .int .i64 b.f.vk, .int .i64 b.f.vn, .string b.f.vs, .int .i64 b.f.r1, .int .i64 b.f.r2, .int .i64 b.f.r3, .int .i64 b.f.r4, .string b.f.op, .slice B5 b.kids.len dd5] 30)) w5.heap.size b.f B5 b.kids.len dd5 := ⟨heap_alloc_new _ _⟩
        have B6 : Below w.heap.size w (w5.alloc (.cells #[.int .i64 b.f.k, .int .i64 b.f.vk, .int .i64 b.f.vn, .string b.f.vs, .int .i64 b.f.r1, .int .i64 b.f.r2, .int .i64 b.f.r3, .int .i64 b.f.r4, .string b.f.op, .slice B5 b.kids.len dd5] 30)) := (B4.trans (hb5.mono B4.size)).alloc (by have := B4.size; have := hb5.size; omega) _
        have KM6 : KidsAt (w5.alloc (.cells #[.int .i64 b.f.k, .int .i64 b.f.vk, .int .i64 b.f.vn, .string b.f.vs, .int .i64 b.f.r1, .int .i64 b.f.r2, .int .i64 b.f.r3, .int .i64 b.f.r4, .string b.f.op, .slice B5 b.kids.len dd5] 30)) (fun g => g < (w5.alloc (.cells #[.int .i64 b.f.k, .int .i64 b.f.vk, .int .i64 b.f.vn, .string b.f.vs, .int .i64 b.f.r1, .int .i64 b.f.r2, .int .i64 b.f.r3, .int .i64 b.f.r4, .string b.f.op, .slice B5 b.kids.len dd5] 30)).heap.size) b.kids B5 := hK5.keep (y := w5.heap.size) ((Kept.refl _ _).alloc _) (fun g hg hlt => ⟨by omega, by simp; omega⟩)
        have g6 : Below w5.heap.size w5 (w5.alloc (.cells #[.int .i64 b.f.k, .int .i64 b.f.vk, .int .i64 b.f.vn, .string b.f.vs, .int .i64 b.f.r1, .int .i64 b.f.r2, .int .i64 b.f.r3, .int .i64 b.f.r4, .string b.f.op, .slice B5 b.kids.len dd5] 30)) := (Below.refl _ _).alloc (Nat.le_refl _) _
        have L6 := L5.kept (Kept.of (x := w5.heap.size) g6) (Nat.ne_of_lt L5.lt)
        have K6 := below_row K5 g6
        clear L4 K4 L5 K5 hb5 hK5 g6 B4
        obtain ⟨d0, d1, d2, d3, d4, d5, d6, d7, d8, d9, -⟩ := M6.cells
        go_wp2_with fail
        generalize (w5.alloc (.cells #[.int .i64 b.f.k, .int .i64 b.f.vk, .int .i64 b.f.vn, .string b.f.vs, .int .i64 b.f.r1, .int .i64 b.f.r2, .int .i64 b.f.r3, .int .i64 b.f.r4, .string b.f.op, .slice B5 b.kids.len dd5] 30)) = W6 at *
        generalize w5.heap.size = g5 at *
        refine (HT2.out W6 B5 dd5 (HL.out.below B6) KM6).mono ?_; rintro e w7 ⟨rfl, hb7⟩
        have L7 := L6.kept (Kept.of (x := W6.heap.size) hb7) (Nat.ne_of_lt L6.lt)
        have M7 := M6.kept (Kept.of (x := W6.heap.size) hb7) (Nat.ne_of_lt M6.lt)
        have B7 := B6.trans (hb7.mono B6.size)
        have K7 := below_row K6 hb7
        have J7 := below_row KM6 hb7
        clear d0 d1 d2 d3 d4 d5 d6 d7 d8 d9 L6 M6 K6 KM6 hb7 B6
        obtain ⟨d0, d1, d2, d3, d4, d5, d6, d7, d8, d9, -⟩ := M7.cells
        obtain ⟨m0, m1, m2, m3, m4, m5, m6, m7, m8, m9, -⟩ := L7.cells
        have HSM := Lib.hid (csame_self b B5 B dd5 d w7 hbz J7 K7)
        go_wp2_with fail
        refine HSM.out.mono ?_; rintro e w8 ⟨rfl, hb8⟩
        have B8 := B7.trans (hb8.mono B7.size)
        go_wp2_with fail
        refine (HW.out _ B8).mono ?_; rintro e w9 ⟨rfl, hb9⟩
        go_wp2_with fail
        go_ret
        exact ⟨ret1 rfl, B8.trans (hb9.mono B8.size)⟩
      · rw [herr]
        clear HT herr
        generalize str (textR b).s = T at *
        go_wp2_with fail
        refine (HW.out _ B4).mono ?_; rintro e w5 ⟨rfl, hb5⟩
        go_wp2_with fail
        go_ret
        exact ⟨ret1 rfl, B4.trans (hb5.mono B4.size)⟩
    · have p1 : (per == 0) = false := beq_eq_false_iff_ne.2 hper
      clear HPG KLp
      go_wp2_with fail
      refine (HW.out _ Bp).mono ?_; rintro e w5 ⟨rfl, hb5⟩
      go_wp2_with fail
      go_ret
      exact ⟨ret1 rfl, Bp.trans (hb5.mono Bp.size)⟩
  · have p1 : ((textR a).err == 0) = false := beq_eq_false_iff_ne.2 herr
    generalize (textR a).err = er at *
    generalize str (textR a).s = T at *
    clear L2
    have HPS := Lib.hid (cParse s w2 (by omega) (HL.out.below B2) (HG.out.below B2))
    have HPG := Lib.hid (fun h => And.intro (parse_good s.data.toList h) (parse_wide (s := s.data.toList) h).1)
    generalize parseL s.data.toList = pr at *
    obtain ⟨b, pat, per⟩ := pr
    simp only at HPG
    go_wp2_with fail
    refine HPS.out.mono ?_; rintro e wp ⟨v, rfl, hbp, B, d, rfl, hKp⟩
    have ev : nodeV b.f B b.kids.len d = .agg #[.int .i64 b.f.k, .int .i64 b.f.vk, .int .i64 b.f.vn, .string b.f.vs, .int .i64 b.f.r1, .int .i64 b.f.r2, .int .i64 b.f.r3, .int .i64 b.f.r4, .string b.f.op, .slice B b.kids.len d] := rfl
    rw [ev]
    clear ev
    have Lp : NLoc (wp.alloc (.cells #[.int .i64 b.f.k, .int .i64 b.f.vk, .int .i64 b.f.vn, .string b.f.vs, .int .i64 b.f.r1, .int .i64 b.f.r2, .int .i64 b.f.r3, .int .i64 b.f.r4, .string b.f.op, .slice B b.kids.len d] 30)) wp.heap.size b.f B b.kids.len d := ⟨heap_alloc_new _ _⟩
    have Bp : Below w.heap.size w (wp.alloc (.cells #[.int .i64 b.f.k, .int .i64 b.f.vk, .int .i64 b.f.vn, .string b.f.vs, .int .i64 b.f.r1, .int .i64 b.f.r2, .int .i64 b.f.r3, .int .i64 b.f.r4, .string b.f.op, .slice B b.kids.len d] 30)) := (B2.trans (hbp.mono B2.size)).alloc (by have := B2.size; have := hbp.size; omega) _
    have KLp : KidsAt (wp.alloc (.cells #[.int .i64 b.f.k, .int .i64 b.f.vk, .int .i64 b.f.vn, .string b.f.vs, .int .i64 b.f.r1, .int .i64 b.f.r2, .int .i64 b.f.r3, .int .i64 b.f.r4, .string b.f.op, .slice B b.kids.len d] 30)) (fun g => g < (wp.alloc (.cells #[.int .i64 b.f.k, .int .i64 b.f.vk, .int .i64 b.f.vn, .string b.f.vs, .int .i64 b.f.r1, .int .i64 b.f.r2, .int .i64 b.f.r3, .int .i64 b.f.r4, .string b.f.op, .slice B b.kids.len d] 30)).heap.size) b.kids B := hKp.keep (y := wp.heap.size) ((Kept.refl _ _).alloc _) (fun g hg hlt => ⟨by omega, by simp; omega⟩)
    clear HPS hbp hKp B2
    simp only at Lp Bp KLp ⊢
    by_cases hper : per = 0
    · subst hper
      obtain ⟨⟨hgd, -, hbz⟩, hbw⟩ := HPG.out rfl
      have hgood : goodN b = true := hgd
      have HT := Lib.hid (fun (W : World) (A : Option Addr) (c : Nat) hl hk => cText b A c W (by omega) hbw hl hk)
      clear HPG hgd
      obtain ⟨d0, d1, d2, d3, d4, d5, d6, d7, d8, d9, -⟩ := Lp.cells
      go_wp2_with fail
      generalize (wp.alloc (.cells #[.int .i64 b.f.k, .int .i64 b.f.vk, .int .i64 b.f.vn, .string b.f.vs, .int .i64 b.f.r1, .int .i64 b.f.r2, .int .i64 b.f.r3, .int .i64 b.f.r4, .string b.f.op, .slice B b.kids.len d] 30)) = Wp at *
      generalize wp.heap.size = gp at *
      refine (HT.out Wp B d (HL.out.below Bp) KLp).mono ?_; rintro e w4 ⟨rfl, hb4⟩
      have L4 := Lp.kept (Kept.of (x := Wp.heap.size) hb4) (Nat.ne_of_lt Lp.lt)
      have B4 := Bp.trans (hb4.mono Bp.size)
      have K4 := below_row KLp hb4
      clear d0 d1 d2 d3 d4 d5 d6 d7 d8 d9 Lp KLp hb4 Bp
      rcases textR_good hgood with herr | herr
      · rw [herr]
        have HB1 := Lib.hid (back1 herr hbw)
        have HPT := Lib.hid (fun (W : World) hl hg => cParseT b W hl hg)
        rw [HB1.out] at HPT
        have HT2 : Hid (∀ (W : World) (A : Option Addr) (c : Nat), LexLib W → KidsAt W (fun g => g < W.heap.size) b.kids A → Calls Tryz.prog 10 #[.agg #[.int .i64 b.f.k, .int .i64 b.f.vk, .int .i64 b.f.vn, .string b.f.vs, .int .i64 b.f.r1, .int .i64 b.f.r2, .int .i64 b.f.r3, .int .i64 b.f.r4, .string b.f.op, .slice A b.kids.len c]] W fun e w' => e = .returned (.tuple #[.string (str (textR b).s), .int .i64 0]) ∧ Below W.heap.size W w') := Lib.hid (fun W A c h1 h2 => by have := HT.out W A c h1 h2; rwa [herr] at this)
        clear herr HT HB1
        generalize str (textR b).s = T at *
        go_wp2_with fail
        refine (HPT.out w4 (HL.out.below B4) (HG.out.below B4)).mono ?_; rintro e w5 ⟨v, rfl, hb5, B5, dd5, rfl, hK5⟩
        have L5 := L4.kept (Kept.of (x := w4.heap.size) hb5) (Nat.ne_of_lt L4.lt)
        have K5 := below_row K4 hb5
        have ev : nodeV b.f B5 b.kids.len dd5 = .agg #[.int .i64 b.f.k, .int .i64 b.f.vk, .int .i64 b.f.vn, .string b.f.vs, .int .i64 b.f.r1, .int .i64 b.f.r2, .int .i64 b.f.r3, .int .i64 b.f.r4, .string b.f.op, .slice B5 b.kids.len dd5] := rfl
        rw [ev]
        clear ev
        have M6 : NLoc (w5.alloc (.cells #[.int .i64 b.f.k, .int .i64 b.f.vk, .int .i64 b.f.vn, .string b.f.vs, .int .i64 b.f.r1, .int .i64 b.f.r2, .int .i64 b.f.r3, .int .i64 b.f.r4, .string b.f.op, .slice B5 b.kids.len dd5] 30)) w5.heap.size b.f B5 b.kids.len dd5 := ⟨heap_alloc_new _ _⟩
        have B6 : Below w.heap.size w (w5.alloc (.cells #[.int .i64 b.f.k, .int .i64 b.f.vk, .int .i64 b.f.vn, .string b.f.vs, .int .i64 b.f.r1, .int .i64 b.f.r2, .int .i64 b.f.r3, .int .i64 b.f.r4, .string b.f.op, .slice B5 b.kids.len dd5] 30)) := (B4.trans (hb5.mono B4.size)).alloc (by have := B4.size; have := hb5.size; omega) _
        have KM6 : KidsAt (w5.alloc (.cells #[.int .i64 b.f.k, .int .i64 b.f.vk, .int .i64 b.f.vn, .string b.f.vs, .int .i64 b.f.r1, .int .i64 b.f.r2, .int .i64 b.f.r3, .int .i64 b.f.r4, .string b.f.op, .slice B5 b.kids.len dd5] 30)) (fun g => g < (w5.alloc (.cells #[.int .i64 b.f.k, .int .i64 b.f.vk, .int .i64 b.f.vn, .string b.f.vs, .int .i64 b.f.r1, .int .i64 b.f.r2, .int .i64 b.f.r3, .int .i64 b.f.r4, .string b.f.op, .slice B5 b.kids.len dd5] 30)).heap.size) b.kids B5 := hK5.keep (y := w5.heap.size) ((Kept.refl _ _).alloc _) (fun g hg hlt => ⟨by omega, by simp; omega⟩)
        have g6 : Below w5.heap.size w5 (w5.alloc (.cells #[.int .i64 b.f.k, .int .i64 b.f.vk, .int .i64 b.f.vn, .string b.f.vs, .int .i64 b.f.r1, .int .i64 b.f.r2, .int .i64 b.f.r3, .int .i64 b.f.r4, .string b.f.op, .slice B5 b.kids.len dd5] 30)) := (Below.refl _ _).alloc (Nat.le_refl _) _
        have L6 := L5.kept (Kept.of (x := w5.heap.size) g6) (Nat.ne_of_lt L5.lt)
        have K6 := below_row K5 g6
        clear L4 K4 L5 K5 hb5 hK5 g6 B4
        obtain ⟨d0, d1, d2, d3, d4, d5, d6, d7, d8, d9, -⟩ := M6.cells
        go_wp2_with fail
        generalize (w5.alloc (.cells #[.int .i64 b.f.k, .int .i64 b.f.vk, .int .i64 b.f.vn, .string b.f.vs, .int .i64 b.f.r1, .int .i64 b.f.r2, .int .i64 b.f.r3, .int .i64 b.f.r4, .string b.f.op, .slice B5 b.kids.len dd5] 30)) = W6 at *
        generalize w5.heap.size = g5 at *
        refine (HT2.out W6 B5 dd5 (HL.out.below B6) KM6).mono ?_; rintro e w7 ⟨rfl, hb7⟩
        have L7 := L6.kept (Kept.of (x := W6.heap.size) hb7) (Nat.ne_of_lt L6.lt)
        have M7 := M6.kept (Kept.of (x := W6.heap.size) hb7) (Nat.ne_of_lt M6.lt)
        have B7 := B6.trans (hb7.mono B6.size)
        have K7 := below_row K6 hb7
        have J7 := below_row KM6 hb7
        clear d0 d1 d2 d3 d4 d5 d6 d7 d8 d9 L6 M6 K6 KM6 hb7 B6
        obtain ⟨d0, d1, d2, d3, d4, d5, d6, d7, d8, d9, -⟩ := M7.cells
        obtain ⟨m0, m1, m2, m3, m4, m5, m6, m7, m8, m9, -⟩ := L7.cells
        have HSM := Lib.hid (csame_self b B5 B dd5 d w7 hbz J7 K7)
        go_wp2_with fail
        refine HSM.out.mono ?_; rintro e w8 ⟨rfl, hb8⟩
        have B8 := B7.trans (hb8.mono B7.size)
        go_wp2_with fail
        refine (HW.out _ B8).mono ?_; rintro e w9 ⟨rfl, hb9⟩
        go_wp2_with fail
        go_ret
        exact ⟨ret1 rfl, B8.trans (hb9.mono B8.size)⟩
      · rw [herr]
        clear HT herr
        generalize str (textR b).s = T at *
        go_wp2_with fail
        refine (HW.out _ B4).mono ?_; rintro e w5 ⟨rfl, hb5⟩
        go_wp2_with fail
        go_ret
        exact ⟨ret1 rfl, B4.trans (hb5.mono B4.size)⟩
    · have p1 : (per == 0) = false := beq_eq_false_iff_ne.2 hper
      clear HPG KLp
      go_wp2_with fail
      refine (HW.out _ Bp).mono ?_; rintro e w5 ⟨rfl, hb5⟩
      go_wp2_with fail
      go_ret
      exact ⟨ret1 rfl, Bp.trans (hb5.mono Bp.size)⟩
end Go.Proofs.YtbgjdfghcnblcaaGreatDoor.PrintC
