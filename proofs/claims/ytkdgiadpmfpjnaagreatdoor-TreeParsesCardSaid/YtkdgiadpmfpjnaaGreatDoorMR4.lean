/-
  Contract of tree's reference: Parse.
-/
import Derived.Test.YtkdgiadpmfpjnaaGreatDoorMR2
import Derived.Test.YtkdgiadpmfpjnaaGreatDoorMK2
import Derived.Test.YtkdgiadpmfpjnaaGreatDoorMV
namespace Go.Proofs.YtkdgiadpmfpjnaaGreatDoor.TreeC
set_option linter.unusedVariables false
open Go.RowKit Go.Proofs.YtkdgiadpmfpjnaaGreatDoor.NumC Go.Proofs.YtkdgiadpmfpjnaaGreatDoor.LexC

theorem parse_err {s : List UInt8} {b : Bad} (h : (cutL s).err = 0) (ho : (lev (cutL s).toks s.length 41).fm 0 = .error b) : parseL s = ⟨zeroN, b.2, b.1⟩ := by
  unfold parseL treeF; rw [if_neg (by rw [h]; decide), ho]
theorem parse_more {s : List UInt8} {a : Nd} {k : Nat} (h : (cutL s).err = 0) (ho : (lev (cutL s).toks s.length 41).fm 0 = .ok (a, k)) (hk : k < (cutL s).toks.length) : parseL s = ⟨zeroN, (badAt (cutL s).toks s.length k).2, 13⟩ := by
  unfold parseL treeF; rw [if_neg (by rw [h]; decide), ho]; simp only [if_pos hk]; rfl
theorem parse_deep {s : List UInt8} {a : Nd} {k : Nat} (h : (cutL s).err = 0) (ho : (lev (cutL s).toks s.length 41).fm 0 = .ok (a, k)) (hk : ¬ k < (cutL s).toks.length) (hd : 16 < a.deep) : parseL s = ⟨zeroN, 0, 14⟩ := by
  unfold parseL treeF; rw [if_neg (by rw [h]; decide), ho]; simp only [if_neg hk, if_pos hd]
theorem parse_fine {s : List UInt8} {a : Nd} {k : Nat} (h : (cutL s).err = 0) (ho : (lev (cutL s).toks s.length 41).fm 0 = .ok (a, k)) (hk : ¬ k < (cutL s).toks.length) (hd : ¬ 16 < a.deep) : parseL s = ⟨a, 0, 0⟩ := by
  unfold parseL treeF; rw [if_neg (by rw [h]; decide), ho]; simp only [if_neg hk, if_neg hd]
theorem kept_drew1 {x : Nat} {a w : World} (h : Kept x a w) : Kept x a w.drew := h.drew 1
theorem two_kept9 {w w' : World} {x y : Nat} {u v : Value} (h : w.cell? ⟨x, 5, none⟩ = some u ∧ w.cell? ⟨x, 4, none⟩ = some v) (hx : x ≠ y) (hk : Kept y w w') : w'.cell? ⟨x, 5, none⟩ = some u ∧ w'.cell? ⟨x, 4, none⟩ = some v := ⟨hk.cell hx h.1, hk.cell hx h.2⟩
theorem pre_start {w2 : World} {base : Nat} {v : Value} {l : List Tok} {en : Int} (h : w2.ownsRow base 71 4 v l.length (tcells l)) :
    Pre (w2.alloc (.cells #[v, .int .i64 0, .int .i64 en, .int .i64 0, .int .i64 0, .int .i64 0] 66)) w2.heap.size v l en 0 0 0 0 := by
  have hb : Below w2.heap.size w2 (w2.alloc (.cells #[v, .int .i64 0, .int .i64 en, .int .i64 0, .int .i64 0, .int .i64 0] 66)) := (Below.refl _ _).alloc (Nat.le_refl _) _
  obtain ⟨A, c, e, hT⟩ := (tokAt_own h).form
  refine ⟨heap_alloc_new _ _, A, c, e, fun i hi => ?_⟩
  obtain ⟨g, e, f0, f1, f2, f3⟩ := hT i hi
  exact ⟨g, e, World.block_lt_of_cell? w2 _ f0, cell_later hb f0, cell_later hb f1, cell_later hb f2, cell_later hb f3⟩
set_option maxRecDepth 100000 in
set_option maxHeartbeats 2000000 in
theorem rParse (s : ByteArray) (w : World) (hs : s.size ≤ 1000000) : Calls Tryz.prog 11 #[.string s] w (ParsePost w (parseL s.data.toList)) := by
  have X1 := NBox.new w
  have B1 : Below w.heap.size w (w.alloc (.cells #[.int .i64 0, .int .i64 0, .int .i64 0, .string { data := #[] }, .int .i64 0, .int .i64 0, .int .i64 0, .int .i64 0, .string { data := #[] }, .slice none 0 0] 31)) := (Below.refl _ _).alloc (Nat.le_refl _) _
  have HSZ := Lib.hid hs
  have hslen : s.data.toList.length = s.size := Array.length_toList
  have HSL := Lib.hid hslen
  clear hslen
  go_enter Tryz.func11, Tryz.ntmps11
  go_wp2_with fail
  generalize (w.alloc (.cells #[.int .i64 0, .int .i64 0, .int .i64 0, .string { data := #[] }, .int .i64 0, .int .i64 0, .int .i64 0, .int .i64 0, .string { data := #[] }, .slice none 0 0] 31)) = W1 at *
  refine (rcut s W1 hs).mono ?_; rintro e w2 ⟨v, rfl, hown, hb2⟩
  have B2 := B1.trans (hb2.mono B1.size)
  have X2 := X1.kept (Kept.of (x := W1.heap.size) hb2) (Nat.ne_of_lt X1.lt)
  have lt2 := X2.lt
  clear X1 B1
  by_cases he : (cutL s.data.toList).err = 0
  rotate_left
  · have EO := Lib.hid (parse_lex he)
    have e1 : ((cutL s.data.toList).err != 0) = true := by rw [bne, beq_eq_false_iff_ne.2 he]; rfl
    obtain ⟨f0, f1, f2, f3, f4, f5, f6, f7, f8, f9, z0, z1, z2, z3, z4, z5, z6, z7, z8, z9⟩ := (X2).cells
    clear hown
    go_wp2_with fail
    refine bodyPost_ret (v := .tuple #[.agg #[.int .i64 0, .int .i64 0, .int .i64 0, .string { data := #[] }, .int .i64 0, .int .i64 0, .int .i64 0, .int .i64 0, .string { data := #[] }, .slice none 0 0], .int .i64 (cutL s.data.toList).at_, .int .i64 (cutL s.data.toList).err]) (by simp [results, Tryz.results11, go_sem, f0, f1, f2, f3, f4, f5, f6, f7, f8, f9]) rfl (ParsePost.zero (V := w2) EO.out B2 ?_)
    repeat (first | with_reducible exact Kept.refl _ _ | with_reducible refine Kept.setCell ?_ _ _ | with_reducible refine Kept.alloc ?_ _ | with_reducible refine Kept.drew ?_ _ | with_reducible refine kept_drew1 ?_)
  · have e1 : ((cutL s.data.toList).err != 0) = false := by rw [he]; rfl
    have HE := Lib.hid he
    obtain ⟨hl3, hts⟩ := cut_few s.data.toList
    have H3 := pre_start (en := (s.size : Int)) hown
    obtain ⟨TA, tc, hlv, -⟩ := (tokAt_own hown).form
    subst hlv
    clear he hown
    have HL3 := Lib.hid hl3
    have HTS := Lib.hid hts
    have X3 := X2.kept ((Kept.refl w2.heap.size w2).alloc (.cells #[.slice TA (cutL s.data.toList).toks.length tc, .int .i64 0, .int .i64 (s.size : Int), .int .i64 0, .int .i64 0, .int .i64 0] 66)) (Nat.ne_of_lt lt2)
    have B3 : Below w.heap.size w (w2.alloc (.cells #[.slice TA (cutL s.data.toList).toks.length tc, .int .i64 0, .int .i64 (s.size : Int), .int .i64 0, .int .i64 0, .int .i64 0] 66)) := B2.alloc B2.size _
    have hbx : w.heap.size ≠ w2.heap.size := Nat.ne_of_lt lt2
    have hxb : w2.heap.size ≠ w.heap.size := Ne.symm hbx
    clear X2 B2 hts hb2
    go_wp2_with fail
    generalize hW3 : (w2.alloc (.cells #[.slice TA (cutL s.data.toList).toks.length tc, .int .i64 0, .int .i64 (s.size : Int), .int .i64 0, .int .i64 0, .int .i64 0] 66)) = W3 at *
    refine (rtop hl3 (fun u hu => by have := HTS.out u hu; omega) W3 H3).mono ?_; intro e w4 hp
    clear hW3
    obtain ⟨f, A, m, c, rfl, k4, hm⟩ := post_split hp
    clear hp
    unfold nodeV
    have X4 := X3.kept k4 hbx
    have lt4 := X4.lt
    have hx4 : w2.heap.size < w4.heap.size := by have := H3.at_.lt; have := k4.size; omega
    have B4 : Below w.heap.size w w4 := ⟨k4.os.trans B3.os, k4.tape.trans B3.tape, k4.output.trans B3.output, Nat.le_trans B3.size k4.size, fun k hk => (k4.block k (Nat.lt_of_lt_of_le hk B3.size) (by omega)).trans (B3.block k hk)⟩
    have hB3s := B3.size
    have k5 : Kept w4.heap.size w4 (w4.alloc (.cells #[.int .i64 f.k, .int .i64 f.vk, .int .i64 f.vn, .string f.vs, .int .i64 f.r1, .int .i64 f.r2, .int .i64 f.r3, .int .i64 f.r4, .string f.op, .slice A m c] 31)) := (Kept.refl _ w4).alloc _
    have X5 := X4.kept k5 (Nat.ne_of_lt lt4)
    have L5 : NLoc (w4.alloc (.cells #[.int .i64 f.k, .int .i64 f.vk, .int .i64 f.vn, .string f.vs, .int .i64 f.r1, .int .i64 f.r2, .int .i64 f.r3, .int .i64 f.r4, .string f.op, .slice A m c] 31)) w4.heap.size f A m c := ⟨heap_alloc_new _ _⟩
    have B5 : Below w.heap.size w (w4.alloc (.cells #[.int .i64 f.k, .int .i64 f.vk, .int .i64 f.vn, .string f.vs, .int .i64 f.r1, .int .i64 f.r2, .int .i64 f.r3, .int .i64 f.r4, .string f.op, .slice A m c] 31)) := B4.alloc B4.size _
    have nb1 : w.heap.size ≠ w4.heap.size := Nat.ne_of_lt lt4
    have nb2 : w4.heap.size ≠ w.heap.size := Ne.symm nb1
    have nb3 : w4.heap.size ≠ w2.heap.size := by omega
    have nb4 : w2.heap.size ≠ w4.heap.size := by omega
    have hx3 : w2.heap.size < W3.heap.size := H3.at_.lt
    clear X3 X4 B3 B4 H3
    rcases hm with ⟨kd, k', ho, hm, hA, hP⟩ | ⟨b, k2, n2, ho, hb0, hn2, hn3, hP⟩
    · rw [show (s.size : Int) = ((s.data.toList.length : Nat) : Int) from by rw [HSL.out]] at ho
      have hP5 := hP.alloc (.cells #[.int .i64 f.k, .int .i64 f.vk, .int .i64 f.vn, .string f.vs, .int .i64 f.r1, .int .i64 f.r2, .int .i64 f.r3, .int .i64 f.r4, .string f.op, .slice A m c] 31)
      have A5 : KidsAt (w4.alloc (.cells #[.int .i64 f.k, .int .i64 f.vk, .int .i64 f.vn, .string f.vs, .int .i64 f.r1, .int .i64 f.r2, .int .i64 f.r3, .int .i64 f.r4, .string f.op, .slice A m c] 31)) (fun g => w.heap.size < g ∧ g ≠ w4.heap.size) kd A := hA.keep k5 (fun g hg hl => ⟨by omega, by omega, by omega⟩)
      have hsz : (Nd.mk f kd).size ≤ 300 := by
        have h1 := (lev_sz (cutL s.data.toList).toks ((s.data.toList.length : Nat) : Int) 41).fm 0 _ _ ho
        have h2 := ((lev_goes (cutL s.data.toList).toks ((s.data.toList.length : Nat) : Int) 41).fm 0 _ _ ho).2
        omega
      have HO := Lib.hid ho
      have HM := Lib.hid hm
      clear ho hm hA hP k5
      obtain ⟨c0, c1, c2, c3, c4, c5, y1, y3, y4, y5⟩ := (hP5).at_.cells
      by_cases hk : k' < (cutL s.data.toList).toks.length
      · have EO := Lib.hid (parse_more HE.out HO.out hk)
        have d1 : (k' : Int) < (((cutL s.data.toList).toks.length : Nat) : Int) := by omega
        go_wp2_with fail
        clear c0 c1 c2 c3 c4 c5 y1 y3 y4 y5
        generalize (w4.alloc (.cells #[.int .i64 f.k, .int .i64 f.vk, .int .i64 f.vn, .string f.vs, .int .i64 f.r1, .int .i64 f.r2, .int .i64 f.r3, .int .i64 f.r4, .string f.op, .slice A m c] 31)) = W5 at *
        refine (rbad W5 hP5 HL3.out).mono ?_; rintro e w6 ⟨rfl, H6, k6⟩
        have X6 := X5.kept k6 hbx
        have B6 : Below w.heap.size w w6 := ⟨k6.os.trans B5.os, k6.tape.trans B5.tape, k6.output.trans B5.output, Nat.le_trans B5.size k6.size, fun k hk => (k6.block k (Nat.lt_of_lt_of_le hk B5.size) (by omega)).trans (B5.block k hk)⟩
        have lt6 := X6.lt
        have hx6 := H6.at_.lt
        obtain ⟨c0, c1, c2, c3, c4, c5, y1, y3, y4, y5⟩ := (H6).at_.cells
        obtain ⟨f0, f1, f2, f3, f4, f5, f6, f7, f8, f9, z0, z1, z2, z3, z4, z5, z6, z7, z8, z9⟩ := (X6).cells
        go_wp2_with fail
        have S9 := Lib.hid (show w6.drew.cell? ⟨w2.heap.size, 5, none⟩ = some (.int .i64 (badAt (cutL s.data.toList).toks ((s.size : Int)) k').2) ∧ w6.drew.cell? ⟨w2.heap.size, 4, none⟩ = some (.int .i64 13) from ⟨c5, c4⟩)
        have SH := Lib.hid (show w6.cell? ⟨w2.heap.size, 5, none⟩ = some (.int .i64 (badAt (cutL s.data.toList).toks ((s.size : Int)) k').2) ∧ w6.cell? ⟨w2.heap.size, 4, none⟩ = some (.int .i64 13) from ⟨c5, c4⟩)
        clear c0 c1 c2 c3 c4 c5 y1 y3 y4 y5
        go_region_held3 (fun w' => w'.cell? ⟨w2.heap.size, 5, none⟩ = some (.int .i64 (badAt (cutL s.data.toList).toks ((s.size : Int)) k').2) ∧ w'.cell? ⟨w2.heap.size, 4, none⟩ = some (.int .i64 13))
          (first | with_reducible exact S9.out | (refine two_kept9 (y := w.heap.size) SH.out hxb ?_; (repeat (first | with_reducible exact Kept.refl _ _ | with_reducible refine Kept.setCell ?_ _ _ | with_reducible refine Kept.alloc ?_ _ | with_reducible refine kept_drew1 ?_)); done)) (fail)
        all_goals (go_wp2_with fail)
        rw [show (s.size : Int) = ((s.data.toList.length : Nat) : Int) from by rw [HSL.out]]
        refine bodyPost_ret (v := .tuple #[.agg #[.int .i64 0, .int .i64 0, .int .i64 0, .string { data := #[] }, .int .i64 0, .int .i64 0, .int .i64 0, .int .i64 0, .string { data := #[] }, .slice none 0 0], .int .i64 (badAt (cutL s.data.toList).toks (s.data.toList.length : Nat) k').2, .int .i64 13]) (by simp [results, Tryz.results11, go_sem, f0, f1, f2, f3, f4, f5, f6, f7, f8, f9]) rfl (ParsePost.zero (V := w6) EO.out B6 ?_)
        repeat (first | with_reducible exact Kept.refl _ _ | with_reducible refine Kept.setCell ?_ _ _ | with_reducible refine Kept.alloc ?_ _ | with_reducible refine Kept.drew ?_ _ | with_reducible refine kept_drew1 ?_)
      · by_cases hd : 16 < (Nd.mk f kd).deep
        · have EO := Lib.hid (parse_deep HE.out HO.out hk hd)
          have d1 : ¬ (k' : Int) < (((cutL s.data.toList).toks.length : Nat) : Int) := by omega
          have t16 : (16 : Int) < ((((Nd.mk f kd).deep : Nat)) : Int) := by omega
          have hif : (if (Nd.mk f kd).size ≤ 2000 then (Nd.mk f kd).deep else 0) = (Nd.mk f kd).deep := if_pos (by omega)
          have HD : Hid (∀ W : World, KidsAt W (fun g => g < W.heap.size) kd A → Calls Tryz.prog 18 #[.agg #[.int .i64 f.k, .int .i64 f.vk, .int .i64 f.vn, .string f.vs, .int .i64 f.r1, .int .i64 f.r2, .int .i64 f.r3, .int .i64 f.r4, .string f.op, .slice A m c]] W fun e w' => e = .returned (.int .i64 (((Nd.mk f kd).deep : Nat) : Int)) ∧ Below W.heap.size W w') := Lib.hid (fun W h => by have h1 := rDepth ⟨f, kd⟩ A c W h; rw [hif] at h1; simp only [HM.out] at h1; exact h1)
          clear hif
          go_wp2_with fail
          clear c0 c1 c2 c3 c4 c5 y1 y3 y4 y5
          generalize (w4.alloc (.cells #[.int .i64 f.k, .int .i64 f.vk, .int .i64 f.vn, .string f.vs, .int .i64 f.r1, .int .i64 f.r2, .int .i64 f.r3, .int .i64 f.r4, .string f.op, .slice A m c] 31)) = W5 at *
          refine (HD.out W5 (A5.keep (y := w.heap.size + 1 + W5.heap.size + w4.heap.size) (Kept.refl _ W5) (fun g hg hl => ⟨by omega, hl⟩))).mono ?_; rintro e w7 ⟨rfl, hb7⟩
          have X7 := X5.kept (Kept.of (x := W5.heap.size) hb7) (Nat.ne_of_lt X5.lt)
          have L7 := L5.kept (Kept.of (x := W5.heap.size) hb7) (Nat.ne_of_lt L5.lt)
          have B7 : Below w.heap.size w w7 := B5.trans (hb7.mono B5.size)
          have A7 : KidsAt w7 (fun g => w.heap.size ≤ g ∧ g ≠ w.heap.size) kd A := A5.keep (Kept.of (x := W5.heap.size) hb7) (fun g hg hl => ⟨by omega, by omega, by omega⟩)
          have lt7 := X7.lt
          obtain ⟨f0, f1, f2, f3, f4, f5, f6, f7, f8, f9, z0, z1, z2, z3, z4, z5, z6, z7, z8, z9⟩ := (X7).cells
          go_wp2_with fail
          refine bodyPost_ret (v := .tuple #[.agg #[.int .i64 0, .int .i64 0, .int .i64 0, .string { data := #[] }, .int .i64 0, .int .i64 0, .int .i64 0, .int .i64 0, .string { data := #[] }, .slice none 0 0], .int .i64 0, .int .i64 14]) (by simp [results, Tryz.results11, go_sem, f0, f1, f2, f3, f4, f5, f6, f7, f8, f9]) rfl (ParsePost.zero (V := w7) EO.out B7 ?_)
          repeat (first | with_reducible exact Kept.refl _ _ | with_reducible refine Kept.setCell ?_ _ _ | with_reducible refine Kept.alloc ?_ _ | with_reducible refine Kept.drew ?_ _ | with_reducible refine kept_drew1 ?_)
        · have EO := Lib.hid (parse_fine HE.out HO.out hk hd)
          have d1 : ¬ (k' : Int) < (((cutL s.data.toList).toks.length : Nat) : Int) := by omega
          have t16 : ¬ (16 : Int) < ((((Nd.mk f kd).deep : Nat)) : Int) := by omega
          have hif : (if (Nd.mk f kd).size ≤ 2000 then (Nd.mk f kd).deep else 0) = (Nd.mk f kd).deep := if_pos (by omega)
          have HD : Hid (∀ W : World, KidsAt W (fun g => g < W.heap.size) kd A → Calls Tryz.prog 18 #[.agg #[.int .i64 f.k, .int .i64 f.vk, .int .i64 f.vn, .string f.vs, .int .i64 f.r1, .int .i64 f.r2, .int .i64 f.r3, .int .i64 f.r4, .string f.op, .slice A m c]] W fun e w' => e = .returned (.int .i64 (((Nd.mk f kd).deep : Nat) : Int)) ∧ Below W.heap.size W w') := Lib.hid (fun W h => by have h1 := rDepth ⟨f, kd⟩ A c W h; rw [hif] at h1; simp only [HM.out] at h1; exact h1)
          clear hif
          go_wp2_with fail
          clear c0 c1 c2 c3 c4 c5 y1 y3 y4 y5
          generalize (w4.alloc (.cells #[.int .i64 f.k, .int .i64 f.vk, .int .i64 f.vn, .string f.vs, .int .i64 f.r1, .int .i64 f.r2, .int .i64 f.r3, .int .i64 f.r4, .string f.op, .slice A m c] 31)) = W5 at *
          refine (HD.out W5 (A5.keep (y := w.heap.size + 1 + W5.heap.size + w4.heap.size) (Kept.refl _ W5) (fun g hg hl => ⟨by omega, hl⟩))).mono ?_; rintro e w7 ⟨rfl, hb7⟩
          have X7 := X5.kept (Kept.of (x := W5.heap.size) hb7) (Nat.ne_of_lt X5.lt)
          have L7 := L5.kept (Kept.of (x := W5.heap.size) hb7) (Nat.ne_of_lt L5.lt)
          have B7 : Below w.heap.size w w7 := B5.trans (hb7.mono B5.size)
          have A7 : KidsAt w7 (fun g => w.heap.size ≤ g ∧ g ≠ w.heap.size) kd A := A5.keep (Kept.of (x := W5.heap.size) hb7) (fun g hg hl => ⟨by omega, by omega, by omega⟩)
          have lt7 := X7.lt
          obtain ⟨f0, f1, f2, f3, f4, f5, f6, f7, f8, f9, z0, z1, z2, z3, z4, z5, z6, z7, z8, z9⟩ := (X7).cells
          obtain ⟨a0, a1, a2, a3, a4, a5, a6, a7, a8, a9, az0, az1, az2, az3, az4, az5, az6, az7, az8, az9⟩ := (L7).cells
          go_wp2_with fail
          refine bodyPost_ret (v := .tuple #[.agg #[.int .i64 f.k, .int .i64 f.vk, .int .i64 f.vn, .string f.vs, .int .i64 f.r1, .int .i64 f.r2, .int .i64 f.r3, .int .i64 f.r4, .string f.op, .slice A m c], .int .i64 0, .int .i64 0]) (by simp [results, Tryz.results11, go_sem, f0, f1, f2, f3, f4, f5, f6, f7, f8, f9]) rfl (ParsePost.ok (f := f) (kd := kd) (A := A) (m := m) (c := c) (V := w7) EO.out B7 HM.out A7 ?_)
          repeat (first | with_reducible exact Kept.refl _ _ | with_reducible refine Kept.setCell ?_ _ _ | with_reducible refine Kept.alloc ?_ _ | with_reducible refine Kept.drew ?_ _ | with_reducible refine kept_drew1 ?_)
    · have EO := Lib.hid (parse_err HE.out (by rw [show (s.size : Int) = ((s.data.toList.length : Nat) : Int) from by rw [HSL.out]] at ho; exact ho))
      have hP5 := hP.alloc (.cells #[.int .i64 f.k, .int .i64 f.vk, .int .i64 f.vn, .string f.vs, .int .i64 f.r1, .int .i64 f.r2, .int .i64 f.r3, .int .i64 f.r4, .string f.op, .slice A m c] 31)
      have q0 : (b.1 == 0) = false := beq_eq_false_iff_ne.2 hb0
      have q1 : (b.1 != 0) = true := by simp [hb0]
      clear ho hP
      have hP6 := hP5
      generalize hV5 : (w4.alloc (.cells #[.int .i64 f.k, .int .i64 f.vk, .int .i64 f.vn, .string f.vs, .int .i64 f.r1, .int .i64 f.r2, .int .i64 f.r3, .int .i64 f.r4, .string f.op, .slice A m c] 31)) = W5 at *
      obtain ⟨c0, c1, c2, c3, c4, c5, y1, y3, y4, y5⟩ := (hP5).at_.cells
      have S9 := Lib.hid (show W5.drew.cell? ⟨w2.heap.size, 5, none⟩ = some (.int .i64 b.2) ∧ W5.drew.cell? ⟨w2.heap.size, 4, none⟩ = some (.int .i64 b.1) from ⟨c5, c4⟩)
      have SH := Lib.hid (show W5.cell? ⟨w2.heap.size, 5, none⟩ = some (.int .i64 b.2) ∧ W5.cell? ⟨w2.heap.size, 4, none⟩ = some (.int .i64 b.1) from ⟨c5, c4⟩)
      have lt6 := X5.lt
      obtain ⟨f0, f1, f2, f3, f4, f5, f6, f7, f8, f9, z0, z1, z2, z3, z4, z5, z6, z7, z8, z9⟩ := (X5).cells
      go_wp2_with fail
      clear c0 c1 c2 c3 c4 c5 y1 y3 y4 y5
      clear hV5
      go_region_held3 (fun w' => w'.cell? ⟨w2.heap.size, 5, none⟩ = some (.int .i64 b.2) ∧ w'.cell? ⟨w2.heap.size, 4, none⟩ = some (.int .i64 b.1))
        (first | with_reducible exact S9.out | (refine two_kept9 (y := w.heap.size) SH.out hxb ?_; (repeat (first | with_reducible exact Kept.refl _ _ | with_reducible refine Kept.setCell ?_ _ _ | with_reducible refine Kept.alloc ?_ _ | with_reducible refine kept_drew1 ?_)); done)) (fail)
      all_goals (go_wp2_with fail)
      refine bodyPost_ret (v := .tuple #[.agg #[.int .i64 0, .int .i64 0, .int .i64 0, .string { data := #[] }, .int .i64 0, .int .i64 0, .int .i64 0, .int .i64 0, .string { data := #[] }, .slice none 0 0], .int .i64 b.2, .int .i64 b.1]) (by simp [results, Tryz.results11, go_sem, f0, f1, f2, f3, f4, f5, f6, f7, f8, f9]) rfl (ParsePost.zero (V := W5) EO.out B5 ?_)
      repeat (first | with_reducible exact Kept.refl _ _ | with_reducible refine Kept.setCell ?_ _ _ | with_reducible refine Kept.alloc ?_ _ | with_reducible refine Kept.drew ?_ _ | with_reducible refine kept_drew1 ?_)

end Go.Proofs.YtkdgiadpmfpjnaaGreatDoor.TreeC
