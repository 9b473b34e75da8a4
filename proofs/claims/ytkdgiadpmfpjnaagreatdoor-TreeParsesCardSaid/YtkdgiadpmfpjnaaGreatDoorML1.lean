/-
  The walk of the statement TreeParses: for all arguments it answers true.
-/
import Derived.Test.YtkdgiadpmfpjnaaGreatDoorMR4
import Derived.Test.YtkdgiadpmfpjnaaGreatDoorMK3
import Derived.Test.YtkdgiadpmfpjnaaGreatDoorMZ
namespace Go.Proofs.YtkdgiadpmfpjnaaGreatDoor.TreeC
set_option linter.unusedVariables false
open Go.RowKit Go.Proofs.YtkdgiadpmfpjnaaGreatDoor.NumC Go.Proofs.YtkdgiadpmfpjnaaGreatDoor.LexC

theorem parse_size (s : List UInt8) : (parseL s).nd.size ≤ 300 := by
  by_cases he : (cutL s).err = 0
  · obtain ⟨hl, -⟩ := cut_few s
    cases ho : (lev (cutL s).toks s.length 41).fm 0 with
    | error b => rw [parse_err he ho]; show zeroN.size ≤ 300; decide
    | ok q =>
      obtain ⟨a, k⟩ := q
      have h1 := (lev_sz (cutL s).toks ((s.length : Nat) : Int) 41).fm 0 _ _ ho
      have h2 := ((lev_goes (cutL s).toks ((s.length : Nat) : Int) 41).fm 0 _ _ ho).2
      by_cases hk : k < (cutL s).toks.length
      · rw [parse_more he ho hk]; show zeroN.size ≤ 300; decide
      · by_cases hd : 16 < a.deep
        · rw [parse_deep he ho hk hd]; show zeroN.size ≤ 300; decide
        · rw [parse_fine he ho hk hd]; show a.size ≤ 300; omega
  · rw [parse_lex he]; show zeroN.size ≤ 300; decide
set_option maxRecDepth 100000 in
set_option maxHeartbeats 2000000 in
theorem treeParses (s : ByteArray) (w : World) (hl : LexLib w) (hg : ErrT w) : Calls Tryz.prog 3 #[.string s] w fun e w' => e = .returned (.bool true) ∧ Below w.heap.size w w' := by
  have HL := Lib.hid hl
  have HG := Lib.hid hg
  clear hl hg
  by_cases hs : 3000 < s.size
  · have d0 : (3000 : Int) < (s.size : Int) := by omega
    go_enter Tryz.func3, Tryz.ntmps3
    go_wp2_with fail
    refine (cwakes w HL.out HG.out).mono ?_; rintro e w1 ⟨rfl, hb1⟩
    go_wp2_with fail
    go_ret
    exact ⟨rfl, hb1⟩
  · have d0 : ¬ (3000 : Int) < (s.size : Int) := by omega
    have hs2 : s.size ≤ 1000000 := by omega
    have HS2 := Lib.hid hs2
    have HZ := Lib.hid (parse_size s.data.toList)
    have HC := Lib.hid (cParse s w hs2 HL.out HG.out)
    have HR := Lib.hid (fun W : World => rParse s W hs2)
    generalize parseL s.data.toList = p at *
    obtain ⟨⟨f, kd⟩, a1, e1⟩ := p
    clear hs hs2
    go_enter Tryz.func3, Tryz.ntmps3
    go_wp2_with fail
    refine HC.out.mono ?_
    rintro e w1 ⟨v, rfl, hb1, A, c, rfl, hK1⟩
    unfold nodeV
    simp only at hK1 ⊢
    have B1 : Below w.heap.size w (w1.alloc (.cells #[.int .i64 f.k, .int .i64 f.vk, .int .i64 f.vn, .string f.vs, .int .i64 f.r1, .int .i64 f.r2, .int .i64 f.r3, .int .i64 f.r4, .string f.op, .slice A kd.len c] 31)) := hb1.alloc hb1.size _
    have M1 : NLoc (w1.alloc (.cells #[.int .i64 f.k, .int .i64 f.vk, .int .i64 f.vn, .string f.vs, .int .i64 f.r1, .int .i64 f.r2, .int .i64 f.r3, .int .i64 f.r4, .string f.op, .slice A kd.len c] 31)) w1.heap.size f A kd.len c := ⟨heap_alloc_new _ _⟩
    have K1 : KidsAt (w1.alloc (.cells #[.int .i64 f.k, .int .i64 f.vk, .int .i64 f.vn, .string f.vs, .int .i64 f.r1, .int .i64 f.r2, .int .i64 f.r3, .int .i64 f.r4, .string f.op, .slice A kd.len c] 31)) (fun bb => bb < (w1.alloc (.cells #[.int .i64 f.k, .int .i64 f.vk, .int .i64 f.vn, .string f.vs, .int .i64 f.r1, .int .i64 f.r2, .int .i64 f.r3, .int .i64 f.r4, .string f.op, .slice A kd.len c] 31)).heap.size) kd A := hK1.keep (y := w1.heap.size) ((Kept.refl w1.heap.size w1).alloc _) (fun bb hg hl => ⟨by omega, by simp; omega⟩)
    clear hK1 hb1 HC
    go_wp2_with fail
    generalize (w1.alloc (.cells #[.int .i64 f.k, .int .i64 f.vk, .int .i64 f.vn, .string f.vs, .int .i64 f.r1, .int .i64 f.r2, .int .i64 f.r3, .int .i64 f.r4, .string f.op, .slice A kd.len c] 31)) = W1 at *
    refine (HR.out W1).mono ?_
    rintro e w2 ⟨v, rfl, hb2, A2, c2, rfl, hK2⟩
    unfold nodeV
    simp only at hK2 ⊢
    have B2 : Below w.heap.size w (w2.alloc (.cells #[.int .i64 f.k, .int .i64 f.vk, .int .i64 f.vn, .string f.vs, .int .i64 f.r1, .int .i64 f.r2, .int .i64 f.r3, .int .i64 f.r4, .string f.op, .slice A2 kd.len c2] 31)) := (B1.trans (hb2.mono B1.size)).alloc (by have := B1.size; have := hb2.size; omega) _
    have b12 : Below W1.heap.size W1 (w2.alloc (.cells #[.int .i64 f.k, .int .i64 f.vk, .int .i64 f.vn, .string f.vs, .int .i64 f.r1, .int .i64 f.r2, .int .i64 f.r3, .int .i64 f.r4, .string f.op, .slice A2 kd.len c2] 31)) := hb2.alloc hb2.size _
    have M2 : NLoc (w2.alloc (.cells #[.int .i64 f.k, .int .i64 f.vk, .int .i64 f.vn, .string f.vs, .int .i64 f.r1, .int .i64 f.r2, .int .i64 f.r3, .int .i64 f.r4, .string f.op, .slice A2 kd.len c2] 31)) w2.heap.size f A2 kd.len c2 := ⟨heap_alloc_new _ _⟩
    have N1 := M1.kept (Kept.of (x := W1.heap.size) b12) (Nat.ne_of_lt M1.lt)
    have K2 : KidsAt (w2.alloc (.cells #[.int .i64 f.k, .int .i64 f.vk, .int .i64 f.vn, .string f.vs, .int .i64 f.r1, .int .i64 f.r2, .int .i64 f.r3, .int .i64 f.r4, .string f.op, .slice A2 kd.len c2] 31)) (fun bb => bb < (w2.alloc (.cells #[.int .i64 f.k, .int .i64 f.vk, .int .i64 f.vn, .string f.vs, .int .i64 f.r1, .int .i64 f.r2, .int .i64 f.r3, .int .i64 f.r4, .string f.op, .slice A2 kd.len c2] 31)).heap.size) kd A2 := hK2.keep (y := w2.heap.size) ((Kept.refl w2.heap.size w2).alloc _) (fun bb hg hl => ⟨by omega, by simp; omega⟩)
    have J1 := below_row K1 b12
    have HW := Lib.hid (fun (W : World) (hb : Below w.heap.size w W) => cwakes W (HL.out.below hb) (HG.out.below hb))
    have HN := Lib.hid (fun (W : World) (h1 : KidsAt W (fun bb => bb < W.heap.size) kd A) (h2 : KidsAt W (fun bb => bb < W.heap.size) kd A2) => knode ⟨f, kd⟩ A A2 c c2 W HZ.out h1 h2)
    clear M1 K1 hK2 b12 hb2 B1
    generalize hW2 : (w2.alloc (.cells #[.int .i64 f.k, .int .i64 f.vk, .int .i64 f.vn, .string f.vs, .int .i64 f.r1, .int .i64 f.r2, .int .i64 f.r3, .int .i64 f.r4, .string f.op, .slice A2 kd.len c2] 31)) = W2 at *
    obtain ⟨d0, d1, d2, d3, d4, d5, d6, d7, d8, d9, -⟩ := N1.cells
    obtain ⟨u0, u1, u2, u3, u4, u5, u6, u7, u8, u9, -⟩ := M2.cells
    go_wp2_with fail
    refine (HN.out W2 J1 K2).mono ?_; rintro e w3 ⟨rfl, hb3⟩
    have B3 := B2.trans (hb3.mono B2.size)
    go_wp2_with fail
    refine (HW.out _ B3).mono ?_; rintro e w6 ⟨rfl, hb6⟩
    go_wp2_with fail
    go_ret
    exact ⟨rfl, B3.trans (hb6.mono B3.size)⟩

end Go.Proofs.YtkdgiadpmfpjnaaGreatDoor.TreeC
