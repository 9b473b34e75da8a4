/-
  Contract of package lex: Cut.
-/
import Derived.Test.YtbgjdfghcnblcaaGreatDoorMLexF
import Derived.Test.YtbgjdfghcnblcaaGreatDoorMLexZ3
namespace Go.Proofs.YtbgjdfghcnblcaaGreatDoor.LexC
set_option linter.unusedVariables false
open Go.RowKit Go.Proofs.YtbgjdfghcnblcaaGreatDoor.NumC

theorem tail_list (s : ByteArray) (i : Nat) : (s.extract i s.size).data.toList = s.data.toList.drop i := by
  rw [Lib.extract_data, List.take_of_length_le (by rw [List.length_drop, ← list_len]; omega)]

set_option maxRecDepth 100000 in
set_option maxHeartbeats 4000000 in
theorem cut (s : ByteArray) (w : World) (hs : s.size ≤ 1000000) (hl : LexLib w) :
    Calls Tryz.prog 27 #[.string s] w (CutPost w (cutL s.data.toList)) := by
  by_cases h3 : 300 < s.size
  · have E : Hid (cutL s.data.toList = ⟨[], 0, 2⟩) := Lib.hid (if_pos (by rw [← list_len]; exact h3))
    go_enter Tryz.func27, Tryz.ntmps27
    go_wp2
    refine bodyPost_ret (results_tmp3 rfl _ _ _) rfl ?_
    rw [E.out]
    exact ⟨_, rfl, own_nil w, Below.refl _ _⟩
  · obtain ⟨i0, hi0, hz0, hz1, hz2⟩ := info_parts tok_info
    have HZ0 := Lib.hid hz0; have HZ1 := Lib.hid hz1; have HZ2 := Lib.hid hz2; have HI0 := Lib.hid hi0
    clear hz0 hz1 hz2 hi0
    go_enter Tryz.func27, Tryz.ntmps27
    go_wp2
    go_loopw [5, 6] (fun lv a wr => ∃ (i : Nat) (acc : List Tok), i ≤ s.size ∧ acc.length ≤ i ∧ a = .int .i64 i ∧ Hid (wr.ownsRow w.heap.size 75 4 lv acc.length (tcells acc)) ∧ Below w.heap.size w wr ∧ Hid (Cutting s.data.toList i acc)) (fun _ a _ => s.size - (intOf a).toNat)
    case atStart => exact ⟨0, [], Nat.zero_le _, Nat.zero_le _, rfl, Lib.hid (own_nil w), Below.refl _ _, Lib.hid (Cutting.start (by rw [← list_len]; omega))⟩
    case round =>
      obtain ⟨i, acc, hi, hac, rfl, HO, hB, HC⟩ := hrel
      by_cases hlt : i < s.size
      · have hll : i < s.data.toList.length := by rw [← list_len]; exact hlt
        by_cases h32 : s[i].toNat = 32
        · have c1 : ((s[i].toNat : Int) == 32) = true := by rw [h32]; rfl
          have HC2 := Lib.hid (HC.out.blank hll (UInt8.toNat_inj.1 h32))
          clear h32
          go_wp2
          go_roundw
          case rel => exact ⟨i + 1, acc, by omega, by omega, by go_num, HO, hB, HC2⟩
          case measure => simp [intOf]; omega
        · have c1 : ((s[i].toNat : Int) == 32) = false := beq_eq_false_iff_ne.2 (by omega)
          have n32 : s.data.toList[i] ≠ 32 := fun e => h32 (by have : s[i] = 32 := e; rw [this]; rfl)
          have hx1 : (s.extract i s.size).size ≤ 1000000 := by rw [ByteArray.size_extract]; omega
          have hx2 : 0 < (s.extract i s.size).size := by rw [ByteArray.size_extract]; omega
          have W := first (s.extract i s.size) wr hx1 hx2 (hl.below hB)
          rw [tail_list] at W
          have HF := Lib.hid W
          clear hx1 hx2 W
          cases hn : nextL (s.data.toList.drop i) with
          | none =>
            have E := Lib.hid (HC.out.none_ hll n32 hn)
            have R : Hid (nextR (s.data.toList.drop i) 0 = (zeroT, 0)) := Lib.hid (nextR_none (by rw [List.drop_zero]; exact hn))
            clear hn n32 h32
            go_wp2_with fail
            refine HF.out.mono ?_; rw [R.out]; rintro e w1 ⟨rfl, hb1⟩
            unfold tokV zeroT nob
            have hlt2 := hb1.size
            have hBB := hB.trans (hb1.mono hB.size)
            have hsz2 := hBB.size
            go_wp2
            refine bodyPost_ret (results_tmp3 rfl _ _ _) rfl ?_
            rw [E.out]
            refine ⟨_, rfl, own_nil0 _ _, ?_⟩
            repeat (first | with_reducible exact hBB | with_reducible refine Below.setCell ?_ (by first | omega | (simp <;> omega)) _ | with_reducible refine Below.alloc ?_ (by first | omega | (simp <;> omega)) _)
          | some r =>
            obtain ⟨k, n, sx, m⟩ := r
            have HS := Lib.hid (HC.out.some_ hll n32 hn)
            have R : Hid (nextR (s.data.toList.drop i) 0 = (⟨k, n, str sx, 0⟩, (m : Int))) := Lib.hid (nextR_some (by rw [List.drop_zero]; exact hn))
            have hm := HS.out.2
            have hm3 : (i : Int) + (m : Int) ≤ 300 := by have := list_len s; omega
            have hm4 : i + m ≤ s.size := by have := list_len s; omega
            clear hn n32 h32
            go_wp2_with fail
            refine HF.out.mono ?_; rw [R.out]; rintro e w1 ⟨rfl, hb1⟩
            have m0 : ((m : Int) == 0) = false := beq_eq_false_iff_ne.2 (by omega)
            unfold tokV
            have hBW : Below wr.heap.size wr ((w1.alloc (.cells #[.int .i64 k, .int .i64 n, .string (str sx), .int .i64 i] 75)).alloc (.cells #[.int .i64 k, .int .i64 n, .string (str sx), .int .i64 i] 75)) := (hb1.alloc hb1.size _).alloc (by have := hb1.size; simp; omega) _
            have HOW := own_below HO.out hBW
            have hlo := World.ownsRow.lt HOW
            have hnb : ((w1.alloc (.cells #[.int .i64 k, .int .i64 n, .string (str sx), .int .i64 i] 75)).alloc (.cells #[.int .i64 k, .int .i64 n, .string (str sx), .int .i64 i] 75)).heap[w1.heap.size + 1]? = some (.cells #[.int .i64 k, .int .i64 n, .string (str sx), .int .i64 i] 75) := by
              rw [← heap_one w1 (.cells #[.int .i64 k, .int .i64 n, .string (str sx), .int .i64 i] 75)]; exact heap_alloc_new _ _
            have hBn := hB.trans (hBW.mono hB.size)
            have HH := Lib.hid HOW; have HL := Lib.hid hlo; have HNB := Lib.hid hnb
            clear hlo hnb HOW
            go_wp2_with (at_builtin
                         refine wpList_append_own_at _ rfl (.tmp 34) (.tmp 36) _ rfl w.heap.size 75 i0 _ 4 40 Tryz.underlying56 HI0.out HZ0.out HZ1.out HZ2.out rfl (by omega) u5 acc.length (tcells acc) rfl HH.out ⟨w1.heap.size + 1, 0, none⟩ 1 1 [.int .i64 k, .int .i64 n, .string (str sx), .int .i64 i] rfl rfl (World.news_of_block HNB.out) (by simp [Value.oneCell']) (by unfold maxLen; omega) (by omega) hBn.size ?_
                         intro v2 w2 hown2 hg2 hnil2 hat2
                         have HO2 : Hid (w2.ownsRow w.heap.size 75 4 v2 (acc ++ [(⟨k, n, str sx, i⟩ : Tok)]).length (tcells (acc ++ [(⟨k, n, str sx, i⟩ : Tok)]))) := Lib.hid (by rw [tcells_snoc, List.length_append]; exact hown2)
                         have hB2 := hBn.grown hg2 hBn.size (fun k hk => (HL.out k hk).1)
                         clear hown2 hg2 hnil2 hat2)
            go_roundw
            case rel => exact ⟨i + m, acc ++ [⟨k, n, str sx, i⟩], hm4, by simp; omega, by go_num, HO2, hB2, Lib.hid HS.out.1⟩
            case measure => simp [intOf]; omega
      · have E := Lib.hid (HC.out.end_ (by rw [← list_len]; omega))
        go_wp2
        refine bodyPost_ret (results_tmp3 rfl _ _ _) rfl ?_
        rw [E.out]
        exact ⟨_, rfl, HO.out, hB⟩
end Go.Proofs.YtbgjdfghcnblcaaGreatDoor.LexC

/-
  The contracts of package lex, all of them.
-/

