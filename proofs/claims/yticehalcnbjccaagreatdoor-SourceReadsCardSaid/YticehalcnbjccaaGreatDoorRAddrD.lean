/-
  Contracts of package addr and of its reference: Name. Of the world: the library's table and its two errors read as they are laid.
-/
import Derived.Test.YticehalcnbjccaaGreatDoorRNumD
import Derived.Test.YticehalcnbjccaaGreatDoorRNumG
import Derived.Test.YticehalcnbjccaaGreatDoorRNumN
import Derived.Test.YticehalcnbjccaaGreatDoorRShelf
import Derived.Laws.RangeAny
import Derived.Laws.StructEq
import Derived.LoopN
namespace Go.Proofs.YticehalcnbjccaaGreatDoor.AddrC
set_option maxRecDepth 100000
set_option maxHeartbeats 8000000
set_option linter.unusedVariables false
open Go.RowKit NumC
open Tryz
open Lib (hid)
theorem two_str (a b : List UInt8) : ((⟨a.toArray⟩ : ByteArray) ++ (⟨b.toArray⟩ : ByteArray)) = ⟨(a ++ b).toArray⟩ := by
 apply WideShapes.bytes_inj
 rw [ByteArray.data_append, Array.toList_append]
theorem name (r c : Int) (w : World) (hl : LibIs w) :
   Calls prog 114 #[.agg #[.int .i64 r, .int .i64 c]] w fun e w' => e = .returned (.string ⟨(nameL r c).toArray⟩) ∧ Below w.heap.size w w' := by
 by_cases h : Cell r c
 · have G := hid (cellB_t h)
   have E := hid (nameL_cell h)
   have T := hid (two_str (colL c) (Lib.itoa r))
   have ir := hid (cell_i64 h)
   have hs : ¬ 9223372036854775807 < (colL c).length + (Lib.itoa r).length := by
     have h1 := (itoa_len (cell_i64 h)).2
     have h2 := colL_len c
     split at h2 <;> omega
   have hc1 : 1 ≤ c := h.2.1
   have hc2 : c ≤ 50 := h.2.2
   clear h
   go_enter func114, ntmps114
   go_wp2_with fail
   refine (good _ _ _).mono ?_; rw [G.out]; rintro e w1 ⟨rfl, hb1⟩
   obtain ⟨hc, hf⟩ := bcell hb1
   go_wp2_with fail
   refine region_grown (by kernel_rfl) (by kernel_rfl) ?_
   have C0 := Gr.cell w.heap.size 0 (.int .i64 r) hb1 (by simp [go_sem])
   have C1 := Gr.cell w.heap.size 1 (.int .i64 c) hb1 (by simp [go_sem])
   have LG : ∀ u : Gr w1, LibIs u.now := fun u => hl.below ((grow hb1).trans (u.below.mono (grow hb1).size))
   repeat (go_big_quiet_step (first | (go_at_call 141; exact grown_same (columnName _ _ hc1 hc2)) | (go_at_call 74; exact grown_of (dec _ _ ir.out (LG _)))))
   refine wpQuiet_nil ?_
   intro w2 hw2; obtain ⟨u, rfl⟩ := hw2
   go_wp2_with fail
   go_ret
   exact ⟨rets' (by rw [T.out, E.out]), (grow hb1).trans (u.below.mono (grow hb1).size)⟩
 · have G := hid (cellB_f h)
   have E := hid (nameL_no h)
   clear h
   go_enter func114, ntmps114
   go_wp2_with fail
   refine (good _ _ _).mono ?_; rw [G.out]; rintro e w1 ⟨rfl, hb1⟩
   go_wp2_with fail
   go_ret
   exact ⟨rets' (by rw [E.out]), grow hb1⟩
theorem rname (r c : Int) (w : World) :
   Calls prog 89 #[.agg #[.int .i64 r, .int .i64 c]] w fun e w' => e = .returned (.string ⟨(nameL r c).toArray⟩) ∧ Below w.heap.size w w' := by
 by_cases h : Cell r c
 · have G := hid (cellB_t h)
   have E := hid (nameL_cell h)
   have T := hid (two_str (colL c) (Lib.itoa r))
   have ir := hid (cell_i64 h)
   have hs : ¬ 9223372036854775807 < (colL c).length + (Lib.itoa r).length := by
     have h1 := (itoa_len (cell_i64 h)).2
     have h2 := colL_len c
     split at h2 <;> omega
   have hc1 : 1 ≤ c := h.2.1
   have hc2 : c ≤ 50 := h.2.2
   clear h
   go_enter func89, ntmps89
   go_wp2_with fail
   refine (rgood _ _ _).mono ?_; rw [G.out]; rintro e w1 ⟨rfl, hb1⟩
   obtain ⟨hc, hf⟩ := bcell hb1
   go_wp2_with fail
   refine region_grown (by kernel_rfl) (by kernel_rfl) ?_
   have C0 := Gr.cell w.heap.size 0 (.int .i64 r) hb1 (by simp [go_sem])
   have C1 := Gr.cell w.heap.size 1 (.int .i64 c) hb1 (by simp [go_sem])
   repeat (go_big_quiet_step (first | (go_at_call 109; exact grown_same (rcolumn _ _ hc1 hc2)) | (go_at_call 34; exact grown_same (rdec _ _ ir.out))))
   refine wpQuiet_nil ?_
   intro w2 hw2; obtain ⟨u, rfl⟩ := hw2
   go_wp2_with fail
   go_ret
   exact ⟨rets' (by rw [T.out, E.out]), (grow hb1).trans (u.below.mono (grow hb1).size)⟩
 · have G := hid (cellB_f h)
   have E := hid (nameL_no h)
   clear h
   go_enter func89, ntmps89
   go_wp2_with fail
   refine (rgood _ _ _).mono ?_; rw [G.out]; rintro e w1 ⟨rfl, hb1⟩
   go_wp2_with fail
   go_ret
   exact ⟨rets' (by rw [E.out]), grow hb1⟩
theorem drop_at (s : ByteArray) (k : Nat) (h : k < s.size) : s.data.toList.drop k = s[k] :: s.data.toList.drop (k + 1) := by
 have e : s[k] = s.data.toList[k]'(by rw [← len_list]; exact h) := rfl
 rw [e]; exact List.drop_eq_getElem_cons (by rw [← len_list]; exact h)
theorem drop_str (s : ByteArray) (k : Nat) : s.extract k s.size = ⟨(s.data.toList.drop k).toArray⟩ := by
 apply WideShapes.bytes_inj
 rw [Lib.extract_data, List.take_of_length_le (by rw [List.length_drop, ← len_list]; exact Nat.le_refl _)]
theorem cut_eq {n n' : Int} {s s' : ByteArray} (hn : n = n') (hs : s = s') : Ending.returned (.tuple #[.int .i64 n, .string s]) = .returned (.tuple #[.int .i64 n', .string s']) := by subst hn hs; rfl
theorem cutColumn (s : ByteArray) (w : World) (hs : s.size ≤ 9223372036854775807) :
   Calls prog 231 #[.string s] w fun e w' => e = .returned (.tuple #[.int .i64 (cutL 0 s.data.toList).1, .string ⟨(cutL 0 s.data.toList).2.toArray⟩]) ∧ Below w.heap.size w w' := by
 have B : ∀ p, Below w.heap.size w (w.iter s p) := fun p => (Below.refl _ _).alloc (Nat.le_refl _) _
 go_enter func231, ntmps231
 go_wp2
 go_loopw [2] (fun n w' => ∃ pos k : Nat, w' = w.iter s pos ∧ n = .int .i64 k ∧ k ≤ 50 ∧ pos ≤ s.size ∧ Hid (cutL k (s.data.toList.drop pos) = cutL 0 s.data.toList)) (fun _ w' => s.size - w'.iterPos w.heap.size)
 case atStart => exact ⟨0, 0, rfl, rfl, by omega, by omega, hid rfl⟩
 case round =>
   obtain ⟨pos, k, rfl, rfl, hk, hpos, HC⟩ := hrel
   by_cases hp : pos < s.size
   · have D := hid (drop_at s pos hp)
     have Es := hid (drop_str s pos)
     by_cases ha : s[pos].toNat < 128
     · have hnx : ∀ ty, (Instr.next (.pointer (some ⟨w.heap.size, 0, none⟩)) true ty).run prog (w.iter s pos) = _ := fun ty => run_next_ascii w s pos ty hp ha
       by_cases h1 : s[pos].toNat < 65 ∨ 90 < s[pos].toNat
       · have E : Hid (cutL 0 s.data.toList = (k, s.data.toList.drop pos)) := hid (by rw [← HC.out, D.out]; exact cutL_stop h1)
         rcases h1 with h1 | h1
         all_goals
           go_wp2
           go_quiet (fail)
           go_wp2
           go_ret2
           exact ⟨cut_eq (by rw [E.out]) (by rw [E.out, Es.out]), below_drewN' (B _) _⟩
       · have h2 : 65 ≤ s[pos].toNat := by omega
         have h3 : s[pos].toNat ≤ 90 := by omega
         by_cases h4 : 50 < k * 26 + (s[pos].toNat - 64)
         · have E : Hid (cutL 0 s.data.toList = (0, [])) := hid (by rw [← HC.out, D.out]; exact cutL_big h1 h4)
           clear h1
           go_wp2
           go_ret2
           exact ⟨cut_eq (by rw [E.out]; rfl) (by rw [E.out]), B _⟩
         · have E : Hid (cutL (k * 26 + (s[pos].toNat - 64)) (s.data.toList.drop (pos + 1)) = cutL 0 s.data.toList) := hid (by rw [← HC.out, D.out]; exact (cutL_on h1 h4).symm)
           clear h1
           go_wp2
           go_roundw
           case rel => exact ⟨pos + 1, k * 26 + (s[pos].toNat - 64), rfl, congrArg _ (by omega), by omega, by omega, E⟩
           case measure => simp; omega
     · obtain ⟨hr, hwd⟩ := decode_high s pos hp (by omega)
       have hr2 := decode_le s pos
       have h1 : s[pos].toNat < 65 ∨ 90 < s[pos].toNat := by omega
       have E : Hid (cutL 0 s.data.toList = (k, s.data.toList.drop pos)) := hid (by rw [← HC.out, D.out]; exact cutL_stop h1)
       have hnx : ∀ ty, (Instr.next (.pointer (some ⟨w.heap.size, 0, none⟩)) true ty).run prog (w.iter s pos) = _ := fun ty => run_next_any w s pos ty hp
       clear h1
       generalize (Utf8.decode s pos).1 = q at *
       generalize pos + (Utf8.decode s pos).2 = pos' at *
       go_wp2
       go_quiet (fail)
       go_wp2
       go_ret2
       exact ⟨cut_eq (by rw [E.out]) (by rw [E.out, Es.out]), below_drewN' (B _) _⟩
   · obtain rfl : pos = s.size := by omega
     have E : Hid (cutL 0 s.data.toList = (k, [])) := hid (by rw [← HC.out, List.drop_of_length_le (by rw [← len_list]; exact Nat.le_refl _)]; exact cutL_nil k)
     have hnx : ∀ ty, (Instr.next (.pointer (some ⟨w.heap.size, 0, none⟩)) true ty).run prog (w.iter s s.size) = _ := fun ty => run_next_end w s s.size ty hp
     go_wp2
     go_ret2
     exact ⟨cut_eq (by rw [E.out]) (by rw [E.out]), B _⟩
theorem p_parts {l d : List UInt8} {k : Nat} (h : cutL 0 l = (k, d)) :
   (k = 0 ∨ parseB d = false ∨ parseN d < 1 ∨ 1000 < parseN d → pR l = 0 ∧ pC l = 0 ∧ pOK l = false) ∧
   (k ≠ 0 → parseB d = true → 1 ≤ parseN d → parseN d ≤ 1000 → pR l = parseN d ∧ pC l = k ∧ pOK l = true) := by
 refine ⟨fun hh => ?_, fun h1 h2 h3 h4 => ?_⟩
 · have e : pOK l = false := by
     unfold pOK; rw [h]; simp only
     refine decide_eq_false fun ⟨h1, h2, h3, h4⟩ => ?_
     rcases hh with hh | hh | hh | hh
     · exact h1 hh
     · rw [hh] at h2; cases h2
     · omega
     · omega
   unfold pR pC; rw [e]; exact ⟨rfl, rfl, rfl⟩
 · have e : pOK l = true := by
     unfold pOK; rw [h]; simp only
     exact decide_eq_true ⟨h1, h2, h3, h4⟩
   unfold pR pC; rw [e, h]; exact ⟨rfl, rfl, rfl⟩
theorem list_str (d : List UInt8) : (⟨d.toArray⟩ : ByteArray).data.toList = d := rfl
theorem aparse (s : ByteArray) (w : World) (hs : s.size ≤ 9223372036854775807) (hl : LibIs w) :
   Calls prog 230 #[.string s] w fun e w' => e = .returned (.tuple #[.agg #[.int .i64 (pR s.data.toList), .int .i64 (pC s.data.toList)], .bool (pOK s.data.toList)]) ∧ Below w.heap.size w w' := by
 obtain ⟨k, d, hkd⟩ : ∃ k d, cutL 0 s.data.toList = (k, d) := ⟨_, _, rfl⟩
 obtain ⟨q1, q2⟩ := p_parts hkd
 have HK := hid hkd
 clear hkd
 by_cases hk : k = 0
 · have E := hid (q1 (Or.inl hk))
   rw [E.out.1, E.out.2.1, E.out.2.2]
   have k0 : ((k : Int) == 0) = true := beq_iff_eq.2 (by omega)
   clear q1 q2 hk
   go_enter func230, ntmps230
   go_wp2_with fail
   refine (cutColumn _ _ hs).mono ?_; rw [HK.out]; rintro e w1 ⟨rfl, hb1⟩
   have hl1 := hl.below (grow hb1)
   obtain ⟨hc, hf⟩ := bcell hb1
   go_wp2_with fail
   refine (parse _ _ hl1).mono ?_; rw [list_str, show parseN d = parseN d from rfl]; rintro e w2 ⟨rfl, hb2⟩
   have hb3 := below_then hb1 hb2
   clear hc hf
   obtain ⟨hc, hf⟩ := bcell hb3
   have hB := grow hb3
   go_wp2
   refine bodyPost_ret (v := .tuple #[.agg #[.int .i64 0, .int .i64 0], .bool false]) (by simp [results, results230, go_sem, hc]) rfl ⟨rfl, ?_⟩
   repeat (with_reducible first | exact hB | refine Below.setCell ?_ (by simp <;> omega) _ | refine Below.alloc ?_ (by simp <;> omega) _)
 · have k0 : ((k : Int) == 0) = false := beq_eq_false_iff_ne.2 (by omega)
   cases hB : parseB d
   · have E := hid (q1 (Or.inr (Or.inl hB)))
     rw [E.out.1, E.out.2.1, E.out.2.2]
     have P := hid hB
     clear q1 q2 hk hB
     go_enter func230, ntmps230
     go_wp2_with fail
     refine (cutColumn _ _ hs).mono ?_; rw [HK.out]; rintro e w1 ⟨rfl, hb1⟩
     have hl1 := hl.below (grow hb1)
     obtain ⟨hc, hf⟩ := bcell hb1
     go_wp2_with fail
     refine (parse _ _ hl1).mono ?_; rw [list_str, P.out]; rintro e w2 ⟨rfl, hb2⟩
     have hb3 := below_then hb1 hb2
     clear hc hf
     obtain ⟨hc, hf⟩ := bcell hb3
     have hB := grow hb3
     go_wp2
     refine bodyPost_ret (v := .tuple #[.agg #[.int .i64 0, .int .i64 0], .bool false]) (by simp [results, results230, go_sem, hc]) rfl ⟨rfl, ?_⟩
     repeat (with_reducible first | exact hB | refine Below.setCell ?_ (by simp <;> omega) _ | refine Below.alloc ?_ (by simp <;> omega) _)
   · have P := hid hB
     have hi := parseN_i64 d
     unfold I64 at hi
     by_cases h1 : parseN d < 1
     · have E := hid (q1 (Or.inr (Or.inr (Or.inl h1))))
       rw [E.out.1, E.out.2.1, E.out.2.2]
       clear q1 q2 hk hB
       go_enter func230, ntmps230
       go_wp2_with fail
       refine (cutColumn _ _ hs).mono ?_; rw [HK.out]; rintro e w1 ⟨rfl, hb1⟩
       have hl1 := hl.below (grow hb1)
       obtain ⟨hc, hf⟩ := bcell hb1
       go_wp2_with fail
       refine (parse _ _ hl1).mono ?_; rw [list_str, P.out]; rintro e w2 ⟨rfl, hb2⟩
       have hb3 := below_then hb1 hb2
       clear hc hf
       obtain ⟨hc, hf⟩ := bcell hb3
       have hB := grow hb3
       go_wp2
       refine bodyPost_ret (v := .tuple #[.agg #[.int .i64 0, .int .i64 0], .bool false]) (by simp [results, results230, go_sem, hc]) rfl ⟨rfl, ?_⟩
       repeat (with_reducible first | exact hB | refine Below.setCell ?_ (by simp <;> omega) _ | refine Below.alloc ?_ (by simp <;> omega) _)
     · by_cases h2 : 1000 < parseN d
       · have E := hid (q1 (Or.inr (Or.inr (Or.inr h2))))
         rw [E.out.1, E.out.2.1, E.out.2.2]
         clear q1 q2 hk hB
         go_enter func230, ntmps230
         go_wp2_with fail
         refine (cutColumn _ _ hs).mono ?_; rw [HK.out]; rintro e w1 ⟨rfl, hb1⟩
         have hl1 := hl.below (grow hb1)
         obtain ⟨hc, hf⟩ := bcell hb1
         go_wp2_with fail
         refine (parse _ _ hl1).mono ?_; rw [list_str, P.out]; rintro e w2 ⟨rfl, hb2⟩
         have hb3 := below_then hb1 hb2
         clear hc hf
         obtain ⟨hc, hf⟩ := bcell hb3
         have hB := grow hb3
         go_wp2
         refine bodyPost_ret (v := .tuple #[.agg #[.int .i64 0, .int .i64 0], .bool false]) (by simp [results, results230, go_sem, hc]) rfl ⟨rfl, ?_⟩
         repeat (with_reducible first | exact hB | refine Below.setCell ?_ (by simp <;> omega) _ | refine Below.alloc ?_ (by simp <;> omega) _)
       · have E := hid (q2 hk hB (by omega) (by omega))
         rw [E.out.1, E.out.2.1, E.out.2.2]
         clear q1 q2 hk hB
         go_enter func230, ntmps230
         go_wp2_with fail
         refine (cutColumn _ _ hs).mono ?_; rw [HK.out]; rintro e w1 ⟨rfl, hb1⟩
         have hl1 := hl.below (grow hb1)
         obtain ⟨hc, hf⟩ := bcell hb1
         go_wp2_with fail
         refine (parse _ _ hl1).mono ?_; rw [list_str, P.out]; rintro e w2 ⟨rfl, hb2⟩
         have hb3 := below_then hb1 hb2
         clear hc hf
         obtain ⟨hc, hf⟩ := bcell hb3
         have hB := grow hb3
         go_wp2
         refine bodyPost_ret (v := .tuple #[.agg #[.int .i64 (parseN d), .int .i64 k], .bool true]) (by simp [results, results230, go_sem, hc]) rfl ⟨rfl, ?_⟩
         repeat (with_reducible first | exact hB | refine Below.setCell ?_ (by simp <;> omega) _ | refine Below.alloc ?_ (by simp <;> omega) _)
end Go.Proofs.YticehalcnbjccaaGreatDoor.AddrC
namespace Go.Proofs.YticehalcnbjccaaGreatDoor.ValueC
set_option maxRecDepth 100000
set_option maxHeartbeats 8000000
set_option linter.unusedVariables false
open Go.RowKit NumC
open Tryz
open Lib (hid)
theorem grown {w : World} {o : Obj} : Below w.heap.size w (w.alloc o) := (Below.refl _ _).alloc (Nat.le_refl _) _
theorem yes_none {s : ByteArray} (h : s.size = 0) : s.toList.isEmpty = true ∧ (s.toList == []) = true := by
 rw [size_nos h]; exact ⟨by rw [Lib.toList_data]; rfl, by rw [Lib.toList_data]; rfl⟩
theorem not_none {s : ByteArray} (h : ¬ s.size = 0) : s.toList.isEmpty = false ∧ (s.toList == []) = false := by
 have : s.toList ≠ [] := by
   rw [Lib.toList_data]; intro e; apply h
   show s.data.size = 0
   rw [← Array.length_toList, e]; rfl
 exact ⟨by simpa using this, beq_eq_false_iff_ne.2 this⟩
theorem rgood_of (k n : Int) (s : ByteArray) (w : World) :
   Calls prog 35 #[.agg #[.int .i64 k, .int .i64 n, .string s]] w fun e w' => e = .returned (.bool (goodB ⟨k, n, s⟩)) ∧ Below w.heap.size w w' := by
 by_cases hk0 : k = 0
 · subst hk0
   by_cases hn0 : n = 0
   · subst hn0
     by_cases hs : s.size = 0
     · have hs1 := (yes_none hs).1
       have hs2 := (yes_none hs).2
       have E : Hid (goodB ⟨0, 0, s⟩ = true) := hid (goodB_t (Or.inl ⟨rfl, rfl, hs⟩))
       go_enter func35, ntmps35
       go_wp2
       go_ret
       exact ⟨ret1 E.out.symm, grown⟩
     · have hs1 := (not_none hs).1
       have hs2 := (not_none hs).2
       have E : Hid (goodB ⟨0, 0, s⟩ = false) := hid (goodB_f (fun h => by unfold GoodP at h; simp only at h; omega))
       go_enter func35, ntmps35
       go_wp2
       go_ret
       exact ⟨ret1 E.out.symm, grown⟩
   · have n0 : (n == 0) = false := beq_eq_false_iff_ne.2 hn0
     have E : Hid (goodB ⟨0, n, s⟩ = false) := hid (goodB_f (fun h => by unfold GoodP at h; simp only at h; omega))
     go_enter func35, ntmps35
     go_wp2
     go_ret
     exact ⟨ret1 E.out.symm, grown⟩
 have k0 : (k == 0) = false := beq_eq_false_iff_ne.2 hk0
 by_cases hk1 : k = 1
 · subst hk1
   by_cases hn0 : n = 0
   · subst hn0
     by_cases hs : s.size = 0
     · have hs1 := (yes_none hs).1
       have hs2 := (yes_none hs).2
       have E : Hid (goodB ⟨1, 0, s⟩ = true) := hid (goodB_t (Or.inr (Or.inl ⟨rfl, Or.inl rfl, hs⟩)))
       go_enter func35, ntmps35
       go_wp2
       go_ret
       exact ⟨ret1 E.out.symm, grown⟩
     · have hs1 := (not_none hs).1
       have hs2 := (not_none hs).2
       have E : Hid (goodB ⟨1, 0, s⟩ = false) := hid (goodB_f (fun h => by unfold GoodP at h; simp only at h; omega))
       go_enter func35, ntmps35
       go_wp2
       go_ret
       exact ⟨ret1 E.out.symm, grown⟩
   · have n0 : (n == 0) = false := beq_eq_false_iff_ne.2 hn0
     by_cases hn1 : n = 1
     · subst hn1
       by_cases hs : s.size = 0
       · have hs1 := (yes_none hs).1
         have hs2 := (yes_none hs).2
         have E : Hid (goodB ⟨1, 1, s⟩ = true) := hid (goodB_t (Or.inr (Or.inl ⟨rfl, Or.inr rfl, hs⟩)))
         go_enter func35, ntmps35
         go_wp2
         go_ret
         exact ⟨ret1 E.out.symm, grown⟩
       · have hs1 := (not_none hs).1
         have hs2 := (not_none hs).2
         have E : Hid (goodB ⟨1, 1, s⟩ = false) := hid (goodB_f (fun h => by unfold GoodP at h; simp only at h; omega))
         go_enter func35, ntmps35
         go_wp2
         go_ret
         exact ⟨ret1 E.out.symm, grown⟩
     · have n1 : (n == 1) = false := beq_eq_false_iff_ne.2 hn1
       have E : Hid (goodB ⟨1, n, s⟩ = false) := hid (goodB_f (fun h => by unfold GoodP at h; simp only at h; omega))
       go_enter func35, ntmps35
       go_wp2
       go_ret
       exact ⟨ret1 E.out.symm, grown⟩
 have k1 : (k == 1) = false := beq_eq_false_iff_ne.2 hk1
 by_cases hk2 : k = 2
 · subst hk2
   by_cases hs : s.size = 0
   · have hs1 := (yes_none hs).1
     have hs2 := (yes_none hs).2
     have E : Hid (goodB ⟨2, n, s⟩ = true) := hid (goodB_t (Or.inr (Or.inr (Or.inl ⟨rfl, hs⟩))))
     go_enter func35, ntmps35
     go_wp2
     go_ret
     exact ⟨ret1 E.out.symm, grown⟩
   · have hs1 := (not_none hs).1
     have hs2 := (not_none hs).2
     have E : Hid (goodB ⟨2, n, s⟩ = false) := hid (goodB_f (fun h => by unfold GoodP at h; simp only at h; omega))
     go_enter func35, ntmps35
     go_wp2
     go_ret
     exact ⟨ret1 E.out.symm, grown⟩
 have k2 : (k == 2) = false := beq_eq_false_iff_ne.2 hk2
 by_cases hk3 : k = 3
 · subst hk3
   by_cases hn0 : n = 0
   · subst hn0
     by_cases hs : s.size ≤ 200
     · have hs1 : decide ((s.size : Int) ≤ 200) = true := decide_eq_true (by omega)
       have E : Hid (goodB ⟨3, 0, s⟩ = true) := hid (goodB_t (Or.inr (Or.inr (Or.inr (Or.inl ⟨rfl, rfl, hs⟩)))))
       go_enter func35, ntmps35
       go_wp2
       go_ret
       exact ⟨ret1 E.out.symm, grown⟩
     · have hs1 : decide ((s.size : Int) ≤ 200) = false := decide_eq_false (by omega)
       have E : Hid (goodB ⟨3, 0, s⟩ = false) := hid (goodB_f (fun h => by unfold GoodP at h; simp only at h; omega))
       go_enter func35, ntmps35
       go_wp2
       go_ret
       exact ⟨ret1 E.out.symm, grown⟩
   · have n0 : (n == 0) = false := beq_eq_false_iff_ne.2 hn0
     have E : Hid (goodB ⟨3, n, s⟩ = false) := hid (goodB_f (fun h => by unfold GoodP at h; simp only at h; omega))
     go_enter func35, ntmps35
     go_wp2
     go_ret
     exact ⟨ret1 E.out.symm, grown⟩
 have k3 : (k == 3) = false := beq_eq_false_iff_ne.2 hk3
 by_cases hk4 : k = 4
 · subst hk4
   by_cases hn1 : 1 ≤ n
   · by_cases hn8 : n ≤ 8
     · skip
       by_cases hs : s.size = 0
       · have hs1 := (yes_none hs).1
         have hs2 := (yes_none hs).2
         have E : Hid (goodB ⟨4, n, s⟩ = true) := hid (goodB_t (Or.inr (Or.inr (Or.inr (Or.inr ⟨rfl, ⟨hn1, hn8⟩, hs⟩)))))
         go_enter func35, ntmps35
         go_wp2
         go_ret
         exact ⟨ret1 E.out.symm, grown⟩
       · have hs1 := (not_none hs).1
         have hs2 := (not_none hs).2
         have E : Hid (goodB ⟨4, n, s⟩ = false) := hid (goodB_f (fun h => by unfold GoodP at h; simp only at h; omega))
         go_enter func35, ntmps35
         go_wp2
         go_ret
         exact ⟨ret1 E.out.symm, grown⟩
     · have hn9 : decide (n ≤ 8) = false := decide_eq_false hn8
       have E : Hid (goodB ⟨4, n, s⟩ = false) := hid (goodB_f (fun h => by unfold GoodP at h; simp only at h; omega))
       go_enter func35, ntmps35
       go_wp2
       go_ret
       exact ⟨ret1 E.out.symm, grown⟩
   · have hn9 : decide (1 ≤ n) = false := decide_eq_false hn1
     have E : Hid (goodB ⟨4, n, s⟩ = false) := hid (goodB_f (fun h => by unfold GoodP at h; simp only at h; omega))
     go_enter func35, ntmps35
     go_wp2
     go_ret
     exact ⟨ret1 E.out.symm, grown⟩
 have k4 : (k == 4) = false := beq_eq_false_iff_ne.2 hk4
 have E : Hid (goodB ⟨k, n, s⟩ = false) := hid (goodB_f (fun h => by unfold GoodP at h; simp only at h; omega))
 go_enter func35, ntmps35
 go_wp2
 go_ret
 exact ⟨ret1 E.out.symm, grown⟩
theorem rgood (a : Val) (w : World) :
   Calls prog 35 #[.agg #[.int .i64 a.k, .int .i64 a.n, .string a.s]] w fun e w' => e = .returned (.bool (goodB a)) ∧ Below w.heap.size w w' := rgood_of a.k a.n a.s w
theorem same_iff {k n k' n' : Int} {s s' : ByteArray} : sameB ⟨k, n, s⟩ ⟨k', n', s'⟩ = decide (k = k' ∧ n = n' ∧ s = s') := by
 unfold sameB; rw [decide_eq_decide]; exact ⟨fun h => by injection h with h1 h2 h3; exact ⟨h1, h2, h3⟩, fun ⟨h1, h2, h3⟩ => by subst h1 h2 h3; rfl⟩
theorem str_ne {s s' : ByteArray} (h : ¬ s = s') : (s.toList == s'.toList) = false := by
 rw [beq_eq_false_iff_ne]; intro e; apply h
 rw [Lib.toList_data, Lib.toList_data] at e
 exact WideShapes.bytes_inj e
theorem keepValue_of (k n k' n' : Int) (s s' : ByteArray) (w : World) :
   Calls prog 13 #[.agg #[.int .i64 k, .int .i64 n, .string s], .agg #[.int .i64 k', .int .i64 n', .string s']] w fun e w' => e = .returned (.bool (sameB ⟨k, n, s⟩ ⟨k', n', s'⟩)) ∧ Below w.heap.size w w' := by
 by_cases h1 : k = k'
 · subst h1
   by_cases h2 : n = n'
   · subst h2
     by_cases h3 : s = s'
     · subst h3
       have E : Hid (sameB ⟨k, n, s⟩ ⟨k, n, s⟩ = true) := hid (same_iff.trans (decide_eq_true ⟨rfl, rfl, rfl⟩))
       go_enter func13, ntmps13
       go_wp2
       go_ret
       exact ⟨ret1 E.out.symm, grown.trans (grown.mono grown.size)⟩
     · have b3 := str_ne h3
       have E : Hid (sameB ⟨k, n, s⟩ ⟨k, n, s'⟩ = false) := hid (same_iff.trans (decide_eq_false fun h => h3 h.2.2))
       clear h3
       go_enter func13, ntmps13
       go_wp2
       go_ret
       exact ⟨ret1 E.out.symm, grown.trans (grown.mono grown.size)⟩
   · have b2 : (n == n') = false := beq_eq_false_iff_ne.2 h2
     have E : Hid (sameB ⟨k, n, s⟩ ⟨k, n', s'⟩ = false) := hid (same_iff.trans (decide_eq_false fun h => h2 h.2.1))
     clear h2
     go_enter func13, ntmps13
     go_wp2
     go_ret
     exact ⟨ret1 E.out.symm, grown.trans (grown.mono grown.size)⟩
 · have b1 : (k == k') = false := beq_eq_false_iff_ne.2 h1
   have E : Hid (sameB ⟨k, n, s⟩ ⟨k', n', s'⟩ = false) := hid (same_iff.trans (decide_eq_false fun h => h1 h.1))
   clear h1
   go_enter func13, ntmps13
   go_wp2
   go_ret
   exact ⟨ret1 E.out.symm, grown.trans (grown.mono grown.size)⟩
theorem keepValue (a b : Val) (w : World) :
   Calls prog 13 #[.agg #[.int .i64 (a).k, .int .i64 (a).n, .string (a).s], .agg #[.int .i64 (b).k, .int .i64 (b).n, .string (b).s]] w fun e w' => e = .returned (.bool (sameB a b)) ∧ Below w.heap.size w w' := keepValue_of a.k a.n b.k b.n a.s b.s w
theorem cgood_of (k n : Int) (s : ByteArray) (w : World) :
   Calls prog 63 #[.agg #[.int .i64 k, .int .i64 n, .string s]] w fun e w' => e = .returned (.bool (goodB ⟨k, n, s⟩)) ∧ Below w.heap.size w w' := by
 by_cases hk0 : k = 0
 · subst hk0
   by_cases hn0 : n = 0
   · subst hn0
     by_cases hs : s.size = 0
     · have hs1 := (yes_none hs).1
       have hs2 := (yes_none hs).2
       have E : Hid (goodB ⟨0, 0, s⟩ = true) := hid (goodB_t (Or.inl ⟨rfl, rfl, hs⟩))
       go_enter func63, ntmps63
       go_wp2
       go_ret
       exact ⟨ret1 E.out.symm, grown⟩
     · have hs1 := (not_none hs).1
       have hs2 := (not_none hs).2
       have E : Hid (goodB ⟨0, 0, s⟩ = false) := hid (goodB_f (fun h => by unfold GoodP at h; simp only at h; omega))
       go_enter func63, ntmps63
       go_wp2
       go_ret
       exact ⟨ret1 E.out.symm, grown⟩
   · have n0 : (n == 0) = false := beq_eq_false_iff_ne.2 hn0
     have E : Hid (goodB ⟨0, n, s⟩ = false) := hid (goodB_f (fun h => by unfold GoodP at h; simp only at h; omega))
     go_enter func63, ntmps63
     go_wp2
     go_ret
     exact ⟨ret1 E.out.symm, grown⟩
 have k0 : (k == 0) = false := beq_eq_false_iff_ne.2 hk0
 by_cases hk1 : k = 1
 · subst hk1
   by_cases hn0 : n = 0
   · subst hn0
     by_cases hs : s.size = 0
     · have hs1 := (yes_none hs).1
       have hs2 := (yes_none hs).2
       have E : Hid (goodB ⟨1, 0, s⟩ = true) := hid (goodB_t (Or.inr (Or.inl ⟨rfl, Or.inl rfl, hs⟩)))
       go_enter func63, ntmps63
       go_wp2
       go_ret
       exact ⟨ret1 E.out.symm, grown⟩
     · have hs1 := (not_none hs).1
       have hs2 := (not_none hs).2
       have E : Hid (goodB ⟨1, 0, s⟩ = false) := hid (goodB_f (fun h => by unfold GoodP at h; simp only at h; omega))
       go_enter func63, ntmps63
       go_wp2
       go_ret
       exact ⟨ret1 E.out.symm, grown⟩
   · have n0 : (n == 0) = false := beq_eq_false_iff_ne.2 hn0
     by_cases hn1 : n = 1
     · subst hn1
       by_cases hs : s.size = 0
       · have hs1 := (yes_none hs).1
         have hs2 := (yes_none hs).2
         have E : Hid (goodB ⟨1, 1, s⟩ = true) := hid (goodB_t (Or.inr (Or.inl ⟨rfl, Or.inr rfl, hs⟩)))
         go_enter func63, ntmps63
         go_wp2
         go_ret
         exact ⟨ret1 E.out.symm, grown⟩
       · have hs1 := (not_none hs).1
         have hs2 := (not_none hs).2
         have E : Hid (goodB ⟨1, 1, s⟩ = false) := hid (goodB_f (fun h => by unfold GoodP at h; simp only at h; omega))
         go_enter func63, ntmps63
         go_wp2
         go_ret
         exact ⟨ret1 E.out.symm, grown⟩
     · have n1 : (n == 1) = false := beq_eq_false_iff_ne.2 hn1
       have E : Hid (goodB ⟨1, n, s⟩ = false) := hid (goodB_f (fun h => by unfold GoodP at h; simp only at h; omega))
       go_enter func63, ntmps63
       go_wp2
       go_ret
       exact ⟨ret1 E.out.symm, grown⟩
 have k1 : (k == 1) = false := beq_eq_false_iff_ne.2 hk1
 by_cases hk2 : k = 2
 · subst hk2
   by_cases hs : s.size = 0
   · have hs1 := (yes_none hs).1
     have hs2 := (yes_none hs).2
     have E : Hid (goodB ⟨2, n, s⟩ = true) := hid (goodB_t (Or.inr (Or.inr (Or.inl ⟨rfl, hs⟩))))
     go_enter func63, ntmps63
     go_wp2
     go_ret
     exact ⟨ret1 E.out.symm, grown⟩
   · have hs1 := (not_none hs).1
     have hs2 := (not_none hs).2
     have E : Hid (goodB ⟨2, n, s⟩ = false) := hid (goodB_f (fun h => by unfold GoodP at h; simp only at h; omega))
     go_enter func63, ntmps63
     go_wp2
     go_ret
     exact ⟨ret1 E.out.symm, grown⟩
 have k2 : (k == 2) = false := beq_eq_false_iff_ne.2 hk2
 by_cases hk3 : k = 3
 · subst hk3
   by_cases hn0 : n = 0
   · subst hn0
     by_cases hs : s.size ≤ 200
     · have hs1 : decide ((s.size : Int) ≤ 200) = true := decide_eq_true (by omega)
       have E : Hid (goodB ⟨3, 0, s⟩ = true) := hid (goodB_t (Or.inr (Or.inr (Or.inr (Or.inl ⟨rfl, rfl, hs⟩)))))
       go_enter func63, ntmps63
       go_wp2
       go_ret
       exact ⟨ret1 E.out.symm, grown⟩
     · have hs1 : decide ((s.size : Int) ≤ 200) = false := decide_eq_false (by omega)
       have E : Hid (goodB ⟨3, 0, s⟩ = false) := hid (goodB_f (fun h => by unfold GoodP at h; simp only at h; omega))
       go_enter func63, ntmps63
       go_wp2
       go_ret
       exact ⟨ret1 E.out.symm, grown⟩
   · have n0 : (n == 0) = false := beq_eq_false_iff_ne.2 hn0
     have E : Hid (goodB ⟨3, n, s⟩ = false) := hid (goodB_f (fun h => by unfold GoodP at h; simp only at h; omega))
     go_enter func63, ntmps63
     go_wp2
     go_ret
     exact ⟨ret1 E.out.symm, grown⟩
 have k3 : (k == 3) = false := beq_eq_false_iff_ne.2 hk3
 by_cases hk4 : k = 4
 · subst hk4
   by_cases hn1 : 1 ≤ n
   · by_cases hn8 : n ≤ 8
     · skip
       by_cases hs : s.size = 0
       · have hs1 := (yes_none hs).1
         have hs2 := (yes_none hs).2
         have E : Hid (goodB ⟨4, n, s⟩ = true) := hid (goodB_t (Or.inr (Or.inr (Or.inr (Or.inr ⟨rfl, ⟨hn1, hn8⟩, hs⟩)))))
         go_enter func63, ntmps63
         go_wp2
         go_ret
         exact ⟨ret1 E.out.symm, grown⟩
       · have hs1 := (not_none hs).1
         have hs2 := (not_none hs).2
         have E : Hid (goodB ⟨4, n, s⟩ = false) := hid (goodB_f (fun h => by unfold GoodP at h; simp only at h; omega))
         go_enter func63, ntmps63
         go_wp2
         go_ret
         exact ⟨ret1 E.out.symm, grown⟩
     · have hn9 : decide (n ≤ 8) = false := decide_eq_false hn8
       have E : Hid (goodB ⟨4, n, s⟩ = false) := hid (goodB_f (fun h => by unfold GoodP at h; simp only at h; omega))
       go_enter func63, ntmps63
       go_wp2
       go_ret
       exact ⟨ret1 E.out.symm, grown⟩
   · have hn9 : decide (1 ≤ n) = false := decide_eq_false hn1
     have E : Hid (goodB ⟨4, n, s⟩ = false) := hid (goodB_f (fun h => by unfold GoodP at h; simp only at h; omega))
     go_enter func63, ntmps63
     go_wp2
     go_ret
     exact ⟨ret1 E.out.symm, grown⟩
 have k4 : (k == 4) = false := beq_eq_false_iff_ne.2 hk4
 have E : Hid (goodB ⟨k, n, s⟩ = false) := hid (goodB_f (fun h => by unfold GoodP at h; simp only at h; omega))
 go_enter func63, ntmps63
 go_wp2
 go_ret
 exact ⟨ret1 E.out.symm, grown⟩
theorem good (a : Val) (w : World) :
   Calls prog 63 #[.agg #[.int .i64 a.k, .int .i64 a.n, .string a.s]] w fun e w' => e = .returned (.bool (goodB a)) ∧ Below w.heap.size w w' := cgood_of a.k a.n a.s w
theorem fail (c : Int) (w : World) :
   Calls prog 75 #[.int .i64 c] w fun e w' => e = .returned (.agg #[.int .i64 (failV c).k, .int .i64 (failV c).n, .string (failV c).s]) ∧ Below w.heap.size w w' := by
 by_cases h1 : 1 ≤ c
 · by_cases h2 : c ≤ 8
   · have E := hid (failV_yes ⟨h1, h2⟩)
     have hB := Below.refl w.heap.size w
     go_enter func75, ntmps75
     go_wp2
     refine bodyPost_ret (v := .agg #[.int .i64 4, .int .i64 c, .string { data := #[] }]) (by simp [results, results75, go_sem]) rfl ⟨by rw [E.out]; try rfl, ?_⟩
     repeat (with_reducible first | exact hB | refine Below.setCell ?_ (by simp <;> omega) _ | refine Below.alloc ?_ (by simp <;> omega) _)
   · have E := hid (failV_no (c := c) (by omega))
     have hB := Below.refl w.heap.size w
     go_enter func75, ntmps75
     go_wp2
     refine bodyPost_ret (v := .agg #[.int .i64 0, .int .i64 0, .string { data := #[] }]) (by simp [results, results75, go_sem]) rfl ⟨by rw [E.out]; try rfl, ?_⟩
     repeat (with_reducible first | exact hB | refine Below.setCell ?_ (by simp <;> omega) _ | refine Below.alloc ?_ (by simp <;> omega) _)
 · have E := hid (failV_no (c := c) (by omega))
   have hB := Below.refl w.heap.size w
   go_enter func75, ntmps75
   go_wp2
   refine bodyPost_ret (v := .agg #[.int .i64 0, .int .i64 0, .string { data := #[] }]) (by simp [results, results75, go_sem]) rfl ⟨by rw [E.out]; try rfl, ?_⟩
   repeat (with_reducible first | exact hB | refine Below.setCell ?_ (by simp <;> omega) _ | refine Below.alloc ?_ (by simp <;> omega) _)
theorem clone (s : ByteArray) (w : World) (h : s.size ≤ 281474976710656) :
   Calls prog 64 #[.string s] w fun e w' => e = .returned (.string s) ∧ Below w.heap.size w w' := by
 go_enter func64, ntmps64
 go_wp2_with fail
 refine (Tryz.stringslite_Clone s _ h).mono ?_; rintro e w1 ⟨rfl, hb1⟩
 go_wp2
 go_ret
 exact ⟨rfl, hb1⟩
theorem of (s : ByteArray) (w : World) :
   Calls prog 45 #[.string s] w fun e w' => e = .returned (.agg #[.int .i64 (ofV s).k, .int .i64 (ofV s).n, .string (ofV s).s]) ∧ Below w.heap.size w w' := by
 by_cases h : 200 < s.size
 · have E : Hid (ofV s = ⟨4, 7, nos⟩) := hid (if_pos h)
   go_enter func45, ntmps45
   go_wp2_with fail
   refine (fail 7 _).mono ?_; rw [failV_yes (by omega)]; rintro e w1 ⟨rfl, hb1⟩
   obtain ⟨hc, hf⟩ := bcell hb1
   have hz := size_of hb1
   have hB := below_of hb1
   go_wp2
   refine bodyPost_ret (v := .agg #[.int .i64 4, .int .i64 7, .string { data := #[] }]) (by simp [results, results45, go_sem, hc, nos]) rfl ⟨by rw [E.out]; try rfl, ?_⟩
   repeat (with_reducible first | exact hB | refine Below.setCell ?_ (by simp <;> omega) _ | refine Below.alloc ?_ (by simp <;> omega) _)
 · have E : Hid (ofV s = ⟨3, 0, s⟩) := hid (if_neg h)
   go_enter func45, ntmps45
   go_wp2_with fail
   refine (clone s _ (by omega)).mono ?_; rintro e w1 ⟨rfl, hb1⟩
   obtain ⟨hc, hf⟩ := bcell hb1
   have hz := size_of hb1
   have hB := below_of hb1
   go_wp2
   refine bodyPost_ret (v := .agg #[.int .i64 3, .int .i64 0, .string s]) (by simp [results, results45, go_sem, hc]) rfl ⟨by rw [E.out]; try rfl, ?_⟩
   repeat (with_reducible first | exact hB | refine Below.setCell ?_ (by simp <;> omega) _ | refine Below.alloc ?_ (by simp <;> omega) _)
theorem eqs (k n k' n' : Int) (s s' : ByteArray) (W : World) :
   (binOp .eql 24 (.agg #[.int .i64 k, .int .i64 n, .string s]) (.agg #[.int .i64 k', .int .i64 n', .string s'])).run prog W = .ok (.bool (sameB ⟨k, n, s⟩ ⟨k', n', s'⟩)) W := by
 have hS : prog.underlying 24 = some (.struct (prog.fieldsOf 24)) := by kernel_rfl
 have hp : prog.stoodInHeld 24 = false := by kernel_rfl
 have a1 := Tryz.isAgg3; have z1 := Tryz.sizeOf3; have u1 := underlying3
 have a2 := Tryz.isAgg2; have z2 := Tryz.sizeOf2; have u2 := underlying2
 have a3 := Tryz.isAgg9; have z3 := Tryz.sizeOf9; have u3 := underlying9
 rw [run_eql_struct, show (10000 : Nat) = 9999 + 1 from rfl, run_equalIn_agg W 9999 24 _ _ hS hp]
 simp only [Program.fieldsOf, underlying24]
 rw [same_iff]
 go_simp
 by_cases h1 : k = k' <;> by_cases h2 : n = n' <;> by_cases h3 : s = s' <;> simp [h1, h2, h3, Lib.toList_data]
 all_goals (first | exact fun e => h3 (ByteArray.ext e) | skip)
theorem same (a b : Val) (w : World) :
   Calls prog 38 #[.agg #[.int .i64 (a).k, .int .i64 (a).n, .string (a).s], .agg #[.int .i64 (b).k, .int .i64 (b).n, .string (b).s]] w fun e w' => e = .returned (.bool (sameB a b)) ∧ Below w.heap.size w w' := by
 have Q := eqs a.k a.n b.k b.n a.s b.s
 go_enter func38, ntmps38
 go_wp2
 go_ret
 exact ⟨ret1 rfl, grown.trans (grown.mono grown.size)⟩
def cmpS (x y : ByteArray) : Int := if bl x y then -1 else if bl y x then 1 else 0
theorem str_back (s : ByteArray) : s = ⟨s.data.toList.toArray⟩ := by obtain ⟨⟨l⟩⟩ := s; rfl
theorem show_bad {a : Val} (g : goodB a = false) : showL a = [63] := by unfold showL; rw [g]; rfl
theorem show_1 {a : Val} (g : goodB a = true) (k : a.k = 1) : showL a = if a.n = 1 then trueL else falseL := by unfold showL; rw [g, if_pos rfl, if_pos k]
theorem show_2 {a : Val} (g : goodB a = true) (k : a.k = 2) : showL a = Lib.itoa a.n := by unfold showL; rw [g, if_pos rfl, if_neg (by omega), if_pos k]
theorem show_4 {a : Val} (g : goodB a = true) (k : a.k = 4) : showL a = faultL a.n := by unfold showL; rw [g, if_pos rfl, if_neg (by omega), if_neg (by omega), if_pos k]
theorem show_s {a : Val} (g : goodB a = true) (k : a.k ≠ 1) (k2 : a.k ≠ 2) (k4 : a.k ≠ 4) : showL a = a.s.data.toList := by unfold showL; rw [g, if_pos rfl, if_neg k, if_neg k2, if_neg k4]
theorem good_of {a : Val} (h : goodB a = true) : GoodP a := of_decide_eq_true h
theorem none_list {s : ByteArray} (h : s.size = 0) : s.data.toList = [] := by rw [size_nos h]; rfl
theorem rshow_bad (a : Val) (w : World) (hg : goodB a = false) :
   Calls prog 36 #[.agg #[.int .i64 (a).k, .int .i64 (a).n, .string (a).s]] w fun e w' => e = .returned (.string ⟨(showL a).toArray⟩) ∧ Below w.heap.size w w' := by
 have G := hid hg
 have E := hid (show_bad hg)
 clear hg
 go_enter func36, ntmps36
 go_wp2_with fail
 refine (rgood _ _).mono ?_; rw [G.out]; rintro e w1 ⟨rfl, hb1⟩
 obtain ⟨hc, hf⟩ := bcell hb1
 have hz := size_of hb1
 have hB := below_of hb1
 go_wp2
 go_ret
 refine ⟨rets' ?_, ?_⟩
 · rw [E.out]
 · repeat (with_reducible first | exact hB | refine Below.setCell ?_ (by first | omega | (simp <;> omega)) _ | refine Below.alloc ?_ (by first | omega | (simp <;> omega)) _)
theorem rshow_true (a : Val) (w : World) (hg : goodB a = true) (h1 : a.k = 1) (n1 : a.n = 1) :
   Calls prog 36 #[.agg #[.int .i64 (a).k, .int .i64 (a).n, .string (a).s]] w fun e w' => e = .returned (.string ⟨(showL a).toArray⟩) ∧ Below w.heap.size w w' := by
 have G := hid hg
 have k1 : (a.k == 1) = true := beq_iff_eq.2 h1
 have m1 : (a.n == 1) = true := beq_iff_eq.2 n1
 have E : Hid (showL a = trueL) := hid ((show_1 hg h1).trans (if_pos n1))
 clear hg h1 n1
 go_enter func36, ntmps36
 go_wp2_with fail
 refine (rgood _ _).mono ?_; rw [G.out]; rintro e w1 ⟨rfl, hb1⟩
 obtain ⟨hc, hf⟩ := bcell hb1
 have hz := size_of hb1
 have hB := below_of hb1
 go_wp2
 go_ret
 refine ⟨rets' ?_, ?_⟩
 · rw [E.out]; rfl
 · repeat (with_reducible first | exact hB | refine Below.setCell ?_ (by first | omega | (simp <;> omega)) _ | refine Below.alloc ?_ (by first | omega | (simp <;> omega)) _)
theorem rshow_false (a : Val) (w : World) (hg : goodB a = true) (h1 : a.k = 1) (n1 : a.n ≠ 1) :
   Calls prog 36 #[.agg #[.int .i64 (a).k, .int .i64 (a).n, .string (a).s]] w fun e w' => e = .returned (.string ⟨(showL a).toArray⟩) ∧ Below w.heap.size w w' := by
 have G := hid hg
 have k1 : (a.k == 1) = true := beq_iff_eq.2 h1
 have m1 : (a.n == 1) = false := beq_eq_false_iff_ne.2 n1
 have E : Hid (showL a = falseL) := hid ((show_1 hg h1).trans (if_neg n1))
 clear hg h1 n1
 go_enter func36, ntmps36
 go_wp2_with fail
 refine (rgood _ _).mono ?_; rw [G.out]; rintro e w1 ⟨rfl, hb1⟩
 obtain ⟨hc, hf⟩ := bcell hb1
 have hz := size_of hb1
 have hB := below_of hb1
 go_wp2
 go_ret
 refine ⟨rets' ?_, ?_⟩
 · rw [E.out]; rfl
 · repeat (with_reducible first | exact hB | refine Below.setCell ?_ (by first | omega | (simp <;> omega)) _ | refine Below.alloc ?_ (by first | omega | (simp <;> omega)) _)
theorem rshow_int (a : Val) (w : World) (hg : goodB a = true) (h1 : a.k ≠ 1) (h2 : a.k = 2) (hn : I64 a.n) :
   Calls prog 36 #[.agg #[.int .i64 (a).k, .int .i64 (a).n, .string (a).s]] w fun e w' => e = .returned (.string ⟨(showL a).toArray⟩) ∧ Below w.heap.size w w' := by
 have G := hid hg
 have k1 : (a.k == 1) = false := beq_eq_false_iff_ne.2 h1
 have k2 : (a.k == 2) = true := beq_iff_eq.2 h2
 have E := hid (show_2 hg h2)
 have hn1 := hid hn
 clear hg h1 h2 hn
 go_enter func36, ntmps36
 go_wp2_with fail
 refine (rgood _ _).mono ?_; rw [G.out]; rintro e w1 ⟨rfl, hb1⟩
 obtain ⟨hc, hf⟩ := bcell hb1
 have hz := size_of hb1
 have hB := below_of hb1
 go_wp2_with fail
 refine (rdec _ _ hn1.out).mono ?_; rintro e w' ⟨rfl, rfl⟩
 go_wp2
 go_ret
 refine ⟨rets' ?_, ?_⟩
 · rw [E.out]
 · repeat (with_reducible first | exact hB | refine Below.setCell ?_ (by first | omega | (simp <;> omega)) _ | refine Below.alloc ?_ (by first | omega | (simp <;> omega)) _)
theorem rshow_text (a : Val) (w : World) (hg : goodB a = true) (h1 : a.k ≠ 1) (h2 : a.k ≠ 2) (h3 : a.k = 3) :
   Calls prog 36 #[.agg #[.int .i64 (a).k, .int .i64 (a).n, .string (a).s]] w fun e w' => e = .returned (.string ⟨(showL a).toArray⟩) ∧ Below w.heap.size w w' := by
 have G := hid hg
 have k1 : (a.k == 1) = false := beq_eq_false_iff_ne.2 h1
 have k2 : (a.k == 2) = false := beq_eq_false_iff_ne.2 h2
 have k3 : (a.k == 3) = true := beq_iff_eq.2 h3
 have E := hid (show_s hg h1 h2 (by omega))
 clear hg h1 h2 h3
 go_enter func36, ntmps36
 go_wp2_with fail
 refine (rgood _ _).mono ?_; rw [G.out]; rintro e w1 ⟨rfl, hb1⟩
 obtain ⟨hc, hf⟩ := bcell hb1
 have hz := size_of hb1
 have hB := below_of hb1
 go_wp2
 go_ret
 refine ⟨rets' ?_, ?_⟩
 · rw [E.out]
 · repeat (with_reducible first | exact hB | refine Below.setCell ?_ (by first | omega | (simp <;> omega)) _ | refine Below.alloc ?_ (by first | omega | (simp <;> omega)) _)
theorem rshow_fault1 (a : Val) (w : World) (hg : goodB a = true) (h1 : a.k ≠ 1) (h2 : a.k ≠ 2) (h3 : a.k ≠ 3) (h4 : a.k = 4) (hv : a.n = 1) :
   Calls prog 36 #[.agg #[.int .i64 (a).k, .int .i64 (a).n, .string (a).s]] w fun e w' => e = .returned (.string ⟨(showL a).toArray⟩) ∧ Below w.heap.size w w' := by
 have G := hid hg
 have k1 : (a.k == 1) = false := beq_eq_false_iff_ne.2 h1
 have k2 : (a.k == 2) = false := beq_eq_false_iff_ne.2 h2
 have k3 : (a.k == 3) = false := beq_eq_false_iff_ne.2 h3
 have k4 : (a.k == 4) = true := beq_iff_eq.2 h4
 have E : Hid (showL a = faultL 1) := hid (by rw [show_4 hg h4, hv])
 have HV := hid hv
 clear hg h1 h2 h3 h4 hv
 go_enter func36, ntmps36
 go_wp2_with fail
 refine (rgood _ _).mono ?_; rw [G.out]; rintro e w1 ⟨rfl, hb1⟩
 obtain ⟨hc, hf⟩ := bcell hb1
 have hz := size_of hb1
 have hB := below_of hb1
 have hv := HV.out
 go_wp2
 go_ret
 refine ⟨rets' ?_, ?_⟩
 · rw [E.out]; rfl
 · repeat (with_reducible first | exact hB | refine Below.setCell ?_ (by first | omega | (simp <;> omega)) _ | refine Below.alloc ?_ (by first | omega | (simp <;> omega)) _)
theorem rshow_fault2 (a : Val) (w : World) (hg : goodB a = true) (h1 : a.k ≠ 1) (h2 : a.k ≠ 2) (h3 : a.k ≠ 3) (h4 : a.k = 4) (hv : a.n = 2) :
   Calls prog 36 #[.agg #[.int .i64 (a).k, .int .i64 (a).n, .string (a).s]] w fun e w' => e = .returned (.string ⟨(showL a).toArray⟩) ∧ Below w.heap.size w w' := by
 have G := hid hg
 have k1 : (a.k == 1) = false := beq_eq_false_iff_ne.2 h1
 have k2 : (a.k == 2) = false := beq_eq_false_iff_ne.2 h2
 have k3 : (a.k == 3) = false := beq_eq_false_iff_ne.2 h3
 have k4 : (a.k == 4) = true := beq_iff_eq.2 h4
 have E : Hid (showL a = faultL 2) := hid (by rw [show_4 hg h4, hv])
 have HV := hid hv
 clear hg h1 h2 h3 h4 hv
 go_enter func36, ntmps36
 go_wp2_with fail
 refine (rgood _ _).mono ?_; rw [G.out]; rintro e w1 ⟨rfl, hb1⟩
 obtain ⟨hc, hf⟩ := bcell hb1
 have hz := size_of hb1
 have hB := below_of hb1
 have hv := HV.out
 go_wp2
 go_ret
 refine ⟨rets' ?_, ?_⟩
 · rw [E.out]; rfl
 · repeat (with_reducible first | exact hB | refine Below.setCell ?_ (by first | omega | (simp <;> omega)) _ | refine Below.alloc ?_ (by first | omega | (simp <;> omega)) _)
theorem rshow_fault3 (a : Val) (w : World) (hg : goodB a = true) (h1 : a.k ≠ 1) (h2 : a.k ≠ 2) (h3 : a.k ≠ 3) (h4 : a.k = 4) (hv : a.n = 3) :
   Calls prog 36 #[.agg #[.int .i64 (a).k, .int .i64 (a).n, .string (a).s]] w fun e w' => e = .returned (.string ⟨(showL a).toArray⟩) ∧ Below w.heap.size w w' := by
 have G := hid hg
 have k1 : (a.k == 1) = false := beq_eq_false_iff_ne.2 h1
 have k2 : (a.k == 2) = false := beq_eq_false_iff_ne.2 h2
 have k3 : (a.k == 3) = false := beq_eq_false_iff_ne.2 h3
 have k4 : (a.k == 4) = true := beq_iff_eq.2 h4
 have E : Hid (showL a = faultL 3) := hid (by rw [show_4 hg h4, hv])
 have HV := hid hv
 clear hg h1 h2 h3 h4 hv
 go_enter func36, ntmps36
 go_wp2_with fail
 refine (rgood _ _).mono ?_; rw [G.out]; rintro e w1 ⟨rfl, hb1⟩
 obtain ⟨hc, hf⟩ := bcell hb1
 have hz := size_of hb1
 have hB := below_of hb1
 have hv := HV.out
 go_wp2
 go_ret
 refine ⟨rets' ?_, ?_⟩
 · rw [E.out]; rfl
 · repeat (with_reducible first | exact hB | refine Below.setCell ?_ (by first | omega | (simp <;> omega)) _ | refine Below.alloc ?_ (by first | omega | (simp <;> omega)) _)
theorem rshow_fault4 (a : Val) (w : World) (hg : goodB a = true) (h1 : a.k ≠ 1) (h2 : a.k ≠ 2) (h3 : a.k ≠ 3) (h4 : a.k = 4) (hv : a.n = 4) :
   Calls prog 36 #[.agg #[.int .i64 (a).k, .int .i64 (a).n, .string (a).s]] w fun e w' => e = .returned (.string ⟨(showL a).toArray⟩) ∧ Below w.heap.size w w' := by
 have G := hid hg
 have k1 : (a.k == 1) = false := beq_eq_false_iff_ne.2 h1
 have k2 : (a.k == 2) = false := beq_eq_false_iff_ne.2 h2
 have k3 : (a.k == 3) = false := beq_eq_false_iff_ne.2 h3
 have k4 : (a.k == 4) = true := beq_iff_eq.2 h4
 have E : Hid (showL a = faultL 4) := hid (by rw [show_4 hg h4, hv])
 have HV := hid hv
 clear hg h1 h2 h3 h4 hv
 go_enter func36, ntmps36
 go_wp2_with fail
 refine (rgood _ _).mono ?_; rw [G.out]; rintro e w1 ⟨rfl, hb1⟩
 obtain ⟨hc, hf⟩ := bcell hb1
 have hz := size_of hb1
 have hB := below_of hb1
 have hv := HV.out
 go_wp2
 go_ret
 refine ⟨rets' ?_, ?_⟩
 · rw [E.out]; rfl
 · repeat (with_reducible first | exact hB | refine Below.setCell ?_ (by first | omega | (simp <;> omega)) _ | refine Below.alloc ?_ (by first | omega | (simp <;> omega)) _)
theorem rshow_fault5 (a : Val) (w : World) (hg : goodB a = true) (h1 : a.k ≠ 1) (h2 : a.k ≠ 2) (h3 : a.k ≠ 3) (h4 : a.k = 4) (hv : a.n = 5) :
   Calls prog 36 #[.agg #[.int .i64 (a).k, .int .i64 (a).n, .string (a).s]] w fun e w' => e = .returned (.string ⟨(showL a).toArray⟩) ∧ Below w.heap.size w w' := by
 have G := hid hg
 have k1 : (a.k == 1) = false := beq_eq_false_iff_ne.2 h1
 have k2 : (a.k == 2) = false := beq_eq_false_iff_ne.2 h2
 have k3 : (a.k == 3) = false := beq_eq_false_iff_ne.2 h3
 have k4 : (a.k == 4) = true := beq_iff_eq.2 h4
 have E : Hid (showL a = faultL 5) := hid (by rw [show_4 hg h4, hv])
 have HV := hid hv
 clear hg h1 h2 h3 h4 hv
 go_enter func36, ntmps36
 go_wp2_with fail
 refine (rgood _ _).mono ?_; rw [G.out]; rintro e w1 ⟨rfl, hb1⟩
 obtain ⟨hc, hf⟩ := bcell hb1
 have hz := size_of hb1
 have hB := below_of hb1
 have hv := HV.out
 go_wp2
 go_ret
 refine ⟨rets' ?_, ?_⟩
 · rw [E.out]; rfl
 · repeat (with_reducible first | exact hB | refine Below.setCell ?_ (by first | omega | (simp <;> omega)) _ | refine Below.alloc ?_ (by first | omega | (simp <;> omega)) _)
theorem rshow_fault6 (a : Val) (w : World) (hg : goodB a = true) (h1 : a.k ≠ 1) (h2 : a.k ≠ 2) (h3 : a.k ≠ 3) (h4 : a.k = 4) (hv : a.n = 6) :
   Calls prog 36 #[.agg #[.int .i64 (a).k, .int .i64 (a).n, .string (a).s]] w fun e w' => e = .returned (.string ⟨(showL a).toArray⟩) ∧ Below w.heap.size w w' := by
 have G := hid hg
 have k1 : (a.k == 1) = false := beq_eq_false_iff_ne.2 h1
 have k2 : (a.k == 2) = false := beq_eq_false_iff_ne.2 h2
 have k3 : (a.k == 3) = false := beq_eq_false_iff_ne.2 h3
 have k4 : (a.k == 4) = true := beq_iff_eq.2 h4
 have E : Hid (showL a = faultL 6) := hid (by rw [show_4 hg h4, hv])
 have HV := hid hv
 clear hg h1 h2 h3 h4 hv
 go_enter func36, ntmps36
 go_wp2_with fail
 refine (rgood _ _).mono ?_; rw [G.out]; rintro e w1 ⟨rfl, hb1⟩
 obtain ⟨hc, hf⟩ := bcell hb1
 have hz := size_of hb1
 have hB := below_of hb1
 have hv := HV.out
 go_wp2
 go_ret
 refine ⟨rets' ?_, ?_⟩
 · rw [E.out]; rfl
 · repeat (with_reducible first | exact hB | refine Below.setCell ?_ (by first | omega | (simp <;> omega)) _ | refine Below.alloc ?_ (by first | omega | (simp <;> omega)) _)
theorem rshow_fault7 (a : Val) (w : World) (hg : goodB a = true) (h1 : a.k ≠ 1) (h2 : a.k ≠ 2) (h3 : a.k ≠ 3) (h4 : a.k = 4) (hv : a.n = 7) :
   Calls prog 36 #[.agg #[.int .i64 (a).k, .int .i64 (a).n, .string (a).s]] w fun e w' => e = .returned (.string ⟨(showL a).toArray⟩) ∧ Below w.heap.size w w' := by
 have G := hid hg
 have k1 : (a.k == 1) = false := beq_eq_false_iff_ne.2 h1
 have k2 : (a.k == 2) = false := beq_eq_false_iff_ne.2 h2
 have k3 : (a.k == 3) = false := beq_eq_false_iff_ne.2 h3
 have k4 : (a.k == 4) = true := beq_iff_eq.2 h4
 have E : Hid (showL a = faultL 7) := hid (by rw [show_4 hg h4, hv])
 have HV := hid hv
 clear hg h1 h2 h3 h4 hv
 go_enter func36, ntmps36
 go_wp2_with fail
 refine (rgood _ _).mono ?_; rw [G.out]; rintro e w1 ⟨rfl, hb1⟩
 obtain ⟨hc, hf⟩ := bcell hb1
 have hz := size_of hb1
 have hB := below_of hb1
 have hv := HV.out
 go_wp2
 go_ret
 refine ⟨rets' ?_, ?_⟩
 · rw [E.out]; rfl
 · repeat (with_reducible first | exact hB | refine Below.setCell ?_ (by first | omega | (simp <;> omega)) _ | refine Below.alloc ?_ (by first | omega | (simp <;> omega)) _)
theorem rshow_fault8 (a : Val) (w : World) (hg : goodB a = true) (h1 : a.k ≠ 1) (h2 : a.k ≠ 2) (h3 : a.k ≠ 3) (h4 : a.k = 4) (hv : a.n = 8) :
   Calls prog 36 #[.agg #[.int .i64 (a).k, .int .i64 (a).n, .string (a).s]] w fun e w' => e = .returned (.string ⟨(showL a).toArray⟩) ∧ Below w.heap.size w w' := by
 have G := hid hg
 have k1 : (a.k == 1) = false := beq_eq_false_iff_ne.2 h1
 have k2 : (a.k == 2) = false := beq_eq_false_iff_ne.2 h2
 have k3 : (a.k == 3) = false := beq_eq_false_iff_ne.2 h3
 have k4 : (a.k == 4) = true := beq_iff_eq.2 h4
 have E : Hid (showL a = faultL 8) := hid (by rw [show_4 hg h4, hv])
 have HV := hid hv
 clear hg h1 h2 h3 h4 hv
 go_enter func36, ntmps36
 go_wp2_with fail
 refine (rgood _ _).mono ?_; rw [G.out]; rintro e w1 ⟨rfl, hb1⟩
 obtain ⟨hc, hf⟩ := bcell hb1
 have hz := size_of hb1
 have hB := below_of hb1
 have hv := HV.out
 go_wp2
 go_ret
 refine ⟨rets' ?_, ?_⟩
 · rw [E.out]; rfl
 · repeat (with_reducible first | exact hB | refine Below.setCell ?_ (by first | omega | (simp <;> omega)) _ | refine Below.alloc ?_ (by first | omega | (simp <;> omega)) _)
theorem rshow_empty (a : Val) (w : World) (hg : goodB a = true) (h1 : a.k ≠ 1) (h2 : a.k ≠ 2) (h3 : a.k ≠ 3) (h4 : a.k ≠ 4) :
   Calls prog 36 #[.agg #[.int .i64 (a).k, .int .i64 (a).n, .string (a).s]] w fun e w' => e = .returned (.string ⟨(showL a).toArray⟩) ∧ Below w.heap.size w w' := by
 have G := hid hg
 have k1 : (a.k == 1) = false := beq_eq_false_iff_ne.2 h1
 have k2 : (a.k == 2) = false := beq_eq_false_iff_ne.2 h2
 have k3 : (a.k == 3) = false := beq_eq_false_iff_ne.2 h3
 have k4 : (a.k == 4) = false := beq_eq_false_iff_ne.2 h4
 have hs : a.s.size = 0 := by have := good_of hg; unfold GoodP at this; omega
 have E := hid ((show_s hg h1 h2 h4).trans (none_list hs))
 clear hg h1 h2 h3 h4 hs
 go_enter func36, ntmps36
 go_wp2_with fail
 refine (rgood _ _).mono ?_; rw [G.out]; rintro e w1 ⟨rfl, hb1⟩
 obtain ⟨hc, hf⟩ := bcell hb1
 have hz := size_of hb1
 have hB := below_of hb1
 go_wp2
 go_ret
 refine ⟨rets' ?_, ?_⟩
 · rw [E.out]
 · repeat (with_reducible first | exact hB | refine Below.setCell ?_ (by first | omega | (simp <;> omega)) _ | refine Below.alloc ?_ (by first | omega | (simp <;> omega)) _)
theorem rshow (a : Val) (w : World) (hn : I64 a.n) :
   Calls prog 36 #[.agg #[.int .i64 (a).k, .int .i64 (a).n, .string (a).s]] w fun e w' => e = .returned (.string ⟨(showL a).toArray⟩) ∧ Below w.heap.size w w' := by
 cases hg : goodB a
 · exact rshow_bad a w hg
 by_cases h1 : a.k = 1
 · by_cases n1 : a.n = 1
   · exact rshow_true a w hg h1 n1
   · exact rshow_false a w hg h1 n1
 by_cases h2 : a.k = 2
 · exact rshow_int a w hg h1 h2 hn
 by_cases h3 : a.k = 3
 · exact rshow_text a w hg h1 h2 h3
 by_cases h4 : a.k = 4
 · have hr : a.n = 1 ∨ a.n = 2 ∨ a.n = 3 ∨ a.n = 4 ∨ a.n = 5 ∨ a.n = 6 ∨ a.n = 7 ∨ a.n = 8 := by have := good_of hg; unfold GoodP at this; omega
   rcases hr with hv | hv | hv | hv | hv | hv | hv | hv
   · exact rshow_fault1 a w hg h1 h2 h3 h4 hv
   · exact rshow_fault2 a w hg h1 h2 h3 h4 hv
   · exact rshow_fault3 a w hg h1 h2 h3 h4 hv
   · exact rshow_fault4 a w hg h1 h2 h3 h4 hv
   · exact rshow_fault5 a w hg h1 h2 h3 h4 hv
   · exact rshow_fault6 a w hg h1 h2 h3 h4 hv
   · exact rshow_fault7 a w hg h1 h2 h3 h4 hv
   · exact rshow_fault8 a w hg h1 h2 h3 h4 hv
 · exact rshow_empty a w hg h1 h2 h3 h4
theorem show_int_c (a : Val) (w : World) (hl : LibIs w) (hg : goodB a = true) (h2 : a.k = 2) (hn : I64 a.n) :
   Calls prog 65 #[.agg #[.int .i64 (a).k, .int .i64 (a).n, .string (a).s]] w fun e w' => e = .returned (.string ⟨(showL a).toArray⟩) ∧ Below w.heap.size w w' := by
 have G := hid hg
 have k2 : (a.k == 2) = true := beq_iff_eq.2 h2
 have E := hid (show_2 hg h2)
 have hn1 := hid hn
 clear hg h2 hn
 go_enter func65, ntmps65
 go_wp2_with fail
 refine (good _ _).mono ?_; rw [G.out]; rintro e w1 ⟨rfl, hb1⟩
 obtain ⟨hc, hf⟩ := bcell hb1
 have hz := size_of hb1
 have hB := below_of hb1
 go_wp2_with fail
 refine (dec _ _ hn1.out (hl.below (below_of hb1))).mono ?_; rintro e w2 ⟨rfl, hb2⟩
 replace hB := hB.trans (hb2.mono hB.size)
 go_wp2
 go_ret
 refine ⟨rets' ?_, ?_⟩
 · rw [E.out]
 · repeat (with_reducible first | exact hB | refine Below.setCell ?_ (by first | omega | (simp <;> omega)) _ | refine Below.alloc ?_ (by first | omega | (simp <;> omega)) _)
theorem show_false_c (a : Val) (w : World) (hl : LibIs w) (hg : goodB a = true) (h2 : a.k ≠ 2) (h4 : a.k ≠ 4) (h1 : a.k = 1) (n0 : a.n = 0) :
   Calls prog 65 #[.agg #[.int .i64 (a).k, .int .i64 (a).n, .string (a).s]] w fun e w' => e = .returned (.string ⟨(showL a).toArray⟩) ∧ Below w.heap.size w w' := by
 have G := hid hg
 have k2 : (a.k == 2) = false := beq_eq_false_iff_ne.2 h2
 have k4 : (a.k == 4) = false := beq_eq_false_iff_ne.2 h4
 have k1 : (a.k == 1) = true := beq_iff_eq.2 h1
 have m0 : (a.n == 0) = true := beq_iff_eq.2 n0
 have E : Hid (showL a = falseL) := hid ((show_1 hg h1).trans (if_neg (by omega)))
 clear hg h1 h2 h4 n0
 go_enter func65, ntmps65
 go_wp2_with fail
 refine (good _ _).mono ?_; rw [G.out]; rintro e w1 ⟨rfl, hb1⟩
 obtain ⟨hc, hf⟩ := bcell hb1
 have hz := size_of hb1
 have hB := below_of hb1
 go_wp2
 go_ret
 refine ⟨rets' ?_, ?_⟩
 · rw [E.out]; rfl
 · repeat (with_reducible first | exact hB | refine Below.setCell ?_ (by first | omega | (simp <;> omega)) _ | refine Below.alloc ?_ (by first | omega | (simp <;> omega)) _)
theorem show_true_c (a : Val) (w : World) (hl : LibIs w) (hg : goodB a = true) (h2 : a.k ≠ 2) (h4 : a.k ≠ 4) (h1 : a.k = 1) (n0 : a.n ≠ 0) :
   Calls prog 65 #[.agg #[.int .i64 (a).k, .int .i64 (a).n, .string (a).s]] w fun e w' => e = .returned (.string ⟨(showL a).toArray⟩) ∧ Below w.heap.size w w' := by
 have G := hid hg
 have k2 : (a.k == 2) = false := beq_eq_false_iff_ne.2 h2
 have k4 : (a.k == 4) = false := beq_eq_false_iff_ne.2 h4
 have k1 : (a.k == 1) = true := beq_iff_eq.2 h1
 have m0 : (a.n == 0) = false := beq_eq_false_iff_ne.2 n0
 have n1 : a.n = 1 := by have := good_of hg; unfold GoodP at this; omega
 have E : Hid (showL a = trueL) := hid ((show_1 hg h1).trans (if_pos n1))
 clear hg h1 h2 h4 n0 n1
 go_enter func65, ntmps65
 go_wp2_with fail
 refine (good _ _).mono ?_; rw [G.out]; rintro e w1 ⟨rfl, hb1⟩
 obtain ⟨hc, hf⟩ := bcell hb1
 have hz := size_of hb1
 have hB := below_of hb1
 go_wp2
 go_ret
 refine ⟨rets' ?_, ?_⟩
 · rw [E.out]; rfl
 · repeat (with_reducible first | exact hB | refine Below.setCell ?_ (by first | omega | (simp <;> omega)) _ | refine Below.alloc ?_ (by first | omega | (simp <;> omega)) _)
theorem shows12 (a : Val) (w : World) (hn : I64 a.n) (hl : LibIs w) (hg : goodB a = true) (hk : a.k = 1 ∨ a.k = 2) :
   Calls prog 65 #[.agg #[.int .i64 (a).k, .int .i64 (a).n, .string (a).s]] w fun e w' => e = .returned (.string ⟨(showL a).toArray⟩) ∧ Below w.heap.size w w' := by
 rcases hk with h1 | h2
 · by_cases n0 : a.n = 0
   · exact show_false_c a w hl hg (by omega) (by omega) h1 n0
   · exact show_true_c a w hl hg (by omega) (by omega) h1 n0
 · exact show_int_c a w hl hg h2 hn
end Go.Proofs.YticehalcnbjccaaGreatDoor.ValueC
namespace Go.Proofs.YticehalcnbjccaaGreatDoor.AddrC
set_option maxRecDepth 100000
set_option maxHeartbeats 8000000
set_option linter.unusedVariables false
open Go.RowKit NumC
open Tryz
open Lib (hid)
def NotYet (l : List UInt8) (c : Int) : Prop := ∀ r k, Cell r k → k < c → nameL r k ≠ l
theorem notYet_next {l : List UInt8} {c : Int} (h : NotYet l c) (h2 : ∀ r, Cell r c → nameL r c ≠ l) : NotYet l (c + 1) := fun r k hr hk => by
 by_cases e : k = c
 · subst e; exact h2 r hr
 · exact h r k hr (by omega)
theorem notYet_end {l : List UInt8} (h : NotYet l 51) : pR l = 0 ∧ pC l = 0 ∧ pOK l = false := by
 have := p_none (s := l) fun r c hc => h r c hc (by have := hc.2.2; omega)
 exact ⟨this.2.1, this.2.2, this.1⟩
def begins (l : List UInt8) (c : Int) : Prop := (colL c).length < l.length ∧ l.take (colL c).length = colL c
theorem not_begins {l : List UInt8} {c : Int} (h : ¬ begins l c) : ∀ r, Cell r c → nameL r c ≠ l := fun r hr e => h ⟨(name_col hr e).2.1, (name_col hr e).1⟩
theorem not_digits {l : List UInt8} {c : Int} (h : ¬ (parseB (l.drop (colL c).length) = true ∧ Cell (parseN (l.drop (colL c).length)) c)) : ∀ r, Cell r c → nameL r c ≠ l := fun r hr e => by
 have h1 := (name_col hr e).2.2
 have h2 := parse_some (cell_i64 hr) h1.symm
 exact h ⟨h2.2, by rw [h2.1]; exact hr⟩
theorem yes_digits {l : List UInt8} {c : Int} (hb : begins l c) (h : parseB (l.drop (colL c).length) = true) (h2 : Cell (parseN (l.drop (colL c).length)) c) : nameL (parseN (l.drop (colL c).length)) c = l := by
 rw [nameL_cell h2, parse_is h]
 have := List.take_append_drop (colL c).length l
 rwa [hb.2] at this
def gotW (w : World) : World := w.alloc (Obj.cells #[.int .i64 0, .int .i64 0, .bool false] 236)
theorem agg3 {x y x' y' : Int} {b b' : Bool} (h : x = x' ∧ y = y' ∧ b = b') : Ending.returned (.agg #[.int .i64 x, .int .i64 y, .bool b]) = .returned (.agg #[.int .i64 x', .int .i64 y', .bool b']) := by obtain ⟨rfl, rfl, rfl⟩ := h; rfl
theorem take_str (s : ByteArray) (m : Nat) : (s.extract 0 m).toList = s.data.toList.take m := by
 rw [Lib.toList_data, Lib.extract_data, List.drop_zero, Nat.sub_zero]
theorem drop_list (s : ByteArray) (m : Nat) : (s.extract m s.size).data.toList = s.data.toList.drop m := by rw [drop_str]
theorem raparse (s : ByteArray) (w : World) (hs : s.size ≤ 9223372036854775807) :
   Calls prog 198 #[.string s] w fun e w' => e = .returned (.agg #[.int .i64 (pR s.data.toList), .int .i64 (pC s.data.toList), .bool (pOK s.data.toList)]) ∧ Below w.heap.size w w' := by
 go_enter func198, ntmps198
 go_wp2
 go_loopw [3] (fun i wr => ∃ c : Nat, 1 ≤ c ∧ c ≤ 51 ∧ i = .int .i64 c ∧ Hid (NotYet s.data.toList c) ∧ Below (gotW w).heap.size (gotW w) wr) (fun i _ => 51 - (intOf i).toNat)
 case atStart => exact ⟨1, by omega, by omega, rfl, hid fun r k hr hk => by have := hr.2.1; omega, Below.refl _ _⟩
 case round =>
   obtain ⟨c, hc1, hc2, rfl, HN, hw⟩ := hrel
   obtain ⟨hc, hf⟩ := bcell hw
   have hz : w.heap.size < wr.heap.size := by have := hw.size; unfold gotW at this; simp at this; omega
   by_cases h51 : c = 51
   · have E := hid (notYet_end (by have := HN.out; rwa [h51] at this))
     have h50 : 50 < c := by omega
     have hB := below_of hw
     unfold gotW at hc hf
     clear hw
     go_wp2
     refine bodyPost_ret (v := .agg #[.int .i64 0, .int .i64 0, .bool false]) (by simp [results, results198, go_sem, hc]) rfl ⟨agg3 ⟨E.out.1.symm, E.out.2.1.symm, E.out.2.2.symm⟩, ?_⟩
     repeat (with_reducible first | exact hB | refine Below.setCell ?_ (by simp <;> omega) _ | refine Below.alloc ?_ (by simp <;> omega) _)
   · have hc3 : c ≤ 50 := by omega
     clear h51
     have hl2 : (colL c).length ≤ 2 := by rw [colL_len]; split <;> omega
     by_cases hlen : (colL c).length < s.size
     · by_cases he : s.data.toList.take (colL c).length = colL c
       · have hb : begins s.data.toList c := ⟨by rw [← len_list]; exact hlen, he⟩
         have he1 : ((s.extract 0 (colL c).length).toList == colL c) = true := beq_iff_eq.2 ((take_str s _).trans he)
         have DL := hid (drop_list s (colL c).length)
         cases hp : parseB (s.data.toList.drop (colL c).length)
         · have PB := hid hp
           have HN' := hid (notYet_next HN.out (not_digits (fun h => by rw [hp] at h; cases h.1)))
           clear hp he hb
           go_wp2_with fail
           refine (rcolumn _ _ (by omega) (by omega)).mono ?_; rintro e w' ⟨rfl, rfl⟩
           go_wp2_with fail
           refine (rparse _ _).mono ?_; rw [DL.out, PB.out]; rintro e w1 ⟨rfl, hb1⟩
           have hw1 := hw.trans (hb1.mono hw.size)
           have hz1 : w.heap.size < w1.heap.size := Nat.lt_of_lt_of_le hz hb1.size
           go_wp2
           go_roundw
           case rel => exact ⟨c + 1, by omega, by omega, by go_num, HN', (hw1.alloc hw1.size _).alloc (by have := hw1.size; simp <;> omega) _⟩
           case measure => simp [intOf]; omega
         · by_cases hcell : Cell (parseN (s.data.toList.drop (colL c).length)) c
           · have PB := hid hp
             have hnm := yes_digits hb hp hcell
             have E := hid (p_some hcell hnm)
             have G := hid (cellB_t hcell)
             have he2 : (nameL (parseN (s.data.toList.drop (colL c).length)) c == s.toList) = true := by rw [Lib.toList_data, hnm]; exact beq_self_eq_true _
             have hi := parseN_i64 (s.data.toList.drop (colL c).length)
             unfold I64 at hi
             clear hp he hb hnm hcell
             go_wp2_with fail
             refine (rcolumn _ _ (by omega) (by omega)).mono ?_; rintro e w' ⟨rfl, rfl⟩
             go_wp2_with fail
             refine (rparse _ _).mono ?_; rw [DL.out, PB.out]; rintro e w1 ⟨rfl, hb1⟩
             have hw1 := hw.trans (hb1.mono hw.size)
             have hz1 : w.heap.size < w1.heap.size := Nat.lt_of_lt_of_le hz hb1.size
             clear hc hf
             obtain ⟨hc, hf⟩ := bcell hw1
             unfold gotW at hc hf
             go_wp2_with fail
             refine (rgood _ _ _).mono ?_; rw [G.out]; rintro e w2 ⟨rfl, hb2⟩
             obtain ⟨hd, hg⟩ := bcell hb2
             go_wp2_with fail
             refine (rname _ _ _).mono ?_; rintro e w3 ⟨rfl, hb3⟩
             have hb4 := hb2.trans (hb3.mono hb2.size)
             have hB : Below w.heap.size w w3 := (below_of hw1).trans ((below_of (below_of hb4)).mono (below_of hw1).size)
             clear hd hg hc hf
             obtain ⟨hd, hg⟩ := bcell hb4
             have hr := hw1.trans ((below_of (below_of hb4)).mono hw1.size)
             obtain ⟨hc, hf⟩ := bcell hr
             unfold gotW at hc hf
             go_wp2
             refine bodyPost_ret (v := .agg #[.int .i64 (parseN (s.data.toList.drop (colL c).length)), .int .i64 c, .bool true]) (by simp [results, results198, go_sem, hc]) rfl ⟨agg3 ⟨E.out.2.1.symm, E.out.2.2.symm, E.out.1.symm⟩, ?_⟩
             repeat (with_reducible first | exact hB | refine Below.setCell ?_ (by simp <;> omega) _ | refine Below.alloc ?_ (by simp <;> omega) _)
           · have PB := hid hp
             have HN' := hid (notYet_next HN.out (not_digits (fun h => hcell h.2)))
             have G := hid (cellB_f hcell)
             have hi := parseN_i64 (s.data.toList.drop (colL c).length)
             unfold I64 at hi
             clear hp he hb hcell
             go_wp2_with fail
             refine (rcolumn _ _ (by omega) (by omega)).mono ?_; rintro e w' ⟨rfl, rfl⟩
             go_wp2_with fail
             refine (rparse _ _).mono ?_; rw [DL.out, PB.out]; rintro e w1 ⟨rfl, hb1⟩
             have hw1 := hw.trans (hb1.mono hw.size)
             have hz1 : w.heap.size < w1.heap.size := Nat.lt_of_lt_of_le hz hb1.size
             clear hc hf
             obtain ⟨hc, hf⟩ := bcell hw1
             unfold gotW at hc hf
             go_wp2_with fail
             refine (rgood _ _ _).mono ?_; rw [G.out]; rintro e w2 ⟨rfl, hb2⟩
             have hw2 : Below (gotW w).heap.size (gotW w) w2 := hw1.trans ((below_of (below_of hb2)).mono hw1.size)
             go_wp2
             go_roundw
             case rel => exact ⟨c + 1, by omega, by omega, by go_num, HN', hw2⟩
             case measure => simp [intOf]; omega
       · have HN' := hid (notYet_next HN.out (not_begins (fun h => he h.2)))
         have he1 : ((s.extract 0 (colL c).length).toList == colL c) = false := beq_eq_false_iff_ne.2 fun e => he ((take_str s _).symm.trans e)
         clear he
         go_wp2_with fail
         refine (rcolumn _ _ (by omega) (by omega)).mono ?_; rintro e w' ⟨rfl, rfl⟩
         go_wp2
         go_roundw
         case rel => exact ⟨c + 1, by omega, by omega, by go_num, HN', hw⟩
         case measure => simp [intOf]; omega
     · have HN' := hid (notYet_next HN.out (not_begins (fun h => hlen (by rw [len_list]; exact h.1))))
       have hlen' : s.size ≤ (colL c).length := by omega
       clear hlen
       go_wp2_with fail
       refine (rcolumn _ _ (by omega) (by omega)).mono ?_; rintro e w' ⟨rfl, rfl⟩
       go_wp2
       go_roundw
       case rel => exact ⟨c + 1, by omega, by omega, by go_num, HN', hw⟩
       case measure => simp [intOf]; omega
end Go.Proofs.YticehalcnbjccaaGreatDoor.AddrC
