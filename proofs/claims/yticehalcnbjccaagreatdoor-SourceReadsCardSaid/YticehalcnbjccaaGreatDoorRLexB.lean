/-
  Contracts of lex's reference: Upper.
-/
import Derived.Test.YticehalcnbjccaaGreatDoorRLexA
import Derived.Test.YticehalcnbjccaaGreatDoorRNumG
import Derived.Deep.QuietTactic
import Derived.BigQuiet
import Derived.IntWalk
namespace Go.Proofs.YticehalcnbjccaaGreatDoor.LexC
set_option maxRecDepth 100000
set_option maxHeartbeats 8000000
set_option linter.unusedVariables false
open Go.RowKit NumC
open Tryz
open Lib (hid)
def UpTo (wr : World) (g : Nat) (s : ByteArray) (k : Nat) : Prop := ∀ j (hj : j < s.size), wr.cell? ⟨g, j, none⟩ = some (.int .u8 (((if j < k then upC s[j] else s[j]).toNat : Nat) : Int))
def Soft (wr : World) (g n : Nat) : Prop := ∀ j, j < n → wr.frozen? ⟨g, j, none⟩ = false
theorem UpTo.at_ {wr : World} {g : Nat} {s : ByteArray} {k : Nat} (h : UpTo wr g s k) (hk : k < s.size) : wr.cell? ⟨g, k, none⟩ = some (.int .u8 (s[k].toNat : Int)) := by
 have := h k hk; rwa [if_neg (by omega)] at this
theorem UpTo.stay {wr : World} {g : Nat} {s : ByteArray} {k : Nat} (h : UpTo wr g s k) (hk : k < s.size) (hc : upC s[k] = s[k]) : UpTo wr g s (k + 1) := fun j hj => by
 have := h j hj
 by_cases e : j = k
 · subst e; rw [if_pos (by omega), hc]; rwa [if_neg (by omega)] at this
 · by_cases hjk : j < k
   · rw [if_pos (by omega)]; rwa [if_pos hjk] at this
   · rw [if_neg (by omega)]; rwa [if_neg hjk] at this
theorem UpTo.put {wr : World} {g : Nat} {s : ByteArray} {k : Nat} (h : UpTo wr g s k) (hk : k < s.size) : UpTo (wr.setCell ⟨g, k, none⟩ (.int .u8 ((upC s[k]).toNat : Int))) g s (k + 1) := fun j hj => by
 by_cases e : j = k
 · subst e
   rw [if_pos (by omega)]
   exact World.cell?_setCell_same _ _ _ (h.at_ hk)
 · rw [World.cell?_setCell_other _ _ _ _ (fun x => e (by injection x; omega))]
   have := h j hj
   by_cases hjk : j < k
   · rw [if_pos (by omega)]; rwa [if_pos hjk] at this
   · rw [if_neg (by omega)]; rwa [if_neg hjk] at this
theorem Soft.put {wr : World} {g n : Nat} (h : Soft wr g n) (a : Addr) (v : Value) : Soft (wr.setCell a v) g n := fun j hj => by
 rw [World.frozen?_setCell]; exact h j hj
theorem upL_at (s : ByteArray) (j : Nat) (h1 : j < (upL s.data.toList).length) (h2 : j < s.size) : (upL s.data.toList)[j] = upC s[j] := by simp only [upL, List.getElem_map]; rfl
theorem add_off (b j : Nat) : (⟨b, 0, none⟩ : Addr).add j = ⟨b, j, none⟩ := by
 unfold Addr.add
 by_cases h : j = 0
 · subst h; simp
 · simp [h]
theorem rupper (s : ByteArray) (w : World) (hs : s.size ≤ 1000000) :
   Calls prog 82 #[.string s] w fun e w' => e = .returned (.string (str (upL s.data.toList))) ∧ Below w.heap.size w w' := by
 have HC := run_bytes_of_string (P := prog) w 9 168 5 s underlying9 underlying168 underlying5
 have hcells : UpTo (w.drew.alloc (.cells (bytesRow s (grownCap w s.size 0 5)) 5 ((bytesRow s (grownCap w s.size 0 5)).size, (bytesRow s (grownCap w s.size 0 5)).size + 1))) w.heap.size s 0 := fun j hj => by
   rw [if_neg (by omega)]
   have := World.cell?_alloc_mark w.drew (bytesRow s (grownCap w s.size 0 5)) 5 ((bytesRow s (grownCap w s.size 0 5)).size, (bytesRow s (grownCap w s.size 0 5)).size + 1) j
   rw [show w.drew.heap.size = w.heap.size from rfl] at this
   rw [this]; exact bytesRow_at s _ j hj
 have hsoft : Soft (w.drew.alloc (.cells (bytesRow s (grownCap w s.size 0 5)) 5 ((bytesRow s (grownCap w s.size 0 5)).size, (bytesRow s (grownCap w s.size 0 5)).size + 1))) w.heap.size s.size := fun j hj => by
   have := World.frozen?_alloc_mark w.drew (bytesRow s (grownCap w s.size 0 5)) 5 (bytesRow s (grownCap w s.size 0 5)).size ((bytesRow s (grownCap w s.size 0 5)).size + 1) j
   rw [show w.drew.heap.size = w.heap.size from rfl] at this
   rw [this]
   have h2 : j < (bytesRow s (grownCap w s.size 0 5)).size := by unfold bytesRow; simp; omega
   simp; omega
 have hbel : Below w.heap.size w (w.drew.alloc (.cells (bytesRow s (grownCap w s.size 0 5)) 5 ((bytesRow s (grownCap w s.size 0 5)).size, (bytesRow s (grownCap w s.size 0 5)).size + 1))) := (below_drewN' (Below.refl _ _) 1).alloc (Nat.le_refl _) _
 generalize hW : (w.drew.alloc (.cells (bytesRow s (grownCap w s.size 0 5)) 5 ((bytesRow s (grownCap w s.size 0 5)).size, (bytesRow s (grownCap w s.size 0 5)).size + 1))) = W0 at *
 generalize grownCap w s.size 0 5 = cp at *
 clear hW
 have HU := hid hcells
 have HF := hid hsoft
 clear hcells hsoft
 go_enter func82, ntmps82
 go_wp2
 go_loopw [4] (fun i wr => ∃ k : Nat, k ≤ s.size ∧ i = .int .i64 k ∧ Below w.heap.size w wr ∧ Hid (UpTo wr w.heap.size s k) ∧ Hid (Soft wr w.heap.size s.size)) (fun i _ => s.size - (intOf i).toNat)
 case atStart => exact ⟨0, Nat.zero_le _, rfl, hbel, HU, HF⟩
 case round =>
   obtain ⟨k, hk, rfl, hB, HU1, HF1⟩ := hrel
   by_cases hlt : k < s.size
   · have f0 := HU1.out.at_ hlt
     have z0 := HF1.out k hlt
     by_cases h1 : 97 ≤ s[k].toNat ∧ s[k].toNat ≤ 122
     · have U1 := hid (HU1.out.put hlt)
       have F1 := hid (HF1.out.put ⟨w.heap.size, k, none⟩ (.int .u8 ((upC s[k]).toNat : Int)))
       have e1 : ((upC s[k]).toNat : Int) = (s[k].toNat : Int) - 32 := by rw [upC_up h1, sub32 h1.1]; omega
       rw [e1] at U1 F1
       have d1 : decide (97 ≤ (s[k].toNat : Int)) = true := decide_eq_true (by omega)
       have d2 : decide ((s[k].toNat : Int) ≤ 122) = true := decide_eq_true (by omega)
       have d3 : 32 ≤ (s[k].toNat : Int) := by omega
       have d4 : (s[k].toNat : Int) ≤ 255 := by omega
       have B1 := hB.setCell (p := ⟨w.heap.size, k, none⟩) (Nat.le_refl _) (.int .u8 ((s[k].toNat : Int) - 32))
       clear h1 e1
       go_wp2
       go_roundw
       case rel => exact ⟨k + 1, by omega, by go_num, B1, U1, F1⟩
       case measure => simp [intOf]; omega
     · have U1 := hid (HU1.out.stay hlt (upC_no h1))
       by_cases h2 : 97 ≤ s[k].toNat
       · have d1 : decide (97 ≤ (s[k].toNat : Int)) = true := decide_eq_true (by omega)
         have d2 : decide ((s[k].toNat : Int) ≤ 122) = false := decide_eq_false (by omega)
         clear h1
         go_wp2
         go_roundw
         case rel => exact ⟨k + 1, by omega, by go_num, hB, U1, HF1⟩
         case measure => simp [intOf]; omega
       · have d1 : decide (97 ≤ (s[k].toNat : Int)) = false := decide_eq_false (by omega)
         clear h1 h2
         go_wp2
         go_roundw
         case rel => exact ⟨k + 1, by omega, by go_num, hB, U1, HF1⟩
         case measure => simp [intOf]; omega
   · have hks : k = s.size := by omega
     have hul : (upL s.data.toList).length = s.size := by rw [upL_len, list_len]
     have HB := run_convert_bytes_back (P := prog) wr 168 9 5 ⟨w.heap.size, 0, none⟩ cp (upL s.data.toList) underlying168 underlying5 underlying9 (fun j hj => by
       have := HU1.out j (by omega)
       rw [if_pos (by omega)] at this
       rw [upL_at s j hj (by omega), ← this, add_off])
     rw [hul] at HB
     clear hul hks
     go_wp2
     go_ret
     exact ⟨rfl, hB⟩
def tokV (t : Tok) : Value := .agg #[.int .i64 t.k, .int .i64 t.n, .string t.s, .int .i64 t.at_]
def zeroT : Tok := ⟨0, 0, nob, 0⟩
theorem tok_eq {t t' : Tok} {m m' : Int} (h : t = t') (h2 : m = m') : Ending.returned (.tuple #[.agg #[.int .i64 t.k, .int .i64 t.n, .string t.s, .int .i64 t.at_], .int .i64 m]) = .returned (.tuple #[tokV t', .int .i64 m']) := by subst h h2; rfl
def numR (l : List UInt8) (i : Nat) : Tok × Int := if numV ((l.drop i).takeWhile digB) < 9223372036854775808 then (⟨1, numV ((l.drop i).takeWhile digB), nob, i⟩, ((l.drop i).takeWhile digB).length) else (zeroT, 0)
theorem run_more {p : UInt8 → Bool} {l : List UInt8} {i m : Nat} (h1 : ∀ k, i ≤ k → k < m → ∃ h : k < l.length, p l[k] = true) (hm : m ≤ l.length) : i ≤ m → ∃ r, (l.drop i).takeWhile p = (l.take m).drop i ++ r := by
 induction hk : m - i generalizing i with
 | zero =>
   intro hi
   have : i = m := by omega
   subst this
   exact ⟨(l.drop i).takeWhile p, by simp⟩
 | succ k ih =>
   intro hi
   obtain ⟨h, hp⟩ := h1 i (Nat.le_refl _) (by omega)
   obtain ⟨r, hr⟩ := ih (i := i + 1) (fun k hk hkn => h1 k (by omega) hkn) (by omega) (by omega)
   have h3 : i < (l.take m).length := by rw [List.length_take]; omega
   exact ⟨r, by rw [drop_cons h, List.takeWhile_cons, hp, if_pos rfl, List.drop_eq_getElem_cons h3, List.getElem_take, hr]; rfl⟩
structure Dig (l : List UInt8) (i n : Nat) (U : Nat) : Prop where
 val : numV ((l.take n).drop i) = U
 all : ∀ k, i ≤ k → k < n → ∃ h : k < l.length, digB l[k] = true
theorem Dig.nil (l : List UInt8) (i : Nat) : Dig l i i 0 := ⟨by rw [List.drop_eq_nil_of_le (by rw [List.length_take]; omega)]; rfl, fun k h1 h2 => by omega⟩
theorem Dig.next {l : List UInt8} {i n U : Nat} (h : Dig l i n U) (hi : i ≤ n) (hn : n < l.length) (hd : digB l[n] = true) : Dig l i (n + 1) (U * 10 + (l[n].toNat - 48)) :=
 ⟨by rw [List.take_succ_eq_append_getElem hn, List.drop_append_of_le_length (by rw [List.length_take]; omega), numV_snoc, h.val],
  fun k h1 h2 => by
   by_cases e : k = n
   · subst e; exact ⟨hn, hd⟩
   · exact h.all k h1 (by omega)⟩
theorem Dig.stop {l : List UInt8} {i n U : Nat} (h : Dig l i n U) (hi : i ≤ n) (hn : n ≤ l.length) (h2 : n = l.length ∨ ∃ h : n < l.length, digB l[n] = false) (hU : U < 9223372036854775808) : numR l i = (⟨1, U, nob, i⟩, ((n : Int) - i)) := by
 have e := take_run h.all h2 hi hn
 have e2 := take_len e hi hn
 unfold numR
 rw [e2, e, h.val, if_pos hU]
 congr 1; omega
theorem Dig.over {l : List UInt8} {i n U : Nat} (h : Dig l i n U) (hi : i ≤ n) (hn : n ≤ l.length) (hU : 9223372036854775808 ≤ U) : numR l i = (zeroT, 0) := by
 obtain ⟨r, hr⟩ := run_more h.all hn hi
 have := numV_le ((l.take n).drop i) r
 rw [h.val] at this
 unfold numR
 rw [hr, if_neg (by omega)]
theorem rnumber (s : ByteArray) (i : Nat) (w : World) (hs : s.size ≤ 1000000) (hi : i ≤ s.size) :
   Calls prog 80 #[.string s, .int .i64 i] w fun e w' => e = .returned (.tuple #[tokV (numR s.data.toList i).1, .int .i64 (numR s.data.toList i).2]) ∧ Below w.heap.size w w' := by
 have hB := Below.refl w.heap.size w
 go_enter func80, ntmps80
 go_wp2
 go_loop [6, 7] (fun a u => ∃ n U : Nat, i ≤ n ∧ n ≤ s.size ∧ a = .int .i64 n ∧ u = .int .u64 U ∧ U < 9223372036854775808 ∧ Hid (Dig s.data.toList i n U)) (fun a _ => s.size - (intOf a).toNat)
 case atStart => exact ⟨i, 0, Nat.le_refl _, hi, rfl, rfl, by omega, hid (Dig.nil _ _)⟩
 case round =>
   obtain ⟨n, U, hin, hn, rfl, rfl, hU, HD⟩ := hrel
   have fin : n = s.data.toList.length ∨ (∃ h : n < s.data.toList.length, digB s.data.toList[n] = false) → Hid (numR s.data.toList i = (⟨1, U, nob, i⟩, ((n : Int) - i))) := fun h2 =>
     hid (HD.out.stop hin (by rw [← list_len]; exact hn) h2 hU)
   by_cases hlt : n < s.size
   · have hll : n < s.data.toList.length := by rw [← list_len]; exact hlt
     cases hd : digB s[n]
     · have E := fin (Or.inr ⟨hll, hd⟩)
       have HD2 := hid hd
       clear hd fin
       go_wp2_with fail
       refine (rdigit s[n] _).mono ?_; rw [HD2.out]; rintro e w' ⟨rfl, rfl⟩
       go_wp2
       refine bodyPost_ret (v := .tuple #[.agg #[.int .i64 1, .int .i64 U, .string { data := #[] }, .int .i64 i], .int .i64 ((n : Int) - i)]) (by simp [results, results80, go_sem]) rfl ⟨by rw [E.out]; rfl, ?_⟩
       repeat (with_reducible first | exact hB | refine Below.setCell ?_ (by first | omega | (simp <;> omega)) _ | refine Below.alloc ?_ (by first | omega | (simp <;> omega)) _)
     · have hd2 := digB_iff.1 hd
       have HN : Hid (Dig s.data.toList i (n + 1) (U * 10 + (s[n].toNat - 48))) := hid (HD.out.next hin hll hd)
       have HD2 := hid hd
       have g1 : 48 ≤ (s[n].toNat : Int) := by omega
       have g2 : (s[n].toNat : Int) ≤ 57 := by omega
       have HV : Hid (((U * 10 + (s[n].toNat - 48) : Nat) : Int) = (U : Int) * 10 + ((s[n].toNat : Int) - 48)) := hid (by omega)
       clear hd fin
       by_cases ho : U * 10 + (s[n].toNat - 48) < 9223372036854775808
       · have t1 : decide ((9223372036854775807 - ((s[n].toNat : Int) - 48)) / 10 < (U : Int)) = false := decide_eq_false (by omega)
         clear hd2
         go_wp2_with fail
         refine (rdigit s[n] _).mono ?_; rw [HD2.out]; rintro e w' ⟨rfl, rfl⟩
         go_wp2
         go_round
         case rel => exact ⟨n + 1, U * 10 + (s[n].toNat - 48), by omega, by omega, by go_num, by rw [HV.out], ho, HN⟩
         case measure => simp [intOf]; omega
       · have t1 : decide ((9223372036854775807 - ((s[n].toNat : Int) - 48)) / 10 < (U : Int)) = true := decide_eq_true (by omega)
         have E := hid (HN.out.over (by omega) (by omega) (by omega))
         clear hd2 ho
         go_wp2_with fail
         refine (rdigit s[n] _).mono ?_; rw [HD2.out]; rintro e w' ⟨rfl, rfl⟩
         go_wp2
         refine bodyPost_ret (v := .tuple #[.agg #[.int .i64 0, .int .i64 0, .string { data := #[] }, .int .i64 0], .int .i64 0]) (by simp [results, results80, go_sem]) rfl ⟨by rw [E.out]; rfl, ?_⟩
         repeat (with_reducible first | exact hB | refine Below.setCell ?_ (by first | omega | (simp <;> omega)) _ | refine Below.alloc ?_ (by first | omega | (simp <;> omega)) _)
   · have E := fin (Or.inl (by rw [← list_len]; omega))
     clear fin
     go_wp2
     refine bodyPost_ret (v := .tuple #[.agg #[.int .i64 1, .int .i64 U, .string { data := #[] }, .int .i64 i], .int .i64 ((n : Int) - i)]) (by simp [results, results80, go_sem]) rfl ⟨by rw [E.out]; rfl, ?_⟩
     repeat (with_reducible first | exact hB | refine Below.setCell ?_ (by first | omega | (simp <;> omega)) _ | refine Below.alloc ?_ (by first | omega | (simp <;> omega)) _)
def textR (l : List UInt8) (i : Nat) : Tok × Int := match txtL (l.drop (i + 1)) with
 | some r => (⟨2, 0, str r.1, i⟩, r.2 + 1)
 | none => (zeroT, 0)
def Txt (l : List UInt8) (i n : Nat) (acc : List UInt8) : Prop := txtL (l.drop (i + 1)) = (txtL (l.drop n)).map fun r => (acc ++ r.1, (n - (i + 1)) + r.2)
theorem Txt.nil (l : List UInt8) (i : Nat) : Txt l i (i + 1) [] := by
 unfold Txt
 cases txtL (l.drop (i + 1)) <;> simp
theorem Txt.more {l : List UInt8} {i n : Nat} {acc : List UInt8} (h : Txt l i n acc) (hi : i < n) (hn : n < l.length) (hc : l[n] ≠ 34) : Txt l i (n + 1) (acc ++ [l[n]]) := by
 unfold Txt at *
 rw [h, drop_cons hn, txtL_no hc]
 cases txtL (l.drop (n + 1)) with
 | none => rfl
 | some r => simp; omega
theorem Txt.two {l : List UInt8} {i n : Nat} {acc : List UInt8} (h : Txt l i n acc) (hi : i < n) (hn : n + 1 < l.length) (hc : l[n] = 34) (hd : l[n + 1] = 34) : Txt l i (n + 2) (acc ++ [34]) := by
 unfold Txt at *
 rw [h, drop_cons (show n < l.length by omega), drop_cons hn, hc, hd, txtL_two]
 cases txtL (l.drop (n + 2)) with
 | none => rfl
 | some r => simp; omega
theorem Txt.end_ {l : List UInt8} {i n : Nat} {acc : List UInt8} (h : Txt l i n acc) (hi : i < n) (hn : n < l.length) (hc : l[n] = 34) (hd : ∀ h : n + 1 < l.length, l[n + 1] ≠ 34) : textR l i = (⟨2, 0, str acc, i⟩, (n : Int) + 1 - i) := by
 unfold Txt at h
 have e : txtL (l.drop n) = some ([], 1) := by
   rw [drop_cons hn, hc]
   refine txtL_one fun l' e2 => ?_
   by_cases h2 : n + 1 < l.length
   · have := hd h2
     rw [drop_cons h2] at e2
     injection e2 with h3 h4
     exact this h3
   · rw [List.drop_eq_nil_of_le (by omega)] at e2; cases e2
 rw [e] at h
 unfold textR
 rw [h]
 simp; omega
theorem Txt.no {l : List UInt8} {i n : Nat} {acc : List UInt8} (h : Txt l i n acc) (hn : l.length ≤ n) : textR l i = (zeroT, 0) := by
 unfold Txt at h
 rw [List.drop_eq_nil_of_le hn, txtL_nil] at h
 unfold textR
 rw [h]; rfl
theorem rtext (s : ByteArray) (i : Nat) (w : World) (hs : s.size ≤ 1000000) (hi : i < s.size) :
   Calls prog 83 #[.string s, .int .i64 i] w fun e w' => e = .returned (.tuple #[tokV (textR s.data.toList i).1, .int .i64 (textR s.data.toList i).2]) ∧ Below w.heap.size w w' := by
 have hB := Below.refl w.heap.size w
 have HS1 : Hid (str [34] = { data := #[34] }) := hid rfl
 have HS0 : Hid (({ data := #[] } : ByteArray) = str []) := hid rfl
 go_enter func83, ntmps83
 go_wp2
 go_loop [6, 7] (fun o a => ∃ (n : Nat) (acc : List UInt8), i < n ∧ n ≤ s.size + 1 ∧ a = .int .i64 n ∧ o = .string (str acc) ∧ acc.length ≤ n ∧ Hid (Txt s.data.toList i n acc)) (fun _ a => s.size + 1 - (intOf a).toNat)
 case atStart => exact ⟨i + 1, [], by omega, by omega, by go_num, by rw [← HS0.out], by simp, hid (Txt.nil _ _)⟩
 case round =>
   obtain ⟨n, acc, hin, hn, rfl, rfl, hac, HT⟩ := hrel
   by_cases hlt : n < s.size
   · have hll : n < s.data.toList.length := by rw [← list_len]; exact hlt
     have f1 : ((s.data.toList[n]).toNat : Int) = (s[n].toNat : Int) := rfl
     by_cases hc : s[n].toNat = 34
     · have h34 : s.data.toList[n] = 34 := UInt8.toNat_inj.1 hc
       have c1 : ((s[n].toNat : Int) == 34) = true := by rw [hc]; rfl
       have c2 : ((s[n].toNat : Int) != 34) = false := by rw [bne, c1]; rfl
       by_cases h2 : n + 1 < s.size
       · have hl2 : n + 1 < s.data.toList.length := by rw [← list_len]; exact h2
         by_cases hd : s[n + 1].toNat = 34
         · have h342 : s.data.toList[n + 1] = 34 := UInt8.toNat_inj.1 hd
           have HN := hid (HT.out.two hin hl2 h34 h342)
           have c3 : ((s[n + 1].toNat : Int) == 34) = true := by rw [hd]; rfl
           have A1 : (Op.stringOp .add (str acc) { data := #[34] }).run prog (w.alloc (.cells #[.int .i64 0, .int .i64 0, .string { data := #[] }, .int .i64 0] 114)) = .ok (.string (str (acc ++ [34]))) (w.alloc (.cells #[.int .i64 0, .int .i64 0, .string { data := #[] }, .int .i64 0] 114)) := by
             rw [← HS1.out, run_string_add_sum _ _ _ (by rw [str_size, str_size]; simp only [List.length_cons, List.length_nil]; omega), str_app]
           clear hc h34 hd h342 f1
           go_wp2
           go_round
           case rel => exact ⟨n + 2, acc ++ [34], by omega, by omega, by go_num, rfl, by simp; omega, HN⟩
           case measure => simp [intOf]; omega
         · have c3 : ((s[n + 1].toNat : Int) == 34) = false := beq_eq_false_iff_ne.2 (by omega)
           have E := hid (HT.out.end_ hin hll h34 (fun h e => hd (by have : s[n + 1] = 34 := e; rw [this]; rfl)))
           clear hc h34 hd f1
           go_wp2
           refine bodyPost_ret (v := .tuple #[.agg #[.int .i64 2, .int .i64 0, .string (str acc), .int .i64 i], .int .i64 ((n : Int) + 1 - i)]) (by simp [results, results83, go_sem]) rfl ⟨by rw [E.out]; rfl, ?_⟩
           repeat (with_reducible first | exact hB | refine Below.setCell ?_ (by first | omega | (simp <;> omega)) _ | refine Below.alloc ?_ (by first | omega | (simp <;> omega)) _)
       · have E := hid (HT.out.end_ hin hll h34 (fun h e => h2 (by rw [list_len]; exact h)))
         clear hc h34 f1
         go_wp2
         refine bodyPost_ret (v := .tuple #[.agg #[.int .i64 2, .int .i64 0, .string (str acc), .int .i64 i], .int .i64 ((n : Int) + 1 - i)]) (by simp [results, results83, go_sem]) rfl ⟨by rw [E.out]; rfl, ?_⟩
         repeat (with_reducible first | exact hB | refine Below.setCell ?_ (by first | omega | (simp <;> omega)) _ | refine Below.alloc ?_ (by first | omega | (simp <;> omega)) _)
     · have h34 : s.data.toList[n] ≠ 34 := fun e => hc (by have : s[n] = 34 := e; rw [this]; rfl)
       have HN : Hid (Txt s.data.toList i (n + 1) (acc ++ [s[n]])) := hid (HT.out.more hin hll h34)
       have c1 : ((s[n].toNat : Int) == 34) = false := beq_eq_false_iff_ne.2 (by omega)
       have c2 : ((s[n].toNat : Int) != 34) = true := by rw [bne, c1]; rfl
       have A1 : (Op.stringOp .add (str acc) (s.extract n (n + 1))).run prog (w.alloc (.cells #[.int .i64 0, .int .i64 0, .string { data := #[] }, .int .i64 0] 114)) = .ok (.string (str (acc ++ [s[n]]))) (w.alloc (.cells #[.int .i64 0, .int .i64 0, .string { data := #[] }, .int .i64 0] 114)) := by
         rw [one_str s n hlt, run_string_add_sum _ _ _ (by rw [str_size, str_size]; simp only [List.length_cons, List.length_nil]; omega), str_app]
       clear hc h34 f1
       go_wp2
       go_round
       case rel => exact ⟨n + 1, acc ++ [s[n]], by omega, by omega, by go_num, rfl, by simp; omega, HN⟩
       case measure => simp [intOf]; omega
   · have E := hid (HT.out.no (by rw [← list_len]; omega))
     go_wp2
     refine bodyPost_ret (v := .tuple #[.agg #[.int .i64 0, .int .i64 0, .string { data := #[] }, .int .i64 0], .int .i64 0]) (by simp [results, results83, go_sem]) rfl ⟨by rw [E.out]; rfl, ?_⟩
     repeat (with_reducible first | exact hB | refine Below.setCell ?_ (by first | omega | (simp <;> omega)) _ | refine Below.alloc ?_ (by first | omega | (simp <;> omega)) _)
def signL : List (List UInt8) := [[43], [45], [42], [47], [37], [94], [38], [61], [60], [62], [60, 62], [60, 61], [62, 61], [40], [41], [44], [58]]
def signCells : Array Value := #[.string { data := #[43] }, .string { data := #[45] }, .string { data := #[42] }, .string { data := #[47] }, .string { data := #[37] }, .string { data := #[94] }, .string { data := #[38] }, .string { data := #[61] }, .string { data := #[60] }, .string { data := #[62] }, .string { data := #[60, 62] }, .string { data := #[60, 61] }, .string { data := #[62, 61] }, .string { data := #[40] }, .string { data := #[41] }, .string { data := #[44] }, .string { data := #[58] }]
theorem signs_cell (m : Nat) (h : m < 17) : signCells[m]? = some (.string (str (signL.getD m []))) := by
 have : m = 0 ∨ m = 1 ∨ m = 2 ∨ m = 3 ∨ m = 4 ∨ m = 5 ∨ m = 6 ∨ m = 7 ∨ m = 8 ∨ m = 9 ∨ m = 10 ∨ m = 11 ∨ m = 12 ∨ m = 13 ∨ m = 14 ∨ m = 15 ∨ m = 16 := by omega
 rcases this with rfl | rfl | rfl | rfl | rfl | rfl | rfl | rfl | rfl | rfl | rfl | rfl | rfl | rfl | rfl | rfl | rfl <;> rfl
theorem rsigns (w : World) :
   Calls prog 84 #[] w fun e w' => e = .returned (.slice (some ⟨w.heap.size, 0, none⟩) 17 17) ∧ w' = w.alloc (.cells signCells 9) := by
 go_enter func84, ntmps84
 go_wp2
 go_ret
 exact ⟨rfl, rfl⟩
def signI (x : List UInt8) : Nat := signL.findIdx (· == x)
theorem signI_le (x : List UInt8) : signI x ≤ 17 := List.findIdx_le_length
theorem signI_at {x : List UInt8} (h : signI x < 17) : signL.getD (signI x) [] = x := by
 have h2 : signL.findIdx (· == x) < signL.length := h
 have := List.findIdx_getElem (w := h2)
 rw [beq_iff_eq] at this
 unfold signI
 rw [List.getD_eq_getElem?_getD, List.getElem?_eq_getElem h2]; exact this
theorem signI_lt {x : List UInt8} {m : Nat} (h : m < signI x) : signL.getD m [] ≠ x := by
 have h1 := signI_le x
 have h2 : m < signL.length := by show m < 17; omega
 have := List.not_of_lt_findIdx (p := (· == x)) (xs := signL) h
 intro e
 rw [List.getD_eq_getElem?_getD, List.getElem?_eq_getElem h2] at e
 have e2 : signL[m] = x := e
 rw [e2] at this; simp at this
theorem signI_two (c d : UInt8) : (signI [c, d] < 17) ↔ sign2 c d = true := by
 have : signI [c, d] < 17 ↔ [c, d] ∈ signL := by
   show signL.findIdx (· == [c, d]) < signL.length ↔ _
   rw [List.findIdx_lt_length]; simp
 rw [this]
 simp only [signL, sign2, List.mem_cons, List.cons.injEq, List.not_mem_nil, or_false, and_false, and_true, Bool.or_eq_true, Bool.and_eq_true, beq_iff_eq, reduceCtorEq, false_or]
 constructor
 · rintro (⟨h1, h2⟩ | ⟨h1, h2⟩ | ⟨h1, h2⟩)
   · exact Or.inl ⟨h1, Or.inl h2⟩
   · exact Or.inl ⟨h1, Or.inr h2⟩
   · exact Or.inr ⟨h1, h2⟩
 · rintro (⟨h1, h2 | h2⟩ | ⟨h1, h2⟩)
   · exact Or.inl ⟨h1, h2⟩
   · exact Or.inr (Or.inl ⟨h1, h2⟩)
   · exact Or.inr (Or.inr ⟨h1, h2⟩)
theorem signI_one (c : UInt8) : (signI [c] < 17) ↔ sign1 c = true := by
 have : signI [c] < 17 ↔ [c] ∈ signL := by
   show signL.findIdx (· == [c]) < signL.length ↔ _
   rw [List.findIdx_lt_length]; simp
 rw [this]
 simp only [signL, sign1, List.mem_cons, List.cons.injEq, List.not_mem_nil, or_false, and_false, and_true, List.contains_eq_mem, decide_eq_true_iff, false_or, List.nil_eq, List.cons_ne_nil]
def nextR (l : List UInt8) (i : Nat) : Tok × Int := match nextL (l.drop i) with
 | some (k, n, s, m) => (⟨k, n, str s, i⟩, m)
 | none => (zeroT, 0)
theorem next_digit {l : List UInt8} {i : Nat} (h : i < l.length) (hd : digB l[i] = true) : nextR l i = numR l i := by
 unfold nextR numR
 rw [drop_cons h, nextL_cons, tokL, if_pos hd]
 by_cases hv : numV ((l[i] :: l.drop (i + 1)).takeWhile digB) < 9223372036854775808
 · rw [if_pos hv, if_pos hv]; rfl
 · rw [if_neg hv, if_neg hv]
theorem next_letter {l : List UInt8} {i n : Nat} (h : i < l.length) (hd : digB l[i] = false) (hl : letB l[i] = true) (hi : i ≤ n) (hn : n ≤ l.length) (h1 : ∀ k, i ≤ k → k < n → ∃ h : k < l.length, wordB l[k] = true) (h2 : n = l.length ∨ ∃ h : n < l.length, wordB l[n] = false) :
   nextR l i = (⟨3, 0, str (upL ((l.take n).drop i)), i⟩, (n : Int) - i) := by
 have e := take_run h1 h2 hi hn
 rw [drop_cons h] at e
 unfold nextR
 rw [drop_cons h, nextL_cons, tokL, hd, if_neg Bool.false_ne_true, if_pos hl]
 simp only [e]
 rw [List.length_drop, List.length_take]
 congr 1; omega
theorem next_text {l : List UInt8} {i : Nat} (h : i < l.length) (hc : l[i] = 34) : nextR l i = textR l i := by
 unfold nextR textR
 rw [drop_cons h, nextL_cons, tokL, hc, if_neg (by decide), if_neg (by decide), if_pos rfl]
 cases txtL (l.drop (i + 1)) with
 | none => rfl
 | some r => rfl
theorem next_two {l : List UInt8} {i : Nat} (h : i + 1 < l.length) (hd : digB l[i] = false) (hl : letB l[i] = false) (hc : l[i] ≠ 34) (h2 : signI [l[i], l[i + 1]] < 17) : nextR l i = (⟨4, 0, str [l[i], l[i + 1]], i⟩, 2) := by
 unfold nextR
 rw [drop_cons (show i < l.length by omega), drop_cons h, nextL_cons, tokL, hd, hl, if_neg Bool.false_ne_true, if_neg Bool.false_ne_true, if_neg hc, signT]
 rw [if_pos ((signI_two _ _).1 h2)]; rfl
theorem next_one {l : List UInt8} {i : Nat} (h : i < l.length) (hd : digB l[i] = false) (hl : letB l[i] = false) (hc : l[i] ≠ 34) (h2 : ∀ h : i + 1 < l.length, ¬ signI [l[i], l[i + 1]] < 17) (h1 : signI [l[i]] < 17) : nextR l i = (⟨4, 0, str [l[i]], i⟩, 1) := by
 unfold nextR
 by_cases h3 : i + 1 < l.length
 · have := h2 h3
   rw [signI_two] at this
   rw [drop_cons h, drop_cons h3, nextL_cons, tokL, hd, hl, if_neg Bool.false_ne_true, if_neg Bool.false_ne_true, if_neg hc, signT]
   rw [if_neg this, if_pos ((signI_one _).1 h1)]; rfl
 · rw [drop_cons h, List.drop_eq_nil_of_le (show l.length ≤ i + 1 by omega), nextL_cons, tokL, hd, hl, if_neg Bool.false_ne_true, if_neg Bool.false_ne_true, if_neg hc, signT]
   rw [if_pos ((signI_one _).1 h1)]; rfl
theorem next_none {l : List UInt8} {i : Nat} (h : i < l.length) (hd : digB l[i] = false) (hl : letB l[i] = false) (hc : l[i] ≠ 34) (h2 : ∀ h : i + 1 < l.length, ¬ signI [l[i], l[i + 1]] < 17) (h1 : ¬ signI [l[i]] < 17) : nextR l i = (zeroT, 0) := by
 rw [signI_one] at h1
 unfold nextR
 by_cases h3 : i + 1 < l.length
 · have := h2 h3
   rw [signI_two] at this
   rw [drop_cons h, drop_cons h3, nextL_cons, tokL, hd, hl, if_neg Bool.false_ne_true, if_neg Bool.false_ne_true, if_neg hc, signT]
   rw [if_neg this, if_neg h1]
 · rw [drop_cons h, List.drop_eq_nil_of_le (show l.length ≤ i + 1 by omega), nextL_cons, tokL, hd, hl, if_neg Bool.false_ne_true, if_neg Bool.false_ne_true, if_neg hc, signT]
   rw [if_neg h1]
theorem rnext_digit (s : ByteArray) (i : Nat) (w : World) (hs : s.size ≤ 1000000) (hi : i < s.size) (hd : digB s[i] = true) :
   Calls prog 53 #[.string s, .int .i64 i] w fun e w' => e = .returned (.tuple #[tokV (nextR s.data.toList i).1, .int .i64 (nextR s.data.toList i).2]) ∧ Below w.heap.size w w' := by
 have hll : i < s.data.toList.length := by rw [← list_len]; exact hi
 have E := hid (next_digit hll hd)
 have HD := hid hd
 clear hd
 go_enter func53, ntmps53
 go_wp2_with fail
 refine (rdigit s[i] _).mono ?_; rw [HD.out]; rintro e w' ⟨rfl, rfl⟩
 go_wp2_with fail
 refine (rnumber s i _ hs (by omega)).mono ?_; rintro e w1 ⟨rfl, hb1⟩
 have hB := below_of hb1
 obtain ⟨hc, hf⟩ := bcell hb1
 have hz := size_of hb1
 unfold tokV
 generalize numR s.data.toList i = R at *
 obtain ⟨⟨tk, tn, ts, ta⟩, m⟩ := R
 go_wp2
 refine bodyPost_ret (v := .tuple #[.agg #[.int .i64 tk, .int .i64 tn, .string ts, .int .i64 ta], .int .i64 m]) (by simp [results, results53, go_sem, hc]) rfl ⟨by rw [E.out]; rfl, ?_⟩
 repeat (with_reducible first | exact hB | refine Below.setCell ?_ (by first | omega | (simp <;> omega)) _ | refine Below.alloc ?_ (by first | omega | (simp <;> omega)) _)
theorem rnext_text (s : ByteArray) (i : Nat) (w : World) (hs : s.size ≤ 1000000) (hi : i < s.size) (hd : s[i].toNat = 34) :
   Calls prog 53 #[.string s, .int .i64 i] w fun e w' => e = .returned (.tuple #[tokV (nextR s.data.toList i).1, .int .i64 (nextR s.data.toList i).2]) ∧ Below w.heap.size w w' := by
 have hll : i < s.data.toList.length := by rw [← list_len]; exact hi
 have E := hid (next_text hll (UInt8.toNat_inj.1 hd))
 have HD : Hid (digB s[i] = false) := hid (Bool.eq_false_iff.2 fun h => by have := digB_iff.1 h; omega)
 have HL : Hid (letB s[i] = false) := hid (Bool.eq_false_iff.2 fun h => by have := letB_iff.1 h; omega)
 have c1 : ((s[i].toNat : Int) == 34) = true := by rw [hd]; rfl
 clear hd
 go_enter func53, ntmps53
 go_wp2_with fail
 refine (rdigit s[i] _).mono ?_; rw [HD.out]; rintro e w' ⟨rfl, rfl⟩
 go_wp2_with fail
 refine (rletter s[i] _).mono ?_; rw [HL.out]; rintro e w' ⟨rfl, rfl⟩
 go_wp2_with fail
 refine (rtext s i _ hs hi).mono ?_; rintro e w1 ⟨rfl, hb1⟩
 have hB := below_of hb1
 obtain ⟨hc, hf⟩ := bcell hb1
 have hz := size_of hb1
 unfold tokV
 generalize textR s.data.toList i = R at *
 obtain ⟨⟨tk, tn, ts, ta⟩, m⟩ := R
 go_wp2
 refine bodyPost_ret (v := .tuple #[.agg #[.int .i64 tk, .int .i64 tn, .string ts, .int .i64 ta], .int .i64 m]) (by simp [results, results53, go_sem, hc]) rfl ⟨by rw [E.out]; rfl, ?_⟩
 repeat (with_reducible first | exact hB | refine Below.setCell ?_ (by first | omega | (simp <;> omega)) _ | refine Below.alloc ?_ (by first | omega | (simp <;> omega)) _)
theorem rnext_letter (s : ByteArray) (i : Nat) (w : World) (hs : s.size ≤ 1000000) (hi : i < s.size) (hd : digB s[i] = false) (hl : letB s[i] = true) :
   Calls prog 53 #[.string s, .int .i64 i] w fun e w' => e = .returned (.tuple #[tokV (nextR s.data.toList i).1, .int .i64 (nextR s.data.toList i).2]) ∧ Below w.heap.size w w' := by
 have HD := hid hd; have HL := hid hl
 have hll : i < s.data.toList.length := by rw [← list_len]; exact hi
 have FIN : ∀ n, i ≤ n → n ≤ s.size → (∀ k, i ≤ k → k < n → ∃ h : k < s.data.toList.length, wordB s.data.toList[k] = true) → (n = s.data.toList.length ∨ ∃ h : n < s.data.toList.length, wordB s.data.toList[n] = false) → nextR s.data.toList i = (⟨3, 0, str (upL ((s.data.toList.take n).drop i)), i⟩, (n : Int) - i) :=
   fun n h1 h2 h3 h4 => next_letter hll hd hl h1 (by rw [← list_len]; exact h2) h3 h4
 have HF := hid FIN
 clear FIN hd hl
 go_enter func53, ntmps53
 go_wp2_with fail
 refine (rdigit s[i] _).mono ?_; rw [HD.out]; rintro e w' ⟨rfl, rfl⟩
 go_wp2_with fail
 refine (rletter s[i] _).mono ?_; rw [HL.out]; rintro e w' ⟨rfl, rfl⟩
 go_wp2_with fail
 go_loop [7] (fun a => ∃ n : Nat, i ≤ n ∧ n ≤ s.size ∧ a = .int .i64 n ∧ Hid (∀ k, i ≤ k → k < n → ∃ h : k < s.data.toList.length, wordB s.data.toList[k] = true)) (fun a => s.size - (intOf a).toNat)
 case atStart => exact ⟨i, Nat.le_refl _, by omega, rfl, hid fun k h1 h2 => by omega⟩
 case round =>
   obtain ⟨n, hin, hn, rfl, HW⟩ := hrel
   have LAST : (n = s.data.toList.length ∨ ∃ h : n < s.data.toList.length, wordB s.data.toList[n] = false) → Hid (nextR s.data.toList i = (⟨3, 0, str (upL ((s.data.toList.take n).drop i)), i⟩, (n : Int) - i)) := fun h => hid (HF.out n hin hn HW.out h)
   have NEXT : (h : n < s.data.toList.length) → wordB s.data.toList[n] = true → Hid (∀ k, i ≤ k → k < n + 1 → ∃ h : k < s.data.toList.length, wordB s.data.toList[k] = true) := fun h hw => hid fun k h1 h2 => by
     by_cases e : k = n
     · subst e; exact ⟨h, hw⟩
     · exact HW.out k h1 (by omega)
   have EX : s.extract i n = str ((s.data.toList.take n).drop i) := by
     apply ByteArray.ext
     apply Array.toList_inj.1
     rw [Lib.extract_data, ← List.drop_take]; rfl
   have HX := hid EX
   clear EX
   by_cases hlt : n < s.size
   · have hln : n < s.data.toList.length := by rw [← list_len]; exact hlt
     cases h1 : letB s[n]
     · cases h2 : digB s[n]
       · have E := LAST (Or.inr ⟨hln, by show wordB s[n] = false; unfold wordB; rw [h1, h2]; rfl⟩)
         have H1 := hid h1; have H2 := hid h2
         clear LAST NEXT h1 h2
         go_wp2_with fail
         refine (rletter s[n] _).mono ?_; rw [H1.out]; rintro e w' ⟨rfl, rfl⟩
         go_wp2_with fail
         refine (rdigit s[n] _).mono ?_; rw [H2.out]; rintro e w' ⟨rfl, rfl⟩
         go_wp2_with fail
         have hsz : (s.extract i n).size ≤ 1000000 := by rw [HX.out, str_size, List.length_drop, List.length_take, ← list_len]; omega
         refine (rupper _ _ hsz).mono ?_; rintro e w1 ⟨rfl, hb1⟩
         have hB := below_of hb1
         obtain ⟨hc, hf⟩ := bcell hb1
         have hz := size_of hb1
         have HY : Hid (str (upL (s.extract i n).data.toList) = str (upL ((s.data.toList.take n).drop i))) := hid (by rw [HX.out]; rfl)
         generalize str (upL (s.extract i n).data.toList) = Y at *
         clear hsz
         go_wp2
         refine bodyPost_ret (v := .tuple #[.agg #[.int .i64 3, .int .i64 0, .string Y, .int .i64 i], .int .i64 ((n : Int) - i)]) (by simp [results, results53, go_sem, hc]) rfl ⟨by rw [E.out, HY.out]; rfl, ?_⟩
         repeat (with_reducible first | exact hB | refine Below.setCell ?_ (by first | omega | (simp <;> omega)) _ | refine Below.alloc ?_ (by first | omega | (simp <;> omega)) _)
       · have N1 := NEXT hln (by show wordB s[n] = true; unfold wordB; rw [h1, h2]; rfl)
         have H1 := hid h1; have H2 := hid h2
         clear LAST NEXT h1 h2
         go_wp2_with fail
         refine (rletter s[n] _).mono ?_; rw [H1.out]; rintro e w' ⟨rfl, rfl⟩
         go_wp2_with fail
         refine (rdigit s[n] _).mono ?_; rw [H2.out]; rintro e w' ⟨rfl, rfl⟩
         go_wp2
         go_round
         case rel => exact ⟨n + 1, by omega, by omega, by go_num, N1⟩
         case measure => simp [intOf]; omega
     · have N1 := NEXT hln (by show wordB s[n] = true; unfold wordB; rw [h1]; rfl)
       have H1 := hid h1
       clear LAST NEXT h1
       go_wp2_with fail
       refine (rletter s[n] _).mono ?_; rw [H1.out]; rintro e w' ⟨rfl, rfl⟩
       go_wp2
       go_round
       case rel => exact ⟨n + 1, by omega, by omega, by go_num, N1⟩
       case measure => simp [intOf]; omega
   · have E := LAST (Or.inl (by rw [← list_len]; omega))
     clear LAST NEXT
     go_wp2_with fail
     have hsz : (s.extract i n).size ≤ 1000000 := by rw [HX.out, str_size, List.length_drop, List.length_take, ← list_len]; omega
     refine (rupper _ _ hsz).mono ?_; rintro e w1 ⟨rfl, hb1⟩
     have hB := below_of hb1
     obtain ⟨hc, hf⟩ := bcell hb1
     have hz := size_of hb1
     have HY : Hid (str (upL (s.extract i n).data.toList) = str (upL ((s.data.toList.take n).drop i))) := hid (by rw [HX.out]; rfl)
     generalize str (upL (s.extract i n).data.toList) = Y at *
     clear hsz
     go_wp2
     refine bodyPost_ret (v := .tuple #[.agg #[.int .i64 3, .int .i64 0, .string Y, .int .i64 i], .int .i64 ((n : Int) - i)]) (by simp [results, results53, go_sem, hc]) rfl ⟨by rw [E.out, HY.out]; rfl, ?_⟩
     repeat (with_reducible first | exact hB | refine Below.setCell ?_ (by first | omega | (simp <;> omega)) _ | refine Below.alloc ?_ (by first | omega | (simp <;> omega)) _)
theorem two_str (s : ByteArray) (k : Nat) (h : k + 1 < s.size) : s.extract k (k + 2) = str [s[k], s[k + 1]] := by
 apply ByteArray.ext
 apply Array.toList_inj.1
 rw [Lib.extract_data, show k + 2 - k = 2 from by omega, List.drop_eq_getElem_cons (by rw [← list_len]; omega), List.drop_eq_getElem_cons (by rw [← list_len]; exact h)]
 rfl
theorem heap_one (w : World) (o : Obj) : (w.alloc o).heap.size = w.heap.size + 1 := by simp
theorem str_list (l : List UInt8) : (str l).toList = l := by rw [Lib.toList_data]; rfl
def signS (m : Nat) : ByteArray := str (signL.getD m [])
theorem signS_at {x : List UInt8} (h : signI x < 17) : signS (signI x) = str x := by unfold signS; rw [signI_at h]
theorem sign_yes {s : ByteArray} {i k : Nat} {x : List UInt8} (e : s.extract i k = str x) (h : signI x < 17) : ((signS (signI x)).toList == (s.extract i k).toList) = true := by
 rw [e, signS_at h]; exact beq_self_eq_true _
theorem sign_no {s : ByteArray} {i k m : Nat} {x : List UInt8} (e : s.extract i k = str x) (h : m < signI x) : ((signS m).toList == (s.extract i k).toList) = false := by
 unfold signS; rw [e, str_list, str_list]; exact beq_eq_false_iff_ne.2 (signI_lt h)
theorem signs_there {W wr : World} (h : Below (W.alloc (.cells signCells 9)).heap.size (W.alloc (.cells signCells 9)) wr) {m : Nat} (hm : m < 17) : wr.cell? ⟨W.heap.size, m, none⟩ = some (.string (signS m)) := by
 refine cell_later h ?_
 have := signs_cell m hm
 unfold signS
 rw [World.cell?_alloc_mark]; exact this
theorem rnext_two (s : ByteArray) (i : Nat) (w : World) (hs : s.size ≤ 1000000) (hi : i < s.size) (hd : digB s[i] = false) (hl : letB s[i] = false) (hc : s[i].toNat ≠ 34) (h2 : i + 1 < s.size) (h3 : signI [s[i], s[i + 1]] < 17) :
   Calls prog 53 #[.string s, .int .i64 i] w fun e w' => e = .returned (.tuple #[tokV (nextR s.data.toList i).1, .int .i64 (nextR s.data.toList i).2]) ∧ Below w.heap.size w w' := by
 have hll : i < s.data.toList.length := by rw [← list_len]; exact hi
 have HD := hid hd; have HL := hid hl
 have h34 : s.data.toList[i] ≠ 34 := fun e => hc (by have : s[i] = 34 := e; rw [this]; rfl)
 have c1 : ((s[i].toNat : Int) == 34) = false := beq_eq_false_iff_ne.2 (by omega)
 have E := hid (next_two (l := s.data.toList) (i := i) (by rw [← list_len]; exact h2) hd hl h34 h3)
 have EX := two_str s i h2
 have ST : ∀ wr, Below ((w.alloc (.cells #[.int .i64 0, .int .i64 0, .string { data := #[] }, .int .i64 0] 114)).alloc (.cells signCells 9)).heap.size ((w.alloc (.cells #[.int .i64 0, .int .i64 0, .string { data := #[] }, .int .i64 0] 114)).alloc (.cells signCells 9)) wr → ∀ m, m < 17 → wr.cell? ⟨w.heap.size + 1, m, none⟩ = some (.string (signS m)) := fun wr hb m hm => by have := signs_there (W := w.alloc (.cells #[.int .i64 0, .int .i64 0, .string { data := #[] }, .int .i64 0] 114)) hb hm; rwa [heap_one] at this
 have SY := sign_yes EX h3
 have SN := fun m hm => sign_no (m := m) EX hm
 have HST := hid ST; have HSY := hid SY; have HSN := hid SN; have H3 := hid h3
 have HEX := hid EX
 have HAT := hid (signS_at h3)
 have v1 : IntKind.i64.wrap ((i : Int) + 2) = (i : Int) + 2 := IntWalk.i64_in _ (by omega)
 have v2 : ((i : Int) + 2).toNat = i + 2 := by omega
 clear hd hl h34 hc ST SY SN EX
 go_enter func53, ntmps53
 go_wp2_with fail
 refine (rdigit s[i] _).mono ?_; rw [HD.out]; rintro e w' ⟨rfl, rfl⟩
 go_wp2_with fail
 refine (rletter s[i] _).mono ?_; rw [HL.out]; rintro e w' ⟨rfl, rfl⟩
 go_wp2_with fail
 refine wp_loop_rounds 4 ?_
 rw [rounds_succ]
 go_wp2_with fail
 refine (rsigns _).mono ?_; rintro e w' ⟨rfl, rfl⟩
 go_wp2_with fail
 go_loopw [10] (fun a wr => ∃ m : Nat, m ≤ signI [s[i], s[i + 1]] ∧ a = .int .i64 m ∧ Below ((w.alloc (.cells #[.int .i64 0, .int .i64 0, .string { data := #[] }, .int .i64 0] 114)).alloc (.cells signCells 9)).heap.size ((w.alloc (.cells #[.int .i64 0, .int .i64 0, .string { data := #[] }, .int .i64 0] 114)).alloc (.cells signCells 9)) wr) (fun a _ => 17 - (intOf a).toNat)
 case atStart => exact ⟨0, Nat.zero_le _, rfl, Below.refl _ _⟩
 case round =>
   obtain ⟨m, hm, rfl, hw⟩ := hrel
   have hm17 := signI_le [s[i], s[i + 1]]
   by_cases he : m = signI [s[i], s[i + 1]]
   · have hlt : m < 17 := by rw [he]; exact H3.out
     have f0 := HST.out wr hw m hlt
     have t1 : ((signS m).toList == (s.extract i (i + 2)).toList) = true := by rw [he]; exact HSY.out
     have HE : Hid (signS m = str [s[i], s[i + 1]]) := hid (by rw [he, HAT.out])
     clear he
     obtain ⟨hc, hf⟩ := bcell hw
     have r0 : wr.cell? ⟨w.heap.size, 0, none⟩ = some (.int .i64 0) := by rw [hc _ _ (by simp <;> omega)]; simp [go_sem]
     have z0 : wr.frozen? ⟨w.heap.size, 0, none⟩ = false := by rw [hf _ _ (by simp <;> omega)]; simp [go_sem]
     have r1 : wr.cell? ⟨w.heap.size, 1, none⟩ = some (.int .i64 0) := by rw [hc _ _ (by simp <;> omega)]; simp [go_sem]
     have z1 : wr.frozen? ⟨w.heap.size, 1, none⟩ = false := by rw [hf _ _ (by simp <;> omega)]; simp [go_sem]
     have r2 : wr.cell? ⟨w.heap.size, 2, none⟩ = some (.string { data := #[] }) := by rw [hc _ _ (by simp <;> omega)]; simp [go_sem]
     have z2 : wr.frozen? ⟨w.heap.size, 2, none⟩ = false := by rw [hf _ _ (by simp <;> omega)]; simp [go_sem]
     have r3 : wr.cell? ⟨w.heap.size, 3, none⟩ = some (.int .i64 0) := by rw [hc _ _ (by simp <;> omega)]; simp [go_sem]
     have z3 : wr.frozen? ⟨w.heap.size, 3, none⟩ = false := by rw [hf _ _ (by simp <;> omega)]; simp [go_sem]
     have hB := below_of (below_of hw)
     clear hc hf
     go_wp2_with fail
     go_quiet (fail)
     go_wp2
     refine bodyPost_ret (v := .tuple #[.agg #[.int .i64 4, .int .i64 0, .string (signS m), .int .i64 i], .int .i64 2]) (by simp [results, results53, go_sem, r0, r1, r2, r3]) rfl ⟨by rw [E.out, HE.out]; rfl, ?_⟩
     repeat (with_reducible first | exact hB | exact below_drewN' hB _ | refine Below.setCell ?_ (by first | omega | (simp <;> omega)) _ | refine Below.alloc ?_ (by first | omega | (simp <;> omega)) _)
   · have hlt2 : m < signI [s[i], s[i + 1]] := by omega
     have hlt : m < 17 := by omega
     have f0 := HST.out wr hw m hlt
     have t1 : ((signS m).toList == (s.extract i (i + 2)).toList) = false := HSN.out m hlt2
     clear he
     go_wp2_with fail
     go_quiet (fail)
     go_wp2
     go_roundw
     case rel => exact ⟨m + 1, by omega, by go_num, below_drewN' hw _⟩
     case measure => simp [intOf]; omega
theorem rnext_one1 (s : ByteArray) (i : Nat) (w : World) (hs : s.size ≤ 1000000) (hi : i < s.size) (hd : digB s[i] = false) (hl : letB s[i] = false) (hc : s[i].toNat ≠ 34) (h2 : ¬ i + 1 < s.size) (h1 : signI [s[i]] < 17) :
   Calls prog 53 #[.string s, .int .i64 i] w fun e w' => e = .returned (.tuple #[tokV (nextR s.data.toList i).1, .int .i64 (nextR s.data.toList i).2]) ∧ Below w.heap.size w w' := by
 have hll : i < s.data.toList.length := by rw [← list_len]; exact hi
 have HD := hid hd; have HL := hid hl
 have h34 : s.data.toList[i] ≠ 34 := fun e => hc (by have : s[i] = 34 := e; rw [this]; rfl)
 have c1 : ((s[i].toNat : Int) == 34) = false := beq_eq_false_iff_ne.2 (by omega)
 have E := hid (next_one (l := s.data.toList) (i := i) hll hd hl h34 (fun h => absurd (by rw [list_len]; exact h) h2) h1)
 have EX := one_str s i hi
 have HSN := hid (fun m hm => sign_no (m := m) EX hm)
 have H1 := hid h1
 have v1 : IntKind.i64.wrap ((i : Int) + 1) = (i : Int) + 1 := IntWalk.i64_in _ (by omega)
 have v2 : ((i : Int) + 1).toNat = i + 1 := by omega
 have HSY := hid (sign_yes EX h1)
 have HAT := hid (signS_at h1)
 clear hd hl h34 hc EX h1
 go_enter func53, ntmps53
 go_wp2_with fail
 refine (rdigit s[i] _).mono ?_; rw [HD.out]; rintro e w' ⟨rfl, rfl⟩
 go_wp2_with fail
 refine (rletter s[i] _).mono ?_; rw [HL.out]; rintro e w' ⟨rfl, rfl⟩
 go_wp2_with fail
 refine wp_loop_rounds 4 ?_
 rw [rounds_succ]
 go_wp2_with fail
 have hv := Below.refl (w.alloc (.cells #[.int .i64 0, .int .i64 0, .string { data := #[] }, .int .i64 0] 114)).heap.size (w.alloc (.cells #[.int .i64 0, .int .i64 0, .string { data := #[] }, .int .i64 0] 114))
 rw [rounds_succ]
 go_wp2_with fail
 refine (rsigns _).mono ?_; rintro e w' ⟨rfl, rfl⟩
 go_wp2_with fail
 go_loopw [10] (fun a w3 => ∃ m : Nat, m ≤ signI [s[i]] ∧ a = .int .i64 m ∧ Below ((w.alloc (.cells #[.int .i64 0, .int .i64 0, .string { data := #[] }, .int .i64 0] 114)).alloc (.cells signCells 9)).heap.size ((w.alloc (.cells #[.int .i64 0, .int .i64 0, .string { data := #[] }, .int .i64 0] 114)).alloc (.cells signCells 9)) w3) (fun a _ => 17 - (intOf a).toNat)
 case atStart => exact ⟨0, Nat.zero_le _, rfl, Below.refl _ _⟩
 case round =>
   obtain ⟨m2, hm2, rfl, hw2⟩ := hrel
   have hm17b := signI_le [s[i]]
   have hv3 := hv.trans ((below_of hw2).mono hv.size)
   by_cases he2 : m2 = signI [s[i]]
   · have hlt3 : m2 < 17 := by rw [he2]; exact H1.out
     have g0 := signs_there hw2 hlt3; rw [heap_one] at g0
     have t2 : ((signS m2).toList == (s.extract i (i + 1)).toList) = true := by rw [he2]; exact HSY.out
     have HE : Hid (signS m2 = str [s[i]]) := hid (by rw [he2, HAT.out])
     clear he2
     obtain ⟨hc, hf⟩ := bcell hv3
     have r0 : wr.cell? ⟨w.heap.size, 0, none⟩ = some (.int .i64 0) := by rw [hc _ _ (by simp <;> omega)]; simp [go_sem]
     have z0 : wr.frozen? ⟨w.heap.size, 0, none⟩ = false := by rw [hf _ _ (by simp <;> omega)]; simp [go_sem]
     have r1 : wr.cell? ⟨w.heap.size, 1, none⟩ = some (.int .i64 0) := by rw [hc _ _ (by simp <;> omega)]; simp [go_sem]
     have z1 : wr.frozen? ⟨w.heap.size, 1, none⟩ = false := by rw [hf _ _ (by simp <;> omega)]; simp [go_sem]
     have r2 : wr.cell? ⟨w.heap.size, 2, none⟩ = some (.string { data := #[] }) := by rw [hc _ _ (by simp <;> omega)]; simp [go_sem]
     have z2 : wr.frozen? ⟨w.heap.size, 2, none⟩ = false := by rw [hf _ _ (by simp <;> omega)]; simp [go_sem]
     have r3 : wr.cell? ⟨w.heap.size, 3, none⟩ = some (.int .i64 0) := by rw [hc _ _ (by simp <;> omega)]; simp [go_sem]
     have z3 : wr.frozen? ⟨w.heap.size, 3, none⟩ = false := by rw [hf _ _ (by simp <;> omega)]; simp [go_sem]
     have hB := below_of hv3
     clear hc hf
     go_wp2_with fail
     go_quiet (fail)
     go_wp2
     refine bodyPost_ret (v := .tuple #[.agg #[.int .i64 4, .int .i64 0, .string (signS m2), .int .i64 i], .int .i64 1]) (by simp [results, results53, go_sem, r0, r1, r2, r3]) rfl ⟨by rw [E.out, HE.out]; rfl, ?_⟩
     repeat (with_reducible first | exact hB | exact below_drewN' hB _ | refine Below.setCell ?_ (by first | omega | (simp <;> omega)) _ | refine Below.alloc ?_ (by first | omega | (simp <;> omega)) _)
   · have hlt4 : m2 < signI [s[i]] := by omega
     have hlt3 : m2 < 17 := by omega
     have g0 := signs_there hw2 hlt3; rw [heap_one] at g0
     have t2 : ((signS m2).toList == (s.extract i (i + 1)).toList) = false := HSN.out m2 hlt4
     clear he2
     go_wp2_with fail
     go_quiet (fail)
     go_wp2
     go_roundw
     case rel => exact ⟨m2 + 1, by omega, by go_num, below_drewN' hw2 _⟩
     case measure => simp [intOf]; omega
theorem rnext_one2 (s : ByteArray) (i : Nat) (w : World) (hs : s.size ≤ 1000000) (hi : i < s.size) (hd : digB s[i] = false) (hl : letB s[i] = false) (hc : s[i].toNat ≠ 34) (h2 : i + 1 < s.size) (h3 : ¬ signI [s[i], s[i + 1]] < 17) (h1 : signI [s[i]] < 17) :
   Calls prog 53 #[.string s, .int .i64 i] w fun e w' => e = .returned (.tuple #[tokV (nextR s.data.toList i).1, .int .i64 (nextR s.data.toList i).2]) ∧ Below w.heap.size w w' := by
 have hll : i < s.data.toList.length := by rw [← list_len]; exact hi
 have HD := hid hd; have HL := hid hl
 have h34 : s.data.toList[i] ≠ 34 := fun e => hc (by have : s[i] = 34 := e; rw [this]; rfl)
 have c1 : ((s[i].toNat : Int) == 34) = false := beq_eq_false_iff_ne.2 (by omega)
 have E := hid (next_one (l := s.data.toList) (i := i) hll hd hl h34 (fun h => h3) h1)
 have EX := one_str s i hi
 have HSN := hid (fun m hm => sign_no (m := m) EX hm)
 have H1 := hid h1
 have v1 : IntKind.i64.wrap ((i : Int) + 1) = (i : Int) + 1 := IntWalk.i64_in _ (by omega)
 have v2 : ((i : Int) + 1).toNat = i + 1 := by omega
 have HSY := hid (sign_yes EX h1)
 have HAT := hid (signS_at h1)
 have EX2 := two_str s i h2
 have ST : ∀ wr, Below ((w.alloc (.cells #[.int .i64 0, .int .i64 0, .string { data := #[] }, .int .i64 0] 114)).alloc (.cells signCells 9)).heap.size ((w.alloc (.cells #[.int .i64 0, .int .i64 0, .string { data := #[] }, .int .i64 0] 114)).alloc (.cells signCells 9)) wr → ∀ m, m < 17 → wr.cell? ⟨w.heap.size + 1, m, none⟩ = some (.string (signS m)) := fun wr hb m hm => by have := signs_there (W := w.alloc (.cells #[.int .i64 0, .int .i64 0, .string { data := #[] }, .int .i64 0] 114)) hb hm; rwa [heap_one] at this
 have HST := hid ST
 have HSN2 := hid (fun m hm => sign_no (m := m) EX2 hm)
 have H3 := hid h3
 have v3 : IntKind.i64.wrap ((i : Int) + 2) = (i : Int) + 2 := IntWalk.i64_in _ (by omega)
 have v4 : ((i : Int) + 2).toNat = i + 2 := by omega
 clear ST EX2 h3
 clear hd hl h34 hc EX h1
 go_enter func53, ntmps53
 go_wp2_with fail
 refine (rdigit s[i] _).mono ?_; rw [HD.out]; rintro e w' ⟨rfl, rfl⟩
 go_wp2_with fail
 refine (rletter s[i] _).mono ?_; rw [HL.out]; rintro e w' ⟨rfl, rfl⟩
 go_wp2_with fail
 refine wp_loop_rounds 4 ?_
 rw [rounds_succ]
 go_wp2_with fail
 refine (rsigns _).mono ?_; rintro e w' ⟨rfl, rfl⟩
 go_wp2_with fail
 go_loopw [10] (fun a wr => ∃ m : Nat, m ≤ signI [s[i], s[i + 1]] ∧ a = .int .i64 m ∧ Below ((w.alloc (.cells #[.int .i64 0, .int .i64 0, .string { data := #[] }, .int .i64 0] 114)).alloc (.cells signCells 9)).heap.size ((w.alloc (.cells #[.int .i64 0, .int .i64 0, .string { data := #[] }, .int .i64 0] 114)).alloc (.cells signCells 9)) wr) (fun a _ => 17 - (intOf a).toNat)
 case atStart => exact ⟨0, Nat.zero_le _, rfl, Below.refl _ _⟩
 case round =>
   obtain ⟨m, hm, rfl, hw⟩ := hrel
   have hm17 := signI_le [s[i], s[i + 1]]
   have H317 := H3.out
   by_cases hlt : m < 17
   · have hlt2 : m < signI [s[i], s[i + 1]] := by omega
     have f0 := HST.out wr hw m hlt
     have t1 : ((signS m).toList == (s.extract i (i + 2)).toList) = false := HSN2.out m hlt2
     go_wp2_with fail
     go_quiet (fail)
     go_wp2
     go_roundw
     case rel => exact ⟨m + 1, by omega, by go_num, below_drewN' hw _⟩
     case measure => simp [intOf]; omega
   · have hv := below_of hw
     go_wp2_with fail
     rw [rounds_succ]
     go_wp2_with fail
     refine (rsigns _).mono ?_; rintro e w' ⟨rfl, rfl⟩
     go_wp2_with fail
     go_loopw [10] (fun a w3 => ∃ m : Nat, m ≤ signI [s[i]] ∧ a = .int .i64 m ∧ Below (wr.alloc (.cells signCells 9)).heap.size (wr.alloc (.cells signCells 9)) w3) (fun a _ => 17 - (intOf a).toNat)
     case atStart => exact ⟨0, Nat.zero_le _, rfl, Below.refl _ _⟩
     case round =>
       obtain ⟨m2, hm2, rfl, hw2⟩ := hrel
       have hm17b := signI_le [s[i]]
       have hv3 := hv.trans ((below_of hw2).mono hv.size)
       by_cases he2 : m2 = signI [s[i]]
       · have hlt3 : m2 < 17 := by rw [he2]; exact H1.out
         have g0 := signs_there hw2 hlt3
         have t2 : ((signS m2).toList == (s.extract i (i + 1)).toList) = true := by rw [he2]; exact HSY.out
         have HE : Hid (signS m2 = str [s[i]]) := hid (by rw [he2, HAT.out])
         clear he2
         obtain ⟨hc, hf⟩ := bcell hv3
         have r0 : wr.cell? ⟨w.heap.size, 0, none⟩ = some (.int .i64 0) := by rw [hc _ _ (by simp <;> omega)]; simp [go_sem]
         have z0 : wr.frozen? ⟨w.heap.size, 0, none⟩ = false := by rw [hf _ _ (by simp <;> omega)]; simp [go_sem]
         have r1 : wr.cell? ⟨w.heap.size, 1, none⟩ = some (.int .i64 0) := by rw [hc _ _ (by simp <;> omega)]; simp [go_sem]
         have z1 : wr.frozen? ⟨w.heap.size, 1, none⟩ = false := by rw [hf _ _ (by simp <;> omega)]; simp [go_sem]
         have r2 : wr.cell? ⟨w.heap.size, 2, none⟩ = some (.string { data := #[] }) := by rw [hc _ _ (by simp <;> omega)]; simp [go_sem]
         have z2 : wr.frozen? ⟨w.heap.size, 2, none⟩ = false := by rw [hf _ _ (by simp <;> omega)]; simp [go_sem]
         have r3 : wr.cell? ⟨w.heap.size, 3, none⟩ = some (.int .i64 0) := by rw [hc _ _ (by simp <;> omega)]; simp [go_sem]
         have z3 : wr.frozen? ⟨w.heap.size, 3, none⟩ = false := by rw [hf _ _ (by simp <;> omega)]; simp [go_sem]
         have hB := below_of hv3
         clear hc hf
         go_wp2_with fail
         go_quiet (fail)
         go_wp2
         refine bodyPost_ret (v := .tuple #[.agg #[.int .i64 4, .int .i64 0, .string (signS m2), .int .i64 i], .int .i64 1]) (by simp [results, results53, go_sem, r0, r1, r2, r3]) rfl ⟨by rw [E.out, HE.out]; rfl, ?_⟩
         repeat (with_reducible first | exact hB | exact below_drewN' hB _ | refine Below.setCell ?_ (by first | omega | (simp <;> omega)) _ | refine Below.alloc ?_ (by first | omega | (simp <;> omega)) _)
       · have hlt4 : m2 < signI [s[i]] := by omega
         have hlt3 : m2 < 17 := by omega
         have g0 := signs_there hw2 hlt3
         have t2 : ((signS m2).toList == (s.extract i (i + 1)).toList) = false := HSN.out m2 hlt4
         clear he2
         go_wp2_with fail
         go_quiet (fail)
         go_wp2
         go_roundw
         case rel => exact ⟨m2 + 1, by omega, by go_num, below_drewN' hw2 _⟩
         case measure => simp [intOf]; omega
theorem rnext_none1 (s : ByteArray) (i : Nat) (w : World) (hs : s.size ≤ 1000000) (hi : i < s.size) (hd : digB s[i] = false) (hl : letB s[i] = false) (hc : s[i].toNat ≠ 34) (h2 : ¬ i + 1 < s.size) (h1 : ¬ signI [s[i]] < 17) :
   Calls prog 53 #[.string s, .int .i64 i] w fun e w' => e = .returned (.tuple #[tokV (nextR s.data.toList i).1, .int .i64 (nextR s.data.toList i).2]) ∧ Below w.heap.size w w' := by
 have hll : i < s.data.toList.length := by rw [← list_len]; exact hi
 have HD := hid hd; have HL := hid hl
 have h34 : s.data.toList[i] ≠ 34 := fun e => hc (by have : s[i] = 34 := e; rw [this]; rfl)
 have c1 : ((s[i].toNat : Int) == 34) = false := beq_eq_false_iff_ne.2 (by omega)
 have E := hid (next_none (l := s.data.toList) (i := i) hll hd hl h34 (fun h => absurd (by rw [list_len]; exact h) h2) h1)
 have EX := one_str s i hi
 have HSN := hid (fun m hm => sign_no (m := m) EX hm)
 have H1 := hid h1
 have v1 : IntKind.i64.wrap ((i : Int) + 1) = (i : Int) + 1 := IntWalk.i64_in _ (by omega)
 have v2 : ((i : Int) + 1).toNat = i + 1 := by omega
 clear hd hl h34 hc EX h1
 go_enter func53, ntmps53
 go_wp2_with fail
 refine (rdigit s[i] _).mono ?_; rw [HD.out]; rintro e w' ⟨rfl, rfl⟩
 go_wp2_with fail
 refine (rletter s[i] _).mono ?_; rw [HL.out]; rintro e w' ⟨rfl, rfl⟩
 go_wp2_with fail
 refine wp_loop_rounds 4 ?_
 rw [rounds_succ]
 go_wp2_with fail
 have hv := Below.refl (w.alloc (.cells #[.int .i64 0, .int .i64 0, .string { data := #[] }, .int .i64 0] 114)).heap.size (w.alloc (.cells #[.int .i64 0, .int .i64 0, .string { data := #[] }, .int .i64 0] 114))
 rw [rounds_succ]
 go_wp2_with fail
 refine (rsigns _).mono ?_; rintro e w' ⟨rfl, rfl⟩
 go_wp2_with fail
 go_loopw [10] (fun a w3 => ∃ m : Nat, m ≤ signI [s[i]] ∧ a = .int .i64 m ∧ Below ((w.alloc (.cells #[.int .i64 0, .int .i64 0, .string { data := #[] }, .int .i64 0] 114)).alloc (.cells signCells 9)).heap.size ((w.alloc (.cells #[.int .i64 0, .int .i64 0, .string { data := #[] }, .int .i64 0] 114)).alloc (.cells signCells 9)) w3) (fun a _ => 17 - (intOf a).toNat)
 case atStart => exact ⟨0, Nat.zero_le _, rfl, Below.refl _ _⟩
 case round =>
   obtain ⟨m2, hm2, rfl, hw2⟩ := hrel
   have hm17b := signI_le [s[i]]
   have hv3 := hv.trans ((below_of hw2).mono hv.size)
   have H17 := H1.out
   by_cases hlt3 : m2 < 17
   · have hlt4 : m2 < signI [s[i]] := by omega
     have g0 := signs_there hw2 hlt3; rw [heap_one] at g0
     have t2 : ((signS m2).toList == (s.extract i (i + 1)).toList) = false := HSN.out m2 hlt4
     go_wp2_with fail
     go_quiet (fail)
     go_wp2
     go_roundw
     case rel => exact ⟨m2 + 1, by omega, by go_num, below_drewN' hw2 _⟩
     case measure => simp [intOf]; omega
   · skip
     obtain ⟨hc, hf⟩ := bcell hv3
     have r0 : wr.cell? ⟨w.heap.size, 0, none⟩ = some (.int .i64 0) := by rw [hc _ _ (by simp <;> omega)]; simp [go_sem]
     have z0 : wr.frozen? ⟨w.heap.size, 0, none⟩ = false := by rw [hf _ _ (by simp <;> omega)]; simp [go_sem]
     have r1 : wr.cell? ⟨w.heap.size, 1, none⟩ = some (.int .i64 0) := by rw [hc _ _ (by simp <;> omega)]; simp [go_sem]
     have z1 : wr.frozen? ⟨w.heap.size, 1, none⟩ = false := by rw [hf _ _ (by simp <;> omega)]; simp [go_sem]
     have r2 : wr.cell? ⟨w.heap.size, 2, none⟩ = some (.string { data := #[] }) := by rw [hc _ _ (by simp <;> omega)]; simp [go_sem]
     have z2 : wr.frozen? ⟨w.heap.size, 2, none⟩ = false := by rw [hf _ _ (by simp <;> omega)]; simp [go_sem]
     have r3 : wr.cell? ⟨w.heap.size, 3, none⟩ = some (.int .i64 0) := by rw [hc _ _ (by simp <;> omega)]; simp [go_sem]
     have z3 : wr.frozen? ⟨w.heap.size, 3, none⟩ = false := by rw [hf _ _ (by simp <;> omega)]; simp [go_sem]
     have hB := below_of hv3
     clear hc hf
     go_wp2_with fail
     rw [rounds_succ]
     go_wp2
     refine bodyPost_ret (v := .tuple #[.agg #[.int .i64 0, .int .i64 0, .string { data := #[] }, .int .i64 0], .int .i64 0]) (by simp [results, results53, go_sem, r0, r1, r2, r3]) rfl ⟨by rw [E.out]; rfl, ?_⟩
     repeat (with_reducible first | exact hB | refine Below.setCell ?_ (by first | omega | (simp <;> omega)) _ | refine Below.alloc ?_ (by first | omega | (simp <;> omega)) _)
theorem rnext_none2 (s : ByteArray) (i : Nat) (w : World) (hs : s.size ≤ 1000000) (hi : i < s.size) (hd : digB s[i] = false) (hl : letB s[i] = false) (hc : s[i].toNat ≠ 34) (h2 : i + 1 < s.size) (h3 : ¬ signI [s[i], s[i + 1]] < 17) (h1 : ¬ signI [s[i]] < 17) :
   Calls prog 53 #[.string s, .int .i64 i] w fun e w' => e = .returned (.tuple #[tokV (nextR s.data.toList i).1, .int .i64 (nextR s.data.toList i).2]) ∧ Below w.heap.size w w' := by
 have hll : i < s.data.toList.length := by rw [← list_len]; exact hi
 have HD := hid hd; have HL := hid hl
 have h34 : s.data.toList[i] ≠ 34 := fun e => hc (by have : s[i] = 34 := e; rw [this]; rfl)
 have c1 : ((s[i].toNat : Int) == 34) = false := beq_eq_false_iff_ne.2 (by omega)
 have E := hid (next_none (l := s.data.toList) (i := i) hll hd hl h34 (fun h => h3) h1)
 have EX := one_str s i hi
 have HSN := hid (fun m hm => sign_no (m := m) EX hm)
 have H1 := hid h1
 have v1 : IntKind.i64.wrap ((i : Int) + 1) = (i : Int) + 1 := IntWalk.i64_in _ (by omega)
 have v2 : ((i : Int) + 1).toNat = i + 1 := by omega
 have EX2 := two_str s i h2
 have ST : ∀ wr, Below ((w.alloc (.cells #[.int .i64 0, .int .i64 0, .string { data := #[] }, .int .i64 0] 114)).alloc (.cells signCells 9)).heap.size ((w.alloc (.cells #[.int .i64 0, .int .i64 0, .string { data := #[] }, .int .i64 0] 114)).alloc (.cells signCells 9)) wr → ∀ m, m < 17 → wr.cell? ⟨w.heap.size + 1, m, none⟩ = some (.string (signS m)) := fun wr hb m hm => by have := signs_there (W := w.alloc (.cells #[.int .i64 0, .int .i64 0, .string { data := #[] }, .int .i64 0] 114)) hb hm; rwa [heap_one] at this
 have HST := hid ST
 have HSN2 := hid (fun m hm => sign_no (m := m) EX2 hm)
 have H3 := hid h3
 have v3 : IntKind.i64.wrap ((i : Int) + 2) = (i : Int) + 2 := IntWalk.i64_in _ (by omega)
 have v4 : ((i : Int) + 2).toNat = i + 2 := by omega
 clear ST EX2 h3
 clear hd hl h34 hc EX h1
 go_enter func53, ntmps53
 go_wp2_with fail
 refine (rdigit s[i] _).mono ?_; rw [HD.out]; rintro e w' ⟨rfl, rfl⟩
 go_wp2_with fail
 refine (rletter s[i] _).mono ?_; rw [HL.out]; rintro e w' ⟨rfl, rfl⟩
 go_wp2_with fail
 refine wp_loop_rounds 4 ?_
 rw [rounds_succ]
 go_wp2_with fail
 refine (rsigns _).mono ?_; rintro e w' ⟨rfl, rfl⟩
 go_wp2_with fail
 go_loopw [10] (fun a wr => ∃ m : Nat, m ≤ signI [s[i], s[i + 1]] ∧ a = .int .i64 m ∧ Below ((w.alloc (.cells #[.int .i64 0, .int .i64 0, .string { data := #[] }, .int .i64 0] 114)).alloc (.cells signCells 9)).heap.size ((w.alloc (.cells #[.int .i64 0, .int .i64 0, .string { data := #[] }, .int .i64 0] 114)).alloc (.cells signCells 9)) wr) (fun a _ => 17 - (intOf a).toNat)
 case atStart => exact ⟨0, Nat.zero_le _, rfl, Below.refl _ _⟩
 case round =>
   obtain ⟨m, hm, rfl, hw⟩ := hrel
   have hm17 := signI_le [s[i], s[i + 1]]
   have H317 := H3.out
   by_cases hlt : m < 17
   · have hlt2 : m < signI [s[i], s[i + 1]] := by omega
     have f0 := HST.out wr hw m hlt
     have t1 : ((signS m).toList == (s.extract i (i + 2)).toList) = false := HSN2.out m hlt2
     go_wp2_with fail
     go_quiet (fail)
     go_wp2
     go_roundw
     case rel => exact ⟨m + 1, by omega, by go_num, below_drewN' hw _⟩
     case measure => simp [intOf]; omega
   · have hv := below_of hw
     go_wp2_with fail
     rw [rounds_succ]
     go_wp2_with fail
     refine (rsigns _).mono ?_; rintro e w' ⟨rfl, rfl⟩
     go_wp2_with fail
     go_loopw [10] (fun a w3 => ∃ m : Nat, m ≤ signI [s[i]] ∧ a = .int .i64 m ∧ Below (wr.alloc (.cells signCells 9)).heap.size (wr.alloc (.cells signCells 9)) w3) (fun a _ => 17 - (intOf a).toNat)
     case atStart => exact ⟨0, Nat.zero_le _, rfl, Below.refl _ _⟩
     case round =>
       obtain ⟨m2, hm2, rfl, hw2⟩ := hrel
       have hm17b := signI_le [s[i]]
       have hv3 := hv.trans ((below_of hw2).mono hv.size)
       have H17 := H1.out
       by_cases hlt3 : m2 < 17
       · have hlt4 : m2 < signI [s[i]] := by omega
         have g0 := signs_there hw2 hlt3
         have t2 : ((signS m2).toList == (s.extract i (i + 1)).toList) = false := HSN.out m2 hlt4
         go_wp2_with fail
         go_quiet (fail)
         go_wp2
         go_roundw
         case rel => exact ⟨m2 + 1, by omega, by go_num, below_drewN' hw2 _⟩
         case measure => simp [intOf]; omega
       · skip
         obtain ⟨hc, hf⟩ := bcell hv3
         have r0 : wr.cell? ⟨w.heap.size, 0, none⟩ = some (.int .i64 0) := by rw [hc _ _ (by simp <;> omega)]; simp [go_sem]
         have z0 : wr.frozen? ⟨w.heap.size, 0, none⟩ = false := by rw [hf _ _ (by simp <;> omega)]; simp [go_sem]
         have r1 : wr.cell? ⟨w.heap.size, 1, none⟩ = some (.int .i64 0) := by rw [hc _ _ (by simp <;> omega)]; simp [go_sem]
         have z1 : wr.frozen? ⟨w.heap.size, 1, none⟩ = false := by rw [hf _ _ (by simp <;> omega)]; simp [go_sem]
         have r2 : wr.cell? ⟨w.heap.size, 2, none⟩ = some (.string { data := #[] }) := by rw [hc _ _ (by simp <;> omega)]; simp [go_sem]
         have z2 : wr.frozen? ⟨w.heap.size, 2, none⟩ = false := by rw [hf _ _ (by simp <;> omega)]; simp [go_sem]
         have r3 : wr.cell? ⟨w.heap.size, 3, none⟩ = some (.int .i64 0) := by rw [hc _ _ (by simp <;> omega)]; simp [go_sem]
         have z3 : wr.frozen? ⟨w.heap.size, 3, none⟩ = false := by rw [hf _ _ (by simp <;> omega)]; simp [go_sem]
         have hB := below_of hv3
         clear hc hf
         go_wp2_with fail
         rw [rounds_succ]
         go_wp2
         refine bodyPost_ret (v := .tuple #[.agg #[.int .i64 0, .int .i64 0, .string { data := #[] }, .int .i64 0], .int .i64 0]) (by simp [results, results53, go_sem, r0, r1, r2, r3]) rfl ⟨by rw [E.out]; rfl, ?_⟩
         repeat (with_reducible first | exact hB | refine Below.setCell ?_ (by first | omega | (simp <;> omega)) _ | refine Below.alloc ?_ (by first | omega | (simp <;> omega)) _)
theorem rnext (s : ByteArray) (i : Nat) (w : World) (hs : s.size ≤ 1000000) (hi : i < s.size) :
   Calls prog 53 #[.string s, .int .i64 i] w fun e w' => e = .returned (.tuple #[tokV (nextR s.data.toList i).1, .int .i64 (nextR s.data.toList i).2]) ∧ Below w.heap.size w w' := by
 cases hd : digB s[i]
 · cases hl : letB s[i]
   · by_cases hc : s[i].toNat = 34
     · exact rnext_text s i w hs hi hc
     · by_cases h2 : i + 1 < s.size
       · by_cases h3 : signI [s[i], s[i + 1]] < 17
         · exact rnext_two s i w hs hi hd hl hc h2 h3
         · by_cases h1 : signI [s[i]] < 17
           · exact rnext_one2 s i w hs hi hd hl hc h2 h3 h1
           · exact rnext_none2 s i w hs hi hd hl hc h2 h3 h1
       · by_cases h1 : signI [s[i]] < 17
         · exact rnext_one1 s i w hs hi hd hl hc h2 h1
         · exact rnext_none1 s i w hs hi hd hl hc h2 h1
   · exact rnext_letter s i w hs hi hd hl
 · exact rnext_digit s i w hs hi hd
end Go.Proofs.YticehalcnbjccaaGreatDoor.LexC
