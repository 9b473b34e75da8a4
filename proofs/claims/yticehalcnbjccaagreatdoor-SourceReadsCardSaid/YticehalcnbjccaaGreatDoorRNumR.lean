/-
  Contracts of the reference's numbers: whole, signed, or, Add, Sub. Nothing is assumed but that the arguments are numbers of their kinds.
-/
import Derived.Test.YticehalcnbjccaaGreatDoorProg
import Derived.Test.YticehalcnbjccaaGreatDoorRNumM
import Derived.WalkKit
import Derived.WalkSpells
import Derived.WalkLawsBesides
import Derived.Deep.QuietTactic
import Derived.BigQuiet
import Derived.Lib.Hide
namespace Go.Proofs.YticehalcnbjccaaGreatDoor.NumC
set_option maxRecDepth 100000
set_option maxHeartbeats 8000000
set_option linter.unusedVariables false
open Go.RowKit
open Tryz
open Lib (hid)
theorem got_eq {n n' : Int} {b b' : Bool} (hn : n = n') (hb : b = b') : Ending.returned (.agg #[.int .i64 n, .bool b]) = .returned (.agg #[.int .i64 n', .bool b']) := by subst hn hb; rfl
theorem retu {x x' : Int} (hx : x = x') : Ending.returned (.int .u64 x) = .returned (.int .u64 x') := by subst hx; rfl
theorem rwhole (a : Int) (w : World) (ha : I64 a) :
   Calls prog 58 #[.int .i64 a] w fun e w' => e = .returned (.int .u64 (siz a)) ∧ w = w' := by
 have ha1 := ha; unfold I64 at ha1
 by_cases h : a < 0
 · have E := hid (siz_neg h)
   go_enter func58, ntmps58
   go_wp2
   go_ret
   exact ⟨retu (by rw [E.out]; omega), rfl⟩
 · have E := hid (siz_pos h)
   go_enter func58, ntmps58
   go_wp2
   go_ret
   exact ⟨retu (by rw [E.out]), rfl⟩
theorem rsigned (u : Int) (b : Bool) (w : World) (h0 : 0 ≤ u) (h1 : u ≤ 18446744073709551615) :
   Calls prog 33 #[.int .u64 u, .bool b] w fun e w' => e = .returned (.agg #[.int .i64 (fitN (sgd b u)), .bool (fitB (sgd b u))]) ∧ Below w.heap.size w w' := by
 cases b
 · by_cases h : u < 9223372036854775808
   · have H := hid (i64_sgd_f h0 h)
     go_enter func33, ntmps33
     go_wp2
     refine bodyPost_ret (v := .agg #[.int .i64 u, .bool true]) (by simp [results, results33, go_sem]) rfl ⟨?_, ?_⟩
     · exact got_eq (by rw [fitN_yes H.out, sgd_f]) (by rw [fitB_yes H.out])
     · exact (Below.refl _ _).alloc (Nat.le_refl _) _
   · have H := hid (i64_sgd_f' h)
     go_enter func33, ntmps33
     go_wp2
     refine bodyPost_ret (v := .agg #[.int .i64 0, .bool false]) (by simp [results, results33, go_sem]) rfl ⟨?_, ?_⟩
     · exact got_eq (by rw [fitN_no H.out]) (by rw [fitB_no H.out])
     · exact (Below.refl _ _).alloc (Nat.le_refl _) _
 · by_cases h : u ≤ 9223372036854775808
   · have H := hid (i64_sgd_t h0 h)
     by_cases h2 : u = 9223372036854775808
     · subst h2
       go_enter func33, ntmps33
       go_wp2
       refine bodyPost_ret (v := .agg #[.int .i64 (-9223372036854775808), .bool true]) (by simp [results, results33, go_sem]) rfl ⟨?_, ?_⟩
       · exact got_eq (by rw [fitN_yes H.out, sgd_t]) (by rw [fitB_yes H.out])
       · exact (Below.refl _ _).alloc (Nat.le_refl _) _
     · have h3 : u < 9223372036854775808 := by omega
       have h4 : (u == 9223372036854775808) = false := by simpa using h2
       clear h2
       go_enter func33, ntmps33
       go_wp2
       refine bodyPost_ret (v := .agg #[.int .i64 (-u), .bool true]) (by simp [results, results33, go_sem]) rfl ⟨?_, ?_⟩
       · exact got_eq (by rw [fitN_yes H.out, sgd_t]) (by rw [fitB_yes H.out])
       · exact (Below.refl _ _).alloc (Nat.le_refl _) _
   · have H := hid (i64_sgd_t' h)
     have h4 : (u == 9223372036854775808) = false := by simp; omega
     go_enter func33, ntmps33
     go_wp2
     refine bodyPost_ret (v := .agg #[.int .i64 0, .bool false]) (by simp [results, results33, go_sem]) rfl ⟨?_, ?_⟩
     · exact got_eq (by rw [fitN_no H.out]) (by rw [fitB_no H.out])
     · exact (Below.refl _ _).alloc (Nat.le_refl _) _
theorem bcell {W w1 : World} (hb : Below W.heap.size W w1) : (∀ b o, b < W.heap.size → w1.cell? ⟨b, o, none⟩ = W.cell? ⟨b, o, none⟩) ∧ (∀ b o, b < W.heap.size → w1.frozen? ⟨b, o, none⟩ = W.frozen? ⟨b, o, none⟩) :=
 ⟨fun b o h => hb.cell (p := ⟨b, o, none⟩) h, fun b o h => hb.frozen (p := ⟨b, o, none⟩) h⟩
theorem below_of {w w1 : World} {o : Obj} (hb1 : Below (w.alloc o).heap.size (w.alloc o) w1) : Below w.heap.size w w1 :=
 ((Below.refl _ _).alloc (Nat.le_refl _) o).trans (hb1.mono (by simp))
theorem size_of {w w1 : World} {o : Obj} (hb1 : Below (w.alloc o).heap.size (w.alloc o) w1) : w.heap.size < w1.heap.size := by
 have := hb1.size; simp at this; omega
theorem below_then {w w1 w2 : World} {o : Obj} (hb1 : Below (w.alloc o).heap.size (w.alloc o) w1) (hb2 : Below w1.heap.size w1 w2) : Below (w.alloc o).heap.size (w.alloc o) w2 :=
 hb1.trans (hb2.mono hb1.size)
end Go.Proofs.YticehalcnbjccaaGreatDoor.NumC
