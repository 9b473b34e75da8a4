/-
  The walk of the statement TreeTells: for all trees it answers true.
-/
import Derived.Test.YtkdgiadpmfpjnaaGreatDoorMK5
import Derived.Test.YtkdgiadpmfpjnaaGreatDoorMK8
import Derived.Test.YtkdgiadpmfpjnaaGreatDoorMK9
import Derived.Test.YtkdgiadpmfpjnaaGreatDoorMZL
import Derived.Test.YtkdgiadpmfpjnaaGreatDoorMZ
import Derived.Test.YtkdgiadpmfpjnaaGreatDoorMNumG
import Derived.Deep.QuietTactic
import Derived.BigQuiet
namespace Go.Proofs.YtkdgiadpmfpjnaaGreatDoor.TreeC
set_option linter.unusedVariables false
open Go.RowKit Go.Proofs.YtkdgiadpmfpjnaaGreatDoor.NumC Go.Proofs.YtkdgiadpmfpjnaaGreatDoor.LexC

theorem kids_in {w W : World} {kd : Fo} {A : Option Addr} (h : KidsAt w (fun g => g < w.heap.size) kd A) (hb : Below w.heap.size w W) : KidsAt W (fun g => g < W.heap.size) kd A := below_row h hb
theorem sameAA (a : Nd) : decide (a = a) = true := decide_eq_true rfl
theorem cSameA (a : Nd) (A B : Option Addr) (c d : Nat) (w : World) (ha : a.size ≤ 300) (hA : KidsAt w (fun g => g < w.heap.size) a.kids A) (hB : KidsAt w (fun g => g < w.heap.size) a.kids B) :
    Calls Tryz.prog 19 #[.agg #[.int .i64 a.f.k, .int .i64 a.f.vk, .int .i64 a.f.vn, .string a.f.vs, .int .i64 a.f.r1, .int .i64 a.f.r2, .int .i64 a.f.r3, .int .i64 a.f.r4, .string a.f.op, .slice A a.kids.len c], .agg #[.int .i64 a.f.k, .int .i64 a.f.vk, .int .i64 a.f.vn, .string a.f.vs, .int .i64 a.f.r1, .int .i64 a.f.r2, .int .i64 a.f.r3, .int .i64 a.f.r4, .string a.f.op, .slice B a.kids.len d]] w fun e w' => e = .returned (.bool true) ∧ Below w.heap.size w w' := by
  have := cSame a a A B c d w (by omega) (by omega) hA hB
  rwa [sameAA] at this
theorem knodeA (a : Nd) (A B : Option Addr) (c d : Nat) (w : World) (ha : a.size ≤ 300) (hA : KidsAt w (fun g => g < w.heap.size) a.kids A) (hB : KidsAt w (fun g => g < w.heap.size) a.kids B) :
    Calls Tryz.prog 12 #[.agg #[.int .i64 a.f.k, .int .i64 a.f.vk, .int .i64 a.f.vn, .string a.f.vs, .int .i64 a.f.r1, .int .i64 a.f.r2, .int .i64 a.f.r3, .int .i64 a.f.r4, .string a.f.op, .slice A a.kids.len c], .agg #[.int .i64 a.f.k, .int .i64 a.f.vk, .int .i64 a.f.vn, .string a.f.vs, .int .i64 a.f.r1, .int .i64 a.f.r2, .int .i64 a.f.r3, .int .i64 a.f.r4, .string a.f.op, .slice B a.kids.len d]] w fun e w' => e = .returned (.bool true) ∧ Below w.heap.size w w' := by
  have := knodeG a a A B c d w ha ha hA hB
  rwa [sameAA] at this
theorem cDepthN (a : Nd) (A : Option Addr) (c : Nat) (w : World) (ha : a.size ≤ 300) (hA : KidsAt w (fun g => g < w.heap.size) a.kids A) :
    Calls Tryz.prog 17 #[.agg #[.int .i64 a.f.k, .int .i64 a.f.vk, .int .i64 a.f.vn, .string a.f.vs, .int .i64 a.f.r1, .int .i64 a.f.r2, .int .i64 a.f.r3, .int .i64 a.f.r4, .string a.f.op, .slice A a.kids.len c]] w fun e w' => e = .returned (.int .i64 (a.deep : Nat)) ∧ Below w.heap.size w w' := by
  have := cDepth a A c w (by omega) hA
  rwa [if_pos (by omega)] at this
theorem rDepthN (a : Nd) (A : Option Addr) (c : Nat) (w : World) (ha : a.size ≤ 300) (hA : KidsAt w (fun g => g < w.heap.size) a.kids A) :
    Calls Tryz.prog 18 #[.agg #[.int .i64 a.f.k, .int .i64 a.f.vk, .int .i64 a.f.vn, .string a.f.vs, .int .i64 a.f.r1, .int .i64 a.f.r2, .int .i64 a.f.r3, .int .i64 a.f.r4, .string a.f.op, .slice A a.kids.len c]] w fun e w' => e = .returned (.int .i64 (a.deep : Nat)) ∧ Below w.heap.size w w' := by
  have := rDepth a A c w hA
  rwa [if_pos (by omega)] at this
set_option maxRecDepth 100000 in
set_option maxHeartbeats 4000000 in
theorem treeTells (a b : Nd) (A B : Option Addr) (c d : Nat) (w : World) (hA : KidsAt w (fun g => g < w.heap.size) a.kids A) (hB : KidsAt w (fun g => g < w.heap.size) b.kids B) (hl : LexLib w) (hg : ErrT w) :
    Calls Tryz.prog 4 #[.agg #[.int .i64 a.f.k, .int .i64 a.f.vk, .int .i64 a.f.vn, .string a.f.vs, .int .i64 a.f.r1, .int .i64 a.f.r2, .int .i64 a.f.r3, .int .i64 a.f.r4, .string a.f.op, .slice A a.kids.len c], .agg #[.int .i64 b.f.k, .int .i64 b.f.vk, .int .i64 b.f.vn, .string b.f.vs, .int .i64 b.f.r1, .int .i64 b.f.r2, .int .i64 b.f.r3, .int .i64 b.f.r4, .string b.f.op, .slice B b.kids.len d]] w fun e w' => e = .returned (.bool true) ∧ Below w.heap.size w w' := by
  have B0 : Below w.heap.size w ((w.alloc (.cells #[.int .i64 a.f.k, .int .i64 a.f.vk, .int .i64 a.f.vn, .string a.f.vs, .int .i64 a.f.r1, .int .i64 a.f.r2, .int .i64 a.f.r3, .int .i64 a.f.r4, .string a.f.op, .slice A a.kids.len c] 31)).alloc (.cells #[.int .i64 b.f.k, .int .i64 b.f.vk, .int .i64 b.f.vn, .string b.f.vs, .int .i64 b.f.r1, .int .i64 b.f.r2, .int .i64 b.f.r3, .int .i64 b.f.r4, .string b.f.op, .slice B b.kids.len d] 31)) := ValueC.grown.trans (ValueC.grown.mono ValueC.grown.size)
  have HW := Lib.hid (fun (W : World) (hb : Below w.heap.size w W) => cwakes W (hl.below hb) (hg.below hb))
  have HL := Lib.hid hl
  clear hl hg
  have p0 : ((w.alloc (.cells #[.int .i64 a.f.k, .int .i64 a.f.vk, .int .i64 a.f.vn, .string a.f.vs, .int .i64 a.f.r1, .int .i64 a.f.r2, .int .i64 a.f.r3, .int .i64 a.f.r4, .string a.f.op, .slice A a.kids.len c] 31)).alloc (.cells #[.int .i64 b.f.k, .int .i64 b.f.vk, .int .i64 b.f.vn, .string b.f.vs, .int .i64 b.f.r1, .int .i64 b.f.r2, .int .i64 b.f.r3, .int .i64 b.f.r4, .string b.f.op, .slice B b.kids.len d] 31)).cell? ⟨w.heap.size, 0, none⟩ = some (.int .i64 a.f.k) := by simp [go_sem]
  have p1 : ((w.alloc (.cells #[.int .i64 a.f.k, .int .i64 a.f.vk, .int .i64 a.f.vn, .string a.f.vs, .int .i64 a.f.r1, .int .i64 a.f.r2, .int .i64 a.f.r3, .int .i64 a.f.r4, .string a.f.op, .slice A a.kids.len c] 31)).alloc (.cells #[.int .i64 b.f.k, .int .i64 b.f.vk, .int .i64 b.f.vn, .string b.f.vs, .int .i64 b.f.r1, .int .i64 b.f.r2, .int .i64 b.f.r3, .int .i64 b.f.r4, .string b.f.op, .slice B b.kids.len d] 31)).cell? ⟨w.heap.size, 1, none⟩ = some (.int .i64 a.f.vk) := by simp [go_sem]
  have p2 : ((w.alloc (.cells #[.int .i64 a.f.k, .int .i64 a.f.vk, .int .i64 a.f.vn, .string a.f.vs, .int .i64 a.f.r1, .int .i64 a.f.r2, .int .i64 a.f.r3, .int .i64 a.f.r4, .string a.f.op, .slice A a.kids.len c] 31)).alloc (.cells #[.int .i64 b.f.k, .int .i64 b.f.vk, .int .i64 b.f.vn, .string b.f.vs, .int .i64 b.f.r1, .int .i64 b.f.r2, .int .i64 b.f.r3, .int .i64 b.f.r4, .string b.f.op, .slice B b.kids.len d] 31)).cell? ⟨w.heap.size, 2, none⟩ = some (.int .i64 a.f.vn) := by simp [go_sem]
  have p3 : ((w.alloc (.cells #[.int .i64 a.f.k, .int .i64 a.f.vk, .int .i64 a.f.vn, .string a.f.vs, .int .i64 a.f.r1, .int .i64 a.f.r2, .int .i64 a.f.r3, .int .i64 a.f.r4, .string a.f.op, .slice A a.kids.len c] 31)).alloc (.cells #[.int .i64 b.f.k, .int .i64 b.f.vk, .int .i64 b.f.vn, .string b.f.vs, .int .i64 b.f.r1, .int .i64 b.f.r2, .int .i64 b.f.r3, .int .i64 b.f.r4, .string b.f.op, .slice B b.kids.len d] 31)).cell? ⟨w.heap.size, 3, none⟩ = some (.string a.f.vs) := by simp [go_sem]
  have p4 : ((w.alloc (.cells #[.int .i64 a.f.k, .int .i64 a.f.vk, .int .i64 a.f.vn, .string a.f.vs, .int .i64 a.f.r1, .int .i64 a.f.r2, .int .i64 a.f.r3, .int .i64 a.f.r4, .string a.f.op, .slice A a.kids.len c] 31)).alloc (.cells #[.int .i64 b.f.k, .int .i64 b.f.vk, .int .i64 b.f.vn, .string b.f.vs, .int .i64 b.f.r1, .int .i64 b.f.r2, .int .i64 b.f.r3, .int .i64 b.f.r4, .string b.f.op, .slice B b.kids.len d] 31)).cell? ⟨w.heap.size, 4, none⟩ = some (.int .i64 a.f.r1) := by simp [go_sem]
  have p5 : ((w.alloc (.cells #[.int .i64 a.f.k, .int .i64 a.f.vk, .int .i64 a.f.vn, .string a.f.vs, .int .i64 a.f.r1, .int .i64 a.f.r2, .int .i64 a.f.r3, .int .i64 a.f.r4, .string a.f.op, .slice A a.kids.len c] 31)).alloc (.cells #[.int .i64 b.f.k, .int .i64 b.f.vk, .int .i64 b.f.vn, .string b.f.vs, .int .i64 b.f.r1, .int .i64 b.f.r2, .int .i64 b.f.r3, .int .i64 b.f.r4, .string b.f.op, .slice B b.kids.len d] 31)).cell? ⟨w.heap.size, 5, none⟩ = some (.int .i64 a.f.r2) := by simp [go_sem]
  have p6 : ((w.alloc (.cells #[.int .i64 a.f.k, .int .i64 a.f.vk, .int .i64 a.f.vn, .string a.f.vs, .int .i64 a.f.r1, .int .i64 a.f.r2, .int .i64 a.f.r3, .int .i64 a.f.r4, .string a.f.op, .slice A a.kids.len c] 31)).alloc (.cells #[.int .i64 b.f.k, .int .i64 b.f.vk, .int .i64 b.f.vn, .string b.f.vs, .int .i64 b.f.r1, .int .i64 b.f.r2, .int .i64 b.f.r3, .int .i64 b.f.r4, .string b.f.op, .slice B b.kids.len d] 31)).cell? ⟨w.heap.size, 6, none⟩ = some (.int .i64 a.f.r3) := by simp [go_sem]
  have p7 : ((w.alloc (.cells #[.int .i64 a.f.k, .int .i64 a.f.vk, .int .i64 a.f.vn, .string a.f.vs, .int .i64 a.f.r1, .int .i64 a.f.r2, .int .i64 a.f.r3, .int .i64 a.f.r4, .string a.f.op, .slice A a.kids.len c] 31)).alloc (.cells #[.int .i64 b.f.k, .int .i64 b.f.vk, .int .i64 b.f.vn, .string b.f.vs, .int .i64 b.f.r1, .int .i64 b.f.r2, .int .i64 b.f.r3, .int .i64 b.f.r4, .string b.f.op, .slice B b.kids.len d] 31)).cell? ⟨w.heap.size, 7, none⟩ = some (.int .i64 a.f.r4) := by simp [go_sem]
  have p8 : ((w.alloc (.cells #[.int .i64 a.f.k, .int .i64 a.f.vk, .int .i64 a.f.vn, .string a.f.vs, .int .i64 a.f.r1, .int .i64 a.f.r2, .int .i64 a.f.r3, .int .i64 a.f.r4, .string a.f.op, .slice A a.kids.len c] 31)).alloc (.cells #[.int .i64 b.f.k, .int .i64 b.f.vk, .int .i64 b.f.vn, .string b.f.vs, .int .i64 b.f.r1, .int .i64 b.f.r2, .int .i64 b.f.r3, .int .i64 b.f.r4, .string b.f.op, .slice B b.kids.len d] 31)).cell? ⟨w.heap.size, 8, none⟩ = some (.string a.f.op) := by simp [go_sem]
  have p9 : ((w.alloc (.cells #[.int .i64 a.f.k, .int .i64 a.f.vk, .int .i64 a.f.vn, .string a.f.vs, .int .i64 a.f.r1, .int .i64 a.f.r2, .int .i64 a.f.r3, .int .i64 a.f.r4, .string a.f.op, .slice A a.kids.len c] 31)).alloc (.cells #[.int .i64 b.f.k, .int .i64 b.f.vk, .int .i64 b.f.vn, .string b.f.vs, .int .i64 b.f.r1, .int .i64 b.f.r2, .int .i64 b.f.r3, .int .i64 b.f.r4, .string b.f.op, .slice B b.kids.len d] 31)).cell? ⟨w.heap.size, 9, none⟩ = some (.slice A a.kids.len c) := by simp [go_sem]
  have q0 : ((w.alloc (.cells #[.int .i64 a.f.k, .int .i64 a.f.vk, .int .i64 a.f.vn, .string a.f.vs, .int .i64 a.f.r1, .int .i64 a.f.r2, .int .i64 a.f.r3, .int .i64 a.f.r4, .string a.f.op, .slice A a.kids.len c] 31)).alloc (.cells #[.int .i64 b.f.k, .int .i64 b.f.vk, .int .i64 b.f.vn, .string b.f.vs, .int .i64 b.f.r1, .int .i64 b.f.r2, .int .i64 b.f.r3, .int .i64 b.f.r4, .string b.f.op, .slice B b.kids.len d] 31)).cell? ⟨w.heap.size + 1, 0, none⟩ = some (.int .i64 b.f.k) := by simp [go_sem]
  have q1 : ((w.alloc (.cells #[.int .i64 a.f.k, .int .i64 a.f.vk, .int .i64 a.f.vn, .string a.f.vs, .int .i64 a.f.r1, .int .i64 a.f.r2, .int .i64 a.f.r3, .int .i64 a.f.r4, .string a.f.op, .slice A a.kids.len c] 31)).alloc (.cells #[.int .i64 b.f.k, .int .i64 b.f.vk, .int .i64 b.f.vn, .string b.f.vs, .int .i64 b.f.r1, .int .i64 b.f.r2, .int .i64 b.f.r3, .int .i64 b.f.r4, .string b.f.op, .slice B b.kids.len d] 31)).cell? ⟨w.heap.size + 1, 1, none⟩ = some (.int .i64 b.f.vk) := by simp [go_sem]
  have q2 : ((w.alloc (.cells #[.int .i64 a.f.k, .int .i64 a.f.vk, .int .i64 a.f.vn, .string a.f.vs, .int .i64 a.f.r1, .int .i64 a.f.r2, .int .i64 a.f.r3, .int .i64 a.f.r4, .string a.f.op, .slice A a.kids.len c] 31)).alloc (.cells #[.int .i64 b.f.k, .int .i64 b.f.vk, .int .i64 b.f.vn, .string b.f.vs, .int .i64 b.f.r1, .int .i64 b.f.r2, .int .i64 b.f.r3, .int .i64 b.f.r4, .string b.f.op, .slice B b.kids.len d] 31)).cell? ⟨w.heap.size + 1, 2, none⟩ = some (.int .i64 b.f.vn) := by simp [go_sem]
  have q3 : ((w.alloc (.cells #[.int .i64 a.f.k, .int .i64 a.f.vk, .int .i64 a.f.vn, .string a.f.vs, .int .i64 a.f.r1, .int .i64 a.f.r2, .int .i64 a.f.r3, .int .i64 a.f.r4, .string a.f.op, .slice A a.kids.len c] 31)).alloc (.cells #[.int .i64 b.f.k, .int .i64 b.f.vk, .int .i64 b.f.vn, .string b.f.vs, .int .i64 b.f.r1, .int .i64 b.f.r2, .int .i64 b.f.r3, .int .i64 b.f.r4, .string b.f.op, .slice B b.kids.len d] 31)).cell? ⟨w.heap.size + 1, 3, none⟩ = some (.string b.f.vs) := by simp [go_sem]
  have q4 : ((w.alloc (.cells #[.int .i64 a.f.k, .int .i64 a.f.vk, .int .i64 a.f.vn, .string a.f.vs, .int .i64 a.f.r1, .int .i64 a.f.r2, .int .i64 a.f.r3, .int .i64 a.f.r4, .string a.f.op, .slice A a.kids.len c] 31)).alloc (.cells #[.int .i64 b.f.k, .int .i64 b.f.vk, .int .i64 b.f.vn, .string b.f.vs, .int .i64 b.f.r1, .int .i64 b.f.r2, .int .i64 b.f.r3, .int .i64 b.f.r4, .string b.f.op, .slice B b.kids.len d] 31)).cell? ⟨w.heap.size + 1, 4, none⟩ = some (.int .i64 b.f.r1) := by simp [go_sem]
  have q5 : ((w.alloc (.cells #[.int .i64 a.f.k, .int .i64 a.f.vk, .int .i64 a.f.vn, .string a.f.vs, .int .i64 a.f.r1, .int .i64 a.f.r2, .int .i64 a.f.r3, .int .i64 a.f.r4, .string a.f.op, .slice A a.kids.len c] 31)).alloc (.cells #[.int .i64 b.f.k, .int .i64 b.f.vk, .int .i64 b.f.vn, .string b.f.vs, .int .i64 b.f.r1, .int .i64 b.f.r2, .int .i64 b.f.r3, .int .i64 b.f.r4, .string b.f.op, .slice B b.kids.len d] 31)).cell? ⟨w.heap.size + 1, 5, none⟩ = some (.int .i64 b.f.r2) := by simp [go_sem]
  have q6 : ((w.alloc (.cells #[.int .i64 a.f.k, .int .i64 a.f.vk, .int .i64 a.f.vn, .string a.f.vs, .int .i64 a.f.r1, .int .i64 a.f.r2, .int .i64 a.f.r3, .int .i64 a.f.r4, .string a.f.op, .slice A a.kids.len c] 31)).alloc (.cells #[.int .i64 b.f.k, .int .i64 b.f.vk, .int .i64 b.f.vn, .string b.f.vs, .int .i64 b.f.r1, .int .i64 b.f.r2, .int .i64 b.f.r3, .int .i64 b.f.r4, .string b.f.op, .slice B b.kids.len d] 31)).cell? ⟨w.heap.size + 1, 6, none⟩ = some (.int .i64 b.f.r3) := by simp [go_sem]
  have q7 : ((w.alloc (.cells #[.int .i64 a.f.k, .int .i64 a.f.vk, .int .i64 a.f.vn, .string a.f.vs, .int .i64 a.f.r1, .int .i64 a.f.r2, .int .i64 a.f.r3, .int .i64 a.f.r4, .string a.f.op, .slice A a.kids.len c] 31)).alloc (.cells #[.int .i64 b.f.k, .int .i64 b.f.vk, .int .i64 b.f.vn, .string b.f.vs, .int .i64 b.f.r1, .int .i64 b.f.r2, .int .i64 b.f.r3, .int .i64 b.f.r4, .string b.f.op, .slice B b.kids.len d] 31)).cell? ⟨w.heap.size + 1, 7, none⟩ = some (.int .i64 b.f.r4) := by simp [go_sem]
  have q8 : ((w.alloc (.cells #[.int .i64 a.f.k, .int .i64 a.f.vk, .int .i64 a.f.vn, .string a.f.vs, .int .i64 a.f.r1, .int .i64 a.f.r2, .int .i64 a.f.r3, .int .i64 a.f.r4, .string a.f.op, .slice A a.kids.len c] 31)).alloc (.cells #[.int .i64 b.f.k, .int .i64 b.f.vk, .int .i64 b.f.vn, .string b.f.vs, .int .i64 b.f.r1, .int .i64 b.f.r2, .int .i64 b.f.r3, .int .i64 b.f.r4, .string b.f.op, .slice B b.kids.len d] 31)).cell? ⟨w.heap.size + 1, 8, none⟩ = some (.string b.f.op) := by simp [go_sem]
  have q9 : ((w.alloc (.cells #[.int .i64 a.f.k, .int .i64 a.f.vk, .int .i64 a.f.vn, .string a.f.vs, .int .i64 a.f.r1, .int .i64 a.f.r2, .int .i64 a.f.r3, .int .i64 a.f.r4, .string a.f.op, .slice A a.kids.len c] 31)).alloc (.cells #[.int .i64 b.f.k, .int .i64 b.f.vk, .int .i64 b.f.vn, .string b.f.vs, .int .i64 b.f.r1, .int .i64 b.f.r2, .int .i64 b.f.r3, .int .i64 b.f.r4, .string b.f.op, .slice B b.kids.len d] 31)).cell? ⟨w.heap.size + 1, 9, none⟩ = some (.slice B b.kids.len d) := by simp [go_sem]
  go_enter Tryz.func4, Tryz.ntmps4
  go_wp2_with fail
  generalize ((w.alloc (.cells #[.int .i64 a.f.k, .int .i64 a.f.vk, .int .i64 a.f.vn, .string a.f.vs, .int .i64 a.f.r1, .int .i64 a.f.r2, .int .i64 a.f.r3, .int .i64 a.f.r4, .string a.f.op, .slice A a.kids.len c] 31)).alloc (.cells #[.int .i64 b.f.k, .int .i64 b.f.vk, .int .i64 b.f.vn, .string b.f.vs, .int .i64 b.f.r1, .int .i64 b.f.r2, .int .i64 b.f.r3, .int .i64 b.f.r4, .string b.f.op, .slice B b.kids.len d] 31)) = W0 at *
  have KA0 := kids_in hA B0
  have KB0 := kids_in hB B0
  refine (klarge a A c W0 KA0).mono ?_; rintro e w1 ⟨la, rfl, hb1, hla⟩
  replace p0 := cell_later hb1 p0
  replace p1 := cell_later hb1 p1
  replace p2 := cell_later hb1 p2
  replace p3 := cell_later hb1 p3
  replace p4 := cell_later hb1 p4
  replace p5 := cell_later hb1 p5
  replace p6 := cell_later hb1 p6
  replace p7 := cell_later hb1 p7
  replace p8 := cell_later hb1 p8
  replace p9 := cell_later hb1 p9
  replace q0 := cell_later hb1 q0
  replace q1 := cell_later hb1 q1
  replace q2 := cell_later hb1 q2
  replace q3 := cell_later hb1 q3
  replace q4 := cell_later hb1 q4
  replace q5 := cell_later hb1 q5
  replace q6 := cell_later hb1 q6
  replace q7 := cell_later hb1 q7
  replace q8 := cell_later hb1 q8
  replace q9 := cell_later hb1 q9
  have B1 := B0.trans (hb1.mono B0.size)
  cases la
  case true =>
    go_wp2_with fail
    refine (HW.out _ B1).mono ?_; rintro e w2 ⟨rfl, hb2⟩
    go_wp2_with fail
    go_ret
    exact ⟨ret1 rfl, B1.trans (hb2.mono B1.size)⟩
  case false =>
  obtain ⟨sa, ha⟩ := hla rfl
  clear hla
  go_wp2_with fail
  refine (klarge b B d w1 (kids_in hB B1)).mono ?_; rintro e w2 ⟨lb, rfl, hb2, hlb⟩
  replace p0 := cell_later hb2 p0
  replace p1 := cell_later hb2 p1
  replace p2 := cell_later hb2 p2
  replace p3 := cell_later hb2 p3
  replace p4 := cell_later hb2 p4
  replace p5 := cell_later hb2 p5
  replace p6 := cell_later hb2 p6
  replace p7 := cell_later hb2 p7
  replace p8 := cell_later hb2 p8
  replace p9 := cell_later hb2 p9
  replace q0 := cell_later hb2 q0
  replace q1 := cell_later hb2 q1
  replace q2 := cell_later hb2 q2
  replace q3 := cell_later hb2 q3
  replace q4 := cell_later hb2 q4
  replace q5 := cell_later hb2 q5
  replace q6 := cell_later hb2 q6
  replace q7 := cell_later hb2 q7
  replace q8 := cell_later hb2 q8
  replace q9 := cell_later hb2 q9
  have B2 := B1.trans (hb2.mono B1.size)
  cases lb
  case true =>
    go_wp2_with fail
    refine (HW.out _ B2).mono ?_; rintro e w3 ⟨rfl, hb3⟩
    go_wp2_with fail
    go_ret
    exact ⟨ret1 rfl, B2.trans (hb3.mono B2.size)⟩
  case false =>
  obtain ⟨sb, -⟩ := hlb rfl
  clear hlb
  go_wp2_with fail
  refine (cCopy a A c w2 (by omega) ha (kids_in hA B2)).mono ?_; rintro e w3 ⟨A3, c3, rfl, hb3, hk3⟩
  replace p0 := cell_later hb3 p0
  replace p1 := cell_later hb3 p1
  replace p2 := cell_later hb3 p2
  replace p3 := cell_later hb3 p3
  replace p4 := cell_later hb3 p4
  replace p5 := cell_later hb3 p5
  replace p6 := cell_later hb3 p6
  replace p7 := cell_later hb3 p7
  replace p8 := cell_later hb3 p8
  replace p9 := cell_later hb3 p9
  replace q0 := cell_later hb3 q0
  replace q1 := cell_later hb3 q1
  replace q2 := cell_later hb3 q2
  replace q3 := cell_later hb3 q3
  replace q4 := cell_later hb3 q4
  replace q5 := cell_later hb3 q5
  replace q6 := cell_later hb3 q6
  replace q7 := cell_later hb3 q7
  replace q8 := cell_later hb3 q8
  replace q9 := cell_later hb3 q9
  have B3 := B2.trans (hb3.mono B2.size)
  have g3 : Below w3.heap.size w3 (w3.alloc (.cells #[.int .i64 a.f.k, .int .i64 a.f.vk, .int .i64 a.f.vn, .string a.f.vs, .int .i64 a.f.r1, .int .i64 a.f.r2, .int .i64 a.f.r3, .int .i64 a.f.r4, .string a.f.op, .slice A3 a.kids.len c3] 31)) := ValueC.grown
  replace p0 := cell_later g3 p0
  replace p1 := cell_later g3 p1
  replace p2 := cell_later g3 p2
  replace p3 := cell_later g3 p3
  replace p4 := cell_later g3 p4
  replace p5 := cell_later g3 p5
  replace p6 := cell_later g3 p6
  replace p7 := cell_later g3 p7
  replace p8 := cell_later g3 p8
  replace p9 := cell_later g3 p9
  replace q0 := cell_later g3 q0
  replace q1 := cell_later g3 q1
  replace q2 := cell_later g3 q2
  replace q3 := cell_later g3 q3
  replace q4 := cell_later g3 q4
  replace q5 := cell_later g3 q5
  replace q6 := cell_later g3 q6
  replace q7 := cell_later g3 q7
  replace q8 := cell_later g3 q8
  replace q9 := cell_later g3 q9
  have o0 : (w3.alloc (.cells #[.int .i64 a.f.k, .int .i64 a.f.vk, .int .i64 a.f.vn, .string a.f.vs, .int .i64 a.f.r1, .int .i64 a.f.r2, .int .i64 a.f.r3, .int .i64 a.f.r4, .string a.f.op, .slice A3 a.kids.len c3] 31)).cell? ⟨w3.heap.size, 0, none⟩ = some (.int .i64 a.f.k) := by simp [go_sem]
  have o1 : (w3.alloc (.cells #[.int .i64 a.f.k, .int .i64 a.f.vk, .int .i64 a.f.vn, .string a.f.vs, .int .i64 a.f.r1, .int .i64 a.f.r2, .int .i64 a.f.r3, .int .i64 a.f.r4, .string a.f.op, .slice A3 a.kids.len c3] 31)).cell? ⟨w3.heap.size, 1, none⟩ = some (.int .i64 a.f.vk) := by simp [go_sem]
  have o2 : (w3.alloc (.cells #[.int .i64 a.f.k, .int .i64 a.f.vk, .int .i64 a.f.vn, .string a.f.vs, .int .i64 a.f.r1, .int .i64 a.f.r2, .int .i64 a.f.r3, .int .i64 a.f.r4, .string a.f.op, .slice A3 a.kids.len c3] 31)).cell? ⟨w3.heap.size, 2, none⟩ = some (.int .i64 a.f.vn) := by simp [go_sem]
  have o3 : (w3.alloc (.cells #[.int .i64 a.f.k, .int .i64 a.f.vk, .int .i64 a.f.vn, .string a.f.vs, .int .i64 a.f.r1, .int .i64 a.f.r2, .int .i64 a.f.r3, .int .i64 a.f.r4, .string a.f.op, .slice A3 a.kids.len c3] 31)).cell? ⟨w3.heap.size, 3, none⟩ = some (.string a.f.vs) := by simp [go_sem]
  have o4 : (w3.alloc (.cells #[.int .i64 a.f.k, .int .i64 a.f.vk, .int .i64 a.f.vn, .string a.f.vs, .int .i64 a.f.r1, .int .i64 a.f.r2, .int .i64 a.f.r3, .int .i64 a.f.r4, .string a.f.op, .slice A3 a.kids.len c3] 31)).cell? ⟨w3.heap.size, 4, none⟩ = some (.int .i64 a.f.r1) := by simp [go_sem]
  have o5 : (w3.alloc (.cells #[.int .i64 a.f.k, .int .i64 a.f.vk, .int .i64 a.f.vn, .string a.f.vs, .int .i64 a.f.r1, .int .i64 a.f.r2, .int .i64 a.f.r3, .int .i64 a.f.r4, .string a.f.op, .slice A3 a.kids.len c3] 31)).cell? ⟨w3.heap.size, 5, none⟩ = some (.int .i64 a.f.r2) := by simp [go_sem]
  have o6 : (w3.alloc (.cells #[.int .i64 a.f.k, .int .i64 a.f.vk, .int .i64 a.f.vn, .string a.f.vs, .int .i64 a.f.r1, .int .i64 a.f.r2, .int .i64 a.f.r3, .int .i64 a.f.r4, .string a.f.op, .slice A3 a.kids.len c3] 31)).cell? ⟨w3.heap.size, 6, none⟩ = some (.int .i64 a.f.r3) := by simp [go_sem]
  have o7 : (w3.alloc (.cells #[.int .i64 a.f.k, .int .i64 a.f.vk, .int .i64 a.f.vn, .string a.f.vs, .int .i64 a.f.r1, .int .i64 a.f.r2, .int .i64 a.f.r3, .int .i64 a.f.r4, .string a.f.op, .slice A3 a.kids.len c3] 31)).cell? ⟨w3.heap.size, 7, none⟩ = some (.int .i64 a.f.r4) := by simp [go_sem]
  have o8 : (w3.alloc (.cells #[.int .i64 a.f.k, .int .i64 a.f.vk, .int .i64 a.f.vn, .string a.f.vs, .int .i64 a.f.r1, .int .i64 a.f.r2, .int .i64 a.f.r3, .int .i64 a.f.r4, .string a.f.op, .slice A3 a.kids.len c3] 31)).cell? ⟨w3.heap.size, 8, none⟩ = some (.string a.f.op) := by simp [go_sem]
  have o9 : (w3.alloc (.cells #[.int .i64 a.f.k, .int .i64 a.f.vk, .int .i64 a.f.vn, .string a.f.vs, .int .i64 a.f.r1, .int .i64 a.f.r2, .int .i64 a.f.r3, .int .i64 a.f.r4, .string a.f.op, .slice A3 a.kids.len c3] 31)).cell? ⟨w3.heap.size, 9, none⟩ = some (.slice A3 a.kids.len c3) := by simp [go_sem]
  replace p0 := Gr.cell _ _ _ (Below.refl _ _) p0
  replace p1 := Gr.cell _ _ _ (Below.refl _ _) p1
  replace p2 := Gr.cell _ _ _ (Below.refl _ _) p2
  replace p3 := Gr.cell _ _ _ (Below.refl _ _) p3
  replace p4 := Gr.cell _ _ _ (Below.refl _ _) p4
  replace p5 := Gr.cell _ _ _ (Below.refl _ _) p5
  replace p6 := Gr.cell _ _ _ (Below.refl _ _) p6
  replace p7 := Gr.cell _ _ _ (Below.refl _ _) p7
  replace p8 := Gr.cell _ _ _ (Below.refl _ _) p8
  replace p9 := Gr.cell _ _ _ (Below.refl _ _) p9
  replace q0 := Gr.cell _ _ _ (Below.refl _ _) q0
  replace q1 := Gr.cell _ _ _ (Below.refl _ _) q1
  replace q2 := Gr.cell _ _ _ (Below.refl _ _) q2
  replace q3 := Gr.cell _ _ _ (Below.refl _ _) q3
  replace q4 := Gr.cell _ _ _ (Below.refl _ _) q4
  replace q5 := Gr.cell _ _ _ (Below.refl _ _) q5
  replace q6 := Gr.cell _ _ _ (Below.refl _ _) q6
  replace q7 := Gr.cell _ _ _ (Below.refl _ _) q7
  replace q8 := Gr.cell _ _ _ (Below.refl _ _) q8
  replace q9 := Gr.cell _ _ _ (Below.refl _ _) q9
  replace o0 := Gr.cell _ _ _ (Below.refl _ _) o0
  replace o1 := Gr.cell _ _ _ (Below.refl _ _) o1
  replace o2 := Gr.cell _ _ _ (Below.refl _ _) o2
  replace o3 := Gr.cell _ _ _ (Below.refl _ _) o3
  replace o4 := Gr.cell _ _ _ (Below.refl _ _) o4
  replace o5 := Gr.cell _ _ _ (Below.refl _ _) o5
  replace o6 := Gr.cell _ _ _ (Below.refl _ _) o6
  replace o7 := Gr.cell _ _ _ (Below.refl _ _) o7
  replace o8 := Gr.cell _ _ _ (Below.refl _ _) o8
  replace o9 := Gr.cell _ _ _ (Below.refl _ _) o9
  have B4 := B3.trans (g3.mono B3.size)
  have KC : KidsAt (w3.alloc (.cells #[.int .i64 a.f.k, .int .i64 a.f.vk, .int .i64 a.f.vn, .string a.f.vs, .int .i64 a.f.r1, .int .i64 a.f.r2, .int .i64 a.f.r3, .int .i64 a.f.r4, .string a.f.op, .slice A3 a.kids.len c3] 31)) (fun g => g < (w3.alloc (.cells #[.int .i64 a.f.k, .int .i64 a.f.vk, .int .i64 a.f.vn, .string a.f.vs, .int .i64 a.f.r1, .int .i64 a.f.r2, .int .i64 a.f.r3, .int .i64 a.f.r4, .string a.f.op, .slice A3 a.kids.len c3] 31)).heap.size) a.kids A3 := hk3.keep (y := w3.heap.size) (Kept.of g3) (fun g hg hlt => ⟨by omega, by simp; omega⟩)
  go_wp2_with fail
  generalize (w3.alloc (.cells #[.int .i64 a.f.k, .int .i64 a.f.vk, .int .i64 a.f.vn, .string a.f.vs, .int .i64 a.f.r1, .int .i64 a.f.r2, .int .i64 a.f.r3, .int .i64 a.f.r4, .string a.f.op, .slice A3 a.kids.len c3] 31)) = W at *
  have LG : ∀ u : Gr W, LexLib u.now := fun u => HL.out.below (B4.trans (u.below.mono B4.size))
  have WG : ∀ u : Gr W, Below w.heap.size w u.now := fun u => B4.trans (u.below.mono B4.size)
  have KG : ∀ u : Gr W, KidsAt u.now (fun g => g < u.now.heap.size) a.kids A := fun u => kids_in hA (WG u)
  have KH : ∀ u : Gr W, KidsAt u.now (fun g => g < u.now.heap.size) b.kids B := fun u => kids_in hB (WG u)
  have KI : ∀ u : Gr W, KidsAt u.now (fun g => g < u.now.heap.size) a.kids A3 := fun u => below_row KC u.below
  have HG := Lib.hid (fun (u : Gr W) => cGood fitsB fits_all a A c u.now (by omega) (LG u) (KG u))
  have HR := Lib.hid (fun (u : Gr W) => rGood a A c u.now (by omega) ha (KG u))
  generalize goodT fitsB a = G at *
  have HD := Lib.hid (fun (u : Gr W) => cDepthN a A c u.now sa (KG u))
  have HE := Lib.hid (fun (u : Gr W) => rDepthN a A c u.now sa (KG u))
  have HS := Lib.hid (fun (u : Gr W) => cSame a b A B c d u.now (by omega) (by omega) (KG u) (KH u))
  have HN := Lib.hid (fun (u : Gr W) => knodeG a b A B c d u.now sa sb (KG u) (KH u))
  generalize decide (a = b) = E at *
  have HT := Lib.hid (fun (u : Gr W) => cSameA a A A c c u.now sa (KG u) (KG u))
  have HC := Lib.hid (fun (u : Gr W) => knodeA a A3 A c3 c u.now sa (KI u) (KG u))
  have HX := Lib.hid (fun (u : Gr W) => HW.out u.now (WG u))
  clear LG KG KH KI KC hk3 hA hB HW ha hb1 hb2 hb3 g3 B1 B2 B3 KA0 KB0
  refine region_grown (by kernel_rfl) (by kernel_rfl) ?_
  repeat (go_big_quiet_step (first
    | (go_at_call 15; exact grown_of (HG.out _))
    | (go_at_call 16; exact grown_of (HR.out _))
    | (go_at_call 17; exact grown_of (HD.out _))
    | (go_at_call 18; exact grown_of (HE.out _))
    | (go_at_call 19; first | with_reducible exact grown_of (HS.out _) | with_reducible exact grown_of (HT.out _))
    | (go_at_call 12; first | with_reducible exact grown_of (HN.out _) | with_reducible exact grown_of (HC.out _))
    | (go_at_call 9; exact grown_of (HX.out _))))
  refine wpQuiet_nil ?_
  intro w5 hw5; obtain ⟨u, rfl⟩ := hw5
  go_wp2_with fail
  go_ret
  exact ⟨ret1 rfl, WG u⟩
end Go.Proofs.YtkdgiadpmfpjnaaGreatDoor.TreeC
