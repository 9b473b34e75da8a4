/-
  Contracts of tree's reference: every part at each nesting.
-/
import Derived.Test.YticehalcnbjccaaGreatDoorRTreeO
namespace Go.Proofs.YticehalcnbjccaaGreatDoor.TreeC
set_option maxRecDepth 100000
set_option maxHeartbeats 8000000
set_option linter.unusedVariables false
open Go.RowKit NumC LexC
open Tryz
theorem rcall {x : Nat} {lv : Value} {l : List Tok} {en nest : Int} {L : Lev} {into : Bool} {k : Nat} {t : Tok} (w : World) (h : Pre w x lv l en k nest 0 0) (hl : l.length ≤ 300) (hk : k ≤ 299) (hn0 : 0 ≤ nest) (hn1 : nest ≤ 40) (hi : into = decide (nest < 40)) (hL : LGoes l L) (hc : into = true → Con1 x lv l en (nest + 1) L) :
   Calls prog 197 #[.pointer (some ⟨x, 0, none⟩), tokV t] w (PPost x lv l en nest (callF l en L into t k) w) := by
 by_cases h8 : 8 < t.s.size
 · exact rcall_long w h hl hk h8
 · cases hs : isSign l (k + 2) [41] with
   | true => exact rcall_none w h hl hk h8 hs
   | false => exact rcall_args w h hl hk hn0 hn1 hi hL hc h8 hs
structure Env1 (x : Nat) (lv : Value) (l : List Tok) (en nest : Int) (L : Lev) (into : Bool) : Prop where
 hl : l.length ≤ 300
 hn0 : 0 ≤ nest
 hn1 : nest ≤ 40
 hi : into = decide (nest < 40)
 hc : into = true → Con1 x lv l en (nest + 1) L
 hts : ∀ u ∈ l, u.s.size ≤ 1000000
 hL : LGoes l L
section
variable {x : Nat} {lv : Value} {l : List Tok} {en nest : Int} {L : Lev} {into : Bool} (E : Env1 x lv l en nest L into)
include E
theorem qpart (k : Nat) (w : World) (hk : k ≤ 301) (h : Pre w x lv l en k nest 0 0) : Calls prog 162 #[.pointer (some ⟨x, 0, none⟩)] w (PPost x lv l en nest (partF l en L into k) w) :=
 rpart w h E.hl hk E.hn0 E.hn1 E.hi E.hL E.hc fun t w ht h => by
   have hlt : k < l.length := (List.getElem?_eq_some_iff.1 ht).1
   have hl := E.hl
   exact rname w h E.hl (by omega) E.hts ht fun hs w h => rcall w h E.hl (by have := sign_lt hs; omega) E.hn0 E.hn1 E.hi E.hL E.hc
theorem qunary (k : Nat) (w : World) (hk : k ≤ 301) (h : Pre w x lv l en k nest 0 0) : Calls prog 136 #[.pointer (some ⟨x, 0, none⟩)] w (PPost x lv l en nest (unaryF l en L into k) w) :=
 runary1 w h E.hl hk E.hn0 E.hn1 E.hi E.hc fun w h => qpart E k w hk h
theorem qpower (k : Nat) (w : World) (hk : k ≤ 301) (h : Pre w x lv l en k nest 0 0) : Calls prog 104 #[.pointer (some ⟨x, 0, none⟩)] w (PPost x lv l en nest (powerF l en L into k) w) :=
 rpower1 w h E.hl hk E.hn0 E.hn1 E.hi E.hL E.hc fun w h => qunary E k w hk h
theorem qproduct (k : Nat) (w : World) (hk : k ≤ 301) (h : Pre w x lv l en k nest 0 0) : Calls prog 85 #[.pointer (some ⟨x, 0, none⟩)] w (PPost x lv l en nest (productF l en L into k) w) :=
 rproduct w h E.hl hk E.hL fun k w hk h => qpower E k w hk h
theorem qsum (k : Nat) (w : World) (hk : k ≤ 301) (h : Pre w x lv l en k nest 0 0) : Calls prog 54 #[.pointer (some ⟨x, 0, none⟩)] w (PPost x lv l en nest (sumF l en L into k) w) :=
 rsum w h E.hl hk E.hL fun k w hk h => qproduct E k w hk h
theorem qformula (k : Nat) (w : World) (hk : k ≤ 301) (h : Pre w x lv l en k nest 0 0) : Calls prog 30 #[.pointer (some ⟨x, 0, none⟩)] w (PPost x lv l en nest (formulaF l en L into k) w) :=
 rformula w h E.hl hk E.hL fun k w hk h => qsum E k w hk h
end
theorem rcon {x : Nat} {lv : Value} {l : List Tok} {en : Int} (hl : l.length ≤ 300) (hts : ∀ u ∈ l, u.s.size ≤ 1000000) : ∀ (r : Nat), r ≤ 40 → Con1 x lv l en (40 - (r : Int)) (lev l en (r + 1)) := by
 intro r
 induction r with
 | zero =>
   intro _
   have E : Env1 x lv l en (40 - ((0 : Nat) : Int)) (lev l en 0) (decide (1 ≤ 0)) := ⟨hl, by omega, by omega, by simp, fun h => absurd h (by decide), hts, lev_goes l en 0⟩
   exact ⟨fun k w hk h => qformula E k w hk h, fun k w hk h => qpower E k w hk h, fun k w hk h => qunary E k w hk h⟩
 | succ r ih =>
   intro hr
   have E : Env1 x lv l en (40 - ((r + 1 : Nat) : Int)) (lev l en (r + 1)) (decide (1 ≤ r + 1)) := ⟨hl, by omega, by omega, by
     rw [decide_eq_true (by omega), decide_eq_true (by omega)], fun _ => by
     have := ih (by omega)
     rw [show (40 - ((r + 1 : Nat) : Int) + 1) = 40 - (r : Int) from by omega]; exact this, hts, lev_goes l en (r + 1)⟩
   exact ⟨fun k w hk h => qformula E k w hk h, fun k w hk h => qpower E k w hk h, fun k w hk h => qunary E k w hk h⟩
theorem rtop {x : Nat} {lv : Value} {l : List Tok} {en : Int} (hl : l.length ≤ 300) (hts : ∀ u ∈ l, u.s.size ≤ 1000000) (w : World) (h : Pre w x lv l en 0 0 0 0) :
   Calls prog 30 #[.pointer (some ⟨x, 0, none⟩)] w (PPost x lv l en 0 ((lev l en 41).fm 0) w) := by
 have := (rcon (x := x) (lv := lv) (en := en) hl hts 40 (Nat.le_refl _)).fm 0 w (by omega) (by simpa using h)
 simpa using this
end Go.Proofs.YticehalcnbjccaaGreatDoor.TreeC
