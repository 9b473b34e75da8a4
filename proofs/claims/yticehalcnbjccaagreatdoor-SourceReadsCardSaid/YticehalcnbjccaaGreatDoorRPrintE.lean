/-
  Contracts of the reference: a tree's text.
-/
import Derived.Test.YticehalcnbjccaaGreatDoorRPrintB
import Derived.Test.YticehalcnbjccaaGreatDoorRTreeK8
import Derived.Test.YticehalcnbjccaaGreatDoorRNumD
import Derived.Test.YticehalcnbjccaaGreatDoorRLexA
namespace Go.Proofs.YticehalcnbjccaaGreatDoor.PrintC
set_option maxRecDepth 100000
set_option maxHeartbeats 8000000
set_option linter.unusedVariables false
open Go.RowKit NumC LexC TreeC
open Cd
open Tryz
open Lib (hid)
def RWr (a : Nd) : Prop := ∀ (A : Option Addr) (c : Nat) (w : World) (deep : Nat), deep + a.deep ≤ 21 → KidsAt w (fun g => g < w.heap.size) a.kids A →
 Calls prog 60 #[.agg (jN a.f A a.kids.len c), .int .i64 deep] w fun e w' => e = .returned (.string (str (textN a))) ∧ Below w.heap.size w w'
theorem rarg (a : Nd) (h : RWr a) (least deep : Nat) (hd : deep + a.deep ≤ 21) (hsz : (textN a).length ≤ 1000000) (A : Option Addr) (c : Nat) (w : World) (hK : KidsAt w (fun g => g < w.heap.size) a.kids A) :
   Calls prog 90 #[.agg (jN a.f A a.kids.len c), .int .i64 least, .int .i64 deep] w fun e w' => e = .returned (.string (str (closeT (textN a, rowN a) least))) ∧ Below w.heap.size w w' := by
 have hb1 : Below w.heap.size w (w.alloc (.cells (jN a.f A a.kids.len c) 31)) := (Below.refl _ _).alloc (Nat.le_refl _) _
 have L1 : NLoc (w.alloc (.cells (jN a.f A a.kids.len c) 31)) w.heap.size a.f A a.kids.len c := ⟨heap_alloc_new _ _⟩
 have HK := hid (below_row hK hb1)
 have HW := hid (fun A c w hk => h A c w deep hd hk)
 have hT : (str (textN a)).size ≤ 1000000 := by rw [str_size]; exact hsz
 have E1 : Hid (rowK a.f < least → str (closeT (textN a, rowN a) least) = { data := #[40] } ++ str (textN a) ++ { data := #[41] }) := hid (fun h => by rw [wrap_str]; unfold closeT; rw [if_pos (show (textN a, rowN a).2 < least from h)])
 have E2 : Hid (¬ rowK a.f < least → str (closeT (textN a, rowN a) least) = str (textN a)) := hid (fun h => by unfold closeT; rw [if_neg (show ¬ (textN a, rowN a).2 < least from h)])
 clear hK h hsz hd
 obtain ⟨f, kd⟩ := a
 simp only at *
 obtain ⟨d0, d1, d2, d3, d4, d5, d6, d7, d8, d9, -⟩ := L1.cells
 go_enter func90, ntmps90
 go_wp2_with fail
 generalize (w.alloc (.cells (jN f A kd.len c) 31)) = W1 at *
 refine (rrow f A kd.len c W1).mono ?_; rintro e w2 ⟨rfl, hb2⟩
 have L2 := L1.kept (Kept.of (x := W1.heap.size) hb2) (Nat.ne_of_lt L1.lt)
 have HK2 := hid (below_row HK.out hb2)
 have HB := hid (hb1.trans (hb2.mono hb1.size))
 clear d0 d1 d2 d3 d4 d5 d6 d7 d8 d9 L1 HK hb1 hb2
 obtain ⟨d0, d1, d2, d3, d4, d5, d6, d7, d8, d9, -⟩ := L2.cells
 by_cases hlt : rowK f < least
 · have t1 : ((rowK f : Nat) : Int) < (least : Int) := by omega
   have E := hid (E1.out hlt)
   clear hlt E1 E2
   go_wp2_with fail
   refine (HW.out A c w2 HK2.out).mono ?_; rintro e w3 ⟨rfl, hb3⟩
   generalize str (textN ⟨f, kd⟩) = T at *
   have s1 : ¬ 9223372036854775807 < 1 + T.size := by omega
   have s2 : ¬ 9223372036854775807 < 1 + T.size + 1 := by omega
   go_wp2_with fail
   go_ret
   exact ⟨by rw [E.out]; rfl, HB.out.trans (hb3.mono HB.out.size)⟩
 · have t1 : ¬ ((rowK f : Nat) : Int) < (least : Int) := by omega
   have E := hid (E2.out hlt)
   clear hlt E1 E2
   go_wp2_with fail
   refine (HW.out A c w2 HK2.out).mono ?_; rintro e w3 ⟨rfl, hb3⟩
   go_wp2_with fail
   go_ret
   exact ⟨by rw [E.out]; rfl, HB.out.trans (hb3.mono HB.out.size)⟩
theorem rw1 (f : Fld) (A : Option Addr) (m c deep : Nat) (w : World) (hd : deep ≤ 20) (hk : f.k = 1) (hc : constB f.vk f.vn f.vs = true) (hn : f.vn ≤ 9223372036854775807) :
   Calls prog 60 #[.agg (jN f A m c), .int .i64 deep] w fun e w' => e = .returned (.string (str (constT f.vk f.vn f.vs))) ∧ Below w.heap.size w w' := by
 have hb1 : Below w.heap.size w (w.alloc (.cells (jN f A m c) 31)) := (Below.refl _ _).alloc (Nat.le_refl _) _
 have L1 : NLoc (w.alloc (.cells (jN f A m c) 31)) w.heap.size f A m c := ⟨heap_alloc_new _ _⟩
 have t20 : ¬ (20 : Int) < (deep : Int) := by omega
 have e1 : (f.k == 1) = true := beq_iff_eq.2 hk
 have hs : (f.vk = 3 ∧ f.vs.size ≤ 200) ∨ (f.vk = 2 ∧ 0 ≤ f.vn) ∨ (f.vk = 1 ∧ (f.vn = 0 ∨ f.vn = 1)) := by
   have h := hc
   unfold constB at h
   split at h
   · rename_i h2
     rw [Bool.and_eq_true] at h
     exact Or.inr (Or.inl ⟨h2, of_decide_eq_true h.2⟩)
   · split at h
     · rename_i h3
       have hg : ValueC.GoodP ⟨f.vk, f.vn, f.vs⟩ := of_decide_eq_true h
       unfold ValueC.GoodP at hg
       simp only at hg
       rcases h3 with h3 | h3
       · exact Or.inl ⟨h3, by omega⟩
       · exact Or.inr (Or.inr ⟨h3, by omega⟩)
     · cases h
 rcases hs with ⟨h3, hsz⟩ | ⟨h2, h0⟩ | ⟨h1, hv⟩
 · have E : Hid (constT f.vk f.vn f.vs = quL f.vs.data.toList) := hid (by unfold constT; rw [if_pos h3])
   have k3 : (f.vk == 3) = true := beq_iff_eq.2 h3
   have hq : f.vs.size ≤ 1000000 := by omega
   clear hk hc hn h3 hsz
   obtain ⟨d0, d1, d2, d3, d4, d5, d6, d7, d8, d9, -⟩ := L1.cells
   go_enter func60, ntmps60
   go_wp2_with fail
   refine (rquote f.vs _ hq).mono ?_; rintro e w2 ⟨rfl, rfl⟩
   go_wp2_with fail
   go_ret
   exact ⟨by rw [E.out]; rfl, hb1⟩
 · have E : Hid (constT f.vk f.vn f.vs = Lib.itoa f.vn) := hid (by unfold constT; rw [if_neg (by omega), if_neg (by omega)])
   have k3 : (f.vk == 3) = false := beq_eq_false_iff_ne.2 (by omega)
   have k1 : (f.vk == 1) = false := beq_eq_false_iff_ne.2 (by omega)
   have hi : I64 f.vn := by unfold I64; omega
   clear hk hc hn h2 h0
   obtain ⟨d0, d1, d2, d3, d4, d5, d6, d7, d8, d9, -⟩ := L1.cells
   go_enter func60, ntmps60
   go_wp2_with fail
   refine (rdec f.vn _ hi).mono ?_; rintro e w2 ⟨rfl, rfl⟩
   go_wp2_with fail
   go_ret
   exact ⟨by rw [E.out]; rfl, hb1⟩
 · have k3 : (f.vk == 3) = false := beq_eq_false_iff_ne.2 (by omega)
   have k1 : (f.vk == 1) = true := beq_iff_eq.2 h1
   have g1 : Below (w.alloc (.cells (jN f A m c) 31)).heap.size (w.alloc (.cells (jN f A m c) 31)) ((w.alloc (.cells (jN f A m c) 31)).alloc (.cells #[.string { data := #[70, 65, 76, 83, 69] }, .string { data := #[84, 82, 85, 69] }] 9)) := (Below.refl _ _).alloc (Nat.le_refl _) _
   have hB := hb1.trans (g1.mono hb1.size)
   have L2 := L1.kept (Kept.of (x := (w.alloc (.cells (jN f A m c) 31)).heap.size) g1) (Nat.ne_of_lt L1.lt)
   have p2 := (L2.cells).2.2.1
   rcases hv with hv | hv
   · have E : Hid (constT f.vk f.vn f.vs = falT) := hid (by unfold constT; rw [if_neg (by omega), if_pos h1, if_pos hv])
     obtain ⟨d0, d1, d2, d3, d4, d5, d6, d7, d8, d9, -⟩ := L1.cells
     rw [hv] at hB E
     clear hk hc hn h1 L2 p2
     go_enter func60, ntmps60
     go_wp2_with fail
     go_ret
     exact ⟨by rw [E.out]; rfl, hB⟩
   · have E : Hid (constT f.vk f.vn f.vs = truT) := hid (by unfold constT; rw [if_neg (by omega), if_pos h1, if_neg (by omega)])
     obtain ⟨d0, d1, d2, d3, d4, d5, d6, d7, d8, d9, -⟩ := L1.cells
     rw [hv] at hB E
     clear hk hc hn h1 L2 p2
     go_enter func60, ntmps60
     go_wp2_with fail
     go_ret
     exact ⟨by rw [E.out]; rfl, hB⟩
theorem rw2 (f : Fld) (A : Option Addr) (m c deep : Nat) (w : World) (hd : deep ≤ 20) (hk : f.k = 2) :
   Calls prog 60 #[.agg (jN f A m c), .int .i64 deep] w fun e w' => e = .returned (.string (str (AddrC.nameL f.r1 f.r2))) ∧ Below w.heap.size w w' := by
 have hb1 : Below w.heap.size w (w.alloc (.cells (jN f A m c) 31)) := (Below.refl _ _).alloc (Nat.le_refl _) _
 have L1 : NLoc (w.alloc (.cells (jN f A m c) 31)) w.heap.size f A m c := ⟨heap_alloc_new _ _⟩
 have t20 : ¬ (20 : Int) < (deep : Int) := by omega
 have e1 : (f.k == 1) = false := beq_eq_false_iff_ne.2 (by omega)
 have e2 : (f.k == 2) = true := beq_iff_eq.2 hk
 clear hk
 obtain ⟨d0, d1, d2, d3, d4, d5, d6, d7, d8, d9, -⟩ := L1.cells
 go_enter func60, ntmps60
 go_wp2_with fail
 refine (AddrC.rname f.r1 f.r2 _).mono ?_; rintro e w2 ⟨rfl, hb2⟩
 go_wp2_with fail
 go_ret
 exact ⟨rfl, hb1.trans (hb2.mono hb1.size)⟩
theorem rw3 (f : Fld) (A : Option Addr) (m c deep : Nat) (w : World) (hd : deep ≤ 20) (hk : f.k = 3) (hc : AddrC.FineP f.r1 f.r2 f.r3 f.r4) :
   Calls prog 60 #[.agg (jN f A m c), .int .i64 deep] w fun e w' => e = .returned (.string (str (AddrC.nameL f.r1 f.r2 ++ 58 :: AddrC.nameL f.r3 f.r4))) ∧ Below w.heap.size w w' := by
 have hb1 : Below w.heap.size w (w.alloc (.cells (jN f A m c) 31)) := (Below.refl _ _).alloc (Nat.le_refl _) _
 have L1 : NLoc (w.alloc (.cells (jN f A m c) 31)) w.heap.size f A m c := ⟨heap_alloc_new _ _⟩
 have t20 : ¬ (20 : Int) < (deep : Int) := by omega
 have e1 : (f.k == 1) = false := beq_eq_false_iff_ne.2 (by omega)
 have e2 : (f.k == 2) = false := beq_eq_false_iff_ne.2 (by omega)
 have e3 : (f.k == 3) = true := beq_iff_eq.2 hk
 have h1 := name_len hc.1
 have h2 := name_len hc.2.1
 have E := hid (show str (AddrC.nameL f.r1 f.r2) ++ { data := #[58] } ++ str (AddrC.nameL f.r3 f.r4) = str (AddrC.nameL f.r1 f.r2 ++ 58 :: AddrC.nameL f.r3 f.r4) by
   show str _ ++ str [58] ++ str _ = _
   rw [str_app, str_app, List.append_assoc]; rfl)
 have HB := hid hb1
 have N1 := hid (fun (W : World) => AddrC.rname f.r1 f.r2 W)
 have N2 := hid (fun (W : World) => AddrC.rname f.r3 f.r4 W)
 have s1 : (str (AddrC.nameL f.r1 f.r2)).size ≤ 22 := by rw [str_size]; exact h1
 have s2 : (str (AddrC.nameL f.r3 f.r4)).size ≤ 22 := by rw [str_size]; exact h2
 have n1 : (⟨(AddrC.nameL f.r1 f.r2).toArray⟩ : ByteArray) = str (AddrC.nameL f.r1 f.r2) := rfl
 have n2 : (⟨(AddrC.nameL f.r3 f.r4).toArray⟩ : ByteArray) = str (AddrC.nameL f.r3 f.r4) := rfl
 rw [n1] at N1
 rw [n2] at N2
 generalize str (AddrC.nameL f.r1 f.r2 ++ 58 :: AddrC.nameL f.r3 f.r4) = R at *
 generalize str (AddrC.nameL f.r1 f.r2) = X at *
 generalize str (AddrC.nameL f.r3 f.r4) = Y at *
 have t1 : ¬ 9223372036854775807 < X.size + 1 := by omega
 have t2 : ¬ 9223372036854775807 < X.size + 1 + Y.size := by omega
 clear hk hc h1 h2 hb1 n1 n2 hd
 obtain ⟨d0, d1, d2, d3, d4, d5, d6, d7, d8, d9, -⟩ := L1.cells
 go_enter func60, ntmps60
 go_wp2_with fail
 generalize (w.alloc (.cells (jN f A m c) 31)) = W1 at *
 replace d0 := Gr.cell _ _ _ (Below.refl _ _) d0
 replace d1 := Gr.cell _ _ _ (Below.refl _ _) d1
 replace d2 := Gr.cell _ _ _ (Below.refl _ _) d2
 replace d3 := Gr.cell _ _ _ (Below.refl _ _) d3
 replace d4 := Gr.cell _ _ _ (Below.refl _ _) d4
 replace d5 := Gr.cell _ _ _ (Below.refl _ _) d5
 replace d6 := Gr.cell _ _ _ (Below.refl _ _) d6
 replace d7 := Gr.cell _ _ _ (Below.refl _ _) d7
 replace d8 := Gr.cell _ _ _ (Below.refl _ _) d8
 replace d9 := Gr.cell _ _ _ (Below.refl _ _) d9
 refine region_grown (by kernel_rfl) (by kernel_rfl) ?_
 repeat (go_big_quiet_step (first | (go_at_call 89; first | with_reducible exact grown_of (N1.out _) | with_reducible exact grown_of (N2.out _))))
 refine wpQuiet_nil ?_
 intro w5 hw5; obtain ⟨u, rfl⟩ := hw5
 go_wp2_with fail
 go_ret
 exact ⟨by rw [← E.out]; rfl, HB.out.trans (u.below.mono HB.out.size)⟩
theorem rw4 (f : Fld) (A : Option Addr) (m c deep : Nat) (w : World) (hd : deep ≤ 20) (f1 : Fld) (k1 : Fo) (hk : f.k = 4) (hm : m = 1) (h1 : RWr ⟨f1, k1⟩) (hd1 : deep + 1 + (Nd.mk f1 k1).deep ≤ 21) (hsz : (textN ⟨f1, k1⟩).length ≤ 1000000) (hK : KidsAt w (fun g => g < w.heap.size) (.cons f1 k1 .nil) A) :
   Calls prog 60 #[.agg (jN f A m c), .int .i64 deep] w fun e w' => e = .returned (.string (str (45 :: closeT (textN ⟨f1, k1⟩, rowN ⟨f1, k1⟩) 5))) ∧ Below w.heap.size w w' := by
 have hb1 : Below w.heap.size w (w.alloc (.cells (jN f A m c) 31)) := (Below.refl _ _).alloc (Nat.le_refl _) _
 have L1 : NLoc (w.alloc (.cells (jN f A m c) 31)) w.heap.size f A m c := ⟨heap_alloc_new _ _⟩
 have t20 : ¬ (20 : Int) < (deep : Int) := by omega
 have e1 : (f.k == 1) = false := beq_eq_false_iff_ne.2 (by omega)
 have e2 : (f.k == 2) = false := beq_eq_false_iff_ne.2 (by omega)
 have e3 : (f.k == 3) = false := beq_eq_false_iff_ne.2 (by omega)
 have e4 : (f.k == 4) = true := beq_iff_eq.2 hk
 have hKd := below_row hK hb1
 obtain ⟨g, o, rfl, ⟨hp, f0, f1', f2, f3, f4, f5, f6, f7, f8⟩, ⟨A1, c1, f9, hk1⟩, -⟩ : ∃ g o, A = some ⟨g, o, none⟩ ∧ RowAt (w.alloc (.cells (jN f A m c) 31)) (fun g => g < (w.alloc (.cells (jN f A m c) 31)).heap.size) (.cons f1 k1 .nil) g o := by
   rcases hKd with h | h
   · cases h
   · exact h
 have HB := hid hb1
 have HC := hid (rarg ⟨f1, k1⟩ h1 5 (deep + 1) hd1 hsz A1 c1 _ hk1)
 have ed : ((deep + 1 : Nat) : Int) = (deep : Int) + 1 := by omega
 rw [ed] at HC
 have hs := close_len (textN ⟨f1, k1⟩, rowN ⟨f1, k1⟩) 5
 have hs2 : (str (closeT (textN ⟨f1, k1⟩, rowN ⟨f1, k1⟩) 5)).size ≤ 1000002 := by rw [str_size]; simp only at hs; omega
 have E : Hid ({ data := #[45] } ++ str (closeT (textN ⟨f1, k1⟩, rowN ⟨f1, k1⟩) 5) = str (45 :: closeT (textN ⟨f1, k1⟩, rowN ⟨f1, k1⟩) 5)) := hid (by
   show str [45] ++ str _ = _
   rw [str_app]; rfl)
 generalize str (45 :: closeT (textN ⟨f1, k1⟩, rowN ⟨f1, k1⟩) 5) = R at *
 generalize str (closeT (textN ⟨f1, k1⟩, rowN ⟨f1, k1⟩) 5) = X at *
 have t1 : ¬ 9223372036854775807 < 1 + X.size := by omega
 subst hm
 clear hk hK hKd h1 hsz hs hk1 hb1 hd1 ed
 simp only at HC
 obtain ⟨d0, d1, d2, d3, d4, d5, d6, d7, d8, d9, -⟩ := L1.cells
 go_enter func60, ntmps60
 go_wp2_with fail
 refine HC.out.mono ?_; rintro e w2 ⟨rfl, hb2⟩
 go_wp2_with fail
 go_ret
 exact ⟨by rw [← E.out]; rfl, HB.out.trans (hb2.mono HB.out.size)⟩
theorem i1_cell (r : Nat) (h : 1 ≤ r ∧ r ≤ 4) (W : World) : (W.alloc (.cells #[.int .i64 0, .int .i64 2, .int .i64 2, .int .i64 3, .int .i64 5] 3)).cell? ⟨W.heap.size, r, none⟩ = some (.int .i64 ((lo1 r : Nat) : Int)) := by
 rw [World.cell?_alloc_mark]
 have hr : r = 1 ∨ r = 2 ∨ r = 3 ∨ r = 4 := by omega
 rcases hr with rfl | rfl | rfl | rfl <;> rfl
theorem i2_cell (r : Nat) (h : 1 ≤ r ∧ r ≤ 4) (W : World) : (W.alloc (.cells #[.int .i64 0, .int .i64 2, .int .i64 3, .int .i64 4, .int .i64 4] 3)).cell? ⟨W.heap.size, r, none⟩ = some (.int .i64 ((lo2 r : Nat) : Int)) := by
 rw [World.cell?_alloc_mark]
 have hr : r = 1 ∨ r = 2 ∨ r = 3 ∨ r = 4 := by omega
 rcases hr with rfl | rfl | rfl | rfl <;> rfl
theorem rw5 (f : Fld) (A : Option Addr) (m c deep : Nat) (w : World) (hd : deep ≤ 20) (f1 f2 : Fld) (k1 k2 : Fo) (hk : f.k = 5) (hm : m = 2) (hr : 1 ≤ rowK f ∧ rowK f ≤ 4) (hop : f.op.size ≤ 2) (h1 : RWr ⟨f1, k1⟩) (h2 : RWr ⟨f2, k2⟩) (hd1 : deep + 1 + (Nd.mk f1 k1).deep ≤ 21) (hd2 : deep + 1 + (Nd.mk f2 k2).deep ≤ 21) (hsz1 : (textN ⟨f1, k1⟩).length ≤ 1000000) (hsz2 : (textN ⟨f2, k2⟩).length ≤ 1000000) (hK : KidsAt w (fun g => g < w.heap.size) (.cons f1 k1 (.cons f2 k2 .nil)) A) :
   Calls prog 60 #[.agg (jN f A m c), .int .i64 deep] w fun e w' => e = .returned (.string (str (closeT (textN ⟨f1, k1⟩, rowN ⟨f1, k1⟩) (lo1 (rowK f)) ++ (f.op.data.toList ++ closeT (textN ⟨f2, k2⟩, rowN ⟨f2, k2⟩) (lo2 (rowK f)))))) ∧ Below w.heap.size w w' := by
 have hb1 : Below w.heap.size w (w.alloc (.cells (jN f A m c) 31)) := (Below.refl _ _).alloc (Nat.le_refl _) _
 have L1 : NLoc (w.alloc (.cells (jN f A m c) 31)) w.heap.size f A m c := ⟨heap_alloc_new _ _⟩
 have t20 : ¬ (20 : Int) < (deep : Int) := by omega
 have e1 : (f.k == 1) = false := beq_eq_false_iff_ne.2 (by omega)
 have e2 : (f.k == 2) = false := beq_eq_false_iff_ne.2 (by omega)
 have e3 : (f.k == 3) = false := beq_eq_false_iff_ne.2 (by omega)
 have e4 : (f.k == 4) = false := beq_eq_false_iff_ne.2 (by omega)
 have e5 : (f.k == 5) = true := beq_iff_eq.2 hk
 have hs1 := close_len (textN ⟨f1, k1⟩, rowN ⟨f1, k1⟩) (lo1 (rowK f))
 have hs2 := close_len (textN ⟨f2, k2⟩, rowN ⟨f2, k2⟩) (lo2 (rowK f))
 have hs3 : (str (closeT (textN ⟨f1, k1⟩, rowN ⟨f1, k1⟩) (lo1 (rowK f)))).size ≤ 1000002 := by rw [str_size]; simp only at hs1; omega
 have hs4 : (str (closeT (textN ⟨f2, k2⟩, rowN ⟨f2, k2⟩) (lo2 (rowK f)))).size ≤ 1000002 := by rw [str_size]; simp only at hs2; omega
 have E : Hid (str (closeT (textN ⟨f1, k1⟩, rowN ⟨f1, k1⟩) (lo1 (rowK f))) ++ f.op ++ str (closeT (textN ⟨f2, k2⟩, rowN ⟨f2, k2⟩) (lo2 (rowK f))) = str (closeT (textN ⟨f1, k1⟩, rowN ⟨f1, k1⟩) (lo1 (rowK f)) ++ (f.op.data.toList ++ closeT (textN ⟨f2, k2⟩, rowN ⟨f2, k2⟩) (lo2 (rowK f))))) := hid (by
   conv => lhs; rw [← str_list f.op]
   rw [str_app, str_app, List.append_assoc])
 have ed : ((deep + 1 : Nat) : Int) = (deep : Int) + 1 := by omega
 have ew : IntKind.i64.wrap ((deep : Int) + 1) = (deep : Int) + 1 := IntWalk.i64_in _ (by omega)
 have C1 := hid (fun (A1 : Option Addr) (c1 : Nat) (W : World) (hk : KidsAt W (fun g => g < W.heap.size) k1 A1) => rarg ⟨f1, k1⟩ h1 (lo1 (rowK f)) (deep + 1) hd1 hsz1 A1 c1 W hk)
 have C2 := hid (fun (A1 : Option Addr) (c1 : Nat) (W : World) (hk : KidsAt W (fun g => g < W.heap.size) k2 A1) => rarg ⟨f2, k2⟩ h2 (lo2 (rowK f)) (deep + 1) hd2 hsz2 A1 c1 W hk)
 rw [ed] at C1 C2
 have HW := hid (fun W => rrow f A m c W)
 simp only at C1 C2
 generalize str (closeT (textN ⟨f1, k1⟩, rowN ⟨f1, k1⟩) (lo1 (rowK f)) ++ (f.op.data.toList ++ closeT (textN ⟨f2, k2⟩, rowN ⟨f2, k2⟩) (lo2 (rowK f)))) = R at *
 generalize str (closeT (textN ⟨f1, k1⟩, rowN ⟨f1, k1⟩) (lo1 (rowK f))) = X at *
 generalize str (closeT (textN ⟨f2, k2⟩, rowN ⟨f2, k2⟩) (lo2 (rowK f))) = Y at *
 have t1 : ¬ 9223372036854775807 < X.size + f.op.size := by omega
 have t2 : ¬ 9223372036854775807 < X.size + f.op.size + Y.size := by omega
 have r5 : ((rowK f : Nat) : Int) < 5 := by omega
 have Q1 := hid (i1_cell (rowK f) hr)
 have Q2 := hid (i2_cell (rowK f) hr)
 generalize rowK f = ro at *
 generalize ((lo1 ro : Nat) : Int) = r1 at *
 generalize ((lo2 ro : Nat) : Int) = r2 at *
 subst hm
 have g1 : Below (w.alloc (.cells (jN f A 2 c) 31)).heap.size (w.alloc (.cells (jN f A 2 c) 31)) ((w.alloc (.cells (jN f A 2 c) 31)).alloc (.cells #[.int .i64 0, .int .i64 2, .int .i64 2, .int .i64 3, .int .i64 5] 3)) := (Below.refl _ _).alloc (Nat.le_refl _) _
 have La := L1.kept (Kept.of (x := (w.alloc (.cells (jN f A 2 c) 31)).heap.size) g1) (Nat.ne_of_lt L1.lt)
 have q1 := Q1.out (w.alloc (.cells (jN f A 2 c) 31))
 rw [show (w.alloc (.cells (jN f A 2 c) 31)).heap.size = w.heap.size + 1 by simp] at q1
 have HB := hid (hb1.trans (g1.mono hb1.size))
 have HK := hid (below_row (below_row hK hb1) g1)
 clear hk hK h1 h2 hsz1 hsz2 hs1 hs2 hr hop ed hd1 hd2 Q1 hb1
 obtain ⟨d0, d1, d2, d3, d4, d5, d6, d7, d8, d9, -⟩ := L1.cells
 obtain ⟨p0, p1, p2, p3, p4, p5, p6, p7, p8, p9, -⟩ := La.cells
 go_enter func60, ntmps60
 go_wp2_with fail
 generalize ((w.alloc (.cells (jN f A 2 c) 31)).alloc (.cells #[.int .i64 0, .int .i64 2, .int .i64 2, .int .i64 3, .int .i64 5] 3)) = W2 at *
 clear d0 d1 d2 d3 d4 d5 d6 d7 d8 d9 L1 g1
 refine (HW.out W2).mono ?_; rintro e w3 ⟨rfl, hb3⟩
 have L3 := La.kept (Kept.of (x := W2.heap.size) hb3) (Nat.ne_of_lt La.lt)
 replace q1 := cell_later hb3 q1
 have HK3 := hid (below_row HK.out hb3)
 have HB3 := hid (HB.out.trans (hb3.mono HB.out.size))
 have g3 : Below w3.heap.size w3 (w3.alloc (.cells #[.int .i64 0, .int .i64 2, .int .i64 3, .int .i64 4, .int .i64 4] 3)) := (Below.refl _ _).alloc (Nat.le_refl _) _
 have L4 := L3.kept (Kept.of (x := w3.heap.size) g3) (Nat.ne_of_lt L3.lt)
 have q2 := Q2.out w3
 have HB4 := hid (HB3.out.trans (g3.mono HB3.out.size))
 have HK4 := hid (below_row HK3.out g3)
 clear p0 p1 p2 p3 p4 p5 p6 p7 p8 p9 La hb3 HB HK g3 HK3 HB3 Q2
 obtain ⟨d0, d1, d2, d3, d4, d5, d6, d7, d8, d9, -⟩ := L3.cells
 obtain ⟨p0, p1, p2, p3, p4, p5, p6, p7, p8, p9, -⟩ := L4.cells
 go_wp2_with fail
 generalize (w3.alloc (.cells #[.int .i64 0, .int .i64 2, .int .i64 3, .int .i64 4, .int .i64 4] 3)) = W4 at *
 clear d0 d1 d2 d3 d4 d5 d6 d7 d8 d9 L3 q1
 refine (HW.out W4).mono ?_; rintro e w5 ⟨rfl, hb5⟩
 have L5 := L4.kept (Kept.of (x := W4.heap.size) hb5) (Nat.ne_of_lt L4.lt)
 replace q2 := cell_later hb5 q2
 have HK5 := hid (below_row HK4.out hb5)
 have HB5 := hid (HB4.out.trans (hb5.mono HB4.out.size))
 clear p0 p1 p2 p3 p4 p5 p6 p7 p8 p9 L4 hb5 HB4 HK4 HW
 obtain ⟨d0, d1, d2, d3, d4, d5, d6, d7, d8, d9, -⟩ := L5.cells
 obtain ⟨g, o, rfl, ⟨hp, f0, f1', f2', f3, f4, f5, f6, f7, f8⟩, ⟨A1, c1, f9, hk1⟩, ⟨hp2, g0, g1, g2, g3, g4, g5, g6, g7, g8⟩, ⟨A2, c2, g9, hk2⟩, -⟩ : ∃ g o, A = some ⟨g, o, none⟩ ∧ RowAt w5 (fun g => g < w5.heap.size) (.cons f1 k1 (.cons f2 k2 .nil)) g o := by
   rcases HK5.out with h | h
   · cases h
   · exact h
 have D1 := hid (fun (u : Gr w5) => C1.out A1 c1 u.now (below_row hk1 u.below))
 have D2 := hid (fun (u : Gr w5) => C2.out A2 c2 u.now (below_row hk2 u.below))
 clear hp hp2 hk1 hk2 C1 C2 HK5 L5
 go_wp2_with fail
 clear q2
 replace d0 := Gr.cell _ _ _ (Below.refl _ _) d0
 replace d1 := Gr.cell _ _ _ (Below.refl _ _) d1
 replace d2 := Gr.cell _ _ _ (Below.refl _ _) d2
 replace d3 := Gr.cell _ _ _ (Below.refl _ _) d3
 replace d4 := Gr.cell _ _ _ (Below.refl _ _) d4
 replace d5 := Gr.cell _ _ _ (Below.refl _ _) d5
 replace d6 := Gr.cell _ _ _ (Below.refl _ _) d6
 replace d7 := Gr.cell _ _ _ (Below.refl _ _) d7
 replace d8 := Gr.cell _ _ _ (Below.refl _ _) d8
 replace d9 := Gr.cell _ _ _ (Below.refl _ _) d9
 replace f1' := Gr.cell _ _ _ (Below.refl _ _) f1'
 replace f2' := Gr.cell _ _ _ (Below.refl _ _) f2'
 replace f0 := Gr.cell _ _ _ (Below.refl _ _) f0
 replace f3 := Gr.cell _ _ _ (Below.refl _ _) f3
 replace f4 := Gr.cell _ _ _ (Below.refl _ _) f4
 replace f5 := Gr.cell _ _ _ (Below.refl _ _) f5
 replace f6 := Gr.cell _ _ _ (Below.refl _ _) f6
 replace f7 := Gr.cell _ _ _ (Below.refl _ _) f7
 replace f8 := Gr.cell _ _ _ (Below.refl _ _) f8
 replace f9 := Gr.cell _ _ _ (Below.refl _ _) f9
 replace g0 := Gr.cell _ _ _ (Below.refl _ _) g0
 replace g1 := Gr.cell _ _ _ (Below.refl _ _) g1
 replace g2 := Gr.cell _ _ _ (Below.refl _ _) g2
 replace g3 := Gr.cell _ _ _ (Below.refl _ _) g3
 replace g4 := Gr.cell _ _ _ (Below.refl _ _) g4
 replace g5 := Gr.cell _ _ _ (Below.refl _ _) g5
 replace g6 := Gr.cell _ _ _ (Below.refl _ _) g6
 replace g7 := Gr.cell _ _ _ (Below.refl _ _) g7
 replace g8 := Gr.cell _ _ _ (Below.refl _ _) g8
 replace g9 := Gr.cell _ _ _ (Below.refl _ _) g9
 refine region_grown (by kernel_rfl) (by kernel_rfl) ?_
 repeat (go_big_quiet_step (first | (go_at_call 90; first | with_reducible exact grown_of (D1.out _) | with_reducible exact grown_of (D2.out _))))
 refine wpQuiet_nil ?_
 intro w6 hw6; obtain ⟨u, rfl⟩ := hw6
 go_wp2_with fail
 go_ret
 exact ⟨by rw [← E.out]; rfl, HB5.out.trans (u.below.mono HB5.out.size)⟩
theorem joinT_snoc (x : List UInt8) : ∀ l : List (List UInt8), l ≠ [] → joinT (l ++ [x]) = joinT l ++ 44 :: x
 | [], h => absurd rfl h
 | [y], _ => rfl
 | y :: z :: r, _ => by
   have := joinT_snoc x (z :: r) (by simp)
   rw [List.cons_append, List.cons_append, joinT_cons, joinT_cons, ← List.cons_append, this]
   simp
theorem join_step {l : List (List UInt8)} {i : Nat} {x : List UInt8} (h : l[i]? = some x) : joinT (l.take (i + 1)) = if i = 0 then x else joinT (l.take i) ++ 44 :: x := by
 have hlt : i < l.length := (List.getElem?_eq_some_iff.1 h).1
 rw [List.take_add_one, h]
 show joinT (l.take i ++ [x]) = _
 by_cases hi : i = 0
 · subst hi; rfl
 · rw [if_neg hi, joinT_snoc]
   intro e
   have := congrArg List.length e
   rw [List.length_take, List.length_nil] at this
   omega
theorem join_take_len (l : List (List UInt8)) (i : Nat) : (joinT (l.take i)).length ≤ (l.map List.length).sum + l.length := by
 have h1 := join_len (l.take i)
 have h2 : ((l.take i).map List.length).sum ≤ (l.map List.length).sum := by
   conv => rhs; rw [← List.take_append_drop i l]
   rw [List.map_append, List.sum_append]; omega
 have h3 : (l.take i).length ≤ l.length := by rw [List.length_take]; omega
 omega
theorem text_nth (x : Fo) (i : Nat) (h : i < x.len) : ((texts x).map (·.1))[i]? = some (textN (x.nth i)) := by
 rw [List.getElem?_map, texts_nth x i h]; rfl
theorem rw6 (f : Fld) (A : Option Addr) (m c deep : Nat) (w : World) (hd : deep ≤ 20) (kd : Fo) (hk : f.k = 6) (hm : m = kd.len) (hop : f.op.size ≤ 8) (h : ∀ i, i < kd.len → RWr (kd.nth i)) (hdd : deep + 1 + kd.deep ≤ 21) (hsz : tsum (texts kd) + kd.len ≤ 1000000) (hK : KidsAt w (fun g => g < w.heap.size) kd A) :
   Calls prog 60 #[.agg (jN f A m c), .int .i64 deep] w fun e w' => e = .returned (.string (str (f.op.data.toList ++ 40 :: (joinT ((texts kd).map (·.1)) ++ [41])))) ∧ Below w.heap.size w w' := by
 have hb1 : Below w.heap.size w (w.alloc (.cells (jN f A m c) 31)) := (Below.refl _ _).alloc (Nat.le_refl _) _
 have L1 : NLoc (w.alloc (.cells (jN f A m c) 31)) w.heap.size f A m c := ⟨heap_alloc_new _ _⟩
 have t20 : ¬ (20 : Int) < (deep : Int) := by omega
 have e1 : (f.k == 1) = false := beq_eq_false_iff_ne.2 (by omega)
 have e2 : (f.k == 2) = false := beq_eq_false_iff_ne.2 (by omega)
 have e3 : (f.k == 3) = false := beq_eq_false_iff_ne.2 (by omega)
 have e4 : (f.k == 4) = false := beq_eq_false_iff_ne.2 (by omega)
 have e5 : (f.k == 5) = false := beq_eq_false_iff_ne.2 (by omega)
 have HJ := hid (join_take_len ((texts kd).map (·.1)))
 have eJ : (((texts kd).map (·.1)).map List.length).sum = tsum (texts kd) := by unfold tsum; rw [List.map_map]; rfl
 rw [eJ, List.length_map, texts_length] at HJ
 have HB := hid hb1
 have HK := hid (below_row hK hb1)
 have HW := hid h
 have hopz : f.op.size ≤ 8 := hop
 have E0 : Hid (f.op ++ { data := #[40] } = str (f.op.data.toList ++ 40 :: joinT (((texts kd).map (·.1)).take 0))) := hid (by
   conv => lhs; rw [← str_list f.op]
   show str _ ++ str [40] = _
   rw [str_app]; rfl)
 have t1 : ¬ 9223372036854775807 < f.op.size + 1 := by omega
 have hlen : kd.len ≤ 1000000 := by omega
 have L0 := L1
 subst hm
 clear hk hK h eJ hop hb1
 obtain ⟨d0, d1, d2, d3, d4, d5, d6, d7, d8, d9, -⟩ := L0.cells
 go_enter func60, ntmps60
 go_wp2_with fail
 generalize (w.alloc (.cells (jN f A kd.len c) 31)) = W1 at *
 go_loopw [7, 8] (fun sv iv wr => ∃ (i : Nat) (S : ByteArray), i ≤ kd.len ∧ iv = .int .i64 i ∧ sv = .string S ∧ Hid (S = str (f.op.data.toList ++ 40 :: joinT (((texts kd).map (·.1)).take i))) ∧ Below W1.heap.size W1 wr) (fun _ iv _ => kd.len - (intOf iv).toNat)
 case atStart => exact ⟨0, _, Nat.zero_le _, rfl, rfl, E0, Below.refl _ _⟩
 case round =>
   clear E0
   obtain ⟨i, S, hi, rfl, rfl, HS, hB⟩ := hrel
   have HKr := below_row HK.out hB
   have r9 := cell_later hB d9
   have hSz : S.size ≤ 1000009 := by
     rw [HS.out, str_size]
     have := HJ.out i
     have e := list_len f.op
     simp only [List.length_append, List.length_cons]
     omega
   by_cases hlt : i < kd.len
   · have q1 : (i : Int) < (kd.len : Int) := by omega
     have hnx : ((texts kd).map (·.1))[i]? = some (textN (kd.nth i)) := text_nth kd i hlt
     have hst := join_step hnx
     have hT : (textN (kd.nth i)).length ≤ 1000000 := by
       have h1 := HJ.out (i + 1)
       rw [hst] at h1
       split at h1
       · omega
       · simp only [List.length_append, List.length_cons] at h1; omega
     obtain ⟨ga, o, rfl, hrow⟩ : ∃ ga o, A = some ⟨ga, o, none⟩ ∧ RowAt wr (fun g => g < wr.heap.size) kd ga o := by
       rcases HKr with h | h
       · rw [h] at hlt; exact absurd hlt (by simp [Fo.len])
       · exact h
     obtain ⟨A2, c2, hk2, hp, f0, f1, f2, f3, f4, f5, f6, f7, f8, f9⟩ := RowAt.nth kd ga o i hrow hlt
     have hdn : (kd.nth i).deep ≤ kd.deep := by
       have h1 := Fo.deep_drop kd i hlt
       have h2 : ∀ (x : Fo) (i : Nat), (x.drop i).deep ≤ x.deep := by
         intro x
         induction x with
         | nil => intro i; cases i <;> simp [Fo.drop]
         | cons f k n _ ih => intro i; cases i with
           | zero => simp [Fo.drop]
           | succ i => have := ih i; simp only [Fo.drop, Fo.deep]; omega
       have h3 := h2 kd i
       omega
     have HI := hid (HW.out i hlt A2 c2 wr (deep + 1) (by omega) hk2)
     rw [show ((deep + 1 : Nat) : Int) = (deep : Int) + 1 by omega] at HI
     have hTz : (str (textN (kd.nth i))).size ≤ 1000000 := by rw [str_size]; exact hT
     by_cases hz : i = 0
     · have q2 : ¬ (0 : Int) < (i : Int) := by omega
       have HN : Hid (S ++ str (textN (kd.nth i)) = str (f.op.data.toList ++ 40 :: joinT (((texts kd).map (·.1)).take (i + 1)))) := hid (by
         rw [HS.out, hst, if_pos hz, str_app, hz]
         simp [joinT])
       generalize str (textN (kd.nth i)) = T at *
       have q3 : ¬ 9223372036854775807 < S.size + T.size := by omega
       clear hrow hk2 HKr hnx hst hT hz HS
       go_wp2_with fail
       refine HI.out.mono ?_; rintro e w2 ⟨rfl, hb2⟩
       go_wp2_with fail
       go_roundw
       case rel => exact ⟨i + 1, _, by omega, by go_num, rfl, HN, hB.trans (hb2.mono hB.size)⟩
       case measure => simp [intOf]; omega
     · have q2 : (0 : Int) < (i : Int) := by omega
       have HN : Hid (S ++ { data := #[44] } ++ str (textN (kd.nth i)) = str (f.op.data.toList ++ 40 :: joinT (((texts kd).map (·.1)).take (i + 1)))) := hid (by
         rw [HS.out, hst, if_neg hz]
         show str _ ++ str [44] ++ str _ = _
         rw [str_app, str_app]
         simp)
       generalize str (textN (kd.nth i)) = T at *
       have q3 : ¬ 9223372036854775807 < S.size + 1 := by omega
       have q4 : ¬ 9223372036854775807 < S.size + 1 + T.size := by omega
       clear hrow hk2 HKr hnx hst hT hz HS
       go_wp2_with fail
       refine HI.out.mono ?_; rintro e w2 ⟨rfl, hb2⟩
       go_wp2_with fail
       go_roundw
       case rel => exact ⟨i + 1, _, by omega, by go_num, rfl, HN, hB.trans (hb2.mono hB.size)⟩
       case measure => simp [intOf]; omega
   · have q1 : ¬ (i : Int) < (kd.len : Int) := by omega
     have E : Hid (S ++ { data := #[41] } = str (f.op.data.toList ++ 40 :: (joinT ((texts kd).map (·.1)) ++ [41]))) := hid (by
       have e1 : ((texts kd).map (·.1)).take i = (texts kd).map (·.1) := List.take_of_length_le (by rw [List.length_map, texts_length]; omega)
       rw [HS.out, e1]
       show str _ ++ str [41] = _
       rw [str_app]; simp)
     have q3 : ¬ 9223372036854775807 < S.size + 1 := by omega
     clear HKr HS
     go_wp2_with fail
     go_ret
     exact ⟨by rw [← E.out]; rfl, HB.out.trans (hB.mono HB.out.size)⟩
theorem rtextN : ∀ (N : Nat) (a : Nd), a.size ≤ N → a.size ≤ 1990 → a.all fitsB = true → a.all wideB = true → RWr a := by
 intro N
 induction N with
 | zero => intro a h; exact absurd h (by unfold Nd.size; omega)
 | succ N ih =>
   intro a hsz hsm hall hw A c w deep hdp hK
   obtain ⟨f, kd⟩ := a
   have hall1 : kd.all fitsB = true ∧ fitsB f kd.len = true := by simpa [Nd.all] using hall
   have hw1 : kd.all wideB = true ∧ f.vn ≤ 9223372036854775807 := by simpa [Nd.all, wideB] using hw
   have hz : 1 + kd.size ≤ N + 1 := hsz
   have hz2 : 1 + kd.size ≤ 1990 := hsm
   have hdd : deep + (1 + kd.deep) ≤ 21 := hdp
   have hlen : ∀ a : Nd, a.size ≤ 1990 → a.all fitsB = true → a.all wideB = true → (textN a).length ≤ 1000000 := fun a h1 h2 h3 => by have := text_len a h2 h3; omega
   have hK : KidsAt w (fun g => g < w.heap.size) kd A := hK
   have h20 : deep ≤ 20 := by omega
   dsimp only
   rcases shape_k (shape_of hall1.2) with hk | hk | ⟨hk, hc⟩ | ⟨hk, hm⟩ | ⟨hk, hm, hr, hop⟩ | ⟨hk, hop, hm⟩
   · rw [text_1 kd hk]; exact rw1 f A kd.len c deep w h20 hk (fits_const hall1.2 hk) hw1.2
   · rw [text_2 kd hk]; exact rw2 f A kd.len c deep w h20 hk
   · rw [text_3 kd hk]; exact rw3 f A kd.len c deep w h20 hk hc
   · obtain ⟨f1, k1, rfl⟩ := one_kid hm
     have ha1 := kid_one hall1.1
     have ha2 := kid_one hw1.1
     have hs1 : (Nd.mk f1 k1).size ≤ N ∧ (Nd.mk f1 k1).size ≤ 1990 := by simp only [Nd.size, Fo.size] at hz hz2 ⊢; omega
     rw [text_4 f1 k1 hk]
     exact rw4 f A _ c deep w h20 f1 k1 hk hm (ih _ hs1.1 hs1.2 ha1 ha2) (by simp only [Fo.deep, Nd.deep] at hdd ⊢; omega) (hlen _ hs1.2 ha1 ha2) hK
   · obtain ⟨f1, k1, f2, k2, rfl⟩ := two_kids hm
     obtain ⟨ha1, ha2⟩ := kid_two hall1.1
     obtain ⟨hb1, hb2⟩ := kid_two hw1.1
     have hs1 : (Nd.mk f1 k1).size ≤ N ∧ (Nd.mk f1 k1).size ≤ 1990 := by simp only [Nd.size, Fo.size] at hz hz2 ⊢; omega
     have hs2 : (Nd.mk f2 k2).size ≤ N ∧ (Nd.mk f2 k2).size ≤ 1990 := by simp only [Nd.size, Fo.size] at hz hz2 ⊢; omega
     rw [text_5 f1 f2 k1 k2 hk]
     exact rw5 f A _ c deep w h20 f1 f2 k1 k2 hk hm hr hop (ih _ hs1.1 hs1.2 ha1 hb1) (ih _ hs2.1 hs2.2 ha2 hb2) (by simp only [Fo.deep, Nd.deep] at hdd ⊢; omega) (by simp only [Fo.deep, Nd.deep] at hdd ⊢; omega) (hlen _ hs1.2 ha1 hb1) (hlen _ hs2.2 ha2 hb2) hK
   · have h3 := text_lens kd hall1.1 hw1.1
     have h4 := Fo.len_size kd
     rw [text_6 kd hk]
     exact rw6 f A _ c deep w h20 kd hk rfl hop (fun i hi => by
       have := Fo.nth_size kd i hi
       exact ih (kd.nth i) (by omega) (by omega) (Fo.all_nth _ kd i hi hall1.1) (Fo.all_nth _ kd i hi hw1.1)) (by omega) (by omega) hK
theorem rText (a : Nd) (A : Option Addr) (c : Nat) (w : World) (hs : a.size ≤ 1990) (hsh : a.one.Short) (hw : a.all wideB = true) (hK : KidsAt w (fun g => g < w.heap.size) a.kids A) :
   Calls prog 37 #[.agg (jN a.f A a.kids.len c)] w fun e w' => e = .returned (.tuple #[.string (str (textR a).s), .int .i64 (textR a).err]) ∧ Below w.heap.size w w' := by
 have hb1 : Below w.heap.size w (w.alloc (.cells (jN a.f A a.kids.len c) 31)) := (Below.refl _ _).alloc (Nat.le_refl _) _
 have L1 : NLoc (w.alloc (.cells (jN a.f A a.kids.len c) 31)) w.heap.size a.f A a.kids.len c := ⟨heap_alloc_new _ _⟩
 have HG := hid (rGood a A c _ (by omega) hsh (below_row hK hb1))
 have HK := hid (below_row hK hb1)
 have HW := hid (fun (h : goodN a = true) => And.intro (rtextN a.size a (Nat.le_refl _) hs (good_parts h).2.2 hw) (And.intro (text_len a (good_parts h).2.2 hw) (good_parts h).2.1))
 have HS := hid hs
 have eg : goodT fitsB a = goodN a := rfl
 rw [eg] at HG
 clear hK hs hw eg hsh
 obtain ⟨f, kd⟩ := a
 simp only at *
 obtain ⟨d0, d1, d2, d3, d4, d5, d6, d7, d8, d9, -⟩ := L1.cells
 go_enter func37, ntmps37
 go_wp2_with fail
 generalize (w.alloc (.cells (jN f A kd.len c) 31)) = W1 at *
 refine HG.out.mono ?_; rintro e w2 ⟨rfl, hb2⟩
 have L2 := L1.kept (Kept.of (x := W1.heap.size) hb2) (Nat.ne_of_lt L1.lt)
 have HK2 := hid (below_row HK.out hb2)
 have HB := hid (hb1.trans (hb2.mono hb1.size))
 clear d0 d1 d2 d3 d4 d5 d6 d7 d8 d9 L1 HK hb1 hb2 HG
 obtain ⟨d0, d1, d2, d3, d4, d5, d6, d7, d8, d9, -⟩ := L2.cells
 cases hg : goodN ⟨f, kd⟩ with
 | false =>
   have ER := hid (textR_no hg)
   clear hg HW
   go_wp2_with fail
   go_ret2
   exact ⟨by rw [ER.out]; rfl, HB.out⟩
 | true =>
   obtain ⟨HWr, hlen, hdp⟩ := HW.out hg
   have hT : (str (textN ⟨f, kd⟩)).size = (textN ⟨f, kd⟩).length := str_size _
   have HW2 := hid (HWr A c w2 0 (by omega) HK2.out)
   have hcl : (str (textN ⟨f, kd⟩)).size ≤ 1000000 := by rw [hT]; have := HS.out; omega
   by_cases hlt : 300 < (textN ⟨f, kd⟩).length
   · have ER := hid (textR_long hg hlt)
     have t1 : (300 : Int) < ((str (textN ⟨f, kd⟩)).size : Int) := by omega
     clear hg HW hT hcl HWr hlen hlt hdp
     simp only at HW2
     generalize str (textN ⟨f, kd⟩) = T at *
     go_wp2_with fail
     refine HW2.out.mono ?_; rintro e w3 ⟨rfl, hb3⟩
     go_wp2_with fail
     go_ret2
     exact ⟨by rw [ER.out]; rfl, HB.out.trans (hb3.mono HB.out.size)⟩
   · have ER := hid (textR_ok hg hlt)
     have t1 : ¬ (300 : Int) < ((str (textN ⟨f, kd⟩)).size : Int) := by omega
     clear hg HW hT hcl HWr hlen hlt hdp
     simp only at HW2
     have ER2 : Hid (str (textR ⟨f, kd⟩).s = str (textN ⟨f, kd⟩) ∧ (textR ⟨f, kd⟩).err = 0) := hid (by rw [ER.out]; exact ⟨rfl, rfl⟩)
     generalize str (textN ⟨f, kd⟩) = T at *
     go_wp2_with fail
     refine HW2.out.mono ?_; rintro e w3 ⟨rfl, hb3⟩
     go_wp2_with fail
     go_ret2
     exact ⟨by rw [ER2.out.1, ER2.out.2]; rfl, HB.out.trans (hb3.mono HB.out.size)⟩
end Go.Proofs.YticehalcnbjccaaGreatDoor.PrintC
