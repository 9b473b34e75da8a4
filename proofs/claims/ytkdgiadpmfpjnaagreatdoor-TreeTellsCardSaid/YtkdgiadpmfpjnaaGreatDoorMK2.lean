/-
  Append of a node's Args to a queue; contract of tree's reference: Depth.
-/
import Derived.Test.YtkdgiadpmfpjnaaGreatDoorMP0
import Derived.Laws.OwnMore
namespace Go.Proofs.YtkdgiadpmfpjnaaGreatDoor.TreeC
set_option linter.unusedVariables false
open Go.RowKit Go.Proofs.YtkdgiadpmfpjnaaGreatDoor.NumC Go.Proofs.YtkdgiadpmfpjnaaGreatDoor.LexC

/-- All cells of a row of nodes are single. -/
theorem ncells_one {w : World} {P : Nat → Prop} : ∀ (fo : Fo) (vs : List Value), RowV w P fo vs → ∀ u ∈ ncells vs, u.oneCell' = true := by
  intro fo
  induction fo with
  | nil => intro vs h; cases vs with
    | nil => intro u hu; simp [ncells] at hu
    | cons v vs => exact absurd h (by simp [RowV])
  | cons f kids next _ ih => intro vs h; cases vs with
    | nil => exact absurd h (by simp [RowV])
    | cons v vs =>
      obtain ⟨⟨A, c, rfl, -⟩, hr⟩ := h
      intro u hu
      rw [ncells_cons, List.mem_append] at hu
      rcases hu with hu | hu
      · simp [nodeV, Value.cells] at hu
        rcases hu with rfl | rfl | rfl | rfl | rfl | rfl | rfl | rfl | rfl | rfl <;> rfl
      · exact ih vs hr u hu
theorem run_append_none0 {w : World} (base : Nat) (t ty e : TypeId) (i : TypeInfo) (size c : Nat) (ht : Tryz.prog.underlying t = some (.slice e)) (hi : Tryz.prog.info? e = some i)
    (v : Value) (n : Nat) (xs : List Value) (hown : w.ownsRow base e size v n xs) : (Builtin.append_ #[t, t] ty #[v, .slice none 0 c]).run Tryz.prog w = .ok v w := by
  rcases hown.2 with ⟨rfl, rfl⟩ | ⟨g, cap, cur, rfl, _, _, hnc, _⟩
  · simp [Builtin.append_, run_underlying ht, sizeOf, typeInfo, hi, Builtin.lenOf, Builtin.firstCells]
  · simp [Builtin.append_, run_underlying ht, sizeOf, typeInfo, hi, Builtin.lenOf, Builtin.firstCells, hnc, storeCells]
/-- A queue with a node's Args behind it. -/
theorem run_queue (ty : TypeId) {w : World} {B c : Nat} {v : Value} {fo kd : Fo} {A : Option Addr} (h : QS w B v fo) (hk : KidsAt w (fun g => g < B) kd A) (hl : fo.len + kd.len ≤ 1000000) (hB : B ≤ w.heap.size) :
    ∃ v' w', (Builtin.append_ #[29, 29] ty #[v, .slice A kd.len c]).run Tryz.prog w = .ok v' w' ∧ QS w' B v' (fo.app kd) ∧ w.grownBy w' v.ownBlock ∧ (v'.ownBlock = v.ownBlock ∨ v'.ownBlock = some w.heap.size) := by
  obtain ⟨i0, hi0, hz0, hz1, hz2⟩ := info_parts node_info
  have hlo := h.lt
  obtain ⟨vs, hown, hvs⟩ := h
  have hkey : ∃ ws, RowV w (fun g => g < B) kd ws ∧ (ncells ws).length = kd.len * 10 ∧ (A = none → kd = .nil) ∧ ∀ a, A = some a → ∀ j u, (ncells ws)[j]? = some u → w.cell? (a.add j) = some u := by
    rcases hk with rfl | ⟨g, o, rfl, hr⟩
    · exact ⟨[], trivial, rfl, fun _ => rfl, fun a _ j u hj => by simp [ncells] at hj⟩
    · obtain ⟨ws, h1, h2, h3⟩ := rowV_of kd o hr
      exact ⟨ws, h1, h2, (fun e => by cases e), (fun a e j u hj => by cases e; rw [addr_add]; exact h3 j u hj)⟩
  obtain ⟨ws, hws, hlen, hnone, hcell⟩ := hkey
  cases A with
  | none =>
    obtain rfl := hnone rfl
    refine ⟨v, w, run_append_none0 B 29 ty 31 i0 10 c Tryz.underlying29 hi0 v fo.len (ncells vs) hown, by rw [Fo.app_nil]; exact ⟨vs, hown, hvs⟩, ⟨rfl, rfl, rfl, Nat.le_refl _, fun _ _ _ => rfl⟩, Or.inl rfl⟩
  | some a =>
    obtain ⟨v', w', hr, h1, h2, -, h3⟩ := run_append_own_at (P := Tryz.prog) w B 29 ty 31 i0 _ 10 112 Tryz.underlying29 hi0 hz0 hz1 hz2 rfl (by omega) v fo.len (ncells vs) hown a kd.len c (ncells ws) hlen (hcell a rfl) (ncells_one kd ws hws) (by unfold maxLen; omega) (by omega) hB
    exact ⟨v', w', hr, QS.more hvs hws h1 h2 hlo, h2, h3⟩
theorem wpList_append_queue {ops : Array Oper} {rest : List Oper} {o : Oper} {a : Act} {Q : Exit → Act → World → Prop} (w : World) (hgd : o.guard = none) (s x : Operand) (ho : o.op = .call { callee := .builtin .append, args := #[s, x], argTypes := #[29, 29] })
    {B c : Nat} {v : Value} {fo kd : Fo} {A : Option Addr} (hs : a.eval s = v) (hx : a.eval x = .slice A kd.len c) (hq : QS w B v fo) (hk : KidsAt w (fun g => g < B) kd A) (hl : fo.len + kd.len ≤ 1000000) (hB : B ≤ w.heap.size)
    (h : ∀ v' w', QS w' B v' (fo.app kd) → w.grownBy w' v.ownBlock → (v'.ownBlock = v.ownBlock ∨ v'.ownBlock = some w.heap.size) → wpList Tryz.prog ops Q rest (a.put o.dst v') w') :
    wpList Tryz.prog ops Q (o :: rest) a w := by
  refine wpList_plain hgd fun K hK => ?_
  obtain ⟨v', w', hr, h2, h3, h4⟩ := run_queue o.type (c := c) hq hk hl hB
  unfold Oper.wp execOp
  simp only [ho, resolve, invoke, builtin, Sem.run_bind, Sem.run_pure, Result.andThen_ok, List.map_toArray, List.map_cons, List.map_nil, hs, hx, hr]
  exact hK _ _ (h v' w' h2 h3 h4)
theorem step_append_queue {ops : Array Oper} {o : Oper} {a : Act} {K : Act → World → Prop} {Q : Exit → Act → World → Prop} {E : Prop} (w : World) (hgd : o.guard = none) (s x : Operand) (ho : o.op = .call { callee := .builtin .append, args := #[s, x], argTypes := #[29, 29] })
    {B c : Nat} {v : Value} {fo kd : Fo} {A : Option Addr} (hs : a.eval s = v) (hx : a.eval x = .slice A kd.len c) (hq : QS w B v fo) (hk : KidsAt w (fun g => g < B) kd A) (hl : fo.len + kd.len ≤ 1000000) (hB : B ≤ w.heap.size)
    (h : ∀ v' w', QS w' B v' (fo.app kd) → w.grownBy w' v.ownBlock → (v'.ownBlock = v.ownBlock ∨ v'.ownBlock = some w.heap.size) → K (a.put o.dst v') w') :
    if Region.wanted o (yielded ops a.tmps) = true then Oper.wp Tryz.prog o a w K Q else E := by
  have hw : Region.wanted o (yielded ops a.tmps) = true := by simp [Region.wanted, hgd]
  rw [if_pos hw]
  obtain ⟨v', w', hr, h2, h3, h4⟩ := run_queue o.type (c := c) hq hk hl hB
  unfold Oper.wp execOp
  simp only [ho, resolve, invoke, builtin, Sem.run_bind, Sem.run_pure, Result.andThen_ok, List.map_toArray, List.map_cons, List.map_nil, hs, hx, hr]
  exact h v' w' h2 h3 h4
theorem QS.grown {w w' : World} {B : Nat} {v : Value} {fo : Fo} {row : Option Nat} (h : QS w B v fo) (hg : w.grownBy w' row) (hr : ∀ k, row = some k → B ≤ k) (hne : v.ownBlock = none ∨ v.ownBlock ≠ row) (hB : B ≤ w.heap.size) : QS w' B v fo := by
  obtain ⟨vs, hown, hvs⟩ := h
  exact ⟨vs, hown.kept hg hne, RowV.same (fun g hg2 hl => ⟨hg.block g hl (fun e => by have := hr g e.symm; omega), hg2⟩) _ _ hvs⟩
/-- What the depth's walk knows at the head of its outer loop. -/
def DOut (w wr : World) (D : Nat) (v : Value) (d : Nat) : Prop := ∃ row : Fo, QS wr w.heap.size v row ∧ Below w.heap.size w wr ∧ d + row.deep = D ∧ row.size ≤ 2000
/-- .. and of its inner one. -/
def DIn (w wr : World) (row : Fo) (rv v : Value) (k : Nat) : Prop := ∃ nx : Fo, QS wr w.heap.size v nx ∧ QS wr w.heap.size rv row ∧ Below w.heap.size w wr ∧ (v.ownBlock = none ∨ v.ownBlock ≠ rv.ownBlock) ∧ nx.app (row.drop k).under = row.under
theorem DIn.step {w wr w' : World} {row : Fo} {rv v v' : Value} {k : Nat} {nx : Fo} (hk : k < row.len) (hn : QS w' w.heap.size v' (nx.app (row.nth k).kids)) (hR : QS wr w.heap.size rv row) (hB : Below w.heap.size w wr) (hne : v.ownBlock = none ∨ v.ownBlock ≠ rv.ownBlock) (hv : QS wr w.heap.size v nx) (he : nx.app (row.drop k).under = row.under)
    (hg : wr.grownBy w' v.ownBlock) (ha : v'.ownBlock = v.ownBlock ∨ v'.ownBlock = some wr.heap.size) : DIn w w' row rv v' (k + 1) := by
  have hlo := hv.lt
  have hlr := hR.lt
  refine ⟨_, hn, hR.grown hg (fun k hk => (hlo k hk).1) ?_ hB.size, below_grown hB hB.size hg (fun k hk => (hlo k hk).1), ?_, ?_⟩
  · rcases hne with hne | hne
    · right; intro e; rw [hne] at e
      obtain ⟨g, c, A2, c2, rfl, -⟩ := hR.nth k hk
      cases e
    · exact Or.inr fun e => hne e.symm
  · rcases ha with ha | ha
    · rw [ha]; exact hne
    · right; rw [ha]; intro e; have := (hlr _ e.symm).2; omega
  · rw [Fo.app_assoc, ← Fo.under_step row k hk]; exact he
set_option maxRecDepth 100000 in
set_option maxHeartbeats 2000000 in
theorem rDepth (a : Nd) (A : Option Addr) (c : Nat) (w : World) (hK : KidsAt w (fun g => g < w.heap.size) a.kids A) :
    Calls Tryz.prog 18 #[.agg #[.int .i64 a.f.k, .int .i64 a.f.vk, .int .i64 a.f.vn, .string a.f.vs, .int .i64 a.f.r1, .int .i64 a.f.r2, .int .i64 a.f.r3, .int .i64 a.f.r4, .string a.f.op, .slice A a.kids.len c]] w fun e w' => e = .returned (.int .i64 ((if a.size ≤ 2000 then a.deep else 0 : Nat) : Int)) ∧ Below w.heap.size w w' := by
  have b1 : Below w.heap.size w (w.alloc (.cells #[.int .i64 a.f.k, .int .i64 a.f.vk, .int .i64 a.f.vn, .string a.f.vs, .int .i64 a.f.r1, .int .i64 a.f.r2, .int .i64 a.f.r3, .int .i64 a.f.r4, .string a.f.op, .slice A a.kids.len c] 31)) := (Below.refl _ _).alloc (Nat.le_refl _) _
  have L1 : NLoc (w.alloc (.cells #[.int .i64 a.f.k, .int .i64 a.f.vk, .int .i64 a.f.vn, .string a.f.vs, .int .i64 a.f.r1, .int .i64 a.f.r2, .int .i64 a.f.r3, .int .i64 a.f.r4, .string a.f.op, .slice A a.kids.len c] 31)) w.heap.size a.f A a.kids.len c := ⟨heap_alloc_new _ _⟩
  have HK1 := Lib.hid (below_row hK b1)
  have HK := Lib.hid hK
  generalize hD : (if a.size ≤ 2000 then a.deep else 0) = D
  have HD := Lib.hid hD.symm
  clear hD hK
  go_enter Tryz.func18, Tryz.ntmps18
  go_wp2_with fail
  generalize (w.alloc (.cells #[.int .i64 a.f.k, .int .i64 a.f.vk, .int .i64 a.f.vn, .string a.f.vs, .int .i64 a.f.r1, .int .i64 a.f.r2, .int .i64 a.f.r3, .int .i64 a.f.r4, .string a.f.op, .slice A a.kids.len c] 31)) = W1 at *
  refine (knodes 2000 2000 rfl (by decide) a A c W1 HK1.out).mono ?_; rintro e w2 ⟨r, rfl, hb2, hr1, hr2, hr3⟩
  have B2 : Below w.heap.size w w2 := b1.trans (hb2.mono b1.size)
  have L2 := L1.kept (Kept.of (x := W1.heap.size) hb2) (Nat.ne_of_lt L1.lt)
  clear L1 b1 HK1
  by_cases hs : a.size ≤ 2000
  · have hr : r ≤ 2000 := by have := hr1 hs; omega
    have E0 : Hid (D = a.deep) := Lib.hid (HD.out.trans (if_pos hs))
    have hdd : a.deep ≤ a.size := by have := Fo.deep_size a.kids; unfold Nd.deep Nd.size; omega
    have t1 : ¬ (2000 : Int) < (r : Int) := by omega
    obtain ⟨d0, d1, d2, d3, d4, d5, d6, d7, d8, d9, -⟩ := L2.cells
    have HB2 := Lib.hid B2
    have b3 : Below w.heap.size w (w2.alloc (.cells #[.int .i64 a.f.k, .int .i64 a.f.vk, .int .i64 a.f.vn, .string a.f.vs, .int .i64 a.f.r1, .int .i64 a.f.r2, .int .i64 a.f.r3, .int .i64 a.f.r4, .string a.f.op, .slice A a.kids.len c] 31)) := B2.alloc B2.size _
    have HQ : Hid (DOut w (w2.alloc (.cells #[.int .i64 a.f.k, .int .i64 a.f.vk, .int .i64 a.f.vn, .string a.f.vs, .int .i64 a.f.r1, .int .i64 a.f.r2, .int .i64 a.f.r3, .int .i64 a.f.r4, .string a.f.op, .slice A a.kids.len c] 31)) a.deep (.slice (some ⟨w2.heap.size, 0, none⟩) 1 1) 0) := Lib.hid ⟨a.one, QS.one (f := a.f) (kd := a.kids) (c := c) (heap_alloc_new _ _) B2.size rfl (kids_below HK.out b3 (Nat.le_refl _)), b3, by rw [Nd.one_deep]; omega, by rw [Nd.one_size]; exact hs⟩
    clear hr1 hr2 hr3 hb2 B2 b3 L2
    go_wp2_with fail
    go_loopw [3, 4, 5] (fun v dv iv wr => ∃ d : Nat, d ≤ 2000 ∧ dv = .int .i64 d ∧ iv = .int .i64 d ∧ Hid (DOut w wr a.deep v d)) (fun _ _ iv _ => 2001 - (intOf iv).toNat)
    case atStart => exact ⟨0, by omega, rfl, rfl, HQ⟩
    case round =>
      clear HQ HB2 d0 d1 d2 d3 d4 d5 d6 d7 d8 d9
      obtain ⟨d, hd, rfl, rfl, HR⟩ := hrel
      obtain ⟨row, hQ, hB, hde, hrs⟩ := HR.out
      clear HR
      have hrl : row.len ≤ 2000 := Nat.le_trans (Fo.len_size row) hrs
      obtain ⟨RA, rc, rfl⟩ := hQ.form
      by_cases h0 : 0 < row.len
      · have hdp := Fo.deep_pos h0
        have hd2 : d < 2000 := by omega
        have HIN : Hid (DIn w wr row (.slice RA row.len rc) (.slice none 0 0) 0) := Lib.hid ⟨.nil, QS.nil _ _, hQ, hB, Or.inl rfl, by rw [Fo.drop_zero]; rfl⟩
        have HDE := Lib.hid (show d + row.deep = a.deep ∧ row.size ≤ 2000 from ⟨hde, hrs⟩)
        clear hQ hB hde hrs
        go_wp2_with fail
        go_loopw [6, 7] (fun v iv W9 => ∃ k : Nat, k ≤ row.len ∧ iv = .int .i64 k ∧ Hid (DIn w W9 row (.slice RA row.len rc) v k)) (fun _ iv _ => row.len - (intOf iv).toNat)
        case atStart => exact ⟨0, Nat.zero_le _, rfl, HIN⟩
        case round =>
          clear HIN
          obtain ⟨k, hk, rfl, HR⟩ := hrel
          obtain ⟨nx, hN, hQ, hB, hne, he⟩ := HR.out
          clear HR
          by_cases hlt : k < row.len
          · have hd1 : (k : Int) < (row.len : Int) := by omega
            obtain ⟨g, c9, A2, c2, e9, hg0, hg1, hkid, f0, f1, f2, f3, f4, f5, f6, f7, f8, f9⟩ := hQ.nth k hlt
            injection e9 with e91 e92 e93
            subst e91 e93
            have HST := Lib.hid (show QS wr w.heap.size _ row ∧ Below w.heap.size w wr ∧ _ ∧ nx.app (row.drop k).under = row.under from ⟨hQ, hB, hne, he⟩)
            have HN := Lib.hid hN
            have HKD := Lib.hid hkid
            have hnl : nx.len + (row.nth k).kids.len ≤ 1000000 := by
              have h1 := congrArg Fo.len he
              rw [Fo.len_app, Fo.under_step row k hlt, Fo.len_app] at h1
              have h2 := Fo.len_size row.under
              have h3 := Fo.under_size row
              have h4 := HDE.out.2
              omega
            have hBs := hB.size
            have HN2 := Lib.hid hN
            clear hQ hB hne he hN hkid f0 f1 f2 f3 f4 f5 f6 f7 f8 hg0 hg1
            obtain ⟨NA, nc, rfl⟩ := HN2.out.form
            clear HN2
            go_wp2_with (at_builtin
                         refine wpList_append_queue _ rfl (.tmp 28) (.tmp 33) rfl (B := w.heap.size) (c := c2) (fo := nx) (kd := (row.nth k).kids) (A := A2) rfl rfl HN.out HKD.out hnl hBs ?_
                         intro v9 w9 hq9 hg9 hat9
                         have HD9 : Hid (DIn w w9 row _ v9 (k + 1)) := Lib.hid (DIn.step hlt hq9 HST.out.1 HST.out.2.1 HST.out.2.2.1 HN.out HST.out.2.2.2 hg9 hat9)
                         clear hq9 hg9 hat9)
            go_roundw
            case rel => exact ⟨k + 1, by omega, by go_num, HD9⟩
            case measure => simp [intOf]; omega
          · have hd1 : ¬ (k : Int) < (row.len : Int) := by omega
            have hnx : nx = row.under := by rw [← he, Fo.drop_len row k (by omega)]; exact (Fo.app_nil nx).symm
            subst hnx
            obtain ⟨NA, nc, rfl⟩ := hN.form
            have HO : Hid (DOut w wr a.deep _ (d + 1)) := Lib.hid ⟨row.under, hN, hB, by have h1 := HDE.out.1; have h2 := Fo.under_deep row; omega, by have h1 := HDE.out.2; have h2 := Fo.under_size row; omega⟩
            clear hN hQ hB hne he
            go_wp2_with fail
            go_roundw
            case rel => exact ⟨d + 1, by omega, by go_num, by go_num, HO⟩
            case measure => simp [intOf]; omega
      · have hz : row.len = 0 := by omega
        have h0' : ¬ 0 < row.len := h0
        have E1 : Hid (a.deep = d) := Lib.hid (by have := Fo.deep_nil hz; omega)
        have hB9 := Lib.hid hB
        clear hQ hB hde hrs
        go_wp2_with fail
        go_ret
        exact ⟨by show Ending.returned (.int .i64 (d : Int)) = _; rw [E0.out, E1.out], hB9.out⟩
  · have t1 : (2000 : Int) < (r : Int) := by have := hr2 (by omega); omega
    have E0 : Hid (D = 0) := Lib.hid (HD.out.trans (if_neg hs))
    have HB2 := Lib.hid B2
    clear hr1 hr2 hr3 hb2 B2 L2
    go_wp2_with fail
    go_ret
    exact ⟨by rw [E0.out]; rfl, HB2.out⟩

end Go.Proofs.YtkdgiadpmfpjnaaGreatDoor.TreeC
