/-
  The way through a graph in memory: what its steps leave.
-/
import Derived.Test.YtakamedgdiffbaaGreatDoorPPlaysGraphU1
import Derived.Deep.LoopGhost
import Derived.ChangeKeysEq
namespace Go.Proofs.YtakamedgdiffbaaGreatDoor.GraphC
set_option linter.unusedVariables false
open Go.RowKit Go.Proofs.YtakamedgdiffbaaGreatDoor.NumC Go.Proofs.YtakamedgdiffbaaGreatDoor.RowsC
open Go.Proofs.YtakamedgdiffbaaGreatDoor.RefsC (Rc RAt hitsL RBox Srt)
open Go.Proofs.YtakamedgdiffbaaGreatDoor.TreeC (Kept)
def spF (s : Sp3) : List Value := [.int .i64 (s.a : Int), .int .i64 (s.m : Int), .int .i64 (s.t : Int)]
theorem kindSp : Kind spF 3 99 97 where
  row := ⟨fun _ => rfl, fun x u hu => by
    simp only [spF, List.mem_cons, List.not_mem_nil, or_false] at hu
    rcases hu with rfl | rfl | rfl <;> rfl, by decide⟩
  under := Tryz.underlying99
  info := ⟨.agg #[.int .i64 0, .int .i64 0, .int .i64 0], 24, by kernel_rfl, rfl, by decide⟩
theorem sp_take {w : World} {B g n c : Nat} {l : List Sp3} {s : Sp3} (h : Owns spF 3 97 w B (.slice (some ⟨g, 0, none⟩) n c) (l ++ [s])) : Owns spF 3 97 w B (.slice (some ⟨g, 0, none⟩) l.length c) l := by
  obtain ⟨h1, ⟨h2, -⟩ | ⟨g', cap, cur, e, hb, hg, q1, q2, q3, q4⟩⟩ := h
  · cases h2
  · injection e with e1 e2 e3
    injection e1 with e1
    injection e1 with e1
    subst e1 e3
    have hl := kindSp.row.flat l
    rw [List.flatMap_append] at q4
    refine ⟨hl, Or.inr ⟨g, c, cur, rfl, hb, hg, ?_, q2, q3, ?_⟩⟩
    · rw [List.length_append] at q1; omega
    · have := congrArg (List.take (l.length * 3)) q4
      rw [List.take_take, Nat.min_eq_left (by rw [List.length_append]; omega)] at this
      rw [this, ← hl]
      exact List.take_left
theorem sp_next {w : World} {B g n c : Nat} {l : List Sp3} {a m t : Nat} (h : Owns spF 3 97 w B (.slice (some ⟨g, 0, none⟩) n c) (l ++ [⟨a, m, t⟩])) (t' : Nat) :
    Owns spF 3 97 (w.setCell ⟨g, l.length * 3 + 2, none⟩ (.int .i64 (t' : Int))) B (.slice (some ⟨g, 0, none⟩) n c) (l ++ [⟨a, m, t'⟩]) := by
  obtain ⟨h1, ⟨h2, -⟩ | ⟨g', cap, cur, e, hb, hg, q1, q2, q3, q4⟩⟩ := h
  · cases h2
  · injection e with e1 e2 e3
    injection e1 with e1
    injection e1 with e1
    subst e1 e3
    have hl := kindSp.row.flat l
    rw [List.flatMap_append] at q4
    have hn : (l ++ [(⟨a, m, t'⟩ : Sp3)]).length = (l ++ [(⟨a, m, t⟩ : Sp3)]).length := by simp
    unfold Owns
    rw [hn]
    refine ⟨by rw [kindSp.row.flat, hn], Or.inr ⟨g, c, cur.setIfInBounds (l.length * 3 + 2) (.int .i64 (t' : Int)), by rw [e2], hb, heap_setCell_same w g _ _ _ _ hg, q1, q2, by simpa using q3, ?_⟩⟩
    rw [Array.toList_setIfInBounds, List.take_set, q4, List.flatMap_append]
    have e4 : l.length * 3 + 2 = (l.flatMap spF).length + 2 := by rw [hl]
    rw [e4, List.set_append_right _ _ (by omega), Nat.add_sub_cancel_left]
    rfl
structure TS (w0 w : World) (S T : Nat → Prop) (B : Nat) (P N Q : Nat → Prop) (mo : Option Nat) (G : Gl) (L : WL) (wv v : Value) (σ0 σ : Wk) (way : List Sp3) : Prop where
  ws : WS w B P N Q mo G L v σ
  inv : Inv G.length (refsP G) σ
  ok : WayOk (refsP G) σ.op σ.f σ.op.length way
  row : Owns spF 3 97 w B wv way.reverse
  own : ∀ k, wv.ownBlock = some k → ¬ P k ∧ ¬ N k
  up : ∀ c, σ0.f c ≠ 0 → σ.f c ≠ 0
  bu : But S w0 w
  pg : ∀ k, P k → S k ∨ w0.heap.size ≤ k
  og : ∀ k, wv.ownBlock = some k → S k ∨ w0.heap.size ≤ k
  ng : ∀ k, N k → T k ∨ w0.heap.size ≤ k
theorem refs_in (G : Gl) : ∀ i j, i < G.length → j ∈ refsP G i → j < G.length := fun _ _ _ h => refs_lt h
section
variable {w0 w w' : World} {S T : Nat → Prop} {B : Nat} {P N Q : Nat → Prop} {mo : Option Nat} {G : Gl} {L : WL} {wv v : Value} {σ0 σ : Wk} {way : List Sp3}
theorem TS.under (h : TS w0 w S T B P N Q mo G L wv v σ0 σ way) (hb : Below w.heap.size w w') : TS w0 w' S T B P N Q mo G L wv v σ0 σ way :=
  { h with ws := h.ws.under hb, row := h.row.below hb, bu := h.bu.trans (But.of (P := S) hb) (fun _ _ e => e) }
theorem TS.last {a m t : Nat} (h : TS w0 w S T B P N Q mo G L wv v σ0 σ (⟨a, m, t⟩ :: way)) : a < G.length ∧ 1 ≤ m ∧ m ≤ σ.op.length ∧ σ.f a ≠ 0 ∧ t ≤ (refsP G a).length ∧ σ.op.length ≤ G.length ∧ ∀ x, x ∈ σ.op → x < G.length ∧ σ.f x ≠ 0 := by
  obtain ⟨Sg, -, -⟩ := h.ok
  have hao : a ∈ σ.op := List.mem_of_getElem? Sg.at_
  exact ⟨h.inv.lt a hao, Sg.m1, Sg.mh, by have := (h.inv.open_lt hao).1; omega, Sg.tl, h.inv.len, fun x hx => ⟨h.inv.lt x hx, by have := (h.inv.open_lt hx).1; omega⟩⟩
theorem TS.cells {a m t : Nat} (h : TS w0 w S T B P N Q mo G L wv v σ0 σ (⟨a, m, t⟩ :: way)) : ∃ g c, wv = .slice (some ⟨g, 0, none⟩) (way.length + 1) c ∧ way.length + 1 ≤ c ∧ B ≤ g ∧ ¬ P g ∧ ¬ N g ∧ w.cell? ⟨g, way.length * 3, none⟩ = some (.int .i64 (a : Int)) ∧ w.cell? ⟨g, way.length * 3 + 1, none⟩ = some (.int .i64 (m : Int)) ∧ w.cell? ⟨g, way.length * 3 + 2, none⟩ = some (.int .i64 (t : Int)) ∧ ∀ o, w.frozen? ⟨g, o, none⟩ = false := by
  have hr := h.row
  rw [List.reverse_cons] at hr
  obtain ⟨h1, ⟨h2, h3⟩ | ⟨g, cap, cur, e, hb, hg, h2, -⟩⟩ := hr
  · simp at h3
  · have ho := h.own g (by rw [e]; rfl)
    have hr := h.row
    rw [List.reverse_cons, e] at hr
    have hl : (way.reverse ++ [(⟨a, m, t⟩ : Sp3)]).length = way.length + 1 := by simp
    rw [hl] at e h2
    rcases (hr.reads kindSp.row).2 with hq | ⟨g', o, e2, -, hq⟩
    · simp at hq
    · cases e2
      have hat : (way.reverse ++ [(⟨a, m, t⟩ : Sp3)])[way.length]? = some ⟨a, m, t⟩ := by
        rw [List.getElem?_append_right (by simp)]; simp
      have z := hq way.length _ hat
      have z0 := z 0 _ rfl
      have z1 := z 1 _ rfl
      have z2 := z 2 _ rfl
      rw [Nat.zero_add, Nat.add_zero] at z0
      rw [Nat.zero_add] at z1 z2
      exact ⟨g, cap, e, h2, hb, ho.1, ho.2, z0, z1, z2, fun o => by simp [World.frozen?, hg]⟩
theorem TS.look {a m t c : Nat} (h : TS w0 w S T B P N Q mo G L wv v σ0 σ (⟨a, m, t⟩ :: way)) (hn : G.length ≤ 1000) (ht : (refsP G a)[t]? = some c) (h0 : σ.f c ≠ 0) {g cap : Nat} (hv : wv = .slice (some ⟨g, 0, none⟩) (way.length + 1) cap) :
    TS w0 ((w.setCell ⟨L.gf, a, none⟩ (.int .i64 ((min (σ.f a) (σ.f c) : Nat) : Int))).setCell ⟨g, way.length * 3 + 2, none⟩ (.int .i64 ((t + 1 : Nat) : Int))) S T B P N Q mo G L wv v σ0 (lookW σ a c) (⟨a, m, t + 1⟩ :: way) := by
  obtain ⟨ha, hm1, hm2, hfa, -, -, -⟩ := h.last
  obtain ⟨I, W⟩ := look_ok h.inv hn (refs_in G) h.ok ht h0
  obtain ⟨s1, s2⟩ := h.ws.setF a (min (σ.f a) (σ.f c)) ha (Or.inr (Or.inl hfa))
  have hg := h.own g (by rw [hv]; rfl)
  have hS : ∀ k, P k → k < w0.heap.size → S k := fun k hp hk => (h.pg k hp).elim id (fun e => by omega)
  have hgB : B ≤ g := (h.row.lt g (by rw [hv]; rfl)).1
  have hrow : Owns spF 3 97 (w.setCell ⟨L.gf, a, none⟩ (.int .i64 ((min (σ.f a) (σ.f c) : Nat) : Int))) B wv (way.reverse ++ [⟨a, m, t⟩]) := by
    have := h.row
    rw [List.reverse_cons] at this
    exact owns_same this fun k e => s2.block k (this.lt k e).2 (fun e2 => by have := (h.own k e).1; rw [e2] at this; exact this h.ws.pf)
  have hK : Kept g (w.setCell ⟨L.gf, a, none⟩ (.int .i64 ((min (σ.f a) (σ.f c) : Nat) : Int))) ((w.setCell ⟨L.gf, a, none⟩ (.int .i64 ((min (σ.f a) (σ.f c) : Nat) : Int))).setCell ⟨g, way.length * 3 + 2, none⟩ (.int .i64 ((t + 1 : Nat) : Int))) := (Kept.refl g _).setCell _ _
  have hs := h.bu.size
  refine { ws := s1.stay hK.size fun k hk hor => hK.block k hk fun e => ?_, inv := I, ok := W, row := ?_, own := h.own, up := fun x hx => ?_, bu := ?_, pg := h.pg, og := h.og, ng := h.ng }
  · subst e
    rcases hor with e | e | e
    · omega
    · exact hg.1 e
    · exact hg.2 e
  · rw [List.reverse_cons, hv]
    rw [hv] at hrow
    have := sp_next hrow (t + 1)
    rwa [List.length_reverse] at this
  · have h1 := h.up x hx
    show upd σ.f a (min (σ.f a) (σ.f c)) x ≠ 0
    by_cases e : x = a
    · rw [e, upd_self]; omega
    · rw [upd_ne _ _ e]; exact h1
  · exact (h.bu.trans (But.kept s2) (fun k hk e => hS k (e ▸ h.ws.pf) hk)).trans (But.kept hK) (fun k hk e => by
      rcases h.og g (by rw [hv]; rfl) with h2 | h2
      · exact e ▸ h2
      · omega)
theorem TS.rowAt (h : TS w0 w S T B P N Q mo G L wv v σ0 σ way) {w7 : World} (hb : But P w w7) : Owns spF 3 97 w7 B wv way.reverse :=
  owns_same h.row fun k e => hb.block k (h.row.lt k e).2 (h.own k e).1
theorem TS.push (h : TS w0 w S T B P N Q mo G L wv v σ0 σ way) (hn : G.length ≤ 1000) {w7 w9 : World} {c : Nat} {v' wv' : Value} {P' N' : Nat → Prop} (hc : c < G.length) (h0 : σ.f c = 0) (hw : ∀ u, way.head? = some u → (refsP G u.a)[u.t]? = some c)
    (hb : But P w w7) (hws : WS w7 B P' N' Q mo G L v' (meetW σ c)) (hp : Grew w w7 P P') (hN : Grew w w7 N N') (ho : Owns spF 3 97 w9 B wv' (way.reverse ++ [⟨c, σ.op.length + 1, 0⟩]))
    (hg : (w7.alloc (.cells (spF ⟨c, σ.op.length + 1, 0⟩).toArray 97)).grownBy w9 wv.ownBlock) (hat : wv'.ownBlock = wv.ownBlock ∨ wv'.ownBlock = some (w7.alloc (.cells (spF ⟨c, σ.op.length + 1, 0⟩).toArray 97)).heap.size) :
    TS w0 w9 S T B P' N' Q mo G L wv' v' σ0 (meetW σ c) (⟨c, σ.op.length + 1, 0⟩ :: way) := by
  obtain ⟨I, W⟩ := meet_ok h.inv hn (refs_in G) h.ok hc h0 hw
  have hs0 := h.bu.size
  have hs7 := hb.size
  have hs9 : w7.heap.size + 1 ≤ w9.heap.size := by have := hg.size; rw [World.size_alloc] at this; omega
  have hblk : ∀ k, k < w7.heap.size → wv.ownBlock ≠ some k → w9.heap[k]? = w7.heap[k]? := fun k hk hne => (hg.block k (by rw [World.size_alloc]; omega) (fun e => hne e.symm)).trans (((Below.refl w7.heap.size w7).alloc (Nat.le_refl _) _).block k hk)
  have hown : ∀ k, wv.ownBlock = some k → ¬ P' k ∧ ¬ N' k := fun k e => ⟨fun e2 => (hp k e2).elim (h.own k e).1 (fun e3 => by have := (h.row.lt k e).2; omega), fun e2 => (hN k e2).elim (h.own k e).2 (fun e3 => by have := (h.row.lt k e).2; omega)⟩
  refine { ws := hws.stay (by omega) fun k hk hor => hblk k hk fun e => ?_, inv := I, ok := W, row := by rw [List.reverse_cons]; exact ho, own := fun k e => ?_, up := fun x hx => ?_, bu := ?_, pg := fun k e => ?_, og := fun k e => ?_, ng := fun k e => (hN k e).elim (h.ng k) (fun e2 => Or.inr (by omega)) }
  · rcases hor with e2 | e2 | e2
    · have := (h.row.lt k e).1; omega
    · exact (hown k e).1 e2
    · exact (hown k e).2 e2
  · rcases hat with e2 | e2
    · rw [e2] at e; exact hown k e
    · rw [e2, World.size_alloc] at e
      cases e
      exact ⟨fun e3 => by have := (hws.plow _ e3).2; omega, fun e3 => by have := (hws.nlow _ e3).2; omega⟩
  · have h1 := h.up x hx
    show upd σ.f c (σ.op.length + 1) x ≠ 0
    by_cases e : x = c
    · rw [e, upd_self]; omega
    · rw [upd_ne _ _ e]; exact h1
  · refine ⟨hg.os.trans (hb.os.trans h.bu.os), hg.tape.trans (hb.tape.trans h.bu.tape), hg.output.trans (hb.output.trans h.bu.output), by omega, fun k hk hn2 => ?_⟩
    have e1 : wv.ownBlock ≠ some k := fun e => (h.og k e).elim hn2 (fun e2 => by omega)
    have e2 : ¬ P k := fun e => (h.pg k e).elim hn2 (fun e2 => by omega)
    exact (hblk k (by omega) e1).trans ((hb.block k (by omega) e2).trans (h.bu.block k hk hn2))
  · rcases hp k e with e2 | e2
    · exact h.pg k e2
    · exact Or.inr (by omega)
  · rcases hat with e2 | e2
    · rw [e2] at e; exact h.og k e
    · rw [e2, World.size_alloc] at e
      cases e
      exact Or.inr (by omega)
theorem TS.pop {a m t : Nat} (h : TS w0 w S T B P N Q mo G L wv v σ0 σ (⟨a, m, t⟩ :: way)) (hn : G.length ≤ 1000) (ht : t = (refsP G a).length) {v' : Value} (hb : But P w w') (hws : WS w' B P N Q mo G L v' (leaveW G σ a m)) {g cap : Nat} (hv : wv = .slice (some ⟨g, 0, none⟩) (way.length + 1) cap) :
    TS w0 w' S T B P N Q mo G L (.slice (some ⟨g, 0, none⟩) way.length cap) v' σ0 (leaveW G σ a m) way := by
  obtain ⟨ha, hm1, hm2, hfa, -, -, -⟩ := h.last
  have hrow := h.rowAt hb
  rw [List.reverse_cons, hv] at hrow
  have hrow := sp_take hrow
  rw [List.length_reverse] at hrow
  have hS : ∀ k, P k → k < w0.heap.size → S k := fun k hp hk => (h.pg k hp).elim id (fun e => by omega)
  have hIW : Inv G.length (refsP G) (leaveW G σ a m) ∧ WayOk (refsP G) (leaveW G σ a m).op (leaveW G σ a m).f (leaveW G σ a m).op.length way := by
    unfold leaveW
    by_cases hf : σ.f a < m
    · rw [if_pos hf]
      exact ⟨h.inv, early_ok h.inv h.ok ht hf⟩
    · rw [if_neg hf]
      exact close_ok h.inv hn (refs_in G) h.ok ht hf (fun j => ring_bit _ _ _ j)
  refine { ws := hws, inv := hIW.1, ok := hIW.2, row := hrow, own := fun k e => h.own k (by rw [hv]; exact e), up := fun x hx => ?_, bu := h.bu.trans hb (fun k hk e => hS k e hk), pg := h.pg, og := fun k e => h.og k (by rw [hv]; exact e), ng := h.ng }
  have h1 := h.up x hx
  unfold leaveW
  split
  · exact h1
  · show (if x ∈ σ.op.drop (m - 1) then 1001 else σ.f x) ≠ 0
    split
    · decide
    · exact h1
theorem mu_leave {a m t : Nat} (h : TS w0 w S T B P N Q mo G L wv v σ0 σ (⟨a, m, t⟩ :: way)) : muW G.length (refsP G) (leaveW G σ a m) way < muW G.length (refsP G) σ (⟨a, m, t⟩ :: way) := by
  unfold leaveW
  split
  · exact mu_early
  · exact mu_close (fun i hi => by have := (h.inv.open_lt hi).1; omega)
end
end Go.Proofs.YtakamedgdiffbaaGreatDoor.GraphC
namespace Go.Proofs.YtakamedgdiffbaaGreatDoor.GraphC
set_option linter.unusedVariables false
open Go.RowKit Go.Proofs.YtakamedgdiffbaaGreatDoor.NumC Go.Proofs.YtakamedgdiffbaaGreatDoor.RowsC
open Go.Proofs.YtakamedgdiffbaaGreatDoor.RefsC (Rc RAt hitsL RBox Srt)
open Go.Proofs.YtakamedgdiffbaaGreatDoor.TreeC (Kept)
theorem way_len {R : Nat → List Nat} {op : List Nat} {f : Nat → Nat} : ∀ (way : List Sp3) (hi : Nat), WayOk R op f hi way → way.length ≤ hi
  | [], hi, _ => Nat.zero_le _
  | s :: r, hi, ⟨Sg, _, h⟩ => by
    have h1 := way_len r _ h
    have h2 := Sg.m1
    have h3 := Sg.mh
    rw [List.length_cons]; omega
theorem back_len1 (n : Nat) (h : n ≤ 1000) : IntKind.i64.wrap ((n : Int) + 1 - 1) = (n : Int) := by rw [IntKind.wrap_i64]; omega
theorem back_len (n c : Nat) (h : n ≤ 1000) (hc : n ≤ c) : (0 ≤ wrap64 (n : Int) ∧ wrap64 (n : Int) ≤ (c : Int)) ∧ (wrap64 (n : Int)).toNat = n := by
  have e : wrap64 (n : Int) = (n : Int) := by unfold wrap64; omega
  rw [e]; omega
def ThroughPost (S T : Nat → Prop) (B : Nat) (Q : Nat → Prop) (mo : Option Nat) (G : Gl) (L : WL) (σ0 : Wk) (w : World) (e : Ending) (w' : World) : Prop :=
  e = .returned (.tuple #[]) ∧ ∃ P' N' v' σ', WS w' B P' N' Q mo G L v' σ' ∧ Inv G.length (refsP G) σ' ∧ σ'.op = [] ∧ (∀ c, σ0.f c ≠ 0 → σ'.f c ≠ 0) ∧ But S w w' ∧ (∀ k, P' k → S k ∨ w.heap.size ≤ k) ∧ ∀ k, N' k → T k ∨ w.heap.size ≤ k
set_option maxHeartbeats 4000000 in
set_option maxRecDepth 100000 in
theorem cthrough {S T : Nat → Prop} {B : Nat} {P N Q : Nat → Prop} {mo : Option Nat} {G : Gl} {L : WL} {wv v : Value} {σ0 : Wk} {way : List Sp3} (w : World) (h : TS w w S T B P N Q mo G L wv v σ0 σ0 way) (hg : GoodG G) (hs : SrtG bfP G) (hbd : Bnd G) :
    Calls Tryz.prog 63 #[.pointer (some ⟨L.b, 0, none⟩), wv] w (ThroughPost S T B Q mo G L σ0 w) := by
  have HGood := Lib.hid hg
  have HS := Lib.hid hs
  have HBD := Lib.hid hbd
  have hn := hbd.1
  have H0 := Lib.hid h
  clear h hg hs hbd
  generalize hPost : ThroughPost S T B Q mo G L σ0 w = POST
  have HPOST := Lib.hid hPost
  clear hPost
  go_enter Tryz.func63, Tryz.ntmps63
  go_wp2_with fail
  go_step3
  go_wp2_with fail
  go_step3
  go_wp2_with fail
  go_loopg [1] (muW G.length (refsP G) σ0 way) (fun k x wr => Hid (∃ P N v σ way, TS w wr S T B P N Q mo G L x v σ0 σ way ∧ k = muW G.length (refsP G) σ way))
  case atStart => exact Lib.hid ⟨_, _, _, _, _, H0.out, rfl⟩
  case round =>
    clear H0
    obtain ⟨P, N, v, σ, way, hts, hgk⟩ := hrel.out
    clear hrel
    obtain ⟨K1, rfl⟩ : ∃ K1, K1 = gk := ⟨_, rfl⟩
    cases way with
    | nil =>
      obtain ⟨A, c, rfl, -⟩ := hts.row.form
      have HF : Hid (ThroughPost S T B Q mo G L σ0 w (.returned (.tuple #[])) wr) := Lib.hid ⟨rfl, P, N, v, σ, hts.ws, hts.inv, List.length_eq_zero_iff.1 hts.ok, hts.up, hts.bu, hts.pg, hts.ng⟩
      clear hts hgk
      simp only [List.reverse_nil, List.length_nil]
      go_wp2_with fail
      refine bodyPost_end (results_none (by rfl) _ _ _) rfl ?_
      rw [← HPOST.out]
      exact HF.out
    | cons s r =>
      obtain ⟨a, m, t⟩ := s
      obtain ⟨g, cap, rfl, hcap, hgB, gP, gN, z0, z1, z2, z3⟩ := hts.cells
      obtain ⟨ha, hm1, hm2, hfa, htl, hol, -⟩ := hts.last
      have hwl := way_len _ _ hts.ok
      rw [List.length_cons] at hwl
      have hd : (0 : Int) < (r.length : Int) + 1 := by omega
      have hwr : IntKind.i64.wrap ((r.length : Int) + 1 - 1) = (r.length : Int) := by rw [IntKind.wrap_i64]; omega
      have c2 := hts.ws.cell.2.2.1
      obtain ⟨-, A, m0, c0, r0, r1⟩ := hts.ws.refs a ha
      obtain ⟨rfl, r2, r3⟩ := r1 hfa
      have ha9 : (a : Int) < (G.length : Int) := by omega
      have HTS := Lib.hid hts
      have HGK := Lib.hid hgk
      clear hts hgk r1 r2 r3 htl
      go_wp2_with fail
      refine region_tail 10 (by kernel_rfl) (by kernel_rfl) ?_
      simp only [List.take_succ_cons, List.take_zero, List.drop_succ_cons, List.drop_zero]
      have HTD := Lib.hid (HTS.out.under (w' := wr.drew) (below_drewN' (Below.refl wr.heap.size wr) 1))
      replace z0 : wr.drew.cell? ⟨g, r.length * 3, none⟩ = some (.int .i64 (a : Int)) := z0
      replace c2 : wr.drew.cell? ⟨L.b, 2, none⟩ = some (.slice (some ⟨L.gr, 0, none⟩) G.length G.length) := c2
      replace r0 : wr.drew.cell? ⟨L.gr, a, none⟩ = some (.slice A (refsP G a).length c0) := r0
      clear z1 z2 z3 HTS
      generalize wr.drew = V at *
      iterate 10 still_step
      refine wpStill_nil ?_
      go_wp2_with fail
      have R0 := Lib.hid r0
      clear c2 z0 r0 hm1 hm2 hfa hol
      go_loopg [1] K1 (fun k x wz => x = .slice (some ⟨g, 0, none⟩) (r.length + 1) cap ∧ Hid (k ≤ K1 ∧ ∃ σ t, TS w wz S T B P N Q mo G L (.slice (some ⟨g, 0, none⟩) (r.length + 1) cap) v σ0 σ (⟨a, m, t⟩ :: r) ∧ k = muW G.length (refsP G) σ (⟨a, m, t⟩ :: r) ∧ wz.cell? ⟨L.gr, a, none⟩ = some (.slice A (refsP G a).length c0)))
      case atStart => exact ⟨rfl, Lib.hid ⟨Nat.le_refl _, σ, t, HTD.out, HGK.out, R0.out⟩⟩
      case round =>
        clear HTD HGK R0 hwl
        obtain ⟨rfl, HR⟩ := hrel
        clear ha9 hd hwr
        obtain ⟨hle, σ, t, hts, hgk, r0⟩ := HR.out
        clear HR
        obtain ⟨g', cap', e9, -, -, -, -, z0, z1, z2, z3⟩ := hts.cells
        injection e9 with e1 e2 e3
        injection e1 with e1
        injection e1 with e1
        subst e1 e3
        clear e2
        obtain ⟨-, hm1, hm2, hfa, htl, hol, hopn⟩ := hts.last
        obtain ⟨-, A', m', c', q0, q1⟩ := hts.ws.refs a ha
        rw [r0] at q0
        cases q0
        obtain ⟨-, q2, -⟩ := q1 hfa
        clear q1
        by_cases hlt : t < (refsP G a).length
        · have hd1 : (t : Int) < ((refsP G a).length : Int) := by omega
          obtain ⟨c, hc⟩ := RowsC.at_some (refsP G a) t hlt
          have hcn := refs_lt (List.mem_of_getElem? hc)
          obtain ⟨h9, o9, rfl, zc⟩ : ∃ h9 o9, A = some ⟨h9, o9, none⟩ ∧ wr.cell? ⟨h9, o9 + t, none⟩ = some (.int .i64 (c : Int)) := by
            rcases q2 with e | ⟨h9, o9, e, -, hr⟩
            · rw [e] at hlt; simp at hlt
            · exact ⟨h9, o9, e, by have := hr t c hc 0 _ rfl; simpa using this⟩
          obtain ⟨fc, -⟩ := hts.ws.firsts c hcn
          have c5 := hts.ws.cell.2.2.2.2.2
          have hcn9 : (c : Int) < (G.length : Int) := by omega
          have ht0 : (0 : Int) ≤ (t : Int) := by omega
          have hc0 : (0 : Int) ≤ (c : Int) := by omega
          have HTS := Lib.hid hts
          have HGK := Lib.hid hgk
          have HC := Lib.hid hc
          have HR0 := Lib.hid r0
          by_cases hf0 : σ.f c = 0
          · rw [hf0] at fc
            have HF0 := Lib.hid hf0
            obtain ⟨l1, hl1⟩ : ∃ l1, l1 = σ.op.length + 1 := ⟨_, rfl⟩
            have HL1 := Lib.hid hl1
            have hcall := cmeet c wr hts.ws HGood.out HS.out HBD.out hcn (by omega)
            clear hts hgk hc q2 r0 hf0 hl1 z0 z1
            go_wp2_with fail
            refine hcall.mono ?_; rintro e w7 ⟨he, hb7, v', P', N', hw7, hgp, hgn⟩
            rw [← HL1.out] at he
            subst he
            have HM := Lib.hid (And.intro hb7 (And.intro hw7 (And.intro hgp hgn)))
            clear hcall hb7 hw7 hgp hgn zc fc c5 z2 z3
            have hlen9 : ((⟨a, m, t⟩ : Sp3) :: r).reverse.length + 1 ≤ 100000000 := by
              have := way_len _ _ HTS.out.ok
              rw [List.length_reverse]; omega
            have hB9 := HM.out.2.1.base
            go_wp2_with (at_builtin
                         refine wpList_append_owns kindSp _ rfl (.tmp 54) (.tmp 58) rfl (l := ((⟨a, m, t⟩ : Sp3) :: r).reverse) (m := [(⟨c, l1, 0⟩ : Sp3)]) (B := B) rfl rfl rfl ((HTS.out.rowAt HM.out.1).below ((Below.refl _ _).alloc (Nat.le_refl _) _)) (Boxed.new (f := spF) w7 ⟨c, l1, 0⟩).reads hlen9 (by rw [World.size_alloc]; omega) ?_
                         intro wv' w9 ho' hg' hat'
                         have HD := Lib.hid (And.intro ho' (And.intro hg' hat'))
                         clear ho' hg' hat')
            go_roundg (muW G.length (refsP G) (meetW σ c) (⟨c, σ.op.length + 1, 0⟩ :: ⟨a, m, t⟩ :: r))
            case measure =>
              have h1 := mu_meet (way := ⟨a, m, t⟩ :: r) hcn HF0.out (refs_len G c)
              have h2 := HGK.out
              omega
            case rel =>
              have hl1 := HL1.out
              subst hl1
              exact Lib.hid ⟨P', N', v', meetW σ c, _, HTS.out.push hn hcn HF0.out (fun u hu => by cases hu; exact HC.out) HM.out.1 HM.out.2.1 HM.out.2.2.1 HM.out.2.2.2 HD.out.1 HD.out.2.1 HD.out.2.2, rfl⟩
          · have hf1 : ¬ ((σ.f c : Nat) : Int) = 0 := by omega
            have HF0 := Lib.hid hf0
            clear hts hgk hc q2 r0 hf0 z1
            go_wp2_with fail
            clear zc
            refine region_tail 27 (by kernel_rfl) (by kernel_rfl) ?_
            simp only [List.take_succ_cons, List.take_zero, List.drop_succ_cons, List.drop_zero]
            have HTD := Lib.hid (HTS.out.under (w' := wr.drew) (below_drewN' (Below.refl wr.heap.size wr) 1))
            have HRD : Hid (wr.drew.cell? ⟨L.gr, a, none⟩ = some (.slice (some ⟨h9, o9, none⟩) (refsP G a).length c0)) := HR0
            replace z0 : wr.drew.cell? ⟨g, r.length * 3, none⟩ = some (.int .i64 (a : Int)) := z0
            replace z2 : wr.drew.cell? ⟨g, r.length * 3 + 2, none⟩ = some (.int .i64 (t : Int)) := z2
            have y3 : wr.drew.frozen? ⟨g, r.length * 3 + 2, none⟩ = false := z3 _
            replace fc : wr.drew.cell? ⟨L.gf, c, none⟩ = some (.int .i64 ((σ.f c : Nat) : Int)) := fc
            replace c5 : wr.drew.cell? ⟨L.b, 5, none⟩ = some (.slice (some ⟨L.gf, 0, none⟩) G.length G.length) := c5
            clear HTS HR0 z3
            generalize wr.drew = Z at *
            obtain ⟨fa, fz⟩ := HTD.out.ws.firsts a ha
            have ha9 : (a : Int) < (G.length : Int) := by omega
            have ha0 : (0 : Int) ≤ (a : Int) := by omega
            have gfn : g ≠ L.gf := fun e => gP (e ▸ HTD.out.ws.pf)
            have gfm : L.gf ≠ g := fun e => gfn e.symm
            have hLk := Lib.hid (HTD.out.look hn HC.out HF0.out rfl)
            have htw : IntKind.i64.wrap ((t : Int) + 1) = (t : Int) + 1 := by
              have := refs_len G a
              rw [IntKind.wrap_i64]; omega
            iterate 27 still_step
            refine wpStill_nil ?_
            go_wp2_with fail
            have hmn : ((min (σ.f a) (σ.f c) : Nat) : Int) = min ((σ.f a : Nat) : Int) ((σ.f c : Nat) : Int) := by omega
            have htn : ((t + 1 : Nat) : Int) = (t : Int) + 1 := by push_cast; rfl
            rw [hmn, htn] at hLk
            have hgr : L.gr ≠ L.gf := HTD.out.ws.d1.2.2.2.2.1
            have hgg : L.gr ≠ g := fun e => gP (e ▸ HTD.out.ws.pr)
            go_roundg (muW G.length (refsP G) (lookW σ a c) (⟨a, m, t + 1⟩ :: r))
            case measure =>
              have h1 := mu_look (n := G.length) (way := r) (m := m) HC.out hfa HF0.out
              have h2 := HGK.out
              omega
            case rel =>
              have h1 := mu_look (n := G.length) (way := r) (m := m) HC.out hfa HF0.out
              have h2 := HGK.out
              refine ⟨rfl, Lib.hid ⟨by omega, lookW σ a c, t + 1, hLk.out, rfl, ?_⟩⟩
              rw [World.cell?_setCell_other _ _ _ _ (fun e => hgg (by injection e with e; exact e.symm)), World.cell?_setCell_other _ _ _ _ (fun e => hgr (by injection e with e; exact e.symm))]
              exact HRD.out
        · have hd1 : ¬ (t : Int) < ((refsP G a).length : Int) := by omega
          have hte : t = (refsP G a).length := by omega
          have HTE := Lib.hid hte
          have HTS := Lib.hid hts
          have HGK := Lib.hid hgk
          have hcall := cleave a m (t : Int) wr hts.ws ha hm1 hm2 hopn hn (by omega)
          have hwl := way_len _ _ hts.ok
          rw [List.length_cons] at hwl
          have HWR := Lib.hid (back_len r.length cap (Nat.le_trans (Nat.le_of_succ_le hwl) (Nat.le_trans hol hn)) (Nat.le_of_succ_le hcap))
          have hwr := back_len1 r.length (Nat.le_trans (Nat.le_of_succ_le hwl) (Nat.le_trans hol hn))
          have hr8 : r.length ≤ cap := Nat.le_of_succ_le hcap
          have hr7 : (r.length : Int) ≤ (cap : Int) := Int.ofNat_le.2 hr8
          have hr0 : (0 : Int) ≤ (r.length : Int) := Int.natCast_nonneg _
          clear hts hgk hte q2 r0
          go_wp2_with fail
          refine hcall.mono ?_; rintro e w7 ⟨rfl, hb7, v', hw7⟩
          have HD := Lib.hid (HTS.out.pop hn HTE.out hb7 hw7 rfl)
          clear hcall hb7 hw7 z0 z1 z2 z3 hwl
          go_wp2_with fail
          case isFalse => rename_i h; exact absurd HWR.out.1 h
          go_roundg (muW G.length (refsP G) (leaveW G σ a m) r)
          case measure =>
            have h1 := mu_leave HTS.out
            have h2 := HGK.out
            omega
          case rel =>
            rw [HWR.out.2]
            exact Lib.hid ⟨P, N, v', _, r, HD.out, rfl⟩
end Go.Proofs.YtakamedgdiffbaaGreatDoor.GraphC
namespace Go.Proofs.YtakamedgdiffbaaGreatDoor.GraphC
set_option linter.unusedVariables false
open Go.RowKit Go.Proofs.YtakamedgdiffbaaGreatDoor.NumC Go.Proofs.YtakamedgdiffbaaGreatDoor.RowsC
open Go.Proofs.YtakamedgdiffbaaGreatDoor.RefsC (Rc RAt hitsL RBox Srt)
open Go.Proofs.YtakamedgdiffbaaGreatDoor.TreeC (Kept)
structure RS (w0 w : World) (S T : Nat → Prop) (B : Nat) (P N Q : Nat → Prop) (mo : Option Nat) (G : Gl) (L : WL) (v : Value) (σ : Wk) : Prop where
  ws : WS w B P N Q mo G L v σ
  inv : Inv G.length (refsP G) σ
  op : σ.op = []
  bu : But S w0 w
  pg : ∀ k, P k → S k ∨ w0.heap.size ≤ k
  ng : ∀ k, N k → T k ∨ w0.heap.size ≤ k
theorem RS.under {w0 w w' : World} {S T : Nat → Prop} {B : Nat} {P N Q : Nat → Prop} {mo : Option Nat} {G : Gl} {L : WL} {v : Value} {σ : Wk} (h : RS w0 w S T B P N Q mo G L v σ) (hb : Below w.heap.size w w') : RS w0 w' S T B P N Q mo G L v σ :=
  { h with ws := h.ws.under hb, bu := h.bu.trans (But.of (P := S) hb) (fun _ _ e => e) }
theorem RS.closed {w0 w : World} {S T : Nat → Prop} {B : Nat} {P N Q : Nat → Prop} {mo : Option Nat} {G : Gl} {L : WL} {v : Value} {σ : Wk} (h : RS w0 w S T B P N Q mo G L v σ) {i : Nat} (hi : i < G.length) (hf : σ.f i ≠ 0) : σ.f i = 1001 := by
  rcases h.inv.fc i hi (by rw [h.op]; simp) with e | e
  · exact absurd e hf
  · exact e
theorem RS.walked {w0 w w7 w9 : World} {S T : Nat → Prop} {B : Nat} {P N Q P' N' P9 N9 : Nat → Prop} {mo : Option Nat} {G : Gl} {L : WL} {v v9 : Value} {σ σ9 : Wk} {o : Obj} (h : RS w0 w S T B P N Q mo G L v σ) (hb : But P w w7) (hp : Grew w w7 P P') (hN : Grew w w7 N N')
    (hws : WS w9 B P9 N9 Q mo G L v9 σ9) (hinv : Inv G.length (refsP G) σ9) (hop : σ9.op = []) (hbu : But (fun k => P' k ∨ k = w7.heap.size) (w7.alloc o) w9) (hpg : ∀ k, P9 k → (P' k ∨ k = w7.heap.size) ∨ (w7.alloc o).heap.size ≤ k) (hng : ∀ k, N9 k → N' k ∨ (w7.alloc o).heap.size ≤ k) : RS w0 w9 S T B P9 N9 Q mo G L v9 σ9 := by
  have hs0 := h.bu.size
  have hs7 := hb.size
  have hs9 := hbu.size
  rw [World.size_alloc] at hs9
  have hP' : ∀ k, P' k → S k ∨ w0.heap.size ≤ k := fun k e => (hp k e).elim (h.pg k) (fun e2 => Or.inr (by omega))
  refine ⟨hws, hinv, hop, ⟨hbu.os.trans (hb.os.trans h.bu.os), hbu.tape.trans (hb.tape.trans h.bu.tape), hbu.output.trans (hb.output.trans h.bu.output), by omega, fun k hk hn => ?_⟩, fun k e => ?_, fun k e => ?_⟩
  · have e1 : ¬ (P' k ∨ k = w7.heap.size) := fun e => e.elim (fun e => (hP' k e).elim hn (fun e => by omega)) (fun e => by omega)
    have e2 : ¬ P k := fun e => (h.pg k e).elim hn (fun e => by omega)
    exact (hbu.block k (by rw [World.size_alloc]; omega) e1).trans ((((Below.refl w7.heap.size w7).alloc (Nat.le_refl _) o).block k (by omega)).trans ((hb.block k (by omega) e2).trans (h.bu.block k hk hn)))
  · rcases hpg k e with (e | e) | e
    · exact hP' k e
    · exact Or.inr (by omega)
    · rw [World.size_alloc] at e; exact Or.inr (by omega)
  · rcases hng k e with e | e
    · rcases hN k e with e2 | e2
      · exact h.ng k e2
      · exact Or.inr (by omega)
    · rw [World.size_alloc] at e; exact Or.inr (by omega)
def DependsPost (w0 : World) (S T : Nat → Prop) (B : Nat) (Q : Nat → Prop) (mo : Option Nat) (G : Gl) (L : WL) (i : Nat) (e : Ending) (w' : World) : Prop :=
  e = .returned (.pointer (some ⟨L.ga, i * 16, none⟩)) ∧ ∃ P' N' v' σ', RS w0 w' S T B P' N' Q mo G L v' σ' ∧ σ'.f i = 1001
set_option maxHeartbeats 4000000 in
set_option maxRecDepth 100000 in
theorem cdepends {w0 : World} {S T : Nat → Prop} {B : Nat} {P N Q : Nat → Prop} {mo : Option Nat} {G : Gl} {L : WL} {v : Value} {σ : Wk} (i : Nat) (w : World) (h : RS w0 w S T B P N Q mo G L v σ) (hg : GoodG G) (hs : SrtG bfP G) (hbd : Bnd G) (hi : i < G.length) :
    Calls Tryz.prog 45 #[.pointer (some ⟨L.b, 0, none⟩), .int .i64 (i : Int)] w (DependsPost w0 S T B Q mo G L i) := by
  have HGood := Lib.hid hg
  have HS := Lib.hid hs
  have HBD := Lib.hid hbd
  have hn := hbd.1
  have H := Lib.hid h
  have c5 := h.ws.cell.2.2.2.2.2
  have c3 := h.ws.cell.2.2.2.1
  obtain ⟨f0, -⟩ := h.ws.firsts i hi
  have hi9 : (i : Int) < (G.length : Int) := by omega
  have hi0 : (0 : Int) ≤ (i : Int) := by omega
  clear h hg hs hbd
  by_cases hf : σ.f i = 0
  · rw [hf] at f0
    have HF := Lib.hid hf
    obtain ⟨l1, hl1⟩ : ∃ l1, l1 = σ.op.length + 1 := ⟨_, rfl⟩
    have HL1 := Lib.hid hl1
    have hcall := cmeet i w H.out.ws HGood.out HS.out HBD.out hi (by rw [H.out.op]; simp)
    clear hf hl1 c3
    go_enter Tryz.func45, Tryz.ntmps45
    go_wp2_with fail
    refine hcall.mono ?_; rintro e w7 ⟨he, hb7, v', P', N', hw7, hgp, hgn⟩
    rw [← HL1.out] at he
    subst he
    have hB7 := hw7.base
    have hP7 : ¬ P' w7.heap.size := fun e => by have := (hw7.plow _ e).2; omega
    have hN7 : ¬ N' w7.heap.size := fun e => by have := (hw7.nlow _ e).2; omega
    obtain ⟨I, W⟩ := meet_ok H.out.inv hn (refs_in G) (way := []) (by rw [H.out.op]; rfl) hi HF.out (fun u hu => by cases hu)
    have hTS : TS (w7.alloc (.cells #[.int .i64 (i : Int), .int .i64 (l1 : Int), .int .i64 0] 97)) (w7.alloc (.cells #[.int .i64 (i : Int), .int .i64 (l1 : Int), .int .i64 0] 97)) (fun k => P' k ∨ k = w7.heap.size) N' B P' N' Q mo G L (.slice (some ⟨w7.heap.size, 0, none⟩) 1 1) v' (meetW σ i) (meetW σ i) [⟨i, l1, 0⟩] :=
      { ws := hw7.under ((Below.refl _ _).alloc (Nat.le_refl _) _), inv := I, ok := by rw [HL1.out]; exact W
        row := ⟨rfl, Or.inr ⟨w7.heap.size, 1, #[.int .i64 (i : Int), .int .i64 (l1 : Int), .int .i64 0], rfl, hB7, heap_alloc_new _ _, Nat.le_refl _, by decide, rfl, rfl⟩⟩
        own := fun k e => by cases e; exact ⟨hP7, hN7⟩
        up := fun _ e => e, bu := ⟨rfl, rfl, rfl, Nat.le_refl _, fun _ _ _ => rfl⟩, pg := fun k e => Or.inl (Or.inl e), og := fun k e => by cases e; exact Or.inl (Or.inr rfl), ng := fun k e => Or.inl e }
    have hcall2 := cthrough _ hTS HGood.out HS.out HBD.out
    have HM := Lib.hid (And.intro hb7 (And.intro hgp hgn))
    clear hcall hb7 hw7 hgp hgn hTS I W c5 f0 hP7 hN7 hB7
    go_wp2_with fail
    refine hcall2.mono ?_; rintro e w9 ⟨rfl, P9, N9, v9, σ9, hws, hinv, hop9, hup, hbu, hpg, hng⟩
    have hRS := H.out.walked HM.out.1 HM.out.2.1 HM.out.2.2 hws hinv hop9 hbu hpg hng
    have e3 := hws.cell.2.2.2.1
    have HFin : Hid (DependsPost w0 S T B Q mo G L i (.returned (.pointer (some ⟨L.ga, i * 16, none⟩))) w9) := Lib.hid ⟨rfl, P9, N9, v9, σ9, hRS, hRS.closed hi (hup i (by show upd σ.f i (σ.op.length + 1) i ≠ 0; rw [upd_self]; exact Nat.succ_ne_zero _))⟩
    clear hcall2 hws hinv hop9 hup hbu hpg hng hRS
    go_wp2_with fail
    go_ret
    exact HFin.out
  · have HFin : Hid (DependsPost w0 S T B Q mo G L i (.returned (.pointer (some ⟨L.ga, i * 16, none⟩))) w) := Lib.hid ⟨rfl, P, N, v, σ, H.out, H.out.closed hi hf⟩
    have hf1 : ¬ ((σ.f i : Nat) : Int) = 0 := by omega
    clear hf
    go_enter Tryz.func45, Tryz.ntmps45
    go_wp2_with fail
    go_ret
    exact HFin.out
end Go.Proofs.YtakamedgdiffbaaGreatDoor.GraphC
namespace Go.Proofs.YtakamedgdiffbaaGreatDoor.GraphC
set_option linter.unusedVariables false
open Go.RowKit Go.Proofs.YtakamedgdiffbaaGreatDoor.NumC Go.Proofs.YtakamedgdiffbaaGreatDoor.RowsC
open Go.Proofs.YtakamedgdiffbaaGreatDoor.RefsC (Rc RAt hitsL RBox Srt)
open Go.Proofs.YtakamedgdiffbaaGreatDoor.TreeC (Kept)
def AskPost (w0 : World) (S T : Nat → Prop) (B : Nat) (Q : Nat → Prop) (mo : Option Nat) (G : Gl) (L : WL) (p : Prop) (e : Ending) (w' : World) : Prop :=
  ∃ b, e = .returned (.bool b) ∧ (b = true ↔ p) ∧ ∃ P' N' v' σ', RS w0 w' S T B P' N' Q mo G L v' σ'
set_option maxHeartbeats 1000000 in
set_option maxRecDepth 100000 in
theorem cisLoop {w0 : World} {S T : Nat → Prop} {B : Nat} {P N Q : Nat → Prop} {mo : Option Nat} {G : Gl} {L : WL} {v : Value} {σ : Wk} (i : Nat) (w : World) (h : RS w0 w S T B P N Q mo G L v σ) (hg : GoodG G) (hs : SrtG bfP G) (hbd : Bnd G) (hi : i < G.length) :
    Calls Tryz.prog 47 #[.pointer (some ⟨L.b, 0, none⟩), .int .i64 (i : Int)] w (AskPost w0 S T B Q mo G L (Dpn (refsP G) i i)) := by
  have hcall := cdepends i w h hg hs hbd hi
  have hn := hbd.1
  clear h hg hs hbd
  go_enter Tryz.func47, Tryz.ntmps47
  go_wp2_with fail
  refine hcall.mono ?_; rintro e w5 ⟨rfl, P', N', v', σ', hrs, hf⟩
  have hcall2 := cshas L.ga (i * 16) (σ'.al i) i w5 (by omega) (hrs.ws.alls i hi)
  have HF : Hid (((σ'.al i).testBit i = true ↔ Dpn (refsP G) i i) ∧ ∃ P' N' v' σ', RS w0 w5 S T B P' N' Q mo G L v' σ') := Lib.hid ⟨(hrs.inv.clo i hi hf).2 i, P', N', v', σ', hrs⟩
  clear hcall hrs hf
  generalize (σ'.al i).testBit i = b at *
  go_wp2_with fail
  refine hcall2.mono ?_; rintro e w6 ⟨rfl, rfl⟩
  clear hcall2
  go_wp2_with fail
  go_ret
  exact ⟨b, rfl, HF.out.1, HF.out.2⟩
end Go.Proofs.YtakamedgdiffbaaGreatDoor.GraphC
namespace Go.Proofs.YtakamedgdiffbaaGreatDoor.GraphC
set_option linter.unusedVariables false
open Go.RowKit Go.Proofs.YtakamedgdiffbaaGreatDoor.NumC Go.Proofs.YtakamedgdiffbaaGreatDoor.RowsC
open Go.Proofs.YtakamedgdiffbaaGreatDoor.RefsC (Rc RAt hitsL RBox Srt)
open Go.Proofs.YtakamedgdiffbaaGreatDoor.TreeC (Kept)
set_option maxRecDepth 100000 in
theorem upon_make {o : Oper} {a : Act} {R : Act → World → Prop} {Q : Exit → Act → World → Prop} (w : World) (t e : TypeId) (i : TypeInfo) (z : Value) (size : Nat) (h1 : Tryz.prog.underlying t = some (.slice e)) (h2 : Tryz.prog.info? e = some i) (h3 : i.zero = some z) (h4 : i.size = size) (n : Nat) (b2 : i.bytes * n ≤ 281474976710656) (b3 : n ≤ maxLen)
    (h : ∀ w', w'.ownsRow w.heap.size e size (.slice (some ⟨w.heap.size, 0, none⟩) n n) n (madeCells z.cells (n * size)).toList → w.grownBy w' none → R (a.put o.dst (.slice (some ⟨w.heap.size, 0, none⟩) n n)) w') :
    o.upon Tryz.prog a R Q (((Instr.makeSlice t (.int .i64 (n : Int)) (.int .i64 (n : Int))).run Tryz.prog w).andThen fun v w' => .ok (.value v) w') := by
  obtain ⟨w', hrun, r1, r2⟩ := run_make_full (P := Tryz.prog) w w.heap.size t e i z size h1 h2 h3 h4 .i64 .i64 n b2 b3 (Nat.le_refl _)
  rw [hrun]
  exact h w' r1 r2
theorem made_at (z : Array Value) (m j : Nat) (u : Value) (hj : j < m) (hu : ∀ k, k < z.size → z[k]? = some u) (hz : 0 < z.size) : (madeCells z m).toList[j]? = some u := by
  have h1 := hu (j % z.size) (Nat.mod_lt _ hz)
  have h2 : z[j % z.size]! = u := by
    rw [Array.getElem!_eq_getD, Array.getD_eq_getD_getElem?, h1]; rfl
  rw [Array.getElem?_toList]
  unfold madeCells
  rw [Array.getElem?_map, Array.getElem?_range, if_pos hj]
  simp only [Option.map_some, h2]
structure Mk (w : World) (n : Nat) (W : World) (r a f : Option Nat) : Prop where
  bel : Below w.heap.size w W
  rr : ∀ g, r = some g → w.heap.size ≤ g ∧ g < W.heap.size ∧ ∀ i, i < n → W.cell? ⟨g, i, none⟩ = some (.slice none 0 0) ∧ W.frozen? ⟨g, i, none⟩ = false
  aa : ∀ g, a = some g → w.heap.size ≤ g ∧ g < W.heap.size ∧ ∀ i, i < n → SAt W g (i * 16) 0
  ff : ∀ g, f = some g → w.heap.size ≤ g ∧ g < W.heap.size ∧ ∀ i, i < n → W.cell? ⟨g, i, none⟩ = some (.int .i64 ((0 : Nat) : Int)) ∧ W.frozen? ⟨g, i, none⟩ = false
  ra : ∀ g, r = some g → a ≠ some g
  rf : ∀ g, r = some g → f ≠ some g
  af : ∀ g, a = some g → f ≠ some g
theorem Mk.none (w : World) (n : Nat) : Mk w n w .none .none .none :=
  ⟨Below.refl _ _, fun g h => (by cases h), fun g h => (by cases h), fun g h => (by cases h), fun g h => (by cases h), fun g h => (by cases h), fun g h => (by cases h)⟩
theorem Mk.on {w W W' : World} {n : Nat} {r a f : Option Nat} (h : Mk w n W r a f) (hb : Below W.heap.size W W') : Mk w n W' r a f := by
  have hs := hb.size
  refine ⟨h.bel.trans (hb.mono h.bel.size), fun g e => ?_, fun g e => ?_, fun g e => ?_, h.ra, h.rf, h.af⟩
  · obtain ⟨h1, h2, h3⟩ := h.rr g e
    have hB := hb.block g h2
    exact ⟨h1, by omega, fun i hi => ⟨(World.cell?_of_block hB).trans (h3 i hi).1, (World.frozen?_of_block hB).trans (h3 i hi).2⟩⟩
  · obtain ⟨h1, h2, h3⟩ := h.aa g e
    exact ⟨h1, by omega, fun i hi => (h3 i hi).block (hb.block g h2)⟩
  · obtain ⟨h1, h2, h3⟩ := h.ff g e
    have hB := hb.block g h2
    exact ⟨h1, by omega, fun i hi => ⟨(World.cell?_of_block hB).trans (h3 i hi).1, (World.frozen?_of_block hB).trans (h3 i hi).2⟩⟩
theorem Mk.grown {w W W' : World} {n : Nat} {r a f : Option Nat} (h : Mk w n W r a f) (hg : W.grownBy W' .none) : Mk w n W' r a f := h.on (below_grown (Below.refl _ W) (Nat.le_refl _) hg (fun k h => by cases h))
theorem Mk.fresh {w W W' : World} {n s : Nat} {ty : TypeId} {r a f : Option Nat} {cs : List Value} (h : Mk w n W r a f) (ho : W'.ownsRow W.heap.size ty s (.slice (some ⟨W.heap.size, 0, .none⟩) n n) n cs) : w.heap.size ≤ W.heap.size ∧ W.heap.size < W'.heap.size ∧ r ≠ some W.heap.size ∧ a ≠ some W.heap.size ∧ f ≠ some W.heap.size :=
  ⟨h.bel.size, (World.ownsRow.lt ho W.heap.size rfl).2, fun e => Nat.lt_irrefl _ (h.rr _ e).2.1, fun e => Nat.lt_irrefl _ (h.aa _ e).2.1, fun e => Nat.lt_irrefl _ (h.ff _ e).2.1⟩
theorem Mk.mkR {w W W' : World} {n : Nat} {ty : TypeId} {a f : Option Nat} (h : Mk w n W .none a f) (hg : W.grownBy W' .none) (ho : W'.ownsRow W.heap.size ty 1 (.slice (some ⟨W.heap.size, 0, .none⟩) n n) n (madeCells (Value.slice .none 0 0).cells (n * 1)).toList) : Mk w n W' (some W.heap.size) a f := by
  obtain ⟨h1, h2, h3, h4, h5⟩ := h.fresh ho
  have k := h.grown hg
  refine ⟨k.bel, fun g e => ?_, k.aa, k.ff, fun g e => ?_, fun g e => ?_, k.af⟩
  · cases e
    refine ⟨h1, h2, fun i hi => ⟨?_, ho.frozenAt i⟩⟩
    rw [ho.cellAt i (by omega)]
    exact made_at _ _ _ _ (by omega) (fun k hk => by
      have : k = 0 := by have h : (Value.slice .none 0 0).cells.size = 1 := rfl
                         omega
      subst this; rfl) (by decide)
  · cases e; exact h4
  · cases e; exact h5
theorem Mk.mkF {w W W' : World} {n : Nat} {ty : TypeId} {r a : Option Nat} (h : Mk w n W r a .none) (hg : W.grownBy W' .none) (ho : W'.ownsRow W.heap.size ty 1 (.slice (some ⟨W.heap.size, 0, .none⟩) n n) n (madeCells (Value.int .i64 0).cells (n * 1)).toList) : Mk w n W' r a (some W.heap.size) := by
  obtain ⟨h1, h2, h3, h4, h5⟩ := h.fresh ho
  have k := h.grown hg
  refine ⟨k.bel, k.rr, k.aa, fun g e => ?_, k.ra, fun g e q => ?_, fun g e q => ?_⟩
  · cases e
    refine ⟨h1, h2, fun i hi => ⟨?_, ho.frozenAt i⟩⟩
    rw [ho.cellAt i (by omega)]
    exact made_at _ _ _ _ (by omega) (fun k hk => by
      have : k = 0 := by have h : (Value.int .i64 0).cells.size = 1 := rfl
                         omega
      subst this; rfl) (by decide)
  · cases q; exact h3 e
  · cases q; exact h4 e
def zS : Value := .agg #[.int .u64 0, .int .u64 0, .int .u64 0, .int .u64 0, .int .u64 0, .int .u64 0, .int .u64 0, .int .u64 0, .int .u64 0, .int .u64 0, .int .u64 0, .int .u64 0, .int .u64 0, .int .u64 0, .int .u64 0, .int .u64 0]
theorem zS_cells : zS.cells = Array.replicate 16 (.int .u64 0) := by kernel_rfl
theorem Mk.mkA {w W W' : World} {n : Nat} {ty : TypeId} {r f : Option Nat} (h : Mk w n W r .none f) (hg : W.grownBy W' .none) (ho : W'.ownsRow W.heap.size ty 16 (.slice (some ⟨W.heap.size, 0, .none⟩) n n) n (madeCells zS.cells (n * 16)).toList) : Mk w n W' r (some W.heap.size) f := by
  obtain ⟨h1, h2, h3, h4, h5⟩ := h.fresh ho
  have k := h.grown hg
  refine ⟨k.bel, k.rr, fun g e => ?_, k.ff, fun g e q => ?_, k.rf, fun g e => ?_⟩
  · cases e
    refine ⟨h1, h2, fun i hi => ⟨fun j hj => ?_, fun j hj => ho.frozenAt _, fun b _ => Nat.zero_testBit b⟩⟩
    have hz : wordN 0 j = 0 := by unfold wordN; simp
    rw [ho.cellAt _ (by omega), hz, zS_cells]
    exact made_at _ _ _ _ (by omega) (fun k hk => by
      rw [Array.size_replicate] at hk
      rw [Array.getElem?_replicate, if_pos hk]; rfl) (by rw [Array.size_replicate]; decide)
  · cases q; exact h3 e
  · cases e; exact h5
theorem below_drew {n : Nat} {w W : World} (h : Below n w W) : Below n w W.drew := ⟨h.os, h.tape, h.output, h.size, h.block⟩
def wk0 : Wk := ⟨fun _ => 0, fun _ => 0, []⟩
theorem inv0 (n : Nat) (R : Nat → List Nat) : Inv n R wk0 where
  lt x h := by cases h
  nd := List.nodup_nil
  fo q x h := by cases h
  fc i _ _ := Or.inl rfl
  clo i _ h := by cases h
  emp i _ _ := rfl
  back q x h := by cases h
def WalkPost (w : World) (Q : Nat → Prop) (mo : Option Nat) (G : Gl) (e : Ending) (w' : World) : Prop :=
  ∃ L P N, e = .returned (.pointer (some ⟨L.b, 0, none⟩)) ∧ Below w.heap.size w w' ∧ RS w' w' P N w.heap.size P N Q mo G L (.slice none 0 0) wk0
theorem walk_made {w w1 W : World} {Q : Nat → Prop} {v : Value} {mo : Option Nat} {G : Gl} {oA : Option Addr} {oc gr ga gf : Nat} (h : GV w Q v mo G) (hb : Below w.heap.size w w1)
    (ho : Owns fP 2 35 w1 w.heap.size (.slice oA G.length oc) (cellsL G)) (hm : Mk w1 G.length W (some gr) (some ga) (some gf)) :
    WalkPost w Q mo G (.returned (.pointer (some ⟨W.heap.size, 0, none⟩))) (W.alloc (.cells #[.map mo, .slice oA G.length oc, .slice (some ⟨gr, 0, none⟩) G.length G.length, .slice (some ⟨ga, 0, none⟩) G.length G.length, .slice none 0 0, .slice (some ⟨gf, 0, none⟩) G.length G.length] 78)) := by
  obtain ⟨r1, r2, r3⟩ := hm.rr _ rfl
  obtain ⟨a1, a2, a3⟩ := hm.aa _ rfl
  obtain ⟨f1, f2, f3⟩ := hm.ff _ rfl
  have d1 : gr ≠ ga := fun e => hm.ra gr rfl (by rw [e])
  have d2 : gr ≠ gf := fun e => hm.rf gr rfl (by rw [e])
  have d3 : ga ≠ gf := fun e => hm.af ga rfl (by rw [e])
  have hs1 := hb.size
  have hs2 := hm.bel.size
  generalize hO : (Obj.cells #[.map mo, .slice oA G.length oc, .slice (some ⟨gr, 0, none⟩) G.length G.length, .slice (some ⟨ga, 0, none⟩) G.length G.length, .slice none 0 0, .slice (some ⟨gf, 0, none⟩) G.length G.length] 78) = O
  have hA : Below W.heap.size W (W.alloc O) := (Below.refl _ W).alloc (Nat.le_refl _) _
  have hW : Below w1.heap.size w1 (W.alloc O) := hm.bel.trans (hA.mono hs2)
  have hw : Below w.heap.size w (W.alloc O) := hb.trans (hW.mono hs1)
  have hz : (W.alloc O).heap.size = W.heap.size + 1 := World.size_alloc _ _
  have hlt := ho.lt
  have ho' := ho.below hW
  obtain ⟨A1, c1, e1, -, -, e4⟩ := ho.form
  injection e1 with e5 e6 e7
  subst e5 e7
  refine ⟨⟨W.heap.size, gr, ga, gf, oA, oc⟩, fun k => k = W.heap.size ∨ k = gr ∨ k = ga ∨ k = gf, fun k => (Value.slice oA G.length oc).ownBlock = some k, rfl, hw, ?_, inv0 _ _, rfl, ⟨rfl, rfl, rfl, Nat.le_refl _, fun _ _ _ => rfl⟩, fun _ e => Or.inl e, fun _ e => Or.inl e⟩
  exact {
    base := by omega
    mp := h.map.below hw
    qlow := h.map.2.2
    plow := fun k e => by rcases e with e | e | e | e <;> omega
    nlow := fun k e => by have := hlt k e; omega
    pn := fun k e q => by have := hlt k q; rcases e with e | e | e | e <;> omega
    pb := Or.inl rfl
    pr := Or.inr (Or.inl rfl)
    pa := Or.inr (Or.inr (Or.inl rfl))
    pf := Or.inr (Or.inr (Or.inr rfl))
    po := fun k e => by cases e
    d1 := ⟨fun e => by have : W.heap.size = gr := e
                       omega, fun e => by have : W.heap.size = ga := e
                                          omega, fun e => by have : W.heap.size = gf := e
                                                             omega, d1, d2, d3⟩
    st := by rw [← hO]; exact heap_alloc_new _ _
    cells := (ho'.reads kindP.row).2
    cn := fun _ a e => by
      obtain ⟨g, rfl⟩ := e4 a e
      have e : oA = some ⟨g, 0, none⟩ := e
      rw [e]; rfl
    refs := fun i hi => ⟨(World.frozen?_of_block (hA.block _ r2)).trans (r3 i hi).2, none, 0, 0, (World.cell?_of_block (hA.block _ r2)).trans (r3 i hi).1, fun q => absurd rfl q⟩
    alls := fun i hi => (a3 i hi).block (hA.block _ a2)
    opn := Owns.nil _ _
    firsts := fun i hi => ⟨(World.cell?_of_block (hA.block _ f2)).trans (f3 i hi).1, (World.frozen?_of_block (hA.block _ f2)).trans (f3 i hi).2⟩ }
theorem rows_info : (Tryz.prog.info? 76).map (fun i => (i.zero, i.size, i.bytes)) = some (some (.slice none 0 0), 1, 24) := by kernel_rfl
theorem int_info : (Tryz.prog.info? 3).map (fun i => (i.zero, i.size, i.bytes)) = some (some (.int .i64 0), 1, 8) := by kernel_rfl
theorem set_info : (Tryz.prog.info? 73).map (fun i => (i.zero, i.size, i.bytes)) = some (some zS, 16, 128) := by kernel_rfl
set_option maxHeartbeats 4000000 in
set_option maxRecDepth 100000 in
theorem cwalk {Q : Nat → Prop} {v : Value} {mo : Option Nat} {G : Gl} (w : World) (h : GV w Q v mo G) (hs : SrtG bfP G) (hn : G.length ≤ 1000) :
    Calls Tryz.prog 39 #[v] w (WalkPost w Q mo G) := by
  have HV := Lib.hid h
  have hcall := cCells w h hs
  have hlen : (cellsL G).length = G.length := by unfold cellsL; rw [List.length_map]
  obtain ⟨ir, r1, r2, r3, r4⟩ := info_parts rows_info
  obtain ⟨ia, a1, a2, a3, a4⟩ := info_parts set_info
  obtain ⟨ii, f1, f2, f3, f4⟩ := info_parts int_info
  have HI := Lib.hid (show (24 * G.length ≤ 281474976710656 ∧ 128 * G.length ≤ 281474976710656 ∧ 8 * G.length ≤ 281474976710656) ∧ G.length ≤ maxLen from ⟨⟨by omega, by omega, by omega⟩, by unfold maxLen; omega⟩)
  have HR := Lib.hid (And.intro r1 (And.intro r2 (And.intro r3 r4)))
  have HA := Lib.hid (And.intro a1 (And.intro a2 (And.intro a3 a4)))
  have HF := Lib.hid (And.intro f1 (And.intro f2 (And.intro f3 f4)))
  clear h hs r1 r2 r3 r4 a1 a2 a3 a4 f1 f2 f3 f4
  generalize hPost : WalkPost w Q mo G = POST
  have HPOST := Lib.hid hPost
  clear hPost
  go_enter Tryz.func39, Tryz.ntmps39
  go_wp2_with fail
  refine hcall.mono ?_; rintro e w1 ⟨v1, rfl, ho, hb⟩
  obtain ⟨oA, oc, hv, -⟩ := ho.form
  rw [hlen] at hv
  subst hv
  have HO := Lib.hid (And.intro ho hb)
  have HM := Lib.hid (show Mk w1 G.length w1.drew none none none from (Mk.none w1 G.length).on (below_drew (Below.refl _ _)))
  clear hcall ho hb hlen
  go_wp2_with fail
  go_region_held3 (fun _ => True) (trivial)
    (first | (go_at_call 34
              refine (call _ (HV.out.below (HO.out.2.trans (HM.out.bel.mono HO.out.2.size))).ptr).mono ?_
              rintro e w5 ⟨rfl, rfl⟩)
           | (refine upon_make _ 74 76 ir _ 1 Tryz.underlying74 HR.out.1 HR.out.2.1 HR.out.2.2.1 G.length (by rw [HR.out.2.2.2]; exact HI.out.1.1) HI.out.2 ?_
              intro w5 ho5 hg5
              replace HM := Lib.hid (HM.out.mkR hg5 ho5)
              clear ho5 hg5)
           | (refine upon_make _ 75 73 ia _ 16 Tryz.underlying75 HA.out.1 HA.out.2.1 HA.out.2.2.1 G.length (by rw [HA.out.2.2.2]; exact HI.out.1.2.1) HI.out.2 ?_
              intro w5 ho5 hg5
              replace HM := Lib.hid (HM.out.mkA hg5 ho5)
              clear ho5 hg5)
           | (refine upon_make _ 76 3 ii _ 1 Tryz.underlying76 HF.out.1 HF.out.2.1 HF.out.2.2.1 G.length (by rw [HF.out.2.2.2]; exact HI.out.1.2.2) HI.out.2 ?_
              intro w5 ho5 hg5
              replace HM := Lib.hid (HM.out.mkF hg5 ho5)
              clear ho5 hg5))
  all_goals
    have HFin := Lib.hid (walk_made HV.out HO.out.2 HO.out.1 HM.out)
    rw [HPOST.out] at HFin
    go_wp2_with fail
    first | exact HFin.out | (go_ret; exact HFin.out) | (go_ret2; exact HFin.out)
end Go.Proofs.YtakamedgdiffbaaGreatDoor.GraphC
namespace Go.Proofs.YtakamedgdiffbaaGreatDoor.GraphC
set_option linter.unusedVariables false
open Go.RowKit Go.Proofs.YtakamedgdiffbaaGreatDoor.NumC Go.Proofs.YtakamedgdiffbaaGreatDoor.RowsC
open Go.Proofs.YtakamedgdiffbaaGreatDoor.RefsC (Rc RAt hitsL RBox Srt)
open Go.Proofs.YtakamedgdiffbaaGreatDoor.TreeC (Kept)
def thoseL (C : List Pt) (p : Nat → Bool) (j : Nat) : List Pt := (List.range j).filterMap fun i => if p i then C[i]? else none
theorem those_next {C : List Pt} (p : Nat → Bool) {j : Nat} {x : Pt} (hx : C[j]? = some x) : thoseL C p (j + 1) = thoseL C p j ++ (if p j then [x] else []) := by
  unfold thoseL
  rw [List.range_succ, List.filterMap_append]
  congr 1
  cases h : p j <;> simp [h, hx]
theorem those_len (C : List Pt) (p : Nat → Bool) (j : Nat) : (thoseL C p j).length ≤ j := by
  have := List.length_filterMap_le (fun i => if p i then C[i]? else none) (List.range j)
  simpa [thoseL] using this
theorem RS.trans {w0 w w' : World} {S T : Nat → Prop} {B : Nat} {P N Q P' N' : Nat → Prop} {mo : Option Nat} {G : Gl} {L : WL} {v v' : Value} {σ σ' : Wk} (h : RS w0 w S T B P N Q mo G L v σ) (k : RS w w' P N B P' N' Q mo G L v' σ') : RS w0 w' S T B P' N' Q mo G L v' σ' := by
  have hs := h.bu.size
  refine ⟨k.ws, k.inv, k.op, h.bu.trans k.bu (fun i hi e => (h.pg i e).elim id (fun e => by omega)), fun i e => ?_, fun i e => ?_⟩
  · exact (k.pg i e).elim (h.pg i) (fun e => Or.inr (by omega))
  · exact (k.ng i e).elim (h.ng i) (fun e => Or.inr (by omega))
theorem RS.now {w0 w : World} {S T : Nat → Prop} {B : Nat} {P N Q : Nat → Prop} {mo : Option Nat} {G : Gl} {L : WL} {v : Value} {σ : Wk} (h : RS w0 w S T B P N Q mo G L v σ) : RS w w P N B P N Q mo G L v σ :=
  ⟨h.ws, h.inv, h.op, ⟨rfl, rfl, rfl, Nat.le_refl _, fun _ _ _ => rfl⟩, fun _ e => Or.inl e, fun _ e => Or.inl e⟩
theorem RS.grown {w0 w w' : World} {S T : Nat → Prop} {B : Nat} {P N Q : Nat → Prop} {mo : Option Nat} {G : Gl} {L : WL} {v : Value} {σ : Wk} {o : Obj} {row : Option Nat} (h : RS w0 w S T B P N Q mo G L v σ) (hg : (w.alloc o).grownBy w' row) (hB : B ≤ w0.heap.size) (hr : ∀ k, row = some k → w0.heap.size ≤ k ∧ ¬ P k ∧ ¬ N k) : RS w0 w' S T B P N Q mo G L v σ := by
  have hs := h.bu.size
  have hs2 := hg.size
  rw [World.size_alloc] at hs2
  have hblk : ∀ k, k < w.heap.size → row ≠ some k → w'.heap[k]? = w.heap[k]? := fun k hk hne => (hg.block k (by rw [World.size_alloc]; omega) (fun e => hne e.symm)).trans (((Below.refl w.heap.size w).alloc (Nat.le_refl _) _).block k hk)
  refine ⟨h.ws.stay (by omega) fun k hk hor => hblk k hk fun e => ?_, h.inv, h.op, ⟨hg.os.trans h.bu.os, hg.tape.trans h.bu.tape, hg.output.trans h.bu.output, by omega, fun k hk hn => (hblk k (by omega) (fun e => by have := (hr k e).1; omega)).trans (h.bu.block k hk hn)⟩, h.pg, h.ng⟩
  obtain ⟨h1, h2, h3⟩ := hr k e
  rcases hor with e | e | e
  · omega
  · exact h2 e
  · exact h3 e
def ThosePost (w : World) (S T : Nat → Prop) (B : Nat) (Q : Nat → Prop) (mo : Option Nat) (G : Gl) (L : WL) (l : List Pt) (e : Ending) (w' : World) : Prop :=
  ∃ v0, e = .returned v0 ∧ Owns fP 2 35 w' w.heap.size v0 l ∧ ∃ P' N' v' σ', RS w w' S T B P' N' Q mo G L v' σ'
set_option maxHeartbeats 2000000 in
set_option maxRecDepth 100000 in
theorem cthose {S T : Nat → Prop} {B : Nat} {P N Q : Nat → Prop} {mo : Option Nat} {G : Gl} {L : WL} {v : Value} {σ : Wk} (g : FuncId) (pre post : Array Value) (p : Nat → Bool) (w : World) (eg : ∀ args w, (callFunc g args).run Tryz.prog w = .ok (.enter g args) w) (h : RS w w S T B P N Q mo G L v σ) (hn : G.length ≤ 1000)
    (hp : ∀ (W : World) (P N : Nat → Prop) (v : Value) (σ : Wk) (i : Nat), i < G.length → RS w W S T B P N Q mo G L v σ → Calls Tryz.prog g (pre ++ #[.int .i64 (i : Int)] ++ post) W (AskPost W P N B Q mo G L (p i = true))) :
    Calls Tryz.prog 42 #[.pointer (some ⟨L.b, 0, none⟩), .func (.func g) pre post] w (ThosePost w S T B Q mo G L (thoseL (cellsL G) p G.length)) := by
  have HP := Lib.hid hp
  have H0 := Lib.hid h
  have b1 := h.ws.cell.2.1
  have HBw := Lib.hid h.ws.base
  clear h hp
  generalize hPost : ThosePost w S T B Q mo G L (thoseL (cellsL G) p G.length) = POST
  have HPOST := Lib.hid hPost
  clear hPost
  go_enter Tryz.func42, Tryz.ntmps42
  go_wp2_with fail
  clear b1
  go_loopw [4, 12] (fun ov iv wr => ∃ j : Nat, j ≤ G.length ∧ iv = .int .i64 j ∧ Hid (∃ P N v σ, RS w wr S T B P N Q mo G L v σ ∧ Owns fP 2 35 wr w.heap.size ov (thoseL (cellsL G) p j) ∧ ∀ k, ov.ownBlock = some k → ¬ P k ∧ ¬ N k)) (fun _ iv _ => G.length - (intOf iv).toNat)
  case atStart => exact ⟨0, Nat.zero_le _, rfl, Lib.hid ⟨P, N, v, σ, H0.out, Owns.nil _ _, fun k e => by cases e⟩⟩
  case round =>
    obtain ⟨j, hj, rfl, HR⟩ := hrel
    clear H0
    obtain ⟨P, N, v, σ, hrs, ho, hno⟩ := HR.out
    clear HR
    by_cases hlt : j < G.length
    · have hd1 : (j : Int) < (G.length : Int) := by omega
      obtain ⟨x, hx⟩ := RowsC.at_some (cellsL G) j (by rw [hrs.ws.lens]; exact hlt)
      have HNX := Lib.hid (those_next p hx)
      obtain ⟨gc, oc, hcA, hgc, x0, x1⟩ := Reads.pt hrs.ws.cells j x hx
      rw [hcA]
      have hBx : Below wr.heap.size wr (wr.alloc (.cells #[.int .i64 x.r, .int .i64 x.c] 35)) := (Below.refl _ wr).alloc (Nat.le_refl _) _
      have hbx : (wr.alloc (.cells #[.int .i64 x.r, .int .i64 x.c] 35)).heap[wr.heap.size]? = some (.cells #[.int .i64 x.r, .int .i64 x.c] 35 (0, 0)) := heap_alloc_new _ _
      have hrs2 := hrs.under hBx
      have hPx : ¬ P wr.heap.size := fun e => by have := (hrs.ws.plow _ e).2; omega
      have hNx : ¬ N wr.heap.size := fun e => by have := (hrs.ws.nlow _ e).2; omega
      have hcall := HP.out _ P N v σ j hlt hrs2
      have HRS := Lib.hid hrs2
      have HO := Lib.hid (ho.below hBx)
      have HX := Lib.hid hbx
      have HLN := Lib.hid (those_len (cellsL G) p j)
      obtain ⟨oA, oc2, rfl, -⟩ := ho.form
      clear hrs hrs2 ho hbx hx hcA
      go_wp2_with fail
      refine hcall.mono ?_; rintro e w5 ⟨b, rfl, hb, P', N', v', σ', hrs5⟩
      have hX5 := (hrs5.bu.block wr.heap.size (by rw [World.size_alloc]; omega) hPx).trans HX.out
      have y0 : w5.cell? ⟨wr.heap.size, 0, none⟩ = some (.int .i64 x.r) := by simp [World.cell?, hX5]
      have y1 : w5.cell? ⟨wr.heap.size, 1, none⟩ = some (.int .i64 x.c) := by simp [World.cell?, hX5]
      have HO5 := Lib.hid (owns_same HO.out fun k e => hrs5.bu.block k (HO.out.lt k e).2 (hno k e).1)
      have HNO := Lib.hid (show ∀ k, (Value.slice oA (thoseL (cellsL G) p j).length oc2).ownBlock = some k → ¬ P' k ∧ ¬ N' k from fun k e => ⟨fun e2 => (hrs5.pg k e2).elim (hno k e).1 (fun e3 => by have := (HO.out.lt k e).2; omega), fun e2 => (hrs5.ng k e2).elim (hno k e).2 (fun e3 => by have := (HO.out.lt k e).2; omega)⟩)
      have HR5 := Lib.hid (HRS.out.trans hrs5)
      clear hcall hrs5 hX5 hno x0 x1 HX HRS HO
      cases b
      · have HNY : Hid (thoseL (cellsL G) p (j + 1) = thoseL (cellsL G) p j) := Lib.hid (by rw [HNX.out, if_neg (by rw [← hb]; decide), List.append_nil])
        clear hb y0 y1
        go_wp2_with fail
        go_roundw
        case rel => exact ⟨j + 1, by omega, by go_num, Lib.hid ⟨P', N', v', σ', HR5.out, by rw [HNY.out]; exact HO5.out, HNO.out⟩⟩
        case measure => simp [intOf]; omega
      · have HNY : Hid (thoseL (cellsL G) p (j + 1) = thoseL (cellsL G) p j ++ [x]) := Lib.hid (by rw [HNX.out, if_pos (hb.1 rfl)])
        have hlen : (thoseL (cellsL G) p j).length + 1 ≤ 100000000 := by have := HLN.out; omega
        have hw5 := HR5.out.bu.size
        clear hb
        go_wp2_with (at_builtin
                     refine wpList_append_owns kindP _ rfl (.tmp 20) (.tmp 22) rfl (m := [x]) (B := w.heap.size) rfl rfl rfl (HO5.out.below ((Below.refl _ _).alloc (Nat.le_refl _) _)) (Boxed.new w5 x).reads hlen (by rw [World.size_alloc]; omega) ?_
                     intro v2 w9 ho' hg' hat'
                     have HD := Lib.hid (And.intro ho' (And.intro hg' hat'))
                     clear ho' hg' hat')
        go_roundw
        case rel =>
          refine ⟨j + 1, by omega, by go_num, Lib.hid ⟨P', N', v', σ', HR5.out.grown HD.out.2.1 HBw.out (fun k e => ⟨(HO5.out.lt k e).1, HNO.out k e⟩), by rw [HNY.out]; exact HD.out.1, fun k e => ?_⟩⟩
          rcases HD.out.2.2 with e2 | e2
          · rw [e2] at e; exact HNO.out k e
          · rw [e2, World.size_alloc] at e
            cases e
            exact ⟨fun e3 => by have := (HR5.out.ws.plow _ e3).2; omega, fun e3 => by have := (HR5.out.ws.nlow _ e3).2; omega⟩
        case measure => simp [intOf]; omega
    · have hd1 : ¬ (j : Int) < (G.length : Int) := by omega
      obtain rfl : j = G.length := by omega
      have HO := Lib.hid ho
      obtain ⟨oA, oc2, rfl, -⟩ := ho.form
      have HF := Lib.hid (show ThosePost w S T B Q mo G L (thoseL (cellsL G) p G.length) (.returned (.slice oA (thoseL (cellsL G) p G.length).length oc2)) wr from ⟨_, rfl, HO.out, P, N, v, σ, hrs⟩)
      rw [HPOST.out] at HF
      clear hrs ho hno
      go_wp2_with fail
      first | exact HF.out | (go_ret; exact HF.out)
end Go.Proofs.YtakamedgdiffbaaGreatDoor.GraphC
namespace Go.Proofs.YtakamedgdiffbaaGreatDoor.GraphC
set_option linter.unusedVariables false
open Go.RowKit Go.Proofs.YtakamedgdiffbaaGreatDoor.NumC Go.Proofs.YtakamedgdiffbaaGreatDoor.RowsC
open Go.Proofs.YtakamedgdiffbaaGreatDoor.RefsC (Rc RAt hitsL RBox Srt)
open Go.Proofs.YtakamedgdiffbaaGreatDoor.TreeC (Kept)
noncomputable def pB (p : Prop) : Bool := @decide p (Classical.propDecidable p)
theorem pB_iff {p : Prop} : pB p = true ↔ p := by unfold pB; exact @decide_eq_true_iff p (Classical.propDecidable p)
theorem cells_at {G : Gl} {i : Nat} {x : Pt × List Rc} (h : G[i]? = some x) : (cellsL G)[i]? = some x.1 := by unfold cellsL; rw [List.getElem?_map, h]; rfl
theorem at_of_lt {G : Gl} {i : Nat} (h : i < G.length) : ∃ x, G[i]? = some x := ⟨G[i], List.getElem?_eq_getElem h⟩
theorem lt_of_at {G : Gl} {i : Nat} {x : Pt × List Rc} (h : G[i]? = some x) : i < G.length := (List.getElem?_eq_some_iff.1 h).1
theorem one_cell {G : Gl} (nd : (cellsL G).Nodup) {i j : Nat} {x y : Pt × List Rc} (hx : G[i]? = some x) (hy : G[j]? = some y) (e : x.1 = y.1) : i = j :=
  (List.getElem?_inj (List.getElem?_eq_some_iff.1 (cells_at hx)).1 nd).1 ((cells_at hx).trans (by rw [e]; exact (cells_at hy).symm))
theorem rch_on {G : Gl} {a c : Nat} (h : Rch (refsP G) a c) : ∀ {x y : Pt × List Rc}, G[a]? = some x → G[c]? = some y → a = c ∨ On hitP G x.1 y.1 := by
  induction h with
  | refl a => intro x y _ _; exact Or.inl rfl
  | @step a b c h1 h2 ih =>
    intro x y hx hy
    obtain ⟨z, hz⟩ := at_of_lt (refs_lt h1)
    have hh := On.of_hit (mem_of_at hx) ((mem_refs hx hz).1 h1)
    rcases ih hz hy with e | e
    · subst e
      rw [hz] at hy; cases hy
      exact Or.inr hh
    · exact Or.inr (hh.trans e)
theorem dpn_on {G : Gl} (nd : (cellsL G).Nodup) {a c : Nat} {x y : Pt × List Rc} (hx : G[a]? = some x) (hy : G[c]? = some y) : Dpn (refsP G) a c ↔ On hitP G x.1 y.1 := by
  constructor
  · rintro ⟨b, h1, h2⟩
    obtain ⟨z, hz⟩ := at_of_lt (refs_lt h1)
    have hh := On.of_hit (mem_of_at hx) ((mem_refs hx hz).1 h1)
    rcases rch_on h2 hz hy with e | e
    · subst e
      rw [hz] at hy; cases hy
      exact hh
    · exact hh.trans e
  · rintro ⟨u, hu, e⟩
    have key : ∀ (u : Pt × List Rc), Dep hitP G [y.1] u → ∀ i, G[i]? = some u → Dpn (refsP G) i c := by
      intro u hu
      induction hu with
      | @here u h1 h2 =>
        intro i hi
        obtain ⟨p, hp, he⟩ := any_iff.1 h2
        rw [List.mem_singleton] at hp
        subst hp
        exact ⟨c, (mem_refs hi hy).2 he, .refl c⟩
      | @on u v h1 h2 h3 ih =>
        intro i hi
        obtain ⟨j, hj⟩ := List.getElem?_of_mem h2.mem
        exact ⟨j, (mem_refs hi hj).2 h3, (ih j hj).rch⟩
    obtain ⟨i, hi⟩ := List.getElem?_of_mem hu.mem
    have := one_cell nd hi hx e
    subst this
    exact key u hu i hi
theorem dep_rch {G : Gl} {l : List Pt} {a c : Nat} (h : Rch (refsP G) a c) : ∀ {x y : Pt × List Rc}, G[a]? = some x → G[c]? = some y → Dep hitP G l y → Dep hitP G l x := by
  induction h with
  | refl a => intro x y hx hy h; rw [hx] at hy; cases hy; exact h
  | @step a b c h1 h2 ih =>
    intro x y hx hy h
    obtain ⟨z, hz⟩ := at_of_lt (refs_lt h1)
    exact .on (mem_of_at hx) (ih hz hy h) ((mem_refs hx hz).1 h1)
theorem dep_places {G : Gl} {l : List Pt} {i : Nat} {x : Pt × List Rc} (hx : G[i]? = some x) : Dep hitP G l x ↔ anyB hitP x.2 l = true ∨ ∃ (j : Nat) (y : Pt × List Rc), G[j]? = some y ∧ Dpn (refsP G) i j ∧ anyB hitP y.2 l = true := by
  constructor
  · intro h
    induction h generalizing i with
    | here h1 h2 => exact Or.inl h2
    | @on u v h1 h2 h3 ih =>
      obtain ⟨j, hj⟩ := List.getElem?_of_mem h2.mem
      have hij := (mem_refs hx hj).2 h3
      rcases ih hj with h4 | ⟨k, y, hk, h5, h6⟩
      · exact Or.inr ⟨j, v, hj, ⟨j, hij, .refl j⟩, h4⟩
      · exact Or.inr ⟨k, y, hk, ⟨j, hij, h5.rch⟩, h6⟩
  · rintro (h | ⟨j, y, hj, h1, h2⟩)
    · exact .here (mem_of_at hx) h
    · exact dep_rch h1.rch hx hj (.here (mem_of_at hj) h2)
theorem those_filter (G : Gl) (p : Nat → Bool) (P : Pt × List Rc → Bool) (h : ∀ i x, G[i]? = some x → p i = P x) : thoseL (cellsL G) p G.length = (G.filter P).map Prod.fst := by
  have key : ∀ j, j ≤ G.length → thoseL (cellsL G) p j = ((G.take j).filter P).map Prod.fst := by
    intro j
    induction j with
    | zero => intro _; rfl
    | succ j ih =>
      intro hj
      obtain ⟨x, hx⟩ := at_of_lt (G := G) (i := j) (by omega)
      rw [those_next p (cells_at hx), ih (by omega), List.take_add_one, hx, List.filter_append, List.map_append, h j x hx]
      congr 1
      cases hP : P x
      · simp [hP]
      · simp [hP]
  rw [key _ (Nat.le_refl _), List.take_length]
open Classical in
theorem loops_those {G : Gl} (nd : (cellsL G).Nodup) : thoseL (cellsL G) (fun i => pB (Dpn (refsP G) i i)) G.length = loopsL hitP G := by
  rw [those_filter G _ (fun x => (reachL hitP G [x.1]).contains x.1) (fun i x hx => by
    rw [Bool.eq_iff_iff, pB_iff, dpn_on nd hx hx, List.contains_iff_mem, on_iff])]
  unfold loopsL cellsL
  rw [List.filter_map]
  rfl
open Classical in
theorem reach_those {G : Gl} {l : List Pt} (s : Nat) (hs : ∀ i x, G[i]? = some x → (s.testBit i = true ↔ anyB hitP x.2 l = true)) (ht : ∀ i, s.testBit i = true → i < G.length) :
    thoseL (cellsL G) (fun i => pB (s.testBit i = true ∨ ∃ j, s.testBit j = true ∧ Dpn (refsP G) i j)) G.length = reachL hitP G l := by
  rw [reach_spec, those_filter G _ (fun x => decide (Dep hitP G l x)) (fun i x hx => ?_)]
  rw [Bool.eq_iff_iff, pB_iff, decide_eq_true_eq, dep_places hx, hs i x hx]
  constructor
  · rintro (h | ⟨j, h1, h2⟩)
    · exact Or.inl h
    · obtain ⟨y, hy⟩ := at_of_lt (ht j h1)
      exact Or.inr ⟨j, y, hy, h2, (hs j y hy).1 h1⟩
  · rintro (h | ⟨j, y, hy, h1, h2⟩)
    · exact Or.inl h
    · exact Or.inr ⟨j, (hs j y hy).2 h2, h1⟩
theorem reach_zero {G : Gl} {l : List Pt} (h : ∀ (i : Nat) (x : Pt × List Rc), G[i]? = some x → anyB hitP x.2 l = false) : reachL hitP G l = [] := by
  classical
  have h1 := reach_those (G := G) (l := l) 0 (fun i x hx => by rw [h i x hx, Nat.zero_testBit]) (fun i hi => by rw [Nat.zero_testBit] at hi; cases hi)
  rw [← h1]
  have : ∀ (C : List Pt) j, thoseL C (fun i => pB ((0 : Nat).testBit i = true ∨ ∃ j, (0 : Nat).testBit j = true ∧ Dpn (refsP G) i j)) j = [] := fun C j => by
    unfold thoseL
    rw [List.filterMap_eq_nil_iff]
    intro i _
    rw [if_neg]
    rw [pB_iff]
    rintro (h | ⟨j, h, -⟩) <;> (rw [Nat.zero_testBit] at h; cases h)
  exact this _ _
end Go.Proofs.YtakamedgdiffbaaGreatDoor.GraphC
namespace Go.Proofs.YtakamedgdiffbaaGreatDoor.GraphC
set_option linter.unusedVariables false
open Go.RowKit Go.Proofs.YtakamedgdiffbaaGreatDoor.NumC Go.Proofs.YtakamedgdiffbaaGreatDoor.RowsC
open Go.Proofs.YtakamedgdiffbaaGreatDoor.RefsC (Rc RAt hitsL RBox Srt)
open Go.Proofs.YtakamedgdiffbaaGreatDoor.TreeC (Kept)
theorem and_some (s t : Nat) : s &&& t ≠ 0 ↔ ∃ j, s.testBit j = true ∧ t.testBit j = true := by
  constructor
  · intro h
    obtain ⟨j, hj⟩ := Nat.exists_testBit_of_ne_zero h
    rw [Nat.testBit_and, Bool.and_eq_true] at hj
    exact ⟨j, hj⟩
  · rintro ⟨j, h1, h2⟩ e
    have := congrArg (fun x => x.testBit j) e
    simp only [Nat.testBit_and, h1, h2, Nat.zero_testBit] at this
    cases this
set_option maxHeartbeats 1000000 in
set_option maxRecDepth 100000 in
theorem creach1 {B : Nat} {P N Q : Nat → Prop} {mo : Option Nat} {G : Gl} {L : WL} {v : Value} {σ : Wk} (hb bx s i : Nat) (w : World) (h : RS w w P N B P N Q mo G L v σ) (hg : GoodG G) (hs : SrtG bfP G) (hbd : Bnd G) (hi : i < G.length)
    (hS : SAt w hb 0 s) (hP : ¬ P hb) (hc : w.cell? ⟨bx, 0, none⟩ = some (.pointer (some ⟨L.b, 0, none⟩))) :
    Calls Tryz.prog 43 #[.int .i64 (i : Int), .pointer (some ⟨hb, 0, none⟩), .pointer (some ⟨bx, 0, none⟩)] w (AskPost w P N B Q mo G L (s.testBit i = true ∨ ∃ j, s.testBit j = true ∧ Dpn (refsP G) i j)) := by
  have hn := hbd.1
  have hcall := cshas hb 0 s i w (by omega) hS
  have HS := Lib.hid hS
  have H := Lib.hid h
  have HD := Lib.hid (cdepends i w h hg hs hbd hi)
  have hlt := hS.lt
  clear h hg hs hbd hS
  obtain ⟨b, hbit⟩ : ∃ b, s.testBit i = b := ⟨_, rfl⟩
  have HBit := Lib.hid hbit
  rw [hbit] at hcall
  clear hbit
  cases b
  · go_enter Tryz.func43, Tryz.ntmps43
    go_wp2_with fail
    refine hcall.mono ?_; rintro e w2 ⟨rfl, rfl⟩
    clear hcall
    go_wp2_with fail
    refine HD.out.mono ?_; rintro e w5 ⟨rfl, P', N', v', σ', hrs, hf⟩
    have hcall2 := csmeets L.ga (i * 16) (σ'.al i) hb 0 s w5 (hrs.ws.alls i hi) (HS.out.but hrs.bu hP)
    have HF : Hid (((decide (σ'.al i &&& s ≠ 0)) = true ↔ (s.testBit i = true ∨ ∃ j, s.testBit j = true ∧ Dpn (refsP G) i j)) ∧ ∀ w', Below w5.heap.size w5 w' → ∃ P' N' v' σ', RS w w' P N B P' N' Q mo G L v' σ') := by
      refine Lib.hid ⟨?_, fun w' hb' => ⟨P', N', v', σ', hrs.under hb'⟩⟩
      rw [decide_eq_true_eq, and_some, HBit.out]
      constructor
      · rintro ⟨j, h1, h2⟩
        exact Or.inr ⟨j, h2, ((hrs.inv.clo i hi hf).2 j).1 h1⟩
      · rintro (h | ⟨j, h1, h2⟩)
        · cases h
        · exact ⟨j, ((hrs.inv.clo i hi hf).2 j).2 h2, h1⟩
    clear hrs hf HD HBit
    generalize decide (σ'.al i &&& s ≠ 0) = c at *
    go_wp2_with fail
    refine hcall2.mono ?_; rintro e w6 ⟨rfl, hb6⟩
    have HG := Lib.hid (HF.out.2 w6 hb6)
    clear hcall2 hb6
    go_wp2_with fail
    go_ret
    exact ⟨c, rfl, HF.out.1, HG.out⟩
  · go_enter Tryz.func43, Tryz.ntmps43
    go_wp2_with fail
    refine hcall.mono ?_; rintro e w2 ⟨rfl, rfl⟩
    clear hcall
    go_wp2_with fail
    go_ret
    exact ⟨true, rfl, ⟨fun _ => Or.inl HBit.out, fun _ => rfl⟩, P, N, v, σ, H.out⟩
end Go.Proofs.YtakamedgdiffbaaGreatDoor.GraphC
namespace Go.Proofs.YtakamedgdiffbaaGreatDoor.GraphC
set_option linter.unusedVariables false
open Go.RowKit Go.Proofs.YtakamedgdiffbaaGreatDoor.NumC Go.Proofs.YtakamedgdiffbaaGreatDoor.RowsC
open Go.Proofs.YtakamedgdiffbaaGreatDoor.RefsC (Rc RAt hitsL RBox Srt)
open Go.Proofs.YtakamedgdiffbaaGreatDoor.TreeC (Kept)
theorem eq_items (xs ys : Array Value) (a : Nat → Int) (W : World) : ∀ is : List Nat, (∀ j, j ∈ is → xs[j]? = some (.int .u64 (a j))) → (∀ j, j ∈ is → ys[j]? = some (.int .u64 0)) →
    (Op.eqItems 9999 63 1 xs ys is).run Tryz.prog W = .ok (is.all fun j => decide (a j = 0)) W := by
  have he : Tryz.prog.plainKey 63 = true := by kernel_rfl
  intro is
  induction is with
  | nil => intro _ _; rfl
  | cons j is ih =>
    intro hx hy
    have p1 := run_part_plain (P := Tryz.prog) W he (off := j * 1) (by rw [Nat.mul_one]; exact hx j List.mem_cons_self)
    have p2 := run_part_plain (P := Tryz.prog) W he (off := j * 1) (by rw [Nat.mul_one]; exact hy j List.mem_cons_self)
    have p3 := run_equalIn_int (P := Tryz.prog) W 9998 63 .u64 _ (a j) 0 Tryz.underlying63
    have ih := ih (fun k hk => hx k (List.mem_cons_of_mem _ hk)) (fun k hk => hy k (List.mem_cons_of_mem _ hk))
    simp only [Op.eqItems, Sem.run_bind, p1, p2, p3, Result.andThen_ok, Sem.run_ite]
    by_cases h : a j = 0
    · simp [h, ih]
    · simp [h]
set_option maxRecDepth 100000 in
theorem eq_set {s : Nat} (ht : Top s) (W : World) : (Op.equalIn 10000 73 (.agg #[.int .u64 ((wordN s 0 : Nat) : Int), .int .u64 ((wordN s 1 : Nat) : Int), .int .u64 ((wordN s 2 : Nat) : Int), .int .u64 ((wordN s 3 : Nat) : Int), .int .u64 ((wordN s 4 : Nat) : Int), .int .u64 ((wordN s 5 : Nat) : Int), .int .u64 ((wordN s 6 : Nat) : Int), .int .u64 ((wordN s 7 : Nat) : Int), .int .u64 ((wordN s 8 : Nat) : Int), .int .u64 ((wordN s 9 : Nat) : Int), .int .u64 ((wordN s 10 : Nat) : Int), .int .u64 ((wordN s 11 : Nat) : Int), .int .u64 ((wordN s 12 : Nat) : Int), .int .u64 ((wordN s 13 : Nat) : Int), .int .u64 ((wordN s 14 : Nat) : Int), .int .u64 ((wordN s 15 : Nat) : Int)]) (.agg #[.int .u64 0, .int .u64 0, .int .u64 0, .int .u64 0, .int .u64 0, .int .u64 0, .int .u64 0, .int .u64 0, .int .u64 0, .int .u64 0, .int .u64 0, .int .u64 0, .int .u64 0, .int .u64 0, .int .u64 0, .int .u64 0])).run Tryz.prog W = .ok (decide (s = 0)) W := by
  have hu : Tryz.prog.underlying 73 = some (.array 16 63) := by kernel_rfl
  have hc : Tryz.prog.cellsOf 63 = 1 := by kernel_rfl
  obtain ⟨i, hi⟩ : ∃ i, Tryz.prog.info? 63 = some i := Option.isSome_iff_exists.1 (by kernel_rfl)
  have h1 : (#[.int .u64 ((wordN s 0 : Nat) : Int), .int .u64 ((wordN s 1 : Nat) : Int), .int .u64 ((wordN s 2 : Nat) : Int), .int .u64 ((wordN s 3 : Nat) : Int), .int .u64 ((wordN s 4 : Nat) : Int), .int .u64 ((wordN s 5 : Nat) : Int), .int .u64 ((wordN s 6 : Nat) : Int), .int .u64 ((wordN s 7 : Nat) : Int), .int .u64 ((wordN s 8 : Nat) : Int), .int .u64 ((wordN s 9 : Nat) : Int), .int .u64 ((wordN s 10 : Nat) : Int), .int .u64 ((wordN s 11 : Nat) : Int), .int .u64 ((wordN s 12 : Nat) : Int), .int .u64 ((wordN s 13 : Nat) : Int), .int .u64 ((wordN s 14 : Nat) : Int), .int .u64 ((wordN s 15 : Nat) : Int)] : Array Value) = ((List.range 16).map fun j => Value.int .u64 ((wordN s j : Nat) : Int)).toArray := by rfl
  have h2 : (#[.int .u64 0, .int .u64 0, .int .u64 0, .int .u64 0, .int .u64 0, .int .u64 0, .int .u64 0, .int .u64 0, .int .u64 0, .int .u64 0, .int .u64 0, .int .u64 0, .int .u64 0, .int .u64 0, .int .u64 0, .int .u64 0] : Array Value) = ((List.range 16).map fun j => Value.int .u64 0).toArray := by rfl
  rw [show (10000 : Nat) = 9999 + 1 from rfl, run_equalIn_array W 9999 _ _ hu hi, hc, eq_items _ _ (fun j => ((wordN s j : Nat) : Int)) W _ (fun j hj => ?_) (fun j hj => ?_)]
  · congr 1
    have := meet_words (t := s) ht
    rw [Nat.and_self] at this
    rw [Bool.eq_iff_iff, List.all_eq_true, decide_eq_true_eq, this]
    constructor
    · intro h j hj
      have := h j (List.mem_range.2 hj)
      rw [decide_eq_true_eq] at this
      rw [Nat.and_self]; omega
    · intro h j hj
      have := h j (List.mem_range.1 hj)
      rw [Nat.and_self] at this
      rw [decide_eq_true_eq]; omega
  · rw [h1, List.getElem?_toArray, List.getElem?_map, List.getElem?_range (List.mem_range.1 hj)]; rfl
  · rw [h2, List.getElem?_toArray, List.getElem?_map, List.getElem?_range (List.mem_range.1 hj)]; rfl
structure RI (w wr : World) (P N Q : Nat → Prop) (mo : Option Nat) (G : Gl) (L : WL) (l : List Pt) (hb bx ga : Nat) (m : Nat → Nat) (j s : Nat) : Prop where
  rs : RS wr wr P N w.heap.size P N Q mo G L (.slice none 0 0) wk0
  set : SAt wr hb 0 s
  bits : ∀ i, s.testBit i = true ↔ i < j ∧ ∃ x, G[i]? = some x ∧ anyB hitP x.2 l = true
  mt : MAt wr ga m
  box : wr.cell? ⟨bx, 0, none⟩ = some (.pointer (some ⟨L.b, 0, none⟩))
  bel : Below w.heap.size w wr
  hP : ¬ P hb ∧ ¬ N hb ∧ w.heap.size ≤ hb ∧ hb ≠ ga ∧ hb ≠ bx
  nbx : ¬ P bx
theorem RS.other {w w' : World} {B b : Nat} {P N Q : Nat → Prop} {mo : Option Nat} {G : Gl} {L : WL} {v : Value} {σ : Wk} (h : RS w w P N B P N Q mo G L v σ) (hk : Kept b w w') (hP : ¬ P b) (hN : ¬ N b) (hB : B ≤ b) : RS w' w' P N B P N Q mo G L v σ :=
  ⟨h.ws.stay hk.size fun k hlt hor => hk.block k hlt fun e => by
    subst e
    rcases hor with e | e | e
    · omega
    · exact hP e
    · exact hN e, h.inv, h.op, ⟨rfl, rfl, rfl, Nat.le_refl _, fun _ _ _ => rfl⟩, fun _ e => Or.inl e, fun _ e => Or.inl e⟩
section
variable {w wr w' : World} {P N Q : Nat → Prop} {mo : Option Nat} {G : Gl} {L : WL} {l : List Pt} {hb bx ga : Nat} {m : Nat → Nat} {j s : Nat}
theorem RI.under (h : RI w wr P N Q mo G L l hb bx ga m j s) (k : Below wr.heap.size wr w') : RI w w' P N Q mo G L l hb bx ga m j s :=
  ⟨(h.rs.under k).now, h.set.below k, h.bits, h.mt.below k, (k.cell (p := ⟨bx, 0, none⟩) (World.block_lt_of_cell? _ _ h.box)).trans h.box, h.bel.trans (k.mono h.bel.size), h.hP, h.nbx⟩
theorem RI.no (h : RI w wr P N Q mo G L l hb bx ga m j s) {x : Pt × List Rc} (hx : G[j]? = some x) (hh : anyB hitP x.2 l = false) : RI w wr P N Q mo G L l hb bx ga m (j + 1) s :=
  { h with
    bits := fun i => by
      rw [h.bits i]
      constructor
      · rintro ⟨h1, h2⟩; exact ⟨by omega, h2⟩
      · rintro ⟨h1, y, h2, h3⟩
        refine ⟨?_, y, h2, h3⟩
        have hne : i ≠ j := by
          intro e
          rw [e, hx] at h2
          cases h2
          rw [hh] at h3
          cases h3
        omega }
theorem RI.yes (h : RI w wr P N Q mo G L l hb bx ga m j s) {x : Pt × List Rc} (hx : G[j]? = some x) (hh : anyB hitP x.2 l = true) (hk : Kept hb wr w') (hs : SAt w' hb 0 (s ||| 2 ^ j)) : RI w w' P N Q mo G L l hb bx ga m (j + 1) (s ||| 2 ^ j) := by
  obtain ⟨p1, p2, p3, p4, p5⟩ := h.hP
  refine ⟨h.rs.other hk p1 p2 p3, hs, fun i => ?_, h.mt.kept hk (fun e => p4 e.symm), (World.cell?_of_block (hk.block bx (World.block_lt_of_cell? _ _ h.box) (fun e => p5 e.symm))).trans h.box, ⟨hk.os.trans h.bel.os, hk.tape.trans h.bel.tape, hk.output.trans h.bel.output, Nat.le_trans h.bel.size hk.size, fun k hlt => (hk.block k (by have := h.bel.size; omega) (by omega)).trans (h.bel.block k hlt)⟩, h.hP, h.nbx⟩
  rw [Nat.testBit_or, Bool.or_eq_true, h.bits i, Nat.testBit_two_pow, decide_eq_true_eq]
  constructor
  · rintro (⟨h1, h2⟩ | e)
    · exact ⟨by omega, h2⟩
    · subst e; exact ⟨by omega, x, hx, hh⟩
  · rintro ⟨h1, h2⟩
    by_cases e : j = i
    · exact Or.inr e
    · exact Or.inl ⟨by omega, h2⟩
end
set_option maxHeartbeats 4000000 in
set_option maxRecDepth 100000 in
theorem cReach {Q : Nat → Prop} {v : Value} {mo : Option Nat} {G : Gl} (l : List Pt) (A : Option Addr) (c : Nat) (w : World) (h : GV w Q v mo G) (hbd : Bnd G) (hs : SrtG bfP G) (hl : l.length ≤ 1000000) (hR : Reads fP 2 w w.heap.size l A) :
    Calls Tryz.prog 17 #[v, .slice A l.length c] w (CellsPost (reachL hitP G l) w) := by
  have hn := hbd.1
  have hcall := cwalk w h hs hn
  have HV := Lib.hid h
  have HBD := Lib.hid hbd
  have HS := Lib.hid hs
  have HR := Lib.hid hR
  clear h hbd hs hR
  generalize hPost : CellsPost (reachL hitP G l) w = POST
  have HPOST := Lib.hid hPost
  clear hPost
  go_enter Tryz.func17, Tryz.ntmps17
  go_wp2_with fail
  refine hcall.mono ?_; rintro e w1 ⟨L, P, N, rfl, hb1, hrs⟩
  have hcall2 := cmdirect l A c w1 (HV.out.below hb1) HBD.out HS.out hl ((HR.out.below hb1).mono hb1.size)
  have HB1 := Lib.hid hb1
  have HRS := Lib.hid hrs
  clear hcall hb1 hrs
  go_wp2_with fail
  refine hcall2.mono ?_; rintro e w2 ⟨ga, m, rfl, hga, hm, hS, hb2⟩
  have hrs2 := (HRS.out.under hb2).now
  have HB2 := Lib.hid (HB1.out.trans (hb2.mono HB1.out.size))
  have c1 := hrs2.ws.cell.2.1
  have hbl := (hrs2.ws.plow _ hrs2.ws.pb).2
  have hgl := hm.lt
  have n1 : L.b ≠ w2.heap.size := by omega
  have n2 : L.b ≠ w2.heap.size + 1 := by omega
  have HM := Lib.hid (And.intro hm hS)
  have HRS2 := Lib.hid hrs2
  clear hcall2 hb2 hrs2 hm hS HRS HB1
  go_wp2_with fail
  generalize hW : (w2.alloc (.cells #[.pointer (some ⟨L.b, 0, none⟩)] 70)).alloc (.cells #[.int .u64 0, .int .u64 0, .int .u64 0, .int .u64 0, .int .u64 0, .int .u64 0, .int .u64 0, .int .u64 0, .int .u64 0, .int .u64 0, .int .u64 0, .int .u64 0, .int .u64 0, .int .u64 0, .int .u64 0, .int .u64 0] 73) = W at *
  have hz2 : (w2.alloc (.cells #[.pointer (some ⟨L.b, 0, none⟩)] 70)).heap.size = w2.heap.size + 1 := World.size_alloc _ _
  have hzW : W.heap.size = w2.heap.size + 2 := by rw [← hW, World.size_alloc, hz2]
  have bA : Below w2.heap.size w2 (w2.alloc (.cells #[.pointer (some ⟨L.b, 0, none⟩)] 70)) := (Below.refl _ w2).alloc (Nat.le_refl _) _
  have bB : Below (w2.heap.size + 1) (w2.alloc (.cells #[.pointer (some ⟨L.b, 0, none⟩)] 70)) W := by rw [← hW]; exact (Below.refl _ _).alloc (by rw [hz2]; exact Nat.le_refl _) _
  have hS0 : SAt W (w2.heap.size + 1) 0 0 := by
    have := SAt.zero (w2.alloc (.cells #[.pointer (some ⟨L.b, 0, none⟩)] 70))
    rw [hz2] at this
    rw [← hW]; exact this
  have hBx : W.cell? ⟨w2.heap.size, 0, none⟩ = some (.pointer (some ⟨L.b, 0, none⟩)) := (World.cell?_of_block (bB.block _ (Nat.lt_succ_self _))).trans (by simp [go_sem])
  have bW : Below w2.heap.size w2 W := bA.trans (bB.mono (Nat.le_succ _))
  have hI : RI w W P N Q mo G L l (w2.heap.size + 1) w2.heap.size ga m 0 0 := by
    have r1 := HRS2.out.ws
    exact ⟨(HRS2.out.under bW).now, hS0, fun i => by rw [Nat.zero_testBit]; exact ⟨fun h => (by cases h), fun h => absurd h.1 (Nat.not_lt_zero _)⟩, HM.out.1.below bW, hBx, HB2.out.trans (bW.mono HB2.out.size), ⟨fun e => (by have := (r1.plow _ e).2; omega), fun e => (by have := (r1.nlow _ e).2; omega), by have := HB2.out.size; omega, by omega, by omega⟩, fun e => (by have := (r1.plow _ e).2; omega)⟩
  have HI := Lib.hid hI
  have hx1 : w2.heap.size < W.heap.size := by omega
  have hx2 : w2.heap.size + 1 < W.heap.size := by omega
  clear hW hz2 hzW bA bB hS0 hBx bW hI n1 n2 c1
  generalize hhb : w2.heap.size + 1 = hb at *
  generalize hbx : w2.heap.size = bx at *
  go_loopw [20] (fun kv wr => ∃ j : Nat, j ≤ G.length ∧ kv = .int .i64 j ∧ Hid (∃ s, RI w wr P N Q mo G L l hb bx ga m j s)) (fun kv _ => G.length - (intOf kv).toNat)
  case atStart => exact ⟨0, Nat.zero_le _, rfl, Lib.hid ⟨0, HI.out⟩⟩
  case round =>
    clear HI
    obtain ⟨j, hj, rfl, HRI⟩ := hrel
    obtain ⟨s, hri⟩ := HRI.out
    clear HRI
    by_cases hlt : j < G.length
    · have hd1 : (j : Int) < (G.length : Int) := by omega
      obtain ⟨x, hx⟩ := at_of_lt hlt
      obtain ⟨gc, oc, hcA, hgc, x0, x1⟩ := Reads.pt hri.rs.ws.cells j x.1 (cells_at hx)
      rw [hcA]
      have hBx : Below wr.heap.size wr (wr.alloc (.cells #[.int .i64 x.1.r, .int .i64 x.1.c] 35)) := (Below.refl _ wr).alloc (Nat.le_refl _) _
      have hri2 := hri.under hBx
      have hcell := HV.out.good.cell x (mem_of_at hx)
      have hcall := cmhas ga m x.1 _ hcell hri2.mt
      have HK : Hid (hasM m x.1 = anyB hitP x.2 l) := Lib.hid (by
        rw [Bool.eq_iff_iff, HM.out.2.has hcell, mem_direct]
        constructor
        · rintro ⟨y, hy, h2, h3⟩
          rw [← SrtG.only goesP HS.out hy (mem_of_at hx) h3]; exact h2
        · intro h2; exact ⟨x, mem_of_at hx, h2, rfl⟩)
      rw [HK.out] at hcall
      have HRI2 := Lib.hid hri2
      have HX := Lib.hid hx
      clear hri hri2 hBx hx hcA hcell HK
      obtain ⟨b, hbb⟩ : ∃ b, anyB hitP x.2 l = b := ⟨_, rfl⟩
      rw [hbb] at hcall
      have HBB := Lib.hid hbb
      clear hbb
      cases b
      · go_wp2_with fail
        refine hcall.mono ?_; rintro e w5 ⟨rfl, hb5⟩
        have HRI5 := Lib.hid ((HRI2.out.under hb5).no HX.out HBB.out)
        clear hcall hb5 x0 x1
        go_wp2_with fail
        go_roundw
        case rel => exact ⟨j + 1, by omega, by go_num, Lib.hid ⟨s, HRI5.out⟩⟩
        case measure => simp [intOf]; omega
      · go_wp2_with fail
        refine hcall.mono ?_; rintro e w5 ⟨rfl, hb5⟩
        have HRI5 := Lib.hid (HRI2.out.under hb5)
        have hcall2 := csput hb s j w5 (by omega) HRI5.out.set
        clear hcall hb5 x0 x1
        go_wp2_with fail
        refine hcall2.mono ?_; rintro e w6 ⟨rfl, hk6, hs6⟩
        have HRI6 := Lib.hid (HRI5.out.yes HX.out HBB.out hk6 hs6)
        clear hcall2 hk6 hs6
        go_wp2_with fail
        go_roundw
        case rel => exact ⟨j + 1, by omega, by go_num, Lib.hid ⟨_, HRI6.out⟩⟩
        case measure => simp [intOf]; omega
    · have hd1 : ¬ (j : Int) < (G.length : Int) := by omega
      obtain rfl : j = G.length := by omega
      have HRI := Lib.hid hri
      have q0 : wr.cell? ⟨hb, 0, none⟩ = some (.int .u64 ((wordN s 0 : Nat) : Int)) := hri.set.cell 0 (by decide)
      have q1 : wr.cell? ⟨hb, 1, none⟩ = some (.int .u64 ((wordN s 1 : Nat) : Int)) := hri.set.cell 1 (by decide)
      have q2 : wr.cell? ⟨hb, 2, none⟩ = some (.int .u64 ((wordN s 2 : Nat) : Int)) := hri.set.cell 2 (by decide)
      have q3 : wr.cell? ⟨hb, 3, none⟩ = some (.int .u64 ((wordN s 3 : Nat) : Int)) := hri.set.cell 3 (by decide)
      have q4 : wr.cell? ⟨hb, 4, none⟩ = some (.int .u64 ((wordN s 4 : Nat) : Int)) := hri.set.cell 4 (by decide)
      have q5 : wr.cell? ⟨hb, 5, none⟩ = some (.int .u64 ((wordN s 5 : Nat) : Int)) := hri.set.cell 5 (by decide)
      have q6 : wr.cell? ⟨hb, 6, none⟩ = some (.int .u64 ((wordN s 6 : Nat) : Int)) := hri.set.cell 6 (by decide)
      have q7 : wr.cell? ⟨hb, 7, none⟩ = some (.int .u64 ((wordN s 7 : Nat) : Int)) := hri.set.cell 7 (by decide)
      have q8 : wr.cell? ⟨hb, 8, none⟩ = some (.int .u64 ((wordN s 8 : Nat) : Int)) := hri.set.cell 8 (by decide)
      have q9 : wr.cell? ⟨hb, 9, none⟩ = some (.int .u64 ((wordN s 9 : Nat) : Int)) := hri.set.cell 9 (by decide)
      have q10 : wr.cell? ⟨hb, 10, none⟩ = some (.int .u64 ((wordN s 10 : Nat) : Int)) := hri.set.cell 10 (by decide)
      have q11 : wr.cell? ⟨hb, 11, none⟩ = some (.int .u64 ((wordN s 11 : Nat) : Int)) := hri.set.cell 11 (by decide)
      have q12 : wr.cell? ⟨hb, 12, none⟩ = some (.int .u64 ((wordN s 12 : Nat) : Int)) := hri.set.cell 12 (by decide)
      have q13 : wr.cell? ⟨hb, 13, none⟩ = some (.int .u64 ((wordN s 13 : Nat) : Int)) := hri.set.cell 13 (by decide)
      have q14 : wr.cell? ⟨hb, 14, none⟩ = some (.int .u64 ((wordN s 14 : Nat) : Int)) := hri.set.cell 14 (by decide)
      have q15 : wr.cell? ⟨hb, 15, none⟩ = some (.int .u64 ((wordN s 15 : Nat) : Int)) := hri.set.cell 15 (by decide)
      have eqS0 := eq_set hri.set.top wr
      have HNil : Hid (s = 0 → reachL hitP G l = []) := Lib.hid (fun h0 => reach_zero fun i x hx => by
        cases h : anyB hitP x.2 l
        · rfl
        · have := (hri.bits i).2 ⟨lt_of_at hx, x, hx, h⟩
          rw [h0, Nat.zero_testBit] at this; cases this)
      obtain ⟨b, hbb⟩ : ∃ b, decide (s = 0) = b := ⟨_, rfl⟩
      rw [hbb] at eqS0
      have HBB := Lib.hid hbb
      clear hri hbb
      cases b
      · clear HNil
        have c0 := HRI.out.box
        obtain ⟨p1, p2, p3, p4, p5⟩ := HRI.out.hP
        have hcall := cthose 43 #[] #[.pointer (some ⟨hb, 0, none⟩), .pointer (some ⟨bx, 0, none⟩)] (fun i => pB (s.testBit i = true ∨ ∃ j, s.testBit j = true ∧ Dpn (refsP G) i j)) wr (fun _ _ => rfl) HRI.out.rs hn (fun W P' N' v' σ' i hi hrs' => by
          have hlt := HRI.out.set.lt
          have hk := creach1 hb bx s i W hrs'.now HV.out.good HS.out HBD.out hi (HRI.out.set.but hrs'.bu p1) (fun e => (hrs'.pg hb e).elim p1 (fun e => by omega)) ((World.cell?_of_block (hrs'.bu.block bx (World.block_lt_of_cell? _ _ c0) (fun e => HRI.out.nbx e))).trans c0)
          simp only [pB_iff]
          exact hk)
        have HRT : Hid (thoseL (cellsL G) (fun i => pB (s.testBit i = true ∨ ∃ j, s.testBit j = true ∧ Dpn (refsP G) i j)) G.length = reachL hitP G l) := Lib.hid (reach_those s (fun i x hx => by
          rw [HRI.out.bits i]
          constructor
          · rintro ⟨-, y, hy, h⟩; rw [hx] at hy; cases hy; exact h
          · intro h; exact ⟨lt_of_at hx, x, hx, h⟩) (fun i hi => ((HRI.out.bits i).1 hi).1))
        rw [HRT.out] at hcall
        have HPl := Lib.hid (fun k hk => (HRI.out.rs.ws.plow k hk).1)
        generalize reachL hitP G l = D at *
        go_wp2_with fail
        refine hcall.mono ?_; rintro e w5 ⟨v0, rfl, ho, P', N', v', σ', hrs5⟩
        have HFin : Hid (CellsPost D w (.returned v0) w5) := Lib.hid ⟨v0, rfl, ho.mono HRI.out.bel.size, HRI.out.bel.trans (hrs5.bu.below HPl.out HRI.out.bel.size)⟩
        rw [HPOST.out] at HFin
        clear hcall ho hrs5
        go_wp2_with fail
        first | exact HFin.out | (go_ret; exact HFin.out) | (go_ret2; exact HFin.out)
      · have HFin : Hid (CellsPost (reachL hitP G l) w (.returned (.slice none 0 0)) wr) := Lib.hid ⟨_, rfl, by rw [HNil.out (of_decide_eq_true HBB.out)]; exact Owns.nil _ _, HRI.out.bel⟩
        rw [HPOST.out] at HFin
        clear HNil
        go_wp2_with fail
        first | exact HFin.out | (go_ret; exact HFin.out) | (go_ret2; exact HFin.out)
end Go.Proofs.YtakamedgdiffbaaGreatDoor.GraphC
namespace Go.Proofs.YtakamedgdiffbaaGreatDoor.GraphC
set_option linter.unusedVariables false
open Go.RowKit Go.Proofs.YtakamedgdiffbaaGreatDoor.NumC Go.Proofs.YtakamedgdiffbaaGreatDoor.RowsC
open Go.Proofs.YtakamedgdiffbaaGreatDoor.RefsC (Rc RAt hitsL RBox Srt)
open Go.Proofs.YtakamedgdiffbaaGreatDoor.TreeC (Kept)
set_option maxHeartbeats 1000000 in
set_option maxRecDepth 100000 in
theorem cLoops {Q : Nat → Prop} {v : Value} {mo : Option Nat} {G : Gl} (w : World) (h : GV w Q v mo G) (hbd : Bnd G) (hs : SrtG bfP G) :
    Calls Tryz.prog 19 #[v] w (CellsPost (loopsL hitP G) w) := by
  have hn := hbd.1
  have hcall := cwalk w h hs hn
  have HV := Lib.hid h
  have HBD := Lib.hid hbd
  have HS := Lib.hid hs
  have HL := Lib.hid (loops_those (G := G) (SrtG.nodup goesP hs))
  clear h hbd hs
  generalize loopsL hitP G = D at *
  go_enter Tryz.func19, Tryz.ntmps19
  go_wp2_with fail
  refine hcall.mono ?_; rintro e w1 ⟨L, P, N, rfl, hb1, hrs⟩
  have hcall2 := cthose 47 #[.pointer (some ⟨L.b, 0, none⟩)] #[] (fun i => pB (Dpn (refsP G) i i)) w1 (fun _ _ => rfl) hrs hn (fun W P' N' v' σ' i hi hrs' => by
    have hk := cisLoop i W hrs'.now HV.out.good HS.out HBD.out hi
    simp only [pB_iff]
    exact hk)
  rw [HL.out] at hcall2
  have HB1 := Lib.hid hb1
  have HPl := Lib.hid (fun k hk => (hrs.ws.plow k hk).1)
  clear hcall hb1 hrs
  go_wp2_with fail
  refine hcall2.mono ?_; rintro e w5 ⟨v0, rfl, ho, P', N', v', σ', hrs5⟩
  have HFin : Hid (CellsPost D w (.returned v0) w5) := Lib.hid ⟨v0, rfl, ho.mono HB1.out.size, HB1.out.trans (hrs5.bu.below HPl.out HB1.out.size)⟩
  clear hcall2 ho hrs5
  go_wp2_with fail
  go_ret
  exact HFin.out
end Go.Proofs.YtakamedgdiffbaaGreatDoor.GraphC
