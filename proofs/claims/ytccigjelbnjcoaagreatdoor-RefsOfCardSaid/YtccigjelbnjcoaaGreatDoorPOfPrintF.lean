/-
  Contracts of the statements' helper: a copy of a tree.
-/
import Derived.Test.YtccigjelbnjcoaaGreatDoorPOfTreeK9
import Derived.Test.YtccigjelbnjcoaaGreatDoorPOfTreeP8
import Derived.Test.YtccigjelbnjcoaaGreatDoorPOfTreeP3
import Derived.Test.YtccigjelbnjcoaaGreatDoorPOfTreeK7
namespace Go.Proofs.YtccigjelbnjcoaaGreatDoor.PrintC
set_option linter.unusedVariables false
open Go.RowKit Go.Proofs.YtccigjelbnjcoaaGreatDoor.NumC Go.Proofs.YtccigjelbnjcoaaGreatDoor.LexC Go.Proofs.YtccigjelbnjcoaaGreatDoor.TreeC
theorem as_below {w w' : World} {base : Nat} {v : Value} {fo : Fo} (h : AS w base v fo) (hb : Below w.heap.size w w') : AS w' base v fo := by
  obtain ⟨vs, ⟨h1, h2⟩, h3⟩ := h
  refine ⟨vs, ⟨h1, ?_⟩, RowV.keep (Kept.of (x := w.heap.size) hb) (fun g hg hl => ⟨by omega, hg⟩) _ _ h3⟩
  rcases h2 with h2 | ⟨g, cap, cur, e, hb', hg, h⟩
  · exact Or.inl h2
  · exact Or.inr ⟨g, cap, cur, e, hb', (hb.block g (Array.getElem?_eq_some_iff.1 hg).1).trans hg, h⟩
structure KpIn (w wr : World) (f : Fld) (A : Option Addr) (m c : Nat) (kd : Fo) (i : Nat) (v : Value) : Prop where
  below : Below w.heap.size w wr
  loc : NLoc wr w.heap.size f A m c
  box : NBox wr (w.heap.size + 1)
  row : ∃ fo : Fo, fo.app (kd.drop i) = kd ∧ fo.len = i ∧ AS wr (w.heap.size + 2) v fo
theorem KpIn.fin {w wr W : World} {f : Fld} {A B : Option Addr} {m c n d : Nat} {kd : Fo} (h : KpIn w wr f A m c kd kd.len (.slice B n d)) {V : World} (k1 : Kept w.heap.size wr V) (k2 : Kept (w.heap.size + 1) V W) :
    CpPost ⟨f, kd⟩ w (.returned (.agg #[.int .i64 f.k, .int .i64 f.vk, .int .i64 f.vn, .string f.vs, .int .i64 f.r1, .int .i64 f.r2, .int .i64 f.r3, .int .i64 f.r4, .string f.op, .slice B n d])) W := by
  obtain ⟨fo, e, hl, hA⟩ := h.row
  have e2 : kd.drop kd.len = .nil := Fo.drop_len kd kd.len (Nat.le_refl _)
  rw [e2, Fo.app_nil] at e
  subst e
  obtain ⟨hk, hn⟩ := hA.kids
  subst hn
  have s1 := h.below.size
  have s2 := k1.size
  have hk1 := hk.keep (Q := fun b => w.heap.size + 2 ≤ b) k1 (fun b hb hl => ⟨by omega, hb⟩)
  have hk2 := hk1.keep (Q := fun b => w.heap.size ≤ b) k2 (fun b hb hl => ⟨by omega, by omega⟩)
  exact ⟨_, _, rfl, (h.below.trans (k1.under (Nat.le_refl _) s1)).trans (k2.under (Nat.le_succ _) (by omega)), hk2⟩
theorem Fo.app_step : ∀ (x fo : Fo) (i : Nat), i < x.len → fo.app (x.drop i) = x → (fo.app (x.nth i).one).app (x.drop (i + 1)) = x := fun x fo i h e => by
  rw [Fo.app_assoc]
  have : (x.nth i).one.app (x.drop (i + 1)) = x.drop i := by rw [Fo.drop_nth x i h]; rfl
  rw [this]; exact e
set_option maxRecDepth 100000 in
set_option maxHeartbeats 2000000 in
theorem kcopied : ∀ (N : Nat) (a : Nd) (A : Option Addr) (c deep : Nat) (w : World), a.size ≤ N → a.size ≤ 300 → deep + a.deep ≤ 301 → KidsAt w (fun g => g < w.heap.size) a.kids A →
    Calls Tryz.prog 30 #[.agg #[.int .i64 a.f.k, .int .i64 a.f.vk, .int .i64 a.f.vn, .string a.f.vs, .int .i64 a.f.r1, .int .i64 a.f.r2, .int .i64 a.f.r3, .int .i64 a.f.r4, .string a.f.op, .slice A a.kids.len c], .int .i64 deep] w (CpPost a w) := by
  intro N
  induction N with
  | zero => intro a A c deep w h _; exact absurd h (by unfold Nd.size; omega)
  | succ N ih =>
    intro a A c deep w hsz hsm hdp hK
    obtain ⟨f, kd⟩ := a
    simp only at hK ⊢
    have hlen : kd.len ≤ 300 := by have := Fo.len_size kd; have : (Nd.mk f kd).size = 1 + kd.size := rfl; omega
    have hkz : kd.size ≤ N := by have : (Nd.mk f kd).size = 1 + kd.size := rfl; omega
    have hks : kd.size ≤ 300 := by have : (Nd.mk f kd).size = 1 + kd.size := rfl; omega
    have hdk : deep + (1 + kd.deep) ≤ 301 := hdp
    have t300 : ¬ (300 : Int) < (deep : Int) := by omega
    have HK := Lib.hid hK
    have b1 : Below w.heap.size w ((w.alloc (.cells #[.int .i64 f.k, .int .i64 f.vk, .int .i64 f.vn, .string f.vs, .int .i64 f.r1, .int .i64 f.r2, .int .i64 f.r3, .int .i64 f.r4, .string f.op, .slice A kd.len c] 30)).alloc (.cells #[.int .i64 0, .int .i64 0, .int .i64 0, .string { data := #[] }, .int .i64 0, .int .i64 0, .int .i64 0, .int .i64 0, .string { data := #[] }, .slice none 0 0] 30)) := ((Below.refl _ _).alloc (Nat.le_refl _) _).alloc (by simp) _
    have L0 : NLoc (w.alloc (.cells #[.int .i64 f.k, .int .i64 f.vk, .int .i64 f.vn, .string f.vs, .int .i64 f.r1, .int .i64 f.r2, .int .i64 f.r3, .int .i64 f.r4, .string f.op, .slice A kd.len c] 30)) w.heap.size f A kd.len c := ⟨heap_alloc_new _ _⟩
    have L1 : NLoc ((w.alloc (.cells #[.int .i64 f.k, .int .i64 f.vk, .int .i64 f.vn, .string f.vs, .int .i64 f.r1, .int .i64 f.r2, .int .i64 f.r3, .int .i64 f.r4, .string f.op, .slice A kd.len c] 30)).alloc (.cells #[.int .i64 0, .int .i64 0, .int .i64 0, .string { data := #[] }, .int .i64 0, .int .i64 0, .int .i64 0, .int .i64 0, .string { data := #[] }, .slice none 0 0] 30)) w.heap.size f A kd.len c := L0.kept (Kept.alloc (Kept.refl (w.alloc (.cells #[.int .i64 f.k, .int .i64 f.vk, .int .i64 f.vn, .string f.vs, .int .i64 f.r1, .int .i64 f.r2, .int .i64 f.r3, .int .i64 f.r4, .string f.op, .slice A kd.len c] 30)).heap.size _) _) (Nat.ne_of_lt L0.lt)
    have X1 : NBox ((w.alloc (.cells #[.int .i64 f.k, .int .i64 f.vk, .int .i64 f.vn, .string f.vs, .int .i64 f.r1, .int .i64 f.r2, .int .i64 f.r3, .int .i64 f.r4, .string f.op, .slice A kd.len c] 30)).alloc (.cells #[.int .i64 0, .int .i64 0, .int .i64 0, .string { data := #[] }, .int .i64 0, .int .i64 0, .int .i64 0, .int .i64 0, .string { data := #[] }, .slice none 0 0] 30)) (w.heap.size + 1) := by
      have := NBox.new (w.alloc (.cells #[.int .i64 f.k, .int .i64 f.vk, .int .i64 f.vn, .string f.vs, .int .i64 f.r1, .int .i64 f.r2, .int .i64 f.r3, .int .i64 f.r4, .string f.op, .slice A kd.len c] 30))
      rwa [show (w.alloc (.cells #[.int .i64 f.k, .int .i64 f.vk, .int .i64 f.vn, .string f.vs, .int .i64 f.r1, .int .i64 f.r2, .int .i64 f.r3, .int .i64 f.r4, .string f.op, .slice A kd.len c] 30)).heap.size = w.heap.size + 1 by simp] at this
    have HC : Hid (KpIn w ((w.alloc (.cells #[.int .i64 f.k, .int .i64 f.vk, .int .i64 f.vn, .string f.vs, .int .i64 f.r1, .int .i64 f.r2, .int .i64 f.r3, .int .i64 f.r4, .string f.op, .slice A kd.len c] 30)).alloc (.cells #[.int .i64 0, .int .i64 0, .int .i64 0, .string { data := #[] }, .int .i64 0, .int .i64 0, .int .i64 0, .int .i64 0, .string { data := #[] }, .slice none 0 0] 30)) f A kd.len c kd 0 (.slice none 0 0)) := Lib.hid ⟨b1, L1, X1, .nil, by cases kd <;> rfl, rfl, AS.nil _ _⟩
    clear hK hsz hsm hdp L0 L1 X1 b1
    obtain ⟨i0, hi0, hz0, hz1, hz2⟩ := info_parts node_info
    have HZ0 := Lib.hid hz0; have HZ1 := Lib.hid hz1; have HZ2 := Lib.hid hz2; have HI0 := Lib.hid hi0
    clear hz0 hz1 hz2 hi0
    go_enter Tryz.func30, Tryz.ntmps30
    go_wp2_with fail
    generalize ((w.alloc (.cells #[.int .i64 f.k, .int .i64 f.vk, .int .i64 f.vn, .string f.vs, .int .i64 f.r1, .int .i64 f.r2, .int .i64 f.r3, .int .i64 f.r4, .string f.op, .slice A kd.len c] 30)).alloc (.cells #[.int .i64 0, .int .i64 0, .int .i64 0, .string { data := #[] }, .int .i64 0, .int .i64 0, .int .i64 0, .int .i64 0, .string { data := #[] }, .slice none 0 0] 30)) = W1 at *
    go_loopw [5, 6] (fun v iv wr => ∃ i : Nat, i ≤ kd.len ∧ iv = .int .i64 i ∧ Hid (KpIn w wr f A kd.len c kd i v)) (fun _ iv _ => kd.len - (intOf iv).toNat)
    case atStart => exact ⟨0, Nat.zero_le _, rfl, HC⟩
    case round =>
      clear HC
      obtain ⟨i, hi, rfl, HR⟩ := hrel
      have HKr := below_row HK.out HR.out.below
      obtain ⟨fo, hfo, hfl, hAS⟩ := HR.out.row
      obtain ⟨B, d, rfl⟩ := hAS.form
      rw [hfl] at hAS
      obtain ⟨d0, d1, d2, d3, d4, d5, d6, d7, d8, d9, -⟩ := HR.out.loc.cells
      have lt4 := HR.out.loc.lt
      by_cases hlt : i < kd.len
      · have t1 : (i : Int) < (kd.len : Int) := by omega
        obtain ⟨ga, o, rfl, hrow⟩ : ∃ ga o, A = some ⟨ga, o, none⟩ ∧ RowAt wr (fun g => g < wr.heap.size) kd ga o := by
          rcases HKr with h | h
          · rw [h] at hlt; exact absurd hlt (by simp [Fo.len])
          · exact h
        obtain ⟨A2, c2, hk2, hp, f0, f1, f2, f3, f4, f5, f6, f7, f8, f9⟩ := RowAt.nth kd ga o i hrow hlt
        have hn1 := Fo.nth_size kd i hlt
        have hdn : (kd.nth i).deep ≤ kd.deep := by
          have h1 := Fo.deep_drop kd i hlt
          have h2 : ∀ (x : Fo) (i : Nat), (x.drop i).deep ≤ x.deep := by
            intro x
            induction x with
            | nil => intro i; cases i <;> simp [Fo.drop]
            | cons f k n _ ih => intro i; cases i with
              | zero => simp [Fo.drop]
              | succ i => have := ih i; simp only [Fo.drop, Fo.deep]; omega
          have h3 := h2 kd i
          omega
        have HI := Lib.hid (ih (kd.nth i) A2 c2 (deep + 1) wr (by omega) (by omega) (by omega) hk2)
        rw [show ((deep + 1 : Nat) : Int) = (deep : Int) + 1 by omega] at HI
        have HS := Lib.hid hAS
        have HF := Lib.hid (And.intro hfo hfl)
        have hlo := hAS.lt
        have HLO := Lib.hid hlo
        clear hrow hk2 HKr ih hn1 hdn hAS hfo hfl hlo
        go_wp2_with fail
        refine HI.out.mono ?_; rintro e w2 ⟨A3, c3, rfl, hb2, hk3⟩
        have hk : Kept wr.heap.size wr (w2.alloc (.cells #[.int .i64 (kd.nth i).f.k, .int .i64 (kd.nth i).f.vk, .int .i64 (kd.nth i).f.vn, .string (kd.nth i).f.vs, .int .i64 (kd.nth i).f.r1, .int .i64 (kd.nth i).f.r2, .int .i64 (kd.nth i).f.r3, .int .i64 (kd.nth i).f.r4, .string (kd.nth i).f.op, .slice A3 (kd.nth i).kids.len c3] 30)) := (Kept.of hb2).trans ((Kept.refl wr.heap.size w2).alloc _)
        have s1 := HR.out.below.size
        have s2 := hb2.size
        have hB3 : Below wr.heap.size wr (w2.alloc (.cells #[.int .i64 (kd.nth i).f.k, .int .i64 (kd.nth i).f.vk, .int .i64 (kd.nth i).f.vn, .string (kd.nth i).f.vs, .int .i64 (kd.nth i).f.r1, .int .i64 (kd.nth i).f.r2, .int .i64 (kd.nth i).f.r3, .int .i64 (kd.nth i).f.r4, .string (kd.nth i).f.op, .slice A3 (kd.nth i).kids.len c3] 30)) := hb2.alloc hb2.size _
        have N8 : KidsAt (w2.alloc (.cells #[.int .i64 (kd.nth i).f.k, .int .i64 (kd.nth i).f.vk, .int .i64 (kd.nth i).f.vn, .string (kd.nth i).f.vs, .int .i64 (kd.nth i).f.r1, .int .i64 (kd.nth i).f.r2, .int .i64 (kd.nth i).f.r3, .int .i64 (kd.nth i).f.r4, .string (kd.nth i).f.op, .slice A3 (kd.nth i).kids.len c3] 30)) (fun g => w.heap.size + 2 ≤ g ∧ Value.ownBlock (.slice B i d) ≠ some g) (kd.nth i).kids A3 := hk3.keep (y := w2.heap.size) ((Kept.refl _ _).alloc _) (fun g hg hl => ⟨by omega, by have := HR.out.box.lt; omega, fun e => by have := HLO.out g e; omega⟩)
        have hnb : (w2.alloc (.cells #[.int .i64 (kd.nth i).f.k, .int .i64 (kd.nth i).f.vk, .int .i64 (kd.nth i).f.vn, .string (kd.nth i).f.vs, .int .i64 (kd.nth i).f.r1, .int .i64 (kd.nth i).f.r2, .int .i64 (kd.nth i).f.r3, .int .i64 (kd.nth i).f.r4, .string (kd.nth i).f.op, .slice A3 (kd.nth i).kids.len c3] 30)).heap[w2.heap.size]? = some (.cells #[.int .i64 (kd.nth i).f.k, .int .i64 (kd.nth i).f.vk, .int .i64 (kd.nth i).f.vn, .string (kd.nth i).f.vs, .int .i64 (kd.nth i).f.r1, .int .i64 (kd.nth i).f.r2, .int .i64 (kd.nth i).f.r3, .int .i64 (kd.nth i).f.r4, .string (kd.nth i).f.op, .slice A3 (kd.nth i).kids.len c3] 30 (0, 0)) := heap_alloc_new _ _
        have s8 : w.heap.size + 2 ≤ (w2.alloc (.cells #[.int .i64 (kd.nth i).f.k, .int .i64 (kd.nth i).f.vk, .int .i64 (kd.nth i).f.vn, .string (kd.nth i).f.vs, .int .i64 (kd.nth i).f.r1, .int .i64 (kd.nth i).f.r2, .int .i64 (kd.nth i).f.r3, .int .i64 (kd.nth i).f.r4, .string (kd.nth i).f.op, .slice A3 (kd.nth i).kids.len c3] 30)).heap.size := by have := HR.out.box.lt; have := hB3.size; omega
        obtain ⟨vs, hown, hvs⟩ := as_below HS.out hB3
        have HH := Lib.hid hown
        have HNB := Lib.hid hnb
        have HV := Lib.hid (And.intro hvs N8)
        have HB3 := Lib.hid hB3
        clear hown hvs N8 hnb hk hB3 hb2 hk3 HS HI f0 f1 f2 f3 f4 f5 f6 f7 f8 f9 d0 d1 d2 d3 d4 d5 d6 d7 d8 d9
        have hfl : fo.len = i := HF.out.2
        go_wp2_with (at_builtin
                     refine wpList_append_own_at _ rfl (.tmp 17) (.tmp 26) _ rfl (w.heap.size + 2) 30 i0 _ 10 112 Tryz.underlying28 HI0.out HZ0.out HZ1.out HZ2.out rfl (by omega) (.slice B i d) fo.len (ncells vs) rfl HH.out ⟨w2.heap.size, 0, none⟩ 1 1 [.int .i64 (kd.nth i).f.k, .int .i64 (kd.nth i).f.vk, .int .i64 (kd.nth i).f.vn, .string (kd.nth i).f.vs, .int .i64 (kd.nth i).f.r1, .int .i64 (kd.nth i).f.r2, .int .i64 (kd.nth i).f.r3, .int .i64 (kd.nth i).f.r4, .string (kd.nth i).f.op, .slice A3 (kd.nth i).kids.len c3] rfl rfl (World.news_of_block HNB.out) (by simp [Value.oneCell']) (by unfold maxLen; omega) (by omega) s8 ?_
                     intro v9 w9 hown9 hg9 hnil9 hat9
                     have A9 : AS w9 (w.heap.size + 2) v9 (fo.app (Nd.one (kd.nth i))) := AS.snoc (f := (kd.nth i).f) (kd := (kd.nth i).kids) (A := A3) (m := (kd.nth i).kids.len) (c := c3) vs HV.out.1 rfl HV.out.2 hown9 hg9 hat9
                     obtain ⟨y, k9, hy⟩ := grown_kept hg9
                     have hyw : w.heap.size + 2 ≤ y := by
                       rcases hy with hy | hy
                       · exact (HLO.out y hy).1
                       · rw [hy]; exact s8
                     have HN : Hid (KpIn w w9 f (some ⟨ga, o, none⟩) kd.len c kd (i + 1) v9) := Lib.hid (by
                       have q1 : Below w.heap.size w (w2.alloc (.cells #[.int .i64 (kd.nth i).f.k, .int .i64 (kd.nth i).f.vk, .int .i64 (kd.nth i).f.vn, .string (kd.nth i).f.vs, .int .i64 (kd.nth i).f.r1, .int .i64 (kd.nth i).f.r2, .int .i64 (kd.nth i).f.r3, .int .i64 (kd.nth i).f.r4, .string (kd.nth i).f.op, .slice A3 (kd.nth i).kids.len c3] 30)) := HR.out.below.trans (HB3.out.mono HR.out.below.size)
                       have kk : Kept y wr w9 := (Kept.of HB3.out).trans k9
                       refine ⟨q1.trans (k9.under (by omega) q1.size), HR.out.loc.kept kk (by omega), HR.out.box.kept kk (by omega), fo.app (Nd.one (kd.nth i)), Fo.app_step kd fo i hlt HF.out.1, ?_, A9⟩
                       rw [Fo.len_app, HF.out.2]; rfl)
                     clear hown9 hg9 hnil9 hat9 k9 hy hyw A9)
        go_roundw
        case rel => exact ⟨i + 1, by omega, by go_num, HN⟩
        case measure => simp [intOf]; omega
      · have hie : i = kd.len := by omega
        subst hie
        clear ih HKr hAS hfo hfl
        have t1 : ¬ (kd.len : Int) < (kd.len : Int) := by omega
        have HRR := HR
        clear d0 d1 d2 d3 d4 d5 d6 d7 d8 d9
        obtain ⟨d0, d1, d2, d3, d4, d5, d6, d7, d8, d9, y0, y1, y2, y3, y4, y5, y6, y7, y8, y9⟩ := HR.out.loc.cells
        obtain ⟨f0, f1, f2, f3, f4, f5, f6, f7, f8, f9, z0, z1, z2, z3, z4, z5, z6, z7, z8, z9⟩ := HR.out.box.cells
        have lt3 := HR.out.box.lt
        go_wp2_with fail
        refine bodyPost_ret (v := .agg #[.int .i64 f.k, .int .i64 f.vk, .int .i64 f.vn, .string f.vs, .int .i64 f.r1, .int .i64 f.r2, .int .i64 f.r3, .int .i64 f.r4, .string f.op, .slice B fo.len d]) (by simp [results, Tryz.results30, go_sem, f0, f1, f2, f3, f4, f5, f6, f7, f8, f9]) rfl (KpIn.fin (V := wr.setCell ⟨w.heap.size, 9, none⟩ (.slice B fo.len d)) HRR.out ((Kept.refl _ _).setCell _ _) ?_)
        repeat (first | with_reducible exact Kept.refl _ _ | with_reducible refine Kept.setCell ?_ _ _)
theorem copy_fin {w w2 w3 W : World} {a : Nd} {A3 : Option Addr} {c3 b : Nat} (hB : Below w.heap.size w w3) (hk : KidsAt w3 (fun g => w2.heap.size ≤ g) a.kids A3) (h2 : w.heap.size + 2 ≤ w2.heap.size) (h3 : w2.heap.size ≤ w3.heap.size) (hb : b = w.heap.size + 1) (k : Kept b w3 W) :
    CpPost a w (.returned (.agg #[.int .i64 a.f.k, .int .i64 a.f.vk, .int .i64 a.f.vn, .string a.f.vs, .int .i64 a.f.r1, .int .i64 a.f.r2, .int .i64 a.f.r3, .int .i64 a.f.r4, .string a.f.op, .slice A3 a.kids.len c3])) W := by
  have s1 := hB.size
  exact ⟨_, _, rfl, hB.trans (k.under (by omega) s1), hk.keep k (fun g hg hl => ⟨by omega, by omega⟩)⟩
set_option maxRecDepth 100000 in
set_option maxHeartbeats 2000000 in
theorem kcopy (a : Nd) (A : Option Addr) (c : Nat) (w : World) (hs : a.size ≤ 300) (hK : KidsAt w (fun g => g < w.heap.size) a.kids A) :
    Calls Tryz.prog 11 #[.agg #[.int .i64 a.f.k, .int .i64 a.f.vk, .int .i64 a.f.vn, .string a.f.vs, .int .i64 a.f.r1, .int .i64 a.f.r2, .int .i64 a.f.r3, .int .i64 a.f.r4, .string a.f.op, .slice A a.kids.len c]] w (CpPost a w) := by
  have b1 : Below w.heap.size w ((w.alloc (.cells #[.int .i64 a.f.k, .int .i64 a.f.vk, .int .i64 a.f.vn, .string a.f.vs, .int .i64 a.f.r1, .int .i64 a.f.r2, .int .i64 a.f.r3, .int .i64 a.f.r4, .string a.f.op, .slice A a.kids.len c] 30)).alloc (.cells #[.int .i64 0, .int .i64 0, .int .i64 0, .string { data := #[] }, .int .i64 0, .int .i64 0, .int .i64 0, .int .i64 0, .string { data := #[] }, .slice none 0 0] 30)) := ((Below.refl _ _).alloc (Nat.le_refl _) _).alloc (by simp) _
  have L0 : NLoc (w.alloc (.cells #[.int .i64 a.f.k, .int .i64 a.f.vk, .int .i64 a.f.vn, .string a.f.vs, .int .i64 a.f.r1, .int .i64 a.f.r2, .int .i64 a.f.r3, .int .i64 a.f.r4, .string a.f.op, .slice A a.kids.len c] 30)) w.heap.size a.f A a.kids.len c := ⟨heap_alloc_new _ _⟩
  have L1 : NLoc ((w.alloc (.cells #[.int .i64 a.f.k, .int .i64 a.f.vk, .int .i64 a.f.vn, .string a.f.vs, .int .i64 a.f.r1, .int .i64 a.f.r2, .int .i64 a.f.r3, .int .i64 a.f.r4, .string a.f.op, .slice A a.kids.len c] 30)).alloc (.cells #[.int .i64 0, .int .i64 0, .int .i64 0, .string { data := #[] }, .int .i64 0, .int .i64 0, .int .i64 0, .int .i64 0, .string { data := #[] }, .slice none 0 0] 30)) w.heap.size a.f A a.kids.len c := L0.kept (Kept.alloc (Kept.refl (w.alloc (.cells #[.int .i64 a.f.k, .int .i64 a.f.vk, .int .i64 a.f.vn, .string a.f.vs, .int .i64 a.f.r1, .int .i64 a.f.r2, .int .i64 a.f.r3, .int .i64 a.f.r4, .string a.f.op, .slice A a.kids.len c] 30)).heap.size _) _) (Nat.ne_of_lt L0.lt)
  have X1 : NBox ((w.alloc (.cells #[.int .i64 a.f.k, .int .i64 a.f.vk, .int .i64 a.f.vn, .string a.f.vs, .int .i64 a.f.r1, .int .i64 a.f.r2, .int .i64 a.f.r3, .int .i64 a.f.r4, .string a.f.op, .slice A a.kids.len c] 30)).alloc (.cells #[.int .i64 0, .int .i64 0, .int .i64 0, .string { data := #[] }, .int .i64 0, .int .i64 0, .int .i64 0, .int .i64 0, .string { data := #[] }, .slice none 0 0] 30)) (w.heap.size + 1) := by
    have := NBox.new (w.alloc (.cells #[.int .i64 a.f.k, .int .i64 a.f.vk, .int .i64 a.f.vn, .string a.f.vs, .int .i64 a.f.r1, .int .i64 a.f.r2, .int .i64 a.f.r3, .int .i64 a.f.r4, .string a.f.op, .slice A a.kids.len c] 30))
    rwa [show (w.alloc (.cells #[.int .i64 a.f.k, .int .i64 a.f.vk, .int .i64 a.f.vn, .string a.f.vs, .int .i64 a.f.r1, .int .i64 a.f.r2, .int .i64 a.f.r3, .int .i64 a.f.r4, .string a.f.op, .slice A a.kids.len c] 30)).heap.size = w.heap.size + 1 by simp] at this
  have K1 := Lib.hid (below_row hK b1)
  have HN := Lib.hid (knodes 300 300 rfl (by decide) a A c ((w.alloc (.cells #[.int .i64 a.f.k, .int .i64 a.f.vk, .int .i64 a.f.vn, .string a.f.vs, .int .i64 a.f.r1, .int .i64 a.f.r2, .int .i64 a.f.r3, .int .i64 a.f.r4, .string a.f.op, .slice A a.kids.len c] 30)).alloc (.cells #[.int .i64 0, .int .i64 0, .int .i64 0, .string { data := #[] }, .int .i64 0, .int .i64 0, .int .i64 0, .int .i64 0, .string { data := #[] }, .slice none 0 0] 30)) K1.out)
  have HC := Lib.hid (fun (W : World) hk => kcopied a.size a A c 0 W (Nat.le_refl _) hs (by have := Fo.deep_size a.kids; unfold Nd.deep; unfold Nd.size at hs; omega) hk)
  have hs0 : ((w.alloc (.cells #[.int .i64 a.f.k, .int .i64 a.f.vk, .int .i64 a.f.vn, .string a.f.vs, .int .i64 a.f.r1, .int .i64 a.f.r2, .int .i64 a.f.r3, .int .i64 a.f.r4, .string a.f.op, .slice A a.kids.len c] 30)).alloc (.cells #[.int .i64 0, .int .i64 0, .int .i64 0, .string { data := #[] }, .int .i64 0, .int .i64 0, .int .i64 0, .int .i64 0, .string { data := #[] }, .slice none 0 0] 30)).heap.size = w.heap.size + 2 := by simp
  have HZ := Lib.hid hs0
  clear hK L0 hs0
  obtain ⟨f, kd⟩ := a
  simp only at *
  obtain ⟨d0, d1, d2, d3, d4, d5, d6, d7, d8, d9, -⟩ := L1.cells
  go_enter Tryz.func11, Tryz.ntmps11
  go_wp2_with fail
  generalize ((w.alloc (.cells #[.int .i64 f.k, .int .i64 f.vk, .int .i64 f.vn, .string f.vs, .int .i64 f.r1, .int .i64 f.r2, .int .i64 f.r3, .int .i64 f.r4, .string f.op, .slice A kd.len c] 30)).alloc (.cells #[.int .i64 0, .int .i64 0, .int .i64 0, .string { data := #[] }, .int .i64 0, .int .i64 0, .int .i64 0, .int .i64 0, .string { data := #[] }, .slice none 0 0] 30)) = W1 at *
  refine HN.out.mono ?_; rintro e w2 ⟨r, rfl, hb2, hr1, hr2, hr3⟩
  have L2 := L1.kept (Kept.of (x := W1.heap.size) hb2) (Nat.ne_of_lt L1.lt)
  have X2 := X1.kept (Kept.of (x := W1.heap.size) hb2) (Nat.ne_of_lt X1.lt)
  have K2 := Lib.hid (below_row K1.out hb2)
  have HB2 := Lib.hid (b1.trans (hb2.mono b1.size))
  have t1 : ¬ (300 : Int) < (r : Int) := by have := hr1 hs; omega
  have sz2 := hb2.size
  clear d0 d1 d2 d3 d4 d5 d6 d7 d8 d9 L1 X1 K1 hb2 hr1 hr2 hr3 HN b1
  obtain ⟨d0, d1, d2, d3, d4, d5, d6, d7, d8, d9, -⟩ := L2.cells
  go_wp2_with fail
  refine (HC.out w2 K2.out).mono ?_; rintro e w3 ⟨A3, c3, rfl, hb3, hk3⟩
  have X3 := X2.kept (Kept.of (x := w2.heap.size) hb3) (Nat.ne_of_lt X2.lt)
  have HB3 := Lib.hid (HB2.out.trans (hb3.mono HB2.out.size))
  have hz1 := HZ.out
  have hz2 := hb3.size
  clear d0 d1 d2 d3 d4 d5 d6 d7 d8 d9 L2 X2 K2 hb3
  obtain ⟨f0, f1, f2, f3, f4, f5, f6, f7, f8, f9, z0, z1, z2, z3, z4, z5, z6, z7, z8, z9⟩ := X3.cells
  go_wp2_with fail
  refine bodyPost_ret (v := .agg #[.int .i64 f.k, .int .i64 f.vk, .int .i64 f.vn, .string f.vs, .int .i64 f.r1, .int .i64 f.r2, .int .i64 f.r3, .int .i64 f.r4, .string f.op, .slice A3 kd.len c3]) (by simp [results, Tryz.results11, go_sem, f0, f1, f2, f3, f4, f5, f6, f7, f8, f9]) rfl (copy_fin (a := ⟨f, kd⟩) (b := w.heap.size + 1) HB3.out hk3 (by omega) (by omega) (by omega) ?_)
  repeat (first | with_reducible exact Kept.refl _ _ | with_reducible refine Kept.setCell ?_ _ _)
end Go.Proofs.YtccigjelbnjcoaaGreatDoor.PrintC
