/-
  Contract of package lex: Cut.
-/
import Derived.Test.YtccigjelbnjcoaaGreatDoorPTellLexF
import Derived.Test.YtccigjelbnjcoaaGreatDoorPTellLexZ3
import Derived.Test.YtccigjelbnjcoaaGreatDoorPTellTreeP0
namespace Go.Proofs.YtccigjelbnjcoaaGreatDoor.LexC
set_option linter.unusedVariables false
open Go.RowKit Go.Proofs.YtccigjelbnjcoaaGreatDoor.NumC
theorem tail_list (s : ByteArray) (i : Nat) : (s.extract i s.size).data.toList = s.data.toList.drop i := by
  rw [Lib.extract_data, List.take_of_length_le (by rw [List.length_drop, ← list_len]; omega)]
set_option maxRecDepth 100000 in
set_option maxHeartbeats 4000000 in
theorem cut (s : ByteArray) (w : World) (hs : s.size ≤ 1000000) (hl : LexLib w) :
    Calls Tryz.prog 44 #[.string s] w (CutPost w (cutL s.data.toList)) := by
  by_cases h3 : 300 < s.size
  · have E : Hid (cutL s.data.toList = ⟨[], 0, 2⟩) := Lib.hid (if_pos (by rw [← list_len]; exact h3))
    go_enter Tryz.func44, Tryz.ntmps44
    go_wp2
    refine bodyPost_ret (results_tmp3 rfl _ _ _) rfl ?_
    rw [E.out]
    exact ⟨_, rfl, own_nil w, Below.refl _ _⟩
  · obtain ⟨i0, hi0, hz0, hz1, hz2⟩ := info_parts tok_info
    have HZ0 := Lib.hid hz0; have HZ1 := Lib.hid hz1; have HZ2 := Lib.hid hz2; have HI0 := Lib.hid hi0
    clear hz0 hz1 hz2 hi0
    go_enter Tryz.func44, Tryz.ntmps44
    go_wp2
    go_loopw [5, 6] (fun lv a wr => ∃ (i : Nat) (acc : List Tok), i ≤ s.size ∧ acc.length ≤ i ∧ a = .int .i64 i ∧ Hid (wr.ownsRow w.heap.size 80 4 lv acc.length (tcells acc)) ∧ Below w.heap.size w wr ∧ Hid (Cutting s.data.toList i acc)) (fun _ a _ => s.size - (intOf a).toNat)
    case atStart => exact ⟨0, [], Nat.zero_le _, Nat.zero_le _, rfl, Lib.hid (own_nil w), Below.refl _ _, Lib.hid (Cutting.start (by rw [← list_len]; omega))⟩
    case round =>
      obtain ⟨i, acc, hi, hac, rfl, HO, hB, HC⟩ := hrel
      by_cases hlt : i < s.size
      · have hll : i < s.data.toList.length := by rw [← list_len]; exact hlt
        by_cases h32 : s[i].toNat = 32
        · have c1 : ((s[i].toNat : Int) == 32) = true := by rw [h32]; rfl
          have HC2 := Lib.hid (HC.out.blank hll (UInt8.toNat_inj.1 h32))
          clear h32
          go_wp2
          go_roundw
          case rel => exact ⟨i + 1, acc, by omega, by omega, by go_num, HO, hB, HC2⟩
          case measure => simp [intOf]; omega
        · have c1 : ((s[i].toNat : Int) == 32) = false := beq_eq_false_iff_ne.2 (by omega)
          have n32 : s.data.toList[i] ≠ 32 := fun e => h32 (by have : s[i] = 32 := e; rw [this]; rfl)
          have hx1 : (s.extract i s.size).size ≤ 1000000 := by rw [ByteArray.size_extract]; omega
          have hx2 : 0 < (s.extract i s.size).size := by rw [ByteArray.size_extract]; omega
          have W := first (s.extract i s.size) wr hx1 hx2 (hl.below hB)
          rw [tail_list] at W
          have HF := Lib.hid W
          clear hx1 hx2 W
          cases hn : nextL (s.data.toList.drop i) with
          | none =>
            have E := Lib.hid (HC.out.none_ hll n32 hn)
            have R : Hid (nextR (s.data.toList.drop i) 0 = (zeroT, 0)) := Lib.hid (nextR_none (by rw [List.drop_zero]; exact hn))
            clear hn n32 h32
            go_wp2_with fail
            refine HF.out.mono ?_; rw [R.out]; rintro e w1 ⟨rfl, hb1⟩
            unfold tokV zeroT nob
            have hlt2 := hb1.size
            have hBB := hB.trans (hb1.mono hB.size)
            have hsz2 := hBB.size
            go_wp2
            refine bodyPost_ret (results_tmp3 rfl _ _ _) rfl ?_
            rw [E.out]
            refine ⟨_, rfl, own_nil0 _ _, ?_⟩
            repeat (first | with_reducible exact hBB | with_reducible refine Below.setCell ?_ (by first | omega | (simp <;> omega)) _ | with_reducible refine Below.alloc ?_ (by first | omega | (simp <;> omega)) _)
          | some r =>
            obtain ⟨k, n, sx, m⟩ := r
            have HS := Lib.hid (HC.out.some_ hll n32 hn)
            have R : Hid (nextR (s.data.toList.drop i) 0 = (⟨k, n, str sx, 0⟩, (m : Int))) := Lib.hid (nextR_some (by rw [List.drop_zero]; exact hn))
            have hm := HS.out.2
            have hm3 : (i : Int) + (m : Int) ≤ 300 := by have := list_len s; omega
            have hm4 : i + m ≤ s.size := by have := list_len s; omega
            clear hn n32 h32
            go_wp2_with fail
            refine HF.out.mono ?_; rw [R.out]; rintro e w1 ⟨rfl, hb1⟩
            have m0 : ((m : Int) == 0) = false := beq_eq_false_iff_ne.2 (by omega)
            unfold tokV
            have hBW : Below wr.heap.size wr ((w1.alloc (.cells #[.int .i64 k, .int .i64 n, .string (str sx), .int .i64 i] 80)).alloc (.cells #[.int .i64 k, .int .i64 n, .string (str sx), .int .i64 i] 80)) := (hb1.alloc hb1.size _).alloc (by have := hb1.size; simp; omega) _
            have HOW := own_below HO.out hBW
            have hlo := World.ownsRow.lt HOW
            have hnb : ((w1.alloc (.cells #[.int .i64 k, .int .i64 n, .string (str sx), .int .i64 i] 80)).alloc (.cells #[.int .i64 k, .int .i64 n, .string (str sx), .int .i64 i] 80)).heap[w1.heap.size + 1]? = some (.cells #[.int .i64 k, .int .i64 n, .string (str sx), .int .i64 i] 80) := by
              rw [← heap_one w1 (.cells #[.int .i64 k, .int .i64 n, .string (str sx), .int .i64 i] 80)]; exact heap_alloc_new _ _
            have hBn := hB.trans (hBW.mono hB.size)
            have HH := Lib.hid HOW; have HL := Lib.hid hlo; have HNB := Lib.hid hnb
            clear hlo hnb HOW
            go_wp2_with (at_builtin
                         refine wpList_append_own_at _ rfl (.tmp 34) (.tmp 36) _ rfl w.heap.size 80 i0 _ 4 40 Tryz.underlying63 HI0.out HZ0.out HZ1.out HZ2.out rfl (by omega) u5 acc.length (tcells acc) rfl HH.out ⟨w1.heap.size + 1, 0, none⟩ 1 1 [.int .i64 k, .int .i64 n, .string (str sx), .int .i64 i] rfl rfl (World.news_of_block HNB.out) (by simp [Value.oneCell']) (by unfold maxLen; omega) (by omega) hBn.size ?_
                         intro v2 w2 hown2 hg2 hnil2 hat2
                         have HO2 : Hid (w2.ownsRow w.heap.size 80 4 v2 (acc ++ [(⟨k, n, str sx, i⟩ : Tok)]).length (tcells (acc ++ [(⟨k, n, str sx, i⟩ : Tok)]))) := Lib.hid (by rw [tcells_snoc, List.length_append]; exact hown2)
                         have hB2 := hBn.grown hg2 hBn.size (fun k hk => (HL.out k hk).1)
                         clear hown2 hg2 hnil2 hat2)
            go_roundw
            case rel => exact ⟨i + m, acc ++ [⟨k, n, str sx, i⟩], hm4, by simp; omega, by go_num, HO2, hB2, Lib.hid HS.out.1⟩
            case measure => simp [intOf]; omega
      · have E := Lib.hid (HC.out.end_ (by rw [← list_len]; omega))
        go_wp2
        refine bodyPost_ret (results_tmp3 rfl _ _ _) rfl ?_
        rw [E.out]
        exact ⟨_, rfl, HO.out, hB⟩
end Go.Proofs.YtccigjelbnjcoaaGreatDoor.LexC
namespace Go.Proofs.YtccigjelbnjcoaaGreatDoor.TreeC
set_option linter.unusedVariables false
open Go.RowKit Go.Proofs.YtccigjelbnjcoaaGreatDoor.NumC Go.Proofs.YtccigjelbnjcoaaGreatDoor.LexC
def Fo.all (p : Fld → Nat → Bool) : Fo → Bool
  | .nil => true
  | .cons f k n => k.all p && p f k.len && n.all p
def Nd.all (p : Fld → Nat → Bool) (a : Nd) : Bool := a.kids.all p && p a.f a.kids.len
theorem Fo.all_drop (p : Fld → Nat → Bool) (x : Fo) (i : Nat) (h : i < x.len) : (x.drop i).all p = ((x.nth i).all p && (x.drop (i + 1)).all p) := by
  rw [Fo.drop_nth x i h]
  simp only [Fo.all, Nd.all]
def Fits (p : Fld → Nat → Bool) : Prop := ∀ (f : Fld) (A : Option Addr) (m c : Nat) (w : World), m ≤ 1000000 → LexLib w → Calls Tryz.prog 64 #[.agg #[.int .i64 f.k, .int .i64 f.vk, .int .i64 f.vn, .string f.vs, .int .i64 f.r1, .int .i64 f.r2, .int .i64 f.r3, .int .i64 f.r4, .string f.op, .slice A m c]] w fun e w' => e = .returned (.bool (p f m)) ∧ Below w.heap.size w w'
set_option maxRecDepth 100000 in
set_option maxHeartbeats 1000000 in
theorem csound (p : Fld → Nat → Bool) (hp : Fits p) : ∀ (n : Nat) (a : Nd) (A : Option Addr) (c : Nat) (w : World), a.size ≤ n → a.size ≤ 1000000 → LexLib w → KidsAt w (fun g => g < w.heap.size) a.kids A →
    Calls Tryz.prog 50 #[.agg #[.int .i64 a.f.k, .int .i64 a.f.vk, .int .i64 a.f.vn, .string a.f.vs, .int .i64 a.f.r1, .int .i64 a.f.r2, .int .i64 a.f.r3, .int .i64 a.f.r4, .string a.f.op, .slice A a.kids.len c]] w fun e w' => e = .returned (.bool (a.all p)) ∧ Below w.heap.size w w' := by
  intro n
  induction n with
  | zero => intro a A c w h _; exact absurd h (by unfold Nd.size; omega)
  | succ n ih =>
    intro a A c w hsz hsm hll hK
    obtain ⟨f, kd⟩ := a
    simp only at hK ⊢
    have HK := Lib.hid hK
    clear hK
    have hlen : kd.len ≤ 1000000 := by have := Fo.len_size kd; have : (Nd.mk f kd).size = 1 + kd.size := rfl; omega
    have hkz : kd.size ≤ n := by have : (Nd.mk f kd).size = 1 + kd.size := rfl; omega
    have hks : kd.size ≤ 1000000 := by have : (Nd.mk f kd).size = 1 + kd.size := rfl; omega
    have L1 : NLoc (w.alloc (.cells #[.int .i64 f.k, .int .i64 f.vk, .int .i64 f.vn, .string f.vs, .int .i64 f.r1, .int .i64 f.r2, .int .i64 f.r3, .int .i64 f.r4, .string f.op, .slice A kd.len c] 30)) w.heap.size f A kd.len c := ⟨heap_alloc_new _ _⟩
    have HL := Lib.hid L1
    have HLL := Lib.hid hll
    clear L1 hll
    go_enter Tryz.func50, Tryz.ntmps50
    go_wp2_with fail
    go_loopw [8] (fun iv wr => ∃ (i : Nat), i ≤ kd.len ∧ iv = .int .i64 i ∧ Below w.heap.size w wr ∧ Hid (NLoc wr w.heap.size f A kd.len c) ∧ w.heap.size < wr.heap.size ∧ Hid ((kd.drop i).all p = kd.all p)) (fun iv _ => kd.len - (intOf iv).toNat)
    case atStart => exact ⟨0, Nat.zero_le _, rfl, (Below.refl _ _).alloc (Nat.le_refl _) _, HL, HL.out.lt, Lib.hid (by cases kd <;> rfl)⟩
    case round =>
      obtain ⟨i, hi, rfl, hB, HN, hwl, HR⟩ := hrel
      have HKr := below_row HK.out hB
      by_cases hlt : i < kd.len
      · have d1 : (i : Int) < (kd.len : Int) := by omega
        obtain ⟨g, o, rfl, hrow⟩ : ∃ g o, A = some ⟨g, o, none⟩ ∧ RowAt wr (fun g => g < wr.heap.size) kd g o := by
          rcases HKr with h | h
          · rw [h] at hlt; exact absurd hlt (by simp [Fo.len])
          · exact h
        obtain ⟨A2, c2, hk2, hpp, f0, f1, f2, f3, f4, f5, f6, f7, f8, f9⟩ := RowAt.nth kd g o i hrow hlt
        have hn1 := Fo.nth_size kd i hlt
        have hB2 : Below wr.heap.size wr (wr.alloc (.cells #[.int .i64 (kd.nth i).f.k, .int .i64 (kd.nth i).f.vk, .int .i64 (kd.nth i).f.vn, .string (kd.nth i).f.vs, .int .i64 (kd.nth i).f.r1, .int .i64 (kd.nth i).f.r2, .int .i64 (kd.nth i).f.r3, .int .i64 (kd.nth i).f.r4, .string (kd.nth i).f.op, .slice A2 (kd.nth i).kids.len c2] 30)) := (Below.refl _ _).alloc (Nat.le_refl _) _
        have HI := Lib.hid (ih (kd.nth i) A2 c2 _ (by omega) (by omega) (HLL.out.below (hB.trans (hB2.mono hB.size))) (below_row hk2 hB2))
        have HB2 := Lib.hid hB2
        have HD : Hid (((kd.nth i).all p && (kd.drop (i + 1)).all p) = kd.all p) := Lib.hid (by rw [← Fo.all_drop p kd i hlt]; exact HR.out)
        clear hrow hk2 HKr ih hn1 hB2
        generalize kd.nth i = b at *
        go_wp2_with fail
        refine HI.out.mono ?_; rintro e w2 ⟨rfl, hb2⟩
        have hbb := HB2.out.trans (hb2.mono HB2.out.size)
        have hsz2 := hbb.size
        cases hs : b.all p with
        | false =>
          have E : Hid ((Nd.mk f kd).all p = false) := Lib.hid (by have := HD.out; rw [hs] at this; unfold Nd.all; simp only [← this, Bool.false_and])
          go_wp2_with fail
          go_ret
          exact ⟨by rw [E.out]; rfl, hB.trans (hbb.mono hB.size)⟩
        | true =>
          go_wp2_with fail
          go_roundw
          case rel => exact ⟨i + 1, by omega, by go_num, hB.trans (hbb.mono hB.size), Lib.hid (HN.out.kept (Kept.of (x := wr.heap.size) hbb) (by omega)), by omega, Lib.hid (by have := HD.out; rw [hs, Bool.true_and] at this; exact this)⟩
          case measure => simp [intOf]; omega
      · have E : Hid ((Nd.mk f kd).all p = p f kd.len) := Lib.hid (by have := HR.out; rw [Fo.drop_len kd i (by omega)] at this; unfold Nd.all; simp only [← this, Fo.all, Bool.true_and])
        have d1 : ¬ (i : Int) < (kd.len : Int) := by omega
        have HF := Lib.hid (hp f A kd.len c wr hlen (HLL.out.below hB))
        clear ih HKr
        obtain ⟨d0, d1, d2, d3, d4, d5, d6, d7, d8, d9, dz0, dz1, dz2, dz3, dz4, dz5, dz6, dz7, dz8, dz9⟩ := (HN.out).cells
        go_wp2_with fail
        refine HF.out.mono ?_; rintro e w2 ⟨rfl, hb2⟩
        go_wp2_with fail
        go_ret
        exact ⟨by rw [E.out]; rfl, hB.trans (hb2.mono hB.size)⟩
def goodT (p : Fld → Nat → Bool) (a : Nd) : Bool := decide (a.size ≤ 2000) && decide (a.deep ≤ 16) && a.all p
set_option maxRecDepth 100000 in
set_option maxHeartbeats 1000000 in
theorem cGood (p : Fld → Nat → Bool) (hp : Fits p) (a : Nd) (A : Option Addr) (c : Nat) (w : World) (hsm : a.size ≤ 1000000) (hll : LexLib w) (hK : KidsAt w (fun g => g < w.heap.size) a.kids A) :
    Calls Tryz.prog 28 #[.agg #[.int .i64 a.f.k, .int .i64 a.f.vk, .int .i64 a.f.vn, .string a.f.vs, .int .i64 a.f.r1, .int .i64 a.f.r2, .int .i64 a.f.r3, .int .i64 a.f.r4, .string a.f.op, .slice A a.kids.len c]] w fun e w' => e = .returned (.bool (goodT p a)) ∧ Below w.heap.size w w' := by
  have hb1 : Below w.heap.size w (w.alloc (.cells #[.int .i64 a.f.k, .int .i64 a.f.vk, .int .i64 a.f.vn, .string a.f.vs, .int .i64 a.f.r1, .int .i64 a.f.r2, .int .i64 a.f.r3, .int .i64 a.f.r4, .string a.f.op, .slice A a.kids.len c] 30)) := (Below.refl _ _).alloc (Nat.le_refl _) _
  have L1 : NLoc (w.alloc (.cells #[.int .i64 a.f.k, .int .i64 a.f.vk, .int .i64 a.f.vn, .string a.f.vs, .int .i64 a.f.r1, .int .i64 a.f.r2, .int .i64 a.f.r3, .int .i64 a.f.r4, .string a.f.op, .slice A a.kids.len c] 30)) w.heap.size a.f A a.kids.len c := ⟨heap_alloc_new _ _⟩
  have HLL := Lib.hid hll
  clear hll
  have HK := Lib.hid (below_row hK hb1)
  have hds : a.deep ≤ 1000001 := by have := Fo.deep_size a.kids; unfold Nd.deep; unfold Nd.size at hsm; omega
  clear hK
  generalize hD : goodT p a = D
  have HD := Lib.hid hD.symm
  clear hD
  go_enter Tryz.func28, Tryz.ntmps28
  go_wp2_with fail
  generalize (w.alloc (.cells #[.int .i64 a.f.k, .int .i64 a.f.vk, .int .i64 a.f.vn, .string a.f.vs, .int .i64 a.f.r1, .int .i64 a.f.r2, .int .i64 a.f.r3, .int .i64 a.f.r4, .string a.f.op, .slice A a.kids.len c] 30)) = W1 at *
  refine (csmall a A c W1 hsm HK.out).mono ?_; rintro e w2 ⟨rfl, hb2⟩
  have HK2 := Lib.hid (below_row HK.out hb2)
  have L2 := L1.kept (Kept.of (x := W1.heap.size) hb2) (Nat.ne_of_lt L1.lt)
  have HB := Lib.hid (hb1.trans (hb2.mono hb1.size))
  clear hb1 hb2 HK L1
  by_cases h : a.size ≤ 2000
  · obtain ⟨d0, d1, d2, d3, d4, d5, d6, d7, d8, d9, dz0, dz1, dz2, dz3, dz4, dz5, dz6, dz7, dz8, dz9⟩ := (L2).cells
    have e1 : decide (a.size ≤ 2000) = true := decide_eq_true h
    go_wp2_with fail
    refine (cdepth a.size a A c w2 (Nat.le_refl _) hsm HK2.out).mono ?_; rintro e w3 ⟨rfl, hb3⟩
    have HK3 := Lib.hid (below_row HK2.out hb3)
    have L3 := L2.kept (Kept.of (x := w2.heap.size) hb3) (Nat.ne_of_lt L2.lt)
    have HB3 := Lib.hid (HB.out.trans (hb3.mono HB.out.size))
    clear d0 d1 d2 d3 d4 d5 d6 d7 d8 d9 dz0 dz1 dz2 dz3 dz4 dz5 dz6 dz7 dz8 dz9
    obtain ⟨d0, d1, d2, d3, d4, d5, d6, d7, d8, d9, dz0, dz1, dz2, dz3, dz4, dz5, dz6, dz7, dz8, dz9⟩ := (L3).cells
    by_cases hd : a.deep ≤ 16
    · have e2 : (a.deep : Int) ≤ 16 := by omega
      go_wp2_with fail
      refine (csound p hp a.size a A c w3 (Nat.le_refl _) hsm (HLL.out.below HB3.out) HK3.out).mono ?_; rintro e w4 ⟨rfl, hb4⟩
      have E : Hid (D = a.all p) := Lib.hid (HD.out.trans (by simp [goodT, h, hd]))
      go_wp2_with fail
      go_ret
      exact ⟨by rw [E.out]; rfl, HB3.out.trans (hb4.mono HB3.out.size)⟩
    · have e2 : ¬ (a.deep : Int) ≤ 16 := by omega
      have E : Hid (D = false) := Lib.hid (HD.out.trans (by simp [goodT, hd]))
      go_wp2_with fail
      go_ret
      exact ⟨by rw [E.out]; rfl, HB3.out⟩
  · have e1 : decide (a.size ≤ 2000) = false := decide_eq_false h
    have E : Hid (D = false) := Lib.hid (HD.out.trans (by simp [goodT, h]))
    go_wp2_with fail
    go_ret
    exact ⟨by rw [E.out]; rfl, HB.out⟩
end Go.Proofs.YtccigjelbnjcoaaGreatDoor.TreeC
