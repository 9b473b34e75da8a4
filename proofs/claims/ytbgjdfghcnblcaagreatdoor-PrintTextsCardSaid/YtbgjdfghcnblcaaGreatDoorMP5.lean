/-
  Contracts of tree's code: a call's Args.
-/
import Derived.Test.YtbgjdfghcnblcaaGreatDoorMP0
import Derived.Maps.AppendAt
import Derived.OwnWalk
import Derived.Deep.AppendLies
namespace Go.Proofs.YtbgjdfghcnblcaaGreatDoor.TreeC
set_option linter.unusedVariables false
open Go.RowKit Go.Proofs.YtbgjdfghcnblcaaGreatDoor.NumC Go.Proofs.YtbgjdfghcnblcaaGreatDoor.LexC

/-- Args' answer: a row of its own of nodes in new rows. -/
def LPost (x : Nat) (l : List Tok) (en nest : Int) (out : Except Bad (Fo × Nat)) (w : World) (e : Ending) (w' : World) : Prop :=
  ∃ A m c er, e = .returned (.tuple #[.slice A m c, er]) ∧ Kept x w w' ∧
    ((∃ fo k', out = .ok (fo, k') ∧ er = .nilIface ∧ fo.len = m ∧ KidsAt w' (fun g => w.heap.size ≤ g) fo A ∧ Pc w' x l en k' nest) ∨
     (∃ b k2, out = .error b ∧ IsBad b ∧ er = errV b ∧ Pc w' x l en k2 nest))
/-- What stands within a call's parentheses. -/
def withinF (l : List Tok) (n : Int) (L : Lev) (into : Bool) (k : Nat) : Except Bad (Fo × Nat) := if isSign l k [41] then .ok (.nil, k) else argsF l n L into 10 .nil k
theorem args_end {l : List Tok} {n : Int} {L : Lev} {into : Bool} {acc : Fo} {k : Nat} : argsF l n L into 0 acc k = .error (badAt l n k) := rfl
theorem args_deep {l : List Tok} {n : Int} {L : Lev} {into : Bool} {acc : Fo} {k r : Nat} (h : into = false) : argsF l n L into (r + 1) acc k = .error deepE := by simp [argsF, h]
theorem args_bad {l : List Tok} {n : Int} {L : Lev} {into : Bool} {acc : Fo} {k r : Nat} {e : Bad} (h : into = true) (h2 : L.fm k = .error e) : argsF l n L into (r + 1) acc k = .error e := by simp [argsF, h, h2]
theorem args_more {l : List Tok} {n : Int} {L : Lev} {into : Bool} {acc : Fo} {k r k' : Nat} {a : Nd} (h : into = true) (h2 : L.fm k = .ok (a, k')) (hs : isSign l k' [44] = true) : argsF l n L into (r + 1) acc k = argsF l n L into r (acc.app a.one) (k' + 1) := by simp [argsF, h, h2, hs]
theorem args_last {l : List Tok} {n : Int} {L : Lev} {into : Bool} {acc : Fo} {k r k' : Nat} {a : Nd} (h : into = true) (h2 : L.fm k = .ok (a, k')) (hs : isSign l k' [44] = false) : argsF l n L into (r + 1) acc k = .ok (acc.app a.one, k') := by simp [argsF, h, h2, hs]
theorem RowV.same {w w' : World} {P Q : Nat → Prop} (hP : ∀ g, P g → g < w.heap.size → w'.heap[g]? = w.heap[g]? ∧ Q g) : ∀ (fo : Fo) (vs : List Value), RowV w P fo vs → RowV w' Q fo vs := by
  intro fo
  induction fo with
  | nil => intro vs h; cases vs with
    | nil => trivial
    | cons v vs => exact h
  | cons f kids next _ ih => intro vs h; cases vs with
    | nil => exact h
    | cons v vs =>
      obtain ⟨⟨A, c, e, hk⟩, hr⟩ := h
      refine ⟨⟨A, c, e, ?_⟩, ih vs hr⟩
      rcases hk with hk | ⟨g, o, e2, hr2⟩
      · exact Or.inl hk
      · exact Or.inr ⟨g, o, e2, RowAt.same hP _ _ _ hr2⟩
theorem Fo.nil_of_len {fo : Fo} (h : fo.len = 0) : fo = .nil := by
  cases fo with
  | nil => rfl
  | cons f k n => simp [Fo.len] at h
theorem ownBlock_slice (A : Option Addr) (n c n' c' : Nat) : Value.ownBlock (.slice A n c) = Value.ownBlock (.slice A n' c') := by cases A <;> rfl
/-- A slice of the call's own that reads as a forest: its row lies apart from its nodes' rows. -/
def AS (w : World) (base : Nat) (v : Value) (fo : Fo) : Prop := ∃ vs, w.ownsRow base 30 10 v fo.len (ncells vs) ∧ RowV w (fun g => base ≤ g ∧ v.ownBlock ≠ some g) fo vs
theorem AS.nil (w : World) (base : Nat) : AS w base (.slice none 0 0) .nil := ⟨[], ⟨rfl, Or.inl ⟨rfl, rfl⟩⟩, trivial⟩
theorem AS.form {w : World} {base : Nat} {v : Value} {fo : Fo} (h : AS w base v fo) : ∃ A c, v = .slice A fo.len c := by
  obtain ⟨vs, ⟨-, ⟨rfl, h⟩ | ⟨g, cap, cur, rfl, -⟩⟩, -⟩ := h
  · exact ⟨none, 0, by rw [h]⟩
  · exact ⟨_, _, rfl⟩
theorem AS.lt {w : World} {base : Nat} {v : Value} {fo : Fo} (h : AS w base v fo) : ∀ k, v.ownBlock = some k → base ≤ k ∧ k < w.heap.size := by
  obtain ⟨vs, h, -⟩ := h
  exact World.ownsRow.lt h
theorem AS.kept {w w' : World} {base x : Nat} {v : Value} {fo : Fo} (h : AS w base v fo) (hk : Kept x w w') (hx : x < base) : AS w' base v fo := by
  obtain ⟨vs, ⟨h1, h2⟩, h3⟩ := h
  refine ⟨vs, ⟨h1, ?_⟩, RowV.keep hk (fun g hg hl => ⟨by have := hg.1; omega, hg⟩) _ _ h3⟩
  rcases h2 with h2 | ⟨g, cap, cur, e, hb, hg, h⟩
  · exact Or.inl h2
  · exact Or.inr ⟨g, cap, cur, e, hb, (hk.block g (Array.getElem?_eq_some_iff.1 hg).1 (by omega)).trans hg, h⟩
theorem AS.kids {w : World} {base : Nat} {A : Option Addr} {n c : Nat} {fo : Fo} (h : AS w base (.slice A n c) fo) : KidsAt w (fun g => base ≤ g) fo A ∧ fo.len = n := by
  obtain ⟨vs, ⟨h1, ⟨e, h2⟩ | ⟨g, cap, cur, e, hb, hg, h4, h5, h6, h7⟩⟩, h3⟩ := h
  · injection e with e1 e2 e3; subst e2; exact ⟨Or.inl (Fo.nil_of_len h2), h2⟩
  · injection e with e1 e2 e3
    refine ⟨Or.inr ⟨g, 0, e1, rowAt_of hb fo vs 0 (RowV.same (fun g hg _ => ⟨rfl, hg.1⟩) _ _ h3) (fun j u hj => ?_)⟩, e2.symm⟩
    rw [Nat.zero_add, cell_of_row w g j cur _ (0, 0) hg]
    rw [← h7, List.getElem?_take] at hj
    split at hj
    · rw [← hj, Array.getElem?_toList]
    · cases hj
theorem AS.snoc {w w' : World} {base : Nat} {v v' : Value} {fo : Fo} {f : Fld} {kd : Fo} {A : Option Addr} {m c : Nat} (vs : List Value) (hv : RowV w (fun g => base ≤ g ∧ v.ownBlock ≠ some g) fo vs) (hm : kd.len = m) (hA : KidsAt w (fun g => base ≤ g ∧ v.ownBlock ≠ some g) kd A)
    (ho : w'.ownsRow base 30 10 v' (fo.len + 1) (ncells vs ++ (nodeV f A m c).cells.toList)) (hg : w.grownBy w' v.ownBlock) (ha : v'.ownBlock = v.ownBlock ∨ v'.ownBlock = some w.heap.size) : AS w' base v' (fo.app (Nd.one ⟨f, kd⟩)) := by
  refine ⟨vs ++ [nodeV f A m c], ?_, ?_⟩
  · rw [ncells_snoc, Fo.len_app]; exact ho
  · have := RowV.snoc (a := ⟨f, kd⟩) (v := nodeV f A m c) ⟨A, c, by rw [hm], hA⟩ fo vs hv
    refine RowV.same (fun g hg2 hl => ⟨hg.block g hl (fun e => hg2.2 e.symm), hg2.1, ?_⟩) _ _ this
    rcases ha with ha | ha
    · rw [ha]; exact hg2.2
    · rw [ha]; intro e; injection e with e; omega
theorem grown_kept {W W' : World} {row : Option Nat} (hg : W.grownBy W' row) : ∃ y, Kept y W W' ∧ (row = some y ∨ y = W.heap.size) := by
  cases row with
  | none => exact ⟨W.heap.size, ⟨hg.os, hg.tape, hg.output, hg.size, fun k hk _ => hg.block k hk (by simp)⟩, Or.inr rfl⟩
  | some y => exact ⟨y, ⟨hg.os, hg.tape, hg.output, hg.size, fun k hk hx => hg.block k hk (by simpa using hx)⟩, Or.inl rfl⟩
def m4 (v : Value) : Nat := match v with
  | .slice _ n _ => 11 - n
  | _ => 0
theorem m4_slice (A : Option Addr) (n c : Nat) : m4 (.slice A n c) = 11 - n := rfl
theorem node_info : (Tryz.prog.info? 30).map (fun i => (i.zero, i.size, i.bytes)) = some (some (.agg #[.int .i64 0, .int .i64 0, .int .i64 0, .string { data := #[] }, .int .i64 0, .int .i64 0, .int .i64 0, .int .i64 0, .string { data := #[] }, .slice none 0 0]), 10, 112) := by kernel_rfl
/-- What stands nested once more answers as the grammar says. -/
structure CCon (x : Nat) (l : List Tok) (en nest : Int) (L : Lev) : Prop where
  fm : ∀ (k : Nat) (w : World), Pc w x l en k nest → Calls Tryz.prog 48 #[.pointer (some ⟨x, 0, none⟩)] w (CPost w.heap.size x l en nest (L.fm k) w)
  pw : ∀ (k : Nat) (w : World), Pc w x l en k nest → Calls Tryz.prog 119 #[.pointer (some ⟨x, 0, none⟩)] w (CPost w.heap.size x l en nest (L.pw k) w)
  un : ∀ (k : Nat) (w : World), Pc w x l en k nest → Calls Tryz.prog 133 #[.pointer (some ⟨x, 0, none⟩)] w (CPost w.heap.size x l en nest (L.un k) w)
set_option maxRecDepth 100000 in
set_option maxHeartbeats 600000 in
theorem cargs {x k : Nat} {l : List Tok} {en nest : Int} {L : Lev} {into : Bool} (w : World) (h : Pc w x l en k nest) (hl : l.length ≤ 300) (hn0 : 0 ≤ nest) (hn1 : nest ≤ 40) (hi : into = decide (nest < 40)) (hc : nest < 40 → CCon x l en (nest + 1) L) :
    Calls Tryz.prog 176 #[.pointer (some ⟨x, 0, none⟩)] w (LPost x l en nest (withinF l en L into k) w) := by
  have hxw := h.lt
  have HI := Lib.hid h
  clear h
  have HC := Lib.hid hc
  have HIN := Lib.hid hi
  clear hc hi
  have B41 : Hid (({ data := #[41] } : ByteArray) = str [41]) := Lib.hid rfl
  have B44 : Hid (({ data := #[44] } : ByteArray) = str [44]) := Lib.hid rfl
  obtain ⟨i0, hi0, hz0, hz1, hz2⟩ := info_parts node_info
  have HZ0 := Lib.hid hz0; have HZ1 := Lib.hid hz1; have HZ2 := Lib.hid hz2; have HI0 := Lib.hid hi0
  clear hz0 hz1 hz2 hi0
  have eg : ∀ args w, (callFunc 48 args).run Tryz.prog w = .ok (.enter 48 args) w := enters_of Tryz.func48 (by kernel_rfl) rfl
  have HEG := Lib.hid eg
  clear eg
  go_enter Tryz.func176, Tryz.ntmps176
  go_wp2_with fail
  rw [B41.out]
  refine (cseesSign [41] w HI.out hl).mono ?_; rintro e w2 ⟨rfl, hb2⟩
  have K2 : Kept x w w2 := Kept.of hb2
  have P2 := Lib.hid (HI.out.below hb2)
  cases hs : isSign l k [41] with
  | true =>
    have E : Hid (withinF l en L into k = .ok (.nil, k)) := Lib.hid (by unfold withinF; rw [if_pos hs])
    go_wp2_with fail
    refine bodyPost_ret (v := .tuple #[.slice none 0 0, .nilIface]) (by simp [results, Tryz.results176, go_sem]) rfl ⟨none, 0, 0, _, rfl, K2, Or.inl ⟨.nil, k, E.out, rfl, rfl, Or.inl rfl, P2.out⟩⟩
  | false =>
    have E : Hid (withinF l en L into k = argsF l en L into 10 .nil k) := Lib.hid (by unfold withinF; rw [if_neg (by rw [hs]; exact Bool.false_ne_true)])
    generalize withinF l en L into k = O at *
    go_wp2_with fail
    have HK2 := Lib.hid K2
    clear K2 hb2
    go_loopw [4] (fun v wr => Hid (∃ (fo : Fo) (k' r : Nat), r + fo.len = 10 ∧ O = argsF l en L into r fo k' ∧ AS wr w.heap.size v fo ∧ Kept x w wr ∧ Pc wr x l en k' nest)) (fun v _ => m4 v)
    case atStart => exact Lib.hid ⟨.nil, k, 10, rfl, E.out, AS.nil _ _, HK2.out, P2.out⟩
    case round =>
      obtain ⟨fo, k', r, hr, hO, hA, hK, hP⟩ := hrel.out
      clear hrel
      obtain ⟨A, c, rfl⟩ := hA.form
      have HA := Lib.hid hA
      have HO := Lib.hid hO
      have HP := Lib.hid hP
      clear hA hO hP
      have hlt := HP.out.lt
      by_cases h10 : fo.len = 10
      · have t10 : ((fo.len : Int) == 10) = true := beq_iff_eq.2 (by omega)
        obtain rfl : r = 0 := by omega
        go_wp2_with fail
        refine (cmisplaced wr HP.out hl).mono ?_; rintro e w3 ⟨rfl, q, rfl⟩
        go_wp2_with fail
        refine bodyPost_ret (v := .tuple #[.slice none 0 0, errV (badAt l en k')]) (by simp [results, Tryz.results176, go_sem]) rfl ⟨none, 0, 0, _, rfl, hK.drew q, Or.inr ⟨_, k', HO.out.trans args_end, isBad_at _ _ _, rfl, HP.out.drew q⟩⟩
      · have t10 : ((fo.len : Int) == 10) = false := beq_eq_false_iff_ne.2 (by omega)
        obtain ⟨r, rfl⟩ : ∃ q, r = q + 1 := ⟨r - 1, by omega⟩
        go_wp2_with fail
        refine (cnested 48 #[.pointer (some ⟨x, 0, none⟩)] wr hlt).mono ?_; rintro e w5 ⟨b1, b2, rfl, hb5, hc1, hc2, hx1, hx2, hs1, hs2⟩
        have k5 : Kept x wr w5 := Kept.of hb5
        have K5 := hK.trans k5
        have P5 := Lib.hid (HP.out.below hb5)
        have A5 := Lib.hid (HA.out.kept k5 hxw)
        clear HA hb5 k5 HP hlt hK
        go_wp2_with fail
        refine (cnested1 (F := L.fm) HEG.out w5 P5.out hn0 hn1 hc1 hc2 (by omega) (by omega) (fun hin w' hk hp => (HC.out hin).fm k' w' hp)).mono ?_
        clear hc1 hc2 hx1 hx2 hs1 hs2
        rintro e w6 ⟨f, A6, m, c6, er, rfl, k6, hp6⟩
        have K6 := K5.trans k6
        have A7 := A5.out.kept k6 hxw
        have hlo := A5.out.lt
        have hx6 : w.heap.size ≤ w6.heap.size := K6.size
        unfold nodeV
        rcases hp6 with ⟨kd, k2, ho, rfl, hn, hA6, hP6⟩ | ⟨bad, k2, ho, hib, rfl, hP6⟩
        · have hin : nest < 40 := by
            by_cases h : nest < 40
            · exact h
            · rw [if_neg h] at ho; cases ho
          rw [if_pos hin] at ho
          have hit : into = true := by rw [HIN.out]; exact decide_eq_true hin
          have HF := Lib.hid ho
          have HIT := Lib.hid hit
          have K8 := (K6.alloc (.cells #[.int .i64 f.k, .int .i64 f.vk, .int .i64 f.vn, .string f.vs, .int .i64 f.r1, .int .i64 f.r2, .int .i64 f.r3, .int .i64 f.r4, .string f.op, .slice A6 m c6] 30)).alloc (.cells #[.int .i64 f.k, .int .i64 f.vk, .int .i64 f.vn, .string f.vs, .int .i64 f.r1, .int .i64 f.r2, .int .i64 f.r3, .int .i64 f.r4, .string f.op, .slice A6 m c6] 30)
          have k8 : Kept x w6 ((w6.alloc (.cells #[.int .i64 f.k, .int .i64 f.vk, .int .i64 f.vn, .string f.vs, .int .i64 f.r1, .int .i64 f.r2, .int .i64 f.r3, .int .i64 f.r4, .string f.op, .slice A6 m c6] 30)).alloc (.cells #[.int .i64 f.k, .int .i64 f.vk, .int .i64 f.vn, .string f.vs, .int .i64 f.r1, .int .i64 f.r2, .int .i64 f.r3, .int .i64 f.r4, .string f.op, .slice A6 m c6] 30)) := ((Kept.refl x w6).alloc _).alloc _
          have A8 := A7.kept k8 hxw
          have P8 := Lib.hid ((hP6.alloc (.cells #[.int .i64 f.k, .int .i64 f.vk, .int .i64 f.vn, .string f.vs, .int .i64 f.r1, .int .i64 f.r2, .int .i64 f.r3, .int .i64 f.r4, .string f.op, .slice A6 m c6] 30)).alloc (.cells #[.int .i64 f.k, .int .i64 f.vk, .int .i64 f.vn, .string f.vs, .int .i64 f.r1, .int .i64 f.r2, .int .i64 f.r3, .int .i64 f.r4, .string f.op, .slice A6 m c6] 30))
          have N8 : KidsAt ((w6.alloc (.cells #[.int .i64 f.k, .int .i64 f.vk, .int .i64 f.vn, .string f.vs, .int .i64 f.r1, .int .i64 f.r2, .int .i64 f.r3, .int .i64 f.r4, .string f.op, .slice A6 m c6] 30)).alloc (.cells #[.int .i64 f.k, .int .i64 f.vk, .int .i64 f.vn, .string f.vs, .int .i64 f.r1, .int .i64 f.r2, .int .i64 f.r3, .int .i64 f.r4, .string f.op, .slice A6 m c6] 30)) (fun g => w.heap.size ≤ g ∧ Value.ownBlock (.slice A fo.len c) ≠ some g) kd A6 := hA6.keep k8 (fun g hg hl => ⟨by have := K5.size; omega, by have := K5.size; omega, fun e => by have := hlo g e; omega⟩)
          have hnb : ((w6.alloc (.cells #[.int .i64 f.k, .int .i64 f.vk, .int .i64 f.vn, .string f.vs, .int .i64 f.r1, .int .i64 f.r2, .int .i64 f.r3, .int .i64 f.r4, .string f.op, .slice A6 m c6] 30)).alloc (.cells #[.int .i64 f.k, .int .i64 f.vk, .int .i64 f.vn, .string f.vs, .int .i64 f.r1, .int .i64 f.r2, .int .i64 f.r3, .int .i64 f.r4, .string f.op, .slice A6 m c6] 30)).heap[w6.heap.size + 1]? = some (.cells #[.int .i64 f.k, .int .i64 f.vk, .int .i64 f.vn, .string f.vs, .int .i64 f.r1, .int .i64 f.r2, .int .i64 f.r3, .int .i64 f.r4, .string f.op, .slice A6 m c6] 30) := row_at2 _ _ _ rfl
          have s8 : w.heap.size ≤ ((w6.alloc (.cells #[.int .i64 f.k, .int .i64 f.vk, .int .i64 f.vn, .string f.vs, .int .i64 f.r1, .int .i64 f.r2, .int .i64 f.r3, .int .i64 f.r4, .string f.op, .slice A6 m c6] 30)).alloc (.cells #[.int .i64 f.k, .int .i64 f.vk, .int .i64 f.vn, .string f.vs, .int .i64 f.r1, .int .i64 f.r2, .int .i64 f.r3, .int .i64 f.r4, .string f.op, .slice A6 m c6] 30)).heap.size := K8.size
          obtain ⟨vs, hown, hvs⟩ := A8
          have HH := Lib.hid hown
          have HNB := Lib.hid hnb
          have HREST := Lib.hid (show RowV ((w6.alloc (.cells #[.int .i64 f.k, .int .i64 f.vk, .int .i64 f.vn, .string f.vs, .int .i64 f.r1, .int .i64 f.r2, .int .i64 f.r3, .int .i64 f.r4, .string f.op, .slice A6 m c6] 30)).alloc (.cells #[.int .i64 f.k, .int .i64 f.vk, .int .i64 f.vn, .string f.vs, .int .i64 f.r1, .int .i64 f.r2, .int .i64 f.r3, .int .i64 f.r4, .string f.op, .slice A6 m c6] 30)) (fun g => w.heap.size ≤ g ∧ Value.ownBlock (.slice A fo.len c) ≠ some g) fo vs ∧ KidsAt ((w6.alloc (.cells #[.int .i64 f.k, .int .i64 f.vk, .int .i64 f.vn, .string f.vs, .int .i64 f.r1, .int .i64 f.r2, .int .i64 f.r3, .int .i64 f.r4, .string f.op, .slice A6 m c6] 30)).alloc (.cells #[.int .i64 f.k, .int .i64 f.vk, .int .i64 f.vn, .string f.vs, .int .i64 f.r1, .int .i64 f.r2, .int .i64 f.r3, .int .i64 f.r4, .string f.op, .slice A6 m c6] 30)) (fun g => w.heap.size ≤ g ∧ Value.ownBlock (.slice A fo.len c) ≠ some g) kd A6 ∧ Kept x w ((w6.alloc (.cells #[.int .i64 f.k, .int .i64 f.vk, .int .i64 f.vn, .string f.vs, .int .i64 f.r1, .int .i64 f.r2, .int .i64 f.r3, .int .i64 f.r4, .string f.op, .slice A6 m c6] 30)).alloc (.cells #[.int .i64 f.k, .int .i64 f.vk, .int .i64 f.vn, .string f.vs, .int .i64 f.r1, .int .i64 f.r2, .int .i64 f.r3, .int .i64 f.r4, .string f.op, .slice A6 m c6] 30)) from ⟨hvs, N8, K8⟩)
          clear ho hit hnb hown hvs N8 K8 k8 A7 A5 K5 K6 k6 P5 hA6 hP6
          go_wp2_with (at_builtin
                       refine wpList_append_own_at _ rfl (.tmp 25) (.tmp 27) _ rfl w.heap.size 30 i0 _ 10 112 Tryz.underlying28 HI0.out HZ0.out HZ1.out HZ2.out rfl (by omega) (.slice A fo.len c) fo.len (ncells vs) rfl HH.out ⟨w6.heap.size + 1, 0, none⟩ 1 1 [.int .i64 f.k, .int .i64 f.vk, .int .i64 f.vn, .string f.vs, .int .i64 f.r1, .int .i64 f.r2, .int .i64 f.r3, .int .i64 f.r4, .string f.op, .slice A6 m c6] rfl rfl (World.news_of_block HNB.out) (by simp [Value.oneCell']) (by unfold maxLen; omega) (by omega) s8 ?_
                       intro v9 w9 hown9 hg9 hnil9 hat9
                       have A9 : AS w9 w.heap.size v9 (fo.app (Nd.one ⟨f, kd⟩)) := AS.snoc (m := m) (c := c6) vs HREST.out.1 hn HREST.out.2.1 hown9 hg9 hat9
                       obtain ⟨y, k9, hy⟩ := grown_kept hg9
                       have hyw : w.heap.size ≤ y := by
                         rcases hy with hy | hy
                         · exact (hlo y hy).1
                         · rw [hy]; exact s8
                       have K9 := HREST.out.2.2.then_ k9 hyw
                       have P9 := Lib.hid (P8.out.kept k9 (by omega))
                       clear hown9 hg9 hnil9 hat9 k9 hy hyw
                       obtain ⟨A10, c10, e10⟩ := A9.form
                       subst e10
                       have HA9 := Lib.hid A9
                       have HK9 := Lib.hid K9
                       clear A9 K9)
          rw [B44.out]
          refine (cseesSign [44] w9 P9.out hl).mono ?_; rintro e w10 ⟨rfl, hb10⟩
          have k10 : Kept x w9 w10 := Kept.of hb10
          have P10 := Lib.hid (P9.out.below hb10)
          have K10 := Lib.hid (HK9.out.trans k10)
          have HA10 := Lib.hid (HA9.out.kept k10 hxw)
          have hlen : (fo.app (Nd.one ⟨f, kd⟩)).len = fo.len + 1 := by rw [Fo.len_app]; rfl
          clear hb10 k10 P9 HA9 HK9
          have EM : Hid (isSign l k2 [44] = true → O = argsF l en L into r (fo.app (Nd.one ⟨f, kd⟩)) (k2 + 1)) := Lib.hid fun hs => HO.out.trans (args_more HIT.out HF.out hs)
          have EL : Hid (isSign l k2 [44] = false → O = .ok (fo.app (Nd.one ⟨f, kd⟩), k2)) := Lib.hid fun hs => HO.out.trans (args_last HIT.out HF.out hs)
          generalize fo.app (Nd.one ⟨f, kd⟩) = fo2 at *
          cases hs9 : isSign l k2 [44] with
          | false =>
            have hkids := HA10.out.kids
            go_wp2_with fail
            refine bodyPost_ret (v := .tuple #[.slice A10 (fo.len + 1) c10, .nilIface]) (by simp [results, Tryz.results176, go_sem]) rfl ⟨A10, _, c10, _, rfl, K10.out, Or.inl ⟨fo2, k2, EL.out hs9, rfl, hlen, hkids.1, P10.out⟩⟩
          | true =>
            have hlt9 := sign_lt hs9
            go_wp2_with fail
            refine (ctake w10 P10.out hlt9).mono ?_; rintro e w11 ⟨rfl, P11, k11⟩
            go_wp2_with fail
            go_roundw
            case rel => exact Lib.hid ⟨fo2, k2 + 1, r, by omega, EM.out hs9, hlen ▸ HA10.out.kept k11 hxw, K10.out.trans k11, P11⟩
            case measure => rw [m4_slice, m4_slice]; omega
        · obtain ⟨T, u, hT⟩ := errV_some bad
          have E2 : Hid (O = .error bad) := by
            by_cases hin : nest < 40
            · rw [if_pos hin] at ho
              exact Lib.hid (HO.out.trans (args_bad (by rw [HIN.out]; exact decide_eq_true hin) ho))
            · rw [if_neg hin] at ho
              injection ho with ho
              subst ho
              exact Lib.hid (HO.out.trans (args_deep (by rw [HIN.out]; exact decide_eq_false hin)))
          have P6 := Lib.hid (hP6.alloc (.cells #[.int .i64 f.k, .int .i64 f.vk, .int .i64 f.vn, .string f.vs, .int .i64 f.r1, .int .i64 f.r2, .int .i64 f.r3, .int .i64 f.r4, .string f.op, .slice A6 m c6] 30))
          have K7 := Lib.hid (K6.alloc (.cells #[.int .i64 f.k, .int .i64 f.vk, .int .i64 f.vn, .string f.vs, .int .i64 f.r1, .int .i64 f.r2, .int .i64 f.r3, .int .i64 f.r4, .string f.op, .slice A6 m c6] 30))
          clear ho hP6
          rw [hT]
          go_wp2_with fail
          refine bodyPost_ret (v := .tuple #[.slice none 0 0, .iface T u]) (by simp [results, Tryz.results176, go_sem]) rfl ⟨none, 0, 0, _, rfl, K7.out, Or.inr ⟨bad, k2, E2.out, hib, hT.symm, P6.out⟩⟩


end Go.Proofs.YtbgjdfghcnblcaaGreatDoor.TreeC

/-
  Contracts of tree's code: calls.
-/
namespace Go.Proofs.YtbgjdfghcnblcaaGreatDoor.TreeC
set_option linter.unusedVariables false
open Go.RowKit Go.Proofs.YtbgjdfghcnblcaaGreatDoor.NumC Go.Proofs.YtbgjdfghcnblcaaGreatDoor.LexC

/-- The call with its Args, what closes it not yet taken. -/
def callIn (l : List Tok) (n : Int) (L : Lev) (into : Bool) (s : ByteArray) (k : Nat) : Out := match withinF l n L into k with
  | .error e => .error e
  | .ok (fo, k') => .ok (callN s fo, k')
theorem callIn_err {l : List Tok} {n : Int} {L : Lev} {into : Bool} {s : ByteArray} {k : Nat} {b : Bad} (h : withinF l n L into k = .error b) : callIn l n L into s k = .error b := by simp [callIn, h]
theorem callIn_ok {l : List Tok} {n : Int} {L : Lev} {into : Bool} {s : ByteArray} {k k' : Nat} {fo : Fo} (h : withinF l n L into k = .ok (fo, k')) : callIn l n L into s k = .ok (callN s fo, k') := by simp [callIn, h]
theorem callF_in {l : List Tok} {n : Int} {L : Lev} {into : Bool} {t : Tok} {k : Nat} (h8 : ¬ 8 < t.s.size) : callF l n L into t k = closedF l n (callIn l n L into t.s (k + 2)) := by
  unfold callF callIn withinF closedF
  rw [if_neg h8]
  cases hs : isSign l (k + 2) [41] with
  | true => simp [close_ok hs]
  | false =>
    simp only [Bool.false_eq_true, if_false]
    cases argsF l n L into 10 .nil (k + 2) with
    | error e => rfl
    | ok q => obtain ⟨fo, k'⟩ := q; rfl
set_option maxRecDepth 100000 in
set_option maxHeartbeats 600000 in
theorem ccall1 {x k b1 b2 : Nat} {l : List Tok} {en nest : Int} {L : Lev} {into : Bool} {s : ByteArray} (w : World) (h : Pc w x l en k nest) (hl : l.length ≤ 300) (hn0 : 0 ≤ nest) (hn1 : nest ≤ 40) (hi : into = decide (nest < 40)) (hc : nest < 40 → CCon x l en (nest + 1) L)
    (h1 : w.cell? ⟨b1, 0, none⟩ = some (.pointer (some ⟨x, 0, none⟩))) (h2 : w.cell? ⟨b2, 0, none⟩ = some (.string s)) (hx1 : b1 ≠ x) (hx2 : b2 ≠ x) :
    Calls Tryz.prog 175 #[.pointer (some ⟨b1, 0, none⟩), .pointer (some ⟨b2, 0, none⟩)] w (CPost w.heap.size x l en nest (callIn l en L into s k) w) := by
  have hxw := h.lt
  have HI := Lib.hid h
  clear h
  have hb1 := World.block_lt_of_cell? w _ h1
  have hb2 := World.block_lt_of_cell? w _ h2
  simp only at hb1 hb2
  have HC := Lib.hid hc
  have HIN := Lib.hid hi
  clear hc hi
  have ne1 : x ≠ w.heap.size := by omega
  have ne2 : w.heap.size ≠ x := by omega
  have K1 : Kept x w (w.alloc (.cells #[.int .i64 0, .int .i64 0, .int .i64 0, .string { data := #[] }, .int .i64 0, .int .i64 0, .int .i64 0, .int .i64 0, .string { data := #[] }, .slice none 0 0] 30)) := (Kept.refl x w).alloc _
  have X1 := NBox.new w
  have P1 := Lib.hid (HI.out.alloc (.cells #[.int .i64 0, .int .i64 0, .int .i64 0, .string { data := #[] }, .int .i64 0, .int .i64 0, .int .i64 0, .int .i64 0, .string { data := #[] }, .slice none 0 0] 30))
  have c2 := K1.cell hx2 h2
  clear h2
  go_enter Tryz.func175, Tryz.ntmps175
  go_wp2_with fail
  generalize (w.alloc (.cells #[.int .i64 0, .int .i64 0, .int .i64 0, .string { data := #[] }, .int .i64 0, .int .i64 0, .int .i64 0, .int .i64 0, .string { data := #[] }, .slice none 0 0] 30)) = W1 at *
  have lt1 := X1.lt
  refine (cargs W1 P1.out hl hn0 hn1 HIN.out HC.out).mono ?_; rintro e w2 ⟨A, m, c, er, rfl, k2, hp2⟩
  have K2 := K1.trans k2
  have X2 := X1.kept k2 ne2
  have q2 := k2.cell hx2 c2
  clear c2 h1
  obtain ⟨f0, f1, f2, f3, f4, f5, f6, f7, f8, f9, z0, z1, z2, z3, z4, z5, z6, z7, z8, z9⟩ := (X2).cells
  go_wp2_with fail
  rcases hp2 with ⟨fo, k', ho, rfl, hn, hA, hP⟩ | ⟨bad, k', ho, hib, rfl, hP⟩
  · refine bodyPost_ret (v := .tuple #[.agg #[.int .i64 6, .int .i64 0, .int .i64 0, .string { data := #[] }, .int .i64 0, .int .i64 0, .int .i64 0, .int .i64 0, .string s, .slice A m c], .nilIface]) (by simp [results, Tryz.results175, go_sem, f0, f1, f2, f3, f4, f5, f6, f7, f8, f9]) rfl (CPost.ok (f := (callN s fo).f) (kd := fo) (A := A) (m := m) (c := c) (b := w.heap.size) (V := w2) (callIn_ok ho) K2 hP hn (hA.keep (Q := fun g => w.heap.size ≤ g ∧ g ≠ w.heap.size) (Kept.refl w2.heap.size w2) (fun g hg hl => ⟨by omega, by omega, by omega⟩)) (Nat.le_refl _) hxw ?_)
    repeat (first | with_reducible exact Kept.refl _ _ | with_reducible refine Kept.setCell ?_ _ _ | with_reducible refine Kept.alloc ?_ _)
  · refine bodyPost_ret (v := .tuple #[.agg #[.int .i64 6, .int .i64 0, .int .i64 0, .string { data := #[] }, .int .i64 0, .int .i64 0, .int .i64 0, .int .i64 0, .string s, .slice A m c], errV bad]) (by simp [results, Tryz.results175, go_sem, f0, f1, f2, f3, f4, f5, f6, f7, f8, f9]) rfl (CPost.err (f := (callN s .nil).f) (A := A) (m := m) (c := c) (b := w.heap.size) (V := w2) (callIn_err ho) hib K2 hP (Nat.le_refl _) hxw ?_)
    repeat (first | with_reducible exact Kept.refl _ _ | with_reducible refine Kept.setCell ?_ _ _ | with_reducible refine Kept.alloc ?_ _)

set_option maxRecDepth 100000 in
set_option maxHeartbeats 600000 in
theorem ccall {x k : Nat} {l : List Tok} {en nest : Int} {L : Lev} {into : Bool} {t : Tok} (w : World) (h : Pc w x l en k nest) (hl : l.length ≤ 300) (hn0 : 0 ≤ nest) (hn1 : nest ≤ 40) (hi : into = decide (nest < 40)) (hc : nest < 40 → CCon x l en (nest + 1) L)
    (ht : l[k]? = some t) (hts : t.s.size ≤ 1000000) (hs : isSign l (k + 1) [40] = true) :
    Calls Tryz.prog 169 #[.pointer (some ⟨x, 0, none⟩)] w (CPost w.heap.size x l en nest (callF l en L into t k) w) := by
  have hxw := h.lt
  have HI := Lib.hid h
  clear h
  have HC := Lib.hid hc
  have HIN := Lib.hid hi
  have HT := Lib.hid ht
  have hlt : k < l.length := (List.getElem?_eq_some_iff.1 ht).1
  have hlt2 : k + 1 < l.length := sign_lt hs
  clear hc hi ht
  have ne1 : x ≠ w.heap.size + 1 := by omega
  have ne2 : w.heap.size + 1 ≠ x := by omega
  have nf1 : x ≠ w.heap.size := by omega
  have nf2 : w.heap.size ≠ x := by omega
  have sz1 : (w.alloc (.cells #[.pointer (some ⟨x, 0, none⟩)] 78)).heap.size = w.heap.size + 1 := heap_one _ _
  have K1 : Kept x w ((w.alloc (.cells #[.pointer (some ⟨x, 0, none⟩)] 78)).alloc (.cells #[.int .i64 0, .int .i64 0, .int .i64 0, .string { data := #[] }, .int .i64 0, .int .i64 0, .int .i64 0, .int .i64 0, .string { data := #[] }, .slice none 0 0] 30)) := ((Kept.refl x w).alloc _).alloc _
  have X1 : NBox ((w.alloc (.cells #[.pointer (some ⟨x, 0, none⟩)] 78)).alloc (.cells #[.int .i64 0, .int .i64 0, .int .i64 0, .string { data := #[] }, .int .i64 0, .int .i64 0, .int .i64 0, .int .i64 0, .string { data := #[] }, .slice none 0 0] 30)) (w.heap.size + 1) := by
    have := NBox.new (w.alloc (.cells #[.pointer (some ⟨x, 0, none⟩)] 78)); rwa [sz1] at this
  have P1 := Lib.hid ((HI.out.alloc (.cells #[.pointer (some ⟨x, 0, none⟩)] 78)).alloc (.cells #[.int .i64 0, .int .i64 0, .int .i64 0, .string { data := #[] }, .int .i64 0, .int .i64 0, .int .i64 0, .int .i64 0, .string { data := #[] }, .slice none 0 0] 30))
  have q1 : ((w.alloc (.cells #[.pointer (some ⟨x, 0, none⟩)] 78)).alloc (.cells #[.int .i64 0, .int .i64 0, .int .i64 0, .string { data := #[] }, .int .i64 0, .int .i64 0, .int .i64 0, .int .i64 0, .string { data := #[] }, .slice none 0 0] 30)).cell? ⟨w.heap.size, 0, none⟩ = some (.pointer (some ⟨x, 0, none⟩)) := by simp
  have eg : ∀ args w, (callFunc 175 args).run Tryz.prog w = .ok (.enter 175 args) w := enters_of Tryz.func175 (by kernel_rfl) rfl
  have HEG := Lib.hid eg
  clear eg
  go_enter Tryz.func169, Tryz.ntmps169
  go_wp2_with fail
  generalize ((w.alloc (.cells #[.pointer (some ⟨x, 0, none⟩)] 78)).alloc (.cells #[.int .i64 0, .int .i64 0, .int .i64 0, .string { data := #[] }, .int .i64 0, .int .i64 0, .int .i64 0, .int .i64 0, .string { data := #[] }, .slice none 0 0] 30)) = W1 at *
  have lt1 := X1.lt
  refine (cahead0 W1 P1.out hl).mono ?_; rintro e w2 ⟨rfl, hb2⟩
  rw [HT.out]
  unfold tokV
  have k2 : Kept x W1 w2 := Kept.of hb2
  have K2 := K1.trans k2
  have X2 := X1.kept k2 ne2
  have P2 := Lib.hid (P1.out.below hb2)
  have q2 := k2.cell nf2 q1
  have qS := field_S t.k t.n t.s t.at_ w2
  have lt2 := X2.lt
  have hx2 : x < w2.heap.size := by have := k2.size; omega
  have na1 : x ≠ w2.heap.size := by omega
  have na2 : w2.heap.size ≠ x := by omega
  have na3 : w.heap.size + 1 ≠ w2.heap.size := by omega
  have na4 : w2.heap.size ≠ w.heap.size + 1 := by omega
  have na5 : w.heap.size ≠ w2.heap.size := by omega
  have K3 := K2.alloc (.cells #[.string t.s] 9)
  have k3 : Kept x w2 (w2.alloc (.cells #[.string t.s] 9)) := (Kept.refl x w2).alloc _
  have X3 := X2.kept k3 ne2
  have P3 := Lib.hid (P2.out.alloc (.cells #[.string t.s] 9))
  have q3 := k3.cell nf2 q2
  have r3 : (w2.alloc (.cells #[.string t.s] 9)).cell? ⟨w2.heap.size, 0, none⟩ = some (.string t.s) := by simp
  clear K1 X1 P1 q1 k2 hb2 k3
  have lt3 := X3.lt
  by_cases h8 : 8 < t.s.size
  · have E : Hid (callF l en L into t k = .error (badAt l en k)) := Lib.hid (by unfold callF; rw [if_pos h8])
    go_wp2_with fail
    generalize (w2.alloc (.cells #[.string t.s] 9)) = W3 at *
    refine (cmisplaced W3 P3.out hl).mono ?_; rintro e w4 ⟨rfl, q, rfl⟩
    have X4 := X3.kept ((Kept.refl x W3).drew q) ne2
    obtain ⟨f0, f1, f2, f3, f4, f5, f6, f7, f8, f9, z0, z1, z2, z3, z4, z5, z6, z7, z8, z9⟩ := (X4).cells
    go_wp2_with fail
    refine bodyPost_ret (v := .tuple #[.agg #[.int .i64 0, .int .i64 0, .int .i64 0, .string { data := #[] }, .int .i64 0, .int .i64 0, .int .i64 0, .int .i64 0, .string { data := #[] }, .slice none 0 0], errV (badAt l en k)]) (by simp [results, Tryz.results169, go_sem, f0, f1, f2, f3, f4, f5, f6, f7, f8, f9]) rfl (CPost.err (f := fld0) (A := none) (m := 0) (c := 0) (b := w.heap.size + 1) (V := W3.drewN q) E.out (isBad_at _ _ _) (K3.drew q) (P3.out.drew q) (by omega) hxw ?_)
    repeat (first | with_reducible exact Kept.refl _ _ | with_reducible refine Kept.setCell ?_ _ _ | with_reducible refine Kept.alloc ?_ _)
  · have E := Lib.hid (callF_in (l := l) (n := en) (L := L) (into := into) (k := k) h8)
    have h88 : t.s.size ≤ 8 := by omega
    clear X2 P2 q2
    go_wp2_with fail
    generalize (w2.alloc (.cells #[.string t.s] 9)) = W3 at *
    refine (ctake W3 P3.out hlt).mono ?_; rintro e w4 ⟨rfl, P4, k4⟩
    have K4 := K3.trans k4
    have X4 := X3.kept k4 ne2
    have q4 := k4.cell nf2 q3
    have r4 := k4.cell na2 r3
    clear K3 X3 P3 q3 r3 k4
    go_wp2_with fail
    refine (ctake w4 P4 hlt2).mono ?_; rintro e w5 ⟨rfl, P5, k5⟩
    have K5 := K4.trans k5
    have X5 := X4.kept k5 ne2
    have q5 := k5.cell nf2 q4
    have r5 := k5.cell na2 r4
    clear K4 X4 P4 q4 r4 k5
    go_wp2_with fail
    refine (cclosed (F := fun k => callIn l en L into t.s k) HEG.out w5 P5 hl (fun w' hk hp => ccall1 w' hp hl hn0 hn1 HIN.out HC.out (hk.cell nf2 q5) (hk.cell na2 r5) nf2 na2)).mono ?_
    rintro e w6 ⟨f, A, m, c, er, rfl, k6, hp6⟩
    have X6 := X5.kept k6 ne2
    have K6 := K5.trans k6
    rw [← E.out] at hp6
    have HP := Lib.hid hp6
    have lt6 := X5.lt
    have lt7 := X6.lt
    clear hp6
    unfold nodeV
    obtain ⟨f0, f1, f2, f3, f4, f5, f6, f7, f8, f9, z0, z1, z2, z3, z4, z5, z6, z7, z8, z9⟩ := (X6).cells
    go_wp2_with fail
    refine bodyPost_ret (v := .tuple #[.agg #[.int .i64 f.k, .int .i64 f.vk, .int .i64 f.vn, .string f.vs, .int .i64 f.r1, .int .i64 f.r2, .int .i64 f.r3, .int .i64 f.r4, .string f.op, .slice A m c], er]) (by simp [results, Tryz.results169, go_sem, f0, f1, f2, f3, f4, f5, f6, f7, f8, f9]) rfl (CPost.on (f := f) (A := A) (m := m) (c := c) (b := w.heap.size + 1) HP.out K6 (by omega) lt6 (by omega) hxw ?_)
    repeat (first | with_reducible exact Kept.refl _ _ | with_reducible refine Kept.setCell ?_ _ _ | with_reducible refine Kept.alloc ?_ _)


end Go.Proofs.YtbgjdfghcnblcaaGreatDoor.TreeC
