/-
  Rows of bytes in a block of their own: made, out of a text, stored into, told as a text.
-/
import Derived.Test.YtflpnpppljalaaaDoorRowsB
import Derived.Test.YtflpnpppljalaaaDoorNumG
namespace Go.Proofs.YtflpnpppljalaaaDoor.RowsC
set_option linter.unusedVariables false
open Go.RowKit Go.Proofs.YtflpnpppljalaaaDoor.NumC

/-- A row of bytes in a block of its own. -/
structure BAt (w : World) (g : Nat) (m : List UInt8) : Prop where
  cell : ∀ j (hj : j < m.length), w.cell? ⟨g, j, none⟩ = some (.int .u8 (m[j].toNat : Int))
  soft : ∀ j, j < m.length → w.frozen? ⟨g, j, none⟩ = false
theorem BAt.set {w : World} {g : Nat} {m : List UInt8} (h : BAt w g m) (k : Nat) (hk : k < m.length) (y : UInt8) : BAt (w.setCell ⟨g, k, none⟩ (.int .u8 (y.toNat : Int))) g (m.set k y) where
  cell j hj := by
    have hj2 : j < m.length := by rwa [List.length_set] at hj
    by_cases e : j = k
    · subst e
      rw [List.getElem_set_self]
      exact World.cell?_setCell_same _ _ _ (h.cell j hj2)
    · rw [World.cell?_setCell_other _ _ _ _ (fun x => e (by injection x; omega)), List.getElem_set_ne (by omega)]
      exact h.cell j hj2
  soft j hj := by
    rw [List.length_set] at hj
    rw [World.frozen?_setCell]; exact h.soft j hj
theorem off_add (b j : Nat) : (⟨b, 0, none⟩ : Addr).add j = ⟨b, j, none⟩ := by
  unfold Addr.add
  by_cases h : j = 0
  · subst h; simp
  · simp [h]
/-- A text's bytes as such a row. -/
theorem bytes_list (V : World) (s : ByteArray) : ∃ (cp : Nat) (W0 : World), (convert 9 50 (.string s)).run Tryd.prog V = .ok (.slice (some ⟨V.heap.size, 0, none⟩) s.size cp) W0
    ∧ BAt W0 V.heap.size s.data.toList ∧ Below V.heap.size V W0 := by
  refine ⟨_, _, run_bytes_of_string (P := Tryd.prog) V 9 50 5 s Tryd.underlying9 Tryd.underlying50 Tryd.underlying5, ⟨fun j hj => ?_, fun j hj => ?_⟩, (below_drewN' (Below.refl _ _) 1).alloc (Nat.le_refl _) _⟩
  · have := World.cell?_alloc_mark V.drew (bytesRow s (grownCap V s.size 0 5)) 5 ((bytesRow s (grownCap V s.size 0 5)).size, (bytesRow s (grownCap V s.size 0 5)).size + 1) j
    rw [show V.drew.heap.size = V.heap.size from rfl] at this
    rw [this]; exact bytesRow_at s _ j hj
  · have hj : j < s.size := hj
    have := World.frozen?_alloc_mark V.drew (bytesRow s (grownCap V s.size 0 5)) 5 (bytesRow s (grownCap V s.size 0 5)).size ((bytesRow s (grownCap V s.size 0 5)).size + 1) j
    rw [show V.drew.heap.size = V.heap.size from rfl] at this
    rw [this]
    have h2 : j < (bytesRow s (grownCap V s.size 0 5)).size := by unfold bytesRow; simp; omega
    simp; omega
/-- A byte as a record. -/
def fU (b : UInt8) : List Value := [.int .u8 (b.toNat : Int)]
theorem kindU : Kind fU 1 50 5 where
  row := ⟨fun _ => rfl, fun x u hu => by
    simp only [fU, List.mem_cons, List.not_mem_nil, or_false] at hu
    rw [hu]; rfl, by decide⟩
  under := Tryd.underlying50
  info := ⟨.int .u8 0, 1, by kernel_rfl, rfl, by decide⟩
theorem u8_info : (Tryd.prog.info? 5).map (fun i => (i.zero, i.size, i.bytes)) = some (some (.int .u8 0), 1, 1) := by kernel_rfl
theorem BAt.of_owns {w : World} {B g m c : Nat} {l : List UInt8} {ty : TypeId} (h : Owns fU 1 ty w B (.slice (some ⟨g, 0, none⟩) m c) l) (hm : m = l.length) : BAt w g l where
  cell j hj := h.cell1 kindU.row j l[j] _ (List.getElem?_eq_getElem hj) rfl
  soft j _ := h.frozen1 hm j
/-- Such a row as a text. -/
theorem BAt.text {w : World} {g n : Nat} {l : List UInt8} (h : BAt w g l) (hn : l.length = n) (cp : Nat) : (convert 50 9 (.slice (some ⟨g, 0, none⟩) n cp)).run Tryd.prog w = .ok (.string ⟨l.toArray⟩) w := by
  subst hn
  exact run_convert_bytes_back (P := Tryd.prog) w 50 9 5 ⟨g, 0, none⟩ cp l Tryd.underlying50 Tryd.underlying5 Tryd.underlying9 (fun j hj => by rw [off_add]; exact h.cell j hj)
theorem BAt.below {w w' : World} {g n : Nat} {l : List UInt8} (h : BAt w g l) (hb : Below n w w') (hg : g < n) : BAt w' g l where
  cell j hj := (hb.cell (p := ⟨g, j, none⟩) hg).trans (h.cell j hj)
  soft j hj := (hb.frozen (p := ⟨g, j, none⟩) hg).trans (h.soft j hj)
end Go.Proofs.YtflpnpppljalaaaDoor.RowsC
