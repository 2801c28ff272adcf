/-
  gantry/hash.Stream.Sum: the hash of the message.
-/
import Derived.Test.YtihljbephlpgcaaDoorHashH
import Derived.Deep.RegionHeld3
import Derived.Deep.DeepCutAuto
import Derived.Deep.MidRow
namespace Go.Proofs.YtihljbephlpgcaaDoor
open Go.RowKit
open Go.Lib (hid)
open S

/-- A stream's block. -/
def StreamAt (w : World) (g : Nat) : Prop := ∃ Z, w.heap[g]? = some (.cells Z 34 (0, 0)) ∧ Z.size = 73
theorem StreamAt.new (w : World) (Z : Array Value) (h : Z.size = 73) : StreamAt (w.alloc (.cells Z 34)) w.heap.size := ⟨Z, heap_alloc_new w _, h⟩
theorem StreamAt.keep {w w' : World} {g : Nat} (hb : Below w.heap.size w w') (h : StreamAt w g) : StreamAt w' g := by
  obtain ⟨Z, h1, h2⟩ := h
  exact ⟨Z, (hb.block g (lt_of_heap h1)).trans h1, h2⟩
theorem StreamAt.there {w : World} {g : Nat} (h : StreamAt w g) : w.there g 0 73 := by
  obtain ⟨Z, h1, h2⟩ := h
  intro j hj
  rw [Nat.zero_add, cell_of_row _ _ _ _ _ _ h1]
  exact ⟨by simp [h2, hj], frozen_of_row _ _ _ _ _ h1⟩

/-- A block whose cells are all stored holds what was stored. -/
theorem setCells_other (b : Nat) : ∀ (vs : List Value) (o : Nat) (w : World) (i : Nat), i ≠ b → (w.setCells b o vs).heap[i]? = w.heap[i]?
  | [], _, _, _, _ => rfl
  | v :: r, o, w, i, h => by
    rw [World.setCells, setCells_other b r (o + 1) _ i h]
    exact heap_setCell_other w ⟨b, o, none⟩ i v h
theorem setCells_size (b : Nat) : ∀ (vs : List Value) (o : Nat) (w : World), (w.setCells b o vs).heap.size = w.heap.size
  | [], _, _ => rfl
  | v :: r, o, w => by
    rw [World.setCells, setCells_size b r (o + 1) _]
    simp [World.setCell]
theorem setCells_fixed (b : Nat) : ∀ (vs : List Value) (o : Nat) (w : World), (w.setCells b o vs).os = w.os ∧ (w.setCells b o vs).tape = w.tape ∧ (w.setCells b o vs).output = w.output
  | [], _, _ => ⟨rfl, rfl, rfl⟩
  | v :: r, o, w => by
    rw [World.setCells]
    exact setCells_fixed b r (o + 1) _
theorem setCells_row (b : Nat) (t : TypeId) : ∀ (vs : List Value) (o : Nat) (w : World) (Z : Array Value), w.heap[b]? = some (.cells Z t (0, 0)) → o + vs.length ≤ Z.size → (w.setCells b o vs).heap[b]? = some (.cells (splice Z.toList o vs).toArray t (0, 0))
  | [], o, w, Z, h, _ => by
    show w.heap[b]? = _
    rw [h]
    simp [splice]
  | v :: r, o, w, Z, h, hl => by
    rw [World.setCells, setCells_row b t r (o + 1) _ (Z.setIfInBounds o v) (heap_setCell_same w b o Z t v h) (by simp at hl ⊢; omega)]
    congr 3
    apply List.ext_getElem?
    intro i
    simp only [splice, Array.toList_setIfInBounds]
    have hz : o < Z.toList.length := by simp at hl ⊢; omega
    rw [List.take_succ_eq_append_getElem (by simpa using hz), List.append_assoc]
    simp only [List.getElem_set_self, List.singleton_append, List.length_cons]
    rw [List.take_set_of_le (Nat.le_refl _), List.drop_set_of_lt (by omega), show o + 1 + r.length = o + (r.length + 1) by omega]
    rfl
theorem StreamAt.stored {w : World} {g : Nat} {cs : List Value} (h : StreamAt w g) (hc : cs.length = 73) : (w.setCells g 0 cs).heap[g]? = some (.cells cs.toArray 34 (0, 0)) := by
  obtain ⟨Z, h1, h2⟩ := h
  rw [setCells_row g _ cs 0 w Z h1 (by omega)]
  congr 3
  simp only [splice, List.take_zero, List.nil_append, Nat.zero_add]
  rw [List.drop_eq_nil_of_le (by simp; omega), List.append_nil]
theorem below_setCells {B : Nat} {a w : World} (h : Below B a w) {g : Nat} (hg : B ≤ g) (cs : List Value) : Below B a (w.setCells g 0 cs) := by
  obtain ⟨h1, h2, h3⟩ := setCells_fixed g cs 0 w
  exact ⟨h1.trans h.os, h2.trans h.tape, h3.trans h.output, by rw [setCells_size]; exact h.size, fun i hi => (setCells_other g cs 0 w i (by omega)).trans (h.block i hi)⟩

end Go.Proofs.YtihljbephlpgcaaDoor
