/-
  What slots hold, as data: for regions that draw their order.
-/
import Derived.Test.YtelfpefcjchjbaaGreatDoorIntF
namespace Go.Proofs.YtelfpefcjchjbaaGreatDoor
open Go.RowKit
open Go.Lib (hid)
open Dg
namespace Zn

/-- The value v is a slice of these numbers of a kind. -/
def Row (k : IntKind) (w : World) (v : Value) (zs : List Int) : Prop :=
  ∃ ao cap, v = .slice ao zs.length cap ∧ zs.length ≤ cap ∧ cap ≤ maxLen ∧ (0 < zs.length → ∃ b off, ao = some ⟨b, off, none⟩ ∧ ∀ i, i < zs.length → w.cell? ⟨b, off + i, none⟩ = some (.int k (zs.getD i 0)))
theorem Row.keep {k : IntKind} {w w' : World} {v : Value} {zs : List Int} (h : Row k w v zs) (hb : Below w.heap.size w w') : Row k w' v zs := by
  obtain ⟨ao, cap, h1, h2, h3, h4⟩ := h
  refine ⟨ao, cap, h1, h2, h3, fun hl => ?_⟩
  obtain ⟨b, off, h5, h6⟩ := h4 hl
  exact ⟨b, off, h5, fun i hi => keepCell hb (h6 i hi)⟩
theorem Row.apart {k : IntKind} {w : World} {v : Value} {zs : List Int} {g : Nat} (h : Row k w v zs) (hg : ResAt w g) (cs : Array Value) : Row k (w.setRow g cs) v zs := by
  obtain ⟨ao, cap, rfl, h1, h2, h3⟩ := h
  refine ⟨ao, cap, rfl, h1, h2, fun hl => ?_⟩
  obtain ⟨b, off, rfl, hc⟩ := h3 hl
  refine ⟨b, off, rfl, fun i hi => ?_⟩
  have h4 := hc i hi
  by_cases e : b = g
  · exfalso
    subst e
    obtain ⟨x, y, z, n, hg⟩ := hg
    rw [cell_of_row _ _ _ _ _ (0, 0) hg] at h4
    rcases (show off + i = 0 ∨ off + i = 1 ∨ 2 ≤ off + i by omega) with e | e | e
    · rw [e] at h4; cases h4
    · rw [e] at h4; cases h4
    · rw [Array.getElem?_eq_none (by simpa using e)] at h4; cases h4
  · rw [World.cell?_of_block (w := w) (setRow_other w g b cs e)]
    exact h4

/-- A new slice of one number. -/
def One (k : IntKind) (w : World) (v : Value) (z : Int) : Prop := ∃ g, v = .slice (some ⟨g, 0, none⟩) 1 1 ∧ w.cell? ⟨g, 0, none⟩ = some (.int k z)
theorem One.keep {k : IntKind} {w w' : World} {v : Value} {z : Int} (h : One k w v z) (hb : Below w.heap.size w w') : One k w' v z := by
  obtain ⟨g, h1, h2⟩ := h
  exact ⟨g, h1, keepCell hb h2⟩
theorem One.apart {k : IntKind} {w : World} {v : Value} {z : Int} {g : Nat} (h : One k w v z) (hg : ResAt w g) (cs : Array Value) : One k (w.setRow g cs) v z := by
  obtain ⟨b, h1, h2⟩ := h
  refine ⟨b, h1, ?_⟩
  by_cases e : b = g
  · exfalso
    subst e
    obtain ⟨x, y, z, n, hg⟩ := hg
    rw [cell_of_row _ _ _ _ _ (0, 0) hg] at h2
    cases h2
  · rw [World.cell?_of_block (w := w) (setRow_other w g b cs e)]
    exact h2
theorem One.new (k : IntKind) (w : World) (z : Int) (E : TypeId) : One k (w.alloc (.cells #[.int k z] E)) (.slice (some ⟨w.heap.size, 0, none⟩) 1 1) z := ⟨_, rfl, cell_of_row _ _ 0 _ _ _ (heap_alloc_new w _)⟩

inductive Sp where
  | any
  | eq (v : Value)
  | int (z : Int)
  | nums (ds : List Nat)
  | two (y z : Int)
  | twoN (a b : List Nat)
  | intB (z : Int) (b : Bool)
  | intE (z : Int) (e : Int)
  | vals (n : Nat)
  | row (k : IntKind) (zs : List Int)
  | one (k : IntKind) (z : Int)
def Sp.is : Sp → World → Value → Prop
  | .any, _, _ => True
  | .eq v, _, x => x = v
  | .int z, w, x => IntAt w x z
  | .nums ds, w, x => Nums w x ds
  | .two y z, w, x => ∃ s t, x = .tuple #[s, t] ∧ IntAt w s y ∧ IntAt w t z
  | .twoN a b, w, x => ∃ s t, x = .tuple #[s, t] ∧ Nums w s a ∧ Nums w t b
  | .intB z b, w, x => ∃ s, x = .tuple #[s, .bool b] ∧ IntAt w s z
  | .intE z e, w, x => ∃ s, x = .tuple #[s, .int .i64 e] ∧ IntAt w s z
  | .vals n, w, x => ∃ ds, Nums w x ds ∧ Dig ds ∧ val ds = n
  | .row k zs, w, x => Row k w x zs
  | .one k z, w, x => One k w x z
theorem Sp.keep {s : Sp} {w w' : World} {v : Value} (h : s.is w v) (hb : Below w.heap.size w w') : s.is w' v := by
  cases s with
  | any => trivial
  | eq x => exact h
  | int z => exact IntAt.keep h hb
  | nums ds => exact Nums.keep h hb
  | two y z => obtain ⟨s, t, h1, h2, h3⟩ := h; exact ⟨s, t, h1, h2.keep hb, h3.keep hb⟩
  | twoN y z => obtain ⟨s, t, h1, h2, h3⟩ := h; exact ⟨s, t, h1, h2.keep hb, h3.keep hb⟩
  | intB y z => obtain ⟨s, h1, h2⟩ := h; exact ⟨s, h1, h2.keep hb⟩
  | intE y z => obtain ⟨s, h1, h2⟩ := h; exact ⟨s, h1, h2.keep hb⟩
  | vals n => obtain ⟨ds, h1, h2⟩ := h; exact ⟨ds, h1.keep hb, h2⟩
  | row k zs => exact Row.keep h hb
  | one k z => exact One.keep h hb
def look : List (Nat × Sp) → Nat → Sp
  | [], _ => .any
  | (k, s) :: r, t => bif Nat.beq k t then s else look r t
def Slots (l : List (Nat × Sp)) (t : Nat) (w : World) (v : Value) : Prop := (look l t).is w v
theorem Slots.keep (l : List (Nat × Sp)) (t : Nat) (w w2 : World) (v : Value) (h : Slots l t w v) (hb : Below w.heap.size w w2) : Slots l t w2 v := Sp.keep h hb

theorem wanted_of {o : Oper} {y : Nat → Option Bool} {j : Nat} {b : Bool} (hg : o.guard = some (j, b)) (hy : y j = some b) : Region.wanted o y = true := by
  unfold Region.wanted
  rw [hg]
  show (y j == some b) = true
  rw [hy]
  simp

theorem pstep {P : Program} {ops : Array Oper} {S : Nat → World → Value → Prop} {Q : Exit → Act → World → Prop} {o : Oper} {a : Act} {w : World} (hg : Region.wanted o (yielded ops a.tmps) = true)
    (h : ∀ K : Act → World → Prop, (∀ v w', Below w.heap.size w w' → (∀ d, o.dst = some d → S d w' v) → K (a.put o.dst v) w') → o.wp P a w K Q) : Pu.PStep P ops S Q o a w :=
  .inl ⟨hg, h _ fun v _ hb hv => ⟨v, rfl, hb, hv⟩⟩

/-- The same for an operation that stands alone: an integer is stored where the result is. -/
theorem wp_store_int {o : Oper} {a : Act} {w : World} {K : Act → World → Prop} {Q : Exit → Act → World → Prop} (x y : Operand) (ho : o.op = .store 24 x y)
    (g : Nat) (v : Value) (z : Int) (hx : a.eval x = .pointer (some ⟨g, 0, none⟩)) (hy : a.eval y = v) (hv : IntAt w v z) (hg : ResAt w g)
    (h : K (a.put o.dst undef) (w.setRow g v.cells)) : o.wp Tryz.prog a w K Q := by
  obtain ⟨so, n, sc, rfl, _⟩ := hv.form
  obtain ⟨_, _, _, _, hg⟩ := hg
  exact wp_store_row 24 x y ho g _ hx hy 24 _ hg Tryz.int_size rfl (by simp [Value.oneCell']) h

end Zn
end Go.Proofs.YtelfpefcjchjbaaGreatDoor
