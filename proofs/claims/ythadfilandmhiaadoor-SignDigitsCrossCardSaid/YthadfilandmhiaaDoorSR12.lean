/-
  Contracts of gantry/integer: trim, carried, signed.
  Rows of integers in memory: made, stored into, read.
-/
import Derived.Test.YthadfilandmhiaaDoorRows
import Derived.Test.YthadfilandmhiaaDoorSR11
import Derived.Test.YthadfilandmhiaaDoorSR2
set_option linter.unusedVariables false
set_option linter.unusedSimpArgs false
set_option linter.unusedSectionVars false
namespace Go.Proofs.YthadfilandmhiaaDoor
open Go.RowKit
open Go.Lib (hid)
open Dg
namespace Zn
theorem keepCell {w w' : World} (h : Below w.heap.size w w') {a : Addr} {v : Value} (hv : w.cell? a = some v) : w'.cell? a = some v := by
  rcases Nat.lt_or_ge a.block w.heap.size with hb | hb
  · exact (h.cell hb).trans hv
  · exfalso
    simp only [World.cell?] at hv
    rw [Array.getElem?_eq_none (by omega)] at hv
    cases hv

/-- The value v is a slice of these digits. -/
def Nums (w : World) (v : Value) (ds : List Nat) : Prop :=
  ∃ ao cap, v = .slice ao ds.length cap ∧ ds.length ≤ cap ∧ cap ≤ maxLen ∧ (0 < ds.length → ∃ b off, ao = some ⟨b, off, none⟩ ∧ ∀ i, i < ds.length → w.cell? ⟨b, off + i, none⟩ = some (.int .i64 ((ds.getD i 0 : Nat) : Int)))

theorem Nums.keep {w w' : World} {v : Value} {ds : List Nat} (h : Nums w v ds) (hb : Below w.heap.size w w') : Nums w' v ds := by
  obtain ⟨ao, cap, h1, h2, h3, h4⟩ := h
  refine ⟨ao, cap, h1, h2, h3, fun hl => ?_⟩
  obtain ⟨b, off, h5, h6⟩ := h4 hl
  exact ⟨b, off, h5, fun i hi => keepCell hb (h6 i hi)⟩

theorem Nums.nil {w : World} {ao : Option Addr} {cap : Nat} (h : cap ≤ maxLen) : Nums w (.slice ao 0 cap) [] :=
  ⟨ao, cap, rfl, Nat.zero_le _, h, fun h => absurd h (by decide)⟩
theorem Nums.mk' {w : World} {b off n cap : Nat} {ds : List Nat} (hn : ds.length = n) (hl : n ≤ cap) (h : cap ≤ maxLen) (hc : ∀ i, i < n → w.cell? ⟨b, off + i, none⟩ = some (.int .i64 ((ds.getD i 0 : Nat) : Int))) : Nums w (.slice (some ⟨b, off, none⟩) n cap) ds := by
  subst hn
  exact ⟨_, cap, rfl, hl, h, fun _ => ⟨b, off, rfl, hc⟩⟩

theorem Nums.take {w : World} {ao : Option Addr} {n cap : Nat} {ds : List Nat} (h : Nums w (.slice ao n cap) ds) (k : Nat) (hk : k ≤ n) : Nums w (.slice ao k cap) (ds.take k) := by
  obtain ⟨ao', cap', h1, h2, h3, h4⟩ := h
  cases h1
  have e : (ds.take k).length = k := by rw [List.length_take, Nat.min_eq_left hk]
  refine ⟨ao, cap, by rw [e], by omega, h3, fun hl => ?_⟩
  obtain ⟨b, off, h5, h6⟩ := h4 (by omega)
  refine ⟨b, off, h5, fun i hi => ?_⟩
  rw [e] at hi
  rw [List.getD_eq_getElem?_getD, List.getElem?_take, if_pos hi, ← List.getD_eq_getElem?_getD]
  exact h6 i (by omega)

/-- The value v is the integer z. -/
def IntAt (w : World) (v : Value) (z : Int) : Prop := ∃ s, v = .agg #[.bool (decide (z < 0)), s] ∧ Nums w s (dig z.natAbs)
theorem IntAt.keep {w w' : World} {v : Value} {z : Int} (h : IntAt w v z) (hb : Below w.heap.size w w') : IntAt w' v z := by
  obtain ⟨s, h1, h2⟩ := h
  exact ⟨s, h1, h2.keep hb⟩
/-- The integer with a sign and a size. -/
def mk (neg : Bool) (n : Nat) : Int := if neg then -(n : Int) else n
/-- A block that holds these integers. -/
def RowI (w : World) (B : Nat) (zs : List Int) : Prop := w.heap[B]? = some (.cells (zs.map (Value.int .i64)).toArray 3 (0, 0))

theorem RowI.cell {w : World} {B : Nat} {zs : List Int} (h : RowI w B zs) {i : Nat} (hi : i < zs.length) : w.cell? ⟨B, i, none⟩ = some (.int .i64 (zs.getD i 0)) := by
  rw [cell_of_row w B i _ _ (0, 0) h]
  simp [hi]
theorem RowI.frozen {w : World} {B : Nat} {zs : List Int} (h : RowI w B zs) (i : Nat) : w.frozen? ⟨B, i, none⟩ = false := frozen_of_row w B i _ _ h
theorem RowI.lt {w : World} {B : Nat} {zs : List Int} (h : RowI w B zs) : B < w.heap.size := by
  rcases Nat.lt_or_ge B w.heap.size with h1 | h1
  · exact h1
  · unfold RowI at h
    rw [Array.getElem?_eq_none (by omega)] at h
    cases h
theorem RowI.store {w : World} {B : Nat} {zs : List Int} (h : RowI w B zs) (i : Nat) (z : Int) : RowI (w.setCell ⟨B, i, none⟩ (.int .i64 z)) B (zs.set i z) := by
  have := heap_setCell_same w B i _ _ (.int .i64 z) h
  unfold RowI
  rw [this]
  simp [List.map_set]
theorem RowI.drew {w : World} {B : Nat} {zs : List Int} (h : RowI w B zs) : RowI w.drew B zs := h
theorem RowI.keep {w w' : World} {B : Nat} {zs : List Int} (h : RowI w B zs) (hb : Below w.heap.size w w') : RowI w' B zs := (hb.block B h.lt).trans h
theorem RowI.made (w : World) (n : Nat) : RowI (w.alloc (.cells (madeCells (Value.int .i64 0).cells (n * 1)) 3)) w.heap.size (List.replicate n 0) := by
  unfold RowI
  rw [heap_alloc_new]
  congr 2
  refine Array.ext' ?_
  refine List.ext_getElem? fun i => ?_
  simp only [madeCells, Value.cells, Nat.mul_one]
  rcases Nat.lt_or_ge i n with h | h
  · simp [h, Nat.mod_one]
  · simp [h]

/-- A slice over a block that holds digits. -/
theorem RowI.nums {w : World} {B : Nat} {zs : List Int} (h : RowI w B zs) (off n cap : Nat) (ds : List Nat) (hn : ds.length = n) (hc : n ≤ cap) (hm : cap ≤ maxLen) (ho : off + n ≤ zs.length) (he : ∀ i, i < n → zs.getD (off + i) 0 = ((ds.getD i 0 : Nat) : Int)) : Nums w (.slice (some ⟨B, off, none⟩) n cap) ds :=
  Nums.mk' hn hc hm fun i hi => by rw [h.cell (i := off + i) (by omega), he i hi]

theorem getD_map (ds : List Nat) (i : Nat) : (ds.map Int.ofNat).getD i 0 = ((ds.getD i 0 : Nat) : Int) := by
  simp only [List.getD_eq_getElem?_getD, List.getElem?_map]
  cases ds[i]? <;> rfl
end Zn
end Go.Proofs.YthadfilandmhiaaDoor
