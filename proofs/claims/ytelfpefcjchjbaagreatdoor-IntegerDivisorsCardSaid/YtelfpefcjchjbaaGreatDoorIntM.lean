/-
  Rows of integers in memory: made, stored into, read.
-/
import Derived.Test.YtelfpefcjchjbaaGreatDoorIntA
namespace Go.Proofs.YtelfpefcjchjbaaGreatDoor
open Go.RowKit
open Go.Lib (hid)
open Dg
namespace Zn

/-- A block that holds these integers. -/
def RowI (w : World) (B : Nat) (zs : List Int) : Prop := w.heap[B]? = some (.cells (zs.map (Value.int .i64)).toArray 3 (0, 0))

theorem RowI.cell {w : World} {B : Nat} {zs : List Int} (h : RowI w B zs) {i : Nat} (hi : i < zs.length) : w.cell? ⟨B, i, none⟩ = some (.int .i64 (zs.getD i 0)) := by
  rw [cell_of_row w B i _ _ (0, 0) h]
  simp [hi]
theorem RowI.frozen {w : World} {B : Nat} {zs : List Int} (h : RowI w B zs) (i : Nat) : w.frozen? ⟨B, i, none⟩ = false := frozen_of_row w B i _ _ h
theorem RowI.lt {w : World} {B : Nat} {zs : List Int} (h : RowI w B zs) : B < w.heap.size := by
  rcases Nat.lt_or_ge B w.heap.size with h1 | h1
  · exact h1
  · unfold RowI at h
    rw [Array.getElem?_eq_none (by omega)] at h
    cases h
theorem RowI.store {w : World} {B : Nat} {zs : List Int} (h : RowI w B zs) (i : Nat) (z : Int) : RowI (w.setCell ⟨B, i, none⟩ (.int .i64 z)) B (zs.set i z) := by
  have := heap_setCell_same w B i _ _ (.int .i64 z) h
  unfold RowI
  rw [this]
  simp [List.map_set]
theorem RowI.drew {w : World} {B : Nat} {zs : List Int} (h : RowI w B zs) : RowI w.drew B zs := h
theorem RowI.keep {w w' : World} {B : Nat} {zs : List Int} (h : RowI w B zs) (hb : Below w.heap.size w w') : RowI w' B zs := (hb.block B h.lt).trans h
theorem RowI.made (w : World) (n : Nat) : RowI (w.alloc (.cells (madeCells (Value.int .i64 0).cells (n * 1)) 3)) w.heap.size (List.replicate n 0) := by
  unfold RowI
  rw [heap_alloc_new]
  congr 2
  refine Array.ext' ?_
  refine List.ext_getElem? fun i => ?_
  simp only [madeCells, Value.cells, Nat.mul_one]
  rcases Nat.lt_or_ge i n with h | h
  · simp [h, Nat.mod_one]
  · simp [h]

/-- A slice over a block that holds digits. -/
theorem RowI.nums {w : World} {B : Nat} {zs : List Int} (h : RowI w B zs) (off n cap : Nat) (ds : List Nat) (hn : ds.length = n) (hc : n ≤ cap) (hm : cap ≤ maxLen) (ho : off + n ≤ zs.length) (he : ∀ i, i < n → zs.getD (off + i) 0 = ((ds.getD i 0 : Nat) : Int)) : Nums w (.slice (some ⟨B, off, none⟩) n cap) ds :=
  Nums.mk' hn hc hm fun i hi => by rw [h.cell (i := off + i) (by omega), he i hi]

theorem getD_map (ds : List Nat) (i : Nat) : (ds.map Int.ofNat).getD i 0 = ((ds.getD i 0 : Nat) : Int) := by
  simp only [List.getD_eq_getElem?_getD, List.getElem?_map]
  cases ds[i]? <;> rfl

/-- 'make([]int, n)'. -/
theorem wpList_make_ints {w : World} {ops : Array Oper} {rest : List Oper} {o : Oper} {a : Act} {Q : Exit → Act → World → Prop}
    (hg : o.guard = none) (l c : Operand) (hop : o.op = Op.makeSlice 22 l c) (i : TypeInfo)
    (hi : Tryz.prog.info? 3 = some i) (hz0 : i.zero = some (.int .i64 0)) (hz1 : i.size = 1) (hz2 : i.bytes = 8) (hu : Tryz.prog.underlying 22 = some (.slice 3))
    (L C : Int) (n : Nat) (hl : a.eval l = .int .i64 L) (hc : a.eval c = .int .i64 C) (hL : L = (n : Int)) (hC : C = (n : Int)) (hn : n ≤ 17592186044416)
    (hK : ∀ w', RowI w' w.heap.size (List.replicate n 0) → Below w.heap.size w w' → w'.heap.size = w.heap.size + 1 → wpList Tryz.prog ops Q rest (a.put o.dst (.slice (some ⟨w.heap.size, 0, none⟩) n n)) w') :
    wpList Tryz.prog ops Q (o :: rest) a w := by
  refine wpList_plain hg fun K hK' => ?_
  have hr := run_make (P := Tryz.prog) w 22 3 i (.int .i64 0) hu hi hz0 .i64 .i64 (n : Int) (n : Int) (by omega) (Int.le_refl _) (by rw [hz2]; omega) (by omega)
  rw [Int.toNat_natCast, hz1] at hr
  subst hL
  subst hC
  unfold Oper.wp
  simp [execOp, hop, hl, hc, hr, Result.andThen]
  have hR := RowI.made w n
  rw [Nat.mul_one] at hR
  exact hK' _ _ (hK _ hR ((Below.refl _ _).alloc (Nat.le_refl _) _) (by simp))

theorem Tryz.int_info : (Tryz.prog.info? 3).map (fun i => (i.zero, i.size, i.bytes)) = some (some (.int .i64 0), 1, 8) := by kernel_rfl
theorem Tryz.under_ints : Tryz.prog.underlying 22 = some (.slice 3) := by kernel_rfl

end Zn
end Go.Proofs.YtelfpefcjchjbaaGreatDoor
