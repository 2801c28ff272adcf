/-
  A slice of bytes and a byte that came in
-/
import Derived.Test.YtcblbepaigdlgaaGreatJB51
import Derived.Test.YtcblbepaigdlgaaGreatJB52
set_option linter.unusedVariables false
set_option linter.unusedSimpArgs false
set_option linter.unusedSectionVars false
namespace Go.Proofs.YtcblbepaigdlgaaGreat
open Go.ChangeShapes Go.WideShapes Go.ChangeAt Go.RowKit
open Dg Zn
namespace Vc
theorem bytes_is {w : World} {v : Value} {l : List Int} (h : Row .u8 w v l) : (ZI .u8 l).is (fun _ => False) (fun _ => (0, 0)) w v := by
 intro w' hag
 obtain ⟨ao, cap, h1, h2, h3, h4⟩ := h
 refine row_at ⟨ao, cap, h1, h2, h3, fun hl => ?_⟩
 obtain ⟨b, off, h5, h6⟩ := h4 hl
 refine ⟨b, off, h5, fun i hi => ?_⟩
 have hc := h6 i hi
 have hb : b < w.heap.size := World.block_lt_of_cell? w _ hc
 rw [World.cell?_of_block (w := w) (hag.2 b hb (fun h => h))]
 exact hc
theorem bytes_in {w : World} {a : Option Addr} {len cap : Nat} {zs : List Int}
  (h : (a = none ∧ len = 0 ∧ cap = 0 ∧ zs = []) ∨ ∃ x, a = some x ∧ len ≤ cap ∧ cap ≤ maxLen ∧ zs.length = cap ∧ (∀ i, i < zs.length → w.cell? (x.add i) = some (.int .u8 (zs.getD i 0))) ∧ ∀ n ∈ zs, (Lit.int .u8 n).wf = true) :
  ∃ bs : List Int, W.Bs bs ∧ (ZI .u8 bs).is (fun _ => False) (fun _ => (0, 0)) w (.slice a len cap) := by
 rcases h with ⟨rfl, rfl, rfl, rfl⟩ | ⟨x, rfl, hl, hm, hz, hc, hw⟩
 ·exact ⟨[], fun _ h => (by cases h), bytes_is ⟨none, 0, rfl, Nat.le_refl _, by decide, fun h => absurd h (by simp)⟩⟩
 ·have hlen : (zs.take len).length = len := by simp; omega
  refine ⟨zs.take len, fun z hz => bounds_u8 (hw z (List.mem_of_mem_take hz)), bytes_is ⟨some x, cap, by rw [hlen], by omega, hm, fun hne => ?_⟩⟩
  obtain ⟨b, off, rfl, hcell⟩ := ints_at hc (by omega)
  refine ⟨b, off, rfl, fun i hi => ?_⟩
  rw [hcell i (by omega)]
  simp only [List.getD_eq_getElem?_getD, List.getElem?_take]
  rw [if_pos (by omega)]
theorem byte_in {z : Int} (h : 0 ≤ z ∧ z ≤ 255) : (Value.int .u8 z) = .int .u8 (((UInt8.ofNat z.toNat).toNat : Nat) : Int) := by
 congr 1
 rw [UInt8.toNat_ofNat']
 omega
end Vc
end Go.Proofs.YtcblbepaigdlgaaGreat
