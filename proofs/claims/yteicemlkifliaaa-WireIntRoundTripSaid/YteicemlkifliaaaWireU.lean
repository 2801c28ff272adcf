/-
  What comes in, read as the walks of package wire take it.
-/
import Derived.Test.YteicemlkifliaaaWireG
import Derived.OpenShut
namespace Go.Proofs.Yteicemlkifliaaa
open Go.RowKit
open W

/-- A slice of bytes that came in, by its cells up to the capacity. -/
theorem bytes_of_row {w : World} {a : Option Addr} {len cap : Nat} {zs : List Int}
    (h : (a = none ∧ len = 0 ∧ cap = 0 ∧ zs = []) ∨ ∃ x, a = some x ∧ len ≤ cap ∧ cap ≤ maxLen ∧ zs.length = cap ∧ (∀ i, i < zs.length → w.cell? (x.add i) = some (.int .u8 (zs.getD i 0))) ∧ ∀ n ∈ zs, (Lit.int .u8 n).wf = true) :
    ∃ bs, bs.length = len ∧ ByteView w (.slice a len cap) bs := by
  rcases h with ⟨rfl, rfl, rfl, rfl⟩ | ⟨x, rfl, hl, hm, hz, hc, hw⟩
  · exact ⟨[], rfl, fun _ h => by simp at h, none, 0, rfl, Nat.le_refl _, by unfold maxLen; omega, fun h => absurd rfl h⟩
  · have hlen : (zs.take len).length = len := by simp; omega
    refine ⟨zs.take len, hlen, fun z hz => bounds_u8 (hw z (List.mem_of_mem_take hz)), some x, cap, by rw [hlen], by omega, hm, fun hne => ?_⟩
    have hpos : 0 < zs.length := by
      have := List.length_pos_iff.2 hne
      omega
    obtain ⟨b, off, rfl, hcell⟩ := ints_at hc hpos
    refine ⟨b, off, rfl, fun i hi => ?_⟩
    rw [hcell i (by omega)]
    simp only [List.getD_eq_getElem?_getD, List.getElem?_take]
    rw [if_pos (by omega)]

end Go.Proofs.Yteicemlkifliaaa
