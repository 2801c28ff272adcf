/-
  What comes in, read as the walks of package wire take it.
-/
import Derived.Test.YtpdphbliaibkhaaWireG
import Derived.OpenShut
namespace Go.Proofs.Ytpdphbliaibkhaa
open Go.RowKit
open W

/-- A slice of bytes that came in, by its cells up to the capacity. -/
theorem bytes_of_row {w : World} {a : Option Addr} {len cap : Nat} {zs : List Int}
    (h : (a = none ∧ len = 0 ∧ cap = 0 ∧ zs = []) ∨ ∃ x, a = some x ∧ len ≤ cap ∧ cap ≤ maxLen ∧ zs.length = cap ∧ (∀ i, i < zs.length → w.cell? (x.add i) = some (.int .u8 (zs.getD i 0))) ∧ ∀ n ∈ zs, (Lit.int .u8 n).wf = true) :
    ∃ bs, bs.length = len ∧ ByteView w (.slice a len cap) bs := by
  rcases h with ⟨rfl, rfl, rfl, rfl⟩ | ⟨x, rfl, hl, hm, hz, hc, hw⟩
  · exact ⟨[], rfl, fun _ h => by simp at h, none, 0, rfl, Nat.le_refl _, by unfold maxLen; omega, fun h => absurd rfl h⟩
  · have hlen : (zs.take len).length = len := by simp; omega
    refine ⟨zs.take len, hlen, fun z hz => bounds_u8 (hw z (List.mem_of_mem_take hz)), some x, cap, by rw [hlen], by omega, hm, fun hne => ?_⟩
    have hpos : 0 < zs.length := by
      have := List.length_pos_iff.2 hne
      omega
    obtain ⟨b, off, rfl, hcell⟩ := ints_at hc hpos
    refine ⟨b, off, rfl, fun i hi => ?_⟩
    rw [hcell i (by omega)]
    simp only [List.getD_eq_getElem?_getD, List.getElem?_take]
    rw [if_pos (by omega)]

/-- A slice of integers that came in. -/
theorem ints_of_row {w : World} {a : Option Addr} {len cap : Nat} {zs : List Int}
    (h : (a = none ∧ len = 0 ∧ cap = 0 ∧ zs = []) ∨ ∃ x, a = some x ∧ len ≤ cap ∧ cap ≤ maxLen ∧ zs.length = cap ∧ (∀ i, i < zs.length → w.cell? (x.add i) = some (.int .i64 (zs.getD i 0))) ∧ ∀ n ∈ zs, (Lit.int .i64 n).wf = true) :
    ∃ bs : List Int, bs.length = len ∧ View w (.slice a len cap) 1 bs.length (bs.map (Value.int .i64)) ∧ ∀ z ∈ bs, -9223372036854775808 ≤ z ∧ z ≤ 9223372036854775807 := by
  rcases h with ⟨rfl, rfl, rfl, rfl⟩ | ⟨x, rfl, hl, hm, hz, hc, hw⟩
  · exact ⟨[], rfl, ⟨rfl, none, 0, rfl, Nat.le_refl _, by unfold maxLen; omega, fun h => absurd h (by simp)⟩, fun _ h => by simp at h⟩
  · have hlen : (zs.take len).length = len := by simp; omega
    refine ⟨zs.take len, hlen, ⟨by simp, some x, cap, by rw [hlen], by omega, hm, fun hne => ?_⟩, fun z hz => bounds_i64 (hw z (List.mem_of_mem_take hz))⟩
    obtain ⟨b, off, rfl, hcell⟩ := ints_at hc (by omega)
    refine ⟨b, off, rfl, fun i y hy => ?_⟩
    rw [List.getElem?_map, List.getElem?_take] at hy
    split at hy
    · cases hi : zs[i]? with
      | none => rw [hi] at hy; simp at hy
      | some z =>
        rw [hi] at hy
        simp at hy
        subst hy
        rw [hcell i (List.getElem?_eq_some_iff.1 hi).1, List.getD_eq_getElem?_getD, hi]
        rfl
    · simp at hy

end Go.Proofs.Ytpdphbliaibkhaa
