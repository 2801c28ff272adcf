/-
  A slice of bytes that came in; comparisons of arrays by value.
-/
import Derived.Test.YtihljbephlpgcaaDoorHashL
import Derived.Test.YtihljbephlpgcaaDoorHashX
import Derived.Test.YtihljbephlpgcaaDoorHashN
import Derived.OpenShut
namespace Go.Proofs.YtihljbephlpgcaaDoor
open Go.RowKit
open Go.Lib (hid)
open S

theorem lt_of_cell {w : World} {b off : Nat} {v : Value} (h : w.cell? ⟨b, off, none⟩ = some v) : b < w.heap.size := by
  unfold World.cell? at h
  cases e : w.heap[b]? with
  | none => simp [e] at h
  | some o => exact (Array.getElem?_eq_some_iff.1 e).1
theorem conv_zero (w : World) (p : Option Addr) (c : Nat) : (convert 22 9 (.slice p 0 c)).run Tryd.prog w = .ok (.string (strN [])) w := by
  rw [run_convert_bytes_string w _ _ _ p 0 c Tryd.under_bs Tryd.under_u8 Tryd.under_str]
  cases p <;> simp [Conv.bytesToString, loadCells, loadCellsFrom] <;> rfl
theorem text_of_arg {w : World} {a : Option Addr} {len cap : Nat} {zs : List Int}
    (h : (a = none ∧ len = 0 ∧ cap = 0 ∧ zs = []) ∨ ∃ x, a = some x ∧ len ≤ cap ∧ cap ≤ maxLen ∧ zs.length = cap ∧ (∀ i, i < zs.length → w.cell? (x.add i) = some (.int .u8 (zs.getD i 0))) ∧ ∀ n ∈ zs, (Lit.int .u8 n).wf = true) :
    ∃ m : List Nat, m.length = len ∧ Bn m ∧ TextOf w (.slice a len cap) m := by
  by_cases h0 : len = 0
  · subst h0
    exact ⟨[], rfl, fun x hx => (by cases hx), fun w' _ => conv_zero w' a cap⟩
  · rcases h with ⟨_, h1, _⟩ | ⟨x, rfl, hl, hm, hz, hc, hw⟩
    · exact absurd h1 h0
    · obtain ⟨b, off, rfl, hcell⟩ := ints_at hc (by omega)
      have hbd : ∀ n ∈ zs, 0 ≤ n ∧ n ≤ 255 := fun n hn => bounds_u8 (hw n hn)
      refine ⟨(zs.take len).map Int.toNat, by simp; omega, fun y hy => ?_, fun w' hb => ?_⟩
      · obtain ⟨n, hn, rfl⟩ := List.mem_map.1 hy
        have := hbd n (List.mem_of_mem_take hn)
        omega
      · refine conv_row w' b off len cap _ (by simp; omega) fun i hi => ?_
        have hci := hcell i (by omega)
        rw [hb.cell (p := ⟨b, off + i, none⟩) (lt_of_cell hci), hci]
        have hzi : i < zs.length := by omega
        have := hbd zs[i] (List.getElem_mem hzi)
        simp [List.getD_eq_getElem?_getD, hzi, hi]
        omega
theorem eqlV (l : List Nat) (h : l.length = 32) (w : World) : (binOp .eql 24 (.agg (bytesV l)) (.agg (bytesV l))).run Tryd.prog w = .ok (.bool true) w := by
  have e : bytesV l = ((l.map fun x : Nat => (x : Int)).map (Value.int .u8)).toArray := by simp [bytesV]
  rw [e]
  exact eql_h32 _ (by simpa using h) w

end Go.Proofs.YtihljbephlpgcaaDoor
