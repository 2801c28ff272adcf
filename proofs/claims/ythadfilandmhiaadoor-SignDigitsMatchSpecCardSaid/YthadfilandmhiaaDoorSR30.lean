/-
  Contracts of gantry/gantryref02: Sum.
-/
import Derived.Test.YthadfilandmhiaaDoorSR18
import Derived.Test.YthadfilandmhiaaDoorSR22
import Derived.Test.YthadfilandmhiaaDoorSR19
import Derived.Laws.Slices
set_option linter.unusedVariables false
set_option linter.unusedSimpArgs false
set_option linter.unusedSectionVars false
namespace Go.Proofs.YthadfilandmhiaaDoor
open Go.RowKit
open Go.Lib (hid)
open S
theorem bn_app {a b : List Nat} (ha : Bn a) (hb : Bn b) : Bn (a ++ b) := fun x hx => (List.mem_append.1 hx).elim (ha x) (hb x)
/-- While the bytes are written. -/
def FinRow (w wx : World) (st : St) (i : Nat) (wr : World) : Prop :=
  Below w.heap.size w wr ∧ Res32 w wr ∧ wr.heap[w.heap.size + 1]? = some (.cells (wordsV st.list) 76 (0, 0)) ∧ wr.rowIs wx.heap.size 84 32 (fun p => if p < i then .int .u8 ((bytes32 st).getD p 0 : Nat) else .int .u8 0)
theorem FinRow.start {w wx : World} {st : St} (h1 : Below w.heap.size w wx) (h2 : Res32 w wx) (h3 : wx.heap[w.heap.size + 1]? = some (.cells (wordsV st.list) 76 (0, 0))) (Z : Array Value) (hZ : Z = Array.replicate 32 (.int .u8 0)) : FinRow w wx st 0 (wx.alloc (.cells Z 84)) := by
  have hz : Z.size = 32 := by rw [hZ, Array.size_replicate]
  have hb : Below wx.heap.size wx (wx.alloc (.cells Z 84)) := (Below.refl _ _).alloc (Nat.le_refl _) _
  have hr := World.rowIs_alloc wx Z 84 (fun _ => .int .u8 0) (lits_at _ hZ)
  rw [hz] at hr
  exact ⟨further h1 hb, h2.keep hb, stays hb h3, hr.congr fun p _ => by rw [if_neg (by omega)]⟩
theorem FinRow.done {w wx wr : World} {st : St} (h : FinRow w wx st 32 wr) : wr.heap[wx.heap.size]? = some (.cells (bytesV (bytes32 st)) 84 (0, 0)) := by
  obtain ⟨_, _, _, c, h1, h2, h3⟩ := h
  have : c = bytesV (bytes32 st) := bytes_of (h2.trans (bytes32_length st).symm) (fun i hi => by
    rw [bytes32_length] at hi
    exact (h3 i hi).trans (congrArg some (if_pos hi)))
  rw [← this]
  exact h1
theorem t6 : Turn 6 6 := by unfold Turn; omega
theorem t2 : Turn 2 2 := by unfold Turn; omega
end Go.Proofs.YthadfilandmhiaaDoor
