/-
  gantry/hash.Begin.
-/
import Derived.Test.YthadfilandmhiaaDoorSR15
import Derived.Deep.MidRow
set_option linter.unusedVariables false
set_option linter.unusedSimpArgs false
set_option linter.unusedSectionVars false
namespace Go.Proofs.YthadfilandmhiaaDoor
open Go.RowKit
open Go.Lib (hid)
open S
/-- A stream's cells: the hash value, the block, the length. -/
def strL (v blk : List Nat) (len : Nat) : List Value := v.map (fun x : Nat => Value.int .u32 (x : Int)) ++ (blk.map (fun x : Nat => Value.int .u8 (x : Int)) ++ [Value.int .u64 (len : Int)])
/-- The block of a message: the bytes behind the last full block, then zeros. -/
def blkOf (m : List Nat) : List Nat := m.drop (64 * (m.length / 64)) ++ List.replicate (64 - m.length % 64) 0
/-- The stream of a message. -/
def streamL (m : List Nat) : List Value := strL (after m (m.length / 64)).list (blkOf m) m.length
def streamV (m : List Nat) : Value := .agg (streamL m).toArray

theorem Tryd.size_s73 : (Tryd.prog.info? 80).map (·.size) = some 73 := by kernel_rfl

theorem Tryd.under_s : ∃ d, Tryd.prog.underlying 80 = some d ∧ d.isRow = true :=
  Option.map_eq_some_iff.1 (show (Tryd.prog.underlying 80).map TypeDesc.isRow = some true by kernel_rfl)
theorem zero_stream (w : World) : (zeroValue 80).run Tryd.prog w = .ok (.agg (strL (List.replicate 8 0) (List.replicate 64 0) 0).toArray) w := by kernel_rfl
theorem build_iv : Tryd.prog.built 80 [(0, .agg (wordsV iv.list))] = some (streamL []).toArray := by kernel_rfl
theorem strL_one (v blk : List Nat) (len : Nat) : ∀ x ∈ strL v blk len, x.oneCell' = true := by
  intro x hx
  simp only [strL, List.mem_append, List.mem_map, List.mem_singleton] at hx
  rcases hx with ⟨_, _, rfl⟩ | ⟨_, _, rfl⟩ | rfl <;> rfl
theorem strL_all (v blk : List Nat) (len : Nat) : (strL v blk len).toArray.all (·.oneCell') = true := by
  rw [Array.all_eq_true_iff_forall_mem]
  intro x hx
  exact strL_one v blk len x (by simpa using hx)
theorem strL_length (v blk : List Nat) (len : Nat) (h1 : v.length = 8) (h2 : blk.length = 64) : (strL v blk len).length = 73 := by
  simp [strL, h1, h2]

theorem wpList_build_is {P : Program} {ops : Array Oper} {rest : List Oper} {o : Oper} {a : Act} {w : World} {Q : Exit → Act → World → Prop} (hg : o.guard = none) (t : TypeId) (parts : Array (Nat × Operand)) (ho : o.op = .build t parts)
    (cs : Array Value) (hb : P.built t (parts.map fun (i, x) => (i, a.eval x)).toList = some cs)
    (h : wpList P ops Q rest (a.put o.dst (.agg cs)) w) : wpList P ops Q (o :: rest) a w :=
  wpList_build hg t parts ho (by rw [hb]; rfl) (by rw [hb]; exact h)

set_option maxRecDepth 100000 in
set_option maxHeartbeats 1600000 in
theorem Begin_any (w : World) : Calls Tryd.prog 52 #[] w fun e w' => e = .returned (streamV []) ∧ Below w.heap.size w w' := by
  have hz := zero_stream
  obtain ⟨Z, hZ⟩ : ∃ Z, Z = (strL (List.replicate 8 0) (List.replicate 64 0) 0).toArray := ⟨_, rfl⟩
  have HZ := hid (show Z.size = 73 by rw [hZ, List.size_toArray]; exact strL_length _ _ _ rfl rfl)
  rw [← hZ] at hz
  have hb := build_iv
  obtain ⟨S0, hS⟩ : ∃ S0, S0 = (streamL []).toArray := ⟨_, rfl⟩
  have HS := hid hS
  have HS1 := hid (show S0.size = 73 by rw [hS, List.size_toArray]; exact strL_length _ _ _ rfl rfl)
  have HS2 := hid (show S0.all (·.oneCell') = true by rw [hS]; exact strL_all _ _ _)
  rw [← hS] at hb
  have HB := hid hb
  clear hZ hS hb
  go_enter Tryd.func52, Tryd.ntmps52
  go_wp2_with (first | (with_reducible refine wpList_build_is rfl 80 #[(0, .tmp 1)] rfl S0 ?cb ?_) | (with_reducible refine wpList_store_row rfl 80 (.tmp 0) (.tmp 2) rfl w.heap.size S0 rfl rfl 80 Z ?c0 ?c1 ?c2 ?c3 ?_))
  case cb => exact HB.out
  case c0 => exact heap_alloc_new w _
  case c1 => rw [HS1.out]; exact Tryd.size_s73
  case c2 => rw [HZ.out, HS1.out]
  case c3 => exact HS2.out
  obtain ⟨d, hd1, hd2⟩ := Tryd.under_s
  refine bodyPost_ret (results_cell_row rfl _ _ w.heap.size 80 S0 (0, 0) _ rfl (setRow_heap _ _ Z _ _ _ (heap_alloc_new w _)) hd1 (by cases d <;> first | rfl | cases hd2) (by rw [HS1.out]; exact Tryd.size_s73)) rfl ?_
  exact ⟨by rw [HS.out]; rfl, below_setRow ((Below.refl _ _).alloc (Nat.le_refl _) _) (Nat.le_refl _) _⟩
end Go.Proofs.YthadfilandmhiaaDoor
