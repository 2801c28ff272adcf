/-
  Equality of arrays of 32 bytes.
-/
import Derived.Test.YtihljbephlpgcaaDoorHashU
import Derived.Laws.StructEq
namespace Go.Proofs.YtihljbephlpgcaaDoor
open Go.RowKit
open Go.Lib (hid)
open S

theorem part_byteN (ds : List Int) (j : Nat) (hj : j < ds.length) (w : World) : (part 5 (ds.map (Value.int .u8)).toArray j).run Tryd.prog w = .ok (.int .u8 ds[j]) w := by
  have h1 : (isAgg 5).run Tryd.prog w = .ok false w := by kernel_rfl
  simp [part, Sem.run_bind, h1, Result.andThen_ok, hj]


theorem eqItems_selfN (ds : List Int) (w : World) : ∀ is : List Nat, (∀ i ∈ is, i < ds.length) → (Op.eqItems (9998 + 1) 5 1 (ds.map (Value.int .u8)).toArray (ds.map (Value.int .u8)).toArray is).run Tryd.prog w = .ok true w
  | [], _ => by simp [Op.eqItems]
  | i :: is, h => by
    have hi := h i (List.mem_cons_self ..)
    have ih := eqItems_selfN ds w is (fun x hx => h x (List.mem_cons_of_mem _ hx))
    simp only [Op.eqItems, Sem.run_bind, Nat.mul_one, part_byteN ds i hi, Result.andThen_ok]
    rw [run_equalIn_int w 9998 _ _ _ _ _ Tryd.under_u8]
    simpa [Result.andThen_ok] using ih
theorem Tryd.under_h32e : Tryd.prog.underlying 24 = some (.array (Tryd.prog.arrayLen 24) (Tryd.prog.elem 24)) := by kernel_rfl
theorem eql_h32 (ds : List Int) (h : ds.length = 32) (w : World) : (binOp .eql 24 (.agg (ds.map (Value.int .u8)).toArray) (.agg (ds.map (Value.int .u8)).toArray)).run Tryd.prog w = .ok (.bool true) w := by
  obtain ⟨i0, hi, _, hz1, _⟩ := info_parts Tryd.info_u8
  have hc : Tryd.prog.cellsOf 5 = 1 := by kernel_rfl
  have e := run_equalIn_array (P := Tryd.prog) w 9999 (ds.map (Value.int .u8)).toArray (ds.map (Value.int .u8)).toArray Tryd.under_h32 hi
  rw [hc, eqItems_selfN ds w (List.range 32) (fun i hi => by rw [h]; exact List.mem_range.1 hi)] at e
  rw [run_eql_struct, e]
  rfl
theorem eqlabc (w : World) : (binOp .eql 24 (.agg #[.int .u8 186, .int .u8 120, .int .u8 22, .int .u8 191, .int .u8 143, .int .u8 1, .int .u8 207, .int .u8 234, .int .u8 65, .int .u8 65, .int .u8 64, .int .u8 222, .int .u8 93, .int .u8 174, .int .u8 34, .int .u8 35, .int .u8 176, .int .u8 3, .int .u8 97, .int .u8 163, .int .u8 150, .int .u8 23, .int .u8 122, .int .u8 156, .int .u8 180, .int .u8 16, .int .u8 255, .int .u8 97, .int .u8 242, .int .u8 0, .int .u8 21, .int .u8 173]) (.agg #[.int .u8 186, .int .u8 120, .int .u8 22, .int .u8 191, .int .u8 143, .int .u8 1, .int .u8 207, .int .u8 234, .int .u8 65, .int .u8 65, .int .u8 64, .int .u8 222, .int .u8 93, .int .u8 174, .int .u8 34, .int .u8 35, .int .u8 176, .int .u8 3, .int .u8 97, .int .u8 163, .int .u8 150, .int .u8 23, .int .u8 122, .int .u8 156, .int .u8 180, .int .u8 16, .int .u8 255, .int .u8 97, .int .u8 242, .int .u8 0, .int .u8 21, .int .u8 173])).run Tryd.prog w = .ok (.bool true) w := eql_h32 [186, 120, 22, 191, 143, 1, 207, 234, 65, 65, 64, 222, 93, 174, 34, 35, 176, 3, 97, 163, 150, 23, 122, 156, 180, 16, 255, 97, 242, 0, 21, 173] rfl w

end Go.Proofs.YtihljbephlpgcaaDoor
