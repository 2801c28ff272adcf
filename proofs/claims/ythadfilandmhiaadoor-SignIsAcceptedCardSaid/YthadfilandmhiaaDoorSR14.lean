/-
  Arrays by value, the words of a block, one by one.
-/
import Derived.Test.YthadfilandmhiaaDoorSR13
import Derived.Deep.OwnRows
import Derived.Laws.Rows
import Derived.Laws.Tables
import Derived.Below
import Derived.Deep.Draws
set_option linter.unusedVariables false
set_option linter.unusedSimpArgs false
set_option linter.unusedSectionVars false
namespace Go.Proofs.YthadfilandmhiaaDoor
open Go.RowKit
open Go.Lib (hid)
open S
def bytesV (l : List Nat) : Array Value := (l.map fun x : Nat => Value.int .u8 (x : Int)).toArray
def wordsV (l : List Nat) : Array Value := (l.map fun x : Nat => Value.int .u32 (x : Int)).toArray
theorem bytesV_size (l : List Nat) : (bytesV l).size = l.length := by simp [bytesV]
theorem wordsV_size (l : List Nat) : (wordsV l).size = l.length := by simp [wordsV]
theorem bytesV_at (l : List Nat) (i : Nat) (h : i < l.length) : (bytesV l)[i]? = some (.int .u8 (l.getD i 0 : Nat)) := by
  simp [bytesV, h]
theorem wordsV_at (l : List Nat) (i : Nat) (h : i < l.length) : (wordsV l)[i]? = some (.int .u32 (l.getD i 0 : Nat)) := by
  simp [wordsV, h]

/-- An element of an array by value. -/
theorem run_index_row {P : Program} (t e n : Nat) (d : TypeDesc) (cs : Array Value) (i : Nat) (v : Value) (h : P.underlying t = some (.array n e)) (he : P.underlying e = some d)
    (hd : (match d with | .struct _ | .array _ _ => true | _ => false) = false) (hs : (P.info? e).map (·.size) = some 1) (hi : i < n) (hv : cs[i]? = some v) (w : World) :
    (Instr.index t (.agg cs) (.int .i64 (i : Int))).run P w = .ok v w := by
  have hagg : (isAgg e).run P w = .ok false w := by
    unfold isAgg
    rw [Sem.run_bind, run_underlying he w]
    cases d <;> simp_all
  cases hq : P.info? e with
  | none => simp [hq] at hs
  | some inf =>
    have hs1 : inf.size = 1 := by simpa [hq] using hs
    simp [Instr.index, run_underlying h, asIntOf, go_sem, hi, part, Sem.run_bind, hagg, sizeOf, typeInfo, hq, hs1, hv]

/-- The words of the first k bytes. -/
theorem word_take (b : List Nat) (k : Nat) (hk : k < b.length) (j : Nat) : word (b.take (k + 1)) j = if j = k / 4 then word (b.take k) j * 256 + b.getD k 0 else word (b.take k) j := by
  unfold word
  have e1 : b.take (k + 1) = b.take k ++ [b.getD k 0] := by
    rw [List.take_succ_eq_append_getElem hk, List.getD_eq_getElem?_getD, List.getElem?_eq_getElem hk]; rfl
  have hl : (b.take k).length = k := by simp; omega
  by_cases h : j = k / 4
  · subst h
    rw [if_pos rfl, ← num_snoc]
    congr 1
    rw [e1, List.drop_append_of_le_length (by omega), List.take_append]
    have h2 : ((b.take k).drop (4 * (k / 4))).length = k - 4 * (k / 4) := by simp; omega
    rw [List.take_of_length_le (l := (b.take k).drop (4 * (k / 4))) (by omega), List.take_of_length_le (l := [b.getD k 0]) (by simp only [List.length_singleton]; omega)]
  · rw [if_neg h]
    congr 1
    rw [e1]
    by_cases hlt : k < 4 * j
    · rw [List.drop_eq_nil_of_le (by simp; omega), List.drop_eq_nil_of_le (by omega)]
    · rw [List.drop_append_of_le_length (by omega), List.take_append_of_le_length (by simp; omega)]

theorem word_part (b : List Nat) (hb : Bn b) (k : Nat) : word (b.take k) (k / 4) < 16777216 := by
  have h1 : Bn (((b.take k).drop (4 * (k / 4))).take 4) := fun x hx => hb x (List.mem_of_mem_take (List.mem_of_mem_drop (List.mem_of_mem_take hx)))
  have h2 := num_lt _ h1
  have h3 : (((b.take k).drop (4 * (k / 4))).take 4).length ≤ 3 := by simp; omega
  have h4 : 256 ^ (((b.take k).drop (4 * (k / 4))).take 4).length ≤ 256 ^ 3 := Nat.pow_le_pow_right (by decide) h3
  unfold word
  omega

theorem or_shift (x c : Nat) (hx : x < 16777216) (hc : c < 256) : bits .or .u32 ((x : Int) * 256) (c : Int) = ((x * 256 + c : Nat) : Int) := by
  have e : (x : Int) * 256 = ((x * 256 : Nat) : Int) := by omega
  rw [e, u32_or_nat _ _ (by omega) (by omega)]
  have h := Nat.two_pow_add_eq_or_of_lt (i := 8) (b := c) (by omega) x
  rw [show x * 256 = 2 ^ 8 * x by omega, ← h]
end Go.Proofs.YthadfilandmhiaaDoor
