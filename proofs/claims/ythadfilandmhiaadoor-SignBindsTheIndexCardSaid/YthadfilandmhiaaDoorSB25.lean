/-
  gantry/hash.Equal.
-/
import Derived.Test.YthadfilandmhiaaDoorSB18
import Derived.Laws.BitsAllLaws
import Derived.Deep.RegionHeld3
set_option linter.unusedVariables false
set_option linter.unusedSimpArgs false
set_option linter.unusedSectionVars false
namespace Go.Proofs.YthadfilandmhiaaDoor
open Go.RowKit
open Go.Lib (hid)
open S
theorem foldl_lt (l : List (Nat × Nat)) (d : Nat) (hd : d < 256) (h : ∀ p ∈ l, p.1 < 256 ∧ p.2 < 256) : l.foldl (fun d p => d ||| (p.1 ^^^ p.2)) d < 256 := by
  induction l generalizing d with
  | nil => exact hd
  | cons p l ih =>
    have hp := h p (List.mem_cons_self ..)
    exact ih _ (Nat.or_lt_two_pow (n := 8) hd (Nat.xor_lt_two_pow (n := 8) hp.1 hp.2)) fun q hq => h q (List.mem_cons_of_mem _ hq)
/-- A byte of a string. -/
theorem tx_index (s : ByteArray) (i : Nat) (h : i < s.size) : s[i].toNat = (tx s).getD i 0 := by
  have : i < (tx s).length := by rw [tx_length]; exact h
  rw [List.getD_eq_getElem?_getD, List.getElem?_eq_getElem this]
  simp [tx]
  rfl

theorem index_str (s : ByteArray) (k : Nat) (h : k < s.size) (w : World) : (Instr.index 9 (.string s) (.int .i64 (k : Int))).run Tryd.prog w = .ok (.int .u8 ((tx s).getD k 0 : Nat)) w := by
  rw [← tx_index s k h]
  rw [run_index_string (P := Tryd.prog) w 9 s .i64 (k : Int) Tryd.under_str, dif_pos ⟨by omega, by omega⟩]
  rfl
end Go.Proofs.YthadfilandmhiaaDoor
