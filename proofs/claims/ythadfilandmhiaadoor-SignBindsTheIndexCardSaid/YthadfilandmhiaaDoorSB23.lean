/-
  The bytes of a string, laid in new memory; keys of a code.
-/
import Derived.Test.YthadfilandmhiaaDoorSB20
import Derived.Lib.ConvBytes
set_option linter.unusedVariables false
set_option linter.unusedSimpArgs false
set_option linter.unusedSectionVars false
namespace Go.Proofs.YthadfilandmhiaaDoor
open Go.RowKit
open Go.Lib (hid)
open S
theorem bytesW_below (w : World) (E : TypeId) (s : ByteArray) : Below w.heap.size w (Lib.bytesWorld w E s) :=
  ⟨rfl, rfl, rfl, by rw [Lib.bytesWorld_size]; omega, fun k hk => Lib.bytesWorld_at_old w E s k hk⟩
theorem bytesW_cell (w : World) (E : TypeId) (s : ByteArray) (i : Nat) (h : i < s.size) : (Lib.bytesWorld w E s).cell? ⟨w.heap.size, i, none⟩ = some (.int .u8 ((tx s).getD i 0 : Nat)) := by
  rw [Lib.bytesWorld_cell w E s i h]
  have hl : i < s.data.size := h
  simp [tx, List.getD_eq_getElem?_getD, Array.getElem?_eq_getElem hl]
theorem kblk_of (l : List Nat) (h : l.length ≤ 64) : kblk l = l ++ List.replicate (64 - l.length) 0 := by
  have e : Nat.min l.length 64 = l.length := Nat.min_eq_left h
  unfold kblk
  rw [e, List.take_length]
  unfold splice
  rw [List.take_zero, List.nil_append, Nat.zero_add, List.drop_replicate]
theorem macN_length (l t : List Nat) : (macN l t).length = 32 := sha_length _
end Go.Proofs.YthadfilandmhiaaDoor
