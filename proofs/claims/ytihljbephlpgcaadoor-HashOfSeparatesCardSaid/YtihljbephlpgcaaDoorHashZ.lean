/-
  The bytes of a string, laid in new memory; keys of a code.
-/
import Derived.Test.YtihljbephlpgcaaDoorHashN
import Derived.Lib.ConvBytes
namespace Go.Proofs.YtihljbephlpgcaaDoor
open Go.RowKit
open Go.Lib (hid)
open S

theorem bytesW_below (w : World) (E : TypeId) (s : ByteArray) : Below w.heap.size w (Lib.bytesWorld w E s) :=
  ⟨rfl, rfl, rfl, by rw [Lib.bytesWorld_size]; omega, fun k hk => Lib.bytesWorld_at_old w E s k hk⟩
theorem bytesW_cell (w : World) (E : TypeId) (s : ByteArray) (i : Nat) (h : i < s.size) : (Lib.bytesWorld w E s).cell? ⟨w.heap.size, i, none⟩ = some (.int .u8 ((tx s).getD i 0 : Nat)) := by
  rw [Lib.bytesWorld_cell w E s i h]
  have hl : i < s.data.size := h
  simp [tx, List.getD_eq_getElem?_getD, Array.getElem?_eq_getElem hl]
theorem textOf_bytes (w : World) (s : ByteArray) (c : Nat) : TextOf (Lib.bytesWorld w 5 s) (.slice (some ⟨w.heap.size, 0, none⟩) s.size c) (tx s) := by
  intro w' hb
  refine conv_row w' w.heap.size 0 s.size c (tx s) (tx_length s) fun i hi => ?_
  rw [Nat.zero_add]
  refine (hb.cell (p := ⟨w.heap.size, i, none⟩) ?_).trans (bytesW_cell w 5 s i hi)
  rw [Lib.bytesWorld_size]
  exact Nat.lt_succ_self _

theorem kblk_of (l : List Nat) (h : l.length ≤ 64) : kblk l = l ++ List.replicate (64 - l.length) 0 := by
  have e : Nat.min l.length 64 = l.length := Nat.min_eq_left h
  unfold kblk
  rw [e, List.take_length]
  unfold splice
  rw [List.take_zero, List.nil_append, Nat.zero_add, List.drop_replicate]
theorem kblk_zero (l : List Nat) (h : l.length < 64) : kblk (l ++ [0]) = kblk l := by
  rw [kblk_of _ (by simp; omega), kblk_of l (by omega), List.append_assoc]
  congr 1
  have e : 64 - l.length = (64 - (l ++ [0]).length) + 1 := by simp; omega
  rw [e, List.replicate_succ]
  rfl
theorem macN_zero (l t : List Nat) (h : l.length < 64) : macN (l ++ [0]) t = macN l t := by
  have h1 : ¬ 64 < (l ++ [0]).length := by simp; omega
  have h2 : ¬ 64 < l.length := by omega
  simp only [macN, shortN, h1, h2, if_false, outN, innN, kmask, kblk_zero l h]
theorem macN_sha (l t : List Nat) (h : 64 < l.length) : macN (sha l) t = macN l t := by
  have h1 : ¬ 64 < (sha l).length := by rw [sha_length]; decide
  simp only [macN, shortN, h, h1, if_true, if_false]
theorem macN_length (l t : List Nat) : (macN l t).length = 32 := sha_length _
theorem tx_append (a b : ByteArray) : tx (a ++ b) = tx a ++ tx b := by simp [tx]

end Go.Proofs.YtihljbephlpgcaaDoor
