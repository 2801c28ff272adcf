/-
  Plain: texts of decimal digits.
-/
import Derived.Test.YtpgiebimhnhbiaaGreatDoorJT30
import Derived.Lib.Atoi
set_option linter.unusedVariables false
set_option linter.unusedSimpArgs false
set_option linter.unusedSectionVars false
namespace Go.Proofs.YtpgiebimhnhbiaaGreatDoor
open Dg Zn
namespace Tx
def isD (b : UInt8) : Bool := decide (48 ≤ b.toNat) && decide (b.toNat ≤ 57)
def numB (l : List UInt8) : Bool := l.all isD && (l == [48] || (l != [] && l.getD 0 0 != 48))
def valF (a : Nat) (l : List UInt8) : Nat := l.foldl (fun a b => a * 10 + (b.toNat - 48)) a
def valD (l : List UInt8) : Nat := valF 0 l
theorem valF_add (l : List UInt8) : ∀ a, valF a l = a * 10 ^ l.length + valD l := by
 induction l with
 | nil => intro a; simp [valF, valD]
 | cons b l ih =>
  intro a
  show valF (a * 10 + (b.toNat - 48)) l = _ + valF (0 * 10 + (b.toNat - 48)) l
  rw [ih, ih (0 * 10 + (b.toNat - 48)), List.length_cons, Nat.pow_succ, Nat.zero_mul, Nat.zero_add, Nat.add_mul]
  grind
theorem valD_append (l m : List UInt8) : valD (l ++ m) = valD l * 10 ^ m.length + valD m := by
 show valF 0 (l ++ m) = _
 rw [valF, List.foldl_append]
 exact valF_add m _
theorem valD_lt (l : List UInt8) (h : l.all isD = true) : valD l < 10 ^ l.length := by
 induction l with
 | nil => decide
 | cons b l ih =>
  rw [List.all_cons, Bool.and_eq_true] at h
  show valF (0 * 10 + (b.toNat - 48)) l < _
  rw [valF_add, List.length_cons, Nat.pow_succ, Nat.zero_mul, Nat.zero_add]
  have h1 := ih h.2
  have h2 : b.toNat - 48 ≤ 9 := by
   have := h.1
   unfold isD at this
   rw [Bool.and_eq_true, decide_eq_true_eq, decide_eq_true_eq] at this
   omega
  have h3 : (b.toNat - 48) * 10 ^ l.length ≤ 9 * 10 ^ l.length := Nat.mul_le_mul_right _ h2
  omega
theorem decFrom_val (l : List UInt8) (h : l.all isD = true) : ∀ a, Lib.decFrom a l = some (valF a l) := by
 induction l with
 | nil => intro a; rfl
 | cons b l ih =>
  intro a
  rw [List.all_cons, Bool.and_eq_true] at h
  have hb := h.1
  unfold isD at hb
  rw [Bool.and_eq_true, decide_eq_true_eq, decide_eq_true_eq] at hb
  unfold Lib.decFrom
  rw [show Lib.digitVal b = some (b.toNat - 48) by unfold Lib.digitVal; rw [if_pos hb]]
  exact ih h.2 _
theorem atoi_val (l : List UInt8) (h : l.all isD = true) (hn : l ≠ []) : Lib.atoi l = some ((valD l : Nat) : Int) := by
 match l, hn, h with
 | b :: r, _, h =>
  have hb := h
  rw [List.all_cons, Bool.and_eq_true] at hb
  have hb := hb.1
  unfold isD at hb
  rw [Bool.and_eq_true, decide_eq_true_eq, decide_eq_true_eq] at hb
  have h1 : (b == 45) = false := by rw [beq_eq_false_iff_ne]; rintro rfl; revert hb; decide
  have h2 : (b == 43) = false := by rw [beq_eq_false_iff_ne]; rintro rfl; revert hb; decide
  show (if (b == 45) = true then _ else if (b == 43) = true then _ else (Lib.decNat (b :: r)).map fun (m : Nat) => (m : Int)) = _
  rw [h1, h2, if_neg (by simp), if_neg (by simp)]
  unfold Lib.decNat
  rw [show (b :: r).isEmpty = false from rfl, if_neg (by simp), decFrom_val _ h]
  rfl

def chunks (l : List UInt8) : List Nat := if h : l = [] then [] else valD (l.drop (l.length - 9)) :: chunks (l.take (l.length - 9))
termination_by l.length
decreasing_by
 rw [List.length_take]
 have : 0 < l.length := List.length_pos_iff.2 h
 omega
theorem chunks_nil : chunks [] = [] := by unfold chunks; simp
theorem chunks_cons {l : List UInt8} (h : l ≠ []) : chunks l = valD (l.drop (l.length - 9)) :: chunks (l.take (l.length - 9)) := by
 rw [chunks, dif_neg h]
theorem chunks_len : ∀ (k : Nat) (l : List UInt8), l.length ≤ 9 * k → (chunks l).length ≤ k
 | 0, l, h => by obtain rfl := List.eq_nil_of_length_eq_zero (show l.length = 0 by omega); rw [chunks_nil]; exact Nat.le_refl _
 | k + 1, l, h => by
  by_cases hn : l = []
  ·subst hn; rw [chunks_nil]; simp
  ·rw [chunks_cons hn, List.length_cons]
   have := chunks_len k (l.take (l.length - 9)) (by rw [List.length_take]; omega)
   omega
theorem chunks_Dig : ∀ (k : Nat) (l : List UInt8), l.length ≤ 9 * k → l.all isD = true → Dig (chunks l)
 | 0, l, h, _ => by obtain rfl := List.eq_nil_of_length_eq_zero (show l.length = 0 by omega); rw [chunks_nil]; intro d hd; cases hd
 | k + 1, l, h, hd => by
  by_cases hn : l = []
  ·subst hn; rw [chunks_nil]; intro d hd; cases hd
  ·rw [chunks_cons hn]
   intro d hm
   have hs : ∀ m : List UInt8, (∀ x ∈ m, x ∈ l) → m.all isD = true := fun m hm => List.all_eq_true.2 fun x hx => List.all_eq_true.1 hd x (hm x hx)
   rcases List.mem_cons.1 hm with e | e
   ·have h1 := valD_lt (l.drop (l.length - 9)) (hs _ fun x hx => List.mem_of_mem_drop hx)
    have h2 : (l.drop (l.length - 9)).length ≤ 9 := by rw [List.length_drop]; omega
    have h3 : 10 ^ (l.drop (l.length - 9)).length ≤ 10 ^ 9 := Nat.pow_le_pow_right (by decide) h2
    rw [e]
    exact Nat.lt_of_lt_of_le h1 (Nat.le_trans h3 (by decide))
   ·exact chunks_Dig k (l.take (l.length - 9)) (by rw [List.length_take]; omega) (hs _ fun x hx => List.mem_of_mem_take hx) d e
theorem chunks_val : ∀ (k : Nat) (l : List UInt8), l.length ≤ 9 * k → val (chunks l) = valD l
 | 0, l, h => by obtain rfl := List.eq_nil_of_length_eq_zero (show l.length = 0 by omega); rw [chunks_nil]; rfl
 | k + 1, l, h => by
  by_cases hn : l = []
  ·subst hn; rw [chunks_nil]; rfl
  ·rw [chunks_cons hn]
   show valD (l.drop (l.length - 9)) + 1000000000 * val (chunks (l.take (l.length - 9))) = _
   rw [chunks_val k (l.take (l.length - 9)) (by rw [List.length_take]; omega)]
   have e : valD l = valD (l.take (l.length - 9) ++ l.drop (l.length - 9)) := by rw [List.take_append_drop]
   rw [e, valD_append]
   by_cases h9 : 9 ≤ l.length
   ·rw [show (l.drop (l.length - 9)).length = 9 by rw [List.length_drop]; omega]
    omega
   ·rw [show l.length - 9 = 0 by omega]
    simp [valD, valF]

def parseI (l : List UInt8) : Int × Int :=
 if 65536 < l.length then (0, 4) else
 if (!numB (if l.getD 0 0 == 45 then l.drop 1 else l) || ((l.getD 0 0 == 45) && (if l.getD 0 0 == 45 then l.drop 1 else l) == [48])) = true then (0, 2)
 else (mk (l.getD 0 0 == 45) (valD (if l.getD 0 0 == 45 then l.drop 1 else l)), 0)

def txtI (z : Int) : List UInt8 := if z = 0 then [48] else (if z < 0 then [45] else []) ++ txtN (dig z.natAbs) ((dig z.natAbs).length - 1)
end Tx
end Go.Proofs.YtpgiebimhnhbiaaGreatDoor
