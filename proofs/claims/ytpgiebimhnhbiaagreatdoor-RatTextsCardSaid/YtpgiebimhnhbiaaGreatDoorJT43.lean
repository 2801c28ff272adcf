/-
  Plain: the decimal texts of integers.
-/
import Derived.Test.YtpgiebimhnhbiaaGreatDoorJT32
import Derived.Lib.ItoaMem
set_option linter.unusedVariables false
set_option linter.unusedSimpArgs false
set_option linter.unusedSectionVars false
namespace Go.Proofs.YtpgiebimhnhbiaaGreatDoor
open Dg Zn
namespace Tx
open Lib
theorem dg_byte {d : Nat} (h : d < 10) : (UInt8.ofNat (48 + d)).toNat = 48 + d := by
 rw [UInt8.toNat_ofNat']
 omega
theorem dg_isD {d : Nat} (h : d < 10) : isD (UInt8.ofNat (48 + d)) = true := by
 unfold isD
 rw [dg_byte h, Bool.and_eq_true, decide_eq_true_eq, decide_eq_true_eq]
 omega
theorem valD_snoc (l : List UInt8) (b : UInt8) : valD (l ++ [b]) = valD l * 10 + (b.toNat - 48) := by
 rw [valD_append]
 simp [valD, valF]
def dcm (u : Nat) : List UInt8 := if _h : u = 0 then [] else dcm (u / 10) ++ [UInt8.ofNat (48 + u % 10)]
termination_by u
decreasing_by omega
theorem dcm_zero : dcm 0 = [] := by rw [dcm, dif_pos rfl]
theorem dcm_pos {u : Nat} (h : u ≠ 0) : dcm u = dcm (u / 10) ++ [UInt8.ofNat (48 + u % 10)] := by
 rw [dcm]
 exact dif_neg h
theorem dcm_dec : ∀ u : Nat, u ≠ 0 → decDigits u = dcm u := by
 intro u
 induction u using Nat.strongRecOn with
 | ind u ih =>
  intro h
  rw [dcm_pos h, decDigits]
  split
  ·rename_i h1
   rw [show u / 10 = 0 by omega, dcm_zero, show u % 10 = u by omega]
   rfl
  ·rw [ih (u / 10) (by omega) (by omega)]
theorem dcm_isD : ∀ u : Nat, (dcm u).all isD = true := by
 intro u
 induction u using Nat.strongRecOn with
 | ind u ih =>
  by_cases h : u = 0
  ·subst h; rw [dcm_zero]; rfl
  ·rw [dcm_pos h, List.all_append, ih (u / 10) (by omega)]
   rw [List.all_cons, dg_isD (Nat.mod_lt u (by decide))]
   rfl
theorem dcm_val : ∀ u : Nat, valD (dcm u) = u := by
 intro u
 induction u using Nat.strongRecOn with
 | ind u ih =>
  by_cases h : u = 0
  ·subst h; rw [dcm_zero]; rfl
  ·rw [dcm_pos h, valD_snoc, ih (u / 10) (by omega), dg_byte (Nat.mod_lt u (by decide))]
   omega
theorem dcm_ne {u : Nat} (h : u ≠ 0) : dcm u ≠ [] := by
 rw [dcm_pos h]
 simp
theorem dcm_head : ∀ u : Nat, u ≠ 0 → (dcm u).getD 0 0 ≠ 48 := by
 intro u
 induction u using Nat.strongRecOn with
 | ind u ih =>
  intro h
  rw [dcm_pos h]
  by_cases h1 : u / 10 = 0
  ·rw [h1, dcm_zero]
   intro e
   have := congrArg UInt8.toNat e
   simp only [List.nil_append, List.getD_cons_zero] at this
   rw [dg_byte (Nat.mod_lt u (by decide))] at this
   have h48 : (48 : UInt8).toNat = 48 := rfl
   omega
  ·have := ih (u / 10) (by omega) h1
   rw [List.getD_eq_getElem?_getD, List.getElem?_append_left (List.length_pos_iff.2 (dcm_ne h1)), ← List.getD_eq_getElem?_getD]
   exact this
theorem dcm_length : ∀ (k u : Nat), u < 10 ^ k → (dcm u).length ≤ k := by
 intro k
 induction k with
 | zero => intro u h; obtain rfl : u = 0 := (by simpa using h); rw [dcm_zero]; exact Nat.le_refl _
 | succ k ih =>
  intro u h
  by_cases h0 : u = 0
  ·subst h0; rw [dcm_zero]; exact Nat.zero_le _
  ·rw [dcm_pos h0, List.length_append]
   have := ih (u / 10) (by rw [Nat.pow_succ] at h; omega)
   simp only [List.length_cons, List.length_nil]
   omega
theorem dcm_length_ge : ∀ (k u : Nat), 10 ^ k ≤ u → k < (dcm u).length := by
 intro k
 induction k with
 | zero => intro u h; exact List.length_pos_iff.2 (dcm_ne (by omega))
 | succ k ih =>
  intro u h
  have h0 : u ≠ 0 := by have := Nat.pow_pos (n := k + 1) (show 0 < 10 by decide); omega
  rw [dcm_pos h0, List.length_append]
  have := ih (u / 10) (by rw [Nat.pow_succ] at h; omega)
  simp only [List.length_cons, List.length_nil]
  omega
theorem valD_inj : ∀ (n : Nat) (l m : List UInt8), l.length = n → m.length = n → l.all isD = true → m.all isD = true → valD l = valD m → l = m := by
 intro n
 induction n with
 | zero => intro l m h1 h2 _ _ _; rw [List.eq_nil_of_length_eq_zero h1, List.eq_nil_of_length_eq_zero h2]
 | succ n ih =>
  intro l m h1 h2 h3 h4 h5
  rcases List.eq_nil_or_concat l with e | ⟨l', b, e⟩
  ·rw [e] at h1; cases h1
  rcases List.eq_nil_or_concat m with e' | ⟨m', c, e'⟩
  ·rw [e'] at h2; cases h2
  rw [List.concat_eq_append] at e e'
  subst e e'
  rw [List.length_append] at h1 h2
  rw [List.all_append, Bool.and_eq_true] at h3 h4
  rw [valD_snoc, valD_snoc] at h5
  have hb : isD b = true := by have := h3.2; simpa using this
  have hc : isD c = true := by have := h4.2; simpa using this
  unfold isD at hb hc
  rw [Bool.and_eq_true, decide_eq_true_eq, decide_eq_true_eq] at hb hc
  have e1 := ih l' m' (by simpa using h1) (by simpa using h2) h3.1 h4.1 (by omega)
  have e2 : b = c := UInt8.toNat_inj.1 (by omega)
  rw [e1, e2]
def pad9 (l : List UInt8) : List UInt8 := List.replicate (9 - l.length) 48 ++ l
theorem valF_zeros (n : Nat) (l : List UInt8) : valD (List.replicate n 48 ++ l) = valD l := by
 rw [valD_append]
 have : ∀ n, valD (List.replicate n 48) = 0 := by
  intro n
  induction n with
  | zero => rfl
  | succ n ih => rw [List.replicate_succ', valD_snoc, ih]; rfl
 rw [this]
 omega
theorem pad9_length {l : List UInt8} (h : l.length ≤ 9) : (pad9 l).length = 9 := by
 unfold pad9
 rw [List.length_append, List.length_replicate]
 omega
theorem pad9_isD {l : List UInt8} (h : l.all isD = true) : (pad9 l).all isD = true := by
 unfold pad9
 rw [List.all_append, h, Bool.and_true, List.all_eq_true]
 intro x hx
 rw [(List.mem_replicate.1 hx).2]
 decide
theorem itoa_drop {d : Nat} (h : d < 1000000000) : (itoa (1000000000 + (d : Int))).drop 1 = pad9 (dcm d) := by
 have e : (1000000000 + (d : Int)) = ((1000000000 + d : Nat) : Int) := by omega
 rw [e, itoa_nonneg, dcm_dec _ (by omega)]
 have l1 := dcm_length 10 (1000000000 + d) (by omega)
 have l2 := dcm_length_ge 9 (1000000000 + d) (by omega)
 have hlen : (dcm (1000000000 + d)).length = 10 := by omega
 have hD := dcm_isD (1000000000 + d)
 have hv := dcm_val (1000000000 + d)
 match hm : dcm (1000000000 + d) with
 | [] => rw [hm] at hlen; cases hlen
 | b :: l =>
  rw [hm] at hlen hD hv
  rw [List.all_cons, Bool.and_eq_true] at hD
  have hl : l.length = 9 := by simpa using hlen
  have hb := hD.1
  unfold isD at hb
  rw [Bool.and_eq_true, decide_eq_true_eq, decide_eq_true_eq] at hb
  have hv2 : valD (b :: l) = (b.toNat - 48) * 1000000000 + valD l := by
   show valF (0 * 10 + (b.toNat - 48)) l = _
   rw [valF_add, hl]
   omega
  have hlt := valD_lt l hD.2
  rw [hl] at hlt
  rw [hv2] at hv
  refine valD_inj 9 _ _ hl (pad9_length (dcm_length 9 d (by omega))) hD.2 (pad9_isD (dcm_isD d)) ?_
  show valD l = _
  unfold pad9
  rw [valF_zeros, dcm_val]
  have : (10 : Nat) ^ 9 = 1000000000 := by decide
  omega

def topV (ds : List Nat) : Nat → Nat
 | 0 => ds.getD (ds.length - 1) 0
 | i + 1 => topV ds i * 1000000000 + ds.getD (ds.length - 2 - i) 0
theorem getD_lt {ds : List Nat} (hd : Dig ds) (i : Nat) : ds.getD i 0 < 1000000000 := by
 by_cases h : i < ds.length
 ·rw [List.getD_eq_getElem?_getD, List.getElem?_eq_getElem h]
  exact hd _ (List.getElem_mem h)
 ·rw [List.getD_eq_getElem?_getD, List.getElem?_eq_none (by omega)]
  decide
theorem txtN_val {ds : List Nat} (hd : Dig ds) (h0 : ds.getD (ds.length - 1) 0 ≠ 0) : ∀ i, (txtN ds i).all isD = true ∧ valD (txtN ds i) = topV ds i ∧ txtN ds i ≠ [] ∧ (txtN ds i).getD 0 0 ≠ 48
 | 0 => by
  have e : txtN ds 0 = dcm (ds.getD (ds.length - 1) 0) := by
   unfold txtN
   rw [itoa_nonneg, dcm_dec _ h0]
  rw [e]
  exact ⟨dcm_isD _, dcm_val _, dcm_ne h0, dcm_head _ h0⟩
 | i + 1 => by
  obtain ⟨h1, h2, h3, h4⟩ := txtN_val hd h0 i
  have hlt := getD_lt hd (ds.length - 2 - i)
  rw [txtN, itoa_drop hlt]
  have hl := pad9_length (dcm_length 9 _ (show ds.getD (ds.length - 2 - i) 0 < 10 ^ 9 by omega))
  refine ⟨by rw [List.all_append, h1, pad9_isD (dcm_isD _)]; rfl, ?_, by simp [h3], ?_⟩
  ·rw [valD_append, hl, h2]
   unfold pad9
   rw [valF_zeros, dcm_val]
   rfl
  ·rw [List.getD_eq_getElem?_getD, List.getElem?_append_left (List.length_pos_iff.2 h3), ← List.getD_eq_getElem?_getD]
   exact h4
theorem topV_val (ds : List Nat) : ∀ i, i < ds.length → topV ds i = Dg.val (ds.drop (ds.length - 1 - i))
 | 0, h => by
  rw [topV, Nat.sub_zero, List.drop_eq_getElem_cons (by omega)]
  rw [List.getD_eq_getElem?_getD, List.getElem?_eq_getElem (by omega)]
  rw [show ds.drop (ds.length - 1 + 1) = [] by rw [List.drop_eq_nil_iff]; omega]
  simp [Dg.val]
 | i + 1, h => by
  rw [topV, topV_val ds i (by omega), show ds.length - 1 - (i + 1) = ds.length - 2 - i by omega]
  rw [List.drop_eq_getElem_cons (i := ds.length - 2 - i) (by omega), show ds.length - 2 - i + 1 = ds.length - 1 - i by omega]
  rw [List.getD_eq_getElem?_getD, List.getElem?_eq_getElem (by omega)]
  simp only [Dg.val, Option.getD_some]
  omega

theorem txt_num {m : Nat} (h : 0 < m) : (txtN (dig m) ((dig m).length - 1)).all isD = true ∧ valD (txtN (dig m) ((dig m).length - 1)) = m ∧ txtN (dig m) ((dig m).length - 1) ≠ [] ∧ (txtN (dig m) ((dig m).length - 1)).getD 0 0 ≠ 48 := by
 have hl : 0 < (dig m).length := List.length_pos_iff.2 fun e => by have := dig_eq_nil.1 e; omega
 obtain ⟨h1, h2, h3, h4⟩ := txtN_val (dig_Dig m) (dig_last h) ((dig m).length - 1)
 refine ⟨h1, ?_, h3, h4⟩
 rw [h2, topV_val _ _ (by omega), Nat.sub_self, List.drop_zero]
 exact val_dig m
end Tx
end Go.Proofs.YtpgiebimhnhbiaaGreatDoor
