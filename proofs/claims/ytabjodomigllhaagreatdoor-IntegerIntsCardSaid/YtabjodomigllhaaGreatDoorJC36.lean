/-
  Contracts of gantry/rat: products, quotients, signs, comparison, validity; the reference's numbers.
-/
import Derived.Test.YtabjodomigllhaaGreatDoorJC30
import Derived.Test.YtabjodomigllhaaGreatDoorJC35
import Derived.Test.YtabjodomigllhaaGreatDoorJC15
namespace Go.Proofs.YtabjodomigllhaaGreatDoor
open Go.RowKit
open Go.Lib (hid)
open Dg Zn
namespace Vc

theorem cmpI_eq {x y : Int} : (cmpI x y == 0) = decide (x = y) := by
  unfold cmpI
  split
  · simp; omega
  · split <;> simp <;> omega
theorem make_div (p q : Int) : Rat.divInt (p / (Int.gcd p q : Nat)) (q / (Int.gcd p q : Nat)) = Rat.divInt p q := by
  by_cases h : q = 0
  · rw [h, Int.zero_ediv, Rat.divInt_zero, Rat.divInt_zero]
  · exact (make_facts p q h).2
theorem qd_nn (a : Rat) : 0 ≤ qd a ∧ qd a ≠ 1 := by
  unfold qd
  split
  · exact ⟨Int.le_refl _, by decide⟩
  · exact ⟨by omega, by omega⟩

set_option maxRecDepth 100000 in
theorem RMul_con (a b : Rat) (j k : Nat) (hj : j ≤ 10000000) (hk : k ≤ 10000000) : Con Tryz.prog 62 [RT a j, RT b k] (.one (RT (a * b) (3 * (j + k) + 20))) := by
  refine Con.of (n := 44) Tryz.func62 rfl rfl rfl rfl rfl fun cx => ?_
  refine CV.seq ?_
  refine CV.region rfl (fun h => nomatch h) ?_
  refine RV.step2 (OpOk.plain (ok_box (i := 0) rfl rfl (by decide) rfl rfl rfl rfl) rfl) ?_
  refine RV.step2 (OpOk.plain (ok_box (i := 1) rfl rfl (by decide) rfl rfl rfl rfl) rfl) ?_
  refine RV.step2 (OpOk.plain (ok_alloc (i := 2) rfl rfl (by decide) zero_rat rfl rfl rfl) rfl) ?_
  refine RV.done ?_
  refine CV.seq ?_
  refine CV.seq ?_
  refine CV.region rfl (fun h => nomatch h) ?_
  refine RV.step1 (OpOk.plain (ok_load rfl rfl (by decide) rfl rfl rfl ty_rat) rfl) ?_
  refine RV.step1 (OpOk.plain (ok_call (isWhole_con _ _ _) rfl rfl (by decide) Tryz.func128 rfl rfl (.cons rfl Conv.any .nil) rfl) rfl) ?_
  refine RV.step1 (OpOk.plain (ok_move (.inl rfl) rfl (by decide) rfl) rfl) ?_
  refine RV.bool (fun h1 => ?_) (fun h1 => ?_)
  · refine RV.step1 (OpOk.yes (ok_load rfl rfl (by decide) rfl rfl rfl ty_rat) rfl rfl rfl) ?_
    refine RV.step1 (OpOk.yes (ok_call (isWhole_con _ _ _) rfl rfl (by decide) Tryz.func128 rfl rfl (.cons rfl Conv.any .nil) rfl) rfl rfl rfl) ?_
    refine RV.step1 (OpOk.plain (ok_pickT rfl rfl (by decide) rfl rfl rfl) rfl) ?_
    refine RV.done ?_
    refine CV.cond rfl (fun h2 => ?_) (fun h2 => ?_)
    · refine CV.seq ?_
      refine CV.region rfl (fun h => nomatch h) ?_
      refine RV.step1 (OpOk.plain (ok_fieldAddr fa_rat0 rfl rfl (by decide) rfl) rfl) ?_
      refine RV.step1 (OpOk.plain (ok_loadf 0 fld_num rfl rfl (by decide) rfl rfl rfl rfl ty_int) rfl) ?_
      refine RV.step1 (OpOk.plain (ok_fieldAddr fa_rat0 rfl rfl (by decide) rfl) rfl) ?_
      refine RV.step1 (OpOk.plain (ok_loadf 0 fld_num rfl rfl (by decide) rfl rfl rfl rfl ty_int) rfl) ?_
      refine RV.step1 (OpOk.plain (ok_call (Mul_con _ _ (by omega) (by omega)) rfl rfl (by decide) Tryz.func104 rfl rfl (.cons rfl Conv.any (.cons rfl Conv.any .nil)) rfl) rfl) ?_
      refine RV.step1 (OpOk.plain (ok_build1 rfl rfl (by decide) rfl) rfl) ?_
      refine RV.step1 (OpOk.plain (ok_store rfl rfl rfl rfl rfl rfl rfl (ty_rat).2 rfl rfl rfl) rfl) ?_
      refine RV.done ?_
      refine CV.ret ?_
      have ha := qd_zero.1 (by simpa using h1)
      have hb := qd_zero.1 (by simpa using h2)
      obtain ⟨-, -, e1, e2⟩ := int_num_den ha hb
      exact fin1 rfl (.inr rfl) ⟨_, _, _, _, _, rfl, rfl, rfl, ty_rat⟩ (is_rt e1.symm (qd_zero.2 e2).symm (by omega))
    · refine CV.skip ?_
      refine CV.seq ?_
      refine CV.region rfl (fun _ => by kernel_rfl) ?_
      refine RV.step1 (OpOk.plain (ok_fieldAddr fa_rat0 rfl rfl (by decide) rfl) rfl) ?_
      refine RV.step1 (OpOk.plain (ok_loadf 0 fld_num rfl rfl (by decide) rfl rfl rfl rfl ty_int) rfl) ?_
      refine RV.step1 (OpOk.plain (ok_load rfl rfl (by decide) rfl rfl rfl ty_rat) rfl) ?_
      refine RV.step1 (OpOk.plain (ok_call (Den_con' _ _) rfl rfl (by decide) Tryz.func55 rfl rfl (.cons rfl Conv.any .nil) rfl) rfl) ?_
      refine RV.step1 (OpOk.plain (ok_call (cancelled_con _ _ _ _ (by omega) (by omega)) rfl rfl (by decide) Tryz.func131 rfl rfl (.cons rfl Conv.any (.cons rfl Conv.any .nil)) rfl) rfl) ?_
      refine RV.step1 (OpOk.plain (ok_move (.inl rfl) rfl (by decide) rfl) rfl) ?_
      refine RV.step1 (OpOk.plain (ok_extract rfl rfl (by decide) rfl rfl) rfl) ?_
      refine RV.step1 (OpOk.plain (ok_extract rfl rfl (by decide) rfl rfl) rfl) ?_
      refine RV.step2 (OpOk.plain (ok_alloc (i := 3) rfl rfl (by decide) zero_int rfl rfl rfl) rfl) ?_
      refine RV.step2 (OpOk.plain (ok_alloc (i := 4) rfl rfl (by decide) zero_int rfl rfl rfl) rfl) ?_
      refine RV.step1 (OpOk.plain (ok_store rfl rfl rfl rfl rfl rfl rfl (ty_int).2 rfl rfl rfl) rfl) ?_
      refine RV.step1 (OpOk.plain (ok_store rfl rfl rfl rfl rfl rfl rfl (ty_int).2 rfl rfl rfl) rfl) ?_
      refine RV.drawn (by kernel_rfl) ?_
      refine CV.seq ?_
      refine CV.region rfl (fun _ => by kernel_rfl) ?_
      refine RV.step1 (OpOk.plain (ok_fieldAddr fa_rat0 rfl rfl (by decide) rfl) rfl) ?_
      refine RV.step1 (OpOk.plain (ok_loadf 0 fld_num rfl rfl (by decide) rfl rfl rfl rfl ty_int) rfl) ?_
      refine RV.step1 (OpOk.plain (ok_load rfl rfl (by decide) rfl rfl rfl ty_rat) rfl) ?_
      refine RV.step1 (OpOk.plain (ok_call (Den_con' _ _) rfl rfl (by decide) Tryz.func55 rfl rfl (.cons rfl Conv.any .nil) rfl) rfl) ?_
      refine RV.step1 (OpOk.plain (ok_call (cancelled_con _ _ _ _ (by omega) (by omega)) rfl rfl (by decide) Tryz.func131 rfl rfl (.cons rfl Conv.any (.cons rfl Conv.any .nil)) rfl) rfl) ?_
      refine RV.step1 (OpOk.plain (ok_move (.inl rfl) rfl (by decide) rfl) rfl) ?_
      refine RV.step1 (OpOk.plain (ok_extract rfl rfl (by decide) rfl rfl) rfl) ?_
      refine RV.step1 (OpOk.plain (ok_extract rfl rfl (by decide) rfl rfl) rfl) ?_
      refine RV.step2 (OpOk.plain (ok_alloc (i := 5) rfl rfl (by decide) zero_int rfl rfl rfl) rfl) ?_
      refine RV.step2 (OpOk.plain (ok_alloc (i := 6) rfl rfl (by decide) zero_int rfl rfl rfl) rfl) ?_
      refine RV.step1 (OpOk.plain (ok_store rfl rfl rfl rfl rfl rfl rfl (ty_int).2 rfl rfl rfl) rfl) ?_
      refine RV.step1 (OpOk.plain (ok_store rfl rfl rfl rfl rfl rfl rfl (ty_int).2 rfl rfl rfl) rfl) ?_
      refine RV.drawn (by kernel_rfl) ?_
      refine CV.seq ?_
      refine CV.region rfl (fun _ => by kernel_rfl) ?_
      refine RV.step1 (OpOk.plain (ok_load rfl rfl (by decide) rfl rfl rfl ty_int) rfl) ?_
      refine RV.step1 (OpOk.plain (ok_load rfl rfl (by decide) rfl rfl rfl ty_int) rfl) ?_
      refine RV.step1 (OpOk.plain (ok_call (Mul_con _ _ (by omega) (by omega)) rfl rfl (by decide) Tryz.func104 rfl rfl (.cons rfl Conv.any (.cons rfl Conv.any .nil)) rfl) rfl) ?_
      refine RV.step1 (OpOk.plain (ok_load rfl rfl (by decide) rfl rfl rfl ty_int) rfl) ?_
      refine RV.step1 (OpOk.plain (ok_load rfl rfl (by decide) rfl rfl rfl ty_int) rfl) ?_
      refine RV.step1 (OpOk.plain (ok_call (Mul_con _ _ (by omega) (by omega)) rfl rfl (by decide) Tryz.func104 rfl rfl (.cons rfl Conv.any (.cons rfl Conv.any .nil)) rfl) rfl) ?_
      refine RV.step1 (OpOk.plain (ok_call (lowest_con _ _ _ _ (fun _ => (mul_facts a b _ _ _ _ _ _ rfl rfl rfl rfl rfl rfl).1)) rfl rfl (by decide) Tryz.func130 rfl rfl (.cons rfl Conv.any (.cons rfl Conv.any .nil)) rfl) rfl) ?_
      refine RV.step1 (OpOk.plain (ok_store rfl rfl rfl rfl rfl rfl rfl (ty_rat).2 rfl rfl rfl) rfl) ?_
      refine RV.drawn (by kernel_rfl) ?_
      refine CV.ret ?_
      exact fin1 rfl (.inr rfl) ⟨_, _, _, _, _, rfl, rfl, rfl, ty_rat⟩ (is_rt (by rw [(mul_facts a b _ _ _ _ _ _ rfl rfl rfl rfl rfl rfl).2]) (by rw [(mul_facts a b _ _ _ _ _ _ rfl rfl rfl rfl rfl rfl).2]) (by omega))
  · refine RV.step1 (OpOk.skip rfl rfl rfl rfl rfl (by decide)) ?_
    refine RV.step1 (OpOk.skip rfl rfl rfl rfl rfl (by decide)) ?_
    refine RV.step1 (OpOk.plain (ok_pickF rfl rfl (by decide) rfl rfl rfl) rfl) ?_
    refine RV.done ?_
    refine CV.no rfl ?_
    refine CV.skip ?_
    refine CV.seq ?_
    refine CV.region rfl (fun _ => by kernel_rfl) ?_
    refine RV.step1 (OpOk.plain (ok_fieldAddr fa_rat0 rfl rfl (by decide) rfl) rfl) ?_
    refine RV.step1 (OpOk.plain (ok_loadf 0 fld_num rfl rfl (by decide) rfl rfl rfl rfl ty_int) rfl) ?_
    refine RV.step1 (OpOk.plain (ok_load rfl rfl (by decide) rfl rfl rfl ty_rat) rfl) ?_
    refine RV.step1 (OpOk.plain (ok_call (Den_con' _ _) rfl rfl (by decide) Tryz.func55 rfl rfl (.cons rfl Conv.any .nil) rfl) rfl) ?_
    refine RV.step1 (OpOk.plain (ok_call (cancelled_con _ _ _ _ (by omega) (by omega)) rfl rfl (by decide) Tryz.func131 rfl rfl (.cons rfl Conv.any (.cons rfl Conv.any .nil)) rfl) rfl) ?_
    refine RV.step1 (OpOk.plain (ok_move (.inl rfl) rfl (by decide) rfl) rfl) ?_
    refine RV.step1 (OpOk.plain (ok_extract rfl rfl (by decide) rfl rfl) rfl) ?_
    refine RV.step1 (OpOk.plain (ok_extract rfl rfl (by decide) rfl rfl) rfl) ?_
    refine RV.step2 (OpOk.plain (ok_alloc (i := 3) rfl rfl (by decide) zero_int rfl rfl rfl) rfl) ?_
    refine RV.step2 (OpOk.plain (ok_alloc (i := 4) rfl rfl (by decide) zero_int rfl rfl rfl) rfl) ?_
    refine RV.step1 (OpOk.plain (ok_store rfl rfl rfl rfl rfl rfl rfl (ty_int).2 rfl rfl rfl) rfl) ?_
    refine RV.step1 (OpOk.plain (ok_store rfl rfl rfl rfl rfl rfl rfl (ty_int).2 rfl rfl rfl) rfl) ?_
    refine RV.drawn (by kernel_rfl) ?_
    refine CV.seq ?_
    refine CV.region rfl (fun _ => by kernel_rfl) ?_
    refine RV.step1 (OpOk.plain (ok_fieldAddr fa_rat0 rfl rfl (by decide) rfl) rfl) ?_
    refine RV.step1 (OpOk.plain (ok_loadf 0 fld_num rfl rfl (by decide) rfl rfl rfl rfl ty_int) rfl) ?_
    refine RV.step1 (OpOk.plain (ok_load rfl rfl (by decide) rfl rfl rfl ty_rat) rfl) ?_
    refine RV.step1 (OpOk.plain (ok_call (Den_con' _ _) rfl rfl (by decide) Tryz.func55 rfl rfl (.cons rfl Conv.any .nil) rfl) rfl) ?_
    refine RV.step1 (OpOk.plain (ok_call (cancelled_con _ _ _ _ (by omega) (by omega)) rfl rfl (by decide) Tryz.func131 rfl rfl (.cons rfl Conv.any (.cons rfl Conv.any .nil)) rfl) rfl) ?_
    refine RV.step1 (OpOk.plain (ok_move (.inl rfl) rfl (by decide) rfl) rfl) ?_
    refine RV.step1 (OpOk.plain (ok_extract rfl rfl (by decide) rfl rfl) rfl) ?_
    refine RV.step1 (OpOk.plain (ok_extract rfl rfl (by decide) rfl rfl) rfl) ?_
    refine RV.step2 (OpOk.plain (ok_alloc (i := 5) rfl rfl (by decide) zero_int rfl rfl rfl) rfl) ?_
    refine RV.step2 (OpOk.plain (ok_alloc (i := 6) rfl rfl (by decide) zero_int rfl rfl rfl) rfl) ?_
    refine RV.step1 (OpOk.plain (ok_store rfl rfl rfl rfl rfl rfl rfl (ty_int).2 rfl rfl rfl) rfl) ?_
    refine RV.step1 (OpOk.plain (ok_store rfl rfl rfl rfl rfl rfl rfl (ty_int).2 rfl rfl rfl) rfl) ?_
    refine RV.drawn (by kernel_rfl) ?_
    refine CV.seq ?_
    refine CV.region rfl (fun _ => by kernel_rfl) ?_
    refine RV.step1 (OpOk.plain (ok_load rfl rfl (by decide) rfl rfl rfl ty_int) rfl) ?_
    refine RV.step1 (OpOk.plain (ok_load rfl rfl (by decide) rfl rfl rfl ty_int) rfl) ?_
    refine RV.step1 (OpOk.plain (ok_call (Mul_con _ _ (by omega) (by omega)) rfl rfl (by decide) Tryz.func104 rfl rfl (.cons rfl Conv.any (.cons rfl Conv.any .nil)) rfl) rfl) ?_
    refine RV.step1 (OpOk.plain (ok_load rfl rfl (by decide) rfl rfl rfl ty_int) rfl) ?_
    refine RV.step1 (OpOk.plain (ok_load rfl rfl (by decide) rfl rfl rfl ty_int) rfl) ?_
    refine RV.step1 (OpOk.plain (ok_call (Mul_con _ _ (by omega) (by omega)) rfl rfl (by decide) Tryz.func104 rfl rfl (.cons rfl Conv.any (.cons rfl Conv.any .nil)) rfl) rfl) ?_
    refine RV.step1 (OpOk.plain (ok_call (lowest_con _ _ _ _ (fun _ => (mul_facts a b _ _ _ _ _ _ rfl rfl rfl rfl rfl rfl).1)) rfl rfl (by decide) Tryz.func130 rfl rfl (.cons rfl Conv.any (.cons rfl Conv.any .nil)) rfl) rfl) ?_
    refine RV.step1 (OpOk.plain (ok_store rfl rfl rfl rfl rfl rfl rfl (ty_rat).2 rfl rfl rfl) rfl) ?_
    refine RV.drawn (by kernel_rfl) ?_
    refine CV.ret ?_
    exact fin1 rfl (.inr rfl) ⟨_, _, _, _, _, rfl, rfl, rfl, ty_rat⟩ (is_rt (by rw [(mul_facts a b _ _ _ _ _ _ rfl rfl rfl rfl rfl rfl).2]) (by rw [(mul_facts a b _ _ _ _ _ _ rfl rfl rfl rfl rfl rfl).2]) (by omega))
set_option maxRecDepth 100000 in
theorem RNeg_con (a : Rat) (k : Nat) : Con Tryz.prog 66 [RT a k] (.one (RT (-a) k)) := by
  refine Con.of (n := 9) Tryz.func66 rfl rfl rfl rfl rfl fun cx => ?_
  refine CV.seq ?_
  refine CV.region rfl (fun h => nomatch h) ?_
  refine RV.step2 (OpOk.plain (ok_box (i := 0) rfl rfl (by decide) rfl rfl rfl rfl) rfl) ?_
  refine RV.step2 (OpOk.plain (ok_alloc (i := 1) rfl rfl (by decide) zero_rat rfl rfl rfl) rfl) ?_
  refine RV.done ?_
  refine CV.seq ?_
  refine CV.region rfl (fun _ => by kernel_rfl) ?_
  refine RV.step1 (OpOk.plain (ok_fieldAddr fa_rat0 rfl rfl (by decide) rfl) rfl) ?_
  refine RV.step1 (OpOk.plain (ok_loadf 0 fld_num rfl rfl (by decide) rfl rfl rfl rfl ty_int) rfl) ?_
  refine RV.step1 (OpOk.plain (ok_call (Neg_con _) rfl rfl (by decide) Tryz.func135 rfl rfl (.cons rfl Conv.any .nil) rfl) rfl) ?_
  refine RV.step1 (OpOk.plain (ok_fieldAddr fa_rat1 rfl rfl (by decide) rfl) rfl) ?_
  refine RV.step1 (OpOk.plain (ok_loadf 2 fld_den rfl rfl (by decide) rfl rfl rfl rfl ty_int) rfl) ?_
  refine RV.step1 (OpOk.plain (ok_build2 rfl rfl (by decide) rfl rfl) rfl) ?_
  refine RV.step1 (OpOk.plain (ok_store rfl rfl rfl rfl rfl rfl rfl (ty_rat).2 rfl rfl rfl) rfl) ?_
  refine RV.drawn (by kernel_rfl) ?_
  refine CV.ret ?_
  exact fin1 rfl (.inr rfl) ⟨_, _, _, _, _, rfl, rfl, rfl, ty_rat⟩ (is_rt (by rw [Rat.neg_num]) (by unfold qd; rw [Rat.neg_den]) (by omega))
set_option maxRecDepth 100000 in
theorem RSub_con (a b : Rat) (j k : Nat) (hj : j ≤ 10000000) (hk : k ≤ 10000000) : Con Tryz.prog 60 [RT a j, RT b k] (.one (RT (a - b) (3 * (j + k) + 20))) := by
  refine Con.of (n := 9) Tryz.func60 rfl rfl rfl rfl rfl fun cx => ?_
  refine CV.seq ?_
  refine CV.region rfl (fun h => nomatch h) ?_
  refine RV.step2 (OpOk.plain (ok_box (i := 0) rfl rfl (by decide) rfl rfl rfl rfl) rfl) ?_
  refine RV.step2 (OpOk.plain (ok_box (i := 1) rfl rfl (by decide) rfl rfl rfl rfl) rfl) ?_
  refine RV.step2 (OpOk.plain (ok_alloc (i := 2) rfl rfl (by decide) zero_rat rfl rfl rfl) rfl) ?_
  refine RV.done ?_
  refine CV.seq ?_
  refine CV.region rfl (fun _ => by kernel_rfl) ?_
  refine RV.step1 (OpOk.plain (ok_load rfl rfl (by decide) rfl rfl rfl ty_rat) rfl) ?_
  refine RV.step1 (OpOk.plain (ok_load rfl rfl (by decide) rfl rfl rfl ty_rat) rfl) ?_
  refine RV.step1 (OpOk.plain (ok_call (RNeg_con _ _) rfl rfl (by decide) Tryz.func66 rfl rfl (.cons rfl Conv.any .nil) rfl) rfl) ?_
  refine RV.step1 (OpOk.plain (ok_call (RAdd_con _ _ _ _ hj hk) rfl rfl (by decide) Tryz.func58 rfl rfl (.cons rfl Conv.any (.cons rfl Conv.any .nil)) rfl) rfl) ?_
  refine RV.step1 (OpOk.plain (ok_store rfl rfl rfl rfl rfl rfl rfl (ty_rat).2 rfl rfl rfl) rfl) ?_
  refine RV.drawn (by kernel_rfl) ?_
  refine CV.ret ?_
  exact fin1 rfl (.inr rfl) ⟨_, _, _, _, _, rfl, rfl, rfl, ty_rat⟩ (is_rt (by rw [Rat.sub_eq_add_neg]) (by rw [Rat.sub_eq_add_neg]) (Nat.le_refl _))
theorem inv_eq (b : Rat) : Rat.divInt b.den b.num = b⁻¹ := by rw [← Rat.inv_divInt, Rat.num_divInt_den]
set_option maxRecDepth 100000 in
theorem RDiv_con (a b : Rat) (j k : Nat) (hj : j ≤ 1000000) (hk : k ≤ 1000000) : Con Tryz.prog 64 [RT a j, RT b k] (.one (RT (a / b) (3 * (j + k) + 40))) := by
  refine Con.of (n := 12) Tryz.func64 rfl rfl rfl rfl rfl fun cx => ?_
  refine CV.seq ?_
  refine CV.region rfl (fun h => nomatch h) ?_
  refine RV.step2 (OpOk.plain (ok_box (i := 0) rfl rfl (by decide) rfl rfl rfl rfl) rfl) ?_
  refine RV.step2 (OpOk.plain (ok_box (i := 1) rfl rfl (by decide) rfl rfl rfl rfl) rfl) ?_
  refine RV.step2 (OpOk.plain (ok_alloc (i := 2) rfl rfl (by decide) zero_rat rfl rfl rfl) rfl) ?_
  refine RV.done ?_
  refine CV.seq ?_
  refine CV.region rfl (fun _ => by kernel_rfl) ?_
  refine RV.step1 (OpOk.plain (ok_load rfl rfl (by decide) rfl rfl rfl ty_rat) rfl) ?_
  refine RV.step1 (OpOk.plain (ok_load rfl rfl (by decide) rfl rfl rfl ty_rat) rfl) ?_
  refine RV.step1 (OpOk.plain (ok_call (Den_con' _ _) rfl rfl (by decide) Tryz.func55 rfl rfl (.cons rfl Conv.any .nil) rfl) rfl) ?_
  refine RV.step1 (OpOk.plain (ok_fieldAddr fa_rat0 rfl rfl (by decide) rfl) rfl) ?_
  refine RV.step1 (OpOk.plain (ok_loadf 0 fld_num rfl rfl (by decide) rfl rfl rfl rfl ty_int) rfl) ?_
  refine RV.step1 (OpOk.plain (ok_call (lowest_con _ _ _ _ (fun _ => red' b)) rfl rfl (by decide) Tryz.func130 rfl rfl (.cons rfl Conv.any (.cons rfl Conv.any .nil)) rfl) rfl) ?_
  refine RV.step1 (OpOk.plain (ok_call (RMul_con _ _ _ _ (by omega) (by omega)) rfl rfl (by decide) Tryz.func62 rfl rfl (.cons rfl Conv.any (.cons rfl Conv.any .nil)) rfl) rfl) ?_
  refine RV.step1 (OpOk.plain (ok_store rfl rfl rfl rfl rfl rfl rfl (ty_rat).2 rfl rfl rfl) rfl) ?_
  refine RV.drawn (by kernel_rfl) ?_
  refine CV.ret ?_
  exact fin1 rfl (.inr rfl) ⟨_, _, _, _, _, rfl, rfl, rfl, ty_rat⟩ (is_rt (by rw [inv_eq, Rat.div_def]) (by rw [inv_eq, Rat.div_def]) (by omega))
set_option maxRecDepth 100000 in
theorem RSign_con (a : Rat) (k : Nat) : Con Tryz.prog 70 [RT a k] (.one (.v (.int .i64 (cmpI a.num 0)))) := by
  refine Con.of (n := 6) Tryz.func70 rfl rfl rfl rfl rfl fun cx => ?_
  refine CV.seq ?_
  refine CV.region rfl (fun h => nomatch h) ?_
  refine RV.step2 (OpOk.plain (ok_box (i := 0) rfl rfl (by decide) rfl rfl rfl rfl) rfl) ?_
  refine RV.step1 (OpOk.plain (ok_move (.inr rfl) rfl (by decide) rfl) rfl) ?_
  refine RV.done ?_
  refine CV.seq ?_
  refine CV.region rfl (fun h => nomatch h) ?_
  refine RV.step1 (OpOk.plain (ok_fieldAddr fa_rat0 rfl rfl (by decide) rfl) rfl) ?_
  refine RV.step1 (OpOk.plain (ok_loadf 0 fld_num rfl rfl (by decide) rfl rfl rfl rfl ty_int) rfl) ?_
  refine RV.step1 (OpOk.plain (ok_call (Sign_con _) rfl rfl (by decide) Tryz.func121 rfl rfl (.cons rfl Conv.any .nil) rfl) rfl) ?_
  refine RV.step1 (OpOk.plain (ok_move (.inr rfl) rfl (by decide) rfl) rfl) ?_
  refine RV.done ?_
  refine CV.ret ?_
  exact fin1 rfl (.inr rfl) rfl is_rfl
/-- The sign of a difference. -/
def cmpR (a b : Rat) : Int := cmpI (a.num * b.den) (b.num * a.den)
set_option maxRecDepth 100000 in
theorem RCompare_con (a b : Rat) (j k : Nat) (hj : j ≤ 10000000) (hk : k ≤ 10000000) : Con Tryz.prog 68 [RT a j, RT b k] (.one (.v (.int .i64 (cmpR a b)))) := by
  refine Con.of (n := 27) Tryz.func68 rfl rfl rfl rfl rfl fun cx => ?_
  refine CV.seq ?_
  refine CV.region rfl (fun h => nomatch h) ?_
  refine RV.step2 (OpOk.plain (ok_box (i := 0) rfl rfl (by decide) rfl rfl rfl rfl) rfl) ?_
  refine RV.step2 (OpOk.plain (ok_box (i := 1) rfl rfl (by decide) rfl rfl rfl rfl) rfl) ?_
  refine RV.step1 (OpOk.plain (ok_move (.inr rfl) rfl (by decide) rfl) rfl) ?_
  refine RV.done ?_
  refine CV.seq ?_
  refine CV.seq ?_
  refine CV.region rfl (fun h => nomatch h) ?_
  refine RV.step1 (OpOk.plain (ok_load rfl rfl (by decide) rfl rfl rfl ty_rat) rfl) ?_
  refine RV.step1 (OpOk.plain (ok_call (isWhole_con _ _ _) rfl rfl (by decide) Tryz.func128 rfl rfl (.cons rfl Conv.any .nil) rfl) rfl) ?_
  refine RV.step1 (OpOk.plain (ok_move (.inl rfl) rfl (by decide) rfl) rfl) ?_
  refine RV.bool (fun h1 => ?_) (fun h1 => ?_)
  · refine RV.step1 (OpOk.yes (ok_load rfl rfl (by decide) rfl rfl rfl ty_rat) rfl rfl rfl) ?_
    refine RV.step1 (OpOk.yes (ok_call (isWhole_con _ _ _) rfl rfl (by decide) Tryz.func128 rfl rfl (.cons rfl Conv.any .nil) rfl) rfl rfl rfl) ?_
    refine RV.step1 (OpOk.plain (ok_pickT rfl rfl (by decide) rfl rfl rfl) rfl) ?_
    refine RV.done ?_
    refine CV.cond rfl (fun h2 => ?_) (fun h2 => ?_)
    · refine CV.seq ?_
      refine CV.region rfl (fun h => nomatch h) ?_
      refine RV.step1 (OpOk.plain (ok_fieldAddr fa_rat0 rfl rfl (by decide) rfl) rfl) ?_
      refine RV.step1 (OpOk.plain (ok_loadf 0 fld_num rfl rfl (by decide) rfl rfl rfl rfl ty_int) rfl) ?_
      refine RV.step1 (OpOk.plain (ok_fieldAddr fa_rat0 rfl rfl (by decide) rfl) rfl) ?_
      refine RV.step1 (OpOk.plain (ok_loadf 0 fld_num rfl rfl (by decide) rfl rfl rfl rfl ty_int) rfl) ?_
      refine RV.step1 (OpOk.plain (ok_call (Compare_con _ _) rfl rfl (by decide) Tryz.func136 rfl rfl (.cons rfl Conv.any (.cons rfl Conv.any .nil)) rfl) rfl) ?_
      refine RV.step1 (OpOk.plain (ok_move (.inr rfl) rfl (by decide) rfl) rfl) ?_
      refine RV.done ?_
      refine CV.ret ?_
      have ha := qd_zero.1 (by simpa using h1)
      have hb := qd_zero.1 (by simpa using h2)
      exact fin1 rfl (.inr rfl) rfl (is_num (by unfold cmpR; rw [ha, hb]; simp))
    · refine CV.skip ?_
      refine CV.seq ?_
      refine CV.region rfl (fun _ => by kernel_rfl) ?_
      refine RV.step1 (OpOk.plain (ok_fieldAddr fa_rat0 rfl rfl (by decide) rfl) rfl) ?_
      refine RV.step1 (OpOk.plain (ok_loadf 0 fld_num rfl rfl (by decide) rfl rfl rfl rfl ty_int) rfl) ?_
      refine RV.step1 (OpOk.plain (ok_load rfl rfl (by decide) rfl rfl rfl ty_rat) rfl) ?_
      refine RV.step1 (OpOk.plain (ok_call (Den_con' _ _) rfl rfl (by decide) Tryz.func55 rfl rfl (.cons rfl Conv.any .nil) rfl) rfl) ?_
      refine RV.step1 (OpOk.plain (ok_call (Mul_con _ _ (by omega) (by omega)) rfl rfl (by decide) Tryz.func104 rfl rfl (.cons rfl Conv.any (.cons rfl Conv.any .nil)) rfl) rfl) ?_
      refine RV.step1 (OpOk.plain (ok_fieldAddr fa_rat0 rfl rfl (by decide) rfl) rfl) ?_
      refine RV.step1 (OpOk.plain (ok_loadf 0 fld_num rfl rfl (by decide) rfl rfl rfl rfl ty_int) rfl) ?_
      refine RV.step1 (OpOk.plain (ok_load rfl rfl (by decide) rfl rfl rfl ty_rat) rfl) ?_
      refine RV.step1 (OpOk.plain (ok_call (Den_con' _ _) rfl rfl (by decide) Tryz.func55 rfl rfl (.cons rfl Conv.any .nil) rfl) rfl) ?_
      refine RV.step1 (OpOk.plain (ok_call (Mul_con _ _ (by omega) (by omega)) rfl rfl (by decide) Tryz.func104 rfl rfl (.cons rfl Conv.any (.cons rfl Conv.any .nil)) rfl) rfl) ?_
      refine RV.step1 (OpOk.plain (ok_call (Compare_con _ _) rfl rfl (by decide) Tryz.func136 rfl rfl (.cons rfl Conv.any (.cons rfl Conv.any .nil)) rfl) rfl) ?_
      refine RV.step1 (OpOk.plain (ok_move (.inr rfl) rfl (by decide) rfl) rfl) ?_
      refine RV.drawn (by kernel_rfl) ?_
      refine CV.ret ?_
      exact fin1 rfl (.inr rfl) rfl (is_num rfl)
  · refine RV.step1 (OpOk.skip rfl rfl rfl rfl rfl (by decide)) ?_
    refine RV.step1 (OpOk.skip rfl rfl rfl rfl rfl (by decide)) ?_
    refine RV.step1 (OpOk.plain (ok_pickF rfl rfl (by decide) rfl rfl rfl) rfl) ?_
    refine RV.done ?_
    refine CV.no rfl ?_
    refine CV.skip ?_
    refine CV.seq ?_
    refine CV.region rfl (fun _ => by kernel_rfl) ?_
    refine RV.step1 (OpOk.plain (ok_fieldAddr fa_rat0 rfl rfl (by decide) rfl) rfl) ?_
    refine RV.step1 (OpOk.plain (ok_loadf 0 fld_num rfl rfl (by decide) rfl rfl rfl rfl ty_int) rfl) ?_
    refine RV.step1 (OpOk.plain (ok_load rfl rfl (by decide) rfl rfl rfl ty_rat) rfl) ?_
    refine RV.step1 (OpOk.plain (ok_call (Den_con' _ _) rfl rfl (by decide) Tryz.func55 rfl rfl (.cons rfl Conv.any .nil) rfl) rfl) ?_
    refine RV.step1 (OpOk.plain (ok_call (Mul_con _ _ (by omega) (by omega)) rfl rfl (by decide) Tryz.func104 rfl rfl (.cons rfl Conv.any (.cons rfl Conv.any .nil)) rfl) rfl) ?_
    refine RV.step1 (OpOk.plain (ok_fieldAddr fa_rat0 rfl rfl (by decide) rfl) rfl) ?_
    refine RV.step1 (OpOk.plain (ok_loadf 0 fld_num rfl rfl (by decide) rfl rfl rfl rfl ty_int) rfl) ?_
    refine RV.step1 (OpOk.plain (ok_load rfl rfl (by decide) rfl rfl rfl ty_rat) rfl) ?_
    refine RV.step1 (OpOk.plain (ok_call (Den_con' _ _) rfl rfl (by decide) Tryz.func55 rfl rfl (.cons rfl Conv.any .nil) rfl) rfl) ?_
    refine RV.step1 (OpOk.plain (ok_call (Mul_con _ _ (by omega) (by omega)) rfl rfl (by decide) Tryz.func104 rfl rfl (.cons rfl Conv.any (.cons rfl Conv.any .nil)) rfl) rfl) ?_
    refine RV.step1 (OpOk.plain (ok_call (Compare_con _ _) rfl rfl (by decide) Tryz.func136 rfl rfl (.cons rfl Conv.any (.cons rfl Conv.any .nil)) rfl) rfl) ?_
    refine RV.step1 (OpOk.plain (ok_move (.inr rfl) rfl (by decide) rfl) rfl) ?_
    refine RV.drawn (by kernel_rfl) ?_
    refine CV.ret ?_
    exact fin1 rfl (.inr rfl) rfl (is_num rfl)
theorem qd_eq {a b : Rat} (h : qd a = qd b) : a.den = b.den := by
  have h1 := dn_qd a
  have h2 := dn_qd b
  rw [h] at h1
  have := h1.symm.trans h2
  omega
set_option maxRecDepth 100000 in
theorem RSame_con (a b : Rat) (j k : Nat) : Con Tryz.prog 72 [RT a j, RT b k] (.one (.v (.bool (decide (a = b))))) := by
  refine Con.of (n := 19) Tryz.func72 rfl rfl rfl rfl rfl fun cx => ?_
  refine CV.seq ?_
  refine CV.region rfl (fun h => nomatch h) ?_
  refine RV.step2 (OpOk.plain (ok_box (i := 0) rfl rfl (by decide) rfl rfl rfl rfl) rfl) ?_
  refine RV.step2 (OpOk.plain (ok_box (i := 1) rfl rfl (by decide) rfl rfl rfl rfl) rfl) ?_
  refine RV.step1 (OpOk.plain (ok_move (.inr rfl) rfl (by decide) rfl) rfl) ?_
  refine RV.done ?_
  refine CV.seq ?_
  refine CV.region rfl (fun h => nomatch h) ?_
  refine RV.step1 (OpOk.plain (ok_fieldAddr fa_rat0 rfl rfl (by decide) rfl) rfl) ?_
  refine RV.step1 (OpOk.plain (ok_loadf 0 fld_num rfl rfl (by decide) rfl rfl rfl rfl ty_int) rfl) ?_
  refine RV.step1 (OpOk.plain (ok_fieldAddr fa_rat0 rfl rfl (by decide) rfl) rfl) ?_
  refine RV.step1 (OpOk.plain (ok_loadf 0 fld_num rfl rfl (by decide) rfl rfl rfl rfl ty_int) rfl) ?_
  refine RV.step1 (OpOk.plain (ok_call (Compare_con _ _) rfl rfl (by decide) Tryz.func136 rfl rfl (.cons rfl Conv.any (.cons rfl Conv.any .nil)) rfl) rfl) ?_
  refine RV.step1 (OpOk.plain (ok_eql rfl rfl (by decide) rfl rfl) rfl) ?_
  refine RV.step1 (OpOk.plain (ok_move (.inl rfl) rfl (by decide) rfl) rfl) ?_
  refine RV.bool (fun h1 => ?_) (fun h1 => ?_)
  · refine RV.step1 (OpOk.yes (ok_fieldAddr fa_rat1 rfl rfl (by decide) rfl) rfl rfl rfl) ?_
    refine RV.step1 (OpOk.yes (ok_loadf 2 fld_den rfl rfl (by decide) rfl rfl rfl rfl ty_int) rfl rfl rfl) ?_
    refine RV.step1 (OpOk.yes (ok_fieldAddr fa_rat1 rfl rfl (by decide) rfl) rfl rfl rfl) ?_
    refine RV.step1 (OpOk.yes (ok_loadf 2 fld_den rfl rfl (by decide) rfl rfl rfl rfl ty_int) rfl rfl rfl) ?_
    refine RV.step1 (OpOk.yes (ok_call (Compare_con _ _) rfl rfl (by decide) Tryz.func136 rfl rfl (.cons rfl Conv.any (.cons rfl Conv.any .nil)) rfl) rfl rfl rfl) ?_
    refine RV.step1 (OpOk.yes (ok_eql rfl rfl (by decide) rfl rfl) rfl rfl rfl) ?_
    refine RV.step1 (OpOk.plain (ok_pickT rfl rfl (by decide) rfl rfl rfl) rfl) ?_
    refine RV.step1 (OpOk.plain (ok_move (.inr rfl) rfl (by decide) rfl) rfl) ?_
    refine RV.done ?_
    refine CV.ret ?_
    rw [cmpI_eq] at h1
    have e1 : a.num = b.num := by simpa using h1
    refine fin1 rfl (.inr rfl) rfl (is_bool ?_)
    rw [cmpI_eq, Bool.eq_iff_iff, decide_eq_true_eq, decide_eq_true_eq]
    exact ⟨fun e2 => Rat.ext e1 (qd_eq e2), fun e => by rw [e]⟩
  · refine RV.step1 (OpOk.skip rfl rfl rfl rfl rfl (by decide)) ?_
    refine RV.step1 (OpOk.skip rfl rfl rfl rfl rfl (by decide)) ?_
    refine RV.step1 (OpOk.skip rfl rfl rfl rfl rfl (by decide)) ?_
    refine RV.step1 (OpOk.skip rfl rfl rfl rfl rfl (by decide)) ?_
    refine RV.step1 (OpOk.skip rfl rfl rfl rfl rfl (by decide)) ?_
    refine RV.step1 (OpOk.skip rfl rfl rfl rfl rfl (by decide)) ?_
    refine RV.step1 (OpOk.plain (ok_pickF rfl rfl (by decide) rfl rfl rfl) rfl) ?_
    refine RV.step1 (OpOk.plain (ok_move (.inr rfl) rfl (by decide) rfl) rfl) ?_
    refine RV.done ?_
    refine CV.ret ?_
    rw [cmpI_eq] at h1
    have e2 : ¬ a.num = b.num := by simpa using h1
    exact fin1 rfl (.inr rfl) rfl (is_bool (by rw [eq_comm, decide_eq_false_iff_not]; rintro rfl; exact e2 rfl))
set_option maxRecDepth 100000 in
theorem RMake_con (p q : Int) (j k : Nat) (hj : j ≤ 10000000) (hk : k ≤ 10000000) : Con Tryz.prog 51 [.d (Dm.int p j), .d (Dm.int q k)] (.one (RT (Rat.divInt p q) (j + k))) := by
  refine Con.of (n := 11) Tryz.func51 rfl rfl rfl rfl rfl fun cx => ?_
  refine CV.seq ?_
  refine CV.region rfl (fun h => nomatch h) ?_
  refine RV.step2 (OpOk.plain (ok_box (i := 0) rfl rfl (by decide) rfl rfl rfl rfl) rfl) ?_
  refine RV.step2 (OpOk.plain (ok_box (i := 1) rfl rfl (by decide) rfl rfl rfl rfl) rfl) ?_
  refine RV.step2 (OpOk.plain (ok_alloc (i := 2) rfl rfl (by decide) zero_rat rfl rfl rfl) rfl) ?_
  refine RV.done ?_
  refine CV.seq ?_
  refine CV.region rfl (fun h => nomatch h) ?_
  refine RV.step1 (OpOk.plain (ok_load rfl rfl (by decide) rfl rfl rfl ty_int) rfl) ?_
  refine RV.step1 (OpOk.plain (ok_load rfl rfl (by decide) rfl rfl rfl ty_int) rfl) ?_
  refine RV.step1 (OpOk.plain (ok_call (cancelled_con _ _ _ _ (by omega) (by omega)) rfl rfl (by decide) Tryz.func131 rfl rfl (.cons rfl Conv.any (.cons rfl Conv.any .nil)) rfl) rfl) ?_
  refine RV.step1 (OpOk.plain (ok_extract rfl rfl (by decide) rfl rfl) rfl) ?_
  refine RV.step1 (OpOk.plain (ok_extract rfl rfl (by decide) rfl rfl) rfl) ?_
  refine RV.step1 (OpOk.plain (ok_call (lowest_con _ _ _ _ (fun h => (make_facts p q (fun e => h (by rw [e, Int.zero_ediv]))).1)) rfl rfl (by decide) Tryz.func130 rfl rfl (.cons rfl Conv.any (.cons rfl Conv.any .nil)) rfl) rfl) ?_
  refine RV.step1 (OpOk.plain (ok_store rfl rfl rfl rfl rfl rfl rfl (ty_rat).2 rfl rfl rfl) rfl) ?_
  refine RV.done ?_
  refine CV.ret ?_
  have e : Rat.divInt (p / (Int.gcd p q : Nat)) (q / (Int.gcd p q : Nat)) = Rat.divInt p q := make_div p q
  exact fin1 rfl (.inr rfl) ⟨_, _, _, _, _, rfl, rfl, rfl, ty_rat⟩ (is_rt (by rw [e]) (by rw [e]) (by omega))
set_option maxRecDepth 100000 in
theorem ROf_con (p q : Int) (h1 : -9223372036854775808 ≤ p) (h2 : p ≤ 9223372036854775807) (h3 : -9223372036854775808 ≤ q) (h4 : q ≤ 9223372036854775807) : Con Tryz.prog 52 [.v (.int .i64 p), .v (.int .i64 q)] (.one (RT (Rat.divInt p q) 6)) := by
  refine Con.of (n := 10) Tryz.func52 rfl rfl rfl rfl rfl fun cx => ?_
  refine CV.seq ?_
  refine CV.region rfl (fun h => nomatch h) ?_
  refine RV.step2 (OpOk.plain (ok_alloc (i := 0) rfl rfl (by decide) zero_rat rfl rfl rfl) rfl) ?_
  refine RV.done ?_
  refine CV.seq ?_
  refine CV.region rfl (fun h => nomatch h) ?_
  refine RV.step1 (OpOk.plain (ok_move (.inl rfl) rfl (by decide) rfl) rfl) ?_
  refine RV.step1 (OpOk.plain (ok_call (Of_con p h1 h2) rfl rfl (by decide) Tryz.func24 rfl rfl (.cons rfl Conv.any .nil) rfl) rfl) ?_
  refine RV.step1 (OpOk.plain (ok_move (.inl rfl) rfl (by decide) rfl) rfl) ?_
  refine RV.step1 (OpOk.plain (ok_call (Of_con q h3 h4) rfl rfl (by decide) Tryz.func24 rfl rfl (.cons rfl Conv.any .nil) rfl) rfl) ?_
  refine RV.step1 (OpOk.plain (ok_call (RMake_con _ _ _ _ (by omega) (by omega)) rfl rfl (by decide) Tryz.func51 rfl rfl (.cons rfl Conv.any (.cons rfl Conv.any .nil)) rfl) rfl) ?_
  refine RV.step1 (OpOk.plain (ok_store rfl rfl rfl rfl rfl rfl rfl (ty_rat).2 rfl rfl rfl) rfl) ?_
  refine RV.done ?_
  refine CV.ret ?_
  exact fin1 rfl (.inr rfl) ⟨_, _, _, _, _, rfl, rfl, rfl, ty_rat⟩ is_rfl
set_option maxRecDepth 100000 in
theorem RFloor_con (a : Rat) (k : Nat) (hk : k ≤ 10000000) : Con Tryz.prog 76 [RT a k] (.one (.d (Dm.int (a.num / a.den) k))) := by
  refine Con.of (n := 8) Tryz.func76 rfl rfl rfl rfl rfl fun cx => ?_
  refine CV.seq ?_
  refine CV.region rfl (fun h => nomatch h) ?_
  refine RV.step2 (OpOk.plain (ok_box (i := 0) rfl rfl (by decide) rfl rfl rfl rfl) rfl) ?_
  refine RV.step2 (OpOk.plain (ok_alloc (i := 1) rfl rfl (by decide) zero_int rfl rfl rfl) rfl) ?_
  refine RV.done ?_
  refine CV.seq ?_
  refine CV.region rfl (fun _ => by kernel_rfl) ?_
  refine RV.step1 (OpOk.plain (ok_fieldAddr fa_rat0 rfl rfl (by decide) rfl) rfl) ?_
  refine RV.step1 (OpOk.plain (ok_loadf 0 fld_num rfl rfl (by decide) rfl rfl rfl rfl ty_int) rfl) ?_
  refine RV.step1 (OpOk.plain (ok_load rfl rfl (by decide) rfl rfl rfl ty_rat) rfl) ?_
  refine RV.step1 (OpOk.plain (ok_call (Den_con' _ _) rfl rfl (by decide) Tryz.func55 rfl rfl (.cons rfl Conv.any .nil) rfl) rfl) ?_
  refine RV.step1 (OpOk.plain (ok_call (quotient_con _ _ _ _ (by omega) (by omega)) rfl rfl (by decide) Tryz.func134 rfl rfl (.cons rfl Conv.any (.cons rfl Conv.any .nil)) rfl) rfl) ?_
  refine RV.step1 (OpOk.plain (ok_store rfl rfl rfl rfl rfl rfl rfl (ty_int).2 rfl rfl rfl) rfl) ?_
  refine RV.drawn (by kernel_rfl) ?_
  refine CV.ret ?_
  exact fin1 rfl (.inr rfl) ⟨_, _, _, _, _, rfl, rfl, rfl, ty_int⟩ is_rfl
set_option maxRecDepth 100000 in
theorem RCeil_con (a : Rat) (k : Nat) (hk : k ≤ 10000000) : Con Tryz.prog 78 [RT a k] (.one (.d (Dm.int (-(-a.num / a.den)) k))) := by
  refine Con.of (n := 7) Tryz.func78 rfl rfl rfl rfl rfl fun cx => ?_
  refine CV.seq ?_
  refine CV.region rfl (fun h => nomatch h) ?_
  refine RV.step2 (OpOk.plain (ok_box (i := 0) rfl rfl (by decide) rfl rfl rfl rfl) rfl) ?_
  refine RV.step2 (OpOk.plain (ok_alloc (i := 1) rfl rfl (by decide) zero_int rfl rfl rfl) rfl) ?_
  refine RV.done ?_
  refine CV.seq ?_
  refine CV.region rfl (fun h => nomatch h) ?_
  refine RV.step1 (OpOk.plain (ok_load rfl rfl (by decide) rfl rfl rfl ty_rat) rfl) ?_
  refine RV.step1 (OpOk.plain (ok_call (RNeg_con _ _) rfl rfl (by decide) Tryz.func66 rfl rfl (.cons rfl Conv.any .nil) rfl) rfl) ?_
  refine RV.step1 (OpOk.plain (ok_call (RFloor_con _ _ hk) rfl rfl (by decide) Tryz.func76 rfl rfl (.cons rfl Conv.any .nil) rfl) rfl) ?_
  refine RV.step1 (OpOk.plain (ok_call (Neg_con _) rfl rfl (by decide) Tryz.func135 rfl rfl (.cons rfl Conv.any .nil) rfl) rfl) ?_
  refine RV.step1 (OpOk.plain (ok_store rfl rfl rfl rfl rfl rfl rfl (ty_int).2 rfl rfl rfl) rfl) ?_
  refine RV.done ?_
  refine CV.ret ?_
  exact fin1 rfl (.inr rfl) ⟨_, _, _, _, _, rfl, rfl, rfl, ty_int⟩ (is_int' (by rw [Rat.neg_num, Rat.neg_den]) (Nat.le_refl _))
theorem IValid_con (z : Int) {k : Nat} : Con Tryz.prog 20 [.d (Dm.int z k)] (.one (.v (.bool true))) :=
  con_val1 fun vx w h => Valid_any vx z w h
set_option maxRecDepth 100000 in
theorem RValid_con (a : Rat) (k : Nat) (hk : k ≤ 10000000) : Con Tryz.prog 48 [RT a k] (.one (.v (.bool true))) := by
  refine Con.of (n := 35) Tryz.func48 rfl rfl rfl rfl rfl fun cx => ?_
  refine CV.seq ?_
  refine CV.region rfl (fun h => nomatch h) ?_
  refine RV.step2 (OpOk.plain (ok_box (i := 0) rfl rfl (by decide) rfl rfl rfl rfl) rfl) ?_
  refine RV.step1 (OpOk.plain (ok_move (.inr rfl) rfl (by decide) rfl) rfl) ?_
  refine RV.done ?_
  refine CV.seq ?_
  refine CV.seq ?_
  refine CV.region rfl (fun h => nomatch h) ?_
  refine RV.step1 (OpOk.plain (ok_fieldAddr fa_rat0 rfl rfl (by decide) rfl) rfl) ?_
  refine RV.step1 (OpOk.plain (ok_loadf 0 fld_num rfl rfl (by decide) rfl rfl rfl rfl ty_int) rfl) ?_
  refine RV.step1 (OpOk.plain (ok_call (IValid_con _) rfl rfl (by decide) Tryz.func20 rfl rfl (.cons rfl Conv.any .nil) rfl) rfl) ?_
  refine RV.step1 (OpOk.plain (ok_not rfl rfl (by decide) rfl) rfl) ?_
  refine RV.step1 (OpOk.plain (ok_move (.inl rfl) rfl (by decide) rfl) rfl) ?_
  refine RV.step1 (OpOk.yes (ok_fieldAddr fa_rat1 rfl rfl (by decide) rfl) rfl rfl rfl) ?_
  refine RV.step1 (OpOk.yes (ok_loadf 2 fld_den rfl rfl (by decide) rfl rfl rfl rfl ty_int) rfl rfl rfl) ?_
  refine RV.step1 (OpOk.yes (ok_call (IValid_con _) rfl rfl (by decide) Tryz.func20 rfl rfl (.cons rfl Conv.any .nil) rfl) rfl rfl rfl) ?_
  refine RV.step1 (OpOk.yes (ok_not rfl rfl (by decide) rfl) rfl rfl rfl) ?_
  refine RV.step1 (OpOk.plain (ok_pickF rfl rfl (by decide) rfl rfl rfl) rfl) ?_
  refine RV.done ?_
  refine CV.no rfl ?_
  refine CV.skip ?_
  refine CV.seq ?_
  refine CV.region rfl (fun h => nomatch h) ?_
  refine RV.step1 (OpOk.plain (ok_load rfl rfl (by decide) rfl rfl rfl ty_rat) rfl) ?_
  refine RV.step1 (OpOk.plain (ok_call (isWhole_con _ _ _) rfl rfl (by decide) Tryz.func128 rfl rfl (.cons rfl Conv.any .nil) rfl) rfl) ?_
  refine RV.step1 (OpOk.plain (ok_move (.inl rfl) rfl (by decide) rfl) rfl) ?_
  refine RV.bool (fun h1 => ?_) (fun h1 => ?_)
  · refine RV.step1 (OpOk.skip rfl rfl rfl rfl rfl (by decide)) ?_
    refine RV.step1 (OpOk.skip rfl rfl rfl rfl rfl (by decide)) ?_
    refine RV.step1 (OpOk.skip rfl rfl rfl rfl rfl (by decide)) ?_
    refine RV.step1 (OpOk.skip rfl rfl rfl rfl rfl (by decide)) ?_
    refine RV.step1 (OpOk.skip rfl rfl rfl rfl rfl (by decide)) ?_
    refine RV.step1 (OpOk.skipU rfl rfl rfl rfl (by decide)) ?_
    refine RV.step1 (OpOk.skipU rfl rfl rfl rfl (by decide)) ?_
    refine RV.step1 (OpOk.skipU rfl rfl rfl rfl (by decide)) ?_
    refine RV.step1 (OpOk.skipU rfl rfl rfl rfl (by decide)) ?_
    refine RV.step1 (OpOk.skip rfl rfl rfl rfl rfl (by decide)) ?_
    refine RV.step1 (OpOk.skip rfl rfl rfl rfl rfl (by decide)) ?_
    refine RV.step1 (OpOk.skipU rfl rfl rfl rfl (by decide)) ?_
    refine RV.step1 (OpOk.skipU rfl rfl rfl rfl (by decide)) ?_
    refine RV.step1 (OpOk.skipU rfl rfl rfl rfl (by decide)) ?_
    refine RV.step1 (OpOk.skipU rfl rfl rfl rfl (by decide)) ?_
    refine RV.step1 (OpOk.skipU rfl rfl rfl rfl (by decide)) ?_
    refine RV.step1 (OpOk.skipU rfl rfl rfl rfl (by decide)) ?_
    refine RV.step1 (OpOk.skip rfl rfl rfl rfl rfl (by decide)) ?_
    refine RV.step1 (OpOk.plain (ok_pickT rfl rfl (by decide) rfl rfl rfl) rfl) ?_
    refine RV.step1 (OpOk.plain (ok_move (.inr rfl) rfl (by decide) rfl) rfl) ?_
    refine RV.done ?_
    refine CV.ret ?_
    exact fin1 rfl (.inr rfl) rfl is_rfl
  · refine RV.step1 (OpOk.yes (ok_fieldAddr fa_rat1 rfl rfl (by decide) rfl) rfl rfl rfl) ?_
    refine RV.step1 (OpOk.yes (ok_fieldAddr fa_int0 rfl rfl (by decide) rfl) rfl rfl rfl) ?_
    refine RV.step1 (OpOk.yes (ok_loadf 2 fld_nden rfl rfl (by decide) rfl rfl rfl rfl ty_bool) rfl rfl rfl) ?_
    refine RV.step1 (OpOk.yes (ok_not rfl rfl (by decide) rfl) rfl rfl rfl) ?_
    refine RV.step1 (OpOk.yes (ok_move (.inl rfl) rfl (by decide) rfl) rfl rfl rfl) ?_
    refine RV.bool (fun hb => ?_) (fun hb => False.elim (by have := (qd_nn a).1; simp at hb; omega))
    refine RV.step1 (OpOk.yes (ok_fieldAddr fa_rat1 rfl rfl (by decide) rfl) rfl rfl rfl) ?_
    refine RV.step1 (OpOk.yes (ok_loadf 2 fld_den rfl rfl (by decide) rfl rfl rfl rfl ty_int) rfl rfl rfl) ?_
    refine RV.step1 (OpOk.yes (ok_call (isOne_con _ _) rfl rfl (by decide) Tryz.func129 rfl rfl (.cons rfl Conv.any .nil) rfl) rfl rfl rfl) ?_
    refine RV.step1 (OpOk.yes (ok_not rfl rfl (by decide) rfl) rfl rfl rfl) ?_
    refine RV.step1 (OpOk.yes (ok_pickT rfl rfl (by decide) rfl rfl rfl) rfl rfl rfl) ?_
    refine RV.step1 (OpOk.yes (ok_move (.inl rfl) rfl (by decide) rfl) rfl rfl rfl) ?_
    refine RV.bool (fun hb => ?_) (fun hb => False.elim (by have := (qd_nn a).2; simp at hb; omega))
    refine RV.step1 (OpOk.yes (ok_fieldAddr fa_rat0 rfl rfl (by decide) rfl) rfl rfl rfl) ?_
    refine RV.step1 (OpOk.yes (ok_loadf 0 fld_num rfl rfl (by decide) rfl rfl rfl rfl ty_int) rfl rfl rfl) ?_
    refine RV.step1 (OpOk.yes (ok_fieldAddr fa_rat1 rfl rfl (by decide) rfl) rfl rfl rfl) ?_
    refine RV.step1 (OpOk.yes (ok_loadf 2 fld_den rfl rfl (by decide) rfl rfl rfl rfl ty_int) rfl rfl rfl) ?_
    refine RV.step1 (OpOk.yes (ok_call (Gcd_con _ _ (by omega) (by omega)) rfl rfl (by decide) Tryz.func30 rfl rfl (.cons rfl Conv.any (.cons rfl Conv.any .nil)) rfl) rfl rfl rfl) ?_
    refine RV.step1 (OpOk.yes (ok_call (isOne_con _ _) rfl rfl (by decide) Tryz.func129 rfl rfl (.cons rfl Conv.any .nil) rfl) rfl rfl rfl) ?_
    refine RV.step1 (OpOk.yes (ok_pickT rfl rfl (by decide) rfl rfl rfl) rfl rfl rfl) ?_
    refine RV.step1 (OpOk.plain (ok_pickF rfl rfl (by decide) rfl rfl rfl) rfl) ?_
    refine RV.step1 (OpOk.plain (ok_move (.inr rfl) rfl (by decide) rfl) rfl) ?_
    refine RV.done ?_
    refine CV.ret ?_
    have h5 : ¬ qd a = 0 := by simpa using h1
    refine fin1 rfl (.inr rfl) rfl (is_bool ?_)
    rw [decide_eq_true_eq, show qd a = (a.den : Int) from by rw [← dn_qd a, if_neg h5], red a]
    rfl

end Vc
end Go.Proofs.YtabjodomigllhaaGreatDoor
