/-
  The reference's fractions: its numbers; the law's equality.
-/
import Derived.Test.YtabjodomigllhaaGreatDoorJC36
import Derived.Test.YtabjodomigllhaaGreatDoorJC34
namespace Go.Proofs.YtabjodomigllhaaGreatDoor
open Go.RowKit
open Go.Lib (hid)
open Dg Zn
namespace Vc

set_option maxRecDepth 100000 in
theorem rone_con (z : Int) (k : Nat) : Con Tryz.prog 127 [.d (Dm.int z k)] (.one (.v (.bool (decide (z = 1))))) := by
  refine Con.of (n := 16) Tryz.func127 rfl rfl rfl rfl rfl fun cx => ?_
  refine CV.seq ?_
  refine CV.region rfl (fun h => nomatch h) ?_
  refine RV.step2 (OpOk.plain (ok_box (i := 0) rfl rfl (by decide) rfl rfl rfl rfl) rfl) ?_
  refine RV.step1 (OpOk.plain (ok_move (.inr rfl) rfl (by decide) rfl) rfl) ?_
  refine RV.done ?_
  refine CV.seq ?_
  refine CV.seq ?_
  refine CV.region rfl (fun h => nomatch h) ?_
  refine RV.step1 (OpOk.plain (ok_fieldAddr fa_int0 rfl rfl (by decide) rfl) rfl) ?_
  refine RV.step1 (OpOk.plain (ok_loadf 0 fld_neg rfl rfl (by decide) rfl rfl rfl rfl ty_bool) rfl) ?_
  refine RV.step1 (OpOk.plain (ok_move (.inl rfl) rfl (by decide) rfl) rfl) ?_
  refine RV.bool (fun h1 => ?_) (fun h1 => ?_)
  · refine RV.step1 (OpOk.skip rfl rfl rfl rfl rfl (by decide)) ?_
    refine RV.step1 (OpOk.skip rfl rfl rfl rfl rfl (by decide)) ?_
    refine RV.step1 (OpOk.skip rfl rfl rfl rfl rfl (by decide)) ?_
    refine RV.step1 (OpOk.skip rfl rfl rfl rfl rfl (by decide)) ?_
    refine RV.step1 (OpOk.plain (ok_pickT rfl rfl (by decide) rfl rfl rfl) rfl) ?_
    refine RV.done ?_
    refine CV.yes rfl ?_
    refine CV.seq ?_
    refine CV.region rfl (fun h => nomatch h) ?_
    refine RV.step1 (OpOk.plain (ok_move (.inr rfl) rfl (by decide) rfl) rfl) ?_
    refine RV.done ?_
    refine CV.ret ?_
    refine fin1 rfl (.inr rfl) rfl (is_bool ?_)
    rw [eq_comm, decide_eq_false_iff_not]
    simp at h1
    omega
  · refine RV.step1 (OpOk.yes (ok_fieldAddr fa_int1 rfl rfl (by decide) rfl) rfl rfl rfl) ?_
    refine RV.step1 (OpOk.yes (ok_loadf 1 fld_dig rfl rfl (by decide) rfl rfl rfl rfl ty_ints) rfl rfl rfl) ?_
    refine RV.step1 (OpOk.yes (ok_len rfl rfl (by decide) rfl) rfl rfl rfl) ?_
    refine RV.step1 (OpOk.yes (ok_neq rfl rfl (by decide) rfl rfl) rfl rfl rfl) ?_
    refine RV.step1 (OpOk.plain (ok_pickF rfl rfl (by decide) rfl rfl rfl) rfl) ?_
    refine RV.done ?_
    refine CV.cond rfl (fun h2 => ?_) (fun h2 => ?_)
    · refine CV.seq ?_
      refine CV.region rfl (fun h => nomatch h) ?_
      refine RV.step1 (OpOk.plain (ok_move (.inr rfl) rfl (by decide) rfl) rfl) ?_
      refine RV.done ?_
      refine CV.ret ?_
      refine fin1 rfl (.inr rfl) rfl (is_bool ?_)
      rw [eq_comm, decide_eq_false_iff_not]
      rintro rfl
      cases h2
    · refine CV.skip ?_
      refine CV.seq ?_
      refine CV.region rfl (fun h => nomatch h) ?_
      refine RV.step1 (OpOk.plain (ok_fieldAddr fa_int1 rfl rfl (by decide) rfl) rfl) ?_
      refine RV.step1 (OpOk.plain (ok_loadf 1 fld_dig rfl rfl (by decide) rfl rfl rfl rfl ty_ints) rfl) ?_
      refine RV.step1 (OpOk.plain (ok_idx (i := 0) (by simp at h2; omega) rfl rfl (by decide) rfl rfl) rfl) ?_
      refine RV.step1 (OpOk.plain (ok_loadc rfl rfl (by decide) rfl) rfl) ?_
      refine RV.step1 (OpOk.plain (ok_eql rfl rfl (by decide) rfl rfl) rfl) ?_
      refine RV.step1 (OpOk.plain (ok_move (.inr rfl) rfl (by decide) rfl) rfl) ?_
      refine RV.done ?_
      refine CV.ret ?_
      refine fin1 rfl (.inr rfl) rfl (is_bool ?_)
      rw [one_dig (by simp at h2; omega), Bool.eq_iff_iff]
      simp at h1 ⊢
      omega
set_option maxRecDepth 100000 in
theorem rDen_con (p q : Int) (k : Nat) : Con Tryz.prog 47 [.d (Dm.rt p q k)] (.one (.d (Dm.int (if q = 0 then 1 else q) (k + 3)))) := by
  refine Con.of (n := 11) Tryz.func47 rfl rfl rfl rfl rfl fun cx => ?_
  refine CV.seq ?_
  refine CV.region rfl (fun h => nomatch h) ?_
  refine RV.step2 (OpOk.plain (ok_box (i := 0) rfl rfl (by decide) rfl rfl rfl rfl) rfl) ?_
  refine RV.step2 (OpOk.plain (ok_alloc (i := 1) rfl rfl (by decide) zero_int rfl rfl rfl) rfl) ?_
  refine RV.done ?_
  refine CV.seq ?_
  refine CV.seq ?_
  refine CV.region rfl (fun h => nomatch h) ?_
  refine RV.step1 (OpOk.plain (ok_fieldAddr fa_rat1 rfl rfl (by decide) rfl) rfl) ?_
  refine RV.step1 (OpOk.plain (ok_fieldAddr fa_int1 rfl rfl (by decide) rfl) rfl) ?_
  refine RV.step1 (OpOk.plain (ok_loadf 3 fld_dden rfl rfl (by decide) rfl rfl rfl rfl ty_ints) rfl) ?_
  refine RV.step1 (OpOk.plain (ok_len rfl rfl (by decide) rfl) rfl) ?_
  refine RV.step1 (OpOk.plain (ok_eql rfl rfl (by decide) rfl rfl) rfl) ?_
  refine RV.done ?_
  refine CV.cond rfl (fun hc => ?_) (fun hc => ?_)
  · refine CV.seq ?_
    refine CV.region rfl (fun h => nomatch h) ?_
    refine RV.step1 (OpOk.plain (ok_call (rOf_con _ (by decide) (by decide)) rfl rfl (by decide) Tryz.func17 rfl rfl (.cons rfl Conv.any .nil) rfl) rfl) ?_
    refine RV.step1 (OpOk.plain (ok_store rfl rfl rfl rfl rfl rfl rfl (ty_int).2 rfl rfl rfl) rfl) ?_
    refine RV.done ?_
    refine CV.ret ?_
    rw [dig_len_zero] at hc
    exact fin1 rfl (.inr rfl) ⟨_, _, _, _, _, rfl, rfl, rfl, ty_int⟩ (is_int' (by rw [if_pos (by simpa using hc)]) (by omega))
  · refine CV.skip ?_
    refine CV.seq ?_
    refine CV.region rfl (fun h => nomatch h) ?_
    refine RV.step1 (OpOk.plain (ok_fieldAddr fa_rat1 rfl rfl (by decide) rfl) rfl) ?_
    refine RV.step1 (OpOk.plain (ok_loadf 2 fld_den rfl rfl (by decide) rfl rfl rfl rfl ty_int) rfl) ?_
    refine RV.step1 (OpOk.plain (ok_store rfl rfl rfl rfl rfl rfl rfl (ty_int).2 rfl rfl rfl) rfl) ?_
    refine RV.done ?_
    refine CV.ret ?_
    rw [dig_len_zero] at hc
    exact fin1 rfl (.inr rfl) ⟨_, _, _, _, _, rfl, rfl, rfl, ty_int⟩ (is_int' (by rw [if_neg (by simpa using hc)]) (by omega))
theorem rDen_con' (a : Rat) (k : Nat) : Con Tryz.prog 47 [RT a k] (.one (.d (Dm.int a.den (k + 3)))) := by
  have h := rDen_con a.num (qd a) k
  rwa [dn_qd] at h
theorem zero_divInt' (q : Int) : (Rat.divInt 0 q).num = 0 ∧ qd (Rat.divInt 0 q) = 0 := by
  rw [Rat.zero_divInt]
  exact ⟨rfl, rfl⟩
theorem make_num (p q : Int) (hq : q ≠ 0) : (Rat.divInt p q).num = (q / (Int.gcd p q : Nat)).sign * (p / (Int.gcd p q : Nat)) ∧ qd (Rat.divInt p q) = (if (q / (Int.gcd p q : Nat)).natAbs = 1 then 0 else ((q / (Int.gcd p q : Nat)).natAbs : Int)) := by
  obtain ⟨h1, h2⟩ := make_facts p q hq
  have h3 : q / (Int.gcd p q : Nat) ≠ 0 := by
    intro e
    have d2 : ((Int.gcd p q : Nat) : Int) ∣ q := Int.gcd_dvd_right ..
    have := Int.ediv_mul_cancel d2
    rw [e, Int.zero_mul] at this
    exact hq this.symm
  rw [← h2]
  exact ⟨low_num h1, low_qd h1 h3⟩
set_option maxRecDepth 100000 in
theorem rMake_con (p q : Int) (j k : Nat) (hj : j ≤ 10000000) (hk : k ≤ 10000000) : Con Tryz.prog 46 [.d (Dm.int p j), .d (Dm.int q k)] (.one (RT (Rat.divInt p q) (j + k))) := by
  refine Con.of (n := 49) Tryz.func46 rfl rfl rfl rfl rfl fun cx => ?_
  refine CV.seq ?_
  refine CV.region rfl (fun h => nomatch h) ?_
  refine RV.step2 (OpOk.plain (ok_box (i := 0) rfl rfl (by decide) rfl rfl rfl rfl) rfl) ?_
  refine RV.step2 (OpOk.plain (ok_box (i := 1) rfl rfl (by decide) rfl rfl rfl rfl) rfl) ?_
  refine RV.step2 (OpOk.plain (ok_alloc (i := 2) rfl rfl (by decide) zero_rat rfl rfl rfl) rfl) ?_
  refine RV.done ?_
  refine CV.seq ?_
  refine CV.seq ?_
  refine CV.region rfl (fun h => nomatch h) ?_
  refine RV.step1 (OpOk.plain (ok_fieldAddr fa_int1 rfl rfl (by decide) rfl) rfl) ?_
  refine RV.step1 (OpOk.plain (ok_loadf 1 fld_dig rfl rfl (by decide) rfl rfl rfl rfl ty_ints) rfl) ?_
  refine RV.step1 (OpOk.plain (ok_len rfl rfl (by decide) rfl) rfl) ?_
  refine RV.step1 (OpOk.plain (ok_eql rfl rfl (by decide) rfl rfl) rfl) ?_
  refine RV.step1 (OpOk.plain (ok_move (.inl rfl) rfl (by decide) rfl) rfl) ?_
  refine RV.bool (fun h1 => ?_) (fun h1 => ?_)
  · refine RV.step1 (OpOk.skip rfl rfl rfl rfl rfl (by decide)) ?_
    refine RV.step1 (OpOk.skip rfl rfl rfl rfl rfl (by decide)) ?_
    refine RV.step1 (OpOk.skip rfl rfl rfl rfl rfl (by decide)) ?_
    refine RV.step1 (OpOk.skip rfl rfl rfl rfl rfl (by decide)) ?_
    refine RV.step1 (OpOk.plain (ok_pickT rfl rfl (by decide) rfl rfl rfl) rfl) ?_
    refine RV.done ?_
    refine CV.yes rfl ?_
    refine CV.seq ?_
    refine CV.region rfl (fun h => nomatch h) ?_
    refine RV.step1 (OpOk.plain (ok_build0 rfl rfl (by decide)) rfl) ?_
    refine RV.step1 (OpOk.plain (ok_store rfl rfl rfl rfl rfl rfl rfl (ty_rat).2 rfl rfl rfl) rfl) ?_
    refine RV.done ?_
    refine CV.ret ?_
    rw [dig_len_zero] at h1
    obtain rfl : q = 0 := by simpa using h1
    exact fin1 rfl (.inr rfl) ⟨_, _, _, _, _, rfl, rfl, rfl, ty_rat⟩ (is_rt (qd_of_zero p).1.symm (qd_of_zero p).2.symm (by omega))
  · refine RV.step1 (OpOk.yes (ok_fieldAddr fa_int1 rfl rfl (by decide) rfl) rfl rfl rfl) ?_
    refine RV.step1 (OpOk.yes (ok_loadf 1 fld_dig rfl rfl (by decide) rfl rfl rfl rfl ty_ints) rfl rfl rfl) ?_
    refine RV.step1 (OpOk.yes (ok_len rfl rfl (by decide) rfl) rfl rfl rfl) ?_
    refine RV.step1 (OpOk.yes (ok_eql rfl rfl (by decide) rfl rfl) rfl rfl rfl) ?_
    refine RV.step1 (OpOk.plain (ok_pickF rfl rfl (by decide) rfl rfl rfl) rfl) ?_
    refine RV.done ?_
    refine CV.cond rfl (fun h2 => ?_) (fun h2 => ?_)
    · refine CV.seq ?_
      refine CV.region rfl (fun h => nomatch h) ?_
      refine RV.step1 (OpOk.plain (ok_build0 rfl rfl (by decide)) rfl) ?_
      refine RV.step1 (OpOk.plain (ok_store rfl rfl rfl rfl rfl rfl rfl (ty_rat).2 rfl rfl rfl) rfl) ?_
      refine RV.done ?_
      refine CV.ret ?_
      rw [dig_len_zero] at h2
      obtain rfl : p = 0 := by simpa using h2
      exact fin1 rfl (.inr rfl) ⟨_, _, _, _, _, rfl, rfl, rfl, ty_rat⟩ (is_rt (zero_divInt' q).1.symm (zero_divInt' q).2.symm (by omega))
    · refine CV.skip ?_
      refine CV.seq ?_
      refine CV.region rfl (fun h => nomatch h) ?_
      refine RV.step1 (OpOk.plain (ok_load rfl rfl (by decide) rfl rfl rfl ty_int) rfl) ?_
      refine RV.step1 (OpOk.plain (ok_load rfl rfl (by decide) rfl rfl rfl ty_int) rfl) ?_
      refine RV.step1 (OpOk.plain (ok_call (rGcd_con _ _ (by omega) (by omega)) rfl rfl (by decide) Tryz.func31 rfl rfl (.cons rfl Conv.any (.cons rfl Conv.any .nil)) rfl) rfl) ?_
      refine RV.step2 (OpOk.plain (ok_alloc (i := 3) rfl rfl (by decide) zero_int rfl rfl rfl) rfl) ?_
      refine RV.step1 (OpOk.plain (ok_store rfl rfl rfl rfl rfl rfl rfl (ty_int).2 rfl rfl rfl) rfl) ?_
      refine RV.done ?_
      refine CV.seq ?_
      refine CV.region rfl (fun h => nomatch h) ?_
      refine RV.step1 (OpOk.plain (ok_load rfl rfl (by decide) rfl rfl rfl ty_int) rfl) ?_
      refine RV.step1 (OpOk.plain (ok_load rfl rfl (by decide) rfl rfl rfl ty_int) rfl) ?_
      refine RV.step1 (OpOk.plain (ok_call (rDiv_con _ _ (by omega) (by omega)) rfl rfl (by decide) Tryz.func29 rfl rfl (.cons rfl Conv.any (.cons rfl Conv.any .nil)) rfl) rfl) ?_
      refine RV.step1 (OpOk.plain (ok_move (.inl rfl) rfl (by decide) rfl) rfl) ?_
      refine RV.step1 (OpOk.plain (ok_extract rfl rfl (by decide) rfl rfl) rfl) ?_
      refine RV.step1 (OpOk.plain (ok_extract rfl rfl (by decide) rfl rfl) rfl) ?_
      refine RV.step2 (OpOk.plain (ok_alloc (i := 4) rfl rfl (by decide) zero_int rfl rfl rfl) rfl) ?_
      refine RV.step2 (OpOk.plain (ok_alloc (i := 5) rfl rfl (by decide) zero_int rfl rfl rfl) rfl) ?_
      refine RV.step1 (OpOk.plain (ok_store rfl rfl rfl rfl rfl rfl rfl (ty_int).2 rfl rfl rfl) rfl) ?_
      refine RV.step1 (OpOk.plain (ok_store rfl rfl rfl rfl rfl rfl rfl (ty_int).2 rfl rfl rfl) rfl) ?_
      refine RV.done ?_
      refine CV.seq ?_
      refine CV.region rfl (fun h => nomatch h) ?_
      refine RV.step1 (OpOk.plain (ok_load rfl rfl (by decide) rfl rfl rfl ty_int) rfl) ?_
      refine RV.step1 (OpOk.plain (ok_load rfl rfl (by decide) rfl rfl rfl ty_int) rfl) ?_
      refine RV.step1 (OpOk.plain (ok_call (rDiv_con _ _ (by omega) (by omega)) rfl rfl (by decide) Tryz.func29 rfl rfl (.cons rfl Conv.any (.cons rfl Conv.any .nil)) rfl) rfl) ?_
      refine RV.step1 (OpOk.plain (ok_move (.inl rfl) rfl (by decide) rfl) rfl) ?_
      refine RV.step1 (OpOk.plain (ok_extract rfl rfl (by decide) rfl rfl) rfl) ?_
      refine RV.step1 (OpOk.plain (ok_extract rfl rfl (by decide) rfl rfl) rfl) ?_
      refine RV.step2 (OpOk.plain (ok_alloc (i := 6) rfl rfl (by decide) zero_int rfl rfl rfl) rfl) ?_
      refine RV.step2 (OpOk.plain (ok_alloc (i := 7) rfl rfl (by decide) zero_int rfl rfl rfl) rfl) ?_
      refine RV.step1 (OpOk.plain (ok_store rfl rfl rfl rfl rfl rfl rfl (ty_int).2 rfl rfl rfl) rfl) ?_
      refine RV.step1 (OpOk.plain (ok_store rfl rfl rfl rfl rfl rfl rfl (ty_int).2 rfl rfl rfl) rfl) ?_
      refine RV.done ?_
      refine CV.seq ?_
      refine CV.seq ?_
      refine CV.region rfl (fun h => nomatch h) ?_
      refine RV.step1 (OpOk.plain (ok_fieldAddr fa_int0 rfl rfl (by decide) rfl) rfl) ?_
      refine RV.step1 (OpOk.plain (ok_loadf 0 fld_neg rfl rfl (by decide) rfl rfl rfl rfl ty_bool) rfl) ?_
      refine RV.done ?_
      refine CV.cond rfl (fun h3 => ?_) (fun h3 => ?_)
      · refine CV.seq ?_
        refine CV.region rfl (fun h => nomatch h) ?_
        refine RV.step1 (OpOk.plain (ok_load rfl rfl (by decide) rfl rfl rfl ty_int) rfl) ?_
        refine RV.step1 (OpOk.plain (ok_call (rNeg_con _) rfl rfl (by decide) Tryz.func100 rfl rfl (.cons rfl Conv.any .nil) rfl) rfl) ?_
        refine RV.step1 (OpOk.plain (ok_store rfl rfl rfl rfl rfl rfl rfl (ty_int).2 rfl rfl rfl) rfl) ?_
        refine RV.done ?_
        refine CV.region rfl (fun h => nomatch h) ?_
        refine RV.step1 (OpOk.plain (ok_load rfl rfl (by decide) rfl rfl rfl ty_int) rfl) ?_
        refine RV.step1 (OpOk.plain (ok_call (rNeg_con _) rfl rfl (by decide) Tryz.func100 rfl rfl (.cons rfl Conv.any .nil) rfl) rfl) ?_
        refine RV.step1 (OpOk.plain (ok_store rfl rfl rfl rfl rfl rfl rfl (ty_int).2 rfl rfl rfl) rfl) ?_
        refine RV.done ?_
        refine CV.seq ?_
        refine CV.seq ?_
        refine CV.region rfl (fun h => nomatch h) ?_
        refine RV.step1 (OpOk.plain (ok_load rfl rfl (by decide) rfl rfl rfl ty_int) rfl) ?_
        refine RV.step1 (OpOk.plain (ok_call (rone_con _ _) rfl rfl (by decide) Tryz.func127 rfl rfl (.cons rfl Conv.any .nil) rfl) rfl) ?_
        refine RV.done ?_
        refine CV.cond rfl (fun h4 => ?_) (fun h4 => ?_)
        · refine CV.seq ?_
          refine CV.region rfl (fun h => nomatch h) ?_
          refine RV.step1 (OpOk.plain (ok_load rfl rfl (by decide) rfl rfl rfl ty_int) rfl) ?_
          refine RV.step1 (OpOk.plain (ok_build1 rfl rfl (by decide) rfl) rfl) ?_
          refine RV.step1 (OpOk.plain (ok_store rfl rfl rfl rfl rfl rfl rfl (ty_rat).2 rfl rfl rfl) rfl) ?_
          refine RV.done ?_
          refine CV.ret ?_
          rw [dig_len_zero] at h1
          have hq : q ≠ 0 := by simpa using h1
          obtain ⟨e1, e2⟩ := make_num p q hq
          have h3 : q / (Int.gcd p q : Nat) < 0 := by simpa using h3
          have h4 : -(q / (Int.gcd p q : Nat)) = 1 := by simpa using h4
          exact fin1 rfl (.inr rfl) ⟨_, _, _, _, _, rfl, rfl, rfl, ty_rat⟩ (is_rt (by rw [e1, Int.sign_eq_neg_one_of_neg h3]; omega) (by rw [e2, if_pos (by omega)]) (by omega))
        · refine CV.skip ?_
          refine CV.seq ?_
          refine CV.region rfl (fun h => nomatch h) ?_
          refine RV.step1 (OpOk.plain (ok_load rfl rfl (by decide) rfl rfl rfl ty_int) rfl) ?_
          refine RV.step1 (OpOk.plain (ok_load rfl rfl (by decide) rfl rfl rfl ty_int) rfl) ?_
          refine RV.step1 (OpOk.plain (ok_build2 rfl rfl (by decide) rfl rfl) rfl) ?_
          refine RV.step1 (OpOk.plain (ok_store rfl rfl rfl rfl rfl rfl rfl (ty_rat).2 rfl rfl rfl) rfl) ?_
          refine RV.done ?_
          refine CV.ret ?_
          rw [dig_len_zero] at h1
          have hq : q ≠ 0 := by simpa using h1
          obtain ⟨e1, e2⟩ := make_num p q hq
          have h3 : q / (Int.gcd p q : Nat) < 0 := by simpa using h3
          have h4 : ¬ -(q / (Int.gcd p q : Nat)) = 1 := by simpa using h4
          exact fin1 rfl (.inr rfl) ⟨_, _, _, _, _, rfl, rfl, rfl, ty_rat⟩ (is_rt (by rw [e1, Int.sign_eq_neg_one_of_neg h3]; omega) (by rw [e2, if_neg (by omega)]; omega) (by omega))
      · refine CV.skip ?_
        refine CV.seq ?_
        refine CV.seq ?_
        refine CV.region rfl (fun h => nomatch h) ?_
        refine RV.step1 (OpOk.plain (ok_load rfl rfl (by decide) rfl rfl rfl ty_int) rfl) ?_
        refine RV.step1 (OpOk.plain (ok_call (rone_con _ _) rfl rfl (by decide) Tryz.func127 rfl rfl (.cons rfl Conv.any .nil) rfl) rfl) ?_
        refine RV.done ?_
        refine CV.cond rfl (fun h4 => ?_) (fun h4 => ?_)
        · refine CV.seq ?_
          refine CV.region rfl (fun h => nomatch h) ?_
          refine RV.step1 (OpOk.plain (ok_load rfl rfl (by decide) rfl rfl rfl ty_int) rfl) ?_
          refine RV.step1 (OpOk.plain (ok_build1 rfl rfl (by decide) rfl) rfl) ?_
          refine RV.step1 (OpOk.plain (ok_store rfl rfl rfl rfl rfl rfl rfl (ty_rat).2 rfl rfl rfl) rfl) ?_
          refine RV.done ?_
          refine CV.ret ?_
          rw [dig_len_zero] at h1
          have hq : q ≠ 0 := by simpa using h1
          obtain ⟨e1, e2⟩ := make_num p q hq
          have h3 : ¬ q / (Int.gcd p q : Nat) < 0 := by simpa using h3
          have h4 : q / (Int.gcd p q : Nat) = 1 := by simpa using h4
          exact fin1 rfl (.inr rfl) ⟨_, _, _, _, _, rfl, rfl, rfl, ty_rat⟩ (is_rt (by rw [e1, h4]; simp) (by rw [e2, h4]; rfl) (by omega))
        · refine CV.skip ?_
          refine CV.seq ?_
          refine CV.region rfl (fun h => nomatch h) ?_
          refine RV.step1 (OpOk.plain (ok_load rfl rfl (by decide) rfl rfl rfl ty_int) rfl) ?_
          refine RV.step1 (OpOk.plain (ok_load rfl rfl (by decide) rfl rfl rfl ty_int) rfl) ?_
          refine RV.step1 (OpOk.plain (ok_build2 rfl rfl (by decide) rfl rfl) rfl) ?_
          refine RV.step1 (OpOk.plain (ok_store rfl rfl rfl rfl rfl rfl rfl (ty_rat).2 rfl rfl rfl) rfl) ?_
          refine RV.done ?_
          refine CV.ret ?_
          rw [dig_len_zero] at h1
          have hq : q ≠ 0 := by simpa using h1
          obtain ⟨e1, e2⟩ := make_num p q hq
          have h3 : ¬ q / (Int.gcd p q : Nat) < 0 := by simpa using h3
          have h4 : ¬ q / (Int.gcd p q : Nat) = 1 := by simpa using h4
          have h5 : q / (Int.gcd p q : Nat) ≠ 0 := fun e => hq (by have d2 : ((Int.gcd p q : Nat) : Int) ∣ q := Int.gcd_dvd_right .. ; have := Int.ediv_mul_cancel d2; rw [e, Int.zero_mul] at this; exact this.symm)
          exact fin1 rfl (.inr rfl) ⟨_, _, _, _, _, rfl, rfl, rfl, ty_rat⟩ (is_rt (by rw [e1, Int.sign_eq_one_of_pos (by omega)]; omega) (by rw [e2, if_neg (by omega)]; omega) (by omega))
set_option maxRecDepth 100000 in
theorem rfOf_con (p q : Int) (h1 : -9223372036854775808 ≤ p) (h2 : p ≤ 9223372036854775807) (h3 : -9223372036854775808 ≤ q) (h4 : q ≤ 9223372036854775807) : Con Tryz.prog 53 [.v (.int .i64 p), .v (.int .i64 q)] (.one (RT (Rat.divInt p q) 6)) := by
  refine Con.of (n := 10) Tryz.func53 rfl rfl rfl rfl rfl fun cx => ?_
  refine CV.seq ?_
  refine CV.region rfl (fun h => nomatch h) ?_
  refine RV.step2 (OpOk.plain (ok_alloc (i := 0) rfl rfl (by decide) zero_rat rfl rfl rfl) rfl) ?_
  refine RV.done ?_
  refine CV.seq ?_
  refine CV.region rfl (fun h => nomatch h) ?_
  refine RV.step1 (OpOk.plain (ok_move (.inl rfl) rfl (by decide) rfl) rfl) ?_
  refine RV.step1 (OpOk.plain (ok_call (rOf_con p h1 h2) rfl rfl (by decide) Tryz.func17 rfl rfl (.cons rfl Conv.any .nil) rfl) rfl) ?_
  refine RV.step1 (OpOk.plain (ok_move (.inl rfl) rfl (by decide) rfl) rfl) ?_
  refine RV.step1 (OpOk.plain (ok_call (rOf_con q h3 h4) rfl rfl (by decide) Tryz.func17 rfl rfl (.cons rfl Conv.any .nil) rfl) rfl) ?_
  refine RV.step1 (OpOk.plain (ok_call (rMake_con _ _ _ _ (by omega) (by omega)) rfl rfl (by decide) Tryz.func46 rfl rfl (.cons rfl Conv.any (.cons rfl Conv.any .nil)) rfl) rfl) ?_
  refine RV.step1 (OpOk.plain (ok_store rfl rfl rfl rfl rfl rfl rfl (ty_rat).2 rfl rfl rfl) rfl) ?_
  refine RV.done ?_
  refine CV.ret ?_
  exact fin1 rfl (.inr rfl) ⟨_, _, _, _, _, rfl, rfl, rfl, ty_rat⟩ is_rfl
set_option maxRecDepth 100000 in
theorem rfSame_con (a b : Rat) (j k : Nat) : Con Tryz.prog 73 [RT a j, RT b k] (.one (.v (.bool (decide (a = b))))) := by
  refine Con.of (n := 17) Tryz.func73 rfl rfl rfl rfl rfl fun cx => ?_
  refine CV.seq ?_
  refine CV.region rfl (fun h => nomatch h) ?_
  refine RV.step2 (OpOk.plain (ok_box (i := 0) rfl rfl (by decide) rfl rfl rfl rfl) rfl) ?_
  refine RV.step2 (OpOk.plain (ok_box (i := 1) rfl rfl (by decide) rfl rfl rfl rfl) rfl) ?_
  refine RV.step1 (OpOk.plain (ok_move (.inr rfl) rfl (by decide) rfl) rfl) ?_
  refine RV.done ?_
  refine CV.seq ?_
  refine CV.region rfl (fun h => nomatch h) ?_
  refine RV.step1 (OpOk.plain (ok_fieldAddr fa_rat0 rfl rfl (by decide) rfl) rfl) ?_
  refine RV.step1 (OpOk.plain (ok_loadf 0 fld_num rfl rfl (by decide) rfl rfl rfl rfl ty_int) rfl) ?_
  refine RV.step1 (OpOk.plain (ok_fieldAddr fa_rat0 rfl rfl (by decide) rfl) rfl) ?_
  refine RV.step1 (OpOk.plain (ok_loadf 0 fld_num rfl rfl (by decide) rfl rfl rfl rfl ty_int) rfl) ?_
  refine RV.step1 (OpOk.plain (ok_call (rSame_con _ _) rfl rfl (by decide) Tryz.func54 rfl rfl (.cons rfl Conv.any (.cons rfl Conv.any .nil)) rfl) rfl) ?_
  refine RV.step1 (OpOk.plain (ok_move (.inl rfl) rfl (by decide) rfl) rfl) ?_
  refine RV.bool (fun h1 => ?_) (fun h1 => ?_)
  · refine RV.step1 (OpOk.yes (ok_fieldAddr fa_rat1 rfl rfl (by decide) rfl) rfl rfl rfl) ?_
    refine RV.step1 (OpOk.yes (ok_loadf 2 fld_den rfl rfl (by decide) rfl rfl rfl rfl ty_int) rfl rfl rfl) ?_
    refine RV.step1 (OpOk.yes (ok_fieldAddr fa_rat1 rfl rfl (by decide) rfl) rfl rfl rfl) ?_
    refine RV.step1 (OpOk.yes (ok_loadf 2 fld_den rfl rfl (by decide) rfl rfl rfl rfl ty_int) rfl rfl rfl) ?_
    refine RV.step1 (OpOk.yes (ok_call (rSame_con _ _) rfl rfl (by decide) Tryz.func54 rfl rfl (.cons rfl Conv.any (.cons rfl Conv.any .nil)) rfl) rfl rfl rfl) ?_
    refine RV.step1 (OpOk.plain (ok_pickT rfl rfl (by decide) rfl rfl rfl) rfl) ?_
    refine RV.step1 (OpOk.plain (ok_move (.inr rfl) rfl (by decide) rfl) rfl) ?_
    refine RV.done ?_
    refine CV.ret ?_
    have e1 : a.num = b.num := by simpa using h1
    refine fin1 rfl (.inr rfl) rfl (is_bool ?_)
    rw [Bool.eq_iff_iff, decide_eq_true_eq, decide_eq_true_eq]
    exact ⟨fun e2 => Rat.ext e1 (qd_eq e2), fun e => by rw [e]⟩
  · refine RV.step1 (OpOk.skip rfl rfl rfl rfl rfl (by decide)) ?_
    refine RV.step1 (OpOk.skip rfl rfl rfl rfl rfl (by decide)) ?_
    refine RV.step1 (OpOk.skip rfl rfl rfl rfl rfl (by decide)) ?_
    refine RV.step1 (OpOk.skip rfl rfl rfl rfl rfl (by decide)) ?_
    refine RV.step1 (OpOk.skip rfl rfl rfl rfl rfl (by decide)) ?_
    refine RV.step1 (OpOk.plain (ok_pickF rfl rfl (by decide) rfl rfl rfl) rfl) ?_
    refine RV.step1 (OpOk.plain (ok_move (.inr rfl) rfl (by decide) rfl) rfl) ?_
    refine RV.done ?_
    refine CV.ret ?_
    have e2 : ¬ a.num = b.num := by simpa using h1
    exact fin1 rfl (.inr rfl) rfl (is_bool (by rw [eq_comm, decide_eq_false_iff_not]; rintro rfl; exact e2 rfl))
set_option maxRecDepth 100000 in
theorem same5_con (a b : Rat) (j k : Nat) : Con Tryz.prog 50 [RT a j, RT b k] (.one (.v (.bool (decide (a = b))))) := by
  refine Con.of (n := 8) Tryz.func50 rfl rfl rfl rfl rfl fun cx => ?_
  refine CV.seq ?_
  refine CV.region rfl (fun h => nomatch h) ?_
  refine RV.step2 (OpOk.plain (ok_box (i := 0) rfl rfl (by decide) rfl rfl rfl rfl) rfl) ?_
  refine RV.step2 (OpOk.plain (ok_box (i := 1) rfl rfl (by decide) rfl rfl rfl rfl) rfl) ?_
  refine RV.step1 (OpOk.plain (ok_move (.inr rfl) rfl (by decide) rfl) rfl) ?_
  refine RV.done ?_
  refine CV.seq ?_
  refine CV.region rfl (fun h => nomatch h) ?_
  refine RV.step1 (OpOk.plain (ok_load rfl rfl (by decide) rfl rfl rfl ty_rat) rfl) ?_
  refine RV.step1 (OpOk.plain (ok_load rfl rfl (by decide) rfl rfl rfl ty_rat) rfl) ?_
  refine RV.step1 (OpOk.plain (ok_call (rfSame_con _ _ _ _) rfl rfl (by decide) Tryz.func73 rfl rfl (.cons rfl Conv.any (.cons rfl Conv.any .nil)) rfl) rfl) ?_
  refine RV.step1 (OpOk.plain (ok_move (.inr rfl) rfl (by decide) rfl) rfl) ?_
  refine RV.done ?_
  refine CV.ret ?_
  exact fin1 rfl (.inr rfl) rfl is_rfl
theorem same5T_con {a b : Rat} (h : a = b) {j k : Nat} : Con Tryz.prog 50 [RT a j, RT b k] (.one (.v (.bool true))) := by
  have h2 := same5_con a b j k
  rwa [show decide (a = b) = true by simpa using h] at h2

theorem At_c (zs : List Int) (i : Nat) (m : Int) (hm : 1 ≤ m) (hm2 : m ≤ 9223372036854775807) : Con Tryz.prog 94 [.d (Dm.ints zs), .v (.int .i64 (i : Int)), .v (.int .i64 m)] (.one (.v (.int .i64 (atI zs i m)))) := by
  have h := At_con zs (i : Int) m (by omega) hm hm2
  rwa [Int.toNat_natCast] at h
/-- The number that a list of numbers stands for. -/
def numR (zs : List Int) : Rat :=
  if atI zs 0 8 = 7 then Rat.divInt (numI zs 1) (numI zs 9)
  else if atI zs 0 8 < 2 then Rat.divInt (atI zs 1 61 - 30) 1
  else if atI zs 0 8 < 4 then Rat.divInt (atI zs 1 61 - 30) (1 + atI zs 2 9)
  else Rat.divInt (atI zs 1 20001 - 10000) (1 + atI zs 2 1000)
set_option maxRecDepth 100000 in
theorem NumberR_con (zs : List Int) : Con Tryz.prog 57 [.d (Dm.ints zs), .v (.int .i64 0)] (.one (RT (numR zs) 14)) := by
  have b0 := atI_bd zs 0 8 (by decide)
  have b1 := atI_bd zs 1 61 (by decide)
  have b2 := atI_bd zs 2 9 (by decide)
  have b3 := atI_bd zs 1 20001 (by decide)
  have b4 := atI_bd zs 2 1000 (by decide)
  refine Con.of (n := 50) Tryz.func57 rfl rfl rfl rfl rfl fun cx => ?_
  refine CV.seq ?_
  refine CV.region rfl (fun h => nomatch h) ?_
  refine RV.step2 (OpOk.plain (ok_alloc (i := 0) rfl rfl (by decide) zero_rat rfl rfl rfl) rfl) ?_
  refine RV.done ?_
  refine CV.seq ?_
  refine CV.region rfl (fun h => nomatch h) ?_
  refine RV.step1 (OpOk.plain (ok_move (.inl rfl) rfl (by decide) rfl) rfl) ?_
  refine RV.step1 (OpOk.plain (ok_move (.inl rfl) rfl (by decide) rfl) rfl) ?_
  refine RV.step1 (OpOk.plain (ok_call (At_c zs 0 8 (by decide) (by decide)) rfl rfl (by decide) Tryz.func94 rfl rfl (.cons rfl Conv.any (.cons rfl Conv.any (.cons rfl Conv.any .nil))) rfl) rfl) ?_
  refine RV.step1 (OpOk.plain (ok_move (.inr rfl) rfl (by decide) rfl) rfl) ?_
  refine RV.done ?_
  refine CV.seq ?_
  refine CV.seq ?_
  refine CV.region rfl (fun h => nomatch h) ?_
  refine RV.step1 (OpOk.plain (ok_move (.inl rfl) rfl (by decide) rfl) rfl) ?_
  refine RV.step1 (OpOk.plain (ok_eql rfl rfl (by decide) rfl rfl) rfl) ?_
  refine RV.done ?_
  refine CV.cond rfl (fun h1 => ?_) (fun h1 => ?_)
  · refine CV.seq ?_
    refine CV.region rfl (fun h => nomatch h) ?_
    refine RV.step1 (OpOk.plain (ok_move (.inl rfl) rfl (by decide) rfl) rfl) ?_
    refine RV.step1 (OpOk.plain (ok_move (.inl rfl) rfl (by decide) rfl) rfl) ?_
    refine RV.step1 (OpOk.plain (ok_add (c := 1) (by rfl) rfl rfl (by decide) rfl rfl) rfl) ?_
    refine RV.step1 (OpOk.plain (ok_call (Number_con zs 1 (by decide)) rfl rfl (by decide) Tryz.func14 rfl rfl (.cons rfl Conv.any (.cons rfl Conv.any .nil)) rfl) rfl) ?_
    refine RV.step1 (OpOk.plain (ok_move (.inl rfl) rfl (by decide) rfl) rfl) ?_
    refine RV.step1 (OpOk.plain (ok_move (.inl rfl) rfl (by decide) rfl) rfl) ?_
    refine RV.step1 (OpOk.plain (ok_add (c := 9) (by rfl) rfl rfl (by decide) rfl rfl) rfl) ?_
    refine RV.step1 (OpOk.plain (ok_call (Number_con zs 9 (by decide)) rfl rfl (by decide) Tryz.func14 rfl rfl (.cons rfl Conv.any (.cons rfl Conv.any .nil)) rfl) rfl) ?_
    refine RV.step1 (OpOk.plain (ok_call (rMake_con _ _ _ _ (by decide) (by decide)) rfl rfl (by decide) Tryz.func46 rfl rfl (.cons rfl Conv.any (.cons rfl Conv.any .nil)) rfl) rfl) ?_
    refine RV.step1 (OpOk.plain (ok_store rfl rfl rfl rfl rfl rfl rfl (ty_rat).2 rfl rfl rfl) rfl) ?_
    refine RV.done ?_
    refine CV.ret ?_
    have e : numR zs = Rat.divInt (numI zs 1) (numI zs 9) := by unfold numR; rw [if_pos (by simpa using h1)]
    exact fin1 rfl (.inr rfl) ⟨_, _, _, _, _, rfl, rfl, rfl, ty_rat⟩ (is_rt (by rw [e]) (by rw [e]) (by omega))
  · refine CV.skip ?_
    refine CV.seq ?_
    refine CV.region rfl (fun h => nomatch h) ?_
    refine RV.step1 (OpOk.plain (ok_move (.inl rfl) rfl (by decide) rfl) rfl) ?_
    refine RV.step1 (OpOk.plain (ok_move (.inl rfl) rfl (by decide) rfl) rfl) ?_
    refine RV.step1 (OpOk.plain (ok_add (c := 1) (by rfl) rfl rfl (by decide) rfl rfl) rfl) ?_
    refine RV.step1 (OpOk.plain (ok_call (At_c zs 1 61 (by decide) (by decide)) rfl rfl (by decide) Tryz.func94 rfl rfl (.cons rfl Conv.any (.cons rfl Conv.any (.cons rfl Conv.any .nil))) rfl) rfl) ?_
    refine RV.step1 (OpOk.plain (ok_sub (c := atI zs 1 61 - 30) (by exact wrapI (by omega) (by omega)) rfl rfl (by decide) rfl rfl) rfl) ?_
    refine RV.step1 (OpOk.plain (ok_move (.inr rfl) rfl (by decide) rfl) rfl) ?_
    refine RV.done ?_
    refine CV.seq ?_
    refine CV.seq ?_
    refine CV.region rfl (fun h => nomatch h) ?_
    refine RV.step1 (OpOk.plain (ok_move (.inl rfl) rfl (by decide) rfl) rfl) ?_
    refine RV.step1 (OpOk.plain (ok_lss rfl rfl (by decide) rfl rfl) rfl) ?_
    refine RV.done ?_
    refine CV.cond rfl (fun h2 => ?_) (fun h2 => ?_)
    · refine CV.seq ?_
      refine CV.region rfl (fun h => nomatch h) ?_
      refine RV.step1 (OpOk.plain (ok_move (.inl rfl) rfl (by decide) rfl) rfl) ?_
      refine RV.step1 (OpOk.plain (ok_call (rfOf_con _ _ (by omega) (by omega) (by omega) (by omega)) rfl rfl (by decide) Tryz.func53 rfl rfl (.cons rfl Conv.any (.cons rfl Conv.any .nil)) rfl) rfl) ?_
      refine RV.step1 (OpOk.plain (ok_store rfl rfl rfl rfl rfl rfl rfl (ty_rat).2 rfl rfl rfl) rfl) ?_
      refine RV.done ?_
      refine CV.ret ?_
      have e : numR zs = Rat.divInt (atI zs 1 61 - 30) 1 := by unfold numR; rw [if_neg (by simpa using h1), if_pos (by simpa using h2)]
      exact fin1 rfl (.inr rfl) ⟨_, _, _, _, _, rfl, rfl, rfl, ty_rat⟩ (is_rt (by rw [e]) (by rw [e]) (by omega))
    · refine CV.skip ?_
      refine CV.seq ?_
      refine CV.seq ?_
      refine CV.region rfl (fun h => nomatch h) ?_
      refine RV.step1 (OpOk.plain (ok_move (.inl rfl) rfl (by decide) rfl) rfl) ?_
      refine RV.step1 (OpOk.plain (ok_lss rfl rfl (by decide) rfl rfl) rfl) ?_
      refine RV.done ?_
      refine CV.cond rfl (fun h3 => ?_) (fun h3 => ?_)
      · refine CV.seq ?_
        refine CV.region rfl (fun h => nomatch h) ?_
        refine RV.step1 (OpOk.plain (ok_move (.inl rfl) rfl (by decide) rfl) rfl) ?_
        refine RV.step1 (OpOk.plain (ok_move (.inl rfl) rfl (by decide) rfl) rfl) ?_
        refine RV.step1 (OpOk.plain (ok_move (.inl rfl) rfl (by decide) rfl) rfl) ?_
        refine RV.step1 (OpOk.plain (ok_add (c := 2) (by rfl) rfl rfl (by decide) rfl rfl) rfl) ?_
        refine RV.step1 (OpOk.plain (ok_call (At_c zs 2 9 (by decide) (by decide)) rfl rfl (by decide) Tryz.func94 rfl rfl (.cons rfl Conv.any (.cons rfl Conv.any (.cons rfl Conv.any .nil))) rfl) rfl) ?_
        refine RV.step1 (OpOk.plain (ok_add (c := 1 + atI zs 2 9) (by exact wrapI (by omega) (by omega)) rfl rfl (by decide) rfl rfl) rfl) ?_
        refine RV.step1 (OpOk.plain (ok_call (rfOf_con _ _ (by omega) (by omega) (by omega) (by omega)) rfl rfl (by decide) Tryz.func53 rfl rfl (.cons rfl Conv.any (.cons rfl Conv.any .nil)) rfl) rfl) ?_
        refine RV.step1 (OpOk.plain (ok_store rfl rfl rfl rfl rfl rfl rfl (ty_rat).2 rfl rfl rfl) rfl) ?_
        refine RV.done ?_
        refine CV.ret ?_
        have e : numR zs = Rat.divInt (atI zs 1 61 - 30) (1 + atI zs 2 9) := by unfold numR; rw [if_neg (by simpa using h1), if_neg (by simpa using h2), if_pos (by simpa using h3)]
        exact fin1 rfl (.inr rfl) ⟨_, _, _, _, _, rfl, rfl, rfl, ty_rat⟩ (is_rt (by rw [e]) (by rw [e]) (by omega))
      · refine CV.skip ?_
        refine CV.seq ?_
        refine CV.region rfl (fun h => nomatch h) ?_
        refine RV.step1 (OpOk.plain (ok_move (.inl rfl) rfl (by decide) rfl) rfl) ?_
        refine RV.step1 (OpOk.plain (ok_move (.inl rfl) rfl (by decide) rfl) rfl) ?_
        refine RV.step1 (OpOk.plain (ok_add (c := 1) (by rfl) rfl rfl (by decide) rfl rfl) rfl) ?_
        refine RV.step1 (OpOk.plain (ok_call (At_c zs 1 20001 (by decide) (by decide)) rfl rfl (by decide) Tryz.func94 rfl rfl (.cons rfl Conv.any (.cons rfl Conv.any (.cons rfl Conv.any .nil))) rfl) rfl) ?_
        refine RV.step1 (OpOk.plain (ok_sub (c := atI zs 1 20001 - 10000) (by exact wrapI (by omega) (by omega)) rfl rfl (by decide) rfl rfl) rfl) ?_
        refine RV.step1 (OpOk.plain (ok_move (.inl rfl) rfl (by decide) rfl) rfl) ?_
        refine RV.step1 (OpOk.plain (ok_move (.inl rfl) rfl (by decide) rfl) rfl) ?_
        refine RV.step1 (OpOk.plain (ok_add (c := 2) (by rfl) rfl rfl (by decide) rfl rfl) rfl) ?_
        refine RV.step1 (OpOk.plain (ok_call (At_c zs 2 1000 (by decide) (by decide)) rfl rfl (by decide) Tryz.func94 rfl rfl (.cons rfl Conv.any (.cons rfl Conv.any (.cons rfl Conv.any .nil))) rfl) rfl) ?_
        refine RV.step1 (OpOk.plain (ok_add (c := 1 + atI zs 2 1000) (by exact wrapI (by omega) (by omega)) rfl rfl (by decide) rfl rfl) rfl) ?_
        refine RV.step1 (OpOk.plain (ok_call (rfOf_con _ _ (by omega) (by omega) (by omega) (by omega)) rfl rfl (by decide) Tryz.func53 rfl rfl (.cons rfl Conv.any (.cons rfl Conv.any .nil)) rfl) rfl) ?_
        refine RV.step1 (OpOk.plain (ok_store rfl rfl rfl rfl rfl rfl rfl (ty_rat).2 rfl rfl rfl) rfl) ?_
        refine RV.done ?_
        refine CV.ret ?_
        have e : numR zs = Rat.divInt (atI zs 1 20001 - 10000) (1 + atI zs 2 1000) := by unfold numR; rw [if_neg (by simpa using h1), if_neg (by simpa using h2), if_neg (by simpa using h3)]
        exact fin1 rfl (.inr rfl) ⟨_, _, _, _, _, rfl, rfl, rfl, ty_rat⟩ (is_rt (by rw [e]) (by rw [e]) (by omega))

end Vc
end Go.Proofs.YtabjodomigllhaaGreatDoor
