/-
  Contracts of gantry/rat: lowest terms, sums, products, quotients, comparison.
-/
import Derived.Test.YtabjodomigllhaaGreatDoorJC29
namespace Go.Proofs.YtabjodomigllhaaGreatDoor
open Go.RowKit
open Go.Lib (hid)
open Dg Zn
namespace Vc

/-- A fraction. -/
abbrev RT (a : Rat) (k : Nat) : SA Dm := .d (Dm.rt a.num (qd a) k)

set_option maxRecDepth 100000 in
theorem lowest_con (p q : Int) (j k : Nat) (hc : q ≠ 0 → Int.gcd p q = 1) : Con Tryz.prog 130 [.d (Dm.int p j), .d (Dm.int q k)] (.one (RT (Rat.divInt p q) (max j k))) := by
  refine Con.of (n := 23) Tryz.func130 rfl rfl rfl rfl rfl fun cx => ?_
  refine CV.seq ?_
  refine CV.region rfl (fun h => nomatch h) ?_
  refine RV.step2 (OpOk.plain (ok_box (i := 0) rfl rfl (by decide) rfl rfl rfl rfl) rfl) ?_
  refine RV.step2 (OpOk.plain (ok_box (i := 1) rfl rfl (by decide) rfl rfl rfl rfl) rfl) ?_
  refine RV.step2 (OpOk.plain (ok_alloc (i := 2) rfl rfl (by decide) zero_rat rfl rfl rfl) rfl) ?_
  refine RV.done ?_
  refine CV.seq ?_
  refine CV.seq ?_
  refine CV.region rfl (fun h => nomatch h) ?_
  refine RV.step1 (OpOk.plain (ok_load rfl rfl (by decide) rfl rfl rfl ty_int) rfl) ?_
  refine RV.step1 (OpOk.plain (ok_call (Sign_con _) rfl rfl (by decide) Tryz.func121 rfl rfl (.cons rfl Conv.any .nil) rfl) rfl) ?_
  refine RV.done ?_
  refine CV.block ?_
  refine CV.seq ?_
  refine CV.region rfl (fun h => nomatch h) ?_
  refine RV.step1 (OpOk.plain (ok_eql rfl rfl (by decide) rfl rfl) rfl) ?_
  refine RV.step1 (OpOk.plain (ok_move (.inr rfl) rfl (by decide) rfl) rfl) ?_
  refine RV.done ?_
  refine CV.cond rfl (fun h1 => ?_) (fun h1 => ?_)
  · refine CV.seq ?_
    refine CV.region rfl (fun h => nomatch h) ?_
    refine RV.step1 (OpOk.plain (ok_build0 rfl rfl (by decide)) rfl) ?_
    refine RV.step1 (OpOk.plain (ok_store rfl rfl rfl rfl rfl rfl rfl (ty_rat).2 rfl rfl rfl) rfl) ?_
    refine RV.done ?_
    refine CV.ret ?_
    obtain rfl := sign_zero h1
    exact fin1 rfl (.inr rfl) ⟨_, _, _, _, _, rfl, rfl, rfl, ty_rat⟩ (is_rt (qd_of_zero p).1.symm (qd_of_zero p).2.symm (Nat.zero_le _))
  · refine CV.seq ?_
    refine CV.region rfl (fun h => nomatch h) ?_
    refine RV.step1 (OpOk.plain (ok_eql rfl rfl (by decide) rfl rfl) rfl) ?_
    refine RV.step1 (OpOk.plain (ok_move (.inr rfl) rfl (by decide) rfl) rfl) ?_
    refine RV.done ?_
    refine CV.cond rfl (fun h2 => ?_) (fun h2 => ?_)
    · refine CV.region rfl (fun _ => by kernel_rfl) ?_
      refine RV.step1 (OpOk.plain (ok_load rfl rfl (by decide) rfl rfl rfl ty_int) rfl) ?_
      refine RV.step1 (OpOk.plain (ok_call (Neg_con _) rfl rfl (by decide) Tryz.func135 rfl rfl (.cons rfl Conv.any .nil) rfl) rfl) ?_
      refine RV.step1 (OpOk.plain (ok_load rfl rfl (by decide) rfl rfl rfl ty_int) rfl) ?_
      refine RV.step1 (OpOk.plain (ok_call (Neg_con _) rfl rfl (by decide) Tryz.func135 rfl rfl (.cons rfl Conv.any .nil) rfl) rfl) ?_
      refine RV.step1 (OpOk.plain (ok_store rfl rfl rfl rfl rfl rfl rfl (ty_int).2 rfl rfl rfl) rfl) ?_
      refine RV.step1 (OpOk.plain (ok_store rfl rfl rfl rfl rfl rfl rfl (ty_int).2 rfl rfl rfl) rfl) ?_
      refine RV.drawn (by kernel_rfl) ?_
      refine CV.seq ?_
      refine CV.seq ?_
      refine CV.region rfl (fun h => nomatch h) ?_
      refine RV.step1 (OpOk.plain (ok_load rfl rfl (by decide) rfl rfl rfl ty_int) rfl) ?_
      refine RV.step1 (OpOk.plain (ok_call (isOne_con _ _) rfl rfl (by decide) Tryz.func129 rfl rfl (.cons rfl Conv.any .nil) rfl) rfl) ?_
      refine RV.done ?_
      refine CV.cond rfl (fun h3 => ?_) (fun h3 => ?_)
      · refine CV.seq ?_
        refine CV.region rfl (fun h => nomatch h) ?_
        refine RV.step1 (OpOk.plain (ok_load rfl rfl (by decide) rfl rfl rfl ty_int) rfl) ?_
        refine RV.step1 (OpOk.plain (ok_build1 rfl rfl (by decide) rfl) rfl) ?_
        refine RV.step1 (OpOk.plain (ok_store rfl rfl rfl rfl rfl rfl rfl (ty_rat).2 rfl rfl rfl) rfl) ?_
        refine RV.done ?_
        refine CV.ret ?_
        have hq := sign_neg h2
        have h4 : -q = 1 := by simpa using h3
        refine fin1 rfl (.inr rfl) ⟨_, _, _, _, _, rfl, rfl, rfl, ty_rat⟩ (is_rt ?_ ?_ (Nat.le_max_left ..))
        · rw [low_num (hc (by omega)), Int.sign_eq_neg_one_of_neg hq]; omega
        · rw [low_qd (hc (by omega)) (by omega), if_pos (by omega)]
      · refine CV.skip ?_
        refine CV.seq ?_
        refine CV.region rfl (fun h => nomatch h) ?_
        refine RV.step1 (OpOk.plain (ok_load rfl rfl (by decide) rfl rfl rfl ty_int) rfl) ?_
        refine RV.step1 (OpOk.plain (ok_load rfl rfl (by decide) rfl rfl rfl ty_int) rfl) ?_
        refine RV.step1 (OpOk.plain (ok_build2 rfl rfl (by decide) rfl rfl) rfl) ?_
        refine RV.step1 (OpOk.plain (ok_store rfl rfl rfl rfl rfl rfl rfl (ty_rat).2 rfl rfl rfl) rfl) ?_
        refine RV.done ?_
        refine CV.ret ?_
        have hq := sign_neg h2
        have h4 : ¬ -q = 1 := by simpa using h3
        refine fin1 rfl (.inr rfl) ⟨_, _, _, _, _, rfl, rfl, rfl, ty_rat⟩ (is_rt ?_ ?_ (Nat.le_refl _))
        · rw [low_num (hc (by omega)), Int.sign_eq_neg_one_of_neg hq]; omega
        · rw [low_qd (hc (by omega)) (by omega), if_neg (by omega)]; omega
    · refine CV.skip ?_
      refine CV.seq ?_
      refine CV.seq ?_
      refine CV.region rfl (fun h => nomatch h) ?_
      refine RV.step1 (OpOk.plain (ok_load rfl rfl (by decide) rfl rfl rfl ty_int) rfl) ?_
      refine RV.step1 (OpOk.plain (ok_call (isOne_con _ _) rfl rfl (by decide) Tryz.func129 rfl rfl (.cons rfl Conv.any .nil) rfl) rfl) ?_
      refine RV.done ?_
      refine CV.cond rfl (fun h3 => ?_) (fun h3 => ?_)
      · refine CV.seq ?_
        refine CV.region rfl (fun h => nomatch h) ?_
        refine RV.step1 (OpOk.plain (ok_load rfl rfl (by decide) rfl rfl rfl ty_int) rfl) ?_
        refine RV.step1 (OpOk.plain (ok_build1 rfl rfl (by decide) rfl) rfl) ?_
        refine RV.step1 (OpOk.plain (ok_store rfl rfl rfl rfl rfl rfl rfl (ty_rat).2 rfl rfl rfl) rfl) ?_
        refine RV.done ?_
        refine CV.ret ?_
        have hq := sign_pos h1 h2
        have h4 : q = 1 := by simpa using h3
        refine fin1 rfl (.inr rfl) ⟨_, _, _, _, _, rfl, rfl, rfl, ty_rat⟩ (is_rt ?_ ?_ (Nat.le_max_left ..))
        · rw [low_num (hc (by omega)), Int.sign_eq_one_of_pos hq]; omega
        · rw [low_qd (hc (by omega)) (by omega), if_pos (by omega)]
      · refine CV.skip ?_
        refine CV.seq ?_
        refine CV.region rfl (fun h => nomatch h) ?_
        refine RV.step1 (OpOk.plain (ok_load rfl rfl (by decide) rfl rfl rfl ty_int) rfl) ?_
        refine RV.step1 (OpOk.plain (ok_load rfl rfl (by decide) rfl rfl rfl ty_int) rfl) ?_
        refine RV.step1 (OpOk.plain (ok_build2 rfl rfl (by decide) rfl rfl) rfl) ?_
        refine RV.step1 (OpOk.plain (ok_store rfl rfl rfl rfl rfl rfl rfl (ty_rat).2 rfl rfl rfl) rfl) ?_
        refine RV.done ?_
        refine CV.ret ?_
        have hq := sign_pos h1 h2
        have h4 : ¬ q = 1 := by simpa using h3
        refine fin1 rfl (.inr rfl) ⟨_, _, _, _, _, rfl, rfl, rfl, ty_rat⟩ (is_rt ?_ ?_ (Nat.le_refl _))
        · rw [low_num (hc (by omega)), Int.sign_eq_one_of_pos hq]; omega
        · rw [low_qd (hc (by omega)) (by omega), if_neg (by omega)]; omega

theorem Den_con' (a : Rat) (k : Nat) : Con Tryz.prog 55 [RT a k] (.one (.d (Dm.int a.den (k + 3)))) := by
  have h := Den_con a.num (qd a) k
  rwa [dn_qd] at h

set_option maxRecDepth 100000 in
theorem RAdd_con (a b : Rat) (j k : Nat) (hj : j ≤ 10000000) (hk : k ≤ 10000000) : Con Tryz.prog 58 [RT a j, RT b k] (.one (RT (a + b) (3 * (j + k) + 20))) := by
  refine Con.of (n := 58) Tryz.func58 rfl rfl rfl rfl rfl fun cx => ?_
  refine CV.seq ?_
  refine CV.region rfl (fun h => nomatch h) ?_
  refine RV.step2 (OpOk.plain (ok_box (i := 0) rfl rfl (by decide) rfl rfl rfl rfl) rfl) ?_
  refine RV.step2 (OpOk.plain (ok_box (i := 1) rfl rfl (by decide) rfl rfl rfl rfl) rfl) ?_
  refine RV.step2 (OpOk.plain (ok_alloc (i := 2) rfl rfl (by decide) zero_rat rfl rfl rfl) rfl) ?_
  refine RV.done ?_
  refine CV.seq ?_
  refine CV.seq ?_
  refine CV.region rfl (fun h => nomatch h) ?_
  refine RV.step1 (OpOk.plain (ok_load rfl rfl (by decide) rfl rfl rfl ty_rat) rfl) ?_
  refine RV.step1 (OpOk.plain (ok_call (isWhole_con _ _ _) rfl rfl (by decide) Tryz.func128 rfl rfl (.cons rfl Conv.any .nil) rfl) rfl) ?_
  refine RV.step1 (OpOk.plain (ok_move (.inl rfl) rfl (by decide) rfl) rfl) ?_
  refine RV.bool (fun h1 => ?_) (fun h1 => ?_)
  · refine RV.step1 (OpOk.yes (ok_load rfl rfl (by decide) rfl rfl rfl ty_rat) rfl rfl rfl) ?_
    refine RV.step1 (OpOk.yes (ok_call (isWhole_con _ _ _) rfl rfl (by decide) Tryz.func128 rfl rfl (.cons rfl Conv.any .nil) rfl) rfl rfl rfl) ?_
    refine RV.step1 (OpOk.plain (ok_pickT rfl rfl (by decide) rfl rfl rfl) rfl) ?_
    refine RV.done ?_
    refine CV.cond rfl (fun h2 => ?_) (fun h2 => ?_)
    · refine CV.seq ?_
      refine CV.region rfl (fun h => nomatch h) ?_
      refine RV.step1 (OpOk.plain (ok_fieldAddr fa_rat0 rfl rfl (by decide) rfl) rfl) ?_
      refine RV.step1 (OpOk.plain (ok_loadf 0 fld_num rfl rfl (by decide) rfl rfl rfl rfl ty_int) rfl) ?_
      refine RV.step1 (OpOk.plain (ok_fieldAddr fa_rat0 rfl rfl (by decide) rfl) rfl) ?_
      refine RV.step1 (OpOk.plain (ok_loadf 0 fld_num rfl rfl (by decide) rfl rfl rfl rfl ty_int) rfl) ?_
      refine RV.step1 (OpOk.plain (ok_call (Add_con _ _ (by omega) (by omega)) rfl rfl (by decide) Tryz.func133 rfl rfl (.cons rfl Conv.any (.cons rfl Conv.any .nil)) rfl) rfl) ?_
      refine RV.step1 (OpOk.plain (ok_build1 rfl rfl (by decide) rfl) rfl) ?_
      refine RV.step1 (OpOk.plain (ok_store rfl rfl rfl rfl rfl rfl rfl (ty_rat).2 rfl rfl rfl) rfl) ?_
      refine RV.done ?_
      refine CV.ret ?_
      have ha := qd_zero.1 (by simpa using h1)
      have hb := qd_zero.1 (by simpa using h2)
      obtain ⟨e1, e2, -, -⟩ := int_num_den ha hb
      exact fin1 rfl (.inr rfl) ⟨_, _, _, _, _, rfl, rfl, rfl, ty_rat⟩ (is_rt e1.symm (qd_zero.2 e2).symm (by omega))
    · refine CV.skip ?_
      refine CV.seq ?_
      refine CV.region rfl (fun _ => by kernel_rfl) ?_
      refine RV.step1 (OpOk.plain (ok_load rfl rfl (by decide) rfl rfl rfl ty_rat) rfl) ?_
      refine RV.step1 (OpOk.plain (ok_call (Den_con' _ _) rfl rfl (by decide) Tryz.func55 rfl rfl (.cons rfl Conv.any .nil) rfl) rfl) ?_
      refine RV.step1 (OpOk.plain (ok_load rfl rfl (by decide) rfl rfl rfl ty_rat) rfl) ?_
      refine RV.step1 (OpOk.plain (ok_call (Den_con' _ _) rfl rfl (by decide) Tryz.func55 rfl rfl (.cons rfl Conv.any .nil) rfl) rfl) ?_
      refine RV.step1 (OpOk.plain (ok_call (Gcd_con _ _ (by omega) (by omega)) rfl rfl (by decide) Tryz.func30 rfl rfl (.cons rfl Conv.any (.cons rfl Conv.any .nil)) rfl) rfl) ?_
      refine RV.step2 (OpOk.plain (ok_alloc (i := 3) rfl rfl (by decide) zero_int rfl rfl rfl) rfl) ?_
      refine RV.step1 (OpOk.plain (ok_store rfl rfl rfl rfl rfl rfl rfl (ty_int).2 rfl rfl rfl) rfl) ?_
      refine RV.drawn (by kernel_rfl) ?_
      refine CV.seq ?_
      refine CV.region rfl (fun _ => by kernel_rfl) ?_
      refine RV.step1 (OpOk.plain (ok_load rfl rfl (by decide) rfl rfl rfl ty_rat) rfl) ?_
      refine RV.step1 (OpOk.plain (ok_call (Den_con' _ _) rfl rfl (by decide) Tryz.func55 rfl rfl (.cons rfl Conv.any .nil) rfl) rfl) ?_
      refine RV.step1 (OpOk.plain (ok_load rfl rfl (by decide) rfl rfl rfl ty_int) rfl) ?_
      refine RV.step1 (OpOk.plain (ok_call (quotient_con _ _ _ _ (by omega) (by omega)) rfl rfl (by decide) Tryz.func134 rfl rfl (.cons rfl Conv.any (.cons rfl Conv.any .nil)) rfl) rfl) ?_
      refine RV.step1 (OpOk.plain (ok_load rfl rfl (by decide) rfl rfl rfl ty_rat) rfl) ?_
      refine RV.step1 (OpOk.plain (ok_call (Den_con' _ _) rfl rfl (by decide) Tryz.func55 rfl rfl (.cons rfl Conv.any .nil) rfl) rfl) ?_
      refine RV.step1 (OpOk.plain (ok_load rfl rfl (by decide) rfl rfl rfl ty_int) rfl) ?_
      refine RV.step1 (OpOk.plain (ok_call (quotient_con _ _ _ _ (by omega) (by omega)) rfl rfl (by decide) Tryz.func134 rfl rfl (.cons rfl Conv.any (.cons rfl Conv.any .nil)) rfl) rfl) ?_
      refine RV.step2 (OpOk.plain (ok_alloc (i := 4) rfl rfl (by decide) zero_int rfl rfl rfl) rfl) ?_
      refine RV.step2 (OpOk.plain (ok_alloc (i := 5) rfl rfl (by decide) zero_int rfl rfl rfl) rfl) ?_
      refine RV.step1 (OpOk.plain (ok_store rfl rfl rfl rfl rfl rfl rfl (ty_int).2 rfl rfl rfl) rfl) ?_
      refine RV.step1 (OpOk.plain (ok_store rfl rfl rfl rfl rfl rfl rfl (ty_int).2 rfl rfl rfl) rfl) ?_
      refine RV.drawn (by kernel_rfl) ?_
      refine CV.seq ?_
      refine CV.region rfl (fun _ => by kernel_rfl) ?_
      refine RV.step1 (OpOk.plain (ok_fieldAddr fa_rat0 rfl rfl (by decide) rfl) rfl) ?_
      refine RV.step1 (OpOk.plain (ok_loadf 0 fld_num rfl rfl (by decide) rfl rfl rfl rfl ty_int) rfl) ?_
      refine RV.step1 (OpOk.plain (ok_load rfl rfl (by decide) rfl rfl rfl ty_int) rfl) ?_
      refine RV.step1 (OpOk.plain (ok_call (Mul_con _ _ (by omega) (by omega)) rfl rfl (by decide) Tryz.func104 rfl rfl (.cons rfl Conv.any (.cons rfl Conv.any .nil)) rfl) rfl) ?_
      refine RV.step1 (OpOk.plain (ok_fieldAddr fa_rat0 rfl rfl (by decide) rfl) rfl) ?_
      refine RV.step1 (OpOk.plain (ok_loadf 0 fld_num rfl rfl (by decide) rfl rfl rfl rfl ty_int) rfl) ?_
      refine RV.step1 (OpOk.plain (ok_load rfl rfl (by decide) rfl rfl rfl ty_int) rfl) ?_
      refine RV.step1 (OpOk.plain (ok_call (Mul_con _ _ (by omega) (by omega)) rfl rfl (by decide) Tryz.func104 rfl rfl (.cons rfl Conv.any (.cons rfl Conv.any .nil)) rfl) rfl) ?_
      refine RV.step1 (OpOk.plain (ok_call (Add_con _ _ (by omega) (by omega)) rfl rfl (by decide) Tryz.func133 rfl rfl (.cons rfl Conv.any (.cons rfl Conv.any .nil)) rfl) rfl) ?_
      refine RV.step2 (OpOk.plain (ok_alloc (i := 6) rfl rfl (by decide) zero_int rfl rfl rfl) rfl) ?_
      refine RV.step1 (OpOk.plain (ok_store rfl rfl rfl rfl rfl rfl rfl (ty_int).2 rfl rfl rfl) rfl) ?_
      refine RV.drawn (by kernel_rfl) ?_
      refine CV.seq ?_
      refine CV.region rfl (fun h => nomatch h) ?_
      refine RV.step1 (OpOk.plain (ok_load rfl rfl (by decide) rfl rfl rfl ty_int) rfl) ?_
      refine RV.step1 (OpOk.plain (ok_load rfl rfl (by decide) rfl rfl rfl ty_int) rfl) ?_
      refine RV.step1 (OpOk.plain (ok_call (cancelled_con _ _ _ _ (by omega) (by omega)) rfl rfl (by decide) Tryz.func131 rfl rfl (.cons rfl Conv.any (.cons rfl Conv.any .nil)) rfl) rfl) ?_
      refine RV.step1 (OpOk.plain (ok_move (.inl rfl) rfl (by decide) rfl) rfl) ?_
      refine RV.step1 (OpOk.plain (ok_extract rfl rfl (by decide) rfl rfl) rfl) ?_
      refine RV.step1 (OpOk.plain (ok_extract rfl rfl (by decide) rfl rfl) rfl) ?_
      refine RV.step2 (OpOk.plain (ok_alloc (i := 7) rfl rfl (by decide) zero_int rfl rfl rfl) rfl) ?_
      refine RV.step2 (OpOk.plain (ok_alloc (i := 8) rfl rfl (by decide) zero_int rfl rfl rfl) rfl) ?_
      refine RV.step1 (OpOk.plain (ok_store rfl rfl rfl rfl rfl rfl rfl (ty_int).2 rfl rfl rfl) rfl) ?_
      refine RV.step1 (OpOk.plain (ok_store rfl rfl rfl rfl rfl rfl rfl (ty_int).2 rfl rfl rfl) rfl) ?_
      refine RV.done ?_
      refine CV.seq ?_
      refine CV.region rfl (fun _ => by kernel_rfl) ?_
      refine RV.step1 (OpOk.plain (ok_load rfl rfl (by decide) rfl rfl rfl ty_int) rfl) ?_
      refine RV.step1 (OpOk.plain (ok_load rfl rfl (by decide) rfl rfl rfl ty_int) rfl) ?_
      refine RV.step1 (OpOk.plain (ok_load rfl rfl (by decide) rfl rfl rfl ty_int) rfl) ?_
      refine RV.step1 (OpOk.plain (ok_call (Mul_con _ _ (by omega) (by omega)) rfl rfl (by decide) Tryz.func104 rfl rfl (.cons rfl Conv.any (.cons rfl Conv.any .nil)) rfl) rfl) ?_
      refine RV.step1 (OpOk.plain (ok_load rfl rfl (by decide) rfl rfl rfl ty_int) rfl) ?_
      refine RV.step1 (OpOk.plain (ok_call (Mul_con _ _ (by omega) (by omega)) rfl rfl (by decide) Tryz.func104 rfl rfl (.cons rfl Conv.any (.cons rfl Conv.any .nil)) rfl) rfl) ?_
      refine RV.step1 (OpOk.plain (ok_call (lowest_con _ _ _ _ (fun _ => (add_facts a b _ _ _ _ _ _ _ rfl rfl rfl rfl rfl rfl rfl).1)) rfl rfl (by decide) Tryz.func130 rfl rfl (.cons rfl Conv.any (.cons rfl Conv.any .nil)) rfl) rfl) ?_
      refine RV.step1 (OpOk.plain (ok_store rfl rfl rfl rfl rfl rfl rfl (ty_rat).2 rfl rfl rfl) rfl) ?_
      refine RV.drawn (by kernel_rfl) ?_
      refine CV.ret ?_
      exact fin1 rfl (.inr rfl) ⟨_, _, _, _, _, rfl, rfl, rfl, ty_rat⟩ (is_rt (by rw [(add_facts a b _ _ _ _ _ _ _ rfl rfl rfl rfl rfl rfl rfl).2]) (by rw [(add_facts a b _ _ _ _ _ _ _ rfl rfl rfl rfl rfl rfl rfl).2]) (by omega))
  · refine RV.step1 (OpOk.skip rfl rfl rfl rfl rfl (by decide)) ?_
    refine RV.step1 (OpOk.skip rfl rfl rfl rfl rfl (by decide)) ?_
    refine RV.step1 (OpOk.plain (ok_pickF rfl rfl (by decide) rfl rfl rfl) rfl) ?_
    refine RV.done ?_
    refine CV.no rfl ?_
    refine CV.skip ?_
    refine CV.seq ?_
    refine CV.region rfl (fun _ => by kernel_rfl) ?_
    refine RV.step1 (OpOk.plain (ok_load rfl rfl (by decide) rfl rfl rfl ty_rat) rfl) ?_
    refine RV.step1 (OpOk.plain (ok_call (Den_con' _ _) rfl rfl (by decide) Tryz.func55 rfl rfl (.cons rfl Conv.any .nil) rfl) rfl) ?_
    refine RV.step1 (OpOk.plain (ok_load rfl rfl (by decide) rfl rfl rfl ty_rat) rfl) ?_
    refine RV.step1 (OpOk.plain (ok_call (Den_con' _ _) rfl rfl (by decide) Tryz.func55 rfl rfl (.cons rfl Conv.any .nil) rfl) rfl) ?_
    refine RV.step1 (OpOk.plain (ok_call (Gcd_con _ _ (by omega) (by omega)) rfl rfl (by decide) Tryz.func30 rfl rfl (.cons rfl Conv.any (.cons rfl Conv.any .nil)) rfl) rfl) ?_
    refine RV.step2 (OpOk.plain (ok_alloc (i := 3) rfl rfl (by decide) zero_int rfl rfl rfl) rfl) ?_
    refine RV.step1 (OpOk.plain (ok_store rfl rfl rfl rfl rfl rfl rfl (ty_int).2 rfl rfl rfl) rfl) ?_
    refine RV.drawn (by kernel_rfl) ?_
    refine CV.seq ?_
    refine CV.region rfl (fun _ => by kernel_rfl) ?_
    refine RV.step1 (OpOk.plain (ok_load rfl rfl (by decide) rfl rfl rfl ty_rat) rfl) ?_
    refine RV.step1 (OpOk.plain (ok_call (Den_con' _ _) rfl rfl (by decide) Tryz.func55 rfl rfl (.cons rfl Conv.any .nil) rfl) rfl) ?_
    refine RV.step1 (OpOk.plain (ok_load rfl rfl (by decide) rfl rfl rfl ty_int) rfl) ?_
    refine RV.step1 (OpOk.plain (ok_call (quotient_con _ _ _ _ (by omega) (by omega)) rfl rfl (by decide) Tryz.func134 rfl rfl (.cons rfl Conv.any (.cons rfl Conv.any .nil)) rfl) rfl) ?_
    refine RV.step1 (OpOk.plain (ok_load rfl rfl (by decide) rfl rfl rfl ty_rat) rfl) ?_
    refine RV.step1 (OpOk.plain (ok_call (Den_con' _ _) rfl rfl (by decide) Tryz.func55 rfl rfl (.cons rfl Conv.any .nil) rfl) rfl) ?_
    refine RV.step1 (OpOk.plain (ok_load rfl rfl (by decide) rfl rfl rfl ty_int) rfl) ?_
    refine RV.step1 (OpOk.plain (ok_call (quotient_con _ _ _ _ (by omega) (by omega)) rfl rfl (by decide) Tryz.func134 rfl rfl (.cons rfl Conv.any (.cons rfl Conv.any .nil)) rfl) rfl) ?_
    refine RV.step2 (OpOk.plain (ok_alloc (i := 4) rfl rfl (by decide) zero_int rfl rfl rfl) rfl) ?_
    refine RV.step2 (OpOk.plain (ok_alloc (i := 5) rfl rfl (by decide) zero_int rfl rfl rfl) rfl) ?_
    refine RV.step1 (OpOk.plain (ok_store rfl rfl rfl rfl rfl rfl rfl (ty_int).2 rfl rfl rfl) rfl) ?_
    refine RV.step1 (OpOk.plain (ok_store rfl rfl rfl rfl rfl rfl rfl (ty_int).2 rfl rfl rfl) rfl) ?_
    refine RV.drawn (by kernel_rfl) ?_
    refine CV.seq ?_
    refine CV.region rfl (fun _ => by kernel_rfl) ?_
    refine RV.step1 (OpOk.plain (ok_fieldAddr fa_rat0 rfl rfl (by decide) rfl) rfl) ?_
    refine RV.step1 (OpOk.plain (ok_loadf 0 fld_num rfl rfl (by decide) rfl rfl rfl rfl ty_int) rfl) ?_
    refine RV.step1 (OpOk.plain (ok_load rfl rfl (by decide) rfl rfl rfl ty_int) rfl) ?_
    refine RV.step1 (OpOk.plain (ok_call (Mul_con _ _ (by omega) (by omega)) rfl rfl (by decide) Tryz.func104 rfl rfl (.cons rfl Conv.any (.cons rfl Conv.any .nil)) rfl) rfl) ?_
    refine RV.step1 (OpOk.plain (ok_fieldAddr fa_rat0 rfl rfl (by decide) rfl) rfl) ?_
    refine RV.step1 (OpOk.plain (ok_loadf 0 fld_num rfl rfl (by decide) rfl rfl rfl rfl ty_int) rfl) ?_
    refine RV.step1 (OpOk.plain (ok_load rfl rfl (by decide) rfl rfl rfl ty_int) rfl) ?_
    refine RV.step1 (OpOk.plain (ok_call (Mul_con _ _ (by omega) (by omega)) rfl rfl (by decide) Tryz.func104 rfl rfl (.cons rfl Conv.any (.cons rfl Conv.any .nil)) rfl) rfl) ?_
    refine RV.step1 (OpOk.plain (ok_call (Add_con _ _ (by omega) (by omega)) rfl rfl (by decide) Tryz.func133 rfl rfl (.cons rfl Conv.any (.cons rfl Conv.any .nil)) rfl) rfl) ?_
    refine RV.step2 (OpOk.plain (ok_alloc (i := 6) rfl rfl (by decide) zero_int rfl rfl rfl) rfl) ?_
    refine RV.step1 (OpOk.plain (ok_store rfl rfl rfl rfl rfl rfl rfl (ty_int).2 rfl rfl rfl) rfl) ?_
    refine RV.drawn (by kernel_rfl) ?_
    refine CV.seq ?_
    refine CV.region rfl (fun h => nomatch h) ?_
    refine RV.step1 (OpOk.plain (ok_load rfl rfl (by decide) rfl rfl rfl ty_int) rfl) ?_
    refine RV.step1 (OpOk.plain (ok_load rfl rfl (by decide) rfl rfl rfl ty_int) rfl) ?_
    refine RV.step1 (OpOk.plain (ok_call (cancelled_con _ _ _ _ (by omega) (by omega)) rfl rfl (by decide) Tryz.func131 rfl rfl (.cons rfl Conv.any (.cons rfl Conv.any .nil)) rfl) rfl) ?_
    refine RV.step1 (OpOk.plain (ok_move (.inl rfl) rfl (by decide) rfl) rfl) ?_
    refine RV.step1 (OpOk.plain (ok_extract rfl rfl (by decide) rfl rfl) rfl) ?_
    refine RV.step1 (OpOk.plain (ok_extract rfl rfl (by decide) rfl rfl) rfl) ?_
    refine RV.step2 (OpOk.plain (ok_alloc (i := 7) rfl rfl (by decide) zero_int rfl rfl rfl) rfl) ?_
    refine RV.step2 (OpOk.plain (ok_alloc (i := 8) rfl rfl (by decide) zero_int rfl rfl rfl) rfl) ?_
    refine RV.step1 (OpOk.plain (ok_store rfl rfl rfl rfl rfl rfl rfl (ty_int).2 rfl rfl rfl) rfl) ?_
    refine RV.step1 (OpOk.plain (ok_store rfl rfl rfl rfl rfl rfl rfl (ty_int).2 rfl rfl rfl) rfl) ?_
    refine RV.done ?_
    refine CV.seq ?_
    refine CV.region rfl (fun _ => by kernel_rfl) ?_
    refine RV.step1 (OpOk.plain (ok_load rfl rfl (by decide) rfl rfl rfl ty_int) rfl) ?_
    refine RV.step1 (OpOk.plain (ok_load rfl rfl (by decide) rfl rfl rfl ty_int) rfl) ?_
    refine RV.step1 (OpOk.plain (ok_load rfl rfl (by decide) rfl rfl rfl ty_int) rfl) ?_
    refine RV.step1 (OpOk.plain (ok_call (Mul_con _ _ (by omega) (by omega)) rfl rfl (by decide) Tryz.func104 rfl rfl (.cons rfl Conv.any (.cons rfl Conv.any .nil)) rfl) rfl) ?_
    refine RV.step1 (OpOk.plain (ok_load rfl rfl (by decide) rfl rfl rfl ty_int) rfl) ?_
    refine RV.step1 (OpOk.plain (ok_call (Mul_con _ _ (by omega) (by omega)) rfl rfl (by decide) Tryz.func104 rfl rfl (.cons rfl Conv.any (.cons rfl Conv.any .nil)) rfl) rfl) ?_
    refine RV.step1 (OpOk.plain (ok_call (lowest_con _ _ _ _ (fun _ => (add_facts a b _ _ _ _ _ _ _ rfl rfl rfl rfl rfl rfl rfl).1)) rfl rfl (by decide) Tryz.func130 rfl rfl (.cons rfl Conv.any (.cons rfl Conv.any .nil)) rfl) rfl) ?_
    refine RV.step1 (OpOk.plain (ok_store rfl rfl rfl rfl rfl rfl rfl (ty_rat).2 rfl rfl rfl) rfl) ?_
    refine RV.drawn (by kernel_rfl) ?_
    refine CV.ret ?_
    exact fin1 rfl (.inr rfl) ⟨_, _, _, _, _, rfl, rfl, rfl, ty_rat⟩ (is_rt (by rw [(add_facts a b _ _ _ _ _ _ _ rfl rfl rfl rfl rfl rfl rfl).2]) (by rw [(add_facts a b _ _ _ _ _ _ _ rfl rfl rfl rfl rfl rfl rfl).2]) (by omega))

end Vc
end Go.Proofs.YtabjodomigllhaaGreatDoor
