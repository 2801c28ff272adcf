/-
  IntegerQuotients: its walk. Contracts of
-/
import Derived.Test.YtcblbepaigdlgaaGreatJB12
import Derived.Test.YtcblbepaigdlgaaGreatJB41
import Derived.IntWalk
import Derived.Test.YtcblbepaigdlgaaGreatJB40
import Derived.Test.YtcblbepaigdlgaaGreatJB28
import Derived.Test.YtcblbepaigdlgaaGreatJB29
set_option linter.unusedVariables false
set_option linter.unusedSimpArgs false
set_option linter.unusedSectionVars false
namespace Go.Proofs.YtcblbepaigdlgaaGreat
open Go.RowKit
open Go.Lib (hid)
open Dg Zn
namespace Vc
set_option maxRecDepth 100000
theorem wrapI {z : Int} (h1 : -9223372036854775808 ≤ z) (h2 : z ≤ 9223372036854775807) : IntKind.i64.wrap z = z := IntWalk.i64_in _ (by omega)
theorem rDiv0_con (x : Int) (j k : Nat) : Con Tryz.prog 113 [.d (Dm.int x j), .d (Dm.int 0 k)] (.tup [.d (Dm.int 0 j), .d (Dm.int 0 k)]) := by
 refine Con.of (n := 58) Tryz.func113 rfl rfl rfl rfl rfl fun cx hfr => ?_
 refine sr rfl ?_
 refine p2 (ok_box (i := 0) rfl rfl bd rfl rfl rfl rfl rfl) ?_
 refine p2 (ok_box (i := 1) rfl rfl bd rfl rfl rfl rfl rfl) ?_
 refine p2 (ok_alloc (i := 2) rfl rfl bd zero_int rfl rfl rfl rfl) ?_
 refine p2 (ok_alloc (i := 3) rfl rfl bd zero_int rfl rfl rfl rfl) ?_
 refine RV.done ?_
 refine CV.seq ?_
 refine sr rfl ?_
 refine p1 (ok_fieldAddr fa_int1 rfl rfl bd rfl) ?_
 refine p1 (ok_loadf 1 fld_dig rfl rfl bd rfl rfl rfl rfl ty_ints) ?_
 refine p1 (ok_len rfl rfl bd rfl) ?_
 refine p1 (ok_eql rfl rfl bd rfl rfl) ?_
 refine RV.done ?_
 refine CV.cond rfl (fun hc => ?_) (fun hc => False.elim (by rw [dig_len_zero] at hc; simp at hc))
 refine sr rfl ?_
 refine p1 (ok_buildI rfl rfl bd) ?_
 refine p1 (ok_buildI rfl rfl bd) ?_
 refine p1 (ok_store rfl rfl rfl rfl rfl rfl rfl (ty_int).2 rfl rfl rfl rfl) ?_
 refine p1 (ok_store rfl rfl rfl rfl rfl rfl rfl (ty_int).2 rfl rfl rfl rfl) ?_
 refine RV.done ?_
 refine CV.ret ?_
 exact fin2 rfl (.inr rfl) ⟨_, _, _, _, _, rfl, rfl, rfl, ty_int⟩ ⟨_, _, _, _, _, rfl, rfl, rfl, ty_int⟩ (is_int2 rfl (Nat.zero_le _) rfl (Nat.zero_le _))
theorem rDiv_con (x y : Int) {j k : Nat} (hj : j ≤ 1000000000) (hk : k ≤ 1000000000) : Con Tryz.prog 113 [.d (Dm.int x j), .d (Dm.int y k)] (.tup [.d (Dm.int (x / y) j), .d (Dm.int (if y = 0 then 0 else x % y) k)]) := by
 by_cases hy : y = 0
 ·subst hy
  rw [if_pos rfl, Int.ediv_zero]
  exact rDiv0_con x j k
 ·refine con_pair (fun vx vy w h1 h2 l1 l2 => ?_) fun l1 l2 => ⟨Nat.le_trans (len_mono (natAbs_div_le x y)) l1, ?_⟩
  ·rw [if_neg hy]
   exact refDiv_any vx vy x y w h1 h2 hy (by omega) (by omega)
  ·rw [if_neg hy]
   refine Nat.le_trans (len_mono ?_) l2
   have h1 := Int.emod_nonneg x hy
   have h2 := Int.emod_lt x hy
   omega
theorem make_div (p q : Int) : Rat.divInt (p / (Int.gcd p q : Nat)) (q / (Int.gcd p q : Nat)) = Rat.divInt p q := by
 by_cases h : q = 0
 ·rw [h, Int.zero_ediv, Rat.divInt_zero, Rat.divInt_zero]
 ·exact (make_facts p q h).2
theorem qd_nn (a : Rat) : 0 ≤ qd a ∧ qd a ≠ 1 := by
 unfold qd
 split
 ·exact ⟨Int.le_refl _, by decide⟩
 ·exact ⟨by omega, by omega⟩
theorem RMul_con (a b : Rat) (j k : Nat) (hj : j ≤ 10000000) (hk : k ≤ 10000000) : Con Tryz.prog 43 [RT a j, RT b k] (.one (RT (a * b) (3 * (j + k) + 20))) := by
 refine Con.of (n := 44) Tryz.func43 rfl rfl rfl rfl rfl fun cx hfr => ?_
 refine sr rfl ?_
 refine p2 (ok_box (i := 0) rfl rfl bd rfl rfl rfl rfl rfl) ?_
 refine p2 (ok_box (i := 1) rfl rfl bd rfl rfl rfl rfl rfl) ?_
 refine p2 (ok_alloc (i := 2) rfl rfl bd zero_rat rfl rfl rfl rfl) ?_
 refine RV.done ?_
 refine CV.seq ?_
 refine sr rfl ?_
 refine p1 (ok_load rfl rfl bd rfl rfl rfl ty_rat) ?_
 refine xc (isWhole_con _ _ _) Tryz.func86 (xa rfl) hfr ?_
 refine xm ?_
 refine RV.bool (fun h1 => ?_) (fun h1 => ?_)
 ·refine RV.step1 (OpOk.yes (ok_load rfl rfl bd rfl rfl rfl ty_rat) rfl rfl rfl) ?_
  refine RV.step1 (OpOk.yes (ok_call (isWhole_con _ _ _) rfl rfl bd Tryz.func86 rfl rfl (xa rfl) rfl hfr rfl) rfl rfl rfl) ?_
  refine p1 (ok_pickT rfl rfl bd rfl rfl rfl) ?_
  refine RV.done ?_
  refine CV.cond rfl (fun h2 => ?_) (fun h2 => ?_)
  ·refine sr rfl ?_
   refine p1 (ok_fieldAddr fa_rat0 rfl rfl bd rfl) ?_
   refine p1 (ok_loadf 0 fld_num rfl rfl bd rfl rfl rfl rfl ty_int) ?_
   refine p1 (ok_fieldAddr fa_rat0 rfl rfl bd rfl) ?_
   refine p1 (ok_loadf 0 fld_num rfl rfl bd rfl rfl rfl rfl ty_int) ?_
   refine xd rfl (Mul_con _ _ (by omega) (by omega)) Tryz.func91 (xb rfl rfl) hfr ?_
   refine p1 (ok_build1 rfl rfl bd rfl) ?_
   refine p1 (ok_store rfl rfl rfl rfl rfl rfl rfl (ty_rat).2 rfl rfl rfl rfl) ?_
   refine RV.done ?_
   refine CV.ret ?_
   have ha := qd_zero.1 (by simpa using h1)
   have hb := qd_zero.1 (by simpa using h2)
   obtain ⟨-, -, e1, e2⟩ := int_num_den ha hb
   exact fin1 rfl (.inr rfl) ⟨_, _, _, _, _, rfl, rfl, rfl, ty_rat⟩ (is_rt e1.symm (qd_zero.2 e2).symm (by omega))
  ·refine CV.skip ?_
   refine CV.seq ?_
   refine CV.region rfl (fun _ => by kernel_rfl) ?_
   refine p1 (ok_fieldAddr fa_rat0 rfl rfl bd rfl) ?_
   refine p1 (ok_loadf 0 fld_num rfl rfl bd rfl rfl rfl rfl ty_int) ?_
   refine p1 (ok_load rfl rfl bd rfl rfl rfl ty_rat) ?_
   refine xc (Den_con' _ _) Tryz.func89 (xa rfl) hfr ?_
   refine xd rfl (cancelled_con _ _ _ _ (by omega) (by omega)) Tryz.func92 (xb rfl rfl) hfr ?_
   refine xm ?_
   refine p1 (ok_extract rfl rfl bd rfl rfl) ?_
   refine p1 (ok_extract rfl rfl bd rfl rfl) ?_
   refine p2 (ok_alloc (i := 3) rfl rfl bd zero_int rfl rfl rfl rfl) ?_
   refine p2 (ok_alloc (i := 4) rfl rfl bd zero_int rfl rfl rfl rfl) ?_
   refine p1 (ok_store rfl rfl rfl rfl rfl rfl rfl (ty_int).2 rfl rfl rfl rfl) ?_
   refine p1 (ok_store rfl rfl rfl rfl rfl rfl rfl (ty_int).2 rfl rfl rfl rfl) ?_
   refine RV.drawn (by kernel_rfl) ?_
   refine CV.seq ?_
   refine CV.region rfl (fun _ => by kernel_rfl) ?_
   refine p1 (ok_fieldAddr fa_rat0 rfl rfl bd rfl) ?_
   refine p1 (ok_loadf 0 fld_num rfl rfl bd rfl rfl rfl rfl ty_int) ?_
   refine p1 (ok_load rfl rfl bd rfl rfl rfl ty_rat) ?_
   refine xc (Den_con' _ _) Tryz.func89 (xa rfl) hfr ?_
   refine xd rfl (cancelled_con _ _ _ _ (by omega) (by omega)) Tryz.func92 (xb rfl rfl) hfr ?_
   refine xm ?_
   refine p1 (ok_extract rfl rfl bd rfl rfl) ?_
   refine p1 (ok_extract rfl rfl bd rfl rfl) ?_
   refine p2 (ok_alloc (i := 5) rfl rfl bd zero_int rfl rfl rfl rfl) ?_
   refine p2 (ok_alloc (i := 6) rfl rfl bd zero_int rfl rfl rfl rfl) ?_
   refine p1 (ok_store rfl rfl rfl rfl rfl rfl rfl (ty_int).2 rfl rfl rfl rfl) ?_
   refine p1 (ok_store rfl rfl rfl rfl rfl rfl rfl (ty_int).2 rfl rfl rfl rfl) ?_
   refine RV.drawn (by kernel_rfl) ?_
   refine CV.seq ?_
   refine CV.region rfl (fun _ => by kernel_rfl) ?_
   refine p1 (ok_load rfl rfl bd rfl rfl rfl ty_int) ?_
   refine p1 (ok_load rfl rfl bd rfl rfl rfl ty_int) ?_
   refine xd rfl (Mul_con _ _ (by omega) (by omega)) Tryz.func91 (xb rfl rfl) hfr ?_
   refine p1 (ok_load rfl rfl bd rfl rfl rfl ty_int) ?_
   refine p1 (ok_load rfl rfl bd rfl rfl rfl ty_int) ?_
   refine xd rfl (Mul_con _ _ (by omega) (by omega)) Tryz.func91 (xb rfl rfl) hfr ?_
   refine xc (lowest_con _ _ _ _ (fun _ => (mul_facts a b _ _ _ _ _ _ rfl rfl rfl rfl rfl rfl).1)) Tryz.func93 (xb rfl rfl) hfr ?_
   refine p1 (ok_store rfl rfl rfl rfl rfl rfl rfl (ty_rat).2 rfl rfl rfl rfl) ?_
   refine RV.drawn (by kernel_rfl) ?_
   refine CV.ret ?_
   exact fin1 rfl (.inr rfl) ⟨_, _, _, _, _, rfl, rfl, rfl, ty_rat⟩ (is_rt (by rw [(mul_facts a b _ _ _ _ _ _ rfl rfl rfl rfl rfl rfl).2]) (by rw [(mul_facts a b _ _ _ _ _ _ rfl rfl rfl rfl rfl rfl).2]) (by omega))
 ·refine xk ?_
  refine xk ?_
  refine p1 (ok_pickF rfl rfl bd rfl rfl rfl) ?_
  refine RV.done ?_
  refine CV.no rfl ?_
  refine CV.skip ?_
  refine CV.seq ?_
  refine CV.region rfl (fun _ => by kernel_rfl) ?_
  refine p1 (ok_fieldAddr fa_rat0 rfl rfl bd rfl) ?_
  refine p1 (ok_loadf 0 fld_num rfl rfl bd rfl rfl rfl rfl ty_int) ?_
  refine p1 (ok_load rfl rfl bd rfl rfl rfl ty_rat) ?_
  refine xc (Den_con' _ _) Tryz.func89 (xa rfl) hfr ?_
  refine xd rfl (cancelled_con _ _ _ _ (by omega) (by omega)) Tryz.func92 (xb rfl rfl) hfr ?_
  refine xm ?_
  refine p1 (ok_extract rfl rfl bd rfl rfl) ?_
  refine p1 (ok_extract rfl rfl bd rfl rfl) ?_
  refine p2 (ok_alloc (i := 3) rfl rfl bd zero_int rfl rfl rfl rfl) ?_
  refine p2 (ok_alloc (i := 4) rfl rfl bd zero_int rfl rfl rfl rfl) ?_
  refine p1 (ok_store rfl rfl rfl rfl rfl rfl rfl (ty_int).2 rfl rfl rfl rfl) ?_
  refine p1 (ok_store rfl rfl rfl rfl rfl rfl rfl (ty_int).2 rfl rfl rfl rfl) ?_
  refine RV.drawn (by kernel_rfl) ?_
  refine CV.seq ?_
  refine CV.region rfl (fun _ => by kernel_rfl) ?_
  refine p1 (ok_fieldAddr fa_rat0 rfl rfl bd rfl) ?_
  refine p1 (ok_loadf 0 fld_num rfl rfl bd rfl rfl rfl rfl ty_int) ?_
  refine p1 (ok_load rfl rfl bd rfl rfl rfl ty_rat) ?_
  refine xc (Den_con' _ _) Tryz.func89 (xa rfl) hfr ?_
  refine xd rfl (cancelled_con _ _ _ _ (by omega) (by omega)) Tryz.func92 (xb rfl rfl) hfr ?_
  refine xm ?_
  refine p1 (ok_extract rfl rfl bd rfl rfl) ?_
  refine p1 (ok_extract rfl rfl bd rfl rfl) ?_
  refine p2 (ok_alloc (i := 5) rfl rfl bd zero_int rfl rfl rfl rfl) ?_
  refine p2 (ok_alloc (i := 6) rfl rfl bd zero_int rfl rfl rfl rfl) ?_
  refine p1 (ok_store rfl rfl rfl rfl rfl rfl rfl (ty_int).2 rfl rfl rfl rfl) ?_
  refine p1 (ok_store rfl rfl rfl rfl rfl rfl rfl (ty_int).2 rfl rfl rfl rfl) ?_
  refine RV.drawn (by kernel_rfl) ?_
  refine CV.seq ?_
  refine CV.region rfl (fun _ => by kernel_rfl) ?_
  refine p1 (ok_load rfl rfl bd rfl rfl rfl ty_int) ?_
  refine p1 (ok_load rfl rfl bd rfl rfl rfl ty_int) ?_
  refine xd rfl (Mul_con _ _ (by omega) (by omega)) Tryz.func91 (xb rfl rfl) hfr ?_
  refine p1 (ok_load rfl rfl bd rfl rfl rfl ty_int) ?_
  refine p1 (ok_load rfl rfl bd rfl rfl rfl ty_int) ?_
  refine xd rfl (Mul_con _ _ (by omega) (by omega)) Tryz.func91 (xb rfl rfl) hfr ?_
  refine xc (lowest_con _ _ _ _ (fun _ => (mul_facts a b _ _ _ _ _ _ rfl rfl rfl rfl rfl rfl).1)) Tryz.func93 (xb rfl rfl) hfr ?_
  refine p1 (ok_store rfl rfl rfl rfl rfl rfl rfl (ty_rat).2 rfl rfl rfl rfl) ?_
  refine RV.drawn (by kernel_rfl) ?_
  refine CV.ret ?_
  exact fin1 rfl (.inr rfl) ⟨_, _, _, _, _, rfl, rfl, rfl, ty_rat⟩ (is_rt (by rw [(mul_facts a b _ _ _ _ _ _ rfl rfl rfl rfl rfl rfl).2]) (by rw [(mul_facts a b _ _ _ _ _ _ rfl rfl rfl rfl rfl rfl).2]) (by omega))
theorem RNeg_con (a : Rat) (k : Nat) : Con Tryz.prog 116 [RT a k] (.one (RT (-a) k)) := by
 refine Con.of (n := 9) Tryz.func116 rfl rfl rfl rfl rfl fun cx hfr => ?_
 refine sr rfl ?_
 refine p2 (ok_box (i := 0) rfl rfl bd rfl rfl rfl rfl rfl) ?_
 refine p2 (ok_alloc (i := 1) rfl rfl bd zero_rat rfl rfl rfl rfl) ?_
 refine RV.done ?_
 refine CV.seq ?_
 refine CV.region rfl (fun _ => by kernel_rfl) ?_
 refine p1 (ok_fieldAddr fa_rat0 rfl rfl bd rfl) ?_
 refine p1 (ok_loadf 0 fld_num rfl rfl bd rfl rfl rfl rfl ty_int) ?_
 refine xc (Neg_con _) Tryz.func132 (xa rfl) hfr ?_
 refine p1 (ok_fieldAddr fa_rat1 rfl rfl bd rfl) ?_
 refine p1 (ok_loadf 2 fld_den rfl rfl bd rfl rfl rfl rfl ty_int) ?_
 refine p1 (ok_build2 rfl rfl bd rfl rfl) ?_
 refine p1 (ok_store rfl rfl rfl rfl rfl rfl rfl (ty_rat).2 rfl rfl rfl rfl) ?_
 refine RV.drawn (by kernel_rfl) ?_
 refine CV.ret ?_
 exact fin1 rfl (.inr rfl) ⟨_, _, _, _, _, rfl, rfl, rfl, ty_rat⟩ (is_rt (by rw [Rat.neg_num]) (by unfold qd; rw [Rat.neg_den]) (by omega))
theorem RSub_con (a b : Rat) (j k : Nat) (hj : j ≤ 10000000) (hk : k ≤ 10000000) : Con Tryz.prog 69 [RT a j, RT b k] (.one (RT (a - b) (3 * (j + k) + 20))) := by
 refine Con.of (n := 9) Tryz.func69 rfl rfl rfl rfl rfl fun cx hfr => ?_
 refine sr rfl ?_
 refine p2 (ok_box (i := 0) rfl rfl bd rfl rfl rfl rfl rfl) ?_
 refine p2 (ok_box (i := 1) rfl rfl bd rfl rfl rfl rfl rfl) ?_
 refine p2 (ok_alloc (i := 2) rfl rfl bd zero_rat rfl rfl rfl rfl) ?_
 refine RV.done ?_
 refine CV.seq ?_
 refine CV.region rfl (fun _ => by kernel_rfl) ?_
 refine p1 (ok_load rfl rfl bd rfl rfl rfl ty_rat) ?_
 refine p1 (ok_load rfl rfl bd rfl rfl rfl ty_rat) ?_
 refine xc (RNeg_con _ _) Tryz.func116 (xa rfl) hfr ?_
 refine xc (RAdd_con _ _ _ _ hj hk) Tryz.func42 (xb rfl rfl) hfr ?_
 refine p1 (ok_store rfl rfl rfl rfl rfl rfl rfl (ty_rat).2 rfl rfl rfl rfl) ?_
 refine RV.drawn (by kernel_rfl) ?_
 refine CV.ret ?_
 exact fin1 rfl (.inr rfl) ⟨_, _, _, _, _, rfl, rfl, rfl, ty_rat⟩ (is_rt (by rw [Rat.sub_eq_add_neg]) (by rw [Rat.sub_eq_add_neg]) (Nat.le_refl _))
theorem inv_eq (b : Rat) : Rat.divInt b.den b.num = b⁻¹ := by rw [← Rat.inv_divInt, Rat.num_divInt_den]
theorem RDiv_con (a b : Rat) (j k : Nat) (hj : j ≤ 1000000) (hk : k ≤ 1000000) : Con Tryz.prog 121 [RT a j, RT b k] (.one (RT (a / b) (3 * (j + k) + 40))) := by
 refine Con.of (n := 12) Tryz.func121 rfl rfl rfl rfl rfl fun cx hfr => ?_
 refine sr rfl ?_
 refine p2 (ok_box (i := 0) rfl rfl bd rfl rfl rfl rfl rfl) ?_
 refine p2 (ok_box (i := 1) rfl rfl bd rfl rfl rfl rfl rfl) ?_
 refine p2 (ok_alloc (i := 2) rfl rfl bd zero_rat rfl rfl rfl rfl) ?_
 refine RV.done ?_
 refine CV.seq ?_
 refine CV.region rfl (fun _ => by kernel_rfl) ?_
 refine p1 (ok_load rfl rfl bd rfl rfl rfl ty_rat) ?_
 refine p1 (ok_load rfl rfl bd rfl rfl rfl ty_rat) ?_
 refine xc (Den_con' _ _) Tryz.func89 (xa rfl) hfr ?_
 refine p1 (ok_fieldAddr fa_rat0 rfl rfl bd rfl) ?_
 refine p1 (ok_loadf 0 fld_num rfl rfl bd rfl rfl rfl rfl ty_int) ?_
 refine xc (lowest_con _ _ _ _ (fun _ => red' b)) Tryz.func93 (xb rfl rfl) hfr ?_
 refine xd rfl (RMul_con _ _ _ _ (by omega) (by omega)) Tryz.func43 (xb rfl rfl) hfr ?_
 refine p1 (ok_store rfl rfl rfl rfl rfl rfl rfl (ty_rat).2 rfl rfl rfl rfl) ?_
 refine RV.drawn (by kernel_rfl) ?_
 refine CV.ret ?_
 exact fin1 rfl (.inr rfl) ⟨_, _, _, _, _, rfl, rfl, rfl, ty_rat⟩ (is_rt (by rw [inv_eq, Rat.div_def]) (by rw [inv_eq, Rat.div_def]) (by omega))
theorem RSign_con (a : Rat) (k : Nat) : Con Tryz.prog 103 [RT a k] (.one (.v (.int .i64 (cmpI a.num 0)))) := by
 refine Con.of (n := 6) Tryz.func103 rfl rfl rfl rfl rfl fun cx hfr => ?_
 refine sr rfl ?_
 refine p2 (ok_box (i := 0) rfl rfl bd rfl rfl rfl rfl rfl) ?_
 refine xn ?_
 refine RV.done (sr rfl ?_)
 refine p1 (ok_fieldAddr fa_rat0 rfl rfl bd rfl) ?_
 refine p1 (ok_loadf 0 fld_num rfl rfl bd rfl rfl rfl rfl ty_int) ?_
 refine xc (Sign_con _) Tryz.func131 (xa rfl) hfr ?_
 refine xn ?_
 refine RV.done ?_
 refine CV.ret ?_
 exact fin1 rfl (.inr rfl) rfl is_rfl
theorem qd_eq {a b : Rat} (h : qd a = qd b) : a.den = b.den := by
 have h1 := dn_qd a
 have h2 := dn_qd b
 rw [h] at h1
 have := h1.symm.trans h2
 omega
theorem RMake_con (p q : Int) (j k : Nat) (hj : j ≤ 10000000) (hk : k ≤ 10000000) : Con Tryz.prog 119 [.d (Dm.int p j), .d (Dm.int q k)] (.one (RT (Rat.divInt p q) (j + k))) := by
 refine Con.of (n := 11) Tryz.func119 rfl rfl rfl rfl rfl fun cx hfr => ?_
 refine sr rfl ?_
 refine p2 (ok_box (i := 0) rfl rfl bd rfl rfl rfl rfl rfl) ?_
 refine p2 (ok_box (i := 1) rfl rfl bd rfl rfl rfl rfl rfl) ?_
 refine p2 (ok_alloc (i := 2) rfl rfl bd zero_rat rfl rfl rfl rfl) ?_
 refine RV.done (sr rfl ?_)
 refine p1 (ok_load rfl rfl bd rfl rfl rfl ty_int) ?_
 refine p1 (ok_load rfl rfl bd rfl rfl rfl ty_int) ?_
 refine xd rfl (cancelled_con _ _ _ _ (by omega) (by omega)) Tryz.func92 (xb rfl rfl) hfr ?_
 refine p1 (ok_extract rfl rfl bd rfl rfl) ?_
 refine p1 (ok_extract rfl rfl bd rfl rfl) ?_
 refine xd rfl (lowest_con _ _ _ _ (fun h => (make_facts p q (fun e => h (by rw [e, Int.zero_ediv]))).1)) Tryz.func93 (xb rfl rfl) hfr ?_
 refine p1 (ok_store rfl rfl rfl rfl rfl rfl rfl (ty_rat).2 rfl rfl rfl rfl) ?_
 refine RV.done ?_
 refine CV.ret ?_
 have e : Rat.divInt (p / (Int.gcd p q : Nat)) (q / (Int.gcd p q : Nat)) = Rat.divInt p q := make_div p q
 exact fin1 rfl (.inr rfl) ⟨_, _, _, _, _, rfl, rfl, rfl, ty_rat⟩ (is_rt (by rw [e]) (by rw [e]) (by omega))
theorem ROf_con (p q : Int) (h1 : -9223372036854775808 ≤ p) (h2 : p ≤ 9223372036854775807) (h3 : -9223372036854775808 ≤ q) (h4 : q ≤ 9223372036854775807) : Con Tryz.prog 78 [.v (.int .i64 p), .v (.int .i64 q)] (.one (RT (Rat.divInt p q) 6)) := by
 refine Con.of (n := 10) Tryz.func78 rfl rfl rfl rfl rfl fun cx hfr => ?_
 refine sr rfl ?_
 refine p2 (ok_alloc (i := 0) rfl rfl bd zero_rat rfl rfl rfl rfl) ?_
 refine RV.done (sr rfl ?_)
 refine xm ?_
 refine xc (Of_con p h1 h2) Tryz.func120 (xa rfl) hfr ?_
 refine xm ?_
 refine xc (Of_con q h3 h4) Tryz.func120 (xa rfl) hfr ?_
 refine xd rfl (RMake_con _ _ _ _ (by omega) (by omega)) Tryz.func119 (xb rfl rfl) hfr ?_
 refine p1 (ok_store rfl rfl rfl rfl rfl rfl rfl (ty_rat).2 rfl rfl rfl rfl) ?_
 refine RV.done ?_
 refine CV.ret ?_
 exact fin1 rfl (.inr rfl) ⟨_, _, _, _, _, rfl, rfl, rfl, ty_rat⟩ is_rfl
theorem IValid_con (z : Int) {k : Nat} : Con Tryz.prog 104 [.d (Dm.int z k)] (.one (.v (.bool true))) :=
 con_val1 fun vx w h => Valid_any vx z w h
theorem RValid_con (a : Rat) (k : Nat) (hk : k ≤ 10000000) : Con Tryz.prog 56 [RT a k] (.one (.v (.bool true))) := by
 refine Con.of (n := 35) Tryz.func56 rfl rfl rfl rfl rfl fun cx hfr => ?_
 refine sr rfl ?_
 refine p2 (ok_box (i := 0) rfl rfl bd rfl rfl rfl rfl rfl) ?_
 refine xn ?_
 refine RV.done ?_
 refine CV.seq ?_
 refine sr rfl ?_
 refine p1 (ok_fieldAddr fa_rat0 rfl rfl bd rfl) ?_
 refine p1 (ok_loadf 0 fld_num rfl rfl bd rfl rfl rfl rfl ty_int) ?_
 refine xc (IValid_con _) Tryz.func104 (xa rfl) hfr ?_
 refine p1 (ok_not rfl rfl bd rfl) ?_
 refine xm ?_
 refine RV.step1 (OpOk.yes (ok_fieldAddr fa_rat1 rfl rfl bd rfl) rfl rfl rfl) ?_
 refine RV.step1 (OpOk.yes (ok_loadf 2 fld_den rfl rfl bd rfl rfl rfl rfl ty_int) rfl rfl rfl) ?_
 refine RV.step1 (OpOk.yes (ok_call (IValid_con _) rfl rfl bd Tryz.func104 rfl rfl (xa rfl) rfl hfr rfl) rfl rfl rfl) ?_
 refine RV.step1 (OpOk.yes (ok_not rfl rfl bd rfl) rfl rfl rfl) ?_
 refine p1 (ok_pickF rfl rfl bd rfl rfl rfl) ?_
 refine RV.done ?_
 refine CV.no rfl ?_
 refine CV.skip ?_
 refine sr rfl ?_
 refine p1 (ok_load rfl rfl bd rfl rfl rfl ty_rat) ?_
 refine xc (isWhole_con _ _ _) Tryz.func86 (xa rfl) hfr ?_
 refine xm ?_
 refine RV.bool (fun h1 => ?_) (fun h1 => ?_)
 ·refine xk ?_
  refine xk ?_
  refine xk ?_
  refine xk ?_
  refine xk ?_
  refine RV.step1 (OpOk.skipU rfl rfl rfl rfl bd) ?_
  refine RV.step1 (OpOk.skipU rfl rfl rfl rfl bd) ?_
  refine RV.step1 (OpOk.skipU rfl rfl rfl rfl bd) ?_
  refine RV.step1 (OpOk.skipU rfl rfl rfl rfl bd) ?_
  refine xk ?_
  refine xk ?_
  refine RV.step1 (OpOk.skipU rfl rfl rfl rfl bd) ?_
  refine RV.step1 (OpOk.skipU rfl rfl rfl rfl bd) ?_
  refine RV.step1 (OpOk.skipU rfl rfl rfl rfl bd) ?_
  refine RV.step1 (OpOk.skipU rfl rfl rfl rfl bd) ?_
  refine RV.step1 (OpOk.skipU rfl rfl rfl rfl bd) ?_
  refine RV.step1 (OpOk.skipU rfl rfl rfl rfl bd) ?_
  refine xk ?_
  refine p1 (ok_pickT rfl rfl bd rfl rfl rfl) ?_
  refine xn ?_
  refine RV.done ?_
  refine CV.ret ?_
  exact fin1 rfl (.inr rfl) rfl is_rfl
 ·refine RV.step1 (OpOk.yes (ok_fieldAddr fa_rat1 rfl rfl bd rfl) rfl rfl rfl) ?_
  refine RV.step1 (OpOk.yes (ok_fieldAddr fa_int0 rfl rfl bd rfl) rfl rfl rfl) ?_
  refine RV.step1 (OpOk.yes (ok_loadf 2 fld_nden rfl rfl bd rfl rfl rfl rfl ty_bool) rfl rfl rfl) ?_
  refine RV.step1 (OpOk.yes (ok_not rfl rfl bd rfl) rfl rfl rfl) ?_
  refine RV.step1 (OpOk.yes (ok_move (.inl rfl) rfl bd rfl) rfl rfl rfl) ?_
  refine RV.bool (fun hb => ?_) (fun hb => False.elim (by have := (qd_nn a).1; simp at hb; omega))
  refine RV.step1 (OpOk.yes (ok_fieldAddr fa_rat1 rfl rfl bd rfl) rfl rfl rfl) ?_
  refine RV.step1 (OpOk.yes (ok_loadf 2 fld_den rfl rfl bd rfl rfl rfl rfl ty_int) rfl rfl rfl) ?_
  refine RV.step1 (OpOk.yes (ok_call (isOne_con _ _) rfl rfl bd Tryz.func105 rfl rfl (xa rfl) rfl hfr rfl) rfl rfl rfl) ?_
  refine RV.step1 (OpOk.yes (ok_not rfl rfl bd rfl) rfl rfl rfl) ?_
  refine RV.step1 (OpOk.yes (ok_pickT rfl rfl bd rfl rfl rfl) rfl rfl rfl) ?_
  refine RV.step1 (OpOk.yes (ok_move (.inl rfl) rfl bd rfl) rfl rfl rfl) ?_
  refine RV.bool (fun hb => ?_) (fun hb => False.elim (by have := (qd_nn a).2; simp at hb; omega))
  refine RV.step1 (OpOk.yes (ok_fieldAddr fa_rat0 rfl rfl bd rfl) rfl rfl rfl) ?_
  refine RV.step1 (OpOk.yes (ok_loadf 0 fld_num rfl rfl bd rfl rfl rfl rfl ty_int) rfl rfl rfl) ?_
  refine RV.step1 (OpOk.yes (ok_fieldAddr fa_rat1 rfl rfl bd rfl) rfl rfl rfl) ?_
  refine RV.step1 (OpOk.yes (ok_loadf 2 fld_den rfl rfl bd rfl rfl rfl rfl ty_int) rfl rfl rfl) ?_
  refine RV.step1 (OpOk.yes (ok_call (Gcd_con _ _ (by omega) (by omega)) rfl rfl bd Tryz.func88 rfl rfl (xb rfl rfl) rfl hfr rfl) rfl rfl rfl) ?_
  refine RV.step1 (OpOk.yes (ok_call (isOne_con _ _) rfl rfl bd Tryz.func105 rfl rfl (xa rfl) rfl hfr rfl) rfl rfl rfl) ?_
  refine RV.step1 (OpOk.yes (ok_pickT rfl rfl bd rfl rfl rfl) rfl rfl rfl) ?_
  refine p1 (ok_pickF rfl rfl bd rfl rfl rfl) ?_
  refine xn ?_
  refine RV.done ?_
  refine CV.ret ?_
  have h5 : ¬ qd a = 0 := by simpa using h1
  refine fin1 rfl (.inr rfl) rfl (is_bool ?_)
  rw [decide_eq_true_eq, show qd a = (a.den : Int) from by rw [← dn_qd a, if_neg h5], red a]
  rfl
theorem rone_con (z : Int) (k : Nat) : Con Tryz.prog 108 [.d (Dm.int z k)] (.one (.v (.bool (decide (z = 1))))) := by
 refine Con.of (n := 16) Tryz.func108 rfl rfl rfl rfl rfl fun cx hfr => ?_
 refine sr rfl ?_
 refine p2 (ok_box (i := 0) rfl rfl bd rfl rfl rfl rfl rfl) ?_
 refine xn ?_
 refine RV.done ?_
 refine CV.seq ?_
 refine sr rfl ?_
 refine p1 (ok_fieldAddr fa_int0 rfl rfl bd rfl) ?_
 refine p1 (ok_loadf 0 fld_neg rfl rfl bd rfl rfl rfl rfl ty_bool) ?_
 refine xm ?_
 refine RV.bool (fun h1 => ?_) (fun h1 => ?_)
 ·refine xk ?_
  refine xk ?_
  refine xk ?_
  refine xk ?_
  refine p1 (ok_pickT rfl rfl bd rfl rfl rfl) ?_
  refine RV.done ?_
  refine CV.yes rfl ?_
  refine sr rfl ?_
  refine xn ?_
  refine RV.done ?_
  refine CV.ret ?_
  refine fin1 rfl (.inr rfl) rfl (is_bool ?_)
  rw [eq_comm, decide_eq_false_iff_not]
  simp at h1
  omega
 ·refine RV.step1 (OpOk.yes (ok_fieldAddr fa_int1 rfl rfl bd rfl) rfl rfl rfl) ?_
  refine RV.step1 (OpOk.yes (ok_loadf 1 fld_dig rfl rfl bd rfl rfl rfl rfl ty_ints) rfl rfl rfl) ?_
  refine RV.step1 (OpOk.yes (ok_len rfl rfl bd rfl) rfl rfl rfl) ?_
  refine RV.step1 (OpOk.yes (ok_neq rfl rfl bd rfl rfl) rfl rfl rfl) ?_
  refine p1 (ok_pickF rfl rfl bd rfl rfl rfl) ?_
  refine RV.done ?_
  refine CV.cond rfl (fun h2 => ?_) (fun h2 => ?_)
  ·refine sr rfl ?_
   refine xn ?_
   refine RV.done ?_
   refine CV.ret ?_
   refine fin1 rfl (.inr rfl) rfl (is_bool ?_)
   rw [eq_comm, decide_eq_false_iff_not]
   rintro rfl
   cases h2
  ·refine CV.skip ?_
   refine sr rfl ?_
   refine p1 (ok_fieldAddr fa_int1 rfl rfl bd rfl) ?_
   refine p1 (ok_loadf 1 fld_dig rfl rfl bd rfl rfl rfl rfl ty_ints) ?_
   refine p1 (ok_idx (i := 0) (by simp at h2; omega) rfl rfl bd rfl rfl) ?_
   refine p1 (ok_loadc rfl rfl bd rfl) ?_
   refine p1 (ok_eql rfl rfl bd rfl rfl) ?_
   refine xn ?_
   refine RV.done ?_
   refine CV.ret ?_
   refine fin1 rfl (.inr rfl) rfl (is_bool ?_)
   rw [one_dig (by simp at h2; omega), Bool.eq_iff_iff]
   simp at h1 ⊢
   omega
theorem rDen_con (p q : Int) (k : Nat) : Con Tryz.prog 112 [.d (Dm.rt p q k)] (.one (.d (Dm.int (if q = 0 then 1 else q) (k + 3)))) := by
 refine Con.of (n := 11) Tryz.func112 rfl rfl rfl rfl rfl fun cx hfr => ?_
 refine sr rfl ?_
 refine p2 (ok_box (i := 0) rfl rfl bd rfl rfl rfl rfl rfl) ?_
 refine p2 (ok_alloc (i := 1) rfl rfl bd zero_int rfl rfl rfl rfl) ?_
 refine RV.done ?_
 refine CV.seq ?_
 refine sr rfl ?_
 refine p1 (ok_fieldAddr fa_rat1 rfl rfl bd rfl) ?_
 refine p1 (ok_fieldAddr fa_int1 rfl rfl bd rfl) ?_
 refine p1 (ok_loadf 3 fld_dden rfl rfl bd rfl rfl rfl rfl ty_ints) ?_
 refine p1 (ok_len rfl rfl bd rfl) ?_
 refine p1 (ok_eql rfl rfl bd rfl rfl) ?_
 refine RV.done ?_
 refine CV.cond rfl (fun hc => ?_) (fun hc => ?_)
 ·refine sr rfl ?_
  refine xd rfl (rOf_con _ (by decide) (by decide)) Tryz.func63 (xa rfl) hfr ?_
  refine p1 (ok_store rfl rfl rfl rfl rfl rfl rfl (ty_int).2 rfl rfl rfl rfl) ?_
  refine RV.done ?_
  refine CV.ret ?_
  rw [dig_len_zero] at hc
  exact fin1 rfl (.inr rfl) ⟨_, _, _, _, _, rfl, rfl, rfl, ty_int⟩ (is_int' (by rw [if_pos (by simpa using hc)]) (by omega))
 ·refine CV.skip ?_
  refine sr rfl ?_
  refine p1 (ok_fieldAddr fa_rat1 rfl rfl bd rfl) ?_
  refine p1 (ok_loadf 2 fld_den rfl rfl bd rfl rfl rfl rfl ty_int) ?_
  refine p1 (ok_store rfl rfl rfl rfl rfl rfl rfl (ty_int).2 rfl rfl rfl rfl) ?_
  refine RV.done ?_
  refine CV.ret ?_
  rw [dig_len_zero] at hc
  exact fin1 rfl (.inr rfl) ⟨_, _, _, _, _, rfl, rfl, rfl, ty_int⟩ (is_int' (by rw [if_neg (by simpa using hc)]) (by omega))
theorem rDen_con' (a : Rat) (k : Nat) : Con Tryz.prog 112 [RT a k] (.one (.d (Dm.int a.den (k + 3)))) := by
 have h := rDen_con a.num (qd a) k
 rwa [dn_qd] at h
theorem zero_divInt' (q : Int) : (Rat.divInt 0 q).num = 0 ∧ qd (Rat.divInt 0 q) = 0 := by
 rw [Rat.zero_divInt]
 exact ⟨rfl, rfl⟩
theorem make_num (p q : Int) (hq : q ≠ 0) : (Rat.divInt p q).num = (q / (Int.gcd p q : Nat)).sign * (p / (Int.gcd p q : Nat)) ∧ qd (Rat.divInt p q) = (if (q / (Int.gcd p q : Nat)).natAbs = 1 then 0 else ((q / (Int.gcd p q : Nat)).natAbs : Int)) := by
 obtain ⟨h1, h2⟩ := make_facts p q hq
 have h3 : q / (Int.gcd p q : Nat) ≠ 0 := by
  intro e
  have d2 : ((Int.gcd p q : Nat) : Int) ∣ q := Int.gcd_dvd_right ..
  have := Int.ediv_mul_cancel d2
  rw [e, Int.zero_mul] at this
  exact hq this.symm
 rw [← h2]
 exact ⟨low_num h1, low_qd h1 h3⟩
theorem rMake_con (p q : Int) (j k : Nat) (hj : j ≤ 10000000) (hk : k ≤ 10000000) : Con Tryz.prog 62 [.d (Dm.int p j), .d (Dm.int q k)] (.one (RT (Rat.divInt p q) (j + k))) := by
 refine Con.of (n := 49) Tryz.func62 rfl rfl rfl rfl rfl fun cx hfr => ?_
 refine sr rfl ?_
 refine p2 (ok_box (i := 0) rfl rfl bd rfl rfl rfl rfl rfl) ?_
 refine p2 (ok_box (i := 1) rfl rfl bd rfl rfl rfl rfl rfl) ?_
 refine p2 (ok_alloc (i := 2) rfl rfl bd zero_rat rfl rfl rfl rfl) ?_
 refine RV.done ?_
 refine CV.seq ?_
 refine sr rfl ?_
 refine p1 (ok_fieldAddr fa_int1 rfl rfl bd rfl) ?_
 refine p1 (ok_loadf 1 fld_dig rfl rfl bd rfl rfl rfl rfl ty_ints) ?_
 refine p1 (ok_len rfl rfl bd rfl) ?_
 refine p1 (ok_eql rfl rfl bd rfl rfl) ?_
 refine xm ?_
 refine RV.bool (fun h1 => ?_) (fun h1 => ?_)
 ·refine xk ?_
  refine xk ?_
  refine xk ?_
  refine xk ?_
  refine p1 (ok_pickT rfl rfl bd rfl rfl rfl) ?_
  refine RV.done ?_
  refine CV.yes rfl ?_
  refine sr rfl ?_
  refine p1 (ok_build0 rfl rfl bd) ?_
  refine p1 (ok_store rfl rfl rfl rfl rfl rfl rfl (ty_rat).2 rfl rfl rfl rfl) ?_
  refine RV.done ?_
  refine CV.ret ?_
  rw [dig_len_zero] at h1
  obtain rfl : q = 0 := by simpa using h1
  exact fin1 rfl (.inr rfl) ⟨_, _, _, _, _, rfl, rfl, rfl, ty_rat⟩ (is_rt (qd_of_zero p).1.symm (qd_of_zero p).2.symm (by omega))
 ·refine RV.step1 (OpOk.yes (ok_fieldAddr fa_int1 rfl rfl bd rfl) rfl rfl rfl) ?_
  refine RV.step1 (OpOk.yes (ok_loadf 1 fld_dig rfl rfl bd rfl rfl rfl rfl ty_ints) rfl rfl rfl) ?_
  refine RV.step1 (OpOk.yes (ok_len rfl rfl bd rfl) rfl rfl rfl) ?_
  refine RV.step1 (OpOk.yes (ok_eql rfl rfl bd rfl rfl) rfl rfl rfl) ?_
  refine p1 (ok_pickF rfl rfl bd rfl rfl rfl) ?_
  refine RV.done ?_
  refine CV.cond rfl (fun h2 => ?_) (fun h2 => ?_)
  ·refine sr rfl ?_
   refine p1 (ok_build0 rfl rfl bd) ?_
   refine p1 (ok_store rfl rfl rfl rfl rfl rfl rfl (ty_rat).2 rfl rfl rfl rfl) ?_
   refine RV.done ?_
   refine CV.ret ?_
   rw [dig_len_zero] at h2
   obtain rfl : p = 0 := by simpa using h2
   exact fin1 rfl (.inr rfl) ⟨_, _, _, _, _, rfl, rfl, rfl, ty_rat⟩ (is_rt (zero_divInt' q).1.symm (zero_divInt' q).2.symm (by omega))
  ·refine CV.skip ?_
   refine sr rfl ?_
   refine p1 (ok_load rfl rfl bd rfl rfl rfl ty_int) ?_
   refine p1 (ok_load rfl rfl bd rfl rfl rfl ty_int) ?_
   refine xd rfl (rGcd_con _ _ (by omega) (by omega)) Tryz.func109 (xb rfl rfl) hfr ?_
   refine p2 (ok_alloc (i := 3) rfl rfl bd zero_int rfl rfl rfl rfl) ?_
   refine p1 (ok_store rfl rfl rfl rfl rfl rfl rfl (ty_int).2 rfl rfl rfl rfl) ?_
   refine RV.done (sr rfl ?_)
   refine p1 (ok_load rfl rfl bd rfl rfl rfl ty_int) ?_
   refine p1 (ok_load rfl rfl bd rfl rfl rfl ty_int) ?_
   refine xd rfl (rDiv_con _ _ (by omega) (by omega)) Tryz.func113 (xb rfl rfl) hfr ?_
   refine xm ?_
   refine p1 (ok_extract rfl rfl bd rfl rfl) ?_
   refine p1 (ok_extract rfl rfl bd rfl rfl) ?_
   refine p2 (ok_alloc (i := 4) rfl rfl bd zero_int rfl rfl rfl rfl) ?_
   refine p2 (ok_alloc (i := 5) rfl rfl bd zero_int rfl rfl rfl rfl) ?_
   refine p1 (ok_store rfl rfl rfl rfl rfl rfl rfl (ty_int).2 rfl rfl rfl rfl) ?_
   refine p1 (ok_store rfl rfl rfl rfl rfl rfl rfl (ty_int).2 rfl rfl rfl rfl) ?_
   refine RV.done (sr rfl ?_)
   refine p1 (ok_load rfl rfl bd rfl rfl rfl ty_int) ?_
   refine p1 (ok_load rfl rfl bd rfl rfl rfl ty_int) ?_
   refine xd rfl (rDiv_con _ _ (by omega) (by omega)) Tryz.func113 (xb rfl rfl) hfr ?_
   refine xm ?_
   refine p1 (ok_extract rfl rfl bd rfl rfl) ?_
   refine p1 (ok_extract rfl rfl bd rfl rfl) ?_
   refine p2 (ok_alloc (i := 6) rfl rfl bd zero_int rfl rfl rfl rfl) ?_
   refine p2 (ok_alloc (i := 7) rfl rfl bd zero_int rfl rfl rfl rfl) ?_
   refine p1 (ok_store rfl rfl rfl rfl rfl rfl rfl (ty_int).2 rfl rfl rfl rfl) ?_
   refine p1 (ok_store rfl rfl rfl rfl rfl rfl rfl (ty_int).2 rfl rfl rfl rfl) ?_
   refine RV.done ?_
   refine CV.seq ?_
   refine sr rfl ?_
   refine p1 (ok_fieldAddr fa_int0 rfl rfl bd rfl) ?_
   refine p1 (ok_loadf 0 fld_neg rfl rfl bd rfl rfl rfl rfl ty_bool) ?_
   refine RV.done ?_
   refine CV.cond rfl (fun h3 => ?_) (fun h3 => ?_)
   ·refine sr rfl ?_
    refine p1 (ok_load rfl rfl bd rfl rfl rfl ty_int) ?_
    refine xc (rNeg_con _) Tryz.func102 (xa rfl) hfr ?_
    refine p1 (ok_store rfl rfl rfl rfl rfl rfl rfl (ty_int).2 rfl rfl rfl rfl) ?_
    refine RV.done ?_
    refine CV.region rfl (fun h => nomatch h) ?_
    refine p1 (ok_load rfl rfl bd rfl rfl rfl ty_int) ?_
    refine xc (rNeg_con _) Tryz.func102 (xa rfl) hfr ?_
    refine p1 (ok_store rfl rfl rfl rfl rfl rfl rfl (ty_int).2 rfl rfl rfl rfl) ?_
    refine RV.done ?_
    refine CV.seq ?_
    refine sr rfl ?_
    refine p1 (ok_load rfl rfl bd rfl rfl rfl ty_int) ?_
    refine xc (rone_con _ _) Tryz.func108 (xa rfl) hfr ?_
    refine RV.done ?_
    refine CV.cond rfl (fun h4 => ?_) (fun h4 => ?_)
    ·refine sr rfl ?_
     refine p1 (ok_load rfl rfl bd rfl rfl rfl ty_int) ?_
     refine p1 (ok_build1 rfl rfl bd rfl) ?_
     refine p1 (ok_store rfl rfl rfl rfl rfl rfl rfl (ty_rat).2 rfl rfl rfl rfl) ?_
     refine RV.done ?_
     refine CV.ret ?_
     rw [dig_len_zero] at h1
     have hq : q ≠ 0 := by simpa using h1
     obtain ⟨e1, e2⟩ := make_num p q hq
     have h3 : q / (Int.gcd p q : Nat) < 0 := by simpa using h3
     have h4 : -(q / (Int.gcd p q : Nat)) = 1 := by simpa using h4
     exact fin1 rfl (.inr rfl) ⟨_, _, _, _, _, rfl, rfl, rfl, ty_rat⟩ (is_rt (by rw [e1, Int.sign_eq_neg_one_of_neg h3]; omega) (by rw [e2, if_pos (by omega)]) (by omega))
    ·refine CV.skip ?_
     refine sr rfl ?_
     refine p1 (ok_load rfl rfl bd rfl rfl rfl ty_int) ?_
     refine p1 (ok_load rfl rfl bd rfl rfl rfl ty_int) ?_
     refine p1 (ok_build2 rfl rfl bd rfl rfl) ?_
     refine p1 (ok_store rfl rfl rfl rfl rfl rfl rfl (ty_rat).2 rfl rfl rfl rfl) ?_
     refine RV.done ?_
     refine CV.ret ?_
     rw [dig_len_zero] at h1
     have hq : q ≠ 0 := by simpa using h1
     obtain ⟨e1, e2⟩ := make_num p q hq
     have h3 : q / (Int.gcd p q : Nat) < 0 := by simpa using h3
     have h4 : ¬ -(q / (Int.gcd p q : Nat)) = 1 := by simpa using h4
     exact fin1 rfl (.inr rfl) ⟨_, _, _, _, _, rfl, rfl, rfl, ty_rat⟩ (is_rt (by rw [e1, Int.sign_eq_neg_one_of_neg h3]; omega) (by rw [e2, if_neg (by omega)]; omega) (by omega))
   ·refine CV.skip ?_
    refine CV.seq ?_
    refine sr rfl ?_
    refine p1 (ok_load rfl rfl bd rfl rfl rfl ty_int) ?_
    refine xc (rone_con _ _) Tryz.func108 (xa rfl) hfr ?_
    refine RV.done ?_
    refine CV.cond rfl (fun h4 => ?_) (fun h4 => ?_)
    ·refine sr rfl ?_
     refine p1 (ok_load rfl rfl bd rfl rfl rfl ty_int) ?_
     refine p1 (ok_build1 rfl rfl bd rfl) ?_
     refine p1 (ok_store rfl rfl rfl rfl rfl rfl rfl (ty_rat).2 rfl rfl rfl rfl) ?_
     refine RV.done ?_
     refine CV.ret ?_
     rw [dig_len_zero] at h1
     have hq : q ≠ 0 := by simpa using h1
     obtain ⟨e1, e2⟩ := make_num p q hq
     have h3 : ¬ q / (Int.gcd p q : Nat) < 0 := by simpa using h3
     have h4 : q / (Int.gcd p q : Nat) = 1 := by simpa using h4
     exact fin1 rfl (.inr rfl) ⟨_, _, _, _, _, rfl, rfl, rfl, ty_rat⟩ (is_rt (by rw [e1, h4]; simp) (by rw [e2, h4]; rfl) (by omega))
    ·refine CV.skip ?_
     refine sr rfl ?_
     refine p1 (ok_load rfl rfl bd rfl rfl rfl ty_int) ?_
     refine p1 (ok_load rfl rfl bd rfl rfl rfl ty_int) ?_
     refine p1 (ok_build2 rfl rfl bd rfl rfl) ?_
     refine p1 (ok_store rfl rfl rfl rfl rfl rfl rfl (ty_rat).2 rfl rfl rfl rfl) ?_
     refine RV.done ?_
     refine CV.ret ?_
     rw [dig_len_zero] at h1
     have hq : q ≠ 0 := by simpa using h1
     obtain ⟨e1, e2⟩ := make_num p q hq
     have h3 : ¬ q / (Int.gcd p q : Nat) < 0 := by simpa using h3
     have h4 : ¬ q / (Int.gcd p q : Nat) = 1 := by simpa using h4
     have h5 : q / (Int.gcd p q : Nat) ≠ 0 := fun e => hq (by have d2 : ((Int.gcd p q : Nat) : Int) ∣ q := Int.gcd_dvd_right .. ; have := Int.ediv_mul_cancel d2; rw [e, Int.zero_mul] at this; exact this.symm)
     exact fin1 rfl (.inr rfl) ⟨_, _, _, _, _, rfl, rfl, rfl, ty_rat⟩ (is_rt (by rw [e1, Int.sign_eq_one_of_pos (by omega)]; omega) (by rw [e2, if_neg (by omega)]; omega) (by omega))
theorem rfOf_con (p q : Int) (h1 : -9223372036854775808 ≤ p) (h2 : p ≤ 9223372036854775807) (h3 : -9223372036854775808 ≤ q) (h4 : q ≤ 9223372036854775807) : Con Tryz.prog 20 [.v (.int .i64 p), .v (.int .i64 q)] (.one (RT (Rat.divInt p q) 6)) := by
 refine Con.of (n := 10) Tryz.func20 rfl rfl rfl rfl rfl fun cx hfr => ?_
 refine sr rfl ?_
 refine p2 (ok_alloc (i := 0) rfl rfl bd zero_rat rfl rfl rfl rfl) ?_
 refine RV.done (sr rfl ?_)
 refine xm ?_
 refine xc (rOf_con p h1 h2) Tryz.func63 (xa rfl) hfr ?_
 refine xm ?_
 refine xc (rOf_con q h3 h4) Tryz.func63 (xa rfl) hfr ?_
 refine xd rfl (rMake_con _ _ _ _ (by omega) (by omega)) Tryz.func62 (xb rfl rfl) hfr ?_
 refine p1 (ok_store rfl rfl rfl rfl rfl rfl rfl (ty_rat).2 rfl rfl rfl rfl) ?_
 refine RV.done ?_
 refine CV.ret ?_
 exact fin1 rfl (.inr rfl) ⟨_, _, _, _, _, rfl, rfl, rfl, ty_rat⟩ is_rfl
theorem rfSame_con (a b : Rat) (j k : Nat) : Con Tryz.prog 28 [RT a j, RT b k] (.one (.v (.bool (decide (a = b))))) := by
 refine Con.of (n := 17) Tryz.func28 rfl rfl rfl rfl rfl fun cx hfr => ?_
 refine sr rfl ?_
 refine p2 (ok_box (i := 0) rfl rfl bd rfl rfl rfl rfl rfl) ?_
 refine p2 (ok_box (i := 1) rfl rfl bd rfl rfl rfl rfl rfl) ?_
 refine xn ?_
 refine RV.done (sr rfl ?_)
 refine p1 (ok_fieldAddr fa_rat0 rfl rfl bd rfl) ?_
 refine p1 (ok_loadf 0 fld_num rfl rfl bd rfl rfl rfl rfl ty_int) ?_
 refine p1 (ok_fieldAddr fa_rat0 rfl rfl bd rfl) ?_
 refine p1 (ok_loadf 0 fld_num rfl rfl bd rfl rfl rfl rfl ty_int) ?_
 refine xc (rSame_con _ _) Tryz.func75 (xb rfl rfl) hfr ?_
 refine xm ?_
 refine RV.bool (fun h1 => ?_) (fun h1 => ?_)
 ·refine RV.step1 (OpOk.yes (ok_fieldAddr fa_rat1 rfl rfl bd rfl) rfl rfl rfl) ?_
  refine RV.step1 (OpOk.yes (ok_loadf 2 fld_den rfl rfl bd rfl rfl rfl rfl ty_int) rfl rfl rfl) ?_
  refine RV.step1 (OpOk.yes (ok_fieldAddr fa_rat1 rfl rfl bd rfl) rfl rfl rfl) ?_
  refine RV.step1 (OpOk.yes (ok_loadf 2 fld_den rfl rfl bd rfl rfl rfl rfl ty_int) rfl rfl rfl) ?_
  refine RV.step1 (OpOk.yes (ok_call (rSame_con _ _) rfl rfl bd Tryz.func75 rfl rfl (xb rfl rfl) rfl hfr rfl) rfl rfl rfl) ?_
  refine p1 (ok_pickT rfl rfl bd rfl rfl rfl) ?_
  refine xn ?_
  refine RV.done ?_
  refine CV.ret ?_
  have e1 : a.num = b.num := by simpa using h1
  refine fin1 rfl (.inr rfl) rfl (is_bool ?_)
  rw [Bool.eq_iff_iff, decide_eq_true_eq, decide_eq_true_eq]
  exact ⟨fun e2 => Rat.ext e1 (qd_eq e2), fun e => by rw [e]⟩
 ·refine xk ?_
  refine xk ?_
  refine xk ?_
  refine xk ?_
  refine xk ?_
  refine p1 (ok_pickF rfl rfl bd rfl rfl rfl) ?_
  refine xn ?_
  refine RV.done ?_
  refine CV.ret ?_
  have e2 : ¬ a.num = b.num := by simpa using h1
  exact fin1 rfl (.inr rfl) rfl (is_bool (by rw [eq_comm, decide_eq_false_iff_not]; rintro rfl; exact e2 rfl))
theorem At_c (zs : List Int) (i : Nat) (m : Int) (hm : 1 ≤ m) (hm2 : m ≤ 9223372036854775807) : Con Tryz.prog 51 [.d (Dm.ints zs), .v (.int .i64 (i : Int)), .v (.int .i64 m)] (.one (.v (.int .i64 (atI zs i m)))) := by
 have h := At_con zs (i : Int) m (by omega) hm hm2
 rwa [Int.toNat_natCast] at h
end Vc
end Go.Proofs.YtcblbepaigdlgaaGreat

namespace Go.Proofs.YtcblbepaigdlgaaGreat
open Dg Zn
namespace Vc
theorem whole_parts (z : Int) : (Rat.divInt z 1).num = z ∧ ((Rat.divInt z 1).den : Int) = 1 := by
 have hg : Int.gcd z 1 = 1 := Int.gcd_one_right z
 refine ⟨by rw [low_num hg]; simp, ?_⟩
 rw [low_den hg (by decide)]
 rfl
end Vc
end Go.Proofs.YtcblbepaigdlgaaGreat

namespace Go.Proofs.YtcblbepaigdlgaaGreat
open Go.RowKit
open Go.Lib (hid)
open Dg Zn
namespace Vc
set_option maxRecDepth 100000
section
variable {P : Program} {cx : Cx Dm} {n : Nat} {σ : St Dm} {o : Oper} {d : Nat} {x y : Operand} {T T' : TypeId} {k : IntKind} {a b : Int}
theorem ok_eqlT (h : a = b) (ho : o.op = .binOp .eql T x y T') (hd : o.dst = some d) (hn : d < n) (hx : opd σ x = .av (.one (.v (.int k a)))) (hy : opd σ y = .av (.one (.v (.int k b)))) : OpOk P cx n σ o (opk x ++ opk y) [(.s d, .av (.one (.v (.bool true))))] := by
 have := ok_eql (P := P) (cx := cx) ho hd hn hx hy
 rwa [h, beq_self_eq_true] at this
theorem ok_neqF (h : a = b) (ho : o.op = .binOp .neq T x y T') (hd : o.dst = some d) (hn : d < n) (hx : opd σ x = .av (.one (.v (.int k a)))) (hy : opd σ y = .av (.one (.v (.int k b)))) : OpOk P cx n σ o (opk x ++ opk y) [(.s d, .av (.one (.v (.bool false))))] := by
 have := ok_neq (P := P) (cx := cx) ho hd hn hx hy
 rwa [h, bne_self_eq_false] at this
end
theorem divInt_add (a b : Rat) : Rat.divInt (a.num * b.den + b.num * a.den) (a.den * b.den) = a + b := by
 rw [← Rat.divInt_add_divInt a.num b.num (den_ne a) (den_ne b), Rat.num_divInt_den, Rat.num_divInt_den]
theorem divInt_mul (a b : Rat) : Rat.divInt (a.num * b.num) (a.den * b.den) = a * b := by
 rw [← Rat.divInt_mul_divInt, Rat.num_divInt_den, Rat.num_divInt_den]
theorem rfAdd_con (a b : Rat) (j k : Nat) (hj : j ≤ 1000000) (hk : k ≤ 1000000) : Con Tryz.prog 66 [RT a j, RT b k] (.one (RT (a + b) (3 * (j + k) + 20))) := by
 refine Con.of (n := 26) Tryz.func66 rfl rfl rfl rfl rfl fun cx hfr => ?_
 refine sr rfl ?_
 refine p2 (ok_box (i := 0) rfl rfl bd rfl rfl rfl rfl rfl) ?_
 refine p2 (ok_box (i := 1) rfl rfl bd rfl rfl rfl rfl rfl) ?_
 refine p2 (ok_alloc (i := 2) rfl rfl bd zero_rat rfl rfl rfl rfl) ?_
 refine RV.done ?_
 refine CV.seq ?_
 refine CV.region rfl (fun _ => by kernel_rfl) ?_
 refine p1 (ok_fieldAddr fa_rat0 rfl rfl bd rfl) ?_
 refine p1 (ok_loadf 0 fld_num rfl rfl bd rfl rfl rfl rfl ty_int) ?_
 refine p1 (ok_load rfl rfl bd rfl rfl rfl ty_rat) ?_
 refine xc (rDen_con' _ _) Tryz.func112 (xa rfl) hfr ?_
 refine xd rfl (rMul_con _ _ (by omega) (by omega)) Tryz.func111 (xb rfl rfl) hfr ?_
 refine p2 (ok_alloc (i := 3) rfl rfl bd zero_int rfl rfl rfl rfl) ?_
 refine p1 (ok_store rfl rfl rfl rfl rfl rfl rfl (ty_int).2 rfl rfl rfl rfl) ?_
 refine RV.drawn (by kernel_rfl) ?_
 refine CV.seq ?_
 refine CV.region rfl (fun _ => by kernel_rfl) ?_
 refine p1 (ok_fieldAddr fa_rat0 rfl rfl bd rfl) ?_
 refine p1 (ok_loadf 0 fld_num rfl rfl bd rfl rfl rfl rfl ty_int) ?_
 refine p1 (ok_load rfl rfl bd rfl rfl rfl ty_rat) ?_
 refine xc (rDen_con' _ _) Tryz.func112 (xa rfl) hfr ?_
 refine xd rfl (rMul_con _ _ (by omega) (by omega)) Tryz.func111 (xb rfl rfl) hfr ?_
 refine p2 (ok_alloc (i := 4) rfl rfl bd zero_int rfl rfl rfl rfl) ?_
 refine p1 (ok_store rfl rfl rfl rfl rfl rfl rfl (ty_int).2 rfl rfl rfl rfl) ?_
 refine RV.drawn (by kernel_rfl) ?_
 refine CV.seq ?_
 refine CV.region rfl (fun _ => by kernel_rfl) ?_
 refine p1 (ok_load rfl rfl bd rfl rfl rfl ty_int) ?_
 refine p1 (ok_load rfl rfl bd rfl rfl rfl ty_int) ?_
 refine xd rfl (rAdd_con _ _ (by omega) (by omega)) Tryz.func115 (xb rfl rfl) hfr ?_
 refine p1 (ok_load rfl rfl bd rfl rfl rfl ty_rat) ?_
 refine xc (rDen_con' _ _) Tryz.func112 (xa rfl) hfr ?_
 refine p1 (ok_load rfl rfl bd rfl rfl rfl ty_rat) ?_
 refine xc (rDen_con' _ _) Tryz.func112 (xa rfl) hfr ?_
 refine xd rfl (rMul_con _ _ (by omega) (by omega)) Tryz.func111 (xb rfl rfl) hfr ?_
 refine xd rfl (rMake_con _ _ _ _ (by omega) (by omega)) Tryz.func62 (xb rfl rfl) hfr ?_
 refine p1 (ok_store rfl rfl rfl rfl rfl rfl rfl (ty_rat).2 rfl rfl rfl rfl) ?_
 refine RV.drawn (by kernel_rfl) ?_
 refine CV.ret ?_
 exact fin1 rfl (.inr rfl) ⟨_, _, _, _, _, rfl, rfl, rfl, ty_rat⟩ (is_rt (by rw [divInt_add]) (by rw [divInt_add]) (by omega))
theorem rfNeg_con (a : Rat) (k : Nat) : Con Tryz.prog 53 [RT a k] (.one (RT (-a) k)) := by
 refine Con.of (n := 9) Tryz.func53 rfl rfl rfl rfl rfl fun cx hfr => ?_
 refine sr rfl ?_
 refine p2 (ok_box (i := 0) rfl rfl bd rfl rfl rfl rfl rfl) ?_
 refine p2 (ok_alloc (i := 1) rfl rfl bd zero_rat rfl rfl rfl rfl) ?_
 refine RV.done ?_
 refine CV.seq ?_
 refine CV.region rfl (fun _ => by kernel_rfl) ?_
 refine p1 (ok_fieldAddr fa_rat0 rfl rfl bd rfl) ?_
 refine p1 (ok_loadf 0 fld_num rfl rfl bd rfl rfl rfl rfl ty_int) ?_
 refine xc (rNeg_con _) Tryz.func102 (xa rfl) hfr ?_
 refine p1 (ok_fieldAddr fa_rat1 rfl rfl bd rfl) ?_
 refine p1 (ok_loadf 2 fld_den rfl rfl bd rfl rfl rfl rfl ty_int) ?_
 refine p1 (ok_build2 rfl rfl bd rfl rfl) ?_
 refine p1 (ok_store rfl rfl rfl rfl rfl rfl rfl (ty_rat).2 rfl rfl rfl rfl) ?_
 refine RV.drawn (by kernel_rfl) ?_
 refine CV.ret ?_
 exact fin1 rfl (.inr rfl) ⟨_, _, _, _, _, rfl, rfl, rfl, ty_rat⟩ (is_rt (by rw [Rat.neg_num]) (by unfold qd; rw [Rat.neg_den]) (by omega))
theorem rfMul_con (a b : Rat) (j k : Nat) (hj : j ≤ 1000000) (hk : k ≤ 1000000) : Con Tryz.prog 61 [RT a j, RT b k] (.one (RT (a * b) (3 * (j + k) + 20))) := by
 refine Con.of (n := 16) Tryz.func61 rfl rfl rfl rfl rfl fun cx hfr => ?_
 refine sr rfl ?_
 refine p2 (ok_box (i := 0) rfl rfl bd rfl rfl rfl rfl rfl) ?_
 refine p2 (ok_box (i := 1) rfl rfl bd rfl rfl rfl rfl rfl) ?_
 refine p2 (ok_alloc (i := 2) rfl rfl bd zero_rat rfl rfl rfl rfl) ?_
 refine RV.done ?_
 refine CV.seq ?_
 refine CV.region rfl (fun _ => by kernel_rfl) ?_
 refine p1 (ok_fieldAddr fa_rat0 rfl rfl bd rfl) ?_
 refine p1 (ok_loadf 0 fld_num rfl rfl bd rfl rfl rfl rfl ty_int) ?_
 refine p1 (ok_fieldAddr fa_rat0 rfl rfl bd rfl) ?_
 refine p1 (ok_loadf 0 fld_num rfl rfl bd rfl rfl rfl rfl ty_int) ?_
 refine xd rfl (rMul_con _ _ (by omega) (by omega)) Tryz.func111 (xb rfl rfl) hfr ?_
 refine p1 (ok_load rfl rfl bd rfl rfl rfl ty_rat) ?_
 refine xc (rDen_con' _ _) Tryz.func112 (xa rfl) hfr ?_
 refine p1 (ok_load rfl rfl bd rfl rfl rfl ty_rat) ?_
 refine xc (rDen_con' _ _) Tryz.func112 (xa rfl) hfr ?_
 refine xd rfl (rMul_con _ _ (by omega) (by omega)) Tryz.func111 (xb rfl rfl) hfr ?_
 refine xd rfl (rMake_con _ _ _ _ (by omega) (by omega)) Tryz.func62 (xb rfl rfl) hfr ?_
 refine p1 (ok_store rfl rfl rfl rfl rfl rfl rfl (ty_rat).2 rfl rfl rfl rfl) ?_
 refine RV.drawn (by kernel_rfl) ?_
 refine CV.ret ?_
 exact fin1 rfl (.inr rfl) ⟨_, _, _, _, _, rfl, rfl, rfl, ty_rat⟩ (is_rt (by rw [divInt_mul]) (by rw [divInt_mul]) (by omega))
theorem rSign_con (x : Int) (k : Nat) : Con Tryz.prog 110 [.d (Dm.int x k)] (.one (.v (.int .i64 (cmpI x 0)))) := by
 refine Con.of (n := 6) Tryz.func110 rfl rfl rfl rfl rfl fun cx hfr => ?_
 refine sr rfl ?_
 refine p2 (ok_box (i := 0) rfl rfl bd rfl rfl rfl rfl rfl) ?_
 refine xn ?_
 refine RV.done (sr rfl ?_)
 refine p1 (ok_load rfl rfl bd rfl rfl rfl ty_int) ?_
 refine p1 (ok_buildI rfl rfl bd) ?_
 refine xc (rCompare_con _ _) Tryz.func140 (xb rfl rfl) hfr ?_
 refine xn ?_
 refine RV.done ?_
 refine CV.ret ?_
 exact fin1 rfl (.inr rfl) rfl (is_num rfl)
theorem rfSign_con (a : Rat) (k : Nat) : Con Tryz.prog 59 [RT a k] (.one (.v (.int .i64 (cmpI a.num 0)))) := by
 refine Con.of (n := 6) Tryz.func59 rfl rfl rfl rfl rfl fun cx hfr => ?_
 refine sr rfl ?_
 refine p2 (ok_box (i := 0) rfl rfl bd rfl rfl rfl rfl rfl) ?_
 refine xn ?_
 refine RV.done (sr rfl ?_)
 refine p1 (ok_fieldAddr fa_rat0 rfl rfl bd rfl) ?_
 refine p1 (ok_loadf 0 fld_num rfl rfl bd rfl rfl rfl rfl ty_int) ?_
 refine xc (rSign_con _ _) Tryz.func110 (xa rfl) hfr ?_
 refine xn ?_
 refine RV.done ?_
 refine CV.ret ?_
 exact fin1 rfl (.inr rfl) rfl (is_num rfl)
theorem RValidG_con (p q : Int) (k : Nat) (hk : k ≤ 10000000) : Con Tryz.prog 56 [.d (Dm.rt p q k)] (.one (.v (.bool (decide (q = 0 ∨ (0 ≤ q ∧ q ≠ 1 ∧ Int.gcd p q = 1)))))) := by
 refine Con.of (n := 35) Tryz.func56 rfl rfl rfl rfl rfl fun cx hfr => ?_
 refine sr rfl ?_
 refine p2 (ok_box (i := 0) rfl rfl bd rfl rfl rfl rfl rfl) ?_
 refine xn ?_
 refine RV.done ?_
 refine CV.seq ?_
 refine sr rfl ?_
 refine p1 (ok_fieldAddr fa_rat0 rfl rfl bd rfl) ?_
 refine p1 (ok_loadf 0 fld_num rfl rfl bd rfl rfl rfl rfl ty_int) ?_
 refine xc (IValid_con _) Tryz.func104 (xa rfl) hfr ?_
 refine p1 (ok_not rfl rfl bd rfl) ?_
 refine xm ?_
 refine RV.step1 (OpOk.yes (ok_fieldAddr fa_rat1 rfl rfl bd rfl) rfl rfl rfl) ?_
 refine RV.step1 (OpOk.yes (ok_loadf 2 fld_den rfl rfl bd rfl rfl rfl rfl ty_int) rfl rfl rfl) ?_
 refine RV.step1 (OpOk.yes (ok_call (IValid_con _) rfl rfl bd Tryz.func104 rfl rfl (xa rfl) rfl hfr rfl) rfl rfl rfl) ?_
 refine RV.step1 (OpOk.yes (ok_not rfl rfl bd rfl) rfl rfl rfl) ?_
 refine p1 (ok_pickF rfl rfl bd rfl rfl rfl) ?_
 refine RV.done ?_
 refine CV.no rfl ?_
 refine CV.skip ?_
 refine sr rfl ?_
 refine p1 (ok_load rfl rfl bd rfl rfl rfl ty_rat) ?_
 refine xc (isWhole_con _ _ _) Tryz.func86 (xa rfl) hfr ?_
 refine xm ?_
 refine RV.bool (fun h1 => ?_) (fun h1 => ?_)
 ·refine xk ?_
  refine xk ?_
  refine xk ?_
  refine xk ?_
  refine xk ?_
  refine RV.step1 (OpOk.skipU rfl rfl rfl rfl bd) ?_
  refine RV.step1 (OpOk.skipU rfl rfl rfl rfl bd) ?_
  refine RV.step1 (OpOk.skipU rfl rfl rfl rfl bd) ?_
  refine RV.step1 (OpOk.skipU rfl rfl rfl rfl bd) ?_
  refine xk ?_
  refine xk ?_
  refine RV.step1 (OpOk.skipU rfl rfl rfl rfl bd) ?_
  refine RV.step1 (OpOk.skipU rfl rfl rfl rfl bd) ?_
  refine RV.step1 (OpOk.skipU rfl rfl rfl rfl bd) ?_
  refine RV.step1 (OpOk.skipU rfl rfl rfl rfl bd) ?_
  refine RV.step1 (OpOk.skipU rfl rfl rfl rfl bd) ?_
  refine RV.step1 (OpOk.skipU rfl rfl rfl rfl bd) ?_
  refine xk ?_
  refine p1 (ok_pickT rfl rfl bd rfl rfl rfl) ?_
  refine xn ?_
  refine RV.done ?_
  refine CV.ret ?_
  refine fin1 rfl (.inr rfl) rfl (is_bool ?_)
  rw [eq_comm, decide_eq_true_eq]
  exact .inl (by simpa using h1)
 ·refine RV.step1 (OpOk.yes (ok_fieldAddr fa_rat1 rfl rfl bd rfl) rfl rfl rfl) ?_
  refine RV.step1 (OpOk.yes (ok_fieldAddr fa_int0 rfl rfl bd rfl) rfl rfl rfl) ?_
  refine RV.step1 (OpOk.yes (ok_loadf 2 fld_nden rfl rfl bd rfl rfl rfl rfl ty_bool) rfl rfl rfl) ?_
  refine RV.step1 (OpOk.yes (ok_not rfl rfl bd rfl) rfl rfl rfl) ?_
  refine RV.step1 (OpOk.yes (ok_move (.inl rfl) rfl bd rfl) rfl rfl rfl) ?_
  refine RV.bool (fun h2 => ?_) (fun h2 => ?_)
  ·refine RV.step1 (OpOk.yes (ok_fieldAddr fa_rat1 rfl rfl bd rfl) rfl rfl rfl) ?_
   refine RV.step1 (OpOk.yes (ok_loadf 2 fld_den rfl rfl bd rfl rfl rfl rfl ty_int) rfl rfl rfl) ?_
   refine RV.step1 (OpOk.yes (ok_call (isOne_con _ _) rfl rfl bd Tryz.func105 rfl rfl (xa rfl) rfl hfr rfl) rfl rfl rfl) ?_
   refine RV.step1 (OpOk.yes (ok_not rfl rfl bd rfl) rfl rfl rfl) ?_
   refine RV.step1 (OpOk.yes (ok_pickT rfl rfl bd rfl rfl rfl) rfl rfl rfl) ?_
   refine RV.step1 (OpOk.yes (ok_move (.inl rfl) rfl bd rfl) rfl rfl rfl) ?_
   refine RV.bool (fun h3 => ?_) (fun h3 => ?_)
   ·refine RV.step1 (OpOk.yes (ok_fieldAddr fa_rat0 rfl rfl bd rfl) rfl rfl rfl) ?_
    refine RV.step1 (OpOk.yes (ok_loadf 0 fld_num rfl rfl bd rfl rfl rfl rfl ty_int) rfl rfl rfl) ?_
    refine RV.step1 (OpOk.yes (ok_fieldAddr fa_rat1 rfl rfl bd rfl) rfl rfl rfl) ?_
    refine RV.step1 (OpOk.yes (ok_loadf 2 fld_den rfl rfl bd rfl rfl rfl rfl ty_int) rfl rfl rfl) ?_
    refine RV.step1 (OpOk.yes (ok_call (Gcd_con _ _ (by omega) (by omega)) rfl rfl bd Tryz.func88 rfl rfl (xb rfl rfl) rfl hfr rfl) rfl rfl rfl) ?_
    refine RV.step1 (OpOk.yes (ok_call (isOne_con _ _) rfl rfl bd Tryz.func105 rfl rfl (xa rfl) rfl hfr rfl) rfl rfl rfl) ?_
    refine RV.step1 (OpOk.yes (ok_pickT rfl rfl bd rfl rfl rfl) rfl rfl rfl) ?_
    refine p1 (ok_pickF rfl rfl bd rfl rfl rfl) ?_
    refine xn ?_
    refine RV.done ?_
    refine CV.ret ?_
    have h1' : ¬ q = 0 := by simpa using h1
    have h2' : 0 ≤ q := by simpa using h2
    have h3' : ¬ q = 1 := by simpa using h3
    refine fin1 rfl (.inr rfl) rfl (is_bool ?_)
    rw [Bool.eq_iff_iff, decide_eq_true_eq, decide_eq_true_eq]
    omega
   ·refine xk ?_
    refine xk ?_
    refine xk ?_
    refine xk ?_
    refine xk ?_
    refine xk ?_
    refine RV.step1 (OpOk.yes (ok_pickF rfl rfl bd rfl rfl rfl) rfl rfl rfl) ?_
    refine p1 (ok_pickF rfl rfl bd rfl rfl rfl) ?_
    refine xn ?_
    refine RV.done ?_
    refine CV.ret ?_
    have h1' : ¬ q = 0 := by simpa using h1
    have h3' : q = 1 := by simpa using h3
    refine fin1 rfl (.inr rfl) rfl (is_bool ?_)
    rw [eq_comm, decide_eq_false_iff_not]
    omega
  ·refine xk ?_
   refine xk ?_
   refine xk ?_
   refine xk ?_
   refine RV.step1 (OpOk.yes (ok_pickF rfl rfl bd rfl rfl rfl) rfl rfl rfl) ?_
   refine RV.step1 (OpOk.yes (ok_move (.inl rfl) rfl bd rfl) rfl rfl rfl) ?_
   refine xk ?_
   refine xk ?_
   refine xk ?_
   refine xk ?_
   refine xk ?_
   refine xk ?_
   refine RV.step1 (OpOk.yes (ok_pickF rfl rfl bd rfl rfl rfl) rfl rfl rfl) ?_
   refine p1 (ok_pickF rfl rfl bd rfl rfl rfl) ?_
   refine xn ?_
   refine RV.done ?_
   refine CV.ret ?_
   have h1' : ¬ q = 0 := by simpa using h1
   have h2' : q < 0 := by simpa using h2
   refine fin1 rfl (.inr rfl) rfl (is_bool ?_)
   rw [eq_comm, decide_eq_false_iff_not]
   omega
section
variable {cx : Cx Dm} {n : Nat} {σ : St Dm} {o : Oper} {d t : Nat} {x y : Operand} {T T' : TypeId}
end
set_option linter.unusedSectionVars false
inductive FindOk (B : Nat) : Int → Int → Int → Int → Int → Int → Prop where
 | whole {a b c d : Int} : a % b = 0 → b ≠ 0 → len (a / b) ≤ B → FindOk B a b c d (a / b) 1
 | next {a b c d : Int} : a % b ≠ 0 → b ≠ 0 → d ≠ 0 → a / b < c / d → len (a / b + 1) ≤ B → FindOk B a b c d (a / b + 1) 1
 | step {a b c d q p : Int} : a % b ≠ 0 → b ≠ 0 → d ≠ 0 → ¬ a / b < c / d → FindOk B d (c % d) b (a % b) q p → len (a / b * q + p) ≤ B → len q ≤ B → FindOk B a b c d (a / b * q + p) q
section
variable (a b c d : Int) (j1 j2 j3 j4 B : Nat) (hj1 : j1 ≤ 1000000) (hj2 : j2 ≤ 1000000) (hj3 : j3 ≤ 1000000) (hj4 : j4 ≤ 1000000) (hB1 : 1 ≤ B) (hB : B ≤ 1000000)
include hj1 hj2 hj3 hj4 hB1 hB
end
end Vc
end Go.Proofs.YtcblbepaigdlgaaGreat

namespace Go.Proofs.YtcblbepaigdlgaaGreat
open Go.RowKit
open Go.Lib (hid)
open Dg Zn
namespace Vc
end Vc
end Go.Proofs.YtcblbepaigdlgaaGreat
