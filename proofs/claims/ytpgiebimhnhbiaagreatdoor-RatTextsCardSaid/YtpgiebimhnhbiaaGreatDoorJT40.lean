/-
  IntegerQuotients: its walk.
  Contracts of gantry/rat: products, quotients, signs, comparison, validity; the reference's numbers.
  The reference's fractions: its numbers; the law's equality.
  Plain facts on fractions: their order, floors and ceilings.
  RatSums and RatOrder: their walks, the examples' contract given.
  Towards layer 5's examples: Valid in general, Between given least.
  Towards layer 5's examples: Text and Parse, given those of the integers.
  find: what least's closure returns.
  least: a closure made and stored where it finds itself.
  Layer 5's examples of Between.
-/
import Derived.Test.YtpgiebimhnhbiaaGreatDoorJT12
import Derived.Test.YtpgiebimhnhbiaaGreatDoorJT39
import Derived.IntWalk
import Derived.Test.YtpgiebimhnhbiaaGreatDoorJT38
import Derived.Test.YtpgiebimhnhbiaaGreatDoorJT25
import Derived.Test.YtpgiebimhnhbiaaGreatDoorJT26
set_option linter.unusedVariables false
set_option linter.unusedSimpArgs false
set_option linter.unusedSectionVars false
namespace Go.Proofs.YtpgiebimhnhbiaaGreatDoor
open Go.RowKit
open Go.Lib (hid)
open Dg Zn
namespace Vc
set_option maxRecDepth 100000

theorem wrapI {z : Int} (h1 : -9223372036854775808 ≤ z) (h2 : z ≤ 9223372036854775807) : IntKind.i64.wrap z = z := IntWalk.i64_in _ (by omega)

theorem rDiv0_con (x : Int) (j k : Nat) : Con Tryz.prog 102 [.d (Dm.int x j), .d (Dm.int 0 k)] (.tup [.d (Dm.int 0 j), .d (Dm.int 0 k)]) := by
 refine Con.of (n := 58) Tryz.func102 rfl rfl rfl rfl rfl fun cx hfr => ?_
 refine sr rfl ?_
 refine p2 (ok_box (i := 0) rfl rfl bd rfl rfl rfl rfl rfl) ?_
 refine p2 (ok_box (i := 1) rfl rfl bd rfl rfl rfl rfl rfl) ?_
 refine p2 (ok_alloc (i := 2) rfl rfl bd zero_int rfl rfl rfl rfl) ?_
 refine p2 (ok_alloc (i := 3) rfl rfl bd zero_int rfl rfl rfl rfl) ?_
 refine RV.done ?_
 refine CV.seq ?_
 refine sr rfl ?_
 refine p1 (ok_fieldAddr fa_int1 rfl rfl bd rfl) ?_
 refine p1 (ok_loadf 1 fld_dig rfl rfl bd rfl rfl rfl rfl ty_ints) ?_
 refine p1 (ok_len rfl rfl bd rfl) ?_
 refine p1 (ok_eql rfl rfl bd rfl rfl) ?_
 refine RV.done ?_
 refine CV.cond rfl (fun hc => ?_) (fun hc => False.elim (by rw [dig_len_zero] at hc; simp at hc))
 refine sr rfl ?_
 refine p1 (ok_buildI rfl rfl bd) ?_
 refine p1 (ok_buildI rfl rfl bd) ?_
 refine p1 (ok_store rfl rfl rfl rfl rfl rfl rfl (ty_int).2 rfl rfl rfl rfl) ?_
 refine p1 (ok_store rfl rfl rfl rfl rfl rfl rfl (ty_int).2 rfl rfl rfl rfl) ?_
 refine RV.done ?_
 refine CV.ret ?_
 exact fin2 rfl (.inr rfl) ⟨_, _, _, _, _, rfl, rfl, rfl, ty_int⟩ ⟨_, _, _, _, _, rfl, rfl, rfl, ty_int⟩ (is_int2 rfl (Nat.zero_le _) rfl (Nat.zero_le _))

theorem rDiv_con (x y : Int) {j k : Nat} (hj : j ≤ 1000000000) (hk : k ≤ 1000000000) : Con Tryz.prog 102 [.d (Dm.int x j), .d (Dm.int y k)] (.tup [.d (Dm.int (x / y) j), .d (Dm.int (if y = 0 then 0 else x % y) k)]) := by
 by_cases hy : y = 0
 ·subst hy
  rw [if_pos rfl, Int.ediv_zero]
  exact rDiv0_con x j k
 ·refine con_pair (fun vx vy w h1 h2 l1 l2 => ?_) fun l1 l2 => ⟨Nat.le_trans (len_mono (natAbs_div_le x y)) l1, ?_⟩
  ·rw [if_neg hy]
   exact refDiv_any vx vy x y w h1 h2 hy (by omega) (by omega)
  ·rw [if_neg hy]
   refine Nat.le_trans (len_mono ?_) l2
   have h1 := Int.emod_nonneg x hy
   have h2 := Int.emod_lt x hy
   omega

theorem cmpI_eq {x y : Int} : (cmpI x y == 0) = decide (x = y) := by
 unfold cmpI
 split
 ·simp; omega
 ·split <;> simp <;> omega
theorem make_div (p q : Int) : Rat.divInt (p / (Int.gcd p q : Nat)) (q / (Int.gcd p q : Nat)) = Rat.divInt p q := by
 by_cases h : q = 0
 ·rw [h, Int.zero_ediv, Rat.divInt_zero, Rat.divInt_zero]
 ·exact (make_facts p q h).2
theorem RNeg_con (a : Rat) (k : Nat) : Con Tryz.prog 48 [RT a k] (.one (RT (-a) k)) := by
 refine Con.of (n := 9) Tryz.func48 rfl rfl rfl rfl rfl fun cx hfr => ?_
 refine sr rfl ?_
 refine p2 (ok_box (i := 0) rfl rfl bd rfl rfl rfl rfl rfl) ?_
 refine p2 (ok_alloc (i := 1) rfl rfl bd zero_rat rfl rfl rfl rfl) ?_
 refine RV.done ?_
 refine CV.seq ?_
 refine CV.region rfl (fun _ => by kernel_rfl) ?_
 refine p1 (ok_fieldAddr fa_rat0 rfl rfl bd rfl) ?_
 refine p1 (ok_loadf 0 fld_num rfl rfl bd rfl rfl rfl rfl ty_int) ?_
 refine p1 (ok_call (Neg_con _) rfl rfl bd Tryz.func113 rfl rfl (.cons rfl Conv.any .nil) rfl hfr rfl) ?_
 refine p1 (ok_fieldAddr fa_rat1 rfl rfl bd rfl) ?_
 refine p1 (ok_loadf 2 fld_den rfl rfl bd rfl rfl rfl rfl ty_int) ?_
 refine p1 (ok_build2 rfl rfl bd rfl rfl) ?_
 refine p1 (ok_store rfl rfl rfl rfl rfl rfl rfl (ty_rat).2 rfl rfl rfl rfl) ?_
 refine RV.drawn (by kernel_rfl) ?_
 refine CV.ret ?_
 exact fin1 rfl (.inr rfl) ⟨_, _, _, _, _, rfl, rfl, rfl, ty_rat⟩ (is_rt (by rw [Rat.neg_num]) (by unfold qd; rw [Rat.neg_den]) (by omega))
theorem RSign_con (a : Rat) (k : Nat) : Con Tryz.prog 52 [RT a k] (.one (.v (.int .i64 (cmpI a.num 0)))) := by
 refine Con.of (n := 6) Tryz.func52 rfl rfl rfl rfl rfl fun cx hfr => ?_
 refine sr rfl ?_
 refine p2 (ok_box (i := 0) rfl rfl bd rfl rfl rfl rfl rfl) ?_
 refine mr rfl rfl bd rfl ?_
 refine RV.done (sr rfl ?_)
 refine p1 (ok_fieldAddr fa_rat0 rfl rfl bd rfl) ?_
 refine p1 (ok_loadf 0 fld_num rfl rfl bd rfl rfl rfl rfl ty_int) ?_
 refine p1 (ok_call (Sign_con _) rfl rfl bd Tryz.func88 rfl rfl (.cons rfl Conv.any .nil) rfl hfr rfl) ?_
 refine mr rfl rfl bd rfl ?_
 refine RV.done ?_
 refine CV.ret ?_
 exact fin1 rfl (.inr rfl) rfl is_rfl
def cmpR (a b : Rat) : Int := cmpI (a.num * b.den) (b.num * a.den)
theorem RCompare_con (a b : Rat) (j k : Nat) (hj : j ≤ 10000000) (hk : k ≤ 10000000) : Con Tryz.prog 50 [RT a j, RT b k] (.one (.v (.int .i64 (cmpR a b)))) := by
 refine Con.of (n := 27) Tryz.func50 rfl rfl rfl rfl rfl fun cx hfr => ?_
 refine sr rfl ?_
 refine p2 (ok_box (i := 0) rfl rfl bd rfl rfl rfl rfl rfl) ?_
 refine p2 (ok_box (i := 1) rfl rfl bd rfl rfl rfl rfl rfl) ?_
 refine mr rfl rfl bd rfl ?_
 refine RV.done ?_
 refine CV.seq ?_
 refine sr rfl ?_
 refine p1 (ok_load rfl rfl bd rfl rfl rfl ty_rat) ?_
 refine p1 (ok_call (isWhole_con _ _ _) rfl rfl bd Tryz.func105 rfl rfl (.cons rfl Conv.any .nil) rfl hfr rfl) ?_
 refine ml rfl rfl bd rfl ?_
 refine RV.bool (fun h1 => ?_) (fun h1 => ?_)
 ·refine RV.step1 (OpOk.yes (ok_load rfl rfl bd rfl rfl rfl ty_rat) rfl rfl rfl) ?_
  refine RV.step1 (OpOk.yes (ok_call (isWhole_con _ _ _) rfl rfl bd Tryz.func105 rfl rfl (.cons rfl Conv.any .nil) rfl hfr rfl) rfl rfl rfl) ?_
  refine p1 (ok_pickT rfl rfl bd rfl rfl rfl) ?_
  refine RV.done ?_
  refine CV.cond rfl (fun h2 => ?_) (fun h2 => ?_)
  ·refine sr rfl ?_
   refine p1 (ok_fieldAddr fa_rat0 rfl rfl bd rfl) ?_
   refine p1 (ok_loadf 0 fld_num rfl rfl bd rfl rfl rfl rfl ty_int) ?_
   refine p1 (ok_fieldAddr fa_rat0 rfl rfl bd rfl) ?_
   refine p1 (ok_loadf 0 fld_num rfl rfl bd rfl rfl rfl rfl ty_int) ?_
   refine p1 (ok_call (Compare_con _ _) rfl rfl bd Tryz.func114 rfl rfl (.cons rfl Conv.any (.cons rfl Conv.any .nil)) rfl hfr rfl) ?_
   refine mr rfl rfl bd rfl ?_
   refine RV.done ?_
   refine CV.ret ?_
   have ha := qd_zero.1 (by simpa using h1)
   have hb := qd_zero.1 (by simpa using h2)
   exact fin1 rfl (.inr rfl) rfl (is_num (by unfold cmpR; rw [ha, hb]; simp))
  ·refine CV.skip ?_
   refine CV.seq ?_
   refine CV.region rfl (fun _ => by kernel_rfl) ?_
   refine p1 (ok_fieldAddr fa_rat0 rfl rfl bd rfl) ?_
   refine p1 (ok_loadf 0 fld_num rfl rfl bd rfl rfl rfl rfl ty_int) ?_
   refine p1 (ok_load rfl rfl bd rfl rfl rfl ty_rat) ?_
   refine p1 (ok_call (Den_con' _ _) rfl rfl bd Tryz.func37 rfl rfl (.cons rfl Conv.any .nil) rfl hfr rfl) ?_
   refine p1 (ok_call (Mul_con _ _ (by omega) (by omega)) rfl rfl bd Tryz.func98 rfl rfl (.cons rfl Conv.any (.cons rfl Conv.any .nil)) rfl hfr rfl) ?_
   refine p1 (ok_fieldAddr fa_rat0 rfl rfl bd rfl) ?_
   refine p1 (ok_loadf 0 fld_num rfl rfl bd rfl rfl rfl rfl ty_int) ?_
   refine p1 (ok_load rfl rfl bd rfl rfl rfl ty_rat) ?_
   refine p1 (ok_call (Den_con' _ _) rfl rfl bd Tryz.func37 rfl rfl (.cons rfl Conv.any .nil) rfl hfr rfl) ?_
   refine p1 (ok_call (Mul_con _ _ (by omega) (by omega)) rfl rfl bd Tryz.func98 rfl rfl (.cons rfl Conv.any (.cons rfl Conv.any .nil)) rfl hfr rfl) ?_
   refine p1 (ok_call (Compare_con _ _) rfl rfl bd Tryz.func114 rfl rfl (.cons rfl Conv.any (.cons rfl Conv.any .nil)) rfl hfr rfl) ?_
   refine mr rfl rfl bd rfl ?_
   refine RV.drawn (by kernel_rfl) ?_
   refine CV.ret ?_
   exact fin1 rfl (.inr rfl) rfl (is_num rfl)
 ·refine RV.step1 (OpOk.skip rfl rfl rfl rfl rfl bd) ?_
  refine RV.step1 (OpOk.skip rfl rfl rfl rfl rfl bd) ?_
  refine p1 (ok_pickF rfl rfl bd rfl rfl rfl) ?_
  refine RV.done ?_
  refine CV.no rfl ?_
  refine CV.skip ?_
  refine CV.seq ?_
  refine CV.region rfl (fun _ => by kernel_rfl) ?_
  refine p1 (ok_fieldAddr fa_rat0 rfl rfl bd rfl) ?_
  refine p1 (ok_loadf 0 fld_num rfl rfl bd rfl rfl rfl rfl ty_int) ?_
  refine p1 (ok_load rfl rfl bd rfl rfl rfl ty_rat) ?_
  refine p1 (ok_call (Den_con' _ _) rfl rfl bd Tryz.func37 rfl rfl (.cons rfl Conv.any .nil) rfl hfr rfl) ?_
  refine p1 (ok_call (Mul_con _ _ (by omega) (by omega)) rfl rfl bd Tryz.func98 rfl rfl (.cons rfl Conv.any (.cons rfl Conv.any .nil)) rfl hfr rfl) ?_
  refine p1 (ok_fieldAddr fa_rat0 rfl rfl bd rfl) ?_
  refine p1 (ok_loadf 0 fld_num rfl rfl bd rfl rfl rfl rfl ty_int) ?_
  refine p1 (ok_load rfl rfl bd rfl rfl rfl ty_rat) ?_
  refine p1 (ok_call (Den_con' _ _) rfl rfl bd Tryz.func37 rfl rfl (.cons rfl Conv.any .nil) rfl hfr rfl) ?_
  refine p1 (ok_call (Mul_con _ _ (by omega) (by omega)) rfl rfl bd Tryz.func98 rfl rfl (.cons rfl Conv.any (.cons rfl Conv.any .nil)) rfl hfr rfl) ?_
  refine p1 (ok_call (Compare_con _ _) rfl rfl bd Tryz.func114 rfl rfl (.cons rfl Conv.any (.cons rfl Conv.any .nil)) rfl hfr rfl) ?_
  refine mr rfl rfl bd rfl ?_
  refine RV.drawn (by kernel_rfl) ?_
  refine CV.ret ?_
  exact fin1 rfl (.inr rfl) rfl (is_num rfl)
theorem qd_eq {a b : Rat} (h : qd a = qd b) : a.den = b.den := by
 have h1 := dn_qd a
 have h2 := dn_qd b
 rw [h] at h1
 have := h1.symm.trans h2
 omega
theorem RMake_con (p q : Int) (j k : Nat) (hj : j ≤ 10000000) (hk : k ≤ 10000000) : Con Tryz.prog 33 [.d (Dm.int p j), .d (Dm.int q k)] (.one (RT (Rat.divInt p q) (j + k))) := by
 refine Con.of (n := 11) Tryz.func33 rfl rfl rfl rfl rfl fun cx hfr => ?_
 refine sr rfl ?_
 refine p2 (ok_box (i := 0) rfl rfl bd rfl rfl rfl rfl rfl) ?_
 refine p2 (ok_box (i := 1) rfl rfl bd rfl rfl rfl rfl rfl) ?_
 refine p2 (ok_alloc (i := 2) rfl rfl bd zero_rat rfl rfl rfl rfl) ?_
 refine RV.done (sr rfl ?_)
 refine p1 (ok_load rfl rfl bd rfl rfl rfl ty_int) ?_
 refine p1 (ok_load rfl rfl bd rfl rfl rfl ty_int) ?_
 refine p1 (ok_call (cancelled_con _ _ _ _ (by omega) (by omega)) rfl rfl bd Tryz.func109 rfl rfl (.cons rfl Conv.any (.cons rfl Conv.any .nil)) rfl hfr rfl) ?_
 refine p1 (ok_extract rfl rfl bd rfl rfl) ?_
 refine p1 (ok_extract rfl rfl bd rfl rfl) ?_
 refine p1 (ok_call (lowest_con _ _ _ _ (fun h => (make_facts p q (fun e => h (by rw [e, Int.zero_ediv]))).1)) rfl rfl bd Tryz.func108 rfl rfl (.cons rfl Conv.any (.cons rfl Conv.any .nil)) rfl hfr rfl) ?_
 refine p1 (ok_store rfl rfl rfl rfl rfl rfl rfl (ty_rat).2 rfl rfl rfl rfl) ?_
 refine RV.done ?_
 refine CV.ret ?_
 have e : Rat.divInt (p / (Int.gcd p q : Nat)) (q / (Int.gcd p q : Nat)) = Rat.divInt p q := make_div p q
 exact fin1 rfl (.inr rfl) ⟨_, _, _, _, _, rfl, rfl, rfl, ty_rat⟩ (is_rt (by rw [e]) (by rw [e]) (by omega))
theorem ROf_con (p q : Int) (h1 : -9223372036854775808 ≤ p) (h2 : p ≤ 9223372036854775807) (h3 : -9223372036854775808 ≤ q) (h4 : q ≤ 9223372036854775807) : Con Tryz.prog 34 [.v (.int .i64 p), .v (.int .i64 q)] (.one (RT (Rat.divInt p q) 6)) := by
 refine Con.of (n := 10) Tryz.func34 rfl rfl rfl rfl rfl fun cx hfr => ?_
 refine sr rfl ?_
 refine p2 (ok_alloc (i := 0) rfl rfl bd zero_rat rfl rfl rfl rfl) ?_
 refine RV.done (sr rfl ?_)
 refine ml rfl rfl bd rfl ?_
 refine p1 (ok_call (Of_con p h1 h2) rfl rfl bd Tryz.func97 rfl rfl (.cons rfl Conv.any .nil) rfl hfr rfl) ?_
 refine ml rfl rfl bd rfl ?_
 refine p1 (ok_call (Of_con q h3 h4) rfl rfl bd Tryz.func97 rfl rfl (.cons rfl Conv.any .nil) rfl hfr rfl) ?_
 refine p1 (ok_call (RMake_con _ _ _ _ (by omega) (by omega)) rfl rfl bd Tryz.func33 rfl rfl (.cons rfl Conv.any (.cons rfl Conv.any .nil)) rfl hfr rfl) ?_
 refine p1 (ok_store rfl rfl rfl rfl rfl rfl rfl (ty_rat).2 rfl rfl rfl rfl) ?_
 refine RV.done ?_
 refine CV.ret ?_
 exact fin1 rfl (.inr rfl) ⟨_, _, _, _, _, rfl, rfl, rfl, ty_rat⟩ is_rfl
theorem RFloor_con (a : Rat) (k : Nat) (hk : k ≤ 10000000) : Con Tryz.prog 58 [RT a k] (.one (.d (Dm.int (a.num / a.den) k))) := by
 refine Con.of (n := 8) Tryz.func58 rfl rfl rfl rfl rfl fun cx hfr => ?_
 refine sr rfl ?_
 refine p2 (ok_box (i := 0) rfl rfl bd rfl rfl rfl rfl rfl) ?_
 refine p2 (ok_alloc (i := 1) rfl rfl bd zero_int rfl rfl rfl rfl) ?_
 refine RV.done ?_
 refine CV.seq ?_
 refine CV.region rfl (fun _ => by kernel_rfl) ?_
 refine p1 (ok_fieldAddr fa_rat0 rfl rfl bd rfl) ?_
 refine p1 (ok_loadf 0 fld_num rfl rfl bd rfl rfl rfl rfl ty_int) ?_
 refine p1 (ok_load rfl rfl bd rfl rfl rfl ty_rat) ?_
 refine p1 (ok_call (Den_con' _ _) rfl rfl bd Tryz.func37 rfl rfl (.cons rfl Conv.any .nil) rfl hfr rfl) ?_
 refine p1 (ok_call (quotient_con _ _ _ _ (by omega) (by omega)) rfl rfl bd Tryz.func112 rfl rfl (.cons rfl Conv.any (.cons rfl Conv.any .nil)) rfl hfr rfl) ?_
 refine p1 (ok_store rfl rfl rfl rfl rfl rfl rfl (ty_int).2 rfl rfl rfl rfl) ?_
 refine RV.drawn (by kernel_rfl) ?_
 refine CV.ret ?_
 exact fin1 rfl (.inr rfl) ⟨_, _, _, _, _, rfl, rfl, rfl, ty_int⟩ is_rfl
theorem RCeil_con (a : Rat) (k : Nat) (hk : k ≤ 10000000) : Con Tryz.prog 60 [RT a k] (.one (.d (Dm.int (-(-a.num / a.den)) k))) := by
 refine Con.of (n := 7) Tryz.func60 rfl rfl rfl rfl rfl fun cx hfr => ?_
 refine sr rfl ?_
 refine p2 (ok_box (i := 0) rfl rfl bd rfl rfl rfl rfl rfl) ?_
 refine p2 (ok_alloc (i := 1) rfl rfl bd zero_int rfl rfl rfl rfl) ?_
 refine RV.done (sr rfl ?_)
 refine p1 (ok_load rfl rfl bd rfl rfl rfl ty_rat) ?_
 refine p1 (ok_call (RNeg_con _ _) rfl rfl bd Tryz.func48 rfl rfl (.cons rfl Conv.any .nil) rfl hfr rfl) ?_
 refine p1 (ok_call (RFloor_con _ _ hk) rfl rfl bd Tryz.func58 rfl rfl (.cons rfl Conv.any .nil) rfl hfr rfl) ?_
 refine p1 (ok_call (Neg_con _) rfl rfl bd Tryz.func113 rfl rfl (.cons rfl Conv.any .nil) rfl hfr rfl) ?_
 refine p1 (ok_store rfl rfl rfl rfl rfl rfl rfl (ty_int).2 rfl rfl rfl rfl) ?_
 refine RV.done ?_
 refine CV.ret ?_
 exact fin1 rfl (.inr rfl) ⟨_, _, _, _, _, rfl, rfl, rfl, ty_int⟩ (is_int' (by rw [Rat.neg_num, Rat.neg_den]) (Nat.le_refl _))
theorem IValid_con (z : Int) {k : Nat} : Con Tryz.prog 90 [.d (Dm.int z k)] (.one (.v (.bool true))) :=
 con_val1 fun vx w h => Valid_any vx z w h

theorem rone_con (z : Int) (k : Nat) : Con Tryz.prog 104 [.d (Dm.int z k)] (.one (.v (.bool (decide (z = 1))))) := by
 refine Con.of (n := 16) Tryz.func104 rfl rfl rfl rfl rfl fun cx hfr => ?_
 refine sr rfl ?_
 refine p2 (ok_box (i := 0) rfl rfl bd rfl rfl rfl rfl rfl) ?_
 refine mr rfl rfl bd rfl ?_
 refine RV.done ?_
 refine CV.seq ?_
 refine sr rfl ?_
 refine p1 (ok_fieldAddr fa_int0 rfl rfl bd rfl) ?_
 refine p1 (ok_loadf 0 fld_neg rfl rfl bd rfl rfl rfl rfl ty_bool) ?_
 refine ml rfl rfl bd rfl ?_
 refine RV.bool (fun h1 => ?_) (fun h1 => ?_)
 ·refine RV.step1 (OpOk.skip rfl rfl rfl rfl rfl bd) ?_
  refine RV.step1 (OpOk.skip rfl rfl rfl rfl rfl bd) ?_
  refine RV.step1 (OpOk.skip rfl rfl rfl rfl rfl bd) ?_
  refine RV.step1 (OpOk.skip rfl rfl rfl rfl rfl bd) ?_
  refine p1 (ok_pickT rfl rfl bd rfl rfl rfl) ?_
  refine RV.done ?_
  refine CV.yes rfl ?_
  refine sr rfl ?_
  refine mr rfl rfl bd rfl ?_
  refine RV.done ?_
  refine CV.ret ?_
  refine fin1 rfl (.inr rfl) rfl (is_bool ?_)
  rw [eq_comm, decide_eq_false_iff_not]
  simp at h1
  omega
 ·refine RV.step1 (OpOk.yes (ok_fieldAddr fa_int1 rfl rfl bd rfl) rfl rfl rfl) ?_
  refine RV.step1 (OpOk.yes (ok_loadf 1 fld_dig rfl rfl bd rfl rfl rfl rfl ty_ints) rfl rfl rfl) ?_
  refine RV.step1 (OpOk.yes (ok_len rfl rfl bd rfl) rfl rfl rfl) ?_
  refine RV.step1 (OpOk.yes (ok_neq rfl rfl bd rfl rfl) rfl rfl rfl) ?_
  refine p1 (ok_pickF rfl rfl bd rfl rfl rfl) ?_
  refine RV.done ?_
  refine CV.cond rfl (fun h2 => ?_) (fun h2 => ?_)
  ·refine sr rfl ?_
   refine mr rfl rfl bd rfl ?_
   refine RV.done ?_
   refine CV.ret ?_
   refine fin1 rfl (.inr rfl) rfl (is_bool ?_)
   rw [eq_comm, decide_eq_false_iff_not]
   rintro rfl
   cases h2
  ·refine CV.skip ?_
   refine sr rfl ?_
   refine p1 (ok_fieldAddr fa_int1 rfl rfl bd rfl) ?_
   refine p1 (ok_loadf 1 fld_dig rfl rfl bd rfl rfl rfl rfl ty_ints) ?_
   refine p1 (ok_idx (i := 0) (by simp at h2; omega) rfl rfl bd rfl rfl) ?_
   refine p1 (ok_loadc rfl rfl bd rfl) ?_
   refine p1 (ok_eql rfl rfl bd rfl rfl) ?_
   refine mr rfl rfl bd rfl ?_
   refine RV.done ?_
   refine CV.ret ?_
   refine fin1 rfl (.inr rfl) rfl (is_bool ?_)
   rw [one_dig (by simp at h2; omega), Bool.eq_iff_iff]
   simp at h1 ⊢
   omega
theorem zero_divInt' (q : Int) : (Rat.divInt 0 q).num = 0 ∧ qd (Rat.divInt 0 q) = 0 := by
 rw [Rat.zero_divInt]
 exact ⟨rfl, rfl⟩
theorem make_num (p q : Int) (hq : q ≠ 0) : (Rat.divInt p q).num = (q / (Int.gcd p q : Nat)).sign * (p / (Int.gcd p q : Nat)) ∧ qd (Rat.divInt p q) = (if (q / (Int.gcd p q : Nat)).natAbs = 1 then 0 else ((q / (Int.gcd p q : Nat)).natAbs : Int)) := by
 obtain ⟨h1, h2⟩ := make_facts p q hq
 have h3 : q / (Int.gcd p q : Nat) ≠ 0 := by
  intro e
  have d2 : ((Int.gcd p q : Nat) : Int) ∣ q := Int.gcd_dvd_right ..
  have := Int.ediv_mul_cancel d2
  rw [e, Int.zero_mul] at this
  exact hq this.symm
 rw [← h2]
 exact ⟨low_num h1, low_qd h1 h3⟩
theorem rMake_con (p q : Int) (j k : Nat) (hj : j ≤ 10000000) (hk : k ≤ 10000000) : Con Tryz.prog 25 [.d (Dm.int p j), .d (Dm.int q k)] (.one (RT (Rat.divInt p q) (j + k))) := by
 refine Con.of (n := 49) Tryz.func25 rfl rfl rfl rfl rfl fun cx hfr => ?_
 refine sr rfl ?_
 refine p2 (ok_box (i := 0) rfl rfl bd rfl rfl rfl rfl rfl) ?_
 refine p2 (ok_box (i := 1) rfl rfl bd rfl rfl rfl rfl rfl) ?_
 refine p2 (ok_alloc (i := 2) rfl rfl bd zero_rat rfl rfl rfl rfl) ?_
 refine RV.done ?_
 refine CV.seq ?_
 refine sr rfl ?_
 refine p1 (ok_fieldAddr fa_int1 rfl rfl bd rfl) ?_
 refine p1 (ok_loadf 1 fld_dig rfl rfl bd rfl rfl rfl rfl ty_ints) ?_
 refine p1 (ok_len rfl rfl bd rfl) ?_
 refine p1 (ok_eql rfl rfl bd rfl rfl) ?_
 refine ml rfl rfl bd rfl ?_
 refine RV.bool (fun h1 => ?_) (fun h1 => ?_)
 ·refine RV.step1 (OpOk.skip rfl rfl rfl rfl rfl bd) ?_
  refine RV.step1 (OpOk.skip rfl rfl rfl rfl rfl bd) ?_
  refine RV.step1 (OpOk.skip rfl rfl rfl rfl rfl bd) ?_
  refine RV.step1 (OpOk.skip rfl rfl rfl rfl rfl bd) ?_
  refine p1 (ok_pickT rfl rfl bd rfl rfl rfl) ?_
  refine RV.done ?_
  refine CV.yes rfl ?_
  refine sr rfl ?_
  refine p1 (ok_build0 rfl rfl bd) ?_
  refine p1 (ok_store rfl rfl rfl rfl rfl rfl rfl (ty_rat).2 rfl rfl rfl rfl) ?_
  refine RV.done ?_
  refine CV.ret ?_
  rw [dig_len_zero] at h1
  obtain rfl : q = 0 := by simpa using h1
  exact fin1 rfl (.inr rfl) ⟨_, _, _, _, _, rfl, rfl, rfl, ty_rat⟩ (is_rt (qd_of_zero p).1.symm (qd_of_zero p).2.symm (by omega))
 ·refine RV.step1 (OpOk.yes (ok_fieldAddr fa_int1 rfl rfl bd rfl) rfl rfl rfl) ?_
  refine RV.step1 (OpOk.yes (ok_loadf 1 fld_dig rfl rfl bd rfl rfl rfl rfl ty_ints) rfl rfl rfl) ?_
  refine RV.step1 (OpOk.yes (ok_len rfl rfl bd rfl) rfl rfl rfl) ?_
  refine RV.step1 (OpOk.yes (ok_eql rfl rfl bd rfl rfl) rfl rfl rfl) ?_
  refine p1 (ok_pickF rfl rfl bd rfl rfl rfl) ?_
  refine RV.done ?_
  refine CV.cond rfl (fun h2 => ?_) (fun h2 => ?_)
  ·refine sr rfl ?_
   refine p1 (ok_build0 rfl rfl bd) ?_
   refine p1 (ok_store rfl rfl rfl rfl rfl rfl rfl (ty_rat).2 rfl rfl rfl rfl) ?_
   refine RV.done ?_
   refine CV.ret ?_
   rw [dig_len_zero] at h2
   obtain rfl : p = 0 := by simpa using h2
   exact fin1 rfl (.inr rfl) ⟨_, _, _, _, _, rfl, rfl, rfl, ty_rat⟩ (is_rt (zero_divInt' q).1.symm (zero_divInt' q).2.symm (by omega))
  ·refine CV.skip ?_
   refine sr rfl ?_
   refine p1 (ok_load rfl rfl bd rfl rfl rfl ty_int) ?_
   refine p1 (ok_load rfl rfl bd rfl rfl rfl ty_int) ?_
   refine p1 (ok_call (rGcd_con _ _ (by omega) (by omega)) rfl rfl bd Tryz.func101 rfl rfl (.cons rfl Conv.any (.cons rfl Conv.any .nil)) rfl hfr rfl) ?_
   refine p2 (ok_alloc (i := 3) rfl rfl bd zero_int rfl rfl rfl rfl) ?_
   refine p1 (ok_store rfl rfl rfl rfl rfl rfl rfl (ty_int).2 rfl rfl rfl rfl) ?_
   refine RV.done (sr rfl ?_)
   refine p1 (ok_load rfl rfl bd rfl rfl rfl ty_int) ?_
   refine p1 (ok_load rfl rfl bd rfl rfl rfl ty_int) ?_
   refine p1 (ok_call (rDiv_con _ _ (by omega) (by omega)) rfl rfl bd Tryz.func102 rfl rfl (.cons rfl Conv.any (.cons rfl Conv.any .nil)) rfl hfr rfl) ?_
   refine ml rfl rfl bd rfl ?_
   refine p1 (ok_extract rfl rfl bd rfl rfl) ?_
   refine p1 (ok_extract rfl rfl bd rfl rfl) ?_
   refine p2 (ok_alloc (i := 4) rfl rfl bd zero_int rfl rfl rfl rfl) ?_
   refine p2 (ok_alloc (i := 5) rfl rfl bd zero_int rfl rfl rfl rfl) ?_
   refine p1 (ok_store rfl rfl rfl rfl rfl rfl rfl (ty_int).2 rfl rfl rfl rfl) ?_
   refine p1 (ok_store rfl rfl rfl rfl rfl rfl rfl (ty_int).2 rfl rfl rfl rfl) ?_
   refine RV.done (sr rfl ?_)
   refine p1 (ok_load rfl rfl bd rfl rfl rfl ty_int) ?_
   refine p1 (ok_load rfl rfl bd rfl rfl rfl ty_int) ?_
   refine p1 (ok_call (rDiv_con _ _ (by omega) (by omega)) rfl rfl bd Tryz.func102 rfl rfl (.cons rfl Conv.any (.cons rfl Conv.any .nil)) rfl hfr rfl) ?_
   refine ml rfl rfl bd rfl ?_
   refine p1 (ok_extract rfl rfl bd rfl rfl) ?_
   refine p1 (ok_extract rfl rfl bd rfl rfl) ?_
   refine p2 (ok_alloc (i := 6) rfl rfl bd zero_int rfl rfl rfl rfl) ?_
   refine p2 (ok_alloc (i := 7) rfl rfl bd zero_int rfl rfl rfl rfl) ?_
   refine p1 (ok_store rfl rfl rfl rfl rfl rfl rfl (ty_int).2 rfl rfl rfl rfl) ?_
   refine p1 (ok_store rfl rfl rfl rfl rfl rfl rfl (ty_int).2 rfl rfl rfl rfl) ?_
   refine RV.done ?_
   refine CV.seq ?_
   refine sr rfl ?_
   refine p1 (ok_fieldAddr fa_int0 rfl rfl bd rfl) ?_
   refine p1 (ok_loadf 0 fld_neg rfl rfl bd rfl rfl rfl rfl ty_bool) ?_
   refine RV.done ?_
   refine CV.cond rfl (fun h3 => ?_) (fun h3 => ?_)
   ·refine sr rfl ?_
    refine p1 (ok_load rfl rfl bd rfl rfl rfl ty_int) ?_
    refine p1 (ok_call (rNeg_con _) rfl rfl bd Tryz.func103 rfl rfl (.cons rfl Conv.any .nil) rfl hfr rfl) ?_
    refine p1 (ok_store rfl rfl rfl rfl rfl rfl rfl (ty_int).2 rfl rfl rfl rfl) ?_
    refine RV.done ?_
    refine CV.region rfl (fun h => nomatch h) ?_
    refine p1 (ok_load rfl rfl bd rfl rfl rfl ty_int) ?_
    refine p1 (ok_call (rNeg_con _) rfl rfl bd Tryz.func103 rfl rfl (.cons rfl Conv.any .nil) rfl hfr rfl) ?_
    refine p1 (ok_store rfl rfl rfl rfl rfl rfl rfl (ty_int).2 rfl rfl rfl rfl) ?_
    refine RV.done ?_
    refine CV.seq ?_
    refine sr rfl ?_
    refine p1 (ok_load rfl rfl bd rfl rfl rfl ty_int) ?_
    refine p1 (ok_call (rone_con _ _) rfl rfl bd Tryz.func104 rfl rfl (.cons rfl Conv.any .nil) rfl hfr rfl) ?_
    refine RV.done ?_
    refine CV.cond rfl (fun h4 => ?_) (fun h4 => ?_)
    ·refine sr rfl ?_
     refine p1 (ok_load rfl rfl bd rfl rfl rfl ty_int) ?_
     refine p1 (ok_build1 rfl rfl bd rfl) ?_
     refine p1 (ok_store rfl rfl rfl rfl rfl rfl rfl (ty_rat).2 rfl rfl rfl rfl) ?_
     refine RV.done ?_
     refine CV.ret ?_
     rw [dig_len_zero] at h1
     have hq : q ≠ 0 := by simpa using h1
     obtain ⟨e1, e2⟩ := make_num p q hq
     have h3 : q / (Int.gcd p q : Nat) < 0 := by simpa using h3
     have h4 : -(q / (Int.gcd p q : Nat)) = 1 := by simpa using h4
     exact fin1 rfl (.inr rfl) ⟨_, _, _, _, _, rfl, rfl, rfl, ty_rat⟩ (is_rt (by rw [e1, Int.sign_eq_neg_one_of_neg h3]; omega) (by rw [e2, if_pos (by omega)]) (by omega))
    ·refine CV.skip ?_
     refine sr rfl ?_
     refine p1 (ok_load rfl rfl bd rfl rfl rfl ty_int) ?_
     refine p1 (ok_load rfl rfl bd rfl rfl rfl ty_int) ?_
     refine p1 (ok_build2 rfl rfl bd rfl rfl) ?_
     refine p1 (ok_store rfl rfl rfl rfl rfl rfl rfl (ty_rat).2 rfl rfl rfl rfl) ?_
     refine RV.done ?_
     refine CV.ret ?_
     rw [dig_len_zero] at h1
     have hq : q ≠ 0 := by simpa using h1
     obtain ⟨e1, e2⟩ := make_num p q hq
     have h3 : q / (Int.gcd p q : Nat) < 0 := by simpa using h3
     have h4 : ¬ -(q / (Int.gcd p q : Nat)) = 1 := by simpa using h4
     exact fin1 rfl (.inr rfl) ⟨_, _, _, _, _, rfl, rfl, rfl, ty_rat⟩ (is_rt (by rw [e1, Int.sign_eq_neg_one_of_neg h3]; omega) (by rw [e2, if_neg (by omega)]; omega) (by omega))
   ·refine CV.skip ?_
    refine CV.seq ?_
    refine sr rfl ?_
    refine p1 (ok_load rfl rfl bd rfl rfl rfl ty_int) ?_
    refine p1 (ok_call (rone_con _ _) rfl rfl bd Tryz.func104 rfl rfl (.cons rfl Conv.any .nil) rfl hfr rfl) ?_
    refine RV.done ?_
    refine CV.cond rfl (fun h4 => ?_) (fun h4 => ?_)
    ·refine sr rfl ?_
     refine p1 (ok_load rfl rfl bd rfl rfl rfl ty_int) ?_
     refine p1 (ok_build1 rfl rfl bd rfl) ?_
     refine p1 (ok_store rfl rfl rfl rfl rfl rfl rfl (ty_rat).2 rfl rfl rfl rfl) ?_
     refine RV.done ?_
     refine CV.ret ?_
     rw [dig_len_zero] at h1
     have hq : q ≠ 0 := by simpa using h1
     obtain ⟨e1, e2⟩ := make_num p q hq
     have h3 : ¬ q / (Int.gcd p q : Nat) < 0 := by simpa using h3
     have h4 : q / (Int.gcd p q : Nat) = 1 := by simpa using h4
     exact fin1 rfl (.inr rfl) ⟨_, _, _, _, _, rfl, rfl, rfl, ty_rat⟩ (is_rt (by rw [e1, h4]; simp) (by rw [e2, h4]; rfl) (by omega))
    ·refine CV.skip ?_
     refine sr rfl ?_
     refine p1 (ok_load rfl rfl bd rfl rfl rfl ty_int) ?_
     refine p1 (ok_load rfl rfl bd rfl rfl rfl ty_int) ?_
     refine p1 (ok_build2 rfl rfl bd rfl rfl) ?_
     refine p1 (ok_store rfl rfl rfl rfl rfl rfl rfl (ty_rat).2 rfl rfl rfl rfl) ?_
     refine RV.done ?_
     refine CV.ret ?_
     rw [dig_len_zero] at h1
     have hq : q ≠ 0 := by simpa using h1
     obtain ⟨e1, e2⟩ := make_num p q hq
     have h3 : ¬ q / (Int.gcd p q : Nat) < 0 := by simpa using h3
     have h4 : ¬ q / (Int.gcd p q : Nat) = 1 := by simpa using h4
     have h5 : q / (Int.gcd p q : Nat) ≠ 0 := fun e => hq (by have d2 : ((Int.gcd p q : Nat) : Int) ∣ q := Int.gcd_dvd_right .. ; have := Int.ediv_mul_cancel d2; rw [e, Int.zero_mul] at this; exact this.symm)
     exact fin1 rfl (.inr rfl) ⟨_, _, _, _, _, rfl, rfl, rfl, ty_rat⟩ (is_rt (by rw [e1, Int.sign_eq_one_of_pos (by omega)]; omega) (by rw [e2, if_neg (by omega)]; omega) (by omega))
theorem rfOf_con (p q : Int) (h1 : -9223372036854775808 ≤ p) (h2 : p ≤ 9223372036854775807) (h3 : -9223372036854775808 ≤ q) (h4 : q ≤ 9223372036854775807) : Con Tryz.prog 35 [.v (.int .i64 p), .v (.int .i64 q)] (.one (RT (Rat.divInt p q) 6)) := by
 refine Con.of (n := 10) Tryz.func35 rfl rfl rfl rfl rfl fun cx hfr => ?_
 refine sr rfl ?_
 refine p2 (ok_alloc (i := 0) rfl rfl bd zero_rat rfl rfl rfl rfl) ?_
 refine RV.done (sr rfl ?_)
 refine ml rfl rfl bd rfl ?_
 refine p1 (ok_call (rOf_con p h1 h2) rfl rfl bd Tryz.func29 rfl rfl (.cons rfl Conv.any .nil) rfl hfr rfl) ?_
 refine ml rfl rfl bd rfl ?_
 refine p1 (ok_call (rOf_con q h3 h4) rfl rfl bd Tryz.func29 rfl rfl (.cons rfl Conv.any .nil) rfl hfr rfl) ?_
 refine p1 (ok_call (rMake_con _ _ _ _ (by omega) (by omega)) rfl rfl bd Tryz.func25 rfl rfl (.cons rfl Conv.any (.cons rfl Conv.any .nil)) rfl hfr rfl) ?_
 refine p1 (ok_store rfl rfl rfl rfl rfl rfl rfl (ty_rat).2 rfl rfl rfl rfl) ?_
 refine RV.done ?_
 refine CV.ret ?_
 exact fin1 rfl (.inr rfl) ⟨_, _, _, _, _, rfl, rfl, rfl, ty_rat⟩ is_rfl
theorem rfSame_con (a b : Rat) (j k : Nat) : Con Tryz.prog 55 [RT a j, RT b k] (.one (.v (.bool (decide (a = b))))) := by
 refine Con.of (n := 17) Tryz.func55 rfl rfl rfl rfl rfl fun cx hfr => ?_
 refine sr rfl ?_
 refine p2 (ok_box (i := 0) rfl rfl bd rfl rfl rfl rfl rfl) ?_
 refine p2 (ok_box (i := 1) rfl rfl bd rfl rfl rfl rfl rfl) ?_
 refine mr rfl rfl bd rfl ?_
 refine RV.done (sr rfl ?_)
 refine p1 (ok_fieldAddr fa_rat0 rfl rfl bd rfl) ?_
 refine p1 (ok_loadf 0 fld_num rfl rfl bd rfl rfl rfl rfl ty_int) ?_
 refine p1 (ok_fieldAddr fa_rat0 rfl rfl bd rfl) ?_
 refine p1 (ok_loadf 0 fld_num rfl rfl bd rfl rfl rfl rfl ty_int) ?_
 refine p1 (ok_call (rSame_con _ _) rfl rfl bd Tryz.func36 rfl rfl (.cons rfl Conv.any (.cons rfl Conv.any .nil)) rfl hfr rfl) ?_
 refine ml rfl rfl bd rfl ?_
 refine RV.bool (fun h1 => ?_) (fun h1 => ?_)
 ·refine RV.step1 (OpOk.yes (ok_fieldAddr fa_rat1 rfl rfl bd rfl) rfl rfl rfl) ?_
  refine RV.step1 (OpOk.yes (ok_loadf 2 fld_den rfl rfl bd rfl rfl rfl rfl ty_int) rfl rfl rfl) ?_
  refine RV.step1 (OpOk.yes (ok_fieldAddr fa_rat1 rfl rfl bd rfl) rfl rfl rfl) ?_
  refine RV.step1 (OpOk.yes (ok_loadf 2 fld_den rfl rfl bd rfl rfl rfl rfl ty_int) rfl rfl rfl) ?_
  refine RV.step1 (OpOk.yes (ok_call (rSame_con _ _) rfl rfl bd Tryz.func36 rfl rfl (.cons rfl Conv.any (.cons rfl Conv.any .nil)) rfl hfr rfl) rfl rfl rfl) ?_
  refine p1 (ok_pickT rfl rfl bd rfl rfl rfl) ?_
  refine mr rfl rfl bd rfl ?_
  refine RV.done ?_
  refine CV.ret ?_
  have e1 : a.num = b.num := by simpa using h1
  refine fin1 rfl (.inr rfl) rfl (is_bool ?_)
  rw [Bool.eq_iff_iff, decide_eq_true_eq, decide_eq_true_eq]
  exact ⟨fun e2 => Rat.ext e1 (qd_eq e2), fun e => by rw [e]⟩
 ·refine RV.step1 (OpOk.skip rfl rfl rfl rfl rfl bd) ?_
  refine RV.step1 (OpOk.skip rfl rfl rfl rfl rfl bd) ?_
  refine RV.step1 (OpOk.skip rfl rfl rfl rfl rfl bd) ?_
  refine RV.step1 (OpOk.skip rfl rfl rfl rfl rfl bd) ?_
  refine RV.step1 (OpOk.skip rfl rfl rfl rfl rfl bd) ?_
  refine p1 (ok_pickF rfl rfl bd rfl rfl rfl) ?_
  refine mr rfl rfl bd rfl ?_
  refine RV.done ?_
  refine CV.ret ?_
  have e2 : ¬ a.num = b.num := by simpa using h1
  exact fin1 rfl (.inr rfl) rfl (is_bool (by rw [eq_comm, decide_eq_false_iff_not]; rintro rfl; exact e2 rfl))
theorem same5_con (a b : Rat) (j k : Nat) : Con Tryz.prog 32 [RT a j, RT b k] (.one (.v (.bool (decide (a = b))))) := by
 refine Con.of (n := 8) Tryz.func32 rfl rfl rfl rfl rfl fun cx hfr => ?_
 refine sr rfl ?_
 refine p2 (ok_box (i := 0) rfl rfl bd rfl rfl rfl rfl rfl) ?_
 refine p2 (ok_box (i := 1) rfl rfl bd rfl rfl rfl rfl rfl) ?_
 refine mr rfl rfl bd rfl ?_
 refine RV.done (sr rfl ?_)
 refine p1 (ok_load rfl rfl bd rfl rfl rfl ty_rat) ?_
 refine p1 (ok_load rfl rfl bd rfl rfl rfl ty_rat) ?_
 refine p1 (ok_call (rfSame_con _ _ _ _) rfl rfl bd Tryz.func55 rfl rfl (.cons rfl Conv.any (.cons rfl Conv.any .nil)) rfl hfr rfl) ?_
 refine mr rfl rfl bd rfl ?_
 refine RV.done ?_
 refine CV.ret ?_
 exact fin1 rfl (.inr rfl) rfl is_rfl
theorem same5T_con {a b : Rat} (h : a = b) {j k : Nat} : Con Tryz.prog 32 [RT a j, RT b k] (.one (.v (.bool true))) := by
 have h2 := same5_con a b j k
 rwa [show decide (a = b) = true by simpa using h] at h2

theorem At_c (zs : List Int) (i : Nat) (m : Int) (hm : 1 ≤ m) (hm2 : m ≤ 9223372036854775807) : Con Tryz.prog 75 [.d (Dm.ints zs), .v (.int .i64 (i : Int)), .v (.int .i64 m)] (.one (.v (.int .i64 (atI zs i m)))) := by
 have h := At_con zs (i : Int) m (by omega) hm hm2
 rwa [Int.toNat_natCast] at h
end Vc
end Go.Proofs.YtpgiebimhnhbiaaGreatDoor

namespace Go.Proofs.YtpgiebimhnhbiaaGreatDoor
open Dg Zn
namespace Vc
end Vc
end Go.Proofs.YtpgiebimhnhbiaaGreatDoor

namespace Go.Proofs.YtpgiebimhnhbiaaGreatDoor
open Go.RowKit
open Go.Lib (hid)
open Dg Zn
namespace Vc
section
variable {P : Program} {cx : Cx Dm} {n : Nat} {σ : St Dm} {o : Oper} {d : Nat} {x y : Operand} {T T' : TypeId} {k : IntKind} {a b : Int}
theorem ok_eqlT (h : a = b) (ho : o.op = .binOp .eql T x y T') (hd : o.dst = some d) (hn : d < n) (hx : opd σ x = .av (.one (.v (.int k a)))) (hy : opd σ y = .av (.one (.v (.int k b)))) : OpOk P cx n σ o (opk x ++ opk y) [(.s d, .av (.one (.v (.bool true))))] := by
 have := ok_eql (P := P) (cx := cx) ho hd hn hx hy
 rwa [h, beq_self_eq_true] at this
theorem ok_neqF (h : a = b) (ho : o.op = .binOp .neq T x y T') (hd : o.dst = some d) (hn : d < n) (hx : opd σ x = .av (.one (.v (.int k a)))) (hy : opd σ y = .av (.one (.v (.int k b)))) : OpOk P cx n σ o (opk x ++ opk y) [(.s d, .av (.one (.v (.bool false))))] := by
 have := ok_neq (P := P) (cx := cx) ho hd hn hx hy
 rwa [h, bne_self_eq_false] at this
end
set_option maxRecDepth 100000

theorem RValidG_con (p q : Int) (k : Nat) (hk : k ≤ 10000000) : Con Tryz.prog 30 [.d (Dm.rt p q k)] (.one (.v (.bool (decide (q = 0 ∨ (0 ≤ q ∧ q ≠ 1 ∧ Int.gcd p q = 1)))))) := by
 refine Con.of (n := 35) Tryz.func30 rfl rfl rfl rfl rfl fun cx hfr => ?_
 refine sr rfl ?_
 refine p2 (ok_box (i := 0) rfl rfl bd rfl rfl rfl rfl rfl) ?_
 refine mr rfl rfl bd rfl ?_
 refine RV.done ?_
 refine CV.seq ?_
 refine sr rfl ?_
 refine p1 (ok_fieldAddr fa_rat0 rfl rfl bd rfl) ?_
 refine p1 (ok_loadf 0 fld_num rfl rfl bd rfl rfl rfl rfl ty_int) ?_
 refine p1 (ok_call (IValid_con _) rfl rfl bd Tryz.func90 rfl rfl (.cons rfl Conv.any .nil) rfl hfr rfl) ?_
 refine p1 (ok_not rfl rfl bd rfl) ?_
 refine ml rfl rfl bd rfl ?_
 refine RV.step1 (OpOk.yes (ok_fieldAddr fa_rat1 rfl rfl bd rfl) rfl rfl rfl) ?_
 refine RV.step1 (OpOk.yes (ok_loadf 2 fld_den rfl rfl bd rfl rfl rfl rfl ty_int) rfl rfl rfl) ?_
 refine RV.step1 (OpOk.yes (ok_call (IValid_con _) rfl rfl bd Tryz.func90 rfl rfl (.cons rfl Conv.any .nil) rfl hfr rfl) rfl rfl rfl) ?_
 refine RV.step1 (OpOk.yes (ok_not rfl rfl bd rfl) rfl rfl rfl) ?_
 refine p1 (ok_pickF rfl rfl bd rfl rfl rfl) ?_
 refine RV.done ?_
 refine CV.no rfl ?_
 refine CV.skip ?_
 refine sr rfl ?_
 refine p1 (ok_load rfl rfl bd rfl rfl rfl ty_rat) ?_
 refine p1 (ok_call (isWhole_con _ _ _) rfl rfl bd Tryz.func105 rfl rfl (.cons rfl Conv.any .nil) rfl hfr rfl) ?_
 refine ml rfl rfl bd rfl ?_
 refine RV.bool (fun h1 => ?_) (fun h1 => ?_)
 ·refine RV.step1 (OpOk.skip rfl rfl rfl rfl rfl bd) ?_
  refine RV.step1 (OpOk.skip rfl rfl rfl rfl rfl bd) ?_
  refine RV.step1 (OpOk.skip rfl rfl rfl rfl rfl bd) ?_
  refine RV.step1 (OpOk.skip rfl rfl rfl rfl rfl bd) ?_
  refine RV.step1 (OpOk.skip rfl rfl rfl rfl rfl bd) ?_
  refine RV.step1 (OpOk.skipU rfl rfl rfl rfl bd) ?_
  refine RV.step1 (OpOk.skipU rfl rfl rfl rfl bd) ?_
  refine RV.step1 (OpOk.skipU rfl rfl rfl rfl bd) ?_
  refine RV.step1 (OpOk.skipU rfl rfl rfl rfl bd) ?_
  refine RV.step1 (OpOk.skip rfl rfl rfl rfl rfl bd) ?_
  refine RV.step1 (OpOk.skip rfl rfl rfl rfl rfl bd) ?_
  refine RV.step1 (OpOk.skipU rfl rfl rfl rfl bd) ?_
  refine RV.step1 (OpOk.skipU rfl rfl rfl rfl bd) ?_
  refine RV.step1 (OpOk.skipU rfl rfl rfl rfl bd) ?_
  refine RV.step1 (OpOk.skipU rfl rfl rfl rfl bd) ?_
  refine RV.step1 (OpOk.skipU rfl rfl rfl rfl bd) ?_
  refine RV.step1 (OpOk.skipU rfl rfl rfl rfl bd) ?_
  refine RV.step1 (OpOk.skip rfl rfl rfl rfl rfl bd) ?_
  refine p1 (ok_pickT rfl rfl bd rfl rfl rfl) ?_
  refine mr rfl rfl bd rfl ?_
  refine RV.done ?_
  refine CV.ret ?_
  refine fin1 rfl (.inr rfl) rfl (is_bool ?_)
  rw [eq_comm, decide_eq_true_eq]
  exact .inl (by simpa using h1)
 ·refine RV.step1 (OpOk.yes (ok_fieldAddr fa_rat1 rfl rfl bd rfl) rfl rfl rfl) ?_
  refine RV.step1 (OpOk.yes (ok_fieldAddr fa_int0 rfl rfl bd rfl) rfl rfl rfl) ?_
  refine RV.step1 (OpOk.yes (ok_loadf 2 fld_nden rfl rfl bd rfl rfl rfl rfl ty_bool) rfl rfl rfl) ?_
  refine RV.step1 (OpOk.yes (ok_not rfl rfl bd rfl) rfl rfl rfl) ?_
  refine RV.step1 (OpOk.yes (ok_move (.inl rfl) rfl bd rfl) rfl rfl rfl) ?_
  refine RV.bool (fun h2 => ?_) (fun h2 => ?_)
  ·refine RV.step1 (OpOk.yes (ok_fieldAddr fa_rat1 rfl rfl bd rfl) rfl rfl rfl) ?_
   refine RV.step1 (OpOk.yes (ok_loadf 2 fld_den rfl rfl bd rfl rfl rfl rfl ty_int) rfl rfl rfl) ?_
   refine RV.step1 (OpOk.yes (ok_call (isOne_con _ _) rfl rfl bd Tryz.func106 rfl rfl (.cons rfl Conv.any .nil) rfl hfr rfl) rfl rfl rfl) ?_
   refine RV.step1 (OpOk.yes (ok_not rfl rfl bd rfl) rfl rfl rfl) ?_
   refine RV.step1 (OpOk.yes (ok_pickT rfl rfl bd rfl rfl rfl) rfl rfl rfl) ?_
   refine RV.step1 (OpOk.yes (ok_move (.inl rfl) rfl bd rfl) rfl rfl rfl) ?_
   refine RV.bool (fun h3 => ?_) (fun h3 => ?_)
   ·refine RV.step1 (OpOk.yes (ok_fieldAddr fa_rat0 rfl rfl bd rfl) rfl rfl rfl) ?_
    refine RV.step1 (OpOk.yes (ok_loadf 0 fld_num rfl rfl bd rfl rfl rfl rfl ty_int) rfl rfl rfl) ?_
    refine RV.step1 (OpOk.yes (ok_fieldAddr fa_rat1 rfl rfl bd rfl) rfl rfl rfl) ?_
    refine RV.step1 (OpOk.yes (ok_loadf 2 fld_den rfl rfl bd rfl rfl rfl rfl ty_int) rfl rfl rfl) ?_
    refine RV.step1 (OpOk.yes (ok_call (Gcd_con _ _ (by omega) (by omega)) rfl rfl bd Tryz.func107 rfl rfl (.cons rfl Conv.any (.cons rfl Conv.any .nil)) rfl hfr rfl) rfl rfl rfl) ?_
    refine RV.step1 (OpOk.yes (ok_call (isOne_con _ _) rfl rfl bd Tryz.func106 rfl rfl (.cons rfl Conv.any .nil) rfl hfr rfl) rfl rfl rfl) ?_
    refine RV.step1 (OpOk.yes (ok_pickT rfl rfl bd rfl rfl rfl) rfl rfl rfl) ?_
    refine p1 (ok_pickF rfl rfl bd rfl rfl rfl) ?_
    refine mr rfl rfl bd rfl ?_
    refine RV.done ?_
    refine CV.ret ?_
    have h1' : ¬ q = 0 := by simpa using h1
    have h2' : 0 ≤ q := by simpa using h2
    have h3' : ¬ q = 1 := by simpa using h3
    refine fin1 rfl (.inr rfl) rfl (is_bool ?_)
    rw [Bool.eq_iff_iff, decide_eq_true_eq, decide_eq_true_eq]
    omega
   ·refine RV.step1 (OpOk.skip rfl rfl rfl rfl rfl bd) ?_
    refine RV.step1 (OpOk.skip rfl rfl rfl rfl rfl bd) ?_
    refine RV.step1 (OpOk.skip rfl rfl rfl rfl rfl bd) ?_
    refine RV.step1 (OpOk.skip rfl rfl rfl rfl rfl bd) ?_
    refine RV.step1 (OpOk.skip rfl rfl rfl rfl rfl bd) ?_
    refine RV.step1 (OpOk.skip rfl rfl rfl rfl rfl bd) ?_
    refine RV.step1 (OpOk.yes (ok_pickF rfl rfl bd rfl rfl rfl) rfl rfl rfl) ?_
    refine p1 (ok_pickF rfl rfl bd rfl rfl rfl) ?_
    refine mr rfl rfl bd rfl ?_
    refine RV.done ?_
    refine CV.ret ?_
    have h1' : ¬ q = 0 := by simpa using h1
    have h3' : q = 1 := by simpa using h3
    refine fin1 rfl (.inr rfl) rfl (is_bool ?_)
    rw [eq_comm, decide_eq_false_iff_not]
    omega
  ·refine RV.step1 (OpOk.skip rfl rfl rfl rfl rfl bd) ?_
   refine RV.step1 (OpOk.skip rfl rfl rfl rfl rfl bd) ?_
   refine RV.step1 (OpOk.skip rfl rfl rfl rfl rfl bd) ?_
   refine RV.step1 (OpOk.skip rfl rfl rfl rfl rfl bd) ?_
   refine RV.step1 (OpOk.yes (ok_pickF rfl rfl bd rfl rfl rfl) rfl rfl rfl) ?_
   refine RV.step1 (OpOk.yes (ok_move (.inl rfl) rfl bd rfl) rfl rfl rfl) ?_
   refine RV.step1 (OpOk.skip rfl rfl rfl rfl rfl bd) ?_
   refine RV.step1 (OpOk.skip rfl rfl rfl rfl rfl bd) ?_
   refine RV.step1 (OpOk.skip rfl rfl rfl rfl rfl bd) ?_
   refine RV.step1 (OpOk.skip rfl rfl rfl rfl rfl bd) ?_
   refine RV.step1 (OpOk.skip rfl rfl rfl rfl rfl bd) ?_
   refine RV.step1 (OpOk.skip rfl rfl rfl rfl rfl bd) ?_
   refine RV.step1 (OpOk.yes (ok_pickF rfl rfl bd rfl rfl rfl) rfl rfl rfl) ?_
   refine p1 (ok_pickF rfl rfl bd rfl rfl rfl) ?_
   refine mr rfl rfl bd rfl ?_
   refine RV.done ?_
   refine CV.ret ?_
   have h1' : ¬ q = 0 := by simpa using h1
   have h2' : q < 0 := by simpa using h2
   refine fin1 rfl (.inr rfl) rfl (is_bool ?_)
   rw [eq_comm, decide_eq_false_iff_not]
   omega

theorem Between_err (a b : Rat) (j k : Nat) (hj : j ≤ 100000) (hk : k ≤ 100000) (h : 0 < cmpR a b) : Con Tryz.prog 64 [RT a j, RT b k] (.tup [.d (Dm.rt 0 0 0), .v (.int .i64 1)]) := by
 refine Con.of (n := 30) Tryz.func64 rfl rfl rfl rfl rfl fun cx hfr => ?_
 refine sr rfl ?_
 refine p2 (ok_box (i := 0) rfl rfl bd rfl rfl rfl rfl rfl) ?_
 refine p2 (ok_box (i := 1) rfl rfl bd rfl rfl rfl rfl rfl) ?_
 refine p2 (ok_alloc (i := 2) rfl rfl bd zero_rat rfl rfl rfl rfl) ?_
 refine mr rfl rfl bd rfl ?_
 refine RV.done ?_
 refine CV.seq ?_
 refine CV.block ?_
 refine sr rfl ?_
 refine p1 (ok_load rfl rfl bd rfl rfl rfl ty_rat) ?_
 refine p1 (ok_load rfl rfl bd rfl rfl rfl ty_rat) ?_
 refine p1 (ok_call (RCompare_con _ _ _ _ (by omega) (by omega)) rfl rfl bd Tryz.func50 rfl rfl (.cons rfl Conv.any (.cons rfl Conv.any .nil)) rfl hfr rfl) ?_
 refine p1 (ok_gtr rfl rfl bd rfl rfl) ?_
 refine mr rfl rfl bd rfl ?_
 refine RV.done ?_
 refine CV.cond rfl (fun hc => ?_) (fun hc => False.elim (by simp at hc; omega))
 refine sr rfl ?_
 refine p1 (ok_build0 rfl rfl bd) ?_
 refine p1 (ok_store rfl rfl rfl rfl rfl rfl rfl (ty_rat).2 rfl rfl rfl rfl) ?_
 refine mr rfl rfl bd rfl ?_
 refine RV.done ?_
 refine CV.ret ?_
 exact fin2 rfl (.inr rfl) ⟨_, _, _, _, _, rfl, rfl, rfl, ty_rat⟩ rfl is_rfl2
theorem Between_zero (a b : Rat) (j k : Nat) (hj : j ≤ 100000) (hk : k ≤ 100000) (h : ¬ 0 < cmpR a b) (h2 : ¬ 0 < cmpI a.num 0) (h3 : ¬ cmpI b.num 0 < 0) : Con Tryz.prog 64 [RT a j, RT b k] (.tup [.d (Dm.rt 0 0 0), .v (.int .i64 0)]) := by
 refine Con.of (n := 30) Tryz.func64 rfl rfl rfl rfl rfl fun cx hfr => ?_
 refine sr rfl ?_
 refine p2 (ok_box (i := 0) rfl rfl bd rfl rfl rfl rfl rfl) ?_
 refine p2 (ok_box (i := 1) rfl rfl bd rfl rfl rfl rfl rfl) ?_
 refine p2 (ok_alloc (i := 2) rfl rfl bd zero_rat rfl rfl rfl rfl) ?_
 refine mr rfl rfl bd rfl ?_
 refine RV.done ?_
 refine CV.seq ?_
 refine CV.block ?_
 refine sr rfl ?_
 refine p1 (ok_load rfl rfl bd rfl rfl rfl ty_rat) ?_
 refine p1 (ok_load rfl rfl bd rfl rfl rfl ty_rat) ?_
 refine p1 (ok_call (RCompare_con _ _ _ _ (by omega) (by omega)) rfl rfl bd Tryz.func50 rfl rfl (.cons rfl Conv.any (.cons rfl Conv.any .nil)) rfl hfr rfl) ?_
 refine p1 (ok_gtr rfl rfl bd rfl rfl) ?_
 refine mr rfl rfl bd rfl ?_
 refine RV.done ?_
 refine CV.cond rfl (fun hc => False.elim (by simp at hc; omega)) (fun hc => ?_)
 refine sr rfl ?_
 refine p1 (ok_load rfl rfl bd rfl rfl rfl ty_rat) ?_
 refine p1 (ok_call (RSign_con _ _) rfl rfl bd Tryz.func52 rfl rfl (.cons rfl Conv.any .nil) rfl hfr rfl) ?_
 refine p1 (ok_gtr rfl rfl bd rfl rfl) ?_
 refine mr rfl rfl bd rfl ?_
 refine RV.done ?_
 refine CV.cond rfl (fun hc => False.elim (by simp at hc; omega)) (fun hc => ?_)
 refine sr rfl ?_
 refine p1 (ok_load rfl rfl bd rfl rfl rfl ty_rat) ?_
 refine p1 (ok_call (RSign_con _ _) rfl rfl bd Tryz.func52 rfl rfl (.cons rfl Conv.any .nil) rfl hfr rfl) ?_
 refine p1 (ok_lss rfl rfl bd rfl rfl) ?_
 refine mr rfl rfl bd rfl ?_
 refine RV.done ?_
 refine CV.cond rfl (fun hc => False.elim (by simp at hc; omega)) (fun hc => ?_)
 refine CV.skip ?_
 refine sr rfl ?_
 refine p1 (ok_build0 rfl rfl bd) ?_
 refine p1 (ok_store rfl rfl rfl rfl rfl rfl rfl (ty_rat).2 rfl rfl rfl rfl) ?_
 refine mr rfl rfl bd rfl ?_
 refine RV.done ?_
 refine CV.ret ?_
 exact fin2 rfl (.inr rfl) ⟨_, _, _, _, _, rfl, rfl, rfl, ty_rat⟩ rfl is_rfl2
theorem Between_pos (a b z : Rat) (j k m : Nat) (hj : j ≤ 100000) (hk : k ≤ 100000) (h : ¬ 0 < cmpR a b) (h2 : 0 < cmpI a.num 0) (hl : Con Tryz.prog 117 [RT a j, RT b k] (.one (RT z m))) : Con Tryz.prog 64 [RT a j, RT b k] (.tup [RT z m, .v (.int .i64 0)]) := by
 refine Con.of (n := 30) Tryz.func64 rfl rfl rfl rfl rfl fun cx hfr => ?_
 refine sr rfl ?_
 refine p2 (ok_box (i := 0) rfl rfl bd rfl rfl rfl rfl rfl) ?_
 refine p2 (ok_box (i := 1) rfl rfl bd rfl rfl rfl rfl rfl) ?_
 refine p2 (ok_alloc (i := 2) rfl rfl bd zero_rat rfl rfl rfl rfl) ?_
 refine mr rfl rfl bd rfl ?_
 refine RV.done ?_
 refine CV.seq ?_
 refine CV.block ?_
 refine sr rfl ?_
 refine p1 (ok_load rfl rfl bd rfl rfl rfl ty_rat) ?_
 refine p1 (ok_load rfl rfl bd rfl rfl rfl ty_rat) ?_
 refine p1 (ok_call (RCompare_con _ _ _ _ (by omega) (by omega)) rfl rfl bd Tryz.func50 rfl rfl (.cons rfl Conv.any (.cons rfl Conv.any .nil)) rfl hfr rfl) ?_
 refine p1 (ok_gtr rfl rfl bd rfl rfl) ?_
 refine mr rfl rfl bd rfl ?_
 refine RV.done ?_
 refine CV.cond rfl (fun hc => False.elim (by simp at hc; omega)) (fun hc => ?_)
 refine sr rfl ?_
 refine p1 (ok_load rfl rfl bd rfl rfl rfl ty_rat) ?_
 refine p1 (ok_call (RSign_con _ _) rfl rfl bd Tryz.func52 rfl rfl (.cons rfl Conv.any .nil) rfl hfr rfl) ?_
 refine p1 (ok_gtr rfl rfl bd rfl rfl) ?_
 refine mr rfl rfl bd rfl ?_
 refine RV.done ?_
 refine CV.cond rfl (fun hc => ?_) (fun hc => False.elim (by simp at hc; omega))
 refine sr rfl ?_
 refine p1 (ok_load rfl rfl bd rfl rfl rfl ty_rat) ?_
 refine p1 (ok_load rfl rfl bd rfl rfl rfl ty_rat) ?_
 refine p1 (ok_call (hl) rfl rfl bd Tryz.func117 rfl rfl (.cons rfl Conv.any (.cons rfl Conv.any .nil)) rfl hfr rfl) ?_
 refine p1 (ok_store rfl rfl rfl rfl rfl rfl rfl (ty_rat).2 rfl rfl rfl rfl) ?_
 refine mr rfl rfl bd rfl ?_
 refine RV.done ?_
 refine CV.ret ?_
 exact fin2 rfl (.inr rfl) ⟨_, _, _, _, _, rfl, rfl, rfl, ty_rat⟩ rfl is_rfl2
theorem Between_neg (a b z : Rat) (j k m : Nat) (hj : j ≤ 100000) (hk : k ≤ 100000) (h : ¬ 0 < cmpR a b) (h2 : ¬ 0 < cmpI a.num 0) (h3 : cmpI b.num 0 < 0) (hl : Con Tryz.prog 117 [RT (-b) k, RT (-a) j] (.one (RT z m))) : Con Tryz.prog 64 [RT a j, RT b k] (.tup [RT (-z) m, .v (.int .i64 0)]) := by
 refine Con.of (n := 30) Tryz.func64 rfl rfl rfl rfl rfl fun cx hfr => ?_
 refine sr rfl ?_
 refine p2 (ok_box (i := 0) rfl rfl bd rfl rfl rfl rfl rfl) ?_
 refine p2 (ok_box (i := 1) rfl rfl bd rfl rfl rfl rfl rfl) ?_
 refine p2 (ok_alloc (i := 2) rfl rfl bd zero_rat rfl rfl rfl rfl) ?_
 refine mr rfl rfl bd rfl ?_
 refine RV.done ?_
 refine CV.seq ?_
 refine CV.block ?_
 refine sr rfl ?_
 refine p1 (ok_load rfl rfl bd rfl rfl rfl ty_rat) ?_
 refine p1 (ok_load rfl rfl bd rfl rfl rfl ty_rat) ?_
 refine p1 (ok_call (RCompare_con _ _ _ _ (by omega) (by omega)) rfl rfl bd Tryz.func50 rfl rfl (.cons rfl Conv.any (.cons rfl Conv.any .nil)) rfl hfr rfl) ?_
 refine p1 (ok_gtr rfl rfl bd rfl rfl) ?_
 refine mr rfl rfl bd rfl ?_
 refine RV.done ?_
 refine CV.cond rfl (fun hc => False.elim (by simp at hc; omega)) (fun hc => ?_)
 refine sr rfl ?_
 refine p1 (ok_load rfl rfl bd rfl rfl rfl ty_rat) ?_
 refine p1 (ok_call (RSign_con _ _) rfl rfl bd Tryz.func52 rfl rfl (.cons rfl Conv.any .nil) rfl hfr rfl) ?_
 refine p1 (ok_gtr rfl rfl bd rfl rfl) ?_
 refine mr rfl rfl bd rfl ?_
 refine RV.done ?_
 refine CV.cond rfl (fun hc => False.elim (by simp at hc; omega)) (fun hc => ?_)
 refine sr rfl ?_
 refine p1 (ok_load rfl rfl bd rfl rfl rfl ty_rat) ?_
 refine p1 (ok_call (RSign_con _ _) rfl rfl bd Tryz.func52 rfl rfl (.cons rfl Conv.any .nil) rfl hfr rfl) ?_
 refine p1 (ok_lss rfl rfl bd rfl rfl) ?_
 refine mr rfl rfl bd rfl ?_
 refine RV.done ?_
 refine CV.cond rfl (fun hc => ?_) (fun hc => False.elim (by simp at hc; omega))
 refine CV.seq ?_
 refine CV.region rfl (fun _ => by kernel_rfl) ?_
 refine p1 (ok_load rfl rfl bd rfl rfl rfl ty_rat) ?_
 refine p1 (ok_call (RNeg_con _ _) rfl rfl bd Tryz.func48 rfl rfl (.cons rfl Conv.any .nil) rfl hfr rfl) ?_
 refine p1 (ok_load rfl rfl bd rfl rfl rfl ty_rat) ?_
 refine p1 (ok_call (RNeg_con _ _) rfl rfl bd Tryz.func48 rfl rfl (.cons rfl Conv.any .nil) rfl hfr rfl) ?_
 refine p1 (ok_call (hl) rfl rfl bd Tryz.func117 rfl rfl (.cons rfl Conv.any (.cons rfl Conv.any .nil)) rfl hfr rfl) ?_
 refine p1 (ok_call (RNeg_con _ _) rfl rfl bd Tryz.func48 rfl rfl (.cons rfl Conv.any .nil) rfl hfr rfl) ?_
 refine p1 (ok_store rfl rfl rfl rfl rfl rfl rfl (ty_rat).2 rfl rfl rfl rfl) ?_
 refine mr rfl rfl bd rfl ?_
 refine RV.drawn (by kernel_rfl) ?_
 refine CV.ret ?_
 exact fin2 rfl (.inr rfl) ⟨_, _, _, _, _, rfl, rfl, rfl, ty_rat⟩ rfl is_rfl2
theorem between_con (p q r s : Int) (hp : -9223372036854775808 ≤ p ∧ p ≤ 9223372036854775807) (hq : -9223372036854775808 ≤ q ∧ q ≤ 9223372036854775807) (hr : -9223372036854775808 ≤ r ∧ r ≤ 9223372036854775807) (hs : -9223372036854775808 ≤ s ∧ s ≤ 9223372036854775807) (a : Rat) (m : Nat) (e : Int)
  (hb : Con Tryz.prog 64 [RT (Rat.divInt p q) 6, RT (Rat.divInt r s) 6] (.tup [RT a m, .v (.int .i64 e)])) : Con Tryz.prog 110 [.v (.int .i64 p), .v (.int .i64 q), .v (.int .i64 r), .v (.int .i64 s)] (.one (RT a m)) := by
 refine Con.of (n := 22) Tryz.func110 rfl rfl rfl rfl rfl fun cx hfr => ?_
 refine sr rfl ?_
 refine p2 (ok_alloc (i := 0) rfl rfl bd zero_rat rfl rfl rfl rfl) ?_
 refine RV.done (sr rfl ?_)
 refine ml rfl rfl bd rfl ?_
 refine ml rfl rfl bd rfl ?_
 refine p1 (ok_call (ROf_con p q hp.1 hp.2 hq.1 hq.2) rfl rfl bd Tryz.func34 rfl rfl (.cons rfl Conv.any (.cons rfl Conv.any .nil)) rfl hfr rfl) ?_
 refine ml rfl rfl bd rfl ?_
 refine ml rfl rfl bd rfl ?_
 refine p1 (ok_call (ROf_con r s hr.1 hr.2 hs.1 hs.2) rfl rfl bd Tryz.func34 rfl rfl (.cons rfl Conv.any (.cons rfl Conv.any .nil)) rfl hfr rfl) ?_
 refine p1 (ok_call (hb) rfl rfl bd Tryz.func64 rfl rfl (.cons rfl Conv.any (.cons rfl Conv.any .nil)) rfl hfr rfl) ?_
 refine ml rfl rfl bd rfl ?_
 refine p1 (ok_extract rfl rfl bd rfl rfl) ?_
 refine p1 (ok_extract rfl rfl bd rfl rfl) ?_
 refine p2 (ok_alloc (i := 1) rfl rfl bd zero_rat rfl rfl rfl rfl) ?_
 refine p1 (ok_store rfl rfl rfl rfl rfl rfl rfl (ty_rat).2 rfl rfl rfl rfl) ?_
 refine mr rfl rfl bd rfl ?_
 refine RV.done (sr rfl ?_)
 refine p1 (ok_load rfl rfl bd rfl rfl rfl ty_rat) ?_
 refine p1 (ok_store rfl rfl rfl rfl rfl rfl rfl (ty_rat).2 rfl rfl rfl rfl) ?_
 refine RV.done ?_
 refine CV.ret ?_
 exact fin1 rfl (.inr rfl) ⟨_, _, _, _, _, rfl, rfl, rfl, ty_rat⟩ is_rfl
section
variable {cx : Cx Dm} {n : Nat} {σ : St Dm} {o : Oper} {d t : Nat} {x y : Operand} {T T' : TypeId}
end
set_option linter.unusedSectionVars false

inductive FindOk (B : Nat) : Int → Int → Int → Int → Int → Int → Prop where
 | whole {a b c d : Int} : a % b = 0 → b ≠ 0 → len (a / b) ≤ B → FindOk B a b c d (a / b) 1
 | next {a b c d : Int} : a % b ≠ 0 → b ≠ 0 → d ≠ 0 → a / b < c / d → len (a / b + 1) ≤ B → FindOk B a b c d (a / b + 1) 1
 | step {a b c d q p : Int} : a % b ≠ 0 → b ≠ 0 → d ≠ 0 → ¬ a / b < c / d → FindOk B d (c % d) b (a % b) q p → len (a / b * q + p) ≤ B → len q ≤ B → FindOk B a b c d (a / b * q + p) q

abbrev oneP : SA Dm := .d (Dm.gen (pG (some 2) (.d (Dm.int 1 3))))
abbrev selfP : SA Dm := .d (Dm.gen (pselfG 146 [oneP]))
theorem len_one : len 1 ≤ 1 := by rw [len_lt]; decide
theorem ty_clo : TyIs Tryz.prog 121 none := TyIs.one (by kernel_rfl) (by kernel_rfl)

section
variable (a b c d : Int) (j1 j2 j3 j4 B : Nat) (hj1 : j1 ≤ 1000000) (hj2 : j2 ≤ 1000000) (hj3 : j3 ≤ 1000000) (hj4 : j4 ≤ 1000000) (hB1 : 1 ≤ B) (hB : B ≤ 1000000)
include hj1 hj2 hj3 hj4 hB1 hB
theorem find_whole (h : a % b = 0) (hb : b ≠ 0) (hl : len (a / b) ≤ B) : Con Tryz.prog 146 [.d (Dm.int a j1), .d (Dm.int b j2), .d (Dm.int c j3), .d (Dm.int d j4), oneP, selfP] (.tup [.d (Dm.int (a / b) B), .d (Dm.int 1 B)]) := by
 refine Con.of (n := 58) Tryz.func146 rfl rfl rfl rfl rfl fun cx hfr => ?_
 refine sr rfl ?_
 refine p2 (ok_box (i := 0) rfl rfl bd rfl rfl rfl rfl rfl) ?_
 refine p2 (ok_box (i := 1) rfl rfl bd rfl rfl rfl rfl rfl) ?_
 refine p2 (ok_box (i := 2) rfl rfl bd rfl rfl rfl rfl rfl) ?_
 refine p2 (ok_box (i := 3) rfl rfl bd rfl rfl rfl rfl rfl) ?_
 refine p2 (ok_alloc (i := 4) rfl rfl bd zero_int rfl rfl rfl rfl) ?_
 refine p2 (ok_alloc (i := 5) rfl rfl bd zero_int rfl rfl rfl rfl) ?_
 refine RV.done (sr rfl ?_)
 refine p1 (ok_load rfl rfl bd rfl rfl rfl ty_int) ?_
 refine p1 (ok_load rfl rfl bd rfl rfl rfl ty_int) ?_
 refine p1 (ok_call (Div_con _ _ (by omega) (by omega)) rfl rfl bd Tryz.func96 rfl rfl (.cons rfl Conv.any (.cons rfl Conv.any .nil)) rfl hfr rfl) ?_
 refine ml rfl rfl bd rfl ?_
 refine p1 (ok_extract rfl rfl bd rfl rfl) ?_
 refine p1 (ok_extract rfl rfl bd rfl rfl) ?_
 refine p2 (ok_alloc (i := 6) rfl rfl bd zero_int rfl rfl rfl rfl) ?_
 refine p2 (ok_alloc (i := 7) rfl rfl bd zero_int rfl rfl rfl rfl) ?_
 refine p1 (ok_store rfl rfl rfl rfl rfl rfl rfl (ty_int).2 rfl rfl rfl rfl) ?_
 refine p1 (ok_store rfl rfl rfl rfl rfl rfl rfl (ty_int).2 rfl rfl rfl rfl) ?_
 refine RV.done ?_
 refine CV.seq ?_
 refine sr rfl ?_
 refine p1 (ok_load rfl rfl bd rfl rfl rfl ty_int) ?_
 refine p1 (ok_call (Sign_con _) rfl rfl bd Tryz.func88 rfl rfl (.cons rfl Conv.any .nil) rfl hfr rfl) ?_
 refine p1 (ok_eql rfl rfl bd rfl rfl) ?_
 refine RV.done ?_
 refine CV.cond rfl (fun hc => ?_) (fun hc => False.elim (by rw [if_neg hb, h] at hc; revert hc; decide))
 refine CV.seq ?_
 refine CV.region rfl (fun _ => by kernel_rfl) ?_
 refine p1 (ok_load rfl rfl bd rfl rfl rfl ty_int) ?_
 refine p1 (ok_loadP ty_int (by decide) rfl rfl bd rfl) ?_
 refine p1 (ok_store rfl rfl rfl rfl rfl rfl rfl (ty_int).2 rfl rfl rfl rfl) ?_
 refine p1 (ok_store rfl rfl rfl rfl rfl rfl rfl (ty_int).2 rfl rfl rfl rfl) ?_
 refine RV.drawn (by kernel_rfl) ?_
 refine CV.ret ?_
 exact fin2 rfl (.inr rfl) ⟨_, _, _, _, _, rfl, rfl, rfl, ty_int⟩ ⟨_, _, _, _, _, rfl, rfl, rfl, ty_int⟩ (is_pair (is_lenle hl) (is_lenle (Nat.le_trans len_one hB1)))
theorem find_next (h : a % b ≠ 0) (hb : b ≠ 0) (hd : d ≠ 0) (h4 : a / b < c / d) (hl : len (a / b + 1) ≤ B) : Con Tryz.prog 146 [.d (Dm.int a j1), .d (Dm.int b j2), .d (Dm.int c j3), .d (Dm.int d j4), oneP, selfP] (.tup [.d (Dm.int (a / b + 1) B), .d (Dm.int 1 B)]) := by
 refine Con.of (n := 58) Tryz.func146 rfl rfl rfl rfl rfl fun cx hfr => ?_
 refine sr rfl ?_
 refine p2 (ok_box (i := 0) rfl rfl bd rfl rfl rfl rfl rfl) ?_
 refine p2 (ok_box (i := 1) rfl rfl bd rfl rfl rfl rfl rfl) ?_
 refine p2 (ok_box (i := 2) rfl rfl bd rfl rfl rfl rfl rfl) ?_
 refine p2 (ok_box (i := 3) rfl rfl bd rfl rfl rfl rfl rfl) ?_
 refine p2 (ok_alloc (i := 4) rfl rfl bd zero_int rfl rfl rfl rfl) ?_
 refine p2 (ok_alloc (i := 5) rfl rfl bd zero_int rfl rfl rfl rfl) ?_
 refine RV.done (sr rfl ?_)
 refine p1 (ok_load rfl rfl bd rfl rfl rfl ty_int) ?_
 refine p1 (ok_load rfl rfl bd rfl rfl rfl ty_int) ?_
 refine p1 (ok_call (Div_con _ _ (by omega) (by omega)) rfl rfl bd Tryz.func96 rfl rfl (.cons rfl Conv.any (.cons rfl Conv.any .nil)) rfl hfr rfl) ?_
 refine ml rfl rfl bd rfl ?_
 refine p1 (ok_extract rfl rfl bd rfl rfl) ?_
 refine p1 (ok_extract rfl rfl bd rfl rfl) ?_
 refine p2 (ok_alloc (i := 6) rfl rfl bd zero_int rfl rfl rfl rfl) ?_
 refine p2 (ok_alloc (i := 7) rfl rfl bd zero_int rfl rfl rfl rfl) ?_
 refine p1 (ok_store rfl rfl rfl rfl rfl rfl rfl (ty_int).2 rfl rfl rfl rfl) ?_
 refine p1 (ok_store rfl rfl rfl rfl rfl rfl rfl (ty_int).2 rfl rfl rfl rfl) ?_
 refine RV.done ?_
 refine CV.seq ?_
 refine sr rfl ?_
 refine p1 (ok_load rfl rfl bd rfl rfl rfl ty_int) ?_
 refine p1 (ok_call (Sign_con _) rfl rfl bd Tryz.func88 rfl rfl (.cons rfl Conv.any .nil) rfl hfr rfl) ?_
 refine p1 (ok_eql rfl rfl bd rfl rfl) ?_
 refine RV.done ?_
 refine CV.cond rfl (fun hc => False.elim (by rw [if_neg hb, cmpI_eq] at hc; exact h (by simpa using hc))) (fun hc => ?_)
 refine CV.skip ?_
 refine sr rfl ?_
 refine p1 (ok_load rfl rfl bd rfl rfl rfl ty_int) ?_
 refine p1 (ok_load rfl rfl bd rfl rfl rfl ty_int) ?_
 refine p1 (ok_call (Div_con _ _ (by omega) (by omega)) rfl rfl bd Tryz.func96 rfl rfl (.cons rfl Conv.any (.cons rfl Conv.any .nil)) rfl hfr rfl) ?_
 refine ml rfl rfl bd rfl ?_
 refine p1 (ok_extract rfl rfl bd rfl rfl) ?_
 refine p1 (ok_extract rfl rfl bd rfl rfl) ?_
 refine p2 (ok_alloc (i := 8) rfl rfl bd zero_int rfl rfl rfl rfl) ?_
 refine p2 (ok_alloc (i := 9) rfl rfl bd zero_int rfl rfl rfl rfl) ?_
 refine p1 (ok_store rfl rfl rfl rfl rfl rfl rfl (ty_int).2 rfl rfl rfl rfl) ?_
 refine p1 (ok_store rfl rfl rfl rfl rfl rfl rfl (ty_int).2 rfl rfl rfl rfl) ?_
 refine RV.done ?_
 refine CV.seq ?_
 refine sr rfl ?_
 refine p1 (ok_load rfl rfl bd rfl rfl rfl ty_int) ?_
 refine p1 (ok_load rfl rfl bd rfl rfl rfl ty_int) ?_
 refine p1 (ok_call (Compare_con _ _) rfl rfl bd Tryz.func114 rfl rfl (.cons rfl Conv.any (.cons rfl Conv.any .nil)) rfl hfr rfl) ?_
 refine p1 (ok_lss rfl rfl bd rfl rfl) ?_
 refine RV.done ?_
 refine CV.cond rfl (fun hc => ?_) (fun hc => False.elim (by unfold cmpI at hc; rw [if_pos h4] at hc; revert hc; decide))
 refine CV.seq ?_
 refine CV.region rfl (fun _ => by kernel_rfl) ?_
 refine p1 (ok_load rfl rfl bd rfl rfl rfl ty_int) ?_
 refine p1 (ok_loadP ty_int (by decide) rfl rfl bd rfl) ?_
 refine p1 (ok_call (Add_con _ _ (by omega) (by omega)) rfl rfl bd Tryz.func111 rfl rfl (.cons rfl Conv.any (.cons rfl Conv.any .nil)) rfl hfr rfl) ?_
 refine p1 (ok_loadP ty_int (by decide) rfl rfl bd rfl) ?_
 refine p1 (ok_store rfl rfl rfl rfl rfl rfl rfl (ty_int).2 rfl rfl rfl rfl) ?_
 refine p1 (ok_store rfl rfl rfl rfl rfl rfl rfl (ty_int).2 rfl rfl rfl rfl) ?_
 refine RV.drawn (by kernel_rfl) ?_
 refine CV.ret ?_
 exact fin2 rfl (.inr rfl) ⟨_, _, _, _, _, rfl, rfl, rfl, ty_int⟩ ⟨_, _, _, _, _, rfl, rfl, rfl, ty_int⟩ (is_pair (is_lenle hl) (is_lenle (Nat.le_trans len_one hB1)))
theorem find_step (q p : Int) (h : a % b ≠ 0) (hb : b ≠ 0) (hd : d ≠ 0) (h4 : ¬ a / b < c / d) (hl : len (a / b * q + p) ≤ B) (hq : len q ≤ B) (hrec : Con Tryz.prog 146 [.d (Dm.int d j4), .d (Dm.int (if d = 0 then 0 else c % d) j4), .d (Dm.int b j2), .d (Dm.int (if b = 0 then 0 else a % b) j2), oneP, selfP] (.tup [.d (Dm.int q B), .d (Dm.int p B)])) : Con Tryz.prog 146 [.d (Dm.int a j1), .d (Dm.int b j2), .d (Dm.int c j3), .d (Dm.int d j4), oneP, selfP] (.tup [.d (Dm.int (a / b * q + p) B), .d (Dm.int q B)]) := by
 refine Con.of (n := 58) Tryz.func146 rfl rfl rfl rfl rfl fun cx hfr => ?_
 refine sr rfl ?_
 refine p2 (ok_box (i := 0) rfl rfl bd rfl rfl rfl rfl rfl) ?_
 refine p2 (ok_box (i := 1) rfl rfl bd rfl rfl rfl rfl rfl) ?_
 refine p2 (ok_box (i := 2) rfl rfl bd rfl rfl rfl rfl rfl) ?_
 refine p2 (ok_box (i := 3) rfl rfl bd rfl rfl rfl rfl rfl) ?_
 refine p2 (ok_alloc (i := 4) rfl rfl bd zero_int rfl rfl rfl rfl) ?_
 refine p2 (ok_alloc (i := 5) rfl rfl bd zero_int rfl rfl rfl rfl) ?_
 refine RV.done (sr rfl ?_)
 refine p1 (ok_load rfl rfl bd rfl rfl rfl ty_int) ?_
 refine p1 (ok_load rfl rfl bd rfl rfl rfl ty_int) ?_
 refine p1 (ok_call (Div_con _ _ (by omega) (by omega)) rfl rfl bd Tryz.func96 rfl rfl (.cons rfl Conv.any (.cons rfl Conv.any .nil)) rfl hfr rfl) ?_
 refine ml rfl rfl bd rfl ?_
 refine p1 (ok_extract rfl rfl bd rfl rfl) ?_
 refine p1 (ok_extract rfl rfl bd rfl rfl) ?_
 refine p2 (ok_alloc (i := 6) rfl rfl bd zero_int rfl rfl rfl rfl) ?_
 refine p2 (ok_alloc (i := 7) rfl rfl bd zero_int rfl rfl rfl rfl) ?_
 refine p1 (ok_store rfl rfl rfl rfl rfl rfl rfl (ty_int).2 rfl rfl rfl rfl) ?_
 refine p1 (ok_store rfl rfl rfl rfl rfl rfl rfl (ty_int).2 rfl rfl rfl rfl) ?_
 refine RV.done ?_
 refine CV.seq ?_
 refine sr rfl ?_
 refine p1 (ok_load rfl rfl bd rfl rfl rfl ty_int) ?_
 refine p1 (ok_call (Sign_con _) rfl rfl bd Tryz.func88 rfl rfl (.cons rfl Conv.any .nil) rfl hfr rfl) ?_
 refine p1 (ok_eql rfl rfl bd rfl rfl) ?_
 refine RV.done ?_
 refine CV.cond rfl (fun hc => False.elim (by rw [if_neg hb, cmpI_eq] at hc; exact h (by simpa using hc))) (fun hc => ?_)
 refine CV.skip ?_
 refine sr rfl ?_
 refine p1 (ok_load rfl rfl bd rfl rfl rfl ty_int) ?_
 refine p1 (ok_load rfl rfl bd rfl rfl rfl ty_int) ?_
 refine p1 (ok_call (Div_con _ _ (by omega) (by omega)) rfl rfl bd Tryz.func96 rfl rfl (.cons rfl Conv.any (.cons rfl Conv.any .nil)) rfl hfr rfl) ?_
 refine ml rfl rfl bd rfl ?_
 refine p1 (ok_extract rfl rfl bd rfl rfl) ?_
 refine p1 (ok_extract rfl rfl bd rfl rfl) ?_
 refine p2 (ok_alloc (i := 8) rfl rfl bd zero_int rfl rfl rfl rfl) ?_
 refine p2 (ok_alloc (i := 9) rfl rfl bd zero_int rfl rfl rfl rfl) ?_
 refine p1 (ok_store rfl rfl rfl rfl rfl rfl rfl (ty_int).2 rfl rfl rfl rfl) ?_
 refine p1 (ok_store rfl rfl rfl rfl rfl rfl rfl (ty_int).2 rfl rfl rfl rfl) ?_
 refine RV.done ?_
 refine CV.seq ?_
 refine sr rfl ?_
 refine p1 (ok_load rfl rfl bd rfl rfl rfl ty_int) ?_
 refine p1 (ok_load rfl rfl bd rfl rfl rfl ty_int) ?_
 refine p1 (ok_call (Compare_con _ _) rfl rfl bd Tryz.func114 rfl rfl (.cons rfl Conv.any (.cons rfl Conv.any .nil)) rfl hfr rfl) ?_
 refine p1 (ok_lss rfl rfl bd rfl rfl) ?_
 refine RV.done ?_
 refine CV.cond rfl (fun hc => False.elim (by unfold cmpI at hc; rw [if_neg h4] at hc; split at hc <;> revert hc <;> decide)) (fun hc => ?_)
 refine CV.skip ?_
 refine sr rfl ?_
 refine p1 (ok_loadself ty_clo rfl rfl bd rfl) ?_
 refine p1 (ok_load rfl rfl bd rfl rfl rfl ty_int) ?_
 refine p1 (ok_load rfl rfl bd rfl rfl rfl ty_int) ?_
 refine p1 (ok_load rfl rfl bd rfl rfl rfl ty_int) ?_
 refine p1 (ok_load rfl rfl bd rfl rfl rfl ty_int) ?_
 refine p1 (ok_callself (sas := [.d (Dm.int d j4), .d (Dm.int (if d = 0 then 0 else c % d) j4), .d (Dm.int b j2), .d (Dm.int (if b = 0 then 0 else a % b) j2)]) hrec Tryz.func146 rfl rfl rfl rfl bd rfl (.cons rfl Conv.any (.cons rfl Conv.any (.cons rfl Conv.any (.cons rfl Conv.any .nil)))) rfl hfr rfl) ?_
 refine ml rfl rfl bd rfl ?_
 refine p1 (ok_extract rfl rfl bd rfl rfl) ?_
 refine p1 (ok_extract rfl rfl bd rfl rfl) ?_
 refine p2 (ok_alloc (i := 10) rfl rfl bd zero_int rfl rfl rfl rfl) ?_
 refine p2 (ok_alloc (i := 11) rfl rfl bd zero_int rfl rfl rfl rfl) ?_
 refine p1 (ok_store rfl rfl rfl rfl rfl rfl rfl (ty_int).2 rfl rfl rfl rfl) ?_
 refine p1 (ok_store rfl rfl rfl rfl rfl rfl rfl (ty_int).2 rfl rfl rfl rfl) ?_
 refine RV.done ?_
 refine CV.seq ?_
 refine CV.region rfl (fun _ => by kernel_rfl) ?_
 refine p1 (ok_load rfl rfl bd rfl rfl rfl ty_int) ?_
 refine p1 (ok_load rfl rfl bd rfl rfl rfl ty_int) ?_
 refine p1 (ok_call (Mul_con _ _ (by omega) (by omega)) rfl rfl bd Tryz.func98 rfl rfl (.cons rfl Conv.any (.cons rfl Conv.any .nil)) rfl hfr rfl) ?_
 refine p1 (ok_load rfl rfl bd rfl rfl rfl ty_int) ?_
 refine p1 (ok_call (Add_con _ _ (by omega) (by omega)) rfl rfl bd Tryz.func111 rfl rfl (.cons rfl Conv.any (.cons rfl Conv.any .nil)) rfl hfr rfl) ?_
 refine p1 (ok_load rfl rfl bd rfl rfl rfl ty_int) ?_
 refine p1 (ok_store rfl rfl rfl rfl rfl rfl rfl (ty_int).2 rfl rfl rfl rfl) ?_
 refine p1 (ok_store rfl rfl rfl rfl rfl rfl rfl (ty_int).2 rfl rfl rfl rfl) ?_
 refine RV.drawn (by kernel_rfl) ?_
 refine CV.ret ?_
 exact fin2 rfl (.inr rfl) ⟨_, _, _, _, _, rfl, rfl, rfl, ty_int⟩ ⟨_, _, _, _, _, rfl, rfl, rfl, ty_int⟩ (is_pair (is_lenle hl) (is_lenle hq))
end
theorem find_con {B : Nat} {a b c d q p : Int} (hB1 : 1 ≤ B) (hB : B ≤ 1000000) (h : FindOk B a b c d q p) : ∀ j1 j2 j3 j4 : Nat, j1 ≤ 1000000 → j2 ≤ 1000000 → j3 ≤ 1000000 → j4 ≤ 1000000 → Con Tryz.prog 146 [.d (Dm.int a j1), .d (Dm.int b j2), .d (Dm.int c j3), .d (Dm.int d j4), oneP, selfP] (.tup [.d (Dm.int q B), .d (Dm.int p B)]) := by
 induction h with
 | whole h1 h2 h3 => exact fun j1 j2 j3 j4 k1 k2 k3 k4 => find_whole _ _ _ _ j1 j2 j3 j4 B k1 k2 k3 k4 hB1 hB h1 h2 h3
 | next h1 h2 h3 h4 h5 => exact fun j1 j2 j3 j4 k1 k2 k3 k4 => find_next _ _ _ _ j1 j2 j3 j4 B k1 k2 k3 k4 hB1 hB h1 h2 h3 h4 h5
 | step h1 h2 h3 h4 _ h6 h7 ih =>
  exact fun j1 j2 j3 j4 k1 k2 k3 k4 => find_step _ _ _ _ j1 j2 j3 j4 B k1 k2 k3 k4 hB1 hB _ _ h1 h2 h3 h4 h6 h7 (by rw [if_neg h3, if_neg h2]; exact ih j4 j4 j2 j2 k4 k4 k2 k2)
end Vc
end Go.Proofs.YtpgiebimhnhbiaaGreatDoor

namespace Go.Proofs.YtpgiebimhnhbiaaGreatDoor
open Go.RowKit
open Go.Lib (hid)
open Dg Zn
namespace Vc
set_option maxRecDepth 100000

theorem zero_clo : (Tryz.prog.info? 121).map (·.zero) = some (some .nilFunc) := by kernel_rfl
theorem least_con (a b : Rat) (j k B : Nat) (q p : Int) (hj : j ≤ 900000) (hk : k ≤ 900000) (hB1 : 1 ≤ B) (hB : B ≤ 1000000) (hf : FindOk B a.num a.den b.num b.den q p) (hc : p ≠ 0 → Int.gcd q p = 1) : Con Tryz.prog 117 [RT a j, RT b k] (.one (RT (Rat.divInt q p) B)) := by
 refine Con.of (n := 22) Tryz.func117 rfl rfl rfl rfl rfl fun cx hfr => ?_
 refine CV.seq ?_
 refine CV.region rfl (fun h => nomatch h) ?_
 refine RV.step2 (OpOk.plain (ok_box (i := 0) rfl rfl (by decide) rfl rfl rfl rfl rfl) rfl) ?_
 refine RV.step2 (OpOk.plain (ok_box (i := 1) rfl rfl (by decide) rfl rfl rfl rfl rfl) rfl) ?_
 refine RV.step2 (OpOk.plain (ok_alloc (i := 2) rfl rfl (by decide) zero_rat rfl rfl rfl rfl) rfl) ?_
 refine RV.done ?_
 refine CV.seq ?_
 refine CV.region rfl (fun h => nomatch h) ?_
 refine RV.step1 (OpOk.plain (ok_call (Of_con 1 (by decide) (by decide)) rfl rfl (by decide) Tryz.func97 rfl rfl (.cons rfl Conv.any .nil) rfl hfr rfl) rfl) ?_
 refine RV.step2 (OpOk.plain (ok_alloc (i := 3) rfl rfl (by decide) zero_int rfl rfl rfl rfl) rfl) ?_
 refine RV.step1 (OpOk.plain (ok_store rfl rfl rfl rfl rfl rfl rfl (ty_int).2 rfl rfl rfl rfl) rfl) ?_
 refine RV.done ?_
 refine CV.seq ?_
 refine CV.region rfl (fun h => nomatch h) ?_
 refine RV.step2 (OpOk.plain (ok_alloc (i := 4) rfl rfl (by decide) zero_clo rfl rfl rfl rfl) rfl) ?_
 refine RV.done ?_
 refine CV.seq ?_
 refine CV.freezeB (r := 3) (t := 5) (cx.bw hfr) rfl rfl rfl rfl rfl ?_
 refine CV.closureS (caps := [.tmp 5]) (ss := [oneP]) (cx.bw hfr) rfl rfl rfl (by decide) rfl rfl rfl ty_clo.2 rfl rfl (by decide) (by decide) (.cons rfl Conv.any .nil) rfl rfl ?_
 refine CV.seq ?_
 refine CV.region rfl (fun _ => by kernel_rfl) ?_
 refine RV.step1 (OpOk.plain (ok_loadself ty_clo rfl rfl (by decide) rfl) rfl) ?_
 refine RV.step1 (OpOk.plain (ok_fieldAddr fa_rat0 rfl rfl (by decide) rfl) rfl) ?_
 refine RV.step1 (OpOk.plain (ok_loadf 0 fld_num rfl rfl (by decide) rfl rfl rfl rfl ty_int) rfl) ?_
 refine RV.step1 (OpOk.plain (ok_load rfl rfl (by decide) rfl rfl rfl ty_rat) rfl) ?_
 refine RV.step1 (OpOk.plain (ok_call (Den_con' _ _) rfl rfl (by decide) Tryz.func37 rfl rfl (.cons rfl Conv.any .nil) rfl hfr rfl) rfl) ?_
 refine RV.step1 (OpOk.plain (ok_fieldAddr fa_rat0 rfl rfl (by decide) rfl) rfl) ?_
 refine RV.step1 (OpOk.plain (ok_loadf 0 fld_num rfl rfl (by decide) rfl rfl rfl rfl ty_int) rfl) ?_
 refine RV.step1 (OpOk.plain (ok_load rfl rfl (by decide) rfl rfl rfl ty_rat) rfl) ?_
 refine RV.step1 (OpOk.plain (ok_call (Den_con' _ _) rfl rfl (by decide) Tryz.func37 rfl rfl (.cons rfl Conv.any .nil) rfl hfr rfl) rfl) ?_
 refine RV.step1 (OpOk.plain (ok_callself (sas := [.d (Dm.int a.num j), .d (Dm.int a.den (j + 3)), .d (Dm.int b.num k), .d (Dm.int b.den (k + 3))]) (find_con hB1 hB hf _ _ _ _ (by omega) (by omega) (by omega) (by omega)) Tryz.func146 rfl rfl rfl rfl (by decide) rfl (.cons rfl Conv.any (.cons rfl Conv.any (.cons rfl Conv.any (.cons rfl Conv.any .nil)))) rfl hfr rfl) rfl) ?_
 refine RV.step1 (OpOk.plain (ok_extract rfl rfl (by decide) rfl rfl) rfl) ?_
 refine RV.step1 (OpOk.plain (ok_extract rfl rfl (by decide) rfl rfl) rfl) ?_
 refine RV.step1 (OpOk.plain (ok_call (lowest_con _ _ _ _ hc) rfl rfl (by decide) Tryz.func108 rfl rfl (.cons rfl Conv.any (.cons rfl Conv.any .nil)) rfl hfr rfl) rfl) ?_
 refine RV.step1 (OpOk.plain (ok_store rfl rfl rfl rfl rfl rfl rfl (ty_rat).2 rfl rfl rfl rfl) rfl) ?_
 refine RV.drawn (by kernel_rfl) ?_
 refine CV.ret ?_
 exact fin1 rfl (.inr rfl) ⟨_, _, _, _, _, rfl, rfl, rfl, ty_rat⟩ (is_rt rfl rfl (by omega))
theorem dv_num {p q : Int} (hc : Int.gcd p q = 1) (hq : 0 < q) : (Rat.divInt p q).num = p ∧ ((Rat.divInt p q).den : Int) = q := by
 refine ⟨?_, ?_⟩
 ·rw [low_num hc, Int.sign_eq_one_of_pos hq, Int.one_mul]
 ·rw [low_den hc (by omega)]
  omega
theorem cmpR_dv {p q r s : Int} (h1 : Int.gcd p q = 1) (hq : 0 < q) (h2 : Int.gcd r s = 1) (hs : 0 < s) : cmpR (Rat.divInt p q) (Rat.divInt r s) = cmpI (p * s) (r * q) := by
 unfold cmpR
 rw [(dv_num h1 hq).1, (dv_num h1 hq).2, (dv_num h2 hs).1, (dv_num h2 hs).2]
theorem len_le1 {z : Int} (h : z.natAbs < 1000000000) : len z ≤ 1 := by rw [len_lt]; omega

theorem between_pos_con (p q r s u v : Int) (h1 : Int.gcd p q = 1) (hq : 0 < q) (h2 : Int.gcd r s = 1) (hs : 0 < s) (hp : 0 < p) (hle : ¬ 0 < cmpI (p * s) (r * q)) (hf : FindOk 1 p q r s u v) (hc : v ≠ 0 → Int.gcd u v = 1)
  (bp : -9223372036854775808 ≤ p ∧ p ≤ 9223372036854775807) (bq : -9223372036854775808 ≤ q ∧ q ≤ 9223372036854775807) (br : -9223372036854775808 ≤ r ∧ r ≤ 9223372036854775807) (bs : -9223372036854775808 ≤ s ∧ s ≤ 9223372036854775807) :
  Con Tryz.prog 110 [.v (.int .i64 p), .v (.int .i64 q), .v (.int .i64 r), .v (.int .i64 s)] (.one (RT (Rat.divInt u v) 1)) := by
 refine between_con p q r s bp bq br bs _ 1 0 (Between_pos _ _ _ 6 6 1 (by decide) (by decide) ?_ ?_ (least_con _ _ 6 6 1 u v (by decide) (by decide) (by decide) (by decide) ?_ hc))
 ·rw [cmpR_dv h1 hq h2 hs]; exact hle
 ·rw [(dv_num h1 hq).1]
  unfold cmpI
  rw [if_neg (by omega), if_pos hp]
  decide
 ·rw [(dv_num h1 hq).1, (dv_num h1 hq).2, (dv_num h2 hs).1, (dv_num h2 hs).2]
  exact hf
theorem between_1 : Con Tryz.prog 110 [.v (.int .i64 1), .v (.int .i64 3), .v (.int .i64 2), .v (.int .i64 5)] (.one (RT (Rat.divInt 1 3) 1)) :=
 between_pos_con 1 3 2 5 1 3 (by decide) (by decide) (by decide) (by decide) (by decide) (by decide)
  (.step (a := 1) (b := 3) (c := 2) (d := 5) (q := 3) (p := 1) (by decide) (by decide) (by decide) (by decide) (.next (a := 5) (b := 2) (c := 3) (d := 1) (by decide) (by decide) (by decide) (by decide) (len_le1 (by decide))) (len_le1 (by decide)) (len_le1 (by decide))) (by decide) (by decide) (by decide) (by decide) (by decide)
theorem between_2 : Con Tryz.prog 110 [.v (.int .i64 3), .v (.int .i64 10), .v (.int .i64 2), .v (.int .i64 5)] (.one (RT (Rat.divInt 1 3) 1)) :=
 between_pos_con 3 10 2 5 1 3 (by decide) (by decide) (by decide) (by decide) (by decide) (by decide)
  (.step (a := 3) (b := 10) (c := 2) (d := 5) (q := 3) (p := 1) (by decide) (by decide) (by decide) (by decide) (.next (a := 5) (b := 2) (c := 10) (d := 3) (by decide) (by decide) (by decide) (by decide) (len_le1 (by decide))) (len_le1 (by decide)) (len_le1 (by decide))) (by decide) (by decide) (by decide) (by decide) (by decide)
theorem between_3 : Con Tryz.prog 110 [.v (.int .i64 (-5)), .v (.int .i64 2), .v (.int .i64 (-3)), .v (.int .i64 2)] (.one (RT (-(Rat.divInt 2 1)) 1)) := by
 have e1 : -(Rat.divInt (-3) 2) = Rat.divInt 3 2 := by rw [← Rat.neg_divInt]; rfl
 have e2 : -(Rat.divInt (-5) 2) = Rat.divInt 5 2 := by rw [← Rat.neg_divInt]; rfl
 have n1 := dv_num (p := 3) (q := 2) (by decide) (by decide)
 have n2 := dv_num (p := 5) (q := 2) (by decide) (by decide)
 have n3 := dv_num (p := -5) (q := 2) (by decide) (by decide)
 have n4 := dv_num (p := -3) (q := 2) (by decide) (by decide)
 refine between_con (-5) 2 (-3) 2 (by decide) (by decide) (by decide) (by decide) _ 1 0 (Between_neg _ _ _ 6 6 1 (by decide) (by decide) ?_ ?_ ?_ ?_)
 ·rw [cmpR_dv (by decide) (by decide) (by decide) (by decide)]; decide
 ·rw [n3.1]; decide
 ·rw [n4.1]; decide
 ·rw [e1, e2]
  refine least_con _ _ 6 6 1 2 1 (by decide) (by decide) (by decide) (by decide) ?_ (by decide)
  rw [n1.1, n1.2, n2.1, n2.2]
  exact .next (a := 3) (b := 2) (c := 5) (d := 2) (by decide) (by decide) (by decide) (by decide) (len_le1 (by decide))
theorem between_4 : Con Tryz.prog 110 [.v (.int .i64 (-1)), .v (.int .i64 2), .v (.int .i64 3), .v (.int .i64 1)] (.one (RT 0 0)) := by
 have n3 := dv_num (p := -1) (q := 2) (by decide) (by decide)
 have n4 := dv_num (p := 3) (q := 1) (by decide) (by decide)
 refine between_con (-1) 2 3 1 (by decide) (by decide) (by decide) (by decide) 0 0 0 (Between_zero _ _ 6 6 (by decide) (by decide) ?_ ?_ ?_)
 ·rw [cmpR_dv (by decide) (by decide) (by decide) (by decide)]; decide
 ·rw [n3.1]; decide
 ·rw [n4.1]; decide
end Vc
end Go.Proofs.YtpgiebimhnhbiaaGreatDoor
