/-
  Contracts of gantry/rat: the parts of a fraction, common divisors, lowest terms.
-/
import Derived.Test.YtabjodomigllhaaGreatDoorJC27
namespace Go.Proofs.YtabjodomigllhaaGreatDoor
open Go.RowKit
open Go.Lib (hid)
open Dg Zn
namespace Vc

theorem one_dig {m : Nat} (h : (dig m).length = 1) : (dig m).getD 0 0 = m := by
  have hv := val_dig m
  match hd : dig m with
  | [] => rw [hd] at h; cases h
  | [x] => rw [hd] at hv; simp only [val] at hv; rw [← hv]; simp
  | _ :: _ :: _ => rw [hd] at h; cases h
theorem len_one_of {m : Nat} (h : m = 1) : (dig m).length = 1 := by subst h; rfl
set_option maxRecDepth 100000 in
theorem isWhole_con (p q : Int) (k : Nat) : Con Tryz.prog 128 [.d (Dm.rt p q k)] (.one (.v (.bool (decide (q = 0))))) := by
  refine Con.of (n := 8) Tryz.func128 rfl rfl rfl rfl rfl fun cx => ?_
  refine CV.seq ?_
  refine CV.region rfl (fun h => nomatch h) ?_
  refine RV.step2 (OpOk.plain (ok_box (i := 0) rfl rfl (by decide) rfl rfl rfl rfl) rfl) ?_
  refine RV.step1 (OpOk.plain (ok_move (.inr rfl) rfl (by decide) rfl) rfl) ?_
  refine RV.done ?_
  refine CV.seq ?_
  refine CV.region rfl (fun h => nomatch h) ?_
  refine RV.step1 (OpOk.plain (ok_fieldAddr fa_rat1 rfl rfl (by decide) rfl) rfl) ?_
  refine RV.step1 (OpOk.plain (ok_fieldAddr fa_int1 rfl rfl (by decide) rfl) rfl) ?_
  refine RV.step1 (OpOk.plain (ok_loadf 3 fld_dden rfl rfl (by decide) rfl rfl rfl rfl ty_ints) rfl) ?_
  refine RV.step1 (OpOk.plain (ok_len rfl rfl (by decide) rfl) rfl) ?_
  refine RV.step1 (OpOk.plain (ok_eql rfl rfl (by decide) rfl rfl) rfl) ?_
  refine RV.step1 (OpOk.plain (ok_move (.inr rfl) rfl (by decide) rfl) rfl) ?_
  refine RV.done ?_
  refine CV.ret ?_
  rw [dig_len_zero]
  exact fin1 rfl (.inr rfl) rfl is_rfl
set_option maxRecDepth 100000 in
theorem isOne_con (z : Int) (k : Nat) : Con Tryz.prog 129 [.d (Dm.int z k)] (.one (.v (.bool (decide (z = 1))))) := by
  refine Con.of (n := 19) Tryz.func129 rfl rfl rfl rfl rfl fun cx => ?_
  refine CV.seq ?_
  refine CV.region rfl (fun h => nomatch h) ?_
  refine RV.step2 (OpOk.plain (ok_box (i := 0) rfl rfl (by decide) rfl rfl rfl rfl) rfl) ?_
  refine RV.step1 (OpOk.plain (ok_move (.inr rfl) rfl (by decide) rfl) rfl) ?_
  refine RV.done ?_
  refine CV.seq ?_
  refine CV.region rfl (fun h => nomatch h) ?_
  refine RV.step1 (OpOk.plain (ok_fieldAddr fa_int0 rfl rfl (by decide) rfl) rfl) ?_
  refine RV.step1 (OpOk.plain (ok_loadf 0 fld_neg rfl rfl (by decide) rfl rfl rfl rfl ty_bool) rfl) ?_
  refine RV.step1 (OpOk.plain (ok_not rfl rfl (by decide) rfl) rfl) ?_
  refine RV.step1 (OpOk.plain (ok_move (.inl rfl) rfl (by decide) rfl) rfl) ?_
  refine RV.bool (fun h1 => ?_) (fun h1 => ?_)
  · refine RV.step1 (OpOk.yes (ok_fieldAddr fa_int1 rfl rfl (by decide) rfl) rfl rfl rfl) ?_
    refine RV.step1 (OpOk.yes (ok_loadf 1 fld_dig rfl rfl (by decide) rfl rfl rfl rfl ty_ints) rfl rfl rfl) ?_
    refine RV.step1 (OpOk.yes (ok_len rfl rfl (by decide) rfl) rfl rfl rfl) ?_
    refine RV.step1 (OpOk.yes (ok_eql rfl rfl (by decide) rfl rfl) rfl rfl rfl) ?_
    refine RV.step1 (OpOk.plain (ok_pickT rfl rfl (by decide) rfl rfl rfl) rfl) ?_
    refine RV.step1 (OpOk.plain (ok_move (.inl rfl) rfl (by decide) rfl) rfl) ?_
    refine RV.bool (fun h2 => ?_) (fun h2 => ?_)
    · refine RV.step1 (OpOk.yes (ok_fieldAddr fa_int1 rfl rfl (by decide) rfl) rfl rfl rfl) ?_
      refine RV.step1 (OpOk.yes (ok_loadf 1 fld_dig rfl rfl (by decide) rfl rfl rfl rfl ty_ints) rfl rfl rfl) ?_
      refine RV.step1 (OpOk.yes (ok_idx (i := 0) (by simp at h2; omega) rfl rfl (by decide) rfl rfl) rfl rfl rfl) ?_
      refine RV.step1 (OpOk.yes (ok_loadc rfl rfl (by decide) rfl) rfl rfl rfl) ?_
      refine RV.step1 (OpOk.yes (ok_eql rfl rfl (by decide) rfl rfl) rfl rfl rfl) ?_
      refine RV.step1 (OpOk.plain (ok_pickT rfl rfl (by decide) rfl rfl rfl) rfl) ?_
      refine RV.step1 (OpOk.plain (ok_move (.inr rfl) rfl (by decide) rfl) rfl) ?_
      refine RV.done ?_
      refine CV.ret ?_
      refine fin1 rfl (.inr rfl) rfl (is_bool ?_)
      rw [one_dig (by simp at h2; omega), Bool.eq_iff_iff]
      simp at h1 ⊢
      omega
    · refine RV.step1 (OpOk.skip rfl rfl rfl rfl rfl (by decide)) ?_
      refine RV.step1 (OpOk.skip rfl rfl rfl rfl rfl (by decide)) ?_
      refine RV.step1 (OpOk.skip rfl rfl rfl rfl rfl (by decide)) ?_
      refine RV.step1 (OpOk.skip rfl rfl rfl rfl rfl (by decide)) ?_
      refine RV.step1 (OpOk.skip rfl rfl rfl rfl rfl (by decide)) ?_
      refine RV.step1 (OpOk.plain (ok_pickF rfl rfl (by decide) rfl rfl rfl) rfl) ?_
      refine RV.step1 (OpOk.plain (ok_move (.inr rfl) rfl (by decide) rfl) rfl) ?_
      refine RV.done ?_
      refine CV.ret ?_
      refine fin1 rfl (.inr rfl) rfl (is_bool ?_)
      rw [eq_comm, decide_eq_false_iff_not]
      rintro rfl
      cases h2
  · refine RV.step1 (OpOk.skip rfl rfl rfl rfl rfl (by decide)) ?_
    refine RV.step1 (OpOk.skip rfl rfl rfl rfl rfl (by decide)) ?_
    refine RV.step1 (OpOk.skip rfl rfl rfl rfl rfl (by decide)) ?_
    refine RV.step1 (OpOk.skip rfl rfl rfl rfl rfl (by decide)) ?_
    refine RV.step1 (OpOk.plain (ok_pickF rfl rfl (by decide) rfl rfl rfl) rfl) ?_
    refine RV.step1 (OpOk.plain (ok_move (.inl rfl) rfl (by decide) rfl) rfl) ?_
    refine RV.step1 (OpOk.skip rfl rfl rfl rfl rfl (by decide)) ?_
    refine RV.step1 (OpOk.skip rfl rfl rfl rfl rfl (by decide)) ?_
    refine RV.step1 (OpOk.skip rfl rfl rfl rfl rfl (by decide)) ?_
    refine RV.step1 (OpOk.skip rfl rfl rfl rfl rfl (by decide)) ?_
    refine RV.step1 (OpOk.skip rfl rfl rfl rfl rfl (by decide)) ?_
    refine RV.step1 (OpOk.plain (ok_pickF rfl rfl (by decide) rfl rfl rfl) rfl) ?_
    refine RV.step1 (OpOk.plain (ok_move (.inr rfl) rfl (by decide) rfl) rfl) ?_
    refine RV.done ?_
    refine CV.ret ?_
    refine fin1 rfl (.inr rfl) rfl (is_bool ?_)
    rw [eq_comm, decide_eq_false_iff_not]
    simp at h1
    omega
set_option maxRecDepth 100000 in
theorem Den_con (p q : Int) (k : Nat) : Con Tryz.prog 55 [.d (Dm.rt p q k)] (.one (.d (Dm.int (if q = 0 then 1 else q) (k + 3)))) := by
  refine Con.of (n := 8) Tryz.func55 rfl rfl rfl rfl rfl fun cx => ?_
  refine CV.seq ?_
  refine CV.region rfl (fun h => nomatch h) ?_
  refine RV.step2 (OpOk.plain (ok_box (i := 0) rfl rfl (by decide) rfl rfl rfl rfl) rfl) ?_
  refine RV.step2 (OpOk.plain (ok_alloc (i := 1) rfl rfl (by decide) zero_int rfl rfl rfl) rfl) ?_
  refine RV.done ?_
  refine CV.seq ?_
  refine CV.seq ?_
  refine CV.region rfl (fun h => nomatch h) ?_
  refine RV.step1 (OpOk.plain (ok_load rfl rfl (by decide) rfl rfl rfl ty_rat) rfl) ?_
  refine RV.step1 (OpOk.plain (ok_call (isWhole_con _ _ _) rfl rfl (by decide) Tryz.func128 rfl rfl (.cons rfl Conv.any .nil) rfl) rfl) ?_
  refine RV.done ?_
  refine CV.cond rfl (fun hc => ?_) (fun hc => ?_)
  · refine CV.seq ?_
    refine CV.region rfl (fun h => nomatch h) ?_
    refine RV.step1 (OpOk.plain (ok_call (Of_con _ (by decide) (by decide)) rfl rfl (by decide) Tryz.func24 rfl rfl (.cons rfl Conv.any .nil) rfl) rfl) ?_
    refine RV.step1 (OpOk.plain (ok_store rfl rfl rfl rfl rfl rfl rfl (ty_int).2 rfl rfl rfl) rfl) ?_
    refine RV.done ?_
    refine CV.ret ?_
    exact fin1 rfl (.inr rfl) ⟨_, _, _, _, _, rfl, rfl, rfl, ty_int⟩ (is_int' (by rw [if_pos (by simpa using hc)]) (by omega))
  · refine CV.skip ?_
    refine CV.seq ?_
    refine CV.region rfl (fun h => nomatch h) ?_
    refine RV.step1 (OpOk.plain (ok_fieldAddr fa_rat1 rfl rfl (by decide) rfl) rfl) ?_
    refine RV.step1 (OpOk.plain (ok_loadf 2 fld_den rfl rfl (by decide) rfl rfl rfl rfl ty_int) rfl) ?_
    refine RV.step1 (OpOk.plain (ok_store rfl rfl rfl rfl rfl rfl rfl (ty_int).2 rfl rfl rfl) rfl) ?_
    refine RV.done ?_
    refine CV.ret ?_
    exact fin1 rfl (.inr rfl) ⟨_, _, _, _, _, rfl, rfl, rfl, ty_int⟩ (is_int' (by rw [if_neg (by simpa using hc)]) (by omega))
set_option maxRecDepth 100000 in
theorem quotient_con (x y : Int) (j k : Nat) (hj : j ≤ 1000000000) (hk : k ≤ 1000000000) : Con Tryz.prog 134 [.d (Dm.int x j), .d (Dm.int y k)] (.one (.d (Dm.int (x / y) j))) := by
  refine Con.of (n := 17) Tryz.func134 rfl rfl rfl rfl rfl fun cx => ?_
  refine CV.seq ?_
  refine CV.region rfl (fun h => nomatch h) ?_
  refine RV.step2 (OpOk.plain (ok_box (i := 0) rfl rfl (by decide) rfl rfl rfl rfl) rfl) ?_
  refine RV.step2 (OpOk.plain (ok_box (i := 1) rfl rfl (by decide) rfl rfl rfl rfl) rfl) ?_
  refine RV.step2 (OpOk.plain (ok_alloc (i := 2) rfl rfl (by decide) zero_int rfl rfl rfl) rfl) ?_
  refine RV.done ?_
  refine CV.seq ?_
  refine CV.seq ?_
  refine CV.region rfl (fun h => nomatch h) ?_
  refine RV.step1 (OpOk.plain (ok_load rfl rfl (by decide) rfl rfl rfl ty_int) rfl) ?_
  refine RV.step1 (OpOk.plain (ok_call (isOne_con _ _) rfl rfl (by decide) Tryz.func129 rfl rfl (.cons rfl Conv.any .nil) rfl) rfl) ?_
  refine RV.done ?_
  refine CV.cond rfl (fun hc => ?_) (fun hc => ?_)
  · refine CV.seq ?_
    refine CV.region rfl (fun h => nomatch h) ?_
    refine RV.step1 (OpOk.plain (ok_load rfl rfl (by decide) rfl rfl rfl ty_int) rfl) ?_
    refine RV.step1 (OpOk.plain (ok_store rfl rfl rfl rfl rfl rfl rfl (ty_int).2 rfl rfl rfl) rfl) ?_
    refine RV.done ?_
    refine CV.ret ?_
    exact fin1 rfl (.inr rfl) ⟨_, _, _, _, _, rfl, rfl, rfl, ty_int⟩ (is_int' (by rw [show y = 1 by simpa using hc]; simp) (by omega))
  · refine CV.skip ?_
    refine CV.seq ?_
    refine CV.region rfl (fun h => nomatch h) ?_
    refine RV.step1 (OpOk.plain (ok_load rfl rfl (by decide) rfl rfl rfl ty_int) rfl) ?_
    refine RV.step1 (OpOk.plain (ok_load rfl rfl (by decide) rfl rfl rfl ty_int) rfl) ?_
    refine RV.step1 (OpOk.plain (ok_call (Div_con _ _ hj hk) rfl rfl (by decide) Tryz.func28 rfl rfl (.cons rfl Conv.any (.cons rfl Conv.any .nil)) rfl) rfl) ?_
    refine RV.step1 (OpOk.plain (ok_move (.inl rfl) rfl (by decide) rfl) rfl) ?_
    refine RV.step1 (OpOk.plain (ok_extract rfl rfl (by decide) rfl rfl) rfl) ?_
    refine RV.step1 (OpOk.plain (ok_extract rfl rfl (by decide) rfl rfl) rfl) ?_
    refine RV.step2 (OpOk.plain (ok_alloc (i := 3) rfl rfl (by decide) zero_int rfl rfl rfl) rfl) ?_
    refine RV.step2 (OpOk.plain (ok_alloc (i := 4) rfl rfl (by decide) zero_int rfl rfl rfl) rfl) ?_
    refine RV.step1 (OpOk.plain (ok_store rfl rfl rfl rfl rfl rfl rfl (ty_int).2 rfl rfl rfl) rfl) ?_
    refine RV.step1 (OpOk.plain (ok_store rfl rfl rfl rfl rfl rfl rfl (ty_int).2 rfl rfl rfl) rfl) ?_
    refine RV.done ?_
    refine CV.seq ?_
    refine CV.region rfl (fun h => nomatch h) ?_
    refine RV.step1 (OpOk.plain (ok_load rfl rfl (by decide) rfl rfl rfl ty_int) rfl) ?_
    refine RV.step1 (OpOk.plain (ok_store rfl rfl rfl rfl rfl rfl rfl (ty_int).2 rfl rfl rfl) rfl) ?_
    refine RV.done ?_
    refine CV.ret ?_
    exact fin1 rfl (.inr rfl) ⟨_, _, _, _, _, rfl, rfl, rfl, ty_int⟩ is_rfl
set_option maxRecDepth 100000 in
theorem cancelled_con (x y : Int) (j k : Nat) (hj : j ≤ 500000000) (hk : k ≤ 500000000) : Con Tryz.prog 131 [.d (Dm.int x j), .d (Dm.int y k)] (.tup [.d (Dm.int (x / (Int.gcd x y : Nat)) j), .d (Dm.int (y / (Int.gcd x y : Nat)) k)]) := by
  refine Con.of (n := 20) Tryz.func131 rfl rfl rfl rfl rfl fun cx => ?_
  refine CV.seq ?_
  refine CV.region rfl (fun h => nomatch h) ?_
  refine RV.step2 (OpOk.plain (ok_box (i := 0) rfl rfl (by decide) rfl rfl rfl rfl) rfl) ?_
  refine RV.step2 (OpOk.plain (ok_box (i := 1) rfl rfl (by decide) rfl rfl rfl rfl) rfl) ?_
  refine RV.step2 (OpOk.plain (ok_alloc (i := 2) rfl rfl (by decide) zero_int rfl rfl rfl) rfl) ?_
  refine RV.step2 (OpOk.plain (ok_alloc (i := 3) rfl rfl (by decide) zero_int rfl rfl rfl) rfl) ?_
  refine RV.done ?_
  refine CV.seq ?_
  refine CV.seq ?_
  refine CV.region rfl (fun h => nomatch h) ?_
  refine RV.step1 (OpOk.plain (ok_load rfl rfl (by decide) rfl rfl rfl ty_int) rfl) ?_
  refine RV.step1 (OpOk.plain (ok_call (isOne_con _ _) rfl rfl (by decide) Tryz.func129 rfl rfl (.cons rfl Conv.any .nil) rfl) rfl) ?_
  refine RV.done ?_
  refine CV.cond rfl (fun hc => ?_) (fun hc => ?_)
  · refine CV.seq ?_
    refine CV.region rfl (fun _ => by kernel_rfl) ?_
    refine RV.step1 (OpOk.plain (ok_load rfl rfl (by decide) rfl rfl rfl ty_int) rfl) ?_
    refine RV.step1 (OpOk.plain (ok_load rfl rfl (by decide) rfl rfl rfl ty_int) rfl) ?_
    refine RV.step1 (OpOk.plain (ok_store rfl rfl rfl rfl rfl rfl rfl (ty_int).2 rfl rfl rfl) rfl) ?_
    refine RV.step1 (OpOk.plain (ok_store rfl rfl rfl rfl rfl rfl rfl (ty_int).2 rfl rfl rfl) rfl) ?_
    refine RV.drawn (by kernel_rfl) ?_
    refine CV.ret ?_
    refine fin2 rfl (.inr rfl) ⟨_, _, _, _, _, rfl, rfl, rfl, ty_int⟩ ⟨_, _, _, _, _, rfl, rfl, rfl, ty_int⟩ (is_int2 ?_ (Nat.le_refl _) ?_ (Nat.le_refl _))
    all_goals rw [show y = 1 by simpa using hc]; simp
  · refine CV.skip ?_
    refine CV.seq ?_
    refine CV.region rfl (fun h => nomatch h) ?_
    refine RV.step1 (OpOk.plain (ok_load rfl rfl (by decide) rfl rfl rfl ty_int) rfl) ?_
    refine RV.step1 (OpOk.plain (ok_load rfl rfl (by decide) rfl rfl rfl ty_int) rfl) ?_
    refine RV.step1 (OpOk.plain (ok_call (Gcd_con _ _ (by omega) (by omega)) rfl rfl (by decide) Tryz.func30 rfl rfl (.cons rfl Conv.any (.cons rfl Conv.any .nil)) rfl) rfl) ?_
    refine RV.step2 (OpOk.plain (ok_alloc (i := 4) rfl rfl (by decide) zero_int rfl rfl rfl) rfl) ?_
    refine RV.step1 (OpOk.plain (ok_store rfl rfl rfl rfl rfl rfl rfl (ty_int).2 rfl rfl rfl) rfl) ?_
    refine RV.done ?_
    refine CV.seq ?_
    refine CV.region rfl (fun _ => by kernel_rfl) ?_
    refine RV.step1 (OpOk.plain (ok_load rfl rfl (by decide) rfl rfl rfl ty_int) rfl) ?_
    refine RV.step1 (OpOk.plain (ok_load rfl rfl (by decide) rfl rfl rfl ty_int) rfl) ?_
    refine RV.step1 (OpOk.plain (ok_call (quotient_con _ _ _ _ (by omega) (by omega)) rfl rfl (by decide) Tryz.func134 rfl rfl (.cons rfl Conv.any (.cons rfl Conv.any .nil)) rfl) rfl) ?_
    refine RV.step1 (OpOk.plain (ok_load rfl rfl (by decide) rfl rfl rfl ty_int) rfl) ?_
    refine RV.step1 (OpOk.plain (ok_load rfl rfl (by decide) rfl rfl rfl ty_int) rfl) ?_
    refine RV.step1 (OpOk.plain (ok_call (quotient_con _ _ _ _ (by omega) (by omega)) rfl rfl (by decide) Tryz.func134 rfl rfl (.cons rfl Conv.any (.cons rfl Conv.any .nil)) rfl) rfl) ?_
    refine RV.step1 (OpOk.plain (ok_store rfl rfl rfl rfl rfl rfl rfl (ty_int).2 rfl rfl rfl) rfl) ?_
    refine RV.step1 (OpOk.plain (ok_store rfl rfl rfl rfl rfl rfl rfl (ty_int).2 rfl rfl rfl) rfl) ?_
    refine RV.drawn (by kernel_rfl) ?_
    refine CV.ret ?_
    exact fin2 rfl (.inr rfl) ⟨_, _, _, _, _, rfl, rfl, rfl, ty_int⟩ ⟨_, _, _, _, _, rfl, rfl, rfl, ty_int⟩ is_rfl2

end Vc
end Go.Proofs.YtabjodomigllhaaGreatDoor
