/-
  RatSums and RatOrder: their walks, the examples' contract given.
-/
import Derived.Test.YtabjodomigllhaaGreatDoorJC38
import Derived.Test.YtabjodomigllhaaGreatDoorJC16
namespace Go.Proofs.YtabjodomigllhaaGreatDoor
open Go.RowKit
open Go.Lib (hid)
open Dg Zn
namespace Vc

section
variable {P : Program} {cx : Cx Dm} {n : Nat} {σ : St Dm} {o : Oper} {d : Nat} {x y : Operand} {T T' : TypeId} {k : IntKind} {a b : Int}
theorem ok_eqlT (h : a = b) (ho : o.op = .binOp .eql T x y T') (hd : o.dst = some d) (hn : d < n) (hx : opd σ x = .av (.one (.v (.int k a)))) (hy : opd σ y = .av (.one (.v (.int k b)))) : OpOk P cx n σ o (opk x ++ opk y) [(.s d, .av (.one (.v (.bool true))))] := by
  have := ok_eql (P := P) (cx := cx) ho hd hn hx hy
  rwa [h, beq_self_eq_true] at this
theorem ok_neqF (h : a = b) (ho : o.op = .binOp .neq T x y T') (hd : o.dst = some d) (hn : d < n) (hx : opd σ x = .av (.one (.v (.int k a)))) (hy : opd σ y = .av (.one (.v (.int k b)))) : OpOk P cx n σ o (opk x ++ opk y) [(.s d, .av (.one (.v (.bool false))))] := by
  have := ok_neq (P := P) (cx := cx) ho hd hn hx hy
  rwa [h, bne_self_eq_false] at this
theorem ok_leqT (h : a ≤ b) (ho : o.op = .binOp .leq T x y T') (hd : o.dst = some d) (hn : d < n) (hx : opd σ x = .av (.one (.v (.int k a)))) (hy : opd σ y = .av (.one (.v (.int k b)))) : OpOk P cx n σ o (opk x ++ opk y) [(.s d, .av (.one (.v (.bool true))))] := by
  have := ok_leq (P := P) (cx := cx) ho hd hn hx hy
  rwa [decide_eq_true h] at this
theorem ok_geqT (h : b ≤ a) (ho : o.op = .binOp .geq T x y T') (hd : o.dst = some d) (hn : d < n) (hx : opd σ x = .av (.one (.v (.int k a)))) (hy : opd σ y = .av (.one (.v (.int k b)))) : OpOk P cx n σ o (opk x ++ opk y) [(.s d, .av (.one (.v (.bool true))))] := by
  have := ok_geq (P := P) (cx := cx) ho hd hn hx hy
  rwa [decide_eq_true h] at this
set_option maxRecDepth 100000 in
theorem ok_beqT {p q : Bool} (h : p = q) (ho : o.op = .binOp .eql 4 x y T') (hd : o.dst = some d) (hn : d < n) (hx : opd σ x = .av (.one (.v (.bool p)))) (hy : opd σ y = .av (.one (.v (.bool q)))) : OpOk Tryz.prog cx n σ o (opk x ++ opk y) [(.s d, .av (.one (.v (.bool true))))] := by
  subst h
  exact ok_bin ho hd hn hx hy (by cases p <;> exact fun w => by kernel_rfl)
set_option maxRecDepth 100000 in
theorem ok_bneF {p q : Bool} (h : p = q) (ho : o.op = .binOp .neq 4 x y T') (hd : o.dst = some d) (hn : d < n) (hx : opd σ x = .av (.one (.v (.bool p)))) (hy : opd σ y = .av (.one (.v (.bool q)))) : OpOk Tryz.prog cx n σ o (opk x ++ opk y) [(.s d, .av (.one (.v (.bool false))))] := by
  subst h
  exact ok_bin ho hd hn hx hy (by cases p <;> exact fun w => by kernel_rfl)
end

theorem RCompare_eq {a b : Rat} {z : Int} (h : cmpR a b = z) {j k : Nat} (hj : j ≤ 10000000) (hk : k ≤ 10000000) : Con Tryz.prog 68 [RT a j, RT b k] (.one (.v (.int .i64 z))) := h ▸ RCompare_con a b j k hj hk
theorem RSign_eq {a : Rat} {z : Int} (h : cmpI a.num 0 = z) {k : Nat} : Con Tryz.prog 70 [RT a k] (.one (.v (.int .i64 z))) := h ▸ RSign_con a k
theorem RSame_eq {a b : Rat} {z : Bool} (h : decide (a = b) = z) {j k : Nat} : Con Tryz.prog 72 [RT a j, RT b k] (.one (.v (.bool z))) := h ▸ RSame_con a b j k
theorem ISub_con (x y : Int) {j k : Nat} (hj : j ≤ 1000000000) (hk : k ≤ 1000000000) : Con Tryz.prog 93 [.d (Dm.int x j), .d (Dm.int y k)] (.one (.d (Dm.int (x - y) (j + k + 1)))) :=
  con_int2 (fun vx vy w h1 h2 l1 l2 => Sub_any vx vy x y w h1 h2 (by omega) (by omega)) fun l1 l2 => by rw [Int.sub_eq_add_neg]; exact len_add l1 (len_neg l2)
theorem Small_con {x : Int} (h1 : -9223372036854775808 ≤ x) (h2 : x ≤ 9223372036854775807) {j : Nat} : Con Tryz.prog 22 [.d (Dm.int x j)] (.tup [.v (.int .i64 x), .v (.bool true)]) := by
  rintro L ρ w vs hlt hn hwf hall
  match vs, hall with
  | [vx], ⟨hx, _⟩ =>
    refine (Small_any vx x w (is_int hx).1).mono ?_
    rintro e w' ⟨rfl, h4⟩
    have e : smallI x = (x, true) := by unfold smallI; rw [if_pos ⟨h1, h2⟩]
    rw [e]
    exact ⟨_, rfl, h4, [_, _], rfl, rfl, rfl, trivial⟩

theorem divInt_add (a b : Rat) : Rat.divInt (a.num * b.den + b.num * a.den) (a.den * b.den) = a + b := by
  rw [← Rat.divInt_add_divInt a.num b.num (den_ne a) (den_ne b), Rat.num_divInt_den, Rat.num_divInt_den]
theorem divInt_mul (a b : Rat) : Rat.divInt (a.num * b.num) (a.den * b.den) = a * b := by
  rw [← Rat.divInt_mul_divInt, Rat.num_divInt_den, Rat.num_divInt_den]
theorem divInt_div (a b : Rat) : Rat.divInt (a.num * b.den) (a.den * b.num) = a / b := by
  rw [← Rat.divInt_mul_divInt, Rat.num_divInt_den, inv_eq, Rat.div_def]

set_option maxRecDepth 100000 in
theorem rfAdd_con (a b : Rat) (j k : Nat) (hj : j ≤ 1000000) (hk : k ≤ 1000000) : Con Tryz.prog 59 [RT a j, RT b k] (.one (RT (a + b) (3 * (j + k) + 20))) := by
  refine Con.of (n := 26) Tryz.func59 rfl rfl rfl rfl rfl fun cx => ?_
  refine CV.seq ?_
  refine CV.region rfl (fun h => nomatch h) ?_
  refine RV.step2 (OpOk.plain (ok_box (i := 0) rfl rfl (by decide) rfl rfl rfl rfl) rfl) ?_
  refine RV.step2 (OpOk.plain (ok_box (i := 1) rfl rfl (by decide) rfl rfl rfl rfl) rfl) ?_
  refine RV.step2 (OpOk.plain (ok_alloc (i := 2) rfl rfl (by decide) zero_rat rfl rfl rfl) rfl) ?_
  refine RV.done ?_
  refine CV.seq ?_
  refine CV.region rfl (fun _ => by kernel_rfl) ?_
  refine RV.step1 (OpOk.plain (ok_fieldAddr fa_rat0 rfl rfl (by decide) rfl) rfl) ?_
  refine RV.step1 (OpOk.plain (ok_loadf 0 fld_num rfl rfl (by decide) rfl rfl rfl rfl ty_int) rfl) ?_
  refine RV.step1 (OpOk.plain (ok_load rfl rfl (by decide) rfl rfl rfl ty_rat) rfl) ?_
  refine RV.step1 (OpOk.plain (ok_call (rDen_con' _ _) rfl rfl (by decide) Tryz.func47 rfl rfl (.cons rfl Conv.any .nil) rfl) rfl) ?_
  refine RV.step1 (OpOk.plain (ok_call (rMul_con _ _ (by omega) (by omega)) rfl rfl (by decide) Tryz.func27 rfl rfl (.cons rfl Conv.any (.cons rfl Conv.any .nil)) rfl) rfl) ?_
  refine RV.step2 (OpOk.plain (ok_alloc (i := 3) rfl rfl (by decide) zero_int rfl rfl rfl) rfl) ?_
  refine RV.step1 (OpOk.plain (ok_store rfl rfl rfl rfl rfl rfl rfl (ty_int).2 rfl rfl rfl) rfl) ?_
  refine RV.drawn (by kernel_rfl) ?_
  refine CV.seq ?_
  refine CV.region rfl (fun _ => by kernel_rfl) ?_
  refine RV.step1 (OpOk.plain (ok_fieldAddr fa_rat0 rfl rfl (by decide) rfl) rfl) ?_
  refine RV.step1 (OpOk.plain (ok_loadf 0 fld_num rfl rfl (by decide) rfl rfl rfl rfl ty_int) rfl) ?_
  refine RV.step1 (OpOk.plain (ok_load rfl rfl (by decide) rfl rfl rfl ty_rat) rfl) ?_
  refine RV.step1 (OpOk.plain (ok_call (rDen_con' _ _) rfl rfl (by decide) Tryz.func47 rfl rfl (.cons rfl Conv.any .nil) rfl) rfl) ?_
  refine RV.step1 (OpOk.plain (ok_call (rMul_con _ _ (by omega) (by omega)) rfl rfl (by decide) Tryz.func27 rfl rfl (.cons rfl Conv.any (.cons rfl Conv.any .nil)) rfl) rfl) ?_
  refine RV.step2 (OpOk.plain (ok_alloc (i := 4) rfl rfl (by decide) zero_int rfl rfl rfl) rfl) ?_
  refine RV.step1 (OpOk.plain (ok_store rfl rfl rfl rfl rfl rfl rfl (ty_int).2 rfl rfl rfl) rfl) ?_
  refine RV.drawn (by kernel_rfl) ?_
  refine CV.seq ?_
  refine CV.region rfl (fun _ => by kernel_rfl) ?_
  refine RV.step1 (OpOk.plain (ok_load rfl rfl (by decide) rfl rfl rfl ty_int) rfl) ?_
  refine RV.step1 (OpOk.plain (ok_load rfl rfl (by decide) rfl rfl rfl ty_int) rfl) ?_
  refine RV.step1 (OpOk.plain (ok_call (rAdd_con _ _ (by omega) (by omega)) rfl rfl (by decide) Tryz.func18 rfl rfl (.cons rfl Conv.any (.cons rfl Conv.any .nil)) rfl) rfl) ?_
  refine RV.step1 (OpOk.plain (ok_load rfl rfl (by decide) rfl rfl rfl ty_rat) rfl) ?_
  refine RV.step1 (OpOk.plain (ok_call (rDen_con' _ _) rfl rfl (by decide) Tryz.func47 rfl rfl (.cons rfl Conv.any .nil) rfl) rfl) ?_
  refine RV.step1 (OpOk.plain (ok_load rfl rfl (by decide) rfl rfl rfl ty_rat) rfl) ?_
  refine RV.step1 (OpOk.plain (ok_call (rDen_con' _ _) rfl rfl (by decide) Tryz.func47 rfl rfl (.cons rfl Conv.any .nil) rfl) rfl) ?_
  refine RV.step1 (OpOk.plain (ok_call (rMul_con _ _ (by omega) (by omega)) rfl rfl (by decide) Tryz.func27 rfl rfl (.cons rfl Conv.any (.cons rfl Conv.any .nil)) rfl) rfl) ?_
  refine RV.step1 (OpOk.plain (ok_call (rMake_con _ _ _ _ (by omega) (by omega)) rfl rfl (by decide) Tryz.func46 rfl rfl (.cons rfl Conv.any (.cons rfl Conv.any .nil)) rfl) rfl) ?_
  refine RV.step1 (OpOk.plain (ok_store rfl rfl rfl rfl rfl rfl rfl (ty_rat).2 rfl rfl rfl) rfl) ?_
  refine RV.drawn (by kernel_rfl) ?_
  refine CV.ret ?_
  exact fin1 rfl (.inr rfl) ⟨_, _, _, _, _, rfl, rfl, rfl, ty_rat⟩ (is_rt (by rw [divInt_add]) (by rw [divInt_add]) (by omega))
set_option maxRecDepth 100000 in
theorem rfNeg_con (a : Rat) (k : Nat) : Con Tryz.prog 67 [RT a k] (.one (RT (-a) k)) := by
  refine Con.of (n := 9) Tryz.func67 rfl rfl rfl rfl rfl fun cx => ?_
  refine CV.seq ?_
  refine CV.region rfl (fun h => nomatch h) ?_
  refine RV.step2 (OpOk.plain (ok_box (i := 0) rfl rfl (by decide) rfl rfl rfl rfl) rfl) ?_
  refine RV.step2 (OpOk.plain (ok_alloc (i := 1) rfl rfl (by decide) zero_rat rfl rfl rfl) rfl) ?_
  refine RV.done ?_
  refine CV.seq ?_
  refine CV.region rfl (fun _ => by kernel_rfl) ?_
  refine RV.step1 (OpOk.plain (ok_fieldAddr fa_rat0 rfl rfl (by decide) rfl) rfl) ?_
  refine RV.step1 (OpOk.plain (ok_loadf 0 fld_num rfl rfl (by decide) rfl rfl rfl rfl ty_int) rfl) ?_
  refine RV.step1 (OpOk.plain (ok_call (rNeg_con _) rfl rfl (by decide) Tryz.func100 rfl rfl (.cons rfl Conv.any .nil) rfl) rfl) ?_
  refine RV.step1 (OpOk.plain (ok_fieldAddr fa_rat1 rfl rfl (by decide) rfl) rfl) ?_
  refine RV.step1 (OpOk.plain (ok_loadf 2 fld_den rfl rfl (by decide) rfl rfl rfl rfl ty_int) rfl) ?_
  refine RV.step1 (OpOk.plain (ok_build2 rfl rfl (by decide) rfl rfl) rfl) ?_
  refine RV.step1 (OpOk.plain (ok_store rfl rfl rfl rfl rfl rfl rfl (ty_rat).2 rfl rfl rfl) rfl) ?_
  refine RV.drawn (by kernel_rfl) ?_
  refine CV.ret ?_
  exact fin1 rfl (.inr rfl) ⟨_, _, _, _, _, rfl, rfl, rfl, ty_rat⟩ (is_rt (by rw [Rat.neg_num]) (by unfold qd; rw [Rat.neg_den]) (by omega))
set_option maxRecDepth 100000 in
theorem rfSub_con (a b : Rat) (j k : Nat) (hj : j ≤ 1000000) (hk : k ≤ 1000000) : Con Tryz.prog 61 [RT a j, RT b k] (.one (RT (a - b) (3 * (j + k) + 20))) := by
  refine Con.of (n := 9) Tryz.func61 rfl rfl rfl rfl rfl fun cx => ?_
  refine CV.seq ?_
  refine CV.region rfl (fun h => nomatch h) ?_
  refine RV.step2 (OpOk.plain (ok_box (i := 0) rfl rfl (by decide) rfl rfl rfl rfl) rfl) ?_
  refine RV.step2 (OpOk.plain (ok_box (i := 1) rfl rfl (by decide) rfl rfl rfl rfl) rfl) ?_
  refine RV.step2 (OpOk.plain (ok_alloc (i := 2) rfl rfl (by decide) zero_rat rfl rfl rfl) rfl) ?_
  refine RV.done ?_
  refine CV.seq ?_
  refine CV.region rfl (fun _ => by kernel_rfl) ?_
  refine RV.step1 (OpOk.plain (ok_load rfl rfl (by decide) rfl rfl rfl ty_rat) rfl) ?_
  refine RV.step1 (OpOk.plain (ok_load rfl rfl (by decide) rfl rfl rfl ty_rat) rfl) ?_
  refine RV.step1 (OpOk.plain (ok_call (rfNeg_con _ _) rfl rfl (by decide) Tryz.func67 rfl rfl (.cons rfl Conv.any .nil) rfl) rfl) ?_
  refine RV.step1 (OpOk.plain (ok_call (rfAdd_con _ _ _ _ (by omega) (by omega)) rfl rfl (by decide) Tryz.func59 rfl rfl (.cons rfl Conv.any (.cons rfl Conv.any .nil)) rfl) rfl) ?_
  refine RV.step1 (OpOk.plain (ok_store rfl rfl rfl rfl rfl rfl rfl (ty_rat).2 rfl rfl rfl) rfl) ?_
  refine RV.drawn (by kernel_rfl) ?_
  refine CV.ret ?_
  exact fin1 rfl (.inr rfl) ⟨_, _, _, _, _, rfl, rfl, rfl, ty_rat⟩ (is_rt (by rw [Rat.sub_eq_add_neg]) (by rw [Rat.sub_eq_add_neg]) (by omega))
set_option maxRecDepth 100000 in
theorem rfMul_con (a b : Rat) (j k : Nat) (hj : j ≤ 1000000) (hk : k ≤ 1000000) : Con Tryz.prog 63 [RT a j, RT b k] (.one (RT (a * b) (3 * (j + k) + 20))) := by
  refine Con.of (n := 16) Tryz.func63 rfl rfl rfl rfl rfl fun cx => ?_
  refine CV.seq ?_
  refine CV.region rfl (fun h => nomatch h) ?_
  refine RV.step2 (OpOk.plain (ok_box (i := 0) rfl rfl (by decide) rfl rfl rfl rfl) rfl) ?_
  refine RV.step2 (OpOk.plain (ok_box (i := 1) rfl rfl (by decide) rfl rfl rfl rfl) rfl) ?_
  refine RV.step2 (OpOk.plain (ok_alloc (i := 2) rfl rfl (by decide) zero_rat rfl rfl rfl) rfl) ?_
  refine RV.done ?_
  refine CV.seq ?_
  refine CV.region rfl (fun _ => by kernel_rfl) ?_
  refine RV.step1 (OpOk.plain (ok_fieldAddr fa_rat0 rfl rfl (by decide) rfl) rfl) ?_
  refine RV.step1 (OpOk.plain (ok_loadf 0 fld_num rfl rfl (by decide) rfl rfl rfl rfl ty_int) rfl) ?_
  refine RV.step1 (OpOk.plain (ok_fieldAddr fa_rat0 rfl rfl (by decide) rfl) rfl) ?_
  refine RV.step1 (OpOk.plain (ok_loadf 0 fld_num rfl rfl (by decide) rfl rfl rfl rfl ty_int) rfl) ?_
  refine RV.step1 (OpOk.plain (ok_call (rMul_con _ _ (by omega) (by omega)) rfl rfl (by decide) Tryz.func27 rfl rfl (.cons rfl Conv.any (.cons rfl Conv.any .nil)) rfl) rfl) ?_
  refine RV.step1 (OpOk.plain (ok_load rfl rfl (by decide) rfl rfl rfl ty_rat) rfl) ?_
  refine RV.step1 (OpOk.plain (ok_call (rDen_con' _ _) rfl rfl (by decide) Tryz.func47 rfl rfl (.cons rfl Conv.any .nil) rfl) rfl) ?_
  refine RV.step1 (OpOk.plain (ok_load rfl rfl (by decide) rfl rfl rfl ty_rat) rfl) ?_
  refine RV.step1 (OpOk.plain (ok_call (rDen_con' _ _) rfl rfl (by decide) Tryz.func47 rfl rfl (.cons rfl Conv.any .nil) rfl) rfl) ?_
  refine RV.step1 (OpOk.plain (ok_call (rMul_con _ _ (by omega) (by omega)) rfl rfl (by decide) Tryz.func27 rfl rfl (.cons rfl Conv.any (.cons rfl Conv.any .nil)) rfl) rfl) ?_
  refine RV.step1 (OpOk.plain (ok_call (rMake_con _ _ _ _ (by omega) (by omega)) rfl rfl (by decide) Tryz.func46 rfl rfl (.cons rfl Conv.any (.cons rfl Conv.any .nil)) rfl) rfl) ?_
  refine RV.step1 (OpOk.plain (ok_store rfl rfl rfl rfl rfl rfl rfl (ty_rat).2 rfl rfl rfl) rfl) ?_
  refine RV.drawn (by kernel_rfl) ?_
  refine CV.ret ?_
  exact fin1 rfl (.inr rfl) ⟨_, _, _, _, _, rfl, rfl, rfl, ty_rat⟩ (is_rt (by rw [divInt_mul]) (by rw [divInt_mul]) (by omega))
set_option maxRecDepth 100000 in
theorem rfDiv_con (a b : Rat) (j k : Nat) (hj : j ≤ 1000000) (hk : k ≤ 1000000) : Con Tryz.prog 65 [RT a j, RT b k] (.one (RT (a / b) (3 * (j + k) + 20))) := by
  refine Con.of (n := 16) Tryz.func65 rfl rfl rfl rfl rfl fun cx => ?_
  refine CV.seq ?_
  refine CV.region rfl (fun h => nomatch h) ?_
  refine RV.step2 (OpOk.plain (ok_box (i := 0) rfl rfl (by decide) rfl rfl rfl rfl) rfl) ?_
  refine RV.step2 (OpOk.plain (ok_box (i := 1) rfl rfl (by decide) rfl rfl rfl rfl) rfl) ?_
  refine RV.step2 (OpOk.plain (ok_alloc (i := 2) rfl rfl (by decide) zero_rat rfl rfl rfl) rfl) ?_
  refine RV.done ?_
  refine CV.seq ?_
  refine CV.region rfl (fun _ => by kernel_rfl) ?_
  refine RV.step1 (OpOk.plain (ok_fieldAddr fa_rat0 rfl rfl (by decide) rfl) rfl) ?_
  refine RV.step1 (OpOk.plain (ok_loadf 0 fld_num rfl rfl (by decide) rfl rfl rfl rfl ty_int) rfl) ?_
  refine RV.step1 (OpOk.plain (ok_load rfl rfl (by decide) rfl rfl rfl ty_rat) rfl) ?_
  refine RV.step1 (OpOk.plain (ok_call (rDen_con' _ _) rfl rfl (by decide) Tryz.func47 rfl rfl (.cons rfl Conv.any .nil) rfl) rfl) ?_
  refine RV.step1 (OpOk.plain (ok_call (rMul_con _ _ (by omega) (by omega)) rfl rfl (by decide) Tryz.func27 rfl rfl (.cons rfl Conv.any (.cons rfl Conv.any .nil)) rfl) rfl) ?_
  refine RV.step1 (OpOk.plain (ok_load rfl rfl (by decide) rfl rfl rfl ty_rat) rfl) ?_
  refine RV.step1 (OpOk.plain (ok_call (rDen_con' _ _) rfl rfl (by decide) Tryz.func47 rfl rfl (.cons rfl Conv.any .nil) rfl) rfl) ?_
  refine RV.step1 (OpOk.plain (ok_fieldAddr fa_rat0 rfl rfl (by decide) rfl) rfl) ?_
  refine RV.step1 (OpOk.plain (ok_loadf 0 fld_num rfl rfl (by decide) rfl rfl rfl rfl ty_int) rfl) ?_
  refine RV.step1 (OpOk.plain (ok_call (rMul_con _ _ (by omega) (by omega)) rfl rfl (by decide) Tryz.func27 rfl rfl (.cons rfl Conv.any (.cons rfl Conv.any .nil)) rfl) rfl) ?_
  refine RV.step1 (OpOk.plain (ok_call (rMake_con _ _ _ _ (by omega) (by omega)) rfl rfl (by decide) Tryz.func46 rfl rfl (.cons rfl Conv.any (.cons rfl Conv.any .nil)) rfl) rfl) ?_
  refine RV.step1 (OpOk.plain (ok_store rfl rfl rfl rfl rfl rfl rfl (ty_rat).2 rfl rfl rfl) rfl) ?_
  refine RV.drawn (by kernel_rfl) ?_
  refine CV.ret ?_
  exact fin1 rfl (.inr rfl) ⟨_, _, _, _, _, rfl, rfl, rfl, ty_rat⟩ (is_rt (by rw [divInt_div]) (by rw [divInt_div]) (by omega))
set_option maxRecDepth 100000 in
theorem rfCompare_con (a b : Rat) (j k : Nat) (hj : j ≤ 10000000) (hk : k ≤ 10000000) : Con Tryz.prog 69 [RT a j, RT b k] (.one (.v (.int .i64 (cmpR a b)))) := by
  refine Con.of (n := 16) Tryz.func69 rfl rfl rfl rfl rfl fun cx => ?_
  refine CV.seq ?_
  refine CV.region rfl (fun h => nomatch h) ?_
  refine RV.step2 (OpOk.plain (ok_box (i := 0) rfl rfl (by decide) rfl rfl rfl rfl) rfl) ?_
  refine RV.step2 (OpOk.plain (ok_box (i := 1) rfl rfl (by decide) rfl rfl rfl rfl) rfl) ?_
  refine RV.step1 (OpOk.plain (ok_move (.inr rfl) rfl (by decide) rfl) rfl) ?_
  refine RV.done ?_
  refine CV.seq ?_
  refine CV.region rfl (fun _ => by kernel_rfl) ?_
  refine RV.step1 (OpOk.plain (ok_fieldAddr fa_rat0 rfl rfl (by decide) rfl) rfl) ?_
  refine RV.step1 (OpOk.plain (ok_loadf 0 fld_num rfl rfl (by decide) rfl rfl rfl rfl ty_int) rfl) ?_
  refine RV.step1 (OpOk.plain (ok_load rfl rfl (by decide) rfl rfl rfl ty_rat) rfl) ?_
  refine RV.step1 (OpOk.plain (ok_call (rDen_con' _ _) rfl rfl (by decide) Tryz.func47 rfl rfl (.cons rfl Conv.any .nil) rfl) rfl) ?_
  refine RV.step1 (OpOk.plain (ok_call (rMul_con _ _ (by omega) (by omega)) rfl rfl (by decide) Tryz.func27 rfl rfl (.cons rfl Conv.any (.cons rfl Conv.any .nil)) rfl) rfl) ?_
  refine RV.step1 (OpOk.plain (ok_fieldAddr fa_rat0 rfl rfl (by decide) rfl) rfl) ?_
  refine RV.step1 (OpOk.plain (ok_loadf 0 fld_num rfl rfl (by decide) rfl rfl rfl rfl ty_int) rfl) ?_
  refine RV.step1 (OpOk.plain (ok_load rfl rfl (by decide) rfl rfl rfl ty_rat) rfl) ?_
  refine RV.step1 (OpOk.plain (ok_call (rDen_con' _ _) rfl rfl (by decide) Tryz.func47 rfl rfl (.cons rfl Conv.any .nil) rfl) rfl) ?_
  refine RV.step1 (OpOk.plain (ok_call (rMul_con _ _ (by omega) (by omega)) rfl rfl (by decide) Tryz.func27 rfl rfl (.cons rfl Conv.any (.cons rfl Conv.any .nil)) rfl) rfl) ?_
  refine RV.step1 (OpOk.plain (ok_call (rCompare_con _ _) rfl rfl (by decide) Tryz.func84 rfl rfl (.cons rfl Conv.any (.cons rfl Conv.any .nil)) rfl) rfl) ?_
  refine RV.step1 (OpOk.plain (ok_move (.inr rfl) rfl (by decide) rfl) rfl) ?_
  refine RV.drawn (by kernel_rfl) ?_
  refine CV.ret ?_
  exact fin1 rfl (.inr rfl) rfl (is_num rfl)
set_option maxRecDepth 100000 in
theorem rSign_con (x : Int) (k : Nat) : Con Tryz.prog 124 [.d (Dm.int x k)] (.one (.v (.int .i64 (cmpI x 0)))) := by
  refine Con.of (n := 6) Tryz.func124 rfl rfl rfl rfl rfl fun cx => ?_
  refine CV.seq ?_
  refine CV.region rfl (fun h => nomatch h) ?_
  refine RV.step2 (OpOk.plain (ok_box (i := 0) rfl rfl (by decide) rfl rfl rfl rfl) rfl) ?_
  refine RV.step1 (OpOk.plain (ok_move (.inr rfl) rfl (by decide) rfl) rfl) ?_
  refine RV.done ?_
  refine CV.seq ?_
  refine CV.region rfl (fun h => nomatch h) ?_
  refine RV.step1 (OpOk.plain (ok_load rfl rfl (by decide) rfl rfl rfl ty_int) rfl) ?_
  refine RV.step1 (OpOk.plain (ok_buildI rfl rfl (by decide)) rfl) ?_
  refine RV.step1 (OpOk.plain (ok_call (rCompare_con _ _) rfl rfl (by decide) Tryz.func84 rfl rfl (.cons rfl Conv.any (.cons rfl Conv.any .nil)) rfl) rfl) ?_
  refine RV.step1 (OpOk.plain (ok_move (.inr rfl) rfl (by decide) rfl) rfl) ?_
  refine RV.done ?_
  refine CV.ret ?_
  exact fin1 rfl (.inr rfl) rfl (is_num rfl)
set_option maxRecDepth 100000 in
theorem rfSign_con (a : Rat) (k : Nat) : Con Tryz.prog 71 [RT a k] (.one (.v (.int .i64 (cmpI a.num 0)))) := by
  refine Con.of (n := 6) Tryz.func71 rfl rfl rfl rfl rfl fun cx => ?_
  refine CV.seq ?_
  refine CV.region rfl (fun h => nomatch h) ?_
  refine RV.step2 (OpOk.plain (ok_box (i := 0) rfl rfl (by decide) rfl rfl rfl rfl) rfl) ?_
  refine RV.step1 (OpOk.plain (ok_move (.inr rfl) rfl (by decide) rfl) rfl) ?_
  refine RV.done ?_
  refine CV.seq ?_
  refine CV.region rfl (fun h => nomatch h) ?_
  refine RV.step1 (OpOk.plain (ok_fieldAddr fa_rat0 rfl rfl (by decide) rfl) rfl) ?_
  refine RV.step1 (OpOk.plain (ok_loadf 0 fld_num rfl rfl (by decide) rfl rfl rfl rfl ty_int) rfl) ?_
  refine RV.step1 (OpOk.plain (ok_call (rSign_con _ _) rfl rfl (by decide) Tryz.func124 rfl rfl (.cons rfl Conv.any .nil) rfl) rfl) ?_
  refine RV.step1 (OpOk.plain (ok_move (.inr rfl) rfl (by decide) rfl) rfl) ?_
  refine RV.done ?_
  refine CV.ret ?_
  exact fin1 rfl (.inr rfl) rfl (is_num rfl)

set_option maxRecDepth 100000 in
theorem rsums_con (l m : List Int) (hlives : Con (D := Dm) Tryz.prog 56 [] (.one (.v (.bool true)))) : Con Tryz.prog 8 [.d (Dm.ints l), .d (Dm.ints m)] (.one (.v (.bool true))) := by
  refine Con.of (n := 89) Tryz.func8 rfl rfl rfl rfl rfl fun cx => ?_
  refine CV.seq ?_
  refine CV.region rfl (fun h => nomatch h) ?_
  refine RV.step1 (OpOk.plain (ok_move (.inr rfl) rfl (by decide) rfl) rfl) ?_
  refine RV.done ?_
  refine CV.seq ?_
  refine CV.region rfl (fun h => nomatch h) ?_
  refine RV.step1 (OpOk.plain (ok_move (.inl rfl) rfl (by decide) rfl) rfl) ?_
  refine RV.step1 (OpOk.plain (ok_call (NumberR_con _) rfl rfl (by decide) Tryz.func57 rfl rfl (.cons rfl Conv.any (.cons rfl Conv.any .nil)) rfl) rfl) ?_
  refine RV.step2 (OpOk.plain (ok_alloc (i := 0) rfl rfl (by decide) zero_rat rfl rfl rfl) rfl) ?_
  refine RV.step1 (OpOk.plain (ok_store rfl rfl rfl rfl rfl rfl rfl (ty_rat).2 rfl rfl rfl) rfl) ?_
  refine RV.done ?_
  refine CV.seq ?_
  refine CV.region rfl (fun h => nomatch h) ?_
  refine RV.step1 (OpOk.plain (ok_move (.inl rfl) rfl (by decide) rfl) rfl) ?_
  refine RV.step1 (OpOk.plain (ok_call (NumberR_con _) rfl rfl (by decide) Tryz.func57 rfl rfl (.cons rfl Conv.any (.cons rfl Conv.any .nil)) rfl) rfl) ?_
  refine RV.step2 (OpOk.plain (ok_alloc (i := 1) rfl rfl (by decide) zero_rat rfl rfl rfl) rfl) ?_
  refine RV.step1 (OpOk.plain (ok_store rfl rfl rfl rfl rfl rfl rfl (ty_rat).2 rfl rfl rfl) rfl) ?_
  refine RV.done ?_
  refine CV.seq ?_
  refine CV.region rfl (fun _ => by kernel_rfl) ?_
  refine RV.step1 (OpOk.plain (ok_load rfl rfl (by decide) rfl rfl rfl ty_rat) rfl) ?_
  refine RV.step1 (OpOk.plain (ok_load rfl rfl (by decide) rfl rfl rfl ty_rat) rfl) ?_
  refine RV.step1 (OpOk.plain (ok_call (RAdd_con _ _ _ _ (by decide) (by decide)) rfl rfl (by decide) Tryz.func58 rfl rfl (.cons rfl Conv.any (.cons rfl Conv.any .nil)) rfl) rfl) ?_
  refine RV.step1 (OpOk.plain (ok_load rfl rfl (by decide) rfl rfl rfl ty_rat) rfl) ?_
  refine RV.step1 (OpOk.plain (ok_load rfl rfl (by decide) rfl rfl rfl ty_rat) rfl) ?_
  refine RV.step1 (OpOk.plain (ok_call (rfAdd_con _ _ _ _ (by decide) (by decide)) rfl rfl (by decide) Tryz.func59 rfl rfl (.cons rfl Conv.any (.cons rfl Conv.any .nil)) rfl) rfl) ?_
  refine RV.step1 (OpOk.plain (ok_call (same5T_con rfl) rfl rfl (by decide) Tryz.func50 rfl rfl (.cons rfl Conv.any (.cons rfl Conv.any .nil)) rfl) rfl) ?_
  refine RV.step1 (OpOk.plain (ok_move (.inl rfl) rfl (by decide) rfl) rfl) ?_
  refine RV.step1 (OpOk.yes (ok_load rfl rfl (by decide) rfl rfl rfl ty_rat) rfl rfl rfl) ?_
  refine RV.step1 (OpOk.yes (ok_load rfl rfl (by decide) rfl rfl rfl ty_rat) rfl rfl rfl) ?_
  refine RV.step1 (OpOk.yes (ok_call (RSub_con _ _ _ _ (by decide) (by decide)) rfl rfl (by decide) Tryz.func60 rfl rfl (.cons rfl Conv.any (.cons rfl Conv.any .nil)) rfl) rfl rfl rfl) ?_
  refine RV.step1 (OpOk.yes (ok_load rfl rfl (by decide) rfl rfl rfl ty_rat) rfl rfl rfl) ?_
  refine RV.step1 (OpOk.yes (ok_load rfl rfl (by decide) rfl rfl rfl ty_rat) rfl rfl rfl) ?_
  refine RV.step1 (OpOk.yes (ok_call (rfSub_con _ _ _ _ (by decide) (by decide)) rfl rfl (by decide) Tryz.func61 rfl rfl (.cons rfl Conv.any (.cons rfl Conv.any .nil)) rfl) rfl rfl rfl) ?_
  refine RV.step1 (OpOk.yes (ok_call (same5T_con rfl) rfl rfl (by decide) Tryz.func50 rfl rfl (.cons rfl Conv.any (.cons rfl Conv.any .nil)) rfl) rfl rfl rfl) ?_
  refine RV.step1 (OpOk.plain (ok_pickT rfl rfl (by decide) rfl rfl rfl) rfl) ?_
  refine RV.step1 (OpOk.plain (ok_move (.inl rfl) rfl (by decide) rfl) rfl) ?_
  refine RV.step1 (OpOk.yes (ok_load rfl rfl (by decide) rfl rfl rfl ty_rat) rfl rfl rfl) ?_
  refine RV.step1 (OpOk.yes (ok_load rfl rfl (by decide) rfl rfl rfl ty_rat) rfl rfl rfl) ?_
  refine RV.step1 (OpOk.yes (ok_call (RMul_con _ _ _ _ (by decide) (by decide)) rfl rfl (by decide) Tryz.func62 rfl rfl (.cons rfl Conv.any (.cons rfl Conv.any .nil)) rfl) rfl rfl rfl) ?_
  refine RV.step1 (OpOk.yes (ok_load rfl rfl (by decide) rfl rfl rfl ty_rat) rfl rfl rfl) ?_
  refine RV.step1 (OpOk.yes (ok_load rfl rfl (by decide) rfl rfl rfl ty_rat) rfl rfl rfl) ?_
  refine RV.step1 (OpOk.yes (ok_call (rfMul_con _ _ _ _ (by decide) (by decide)) rfl rfl (by decide) Tryz.func63 rfl rfl (.cons rfl Conv.any (.cons rfl Conv.any .nil)) rfl) rfl rfl rfl) ?_
  refine RV.step1 (OpOk.yes (ok_call (same5T_con rfl) rfl rfl (by decide) Tryz.func50 rfl rfl (.cons rfl Conv.any (.cons rfl Conv.any .nil)) rfl) rfl rfl rfl) ?_
  refine RV.step1 (OpOk.plain (ok_pickT rfl rfl (by decide) rfl rfl rfl) rfl) ?_
  refine RV.step1 (OpOk.plain (ok_move (.inl rfl) rfl (by decide) rfl) rfl) ?_
  refine RV.step1 (OpOk.yes (ok_load rfl rfl (by decide) rfl rfl rfl ty_rat) rfl rfl rfl) ?_
  refine RV.step1 (OpOk.yes (ok_load rfl rfl (by decide) rfl rfl rfl ty_rat) rfl rfl rfl) ?_
  refine RV.step1 (OpOk.yes (ok_call (RDiv_con _ _ _ _ (by decide) (by decide)) rfl rfl (by decide) Tryz.func64 rfl rfl (.cons rfl Conv.any (.cons rfl Conv.any .nil)) rfl) rfl rfl rfl) ?_
  refine RV.step1 (OpOk.yes (ok_load rfl rfl (by decide) rfl rfl rfl ty_rat) rfl rfl rfl) ?_
  refine RV.step1 (OpOk.yes (ok_load rfl rfl (by decide) rfl rfl rfl ty_rat) rfl rfl rfl) ?_
  refine RV.step1 (OpOk.yes (ok_call (rfDiv_con _ _ _ _ (by decide) (by decide)) rfl rfl (by decide) Tryz.func65 rfl rfl (.cons rfl Conv.any (.cons rfl Conv.any .nil)) rfl) rfl rfl rfl) ?_
  refine RV.step1 (OpOk.yes (ok_call (same5T_con rfl) rfl rfl (by decide) Tryz.func50 rfl rfl (.cons rfl Conv.any (.cons rfl Conv.any .nil)) rfl) rfl rfl rfl) ?_
  refine RV.step1 (OpOk.plain (ok_pickT rfl rfl (by decide) rfl rfl rfl) rfl) ?_
  refine RV.step1 (OpOk.plain (ok_move (.inl rfl) rfl (by decide) rfl) rfl) ?_
  refine RV.step1 (OpOk.yes (ok_load rfl rfl (by decide) rfl rfl rfl ty_rat) rfl rfl rfl) ?_
  refine RV.step1 (OpOk.yes (ok_call (RNeg_con _ _) rfl rfl (by decide) Tryz.func66 rfl rfl (.cons rfl Conv.any .nil) rfl) rfl rfl rfl) ?_
  refine RV.step1 (OpOk.yes (ok_load rfl rfl (by decide) rfl rfl rfl ty_rat) rfl rfl rfl) ?_
  refine RV.step1 (OpOk.yes (ok_call (rfNeg_con _ _) rfl rfl (by decide) Tryz.func67 rfl rfl (.cons rfl Conv.any .nil) rfl) rfl rfl rfl) ?_
  refine RV.step1 (OpOk.yes (ok_call (same5T_con rfl) rfl rfl (by decide) Tryz.func50 rfl rfl (.cons rfl Conv.any (.cons rfl Conv.any .nil)) rfl) rfl rfl rfl) ?_
  refine RV.step1 (OpOk.plain (ok_pickT rfl rfl (by decide) rfl rfl rfl) rfl) ?_
  refine RV.step1 (OpOk.plain (ok_move (.inr rfl) rfl (by decide) rfl) rfl) ?_
  refine RV.drawn (by kernel_rfl) ?_
  refine CV.seq ?_
  refine CV.region rfl (fun _ => by kernel_rfl) ?_
  refine RV.step1 (OpOk.plain (ok_load rfl rfl (by decide) rfl rfl rfl ty_rat) rfl) ?_
  refine RV.step1 (OpOk.plain (ok_load rfl rfl (by decide) rfl rfl rfl ty_rat) rfl) ?_
  refine RV.step1 (OpOk.plain (ok_call (RCompare_con _ _ _ _ (by decide) (by decide)) rfl rfl (by decide) Tryz.func68 rfl rfl (.cons rfl Conv.any (.cons rfl Conv.any .nil)) rfl) rfl) ?_
  refine RV.step1 (OpOk.plain (ok_load rfl rfl (by decide) rfl rfl rfl ty_rat) rfl) ?_
  refine RV.step1 (OpOk.plain (ok_load rfl rfl (by decide) rfl rfl rfl ty_rat) rfl) ?_
  refine RV.step1 (OpOk.plain (ok_call (rfCompare_con _ _ _ _ (by decide) (by decide)) rfl rfl (by decide) Tryz.func69 rfl rfl (.cons rfl Conv.any (.cons rfl Conv.any .nil)) rfl) rfl) ?_
  refine RV.step1 (OpOk.plain (ok_eqlT rfl rfl rfl (by decide) rfl rfl) rfl) ?_
  refine RV.step1 (OpOk.plain (ok_move (.inl rfl) rfl (by decide) rfl) rfl) ?_
  refine RV.step1 (OpOk.yes (ok_load rfl rfl (by decide) rfl rfl rfl ty_rat) rfl rfl rfl) ?_
  refine RV.step1 (OpOk.yes (ok_call (RSign_con _ _) rfl rfl (by decide) Tryz.func70 rfl rfl (.cons rfl Conv.any .nil) rfl) rfl rfl rfl) ?_
  refine RV.step1 (OpOk.yes (ok_load rfl rfl (by decide) rfl rfl rfl ty_rat) rfl rfl rfl) ?_
  refine RV.step1 (OpOk.yes (ok_call (rfSign_con _ _) rfl rfl (by decide) Tryz.func71 rfl rfl (.cons rfl Conv.any .nil) rfl) rfl rfl rfl) ?_
  refine RV.step1 (OpOk.yes (ok_eqlT rfl rfl rfl (by decide) rfl rfl) rfl rfl rfl) ?_
  refine RV.step1 (OpOk.plain (ok_pickT rfl rfl (by decide) rfl rfl rfl) rfl) ?_
  refine RV.step1 (OpOk.plain (ok_move (.inl rfl) rfl (by decide) rfl) rfl) ?_
  refine RV.step1 (OpOk.yes (ok_load rfl rfl (by decide) rfl rfl rfl ty_rat) rfl rfl rfl) ?_
  refine RV.step1 (OpOk.yes (ok_load rfl rfl (by decide) rfl rfl rfl ty_rat) rfl rfl rfl) ?_
  refine RV.step1 (OpOk.yes (ok_call (RSame_con _ _ _ _) rfl rfl (by decide) Tryz.func72 rfl rfl (.cons rfl Conv.any (.cons rfl Conv.any .nil)) rfl) rfl rfl rfl) ?_
  refine RV.step1 (OpOk.yes (ok_load rfl rfl (by decide) rfl rfl rfl ty_rat) rfl rfl rfl) ?_
  refine RV.step1 (OpOk.yes (ok_load rfl rfl (by decide) rfl rfl rfl ty_rat) rfl rfl rfl) ?_
  refine RV.step1 (OpOk.yes (ok_call (rfSame_con _ _ _ _) rfl rfl (by decide) Tryz.func73 rfl rfl (.cons rfl Conv.any (.cons rfl Conv.any .nil)) rfl) rfl rfl rfl) ?_
  refine RV.step1 (OpOk.yes (ok_beqT rfl rfl rfl (by decide) rfl rfl) rfl rfl rfl) ?_
  refine RV.step1 (OpOk.plain (ok_pickT rfl rfl (by decide) rfl rfl rfl) rfl) ?_
  refine RV.step1 (OpOk.plain (ok_move (.inl rfl) rfl (by decide) rfl) rfl) ?_
  refine RV.step1 (OpOk.yes (ok_load rfl rfl (by decide) rfl rfl rfl ty_rat) rfl rfl rfl) ?_
  refine RV.step1 (OpOk.yes (ok_load rfl rfl (by decide) rfl rfl rfl ty_rat) rfl rfl rfl) ?_
  refine RV.step1 (OpOk.yes (ok_call (RSame_eq (z := true) (by simp)) rfl rfl (by decide) Tryz.func72 rfl rfl (.cons rfl Conv.any (.cons rfl Conv.any .nil)) rfl) rfl rfl rfl) ?_
  refine RV.step1 (OpOk.plain (ok_pickT rfl rfl (by decide) rfl rfl rfl) rfl) ?_
  refine RV.step1 (OpOk.plain (ok_move (.inr rfl) rfl (by decide) rfl) rfl) ?_
  refine RV.drawn (by kernel_rfl) ?_
  refine CV.seq ?_
  refine CV.region rfl (fun h => nomatch h) ?_
  refine RV.step1 (OpOk.plain (ok_move (.inl rfl) rfl (by decide) rfl) rfl) ?_
  refine RV.step1 (OpOk.plain (ok_move (.inl rfl) rfl (by decide) rfl) rfl) ?_
  refine RV.step1 (OpOk.yes (ok_move (.inl rfl) rfl (by decide) rfl) rfl rfl rfl) ?_
  refine RV.step1 (OpOk.plain (ok_pickT rfl rfl (by decide) rfl rfl rfl) rfl) ?_
  refine RV.step1 (OpOk.plain (ok_move (.inl rfl) rfl (by decide) rfl) rfl) ?_
  refine RV.step1 (OpOk.yes (ok_call (hlives) rfl rfl (by decide) Tryz.func56 rfl rfl .nil rfl) rfl rfl rfl) ?_
  refine RV.step1 (OpOk.plain (ok_pickT rfl rfl (by decide) rfl rfl rfl) rfl) ?_
  refine RV.step1 (OpOk.plain (ok_move (.inr rfl) rfl (by decide) rfl) rfl) ?_
  refine RV.done ?_
  refine CV.ret ?_
  exact fin1 rfl (.inr rfl) rfl is_rfl

set_option maxRecDepth 100000 in
theorem rorder_con (l m n : List Int) (hlives : Con (D := Dm) Tryz.prog 56 [] (.one (.v (.bool true)))) : Con Tryz.prog 13 [.d (Dm.ints l), .d (Dm.ints m), .d (Dm.ints n)] (.one (.v (.bool true))) := by
  have hF := round_facts (numR l) _ _ rfl rfl
  have hk := cmpR_bd (numR l) (numR m)
  refine Con.of (n := 140) Tryz.func13 rfl rfl rfl rfl rfl fun cx => ?_
  refine CV.seq ?_
  refine CV.region rfl (fun h => nomatch h) ?_
  refine RV.step1 (OpOk.plain (ok_move (.inr rfl) rfl (by decide) rfl) rfl) ?_
  refine RV.done ?_
  refine CV.seq ?_
  refine CV.region rfl (fun h => nomatch h) ?_
  refine RV.step1 (OpOk.plain (ok_move (.inl rfl) rfl (by decide) rfl) rfl) ?_
  refine RV.step1 (OpOk.plain (ok_call (NumberR_con _) rfl rfl (by decide) Tryz.func57 rfl rfl (.cons rfl Conv.any (.cons rfl Conv.any .nil)) rfl) rfl) ?_
  refine RV.step2 (OpOk.plain (ok_alloc (i := 0) rfl rfl (by decide) zero_rat rfl rfl rfl) rfl) ?_
  refine RV.step1 (OpOk.plain (ok_store rfl rfl rfl rfl rfl rfl rfl (ty_rat).2 rfl rfl rfl) rfl) ?_
  refine RV.done ?_
  refine CV.seq ?_
  refine CV.region rfl (fun h => nomatch h) ?_
  refine RV.step1 (OpOk.plain (ok_move (.inl rfl) rfl (by decide) rfl) rfl) ?_
  refine RV.step1 (OpOk.plain (ok_call (NumberR_con _) rfl rfl (by decide) Tryz.func57 rfl rfl (.cons rfl Conv.any (.cons rfl Conv.any .nil)) rfl) rfl) ?_
  refine RV.step2 (OpOk.plain (ok_alloc (i := 1) rfl rfl (by decide) zero_rat rfl rfl rfl) rfl) ?_
  refine RV.step1 (OpOk.plain (ok_store rfl rfl rfl rfl rfl rfl rfl (ty_rat).2 rfl rfl rfl) rfl) ?_
  refine RV.done ?_
  refine CV.seq ?_
  refine CV.region rfl (fun h => nomatch h) ?_
  refine RV.step1 (OpOk.plain (ok_move (.inl rfl) rfl (by decide) rfl) rfl) ?_
  refine RV.step1 (OpOk.plain (ok_call (NumberR_con _) rfl rfl (by decide) Tryz.func57 rfl rfl (.cons rfl Conv.any (.cons rfl Conv.any .nil)) rfl) rfl) ?_
  refine RV.step2 (OpOk.plain (ok_alloc (i := 2) rfl rfl (by decide) zero_rat rfl rfl rfl) rfl) ?_
  refine RV.step1 (OpOk.plain (ok_store rfl rfl rfl rfl rfl rfl rfl (ty_rat).2 rfl rfl rfl) rfl) ?_
  refine RV.done ?_
  refine CV.seq ?_
  refine CV.region rfl (fun h => nomatch h) ?_
  refine RV.step1 (OpOk.plain (ok_load rfl rfl (by decide) rfl rfl rfl ty_rat) rfl) ?_
  refine RV.step1 (OpOk.plain (ok_load rfl rfl (by decide) rfl rfl rfl ty_rat) rfl) ?_
  refine RV.step1 (OpOk.plain (ok_call (RCompare_con _ _ _ _ (by decide) (by decide)) rfl rfl (by decide) Tryz.func68 rfl rfl (.cons rfl Conv.any (.cons rfl Conv.any .nil)) rfl) rfl) ?_
  refine RV.step1 (OpOk.plain (ok_move (.inr rfl) rfl (by decide) rfl) rfl) ?_
  refine RV.done ?_
  refine CV.seq ?_
  refine CV.seq ?_
  refine CV.region rfl (fun _ => by kernel_rfl) ?_
  refine RV.step1 (OpOk.plain (ok_move (.inl rfl) rfl (by decide) rfl) rfl) ?_
  refine RV.step1 (OpOk.plain (ok_load rfl rfl (by decide) rfl rfl rfl ty_rat) rfl) ?_
  refine RV.step1 (OpOk.plain (ok_load rfl rfl (by decide) rfl rfl rfl ty_rat) rfl) ?_
  refine RV.step1 (OpOk.plain (ok_call (RSub_con _ _ _ _ (by decide) (by decide)) rfl rfl (by decide) Tryz.func60 rfl rfl (.cons rfl Conv.any (.cons rfl Conv.any .nil)) rfl) rfl) ?_
  refine RV.step1 (OpOk.plain (ok_call (RSign_eq (z := cmpR (numR l) (numR m)) (cmpR_sub _ _)) rfl rfl (by decide) Tryz.func70 rfl rfl (.cons rfl Conv.any .nil) rfl) rfl) ?_
  refine RV.step1 (OpOk.plain (ok_neqF rfl rfl rfl (by decide) rfl rfl) rfl) ?_
  refine RV.step1 (OpOk.plain (ok_move (.inl rfl) rfl (by decide) rfl) rfl) ?_
  refine RV.step1 (OpOk.yes (ok_move (.inl rfl) rfl (by decide) rfl) rfl rfl rfl) ?_
  refine RV.step1 (OpOk.yes (ok_load rfl rfl (by decide) rfl rfl rfl ty_rat) rfl rfl rfl) ?_
  refine RV.step1 (OpOk.yes (ok_load rfl rfl (by decide) rfl rfl rfl ty_rat) rfl rfl rfl) ?_
  refine RV.step1 (OpOk.yes (ok_call (RAdd_con _ _ _ _ (by decide) (by decide)) rfl rfl (by decide) Tryz.func58 rfl rfl (.cons rfl Conv.any (.cons rfl Conv.any .nil)) rfl) rfl rfl rfl) ?_
  refine RV.step1 (OpOk.yes (ok_load rfl rfl (by decide) rfl rfl rfl ty_rat) rfl rfl rfl) ?_
  refine RV.step1 (OpOk.yes (ok_load rfl rfl (by decide) rfl rfl rfl ty_rat) rfl rfl rfl) ?_
  refine RV.step1 (OpOk.yes (ok_call (RAdd_con _ _ _ _ (by decide) (by decide)) rfl rfl (by decide) Tryz.func58 rfl rfl (.cons rfl Conv.any (.cons rfl Conv.any .nil)) rfl) rfl rfl rfl) ?_
  refine RV.step1 (OpOk.yes (ok_call (RCompare_eq (z := cmpR (numR l) (numR m)) (cmpR_add _ _ _) (by decide) (by decide)) rfl rfl (by decide) Tryz.func68 rfl rfl (.cons rfl Conv.any (.cons rfl Conv.any .nil)) rfl) rfl rfl rfl) ?_
  refine RV.step1 (OpOk.yes (ok_neqF rfl rfl rfl (by decide) rfl rfl) rfl rfl rfl) ?_
  refine RV.step1 (OpOk.plain (ok_pickF rfl rfl (by decide) rfl rfl rfl) rfl) ?_
  refine RV.step1 (OpOk.plain (ok_move (.inl rfl) rfl (by decide) rfl) rfl) ?_
  refine RV.step1 (OpOk.yes (ok_move (.inl rfl) rfl (by decide) rfl) rfl rfl rfl) ?_
  refine RV.step1 (OpOk.yes (ok_load rfl rfl (by decide) rfl rfl rfl ty_rat) rfl rfl rfl) ?_
  refine RV.step1 (OpOk.yes (ok_load rfl rfl (by decide) rfl rfl rfl ty_rat) rfl rfl rfl) ?_
  refine RV.step1 (OpOk.yes (ok_call (RCompare_eq (z := -cmpR (numR l) (numR m)) (cmpR_swap _ _) (by decide) (by decide)) rfl rfl (by decide) Tryz.func68 rfl rfl (.cons rfl Conv.any (.cons rfl Conv.any .nil)) rfl) rfl rfl rfl) ?_
  refine RV.step1 (OpOk.yes (ok_neg (c := cmpR (numR l) (numR m)) (by rcases hk with h | h | h <;> rw [h] <;> decide) rfl rfl (by decide) rfl) rfl rfl rfl) ?_
  refine RV.step1 (OpOk.yes (ok_neqF rfl rfl rfl (by decide) rfl rfl) rfl rfl rfl) ?_
  refine RV.step1 (OpOk.plain (ok_pickF rfl rfl (by decide) rfl rfl rfl) rfl) ?_
  refine RV.step1 (OpOk.plain (ok_move (.inl rfl) rfl (by decide) rfl) rfl) ?_
  refine RV.step1 (OpOk.yes (ok_load rfl rfl (by decide) rfl rfl rfl ty_rat) rfl rfl rfl) ?_
  refine RV.step1 (OpOk.yes (ok_load rfl rfl (by decide) rfl rfl rfl ty_rat) rfl rfl rfl) ?_
  refine RV.step1 (OpOk.yes (ok_call (RSame_eq (cmpR_same _ _)) rfl rfl (by decide) Tryz.func72 rfl rfl (.cons rfl Conv.any (.cons rfl Conv.any .nil)) rfl) rfl rfl rfl) ?_
  refine RV.step1 (OpOk.yes (ok_move (.inl rfl) rfl (by decide) rfl) rfl rfl rfl) ?_
  refine RV.step1 (OpOk.yes (ok_eql rfl rfl (by decide) rfl rfl) rfl rfl rfl) ?_
  refine RV.step1 (OpOk.yes (ok_bneF rfl rfl rfl (by decide) rfl rfl) rfl rfl rfl) ?_
  refine RV.step1 (OpOk.plain (ok_pickF rfl rfl (by decide) rfl rfl rfl) rfl) ?_
  refine RV.drawn (by kernel_rfl) ?_
  refine CV.no rfl ?_
  refine CV.skip ?_
  refine CV.seq ?_
  refine CV.seq ?_
  refine CV.region rfl (fun _ => by kernel_rfl) ?_
  refine RV.step1 (OpOk.plain (ok_load rfl rfl (by decide) rfl rfl rfl ty_rat) rfl) ?_
  refine RV.step1 (OpOk.plain (ok_call (RSign_con _ _) rfl rfl (by decide) Tryz.func70 rfl rfl (.cons rfl Conv.any .nil) rfl) rfl) ?_
  refine RV.step1 (OpOk.plain (ok_gtr rfl rfl (by decide) rfl rfl) rfl) ?_
  refine RV.step1 (OpOk.plain (ok_move (.inl rfl) rfl (by decide) rfl) rfl) ?_
  refine RV.bool (fun h1 => ?_) (fun h1 => ?_)
  · refine RV.step1 (OpOk.yes (ok_move (.inl rfl) rfl (by decide) rfl) rfl rfl rfl) ?_
    refine RV.step1 (OpOk.yes (ok_load rfl rfl (by decide) rfl rfl rfl ty_rat) rfl rfl rfl) ?_
    refine RV.step1 (OpOk.yes (ok_load rfl rfl (by decide) rfl rfl rfl ty_rat) rfl rfl rfl) ?_
    refine RV.step1 (OpOk.yes (ok_call (RMul_con _ _ _ _ (by decide) (by decide)) rfl rfl (by decide) Tryz.func62 rfl rfl (.cons rfl Conv.any (.cons rfl Conv.any .nil)) rfl) rfl rfl rfl) ?_
    refine RV.step1 (OpOk.yes (ok_load rfl rfl (by decide) rfl rfl rfl ty_rat) rfl rfl rfl) ?_
    refine RV.step1 (OpOk.yes (ok_load rfl rfl (by decide) rfl rfl rfl ty_rat) rfl rfl rfl) ?_
    refine RV.step1 (OpOk.yes (ok_call (RMul_con _ _ _ _ (by decide) (by decide)) rfl rfl (by decide) Tryz.func62 rfl rfl (.cons rfl Conv.any (.cons rfl Conv.any .nil)) rfl) rfl rfl rfl) ?_
    refine RV.step1 (OpOk.yes (ok_call (RCompare_eq (z := cmpR (numR l) (numR m)) (cmpR_pos (by simpa using h1)) (by decide) (by decide)) rfl rfl (by decide) Tryz.func68 rfl rfl (.cons rfl Conv.any (.cons rfl Conv.any .nil)) rfl) rfl rfl rfl) ?_
    refine RV.step1 (OpOk.yes (ok_neqF rfl rfl rfl (by decide) rfl rfl) rfl rfl rfl) ?_
    refine RV.step1 (OpOk.plain (ok_pickT rfl rfl (by decide) rfl rfl rfl) rfl) ?_
    refine RV.step1 (OpOk.plain (ok_move (.inl rfl) rfl (by decide) rfl) rfl) ?_
    refine RV.step1 (OpOk.yes (ok_load rfl rfl (by decide) rfl rfl rfl ty_rat) rfl rfl rfl) ?_
    refine RV.step1 (OpOk.yes (ok_call (RSign_con _ _) rfl rfl (by decide) Tryz.func70 rfl rfl (.cons rfl Conv.any .nil) rfl) rfl rfl rfl) ?_
    refine RV.step1 (OpOk.yes (ok_lss rfl rfl (by decide) rfl rfl) rfl rfl rfl) ?_
    refine RV.step1 (OpOk.yes (ok_move (.inl rfl) rfl (by decide) rfl) rfl rfl rfl) ?_
    refine RV.bool (fun h2 => ?_) (fun h2 => ?_)
    · refine RV.step1 (OpOk.yes (ok_move (.inl rfl) rfl (by decide) rfl) rfl rfl rfl) ?_
      refine RV.step1 (OpOk.yes (ok_load rfl rfl (by decide) rfl rfl rfl ty_rat) rfl rfl rfl) ?_
      refine RV.step1 (OpOk.yes (ok_load rfl rfl (by decide) rfl rfl rfl ty_rat) rfl rfl rfl) ?_
      refine RV.step1 (OpOk.yes (ok_call (RMul_con _ _ _ _ (by decide) (by decide)) rfl rfl (by decide) Tryz.func62 rfl rfl (.cons rfl Conv.any (.cons rfl Conv.any .nil)) rfl) rfl rfl rfl) ?_
      refine RV.step1 (OpOk.yes (ok_load rfl rfl (by decide) rfl rfl rfl ty_rat) rfl rfl rfl) ?_
      refine RV.step1 (OpOk.yes (ok_load rfl rfl (by decide) rfl rfl rfl ty_rat) rfl rfl rfl) ?_
      refine RV.step1 (OpOk.yes (ok_call (RMul_con _ _ _ _ (by decide) (by decide)) rfl rfl (by decide) Tryz.func62 rfl rfl (.cons rfl Conv.any (.cons rfl Conv.any .nil)) rfl) rfl rfl rfl) ?_
      refine RV.step1 (OpOk.yes (ok_call (RCompare_eq (z := -cmpR (numR l) (numR m)) (cmpR_neg (by simpa using h2)) (by decide) (by decide)) rfl rfl (by decide) Tryz.func68 rfl rfl (.cons rfl Conv.any (.cons rfl Conv.any .nil)) rfl) rfl rfl rfl) ?_
      refine RV.step1 (OpOk.yes (ok_neg (c := cmpR (numR l) (numR m)) (by rcases hk with h | h | h <;> rw [h] <;> decide) rfl rfl (by decide) rfl) rfl rfl rfl) ?_
      refine RV.step1 (OpOk.yes (ok_neqF rfl rfl rfl (by decide) rfl rfl) rfl rfl rfl) ?_
      refine RV.step1 (OpOk.yes (ok_pickT rfl rfl (by decide) rfl rfl rfl) rfl rfl rfl) ?_
      refine RV.step1 (OpOk.plain (ok_pickF rfl rfl (by decide) rfl rfl rfl) rfl) ?_
      refine RV.drawn (by kernel_rfl) ?_
      refine CV.no rfl ?_
      refine CV.skip ?_
      refine CV.seq ?_
      refine CV.region rfl (fun h => nomatch h) ?_
      refine RV.step1 (OpOk.plain (ok_load rfl rfl (by decide) rfl rfl rfl ty_rat) rfl) ?_
      refine RV.step1 (OpOk.plain (ok_call (RFloor_con _ _ (by decide)) rfl rfl (by decide) Tryz.func76 rfl rfl (.cons rfl Conv.any .nil) rfl) rfl) ?_
      refine RV.step2 (OpOk.plain (ok_alloc (i := 3) rfl rfl (by decide) zero_int rfl rfl rfl) rfl) ?_
      refine RV.step1 (OpOk.plain (ok_store rfl rfl rfl rfl rfl rfl rfl (ty_int).2 rfl rfl rfl) rfl) ?_
      refine RV.done ?_
      refine CV.seq ?_
      refine CV.region rfl (fun h => nomatch h) ?_
      refine RV.step1 (OpOk.plain (ok_load rfl rfl (by decide) rfl rfl rfl ty_rat) rfl) ?_
      refine RV.step1 (OpOk.plain (ok_call (RCeil_con _ _ (by decide)) rfl rfl (by decide) Tryz.func78 rfl rfl (.cons rfl Conv.any .nil) rfl) rfl) ?_
      refine RV.step2 (OpOk.plain (ok_alloc (i := 4) rfl rfl (by decide) zero_int rfl rfl rfl) rfl) ?_
      refine RV.step1 (OpOk.plain (ok_store rfl rfl rfl rfl rfl rfl rfl (ty_int).2 rfl rfl rfl) rfl) ?_
      refine RV.done ?_
      refine CV.seq ?_
      refine CV.region rfl (fun h => nomatch h) ?_
      refine RV.step1 (OpOk.plain (ok_load rfl rfl (by decide) rfl rfl rfl ty_int) rfl) ?_
      refine RV.step1 (OpOk.plain (ok_load rfl rfl (by decide) rfl rfl rfl ty_int) rfl) ?_
      refine RV.step1 (OpOk.plain (ok_call (ISub_con _ _ (by decide) (by decide)) rfl rfl (by decide) Tryz.func93 rfl rfl (.cons rfl Conv.any (.cons rfl Conv.any .nil)) rfl) rfl) ?_
      refine RV.step1 (OpOk.plain (ok_call (Small_con (by omega) (by omega)) rfl rfl (by decide) Tryz.func22 rfl rfl (.cons rfl Conv.any .nil) rfl) rfl) ?_
      refine RV.step1 (OpOk.plain (ok_move (.inl rfl) rfl (by decide) rfl) rfl) ?_
      refine RV.step1 (OpOk.plain (ok_extract rfl rfl (by decide) rfl rfl) rfl) ?_
      refine RV.step1 (OpOk.plain (ok_extract rfl rfl (by decide) rfl rfl) rfl) ?_
      refine RV.step1 (OpOk.plain (ok_move (.inr rfl) rfl (by decide) rfl) rfl) ?_
      refine RV.step1 (OpOk.plain (ok_move (.inr rfl) rfl (by decide) rfl) rfl) ?_
      refine RV.done ?_
      refine CV.seq ?_
      refine CV.region rfl (fun _ => by kernel_rfl) ?_
      refine RV.step1 (OpOk.plain (ok_load rfl rfl (by decide) rfl rfl rfl ty_int) rfl) ?_
      refine RV.step1 (OpOk.plain (ok_call (Of_con 1 (by decide) (by decide)) rfl rfl (by decide) Tryz.func24 rfl rfl (.cons rfl Conv.any .nil) rfl) rfl) ?_
      refine RV.step1 (OpOk.plain (ok_call (RMake_con _ _ _ _ (by decide) (by decide)) rfl rfl (by decide) Tryz.func51 rfl rfl (.cons rfl Conv.any (.cons rfl Conv.any .nil)) rfl) rfl) ?_
      refine RV.step1 (OpOk.plain (ok_load rfl rfl (by decide) rfl rfl rfl ty_rat) rfl) ?_
      refine RV.step1 (OpOk.plain (ok_call (RCompare_con _ _ _ _ (by decide) (by decide)) rfl rfl (by decide) Tryz.func68 rfl rfl (.cons rfl Conv.any (.cons rfl Conv.any .nil)) rfl) rfl) ?_
      refine RV.step1 (OpOk.plain (ok_eql rfl rfl (by decide) rfl rfl) rfl) ?_
      refine RV.step1 (OpOk.plain (ok_move (.inr rfl) rfl (by decide) rfl) rfl) ?_
      refine RV.drawn (by kernel_rfl) ?_
      refine CV.seq ?_
      refine CV.region rfl (fun _ => by kernel_rfl) ?_
      refine RV.step1 (OpOk.plain (ok_move (.inl rfl) rfl (by decide) rfl) rfl) ?_
      refine RV.step1 (OpOk.plain (ok_move (.inl rfl) rfl (by decide) rfl) rfl) ?_
      refine RV.step1 (OpOk.yes (ok_move (.inl rfl) rfl (by decide) rfl) rfl rfl rfl) ?_
      refine RV.step1 (OpOk.yes (ok_eql rfl rfl (by decide) rfl rfl) rfl rfl rfl) ?_
      refine RV.step1 (OpOk.yes (ok_move (.inl rfl) rfl (by decide) rfl) rfl rfl rfl) ?_
      refine RV.step1 (OpOk.yes (ok_beqT hF.2.1 rfl rfl (by decide) rfl rfl) rfl rfl rfl) ?_
      refine RV.step1 (OpOk.plain (ok_pickT rfl rfl (by decide) rfl rfl rfl) rfl) ?_
      refine RV.step1 (OpOk.plain (ok_move (.inl rfl) rfl (by decide) rfl) rfl) ?_
      refine RV.step1 (OpOk.yes (ok_move (.inl rfl) rfl (by decide) rfl) rfl rfl rfl) ?_
      refine RV.step1 (OpOk.yes (ok_geqT (by omega) rfl rfl (by decide) rfl rfl) rfl rfl rfl) ?_
      refine RV.step1 (OpOk.plain (ok_pickT rfl rfl (by decide) rfl rfl rfl) rfl) ?_
      refine RV.step1 (OpOk.plain (ok_move (.inl rfl) rfl (by decide) rfl) rfl) ?_
      refine RV.step1 (OpOk.yes (ok_move (.inl rfl) rfl (by decide) rfl) rfl rfl rfl) ?_
      refine RV.step1 (OpOk.yes (ok_leqT (by omega) rfl rfl (by decide) rfl rfl) rfl rfl rfl) ?_
      refine RV.step1 (OpOk.plain (ok_pickT rfl rfl (by decide) rfl rfl rfl) rfl) ?_
      refine RV.step1 (OpOk.plain (ok_move (.inl rfl) rfl (by decide) rfl) rfl) ?_
      refine RV.step1 (OpOk.yes (ok_load rfl rfl (by decide) rfl rfl rfl ty_int) rfl rfl rfl) ?_
      refine RV.step1 (OpOk.yes (ok_call (Of_con 1 (by decide) (by decide)) rfl rfl (by decide) Tryz.func24 rfl rfl (.cons rfl Conv.any .nil) rfl) rfl rfl rfl) ?_
      refine RV.step1 (OpOk.yes (ok_call (RMake_con _ _ _ _ (by decide) (by decide)) rfl rfl (by decide) Tryz.func51 rfl rfl (.cons rfl Conv.any (.cons rfl Conv.any .nil)) rfl) rfl rfl rfl) ?_
      refine RV.step1 (OpOk.yes (ok_load rfl rfl (by decide) rfl rfl rfl ty_rat) rfl rfl rfl) ?_
      refine RV.step1 (OpOk.yes (ok_call (RCompare_con _ _ _ _ (by decide) (by decide)) rfl rfl (by decide) Tryz.func68 rfl rfl (.cons rfl Conv.any (.cons rfl Conv.any .nil)) rfl) rfl rfl rfl) ?_
      refine RV.step1 (OpOk.yes (ok_leqT hF.2.2.1 rfl rfl (by decide) rfl rfl) rfl rfl rfl) ?_
      refine RV.step1 (OpOk.plain (ok_pickT rfl rfl (by decide) rfl rfl rfl) rfl) ?_
      refine RV.step1 (OpOk.plain (ok_move (.inl rfl) rfl (by decide) rfl) rfl) ?_
      refine RV.step1 (OpOk.yes (ok_load rfl rfl (by decide) rfl rfl rfl ty_int) rfl rfl rfl) ?_
      refine RV.step1 (OpOk.yes (ok_call (Of_con 1 (by decide) (by decide)) rfl rfl (by decide) Tryz.func24 rfl rfl (.cons rfl Conv.any .nil) rfl) rfl rfl rfl) ?_
      refine RV.step1 (OpOk.yes (ok_call (RMake_con _ _ _ _ (by decide) (by decide)) rfl rfl (by decide) Tryz.func51 rfl rfl (.cons rfl Conv.any (.cons rfl Conv.any .nil)) rfl) rfl rfl rfl) ?_
      refine RV.step1 (OpOk.yes (ok_load rfl rfl (by decide) rfl rfl rfl ty_rat) rfl rfl rfl) ?_
      refine RV.step1 (OpOk.yes (ok_call (RCompare_con _ _ _ _ (by decide) (by decide)) rfl rfl (by decide) Tryz.func68 rfl rfl (.cons rfl Conv.any (.cons rfl Conv.any .nil)) rfl) rfl rfl rfl) ?_
      refine RV.step1 (OpOk.yes (ok_geqT hF.2.2.2 rfl rfl (by decide) rfl rfl) rfl rfl rfl) ?_
      refine RV.step1 (OpOk.plain (ok_pickT rfl rfl (by decide) rfl rfl rfl) rfl) ?_
      refine RV.step1 (OpOk.plain (ok_move (.inl rfl) rfl (by decide) rfl) rfl) ?_
      refine RV.step1 (OpOk.yes (ok_call (hlives) rfl rfl (by decide) Tryz.func56 rfl rfl .nil rfl) rfl rfl rfl) ?_
      refine RV.step1 (OpOk.plain (ok_pickT rfl rfl (by decide) rfl rfl rfl) rfl) ?_
      refine RV.step1 (OpOk.plain (ok_move (.inr rfl) rfl (by decide) rfl) rfl) ?_
      refine RV.drawn (by kernel_rfl) ?_
      refine CV.ret ?_
      exact fin1 rfl (.inr rfl) rfl is_rfl
    · refine RV.step1 (OpOk.skip rfl rfl rfl rfl rfl (by decide)) ?_
      refine RV.step1 (OpOk.skip rfl rfl rfl rfl rfl (by decide)) ?_
      refine RV.step1 (OpOk.skip rfl rfl rfl rfl rfl (by decide)) ?_
      refine RV.step1 (OpOk.skip rfl rfl rfl rfl rfl (by decide)) ?_
      refine RV.step1 (OpOk.skip rfl rfl rfl rfl rfl (by decide)) ?_
      refine RV.step1 (OpOk.skip rfl rfl rfl rfl rfl (by decide)) ?_
      refine RV.step1 (OpOk.skip rfl rfl rfl rfl rfl (by decide)) ?_
      refine RV.step1 (OpOk.skip rfl rfl rfl rfl rfl (by decide)) ?_
      refine RV.step1 (OpOk.skip rfl rfl rfl rfl rfl (by decide)) ?_
      refine RV.step1 (OpOk.skip rfl rfl rfl rfl rfl (by decide)) ?_
      refine RV.step1 (OpOk.yes (ok_pickF rfl rfl (by decide) rfl rfl rfl) rfl rfl rfl) ?_
      refine RV.step1 (OpOk.plain (ok_pickF rfl rfl (by decide) rfl rfl rfl) rfl) ?_
      refine RV.drawn (by kernel_rfl) ?_
      refine CV.no rfl ?_
      refine CV.skip ?_
      refine CV.seq ?_
      refine CV.region rfl (fun h => nomatch h) ?_
      refine RV.step1 (OpOk.plain (ok_load rfl rfl (by decide) rfl rfl rfl ty_rat) rfl) ?_
      refine RV.step1 (OpOk.plain (ok_call (RFloor_con _ _ (by decide)) rfl rfl (by decide) Tryz.func76 rfl rfl (.cons rfl Conv.any .nil) rfl) rfl) ?_
      refine RV.step2 (OpOk.plain (ok_alloc (i := 3) rfl rfl (by decide) zero_int rfl rfl rfl) rfl) ?_
      refine RV.step1 (OpOk.plain (ok_store rfl rfl rfl rfl rfl rfl rfl (ty_int).2 rfl rfl rfl) rfl) ?_
      refine RV.done ?_
      refine CV.seq ?_
      refine CV.region rfl (fun h => nomatch h) ?_
      refine RV.step1 (OpOk.plain (ok_load rfl rfl (by decide) rfl rfl rfl ty_rat) rfl) ?_
      refine RV.step1 (OpOk.plain (ok_call (RCeil_con _ _ (by decide)) rfl rfl (by decide) Tryz.func78 rfl rfl (.cons rfl Conv.any .nil) rfl) rfl) ?_
      refine RV.step2 (OpOk.plain (ok_alloc (i := 4) rfl rfl (by decide) zero_int rfl rfl rfl) rfl) ?_
      refine RV.step1 (OpOk.plain (ok_store rfl rfl rfl rfl rfl rfl rfl (ty_int).2 rfl rfl rfl) rfl) ?_
      refine RV.done ?_
      refine CV.seq ?_
      refine CV.region rfl (fun h => nomatch h) ?_
      refine RV.step1 (OpOk.plain (ok_load rfl rfl (by decide) rfl rfl rfl ty_int) rfl) ?_
      refine RV.step1 (OpOk.plain (ok_load rfl rfl (by decide) rfl rfl rfl ty_int) rfl) ?_
      refine RV.step1 (OpOk.plain (ok_call (ISub_con _ _ (by decide) (by decide)) rfl rfl (by decide) Tryz.func93 rfl rfl (.cons rfl Conv.any (.cons rfl Conv.any .nil)) rfl) rfl) ?_
      refine RV.step1 (OpOk.plain (ok_call (Small_con (by omega) (by omega)) rfl rfl (by decide) Tryz.func22 rfl rfl (.cons rfl Conv.any .nil) rfl) rfl) ?_
      refine RV.step1 (OpOk.plain (ok_move (.inl rfl) rfl (by decide) rfl) rfl) ?_
      refine RV.step1 (OpOk.plain (ok_extract rfl rfl (by decide) rfl rfl) rfl) ?_
      refine RV.step1 (OpOk.plain (ok_extract rfl rfl (by decide) rfl rfl) rfl) ?_
      refine RV.step1 (OpOk.plain (ok_move (.inr rfl) rfl (by decide) rfl) rfl) ?_
      refine RV.step1 (OpOk.plain (ok_move (.inr rfl) rfl (by decide) rfl) rfl) ?_
      refine RV.done ?_
      refine CV.seq ?_
      refine CV.region rfl (fun _ => by kernel_rfl) ?_
      refine RV.step1 (OpOk.plain (ok_load rfl rfl (by decide) rfl rfl rfl ty_int) rfl) ?_
      refine RV.step1 (OpOk.plain (ok_call (Of_con 1 (by decide) (by decide)) rfl rfl (by decide) Tryz.func24 rfl rfl (.cons rfl Conv.any .nil) rfl) rfl) ?_
      refine RV.step1 (OpOk.plain (ok_call (RMake_con _ _ _ _ (by decide) (by decide)) rfl rfl (by decide) Tryz.func51 rfl rfl (.cons rfl Conv.any (.cons rfl Conv.any .nil)) rfl) rfl) ?_
      refine RV.step1 (OpOk.plain (ok_load rfl rfl (by decide) rfl rfl rfl ty_rat) rfl) ?_
      refine RV.step1 (OpOk.plain (ok_call (RCompare_con _ _ _ _ (by decide) (by decide)) rfl rfl (by decide) Tryz.func68 rfl rfl (.cons rfl Conv.any (.cons rfl Conv.any .nil)) rfl) rfl) ?_
      refine RV.step1 (OpOk.plain (ok_eql rfl rfl (by decide) rfl rfl) rfl) ?_
      refine RV.step1 (OpOk.plain (ok_move (.inr rfl) rfl (by decide) rfl) rfl) ?_
      refine RV.drawn (by kernel_rfl) ?_
      refine CV.seq ?_
      refine CV.region rfl (fun _ => by kernel_rfl) ?_
      refine RV.step1 (OpOk.plain (ok_move (.inl rfl) rfl (by decide) rfl) rfl) ?_
      refine RV.step1 (OpOk.plain (ok_move (.inl rfl) rfl (by decide) rfl) rfl) ?_
      refine RV.step1 (OpOk.yes (ok_move (.inl rfl) rfl (by decide) rfl) rfl rfl rfl) ?_
      refine RV.step1 (OpOk.yes (ok_eql rfl rfl (by decide) rfl rfl) rfl rfl rfl) ?_
      refine RV.step1 (OpOk.yes (ok_move (.inl rfl) rfl (by decide) rfl) rfl rfl rfl) ?_
      refine RV.step1 (OpOk.yes (ok_beqT hF.2.1 rfl rfl (by decide) rfl rfl) rfl rfl rfl) ?_
      refine RV.step1 (OpOk.plain (ok_pickT rfl rfl (by decide) rfl rfl rfl) rfl) ?_
      refine RV.step1 (OpOk.plain (ok_move (.inl rfl) rfl (by decide) rfl) rfl) ?_
      refine RV.step1 (OpOk.yes (ok_move (.inl rfl) rfl (by decide) rfl) rfl rfl rfl) ?_
      refine RV.step1 (OpOk.yes (ok_geqT (by omega) rfl rfl (by decide) rfl rfl) rfl rfl rfl) ?_
      refine RV.step1 (OpOk.plain (ok_pickT rfl rfl (by decide) rfl rfl rfl) rfl) ?_
      refine RV.step1 (OpOk.plain (ok_move (.inl rfl) rfl (by decide) rfl) rfl) ?_
      refine RV.step1 (OpOk.yes (ok_move (.inl rfl) rfl (by decide) rfl) rfl rfl rfl) ?_
      refine RV.step1 (OpOk.yes (ok_leqT (by omega) rfl rfl (by decide) rfl rfl) rfl rfl rfl) ?_
      refine RV.step1 (OpOk.plain (ok_pickT rfl rfl (by decide) rfl rfl rfl) rfl) ?_
      refine RV.step1 (OpOk.plain (ok_move (.inl rfl) rfl (by decide) rfl) rfl) ?_
      refine RV.step1 (OpOk.yes (ok_load rfl rfl (by decide) rfl rfl rfl ty_int) rfl rfl rfl) ?_
      refine RV.step1 (OpOk.yes (ok_call (Of_con 1 (by decide) (by decide)) rfl rfl (by decide) Tryz.func24 rfl rfl (.cons rfl Conv.any .nil) rfl) rfl rfl rfl) ?_
      refine RV.step1 (OpOk.yes (ok_call (RMake_con _ _ _ _ (by decide) (by decide)) rfl rfl (by decide) Tryz.func51 rfl rfl (.cons rfl Conv.any (.cons rfl Conv.any .nil)) rfl) rfl rfl rfl) ?_
      refine RV.step1 (OpOk.yes (ok_load rfl rfl (by decide) rfl rfl rfl ty_rat) rfl rfl rfl) ?_
      refine RV.step1 (OpOk.yes (ok_call (RCompare_con _ _ _ _ (by decide) (by decide)) rfl rfl (by decide) Tryz.func68 rfl rfl (.cons rfl Conv.any (.cons rfl Conv.any .nil)) rfl) rfl rfl rfl) ?_
      refine RV.step1 (OpOk.yes (ok_leqT hF.2.2.1 rfl rfl (by decide) rfl rfl) rfl rfl rfl) ?_
      refine RV.step1 (OpOk.plain (ok_pickT rfl rfl (by decide) rfl rfl rfl) rfl) ?_
      refine RV.step1 (OpOk.plain (ok_move (.inl rfl) rfl (by decide) rfl) rfl) ?_
      refine RV.step1 (OpOk.yes (ok_load rfl rfl (by decide) rfl rfl rfl ty_int) rfl rfl rfl) ?_
      refine RV.step1 (OpOk.yes (ok_call (Of_con 1 (by decide) (by decide)) rfl rfl (by decide) Tryz.func24 rfl rfl (.cons rfl Conv.any .nil) rfl) rfl rfl rfl) ?_
      refine RV.step1 (OpOk.yes (ok_call (RMake_con _ _ _ _ (by decide) (by decide)) rfl rfl (by decide) Tryz.func51 rfl rfl (.cons rfl Conv.any (.cons rfl Conv.any .nil)) rfl) rfl rfl rfl) ?_
      refine RV.step1 (OpOk.yes (ok_load rfl rfl (by decide) rfl rfl rfl ty_rat) rfl rfl rfl) ?_
      refine RV.step1 (OpOk.yes (ok_call (RCompare_con _ _ _ _ (by decide) (by decide)) rfl rfl (by decide) Tryz.func68 rfl rfl (.cons rfl Conv.any (.cons rfl Conv.any .nil)) rfl) rfl rfl rfl) ?_
      refine RV.step1 (OpOk.yes (ok_geqT hF.2.2.2 rfl rfl (by decide) rfl rfl) rfl rfl rfl) ?_
      refine RV.step1 (OpOk.plain (ok_pickT rfl rfl (by decide) rfl rfl rfl) rfl) ?_
      refine RV.step1 (OpOk.plain (ok_move (.inl rfl) rfl (by decide) rfl) rfl) ?_
      refine RV.step1 (OpOk.yes (ok_call (hlives) rfl rfl (by decide) Tryz.func56 rfl rfl .nil rfl) rfl rfl rfl) ?_
      refine RV.step1 (OpOk.plain (ok_pickT rfl rfl (by decide) rfl rfl rfl) rfl) ?_
      refine RV.step1 (OpOk.plain (ok_move (.inr rfl) rfl (by decide) rfl) rfl) ?_
      refine RV.drawn (by kernel_rfl) ?_
      refine CV.ret ?_
      exact fin1 rfl (.inr rfl) rfl is_rfl
  · refine RV.step1 (OpOk.skip rfl rfl rfl rfl rfl (by decide)) ?_
    refine RV.step1 (OpOk.skip rfl rfl rfl rfl rfl (by decide)) ?_
    refine RV.step1 (OpOk.skip rfl rfl rfl rfl rfl (by decide)) ?_
    refine RV.step1 (OpOk.skip rfl rfl rfl rfl rfl (by decide)) ?_
    refine RV.step1 (OpOk.skip rfl rfl rfl rfl rfl (by decide)) ?_
    refine RV.step1 (OpOk.skip rfl rfl rfl rfl rfl (by decide)) ?_
    refine RV.step1 (OpOk.skip rfl rfl rfl rfl rfl (by decide)) ?_
    refine RV.step1 (OpOk.skip rfl rfl rfl rfl rfl (by decide)) ?_
    refine RV.step1 (OpOk.skip rfl rfl rfl rfl rfl (by decide)) ?_
    refine RV.step1 (OpOk.plain (ok_pickF rfl rfl (by decide) rfl rfl rfl) rfl) ?_
    refine RV.step1 (OpOk.plain (ok_move (.inl rfl) rfl (by decide) rfl) rfl) ?_
    refine RV.step1 (OpOk.yes (ok_load rfl rfl (by decide) rfl rfl rfl ty_rat) rfl rfl rfl) ?_
    refine RV.step1 (OpOk.yes (ok_call (RSign_con _ _) rfl rfl (by decide) Tryz.func70 rfl rfl (.cons rfl Conv.any .nil) rfl) rfl rfl rfl) ?_
    refine RV.step1 (OpOk.yes (ok_lss rfl rfl (by decide) rfl rfl) rfl rfl rfl) ?_
    refine RV.step1 (OpOk.yes (ok_move (.inl rfl) rfl (by decide) rfl) rfl rfl rfl) ?_
    refine RV.bool (fun h2 => ?_) (fun h2 => ?_)
    · refine RV.step1 (OpOk.yes (ok_move (.inl rfl) rfl (by decide) rfl) rfl rfl rfl) ?_
      refine RV.step1 (OpOk.yes (ok_load rfl rfl (by decide) rfl rfl rfl ty_rat) rfl rfl rfl) ?_
      refine RV.step1 (OpOk.yes (ok_load rfl rfl (by decide) rfl rfl rfl ty_rat) rfl rfl rfl) ?_
      refine RV.step1 (OpOk.yes (ok_call (RMul_con _ _ _ _ (by decide) (by decide)) rfl rfl (by decide) Tryz.func62 rfl rfl (.cons rfl Conv.any (.cons rfl Conv.any .nil)) rfl) rfl rfl rfl) ?_
      refine RV.step1 (OpOk.yes (ok_load rfl rfl (by decide) rfl rfl rfl ty_rat) rfl rfl rfl) ?_
      refine RV.step1 (OpOk.yes (ok_load rfl rfl (by decide) rfl rfl rfl ty_rat) rfl rfl rfl) ?_
      refine RV.step1 (OpOk.yes (ok_call (RMul_con _ _ _ _ (by decide) (by decide)) rfl rfl (by decide) Tryz.func62 rfl rfl (.cons rfl Conv.any (.cons rfl Conv.any .nil)) rfl) rfl rfl rfl) ?_
      refine RV.step1 (OpOk.yes (ok_call (RCompare_eq (z := -cmpR (numR l) (numR m)) (cmpR_neg (by simpa using h2)) (by decide) (by decide)) rfl rfl (by decide) Tryz.func68 rfl rfl (.cons rfl Conv.any (.cons rfl Conv.any .nil)) rfl) rfl rfl rfl) ?_
      refine RV.step1 (OpOk.yes (ok_neg (c := cmpR (numR l) (numR m)) (by rcases hk with h | h | h <;> rw [h] <;> decide) rfl rfl (by decide) rfl) rfl rfl rfl) ?_
      refine RV.step1 (OpOk.yes (ok_neqF rfl rfl rfl (by decide) rfl rfl) rfl rfl rfl) ?_
      refine RV.step1 (OpOk.yes (ok_pickT rfl rfl (by decide) rfl rfl rfl) rfl rfl rfl) ?_
      refine RV.step1 (OpOk.plain (ok_pickF rfl rfl (by decide) rfl rfl rfl) rfl) ?_
      refine RV.drawn (by kernel_rfl) ?_
      refine CV.no rfl ?_
      refine CV.skip ?_
      refine CV.seq ?_
      refine CV.region rfl (fun h => nomatch h) ?_
      refine RV.step1 (OpOk.plain (ok_load rfl rfl (by decide) rfl rfl rfl ty_rat) rfl) ?_
      refine RV.step1 (OpOk.plain (ok_call (RFloor_con _ _ (by decide)) rfl rfl (by decide) Tryz.func76 rfl rfl (.cons rfl Conv.any .nil) rfl) rfl) ?_
      refine RV.step2 (OpOk.plain (ok_alloc (i := 3) rfl rfl (by decide) zero_int rfl rfl rfl) rfl) ?_
      refine RV.step1 (OpOk.plain (ok_store rfl rfl rfl rfl rfl rfl rfl (ty_int).2 rfl rfl rfl) rfl) ?_
      refine RV.done ?_
      refine CV.seq ?_
      refine CV.region rfl (fun h => nomatch h) ?_
      refine RV.step1 (OpOk.plain (ok_load rfl rfl (by decide) rfl rfl rfl ty_rat) rfl) ?_
      refine RV.step1 (OpOk.plain (ok_call (RCeil_con _ _ (by decide)) rfl rfl (by decide) Tryz.func78 rfl rfl (.cons rfl Conv.any .nil) rfl) rfl) ?_
      refine RV.step2 (OpOk.plain (ok_alloc (i := 4) rfl rfl (by decide) zero_int rfl rfl rfl) rfl) ?_
      refine RV.step1 (OpOk.plain (ok_store rfl rfl rfl rfl rfl rfl rfl (ty_int).2 rfl rfl rfl) rfl) ?_
      refine RV.done ?_
      refine CV.seq ?_
      refine CV.region rfl (fun h => nomatch h) ?_
      refine RV.step1 (OpOk.plain (ok_load rfl rfl (by decide) rfl rfl rfl ty_int) rfl) ?_
      refine RV.step1 (OpOk.plain (ok_load rfl rfl (by decide) rfl rfl rfl ty_int) rfl) ?_
      refine RV.step1 (OpOk.plain (ok_call (ISub_con _ _ (by decide) (by decide)) rfl rfl (by decide) Tryz.func93 rfl rfl (.cons rfl Conv.any (.cons rfl Conv.any .nil)) rfl) rfl) ?_
      refine RV.step1 (OpOk.plain (ok_call (Small_con (by omega) (by omega)) rfl rfl (by decide) Tryz.func22 rfl rfl (.cons rfl Conv.any .nil) rfl) rfl) ?_
      refine RV.step1 (OpOk.plain (ok_move (.inl rfl) rfl (by decide) rfl) rfl) ?_
      refine RV.step1 (OpOk.plain (ok_extract rfl rfl (by decide) rfl rfl) rfl) ?_
      refine RV.step1 (OpOk.plain (ok_extract rfl rfl (by decide) rfl rfl) rfl) ?_
      refine RV.step1 (OpOk.plain (ok_move (.inr rfl) rfl (by decide) rfl) rfl) ?_
      refine RV.step1 (OpOk.plain (ok_move (.inr rfl) rfl (by decide) rfl) rfl) ?_
      refine RV.done ?_
      refine CV.seq ?_
      refine CV.region rfl (fun _ => by kernel_rfl) ?_
      refine RV.step1 (OpOk.plain (ok_load rfl rfl (by decide) rfl rfl rfl ty_int) rfl) ?_
      refine RV.step1 (OpOk.plain (ok_call (Of_con 1 (by decide) (by decide)) rfl rfl (by decide) Tryz.func24 rfl rfl (.cons rfl Conv.any .nil) rfl) rfl) ?_
      refine RV.step1 (OpOk.plain (ok_call (RMake_con _ _ _ _ (by decide) (by decide)) rfl rfl (by decide) Tryz.func51 rfl rfl (.cons rfl Conv.any (.cons rfl Conv.any .nil)) rfl) rfl) ?_
      refine RV.step1 (OpOk.plain (ok_load rfl rfl (by decide) rfl rfl rfl ty_rat) rfl) ?_
      refine RV.step1 (OpOk.plain (ok_call (RCompare_con _ _ _ _ (by decide) (by decide)) rfl rfl (by decide) Tryz.func68 rfl rfl (.cons rfl Conv.any (.cons rfl Conv.any .nil)) rfl) rfl) ?_
      refine RV.step1 (OpOk.plain (ok_eql rfl rfl (by decide) rfl rfl) rfl) ?_
      refine RV.step1 (OpOk.plain (ok_move (.inr rfl) rfl (by decide) rfl) rfl) ?_
      refine RV.drawn (by kernel_rfl) ?_
      refine CV.seq ?_
      refine CV.region rfl (fun _ => by kernel_rfl) ?_
      refine RV.step1 (OpOk.plain (ok_move (.inl rfl) rfl (by decide) rfl) rfl) ?_
      refine RV.step1 (OpOk.plain (ok_move (.inl rfl) rfl (by decide) rfl) rfl) ?_
      refine RV.step1 (OpOk.yes (ok_move (.inl rfl) rfl (by decide) rfl) rfl rfl rfl) ?_
      refine RV.step1 (OpOk.yes (ok_eql rfl rfl (by decide) rfl rfl) rfl rfl rfl) ?_
      refine RV.step1 (OpOk.yes (ok_move (.inl rfl) rfl (by decide) rfl) rfl rfl rfl) ?_
      refine RV.step1 (OpOk.yes (ok_beqT hF.2.1 rfl rfl (by decide) rfl rfl) rfl rfl rfl) ?_
      refine RV.step1 (OpOk.plain (ok_pickT rfl rfl (by decide) rfl rfl rfl) rfl) ?_
      refine RV.step1 (OpOk.plain (ok_move (.inl rfl) rfl (by decide) rfl) rfl) ?_
      refine RV.step1 (OpOk.yes (ok_move (.inl rfl) rfl (by decide) rfl) rfl rfl rfl) ?_
      refine RV.step1 (OpOk.yes (ok_geqT (by omega) rfl rfl (by decide) rfl rfl) rfl rfl rfl) ?_
      refine RV.step1 (OpOk.plain (ok_pickT rfl rfl (by decide) rfl rfl rfl) rfl) ?_
      refine RV.step1 (OpOk.plain (ok_move (.inl rfl) rfl (by decide) rfl) rfl) ?_
      refine RV.step1 (OpOk.yes (ok_move (.inl rfl) rfl (by decide) rfl) rfl rfl rfl) ?_
      refine RV.step1 (OpOk.yes (ok_leqT (by omega) rfl rfl (by decide) rfl rfl) rfl rfl rfl) ?_
      refine RV.step1 (OpOk.plain (ok_pickT rfl rfl (by decide) rfl rfl rfl) rfl) ?_
      refine RV.step1 (OpOk.plain (ok_move (.inl rfl) rfl (by decide) rfl) rfl) ?_
      refine RV.step1 (OpOk.yes (ok_load rfl rfl (by decide) rfl rfl rfl ty_int) rfl rfl rfl) ?_
      refine RV.step1 (OpOk.yes (ok_call (Of_con 1 (by decide) (by decide)) rfl rfl (by decide) Tryz.func24 rfl rfl (.cons rfl Conv.any .nil) rfl) rfl rfl rfl) ?_
      refine RV.step1 (OpOk.yes (ok_call (RMake_con _ _ _ _ (by decide) (by decide)) rfl rfl (by decide) Tryz.func51 rfl rfl (.cons rfl Conv.any (.cons rfl Conv.any .nil)) rfl) rfl rfl rfl) ?_
      refine RV.step1 (OpOk.yes (ok_load rfl rfl (by decide) rfl rfl rfl ty_rat) rfl rfl rfl) ?_
      refine RV.step1 (OpOk.yes (ok_call (RCompare_con _ _ _ _ (by decide) (by decide)) rfl rfl (by decide) Tryz.func68 rfl rfl (.cons rfl Conv.any (.cons rfl Conv.any .nil)) rfl) rfl rfl rfl) ?_
      refine RV.step1 (OpOk.yes (ok_leqT hF.2.2.1 rfl rfl (by decide) rfl rfl) rfl rfl rfl) ?_
      refine RV.step1 (OpOk.plain (ok_pickT rfl rfl (by decide) rfl rfl rfl) rfl) ?_
      refine RV.step1 (OpOk.plain (ok_move (.inl rfl) rfl (by decide) rfl) rfl) ?_
      refine RV.step1 (OpOk.yes (ok_load rfl rfl (by decide) rfl rfl rfl ty_int) rfl rfl rfl) ?_
      refine RV.step1 (OpOk.yes (ok_call (Of_con 1 (by decide) (by decide)) rfl rfl (by decide) Tryz.func24 rfl rfl (.cons rfl Conv.any .nil) rfl) rfl rfl rfl) ?_
      refine RV.step1 (OpOk.yes (ok_call (RMake_con _ _ _ _ (by decide) (by decide)) rfl rfl (by decide) Tryz.func51 rfl rfl (.cons rfl Conv.any (.cons rfl Conv.any .nil)) rfl) rfl rfl rfl) ?_
      refine RV.step1 (OpOk.yes (ok_load rfl rfl (by decide) rfl rfl rfl ty_rat) rfl rfl rfl) ?_
      refine RV.step1 (OpOk.yes (ok_call (RCompare_con _ _ _ _ (by decide) (by decide)) rfl rfl (by decide) Tryz.func68 rfl rfl (.cons rfl Conv.any (.cons rfl Conv.any .nil)) rfl) rfl rfl rfl) ?_
      refine RV.step1 (OpOk.yes (ok_geqT hF.2.2.2 rfl rfl (by decide) rfl rfl) rfl rfl rfl) ?_
      refine RV.step1 (OpOk.plain (ok_pickT rfl rfl (by decide) rfl rfl rfl) rfl) ?_
      refine RV.step1 (OpOk.plain (ok_move (.inl rfl) rfl (by decide) rfl) rfl) ?_
      refine RV.step1 (OpOk.yes (ok_call (hlives) rfl rfl (by decide) Tryz.func56 rfl rfl .nil rfl) rfl rfl rfl) ?_
      refine RV.step1 (OpOk.plain (ok_pickT rfl rfl (by decide) rfl rfl rfl) rfl) ?_
      refine RV.step1 (OpOk.plain (ok_move (.inr rfl) rfl (by decide) rfl) rfl) ?_
      refine RV.drawn (by kernel_rfl) ?_
      refine CV.ret ?_
      exact fin1 rfl (.inr rfl) rfl is_rfl
    · refine RV.step1 (OpOk.skip rfl rfl rfl rfl rfl (by decide)) ?_
      refine RV.step1 (OpOk.skip rfl rfl rfl rfl rfl (by decide)) ?_
      refine RV.step1 (OpOk.skip rfl rfl rfl rfl rfl (by decide)) ?_
      refine RV.step1 (OpOk.skip rfl rfl rfl rfl rfl (by decide)) ?_
      refine RV.step1 (OpOk.skip rfl rfl rfl rfl rfl (by decide)) ?_
      refine RV.step1 (OpOk.skip rfl rfl rfl rfl rfl (by decide)) ?_
      refine RV.step1 (OpOk.skip rfl rfl rfl rfl rfl (by decide)) ?_
      refine RV.step1 (OpOk.skip rfl rfl rfl rfl rfl (by decide)) ?_
      refine RV.step1 (OpOk.skip rfl rfl rfl rfl rfl (by decide)) ?_
      refine RV.step1 (OpOk.skip rfl rfl rfl rfl rfl (by decide)) ?_
      refine RV.step1 (OpOk.yes (ok_pickF rfl rfl (by decide) rfl rfl rfl) rfl rfl rfl) ?_
      refine RV.step1 (OpOk.plain (ok_pickF rfl rfl (by decide) rfl rfl rfl) rfl) ?_
      refine RV.drawn (by kernel_rfl) ?_
      refine CV.no rfl ?_
      refine CV.skip ?_
      refine CV.seq ?_
      refine CV.region rfl (fun h => nomatch h) ?_
      refine RV.step1 (OpOk.plain (ok_load rfl rfl (by decide) rfl rfl rfl ty_rat) rfl) ?_
      refine RV.step1 (OpOk.plain (ok_call (RFloor_con _ _ (by decide)) rfl rfl (by decide) Tryz.func76 rfl rfl (.cons rfl Conv.any .nil) rfl) rfl) ?_
      refine RV.step2 (OpOk.plain (ok_alloc (i := 3) rfl rfl (by decide) zero_int rfl rfl rfl) rfl) ?_
      refine RV.step1 (OpOk.plain (ok_store rfl rfl rfl rfl rfl rfl rfl (ty_int).2 rfl rfl rfl) rfl) ?_
      refine RV.done ?_
      refine CV.seq ?_
      refine CV.region rfl (fun h => nomatch h) ?_
      refine RV.step1 (OpOk.plain (ok_load rfl rfl (by decide) rfl rfl rfl ty_rat) rfl) ?_
      refine RV.step1 (OpOk.plain (ok_call (RCeil_con _ _ (by decide)) rfl rfl (by decide) Tryz.func78 rfl rfl (.cons rfl Conv.any .nil) rfl) rfl) ?_
      refine RV.step2 (OpOk.plain (ok_alloc (i := 4) rfl rfl (by decide) zero_int rfl rfl rfl) rfl) ?_
      refine RV.step1 (OpOk.plain (ok_store rfl rfl rfl rfl rfl rfl rfl (ty_int).2 rfl rfl rfl) rfl) ?_
      refine RV.done ?_
      refine CV.seq ?_
      refine CV.region rfl (fun h => nomatch h) ?_
      refine RV.step1 (OpOk.plain (ok_load rfl rfl (by decide) rfl rfl rfl ty_int) rfl) ?_
      refine RV.step1 (OpOk.plain (ok_load rfl rfl (by decide) rfl rfl rfl ty_int) rfl) ?_
      refine RV.step1 (OpOk.plain (ok_call (ISub_con _ _ (by decide) (by decide)) rfl rfl (by decide) Tryz.func93 rfl rfl (.cons rfl Conv.any (.cons rfl Conv.any .nil)) rfl) rfl) ?_
      refine RV.step1 (OpOk.plain (ok_call (Small_con (by omega) (by omega)) rfl rfl (by decide) Tryz.func22 rfl rfl (.cons rfl Conv.any .nil) rfl) rfl) ?_
      refine RV.step1 (OpOk.plain (ok_move (.inl rfl) rfl (by decide) rfl) rfl) ?_
      refine RV.step1 (OpOk.plain (ok_extract rfl rfl (by decide) rfl rfl) rfl) ?_
      refine RV.step1 (OpOk.plain (ok_extract rfl rfl (by decide) rfl rfl) rfl) ?_
      refine RV.step1 (OpOk.plain (ok_move (.inr rfl) rfl (by decide) rfl) rfl) ?_
      refine RV.step1 (OpOk.plain (ok_move (.inr rfl) rfl (by decide) rfl) rfl) ?_
      refine RV.done ?_
      refine CV.seq ?_
      refine CV.region rfl (fun _ => by kernel_rfl) ?_
      refine RV.step1 (OpOk.plain (ok_load rfl rfl (by decide) rfl rfl rfl ty_int) rfl) ?_
      refine RV.step1 (OpOk.plain (ok_call (Of_con 1 (by decide) (by decide)) rfl rfl (by decide) Tryz.func24 rfl rfl (.cons rfl Conv.any .nil) rfl) rfl) ?_
      refine RV.step1 (OpOk.plain (ok_call (RMake_con _ _ _ _ (by decide) (by decide)) rfl rfl (by decide) Tryz.func51 rfl rfl (.cons rfl Conv.any (.cons rfl Conv.any .nil)) rfl) rfl) ?_
      refine RV.step1 (OpOk.plain (ok_load rfl rfl (by decide) rfl rfl rfl ty_rat) rfl) ?_
      refine RV.step1 (OpOk.plain (ok_call (RCompare_con _ _ _ _ (by decide) (by decide)) rfl rfl (by decide) Tryz.func68 rfl rfl (.cons rfl Conv.any (.cons rfl Conv.any .nil)) rfl) rfl) ?_
      refine RV.step1 (OpOk.plain (ok_eql rfl rfl (by decide) rfl rfl) rfl) ?_
      refine RV.step1 (OpOk.plain (ok_move (.inr rfl) rfl (by decide) rfl) rfl) ?_
      refine RV.drawn (by kernel_rfl) ?_
      refine CV.seq ?_
      refine CV.region rfl (fun _ => by kernel_rfl) ?_
      refine RV.step1 (OpOk.plain (ok_move (.inl rfl) rfl (by decide) rfl) rfl) ?_
      refine RV.step1 (OpOk.plain (ok_move (.inl rfl) rfl (by decide) rfl) rfl) ?_
      refine RV.step1 (OpOk.yes (ok_move (.inl rfl) rfl (by decide) rfl) rfl rfl rfl) ?_
      refine RV.step1 (OpOk.yes (ok_eql rfl rfl (by decide) rfl rfl) rfl rfl rfl) ?_
      refine RV.step1 (OpOk.yes (ok_move (.inl rfl) rfl (by decide) rfl) rfl rfl rfl) ?_
      refine RV.step1 (OpOk.yes (ok_beqT hF.2.1 rfl rfl (by decide) rfl rfl) rfl rfl rfl) ?_
      refine RV.step1 (OpOk.plain (ok_pickT rfl rfl (by decide) rfl rfl rfl) rfl) ?_
      refine RV.step1 (OpOk.plain (ok_move (.inl rfl) rfl (by decide) rfl) rfl) ?_
      refine RV.step1 (OpOk.yes (ok_move (.inl rfl) rfl (by decide) rfl) rfl rfl rfl) ?_
      refine RV.step1 (OpOk.yes (ok_geqT (by omega) rfl rfl (by decide) rfl rfl) rfl rfl rfl) ?_
      refine RV.step1 (OpOk.plain (ok_pickT rfl rfl (by decide) rfl rfl rfl) rfl) ?_
      refine RV.step1 (OpOk.plain (ok_move (.inl rfl) rfl (by decide) rfl) rfl) ?_
      refine RV.step1 (OpOk.yes (ok_move (.inl rfl) rfl (by decide) rfl) rfl rfl rfl) ?_
      refine RV.step1 (OpOk.yes (ok_leqT (by omega) rfl rfl (by decide) rfl rfl) rfl rfl rfl) ?_
      refine RV.step1 (OpOk.plain (ok_pickT rfl rfl (by decide) rfl rfl rfl) rfl) ?_
      refine RV.step1 (OpOk.plain (ok_move (.inl rfl) rfl (by decide) rfl) rfl) ?_
      refine RV.step1 (OpOk.yes (ok_load rfl rfl (by decide) rfl rfl rfl ty_int) rfl rfl rfl) ?_
      refine RV.step1 (OpOk.yes (ok_call (Of_con 1 (by decide) (by decide)) rfl rfl (by decide) Tryz.func24 rfl rfl (.cons rfl Conv.any .nil) rfl) rfl rfl rfl) ?_
      refine RV.step1 (OpOk.yes (ok_call (RMake_con _ _ _ _ (by decide) (by decide)) rfl rfl (by decide) Tryz.func51 rfl rfl (.cons rfl Conv.any (.cons rfl Conv.any .nil)) rfl) rfl rfl rfl) ?_
      refine RV.step1 (OpOk.yes (ok_load rfl rfl (by decide) rfl rfl rfl ty_rat) rfl rfl rfl) ?_
      refine RV.step1 (OpOk.yes (ok_call (RCompare_con _ _ _ _ (by decide) (by decide)) rfl rfl (by decide) Tryz.func68 rfl rfl (.cons rfl Conv.any (.cons rfl Conv.any .nil)) rfl) rfl rfl rfl) ?_
      refine RV.step1 (OpOk.yes (ok_leqT hF.2.2.1 rfl rfl (by decide) rfl rfl) rfl rfl rfl) ?_
      refine RV.step1 (OpOk.plain (ok_pickT rfl rfl (by decide) rfl rfl rfl) rfl) ?_
      refine RV.step1 (OpOk.plain (ok_move (.inl rfl) rfl (by decide) rfl) rfl) ?_
      refine RV.step1 (OpOk.yes (ok_load rfl rfl (by decide) rfl rfl rfl ty_int) rfl rfl rfl) ?_
      refine RV.step1 (OpOk.yes (ok_call (Of_con 1 (by decide) (by decide)) rfl rfl (by decide) Tryz.func24 rfl rfl (.cons rfl Conv.any .nil) rfl) rfl rfl rfl) ?_
      refine RV.step1 (OpOk.yes (ok_call (RMake_con _ _ _ _ (by decide) (by decide)) rfl rfl (by decide) Tryz.func51 rfl rfl (.cons rfl Conv.any (.cons rfl Conv.any .nil)) rfl) rfl rfl rfl) ?_
      refine RV.step1 (OpOk.yes (ok_load rfl rfl (by decide) rfl rfl rfl ty_rat) rfl rfl rfl) ?_
      refine RV.step1 (OpOk.yes (ok_call (RCompare_con _ _ _ _ (by decide) (by decide)) rfl rfl (by decide) Tryz.func68 rfl rfl (.cons rfl Conv.any (.cons rfl Conv.any .nil)) rfl) rfl rfl rfl) ?_
      refine RV.step1 (OpOk.yes (ok_geqT hF.2.2.2 rfl rfl (by decide) rfl rfl) rfl rfl rfl) ?_
      refine RV.step1 (OpOk.plain (ok_pickT rfl rfl (by decide) rfl rfl rfl) rfl) ?_
      refine RV.step1 (OpOk.plain (ok_move (.inl rfl) rfl (by decide) rfl) rfl) ?_
      refine RV.step1 (OpOk.yes (ok_call (hlives) rfl rfl (by decide) Tryz.func56 rfl rfl .nil rfl) rfl rfl rfl) ?_
      refine RV.step1 (OpOk.plain (ok_pickT rfl rfl (by decide) rfl rfl rfl) rfl) ?_
      refine RV.step1 (OpOk.plain (ok_move (.inr rfl) rfl (by decide) rfl) rfl) ?_
      refine RV.drawn (by kernel_rfl) ?_
      refine CV.ret ?_
      exact fin1 rfl (.inr rfl) rfl is_rfl

end Vc
end Go.Proofs.YtabjodomigllhaaGreatDoor
