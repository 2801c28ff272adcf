/-
  IntegerQuotients: its walk.
-/
import Derived.Test.YtabjodomigllhaaGreatDoorJC34
import Derived.IntWalk
namespace Go.Proofs.YtabjodomigllhaaGreatDoor
open Go.RowKit
open Go.Lib (hid)
open Dg Zn
namespace Vc

theorem wrapI {z : Int} (h1 : -9223372036854775808 ≤ z) (h2 : z ≤ 9223372036854775807) : IntKind.i64.wrap z = z := IntWalk.i64_in _ (by omega)

set_option maxRecDepth 100000 in
theorem rDiv0_con (x : Int) (j k : Nat) : Con Tryz.prog 29 [.d (Dm.int x j), .d (Dm.int 0 k)] (.tup [.d (Dm.int 0 j), .d (Dm.int 0 k)]) := by
  refine Con.of (n := 58) Tryz.func29 rfl rfl rfl rfl rfl fun cx => ?_
  refine CV.seq ?_
  refine CV.region rfl (fun h => nomatch h) ?_
  refine RV.step2 (OpOk.plain (ok_box (i := 0) rfl rfl (by decide) rfl rfl rfl rfl) rfl) ?_
  refine RV.step2 (OpOk.plain (ok_box (i := 1) rfl rfl (by decide) rfl rfl rfl rfl) rfl) ?_
  refine RV.step2 (OpOk.plain (ok_alloc (i := 2) rfl rfl (by decide) zero_int rfl rfl rfl) rfl) ?_
  refine RV.step2 (OpOk.plain (ok_alloc (i := 3) rfl rfl (by decide) zero_int rfl rfl rfl) rfl) ?_
  refine RV.done ?_
  refine CV.seq ?_
  refine CV.seq ?_
  refine CV.region rfl (fun h => nomatch h) ?_
  refine RV.step1 (OpOk.plain (ok_fieldAddr fa_int1 rfl rfl (by decide) rfl) rfl) ?_
  refine RV.step1 (OpOk.plain (ok_loadf 1 fld_dig rfl rfl (by decide) rfl rfl rfl rfl ty_ints) rfl) ?_
  refine RV.step1 (OpOk.plain (ok_len rfl rfl (by decide) rfl) rfl) ?_
  refine RV.step1 (OpOk.plain (ok_eql rfl rfl (by decide) rfl rfl) rfl) ?_
  refine RV.done ?_
  refine CV.cond rfl (fun hc => ?_) (fun hc => False.elim (by rw [dig_len_zero] at hc; simp at hc))
  refine CV.seq ?_
  refine CV.region rfl (fun h => nomatch h) ?_
  refine RV.step1 (OpOk.plain (ok_buildI rfl rfl (by decide)) rfl) ?_
  refine RV.step1 (OpOk.plain (ok_buildI rfl rfl (by decide)) rfl) ?_
  refine RV.step1 (OpOk.plain (ok_store rfl rfl rfl rfl rfl rfl rfl (ty_int).2 rfl rfl rfl) rfl) ?_
  refine RV.step1 (OpOk.plain (ok_store rfl rfl rfl rfl rfl rfl rfl (ty_int).2 rfl rfl rfl) rfl) ?_
  refine RV.done ?_
  refine CV.ret ?_
  exact fin2 rfl (.inr rfl) ⟨_, _, _, _, _, rfl, rfl, rfl, ty_int⟩ ⟨_, _, _, _, _, rfl, rfl, rfl, ty_int⟩ (is_int2 rfl (Nat.zero_le _) rfl (Nat.zero_le _))

theorem rDiv_con (x y : Int) {j k : Nat} (hj : j ≤ 1000000000) (hk : k ≤ 1000000000) : Con Tryz.prog 29 [.d (Dm.int x j), .d (Dm.int y k)] (.tup [.d (Dm.int (x / y) j), .d (Dm.int (if y = 0 then 0 else x % y) k)]) := by
  by_cases hy : y = 0
  · subst hy
    rw [if_pos rfl, Int.ediv_zero]
    exact rDiv0_con x j k
  · refine con_pair (fun vx vy w h1 h2 l1 l2 => ?_) fun l1 l2 => ⟨Nat.le_trans (len_mono (natAbs_div_le x y)) l1, ?_⟩
    · rw [if_neg hy]
      exact refDiv_any vx vy x y w h1 h2 hy (by omega) (by omega)
    · rw [if_neg hy]
      refine Nat.le_trans (len_mono ?_) l2
      have h1 := Int.emod_nonneg x hy
      have h2 := Int.emod_lt x hy
      omega

set_option maxRecDepth 100000 in
theorem quotients_con (l m : List Int) (k : Int) (hk1 : -9223372036854775808 ≤ k) (hk2 : k ≤ 9223372036854775807) : Con Tryz.prog 4 [.d (Dm.ints l), .d (Dm.ints m), .v (.int .i64 k)] (.one (.v (.bool true))) := by
  have hA := aroundI_bd k 5 (by decide)
  obtain ⟨ll, hll⟩ : ∃ ll, ll = [[numI l 0, numI m 0], [numI m 0, numI l 0], [numI l 0 * numI m 0 + (aroundI k 5 - 2), numI m 0], [numI l 0 * numI m 0 + (aroundI k 5 - 2), numI l 0], [numI l 0, 0], [numI l 0 * numI m 0 + (aroundI k 5 - 2), numI m 0 * numI m 0]] := ⟨_, rfl⟩
  have hl6 : ll.length = 6 := by rw [hll]; rfl
  have hl2 : ∀ i, i < ll.length → (ll.getD i []).length = 2 := by intro i hi; rw [hl6] at hi; rw [hll]; match i, hi with | 0, _ => rfl | 1, _ => rfl | 2, _ => rfl | 3, _ => rfl | 4, _ => rfl | 5, _ => rfl
  refine Con.of (n := 128) Tryz.func4 rfl rfl rfl rfl rfl fun cx => ?_
  refine CV.seq ?_
  refine CV.region rfl (fun h => nomatch h) ?_
  refine RV.step1 (OpOk.plain (ok_move (.inr rfl) rfl (by decide) rfl) rfl) ?_
  refine RV.done ?_
  refine CV.seq ?_
  refine CV.region rfl (fun h => nomatch h) ?_
  refine RV.step1 (OpOk.plain (ok_move (.inl rfl) rfl (by decide) rfl) rfl) ?_
  refine RV.step1 (OpOk.plain (ok_call (Number_con _ 0 (by decide)) rfl rfl (by decide) Tryz.func14 rfl rfl (.cons rfl Conv.any (.cons rfl Conv.any .nil)) rfl) rfl) ?_
  refine RV.step2 (OpOk.plain (ok_alloc (i := 0) rfl rfl (by decide) zero_int rfl rfl rfl) rfl) ?_
  refine RV.step1 (OpOk.plain (ok_store rfl rfl rfl rfl rfl rfl rfl (ty_int).2 rfl rfl rfl) rfl) ?_
  refine RV.done ?_
  refine CV.seq ?_
  refine CV.region rfl (fun h => nomatch h) ?_
  refine RV.step1 (OpOk.plain (ok_move (.inl rfl) rfl (by decide) rfl) rfl) ?_
  refine RV.step1 (OpOk.plain (ok_call (Number_con _ 0 (by decide)) rfl rfl (by decide) Tryz.func14 rfl rfl (.cons rfl Conv.any (.cons rfl Conv.any .nil)) rfl) rfl) ?_
  refine RV.step2 (OpOk.plain (ok_alloc (i := 1) rfl rfl (by decide) zero_int rfl rfl rfl) rfl) ?_
  refine RV.step1 (OpOk.plain (ok_store rfl rfl rfl rfl rfl rfl rfl (ty_int).2 rfl rfl rfl) rfl) ?_
  refine RV.done ?_
  refine CV.seq ?_
  refine CV.region rfl (fun h => nomatch h) ?_
  refine RV.step1 (OpOk.plain (ok_load rfl rfl (by decide) rfl rfl rfl ty_int) rfl) ?_
  refine RV.step1 (OpOk.plain (ok_load rfl rfl (by decide) rfl rfl rfl ty_int) rfl) ?_
  refine RV.step1 (OpOk.plain (ok_call (rMul_con _ _ (by omega) (by omega)) rfl rfl (by decide) Tryz.func27 rfl rfl (.cons rfl Conv.any (.cons rfl Conv.any .nil)) rfl) rfl) ?_
  refine RV.step1 (OpOk.plain (ok_move (.inl rfl) rfl (by decide) rfl) rfl) ?_
  refine RV.step1 (OpOk.plain (ok_call (Around_con k 5 hk1 hk2 (by decide) (by decide)) rfl rfl (by decide) Tryz.func16 rfl rfl (.cons rfl Conv.any (.cons rfl Conv.any .nil)) rfl) rfl) ?_
  refine RV.step1 (OpOk.plain (ok_sub (c := aroundI k 5 - 2) (wrapI (by omega) (by omega)) rfl rfl (by decide) rfl rfl) rfl) ?_
  refine RV.step1 (OpOk.plain (ok_call (rOf_con _ (by omega) (by omega)) rfl rfl (by decide) Tryz.func17 rfl rfl (.cons rfl Conv.any .nil) rfl) rfl) ?_
  refine RV.step1 (OpOk.plain (ok_call (rAdd_con _ _ (by omega) (by omega)) rfl rfl (by decide) Tryz.func18 rfl rfl (.cons rfl Conv.any (.cons rfl Conv.any .nil)) rfl) rfl) ?_
  refine RV.step2 (OpOk.plain (ok_alloc (i := 2) rfl rfl (by decide) zero_int rfl rfl rfl) rfl) ?_
  refine RV.step1 (OpOk.plain (ok_store rfl rfl rfl rfl rfl rfl rfl (ty_int).2 rfl rfl rfl) rfl) ?_
  refine RV.done ?_
  refine CV.seq ?_
  refine CV.region rfl (fun _ => by kernel_rfl) ?_
  refine RV.step1 (OpOk.plain (ok_load rfl rfl (by decide) rfl rfl rfl ty_int) rfl) ?_
  refine RV.step1 (OpOk.plain (ok_load rfl rfl (by decide) rfl rfl rfl ty_int) rfl) ?_
  refine RV.step1 (OpOk.plain (ok_blint (xs := [.tmp 28, .tmp 29]) (ss := [_, _]) [_, _] (100) rfl rfl rfl rfl (by decide) (.cons rfl Conv.any (.cons rfl Conv.any .nil)) ⟨⟨rfl, by omega⟩, ⟨rfl, by omega⟩, trivial⟩) rfl) ?_
  refine RV.step1 (OpOk.plain (ok_load rfl rfl (by decide) rfl rfl rfl ty_int) rfl) ?_
  refine RV.step1 (OpOk.plain (ok_load rfl rfl (by decide) rfl rfl rfl ty_int) rfl) ?_
  refine RV.step1 (OpOk.plain (ok_blint (xs := [.tmp 31, .tmp 32]) (ss := [_, _]) [_, _] (100) rfl rfl rfl rfl (by decide) (.cons rfl Conv.any (.cons rfl Conv.any .nil)) ⟨⟨rfl, by omega⟩, ⟨rfl, by omega⟩, trivial⟩) rfl) ?_
  refine RV.step1 (OpOk.plain (ok_load rfl rfl (by decide) rfl rfl rfl ty_int) rfl) ?_
  refine RV.step1 (OpOk.plain (ok_load rfl rfl (by decide) rfl rfl rfl ty_int) rfl) ?_
  refine RV.step1 (OpOk.plain (ok_blint (xs := [.tmp 34, .tmp 35]) (ss := [_, _]) [_, _] (100) rfl rfl rfl rfl (by decide) (.cons rfl Conv.any (.cons rfl Conv.any .nil)) ⟨⟨rfl, by omega⟩, ⟨rfl, by omega⟩, trivial⟩) rfl) ?_
  refine RV.step1 (OpOk.plain (ok_load rfl rfl (by decide) rfl rfl rfl ty_int) rfl) ?_
  refine RV.step1 (OpOk.plain (ok_load rfl rfl (by decide) rfl rfl rfl ty_int) rfl) ?_
  refine RV.step1 (OpOk.plain (ok_blint (xs := [.tmp 37, .tmp 38]) (ss := [_, _]) [_, _] (100) rfl rfl rfl rfl (by decide) (.cons rfl Conv.any (.cons rfl Conv.any .nil)) ⟨⟨rfl, by omega⟩, ⟨rfl, by omega⟩, trivial⟩) rfl) ?_
  refine RV.step1 (OpOk.plain (ok_load rfl rfl (by decide) rfl rfl rfl ty_int) rfl) ?_
  refine RV.step1 (OpOk.plain (ok_buildI rfl rfl (by decide)) rfl) ?_
  refine RV.step1 (OpOk.plain (ok_blint (xs := [.tmp 40, .tmp 41]) (ss := [_, _]) [_, _] (100) rfl rfl rfl rfl (by decide) (.cons rfl Conv.any (.cons rfl Conv.any .nil)) ⟨⟨rfl, by omega⟩, ⟨rfl, by omega⟩, trivial⟩) rfl) ?_
  refine RV.step1 (OpOk.plain (ok_load rfl rfl (by decide) rfl rfl rfl ty_int) rfl) ?_
  refine RV.step1 (OpOk.plain (ok_load rfl rfl (by decide) rfl rfl rfl ty_int) rfl) ?_
  refine RV.step1 (OpOk.plain (ok_load rfl rfl (by decide) rfl rfl rfl ty_int) rfl) ?_
  refine RV.step1 (OpOk.plain (ok_call (rMul_con _ _ (by omega) (by omega)) rfl rfl (by decide) Tryz.func27 rfl rfl (.cons rfl Conv.any (.cons rfl Conv.any .nil)) rfl) rfl) ?_
  refine RV.step1 (OpOk.plain (ok_blint (xs := [.tmp 43, .tmp 46]) (ss := [_, _]) [_, _] (100) rfl rfl rfl rfl (by decide) (.cons rfl Conv.any (.cons rfl Conv.any .nil)) ⟨⟨rfl, by omega⟩, ⟨rfl, by omega⟩, trivial⟩) rfl) ?_
  refine RV.step1 (OpOk.plain (ok_bllint (xs := [.tmp 30, .tmp 33, .tmp 36, .tmp 39, .tmp 42, .tmp 47]) (ss := [_, _, _, _, _, _]) [_, _, _, _, _, _] (100) rfl rfl rfl rfl (by decide) (.cons rfl Conv.any (.cons rfl Conv.any (.cons rfl Conv.any (.cons rfl Conv.any (.cons rfl Conv.any (.cons rfl Conv.any .nil)))))) ⟨⟨rfl, by omega⟩, ⟨rfl, by omega⟩, ⟨rfl, by omega⟩, ⟨rfl, by omega⟩, ⟨rfl, by omega⟩, ⟨rfl, by omega⟩, trivial⟩) rfl) ?_
  refine RV.step1 (OpOk.plain (ok_move (.inr rfl) rfl (by decide) rfl) rfl) ?_
  refine RV.drawn (by kernel_rfl) ?_
  refine CV.seq ?_
  refine CV.seq ?_
  refine CV.region rfl (fun h => nomatch h) ?_
  refine RV.step1 (OpOk.plain (ok_move (.inr rfl) rfl (by decide) rfl) rfl) ?_
  refine RV.done ?_
  refine CV.block ?_
  refine CV.loop (X := {i : Nat // i ≤ ll.length}) (fun i => [(.s 11, .av (.one (.v (.int .i64 (i.1 : Int))))), (.s 10, .av (.one (.d (Dm.llint ll 100))))]) (fun i => ll.length - i.1) ⟨0, Nat.zero_le _⟩ (Sub.mk ⟨XV.le_rfl _, XV.le_of (by rw [hll]; rfl), trivial⟩ rfl rfl) (fun i => ?_)
  refine CV.seq ?_
  refine CV.seq ?_
  refine CV.region rfl (fun h => nomatch h) ?_
  refine RV.step1 (OpOk.plain (ok_move (.inl rfl) rfl (by decide) rfl) rfl) ?_
  refine RV.step1 (OpOk.plain (ok_move (.inl rfl) rfl (by decide) rfl) rfl) ?_
  refine RV.step1 (OpOk.plain (ok_lenll rfl rfl (by decide) rfl) rfl) ?_
  refine RV.step1 (OpOk.plain (ok_lss rfl rfl (by decide) rfl rfl) rfl) ?_
  refine RV.done ?_
  refine CV.cond rfl (fun hc => ?_) (fun hc => ?_)
  · refine CV.skip ?_
    refine CV.seq ?_
    refine CV.block ?_
    refine CV.seq ?_
    refine CV.region rfl (fun _ => by kernel_rfl) ?_
    refine RV.step1 (OpOk.plain (ok_move (.inl rfl) rfl (by decide) rfl) rfl) ?_
    refine RV.step1 (OpOk.plain (ok_move (.inl rfl) rfl (by decide) rfl) rfl) ?_
    refine RV.step1 (OpOk.plain (ok_illint (i := i.1) (by simpa using hc) rfl rfl (by decide) rfl rfl) rfl) ?_
    refine RV.step1 (OpOk.plain (ok_loadl rfl rfl (by decide) rfl) rfl) ?_
    refine RV.step1 (OpOk.plain (ok_ilint (i := 0) (by rw [hl2 i.1 (by simpa using hc)]; decide) rfl rfl (by decide) rfl rfl) rfl) ?_
    refine RV.step1 (OpOk.plain (ok_loadp rfl rfl (by decide) rfl) rfl) ?_
    refine RV.step1 (OpOk.plain (ok_move (.inl rfl) rfl (by decide) rfl) rfl) ?_
    refine RV.step1 (OpOk.plain (ok_move (.inl rfl) rfl (by decide) rfl) rfl) ?_
    refine RV.step1 (OpOk.plain (ok_illint (i := i.1) (by simpa using hc) rfl rfl (by decide) rfl rfl) rfl) ?_
    refine RV.step1 (OpOk.plain (ok_loadl rfl rfl (by decide) rfl) rfl) ?_
    refine RV.step1 (OpOk.plain (ok_ilint (i := 1) (by rw [hl2 i.1 (by simpa using hc)]; decide) rfl rfl (by decide) rfl rfl) rfl) ?_
    refine RV.step1 (OpOk.plain (ok_loadp rfl rfl (by decide) rfl) rfl) ?_
    refine RV.step1 (OpOk.plain (ok_call (Div_con _ _ (by omega) (by omega)) rfl rfl (by decide) Tryz.func28 rfl rfl (.cons rfl Conv.any (.cons rfl Conv.any .nil)) rfl) rfl) ?_
    refine RV.step1 (OpOk.plain (ok_move (.inl rfl) rfl (by decide) rfl) rfl) ?_
    refine RV.step1 (OpOk.plain (ok_extract rfl rfl (by decide) rfl rfl) rfl) ?_
    refine RV.step1 (OpOk.plain (ok_extract rfl rfl (by decide) rfl rfl) rfl) ?_
    refine RV.step2 (OpOk.plain (ok_alloc (i := 3) rfl rfl (by decide) zero_int rfl rfl rfl) rfl) ?_
    refine RV.step2 (OpOk.plain (ok_alloc (i := 4) rfl rfl (by decide) zero_int rfl rfl rfl) rfl) ?_
    refine RV.step1 (OpOk.plain (ok_store rfl rfl rfl rfl rfl rfl rfl (ty_int).2 rfl rfl rfl) rfl) ?_
    refine RV.step1 (OpOk.plain (ok_store rfl rfl rfl rfl rfl rfl rfl (ty_int).2 rfl rfl rfl) rfl) ?_
    refine RV.drawn (by kernel_rfl) ?_
    refine CV.seq ?_
    refine CV.region rfl (fun _ => by kernel_rfl) ?_
    refine RV.step1 (OpOk.plain (ok_move (.inl rfl) rfl (by decide) rfl) rfl) ?_
    refine RV.step1 (OpOk.plain (ok_move (.inl rfl) rfl (by decide) rfl) rfl) ?_
    refine RV.step1 (OpOk.plain (ok_illint (i := i.1) (by simpa using hc) rfl rfl (by decide) rfl rfl) rfl) ?_
    refine RV.step1 (OpOk.plain (ok_loadl rfl rfl (by decide) rfl) rfl) ?_
    refine RV.step1 (OpOk.plain (ok_ilint (i := 0) (by rw [hl2 i.1 (by simpa using hc)]; decide) rfl rfl (by decide) rfl rfl) rfl) ?_
    refine RV.step1 (OpOk.plain (ok_loadp rfl rfl (by decide) rfl) rfl) ?_
    refine RV.step1 (OpOk.plain (ok_move (.inl rfl) rfl (by decide) rfl) rfl) ?_
    refine RV.step1 (OpOk.plain (ok_move (.inl rfl) rfl (by decide) rfl) rfl) ?_
    refine RV.step1 (OpOk.plain (ok_illint (i := i.1) (by simpa using hc) rfl rfl (by decide) rfl rfl) rfl) ?_
    refine RV.step1 (OpOk.plain (ok_loadl rfl rfl (by decide) rfl) rfl) ?_
    refine RV.step1 (OpOk.plain (ok_ilint (i := 1) (by rw [hl2 i.1 (by simpa using hc)]; decide) rfl rfl (by decide) rfl rfl) rfl) ?_
    refine RV.step1 (OpOk.plain (ok_loadp rfl rfl (by decide) rfl) rfl) ?_
    refine RV.step1 (OpOk.plain (ok_call (rDiv_con _ _ (by omega) (by omega)) rfl rfl (by decide) Tryz.func29 rfl rfl (.cons rfl Conv.any (.cons rfl Conv.any .nil)) rfl) rfl) ?_
    refine RV.step1 (OpOk.plain (ok_move (.inl rfl) rfl (by decide) rfl) rfl) ?_
    refine RV.step1 (OpOk.plain (ok_extract rfl rfl (by decide) rfl rfl) rfl) ?_
    refine RV.step1 (OpOk.plain (ok_extract rfl rfl (by decide) rfl rfl) rfl) ?_
    refine RV.step2 (OpOk.plain (ok_alloc (i := 5) rfl rfl (by decide) zero_int rfl rfl rfl) rfl) ?_
    refine RV.step2 (OpOk.plain (ok_alloc (i := 6) rfl rfl (by decide) zero_int rfl rfl rfl) rfl) ?_
    refine RV.step1 (OpOk.plain (ok_store rfl rfl rfl rfl rfl rfl rfl (ty_int).2 rfl rfl rfl) rfl) ?_
    refine RV.step1 (OpOk.plain (ok_store rfl rfl rfl rfl rfl rfl rfl (ty_int).2 rfl rfl rfl) rfl) ?_
    refine RV.drawn (by kernel_rfl) ?_
    refine CV.seq ?_
    refine CV.region rfl (fun _ => by kernel_rfl) ?_
    refine RV.step1 (OpOk.plain (ok_load rfl rfl (by decide) rfl rfl rfl ty_int) rfl) ?_
    refine RV.step1 (OpOk.plain (ok_load rfl rfl (by decide) rfl rfl rfl ty_int) rfl) ?_
    refine RV.step1 (OpOk.plain (ok_call (same4T_con _) rfl rfl (by decide) Tryz.func25 rfl rfl (.cons rfl Conv.any (.cons rfl Conv.any .nil)) rfl) rfl) ?_
    refine RV.step1 (OpOk.plain (ok_not rfl rfl (by decide) rfl) rfl) ?_
    refine RV.step1 (OpOk.plain (ok_move (.inl rfl) rfl (by decide) rfl) rfl) ?_
    refine RV.step1 (OpOk.yes (ok_load rfl rfl (by decide) rfl rfl rfl ty_int) rfl rfl rfl) ?_
    refine RV.step1 (OpOk.yes (ok_load rfl rfl (by decide) rfl rfl rfl ty_int) rfl rfl rfl) ?_
    refine RV.step1 (OpOk.yes (ok_call (same4T_con _) rfl rfl (by decide) Tryz.func25 rfl rfl (.cons rfl Conv.any (.cons rfl Conv.any .nil)) rfl) rfl rfl rfl) ?_
    refine RV.step1 (OpOk.yes (ok_not rfl rfl (by decide) rfl) rfl rfl rfl) ?_
    refine RV.step1 (OpOk.plain (ok_pickF rfl rfl (by decide) rfl rfl rfl) rfl) ?_
    refine RV.step1 (OpOk.plain (ok_move (.inl rfl) rfl (by decide) rfl) rfl) ?_
    refine RV.step1 (OpOk.yes (ok_move (.inl rfl) rfl (by decide) rfl) rfl rfl rfl) ?_
    refine RV.step1 (OpOk.yes (ok_move (.inl rfl) rfl (by decide) rfl) rfl rfl rfl) ?_
    refine RV.step1 (OpOk.yes (ok_illint (i := i.1) (by simpa using hc) rfl rfl (by decide) rfl rfl) rfl rfl rfl) ?_
    refine RV.step1 (OpOk.yes (ok_loadl rfl rfl (by decide) rfl) rfl rfl rfl) ?_
    refine RV.step1 (OpOk.yes (ok_ilint (i := 0) (by rw [hl2 i.1 (by simpa using hc)]; decide) rfl rfl (by decide) rfl rfl) rfl rfl rfl) ?_
    refine RV.step1 (OpOk.yes (ok_loadp rfl rfl (by decide) rfl) rfl rfl rfl) ?_
    refine RV.step1 (OpOk.yes (ok_move (.inl rfl) rfl (by decide) rfl) rfl rfl rfl) ?_
    refine RV.step1 (OpOk.yes (ok_move (.inl rfl) rfl (by decide) rfl) rfl rfl rfl) ?_
    refine RV.step1 (OpOk.yes (ok_illint (i := i.1) (by simpa using hc) rfl rfl (by decide) rfl rfl) rfl rfl rfl) ?_
    refine RV.step1 (OpOk.yes (ok_loadl rfl rfl (by decide) rfl) rfl rfl rfl) ?_
    refine RV.step1 (OpOk.yes (ok_ilint (i := 1) (by rw [hl2 i.1 (by simpa using hc)]; decide) rfl rfl (by decide) rfl rfl) rfl rfl rfl) ?_
    refine RV.step1 (OpOk.yes (ok_loadp rfl rfl (by decide) rfl) rfl rfl rfl) ?_
    refine RV.step1 (OpOk.yes (ok_call (Gcd_con _ _ (by omega) (by omega)) rfl rfl (by decide) Tryz.func30 rfl rfl (.cons rfl Conv.any (.cons rfl Conv.any .nil)) rfl) rfl rfl rfl) ?_
    refine RV.step1 (OpOk.yes (ok_move (.inl rfl) rfl (by decide) rfl) rfl rfl rfl) ?_
    refine RV.step1 (OpOk.yes (ok_move (.inl rfl) rfl (by decide) rfl) rfl rfl rfl) ?_
    refine RV.step1 (OpOk.yes (ok_illint (i := i.1) (by simpa using hc) rfl rfl (by decide) rfl rfl) rfl rfl rfl) ?_
    refine RV.step1 (OpOk.yes (ok_loadl rfl rfl (by decide) rfl) rfl rfl rfl) ?_
    refine RV.step1 (OpOk.yes (ok_ilint (i := 0) (by rw [hl2 i.1 (by simpa using hc)]; decide) rfl rfl (by decide) rfl rfl) rfl rfl rfl) ?_
    refine RV.step1 (OpOk.yes (ok_loadp rfl rfl (by decide) rfl) rfl rfl rfl) ?_
    refine RV.step1 (OpOk.yes (ok_move (.inl rfl) rfl (by decide) rfl) rfl rfl rfl) ?_
    refine RV.step1 (OpOk.yes (ok_move (.inl rfl) rfl (by decide) rfl) rfl rfl rfl) ?_
    refine RV.step1 (OpOk.yes (ok_illint (i := i.1) (by simpa using hc) rfl rfl (by decide) rfl rfl) rfl rfl rfl) ?_
    refine RV.step1 (OpOk.yes (ok_loadl rfl rfl (by decide) rfl) rfl rfl rfl) ?_
    refine RV.step1 (OpOk.yes (ok_ilint (i := 1) (by rw [hl2 i.1 (by simpa using hc)]; decide) rfl rfl (by decide) rfl rfl) rfl rfl rfl) ?_
    refine RV.step1 (OpOk.yes (ok_loadp rfl rfl (by decide) rfl) rfl rfl rfl) ?_
    refine RV.step1 (OpOk.yes (ok_call (rGcd_con _ _ (by omega) (by omega)) rfl rfl (by decide) Tryz.func31 rfl rfl (.cons rfl Conv.any (.cons rfl Conv.any .nil)) rfl) rfl rfl rfl) ?_
    refine RV.step1 (OpOk.yes (ok_call (same4T_con _) rfl rfl (by decide) Tryz.func25 rfl rfl (.cons rfl Conv.any (.cons rfl Conv.any .nil)) rfl) rfl rfl rfl) ?_
    refine RV.step1 (OpOk.yes (ok_not rfl rfl (by decide) rfl) rfl rfl rfl) ?_
    refine RV.step1 (OpOk.plain (ok_pickF rfl rfl (by decide) rfl rfl rfl) rfl) ?_
    refine RV.drawn (by kernel_rfl) ?_
    refine CV.no rfl ?_
    refine CV.skip ?_
    refine CV.region rfl (fun h => nomatch h) ?_
    refine RV.step1 (OpOk.plain (ok_move (.inl rfl) rfl (by decide) rfl) rfl) ?_
    refine RV.step1 (OpOk.plain (ok_add (c := ((i.1 + 1 : Nat) : Int)) (by have := i.2; rw [wrapI (by omega) (by omega)]; omega) rfl rfl (by decide) rfl rfl) rfl) ?_
    refine RV.step1 (OpOk.plain (ok_move (.inr rfl) rfl (by decide) rfl) rfl) ?_
    refine RV.done ?_
    have hlt : i.1 < ll.length := by simpa using hc
    exact ⟨⟨i.1 + 1, hlt⟩, Sub.mk ⟨XV.le_rfl _, XV.le_rfl _, trivial⟩ rfl rfl, by show ll.length - (i.1 + 1) < ll.length - i.1; omega⟩
  · refine CV.exit ?_
    refine CV.seq ?_
    refine CV.region rfl (fun h => nomatch h) ?_
    refine RV.step1 (OpOk.plain (ok_call (lives4_con) rfl rfl (by decide) Tryz.func26 rfl rfl .nil rfl) rfl) ?_
    refine RV.step1 (OpOk.plain (ok_move (.inr rfl) rfl (by decide) rfl) rfl) ?_
    refine RV.done ?_
    refine CV.ret ?_
    exact fin1 rfl (.inr rfl) rfl is_rfl

end Vc
end Go.Proofs.YtabjodomigllhaaGreatDoor
