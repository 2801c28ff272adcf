/-
  IntegerRoots: its walk.
-/
import Derived.Test.YtabjodomigllhaaGreatDoorJB35
namespace Go.Proofs.YtabjodomigllhaaGreatDoor
open Go.RowKit
open Go.Lib (hid)
open Dg Zn
namespace Vc

theorem rRoot_con (x r : Int) (b : Bool) {j : Nat} (hr : IsRoot x r b) (hj : j ≤ 10000000) : Con Tryz.prog 33 [.d (Dm.int x j)] (.tup [.d (Dm.int r j), .v (.bool b)]) := by
  by_cases hl : len x ≤ j
  · rcases hr with ⟨h, rfl, rfl⟩ | ⟨h, h0, h1, h2, rfl⟩
    · exact rRootNeg_con x j h
    · exact rRootPos_con x r j h h0 h1 h2 hl hj
  · rintro L ρ w vs hlt hn hwf hall
    match vs, hall with
    | [v], ⟨hv, _⟩ => exact absurd (is_int hv).2 hl

set_option maxRecDepth 100000 in
theorem roots_con (l : List Int) (k : Int) (hk1 : -9223372036854775808 ≤ k) (hk2 : k ≤ 9223372036854775807) : Con Tryz.prog 5 [.d (Dm.ints l), .v (.int .i64 k)] (.one (.v (.bool true))) := by
  have hA := aroundI_bd k 5 (by decide)
  obtain ⟨ll, hll⟩ : ∃ ll, ll = [numI l 0, numI l 0 * numI l 0, numI l 0 * numI l 0 + (aroundI k 5 - 2), numI l 0 * numI l 0 - 1] := ⟨_, rfl⟩
  have hl4 : ll.length = 4 := by rw [hll]; rfl
  refine Con.of (n := 62) Tryz.func5 rfl rfl rfl rfl rfl fun cx => ?_
  refine CV.seq ?_
  refine CV.region rfl (fun h => nomatch h) ?_
  refine RV.step1 (OpOk.plain (ok_move (.inr rfl) rfl (by decide) rfl) rfl) ?_
  refine RV.done ?_
  refine CV.seq ?_
  refine CV.region rfl (fun h => nomatch h) ?_
  refine RV.step1 (OpOk.plain (ok_move (.inl rfl) rfl (by decide) rfl) rfl) ?_
  refine RV.step1 (OpOk.plain (ok_call (Number_con _ 0 (by decide)) rfl rfl (by decide) Tryz.func14 rfl rfl (.cons rfl Conv.any (.cons rfl Conv.any .nil)) rfl) rfl) ?_
  refine RV.step2 (OpOk.plain (ok_alloc (i := 0) rfl rfl (by decide) zero_int rfl rfl rfl) rfl) ?_
  refine RV.step1 (OpOk.plain (ok_store rfl rfl rfl rfl rfl rfl rfl (ty_int).2 rfl rfl rfl) rfl) ?_
  refine RV.done ?_
  refine CV.seq ?_
  refine CV.region rfl (fun h => nomatch h) ?_
  refine RV.step1 (OpOk.plain (ok_load rfl rfl (by decide) rfl rfl rfl ty_int) rfl) ?_
  refine RV.step1 (OpOk.plain (ok_load rfl rfl (by decide) rfl rfl rfl ty_int) rfl) ?_
  refine RV.step1 (OpOk.plain (ok_call (rMul_con _ _ (by omega) (by omega)) rfl rfl (by decide) Tryz.func27 rfl rfl (.cons rfl Conv.any (.cons rfl Conv.any .nil)) rfl) rfl) ?_
  refine RV.step2 (OpOk.plain (ok_alloc (i := 1) rfl rfl (by decide) zero_int rfl rfl rfl) rfl) ?_
  refine RV.step1 (OpOk.plain (ok_store rfl rfl rfl rfl rfl rfl rfl (ty_int).2 rfl rfl rfl) rfl) ?_
  refine RV.done ?_
  refine CV.seq ?_
  refine CV.region rfl (fun _ => by kernel_rfl) ?_
  refine RV.step1 (OpOk.plain (ok_load rfl rfl (by decide) rfl rfl rfl ty_int) rfl) ?_
  refine RV.step1 (OpOk.plain (ok_load rfl rfl (by decide) rfl rfl rfl ty_int) rfl) ?_
  refine RV.step1 (OpOk.plain (ok_load rfl rfl (by decide) rfl rfl rfl ty_int) rfl) ?_
  refine RV.step1 (OpOk.plain (ok_move (.inl rfl) rfl (by decide) rfl) rfl) ?_
  refine RV.step1 (OpOk.plain (ok_call (Around_con k 5 hk1 hk2 (by decide) (by decide)) rfl rfl (by decide) Tryz.func16 rfl rfl (.cons rfl Conv.any (.cons rfl Conv.any .nil)) rfl) rfl) ?_
  refine RV.step1 (OpOk.plain (ok_sub (c := aroundI k 5 - 2) (wrapI (by omega) (by omega)) rfl rfl (by decide) rfl rfl) rfl) ?_
  refine RV.step1 (OpOk.plain (ok_call (rOf_con _ (by omega) (by omega)) rfl rfl (by decide) Tryz.func17 rfl rfl (.cons rfl Conv.any .nil) rfl) rfl) ?_
  refine RV.step1 (OpOk.plain (ok_call (rAdd_con _ _ (by omega) (by omega)) rfl rfl (by decide) Tryz.func18 rfl rfl (.cons rfl Conv.any (.cons rfl Conv.any .nil)) rfl) rfl) ?_
  refine RV.step1 (OpOk.plain (ok_load rfl rfl (by decide) rfl rfl rfl ty_int) rfl) ?_
  refine RV.step1 (OpOk.plain (ok_call (rOf_con _ (by omega) (by omega)) rfl rfl (by decide) Tryz.func17 rfl rfl (.cons rfl Conv.any .nil) rfl) rfl) ?_
  refine RV.step1 (OpOk.plain (ok_call (rSub_con _ _ (by omega) (by omega)) rfl rfl (by decide) Tryz.func19 rfl rfl (.cons rfl Conv.any (.cons rfl Conv.any .nil)) rfl) rfl) ?_
  refine RV.step1 (OpOk.plain (ok_blint (xs := [.tmp 18, .tmp 19, .tmp 25, .tmp 28]) (ss := [_, _, _, _]) [_, _, _, _] (100) rfl rfl rfl rfl (by decide) (.cons rfl Conv.any (.cons rfl Conv.any (.cons rfl Conv.any (.cons rfl Conv.any .nil)))) ⟨⟨rfl, by omega⟩, ⟨rfl, by omega⟩, ⟨rfl, by omega⟩, ⟨rfl, by omega⟩, trivial⟩) rfl) ?_
  refine RV.step1 (OpOk.plain (ok_move (.inr rfl) rfl (by decide) rfl) rfl) ?_
  refine RV.drawn (by kernel_rfl) ?_
  refine CV.seq ?_
  refine CV.seq ?_
  refine CV.region rfl (fun h => nomatch h) ?_
  refine RV.step1 (OpOk.plain (ok_move (.inr rfl) rfl (by decide) rfl) rfl) ?_
  refine RV.done ?_
  refine CV.block ?_
  refine CV.loop (X := {i : Nat // i ≤ ll.length}) (fun i => [(.s 8, .av (.one (.v (.int .i64 (i.1 : Int))))), (.s 7, .av (.one (.d (Dm.lint ll 100))))]) (fun i => ll.length - i.1) ⟨0, Nat.zero_le _⟩ (Sub.mk ⟨XV.le_rfl _, XV.le_of (by rw [hll]; rfl), trivial⟩ rfl rfl) (fun i => ?_)
  obtain ⟨r, b, hr⟩ := root_exists (ll.getD i.1 0)
  refine CV.seq ?_
  refine CV.seq ?_
  refine CV.region rfl (fun h => nomatch h) ?_
  refine RV.step1 (OpOk.plain (ok_move (.inl rfl) rfl (by decide) rfl) rfl) ?_
  refine RV.step1 (OpOk.plain (ok_move (.inl rfl) rfl (by decide) rfl) rfl) ?_
  refine RV.step1 (OpOk.plain (ok_lenl rfl rfl (by decide) rfl) rfl) ?_
  refine RV.step1 (OpOk.plain (ok_lss rfl rfl (by decide) rfl rfl) rfl) ?_
  refine RV.done ?_
  refine CV.cond rfl (fun hc => ?_) (fun hc => ?_)
  · refine CV.skip ?_
    refine CV.seq ?_
    refine CV.block ?_
    refine CV.seq ?_
    refine CV.region rfl (fun h => nomatch h) ?_
    refine RV.step1 (OpOk.plain (ok_move (.inl rfl) rfl (by decide) rfl) rfl) ?_
    refine RV.step1 (OpOk.plain (ok_move (.inl rfl) rfl (by decide) rfl) rfl) ?_
    refine RV.step1 (OpOk.plain (ok_ilint (i := i.1) (by simpa using hc) rfl rfl (by decide) rfl rfl) rfl) ?_
    refine RV.step1 (OpOk.plain (ok_loadp rfl rfl (by decide) rfl) rfl) ?_
    refine RV.step1 (OpOk.plain (ok_call (Root_con _ r b hr (by omega)) rfl rfl (by decide) Tryz.func32 rfl rfl (.cons rfl Conv.any .nil) rfl) rfl) ?_
    refine RV.step1 (OpOk.plain (ok_move (.inl rfl) rfl (by decide) rfl) rfl) ?_
    refine RV.step1 (OpOk.plain (ok_extract rfl rfl (by decide) rfl rfl) rfl) ?_
    refine RV.step1 (OpOk.plain (ok_extract rfl rfl (by decide) rfl rfl) rfl) ?_
    refine RV.step2 (OpOk.plain (ok_alloc (i := 2) rfl rfl (by decide) zero_int rfl rfl rfl) rfl) ?_
    refine RV.step1 (OpOk.plain (ok_store rfl rfl rfl rfl rfl rfl rfl (ty_int).2 rfl rfl rfl) rfl) ?_
    refine RV.step1 (OpOk.plain (ok_move (.inr rfl) rfl (by decide) rfl) rfl) ?_
    refine RV.done ?_
    refine CV.seq ?_
    refine CV.region rfl (fun h => nomatch h) ?_
    refine RV.step1 (OpOk.plain (ok_move (.inl rfl) rfl (by decide) rfl) rfl) ?_
    refine RV.step1 (OpOk.plain (ok_move (.inl rfl) rfl (by decide) rfl) rfl) ?_
    refine RV.step1 (OpOk.plain (ok_ilint (i := i.1) (by simpa using hc) rfl rfl (by decide) rfl rfl) rfl) ?_
    refine RV.step1 (OpOk.plain (ok_loadp rfl rfl (by decide) rfl) rfl) ?_
    refine RV.step1 (OpOk.plain (ok_call (rRoot_con _ r b hr (by omega)) rfl rfl (by decide) Tryz.func33 rfl rfl (.cons rfl Conv.any .nil) rfl) rfl) ?_
    refine RV.step1 (OpOk.plain (ok_move (.inl rfl) rfl (by decide) rfl) rfl) ?_
    refine RV.step1 (OpOk.plain (ok_extract rfl rfl (by decide) rfl rfl) rfl) ?_
    refine RV.step1 (OpOk.plain (ok_extract rfl rfl (by decide) rfl rfl) rfl) ?_
    refine RV.step2 (OpOk.plain (ok_alloc (i := 3) rfl rfl (by decide) zero_int rfl rfl rfl) rfl) ?_
    refine RV.step1 (OpOk.plain (ok_store rfl rfl rfl rfl rfl rfl rfl (ty_int).2 rfl rfl rfl) rfl) ?_
    refine RV.step1 (OpOk.plain (ok_move (.inr rfl) rfl (by decide) rfl) rfl) ?_
    refine RV.done ?_
    refine CV.seq ?_
    refine CV.region rfl (fun h => nomatch h) ?_
    refine RV.step1 (OpOk.plain (ok_load rfl rfl (by decide) rfl rfl rfl ty_int) rfl) ?_
    refine RV.step1 (OpOk.plain (ok_load rfl rfl (by decide) rfl rfl rfl ty_int) rfl) ?_
    refine RV.step1 (OpOk.plain (ok_call (same4T_con _) rfl rfl (by decide) Tryz.func25 rfl rfl (.cons rfl Conv.any (.cons rfl Conv.any .nil)) rfl) rfl) ?_
    refine RV.step1 (OpOk.plain (ok_not rfl rfl (by decide) rfl) rfl) ?_
    refine RV.step1 (OpOk.plain (ok_move (.inl rfl) rfl (by decide) rfl) rfl) ?_
    refine RV.step1 (OpOk.yes (ok_move (.inl rfl) rfl (by decide) rfl) rfl rfl rfl) ?_
    refine RV.step1 (OpOk.yes (ok_move (.inl rfl) rfl (by decide) rfl) rfl rfl rfl) ?_
    refine RV.step1 (OpOk.yes (ok_bin (u := .bool b) (v := .bool b) (r := .bool false) rfl rfl (by decide) rfl rfl (by cases b <;> exact fun w => by kernel_rfl)) rfl rfl rfl) ?_
    refine RV.step1 (OpOk.plain (ok_pickF rfl rfl (by decide) rfl rfl rfl) rfl) ?_
    refine RV.done ?_
    refine CV.no rfl ?_
    refine CV.skip ?_
    refine CV.region rfl (fun h => nomatch h) ?_
    refine RV.step1 (OpOk.plain (ok_move (.inl rfl) rfl (by decide) rfl) rfl) ?_
    refine RV.step1 (OpOk.plain (ok_add (c := ((i.1 + 1 : Nat) : Int)) (by have := i.2; rw [wrapI (by omega) (by omega)]; omega) rfl rfl (by decide) rfl rfl) rfl) ?_
    refine RV.step1 (OpOk.plain (ok_move (.inr rfl) rfl (by decide) rfl) rfl) ?_
    refine RV.done ?_
    have hlt : i.1 < ll.length := by simpa using hc
    exact ⟨⟨i.1 + 1, hlt⟩, Sub.mk ⟨XV.le_rfl _, XV.le_rfl _, trivial⟩ rfl rfl, by show ll.length - (i.1 + 1) < ll.length - i.1; omega⟩
  · refine CV.exit ?_
    refine CV.seq ?_
    refine CV.region rfl (fun h => nomatch h) ?_
    refine RV.step1 (OpOk.plain (ok_call (lives4_con) rfl rfl (by decide) Tryz.func26 rfl rfl .nil rfl) rfl) ?_
    refine RV.step1 (OpOk.plain (ok_move (.inr rfl) rfl (by decide) rfl) rfl) ?_
    refine RV.done ?_
    refine CV.ret ?_
    exact fin1 rfl (.inr rfl) rfl is_rfl

end Vc
end Go.Proofs.YtabjodomigllhaaGreatDoor
