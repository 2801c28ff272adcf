/-
  IntegerInts: its walk.
-/
import Derived.Test.YtabjodomigllhaaGreatDoorJC44
namespace Go.Proofs.YtabjodomigllhaaGreatDoor
open Go.RowKit
open Go.Lib (hid)
open Dg Zn
namespace Vc

def rawOf (z : Int) : Bool × List Int := (decide (z < 0), (dig z.natAbs).map Int.ofNat)
theorem Take8_con (zs : List Int) : Con Tryz.prog 15 [.d (Dm.ints zs), .v (.int .i64 8)] (.one (.d (Dm.gen (rowG (zs.take 8))))) := Take_con zs 8 (by decide)
section
variable {cx : Cx Dm} {n : Nat} {σ : St Dm} {o : Oper} {d : Nat} {x y : Operand} {T' : TypeId}
set_option maxRecDepth 100000 in
theorem ok_bne {p q : Bool} (ho : o.op = .binOp .neq 4 x y T') (hd : o.dst = some d) (hn : d < n) (hx : opd σ x = .av (.one (.v (.bool p)))) (hy : opd σ y = .av (.one (.v (.bool q)))) : OpOk Tryz.prog cx n σ o (opk x ++ opk y) [(.s d, .av (.one (.v (.bool (p != q)))))] :=
  ok_bin ho hd hn hx hy (by cases p <;> cases q <;> exact fun w => by kernel_rfl)
end
def five : List Int := [0, 1, -1, 999999999, 1000000000]

set_option maxRecDepth 100000 in
theorem ints_con (a k : Int) (l m : List Int) (neg : Bool) (ha1 : -9223372036854775808 ≤ a) (ha2 : a ≤ 9223372036854775807) (hk1 : -9223372036854775808 ≤ k) (hk2 : k ≤ 9223372036854775807) : Con Tryz.prog 3 [.v (.int .i64 a), .d (Dm.ints l), .d (Dm.ints m), .v (.bool neg), .v (.int .i64 k)] (.one (.v (.bool true))) := by
  have hA := aroundI_bd k 5 (by decide)
  obtain ⟨q, hq, hq5⟩ : ∃ q : Nat, aroundI k 5 = (q : Int) ∧ q < 5 := ⟨(aroundI k 5).toNat, by omega, by omega⟩
  have hL : ((dig (numI l 0).natAbs).map Int.ofNat).length ≤ 7 := by rw [List.length_map]; exact numI_len l 0
  have hr3 : -3 < k.tmod 3 ∧ k.tmod 3 < 3 := by have h1 := Int.natAbs_tmod k 3; have h2 := Nat.mod_lt k.natAbs (show 0 < 3 by decide); rw [show (3 : Int).natAbs = 3 from rfl] at h1; omega
  obtain ⟨ll, hll⟩ : ∃ ll, ll = [rawOf (numI l 0), (neg, m.take 8), (neg != decide (numI l 0 < 0), (dig (numI l 0).natAbs).map Int.ofNat ++ [five.getD q 0]), rawOf a, rawOf (9223372036854775807 + k.tmod 3), rawOf (-9223372036854775808 - k.tmod 3), rawOf 0] := ⟨_, rfl⟩
  have hl7 : ll.length = 7 := by rw [hll]; rfl
  refine Con.of (n := 130) Tryz.func3 rfl rfl rfl rfl rfl fun cx => ?_
  refine CV.seq ?_
  refine CV.region rfl (fun h => nomatch h) ?_
  refine RV.step1 (OpOk.plain (ok_move (.inr rfl) rfl (by decide) rfl) rfl) ?_
  refine RV.done ?_
  refine CV.seq ?_
  refine CV.region rfl (fun h => nomatch h) ?_
  refine RV.step1 (OpOk.plain (ok_move (.inl rfl) rfl (by decide) rfl) rfl) ?_
  refine RV.step1 (OpOk.plain (ok_call (Number_con _ 0 (by decide)) rfl rfl (by decide) Tryz.func14 rfl rfl (.cons rfl Conv.any (.cons rfl Conv.any .nil)) rfl) rfl) ?_
  refine RV.step2 (OpOk.plain (ok_alloc (i := 0) rfl rfl (by decide) zero_int rfl rfl rfl) rfl) ?_
  refine RV.step1 (OpOk.plain (ok_store rfl rfl rfl rfl rfl rfl rfl (ty_int).2 rfl rfl rfl) rfl) ?_
  refine RV.done ?_
  refine CV.seq ?_
  refine CV.region rfl (fun h => nomatch h) ?_
  refine RV.step1 (OpOk.plain (ok_move (.inl rfl) rfl (by decide) rfl) rfl) ?_
  refine RV.step1 (OpOk.plain (ok_move (.inl rfl) rfl (by decide) rfl) rfl) ?_
  refine RV.step1 (OpOk.plain (ok_call (Take8_con _) rfl rfl (by decide) Tryz.func15 rfl rfl (.cons rfl Conv.any (.cons rfl Conv.any .nil)) rfl) rfl) ?_
  refine RV.step1 (OpOk.plain (ok_braw rfl rfl (by decide) rfl rfl) rfl) ?_
  refine RV.step2 (OpOk.plain (ok_alloc (i := 1) rfl rfl (by decide) zero_int rfl rfl rfl) rfl) ?_
  refine RV.step1 (OpOk.plain (ok_store rfl rfl rfl rfl rfl rfl rfl (ty_int).2 rfl rfl rfl) rfl) ?_
  refine RV.done ?_
  refine CV.seq ?_
  refine CV.regionX rfl (fun _ => by kernel_rfl) rfl ?_
  refine RV.step1 (OpOk.row (fun _ => (ok_move (.inl rfl) rfl (by decide) rfl)) rfl rfl) ?_
  refine RV.step1 (OpOk.row (fun _ => (ok_fieldAddr fa_int0 rfl rfl (by decide) rfl)) rfl rfl) ?_
  refine RV.step1 (OpOk.row (fun _ => (ok_loadf 0 fld_neg rfl rfl (by decide) rfl rfl rfl rfl ty_bool)) rfl rfl) ?_
  refine RV.step1 (OpOk.row (fun _ => (ok_bne rfl rfl (by decide) rfl rfl)) rfl rfl) ?_
  refine RV.step2 (ok_rowOpen rfl rfl rfl (by decide) rfl) ?_
  refine RV.step1 (OpOk.row (fun _ => (ok_fieldAddr fa_int1 rfl rfl (by decide) rfl)) rfl rfl) ?_
  refine RV.step1 (OpOk.row (fun _ => (ok_loadf 1 fld_dig rfl rfl (by decide) rfl rfl rfl rfl ty_ints)) rfl rfl) ?_
  refine RV.step3 (ok_rowMore (e := Dm.nums (numI l 0).natAbs) (zs := []) (xs := (dig (numI l 0).natAbs).map Int.ofNat) (by rw [List.length_nil]; omega) (fun w v h => row_of_nums h) (by decide) rfl rfl rfl (by decide) rfl rfl rfl) ?_
  refine RV.step1 (OpOk.row (fun _ => (ok_brow (zs := five) (xs := [.const (.int .i64 0), .const (.int .i64 1), .const (.int .i64 (-1)), .const (.int .i64 999999999), .const (.int .i64 1000000000)]) rfl rfl rfl rfl (by decide) (.cons rfl Conv.any (.cons rfl Conv.any (.cons rfl Conv.any (.cons rfl Conv.any (.cons rfl Conv.any .nil))))))) rfl rfl) ?_
  refine RV.step1 (OpOk.row (fun _ => (ok_move (.inl rfl) rfl (by decide) rfl)) rfl rfl) ?_
  refine RV.step1 (OpOk.row (fun _ => (ok_callv (us := [.int .i64 k, .int .i64 5]) (r := .int .i64 (q : Int)) (fun w _ => (Around_any k 5 w hk1 hk2 (by decide) (by decide)).mono (by rintro e w' ⟨rfl, rfl⟩; exact ⟨by rw [hq], Below.refl _ _⟩)) rfl rfl (by decide) Tryz.func16 rfl rfl (.cons rfl Conv.any (.cons rfl Conv.any .nil)))) rfl rfl) ?_
  refine RV.step1 (OpOk.row (fun _ => (ok_idxrow (zs := five) (i := q) hq5 rfl rfl (by decide) rfl rfl)) rfl rfl) ?_
  refine RV.step1 (OpOk.row (fun _ => (ok_loadc rfl rfl (by decide) rfl)) rfl rfl) ?_
  refine RV.step1 (OpOk.row (fun _ => (ok_brow (zs := [five.getD q 0]) (xs := [.tmp 40]) rfl rfl rfl rfl (by decide) (.cons rfl Conv.any .nil))) rfl rfl) ?_
  refine RV.step3 (ok_rowClose (e := Dm.gen (rowG [five.getD q 0])) (zs := (dig (numI l 0).natAbs).map Int.ofNat) (xs := [five.getD q 0]) (by rw [List.length_singleton]; omega) (fun w v h => h) (by decide) rfl rfl rfl (by decide) rfl rfl rfl) ?_
  refine RV.step1 (OpOk.row (fun _ => (ok_braw rfl rfl (by decide) rfl rfl)) rfl rfl) ?_
  refine RV.step2 (OpOk.row (fun _ => (ok_alloc (i := 2) rfl rfl (by decide) zero_int rfl rfl rfl)) rfl rfl) ?_
  refine RV.step1 (OpOk.row (fun _ => (ok_store rfl rfl rfl rfl rfl rfl rfl (ty_int).2 rfl rfl rfl)) rfl rfl) ?_
  refine RV.drawn (by kernel_rfl) ⟨rfl, ?_⟩
  refine CV.seq ?_
  refine CV.region rfl (fun _ => by kernel_rfl) ?_
  refine RV.step1 (OpOk.plain (ok_load rfl rfl (by decide) rfl rfl rfl ty_int) rfl) ?_
  refine RV.step1 (OpOk.plain (ok_load rfl rfl (by decide) rfl rfl rfl ty_int) rfl) ?_
  refine RV.step1 (OpOk.plain (ok_load rfl rfl (by decide) rfl rfl rfl ty_int) rfl) ?_
  refine RV.step1 (OpOk.plain (ok_move (.inl rfl) rfl (by decide) rfl) rfl) ?_
  refine RV.step1 (OpOk.plain (ok_call (rOf_con a ha1 ha2) rfl rfl (by decide) Tryz.func17 rfl rfl (.cons rfl Conv.any .nil) rfl) rfl) ?_
  refine RV.step1 (OpOk.plain (ok_call (rOf_con 9223372036854775807 (by decide) (by decide)) rfl rfl (by decide) Tryz.func17 rfl rfl (.cons rfl Conv.any .nil) rfl) rfl) ?_
  refine RV.step1 (OpOk.plain (ok_move (.inl rfl) rfl (by decide) rfl) rfl) ?_
  refine RV.step1 (OpOk.plain (ok_rem (by decide) rfl rfl (by decide) rfl rfl) rfl) ?_
  refine RV.step1 (OpOk.plain (ok_call (rOf_con (k.tmod 3) (by omega) (by omega)) rfl rfl (by decide) Tryz.func17 rfl rfl (.cons rfl Conv.any .nil) rfl) rfl) ?_
  refine RV.step1 (OpOk.plain (ok_call (rAdd_con _ _ (by omega) (by omega)) rfl rfl (by decide) Tryz.func18 rfl rfl (.cons rfl Conv.any (.cons rfl Conv.any .nil)) rfl) rfl) ?_
  refine RV.step1 (OpOk.plain (ok_call (rOf_con (-9223372036854775808) (by decide) (by decide)) rfl rfl (by decide) Tryz.func17 rfl rfl (.cons rfl Conv.any .nil) rfl) rfl) ?_
  refine RV.step1 (OpOk.plain (ok_move (.inl rfl) rfl (by decide) rfl) rfl) ?_
  refine RV.step1 (OpOk.plain (ok_rem (by decide) rfl rfl (by decide) rfl rfl) rfl) ?_
  refine RV.step1 (OpOk.plain (ok_call (rOf_con (k.tmod 3) (by omega) (by omega)) rfl rfl (by decide) Tryz.func17 rfl rfl (.cons rfl Conv.any .nil) rfl) rfl) ?_
  refine RV.step1 (OpOk.plain (ok_call (rSub_con _ _ (by omega) (by omega)) rfl rfl (by decide) Tryz.func19 rfl rfl (.cons rfl Conv.any (.cons rfl Conv.any .nil)) rfl) rfl) ?_
  refine RV.step1 (OpOk.plain (ok_buildI rfl rfl (by decide)) rfl) ?_
  refine RV.step1 (OpOk.plain (ok_blraw (xs := [.tmp 44, .tmp 45, .tmp 46, .tmp 48, .tmp 53, .tmp 58, .tmp 59]) (ss := [_, _, _, _, _, _, _]) [rawOf (numI l 0), (neg, m.take 8), (neg != decide (numI l 0 < 0), (dig (numI l 0).natAbs).map Int.ofNat ++ [five.getD q 0]), rawOf a, rawOf (9223372036854775807 + k.tmod 3), rawOf (-9223372036854775808 - k.tmod 3), rawOf 0] rfl rfl rfl rfl (by decide) (.cons rfl Conv.any (.cons rfl Conv.any (.cons rfl Conv.any (.cons rfl Conv.any (.cons rfl Conv.any (.cons rfl Conv.any (.cons rfl Conv.any .nil))))))) ⟨rfl, rfl, rfl, rfl, rfl, rfl, rfl, trivial⟩) rfl) ?_
  refine RV.step1 (OpOk.plain (ok_move (.inr rfl) rfl (by decide) rfl) rfl) ?_
  refine RV.drawn (by kernel_rfl) ?_
  refine CV.seq ?_
  refine CV.seq ?_
  refine CV.region rfl (fun h => nomatch h) ?_
  refine RV.step1 (OpOk.plain (ok_move (.inr rfl) rfl (by decide) rfl) rfl) ?_
  refine RV.done ?_
  refine CV.block ?_
  refine CV.loop (X := {i : Nat // i ≤ ll.length}) (fun i => [(.s 15, .av (.one (.v (.int .i64 (i.1 : Int))))), (.s 14, .av (.one (.d (Dm.gen (lrawG ll))))), (.s 0, .av (.one (.v (.int .i64 a))))]) (fun i => ll.length - i.1) ⟨0, Nat.zero_le _⟩ (Sub.mk ⟨XV.le_rfl _, XV.le_of (by rw [hll]; rfl), XV.le_rfl _, trivial⟩ rfl rfl) (fun i => ?_)
  refine CV.seq ?_
  refine CV.seq ?_
  refine CV.region rfl (fun h => nomatch h) ?_
  refine RV.step1 (OpOk.plain (ok_move (.inl rfl) rfl (by decide) rfl) rfl) ?_
  refine RV.step1 (OpOk.plain (ok_move (.inl rfl) rfl (by decide) rfl) rfl) ?_
  refine RV.step1 (OpOk.plain (ok_lenraw rfl rfl (by decide) rfl) rfl) ?_
  refine RV.step1 (OpOk.plain (ok_lss rfl rfl (by decide) rfl rfl) rfl) ?_
  refine RV.done ?_
  refine CV.cond rfl (fun hc => ?_) (fun hc => ?_)
  · refine CV.skip ?_
    refine CV.seq ?_
    refine CV.block ?_
    refine CV.seq ?_
    refine CV.seq ?_
    refine CV.region rfl (fun _ => by kernel_rfl) ?_
    refine RV.step1 (OpOk.plain (ok_move (.inl rfl) rfl (by decide) rfl) rfl) ?_
    refine RV.step1 (OpOk.plain (ok_move (.inl rfl) rfl (by decide) rfl) rfl) ?_
    refine RV.step1 (OpOk.plain (ok_iraw (i := i.1) (by simpa using hc) rfl rfl (by decide) rfl rfl) rfl) ?_
    refine RV.step1 (OpOk.plain (ok_loadraw rfl rfl (by decide) rfl) rfl) ?_
    refine RV.step1 (OpOk.plain (ok_call (VRaw_con _ _) rfl rfl (by decide) Tryz.func20 rfl rfl (.cons rfl Conv.any .nil) rfl) rfl) ?_
    refine RV.step1 (OpOk.plain (ok_move (.inl rfl) rfl (by decide) rfl) rfl) ?_
    refine RV.step1 (OpOk.plain (ok_move (.inl rfl) rfl (by decide) rfl) rfl) ?_
    refine RV.step1 (OpOk.plain (ok_iraw (i := i.1) (by simpa using hc) rfl rfl (by decide) rfl rfl) rfl) ?_
    refine RV.step1 (OpOk.plain (ok_loadraw rfl rfl (by decide) rfl) rfl) ?_
    refine RV.step1 (OpOk.plain (ok_call (rVRaw_con _ _) rfl rfl (by decide) Tryz.func21 rfl rfl (.cons rfl Conv.any .nil) rfl) rfl) ?_
    refine RV.step1 (OpOk.plain (ok_bneF rfl rfl rfl (by decide) rfl rfl) rfl) ?_
    refine RV.drawn (by kernel_rfl) ?_
    refine CV.no rfl ?_
    refine CV.skip ?_
    refine CV.seq ?_
    refine CV.seq ?_
    refine CV.region rfl (fun h => nomatch h) ?_
    refine RV.step1 (OpOk.plain (ok_move (.inl rfl) rfl (by decide) rfl) rfl) ?_
    refine RV.step1 (OpOk.plain (ok_move (.inl rfl) rfl (by decide) rfl) rfl) ?_
    refine RV.step1 (OpOk.plain (ok_iraw (i := i.1) (by simpa using hc) rfl rfl (by decide) rfl rfl) rfl) ?_
    refine RV.step1 (OpOk.plain (ok_loadraw rfl rfl (by decide) rfl) rfl) ?_
    refine RV.step1 (OpOk.plain (ok_call (rVRaw_con _ _) rfl rfl (by decide) Tryz.func21 rfl rfl (.cons rfl Conv.any .nil) rfl) rfl) ?_
    refine RV.step1 (OpOk.plain (ok_not rfl rfl (by decide) rfl) rfl) ?_
    refine RV.done ?_
    refine CV.cond rfl (fun hv => ?_) (fun hv => ?_)
    · refine CV.exit ?_
      refine CV.region rfl (fun h => nomatch h) ?_
      refine RV.step1 (OpOk.plain (ok_move (.inl rfl) rfl (by decide) rfl) rfl) ?_
      refine RV.step1 (OpOk.plain (ok_add (c := ((i.1 + 1 : Nat) : Int)) (by have := i.2; rw [wrapI (by omega) (by omega)]; omega) rfl rfl (by decide) rfl rfl) rfl) ?_
      refine RV.step1 (OpOk.plain (ok_move (.inr rfl) rfl (by decide) rfl) rfl) ?_
      refine RV.done ?_
      have hlt : i.1 < ll.length := by simpa using hc
      exact ⟨⟨i.1 + 1, hlt⟩, Sub.mk ⟨XV.le_rfl _, XV.le_rfl _, XV.le_rfl _, trivial⟩ rfl rfl, by show ll.length - (i.1 + 1) < ll.length - i.1; omega⟩
    · obtain ⟨z, hz1, hz2⟩ := valid_int (by simpa using hv)
      refine CV.skip ?_
      refine CV.seq ?_
      refine CV.region rfl (fun h => nomatch h) ?_
      refine RV.step1 (OpOk.plain (ok_move (.inl rfl) rfl (by decide) rfl) rfl) ?_
      refine RV.step1 (OpOk.plain (ok_move (.inl rfl) rfl (by decide) rfl) rfl) ?_
      refine RV.step1 (OpOk.plain (ok_iraw (i := i.1) (by simpa using hc) rfl rfl (by decide) rfl rfl) rfl) ?_
      refine RV.step1 (OpOk.plain (ok_loadraw rfl rfl (by decide) rfl) rfl) ?_
      refine RV.step1 (OpOk.plain (ok_call (SRaw_con hz1 hz2) rfl rfl (by decide) Tryz.func22 rfl rfl (.cons rfl Conv.any .nil) rfl) rfl) ?_
      refine RV.step1 (OpOk.plain (ok_move (.inl rfl) rfl (by decide) rfl) rfl) ?_
      refine RV.step1 (OpOk.plain (ok_extract rfl rfl (by decide) rfl rfl) rfl) ?_
      refine RV.step1 (OpOk.plain (ok_extract rfl rfl (by decide) rfl rfl) rfl) ?_
      refine RV.step1 (OpOk.plain (ok_move (.inr rfl) rfl (by decide) rfl) rfl) ?_
      refine RV.step1 (OpOk.plain (ok_move (.inr rfl) rfl (by decide) rfl) rfl) ?_
      refine RV.done ?_
      refine CV.seq ?_
      refine CV.region rfl (fun h => nomatch h) ?_
      refine RV.step1 (OpOk.plain (ok_move (.inl rfl) rfl (by decide) rfl) rfl) ?_
      refine RV.step1 (OpOk.plain (ok_move (.inl rfl) rfl (by decide) rfl) rfl) ?_
      refine RV.step1 (OpOk.plain (ok_iraw (i := i.1) (by simpa using hc) rfl rfl (by decide) rfl rfl) rfl) ?_
      refine RV.step1 (OpOk.plain (ok_loadraw rfl rfl (by decide) rfl) rfl) ?_
      refine RV.step1 (OpOk.plain (ok_call (rSRaw_con hz1 hz2) rfl rfl (by decide) Tryz.func23 rfl rfl (.cons rfl Conv.any .nil) rfl) rfl) ?_
      refine RV.step1 (OpOk.plain (ok_move (.inl rfl) rfl (by decide) rfl) rfl) ?_
      refine RV.step1 (OpOk.plain (ok_extract rfl rfl (by decide) rfl rfl) rfl) ?_
      refine RV.step1 (OpOk.plain (ok_extract rfl rfl (by decide) rfl rfl) rfl) ?_
      refine RV.step1 (OpOk.plain (ok_move (.inr rfl) rfl (by decide) rfl) rfl) ?_
      refine RV.step1 (OpOk.plain (ok_move (.inr rfl) rfl (by decide) rfl) rfl) ?_
      refine RV.done ?_
      refine CV.seq ?_
      refine CV.region rfl (fun h => nomatch h) ?_
      refine RV.step1 (OpOk.plain (ok_move (.inl rfl) rfl (by decide) rfl) rfl) ?_
      refine RV.step1 (OpOk.plain (ok_move (.inl rfl) rfl (by decide) rfl) rfl) ?_
      refine RV.step1 (OpOk.plain (ok_neqF rfl rfl rfl (by decide) rfl rfl) rfl) ?_
      refine RV.step1 (OpOk.plain (ok_move (.inl rfl) rfl (by decide) rfl) rfl) ?_
      refine RV.step1 (OpOk.yes (ok_move (.inl rfl) rfl (by decide) rfl) rfl rfl rfl) ?_
      refine RV.step1 (OpOk.yes (ok_move (.inl rfl) rfl (by decide) rfl) rfl rfl rfl) ?_
      refine RV.step1 (OpOk.yes (ok_bneF rfl rfl rfl (by decide) rfl rfl) rfl rfl rfl) ?_
      refine RV.step1 (OpOk.plain (ok_pickF rfl rfl (by decide) rfl rfl rfl) rfl) ?_
      refine RV.done ?_
      refine CV.no rfl ?_
      refine CV.skip ?_
      refine CV.region rfl (fun h => nomatch h) ?_
      refine RV.step1 (OpOk.plain (ok_move (.inl rfl) rfl (by decide) rfl) rfl) ?_
      refine RV.step1 (OpOk.plain (ok_add (c := ((i.1 + 1 : Nat) : Int)) (by have := i.2; rw [wrapI (by omega) (by omega)]; omega) rfl rfl (by decide) rfl rfl) rfl) ?_
      refine RV.step1 (OpOk.plain (ok_move (.inr rfl) rfl (by decide) rfl) rfl) ?_
      refine RV.done ?_
      have hlt : i.1 < ll.length := by simpa using hc
      exact ⟨⟨i.1 + 1, hlt⟩, Sub.mk ⟨XV.le_rfl _, XV.le_rfl _, XV.le_rfl _, trivial⟩ rfl rfl, by show ll.length - (i.1 + 1) < ll.length - i.1; omega⟩
  · refine CV.exit ?_
    refine CV.seq ?_
    refine CV.region rfl (fun h => nomatch h) ?_
    refine RV.step1 (OpOk.plain (ok_move (.inl rfl) rfl (by decide) rfl) rfl) ?_
    refine RV.step1 (OpOk.plain (ok_call (Of_con a ha1 ha2) rfl rfl (by decide) Tryz.func24 rfl rfl (.cons rfl Conv.any .nil) rfl) rfl) ?_
    refine RV.step1 (OpOk.plain (ok_call (Small_con ha1 ha2) rfl rfl (by decide) Tryz.func22 rfl rfl (.cons rfl Conv.any .nil) rfl) rfl) ?_
    refine RV.step1 (OpOk.plain (ok_move (.inl rfl) rfl (by decide) rfl) rfl) ?_
    refine RV.step1 (OpOk.plain (ok_extract rfl rfl (by decide) rfl rfl) rfl) ?_
    refine RV.step1 (OpOk.plain (ok_extract rfl rfl (by decide) rfl rfl) rfl) ?_
    refine RV.step1 (OpOk.plain (ok_move (.inr rfl) rfl (by decide) rfl) rfl) ?_
    refine RV.step1 (OpOk.plain (ok_move (.inr rfl) rfl (by decide) rfl) rfl) ?_
    refine RV.done ?_
    refine CV.seq ?_
    refine CV.region rfl (fun h => nomatch h) ?_
    refine RV.step1 (OpOk.plain (ok_move (.inl rfl) rfl (by decide) rfl) rfl) ?_
    refine RV.step1 (OpOk.plain (ok_call (Of_con a ha1 ha2) rfl rfl (by decide) Tryz.func24 rfl rfl (.cons rfl Conv.any .nil) rfl) rfl) ?_
    refine RV.step1 (OpOk.plain (ok_move (.inl rfl) rfl (by decide) rfl) rfl) ?_
    refine RV.step1 (OpOk.plain (ok_call (rOf_con a ha1 ha2) rfl rfl (by decide) Tryz.func17 rfl rfl (.cons rfl Conv.any .nil) rfl) rfl) ?_
    refine RV.step1 (OpOk.plain (ok_call (same4T_con _) rfl rfl (by decide) Tryz.func25 rfl rfl (.cons rfl Conv.any (.cons rfl Conv.any .nil)) rfl) rfl) ?_
    refine RV.step1 (OpOk.plain (ok_move (.inl rfl) rfl (by decide) rfl) rfl) ?_
    refine RV.step1 (OpOk.yes (ok_move (.inl rfl) rfl (by decide) rfl) rfl rfl rfl) ?_
    refine RV.step1 (OpOk.yes (ok_move (.inl rfl) rfl (by decide) rfl) rfl rfl rfl) ?_
    refine RV.step1 (OpOk.yes (ok_eqlT rfl rfl rfl (by decide) rfl rfl) rfl rfl rfl) ?_
    refine RV.step1 (OpOk.plain (ok_pickT rfl rfl (by decide) rfl rfl rfl) rfl) ?_
    refine RV.step1 (OpOk.plain (ok_move (.inl rfl) rfl (by decide) rfl) rfl) ?_
    refine RV.step1 (OpOk.yes (ok_move (.inl rfl) rfl (by decide) rfl) rfl rfl rfl) ?_
    refine RV.step1 (OpOk.plain (ok_pickT rfl rfl (by decide) rfl rfl rfl) rfl) ?_
    refine RV.step1 (OpOk.plain (ok_move (.inl rfl) rfl (by decide) rfl) rfl) ?_
    refine RV.step1 (OpOk.yes (ok_call (lives4_con) rfl rfl (by decide) Tryz.func26 rfl rfl .nil rfl) rfl rfl rfl) ?_
    refine RV.step1 (OpOk.plain (ok_pickT rfl rfl (by decide) rfl rfl rfl) rfl) ?_
    refine RV.step1 (OpOk.plain (ok_move (.inr rfl) rfl (by decide) rfl) rfl) ?_
    refine RV.done ?_
    refine CV.ret ?_
    exact fin1 rfl (.inr rfl) rfl is_rfl

end Vc
end Go.Proofs.YtabjodomigllhaaGreatDoor
