/-
  Root, the reference's Root, IntegerRoots.
-/
import Derived.Test.YtabjodomigllhaaGreatDoorJB34
namespace Go.Proofs.YtabjodomigllhaaGreatDoor
open Go.RowKit
open Go.Lib (hid)
open Dg Zn
namespace Vc

theorem is_tupIB {p p' : Int} {b b' : Bool} {k k' : Nat} (hp : p = p') (hk : len p' ≤ k') (hb : b = b') : ∀ L ρ w v, (AV.tup [SA.d (Dm.int p k), SA.v (.bool b)]).is L ρ w v → (AV.tup [SA.d (Dm.int p' k'), SA.v (.bool b')]).is L ρ w v := by
  subst hp; subst hb
  rintro L ρ w v ⟨vs, rfl, h⟩
  match vs, h with
  | [a, c], ⟨h1, h2, _⟩ => exact ⟨[a, c], rfl, fun w' hw => ⟨(h1 w' hw).1, hk⟩, h2, trivial⟩

set_option maxRecDepth 100000 in
theorem RootNeg_con (x : Int) (j : Nat) (hx : x < 0) : Con Tryz.prog 32 [.d (Dm.int x j)] (.tup [.d (Dm.int 0 j), .v (.bool false)]) := by
  refine Con.of (n := 25) Tryz.func32 rfl rfl rfl rfl rfl fun cx => ?_
  refine CV.seq ?_
  refine CV.region rfl (fun h => nomatch h) ?_
  refine RV.step2 (OpOk.plain (ok_box (i := 0) rfl rfl (by decide) rfl rfl rfl rfl) rfl) ?_
  refine RV.step2 (OpOk.plain (ok_alloc (i := 1) rfl rfl (by decide) zero_int rfl rfl rfl) rfl) ?_
  refine RV.step1 (OpOk.plain (ok_move (.inr rfl) rfl (by decide) rfl) rfl) ?_
  refine RV.done ?_
  refine CV.seq ?_
  refine CV.seq ?_
  refine CV.region rfl (fun h => nomatch h) ?_
  refine RV.step1 (OpOk.plain (ok_fieldAddr fa_int0 rfl rfl (by decide) rfl) rfl) ?_
  refine RV.step1 (OpOk.plain (ok_loadf 0 fld_neg rfl rfl (by decide) rfl rfl rfl rfl ty_bool) rfl) ?_
  refine RV.step1 (OpOk.plain (ok_move (.inl rfl) rfl (by decide) rfl) rfl) ?_
  refine RV.bool (fun hb => ?_) (fun hb => False.elim (by simp [hx] at hb))
  refine RV.step1 (OpOk.skip rfl rfl rfl rfl rfl (by decide)) ?_
  refine RV.step1 (OpOk.skip rfl rfl rfl rfl rfl (by decide)) ?_
  refine RV.step1 (OpOk.skip rfl rfl rfl rfl rfl (by decide)) ?_
  refine RV.step1 (OpOk.plain (ok_pickT rfl rfl (by decide) rfl rfl rfl) rfl) ?_
  refine RV.done ?_
  refine CV.yes rfl ?_
  refine CV.seq ?_
  refine CV.region rfl (fun h => nomatch h) ?_
  refine RV.step1 (OpOk.plain (ok_buildI rfl rfl (by decide)) rfl) ?_
  refine RV.step1 (OpOk.plain (ok_store rfl rfl rfl rfl rfl rfl rfl (ty_int).2 rfl rfl rfl) rfl) ?_
  refine RV.step1 (OpOk.plain (ok_move (.inr rfl) rfl (by decide) rfl) rfl) ?_
  refine RV.done ?_
  refine CV.ret ?_
  exact fin2 rfl (.inr rfl) ⟨_, _, _, _, _, rfl, rfl, rfl, ty_int⟩ rfl (is_tupIB rfl (by show (dig 0).length ≤ j; rw [dig_zero]; exact Nat.zero_le _) rfl)
theorem Root_con (x r : Int) (b : Bool) {j : Nat} (hr : IsRoot x r b) (hj : j ≤ 1000000000) : Con Tryz.prog 32 [.d (Dm.int x j)] (.tup [.d (Dm.int r j), .v (.bool b)]) := by
  rcases hr with ⟨h, rfl, rfl⟩ | ⟨h, h0, h1, h2, rfl⟩
  · exact RootNeg_con x j h
  · rintro L ρ w vs hlt hn hwf hall
    match vs, hall with
    | [v], ⟨hv, _⟩ =>
      obtain ⟨hv, l1⟩ := is_int hv
      refine (Root_any v x w hv h (by omega)).mono ?_
      rintro e w' ⟨s, g1, g2, u, rfl, g3, g4⟩
      have e1 : ((s * s : Nat) : Int) ≤ (x.natAbs : Int) := by exact_mod_cast g1
      have e2 : (x.natAbs : Int) < (((s + 1) * (s + 1) : Nat) : Int) := by exact_mod_cast g2
      have e3 : (s : Int) = r := root_of (x := x) (by omega) (by rw [Int.natCast_mul] at e1; omega) (by rw [Int.natCast_mul, Int.natCast_add] at e2; rw [show ((1 : Nat) : Int) = 1 from rfl] at e2; omega) h0 h1 h2
      subst e3
      refine ⟨_, rfl, g4, [u, _], rfl, int_is (ρ := ρ) g3 (root_len h h0 h1 l1) hn hlt g4, ?_, trivial⟩
      show Value.bool _ = .bool _
      congr 1
      rw [Bool.eq_iff_iff]
      simp only [decide_eq_true_eq]
      constructor
      · intro e; have : ((s * s : Nat) : Int) = (x.natAbs : Int) := by rw [e]
        rw [Int.natCast_mul] at this; omega
      · intro e
        have : ((s * s : Nat) : Int) = (x.natAbs : Int) := by rw [Int.natCast_mul]; omega
        exact_mod_cast this

set_option maxRecDepth 100000 in
theorem rRootNeg_con (x : Int) (j : Nat) (hx : x < 0) : Con Tryz.prog 33 [.d (Dm.int x j)] (.tup [.d (Dm.int 0 j), .v (.bool false)]) := by
  refine Con.of (n := 54) Tryz.func33 rfl rfl rfl rfl rfl fun cx => ?_
  refine CV.seq ?_
  refine CV.region rfl (fun h => nomatch h) ?_
  refine RV.step2 (OpOk.plain (ok_box (i := 0) rfl rfl (by decide) rfl rfl rfl rfl) rfl) ?_
  refine RV.step2 (OpOk.plain (ok_alloc (i := 1) rfl rfl (by decide) zero_int rfl rfl rfl) rfl) ?_
  refine RV.step1 (OpOk.plain (ok_move (.inr rfl) rfl (by decide) rfl) rfl) ?_
  refine RV.done ?_
  refine CV.seq ?_
  refine CV.seq ?_
  refine CV.region rfl (fun h => nomatch h) ?_
  refine RV.step1 (OpOk.plain (ok_fieldAddr fa_int0 rfl rfl (by decide) rfl) rfl) ?_
  refine RV.step1 (OpOk.plain (ok_loadf 0 fld_neg rfl rfl (by decide) rfl rfl rfl rfl ty_bool) rfl) ?_
  refine RV.done ?_
  refine CV.cond rfl (fun hc => ?_) (fun hc => False.elim (by simp [hx] at hc))
  refine CV.seq ?_
  refine CV.region rfl (fun h => nomatch h) ?_
  refine RV.step1 (OpOk.plain (ok_buildI rfl rfl (by decide)) rfl) ?_
  refine RV.step1 (OpOk.plain (ok_store rfl rfl rfl rfl rfl rfl rfl (ty_int).2 rfl rfl rfl) rfl) ?_
  refine RV.step1 (OpOk.plain (ok_move (.inr rfl) rfl (by decide) rfl) rfl) ?_
  refine RV.done ?_
  refine CV.ret ?_
  exact fin2 rfl (.inr rfl) ⟨_, _, _, _, _, rfl, rfl, rfl, ty_int⟩ rfl (is_tupIB rfl (by show (dig 0).length ≤ j; rw [dig_zero]; exact Nat.zero_le _) rfl)
set_option maxRecDepth 100000 in
theorem rRootPos_con (x r : Int) (j : Nat) (hx : 0 ≤ x) (h0 : 0 ≤ r) (h1 : r * r ≤ x) (h2 : x < (r + 1) * (r + 1)) (hj : len x ≤ j) (hj2 : j ≤ 10000000) : Con Tryz.prog 33 [.d (Dm.int x j)] (.tup [.d (Dm.int r j), .v (.bool (decide (r * r = x)))]) := by
  obtain ⟨p, hp⟩ : ∃ p, p = (dig x.natAbs).length / 2 + 1 := ⟨_, rfl⟩
  have hp1 : p ≤ 10000000 := by have : (dig x.natAbs).length ≤ j := hj; omega
  have htop := root_top x.natAbs
  rw [← hp] at htop
  obtain ⟨T, hT⟩ : ∃ T : Int, T = ((1000000000 ^ p : Nat) : Int) := ⟨_, rfl⟩
  have hTl : len T ≤ j + 10 := by rw [hT]; refine Nat.le_trans (len_top p) ?_; have : (dig x.natAbs).length ≤ j := hj; omega
  have hT0 : 0 < T := by rw [hT]; exact_mod_cast Nat.pow_pos (by decide)
  have h5 : (x.natAbs : Int) < ((1000000000 ^ p * 1000000000 ^ p : Nat) : Int) := by exact_mod_cast htop
  rw [Int.natCast_mul, ← hT] at h5
  have hTT : x < T * T := by omega
  refine Con.of (n := 54) Tryz.func33 rfl rfl rfl rfl rfl fun cx => ?_
  refine CV.seq ?_
  refine CV.region rfl (fun h => nomatch h) ?_
  refine RV.step2 (OpOk.plain (ok_box (i := 0) rfl rfl (by decide) rfl rfl rfl rfl) rfl) ?_
  refine RV.step2 (OpOk.plain (ok_alloc (i := 1) rfl rfl (by decide) zero_int rfl rfl rfl) rfl) ?_
  refine RV.step1 (OpOk.plain (ok_move (.inr rfl) rfl (by decide) rfl) rfl) ?_
  refine RV.done ?_
  refine CV.seq ?_
  refine CV.seq ?_
  refine CV.region rfl (fun h => nomatch h) ?_
  refine RV.step1 (OpOk.plain (ok_fieldAddr fa_int0 rfl rfl (by decide) rfl) rfl) ?_
  refine RV.step1 (OpOk.plain (ok_loadf 0 fld_neg rfl rfl (by decide) rfl rfl rfl rfl ty_bool) rfl) ?_
  refine RV.done ?_
  refine CV.cond rfl (fun hc => False.elim (by simp at hc; omega)) (fun hc => ?_)
  refine CV.skip ?_
  refine CV.seq ?_
  refine CV.region rfl (fun h => nomatch h) ?_
  refine RV.step1 (OpOk.plain (ok_buildI rfl rfl (by decide)) rfl) ?_
  refine RV.step2 (OpOk.plain (ok_alloc (i := 2) rfl rfl (by decide) zero_int rfl rfl rfl) rfl) ?_
  refine RV.step1 (OpOk.plain (ok_store rfl rfl rfl rfl rfl rfl rfl (ty_int).2 rfl rfl rfl) rfl) ?_
  refine RV.done ?_
  refine CV.seq ?_
  refine CV.region rfl (fun h => nomatch h) ?_
  refine RV.step1 (OpOk.plain (ok_fieldAddr fa_int1 rfl rfl (by decide) rfl) rfl) ?_
  refine RV.step1 (OpOk.plain (ok_loadf 1 fld_dig rfl rfl (by decide) rfl rfl rfl rfl ty_ints) rfl) ?_
  refine RV.step1 (OpOk.plain (ok_len rfl rfl (by decide) rfl) rfl) ?_
  refine RV.step1 (OpOk.plain (ok_quo (c := (((dig x.natAbs).length / 2 : Nat) : Int)) (by decide) (by rw [Int.tdiv_eq_ediv_of_nonneg (by omega), wrapI (by omega) (by have : (dig x.natAbs).length ≤ j := hj; omega)]; omega) rfl rfl (by decide) rfl rfl) rfl) ?_
  refine RV.step1 (OpOk.plain (ok_add (c := ((p : Nat) : Int)) (by rw [wrapI (by omega) (by omega)]; omega) rfl rfl (by decide) rfl rfl) rfl) ?_
  refine RV.step1 (OpOk.plain (ok_makeI (m := p) (by omega) rfl rfl (by decide) rfl rfl) rfl) ?_
  refine RV.step1 (OpOk.plain (ok_oneI (c := 1) rfl rfl (by decide)) rfl) ?_
  refine RV.step1 (OpOk.plain (ok_appendF (by rw [List.length_replicate]; omega) (by decide) (by rw [List.length_replicate]; show p + 1 ≤ _; omega) rfl rfl (by decide) rfl rfl) rfl) ?_
  refine RV.step1 (OpOk.plain (ok_call (normal_con _ _ (j + 10) (Dig_top p) (by rw [val_top]; show len ((1000000000 ^ p : Nat) : Int) ≤ _; rw [← hT]; exact hTl)) rfl rfl (by decide) Tryz.func96 rfl rfl (.cons rfl Conv.any (.cons rfl Conv.any .nil)) rfl) rfl) ?_
  refine RV.step2 (OpOk.plain (ok_alloc (i := 3) rfl rfl (by decide) zero_int rfl rfl rfl) rfl) ?_
  refine RV.step1 (OpOk.plain (ok_store rfl rfl rfl rfl rfl rfl rfl (ty_int).2 rfl rfl rfl) rfl) ?_
  refine RV.done ?_
  refine CV.seq ?_
  refine CV.region rfl (fun h => nomatch h) ?_
  refine RV.step1 (OpOk.plain (ok_call (rOf_con _ (by decide) (by decide)) rfl rfl (by decide) Tryz.func17 rfl rfl (.cons rfl Conv.any .nil) rfl) rfl) ?_
  refine RV.step2 (OpOk.plain (ok_alloc (i := 4) rfl rfl (by decide) zero_int rfl rfl rfl) rfl) ?_
  refine RV.step1 (OpOk.plain (ok_store rfl rfl rfl rfl rfl rfl rfl (ty_int).2 rfl rfl rfl) rfl) ?_
  refine RV.done ?_
  refine CV.seq ?_
  refine CV.region rfl (fun h => nomatch h) ?_
  refine RV.step1 (OpOk.plain (ok_call (rOf_con _ (by decide) (by decide)) rfl rfl (by decide) Tryz.func17 rfl rfl (.cons rfl Conv.any .nil) rfl) rfl) ?_
  refine RV.step2 (OpOk.plain (ok_alloc (i := 5) rfl rfl (by decide) zero_int rfl rfl rfl) rfl) ?_
  refine RV.step1 (OpOk.plain (ok_store rfl rfl rfl rfl rfl rfl rfl (ty_int).2 rfl rfl rfl) rfl) ?_
  refine RV.done ?_
  refine CV.seq ?_
  refine CV.block ?_
  refine CV.loop (X := {q : Int × Int // 0 ≤ q.1 ∧ q.1 < q.2 ∧ q.1 * q.1 ≤ x ∧ x < q.2 * q.2 ∧ q.2 ≤ T}) (fun q => [(.s 4, .av (.one (.ptr 2 0))), (.b 2, .blk 24 [(some 2, .d (Dm.int q.1.1 (j + 10)))]), (.s 5, .av (.one (.ptr 3 0))), (.b 3, .blk 24 [(some 2, .d (Dm.int q.1.2 (j + 10)))]), (.s 6, .av (.one (.ptr 4 0))), (.b 4, .blk 24 [(some 2, .d (Dm.int 1 3))]), (.s 7, .av (.one (.ptr 5 0))), (.b 5, .blk 24 [(some 2, .d (Dm.int 2 3))]), (.s 1, .av (.one (.ptr 0 0))), (.b 0, .blk 24 [(some 2, .d (Dm.int x j))]), (.s 2, .av (.one (.ptr 1 0))), (.b 1, .blk 24 [(some 2, .v (.agg #[.bool false, .slice none 0 0]))])]) (fun q => (q.1.2 - q.1.1).toNat) ⟨(0, T), by simp; exact ⟨hT0, hx, hTT⟩⟩ (Sub.mk ⟨XV.le_rfl _, XV.le_int rfl (by show (dig 0).length ≤ _; rw [dig_zero]; exact Nat.zero_le _), XV.le_rfl _, XV.le_int (by show mk false (val (List.replicate p 0 ++ [1])) = T; rw [val_top, hT]; rfl) hTl, XV.le_rfl _, XV.le_rfl _, XV.le_rfl _, XV.le_rfl _, XV.le_rfl _, XV.le_rfl _, XV.le_rfl _, XV.le_rfl _, trivial⟩ rfl rfl) (fun q => ?_)
  obtain ⟨⟨lo, hi⟩, q1, q2, q3, q4, q5⟩ := q
  simp only at q1 q2 q3 q4 q5 ⊢
  have hlen : ∀ z, 0 ≤ z → z ≤ T → len z ≤ j + 10 := fun z z0 z1 => Nat.le_trans (len_mono (by omega)) hTl
  refine CV.seq ?_
  refine CV.seq ?_
  refine CV.region rfl (fun _ => by kernel_rfl) ?_
  refine RV.step1 (OpOk.plain (ok_load rfl rfl (by decide) rfl rfl rfl ty_int) rfl) ?_
  refine RV.step1 (OpOk.plain (ok_load rfl rfl (by decide) rfl rfl rfl ty_int) rfl) ?_
  refine RV.step1 (OpOk.plain (ok_call (rAdd_con _ _ (by omega) (by omega)) rfl rfl (by decide) Tryz.func18 rfl rfl (.cons rfl Conv.any (.cons rfl Conv.any .nil)) rfl) rfl) ?_
  refine RV.step1 (OpOk.plain (ok_load rfl rfl (by decide) rfl rfl rfl ty_int) rfl) ?_
  refine RV.step1 (OpOk.plain (ok_call (rCompare_con _ _) rfl rfl (by decide) Tryz.func84 rfl rfl (.cons rfl Conv.any (.cons rfl Conv.any .nil)) rfl) rfl) ?_
  refine RV.step1 (OpOk.plain (ok_lss rfl rfl (by decide) rfl rfl) rfl) ?_
  refine RV.drawn (by kernel_rfl) ?_
  refine CV.cond rfl (fun hc => ?_) (fun hc => ?_)
  · refine CV.skip ?_
    refine CV.block ?_
    refine CV.seq ?_
    refine CV.region rfl (fun _ => by kernel_rfl) ?_
    refine RV.step1 (OpOk.plain (ok_load rfl rfl (by decide) rfl rfl rfl ty_int) rfl) ?_
    refine RV.step1 (OpOk.plain (ok_load rfl rfl (by decide) rfl rfl rfl ty_int) rfl) ?_
    refine RV.step1 (OpOk.plain (ok_call (rAdd_con _ _ (by omega) (by omega)) rfl rfl (by decide) Tryz.func18 rfl rfl (.cons rfl Conv.any (.cons rfl Conv.any .nil)) rfl) rfl) ?_
    refine RV.step1 (OpOk.plain (ok_load rfl rfl (by decide) rfl rfl rfl ty_int) rfl) ?_
    refine RV.step1 (OpOk.plain (ok_call (rDiv_con _ _ (by omega) (by omega)) rfl rfl (by decide) Tryz.func29 rfl rfl (.cons rfl Conv.any (.cons rfl Conv.any .nil)) rfl) rfl) ?_
    refine RV.step1 (OpOk.plain (ok_move (.inl rfl) rfl (by decide) rfl) rfl) ?_
    refine RV.step1 (OpOk.plain (ok_extract rfl rfl (by decide) rfl rfl) rfl) ?_
    refine RV.step1 (OpOk.plain (ok_extract rfl rfl (by decide) rfl rfl) rfl) ?_
    refine RV.step2 (OpOk.plain (ok_alloc (i := 6) rfl rfl (by decide) zero_int rfl rfl rfl) rfl) ?_
    refine RV.step2 (OpOk.plain (ok_alloc (i := 7) rfl rfl (by decide) zero_int rfl rfl rfl) rfl) ?_
    refine RV.step1 (OpOk.plain (ok_store rfl rfl rfl rfl rfl rfl rfl (ty_int).2 rfl rfl rfl) rfl) ?_
    refine RV.step1 (OpOk.plain (ok_store rfl rfl rfl rfl rfl rfl rfl (ty_int).2 rfl rfl rfl) rfl) ?_
    refine RV.drawn (by kernel_rfl) ?_
    refine CV.seq ?_
    refine CV.region rfl (fun _ => by kernel_rfl) ?_
    refine RV.step1 (OpOk.plain (ok_load rfl rfl (by decide) rfl rfl rfl ty_int) rfl) ?_
    refine RV.step1 (OpOk.plain (ok_load rfl rfl (by decide) rfl rfl rfl ty_int) rfl) ?_
    refine RV.step1 (OpOk.plain (ok_call (rMul_con _ _ (by omega) (by omega)) rfl rfl (by decide) Tryz.func27 rfl rfl (.cons rfl Conv.any (.cons rfl Conv.any .nil)) rfl) rfl) ?_
    refine RV.step1 (OpOk.plain (ok_load rfl rfl (by decide) rfl rfl rfl ty_int) rfl) ?_
    refine RV.step1 (OpOk.plain (ok_call (rCompare_con _ _) rfl rfl (by decide) Tryz.func84 rfl rfl (.cons rfl Conv.any (.cons rfl Conv.any .nil)) rfl) rfl) ?_
    refine RV.step1 (OpOk.plain (ok_leq rfl rfl (by decide) rfl rfl) rfl) ?_
    refine RV.drawn (by kernel_rfl) ?_
    refine CV.cond rfl (fun hd => ?_) (fun hd => ?_)
    · refine CV.region rfl (fun h => nomatch h) ?_
      refine RV.step1 (OpOk.plain (ok_load rfl rfl (by decide) rfl rfl rfl ty_int) rfl) ?_
      refine RV.step1 (OpOk.plain (ok_store rfl rfl rfl rfl rfl rfl rfl (ty_int).2 rfl rfl rfl) rfl) ?_
      refine RV.done ?_
      have hc' := cmp_lt.1 hc
      have hd' := cmp_le.1 hd
      exact ⟨⟨((lo + hi) / 2, hi), by simp; refine ⟨by omega, by omega, hd', q4, q5⟩⟩, Sub.mk ⟨XV.le_rfl _, XV.le_int rfl (hlen _ (by show 0 ≤ (lo + hi) / 2; omega) (by show (lo + hi) / 2 ≤ T; omega)), XV.le_rfl _, XV.le_rfl _, XV.le_rfl _, XV.le_rfl _, XV.le_rfl _, XV.le_rfl _, XV.le_rfl _, XV.le_rfl _, XV.le_rfl _, XV.le_rfl _, trivial⟩ rfl rfl, by show (hi - (lo + hi) / 2).toNat < (hi - lo).toNat; omega⟩
    · refine CV.region rfl (fun h => nomatch h) ?_
      refine RV.step1 (OpOk.plain (ok_load rfl rfl (by decide) rfl rfl rfl ty_int) rfl) ?_
      refine RV.step1 (OpOk.plain (ok_store rfl rfl rfl rfl rfl rfl rfl (ty_int).2 rfl rfl rfl) rfl) ?_
      refine RV.done ?_
      have hc' := cmp_lt.1 hc
      have hd' : ¬ ((lo + hi) / 2) * ((lo + hi) / 2) ≤ x := fun e => by rw [cmp_le.2 e] at hd; cases hd
      exact ⟨⟨(lo, (lo + hi) / 2), by simp; refine ⟨by omega, by omega, q3, by omega, by omega⟩⟩, Sub.mk ⟨XV.le_rfl _, XV.le_rfl _, XV.le_rfl _, XV.le_int rfl (hlen _ (by show 0 ≤ (lo + hi) / 2; omega) (by show (lo + hi) / 2 ≤ T; omega)), XV.le_rfl _, XV.le_rfl _, XV.le_rfl _, XV.le_rfl _, XV.le_rfl _, XV.le_rfl _, XV.le_rfl _, XV.le_rfl _, trivial⟩ rfl rfl, by show ((lo + hi) / 2 - lo).toNat < (hi - lo).toNat; omega⟩
  · refine CV.exit ?_
    refine CV.seq ?_
    refine CV.region rfl (fun _ => by kernel_rfl) ?_
    refine RV.step1 (OpOk.plain (ok_load rfl rfl (by decide) rfl rfl rfl ty_int) rfl) ?_
    refine RV.step1 (OpOk.plain (ok_load rfl rfl (by decide) rfl rfl rfl ty_int) rfl) ?_
    refine RV.step1 (OpOk.plain (ok_load rfl rfl (by decide) rfl rfl rfl ty_int) rfl) ?_
    refine RV.step1 (OpOk.plain (ok_call (rMul_con _ _ (by omega) (by omega)) rfl rfl (by decide) Tryz.func27 rfl rfl (.cons rfl Conv.any (.cons rfl Conv.any .nil)) rfl) rfl) ?_
    refine RV.step1 (OpOk.plain (ok_load rfl rfl (by decide) rfl rfl rfl ty_int) rfl) ?_
    refine RV.step1 (OpOk.plain (ok_call (rCompare_con _ _) rfl rfl (by decide) Tryz.func84 rfl rfl (.cons rfl Conv.any (.cons rfl Conv.any .nil)) rfl) rfl) ?_
    refine RV.step1 (OpOk.plain (ok_eql rfl rfl (by decide) rfl rfl) rfl) ?_
    refine RV.step1 (OpOk.plain (ok_store rfl rfl rfl rfl rfl rfl rfl (ty_int).2 rfl rfl rfl) rfl) ?_
    refine RV.step1 (OpOk.plain (ok_move (.inr rfl) rfl (by decide) rfl) rfl) ?_
    refine RV.drawn (by kernel_rfl) ?_
    refine CV.ret ?_
    have hc' : ¬ lo + 1 < hi := fun e => by rw [cmp_lt.2 e] at hc; cases hc
    have e1 : hi = lo + 1 := by omega
    subst e1
    have e2 := root_of q1 q3 q4 h0 h1 h2
    subst e2
    exact fin2 rfl (.inr rfl) ⟨_, _, _, _, _, rfl, rfl, rfl, ty_int⟩ rfl (is_tupIB rfl (root_len hx h0 h1 hj) cmp_eq)

end Vc
end Go.Proofs.YtabjodomigllhaaGreatDoor
