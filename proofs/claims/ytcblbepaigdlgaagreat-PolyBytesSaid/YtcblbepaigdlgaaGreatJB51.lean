/-
  Plain: encodings of polynomials. Package
-/
import Derived.Test.YtcblbepaigdlgaaGreatJB47
import Derived.Test.YtcblbepaigdlgaaGreatJB50
import Derived.Test.YtcblbepaigdlgaaGreatJB3
import Derived.Test.YtcblbepaigdlgaaGreatJB12
import Derived.Test.YtcblbepaigdlgaaGreatJB25
import Derived.Test.YtcblbepaigdlgaaGreatJB22
set_option linter.unusedVariables false
set_option linter.unusedSimpArgs false
set_option linter.unusedSectionVars false
namespace Go.Proofs.YtcblbepaigdlgaaGreat
open Go.RowKit
open Dg Zn Tx
namespace Vc
def canR (p q : Int) : Rat := Rat.divInt p (if q = 0 then 1 else q)
def dR (bs : List Int) : Rat × Nat × Int := (canR (decQ bs).1 (decQ bs).2.1, (decQ bs).2.2.1, (decQ bs).2.2.2)
theorem canR_facts {p q : Int} (h : q = 0 ∨ (0 ≤ q ∧ q ≠ 1 ∧ Int.gcd p q = 1)) : (canR p q).num = p ∧ qd (canR p q) = q := by
 unfold canR
 rcases h with rfl | ⟨h1, h2, h3⟩
 ·rw [if_pos rfl]
  obtain ⟨h4, h5⟩ := whole_parts p
  refine ⟨h4, ?_⟩
  unfold qd
  rw [if_pos (by omega)]
 ·by_cases h0 : q = 0
  ·subst h0
   rw [if_pos rfl]
   obtain ⟨h4, h5⟩ := whole_parts p
   refine ⟨h4, ?_⟩
   unfold qd
   rw [if_pos (by omega)]
  ·rw [if_neg h0]
   have hq : 0 < q := by omega
   have e1 := low_num (p := p) (q := q) h3
   have e2 := low_den (p := p) (q := q) h3 h0
   have hs : q.sign = 1 := Int.sign_eq_one_of_pos hq
   refine ⟨by rw [e1, hs, Int.one_mul], ?_⟩
   unfold qd
   split
   ·omega
   ·omega
theorem canR_self (a : Rat) : canR a.num (qd a) = a := by
 unfold canR
 rw [dn_qd, Rat.num_divInt_den]
theorem decQ_can {bs : List Int} (h : (decQ bs).2.2.2 = 0) : (canR (decQ bs).1 (decQ bs).2.1).num = (decQ bs).1 ∧ qd (canR (decQ bs).1 (decQ bs).2.1) = (decQ bs).2.1 := by
 unfold decQ at h ⊢
 split at h
 ·rename_i h1; exact absurd h h1
 ·rename_i h1
  rw [if_neg h1]
  split at h
  ·rename_i h2; exact absurd h h2
  ·rename_i h2
   rw [if_neg h2]
   split at h
   ·rename_i h3
    rw [if_pos h3]
    exact canR_facts h3
   ·exact absurd h (by decide)
theorem decI_pos {bs : List Int} (hb : W.Bs bs) (h : (decI bs).2.2 = 0) : 1 ≤ (decI bs).2.1 := by
 unfold decI at h ⊢
 split at h
 ·rename_i h1; exact absurd h h1
 ·rename_i h1
  rw [if_neg h1]
  split at h
  ·rename_i h2
   rw [if_pos h2]
   rcases hq : W.decList W.dec 1 bs with ⟨l, v, e⟩
   rw [hq] at h1
   have he : e = 0 := Decidable.byContradiction fun q => h1 q
   subst he
   obtain ⟨_, h4, _⟩ := W.decInts_good hb hq
   show 1 ≤ v
   have h5 := congrArg List.length h4
   have h6 : 1 ≤ (W.encInts l).length := by
    show 1 ≤ (W.code _ ++ _).length
    rw [List.length_append]
    have := W.code_pos (l.length : Int)
    omega
   rw [List.length_take] at h5
   omega
  ·exact absurd h (by decide)
theorem decQ_used {bs : List Int} (hb : W.Bs bs) : (decQ bs).2.2.1 ≤ bs.length ∧ ((decQ bs).2.2.2 = 0 → 1 ≤ (decQ bs).2.2.1) := by
 have b1 := decI_bd hb
 have b2 := decI_bd (hb.drop (decI bs).2.1)
 rw [List.length_drop] at b2
 unfold decQ
 split
 ·exact ⟨Nat.zero_le _, fun h => absurd h (by assumption)⟩
 ·rename_i h1
  split
  ·exact ⟨Nat.zero_le _, fun h => absurd h (by assumption)⟩
  ·split
   ·refine ⟨by show (decI bs).2.1 + (decI (bs.drop (decI bs).2.1)).2.1 ≤ _; omega, fun _ => ?_⟩
    have := decI_pos hb (Decidable.byContradiction fun q => h1 q)
    show 1 ≤ (decI bs).2.1 + _
    omega
   ·exact ⟨Nat.zero_le _, fun h => absurd h (by decide)⟩
def encP (p : List Rat) : List Int := W.code (p.length : Int) ++ p.flatMap encR
def stP (bs : List Int) : List Rat × Nat × Int := W.steps dR bs (W.dec bs).2.1 (W.dec bs).1.toNat
def decP (bs : List Int) : List Rat × Nat × Int :=
 if (W.dec bs).2.2 ≠ 0 then ([], 0, (W.dec bs).2.2)
 else if (W.dec bs).1 < 0 then ([], 0, 2)
 else if (stP bs).2.2 ≠ 0 then ([], 0, (stP bs).2.2)
 else if (stP bs).1 ≠ [] ∧ lastR (stP bs).1 = 0 then ([], 0, 2)
 else ((stP bs).1, (stP bs).2.1, 0)
theorem back_R (a : Rat) (hp : len a.num ≤ 1000000000) (hq : len (qd a) ≤ 1000000000) : W.Back dR encR a := fun t => by
 unfold dR
 rw [decQ_enc a hp hq t, canR_self]
theorem decI_cut (z : Int) (hz : len z ≤ 1000000000) (i : Nat) (hi : i < (Zn.encI z).length) : decI ((Zn.encI z).take i) = (0, 0, 3) := by
 have h := W.decInts_cut (row0 z) (by unfold row0; rw [List.length_cons, List.length_map]; show len z + 1 ≤ _; omega) (encI_bd z) i hi
 unfold decI
 rw [show Zn.encI z = W.encInts (row0 z) from rfl, h]
 rfl
theorem cut_R (a : Rat) (hp : len a.num ≤ 1000000000) (hq : len (qd a) ≤ 1000000000) : W.Cut dR encR a := fun i hi => by
 show (decQ ((encR a).take i)).2.2.2 = 3
 have hl : (encR a).length = (Zn.encI a.num).length + (Zn.encI (qd a)).length := List.length_append
 by_cases h : i < (Zn.encI a.num).length
 ·have e : (encR a).take i = (Zn.encI a.num).take i := List.take_append_of_le_length (by omega)
  unfold decQ
  rw [e, decI_cut _ hp i h]
  rfl
 ·have e : (encR a).take i = Zn.encI a.num ++ (Zn.encI (qd a)).take (i - (Zn.encI a.num).length) := by
   show (Zn.encI a.num ++ Zn.encI (qd a)).take i = _
   rw [List.take_append, List.take_of_length_le (by omega)]
  have h1 := decI_enc a.num hp ((Zn.encI (qd a)).take (i - (Zn.encI a.num).length))
  have h2 := decI_cut (qd a) hq (i - (Zn.encI a.num).length) (by omega)
  unfold decQ
  rw [e, h1]
  simp only
  rw [List.drop_left, h2]
  rfl
theorem dec_code (n : Nat) (hn : n ≤ 1000) (t : List Int) : W.dec (W.code (n : Int) ++ t) = ((n : Int), (W.code (n : Int)).length, 0) := W.dec_code _ (by omega) (by omega) t
theorem decP_enc {p : List Rat} (tp : trimR p = p) (hn : p.length ≤ 1000) (hz : ∀ a ∈ p, len a.num ≤ 1000000000 ∧ len (qd a) ≤ 1000000000) (t : List Int) : decP (encP p ++ t) = (p, (encP p).length, 0) := by
 have h1 : W.dec (encP p ++ t) = ((p.length : Int), (W.code (p.length : Int)).length, 0) := by
  unfold encP
  rw [List.append_assoc]
  exact dec_code _ hn _
 have h2 : stP (encP p ++ t) = (p, (encP p).length, 0) := by
  unfold stP
  rw [h1]
  have h := W.steps_enc (d := dR) (c := encR) p (fun a ha => back_R a (hz a ha).1 (hz a ha).2) (W.code (p.length : Int)) t p.length (Nat.le_refl _)
  simp only [Int.toNat_natCast]
  rw [List.take_length] at h
  rw [show encP p ++ t = W.code (p.length : Int) ++ p.flatMap encR ++ t from rfl, h]
  show _ = (p, (W.code _ ++ _).length, 0)
  rw [List.length_append]
 unfold decP
 rw [h1, h2, if_neg (by simp), if_neg (by show ¬ (p.length : Int) < 0; omega), if_neg (by simp), if_neg]
 rintro ⟨h3, h4⟩
 exact last_ne tp h3 h4
theorem decP_cut {p : List Rat} (hn : p.length ≤ 1000) (hz : ∀ a ∈ p, len a.num ≤ 1000000000 ∧ len (qd a) ≤ 1000000000) (i : Nat) (hi : i < (encP p).length) : (decP ((encP p).take i)).2.2 ≠ 0 := by
 have hl : (encP p).length = (W.code (p.length : Int)).length + (p.flatMap encR).length := List.length_append
 by_cases h : i < (W.code (p.length : Int)).length
 ·have e : (encP p).take i = (W.code (p.length : Int)).take i := List.take_append_of_le_length (by omega)
  have h1 := W.dec_prefix (p.length : Int) i h
  unfold decP
  rw [e, h1, if_pos (by decide)]
  show (3 : Int) ≠ 0
  decide
 ·have e : (encP p).take i = W.code (p.length : Int) ++ (p.flatMap encR).take (i - (W.code (p.length : Int)).length) := by
   show (W.code (p.length : Int) ++ p.flatMap encR).take i = _
   rw [List.take_append, List.take_of_length_le (by omega)]
  have h1 := dec_code p.length hn ((p.flatMap encR).take (i - (W.code (p.length : Int)).length))
  obtain ⟨k, k1, k2⟩ := W.steps_cut (d := dR) (c := encR) p (fun a ha => back_R a (hz a ha).1 (hz a ha).2) (fun a ha => cut_R a (hz a ha).1 (hz a ha).2) (W.code (p.length : Int)) (i - (W.code (p.length : Int)).length) (by omega)
  have h2 : (stP ((encP p).take i)).2.2 = 3 := by
   unfold stP
   rw [e, h1]
   simp only [Int.toNat_natCast]
   have h3 := W.steps_stuck (d := dR) (b := W.code (p.length : Int) ++ (p.flatMap encR).take (i - (W.code (p.length : Int)).length)) (u := (W.code (p.length : Int)).length) (k := k) (by rw [k2]; decide) (p.length - k)
   rw [show k + (p.length - k) = p.length by omega] at h3
   rw [h3, k2]
  unfold decP
  rw [h2]
  rw [e, h1, if_neg (by simp), if_neg (by show ¬ (p.length : Int) < 0; omega), if_pos (by decide)]
  show (3 : Int) ≠ 0
  decide
theorem encR_bs' (a : Rat) : W.Bs (encR a) := (encI_bs _).append (encI_bs _)
theorem encP_bs (p : List Rat) : W.Bs (encP p) := (W.code_bs _).append fun x hx => by
 obtain ⟨a, _, ha⟩ := List.mem_flatMap.1 hx
 exact encR_bs' a x ha
theorem encR_len {a : Rat} {K : Nat} (h1 : len a.num ≤ K) (h2 : len (qd a) ≤ K) : (encR a).length ≤ 18 * K + 36 := by
 have l1 := (encI_length a.num).2
 have l2 := (encI_length (qd a)).2
 show (Zn.encI a.num ++ Zn.encI (qd a)).length ≤ _
 rw [List.length_append]
 omega
theorem encP_len {p : List Rat} {K : Nat} (hz : ∀ a ∈ p, len a.num ≤ K ∧ len (qd a) ≤ K) : 1 ≤ (encP p).length ∧ (encP p).length ≤ 9 + p.length * (18 * K + 36) := by
 have h : ∀ l : List Rat, (∀ a ∈ l, len a.num ≤ K ∧ len (qd a) ≤ K) → (l.flatMap encR).length ≤ l.length * (18 * K + 36) := by
  intro l
  induction l with
  | nil => intro _; exact Nat.zero_le _
  | cons a l ih =>
   intro hl
   rw [List.flatMap_cons, List.length_append, List.length_cons, Nat.succ_mul]
   have h1 := ih fun b hb => hl b (List.mem_cons_of_mem _ hb)
   have h2 := encR_len (hl a List.mem_cons_self).1 (hl a List.mem_cons_self).2
   omega
 have h1 := h p hz
 have h2 := W.code_pos (p.length : Int)
 have h3 : (W.code (p.length : Int)).length ≤ 9 := by
  have := W.code_length (p.length : Int)
  have := W.wid_le (W.mag (p.length : Int))
  omega
 have hl : (encP p).length = (W.code (p.length : Int)).length + (p.flatMap encR).length := List.length_append
 omega
end Vc
end Go.Proofs.YtcblbepaigdlgaaGreat

namespace Go.Proofs.YtcblbepaigdlgaaGreat
open Go.RowKit
open Go.Lib (hid)
open Dg Zn Tx
namespace Vc
set_option maxRecDepth 100000
theorem GetInt_con (bs : List Int) (hb : W.Bs bs) {n : Int} {u : Nat} {e : Int} (hq : W.dec bs = (n, u, e)) : Con Tryz.prog 98 [ZI .u8 bs] (.tup [.v (.int .i64 n), .v (.int .i64 (u : Int)), .v (.int .i64 e)]) := by
 rintro L ρ w vs hlt hn hwf hall
 match vs, hall with
 | [v], ⟨h1, _⟩ =>
  refine (GetInt_any v bs w (byte_view hb (zi_row h1))).mono ?_
  rw [hq]
  rintro e w' ⟨rfl, rfl⟩
  exact ⟨_, rfl, Below.refl _ _, ⟨[_, _, _], rfl, rfl, rfl, rfl, trivial⟩⟩
theorem rGetInt_con (bs : List Int) (hb : W.Bs bs) {n : Int} {u : Nat} {e : Int} (hq : W.dec bs = (n, u, e)) : Con Tryz.prog 100 [ZI .u8 bs] (.tup [.v (.int .i64 n), .v (.int .i64 (u : Int)), .v (.int .i64 e)]) := by
 rintro L ρ w vs hlt hn hwf hall
 match vs, hall with
 | [v], ⟨h1, _⟩ =>
  refine (refGetInt_any v bs w (byte_view hb (zi_row h1))).mono ?_
  rw [hq]
  rintro e w' ⟨rfl, hbel⟩
  exact ⟨_, rfl, hbel, ⟨[_, _, _], rfl, rfl, rfl, rfl, trivial⟩⟩
theorem wireInt_con (n : Int) (h1 : -9223372036854775808 ≤ n) (h2 : n ≤ 9223372036854775807) : ConRow (D := Dm) Tryz.prog 94 [.v (.int .i64 n)] 5 none (ziV .u8 (W.code n)) :=
 conRow_fresh fun L ρ w vs hall => by
  match vs, hall with
  | [v], ⟨h3, _⟩ =>
   obtain rfl : v = _ := h3
   exact (Int_any w.heap.size n w h2 h1 (Nat.le_refl _)).mono fun e w' h => h.fresh
theorem refInt_con (n : Int) (h1 : -9223372036854775808 ≤ n) (h2 : n ≤ 9223372036854775807) : ConRow (D := Dm) Tryz.prog 96 [.v (.int .i64 n)] 5 none (ziV .u8 (W.code n)) :=
 conRow_fresh fun L ρ w vs hall => by
  match vs, hall with
  | [v], ⟨h3, _⟩ =>
   obtain rfl : v = _ := h3
   exact refInt_any n w h2 h1
def preP (p : List Rat) (k : Nat) : List Int := W.code (p.length : Int) ++ (p.take k).flatMap encR
theorem preP_zero (p : List Rat) : preP p 0 = W.code (p.length : Int) := by simp [preP]
theorem preP_all (p : List Rat) : preP p p.length = encP p := by simp [preP, encP]
theorem preP_succ {p : List Rat} {k : Nat} (h : k < p.length) : preP p k ++ encR (p.getD k 0) = preP p (k + 1) := by
 unfold preP
 rw [take_getD h, List.flatMap_append, List.append_assoc, List.flatMap_singleton]
theorem preP_len {p : List Rat} {K : Nat} (hz : ∀ a ∈ p, len a.num ≤ K ∧ len (qd a) ≤ K) (k : Nat) : (preP p k).length ≤ 9 + p.length * (18 * K + 36) := by
 have h := (encP_len hz).2
 have e : encP p = preP p k ++ (p.drop k).flatMap encR := by
  unfold preP encP
  rw [List.append_assoc, ← List.flatMap_append, List.take_append_drop]
 rw [e, List.length_append] at h
 omega
section
variable (p : List Rat) (K B : Nat) (hp : p.length ≤ 100) (hBB : B ≤ 1000000) (hz : ∀ a ∈ p, len a.num ≤ B ∧ len (qd a) ≤ B)
include hp hBB hz
theorem getD_sz (k : Nat) : len (p.getD k 0).num ≤ B ∧ len (qd (p.getD k 0)) ≤ B := by
 rcases Nat.lt_or_ge k p.length with h | h
 ·rw [List.getD_eq_getElem?_getD, List.getElem?_eq_getElem h]
  exact hz _ (List.getElem_mem h)
 ·rw [getD_zero h]
  have h0 : len 0 ≤ B := by show (dig 0).length ≤ _; rw [dig_zero]; exact Nat.zero_le _
  exact ⟨h0, h0⟩
theorem PEncode_con : ConRow Tryz.prog 46 [PL p K] 5 none (ziV .u8 (encP p)) := by
 have hpre := preP_len hz
 have hmul := Nat.mul_le_mul (show p.length ≤ 100 from hp) (show 18 * B + 36 ≤ 18000036 by omega)
 refine ConRow.of (n := 21) Tryz.func46 rfl rfl rfl rfl (ziV_vals _) fun cx hB => ?_
 refine sr rfl ?_
 refine xn ?_
 refine RV.done (sr rfl ?_)
 refine xm ?_
 refine p1 (ok_lenL plV_length u_poly rfl rfl bd rfl) ?_
 refine RV.step3 (OpOk.plain (ok_callRow (r := 8) (wireInt_con (p.length : Int) (by omega) (by omega)) (ziV_vals _) rfl rfl bd Tryz.func94 rfl rfl (xa rfl) rfl rfl rfl) rfl) ?_
 refine xn ?_
 refine RV.done ?_
 refine CV.seq ?_
 refine sr rfl ?_
 refine xm ?_
 refine p1 (ok_lenL plV_length u_poly rfl rfl bd rfl) ?_
 refine xm ?_
 refine RV.done ?_
 refine CV.block ?_
 refine CV.loop (X := {k : Nat // k ≤ p.length}) (fun k => [(.s 11, .av (.one (.v (.int .i64 (k.1 : Int))))), (.s 10, .av (.one (.v (.int .i64 (p.length : Int))))), (.s 9, .av (.one (PL p K))), (.s 3, .av (.one (.sl 8 (preP p k.1).length))), (.b 8, .row 5 none (ziV .u8 (preP p k.1))), (KP, .np [8])]) (fun k => p.length - k.1) ⟨0, Nat.zero_le _⟩ (Sub.mk ⟨XV.le_rfl _, XV.le_rfl _, XV.le_rfl _, XV.le_sl rfl (by rw [ziV_length, preP_zero]), XV.le_row (by rw [preP_zero]), trivial, trivial⟩ rfl rfl rfl rfl) (fun k => ?_)
 obtain ⟨k, hk⟩ := k
 simp only
 refine sr rfl ?_
 refine p1 (ok_lss rfl rfl bd rfl rfl) ?_
 refine RV.done ?_
 refine CV.seq ?_
 refine CV.cond rfl (fun hc => ?_) (fun hc => ?_)
 ·have hlt : k < p.length := (by have := of_decide_eq_true hc; omega)
  have hsz := getD_sz p B hp hBB hz k
  have hnx := preP_succ hlt
  have hl1 := hpre k
  have hl2 := hpre (k + 1)
  have hl3 : (preP p (k + 1)).length = (preP p k).length + (encR (p.getD k 0)).length := (by rw [← hnx, List.length_append])
  have hi1 := (encI_length (p.getD k 0).num).2
  have hi2 := (encI_length (qd (p.getD k 0))).2
  refine CV.skip ?_
  refine CV.seq ?_
  refine CV.block ?_
  refine sr rfl ?_
  refine p1 (ok_idxL (k := some 4) (i := k) (plV_at hlt) u_poly sz_rat (by decide) rfl rfl bd rfl rfl) ?_
  refine p1 (ok_loadP ty_rat (by decide) rfl rfl bd rfl) ?_
  refine p2 (ok_alloc (i := 0) rfl rfl bd zero_rat rfl rfl rfl rfl) ?_
  refine p1 (ok_store rfl rfl rfl rfl rfl rfl rfl (ty_rat).2 rfl rfl rfl rfl) ?_
  refine RV.done ?_
  refine CV.region rfl (fun h => nomatch h) ?_
  refine xm ?_
  refine p1 (ok_load rfl rfl bd rfl rfl rfl ty_rat) ?_
  refine p1 (ok_callRowD (G := Dm.gen (lstG none (ziV .u8 (encR (p.getD k 0))))) (REncode_con _ _ (by omega) (by omega) (by omega)) (ziV_vals _) (lstG_Lst none _) (lstG_Lst0 none _) rfl rfl bd Tryz.func95 rfl rfl (xa rfl)) ?_
  refine RV.step4 (OpOk.plain (ok_appendN (r := 8) (r' := 18) (k := none) (lst_elems (by decide) (ziV_ptrs _)) (by rw [ziV_length, ziV_length]; omega) (by rw [ziV_length, ziV_length]; omega) u_bytes inf_u8 rfl rfl (by rw [ziV_length]) rfl rfl bd rfl rfl rfl rfl rfl rfl rfl) rfl) ?_
  refine xn ?_
  refine RV.done ?_
  refine CV.region rfl (fun h => nomatch h) ?_
  refine p1 (ok_add (c := ((k + 1 : Nat) : Int)) (by rw [wrapI (by omega) (by omega)]; omega) rfl rfl bd rfl rfl) ?_
  refine xm ?_
  refine RV.done ?_
  exact ⟨⟨k + 1, hlt⟩, Sub.mkr (fun i => if i = 8 then 18 else i) ⟨XV.le_same, XV.le_same, XV.le_same, XV.le_sl rfl (by rw [ziV_length]; exact hl3.symm), XV.le_row (by rw [ziV_append, hnx]), trivial, trivial⟩ rfl rfl rfl rfl, by show p.length - (k + 1) < p.length - k; omega⟩
 ·refine CV.exit ?_
  refine sr rfl ?_
  refine xm ?_
  refine xn ?_
  refine RV.done ?_
  refine CV.ret ?_
  have hkp : k = p.length := (by have := of_decide_eq_false hc; omega)
  exact finRow (by rw [hkp, preP_all]) (by rw [ziV_length, hkp, preP_all]) rfl (.inr rfl) rfl rfl
theorem rEncodeP_con : ConRow Tryz.prog 48 [PL p K] 5 none (ziV .u8 (encP p)) := by
 have hpre := preP_len hz
 have hmul := Nat.mul_le_mul (show p.length ≤ 100 from hp) (show 18 * B + 36 ≤ 18000036 by omega)
 refine ConRow.of (n := 22) Tryz.func48 rfl rfl rfl rfl (ziV_vals _) fun cx hB => ?_
 refine sr rfl ?_
 refine xn ?_
 refine RV.done (sr rfl ?_)
 refine xm ?_
 refine p1 (ok_lenL plV_length u_poly rfl rfl bd rfl) ?_
 refine RV.step3 (OpOk.plain (ok_callRow (r := 7) (refInt_con (p.length : Int) (by omega) (by omega)) (ziV_vals _) rfl rfl bd Tryz.func96 rfl rfl (xa rfl) rfl rfl rfl) rfl) ?_
 refine xn ?_
 refine RV.done ?_
 refine CV.seq ?_
 refine sr rfl ?_
 refine xn ?_
 refine RV.done ?_
 refine CV.block ?_
 refine CV.loop (X := {k : Nat // k ≤ p.length}) (fun k => [(.s 4, .av (.one (.v (.int .i64 (k.1 : Int))))), (.s 0, .av (.one (PL p K))), (.s 3, .av (.one (.sl 7 (preP p k.1).length))), (.b 7, .row 5 none (ziV .u8 (preP p k.1))), (KP, .np [7])]) (fun k => p.length - k.1) ⟨0, Nat.zero_le _⟩ (Sub.mk ⟨XV.le_rfl _, XV.le_rfl _, XV.le_sl rfl (by rw [ziV_length, preP_zero]), XV.le_row (by rw [preP_zero]), trivial, trivial⟩ rfl rfl rfl rfl) (fun k => ?_)
 obtain ⟨k, hk⟩ := k
 simp only
 refine CV.seq ?_
 refine sr rfl ?_
 refine xm ?_
 refine xm ?_
 refine p1 (ok_lenL plV_length u_poly rfl rfl bd rfl) ?_
 refine p1 (ok_lss rfl rfl bd rfl rfl) ?_
 refine RV.done ?_
 refine CV.cond rfl (fun hc => ?_) (fun hc => ?_)
 ·have hlt : k < p.length := (by have := of_decide_eq_true hc; omega)
  have hsz := getD_sz p B hp hBB hz k
  have hnx := preP_succ hlt
  have hl1 := hpre k
  have hl2 := hpre (k + 1)
  have hl3 : (preP p (k + 1)).length = (preP p k).length + (encR (p.getD k 0)).length := (by rw [← hnx, List.length_append])
  have hi1 := (encI_length (p.getD k 0).num).2
  have hi2 := (encI_length (qd (p.getD k 0))).2
  refine CV.skip ?_
  refine CV.seq ?_
  refine CV.block ?_
  refine CV.region rfl (fun h => nomatch h) ?_
  refine xm ?_
  refine xm ?_
  refine xm ?_
  refine p1 (ok_idxL (k := some 4) (i := k) (plV_at hlt) u_poly sz_rat (by decide) rfl rfl bd rfl rfl) ?_
  refine p1 (ok_loadP ty_rat (by decide) rfl rfl bd rfl) ?_
  refine p1 (ok_callRowD (G := Dm.gen (lstG none (ziV .u8 (encR (p.getD k 0))))) (rfEncode_con _ _ (by omega) (by omega) (by omega)) (ziV_vals _) (lstG_Lst none _) (lstG_Lst0 none _) rfl rfl bd Tryz.func97 rfl rfl (xa rfl)) ?_
  refine RV.step4 (OpOk.plain (ok_appendN (r := 7) (r' := 20) (k := none) (lst_elems (by decide) (ziV_ptrs _)) (by rw [ziV_length, ziV_length]; omega) (by rw [ziV_length, ziV_length]; omega) u_bytes inf_u8 rfl rfl (by rw [ziV_length]) rfl rfl bd rfl rfl rfl rfl rfl rfl rfl) rfl) ?_
  refine xn ?_
  refine RV.done ?_
  refine CV.region rfl (fun h => nomatch h) ?_
  refine xm ?_
  refine p1 (ok_add (c := ((k + 1 : Nat) : Int)) (by rw [wrapI (by omega) (by omega)]; omega) rfl rfl bd rfl rfl) ?_
  refine xn ?_
  refine RV.done ?_
  exact ⟨⟨k + 1, hlt⟩, Sub.mkr (fun i => if i = 7 then 20 else i) ⟨XV.le_same, XV.le_same, XV.le_sl rfl (by rw [ziV_length]; exact hl3.symm), XV.le_row (by rw [ziV_append, hnx]), trivial, trivial⟩ rfl rfl rfl rfl, by show p.length - (k + 1) < p.length - k; omega⟩
 ·refine CV.exit ?_
  refine sr rfl ?_
  refine xm ?_
  refine xn ?_
  refine RV.done ?_
  refine CV.ret ?_
  have hkp : k = p.length := (by have := of_decide_eq_false hc; omega)
  exact finRow (by rw [hkp, preP_all]) (by rw [ziV_length, hkp, preP_all]) rfl (.inr rfl) rfl rfl
end
/-! Decode. -/
theorem is_decP {bs : List Int} {l l' : List Rat} {u : Nat} {e : Int} {j : Nat} (h : decP bs = (l', u, e)) (hl : ∀ L ρ w v, (PL l j).is L ρ w v → (PL l' 1000).is L ρ w v) : ∀ L ρ w v, (AV.tup [PL l j, .v (.int .i64 (u : Int)), .v (.int .i64 e)]).is L ρ w v → (AV.tup [PL (decP bs).1 1000, .v (.int .i64 ((decP bs).2.1 : Nat)), .v (.int .i64 (decP bs).2.2)]).is L ρ w v := by
 rw [h]
 exact is_tri hl rfl rfl
theorem is_decPz {bs : List Int} {e : Int} (h : decP bs = ([], 0, e)) : ∀ L ρ w v, (AV.tup [(.v (.slice none 0 0) : SA Dm), .v (.int .i64 0), .v (.int .i64 e)]).is L ρ w v → (AV.tup [PL (decP bs).1 1000, .v (.int .i64 ((decP bs).2.1 : Nat)), .v (.int .i64 (decP bs).2.2)]).is L ρ w v := by
 rw [h]
 exact is_tri (fun L ρ w v h => nil_pl L ρ w v h) rfl rfl
theorem steps_nil {bs : List Int} {u : Nat} : W.steps dR bs u 0 = ([], u, 0) := rfl
theorem steps_next {bs : List Int} {u j v k : Nat} {l : List Rat} {P Q : Int} (h : W.steps dR bs u j = (l, v, 0)) (hd : decQ (bs.drop v) = (P, Q, k, 0)) : W.steps dR bs u (j + 1) = (l ++ [canR P Q], v + k, 0) := W.steps_ok h (by unfold dR; rw [hd])
theorem steps_bad {bs : List Int} {u j v k n : Nat} {l : List Rat} {P Q f : Int} (h : W.steps dR bs u j = (l, v, 0)) (hd : decQ (bs.drop v) = (P, Q, k, f)) (hf : f ≠ 0) (hn : j < n) : (W.steps dR bs u n).2.2 = f := by
 have h1 := W.steps_err h (x := canR P Q) (m := k) (e := f) (by unfold dR; rw [hd]) hf
 have h2 := W.steps_stuck (d := dR) (b := bs) (u := u) (k := j + 1) (by rw [h1]; exact hf) (n - (j + 1))
 rw [show j + 1 + (n - (j + 1)) = n by omega] at h2
 rw [h2, h1]
section
variable (bs : List Int) (hb : W.Bs bs) (hl : bs.length ≤ 1000)
include hb hl
theorem PDecode_con : Con Tryz.prog 49 [ZI .u8 bs] (.tup [PL (decP bs).1 1000, .v (.int .i64 ((decP bs).2.1 : Nat)), .v (.int .i64 (decP bs).2.2)]) := by
 obtain ⟨n, u, e, hd⟩ : ∃ n u e, W.dec bs = (n, u, e) := ⟨_, _, _, rfl⟩
 have hcase := W.dec_cases bs hb
 rw [hd] at hcase
 have hn1 : -9223372036854775808 ≤ n ∧ n ≤ 9223372036854775807 := by rcases hcase with ⟨n', u', h1, _, _, h2, h3⟩ | h1 | h1; obtain ⟨rfl, rfl, rfl⟩ := (by simpa using h1 : n = n' ∧ u = u' ∧ e = 0); exact ⟨h2, h3⟩; obtain ⟨rfl, _⟩ := (by simpa using h1 : n = 0 ∧ u = 0 ∧ e = 2); exact ⟨by decide, by decide⟩; obtain ⟨rfl, _⟩ := (by simpa using h1 : n = 0 ∧ u = 0 ∧ e = 3); exact ⟨by decide, by decide⟩
 have hu1 : u ≤ bs.length := by rcases hcase with ⟨n', u', h1, _, h2, _⟩ | h1 | h1; obtain ⟨rfl, rfl, rfl⟩ := (by simpa using h1 : n = n' ∧ u = u' ∧ e = 0); exact h2; obtain ⟨_, rfl, _⟩ := (by simpa using h1 : n = 0 ∧ u = 0 ∧ e = 2); exact Nat.zero_le _; obtain ⟨_, rfl, _⟩ := (by simpa using h1 : n = 0 ∧ u = 0 ∧ e = 3); exact Nat.zero_le _
 have hdec : decP bs = (if e ≠ 0 then ([], 0, e) else if n < 0 then ([], 0, 2) else if (W.steps dR bs u n.toNat).2.2 ≠ 0 then ([], 0, (W.steps dR bs u n.toNat).2.2) else if (W.steps dR bs u n.toNat).1 ≠ [] ∧ lastR (W.steps dR bs u n.toNat).1 = 0 then ([], 0, 2) else ((W.steps dR bs u n.toNat).1, (W.steps dR bs u n.toNat).2.1, 0)) := by unfold decP stP; rw [hd]
 refine Con.of (n := 49) Tryz.func49 rfl rfl rfl rfl rfl fun cx hfr => ?_
 refine sr rfl ?_
 refine xn ?_
 refine xn ?_
 refine xn ?_
 refine RV.done (sr rfl ?_)
 refine xm ?_
 refine xc (GetInt_con bs hb hd) Tryz.func98 (xa rfl) hfr ?_
 refine xm ?_
 refine p1 (ok_extract rfl rfl bd rfl rfl) ?_
 refine p1 (ok_extract rfl rfl bd rfl rfl) ?_
 refine p1 (ok_extract rfl rfl bd rfl rfl) ?_
 refine xn ?_
 refine xn ?_
 refine xn ?_
 refine RV.done ?_
 refine CV.seq ?_
 refine sr rfl ?_
 refine xm ?_
 refine p1 (ok_neq rfl rfl bd rfl rfl) ?_
 refine RV.done ?_
 refine CV.cond rfl (fun h1 => ?_) (fun h1 => ?_)
 ·refine sr rfl ?_
  refine xm ?_
  refine xn ?_
  refine xn ?_
  refine xn ?_
  refine RV.done ?_
  refine CV.ret ?_
  have g1 : e ≠ 0 := (by simpa using h1)
  rw [if_pos g1] at hdec
  exact fin3 rfl (.inr rfl) rfl rfl rfl (is_decPz hdec)
 ·refine CV.skip ?_
  refine CV.seq ?_
  refine sr rfl ?_
  refine xm ?_
  refine p1 (ok_lss rfl rfl bd rfl rfl) ?_
  refine RV.done ?_
  refine CV.cond rfl (fun h2 => ?_) (fun h2 => ?_)
  ·refine sr rfl ?_
   refine xn ?_
   refine xn ?_
   refine xn ?_
   refine RV.done ?_
   refine CV.ret ?_
   have g1 : ¬ e ≠ 0 := (by simpa using h1)
   have g2 : n < 0 := of_decide_eq_true h2
   rw [if_neg g1, if_pos g2] at hdec
   exact fin3 rfl (.inr rfl) rfl rfl rfl (is_decPz hdec)
  ·refine CV.skip ?_
   refine sr rfl ?_
   refine xn ?_
   refine RV.done ?_
   refine CV.seq ?_
   refine CV.seq ?_
   refine CV.nilrow 8 100 30 (some 4) rfl rfl rfl rfl ?_
   refine CV.region rfl (fun h => nomatch h) ?_
   refine xm ?_
   refine xm ?_
   refine RV.done ?_
   refine CV.block ?_
   refine CV.loop (X := {s : Nat × List Rat × Nat // W.steps dR bs u s.1 = (s.2.1, s.2.2, 0) ∧ (s.1 : Int) ≤ n ∧ s.2.2 ≤ bs.length ∧ s.1 ≤ s.2.2 ∧ s.2.1.length = s.1}) (fun s => [(.s 24, .av (.one (.v (.int .i64 (s.1.1 : Int))))), (.s 23, .av (.one (.v (.int .i64 n)))), (.s 6, .av (.one (.v (.int .i64 (s.1.2.2 : Int))))), (.s 8, .av (.one (.sl 100 s.1.1))), (.b 100, .row 30 (some 4) (plV s.1.2.1 1000)), (.s 0, .av (.one (ZI .u8 bs)))]) (fun s => n.toNat - s.1.1) ⟨(0, [], u), steps_nil, by have := of_decide_eq_false h2; show ((0 : Nat) : Int) ≤ n; omega, hu1, Nat.zero_le _, rfl⟩ (Sub.mk ⟨XV.le_rfl _, XV.le_rfl _, XV.le_rfl _, XV.le_rfl _, XV.le_row rfl, XV.le_rfl _, trivial⟩ rfl rfl) (fun s => ?_)
   obtain ⟨⟨j, l, v⟩, hs, hj, hv, hjv, hlj⟩ := s
   simp only at hs hj hv hjv hlj ⊢
   obtain ⟨P, Q, k, f, hq⟩ : ∃ P Q k f, decQ (bs.drop v) = (P, Q, k, f) := ⟨_, _, _, _, rfl⟩
   have hused := decQ_used (hb.drop v)
   rw [hq, List.length_drop] at hused
   simp only at hused
   have hcan := decQ_can (bs := bs.drop v)
   rw [hq] at hcan
   simp only at hcan
   refine sr rfl ?_
   refine p1 (ok_lss rfl rfl bd rfl rfl) ?_
   refine RV.done ?_
   refine CV.seq ?_
   refine CV.cond rfl (fun hc => ?_) (fun hc => ?_)
   ·refine CV.skip ?_
    refine CV.seq ?_
    refine CV.block ?_
    refine sr rfl ?_
    refine xm ?_
    refine xm ?_
    refine p1 (ok_cutL (k := none) (l' := ziV .u8 (bs.drop v)) (some v) none none (by show ((ziV .u8 bs).take (ziV .u8 bs).length).drop v = _; rw [List.take_length, ziV_drop]) (by decide) (by rw [ziV_length]; exact hv) (Nat.le_refl _) (Nat.le_refl _) (fun _ => rfl) u_bytes sz_u8 rfl rfl bd rfl rfl trivial trivial) ?_
    refine xd rfl (show Con Tryz.prog _ _ (.tup [.d (Dm.rt P Q 1000), .v (.int .i64 (k : Int)), .v (.int .i64 f)]) from by have q := RDecode_con (bs.drop v) (hb.drop v) (by rw [List.length_drop]; omega); rw [hq] at q; exact q) Tryz.func99 (xa rfl) hfr ?_
    refine xm ?_
    refine p1 (ok_extract rfl rfl bd rfl rfl) ?_
    refine p1 (ok_extract rfl rfl bd rfl rfl) ?_
    refine p1 (ok_extract rfl rfl bd rfl rfl) ?_
    refine p2 (ok_alloc (i := 0) rfl rfl bd zero_rat rfl rfl rfl rfl) ?_
    refine p1 (ok_store rfl rfl rfl rfl rfl rfl rfl (ty_rat).2 rfl rfl rfl rfl) ?_
    refine xn ?_
    refine xn ?_
    refine RV.done ?_
    refine CV.seq ?_
    refine sr rfl ?_
    refine xm ?_
    refine p1 (ok_neq rfl rfl bd rfl rfl) ?_
    refine RV.done ?_
    refine CV.cond rfl (fun h3 => ?_) (fun h3 => ?_)
    ·refine sr rfl ?_
     refine xm ?_
     refine xn ?_
     refine xn ?_
     refine xn ?_
     refine RV.done ?_
     refine CV.ret ?_
     have g1 : ¬ e ≠ 0 := (by simpa using h1)
     have g2 : ¬ n < 0 := of_decide_eq_false h2
     have g3 : f ≠ 0 := (by simpa using h3)
     have hlt : (j : Int) < n := of_decide_eq_true hc
     have g4 := steps_bad (n := n.toNat) hs hq g3 (by omega)
     rw [if_neg g1, if_neg g2, g4, if_pos g3] at hdec
     exact fin3 rfl (.inr rfl) rfl rfl rfl (is_decPz hdec)
    ·refine CV.skip ?_
     refine sr rfl ?_
     refine xm ?_
     refine p1 (ok_load rfl rfl bd rfl rfl rfl ty_rat) ?_
     refine p1 (ok_litD (G := Dm.gen (lstG (some 4) (plV [canR P Q] 1000))) (ss := plV [canR P Q] 1000) (lstG_Lst _ _) u_poly zs_rat rfl rfl rfl plV_kind rfl rfl rfl bd (.cons rfl ⟨rfl, is_rt (hcan (by simpa using h3)).1.symm (hcan (by simpa using h3)).2.symm (Nat.le_refl _)⟩ .nil)) ?_
     refine RV.step3 (OpOk.plain (ok_append (r := 100) (r' := 101) (k := some 4) (lst_elems (by decide) plV_ptrs) (by rw [plV_length, plV_length, hlj]; show (j + 1) * 64 ≤ _; omega) (by rw [plV_length, plV_length, hlj]; show j + 1 ≤ _; omega) u_poly inf_rat rfl rfl rfl plV_plain (by rw [plV_length, hlj]) rfl rfl bd rfl rfl rfl rfl rfl rfl rfl rfl) rfl) ?_
     refine xn ?_
     refine RV.done ?_
     refine CV.region rfl (fun h => nomatch h) ?_
     refine xm ?_
     refine xm ?_
     refine p1 (ok_add (c := ((v + k : Nat) : Int)) (by rw [wrapI (by omega) (by omega)]; omega) rfl rfl bd rfl rfl) ?_
     refine xn ?_
     refine RV.done ?_
     refine CV.region rfl (fun h => nomatch h) ?_
     refine p1 (ok_add (c := ((j + 1 : Nat) : Int)) (by rw [wrapI (by omega) (by omega)]; omega) rfl rfl bd rfl rfl) ?_
     refine xm ?_
     refine RV.done ?_
     have hf0 : f = 0 := (by simpa using h3)
     have hlt : (j : Int) < n := of_decide_eq_true hc
     subst hf0
     have hk1 := hused.2 rfl
     exact ⟨⟨(j + 1, l ++ [canR P Q], v + k), steps_next hs hq, by show ((j + 1 : Nat) : Int) ≤ n; omega, by show v + k ≤ bs.length; omega, by show j + 1 ≤ v + k; omega, by show (l ++ [_]).length = j + 1; rw [List.length_append, hlj]; rfl⟩, Sub.mkr (fun i => if i = 100 then 101 else i) ⟨XV.le_same, XV.le_same, XV.le_same, XV.le_sl rfl rfl, XV.le_row plV_append, XV.le_same, trivial⟩ rfl rfl rfl rfl, by show n.toNat - (j + 1) < n.toNat - j; omega⟩
   ·refine CV.exit ?_
    refine CV.seq ?_
    refine CV.seq ?_
    have hjn : n.toNat = j := (by have := of_decide_eq_false hc; omega)
    rw [hjn, hs] at hdec
    refine CV.freeze (r := 100) (t := 8) (G := Dm.gen (lstG (some 4) (plV l 1000))) (cx.bw hfr) rfl rfl (by rw [plV_length, hlj]) rfl rfl (lstG_Lst _ _) (lstG_Lst0 _ _) ?_
    refine CV.region rfl (fun h => nomatch h) ?_
    refine xm ?_
    refine xd rfl (padded_con l 1000 (by omega)) Tryz.func57 (xa rfl) hfr ?_
    refine RV.done ?_
    refine CV.cond rfl (fun h4 => ?_) (fun h4 => ?_)
    ·refine sr rfl ?_
     refine xn ?_
     refine xn ?_
     refine xn ?_
     refine RV.done ?_
     refine CV.ret ?_
     have g1 : ¬ e ≠ 0 := (by simpa using h1)
     have g2 : ¬ n < 0 := of_decide_eq_false h2
     have g4 := of_decide_eq_true h4
     rw [if_neg g1, if_neg g2, if_neg (by simp), if_pos g4] at hdec
     exact fin3 rfl (.inr rfl) rfl rfl rfl (is_decPz hdec)
    ·refine CV.skip ?_
     refine sr rfl ?_
     refine xm ?_
     refine xm ?_
     refine xn ?_
     refine xn ?_
     refine xn ?_
     refine RV.done ?_
     refine CV.ret ?_
     have g1 : ¬ e ≠ 0 := (by simpa using h1)
     have g2 : ¬ n < 0 := of_decide_eq_false h2
     have g4 := of_decide_eq_false h4
     rw [if_neg g1, if_neg g2, if_neg (by simp), if_neg g4] at hdec
     exact fin3 rfl (.inr rfl) rfl rfl rfl (is_decP hdec (fun _ _ _ _ h => h))
theorem rDecodeP_con : Con Tryz.prog 50 [ZI .u8 bs] (.tup [PL (decP bs).1 1000, .v (.int .i64 ((decP bs).2.1 : Nat)), .v (.int .i64 (decP bs).2.2)]) := by
 obtain ⟨n, u, e, hd⟩ : ∃ n u e, W.dec bs = (n, u, e) := ⟨_, _, _, rfl⟩
 have hcase := W.dec_cases bs hb
 rw [hd] at hcase
 have hn1 : -9223372036854775808 ≤ n ∧ n ≤ 9223372036854775807 := by rcases hcase with ⟨n', u', h1, _, _, h2, h3⟩ | h1 | h1; obtain ⟨rfl, rfl, rfl⟩ := (by simpa using h1 : n = n' ∧ u = u' ∧ e = 0); exact ⟨h2, h3⟩; obtain ⟨rfl, _⟩ := (by simpa using h1 : n = 0 ∧ u = 0 ∧ e = 2); exact ⟨by decide, by decide⟩; obtain ⟨rfl, _⟩ := (by simpa using h1 : n = 0 ∧ u = 0 ∧ e = 3); exact ⟨by decide, by decide⟩
 have hu1 : u ≤ bs.length := by rcases hcase with ⟨n', u', h1, _, h2, _⟩ | h1 | h1; obtain ⟨rfl, rfl, rfl⟩ := (by simpa using h1 : n = n' ∧ u = u' ∧ e = 0); exact h2; obtain ⟨_, rfl, _⟩ := (by simpa using h1 : n = 0 ∧ u = 0 ∧ e = 2); exact Nat.zero_le _; obtain ⟨_, rfl, _⟩ := (by simpa using h1 : n = 0 ∧ u = 0 ∧ e = 3); exact Nat.zero_le _
 have hdec : decP bs = (if e ≠ 0 then ([], 0, e) else if n < 0 then ([], 0, 2) else if (W.steps dR bs u n.toNat).2.2 ≠ 0 then ([], 0, (W.steps dR bs u n.toNat).2.2) else if (W.steps dR bs u n.toNat).1 ≠ [] ∧ lastR (W.steps dR bs u n.toNat).1 = 0 then ([], 0, 2) else ((W.steps dR bs u n.toNat).1, (W.steps dR bs u n.toNat).2.1, 0)) := by unfold decP stP; rw [hd]
 refine Con.of (n := 52) Tryz.func50 rfl rfl rfl rfl rfl fun cx hfr => ?_
 refine sr rfl ?_
 refine xn ?_
 refine xn ?_
 refine xn ?_
 refine RV.done (sr rfl ?_)
 refine xm ?_
 refine xc (rGetInt_con bs hb hd) Tryz.func100 (xa rfl) hfr ?_
 refine xm ?_
 refine p1 (ok_extract rfl rfl bd rfl rfl) ?_
 refine p1 (ok_extract rfl rfl bd rfl rfl) ?_
 refine p1 (ok_extract rfl rfl bd rfl rfl) ?_
 refine xn ?_
 refine xn ?_
 refine xn ?_
 refine RV.done ?_
 refine CV.seq ?_
 refine sr rfl ?_
 refine xm ?_
 refine p1 (ok_neq rfl rfl bd rfl rfl) ?_
 refine RV.done ?_
 refine CV.cond rfl (fun h1 => ?_) (fun h1 => ?_)
 ·refine sr rfl ?_
  refine xm ?_
  refine xn ?_
  refine xn ?_
  refine xn ?_
  refine RV.done ?_
  refine CV.ret ?_
  have g1 : e ≠ 0 := (by simpa using h1)
  rw [if_pos g1] at hdec
  exact fin3 rfl (.inr rfl) rfl rfl rfl (is_decPz hdec)
 ·refine CV.skip ?_
  refine CV.seq ?_
  refine sr rfl ?_
  refine xm ?_
  refine p1 (ok_lss rfl rfl bd rfl rfl) ?_
  refine RV.done ?_
  refine CV.cond rfl (fun h2 => ?_) (fun h2 => ?_)
  ·refine sr rfl ?_
   refine xn ?_
   refine xn ?_
   refine xn ?_
   refine RV.done ?_
   refine CV.ret ?_
   have g1 : ¬ e ≠ 0 := (by simpa using h1)
   have g2 : n < 0 := of_decide_eq_true h2
   rw [if_neg g1, if_pos g2] at hdec
   exact fin3 rfl (.inr rfl) rfl rfl rfl (is_decPz hdec)
  ·refine CV.skip ?_
   refine sr rfl ?_
   refine xn ?_
   refine RV.done ?_
   refine CV.seq ?_
   refine CV.seq ?_
   refine CV.nilrow 8 100 30 (some 4) rfl rfl rfl rfl ?_
   refine CV.region rfl (fun h => nomatch h) ?_
   refine xn ?_
   refine RV.done ?_
   refine CV.block ?_
   refine CV.loop (X := {s : Nat × List Rat × Nat // W.steps dR bs u s.1 = (s.2.1, s.2.2, 0) ∧ (s.1 : Int) ≤ n ∧ s.2.2 ≤ bs.length ∧ s.1 ≤ s.2.2 ∧ s.2.1.length = s.1}) (fun s => [(.s 9, .av (.one (.v (.int .i64 (s.1.1 : Int))))), (.s 5, .av (.one (.v (.int .i64 n)))), (.s 6, .av (.one (.v (.int .i64 (s.1.2.2 : Int))))), (.s 8, .av (.one (.sl 100 s.1.1))), (.b 100, .row 30 (some 4) (plV s.1.2.1 1000)), (.s 0, .av (.one (ZI .u8 bs)))]) (fun s => n.toNat - s.1.1) ⟨(0, [], u), steps_nil, by have := of_decide_eq_false h2; show ((0 : Nat) : Int) ≤ n; omega, hu1, Nat.zero_le _, rfl⟩ (Sub.mk ⟨XV.le_rfl _, XV.le_rfl _, XV.le_rfl _, XV.le_rfl _, XV.le_row rfl, XV.le_rfl _, trivial⟩ rfl rfl) (fun s => ?_)
   obtain ⟨⟨j, l, v⟩, hs, hj, hv, hjv, hlj⟩ := s
   simp only at hs hj hv hjv hlj ⊢
   obtain ⟨P, Q, k, f, hq⟩ : ∃ P Q k f, decQ (bs.drop v) = (P, Q, k, f) := ⟨_, _, _, _, rfl⟩
   have hused := decQ_used (hb.drop v)
   rw [hq, List.length_drop] at hused
   simp only at hused
   have hcan := decQ_can (bs := bs.drop v)
   rw [hq] at hcan
   simp only at hcan
   refine CV.seq ?_
   refine sr rfl ?_
   refine xm ?_
   refine xm ?_
   refine p1 (ok_lss rfl rfl bd rfl rfl) ?_
   refine RV.done ?_
   refine CV.cond rfl (fun hc => ?_) (fun hc => ?_)
   ·refine CV.skip ?_
    refine CV.seq ?_
    refine CV.block ?_
    refine sr rfl ?_
    refine xm ?_
    refine xm ?_
    refine p1 (ok_cutL (k := none) (l' := ziV .u8 (bs.drop v)) (some v) none none (by show ((ziV .u8 bs).take (ziV .u8 bs).length).drop v = _; rw [List.take_length, ziV_drop]) (by decide) (by rw [ziV_length]; exact hv) (Nat.le_refl _) (Nat.le_refl _) (fun _ => rfl) u_bytes sz_u8 rfl rfl bd rfl rfl trivial trivial) ?_
    refine xd rfl (show Con Tryz.prog _ _ (.tup [.d (Dm.rt P Q 1000), .v (.int .i64 (k : Int)), .v (.int .i64 f)]) from by have q := rfDecode_con (bs.drop v) (hb.drop v) (by rw [List.length_drop]; omega); rw [hq] at q; exact q) Tryz.func101 (xa rfl) hfr ?_
    refine xm ?_
    refine p1 (ok_extract rfl rfl bd rfl rfl) ?_
    refine p1 (ok_extract rfl rfl bd rfl rfl) ?_
    refine p1 (ok_extract rfl rfl bd rfl rfl) ?_
    refine p2 (ok_alloc (i := 0) rfl rfl bd zero_rat rfl rfl rfl rfl) ?_
    refine p1 (ok_store rfl rfl rfl rfl rfl rfl rfl (ty_rat).2 rfl rfl rfl rfl) ?_
    refine xn ?_
    refine xn ?_
    refine RV.done ?_
    refine CV.seq ?_
    refine sr rfl ?_
    refine xm ?_
    refine p1 (ok_neq rfl rfl bd rfl rfl) ?_
    refine RV.done ?_
    refine CV.cond rfl (fun h3 => ?_) (fun h3 => ?_)
    ·refine sr rfl ?_
     refine xm ?_
     refine xn ?_
     refine xn ?_
     refine xn ?_
     refine RV.done ?_
     refine CV.ret ?_
     have g1 : ¬ e ≠ 0 := (by simpa using h1)
     have g2 : ¬ n < 0 := of_decide_eq_false h2
     have g3 : f ≠ 0 := (by simpa using h3)
     have hlt : (j : Int) < n := of_decide_eq_true hc
     have g4 := steps_bad (n := n.toNat) hs hq g3 (by omega)
     rw [if_neg g1, if_neg g2, g4, if_pos g3] at hdec
     exact fin3 rfl (.inr rfl) rfl rfl rfl (is_decPz hdec)
    ·refine CV.skip ?_
     refine sr rfl ?_
     refine xm ?_
     refine p1 (ok_load rfl rfl bd rfl rfl rfl ty_rat) ?_
     refine p1 (ok_litD (G := Dm.gen (lstG (some 4) (plV [canR P Q] 1000))) (ss := plV [canR P Q] 1000) (lstG_Lst _ _) u_poly zs_rat rfl rfl rfl plV_kind rfl rfl rfl bd (.cons rfl ⟨rfl, is_rt (hcan (by simpa using h3)).1.symm (hcan (by simpa using h3)).2.symm (Nat.le_refl _)⟩ .nil)) ?_
     refine RV.step3 (OpOk.plain (ok_append (r := 100) (r' := 101) (k := some 4) (lst_elems (by decide) plV_ptrs) (by rw [plV_length, plV_length, hlj]; show (j + 1) * 64 ≤ _; omega) (by rw [plV_length, plV_length, hlj]; show j + 1 ≤ _; omega) u_poly inf_rat rfl rfl rfl plV_plain (by rw [plV_length, hlj]) rfl rfl bd rfl rfl rfl rfl rfl rfl rfl rfl) rfl) ?_
     refine xn ?_
     refine RV.done ?_
     refine CV.region rfl (fun h => nomatch h) ?_
     refine xm ?_
     refine xm ?_
     refine p1 (ok_add (c := ((v + k : Nat) : Int)) (by rw [wrapI (by omega) (by omega)]; omega) rfl rfl bd rfl rfl) ?_
     refine xn ?_
     refine RV.done ?_
     refine CV.region rfl (fun h => nomatch h) ?_
     refine xm ?_
     refine p1 (ok_add (c := ((j + 1 : Nat) : Int)) (by rw [wrapI (by omega) (by omega)]; omega) rfl rfl bd rfl rfl) ?_
     refine xn ?_
     refine RV.done ?_
     have hf0 : f = 0 := (by simpa using h3)
     have hlt : (j : Int) < n := of_decide_eq_true hc
     subst hf0
     have hk1 := hused.2 rfl
     exact ⟨⟨(j + 1, l ++ [canR P Q], v + k), steps_next hs hq, by show ((j + 1 : Nat) : Int) ≤ n; omega, by show v + k ≤ bs.length; omega, by show j + 1 ≤ v + k; omega, by show (l ++ [_]).length = j + 1; rw [List.length_append, hlj]; rfl⟩, Sub.mkr (fun i => if i = 100 then 101 else i) ⟨XV.le_same, XV.le_same, XV.le_same, XV.le_sl rfl rfl, XV.le_row plV_append, XV.le_same, trivial⟩ rfl rfl rfl rfl, by show n.toNat - (j + 1) < n.toNat - j; omega⟩
   ·refine CV.exit ?_
    refine CV.seq ?_
    refine CV.seq ?_
    have hjn : n.toNat = j := (by have := of_decide_eq_false hc; omega)
    rw [hjn, hs] at hdec
    refine CV.freeze (r := 100) (t := 8) (G := Dm.gen (lstG (some 4) (plV l 1000))) (cx.bw hfr) rfl rfl (by rw [plV_length, hlj]) rfl rfl (lstG_Lst _ _) (lstG_Lst0 _ _) ?_
    refine CV.region rfl (fun h => nomatch h) ?_
    refine xm ?_
    refine xd rfl (rValidP_con l 1000 (by decide) (by omega)) Tryz.func16 (xa rfl) hfr ?_
    refine p1 (ok_not rfl rfl bd rfl) ?_
    refine RV.done ?_
    refine CV.cond rfl (fun h4 => ?_) (fun h4 => ?_)
    ·refine sr rfl ?_
     refine xn ?_
     refine xn ?_
     refine xn ?_
     refine RV.done ?_
     refine CV.ret ?_
     have g1 : ¬ e ≠ 0 := (by simpa using h1)
     have g2 : ¬ n < 0 := of_decide_eq_false h2
     have g4 : l ≠ [] ∧ lastR l = 0 := (by simpa using h4)
     rw [if_neg g1, if_neg g2, if_neg (by simp), if_pos g4] at hdec
     exact fin3 rfl (.inr rfl) rfl rfl rfl (is_decPz hdec)
    ·refine CV.skip ?_
     refine sr rfl ?_
     refine xm ?_
     refine xm ?_
     refine xn ?_
     refine xn ?_
     refine xn ?_
     refine RV.done ?_
     refine CV.ret ?_
     have g1 : ¬ e ≠ 0 := (by simpa using h1)
     have g2 : ¬ n < 0 := of_decide_eq_false h2
     have g4 : ¬ (l ≠ [] ∧ lastR l = 0) := (by simpa using h4)
     rw [if_neg g1, if_neg g2, if_neg (by simp), if_neg g4] at hdec
     exact fin3 rfl (.inr rfl) rfl rfl rfl (is_decP hdec (fun _ _ _ _ h => h))
end
def btL (e b : List Int) (k : Nat) (c : Int) : List (List Int) := [e ++ b.take 60, e.take k, e.set k c, b.take 60]
theorem btL_ok {e b : List Int} {k : Nat} {c : Int} (he : W.Bs e) (hb : W.Bs b) (hc : 0 ≤ c ∧ c ≤ 255) (hl : e.length ≤ 900) {i : Nat} (hi : i < 4) : W.Bs ((btL e b k c).getD i []) ∧ ((btL e b k c).getD i []).length ≤ 1000 := by
 rcases (by omega : i = 0 ∨ i = 1 ∨ i = 2 ∨ i = 3) with rfl | rfl | rfl | rfl
 ·exact ⟨he.append (hb.take 60), by show (e ++ b.take 60).length ≤ _; rw [List.length_append, List.length_take]; omega⟩
 ·exact ⟨he.take k, by show (e.take k).length ≤ _; rw [List.length_take]; omega⟩
 ·exact ⟨bs_set he k hc, by show (e.set k c).length ≤ _; rw [List.length_set]; omega⟩
 ·exact ⟨hb.take 60, by show (b.take 60).length ≤ _; rw [List.length_take]; omega⟩
theorem steps_len {bs : List Int} (hb : W.Bs bs) {u : Nat} (hu : u ≤ bs.length) : ∀ n, (W.steps dR bs u n).2.1 ≤ bs.length ∧ (W.steps dR bs u n).1.length ≤ (W.steps dR bs u n).2.1
 | 0 => ⟨hu, Nat.zero_le _⟩
 | n + 1 => by
  obtain ⟨h1, h2⟩ := steps_len hb hu n
  rw [W.steps]
  split
  ·exact ⟨h1, h2⟩
  ·split
   ·exact ⟨h1, h2⟩
   ·rename_i h3
    have h4 := decQ_used (hb.drop (W.steps dR bs u n).2.1)
    rw [List.length_drop] at h4
    have h5 : 1 ≤ (dR (bs.drop (W.steps dR bs u n).2.1)).2.1 := h4.2 (Decidable.byContradiction fun q => h3 q)
    have h6 : (dR (bs.drop (W.steps dR bs u n).2.1)).2.1 ≤ bs.length - (W.steps dR bs u n).2.1 := h4.1
    refine ⟨by show _ + _ ≤ _; omega, ?_⟩
    show (_ ++ [_]).length ≤ _ + _
    rw [List.length_append]
    show _ + 1 ≤ _
    omega
theorem decP_len {bs : List Int} (hb : W.Bs bs) : (decP bs).1.length ≤ bs.length := by
 unfold decP
 split
 ·exact Nat.zero_le _
 ·rename_i h1
  split
  ·exact Nat.zero_le _
  ·split
   ·exact Nat.zero_le _
   ·split
    ·exact Nat.zero_le _
    ·have hu : (W.dec bs).2.1 ≤ bs.length := by
      rcases W.dec_cases bs hb with ⟨n, u, h, _, h2, _⟩ | h | h
      ·rw [h]; exact h2
      ·rw [h]; exact Nat.zero_le _
      ·rw [h]; exact Nat.zero_le _
     have := steps_len hb hu (W.dec bs).1.toNat
     show (stP bs).1.length ≤ _
     unfold stP
     omega
theorem btL_bound {e b : List Int} {k : Nat} {c : Int} (he : W.Bs e) (hb : W.Bs b) (hc : 0 ≤ c ∧ c ≤ 255) (hl : e.length ≤ 900) {i : Nat} (hi : i < 4) : (decP ((btL e b k c).getD i [])).1.length ≤ 1000000 := by
 obtain ⟨h1, h2⟩ := btL_ok (k := k) he hb hc hl hi
 exact Nat.le_trans (decP_len h1) (by omega)
theorem take_min (b : List Int) (n : Nat) : b.take (min b.length n) = b.take n := by
 rcases Nat.le_total b.length n with h | h
 ·rw [Nat.min_eq_left h, List.take_length, List.take_of_length_le h]
 ·rw [Nat.min_eq_right h]
section
variable (zs1 : List Int) (hz1 : ∀ z ∈ zs1, -9223372036854775808 ≤ z ∧ z ≤ 9223372036854775807) (b : List Int) (hb : W.Bs b) (z : Int) (hc1 : -9223372036854775808 ≤ z) (hc2 : z ≤ 9223372036854775807) (c : UInt8)
include hz1 hb hc1 hc2
theorem pbytes_con : Con Tryz.prog 9 [.d (Dm.ints zs1), ZI .u8 b, .v (.int .i64 z), .v (.int .u8 (c.toNat : Int))] (.one (.v (.bool true))) := by
 have hp := pk_poly zs1
 have k1 := rPolyW zs1 hz1
 generalize polyR zs1 = p at *
 have hpl := hp.len
 have hz : ∀ a ∈ p, len a.num ≤ 2 ∧ len (qd a) ≤ 2 := fun a ha => szR_mem (hp.sz (B := 2) (by decide) (by decide)) ha
 have hel := encP_len hz
 have hmul := Nat.mul_le_mul_right (18 * 2 + 36) hpl
 have he := encP_bs p
 have hcu : (0 : Int) ≤ (c.toNat : Int) ∧ (c.toNat : Int) ≤ 255 := ⟨by omega, by have := c.toNat_lt; omega⟩
 have hk : aroundN z (encP p).length < (encP p).length := Nat.mod_lt _ (by omega)
 have hd0 := decP_enc hp.tr (by omega) (fun a ha => ⟨Nat.le_trans (hz a ha).1 (by decide), Nat.le_trans (hz a ha).2 (by decide)⟩) (b.take 60)
 have hd1 := decP_cut (p := p) (by omega) (fun a ha => ⟨Nat.le_trans (hz a ha).1 (by decide), Nat.le_trans (hz a ha).2 (by decide)⟩) (aroundN z (encP p).length) hk
 obtain ⟨E, hE⟩ : ∃ E, E = encP p := ⟨_, rfl⟩
 have hPE : ConRow Tryz.prog 46 [PL p 10] 5 none (ziV .u8 E) := hE ▸ PEncode_con p 10 2 (by omega) (by decide) hz
 have hRE : ConRow Tryz.prog 48 [PL p 10] 5 none (ziV .u8 E) := hE ▸ rEncodeP_con p 10 2 (by omega) (by decide) hz
 rw [← hE] at hel he hk hd0 hd1
 obtain ⟨k, hkk⟩ : ∃ k, k = aroundN z E.length := ⟨_, rfl⟩
 have hAr := AroundN_con z E.length (by omega) (by omega) hc1 hc2
 rw [← hkk] at hk hd1 hAr
 obtain ⟨l1, u1, f1, hq1⟩ : ∃ l1 u1 f1, decP (E.take k) = (l1, u1, f1) := ⟨_, _, _, rfl⟩
 rw [hq1] at hd1
 simp only at hd1
 have hD0 : Con Tryz.prog 49 [ZI .u8 (E ++ b.take 60)] (.tup [PL p 1000, .v (.int .i64 (E.length : Int)), .v (.int .i64 0)]) := by have q := PDecode_con (E ++ b.take 60) (he.append (hb.take 60)) (by rw [List.length_append, List.length_take]; omega); rw [hd0] at q; exact q
 have hD1 : Con Tryz.prog 49 [ZI .u8 (E.take k)] (.tup [PL l1 1000, .v (.int .i64 (u1 : Int)), .v (.int .i64 f1)]) := by have q := PDecode_con (E.take k) (he.take k) (by rw [List.length_take]; omega); rw [hq1] at q; exact q
 refine Con.of (n := 141) Tryz.func9 rfl rfl rfl rfl rfl fun cx hfr => ?_
 refine sr rfl ?_
 refine xn ?_
 refine RV.done (sr rfl ?_)
 refine xm ?_
 refine p1 (ok_call k1 rfl rfl bd Tryz.func10 rfl rfl (.cons rfl ⟨rfl, ints_ziP⟩ .nil) rfl hfr rfl) ?_
 refine xn ?_
 refine RV.done (sr rfl ?_)
 refine xm ?_
 refine p1 (ok_callRowD (G := Dm.gen (lstG none (ziV .u8 E))) hPE (ziV_vals _) (lstG_Lst none _) (lstG_Lst0 none _) rfl rfl bd Tryz.func46 rfl rfl (xa rfl)) ?_
 refine xn ?_
 refine RV.done ?_
 refine CV.seq ?_
 refine sr rfl ?_
 refine xm ?_
 refine xm ?_
 refine p1 (ok_callRowD (G := Dm.gen (lstG none (ziV .u8 E))) hRE (ziV_vals _) (lstG_Lst none _) (lstG_Lst0 none _) rfl rfl bd Tryz.func48 rfl rfl (xa rfl)) ?_
 refine xd rfl (SameBT_con E (by omega)) Tryz.func47 (xb rfl rfl) hfr ?_
 refine p1 (ok_not rfl rfl bd rfl) ?_
 refine xm ?_
 refine RV.step1 (OpOk.yes (ok_move (.inl rfl) rfl bd rfl) rfl rfl rfl) ?_
 refine RV.step1 (OpOk.yes (ok_lenL (ziV_length _) u_bytes rfl rfl bd rfl) rfl rfl rfl) ?_
 refine RV.step1 (OpOk.yes (ok_eqlB (r := false) (by rw [beq_eq_false_iff_ne]; omega) rfl rfl bd rfl rfl) rfl rfl rfl) ?_
 refine p1 (ok_pickF rfl rfl bd rfl rfl rfl) ?_
 refine RV.done ?_
 refine CV.no rfl ?_
 refine CV.skip ?_
 refine sr rfl ?_
 refine xm ?_
 refine xm ?_
 refine p1 (ok_lenL (ziV_length _) u_bytes rfl rfl bd rfl) ?_
 refine p1 (ok_minI (c := ((min b.length 60 : Nat) : Int)) (by split <;> omega) rfl rfl bd rfl rfl) ?_
 refine p1 (ok_cutL (k := none) (l' := ziV .u8 (b.take 60)) none (some (min b.length 60)) none (by show ((ziV .u8 b).take (min b.length 60)).drop 0 = _; rw [List.drop_zero, ziV_take, take_min]) (by decide) (Nat.zero_le _) (by show min b.length 60 ≤ (ziV .u8 b).length; rw [ziV_length]; omega) (Nat.le_refl _) (fun h => nomatch h) u_bytes sz_u8 rfl rfl bd rfl trivial rfl trivial) ?_
 refine xn ?_
 refine RV.done (sr rfl ?_)
 refine xm ?_
 refine xm ?_
 refine p1 (ok_lenL (ziV_length _) u_bytes rfl rfl bd rfl) ?_
 refine xc (hAr) Tryz.func11 (xb rfl rfl) hfr ?_
 refine xn ?_
 refine RV.done (sr rfl ?_)
 refine p2 (ok_litR (r := 151) (ss := []) (xs := []) (k := none) u_bytes zs_u8 rfl rfl rfl (by intro s hs; cases hs) (by intro s hs; cases hs) rfl rfl rfl bd trivial rfl rfl) ?_
 refine xm ?_
 refine RV.step3 (OpOk.plain (ok_append (r := 151) (r' := 153) (k := none) (lst_elems (by decide) (ziV_ptrs _)) (by rw [ziV_length]; show (0 + _) * 1 ≤ _; omega) (by rw [ziV_length]; show 0 + _ ≤ _; omega) u_bytes inf_u8 rfl rfl rfl (ziV_plain _) rfl rfl rfl bd rfl rfl rfl rfl rfl rfl rfl rfl) rfl) ?_
 refine xn ?_
 refine RV.done ?_
 refine CV.seq ?_
 rw [List.nil_append, ziV_length, show ([] : List (SA Dm)).length + E.length = E.length from Nat.zero_add _]
 refine CV.region rfl (fun h => nomatch h) ?_
 refine xm ?_
 refine xm ?_
 refine xm ?_
 refine p1 (ok_idxR (i := k) hk (by rw [ziV_length]; exact Nat.le_refl _) u_bytes sz_u8 rfl rfl bd rfl rfl rfl) ?_
 refine p1 (ok_storeR (i := k) (by rw [ziV_length]; exact hk) rfl (by show 0 < 1; decide) rfl rfl rfl rfl rfl rfl sz_u8 (.inl rfl) rfl rfl) ?_
 refine RV.done ?_
 refine CV.seq ?_
 rw [ziV_set]
 refine CV.freeze (r := 153) (t := 13) (G := Dm.gen (lstG none (ziV .u8 (E.set k (c.toNat : Int))))) (cx.bw hfr) rfl rfl (by rw [ziV_length, List.length_set]) rfl rfl (lstG_Lst none _) (lstG_Lst0 none _) ?_
 refine CV.region rfl (fun _ => by kernel_rfl) ?_
 refine p2 (ok_litR (r := 158) (ss := []) (xs := []) (k := none) u_bytes zs_u8 rfl rfl rfl (by intro s hs; cases hs) (by intro s hs; cases hs) rfl rfl rfl bd trivial rfl rfl) ?_
 refine xm ?_
 refine RV.step3 (OpOk.plain (ok_append (r := 158) (r' := 160) (k := none) (lst_elems (by decide) (ziV_ptrs _)) (by rw [ziV_length]; show (0 + _) * 1 ≤ _; omega) (by rw [ziV_length]; show 0 + _ ≤ _; omega) u_bytes inf_u8 rfl rfl rfl (ziV_plain _) rfl rfl rfl bd rfl rfl rfl rfl rfl rfl rfl rfl) rfl) ?_
 refine xm ?_
 refine RV.step3 (OpOk.plain (ok_appendD (r := 160) (r' := 162) (k := none) (G := Dm.gen (lstG none ([] ++ ziV .u8 E ++ ziV .u8 (b.take 60)))) (cx.bw hfr) (lst_elems (by decide) (ziV_ptrs _)) (lstG_Lst none _) (lstG_Lst0 none _) (by rw [List.nil_append, ziV_length, ziV_length, List.length_take]; omega) (by rw [List.nil_append, ziV_length, ziV_length, List.length_take]; omega) u_bytes inf_u8 rfl rfl rfl (ziV_plain _) (by rw [List.nil_append, ziV_length]; exact Nat.zero_add _) rfl rfl bd rfl rfl rfl rfl rfl rfl rfl rfl) rfl) ?_
 refine xm ?_
 refine xm ?_
 refine p1 (ok_cutL (k := none) (l' := ziV .u8 (E.take k)) none (some k) none (by show ((ziV .u8 E).take k).drop 0 = _; rw [List.drop_zero, ziV_take]) (by decide) (Nat.zero_le _) (by show k ≤ (ziV .u8 E).length; rw [ziV_length]; omega) (Nat.le_refl _) (fun h => nomatch h) u_bytes sz_u8 rfl rfl bd rfl trivial rfl trivial) ?_
 refine xm ?_
 refine xm ?_
 refine p1 (ok_litD (G := Dm.gen (lstG none (zbV (btL E b k (c.toNat : Int))))) (ss := zbV (btL E b k (c.toNat : Int))) (xs := [.tmp 62, .tmp 65, .tmp 66, .tmp 67]) (lstG_Lst _ _) u_lbytes zs_bytes rfl rfl rfl zbV_kind rfl rfl rfl bd (.cons rfl ⟨rfl, lst_eqv (by rw [List.nil_append, ziV_append])⟩ (.cons rfl Conv.any (xb rfl rfl)))) ?_
 refine xn ?_
 refine RV.drawn (by kernel_rfl) ?_
 refine CV.seq ?_
 refine sr rfl ?_
 refine xn ?_
 refine RV.done ?_
 refine CV.block ?_
 refine CV.loop (X := {i : Nat // i ≤ 4}) (fun i => [(.s 15, .av (.one (.v (.int .i64 (i.1 : Int))))), (.s 14, .av (.one (.d (Dm.gen (lstG none (zbV (btL E b k (c.toNat : Int)))))))), (.s 9, .av (.one (PL p 10))), (.s 10, .av (.one (ZI .u8 E)))]) (fun i => 4 - i.1) ⟨0, Nat.zero_le _⟩ (Sub.mk ⟨XV.le_rfl _, XV.le_rfl _, XV.le_rfl _, XV.le_rfl _, trivial⟩ rfl rfl) (fun i => ?_)
 obtain ⟨i, hi⟩ := i
 simp only
 refine CV.seq ?_
 refine sr rfl ?_
 refine xm ?_
 refine p1 (ok_lss rfl rfl bd rfl rfl) ?_
 refine RV.done ?_
 refine CV.cond rfl (fun hc => ?_) (fun hc => ?_)
 ·have hlt : i < 4 := (by have := of_decide_eq_true hc; omega)
  have hok := btL_ok (k := k) he hb hcu (by omega) hlt
  have hln := btL_bound (k := k) he hb hcu (by omega) hlt
  refine CV.skip ?_
  refine CV.seq ?_
  refine CV.block ?_
  refine sr rfl ?_
  refine xm ?_
  refine xm ?_
  refine p1 (ok_idxL (k := none) (i := i) (zbV_at (ls := btL E b k (c.toNat : Int)) (show i < 4 from hlt)) u_lbytes sz_bytes (by decide) rfl rfl bd rfl rfl) ?_
  refine p1 (ok_loadP ty_bytes (by decide) rfl rfl bd rfl) ?_
  refine xc (PDecode_con _ hok.1 hok.2) Tryz.func49 (xa rfl) hfr ?_
  refine xm ?_
  refine p1 (ok_extract rfl rfl bd rfl rfl) ?_
  refine p1 (ok_extract rfl rfl bd rfl rfl) ?_
  refine p1 (ok_extract rfl rfl bd rfl rfl) ?_
  refine xn ?_
  refine xn ?_
  refine xn ?_
  refine RV.done (sr rfl ?_)
  refine xm ?_
  refine xm ?_
  refine p1 (ok_idxL (k := none) (i := i) (zbV_at (ls := btL E b k (c.toNat : Int)) (show i < 4 from hlt)) u_lbytes sz_bytes (by decide) rfl rfl bd rfl rfl) ?_
  refine p1 (ok_loadP ty_bytes (by decide) rfl rfl bd rfl) ?_
  refine xc (rDecodeP_con _ hok.1 hok.2) Tryz.func50 (xa rfl) hfr ?_
  refine xm ?_
  refine p1 (ok_extract rfl rfl bd rfl rfl) ?_
  refine p1 (ok_extract rfl rfl bd rfl rfl) ?_
  refine p1 (ok_extract rfl rfl bd rfl rfl) ?_
  refine xn ?_
  refine xn ?_
  refine xn ?_
  refine RV.done (sr rfl ?_)
  refine xm ?_
  refine xm ?_
  refine p1 (ok_neqF rfl rfl rfl bd rfl rfl) ?_
  refine xm ?_
  refine RV.step1 (OpOk.yes (ok_move (.inl rfl) rfl bd rfl) rfl rfl rfl) ?_
  refine RV.step1 (OpOk.yes (ok_move (.inl rfl) rfl bd rfl) rfl rfl rfl) ?_
  refine RV.step1 (OpOk.yes (ok_neqF rfl rfl rfl bd rfl rfl) rfl rfl rfl) ?_
  refine p1 (ok_pickF rfl rfl bd rfl rfl rfl) ?_
  refine xm ?_
  refine RV.step1 (OpOk.yes (ok_move (.inl rfl) rfl bd rfl) rfl rfl rfl) ?_
  refine RV.step1 (OpOk.yes (ok_move (.inl rfl) rfl bd rfl) rfl rfl rfl) ?_
  refine RV.step1 (OpOk.yes (ok_call (rSameW rfl hln) rfl rfl bd Tryz.func13 rfl rfl (xb rfl rfl) rfl hfr rfl) rfl rfl rfl) ?_
  refine RV.step1 (OpOk.yes (ok_not rfl rfl bd rfl) rfl rfl rfl) ?_
  refine p1 (ok_pickF rfl rfl bd rfl rfl rfl) ?_
  refine RV.done ?_
  refine CV.no rfl ?_
  refine CV.skip ?_
  refine CV.region rfl (fun h => nomatch h) ?_
  refine xm ?_
  refine p1 (ok_add (c := ((i + 1 : Nat) : Int)) (by rw [wrapI (by omega) (by omega)]; omega) rfl rfl bd rfl rfl) ?_
  refine xn ?_
  refine RV.done ?_
  exact ⟨⟨i + 1, hlt⟩, Sub.mk ⟨XV.le_rfl _, XV.le_rfl _, XV.le_rfl _, XV.le_rfl _, trivial⟩ rfl rfl, by show 4 - (i + 1) < 4 - i; omega⟩
 ·refine CV.exit ?_
  refine sr rfl ?_
  refine xm ?_
  refine p1 (ok_idxL (k := none) (i := 0) (zbV_at (ls := btL E b k (c.toNat : Int)) (show 0 < 4 by decide)) u_lbytes sz_bytes (by decide) rfl rfl bd rfl rfl) ?_
  refine p1 (ok_loadP ty_bytes (by decide) rfl rfl bd rfl) ?_
  refine p1 (ok_call hD0 rfl rfl bd Tryz.func49 rfl rfl (xa rfl) rfl hfr rfl) ?_
  refine xm ?_
  refine p1 (ok_extract rfl rfl bd rfl rfl) ?_
  refine p1 (ok_extract rfl rfl bd rfl rfl) ?_
  refine p1 (ok_extract rfl rfl bd rfl rfl) ?_
  refine xn ?_
  refine xn ?_
  refine xn ?_
  refine RV.done (sr rfl ?_)
  refine xm ?_
  refine p1 (ok_idxL (k := none) (i := 1) (zbV_at (ls := btL E b k (c.toNat : Int)) (show 1 < 4 by decide)) u_lbytes sz_bytes (by decide) rfl rfl bd rfl rfl) ?_
  refine p1 (ok_loadP ty_bytes (by decide) rfl rfl bd rfl) ?_
  refine p1 (ok_call hD1 rfl rfl bd Tryz.func49 rfl rfl (xa rfl) rfl hfr rfl) ?_
  refine xm ?_
  refine p1 (ok_extract rfl rfl bd rfl rfl) ?_
  refine p1 (ok_extract rfl rfl bd rfl rfl) ?_
  refine p1 (ok_extract rfl rfl bd rfl rfl) ?_
  refine xn ?_
  refine xn ?_
  refine xn ?_
  refine RV.done (sr rfl ?_)
  refine xm ?_
  refine p1 (ok_eqlT rfl rfl rfl bd rfl rfl) ?_
  refine xm ?_
  refine RV.step1 (OpOk.yes (ok_move (.inl rfl) rfl bd rfl) rfl rfl rfl) ?_
  refine RV.step1 (OpOk.yes (ok_move (.inl rfl) rfl bd rfl) rfl rfl rfl) ?_
  refine RV.step1 (OpOk.yes (ok_lenL (ziV_length _) u_bytes rfl rfl bd rfl) rfl rfl rfl) ?_
  refine RV.step1 (OpOk.yes (ok_eqlT rfl rfl rfl bd rfl rfl) rfl rfl rfl) ?_
  refine p1 (ok_pickT rfl rfl bd rfl rfl rfl) ?_
  refine xm ?_
  refine RV.step1 (OpOk.yes (ok_move (.inl rfl) rfl bd rfl) rfl rfl rfl) ?_
  refine RV.step1 (OpOk.yes (ok_move (.inl rfl) rfl bd rfl) rfl rfl rfl) ?_
  refine RV.step1 (OpOk.yes (ok_call (rSameW rfl (by omega)) rfl rfl bd Tryz.func13 rfl rfl (xb rfl rfl) rfl hfr rfl) rfl rfl rfl) ?_
  refine p1 (ok_pickT rfl rfl bd rfl rfl rfl) ?_
  refine xm ?_
  refine RV.step1 (OpOk.yes (ok_move (.inl rfl) rfl bd rfl) rfl rfl rfl) ?_
  refine RV.step1 (OpOk.yes (ok_neqB (r := true) (by rw [bne_iff_ne]; exact hd1) rfl rfl bd rfl rfl) rfl rfl rfl) ?_
  refine p1 (ok_pickT rfl rfl bd rfl rfl rfl) ?_
  refine xm ?_
  refine RV.step1 (OpOk.yes (ok_call (lives6_con) rfl rfl bd Tryz.func17 rfl rfl .nil rfl hfr rfl) rfl rfl rfl) ?_
  refine p1 (ok_pickT rfl rfl bd rfl rfl rfl) ?_
  refine xn ?_
  refine RV.done ?_
  refine CV.ret ?_
  exact fin1 rfl (.inr rfl) rfl is_rfl
end
end Vc
end Go.Proofs.YtcblbepaigdlgaaGreat
