/-
  The reference's polynomials: Shift, Div, Gcd, Free.
  The reference's polynomials: Gcd, Free.
  Plain: divisors of polynomials of whole numbers have short numbers.
  The laws of layer 6: the polynomials that they make, with their sizes; contracts for polynomials whose numbers have at most K digits.
  PolyRing: the law's walk.
  PolyDerives: the law's walk.
  PolyComputes: the law's walk.
  PolyDivides: the law's walk.
  Plain: exact division; polynomials without double zeros.
  PolyDivisors: the ways of a condition meet again; contracts at 200 digits; what the law's calls answer.
  PolyDivisors: the law's walk.
-/
import Derived.Test.YtcblbepaigdlgaaGreatJN12
import Derived.Test.YtcblbepaigdlgaaGreatJN43
set_option linter.unusedVariables false
set_option linter.unusedSimpArgs false
set_option linter.unusedSectionVars false
namespace Go.Proofs.YtcblbepaigdlgaaGreat
open Go.RowKit
open Go.Lib (hid)
open Dg Zn
namespace Vc
set_option maxRecDepth 100000

theorem dwn_len {k : Nat} : (dwn id k).length = k := dwn_length _ _
theorem shift_next {p : List Rat} {x : Rat} {m : Nat} : addR (rmulR (shiftF p x (dwn id m)) (trimR [x, Rat.divInt 1 1])) (trimR [p.getD (p.length - 1 - m) 0]) = shiftF p x (dwn id (m + 1)) := by
 have h1 : trimR (shiftF p x (dwn id (m + 1))) = shiftF p x (dwn id (m + 1)) := by rw [dwn_succ, shiftF_snoc]; exact trimR_idem _
 refine ev_inj (trimR_idem _) h1 fun y => ?_
 rw [ev_add, ev_rmul, ev_trim, ev_trim, dwn_succ, shiftF_snoc, ev_add, ev_scale]
 simp only [ev, show Rat.divInt 1 1 = 1 by decide +kernel, id]
 grind
theorem sz_pair {x : Rat} {K : Nat} (h1 : 1 ≤ K) (hx : szR [x] K = true) : szR (trimR [x, Rat.divInt 1 1]) K = true := sz_trim (sz_cons hx (sz_less h1 sz_oneR))
section
variable (p : List Rat) (x : Rat) (K Kx B : Nat) (hK1 : 1 ≤ K) (hKx1 : 1 ≤ Kx) (hp : p.length ≤ 1000) (hB : B ≤ 300) (hK : K ≤ B) (hKx : Kx ≤ B) (hl : p.length ≤ 20) (hpz : szR p K = true) (hxz : szR [x] Kx = true) (hs : ∀ m, m ≤ p.length → szR (shiftF p x (dwn id m)) B = true)
include hK1 hKx1 hB hK hKx hl hpz hxz hs hp
theorem shiftMul (m : Nat) (hm : m ≤ p.length) : Con Tryz.prog 26 [PL (shiftF p x (dwn id m)) B, PL (trimR [x, Rat.divInt 1 1]) Kx] (.one (PL (rmulR (shiftF p x (dwn id m)) (trimR [x, Rat.divInt 1 1])) 30000)) := by
 have h1 := shiftF_len p x (dwn id m)
 rw [dwn_len] at h1
 have h2 := trimR_len [x, Rat.divInt 1 1]
 have h3 : [x, Rat.divInt 1 1].length = 2 := rfl
 refine rMulP_con _ _ B Kx 30000 (by omega) hKx1 (hs m hm) (sz_pair hKx1 hxz) (by omega) (by omega) (by omega) (by omega) (by decide) ?_
 have e1 : ((shiftF p x (dwn id m)).length + 1) * ((trimR [x, Rat.divInt 1 1]).length * (B + Kx + 1)) ≤ 21 * (2 * 601) := Nat.mul_le_mul (by omega) (Nat.mul_le_mul (by omega) (by omega))
 omega
theorem rShiftP_con : Con Tryz.prog 34 [PL p K, RT x Kx] (.one (PL (shiftR p x) B)) := by
 refine Con.of (n := 30) Tryz.func34 rfl rfl rfl rfl rfl fun cx hfr => ?_
 refine sr rfl ?_
 refine p2 (ok_box (i := 0) rfl rfl bd rfl rfl rfl rfl rfl) ?_
 refine mr rfl rfl bd rfl ?_
 refine RV.done ?_
 refine CV.seq ?_
 refine CV.region rfl (fun _ => by kernel_rfl) ?_
 refine p1 (ok_load rfl rfl bd rfl rfl rfl ty_rat) ?_
 refine p1 (ok_call ((rfOf_con 1 1 (by decide) (by decide) (by decide) (by decide)).mono (fun _ _ _ _ h => h) (rt_le1 (sz_less hKx1 sz_oneR))) rfl rfl bd Tryz.func20 rfl rfl (.cons rfl Conv.any (.cons rfl Conv.any .nil)) rfl hfr rfl) ?_
 refine p1 (ok_litD (G := Dm.gen (lstG (some 4) (plV [x, Rat.divInt 1 1] Kx))) (ss := plV [x, Rat.divInt 1 1] Kx) (lstG_Lst _ _) u_rats zs_rat rfl rfl rfl plV_kind rfl rfl rfl bd (.cons rfl Conv.any (.cons rfl Conv.any .nil))) ?_
 refine p1 (ok_call (rTrim_con [x, Rat.divInt 1 1] Kx (Nat.le_of_ble_eq_true rfl)) rfl rfl bd Tryz.func52 rfl rfl (.cons rfl Conv.any .nil) rfl hfr rfl) ?_
 refine mr rfl rfl bd rfl ?_
 refine RV.drawn (by kernel_rfl) ?_
 refine sr rfl ?_
 refine mr rfl rfl bd rfl ?_
 refine RV.done ?_
 refine CV.seq ?_
 refine sr rfl ?_
 refine ml rfl rfl bd rfl ?_
 refine p1 (ok_lenL plV_length u_poly rfl rfl bd rfl) ?_
 refine p1 (ok_sub (c := (p.length : Int) - 1) (by rw [wrapI (by omega) (by omega)]) rfl rfl bd rfl rfl) ?_
 refine mr rfl rfl bd rfl ?_
 refine RV.done ?_
 refine CV.block ?_
 refine CV.loop (X := {m : Nat // m ≤ p.length}) (fun m => [(.s 7, .av (.one (.v (.int .i64 ((p.length : Int) - 1 - (m.1 : Int)))))), (.s 6, .av (.one (PL (shiftF p x (dwn id m.1)) B))), (.s 5, .av (.one (PL (trimR [x, Rat.divInt 1 1]) Kx))), (.s 0, .av (.one (PL p K)))]) (fun m => p.length - m.1) ⟨0, Nat.zero_le _⟩ (Sub.mk ⟨XV.le_of (congrArg (fun z => XV.av (.one (.v (.int .i64 z)))) (by show (p.length : Int) - 1 = (p.length : Int) - 1 - ((0 : Nat) : Int); omega)), XV.le_av rfl (fun L ρ w v h => nil_pl L ρ w v h), XV.le_rfl _, XV.le_rfl _, trivial⟩ rfl rfl) (fun m => ?_)
 obtain ⟨m, hm⟩ := m
 simp only
 refine CV.seq ?_
 refine sr rfl ?_
 refine ml rfl rfl bd rfl ?_
 refine p1 (ok_geq rfl rfl bd rfl rfl) ?_
 refine RV.done ?_
 refine CV.cond rfl (fun hc => ?_) (fun hc => ?_)
 ·have hlt : m < p.length := (by have := of_decide_eq_true hc; omega)
  have hnx := shift_next (p := p) (x := x) (m := m)
  refine CV.skip ?_
  refine CV.seq ?_
  refine CV.block ?_
  refine CV.region rfl (fun _ => by kernel_rfl) ?_
  refine ml rfl rfl bd rfl ?_
  refine ml rfl rfl bd rfl ?_
  refine p1 (ok_call (shiftMul p x K Kx B hK1 hKx1 hp hB hK hKx hl hpz hxz hs m hm) rfl rfl bd Tryz.func26 rfl rfl (.cons rfl Conv.any (.cons rfl Conv.any .nil)) rfl hfr rfl) ?_
  refine ml rfl rfl bd rfl ?_
  refine ml rfl rfl bd rfl ?_
  refine p1 (ok_idxL (k := some 4) (i := p.length - 1 - m) (plV_at (by omega)) u_poly sz_rat (by decide) rfl rfl bd rfl (by show XV.av (.one (.v (.int .i64 ((p.length : Int) - 1 - (m : Int))))) = _; rw [show ((p.length : Int) - 1 - (m : Int)) = ((p.length - 1 - m : Nat) : Int) by omega])) ?_
  refine p1 (ok_loadP ty_rat (by decide) rfl rfl bd rfl) ?_
  refine p1 (ok_litD (G := Dm.gen (lstG (some 4) (plV [p.getD (p.length - 1 - m) 0] K))) (ss := plV [p.getD (p.length - 1 - m) 0] K) (lstG_Lst _ _) u_rats zs_rat rfl rfl rfl plV_kind rfl rfl rfl bd (.cons rfl Conv.any .nil)) ?_
  refine p1 (ok_call (rTrim_con [p.getD (p.length - 1 - m) 0] K (Nat.le_of_ble_eq_true rfl)) rfl rfl bd Tryz.func52 rfl rfl (.cons rfl Conv.any .nil) rfl hfr rfl) ?_
  refine p1 (ok_call ((rAddP_con _ _ 30000 K (by decide) (by omega) (by have h1 := rmulR_len (shiftF p x (dwn id m)) (trimR [x, Rat.divInt 1 1]); have h2 := trimR_len [x, Rat.divInt 1 1]; have h3 : [x, Rat.divInt 1 1].length = 2 := rfl; have h4 := shiftF_len p x (dwn id m); rw [dwn_len] at h4; omega) (by have h1 := trimR_len [p.getD (p.length - 1 - m) 0]; have h2 : [p.getD (p.length - 1 - m) 0].length = 1 := rfl; omega)).mono (fun _ _ _ _ h => h) (pl_le1 (B := B) (by rw [hnx]; exact hs (m + 1) hlt))) rfl rfl bd Tryz.func22 rfl rfl (.cons rfl Conv.any (.cons rfl Conv.any .nil)) rfl hfr rfl) ?_
  refine mr rfl rfl bd rfl ?_
  refine RV.drawn (by kernel_rfl) ?_
  refine CV.region rfl (fun h => nomatch h) ?_
  refine ml rfl rfl bd rfl ?_
  refine p1 (ok_sub (c := (p.length : Int) - 1 - ((m + 1 : Nat) : Int)) (by rw [wrapI (by omega) (by omega)]; omega) rfl rfl bd rfl rfl) ?_
  refine mr rfl rfl bd rfl ?_
  refine RV.done ?_
  exact ⟨⟨m + 1, hlt⟩, Sub.mk ⟨XV.le_rfl _, by rw [hnx]; exact XV.le_rfl _, XV.le_rfl _, XV.le_rfl _, trivial⟩ rfl rfl, by show p.length - (m + 1) < p.length - m; omega⟩
 ·refine CV.exit ?_
  refine sr rfl ?_
  refine ml rfl rfl bd rfl ?_
  refine mr rfl rfl bd rfl ?_
  refine RV.done ?_
  refine CV.ret ?_
  obtain rfl : m = p.length := (by have := of_decide_eq_false hc; omega)
  exact fin1 rfl (.inr rfl) rfl (fun L ρ w v h => h)
end
/-! Div. -/
theorem dsz_get {u : List (Option Rat)} {B : Nat} (h : szR (oval u) B = true) {s : Nat} {a : Rat} (ha : szR [a] B = true) : szR (oval (u.set s (some a))) B = true := by
 unfold oval at *
 rw [List.map_set]
 exact sz_set h ha
theorem part_trim {k : Nat} {m : Rat} (h : m ≠ 0) : trimR (shL k [m]) = shL k [m] := by
 unfold shL
 rw [trimR_snoc, if_neg h]
theorem part_len {k : Nat} {m : Rat} : (shL k [m]).length = k + 1 := by simp [shL]
theorem part_set {k : Nat} {m : Rat} {B : Nat} : (List.replicate (k + 1) (SA.v zeroRat : SA Dm)).set k (RT m B) = List.replicate k (SA.v zeroRat) ++ [RT m B] := by
 rw [List.replicate_succ', List.set_append_right _ _ (by rw [List.length_replicate]; exact Nat.le_refl _), List.length_replicate, Nat.sub_self]
 rfl
theorem part_pl {k : Nat} {m : Rat} {B : Nat} : ∀ L ρ w v, (SA.d (Dm.gen (lstG (some 4) (List.replicate k (SA.v zeroRat) ++ [RT m B])))).is L ρ w v → (PL (shL k [m]) B).is L ρ w v := by
 refine lst_le ?_
 have : ∀ k : Nat, All2 (fun s s' : SA Dm => ∀ w v, s.at w v → s'.at w v) (List.replicate k (SA.v zeroRat) ++ [RT m B]) (plV (shL k [m]) B) := by
  intro k
  induction k with
  | zero => exact .cons (fun _ _ h => h) .nil
  | succ k ih =>
   rw [List.replicate_succ, List.cons_append]
   show All2 _ _ (plV (List.replicate (k + 1) 0 ++ [m]) B)
   rw [List.replicate_succ, List.cons_append]
   refine .cons (fun w v hv => ?_) ih
   obtain rfl : v = zeroRat := hv
   have h0 : (dig (0 : Int).natAbs).length ≤ B := by rw [show (0 : Int).natAbs = 0 from rfl, dig_zero]; exact Nat.zero_le _
   exact ⟨_, _, rfl, Nums.nil (by decide), Nums.nil (by decide), h0, h0⟩
 exact this k
theorem inn_zero {p q : List Rat} {i : Nat} (hz : p.getD i 0 = 0) : ∀ (j : Nat) (l : List Rat), (∀ k, l.getD k 0 = 0) → ∀ k, (innR p q i j l).getD k 0 = 0
 | 0, l, h, k => h k
 | j + 1, l, h, k => by
  have ih := inn_zero (q := q) hz j l h
  rw [innR, ih, hz, Rat.zero_mul, Rat.add_zero]
  rw [List.getD_eq_getElem?_getD, List.getElem?_set]
  have := ih k
  rw [List.getD_eq_getElem?_getD] at this
  split
  ·split <;> rfl
  ·exact this
theorem sz_gets {l : List Rat} {B : Nat} (h : ∀ k, szR [l.getD k 0] B = true) : szR l B = true := szR_all fun a ha => by
 obtain ⟨i, hi, rfl⟩ := List.getElem_of_mem ha
 have := h i
 rw [List.getD_eq_getElem?_getD, List.getElem?_eq_getElem hi] at this
 exact this
theorem part_out {q : List Rat} {k : Nat} {m : Rat} : ∀ i, i ≤ k → ∀ j, (outR (shL k [m]) q i).getD j 0 = 0
 | 0, _, j => by
  rw [outR, List.getD_eq_getElem?_getD, List.getElem?_replicate]
  split <;> rfl
 | i + 1, h, j => by
  rw [outR]
  exact inn_zero (by rw [shL_get, if_pos (by omega)]) _ _ (part_out i (by omega)) j
theorem part_inn {q : List Rat} {k : Nat} {m : Rat} {C : Nat} (hC : ∀ j, szR [m * q.getD j 0] C = true) (l : List Rat) (hl : ∀ j, l.getD j 0 = 0) : ∀ j, j ≤ q.length → (∀ i, szR [(innR (shL k [m]) q k j l).getD i 0] C = true) ∧ ∀ i, k + j ≤ i → (innR (shL k [m]) q k j l).getD i 0 = 0
 | 0, _ => ⟨fun i => by rw [innR, hl]; exact sz_zero, fun i _ => hl i⟩
 | j + 1, h => by
  obtain ⟨h1, h2⟩ := part_inn hC l hl j (by omega)
  have e : (shL k [m]).getD k 0 = m := by rw [shL_get, if_neg (by omega), Nat.sub_self]; rfl
  rw [innR, h2 (k + j) (Nat.le_refl _), Rat.zero_add, e]
  refine ⟨fun i => ?_, fun i hi => ?_⟩
  ·rw [List.getD_eq_getElem?_getD, List.getElem?_set]
   split
   ·split
    ·exact hC j
    ·exact sz_zero
   ·have := h1 i
    rw [List.getD_eq_getElem?_getD] at this
    exact this
  ·rw [List.getD_eq_getElem?_getD, List.getElem?_set, if_neg (by omega), ← List.getD_eq_getElem?_getD]
   exact h2 i (by omega)
theorem part_hz {q : List Rat} {k : Nat} {m : Rat} {C : Nat} (hC : ∀ j, szR [m * q.getD j 0] C = true) (i j : Nat) (hi : i < (shL k [m]).length) (hj : j ≤ q.length) : szR (innR (shL k [m]) q i j (outR (shL k [m]) q i)) C = true := by
 rw [part_len] at hi
 refine sz_gets fun n => ?_
 by_cases h : i = k
 ·subst h
  exact (part_inn hC _ (part_out i (Nat.le_refl _)) j hj).1 n
 ·rw [inn_zero (by rw [shL_get, if_pos (by omega)]) _ _ (part_out i (by omega))]
  exact sz_zero
theorem oadd {u : List (Option Rat)} {k : Nat} {m : Rat} (hk : k < u.length) (hn : u.getD k none = none) : addR (trimR (oval u)) (shL k [m]) = trimR (oval (u.set k (some m))) := by
 refine ev_inj (trimR_idem _) (trimR_idem _) fun x => ?_
 rw [ev_add, ev_trim, ev_trim, ev_oset hk hn, ev_shL, ev, ev]
 grind
theorem osub {r q : List Rat} (hl : q.length ≤ r.length) (h0 : 0 < q.length) (hq : lastR q ≠ 0) : subR r (rmulR (shL (r.length - q.length) [lastR r / lastR q]) q) = redR r q (lastR r / lastR q) := by
 refine ev_inj (trimR_idem _) (trimR_idem _) fun x => ?_
 rw [ev_sub, ev_rmul, ev_shL, ev, ev, ev_red hl h0 (by rw [Rat.div_def, Rat.mul_assoc, Rat.inv_mul_cancel _ hq, Rat.mul_one])]
 grind
theorem rmul_out {p q : List Rat} (hp : p ≠ []) (hq : q ≠ []) : trimR (outR p q p.length) = rmulR p q := by
 rw [rmulR, if_neg (by rintro (h | h); exact hp h; exact hq h)]
theorem oval_len {u : List (Option Rat)} : (oval u).length = u.length := by simp [oval]
theorem ratio_ne {r q : List Rat} (hr : lastR r ≠ 0) (hq : lastR q ≠ 0) : lastR r / lastR q ≠ 0 := by
 rw [Rat.div_def]
 intro h
 rcases Rat.mul_eq_zero.1 h with h | h
 ·exact hr h
 ·exact hq (by rw [← Rat.inv_inv (lastR q), h, Rat.inv_zero])
theorem rDivNil_con (p : List Rat) (K B : Nat) : Con Tryz.prog 36 [PL p K, PL [] B] (.tup [PL [] B, PL [] B]) := by
 refine Con.of (n := 56) Tryz.func36 rfl rfl rfl rfl rfl fun cx hfr => ?_
 refine sr rfl ?_
 refine mr rfl rfl bd rfl ?_
 refine mr rfl rfl bd rfl ?_
 refine RV.done ?_
 refine CV.seq ?_
 refine sr rfl ?_
 refine ml rfl rfl bd rfl ?_
 refine p1 (ok_lenL plV_length u_poly rfl rfl bd rfl) ?_
 refine p1 (ok_eql rfl rfl bd rfl rfl) ?_
 refine RV.done ?_
 refine CV.cond rfl (fun hc => ?_) (fun hc => False.elim (by exact absurd hc (by decide)))
 refine sr rfl ?_
 refine mr rfl rfl bd rfl ?_
 refine mr rfl rfl bd rfl ?_
 refine RV.done ?_
 refine CV.ret ?_
 exact fin2 rfl (.inr rfl) rfl rfl (is_pair nil_pl nil_pl)
section
variable (p q : List Rat) (B : Nat) (U : List (Option Rat)) (R : List Rat) (hB1 : 1 ≤ B) (hB : B ≤ 100000) (hp : p.length ≤ 1000) (hq : q.length ≤ 1000) (hq0 : q ≠ []) (tp : trimR p = p) (tq : trimR q = q) (hqz : szR q B = true) (h : divC B q (p.length + 2) (List.replicate (p.length + 1 - q.length) none) p = some (U, R))
include hB1 hB hp hq hq0 tp tq hqz h
theorem rDivN_con : Con Tryz.prog 36 [PL p B, PL q B] (.tup [PL (trimR (oval U)) B, PL R B]) := by
 have hql : 0 < q.length := List.length_pos_iff.2 hq0
 have hlq := last_ne tq hq0
 have hnone : ∀ i, (List.replicate (p.length + 1 - q.length) (none : Option Rat)).getD i none = none := (fun i => by rw [List.getD_eq_getElem?_getD, List.getElem?_replicate]; split <;> rfl)
 have hz0 : szR (oval (List.replicate (p.length + 1 - q.length) none)) B = true := sz_gets fun k => by rw [oval_none]; exact sz_zero
 have ht0 : trimR (oval (List.replicate (p.length + 1 - q.length) none)) = [] := nil_trim (oval_none _)
 refine Con.of (n := 56) Tryz.func36 rfl rfl rfl rfl rfl fun cx hfr => ?_
 refine sr rfl ?_
 refine mr rfl rfl bd rfl ?_
 refine mr rfl rfl bd rfl ?_
 refine RV.done ?_
 refine CV.seq ?_
 refine sr rfl ?_
 refine ml rfl rfl bd rfl ?_
 refine p1 (ok_lenL plV_length u_poly rfl rfl bd rfl) ?_
 refine p1 (ok_eql rfl rfl bd rfl rfl) ?_
 refine RV.done ?_
 refine CV.cond rfl (fun hc => False.elim (by rw [beq_iff_eq] at hc; omega)) (fun hc => ?_)
 refine CV.skip ?_
 refine sr rfl ?_
 refine mr rfl rfl bd rfl ?_
 refine RV.done (sr rfl ?_)
 refine ml rfl rfl bd rfl ?_
 refine mr rfl rfl bd rfl ?_
 refine RV.done ?_
 refine CV.seq ?_
 refine CV.block ?_
 refine CV.loop (X := {s : Nat × List (Option Rat) × List Rat // divC B q s.1 s.2.1 s.2.2 = some (U, R) ∧ s.2.1.length = p.length + 1 - q.length ∧ s.2.2.length ≤ p.length ∧ trimR s.2.2 = s.2.2 ∧ szR (oval s.2.1) B = true ∧ ∀ i, i ≤ s.2.2.length - q.length → q.length ≤ s.2.2.length → s.2.1.getD i none = none}) (fun s => [(.s 7, .av (.one (PL s.1.2.2 B))), (.s 6, .av (.one (PL (trimR (oval s.1.2.1)) B))), (.s 1, .av (.one (PL q B)))]) (fun s => s.1.2.2.length) ⟨(p.length + 2, List.replicate (p.length + 1 - q.length) none, p), h, by rw [List.length_replicate], Nat.le_refl _, tp, hz0, fun i _ _ => hnone i⟩ (Sub.mk ⟨XV.le_rfl _, XV.le_av rfl (fun L ρ w v h => by show (PL (trimR (oval (List.replicate (p.length + 1 - q.length) none))) B).is L ρ w v; rw [ht0]; exact nil_pl L ρ w v h), XV.le_rfl _, trivial⟩ rfl rfl) (fun s => ?_)
 obtain ⟨⟨n, u, r⟩, hs, hu, hr, tr, hz, hn⟩ := s
 simp only at hs hu hr tr hz hn ⊢
 refine CV.seq ?_
 refine sr rfl ?_
 refine ml rfl rfl bd rfl ?_
 refine p1 (ok_lenL plV_length u_poly rfl rfl bd rfl) ?_
 refine ml rfl rfl bd rfl ?_
 refine p1 (ok_lenL plV_length u_poly rfl rfl bd rfl) ?_
 refine p1 (ok_geq rfl rfl bd rfl rfl) ?_
 refine RV.done ?_
 refine CV.cond rfl (fun hc => ?_) (fun hc => ?_)
 ·have hle : q.length ≤ r.length := (by have := of_decide_eq_true hc; omega)
  obtain ⟨m, hs1, hs2, hs3⟩ := divC_step hs hle
  have hrl := red_len r q (lastR r / lastR q)
  have hr0 : r ≠ [] := (fun e => by rw [e, List.length_nil] at hle; omega)
  have hlr := last_ne tr hr0
  have hm0 := ratio_ne hlr hlq
  have hku : r.length - q.length < u.length := (by omega)
  have hadd := oadd (m := lastR r / lastR q) hku (hn _ (Nat.le_refl _) hle)
  have hsub := osub hle hql hlq
  have hpn : shL (r.length - q.length) [lastR r / lastR q] ≠ [] := (fun e => by have := congrArg List.length e; rw [part_len] at this; cases this)
  have hmul := rmul_out hpn hq0
  have hrml := rmulR_len (shL (r.length - q.length) [lastR r / lastR q]) q
  have hpl := part_len (k := r.length - q.length) (m := lastR r / lastR q)
  refine CV.skip ?_
  refine CV.block ?_
  refine sr rfl ?_
  refine ml rfl rfl bd rfl ?_
  refine p1 (ok_lenL plV_length u_poly rfl rfl bd rfl) ?_
  refine ml rfl rfl bd rfl ?_
  refine p1 (ok_lenL plV_length u_poly rfl rfl bd rfl) ?_
  refine p1 (ok_sub (c := ((r.length - q.length : Nat) : Int)) (by rw [wrapI (by omega) (by omega)]; omega) rfl rfl bd rfl rfl) ?_
  refine mr rfl rfl bd rfl ?_
  refine RV.done (sr rfl ?_)
  refine ml rfl rfl bd rfl ?_
  refine p1 (ok_add (c := ((r.length - q.length + 1 : Nat) : Int)) (by rw [wrapI (by omega) (by omega)]; omega) rfl rfl bd rfl rfl) ?_
  refine p2 (ok_make (r := 27) (Nat.le_refl _) (by omega) (by omega) u_rats inf_rat rfl rfl rfl rfl bd rfl rfl rfl rfl rfl) ?_
  refine mr rfl rfl bd rfl ?_
  refine RV.done ?_
  refine CV.seq ?_
  refine CV.region rfl (fun _ => by kernel_rfl) ?_
  refine ml rfl rfl bd rfl ?_
  refine ml rfl rfl bd rfl ?_
  refine ml rfl rfl bd rfl ?_
  refine ml rfl rfl bd rfl ?_
  refine p1 (ok_lenL plV_length u_poly rfl rfl bd rfl) ?_
  refine p1 (ok_sub (c := ((r.length - 1 : Nat) : Int)) (by rw [wrapI (by omega) (by omega)]; omega) rfl rfl bd rfl rfl) ?_
  refine p1 (ok_idxL (k := some 4) (i := r.length - 1) (plV_at (by omega)) u_poly sz_rat (by decide) rfl rfl bd rfl rfl) ?_
  refine p1 (ok_loadP ty_rat (by decide) rfl rfl bd rfl) ?_
  refine ml rfl rfl bd rfl ?_
  refine ml rfl rfl bd rfl ?_
  refine p1 (ok_lenL plV_length u_poly rfl rfl bd rfl) ?_
  refine p1 (ok_sub (c := ((q.length - 1 : Nat) : Int)) (by rw [wrapI (by omega) (by omega)]; omega) rfl rfl bd rfl rfl) ?_
  refine p1 (ok_idxL (k := some 4) (i := q.length - 1) (plV_at (by omega)) u_poly sz_rat (by decide) rfl rfl bd rfl rfl) ?_
  refine p1 (ok_loadP ty_rat (by decide) rfl rfl bd rfl) ?_
  refine p1 (ok_call ((rfDiv_con (lastR r) (lastR q) B B (by omega) (by omega)).mono (fun _ _ _ _ h => h) (rt_le1 hs1)) rfl rfl bd Tryz.func81 rfl rfl (.cons rfl Conv.any (.cons rfl Conv.any .nil)) rfl hfr rfl) ?_
  refine p1 (ok_idxR (i := r.length - q.length) (by omega) (by rw [List.length_replicate]; omega) u_rats sz_rat rfl rfl bd rfl rfl rfl) ?_
  refine p1 (ok_storeR (i := r.length - q.length) (by rw [List.length_replicate]; omega) rfl (by show 0 < 4; decide) rfl rfl rfl rfl rfl rfl sz_rat (.inl rfl) rfl rfl) ?_
  refine RV.drawn (by kernel_rfl) ?_
  refine CV.seq ?_
  rw [part_set]
  refine CV.freeze (r := 27) (t := 9) (G := Dm.gen (lstG (some 4) (List.replicate (r.length - q.length) (SA.v zeroRat) ++ [RT (lastR r / lastR q) B]))) (cx.bw hfr) rfl rfl (by rw [List.length_append, List.length_replicate]; rfl) rfl rfl (lstG_Lst _ _) (lstG_Lst0 _ _) ?_
  refine CV.region rfl (fun h => nomatch h) ?_
  refine ml rfl rfl bd rfl ?_
  refine p1 (ok_call ((rTrim_con (shL (r.length - q.length) [lastR r / lastR q]) B (by omega)).mono (fun _ _ _ _ h => h) (fun L ρ w v h => by rw [part_trim hm0] at h; exact h)) rfl rfl bd Tryz.func52 rfl rfl (.cons rfl ⟨rfl, part_pl⟩ .nil) rfl hfr rfl) ?_
  refine mr rfl rfl bd rfl ?_
  refine RV.done (sr rfl ?_)
  refine ml rfl rfl bd rfl ?_
  refine ml rfl rfl bd rfl ?_
  refine p1 (ok_call ((rAddP_con (trimR (oval u)) (shL (r.length - q.length) [lastR r / lastR q]) B B (by omega) (by omega) (by have := trimR_len (oval u); rw [oval_len] at this; omega) (by omega)).mono (fun _ _ _ _ h => h) (pl_le1 (B := B) (by rw [hadd]; exact sz_trim (dsz_get hz hs1)))) rfl rfl bd Tryz.func22 rfl rfl (.cons rfl Conv.any (.cons rfl Conv.any .nil)) rfl hfr rfl) ?_
  refine mr rfl rfl bd rfl ?_
  refine RV.done ?_
  refine CV.region rfl (fun h => nomatch h) ?_
  refine ml rfl rfl bd rfl ?_
  refine ml rfl rfl bd rfl ?_
  refine ml rfl rfl bd rfl ?_
  refine p1 (ok_call (rMulN_con (shL (r.length - q.length) [lastR r / lastR q]) q B B (2 * B) (by omega) (by omega) hpn hq0 (by omega) (by omega) (by omega) (part_hz (fun j => by rw [Nat.two_mul]; exact sz_mul hB1 hB1 hs1 (sz_getD hqz j)))) rfl rfl bd Tryz.func26 rfl rfl (.cons rfl Conv.any (.cons rfl Conv.any .nil)) rfl hfr rfl) ?_
  refine p1 (ok_call ((rSubP_con r (trimR (outR (shL (r.length - q.length) [lastR r / lastR q]) q (shL (r.length - q.length) [lastR r / lastR q]).length)) B (2 * B) (by omega) (by omega) (by omega) (by rw [hmul]; omega)).mono (fun _ _ _ _ h => h) (pl_le1 (B := B) (by rw [hmul, hsub]; exact hs2))) rfl rfl bd Tryz.func24 rfl rfl (.cons rfl Conv.any (.cons rfl Conv.any .nil)) rfl hfr rfl) ?_
  refine mr rfl rfl bd rfl ?_
  refine RV.done ?_
  exact ⟨⟨(m, u.set (r.length - q.length) (some (lastR r / lastR q)), redR r q (lastR r / lastR q)), hs3, by rw [List.length_set]; exact hu, by show (redR r q (lastR r / lastR q)).length ≤ p.length; omega, red_trim _ _ _, dsz_get hz hs1, fun i hi hi2 => by have hi : i ≤ (redR r q (lastR r / lastR q)).length - q.length := hi; have hi2 : q.length ≤ (redR r q (lastR r / lastR q)).length := hi2; rw [set_get hku, if_neg (by omega)]; exact hn i (by omega) hle⟩, Sub.mk ⟨by rw [hmul, hsub]; exact XV.le_rfl _, by rw [hadd]; exact XV.le_rfl _, XV.le_rfl _, trivial⟩ rfl rfl, by show (redR r q (lastR r / lastR q)).length < r.length; omega⟩
 ·refine CV.exit ?_
  refine CV.seq ?_
  have hX := divC_end hs (by have := of_decide_eq_false hc; omega)
  obtain ⟨rfl, rfl⟩ : U = u ∧ R = r := (Prod.mk.inj hX)
  refine CV.region rfl (fun h => nomatch h) ?_
  refine ml rfl rfl bd rfl ?_
  refine ml rfl rfl bd rfl ?_
  refine mr rfl rfl bd rfl ?_
  refine mr rfl rfl bd rfl ?_
  refine RV.done ?_
  refine CV.ret ?_
  exact fin2 rfl (.inr rfl) rfl rfl (is_pair (fun _ _ _ _ h => h) (fun _ _ _ _ h => h))
end

theorem rDivP_con (p q : List Rat) (B : Nat) {U R : List Rat} (hB1 : 1 ≤ B) (hB : B ≤ 100000) (hp : p.length ≤ 1000) (hq : q.length ≤ 1000) (tp : trimR p = p) (tq : trimR q = q) (hqz : szR q B = true) (h : divS B p q = some (U, R)) : Con Tryz.prog 36 [PL p B, PL q B] (.tup [PL (trimR U) B, PL R B]) := by
 unfold divS at h
 by_cases h0 : q = []
 ·rw [if_pos h0] at h
  injection h with h
  obtain ⟨rfl, rfl⟩ := Prod.mk.inj h
  subst h0
  exact rDivNil_con p B B
 ·rw [if_neg h0] at h
  obtain ⟨⟨u, r⟩, h1, h2⟩ := Option.map_eq_some_iff.1 h
  obtain ⟨rfl, rfl⟩ := Prod.mk.inj h2
  exact rDivN_con p q B u r hB1 hB hp hq h0 tp tq hqz h1
theorem rgcdC_step {B n : Nat} {p q G : List Rat} (h : rgcdC B n p q = some G) (hl : 0 < q.length) : ∃ m U R, divS B p q = some (U, R) ∧ szR (monicR R) B = true ∧ R.length < q.length ∧ rgcdC B m q (monicR R) = some G := by
 cases n with
 | zero => cases h
 | succ n =>
  rw [rgcdC, if_pos hl] at h
  obtain ⟨⟨U, R⟩, h1, h⟩ := Option.bind_eq_some_iff.1 h
  split at h
  ·rename_i h3
   rw [Bool.and_eq_true] at h3
   exact ⟨n, U, R, h1, h3.1, of_decide_eq_true h3.2, h⟩
  ·cases h
theorem rgcdC_end {B n : Nat} {p q G : List Rat} (h : rgcdC B n p q = some G) (hl : ¬ 0 < q.length) : G = p := by
 cases n with
 | zero => cases h
 | succ n =>
  rw [rgcdC, if_neg hl] at h
  injection h with h
  exact h.symm
theorem rgcdS_of {B : Nat} {p q G : List Rat} (h : rgcdS B p q = some G) : szR (monicR p) B = true ∧ szR (monicR q) B = true ∧ rgcdC B (p.length + q.length + 3) (monicR p) (monicR q) = some G := by
 unfold rgcdS at h
 split at h
 ·rename_i h3
  rw [Bool.and_eq_true] at h3
  exact ⟨h3.1, h3.2, h⟩
 ·cases h
theorem monicR_len (p : List Rat) : (monicR p).length ≤ p.length := scaleR_len _ _
theorem monicR_trim (p : List Rat) : trimR (monicR p) = monicR p := trimR_idem _
section
variable (p q G : List Rat) (B : Nat) (hB1 : 1 ≤ B) (hB : B ≤ 100000) (hp : p.length ≤ 1000) (hq : q.length ≤ 1000) (h : rgcdS B p q = some G)
include hB1 hB hp hq h
theorem rGcdP_con : Con Tryz.prog 38 [PL p B, PL q B] (.one (PL G B)) := by
 obtain ⟨z1, z2, h3⟩ := rgcdS_of h
 have l1 := monicR_len p
 have l2 := monicR_len q
 refine Con.of (n := 26) Tryz.func38 rfl rfl rfl rfl rfl fun cx hfr => ?_
 refine sr rfl ?_
 refine mr rfl rfl bd rfl ?_
 refine RV.done (sr rfl ?_)
 refine ml rfl rfl bd rfl ?_
 refine p1 (ok_call (rMonicP_con p B B hB (by omega) z1) rfl rfl bd Tryz.func45 rfl rfl (.cons rfl Conv.any .nil) rfl hfr rfl) ?_
 refine mr rfl rfl bd rfl ?_
 refine RV.done (sr rfl ?_)
 refine ml rfl rfl bd rfl ?_
 refine p1 (ok_call (rMonicP_con q B B hB (by omega) z2) rfl rfl bd Tryz.func45 rfl rfl (.cons rfl Conv.any .nil) rfl hfr rfl) ?_
 refine mr rfl rfl bd rfl ?_
 refine RV.done ?_
 refine CV.seq ?_
 refine CV.block ?_
 refine CV.loop (X := {s : Nat × List Rat × List Rat // rgcdC B s.1 s.2.1 s.2.2 = some G ∧ s.2.1.length ≤ 1000 ∧ s.2.2.length ≤ 1000 ∧ trimR s.2.1 = s.2.1 ∧ trimR s.2.2 = s.2.2 ∧ szR s.2.2 B = true}) (fun s => [(.s 6, .av (.one (PL s.1.2.2 B))), (.s 5, .av (.one (PL s.1.2.1 B)))]) (fun s => s.1.2.2.length) ⟨(p.length + q.length + 3, monicR p, monicR q), h3, by show (monicR p).length ≤ _; omega, by show (monicR q).length ≤ _; omega, monicR_trim p, monicR_trim q, z2⟩ (Sub.mk ⟨XV.le_rfl _, XV.le_rfl _, trivial⟩ rfl rfl) (fun s => ?_)
 obtain ⟨⟨n, a, b⟩, hs, ha, hb, ta, tb, zb⟩ := s
 simp only at hs ha hb ta tb zb ⊢
 refine CV.seq ?_
 refine sr rfl ?_
 refine ml rfl rfl bd rfl ?_
 refine p1 (ok_lenL plV_length u_poly rfl rfl bd rfl) ?_
 refine p1 (ok_gtr rfl rfl bd rfl rfl) ?_
 refine RV.done ?_
 refine CV.cond rfl (fun hc => ?_) (fun hc => ?_)
 ·have hlt : 0 < b.length := (by have := of_decide_eq_true hc; omega)
  obtain ⟨m, U, R, o1, o2, o3, o4⟩ := rgcdC_step hs hlt
  have o5 := monicR_len R
  refine CV.skip ?_
  refine CV.block ?_
  refine sr rfl ?_
  refine ml rfl rfl bd rfl ?_
  refine ml rfl rfl bd rfl ?_
  refine p1 (ok_call (rDivP_con a b B hB1 hB ha hb ta tb zb o1) rfl rfl bd Tryz.func36 rfl rfl (.cons rfl Conv.any (.cons rfl Conv.any .nil)) rfl hfr rfl) ?_
  refine ml rfl rfl bd rfl ?_
  refine p1 (ok_extract rfl rfl bd rfl rfl) ?_
  refine p1 (ok_extract rfl rfl bd rfl rfl) ?_
  refine mr rfl rfl bd rfl ?_
  refine mr rfl rfl bd rfl ?_
  refine RV.done (sr rfl ?_)
  refine ml rfl rfl bd rfl ?_
  refine mr rfl rfl bd rfl ?_
  refine RV.done ?_
  refine CV.region rfl (fun h => nomatch h) ?_
  refine ml rfl rfl bd rfl ?_
  refine p1 (ok_call (rMonicP_con R B B hB (by omega) o2) rfl rfl bd Tryz.func45 rfl rfl (.cons rfl Conv.any .nil) rfl hfr rfl) ?_
  refine mr rfl rfl bd rfl ?_
  refine RV.done ?_
  exact ⟨⟨(m, b, monicR R), o4, hb, by show (monicR R).length ≤ _; omega, tb, monicR_trim R, o2⟩, Sub.mk ⟨XV.le_rfl _, XV.le_rfl _, trivial⟩ rfl rfl, by show (monicR R).length < b.length; omega⟩
 ·refine CV.exit ?_
  refine CV.seq ?_
  have hX := rgcdC_end hs (by have := of_decide_eq_false hc; omega)
  subst hX
  refine CV.region rfl (fun h => nomatch h) ?_
  refine ml rfl rfl bd rfl ?_
  refine mr rfl rfl bd rfl ?_
  refine RV.done ?_
  refine CV.ret ?_
  exact fin1 rfl (.inr rfl) rfl is_rfl
end
section
variable (p G U R : List Rat) (B : Nat) (hB1 : 1 ≤ B) (hB : B ≤ 100000) (hp : p.length ≤ 1000) (tp : trimR p = p) (h0 : szR (deriveR p) B = true) (h1 : rgcdS B p (deriveR p) = some G) (tG : trimR G = G) (hG : G.length ≤ 1000) (zG : szR G B = true) (h2 : divS B p G = some (U, R)) (tU : trimR U = U) (hU : U.length ≤ 1000) (hm : szR (monicR U) B = true)
include hB1 hB hp tp h0 h1 tG hG zG h2 tU hU hm
theorem rFreeP_con : Con Tryz.prog 40 [PL p B] (.one (PL (monicR U) B)) := by
 have hdl : (deriveR p).length ≤ p.length - 1 := (by unfold deriveR; exact Nat.le_trans (trimR_len _) (by rw [tab_length]; exact Nat.le_refl _))
 refine Con.of (n := 16) Tryz.func40 rfl rfl rfl rfl rfl fun cx hfr => ?_
 refine sr rfl ?_
 refine mr rfl rfl bd rfl ?_
 refine RV.done (sr rfl ?_)
 refine ml rfl rfl bd rfl ?_
 refine ml rfl rfl bd rfl ?_
 refine ml rfl rfl bd rfl ?_
 refine p1 (ok_call ((rDeriveP_con p B (by omega) (by omega)).mono (fun _ _ _ _ h => h) (pl_le1 h0)) rfl rfl bd Tryz.func32 rfl rfl (.cons rfl Conv.any .nil) rfl hfr rfl) ?_
 refine p1 (ok_call (rGcdP_con p (deriveR p) G B hB1 hB hp (by omega) h1) rfl rfl bd Tryz.func38 rfl rfl (.cons rfl Conv.any (.cons rfl Conv.any .nil)) rfl hfr rfl) ?_
 refine p1 (ok_call (rDivP_con p G B hB1 hB hp hG tp tG zG h2) rfl rfl bd Tryz.func36 rfl rfl (.cons rfl Conv.any (.cons rfl Conv.any .nil)) rfl hfr rfl) ?_
 refine ml rfl rfl bd rfl ?_
 refine p1 (ok_extract rfl rfl bd rfl rfl) ?_
 refine p1 (ok_extract rfl rfl bd rfl rfl) ?_
 refine mr rfl rfl bd rfl ?_
 refine mr rfl rfl bd rfl ?_
 refine RV.done ?_
 refine CV.seq ?_
 rw [tU]
 refine CV.region rfl (fun h => nomatch h) ?_
 refine ml rfl rfl bd rfl ?_
 refine p1 (ok_call (rMonicP_con U B B hB (by omega) hm) rfl rfl bd Tryz.func45 rfl rfl (.cons rfl Conv.any .nil) rfl hfr rfl) ?_
 refine mr rfl rfl bd rfl ?_
 refine RV.done ?_
 refine CV.ret ?_
 exact fin1 rfl (.inr rfl) rfl is_rfl
end
end Vc
end Go.Proofs.YtcblbepaigdlgaaGreat

namespace Go.Proofs.YtcblbepaigdlgaaGreat
open Go.RowKit
open Dg Zn
namespace Vc
/-! Divisors of a polynomial have short numbers: at whole numbers beyond the zeros a divisor is no greater than the polynomial, and its values there tell its coefficients. -/
def Zl (l : List Rat) : Prop := ∀ k, ∃ z : Int, l.getD k 0 = (z : Rat)
def Dd (d : Int) (l : List Rat) : Prop := ∀ k, ∃ z : Int, l.getD k 0 = ((d * z : Int) : Rat)
theorem least_div : ∀ m : Nat, 1 < m → ∃ p, 1 < p ∧ p ∣ m ∧ ∀ d, d ∣ p → d = 1 ∨ d = p := by
 intro m
 induction m using Nat.strongRecOn with
 | ind m ih =>
  intro h
  by_cases hd : ∃ d, 1 < d ∧ d < m ∧ d ∣ m
  ·obtain ⟨d, h1, h2, h3⟩ := hd
   obtain ⟨p, p1, p2, p3⟩ := ih d h2 h1
   exact ⟨p, p1, Nat.dvd_trans p2 h3, p3⟩
  ·refine ⟨m, h, Nat.dvd_refl m, fun d h1 => ?_⟩
   have hle := Nat.le_of_dvd (by omega) h1
   have h0 : d ≠ 0 := by
    rintro rfl
    have := Nat.eq_zero_of_zero_dvd h1
    omega
   rcases Nat.lt_or_ge 1 d with h2 | h2
   ·rcases Nat.lt_or_ge d m with h3 | h3
    ·exact absurd ⟨d, h2, h3, h1⟩ hd
    ·exact .inr (by omega)
   ·exact .inl (by omega)
theorem prime_dvd {p : Nat} (hp : ∀ d, d ∣ p → d = 1 ∨ d = p) {a b : Int} (h : (p : Int) ∣ a * b) : (p : Int) ∣ a ∨ (p : Int) ∣ b := by
 have h' : p ∣ a.natAbs * b.natAbs := by rw [← Int.natAbs_mul]; exact Int.ofNat_dvd_left.1 h
 rcases hp (Nat.gcd p a.natAbs) (Nat.gcd_dvd_left _ _) with h1 | h1
 ·exact .inr (Int.ofNat_dvd_left.2 (Nat.Coprime.dvd_of_dvd_mul_left h1 h'))
 ·exact .inl (Int.ofNat_dvd_left.2 (by rw [← h1]; exact Nat.gcd_dvd_right _ _))
theorem cv_comm (p q : List Rat) (k : Nat) : cvF p q k = cvF q p k := by
 rw [← mul_coef, ← mul_coef]
 exact ev_coef (fun x => by rw [ev_mul, ev_mul, Rat.mul_comm]) k
theorem Zl.tail {a : Rat} {l : List Rat} (h : Zl (a :: l)) : Zl l := fun k => h (k + 1)
theorem Dd.cons {d : Int} {a : Rat} {l : List Rat} (h0 : ∃ z : Int, a = ((d * z : Int) : Rat)) (h : Dd d l) : Dd d (a :: l) := fun k => by
 cases k with
 | zero => exact h0
 | succ k => exact h k
theorem Dd.nil (d : Int) : Dd d [] := fun k => ⟨0, by rw [getD_zero (Nat.zero_le _), Int.mul_zero]; rfl⟩
theorem gauss {p : Nat} (hp : ∀ d, d ∣ p → d = 1 ∨ d = p) : ∀ (n : Nat) (g h : List Rat), g.length + h.length ≤ n → Zl g → Zl h → (∀ k, ∃ z : Int, cvF g h k = (((p : Int) * z : Int) : Rat)) → Dd p g ∨ Dd p h := by
 intro n
 induction n with
 | zero =>
  intro g h hn _ _ _
  obtain rfl := List.eq_nil_of_length_eq_zero (show g.length = 0 by omega)
  exact .inl (Dd.nil p)
 | succ n ih =>
  have cut : ∀ (a : Rat) (g h : List Rat), Zl (a :: g) → Zl h → (∀ k, ∃ z : Int, cvF (a :: g) h k = (((p : Int) * z : Int) : Rat)) → (∃ z : Int, a = (((p : Int) * z : Int) : Rat)) → ∀ k, ∃ z : Int, cvF g h k = (((p : Int) * z : Int) : Rat) := by
   rintro a g h hg hh hc ⟨y, hy⟩ k
   obtain ⟨z, hz⟩ := hc (k + 1)
   rw [cv_cons, if_neg (by omega), Nat.add_sub_cancel] at hz
   obtain ⟨u, hu⟩ := hh (k + 1)
   refine ⟨z - u * y, ?_⟩
   rw [hu, hy] at hz
   rw [Int.mul_sub, Rat.intCast_sub, ← hz, Rat.intCast_mul, Rat.intCast_mul, Rat.intCast_mul]
   grind
  intro g h hn hg hh hc
  match g, h with
  | [], _ => exact .inl (Dd.nil p)
  | _ :: _, [] => exact .inr (Dd.nil p)
  | a :: g, b :: h =>
   obtain ⟨a', ha⟩ := hg 0
   obtain ⟨b', hb⟩ := hh 0
   have ha' : a = (a' : Rat) := ha
   have hb' : b = (b' : Rat) := hb
   simp only [List.length_cons] at hn
   have h0 : (p : Int) ∣ a' * b' := by
    obtain ⟨z, hz⟩ := hc 0
    rw [cv_cons, if_pos rfl] at hz
    have e : ((a' * b' : Int) : Rat) = (((p : Int) * z : Int) : Rat) := by
     rw [← hz, Rat.intCast_mul, ← ha', ← hb']
     show _ = b * a + 0
     grind
    exact ⟨z, Rat.intCast_inj.1 e⟩
   rcases prime_dvd hp h0 with ⟨y, hy⟩ | ⟨y, hy⟩
   ·have hd : ∃ z : Int, a = (((p : Int) * z : Int) : Rat) := ⟨y, by rw [ha', hy]⟩
    rcases ih g (b :: h) (by simp only [List.length_cons]; omega) hg.tail hh (cut a g (b :: h) hg hh hc hd) with q | q
    ·exact .inl (q.cons hd)
    ·exact .inr q
   ·have hd : ∃ z : Int, b = (((p : Int) * z : Int) : Rat) := ⟨y, by rw [hb', hy]⟩
    have hc' := cut b h (a :: g) hh hg (fun k => by rw [cv_comm]; exact hc k) hd
    rcases ih (a :: g) h (by simp only [List.length_cons]; omega) hg hh.tail (fun k => by rw [cv_comm]; exact hc' k) with q | q
    ·exact .inl q
    ·exact .inr (q.cons hd)
def Prim (g : List Rat) : Prop := Zl g ∧ ∀ d : Nat, 1 < d → ¬ Dd d g
theorem whole_quot {P G H : List Rat} (hP : Zl P) (hG : Prim G) (h : ∀ x, ev P x = ev G x * ev H x) : ∀ m : Nat, 0 < m → (∀ k, ∃ z : Int, H.getD k 0 * ((m : Nat) : Rat) = (z : Rat)) → Zl H := by
 intro m
 induction m using Nat.strongRecOn with
 | ind m ih =>
  intro hm hH
  by_cases h1 : m = 1
  ·subst h1
   intro k
   obtain ⟨z, hz⟩ := hH k
   exact ⟨z, by rw [← hz]; show _ = _ * (1 : Rat); grind⟩
  ·obtain ⟨p, p1, ⟨m', p2⟩, p3⟩ := least_div m (by omega)
   have hm' : 0 < m' := by
    rcases Nat.eq_zero_or_pos m' with q | q
    ·subst q; omega
    ·exact q
   have hp0 : ((p : Nat) : Rat) ≠ 0 := fun e => by
    have : (((p : Int)) : Rat) = ((0 : Int) : Rat) := by rw [Rat.intCast_natCast]; exact e
    have := Rat.intCast_inj.1 this
    omega
   have hmm : ((m : Nat) : Rat) = ((p : Nat) : Rat) * ((m' : Nat) : Rat) := by rw [p2, Rat.natCast_mul]
   have hS : Zl (scaleR H ((m : Nat) : Rat)) := fun k => by rw [scale_get]; exact hH k
   have hcv : ∀ k, ∃ z : Int, cvF G (scaleR H ((m : Nat) : Rat)) k = (((p : Int) * z : Int) : Rat) := fun k => by
    obtain ⟨z, hz⟩ := hP k
    refine ⟨m' * z, ?_⟩
    have e : cvF G (scaleR H ((m : Nat) : Rat)) k = (scaleR P ((m : Nat) : Rat)).getD k 0 := by
     rw [← mul_coef]
     exact ev_coef (fun x => by rw [ev_mul, ev_scale, ev_scale, h]; grind) k
    rw [e, scale_get, hz, hmm, Rat.intCast_mul, Rat.intCast_mul, Rat.intCast_natCast, Rat.intCast_natCast]
    grind
   rcases gauss p3 _ G (scaleR H ((m : Nat) : Rat)) (Nat.le_refl _) hG.1 hS hcv with q | q
   ·exact absurd q (hG.2 p p1)
   ·have hlt : m' < m := by
     rw [p2]
     have := Nat.mul_le_mul_right m' p1
     omega
    refine ih m' hlt hm' fun k => ?_
    obtain ⟨z, hz⟩ := q k
    rw [scale_get, hmm, Rat.intCast_mul, Rat.intCast_natCast] at hz
    refine ⟨z, ?_⟩
    have hi := Rat.mul_inv_cancel _ hp0
    grind
theorem com_den : ∀ l : List Rat, ∃ m : Nat, 0 < m ∧ ∀ k, ∃ z : Int, l.getD k 0 * ((m : Nat) : Rat) = (z : Rat)
 | [] => ⟨1, Nat.one_pos, fun k => ⟨0, by rw [getD_zero (Nat.zero_le _), Rat.zero_mul]; rfl⟩⟩
 | a :: l => by
  obtain ⟨m, h1, h2⟩ := com_den l
  refine ⟨a.den * m, Nat.mul_pos (Nat.pos_of_ne_zero a.den_nz) h1, fun k => ?_⟩
  cases k with
  | zero =>
   refine ⟨a.num * m, ?_⟩
   show a * _ = _
   rw [Rat.natCast_mul, Rat.intCast_mul, ← num_eq a, Rat.intCast_natCast]
   grind
  | succ k =>
   obtain ⟨z, hz⟩ := h2 k
   refine ⟨a.den * z, ?_⟩
   show l.getD k 0 * _ = _
   rw [Rat.natCast_mul, Rat.intCast_mul, ← hz, Rat.intCast_natCast]
   grind
theorem dd_div {d : Nat} (hd : 0 < d) {g : List Rat} (h : Dd d g) : Zl (scaleR g (1 / ((d : Nat) : Rat))) := fun k => by
 obtain ⟨z, hz⟩ := h k
 refine ⟨z, ?_⟩
 have hd0 : ((d : Nat) : Rat) ≠ 0 := fun e => by
  have : (((d : Int)) : Rat) = ((0 : Int) : Rat) := by rw [Rat.intCast_natCast]; exact e
  have := Rat.intCast_inj.1 this
  omega
 have hi := Rat.mul_inv_cancel _ hd0
 rw [scale_get, hz, Rat.div_def, Rat.one_mul, Rat.intCast_mul, Rat.intCast_natCast]
 grind
theorem prim_ex0 : ∀ (n : Nat) (g : List Rat), trimR g = g → g ≠ [] → Zl g → (∀ z : Int, lastR g = (z : Rat) → z.natAbs ≤ n) → ∃ (r : List Rat) (c : Rat), c ≠ 0 ∧ trimR r = r ∧ r.length = g.length ∧ Prim r ∧ ∀ x, ev r x = c * ev g x := by
 intro n
 induction n with
 | zero =>
  intro g tg hg0 hz hl
  obtain ⟨z, hz'⟩ := hz (g.length - 1)
  have := hl z hz'
  exact absurd (show lastR g = 0 by show g.getD _ 0 = 0; rw [hz', show z = 0 by omega]; rfl) (last_ne tg hg0)
 | succ n ih =>
  intro g tg hg0 hz hl
  by_cases hd : ∃ d : Nat, 1 < d ∧ Dd d g
  ·obtain ⟨d, d1, d2⟩ := hd
   have hd0 : ((d : Nat) : Rat) ≠ 0 := fun e => by
    have : (((d : Int)) : Rat) = ((0 : Int) : Rat) := by rw [Rat.intCast_natCast]; exact e
    have := Rat.intCast_inj.1 this
    omega
   have hi := Rat.mul_inv_cancel _ hd0
   have e1 : (1 : Rat) / ((d : Nat) : Rat) = ((d : Nat) : Rat)⁻¹ := by rw [Rat.div_def, Rat.one_mul]
   have hc : (1 : Rat) / ((d : Nat) : Rat) ≠ 0 := by
    rw [e1]
    intro e
    rw [e] at hi
    grind
   obtain ⟨s1, s2⟩ := scale_facts tg hc
   obtain ⟨r, c, r1, r2, r3, r4, r5⟩ := ih (scaleR g (1 / ((d : Nat) : Rat))) (trimR_idem _) (fun e => by
    rw [e] at s1
    exact hg0 (List.eq_nil_of_length_eq_zero s1.symm)) (dd_div (by omega) d2) (fun z hz2 => by
     obtain ⟨y, hy⟩ := d2 (g.length - 1)
     have hy' : lastR g = (((d : Int) * y : Int) : Rat) := hy
     have hb := hl _ hy'
     rw [s2, hy', e1, Rat.intCast_mul, Rat.intCast_natCast] at hz2
     have e2 : (y : Rat) = (z : Rat) := by rw [← hz2]; grind
     obtain rfl := Rat.intCast_inj.1 e2
     rw [Int.natAbs_mul, Int.natAbs_natCast] at hb
     have hy0 : y.natAbs ≠ 0 := fun e => last_ne tg hg0 (by rw [hy', show y = 0 by omega, Int.mul_zero]; rfl)
     have := Nat.mul_le_mul_right y.natAbs d1
     omega)
   exact ⟨r, c * (1 / ((d : Nat) : Rat)), fun e => (Rat.mul_eq_zero.1 e).elim r1 hc, r2, by rw [r3, s1], r4, fun x => by rw [r5, ev_scale]; grind⟩
  ·exact ⟨g, 1, by decide, tg, rfl, ⟨hz, fun d d1 d2 => hd ⟨d, d1, d2⟩⟩, fun x => by rw [Rat.one_mul]⟩
theorem prim_ex {g : List Rat} (tg : trimR g = g) (hg0 : g ≠ []) : ∃ (r : List Rat) (c : Rat), c ≠ 0 ∧ trimR r = r ∧ r.length = g.length ∧ Prim r ∧ ∀ x, ev r x = c * ev g x := by
 obtain ⟨m, m1, m2⟩ := com_den g
 have hm0 : ((m : Nat) : Rat) ≠ 0 := fun e => by
  have : (((m : Int)) : Rat) = ((0 : Int) : Rat) := by rw [Rat.intCast_natCast]; exact e
  have := Rat.intCast_inj.1 this
  omega
 obtain ⟨s1, s2⟩ := scale_facts tg hm0
 have hz : Zl (scaleR g ((m : Nat) : Rat)) := fun k => by rw [scale_get]; exact m2 k
 obtain ⟨z, hz2⟩ := hz ((scaleR g ((m : Nat) : Rat)).length - 1)
 obtain ⟨r, c, r1, r2, r3, r4, r5⟩ := prim_ex0 z.natAbs (scaleR g ((m : Nat) : Rat)) (trimR_idem _) (fun e => by
  rw [e] at s1
  exact hg0 (List.eq_nil_of_length_eq_zero s1.symm)) hz (fun y hy => by
   have e : (y : Rat) = (z : Rat) := by rw [← hy]; exact hz2
   rw [Rat.intCast_inj.1 e]
   exact Nat.le_refl _)
 exact ⟨r, c * ((m : Nat) : Rat), fun e => (Rat.mul_eq_zero.1 e).elim r1 hm0, r2, by rw [r3, s1], r4, fun x => by rw [r5, ev_scale]; grind⟩
/-! Whole numbers as they are. -/
def iev : List Int → Int → Int
 | [], _ => 0
 | a :: l, x => a + x * iev l x
def zin (L : List Int) : List Rat := L.map fun z : Int => (z : Rat)
theorem zl_in {l : List Rat} (h : Zl l) : ∃ L : List Int, l = zin L := by
 induction l with
 | nil => exact ⟨[], rfl⟩
 | cons a l ih =>
  obtain ⟨L, hL⟩ := ih h.tail
  obtain ⟨z, hz⟩ := h 0
  exact ⟨z :: L, by rw [hL, show a = (z : Rat) from hz]; rfl⟩
theorem ev_zin (x : Int) : ∀ L : List Int, ev (zin L) (x : Rat) = (iev L x : Rat)
 | [] => rfl
 | a :: L => by
  show (a : Rat) + (x : Rat) * ev (zin L) x = _
  rw [ev_zin x L, iev, Rat.intCast_add, Rat.intCast_mul]
theorem zin_get (L : List Int) (k : Nat) : (zin L).getD k 0 = (L.getD k 0 : Rat) := by
 unfold zin
 rw [List.getD_eq_getElem?_getD, List.getD_eq_getElem?_getD, List.getElem?_map]
 cases L[k]? <;> rfl
theorem iev_low {c : Nat} {x : Int} (hx : 2 ^ c + 1 ≤ x) : ∀ (L : List Int), (∀ k, (L.getD k 0).natAbs ≤ 2 ^ c) → L ≠ [] → L.getD (L.length - 1) 0 ≠ 0 → 1 ≤ (iev L x).natAbs
 | [], _, h, _ => absurd rfl h
 | [a], _, _, h => by
  have h' : a ≠ 0 := h
  show 1 ≤ (a + x * 0).natAbs
  omega
 | a :: b :: L, hb, _, hl => by
  have ih := iev_low hx (b :: L) (fun k => hb (k + 1)) (by simp) (by simpa using hl)
  have ha : a.natAbs ≤ 2 ^ c := hb 0
  rw [iev]
  have h1 : (x * iev (b :: L) x).natAbs = x.natAbs * (iev (b :: L) x).natAbs := Int.natAbs_mul _ _
  have h2 := Nat.le_mul_of_pos_right x.natAbs (show 0 < (iev (b :: L) x).natAbs by omega)
  have h3 : (2 : Int) ^ c = ((2 ^ c : Nat) : Int) := by simp
  rw [h3] at hx
  generalize 2 ^ c = y at *
  omega
theorem iev_high {c s : Nat} {x : Int} (hx : x.natAbs ≤ 2 ^ s) : ∀ (L : List Int), (∀ k, (L.getD k 0).natAbs ≤ 2 ^ c) → (iev L x).natAbs ≤ 2 ^ (c + L.length * (s + 1))
 | [], _ => Nat.zero_le _
 | a :: L, hb => by
  have ih := iev_high hx L (fun k => hb (k + 1))
  have ha : a.natAbs ≤ 2 ^ c := hb 0
  rw [iev]
  refine Nat.le_trans (abs_add (c := c + L.length * (s + 1) + s) (Nat.le_trans ha (pow_le (by omega))) (Nat.le_trans (abs_mul hx ih) (pow_le (by omega)))) (pow_le ?_)
  rw [List.length_cons, Nat.succ_mul]
  omega
def syn (s : Int) : Int → List Int → Int × List Int
 | a, [] => (a, [])
 | a, b :: l => (a + s * (syn s b l).1, (syn s b l).1 :: (syn s b l).2)
theorem syn_len (s : Int) : ∀ (l : List Int) (a : Int), (syn s a l).2.length = l.length
 | [], _ => rfl
 | b :: l, _ => by rw [syn, List.length_cons, syn_len s l b, List.length_cons]
theorem syn_ev (s x : Int) : ∀ (l : List Int) (a : Int), a + x * iev l x = (syn s a l).1 + (x - s) * iev (syn s a l).2 x
 | [], a => by show a + x * 0 = a + (x - s) * 0; grind
 | b :: l, a => by
  have ih := syn_ev s x l b
  rw [syn, iev, iev]
  show a + x * (b + x * iev l x) = a + s * (syn s b l).1 + (x - s) * ((syn s b l).1 + x * iev (syn s b l).2 x)
  rw [ih]
  grind
theorem syn_get (s : Int) : ∀ (l : List Int) (a : Int), a = (syn s a l).1 - s * (syn s a l).2.getD 0 0 ∧ ∀ k, l.getD k 0 = (syn s a l).2.getD k 0 - s * (syn s a l).2.getD (k + 1) 0
 | [], a => ⟨by show a = a - s * 0; grind, fun k => by show (0 : Int) = 0 - s * 0; grind⟩
 | b :: l, a => by
  obtain ⟨h1, h2⟩ := syn_get s l b
  rw [syn]
  refine ⟨?_, fun k => ?_⟩
  ·show a = a + s * (syn s b l).1 - s * (syn s b l).1
   grind
  ·cases k with
   | zero => exact h1
   | succ k => exact h2 k
theorem newton : ∀ (n : Nat) (L : List Int) (s : Int) (v t : Nat), L.length ≤ n → (∀ j : Nat, j < n → (iev L (s + j)).natAbs ≤ 2 ^ v) → s.natAbs + n ≤ 2 ^ t → ∀ k, (L.getD k 0).natAbs ≤ 2 ^ (v + n * (t + 2))
 | 0, L, s, v, t, hL, _, _, k => by
  obtain rfl := List.eq_nil_of_length_eq_zero (show L.length = 0 by omega)
  exact Nat.zero_le _
 | n + 1, [], _, _, _, _, _, _, k => Nat.zero_le _
 | n + 1, a :: L, s, v, t, hL, hv, ht, k => by
  rw [List.length_cons] at hL
  obtain ⟨g1, g2⟩ := syn_get s L a
  have hev := fun x => syn_ev s x L a
  have hl := syn_len s L a
  generalize (syn s a L).1 = c at *
  generalize (syn s a L).2 = L' at *
  have hc : c.natAbs ≤ 2 ^ v := by
   have h0 := hv 0 (by omega)
   have e := hev s
   rw [show s - s = 0 by omega, Int.zero_mul, Int.add_zero] at e
   rw [show s + ((0 : Nat) : Int) = s by omega, iev, e] at h0
   exact h0
  have ih := newton n L' (s + 1) (v + 1) t (by omega) (fun j hj => by
   have h1 := hv (j + 1) (by omega)
   rw [show s + ((j + 1 : Nat) : Int) = s + 1 + j by omega, iev, hev] at h1
   have h2 : ((s + 1 + j - s) * iev L' (s + 1 + j)).natAbs = (s + 1 + j - s).natAbs * (iev L' (s + 1 + j)).natAbs := Int.natAbs_mul _ _
   have h3 := Nat.le_mul_of_pos_left (iev L' (s + 1 + j)).natAbs (show 0 < (s + 1 + j - s).natAbs by omega)
   rw [Nat.pow_succ]
   omega) (by omega)
  have hs : s.natAbs ≤ 2 ^ t := by omega
  have hsum : ∀ {y z : Int} {w : Nat}, y.natAbs ≤ 2 ^ w → z.natAbs ≤ 2 ^ w → (y - s * z).natAbs ≤ 2 ^ (w + t + 1) := fun hy hz => by
   refine abs_sub (Nat.le_trans hy (pow_le (by omega))) ?_
   rw [Nat.add_comm]
   exact abs_mul hs hz
  have hexp : v + 1 + n * (t + 2) + t + 1 = v + (n + 1) * (t + 2) := by rw [Nat.succ_mul]; omega
  rw [← hexp]
  cases k with
  | zero =>
   show a.natAbs ≤ _
   rw [g1]
   exact hsum (Nat.le_trans hc (pow_le (by omega))) (ih 0)
  | succ k =>
   show (L.getD k 0).natAbs ≤ _
   rw [g2]
   exact hsum (ih k) (ih (k + 1))
def kron (c n : Nat) : Nat := c + n * (c + 3) + n * (c + 4)
theorem Cm.whole {m : Int} {p : List Rat} {c : Nat} (h : Cm m p c) : Zl (scaleR p (m : Rat)) := fun k => by
 obtain ⟨z, z1, _⟩ := h k
 exact ⟨z, by rw [scale_get, z1]⟩
theorem dv_small {P G : List Rat} {c n : Nat} (tP : trimR P = P) (hP0 : P ≠ []) (hc : Cb P c) (hn : P.length ≤ n) (hn2 : n ≤ 2 ^ c) (tG : trimR G = G) (h : Dv G P) : Cb (monicR G) (kron c n) := by
 obtain ⟨hG0, hGl, _⟩ := dv_len tG tP hP0 h
 obtain ⟨m, m1, _, m3⟩ := hc
 obtain ⟨u, hu⟩ := h
 have hm0 := cast_ne m1
 obtain ⟨s1, s2⟩ := scale_facts tP hm0
 obtain ⟨r, a, a1, r1, r2, r3, r4⟩ := prim_ex tG hG0
 have hai := Rat.inv_mul_cancel a a1
 have hPz := m3.whole
 -- the quotient
 have hq : ∀ x, ev (scaleR P (m : Rat)) x = ev r x * ev (scaleR u (a⁻¹ * (m : Rat))) x := fun x => by
  rw [ev_scale, ev_scale, r4, hu]
  grind
 obtain ⟨d, d1, d2⟩ := com_den (scaleR u (a⁻¹ * (m : Rat)))
 have hHz := whole_quot hPz r3 hq d d1 d2
 obtain ⟨LP, eP⟩ := zl_in hPz
 obtain ⟨LG, eG⟩ := zl_in r3.1
 obtain ⟨LH, eH⟩ := zl_in hHz
 have hmul : ∀ x : Int, iev LP x = iev LG x * iev LH x := fun x => by
  have := hq (x : Rat)
  rw [eP, eG, eH, ev_zin, ev_zin, ev_zin, ← Rat.intCast_mul] at this
  exact Rat.intCast_inj.1 this
 have hPb : ∀ k, (LP.getD k 0).natAbs ≤ 2 ^ c := fun k => by
  obtain ⟨z, z1, z2⟩ := m3 k
  have e : ((LP.getD k 0 : Int) : Rat) = (z : Rat) := by rw [← zin_get, ← eP, scale_get, z1]
  rw [Rat.intCast_inj.1 e]
  exact z2
 have hLPl : LP.length = P.length := by
  have := congrArg List.length eP
  rw [s1] at this
  rw [this]
  simp [zin]
 have hP0' : LP ≠ [] := fun e => by
  rw [e, List.length_nil] at hLPl
  exact hP0 (List.eq_nil_of_length_eq_zero hLPl.symm)
 have hPl : LP.getD (LP.length - 1) 0 ≠ 0 := fun e => by
  have h1 : lastR (scaleR P (m : Rat)) = 0 := by
   unfold lastR
   rw [s1, eP, zin_get, ← hLPl, e]
   rfl
  rw [s2] at h1
  exact (Rat.mul_eq_zero.1 h1).elim (last_ne tP hP0) hm0
 have hLGl : LG.length = r.length := by rw [eG]; simp [zin]
 have hval : ∀ j : Nat, j < n → (iev LG ((2 ^ (c + 1) : Nat) + (j : Int))).natAbs ≤ 2 ^ (c + n * (c + 3)) := fun j hj => by
  have hlo : 1 ≤ (iev LP ((2 ^ (c + 1) : Nat) + (j : Int))).natAbs := iev_low (c := c) (by
   have e : (2 : Int) ^ c = ((2 ^ c : Nat) : Int) := by simp
   rw [e, Nat.pow_succ]
   have := Nat.one_le_two_pow (n := c)
   omega) LP hPb hP0' hPl
  have hhi := iev_high (c := c) (s := c + 2) (x := (2 ^ (c + 1) : Nat) + (j : Int)) (by
   rw [Nat.pow_succ 2 (c + 1), Nat.pow_succ]
   omega) LP hPb
  rw [hmul, Int.natAbs_mul] at hlo hhi
  have h0 : 0 < (iev LH ((2 ^ (c + 1) : Nat) + (j : Int))).natAbs := Nat.pos_of_ne_zero fun e => by rw [e, Nat.mul_zero] at hlo; omega
  refine Nat.le_trans (Nat.le_trans (Nat.le_mul_of_pos_right _ h0) hhi) (pow_le ?_)
  exact Nat.add_le_add_left (Nat.mul_le_mul_right (c + 3) (show LP.length ≤ n by omega)) c
 have hcoef := newton n LG ((2 ^ (c + 1) : Nat) : Int) (c + n * (c + 3)) (c + 2) (by omega) hval (by
  rw [Int.natAbs_natCast, Nat.pow_succ 2 (c + 1), Nat.pow_succ]
  omega)
 have hr0 : r ≠ [] := fun e => by
  rw [e] at r2
  exact hG0 (List.eq_nil_of_length_eq_zero r2.symm)
 have hCr : Cm 1 r (kron c n) := fun k => ⟨LG.getD k 0, by rw [one_cast, eG, zin_get], hcoef k⟩
 have hmr := (cb_one hCr).monic (last_ne r1 hr0)
 -- the same polynomial but for a number
 obtain ⟨x1, x2, x3, b, b1, b2⟩ := monic_facts r1 hr0
 obtain ⟨y1, y2, y3, b', b3, b4⟩ := monic_facts tG hG0
 have hab : ∃ e : Rat, ∀ x, ev (monicR G) x = e * ev (monicR r) x := by
  have hbi := Rat.inv_mul_cancel b b1
  exact ⟨b' * a⁻¹ * b⁻¹, fun x => by rw [b2, b4, r4]; grind⟩
 obtain ⟨e, he⟩ := hab
 have hco := ev_coef (p := monicR G) (q := scaleR (monicR r) e) fun x => by rw [ev_scale, he, Rat.mul_comm]
 have he1 : e = 1 := by
  have h1 := hco (G.length - 1)
  rw [scale_get] at h1
  have h2 : lastR (monicR G) = (monicR G).getD (G.length - 1) 0 := by unfold lastR; rw [y2]
  have h3 : lastR (monicR r) = (monicR r).getD (G.length - 1) 0 := by unfold lastR; rw [x2, r2]
  rw [← h2, ← h3, x3, y3] at h1
  grind
 refine hmr.ext fun k => ?_
 rw [hco, scale_get, he1, Rat.mul_one]
/-! The reference's polynomials are small. -/
theorem small_cm (z : Int) : ∃ y : Int, smallR z * ((12 : Int) : Rat) = (y : Rat) ∧ y.natAbs ≤ 2 ^ 7 := by
 obtain ⟨⟨a1, a2⟩, _, b1, b2⟩ := small_facts z
 unfold smallR
 have ha : ((aroundI z 105).tmod 15 - 7).natAbs ≤ 8 := by omega
 generalize (aroundI z 105).tmod 15 - 7 = a at ha ⊢
 generalize ((aroundI z 105).tdiv 15).tmod 4 = b at b1 b2 ⊢
 have key : ∀ d e : Int, d * e = 12 → d ≠ 0 → e.natAbs ≤ 12 → ∃ y : Int, Rat.divInt a d * ((12 : Int) : Rat) = (y : Rat) ∧ y.natAbs ≤ 2 ^ 7 := fun d e h1 h2 h3 => by
  refine ⟨a * e, ?_, ?_⟩
  ·rw [Rat.divInt_eq_div, Rat.div_def, ← h1, Rat.intCast_mul, Rat.intCast_mul]
   have := Rat.mul_inv_cancel _ (cast_ne h2)
   grind
  ·rw [Int.natAbs_mul]
   exact Nat.le_trans (Nat.mul_le_mul ha h3) (by decide)
 rcases (by omega : b = 0 ∨ b = 1 ∨ b = 2 ∨ b = 3) with rfl | rfl | rfl | rfl
 ·exact key 1 12 rfl (by decide) (by decide)
 ·exact key 2 6 rfl (by decide) (by decide)
 ·exact key 3 4 rfl (by decide) (by decide)
 ·exact key 4 3 rfl (by decide) (by decide)
theorem cm_mem {m : Int} {p : List Rat} {e : Nat} (h : ∀ a ∈ p, ∃ y : Int, a * (m : Rat) = (y : Rat) ∧ y.natAbs ≤ 2 ^ e) : Cm m p e := fun k => by
 rcases Nat.lt_or_ge k p.length with hk | hk
 ·rw [List.getD_eq_getElem?_getD, List.getElem?_eq_getElem hk]
  exact h _ (List.getElem_mem hk)
 ·rw [getD_zero hk]
  exact ⟨0, by rw [Rat.zero_mul]; rfl, Nat.zero_le _⟩
theorem cb_trim {p : List Rat} {e : Nat} (h : Cb p e) : Cb (trimR p) e := h.ext (trim_getD p)
theorem fac_cb (zs : List Int) (i n : Nat) : Cb (trimR (facR zs i n)) 7 := by
 refine cb_trim ⟨12, by decide, by decide, cm_mem fun a ha => ?_⟩
 have h1 : ∃ y : Int, Rat.divInt 1 1 * ((12 : Int) : Rat) = (y : Rat) ∧ y.natAbs ≤ 2 ^ 7 := ⟨12, by rw [show Rat.divInt 1 1 = 1 by decide +kernel, Rat.one_mul], by decide⟩
 unfold facR at ha
 split at ha
 ·simp only [List.mem_cons, List.not_mem_nil, or_false] at ha
  rcases ha with rfl | rfl | rfl
  ·exact small_cm _
  ·exact small_cm _
  ·exact h1
 ·simp only [List.mem_cons, List.not_mem_nil, or_false] at ha
  rcases ha with rfl | rfl
  ·obtain ⟨y, y1, y2⟩ := small_cm (zs.getD i 0)
   exact ⟨-y, by rw [Rat.intCast_neg, ← y1]; grind, by rw [Int.natAbs_neg]; exact y2⟩
  ·exact h1
theorem Cb.rmul {p q : List Rat} {c d t : Nat} (hp : Cb p c) (hq : Cb q d) (ht : p.length + q.length ≤ 2 ^ t) : Cb (rmulR p q) (c + d + t) := (hp.mul hq ht).ext fun k => ev_coef (fun x => by rw [ev_rmul, ev_mul]) k
theorem polyB_cb (zs : List Int) : ∀ m, m ≤ 3 → Cb (polyB zs m) (3 + 10 * m)
 | 0, _ => by
  refine cb_trim ⟨1, by decide, by decide, cm_mem fun a ha => ?_⟩
  obtain rfl := List.mem_singleton.1 ha
  obtain ⟨h1, h2⟩ := atI_bd zs 1 5 (by decide)
  refine ⟨1 + atI zs 1 5, ?_, by omega⟩
  rw [one_cast]
  exact w_cast _
 | m + 1, h => by
  have h1 := polyB_cb zs m (by omega)
  have h2 := (polyB_facts zs m).1
  have h3 := trimR_len (facR zs (m + 2) (polyB zs m).length)
  have h4 := facR_len zs (m + 2) (polyB zs m).length
  rw [polyB]
  exact (h1.rmul (fac_cb zs (m + 2) (polyB zs m).length) (t := 3) (by omega)).mono (by omega)
theorem polyR_cb (zs : List Int) : Cb (polyR zs) 33 := by
 unfold polyR
 split
 ·refine (cb_trim ⟨12, by decide, by decide, cm_mem (e := 7) fun a ha => ?_⟩).mono (by decide)
  unfold tab at ha
  obtain ⟨k, _, rfl⟩ := List.mem_map.1 ha
  exact small_cm _
 ·exact (polyB_cb zs _ (by omega)).mono (by omega)
theorem polyR_len (zs : List Int) : (polyR zs).length ≤ 6 := by
 unfold polyR
 split
 ·refine Nat.le_trans (trimR_len _) ?_
  rw [tab_length]
  omega
 ·have h : ∀ m, m ≤ 3 → (polyB zs m).length ≤ 6 := fun m hm => by
   rcases (by omega : m ≤ 2 ∨ m = 3) with h | h
   ·have := (polyB_facts zs m).1
    omega
   ·subst h
    rw [polyB]
    have h1 := rmulR_len (polyB zs 2) (trimR (facR zs (2 + 2) (polyB zs 2).length))
    have h2 := (polyB_facts zs 2).1
    have h3 := trimR_len (facR zs (2 + 2) (polyB zs 2).length)
    have h4 : (facR zs (2 + 2) (polyB zs 2).length).length = 2 := by
     unfold facR
     rw [if_neg (by omega)]
     rfl
    omega
  exact h _ (by omega)
/-! Polynomials with the bits of their numbers and their length. -/
structure Pk (p : List Rat) (e n : Nat) : Prop where
 cb : Cb p e
 tr : trimR p = p
 len : p.length ≤ n
theorem pk_poly (zs : List Int) : Pk (polyR zs) 33 6 := ⟨polyR_cb zs, polyR_trim zs, polyR_len zs⟩
theorem Pk.nil : Pk [] 0 0 := ⟨Cb.nil 0, rfl, Nat.le_refl _⟩
theorem Pk.sz {p : List Rat} {e n B : Nat} (h : Pk p e n) (hB : 1 ≤ B) (he : e ≤ 29 * B) : szR p B = true := h.cb.sz hB he
theorem Pk.mono {p : List Rat} {e n e' n' : Nat} (h : Pk p e n) (he : e ≤ e') (hn : n ≤ n') : Pk p e' n' := ⟨h.cb.mono he, h.tr, Nat.le_trans h.len hn⟩
theorem Pk.add {p q : List Rat} {c d n m : Nat} (hp : Pk p c n) (hq : Pk q d m) : Pk (addR p q) (c + d + 1) (max n m) := ⟨hp.cb.add hq.cb, trimR_idem _, by have h1 := addR_len p q; have h2 := hp.len; have h3 := hq.len; omega⟩
theorem few_n1 : Few (-1) 0 := ⟨-1, 1, by decide, by rw [one_cast]; rfl, by decide, by decide⟩
theorem sub_eq (p q : List Rat) : subR p q = addR p (scaleR q (-1)) := ev_inj (trimR_idem _) (trimR_idem _) fun x => by rw [ev_sub, ev_add, ev_scale]; grind
theorem Pk.scale {p : List Rat} {a : Rat} {c d n : Nat} (hp : Pk p c n) (ha : Few a d) : Pk (scaleR p a) (c + d) n := ⟨hp.cb.scale ha, trimR_idem _, Nat.le_trans (scaleR_len _ _) hp.len⟩
theorem Pk.sub {p q : List Rat} {c d n m : Nat} (hp : Pk p c n) (hq : Pk q d m) : Pk (subR p q) (c + d + 1) (max n m) := by
 rw [sub_eq]
 exact hp.add (hq.scale few_n1)
theorem mulR_len (p q : List Rat) : (mulR p q).length ≤ p.length + q.length - 1 := by
 unfold mulR
 refine Nat.le_trans (trimR_len _) ?_
 rw [tab_length]
 exact Nat.le_refl _
theorem Pk.mul {p q : List Rat} {c d n m : Nat} (t : Nat) (hp : Pk p c n) (hq : Pk q d m) (ht : n + m ≤ 2 ^ t) : Pk (mulR p q) (c + d + t) (n + m - 1) := by
 have h1 := mulR_len p q
 have h2 := hp.len
 have h3 := hq.len
 exact ⟨hp.cb.mul hq.cb (by omega), trimR_idem _, by omega⟩
theorem deriveR_len (p : List Rat) : (deriveR p).length ≤ p.length - 1 := by
 unfold deriveR
 exact Nat.le_trans (trimR_len _) (by rw [tab_length]; exact Nat.le_refl _)
theorem Pk.derive {p : List Rat} {c n : Nat} (t : Nat) (hp : Pk p c n) (ht : n ≤ 2 ^ t) : Pk (deriveR p) (c + t) (n - 1) := by
 have h1 := deriveR_len p
 have h2 := hp.len
 exact ⟨hp.cb.derive (by omega), trimR_idem _, by omega⟩
theorem rmul_eq (p q : List Rat) : rmulR p q = mulR p q := ev_inj (rmulR_trim p q) (trimR_idem _) fun x => by rw [ev_rmul, ev_mul]
theorem mul_nil (p : List Rat) : mulR p [] = [] := ev_inj (trimR_idem _) rfl fun x => by rw [ev_mul, ev, Rat.mul_zero]
/-! Contracts. -/
section
variable {p q : List Rat} {c d n m : Nat}
theorem PAddW (hp : Pk p c n) (hq : Pk q d m) (he : c + d + 1 ≤ 290) (hn : n ≤ 1000) (hm : m ≤ 1000) : Con Tryz.prog 21 [PL p 10, PL q 10] (.one (PL (addR p q) 10)) :=
 (PAdd_con p q 10 10 (by decide) (by decide) (by have := hp.len; omega) (by have := hq.len; omega)).mono (fun _ _ _ _ h => h) (pl_le1 ((hp.add hq).sz (by decide) he))
theorem PSubW (hp : Pk p c n) (hq : Pk q d m) (he : c + d + 1 ≤ 290) (hn : n ≤ 1000) (hm : m ≤ 1000) : Con Tryz.prog 23 [PL p 10, PL q 10] (.one (PL (subR p q) 10)) :=
 (PSub_con p q 10 10 (by decide) (by decide) (by have := hp.len; omega) (by have := hq.len; omega)).mono (fun _ _ _ _ h => h) (pl_le1 ((hp.sub hq).sz (by decide) he))
theorem PMulW (t : Nat) (hp : Pk p c n) (hq : Pk q d m) (ht : n + m ≤ 2 ^ t) (he : c + d + t ≤ 290) (hn : n ≤ 1000) (hm : m ≤ 1000) (hM : min n m ≤ 7) : Con Tryz.prog 25 [PL p 10, PL q 10] (.one (PL (mulR p q) 10)) := by
 have h2 := hp.len
 have h3 := hq.len
 by_cases h0 : q = []
 ·subst h0
  rw [mul_nil]
  exact PMul0_con p 10 10 (by omega) (by decide)
 ·have hql := List.length_pos_iff.2 h0
  refine PMul_con p q 10 7 10 hql (by omega) (by omega) (by decide) (by omega) (by decide) (sz_tabs fun k _ => ?_)
  rw [mul_cv hql]
  obtain ⟨M, m1, m2, m3⟩ := hp.cb.cv hq.cb (t := t) (by omega)
  obtain ⟨z, z1, z2⟩ := m3 k
  exact sz_few (by decide) he ⟨z, M, m1, z1, z2, m2⟩
theorem rSameW {p q : List Rat} (h : p = q) (hp : p.length ≤ 1000000) {j k : Nat} : Con Tryz.prog 13 [PL p j, PL q k] (.one (.v (.bool true))) := by
 subst h
 exact rSamePT p j k hp
theorem PEvalW {x : Rat} {Kx : Nat} (J : Nat) (hp : Pk p c n) (he : c ≤ 290) (hKx : Kx ≤ 1000) (hKx1 : 1 ≤ Kx) (hxz : szR [x] Kx = true) (hJ : bdE 10 Kx n ≤ J) (hJ2 : J ≤ 100000) (hn : n ≤ 1000) : Con Tryz.prog 29 [PL p 10, RT x Kx] (.one (RT (ev p x) J)) := by
 have h1 := hp.len
 have h2 := bdE_mono (K := 10) (Kx := Kx) h1
 rw [← eval_ev]
 exact (PEval_con p x 10 Kx (by omega) (by decide) (by omega) (by decide) hKx1 (hp.sz (by decide) he) hxz (by omega)).mono (fun _ _ _ _ h => h) (is_rt rfl rfl (by omega))
theorem RSameW {a b : Rat} (h : a = b) {j k : Nat} : Con Tryz.prog 41 [RT a j, RT b k] (.one (.v (.bool true))) := by
 have := RSame_con a b j k
 rw [decide_eq_true h] at this
 exact this
theorem rPolyW (zs : List Int) (hz : ∀ z ∈ zs, -9223372036854775808 ≤ z ∧ z ≤ 9223372036854775807) : Con Tryz.prog 10 [ZI .i64 zs] (.one (PL (polyR zs) 10)) := (rPoly_con zs hz).mono (fun _ _ _ _ h => h) (pl_le1 ((pk_poly zs).sz (by decide) (by decide)))
end
end Vc
end Go.Proofs.YtcblbepaigdlgaaGreat

namespace Go.Proofs.YtcblbepaigdlgaaGreat
open Go.RowKit
open Go.Lib (hid)
open Dg Zn
namespace Vc
set_option maxRecDepth 100000

section
variable (zs1 zs2 zs3 : List Int) (hz1 : ∀ z ∈ zs1, -9223372036854775808 ≤ z ∧ z ≤ 9223372036854775807) (hz2 : ∀ z ∈ zs2, -9223372036854775808 ≤ z ∧ z ≤ 9223372036854775807) (hz3 : ∀ z ∈ zs3, -9223372036854775808 ≤ z ∧ z ≤ 9223372036854775807) (c : Int) (hc1 : -9223372036854775808 ≤ c) (hc2 : c ≤ 9223372036854775807)
include hz1 hz2 hz3 hc1 hc2
theorem pring_con : Con Tryz.prog 6 [.d (Dm.ints zs1), .d (Dm.ints zs2), .d (Dm.ints zs3), .v (.int .i64 c)] (.one (.v (.bool true))) := by
 have hp := pk_poly zs1
 have hq := pk_poly zs2
 have hr := pk_poly zs3
 have ha := small_sz c
 have k1 := rPolyW zs1 hz1
 have k2 := rPolyW zs2 hz2
 have k3 := rPolyW zs3 hz3
 have k4 := rSmall_con c hc1 hc2
 generalize polyR zs1 = p at *
 generalize polyR zs2 = q at *
 generalize polyR zs3 = r at *
 generalize smallR c = a at *
 have e1 : addR p q = addR q p := (ev_inj (trimR_idem _) (trimR_idem _) fun x => by simp only [ev_add, ev_sub, ev_mul]; grind)
 have e2 : addR (addR p q) r = addR p (addR q r) := (ev_inj (trimR_idem _) (trimR_idem _) fun x => by simp only [ev_add, ev_sub, ev_mul]; grind)
 have e3 : subR (addR p q) q = p := (ev_inj (trimR_idem _) hp.tr fun x => by simp only [ev_add, ev_sub, ev_mul]; grind)
 have e4 : mulR p q = mulR q p := (ev_inj (trimR_idem _) (trimR_idem _) fun x => by simp only [ev_add, ev_sub, ev_mul]; grind)
 have e5 : mulR (mulR p q) r = mulR p (mulR q r) := (ev_inj (trimR_idem _) (trimR_idem _) fun x => by simp only [ev_add, ev_sub, ev_mul]; grind)
 have e6 : mulR p (addR q r) = addR (mulR p q) (mulR p r) := (ev_inj (trimR_idem _) (trimR_idem _) fun x => by simp only [ev_add, ev_sub, ev_mul]; grind)
 have hpq : Pk (mulR p q) 70 11 := hp.mul 4 hq (by decide)
 have hqr : Pk (mulR q r) 70 11 := hq.mul 4 hr (by decide)
 have hpr : Pk (mulR p r) 70 11 := hp.mul 4 hr (by decide)
 refine Con.of (n := 126) Tryz.func6 rfl rfl rfl rfl rfl fun cx hfr => ?_
 refine sr rfl ?_
 refine mr rfl rfl bd rfl ?_
 refine RV.done (sr rfl ?_)
 refine ml rfl rfl bd rfl ?_
 refine p1 (ok_call k1 rfl rfl bd Tryz.func10 rfl rfl (.cons rfl ⟨rfl, ints_ziP⟩ .nil) rfl hfr rfl) ?_
 refine mr rfl rfl bd rfl ?_
 refine RV.done (sr rfl ?_)
 refine ml rfl rfl bd rfl ?_
 refine p1 (ok_call k2 rfl rfl bd Tryz.func10 rfl rfl (.cons rfl ⟨rfl, ints_ziP⟩ .nil) rfl hfr rfl) ?_
 refine mr rfl rfl bd rfl ?_
 refine RV.done (sr rfl ?_)
 refine ml rfl rfl bd rfl ?_
 refine p1 (ok_call k3 rfl rfl bd Tryz.func10 rfl rfl (.cons rfl ⟨rfl, ints_ziP⟩ .nil) rfl hfr rfl) ?_
 refine mr rfl rfl bd rfl ?_
 refine RV.done (sr rfl ?_)
 refine ml rfl rfl bd rfl ?_
 refine p1 (ok_call k4 rfl rfl bd Tryz.func18 rfl rfl (.cons rfl Conv.any .nil) rfl hfr rfl) ?_
 refine p2 (ok_alloc (i := 0) rfl rfl bd zero_rat rfl rfl rfl rfl) ?_
 refine p1 (ok_store rfl rfl rfl rfl rfl rfl rfl (ty_rat).2 rfl rfl rfl rfl) ?_
 refine RV.done (sr rfl ?_)
 refine ml rfl rfl bd rfl ?_
 refine ml rfl rfl bd rfl ?_
 refine p1 (ok_call (PAddW hp hq (by decide) (by decide) (by decide)) rfl rfl bd Tryz.func21 rfl rfl (.cons rfl Conv.any (.cons rfl Conv.any .nil)) rfl hfr rfl) ?_
 refine ml rfl rfl bd rfl ?_
 refine ml rfl rfl bd rfl ?_
 refine p1 (ok_call (PAddW hq hp (by decide) (by decide) (by decide)) rfl rfl bd Tryz.func21 rfl rfl (.cons rfl Conv.any (.cons rfl Conv.any .nil)) rfl hfr rfl) ?_
 refine p1 (ok_call (rSameW e1 (Nat.le_trans (hp.add hq).len (by decide))) rfl rfl bd Tryz.func13 rfl rfl (.cons rfl Conv.any (.cons rfl Conv.any .nil)) rfl hfr rfl) ?_
 refine ml rfl rfl bd rfl ?_
 refine RV.step1 (OpOk.yes (ok_move (.inl rfl) rfl bd rfl) rfl rfl rfl) ?_
 refine RV.step1 (OpOk.yes (ok_move (.inl rfl) rfl bd rfl) rfl rfl rfl) ?_
 refine RV.step1 (OpOk.yes (ok_call (PAddW hp hq (by decide) (by decide) (by decide)) rfl rfl bd Tryz.func21 rfl rfl (.cons rfl Conv.any (.cons rfl Conv.any .nil)) rfl hfr rfl) rfl rfl rfl) ?_
 refine RV.step1 (OpOk.yes (ok_move (.inl rfl) rfl bd rfl) rfl rfl rfl) ?_
 refine RV.step1 (OpOk.yes (ok_call (PAddW (hp.add hq) hr (by decide) (by decide) (by decide)) rfl rfl bd Tryz.func21 rfl rfl (.cons rfl Conv.any (.cons rfl Conv.any .nil)) rfl hfr rfl) rfl rfl rfl) ?_
 refine RV.step1 (OpOk.yes (ok_move (.inl rfl) rfl bd rfl) rfl rfl rfl) ?_
 refine RV.step1 (OpOk.yes (ok_move (.inl rfl) rfl bd rfl) rfl rfl rfl) ?_
 refine RV.step1 (OpOk.yes (ok_move (.inl rfl) rfl bd rfl) rfl rfl rfl) ?_
 refine RV.step1 (OpOk.yes (ok_call (PAddW hq hr (by decide) (by decide) (by decide)) rfl rfl bd Tryz.func21 rfl rfl (.cons rfl Conv.any (.cons rfl Conv.any .nil)) rfl hfr rfl) rfl rfl rfl) ?_
 refine RV.step1 (OpOk.yes (ok_call (PAddW hp (hq.add hr) (by decide) (by decide) (by decide)) rfl rfl bd Tryz.func21 rfl rfl (.cons rfl Conv.any (.cons rfl Conv.any .nil)) rfl hfr rfl) rfl rfl rfl) ?_
 refine RV.step1 (OpOk.yes (ok_call (rSameW e2 (Nat.le_trans ((hp.add hq).add hr).len (by decide))) rfl rfl bd Tryz.func13 rfl rfl (.cons rfl Conv.any (.cons rfl Conv.any .nil)) rfl hfr rfl) rfl rfl rfl) ?_
 refine p1 (ok_pickT rfl rfl bd rfl rfl rfl) ?_
 refine ml rfl rfl bd rfl ?_
 refine RV.step1 (OpOk.yes (ok_move (.inl rfl) rfl bd rfl) rfl rfl rfl) ?_
 refine RV.step1 (OpOk.yes (ok_move (.inl rfl) rfl bd rfl) rfl rfl rfl) ?_
 refine RV.step1 (OpOk.yes (ok_call (PAddW hp hq (by decide) (by decide) (by decide)) rfl rfl bd Tryz.func21 rfl rfl (.cons rfl Conv.any (.cons rfl Conv.any .nil)) rfl hfr rfl) rfl rfl rfl) ?_
 refine RV.step1 (OpOk.yes (ok_move (.inl rfl) rfl bd rfl) rfl rfl rfl) ?_
 refine RV.step1 (OpOk.yes (ok_call (PSubW (hp.add hq) hq (by decide) (by decide) (by decide)) rfl rfl bd Tryz.func23 rfl rfl (.cons rfl Conv.any (.cons rfl Conv.any .nil)) rfl hfr rfl) rfl rfl rfl) ?_
 refine RV.step1 (OpOk.yes (ok_move (.inl rfl) rfl bd rfl) rfl rfl rfl) ?_
 refine RV.step1 (OpOk.yes (ok_call (rSameW e3 (Nat.le_trans ((hp.add hq).sub hq).len (by decide))) rfl rfl bd Tryz.func13 rfl rfl (.cons rfl Conv.any (.cons rfl Conv.any .nil)) rfl hfr rfl) rfl rfl rfl) ?_
 refine p1 (ok_pickT rfl rfl bd rfl rfl rfl) ?_
 refine mr rfl rfl bd rfl ?_
 refine RV.done (sr rfl ?_)
 refine ml rfl rfl bd rfl ?_
 refine ml rfl rfl bd rfl ?_
 refine p1 (ok_call (PMulW 4 hp hq (by decide) (by decide) (by decide) (by decide) (by decide)) rfl rfl bd Tryz.func25 rfl rfl (.cons rfl Conv.any (.cons rfl Conv.any .nil)) rfl hfr rfl) ?_
 refine ml rfl rfl bd rfl ?_
 refine ml rfl rfl bd rfl ?_
 refine p1 (ok_call (PMulW 4 hq hp (by decide) (by decide) (by decide) (by decide) (by decide)) rfl rfl bd Tryz.func25 rfl rfl (.cons rfl Conv.any (.cons rfl Conv.any .nil)) rfl hfr rfl) ?_
 refine p1 (ok_call (rSameW e4 (Nat.le_trans (hp.mul 4 hq (by decide)).len (by decide))) rfl rfl bd Tryz.func13 rfl rfl (.cons rfl Conv.any (.cons rfl Conv.any .nil)) rfl hfr rfl) ?_
 refine ml rfl rfl bd rfl ?_
 refine RV.step1 (OpOk.yes (ok_move (.inl rfl) rfl bd rfl) rfl rfl rfl) ?_
 refine RV.step1 (OpOk.yes (ok_move (.inl rfl) rfl bd rfl) rfl rfl rfl) ?_
 refine RV.step1 (OpOk.yes (ok_call (PMulW 4 hp hq (by decide) (by decide) (by decide) (by decide) (by decide)) rfl rfl bd Tryz.func25 rfl rfl (.cons rfl Conv.any (.cons rfl Conv.any .nil)) rfl hfr rfl) rfl rfl rfl) ?_
 refine RV.step1 (OpOk.yes (ok_move (.inl rfl) rfl bd rfl) rfl rfl rfl) ?_
 refine RV.step1 (OpOk.yes (ok_call (PMulW 5 hpq hr (by decide) (by decide) (by decide) (by decide) (by decide)) rfl rfl bd Tryz.func25 rfl rfl (.cons rfl Conv.any (.cons rfl Conv.any .nil)) rfl hfr rfl) rfl rfl rfl) ?_
 refine RV.step1 (OpOk.yes (ok_move (.inl rfl) rfl bd rfl) rfl rfl rfl) ?_
 refine RV.step1 (OpOk.yes (ok_move (.inl rfl) rfl bd rfl) rfl rfl rfl) ?_
 refine RV.step1 (OpOk.yes (ok_move (.inl rfl) rfl bd rfl) rfl rfl rfl) ?_
 refine RV.step1 (OpOk.yes (ok_call (PMulW 4 hq hr (by decide) (by decide) (by decide) (by decide) (by decide)) rfl rfl bd Tryz.func25 rfl rfl (.cons rfl Conv.any (.cons rfl Conv.any .nil)) rfl hfr rfl) rfl rfl rfl) ?_
 refine RV.step1 (OpOk.yes (ok_call (PMulW 5 hp hqr (by decide) (by decide) (by decide) (by decide) (by decide)) rfl rfl bd Tryz.func25 rfl rfl (.cons rfl Conv.any (.cons rfl Conv.any .nil)) rfl hfr rfl) rfl rfl rfl) ?_
 refine RV.step1 (OpOk.yes (ok_call (rSameW e5 (Nat.le_trans (hpq.mul 5 hr (by decide)).len (by decide))) rfl rfl bd Tryz.func13 rfl rfl (.cons rfl Conv.any (.cons rfl Conv.any .nil)) rfl hfr rfl) rfl rfl rfl) ?_
 refine p1 (ok_pickT rfl rfl bd rfl rfl rfl) ?_
 refine ml rfl rfl bd rfl ?_
 refine RV.step1 (OpOk.yes (ok_move (.inl rfl) rfl bd rfl) rfl rfl rfl) ?_
 refine RV.step1 (OpOk.yes (ok_move (.inl rfl) rfl bd rfl) rfl rfl rfl) ?_
 refine RV.step1 (OpOk.yes (ok_move (.inl rfl) rfl bd rfl) rfl rfl rfl) ?_
 refine RV.step1 (OpOk.yes (ok_call (PAddW hq hr (by decide) (by decide) (by decide)) rfl rfl bd Tryz.func21 rfl rfl (.cons rfl Conv.any (.cons rfl Conv.any .nil)) rfl hfr rfl) rfl rfl rfl) ?_
 refine RV.step1 (OpOk.yes (ok_call (PMulW 4 hp (hq.add hr) (by decide) (by decide) (by decide) (by decide) (by decide)) rfl rfl bd Tryz.func25 rfl rfl (.cons rfl Conv.any (.cons rfl Conv.any .nil)) rfl hfr rfl) rfl rfl rfl) ?_
 refine RV.step1 (OpOk.yes (ok_move (.inl rfl) rfl bd rfl) rfl rfl rfl) ?_
 refine RV.step1 (OpOk.yes (ok_move (.inl rfl) rfl bd rfl) rfl rfl rfl) ?_
 refine RV.step1 (OpOk.yes (ok_call (PMulW 4 hp hq (by decide) (by decide) (by decide) (by decide) (by decide)) rfl rfl bd Tryz.func25 rfl rfl (.cons rfl Conv.any (.cons rfl Conv.any .nil)) rfl hfr rfl) rfl rfl rfl) ?_
 refine RV.step1 (OpOk.yes (ok_move (.inl rfl) rfl bd rfl) rfl rfl rfl) ?_
 refine RV.step1 (OpOk.yes (ok_move (.inl rfl) rfl bd rfl) rfl rfl rfl) ?_
 refine RV.step1 (OpOk.yes (ok_call (PMulW 4 hp hr (by decide) (by decide) (by decide) (by decide) (by decide)) rfl rfl bd Tryz.func25 rfl rfl (.cons rfl Conv.any (.cons rfl Conv.any .nil)) rfl hfr rfl) rfl rfl rfl) ?_
 refine RV.step1 (OpOk.yes (ok_call (PAddW hpq hpr (by decide) (by decide) (by decide)) rfl rfl bd Tryz.func21 rfl rfl (.cons rfl Conv.any (.cons rfl Conv.any .nil)) rfl hfr rfl) rfl rfl rfl) ?_
 refine RV.step1 (OpOk.yes (ok_call (rSameW e6 (Nat.le_trans (hp.mul 4 (hq.add hr) (by decide)).len (by decide))) rfl rfl bd Tryz.func13 rfl rfl (.cons rfl Conv.any (.cons rfl Conv.any .nil)) rfl hfr rfl) rfl rfl rfl) ?_
 refine p1 (ok_pickT rfl rfl bd rfl rfl rfl) ?_
 refine mr rfl rfl bd rfl ?_
 refine RV.done ?_
 refine CV.seq ?_
 refine CV.region rfl (fun _ => by kernel_rfl) ?_
 refine ml rfl rfl bd rfl ?_
 refine ml rfl rfl bd rfl ?_
 refine p1 (ok_call (PAddW hp hq (by decide) (by decide) (by decide)) rfl rfl bd Tryz.func21 rfl rfl (.cons rfl Conv.any (.cons rfl Conv.any .nil)) rfl hfr rfl) ?_
 refine p1 (ok_load rfl rfl bd rfl rfl rfl ty_rat) ?_
 refine p1 (ok_call (PEvalW 200 (hp.add hq) (by decide) (by decide) (by decide) ha (by decide) (by decide) (by decide)) rfl rfl bd Tryz.func29 rfl rfl (.cons rfl Conv.any (.cons rfl Conv.any .nil)) rfl hfr rfl) ?_
 refine ml rfl rfl bd rfl ?_
 refine p1 (ok_load rfl rfl bd rfl rfl rfl ty_rat) ?_
 refine p1 (ok_call (PEvalW 200 hp (by decide) (by decide) (by decide) ha (by decide) (by decide) (by decide)) rfl rfl bd Tryz.func29 rfl rfl (.cons rfl Conv.any (.cons rfl Conv.any .nil)) rfl hfr rfl) ?_
 refine ml rfl rfl bd rfl ?_
 refine p1 (ok_load rfl rfl bd rfl rfl rfl ty_rat) ?_
 refine p1 (ok_call (PEvalW 200 hq (by decide) (by decide) (by decide) ha (by decide) (by decide) (by decide)) rfl rfl bd Tryz.func29 rfl rfl (.cons rfl Conv.any (.cons rfl Conv.any .nil)) rfl hfr rfl) ?_
 refine p1 (ok_call (RAdd_con _ _ 200 200 (by decide) (by decide)) rfl rfl bd Tryz.func42 rfl rfl (.cons rfl Conv.any (.cons rfl Conv.any .nil)) rfl hfr rfl) ?_
 refine p1 (ok_call (RSameW (ev_add p q a)) rfl rfl bd Tryz.func41 rfl rfl (.cons rfl Conv.any (.cons rfl Conv.any .nil)) rfl hfr rfl) ?_
 refine ml rfl rfl bd rfl ?_
 refine RV.step1 (OpOk.yes (ok_move (.inl rfl) rfl bd rfl) rfl rfl rfl) ?_
 refine RV.step1 (OpOk.yes (ok_move (.inl rfl) rfl bd rfl) rfl rfl rfl) ?_
 refine RV.step1 (OpOk.yes (ok_call (PMulW 4 hp hq (by decide) (by decide) (by decide) (by decide) (by decide)) rfl rfl bd Tryz.func25 rfl rfl (.cons rfl Conv.any (.cons rfl Conv.any .nil)) rfl hfr rfl) rfl rfl rfl) ?_
 refine RV.step1 (OpOk.yes (ok_load rfl rfl bd rfl rfl rfl ty_rat) rfl rfl rfl) ?_
 refine RV.step1 (OpOk.yes (ok_call (PEvalW 200 hpq (by decide) (by decide) (by decide) ha (by decide) (by decide) (by decide)) rfl rfl bd Tryz.func29 rfl rfl (.cons rfl Conv.any (.cons rfl Conv.any .nil)) rfl hfr rfl) rfl rfl rfl) ?_
 refine RV.step1 (OpOk.yes (ok_move (.inl rfl) rfl bd rfl) rfl rfl rfl) ?_
 refine RV.step1 (OpOk.yes (ok_load rfl rfl bd rfl rfl rfl ty_rat) rfl rfl rfl) ?_
 refine RV.step1 (OpOk.yes (ok_call (PEvalW 200 hp (by decide) (by decide) (by decide) ha (by decide) (by decide) (by decide)) rfl rfl bd Tryz.func29 rfl rfl (.cons rfl Conv.any (.cons rfl Conv.any .nil)) rfl hfr rfl) rfl rfl rfl) ?_
 refine RV.step1 (OpOk.yes (ok_move (.inl rfl) rfl bd rfl) rfl rfl rfl) ?_
 refine RV.step1 (OpOk.yes (ok_load rfl rfl bd rfl rfl rfl ty_rat) rfl rfl rfl) ?_
 refine RV.step1 (OpOk.yes (ok_call (PEvalW 200 hq (by decide) (by decide) (by decide) ha (by decide) (by decide) (by decide)) rfl rfl bd Tryz.func29 rfl rfl (.cons rfl Conv.any (.cons rfl Conv.any .nil)) rfl hfr rfl) rfl rfl rfl) ?_
 refine RV.step1 (OpOk.yes (ok_call (RMul_con _ _ 200 200 (by decide) (by decide)) rfl rfl bd Tryz.func43 rfl rfl (.cons rfl Conv.any (.cons rfl Conv.any .nil)) rfl hfr rfl) rfl rfl rfl) ?_
 refine RV.step1 (OpOk.yes (ok_call (RSameW (ev_mul p q a)) rfl rfl bd Tryz.func41 rfl rfl (.cons rfl Conv.any (.cons rfl Conv.any .nil)) rfl hfr rfl) rfl rfl rfl) ?_
 refine p1 (ok_pickT rfl rfl bd rfl rfl rfl) ?_
 refine mr rfl rfl bd rfl ?_
 refine RV.drawn (by kernel_rfl) ?_
 refine sr rfl ?_
 refine ml rfl rfl bd rfl ?_
 refine ml rfl rfl bd rfl ?_
 refine RV.step1 (OpOk.yes (ok_move (.inl rfl) rfl bd rfl) rfl rfl rfl) ?_
 refine p1 (ok_pickT rfl rfl bd rfl rfl rfl) ?_
 refine ml rfl rfl bd rfl ?_
 refine RV.step1 (OpOk.yes (ok_move (.inl rfl) rfl bd rfl) rfl rfl rfl) ?_
 refine p1 (ok_pickT rfl rfl bd rfl rfl rfl) ?_
 refine ml rfl rfl bd rfl ?_
 refine RV.step1 (OpOk.yes (ok_call (lives6_con) rfl rfl bd Tryz.func17 rfl rfl .nil rfl hfr rfl) rfl rfl rfl) ?_
 refine p1 (ok_pickT rfl rfl bd rfl rfl rfl) ?_
 refine mr rfl rfl bd rfl ?_
 refine RV.done ?_
 refine CV.ret ?_
 exact fin1 rfl (.inr rfl) rfl is_rfl
end

theorem shift_trim (p : List Rat) (a : Rat) : trimR (shiftR p a) = shiftR p a := by
 unfold shiftR
 cases p.length with
 | zero => rfl
 | succ n => rw [dwn_succ, shiftF_snoc]; exact trimR_idem _
theorem shiftR_len (p : List Rat) (a : Rat) : (shiftR p a).length ≤ p.length := by
 have := shiftF_len p a (dwn id p.length)
 rw [dwn_len] at this
 exact this
section
variable {p : List Rat} {c n : Nat}
theorem PDeriveW (t : Nat) (hp : Pk p c n) (ht : n ≤ 2 ^ t) (he : c + t ≤ 290) (hn : n ≤ 1000) : Con Tryz.prog 31 [PL p 10] (.one (PL (deriveR p) 10)) :=
 (PDerive_con p 10 (by decide) (by have := hp.len; omega)).mono (fun _ _ _ _ h => h) (pl_le1 ((hp.derive t ht).sz (by decide) he))
theorem sz_shiftR {a : Rat} {K Kx : Nat} (J : Nat) (hpz : szR p K = true) (hK : 1 ≤ K) (hKx1 : 1 ≤ Kx) (hxz : szR [a] Kx = true) (hn : p.length ≤ n) (hJ : bdS K Kx n ≤ J) : szR (shiftR p a) J = true := by
 have h := sz_shiftF hK hKx1 hpz hxz (dwn id p.length)
 rw [dwn_len] at h
 exact sz_lessL (Nat.le_trans (bdS_mono hn) hJ) h
theorem PShiftW {a : Rat} {K Kx : Nat} (J : Nat) (hpz : szR p K = true) (hK : 1 ≤ K) (hK2 : K ≤ 100000) (hKx1 : 1 ≤ Kx) (hKx : Kx ≤ 1000) (hxz : szR [a] Kx = true) (hl : p.length ≤ n) (hn : n ≤ 1000) (hJ : bdS K Kx n ≤ J) (hJ2 : J ≤ 1000000) : Con Tryz.prog 33 [PL p K, RT a Kx] (.one (PL (shiftR p a) J)) := by
 have h2 := bdS_mono (K := K) (Kx := Kx) hl
 exact (PShift_con p a K Kx (by omega) (by omega) (by omega) hK hKx1 hpz hxz (by omega)).mono (fun _ _ _ _ h => h) (pl_le1 (sz_shiftR J hpz hK hKx1 hxz hl hJ))
theorem PEvalJ {x : Rat} {K Kx : Nat} (J : Nat) (hpz : szR p K = true) (hK : 1 ≤ K) (hK2 : K ≤ 100000) (hKx : Kx ≤ 1000) (hKx1 : 1 ≤ Kx) (hxz : szR [x] Kx = true) (hl : p.length ≤ n) (hJ : bdE K Kx n ≤ J) (hJ2 : J ≤ 100000) (hn : n ≤ 1000) : Con Tryz.prog 29 [PL p K, RT x Kx] (.one (RT (ev p x) J)) := by
 have h2 := bdE_mono (K := K) (Kx := Kx) hl
 rw [← eval_ev]
 exact (PEval_con p x K Kx (by omega) (by omega) (by omega) hK hKx1 hpz hxz (by omega)).mono (fun _ _ _ _ h => h) (is_rt rfl rfl (by omega))
theorem RAddW {a b : Rat} (ha : szR [a] 1 = true) (hb : szR [b] 1 = true) : Con Tryz.prog 42 [RT a 1, RT b 1] (.one (RT (a + b) 3)) :=
 (RAdd_con a b 1 1 (by decide) (by decide)).mono (fun _ _ _ _ h => h) (rt_le1 (sz_add (by decide) (by decide) ha hb))
end
section
variable (zs1 zs2 : List Int) (hz1 : ∀ z ∈ zs1, -9223372036854775808 ≤ z ∧ z ≤ 9223372036854775807) (hz2 : ∀ z ∈ zs2, -9223372036854775808 ≤ z ∧ z ≤ 9223372036854775807) (c d : Int) (hc1 : -9223372036854775808 ≤ c) (hc2 : c ≤ 9223372036854775807) (hd1 : -9223372036854775808 ≤ d) (hd2 : d ≤ 9223372036854775807)
include hz1 hz2 hc1 hc2 hd1 hd2
theorem pderives_con : Con Tryz.prog 7 [.d (Dm.ints zs1), .d (Dm.ints zs2), .v (.int .i64 c), .v (.int .i64 d)] (.one (.v (.bool true))) := by
 have hp := pk_poly zs1
 have hq := pk_poly zs2
 have ha := small_sz c
 have hb := small_sz d
 have k1 := rPolyW zs1 hz1
 have k2 := rPolyW zs2 hz2
 have k4 := rSmall_con c hc1 hc2
 have k5 := rSmall_con d hd1 hd2
 generalize polyR zs1 = p at *
 generalize polyR zs2 = q at *
 generalize smallR c = a at *
 generalize smallR d = b at *
 have hab := sz_add (by decide) (by decide) ha hb
 have zp : szR p 10 = true := hp.sz (by decide) (by decide)
 have zs : szR (shiftR p a) 478 = true := sz_shiftR 478 zp (by decide) (by decide) ha hp.len (by decide)
 have hdp : Pk (deriveR p) 36 5 := hp.derive 3 (by decide)
 have hdq : Pk (deriveR q) 36 5 := hq.derive 3 (by decide)
 have hsl : (shiftR p a).length ≤ 6 := Nat.le_trans (shiftR_len p a) hp.len
 have hpq : Pk (mulR p q) 70 11 := hp.mul 4 hq (by decide)
 have hm1 : Pk (mulR (deriveR p) q) 73 10 := hdp.mul 4 hq (by decide)
 have hm2 : Pk (mulR p (deriveR q)) 73 10 := hp.mul 4 hdq (by decide)
 have e1 : deriveR (mulR p q) = addR (mulR (deriveR p) q) (mulR p (deriveR q)) := ev_inj (trimR_idem _) (trimR_idem _) fun x => by rw [ev_derive, evD_mul (ev_mul p q), ev_add, ev_mul, ev_mul, ev_derive, ev_derive]
 have e2 : shiftR (shiftR p a) b = shiftR p (a + b) := ev_inj (shift_trim _ _) (shift_trim _ _) fun x => by rw [ev_shift, ev_shift, ev_shift]; congr 1; grind
 have e3 : ev (shiftR p a) b = ev p (a + b) := by rw [ev_shift]; congr 1; grind
 have e4 : deriveR (shiftR p a) = shiftR (deriveR p) a := ev_inj (trimR_idem _) (shift_trim _ _) fun x => by rw [ev_derive, evD_shift (ev_shift p a), ev_shift, ev_derive]
 refine Con.of (n := 75) Tryz.func7 rfl rfl rfl rfl rfl fun cx hfr => ?_
 refine sr rfl ?_
 refine mr rfl rfl bd rfl ?_
 refine RV.done (sr rfl ?_)
 refine ml rfl rfl bd rfl ?_
 refine p1 (ok_call k1 rfl rfl bd Tryz.func10 rfl rfl (.cons rfl ⟨rfl, ints_ziP⟩ .nil) rfl hfr rfl) ?_
 refine mr rfl rfl bd rfl ?_
 refine RV.done (sr rfl ?_)
 refine ml rfl rfl bd rfl ?_
 refine p1 (ok_call k2 rfl rfl bd Tryz.func10 rfl rfl (.cons rfl ⟨rfl, ints_ziP⟩ .nil) rfl hfr rfl) ?_
 refine mr rfl rfl bd rfl ?_
 refine RV.done (sr rfl ?_)
 refine ml rfl rfl bd rfl ?_
 refine p1 (ok_call k4 rfl rfl bd Tryz.func18 rfl rfl (.cons rfl Conv.any .nil) rfl hfr rfl) ?_
 refine p2 (ok_alloc (i := 0) rfl rfl bd zero_rat rfl rfl rfl rfl) ?_
 refine p1 (ok_store rfl rfl rfl rfl rfl rfl rfl (ty_rat).2 rfl rfl rfl rfl) ?_
 refine RV.done (sr rfl ?_)
 refine ml rfl rfl bd rfl ?_
 refine p1 (ok_call k5 rfl rfl bd Tryz.func18 rfl rfl (.cons rfl Conv.any .nil) rfl hfr rfl) ?_
 refine p2 (ok_alloc (i := 1) rfl rfl bd zero_rat rfl rfl rfl rfl) ?_
 refine p1 (ok_store rfl rfl rfl rfl rfl rfl rfl (ty_rat).2 rfl rfl rfl rfl) ?_
 refine RV.done (sr rfl ?_)
 refine ml rfl rfl bd rfl ?_
 refine p1 (ok_call (PDeriveW 3 hp (by decide) (by decide) (by decide)) rfl rfl bd Tryz.func31 rfl rfl (.cons rfl Conv.any .nil) rfl hfr rfl) ?_
 refine ml rfl rfl bd rfl ?_
 refine p1 (ok_call (PMulW 4 hdp hq (by decide) (by decide) (by decide) (by decide) (by decide)) rfl rfl bd Tryz.func25 rfl rfl (.cons rfl Conv.any (.cons rfl Conv.any .nil)) rfl hfr rfl) ?_
 refine ml rfl rfl bd rfl ?_
 refine ml rfl rfl bd rfl ?_
 refine p1 (ok_call (PDeriveW 3 hq (by decide) (by decide) (by decide)) rfl rfl bd Tryz.func31 rfl rfl (.cons rfl Conv.any .nil) rfl hfr rfl) ?_
 refine p1 (ok_call (PMulW 4 hp hdq (by decide) (by decide) (by decide) (by decide) (by decide)) rfl rfl bd Tryz.func25 rfl rfl (.cons rfl Conv.any (.cons rfl Conv.any .nil)) rfl hfr rfl) ?_
 refine p1 (ok_call (PAddW hm1 hm2 (by decide) (by decide) (by decide)) rfl rfl bd Tryz.func21 rfl rfl (.cons rfl Conv.any (.cons rfl Conv.any .nil)) rfl hfr rfl) ?_
 refine mr rfl rfl bd rfl ?_
 refine RV.done (sr rfl ?_)
 refine ml rfl rfl bd rfl ?_
 refine p1 (ok_load rfl rfl bd rfl rfl rfl ty_rat) ?_
 refine p1 (ok_call (PShiftW (n := 6) 478 zp (by decide) (by decide) (by decide) (by decide) ha hp.len (by decide) (by decide) (by decide)) rfl rfl bd Tryz.func33 rfl rfl (.cons rfl Conv.any (.cons rfl Conv.any .nil)) rfl hfr rfl) ?_
 refine mr rfl rfl bd rfl ?_
 refine RV.done ?_
 refine CV.seq ?_
 refine CV.region rfl (fun _ => by kernel_rfl) ?_
 refine ml rfl rfl bd rfl ?_
 refine ml rfl rfl bd rfl ?_
 refine p1 (ok_call (PMulW 4 hp hq (by decide) (by decide) (by decide) (by decide) (by decide)) rfl rfl bd Tryz.func25 rfl rfl (.cons rfl Conv.any (.cons rfl Conv.any .nil)) rfl hfr rfl) ?_
 refine p1 (ok_call (PDeriveW 4 hpq (by decide) (by decide) (by decide)) rfl rfl bd Tryz.func31 rfl rfl (.cons rfl Conv.any .nil) rfl hfr rfl) ?_
 refine ml rfl rfl bd rfl ?_
 refine p1 (ok_call (rSameW e1 (Nat.le_trans (hpq.derive 4 (by decide)).len (by decide))) rfl rfl bd Tryz.func13 rfl rfl (.cons rfl Conv.any (.cons rfl Conv.any .nil)) rfl hfr rfl) ?_
 refine ml rfl rfl bd rfl ?_
 refine RV.step1 (OpOk.yes (ok_move (.inl rfl) rfl bd rfl) rfl rfl rfl) ?_
 refine RV.step1 (OpOk.yes (ok_load rfl rfl bd rfl rfl rfl ty_rat) rfl rfl rfl) ?_
 refine RV.step1 (OpOk.yes (ok_call (PShiftW (n := 6) 20000 zs (by decide) (by decide) (by decide) (by decide) hb hsl (by decide) (by decide) (by decide)) rfl rfl bd Tryz.func33 rfl rfl (.cons rfl Conv.any (.cons rfl Conv.any .nil)) rfl hfr rfl) rfl rfl rfl) ?_
 refine RV.step1 (OpOk.yes (ok_move (.inl rfl) rfl bd rfl) rfl rfl rfl) ?_
 refine RV.step1 (OpOk.yes (ok_load rfl rfl bd rfl rfl rfl ty_rat) rfl rfl rfl) ?_
 refine RV.step1 (OpOk.yes (ok_load rfl rfl bd rfl rfl rfl ty_rat) rfl rfl rfl) ?_
 refine RV.step1 (OpOk.yes (ok_call (RAddW ha hb) rfl rfl bd Tryz.func42 rfl rfl (.cons rfl Conv.any (.cons rfl Conv.any .nil)) rfl hfr rfl) rfl rfl rfl) ?_
 refine RV.step1 (OpOk.yes (ok_call (PShiftW (n := 6) 1000 zp (by decide) (by decide) (by decide) (by decide) hab hp.len (by decide) (by decide) (by decide)) rfl rfl bd Tryz.func33 rfl rfl (.cons rfl Conv.any (.cons rfl Conv.any .nil)) rfl hfr rfl) rfl rfl rfl) ?_
 refine RV.step1 (OpOk.yes (ok_call (rSameW e2 (by have := shiftR_len (shiftR p a) b; omega)) rfl rfl bd Tryz.func13 rfl rfl (.cons rfl Conv.any (.cons rfl Conv.any .nil)) rfl hfr rfl) rfl rfl rfl) ?_
 refine p1 (ok_pickT rfl rfl bd rfl rfl rfl) ?_
 refine ml rfl rfl bd rfl ?_
 refine RV.step1 (OpOk.yes (ok_move (.inl rfl) rfl bd rfl) rfl rfl rfl) ?_
 refine RV.step1 (OpOk.yes (ok_load rfl rfl bd rfl rfl rfl ty_rat) rfl rfl rfl) ?_
 refine RV.step1 (OpOk.yes (ok_call (PEvalJ (n := 6) 10000 zs (by decide) (by decide) (by decide) (by decide) hb hsl (by decide) (by decide) (by decide)) rfl rfl bd Tryz.func29 rfl rfl (.cons rfl Conv.any (.cons rfl Conv.any .nil)) rfl hfr rfl) rfl rfl rfl) ?_
 refine RV.step1 (OpOk.yes (ok_move (.inl rfl) rfl bd rfl) rfl rfl rfl) ?_
 refine RV.step1 (OpOk.yes (ok_load rfl rfl bd rfl rfl rfl ty_rat) rfl rfl rfl) ?_
 refine RV.step1 (OpOk.yes (ok_load rfl rfl bd rfl rfl rfl ty_rat) rfl rfl rfl) ?_
 refine RV.step1 (OpOk.yes (ok_call (RAddW ha hb) rfl rfl bd Tryz.func42 rfl rfl (.cons rfl Conv.any (.cons rfl Conv.any .nil)) rfl hfr rfl) rfl rfl rfl) ?_
 refine RV.step1 (OpOk.yes (ok_call (PEvalJ (n := 6) 1000 zp (by decide) (by decide) (by decide) (by decide) hab hp.len (by decide) (by decide) (by decide)) rfl rfl bd Tryz.func29 rfl rfl (.cons rfl Conv.any (.cons rfl Conv.any .nil)) rfl hfr rfl) rfl rfl rfl) ?_
 refine RV.step1 (OpOk.yes (ok_call (RSameW e3) rfl rfl bd Tryz.func41 rfl rfl (.cons rfl Conv.any (.cons rfl Conv.any .nil)) rfl hfr rfl) rfl rfl rfl) ?_
 refine p1 (ok_pickT rfl rfl bd rfl rfl rfl) ?_
 refine ml rfl rfl bd rfl ?_
 refine RV.step1 (OpOk.yes (ok_move (.inl rfl) rfl bd rfl) rfl rfl rfl) ?_
 refine RV.step1 (OpOk.yes (ok_call (PDerive_con (shiftR p a) 478 (by decide) (by omega)) rfl rfl bd Tryz.func31 rfl rfl (.cons rfl Conv.any .nil) rfl hfr rfl) rfl rfl rfl) ?_
 refine RV.step1 (OpOk.yes (ok_move (.inl rfl) rfl bd rfl) rfl rfl rfl) ?_
 refine RV.step1 (OpOk.yes (ok_call (PDeriveW 3 hp (by decide) (by decide) (by decide)) rfl rfl bd Tryz.func31 rfl rfl (.cons rfl Conv.any .nil) rfl hfr rfl) rfl rfl rfl) ?_
 refine RV.step1 (OpOk.yes (ok_load rfl rfl bd rfl rfl rfl ty_rat) rfl rfl rfl) ?_
 refine RV.step1 (OpOk.yes (ok_call (PShiftW (n := 5) 1000 (hdp.sz (by decide) (by decide)) (by decide) (by decide) (by decide) (by decide) ha hdp.len (by decide) (by decide) (by decide)) rfl rfl bd Tryz.func33 rfl rfl (.cons rfl Conv.any (.cons rfl Conv.any .nil)) rfl hfr rfl) rfl rfl rfl) ?_
 refine RV.step1 (OpOk.yes (ok_call (rSameW e4 (by have := deriveR_len (shiftR p a); omega)) rfl rfl bd Tryz.func13 rfl rfl (.cons rfl Conv.any (.cons rfl Conv.any .nil)) rfl hfr rfl) rfl rfl rfl) ?_
 refine p1 (ok_pickT rfl rfl bd rfl rfl rfl) ?_
 refine ml rfl rfl bd rfl ?_
 refine RV.step1 (OpOk.yes (ok_call (lives6_con) rfl rfl bd Tryz.func17 rfl rfl .nil rfl hfr rfl) rfl rfl rfl) ?_
 refine p1 (ok_pickT rfl rfl bd rfl rfl rfl) ?_
 refine mr rfl rfl bd rfl ?_
 refine RV.drawn (by kernel_rfl) ?_
 refine CV.ret ?_
 exact fin1 rfl (.inr rfl) rfl is_rfl
end

/-! Lists of pairs of polynomials. -/
theorem u_polys : Tryz.prog.underlying 38 = some (.slice 24) := by kernel_rfl
theorem u_lpolys : Tryz.prog.underlying 41 = some (.slice 38) := by kernel_rfl
theorem zs_poly : (Tryz.prog.info? 24).map (fun i => (i.size, i.zero)) = some (1, some (.slice none 0 0)) := by kernel_rfl
theorem zs_polys : (Tryz.prog.info? 38).map (fun i => (i.size, i.zero)) = some (1, some (.slice none 0 0)) := by kernel_rfl
theorem sz_poly : (Tryz.prog.info? 24).map (·.size) = some 1 := by kernel_rfl
theorem sz_polys : (Tryz.prog.info? 38).map (·.size) = some 1 := by kernel_rfl
theorem ty_polys : TyIs Tryz.prog 38 none := TyIs.one (by kernel_rfl) (by kernel_rfl)
abbrev prD (K : Nat) (u v : List Rat) : SA Dm := .d (Dm.gen (lstG none [PL u K, PL v K]))
def prL (K : Nat) (l : List (List Rat × List Rat)) : List (SA Dm) := l.map fun x => prD K x.1 x.2
theorem prL_length {K : Nat} {l : List (List Rat × List Rat)} : (prL K l).length = l.length := by simp [prL]
theorem prL_at {K : Nat} {l : List (List Rat × List Rat)} {i : Nat} {x : List Rat × List Rat} (h : l[i]? = some x) : (prL K l)[i]? = some (prD K x.1 x.2) := by simp [prL, h]
theorem pr_kind {K : Nat} {u v : List Rat} : ∀ s ∈ [PL u K, PL v K], s.kind = some none := by
 intro s hs
 simp only [List.mem_cons, List.not_mem_nil, or_false] at hs
 rcases hs with rfl | rfl <;> rfl
theorem prL_kind {K : Nat} {l : List (List Rat × List Rat)} : ∀ s ∈ prL K l, s.kind = some none := by
 intro s hs
 obtain ⟨x, _, rfl⟩ := List.mem_map.1 hs
 rfl
theorem sz_pw {x : Rat} {Kx : Nat} (h1 : 1 ≤ Kx) (hx : szR [x] Kx = true) : ∀ k, szR [pw x k] (k * Kx + 1) = true
 | 0 => by
  show szR [(1 : Rat)] _ = true
  exact sz_less (by omega) (show szR [(1 : Rat)] 1 = true by decide +kernel)
 | k + 1 => by
  show szR [pw x k * x] _ = true
  rw [Nat.succ_mul]
  exact sz_less (by omega) (sz_mul (by omega) h1 (sz_pw h1 hx k) hx)
theorem sz_pwS {p : List Rat} {x : Rat} {K Kx : Nat} (hK : 1 ≤ K) (h1 : 1 ≤ Kx) (hp : szR p K = true) (hx : szR [x] Kx = true) (n : Nat) : ∀ k, k ≤ n → szR [pwS p x k] (1 + k * (K + (n * Kx + 1) + 1)) = true
 | 0, _ => sz_zero
 | k + 1, h => by
  have h2 := Nat.mul_le_mul_right Kx (show k ≤ n by omega)
  show szR [pwS p x k + p.getD k 0 * pw x k] _ = true
  rw [Nat.succ_mul]
  exact sz_less (by omega) (sz_add (j := 1 + k * (K + (n * Kx + 1) + 1)) (k := K + (n * Kx + 1)) (by omega) (by omega) (sz_pwS hK h1 hp hx n k (by omega)) (sz_mul hK (by omega) (sz_getD hp k) (sz_less (by omega) (sz_pw h1 hx k))))
theorem rEvalW {p : List Rat} {x : Rat} {c n : Nat} (hp : Pk p c n) (hc : c ≤ 290) (hn : n ≤ 20) (hx : szR [x] 1 = true) : Con Tryz.prog 30 [PL p 10, RT x 1] (.one (RT (ev p x) 1000)) := by
 have hl := hp.len
 refine rEvalP_con p x 10 1 1000 (by decide) (by decide) (by decide) (by omega) (fun k hk => sz_less ?_ (sz_pwS (K := 10) (by decide) (by decide) (hp.sz (by decide) hc) hx 20 k (by omega))) (fun k hk => sz_less (by omega) (sz_pw (by decide) hx k))
 have := Nat.mul_le_mul_right (10 + (20 * 1 + 1) + 1) (show k ≤ 20 by omega)
 omega
theorem rMulW {p q : List Rat} {c d n m : Nat} (hp : Pk p c n) (hq : Pk q d m) (hc : c ≤ 290) (hd : d ≤ 290) (hn : n ≤ 10) (hm : m ≤ 10) : Con Tryz.prog 26 [PL p 10, PL q 10] (.one (PL (mulR p q) 3000)) := by
 have h1 := hp.len
 have h2 := hq.len
 rw [← rmul_eq]
 refine rMulP_con p q 10 10 3000 (by decide) (by decide) (hp.sz (by decide) hc) (hq.sz (by decide) hd) (by omega) (by omega) (by decide) (by decide) (by decide) ?_
 have : (p.length + 1) * (q.length * (10 + 10 + 1)) ≤ 11 * (10 * 21) := Nat.mul_le_mul (by omega) (Nat.mul_le_mul (by omega) (Nat.le_refl _))
 omega
theorem rShiftW {p : List Rat} {a : Rat} (hz : szR p 2 = true) (hl : p.length ≤ 6) (ha : szR [a] 1 = true) : Con Tryz.prog 34 [PL p 10, RT a 1] (.one (PL (shiftR p a) 300)) := by
 refine rShiftP_con p a 10 1 300 (by decide) (by decide) (by omega) (by decide) (by decide) (by decide) (by omega) (sz_lessL (by decide) hz) ha (fun m hm => ?_)
 have h := sz_shiftF (K := 2) (Kx := 1) (by decide) (by decide) hz ha (dwn id m)
 rw [dwn_len] at h
 exact sz_lessL (Nat.le_trans (bdS_mono (show m ≤ 6 by omega)) (by decide)) h
section
variable (zs1 zs2 : List Int) (hz1 : ∀ z ∈ zs1, -9223372036854775808 ≤ z ∧ z ≤ 9223372036854775807) (hz2 : ∀ z ∈ zs2, -9223372036854775808 ≤ z ∧ z ≤ 9223372036854775807) (c : Int) (hc1 : -9223372036854775808 ≤ c) (hc2 : c ≤ 9223372036854775807)
include hz1 hz2 hc1 hc2
theorem pcomputes_con : Con Tryz.prog 4 [.d (Dm.ints zs1), .d (Dm.ints zs2), .v (.int .i64 c)] (.one (.v (.bool true))) := by
 have hp := pk_poly zs1
 have hq := pk_poly zs2
 have ha := small_sz c
 have k1 := rPolyW zs1 hz1
 have k2 := rPolyW zs2 hz2
 have k4 := rSmall_con c hc1 hc2
 generalize polyR zs1 = p at *
 generalize polyR zs2 = q at *
 generalize smallR c = a at *
 have hs : Pk (scaleR p (Rat.divInt (-1) 1)) 33 6 := by rw [divInt_n1]; exact hp.scale few_n1
 obtain ⟨l, hl⟩ : ∃ l, l = [(p, q), (q, p), (p, []), ([], q), (p, scaleR p (Rat.divInt (-1) 1))] := ⟨_, rfl⟩
 have hl5 : l.length = 5 := by rw [hl]; rfl
 have hall : ∀ (i : Nat) (x : List Rat × List Rat), l[i]? = some x → Pk x.1 33 6 ∧ Pk x.2 33 6 := fun i x hx => by have hm := List.mem_of_getElem? hx; rw [hl] at hm; simp only [List.mem_cons, List.not_mem_nil, or_false] at hm; have hn := Pk.nil.mono (e' := 33) (n' := 6) (by decide) (by decide); rcases hm with rfl | rfl | rfl | rfl | rfl; exact ⟨hp, hq⟩; exact ⟨hq, hp⟩; exact ⟨hp, hn⟩; exact ⟨hn, hq⟩; exact ⟨hp, hs⟩
 refine Con.of (n := 119) Tryz.func4 rfl rfl rfl rfl rfl fun cx hfr => ?_
 refine sr rfl ?_
 refine mr rfl rfl bd rfl ?_
 refine RV.done (sr rfl ?_)
 refine ml rfl rfl bd rfl ?_
 refine p1 (ok_call k1 rfl rfl bd Tryz.func10 rfl rfl (.cons rfl ⟨rfl, ints_ziP⟩ .nil) rfl hfr rfl) ?_
 refine mr rfl rfl bd rfl ?_
 refine RV.done (sr rfl ?_)
 refine ml rfl rfl bd rfl ?_
 refine p1 (ok_call k2 rfl rfl bd Tryz.func10 rfl rfl (.cons rfl ⟨rfl, ints_ziP⟩ .nil) rfl hfr rfl) ?_
 refine mr rfl rfl bd rfl ?_
 refine RV.done (sr rfl ?_)
 refine ml rfl rfl bd rfl ?_
 refine p1 (ok_call k4 rfl rfl bd Tryz.func18 rfl rfl (.cons rfl Conv.any .nil) rfl hfr rfl) ?_
 refine p2 (ok_alloc (i := 0) rfl rfl bd zero_rat rfl rfl rfl rfl) ?_
 refine p1 (ok_store rfl rfl rfl rfl rfl rfl rfl (ty_rat).2 rfl rfl rfl rfl) ?_
 refine RV.done (sr rfl ?_)
 refine ml rfl rfl bd rfl ?_
 refine ml rfl rfl bd rfl ?_
 refine p1 (ok_litD (G := Dm.gen (lstG none [PL p 10, PL q 10])) (ss := [PL p 10, PL q 10]) (lstG_Lst none _) u_polys zs_poly rfl rfl rfl pr_kind rfl rfl rfl bd (.cons rfl Conv.any (.cons rfl Conv.any .nil))) ?_
 refine ml rfl rfl bd rfl ?_
 refine ml rfl rfl bd rfl ?_
 refine p1 (ok_litD (G := Dm.gen (lstG none [PL q 10, PL p 10])) (ss := [PL q 10, PL p 10]) (lstG_Lst none _) u_polys zs_poly rfl rfl rfl pr_kind rfl rfl rfl bd (.cons rfl Conv.any (.cons rfl Conv.any .nil))) ?_
 refine ml rfl rfl bd rfl ?_
 refine p1 (ok_litD (G := Dm.gen (lstG none [PL p 10, PL [] 10])) (ss := [PL p 10, PL [] 10]) (lstG_Lst none _) u_polys zs_poly rfl rfl rfl pr_kind rfl rfl rfl bd (.cons rfl Conv.any (.cons rfl ⟨rfl, nil_pl⟩ .nil))) ?_
 refine ml rfl rfl bd rfl ?_
 refine p1 (ok_litD (G := Dm.gen (lstG none [PL [] 10, PL q 10])) (ss := [PL [] 10, PL q 10]) (lstG_Lst none _) u_polys zs_poly rfl rfl rfl pr_kind rfl rfl rfl bd (.cons rfl ⟨rfl, nil_pl⟩ (.cons rfl Conv.any .nil))) ?_
 refine ml rfl rfl bd rfl ?_
 refine ml rfl rfl bd rfl ?_
 refine p1 (ok_call (rfOf_con (-1) 1 (by decide) (by decide) (by decide) (by decide)) rfl rfl bd Tryz.func20 rfl rfl (.cons rfl Conv.any (.cons rfl Conv.any .nil)) rfl hfr rfl) ?_
 refine p1 (ok_call ((rScaleP_con p (Rat.divInt (-1) 1) 10 6 (by decide) (by decide) (by have := hp.len; omega)).mono (fun _ _ _ _ h => h) (pl_le1 (B := 10) (hs.sz (by decide) (by decide)))) rfl rfl bd Tryz.func19 rfl rfl (.cons rfl Conv.any (.cons rfl Conv.any .nil)) rfl hfr rfl) ?_
 refine p1 (ok_litD (G := Dm.gen (lstG none [PL p 10, PL (scaleR p (Rat.divInt (-1) 1)) 10])) (ss := [PL p 10, PL (scaleR p (Rat.divInt (-1) 1)) 10]) (lstG_Lst none _) u_polys zs_poly rfl rfl rfl pr_kind rfl rfl rfl bd (.cons rfl Conv.any (.cons rfl Conv.any .nil))) ?_
 refine p1 (ok_litD (G := Dm.gen (lstG none [prD 10 p q, prD 10 q p, prD 10 p [], prD 10 [] q, prD 10 p (scaleR p (Rat.divInt (-1) 1))])) (ss := [prD 10 p q, prD 10 q p, prD 10 p [], prD 10 [] q, prD 10 p (scaleR p (Rat.divInt (-1) 1))]) (lstG_Lst none _) u_lpolys zs_polys rfl rfl rfl (prL_kind (l := [(p, q), (q, p), (p, []), ([], q), (p, scaleR p (Rat.divInt (-1) 1))])) rfl rfl rfl bd (.cons rfl Conv.any (.cons rfl Conv.any (.cons rfl Conv.any (.cons rfl Conv.any (.cons rfl Conv.any .nil)))))) ?_
 refine mr rfl rfl bd rfl ?_
 refine RV.done ?_
 refine CV.seq ?_
 refine sr rfl ?_
 refine mr rfl rfl bd rfl ?_
 refine RV.done ?_
 refine CV.block ?_
 refine CV.loop (X := {k : Nat // k ≤ 5}) (fun k => [(.s 11, .av (.one (.v (.int .i64 (k.1 : Int))))), (.s 10, .av (.one (.d (Dm.gen (lstG none (prL 10 l)))))), (.s 9, .av (.one (.ptr 0 0))), (.b 0, .blk 30 [(some 4, RT a 1)])]) (fun k => 5 - k.1) ⟨0, Nat.zero_le _⟩ (Sub.mk ⟨XV.le_rfl _, by rw [hl]; exact XV.le_rfl _, XV.le_rfl _, ⟨rfl, fun _ _ _ _ h => h⟩, trivial⟩ rfl rfl) (fun k => ?_)
 obtain ⟨k, hk⟩ := k
 simp only
 refine CV.seq ?_
 refine sr rfl ?_
 refine ml rfl rfl bd rfl ?_
 refine ml rfl rfl bd rfl ?_
 refine p1 (ok_lenL prL_length u_lpolys rfl rfl bd rfl) ?_
 refine p1 (ok_lss rfl rfl bd rfl rfl) ?_
 refine RV.done ?_
 refine CV.cond rfl (fun hc => ?_) (fun hc => ?_)
 ·have hlt : k < 5 := (by have := of_decide_eq_true hc; rw [hl5] at this; omega)
  obtain ⟨⟨u, v⟩, hx⟩ : ∃ x, l[k]? = some x := ⟨_, List.getElem?_eq_getElem (by rw [hl5]; exact hlt)⟩
  obtain ⟨hu, hv⟩ := hall k _ hx
  simp only at hu hv
  have hul := hu.len
  have hvl := hv.len
  refine CV.skip ?_
  refine CV.seq ?_
  refine CV.block ?_
  refine sr rfl ?_
  refine ml rfl rfl bd rfl ?_
  refine ml rfl rfl bd rfl ?_
  refine p1 (ok_idxL (k := none) (i := k) (prL_at hx) u_lpolys sz_polys (by decide) rfl rfl bd rfl rfl) ?_
  refine p1 (ok_loadP ty_polys (by decide) rfl rfl bd rfl) ?_
  refine p1 (ok_idxL (k := none) (i := 0) (show [PL u 10, PL v 10][0]? = some (PL u 10) from rfl) u_polys sz_poly (by decide) rfl rfl bd rfl rfl) ?_
  refine p1 (ok_loadP ty_poly (by decide) rfl rfl bd rfl) ?_
  refine mr rfl rfl bd rfl ?_
  refine RV.done (sr rfl ?_)
  refine ml rfl rfl bd rfl ?_
  refine ml rfl rfl bd rfl ?_
  refine p1 (ok_idxL (k := none) (i := k) (prL_at hx) u_lpolys sz_polys (by decide) rfl rfl bd rfl rfl) ?_
  refine p1 (ok_loadP ty_polys (by decide) rfl rfl bd rfl) ?_
  refine p1 (ok_idxL (k := none) (i := 1) (show [PL u 10, PL v 10][1]? = some (PL v 10) from rfl) u_polys sz_poly (by decide) rfl rfl bd rfl rfl) ?_
  refine p1 (ok_loadP ty_poly (by decide) rfl rfl bd rfl) ?_
  refine mr rfl rfl bd rfl ?_
  refine RV.done ?_
  refine CV.seq ?_
  refine sr rfl ?_
  refine ml rfl rfl bd rfl ?_
  refine ml rfl rfl bd rfl ?_
  refine p1 (ok_call (PAddW hu hv (by decide) (by decide) (by decide)) rfl rfl bd Tryz.func21 rfl rfl (.cons rfl Conv.any (.cons rfl Conv.any .nil)) rfl hfr rfl) ?_
  refine ml rfl rfl bd rfl ?_
  refine ml rfl rfl bd rfl ?_
  refine p1 (ok_call (rAddP_con u v 10 10 (by decide) (by decide) (by omega) (by omega)) rfl rfl bd Tryz.func22 rfl rfl (.cons rfl Conv.any (.cons rfl Conv.any .nil)) rfl hfr rfl) ?_
  refine p1 (ok_call (rSameW rfl (by have := addR_len u v; omega)) rfl rfl bd Tryz.func13 rfl rfl (.cons rfl Conv.any (.cons rfl Conv.any .nil)) rfl hfr rfl) ?_
  refine p1 (ok_not rfl rfl bd rfl) ?_
  refine ml rfl rfl bd rfl ?_
  refine RV.step1 (OpOk.yes (ok_move (.inl rfl) rfl bd rfl) rfl rfl rfl) ?_
  refine RV.step1 (OpOk.yes (ok_move (.inl rfl) rfl bd rfl) rfl rfl rfl) ?_
  refine RV.step1 (OpOk.yes (ok_call (PSubW hu hv (by decide) (by decide) (by decide)) rfl rfl bd Tryz.func23 rfl rfl (.cons rfl Conv.any (.cons rfl Conv.any .nil)) rfl hfr rfl) rfl rfl rfl) ?_
  refine RV.step1 (OpOk.yes (ok_move (.inl rfl) rfl bd rfl) rfl rfl rfl) ?_
  refine RV.step1 (OpOk.yes (ok_move (.inl rfl) rfl bd rfl) rfl rfl rfl) ?_
  refine RV.step1 (OpOk.yes (ok_call (rSubP_con u v 10 10 (by decide) (by decide) (by omega) (by omega)) rfl rfl bd Tryz.func24 rfl rfl (.cons rfl Conv.any (.cons rfl Conv.any .nil)) rfl hfr rfl) rfl rfl rfl) ?_
  refine RV.step1 (OpOk.yes (ok_call (rSameW rfl (by have := (hu.sub hv).len; omega)) rfl rfl bd Tryz.func13 rfl rfl (.cons rfl Conv.any (.cons rfl Conv.any .nil)) rfl hfr rfl) rfl rfl rfl) ?_
  refine RV.step1 (OpOk.yes (ok_not rfl rfl bd rfl) rfl rfl rfl) ?_
  refine p1 (ok_pickF rfl rfl bd rfl rfl rfl) ?_
  refine ml rfl rfl bd rfl ?_
  refine RV.step1 (OpOk.yes (ok_move (.inl rfl) rfl bd rfl) rfl rfl rfl) ?_
  refine RV.step1 (OpOk.yes (ok_move (.inl rfl) rfl bd rfl) rfl rfl rfl) ?_
  refine RV.step1 (OpOk.yes (ok_call (PMulW 4 hu hv (by decide) (by decide) (by decide) (by decide) (by decide)) rfl rfl bd Tryz.func25 rfl rfl (.cons rfl Conv.any (.cons rfl Conv.any .nil)) rfl hfr rfl) rfl rfl rfl) ?_
  refine RV.step1 (OpOk.yes (ok_move (.inl rfl) rfl bd rfl) rfl rfl rfl) ?_
  refine RV.step1 (OpOk.yes (ok_move (.inl rfl) rfl bd rfl) rfl rfl rfl) ?_
  refine RV.step1 (OpOk.yes (ok_call (rMulW hu hv (by decide) (by decide) (by decide) (by decide)) rfl rfl bd Tryz.func26 rfl rfl (.cons rfl Conv.any (.cons rfl Conv.any .nil)) rfl hfr rfl) rfl rfl rfl) ?_
  refine RV.step1 (OpOk.yes (ok_call (rSameW rfl (by have := mulR_len u v; omega)) rfl rfl bd Tryz.func13 rfl rfl (.cons rfl Conv.any (.cons rfl Conv.any .nil)) rfl hfr rfl) rfl rfl rfl) ?_
  refine RV.step1 (OpOk.yes (ok_not rfl rfl bd rfl) rfl rfl rfl) ?_
  refine p1 (ok_pickF rfl rfl bd rfl rfl rfl) ?_
  refine RV.done ?_
  refine CV.no rfl ?_
  refine CV.skip ?_
  refine CV.seq ?_
  refine CV.region rfl (fun _ => by kernel_rfl) ?_
  refine ml rfl rfl bd rfl ?_
  refine p1 (ok_load rfl rfl bd rfl rfl rfl ty_rat) ?_
  refine p1 (ok_call (PScale_con u a 10 1 (by decide) (by decide) (by omega)) rfl rfl bd Tryz.func27 rfl rfl (.cons rfl Conv.any (.cons rfl Conv.any .nil)) rfl hfr rfl) ?_
  refine ml rfl rfl bd rfl ?_
  refine p1 (ok_load rfl rfl bd rfl rfl rfl ty_rat) ?_
  refine p1 (ok_call (rScaleP_con u a 10 1 (by decide) (by decide) (by omega)) rfl rfl bd Tryz.func19 rfl rfl (.cons rfl Conv.any (.cons rfl Conv.any .nil)) rfl hfr rfl) ?_
  refine p1 (ok_call (rSameW rfl (by have := scaleR_len u a; omega)) rfl rfl bd Tryz.func13 rfl rfl (.cons rfl Conv.any (.cons rfl Conv.any .nil)) rfl hfr rfl) ?_
  refine p1 (ok_not rfl rfl bd rfl) ?_
  refine ml rfl rfl bd rfl ?_
  refine RV.step1 (OpOk.yes (ok_move (.inl rfl) rfl bd rfl) rfl rfl rfl) ?_
  refine RV.step1 (OpOk.yes (ok_load rfl rfl bd rfl rfl rfl ty_rat) rfl rfl rfl) ?_
  refine RV.step1 (OpOk.yes (ok_call (PEvalW 200 hu (by decide) (by decide) (by decide) ha (by decide) (by decide) (by decide)) rfl rfl bd Tryz.func29 rfl rfl (.cons rfl Conv.any (.cons rfl Conv.any .nil)) rfl hfr rfl) rfl rfl rfl) ?_
  refine RV.step1 (OpOk.yes (ok_move (.inl rfl) rfl bd rfl) rfl rfl rfl) ?_
  refine RV.step1 (OpOk.yes (ok_load rfl rfl bd rfl rfl rfl ty_rat) rfl rfl rfl) ?_
  refine RV.step1 (OpOk.yes (ok_call (rEvalW hu (by decide) (by decide) ha) rfl rfl bd Tryz.func30 rfl rfl (.cons rfl Conv.any (.cons rfl Conv.any .nil)) rfl hfr rfl) rfl rfl rfl) ?_
  refine RV.step1 (OpOk.yes (ok_call (rfSameT rfl) rfl rfl bd Tryz.func28 rfl rfl (.cons rfl Conv.any (.cons rfl Conv.any .nil)) rfl hfr rfl) rfl rfl rfl) ?_
  refine RV.step1 (OpOk.yes (ok_not rfl rfl bd rfl) rfl rfl rfl) ?_
  refine p1 (ok_pickF rfl rfl bd rfl rfl rfl) ?_
  refine ml rfl rfl bd rfl ?_
  refine RV.step1 (OpOk.yes (ok_move (.inl rfl) rfl bd rfl) rfl rfl rfl) ?_
  refine RV.step1 (OpOk.yes (ok_call (PDeriveW 3 hu (by decide) (by decide) (by decide)) rfl rfl bd Tryz.func31 rfl rfl (.cons rfl Conv.any .nil) rfl hfr rfl) rfl rfl rfl) ?_
  refine RV.step1 (OpOk.yes (ok_move (.inl rfl) rfl bd rfl) rfl rfl rfl) ?_
  refine RV.step1 (OpOk.yes (ok_call (rDeriveP_con u 10 (by decide) (by omega)) rfl rfl bd Tryz.func32 rfl rfl (.cons rfl Conv.any .nil) rfl hfr rfl) rfl rfl rfl) ?_
  refine RV.step1 (OpOk.yes (ok_call (rSameW rfl (by have := deriveR_len u; omega)) rfl rfl bd Tryz.func13 rfl rfl (.cons rfl Conv.any (.cons rfl Conv.any .nil)) rfl hfr rfl) rfl rfl rfl) ?_
  refine RV.step1 (OpOk.yes (ok_not rfl rfl bd rfl) rfl rfl rfl) ?_
  refine p1 (ok_pickF rfl rfl bd rfl rfl rfl) ?_
  refine ml rfl rfl bd rfl ?_
  refine RV.step1 (OpOk.yes (ok_move (.inl rfl) rfl bd rfl) rfl rfl rfl) ?_
  refine RV.step1 (OpOk.yes (ok_load rfl rfl bd rfl rfl rfl ty_rat) rfl rfl rfl) ?_
  refine RV.step1 (OpOk.yes (ok_call (PShiftW (n := 6) 478 (hu.sz (by decide) (by decide)) (by decide) (by decide) (by decide) (by decide) ha hul (by decide) (by decide) (by decide)) rfl rfl bd Tryz.func33 rfl rfl (.cons rfl Conv.any (.cons rfl Conv.any .nil)) rfl hfr rfl) rfl rfl rfl) ?_
  refine RV.step1 (OpOk.yes (ok_move (.inl rfl) rfl bd rfl) rfl rfl rfl) ?_
  refine RV.step1 (OpOk.yes (ok_load rfl rfl bd rfl rfl rfl ty_rat) rfl rfl rfl) ?_
  refine RV.step1 (OpOk.yes (ok_call (rShiftW (hu.sz (by decide) (by decide)) hul ha) rfl rfl bd Tryz.func34 rfl rfl (.cons rfl Conv.any (.cons rfl Conv.any .nil)) rfl hfr rfl) rfl rfl rfl) ?_
  refine RV.step1 (OpOk.yes (ok_call (rSameW rfl (by have := shiftR_len u a; omega)) rfl rfl bd Tryz.func13 rfl rfl (.cons rfl Conv.any (.cons rfl Conv.any .nil)) rfl hfr rfl) rfl rfl rfl) ?_
  refine RV.step1 (OpOk.yes (ok_not rfl rfl bd rfl) rfl rfl rfl) ?_
  refine p1 (ok_pickF rfl rfl bd rfl rfl rfl) ?_
  refine RV.drawn (by kernel_rfl) ?_
  refine CV.no rfl ?_
  refine CV.skip ?_
  refine CV.region rfl (fun h => nomatch h) ?_
  refine ml rfl rfl bd rfl ?_
  refine p1 (ok_add (c := ((k + 1 : Nat) : Int)) (by rw [wrapI (by omega) (by omega)]; omega) rfl rfl bd rfl rfl) ?_
  refine mr rfl rfl bd rfl ?_
  refine RV.done ?_
  exact ⟨⟨k + 1, hlt⟩, Sub.mk ⟨XV.le_rfl _, XV.le_rfl _, XV.le_rfl _, ⟨rfl, fun _ _ _ _ h => h⟩, trivial⟩ rfl rfl, by show 5 - (k + 1) < 5 - k; omega⟩
 ·refine CV.exit ?_
  refine sr rfl ?_
  refine p1 (ok_call (lives6_con) rfl rfl bd Tryz.func17 rfl rfl .nil rfl hfr rfl) ?_
  refine mr rfl rfl bd rfl ?_
  refine RV.done ?_
  refine CV.ret ?_
  exact fin1 rfl (.inr rfl) rfl is_rfl
end

theorem gcdQ_le {u v : List Rat} {c d : Nat} (h : 5 * (c + 1) + 7 * (d + 1) ≤ 608) : gcdQ u v c d ≤ 608 := by
 unfold gcdQ
 split <;> omega
theorem pair_div {u v : List Rat} {c d n m : Nat} (hu : Pk u c n) (hv : Pk v d m) (hn : n ≤ 100) (hc : c + 101 * (d + 1) + d ≤ 2900000) : ∃ U R, divS 100000 u v = some (U, R) ∧ trimR U = U ∧ U.length ≤ 101 ∧ R.length ≤ 100 ∧ (v ≠ [] → trimR R = R ∧ R.length < v.length ∧ (∀ x, ev u x = ev U x * ev v x + ev R x) ∧ Cb U (c + 101 * (d + 1) + d)) := by
 have hl := hu.len
 by_cases h0 : v = []
 ·subst h0
  exact ⟨[], [], by rw [divS, if_pos rfl], rfl, Nat.zero_le _, Nat.zero_le _, fun h => absurd rfl h⟩
 ·have he : divE u v c d ≤ c + 101 * (d + 1) + d := by
   unfold divE
   have := Nat.mul_le_mul_right (d + 1) (show u.length + 1 - v.length ≤ 101 by omega)
   omega
  obtain ⟨U, R, h1, h2, h3, h4, h5, h6, h7, h8⟩ := divS_spec (B := 100000) (by decide) hu.tr hv.tr h0 hu.cb hv.cb (by omega)
  refine ⟨U, R, h1, h2, by omega, ?_, fun _ => ⟨h3, h4, h6, h7.mono he⟩⟩
  by_cases hr : R = []
  ·rw [hr]; exact Nat.zero_le _
  ·rcases Nat.lt_or_ge u.length v.length with hlt | hge
   ·have hU : U = [] := List.eq_nil_of_length_eq_zero (by omega)
    have hR : u = R := ev_inj hu.tr h3 fun x => by rw [h6, hU, ev, Rat.zero_mul, Rat.zero_add]
    rw [← hR]
    omega
   ·omega
theorem pair_gcd {u v : List Rat} {c d n m : Nat} (hu : Pk u c n) (hv : Pk v d m) (hn : n ≤ 11) (hm : m ≤ 11) (h : 5 * (c + 1) + 7 * (d + 1) ≤ 608) : ∃ G, gcdS 100000 u v = some G ∧ rgcdS 100000 u v = some G ∧ trimR G = G ∧ G.length ≤ 11 ∧ (u ≠ [] ∨ v ≠ [] → G ≠ [] ∧ lastR G = 1 ∧ IsG u v G) ∧ (u = [] ∧ v = [] → G = []) := by
 have h1 := hu.len
 have h2 := hv.len
 obtain ⟨G, e, g1, g2, g3, g4, g5, _, _, _⟩ := gcd_both (B := 100000) (M := 11) (Q := 608) (by decide) hu.tr hv.tr (by omega) (by omega) hu.cb hv.cb (by omega) (by omega) (gcdQ_le h) (by decide)
 refine ⟨G, g1, g2, g3, ?_, g4, g5⟩
 by_cases h0 : u = [] ∧ v = []
 ·rw [g5 h0]; exact Nat.zero_le _
 ·by_cases hu0 : u = []
  ·have hv0 : v ≠ [] := fun e => h0 ⟨hu0, e⟩
   obtain ⟨_, _, hg⟩ := g4 (.inr hv0)
   have := (dv_len g3 hv.tr hv0 hg.2.1).2.1
   omega
  ·obtain ⟨_, _, hg⟩ := g4 (.inl hu0)
   have := (dv_len g3 hu.tr hu0 hg.1).2.1
   omega
theorem monic_self {g : List Rat} (tg : trimR g = g) (hl : lastR g = 1) : monicR g = g := ev_inj (trimR_idem _) tg fun x => by
 rw [monicR, ev_scale, hl, show (1 : Rat) / 1 = 1 by decide +kernel, Rat.mul_one]
theorem pk_div {u g : List Rat} {c n : Nat} (hu : Pk u c n) (hu0 : u ≠ []) (hn : n ≤ 2 ^ c) (tg : trimR g = g) (hl : lastR g = 1) (h : Dv g u) : Pk g (kron c n) n := by
 have h1 := dv_small hu.tr hu0 hu.cb hu.len hn tg h
 rw [monic_self tg hl] at h1
 exact ⟨h1, tg, Nat.le_trans (dv_len tg hu.tr hu0 h).2.1 hu.len⟩
theorem free_facts {u : List Rat} {c n : Nat} (hu : Pk u c n) (hn : n ≤ 11) (hc : c ≤ 70) (hc2 : 4 ≤ c) : ∃ G U R, gcdS 100000 u (deriveR u) = some G ∧ rgcdS 100000 u (deriveR u) = some G ∧ trimR G = G ∧ G.length ≤ 11 ∧ szR G 100000 = true ∧ divS 100000 u G = some (U, R) ∧ trimR U = U ∧ U.length ≤ 101 ∧ szR (monicR U) 100000 = true ∧ (u ≠ [] → IsG u (deriveR u) G ∧ G ≠ [] ∧ lastR G = 1 ∧ trimR R = R ∧ R.length < G.length ∧ ∀ x, ev u x = ev U x * ev G x + ev R x) ∧ (u = [] → U = []) := by
 by_cases h0 : u = []
 ·subst h0
  exact ⟨[], [], [], gcdS_nil (by decide), rfl, rfl, Nat.zero_le _, rfl, by rw [divS, if_pos rfl], rfl, Nat.zero_le _, rfl, fun h => absurd rfl h, fun _ => rfl⟩
 ·have hd := hu.derive 4 (by omega)
  have hpos := List.length_pos_iff.2 h0
  have hQ : gcdQ u (deriveR u) c (c + 4) ≤ 608 := by
   unfold gcdQ
   have := deriveR_len u
   rw [if_pos (by omega)]
   omega
  have h1 := hu.len
  have h2 := hd.len
  obtain ⟨G, e, g1, g2, g3, g4, _, _, _, _⟩ := gcd_both (B := 100000) (M := 11) (Q := 608) (by decide) hu.tr hd.tr (by omega) (by omega) hu.cb hd.cb (by omega) (by omega) hQ (by decide)
  obtain ⟨q1, q2, q3⟩ := g4 (.inl h0)
  have h16 : 2 ^ 4 ≤ 2 ^ c := pow_le hc2
  have hG := pk_div hu h0 (by omega) g3 q2 q3.1
  have hk : kron c n ≤ 1687 := by
   unfold kron
   have := Nat.mul_le_mul (show n ≤ 11 from hn) (show c + 3 ≤ 73 by omega)
   have := Nat.mul_le_mul (show n ≤ 11 from hn) (show c + 4 ≤ 74 by omega)
   omega
  have hG2 := hG.mono hk (Nat.le_refl _)
  obtain ⟨U, R, u1, u2, u3, u4, u5⟩ := pair_div hu hG2 (by omega) (by omega)
  obtain ⟨v1, v2, v3, v4⟩ := u5 q1
  obtain ⟨_, _, m3, _⟩ := monic_any u2 v4
  have hGl := hG2.len
  exact ⟨G, U, R, g1, g2, g3, by omega, hG2.sz (by decide) (by decide), u1, u2, u3, m3.sz (by decide) (by omega), fun _ => ⟨q3, q1, q2, v1, v2, v3⟩, fun h => absurd h h0⟩
theorem freeS_ok {u G U R : List Rat} (h0 : szR (deriveR u) 100000 = true) (h1 : gcdS 100000 u (deriveR u) = some G) (h2 : divS 100000 u G = some (U, R)) (hG : G.length ≤ 11) (hU : U.length ≤ 101) (hm : szR (monicR U) 100000 = true) : freeS 100000 u = some (monicR U) := by
 unfold freeS
 rw [if_pos h0, h1]
 show (divS 100000 u G).bind _ = _
 rw [h2]
 show (if _ then some _ else none) = _
 rw [decide_eq_true (show G.length ≤ 1000000 by omega), decide_eq_true (show U.length ≤ 1000000 by omega), hm]
 rfl
theorem rMulB {p q : List Rat} {c d n m : Nat} (hp : Pk p c n) (hq : Pk q d m) (hc : c ≤ 290) (hd : d ≤ 290) (hn : n ≤ 10) (hm : m ≤ 10) : Con Tryz.prog 26 [PL p 100000, PL q 100000] (.one (PL (mulR p q) 100000)) := by
 have h1 := hp.len
 have h2 := hq.len
 by_cases h : p = [] ∨ q = []
 ·have e : mulR p q = [] := by rw [← rmul_eq, rmulR, if_pos h]
  rw [e]
  exact rMul0_con p q 100000 100000 100000 (by omega) (by omega) h
 ·rw [← rmul_eq, rmulR, if_neg h]
  have zp : szR p 10 = true := hp.sz (by decide) hc
  have zq : szR q 10 = true := hq.sz (by decide) hd
  refine rMulN_con p q 100000 100000 100000 (by omega) (by omega) (fun e => h (.inl e)) (fun e => h (.inr e)) (by decide) (by decide) (by decide) fun i j hi hj => ?_
  refine sz_lessL ?_ (sz_innR (by decide) (by decide) zp zq (by omega) (sz_outR (by decide) (by decide) zp zq))
  have e1 : i * (q.length * (10 + 10 + 1)) ≤ 10 * (10 * 21) := Nat.mul_le_mul (by omega) (Nat.mul_le_mul (by omega) (Nat.le_refl _))
  omega
theorem rDeriveB {p : List Rat} {c n : Nat} (t : Nat) (hp : Pk p c n) (ht : n ≤ 2 ^ t) (hc : c + t ≤ 290) (hn : n ≤ 20) : Con Tryz.prog 32 [PL p 100000] (.one (PL (deriveR p) 100000)) :=
 (rDeriveP_con p 100000 (by decide) (by have := hp.len; omega)).mono (fun _ _ _ _ h => h) (pl_le1 ((hp.derive t ht).sz (by decide) (by omega)))
section
variable (zs1 zs2 : List Int) (hz1 : ∀ z ∈ zs1, -9223372036854775808 ≤ z ∧ z ≤ 9223372036854775807) (hz2 : ∀ z ∈ zs2, -9223372036854775808 ≤ z ∧ z ≤ 9223372036854775807)
include hz1 hz2
theorem pdivides_con : Con Tryz.prog 5 [.d (Dm.ints zs1), .d (Dm.ints zs2)] (.one (.v (.bool true))) := by
 have hp := pk_poly zs1
 have hq := pk_poly zs2
 have k1 := (rPoly_con zs1 hz1).mono (fun _ _ _ _ h => h) (pl_le1 (B := 100000) (hp.sz (by decide) (by decide)))
 have k2 := (rPoly_con zs2 hz2).mono (fun _ _ _ _ h => h) (pl_le1 (B := 100000) (hq.sz (by decide) (by decide)))
 generalize polyR zs1 = p at *
 generalize polyR zs2 = q at *
 have hpq : Pk (mulR p q) 70 11 := hp.mul 4 hq (by decide)
 have hdp : Pk (deriveR p) 36 5 := hp.derive 3 (by decide)
 obtain ⟨l, hl⟩ : ∃ l, l = [(p, q), (q, p), (mulR p q, q), (p, []), ([], q), (p, deriveR p)] := ⟨_, rfl⟩
 have hl6 : l.length = 6 := by rw [hl]; rfl
 have hall : ∀ (i : Nat) (x : List Rat × List Rat), l[i]? = some x → ∃ c d, Pk x.1 c 11 ∧ Pk x.2 d 11 ∧ 5 * (c + 1) + 7 * (d + 1) ≤ 608 ∧ c ≤ 70 ∧ d ≤ 70 ∧ 4 ≤ c := fun i x hx => by have hm := List.mem_of_getElem? hx; rw [hl] at hm; simp only [List.mem_cons, List.not_mem_nil, or_false] at hm; have hn := Pk.nil.mono (e' := 33) (n' := 11) (by decide) (by decide); have hp1 := hp.mono (e' := 33) (n' := 11) (by decide) (by decide); have hq1 := hq.mono (e' := 33) (n' := 11) (by decide) (by decide); have hd1 := hdp.mono (e' := 36) (n' := 11) (by decide) (by decide); rcases hm with rfl | rfl | rfl | rfl | rfl | rfl; exact ⟨33, 33, hp1, hq1, by decide⟩; exact ⟨33, 33, hq1, hp1, by decide⟩; exact ⟨70, 33, hpq, hq1, by decide⟩; exact ⟨33, 33, hp1, hn, by decide⟩; exact ⟨33, 33, hn, hq1, by decide⟩; exact ⟨33, 36, hp1, hd1, by decide⟩
 refine Con.of (n := 98) Tryz.func5 rfl rfl rfl rfl rfl fun cx hfr => ?_
 refine sr rfl ?_
 refine mr rfl rfl bd rfl ?_
 refine RV.done (sr rfl ?_)
 refine ml rfl rfl bd rfl ?_
 refine p1 (ok_call k1 rfl rfl bd Tryz.func10 rfl rfl (.cons rfl ⟨rfl, ints_ziP⟩ .nil) rfl hfr rfl) ?_
 refine mr rfl rfl bd rfl ?_
 refine RV.done (sr rfl ?_)
 refine ml rfl rfl bd rfl ?_
 refine p1 (ok_call k2 rfl rfl bd Tryz.func10 rfl rfl (.cons rfl ⟨rfl, ints_ziP⟩ .nil) rfl hfr rfl) ?_
 refine mr rfl rfl bd rfl ?_
 refine RV.done (sr rfl ?_)
 refine ml rfl rfl bd rfl ?_
 refine ml rfl rfl bd rfl ?_
 refine p1 (ok_litD (G := Dm.gen (lstG none [PL p 100000, PL q 100000])) (ss := [PL p 100000, PL q 100000]) (lstG_Lst none _) u_polys zs_poly rfl rfl rfl pr_kind rfl rfl rfl bd (.cons rfl Conv.any (.cons rfl Conv.any .nil))) ?_
 refine ml rfl rfl bd rfl ?_
 refine ml rfl rfl bd rfl ?_
 refine p1 (ok_litD (G := Dm.gen (lstG none [PL q 100000, PL p 100000])) (ss := [PL q 100000, PL p 100000]) (lstG_Lst none _) u_polys zs_poly rfl rfl rfl pr_kind rfl rfl rfl bd (.cons rfl Conv.any (.cons rfl Conv.any .nil))) ?_
 refine ml rfl rfl bd rfl ?_
 refine ml rfl rfl bd rfl ?_
 refine p1 (ok_call (rMulB hp hq (by decide) (by decide) (by decide) (by decide)) rfl rfl bd Tryz.func26 rfl rfl (.cons rfl Conv.any (.cons rfl Conv.any .nil)) rfl hfr rfl) ?_
 refine ml rfl rfl bd rfl ?_
 refine p1 (ok_litD (G := Dm.gen (lstG none [PL (mulR p q) 100000, PL q 100000])) (ss := [PL (mulR p q) 100000, PL q 100000]) (lstG_Lst none _) u_polys zs_poly rfl rfl rfl pr_kind rfl rfl rfl bd (.cons rfl Conv.any (.cons rfl Conv.any .nil))) ?_
 refine ml rfl rfl bd rfl ?_
 refine p1 (ok_litD (G := Dm.gen (lstG none [PL p 100000, PL [] 100000])) (ss := [PL p 100000, PL [] 100000]) (lstG_Lst none _) u_polys zs_poly rfl rfl rfl pr_kind rfl rfl rfl bd (.cons rfl Conv.any (.cons rfl ⟨rfl, nil_pl⟩ .nil))) ?_
 refine ml rfl rfl bd rfl ?_
 refine p1 (ok_litD (G := Dm.gen (lstG none [PL [] 100000, PL q 100000])) (ss := [PL [] 100000, PL q 100000]) (lstG_Lst none _) u_polys zs_poly rfl rfl rfl pr_kind rfl rfl rfl bd (.cons rfl ⟨rfl, nil_pl⟩ (.cons rfl Conv.any .nil))) ?_
 refine ml rfl rfl bd rfl ?_
 refine ml rfl rfl bd rfl ?_
 refine p1 (ok_call (rDeriveB 3 hp (by decide) (by decide) (by decide)) rfl rfl bd Tryz.func32 rfl rfl (.cons rfl Conv.any .nil) rfl hfr rfl) ?_
 refine p1 (ok_litD (G := Dm.gen (lstG none [PL p 100000, PL (deriveR p) 100000])) (ss := [PL p 100000, PL (deriveR p) 100000]) (lstG_Lst none _) u_polys zs_poly rfl rfl rfl pr_kind rfl rfl rfl bd (.cons rfl Conv.any (.cons rfl Conv.any .nil))) ?_
 refine p1 (ok_litD (G := Dm.gen (lstG none [prD 100000 p q, prD 100000 q p, prD 100000 (mulR p q) q, prD 100000 p [], prD 100000 [] q, prD 100000 p (deriveR p)])) (ss := [prD 100000 p q, prD 100000 q p, prD 100000 (mulR p q) q, prD 100000 p [], prD 100000 [] q, prD 100000 p (deriveR p)]) (lstG_Lst none _) u_lpolys zs_polys rfl rfl rfl (prL_kind (l := [(p, q), (q, p), (mulR p q, q), (p, []), ([], q), (p, deriveR p)])) rfl rfl rfl bd (.cons rfl Conv.any (.cons rfl Conv.any (.cons rfl Conv.any (.cons rfl Conv.any (.cons rfl Conv.any (.cons rfl Conv.any .nil))))))) ?_
 refine mr rfl rfl bd rfl ?_
 refine RV.done ?_
 refine CV.seq ?_
 refine sr rfl ?_
 refine mr rfl rfl bd rfl ?_
 refine RV.done ?_
 refine CV.block ?_
 refine CV.loop (X := {k : Nat // k ≤ 6}) (fun k => [(.s 8, .av (.one (.v (.int .i64 (k.1 : Int))))), (.s 7, .av (.one (.d (Dm.gen (lstG none (prL 100000 l))))))]) (fun k => 6 - k.1) ⟨0, Nat.zero_le _⟩ (Sub.mk ⟨XV.le_rfl _, by rw [hl]; exact XV.le_rfl _, trivial⟩ rfl rfl) (fun k => ?_)
 obtain ⟨k, hk⟩ := k
 simp only
 refine CV.seq ?_
 refine sr rfl ?_
 refine ml rfl rfl bd rfl ?_
 refine ml rfl rfl bd rfl ?_
 refine p1 (ok_lenL prL_length u_lpolys rfl rfl bd rfl) ?_
 refine p1 (ok_lss rfl rfl bd rfl rfl) ?_
 refine RV.done ?_
 refine CV.cond rfl (fun hc => ?_) (fun hc => ?_)
 ·have hlt : k < 6 := (by have := of_decide_eq_true hc; rw [hl6] at this; omega)
  obtain ⟨⟨u, v⟩, hx⟩ : ∃ x, l[k]? = some x := ⟨_, List.getElem?_eq_getElem (by rw [hl6]; exact hlt)⟩
  obtain ⟨c, d, hu, hv, hQ, hc70, hd70, hc4⟩ := hall k _ hx
  simp only at hu hv
  have hul := hu.len
  have hvl := hv.len
  obtain ⟨U, R, o1, o2, o3, o4, -⟩ := pair_div hu hv (by decide) (by omega)
  obtain ⟨G, o5, o6, o7, o8, -, -⟩ := pair_gcd hu hv (by decide) (by decide) hQ
  obtain ⟨G1, U1, R1, f1, f2, f3, f4, f5, f6, f7, f8, f9, -, -⟩ := free_facts hu (by decide) hc70 hc4
  have hdz : szR (deriveR u) 100000 = true := (hu.derive 4 (by decide)).sz (by decide) (by omega)
  have hfr1 := freeS_ok hdz f1 f6 f4 f8 f9
  have hml := monicR_len U1
  have hvz : szR v 100000 = true := hv.sz (by decide) (by omega)
  refine CV.skip ?_
  refine CV.seq ?_
  refine CV.block ?_
  refine sr rfl ?_
  refine ml rfl rfl bd rfl ?_
  refine ml rfl rfl bd rfl ?_
  refine p1 (ok_idxL (k := none) (i := k) (prL_at hx) u_lpolys sz_polys (by decide) rfl rfl bd rfl rfl) ?_
  refine p1 (ok_loadP ty_polys (by decide) rfl rfl bd rfl) ?_
  refine p1 (ok_idxL (k := none) (i := 0) (show [PL u 100000, PL v 100000][0]? = some (PL u 100000) from rfl) u_polys sz_poly (by decide) rfl rfl bd rfl rfl) ?_
  refine p1 (ok_loadP ty_poly (by decide) rfl rfl bd rfl) ?_
  refine mr rfl rfl bd rfl ?_
  refine RV.done (sr rfl ?_)
  refine ml rfl rfl bd rfl ?_
  refine ml rfl rfl bd rfl ?_
  refine p1 (ok_idxL (k := none) (i := k) (prL_at hx) u_lpolys sz_polys (by decide) rfl rfl bd rfl rfl) ?_
  refine p1 (ok_loadP ty_polys (by decide) rfl rfl bd rfl) ?_
  refine p1 (ok_idxL (k := none) (i := 1) (show [PL u 100000, PL v 100000][1]? = some (PL v 100000) from rfl) u_polys sz_poly (by decide) rfl rfl bd rfl rfl) ?_
  refine p1 (ok_loadP ty_poly (by decide) rfl rfl bd rfl) ?_
  refine mr rfl rfl bd rfl ?_
  refine RV.done (sr rfl ?_)
  refine ml rfl rfl bd rfl ?_
  refine ml rfl rfl bd rfl ?_
  refine p1 (ok_call (PDiv_con u v 100000 (by decide) (by omega) (by omega) o1) rfl rfl bd Tryz.func35 rfl rfl (.cons rfl Conv.any (.cons rfl Conv.any .nil)) rfl hfr rfl) ?_
  refine ml rfl rfl bd rfl ?_
  refine p1 (ok_extract rfl rfl bd rfl rfl) ?_
  refine p1 (ok_extract rfl rfl bd rfl rfl) ?_
  refine mr rfl rfl bd rfl ?_
  refine mr rfl rfl bd rfl ?_
  refine RV.done (sr rfl ?_)
  refine ml rfl rfl bd rfl ?_
  refine ml rfl rfl bd rfl ?_
  refine p1 (ok_call (rDivP_con u v 100000 (by decide) (by decide) (by omega) (by omega) hu.tr hv.tr hvz o1) rfl rfl bd Tryz.func36 rfl rfl (.cons rfl Conv.any (.cons rfl Conv.any .nil)) rfl hfr rfl) ?_
  refine ml rfl rfl bd rfl ?_
  refine p1 (ok_extract rfl rfl bd rfl rfl) ?_
  refine p1 (ok_extract rfl rfl bd rfl rfl) ?_
  refine mr rfl rfl bd rfl ?_
  refine mr rfl rfl bd rfl ?_
  refine RV.done (sr rfl ?_)
  refine ml rfl rfl bd rfl ?_
  refine ml rfl rfl bd rfl ?_
  refine p1 (ok_call (rSameW o2.symm (by omega)) rfl rfl bd Tryz.func13 rfl rfl (.cons rfl Conv.any (.cons rfl Conv.any .nil)) rfl hfr rfl) ?_
  refine p1 (ok_not rfl rfl bd rfl) ?_
  refine ml rfl rfl bd rfl ?_
  refine RV.step1 (OpOk.yes (ok_move (.inl rfl) rfl bd rfl) rfl rfl rfl) ?_
  refine RV.step1 (OpOk.yes (ok_move (.inl rfl) rfl bd rfl) rfl rfl rfl) ?_
  refine RV.step1 (OpOk.yes (ok_call (rSameW rfl (by omega)) rfl rfl bd Tryz.func13 rfl rfl (.cons rfl Conv.any (.cons rfl Conv.any .nil)) rfl hfr rfl) rfl rfl rfl) ?_
  refine RV.step1 (OpOk.yes (ok_not rfl rfl bd rfl) rfl rfl rfl) ?_
  refine p1 (ok_pickF rfl rfl bd rfl rfl rfl) ?_
  refine ml rfl rfl bd rfl ?_
  refine RV.step1 (OpOk.yes (ok_move (.inl rfl) rfl bd rfl) rfl rfl rfl) ?_
  refine RV.step1 (OpOk.yes (ok_move (.inl rfl) rfl bd rfl) rfl rfl rfl) ?_
  refine RV.step1 (OpOk.yes (ok_call (PGcd_con u v G 100000 (by decide) (by omega) (by omega) o5) rfl rfl bd Tryz.func37 rfl rfl (.cons rfl Conv.any (.cons rfl Conv.any .nil)) rfl hfr rfl) rfl rfl rfl) ?_
  refine RV.step1 (OpOk.yes (ok_move (.inl rfl) rfl bd rfl) rfl rfl rfl) ?_
  refine RV.step1 (OpOk.yes (ok_move (.inl rfl) rfl bd rfl) rfl rfl rfl) ?_
  refine RV.step1 (OpOk.yes (ok_call (rGcdP_con u v G 100000 (by decide) (by decide) (by omega) (by omega) o6) rfl rfl bd Tryz.func38 rfl rfl (.cons rfl Conv.any (.cons rfl Conv.any .nil)) rfl hfr rfl) rfl rfl rfl) ?_
  refine RV.step1 (OpOk.yes (ok_call (rSameW rfl (by omega)) rfl rfl bd Tryz.func13 rfl rfl (.cons rfl Conv.any (.cons rfl Conv.any .nil)) rfl hfr rfl) rfl rfl rfl) ?_
  refine RV.step1 (OpOk.yes (ok_not rfl rfl bd rfl) rfl rfl rfl) ?_
  refine p1 (ok_pickF rfl rfl bd rfl rfl rfl) ?_
  refine ml rfl rfl bd rfl ?_
  refine RV.step1 (OpOk.yes (ok_move (.inl rfl) rfl bd rfl) rfl rfl rfl) ?_
  refine RV.step1 (OpOk.yes (ok_call (PFree_con u (monicR U1) 100000 (by decide) (by omega) hfr1) rfl rfl bd Tryz.func39 rfl rfl (.cons rfl Conv.any .nil) rfl hfr rfl) rfl rfl rfl) ?_
  refine RV.step1 (OpOk.yes (ok_move (.inl rfl) rfl bd rfl) rfl rfl rfl) ?_
  refine RV.step1 (OpOk.yes (ok_call (rFreeP_con u G1 U1 R1 100000 (by decide) (by decide) (by omega) hu.tr hdz f2 f3 (by omega) f5 f6 f7 (by omega) f9) rfl rfl bd Tryz.func40 rfl rfl (.cons rfl Conv.any .nil) rfl hfr rfl) rfl rfl rfl) ?_
  refine RV.step1 (OpOk.yes (ok_call (rSameW rfl (by omega)) rfl rfl bd Tryz.func13 rfl rfl (.cons rfl Conv.any (.cons rfl Conv.any .nil)) rfl hfr rfl) rfl rfl rfl) ?_
  refine RV.step1 (OpOk.yes (ok_not rfl rfl bd rfl) rfl rfl rfl) ?_
  refine p1 (ok_pickF rfl rfl bd rfl rfl rfl) ?_
  refine RV.done ?_
  refine CV.no rfl ?_
  refine CV.skip ?_
  refine CV.region rfl (fun h => nomatch h) ?_
  refine ml rfl rfl bd rfl ?_
  refine p1 (ok_add (c := ((k + 1 : Nat) : Int)) (by rw [wrapI (by omega) (by omega)]; omega) rfl rfl bd rfl rfl) ?_
  refine mr rfl rfl bd rfl ?_
  refine RV.done ?_
  exact ⟨⟨k + 1, hlt⟩, Sub.mk ⟨XV.le_rfl _, XV.le_rfl _, trivial⟩ rfl rfl, by show 6 - (k + 1) < 6 - k; omega⟩
 ·refine CV.exit ?_
  refine sr rfl ?_
  refine p1 (ok_call (lives6_con) rfl rfl bd Tryz.func17 rfl rfl .nil rfl hfr rfl) ?_
  refine mr rfl rfl bd rfl ?_
  refine RV.done ?_
  refine CV.ret ?_
  exact fin1 rfl (.inr rfl) rfl is_rfl
end
end Vc
end Go.Proofs.YtcblbepaigdlgaaGreat

namespace Go.Proofs.YtcblbepaigdlgaaGreat
open Go.RowKit
open Dg Zn
namespace Vc
/-! Exact division, quotients without a common divisor, polynomials without double zeros. -/
theorem cancel {a b g : List Rat} (hg : trimR g ≠ []) (h : ∀ x, ev a x * ev g x = ev b x * ev g x) : ∀ x, ev a x = ev b x := by
 have h0 : trimR (subR a b) = [] := by
  by_cases q : trimR (subR a b) = []
  ·exact q
  ·obtain ⟨m1, _⟩ := mul_top (p := trimR (subR a b)) (q := trimR g) (trimR_idem _) (trimR_idem _) q hg
   have h1 : trimR (mulR (trimR (subR a b)) (trimR g)) = [] := ev_nil fun x => by
    have := h x
    rw [ev_mul, ev_trim, ev_trim, ev_sub]
    grind
   rw [mul_trim] at h1
   rw [h1, List.length_nil] at m1
   have := List.length_pos_iff.2 q
   have := List.length_pos_iff.2 hg
   omega
 intro x
 have h2 := ev_trim (subR a b) x
 rw [h0, ev_sub, ev] at h2
 grind
theorem exact_rest {u g U R : List Rat} (tg : trimR g = g) (tR : trimR R = R) (hd : Dv g u) (h : ∀ x, ev u x = ev U x * ev g x + ev R x) (hl : R.length < g.length) : R = [] := by
 obtain ⟨w, hw⟩ := hd
 by_cases h0 : R = []
 ·exact h0
 ·have := (dv_len tg tR h0 ⟨subR w U, fun x => by rw [ev_sub]; have h1 := h x; have h2 := hw x; grind⟩).2.1
  omega
theorem exact_mul {u g U : List Rat} (tu : trimR u = u) (h : ∀ x, ev u x = ev U x * ev g x) : mulR U g = u := ev_inj (trimR_idem _) tu fun x => by rw [ev_mul, h]
theorem isG_quot {p q g a b : List Rat} (hg : IsG p q g) (g0 : trimR g ≠ []) (hp : ∀ x, ev p x = ev a x * ev g x) (hq : ∀ x, ev q x = ev b x * ev g x) : IsG a b [1] := by
 obtain ⟨_, _, s, t, h⟩ := hg
 refine ⟨⟨a, fun x => by rw [ev, ev]; grind⟩, ⟨b, fun x => by rw [ev, ev]; grind⟩, s, t, fun x => ?_⟩
 have hc := cancel (a := [1]) (b := addR (mulR s a) (mulR t b)) g0 (fun x => by
  have h1 := h x
  rw [hp, hq] at h1
  rw [ev_add, ev_mul, ev_mul, ev, ev]
  grind) x
 rw [hc, ev_add, ev_mul, ev_mul]
theorem isG_mul {p q g : List Rat} (r : List Rat) (hg : IsG p q g) : IsG (mulR p r) (mulR q r) (mulR g r) := by
 obtain ⟨⟨u, h1⟩, ⟨v, h2⟩, s, t, h3⟩ := hg
 refine ⟨⟨u, fun x => by rw [ev_mul, ev_mul, h1]; grind⟩, ⟨v, fun x => by rw [ev_mul, ev_mul, h2]; grind⟩, s, t, fun x => by rw [ev_mul, ev_mul, ev_mul, h3]; grind⟩
theorem monic_same {u v : List Rat} {c : Rat} (tu : trimR u = u) (tv : trimR v = v) (hu : u ≠ []) (hc : c ≠ 0) (h : ∀ x, ev u x = c * ev v x) : monicR u = monicR v := by
 have e : u = scaleR v c := ev_inj tu (trimR_idem _) fun x => by rw [ev_scale, h, Rat.mul_comm]
 obtain ⟨_, s2⟩ := scale_facts tv hc
 have hl := last_ne tu hu
 rw [e, s2] at hl
 have hv : lastR v ≠ 0 := fun q => hl (by rw [q, Rat.zero_mul])
 have hi := Rat.mul_inv_cancel _ hv
 have hci := Rat.mul_inv_cancel _ hc
 have hlast : lastR u = lastR v * c := by rw [e, s2]
 refine ev_inj (trimR_idem _) (trimR_idem _) fun x => ?_
 rw [monicR, monicR, ev_scale, ev_scale, h, hlast, Rat.div_def, Rat.div_def, Rat.one_mul, Rat.one_mul]
 have e2 : (lastR v * c)⁻¹ = (lastR v)⁻¹ * c⁻¹ := by
  have h3 : lastR v * c ≠ 0 := fun q => (Rat.mul_eq_zero.1 q).elim hv hc
  have h4 := Rat.mul_inv_cancel _ h3
  have h5 : (lastR v * c) * ((lastR v)⁻¹ * c⁻¹) = 1 := by grind
  grind
 rw [e2]
 grind
/-! No double zeros. -/
def pL (h : List Rat) : Nat → List Rat
 | 0 => [1]
 | k + 1 => mulR (pL h k) h
theorem evD_pL (h : List Rat) (x : Rat) : ∀ k, ev h x * evD (pL h k) x = (k : Rat) * ev (pL h k) x * evD h x
 | 0 => by show _ * ((0 : Rat) + x * 0) = (0 : Rat) * _ * _; grind
 | k + 1 => by
  have ih := evD_pL h x k
  have e : evD (pL h (k + 1)) x = evD (pL h k) x * ev h x + ev (pL h k) x * evD h x := evD_mul (ev_mul (pL h k) h) x
  have e2 : ((k + 1 : Nat) : Rat) = (k : Rat) + 1 := by simp
  rw [e, e2, show pL h (k + 1) = mulR (pL h k) h from rfl, ev_mul]
  grind
theorem pL_dv {p G f h f1 w : List Rat} (hG : IsG p (deriveR p) G) (hp : ∀ x, ev p x = ev f x * ev G x) (hf : ∀ x, ev f x = ev f1 x * ev h x) (hw : ∀ x, evD f x = ev w x * ev h x) : ∀ k, Dv (pL h k) G
 | 0 => ⟨G, fun x => by show _ = _ * ((1 : Rat) + x * 0); grind⟩
 | k + 1 => by
  obtain ⟨Gk, hk⟩ := pL_dv hG hp hf hw k
  obtain ⟨_, _, s, t, hb⟩ := hG
  have h1 : ∀ x, evD p x = evD f x * ev G x + ev f x * evD G x := evD_mul hp
  have h2 : ∀ x, evD G x = evD Gk x * ev (pL h k) x + ev Gk x * evD (pL h k) x := evD_mul hk
  have h3 : ∀ x, evD f x = evD f1 x * ev h x + ev f1 x * evD h x := evD_mul hf
  -- what is left of p and of its derivative
  have hp2 : ∀ x, ev p x = ev (pL h (k + 1)) x * (ev f1 x * ev Gk x) := fun x => by
   show _ = ev (mulR (pL h k) h) x * _
   rw [hp, hf, hk, ev_mul]
   grind
  have hd2 : ∀ x, evD p x = ev (pL h (k + 1)) x * (ev w x * ev Gk x + (k : Rat) * ev Gk x * (ev w x - evD f1 x) + ev f1 x * evD Gk x) := fun x => by
   have e4 := evD_pL h x k
   have e5 := h3 x
   rw [hw] at e5
   show _ = ev (mulR (pL h k) h) x * _
   rw [h1, h2, hw, hf, hk, ev_mul]
   have e6 : ev f1 x * evD h x = (ev w x - evD f1 x) * ev h x := by grind
   have e7 : ev f1 x * ev h x * (ev Gk x * evD (pL h k) x) = ev Gk x * (k : Rat) * ev (pL h k) x * (ev f1 x * evD h x) := by
    have : ev f1 x * ev h x * (ev Gk x * evD (pL h k) x) = ev f1 x * ev Gk x * (ev h x * evD (pL h k) x) := by grind
    rw [this, e4]
    grind
   rw [Rat.mul_add (ev f1 x * ev h x), e7, e6]
   grind
  refine ⟨addR (mulR s (mulR f1 Gk)) (mulR t (addR (addR (mulR w Gk) (scaleR (mulR Gk (subR w (deriveR f1))) (k : Rat))) (mulR f1 (deriveR Gk)))), fun x => ?_⟩
  rw [hb, ev_derive, hp2, hd2]
  simp only [ev_add, ev_mul, ev_scale, ev_sub, ev_derive]
  grind
theorem pL_len {h : List Rat} (th : trimR h = h) (h2 : 2 ≤ h.length) : ∀ k, trimR (pL h k) = pL h k ∧ k + 1 ≤ (pL h k).length
 | 0 => ⟨by show trimR [1] = [1]; exact trim_of_last (.inr (by show (1 : Rat) ≠ 0; decide)), Nat.le_refl _⟩
 | k + 1 => by
  obtain ⟨h3, h4⟩ := pL_len th h2 k
  refine ⟨trimR_idem _, ?_⟩
  show _ ≤ (mulR (pL h k) h).length
  have e := (mul_top h3 th (fun q => by rw [q, List.length_nil] at h4; omega) (fun q => by rw [q, List.length_nil] at h2; omega)).1
  omega
theorem no_double {p G f H : List Rat} (hG : IsG p (deriveR p) G) (tG : trimR G = G) (G0 : G ≠ []) (hp : ∀ x, ev p x = ev f x * ev G x) (tH : trimR H = H) (H0 : H ≠ []) (hH : IsG f (deriveR f) H) (hl : lastR H = 1) : H = [1] := by
 obtain ⟨⟨f1, hf⟩, ⟨w, hw⟩, _⟩ := hH
 have hw' : ∀ x, evD f x = ev w x * ev H x := fun x => by rw [← ev_derive, hw]
 rcases Nat.lt_or_ge H.length 2 with h2 | h2
 ·have h1 : H.length = 1 := by have := List.length_pos_iff.2 H0; omega
  obtain ⟨c, rfl⟩ := List.length_eq_one_iff.1 h1
  have : c = 1 := hl
  rw [this]
 ·obtain ⟨t1, t2⟩ := pL_len tH h2 G.length
  have := (dv_len t1 tG G0 (pL_dv hG hp hf hw' G.length)).2.1
  omega
theorem lastR_one : lastR [(1 : Rat)] = 1 := rfl
theorem trim_one : trimR [(1 : Rat)] = [1] := trim_of_last (.inr (by show (1 : Rat) ≠ 0; decide))
theorem isG_square {p G : List Rat} (hG : IsG p (deriveR p) G) : IsG (mulR p p) (deriveR (mulR p p)) (mulR p G) := by
 obtain ⟨⟨f, h1⟩, ⟨w, h2⟩, s, t, h3⟩ := hG
 have hd : ∀ x, ev (deriveR (mulR p p)) x = 2 * ev p x * ev (deriveR p) x := fun x => by
  rw [ev_derive, evD_mul (ev_mul p p), ev_derive]
  grind
 refine ⟨⟨f, fun x => by rw [ev_mul, ev_mul]; have := h1 x; grind⟩, ⟨scaleR w 2, fun x => by rw [hd, ev_mul, ev_scale, h2]; grind⟩, s, scaleR t (1 / 2), fun x => ?_⟩
 have e : (1 : Rat) / 2 * 2 = 1 := by decide +kernel
 rw [hd, ev_mul, ev_mul, ev_scale, h3]
 grind
theorem CV.seqJ {P : Program} {cx : Cx Dm} {n : Nat} {x y : Code} {l l' : Sg Dm} {K : Exit → Sg Dm → Prop} (h : CV P cx n x l (ThenK (fun l1 => Sub l1 l') K)) (h2 : CV P cx n y l' K) : CV P cx n (.seq x y) l K :=
 CV.seq (h.mono fun e l1 h3 => by
  cases e with
  | normal => exact CV.sub h3 h2
  | _ => exact h3)
section
variable {u v G U R F : List Rat}
theorem two_up {L : Nat → Prop} {ρ : Rho} {w : World} {vs : List Value} (hu : szR u 100000 = true) (hv : szR v 100000 = true) (h : isAll L ρ w [PL u 200, PL v 200] vs) : isAll L ρ w [PL u 100000, PL v 100000] vs := by
 match vs, h with
 | [v0, v1], ⟨h0, h1, h2⟩ => exact ⟨pl_le hu _ _ _ _ h0, pl_le hv _ _ _ _ h1, h2⟩
theorem PGcdK (hu : szR u 100000 = true) (hv : szR v 100000 = true) (hl : u.length ≤ 1000) (hm : v.length ≤ 1000) (h : gcdS 100000 u v = some G) (hG : szR G 200 = true) : Con Tryz.prog 37 [PL u 200, PL v 200] (.one (PL G 200)) :=
 (PGcd_con u v G 100000 (by decide) (by omega) (by omega) h).mono (fun _ _ _ _ h => two_up hu hv h) (pl_le1 hG)
theorem PDivK (hu : szR u 100000 = true) (hv : szR v 100000 = true) (hl : u.length ≤ 1000) (hm : v.length ≤ 1000) (h : divS 100000 u v = some (U, R)) (hU : szR U 200 = true) (hR : szR R 200 = true) : Con Tryz.prog 35 [PL u 200, PL v 200] (.tup [PL U 200, PL R 200]) :=
 (PDiv_con u v 100000 (by decide) (by omega) (by omega) h).mono (fun _ _ _ _ h => two_up hu hv h) (is_pair (pl_le hU) (pl_le hR))
theorem PFreeK (hu : szR u 100000 = true) (hl : u.length ≤ 1000) (h : freeS 100000 u = some F) (hF : szR F 200 = true) : Con Tryz.prog 39 [PL u 200] (.one (PL F 200)) :=
 (PFree_con u F 100000 (by decide) (by omega) h).mono (fun _ _ _ vs h => by
  match vs, h with
  | [v0], ⟨h0, h1⟩ => exact ⟨pl_le hu _ _ _ _ h0, h1⟩) (pl_le1 hF)
variable {c d n m : Nat}
theorem PMulK (t : Nat) (hp : Pk u c n) (hq : Pk v d m) (ht : n + m ≤ 2 ^ t) (he : c + d + t ≤ 5800) (hn : n ≤ 1000) (hm : m ≤ 1000) (hM : min n m ≤ 7) : Con Tryz.prog 25 [PL u 200, PL v 200] (.one (PL (mulR u v) 200)) := by
 have h2 := hp.len
 have h3 := hq.len
 by_cases h0 : v = []
 ·subst h0
  rw [mul_nil]
  exact PMul0_con u 200 200 (by omega) (by decide)
 ·have hql := List.length_pos_iff.2 h0
  refine PMul_con u v 200 7 200 hql (by omega) (by omega) (by decide) (by omega) (by decide) (sz_tabs fun k _ => ?_)
  rw [mul_cv hql]
  obtain ⟨M, m1, m2, m3⟩ := hp.cb.cv hq.cb (t := t) (by omega)
  obtain ⟨z, z1, z2⟩ := m3 k
  exact sz_few (by decide) he ⟨z, M, m1, z1, z2, m2⟩
theorem PDeriveK (t : Nat) (hp : Pk u c n) (ht : n ≤ 2 ^ t) (he : c + t ≤ 5800) (hn : n ≤ 1000) : Con Tryz.prog 31 [PL u 200] (.one (PL (deriveR u) 200)) :=
 (PDerive_con u 200 (by decide) (by have := hp.len; omega)).mono (fun _ _ _ _ h => h) (pl_le1 ((hp.derive t ht).sz (by decide) he))
end
theorem gcd_any {u v : List Rat} {c d n m : Nat} (M Q : Nat) (hu : Pk u c n) (hv : Pk v d m) (hn : n ≤ M) (hm : m ≤ M) (hc : c ≤ 2900000) (hd : d ≤ 2900000) (hQ : 5 * (c + 1) + 7 * (d + 1) ≤ Q) (hZ : Q * 5 ^ M ≤ 2 * 5 * 2 ^ (M - 1) * (29 * 100000)) : ∃ G, gcdS 100000 u v = some G ∧ trimR G = G ∧ (u ≠ [] ∨ v ≠ [] → G ≠ [] ∧ lastR G = 1 ∧ IsG u v G) ∧ (u = [] ∧ v = [] → G = []) := by
 have h1 := hu.len
 have h2 := hv.len
 obtain ⟨G, e, g1, _, g3, g4, g5, _, _, _⟩ := gcd_both (B := 100000) (M := M) (Q := Q) (by decide) hu.tr hv.tr (by omega) (by omega) hu.cb hv.cb (by omega) (by omega) (by unfold gcdQ; split <;> omega) hZ
 exact ⟨G, g1, g3, g4, g5⟩
theorem div_exact {u g : List Rat} {c d n m : Nat} (hu : Pk u c n) (hg : Pk g d m) (g0 : g ≠ []) (hd : Dv g u) (hc : c + (n + 1) * (d + 1) + d ≤ 29000) : ∃ U, divS 100000 u g = some (U, []) ∧ Pk U (c + (n + 1) * (d + 1) + d) n ∧ (∀ x, ev u x = ev U x * ev g x) ∧ mulR U g = u := by
 have hl := hu.len
 have hgl := List.length_pos_iff.2 g0
 have he : divE u g c d ≤ c + (n + 1) * (d + 1) + d := by
  unfold divE
  have := Nat.mul_le_mul_right (d + 1) (show u.length + 1 - g.length ≤ n + 1 by omega)
  omega
 obtain ⟨U, R, h1, h2, h3, h4, h5, h6, h7, h8⟩ := divS_spec (B := 100000) (by decide) hu.tr hg.tr g0 hu.cb hg.cb (by omega)
 obtain rfl := exact_rest hg.tr h3 hd h6 h4
 have h9 : ∀ x, ev u x = ev U x * ev g x := fun x => by rw [h6, ev, Rat.add_zero]
 exact ⟨U, h1, ⟨h7.mono he, h2, by omega⟩, h9, exact_mul hu.tr h9⟩
theorem two_facts {p q g : List Rat} (hp : Pk p 33 6) (hq : Pk q 33 6) (hne : p ≠ [] ∨ q ≠ []) (tg : trimR g = g) (g0 : g ≠ []) (gl : lastR g = 1) (hg : IsG p q g) : Pk g 471 6 ∧ ∃ a b, divS 100000 p g = some (a, []) ∧ divS 100000 q g = some (b, []) ∧ Pk a 3808 6 ∧ Pk b 3808 6 ∧ mulR a g = p ∧ mulR b g = q ∧ gcdS 100000 a b = some [1] := by
 have hG : Pk g 471 6 := by
  by_cases h0 : p = []
  ·have h1 : q ≠ [] := hne.resolve_left (fun e => e h0)
   exact pk_div hq h1 (by decide) tg gl hg.2.1
  ·exact pk_div hp h0 (by decide) tg gl hg.1
 obtain ⟨a, a1, a2, a3, a4⟩ := div_exact hp hG g0 hg.1 (by decide)
 obtain ⟨b, b1, b2, b3, b4⟩ := div_exact hq hG g0 hg.2.1 (by decide)
 have hz : ∀ {r s : List Rat}, trimR r = r → r ≠ [] → (∀ x, ev r x = ev s x * ev g x) → s ≠ [] := fun tr r0 h => by
  rintro rfl
  exact trim_nz tr r0 (ev_nil fun x => by rw [h, ev, Rat.zero_mul])
 have hab : a ≠ [] ∨ b ≠ [] := hne.imp (fun h => hz hp.tr h a3) (fun h => hz hq.tr h b3)
 obtain ⟨G, k1, k2, k3, _⟩ := gcd_any 6 45708 a2 b2 (by decide) (by decide) (by decide) (by decide) (by decide) (by decide)
 obtain ⟨k4, k5, k6⟩ := k3 hab
 have h1 := isG_quot hg (trim_nz tg g0) a3 b3
 have e : G = [1] := isG_unique k6 h1 k2 trim_one k4 (by rw [k5, lastR_one])
 rw [e] at k1
 exact ⟨hG, a, b, a1, b1, a2, b2, a4, b4, k1⟩
theorem mulR_facts {p q g r : List Rat} (hp : Pk p 33 6) (hq : Pk q 33 6) (hr : Pk r 33 3) (r0 : r ≠ []) (hne : p ≠ [] ∨ q ≠ []) (tg : trimR g = g) (g0 : g ≠ []) (hg : IsG p q g) : gcdS 100000 (mulR p r) (mulR q r) = some (monicR (mulR g r)) := by
 have nz : ∀ {s : List Rat}, trimR s = s → s ≠ [] → mulR s r ≠ [] := fun ts s0 e => by
  have := (mul_top ts hr.tr s0 r0).1
  rw [e, List.length_nil] at this
  have := List.length_pos_iff.2 s0
  have := List.length_pos_iff.2 r0
  omega
 have hpr : Pk (mulR p r) 70 8 := hp.mul 4 hr (by decide)
 have hqr : Pk (mulR q r) 70 8 := hq.mul 4 hr (by decide)
 obtain ⟨G, k1, k2, k3, _⟩ := gcd_any 8 852 hpr hqr (by decide) (by decide) (by decide) (by decide) (by decide) (by decide)
 obtain ⟨k4, k5, k6⟩ := k3 (hne.imp (nz hp.tr) (nz hq.tr))
 obtain ⟨m1, m2, m3, c, m4, m5⟩ := monic_facts (mul_trim g r) (nz tg g0)
 have h1 := (isG_mul r hg).res m4 m5
 have e : G = monicR (mulR g r) := isG_unique k6 h1 k2 m1 k4 (by rw [k5, m3])
 rw [k1, e]
theorem free_all {p : List Rat} (hp : Pk p 33 6) : ∃ f, freeS 100000 p = some f ∧ Pk f 471 6 ∧ (p = [] → f = []) ∧ (p ≠ [] → f ≠ [] ∧ (∃ U, divS 100000 p f = some (U, []) ∧ Pk U 3808 6) ∧ gcdS 100000 f (deriveR f) = some [1] ∧ freeS 100000 (mulR p p) = some f) := by
 obtain ⟨G, U, R, f1, _, f3, f4, f5, f6, f7, f8, f9, f10, f11⟩ := free_facts hp (by decide) (by decide) (by decide)
 have hdz : szR (deriveR p) 100000 = true := (hp.derive 4 (by decide)).sz (by decide) (by decide)
 have hF := freeS_ok hdz f1 f6 f4 f8 f9
 by_cases h0 : p = []
 ·have hU := f11 h0
  subst hU
  exact ⟨[], hF, Pk.nil.mono (by decide) (by decide), fun _ => rfl, fun h => absurd h0 h⟩
 ·obtain ⟨hG, G0, gl, tR, hRl, hdiv⟩ := f10 h0
  obtain rfl := exact_rest f3 tR hG.1 hdiv hRl
  have hpU : ∀ x, ev p x = ev U x * ev G x := fun x => by rw [hdiv, ev, Rat.add_zero]
  have hU0 : U ≠ [] := by
   rintro rfl
   exact trim_nz hp.tr h0 (ev_nil fun x => by rw [hpU, ev, Rat.zero_mul])
  obtain ⟨m1, m2, m3, c, m4, m5⟩ := monic_facts f7 hU0
  have hF0 : monicR U ≠ [] := fun e => by rw [e, List.length_nil] at m2; exact hU0 (List.eq_nil_of_length_eq_zero m2.symm)
  have hci := Rat.inv_mul_cancel c m4
  have hdv : Dv (monicR U) p := ⟨scaleR G c⁻¹, fun x => by rw [ev_scale, m5, hpU]; grind⟩
  have hf := pk_div hp h0 (by decide) m1 m3 hdv
  obtain ⟨V, v1, v2, _, _⟩ := div_exact hp hf hF0 hdv (by decide)
  -- no zero twice
  obtain ⟨H, k1, k2, k3, _⟩ := gcd_any 6 5700 hf (hf.derive 3 (by decide)) (by decide) (by decide) (by decide) (by decide) (by decide) (by decide)
  obtain ⟨k4, k5, k6⟩ := k3 (.inl hF0)
  have hH : H = [1] := no_double hG f3 G0 (f := U) hpU k2 k4 ((k6.left (p := U) m4 m5).right (q := deriveR U) m4 fun x => by
   rw [ev_derive, ev_derive]
   have : ∀ y, ev (monicR U) y = ev (scaleR U c) y := fun y => by rw [m5, ev_scale, Rat.mul_comm]
   rw [evD_eq this, evD_scale, Rat.mul_comm]) k5
  rw [hH] at k1
  -- the square
  have hpp : Pk (mulR p p) 70 11 := hp.mul 4 hp (by decide)
  have hpp0 : mulR p p ≠ [] := fun e => by
   have := (mul_top hp.tr hp.tr h0 h0).1
   rw [e, List.length_nil] at this
   have := List.length_pos_iff.2 h0
   omega
  obtain ⟨G2, U2, R2, s1, _, s3, s4, s5, s6, s7, s8, s9, s10, _⟩ := free_facts hpp (by decide) (by decide) (by decide)
  obtain ⟨hG2, G20, g2l, tR2, hRl2, hdiv2⟩ := s10 hpp0
  obtain rfl := exact_rest s3 tR2 hG2.1 hdiv2 hRl2
  have hdz2 : szR (deriveR (mulR p p)) 100000 = true := (hpp.derive 4 (by decide)).sz (by decide) (by decide)
  have hF2 := freeS_ok hdz2 s1 s6 s4 s8 s9
  have hpG0 : mulR p G ≠ [] := fun e => by
   have := (mul_top hp.tr f3 h0 G0).1
   rw [e, List.length_nil] at this
   have := List.length_pos_iff.2 h0
   have := List.length_pos_iff.2 G0
   omega
  obtain ⟨n1, n2, n3, b, n4, n5⟩ := monic_facts (mul_trim p G) hpG0
  have hG2e : G2 = monicR (mulR p G) := isG_unique hG2 ((isG_square hG).res n4 n5) s3 n1 G20 (by rw [g2l, n3])
  have hbi := Rat.inv_mul_cancel b n4
  have hU2 : ∀ x, ev U2 x = b⁻¹ * ev U x := fun x => by
   have h1 := cancel (a := U2) (b := scaleR U b⁻¹) (g := mulR p G) (trim_nz (mul_trim p G) hpG0) (fun y => by
    have h2 := hdiv2 y
    rw [ev_mul, hG2e, n5, ev_mul, ev, Rat.add_zero] at h2
    have h3 := hpU y
    rw [ev_mul, ev_scale]
    have h4 : ev U2 y * (ev p y * ev G y) = b⁻¹ * (ev U2 y * (b * (ev p y * ev G y))) := by grind
    rw [h4, ← h2]
    grind) x
   rw [h1, ev_scale, Rat.mul_comm]
  have hbi0 : b⁻¹ ≠ 0 := fun e => by rw [e, Rat.zero_mul] at hbi; exact absurd hbi (by decide)
  have hU20 : U2 ≠ [] := by
   rintro rfl
   exact trim_nz hpp.tr hpp0 (ev_nil fun x => by rw [hdiv2, ev, Rat.zero_mul, Rat.add_zero])
  have hmm : monicR U2 = monicR U := monic_same s7 f7 hU20 hbi0 hU2
  rw [hmm] at hF2
  exact ⟨monicR U, hF, hf, fun h => absurd h h0, fun _ => ⟨hF0, ⟨V, v1, v2⟩, k1, hF2⟩⟩
end Vc
end Go.Proofs.YtcblbepaigdlgaaGreat

namespace Go.Proofs.YtcblbepaigdlgaaGreat
open Go.RowKit
open Go.Lib (hid)
open Dg Zn
namespace Vc
set_option maxRecDepth 100000

theorem one_of : ([1] : List Rat) = ofR [1] := by decide +kernel
section
variable (zs1 zs2 zs3 : List Int) (hz1 : ∀ z ∈ zs1, -9223372036854775808 ≤ z ∧ z ≤ 9223372036854775807) (hz2 : ∀ z ∈ zs2, -9223372036854775808 ≤ z ∧ z ≤ 9223372036854775807) (hz3 : ∀ z ∈ zs3, -9223372036854775808 ≤ z ∧ z ≤ 9223372036854775807)
include hz1 hz2 hz3
theorem pdivisors_con : Con Tryz.prog 8 [.d (Dm.ints zs1), .d (Dm.ints zs2), .d (Dm.ints zs3)] (.one (.v (.bool true))) := by
 have hp := pk_poly zs1
 have hq := pk_poly zs2
 have hr := pk_poly zs3
 have k1 := (rPoly_con zs1 hz1).mono (fun _ _ _ _ h => h) (pl_le1 (B := 200) (hp.sz (by decide) (by decide)))
 have k2 := (rPoly_con zs2 hz2).mono (fun _ _ _ _ h => h) (pl_le1 (B := 200) (hq.sz (by decide) (by decide)))
 have k3 := (rPoly_con zs3 hz3).mono (fun _ _ _ _ h => h) (pl_le1 (B := 200) (hr.sz (by decide) (by decide)))
 generalize polyR zs1 = p at *
 generalize polyR zs2 = q at *
 generalize polyR zs3 = r at *
 obtain ⟨r1, hr1⟩ : ∃ r1 : List Rat, r1 = if 3 < r.length then [] else r := ⟨_, rfl⟩
 have hr3 : Pk r1 33 3 := by rw [hr1]; split; exact Pk.nil.mono (by decide) (by decide); exact ⟨hr.cb, hr.tr, by omega⟩
 have hpl := hp.len
 have hql := hq.len
 have hrl := hr.len
 have hr3l := hr3.len
 obtain ⟨G, g1, g2, g3, g4⟩ := gcd_any 6 408 hp hq (by decide) (by decide) (by decide) (by decide) (by decide) (by decide)
 have hG : Pk G 471 6 := by by_cases h0 : p = [] ∧ q = []; rw [g4 h0]; exact Pk.nil.mono (by decide) (by decide); have h1 : p ≠ [] ∨ q ≠ [] := (by by_cases hp0 : p = []; exact .inr fun hq0 => h0 ⟨hp0, hq0⟩; exact .inl hp0); obtain ⟨o1, o2, o3⟩ := g3 h1; exact (two_facts hp hq h1 g2 o1 o2 o3).1
 have hGl := hG.len
 obtain ⟨f, f1, hf, f2, f3⟩ := free_all hp
 have hfl := hf.len
 have zp : szR p 100000 = true := hp.sz (by decide) (by decide)
 have zq : szR q 100000 = true := hq.sz (by decide) (by decide)
 have zG : szR G 100000 = true := hG.sz (by decide) (by decide)
 have zf : szR f 100000 = true := hf.sz (by decide) (by decide)
 refine Con.of (n := 153) Tryz.func8 rfl rfl rfl rfl rfl fun cx hfr => ?_
 refine sr rfl ?_
 refine mr rfl rfl bd rfl ?_
 refine RV.done (sr rfl ?_)
 refine ml rfl rfl bd rfl ?_
 refine p1 (ok_call k1 rfl rfl bd Tryz.func10 rfl rfl (.cons rfl ⟨rfl, ints_ziP⟩ .nil) rfl hfr rfl) ?_
 refine mr rfl rfl bd rfl ?_
 refine RV.done (sr rfl ?_)
 refine ml rfl rfl bd rfl ?_
 refine p1 (ok_call k2 rfl rfl bd Tryz.func10 rfl rfl (.cons rfl ⟨rfl, ints_ziP⟩ .nil) rfl hfr rfl) ?_
 refine mr rfl rfl bd rfl ?_
 refine RV.done (sr rfl ?_)
 refine ml rfl rfl bd rfl ?_
 refine p1 (ok_call k3 rfl rfl bd Tryz.func10 rfl rfl (.cons rfl ⟨rfl, ints_ziP⟩ .nil) rfl hfr rfl) ?_
 refine mr rfl rfl bd rfl ?_
 refine RV.done ?_
 refine CV.seqJ (l' := [(.s 9, .av (.one (PL r1 200))), (.s 8, .av (.one (PL q 200))), (.s 7, .av (.one (PL p 200)))]) ?_ ?_
 ·refine sr rfl ?_
  refine ml rfl rfl bd rfl ?_
  refine p1 (ok_lenL plV_length u_poly rfl rfl bd rfl) ?_
  refine p1 (ok_gtr rfl rfl bd rfl rfl) ?_
  refine RV.done ?_
  refine CV.cond rfl (fun hc => ?_) (fun hc => ?_)
  ·refine CV.region rfl (fun h => nomatch h) ?_
   refine ml rfl rfl bd rfl ?_
   refine p1 (ok_cutL (k := some 4) (l' := plV [] 200) none (some 0) none rfl bd (Nat.zero_le _) (Nat.zero_le _) (Nat.le_refl _) (fun h => nomatch h) u_poly sz_rat rfl rfl bd rfl trivial rfl trivial) ?_
   refine mr rfl rfl bd rfl ?_
   refine RV.done ?_
   show Sub _ _
   exact Sub.mk ⟨by first | (rw [hr1, if_pos (by have := of_decide_eq_true hc; omega)]; exact XV.le_rfl _) | (rw [hr1, if_neg (by have := of_decide_eq_false hc; omega)]; exact XV.le_rfl _), XV.le_rfl _, XV.le_rfl _, trivial⟩ rfl rfl
  ·refine CV.skip ?_
   show Sub _ _
   exact Sub.mk ⟨by first | (rw [hr1, if_pos (by have := of_decide_eq_true hc; omega)]; exact XV.le_rfl _) | (rw [hr1, if_neg (by have := of_decide_eq_false hc; omega)]; exact XV.le_rfl _), XV.le_rfl _, XV.le_rfl _, trivial⟩ rfl rfl
 ·refine sr rfl ?_
  refine ml rfl rfl bd rfl ?_
  refine ml rfl rfl bd rfl ?_
  refine p1 (ok_call (PGcdK zp zq (by omega) (by omega) g1 (hG.sz (by decide) (by decide))) rfl rfl bd Tryz.func37 rfl rfl (.cons rfl Conv.any (.cons rfl Conv.any .nil)) rfl hfr rfl) ?_
  refine mr rfl rfl bd rfl ?_
  refine RV.done ?_
  refine CV.seq ?_
  refine sr rfl ?_
  refine ml rfl rfl bd rfl ?_
  refine p1 (ok_lenL plV_length u_poly rfl rfl bd rfl) ?_
  refine ml rfl rfl bd rfl ?_
  refine p1 (ok_lenL plV_length u_poly rfl rfl bd rfl) ?_
  refine p1 (ok_add (c := ((p.length + q.length : Nat) : Int)) (by rw [wrapI (by omega) (by omega)]; omega) rfl rfl bd rfl rfl) ?_
  refine p1 (ok_eql rfl rfl bd rfl rfl) ?_
  refine RV.done ?_
  refine CV.cond rfl (fun h37 => ?_) (fun h37 => ?_)
  ·have hpq0 : p = [] ∧ q = [] := (by rw [beq_iff_eq] at h37; exact ⟨List.eq_nil_of_length_eq_zero (by omega), List.eq_nil_of_length_eq_zero (by omega)⟩)
   have hG0 : G.length = 0 := (by rw [g4 hpq0]; rfl)
   refine sr rfl ?_
   refine ml rfl rfl bd rfl ?_
   refine p1 (ok_lenL plV_length u_poly rfl rfl bd rfl) ?_
   refine p1 (ok_eqlT (by rw [hG0]; rfl) rfl rfl bd rfl rfl) ?_
   refine ml rfl rfl bd rfl ?_
   refine RV.step1 (OpOk.yes (ok_call (lives6_con) rfl rfl bd Tryz.func17 rfl rfl .nil rfl hfr rfl) rfl rfl rfl) ?_
   refine p1 (ok_pickT rfl rfl bd rfl rfl rfl) ?_
   refine mr rfl rfl bd rfl ?_
   refine RV.done ?_
   refine CV.ret ?_
   exact fin1 rfl (.inr rfl) rfl is_rfl
  ·have hne : p ≠ [] ∨ q ≠ [] := (by rw [beq_eq_false_iff_ne] at h37; by_cases hp0 : p = []; exact .inr (fun hq0 => h37 (by rw [hp0, hq0]; rfl)); exact .inl hp0)
   obtain ⟨G0, gl, hg⟩ := g3 hne
   obtain ⟨-, a, b, a1, b1, ha, hb, ha2, hb2, hab⟩ := two_facts hp hq hne g2 G0 gl hg
   have hal := ha.len
   have hbl := hb.len
   have hGp := List.length_pos_iff.2 G0
   have za : szR a 100000 = true := ha.sz (by decide) (by decide)
   have zb : szR b 100000 = true := hb.sz (by decide) (by decide)
   refine CV.skip ?_
   refine sr rfl ?_
   refine ml rfl rfl bd rfl ?_
   refine ml rfl rfl bd rfl ?_
   refine p1 (ok_call (PDivK zp zG (by omega) (by omega) a1 (ha.sz (by decide) (by decide)) rfl) rfl rfl bd Tryz.func35 rfl rfl (.cons rfl Conv.any (.cons rfl Conv.any .nil)) rfl hfr rfl) ?_
   refine ml rfl rfl bd rfl ?_
   refine p1 (ok_extract rfl rfl bd rfl rfl) ?_
   refine p1 (ok_extract rfl rfl bd rfl rfl) ?_
   refine mr rfl rfl bd rfl ?_
   refine mr rfl rfl bd rfl ?_
   refine RV.done (sr rfl ?_)
   refine ml rfl rfl bd rfl ?_
   refine ml rfl rfl bd rfl ?_
   refine p1 (ok_call (PDivK zq zG (by omega) (by omega) b1 (hb.sz (by decide) (by decide)) rfl) rfl rfl bd Tryz.func35 rfl rfl (.cons rfl Conv.any (.cons rfl Conv.any .nil)) rfl hfr rfl) ?_
   refine ml rfl rfl bd rfl ?_
   refine p1 (ok_extract rfl rfl bd rfl rfl) ?_
   refine p1 (ok_extract rfl rfl bd rfl rfl) ?_
   refine mr rfl rfl bd rfl ?_
   refine mr rfl rfl bd rfl ?_
   refine RV.done ?_
   refine CV.seq ?_
   refine sr rfl ?_
   refine ml rfl rfl bd rfl ?_
   refine p1 (ok_lenL plV_length u_poly rfl rfl bd rfl) ?_
   refine p1 (ok_eqlB (r := false) (by rw [beq_eq_false_iff_ne]; omega) rfl rfl bd rfl rfl) ?_
   refine ml rfl rfl bd rfl ?_
   refine RV.step1 (OpOk.yes (ok_move (.inl rfl) rfl bd rfl) rfl rfl rfl) ?_
   refine RV.step1 (OpOk.yes (ok_lenL plV_length u_poly rfl rfl bd rfl) rfl rfl rfl) ?_
   refine RV.step1 (OpOk.yes (ok_move (.inl rfl) rfl bd rfl) rfl rfl rfl) ?_
   refine RV.step1 (OpOk.yes (ok_lenL plV_length u_poly rfl rfl bd rfl) rfl rfl rfl) ?_
   refine RV.step1 (OpOk.yes (ok_add (c := 0) rfl rfl rfl bd rfl rfl) rfl rfl rfl) ?_
   refine RV.step1 (OpOk.yes (ok_gtrB (r := false) (by decide) rfl rfl bd rfl rfl) rfl rfl rfl) ?_
   refine p1 (ok_pickF rfl rfl bd rfl rfl rfl) ?_
   refine ml rfl rfl bd rfl ?_
   refine RV.step1 (OpOk.yes (ok_move (.inl rfl) rfl bd rfl) rfl rfl rfl) ?_
   refine RV.step1 (OpOk.yes (ok_move (.inl rfl) rfl bd rfl) rfl rfl rfl) ?_
   refine RV.step1 (OpOk.yes (ok_call (PMulK 4 ha hG (by decide) (by decide) (by decide) (by decide) (by decide)) rfl rfl bd Tryz.func25 rfl rfl (.cons rfl Conv.any (.cons rfl Conv.any .nil)) rfl hfr rfl) rfl rfl rfl) ?_
   refine RV.step1 (OpOk.yes (ok_move (.inl rfl) rfl bd rfl) rfl rfl rfl) ?_
   refine RV.step1 (OpOk.yes (ok_call (rSameW ha2 (by have := mulR_len a G; omega)) rfl rfl bd Tryz.func13 rfl rfl (.cons rfl Conv.any (.cons rfl Conv.any .nil)) rfl hfr rfl) rfl rfl rfl) ?_
   refine RV.step1 (OpOk.yes (ok_not rfl rfl bd rfl) rfl rfl rfl) ?_
   refine p1 (ok_pickF rfl rfl bd rfl rfl rfl) ?_
   refine ml rfl rfl bd rfl ?_
   refine RV.step1 (OpOk.yes (ok_move (.inl rfl) rfl bd rfl) rfl rfl rfl) ?_
   refine RV.step1 (OpOk.yes (ok_move (.inl rfl) rfl bd rfl) rfl rfl rfl) ?_
   refine RV.step1 (OpOk.yes (ok_call (PMulK 4 hb hG (by decide) (by decide) (by decide) (by decide) (by decide)) rfl rfl bd Tryz.func25 rfl rfl (.cons rfl Conv.any (.cons rfl Conv.any .nil)) rfl hfr rfl) rfl rfl rfl) ?_
   refine RV.step1 (OpOk.yes (ok_move (.inl rfl) rfl bd rfl) rfl rfl rfl) ?_
   refine RV.step1 (OpOk.yes (ok_call (rSameW hb2 (by have := mulR_len b G; omega)) rfl rfl bd Tryz.func13 rfl rfl (.cons rfl Conv.any (.cons rfl Conv.any .nil)) rfl hfr rfl) rfl rfl rfl) ?_
   refine RV.step1 (OpOk.yes (ok_not rfl rfl bd rfl) rfl rfl rfl) ?_
   refine p1 (ok_pickF rfl rfl bd rfl rfl rfl) ?_
   refine ml rfl rfl bd rfl ?_
   refine RV.step1 (OpOk.yes (ok_move (.inl rfl) rfl bd rfl) rfl rfl rfl) ?_
   refine RV.step1 (OpOk.yes (ok_move (.inl rfl) rfl bd rfl) rfl rfl rfl) ?_
   refine RV.step1 (OpOk.yes (ok_call (PGcdK za zb (by omega) (by omega) hab (by decide +kernel)) rfl rfl bd Tryz.func37 rfl rfl (.cons rfl Conv.any (.cons rfl Conv.any .nil)) rfl hfr rfl) rfl rfl rfl) ?_
   refine RV.step1 (OpOk.yes (ok_litD (G := Dm.gen (lstG none (ziV .i64 [1]))) (ss := ziV .i64 [1]) (lstG_Lst none _) u_ints zs_i64 rfl rfl rfl ziV_kinds rfl rfl rfl bd (.cons rfl Conv.any .nil)) rfl rfl rfl) ?_
   refine RV.step1 (OpOk.yes (ok_call (isT [1] 200 [1] one_of (by decide) (by intro i; exact small_zs _ (by decide) i) (by decide)) rfl rfl bd Tryz.func44 rfl rfl (.cons rfl Conv.any (.cons rfl Conv.any .nil)) rfl hfr rfl) rfl rfl rfl) ?_
   refine RV.step1 (OpOk.yes (ok_not rfl rfl bd rfl) rfl rfl rfl) ?_
   refine p1 (ok_pickF rfl rfl bd rfl rfl rfl) ?_
   refine RV.done ?_
   refine CV.no rfl ?_
   refine CV.skip ?_
   refine CV.seqJ (l' := [(.s 7, .av (.one (PL p 200)))]) ?_ ?_
   ·refine sr rfl ?_
    refine ml rfl rfl bd rfl ?_
    refine p1 (ok_lenL plV_length u_poly rfl rfl bd rfl) ?_
    refine p1 (ok_gtr rfl rfl bd rfl rfl) ?_
    refine ml rfl rfl bd rfl ?_
    refine RV.bool (fun h93 => ?_) (fun h93 => ?_)
    ·have r0 : r1 ≠ [] := (by have := of_decide_eq_true h93; exact List.length_pos_iff.1 (by omega))
     have hmr := mulR_facts hp hq hr3 r0 hne g2 G0 hg
     have hgr : Pk (mulR G r1) 508 8 := hG.mul 4 hr3 (by decide)
     have hpr : Pk (mulR p r1) 70 8 := hp.mul 4 hr3 (by decide)
     have hqr : Pk (mulR q r1) 70 8 := hq.mul 4 hr3 (by decide)
     have zpr : szR (mulR p r1) 100000 = true := hpr.sz (by decide) (by decide)
     have zqr : szR (mulR q r1) 100000 = true := hqr.sz (by decide) (by decide)
     have l1 := hpr.len
     have l2 := hqr.len
     have l3 := hgr.len
     obtain ⟨-, -, m3, -⟩ := monic_any hgr.tr hgr.cb
     have zm : szR (monicR (mulR G r1)) 200 = true := m3.sz (by decide) (by decide)
     have lm := monicR_len (mulR G r1)
     refine RV.step1 (OpOk.yes (ok_move (.inl rfl) rfl bd rfl) rfl rfl rfl) ?_
     refine RV.step1 (OpOk.yes (ok_move (.inl rfl) rfl bd rfl) rfl rfl rfl) ?_
     refine RV.step1 (OpOk.yes (ok_call (PMulK 4 hp hr3 (by decide) (by decide) (by decide) (by decide) (by decide)) rfl rfl bd Tryz.func25 rfl rfl (.cons rfl Conv.any (.cons rfl Conv.any .nil)) rfl hfr rfl) rfl rfl rfl) ?_
     refine RV.step1 (OpOk.yes (ok_move (.inl rfl) rfl bd rfl) rfl rfl rfl) ?_
     refine RV.step1 (OpOk.yes (ok_move (.inl rfl) rfl bd rfl) rfl rfl rfl) ?_
     refine RV.step1 (OpOk.yes (ok_call (PMulK 4 hq hr3 (by decide) (by decide) (by decide) (by decide) (by decide)) rfl rfl bd Tryz.func25 rfl rfl (.cons rfl Conv.any (.cons rfl Conv.any .nil)) rfl hfr rfl) rfl rfl rfl) ?_
     refine RV.step1 (OpOk.yes (ok_call (PGcdK zpr zqr (by omega) (by omega) hmr zm) rfl rfl bd Tryz.func37 rfl rfl (.cons rfl Conv.any (.cons rfl Conv.any .nil)) rfl hfr rfl) rfl rfl rfl) ?_
     refine RV.step1 (OpOk.yes (ok_move (.inl rfl) rfl bd rfl) rfl rfl rfl) ?_
     refine RV.step1 (OpOk.yes (ok_move (.inl rfl) rfl bd rfl) rfl rfl rfl) ?_
     refine RV.step1 (OpOk.yes (ok_call (PMulK 4 hG hr3 (by decide) (by decide) (by decide) (by decide) (by decide)) rfl rfl bd Tryz.func25 rfl rfl (.cons rfl Conv.any (.cons rfl Conv.any .nil)) rfl hfr rfl) rfl rfl rfl) ?_
     refine RV.step1 (OpOk.yes (ok_call (rMonicP_con (mulR G r1) 200 200 (by decide) (by omega) zm) rfl rfl bd Tryz.func45 rfl rfl (.cons rfl Conv.any .nil) rfl hfr rfl) rfl rfl rfl) ?_
     refine RV.step1 (OpOk.yes (ok_call (rSameW rfl (by omega)) rfl rfl bd Tryz.func13 rfl rfl (.cons rfl Conv.any (.cons rfl Conv.any .nil)) rfl hfr rfl) rfl rfl rfl) ?_
     refine RV.step1 (OpOk.yes (ok_not rfl rfl bd rfl) rfl rfl rfl) ?_
     refine p1 (ok_pickT rfl rfl bd rfl rfl rfl) ?_
     refine RV.done ?_
     refine CV.no rfl ?_
     refine CV.skip ?_
     show Sub _ _
     exact Sub.mk ⟨XV.le_rfl _, trivial⟩ rfl rfl
    ·refine RV.step1 (OpOk.skip rfl rfl rfl rfl rfl bd) ?_
     refine RV.step1 (OpOk.skip rfl rfl rfl rfl rfl bd) ?_
     refine RV.step1 (OpOk.skip rfl rfl rfl rfl rfl bd) ?_
     refine RV.step1 (OpOk.skip rfl rfl rfl rfl rfl bd) ?_
     refine RV.step1 (OpOk.skip rfl rfl rfl rfl rfl bd) ?_
     refine RV.step1 (OpOk.skip rfl rfl rfl rfl rfl bd) ?_
     refine RV.step1 (OpOk.skip rfl rfl rfl rfl rfl bd) ?_
     refine RV.step1 (OpOk.skip rfl rfl rfl rfl rfl bd) ?_
     refine RV.step1 (OpOk.skip rfl rfl rfl rfl rfl bd) ?_
     refine RV.step1 (OpOk.skip rfl rfl rfl rfl rfl bd) ?_
     refine RV.step1 (OpOk.skip rfl rfl rfl rfl rfl bd) ?_
     refine RV.step1 (OpOk.skip rfl rfl rfl rfl rfl bd) ?_
     refine RV.step1 (OpOk.skip rfl rfl rfl rfl rfl bd) ?_
     refine p1 (ok_pickF rfl rfl bd rfl rfl rfl) ?_
     refine RV.done ?_
     refine CV.no rfl ?_
     refine CV.skip ?_
     show Sub _ _
     exact Sub.mk ⟨XV.le_rfl _, trivial⟩ rfl rfl
   ·refine sr rfl ?_
    refine ml rfl rfl bd rfl ?_
    refine p1 (ok_call (PFreeK zp (by omega) f1 (hf.sz (by decide) (by decide))) rfl rfl bd Tryz.func39 rfl rfl (.cons rfl Conv.any .nil) rfl hfr rfl) ?_
    refine mr rfl rfl bd rfl ?_
    refine RV.done ?_
    refine CV.seq ?_
    refine sr rfl ?_
    refine ml rfl rfl bd rfl ?_
    refine p1 (ok_lenL plV_length u_poly rfl rfl bd rfl) ?_
    refine p1 (ok_eql rfl rfl bd rfl rfl) ?_
    refine RV.done ?_
    refine CV.cond rfl (fun h113 => ?_) (fun h113 => ?_)
    ·have hp0 : p = [] := (by rw [beq_iff_eq] at h113; exact List.eq_nil_of_length_eq_zero (by omega))
     have hf0 : f.length = 0 := (by rw [f2 hp0]; rfl)
     refine sr rfl ?_
     refine ml rfl rfl bd rfl ?_
     refine p1 (ok_lenL plV_length u_poly rfl rfl bd rfl) ?_
     refine p1 (ok_eqlT (by rw [hf0]; rfl) rfl rfl bd rfl rfl) ?_
     refine ml rfl rfl bd rfl ?_
     refine RV.step1 (OpOk.yes (ok_call (lives6_con) rfl rfl bd Tryz.func17 rfl rfl .nil rfl hfr rfl) rfl rfl rfl) ?_
     refine p1 (ok_pickT rfl rfl bd rfl rfl rfl) ?_
     refine mr rfl rfl bd rfl ?_
     refine RV.done ?_
     refine CV.ret ?_
     exact fin1 rfl (.inr rfl) rfl is_rfl
    ·have hp0 : p ≠ [] := (by rw [beq_eq_false_iff_ne] at h113; exact fun e => h113 (by rw [e]; rfl))
     obtain ⟨F0, ⟨V, v1, hV⟩, k4, k5⟩ := f3 hp0
     have hFp := List.length_pos_iff.2 F0
     have hdf : Pk (deriveR f) 474 5 := hf.derive 3 (by decide)
     have zdf : szR (deriveR f) 100000 = true := hdf.sz (by decide) (by decide)
     have ldf := hdf.len
     have hpp : Pk (mulR p p) 70 11 := hp.mul 4 hp (by decide)
     have zpp : szR (mulR p p) 100000 = true := hpp.sz (by decide) (by decide)
     have lpp := hpp.len
     refine CV.skip ?_
     refine sr rfl ?_
     refine ml rfl rfl bd rfl ?_
     refine ml rfl rfl bd rfl ?_
     refine p1 (ok_call (PDivK zp zf (by omega) (by omega) v1 (hV.sz (by decide) (by decide)) rfl) rfl rfl bd Tryz.func35 rfl rfl (.cons rfl Conv.any (.cons rfl Conv.any .nil)) rfl hfr rfl) ?_
     refine ml rfl rfl bd rfl ?_
     refine p1 (ok_extract rfl rfl bd rfl rfl) ?_
     refine p1 (ok_extract rfl rfl bd rfl rfl) ?_
     refine mr rfl rfl bd rfl ?_
     refine mr rfl rfl bd rfl ?_
     refine RV.done (sr rfl ?_)
     refine ml rfl rfl bd rfl ?_
     refine p1 (ok_lenL plV_length u_poly rfl rfl bd rfl) ?_
     refine p1 (ok_gtrB (r := true) (by rw [decide_eq_true_eq]; omega) rfl rfl bd rfl rfl) ?_
     refine ml rfl rfl bd rfl ?_
     refine RV.step1 (OpOk.yes (ok_move (.inl rfl) rfl bd rfl) rfl rfl rfl) ?_
     refine RV.step1 (OpOk.yes (ok_lenL plV_length u_poly rfl rfl bd rfl) rfl rfl rfl) ?_
     refine RV.step1 (OpOk.yes (ok_eqlT rfl rfl rfl bd rfl rfl) rfl rfl rfl) ?_
     refine p1 (ok_pickT rfl rfl bd rfl rfl rfl) ?_
     refine ml rfl rfl bd rfl ?_
     refine RV.step1 (OpOk.yes (ok_move (.inl rfl) rfl bd rfl) rfl rfl rfl) ?_
     refine RV.step1 (OpOk.yes (ok_move (.inl rfl) rfl bd rfl) rfl rfl rfl) ?_
     refine RV.step1 (OpOk.yes (ok_call (PDeriveK 3 hf (by decide) (by decide) (by decide)) rfl rfl bd Tryz.func31 rfl rfl (.cons rfl Conv.any .nil) rfl hfr rfl) rfl rfl rfl) ?_
     refine RV.step1 (OpOk.yes (ok_call (PGcdK zf zdf (by omega) (by omega) k4 (by decide +kernel)) rfl rfl bd Tryz.func37 rfl rfl (.cons rfl Conv.any (.cons rfl Conv.any .nil)) rfl hfr rfl) rfl rfl rfl) ?_
     refine RV.step1 (OpOk.yes (ok_litD (G := Dm.gen (lstG none (ziV .i64 [1]))) (ss := ziV .i64 [1]) (lstG_Lst none _) u_ints zs_i64 rfl rfl rfl ziV_kinds rfl rfl rfl bd (.cons rfl Conv.any .nil)) rfl rfl rfl) ?_
     refine RV.step1 (OpOk.yes (ok_call (isT [1] 200 [1] one_of (by decide) (by intro i; exact small_zs _ (by decide) i) (by decide)) rfl rfl bd Tryz.func44 rfl rfl (.cons rfl Conv.any (.cons rfl Conv.any .nil)) rfl hfr rfl) rfl rfl rfl) ?_
     refine p1 (ok_pickT rfl rfl bd rfl rfl rfl) ?_
     refine ml rfl rfl bd rfl ?_
     refine RV.step1 (OpOk.yes (ok_move (.inl rfl) rfl bd rfl) rfl rfl rfl) ?_
     refine RV.step1 (OpOk.yes (ok_move (.inl rfl) rfl bd rfl) rfl rfl rfl) ?_
     refine RV.step1 (OpOk.yes (ok_call (PMulK 4 hp hp (by decide) (by decide) (by decide) (by decide) (by decide)) rfl rfl bd Tryz.func25 rfl rfl (.cons rfl Conv.any (.cons rfl Conv.any .nil)) rfl hfr rfl) rfl rfl rfl) ?_
     refine RV.step1 (OpOk.yes (ok_call (PFreeK zpp (by omega) k5 (hf.sz (by decide) (by decide))) rfl rfl bd Tryz.func39 rfl rfl (.cons rfl Conv.any .nil) rfl hfr rfl) rfl rfl rfl) ?_
     refine RV.step1 (OpOk.yes (ok_move (.inl rfl) rfl bd rfl) rfl rfl rfl) ?_
     refine RV.step1 (OpOk.yes (ok_call (rSameW rfl (by omega)) rfl rfl bd Tryz.func13 rfl rfl (.cons rfl Conv.any (.cons rfl Conv.any .nil)) rfl hfr rfl) rfl rfl rfl) ?_
     refine p1 (ok_pickT rfl rfl bd rfl rfl rfl) ?_
     refine ml rfl rfl bd rfl ?_
     refine RV.step1 (OpOk.yes (ok_call (lives6_con) rfl rfl bd Tryz.func17 rfl rfl .nil rfl hfr rfl) rfl rfl rfl) ?_
     refine p1 (ok_pickT rfl rfl bd rfl rfl rfl) ?_
     refine mr rfl rfl bd rfl ?_
     refine RV.done ?_
     refine CV.ret ?_
     exact fin1 rfl (.inr rfl) rfl is_rfl
end
end Vc
end Go.Proofs.YtcblbepaigdlgaaGreat
