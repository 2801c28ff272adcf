/-
  Plain: texts and codes of integers and f
-/
import Derived.Test.YtcblbepaigdlgaaGreatJB35
import Derived.Test.YtcblbepaigdlgaaGreatJB44
import Derived.Test.YtcblbepaigdlgaaGreatJB3
import Derived.Test.YtcblbepaigdlgaaGreatJB12
import Derived.Test.YtcblbepaigdlgaaGreatJB43
set_option linter.unusedVariables false
set_option linter.unusedSimpArgs false
set_option linter.unusedSectionVars false
namespace Go.Proofs.YtcblbepaigdlgaaGreat
open Dg Zn Tx
namespace Tx
/-! Codes. -/
def zOf (l : List Int) : Int := mk (decide (l.getD 0 0 < 0)) (val ((l.drop 1).map Int.toNat))
def row0 (z : Int) : List Int := cmpI z 0 :: (dig z.natAbs).map Int.ofNat
theorem zOf_row0 (z : Int) : zOf (row0 z) = z := by
 unfold zOf row0
 rw [List.getD_cons_zero, List.drop_one, List.tail_cons, List.map_map]
 rw [show (Int.toNat ∘ Int.ofNat) = id from funext fun n => rfl, List.map_id, val_dig]
 unfold cmpI mk
 split
 ·rw [if_pos (by decide)]; omega
 ·split
  ·rw [if_neg (by decide)]; omega
  ·rw [if_neg (by decide)]; omega
def decI (bs : List Int) : Int × Nat × Int :=
 if (W.decList W.dec 1 bs).2.2 ≠ 0 then (0, 0, (W.decList W.dec 1 bs).2.2)
 else if row0 (zOf (W.decList W.dec 1 bs).1) = (W.decList W.dec 1 bs).1 then (zOf (W.decList W.dec 1 bs).1, (W.decList W.dec 1 bs).2.1, 0) else (0, 0, 2)
theorem row0_inj {l : List Int} {z : Int} (h : l = row0 z) : row0 (zOf l) = l ∧ zOf l = z := by
 subst h
 rw [zOf_row0]
 exact ⟨rfl, rfl⟩
theorem decI_enc (z : Int) (hz : len z ≤ 1000000000) (t : List Int) : decI (encI z ++ t) = (z, (encI z).length, 0) := by
 have h := W.decInts_enc (row0 z) (by unfold row0; rw [List.length_cons, List.length_map]; show len z + 1 ≤ _; omega) (encI_bd z) t
 unfold decI
 rw [show encI z = W.encInts (row0 z) from rfl, h]
 rw [if_neg (by simp), if_pos (by rw [zOf_row0]), zOf_row0]
theorem decList_len {bs : List Int} (hb : W.Bs bs) : (W.decList W.dec 1 bs).1.length ≤ bs.length ∧ (W.decList W.dec 1 bs).2.1 ≤ bs.length := by
 by_cases he : (W.decList W.dec 1 bs).2.2 = 0
 ·rcases hq : W.decList W.dec 1 bs with ⟨l, v, e⟩
  rw [hq] at he
  obtain rfl : e = 0 := he
  obtain ⟨h1, h2⟩ := W.decList_canonical (c := W.code) (by decide) bs hb (fun b' x m hb' h => ⟨(W.dec_canonical b' hb' x m h).1, (W.dec_canonical b' hb' x m h).2.1⟩) hq
  have h3 := W.flatMap_size W.code 1 l fun x _ => W.code_pos x
  have h4 := congrArg List.length h2
  rw [List.length_append, List.length_take] at h4
  simp only
  omega
 ·have : (W.decList W.dec 1 bs).1 = [] ∧ (W.decList W.dec 1 bs).2.1 = 0 := by
   unfold W.decList at he ⊢
   split at he
   ·rw [if_pos (by assumption)]; exact ⟨rfl, rfl⟩
   ·split at he
    ·rw [if_neg (by assumption), if_pos (by assumption)]; exact ⟨rfl, rfl⟩
    ·exact absurd (Decidable.not_not.1 (by assumption)) he
  rw [this.1, this.2]
  exact ⟨Nat.zero_le _, Nat.zero_le _⟩
theorem decI_bd {bs : List Int} (hb : W.Bs bs) : len (decI bs).1 ≤ bs.length ∧ (decI bs).2.1 ≤ bs.length := by
 have h0 : len 0 ≤ bs.length := by show (dig 0).length ≤ _; rw [dig_zero]; exact Nat.zero_le _
 obtain ⟨h1, h2⟩ := decList_len hb
 unfold decI
 split
 ·exact ⟨h0, Nat.zero_le _⟩
 ·split
  ·rename_i h
   refine ⟨?_, h2⟩
   have := congrArg List.length h
   unfold row0 at this
   rw [List.length_cons, List.length_map] at this
   show (dig (zOf (W.decList W.dec 1 bs).1).natAbs).length ≤ _
   omega
  ·exact ⟨h0, Nat.zero_le _⟩
theorem encI_bs (z : Int) : W.Bs (encI z) := by
 have h : ∀ l : List Int, W.Bs (l.flatMap W.code) := fun l => by
  induction l with
  | nil => intro x hx; cases hx
  | cons y l ih => rw [List.flatMap_cons]; exact (W.code_bs y).append ih
 exact (W.code_bs _).append (h _)
theorem encI_length (z : Int) : 2 ≤ (encI z).length ∧ (encI z).length ≤ 9 * len z + 18 := by
 have h := W.codes_le (row0 z)
 have h1 := W.code_le ((row0 z).length : Int)
 have h2 := W.code_pos ((row0 z).length : Int)
 have h3 := W.code_pos (cmpI z 0)
 have h4 : (row0 z).length = len z + 1 := by unfold row0; rw [List.length_cons, List.length_map]
 have h5 : (encI z).length = (W.code ((row0 z).length : Int)).length + ((row0 z).flatMap W.code).length := by
  show (W.code _ ++ _).length = _
  rw [List.length_append]
  rfl
 have h6 : (W.code (cmpI z 0)).length ≤ ((row0 z).flatMap W.code).length := by
  unfold row0
  rw [List.flatMap_cons, List.length_append]
  omega
 omega
/-! Fractions. -/
open Vc
def decQ (bs : List Int) : Int × Int × Nat × Int :=
 if (decI bs).2.2 ≠ 0 then (0, 0, 0, (decI bs).2.2)
 else if (decI (bs.drop (decI bs).2.1)).2.2 ≠ 0 then (0, 0, 0, (decI (bs.drop (decI bs).2.1)).2.2)
 else if (decI (bs.drop (decI bs).2.1)).1 = 0 ∨ (0 ≤ (decI (bs.drop (decI bs).2.1)).1 ∧ (decI (bs.drop (decI bs).2.1)).1 ≠ 1 ∧ Int.gcd (decI bs).1 (decI (bs.drop (decI bs).2.1)).1 = 1) then ((decI bs).1, (decI (bs.drop (decI bs).2.1)).1, (decI bs).2.1 + (decI (bs.drop (decI bs).2.1)).2.1, 0)
 else (0, 0, 0, 2)
theorem decQ_enc (a : Rat) (hp : len a.num ≤ 1000000000) (hq : len (qd a) ≤ 1000000000) (t : List Int) : decQ (encR a ++ t) = (a.num, qd a, (encR a).length, 0) := by
 have h1 : decI (encR a ++ t) = (a.num, (encI a.num).length, 0) := by
  show decI (encI a.num ++ encI (qd a) ++ t) = _
  rw [List.append_assoc]
  exact decI_enc _ hp _
 have h2 : (encR a ++ t).drop (encI a.num).length = encI (qd a) ++ t := by
  show (encI a.num ++ encI (qd a) ++ t).drop _ = _
  rw [List.append_assoc, List.drop_left]
 unfold decQ
 rw [h1]
 simp only
 rw [h2, decI_enc _ hq]
 have hv : qd a = 0 ∨ (0 ≤ qd a ∧ qd a ≠ 1 ∧ Int.gcd a.num (qd a) = 1) := by
  by_cases h0 : a.den = 1
  ·exact .inl (qd_zero.2 h0)
  ·have hq : qd a = (a.den : Int) := by unfold qd; rw [if_neg h0]
   have hc : Int.gcd a.num (a.den : Int) = 1 := a.reduced
   rw [hq]
   exact .inr ⟨by omega, by omega, hc⟩
 rw [if_neg (by simp), if_neg (by simp), if_pos hv]
 show (a.num, qd a, (encI a.num).length + (encI (qd a)).length, (0 : Int)) = (a.num, qd a, (encI a.num ++ encI (qd a)).length, 0)
 rw [List.length_append]
end Tx
end Go.Proofs.YtcblbepaigdlgaaGreat

namespace Go.Proofs.YtcblbepaigdlgaaGreat
open Go.RowKit
open Go.Lib (hid)
open Dg Zn Tx
namespace Vc
section
variable {D : Type} [Dom D] {P : Program} {cx : Cx D} {n : Nat} {σ : St D} {o : Oper} {d : Nat} {x y : Operand} {T T' : TypeId} {k : IntKind} {a b : Int}
theorem ok_remC {c : Int} (hb : b ≠ 0) (hc : a.tmod b = c) (ho : o.op = .binOp .rem T x y T') (hd : o.dst = some d) (hn : d < n) (hx : opd σ x = .av (.one (.v (.int k a)))) (hy : opd σ y = .av (.one (.v (.int k b)))) : OpOk P cx n σ o (opk x ++ opk y) [(.s d, .av (.one (.v (.int k c))))] := hc ▸ ok_rem hb ho hd hn hx hy
theorem ok_eqlB {r : Bool} (h : (a == b) = r) (ho : o.op = .binOp .eql T x y T') (hd : o.dst = some d) (hn : d < n) (hx : opd σ x = .av (.one (.v (.int k a)))) (hy : opd σ y = .av (.one (.v (.int k b)))) : OpOk P cx n σ o (opk x ++ opk y) [(.s d, .av (.one (.v (.bool r))))] := by
 have q := ok_eql (P := P) (cx := cx) ho hd hn hx hy
 rwa [h] at q
theorem ok_lssB {r : Bool} (h : decide (a < b) = r) (ho : o.op = .binOp .lss T x y T') (hd : o.dst = some d) (hn : d < n) (hx : opd σ x = .av (.one (.v (.int k a)))) (hy : opd σ y = .av (.one (.v (.int k b)))) : OpOk P cx n σ o (opk x ++ opk y) [(.s d, .av (.one (.v (.bool r))))] := by
 have q := ok_lss (P := P) (cx := cx) ho hd hn hx hy
 rwa [h] at q
theorem ok_neqB {r : Bool} (h : (a != b) = r) (ho : o.op = .binOp .neq T x y T') (hd : o.dst = some d) (hn : d < n) (hx : opd σ x = .av (.one (.v (.int k a)))) (hy : opd σ y = .av (.one (.v (.int k b)))) : OpOk P cx n σ o (opk x ++ opk y) [(.s d, .av (.one (.v (.bool r))))] := by
 have q := ok_neq (P := P) (cx := cx) ho hd hn hx hy
 rwa [h] at q
end
end Vc
end Go.Proofs.YtcblbepaigdlgaaGreat

namespace Go.Proofs.YtcblbepaigdlgaaGreat
open Go.RowKit
open Dg Zn
namespace Vc
def trimR : List Rat → List Rat
 | [] => []
 | a :: l => if trimR l = [] then (if a = 0 then [] else [a]) else a :: trimR l
theorem trimR_snoc (l : List Rat) (a : Rat) : trimR (l ++ [a]) = if a = 0 then trimR l else l ++ [a] := by
 induction l with
 | nil => show (if trimR [] = [] then _ else _) = _; rfl
 | cons b l ih =>
  rw [List.cons_append, trimR, ih]
  by_cases h : a = 0
  ·rw [if_pos h, if_pos h, trimR]
  ·rw [if_neg h, if_neg h, if_neg (by simp)]
theorem trimR_take (l : List Rat) : trimR l = l.take (trimR l).length := by
 induction l with
 | nil => rfl
 | cons a l ih =>
  rw [trimR]
  by_cases h : trimR l = []
  ·rw [if_pos h]
   split
   ·rfl
   ·rfl
  ·rw [if_neg h, List.length_cons, List.take_succ_cons, ← ih]
theorem trimR_len (l : List Rat) : (trimR l).length ≤ l.length := by
 rw [trimR_take]
 exact List.length_take_le' _ _
theorem trimR_last (l : List Rat) : trimR l = [] ∨ (trimR l).getD ((trimR l).length - 1) 0 ≠ 0 := by
 induction l with
 | nil => exact .inl rfl
 | cons a l ih =>
  rw [trimR]
  by_cases h : trimR l = []
  ·rw [if_pos h]
   by_cases h0 : a = 0
   ·rw [if_pos h0]; exact .inl rfl
   ·rw [if_neg h0]; exact .inr h0
  ·rw [if_neg h]
   right
   have := ih.resolve_left h
   have hl : 0 < (trimR l).length := List.length_pos_iff.2 h
   rw [List.length_cons, Nat.add_sub_cancel]
   obtain ⟨m, hm⟩ : ∃ m, (trimR l).length = m + 1 := ⟨(trimR l).length - 1, by omega⟩
   rw [hm] at this ⊢
   simpa using this
def plV (l : List Rat) (K : Nat) : List (SA Dm) := l.map fun a => RT a K
abbrev PL (l : List Rat) (K : Nat) : SA Dm := .d (Dm.gen (lstG (some 4) (plV l K)))
theorem plV_length {l : List Rat} {K : Nat} : (plV l K).length = l.length := by simp [plV]
theorem plV_at {l : List Rat} {K i : Nat} (h : i < l.length) : (plV l K)[i]? = some (RT (l.getD i 0) K) := by
 simp [plV, List.getElem?_eq_getElem h, List.getD_eq_getElem?_getD]
theorem plV_ptrs {l : List Rat} {K : Nat} : (plV l K).flatMap SA.ptrs = [] := by
 rw [List.flatMap_eq_nil_iff]
 intro s hs
 obtain ⟨b, _, rfl⟩ := List.mem_map.1 hs
 rfl
theorem plV_take {l : List Rat} {K n : Nat} : (plV l K).take n = plV (l.take n) K := by simp [plV, List.map_take]
theorem plV_drop {l : List Rat} {K n : Nat} : (plV l K).drop n = plV (l.drop n) K := by simp [plV, List.map_drop]
theorem plV_append {l m : List Rat} {K : Nat} : plV l K ++ plV m K = plV (l ++ m) K := by simp [plV]
theorem plV_plain {l : List Rat} {K : Nat} : ∀ s ∈ plV l K, s.plain = true := by
 intro s hs
 obtain ⟨b, _, rfl⟩ := List.mem_map.1 hs
 rfl
theorem plV_kind {l : List Rat} {K : Nat} : ∀ s ∈ plV l K, s.kind = some (some 4) := by
 intro s hs
 obtain ⟨b, _, rfl⟩ := List.mem_map.1 hs
 rfl
theorem prodL_at {f : Nat → Rat} {K m k : Nat} (h : k < m) : (prodL f K m (k + 1))[k]? = some (RT (f k) K) := by simp [prodL, h]
def tab (g : Nat → Rat) (n : Nat) : List Rat := (List.range n).map g
theorem tab_length {g : Nat → Rat} {n : Nat} : (tab g n).length = n := by simp [tab]
theorem tab_succ {g : Nat → Rat} {n : Nat} : tab g (n + 1) = tab g n ++ [g n] := by simp [tab, List.range_succ]
theorem tab_ratL {g : Nat → Rat} {K n : Nat} : ratL g K n = plV (tab g n) K := by simp [ratL, plV, tab]
theorem tab_getD (l : List Rat) : tab (fun i => l.getD i 0) l.length = l := by
 apply List.ext_getElem
 ·simp [tab]
 ·intro i h1 h2
  simp [tab, List.getD_eq_getElem?_getD, List.getElem?_eq_getElem h2]
def atR (l : List Rat) (k : Int) : Rat := if k < 0 then 0 else l.getD k.toNat 0
theorem atR_nat (l : List Rat) (k : Nat) : atR l (k : Int) = l.getD k 0 := by
 unfold atR
 rw [if_neg (by omega), Int.toNat_natCast]
theorem getD_zero {l : List Rat} {k : Nat} (h : l.length ≤ k) : l.getD k 0 = 0 := by
 rw [List.getD_eq_getElem?_getD, List.getElem?_eq_none h]
 rfl
def lastR (l : List Rat) : Rat := l.getD (l.length - 1) 0
theorem lastR_at (l : List Rat) : atR l ((l.length : Int) - 1) = lastR l := by
 unfold atR lastR
 by_cases h : l.length = 0
 ·obtain rfl := List.eq_nil_of_length_eq_zero h
  rfl
 ·rw [if_neg (by omega), show ((l.length : Int) - 1).toNat = l.length - 1 by omega]
theorem num_zero {a : Rat} : a.num = 0 ↔ a = 0 := Rat.num_eq_zero
theorem cmp_zero {a : Rat} : (cmpI a.num 0 = 0) ↔ a = 0 := by
 rw [← num_zero]
 generalize a.num = z
 unfold cmpI
 split
 ·exact ⟨fun h => absurd h (by decide), fun h => by omega⟩
 ·split
  ·exact ⟨fun h => absurd h (by decide), fun h => by omega⟩
  ·exact ⟨fun _ => by omega, fun _ => rfl⟩
def addR (p q : List Rat) : List Rat := trimR (tab (fun k => p.getD k 0 + q.getD k 0) (max p.length q.length))
def subR (p q : List Rat) : List Rat := trimR (tab (fun k => p.getD k 0 - q.getD k 0) (max p.length q.length))
def scaleR (p : List Rat) (a : Rat) : List Rat := trimR (tab (fun k => p.getD k 0 * a) p.length)
def deriveR (p : List Rat) : List Rat := trimR (tab (fun k => p.getD (k + 1) 0 * ((k + 1 : Nat) : Rat)) (p.length - 1))
end Vc
end Go.Proofs.YtcblbepaigdlgaaGreat

namespace Go.Proofs.YtcblbepaigdlgaaGreat
open Go.RowKit
open Go.Lib (hid)
open Dg Zn
namespace Vc
set_option maxRecDepth 100000
theorem u_poly : Tryz.prog.underlying 24 = some (.slice 30) := by kernel_rfl
theorem ty_poly : TyIs Tryz.prog 24 none := TyIs.one (by kernel_rfl) (by kernel_rfl)
theorem is_rtz {a : Rat} {j k : Nat} (h : a = 0) (hk : j ≤ k) : ∀ L ρ w v, (SA.d (Dm.rt 0 0 j)).is L ρ w v → (AV.one (RT a k)).is L ρ w v := by
 subst h
 exact is_rt (by decide) (by decide) hk
theorem Degree_con (l : List Rat) (K : Nat) (hl : l.length ≤ 1000000) : Con Tryz.prog 14 [PL l K] (.one (.v (.int .i64 ((l.length : Int) - 1)))) := by
 refine Con.of (n := 6) Tryz.func14 rfl rfl rfl rfl rfl fun cx hfr => ?_
 refine sr rfl ?_
 refine xn ?_
 refine RV.done (sr rfl ?_)
 refine xm ?_
 refine p1 (ok_lenL plV_length u_poly rfl rfl bd rfl) ?_
 refine p1 (ok_sub (c := (l.length : Int) - 1) (by rw [wrapI (by omega) (by omega)]) rfl rfl bd rfl rfl) ?_
 refine xn ?_
 refine RV.done ?_
 refine CV.ret ?_
 exact fin1 rfl (.inr rfl) rfl is_rfl
theorem at_con (l : List Rat) (K : Nat) (k : Int) : Con Tryz.prog 65 [PL l K, .v (.int .i64 k)] (.one (RT (atR l k) K)) := by
 refine Con.of (n := 18) Tryz.func65 rfl rfl rfl rfl rfl fun cx hfr => ?_
 refine sr rfl ?_
 refine p2 (ok_alloc (i := 0) rfl rfl bd zero_rat rfl rfl rfl rfl) ?_
 refine RV.done ?_
 refine CV.seq ?_
 refine sr rfl ?_
 refine xm ?_
 refine p1 (ok_lss rfl rfl bd rfl rfl) ?_
 refine xm ?_
 refine RV.bool (fun hn => ?_) (fun hn => ?_)
 ·refine xk ?_
  refine xk ?_
  refine xk ?_
  refine xk ?_
  refine p1 (ok_pickT rfl rfl bd rfl rfl rfl) ?_
  refine RV.done ?_
  refine CV.yes rfl ?_
  refine sr rfl ?_
  refine p1 (ok_build0 rfl rfl bd) ?_
  refine p1 (ok_store rfl rfl rfl rfl rfl rfl rfl (ty_rat).2 rfl rfl rfl rfl) ?_
  refine RV.done ?_
  refine CV.ret ?_
  exact fin1 rfl (.inr rfl) ⟨_, _, _, _, _, rfl, rfl, rfl, ty_rat⟩ (is_rtz (by unfold atR; rw [if_pos (of_decide_eq_true hn)]) (Nat.zero_le _))
 ·obtain ⟨j, rfl⟩ : ∃ j : Nat, k = (j : Int) := ⟨k.toNat, by have := of_decide_eq_false hn; omega⟩
  refine RV.step1 (OpOk.yes (ok_move (.inl rfl) rfl bd rfl) rfl rfl rfl) ?_
  refine RV.step1 (OpOk.yes (ok_move (.inl rfl) rfl bd rfl) rfl rfl rfl) ?_
  refine RV.step1 (OpOk.yes (ok_lenL plV_length u_poly rfl rfl bd rfl) rfl rfl rfl) ?_
  refine RV.step1 (OpOk.yes (ok_geq rfl rfl bd rfl rfl) rfl rfl rfl) ?_
  refine p1 (ok_pickF rfl rfl bd rfl rfl rfl) ?_
  refine RV.done ?_
  refine CV.cond rfl (fun hc => ?_) (fun hc => ?_)
  ·refine sr rfl ?_
   refine p1 (ok_build0 rfl rfl bd) ?_
   refine p1 (ok_store rfl rfl rfl rfl rfl rfl rfl (ty_rat).2 rfl rfl rfl rfl) ?_
   refine RV.done ?_
   refine CV.ret ?_
   exact fin1 rfl (.inr rfl) ⟨_, _, _, _, _, rfl, rfl, rfl, ty_rat⟩ (is_rtz (by have := of_decide_eq_true hc; rw [atR_nat, getD_zero (by omega)]) (Nat.zero_le _))
  ·refine CV.skip ?_
   refine sr rfl ?_
   refine xm ?_
   refine xm ?_
   refine p1 (ok_idxL (k := some 4) (i := j) (plV_at (by have := of_decide_eq_false hc; omega)) u_poly sz_rat (by decide) rfl rfl bd rfl rfl) ?_
   refine p1 (ok_loadP ty_rat (by decide) rfl rfl bd rfl) ?_
   refine p1 (ok_store rfl rfl rfl rfl rfl rfl rfl (ty_rat).2 rfl rfl rfl rfl) ?_
   refine RV.done ?_
   refine CV.ret ?_
   exact fin1 rfl (.inr rfl) ⟨_, _, _, _, _, rfl, rfl, rfl, ty_rat⟩ (is_of (by rw [atR_nat]))
theorem last_con (l : List Rat) (K : Nat) (hl : l.length ≤ 1000000) : Con Tryz.prog 106 [PL l K] (.one (RT (lastR l) K)) := by
 refine Con.of (n := 7) Tryz.func106 rfl rfl rfl rfl rfl fun cx hfr => ?_
 refine sr rfl ?_
 refine p2 (ok_alloc (i := 0) rfl rfl bd zero_rat rfl rfl rfl rfl) ?_
 refine RV.done (sr rfl ?_)
 refine xm ?_
 refine xm ?_
 refine xc (Degree_con _ _ hl) Tryz.func14 (xa rfl) hfr ?_
 refine xc (at_con _ _ _) Tryz.func65 (xb rfl rfl) hfr ?_
 refine p1 (ok_store rfl rfl rfl rfl rfl rfl rfl (ty_rat).2 rfl rfl rfl rfl) ?_
 refine RV.done ?_
 refine CV.ret ?_
 exact fin1 rfl (.inr rfl) ⟨_, _, _, _, _, rfl, rfl, rfl, ty_rat⟩ (is_of (by rw [lastR_at]))
theorem padded_con (l : List Rat) (K : Nat) (hl : l.length ≤ 1000000) : Con Tryz.prog 57 [PL l K] (.one (.v (.bool (decide (l ≠ [] ∧ lastR l = 0))))) := by
 refine Con.of (n := 12) Tryz.func57 rfl rfl rfl rfl rfl fun cx hfr => ?_
 refine sr rfl ?_
 refine xn ?_
 refine RV.done (sr rfl ?_)
 refine xm ?_
 refine p1 (ok_lenL plV_length u_rats rfl rfl bd rfl) ?_
 refine p1 (ok_gtr rfl rfl bd rfl rfl) ?_
 refine xm ?_
 refine RV.bool (fun hn => ?_) (fun hn => ?_)
 ·refine RV.step1 (OpOk.yes (ok_move (.inl rfl) rfl bd rfl) rfl rfl rfl) ?_
  refine RV.step1 (OpOk.yes (ok_call (last_con _ _ hl) rfl rfl bd Tryz.func106 rfl rfl (xa rfl) rfl hfr rfl) rfl rfl rfl) ?_
  refine RV.step1 (OpOk.yes (ok_call (RSign_con _ _) rfl rfl bd Tryz.func103 rfl rfl (xa rfl) rfl hfr rfl) rfl rfl rfl) ?_
  refine RV.step1 (OpOk.yes (ok_eql rfl rfl bd rfl rfl) rfl rfl rfl) ?_
  refine p1 (ok_pickT rfl rfl bd rfl rfl rfl) ?_
  refine xn ?_
  refine RV.done ?_
  refine CV.ret ?_
  have h1 : l ≠ [] := List.length_pos_iff.1 (by have := of_decide_eq_true hn; omega)
  exact fin1 rfl (.inr rfl) rfl (is_bool (by rw [Bool.eq_iff_iff, beq_iff_eq, decide_eq_true_eq, cmp_zero]; exact ⟨fun h => ⟨h1, h⟩, fun h => h.2⟩))
 ·refine xk ?_
  refine xk ?_
  refine xk ?_
  refine xk ?_
  refine p1 (ok_pickF rfl rfl bd rfl rfl rfl) ?_
  refine xn ?_
  refine RV.done ?_
  refine CV.ret ?_
  have h1 : l = [] := List.eq_nil_of_length_eq_zero (by have := of_decide_eq_false hn; omega)
  exact fin1 rfl (.inr rfl) rfl (is_bool (by symm; rw [decide_eq_false_iff_not]; exact fun h => h.1 h1))
section
variable {f : FuncId} {fn : Func} {caps : List (SA Dm)} (g : Nat → Rat) (K N : Nat) (z : Int) (hz : N = z.toNat) (hN : z ≤ 1000000) (hf : Tryz.prog.funcs[f]? = some fn) (hname : (fn.name == "runtime.NumGoroutine") = false) (hb : fn.body.isSome = true) (hcon : ∀ k, k < N → Con Tryz.prog f (.v (.int .i64 (k : Int)) :: caps) (.one (RT (g k) K)))
include hz hN hf hname hb hcon
theorem made_con : Con Tryz.prog 54 [.v (.int .i64 z), .d (Dm.gen (fnG f caps))] (.one (PL (trimR (tab g N)) K)) := by
 refine Con.of (n := 34) Tryz.func54 rfl rfl rfl rfl rfl fun cx hfr => ?_
 refine sr rfl ?_
 refine xn ?_
 refine RV.done (sr rfl ?_)
 refine xm ?_
 refine p1 (ok_maxI (c := (N : Int)) (by split <;> omega) rfl rfl bd rfl rfl) ?_
 refine p2 (ok_make (r := 10) (Nat.le_refl _) (by omega) (by omega) u_poly inf_rat rfl rfl rfl rfl bd rfl rfl rfl rfl rfl) ?_
 refine xn ?_
 refine RV.done (sr rfl ?_)
 refine xn ?_
 refine RV.done ?_
 refine CV.seq ?_
 refine sr rfl ?_
 refine xm ?_
 refine xm ?_
 refine RV.done ?_
 refine CV.block ?_
 refine CV.loop (X := {k : Nat // k ≤ N}) (fun k => [(.s 12, .av (.one (.v (.int .i64 (k.1 : Int))))), (.s 11, .av (.one (.v (.int .i64 z)))), (.s 5, .av (.one (.sl 10 N))), (.b 10, .row 30 (some 4) (prodL g K N k.1)), (.s 6, .av (.one (.v (.int .i64 ((trimR (tab g k.1)).length : Int))))), (.s 1, .av (.one (.d (Dm.gen (fnG f caps)))))]) (fun k => N - k.1) ⟨0, Nat.zero_le _⟩ (Sub.mk ⟨XV.le_rfl _, XV.le_rfl _, XV.le_rfl _, XV.le_row prodL_zero, XV.le_rfl _, XV.le_rfl _, trivial⟩ rfl rfl) (fun k => ?_)
 obtain ⟨k, hk⟩ := k
 simp only
 refine sr rfl ?_
 refine p1 (ok_lss rfl rfl bd rfl rfl) ?_
 refine RV.done ?_
 refine CV.seq ?_
 refine CV.cond rfl (fun hc => ?_) (fun hc => ?_)
 ·have hlt : k < N := (by have := of_decide_eq_true hc; omega)
  refine CV.skip ?_
  refine CV.seq ?_
  refine CV.block ?_
  refine sr rfl ?_
  refine xm ?_
  refine xn ?_
  refine RV.done (sr rfl ?_)
  refine xm ?_
  refine xm ?_
  refine xm ?_
  refine xm ?_
  refine p1 (ok_callfn (sas := [.v (.int .i64 (k : Int))]) (hcon k hlt) hf hname hb rfl rfl bd rfl (xa rfl) rfl hfr rfl) ?_
  refine p1 (ok_idxR (i := k) hlt (by rw [prodL_length]; exact Nat.le_refl _) u_poly sz_rat rfl rfl bd rfl rfl rfl) ?_
  refine p1 (ok_storeR (i := k) (by rw [prodL_length]; exact hlt) rfl (by show 0 < 4; decide) rfl rfl rfl rfl rfl rfl sz_rat (.inl rfl) rfl rfl) ?_
  refine RV.done ?_
  refine CV.seq ?_
  rw [prodL_set]
  refine CV.region rfl (fun h => nomatch h) ?_
  refine xm ?_
  refine xm ?_
  refine p1 (ok_idxR (i := k) hlt (by rw [prodL_length]; exact Nat.le_refl _) u_poly sz_rat rfl rfl bd rfl rfl rfl) ?_
  refine p1 (ok_loadR (i := k) (prodL_at hlt) rfl ty_rat (by show 0 < 4; decide) rfl rfl bd rfl rfl) ?_
  refine xc (RSign_con _ _) Tryz.func103 (xa rfl) hfr ?_
  refine p1 (ok_neq rfl rfl bd rfl rfl) ?_
  refine RV.done ?_
  refine CV.cond rfl (fun h0 => ?_) (fun h0 => ?_)
  ·refine CV.region rfl (fun h => nomatch h) ?_
   refine xm ?_
   refine p1 (ok_add (c := ((k + 1 : Nat) : Int)) (by rw [wrapI (by omega) (by omega)]; omega) rfl rfl bd rfl rfl) ?_
   refine xn ?_
   refine RV.done ?_
   refine CV.region rfl (fun h => nomatch h) ?_
   refine p1 (ok_add (c := ((k + 1 : Nat) : Int)) (by rw [wrapI (by omega) (by omega)]; omega) rfl rfl bd rfl rfl) ?_
   refine xm ?_
   refine RV.done ?_
   have hne : g k ≠ 0 := (fun e => by rw [bne_iff_ne] at h0; exact h0 (cmp_zero.2 e))
   exact ⟨⟨k + 1, hlt⟩, Sub.mk ⟨XV.le_rfl _, XV.le_rfl _, XV.le_rfl _, XV.le_rfl _, XV.le_of (by show (XV.av (.one (.v (.int .i64 ((k + 1 : Nat) : Int)))) : XV Dm) = .av (.one (.v (.int .i64 ((trimR (tab g (k + 1))).length : Int)))); rw [tab_succ, trimR_snoc, if_neg hne, List.length_append, tab_length]; rfl), XV.le_rfl _, trivial⟩ rfl rfl, by show N - (k + 1) < N - k; omega⟩
  ·refine CV.skip ?_
   refine CV.region rfl (fun h => nomatch h) ?_
   refine p1 (ok_add (c := ((k + 1 : Nat) : Int)) (by rw [wrapI (by omega) (by omega)]; omega) rfl rfl bd rfl rfl) ?_
   refine xm ?_
   refine RV.done ?_
   have he : g k = 0 := (cmp_zero.1 (by rw [bne_eq_false_iff_eq] at h0; exact h0))
   exact ⟨⟨k + 1, hlt⟩, Sub.mk ⟨XV.le_rfl _, XV.le_rfl _, XV.le_rfl _, XV.le_rfl _, XV.le_of (by show (XV.av (.one (.v (.int .i64 ((trimR (tab g k)).length : Int)))) : XV Dm) = .av (.one (.v (.int .i64 ((trimR (tab g (k + 1))).length : Int)))); rw [tab_succ, trimR_snoc, if_pos he]), XV.le_rfl _, trivial⟩ rfl rfl, by show N - (k + 1) < N - k; omega⟩
 ·refine CV.exit ?_
  refine CV.seq ?_
  have hkN : k = N := (by have := of_decide_eq_false hc; omega)
  subst hkN
  rw [prodL_all, tab_ratL]
  refine CV.freeze (r := 10) (t := 5) (G := Dm.gen (lstG (some 4) (plV (tab g k) K))) (cx.bw hfr) rfl rfl (by rw [plV_length, tab_length]) rfl rfl (lstG_Lst _ _) (lstG_Lst0 _ _) ?_
  refine CV.region rfl (fun h => nomatch h) ?_
  refine xm ?_
  refine xm ?_
  refine xm ?_
  refine p1 (ok_cutL (k := some 4) (l' := plV (trimR (tab g k)) K) none (some (trimR (tab g k)).length) (some (trimR (tab g k)).length) (by show ((plV (tab g k) K).take (trimR (tab g k)).length).drop 0 = _; rw [List.drop_zero, plV_take, ← trimR_take]) (by decide) (Nat.zero_le _) (Nat.le_refl _) (by show (trimR (tab g k)).length ≤ (plV (tab g k) K).length; rw [plV_length]; exact trimR_len _) (fun h => nomatch h) u_poly sz_rat rfl rfl bd rfl trivial rfl rfl) ?_
  refine xn ?_
  refine RV.done ?_
  refine CV.ret ?_
  exact fin1 rfl (.inr rfl) rfl is_rfl
end
abbrev pPL (l : List Rat) (K : Nat) : SA Dm := .d (Dm.gen (pG none (PL l K)))
abbrev pRT (a : Rat) (K : Nat) : SA Dm := .d (Dm.gen (pG (some 4) (RT a K)))
abbrev pI (z : Int) : SA Dm := .d (Dm.gen (pG none (.v (.int .i64 z))))
theorem Add1_con (p q : List Rat) (j K k : Nat) (hj : j ≤ 10000000) (hK : K ≤ 10000000) : Con Tryz.prog 64 [.v (.int .i64 (k : Int)), pPL p j, pPL q K] (.one (RT (p.getD k 0 + q.getD k 0) (3 * (j + K) + 20))) := by
 refine Con.of (n := 12) Tryz.func64 rfl rfl rfl rfl rfl fun cx hfr => ?_
 refine sr rfl ?_
 refine p2 (ok_alloc (i := 0) rfl rfl bd zero_rat rfl rfl rfl rfl) ?_
 refine RV.done ?_
 refine CV.seq ?_
 refine CV.region rfl (fun _ => by kernel_rfl) ?_
 refine p1 (ok_loadP ty_poly (by decide) rfl rfl bd rfl) ?_
 refine xm ?_
 refine xc (at_con _ _ _) Tryz.func65 (xb rfl rfl) hfr ?_
 refine p1 (ok_loadP ty_poly (by decide) rfl rfl bd rfl) ?_
 refine xm ?_
 refine xc (at_con _ _ _) Tryz.func65 (xb rfl rfl) hfr ?_
 refine xc (RAdd_con _ _ _ _ hj hK) Tryz.func42 (xb rfl rfl) hfr ?_
 refine p1 (ok_store rfl rfl rfl rfl rfl rfl rfl (ty_rat).2 rfl rfl rfl rfl) ?_
 refine RV.drawn (by kernel_rfl) ?_
 refine CV.ret ?_
 exact fin1 rfl (.inr rfl) ⟨_, _, _, _, _, rfl, rfl, rfl, ty_rat⟩ (is_of (by rw [atR_nat, atR_nat]))
theorem PAdd_con (p q : List Rat) (j K : Nat) (hj : j ≤ 10000000) (hK : K ≤ 10000000) (hp : p.length ≤ 1000000) (hq : q.length ≤ 1000000) : Con Tryz.prog 21 [PL p j, PL q K] (.one (PL (addR p q) (3 * (j + K) + 20))) := by
 refine Con.of (n := 12) Tryz.func21 rfl rfl rfl rfl rfl fun cx hfr => ?_
 refine sr rfl ?_
 refine p1 (ok_boxD rfl rfl bd rfl rfl rfl) ?_
 refine p1 (ok_boxD rfl rfl bd rfl rfl rfl) ?_
 refine xn ?_
 refine RV.done (sr rfl ?_)
 refine p1 (ok_loadP ty_poly (by decide) rfl rfl bd rfl) ?_
 refine p1 (ok_lenL plV_length u_poly rfl rfl bd rfl) ?_
 refine p1 (ok_loadP ty_poly (by decide) rfl rfl bd rfl) ?_
 refine p1 (ok_lenL plV_length u_poly rfl rfl bd rfl) ?_
 refine p1 (ok_maxI (c := ((max p.length q.length : Nat) : Int)) (by split <;> omega) rfl rfl bd rfl rfl) ?_
 refine p1 (ok_mkfn (caps := [.tmp 2, .tmp 3]) (ss := [_, _]) rfl rfl bd (xb rfl rfl) rfl) ?_
 refine xd rfl (made_con (fun k => p.getD k 0 + q.getD k 0) (3 * (j + K) + 20) (max p.length q.length) ((max p.length q.length : Nat) : Int) (by omega) (by omega) Tryz.func64 rfl rfl (caps := [pPL p j, pPL q K]) (fun k _ => Add1_con p q j K k hj hK)) Tryz.func54 (xb rfl rfl) hfr ?_
 refine xn ?_
 refine RV.done ?_
 refine CV.ret ?_
 exact fin1 rfl (.inr rfl) rfl is_rfl
theorem Scale1_con (p : List Rat) (a : Rat) (j K k : Nat) (hj : j ≤ 10000000) (hK : K ≤ 10000000) (hk : k < p.length) : Con Tryz.prog 74 [.v (.int .i64 (k : Int)), pPL p j, pRT a K] (.one (RT (p.getD k 0 * a) (3 * (j + K) + 20))) := by
 refine Con.of (n := 11) Tryz.func74 rfl rfl rfl rfl rfl fun cx hfr => ?_
 refine sr rfl ?_
 refine p2 (ok_alloc (i := 0) rfl rfl bd zero_rat rfl rfl rfl rfl) ?_
 refine RV.done ?_
 refine CV.seq ?_
 refine CV.region rfl (fun _ => by kernel_rfl) ?_
 refine p1 (ok_loadP ty_poly (by decide) rfl rfl bd rfl) ?_
 refine xm ?_
 refine p1 (ok_idxL (k := some 4) (i := k) (plV_at hk) u_poly sz_rat (by decide) rfl rfl bd rfl rfl) ?_
 refine p1 (ok_loadP ty_rat (by decide) rfl rfl bd rfl) ?_
 refine p1 (ok_loadP ty_rat (by decide) rfl rfl bd rfl) ?_
 refine xc (RMul_con _ _ _ _ hj hK) Tryz.func43 (xb rfl rfl) hfr ?_
 refine p1 (ok_store rfl rfl rfl rfl rfl rfl rfl (ty_rat).2 rfl rfl rfl rfl) ?_
 refine RV.drawn (by kernel_rfl) ?_
 refine CV.ret ?_
 exact fin1 rfl (.inr rfl) ⟨_, _, _, _, _, rfl, rfl, rfl, ty_rat⟩ is_rfl
theorem PScale_con (p : List Rat) (a : Rat) (j K : Nat) (hj : j ≤ 10000000) (hK : K ≤ 10000000) (hp : p.length ≤ 1000000) : Con Tryz.prog 27 [PL p j, RT a K] (.one (PL (scaleR p a) (3 * (j + K) + 20))) := by
 refine Con.of (n := 9) Tryz.func27 rfl rfl rfl rfl rfl fun cx hfr => ?_
 refine sr rfl ?_
 refine p1 (ok_boxD rfl rfl bd rfl rfl rfl) ?_
 refine p1 (ok_boxD rfl rfl bd rfl rfl rfl) ?_
 refine xn ?_
 refine RV.done (sr rfl ?_)
 refine p1 (ok_loadP ty_poly (by decide) rfl rfl bd rfl) ?_
 refine p1 (ok_lenL plV_length u_poly rfl rfl bd rfl) ?_
 refine p1 (ok_mkfn (caps := [.tmp 2, .tmp 3]) (ss := [_, _]) rfl rfl bd (xb rfl rfl) rfl) ?_
 refine xd rfl (made_con (fun k => p.getD k 0 * a) (3 * (j + K) + 20) p.length (p.length : Int) (by omega) (by omega) Tryz.func74 rfl rfl (caps := [pPL p j, pRT a K]) (fun k hk => Scale1_con p a j K k hj hK hk)) Tryz.func54 (xb rfl rfl) hfr ?_
 refine xn ?_
 refine RV.done ?_
 refine CV.ret ?_
 exact fin1 rfl (.inr rfl) rfl is_rfl
theorem divInt_one (k : Nat) : Rat.divInt ((k : Nat) : Int) 1 = ((k : Nat) : Rat) := by
 have h := whole_parts ((k : Nat) : Int)
 refine Rat.ext ?_ ?_
 ·rw [show (Rat.divInt ((k : Nat) : Int) 1).num = (k : Int) by exact h.1]
  rfl
 ·rw [show (Rat.divInt ((k : Nat) : Int) 1).den = 1 by have := h.2; omega]
  rfl
theorem Derive1_con (p : List Rat) (j k : Nat) (hj : j ≤ 10000000) (hk : k + 1 < p.length) (hp : p.length ≤ 1000000) : Con Tryz.prog 77 [.v (.int .i64 (k : Int)), pPL p j] (.one (RT (p.getD (k + 1) 0 * ((k + 1 : Nat) : Rat)) (3 * (j + 6) + 20))) := by
 refine Con.of (n := 13) Tryz.func77 rfl rfl rfl rfl rfl fun cx hfr => ?_
 refine sr rfl ?_
 refine p2 (ok_alloc (i := 0) rfl rfl bd zero_rat rfl rfl rfl rfl) ?_
 refine RV.done ?_
 refine CV.seq ?_
 refine CV.region rfl (fun _ => by kernel_rfl) ?_
 refine p1 (ok_loadP ty_poly (by decide) rfl rfl bd rfl) ?_
 refine xm ?_
 refine p1 (ok_add (c := ((k + 1 : Nat) : Int)) (by rw [wrapI (by omega) (by omega)]; omega) rfl rfl bd rfl rfl) ?_
 refine p1 (ok_idxL (k := some 4) (i := k + 1) (plV_at hk) u_poly sz_rat (by decide) rfl rfl bd rfl rfl) ?_
 refine p1 (ok_loadP ty_rat (by decide) rfl rfl bd rfl) ?_
 refine xm ?_
 refine p1 (ok_add (c := ((k + 1 : Nat) : Int)) (by rw [wrapI (by omega) (by omega)]; omega) rfl rfl bd rfl rfl) ?_
 refine xd rfl (ROf_con _ _ (by omega) (by omega) (by decide) (by decide)) Tryz.func78 (xb rfl rfl) hfr ?_
 refine xd rfl (RMul_con _ _ _ _ hj (by decide)) Tryz.func43 (xb rfl rfl) hfr ?_
 refine p1 (ok_store rfl rfl rfl rfl rfl rfl rfl (ty_rat).2 rfl rfl rfl rfl) ?_
 refine RV.drawn (by kernel_rfl) ?_
 refine CV.ret ?_
 exact fin1 rfl (.inr rfl) ⟨_, _, _, _, _, rfl, rfl, rfl, ty_rat⟩ (is_of (by rw [divInt_one]))
theorem PDerive_con (p : List Rat) (j : Nat) (hj : j ≤ 10000000) (hp : p.length ≤ 1000000) : Con Tryz.prog 31 [PL p j] (.one (PL (deriveR p) (3 * (j + 6) + 20))) := by
 refine Con.of (n := 7) Tryz.func31 rfl rfl rfl rfl rfl fun cx hfr => ?_
 refine sr rfl ?_
 refine p1 (ok_boxD rfl rfl bd rfl rfl rfl) ?_
 refine xn ?_
 refine RV.done (sr rfl ?_)
 refine p1 (ok_loadP ty_poly (by decide) rfl rfl bd rfl) ?_
 refine xc (Degree_con _ _ hp) Tryz.func14 (xa rfl) hfr ?_
 refine p1 (ok_mkfn (caps := [.tmp 1]) (ss := [_]) rfl rfl bd (xa rfl) rfl) ?_
 refine xd rfl (made_con (fun k => p.getD (k + 1) 0 * ((k + 1 : Nat) : Rat)) (3 * (j + 6) + 20) (p.length - 1) ((p.length : Int) - 1) (by omega) (by omega) Tryz.func77 rfl rfl (caps := [pPL p j]) (fun k hk => Derive1_con p j k hj (by omega) hp)) Tryz.func54 (xb rfl rfl) hfr ?_
 refine xn ?_
 refine RV.done ?_
 refine CV.ret ?_
 exact fin1 rfl (.inr rfl) rfl is_rfl
def redR (p q : List Rat) (m : Rat) : List Rat := trimR (tab (fun k => if k < p.length - q.length then p.getD k 0 else p.getD k 0 - m * q.getD (k - (p.length - q.length)) 0) (p.length - 1))
theorem reduceA_con (p q : List Rat) (m : Rat) (j i K k s : Nat) (hk : k < p.length) (hs : k < s) : Con Tryz.prog 122 [.v (.int .i64 (k : Int)), pI (s : Int), pPL p j, pRT m i, pPL q K] (.one (RT (p.getD k 0) j)) := by
 refine Con.of (n := 27) Tryz.func122 rfl rfl rfl rfl rfl fun cx hfr => ?_
 refine sr rfl ?_
 refine p2 (ok_alloc (i := 0) rfl rfl bd zero_rat rfl rfl rfl rfl) ?_
 refine RV.done ?_
 refine CV.seq ?_
 refine sr rfl ?_
 refine xm ?_
 refine p1 (ok_loadP ty_i64 (by decide) rfl rfl bd rfl) ?_
 refine p1 (ok_lssB (r := true) (by rw [decide_eq_true_eq]; omega) rfl rfl bd rfl rfl) ?_
 refine RV.done ?_
 refine CV.yes rfl ?_
 refine sr rfl ?_
 refine p1 (ok_loadP ty_poly (by decide) rfl rfl bd rfl) ?_
 refine xm ?_
 refine p1 (ok_idxL (k := some 4) (i := k) (plV_at hk) u_poly sz_rat (by decide) rfl rfl bd rfl rfl) ?_
 refine p1 (ok_loadP ty_rat (by decide) rfl rfl bd rfl) ?_
 refine p1 (ok_store rfl rfl rfl rfl rfl rfl rfl (ty_rat).2 rfl rfl rfl rfl) ?_
 refine RV.done ?_
 refine CV.ret ?_
 exact fin1 rfl (.inr rfl) ⟨_, _, _, _, _, rfl, rfl, rfl, ty_rat⟩ is_rfl
theorem reduceB_con (p q : List Rat) (m : Rat) (j i K k s : Nat) (hj : j ≤ 1000000) (hi : i ≤ 1000000) (hK : K ≤ 1000000) (hk : k < p.length) (hs : ¬ k < s) (hq : k - s < q.length) (hs2 : s ≤ 1000000) (hp : p.length ≤ 1000000) : Con Tryz.prog 122 [.v (.int .i64 (k : Int)), pI (s : Int), pPL p j, pRT m i, pPL q K] (.one (RT (p.getD k 0 - m * q.getD (k - s) 0) (3 * (j + (3 * (i + K) + 20)) + 20))) := by
 refine Con.of (n := 27) Tryz.func122 rfl rfl rfl rfl rfl fun cx hfr => ?_
 refine sr rfl ?_
 refine p2 (ok_alloc (i := 0) rfl rfl bd zero_rat rfl rfl rfl rfl) ?_
 refine RV.done ?_
 refine CV.seq ?_
 refine sr rfl ?_
 refine xm ?_
 refine p1 (ok_loadP ty_i64 (by decide) rfl rfl bd rfl) ?_
 refine p1 (ok_lssB (r := false) (by rw [decide_eq_false_iff_not]; omega) rfl rfl bd rfl rfl) ?_
 refine RV.done ?_
 refine CV.no rfl ?_
 refine CV.skip ?_
 refine CV.seq ?_
 refine CV.region rfl (fun _ => by kernel_rfl) ?_
 refine p1 (ok_loadP ty_poly (by decide) rfl rfl bd rfl) ?_
 refine xm ?_
 refine p1 (ok_idxL (k := some 4) (i := k) (plV_at hk) u_poly sz_rat (by decide) rfl rfl bd rfl rfl) ?_
 refine p1 (ok_loadP ty_rat (by decide) rfl rfl bd rfl) ?_
 refine p1 (ok_loadP ty_rat (by decide) rfl rfl bd rfl) ?_
 refine p1 (ok_loadP ty_poly (by decide) rfl rfl bd rfl) ?_
 refine xm ?_
 refine p1 (ok_loadP ty_i64 (by decide) rfl rfl bd rfl) ?_
 refine p1 (ok_sub (c := ((k - s : Nat) : Int)) (by rw [wrapI (by omega) (by omega)]; omega) rfl rfl bd rfl rfl) ?_
 refine p1 (ok_idxL (k := some 4) (i := k - s) (plV_at hq) u_poly sz_rat (by decide) rfl rfl bd rfl rfl) ?_
 refine p1 (ok_loadP ty_rat (by decide) rfl rfl bd rfl) ?_
 refine xd rfl (RMul_con _ _ _ _ (by omega) (by omega)) Tryz.func43 (xb rfl rfl) hfr ?_
 refine xd rfl (RSub_con _ _ _ _ (by omega) (by omega)) Tryz.func69 (xb rfl rfl) hfr ?_
 refine p1 (ok_store rfl rfl rfl rfl rfl rfl rfl (ty_rat).2 rfl rfl rfl rfl) ?_
 refine RV.drawn (by kernel_rfl) ?_
 refine CV.ret ?_
 exact fin1 rfl (.inr rfl) ⟨_, _, _, _, _, rfl, rfl, rfl, ty_rat⟩ is_rfl
theorem reduce1_con (p q : List Rat) (m : Rat) (j i K k s : Nat) (hj : j ≤ 1000000) (hi : i ≤ 1000000) (hK : K ≤ 1000000) (hk : k < p.length) (hq : k < s ∨ k - s < q.length) (hs2 : s ≤ 1000000) (hp : p.length ≤ 1000000) : Con Tryz.prog 122 [.v (.int .i64 (k : Int)), pI (s : Int), pPL p j, pRT m i, pPL q K] (.one (RT (if k < s then p.getD k 0 else p.getD k 0 - m * q.getD (k - s) 0) (3 * (j + (3 * (i + K) + 20)) + 20))) := by
 by_cases h : k < s
 ·rw [if_pos h]
  exact (reduceA_con p q m j i K k s hk h).mono (fun _ _ _ _ h => h) (is_rt rfl rfl (by omega))
 ·rw [if_neg h]
  exact reduceB_con p q m j i K k s hj hi hK hk h (hq.resolve_left h) hs2 hp
theorem reduce_con (p q : List Rat) (m : Rat) (j i K : Nat) (hj : j ≤ 1000000) (hi : i ≤ 1000000) (hK : K ≤ 1000000) (hp : p.length ≤ 1000000) (hqp : q.length ≤ p.length) : Con Tryz.prog 80 [PL p j, PL q K, RT m i] (.one (PL (redR p q m) (3 * (j + (3 * (i + K) + 20)) + 20))) := by
 refine Con.of (n := 17) Tryz.func80 rfl rfl rfl rfl rfl fun cx hfr => ?_
 refine sr rfl ?_
 refine p1 (ok_boxD rfl rfl bd rfl rfl rfl) ?_
 refine p1 (ok_boxD rfl rfl bd rfl rfl rfl) ?_
 refine p1 (ok_boxD rfl rfl bd rfl rfl rfl) ?_
 refine xn ?_
 refine RV.done (sr rfl ?_)
 refine p1 (ok_loadP ty_poly (by decide) rfl rfl bd rfl) ?_
 refine p1 (ok_lenL plV_length u_poly rfl rfl bd rfl) ?_
 refine p1 (ok_loadP ty_poly (by decide) rfl rfl bd rfl) ?_
 refine p1 (ok_lenL plV_length u_poly rfl rfl bd rfl) ?_
 refine p1 (ok_sub (c := ((p.length - q.length : Nat) : Int)) (by rw [wrapI (by omega) (by omega)]; omega) rfl rfl bd rfl rfl) ?_
 refine RV.step3 (OpOk.plain (ok_allocN (r := 7) (k := none) zero_i64 rfl rfl rfl bd rfl rfl rfl) rfl) ?_
 refine p1 (ok_storeR (i := 0) (by decide) rfl (by show 0 < 1; decide) rfl rfl rfl rfl rfl rfl sz_i64 (.inr rfl) rfl rfl) ?_
 refine RV.done ?_
 refine CV.seq ?_
 refine CV.freezeP (r := 7) (t := 7) (cx.bw hfr) rfl rfl rfl rfl ?_
 refine CV.kp [] rfl rfl ?_
 refine CV.region rfl (fun h => nomatch h) ?_
 refine p1 (ok_loadP ty_poly (by decide) rfl rfl bd rfl) ?_
 refine xc (Degree_con _ _ hp) Tryz.func14 (xa rfl) hfr ?_
 refine p1 (ok_mkfn (caps := [.tmp 7, .tmp 3, .tmp 5, .tmp 4]) (ss := [_, _, _, _]) rfl rfl bd (.cons rfl Conv.any (.cons rfl Conv.any (xb rfl rfl))) rfl) ?_
 refine xd rfl (made_con (fun k => if k < p.length - q.length then p.getD k 0 else p.getD k 0 - m * q.getD (k - (p.length - q.length)) 0) (3 * (j + (3 * (i + K) + 20)) + 20) (p.length - 1) ((p.length : Int) - 1) (by omega) (by omega) Tryz.func122 rfl rfl (caps := [pI ((p.length - q.length : Nat) : Int), pPL p j, pRT m i, pPL q K]) (fun k hk => reduce1_con p q m j i K k (p.length - q.length) hj hi hK (by omega) (by omega) (by omega) hp)) Tryz.func54 (xb rfl rfl) hfr ?_
 refine xn ?_
 refine RV.done ?_
 refine CV.ret ?_
 exact fin1 rfl (.inr rfl) rfl is_rfl
theorem ratio_con (p q : List Rat) (j K : Nat) (hj : j ≤ 1000000) (hK : K ≤ 1000000) (hp : p.length ≤ 1000000) (hq : q.length ≤ 1000000) : Con Tryz.prog 79 [PL p j, PL q K] (.one (RT (lastR p / lastR q) (3 * (j + K) + 40))) := by
 refine Con.of (n := 10) Tryz.func79 rfl rfl rfl rfl rfl fun cx hfr => ?_
 refine sr rfl ?_
 refine p2 (ok_alloc (i := 0) rfl rfl bd zero_rat rfl rfl rfl rfl) ?_
 refine RV.done (sr rfl ?_)
 refine xm ?_
 refine xc (last_con _ _ hp) Tryz.func106 (xa rfl) hfr ?_
 refine xm ?_
 refine xc (last_con _ _ hq) Tryz.func106 (xa rfl) hfr ?_
 refine xc (RDiv_con _ _ _ _ hj hK) Tryz.func121 (xb rfl rfl) hfr ?_
 refine p1 (ok_store rfl rfl rfl rfl rfl rfl rfl (ty_rat).2 rfl rfl rfl rfl) ?_
 refine RV.done ?_
 refine CV.ret ?_
 exact fin1 rfl (.inr rfl) ⟨_, _, _, _, _, rfl, rfl, rfl, ty_rat⟩ is_rfl
theorem inverse_con (a : Rat) (K : Nat) (hK : K ≤ 1000000) : Con Tryz.prog 124 [RT a K] (.one (RT (1 / a) (3 * (6 + K) + 40))) := by
 refine Con.of (n := 6) Tryz.func124 rfl rfl rfl rfl rfl fun cx hfr => ?_
 refine sr rfl ?_
 refine p2 (ok_box (i := 0) rfl rfl bd rfl rfl rfl rfl rfl) ?_
 refine p2 (ok_alloc (i := 1) rfl rfl bd zero_rat rfl rfl rfl rfl) ?_
 refine RV.done ?_
 refine CV.seq ?_
 refine CV.region rfl (fun _ => by kernel_rfl) ?_
 refine xd rfl (ROf_con _ _ (by decide) (by decide) (by decide) (by decide)) Tryz.func78 (xb rfl rfl) hfr ?_
 refine p1 (ok_load rfl rfl bd rfl rfl rfl ty_rat) ?_
 refine xd rfl (RDiv_con _ _ _ _ (by decide) hK) Tryz.func121 (xb rfl rfl) hfr ?_
 refine p1 (ok_store rfl rfl rfl rfl rfl rfl rfl (ty_rat).2 rfl rfl rfl rfl) ?_
 refine RV.drawn (by kernel_rfl) ?_
 refine CV.ret ?_
 exact fin1 rfl (.inr rfl) ⟨_, _, _, _, _, rfl, rfl, rfl, ty_rat⟩ (is_of (by rw [show Rat.divInt 1 1 = 1 from by decide]))
def monicR (p : List Rat) : List Rat := scaleR p (1 / lastR p)
theorem monic_con (p : List Rat) (K : Nat) (hK : K ≤ 1000000) (hp : p.length ≤ 1000000) : Con Tryz.prog 84 [PL p K] (.one (PL (monicR p) (3 * (K + (3 * (6 + K) + 40)) + 20))) := by
 refine Con.of (n := 8) Tryz.func84 rfl rfl rfl rfl rfl fun cx hfr => ?_
 refine sr rfl ?_
 refine xn ?_
 refine RV.done (sr rfl ?_)
 refine xm ?_
 refine xm ?_
 refine xc (last_con _ _ hp) Tryz.func106 (xa rfl) hfr ?_
 refine xc (inverse_con _ _ hK) Tryz.func124 (xa rfl) hfr ?_
 refine xd rfl (PScale_con _ _ _ _ (by omega) (by omega) hp) Tryz.func27 (xb rfl rfl) hfr ?_
 refine xn ?_
 refine RV.done ?_
 refine CV.ret ?_
 exact fin1 rfl (.inr rfl) rfl is_rfl
/-! Sizes. -/
def szR (l : List Rat) (B : Nat) : Bool := l.all fun a => decide (len a.num ≤ B) && decide (len (qd a) ≤ B)
theorem szR_one {a : Rat} {B : Nat} (h : szR [a] B = true) : len a.num ≤ B ∧ len (qd a) ≤ B := by
 simpa [szR] using h
theorem szR_mem {l : List Rat} {B : Nat} (h : szR l B = true) {a : Rat} (ha : a ∈ l) : len a.num ≤ B ∧ len (qd a) ≤ B := by
 have := List.all_eq_true.1 h a ha
 simpa using this
theorem rt_at {a : Rat} {K B : Nat} (h : len a.num ≤ B ∧ len (qd a) ≤ B) {w : World} {v : Value} (hv : (RT a K).at w v) : (RT a B).at w v := by
 obtain ⟨s, t, h1, h2, h3, _, _⟩ := hv
 exact ⟨s, t, h1, h2, h3, h.1, h.2⟩
theorem rt_le {a : Rat} {K B : Nat} (h : szR [a] B = true) : ∀ L ρ w v, (RT a K).is L ρ w v → (RT a B).is L ρ w v := fun _ _ _ _ hv w' hw => rt_at (szR_one h) (hv w' hw)
inductive All2 {α β : Type} (R : α → β → Prop) : List α → List β → Prop where
 | nil : All2 R [] []
 | cons {a : α} {b : β} {l : List α} {m : List β} : R a b → All2 R l m → All2 R (a :: l) (b :: m)
theorem All2.length_eq {α β : Type} {R : α → β → Prop} {l : List α} {m : List β} (h : All2 R l m) : l.length = m.length := by
 induction h with
 | nil => rfl
 | cons _ _ ih => rw [List.length_cons, List.length_cons, ih]
theorem rt_le1 {a : Rat} {K B : Nat} (h : szR [a] B = true) : ∀ L ρ w v, (AV.one (RT a K)).is L ρ w v → (AV.one (RT a B)).is L ρ w v := rt_le h
theorem ats_le {w : World} {k : Option Nat} : ∀ {l l' : List (SA Dm)} {cs : List Value}, All2 (fun s s' : SA Dm => ∀ w v, s.at w v → s'.at w v) l l' → Ats w k l cs → Ats w k l' cs
 | [], [], _, _, h => h
 | _ :: _, _ :: _, _, .cons h1 h2, ⟨p, r, v, e1, e2, e3, e4⟩ => ⟨p, r, v, e1, e2, h1 _ _ e3, ats_le h2 e4⟩
theorem lst_le {k : Option Nat} {l l' : List (SA Dm)} (h : All2 (fun s s' : SA Dm => ∀ w v, s.at w v → s'.at w v) l l') : ∀ L ρ w v, (SA.d (Dm.gen (lstG k l))).is L ρ w v → (SA.d (Dm.gen (lstG k l'))).is L ρ w v := by
 intro L ρ w v hv w' hw
 have hl := h.length_eq
 obtain ⟨ao, cap, rfl, h1, h2⟩ := hv w' hw
 refine ⟨ao, cap, by rw [hl], by rw [← hl]; exact h1, fun hp => ?_⟩
 obtain ⟨b, off, e, cs, h3, h4⟩ := h2 (by rw [hl]; exact hp)
 exact ⟨b, off, e, cs, ats_le h h3, h4⟩
theorem pl_le {l : List Rat} {K B : Nat} (h : szR l B = true) : ∀ L ρ w v, (PL l K).is L ρ w v → (PL l B).is L ρ w v := by
 refine lst_le ?_
 have : ∀ m : List Rat, (∀ a ∈ m, len a.num ≤ B ∧ len (qd a) ≤ B) → All2 (fun s s' : SA Dm => ∀ w v, s.at w v → s'.at w v) (plV m K) (plV m B) := by
  intro m
  induction m with
  | nil => intro _; exact .nil
  | cons a m ih => intro hm; exact .cons (fun w v hv => rt_at (hm a List.mem_cons_self) hv) (ih fun x hx => hm x (List.mem_cons_of_mem _ hx))
 exact this l fun a ha => szR_mem h ha
theorem pl_le1 {l : List Rat} {K B : Nat} (h : szR l B = true) : ∀ L ρ w v, (AV.one (PL l K)).is L ρ w v → (AV.one (PL l B)).is L ρ w v := pl_le h
theorem redR_len (p q : List Rat) (m : Rat) : (redR p q m).length ≤ p.length - 1 := by
 unfold redR
 refine Nat.le_trans (trimR_len _) ?_
 rw [tab_length]
 exact Nat.le_refl _
/-! Div. -/
def quV (u : List (Option Rat)) (B : Nat) : List (SA Dm) := u.map fun o => match o with | none => .v zeroRat | some a => RT a B
theorem quV_length {u : List (Option Rat)} {B : Nat} : (quV u B).length = u.length := by simp [quV]
theorem quV_zero {n B : Nat} : List.replicate n (SA.v zeroRat : SA Dm) = quV (List.replicate n none) B := by simp [quV]
theorem quV_set {u : List (Option Rat)} {B i : Nat} {a : Rat} : (quV u B).set i (RT a B) = quV (u.set i (some a)) B := by simp [quV, List.map_set]
theorem quV_pl {u : List (Option Rat)} {B : Nat} : ∀ L ρ w v, (SA.d (Dm.gen (lstG (some 4) (quV u B)))).is L ρ w v → (PL (u.map fun o => o.getD 0) B).is L ρ w v := by
 refine lst_le ?_
 induction u with
 | nil => exact .nil
 | cons o u ih =>
  refine .cons (fun w v hv => ?_) ih
  cases o with
  | none =>
   obtain rfl : v = zeroRat := hv
   have h0 : (dig (0 : Int).natAbs).length ≤ B := by rw [show (0 : Int).natAbs = 0 from rfl, dig_zero]; exact Nat.zero_le _
   exact ⟨_, _, rfl, Nums.nil (by decide), Nums.nil (by decide), h0, h0⟩
  | some a => exact hv
def divC (B : Nat) (q : List Rat) : Nat → List (Option Rat) → List Rat → Option (List (Option Rat) × List Rat)
 | 0, _, _ => none
 | n + 1, u, r => if q.length ≤ r.length then (if (szR [lastR r / lastR q] B && szR (redR r q (lastR r / lastR q)) B) = true then divC B q n (u.set (r.length - q.length) (some (lastR r / lastR q))) (redR r q (lastR r / lastR q)) else none) else some (u, r)
theorem divC_step {B n : Nat} {q r : List Rat} {u : List (Option Rat)} {X : List (Option Rat) × List Rat} (h : divC B q n u r = some X) (hl : q.length ≤ r.length) :
  ∃ m, szR [lastR r / lastR q] B = true ∧ szR (redR r q (lastR r / lastR q)) B = true ∧ divC B q m (u.set (r.length - q.length) (some (lastR r / lastR q))) (redR r q (lastR r / lastR q)) = some X := by
 cases n with
 | zero => cases h
 | succ n =>
  rw [divC, if_pos hl] at h
  split at h
  ·rename_i h2
   rw [Bool.and_eq_true] at h2
   exact ⟨n, h2.1, h2.2, h⟩
  ·cases h
theorem divC_end {B n : Nat} {q r : List Rat} {u : List (Option Rat)} {X : List (Option Rat) × List Rat} (h : divC B q n u r = some X) (hl : ¬ q.length ≤ r.length) : X = (u, r) := by
 cases n with
 | zero => cases h
 | succ n =>
  rw [divC, if_neg hl] at h
  injection h with h
  exact h.symm
def divS (B : Nat) (p q : List Rat) : Option (List Rat × List Rat) := if q = [] then some ([], []) else (divC B q (p.length + 2) (List.replicate (p.length + 1 - q.length) none) p).map fun x => (x.1.map fun o => o.getD 0, x.2)
theorem nil_pl {K : Nat} : ∀ (L : Nat → Prop) (ρ : Rho) (w : World) (v : Value), (SA.v (.slice none 0 0) : SA Dm).is L ρ w v → (PL [] K).is L ρ w v := by
 intro L ρ w v h w' _
 obtain rfl : v = _ := h
 exact ⟨none, 0, rfl, ⟨Nat.le_refl _, by decide⟩, fun h => absurd h (Nat.lt_irrefl 0)⟩
theorem Div0_con (p : List Rat) (K B : Nat) : Con Tryz.prog 35 [PL p K, PL [] B] (.tup [PL [] B, PL [] B]) := by
 refine Con.of (n := 43) Tryz.func35 rfl rfl rfl rfl rfl fun cx hfr => ?_
 refine sr rfl ?_
 refine xn ?_
 refine xn ?_
 refine RV.done ?_
 refine CV.seq ?_
 refine sr rfl ?_
 refine xm ?_
 refine p1 (ok_lenL plV_length u_poly rfl rfl bd rfl) ?_
 refine p1 (ok_eql rfl rfl bd rfl rfl) ?_
 refine RV.done ?_
 refine CV.cond rfl (fun hc => ?_) (fun hc => False.elim (by simp at hc))
 refine sr rfl ?_
 refine xn ?_
 refine xn ?_
 refine RV.done ?_
 refine CV.ret ?_
 exact fin2 rfl (.inr rfl) rfl rfl (is_pair nil_pl nil_pl)
section
variable (p q : List Rat) (B : Nat) (U : List (Option Rat)) (R : List Rat) (hB : B ≤ 300000) (hp : p.length ≤ 1000000) (hq : q.length ≤ 1000000) (hq0 : q ≠ []) (h : divC B q (p.length + 2) (List.replicate (p.length + 1 - q.length) none) p = some (U, R))
include hB hp hq hq0 h
theorem DivN_con : Con Tryz.prog 35 [PL p B, PL q B] (.tup [PL (U.map fun o => o.getD 0) B, PL R B]) := by
 have hql : 0 < q.length := List.length_pos_iff.2 hq0
 refine Con.of (n := 43) Tryz.func35 rfl rfl rfl rfl rfl fun cx hfr => ?_
 refine sr rfl ?_
 refine xn ?_
 refine xn ?_
 refine RV.done ?_
 refine CV.seq ?_
 refine sr rfl ?_
 refine xm ?_
 refine p1 (ok_lenL plV_length u_poly rfl rfl bd rfl) ?_
 refine p1 (ok_eql rfl rfl bd rfl rfl) ?_
 refine RV.done ?_
 refine CV.cond rfl (fun hc => False.elim (by simp at hc; exact hq0 hc)) (fun hc => ?_)
 refine CV.skip ?_
 refine sr rfl ?_
 refine xm ?_
 refine p1 (ok_lenL plV_length u_poly rfl rfl bd rfl) ?_
 refine xm ?_
 refine p1 (ok_lenL plV_length u_poly rfl rfl bd rfl) ?_
 refine p1 (ok_sub (c := (p.length : Int) - q.length) (by rw [wrapI (by omega) (by omega)]) rfl rfl bd rfl rfl) ?_
 refine p1 (ok_add (c := (p.length : Int) - q.length + 1) (by rw [wrapI (by omega) (by omega)]) rfl rfl bd rfl rfl) ?_
 refine p1 (ok_maxI (c := ((p.length + 1 - q.length : Nat) : Int)) (by split <;> omega) rfl rfl bd rfl rfl) ?_
 refine p2 (ok_make (r := 19) (Nat.le_refl _) (by omega) (by omega) u_poly inf_rat rfl rfl rfl rfl bd rfl rfl rfl rfl rfl) ?_
 refine xm ?_
 refine xn ?_
 refine xn ?_
 refine RV.done ?_
 refine CV.seq ?_
 refine CV.block ?_
 refine CV.loop (X := {s : Nat × List (Option Rat) × List Rat // divC B q s.1 s.2.1 s.2.2 = some (U, R) ∧ s.2.1.length = p.length + 1 - q.length ∧ s.2.2.length ≤ p.length}) (fun s => [(.s 7, .av (.one (PL s.1.2.2 B))), (.s 6, .av (.one (.sl 19 (p.length + 1 - q.length)))), (.b 19, .row 30 (some 4) (quV s.1.2.1 B)), (.s 1, .av (.one (PL q B)))]) (fun s => s.1.2.2.length) ⟨(p.length + 2, List.replicate (p.length + 1 - q.length) none, p), h, by rw [List.length_replicate], Nat.le_refl _⟩ (Sub.mk ⟨XV.le_rfl _, XV.le_rfl _, XV.le_row quV_zero, XV.le_rfl _, trivial⟩ rfl rfl) (fun s => ?_)
 obtain ⟨⟨n, u, r⟩, hs, hu, hr⟩ := s
 simp only at hs hu hr ⊢
 refine CV.seq ?_
 refine sr rfl ?_
 refine xm ?_
 refine p1 (ok_lenL plV_length u_poly rfl rfl bd rfl) ?_
 refine xm ?_
 refine p1 (ok_lenL plV_length u_poly rfl rfl bd rfl) ?_
 refine p1 (ok_geq rfl rfl bd rfl rfl) ?_
 refine RV.done ?_
 refine CV.cond rfl (fun hc => ?_) (fun hc => ?_)
 ·have hle : q.length ≤ r.length := (by have := of_decide_eq_true hc; omega)
  obtain ⟨m, hs1, hs2, hs3⟩ := divC_step hs hle
  have hrl := redR_len r q (lastR r / lastR q)
  refine CV.skip ?_
  refine CV.block ?_
  refine sr rfl ?_
  refine xm ?_
  refine xm ?_
  refine xd rfl ((ratio_con r q B B (by omega) (by omega) (by omega) hq).mono (fun _ _ _ _ h => h) (rt_le1 hs1)) Tryz.func79 (xb rfl rfl) hfr ?_
  refine p2 (ok_alloc (i := 0) rfl rfl bd zero_rat rfl rfl rfl rfl) ?_
  refine p1 (ok_store rfl rfl rfl rfl rfl rfl rfl (ty_rat).2 rfl rfl rfl rfl) ?_
  refine RV.done (sr rfl ?_)
  refine xm ?_
  refine xm ?_
  refine p1 (ok_lenL plV_length u_poly rfl rfl bd rfl) ?_
  refine xm ?_
  refine p1 (ok_lenL plV_length u_poly rfl rfl bd rfl) ?_
  refine p1 (ok_sub (c := ((r.length - q.length : Nat) : Int)) (by rw [wrapI (by omega) (by omega)]; omega) rfl rfl bd rfl rfl) ?_
  refine p1 (ok_load rfl rfl bd rfl rfl rfl ty_rat) ?_
  refine p1 (ok_idxR (i := r.length - q.length) (by omega) (by rw [quV_length]; omega) u_poly sz_rat rfl rfl bd rfl rfl rfl) ?_
  refine p1 (ok_storeR (i := r.length - q.length) (by rw [quV_length]; omega) rfl (by show 0 < 4; decide) rfl rfl rfl rfl rfl rfl sz_rat (.inl rfl) rfl rfl) ?_
  refine RV.done ?_
  refine CV.region rfl (fun h => nomatch h) ?_
  refine xm ?_
  refine xm ?_
  refine p1 (ok_load rfl rfl bd rfl rfl rfl ty_rat) ?_
  refine xd rfl ((reduce_con r q (lastR r / lastR q) B B B (by omega) (by omega) (by omega) (by omega) hle).mono (fun _ _ _ _ h => h) (pl_le1 hs2)) Tryz.func80 (.cons rfl Conv.any (xb rfl rfl)) hfr ?_
  refine xn ?_
  refine RV.done ?_
  exact ⟨⟨(m, u.set (r.length - q.length) (some (lastR r / lastR q)), redR r q (lastR r / lastR q)), hs3, by rw [List.length_set]; exact hu, by show (redR r q (lastR r / lastR q)).length ≤ p.length; omega⟩, Sub.mk ⟨XV.le_rfl _, XV.le_rfl _, XV.le_row quV_set, XV.le_rfl _, trivial⟩ rfl rfl, by show (redR r q (lastR r / lastR q)).length < r.length; omega⟩
 ·refine CV.exit ?_
  refine CV.seq ?_
  have hX := divC_end hs (by have := of_decide_eq_false hc; omega)
  obtain ⟨rfl, rfl⟩ : U = u ∧ R = r := (Prod.mk.inj hX)
  refine CV.freeze (r := 19) (t := 6) (G := Dm.gen (lstG (some 4) (quV U B))) (cx.bw hfr) rfl rfl (by rw [quV_length]; exact hu.symm) rfl rfl (lstG_Lst _ _) (lstG_Lst0 _ _) ?_
  refine CV.region rfl (fun h => nomatch h) ?_
  refine xm ?_
  refine xm ?_
  refine xn ?_
  refine xn ?_
  refine RV.done ?_
  refine CV.ret ?_
  exact fin2 rfl (.inr rfl) rfl rfl (is_pair quV_pl (fun _ _ _ _ h => h))
end
theorem PDiv_con (p q : List Rat) (B : Nat) {U R : List Rat} (hB : B ≤ 300000) (hp : p.length ≤ 1000000) (hq : q.length ≤ 1000000) (h : divS B p q = some (U, R)) : Con Tryz.prog 35 [PL p B, PL q B] (.tup [PL U B, PL R B]) := by
 unfold divS at h
 by_cases h0 : q = []
 ·rw [if_pos h0] at h
  injection h with h
  obtain ⟨rfl, rfl⟩ := Prod.mk.inj h
  subst h0
  exact Div0_con p B B
 ·rw [if_neg h0] at h
  obtain ⟨⟨u, r⟩, h1, h2⟩ := Option.map_eq_some_iff.1 h
  obtain ⟨rfl, rfl⟩ := Prod.mk.inj h2
  exact DivN_con p q B u r hB hp hq h0 h1
abbrev wR (z : Int) : Rat := Rat.divInt z 1
theorem w_num (z : Int) : (wR z).num = z := (whole_parts z).1
theorem w_qd (z : Int) : qd (wR z) = 0 := by
 have h := (whole_parts z).2
 have h1 : (Rat.divInt z 1).den = 1 := by omega
 show (if (Rat.divInt z 1).den = 1 then (0 : Int) else _) = 0
 rw [if_pos h1]
section
variable {cx : Cx Dm} {n : Nat} {σ : St Dm} {o : Oper} {d : Nat} {x : Operand}
theorem ok_buildWp {p : Int} {k : Nat} (ho : o.op = .build 30 #[(0, x)]) (hd : o.dst = some d) (hn : d < n) (hx : opd σ x = .av (.one (.d (.int p k)))) : OpOk Tryz.prog cx n σ o (opk x) [(.s d, .av (.one (RT (wR p) k)))] := by
 have h := ok_build1 (cx := cx) ho hd hn hx
 show OpOk _ _ _ _ _ _ [(.s d, .av (.one (.d (Dm.rt (wR p).num (qd (wR p)) k))))]
 rw [w_num, w_qd]
 exact h
end
theorem parts_con (a : Rat) (K : Nat) : Con Tryz.prog 123 [RT a K] (.tup [RT (wR a.num) K, RT (wR (a.den : Int)) (K + 3)]) := by
 refine Con.of (n := 10) Tryz.func123 rfl rfl rfl rfl rfl fun cx hfr => ?_
 refine sr rfl ?_
 refine p2 (ok_box (i := 0) rfl rfl bd rfl rfl rfl rfl rfl) ?_
 refine p2 (ok_alloc (i := 1) rfl rfl bd zero_rat rfl rfl rfl rfl) ?_
 refine p2 (ok_alloc (i := 2) rfl rfl bd zero_rat rfl rfl rfl rfl) ?_
 refine RV.done ?_
 refine CV.seq ?_
 refine CV.region rfl (fun _ => by kernel_rfl) ?_
 refine p1 (ok_fieldAddr fa_rat0 rfl rfl bd rfl) ?_
 refine p1 (ok_loadf 0 fld_num rfl rfl bd rfl rfl rfl rfl ty_int) ?_
 refine p1 (ok_buildWp rfl rfl bd rfl) ?_
 refine p1 (ok_load rfl rfl bd rfl rfl rfl ty_rat) ?_
 refine xc (Den_con' _ _) Tryz.func89 (xa rfl) hfr ?_
 refine p1 (ok_buildWp rfl rfl bd rfl) ?_
 refine p1 (ok_store rfl rfl rfl rfl rfl rfl rfl (ty_rat).2 rfl rfl rfl rfl) ?_
 refine p1 (ok_store rfl rfl rfl rfl rfl rfl rfl (ty_rat).2 rfl rfl rfl rfl) ?_
 refine RV.drawn (by kernel_rfl) ?_
 refine CV.ret ?_
 exact fin2 rfl (.inr rfl) ⟨_, _, _, _, _, rfl, rfl, rfl, ty_rat⟩ ⟨_, _, _, _, _, rfl, rfl, rfl, ty_rat⟩ is_rfl2
def mulM (q p : List Rat) : Rat := lastR p / lastR q
def mulS (q p : List Rat) : List Rat := scaleR p (wR ((mulM q p).den : Int))
def mulN (q p : List Rat) : List Rat := redR (mulS q p) q (wR (mulM q p).num)
def mulOk (B : Nat) (q p : List Rat) : Bool := (szR [mulM q p] B && szR (mulS q p) B) && (szR (mulN q p) B && (decide (q.length ≤ (mulS q p).length) && decide ((mulN q p).length < p.length)))
theorem mulOk_of {B : Nat} {q p : List Rat} (h : mulOk B q p = true) : szR [mulM q p] B = true ∧ szR (mulS q p) B = true ∧ szR (mulN q p) B = true ∧ q.length ≤ (mulS q p).length ∧ (mulN q p).length < p.length := by
 unfold mulOk at h
 rw [Bool.and_eq_true, Bool.and_eq_true, Bool.and_eq_true, Bool.and_eq_true] at h
 exact ⟨h.1.1, h.1.2, h.2.1, of_decide_eq_true h.2.2.1, of_decide_eq_true h.2.2.2⟩
def mulC (B : Nat) (q : List Rat) : Nat → List Rat → Option (List Rat)
 | 0, _ => none
 | n + 1, p => if q.length ≤ p.length then (if mulOk B q p = true then mulC B q n (mulN q p) else none) else some p
theorem mulC_step {B n : Nat} {q p R : List Rat} (h : mulC B q n p = some R) (hl : q.length ≤ p.length) : mulOk B q p = true ∧ ∃ m, mulC B q m (mulN q p) = some R := by
 cases n with
 | zero => cases h
 | succ n =>
  rw [mulC, if_pos hl] at h
  split at h
  ·rename_i h2; exact ⟨h2, n, h⟩
  ·cases h
theorem mulC_end {B n : Nat} {q p R : List Rat} (h : mulC B q n p = some R) (hl : ¬ q.length ≤ p.length) : R = p := by
 cases n with
 | zero => cases h
 | succ n =>
  rw [mulC, if_neg hl] at h
  injection h with h
  exact h.symm
theorem scaleR_len (p : List Rat) (a : Rat) : (scaleR p a).length ≤ p.length := by
 unfold scaleR
 refine Nat.le_trans (trimR_len _) ?_
 rw [tab_length]
 exact Nat.le_refl _
section
variable (p q R : List Rat) (B n : Nat) (hB : B ≤ 300000) (hp : p.length ≤ 1000000) (hq : q.length ≤ 1000000) (h : mulC B q n p = some R)
include hB hp hq h
theorem multiple_con : Con Tryz.prog 83 [PL p B, PL q B] (.one (PL R B)) := by
 refine Con.of (n := 26) Tryz.func83 rfl rfl rfl rfl rfl fun cx hfr => ?_
 refine sr rfl ?_
 refine xn ?_
 refine RV.done ?_
 refine CV.seq ?_
 refine CV.block ?_
 refine CV.loop (X := {s : Nat × List Rat // mulC B q s.1 s.2 = some R ∧ s.2.length ≤ p.length}) (fun s => [(.s 0, .av (.one (PL s.1.2 B))), (.s 1, .av (.one (PL q B)))]) (fun s => s.1.2.length) ⟨(n, p), h, Nat.le_refl _⟩ (Sub.mk ⟨XV.le_rfl _, XV.le_rfl _, trivial⟩ rfl rfl) (fun s => ?_)
 obtain ⟨⟨n, r⟩, hs, hr⟩ := s
 simp only at hs hr ⊢
 refine CV.seq ?_
 refine sr rfl ?_
 refine xm ?_
 refine p1 (ok_lenL plV_length u_poly rfl rfl bd rfl) ?_
 refine xm ?_
 refine p1 (ok_lenL plV_length u_poly rfl rfl bd rfl) ?_
 refine p1 (ok_geq rfl rfl bd rfl rfl) ?_
 refine RV.done ?_
 refine CV.cond rfl (fun hc => ?_) (fun hc => ?_)
 ·have hle : q.length ≤ r.length := (by have := of_decide_eq_true hc; omega)
  obtain ⟨hok, m, hs2⟩ := mulC_step hs hle
  obtain ⟨o1, o2, o3, o4, o5⟩ := mulOk_of hok
  have hsl := scaleR_len r (wR ((mulM q r).den : Int))
  refine CV.skip ?_
  refine CV.block ?_
  refine sr rfl ?_
  refine xm ?_
  refine xm ?_
  refine xd rfl ((ratio_con r q B B (by omega) (by omega) (by omega) hq).mono (fun _ _ _ _ h => h) (rt_le1 o1)) Tryz.func79 (xb rfl rfl) hfr ?_
  refine xc (parts_con (mulM q r) B) Tryz.func123 (xa rfl) hfr ?_
  refine xm ?_
  refine p1 (ok_extract rfl rfl bd rfl rfl) ?_
  refine p1 (ok_extract rfl rfl bd rfl rfl) ?_
  refine p2 (ok_alloc (i := 0) rfl rfl bd zero_rat rfl rfl rfl rfl) ?_
  refine p2 (ok_alloc (i := 1) rfl rfl bd zero_rat rfl rfl rfl rfl) ?_
  refine p1 (ok_store rfl rfl rfl rfl rfl rfl rfl (ty_rat).2 rfl rfl rfl rfl) ?_
  refine p1 (ok_store rfl rfl rfl rfl rfl rfl rfl (ty_rat).2 rfl rfl rfl rfl) ?_
  refine RV.done ?_
  refine CV.region rfl (fun _ => by kernel_rfl) ?_
  refine xm ?_
  refine p1 (ok_load rfl rfl bd rfl rfl rfl ty_rat) ?_
  refine xd rfl ((PScale_con r (wR ((mulM q r).den : Int)) B (B + 3) (by omega) (by omega) (by omega)).mono (fun _ _ _ _ h => h) (pl_le1 o2)) Tryz.func27 (xb rfl rfl) hfr ?_
  refine xm ?_
  refine p1 (ok_load rfl rfl bd rfl rfl rfl ty_rat) ?_
  refine xd rfl ((reduce_con (mulS q r) q (wR (mulM q r).num) B B B (by omega) (by omega) (by omega) (by show (scaleR r _).length ≤ _; omega) o4).mono (fun _ _ _ _ h => h) (pl_le1 o3)) Tryz.func80 (.cons rfl Conv.any (xb rfl rfl)) hfr ?_
  refine xn ?_
  refine RV.drawn (by kernel_rfl) ?_
  exact ⟨⟨(m, mulN q r), hs2, by show (mulN q r).length ≤ p.length; omega⟩, Sub.mk ⟨XV.le_rfl _, XV.le_rfl _, trivial⟩ rfl rfl, o5⟩
 ·refine CV.exit ?_
  refine CV.seq ?_
  have hX := mulC_end hs (by have := of_decide_eq_false hc; omega)
  subst hX
  refine CV.region rfl (fun h => nomatch h) ?_
  refine xm ?_
  refine xn ?_
  refine RV.done ?_
  refine CV.ret ?_
  exact fin1 rfl (.inr rfl) rfl is_rfl
end
theorem mulC_len {B : Nat} {q : List Rat} : ∀ {n : Nat} {p R : List Rat}, mulC B q n p = some R → R.length ≤ p.length
 | 0, _, _, h => by cases h
 | n + 1, p, R, h => by
  rw [mulC] at h
  split at h
  ·split at h
   ·rename_i h2
    have := mulC_len h
    have := (mulOk_of h2).2.2.2.2
    omega
   ·cases h
  ·injection h with h
   subst h
   exact Nat.le_refl _
def primC (B : Nat) : List Rat → Rat → Option Rat
 | [], d => some d
 | a :: l, d => if (szR [a / d] B && szR [d / wR ((a / d).den : Int)] B) = true then primC B l (d / wR ((a / d).den : Int)) else none
theorem primC_step {B : Nat} {a d D : Rat} {l : List Rat} (h : primC B (a :: l) d = some D) : szR [a / d] B = true ∧ szR [d / wR ((a / d).den : Int)] B = true ∧ primC B l (d / wR ((a / d).den : Int)) = some D := by
 rw [primC] at h
 split at h
 ·rename_i h2
  rw [Bool.and_eq_true] at h2
  exact ⟨h2.1, h2.2, h⟩
 ·cases h
theorem drop_getD {l : List Rat} {k : Nat} (h : k < l.length) : l.drop k = l.getD k 0 :: l.drop (k + 1) := by
 rw [List.drop_eq_getElem_cons h]
 simp [List.getD_eq_getElem?_getD, List.getElem?_eq_getElem h]
section
variable (p : List Rat) (D : Rat) (B : Nat) (hB : B ≤ 300000) (hp : p.length ≤ 1000000) (h : primC B p (lastR p) = some D) (h1 : szR [1 / D] B = true) (h2 : szR (scaleR p (1 / D)) B = true)
include hB hp h h1 h2
theorem primitive0_con : Con Tryz.prog 82 [PL p B] (.one (PL (scaleR p (1 / D)) B)) := by
 refine Con.of (n := 31) Tryz.func82 rfl rfl rfl rfl rfl fun cx hfr => ?_
 refine sr rfl ?_
 refine xn ?_
 refine RV.done (sr rfl ?_)
 refine xm ?_
 refine xc (last_con _ _ hp) Tryz.func106 (xa rfl) hfr ?_
 refine p2 (ok_alloc (i := 0) rfl rfl bd zero_rat rfl rfl rfl rfl) ?_
 refine p1 (ok_store rfl rfl rfl rfl rfl rfl rfl (ty_rat).2 rfl rfl rfl rfl) ?_
 refine RV.done ?_
 refine CV.seq ?_
 refine sr rfl ?_
 refine xm ?_
 refine p1 (ok_lenL plV_length u_poly rfl rfl bd rfl) ?_
 refine xm ?_
 refine RV.done ?_
 refine CV.block ?_
 refine CV.loop (X := {s : Nat × Rat // s.1 ≤ p.length ∧ primC B (p.drop s.1) s.2 = some D}) (fun s => [(.s 12, .av (.one (.v (.int .i64 (s.1.1 : Int))))), (.s 11, .av (.one (.v (.int .i64 (p.length : Int))))), (.s 10, .av (.one (PL p B))), (.s 0, .av (.one (PL p B))), (.s 3, .av (.one (.ptr 0 0))), (.b 0, .blk 30 [(some 4, RT s.1.2 B)])]) (fun s => p.length - s.1.1) ⟨(0, lastR p), Nat.zero_le _, h⟩ (Sub.mk ⟨XV.le_rfl _, XV.le_rfl _, XV.le_rfl _, XV.le_rfl _, XV.le_rfl _, XV.le_rfl _, trivial⟩ rfl rfl) (fun s => ?_)
 obtain ⟨⟨k, e⟩, hk, hs⟩ := s
 simp only at hk hs ⊢
 refine sr rfl ?_
 refine p1 (ok_lss rfl rfl bd rfl rfl) ?_
 refine RV.done ?_
 refine CV.seq ?_
 refine CV.cond rfl (fun hc => ?_) (fun hc => ?_)
 ·have hlt : k < p.length := (by have := of_decide_eq_true hc; omega)
  rw [drop_getD hlt] at hs
  obtain ⟨o1, o2, o3⟩ := primC_step hs
  refine CV.skip ?_
  refine CV.seq ?_
  refine CV.block ?_
  refine sr rfl ?_
  refine p1 (ok_idxL (k := some 4) (i := k) (plV_at hlt) u_poly sz_rat (by decide) rfl rfl bd rfl rfl) ?_
  refine p1 (ok_loadP ty_rat (by decide) rfl rfl bd rfl) ?_
  refine p2 (ok_alloc (i := 1) rfl rfl bd zero_rat rfl rfl rfl rfl) ?_
  refine p1 (ok_store rfl rfl rfl rfl rfl rfl rfl (ty_rat).2 rfl rfl rfl rfl) ?_
  refine RV.done (sr rfl ?_)
  refine p1 (ok_load rfl rfl bd rfl rfl rfl ty_rat) ?_
  refine p1 (ok_load rfl rfl bd rfl rfl rfl ty_rat) ?_
  refine xd rfl ((RDiv_con (p.getD k 0) e B B (by omega) (by omega)).mono (fun _ _ _ _ h => h) (rt_le1 o1)) Tryz.func121 (xb rfl rfl) hfr ?_
  refine xc (parts_con (p.getD k 0 / e) B) Tryz.func123 (xa rfl) hfr ?_
  refine xm ?_
  refine p1 (ok_extract rfl rfl bd rfl rfl) ?_
  refine p1 (ok_extract rfl rfl bd rfl rfl) ?_
  refine p2 (ok_alloc (i := 2) rfl rfl bd zero_rat rfl rfl rfl rfl) ?_
  refine p2 (ok_alloc (i := 3) rfl rfl bd zero_rat rfl rfl rfl rfl) ?_
  refine p1 (ok_store rfl rfl rfl rfl rfl rfl rfl (ty_rat).2 rfl rfl rfl rfl) ?_
  refine p1 (ok_store rfl rfl rfl rfl rfl rfl rfl (ty_rat).2 rfl rfl rfl rfl) ?_
  refine RV.done ?_
  refine CV.region rfl (fun h => nomatch h) ?_
  refine p1 (ok_load rfl rfl bd rfl rfl rfl ty_rat) ?_
  refine p1 (ok_load rfl rfl bd rfl rfl rfl ty_rat) ?_
  refine xd rfl ((RDiv_con e (wR ((p.getD k 0 / e).den : Int)) B (B + 3) (by omega) (by omega)).mono (fun _ _ _ _ h => h) (rt_le1 o2)) Tryz.func121 (xb rfl rfl) hfr ?_
  refine p1 (ok_store rfl rfl rfl rfl rfl rfl rfl (ty_rat).2 rfl rfl rfl rfl) ?_
  refine RV.done ?_
  refine CV.region rfl (fun h => nomatch h) ?_
  refine p1 (ok_add (c := ((k + 1 : Nat) : Int)) (by rw [wrapI (by omega) (by omega)]; omega) rfl rfl bd rfl rfl) ?_
  refine xm ?_
  refine RV.done ?_
  exact ⟨⟨(k + 1, e / wR ((p.getD k 0 / e).den : Int)), hlt, o3⟩, Sub.mk ⟨XV.le_rfl _, XV.le_rfl _, XV.le_rfl _, XV.le_rfl _, XV.le_rfl _, XV.le_rfl _, trivial⟩ rfl rfl, by show p.length - (k + 1) < p.length - k; omega⟩
 ·refine CV.exit ?_
  refine CV.seq ?_
  have hkp : k = p.length := (by have := of_decide_eq_false hc; omega)
  rw [hkp, List.drop_length, primC] at hs
  obtain rfl := Option.some.inj hs
  refine CV.region rfl (fun h => nomatch h) ?_
  refine xm ?_
  refine p1 (ok_load rfl rfl bd rfl rfl rfl ty_rat) ?_
  refine xd rfl ((inverse_con _ _ (by omega)).mono (fun _ _ _ _ h => h) (rt_le1 h1)) Tryz.func124 (xa rfl) hfr ?_
  refine xd rfl ((PScale_con p (1 / e) B B (by omega) (by omega) hp).mono (fun _ _ _ _ h => h) (pl_le1 h2)) Tryz.func27 (xb rfl rfl) hfr ?_
  refine xn ?_
  refine RV.done ?_
  refine CV.ret ?_
  exact fin1 rfl (.inr rfl) rfl is_rfl
end
def primS (B : Nat) (p : List Rat) : Option (List Rat) := (primC B p (lastR p)).bind fun D => if (szR [1 / D] B && szR (scaleR p (1 / D)) B) = true then some (scaleR p (1 / D)) else none
theorem primS_of {B : Nat} {p R : List Rat} (h : primS B p = some R) : ∃ D, primC B p (lastR p) = some D ∧ szR [1 / D] B = true ∧ szR (scaleR p (1 / D)) B = true ∧ R = scaleR p (1 / D) := by
 unfold primS at h
 obtain ⟨D, h1, h2⟩ := Option.bind_eq_some_iff.1 h
 split at h2
 ·rename_i h3
  rw [Bool.and_eq_true] at h3
  injection h2 with h2
  exact ⟨D, h1, h3.1, h3.2, h2.symm⟩
 ·cases h2
theorem primS_len {B : Nat} {p R : List Rat} (h : primS B p = some R) : R.length ≤ p.length := by
 obtain ⟨D, _, _, _, rfl⟩ := primS_of h
 exact scaleR_len _ _
theorem primitive_con (p R : List Rat) (B : Nat) (hB : B ≤ 300000) (hp : p.length ≤ 1000000) (h : primS B p = some R) : Con Tryz.prog 82 [PL p B] (.one (PL R B)) := by
 obtain ⟨D, h1, h2, h3, rfl⟩ := primS_of h
 exact primitive0_con p D B hB hp h1 h2 h3
def gcdC (B : Nat) : Nat → List Rat → List Rat → Option (List Rat)
 | 0, _, _ => none
 | n + 1, p, q => if 0 < q.length then (mulC B q (p.length + 2) p).bind (fun r => (primS B r).bind fun s => if s.length < q.length then gcdC B n q s else none) else some p
theorem gcdC_step {B n : Nat} {p q R : List Rat} (h : gcdC B n p q = some R) (hl : 0 < q.length) : ∃ m r s, mulC B q (p.length + 2) p = some r ∧ primS B r = some s ∧ s.length < q.length ∧ gcdC B m q s = some R := by
 cases n with
 | zero => cases h
 | succ n =>
  rw [gcdC, if_pos hl] at h
  obtain ⟨r, h1, h⟩ := Option.bind_eq_some_iff.1 h
  obtain ⟨s, h2, h⟩ := Option.bind_eq_some_iff.1 h
  split at h
  ·rename_i h3; exact ⟨n, r, s, h1, h2, h3, h⟩
  ·cases h
theorem gcdC_end {B n : Nat} {p q R : List Rat} (h : gcdC B n p q = some R) (hl : ¬ 0 < q.length) : R = p := by
 cases n with
 | zero => cases h
 | succ n =>
  rw [gcdC, if_neg hl] at h
  injection h with h
  exact h.symm
section
variable (p q pa qa R : List Rat) (B n : Nat) (hB : B ≤ 300000) (hp : p.length ≤ 1000000) (hq : q.length ≤ 1000000) (h1 : primS B p = some pa) (h2 : primS B q = some qa) (h : gcdC B n pa qa = some R) (hm : szR (monicR R) B = true)
include hB hp hq h1 h2 h hm
theorem Gcd0_con : Con Tryz.prog 37 [PL p B, PL q B] (.one (PL (monicR R) B)) := by
 have hpa := primS_len h1
 have hqa := primS_len h2
 refine Con.of (n := 19) Tryz.func37 rfl rfl rfl rfl rfl fun cx hfr => ?_
 refine sr rfl ?_
 refine xn ?_
 refine RV.done (sr rfl ?_)
 refine xm ?_
 refine xc (primitive_con p pa B hB hp h1) Tryz.func82 (xa rfl) hfr ?_
 refine xm ?_
 refine xc (primitive_con q qa B hB hq h2) Tryz.func82 (xa rfl) hfr ?_
 refine xn ?_
 refine xn ?_
 refine RV.done ?_
 refine CV.seq ?_
 refine CV.block ?_
 refine CV.loop (X := {s : Nat × List Rat × List Rat // gcdC B s.1 s.2.1 s.2.2 = some R ∧ s.2.1.length ≤ 1000000 ∧ s.2.2.length ≤ 1000000}) (fun s => [(.s 0, .av (.one (PL s.1.2.1 B))), (.s 1, .av (.one (PL s.1.2.2 B)))]) (fun s => s.1.2.2.length) ⟨(n, pa, qa), h, by show pa.length ≤ _; omega, by show qa.length ≤ _; omega⟩ (Sub.mk ⟨XV.le_rfl _, XV.le_rfl _, trivial⟩ rfl rfl) (fun s => ?_)
 obtain ⟨⟨n, r, s⟩, hs, hr, hs1⟩ := s
 simp only at hs hr hs1 ⊢
 refine CV.seq ?_
 refine sr rfl ?_
 refine xm ?_
 refine p1 (ok_lenL plV_length u_poly rfl rfl bd rfl) ?_
 refine p1 (ok_gtr rfl rfl bd rfl rfl) ?_
 refine RV.done ?_
 refine CV.cond rfl (fun hc => ?_) (fun hc => ?_)
 ·have hlt : 0 < s.length := (by have := of_decide_eq_true hc; omega)
  obtain ⟨m, r1, s1, o1, o2, o3, o4⟩ := gcdC_step hs hlt
  have hrl := mulC_len o1
  refine CV.skip ?_
  refine CV.block ?_
  refine CV.region rfl (fun h => nomatch h) ?_
  refine xm ?_
  refine xm ?_
  refine xm ?_
  refine xc (multiple_con r s r1 B _ hB hr hs1 o1) Tryz.func83 (xb rfl rfl) hfr ?_
  refine xd rfl (primitive_con r1 s1 B hB (by omega) o2) Tryz.func82 (xa rfl) hfr ?_
  refine xn ?_
  refine xn ?_
  refine RV.done ?_
  exact ⟨⟨(m, s, s1), o4, hs1, by show s1.length ≤ _; omega⟩, Sub.mk ⟨XV.le_rfl _, XV.le_rfl _, trivial⟩ rfl rfl, o3⟩
 ·refine CV.exit ?_
  refine CV.seq ?_
  have hX := gcdC_end hs (by have := of_decide_eq_false hc; omega)
  subst hX
  refine CV.region rfl (fun h => nomatch h) ?_
  refine xm ?_
  refine xd rfl ((monic_con R B (by omega) hr).mono (fun _ _ _ _ h => h) (pl_le1 hm)) Tryz.func84 (xa rfl) hfr ?_
  refine xn ?_
  refine RV.done ?_
  refine CV.ret ?_
  exact fin1 rfl (.inr rfl) rfl is_rfl
end
def gcdS (B : Nat) (p q : List Rat) : Option (List Rat) := (primS B p).bind fun pa => (primS B q).bind fun qa => (gcdC B (p.length + q.length + 3) pa qa).bind fun R => if szR (monicR R) B = true then some (monicR R) else none
theorem PGcd_con (p q G : List Rat) (B : Nat) (hB : B ≤ 300000) (hp : p.length ≤ 1000000) (hq : q.length ≤ 1000000) (h : gcdS B p q = some G) : Con Tryz.prog 37 [PL p B, PL q B] (.one (PL G B)) := by
 unfold gcdS at h
 obtain ⟨pa, h1, h⟩ := Option.bind_eq_some_iff.1 h
 obtain ⟨qa, h2, h⟩ := Option.bind_eq_some_iff.1 h
 obtain ⟨R, h3, h⟩ := Option.bind_eq_some_iff.1 h
 split at h
 ·rename_i hm
  injection h with h
  subst h
  exact Gcd0_con p q pa qa R B _ hB hp hq h1 h2 h3 hm
 ·cases h
section
variable (p G U R : List Rat) (B : Nat) (hB : B ≤ 300000) (hp : p.length ≤ 1000000) (h0 : szR (deriveR p) B = true) (h1 : gcdS B p (deriveR p) = some G) (hG : G.length ≤ 1000000) (h2 : divS B p G = some (U, R)) (hU : U.length ≤ 1000000) (hm : szR (monicR U) B = true)
include hB hp h0 h1 h2 hG hU hm
theorem Free0_con : Con Tryz.prog 39 [PL p B] (.one (PL (monicR U) B)) := by
 have hdl : (deriveR p).length ≤ p.length - 1 := (by unfold deriveR; exact Nat.le_trans (trimR_len _) (by rw [tab_length]; exact Nat.le_refl _))
 refine Con.of (n := 16) Tryz.func39 rfl rfl rfl rfl rfl fun cx hfr => ?_
 refine sr rfl ?_
 refine xn ?_
 refine RV.done (sr rfl ?_)
 refine xm ?_
 refine xm ?_
 refine xm ?_
 refine xd rfl ((PDerive_con p B (by omega) hp).mono (fun _ _ _ _ h => h) (pl_le1 h0)) Tryz.func31 (xa rfl) hfr ?_
 refine xd rfl (PGcd_con p (deriveR p) G B hB hp (by omega) h1) Tryz.func37 (xb rfl rfl) hfr ?_
 refine xc (PDiv_con p G B hB hp hG h2) Tryz.func35 (xb rfl rfl) hfr ?_
 refine xm ?_
 refine p1 (ok_extract rfl rfl bd rfl rfl) ?_
 refine p1 (ok_extract rfl rfl bd rfl rfl) ?_
 refine xn ?_
 refine xn ?_
 refine RV.done (sr rfl ?_)
 refine xm ?_
 refine xd rfl ((monic_con U B (by omega) hU).mono (fun _ _ _ _ h => h) (pl_le1 hm)) Tryz.func84 (xa rfl) hfr ?_
 refine xn ?_
 refine RV.done ?_
 refine CV.ret ?_
 exact fin1 rfl (.inr rfl) rfl is_rfl
end
def freeS (B : Nat) (p : List Rat) : Option (List Rat) := if szR (deriveR p) B = true then (gcdS B p (deriveR p)).bind fun G => (divS B p G).bind fun x => if (decide (G.length ≤ 1000000) && (decide (x.1.length ≤ 1000000) && szR (monicR x.1) B)) = true then some (monicR x.1) else none else none
theorem PFree_con (p F : List Rat) (B : Nat) (hB : B ≤ 300000) (hp : p.length ≤ 1000000) (h : freeS B p = some F) : Con Tryz.prog 39 [PL p B] (.one (PL F B)) := by
 unfold freeS at h
 split at h
 ·rename_i h0
  obtain ⟨G, h1, h⟩ := Option.bind_eq_some_iff.1 h
  obtain ⟨⟨U, R⟩, h2, h⟩ := Option.bind_eq_some_iff.1 h
  split at h
  ·rename_i hm
   rw [Bool.and_eq_true, Bool.and_eq_true] at hm
   injection h with h
   subst h
   exact Free0_con p G U R B hB hp h0 h1 (of_decide_eq_true hm.1) h2 (of_decide_eq_true hm.2.1) hm.2.2
  ·cases h
 ·cases h
theorem PValid_con (p : List Rat) (K : Nat) (hK : K ≤ 1000000) (hp : p.length ≤ 1000000) : Con Tryz.prog 15 [PL p K] (.one (.v (.bool (decide (¬ (p ≠ [] ∧ lastR p = 0)))))) := by
 refine Con.of (n := 18) Tryz.func15 rfl rfl rfl rfl rfl fun cx hfr => ?_
 refine sr rfl ?_
 refine xn ?_
 refine RV.done ?_
 refine CV.seq ?_
 refine sr rfl ?_
 refine xm ?_
 refine p1 (ok_lenL plV_length u_poly rfl rfl bd rfl) ?_
 refine xm ?_
 refine RV.done ?_
 refine CV.block ?_
 refine CV.loop (X := {k : Nat // k ≤ p.length}) (fun k => [(.s 7, .av (.one (.v (.int .i64 (k.1 : Int))))), (.s 6, .av (.one (.v (.int .i64 (p.length : Int))))), (.s 5, .av (.one (PL p K))), (.s 0, .av (.one (PL p K)))]) (fun k => p.length - k.1) ⟨0, Nat.zero_le _⟩ (Sub.mk ⟨XV.le_rfl _, XV.le_rfl _, XV.le_rfl _, XV.le_rfl _, trivial⟩ rfl rfl) (fun k => ?_)
 obtain ⟨k, hk⟩ := k
 simp only
 refine sr rfl ?_
 refine p1 (ok_lss rfl rfl bd rfl rfl) ?_
 refine RV.done ?_
 refine CV.seq ?_
 refine CV.cond rfl (fun hc => ?_) (fun hc => ?_)
 ·have hlt : k < p.length := (by have := of_decide_eq_true hc; omega)
  refine CV.skip ?_
  refine CV.seq ?_
  refine CV.block ?_
  refine sr rfl ?_
  refine p1 (ok_idxL (k := some 4) (i := k) (plV_at hlt) u_poly sz_rat (by decide) rfl rfl bd rfl rfl) ?_
  refine p1 (ok_loadP ty_rat (by decide) rfl rfl bd rfl) ?_
  refine p2 (ok_alloc (i := 0) rfl rfl bd zero_rat rfl rfl rfl rfl) ?_
  refine p1 (ok_store rfl rfl rfl rfl rfl rfl rfl (ty_rat).2 rfl rfl rfl rfl) ?_
  refine RV.done (sr rfl ?_)
  refine p1 (ok_load rfl rfl bd rfl rfl rfl ty_rat) ?_
  refine xd rfl (RValid_con _ _ (by omega)) Tryz.func56 (xa rfl) hfr ?_
  refine p1 (ok_not rfl rfl bd rfl) ?_
  refine RV.done ?_
  refine CV.no rfl ?_
  refine CV.skip ?_
  refine CV.region rfl (fun h => nomatch h) ?_
  refine p1 (ok_add (c := ((k + 1 : Nat) : Int)) (by rw [wrapI (by omega) (by omega)]; omega) rfl rfl bd rfl rfl) ?_
  refine xm ?_
  refine RV.done ?_
  exact ⟨⟨k + 1, hlt⟩, Sub.mk ⟨XV.le_rfl _, XV.le_rfl _, XV.le_rfl _, XV.le_rfl _, trivial⟩ rfl rfl, by show p.length - (k + 1) < p.length - k; omega⟩
 ·refine CV.exit ?_
  refine sr rfl ?_
  refine xm ?_
  refine xc (padded_con _ _ hp) Tryz.func57 (xa rfl) hfr ?_
  refine p1 (ok_not rfl rfl bd rfl) ?_
  refine xn ?_
  refine RV.done ?_
  refine CV.ret ?_
  exact fin1 rfl (.inr rfl) rfl (is_bool (by rw [decide_not]))
end Vc
end Go.Proofs.YtcblbepaigdlgaaGreat

namespace Go.Proofs.YtcblbepaigdlgaaGreat
open Go.RowKit
open Go.Lib (hid)
open Dg Zn Tx
namespace Vc
section
variable (l d : List UInt8)
end
end Vc
end Go.Proofs.YtcblbepaigdlgaaGreat
