/-
  numeral and Parse of package integer, for any text.
  Parse of package integer, for any text; Text.
  Text of package integer; strings.Cut at one byte; Parse and Text of package rat.
  Rows of numbers as data; functions that return a new row; Encode of package integer and of the references; equal bytes.
  Layer 5's examples hold.
  Towards RatRounds: numbers at any place, Whole, Floor, Ceil, sums of products.
  RatRounds: Dot of both sides, and the law.
  RatMakes: numbers of any digits, Valid of both sides, and the law.
  Plain: the fraction of least numerator and denominator between two others.
  Between of both sides, in general.
-/
import Derived.Test.YtcblbepaigdlgaaGreatJN37
import Derived.Test.YtcblbepaigdlgaaGreatJN15
import Derived.Test.YtcblbepaigdlgaaGreatJN36
import Derived.Test.YtcblbepaigdlgaaGreatJN13
import Derived.Test.YtcblbepaigdlgaaGreatJN25
import Derived.Test.YtcblbepaigdlgaaGreatJN12
set_option linter.unusedVariables false
set_option linter.unusedSimpArgs false
set_option linter.unusedSectionVars false
namespace Go.Proofs.YtcblbepaigdlgaaGreat
open Go.RowKit
open Go.Lib (hid)
open Dg Zn Tx
namespace Vc
section
variable (l d : List UInt8) (ng : Bool)
end
set_option linter.unusedSectionVars false

/-! Rows of numbers. -/
def ziV (k : IntKind) (zs : List Int) : List (SA Dm) := zs.map fun z => .v (.int k z)
abbrev ZI (k : IntKind) (zs : List Int) : SA Dm := .d (Dm.gen (lstG none (ziV k zs)))
theorem ziV_length {k : IntKind} (l : List Int) : (ziV k l).length = l.length := by simp [ziV]
theorem ziV_at {k : IntKind} {l : List Int} {i : Nat} (h : i < l.length) : (ziV k l)[i]? = some (.v (.int k (l.getD i 0))) := by
 simp [ziV, List.getElem?_eq_getElem h, List.getD_eq_getElem?_getD]
theorem ziV_ats {k : IntKind} {w : World} : ∀ {l : List Int}, Ats w none (ziV k l) (l.map (Value.int k))
 | [] => rfl
 | b :: l => ⟨[_], l.map (Value.int k), _, rfl, ⟨rfl, rfl⟩, rfl, ziV_ats⟩
theorem ziV_ats' {k : IntKind} {w : World} : ∀ {l : List Int} {cs : List Value}, Ats w none (ziV k l) cs → cs = l.map (Value.int k)
 | [], _, h => h
 | b :: l, _, ⟨p, r, v, h1, h2, h3, h4⟩ => by
  have e1 : p = [v] := h2.1
  have e2 : v = .int k b := h3
  rw [h1, e1, e2, ziV_ats' h4]
  rfl
/-! Functions that return a new row. -/
section
variable {D : Type} [Dom D] {P : Program} {cx : Cx D} {n : Nat} {σ : St D} {o : Oper}
end
end Vc
end Go.Proofs.YtcblbepaigdlgaaGreat

namespace Go.Proofs.YtcblbepaigdlgaaGreat
open Go.RowKit
open Go.Lib (hid)
open Dg Zn Tx
namespace Vc
set_option maxRecDepth 100000

/-! Whole. -/
theorem dig_pos {m : Nat} : 0 < (dig m).length ↔ m ≠ 0 := by
 rw [List.length_pos_iff, ne_eq, dig_eq_nil]
/-! Floor and Ceil of the reference. -/
theorem le_blkD {f : Nat → Nat} {T : TypeId} {k : Option Nat} {s : SA Dm} {x : Dm} (h : ∀ L ρ w v, s.is L ρ w v → (SA.d x).is L ρ w v) : (XV.blk T [(k, s)] : XV Dm).leR f (.blk T [(k, .d x)]) :=
 ⟨rfl, fun L ρ w _ ⟨p, r, v, h1, h2, h3, h4⟩ => ⟨p, r, v, h1, h2, h L ρ w v h3, h4⟩⟩
def zeroRat : Value := .agg #[.bool false, .slice none 0 0, .bool false, .slice none 0 0]
theorem zero_rt {k : Nat} : ∀ L ρ w v, (SA.v zeroRat : SA Dm).is L ρ w v → (SA.d (Dm.rt 0 0 k)).is L ρ w v := by
 intro L ρ w v h w' _
 obtain rfl : v = zeroRat := h
 have h0 : (dig (0 : Int).natAbs).length ≤ k := by rw [show (0 : Int).natAbs = 0 from rfl, dig_zero]; exact Nat.zero_le _
 exact ⟨_, _, rfl, Nums.nil (by decide), Nums.nil (by decide), h0, h0⟩
theorem le_zero {f : Nat → Nat} {T : TypeId} {k : Option Nat} {j : Nat} : (XV.blk T [(k, .v zeroRat)] : XV Dm).leR f (.blk T [(k, .d (Dm.rt 0 0 j))]) := le_blkD zero_rt

/-! Lists of rational numbers. -/
theorem u_rats : Tryz.prog.underlying 23 = some (.slice 30) := by kernel_rfl
theorem sz_rat : (Tryz.prog.info? 30).map (·.size) = some 4 := by kernel_rfl
theorem inf_rat : (Tryz.prog.info? 30).map (fun i => (i.zero, i.size, i.bytes)) = some (some zeroRat, 4, 64) := by kernel_rfl
theorem zs_rat : (Tryz.prog.info? 30).map (fun i => (i.size, i.zero)) = some (4, some zeroRat) := by kernel_rfl
def ratL (f : Nat → Rat) (K m : Nat) : List (SA Dm) := (List.range m).map fun i => RT (f i) K
theorem ratL_length {f : Nat → Rat} {K m : Nat} : (ratL f K m).length = m := by simp [ratL]
theorem ratL_at {f : Nat → Rat} {K m i : Nat} (h : i < m) : (ratL f K m)[i]? = some (RT (f i) K) := by simp [ratL, h]
theorem ratL_succ {f : Nat → Rat} {K m : Nat} : ratL f K m ++ [RT (f m) K] = ratL f K (m + 1) := by simp [ratL, List.range_succ]
abbrev RL (f : Nat → Rat) (K m : Nat) : SA Dm := .d (Dm.gen (lstG (some 4) (ratL f K m)))
def sumF (f : Nat → Rat) : Nat → Rat
 | 0 => 0
 | n + 1 => sumF f n + f n
def bndS (K : Nat) : Nat → Nat
 | 0 => 0
 | n + 1 => 3 * (bndS K n + K) + 20
theorem rsum_con (f : Nat → Rat) (K m : Nat) (hm : m ≤ 100000000) (hb : ∀ n, n ≤ m → bndS K n ≤ 10000000) (hK : K ≤ 10000000) : Con Tryz.prog 117 [RL f K m] (.one (RT (sumF f m) (bndS K m))) := by
 refine Con.of (n := 17) Tryz.func117 rfl rfl rfl rfl rfl fun cx hfr => ?_
 refine sr rfl ?_
 refine p2 (ok_alloc (i := 0) rfl rfl bd zero_rat rfl rfl rfl rfl) ?_
 refine RV.done (sr rfl ?_)
 refine p2 (ok_alloc (i := 1) rfl rfl bd zero_rat rfl rfl rfl rfl) ?_
 refine RV.done ?_
 refine CV.seq ?_
 refine sr rfl ?_
 refine ml rfl rfl bd rfl ?_
 refine p1 (ok_lenL ratL_length u_rats rfl rfl bd rfl) ?_
 refine ml rfl rfl bd rfl ?_
 refine RV.done ?_
 refine CV.block ?_
 refine CV.loop (X := {i : Nat // i ≤ m}) (fun i => [(.s 8, .av (.one (.v (.int .i64 (i.1 : Int))))), (.s 7, .av (.one (.v (.int .i64 (m : Int))))), (.s 6, .av (.one (RL f K m))), (.s 3, .av (.one (.ptr 1 0))), (.s 2, .av (.one (.ptr 0 0))), (.b 1, .blk 30 [(some 4, RT (sumF f i.1) (bndS K i.1))]), (.b 0, .blk 30 [(some 4, .v zeroRat)])]) (fun i => m - i.1) ⟨0, Nat.zero_le _⟩ (Sub.mk ⟨XV.le_rfl _, XV.le_rfl _, XV.le_rfl _, XV.le_rfl _, XV.le_rfl _, le_zero, XV.le_rfl _, trivial⟩ rfl rfl) (fun i => ?_)
 obtain ⟨i, hi⟩ := i
 simp only
 refine sr rfl ?_
 refine p1 (ok_lss rfl rfl bd rfl rfl) ?_
 refine RV.done ?_
 refine CV.seq ?_
 refine CV.cond rfl (fun hc => ?_) (fun hc => ?_)
 ·refine CV.skip ?_
  refine CV.seq ?_
  refine CV.block ?_
  refine sr rfl ?_
  refine p1 (ok_idxL (k := some 4) (i := i) (ratL_at (by simpa using hc)) u_rats sz_rat (by decide) rfl rfl bd rfl rfl) ?_
  refine p1 (ok_loadP ty_rat (by decide) rfl rfl bd rfl) ?_
  refine p2 (ok_alloc (i := 2) rfl rfl bd zero_rat rfl rfl rfl rfl) ?_
  refine p1 (ok_store rfl rfl rfl rfl rfl rfl rfl (ty_rat).2 rfl rfl rfl rfl) ?_
  refine RV.done ?_
  refine CV.region rfl (fun h => nomatch h) ?_
  refine p1 (ok_load rfl rfl bd rfl rfl rfl ty_rat) ?_
  refine p1 (ok_load rfl rfl bd rfl rfl rfl ty_rat) ?_
  refine p1 (ok_call (RAdd_con _ _ _ _ (hb i hi) hK) rfl rfl bd Tryz.func42 rfl rfl (.cons rfl Conv.any (.cons rfl Conv.any .nil)) rfl hfr rfl) ?_
  refine p1 (ok_store rfl rfl rfl rfl rfl rfl rfl (ty_rat).2 rfl rfl rfl rfl) ?_
  refine RV.done ?_
  refine CV.region rfl (fun h => nomatch h) ?_
  refine p1 (ok_add (c := ((i + 1 : Nat) : Int)) (by rw [wrapI (by omega) (by omega)]; omega) rfl rfl bd rfl rfl) ?_
  refine ml rfl rfl bd rfl ?_
  refine RV.done ?_
  have hlt : i < m := (by simpa using hc)
  exact ⟨⟨i + 1, hlt⟩, Sub.mk ⟨XV.le_rfl _, XV.le_rfl _, XV.le_rfl _, XV.le_rfl _, XV.le_rfl _, ⟨rfl, fun _ _ _ _ h => h⟩, XV.le_rfl _, trivial⟩ rfl rfl, by show m - (i + 1) < m - i; omega⟩
 ·refine CV.exit ?_
  refine sr rfl ?_
  refine p1 (ok_load rfl rfl bd rfl rfl rfl ty_rat) ?_
  refine p1 (ok_store rfl rfl rfl rfl rfl rfl rfl (ty_rat).2 rfl rfl rfl rfl) ?_
  refine RV.done ?_
  refine CV.ret ?_
  obtain rfl : i = m := (by have : ¬ i < m := (by simpa using hc); omega)
  exact fin1 rfl (.inr rfl) ⟨_, _, _, _, _, rfl, rfl, rfl, ty_rat⟩ is_rfl

def prodL (f : Nat → Rat) (K m i : Nat) : List (SA Dm) := (List.range m).map fun j => if j < i then RT (f j) K else .v zeroRat
theorem prodL_length {f : Nat → Rat} {K m i : Nat} : (prodL f K m i).length = m := by simp [prodL]
theorem prodL_zero {f : Nat → Rat} {K m : Nat} : List.replicate m (SA.v zeroRat : SA Dm) = prodL f K m 0 := by
 apply List.ext_getElem
 ·simp [prodL]
 ·intro i h1 h2
  simp [prodL]
theorem prodL_set {f : Nat → Rat} {K m i : Nat} : (prodL f K m i).set i (RT (f i) K) = prodL f K m (i + 1) := by
 apply List.ext_getElem
 ·simp [prodL]
 ·intro j h1 h2
  simp only [prodL, List.getElem_set, List.getElem_map, List.getElem_range]
  by_cases e : i = j
  ·subst e; rw [if_pos rfl, if_pos (Nat.lt_succ_self i)]
  ·rw [if_neg e]
   by_cases h : j < i
   ·rw [if_pos h, if_pos (by omega)]
   ·rw [if_neg h, if_neg (by omega)]
theorem prodL_all {f : Nat → Rat} {K m : Nat} : prodL f K m m = ratL f K m := by
 unfold prodL ratL
 exact List.map_congr_left fun i hi => by rw [if_pos (List.mem_range.1 hi)]
theorem RDot_con (f g : Nat → Rat) (K m n : Nat) (hm : m ≤ 1000000) (hn : n ≤ 1000000) (hK : K ≤ 1000000) (hb : ∀ i, i ≤ min m n → bndS (3 * (K + K) + 20) i ≤ 10000000) : Con Tryz.prog 73 [RL f K m, RL g K n] (.one (RT (sumF (fun i => f i * g i) (min m n)) (bndS (3 * (K + K) + 20) (min m n)))) := by
 refine Con.of (n := 33) Tryz.func73 rfl rfl rfl rfl rfl fun cx hfr => ?_
 refine sr rfl ?_
 refine p2 (ok_alloc (i := 0) rfl rfl bd zero_rat rfl rfl rfl rfl) ?_
 refine RV.done (sr rfl ?_)
 refine ml rfl rfl bd rfl ?_
 refine p1 (ok_lenL ratL_length u_rats rfl rfl bd rfl) ?_
 refine ml rfl rfl bd rfl ?_
 refine p1 (ok_lenL ratL_length u_rats rfl rfl bd rfl) ?_
 refine p1 (ok_minI (c := ((min m n : Nat) : Int)) (by split <;> omega) rfl rfl bd rfl rfl) ?_
 refine p2 (ok_make (r := 12) (Nat.le_refl _) (by omega) (by omega) u_rats inf_rat rfl rfl rfl rfl bd rfl rfl rfl rfl rfl) ?_
 refine mr rfl rfl bd rfl ?_
 refine RV.done ?_
 refine CV.seq ?_
 refine sr rfl ?_
 refine ml rfl rfl bd rfl ?_
 refine p1 (ok_lenS u_rats rfl rfl bd rfl) ?_
 refine ml rfl rfl bd rfl ?_
 refine RV.done ?_
 refine CV.block ?_
 refine CV.loop (X := {i : Nat // i ≤ min m n}) (fun i => [(.s 15, .av (.one (.v (.int .i64 (i.1 : Int))))), (.s 14, .av (.one (.v (.int .i64 ((min m n : Nat) : Int))))), (.s 0, .av (.one (RL f K m))), (.s 1, .av (.one (RL g K n))), (.s 5, .av (.one (.sl 12 (min m n)))), (.b 12, .row 30 (some 4) (prodL (fun i => f i * g i) (3 * (K + K) + 20) (min m n) i.1)), (.s 4, .av (.one (.ptr 0 0))), (.b 0, .blk 30 [(some 4, .v zeroRat)])]) (fun i => min m n - i.1) ⟨0, Nat.zero_le _⟩ (Sub.mk ⟨XV.le_rfl _, XV.le_rfl _, XV.le_rfl _, XV.le_rfl _, XV.le_rfl _, XV.le_row prodL_zero, XV.le_rfl _, XV.le_rfl _, trivial⟩ rfl rfl) (fun i => ?_)
 obtain ⟨i, hi⟩ := i
 simp only
 refine sr rfl ?_
 refine p1 (ok_lss rfl rfl bd rfl rfl) ?_
 refine RV.done ?_
 refine CV.seq ?_
 refine CV.cond rfl (fun hc => ?_) (fun hc => ?_)
 ·refine CV.skip ?_
  refine CV.seq ?_
  refine CV.block ?_
  refine sr rfl ?_
  refine ml rfl rfl bd rfl ?_
  refine mr rfl rfl bd rfl ?_
  refine RV.done ?_
  refine CV.region rfl (fun _ => by kernel_rfl) ?_
  refine ml rfl rfl bd rfl ?_
  refine ml rfl rfl bd rfl ?_
  refine ml rfl rfl bd rfl ?_
  refine ml rfl rfl bd rfl ?_
  refine p1 (ok_idxL (k := some 4) (i := i) (ratL_at (by have : i < min m n := (by simpa using hc); omega)) u_rats sz_rat (by decide) rfl rfl bd rfl rfl) ?_
  refine p1 (ok_loadP ty_rat (by decide) rfl rfl bd rfl) ?_
  refine ml rfl rfl bd rfl ?_
  refine ml rfl rfl bd rfl ?_
  refine p1 (ok_idxL (k := some 4) (i := i) (ratL_at (by have : i < min m n := (by simpa using hc); omega)) u_rats sz_rat (by decide) rfl rfl bd rfl rfl) ?_
  refine p1 (ok_loadP ty_rat (by decide) rfl rfl bd rfl) ?_
  refine p1 (ok_call (RMul_con _ _ _ _ (by omega) (by omega)) rfl rfl bd Tryz.func43 rfl rfl (.cons rfl Conv.any (.cons rfl Conv.any .nil)) rfl hfr rfl) ?_
  refine p1 (ok_idxR (i := i) (by simpa using hc) (by rw [prodL_length]; exact Nat.le_refl _) u_rats sz_rat rfl rfl bd rfl rfl rfl) ?_
  refine p1 (ok_storeR (i := i) (by rw [prodL_length]; simpa using hc) rfl (by show 0 < 4; decide) rfl rfl rfl rfl rfl rfl sz_rat (.inl rfl) rfl rfl) ?_
  refine RV.drawn (by kernel_rfl) ?_
  refine CV.region rfl (fun h => nomatch h) ?_
  refine p1 (ok_add (c := ((i + 1 : Nat) : Int)) (by rw [wrapI (by omega) (by omega)]; omega) rfl rfl bd rfl rfl) ?_
  refine ml rfl rfl bd rfl ?_
  refine RV.done ?_
  have hlt : i < min m n := (by simpa using hc)
  exact ⟨⟨i + 1, hlt⟩, Sub.mk ⟨XV.le_rfl _, XV.le_rfl _, XV.le_rfl _, XV.le_rfl _, XV.le_rfl _, XV.le_row prodL_set, XV.le_rfl _, XV.le_rfl _, trivial⟩ rfl rfl, by show min m n - (i + 1) < min m n - i; omega⟩
 ·refine CV.exit ?_
  refine CV.seq ?_
  have hi2 : i = min m n := (by have : ¬ i < min m n := (by simpa using hc); omega)
  subst hi2
  rw [prodL_all]
  refine CV.freeze (r := 12) (t := 5) (G := Dm.gen (lstG (some 4) (ratL (fun i => f i * g i) (3 * (K + K) + 20) (min m n)))) (cx.bw hfr) rfl rfl ratL_length.symm rfl rfl (lstG_Lst _ _) (lstG_Lst0 _ _) ?_
  refine CV.region rfl (fun h => nomatch h) ?_
  refine ml rfl rfl bd rfl ?_
  refine p1 (ok_call (rsum_con _ _ _ (by omega) hb (by omega)) rfl rfl bd Tryz.func117 rfl rfl (.cons rfl Conv.any .nil) rfl hfr rfl) ?_
  refine p1 (ok_store rfl rfl rfl rfl rfl rfl rfl (ty_rat).2 rfl rfl rfl rfl) ?_
  refine RV.done ?_
  refine CV.ret ?_
  exact fin1 rfl (.inr rfl) ⟨_, _, _, _, _, rfl, rfl, rfl, ty_rat⟩ is_rfl
section
variable (l m : List Int) (c : Int) (hc1 : -9223372036854775808 ≤ c) (hc2 : c ≤ 9223372036854775807)
include hc1 hc2
end
theorem nums_of_row {w : World} {v : Value} {ds : List Nat} (h : Row .i64 w v (ds.map Int.ofNat)) : Nums w v ds := by
 obtain ⟨a, c, rfl, h2, h3, h4⟩ := h
 rw [List.length_map] at h2 h4 ⊢
 refine ⟨a, c, rfl, h2, h3, fun hl => ?_⟩
 obtain ⟨b, off, h5, h6⟩ := h4 hl
 refine ⟨b, off, h5, fun i hi => ?_⟩
 rw [h6 i hi]
 simp [List.getD_eq_getElem?_getD, hi]
section
variable {cx : Cx Dm} {n : Nat} {σ : St Dm} {o : Oper} {d t : Nat} {x y j : Operand}
end

/-! Valid. -/
/-! Take. -/
section
variable (p q : Int) (l m z : List Int) (b : Bool) (hp1 : -9223372036854775808 ≤ p) (hp2 : p ≤ 9223372036854775807) (hq1 : -9223372036854775808 ≤ q) (hq2 : q ≤ 9223372036854775807)
include hp1 hp2 hq1 hq2
end
end Vc
end Go.Proofs.YtcblbepaigdlgaaGreat

namespace Go.Proofs.YtcblbepaigdlgaaGreat
open Dg Zn
namespace Vc
structure Simp (a b c d q p : Int) : Prop where
 hq : 0 < q
 hp : 0 < p
 lo : a * p ≤ q * b
 hi : q * d ≤ c * p
 min : ∀ u v : Int, 0 < v → a * v ≤ u * b → u * d ≤ c * v → q ≤ u ∧ p ≤ v
end Vc
end Go.Proofs.YtcblbepaigdlgaaGreat

namespace Go.Proofs.YtcblbepaigdlgaaGreat
open Go.RowKit
open Go.Lib (hid)
open Dg Zn Tx
namespace Vc
set_option linter.unusedSectionVars false

section
variable {cx : Cx Dm} {n : Nat} {σ : St Dm} {o : Oper} {d : Nat} {x : Operand}
end

/-! Plain. -/
/-! The reference's least. -/
section
variable (x y : Rat) (K : Nat) (hK : K ≤ 1000) (c : Int)
include hK
end
end Vc
end Go.Proofs.YtcblbepaigdlgaaGreat
