/-
  Contracts of gantry/gantryref01: Int of a number that is not negative, Bytes.
  Encodings of integers and of lists of them, and those of the reference.
  Lists of numbers in slices (what IntG and IntP say of them).
  The data: integers, their digits, fractions; the contracts of package integer in this form.
  Operations on numbers and truth values, and on integers and fractions.
  Contracts of gantry/gantryref02: Input, Short, Of.
  Contracts of gantry/gantryref02: Short, Of.
-/
import Derived.Test.YthadfilandmhiaaDoorSR24
import Derived.Test.YthadfilandmhiaaDoorSR33
import Derived.Test.YthadfilandmhiaaDoorSR1
import Derived.Test.YthadfilandmhiaaDoorSR3
import Derived.Lib.AppendStr
import Derived.BigQuiet
import Derived.Deep.QuietTactic
import Derived.Deep.OwnRows
import Derived.Test.YthadfilandmhiaaDoorSR29
import Derived.IntWalk
import Derived.Test.YthadfilandmhiaaDoorSR7
import Derived.Test.YthadfilandmhiaaDoorSR22
import Derived.Test.YthadfilandmhiaaDoorSR31
set_option linter.unusedVariables false
set_option linter.unusedSimpArgs false
set_option linter.unusedSectionVars false
namespace Go.Proofs.YthadfilandmhiaaDoor
open Go.RowKit
open Go.Lib (hid)
open W
/-- The value v is a slice of n elements of so many cells each, which are these. -/
structure View (w : World) (v : Value) (size n : Nat) (cells : List Value) : Prop where
  len : cells.length = n * size
  shape : ∃ ao cap, v = .slice ao n cap ∧ n ≤ cap ∧ cap ≤ maxLen ∧ (0 < n → ∃ b off, ao = some ⟨b, off, none⟩ ∧ ∀ i x, cells[i]? = some x → w.cell? ⟨b, off + i, none⟩ = some x)

/-- Behind a function that makes bytes: they lie in new memory. -/
def Fresh (w : World) (bs : List Int) (e : Ending) (w' : World) : Prop :=
  ∃ v, e = .returned v ∧ w'.ownsRow w.heap.size 5 1 v bs.length (bs.map (Value.int .u8)) ∧ Below w.heap.size w w'

theorem below_keep {w w' : World} (hb : Below w.heap.size w w') {a : Addr} {x : Value} (h : w.cell? a = some x) : w'.cell? a = some x := by
  rw [hb.cell (World.block_lt_of_cell? w _ h)]; exact h
/-- The first loop's relation: j digits have been taken, q is left. -/
def RelB (M : Nat) (w : World) (j q : Nat) (dv : Value) (wr : World) : Prop :=
  j ≤ 8 ∧ q = M / 256 ^ j ∧ (j = 0 ∨ M / 256 ^ (j - 1) ≠ 0) ∧ wr.ownsRow w.heap.size 5 1 dv j (((be j M).reverse.map Int.ofNat).map (Value.int .u8)) ∧ Below w.heap.size w wr

theorem RelB.lt {M : Nat} {w : World} {j q : Nat} {dv : Value} {wr : World} (h : RelB M w j q dv wr) (hM : M < 9223372036854775808) (hq : q ≠ 0) : j < 8 := by
  obtain ⟨h1, rfl, _⟩ := h
  rcases (show j = 8 ∨ j < 8 from by omega) with rfl | h
  · exact absurd (Nat.div_eq_of_lt (by omega)) hq
  · exact h

theorem RelB.le {M : Nat} {w : World} {j q : Nat} {dv : Value} {wr : World} (h : RelB M w j q dv wr) (hM : M < 9223372036854775808) : q ≤ 9223372036854775807 := by
  obtain ⟨h1, rfl, _⟩ := h
  exact Nat.le_trans (Nat.div_le_self _ _) (by omega)

theorem RelB.done {M : Nat} {w : World} {j : Nat} {dv : Value} {wr : World} (h : RelB M w j 0 dv wr) : j = wid M := by
  obtain ⟨h1, h0, h3, _⟩ := h
  refine wid_unique M j (by omega) ((Nat.div_eq_zero_iff_lt (Nat.pow_pos (by decide))).1 h0.symm) ?_
  rcases h3 with h | h
  · exact .inl h
  · refine .inr ?_
    rcases Nat.lt_or_ge M (256 ^ (j - 1)) with hlt | hge
    · exact absurd (Nat.div_eq_of_lt hlt) h
    · exact hge

/-- The second loop's relation: p digits are still to come. -/
def RelC (M : Nat) (neg : Bool) (k p : Nat) (wo : World) (out : Value) (wr : World) : Prop :=
  wr.ownsRow wo.heap.size 5 1 out (1 + (k - p)) ((fl neg (128 + (k : Int)) :: ((be k M).take (k - p)).map fun d => fl neg (Int.ofNat d)).map (Value.int .u8)) ∧ Below wo.heap.size wo wr

theorem RelC.done {n : Int} {neg : Bool} {k : Nat} {w wo wr : World} {out : Value} (h : RelC (mag n) neg k 0 wo out wr) (hneg : neg = decide (n < 0)) (hk : k = wid (mag n)) (hs : w.heap.size ≤ wo.heap.size) :
    wr.ownsRow w.heap.size 5 1 out (code n).length ((code n).map (Value.int .u8)) := by
  have e : (fl neg (128 + (k : Int)) :: ((be k (mag n)).take (k - 0)).map fun d => fl neg (Int.ofNat d)) = code n := by
    rw [Nat.sub_zero, List.take_of_length_le (by rw [be_length]; omega), code, ← hneg, ← hk]
    simp
  have hl : (code n).length = 1 + (k - 0) := by rw [code_length, ← hk]; omega
  have h1 : wr.ownsRow wo.heap.size 5 1 out (code n).length ((code n).map (Value.int .u8)) := by
    have h0 := h.1
    rw [e] at h0
    rw [hl]
    exact h0
  refine ⟨h1.1, ?_⟩
  rcases h1.2 with h2 | ⟨g, cap, cur, hv, hg, r⟩
  · exact .inl h2
  · exact .inr ⟨g, cap, cur, hv, Nat.le_trans hs hg, r⟩

open S
end Go.Proofs.YthadfilandmhiaaDoor

namespace Go.Proofs.YthadfilandmhiaaDoor
open Go.RowKit
open Go.Lib (hid)
open W
theorem View.below {w w' : World} {v : Value} {size n : Nat} {cells : List Value} (h : View w v size n cells) (hb : Below w.heap.size w w') : View w' v size n cells := by
  obtain ⟨hl, ao, cap, hsh, h1, h2, hc⟩ := h
  refine ⟨hl, ao, cap, hsh, h1, h2, fun hne => ?_⟩
  obtain ⟨b, off, he, hcell⟩ := hc hne
  exact ⟨b, off, he, fun i x hi => below_keep hb (hcell i x hi)⟩

theorem Grew.fresh {w w' : World} {xs : List Int} {e : Ending} (h : Grew w w.heap.size (.slice none 0 0) xs e w') : Fresh w xs e w' := by
  obtain ⟨v, he, ho, hg⟩ := h
  exact ⟨v, he, ho, (Below.refl _ _).grown hg (Nat.le_refl _) (by simp [Value.ownBlock])⟩

theorem Int_fresh (n : Int) (w : World) (h1 : n ≤ 9223372036854775807) (h2 : -9223372036854775808 ≤ n) :
    Calls Tryd.prog 26 #[.int .i64 n] w (Fresh w (code n)) :=
  (Int_any w.heap.size n w h1 h2 (Nat.le_refl _)).mono fun _ _ h => h.fresh

set_option maxRecDepth 100000 in
set_option maxHeartbeats 400000 in
theorem Ints_any (v : Value) (zs : List Int) (w : World) (hv : View w v 1 zs.length (zs.map (Value.int .i64))) (hz : ∀ z ∈ zs, -9223372036854775808 ≤ z ∧ z ≤ 9223372036854775807) (hl : zs.length ≤ 1099511627776) :
    Calls Tryd.prog 48 #[v] w (Fresh w (encInts zs)) := by
  have HC := hid (Int_fresh (zs.length : Int) w (by omega) (by omega))
  obtain ⟨_, ao, cap, rfl, hlc, hcm, hcells⟩ := hv
  have HCE := hid hcells
  have HZ := hid hz
  clear hcells hz
  unfold maxLen at hcm
  go_enter Tryd.func48, Tryd.ntmps48
  go_wp2_with fail
  refine HC.out.mono ?_
  rintro e w1 ⟨v1, rfl, hown, hbel⟩
  have HO := hid hown
  have HB := hid hbel
  clear hown hbel
  go_wp2
  go_loopw [3, 11] (fun out i wr => ∃ k : Nat, k ≤ zs.length ∧ i = .int .i64 k ∧ wr.ownsRow w.heap.size 5 1 out (code (zs.length : Int) ++ (zs.take k).flatMap code).length ((code (zs.length : Int) ++ (zs.take k).flatMap code).map (Value.int .u8)) ∧ Below w.heap.size w wr) (fun _ i _ => zs.length - (intOf i).toNat)
  case atStart => exact ⟨0, by omega, rfl, by simpa using HO.out, HB.out⟩
  case round =>
    obtain ⟨k, hk, rfl, hown, hbel⟩ := hrel
    have HO2 := hid hown
    have HB2 := hid hbel
    clear hown hbel
    by_cases hkn : k < zs.length
    · obtain ⟨b, off, rfl, hc⟩ := HCE.out (by omega)
      obtain ⟨z, hzz⟩ : ∃ z, z = zs[k] := ⟨_, rfl⟩
      have hcz : wr.cell? ⟨b, off + k, none⟩ = some (.int .i64 z) := below_keep HB2.out (hc k _ (by rw [List.getElem?_map, List.getElem?_eq_getElem hkn, hzz]; rfl))
      have hzb := HZ.out z (by rw [hzz]; exact List.getElem_mem hkn)
      have hlen := codes_le (zs.take k)
      have hcl := code_le (zs.length : Int)
      have hlt : (zs.take k).length ≤ k := List.length_take_le _ _
      have HN := hid (appendInt_any w.heap.size _ _ z wr hzb.2 hzb.1 HO2.out HB2.out.size (by rw [List.length_append]; omega))
      have HZZ := hid hzz
      clear hzz hc hlen hcl hlt hzb
      go_wp2_with (go_at_call 47; refine HN.out.mono ?_; rintro e w2 ⟨v2, rfl, hown2, hgrow2⟩)
      have HO3 := hid hown2
      have HB3 := hid (below_owned HB2.out HO2.out hgrow2)
      go_roundw
      case rel =>
        refine ⟨k + 1, by omega, by go_num, ?_, HB3.out⟩
        rw [List.take_succ_eq_append_getElem hkn, List.flatMap_append, ← List.append_assoc, ← HZZ.out]
        simpa using HO3.out
      case measure => simp [intOf]; omega
    · obtain rfl : k = zs.length := by omega
      go_wp2
      go_ret
      refine ⟨_, rfl, ?_, HB2.out⟩
      have := HO2.out
      rw [List.take_length] at this
      exact this
end Go.Proofs.YthadfilandmhiaaDoor

namespace Go.Proofs.YthadfilandmhiaaDoor
open Go.RowKit
open Dg Zn
namespace Zn
abbrev len (z : Int) : Nat := (dig z.natAbs).length
def ListI (w : World) (v : Value) (zs : List Int) : Prop :=
  (∀ z ∈ zs, -9223372036854775808 ≤ z ∧ z ≤ 9223372036854775807) ∧
  ∃ ao cap, v = .slice ao zs.length cap ∧ zs.length ≤ cap ∧ cap ≤ maxLen ∧ (0 < zs.length → ∃ b off, ao = some ⟨b, off, none⟩ ∧ ∀ i, i < zs.length → w.cell? ⟨b, off + i, none⟩ = some (.int .i64 (zs.getD i 0)))
def Row (k : IntKind) (w : World) (v : Value) (zs : List Int) : Prop :=
  ∃ ao cap, v = .slice ao zs.length cap ∧ zs.length ≤ cap ∧ cap ≤ maxLen ∧ (0 < zs.length → ∃ b off, ao = some ⟨b, off, none⟩ ∧ ∀ i, i < zs.length → w.cell? ⟨b, off + i, none⟩ = some (.int k (zs.getD i 0)))
theorem Row.keep {k : IntKind} {w w' : World} {v : Value} {zs : List Int} (h : Row k w v zs) (hb : Below w.heap.size w w') : Row k w' v zs := by
  obtain ⟨ao, cap, h1, h2, h3, h4⟩ := h
  refine ⟨ao, cap, h1, h2, h3, fun hl => ?_⟩
  obtain ⟨b, off, h5, h6⟩ := h4 hl
  exact ⟨b, off, h5, fun i hi => keepCell hb (h6 i hi)⟩
theorem Row.view {w : World} {v : Value} {zs : List Int} (h : Row .i64 w v zs) : View w v 1 zs.length (zs.map (Value.int .i64)) := by
  obtain ⟨ao, cap, rfl, h1, h2, h3⟩ := h
  refine ⟨by simp, ao, cap, rfl, h1, h2, fun hl => ?_⟩
  obtain ⟨b, off, h4, h5⟩ := h3 hl
  refine ⟨b, off, h4, fun i x hi => ?_⟩
  rw [List.getElem?_map] at hi
  obtain ⟨z, hz, rfl⟩ := Option.map_eq_some_iff.1 hi
  rw [h5 i (List.getElem?_eq_some_iff.1 hz).1, List.getD_eq_getElem?_getD, hz]
  rfl
end Zn
namespace Vc
theorem wrapI {z : Int} (h1 : -9223372036854775808 ≤ z) (h2 : z ≤ 9223372036854775807) : IntKind.i64.wrap z = z := IntWalk.i64_in _ (by omega)
end Vc
end Go.Proofs.YthadfilandmhiaaDoor

namespace Go.Proofs.YthadfilandmhiaaDoor
open Go.RowKit
open Go.Lib (hid)
open Dg Zn
namespace Vc
/-- Any other kind of data. -/
structure Gen where
  is : World → Value → Prop
  shape : Option Nat
  plain : Bool
  ok : ∀ w v, is w v → ∃ cs, Shaped shape v cs
  pl : plain = true → ∀ w v, is w v → ∀ c ∈ v.cells.toList, notInt c = true

inductive Dm where
  | int (z : Int) (k : Nat)
  | nums (m : Nat)
  | cell (x : Int)
  | rt (p q : Int) (k : Nat)
  | ints (zs : List Int)
  | lint (l : List Int) (k : Nat)
  | pint (z : Int) (k : Nat)
  | llint (l : List (List Int)) (k : Nat)
  | plint (l : List Int) (k : Nat)
  | dl (ds : List Nat)
  | full (ds : List Nat)
  | gen (g : Gen)

/-- Numbers, one behind the other. -/
def LintAt (w : World) (v : Value) (l : List Int) (k : Nat) : Prop :=
  ∃ ao cap, v = .slice ao l.length cap ∧ (0 < l.length → ∃ b off, ao = some ⟨b, off, none⟩ ∧ ∀ i, i < l.length → ∃ s, w.cell? ⟨b, off + 2 * i, none⟩ = some (.bool (decide (l.getD i 0 < 0))) ∧ w.cell? ⟨b, off + 2 * i + 1, none⟩ = some s ∧ Nums w s (dig (l.getD i 0).natAbs) ∧ len (l.getD i 0) ≤ k)
def Dm.at : Dm → World → Value → Prop
  | .int z k, w, v => IntAt w v z ∧ len z ≤ k
  | .nums m, w, v => Nums w v (dig m)
  | .cell x, w, v => ∃ a, v = .pointer (some a) ∧ w.cell? a = some (.int .i64 x)
  | .rt p q k, w, v => ∃ s t, v = .agg #[.bool (decide (p < 0)), s, .bool (decide (q < 0)), t] ∧ Nums w s (dig p.natAbs) ∧ Nums w t (dig q.natAbs) ∧ len p ≤ k ∧ len q ≤ k
  | .ints zs, w, v => ListI w v zs
  | .lint l k, w, v => LintAt w v l k
  | .pint z k, w, v => ∃ b off s, v = .pointer (some ⟨b, off, none⟩) ∧ w.cell? ⟨b, off, none⟩ = some (.bool (decide (z < 0))) ∧ w.cell? ⟨b, off + 1, none⟩ = some s ∧ Nums w s (dig z.natAbs) ∧ len z ≤ k
  | .llint l k, w, v => ∃ ao cap, v = .slice ao l.length cap ∧ (0 < l.length → ∃ b off, ao = some ⟨b, off, none⟩ ∧ ∀ i, i < l.length → ∃ s, w.cell? ⟨b, off + i, none⟩ = some s ∧ LintAt w s (l.getD i []) k)
  | .plint l k, w, v => ∃ b off s, v = .pointer (some ⟨b, off, none⟩) ∧ w.cell? ⟨b, off, none⟩ = some s ∧ LintAt w s l k
  | .dl ds, w, v => Nums w v ds
  | .full ds, w, v => Nums w v ds ∧ ∃ ao, v = .slice ao ds.length ds.length
  | .gen g, w, v => g.is w v
def Dm.shape : Dm → Option Nat
  | .int _ _ => some 2
  | .rt _ _ _ => some 4
  | .gen g => g.shape
  | _ => none
def Dm.plain : Dm → Bool
  | .gen g => g.plain
  | _ => true

theorem nums_slice {w : World} {v : Value} {ds : List Nat} (h : Nums w v ds) : ∃ a n c, v = .slice a n c := by
  obtain ⟨a, c, h, _⟩ := h
  exact ⟨a, _, c, h⟩

instance : Dom Dm where
  dat := Dm.at
  shape := Dm.shape
  plain := Dm.plain
  shape_ok := by
    intro x w v h
    cases x with
    | int z k =>
      obtain ⟨⟨s, rfl, hs⟩, _⟩ := h
      obtain ⟨a, n, c, rfl⟩ := nums_slice hs
      exact ⟨[_, _], rfl, rfl, by simp [Value.oneCell']⟩
    | nums m => obtain ⟨a, n, c, rfl⟩ := nums_slice h; exact ⟨_, rfl, rfl⟩
    | cell x => obtain ⟨a, rfl, _⟩ := h; exact ⟨_, rfl, rfl⟩
    | rt p q k =>
      obtain ⟨s, t, rfl, hs, ht, _⟩ := h
      obtain ⟨a, n, c, rfl⟩ := nums_slice hs
      obtain ⟨a', n', c', rfl⟩ := nums_slice ht
      exact ⟨[_, _, _, _], rfl, rfl, by simp [Value.oneCell']⟩
    | ints zs => obtain ⟨_, a, c, rfl, _⟩ := h; exact ⟨_, rfl, rfl⟩
    | lint l k => obtain ⟨a, c, rfl, _⟩ := h; exact ⟨_, rfl, rfl⟩
    | pint z k => obtain ⟨b, off, s, rfl, _⟩ := h; exact ⟨_, rfl, rfl⟩
    | llint l k => obtain ⟨a, c, rfl, _⟩ := h; exact ⟨_, rfl, rfl⟩
    | plint l k => obtain ⟨b, off, s, rfl, _⟩ := h; exact ⟨_, rfl, rfl⟩
    | dl ds => obtain ⟨a, n, c, rfl⟩ := nums_slice h; exact ⟨_, rfl, rfl⟩
    | full ds => obtain ⟨_, a, rfl⟩ := h; exact ⟨_, rfl, rfl⟩
    | gen g => exact g.ok w v h
  W := fun w => KR w
  W_keep := fun w w' hb h => KR.below h hb
  plain_ok := by
    intro x w v hp h
    cases x with
    | int z k =>
      obtain ⟨⟨s, rfl, hs⟩, _⟩ := h
      obtain ⟨a, n, c, rfl⟩ := nums_slice hs
      simp [Value.cells, notInt]
    | nums m => obtain ⟨a, n, c, rfl⟩ := nums_slice h; simp [Value.cells, notInt]
    | cell x => obtain ⟨a, rfl, _⟩ := h; simp [Value.cells, notInt]
    | rt p q k =>
      obtain ⟨s, t, rfl, hs, ht, _⟩ := h
      obtain ⟨a, n, c, rfl⟩ := nums_slice hs
      obtain ⟨a', n', c', rfl⟩ := nums_slice ht
      simp [Value.cells, notInt]
    | ints zs => obtain ⟨_, a, c, rfl, _⟩ := h; simp [Value.cells, notInt]
    | lint l k => obtain ⟨a, c, rfl, _⟩ := h; simp [Value.cells, notInt]
    | pint z k => obtain ⟨b, off, s, rfl, _⟩ := h; simp [Value.cells, notInt]
    | llint l k => obtain ⟨a, c, rfl, _⟩ := h; simp [Value.cells, notInt]
    | plint l k => obtain ⟨b, off, s, rfl, _⟩ := h; simp [Value.cells, notInt]
    | dl ds => obtain ⟨a, n, c, rfl⟩ := nums_slice h; simp [Value.cells, notInt]
    | full ds => obtain ⟨_, a, rfl⟩ := h; simp [Value.cells, notInt]
    | gen g => exact g.pl hp w v h

/-! Numbers are not met by what changes. -/
variable {P : Program}
/-! Lengths. -/
/-! Package integer. -/
/-! Types. -/
theorem ty_i64 : TyIs Tryd.prog 3 none := TyIs.one (by kernel_rfl) (by kernel_rfl)
theorem ty_ints : TyIs Tryd.prog 25 none := TyIs.one (by kernel_rfl) (by kernel_rfl)
/-! Parts. -/
end Vc
end Go.Proofs.YthadfilandmhiaaDoor

namespace Go.Proofs.YthadfilandmhiaaDoor
open Go.RowKit
open Go.Lib (hid)
open Dg Zn
namespace Vc
section
variable {D : Type} [Dom D] {P : Program} {cx : Cx D} {n : Nat} {σ : St D} {o : Oper} {d : Nat} {x y : Operand} {T T' : TypeId} {k : IntKind} {a b : Int}

theorem ok_bin {op : BinOp} {u v r : Value} (ho : o.op = .binOp op T x y T') (hd : o.dst = some d) (hn : d < n) (hx : opd σ x = .av (.one (.v u))) (hy : opd σ y = .av (.one (.v v)))
    (hr : ∀ w, (do eqGuard op T x y u v; binOp op T u v : Sem Value).run P w = .ok r w) : OpOk P cx n σ o (opk x ++ opk y) [(.s d, .av (.one (.v r)))] := by
  refine ok_read hd hn rfl fun σ' ρ a w h hk => ⟨r, ?_, rfl⟩
  have e1 : a.eval x = u := h.opd ((opd_same fun q hq => hk q (by simp [hq])).trans hx)
  have e2 : a.eval y = v := h.opd ((opd_same fun q hq => hk q (by simp [hq])).trans hy)
  have := hr w
  simp only [execOp, ho, e1, e2, Sem.run_bind, this, Result.andThen_ok, Sem.run_pure]
theorem ok_eql (ho : o.op = .binOp .eql T x y T') (hd : o.dst = some d) (hn : d < n) (hx : opd σ x = .av (.one (.v (.int k a)))) (hy : opd σ y = .av (.one (.v (.int k b)))) : OpOk P cx n σ o (opk x ++ opk y) [(.s d, .av (.one (.v (.bool (a == b)))))] :=
  ok_bin ho hd hn hx hy fun w => by simp [eqGuard, binOp, Op.intCmp]
theorem ok_neq (ho : o.op = .binOp .neq T x y T') (hd : o.dst = some d) (hn : d < n) (hx : opd σ x = .av (.one (.v (.int k a)))) (hy : opd σ y = .av (.one (.v (.int k b)))) : OpOk P cx n σ o (opk x ++ opk y) [(.s d, .av (.one (.v (.bool (a != b)))))] :=
  ok_bin ho hd hn hx hy fun w => by simp [eqGuard, binOp, Op.intCmp]
theorem ok_lss (ho : o.op = .binOp .lss T x y T') (hd : o.dst = some d) (hn : d < n) (hx : opd σ x = .av (.one (.v (.int k a)))) (hy : opd σ y = .av (.one (.v (.int k b)))) : OpOk P cx n σ o (opk x ++ opk y) [(.s d, .av (.one (.v (.bool (decide (a < b))))))] :=
  ok_bin ho hd hn hx hy fun w => by simp [eqGuard, binOp, Op.intCmp]
theorem ok_leq (ho : o.op = .binOp .leq T x y T') (hd : o.dst = some d) (hn : d < n) (hx : opd σ x = .av (.one (.v (.int k a)))) (hy : opd σ y = .av (.one (.v (.int k b)))) : OpOk P cx n σ o (opk x ++ opk y) [(.s d, .av (.one (.v (.bool (decide (a ≤ b))))))] :=
  ok_bin ho hd hn hx hy fun w => by simp [eqGuard, binOp, Op.intCmp]
theorem ok_gtr (ho : o.op = .binOp .gtr T x y T') (hd : o.dst = some d) (hn : d < n) (hx : opd σ x = .av (.one (.v (.int k a)))) (hy : opd σ y = .av (.one (.v (.int k b)))) : OpOk P cx n σ o (opk x ++ opk y) [(.s d, .av (.one (.v (.bool (decide (b < a))))))] :=
  ok_bin ho hd hn hx hy fun w => by simp [eqGuard, binOp, Op.intCmp]
theorem ok_geq (ho : o.op = .binOp .geq T x y T') (hd : o.dst = some d) (hn : d < n) (hx : opd σ x = .av (.one (.v (.int k a)))) (hy : opd σ y = .av (.one (.v (.int k b)))) : OpOk P cx n σ o (opk x ++ opk y) [(.s d, .av (.one (.v (.bool (decide (b ≤ a))))))] :=
  ok_bin ho hd hn hx hy fun w => by simp [eqGuard, binOp, Op.intCmp]
theorem ok_add {c : Int} (hw : k.wrap (a + b) = c) (ho : o.op = .binOp .add T x y T') (hd : o.dst = some d) (hn : d < n) (hx : opd σ x = .av (.one (.v (.int k a)))) (hy : opd σ y = .av (.one (.v (.int k b)))) : OpOk P cx n σ o (opk x ++ opk y) [(.s d, .av (.one (.v (.int k c))))] :=
  ok_bin ho hd hn hx hy fun w => by simp [eqGuard, binOp, Op.intArith, hw]
theorem ok_sub {c : Int} (hw : k.wrap (a - b) = c) (ho : o.op = .binOp .sub T x y T') (hd : o.dst = some d) (hn : d < n) (hx : opd σ x = .av (.one (.v (.int k a)))) (hy : opd σ y = .av (.one (.v (.int k b)))) : OpOk P cx n σ o (opk x ++ opk y) [(.s d, .av (.one (.v (.int k c))))] :=
  ok_bin ho hd hn hx hy fun w => by simp [eqGuard, binOp, Op.intArith, hw]
theorem ok_mul {c : Int} (hw : k.wrap (a * b) = c) (ho : o.op = .binOp .mul T x y T') (hd : o.dst = some d) (hn : d < n) (hx : opd σ x = .av (.one (.v (.int k a)))) (hy : opd σ y = .av (.one (.v (.int k b)))) : OpOk P cx n σ o (opk x ++ opk y) [(.s d, .av (.one (.v (.int k c))))] :=
  ok_bin ho hd hn hx hy fun w => by simp [eqGuard, binOp, Op.intArith, hw]
theorem ok_quo {c : Int} (hb : b ≠ 0) (hw : k.wrap (a.tdiv b) = c) (ho : o.op = .binOp .quo T x y T') (hd : o.dst = some d) (hn : d < n) (hx : opd σ x = .av (.one (.v (.int k a)))) (hy : opd σ y = .av (.one (.v (.int k b)))) : OpOk P cx n σ o (opk x ++ opk y) [(.s d, .av (.one (.v (.int k c))))] :=
  ok_bin ho hd hn hx hy fun w => by simp [eqGuard, binOp, Op.intDiv, hb, hw]
theorem ok_rem (hb : b ≠ 0) (ho : o.op = .binOp .rem T x y T') (hd : o.dst = some d) (hn : d < n) (hx : opd σ x = .av (.one (.v (.int k a)))) (hy : opd σ y = .av (.one (.v (.int k b)))) : OpOk P cx n σ o (opk x ++ opk y) [(.s d, .av (.one (.v (.int k (a.tmod b)))))] :=
  ok_bin ho hd hn hx hy fun w => by simp [eqGuard, binOp, Op.intDiv, hb]
theorem ok_not {p : Bool} (ho : o.op = .unOp .not T x) (hd : o.dst = some d) (hn : d < n) (hx : opd σ x = .av (.one (.v (.bool p)))) : OpOk P cx n σ o (opk x) [(.s d, .av (.one (.v (.bool (!p)))))] := by
  refine ok_read hd hn rfl fun σ' ρ a w h hk => ⟨.bool !p, ?_, rfl⟩
  have e1 : a.eval x = .bool p := h.opd ((opd_same fun q hq => hk q (by simp [hq])).trans hx)
  simp [execOp, ho, e1, Op.unary]
theorem ok_pickT {c : Operand} {av : AV D} (ho : o.op = .pick c x y) (hd : o.dst = some d) (hn : d < n) (hc : opd σ c = .av (.one (.v (.bool true)))) (hx : opd σ x = .av av) (hp : av.ptrs = []) : OpOk P cx n σ o (opk c ++ opk x) [(.s d, .av av)] := by
  refine ok_read hd hn hp fun σ' ρ a w h hk => ⟨a.eval x, ?_, h.opd ((opd_same fun q hq => hk q (by simp [hq])).trans hx)⟩
  have e1 : a.eval c = .bool true := h.opd ((opd_same fun q hq => hk q (by simp [hq])).trans hc)
  simp [execOp, ho, e1, asBool]
theorem ok_pickF {c : Operand} {av : AV D} (ho : o.op = .pick c x y) (hd : o.dst = some d) (hn : d < n) (hc : opd σ c = .av (.one (.v (.bool false)))) (hy : opd σ y = .av av) (hp : av.ptrs = []) : OpOk P cx n σ o (opk c ++ opk y) [(.s d, .av av)] := by
  refine ok_read hd hn hp fun σ' ρ a w h hk => ⟨a.eval y, ?_, h.opd ((opd_same fun q hq => hk q (by simp [hq])).trans hy)⟩
  have e1 : a.eval c = .bool false := h.opd ((opd_same fun q hq => hk q (by simp [hq])).trans hc)
  simp [execOp, ho, e1, asBool]

end

section
variable {cx : Cx Dm} {n : Nat} {σ : St Dm} {o : Oper} {d t : Nat}

end
end Vc
end Go.Proofs.YthadfilandmhiaaDoor

namespace Go.Proofs.YthadfilandmhiaaDoor
open Go.RowKit
open Go.Lib (hid)
open S
open W
end Go.Proofs.YthadfilandmhiaaDoor

namespace Go.Proofs.YthadfilandmhiaaDoor
open Go.RowKit
open Go.Lib (hid)
open S
end Go.Proofs.YthadfilandmhiaaDoor
