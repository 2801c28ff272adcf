/-
  The data: integers, their digits, fractions; the contracts of package integer in this form.
  Operations on numbers and truth values, and on integers and fractions.
  Contracts of gantry/rat: the parts of a fraction, common divisors, lowest terms.
  Plain facts: fractions in lowest terms.
  Contracts of gantry/rat: lowest terms, sums, products, quotients, comparison.
  From a contract to a walk of a law.
-/
import Derived.Test.YtpgiebimhnhbiaaGreatDoorJI9
import Derived.Test.YtpgiebimhnhbiaaGreatDoorJI37
import Derived.Test.YtpgiebimhnhbiaaGreatDoorJI26
import Derived.Test.YtpgiebimhnhbiaaGreatDoorJI28
import Derived.Test.YtpgiebimhnhbiaaGreatDoorJI30
set_option linter.unusedVariables false
set_option linter.unusedSimpArgs false
set_option linter.unusedSectionVars false
namespace Go.Proofs.YtpgiebimhnhbiaaGreatDoor
open Go.RowKit
open Go.Lib (hid)
open Dg Zn
namespace Vc
structure Gen where
 is : World → Value → Prop
 shape : Option Nat
 plain : Bool
 ok : ∀ w v, is w v → ∃ cs, Shaped shape v cs
 pl : plain = true → ∀ w v, is w v → ∀ c ∈ v.cells.toList, notInt c = true

inductive Dm where
 | int (z : Int) (k : Nat)
 | nums (m : Nat)
 | cell (x : Int)
 | rt (p q : Int) (k : Nat)
 | ints (zs : List Int)
 | lint (l : List Int) (k : Nat)
 | pint (z : Int) (k : Nat)
 | llint (l : List (List Int)) (k : Nat)
 | plint (l : List Int) (k : Nat)
 | dl (ds : List Nat)
 | full (ds : List Nat)
 | gen (g : Gen)

def LintAt (w : World) (v : Value) (l : List Int) (k : Nat) : Prop :=
 ∃ ao cap, v = .slice ao l.length cap ∧ (0 < l.length → ∃ b off, ao = some ⟨b, off, none⟩ ∧ ∀ i, i < l.length → ∃ s, w.cell? ⟨b, off + 2 * i, none⟩ = some (.bool (decide (l.getD i 0 < 0))) ∧ w.cell? ⟨b, off + 2 * i + 1, none⟩ = some s ∧ Nums w s (dig (l.getD i 0).natAbs) ∧ len (l.getD i 0) ≤ k)
def Dm.at : Dm → World → Value → Prop
 | .int z k, w, v => IntAt w v z ∧ len z ≤ k
 | .nums m, w, v => Nums w v (dig m)
 | .cell x, w, v => ∃ a, v = .pointer (some a) ∧ w.cell? a = some (.int .i64 x)
 | .rt p q k, w, v => ∃ s t, v = .agg #[.bool (decide (p < 0)), s, .bool (decide (q < 0)), t] ∧ Nums w s (dig p.natAbs) ∧ Nums w t (dig q.natAbs) ∧ len p ≤ k ∧ len q ≤ k
 | .ints zs, w, v => ListI w v zs
 | .lint l k, w, v => LintAt w v l k
 | .pint z k, w, v => ∃ b off s, v = .pointer (some ⟨b, off, none⟩) ∧ w.cell? ⟨b, off, none⟩ = some (.bool (decide (z < 0))) ∧ w.cell? ⟨b, off + 1, none⟩ = some s ∧ Nums w s (dig z.natAbs) ∧ len z ≤ k
 | .llint l k, w, v => ∃ ao cap, v = .slice ao l.length cap ∧ (0 < l.length → ∃ b off, ao = some ⟨b, off, none⟩ ∧ ∀ i, i < l.length → ∃ s, w.cell? ⟨b, off + i, none⟩ = some s ∧ LintAt w s (l.getD i []) k)
 | .plint l k, w, v => ∃ b off s, v = .pointer (some ⟨b, off, none⟩) ∧ w.cell? ⟨b, off, none⟩ = some s ∧ LintAt w s l k
 | .dl ds, w, v => Nums w v ds
 | .full ds, w, v => Nums w v ds ∧ ∃ ao, v = .slice ao ds.length ds.length
 | .gen g, w, v => g.is w v
def Dm.shape : Dm → Option Nat
 | .int _ _ => some 2
 | .rt _ _ _ => some 4
 | .gen g => g.shape
 | _ => none
def Dm.plain : Dm → Bool
 | .gen g => g.plain
 | _ => true

theorem nums_slice {w : World} {v : Value} {ds : List Nat} (h : Nums w v ds) : ∃ a n c, v = .slice a n c := by
 obtain ⟨a, c, h, _⟩ := h
 exact ⟨a, _, c, h⟩

instance : Dom Dm where
 dat := Dm.at
 shape := Dm.shape
 plain := Dm.plain
 shape_ok := by
  intro x w v h
  cases x with
  | int z k =>
   obtain ⟨⟨s, rfl, hs⟩, _⟩ := h
   obtain ⟨a, n, c, rfl⟩ := nums_slice hs
   exact ⟨[_, _], rfl, rfl, by simp [Value.oneCell']⟩
  | nums m => obtain ⟨a, n, c, rfl⟩ := nums_slice h; exact ⟨_, rfl, rfl⟩
  | cell x => obtain ⟨a, rfl, _⟩ := h; exact ⟨_, rfl, rfl⟩
  | rt p q k =>
   obtain ⟨s, t, rfl, hs, ht, _⟩ := h
   obtain ⟨a, n, c, rfl⟩ := nums_slice hs
   obtain ⟨a', n', c', rfl⟩ := nums_slice ht
   exact ⟨[_, _, _, _], rfl, rfl, by simp [Value.oneCell']⟩
  | ints zs => obtain ⟨_, a, c, rfl, _⟩ := h; exact ⟨_, rfl, rfl⟩
  | lint l k => obtain ⟨a, c, rfl, _⟩ := h; exact ⟨_, rfl, rfl⟩
  | pint z k => obtain ⟨b, off, s, rfl, _⟩ := h; exact ⟨_, rfl, rfl⟩
  | llint l k => obtain ⟨a, c, rfl, _⟩ := h; exact ⟨_, rfl, rfl⟩
  | plint l k => obtain ⟨b, off, s, rfl, _⟩ := h; exact ⟨_, rfl, rfl⟩
  | dl ds => obtain ⟨a, n, c, rfl⟩ := nums_slice h; exact ⟨_, rfl, rfl⟩
  | full ds => obtain ⟨_, a, rfl⟩ := h; exact ⟨_, rfl, rfl⟩
  | gen g => exact g.ok w v h
 W := Tab
 W_keep := fun w w' hb h => Tab.keep h hb
 plain_ok := by
  intro x w v hp h
  cases x with
  | int z k =>
   obtain ⟨⟨s, rfl, hs⟩, _⟩ := h
   obtain ⟨a, n, c, rfl⟩ := nums_slice hs
   simp [Value.cells, notInt]
  | nums m => obtain ⟨a, n, c, rfl⟩ := nums_slice h; simp [Value.cells, notInt]
  | cell x => obtain ⟨a, rfl, _⟩ := h; simp [Value.cells, notInt]
  | rt p q k =>
   obtain ⟨s, t, rfl, hs, ht, _⟩ := h
   obtain ⟨a, n, c, rfl⟩ := nums_slice hs
   obtain ⟨a', n', c', rfl⟩ := nums_slice ht
   simp [Value.cells, notInt]
  | ints zs => obtain ⟨_, a, c, rfl, _⟩ := h; simp [Value.cells, notInt]
  | lint l k => obtain ⟨a, c, rfl, _⟩ := h; simp [Value.cells, notInt]
  | pint z k => obtain ⟨b, off, s, rfl, _⟩ := h; simp [Value.cells, notInt]
  | llint l k => obtain ⟨a, c, rfl, _⟩ := h; simp [Value.cells, notInt]
  | plint l k => obtain ⟨b, off, s, rfl, _⟩ := h; simp [Value.cells, notInt]
  | dl ds => obtain ⟨a, n, c, rfl⟩ := nums_slice h; simp [Value.cells, notInt]
  | full ds => obtain ⟨_, a, rfl⟩ := h; simp [Value.cells, notInt]
  | gen g => exact g.pl hp w v h

/-! Numbers are not met by what changes. -/
theorem cell_agree {L : Nat → Prop} {w w' : World} (hn : NoInt L w) (hag : Agree L w w') {a : Addr} {z : Int} (h : w.cell? a = some (.int .i64 z)) : w'.cell? a = some (.int .i64 z) := by
 have hb : a.block < w.heap.size := by
  rcases Nat.lt_or_ge a.block w.heap.size with hb | hb
  ·exact hb
  ·exfalso
   simp only [World.cell?] at h
   rw [Array.getElem?_eq_none (by omega)] at h
   cases h
 have hL : ¬ L a.block := by
  intro hL
  simp only [World.cell?] at h
  cases hq : w.heap[a.block]? with
  | none => rw [hq] at h; cases h
  | some ob =>
   rw [hq] at h
   cases ob with
   | cells cs T fr =>
    simp only at h
    split at h
    ·cases h
    ·have := hn a.block hL cs T fr hq (.int .i64 z) (by
      rw [Array.mem_toList_iff]
      exact Array.mem_of_getElem? h)
     cases this
   | _ => cases h
 rw [World.cell?_of_block (w := w) (hag.2 a.block hb hL)]
 exact h
theorem nums_agree {L : Nat → Prop} {w w' : World} {v : Value} {ds : List Nat} (h : Nums w v ds) (hn : NoInt L w) (hag : Agree L w w') : Nums w' v ds := by
 obtain ⟨a, c, h1, h2, h3, h4⟩ := h
 refine ⟨a, c, h1, h2, h3, fun hl => ?_⟩
 obtain ⟨b, off, h5, h6⟩ := h4 hl
 exact ⟨b, off, h5, fun i hi => cell_agree hn hag (h6 i hi)⟩
theorem int_agree {L : Nat → Prop} {w w' : World} {v : Value} {z : Int} (h : IntAt w v z) (hn : NoInt L w) (hag : Agree L w w') : IntAt w' v z := by
 obtain ⟨s, h1, h2⟩ := h
 exact ⟨s, h1, nums_agree h2 hn hag⟩
theorem noInt_below {L : Nat → Prop} {w w' : World} (hn : NoInt L w) (hlt : ∀ b, L b → b < w.heap.size) (hb : Below w.heap.size w w') : NoInt L w' := fun b hL cs T fr h => hn b hL cs T fr (by rw [← hb.block b (hlt b hL)]; exact h)
theorem int_is {L : Nat → Prop} {ρ : Rho} {w w' : World} {v : Value} {z : Int} {k : Nat} (h : IntAt w' v z) (hk : len z ≤ k) (hn : NoInt L w) (hlt : ∀ b, L b → b < w.heap.size) (hb : Below w.heap.size w w') : (SA.d (Dm.int z k)).is L ρ w' v :=
 fun _ hag => ⟨int_agree h (noInt_below hn hlt hb) hag, hk⟩
theorem is_int {L : Nat → Prop} {ρ : Rho} {w : World} {v : Value} {z : Int} {k : Nat} (h : (SA.d (Dm.int z k)).is L ρ w v) : IntAt w v z ∧ len z ≤ k := h w (Agree.refl _ _)

variable {P : Program}
theorem con_val2 {f : FuncId} {x y : Int} {j k : Nat} {r : Value} (h : ∀ vx vy w, IntAt w vx x → IntAt w vy y → Calls P f #[vx, vy] w fun e w' => e = .returned r ∧ Below w.heap.size w w') : Con P f [.d (Dm.int x j), .d (Dm.int y k)] (.one (.v r)) := by
 rintro L ρ w vs hlt hn hwf hall
 match vs, hall with
 | [vx, vy], ⟨h1, h2, _⟩ =>
  refine (h vx vy w (is_int h1).1 (is_int h2).1).mono ?_
  rintro e w' ⟨rfl, h4⟩
  exact ⟨r, rfl, h4, rfl⟩
/-! Lengths. -/
theorem len_lt {x : Int} {k : Nat} : len x ≤ k ↔ x.natAbs < 1000000000 ^ k := dig_length_le
theorem len_add {x y : Int} {j k : Nat} (hx : len x ≤ j) (hy : len y ≤ k) : len (x + y) ≤ j + k + 1 := by
 have h1 := len_lt.1 (Nat.le_trans hx (Nat.le_add_right j k))
 have h2 := len_lt.1 (Nat.le_trans hy (Nat.le_add_left k j))
 rw [len_lt, Nat.pow_succ]
 have := Int.natAbs_add_le x y
 generalize 1000000000 ^ (j + k) = M at *
 omega
/-! Package integer. -/
/-! Types. -/
theorem ty_int : TyIs Tryz.prog 25 (some 2) := TyIs.row (by kernel_rfl) (by kernel_rfl)
theorem ty_bool : TyIs Tryz.prog 4 none := TyIs.one (by kernel_rfl) (by kernel_rfl)
theorem ty_i64 : TyIs Tryz.prog 3 none := TyIs.one (by kernel_rfl) (by kernel_rfl)
theorem ty_ints : TyIs Tryz.prog 22 none := TyIs.one (by kernel_rfl) (by kernel_rfl)
theorem fa_int0 : FieldAt Tryz.prog 25 0 0 := FieldAt.of (sz := 0) (by kernel_rfl)
theorem fa_int1 : FieldAt Tryz.prog 25 1 1 := FieldAt.of (sz := 0) (by kernel_rfl)

theorem zero_int : (Tryz.prog.info? 25).map (·.zero) = some (some (.agg #[.bool false, .slice none 0 0])) := by kernel_rfl
/-! Parts. -/
theorem fld_neg {z : Int} {k : Nat} : Fld (Dm.int z k) 0 none (.v (.bool (decide (z < 0)))) := by
 rintro w cs ⟨⟨s, h, hs⟩, _⟩
 injection h with h
 have h2 : cs = [.bool (decide (z < 0)), s] := by simpa using congrArg Array.toList h
 exact ⟨[], [_], [s], _, by rw [h2]; rfl, rfl, ⟨rfl, rfl⟩, rfl⟩
theorem fld_dig {z : Int} {k : Nat} : Fld (Dm.int z k) 1 none (.d (Dm.nums z.natAbs)) := by
 rintro w cs ⟨⟨s, h, hs⟩, _⟩
 injection h with h
 have h2 : cs = [.bool (decide (z < 0)), s] := by simpa using congrArg Array.toList h
 obtain ⟨a, n, c, rfl⟩ := nums_slice hs
 exact ⟨[_], [_], [], _, by rw [h2]; rfl, rfl, ⟨rfl, rfl⟩, hs⟩
end Vc
end Go.Proofs.YtpgiebimhnhbiaaGreatDoor

namespace Go.Proofs.YtpgiebimhnhbiaaGreatDoor
open Go.RowKit
open Go.Lib (hid)
open Dg Zn
namespace Vc
section
variable {D : Type} [Dom D] {P : Program} {cx : Cx D} {n : Nat} {σ : St D} {o : Oper} {d : Nat} {x y : Operand} {T T' : TypeId} {k : IntKind} {a b : Int}

theorem ok_bin {op : BinOp} {u v r : Value} (ho : o.op = .binOp op T x y T') (hd : o.dst = some d) (hn : d < n) (hx : opd σ x = .av (.one (.v u))) (hy : opd σ y = .av (.one (.v v)))
  (hr : ∀ w, (do eqGuard op T x y u v; binOp op T u v : Sem Value).run P w = .ok r w) : OpOk P cx n σ o (opk x ++ opk y) [(.s d, .av (.one (.v r)))] := by
 refine ok_read hd hn rfl fun σ' ρ a w h hk => ⟨r, ?_, rfl⟩
 have e1 : a.eval x = u := h.opd ((opd_same fun q hq => hk q (by simp [hq])).trans hx)
 have e2 : a.eval y = v := h.opd ((opd_same fun q hq => hk q (by simp [hq])).trans hy)
 have := hr w
 simp only [execOp, ho, e1, e2, Sem.run_bind, this, Result.andThen_ok, Sem.run_pure]
theorem ok_eql (ho : o.op = .binOp .eql T x y T') (hd : o.dst = some d) (hn : d < n) (hx : opd σ x = .av (.one (.v (.int k a)))) (hy : opd σ y = .av (.one (.v (.int k b)))) : OpOk P cx n σ o (opk x ++ opk y) [(.s d, .av (.one (.v (.bool (a == b)))))] :=
 ok_bin ho hd hn hx hy fun w => by simp [eqGuard, binOp, Op.intCmp]
theorem ok_neq (ho : o.op = .binOp .neq T x y T') (hd : o.dst = some d) (hn : d < n) (hx : opd σ x = .av (.one (.v (.int k a)))) (hy : opd σ y = .av (.one (.v (.int k b)))) : OpOk P cx n σ o (opk x ++ opk y) [(.s d, .av (.one (.v (.bool (a != b)))))] :=
 ok_bin ho hd hn hx hy fun w => by simp [eqGuard, binOp, Op.intCmp]
theorem ok_lss (ho : o.op = .binOp .lss T x y T') (hd : o.dst = some d) (hn : d < n) (hx : opd σ x = .av (.one (.v (.int k a)))) (hy : opd σ y = .av (.one (.v (.int k b)))) : OpOk P cx n σ o (opk x ++ opk y) [(.s d, .av (.one (.v (.bool (decide (a < b))))))] :=
 ok_bin ho hd hn hx hy fun w => by simp [eqGuard, binOp, Op.intCmp]
theorem ok_gtr (ho : o.op = .binOp .gtr T x y T') (hd : o.dst = some d) (hn : d < n) (hx : opd σ x = .av (.one (.v (.int k a)))) (hy : opd σ y = .av (.one (.v (.int k b)))) : OpOk P cx n σ o (opk x ++ opk y) [(.s d, .av (.one (.v (.bool (decide (b < a))))))] :=
 ok_bin ho hd hn hx hy fun w => by simp [eqGuard, binOp, Op.intCmp]
theorem ok_geq (ho : o.op = .binOp .geq T x y T') (hd : o.dst = some d) (hn : d < n) (hx : opd σ x = .av (.one (.v (.int k a)))) (hy : opd σ y = .av (.one (.v (.int k b)))) : OpOk P cx n σ o (opk x ++ opk y) [(.s d, .av (.one (.v (.bool (decide (b ≤ a))))))] :=
 ok_bin ho hd hn hx hy fun w => by simp [eqGuard, binOp, Op.intCmp]
theorem ok_add {c : Int} (hw : k.wrap (a + b) = c) (ho : o.op = .binOp .add T x y T') (hd : o.dst = some d) (hn : d < n) (hx : opd σ x = .av (.one (.v (.int k a)))) (hy : opd σ y = .av (.one (.v (.int k b)))) : OpOk P cx n σ o (opk x ++ opk y) [(.s d, .av (.one (.v (.int k c))))] :=
 ok_bin ho hd hn hx hy fun w => by simp [eqGuard, binOp, Op.intArith, hw]
theorem ok_sub {c : Int} (hw : k.wrap (a - b) = c) (ho : o.op = .binOp .sub T x y T') (hd : o.dst = some d) (hn : d < n) (hx : opd σ x = .av (.one (.v (.int k a)))) (hy : opd σ y = .av (.one (.v (.int k b)))) : OpOk P cx n σ o (opk x ++ opk y) [(.s d, .av (.one (.v (.int k c))))] :=
 ok_bin ho hd hn hx hy fun w => by simp [eqGuard, binOp, Op.intArith, hw]
theorem ok_mul {c : Int} (hw : k.wrap (a * b) = c) (ho : o.op = .binOp .mul T x y T') (hd : o.dst = some d) (hn : d < n) (hx : opd σ x = .av (.one (.v (.int k a)))) (hy : opd σ y = .av (.one (.v (.int k b)))) : OpOk P cx n σ o (opk x ++ opk y) [(.s d, .av (.one (.v (.int k c))))] :=
 ok_bin ho hd hn hx hy fun w => by simp [eqGuard, binOp, Op.intArith, hw]
theorem ok_quo {c : Int} (hb : b ≠ 0) (hw : k.wrap (a.tdiv b) = c) (ho : o.op = .binOp .quo T x y T') (hd : o.dst = some d) (hn : d < n) (hx : opd σ x = .av (.one (.v (.int k a)))) (hy : opd σ y = .av (.one (.v (.int k b)))) : OpOk P cx n σ o (opk x ++ opk y) [(.s d, .av (.one (.v (.int k c))))] :=
 ok_bin ho hd hn hx hy fun w => by simp [eqGuard, binOp, Op.intDiv, hb, hw]
theorem ok_rem (hb : b ≠ 0) (ho : o.op = .binOp .rem T x y T') (hd : o.dst = some d) (hn : d < n) (hx : opd σ x = .av (.one (.v (.int k a)))) (hy : opd σ y = .av (.one (.v (.int k b)))) : OpOk P cx n σ o (opk x ++ opk y) [(.s d, .av (.one (.v (.int k (a.tmod b)))))] :=
 ok_bin ho hd hn hx hy fun w => by simp [eqGuard, binOp, Op.intDiv, hb]
theorem ok_not {p : Bool} (ho : o.op = .unOp .not T x) (hd : o.dst = some d) (hn : d < n) (hx : opd σ x = .av (.one (.v (.bool p)))) : OpOk P cx n σ o (opk x) [(.s d, .av (.one (.v (.bool (!p)))))] := by
 refine ok_read hd hn rfl fun σ' ρ a w h hk => ⟨.bool !p, ?_, rfl⟩
 have e1 : a.eval x = .bool p := h.opd ((opd_same fun q hq => hk q (by simp [hq])).trans hx)
 simp [execOp, ho, e1, Op.unary]
theorem ok_neg {c : Int} (hw : k.wrap (0 - a) = c) (ho : o.op = .unOp .neg T x) (hd : o.dst = some d) (hn : d < n) (hx : opd σ x = .av (.one (.v (.int k a)))) : OpOk P cx n σ o (opk x) [(.s d, .av (.one (.v (.int k c))))] := by
 refine ok_read hd hn rfl fun σ' ρ a' w h hk => ⟨.int k c, ?_, rfl⟩
 have e1 : a'.eval x = .int k a := h.opd ((opd_same fun q hq => hk q (by simp [hq])).trans hx)
 rw [Int.zero_sub] at hw
 simp [execOp, ho, e1, Op.unary, Op.intArith, hw]
theorem ok_pickT {c : Operand} {av : AV D} (ho : o.op = .pick c x y) (hd : o.dst = some d) (hn : d < n) (hc : opd σ c = .av (.one (.v (.bool true)))) (hx : opd σ x = .av av) (hp : av.ptrs = []) : OpOk P cx n σ o (opk c ++ opk x) [(.s d, .av av)] := by
 refine ok_read hd hn hp fun σ' ρ a w h hk => ⟨a.eval x, ?_, h.opd ((opd_same fun q hq => hk q (by simp [hq])).trans hx)⟩
 have e1 : a.eval c = .bool true := h.opd ((opd_same fun q hq => hk q (by simp [hq])).trans hc)
 simp [execOp, ho, e1, asBool]
theorem ok_pickF {c : Operand} {av : AV D} (ho : o.op = .pick c x y) (hd : o.dst = some d) (hn : d < n) (hc : opd σ c = .av (.one (.v (.bool false)))) (hy : opd σ y = .av av) (hp : av.ptrs = []) : OpOk P cx n σ o (opk c ++ opk y) [(.s d, .av av)] := by
 refine ok_read hd hn hp fun σ' ρ a w h hk => ⟨a.eval y, ?_, h.opd ((opd_same fun q hq => hk q (by simp [hq])).trans hy)⟩
 have e1 : a.eval c = .bool false := h.opd ((opd_same fun q hq => hk q (by simp [hq])).trans hc)
 simp [execOp, ho, e1, asBool]

end

section
variable {cx : Cx Dm} {n : Nat} {σ : St Dm} {o : Oper} {d t : Nat}

theorem ok_len {m : Nat} (ho : o.op = .call ⟨.builtin .len, #[.tmp t], #[22]⟩) (hd : o.dst = some d) (hn : d < n) (ht : σ (.s t) = .av (.one (.d (.nums m)))) : OpOk Tryz.prog cx n σ o [.s t] [(.s d, .av (.one (.v (.int .i64 (((dig m).length : Nat) : Int)))))] := by
 refine ok_read hd hn rfl fun σ' ρ a w h hk => ⟨_, ?_, rfl⟩
 obtain ⟨ao, c, hv, _⟩ := (h.slt t _ ((hk (.s t) (by simp)).trans ht)) w (Agree.refl _ _)
 have e1 : a.eval (.tmp t) = .slice ao (dig m).length c := hv
 simp [execOp, ho, resolve, invoke, e1, builtin, Builtin.len_, run_underlying Tryz.under_ints, goInt]
theorem ok_idx {m i : Nat} {j : Operand} (hi : i < (dig m).length) (ho : o.op = .indexAddr 22 (.tmp t) j) (hd : o.dst = some d) (hn : d < n) (ht : σ (.s t) = .av (.one (.d (.nums m)))) (hj : opd σ j = .av (.one (.v (.int .i64 (i : Int))))) :
  OpOk Tryz.prog cx n σ o (.s t :: opk j) [(.s d, .av (.one (.d (.cell (((dig m).getD i 0 : Nat) : Int)))))] := by
 refine ok_read hd hn rfl fun σ' ρ a w h hk => ?_
 have hs := h.slt t _ ((hk (.s t) (by simp)).trans ht)
 obtain ⟨ao, c, hv, h2, h3, h4⟩ := hs w (Agree.refl _ _)
 obtain ⟨g, off, rfl, h6⟩ := h4 (by omega)
 have e1 : a.eval (.tmp t) = .slice (some ⟨g, off, none⟩) (dig m).length c := hv
 have e2 : a.eval j = .int .i64 (i : Int) := h.opd ((opd_same fun q hq => hk q (by simp [hq])).trans hj)
 have hsz : ∀ w, (sizeOf 3).run Tryz.prog w = .ok 1 w := by
  intro w
  obtain ⟨i0, hi0, _, hz1, _⟩ := info_parts Tryz.int_info
  simp [sizeOf, typeInfo, hi0, hz1]
 refine ⟨.pointer (some ⟨g, off + i, none⟩), ?_, ?_⟩
 ·have h0 : (0 : Int) ≤ (i : Int) ∧ (i : Int) < (((dig m).length : Nat) : Int) := by omega
  simp [execOp, ho, e1, e2, Instr.indexAt, asIntOf, run_underlying Tryz.under_ints, hsz, hi, Addr.add_mid]
 ·intro w' hag
  refine ⟨_, rfl, ?_⟩
  obtain ⟨ao', c', hv', _, _, h4'⟩ := hs w' hag
  obtain ⟨g', off', hg', h6'⟩ := h4' (by omega)
  have e3 := e1.symm.trans (show a.eval (.tmp t) = _ from hv')
  injection e3 with e4
  rw [hg'] at e4
  injection e4 with e4
  injection e4 with e5 e6
  subst e5; subst e6
  exact h6' i hi
theorem ok_loadc {z : Int} (ho : o.op = .load 3 (.tmp t)) (hd : o.dst = some d) (hn : d < n) (ht : σ (.s t) = .av (.one (.d (.cell z)))) : OpOk Tryz.prog cx n σ o [.s t] [(.s d, .av (.one (.v (.int .i64 z))))] := by
 refine ok_read hd hn rfl fun σ' ρ a w h hk => ⟨_, ?_, rfl⟩
 obtain ⟨ad, hv, hc⟩ := (h.slt t _ ((hk (.s t) (by simp)).trans ht)) w (Agree.refl _ _)
 have e1 : a.eval (.tmp t) = .pointer (some ad) := hv
 obtain ⟨⟨dd, hu, hdd⟩, _⟩ := ty_i64
 have hagg : (isAgg 3).run Tryz.prog w = .ok false w := by
  unfold isAgg
  rw [Sem.run_bind, run_underlying hu w]
  cases dd <;> simp_all
 simp [execOp, ho, e1, Instr.loadAt, Instr.sureAddr, loadVar, hagg, load, Sem.run, hc]

end

theorem dig_len_zero {z : Int} : ((((dig z.natAbs).length : Nat) : Int) == 0) = decide (z = 0) := by
 rw [Bool.eq_iff_iff]
 simp only [beq_iff_eq, decide_eq_true_eq]
 constructor
 ·intro h
  have := dig_eq_nil.1 (List.eq_nil_of_length_eq_zero (show (dig z.natAbs).length = 0 by omega))
  omega
 ·rintro rfl
  rfl
theorem is_int' {p p' : Int} {k k' : Nat} (hp : p = p') (hk : k ≤ k') : ∀ L ρ w v, (SA.d (Dm.int p k)).is L ρ w v → (AV.one (SA.d (Dm.int p' k'))).is L ρ w v := by
 subst hp
 intro L ρ w v h w' hw
 exact ⟨(h w' hw).1, Nat.le_trans (h w' hw).2 hk⟩
end Vc
end Go.Proofs.YtpgiebimhnhbiaaGreatDoor

namespace Go.Proofs.YtpgiebimhnhbiaaGreatDoor
open Dg Zn
namespace Vc
end Vc
end Go.Proofs.YtpgiebimhnhbiaaGreatDoor

namespace Go.Proofs.YtpgiebimhnhbiaaGreatDoor
open Go.RowKit
open Go.Lib (hid)
open Dg Zn
namespace Vc
end Vc
end Go.Proofs.YtpgiebimhnhbiaaGreatDoor

namespace Go.Proofs.YtpgiebimhnhbiaaGreatDoor
open Go.RowKit
open Dg Zn
namespace Vc
theorem noInt_none (w : World) : NoInt (fun _ => False) w := fun _ h => h.elim
theorem ints_is {w : World} {v : Value} {l : List Int} (h : ListI w v l) : (SA.d (Dm.ints l)).is (fun _ => False) (fun _ => (0, 0)) w v := by
 intro w' hag
 obtain ⟨h0, ao, cap, h1, h2, h3, h4⟩ := h
 refine ⟨h0, ao, cap, h1, h2, h3, fun hl => ?_⟩
 obtain ⟨b, off, h5, h6⟩ := h4 hl
 exact ⟨b, off, h5, fun i hi => cell_agree (noInt_none w) hag (h6 i hi)⟩
theorem Con.walk {P : Program} {f : FuncId} {args : List (SA Dm)} {b : Bool} (hcon : Con P f args (.one (.v (.bool b)))) {w : World} (hT : Tab w) {vs : List Value} (h : isAll (fun _ => False) (fun _ => (0, 0)) w args vs) : Calls P f vs.toArray w (RetB w b) := by
 refine (hcon (fun _ => False) (fun _ => (0, 0)) w vs (fun _ h => h.elim) (noInt_none w) hT h).mono ?_
 rintro e w' ⟨v, rfl, h1, h2⟩
 exact ⟨congrArg Ending.returned h2, h1⟩
end Vc
end Go.Proofs.YtpgiebimhnhbiaaGreatDoor
