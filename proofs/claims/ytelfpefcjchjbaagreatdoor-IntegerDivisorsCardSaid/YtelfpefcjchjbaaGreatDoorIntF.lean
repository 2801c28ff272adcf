/-
  Contracts of gantry/integer: plus.
-/
import Derived.Test.YtelfpefcjchjbaaGreatDoorIntE
namespace Go.Proofs.YtelfpefcjchjbaaGreatDoor
open Go.RowKit
open Go.Lib (hid)
open Dg
namespace Zn

/-- What a block holds and that it may be written. -/
theorem cellsNew (w : World) (x y : Value) (T : TypeId) : (w.alloc (.cells #[x, y] T)).heap[w.heap.size]? = some (.cells #[x, y] T (0, 0)) := heap_alloc_new w _
theorem heapKeep {w w' : World} {g : Nat} {o : Obj} (hb : Below w.heap.size w w') (h : w.heap[g]? = some o) : w'.heap[g]? = some o := by
  have hl : g < w.heap.size := by
    rcases Nat.lt_or_ge g w.heap.size with h1 | h1
    · exact h1
    · rw [Array.getElem?_eq_none (by omega)] at h; cases h
  exact (hb.block g hl).trans h
theorem cell2 {w : World} {g : Nat} {x y : Value} {T : TypeId} (h : w.heap[g]? = some (.cells #[x, y] T (0, 0))) : w.cell? ⟨g, 0, none⟩ = some x ∧ w.cell? ⟨g, 1, none⟩ = some y ∧ w.frozen? ⟨g, 0, none⟩ = false ∧ w.frozen? ⟨g, 1, none⟩ = false :=
  ⟨cell_of_row _ _ 0 _ _ _ h, cell_of_row _ _ 1 _ _ _ h, frozen_of_row _ _ _ _ _ h, frozen_of_row _ _ _ _ _ h⟩

theorem below_row {B : Nat} {a w : World} (h : Below B a w) {g : Nat} (hg : B ≤ g) (cs : Array Value) : Below B a (w.setRow g cs) :=
  h.trans ⟨rfl, rfl, rfl, by simp [World.setRow], fun k hk => setRow_other w g k cs (by omega)⟩

/-- The block of a result, before it is stored into. -/
def ResAt (w : World) (g : Nat) : Prop := ∃ x y z n, w.heap[g]? = some (.cells #[.bool x, .slice y z n] 24 (0, 0))
theorem ResAt.keep {w w' : World} {g : Nat} (h : ResAt w g) (hb : Below w.heap.size w w') : ResAt w' g := by
  obtain ⟨x, y, z, n, h⟩ := h
  exact ⟨x, y, z, n, heapKeep hb h⟩
theorem ResAt.new (w : World) (x : Bool) (y : Option Addr) (z n : Nat) : ResAt (w.alloc (.cells #[.bool x, .slice y z n] 24)) w.heap.size := ⟨x, y, z, n, cellsNew w _ _ _⟩

theorem Nums.apart {w : World} {v : Value} {ds : List Nat} {g : Nat} (h : Nums w v ds) (hg : ResAt w g) (cs : Array Value) : Nums (w.setRow g cs) v ds := by
  obtain ⟨ao, cap, rfl, h1, h2, h3⟩ := h
  refine ⟨ao, cap, rfl, h1, h2, fun hl => ?_⟩
  obtain ⟨b, off, rfl, hc⟩ := h3 hl
  refine ⟨b, off, rfl, fun i hi => ?_⟩
  have h4 := hc i hi
  by_cases e : b = g
  · exfalso
    subst e
    obtain ⟨x, y, z, n, hg⟩ := hg
    rw [cell_of_row _ _ _ _ _ (0, 0) hg] at h4
    rcases (show off + i = 0 ∨ off + i = 1 ∨ 2 ≤ off + i by omega) with e | e | e
    · rw [e] at h4; cases h4
    · rw [e] at h4; cases h4
    · rw [Array.getElem?_eq_none (by simpa using e)] at h4; cases h4
  · rw [World.cell?_of_block (w := w) (setRow_other w g b cs e)]
    exact h4
theorem IntAt.apart {w : World} {v : Value} {z : Int} {g : Nat} (h : IntAt w v z) (hg : ResAt w g) (cs : Array Value) : IntAt (w.setRow g cs) v z := by
  obtain ⟨s, h1, h2⟩ := h
  exact ⟨s, h1, h2.apart hg cs⟩
theorem IntAt.form {w : World} {v : Value} {z : Int} (h : IntAt w v z) : ∃ so n sc, v = .agg #[.bool (decide (z < 0)), .slice so n sc] ∧ n = (dig z.natAbs).length := by
  obtain ⟨s, rfl, so, sc, rfl, _⟩ := h
  exact ⟨so, _, sc, rfl, rfl⟩

theorem Tryz.int_size : (Tryz.prog.info? 24).map (·.size) = some 2 := by kernel_rfl
theorem Tryz.int_struct : (Tryz.prog.underlying 24).map (fun d => match d with | .struct _ => true | _ => false) = some true := by kernel_rfl
theorem struct_of {o : Option TypeDesc} (h : o.map (fun d => match d with | .struct _ => true | _ => false) = some true) : ∃ d, o = some d ∧ (match d with | .struct _ | .array _ _ => true | _ => false) = true := by
  cases o with
  | none => cases h
  | some d => exact ⟨d, rfl, by cases d <;> first | rfl | cases h⟩

/-- An integer is stored where the result is. -/
theorem wpList_store_int {ops : Array Oper} {rest : List Oper} {o : Oper} {a : Act} {w : World} {Q : Exit → Act → World → Prop} (hgd : o.guard = none) (x y : Operand) (ho : o.op = .store 24 x y)
    (g : Nat) (v : Value) (z : Int) (hx : a.eval x = .pointer (some ⟨g, 0, none⟩)) (hy : a.eval y = v) (hv : IntAt w v z) (hg : ResAt w g)
    (h : wpList Tryz.prog ops Q rest (a.put o.dst undef) (w.setRow g v.cells)) : wpList Tryz.prog ops Q (o :: rest) a w := by
  obtain ⟨so, n, sc, rfl, _⟩ := hv.form
  obtain ⟨_, _, _, _, hg⟩ := hg
  exact wpList_store_row hgd 24 x y ho g _ hx hy 24 _ hg Tryz.int_size rfl (by simp [Value.oneCell']) h

/-- The end of a function that returns an integer. -/
theorem ret_int_act {fn : Func} {p : Tmp} (h : fn.results = #[.cell p 24]) {a : Act} {w0 w : World} {g : Nat} {v : Value} {z : Int} (hd : a.defers = []) (hp : a.tmps.getD p undef = .pointer (some ⟨g, 0, none⟩))
    (hg : ResAt w g) (hv : IntAt w v z) (hb : Below w0.heap.size w0 w) (hB : w0.heap.size ≤ g) : bodyPost Tryz.prog fn (RetInt w0 z) .ret a (w.setRow g v.cells) := by
  obtain ⟨d, hd1, hd2⟩ := struct_of Tryz.int_struct
  have hv2 := hv.apart hg v.cells
  obtain ⟨so, n, sc, rfl, _⟩ := hv.form
  obtain ⟨_, _, _, _, hg⟩ := hg
  refine bodyPost_ret (results_cell_row h _ _ g 24 _ (0, 0) d hp (setRow_heap _ _ _ _ _ _ hg) hd1 (by cases d <;> first | rfl | cases hd2) Tryz.int_size) hd ?_
  exact ⟨_, rfl, hv2, below_row hb hB _⟩
theorem ret_int_cell {fn : Func} {p : Tmp} (h : fn.results = #[.cell p 24]) {tmps : Array Value} {w0 w : World} {g : Nat} {v : Value} {z : Int} (hp : tmps.getD p undef = .pointer (some ⟨g, 0, none⟩))
    (hg : ResAt w g) (hv : IntAt w v z) (hb : Below w0.heap.size w0 w) (hB : w0.heap.size ≤ g) : bodyPost Tryz.prog fn (RetInt w0 z) .ret ⟨tmps, []⟩ (w.setRow g v.cells) :=
  ret_int_act h rfl hp hg hv hb hB

set_option maxHeartbeats 1000000 in
theorem plus_same (v : Value) (z : Int) (neg : Bool) (d : Value) (m : Nat) (w : World) (hv : IntAt w v z) (hd : Nums w d (dig m)) (hneg : neg = decide (z < 0)) (hl1 : (dig z.natAbs).length ≤ 1099511627776) (hl2 : (dig m).length ≤ 1099511627776) :
    Calls Tryz.prog 60 #[v, .bool neg, d] w (RetInt w (z + mk neg m)) := by
  obtain ⟨s, rfl, hs⟩ := hv
  have hne : (decide (z < 0) == neg) = true := by rw [hneg]; simp
  have hval : ((z.natAbs + m : Nat) : Int) = 1 * (val (dig z.natAbs) : Int) + 1 * (val (dig m) : Int) := by rw [val_dig, val_dig]; omega
  have hlt : z.natAbs + m < 1000000000 ^ (max (dig z.natAbs).length (dig m).length + 1) := dig_length_le.1 (length_add _ _)
  have hmk : mk neg (z.natAbs + m) = z + mk neg m := by
    subst hneg
    unfold mk
    rcases Int.lt_or_le z 0 with h | h
    · simp only [h, decide_true, if_true]; omega
    · simp only [show ¬ z < 0 by omega, decide_false, Bool.false_eq_true, if_false]; omega
  rw [← hmk]
  have HS := hid hs
  have HD := hid hd
  generalize decide (z < 0) = b at *
  have HX := hid (combine_any 1 1 s d _ _ _ · · · (dig_Dig z.natAbs) (dig_Dig m) (by decide) (by decide) (by decide) (by decide) hval hlt hl1 hl2)
  clear hval hlt hmk hneg hs hd
  have HB0 := hid (show Below w.heap.size w ((w.alloc (Obj.cells #[Value.bool b, s] 24)).alloc (Obj.cells #[Value.bool false, Value.slice none 0 0] 24)) from ((Below.refl _ _).alloc (Nat.le_refl _) _).alloc (by simp) _)
  go_enter Tryz.func60, Tryz.ntmps60
  go_wp2_with fail
  refine (HX.out _ (HS.out.keep HB0.out) (HD.out.keep HB0.out)).mono ?_
  rintro e w1 ⟨v1, rfl, hn1, hb1⟩
  have HN1 := hid hn1
  have HB1 := hid hb1
  clear hn1 hb1
  go_wp2_with fail
  refine (signed_any neg v1 _ _ HN1.out (dig_Dig _)).mono ?_
  rintro e w2 ⟨v2, rfl, hv2, hb2⟩
  rw [val_dig] at hv2
  have HV2 := hid hv2
  have HR := hid (show ResAt w2 (w.heap.size + 1) by
    have h := ((ResAt.new (w.alloc (Obj.cells #[Value.bool b, s] 24)) false none 0 0).keep HB1.out).keep hb2
    rwa [show (w.alloc (Obj.cells #[Value.bool b, s] 24)).heap.size = w.heap.size + 1 by simp] at h)
  have HB := hid (Pu.further HB0.out (Pu.further HB1.out hb2))
  clear hv2 hb2
  go_wp2_with (with_reducible refine wpList_store_int rfl (.tmp 6) (.tmp 16) rfl (w.heap.size + 1) v2 _ rfl rfl HV2.out HR.out ?_)
  exact ret_int_cell rfl rfl HR.out HV2.out HB.out (by omega)

end Zn
end Go.Proofs.YtelfpefcjchjbaaGreatDoor
