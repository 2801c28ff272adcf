/-
  Integers of any digits, and lists of them, as data; the reference's Take.
-/
import Derived.Test.YtabjodomigllhaaGreatDoorJC39
import Derived.Test.YtabjodomigllhaaGreatDoorJC23
import Derived.Laws.OwnMore
namespace Go.Proofs.YtabjodomigllhaaGreatDoor
open Go.RowKit
open Go.Lib (hid)
open Dg Zn
namespace Vc

theorem row_slice {k : IntKind} {w : World} {v : Value} {zs : List Int} (h : Row k w v zs) : ∃ a n c, v = .slice a n c := by
  obtain ⟨a, c, h, _⟩ := h
  exact ⟨a, _, c, h⟩
/-- A slice of these numbers. -/
def rowG (zs : List Int) : Gen where
  is := fun w v => Row .i64 w v zs
  shape := none
  plain := true
  ok := fun w v h => by obtain ⟨a, n, c, rfl⟩ := row_slice h; exact ⟨_, rfl, rfl⟩
  pl := fun _ w v h => by obtain ⟨a, n, c, rfl⟩ := row_slice h; simp [Value.cells, notInt]
/-- An integer of any digits. -/
def rawG (b : Bool) (zs : List Int) : Gen where
  is := fun w v => ∃ s, v = .agg #[.bool b, s] ∧ Row .i64 w s zs
  shape := some 2
  plain := true
  ok := fun w v ⟨s, h, hs⟩ => by
    obtain ⟨a, n, c, rfl⟩ := row_slice hs
    subst h
    exact ⟨[_, _], rfl, rfl, by simp [Value.oneCell']⟩
  pl := fun _ w v ⟨s, h, hs⟩ => by
    obtain ⟨a, n, c, rfl⟩ := row_slice hs
    subst h
    simp [Value.cells, notInt]
/-- A pointer to one. -/
def prawG (b : Bool) (zs : List Int) : Gen where
  is := fun w v => ∃ g off s, v = .pointer (some ⟨g, off, none⟩) ∧ w.cell? ⟨g, off, none⟩ = some (.bool b) ∧ w.cell? ⟨g, off + 1, none⟩ = some s ∧ Row .i64 w s zs
  shape := none
  plain := true
  ok := fun w v ⟨g, off, s, h, _⟩ => by subst h; exact ⟨_, rfl, rfl⟩
  pl := fun _ w v ⟨g, off, s, h, _⟩ => by subst h; simp [Value.cells, notInt]
/-- A list of them. -/
def lrawG (l : List (Bool × List Int)) : Gen where
  is := fun w v => ∃ ao cap, v = .slice ao l.length cap ∧ (0 < l.length → ∃ g off, ao = some ⟨g, off, none⟩ ∧ ∀ i, i < l.length → ∃ s, w.cell? ⟨g, off + 2 * i, none⟩ = some (.bool (l.getD i (false, [])).1) ∧ w.cell? ⟨g, off + 2 * i + 1, none⟩ = some s ∧ Row .i64 w s (l.getD i (false, [])).2)
  shape := none
  plain := true
  ok := fun w v ⟨ao, cap, h, _⟩ => by subst h; exact ⟨_, rfl, rfl⟩
  pl := fun _ w v ⟨ao, cap, h, _⟩ => by subst h; simp [Value.cells, notInt]

theorem row_agree {L : Nat → Prop} {w w' : World} {v : Value} {zs : List Int} (h : Row .i64 w v zs) (hn : NoInt L w) (hag : Agree L w w') : Row .i64 w' v zs := by
  obtain ⟨a, c, h1, h2, h3, h4⟩ := h
  refine ⟨a, c, h1, h2, h3, fun hl => ?_⟩
  obtain ⟨b, off, h5, h6⟩ := h4 hl
  exact ⟨b, off, h5, fun i hi => cell_agree hn hag (h6 i hi)⟩
theorem row_of_nums {w : World} {v : Value} {ds : List Nat} (h : Nums w v ds) : Row .i64 w v (ds.map Int.ofNat) := by
  obtain ⟨a, c, rfl, h2, h3, h4⟩ := h
  refine ⟨a, c, by rw [List.length_map], by rw [List.length_map]; exact h2, h3, fun hl => ?_⟩
  rw [List.length_map] at hl
  obtain ⟨b, off, h5, h6⟩ := h4 hl
  refine ⟨b, off, h5, fun i hi => ?_⟩
  rw [List.length_map] at hi
  rw [h6 i hi]
  simp [List.getD_eq_getElem?_getD, hi]
theorem row_of_list {w : World} {v : Value} {zs : List Int} (h : ListI w v zs) : Row .i64 w v zs := h.2

section
variable {cx : Cx Dm} {n : Nat} {σ : St Dm} {o : Oper} {d t : Nat} {x y j : Operand}

theorem ok_min {ts : Array TypeId} {k : IntKind} {a b c : Int} (hc : (if b < a then b else a) = c) (ho : o.op = .call ⟨.builtin .min, #[x, y], ts⟩) (hd : o.dst = some d) (hn : d < n) (hx : opd σ x = .av (.one (.v (.int k a)))) (hy : opd σ y = .av (.one (.v (.int k b)))) :
    OpOk Tryz.prog cx n σ o (opk x ++ opk y) [(.s d, .av (.one (.v (.int k c))))] := by
  refine ok_read hd hn rfl fun σ' ρ a w h hk => ⟨_, ?_, rfl⟩
  have e1 := h.opd ((opd_same fun q hq => hk q (by simp [hq])).trans hx)
  have e2 := h.opd ((opd_same fun q hq => hk q (by simp [hq])).trans hy)
  have e1 : a.eval x = _ := e1
  have e2 : a.eval y = _ := e2
  simp only [execOp, ho, resolve, invoke, builtin, Sem.run_bind, Sem.run_pure, Result.andThen_ok]
  rw [show (#[x, y] : Array Operand).map a.eval = #[a.eval x, a.eval y] by simp, e1, e2]
  rw [run_min_int2, hc]
  rfl
theorem ok_leni {zs : List Int} (ho : o.op = .call ⟨.builtin .len, #[.tmp t], #[22]⟩) (hd : o.dst = some d) (hn : d < n) (ht : σ (.s t) = .av (.one (.d (.ints zs)))) : OpOk Tryz.prog cx n σ o [.s t] [(.s d, .av (.one (.v (.int .i64 (zs.length : Int)))))] :=
  ok_lenD Tryz.under_ints ho hd hn ht fun w v ⟨_, ao, cap, h, _⟩ => ⟨ao, cap, h⟩
theorem ok_sliceTo {zs : List Int} {m : Nat} (hm : m ≤ zs.length) (ho : o.op = .slice 22 (.tmp t) none (some j) none) (hd : o.dst = some d) (hn : d < n) (ht : σ (.s t) = .av (.one (.d (.ints zs)))) (hj : opd σ j = .av (.one (.v (.int .i64 (m : Int))))) :
    OpOk Tryz.prog cx n σ o (.s t :: opk j) [(.s d, .av (.one (.d (.gen (rowG (zs.take m))))))] := by
  refine ok_read hd hn rfl fun σ' ρ a w h hk => ?_
  have hs := h.slt t _ ((hk (.s t) (by simp)).trans ht)
  have e2 : a.eval j = _ := h.opd ((opd_same fun q hq => hk q (by simp [hq])).trans hj)
  obtain ⟨_, ao, cap, hv, h1, h2, h3⟩ := hs w (Agree.refl _ _)
  have e1 : a.eval (.tmp t) = .slice ao zs.length cap := hv
  have hel : Tryz.prog.elem 22 = 3 := by kernel_rfl
  have hu : Tryz.prog.underlying 22 = some (.slice (Tryz.prog.elem 22)) := by rw [hel]; exact Tryz.under_ints
  have hsz : (sizeOf (Tryz.prog.elem 22)).run Tryz.prog w = .ok 1 w := by rw [hel]; exact size_of ty_i64.2 w
  refine ⟨sliced ao 0 m cap 1, ?_, ?_⟩
  · simp only [execOp, ho, Option.map_some, Option.map_none, Sem.run_bind]
    rw [e1, e2, run_sliceAt_slice _ _ _ _ _ _ hu, run_slice_h (h0 := by omega) (h2 := by omega) (ht := hu), hsz]
    rfl
  · intro w' hag
    obtain ⟨_, ao', cap', hv', h1', h2', h3'⟩ := hs w' hag
    rw [show a.tmps.getD t undef = _ from hv] at hv'
    injection hv' with e3 e4 e5
    subst e3; subst e5
    have hl : (zs.take m).length = m := by rw [List.length_take]; omega
    refine ⟨if cap = 0 then ao else ao.map (·.add (0 * 1)), cap - 0, by rw [hl]; rfl, by rw [hl]; omega, by omega, fun hp => ?_⟩
    rw [hl] at hp
    obtain ⟨b, off, rfl, hc⟩ := h3' (by omega)
    refine ⟨b, off, ?_, fun i hi => ?_⟩
    · split
      · rfl
      · simp [Addr.add_lit]
    · rw [hl] at hi
      rw [hc i (by omega), List.getD_eq_getElem?_getD, List.getD_eq_getElem?_getD, List.getElem?_take, if_pos hi]
theorem row_of_owns {w : World} {base : Nat} {v : Value} {zs : List Int} (h : w.ownsRow base 3 1 v zs.length (zs.map (Value.int .i64))) : Row .i64 w v zs := by
  rcases h.2 with ⟨rfl, hl⟩ | ⟨g, cap, cur, rfl, hg, hh, hn, hm, hs, ht⟩
  · exact ⟨none, 0, by rw [hl], by omega, by decide, fun hp => by omega⟩
  · refine ⟨_, cap, rfl, hn, hm, fun hp => ⟨g, 0, rfl, fun i hi => ?_⟩⟩
    rw [Nat.zero_add, World.ownsRow.cellAt h i (by omega)]
    simp [List.getD_eq_getElem?_getD, hi]
theorem row_cells {w : World} {b off : Nat} {zs : List Int} (hc : ∀ i, i < zs.length → w.cell? ⟨b, off + i, none⟩ = some (.int .i64 (zs.getD i 0))) : ∀ j u, (zs.map (Value.int .i64))[j]? = some u → w.cell? ((⟨b, off, none⟩ : Addr).add j) = some u := by
  intro j u hj
  rw [List.getElem?_map] at hj
  cases hq : zs[j]? with
  | none => rw [hq] at hj; cases hj
  | some d =>
    rw [hq] at hj
    obtain rfl := Option.some.inj hj
    have hjl := (List.getElem?_eq_some_iff.1 hq).1
    rw [Addr.add_lit, hc j hjl, List.getD_eq_getElem?_getD, hq]
    rfl
theorem ok_appendNil {zs : List Int} (hlen : zs.length ≤ 1099511627776) (ho : o.op = .call ⟨.builtin .append, #[x, y], #[22, 22]⟩) (hd : o.dst = some d) (hn : d < n) (hx : opd σ x = .av (.one (.v (.slice none 0 0)))) (hy : opd σ y = .av (.one (.d (.gen (rowG zs))))) :
    OpOk Tryz.prog cx n σ o (opk x ++ opk y) [(.s d, .av (.one (.d (.gen (rowG zs)))))] := by
  intro σ' a w Q ⟨ρ, h⟩ h1 _ K hK
  obtain ⟨i0, hi, hz0, hz1, hz2⟩ := info_parts Tryz.int_info
  have e1 : a.eval x = .slice none 0 0 := h.opd ((opd_same fun q hq => h1 q (by simp [hq])).trans hx)
  have hM := (h.opd ((opd_same fun q hq => h1 q (by simp [hq])).trans hy)) w (Agree.refl _ _)
  obtain ⟨ao, c, e2, c1, c2, g2⟩ : Row .i64 w (a.eval y) zs := hM
  have hex : ∃ v' w', (Builtin.append_ #[22, 22] o.type #[.slice none 0 0, .slice ao zs.length c]).run Tryz.prog w = .ok v' w' ∧ w'.ownsRow w.heap.size 3 1 v' zs.length (zs.map (Value.int .i64)) ∧ w.grownBy w' none := by
    by_cases hp : 0 < zs.length
    · obtain ⟨b, off, rfl, hc⟩ := g2 hp
      obtain ⟨v', w', q1, q2, q3, _⟩ := run_append_own (P := Tryz.prog) w w.heap.size 22 o.type 3 i0 (.int .i64 0) 1 8 Tryz.under_ints hi hz0 hz1 hz2 rfl (by decide) (.slice none 0 0) 0 [] (World.ownsRow_nil _ _ _ _) ⟨b, off, none⟩ zs.length c (zs.map (Value.int .i64)) (by simp) (row_cells hc) (by simp [Value.oneCell']) (by unfold maxLen; omega) (by omega) (Nat.le_refl _)
      rw [Nat.zero_add, List.nil_append] at q2
      exact ⟨v', w', q1, q2, q3⟩
    · obtain rfl : zs = [] := List.eq_nil_of_length_eq_zero (by omega)
      refine ⟨.slice none 0 0, w, ?_, World.ownsRow_nil _ _ _ _, ⟨rfl, rfl, rfl, Nat.le_refl _, fun k _ _ => rfl⟩⟩
      cases ao with
      | none => simp [Builtin.append_, run_underlying Tryz.under_ints, sizeOf, typeInfo, hi, Builtin.lenOf, Builtin.firstCells]
      | some ad =>
        have h0 := run_loadCells_list (P := Tryz.prog) w ad [] (by intro j v h; cases h)
        rw [List.length_nil] at h0
        simp [Builtin.append_, run_underlying Tryz.under_ints, sizeOf, typeInfo, hi, Builtin.lenOf, Builtin.firstCells, h0]
  obtain ⟨v', w', hr, hown, hgrow⟩ := hex
  have hb : Below w.heap.size w w' := (Below.refl _ _).grown hgrow (Nat.le_refl _) (fun k hk => by cases hk)
  have hrun : (execOp a.eval o).run Tryz.prog w = .ok (.value v') w' := by
    simp only [execOp, ho, resolve, invoke, builtin, Sem.run_bind, Sem.run_pure, Result.andThen_ok]
    rw [show (#[x, y] : Array Operand).map a.eval = #[.slice none 0 0, .slice ao zs.length c] by simp [e1, e2]]
    rw [hr]
    rfl
  unfold Oper.wp
  rw [hrun, Oper.upon_value, hd]
  refine hK _ _ ⟨ρ, h.put hb hn ?_ (by intro b hb; cases hb)⟩
  intro w'' hag
  obtain ⟨ao', c', q1, q2, q3, q4⟩ := row_of_owns hown
  refine ⟨ao', c', q1, q2, q3, fun hl => ?_⟩
  obtain ⟨g, off', q5, q6⟩ := q4 hl
  refine ⟨g, off', q5, fun i hi => ?_⟩
  have hge : w.heap.size ≤ g ∧ g < w'.heap.size := World.ownsRow.lt hown g (by rw [q1, q5]; rfl)
  rw [World.cell?_of_block (w := w') (hag.2 g hge.2 (fun hL => by have := h.lofLt _ hL; omega))]
  exact q6 i hi
end
end Vc
end Go.Proofs.YtabjodomigllhaaGreatDoor
