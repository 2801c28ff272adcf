/-
  Literals of numbers, indices into them, an integer built of its parts, calls that yield plain values.
-/
import Derived.Test.YtabjodomigllhaaGreatDoorJC43
namespace Go.Proofs.YtabjodomigllhaaGreatDoor
open Go.RowKit
open Go.Lib (hid)
open Dg Zn
namespace Vc

section
variable {cx : Cx Dm} {n : Nat} {σ : St Dm} {o : Oper} {d t : Nat} {x y j : Operand}

/-- A literal of numbers. -/
theorem ok_brow {xs : List Operand} {zs : List Int} (hsm : Nat.ble zs.length 1000 = true) (hpos : Nat.blt 0 zs.length = true) (ho : o.op = .buildSlice 22 zs.length ((xs.zipIdx 0).map fun p => (p.2, p.1)).toArray) (hd : o.dst = some d) (hn : d < n) (hargs : ArgsOk σ xs (zs.map fun z => SA.v (.int .i64 z))) :
    OpOk Tryz.prog cx n σ o (xs.flatMap opk) [(.s d, .av (.one (.d (.gen (rowG zs)))))] := by
  have hsm := Nat.le_of_ble_eq_true hsm
  have hpos : 0 < zs.length := by rw [Nat.blt_eq] at hpos; exact hpos
  have key : ∀ (zs : List Int) (L : Nat → Prop) (ρ : Nat → Nat) (w : World) (vs : List Value), isAll L ρ w (zs.map fun z => (SA.v (.int .i64 z) : SA Dm)) vs → vs = zs.map (Value.int .i64) := by
    intro zs
    induction zs with
    | nil => intro L ρ w vs h; cases vs with | nil => rfl | cons => exact h.elim
    | cons z zs ih =>
      intro L ρ w vs h
      cases vs with
      | nil => exact h.elim
      | cons v vs =>
        have h1 : v = .int .i64 z := h.1
        rw [h1, ih L ρ w vs h.2]
        rfl
  have hl : (zs.map fun z => (SA.v (.int .i64 z) : SA Dm)).length = zs.length := by rw [List.length_map]
  have h := ok_bslice (cx := cx) (n := n) (σ := σ) (o := o) (d := d) (ty := 22) (e := 3) (m := 0) (z := .int .i64 0) (xs := xs) (ss := zs.map fun z => SA.v (.int .i64 z)) (r := .gen (rowG zs)) Tryz.under_ints (by kernel_rfl) (by rw [hl]; omega) (by rw [hl]; exact hpos) (by rw [hl]; exact ho) hd hn hargs
    (by
      intro s hs L ρ w v hv
      obtain ⟨z, _, rfl⟩ := List.mem_map.1 hs
      rw [show v = _ from hv]
      rfl)
    (by
      intro L ρ w vs hall hlt w' hag
      obtain rfl := key zs L ρ w vs hall
      have hcells : ((zs.map (Value.int .i64)).flatMap fun v => v.cells.toList) = zs.map (Value.int .i64) := by
        rw [List.flatMap_map]
        exact (List.map_eq_flatMap (f := Value.int .i64) (l := zs)).symm
      have hb : w'.heap[w.heap.size]? = some (.cells (zs.map (Value.int .i64)).toArray 3 (0, 0)) := by
        rw [hag.2 w.heap.size (by simp) (fun hL => by have := hlt _ hL; omega), hcells]
        exact heap_alloc_new w _
      rw [hl]
      refine ⟨_, zs.length, rfl, Nat.le_refl _, by unfold maxLen; omega, fun hp => ⟨w.heap.size, 0, rfl, fun i hi => ?_⟩⟩
      rw [Nat.zero_add, cell_of_row _ _ _ _ _ _ hb]
      simp [List.getD_eq_getElem?_getD, hi])
  exact h
theorem ok_idxrow {zs : List Int} {i : Nat} (hi : i < zs.length) (ho : o.op = .indexAddr 22 (.tmp t) j) (hd : o.dst = some d) (hn : d < n) (ht : σ (.s t) = .av (.one (.d (.gen (rowG zs))))) (hj : opd σ j = .av (.one (.v (.int .i64 (i : Int))))) :
    OpOk Tryz.prog cx n σ o (.s t :: opk j) [(.s d, .av (.one (.d (.cell (zs.getD i 0)))))] :=
  ok_index Tryz.under_ints ty_i64.2 ho hd hn ht hj fun w v h => by
    obtain ⟨ao, cap, rfl, h1, h2, h3⟩ := h
    obtain ⟨b, off, rfl, hc⟩ := h3 (by omega)
    exact ⟨b, off, _, _, rfl, hi, _, rfl, by rw [Nat.mul_one]; exact hc i hi⟩
theorem built_int (parts : List (Nat × Value)) : Tryz.prog.built 24 parts = Instr.fill ((#[(0, 1), (1, 1)] : Array (Nat × Nat))[·]?) #[.bool false, .slice none 0 0] parts := by kernel_rfl
/-- An integer of its parts. -/
theorem ok_braw {b : Bool} {zs : List Int} (ho : o.op = .build 24 #[(0, x), (1, y)]) (hd : o.dst = some d) (hn : d < n) (hx : opd σ x = .av (.one (.v (.bool b)))) (hy : opd σ y = .av (.one (.d (.gen (rowG zs))))) : OpOk Tryz.prog cx n σ o (opk x ++ opk y) [(.s d, .av (.one (.d (.gen (rawG b zs)))))] := by
  refine ok_read hd hn rfl fun σ' ρ a w h hk => ?_
  have e1 : a.eval x = .bool b := h.opd ((opd_same fun q hq => hk q (by simp [hq])).trans hx)
  have hr := h.opd ((opd_same fun q hq => hk q (by simp [hq])).trans hy)
  obtain ⟨s, m, c, e2⟩ := row_slice (k := .i64) (zs := zs) (hr w (Agree.refl _ _))
  refine ⟨.agg #[.bool b, a.eval y], ?_, ?_⟩
  · have hb : Tryz.prog.built 24 #[(0, a.eval x), (1, a.eval y)].toList = some #[.bool b, a.eval y] := by
      rw [e1, e2, built_int]
      kernel_rfl
    have hb2 := run_build w 24 #[(0, a.eval x), (1, a.eval y)] _ hb
    simp only [execOp, ho, Sem.run_bind]
    rw [show (#[(0, x), (1, y)] : Array (Nat × Operand)).map (fun p => (p.1, a.eval p.2)) = #[(0, a.eval x), (1, a.eval y)] by simp, hb2]
    rfl
  · intro w' hw
    exact ⟨_, rfl, hr w' hw⟩
/-- A call of plain values that yields one. -/
theorem ok_callv {f : Nat} {fn : Func} {args : Array Operand} {tys : Array TypeId} {us : List Value} {r : Value} (hcon : ∀ w, Tab w → Calls Tryz.prog f us.toArray w fun e w' => e = .returned r ∧ Below w.heap.size w w') (ho : o.op = .call ⟨.value (.func f), args, tys⟩) (hd : o.dst = some d) (hn : d < n)
    (hf : Tryz.prog.funcs[f]? = some fn) (hname : (fn.name == "runtime.NumGoroutine") = false) (hb : fn.body.isSome = true) (hargs : ArgsOk σ args.toList (us.map fun u => (SA.v u : SA Dm))) :
    OpOk Tryz.prog cx n σ o (args.toList.flatMap opk) [(.s d, .av (.one (.v r)))] := by
  intro σ' a w Q ⟨ρ, h⟩ h1 _ K hK
  obtain ⟨c, hc⟩ := Option.isSome_iff_exists.1 hb
  have hrun : (execOp a.eval o).run Tryz.prog w = .ok (.enter f (args.toList.map a.eval).toArray) w := by
    have h1 : fn.name ≠ "runtime.NumGoroutine" := by simpa using hname
    have h2 : args.map a.eval = (args.toList.map a.eval).toArray := Array.ext' (by simp)
    simp [execOp, ho, resolve, Deferred.ofValue, invoke, Act.eval, callFunc, hf, h1, hc, h2]
  have key : ∀ (us vs : List Value), isAll (Lof cx σ' ρ) ρ w (us.map fun u => (SA.v u : SA Dm)) vs → vs = us := by
    intro us
    induction us with
    | nil => intro vs h; cases vs with | nil => rfl | cons => exact h.elim
    | cons u us ih =>
      intro vs h
      cases vs with
      | nil => exact h.elim
      | cons v vs => rw [show v = u from h.1, ih vs h.2]
  unfold Oper.wp
  rw [hrun, Oper.upon_enter, key us _ (hargs.is h h1)]
  refine (hcon w (Dom.W_keep (D := Dm) _ _ h.below cx.wf)).mono ?_
  rintro e w' ⟨rfl, hbel⟩
  show K (a.put o.dst r) w'
  rw [hd]
  exact hK _ _ ⟨ρ, h.put hbel hn rfl (by intro b hb; cases hb)⟩
end
end Vc
end Go.Proofs.YtabjodomigllhaaGreatDoor
