/-
  Lists of integers, and of such lists: made at once, and read.
-/
import Derived.Test.YtabjodomigllhaaGreatDoorJC27
import Derived.Great.BuildSlice
import Derived.Great.FillDense
namespace Go.Proofs.YtabjodomigllhaaGreatDoor
open Go.RowKit
open Go.Lib (hid)
open Dg Zn
namespace Vc

theorem under_lint : Tryz.prog.underlying 30 = some (.slice 24) := by kernel_rfl
theorem under_llint : Tryz.prog.underlying 37 = some (.slice 30) := by kernel_rfl
theorem ty_lint : TyIs Tryz.prog 30 none := TyIs.one (by kernel_rfl) (by kernel_rfl)

theorem size_of {P : Program} {ty : TypeId} {m : Nat} (h : (P.info? ty).map (·.size) = some m) (w : World) : (sizeOf ty).run P w = .ok m w := by
  cases hq : P.info? ty with
  | none => rw [hq] at h; cases h
  | some inf =>
    rw [hq] at h
    have : inf.size = m := by simpa using h
    simp [sizeOf, typeInfo, hq, this]
theorem run_index {P : Program} {t e : TypeId} {m : Nat} (hu : P.underlying t = some (.slice e)) (hsz : (P.info? e).map (·.size) = some m) (w : World) (b off len cap i : Nat) (hi : i < len) :
    (Instr.indexAt t (.slice (some ⟨b, off, none⟩) len cap) (.int .i64 (i : Int))).run P w = .ok (.pointer (some ⟨b, off + i * m, none⟩)) w := by
  simp [Instr.indexAt, asIntOf, run_underlying hu, size_of hsz, hi, Addr.add_mid]

section
variable {cx : Cx Dm} {n : Nat} {σ : St Dm} {o : Oper} {d t : Nat} {j : Operand}

theorem ok_index {x r : Dm} {ty e : TypeId} {m i : Nat} (hu : Tryz.prog.underlying ty = some (.slice e)) (hsz : (Tryz.prog.info? e).map (·.size) = some m) (ho : o.op = .indexAddr ty (.tmp t) j) (hd : o.dst = some d) (hn : d < n) (ht : σ (.s t) = .av (.one (.d x))) (hj : opd σ j = .av (.one (.v (.int .i64 (i : Int)))))
    (hx : ∀ w v, Dm.at x w v → ∃ b off len cap, v = .slice (some ⟨b, off, none⟩) len cap ∧ i < len ∧ Dm.at r w (.pointer (some ⟨b, off + i * m, none⟩))) :
    OpOk Tryz.prog cx n σ o (.s t :: opk j) [(.s d, .av (.one (.d r)))] := by
  refine ok_read hd hn rfl fun σ' ρ a w h hk => ?_
  have hs := h.slt t _ ((hk (.s t) (by simp)).trans ht)
  obtain ⟨b, off, len, cap, hv, hi, -⟩ := hx w _ (hs w (Agree.refl _ _))
  have e1 : a.eval (.tmp t) = .slice (some ⟨b, off, none⟩) len cap := hv
  have e2 : a.eval j = .int .i64 (i : Int) := h.opd ((opd_same fun q hq => hk q (by simp [hq])).trans hj)
  refine ⟨.pointer (some ⟨b, off + i * m, none⟩), ?_, ?_⟩
  · simp only [execOp, ho, e1, e2, Sem.run_bind, run_index hu hsz w b off len cap i hi, Result.andThen_ok, Sem.run_pure]
  · intro w' hag
    obtain ⟨b', off', len', cap', hv', -, hr⟩ := hx w' _ (hs w' hag)
    rw [show a.tmps.getD t undef = _ from hv] at hv'
    injection hv' with e4
    injection e4 with e4
    injection e4 with e5 e6
    subst e5; subst e6
    exact hr
theorem ok_ilint {l : List Int} {k i : Nat} (hi : i < l.length) (ho : o.op = .indexAddr 30 (.tmp t) j) (hd : o.dst = some d) (hn : d < n) (ht : σ (.s t) = .av (.one (.d (.lint l k)))) (hj : opd σ j = .av (.one (.v (.int .i64 (i : Int))))) :
    OpOk Tryz.prog cx n σ o (.s t :: opk j) [(.s d, .av (.one (.d (.pint (l.getD i 0) k))))] :=
  ok_index under_lint ty_int.2 ho hd hn ht hj fun w v h => by
    obtain ⟨ao, cap, rfl, h⟩ := h
    obtain ⟨b, off, rfl, h'⟩ := h (by omega)
    obtain ⟨s, h1, h2, h3, h4⟩ := h' i hi
    exact ⟨b, off, _, _, rfl, hi, b, off + i * 2, s, rfl, by rw [Nat.mul_comm i 2]; exact h1, by rw [Nat.mul_comm i 2]; exact h2, h3, h4⟩
theorem ok_illint {l : List (List Int)} {k i : Nat} (hi : i < l.length) (ho : o.op = .indexAddr 37 (.tmp t) j) (hd : o.dst = some d) (hn : d < n) (ht : σ (.s t) = .av (.one (.d (.llint l k)))) (hj : opd σ j = .av (.one (.v (.int .i64 (i : Int))))) :
    OpOk Tryz.prog cx n σ o (.s t :: opk j) [(.s d, .av (.one (.d (.plint (l.getD i []) k))))] :=
  ok_index under_llint ty_lint.2 ho hd hn ht hj fun w v h => by
    obtain ⟨ao, cap, rfl, h⟩ := h
    obtain ⟨b, off, rfl, h'⟩ := h (by omega)
    obtain ⟨s, h1, h2⟩ := h' i hi
    exact ⟨b, off, _, _, rfl, hi, b, off + i * 1, s, rfl, by rw [Nat.mul_one]; exact h1, h2⟩
theorem ok_loadp {z : Int} {k : Nat} (ho : o.op = .load 24 (.tmp t)) (hd : o.dst = some d) (hn : d < n) (ht : σ (.s t) = .av (.one (.d (.pint z k)))) : OpOk Tryz.prog cx n σ o [.s t] [(.s d, .av (.one (.d (.int z k))))] := by
  refine ok_read hd hn rfl fun σ' ρ a w h hk => ?_
  have hs := h.slt t _ ((hk (.s t) (by simp)).trans ht)
  obtain ⟨b, off, s, hv, h1, h2, h3, h4⟩ := hs w (Agree.refl _ _)
  have e1 : a.eval (.tmp t) = .pointer (some ⟨b, off, none⟩) := hv
  obtain ⟨⟨dd, hu, hdd⟩, hsz⟩ := ty_int
  refine ⟨.agg #[.bool (decide (z < 0)), s], ?_, ?_⟩
  · have hr : w.rangeAt b off [.bool (decide (z < 0)), s] := by
      intro j v hj
      rcases j with _ | _ | j
      · obtain rfl := Option.some.inj hj; exact h1
      · obtain rfl := Option.some.inj hj; exact h2
      · cases hj
    have := run_loadVar_mid w b off 24 _ dd hr hu hdd hsz
    simp only [execOp, ho, e1, Sem.run_bind, Instr.loadAt, Instr.sureAddr, Sem.run_pure, Result.andThen_ok, this]
  · intro w' hag
    obtain ⟨b', off', s', hv', h1', h2', h3', h4'⟩ := hs w' hag
    rw [show a.tmps.getD t undef = _ from hv] at hv'
    injection hv' with e4
    injection e4 with e4
    injection e4 with e5 e6
    subst e5; subst e6
    obtain ⟨x, m, c, hxe⟩ := nums_slice h3
    obtain ⟨x', m', c', hxe'⟩ := nums_slice h3'
    have hs2 : s' = s := by
      have hb : Agree (Lof cx σ' ρ) w w' := hag
      have hcell := h2'
      by_cases hL : Lof cx σ' ρ b
      · exfalso
        have hag2 : Agree (Lof cx σ' ρ) w (w.setCell ⟨b, off, none⟩ .nilFunc) := by
          refine ⟨by simp [World.setCell], fun q hq hnq => ?_⟩
          exact Below.heap_setCell _ _ _ _ (fun e => hnq (by rw [show q = b from e]; exact hL))
        obtain ⟨b2, off2, s2, hv2, g1, -⟩ := hs _ hag2
        rw [show a.tmps.getD t undef = _ from hv] at hv2
        injection hv2 with e4
        injection e4 with e4
        injection e4 with e5 e6
        subst e5; subst e6
        rw [World.cell?_setCell_same w _ _ h1] at g1
        cases g1
      · have hlt : b < w.heap.size := by
          rcases Nat.lt_or_ge b w.heap.size with hb | hb
          · exact hb
          · exfalso
            simp only [World.cell?] at h1
            rw [Array.getElem?_eq_none (by omega)] at h1
            cases h1
        rw [World.cell?_of_block (w := w) (hag.2 b hlt hL)] at hcell
        exact Option.some.inj (hcell.symm.trans h2)
    subst hs2
    exact ⟨⟨_, rfl, h3'⟩, h4'⟩
theorem ok_loadl {l : List Int} {k : Nat} (ho : o.op = .load 30 (.tmp t)) (hd : o.dst = some d) (hn : d < n) (ht : σ (.s t) = .av (.one (.d (.plint l k)))) : OpOk Tryz.prog cx n σ o [.s t] [(.s d, .av (.one (.d (.lint l k))))] := by
  refine ok_read hd hn rfl fun σ' ρ a w h hk => ?_
  have hs := h.slt t _ ((hk (.s t) (by simp)).trans ht)
  obtain ⟨b, off, s, hv, h1, h2⟩ := hs w (Agree.refl _ _)
  have e1 : a.eval (.tmp t) = .pointer (some ⟨b, off, none⟩) := hv
  obtain ⟨⟨dd, hu, hdd⟩, hsz⟩ := ty_lint
  have hagg : (isAgg 30).run Tryz.prog w = .ok false w := by
    unfold isAgg
    rw [Sem.run_bind, run_underlying hu w]
    cases dd <;> simp_all
  refine ⟨s, by simp [execOp, ho, e1, Instr.loadAt, Instr.sureAddr, loadVar, hagg, load, Sem.run, h1], ?_⟩
  intro w' hag
  obtain ⟨b', off', s', hv', h1', h2'⟩ := hs w' hag
  rw [show a.tmps.getD t undef = _ from hv] at hv'
  injection hv' with e4
  injection e4 with e4
  injection e4 with e5 e6
  subst e5; subst e6
  have hs2 : s' = s := by
    by_cases hL : Lof cx σ' ρ b
    · exfalso
      have hag2 : Agree (Lof cx σ' ρ) w (w.setCell ⟨b, off, none⟩ .nilFunc) := by
        refine ⟨by simp [World.setCell], fun q hq hnq => ?_⟩
        exact Below.heap_setCell _ _ _ _ (fun e => hnq (by rw [show q = b from e]; exact hL))
      obtain ⟨b2, off2, s2, hv2, g1, g2⟩ := hs _ hag2
      rw [show a.tmps.getD t undef = _ from hv] at hv2
      injection hv2 with e4
      injection e4 with e4
      injection e4 with e5 e6
      subst e5; subst e6
      rw [World.cell?_setCell_same w _ _ h1] at g1
      obtain rfl := Option.some.inj g1
      obtain ⟨ao, cap, hh, _⟩ := g2
      cases hh
    · have hlt : b < w.heap.size := by
        rcases Nat.lt_or_ge b w.heap.size with hb | hb
        · exact hb
        · exfalso
          simp only [World.cell?] at h1
          rw [Array.getElem?_eq_none (by omega)] at h1
          cases h1
      rw [World.cell?_of_block (w := w) (hag.2 b hlt hL)] at h1'
      exact Option.some.inj (h1'.symm.trans h1)
  subst hs2
  exact h2'
theorem ok_lenD {x : Dm} {m : Nat} {ty e : TypeId} (hu : Tryz.prog.underlying ty = some (.slice e)) (ho : o.op = .call ⟨.builtin .len, #[.tmp t], #[ty]⟩) (hd : o.dst = some d) (hn : d < n) (ht : σ (.s t) = .av (.one (.d x))) (hx : ∀ w v, Dm.at x w v → ∃ ao cap, v = .slice ao m cap) : OpOk Tryz.prog cx n σ o [.s t] [(.s d, .av (.one (.v (.int .i64 (m : Int)))))] := by
  refine ok_read hd hn rfl fun σ' ρ a w h hk => ⟨_, ?_, rfl⟩
  obtain ⟨ao, c, hv⟩ := hx w _ ((h.slt t _ ((hk (.s t) (by simp)).trans ht)) w (Agree.refl _ _))
  have e1 : a.eval (.tmp t) = .slice ao m c := hv
  simp [execOp, ho, resolve, invoke, e1, builtin, Builtin.len_, run_underlying hu, goInt]
theorem ok_lenl {l : List Int} {k : Nat} (ho : o.op = .call ⟨.builtin .len, #[.tmp t], #[30]⟩) (hd : o.dst = some d) (hn : d < n) (ht : σ (.s t) = .av (.one (.d (.lint l k)))) : OpOk Tryz.prog cx n σ o [.s t] [(.s d, .av (.one (.v (.int .i64 (l.length : Int)))))] :=
  ok_lenD under_lint ho hd hn ht fun w v ⟨ao, cap, h, _⟩ => ⟨ao, cap, h⟩
theorem ok_lenll {l : List (List Int)} {k : Nat} (ho : o.op = .call ⟨.builtin .len, #[.tmp t], #[37]⟩) (hd : o.dst = some d) (hn : d < n) (ht : σ (.s t) = .av (.one (.d (.llint l k)))) : OpOk Tryz.prog cx n σ o [.s t] [(.s d, .av (.one (.v (.int .i64 (l.length : Int)))))] :=
  ok_lenD under_llint ho hd hn ht fun w v ⟨ao, cap, h, _⟩ => ⟨ao, cap, h⟩

/-- A new slice of parts. -/
theorem ok_bslice {ty e : TypeId} {m : Nat} {z : Value} {xs : List Operand} {ss : List (SA Dm)} {r : Dm} (hu : Tryz.prog.underlying ty = some (.slice e)) (hsz : (Tryz.prog.info? e).map (fun i => (i.size, i.zero)) = some (m + 1, some z)) (hsm : ss.length * (m + 1) ≤ 2 ^ 24) (hpos : 0 < ss.length)
    (ho : o.op = .buildSlice ty ss.length ((xs.zipIdx 0).map fun p => (p.2, p.1)).toArray) (hd : o.dst = some d) (hn : d < n) (hargs : ArgsOk σ xs ss)
    (hone : ∀ s ∈ ss, ∀ L ρ w v, s.is L ρ w v → v.cells.size = m + 1)
    (hr : ∀ L ρ w vs, isAll L ρ w ss vs → (∀ b, L b → b < w.heap.size) → ∀ w', Agree L (w.alloc (.cells (vs.flatMap fun v => v.cells.toList).toArray e)) w' → Dm.at r w' (.slice (some ⟨w.heap.size, 0, none⟩) ss.length ss.length)) :
    OpOk Tryz.prog cx n σ o (xs.flatMap opk) [(.s d, .av (.one (.d r)))] := by
  intro σ' a w Q ⟨ρ, h⟩ h1 _ K hK
  have hall := hargs.is h h1
  have hlen := isAll_length hall
  cases hie : Tryz.prog.info? e with
  | none => rw [hie] at hsz; cases hsz
  | some ie =>
    rw [hie] at hsz
    simp only [Option.map_some, Option.some.injEq, Prod.mk.injEq] at hsz
    obtain ⟨hs1, hs2⟩ := hsz
    have hcells : ∀ v ∈ xs.map a.eval, v.cells.size = m + 1 := by
      have key : ∀ (ss : List (SA Dm)) (vs : List Value), isAll (Lof cx σ' ρ) ρ w ss vs → (∀ s ∈ ss, ∀ L ρ w v, s.is L ρ w v → v.cells.size = m + 1) → ∀ v ∈ vs, v.cells.size = m + 1 := by
        intro ss
        induction ss with
        | nil => intro vs h2 _ v hv; cases vs with | nil => cases hv | cons => exact h2.elim
        | cons s ss ih =>
          intro vs h2 h3 v hv
          cases vs with
          | nil => exact h2.elim
          | cons u vs =>
            rcases List.mem_cons.1 hv with e | e
            · rw [e]; exact h3 s List.mem_cons_self _ _ _ _ h2.1
            · exact ih vs h2.2 (fun s hs => h3 s (List.mem_cons_of_mem _ hs)) v e
      exact key ss _ hall hone
    have hxl : xs.length = ss.length := by simpa using hlen
    have hzip : (((xs.zipIdx 0).map fun p => (p.2, p.1)).toArray.map fun (p : Nat × Operand) => (p.1, a.eval p.2)).toList = (((xs.map a.eval).zipIdx 0).map fun x => (x.2, x.1)) := by
      simp [List.zipIdx_map, Function.comp_def]
    have hrun := run_buildSlice (P := Tryz.prog) w ty e ss.length (((xs.zipIdx 0).map fun p => (p.2, p.1)).toArray.map fun (p : Nat × Operand) => (p.1, a.eval p.2)) _ ie z hu hie hs2 (by rw [hs1]; omega) (by rw [hs1]; exact Nat.mul_ne_zero (by omega) (by omega))
      (by rw [hzip, hs1]; exact Great.fill_whole (Nat.succ_pos m) (xs.map a.eval) _ hcells (by simp [hxl]))
    unfold Oper.wp execOp
    simp only [ho, Sem.run_bind]
    rw [hrun]
    simp only [Result.andThen_ok, Sem.run_pure, Oper.upon_value]
    rw [hd]
    exact hK _ _ ⟨ρ, h.put ((Below.refl _ _).alloc (Nat.le_refl _) _) hn (fun w' hw => hr _ ρ w _ hall h.lofLt w' hw) (by intro b hb; cases hb)⟩

/-- These integers, of at most so many digits. -/
def IntsLe : List (SA Dm) → List Int → Nat → Prop
  | [], [], _ => True
  | .d (.int z k) :: ss, y :: l, K => (z = y ∧ k ≤ K) ∧ IntsLe ss l K
  | _, _, _ => False
theorem IntsLe.length : ∀ {ss : List (SA Dm)} {l : List Int} {K : Nat}, IntsLe ss l K → ss.length = l.length
  | [], [], _, _ => rfl
  | .d (.int z k) :: ss, y :: l, K, h => congrArg (· + 1) (IntsLe.length h.2)
theorem ints_two {ss : List (SA Dm)} {l : List Int} {K : Nat} (h : IntsLe ss l K) : ∀ s ∈ ss, ∀ L ρ w v, s.is L ρ w v → v.cells.size = 1 + 1 := by
  induction ss generalizing l with
  | nil => intro s hs; cases hs
  | cons s ss ih =>
    match s, l, h with
    | .d (.int z k), y :: l, h =>
      intro s hs L ρ w v hv
      rcases List.mem_cons.1 hs with e | e
      · subst e
        obtain ⟨⟨x, rfl, _⟩, _⟩ := is_int hv
        rfl
      · exact ih h.2 s e L ρ w v hv
/-- Cells of integers, one behind the other. -/
theorem ints_cells {ss : List (SA Dm)} {l : List Int} {K : Nat} (h : IntsLe ss l K) {L : Nat → Prop} {ρ : Nat → Nat} {w : World} {vs : List Value} (hall : isAll L ρ w ss vs) :
    ∀ i, i < l.length → ∃ s, (vs.flatMap fun v => v.cells.toList)[2 * i]? = some (.bool (decide (l.getD i 0 < 0))) ∧ (vs.flatMap fun v => v.cells.toList)[2 * i + 1]? = some s ∧ (∀ w', Agree L w w' → Nums w' s (dig (l.getD i 0).natAbs)) ∧ len (l.getD i 0) ≤ K := by
  induction ss generalizing l vs with
  | nil => match l, h with | [], _ => intro i hi; cases hi
  | cons s ss ih =>
    match s, l, vs, h, hall with
    | .d (.int z k), y :: l, v :: vs, h, hall =>
      obtain ⟨⟨rfl, hk⟩, h2⟩ := h
      obtain ⟨a, m, c, hv, hn⟩ := dat_int hall.1
      intro i hi
      cases i with
      | zero =>
        refine ⟨.slice a m c, ?_, ?_, fun w' hw => (hn w' hw).1, Nat.le_trans (hn w (Agree.refl _ _)).2 hk⟩
        · rw [hv]; rfl
        · rw [hv]; rfl
      | succ i =>
        obtain ⟨s, e1, e2, e3⟩ := ih h2 hall.2 i (by simpa using hi)
        refine ⟨s, ?_, ?_, e3⟩
        · rw [List.flatMap_cons, hv, show 2 * (i + 1) = 2 * i + 2 by omega]
          exact e1
        · rw [List.flatMap_cons, hv, show 2 * (i + 1) + 1 = 2 * i + 1 + 2 by omega]
          exact e2
theorem ok_blint {xs : List Operand} {ss : List (SA Dm)} (l : List Int) (K : Nat) (hsm : Nat.ble (ss.length * 2) 1000 = true) (hpos : Nat.blt 0 ss.length = true) (ho : o.op = .buildSlice 30 ss.length ((xs.zipIdx 0).map fun p => (p.2, p.1)).toArray) (hd : o.dst = some d) (hn : d < n) (hargs : ArgsOk σ xs ss) (hl : IntsLe ss l K) :
    OpOk Tryz.prog cx n σ o (xs.flatMap opk) [(.s d, .av (.one (.d (.lint l K))))] := by
  have hsm := Nat.le_of_ble_eq_true hsm
  have hpos : 0 < ss.length := by rw [Nat.blt_eq] at hpos; exact hpos
  refine ok_bslice (m := 1) (z := .agg #[.bool false, .slice none 0 0]) under_lint (by kernel_rfl) (by omega) hpos ho hd hn hargs (ints_two hl) ?_
  intro L ρ w vs hall hlt w' hag
  have hlen := hl.length
  rw [hlen]
  refine ⟨_, _, rfl, fun hp => ⟨w.heap.size, 0, rfl, fun i hi => ?_⟩⟩
  obtain ⟨s, e1, e2, e3, e4⟩ := ints_cells hl hall i hi
  have hb : w'.heap[w.heap.size]? = some (.cells (vs.flatMap fun v => v.cells.toList).toArray 24 (0, 0)) := by
    rw [hag.2 w.heap.size (by simp) (fun hL => by have := hlt _ hL; omega)]
    exact heap_alloc_new w _
  have hag' : Agree L w w' := (Agree.below ((Below.refl _ _).alloc (Nat.le_refl _) _)).trans hag
  refine ⟨s, ?_, ?_, e3 w' hag', e4⟩
  · rw [Nat.zero_add, cell_of_row _ _ _ _ _ _ hb]; simpa using e1
  · rw [Nat.zero_add, cell_of_row _ _ _ _ _ _ hb]; simpa using e2

end
end Vc
end Go.Proofs.YtabjodomigllhaaGreatDoor
