/-
  Texts and bytes: the operations on them.
-/
import Derived.Test.YtcblbepaigdlgaaGreatJB41
import Derived.Test.YtcblbepaigdlgaaGreatJB40
import Derived.Test.YtcblbepaigdlgaaGreatJB34
import Derived.Lib.ConvBytes
import Derived.Laws.IdiomStrings
set_option linter.unusedVariables false
set_option linter.unusedSimpArgs false
set_option linter.unusedSectionVars false
namespace Go.Proofs.YtcblbepaigdlgaaGreat
open Go.RowKit
open Go.Lib (hid)
open Dg Zn
namespace Vc
section
variable {P : Program} {cx : Cx Dm} {n : Nat} {σ : St Dm} {o : Oper} {d t : Nat} {x y j : Operand} {T T' : TypeId}
/-! Texts. -/
theorem ok_maxI {ts : Array TypeId} {k : IntKind} {a b c : Int} (hc : (if a < b then b else a) = c) (ho : o.op = .call ⟨.builtin .max, #[x, y], ts⟩) (hd : o.dst = some d) (hn : d < n) (hx : opd σ x = .av (.one (.v (.int k a)))) (hy : opd σ y = .av (.one (.v (.int k b)))) :
  OpOk P cx n σ o (opk x ++ opk y) [(.s d, .av (.one (.v (.int k c))))] := by
 refine ok_read hd hn rfl fun σ' ρ a w h hk => ⟨_, ?_, rfl⟩
 have e1 := h.opd ((opd_same fun q hq => hk q (by simp [hq])).trans hx)
 have e2 := h.opd ((opd_same fun q hq => hk q (by simp [hq])).trans hy)
 have e1 : a.eval x = _ := e1
 have e2 : a.eval y = _ := e2
 simp only [execOp, ho, resolve, invoke, builtin, Sem.run_bind, Sem.run_pure, Result.andThen_ok]
 rw [show (#[x, y] : Array Operand).map a.eval = #[a.eval x, a.eval y] by simp, e1, e2]
 rw [run_max_int2, hc]
 rfl
theorem ok_minI {ts : Array TypeId} {k : IntKind} {a b c : Int} (hc : (if b < a then b else a) = c) (ho : o.op = .call ⟨.builtin .min, #[x, y], ts⟩) (hd : o.dst = some d) (hn : d < n) (hx : opd σ x = .av (.one (.v (.int k a)))) (hy : opd σ y = .av (.one (.v (.int k b)))) :
  OpOk P cx n σ o (opk x ++ opk y) [(.s d, .av (.one (.v (.int k c))))] := by
 refine ok_read hd hn rfl fun σ' ρ a w h hk => ⟨_, ?_, rfl⟩
 have e1 := h.opd ((opd_same fun q hq => hk q (by simp [hq])).trans hx)
 have e2 := h.opd ((opd_same fun q hq => hk q (by simp [hq])).trans hy)
 have e1 : a.eval x = _ := e1
 have e2 : a.eval y = _ := e2
 simp only [execOp, ho, resolve, invoke, builtin, Sem.run_bind, Sem.run_pure, Result.andThen_ok]
 rw [show (#[x, y] : Array Operand).map a.eval = #[a.eval x, a.eval y] by simp, e1, e2]
 rw [run_min_int2, hc]
 rfl
end
/-! Types of this program. -/
theorem u_bytes : Tryz.prog.underlying 55 = some (.slice 5) := by kernel_rfl
theorem u_ints : Tryz.prog.underlying 22 = some (.slice 3) := by kernel_rfl
theorem inf_u8 : (Tryz.prog.info? 5).map (fun i => (i.zero, i.size, i.bytes)) = some (some (.int .u8 0), 1, 1) := by kernel_rfl
theorem inf_i64 : (Tryz.prog.info? 3).map (fun i => (i.zero, i.size, i.bytes)) = some (some (.int .i64 0), 1, 8) := by kernel_rfl
theorem zs_u8 : (Tryz.prog.info? 5).map (fun i => (i.size, i.zero)) = some (1, some (.int .u8 0)) := by kernel_rfl
theorem zs_i64 : (Tryz.prog.info? 3).map (fun i => (i.size, i.zero)) = some (1, some (.int .i64 0)) := by kernel_rfl
theorem sz_u8 : (Tryz.prog.info? 5).map (·.size) = some 1 := by kernel_rfl
theorem sz_i64 : (Tryz.prog.info? 3).map (·.size) = some 1 := by kernel_rfl
theorem ty_u8 : TyIs Tryz.prog 5 none := TyIs.one (by kernel_rfl) (by kernel_rfl)
theorem ty_bytes : TyIs Tryz.prog 55 none := TyIs.one (by kernel_rfl) (by kernel_rfl)
end Vc
end Go.Proofs.YtcblbepaigdlgaaGreat

namespace Go.Proofs.YtcblbepaigdlgaaGreat
open Go.RowKit
open Dg Zn
namespace Vc
section
variable {D : Type} [Dom D] {P : Program} {cx : Cx D} {n : Nat} {σ : St D} {o : Oper}
theorem ok_allocN {d r : Nat} {ty : TypeId} {z : Value} {k : Option Nat} (hz : (P.info? ty).map (·.zero) = some (some z)) (hk : (SA.v z : SA D).kind = some k) (ho : o.op = .alloc ty) (hd : o.dst = some d) (hn : d < n) (hr : σ (.b r) = .no) (hkp : kpB (σ KP) = true) (hrK : Nat.beq r 1000000 = false) :
  OpOk P cx n σ o [] [(.s d, .av (.one (.ptr r 0))), (.b r, .row ty k [.v z]), (KP, .np (r :: npL (σ KP)))] := by
 intro σ' a w Q ⟨ρ, h⟩ h1 h2 K hK
 have hKP := h2 KP (by simp [keys])
 have hrK1 : r ≠ 1000000 := fun e => by subst e; cases hrK
 obtain ⟨cs, hcs⟩ := SA.kind_ok (L := fun _ => False) (ρ := ρ) (w := w) hk (v := z) rfl
 have hzr : (zeroValue ty).run P w = .ok z w := by
  cases hq : P.info? ty with
  | none => simp [hq] at hz
  | some inf =>
   simp only [hq, Option.map_some, Option.some.injEq] at hz
   simp [zeroValue, typeInfo, hq, hz]
 have hrun : (execOp a.eval o).run P w = .ok (.value (.pointer (some ⟨w.heap.size, 0, none⟩))) (w.alloc (.cells cs.toArray ty)) := by
  rw [← hcs.cells]
  simp only [execOp, ho, Sem.run_bind, Instr.alloc, hzr, newVar, newRow, run_newObj_alloc, Sem.run_pure, Result.andThen_ok]
 unfold Oper.wp
 rw [hrun, Oper.upon_value, hd]
 have hk := h.kp (q := .np (r :: npL (σ KP))) (by rw [hKP]; exact hkp) rfl (fun _ => by simp) (fun i T k l _ hi q => hi (by rw [hKP] at q; exact List.mem_cons_of_mem _ q))
 have hr0 : σ' (.b r) = .no := (h2 (.b r) (by simp [keys])).trans hr
 have hKr : Key.b r ≠ KP := by simpa [KP] using hrK1
 obtain ⟨σ1, hσ1⟩ : ∃ σ1, σ1 = upd σ' [(KP, .np (r :: npL (σ KP)))] := ⟨_, rfl⟩
 rw [← hσ1] at hk
 have hk1 : σ1 (.b r) = .no := by rw [hσ1, upd1_ne hKr]; exact hr0
 have hkK : σ1 KP = .np (r :: npL (σ KP)) := by rw [hσ1]; exact upd1
 have hnew := hk.new (d := d) (i := r) (g := w.heap.size) (c := 1) (av := .one (.ptr r 0)) (x := .row ty k [.v z]) (v := .pointer (some ⟨w.heap.size, 0, none⟩)) ((Below.refl _ _).alloc (Nat.le_refl _) (.cells cs.toArray ty)) hn hk1 hrK1 (by simp) (Nat.le_refl _) (fun ρ' hρ => by show _ = _; rw [hρ]) (fun b hb => by simpa [AV.ptrs, SA.ptrs] using hb)
  (fun T ch e => by cases e) (fun T1 k1 l1 e => by
   injection e with e1 e2 e3
   subst e1; subst e2; subst e3
   refine ⟨⟨Nat.le_refl _, by decide, rfl⟩, fun _ => ⟨cs, [], by rw [List.append_nil]; exact RowC.mk0 (heap_alloc_new w _), ⟨cs, [], z, by simp, hcs, rfl, rfl⟩, by rw [List.append_nil, hcs.length, Nat.one_mul], fun q => absurd (by rw [hkK]; exact List.mem_cons_self) q⟩⟩) (by intro b hb; cases hb) (fun _ _ _ _ _ q => q)
 have e3 : upd σ1 [(.s d, .av (.one (.ptr r 0))), (.b r, .row ty k [.v z])] = upd σ' [(.s d, .av (.one (.ptr r 0))), (.b r, .row ty k [.v z]), (KP, .np (r :: npL (σ KP)))] := by
  rw [hσ1]
  rfl
 rw [e3] at hnew
 exact hK _ _ hnew
end
section
variable {P : Program} {cx : Cx Dm} {n : Nat}
theorem CV.freezeP {c : Code} {K : Exit → Sg Dm → Prop} {r t : Nat} {T : TypeId} {k : Option Nat} {s : SA Dm} {l0 : Sg Dm} (hB : ∀ b, ¬ cx.Bw b) (hr : lookD .no l0 (.b r) = .row T k [s]) (ht : lookD .no l0 (.s t) = .av (.one (.ptr r 0))) (ht' : Nat.blt t n = true) (hrK : Nat.beq r 1000000 = false)
  (h : CV P cx n c ((.s t, .av (.one (.d (Dm.gen (pG k s))))) :: (.b r, .dead) :: l0) K) : CV P cx n c l0 K := by
 have ht'' : t < n := by rwa [Nat.blt_eq] at ht'
 refine ⟨fun a w ⟨ρ, hC⟩ => h.run a w ?_⟩
 have hv : ∀ w'', Agree (Lof cx (upd (lookD .no l0) [(.s t, .av (.one (.d (Dm.gen (pG k s))))), (.b r, .dead)]) ρ) w w'' → Dom.dat (Dm.gen (pG k s)) w'' (a.tmps.getD t undef) := by
  intro w'' hag
  have e1 : a.tmps.getD t undef = .pointer (some ⟨(ρ r).1, 0, none⟩) := hC.slt t _ ht
  have hc : 0 < (ρ r).2 := by have := (hC.row r T k [s] hr).1.1; simp only [List.length_cons, List.length_nil] at this; omega
  obtain ⟨cs, sp, q1, q2⟩ := hC.stays hr hB hag hc
  obtain ⟨p, r', v, e2, e3, e4, e5⟩ := q2
  have e6 : r' = [] := e5
  rw [e1]
  refine ⟨(ρ r).1, 0, v, rfl, p, e3, e4, fun j u hj => ?_⟩
  rw [q1.cell, Nat.zero_add, e2, e6, List.append_nil, List.getElem?_append_left (List.getElem?_eq_some_iff.1 hj).1]
  exact hj
 have := hC.froze (d := t) (G := Dm.gen (pG k s)) hr ht'' (fun e => by subst e; cases hrK) (Below.refl _ _) hv
 have e : a.put (some t) (a.tmps.getD t undef) = a := by
  cases a with
  | mk tmps defers =>
   simp only [Act.put]
   congr 1
   apply Array.ext (by simp)
   intro i h1 h2
   rw [Array.getElem_setIfInBounds]
   split
   ·rename_i h3; subst h3; rw [Array.getD_eq_getD_getElem?, Array.getElem?_eq_getElem h2]; rfl
   ·rfl
 rw [e, upd_look] at this
 exact ⟨ρ, this⟩
end
theorem zero_i64 : (Tryz.prog.info? 3).map (·.zero) = some (some (.int .i64 0)) := by kernel_rfl
end Vc
end Go.Proofs.YtcblbepaigdlgaaGreat
