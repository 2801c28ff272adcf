/-
  Lists of any data, pointers to data, functions' values, as data; the operations on them.
  Variables that are written no more; closures that find themselves.
-/
import Derived.Test.YthadfilandmhiaaDoorSR34
import Derived.Test.YthadfilandmhiaaDoorSR10
set_option linter.unusedVariables false
set_option linter.unusedSimpArgs false
set_option linter.unusedSectionVars false
namespace Go.Proofs.YthadfilandmhiaaDoor
open Go.RowKit
open Go.Lib (hid)
open Dg Zn
namespace Vc
/-! The kinds. -/
/-- A slice of these data, one behind the other. -/
def lstG (k : Option Nat) (l : List (SA Dm)) : Gen where
  is := fun w v => ∃ ao cap, v = .slice ao l.length cap ∧ (l.length ≤ cap ∧ cap ≤ maxLen) ∧ (0 < l.length → ∃ b off, ao = some ⟨b, off, none⟩ ∧ ∃ cs : List Value, Ats w k l cs ∧ ∀ j u, cs[j]? = some u → w.cell? ⟨b, off + j, none⟩ = some u)
  shape := none
  plain := true
  ok := fun w v ⟨ao, cap, h, _⟩ => by subst h; exact ⟨_, rfl, rfl⟩
  pl := fun _ w v ⟨ao, cap, h, _⟩ => by subst h; simp [Value.cells, notInt]
/-- A pointer to a datum. -/
def pG (k : Option Nat) (s : SA Dm) : Gen where
  is := fun w v => ∃ b off u, v = .pointer (some ⟨b, off, none⟩) ∧ ∃ cs : List Value, Shaped k u cs ∧ s.at w u ∧ ∀ j c, cs[j]? = some c → w.cell? ⟨b, off + j, none⟩ = some c
  shape := none
  plain := true
  ok := fun w v ⟨b, off, u, h, _⟩ => by subst h; exact ⟨_, rfl, rfl⟩
  pl := fun _ w v ⟨b, off, u, h, _⟩ => by subst h; simp [Value.cells, notInt]
def allAt (w : World) : List (SA Dm) → List Value → Prop
  | [], [] => True
  | s :: l, v :: m => s.at w v ∧ allAt w l m
  | _, _ => False
/-- A function's value, with what it has captured. -/
def fnG (f : FuncId) (caps : List (SA Dm)) : Gen where
  is := fun w v => ∃ vs : List Value, v = .func (.func f) #[] vs.toArray ∧ allAt w caps vs
  shape := none
  plain := true
  ok := fun w v ⟨vs, h, _⟩ => by subst h; exact ⟨_, rfl, rfl⟩
  pl := fun _ w v ⟨vs, h, _⟩ => by subst h; simp [Value.cells, notInt]

theorem lstG_Lst (k : Option Nat) (l : List (SA Dm)) : Lst (Dm.gen (lstG k l)) k l := fun w b off c cs hl hm h1 h2 => ⟨_, _, rfl, ⟨hl, hm⟩, fun _ => ⟨b, off, rfl, cs, h1, h2⟩⟩
theorem lstG_Lst0 (k : Option Nat) (l : List (SA Dm)) : l = [] → Lst0 (Dm.gen (lstG k l)) := by
  rintro rfl w a
  exact ⟨a, 0, rfl, ⟨Nat.le_refl _, by decide⟩, fun h => absurd h (Nat.lt_irrefl _)⟩

/-- What can be read in all later worlds lies in no block that may change. -/
theorem not_may {L : Nat → Prop} {w : World} {b o : Nat} (h : ∀ w', Agree L w w' → ∃ c, w'.cell? ⟨b, o, none⟩ = some c) : ¬ L b ∧ b < w.heap.size := by
  obtain ⟨c, hc⟩ := h w (Agree.refl _ _)
  have hlt : b < w.heap.size := by
    rcases Nat.lt_or_ge b w.heap.size with hb | hb
    · exact hb
    · exfalso
      simp only [World.cell?] at hc
      rw [Array.getElem?_eq_none (by omega)] at hc
      cases hc
  refine ⟨fun hL => ?_, hlt⟩
  obtain ⟨c', hc'⟩ := h { w with heap := w.heap.set b (.cells #[] 0 (0, 0)) } ⟨by simp, fun q hq hnq => by
    have : q ≠ b := fun e => hnq (e ▸ hL)
    simp [Array.getElem?_set, Ne.symm this]⟩
  simp [World.cell?, hlt] at hc'
theorem may_same {L : Nat → Prop} {w w' : World} {b : Nat} (h : ¬ L b ∧ b < w.heap.size) (hw : Agree L w w') (o : Nat) : w'.cell? ⟨b, o, none⟩ = w.cell? ⟨b, o, none⟩ := World.cell?_of_block (hw.2 b h.2 h.1)
theorem cells_same {w : World} {b off : Nat} {cs cs' : List Value} (hl : cs.length = cs'.length) (h : ∀ j u, cs[j]? = some u → w.cell? ⟨b, off + j, none⟩ = some u) (h' : ∀ j u, cs'[j]? = some u → w.cell? ⟨b, off + j, none⟩ = some u) : cs = cs' := by
  apply List.ext_getElem hl
  intro i h1 h2
  have e1 := h i cs[i] (List.getElem?_eq_getElem h1)
  have e2 := h' i cs'[i] (List.getElem?_eq_getElem h2)
  exact Option.some.inj (e1.symm.trans e2)

/-- A list that is data for ever. -/
theorem lst_open {L : Nat → Prop} {ρ : Rho} {w : World} {v : Value} {k : Option Nat} {l : List (SA Dm)} (hk : 0 < k.getD 1) (h : (SA.d (Dm.gen (lstG k l))).is L ρ w v) :
    ∃ ao cap, v = .slice ao l.length cap ∧ (l.length ≤ cap ∧ cap ≤ maxLen) ∧ (0 < l.length → ∃ b off, ao = some ⟨b, off, none⟩ ∧ (¬ L b ∧ b < w.heap.size) ∧ ∃ cs : List Value, (∀ w', Agree L w w' → Ats w' k l cs) ∧ ∀ j u, cs[j]? = some u → w.cell? ⟨b, off + j, none⟩ = some u) := by
  obtain ⟨ao, cap, rfl, hle, hc⟩ := h w (Agree.refl _ _)
  refine ⟨ao, cap, rfl, hle, fun hl => ?_⟩
  obtain ⟨b, off, rfl, cs, h1, h2⟩ := hc hl
  have hlen : ∀ {w' : World} {cs' : List Value}, Ats w' k l cs' → cs'.length = l.length * k.getD 1 := fun h => h.length
  have hpos : 0 < l.length * k.getD 1 := Nat.mul_pos hl hk
  have key : ∀ w', Agree L w w' → ∃ cs' : List Value, Ats w' k l cs' ∧ ∀ j u, cs'[j]? = some u → w'.cell? ⟨b, off + j, none⟩ = some u := by
    intro w' hw
    obtain ⟨ao', cap', e, _, hc'⟩ := h w' hw
    injection e with e1 e2 e3
    obtain ⟨b', off', e4, cs', g1, g2⟩ := hc' hl
    rw [← e1] at e4
    injection e4 with e4
    injection e4 with e5 e6
    subst e5; subst e6
    exact ⟨cs', g1, g2⟩
  have hnL : ¬ L b ∧ b < w.heap.size := not_may (o := off) fun w' hw => by
    obtain ⟨cs', g1, g2⟩ := key w' hw
    exact ⟨_, g2 0 _ (List.getElem?_eq_getElem (by rw [hlen g1]; exact hpos))⟩
  refine ⟨b, off, rfl, hnL, cs, fun w' hw => ?_, h2⟩
  obtain ⟨cs', g1, g2⟩ := key w' hw
  have : cs = cs' := cells_same (w := w) (b := b) (off := off) (by rw [hlen h1, hlen g1]) h2 fun j u hj => by rw [← may_same hnL hw]; exact g2 j u hj
  rw [this]
  exact g1
theorem lst_elems {k : Option Nat} {l : List (SA Dm)} (hk : 0 < k.getD 1) (hp : l.flatMap SA.ptrs = []) : Elems (SA.d (Dm.gen (lstG k l))) k l := by
  refine ⟨rfl, hp, fun L ρ w v h => ?_⟩
  obtain ⟨ao, cap, rfl, _, h1⟩ := lst_open hk h
  refine ⟨ao, cap, rfl, fun hl => ?_⟩
  obtain ⟨b, off, e, _, cs, h2, h3⟩ := h1 hl
  exact ⟨b, off, e, cs, h3, Ats.chs h2⟩
theorem p_open {L : Nat → Prop} {ρ : Rho} {w : World} {v : Value} {k : Option Nat} {s : SA Dm} (hk : 0 < k.getD 1) (h : (SA.d (Dm.gen (pG k s))).is L ρ w v) :
    ∃ b off u, v = .pointer (some ⟨b, off, none⟩) ∧ (¬ L b ∧ b < w.heap.size) ∧ ∃ cs : List Value, Shaped k u cs ∧ (∀ w', Agree L w w' → s.at w' u) ∧ ∀ j c, cs[j]? = some c → w.cell? ⟨b, off + j, none⟩ = some c := by
  obtain ⟨b, off, u, rfl, cs, h1, h2, h3⟩ := h w (Agree.refl _ _)
  have key : ∀ w', Agree L w w' → ∃ u' cs', Shaped k u' cs' ∧ s.at w' u' ∧ ∀ j c, cs'[j]? = some c → w'.cell? ⟨b, off + j, none⟩ = some c := by
    intro w' hw
    obtain ⟨b', off', u', e, cs', g1, g2, g3⟩ := h w' hw
    injection e with e
    injection e with e
    injection e with e1 e2
    subst e1; subst e2
    exact ⟨u', cs', g1, g2, g3⟩
  have hnL : ¬ L b ∧ b < w.heap.size := not_may (o := off) fun w' hw => by
    obtain ⟨u', cs', g1, g2, g3⟩ := key w' hw
    exact ⟨_, g3 0 _ (List.getElem?_eq_getElem (by rw [g1.length]; exact hk))⟩
  refine ⟨b, off, u, rfl, hnL, cs, h1, fun w' hw => ?_, h3⟩
  obtain ⟨u', cs', g1, g2, g3⟩ := key w' hw
  have : cs = cs' := cells_same (w := w) (b := b) (off := off) (by rw [h1.length, g1.length]) h3 fun j u hj => by rw [← may_same hnL hw]; exact g3 j u hj
  subst this
  rw [h1.same g1]
  exact g2
theorem at_is {L : Nat → Prop} {ρ : Rho} {w : World} {s : SA Dm} {v : Value} (h : ∀ w', Agree L w w' → s.at w' v) : s.is L ρ w v := by
  cases s with
  | v x => exact h w (Agree.refl _ _)
  | d x => exact h
  | ptr b o => exact (h w (Agree.refl _ _)).elim
  | sl b n => exact (h w (Agree.refl _ _)).elim
  | ar b n => exact (h w (Agree.refl _ _)).elim
  | lk x => exact (h w (Agree.refl _ _)).elim
theorem at_ptrs {w : World} {s : SA Dm} {v : Value} (h : s.at w v) : s.ptrs = [] := by
  cases s with
  | v x => rfl
  | d x => rfl
  | ptr b o => exact h.elim
  | sl b n => exact h.elim
  | ar b n => exact h.elim
  | lk x => exact h.elim

section
variable {P : Program} {cx : Cx Dm} {n : Nat} {σ : St Dm} {o : Oper} {d t : Nat} {x y j : Operand}

/-! Operations. -/
/-- A variable that is not written again. -/
theorem ok_boxD {ty : TypeId} {s : SA Dm} {k : Option Nat} (ho : o.op = .box ty x) (hd : o.dst = some d) (hn : d < n) (hx : opd σ x = .av (.one s)) (hk : s.kind = some k) (hp : s.ptrs = []) :
    OpOk P cx n σ o (opk x) [(.s d, .av (.one (.d (.gen (pG k s)))))] := by
  intro σ' a w Q ⟨ρ, h⟩ h1 h2 K hK
  have hx' := (opd_same h1).trans hx
  have hs := h.opd hx'
  obtain ⟨cs, hcs⟩ := SA.kind_ok hk hs
  have hr : (execOp a.eval o).run P w = .ok (.value (.pointer (some ⟨w.heap.size, 0, none⟩))) (w.alloc (.cells cs.toArray ty)) := by
    rw [← hcs.cells]
    simp only [execOp, ho, Sem.run_bind, Instr.box, newVar, newRow, run_newObj_alloc, Sem.run_pure, Result.andThen_ok]
  unfold Oper.wp
  rw [hr, Oper.upon_value, hd]
  have hb : Below w.heap.size w (w.alloc (.cells cs.toArray ty)) := (Below.refl _ _).alloc (Nat.le_refl _) _
  refine hK _ _ ⟨ρ, h.put hb hn ?_ (by intro b hb; cases hb)⟩
  intro w' hag
  have hg : w'.heap[w.heap.size]? = some (.cells cs.toArray ty (0, 0)) := by
    rw [hag.2 w.heap.size (by simp) (fun hL => by have := h.lofLt _ hL; omega)]
    exact heap_alloc_new w _
  refine ⟨w.heap.size, 0, _, rfl, cs, hcs, SA.is_at hs hp ((Agree.below hb).trans hag), fun j c hj => ?_⟩
  rw [Nat.zero_add, cell_of_row w' _ _ _ ty _ hg, List.getElem?_toArray]
  exact hj
theorem run_loadVar_at {w : World} {b off : Nat} {cs : List Value} {ty : TypeId} {k : Option Nat} {v : Value} (hc : ∀ j c, cs[j]? = some c → w.cell? ⟨b, off + j, none⟩ = some c) (hs : Shaped k v cs) (hty : TyIs P ty k) : (loadVar ty ⟨b, off, none⟩).run P w = .ok v w := by
  cases k with
  | some m =>
    obtain ⟨⟨d, hu, hd⟩, hi⟩ := hty
    rw [hs.1]
    exact run_loadVar_mid w b off ty cs d hc hu hd (by rw [hi, hs.2.1])
  | none =>
    obtain ⟨⟨d, hu, hd⟩, hi⟩ := hty
    have hc := hc 0 v (by rw [hs.1]; rfl)
    have hagg : (isAgg ty).run P w = .ok false w := by
      unfold isAgg
      rw [Sem.run_bind, run_underlying hu w]
      cases d <;> simp_all
    rw [Nat.add_zero] at hc
    simp [loadVar, Sem.run_bind, hagg, load, Sem.run, hc]
theorem ok_loadP {ty : TypeId} {k : Option Nat} {s : SA Dm} (hty : TyIs P ty k) (hk : 0 < k.getD 1) (ho : o.op = .load ty (.tmp t)) (hd : o.dst = some d) (hn : d < n) (ht : σ (.s t) = .av (.one (.d (.gen (pG k s))))) :
    OpOk P cx n σ o [.s t] [(.s d, .av (.one s))] := by
  intro σ' a w Q ⟨ρ, h⟩ h1 _ K hK
  have ht' := (h1 (.s t) (by simp)).trans ht
  obtain ⟨b, off, u, e1, _, cs, h3, h4, h5⟩ := p_open (ρ := ρ) hk (h.slt t _ ht')
  have e1 : a.eval (.tmp t) = .pointer (some ⟨b, off, none⟩) := e1
  have hr : (execOp a.eval o).run P w = .ok (.value u) w := by
    simp only [execOp, ho, e1, Sem.run_bind, Instr.loadAt, Instr.sureAddr, Sem.run_pure, Result.andThen_ok, run_loadVar_at h5 h3 hty]
  unfold Oper.wp
  rw [hr, Oper.upon_value, hd]
  exact hK _ _ ⟨ρ, h.put (Below.refl _ _) hn (at_is h4) (by show ∀ b ∈ s.ptrs, _; rw [at_ptrs (h4 w (Agree.refl _ _))]; intro b hb; cases hb)⟩
theorem ok_idxL {ty e : TypeId} {i : Nat} {k : Option Nat} {l : List (SA Dm)} {s : SA Dm} (hs : l[i]? = some s) (hu : P.underlying ty = some (.slice e)) (hsz : (P.info? e).map (·.size) = some (k.getD 1)) (hk : 0 < k.getD 1) (ho : o.op = .indexAddr ty (.tmp t) j) (hd : o.dst = some d) (hn : d < n)
    (ht : σ (.s t) = .av (.one (.d (.gen (lstG k l))))) (hj : opd σ j = .av (.one (.v (.int .i64 (i : Int))))) : OpOk P cx n σ o (.s t :: opk j) [(.s d, .av (.one (.d (.gen (pG k s)))))] := by
  refine ok_read hd hn rfl fun σ' ρ a w h hk' => ?_
  have hi : i < l.length := (List.getElem?_eq_some_iff.1 hs).1
  have ht' := (hk' (.s t) (by simp)).trans ht
  obtain ⟨ao, cap, e1, _, h2⟩ := lst_open (ρ := ρ) hk (h.slt t _ ht')
  obtain ⟨b, off, rfl, hnL, cs, h3, h4⟩ := h2 (by omega)
  have e1 : a.eval (.tmp t) = .slice (some ⟨b, off, none⟩) l.length cap := e1
  have e2 : a.eval j = .int .i64 (i : Int) := h.opd ((opd_same fun q hq => hk' q (by simp [hq])).trans hj)
  refine ⟨.pointer (some ⟨b, off + i * k.getD 1, none⟩), ?_, ?_⟩
  · simp only [execOp, ho, e1, e2, Sem.run_bind, run_index hu hsz w b off _ cap i hi, Result.andThen_ok, Sem.run_pure]
  · intro w' hag
    obtain ⟨pre, p, post, v, q1, q2, q3, q4⟩ := (h3 w' hag).at hs
    refine ⟨b, off + i * k.getD 1, v, rfl, p, q3, q4, fun m c hm => ?_⟩
    rw [may_same hnL hag, Nat.add_assoc]
    refine h4 _ _ ?_
    rw [q1, List.append_assoc, List.getElem?_append_right (by omega), q2, Nat.add_sub_cancel_left, List.getElem?_append_left (List.getElem?_eq_some_iff.1 hm).1]
    exact hm
theorem ok_lenL {ty e : TypeId} {k : Option Nat} {l : List (SA Dm)} {m : Nat} (hm : l.length = m) (hu : P.underlying ty = some (.slice e)) (ho : o.op = .call ⟨.builtin .len, #[.tmp t], #[ty]⟩) (hd : o.dst = some d) (hn : d < n) (ht : σ (.s t) = .av (.one (.d (.gen (lstG k l))))) : OpOk P cx n σ o [.s t] [(.s d, .av (.one (.v (.int .i64 (m : Int)))))] := by
  subst hm
  refine ok_read hd hn rfl fun σ' ρ a w h hk => ⟨_, ?_, rfl⟩
  obtain ⟨ao, c, hv, _⟩ := (h.slt t _ ((hk (.s t) (by simp)).trans ht)) w (Agree.refl _ _)
  have e1 : a.eval (.tmp t) = .slice ao l.length c := hv
  simp [execOp, ho, resolve, invoke, e1, builtin, Builtin.len_, run_underlying hu, goInt]
def bndK : Option Operand → List Key
  | none => []
  | some x => opk x
def bndIs (σ : St Dm) : Option Operand → Option Nat → Prop
  | none, none => True
  | some x, some m => opd σ x = .av (.one (.v (.int .i64 (m : Int))))
  | _, _ => False
theorem bnd_eval {ρ : Rho} {a : Act} {w : World} {σ' : St Dm} {x : Option Operand} {m : Option Nat} (h : Conc cx n ρ σ' a w) (hx : bndIs σ x m) (hk : ∀ q ∈ bndK x, σ' q = σ q) : x.map a.eval = optI m := by
  cases x with
  | none => cases m with | none => rfl | some m => exact hx.elim
  | some x =>
    cases m with
    | none => exact hx.elim
    | some m =>
      have : a.eval x = .int .i64 (m : Int) := h.opd ((opd_same hk).trans hx)
      simp [optI, this]
/-- A function's value is made. -/
theorem ok_mkfn {f : FuncId} {caps : List Operand} {ss : List (SA Dm)} (ho : o.op = .makeFunc (.func f) #[] caps.toArray) (hd : o.dst = some d) (hn : d < n) (hargs : ArgsOk σ caps ss) (hp : ptrsAll ss = []) : OpOk P cx n σ o (caps.flatMap opk) [(.s d, .av (.one (.d (.gen (fnG f ss)))))] := by
  refine ok_read hd hn rfl fun σ' ρ a w h hk => ?_
  have hall := hargs.is h hk
  refine ⟨.func (.func f) #[] (caps.map a.eval).toArray, by simp [execOp, ho, Instr.makeFunc], fun w' hag => ⟨_, rfl, ?_⟩⟩
  have key : ∀ (ss : List (SA Dm)) (vs : List Value), isAll (Lof cx σ' ρ) ρ w ss vs → ptrsAll ss = [] → allAt w' ss vs := by
    intro ss
    induction ss with
    | nil => intro vs h _; cases vs with | nil => trivial | cons => exact h.elim
    | cons s ss ih =>
      intro vs h hp
      cases vs with
      | nil => exact h.elim
      | cons v vs =>
        simp only [ptrsAll, List.flatMap_cons, List.append_eq_nil_iff] at hp
        exact ⟨SA.is_at h.1 hp.1 hag, ih vs h.2 hp.2⟩
  exact key ss _ hall hp
theorem allAt_is {L : Nat → Prop} {ρ : Rho} {w : World} : ∀ {ss : List (SA Dm)} {vs : List Value}, (∀ w', Agree L w w' → allAt w' ss vs) → isAll L ρ w ss vs
  | [], [], _ => trivial
  | [], _ :: _, h => h w (Agree.refl _ _)
  | _ :: _, [], h => h w (Agree.refl _ _)
  | s :: ss, v :: vs, h => ⟨at_is fun w' hw => (h w' hw).1, allAt_is fun w' hw => (h w' hw).2⟩
theorem isAll_append {L : Nat → Prop} {ρ : Rho} {w : World} : ∀ {ss ss' : List (SA Dm)} {vs vs' : List Value}, isAll L ρ w ss vs → isAll L ρ w ss' vs' → isAll L ρ w (ss ++ ss') (vs ++ vs')
  | [], _, [], _, _, h => h
  | _ :: _, _, _ :: _, _, h, h' => ⟨h.1, isAll_append h.2 h'⟩
  | [], _, _ :: _, _, h, _ => h.elim
  | _ :: _, _, [], _, h, _ => h.elim
/-- A call of a function's value. -/
theorem ok_callfn {f : FuncId} {fn : Func} {caps : List (SA Dm)} {args : Array Operand} {tys : Array TypeId} {sas : List (SA Dm)} {r : AV Dm} (hcon : Con P f (sas ++ caps) r) (hf : P.funcs[f]? = some fn) (hname : (fn.name == "runtime.NumGoroutine") = false) (hb : fn.body.isSome = true)
    (ho : o.op = .call ⟨.value (.tmp t), args, tys⟩) (hd : o.dst = some d) (hn : d < n) (ht : σ (.s t) = .av (.one (.d (.gen (fnG f caps))))) (hargs : ArgsOk σ args.toList sas) (hr : r.ptrs = []) (hfr : cx.fr = false) (hKP : npL (σ KP) = []) :
    OpOk P cx n σ o (KP :: .s t :: args.toList.flatMap opk) [(.s d, .av r)] := by
  intro σ' a w Q ⟨ρ, h⟩ h1 _ K hK
  obtain ⟨c, hc⟩ := Option.isSome_iff_exists.1 hb
  have hs := h.slt t _ ((h1 (.s t) (by simp)).trans ht)
  obtain ⟨vs, hv, hat⟩ := hs w (Agree.refl _ _)
  have e1 : a.eval (.tmp t) = .func (.func f) #[] vs.toArray := hv
  have hcaps : isAll (Lof cx σ' ρ) ρ w caps vs := allAt_is fun w' hag => by
    obtain ⟨vs', hv', hat'⟩ := hs w' hag
    rw [show a.tmps.getD t undef = _ from hv] at hv'
    injection hv' with q1 q2 q3
    have : vs = vs' := by simpa using congrArg Array.toList q3
    rw [this]; exact hat'
  have hrun : (execOp a.eval o).run P w = .ok (.enter f (args.toList.map a.eval ++ vs).toArray) w := by
    have h1 : fn.name ≠ "runtime.NumGoroutine" := by simpa using hname
    have h2 : args.map a.eval ++ vs.toArray = (args.toList.map a.eval ++ vs).toArray := Array.ext' (by simp)
    simp [execOp, ho, resolve, e1, Deferred.ofValue, invoke, callFunc, hf, h1, hc, h2]
  unfold Oper.wp
  rw [hrun, Oper.upon_enter]
  refine (hcon (Lof cx σ' ρ) ρ w _ h.lofLt (h.noInt hfr (by rw [h1 KP (by simp)]; exact hKP)) (cx.wf hfr w h.kept) (isAll_append (hargs.is h fun q hq => h1 q (by simp [hq])) hcaps)).mono ?_
  rintro e w' ⟨v, rfl, hbel, hv'⟩
  show K (a.put o.dst v) w'
  rw [hd]
  exact hK _ _ ⟨ρ, h.put hbel hn hv' (by rw [hr]; intro b hb; cases hb)⟩
end
section
variable {P : Program} {cx : Cx Dm} {n : Nat} {σ : St Dm}
/-- What a variable that is written no more holds for ever. -/
theorem Conc.staysB {ρ : Rho} {a : Act} {w w' : World} {r : Nat} {T : TypeId} {k : Option Nat} {s : SA Dm} {σ' : St Dm} (h : Conc cx n ρ σ a w) (hr : σ (.b r) = .blk T [(k, s)]) (hB : ∀ b, ¬ cx.Bw b) (hp : s.ptrs = []) (hrl : ∀ j, live σ' ρ j → live σ ρ j ∧ j ≠ r)
    (hag : Agree (Lof cx σ' ρ) w w') : ∃ u cs, w'.heap[(ρ r).1]? = some (.cells cs.toArray T (0, 0)) ∧ Shaped k u cs ∧ s.at w' u := by
  obtain ⟨cs, h1, p, q, v, rfl, h3, h4, h5⟩ := h.blk r T _ hr
  obtain rfl : q = [] := h5
  rw [List.append_nil] at h1
  have hlv : live σ ρ r := live_blk hr
  have hnL : ¬ Lof cx σ' ρ (ρ r).1 := by
    rintro (q | ⟨j, q1, q2⟩)
    · rcases h.mine r hlv with m | m
      · have := cx.lt _ q; omega
      · exact hB _ m
    · obtain ⟨q3, q4⟩ := hrl j q1
      exact q4 (h.inj j r q3 hlv q2)
  refine ⟨v, p, (hag.2 _ (h.lt hlv) hnL).trans h1, h3, SA.is_at h4 hp ⟨hag.1, fun b hb hn => hag.2 b hb fun q => hn ?_⟩⟩
  rcases q with q | ⟨j, q1, q2⟩
  · exact .inl q
  · exact .inr ⟨j, (hrl j q1).1, q2⟩
/-- A variable is written no more: the slot holds a pointer to data. -/
theorem CV.freezeB {c : Code} {K : Exit → Sg Dm → Prop} {r t : Nat} {T : TypeId} {k : Option Nat} {s : SA Dm} {l0 : Sg Dm} (hB : ∀ b, ¬ cx.Bw b) (hr : lookD .no l0 (.b r) = .blk T [(k, s)]) (ht : lookD .no l0 (.s t) = .av (.one (.ptr r 0))) (ht' : Nat.blt t n = true) (hp : s.ptrs = []) (hrK : Nat.beq r 1000000 = false)
    (h : CV P cx n c ((.s t, .av (.one (.d (Dm.gen (pG k s))))) :: (.b r, .dead) :: l0) K) : CV P cx n c l0 K := by
  have ht'' : t < n := by rwa [Nat.blt_eq] at ht'
  refine ⟨fun a w ⟨ρ, hC⟩ => h.run a w ⟨ρ, ?_⟩⟩
  obtain ⟨σ, hσ⟩ : ∃ σ, σ = lookD .no l0 := ⟨_, rfl⟩
  rw [← hσ] at hr ht hC
  obtain ⟨σ', hσ'⟩ : ∃ σ', σ' = upd σ [(.s t, .av (.one (.d (Dm.gen (pG k s))))), (.b r, .dead)] := ⟨_, rfl⟩
  have e0 : lookD .no ((.s t, .av (.one (.d (Dm.gen (pG k s))))) :: (.b r, .dead) :: l0) = σ' := by rw [hσ', hσ, upd_look]; rfl
  rw [e0]
  have k1 : σ' (.s t) = .av (.one (.d (Dm.gen (pG k s)))) := by rw [hσ']; exact upd2_s
  have k2 : σ' (.b r) = .dead := by rw [hσ']; exact upd2_b
  have k3 : ∀ k, k ≠ .s t → k ≠ .b r → σ' k = σ k := fun k h1 h2 => by rw [hσ']; exact upd2_ne h1 h2
  have hrK1 : r ≠ 1000000 := fun e => by subst e; cases hrK
  have hKP : σ' KP = σ KP := k3 _ (by simp [KP]) (by simp [KP]; omega)
  have hrl : ∀ j, live σ' ρ j → live σ ρ j ∧ j ≠ r := by
    intro j hj
    have e : j ≠ r := by
      rintro rfl
      rcases live_some hj with ⟨T, ch, e⟩ | ⟨T, k, l, e, _⟩ <;> rw [k2] at e <;> cases e
    exact ⟨(live_same (k3 _ (by simp) (by simpa using e)) rfl).1 hj, e⟩
  have hev : a.tmps.getD t undef = .pointer (some ⟨(ρ r).1, 0, none⟩) := hC.slt t _ ht
  refine hC.step (fun _ => False) (fun k => k = .s t ∨ k = .b r) hC.size hC.defers rfl rfl rfl (Nat.le_refl _) (fun _ _ _ => rfl) (fun _ q => q.elim)
    (fun k hk => k3 k (fun q => hk (.inl q)) (fun q => hk (.inr q))) (fun _ _ => rfl) (fun _ _ q => q.elim) (fun b _ q => ?_) ?_ ?_ ?_ (fun i _ q => by rw [hKP] at q; exact q) (fun i j hi hj => hC.inj i j (hrl i hi).1 (hrl j hj).1) ?_ (fun _ _ => rfl) ?_ ?_
  · rcases q with q | ⟨j, q1, q2⟩
    · exact .inl q
    · exact .inr ⟨j, (hrl j q1).1, q2⟩
  · rintro i (q | q) hi
    · cases q
    · injection q with q; subst q; exact absurd rfl (hrl _ hi).2
  · rintro i T1 ch (q | q) hi
    · cases q
    · injection q with q; subst q; rw [k2] at hi; cases hi
  · rintro i T1 k1 l1 (q | q) hi
    · cases q
    · injection q with q; subst q; rw [k2] at hi; cases hi
  · rintro t1 av (q | q) ht1
    · injection q with q
      subst q
      rw [k1] at ht1
      obtain rfl := (XV.av.injEq _ _).mp ht1
      rw [hev]
      intro w' hag
      obtain ⟨u, cs, q1, q2, q3⟩ := hC.staysB hr hB hp hrl hag
      refine ⟨(ρ r).1, 0, u, rfl, cs, q2, q3, fun j c hj => ?_⟩
      rw [Nat.zero_add, cell_of_row w' _ _ _ T _ q1, List.getElem?_toArray]
      exact hj
    · cases q
  · rintro k b (q | q) hb'
    · subst q; rw [k1] at hb'; cases hb'
    · subst q; rw [k2] at hb'; cases hb'
  · intro i hi
    by_cases e : i = r
    · rw [e, k2]; simp
    · rw [k3 _ (by simp) (by simpa using e)]; exact hi

variable {o : Oper} {d t : Nat}
end
theorem is_pair {s s' r r' : SA Dm} (h1 : ∀ L ρ w v, s.is L ρ w v → r.is L ρ w v) (h2 : ∀ L ρ w v, s'.is L ρ w v → r'.is L ρ w v) : ∀ L ρ w v, (AV.tup [s, s']).is L ρ w v → (AV.tup [r, r']).is L ρ w v := by
  rintro L ρ w v ⟨vs, rfl, h⟩
  match vs, h with
  | [u, u'], ⟨k1, k2, _⟩ => exact ⟨[u, u'], rfl, h1 _ _ _ _ k1, h2 _ _ _ _ k2, trivial⟩
end Vc
end Go.Proofs.YthadfilandmhiaaDoor
