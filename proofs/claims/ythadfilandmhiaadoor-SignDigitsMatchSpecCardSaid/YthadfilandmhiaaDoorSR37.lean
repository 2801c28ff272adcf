/-
  Signatures: the closure that yields a chain's end, and the leaf made of it.
  Arrays of one's own that are written and read by index: rows that a pointer leads to.
  Signatures: the reference's digest and start.
  Signatures: the reference's leaf.
  Signatures: which heights and seeds are valid.
  What hangs on one's own blocks: closures that have captured them, variables that hold such values.
-/
import Derived.Test.YthadfilandmhiaaDoorSR36
set_option linter.unusedVariables false
set_option linter.unusedSimpArgs false
set_option linter.unusedSectionVars false
namespace Go.Proofs.YthadfilandmhiaaDoor
open Go.RowKit
open Go.Lib (hid)
open Dg Zn S
namespace Vc
theorem topN_length (seed : List Nat) (k c : Nat) : (Sg.topN seed k c).length = 16 := Sg.advN_length _ _ _ _ _ (startN_length _ _ _)
theorem topN_bn (seed : List Nat) (k c : Nat) : Bn (Sg.topN seed k c) := Sg.advN_bn _ _ _ _ _ (startN_bn _ _ _)
/-- What the closure has captured: the seed and the key. -/
def capsT (seed : List Nat) (key : Nat) : List (SA Dm) := [.d (Dm.gen (pG none (.v (str (by8 seed))))), .d (Dm.gen (pG none (.v (.int .i64 (key : Int)))))]
set_option maxRecDepth 100000 in
theorem top_con (seed : List Nat) (key c : Nat) (hs : Bn seed) (ls : seed.length ≤ 1000) (hk : key ≤ 1000) (hc : c ≤ 1000) : Con Tryd.prog 44 (.v (.int .i64 (c : Int)) :: capsT seed key) (.one (DG (by8 (Sg.topN seed key c)))) := by
  refine Con.of (n := 12) Tryd.func44 rfl rfl rfl rfl rfl fun cx hfr => ?_
  refine CV.seq ?_
  refine CV.region rfl (fun h => nomatch h) ?_
  refine RV.step2 (OpOk.plain (ok_alloc (i := 0) rfl rfl (by decide) zero_dig rfl rfl rfl rfl) rfl) ?_
  refine RV.done ?_
  refine CV.seq ?_
  refine CV.region rfl (fun _ => by kernel_rfl) ?_
  refine RV.step1 (OpOk.plain (ok_loadP ty_str (by decide) rfl rfl (by decide) rfl) rfl) ?_
  refine RV.step1 (OpOk.plain (ok_loadP ty_i64 (by decide) rfl rfl (by decide) rfl) rfl) ?_
  refine RV.step1 (OpOk.plain (ok_move (.inl rfl) rfl (by decide) rfl) rfl) ?_
  refine RV.step1 (OpOk.plain (ok_call (start_con seed key c hs ls hk hc) rfl rfl (by decide) Tryd.func29 rfl rfl (.cons rfl Conv.any (.cons rfl Conv.any (.cons rfl Conv.any .nil))) rfl hfr rfl) rfl) ?_
  refine RV.step1 (OpOk.plain (ok_loadP ty_i64 (by decide) rfl rfl (by decide) rfl) rfl) ?_
  refine RV.step1 (OpOk.plain (ok_move (.inl rfl) rfl (by decide) rfl) rfl) ?_
  refine RV.step1 (OpOk.plain (ok_call (advance_con (Sg.startN seed key c) key c 0 3 (startN_bn _ _ _) (startN_length _ _ _) hk hc (by decide) (by decide)) rfl rfl (by decide) Tryd.func28 rfl rfl (.cons rfl Conv.any (.cons rfl Conv.any (.cons rfl Conv.any (.cons rfl Conv.any (.cons rfl Conv.any .nil))))) rfl hfr rfl) rfl) ?_
  refine RV.step1 (OpOk.plain (ok_store rfl rfl rfl rfl rfl rfl rfl (ty_dig).2 rfl rfl rfl rfl) rfl) ?_
  refine RV.drawn (by kernel_rfl) ?_
  refine CV.ret ?_
  exact fin1 rfl (.inr rfl) ⟨_, _, _, _, _, rfl, rfl, rfl, ty_dig⟩ is_rfl
theorem leaf0_con (seed : List Nat) (key : Nat) (hs : Bn seed) (ls : seed.length ≤ 1000) (hk : key ≤ 1000) : Con Tryd.prog 43 [.d (Dm.gen (fnG 44 (capsT seed key)))] (.one (DG (by8 (Sg.nodeN seed 0 key)))) :=
  leaf_con (Sg.topN seed key) (topN_length seed key) (topN_bn seed key) Tryd.func44 rfl rfl fun c hc => top_con seed key c hs ls hk (by omega)
section
variable {P : Program} {cx : Cx Dm} {n : Nat} {σ : St Dm} {o : Oper} {d t : Nat}
theorem vals_chs {L : Nat → Prop} {ρ : Rho} {w : World} : ∀ {vs : List Value}, (∀ v ∈ vs, v.oneCell' = true) → Chs L ρ w (rch none (vs.map fun v => (SA.v v : SA Dm))) vs
  | [], _ => rfl
  | v :: vs, h => ⟨[v], vs, v, rfl, ⟨rfl, h v List.mem_cons_self⟩, rfl, vals_chs fun x hx => h x (List.mem_cons_of_mem _ hx)⟩
theorem run_indexA {ty e : TypeId} {len m : Nat} (hu : P.underlying ty = some (.array len e)) (hsz : (P.info? e).map (·.size) = some m) (w : World) (b off i : Nat) (hi : i < len) :
    (Instr.indexAt ty (.pointer (some ⟨b, off, none⟩)) (.int .i64 (i : Int))).run P w = .ok (.pointer (some ⟨b, off + i * m, none⟩)) w := by
  simp [Instr.indexAt, Instr.sureAddr, asIntOf, run_underlying hu, size_of hsz, hi, Addr.add_mid]
end
set_option maxRecDepth 100000 in
theorem validHeight_con (h : Int) : Con Tryd.prog 36 [(.v (.int .i64 h) : SA Dm)] (.one (.v (.bool (decide (0 ≤ h ∧ h ≤ 6))))) := by
  refine Con.of (n := 9) Tryd.func36 rfl rfl rfl rfl rfl fun cx hfr => ?_
  refine CV.seq ?_
  refine CV.region rfl (fun h => nomatch h) ?_
  refine RV.step1 (OpOk.plain (ok_move (.inr rfl) rfl (by decide) rfl) rfl) ?_
  refine RV.done ?_
  refine CV.seq ?_
  refine CV.region rfl (fun h => nomatch h) ?_
  refine RV.step1 (OpOk.plain (ok_move (.inl rfl) rfl (by decide) rfl) rfl) ?_
  refine RV.step1 (OpOk.plain (ok_geq rfl rfl (by decide) rfl rfl) rfl) ?_
  refine RV.step1 (OpOk.plain (ok_move (.inl rfl) rfl (by decide) rfl) rfl) ?_
  refine RV.bool (fun h0 => ?_) (fun h0 => ?_)
  · refine RV.step1 (OpOk.yes (ok_move (.inl rfl) rfl (by decide) rfl) rfl rfl rfl) ?_
    refine RV.step1 (OpOk.yes (ok_leq rfl rfl (by decide) rfl rfl) rfl rfl rfl) ?_
    refine RV.step1 (OpOk.plain (ok_pickT rfl rfl (by decide) rfl rfl rfl) rfl) ?_
    refine RV.step1 (OpOk.plain (ok_move (.inr rfl) rfl (by decide) rfl) rfl) ?_
    refine RV.done ?_
    refine CV.ret ?_
    have h1 : 0 ≤ h := (by simpa using h0)
    exact fin1 rfl (.inr rfl) rfl (is_bool (by simp [h1]))
  · refine RV.step1 (OpOk.skip rfl rfl rfl rfl rfl (by decide)) ?_
    refine RV.step1 (OpOk.skip rfl rfl rfl rfl rfl (by decide)) ?_
    refine RV.step1 (OpOk.plain (ok_pickF rfl rfl (by decide) rfl rfl rfl) rfl) ?_
    refine RV.step1 (OpOk.plain (ok_move (.inr rfl) rfl (by decide) rfl) rfl) ?_
    refine RV.done ?_
    refine CV.ret ?_
    have h1 : ¬ 0 ≤ h := (by simpa using h0)
    exact fin1 rfl (.inr rfl) rfl (is_bool (by simp [h1]))
set_option maxRecDepth 100000 in
theorem validSigner_con (u : List Nat) (h : Int) : Con Tryd.prog 21 [(.v (str (by8 u)) : SA Dm), .v (.int .i64 h)] (.one (.v (.bool (decide (u.length = 32 ∧ 0 ≤ h ∧ h ≤ 6))))) := by
  refine Con.of (n := 12) Tryd.func21 rfl rfl rfl rfl rfl fun cx hfr => ?_
  refine CV.seq ?_
  refine CV.region rfl (fun h => nomatch h) ?_
  refine RV.step1 (OpOk.plain (ok_move (.inr rfl) rfl (by decide) rfl) rfl) ?_
  refine RV.done ?_
  refine CV.seq ?_
  refine CV.region rfl (fun h => nomatch h) ?_
  refine RV.step1 (OpOk.plain (ok_move (.inl rfl) rfl (by decide) rfl) rfl) ?_
  refine RV.step1 (OpOk.plain (ok_lenT (by8_length u) u_str rfl rfl (by decide) rfl) rfl) ?_
  refine RV.step1 (OpOk.plain (ok_eql rfl rfl (by decide) rfl rfl) rfl) ?_
  refine RV.step1 (OpOk.plain (ok_move (.inl rfl) rfl (by decide) rfl) rfl) ?_
  refine RV.bool (fun h0 => ?_) (fun h0 => ?_)
  · refine RV.step1 (OpOk.yes (ok_move (.inl rfl) rfl (by decide) rfl) rfl rfl rfl) ?_
    refine RV.step1 (OpOk.yes (ok_call (validHeight_con h) rfl rfl (by decide) Tryd.func36 rfl rfl (.cons rfl Conv.any .nil) rfl hfr rfl) rfl rfl rfl) ?_
    refine RV.step1 (OpOk.plain (ok_pickT rfl rfl (by decide) rfl rfl rfl) rfl) ?_
    refine RV.step1 (OpOk.plain (ok_move (.inr rfl) rfl (by decide) rfl) rfl) ?_
    refine RV.done ?_
    refine CV.ret ?_
    have h1 : u.length = 32 := (by simp at h0; omega)
    exact fin1 rfl (.inr rfl) rfl (is_bool (by simp [h1]))
  · refine RV.step1 (OpOk.skip rfl rfl rfl rfl rfl (by decide)) ?_
    refine RV.step1 (OpOk.skip rfl rfl rfl rfl rfl (by decide)) ?_
    refine RV.step1 (OpOk.plain (ok_pickF rfl rfl (by decide) rfl rfl rfl) rfl) ?_
    refine RV.step1 (OpOk.plain (ok_move (.inr rfl) rfl (by decide) rfl) rfl) ?_
    refine RV.done ?_
    refine CV.ret ?_
    have h1 : ¬ u.length = 32 := (by simp at h0; omega)
    exact fin1 rfl (.inr rfl) rfl (is_bool (by simp [h1]))
end Vc
end Go.Proofs.YthadfilandmhiaaDoor

namespace Go.Proofs.YthadfilandmhiaaDoor
open Go.RowKit
open Go.Lib (hid)
open Dg Zn
namespace Vc
set_option linter.unusedSectionVars false

section
variable {D : Type} [Dom D]
/-- A part of what such a value holds. -/
def SA.rat (ρ : Rho) (w : World) : SA D → Value → Prop
  | .v x, y => y = x
  | .d x, y => Dom.dat x w y
  | .ptr b o, y => y = .pointer (some ⟨(ρ b).1, o, none⟩)
  | .sl b n, y => ∃ a, y = .slice a n (ρ b).2 ∧ (0 < (ρ b).2 → a = some ⟨(ρ b).1, 0, none⟩)
  | .ar b n, y => y = .slice (some ⟨(ρ b).1, 0, none⟩) n n
  | .lk x, y => x.is ρ w y
theorem SA.is_rat {L : Nat → Prop} {ρ : Rho} {w w' : World} {s : SA D} {y : Value} (h : s.is L ρ w y) (hw : Agree L w w') : s.rat ρ w' y := by
  cases s with
  | v x => exact h
  | d x => exact h w' hw
  | ptr b o => exact h
  | sl b n => exact h
  | ar b n => exact h
  | lk x => exact h w' hw
theorem SA.rat_is {L : Nat → Prop} {ρ : Rho} {w : World} {s : SA D} {y : Value} (h : ∀ w', Agree L w w' → s.rat ρ w' y) : s.is L ρ w y := by
  cases s with
  | v x => exact h w (Agree.refl _ _)
  | d x => exact h
  | ptr b o => exact h w (Agree.refl _ _)
  | sl b n => exact h w (Agree.refl _ _)
  | ar b n => exact h w (Agree.refl _ _)
  | lk x => exact h
theorem SA.rat_cong {ρ ρ' : Rho} {w : World} {s : SA D} {y : Value} (h : s.rat ρ w y) (hr : ∀ b ∈ s.ptrs, ρ' b = ρ b) : s.rat ρ' w y := by
  cases s with
  | v x => exact h
  | d x => exact h
  | ptr b o => show y = _; rw [hr b (by simp [SA.ptrs])]; exact h
  | sl b n => show ∃ a, _; rw [hr b (by simp [SA.ptrs])]; exact h
  | ar b n => show y = _; rw [hr b (by simp [SA.ptrs])]; exact h
  | lk x => exact x.cong ρ ρ' w y hr h
def allR (ρ : Rho) (w : World) : List (SA D) → List Value → Prop
  | [], [] => True
  | s :: l, v :: m => s.rat ρ w v ∧ allR ρ w l m
  | _, _ => False
theorem allR.cong {ρ ρ' : Rho} {w : World} : ∀ {l : List (SA D)} {m : List Value}, allR ρ w l m → (∀ b ∈ ptrsAll l, ρ' b = ρ b) → allR ρ' w l m
  | [], [], _, _ => trivial
  | s :: l, v :: m, h, hr => ⟨SA.rat_cong h.1 fun b hb => hr b (by simp only [ptrsAll, List.flatMap_cons, List.mem_append]; exact .inl hb), allR.cong h.2 fun b hb => hr b (by simp only [ptrsAll, List.flatMap_cons, List.mem_append]; exact .inr hb)⟩
theorem allR.length {ρ : Rho} {w : World} : ∀ {l : List (SA D)} {m : List Value}, allR ρ w l m → m.length = l.length
  | [], [], _ => rfl
  | _ :: _, _ :: _, h => congrArg (· + 1) (allR.length h.2)
theorem isAll_allR {L : Nat → Prop} {ρ : Rho} {w w' : World} : ∀ {l : List (SA D)} {m : List Value}, isAll L ρ w l m → Agree L w w' → allR ρ w' l m
  | [], [], _, _ => trivial
  | _ :: _, _ :: _, h, hw => ⟨SA.is_rat h.1 hw, isAll_allR h.2 hw⟩
theorem allR_isAll {L : Nat → Prop} {ρ : Rho} {w : World} : ∀ {l : List (SA D)} {m : List Value}, (∀ w', Agree L w w' → allR ρ w' l m) → isAll L ρ w l m
  | [], [], _ => trivial
  | [], _ :: _, h => h w (Agree.refl _ _)
  | _ :: _, [], h => h w (Agree.refl _ _)
  | s :: l, v :: m, h => ⟨SA.rat_is fun w' hw => (h w' hw).1, allR_isAll fun w' hw => (h w' hw).2⟩
theorem isAll_app {L : Nat → Prop} {ρ : Rho} {w : World} : ∀ {ss ss' : List (SA D)} {vs vs' : List Value}, isAll L ρ w ss vs → isAll L ρ w ss' vs' → isAll L ρ w (ss ++ ss') (vs ++ vs')
  | [], _, [], _, _, h => h
  | _ :: _, _, _ :: _, _, h, h' => ⟨h.1, isAll_app h.2 h'⟩

/-- A closure, with what it has captured. -/
def fnR (f : FuncId) (caps : List (SA D)) (hne : ptrsAll caps ≠ [] := by exact List.cons_ne_nil _ _) : RG where
  is := fun ρ w y => ∃ vs : List Value, y = .func (.func f) #[] vs.toArray ∧ allR ρ w caps vs
  pts := ptrsAll caps
  ne := hne
  cong := fun _ _ _ _ h ⟨vs, e, k⟩ => ⟨vs, e, k.cong h⟩
  cell := true
  one := fun _ _ _ _ ⟨_, e, _⟩ => by subst e; exact ⟨rfl, rfl⟩
/-- A pointer to a variable that is written no more. -/
def pR (k : Option Nat) (s : SA D) (hne : s.ptrs ≠ [] := by exact List.cons_ne_nil _ _) : RG where
  is := fun ρ w y => ∃ b off u, y = .pointer (some ⟨b, off, none⟩) ∧ ∃ cs : List Value, Shaped k u cs ∧ s.rat ρ w u ∧ ∀ j c, cs[j]? = some c → w.cell? ⟨b, off + j, none⟩ = some c
  pts := s.ptrs
  ne := hne
  cong := fun _ _ _ _ h ⟨b, off, u, e, cs, h1, h2, h3⟩ => ⟨b, off, u, e, cs, h1, SA.rat_cong h2 h, h3⟩
  cell := true
  one := fun _ _ _ _ ⟨_, _, _, e, _⟩ => by subst e; exact ⟨rfl, rfl⟩
/-- A closure that has captured the variable in which it lies. -/
def selfR (f : FuncId) (pre post : List (SA D)) (hne : ptrsAll (pre ++ post) ≠ [] := by exact List.cons_ne_nil _ _) : RG where
  is := fun ρ w y => ∃ g vs us, y = .func (.func f) #[] (vs ++ Value.pointer (some ⟨g, 0, none⟩) :: us).toArray ∧ allR ρ w pre vs ∧ allR ρ w post us ∧ w.cell? ⟨g, 0, none⟩ = some y
  pts := ptrsAll (pre ++ post)
  ne := hne
  cong := fun _ _ _ _ h ⟨g, vs, us, e, h1, h2, h3⟩ => ⟨g, vs, us, e, h1.cong fun b hb => h b (by simp only [ptrsAll, List.flatMap_append, List.mem_append]; exact .inl hb), h2.cong fun b hb => h b (by simp only [ptrsAll, List.flatMap_append, List.mem_append]; exact .inr hb), h3⟩
  cell := true
  one := fun _ _ _ _ ⟨_, _, _, e, _⟩ => by subst e; exact ⟨rfl, rfl⟩
def pselfR (f : FuncId) (pre post : List (SA D)) (hne : ptrsAll (pre ++ post) ≠ [] := by exact List.cons_ne_nil _ _) : RG where
  is := fun ρ w y => ∃ g vs us, y = .pointer (some ⟨g, 0, none⟩) ∧ allR ρ w pre vs ∧ allR ρ w post us ∧ w.cell? ⟨g, 0, none⟩ = some (.func (.func f) #[] (vs ++ Value.pointer (some ⟨g, 0, none⟩) :: us).toArray)
  pts := ptrsAll (pre ++ post)
  ne := hne
  cong := fun _ _ _ _ h ⟨g, vs, us, e, h1, h2, h3⟩ => ⟨g, vs, us, e, h1.cong fun b hb => h b (by simp only [ptrsAll, List.flatMap_append, List.mem_append]; exact .inl hb), h2.cong fun b hb => h b (by simp only [ptrsAll, List.flatMap_append, List.mem_append]; exact .inr hb), h3⟩
  cell := true
  one := fun _ _ _ _ ⟨_, _, _, e, _⟩ => by subst e; exact ⟨rfl, rfl⟩
/-- Where these blocks lie does not change: said of a slot that lies outside the frame. -/
def linkR (ks : List Nat) (ρ0 : Rho) (hne : ks ≠ [] := by exact List.cons_ne_nil _ _) : RG where
  is := fun ρ _ y => y = undef ∧ ∀ b ∈ ks, ρ b = ρ0 b
  pts := ks
  ne := hne
  cong := fun _ _ _ _ h ⟨e, k⟩ => ⟨e, fun b hb => (h b hb).trans (k b hb)⟩
  cell := false
  one := fun h => nomatch h

variable {P : Program} {cx : Cx D} {n : Nat} {σ : St D} {o : Oper} {d t : Nat}
def ArgsR (σ : St D) : List Operand → List (SA D) → Prop
  | [], [] => True
  | x :: xs, s :: ss => opd σ x = .av (.one s) ∧ ArgsR σ xs ss
  | _, _ => False
theorem ArgsR.is {σ' : St D} {ρ : Rho} {a : Act} {w : World} (h : Conc cx n ρ σ' a w) : ∀ {xs : List Operand} {ss : List (SA D)}, ArgsR σ xs ss → (∀ k ∈ xs.flatMap opk, σ' k = σ k) → isAll (Lof cx σ' ρ) ρ w ss (xs.map a.eval) ∧ ∀ b ∈ ptrsAll ss, σ' (.b b) ≠ .no
  | [], [], _, _ => ⟨trivial, fun b hb => by cases hb⟩
  | x :: xs, s :: ss, ⟨h1, h3⟩, hk => by
    have hx := (opd_same fun k hk' => hk k (by simp only [List.flatMap_cons, List.mem_append]; exact .inl hk')).trans h1
    have ih := ArgsR.is h h3 fun k hk' => hk k (by simp only [List.flatMap_cons, List.mem_append]; exact .inr hk')
    refine ⟨⟨h.opd hx, ih.1⟩, fun b hb => ?_⟩
    simp only [ptrsAll, List.flatMap_cons, List.mem_append] at hb
    rcases hb with hb | hb
    · exact h.opd_own hx b hb
    · exact ih.2 b hb
theorem ok_mkfnR {f : FuncId} {caps : List Operand} {ss : List (SA D)} {hne : ptrsAll ss ≠ []} (ho : o.op = .makeFunc (.func f) #[] caps.toArray) (hd : o.dst = some d) (hn : d < n) (hargs : ArgsR σ caps ss) : OpOk P cx n σ o (caps.flatMap opk) [(.s d, .av (.one (.lk (fnR f ss hne))))] := by
  intro σ' a w Q ⟨ρ, h⟩ h1 _ K hK
  obtain ⟨hall, hown⟩ := hargs.is h h1
  have hr : (execOp a.eval o).run P w = .ok (.value (.func (.func f) #[] (caps.map a.eval).toArray)) w := by simp [execOp, ho, Instr.makeFunc]
  unfold Oper.wp
  rw [hr, Oper.upon_value, hd]
  exact hK _ _ ⟨ρ, h.put (Below.refl _ _) hn (fun w' hag => ⟨_, rfl, isAll_allR hall hag⟩) hown⟩
/-- A store into a variable that holds one value, whatever it is. -/
theorem ok_store1 {i : Nat} {ty T : TypeId} {y : Operand} {k : Option Nat} {s s0 : SA D} (ho : o.op = .store ty (.tmp t) y) (hd : o.dst = none) (ht : σ (.s t) = .av (.one (.ptr i 0))) (hb : σ (.b i) = .blk T [(k, s0)])
    (hy : opd σ y = .av (.one s)) (hk : s.kind = some k) (hsz : (P.info? ty).map (·.size) = some (k.getD 1)) (hp : s.plain = true) (hiK : Nat.beq i 1000000 = false) :
    OpOk P cx n σ o (.s t :: .b i :: opk y) [(.b i, .blk T [(k, s)])] := by
  intro σ' a w Q ⟨ρ, h⟩ h1 _ K hK
  have ht' := (h1 (.s t) (by simp)).trans ht
  have hb' := (h1 (.b i) (by simp)).trans hb
  have hy' := (opd_same (σ' := σ') (x := y) fun q hq => h1 q (by simp [hq])).trans hy
  obtain ⟨cs, hcs, hcc⟩ := h.blk i T _ hb'
  obtain ⟨pre, p, post, v, rfl, hpre, k3, k4, k5, k6⟩ := hcc.at (o := 0) (c := (k, s0)) rfl
  obtain rfl := List.eq_nil_of_length_eq_zero hpre
  have hs := h.opd hy'
  obtain ⟨p', hp'⟩ := SA.kind_ok hk hs
  have hlen : p'.length = p.length := by rw [hp'.length, k3.length]
  have hev : a.eval (.tmp t) = .pointer (some ⟨(ρ i).1, 0, none⟩) := h.slt t _ ht'
  have hr : (execOp a.eval o).run P w = .ok .skip (w.setCells (ρ i).1 0 p') := by
    have hst := run_storeCells_cells (P := P) (ρ i).1 0 p' 0 w (fun j hj => by
        have := cell_of_list (pre := []) hcs j p[j] (List.getElem?_eq_getElem (by omega))
        simp only [List.length_nil, Nat.zero_add] at this
        rw [Nat.add_zero, Nat.zero_add, this]; rfl) (fun j hj => by
        simp [World.frozen?, hcs]) hp'.one
    rw [Nat.add_zero] at hst
    cases hq : P.info? ty with
    | none => simp [hq] at hsz
    | some inf =>
      have e1 : inf.size = k.getD 1 := by simpa [hq] using hsz
      have e2 : (a.eval y).cells.size = inf.size := by rw [hp'.cells, e1, ← hp'.length]; simp
      simp [execOp, ho, hev, Instr.storeAt, Instr.sureAddr, storeVar, sizeOf, typeInfo, hq, hp'.cells, hst]
      rw [show p'.length = inf.size by rw [e1, hp'.length]]
  unfold Oper.wp
  rw [hr, Oper.upon_skip, hd]
  refine hK _ _ ⟨ρ, h.sto (live_blk hb') (by simp) (live_blk upd1) (fun e => by subst e; cases hiK) (os_setCells ..) (tape_setCells ..) (out_setCells ..) (size_setCells' ..) (fun j hj => other_setCells _ _ _ _ j hj) ?_ (fun T k l e => by cases e) ?_⟩
  · intro T1 c1 e
    injection e with e1 e2
    subst e1; subst e2
    have := same_setCells (ρ i).1 T p' p [] post w hlen hcs
    exact ⟨by simp [chPlain, hp], _, this, k6 (k, s) _ p' rfl hp' hs⟩
  · intro b hb2
    have hb3 : b ∈ s.ptrs := by simpa [XV.ptrs, chPtrs] using hb2
    exact h.opd_own hy' b hb3
theorem pR_open {L : Nat → Prop} {ρ : Rho} {w : World} {v : Value} {k : Option Nat} {s : SA D} {hne : s.ptrs ≠ []} (hk : 0 < k.getD 1) (h : ∀ w', Agree L w w' → (pR k s hne).is ρ w' v) :
    ∃ b off u, v = .pointer (some ⟨b, off, none⟩) ∧ ∃ cs : List Value, Shaped k u cs ∧ s.is L ρ w u ∧ ∀ j c, cs[j]? = some c → w.cell? ⟨b, off + j, none⟩ = some c := by
  obtain ⟨b, off, u, rfl, cs, h1, h2, h3⟩ := h w (Agree.refl _ _)
  have key : ∀ w', Agree L w w' → ∃ u' cs', Shaped k u' cs' ∧ s.rat ρ w' u' ∧ ∀ j c, cs'[j]? = some c → w'.cell? ⟨b, off + j, none⟩ = some c := by
    intro w' hw
    obtain ⟨b', off', u', e, cs', g1, g2, g3⟩ := h w' hw
    injection e with e
    injection e with e
    injection e with e1 e2
    subst e1; subst e2
    exact ⟨u', cs', g1, g2, g3⟩
  have hnL : ¬ L b ∧ b < w.heap.size := not_may (o := off) fun w' hw => by
    obtain ⟨u', cs', g1, g2, g3⟩ := key w' hw
    exact ⟨_, g3 0 _ (List.getElem?_eq_getElem (by rw [g1.length]; exact hk))⟩
  refine ⟨b, off, u, rfl, cs, h1, SA.rat_is fun w' hw => ?_, h3⟩
  obtain ⟨u', cs', g1, g2, g3⟩ := key w' hw
  have : cs = cs' := cells_same (w := w) (b := b) (off := off) (by rw [h1.length, g1.length]) h3 fun j u hj => by rw [← may_same hnL hw]; exact g3 j u hj
  subst this
  rw [h1.same g1]
  exact g2
/-- What such a variable holds. -/
theorem ok_loadPR {ty : TypeId} {k : Option Nat} {s : SA D} {hne : s.ptrs ≠ []} (hty : TyIs P ty k) (hk : 0 < k.getD 1) (ho : o.op = .load ty (.tmp t)) (hd : o.dst = some d) (hn : d < n) (ht : σ (.s t) = .av (.one (.lk (pR k s hne)))) : OpOk P cx n σ o [.s t] [(.s d, .av (.one s))] := by
  intro σ' a w Q ⟨ρ, h⟩ h1 _ K hK
  have ht' := (h1 (.s t) (by simp)).trans ht
  obtain ⟨b, off, u, e1, cs, h2, h3, h4⟩ := pR_open hk (h.slt t _ ht')
  have e1 : a.eval (.tmp t) = .pointer (some ⟨b, off, none⟩) := e1
  have hr : (execOp a.eval o).run P w = .ok (.value u) w := by
    simp only [execOp, ho, e1, Sem.run_bind, Instr.loadAt, Instr.sureAddr, Sem.run_pure, Result.andThen_ok, run_loadVar_at h4 h2 hty]
  unfold Oper.wp
  rw [hr, Oper.upon_value, hd]
  exact hK _ _ ⟨ρ, h.put (Below.refl _ _) hn h3 fun q hq => h.own (.s t) q (by rw [ht']; exact hq)⟩
theorem ok_loadselfR {T : TypeId} {f : FuncId} {pre post : List (SA D)} {hne : ptrsAll (pre ++ post) ≠ []} (hT : TyIs P T none) (ho : o.op = .load T (.tmp t)) (hd : o.dst = some d) (hn : d < n) (ht : σ (.s t) = .av (.one (.lk (pselfR f pre post hne)))) : OpOk P cx n σ o [.s t] [(.s d, .av (.one (.lk (selfR f pre post hne))))] := by
  intro σ' a w Q ⟨ρ, h⟩ h1 _ K hK
  have ht' := (h1 (.s t) (by simp)).trans ht
  have hs := h.slt t _ ht'
  obtain ⟨g, vs, us, hv, _, _, hcell⟩ := hs w (Agree.refl _ _)
  have e1 : a.eval (.tmp t) = .pointer (some ⟨g, 0, none⟩) := hv
  obtain ⟨⟨dd, hu, hdd⟩, _⟩ := hT
  have hagg : (isAgg T).run P w = .ok false w := by
    unfold isAgg
    rw [Sem.run_bind, run_underlying hu w]
    cases dd <;> simp_all
  have hr : (execOp a.eval o).run P w = .ok (.value (.func (.func f) #[] (vs ++ Value.pointer (some ⟨g, 0, none⟩) :: us).toArray)) w := by
    simp only [execOp, ho, e1, Sem.run_bind, Instr.loadAt, Instr.sureAddr, Sem.run_pure, Result.andThen_ok, loadVar, hagg, Bool.false_eq_true, if_false]
    simp [load, Sem.run, hcell]
  unfold Oper.wp
  rw [hr, Oper.upon_value, hd]
  have hnL : ¬ Lof cx σ' ρ g ∧ g < w.heap.size := not_may (o := 0) fun w' hw => by
    obtain ⟨g', vs', us', hv', _, _, hc'⟩ := hs w' hw
    rw [show a.tmps.getD t undef = _ from hv] at hv'
    injection hv' with q
    injection q with q
    injection q with q
    subst q
    exact ⟨_, hc'⟩
  refine hK _ _ ⟨ρ, h.put (Below.refl _ _) hn (fun w' hag => ?_) fun q hq => h.own (.s t) q (by rw [ht']; exact hq)⟩
  obtain ⟨g', vs', us', hv', ha', hb', hc'⟩ := hs w' hag
  rw [show a.tmps.getD t undef = _ from hv] at hv'
  injection hv' with q
  injection q with q
  injection q with q
  subst q
  rw [may_same hnL hag, hcell] at hc'
  have e := Option.some.inj hc'
  exact ⟨g, vs', us', e, ha', hb', by rw [may_same hnL hag, hcell]⟩

/-- A variable that is written no more, whatever it holds. -/
theorem CV.freezeR {c : Code} {K : Exit → Sg D → Prop} {r t : Nat} {T : TypeId} {k : Option Nat} {s : SA D} {l0 : Sg D} {hne : s.ptrs ≠ []} (hB : ∀ ρ a w, Conc cx n ρ (lookD .no l0) a w → ¬ cx.Bw (ρ r).1) (hr : lookD .no l0 (.b r) = .blk T [(k, s)]) (ht : lookD .no l0 (.s t) = .av (.one (.ptr r 0))) (hrK : Nat.beq r 1000000 = false)
    (h : CV P cx n c ((.s t, .av (.one (.lk (pR k s hne)))) :: (.b r, .dead) :: l0) K) : CV P cx n c l0 K := by
  refine ⟨fun a w ⟨ρ, hC⟩ => h.run a w ⟨ρ, ?_⟩⟩
  have hB' := hB ρ a w hC
  obtain ⟨σ, hσ⟩ : ∃ σ, σ = lookD .no l0 := ⟨_, rfl⟩
  rw [← hσ] at hr ht hC
  obtain ⟨σ', hσ'⟩ : ∃ σ', σ' = upd σ [(.s t, .av (.one (.lk (pR k s hne)))), (.b r, .dead)] := ⟨_, rfl⟩
  have e0 : lookD .no ((.s t, .av (.one (.lk (pR k s hne)))) :: (.b r, .dead) :: l0) = σ' := by rw [hσ', hσ, upd_look]; rfl
  rw [e0]
  have k1 : σ' (.s t) = .av (.one (.lk (pR k s hne))) := by rw [hσ']; exact upd2_s
  have k2 : σ' (.b r) = .dead := by rw [hσ']; exact upd2_b
  have k3 : ∀ k, k ≠ .s t → k ≠ .b r → σ' k = σ k := fun k h1 h2 => by rw [hσ']; exact upd2_ne h1 h2
  have hrK1 : r ≠ 1000000 := fun e => by subst e; cases hrK
  have hKP : σ' KP = σ KP := k3 _ (by simp [KP]) (by simp [KP]; omega)
  have hrl : ∀ j, live σ' ρ j → live σ ρ j ∧ j ≠ r := by
    intro j hj
    have e : j ≠ r := by
      rintro rfl
      rcases live_some hj with ⟨T, ch, e⟩ | ⟨T, k, l, e, _⟩ <;> rw [k2] at e <;> cases e
    exact ⟨(live_same (k3 _ (by simp) (by simpa using e)) rfl).1 hj, e⟩
  have hev : a.tmps.getD t undef = .pointer (some ⟨(ρ r).1, 0, none⟩) := hC.slt t _ ht
  have hlv : live σ ρ r := live_blk hr
  have hkeep : ∀ i, σ (.b i) ≠ .no → σ' (.b i) ≠ .no := by
    intro i hi
    by_cases e : i = r
    · rw [e, k2]; simp
    · rw [k3 _ (by simp) (by simpa using e)]; exact hi
  refine hC.step (fun _ => False) (fun k => k = .s t ∨ k = .b r) hC.size hC.defers rfl rfl rfl (Nat.le_refl _) (fun _ _ _ => rfl) (fun _ q => q.elim)
    (fun k hk => k3 k (fun q => hk (.inl q)) (fun q => hk (.inr q))) (fun _ _ => rfl) (fun _ _ q => q.elim) (fun b _ q => ?_) ?_ ?_ ?_ (fun i _ q => by rw [hKP] at q; exact q) (fun i j hi hj => hC.inj i j (hrl i hi).1 (hrl j hj).1) ?_ (fun _ _ => rfl) ?_ hkeep
  · rcases q with q | ⟨j, q1, q2⟩
    · exact .inl q
    · exact .inr ⟨j, (hrl j q1).1, q2⟩
  · rintro i (q | q) hi
    · cases q
    · injection q with q; subst q; exact absurd rfl (hrl _ hi).2
  · rintro i T1 ch (q | q) hi
    · cases q
    · injection q with q; subst q; rw [k2] at hi; cases hi
  · rintro i T1 k1 l1 (q | q) hi
    · cases q
    · injection q with q; subst q; rw [k2] at hi; cases hi
  · rintro t1 av (q | q) ht1
    · injection q with q
      subst q
      rw [k1] at ht1
      obtain rfl := (XV.av.injEq _ _).mp ht1
      rw [hev]
      intro w' hag
      obtain ⟨cs, g1, p, q, v, rfl, g3, g4, g5⟩ := hC.blk r T _ hr
      obtain rfl : q = [] := g5
      rw [List.append_nil] at g1
      have hnL : ¬ Lof cx σ' ρ (ρ r).1 := by
        rintro (q | ⟨j, q1, q2⟩)
        · rcases hC.mine r hlv with m | m
          · have := cx.lt _ q; omega
          · exact hB' m
        · obtain ⟨q3, q4⟩ := hrl j q1
          exact q4 (hC.inj j r q3 hlv q2)
      have g6 : w'.heap[(ρ r).1]? = some (.cells p.toArray T (0, 0)) := (hag.2 _ (hC.lt hlv) hnL).trans g1
      refine ⟨(ρ r).1, 0, v, rfl, p, g3, SA.is_rat g4 ⟨hag.1, fun b hb hn => hag.2 b hb fun q => hn ?_⟩, fun j c hj => ?_⟩
      · rcases q with q | ⟨j, q1, q2⟩
        · exact .inl q
        · exact .inr ⟨j, (hrl j q1).1, q2⟩
      · rw [Nat.zero_add, cell_of_row w' _ _ _ T _ g6, List.getElem?_toArray]
        exact hj
    · cases q
  · rintro k b (q | q) hb'
    · subst q
      rw [k1] at hb'
      have hb2 : b ∈ s.ptrs := hb'
      exact hkeep b (hC.own (.b r) b (by rw [hr]; simpa [XV.ptrs, chPtrs] using hb2))
    · subst q; rw [k2] at hb'; cases hb'
  
/-- A closure over anything and over the variable in which it is stored: from here on that does not change. -/
theorem CV.closureR {l : Sg D} {K : Exit → Sg D → Prop} {id : Nat} {o1 o2 : Oper} {f t6 t8 i6 : Nat} {T T6 : TypeId} {capa capb : List Operand} {pre post : List (SA D)} {hne : ptrsAll (pre ++ post) ≠ []} (hB : ∀ b, ¬ cx.Bw b)
    (h1 : o1.op = .makeFunc (.func f) #[] (capa ++ Operand.tmp t6 :: capb).toArray) (hg1 : o1.guard = none) (hd1 : o1.dst = some t8) (hn : t8 < n) (h2 : o2.op = .store T (.tmp t6) (.tmp t8)) (hg2 : o2.guard = none) (hd2 : o2.dst = none) (hsz : (P.info? T).map (·.size) = some 1)
    (e6 : lookD .no l (.s t6) = .av (.one (.ptr i6 0))) (b6 : lookD .no l (.b i6) = .blk T6 [(none, .v .nilFunc)]) (h68 : t6 ≠ t8) (hpre : ArgsR (lookD .no l) capa pre) (hpost : ArgsR (lookD .no l) capb post) (hrK : Nat.beq i6 1000000 = false)
    (hK : K .normal ([(.s t8, .av (.one (.lk (selfR f pre post hne)))), (.s t6, .av (.one (.lk (pselfR f pre post hne)))), (.b i6, .dead)] ++ l)) : CV P cx n (.region id #[o1, o2] false) l K := by
  refine ⟨fun a w hC => ?_⟩
  obtain ⟨ρ, h⟩ := hC
  obtain ⟨σ, hσ⟩ : ∃ σ, σ = lookD .no l := ⟨_, rfl⟩
  rw [← hσ] at h e6 b6 hpre hpost
  obtain ⟨cs6, hc6, p6, r6, v6, rfl, ⟨rfl, _⟩, hv6, hr6⟩ := h.blk i6 _ _ b6
  obtain rfl : r6 = [] := hr6
  obtain rfl : v6 = .nilFunc := hv6
  have hlv : live σ ρ i6 := live_blk b6
  obtain ⟨g, hg⟩ : ∃ g, g = (ρ i6).1 := ⟨_, rfl⟩
  have ev6 : a.eval (.tmp t6) = .pointer (some ⟨g, 0, none⟩) := by rw [hg]; exact h.slt t6 _ e6
  rw [← hg] at hc6
  obtain ⟨hall1, hown1⟩ := hpre.is h fun _ _ => rfl
  obtain ⟨hall2, hown2⟩ := hpost.is h fun _ _ => rfl
  obtain ⟨V, hV⟩ : ∃ V, V = Value.func (.func f) #[] (capa.map a.eval ++ Value.pointer (some ⟨g, 0, none⟩) :: capb.map a.eval).toArray := ⟨_, rfl⟩
  obtain ⟨w', hw'⟩ : ∃ w', w' = w.setCells g 0 [V] := ⟨_, rfl⟩
  have hoth : ∀ j, j ≠ g → w'.heap[j]? = w.heap[j]? := fun j hj => by rw [hw']; exact other_setCells _ _ _ _ _ hj
  have hsize : w'.heap.size = w.heap.size := by rw [hw']; exact size_setCells' ..
  have hcell6 : w'.heap[g]? = some (.cells #[V] T6 (0, 0)) := by
    rw [hw']
    exact same_setCells _ T6 [V] [.nilFunc] [] [] w rfl hc6
  refine wp_region_lit (l := [o1, o2]) ?_
  refine wpList_plain hg1 fun K1 hK1 => ?_
  have r1 : (execOp a.eval o1).run P w = .ok (.value V) w := by
    simp [execOp, h1, Instr.makeFunc, ev6, hV]
  unfold Oper.wp
  rw [r1, Oper.upon_value, hd1]
  refine hK1 _ _ ?_
  refine wpList_plain hg2 fun K2 hK2 => ?_
  have ev6' : (a.put (some t8) V).eval (.tmp t6) = .pointer (some ⟨g, 0, none⟩) := by
    show (a.put (some t8) V).tmps.getD t6 undef = _
    rw [tmp_put hn h.size, if_neg h68]
    exact ev6
  have ev8 : (a.put (some t8) V).eval (.tmp t8) = V := Pu.put_same _ _ _ (by rw [h.size]; exact hn)
  have r2 : (execOp (a.put (some t8) V).eval o2).run P w = .ok .skip w' := by
    have hst := run_storeCells_cells (P := P) g 0 [V] 0 w (fun j hj => by
        have : j = 0 := by simpa using hj
        subst this
        show (w.cell? ⟨g, 0, none⟩).isSome = true
        rw [cell_of_row w g 0 _ _ (0, 0) hc6]; rfl) (fun j hj => by simp [World.frozen?, hc6]) (by intro u hu; rw [List.mem_singleton.1 hu, hV]; rfl)
    cases hq : P.info? T with
    | none => simp [hq] at hsz
    | some inf =>
      have q1 : inf.size = 1 := by simpa [hq] using hsz
      have q2 : V.cells = [V].toArray := by rw [hV]; rfl
      rw [← hw'] at hst
      simp [execOp, h2, ev6', ev8, Instr.storeAt, Instr.sureAddr, storeVar, sizeOf, typeInfo, hq, q1, q2, hst]
  unfold Oper.wp
  rw [r2, Oper.upon_skip, hd2]
  refine hK2 _ _ ⟨_, ⟨ρ, ?_⟩, hK⟩
  show Conc cx n ρ _ (a.put (some t8) V) w'
  obtain ⟨wr, hwr⟩ : ∃ wr : Sg D, wr = [(.s t8, .av (.one (.lk (selfR f pre post hne)))), (.s t6, .av (.one (.lk (pselfR f pre post hne)))), (.b i6, .dead)] := ⟨_, rfl⟩
  rw [← hwr, ← upd_look, ← hσ]
  have k8 : upd σ wr (.s t8) = .av (.one (.lk (selfR f pre post hne))) := by rw [hwr]; show (bif Key.beq (.s t8) (.s t8) then _ else _) = _; rw [Key.beq_self]; rfl
  have k6 : upd σ wr (.s t6) = .av (.one (.lk (pselfR f pre post hne))) := by
    rw [hwr]; show (bif Key.beq (.s t8) (.s t6) then _ else bif Key.beq (.s t6) (.s t6) then _ else _) = _
    rw [Key.beq_ne (by simpa using h68.symm), Key.beq_self]; rfl
  have kb6 : upd σ wr (.b i6) = .dead := by
    rw [hwr]; show (bif Key.beq (.b i6) (.b i6) then _ else _) = _; rw [Key.beq_self]; rfl
  have k3 : ∀ k, k ≠ .s t8 → k ≠ .s t6 → k ≠ .b i6 → upd σ wr k = σ k := fun k q1 q2 q3 => upd_other (by rw [hwr]; simp [keys, q1, q2, q3])
  have hrK1 : i6 ≠ 1000000 := fun e => by subst e; cases hrK
  have hKP : upd σ wr KP = σ KP := k3 _ (by simp [KP]) (by simp [KP]) (by simp [KP]; omega)
  have hrl : ∀ j, live (upd σ wr) ρ j → live σ ρ j ∧ j ≠ i6 := by
    intro j hj
    have e : j ≠ i6 := by
      rintro rfl
      rcases live_some hj with ⟨T, ch, e⟩ | ⟨T, k, l, e, _⟩ <;> rw [kb6] at e <;> cases e
    exact ⟨(live_same (k3 _ (by simp) (by simp) (by simpa using e)) rfl).1 hj, e⟩
  have hL : ∀ b, Lof cx (upd σ wr) ρ b → Lof cx σ ρ b := by
    rintro b (q | ⟨j, q1, q2⟩)
    · exact .inl q
    · exact .inr ⟨j, (hrl j q1).1, q2⟩
  have hgL : ¬ Lof cx (upd σ wr) ρ g := by
    rintro (q | ⟨j, q1, q2⟩)
    · rcases h.mine i6 hlv with m | m
      · have := cx.lt _ q; omega
      · exact hB _ m
    · obtain ⟨q3, q4⟩ := hrl j q1
      exact q4 (h.inj j i6 q3 hlv (by rw [← hg]; exact q2))
  have gg : Goes (Lof cx σ ρ) w (Lof cx (upd σ wr) ρ) w' := by
    intro w'' hw
    refine ⟨by rw [← hsize]; exact hw.1, fun b hbs hnL => ?_⟩
    refine (hw.2 b (by rw [hsize]; exact hbs) fun hb => hnL (hL b hb)).trans (hoth b ?_)
    rintro rfl
    exact hnL (.inr ⟨i6, hlv, hg.symm⟩)
  have hclo : ∀ w'', Agree (Lof cx (upd σ wr) ρ) w' w'' → allR ρ w'' pre (capa.map a.eval) ∧ allR ρ w'' post (capb.map a.eval) ∧ w''.cell? ⟨g, 0, none⟩ = some V := by
    intro w'' hag
    have q : w''.heap[g]? = some (.cells #[V] T6 (0, 0)) := (hag.2 _ (by rw [hsize, hg]; exact h.lt hlv) hgL).trans hcell6
    exact ⟨isAll_allR hall1 (gg w'' hag), isAll_allR hall2 (gg w'' hag), by rw [cell_of_row _ _ _ _ _ _ q]; rfl⟩
  have hkeep : ∀ i, σ (.b i) ≠ .no → upd σ wr (.b i) ≠ .no := by
    intro i hi
    by_cases e : i = i6
    · rw [e, kb6]; simp
    · rw [k3 _ (by simp) (by simp) (by simpa using e)]; exact hi
  have hown : ∀ b ∈ ptrsAll (pre ++ post), upd σ wr (.b b) ≠ .no := by
    intro b hb
    simp only [ptrsAll, List.flatMap_append, List.mem_append] at hb
    rcases hb with hb | hb
    · exact hkeep b (hown1 b hb)
    · exact hkeep b (hown2 b hb)
  refine h.step (fun b => b = g) (fun k => k = .s t8 ∨ k = .s t6 ∨ k = .b i6) (by rw [Pu.size_put]; exact h.size) (by rw [Pu.defers_put]; exact h.defers) (by rw [hw']; exact os_setCells ..) (by rw [hw']; exact tape_setCells ..) (by rw [hw']; exact out_setCells ..) (by rw [hsize]; exact Nat.le_refl _) (fun b _ hb => hoth b hb) (fun b hb => ⟨i6, hlv, by rw [hb]; exact hg.symm⟩)
    (fun k hk => k3 k (fun q => hk (.inl q)) (fun q => hk (.inr (.inl q))) (fun q => hk (.inr (.inr q)))) (fun _ _ => rfl) (fun i hi hm => .inr (.inr (by rw [h.inj i i6 hi hlv (by rw [← hg]; exact hm)]))) (fun b _ q => hL b q) ?_ ?_ ?_ (fun i _ q => by rw [hKP] at q; exact q) (fun i j hi hj => h.inj i j (hrl i hi).1 (hrl j hj).1) ?_ ?_ ?_ hkeep
  · rintro i (q | q | q) hi
    · cases q
    · cases q
    · injection q with q; subst q; exact absurd rfl (hrl _ hi).2
  · rintro i T1 ch (q | q | q) hi
    · cases q
    · cases q
    · injection q with q; subst q; rw [kb6] at hi; cases hi
  · rintro i T1 k1 l1 (q | q | q) hi
    · cases q
    · cases q
    · injection q with q; subst q; rw [kb6] at hi; cases hi
  · rintro t1 av (q | q | q) ht1
    · injection q with q
      subst q
      rw [k8] at ht1
      obtain rfl := (XV.av.injEq _ _).mp ht1
      rw [show (a.put (some t1) V).tmps.getD t1 undef = V from ev8]
      exact fun w'' hag => ⟨g, _, _, hV, (hclo w'' hag).1, (hclo w'' hag).2.1, (hclo w'' hag).2.2⟩
    · injection q with q
      subst q
      rw [k6] at ht1
      obtain rfl := (XV.av.injEq _ _).mp ht1
      rw [show (a.put (some t8) V).tmps.getD t1 undef = _ from ev6']
      exact fun w'' hag => ⟨g, _, _, rfl, (hclo w'' hag).1, (hclo w'' hag).2.1, by rw [← hV]; exact (hclo w'' hag).2.2⟩
    · cases q
  · intro t1 ht1
    rw [tmp_put hn h.size, if_neg (fun e => ht1 (.inl (by rw [e])))]
  · rintro k b (q | q | q) hb'
    · subst q; rw [k8] at hb'; exact hown b hb'
    · subst q; rw [k6] at hb'; exact hown b hb'
    · subst q; rw [kb6] at hb'; cases hb'
end
end Vc
end Go.Proofs.YthadfilandmhiaaDoor
