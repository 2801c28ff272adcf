/-
  Calls that change the caller's own blocks: contracts, how they are called, how they are shown.
  Inside calls that change the caller's blocks: calls whose results hang on nothing, variables that are written no more, the end.
-/
import Derived.Test.YthadfilandmhiaaDoorSR37
set_option linter.unusedVariables false
set_option linter.unusedSimpArgs false
set_option linter.unusedSectionVars false
namespace Go.Proofs.YthadfilandmhiaaDoor
open Go.RowKit
open Go.Lib (hid)
open Dg Zn
namespace Vc
set_option linter.unusedSectionVars false

section
variable {D : Type} [Dom D]
/-- What these blocks hold. -/
def BkIs (L : Nat → Prop) (ρ : Rho) (w : World) (pl : Bool) : Sg D → Prop
  | [] => True
  | (.b i, .blk T ch) :: r => (chPlain ch = true ∧ ∃ cs : List Value, w.heap[(ρ i).1]? = some (.cells cs.toArray T (0, 0)) ∧ Chs L ρ w ch cs) ∧ BkIs L ρ w pl r
  | (.b i, .row T k l) :: r => RowAt L ρ w (pl = true) i T k l ∧ BkIs L ρ w pl r
  | (.b _, .dead) :: r => BkIs L ρ w pl r
  | _ :: _ => False
def bK : Sg D → List Nat
  | [] => []
  | (.b i, _) :: r => i :: bK r
  | _ :: r => bK r
theorem bK_mem {i : Nat} : ∀ {bl : Sg D}, i ∈ bK bl ↔ .b i ∈ keys bl
  | [] => by simp [bK, keys]
  | (.b j, x) :: r => by
    have ih := bK_mem (i := i) (bl := r)
    simp only [bK, List.mem_cons, ih]
    simp [keys]
  | (.s t, x) :: r => by
    have ih := bK_mem (i := i) (bl := r)
    simp only [bK, ih]
    simp [keys]
theorem look_none {bl : Sg D} {k : Key} (h : k ∉ keys bl) : lookD .no bl k = .no := by
  induction bl with
  | nil => rfl
  | cons p r ih =>
    obtain ⟨q, x⟩ := p
    simp only [keys, List.map_cons, List.mem_cons, not_or] at h
    show (bif Key.beq q k then x else lookD .no r k) = _
    rw [Key.beq_ne (fun e => h.1 e.symm)]
    exact ih h.2
theorem BkIs.no {L : Nat → Prop} {ρ : Rho} {w : World} {pl : Bool} {i : Nat} : ∀ {bl : Sg D}, BkIs L ρ w pl bl → i ∈ bK bl → lookD .no bl (.b i) ≠ .no
  | (.b j, x) :: r, h, hi => by
    by_cases e : j = i
    · subst e
      show (bif Key.beq (.b j) (.b j) then x else _) ≠ _
      rw [Key.beq_self]
      cases x <;> first | exact h.elim | exact fun q => by cases q
    · have hr : BkIs L ρ w pl r := by cases x <;> first | exact h.elim | exact h.2 | exact h
      show (bif Key.beq (.b j) (.b i) then x else _) ≠ _
      rw [Key.beq_ne (by simpa using e)]
      refine BkIs.no hr ?_
      rcases List.mem_cons.1 hi with q | q
      · exact absurd q.symm e
      · exact q
  | (.s _, x) :: r, h, _ => by cases x <;> exact h.elim
theorem BkIs.blk {L : Nat → Prop} {ρ : Rho} {w : World} {pl : Bool} {i : Nat} {T : TypeId} {ch : List (Ch D)} : ∀ {bl : Sg D}, BkIs L ρ w pl bl → lookD .no bl (.b i) = .blk T ch → chPlain ch = true ∧ ∃ cs : List Value, w.heap[(ρ i).1]? = some (.cells cs.toArray T (0, 0)) ∧ Chs L ρ w ch cs
  | (.b j, x) :: r, h, hi => by
    by_cases e : j = i
    · subst e
      have hi : (bif Key.beq (.b j) (.b j) then x else _) = _ := hi
      rw [Key.beq_self] at hi
      have hi : x = _ := hi
      subst hi
      exact h.1
    · have hr : BkIs L ρ w pl r := by cases x <;> first | exact h.elim | exact h.2 | exact h
      have hi : (bif Key.beq (.b j) (.b i) then x else _) = _ := hi
      rw [Key.beq_ne (by simpa using e)] at hi
      exact BkIs.blk hr hi
  | (.s _, x) :: r, h, _ => by cases x <;> exact h.elim
theorem BkIs.row {L : Nat → Prop} {ρ : Rho} {w : World} {pl : Bool} {i : Nat} {T : TypeId} {k : Option Nat} {l : List (SA D)} : ∀ {bl : Sg D}, BkIs L ρ w pl bl → lookD .no bl (.b i) = .row T k l → RowAt L ρ w (pl = true) i T k l
  | (.b j, x) :: r, h, hi => by
    by_cases e : j = i
    · subst e
      have hi : (bif Key.beq (.b j) (.b j) then x else _) = _ := hi
      rw [Key.beq_self] at hi
      have hi : x = _ := hi
      subst hi
      exact h.1
    · have hr : BkIs L ρ w pl r := by cases x <;> first | exact h.elim | exact h.2 | exact h
      have hi : (bif Key.beq (.b j) (.b i) then x else _) = _ := hi
      rw [Key.beq_ne (by simpa using e)] at hi
      exact BkIs.row hr hi
  | (.s _, x) :: r, h, _ => by cases x <;> exact h.elim
theorem live_bK {bl : Sg D} {ρ : Rho} {i : Nat} (h : live (lookD .no bl) ρ i) : i ∈ bK bl := by
  rw [bK_mem]
  exact Classical.byContradiction fun hn => live_ne h (look_none hn)

/-- A contract of a function that may change these blocks of its caller's. -/
def ConE (P : Program) (f : FuncId) (args : List (SA D)) (bl : Sg D) (r : AV D) (bl' : Sg D) (nw : List Nat) (pl : Bool := true) : Prop :=
  ∀ (L : Nat → Prop) (ρ : Rho) (w : World) (vs : List Value), (∀ b, L b → b < w.heap.size) → (∀ w', Kept w.heap.size (fun b => ∃ i, live (lookD .no bl) ρ i ∧ (ρ i).1 = b) w w' → Dom.W D w') →
    isAll L ρ w args vs → BkIs L ρ w pl bl → (∀ i, live (lookD .no bl) ρ i → L (ρ i).1) → (∀ i j, live (lookD .no bl) ρ i → live (lookD .no bl) ρ j → (ρ i).1 = (ρ j).1 → i = j) →
    Calls P f vs.toArray w fun e w' => ∃ v ρ', e = .returned v ∧ (∀ i, i ∉ nw → ρ' i = ρ i) ∧ Kept w.heap.size (fun b => ∃ i, live (lookD .no bl) ρ i ∧ (ρ i).1 = b) w w' ∧
      r.is (fun b => L b ∨ ∃ i, live (lookD .no bl') ρ' i ∧ (ρ' i).1 = b) ρ' w' v ∧ BkIs (fun b => L b ∨ ∃ i, live (lookD .no bl') ρ' i ∧ (ρ' i).1 = b) ρ' w' pl bl' ∧
      (∀ i, live (lookD .no bl') ρ' i → w.heap.size ≤ (ρ' i).1 ∨ ∃ j, live (lookD .no bl) ρ j ∧ (ρ j).1 = (ρ' i).1) ∧ (∀ i j, live (lookD .no bl') ρ' i → live (lookD .no bl') ρ' j → (ρ' i).1 = (ρ' j).1 → i = j)

variable {P : Program} {cx : Cx D} {n : Nat} {σ : St D} {o : Oper} {d t : Nat}
def BlOk (σ : St D) : Sg D → Prop
  | [] => True
  | (k, x) :: r => σ k = x ∧ BlOk σ r
theorem BlOk.look {i : Nat} : ∀ {bl : Sg D}, BlOk σ bl → i ∈ bK bl → σ (.b i) = lookD .no bl (.b i)
  | (.b j, x) :: r, h, hi => by
    by_cases e : j = i
    · subst e
      show _ = (bif Key.beq (.b j) (.b j) then x else _)
      rw [Key.beq_self]
      exact h.1
    · show _ = (bif Key.beq (.b j) (.b i) then x else _)
      rw [Key.beq_ne (by simpa using e)]
      refine BlOk.look h.2 ?_
      rcases List.mem_cons.1 hi with q | q
      · exact absurd q.symm e
      · exact q
  | (.s _, x) :: r, h, hi => BlOk.look (bl := r) h.2 hi
theorem BlOk.same {σ' : St D} : ∀ {bl : Sg D}, BlOk σ bl → (∀ k ∈ keys bl, σ' k = σ k) → BlOk σ' bl
  | [], _, _ => trivial
  | (k, x) :: r, h, hk => ⟨(hk k (by simp [keys])).trans h.1, BlOk.same h.2 fun q hq => hk q (by simp only [keys, List.map_cons, List.mem_cons]; exact .inr hq)⟩
def NwOk (σ : St D) : List Nat → Prop
  | [] => True
  | i :: r => σ (.b i) = .no ∧ NwOk σ r
theorem NwOk.at {i : Nat} : ∀ {nw : List Nat}, NwOk σ nw → i ∈ nw → σ (.b i) = .no
  | j :: r, h, hi => by
    rcases List.mem_cons.1 hi with q | q
    · subst q; exact h.1
    · exact NwOk.at h.2 q
/-- What can be seen of the keys alone. -/
def kE (bl : Sg D) (r : AV D) (bl' : Sg D) (nw : List Nat) : Bool :=
  ((bK bl).all fun i => memN i (bK bl')) && ((bK bl').all fun i => (memN i (bK bl) || memN i nw) && !Nat.beq i 1000000) && (nw.all fun i => memN i (bK bl')) && (bl'.all fun p => p.2.ptrs.all fun b => memN b (bK bl')) && (r.ptrs.all fun b => memN b (bK bl'))
theorem look_ptrs {bl : Sg D} {ks : List Nat} (h : (bl.all fun p => p.2.ptrs.all fun b => memN b ks) = true) {k : Key} {b : Nat} (hb : b ∈ (lookD .no bl k).ptrs) : b ∈ ks := by
  by_cases e : lookD .no bl k = .no
  · rw [e] at hb; cases hb
  · have := List.all_eq_true.1 (List.all_eq_true.1 h _ (lookD_mem rfl e)) b hb
    exact memN_iff.1 this
theorem noK (σ : St D) (bl' : Sg D) (i : Nat) {x : XV D} (hi : i ∈ bK bl') : upd σ ((.s d, x) :: bl') (.b i) = lookD .no bl' (.b i) := by
  show (bif Key.beq (.s d) (.b i) then x else upd σ bl' (.b i)) = _
  rw [Key.beq_ne (by simp), cond_false]
  exact (upd_same (σ := σ) (τ := fun _ => .no) (bK_mem.1 hi)).trans (by
    have := upd_look (X := XV D) .no [] bl'
    rw [List.append_nil] at this
    exact congrFun this _)
theorem offK (σ : St D) (bl' : Sg D) (i : Nat) {x : XV D} (hi : i ∉ bK bl') : upd σ ((.s d, x) :: bl') (.b i) = σ (.b i) :=
  upd_other (by rw [bK_mem] at hi; simpa [keys] using hi)

theorem callE_core {pl : Bool} {ρ : Rho} {a : Act} {w : World} {f : FuncId} {sas : List (SA D)} {vs : List Value} {bl bl' : Sg D} {nw : List Nat} {r : AV D} {Q : Exit → Act → World → Prop} {K : Act → World → Prop} (h : Conc cx n ρ σ a w) (hcon : ConE P f sas bl r bl' nw pl)
    (hwf : ∀ w', Kept cx.w0.heap.size cx.Bw cx.w0 w' → Dom.W D w') (hrun : (execOp a.eval o).run P w = .ok (.enter f vs.toArray) w) (hall : isAll (Lof cx σ ρ) ρ w sas vs) (hd : o.dst = some d) (hn : d < n) (hbl : BlOk σ bl) (hnw : NwOk σ nw)
    (hkE : kE bl r bl' nw = true) (hblk : ∀ k ∈ keys bl, ∃ i, k = .b i) (hpl : (pl = true → ∀ i ∈ bK bl, i ∉ npL (σ KP)) ∧ (pl = false → ∀ i ∈ bK bl', i ∈ npL (σ KP))) (hb' : ∀ k ∈ keys bl', ∃ i, k = .b i) (hno : ∀ p ∈ bl, (∃ T ch, p.2 = .blk T ch) ∨ (∃ T k l, p.2 = .row T k l) ∨ p.2 = .dead)
    (hK : ∀ a' w', CC cx n (upd σ ((.s d, .av r) :: bl')) a' w' → K a' w') : o.wp P a w K Q := by
  simp only [kE, Bool.and_eq_true] at hkE
  obtain ⟨⟨⟨⟨c1, c2⟩, c3⟩, c4⟩, c5⟩ := hkE
  have s1 : ∀ i, i ∈ bK bl → i ∈ bK bl' := fun i hi => memN_iff.1 (List.all_eq_true.1 c1 i hi)
  have s2 : ∀ i, i ∈ bK bl' → (i ∈ bK bl ∨ i ∈ nw) ∧ i ≠ 1000000 := fun i hi => by
    have := List.all_eq_true.1 c2 i hi
    rw [Bool.and_eq_true, Bool.or_eq_true] at this
    exact ⟨this.1.imp memN_iff.1 memN_iff.1, fun e => by subst e; exact absurd this.2 (by decide)⟩
  have s3 : ∀ i, i ∈ nw → i ∈ bK bl' := fun i hi => memN_iff.1 (List.all_eq_true.1 c3 i hi)
  have s5 : ∀ b, b ∈ r.ptrs → b ∈ bK bl' := fun b hb => memN_iff.1 (List.all_eq_true.1 c5 b hb)
  have lv : ∀ i, i ∈ bK bl → (live σ ρ i ↔ live (lookD .no bl) ρ i) := fun i hi => live_same (hbl.look hi) rfl
  have lv2 : ∀ i, live (lookD .no bl) ρ i → live σ ρ i := fun i hi => (lv i (live_bK hi)).2 hi
  -- the blocks as they are found
  have hBk : BkIs (Lof cx σ ρ) ρ w pl bl := by
    have key : ∀ m : Sg D, BlOk σ m → (∀ k ∈ keys m, ∃ i, k = .b i) → (∀ i ∈ bK m, pl = true → i ∉ npL (σ KP)) → (∀ p ∈ m, (∃ T ch, p.2 = .blk T ch) ∨ (∃ T k l, p.2 = .row T k l) ∨ p.2 = .dead) → BkIs (Lof cx σ ρ) ρ w pl m := by
      intro m
      induction m with
      | nil => intro _ _ _ _; trivial
      | cons p m ih =>
        intro q1 q2 q3 q4
        obtain ⟨k, x⟩ := p
        obtain ⟨i, rfl⟩ := q2 k (by simp [keys])
        have ih' := ih q1.2 (fun k hk => q2 k (by simp only [keys, List.map_cons, List.mem_cons]; exact .inr hk)) (fun j hj => q3 j (List.mem_cons_of_mem _ hj)) (fun p hp => q4 p (List.mem_cons_of_mem _ hp))
        have hx : σ (.b i) = x := q1.1
        rcases q4 _ List.mem_cons_self with ⟨T, ch, e⟩ | ⟨T, k, l, e⟩ | e
        · have e : x = _ := e
          subst e
          exact ⟨⟨h.pln i T ch hx, h.blk i T ch hx⟩, ih'⟩
        · have e : x = _ := e
          subst e
          exact ⟨(h.row i T k l hx).go (Goes.refl _ _) rfl (fun _ => rfl) (fun hp => q3 i List.mem_cons_self hp), ih'⟩
        · have e : x = _ := e
          subst e
          exact ih'
    exact key bl hbl hblk (fun i hi hp => hpl.1 hp i hi) hno
  unfold Oper.wp
  rw [hrun, Oper.upon_enter]
  refine (hcon (Lof cx σ ρ) ρ w vs h.lofLt (fun w' hw' => hwf w' (h.kept.trans hw' h.kept.size fun b hb ⟨i, hi, e⟩ => ?_)) hall hBk (fun i hi => .inr ⟨i, lv2 i hi, rfl⟩) (fun i j hi hj => h.inj i j (lv2 i hi) (lv2 j hj))).mono ?_
  · rcases h.mine i (lv2 i hi) with m | m
    · omega
    · exact e ▸ m
  rintro e w' ⟨v, ρ', rfl, hρ, hkp, hv, hB, hm, hj⟩
  show K (a.put o.dst v) w'
  rw [hd]
  refine hK _ _ ⟨ρ', ?_⟩
  obtain ⟨σ', hσ'⟩ : ∃ σ', σ' = upd σ ((.s d, .av r) :: bl') := ⟨_, rfl⟩
  rw [← hσ']
  have kd : σ' (.s d) = .av r := by rw [hσ']; show (bif Key.beq (.s d) (.s d) then _ else _) = _; rw [Key.beq_self]; rfl
  have kin : ∀ i, i ∈ bK bl' → σ' (.b i) = lookD .no bl' (.b i) := fun i hi => by rw [hσ']; exact noK σ bl' i hi
  have kout : ∀ i, i ∉ bK bl' → σ' (.b i) = σ (.b i) := fun i hi => by rw [hσ']; exact offK σ bl' i hi
  have ks : ∀ q, q ≠ d → σ' (.s q) = σ (.s q) := fun q hq => by
    rw [hσ']
    refine upd_other ?_
    simp only [keys, List.map_cons, List.mem_cons, not_or]
    refine ⟨by simpa using hq, fun hm => ?_⟩
    obtain ⟨i, e⟩ := hb' _ hm
    cases e
  have hKP : σ' KP = σ KP := kout 1000000 fun hi => (s2 _ hi).2 rfl
  have hρo : ∀ i, i ∉ bK bl' → ρ' i = ρ i := fun i hi => hρ i fun q => hi (s3 i q)
  have lin : ∀ i, i ∈ bK bl' → (live σ' ρ' i ↔ live (lookD .no bl') ρ' i) := fun i hi => live_same (kin i hi) rfl
  have lout : ∀ i, i ∉ bK bl' → (live σ' ρ' i ↔ live σ ρ i) := fun i hi => live_same (kout i hi) (hρo i hi)
  have hL : ∀ b, Lof cx σ' ρ' b → Lof cx σ ρ b ∨ ∃ i, live (lookD .no bl') ρ' i ∧ (ρ' i).1 = b := by
    rintro b (q | ⟨i, q1, q2⟩)
    · exact .inl (.inl q)
    · by_cases e : i ∈ bK bl'
      · exact .inr ⟨i, (lin i e).1 q1, q2⟩
      · exact .inl (.inr ⟨i, (lout i e).1 q1, by rw [← hρo i e]; exact q2⟩)
  have gg : Goes (fun b => Lof cx σ ρ b ∨ ∃ i, live (lookD .no bl') ρ' i ∧ (ρ' i).1 = b) w' (Lof cx σ' ρ') w' := Goes.less hL
  have old : ∀ i, live (lookD .no bl') ρ' i → w.heap.size ≤ (ρ' i).1 ∨ ∃ j, j ∈ bK bl ∧ live σ ρ j ∧ (ρ j).1 = (ρ' i).1 := by
    intro i hi
    rcases hm i hi with q | ⟨j, q1, q2⟩
    · exact .inl q
    · exact .inr ⟨j, live_bK q1, lv2 j q1, q2⟩
  have hne : ∀ i, i ∈ bK bl' → σ' (.b i) ≠ .no := fun i hi => by rw [kin i hi]; exact hB.no hi
  have hkeep : ∀ i, σ (.b i) ≠ .no → σ' (.b i) ≠ .no := by
    intro i hi
    by_cases e : i ∈ bK bl'
    · exact hne i e
    · rw [kout i e]; exact hi
  refine h.step (fun b => ∃ i, live (lookD .no bl) ρ i ∧ (ρ i).1 = b) (fun k => k = .s d ∨ ∃ i, i ∈ bK bl' ∧ k = .b i) (by rw [Pu.size_put]; exact h.size) (by rw [Pu.defers_put]; exact h.defers) hkp.os hkp.tape hkp.output hkp.size
    (fun b hb hnM => hkp.block b hb hnM) (fun b ⟨i, hi, e⟩ => ⟨i, lv2 i hi, e⟩) ?_ (fun i hi => hρ i fun q => hi (hnw.at q)) (fun i hi ⟨j, hj1, hj2⟩ => .inr ⟨i, ?_, rfl⟩) (fun b hb q => ?_) ?_ ?_ ?_ (fun i hi q => by rw [hKP] at q; exact q) ?_ ?_ ?_ ?_ hkeep
  · intro k hk
    cases k with
    | s q => exact ks q fun e => hk (.inl (by rw [e]))
    | b i => exact kout i fun e => hk (.inr ⟨i, e, rfl⟩)
  · have : j = i := h.inj j i (lv2 j hj1) hi hj2
    subst this
    exact s1 _ (live_bK hj1)
  · rcases hL b q with q | ⟨i, q1, q2⟩
    · exact q
    · rcases old i q1 with m | ⟨j, _, m2, m3⟩
      · omega
      · exact .inr ⟨j, m2, m3.trans q2⟩
  · rintro i (q | ⟨i', hi', q⟩) hi
    · cases q
    · injection q with q
      subst q
      rcases old i ((lin i hi').1 hi) with m | ⟨j, _, m2, m3⟩
      · exact .inl (Nat.le_trans h.kept.size m)
      · rw [← m3]; exact h.mine j m2
  · rintro i T ch (q | ⟨i', hi', q⟩) hi
    · cases q
    · injection q with q
      subst q
      rw [kin i hi'] at hi
      obtain ⟨g1, cs, g2, g3⟩ := hB.blk hi
      exact ⟨g1, cs, g2, g3.go gg fun _ _ => rfl⟩
  · rintro i T k l (q | ⟨i', hi', q⟩) hi
    · cases q
    · injection q with q
      subst q
      rw [kin i hi'] at hi
      refine (hB.row hi).go gg rfl (fun _ => rfl) fun hq => ?_
      cases hpb : pl with
      | true => rfl
      | false => rw [hKP] at hq; exact absurd (hpl.2 hpb i hi') hq
  · intro i j hi hj' he
    by_cases e1 : i ∈ bK bl'
    · by_cases e2 : j ∈ bK bl'
      · exact hj i j ((lin i e1).1 hi) ((lin j e2).1 hj') he
      · have lj := (lout j e2).1 hj'
        rw [hρo j e2] at he
        rcases old i ((lin i e1).1 hi) with m | ⟨q, m1, m2, m3⟩
        · have := h.lt lj
          omega
        · have := h.inj q j m2 lj (m3.trans he)
          subst this
          exact absurd (s1 _ m1) e2
    · have li := (lout i e1).1 hi
      rw [hρo i e1] at he
      by_cases e2 : j ∈ bK bl'
      · rcases old j ((lin j e2).1 hj') with m | ⟨q, m1, m2, m3⟩
        · have := h.lt li
          omega
        · have := h.inj q i m2 li (m3.trans he.symm)
          subst this
          exact absurd (s1 _ m1) e1
      · rw [hρo j e2] at he
        exact h.inj i j li ((lout j e2).1 hj') he
  · rintro q av (e | ⟨i, _, e⟩) hq
    · injection e with e
      subst e
      rw [kd] at hq
      obtain rfl := (XV.av.injEq _ _).mp hq
      rw [tmp_put hn h.size, if_pos rfl]
      exact hv.go gg fun _ _ => rfl
    · cases e
  · intro q hq
    rw [tmp_put hn h.size, if_neg (fun e => hq (.inl (by rw [e])))]
  · rintro k b (e | ⟨i, hi, e⟩) hb
    · subst e
      rw [kd] at hb
      exact hne b (s5 b hb)
    · subst e
      rw [kin i hi] at hb
      exact hne b (look_ptrs c4 hb)

def onlyB : Sg D → Bool
  | [] => true
  | (.b _, .blk _ _) :: r => onlyB r
  | (.b _, .row _ _ _) :: r => onlyB r
  | (.b _, .dead) :: r => onlyB r
  | _ :: _ => false
theorem onlyB_ok : ∀ {bl : Sg D}, onlyB bl = true → (∀ k ∈ keys bl, ∃ i, k = .b i) ∧ ∀ p ∈ bl, (∃ T ch, p.2 = .blk T ch) ∨ (∃ T k l, p.2 = .row T k l) ∨ p.2 = .dead
  | [], _ => ⟨fun k hk => by simp [keys] at hk, fun p hp => by cases hp⟩
  | (.b i, x) :: r, h => by
    have hr : onlyB r = true ∧ ((∃ T ch, x = .blk T ch) ∨ (∃ T k l, x = .row T k l) ∨ x = .dead) := by
      cases x with
      | blk T ch => exact ⟨h, .inl ⟨_, _, rfl⟩⟩
      | row T k l => exact ⟨h, .inr (.inl ⟨_, _, _, rfl⟩)⟩
      | dead => exact ⟨h, .inr (.inr rfl)⟩
      | no => cases h
      | av x => cases h
      | np l => cases h
    obtain ⟨h1, h2⟩ := onlyB_ok hr.1
    refine ⟨fun k hk => ?_, fun p hp => ?_⟩
    · rcases List.mem_cons.1 hk with q | q
      · exact ⟨i, q⟩
      · exact h1 k q
    · rcases List.mem_cons.1 hp with q | q
      · subst q; exact hr.2
      · exact h2 p q
  | (.s _, x) :: r, h => by cases x <;> cases h
def npE (pl : Bool) (bl bl' : Sg D) (q : XV D) : Bool := bif pl then (bK bl).all fun i => !memN i (npL q) else (bK bl').all fun i => memN i (npL q)
theorem npE_ok {pl : Bool} {bl bl' : Sg D} {q : XV D} (h : npE pl bl bl' q = true) : (pl = true → ∀ i ∈ bK bl, i ∉ npL q) ∧ (pl = false → ∀ i ∈ bK bl', i ∈ npL q) := by
  cases pl with
  | true =>
    refine ⟨fun _ i hi hm => ?_, fun q => (by cases q)⟩
    have := List.all_eq_true.1 h i hi
    rw [memN_iff.2 hm] at this
    cases this
  | false => exact ⟨fun q => (by cases q), fun _ i hi => memN_iff.1 (List.all_eq_true.1 h i hi)⟩

/-- A call of a closure that changes some blocks of one's own. -/
theorem ok_callE {pl : Bool} {f : FuncId} {fn : Func} {caps : List (SA D)} {hne : ptrsAll caps ≠ []} {args : Array Operand} {tys : Array TypeId} {sas : List (SA D)} {r : AV D} {bl bl' : Sg D} {nw : List Nat} (hcon : ConE P f (sas ++ caps) bl r bl' nw pl) (hwf : ∀ w', Kept cx.w0.heap.size cx.Bw cx.w0 w' → Dom.W D w') (hf : P.funcs[f]? = some fn) (hname : (fn.name == "runtime.NumGoroutine") = false) (hb : fn.body.isSome = true)
    (ho : o.op = .call ⟨.value (.tmp t), args, tys⟩) (hd : o.dst = some d) (hn : d < n) (ht : σ (.s t) = .av (.one (.lk (fnR f caps hne)))) (hargs : ArgsR σ args.toList sas) (hbl : BlOk σ bl) (hnw : NwOk σ nw) (hkE : kE bl r bl' nw = true) (ho1 : onlyB bl = true) (ho2 : onlyB bl' = true) (hnp : npE pl bl bl' (σ KP) = true) :
    OpOk P cx n σ o (KP :: .s t :: (args.toList.flatMap opk ++ keys bl)) ((.s d, .av r) :: bl') := by
  intro σ' a w Q ⟨ρ, h⟩ h1 h2 K hK
  obtain ⟨c, hc⟩ := Option.isSome_iff_exists.1 hb
  have hs := h.slt t _ ((h1 (.s t) (by simp)).trans ht)
  obtain ⟨vs, hv, hat⟩ := hs w (Agree.refl _ _)
  have e1 : a.eval (.tmp t) = .func (.func f) #[] vs.toArray := hv
  have hcaps : isAll (Lof cx σ' ρ) ρ w caps vs := allR_isAll fun w' hag => by
    obtain ⟨vs', hv', hat'⟩ := hs w' hag
    rw [show a.tmps.getD t undef = _ from hv] at hv'
    injection hv' with q1 q2 q3
    have : vs = vs' := by simpa using congrArg Array.toList q3
    rw [this]; exact hat'
  have hrun : (execOp a.eval o).run P w = .ok (.enter f (args.toList.map a.eval ++ vs).toArray) w := by
    have h1 : fn.name ≠ "runtime.NumGoroutine" := by simpa using hname
    have h2 : args.map a.eval ++ vs.toArray = (args.toList.map a.eval ++ vs).toArray := Array.ext' (by simp)
    simp [execOp, ho, resolve, e1, Deferred.ofValue, invoke, callFunc, hf, h1, hc, h2]
  have hkp : σ' KP = σ KP := h1 KP (by simp)
  refine callE_core h hcon hwf hrun (isAll_app (hargs.is h fun q hq => h1 q (by simp [hq])).1 hcaps) hd hn (hbl.same fun k hk => h1 k (by simp [hk])) ?_ hkE (onlyB_ok ho1).1 (by rw [hkp]; exact npE_ok hnp) (onlyB_ok ho2).1 (onlyB_ok ho1).2 hK
  have key : ∀ m : List Nat, NwOk σ m → (∀ i ∈ m, i ∈ bK bl') → NwOk σ' m := by
    intro m
    induction m with
    | nil => intro _ _; trivial
    | cons i m ih => exact fun q1 q2 => ⟨(h2 (.b i) (by simp only [keys, List.map_cons, List.mem_cons]; exact .inr (bK_mem.1 (q2 i List.mem_cons_self)))).trans q1.1, ih q1.2 fun j hj => q2 j (List.mem_cons_of_mem _ hj)⟩
  exact key nw hnw fun i hi => by
    simp only [kE, Bool.and_eq_true] at hkE
    exact memN_iff.1 (List.all_eq_true.1 hkE.1.1.2 i hi)
theorem ok_callSE {pl : Bool} {f : FuncId} {fn : Func} {pre post : List (SA D)} {hne : ptrsAll (pre ++ post) ≠ []} {args : Array Operand} {tys : Array TypeId} {sas : List (SA D)} {r : AV D} {bl bl' : Sg D} {nw : List Nat} (hcon : ConE P f (sas ++ (pre ++ .lk (pselfR f pre post hne) :: post)) bl r bl' nw pl) (hwf : ∀ w', Kept cx.w0.heap.size cx.Bw cx.w0 w' → Dom.W D w') (hf : P.funcs[f]? = some fn) (hname : (fn.name == "runtime.NumGoroutine") = false) (hb : fn.body.isSome = true)
    (ho : o.op = .call ⟨.value (.tmp t), args, tys⟩) (hd : o.dst = some d) (hn : d < n) (ht : σ (.s t) = .av (.one (.lk (selfR f pre post hne)))) (hargs : ArgsR σ args.toList sas) (hbl : BlOk σ bl) (hnw : NwOk σ nw) (hkE : kE bl r bl' nw = true) (ho1 : onlyB bl = true) (ho2 : onlyB bl' = true) (hnp : npE pl bl bl' (σ KP) = true) :
    OpOk P cx n σ o (KP :: .s t :: (args.toList.flatMap opk ++ keys bl)) ((.s d, .av r) :: bl') := by
  intro σ' a w Q ⟨ρ, h⟩ h1 h2 K hK
  obtain ⟨c, hc⟩ := Option.isSome_iff_exists.1 hb
  have hs := h.slt t _ ((h1 (.s t) (by simp)).trans ht)
  obtain ⟨g, vs, us, hv, ha, hu, hcell⟩ := hs w (Agree.refl _ _)
  have e1 : a.eval (.tmp t) = .func (.func f) #[] (vs ++ Value.pointer (some ⟨g, 0, none⟩) :: us).toArray := hv
  have hall' : ∀ w', Agree (Lof cx σ' ρ) w w' → allR ρ w' pre vs ∧ allR ρ w' post us ∧ w'.cell? ⟨g, 0, none⟩ = some (a.tmps.getD t undef) := by
    intro w' hag
    obtain ⟨g', vs', us', hv', ha', hu', hcell'⟩ := hs w' hag
    have e2 := hv'
    rw [show a.tmps.getD t undef = _ from hv] at e2
    injection e2 with q1 q2 q3
    have e3 : vs ++ Value.pointer (some ⟨g, 0, none⟩) :: us = vs' ++ Value.pointer (some ⟨g', 0, none⟩) :: us' := by simpa using congrArg Array.toList q3
    obtain ⟨e4, e5⟩ := List.append_inj e3 (by rw [ha.length, ha'.length])
    injection e5 with e5 e6
    injection e5 with e5
    injection e5 with e5
    injection e5 with e5
    subst e4; subst e5; subst e6
    exact ⟨ha', hu', hcell'⟩
  have hcaps : isAll (Lof cx σ' ρ) ρ w (pre ++ .lk (pselfR f pre post hne) :: post) (vs ++ Value.pointer (some ⟨g, 0, none⟩) :: us) :=
    isAll_app (allR_isAll fun w' hag => (hall' w' hag).1) ⟨fun w' hag => ⟨g, vs, us, rfl, (hall' w' hag).1, (hall' w' hag).2.1, by rw [(hall' w' hag).2.2]; exact congrArg some hv⟩, allR_isAll fun w' hag => (hall' w' hag).2.1⟩
  have hrun : (execOp a.eval o).run P w = .ok (.enter f (args.toList.map a.eval ++ (vs ++ Value.pointer (some ⟨g, 0, none⟩) :: us)).toArray) w := by
    have h1 : fn.name ≠ "runtime.NumGoroutine" := by simpa using hname
    have h2 : args.map a.eval ++ (vs ++ Value.pointer (some ⟨g, 0, none⟩) :: us).toArray = (args.toList.map a.eval ++ (vs ++ Value.pointer (some ⟨g, 0, none⟩) :: us)).toArray := Array.ext' (by simp)
    simp only [execOp, ho, resolve, e1, Deferred.ofValue, invoke]
    simp [callFunc, hf, h1, hc]
  have hkp : σ' KP = σ KP := h1 KP (by simp)
  refine callE_core h hcon hwf hrun (isAll_app (hargs.is h fun q hq => h1 q (by simp [hq])).1 hcaps) hd hn (hbl.same fun k hk => h1 k (by simp [hk])) ?_ hkE (onlyB_ok ho1).1 (by rw [hkp]; exact npE_ok hnp) (onlyB_ok ho2).1 (onlyB_ok ho1).2 hK
  have key : ∀ m : List Nat, NwOk σ m → (∀ i ∈ m, i ∈ bK bl') → NwOk σ' m := by
    intro m
    induction m with
    | nil => intro _ _; trivial
    | cons i m ih => exact fun q1 q2 => ⟨(h2 (.b i) (by simp only [keys, List.map_cons, List.mem_cons]; exact .inr (bK_mem.1 (q2 i List.mem_cons_self)))).trans q1.1, ih q1.2 fun j hj => q2 j (List.mem_cons_of_mem _ hj)⟩
  exact key nw hnw fun i hi => by
    simp only [kE, Bool.and_eq_true] at hkE
    exact memN_iff.1 (List.all_eq_true.1 hkE.1.1.2 i hi)
/-- A call of a named function that changes some blocks of one's own. -/
theorem ok_callNE {pl : Bool} {f : FuncId} {fn : Func} {args : Array Operand} {tys : Array TypeId} {sas : List (SA D)} {r : AV D} {bl bl' : Sg D} {nw : List Nat} (hcon : ConE P f sas bl r bl' nw pl) (hwf : ∀ w', Kept cx.w0.heap.size cx.Bw cx.w0 w' → Dom.W D w') (hf : P.funcs[f]? = some fn) (hname : (fn.name == "runtime.NumGoroutine") = false) (hb : fn.body.isSome = true)
    (ho : o.op = .call ⟨.value (.func f), args, tys⟩) (hd : o.dst = some d) (hn : d < n) (hargs : ArgsR σ args.toList sas) (hbl : BlOk σ bl) (hnw : NwOk σ nw) (hkE : kE bl r bl' nw = true) (ho1 : onlyB bl = true) (ho2 : onlyB bl' = true) (hnp : npE pl bl bl' (σ KP) = true) :
    OpOk P cx n σ o (KP :: (args.toList.flatMap opk ++ keys bl)) ((.s d, .av r) :: bl') := by
  intro σ' a w Q ⟨ρ, h⟩ h1 h2 K hK
  have hkp : σ' KP = σ KP := h1 KP (by simp)
  refine callE_core h hcon hwf (call_run (d := d) ho hf hname hb) (hargs.is h fun q hq => h1 q (by simp [hq])).1 hd hn (hbl.same fun k hk => h1 k (by simp [hk])) ?_ hkE (onlyB_ok ho1).1 (by rw [hkp]; exact npE_ok hnp) (onlyB_ok ho2).1 (onlyB_ok ho1).2 hK
  have key : ∀ m : List Nat, NwOk σ m → (∀ i ∈ m, i ∈ bK bl') → NwOk σ' m := by
    intro m
    induction m with
    | nil => intro _ _; trivial
    | cons i m ih => exact fun q1 q2 => ⟨(h2 (.b i) (by simp only [keys, List.map_cons, List.mem_cons]; exact .inr (bK_mem.1 (q2 i List.mem_cons_self)))).trans q1.1, ih q1.2 fun j hj => q2 j (List.mem_cons_of_mem _ hj)⟩
  exact key nw hnw fun i hi => by
    simp only [kE, Bool.and_eq_true] at hkE
    exact memN_iff.1 (List.all_eq_true.1 hkE.1.1.2 i hi)

/-! A function that changes its caller's blocks. -/
abbrev LKs : Key := .s 1000000
abbrev lkX (ks : List Nat) (ρ0 : Rho) (hne : ks ≠ []) : XV D := .av (.one (.lk (linkR ks ρ0 hne)))
def BlOkL (σ : St D) : Sg D → Prop
  | [] => True
  | (_, .dead) :: r => BlOkL σ r
  | (k, x) :: r => σ k = x ∧ BlOkL σ r
def FinE (P : Program) (cx : Cx D) (n : Nat) (fn : Func) (r : AV D) (bl' : Sg D) (pl : Bool) (x : XV D) (e : Exit) (l : Sg D) : Prop :=
  (e = .normal ∨ e = .ret) ∧ lookD .no l LKs = x ∧ BlOkL (lookD .no l) bl' ∧ (pl = true → npL (lookD .no l KP) = []) ∧ ∀ ρ a w, Conc cx n ρ (lookD .no l) a w → ∃ v, (results fn a.tmps).run P w = .ok v w ∧ r.is (Lof cx (lookD .no l) ρ) ρ w v
theorem BlOkL.live {ρ : Rho} {i : Nat} : ∀ {bl : Sg D}, BlOkL σ bl → Vc.live (lookD .no bl) ρ i → σ (.b i) = lookD .no bl (.b i)
  | [], _, h => absurd rfl (live_ne h)
  | (k, x) :: r, hb, h => by
    have hr : BlOkL σ r := by cases x <;> first | exact hb | exact hb.2
    cases e : Key.beq k (.b i) with
    | true =>
      obtain rfl := Key.beq_iff.1 e
      have e2 : lookD .no ((.b i, x) :: r) (.b i) = x := by show (bif Key.beq (.b i) (.b i) then x else _) = _; rw [Key.beq_self]; rfl
      rw [e2]
      cases x with
      | dead =>
        rcases live_some h with ⟨T, ch, q⟩ | ⟨T, k, l, q, _⟩ <;> rw [e2] at q <;> cases q
      | no => exact hb.1
      | av x => exact hb.1
      | blk T ch => exact hb.1
      | row T k l => exact hb.1
      | np l => exact hb.1
    | false =>
      have e2 : lookD .no ((k, x) :: r) (.b i) = lookD .no r (.b i) := by show (bif Key.beq k (.b i) then x else _) = _; rw [e]; rfl
      rw [e2]
      exact BlOkL.live hr ((live_same (σ := lookD .no r) e2 rfl).1 h)
/-- What can be seen of the beginning. -/
def stE (args : List (SA D)) (bl : Sg D) : Bool := ((ptrsAll args).all fun b => memN b (bK bl)) && (bl.all fun p => p.2.ptrs.all fun b => memN b (bK bl))
theorem look_app {l m : Sg D} {k : Key} (h : k ∉ keys l) : lookD .no (l ++ m) k = lookD .no m k := by
  rw [← upd_look]
  exact upd_other h
theorem look_left {l m : Sg D} {k : Key} (h : k ∈ keys l) : lookD .no (l ++ m) k = lookD .no l k := by
  rw [← upd_look, ← List.append_nil l, ← upd_look, List.append_nil]
  exact upd_same h
theorem init_keys {args : List (SA D)} {i : Nat} {k : Key} (h : k ∈ keys (initSt i args)) : ∃ j, j < args.length ∧ k = .s (i + j) := by
  obtain ⟨p, hp, rfl⟩ := List.mem_map.1 h
  obtain ⟨j, s, h1, h2, _⟩ := init_at args i p.1 p.2 hp
  exact ⟨j, (List.getElem?_eq_some_iff.1 h1).1, h2⟩
def kpE (pl : Bool) (bl' : Sg D) : Sg D := bif pl then [] else [(KP, .np (bK bl'))]
theorem ConE.of {pl : Bool} {f : FuncId} {fn : Func} {c : Code} {args : List (SA D)} {bl bl' : Sg D} {nw : List Nat} {r : AV D} (hne : bK bl ≠ []) (hf : P.funcs[f]? = some fn) (hb : fn.body = some c) (hnt : fn.ntmps = n) (hn6 : Nat.ble n 1000000 = true) (hn : Nat.ble args.length n = true) (ho1 : onlyB bl = true) (hst : stE args bl = true) (hkE : kE bl r bl' nw = true) (ho2 : onlyB bl' = true)
    (h : ∀ (cx : Cx0 D) (ρ0 : Rho), (∀ w, Kept cx.w0.heap.size cx.Bw cx.w0 w → Dom.W D w) → (∀ b, cx.Bw b → ∃ i, i ∈ bK bl ∧ live (lookD .no bl) ρ0 i ∧ (ρ0 i).1 = b) → CV P cx n c (initSt 0 args ++ (bl ++ (LKs, lkX (bK bl) ρ0 hne) :: kpE pl bl')) (FinE P cx n fn r bl' pl (lkX (bK bl) ρ0 hne))) : ConE P f args bl r bl' nw pl := by
  subst hnt
  intro L ρ w vs hlt hW hall hbk hLb hinj
  have hn' := Nat.le_of_ble_eq_true hn
  have hn6' := Nat.le_of_ble_eq_true hn6
  simp only [stE, Bool.and_eq_true] at hst
  obtain ⟨t1, t2⟩ := hst
  simp only [kE, Bool.and_eq_true] at hkE
  obtain ⟨⟨⟨⟨c1, c2⟩, c3⟩, c4⟩, c5⟩ := hkE
  obtain ⟨o1, o2⟩ := onlyB_ok ho1
  obtain ⟨o3, o4⟩ := onlyB_ok ho2
  obtain ⟨cx, hcx⟩ : ∃ cx : Cx0 D, cx = ⟨w, L, hlt, true, fun b => ∃ i, live (lookD .no bl) ρ i ∧ (ρ i).1 = b, fun b ⟨i, hi, e⟩ => e ▸ hLb i hi, (fun q => nomatch q), (fun q => nomatch q), (fun q => nomatch q)⟩ := ⟨_, rfl⟩
  have x1 : cx.w0 = w := by rw [hcx]
  have x2 : cx.L0 = L := by rw [hcx]
  have x3 : cx.Bw = fun b => ∃ i, live (lookD .no bl) ρ i ∧ (ρ i).1 = b := by rw [hcx]
  obtain ⟨σ, hσ⟩ : ∃ σ, σ = lookD .no (initSt 0 args ++ (bl ++ (LKs, lkX (bK bl) ρ hne) :: kpE pl bl')) := ⟨_, rfl⟩
  have hA : ∀ i, .b i ∉ keys (initSt 0 args) := fun i hi => by obtain ⟨j, _, e⟩ := init_keys hi; cases e
  have s2 : ∀ i, i ∈ bK bl' → i ≠ 1000000 := fun i hi e => by
    have := List.all_eq_true.1 c2 i hi
    rw [Bool.and_eq_true] at this
    subst e
    exact absurd this.2 (by decide)
  have s1 : ∀ i, i ∈ bK bl → i ∈ bK bl' := fun i hi => memN_iff.1 (List.all_eq_true.1 c1 i hi)
  have kb : ∀ i, i ≠ 1000000 → σ (.b i) = lookD .no bl (.b i) := by
    intro i hi6
    rw [hσ, look_app (hA i)]
    by_cases e : .b i ∈ keys bl
    · exact look_left e
    · rw [look_app e, look_none e]
      show (bif Key.beq LKs (.b i) then _ else lookD .no (kpE pl bl') (.b i)) = _
      rw [Key.beq_ne (by simp), cond_false]
      cases pl with
      | true => rfl
      | false =>
        show (bif Key.beq KP (.b i) then _ else XV.no) = _
        rw [Key.beq_ne (by simpa [KP] using fun e : 1000000 = i => hi6 e.symm), cond_false]
  have hK0 : lookD .no bl KP = .no := look_none fun hm => s2 _ (s1 _ (bK_mem.2 hm)) rfl
  have kK : σ KP = bif pl then .no else .np (bK bl') := by
    show σ (.b 1000000) = _
    rw [hσ, look_app (hA _), look_app (fun hm => s2 _ (s1 _ (bK_mem.2 hm)) rfl)]
    show (bif Key.beq LKs KP then _ else lookD .no (kpE pl bl') KP) = _
    rw [Key.beq_ne (by simp [KP]), cond_false]
    cases pl with
    | true => rfl
    | false =>
      show (bif Key.beq KP KP then _ else XV.no) = _
      rw [Key.beq_self]; rfl
  have ks : ∀ t, t < args.length → σ (.s t) = lookD .no (initSt 0 args) (.s t) ∨ σ (.s t) = σ (.s t) := fun _ _ => .inr rfl
  have kl : ∀ t av, σ (.s t) = .av av → (∃ s, args[t]? = some s ∧ av = .one s) ∨ (t = 1000000 ∧ av = .one (.lk (linkR (bK bl) ρ hne))) := by
    intro t av ht
    by_cases e : .s t ∈ keys (initSt 0 args)
    · rw [hσ, look_left e] at ht
      obtain ⟨j, s, h1, h2, h3⟩ := init_at args 0 _ _ (lookD_mem ht (by simp))
      injection h2 with h2
      rw [Nat.zero_add] at h2
      subst h2
      exact .inl ⟨s, h1, (XV.av.injEq _ _).mp h3⟩
    · rw [hσ, look_app e, look_app (fun hm => by obtain ⟨i, q⟩ := o1 _ hm; cases q)] at ht
      have hkE0 : lookD .no (kpE pl bl') (.s t) = .no := by cases pl <;> rfl
      have ht : (bif Key.beq LKs (.s t) then lkX (bK bl) ρ hne else lookD .no (kpE pl bl') (.s t)) = _ := ht
      rw [hkE0] at ht
      cases e2 : Key.beq LKs (.s t) with
      | true =>
        rw [e2] at ht
        have e3 := Key.beq_iff.1 e2
        injection e3 with e3
        exact .inr ⟨e3.symm, ((XV.av.injEq _ _).mp ht).symm⟩
      | false => rw [e2] at ht; cases ht
  have k6 : ∀ i, live σ ρ i → i ≠ 1000000 := by
    rintro i hi rfl
    rcases live_some hi with ⟨T, ch, e⟩ | ⟨T, k, l, e, _⟩
    · rw [show σ (.b 1000000) = _ from kK] at e; cases pl <;> cases e
    · rw [show σ (.b 1000000) = _ from kK] at e; cases pl <;> cases e
  have lv : ∀ i, live σ ρ i ↔ live (lookD .no bl) ρ i := fun i => by
    by_cases e : i = 1000000
    · exact ⟨fun hi => absurd e (k6 i hi), fun hi => absurd e (s2 i (s1 i (live_bK hi)))⟩
    · exact live_same (kb i e) rfl
  have hLof : ∀ b, Lof cx σ ρ b → L b := by
    rintro b (q | ⟨i, q1, q2⟩)
    · rwa [x2] at q
    · exact q2 ▸ hLb i ((lv i).1 q1)
  have gg : Goes L w (Lof cx σ ρ) w := Goes.less hLof
  have hown : ∀ b, b ∈ bK bl → σ (.b b) ≠ .no := fun b hb => by rw [kb b (s2 b (s1 b hb))]; exact hbk.no hb
  have hstart : CC cx fn.ntmps σ { tmps := vs.toArray ++ Array.replicate (fn.ntmps - vs.toArray.size) undef, defers := [] } w := by
    have hlen := isAll_length hall
    refine ⟨ρ, by simp; omega, rfl, by rw [x1]; exact Kept.refl _ _ _, fun i hi => .inr (by rw [x3]; exact ⟨i, (lv i).1 hi, rfl⟩), fun i T ch hi => ?_, fun i T k l hi => ?_, fun i j hi hj => hinj i j ((lv i).1 hi) ((lv j).1 hj), ?_, ?_, fun i T ch hi => ?_⟩
    · have h6 := k6 i (live_blk hi)
      rw [kb i h6] at hi
      obtain ⟨_, cs, g1, g2⟩ := hbk.blk hi
      exact ⟨cs, g1, g2.go gg fun _ _ => rfl⟩
    · have h6 : i ≠ 1000000 := by
        rintro rfl
        rw [show σ (.b 1000000) = _ from kK] at hi
        cases pl <;> cases hi
      rw [kb i h6] at hi
      refine (hbk.row hi).go gg rfl (fun _ => rfl) fun hq => ?_
      cases hpb : pl with
      | true => rfl
      | false =>
        rw [kK, hpb] at hq
        exact absurd (s1 i (Classical.byContradiction fun hn => by rw [look_none (fun hm => hn (bK_mem.2 hm))] at hi; cases hi)) hq
    · intro t av ht
      rcases kl t av ht with ⟨s, h1, rfl⟩ | ⟨rfl, rfl⟩
      · obtain ⟨v, h4, h5⟩ := isAll_at hall h1
        have hv : (vs.toArray ++ Array.replicate (fn.ntmps - vs.toArray.size) undef).getD t undef = v := by
          have hlt := (List.getElem?_eq_some_iff.1 h4).1
          rw [Array.getD_eq_getD_getElem?, Array.getElem?_append_left (by simpa using hlt), List.getElem?_toArray, h4]
          rfl
        show SA.is _ _ _ s _
        rw [hv]
        exact h5.go gg fun _ _ => rfl
      · intro w' _
        refine ⟨?_, fun _ _ => rfl⟩
        rw [Array.getD_eq_getD_getElem?, Array.getElem?_eq_none (by simp; omega)]
        rfl
    · intro k b hb'
      cases k with
      | b i =>
        by_cases e6 : i = 1000000
        · subst e6
          rw [show σ (.b 1000000) = _ from kK] at hb'
          cases pl <;> cases hb'
        · rw [kb i e6] at hb'
          exact hown b (look_ptrs t2 hb')
      | s t =>
        cases e : σ (.s t) with
        | av av =>
          rw [e] at hb'
          rcases kl t av e with ⟨s, h1, rfl⟩ | ⟨rfl, rfl⟩
          · exact hown b (memN_iff.1 (List.all_eq_true.1 t1 b (List.mem_flatMap.2 ⟨s, List.mem_of_getElem? h1, hb'⟩)))
          · exact hown b hb'
        | no => rw [e] at hb'; cases hb'
        | blk T ch =>
          exfalso
          have hm : (Key.s t, XV.blk T ch) ∈ initSt 0 args ++ (bl ++ (LKs, lkX (bK bl) ρ hne) :: kpE pl bl') := lookD_mem (by rw [← hσ]; exact e) (by simp)
          rcases List.mem_append.1 hm with q | q
          · obtain ⟨_, _, _, _, q2⟩ := init_at args 0 _ _ q; cases q2
          · rcases List.mem_append.1 q with q | q
            · obtain ⟨i, q2⟩ := o1 _ (List.mem_map.2 ⟨_, q, rfl⟩); cases q2
            · rcases List.mem_cons.1 q with q | q
              · injection q with _ q2; cases q2
              · cases pl
                · have := List.mem_singleton.1 q; injection this with _ q2; cases q2
                · cases q
        | row T k l => rw [e] at hb'; cases hb'
        | dead => rw [e] at hb'; cases hb'
        | np l => rw [e] at hb'; cases hb'
    · have h6 := k6 i (live_blk hi)
      rw [kb i h6] at hi
      exact (hbk.blk hi).1
  have hCV := h cx ρ (by rw [x1, x3]; exact hW) (by rw [x3]; exact fun b ⟨i, hi, e⟩ => ⟨i, live_bK hi, hi, e⟩)
  rw [hσ] at hstart
  refine calls_of_wp hf hb (wp_mono (hCV.run _ w hstart) ?_)
  rintro e a' w' ⟨l', ⟨ρ'', hC⟩, he, hlk, hbo, hnp, hres⟩
  obtain ⟨v, h1, h2⟩ := hres ρ'' a' w' hC
  have hlink : ∀ i, i ∈ bK bl → ρ'' i = ρ i := (hC.slt 1000000 _ hlk w' (Agree.refl _ _)).2
  obtain ⟨ρ', hρ'⟩ : ∃ ρ' : Rho, ρ' = fun i => if i ∈ nw then ρ'' i else ρ i := ⟨_, rfl⟩
  have hr1 : ∀ i, i ∉ nw → ρ' i = ρ i := fun i hi => by rw [hρ']; simp [hi]
  have hr2 : ∀ i, i ∈ bK bl' → ρ' i = ρ'' i := by
    intro i hi
    by_cases e : i ∈ nw
    · rw [hρ']; simp [e]
    · rw [hr1 i e]
      have := List.all_eq_true.1 c2 i hi
      rw [Bool.and_eq_true, Bool.or_eq_true] at this
      rcases this.1 with q | q
      · exact (hlink i (memN_iff.1 q)).symm
      · exact absurd (memN_iff.1 q) e
  have lb : ∀ i, live (lookD .no bl') ρ' i → live (lookD .no bl') ρ'' i ∧ live (lookD .no l') ρ'' i := by
    intro i hi
    have e := hr2 i (live_bK hi)
    have e2 : live (lookD .no bl') ρ'' i := (live_same rfl e.symm).2 hi
    exact ⟨e2, (live_same (hbo.live e2) rfl).2 e2⟩
  have hLL : ∀ b, (L b ∨ ∃ i, live (lookD .no bl') ρ' i ∧ (ρ' i).1 = b) → Lof cx (lookD .no l') ρ'' b := by
    rintro b (q | ⟨i, q1, q2⟩)
    · exact .inl (by rw [x2]; exact q)
    · exact .inr ⟨i, (lb i q1).2, by rw [← hr2 i (live_bK q1)]; exact q2⟩
  have g2 : Goes (Lof cx (lookD .no l') ρ'') w' (fun b => L b ∨ ∃ i, live (lookD .no bl') ρ' i ∧ (ρ' i).1 = b) w' := Goes.less hLL
  have hkept : Kept w.heap.size (fun b => ∃ i, live (lookD .no bl) ρ i ∧ (ρ i).1 = b) w w' := by
    have := hC.kept
    rw [x1, x3] at this
    exact this
  have hBk : BkIs (fun b => L b ∨ ∃ i, live (lookD .no bl') ρ' i ∧ (ρ' i).1 = b) ρ' w' pl bl' := by
    have key : ∀ m : Sg D, BlOkL (lookD .no l') m → (∀ k ∈ keys m, ∃ i, k = .b i) → (∀ p ∈ m, (∃ T ch, p.2 = .blk T ch) ∨ (∃ T k l, p.2 = .row T k l) ∨ p.2 = .dead) → (∀ i, i ∈ bK m → ρ' i = ρ'' i) → (∀ p ∈ m, ∀ b ∈ p.2.ptrs, ρ' b = ρ'' b) → BkIs (fun b => L b ∨ ∃ i, live (lookD .no bl') ρ' i ∧ (ρ' i).1 = b) ρ' w' pl m := by
      intro m
      induction m with
      | nil => intro _ _ _ _ _; trivial
      | cons p m ih =>
        intro q1 q2 q3 q4 q5
        obtain ⟨k, x⟩ := p
        obtain ⟨i, rfl⟩ := q2 k (by simp [keys])
        have ih' : BlOkL (lookD .no l') m → BkIs (fun b => L b ∨ ∃ i, live (lookD .no bl') ρ' i ∧ (ρ' i).1 = b) ρ' w' pl m := fun z => ih z (fun k hk => q2 k (by simp only [keys, List.map_cons, List.mem_cons]; exact .inr hk)) (fun p hp => q3 p (List.mem_cons_of_mem _ hp)) (fun j hj => q4 j (List.mem_cons_of_mem _ hj)) (fun p hp => q5 p (List.mem_cons_of_mem _ hp))
        have hi := q4 i List.mem_cons_self
        rcases q3 _ List.mem_cons_self with ⟨T, ch, e⟩ | ⟨T, k, l, e⟩ | e
        · have e : x = _ := e
          subst e
          obtain ⟨cs, g3, g4⟩ := hC.blk i T ch q1.1
          exact ⟨⟨hC.pln i T ch q1.1, cs, by rw [hi]; exact g3, g4.go g2 fun b hb => q5 _ List.mem_cons_self b hb⟩, ih' q1.2⟩
        · have e : x = _ := e
          subst e
          have hrow := hC.row i T k l q1.1
          exact ⟨(hrow.go (pl' := pl = true) g2 hi (fun _ => rfl) fun hp => by rw [hnp hp]; simp), ih' q1.2⟩
        · have e : x = _ := e
          subst e
          exact ih' q1
    exact key bl' hbo o3 o4 hr2 fun p hp b hb => hr2 b (memN_iff.1 (List.all_eq_true.1 (List.all_eq_true.1 c4 p hp) b hb))
  have hfin : ∃ u, (results fn a'.tmps).run P w' = .ok u w' ∧ ∃ v ρ', Ending.returned u = .returned v ∧ (∀ i, i ∉ nw → ρ' i = ρ i) ∧ Kept w.heap.size (fun b => ∃ i, live (lookD .no bl) ρ i ∧ (ρ i).1 = b) w w' ∧
      r.is (fun b => L b ∨ ∃ i, live (lookD .no bl') ρ' i ∧ (ρ' i).1 = b) ρ' w' v ∧ BkIs (fun b => L b ∨ ∃ i, live (lookD .no bl') ρ' i ∧ (ρ' i).1 = b) ρ' w' pl bl' ∧
      (∀ i, live (lookD .no bl') ρ' i → w.heap.size ≤ (ρ' i).1 ∨ ∃ j, live (lookD .no bl) ρ j ∧ (ρ j).1 = (ρ' i).1) ∧ (∀ i j, live (lookD .no bl') ρ' i → live (lookD .no bl') ρ' j → (ρ' i).1 = (ρ' j).1 → i = j) := by
    refine ⟨v, h1, v, ρ', rfl, hr1, hkept, h2.go g2 fun b hb => hr2 b (memN_iff.1 (List.all_eq_true.1 c5 b hb)), hBk, fun i hi => ?_, fun i j hi hj he => ?_⟩
    · have := hC.mine i (lb i hi).2
      rw [x1, x3] at this
      rw [hr2 i (live_bK hi)]
      exact this
    · rw [hr2 i (live_bK hi), hr2 j (live_bK hj)] at he
      exact hC.inj i j (lb i hi).2 (lb j hj).2 he
  rcases he with rfl | rfl
  · exact ⟨hC.defers, hfin⟩
  · exact ⟨hC.defers, hfin⟩
end
end Vc
end Go.Proofs.YthadfilandmhiaaDoor

namespace Go.Proofs.YthadfilandmhiaaDoor
open Go.RowKit
open Go.Lib (hid)
open Dg Zn
namespace Vc
set_option linter.unusedSectionVars false

section
variable {D : Type} [Dom D] {P : Program} {cx : Cx D} {n : Nat} {σ : St D} {o : Oper} {d t : Nat}
/-- What is said of such a value hangs on no memory. -/
def Free (r : AV D) : Prop := ∀ L L' ρ w v, r.is L ρ w v → r.is L' ρ w v
theorem ok_callV {f : FuncId} {fn : Func} {args : Array Operand} {tys : Array TypeId} {sas : List (SA D)} {r : AV D} (hcon : Con P f sas r) (hfree : Free r) (hwf : ∀ w', Kept cx.w0.heap.size cx.Bw cx.w0 w' → Dom.W D w') (ho : o.op = .call ⟨.value (.func f), args, tys⟩) (hd : o.dst = some d) (hn : d < n)
    (hf : P.funcs[f]? = some fn) (hname : (fn.name == "runtime.NumGoroutine") = false) (hb : fn.body.isSome = true) (hargs : ArgsOk σ args.toList sas) (hr : r.ptrs = []) :
    OpOk P cx n σ o (args.toList.flatMap opk) [(.s d, .av r)] := by
  intro σ' a w Q ⟨ρ, h⟩ h1 _ K hK
  unfold Oper.wp
  rw [call_run (d := d) ho hf hname hb, Oper.upon_enter]
  refine (hcon (fun _ => False) ρ w _ (fun _ q => q.elim) (fun _ q => q.elim) (hwf w h.kept) ((hargs.is h h1).go (Goes.less fun _ q => q.elim) fun _ _ => rfl)).mono ?_
  rintro e w' ⟨v, rfl, hbel, hv⟩
  show K (a.put o.dst v) w'
  rw [hd]
  exact hK _ _ ⟨ρ, h.put hbel hn (hfree _ _ _ _ _ hv) (by rw [hr]; intro b hb; cases hb)⟩
def isBk : XV D → Bool
  | .blk _ _ => true
  | _ => false
/-- A variable of the call's own is none of the caller's. -/
theorem nb_E {bl : Sg D} {ks : List Nat} {ρ0 : Rho} {hne : ks ≠ []} {l0 : Sg D} {r : Nat} (hBw : ∀ b, cx.Bw b → ∃ i, i ∈ ks ∧ live (lookD .no bl) ρ0 i ∧ (ρ0 i).1 = b) (hlk : lookD .no l0 LKs = lkX ks ρ0 hne) (hks : (ks.all fun i => isBk (lookD .no l0 (.b i)) && !Nat.beq i r) = true) (hr : isBk (lookD .no l0 (.b r)) = true) :
    ∀ ρ a w, Conc cx n ρ (lookD .no l0) a w → ¬ cx.Bw (ρ r).1 := by
  intro ρ a w h hB
  obtain ⟨i, hi, _, he⟩ := hBw _ hB
  have hl : ρ i = ρ0 i := (h.slt 1000000 _ hlk w (Agree.refl _ _)).2 i hi
  have := List.all_eq_true.1 hks i hi
  rw [Bool.and_eq_true] at this
  have key : ∀ j, isBk (lookD .no l0 (.b j)) = true → live (lookD .no l0) ρ j := by
    intro j hj
    cases e : lookD .no l0 (.b j) with
    | blk T ch => exact live_blk e
    | no => rw [e] at hj; cases hj
    | av x => rw [e] at hj; cases hj
    | row T k l => rw [e] at hj; cases hj
    | dead => rw [e] at hj; cases hj
    | np l => rw [e] at hj; cases hj
  have e := h.inj i r (key i this.1) (key r hr) (by rw [hl]; exact he)
  subst e
  exact absurd this.2 (by simp)
theorem finE1 {fn : Func} {rv : ResultVar} {s : SA D} {r : AV D} {bl' : Sg D} {pl : Bool} {x : XV D} {e : Exit} {l : Sg D} (hres : fn.results = #[rv]) (he : e = .normal ∨ e = .ret) (hlk : lookD .no l LKs = x) (hbo : BlOkL (lookD .no l) bl') (hnp : pl = true → npL (lookD .no l KP) = []) (hr : RvIs P (lookD .no l) s rv) (hc : ∀ L ρ w v, s.is L ρ w v → r.is L ρ w v) : FinE P cx n fn r bl' pl x e l :=
  ⟨he, hlk, hbo, hnp, (fin1 (P := P) (cx := cx) (n := n) hres he hr hc).2⟩
theorem finE0 {fn : Func} {bl' : Sg D} {pl : Bool} {x : XV D} {e : Exit} {l : Sg D} (hres : fn.results = #[]) (he : e = .normal ∨ e = .ret) (hlk : lookD .no l LKs = x) (hbo : BlOkL (lookD .no l) bl') (hnp : pl = true → npL (lookD .no l KP) = []) : FinE P cx n fn (.tup []) bl' pl x e l :=
  ⟨he, hlk, hbo, hnp, fun ρ a w _ => ⟨.tuple #[], by simp [results, hres], [], rfl, trivial⟩⟩
end
section
variable {P : Program} {cx : Cx Dm} {n : Nat}
/-- A variable that holds data and is written no more. -/
theorem CV.freezeE {c : Code} {K : Exit → Sg Dm → Prop} {r t : Nat} {T : TypeId} {k : Option Nat} {s : SA Dm} {l0 : Sg Dm} (hB : ∀ ρ a w, Conc cx n ρ (lookD .no l0) a w → ¬ cx.Bw (ρ r).1) (hr : lookD .no l0 (.b r) = .blk T [(k, s)]) (ht : lookD .no l0 (.s t) = .av (.one (.ptr r 0))) (hp : s.ptrs = []) (hrK : Nat.beq r 1000000 = false)
    (h : CV P cx n c ((.s t, .av (.one (.d (Dm.gen (pG k s))))) :: (.b r, .dead) :: l0) K) : CV P cx n c l0 K := by
  refine ⟨fun a w ⟨ρ, hC⟩ => h.run a w ⟨ρ, ?_⟩⟩
  have hB' := hB ρ a w hC
  obtain ⟨σ, hσ⟩ : ∃ σ, σ = lookD .no l0 := ⟨_, rfl⟩
  rw [← hσ] at hr ht hC
  obtain ⟨σ', hσ'⟩ : ∃ σ', σ' = upd σ [(.s t, .av (.one (.d (Dm.gen (pG k s))))), (.b r, .dead)] := ⟨_, rfl⟩
  have e0 : lookD .no ((.s t, .av (.one (.d (Dm.gen (pG k s))))) :: (.b r, .dead) :: l0) = σ' := by rw [hσ', hσ, upd_look]; rfl
  rw [e0]
  have k1 : σ' (.s t) = .av (.one (.d (Dm.gen (pG k s)))) := by rw [hσ']; exact upd2_s
  have k2 : σ' (.b r) = .dead := by rw [hσ']; exact upd2_b
  have k3 : ∀ k, k ≠ .s t → k ≠ .b r → σ' k = σ k := fun k h1 h2 => by rw [hσ']; exact upd2_ne h1 h2
  have hrK1 : r ≠ 1000000 := fun e => by subst e; cases hrK
  have hKP : σ' KP = σ KP := k3 _ (by simp [KP]) (by simp [KP]; omega)
  have hrl : ∀ j, live σ' ρ j → live σ ρ j ∧ j ≠ r := by
    intro j hj
    have e : j ≠ r := by
      rintro rfl
      rcases live_some hj with ⟨T, ch, e⟩ | ⟨T, k, l, e, _⟩ <;> rw [k2] at e <;> cases e
    exact ⟨(live_same (k3 _ (by simp) (by simpa using e)) rfl).1 hj, e⟩
  have hev : a.tmps.getD t undef = .pointer (some ⟨(ρ r).1, 0, none⟩) := hC.slt t _ ht
  have hlv : live σ ρ r := live_blk hr
  refine hC.step (fun _ => False) (fun k => k = .s t ∨ k = .b r) hC.size hC.defers rfl rfl rfl (Nat.le_refl _) (fun _ _ _ => rfl) (fun _ q => q.elim)
    (fun k hk => k3 k (fun q => hk (.inl q)) (fun q => hk (.inr q))) (fun _ _ => rfl) (fun _ _ q => q.elim) (fun b _ q => ?_) ?_ ?_ ?_ (fun i _ q => by rw [hKP] at q; exact q) (fun i j hi hj => hC.inj i j (hrl i hi).1 (hrl j hj).1) ?_ (fun _ _ => rfl) ?_ ?_
  · rcases q with q | ⟨j, q1, q2⟩
    · exact .inl q
    · exact .inr ⟨j, (hrl j q1).1, q2⟩
  · rintro i (q | q) hi
    · cases q
    · injection q with q; subst q; exact absurd rfl (hrl _ hi).2
  · rintro i T1 ch (q | q) hi
    · cases q
    · injection q with q; subst q; rw [k2] at hi; cases hi
  · rintro i T1 k1 l1 (q | q) hi
    · cases q
    · injection q with q; subst q; rw [k2] at hi; cases hi
  · rintro t1 av (q | q) ht1
    · injection q with q
      subst q
      rw [k1] at ht1
      obtain rfl := (XV.av.injEq _ _).mp ht1
      rw [hev]
      intro w' hag
      obtain ⟨cs, g1, p, q, v, rfl, g3, g4, g5⟩ := hC.blk r T _ hr
      obtain rfl : q = [] := g5
      rw [List.append_nil] at g1
      have hnL : ¬ Lof cx σ' ρ (ρ r).1 := by
        rintro (q | ⟨j, q1, q2⟩)
        · rcases hC.mine r hlv with m | m
          · have := cx.lt _ q; omega
          · exact hB' m
        · obtain ⟨q3, q4⟩ := hrl j q1
          exact q4 (hC.inj j r q3 hlv q2)
      have g6 : w'.heap[(ρ r).1]? = some (.cells p.toArray T (0, 0)) := (hag.2 _ (hC.lt hlv) hnL).trans g1
      refine ⟨(ρ r).1, 0, v, rfl, p, g3, SA.is_at g4 hp ⟨hag.1, fun b hb hn => hag.2 b hb fun q => hn ?_⟩, fun j c hj => ?_⟩
      · rcases q with q | ⟨j, q1, q2⟩
        · exact .inl q
        · exact .inr ⟨j, (hrl j q1).1, q2⟩
      · rw [Nat.zero_add, cell_of_row w' _ _ _ T _ g6, List.getElem?_toArray]
        exact hj
    · cases q
  · rintro k b (q | q) hb'
    · subst q; rw [k1] at hb'; cases hb'
    · subst q; rw [k2] at hb'; cases hb'
  · intro i hi
    by_cases e : i = r
    · rw [e, k2]; simp
    · rw [k3 _ (by simp) (by simpa using e)]; exact hi
end
end Vc
end Go.Proofs.YthadfilandmhiaaDoor
