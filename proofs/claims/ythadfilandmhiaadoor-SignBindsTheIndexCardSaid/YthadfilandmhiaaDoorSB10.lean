/-
  Rows of one's own: literals, nothing, what is appended and frozen at once, cut rows.
  Rows that may hold numbers; calls that return a new row.
-/
import Derived.Test.YthadfilandmhiaaDoorSB8
import Derived.Great.BuildSlice
import Derived.Great.FillDense
set_option linter.unusedVariables false
set_option linter.unusedSimpArgs false
set_option linter.unusedSectionVars false
namespace Go.Proofs.YthadfilandmhiaaDoor
open Go.RowKit
namespace Vc
section
variable {D : Type} [Dom D] {P : Program} {cx : Cx D} {n : Nat} {σ : St D} {o : Oper}

/-! Literals. -/
theorem isAll_cells {L : Nat → Prop} {ρ : Rho} {w : World} {k : Option Nat} : ∀ {ss : List (SA D)} {vs : List Value}, (∀ s ∈ ss, s.kind = some k) → isAll L ρ w ss vs → Chs L ρ w (rch k ss) (vs.flatMap fun v => v.cells.toList) ∧ ∀ v ∈ vs, v.cells.size = k.getD 1
  | [], [], _, _ => ⟨rfl, fun v hv => by cases hv⟩
  | s :: ss, v :: vs, hk, h => by
    obtain ⟨cs, hcs⟩ := SA.kind_ok (hk s List.mem_cons_self) h.1
    obtain ⟨h1, h2⟩ := isAll_cells (fun x hx => hk x (List.mem_cons_of_mem _ hx)) h.2
    refine ⟨⟨cs, _, v, by rw [List.flatMap_cons, hcs.cells], hcs, h.1, h1⟩, fun u hu => ?_⟩
    rcases List.mem_cons.1 hu with e | e
    · rw [e, hcs.cells]; simpa using hcs.length
    · exact h2 u e
theorem ArgsOk.same {σ' : St D} : ∀ {xs : List Operand} {ss : List (SA D)}, ArgsOk σ xs ss → (∀ k ∈ xs.flatMap opk, σ' k = σ k) → ArgsOk σ' xs ss
  | [], [], _, _ => trivial
  | x :: xs, s :: ss, ⟨⟨s0, q1, q2⟩, q3⟩, h => ⟨⟨s0, (opd_same fun k hk' => h k (by simp only [List.flatMap_cons, List.mem_append]; exact .inl hk')).trans q1, q2⟩, ArgsOk.same q3 fun k hk' => h k (by simp only [List.flatMap_cons, List.mem_append]; exact .inr hk')⟩
theorem lit_run {ρ : Rho} {a : Act} {w : World} {ty e : TypeId} {z : Value} {sz : Nat} {k : Option Nat} {xs : List Operand} {ss : List (SA D)} (h : Conc cx n ρ σ a w) (hu : P.underlying ty = some (.slice e)) (hsz : (P.info? e).map (fun i => (i.size, i.zero)) = some (sz, some z)) (hs : sz = k.getD 1) (hs0 : Nat.blt 0 sz = true) (hsm : Nat.ble (ss.length * sz) 1000 = true)
    (hk : ∀ s ∈ ss, s.kind = some k) (ho : o.op = .buildSlice ty ss.length ((xs.zipIdx 0).map fun p => (p.2, p.1)).toArray) (hargs : ArgsOk σ xs ss) :
    ∃ cs : List Value, (execOp a.eval o).run P w = .ok (.value (.slice (some ⟨w.heap.size, 0, none⟩) ss.length ss.length)) (w.alloc (.cells cs.toArray e)) ∧ Chs (Lof cx σ ρ) ρ w (rch k ss) cs := by
  have hs0 : 0 < sz := by rwa [Nat.blt_eq] at hs0
  have hsm : ss.length * sz ≤ 1000 := Nat.le_of_ble_eq_true hsm
  have hall := hargs.is h fun _ _ => rfl
  have hlen := isAll_length hall
  obtain ⟨hc, hcs⟩ := isAll_cells hk hall
  refine ⟨_, ?_, hc⟩
  cases hie : P.info? e with
  | none => rw [hie] at hsz; cases hsz
  | some ie =>
    rw [hie] at hsz
    simp only [Option.map_some, Option.some.injEq, Prod.mk.injEq] at hsz
    obtain ⟨hs1, hs2⟩ := hsz
    have hxl : xs.length = ss.length := by simpa using hlen
    by_cases hz : ss = []
    · subst hz
      obtain rfl : xs = [] := List.eq_nil_of_length_eq_zero hxl
      simp only [execOp, ho, Sem.run_bind]
      have e0 : sizeOf e = sizeOf e := rfl
      simp [Instr.buildSlice, run_underlying hu, sizeOf, typeInfo, hie, Instr.fill, newRow]
      rw [show Array.range 0 = #[] from by decide, Array.map_empty]
    · have hpos : 0 < ss.length := by cases ss with | nil => exact absurd rfl hz | cons => simp
      have hzip : (((xs.zipIdx 0).map fun p => (p.2, p.1)).toArray.map fun (p : Nat × Operand) => (p.1, a.eval p.2)).toList = (((xs.map a.eval).zipIdx 0).map fun x => (x.2, x.1)) := by
        simp [List.zipIdx_map, Function.comp_def]
      have hrun := run_buildSlice (P := P) w ty e ss.length (((xs.zipIdx 0).map fun p => (p.2, p.1)).toArray.map fun (p : Nat × Operand) => (p.1, a.eval p.2)) _ ie z hu hie hs2 (by rw [hs1]; omega) (by rw [hs1]; exact Nat.mul_ne_zero (by omega) (by omega))
        (by rw [hzip, hs1]; exact Great.fill_whole hs0 (xs.map a.eval) _ (by rw [hs]; exact hcs) (by simp [hxl]))
      unfold execOp
      simp only [ho, Sem.run_bind]
      rw [hrun]
      rfl
theorem ok_litR {d r : Nat} {ty e : TypeId} {z : Value} {sz : Nat} {k : Option Nat} {xs : List Operand} {ss : List (SA D)} (hu : P.underlying ty = some (.slice e)) (hsz : (P.info? e).map (fun i => (i.size, i.zero)) = some (sz, some z)) (hs : sz = k.getD 1) (hs0 : Nat.blt 0 sz = true) (hsm : Nat.ble (ss.length * sz) 1000 = true)
    (hk : ∀ s ∈ ss, s.kind = some k) (hp : ∀ s ∈ ss, s.plain = true) (hpt : ss.flatMap SA.ptrs = []) (ho : o.op = .buildSlice ty ss.length ((xs.zipIdx 0).map fun p => (p.2, p.1)).toArray) (hd : o.dst = some d) (hn : d < n) (hargs : ArgsOk σ xs ss) (hr : σ (.b r) = .no) (hrK : Nat.beq r 1000000 = false) :
    OpOk P cx n σ o (xs.flatMap opk) [(.s d, .av (.one (.sl r ss.length))), (.b r, .row e k ss)] := by
  intro σ' a w Q ⟨ρ, h⟩ h1 h2 K hK
  have hargs' : ArgsOk σ' xs ss := hargs.same h1
  obtain ⟨cs, hrun, hc⟩ := lit_run h hu hsz hs hs0 hsm hk ho hargs'
  unfold Oper.wp
  rw [hrun, Oper.upon_value, hd]
  refine hK _ _ (h.new (c := ss.length) ((Below.refl _ _).alloc (Nat.le_refl _) _) hn ((h2 (.b r) (by simp [keys])).trans hr) (fun e => by subst e; cases hrK) (by simp) (Nat.le_refl _) (fun ρ' hρ => ⟨some ⟨w.heap.size, 0, none⟩, by rw [hρ], fun _ => by rw [hρ]⟩) (fun b hb => by simpa [AV.ptrs, SA.ptrs] using hb)
      (fun T ch e => by cases e) ?_ (by intro b hb; cases hb) (fun _ _ _ _ _ q => q))
  intro T1 k1 l1 e
  injection e with e1 e2 e3
  subst e1; subst e2; subst e3
  have hml : ss.length ≤ maxLen := by
    have h0 : 0 < sz := by rwa [Nat.blt_eq] at hs0
    have h1 := Nat.le_of_ble_eq_true hsm
    have h2 := Nat.le_mul_of_pos_right ss.length h0
    unfold maxLen; omega
  refine ⟨⟨Nat.le_refl _, hml, hpt⟩, fun _ => ⟨cs, [], by rw [List.append_nil]; exact RowC.mk0 (heap_alloc_new w _), hc, by rw [List.append_nil, hc.length], fun _ q hq => ?_⟩⟩
  rw [List.append_nil] at hq
  refine hc.plain ?_ q hq
  simp only [chPlain, rch, List.all_map, List.all_eq_true]
  exact fun x hx => hp x hx
/-- A literal that is not written. -/
theorem ok_litD {d : Nat} {ty e : TypeId} {z : Value} {sz : Nat} {k : Option Nat} {xs : List Operand} {ss : List (SA D)} {G : D} (hG : Lst G k ss) (hu : P.underlying ty = some (.slice e)) (hsz : (P.info? e).map (fun i => (i.size, i.zero)) = some (sz, some z)) (hs : sz = k.getD 1) (hs0 : Nat.blt 0 sz = true) (hsm : Nat.ble (ss.length * sz) 1000 = true)
    (hk : ∀ s ∈ ss, s.kind = some k) (hpt : ss.flatMap SA.ptrs = []) (ho : o.op = .buildSlice ty ss.length ((xs.zipIdx 0).map fun p => (p.2, p.1)).toArray) (hd : o.dst = some d) (hn : d < n) (hargs : ArgsOk σ xs ss) :
    OpOk P cx n σ o (xs.flatMap opk) [(.s d, .av (.one (.d G)))] := by
  intro σ' a w Q ⟨ρ, h⟩ h1 h2 K hK
  have hargs' : ArgsOk σ' xs ss := hargs.same h1
  obtain ⟨cs, hrun, hc⟩ := lit_run h hu hsz hs hs0 hsm hk ho hargs'
  unfold Oper.wp
  rw [hrun, Oper.upon_value, hd]
  refine hK _ _ ⟨ρ, h.put ((Below.refl _ _).alloc (Nat.le_refl _) _) hn ?_ (by intro b hb; cases hb)⟩
  intro w' hag
  have hb : w'.heap[w.heap.size]? = some (.cells cs.toArray e (0, 0)) := by
    rw [hag.2 w.heap.size (by simp) (fun hL => by have := h.lofLt _ hL; omega)]
    exact heap_alloc_new w _
  have hml : ss.length ≤ maxLen := by
    have h0 : 0 < sz := by rwa [Nat.blt_eq] at hs0
    have h1 := Nat.le_of_ble_eq_true hsm
    have h2 := Nat.le_mul_of_pos_right ss.length h0
    unfold maxLen; omega
  refine hG w' _ 0 _ cs (Nat.le_refl _) hml (hc.ats hpt ((Agree.below ((Below.refl _ _).alloc (Nat.le_refl _) _)).trans hag)) fun j u hj => ?_
  rw [cell_of_row w' _ _ _ e _ hb, List.getElem?_toArray, Nat.zero_add]
  exact hj

/-- No elements yet: nil becomes a row of one's own. -/
theorem put_same_act (a : Act) (t : Nat) : a.put (some t) (a.tmps.getD t undef) = a := by
  cases a with
  | mk tmps defers =>
    simp only [Act.put]
    congr 1
    apply Array.ext (by simp)
    intro i h1 h2
    rw [Array.getElem_setIfInBounds]
    split
    · rename_i h3; subst h3; rw [Array.getD_eq_getD_getElem?, Array.getElem?_eq_getElem h2]; rfl
    · rfl
theorem CV.nilrow {c : Code} {K : Exit → Sg D → Prop} {l0 : Sg D} (t r : Nat) (T : TypeId) (k : Option Nat) (ht : lookD .no l0 (.s t) = .av (.one (.v (.slice none 0 0)))) (hr : lookD .no l0 (.b r) = .no) (ht' : Nat.blt t n = true) (hrK : Nat.beq r 1000000 = false)
    (h : CV P cx n c ((.s t, .av (.one (.sl r 0))) :: (.b r, .row T k []) :: l0) K) : CV P cx n c l0 K := by
  have ht'' : t < n := by rwa [Nat.blt_eq] at ht'
  refine ⟨fun a w ⟨ρ, hC⟩ => h.run a w ?_⟩
  have hv : a.tmps.getD t undef = .slice none 0 0 := hC.slt t _ ht
  have := hC.new (d := t) (i := r) (g := w.heap.size) (c := 0) (av := .one (.sl r 0)) (x := .row T k []) (v := a.tmps.getD t undef) (Below.refl _ _) ht'' hr (fun e => by subst e; cases hrK) (by simp) (Nat.le_refl _) (fun ρ' hρ => ⟨none, by rw [hv, hρ], fun q => by rw [hρ] at q; cases q⟩) (fun b hb => by simpa [AV.ptrs, SA.ptrs] using hb)
    (fun T ch e => by cases e) (fun T1 k1 l1 e => by injection e with e1 e2 e3; subst e3; exact ⟨⟨Nat.le_refl _, by decide, rfl⟩, fun q => absurd q (by omega)⟩) (by intro b hb; cases hb) (fun _ _ _ _ _ q => q)
  rw [put_same_act, upd_look] at this
  exact this

def optI (x : Option Nat) : Option Value := x.map fun (n : Nat) => Value.int .i64 (n : Int)
end
section
variable {X : Type} {x0 : X} {C : (Key → X) → Act → World → Prop} {P : Program} {ops : Array Oper} {draw : Bool} {o : Oper} {rest : List Oper} {done : List (Stp X)} {l : List (Key × X)} {K : List (Key × X) → Prop} {rd : List Key} {q r s u : Key} {x y z v : X}
theorem RV.step3 (h : StepOk C P ops (lookD x0 l) o ⟨rd, [(q, x), (r, y), (s, z)]⟩) (k : RV x0 C P ops draw rest (⟨rd, [(q, x), (r, y), (s, z)]⟩ :: done) ((q, x) :: (r, y) :: (s, z) :: l) K) : RV x0 C P ops draw (o :: rest) done l K := ⟨_, h, k⟩
theorem RV.step4 (h : StepOk C P ops (lookD x0 l) o ⟨rd, [(q, x), (r, y), (s, z), (u, v)]⟩) (k : RV x0 C P ops draw rest (⟨rd, [(q, x), (r, y), (s, z), (u, v)]⟩ :: done) ((q, x) :: (r, y) :: (s, z) :: (u, v) :: l) K) : RV x0 C P ops draw (o :: rest) done l K := ⟨_, h, k⟩
end
section
variable {D : Type} [Dom D] {P : Program} {cx : Cx D} {n : Nat} {σ : St D} {o : Oper}

/-- The list of those rows that may hold numbers changes. -/
theorem Conc.kp {ρ : Rho} {a : Act} {w : World} {q : XV D} (h : Conc cx n ρ σ a w) (h0 : kpB (σ KP) = true) (hq : kpB q = true) (hno : σ KP ≠ .no → q ≠ .no) (hnp : ∀ i T k l, σ (.b i) = .row T k l → i ∉ npL q → i ∉ npL (σ KP)) : Conc cx n ρ (upd σ [(KP, q)]) a w := by
  obtain ⟨q0, qb, qr⟩ := kpB_ok hq
  obtain ⟨_, sb, sr⟩ := kpB_ok h0
  have k1 : upd σ [(KP, q)] KP = q := upd1
  have k3 : ∀ k, k ≠ KP → upd σ [(KP, q)] k = σ k := fun k hk => upd1_ne hk
  obtain ⟨σ', hσ⟩ : ∃ σ', σ' = upd σ [(KP, q)] := ⟨_, rfl⟩
  rw [← hσ] at k1 k3 ⊢
  have hlive : ∀ j, live σ' ρ j ↔ live σ ρ j := by
    intro j
    by_cases e : j = 1000000
    · subst e
      constructor
      · intro hl
        rcases live_some hl with ⟨T, ch, e⟩ | ⟨T, k, l, e, _⟩
        · exact absurd (k1.symm.trans e) (qb T ch)
        · exact absurd (k1.symm.trans e) (qr T k l)
      · intro hl
        rcases live_some hl with ⟨T, ch, e⟩ | ⟨T, k, l, e, _⟩
        · exact absurd e (sb T ch)
        · exact absurd e (sr T k l)
    · exact live_same (k3 _ (by simpa [KP] using e)) rfl
  have hL : Lof cx σ' ρ = Lof cx σ ρ := by unfold Lof; simp only [hlive]
  refine ⟨h.size, h.defers, h.kept, fun i hi => h.mine i ((hlive i).1 hi), fun i T ch hi => ?_, fun i T k l hi => ?_, fun i j hi hj => h.inj i j ((hlive i).1 hi) ((hlive j).1 hj), fun t av ht => ?_, fun k b hb => ?_, fun i T ch hi => ?_⟩
  · rw [hL]
    by_cases e : Key.b i = KP
    · rw [e, k1] at hi; exact absurd hi (qb _ _)
    · rw [k3 _ e] at hi; exact h.blk i T ch hi
  · rw [hL, k1]
    by_cases e : Key.b i = KP
    · rw [e, k1] at hi; exact absurd hi (qr _ _ _)
    · rw [k3 _ e] at hi
      exact (h.row i T k l hi).go (Goes.refl _ _) rfl (fun _ => rfl) (hnp i T k l hi)
  · rw [hL]
    rw [k3 _ (by simp [KP])] at ht
    exact h.slt t av ht
  · have hb' : σ (.b b) ≠ .no := by
      by_cases e : k = KP
      · subst e; rw [k1, q0] at hb; cases hb
      · rw [k3 _ e] at hb; exact h.own k b hb
    by_cases e : Key.b b = KP
    · rw [e, k1]; rw [e] at hb'; exact hno hb'
    · rw [k3 _ e]; exact hb'
  · by_cases e : Key.b i = KP
    · rw [e, k1] at hi; exact absurd hi (qb _ _)
    · rw [k3 _ e] at hi; exact h.pln i T ch hi

theorem ok_appendN {d t r r' m by_ : Nat} {y : Operand} {ty e : TypeId} {z : Value} {k : Option Nat} {sz : Nat} {s : SA D} {l xs : List (SA D)} (hE : Elems s k xs) (hlen : (l.length + xs.length) * by_ ≤ 140737488355328) (hle : l.length + xs.length ≤ 4611686018427387904)
    (hu : P.underlying ty = some (.slice e)) (hinfo : (P.info? e).map (fun i => (i.zero, i.size, i.bytes)) = some (some z, sz, by_)) (hk : (SA.v z : SA D).kind = some k) (hsz : sz = k.getD 1)
    (hm : m = l.length) (ho : o.op = .call ⟨.builtin .append, #[.tmp t, y], #[ty, ty]⟩) (hd : o.dst = some d) (hn : d < n) (ht : σ (.s t) = .av (.one (.sl r m))) (hr : σ (.b r) = .row e k l) (hr' : σ (.b r') = .no)
    (hy : opd σ y = .av (.one s)) (hkp : kpB (σ KP) = true) (hrK : Nat.beq r 1000000 = false) (hrK' : Nat.beq r' 1000000 = false) :
    OpOk P cx n σ o (KP :: .s t :: .b r :: opk y) [(.s d, .av (.one (.sl r' (m + xs.length)))), (.b r', .row e k (l ++ xs)), (.b r, .dead), (KP, .np (r' :: npL (σ KP)))] := by
  intro σ' a w Q ⟨ρ, h⟩ h1 h2 K hK
  have ht' := (h1 (.s t) (by simp)).trans ht
  have hrr := (h1 (.b r) (by simp)).trans hr
  have hKP := h1 KP (by simp)
  have hr1 := (h2 (.b r') (by simp [keys])).trans hr'
  have hy' := (opd_same (σ' := σ') (x := y) fun q hq => h1 q (by simp [hq])).trans hy
  obtain ⟨g, c, v, w', q1, q2, q3, q4, q5, q6, q7, q8, q9, q10⟩ := append_core (rty := o.type) h hE hlen hle hu hinfo hk hsz ht' hm hrr hy'
  unfold Oper.wp
  rw [append_exec ho q1, Oper.upon_value, hd]
  have hrK1 : r ≠ 1000000 := fun e => by subst e; cases hrK
  have hrK2 : r' ≠ 1000000 := fun e => by subst e; cases hrK'
  exact hK _ _ (h.grow (d := d) (m := m + xs.length) (l' := l ++ xs) (q := .np (r' :: npL (σ KP))) hrr hr1 hn hrK1 hrK2 q2 q3 q4 q5 q6 q7 q8 q9 (fun hc => by
      obtain ⟨_, cs, sp, p1, p2, p3, p5⟩ := q10 hc
      exact ⟨cs, sp, p1, p2, p3, fun q => absurd (List.mem_cons_self) q⟩) (by rw [List.flatMap_append, (h.row _ _ _ _ hrr).1.2.2, hE.2.1]; rfl) rfl (fun _ _ e => by cases e) (fun _ _ _ e => by cases e) (fun _ => by simp) (fun i _ _ hi q => hi (by rw [hKP] at q; exact List.mem_cons_of_mem _ q)))

def restB (l l' : List Nat) (r r' : Nat) : Bool := l.all fun i => Nat.beq i r || Nat.beq i r' || memN i l'
/-- Appended to a row that may hold numbers, and written no more. -/
theorem ok_appendND {d t r r' m by_ : Nat} {y : Operand} {ty e : TypeId} {z : Value} {k : Option Nat} {sz : Nat} {s : SA D} {l xs : List (SA D)} {G : D} (q : List Nat) (hB : ∀ b, ¬ cx.Bw b) (hE : Elems s k xs) (hG : Lst G k (l ++ xs)) (hG0 : l ++ xs = [] → Lst0 G) (hlen : (l.length + xs.length) * by_ ≤ 140737488355328) (hle : l.length + xs.length ≤ 4611686018427387904)
    (hu : P.underlying ty = some (.slice e)) (hinfo : (P.info? e).map (fun i => (i.zero, i.size, i.bytes)) = some (some z, sz, by_)) (hk : (SA.v z : SA D).kind = some k) (hsz : sz = k.getD 1)
    (hm : m = l.length) (ho : o.op = .call ⟨.builtin .append, #[.tmp t, y], #[ty, ty]⟩) (hd : o.dst = some d) (hn : d < n) (ht : σ (.s t) = .av (.one (.sl r m))) (hr : σ (.b r) = .row e k l) (hr' : σ (.b r') = .no)
    (hy : opd σ y = .av (.one s)) (hkp : kpB (σ KP) = true) (hrest : restB (npL (σ KP)) q r r' = true) (hrK : Nat.beq r 1000000 = false) (hrK' : Nat.beq r' 1000000 = false) :
    OpOk P cx n σ o (KP :: .s t :: .b r :: opk y) [(.s d, .av (.one (.d G))), (.b r', .dead), (.b r, .dead), (KP, .np q)] := by
  intro σ' a w Q ⟨ρ, h⟩ h1 h2 K hK
  have ht' := (h1 (.s t) (by simp)).trans ht
  have hrr := (h1 (.b r) (by simp)).trans hr
  have hKP := h1 KP (by simp)
  have hr1 := (h2 (.b r') (by simp [keys])).trans hr'
  have hy' := (opd_same (σ' := σ') (x := y) fun q hq => h1 q (by simp [hq])).trans hy
  obtain ⟨g, c, v, w', q1, q2, q3, q4, q5, q6, q7, q8, q9, q10⟩ := append_core (rty := o.type) h hE hlen hle hu hinfo hk hsz ht' hm hrr hy'
  unfold Oper.wp
  rw [append_exec ho q1, Oper.upon_value, hd]
  have hrK1 : r ≠ 1000000 := fun e => by subst e; cases hrK
  have hrK2 : r' ≠ 1000000 := fun e => by subst e; cases hrK'
  have hg := h.grow (d := d) (m := m + xs.length) (l' := l ++ xs) (q := .np (r' :: npL (σ' KP))) hrr hr1 hn hrK1 hrK2 q2 q3 q4 q5 q6 q7 q8 q9 (fun hc => by
      obtain ⟨_, cs, sp, p1, p2, p3, p5⟩ := q10 hc
      exact ⟨cs, sp, p1, p2, p3, fun q => absurd (List.mem_cons_self) q⟩) (by rw [List.flatMap_append, (h.row _ _ _ _ hrr).1.2.2, hE.2.1]; rfl) rfl (fun _ _ e => by cases e) (fun _ _ _ e => by cases e) (fun _ => by simp) (fun i _ _ hi q => hi (List.mem_cons_of_mem _ q))
  obtain ⟨ρ1, hc1⟩ := hg
  obtain ⟨σ1, hσ1⟩ : ∃ σ1, σ1 = upd σ' [(.s d, .av (.one (.sl r' (m + xs.length)))), (.b r', .row e k (l ++ xs)), (.b r, .dead), (KP, .np (r' :: npL (σ' KP)))] := ⟨_, rfl⟩
  rw [← hσ1] at hc1
  have hne0 : r' ≠ r := fun q => by rw [q, hrr] at hr1; cases hr1
  have k2 : σ1 (.b r') = .row e k (l ++ xs) := by rw [hσ1]; show (bif Key.beq (.b r') (.b r') then _ else _) = _; rw [Key.beq_self]; rfl
  have k1 : σ1 (.s d) = .av (.one (.sl r' (m + xs.length))) := by rw [hσ1]; show (bif Key.beq (.s d) (.s d) then _ else _) = _; rw [Key.beq_self]; rfl
  have k5 : σ1 KP = .np (r' :: npL (σ' KP)) := by
    rw [hσ1]
    show (bif Key.beq (.b r') KP then _ else bif Key.beq (.b r) KP then _ else bif Key.beq KP KP then _ else _) = _
    rw [Key.beq_ne (by simpa [KP] using hrK2), Key.beq_ne (by simpa [KP] using hrK1), Key.beq_self]; rfl
  have hv : ∀ w'', Agree (Lof cx (upd σ1 [(.s d, .av (.one (.d G))), (.b r', .dead)]) ρ1) w' w'' → Dom.dat G w'' v := by
    intro w'' hag
    obtain ⟨a0, e1, e2⟩ := hc1.slt d _ k1
    rw [Pu.put_same _ _ _ (by rw [h.size]; exact hn)] at e1
    rw [e1, show m + xs.length = (l ++ xs).length by rw [List.length_append, hm]]
    by_cases hc : 0 < (ρ1 r').2
    · rw [e2 hc]
      obtain ⟨cs, sp, g1, g2⟩ := hc1.stays k2 hB hag hc
      refine hG w'' _ 0 _ cs (hc1.row r' e k _ k2).1.1 (hc1.row r' e k _ k2).1.2.1 g2 fun j u hj => ?_
      rw [g1.cell, Nat.zero_add, List.getElem?_append_left (List.getElem?_eq_some_iff.1 hj).1]
      exact hj
    · have h0 := (hc1.row r' e k _ k2).1.1
      have hl0 : l ++ xs = [] := List.eq_nil_of_length_eq_zero (by omega)
      rw [show (ρ1 r').2 = 0 by omega, hl0]
      exact hG0 hl0 w'' a0
  have hf := hc1.froze (d := d) (G := G) (v := v) (w' := w') k2 hn hrK2 (Below.refl _ _) hv
  have ea : (a.put (some d) v).put (some d) v = a.put (some d) v := by simp [Act.put]
  rw [ea] at hf
  obtain ⟨σ2, hσ2⟩ : ∃ σ2, σ2 = upd σ1 [(.s d, .av (.one (.d G))), (.b r', .dead)] := ⟨_, rfl⟩
  rw [← hσ2] at hf
  have h2b : ∀ i, i ≠ r' → σ2 (.b i) = σ1 (.b i) := fun i hi => by rw [hσ2]; exact upd2_ne (by simp) (by simpa using hi)
  have h2r' : σ2 (.b r') = .dead := by rw [hσ2]; exact upd2_b
  have h2r : σ2 (.b r) = .dead := by
    rw [h2b r (fun e => hne0 e.symm), hσ1]
    show (bif Key.beq (.b r') (.b r) then _ else bif Key.beq (.b r) (.b r) then _ else _) = _
    rw [Key.beq_ne (by simpa using hne0), Key.beq_self]; rfl
  have h2K : σ2 KP = .np (r' :: npL (σ' KP)) := (h2b 1000000 (fun e => hrK2 e.symm)).trans k5
  have hk := hf.kp (q := .np q) (by rw [h2K]; rfl) rfl (fun _ => by simp) (fun i T k l hi hiq => ?_)
  · have e3 : upd σ2 [(KP, .np q)] = upd σ' [(.s d, .av (.one (.d G))), (.b r', .dead), (.b r, .dead), (KP, .np q)] := by
      funext p
      rw [hσ2, hσ1]
      show (bif Key.beq KP p then _ else bif Key.beq (.s d) p then _ else bif Key.beq (.b r') p then _ else bif Key.beq (.s d) p then _ else bif Key.beq (.b r') p then _ else bif Key.beq (.b r) p then _ else bif Key.beq KP p then _ else _) = (bif Key.beq (.s d) p then _ else bif Key.beq (.b r') p then _ else bif Key.beq (.b r) p then _ else bif Key.beq KP p then _ else _)
      cases hKp : Key.beq KP p with
      | true =>
        obtain rfl := Key.beq_iff.1 hKp
        rw [show Key.beq (.s d) KP = false from rfl, Key.beq_ne (a := .b r') (by simpa [KP] using hrK2), Key.beq_ne (a := .b r) (by simpa [KP] using hrK1)]
        rfl
      | false => cases Key.beq (.s d) p <;> cases Key.beq (.b r') p <;> rfl
    rw [e3] at hk
    exact hK _ _ ⟨ρ1, hk⟩
  · rw [h2K]
    have hi1 : i ≠ r' := fun e => by rw [e, h2r'] at hi; cases hi
    have hi2 : i ≠ r := fun e => by rw [e, h2r] at hi; cases hi
    intro hm'
    rcases List.mem_cons.1 hm' with e | e
    · exact hi1 e
    · rw [hKP] at e
      have := List.all_eq_true.1 hrest i e
      rw [Bool.or_eq_true, Bool.or_eq_true, Nat.beq_eq, Nat.beq_eq, memN_iff] at this
      rcases this with (t | t) | t
      · exact hi2 t
      · exact hi1 t
      · exact hiq t

def isV : SA D → Bool
  | .v _ => true
  | _ => false
theorem Chs.vals {L L' : Nat → Prop} {ρ ρ' : Rho} {w w' : World} {k : Option Nat} : ∀ {l : List (SA D)} {cs : List Value}, (∀ s ∈ l, isV s = true) → Chs L ρ w (rch k l) cs → Chs L' ρ' w' (rch k l) cs
  | [], _, _, h => h
  | s :: l, _, hv, ⟨p, r, v, h1, h2, h3, h4⟩ => by
    refine ⟨p, r, v, h1, h2, ?_, Chs.vals (fun x hx => hv x (List.mem_cons_of_mem _ hx)) h4⟩
    have := hv s List.mem_cons_self
    cases s with
    | v x => exact h3
    | d x => cases this
    | ptr b o => cases this
    | sl b n => cases this
    | ar b n => cases this
    | lk x => cases this
omit [Dom D] in
theorem vals_ptrs {l : List (SA D)} (hv : ∀ s ∈ l, isV s = true) : l.flatMap SA.ptrs = [] := by
  rw [List.flatMap_eq_nil_iff]
  intro s hs
  have := hv s hs
  cases s with
  | v x => rfl
  | d x => cases this
  | ptr b o => cases this
  | sl b n => cases this
  | ar b n => cases this
  | lk x => cases this
/-- A contract: a new row is returned, which is the caller's own. -/
def ConRow (P : Program) (f : FuncId) (args : List (SA D)) (T : TypeId) (k : Option Nat) (l : List (SA D)) : Prop :=
  ∀ (L : Nat → Prop) (ρ : Rho) (w : World) (vs : List Value), (∀ b, L b → b < w.heap.size) → isAll L ρ w args vs →
    Calls P f vs.toArray w fun e w' => Below w.heap.size w w' ∧ ∃ a c, e = .returned (.slice a l.length c) ∧ (l.length ≤ c ∧ c ≤ maxLen) ∧ (0 < c → ∃ g, a = some ⟨g, 0, none⟩ ∧ w.heap.size ≤ g ∧ ∃ cs sp : List Value, RowC w' g (cs ++ sp) T ∧ Chs L ρ w' (rch k l) cs ∧ (cs ++ sp).length = c * k.getD 1)
theorem ok_callRow {d f r : Nat} {fn : Func} {args : Array Operand} {tys : Array TypeId} {sas : List (SA D)} {T : TypeId} {k : Option Nat} {l : List (SA D)} (hcon : ConRow P f sas T k l) (hval : ∀ s ∈ l, isV s = true) (ho : o.op = .call ⟨.value (.func f), args, tys⟩) (hd : o.dst = some d) (hn : d < n)
    (hf : P.funcs[f]? = some fn) (hname : (fn.name == "runtime.NumGoroutine") = false) (hb : fn.body.isSome = true) (hargs : ArgsOk σ args.toList sas) (hr : σ (.b r) = .no) (hkp : kpB (σ KP) = true) (hrK : Nat.beq r 1000000 = false) :
    OpOk P cx n σ o (args.toList.flatMap opk) [(.s d, .av (.one (.sl r l.length))), (.b r, .row T k l), (KP, .np (r :: npL (σ KP)))] := by
  intro σ' a w Q ⟨ρ, h⟩ h1 h2 K hK
  have hKP := h2 KP (by simp [keys])
  have hrK1 : r ≠ 1000000 := fun e => by subst e; cases hrK
  unfold Oper.wp
  rw [call_run (d := d) ho hf hname hb, Oper.upon_enter]
  refine (hcon (Lof cx σ' ρ) ρ w _ h.lofLt (hargs.is h h1)).mono ?_
  rintro e w' ⟨hbel, a0, c, rfl, hle, hcell⟩
  show K (a.put o.dst _) w'
  rw [hd]
  have hk := h.kp (q := .np (r :: npL (σ KP))) (by rw [hKP]; exact hkp) rfl (fun _ => by simp) (fun i T k l _ hi q => hi (by rw [hKP] at q; exact List.mem_cons_of_mem _ q))
  have hr0 : σ' (.b r) = .no := (h2 (.b r) (by simp [keys])).trans hr
  have hKr : Key.b r ≠ KP := by simpa [KP] using hrK1
  obtain ⟨σ1, hσ1⟩ : ∃ σ1, σ1 = upd σ' [(KP, .np (r :: npL (σ KP)))] := ⟨_, rfl⟩
  rw [← hσ1] at hk
  have hk1 : σ1 (.b r) = .no := by rw [hσ1, upd1_ne hKr]; exact hr0
  have hkK : σ1 KP = .np (r :: npL (σ KP)) := by rw [hσ1]; exact upd1
  obtain ⟨g, hg0, hga, hgc⟩ : ∃ g, w.heap.size ≤ g ∧ (0 < c → a0 = some ⟨g, 0, none⟩) ∧ (0 < c → ∃ cs sp : List Value, RowC w' g (cs ++ sp) T ∧ Chs (Lof cx σ' ρ) ρ w' (rch k l) cs ∧ (cs ++ sp).length = c * k.getD 1) := by
    by_cases hc : 0 < c
    · obtain ⟨g, q1, q2, q3⟩ := hcell hc
      exact ⟨g, q2, fun _ => q1, fun _ => q3⟩
    · exact ⟨w.heap.size, Nat.le_refl _, fun q => absurd q hc, fun q => absurd q hc⟩
  have hnew := hk.new (d := d) (i := r) (g := g) (c := c) (av := .one (.sl r l.length)) (x := .row T k l) (v := .slice a0 l.length c) hbel hn hk1 hrK1 (by simp) hg0 (fun ρ' hρ => ⟨a0, by rw [hρ], fun hc => by rw [hρ] at hc ⊢; exact hga hc⟩) (fun b hb => by simpa [AV.ptrs, SA.ptrs] using hb)
    (fun T ch e => by cases e) (fun T1 k1 l1 e => by
      injection e with e1 e2 e3
      subst e1; subst e2; subst e3
      refine ⟨⟨hle.1, hle.2, vals_ptrs hval⟩, fun hc => ?_⟩
      obtain ⟨cs, sp, q1, q2, q3⟩ := hgc hc
      exact ⟨cs, sp, q1, q2.vals hval, q3, fun q => absurd (by rw [hkK]; exact List.mem_cons_self) q⟩) (by intro b hb; cases hb) (fun _ _ _ _ _ q => q)
  have e3 : upd σ1 [(.s d, .av (.one (.sl r l.length))), (.b r, .row T k l)] = upd σ' [(.s d, .av (.one (.sl r l.length))), (.b r, .row T k l), (KP, .np (r :: npL (σ KP)))] := by
    rw [hσ1]
    rfl
  rw [e3] at hnew
  exact hK _ _ hnew
/-- .. which is not written. -/
theorem ok_callRowD {d f : Nat} {fn : Func} {args : Array Operand} {tys : Array TypeId} {sas : List (SA D)} {T : TypeId} {k : Option Nat} {l : List (SA D)} {G : D} (hcon : ConRow P f sas T k l) (hval : ∀ s ∈ l, isV s = true) (hG : Lst G k l) (hG0 : l = [] → Lst0 G) (ho : o.op = .call ⟨.value (.func f), args, tys⟩) (hd : o.dst = some d) (hn : d < n)
    (hf : P.funcs[f]? = some fn) (hname : (fn.name == "runtime.NumGoroutine") = false) (hb : fn.body.isSome = true) (hargs : ArgsOk σ args.toList sas) :
    OpOk P cx n σ o (args.toList.flatMap opk) [(.s d, .av (.one (.d G)))] := by
  intro σ' a w Q ⟨ρ, h⟩ h1 h2 K hK
  unfold Oper.wp
  rw [call_run (d := d) ho hf hname hb, Oper.upon_enter]
  refine (hcon (Lof cx σ' ρ) ρ w _ h.lofLt (hargs.is h h1)).mono ?_
  rintro e w' ⟨hbel, a0, c, rfl, hle, hcell⟩
  show K (a.put o.dst _) w'
  rw [hd]
  refine hK _ _ ⟨ρ, h.put hbel hn ?_ (by intro b hb; cases hb)⟩
  intro w'' hag
  by_cases hc : 0 < c
  · obtain ⟨g, rfl, hg, cs, sp, q1, q2, q3⟩ := hcell hc
    have hlt : g < w'.heap.size := q1.lt
    have hnL : ¬ Lof cx σ' ρ g := fun hL => by have := h.lofLt _ hL; omega
    refine hG w'' g 0 c cs hle.1 hle.2 ((q2.vals (L' := fun _ => False) (ρ' := ρ) (w' := w'') hval).ats (vals_ptrs hval) (Agree.refl _ _)) fun j u hj => ?_
    have hb2 := q1.eq (hag.2 g hlt hnL)
    rw [hb2.cell, Nat.zero_add, List.getElem?_append_left (List.getElem?_eq_some_iff.1 hj).1]
    exact hj
  · have hl0 : l = [] := List.eq_nil_of_length_eq_zero (by omega)
    rw [show c = 0 by omega, hl0]
    exact hG0 hl0 w'' a0

theorem XV.le_same {f : Nat → Nat} {x : AV D} (hp : x.ptrs = [] := by exact rfl) : (XV.av x).leR f (.av x) := XV.le_av hp fun _ _ _ _ h => h
def isRow : XV D → Bool
  | .row _ _ _ => true
  | _ => false
/-- Rows that are dead need not be listed. -/
theorem CV.kp {c : Code} {K : Exit → Sg D → Prop} {l0 : Sg D} (q : List Nat) (h0 : kpB (lookD .no l0 KP) = true) (hq : ((npL (lookD .no l0 KP)).all fun i => memN i q || !isRow (lookD .no l0 (.b i))) = true) (h : CV P cx n c ((KP, .np q) :: l0) K) : CV P cx n c l0 K := by
  refine ⟨fun a w ⟨ρ, hC⟩ => h.run a w ⟨ρ, ?_⟩⟩
  have := hC.kp (q := .np q) h0 rfl (fun _ => by simp) (fun i T k l hi hn hm => by
    have := List.all_eq_true.1 hq i hm
    rw [Bool.or_eq_true, memN_iff, hi] at this
    rcases this with t | t
    · exact hn t
    · cases t)
  rw [upd_look] at this
  exact this
end
end Vc
end Go.Proofs.YthadfilandmhiaaDoor
