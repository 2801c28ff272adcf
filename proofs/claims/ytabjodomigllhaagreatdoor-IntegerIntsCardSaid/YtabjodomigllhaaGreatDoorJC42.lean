/-
  Rows of numbers that are made and appended to, within one region.
-/
import Derived.Test.YtabjodomigllhaaGreatDoorJC41
namespace Go.Proofs.YtabjodomigllhaaGreatDoor
open Go.RowKit
open Go.Lib (hid)
open Dg Zn
namespace Vc

section
variable {D : Type} [Dom D]
/-- From some open rows to others. -/
theorem Conc.shift {c : Cx0 D} {X X' : Nat → Prop} {R R' : World → Prop} {st : ∀ w w' : World, (∀ b, X b → w'.heap[b]? = w.heap[b]?) → R w → R w'} {st' : ∀ w w' : World, (∀ b, X' b → w'.heap[b]? = w.heap[b]?) → R' w → R' w'}
    {n : Nat} {ρ : Nat → Nat} {σ : St D} {a : Act} {w w' : World} {v : Value} {av : AV D} {d : Nat} (h : Conc ⟨c, X, R, st⟩ n ρ σ a w) (hg : World.grownBy w w' none ∨ ∃ g, X g ∧ World.grownBy w w' (some g)) (hX : ∀ b, X' b → (X b ∨ w.heap.size ≤ b) ∧ b < w'.heap.size) (hR : R' w') (hd : d < n)
    (hv : av.is (Lof ⟨c, X', R', st'⟩ σ ρ) ρ w' v) (hp : ∀ b ∈ av.ptrs, ∃ T ch, σ (.b b) = .blk T ch) : Conc ⟨c, X', R', st'⟩ n ρ (upd σ [(.s d, .av av)]) (a.put (some d) v) w' := by
  have hsz : w.heap.size ≤ w'.heap.size := by rcases hg with hg | ⟨g, _, hg⟩ <;> exact hg.size
  have hb : ∀ b, b < w.heap.size → ¬ X b → w'.heap[b]? = w.heap[b]? := by
    intro b h1 h2
    rcases hg with hg | ⟨g, h3, hg⟩
    · exact hg.block b h1 (by simp)
    · exact hg.block b h1 fun e => h2 ((Option.some.inj e) ▸ h3)
  have hbel : Below c.w0.heap.size w w' := by
    have hk : ∀ k, k < c.w0.heap.size → w'.heap[k]? = w.heap[k]? := fun k hk => hb k (Nat.lt_of_lt_of_le hk h.below.size) fun hx => by have h1 : c.w0.heap.size ≤ k := (h.xlt k hx).1; omega
    rcases hg with hg | ⟨g, _, hg⟩ <;> exact ⟨hg.os, hg.tape, hg.output, hg.size, hk⟩
  have g : Goes (Lof ⟨c, X, R, st⟩ σ ρ) w (Lof ⟨c, X', R', st'⟩ σ ρ) w' := by
    intro w'' hw
    refine ⟨Nat.le_trans hsz hw.1, fun b hbs hnL => ?_⟩
    have hnX : ¬ X b := fun hx => hnL (.inl (.inr hx))
    refine (hw.2 b (Nat.lt_of_lt_of_le hbs hsz) ?_).trans (hb b hbs hnX)
    rintro ((h1 | h1) | h1)
    · exact hnL (.inl (.inl h1))
    · rcases (hX b h1).1 with h2 | h2
      · exact hnX h2
      · omega
    · exact hnL (.inr h1)
  refine ⟨by rw [Pu.size_put]; exact h.size, by rw [Pu.defers_put]; exact h.defers, h.below.trans hbel, fun i T ch hi => ?_, h.inj, ?_, ?_, h.pln, fun b hb' => ?_, fun i T ch hi hx => ?_, hR⟩
  · obtain ⟨h1, cs, h2, h3⟩ := h.blk i T ch hi
    exact ⟨h1, cs, (hb _ (h.lt hi) (h.xne i T ch hi)).trans h2, h3.go g fun _ _ => rfl⟩
  · intro t av' ht
    by_cases e : t = d
    · subst e
      have h2 : upd σ [(.s t, .av av)] (.s t) = .av av := by show (bif Key.beq (.s t) (.s t) then _ else _) = _; rw [Key.beq_self]; rfl
      rw [h2] at ht
      obtain rfl := (XV.av.injEq _ _).mp ht
      rw [Pu.put_same _ _ _ (by rw [h.size]; exact hd)]
      exact hv
    · rw [upd_other (by simpa [keys] using e)] at ht
      rw [Pu.getD_of_opt (Pu.put_other a (some d) v t (fun h' => e (Option.some.inj h').symm))]
      exact (h.slt t av' ht).go g fun _ _ => rfl
  · intro k b hk
    by_cases e : k = .s d
    · subst e
      have h2 : upd σ [(.s d, .av av)] (.s d) = .av av := by show (bif Key.beq (.s d) (.s d) then _ else _) = _; rw [Key.beq_self]; rfl
      rw [h2] at hk
      exact hp b hk
    · rw [upd_other (by simpa [keys] using e)] at hk
      exact h.own k b hk
  · obtain ⟨h1, h2⟩ := hX b hb'
    refine ⟨?_, h2⟩
    rcases h1 with h1 | h1
    · exact (h.xlt b h1).1
    · exact Nat.le_trans h.below.size h1
  · rcases (hX _ hx).1 with h1 | h1
    · exact h.xne i T ch hi h1
    · have := h.lt hi
      omega
/-- What is no more known is dropped. -/
theorem Conc.drop {cx : Cx D} {n : Nat} {ρ : Nat → Nat} {σ σ' : St D} {a : Act} {w : World} (h : Conc cx n ρ σ a w) (hb : ∀ i, σ' (.b i) = σ (.b i)) (hs : ∀ t, σ' (.s t) = σ (.s t) ∨ ∀ av, σ' (.s t) ≠ .av av ∧ (σ' (.s t)).ptrs = []) : Conc cx n ρ σ' a w := by
  have hL : Lof cx σ' ρ = Lof cx σ ρ := by
    funext b
    simp only [Lof, hb]
  refine ⟨h.size, h.defers, h.below, fun i T ch hi => ?_, fun i j T ch T' ch' hi hj => ?_, fun t av ht => ?_, fun k b hk => ?_, fun i T ch hi => ?_, h.xlt, fun i T ch hi => ?_, h.xr⟩
  · rw [hL]; rw [hb] at hi; exact h.blk i T ch hi
  · rw [hb] at hi hj; exact h.inj i j T ch T' ch' hi hj
  · rcases hs t with e | e
    · rw [hL]; rw [e] at ht; exact h.slt t av ht
    · exact absurd ht (e av).1
  · rw [hb]
    cases k with
    | b i => rw [hb] at hk; exact h.own (.b i) b hk
    | s t =>
      rcases hs t with e | e
      · rw [e] at hk; exact h.own (.s t) b hk
      · rw [(e (.tup [])).2] at hk; cases hk
  · rw [hb] at hi; exact h.pln i T ch hi
  · rw [hb] at hi; exact h.xne i T ch hi
end

/-- The key of the row that is being made. -/
def KX : Key := .b 1000000
def rowX (zs : List Int) : List (Ch Dm) := zs.map fun z => (none, .v (.int .i64 z))
theorem rowX_inj {zs zs' : List Int} (h : rowX zs = rowX zs') : zs = zs' := by
  unfold rowX at h
  refine List.map_inj_right (fun x y hxy => ?_) |>.1 h
  simpa using hxy
def cxX (c : Cx0 Dm) (V : Value) (zs : List Int) : Cx Dm where
  toCx0 := c
  X := fun b => V.ownBlock = some b
  R := fun w => w.ownsRow c.w0.heap.size 3 1 V zs.length (zs.map (Value.int .i64))
  stab := by
    rintro w w' hb ⟨h1, h2⟩
    refine ⟨h1, h2.imp id ?_⟩
    rintro ⟨g, cap, cur, rfl, hg, hh, hr⟩
    exact ⟨g, cap, cur, rfl, hg, (hb g rfl).trans hh, hr⟩
/-- A state with at most one row that is being made. -/
def C3 (c : Cx0 Dm) (n : Nat) (σ : St Dm) (a : Act) (w : World) : Prop :=
  (σ KX = .no ∧ CC c.cx n σ a w) ∨ ∃ s zs V, σ KX = .blk s (rowX zs) ∧ σ (.s s) = .blk 0 [] ∧ CC (cxX c V zs) n (upd σ [(KX, .no), (.s s, .av (.one (.v V)))]) a w
theorem C3.drew {c : Cx0 Dm} {n : Nat} {σ : St Dm} {a : Act} {w : World} (h : C3 c n σ a w) : C3 c n σ a w.drew := by
  rcases h with ⟨h1, h2⟩ | ⟨s, zs, V, h1, h2, h3⟩
  · exact .inl ⟨h1, h2.drew⟩
  · exact .inr ⟨s, zs, V, h1, h2, h3.drew⟩

def okKey (σ : St Dm) : Key → Bool
  | .s t => match σ (.s t) with
    | .blk _ _ => false
    | _ => true
  | .b i => !(Nat.beq i 1000000)
theorem okKey_ne {σ : St Dm} {k : Key} (h : okKey σ k = true) : k ≠ KX := by
  rintro rfl
  simp [okKey, KX] at h
theorem okKey_s {σ σ' : St Dm} {k : Key} {s : Nat} {T : TypeId} {ch : List (Ch Dm)} (h : okKey σ k = true) (e : σ' k = σ k) (hs : σ' (.s s) = .blk T ch) : k ≠ .s s := by
  rintro rfl
  rw [hs] at e
  simp [okKey, ← e] at h

variable {c : Cx0 Dm} {n : Nat} {σ : St Dm} {ops : Array Oper} {o : Oper}
/-- An operation that has nothing to do with the row. -/
theorem OpOk.row {rd : List Key} {wr : List (Key × XV Dm)} (h : ∀ cx : Cx Dm, OpOk Tryz.prog cx n σ o rd wr) (hg : o.guard = none) (hk : (rd ++ keys wr).all (okKey σ) = true) : StepOk (C3 c n) Tryz.prog ops σ o ⟨rd, wr⟩ := by
  intro σ' a w Q hC h1 h2
  refine .inl ⟨by simp [Region.wanted, hg], fun K hK => ?_⟩
  have hkey : ∀ k, k ∈ rd ++ keys wr → okKey σ k = true ∧ σ' k = σ k := fun k hk' => ⟨List.all_eq_true.1 hk k hk', by
    rcases List.mem_append.1 hk' with e | e
    · exact h1 k e
    · exact h2 k e⟩
  have hnot : KX ∉ keys wr := fun e => okKey_ne (hkey _ (List.mem_append.2 (.inr e))).1 rfl
  rcases hC with ⟨e1, hC⟩ | ⟨s, zs, V, e1, e2, hC⟩
  · exact h c.cx σ' a w Q hC h1 h2 K fun a' w' hC' => hK a' w' (.inl ⟨by rw [upd_other hnot]; exact e1, hC'⟩)
  · have hne : ∀ k ∈ rd ++ keys wr, k ∉ keys (X := XV Dm) [(KX, .no), (.s s, .av (.one (.v V)))] := by
      intro k hk'
      have h3 := hkey k hk'
      simp only [keys, List.map_cons, List.map_nil, List.mem_cons, List.not_mem_nil, or_false, not_or]
      exact ⟨okKey_ne h3.1, okKey_s h3.1 h3.2 e2⟩
    have hs : Key.s s ∉ keys wr := fun e => hne _ (List.mem_append.2 (.inr e)) (by simp [keys])
    refine h (cxX c V zs) _ a w Q hC (fun k hk' => ?_) (fun k hk' => ?_) K fun a' w' hC' => hK a' w' (.inr ⟨s, zs, V, by rw [upd_other hnot]; exact e1, by rw [upd_other hs]; exact e2, ?_⟩)
    · rw [upd_other (hne k (List.mem_append.2 (.inl hk')))]; exact h1 k hk'
    · rw [upd_other (hne k (List.mem_append.2 (.inr hk')))]; exact h2 k hk'
    · rw [show upd (upd σ' wr) [(KX, .no), (.s s, .av (.one (.v V)))] = upd (upd σ' [(KX, .no), (.s s, .av (.one (.v V)))]) wr from ?_]
      · exact hC'
      · funext k
        by_cases hw : k ∈ keys wr
        · rw [upd_other (hne k (List.mem_append.2 (.inr hw))), upd_same (τ := σ') hw]
          exact (upd_same hw)
        · rw [upd_other hw]
          by_cases hm : k ∈ keys (X := XV Dm) [(KX, .no), (.s s, .av (.one (.v V)))]
          · exact upd_same hm
          · rw [upd_other hm, upd_other hm, upd_other hw]
theorem CV.regionX {l : Sg Dm} {K : Exit → Sg Dm → Prop} {id : Nat} {ops : List Oper} {draw : Bool} (hm : Tryz.prog.follows .mixedOrders = true) (hb : draw = true → Pu.backB .any ops.toArray = true) (h0 : lookD .no l KX = .no)
    (h : RV .no (C3 c n) Tryz.prog ops.toArray draw ops [] l (fun l' => lookD .no l' KX = .no ∧ K .normal l')) : CV Tryz.prog c.cx n (.region id ops.toArray draw) l K := by
  refine ⟨fun a w hC => ?_⟩
  refine RV.wp (x0 := .no) (C := C3 c n) (K := fun l' => lookD .no l' KX = .no ∧ K .normal l') (fun a w h => h.drew) hm hb ?_ (.inl ⟨h0, hC⟩) fun l' _ _ hK hC' => ?_
  · simpa using h
  · rcases hC' with ⟨_, h2⟩ | ⟨s, zs, V, e, _⟩
    · exact ⟨l', h2, hK.2⟩
    · rw [hK.1] at e; cases e
theorem RV.step3 {D : Type} {x0 : XV D} {C : St D → Act → World → Prop} {P : Program} {ops : Array Oper} {draw : Bool} {o : Oper} {rest : List Oper} {done : List (Stp (XV D))} {l : Sg D} {K : Sg D → Prop} {rd : List Key} {q r s : Key} {x y z : XV D}
    (h : StepOk C P ops (lookD x0 l) o ⟨rd, [(q, x), (r, y), (s, z)]⟩) (k : RV x0 C P ops draw rest (⟨rd, [(q, x), (r, y), (s, z)]⟩ :: done) ((q, x) :: (r, y) :: (s, z) :: l) K) : RV x0 C P ops draw (o :: rest) done l K := ⟨_, h, k⟩

end Vc
end Go.Proofs.YtabjodomigllhaaGreatDoor
