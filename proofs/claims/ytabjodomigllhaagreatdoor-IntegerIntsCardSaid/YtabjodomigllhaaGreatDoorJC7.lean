/-
  What slots and a call's own variables hold: abstract values, states, and how they go on.
-/
import Derived.Test.YtabjodomigllhaaGreatDoorJC6
namespace Go.Proofs.YtabjodomigllhaaGreatDoor
open Go.RowKit
namespace Vc

def notInt : Value → Bool
  | .int _ _ => false
  | _ => true

/-- Worlds that agree but for the blocks of L, and new ones. -/
def Agree (L : Nat → Prop) (w w' : World) : Prop := w.heap.size ≤ w'.heap.size ∧ ∀ b, b < w.heap.size → ¬ L b → w'.heap[b]? = w.heap[b]?
theorem Agree.refl (L : Nat → Prop) (w : World) : Agree L w w := ⟨Nat.le_refl _, fun _ _ _ => rfl⟩
theorem Agree.trans {L : Nat → Prop} {a b c : World} (h : Agree L a b) (k : Agree L b c) : Agree L a c :=
  ⟨Nat.le_trans h.1 k.1, fun i hi hL => (k.2 i (Nat.lt_of_lt_of_le hi h.1) hL).trans (h.2 i hi hL)⟩
theorem Agree.below {L : Nat → Prop} {w w' : World} (h : Below w.heap.size w w') : Agree L w w' := ⟨h.size, fun i hi _ => h.block i hi⟩

/-- From a world and its set to the next. -/
def Goes (L : Nat → Prop) (w : World) (L' : Nat → Prop) (w' : World) : Prop := ∀ w'', Agree L' w' w'' → Agree L w w''
theorem Goes.refl (L : Nat → Prop) (w : World) : Goes L w L w := fun _ h => h
theorem Goes.below {L : Nat → Prop} {w w' : World} (h : Below w.heap.size w w') : Goes L w L w' := fun _ k => (Agree.below h).trans k
theorem Goes.less {L L' : Nat → Prop} {w : World} (h : ∀ b, L' b → L b) : Goes L w L' w := fun _ k => ⟨k.1, fun b hb hL => k.2 b hb fun h' => hL (h b h')⟩
theorem Goes.trans {L L' L'' : Nat → Prop} {a b c : World} (h : Goes L a L' b) (k : Goes L' b L'' c) : Goes L a L'' c := fun w hw => h w (k w hw)
theorem Goes.more {L L' : Nat → Prop} {w : World} (h : ∀ b, b < w.heap.size → L' b → L b) : Goes L w L' w := fun _ k => ⟨k.1, fun b hb hL => k.2 b hb fun h' => hL (h b hb h')⟩
theorem Goes.store {L : Nat → Prop} {w w' : World} {g : Nat} (hs : w'.heap.size = w.heap.size) (hb : ∀ j, j ≠ g → w'.heap[j]? = w.heap[j]?) (hg : L g) : Goes L w L w' :=
  fun _ k => ⟨by rw [← hs]; exact k.1, fun b hbs hL => (k.2 b (by rw [hs]; exact hbs) hL).trans (hb b fun e => hL (e ▸ hg))⟩

/-- The value v lies in memory as these cells: a struct or an array (some), or one cell (none). -/
def Shaped : Option Nat → Value → List Value → Prop
  | some n, v, cs => v = .agg cs.toArray ∧ cs.length = n ∧ ∀ c ∈ cs, c.oneCell' = true
  | none, v, cs => cs = [v] ∧ v.oneCell' = true
theorem Shaped.cells {k : Option Nat} {v : Value} {cs : List Value} (h : Shaped k v cs) : v.cells = cs.toArray := by
  cases k with
  | some n => obtain ⟨rfl, _, _⟩ := h; rfl
  | none =>
    obtain ⟨rfl, h⟩ := h
    cases v <;> first | rfl | cases h
theorem Shaped.length {k : Option Nat} {v : Value} {cs : List Value} (h : Shaped k v cs) : cs.length = k.getD 1 := by
  cases k with
  | some n => exact h.2.1
  | none => rw [h.1]; rfl
theorem Shaped.one {k : Option Nat} {v : Value} {cs : List Value} (h : Shaped k v cs) : ∀ c ∈ cs, c.oneCell' = true := by
  cases k with
  | some n => exact h.2.2
  | none => intro c hc; rw [h.1] at hc; rw [List.mem_singleton.1 hc]; exact h.2
theorem Shaped.same {k : Option Nat} {v v' : Value} {cs : List Value} (h : Shaped k v cs) (h' : Shaped k v' cs) : v = v' := by
  cases k with
  | some n => rw [h.1, h'.1]
  | none =>
    have := h.1.symm.trans h'.1
    simpa using this

class Dom (D : Type) where
  dat : D → World → Value → Prop
  shape : D → Option Nat
  plain : D → Bool
  shape_ok : ∀ x w v, dat x w v → ∃ cs, Shaped (shape x) v cs
  plain_ok : ∀ x w v, plain x = true → dat x w v → ∀ c ∈ v.cells.toList, notInt c = true
  W : World → Prop
  W_keep : ∀ w w', Below w.heap.size w w' → W w → W w'

inductive SA (D : Type) where
  | v (x : Value)
  | d (x : D)
  | ptr (b o : Nat)
abbrev Ch (D : Type) := Option Nat × SA D
inductive AV (D : Type) where
  | one (s : SA D)
  | tup (l : List (SA D))
inductive XV (D : Type) where
  | no
  | av (x : AV D)
  | blk (T : TypeId) (ch : List (Ch D))
abbrev Sg (D : Type) := List (Key × XV D)
abbrev St (D : Type) := Key → XV D

section
variable {D : Type} [Dom D]

def SA.is (L : Nat → Prop) (ρ : Nat → Nat) (w : World) : SA D → Value → Prop
  | .v x, y => y = x
  | .d x, y => ∀ w', Agree L w w' → Dom.dat x w' y
  | .ptr b o, y => y = .pointer (some ⟨ρ b, o, none⟩)
def SA.ptrs : SA D → List Nat
  | .ptr b _ => [b]
  | _ => []
theorem SA.is.go {L L' : Nat → Prop} {ρ ρ' : Nat → Nat} {w w' : World} {s : SA D} {y : Value} (h : s.is L ρ w y) (g : Goes L w L' w') (hr : ∀ b ∈ s.ptrs, ρ' b = ρ b) : s.is L' ρ' w' y := by
  cases s with
  | v x => exact h
  | d x => exact fun w'' hw => h w'' (g w'' hw)
  | ptr b o => show y = _; rw [hr b (by simp [SA.ptrs])]; exact h
def isAll (L : Nat → Prop) (ρ : Nat → Nat) (w : World) : List (SA D) → List Value → Prop
  | [], [] => True
  | s :: l, v :: m => s.is L ρ w v ∧ isAll L ρ w l m
  | _, _ => False
def ptrsAll (l : List (SA D)) : List Nat := l.flatMap SA.ptrs
theorem isAll.go {L L' : Nat → Prop} {ρ ρ' : Nat → Nat} {w w' : World} : ∀ {l : List (SA D)} {m : List Value}, isAll L ρ w l m → Goes L w L' w' → (∀ b ∈ ptrsAll l, ρ' b = ρ b) → isAll L' ρ' w' l m
  | [], [], _, _, _ => trivial
  | s :: l, v :: m, h, g, hr => ⟨h.1.go g fun b hb => hr b (by simp only [ptrsAll, List.flatMap_cons, List.mem_append]; exact .inl hb), h.2.go g fun b hb => hr b (by simp only [ptrsAll, List.flatMap_cons, List.mem_append]; exact .inr hb)⟩
def AV.is (L : Nat → Prop) (ρ : Nat → Nat) (w : World) : AV D → Value → Prop
  | .one s, y => s.is L ρ w y
  | .tup l, y => ∃ vs : List Value, y = .tuple vs.toArray ∧ isAll L ρ w l vs
def AV.ptrs : AV D → List Nat
  | .one s => s.ptrs
  | .tup l => ptrsAll l
theorem AV.is.go {L L' : Nat → Prop} {ρ ρ' : Nat → Nat} {w w' : World} {s : AV D} {y : Value} (h : s.is L ρ w y) (g : Goes L w L' w') (hr : ∀ b ∈ s.ptrs, ρ' b = ρ b) : s.is L' ρ' w' y := by
  cases s with
  | one s => exact SA.is.go h g hr
  | tup l => obtain ⟨vs, rfl, h⟩ := h; exact ⟨vs, rfl, h.go g hr⟩

def Chs (L : Nat → Prop) (ρ : Nat → Nat) (w : World) : List (Ch D) → List Value → Prop
  | [], cs => cs = []
  | c :: l, cs => ∃ p r v, cs = p ++ r ∧ Shaped c.1 v p ∧ c.2.is L ρ w v ∧ Chs L ρ w l r
def chPtrs (l : List (Ch D)) : List Nat := l.flatMap fun c => c.2.ptrs
theorem Chs.go {L L' : Nat → Prop} {ρ ρ' : Nat → Nat} {w w' : World} : ∀ {l : List (Ch D)} {cs : List Value}, Chs L ρ w l cs → Goes L w L' w' → (∀ b ∈ chPtrs l, ρ' b = ρ b) → Chs L' ρ' w' l cs
  | [], _, h, _, _ => h
  | c :: l, _, ⟨p, r, v, h1, h2, h3, h4⟩, g, hr => ⟨p, r, v, h1, h2, h3.go g fun b hb => hr b (by simp only [chPtrs, List.flatMap_cons, List.mem_append]; exact .inl hb), Chs.go h4 g fun b hb => hr b (by simp only [chPtrs, List.flatMap_cons, List.mem_append]; exact .inr hb)⟩
def chAt : List (Ch D) → Nat → Option (Ch D)
  | [], _ => none
  | c :: l, o => bif Nat.beq o 0 then some c else bif Nat.blt o (c.1.getD 1) then none else chAt l (o - c.1.getD 1)
def chSet : List (Ch D) → Nat → Ch D → List (Ch D)
  | [], _, _ => []
  | c :: l, o, c' => bif Nat.beq o 0 then c' :: l else c :: chSet l (o - c.1.getD 1) c'
theorem Chs.at {L : Nat → Prop} {ρ : Nat → Nat} {w : World} : ∀ {l : List (Ch D)} {cs : List Value} {o : Nat} {c : Ch D}, Chs L ρ w l cs → chAt l o = some c →
    ∃ pre p post v, cs = pre ++ p ++ post ∧ pre.length = o ∧ Shaped c.1 v p ∧ c.2.is L ρ w v ∧ c.2.ptrs ⊆ chPtrs l ∧
      ∀ c' v' p', c'.1 = c.1 → Shaped c'.1 v' p' → c'.2.is L ρ w v' → Chs L ρ w (chSet l o c') (pre ++ p' ++ post)
  | [], _, _, _, _, h => by cases h
  | d :: l, _, o, c, ⟨p, r, v, h1, h2, h3, h4⟩, h => by
    unfold chAt at h
    cases e : Nat.beq o 0 with
    | true =>
      rw [e, cond_true] at h
      obtain rfl := Option.some.inj h
      obtain rfl := Nat.eq_of_beq_eq_true e
      refine ⟨[], p, r, v, by simpa using h1, rfl, h2, h3, fun b hb => by simp only [chPtrs, List.flatMap_cons, List.mem_append]; exact .inl hb, ?_⟩
      intro c' v' p' k1 k2 k3
      exact ⟨p', r, v', by simp, k2, k3, h4⟩
    | false =>
      rw [e, cond_false] at h
      cases e2 : Nat.blt o (d.1.getD 1) with
      | true => rw [e2] at h; cases h
      | false =>
        rw [e2, cond_false] at h
        obtain ⟨pre, q, post, u, k1, k2, k3, k4, k5, k6⟩ := Chs.at h4 h
        have hge : d.1.getD 1 ≤ o := by
          rcases Nat.lt_or_ge o (d.1.getD 1) with hlt | hge
          · rw [show Nat.blt o (d.1.getD 1) = true by rw [Nat.blt_eq]; exact hlt] at e2; cases e2
          · exact hge
        have hpl := h2.length
        refine ⟨p ++ pre, q, post, u, by rw [h1, k1]; simp, by rw [List.length_append]; omega, k3, k4, fun b hb => by simp only [chPtrs, List.flatMap_cons, List.mem_append]; exact .inr (k5 hb), ?_⟩
        intro c' v' p' m1 m2 m3
        unfold chSet
        rw [e, cond_false]
        exact ⟨p, pre ++ p' ++ post, v, by simp, h2, h3, k6 c' v' p' m1 m2 m3⟩

def SA.plain : SA D → Bool
  | .v x => x.cells.toList.all notInt
  | .d x => Dom.plain x
  | .ptr _ _ => true
def chPlain (l : List (Ch D)) : Bool := l.all fun c => c.2.plain
theorem Chs.plain {L : Nat → Prop} {ρ : Nat → Nat} {w : World} : ∀ {l : List (Ch D)} {cs : List Value}, Chs L ρ w l cs → chPlain l = true → ∀ c ∈ cs, notInt c = true
  | [], _, h, _, c, hc => by rw [show _ = [] from h] at hc; cases hc
  | d :: l, _, ⟨p, r, v, h1, h2, h3, h4⟩, hp, c, hc => by
    simp only [chPlain, List.all_cons, Bool.and_eq_true] at hp
    rw [h1, List.mem_append] at hc
    rcases hc with hc | hc
    · have hv := h2.cells
      have hm : c ∈ v.cells.toList := by rw [hv]; simpa using hc
      cases hs : d.2 with
      | v x =>
        rw [hs] at hp h3
        have hx : v = x := h3
        subst hx
        exact (List.all_eq_true.1 hp.1) c hm
      | d x =>
        rw [hs] at hp h3
        exact Dom.plain_ok x w v hp.1 (h3 w (Agree.refl _ _)) c hm
      | ptr b o =>
        rw [hs] at h3
        have hx : v = .pointer (some ⟨ρ b, o, none⟩) := h3
        subst hx
        simp only [Value.cells, List.mem_singleton] at hm
        subst hm
        rfl
    · exact Chs.plain h4 hp.2 c hc

def XV.ptrs : XV D → List Nat
  | .no => []
  | .av x => x.ptrs
  | .blk _ ch => chPtrs ch

/-- No numbers lie in these blocks. -/
def NoInt (L : Nat → Prop) (w : World) : Prop := ∀ b, L b → ∀ cs T fr, w.heap[b]? = some (.cells cs T fr) → ∀ c ∈ cs.toList, notInt c = true

structure Cx0 (D : Type) [Dom D] where
  w0 : World
  L0 : Nat → Prop
  lt : ∀ b, L0 b → b < w0.heap.size
  ni : NoInt L0 w0
  wf : Dom.W D w0
/-- With rows that are being made (X), and what is known of them (R). -/
structure Cx (D : Type) [Dom D] extends Cx0 D where
  X : Nat → Prop
  R : World → Prop
  stab : ∀ w w', (∀ b, X b → w'.heap[b]? = w.heap[b]?) → R w → R w'
def Cx0.cx (c : Cx0 D) : Cx D := { c with X := fun _ => False, R := fun _ => True, stab := fun _ _ _ _ => trivial }

def Lof (cx : Cx D) (σ : St D) (ρ : Nat → Nat) (b : Nat) : Prop := (cx.L0 b ∨ cx.X b) ∨ ∃ i T ch, σ (.b i) = .blk T ch ∧ ρ i = b

structure Conc (cx : Cx D) (n : Nat) (ρ : Nat → Nat) (σ : St D) (a : Act) (w : World) : Prop where
  size : a.tmps.size = n
  defers : a.defers = []
  below : Below cx.w0.heap.size cx.w0 w
  blk : ∀ i T ch, σ (.b i) = .blk T ch → cx.w0.heap.size ≤ ρ i ∧ ∃ cs : List Value, w.heap[ρ i]? = some (.cells cs.toArray T (0, 0)) ∧ Chs (Lof cx σ ρ) ρ w ch cs
  inj : ∀ i j T ch T' ch', σ (.b i) = .blk T ch → σ (.b j) = .blk T' ch' → ρ i = ρ j → i = j
  slt : ∀ t av, σ (.s t) = .av av → av.is (Lof cx σ ρ) ρ w (a.tmps.getD t undef)
  own : ∀ k b, b ∈ (σ k).ptrs → ∃ T ch, σ (.b b) = .blk T ch
  pln : ∀ i T ch, σ (.b i) = .blk T ch → chPlain ch = true
  xlt : ∀ b, cx.X b → cx.w0.heap.size ≤ b ∧ b < w.heap.size
  xne : ∀ i T ch, σ (.b i) = .blk T ch → ¬ cx.X (ρ i)
  xr : cx.R w

def CC (cx : Cx D) (n : Nat) (σ : St D) (a : Act) (w : World) : Prop := ∃ ρ, Conc cx n ρ σ a w

theorem Conc.lt {cx : Cx D} {n : Nat} {ρ : Nat → Nat} {σ : St D} {a : Act} {w : World} (h : Conc cx n ρ σ a w) {i : Nat} {T : TypeId} {ch : List (Ch D)} (hi : σ (.b i) = .blk T ch) : ρ i < w.heap.size := by
  obtain ⟨_, cs, hc, _⟩ := h.blk i T ch hi
  exact (Array.getElem?_eq_some_iff.1 hc).1
theorem Conc.drew {cx : Cx D} {n : Nat} {ρ : Nat → Nat} {σ : St D} {a : Act} {w : World} (h : Conc cx n ρ σ a w) : Conc cx n ρ σ a w.drew := by
  have g : Goes (Lof cx σ ρ) w (Lof cx σ ρ) w.drew := Goes.below ((Below.refl _ _).drew)
  refine ⟨h.size, h.defers, h.below.drew, fun i T ch hi => ?_, h.inj, fun t av ht => (h.slt t av ht).go g fun _ _ => rfl, h.own, h.pln, h.xlt, h.xne, cx.stab w w.drew (fun _ _ => rfl) h.xr⟩
  obtain ⟨h1, cs, h2, h3⟩ := h.blk i T ch hi
  exact ⟨h1, cs, h2, h3.go g fun _ _ => rfl⟩
theorem CC.drew {cx : Cx D} {n : Nat} {σ : St D} {a : Act} {w : World} (h : CC cx n σ a w) : CC cx n σ a w.drew := let ⟨ρ, h⟩ := h; ⟨ρ, h.drew⟩

omit [Dom D] in
theorem upd_b1 {σ : St D} {d i : Nat} {x : XV D} : upd σ [(.s d, x)] (.b i) = σ (.b i) := rfl
theorem Lof_slot {cx : Cx D} {σ : St D} {ρ : Nat → Nat} {d : Nat} {x : XV D} : Lof cx (upd σ [(.s d, x)]) ρ = Lof cx σ ρ := rfl

/-- A value comes into a slot; of old memory nothing changes. -/
theorem Conc.put {cx : Cx D} {n : Nat} {ρ : Nat → Nat} {σ : St D} {a : Act} {w w' : World} {v : Value} {av : AV D} {d : Nat} (h : Conc cx n ρ σ a w) (hb : Below w.heap.size w w') (hd : d < n)
    (hv : av.is (Lof cx σ ρ) ρ w' v) (hp : ∀ b ∈ av.ptrs, ∃ T ch, σ (.b b) = .blk T ch) : Conc cx n ρ (upd σ [(.s d, .av av)]) (a.put (some d) v) w' := by
  have g : Goes (Lof cx σ ρ) w (Lof cx σ ρ) w' := Goes.below hb
  refine ⟨by rw [Pu.size_put]; exact h.size, by rw [Pu.defers_put]; exact h.defers, Pu.further h.below hb, fun i T ch hi => ?_, h.inj, ?_, ?_, h.pln, fun b hb' => ⟨(h.xlt b hb').1, Nat.lt_of_lt_of_le (h.xlt b hb').2 hb.size⟩, h.xne, cx.stab _ _ (fun b hb' => hb.block b (h.xlt b hb').2) h.xr⟩
  · obtain ⟨h1, cs, h2, h3⟩ := h.blk i T ch hi
    exact ⟨h1, cs, (hb.block _ (h.lt hi)).trans h2, h3.go g fun _ _ => rfl⟩
  · intro t av' ht
    by_cases e : t = d
    · subst e
      have h2 : upd σ [(.s t, .av av)] (.s t) = .av av := by show (bif Key.beq (.s t) (.s t) then _ else _) = _; rw [Key.beq_self]; rfl
      rw [h2] at ht
      obtain rfl := (XV.av.injEq _ _).mp ht
      rw [Pu.put_same _ _ _ (by rw [h.size]; exact hd)]
      exact hv
    · rw [upd_other (by simpa [keys] using e)] at ht
      rw [Pu.getD_of_opt (Pu.put_other a (some d) v t (fun h' => e (Option.some.inj h').symm))]
      exact (h.slt t av' ht).go g fun _ _ => rfl
  · intro k b hk
    by_cases e : k = .s d
    · subst e
      have h2 : upd σ [(.s d, .av av)] (.s d) = .av av := by show (bif Key.beq (.s d) (.s d) then _ else _) = _; rw [Key.beq_self]; rfl
      rw [h2] at hk
      exact hp b hk
    · rw [upd_other (by simpa [keys] using e)] at hk
      exact h.own k b hk
/-- Nothing is known of a slot any more. -/
theorem Conc.lose {cx : Cx D} {n : Nat} {ρ : Nat → Nat} {σ : St D} {a : Act} {w w' : World} {v : Value} {d : Nat} (h : Conc cx n ρ σ a w) (hb : Below w.heap.size w w') : Conc cx n ρ (upd σ [(.s d, .no)]) (a.put (some d) v) w' := by
  have g : Goes (Lof cx σ ρ) w (Lof cx σ ρ) w' := Goes.below hb
  have h2 : upd σ [(.s d, .no)] (.s d) = .no := by show (bif Key.beq (.s d) (.s d) then _ else _) = _; rw [Key.beq_self]; rfl
  refine ⟨by rw [Pu.size_put]; exact h.size, by rw [Pu.defers_put]; exact h.defers, Pu.further h.below hb, fun i T ch hi => ?_, h.inj, ?_, ?_, h.pln, fun b hb' => ⟨(h.xlt b hb').1, Nat.lt_of_lt_of_le (h.xlt b hb').2 hb.size⟩, h.xne, cx.stab _ _ (fun b hb' => hb.block b (h.xlt b hb').2) h.xr⟩
  · obtain ⟨h1, cs, h2, h3⟩ := h.blk i T ch hi
    exact ⟨h1, cs, (hb.block _ (h.lt hi)).trans h2, h3.go g fun _ _ => rfl⟩
  · intro t av' ht
    by_cases e : t = d
    · subst e; rw [h2] at ht; cases ht
    · rw [upd_other (by simpa [keys] using e)] at ht
      rw [Pu.getD_of_opt (Pu.put_other a (some d) v t (fun h' => e (Option.some.inj h').symm))]
      exact (h.slt t av' ht).go g fun _ _ => rfl
  · intro k b hk
    by_cases e : k = .s d
    · subst e; rw [h2] at hk; cases hk
    · rw [upd_other (by simpa [keys] using e)] at hk
      exact h.own k b hk

omit [Dom D] in
theorem upd2_s {σ : St D} {d i : Nat} {x y : XV D} : upd σ [(.s d, x), (.b i, y)] (.s d) = x := by
  show (bif Key.beq (.s d) (.s d) then _ else _) = _; rw [Key.beq_self]; rfl
omit [Dom D] in
theorem upd2_b {σ : St D} {d i : Nat} {x y : XV D} : upd σ [(.s d, x), (.b i, y)] (.b i) = y := by
  show (bif Key.beq (.b i) (.b i) then _ else _) = _; rw [Key.beq_self]; rfl
/-- A new variable. -/
theorem Conc.new {cx : Cx D} {n : Nat} {ρ : Nat → Nat} {σ : St D} {a : Act} {w w' : World} {d i g : Nat} {T : TypeId} {ch : List (Ch D)} {cs : List Value} (h : Conc cx n ρ σ a w) (hb : Below w.heap.size w w') (hd : d < n)
    (hi : σ (.b i) = .no) (hg : w.heap.size ≤ g) (hc : w'.heap[g]? = some (.cells cs.toArray T (0, 0))) (hcs : Chs (Lof cx σ ρ) ρ w ch cs) (hp : ∀ b ∈ chPtrs ch, ∃ T ch, σ (.b b) = .blk T ch) (hpl : chPlain ch = true) :
    CC cx n (upd σ [(.s d, .av (.one (.ptr i 0))), (.b i, .blk T ch)]) (a.put (some d) (.pointer (some ⟨g, 0, none⟩))) w' := by
  obtain ⟨ρ', hρ⟩ : ∃ ρ' : Nat → Nat, ρ' = fun j => if j = i then g else ρ j := ⟨_, rfl⟩
  have hρi : ρ' i = g := by rw [hρ]; simp
  have hρo : ∀ j, j ≠ i → ρ' j = ρ j := fun j hj => by rw [hρ]; simp [hj]
  obtain ⟨σ', hσ⟩ : ∃ σ', σ' = upd σ [(.s d, .av (.one (.ptr i 0))), (.b i, .blk T ch)] := ⟨_, rfl⟩
  have k1 : σ' (.s d) = .av (.one (.ptr i 0)) := by rw [hσ]; exact upd2_s
  have k2 : σ' (.b i) = .blk T ch := by rw [hσ]; exact upd2_b
  have k3 : ∀ k, k ≠ .s d → k ≠ .b i → σ' k = σ k := fun k h1 h2 => by rw [hσ]; exact upd_other (by simp [keys, h1, h2])
  have hne : ∀ j T ch, σ (.b j) = .blk T ch → j ≠ i := fun j T ch hj e => by rw [e, hi] at hj; cases hj
  have kb : ∀ j, j ≠ i → σ' (.b j) = σ (.b j) := fun j hj => k3 _ (by simp) (by simpa using hj)
  have hL : ∀ b, b < w.heap.size → Lof cx σ' ρ' b → Lof cx σ ρ b := by
    rintro b hbs (hL | ⟨j, T', ch', h1, h2⟩)
    · exact .inl hL
    · by_cases e : j = i
      · subst e; rw [hρi] at h2; omega
      · rw [kb j e] at h1; rw [hρo j e] at h2; exact .inr ⟨j, T', ch', h1, h2⟩
  have g2 : Goes (Lof cx σ ρ) w (Lof cx σ' ρ') w' := fun w'' hw => (show Agree _ w w'' from ⟨Nat.le_trans hb.size hw.1, fun b hbs hnL => (hw.2 b (Nat.lt_of_lt_of_le hbs hb.size) fun h' => hnL (hL b hbs h')).trans (hb.block b hbs)⟩)
  have hptr : ∀ b, (∃ T ch, σ (.b b) = .blk T ch) → ρ' b = ρ b := fun b ⟨T, ch, hb⟩ => hρo b (hne b T ch hb)
  refine ⟨ρ', ?_⟩
  rw [← hσ]
  have hchw : Chs (Lof cx σ' ρ') ρ' w' ch cs := hcs.go g2 fun b hb' => hptr b (hp b hb')
  refine ⟨by rw [Pu.size_put]; exact h.size, by rw [Pu.defers_put]; exact h.defers, Pu.further h.below hb, ?_, ?_, ?_, ?_, fun j T1 c1 hj => ?_, fun b hb' => ⟨(h.xlt b hb').1, Nat.lt_of_lt_of_le (h.xlt b hb').2 hb.size⟩, fun j T1 c1 hj hX => ?_, cx.stab _ _ (fun b hb' => hb.block b (h.xlt b hb').2) h.xr⟩
  · intro j T' ch' hj
    by_cases e : j = i
    · subst e
      rw [k2] at hj
      obtain ⟨rfl, rfl⟩ := (XV.blk.injEq _ _ _ _).mp hj
      rw [hρi]
      exact ⟨Nat.le_trans h.below.size hg, cs, hc, hchw⟩
    · rw [kb j e] at hj
      obtain ⟨h1, cs', h2, h3⟩ := h.blk j T' ch' hj
      rw [hρo j e]
      refine ⟨h1, cs', (hb.block _ (h.lt hj)).trans h2, h3.go g2 fun b hb' => hptr b (h.own (.b j) b (by rw [hj]; exact hb'))⟩
  · intro j k T1 c1 T2 c2 hj hk he
    by_cases e1 : j = i
    · by_cases e2 : k = i
      · rw [e1, e2]
      · rw [kb k e2] at hk
        rw [e1, hρi, hρo k e2] at he
        have := h.lt hk
        omega
    · rw [kb j e1] at hj
      by_cases e2 : k = i
      · rw [e2, hρi, hρo j e1] at he
        have := h.lt hj
        omega
      · rw [kb k e2] at hk
        rw [hρo j e1, hρo k e2] at he
        exact h.inj j k _ _ _ _ hj hk he
  · intro t av ht
    by_cases e : t = d
    · subst e
      rw [k1] at ht
      obtain rfl := (XV.av.injEq _ _).mp ht
      rw [Pu.put_same _ _ _ (by rw [h.size]; exact hd)]
      show _ = _
      rw [hρi]
    · rw [k3 (.s t) (by simpa using e) (by simp)] at ht
      rw [Pu.getD_of_opt (Pu.put_other a (some d) _ t (fun h' => e (Option.some.inj h').symm))]
      exact (h.slt t av ht).go g2 fun b hb' => hptr b (h.own (.s t) b (by rw [ht]; exact hb'))
  · intro k b hk
    have tr : (∃ T ch, σ (.b b) = .blk T ch) → ∃ T ch, σ' (.b b) = .blk T ch := by
      rintro ⟨T', ch', hb'⟩
      exact ⟨T', ch', by rw [kb b (hne b T' ch' hb')]; exact hb'⟩
    by_cases e1 : k = .s d
    · subst e1
      rw [k1] at hk
      have : b = i := by simpa [XV.ptrs, AV.ptrs, SA.ptrs] using hk
      subst this
      exact ⟨T, ch, k2⟩
    · by_cases e2 : k = .b i
      · subst e2
        rw [k2] at hk
        exact tr (hp b hk)
      · rw [k3 k e1 e2] at hk
        exact tr (h.own k b hk)
  · by_cases e : j = i
    · subst e
      rw [k2] at hj
      obtain ⟨rfl, rfl⟩ := (XV.blk.injEq _ _ _ _).mp hj
      exact hpl
    · rw [kb j e] at hj
      exact h.pln j _ _ hj
  · by_cases e : j = i
    · subst e
      rw [hρi] at hX
      have := (h.xlt _ hX).2
      omega
    · rw [kb j e] at hj
      rw [hρo j e] at hX
      exact h.xne j _ _ hj hX

/-- A store into a variable of the call's own. -/
theorem Conc.sto {cx : Cx D} {n : Nat} {ρ : Nat → Nat} {σ : St D} {a : Act} {w w' : World} {i : Nat} {T : TypeId} {ch ch' : List (Ch D)} {cs' : List Value} (h : Conc cx n ρ σ a w)
    (hi : σ (.b i) = .blk T ch) (hos : w'.os = w.os) (htape : w'.tape = w.tape) (hout : w'.output = w.output) (hs : w'.heap.size = w.heap.size) (hbl : ∀ j, j ≠ ρ i → w'.heap[j]? = w.heap[j]?)
    (hc : w'.heap[ρ i]? = some (.cells cs'.toArray T (0, 0))) (hcs : Chs (Lof cx σ ρ) ρ w ch' cs') (hp : ∀ b ∈ chPtrs ch', ∃ T ch, σ (.b b) = .blk T ch) (hpl : chPlain ch' = true) : Conc cx n ρ (upd σ [(.b i, .blk T ch')]) a w' := by
  obtain ⟨σ', hσ⟩ : ∃ σ', σ' = upd σ [(.b i, .blk T ch')] := ⟨_, rfl⟩
  have k2 : σ' (.b i) = .blk T ch' := by rw [hσ]; show (bif Key.beq (.b i) (.b i) then _ else _) = _; rw [Key.beq_self]; rfl
  have k3 : ∀ k, k ≠ .b i → σ' k = σ k := fun k h1 => by rw [hσ]; exact upd_other (by simp [keys, h1])
  have hL : Lof cx σ' ρ = Lof cx σ ρ := by
    funext b
    apply propext
    constructor
    · rintro (h1 | ⟨j, T1, c1, h1, h2⟩)
      · exact .inl h1
      · by_cases e : j = i
        · subst e; exact .inr ⟨j, T, ch, hi, h2⟩
        · rw [k3 _ (by simpa using e)] at h1; exact .inr ⟨j, T1, c1, h1, h2⟩
    · rintro (h1 | ⟨j, T1, c1, h1, h2⟩)
      · exact .inl h1
      · by_cases e : j = i
        · subst e; exact .inr ⟨j, T, ch', k2, h2⟩
        · rw [← k3 _ (by simpa using e)] at h1; exact .inr ⟨j, T1, c1, h1, h2⟩
  have g : Goes (Lof cx σ ρ) w (Lof cx σ ρ) w' := Goes.store hs hbl (.inr ⟨i, T, ch, hi, rfl⟩)
  have tr : ∀ b, (∃ T ch, σ (.b b) = .blk T ch) → ∃ T ch, σ' (.b b) = .blk T ch := by
    rintro b ⟨T', c', hb'⟩
    by_cases e : b = i
    · subst e; exact ⟨T, ch', k2⟩
    · exact ⟨T', c', by rw [k3 _ (by simpa using e)]; exact hb'⟩
  have hge := (h.blk i T ch hi).1
  rw [← hσ]
  refine ⟨h.size, h.defers, h.below.trans ⟨hos, htape, hout, by rw [hs]; exact Nat.le_refl _, fun k hk => hbl k (by omega)⟩, ?_, ?_, ?_, ?_, fun j T1 c1 hj => ?_, fun b hb' => ⟨(h.xlt b hb').1, by rw [hs]; exact (h.xlt b hb').2⟩, fun j T1 c1 hj => ?_, cx.stab _ _ (fun b hb' => hbl b fun e => h.xne i T ch hi (e ▸ hb')) h.xr⟩
  · intro j T1 c1 hj
    rw [hL]
    by_cases e : j = i
    · subst e
      rw [k2] at hj
      obtain ⟨rfl, rfl⟩ := (XV.blk.injEq _ _ _ _).mp hj
      exact ⟨hge, cs', hc, hcs.go g fun _ _ => rfl⟩
    · rw [k3 _ (by simpa using e)] at hj
      obtain ⟨h1, cs, h2, h3⟩ := h.blk j T1 c1 hj
      exact ⟨h1, cs, (hbl _ fun e' => e (h.inj j i _ _ _ _ hj hi e')).trans h2, h3.go g fun _ _ => rfl⟩
  · intro j k T1 c1 T2 c2 hj hk he
    have f : ∀ m T1 c1, σ' (.b m) = .blk T1 c1 → ∃ T ch, σ (.b m) = .blk T ch := by
      intro m T1 c1 hm
      by_cases e : m = i
      · subst e; exact ⟨T, ch, hi⟩
      · rw [k3 _ (by simpa using e)] at hm; exact ⟨_, _, hm⟩
    obtain ⟨_, _, a1⟩ := f j _ _ hj
    obtain ⟨_, _, a2⟩ := f k _ _ hk
    exact h.inj j k _ _ _ _ a1 a2 he
  · intro t av ht
    rw [hL]
    rw [k3 _ (by simp)] at ht
    exact (h.slt t av ht).go g fun _ _ => rfl
  · intro k b hk
    by_cases e : k = .b i
    · subst e
      rw [k2] at hk
      exact tr b (hp b hk)
    · rw [k3 k e] at hk
      exact tr b (h.own k b hk)
  · by_cases e : j = i
    · subst e
      rw [k2] at hj
      obtain ⟨rfl, rfl⟩ := (XV.blk.injEq _ _ _ _).mp hj
      exact hpl
    · rw [k3 _ (by simpa using e)] at hj
      exact h.pln j _ _ hj
  · by_cases e : j = i
    · subst e
      exact h.xne j T ch hi
    · rw [k3 _ (by simpa using e)] at hj
      exact h.xne j _ _ hj
end
end Vc
end Go.Proofs.YtabjodomigllhaaGreatDoor
