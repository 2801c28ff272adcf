/-
  Data that stay what they are as long as
-/
import Derived.Test.YtcblbepaigdlgaaGreatJB14
import Derived.Test.YtcblbepaigdlgaaGreatJB45
set_option linter.unusedVariables false
set_option linter.unusedSimpArgs false
set_option linter.unusedSectionVars false
namespace Go.Proofs.YtcblbepaigdlgaaGreat
open Go.RowKit
open Dg Zn
namespace Vc
def CellsKept (L : Nat → Prop) (W W' : World) : Prop := W.heap.size ≤ W'.heap.size ∧ ∀ b, ¬ L b → ∀ off u, W.cell? ⟨b, off, none⟩ = some u → W'.cell? ⟨b, off, none⟩ = some u
theorem CellsKept.trans {L : Nat → Prop} {A B C : World} (h : CellsKept L A B) (k : CellsKept L B C) : CellsKept L A C := ⟨Nat.le_trans h.1 k.1, fun b hb off u hu => k.2 b hb off u (h.2 b hb off u hu)⟩
theorem cell_lt {W : World} {b off : Nat} {u : Value} (h : W.cell? ⟨b, off, none⟩ = some u) : b < W.heap.size := by
 rcases Nat.lt_or_ge b W.heap.size with hl | hl
 ·exact hl
 ·simp [World.cell?, Array.getElem?_eq_none hl] at h
theorem CellsKept.agree {L : Nat → Prop} {W W' : World} (h : Agree L W W') : CellsKept L W W' := ⟨h.1, fun b hb off u hu => (World.cell?_of_block (h.2 b (cell_lt hu) hb)).trans hu⟩
def Loc (s : SA Dm) : Prop := ∀ W W' v, (∀ b off u, W.cell? ⟨b, off, none⟩ = some u → W'.cell? ⟨b, off, none⟩ = some u) → s.at W v → s.at W' v
theorem nums_loc {W W' : World} {v : Value} {ds : List Nat} (hc : ∀ b off u, W.cell? ⟨b, off, none⟩ = some u → W'.cell? ⟨b, off, none⟩ = some u) (h : Nums W v ds) : Nums W' v ds := by
 obtain ⟨ao, cap, h1, h2, h3, h4⟩ := h
 refine ⟨ao, cap, h1, h2, h3, fun hl => ?_⟩
 obtain ⟨b, off, h5, h6⟩ := h4 hl
 exact ⟨b, off, h5, fun i hi => hc _ _ _ (h6 i hi)⟩
theorem loc_rt {p q : Int} {k : Nat} : Loc (.d (Dm.rt p q k)) := by
 rintro W W' v hc ⟨s, t, h1, h2, h3, h4, h5⟩
 exact ⟨s, t, h1, nums_loc hc h2, nums_loc hc h3, h4, h5⟩
theorem ats_loc {W W' : World} {k : Option Nat} (hc : ∀ b off u, W.cell? ⟨b, off, none⟩ = some u → W'.cell? ⟨b, off, none⟩ = some u) : ∀ {l : List (SA Dm)} {cs : List Value}, (∀ s ∈ l, Loc s) → Ats W k l cs → Ats W' k l cs
 | [], _, _, h => h
 | s :: l, cs, hl, ⟨p, r, v, h1, h2, h3, h4⟩ => ⟨p, r, v, h1, h2, hl s List.mem_cons_self W W' v hc h3, ats_loc hc (fun x hx => hl x (List.mem_cons_of_mem _ hx)) h4⟩
theorem loc_lst {k : Option Nat} {l : List (SA Dm)} (hl : ∀ s ∈ l, Loc s) : Loc (.d (Dm.gen (lstG k l))) := by
 rintro W W' v hc ⟨ao, cap, h1, h2, h3⟩
 refine ⟨ao, cap, h1, h2, fun hp => ?_⟩
 obtain ⟨b, off, e, cs, h4, h5⟩ := h3 hp
 exact ⟨b, off, e, cs, ats_loc hc hl h4, fun j u hj => hc _ _ _ (h5 j u hj)⟩
theorem loc_pl {l : List Rat} {K : Nat} : Loc (PL l K) := loc_lst fun s hs => by
 obtain ⟨b, _, rfl⟩ := List.mem_map.1 hs
 exact loc_rt
def Stab (L : Nat → Prop) (W : World) (s : SA Dm) (v : Value) : Prop := ∀ W', CellsKept L W W' → s.at W' v
theorem Stab.keep {L : Nat → Prop} {W W' : World} {s : SA Dm} {v : Value} (h : Stab L W s v) (hc : CellsKept L W W') : Stab L W' s v := fun _ hk => h _ (hc.trans hk)
theorem Stab.at {L : Nat → Prop} {W : World} {s : SA Dm} {v : Value} (h : Stab L W s v) : s.at W v := h W ⟨Nat.le_refl _, fun _ _ _ _ h => h⟩
open Classical in
theorem stab_of {L : Nat → Prop} {W : World} {s : SA Dm} {v : Value} (hl : Loc s) (h : ∀ W', Agree L W W' → s.at W' v) : Stab L W s v := by
 rintro W' ⟨h1, h2⟩
 obtain ⟨W2, hW2⟩ : ∃ W2 : World, W2 = { W' with heap := W'.heap.mapIdx fun b o => if b < W.heap.size ∧ ¬ L b then W.heap[b]?.getD o else o } := ⟨_, rfl⟩
 have hs : W2.heap.size = W'.heap.size := by rw [hW2]; simp
 have hb : ∀ b, b < W'.heap.size → W2.heap[b]? = if b < W.heap.size ∧ ¬ L b then W.heap[b]? else W'.heap[b]? := by
  intro b hb
  rw [hW2]
  simp only [Array.getElem?_mapIdx, Array.getElem?_eq_getElem hb, Option.map_some]
  split
  ·rename_i hc
   rw [Array.getElem?_eq_getElem hc.1]
   rfl
  ·rfl
 have hag : Agree L W W2 := by
  refine ⟨by rw [hs]; exact h1, fun b hbl hnl => ?_⟩
  rw [hb b (by omega), if_pos ⟨hbl, hnl⟩]
 refine hl W2 W' v (fun b off u hu => ?_) (h W2 hag)
 have hbl : b < W'.heap.size := by have := cell_lt hu; omega
 by_cases hc : b < W.heap.size ∧ ¬ L b
 ·have e : W2.cell? ⟨b, off, none⟩ = W.cell? ⟨b, off, none⟩ := World.cell?_of_block (by rw [hb b hbl, if_pos hc])
  exact h2 b hc.2 off u (e ▸ hu)
 ·have e : W2.cell? ⟨b, off, none⟩ = W'.cell? ⟨b, off, none⟩ := World.cell?_of_block (by rw [hb b hbl, if_neg hc])
  exact e ▸ hu
theorem stab_is {L : Nat → Prop} {ρ : Rho} {W : World} {x : Dm} {v : Value} (hl : Loc (.d x)) (h : (SA.d x).is L ρ W v) : Stab L W (.d x) v := stab_of hl h
theorem kept_grown {L : Nat → Prop} {W W' : World} {row : Option Nat} (hg : W.grownBy W' row) (hr : ∀ r, row = some r → ∃ o : Obj, W.heap[r]? = some o ∧ o.isCells = false) : CellsKept L W W' := by
 refine ⟨hg.size, fun b _ off u hu => ?_⟩
 have hb := cell_lt hu
 by_cases e : some b = row
 ·obtain ⟨o, ho, hc⟩ := hr b e.symm
  cases o <;> simp [World.cell?, ho, Obj.isCells] at hu hc
 ·exact (World.cell?_of_block (hg.block b hb e)).trans hu
theorem kept_below {L : Nat → Prop} {W W' : World} (h : Below W.heap.size W W') : CellsKept L W W' := .agree (Agree.below h)
theorem kept_set {L : Nat → Prop} {W : World} {b o : Nat} {vs : List Value} (hb : L b) : CellsKept L W (W.setCells b o vs) := by
 refine ⟨Nat.le_of_eq (size_setCells' ..).symm, fun c hc off u hu => ?_⟩
 exact (World.cell?_of_block (other_setCells _ _ _ _ c (fun e => hc (e ▸ hb)))).trans hu
def FK : Key := .b 2000000
def rcx (W : World) (L : Nat → Prop) (hlt : ∀ b, L b → b < W.heap.size) (hni : NoInt L W) : Cx0 Dm := { w0 := W, L0 := L, lt := hlt, fr := false, Bw := fun _ => False, bl := fun _ h => h.elim, bw := fun _ _ h => h, ni := fun _ => hni, wf := fun _ _ _ => trivial }
def Stored (W : World) (L : Nat → Prop) (B : Nat) (k : Option Nat) (s : SA Dm) (w : World) : Prop := ∃ w1 v, ∃ cs : List Value, Below W.heap.size W w1 ∧ Stab L w1 s v ∧ Shaped k v cs ∧ w = w1.setCells B 0 cs
section
variable {W : World} {L : Nat → Prop} {hlt : ∀ b, L b → b < W.heap.size} {hni : NoInt L W} {B n : Nat} {k : Option Nat} {s : SA Dm} {P : Program} {ops : Array Oper} {σ : St Dm} {o : Oper}
def CS (W : World) (L : Nat → Prop) (hlt : ∀ b, L b → b < W.heap.size) (hni : NoInt L W) (n B : Nat) (k : Option Nat) (s : SA Dm) (σ : St Dm) (a : Act) (w : World) : Prop :=
 (σ FK = .no ∧ CC (rcx W L hlt hni).cx n σ a w) ∨ (σ FK = .dead ∧ Stored W L B k s w)
theorem CS.drew {l : Sg Dm} {a : Act} {w : World} (h0 : lookD .no l FK = .no) (h : CS W L hlt hni n B k s (lookD .no l) a w) : CS W L hlt hni n B k s (lookD .no l) a w.drew := by
 rcases h with ⟨h1, h2⟩ | ⟨h1, _⟩
 ·exact .inl ⟨h1, h2.drew⟩
 ·rw [h0] at h1; cases h1
theorem OpOk.flag {rd : List Key} {wr : List (Key × XV Dm)} (h : OpOk P (rcx W L hlt hni).cx n σ o rd wr) (hg : o.guard = none) (hσ : σ FK = .no) (hk : anyB (keys wr) [FK] = false) : StepOk (CS W L hlt hni n B k s) P ops σ o ⟨FK :: rd, wr⟩ := by
 intro σ' a w Q hC h1 h2
 have hF : σ' FK = .no := (h1 FK List.mem_cons_self).trans hσ
 rcases hC with ⟨_, hC⟩ | ⟨e, _⟩
 ·refine .inl ⟨by simp [Region.wanted, hg], fun K hK => h σ' a w Q hC (fun q hq => h1 q (List.mem_cons_of_mem _ hq)) h2 K fun a' w' hc => hK a' w' (.inl ⟨?_, hc⟩)⟩
  rw [upd_other (fun hm => anyB_false hk hm List.mem_cons_self)]
  exact hF
 ·rw [hF] at e; cases e
end
section
variable {cx : Cx Dm} {n : Nat} {P : Program} {σ : St Dm} {o : Oper}
theorem conc_start {ρ : Rho} {l : Sg Dm} {a : Act} (hsz : a.tmps.size = n) (hdf : a.defers = []) (hb : ∀ i, lookD .no l (.b i) = .no) (hs : ∀ t, lookD .no l (.s t) = .no ∨ ∃ av, lookD .no l (.s t) = .av av ∧ av.ptrs = [] ∧ av.is cx.L0 ρ cx.w0 (a.tmps.getD t undef)) : Conc cx n ρ (lookD .no l) a cx.w0 := by
 have hlive : ∀ i, ¬ live (lookD .no l) ρ i := fun i h => live_ne h (hb i)
 have hL : Lof cx (lookD .no l) ρ = cx.L0 := by
  funext b
  unfold Lof
  refine propext ⟨fun h => ?_, .inl⟩
  rcases h with h | ⟨i, h, _⟩
  ·exact h
  ·exact absurd h (hlive i)
 refine ⟨hsz, hdf, Kept.refl _ _ _, fun i h => absurd h (hlive i), fun i T ch h => ?_, fun i T k l h => ?_, fun i j h => absurd h (hlive i), fun t av h => ?_, fun q b h => ?_, fun i T ch h => ?_⟩
 ·rw [hb] at h; cases h
 ·rw [hb] at h; cases h
 ·rcases hs t with e | ⟨av', e, _, h2⟩
  ·rw [e] at h; cases h
  ·rw [e] at h
   obtain rfl := (XV.av.injEq _ _).mp h
   rw [hL]
   exact h2
 ·cases q with
  | s t =>
   rcases hs t with e | ⟨av', e, h1, _⟩
   ·rw [e] at h; cases h
   ·rw [e, show XV.ptrs (XV.av av') = av'.ptrs from rfl, h1] at h
    cases h
  | b i => rw [hb] at h; cases h
 ·rw [hb] at h; cases h
end
section
variable {W : World} {L : Nat → Prop} {hlt : ∀ b, L b → b < W.heap.size} {hni : NoInt L W} {B n : Nat} {k : Option Nat} {s : SA Dm} {P : Program} {ops : Array Oper} {σ : St Dm} {o : Oper}
theorem rcx_kept {ρ : Rho} {a : Act} {w : World} (h : Conc (rcx W L hlt hni).cx n ρ σ a w) : Below W.heap.size W w :=
 ⟨h.kept.os, h.kept.tape, h.kept.output, h.kept.size, fun b hb => h.kept.block b hb (fun q => q)⟩
theorem rcx_cells {ρ : Rho} {a : Act} {w w' : World} (h : Conc (rcx W L hlt hni).cx n ρ σ a w) (hag : Agree (Lof (rcx W L hlt hni).cx σ ρ) w w') : CellsKept L W w' := by
 have hb := rcx_kept h
 refine ⟨Nat.le_trans hb.size hag.1, fun b hnl off u hu => ?_⟩
 have hbl := cell_lt hu
 have e1 : w.heap[b]? = W.heap[b]? := hb.block b hbl
 have e2 : w'.heap[b]? = w.heap[b]? := hag.2 b (Nat.lt_of_lt_of_le hbl hb.size) (by
  rintro (q | ⟨i, q1, q2⟩)
  ·exact hnl q
  ·rcases h.mine i q1 with m | m
   ·have : W.heap.size ≤ (ρ i).1 := m
    omega
   ·exact m)
 exact (World.cell?_of_block (e2.trans e1)).trans hu
theorem stab_less {L' : Nat → Prop} {w : World} {v : Value} (hL : ∀ b, L b → L' b) (h : Stab L' w s v) : Stab L w s v := fun W' hk => h W' ⟨hk.1, fun b hb => hk.2 b fun q => hb (hL b q)⟩
theorem ok_loadV {ty : TypeId} {t d : Nat} {v0 : Value} {cs0 : List Value} {T : TypeId} (hB : W.heap[B]? = some (.cells cs0.toArray T (0, 0))) (hsh : Shaped k v0 cs0) (hst : Stab L W s v0) (hs0 : s.ptrs = []) (hty : TyIs P ty k) (ho : o.op = .load ty (.tmp t)) (hd : o.dst = some d) (hn : d < n) (ht : σ (.s t) = .av (.one (.v (.pointer (some ⟨B, 0, none⟩))))) :
  OpOk P (rcx W L hlt hni).cx n σ o [.s t] [(.s d, .av (.one s))] := by
 intro σ' a w Q ⟨ρ, h⟩ h1 _ K hK
 have ht' := (h1 (.s t) (by simp)).trans ht
 have e1 : a.eval (.tmp t) = .pointer (some ⟨B, 0, none⟩) := h.slt t _ ht'
 have hBl : B < W.heap.size := by
  rcases Nat.lt_or_ge B W.heap.size with hl | hl
  ·exact hl
  ·rw [Array.getElem?_eq_none hl] at hB; cases hB
 have hBw : w.heap[B]? = some (.cells cs0.toArray T (0, 0)) := ((rcx_kept h).block B hBl).trans hB
 have hr : (execOp a.eval o).run P w = .ok (.value v0) w := by
  have hl := run_loadVar_at (P := P) (w := w) (b := B) (off := 0) (cs := cs0) (ty := ty) (k := k) (v := v0) (fun j c hj => by rw [Nat.zero_add]; simpa [World.cell?, hBw] using hj) hsh hty
  simp only [execOp, ho, e1, Sem.run_bind, Instr.loadAt, Instr.sureAddr, Sem.run_pure, Result.andThen_ok, hl]
 unfold Oper.wp
 rw [hr, Oper.upon_value, hd]
 exact hK _ _ ⟨ρ, h.put (Below.refl _ _) hn (at_is fun w'' hag => hst w'' (rcx_cells h hag)) (by show ∀ b ∈ s.ptrs, _; rw [hs0]; intro b hb; cases hb)⟩
theorem step_storeV {ty T : TypeId} {t u : Nat} {x : Dm} {cs0 : List Value} (hB : W.heap[B]? = some (.cells cs0.toArray T (0, 0))) (hlen : cs0.length = k.getD 1) (hl : Loc (.d x)) (hk : (SA.d x : SA Dm).kind = some k) (hsz : (P.info? ty).map (·.size) = some (k.getD 1)) (hg : o.guard = none) (ho : o.op = .store ty (.tmp t) (.tmp u)) (hd : o.dst = none)
  (hF : σ FK = .no) (ht : σ (.s t) = .av (.one (.v (.pointer (some ⟨B, 0, none⟩))))) (hu : σ (.s u) = .av (.one (.d x))) : StepOk (CS W L hlt hni n B k (.d x)) P ops σ o ⟨[FK, .s t, .s u], [(FK, .dead)]⟩ := by
 intro σ' a w Q hC h1 h2
 have hF' : σ' FK = .no := (h1 FK (by simp)).trans hF
 rcases hC with ⟨_, ρ, h⟩ | ⟨e, _⟩
 ·refine .inl ⟨by simp [Region.wanted, hg], fun K hK => ?_⟩
  have e1 : a.eval (.tmp t) = .pointer (some ⟨B, 0, none⟩) := h.slt t _ ((h1 (.s t) (by simp)).trans ht)
  have hv : (SA.d x : SA Dm).is (Lof (rcx W L hlt hni).cx σ' ρ) ρ w (a.eval (.tmp u)) := h.slt u _ ((h1 (.s u) (by simp)).trans hu)
  obtain ⟨p', hp'⟩ := SA.kind_ok hk hv
  have hBl : B < W.heap.size := by
   rcases Nat.lt_or_ge B W.heap.size with hl | hl
   ·exact hl
   ·rw [Array.getElem?_eq_none hl] at hB; cases hB
  have hBw : w.heap[B]? = some (.cells cs0.toArray T (0, 0)) := ((rcx_kept h).block B hBl).trans hB
  have hr : (execOp a.eval o).run P w = .ok .skip (w.setCells B 0 p') := by
   have hst := run_storeCells_cells (P := P) B 0 p' 0 w (fun j hj => by
     have : j < cs0.length := by rw [hlen, ← hp'.length]; exact hj
     simp [World.cell?, hBw, this]) (fun j hj => by simp [World.frozen?, hBw]) hp'.one
   rw [Nat.add_zero] at hst
   cases hq : P.info? ty with
   | none => simp [hq] at hsz
   | some inf =>
    have e2 : inf.size = k.getD 1 := by simpa [hq] using hsz
    have e3 : (a.eval (.tmp u)).cells.size = inf.size := by rw [hp'.cells, e2, ← hp'.length]; simp
    simp [execOp, ho, e1, Instr.storeAt, Instr.sureAddr, storeVar, sizeOf, typeInfo, hq, hp'.cells, hst]
    rw [show p'.length = inf.size by rw [e2, hp'.length]]
  unfold Oper.wp
  rw [hr, Oper.upon_skip, hd]
  refine hK _ _ (.inr ⟨upd1, w, a.eval (.tmp u), p', rcx_kept h, ?_, hp', rfl⟩)
  exact stab_less (fun b hb => .inl hb) (stab_is hl hv)
 ·rw [hF'] at e; cases e
end
end Vc
end Go.Proofs.YtcblbepaigdlgaaGreat
