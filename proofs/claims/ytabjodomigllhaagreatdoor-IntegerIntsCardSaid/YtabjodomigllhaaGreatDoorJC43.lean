/-
  Rows of numbers: opened, appended to, closed; literals, indices; an integer built of its parts.
-/
import Derived.Test.YtabjodomigllhaaGreatDoorJC42
import Derived.ArgAppend
import Derived.Laws.OwnMore
namespace Go.Proofs.YtabjodomigllhaaGreatDoor
open Go.RowKit
open Go.Lib (hid)
open Dg Zn
namespace Vc

section
variable {c : Cx0 Dm} {n : Nat} {σ : St Dm} {ops : Array Oper} {o : Oper} {d s : Nat} {y : Operand}

theorem owns_base {w : World} {base base' : Nat} {V : Value} {m : Nat} {xs : List Value} (h : w.ownsRow base 3 1 V m xs) (hb : ∀ g, V.ownBlock = some g → base' ≤ g) : w.ownsRow base' 3 1 V m xs := by
  refine ⟨h.1, h.2.imp id ?_⟩
  rintro ⟨g, cap, cur, rfl, hg, hr⟩
  exact ⟨g, cap, cur, rfl, hb g rfl, hr⟩
theorem run_append_empty (w : World) (base : Nat) (ty : TypeId) (V : Value) (m : Nat) (xs : List Value) (cc : Nat) (hown : w.ownsRow base 3 1 V m xs) : (Builtin.append_ #[22, 22] ty #[V, .slice none 0 cc]).run Tryz.prog w = .ok V w := by
  obtain ⟨i0, hi, hz0, hz1, hz2⟩ := info_parts Tryz.int_info
  rcases hown.2 with ⟨rfl, rfl⟩ | ⟨g, cap, cur, rfl, _, _, hnc, _⟩
  · simp [Builtin.append_, run_underlying Tryz.under_ints, sizeOf, typeInfo, hi, Builtin.lenOf, Builtin.firstCells]
  · simp [Builtin.append_, run_underlying Tryz.under_ints, sizeOf, typeInfo, hi, Builtin.lenOf, Builtin.firstCells, hnc, storeCells]
/-- What append does to a row of one's own. -/
theorem run_append_row (w : World) (base : Nat) (ty : TypeId) (V u : Value) (zs xs : List Int) (hbase : base ≤ w.heap.size) (hown : w.ownsRow base 3 1 V zs.length (zs.map (Value.int .i64))) (hu : Row .i64 w u xs) (hlen : zs.length + xs.length ≤ 1099511627776) :
    ∃ v' w', (Builtin.append_ #[22, 22] ty #[V, u]).run Tryz.prog w = .ok v' w' ∧ w'.ownsRow base 3 1 v' (zs ++ xs).length ((zs ++ xs).map (Value.int .i64)) ∧ w.grownBy w' V.ownBlock ∧ (v'.ownBlock = V.ownBlock ∨ w'.ownsRow w.heap.size 3 1 v' (zs ++ xs).length ((zs ++ xs).map (Value.int .i64))) := by
  obtain ⟨i0, hi, hz0, hz1, hz2⟩ := info_parts Tryz.int_info
  obtain ⟨ao, cc, rfl, c1, c2, g2⟩ := hu
  cases ao with
  | none =>
    have hx : xs = [] := by
      rcases Nat.eq_zero_or_pos xs.length with h | h
      · exact List.eq_nil_of_length_eq_zero h
      · obtain ⟨_, _, e, _⟩ := g2 h; cases e
    subst hx
    refine ⟨V, w, run_append_empty w base ty V _ _ cc hown, ?_, ⟨rfl, rfl, rfl, Nat.le_refl _, fun k _ _ => rfl⟩, .inl rfl⟩
    rw [List.append_nil]
    exact hown
  | some ad =>
    have hnews : ∀ j u, (xs.map (Value.int .i64))[j]? = some u → w.cell? (ad.add j) = some u := by
      intro j u hj
      have hp : 0 < xs.length := by
        have := (List.getElem?_eq_some_iff.1 hj).1
        rw [List.length_map] at this
        omega
      obtain ⟨b, off, e, hc⟩ := g2 hp
      obtain rfl := Option.some.inj e
      exact row_cells hc j u hj
    rw [List.length_append, List.map_append]
    rcases hown.2 with ⟨rfl, hz⟩ | ⟨g, cap, cur, rfl, hbg, hh, hnc, hcm, hcs, htake⟩
    · obtain rfl : zs = [] := List.eq_nil_of_length_eq_zero hz
      obtain ⟨v', w', q1, q2, q3, _⟩ := run_append_own (P := Tryz.prog) w w.heap.size 22 ty 3 i0 (.int .i64 0) 1 8 Tryz.under_ints hi hz0 hz1 hz2 rfl (by decide) (.slice none 0 0) 0 [] (World.ownsRow_nil _ _ _ _) ad xs.length cc (xs.map (Value.int .i64)) (by simp) hnews (by simp [Value.oneCell']) (by unfold maxLen; omega) (by omega) (Nat.le_refl _)
      refine ⟨v', w', q1, ?_, q3, .inr q2⟩
      exact owns_base q2 fun g hg => Nat.le_trans hbase (World.ownsRow.lt q2 g hg).1
    · by_cases hroom : zs.length + xs.length ≤ cap
      · obtain ⟨w', q1, q2, q3⟩ := run_append_fits (P := Tryz.prog) w base 22 ty 3 i0 1 Tryz.under_ints hi hz1 g zs.length cap _ hown ad xs.length cc (xs.map (Value.int .i64)) (by simp) hnews (by simp [Value.oneCell']) hroom
        exact ⟨_, w', q1, q2, q3, .inl rfl⟩
      · obtain ⟨v', w', q1, q2, q3⟩ := run_append_arg_grows (P := Tryz.prog) w 22 ty 3 i0 (.int .i64 0) 1 8 Tryz.under_ints hi hz0 hz1 hz2 rfl (by decide) ⟨g, 0, none⟩ zs.length cap (zs.map (Value.int .i64)) (by simp) (fun j u hj => by
          have hjl := (List.getElem?_eq_some_iff.1 hj).1
          rw [List.length_map] at hjl
          rw [Addr.add_lit, Nat.zero_add, World.ownsRow.cellAt hown j (by omega), hj]) ad xs.length cc (xs.map (Value.int .i64)) (by simp) hnews (by omega) (by unfold maxLen; omega) (by omega)
        refine ⟨v', w', q1, ?_, ⟨q3.os, q3.tape, q3.output, q3.size, fun k hk _ => q3.block k hk (by simp)⟩, .inr q2⟩
        exact owns_base q2 fun g hg => Nat.le_trans hbase (World.ownsRow.lt q2 g hg).1

theorem grownBy_open {w w' : World} {V : Value} (hg : w.grownBy w' V.ownBlock) : World.grownBy w w' none ∨ ∃ g, V.ownBlock = some g ∧ World.grownBy w w' (some g) := by
  cases e : V.ownBlock with
  | none => rw [e] at hg; exact .inl hg
  | some g => rw [e] at hg; exact .inr ⟨g, rfl, hg⟩
/-- The block of what append returns is that of its row, or new. -/
theorem owns_new {w w' : World} {V v' : Value} {m' : Nat} {xs' : List Value} {base : Nat} (h' : w'.ownsRow base 3 1 v' m' xs') (hor : v'.ownBlock = V.ownBlock ∨ w'.ownsRow w.heap.size 3 1 v' m' xs') : ∀ b, v'.ownBlock = some b → (V.ownBlock = some b ∨ w.heap.size ≤ b) ∧ b < w'.heap.size := by
  intro b hb
  refine ⟨?_, (World.ownsRow.lt h' b hb).2⟩
  rcases hor with e | e
  · exact .inl (e ▸ hb)
  · exact .inr (World.ownsRow.lt e b hb).1

theorem ok_rowOpen (ho : o.op = .buildSlice 22 0 #[]) (hg : o.guard = none) (hd : o.dst = some d) (hn : d < n) (hx : σ KX = .no) :
    StepOk (C3 c n) Tryz.prog ops σ o ⟨[], [(.s d, .blk 0 []), (KX, .blk d (rowX []))]⟩ := by
  intro σ' a w Q hC h1 h2
  refine .inl ⟨by simp [Region.wanted, hg], fun K hK => ?_⟩
  have e0 : σ' KX = .no := (h2 KX (by simp [keys])).trans hx
  rcases hC with ⟨_, ρ, h⟩ | ⟨s', zs', V, e1, _⟩
  rotate_left
  · rw [e0] at e1; cases e1
  have hrun : (execOp a.eval o).run Tryz.prog w = .ok (.value (.slice (some ⟨w.heap.size, 0, none⟩) 0 0)) (w.alloc (.cells #[] 3)) := by
    have hsz : (sizeOf 3).run Tryz.prog w = .ok 1 w := size_of ty_i64.2 w
    simp only [execOp, ho, Sem.run_bind]
    rw [show (#[] : Array (Nat × Operand)).map (fun p => (p.1, a.eval p.2)) = #[] by simp]
    simp [Instr.buildSlice, run_underlying Tryz.under_ints, hsz, Instr.fill, newRow]
    rw [show Array.range 0 = #[] from by decide, Array.map_empty]
  have hown : (w.alloc (.cells #[] 3)).ownsRow w.heap.size 3 1 (.slice (some ⟨w.heap.size, 0, none⟩) 0 0) 0 [] := World.ownsRow_lit w #[] 0 (Nat.le_refl _) (by decide) rfl
  unfold Oper.wp
  rw [hrun, Oper.upon_value, hd]
  refine hK _ _ (.inr ⟨d, [], .slice (some ⟨w.heap.size, 0, none⟩) 0 0, rfl, ?_, ρ, ?_⟩)
  · show (bif Key.beq (.s d) (.s d) then _ else _) = _; rw [Key.beq_self]; rfl
  · have hc := h.shift (c := c) (X' := fun b => (Value.slice (some ⟨w.heap.size, 0, none⟩) 0 0).ownBlock = some b) (st' := (cxX c (.slice (some ⟨w.heap.size, 0, none⟩) 0 0) []).stab) (w' := w.alloc (.cells #[] 3)) (v := .slice (some ⟨w.heap.size, 0, none⟩) 0 0) (av := .one (.v (.slice (some ⟨w.heap.size, 0, none⟩) 0 0))) (d := d)
      (.inl (World.grownBy_alloc w _ none)) (fun b hb => by obtain rfl : w.heap.size = b := Option.some.inj hb; exact ⟨.inr (Nat.le_refl _), by simp⟩) (owns_base hown fun g hg => by obtain rfl : w.heap.size = g := Option.some.inj hg; exact h.below.size) hn rfl (by intro b hb; cases hb)
    refine hc.drop (fun i => ?_) (fun t => ?_)
    · by_cases e : i = 1000000
      · subst e
        rw [show upd σ' _ (.b 1000000) = σ' (.b 1000000) from rfl]
        exact e0.symm
      · have hk : Key.b i ∉ keys (X := XV Dm) [(KX, .no), (.s d, .av (.one (.v (.slice (some ⟨w.heap.size, 0, none⟩) 0 0))))] := by simp [keys, KX, e]
        rw [upd_other hk, upd_other (by simp [keys, KX, e]), upd_other (by simp [keys])]
    · by_cases e : t = d
      · subst e
        left
        have q1 : Key.s t ∈ keys (X := XV Dm) [(KX, .no), (.s t, .av (.one (.v (.slice (some ⟨w.heap.size, 0, none⟩) 0 0))))] := by simp [keys]
        show (bif Key.beq KX (.s t) then _ else bif Key.beq (.s t) (.s t) then _ else _) = (bif Key.beq (.s t) (.s t) then _ else _)
        rw [Key.beq_self]
        rfl
      · left
        rw [upd_other (by simp [keys, KX, e]), upd_other (by simp [keys, KX, e]), upd_other (by simp [keys, e])]

theorem blk_inj {T T' : TypeId} {ch ch' : List (Ch Dm)} (h : (XV.blk T ch : XV Dm) = .blk T' ch') : T = T' ∧ ch = ch' := by injection h with h1 h2; exact ⟨h1, h2⟩
theorem row_is {w : World} {base : Nat} {V : Value} {zs : List Int} (h : w.ownsRow base 3 1 V zs.length (zs.map (Value.int .i64))) : Row .i64 w V zs := row_of_owns h
/-- What the two laws on append share. -/
theorem append_run {zs xs : List Int} {e : Dm} (hlen : zs.length + xs.length ≤ 1099511627776) (he : ∀ w v, Dm.at e w v → Row .i64 w v xs) (ho : o.op = .call ⟨.builtin .append, #[.tmp s, y], #[22, 22]⟩) (hx : σ KX = .blk s (rowX zs)) (hy : opd σ y = .av (.one (.d e))) (hk : (opk y).all (okKey σ) = true)
    {σ' : St Dm} {a : Act} {w : World} (hC : C3 c n σ' a w) (h1 : ∀ k ∈ KX :: Key.s s :: opk y, σ' k = σ k) :
    ∃ V ρ v' w', Conc (cxX c V zs) n ρ (upd σ' [(KX, .no), (.s s, .av (.one (.v V)))]) a w ∧ σ' (.s s) = .blk 0 [] ∧ (execOp a.eval o).run Tryz.prog w = .ok (.value v') w' ∧ w'.ownsRow c.w0.heap.size 3 1 v' (zs ++ xs).length ((zs ++ xs).map (Value.int .i64)) ∧
      (World.grownBy w w' none ∨ ∃ g, V.ownBlock = some g ∧ World.grownBy w w' (some g)) ∧ ∀ b, v'.ownBlock = some b → (V.ownBlock = some b ∨ w.heap.size ≤ b) ∧ b < w'.heap.size := by
  have e0 : σ' KX = .blk s (rowX zs) := (h1 KX (by simp)).trans hx
  rcases hC with ⟨q, _⟩ | ⟨s', zs', V, e1, e2, ρ, h⟩
  · rw [q] at e0; cases e0
  obtain ⟨rfl, hz⟩ := blk_inj (e0.symm.trans e1)
  obtain rfl := rowX_inj hz
  have hs : a.eval (.tmp s) = V := by
    refine h.slt s (.one (.v V)) ?_
    show (bif Key.beq KX (.s s) then _ else bif Key.beq (.s s) (.s s) then _ else _) = _
    rw [Key.beq_self]
    rfl
  have hyv : opd (upd σ' [(KX, .no), (.s s, .av (.one (.v V)))]) y = .av (.one (.d e)) := by
    refine (opd_same fun k hk' => ?_).trans hy
    have h3 := List.all_eq_true.1 hk k hk'
    have h4 := h1 k (List.mem_cons_of_mem _ (List.mem_cons_of_mem _ hk'))
    rw [upd_other]
    · exact h4
    · simp only [keys, List.map_cons, List.map_nil, List.mem_cons, List.not_mem_nil, or_false, not_or]
      exact ⟨okKey_ne h3, okKey_s h3 h4 e2⟩
  have hrow : Row .i64 w (a.eval y) xs := he _ _ ((h.opd hyv) w (Agree.refl _ _))
  obtain ⟨v', w', q1, q2, q3, q4⟩ := run_append_row w c.w0.heap.size o.type V (a.eval y) zs xs h.below.size h.xr hrow hlen
  refine ⟨V, ρ, v', w', h, e2, ?_, q2, grownBy_open q3, owns_new q2 q4⟩
  simp only [execOp, ho, resolve, invoke, builtin, Sem.run_bind, Sem.run_pure, Result.andThen_ok]
  rw [show (#[.tmp s, y] : Array Operand).map a.eval = #[V, a.eval y] by simp [hs], q1]
  rfl
theorem ok_rowMore {zs xs : List Int} {e : Dm} (hlen : zs.length + xs.length ≤ 1099511627776) (he : ∀ w v, Dm.at e w v → Row .i64 w v xs) (hds : d ≠ s) (ho : o.op = .call ⟨.builtin .append, #[.tmp s, y], #[22, 22]⟩) (hg : o.guard = none) (hd : o.dst = some d) (hn : d < n) (hx : σ KX = .blk s (rowX zs)) (hy : opd σ y = .av (.one (.d e))) (hk : (opk y).all (okKey σ) = true) :
    StepOk (C3 c n) Tryz.prog ops σ o ⟨KX :: .s s :: opk y, [(.s d, .blk 0 []), (KX, .blk d (rowX (zs ++ xs))), (.s s, .no)]⟩ := by
  intro σ' a w Q hC h1 h2
  refine .inl ⟨by simp [Region.wanted, hg], fun K hK => ?_⟩
  obtain ⟨V, ρ, v', w', h, e2, hrun, hown, hgr, hnew⟩ := append_run hlen he ho hx hy hk hC h1
  unfold Oper.wp
  rw [hrun, Oper.upon_value, hd]
  refine hK _ _ (.inr ⟨d, zs ++ xs, v', ?_, ?_, ρ, ?_⟩)
  · show (bif Key.beq (.s d) KX then _ else bif Key.beq KX KX then _ else _) = _
    rw [Key.beq_self]
    rfl
  · show (bif Key.beq (.s d) (.s d) then _ else _) = _; rw [Key.beq_self]; rfl
  · have hc := h.shift (c := c) (X' := fun b => v'.ownBlock = some b) (st' := (cxX c v' (zs ++ xs)).stab) (w' := w') (v := v') (av := .one (.v v')) (d := d) hgr hnew hown hn rfl (by intro b hb; cases hb)
    refine hc.drop (fun i => ?_) (fun t => ?_)
    · by_cases e : i = 1000000
      · subst e; rfl
      · rw [upd_other (by simp [keys, KX, e]), upd_other (by simp [keys, KX, e]), upd_other (by simp [keys]), upd_other (by simp [keys, KX, e])]
    · by_cases e : t = d
      · subst e
        left
        show (bif Key.beq KX (.s t) then _ else bif Key.beq (.s t) (.s t) then _ else _) = (bif Key.beq (.s t) (.s t) then _ else _)
        rw [Key.beq_self]
        rfl
      · by_cases e3 : t = s
        · subst e3
          right
          have hv : upd (upd σ' [(Key.s d, XV.blk 0 []), (KX, .blk d (rowX (zs ++ xs))), (.s t, .no)]) [(KX, .no), (.s d, .av (.one (.v v')))] (.s t) = .no := by
            rw [upd_other (by simp [keys, KX, e])]
            show (bif Key.beq (.s d) (.s t) then _ else bif Key.beq KX (.s t) then _ else bif Key.beq (.s t) (.s t) then _ else _) = _
            rw [Key.beq_ne (by simpa using hds), Key.beq_self]
            rfl
          intro av
          exact ⟨fun q => (by rw [hv] at q; cases q), by rw [hv]; rfl⟩
        · left
          rw [upd_other (by simp [keys, KX, e]), upd_other (by simp [keys, KX, e, e3]), upd_other (by simp [keys, e]), upd_other (by simp [keys, KX, e3])]
theorem ok_rowClose {zs xs : List Int} {e : Dm} (hlen : zs.length + xs.length ≤ 1099511627776) (he : ∀ w v, Dm.at e w v → Row .i64 w v xs) (hds : d ≠ s) (ho : o.op = .call ⟨.builtin .append, #[.tmp s, y], #[22, 22]⟩) (hg : o.guard = none) (hd : o.dst = some d) (hn : d < n) (hx : σ KX = .blk s (rowX zs)) (hy : opd σ y = .av (.one (.d e))) (hk : (opk y).all (okKey σ) = true) :
    StepOk (C3 c n) Tryz.prog ops σ o ⟨KX :: .s s :: opk y, [(.s d, .av (.one (.d (.gen (rowG (zs ++ xs)))))), (KX, .no), (.s s, .no)]⟩ := by
  intro σ' a w Q hC h1 h2
  refine .inl ⟨by simp [Region.wanted, hg], fun K hK => ?_⟩
  obtain ⟨V, ρ, v', w', h, e2, hrun, hown, hgr, hnew⟩ := append_run hlen he ho hx hy hk hC h1
  unfold Oper.wp
  rw [hrun, Oper.upon_value, hd]
  refine hK _ _ (.inl ⟨?_, ρ, ?_⟩)
  · show (bif Key.beq (.s d) KX then _ else bif Key.beq KX KX then _ else _) = _
    rfl
  · have hdat : (AV.one (SA.d (Dm.gen (rowG (zs ++ xs))))).is (Lof c.cx (upd σ' [(KX, .no), (.s s, .av (.one (.v V)))]) ρ) ρ w' v' := by
      intro w'' hag
      obtain ⟨ao', c', q1, q2, q3, q4⟩ := row_of_owns hown
      refine ⟨ao', c', q1, q2, q3, fun hl => ?_⟩
      obtain ⟨g, off', q5, q6⟩ := q4 hl
      refine ⟨g, off', q5, fun i hi => ?_⟩
      have hb : v'.ownBlock = some g := by rw [q1, q5]; rfl
      obtain ⟨k1, k2⟩ := hnew g hb
      have hnl : ¬ Lof c.cx (upd σ' [(KX, .no), (.s s, .av (.one (.v V)))]) ρ g := by
        rintro ((hL | hL) | ⟨i, T, ch, hi, hL⟩)
        · have hlt : g < c.w0.heap.size := c.lt g hL
          have := (World.ownsRow.lt hown g hb).1
          omega
        · exact hL
        · rcases k1 with k1 | k1
          · exact h.xne i T ch hi (by rw [hL]; exact k1)
          · have := h.lt hi
            omega
      rw [World.cell?_of_block (w := w') (hag.2 g k2 hnl)]
      exact q6 i hi
    have hc := h.shift (c := c) (X' := fun _ => False) (R' := fun _ => True) (st' := c.cx.stab) (w' := w') (v := v') (d := d) hgr (fun b hb => hb.elim) trivial hn hdat (by intro b hb; cases hb)
    refine hc.drop (fun i => ?_) (fun t => ?_)
    · by_cases e : i = 1000000
      · subst e; rfl
      · rw [upd_other (by simp [keys, KX, e]), upd_other (by simp [keys]), upd_other (by simp [keys, KX, e])]
    · by_cases e : t = d
      · subst e
        left
        show (bif Key.beq (.s t) (.s t) then _ else _) = (bif Key.beq (.s t) (.s t) then _ else _)
        rw [Key.beq_self]
        rfl
      · by_cases e3 : t = s
        · subst e3
          right
          have hv : upd σ' [(Key.s d, XV.av (.one (.d (.gen (rowG (zs ++ xs)))))), (KX, .no), (.s t, .no)] (.s t) = .no := by
            show (bif Key.beq (.s d) (.s t) then _ else bif Key.beq KX (.s t) then _ else bif Key.beq (.s t) (.s t) then _ else _) = _
            rw [Key.beq_ne (by simpa using hds), Key.beq_self]
            rfl
          intro av
          exact ⟨fun q => (by rw [hv] at q; cases q), by rw [hv]; rfl⟩
        · left
          rw [upd_other (by simp [keys, KX, e, e3]), upd_other (by simp [keys, e]), upd_other (by simp [keys, KX, e3])]
end
end Vc
end Go.Proofs.YtabjodomigllhaaGreatDoor
