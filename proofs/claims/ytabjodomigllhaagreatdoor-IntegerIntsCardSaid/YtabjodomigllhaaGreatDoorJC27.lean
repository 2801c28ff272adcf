/-
  Operations on numbers and truth values, and on integers and fractions.
-/
import Derived.Test.YtabjodomigllhaaGreatDoorJC26
namespace Go.Proofs.YtabjodomigllhaaGreatDoor
open Go.RowKit
open Go.Lib (hid)
open Dg Zn
namespace Vc

section
variable {D : Type} [Dom D] {P : Program} {cx : Cx D} {n : Nat} {σ : St D} {o : Oper} {d : Nat} {x y : Operand} {T T' : TypeId} {k : IntKind} {a b : Int}

theorem ok_bin {op : BinOp} {u v r : Value} (ho : o.op = .binOp op T x y T') (hd : o.dst = some d) (hn : d < n) (hx : opd σ x = .av (.one (.v u))) (hy : opd σ y = .av (.one (.v v)))
    (hr : ∀ w, (do eqGuard op T x y u v; binOp op T u v : Sem Value).run P w = .ok r w) : OpOk P cx n σ o (opk x ++ opk y) [(.s d, .av (.one (.v r)))] := by
  refine ok_read hd hn rfl fun σ' ρ a w h hk => ⟨r, ?_, rfl⟩
  have e1 : a.eval x = u := h.opd ((opd_same fun q hq => hk q (by simp [hq])).trans hx)
  have e2 : a.eval y = v := h.opd ((opd_same fun q hq => hk q (by simp [hq])).trans hy)
  have := hr w
  simp only [execOp, ho, e1, e2, Sem.run_bind, this, Result.andThen_ok, Sem.run_pure]
theorem ok_eql (ho : o.op = .binOp .eql T x y T') (hd : o.dst = some d) (hn : d < n) (hx : opd σ x = .av (.one (.v (.int k a)))) (hy : opd σ y = .av (.one (.v (.int k b)))) : OpOk P cx n σ o (opk x ++ opk y) [(.s d, .av (.one (.v (.bool (a == b)))))] :=
  ok_bin ho hd hn hx hy fun w => by simp [eqGuard, binOp, Op.intCmp]
theorem ok_neq (ho : o.op = .binOp .neq T x y T') (hd : o.dst = some d) (hn : d < n) (hx : opd σ x = .av (.one (.v (.int k a)))) (hy : opd σ y = .av (.one (.v (.int k b)))) : OpOk P cx n σ o (opk x ++ opk y) [(.s d, .av (.one (.v (.bool (a != b)))))] :=
  ok_bin ho hd hn hx hy fun w => by simp [eqGuard, binOp, Op.intCmp]
theorem ok_lss (ho : o.op = .binOp .lss T x y T') (hd : o.dst = some d) (hn : d < n) (hx : opd σ x = .av (.one (.v (.int k a)))) (hy : opd σ y = .av (.one (.v (.int k b)))) : OpOk P cx n σ o (opk x ++ opk y) [(.s d, .av (.one (.v (.bool (decide (a < b))))))] :=
  ok_bin ho hd hn hx hy fun w => by simp [eqGuard, binOp, Op.intCmp]
theorem ok_leq (ho : o.op = .binOp .leq T x y T') (hd : o.dst = some d) (hn : d < n) (hx : opd σ x = .av (.one (.v (.int k a)))) (hy : opd σ y = .av (.one (.v (.int k b)))) : OpOk P cx n σ o (opk x ++ opk y) [(.s d, .av (.one (.v (.bool (decide (a ≤ b))))))] :=
  ok_bin ho hd hn hx hy fun w => by simp [eqGuard, binOp, Op.intCmp]
theorem ok_gtr (ho : o.op = .binOp .gtr T x y T') (hd : o.dst = some d) (hn : d < n) (hx : opd σ x = .av (.one (.v (.int k a)))) (hy : opd σ y = .av (.one (.v (.int k b)))) : OpOk P cx n σ o (opk x ++ opk y) [(.s d, .av (.one (.v (.bool (decide (b < a))))))] :=
  ok_bin ho hd hn hx hy fun w => by simp [eqGuard, binOp, Op.intCmp]
theorem ok_geq (ho : o.op = .binOp .geq T x y T') (hd : o.dst = some d) (hn : d < n) (hx : opd σ x = .av (.one (.v (.int k a)))) (hy : opd σ y = .av (.one (.v (.int k b)))) : OpOk P cx n σ o (opk x ++ opk y) [(.s d, .av (.one (.v (.bool (decide (b ≤ a))))))] :=
  ok_bin ho hd hn hx hy fun w => by simp [eqGuard, binOp, Op.intCmp]
theorem ok_add {c : Int} (hw : k.wrap (a + b) = c) (ho : o.op = .binOp .add T x y T') (hd : o.dst = some d) (hn : d < n) (hx : opd σ x = .av (.one (.v (.int k a)))) (hy : opd σ y = .av (.one (.v (.int k b)))) : OpOk P cx n σ o (opk x ++ opk y) [(.s d, .av (.one (.v (.int k c))))] :=
  ok_bin ho hd hn hx hy fun w => by simp [eqGuard, binOp, Op.intArith, hw]
theorem ok_sub {c : Int} (hw : k.wrap (a - b) = c) (ho : o.op = .binOp .sub T x y T') (hd : o.dst = some d) (hn : d < n) (hx : opd σ x = .av (.one (.v (.int k a)))) (hy : opd σ y = .av (.one (.v (.int k b)))) : OpOk P cx n σ o (opk x ++ opk y) [(.s d, .av (.one (.v (.int k c))))] :=
  ok_bin ho hd hn hx hy fun w => by simp [eqGuard, binOp, Op.intArith, hw]
theorem ok_mul {c : Int} (hw : k.wrap (a * b) = c) (ho : o.op = .binOp .mul T x y T') (hd : o.dst = some d) (hn : d < n) (hx : opd σ x = .av (.one (.v (.int k a)))) (hy : opd σ y = .av (.one (.v (.int k b)))) : OpOk P cx n σ o (opk x ++ opk y) [(.s d, .av (.one (.v (.int k c))))] :=
  ok_bin ho hd hn hx hy fun w => by simp [eqGuard, binOp, Op.intArith, hw]
theorem ok_quo {c : Int} (hb : b ≠ 0) (hw : k.wrap (a.tdiv b) = c) (ho : o.op = .binOp .quo T x y T') (hd : o.dst = some d) (hn : d < n) (hx : opd σ x = .av (.one (.v (.int k a)))) (hy : opd σ y = .av (.one (.v (.int k b)))) : OpOk P cx n σ o (opk x ++ opk y) [(.s d, .av (.one (.v (.int k c))))] :=
  ok_bin ho hd hn hx hy fun w => by simp [eqGuard, binOp, Op.intDiv, hb, hw]
theorem ok_rem (hb : b ≠ 0) (ho : o.op = .binOp .rem T x y T') (hd : o.dst = some d) (hn : d < n) (hx : opd σ x = .av (.one (.v (.int k a)))) (hy : opd σ y = .av (.one (.v (.int k b)))) : OpOk P cx n σ o (opk x ++ opk y) [(.s d, .av (.one (.v (.int k (a.tmod b)))))] :=
  ok_bin ho hd hn hx hy fun w => by simp [eqGuard, binOp, Op.intDiv, hb]
theorem ok_beq {p q : Bool} (ho : o.op = .binOp .eql T x y T') (hd : o.dst = some d) (hn : d < n) (hx : opd σ x = .av (.one (.v (.bool p)))) (hy : opd σ y = .av (.one (.v (.bool q)))) (hr : ∀ w, (Op.equal T (.bool p) (.bool q)).run P w = .ok (p == q) w) : OpOk P cx n σ o (opk x ++ opk y) [(.s d, .av (.one (.v (.bool (p == q)))))] :=
  ok_bin ho hd hn hx hy fun w => by simp [eqGuard, binOp, hr]
theorem ok_not {p : Bool} (ho : o.op = .unOp .not T x) (hd : o.dst = some d) (hn : d < n) (hx : opd σ x = .av (.one (.v (.bool p)))) : OpOk P cx n σ o (opk x) [(.s d, .av (.one (.v (.bool (!p)))))] := by
  refine ok_read hd hn rfl fun σ' ρ a w h hk => ⟨.bool !p, ?_, rfl⟩
  have e1 : a.eval x = .bool p := h.opd ((opd_same fun q hq => hk q (by simp [hq])).trans hx)
  simp [execOp, ho, e1, Op.unary]
theorem ok_neg {c : Int} (hw : k.wrap (0 - a) = c) (ho : o.op = .unOp .neg T x) (hd : o.dst = some d) (hn : d < n) (hx : opd σ x = .av (.one (.v (.int k a)))) : OpOk P cx n σ o (opk x) [(.s d, .av (.one (.v (.int k c))))] := by
  refine ok_read hd hn rfl fun σ' ρ a' w h hk => ⟨.int k c, ?_, rfl⟩
  have e1 : a'.eval x = .int k a := h.opd ((opd_same fun q hq => hk q (by simp [hq])).trans hx)
  rw [Int.zero_sub] at hw
  simp [execOp, ho, e1, Op.unary, Op.intArith, hw]
theorem ok_pickT {c : Operand} {av : AV D} (ho : o.op = .pick c x y) (hd : o.dst = some d) (hn : d < n) (hc : opd σ c = .av (.one (.v (.bool true)))) (hx : opd σ x = .av av) (hp : av.ptrs = []) : OpOk P cx n σ o (opk c ++ opk x) [(.s d, .av av)] := by
  refine ok_read hd hn hp fun σ' ρ a w h hk => ⟨a.eval x, ?_, h.opd ((opd_same fun q hq => hk q (by simp [hq])).trans hx)⟩
  have e1 : a.eval c = .bool true := h.opd ((opd_same fun q hq => hk q (by simp [hq])).trans hc)
  simp [execOp, ho, e1, asBool]
theorem ok_pickF {c : Operand} {av : AV D} (ho : o.op = .pick c x y) (hd : o.dst = some d) (hn : d < n) (hc : opd σ c = .av (.one (.v (.bool false)))) (hy : opd σ y = .av av) (hp : av.ptrs = []) : OpOk P cx n σ o (opk c ++ opk y) [(.s d, .av av)] := by
  refine ok_read hd hn hp fun σ' ρ a w h hk => ⟨a.eval y, ?_, h.opd ((opd_same fun q hq => hk q (by simp [hq])).trans hy)⟩
  have e1 : a.eval c = .bool false := h.opd ((opd_same fun q hq => hk q (by simp [hq])).trans hc)
  simp [execOp, ho, e1, asBool]

end

section
variable {cx : Cx Dm} {n : Nat} {σ : St Dm} {o : Oper} {d t : Nat}

theorem ok_len {m : Nat} (ho : o.op = .call ⟨.builtin .len, #[.tmp t], #[22]⟩) (hd : o.dst = some d) (hn : d < n) (ht : σ (.s t) = .av (.one (.d (.nums m)))) : OpOk Tryz.prog cx n σ o [.s t] [(.s d, .av (.one (.v (.int .i64 (((dig m).length : Nat) : Int)))))] := by
  refine ok_read hd hn rfl fun σ' ρ a w h hk => ⟨_, ?_, rfl⟩
  obtain ⟨ao, c, hv, _⟩ := (h.slt t _ ((hk (.s t) (by simp)).trans ht)) w (Agree.refl _ _)
  have e1 : a.eval (.tmp t) = .slice ao (dig m).length c := hv
  simp [execOp, ho, resolve, invoke, e1, builtin, Builtin.len_, run_underlying Tryz.under_ints, goInt]
theorem ok_idx {m i : Nat} {j : Operand} (hi : i < (dig m).length) (ho : o.op = .indexAddr 22 (.tmp t) j) (hd : o.dst = some d) (hn : d < n) (ht : σ (.s t) = .av (.one (.d (.nums m)))) (hj : opd σ j = .av (.one (.v (.int .i64 (i : Int))))) :
    OpOk Tryz.prog cx n σ o (.s t :: opk j) [(.s d, .av (.one (.d (.cell (((dig m).getD i 0 : Nat) : Int)))))] := by
  refine ok_read hd hn rfl fun σ' ρ a w h hk => ?_
  have hs := h.slt t _ ((hk (.s t) (by simp)).trans ht)
  obtain ⟨ao, c, hv, h2, h3, h4⟩ := hs w (Agree.refl _ _)
  obtain ⟨g, off, rfl, h6⟩ := h4 (by omega)
  have e1 : a.eval (.tmp t) = .slice (some ⟨g, off, none⟩) (dig m).length c := hv
  have e2 : a.eval j = .int .i64 (i : Int) := h.opd ((opd_same fun q hq => hk q (by simp [hq])).trans hj)
  have hsz : ∀ w, (sizeOf 3).run Tryz.prog w = .ok 1 w := by
    intro w
    obtain ⟨i0, hi0, _, hz1, _⟩ := info_parts Tryz.int_info
    simp [sizeOf, typeInfo, hi0, hz1]
  refine ⟨.pointer (some ⟨g, off + i, none⟩), ?_, ?_⟩
  · have h0 : (0 : Int) ≤ (i : Int) ∧ (i : Int) < (((dig m).length : Nat) : Int) := by omega
    simp [execOp, ho, e1, e2, Instr.indexAt, asIntOf, run_underlying Tryz.under_ints, hsz, hi, Addr.add_mid]
  · intro w' hag
    refine ⟨_, rfl, ?_⟩
    obtain ⟨ao', c', hv', _, _, h4'⟩ := hs w' hag
    obtain ⟨g', off', hg', h6'⟩ := h4' (by omega)
    have e3 := e1.symm.trans (show a.eval (.tmp t) = _ from hv')
    injection e3 with e4
    rw [hg'] at e4
    injection e4 with e4
    injection e4 with e5 e6
    subst e5; subst e6
    exact h6' i hi
theorem ok_loadc {z : Int} (ho : o.op = .load 3 (.tmp t)) (hd : o.dst = some d) (hn : d < n) (ht : σ (.s t) = .av (.one (.d (.cell z)))) : OpOk Tryz.prog cx n σ o [.s t] [(.s d, .av (.one (.v (.int .i64 z))))] := by
  refine ok_read hd hn rfl fun σ' ρ a w h hk => ⟨_, ?_, rfl⟩
  obtain ⟨ad, hv, hc⟩ := (h.slt t _ ((hk (.s t) (by simp)).trans ht)) w (Agree.refl _ _)
  have e1 : a.eval (.tmp t) = .pointer (some ad) := hv
  obtain ⟨⟨dd, hu, hdd⟩, _⟩ := ty_i64
  have hagg : (isAgg 3).run Tryz.prog w = .ok false w := by
    unfold isAgg
    rw [Sem.run_bind, run_underlying hu w]
    cases dd <;> simp_all
  simp [execOp, ho, e1, Instr.loadAt, Instr.sureAddr, loadVar, hagg, load, Sem.run, hc]

theorem dat_int {L : Nat → Prop} {ρ : Nat → Nat} {w : World} {z : Int} {k : Nat} {v : Value} (h : (SA.d (Dm.int z k)).is L ρ w v) : ∃ a m c, v = .agg #[.bool (decide (z < 0)), .slice a m c] ∧ ∀ w', Agree L w w' → Nums w' (.slice a m c) (dig z.natAbs) ∧ len z ≤ k := by
  obtain ⟨⟨s, rfl, hs⟩, hl⟩ := h w (Agree.refl _ _)
  obtain ⟨a, m, c, rfl⟩ := nums_slice hs
  refine ⟨a, m, c, rfl, fun w' hw => ?_⟩
  obtain ⟨⟨s', e, hs'⟩, hl'⟩ := h w' hw
  injection e with e
  have e2 : [Value.bool (decide (z < 0)), .slice a m c] = [.bool (decide (z < 0)), s'] := by simpa using congrArg Array.toList e
  injection e2 with _ e3
  injection e3 with e4
  subst e4
  exact ⟨hs', hl'⟩
theorem built_rat (parts : List (Nat × Value)) : Tryz.prog.built 60 parts = Instr.fill ((#[(0, 2), (2, 2)] : Array (Nat × Nat))[·]?) #[.bool false, .slice none 0 0, .bool false, .slice none 0 0] parts := by kernel_rfl
theorem ok_build0 (ho : o.op = .build 60 #[]) (hd : o.dst = some d) (hn : d < n) : OpOk Tryz.prog cx n σ o [] [(.s d, .av (.one (.d (.rt 0 0 0))))] := by
  refine ok_read hd hn rfl fun σ' ρ a w h hk => ⟨.agg #[.bool false, .slice none 0 0, .bool false, .slice none 0 0], ?_, ?_⟩
  · have hb2 := run_build w 60 #[] _ (show Tryz.prog.built 60 (#[] : Array (Nat × Value)).toList = some #[.bool false, .slice none 0 0, .bool false, .slice none 0 0] by rw [built_rat]; kernel_rfl)
    simp only [execOp, ho, Sem.run_bind]
    rw [show (#[] : Array (Nat × Operand)).map (fun p => (p.1, a.eval p.2)) = #[] by simp, hb2]
    rfl
  · intro w' _
    have h0 : (dig (0 : Int).natAbs).length ≤ 0 := by rw [show (0 : Int).natAbs = 0 from rfl, dig_zero]; exact Nat.le_refl _
    exact ⟨_, _, rfl, Nums.nil (by decide), Nums.nil (by decide), h0, h0⟩
theorem ok_build1 {x : Operand} {p : Int} {k : Nat} (ho : o.op = .build 60 #[(0, x)]) (hd : o.dst = some d) (hn : d < n) (hx : opd σ x = .av (.one (.d (.int p k)))) : OpOk Tryz.prog cx n σ o (opk x) [(.s d, .av (.one (.d (.rt p 0 k))))] := by
  refine ok_read hd hn rfl fun σ' ρ a w h hk => ?_
  obtain ⟨s, m, c, hv, hs⟩ := dat_int (ρ := ρ) (h.opd ((opd_same hk).trans hx))
  refine ⟨.agg #[.bool (decide (p < 0)), .slice s m c, .bool false, .slice none 0 0], ?_, ?_⟩
  · have hb : Tryz.prog.built 60 #[(0, a.eval x)].toList = some #[.bool (decide (p < 0)), .slice s m c, .bool false, .slice none 0 0] := by
      rw [hv, built_rat]
      kernel_rfl
    have hb2 := run_build w 60 #[(0, a.eval x)] _ hb
    simp only [execOp, ho, Sem.run_bind]
    rw [show (#[(0, x)] : Array (Nat × Operand)).map (fun p => (p.1, a.eval p.2)) = #[(0, a.eval x)] by simp, hb2]
    rfl
  · intro w' hw
    have h0 : (dig (0 : Int).natAbs).length ≤ k := by rw [show (0 : Int).natAbs = 0 from rfl, dig_zero]; exact Nat.zero_le _
    exact ⟨_, _, rfl, (hs w' hw).1, Nums.nil (by decide), (hs w' hw).2, h0⟩
theorem ok_build2 {x y : Operand} {p q : Int} {j k : Nat} (ho : o.op = .build 60 #[(0, x), (1, y)]) (hd : o.dst = some d) (hn : d < n) (hx : opd σ x = .av (.one (.d (.int p j)))) (hy : opd σ y = .av (.one (.d (.int q k)))) : OpOk Tryz.prog cx n σ o (opk x ++ opk y) [(.s d, .av (.one (.d (.rt p q (max j k)))))] := by
  refine ok_read hd hn rfl fun σ' ρ a w h hk => ?_
  obtain ⟨s, m, c, hv, hs⟩ := dat_int (ρ := ρ) (h.opd ((opd_same fun q hq => hk q (by simp [hq])).trans hx))
  obtain ⟨s', m', c', hv', hs'⟩ := dat_int (ρ := ρ) (h.opd ((opd_same fun q hq => hk q (by simp [hq])).trans hy))
  refine ⟨.agg #[.bool (decide (p < 0)), .slice s m c, .bool (decide (q < 0)), .slice s' m' c'], ?_, ?_⟩
  · have hb : Tryz.prog.built 60 #[(0, a.eval x), (1, a.eval y)].toList = some #[.bool (decide (p < 0)), .slice s m c, .bool (decide (q < 0)), .slice s' m' c'] := by
      rw [hv, hv', built_rat]
      kernel_rfl
    have hb2 := run_build w 60 #[(0, a.eval x), (1, a.eval y)] _ hb
    simp only [execOp, ho, Sem.run_bind]
    rw [show (#[(0, x), (1, y)] : Array (Nat × Operand)).map (fun p => (p.1, a.eval p.2)) = #[(0, a.eval x), (1, a.eval y)] by simp, hb2]
    rfl
  · intro w' hw
    exact ⟨_, _, rfl, (hs w' hw).1, (hs' w' hw).1, Nat.le_trans (hs w' hw).2 (Nat.le_max_left ..), Nat.le_trans (hs' w' hw).2 (Nat.le_max_right ..)⟩

end

theorem dig_len_zero {z : Int} : ((((dig z.natAbs).length : Nat) : Int) == 0) = decide (z = 0) := by
  rw [Bool.eq_iff_iff]
  simp only [beq_iff_eq, decide_eq_true_eq]
  constructor
  · intro h
    have := dig_eq_nil.1 (List.eq_nil_of_length_eq_zero (show (dig z.natAbs).length = 0 by omega))
    omega
  · rintro rfl
    rfl
theorem is_rt {p q p' q' : Int} {k k' : Nat} (hp : p = p') (hq : q = q') (hk : k ≤ k') : ∀ L ρ w v, (SA.d (Dm.rt p q k)).is L ρ w v → (AV.one (SA.d (Dm.rt p' q' k'))).is L ρ w v := by
  subst hp; subst hq
  intro L ρ w v h w' hw
  obtain ⟨s, t, h1, h2, h3, h4, h5⟩ := h w' hw
  exact ⟨s, t, h1, h2, h3, Nat.le_trans h4 hk, Nat.le_trans h5 hk⟩
theorem is_int' {p p' : Int} {k k' : Nat} (hp : p = p') (hk : k ≤ k') : ∀ L ρ w v, (SA.d (Dm.int p k)).is L ρ w v → (AV.one (SA.d (Dm.int p' k'))).is L ρ w v := by
  subst hp
  intro L ρ w v h w' hw
  exact ⟨(h w' hw).1, Nat.le_trans (h w' hw).2 hk⟩
theorem is_int2 {p p' q q' : Int} {j j' k k' : Nat} (hp : p = p') (hj : j ≤ j') (hq : q = q') (hk : k ≤ k') : ∀ L ρ w v, (AV.tup [SA.d (Dm.int p j), SA.d (Dm.int q k)]).is L ρ w v → (AV.tup [SA.d (Dm.int p' j'), SA.d (Dm.int q' k')]).is L ρ w v := by
  intro L ρ w v h
  obtain ⟨vs, rfl, h⟩ := h
  match vs, h with
  | [a, b], ⟨h1, h2, _⟩ => exact ⟨[a, b], rfl, is_int' hp hj L ρ w a h1, is_int' hq hk L ρ w b h2, trivial⟩

end Vc
end Go.Proofs.YtabjodomigllhaaGreatDoor
