/-
  Lists of integers, and of such lists: made at once, and read.
  The reference's functions in this form; lists of lists.
  Lists of any data, pointers to data, functions' values, as data; the operations on them.
  Variables that are written no more; closures that find themselves.
-/
import Derived.Test.YtpgiebimhnhbiaaGreatDoorJT38
import Derived.Test.YtpgiebimhnhbiaaGreatDoorJT11
import Derived.Test.YtpgiebimhnhbiaaGreatDoorJT28
import Derived.Test.YtpgiebimhnhbiaaGreatDoorJT30
set_option linter.unusedVariables false
set_option linter.unusedSimpArgs false
set_option linter.unusedSectionVars false
namespace Go.Proofs.YtpgiebimhnhbiaaGreatDoor
open Go.RowKit
open Go.Lib (hid)
open Dg Zn
namespace Vc
section
variable {cx : Cx Dm} {n : Nat} {σ : St Dm} {o : Oper} {d t : Nat} {j : Operand}

end
section
variable {cx : Cx Dm} {n : Nat} {σ : St Dm} {o : Oper} {d t : Nat} {j : Operand}

theorem ok_buildI (ho : o.op = .build 25 #[]) (hd : o.dst = some d) (hn : d < n) : OpOk Tryz.prog cx n σ o [] [(.s d, .av (.one (.d (.int 0 0))))] := by
 refine ok_read hd hn rfl fun σ' ρ a w h hk => ⟨.agg #[.bool false, .slice none 0 0], ?_, ?_⟩
 ·have hb : Tryz.prog.built 25 (#[] : Array (Nat × Value)).toList = some #[.bool false, .slice none 0 0] := by kernel_rfl
  have hb2 := run_build w 25 #[] _ hb
  simp only [execOp, ho, Sem.run_bind]
  rw [show (#[] : Array (Nat × Operand)).map (fun p => (p.1, a.eval p.2)) = #[] by simp, hb2]
  rfl
 ·intro w' _
  exact ⟨int_zero w', by show (dig 0).length ≤ 0; rw [dig_zero]; exact Nat.le_refl _⟩
end

theorem Number_con (zs : List Int) (p : Nat) (hp : p ≤ 1000000) : Con Tryz.prog 9 [.d (Dm.ints zs), .v (.int .i64 (p : Int))] (.one (.d (Dm.int (numI zs p) 7))) := by
 rintro L ρ w vs hlt hn hwf hall
 match vs, hall with
 | [v, u], ⟨h1, h2, _⟩ =>
  obtain rfl : u = _ := h2
  refine (Number_any v zs p w (h1 w (Agree.refl _ _)) hp).mono ?_
  rintro e w' ⟨v, rfl, h3, h4⟩
  exact ⟨v, rfl, h4, int_is (ρ := ρ) h3 (numI_len zs p) hn hlt h4⟩
theorem At_con (zs : List Int) (i m : Int) (hi : 0 ≤ i) (hm : 1 ≤ m) (hm2 : m ≤ 9223372036854775807) : Con Tryz.prog 75 [.d (Dm.ints zs), .v (.int .i64 i), .v (.int .i64 m)] (.one (.v (.int .i64 (atI zs i.toNat m)))) := by
 rintro L ρ w vs hlt hn hwf hall
 match vs, hall with
 | [v, u, u'], ⟨h1, h2, h3, _⟩ =>
  obtain rfl : u = _ := h2
  obtain rfl : u' = _ := h3
  refine (At_any v zs i m w (h1 w (Agree.refl _ _)) hi hm hm2).mono ?_
  rintro e w' ⟨rfl, rfl⟩
  exact ⟨_, rfl, Below.refl _ _, rfl⟩
theorem rOf_con (z : Int) (h1 : -9223372036854775808 ≤ z) (h2 : z ≤ 9223372036854775807) : Con Tryz.prog 29 [.v (.int .i64 z)] (.one (.d (Dm.int z 3))) :=
 con_int0 (fun w => refOf_any z w h1 h2) (by rw [len_lt]; omega)
theorem rGcd_con (x y : Int) {j k : Nat} (hj : j ≤ 1000000000) (hk : k ≤ 1000000000) : Con Tryz.prog 101 [.d (Dm.int x j), .d (Dm.int y k)] (.one (.d (Dm.int ((Int.gcd x y : Nat) : Int) (j + k)))) := by
 refine con_int2 (fun vx vy w h1 h2 l1 l2 => refGcd_any vx vy x y w h1 h2 (by omega) (by omega)) fun l1 l2 => ?_
 by_cases hx : x = 0
 ·subst hx
  refine Nat.le_trans (len_mono ?_) (Nat.le_trans l2 (Nat.le_add_left ..))
  simp
 ·refine Nat.le_trans (len_mono (y := x) ?_) (Nat.le_trans l1 (Nat.le_add_right ..))
  have := Nat.le_of_dvd (Int.natAbs_pos.2 hx) (Int.gcd_dvd_natAbs_left x y)
  simpa using this
theorem rNeg_con (x : Int) {j : Nat} : Con Tryz.prog 103 [.d (Dm.int x j)] (.one (.d (Dm.int (-x) j))) :=
 con_int1 (fun vx w h1 _ => refNeg_any vx x w h1) fun l1 => len_neg l1
theorem rSame_con (x y : Int) {j k : Nat} : Con Tryz.prog 36 [.d (Dm.int x j), .d (Dm.int y k)] (.one (.v (.bool (decide (x = y))))) :=
 con_val2 fun vx vy w h1 h2 => Same_any vx vy x y w h1 h2
/-! The kinds. -/
def lstG (k : Option Nat) (l : List (SA Dm)) : Gen where
 is := fun w v => ∃ ao cap, v = .slice ao l.length cap ∧ (l.length ≤ cap ∧ cap ≤ maxLen) ∧ (0 < l.length → ∃ b off, ao = some ⟨b, off, none⟩ ∧ ∃ cs : List Value, Ats w k l cs ∧ ∀ j u, cs[j]? = some u → w.cell? ⟨b, off + j, none⟩ = some u)
 shape := none
 plain := true
 ok := fun w v ⟨ao, cap, h, _⟩ => by subst h; exact ⟨_, rfl, rfl⟩
 pl := fun _ w v ⟨ao, cap, h, _⟩ => by subst h; simp [Value.cells, notInt]
def pG (k : Option Nat) (s : SA Dm) : Gen where
 is := fun w v => ∃ b off u, v = .pointer (some ⟨b, off, none⟩) ∧ ∃ cs : List Value, Shaped k u cs ∧ s.at w u ∧ ∀ j c, cs[j]? = some c → w.cell? ⟨b, off + j, none⟩ = some c
 shape := none
 plain := true
 ok := fun w v ⟨b, off, u, h, _⟩ => by subst h; exact ⟨_, rfl, rfl⟩
 pl := fun _ w v ⟨b, off, u, h, _⟩ => by subst h; simp [Value.cells, notInt]
def allAt (w : World) : List (SA Dm) → List Value → Prop
 | [], [] => True
 | s :: l, v :: m => s.at w v ∧ allAt w l m
 | _, _ => False
theorem lstG_Lst (k : Option Nat) (l : List (SA Dm)) : Lst (Dm.gen (lstG k l)) k l := fun w b off c cs hl hm h1 h2 => ⟨_, _, rfl, ⟨hl, hm⟩, fun _ => ⟨b, off, rfl, cs, h1, h2⟩⟩
theorem lstG_Lst0 (k : Option Nat) (l : List (SA Dm)) : l = [] → Lst0 (Dm.gen (lstG k l)) := by
 rintro rfl w a
 exact ⟨a, 0, rfl, ⟨Nat.le_refl _, by decide⟩, fun h => absurd h (Nat.lt_irrefl _)⟩

theorem not_may {L : Nat → Prop} {w : World} {b o : Nat} (h : ∀ w', Agree L w w' → ∃ c, w'.cell? ⟨b, o, none⟩ = some c) : ¬ L b ∧ b < w.heap.size := by
 obtain ⟨c, hc⟩ := h w (Agree.refl _ _)
 have hlt : b < w.heap.size := by
  rcases Nat.lt_or_ge b w.heap.size with hb | hb
  ·exact hb
  ·exfalso
   simp only [World.cell?] at hc
   rw [Array.getElem?_eq_none (by omega)] at hc
   cases hc
 refine ⟨fun hL => ?_, hlt⟩
 obtain ⟨c', hc'⟩ := h { w with heap := w.heap.set b (.cells #[] 0 (0, 0)) } ⟨by simp, fun q hq hnq => by
  have : q ≠ b := fun e => hnq (e ▸ hL)
  simp [Array.getElem?_set, Ne.symm this]⟩
 simp [World.cell?, hlt] at hc'
theorem may_same {L : Nat → Prop} {w w' : World} {b : Nat} (h : ¬ L b ∧ b < w.heap.size) (hw : Agree L w w') (o : Nat) : w'.cell? ⟨b, o, none⟩ = w.cell? ⟨b, o, none⟩ := World.cell?_of_block (hw.2 b h.2 h.1)
theorem cells_same {w : World} {b off : Nat} {cs cs' : List Value} (hl : cs.length = cs'.length) (h : ∀ j u, cs[j]? = some u → w.cell? ⟨b, off + j, none⟩ = some u) (h' : ∀ j u, cs'[j]? = some u → w.cell? ⟨b, off + j, none⟩ = some u) : cs = cs' := by
 apply List.ext_getElem hl
 intro i h1 h2
 have e1 := h i cs[i] (List.getElem?_eq_getElem h1)
 have e2 := h' i cs'[i] (List.getElem?_eq_getElem h2)
 exact Option.some.inj (e1.symm.trans e2)

theorem lst_open {L : Nat → Prop} {ρ : Rho} {w : World} {v : Value} {k : Option Nat} {l : List (SA Dm)} (hk : 0 < k.getD 1) (h : (SA.d (Dm.gen (lstG k l))).is L ρ w v) :
  ∃ ao cap, v = .slice ao l.length cap ∧ (l.length ≤ cap ∧ cap ≤ maxLen) ∧ (0 < l.length → ∃ b off, ao = some ⟨b, off, none⟩ ∧ (¬ L b ∧ b < w.heap.size) ∧ ∃ cs : List Value, (∀ w', Agree L w w' → Ats w' k l cs) ∧ ∀ j u, cs[j]? = some u → w.cell? ⟨b, off + j, none⟩ = some u) := by
 obtain ⟨ao, cap, rfl, hle, hc⟩ := h w (Agree.refl _ _)
 refine ⟨ao, cap, rfl, hle, fun hl => ?_⟩
 obtain ⟨b, off, rfl, cs, h1, h2⟩ := hc hl
 have hlen : ∀ {w' : World} {cs' : List Value}, Ats w' k l cs' → cs'.length = l.length * k.getD 1 := fun h => h.length
 have hpos : 0 < l.length * k.getD 1 := Nat.mul_pos hl hk
 have key : ∀ w', Agree L w w' → ∃ cs' : List Value, Ats w' k l cs' ∧ ∀ j u, cs'[j]? = some u → w'.cell? ⟨b, off + j, none⟩ = some u := by
  intro w' hw
  obtain ⟨ao', cap', e, _, hc'⟩ := h w' hw
  injection e with e1 e2 e3
  obtain ⟨b', off', e4, cs', g1, g2⟩ := hc' hl
  rw [← e1] at e4
  injection e4 with e4
  injection e4 with e5 e6
  subst e5; subst e6
  exact ⟨cs', g1, g2⟩
 have hnL : ¬ L b ∧ b < w.heap.size := not_may (o := off) fun w' hw => by
  obtain ⟨cs', g1, g2⟩ := key w' hw
  exact ⟨_, g2 0 _ (List.getElem?_eq_getElem (by rw [hlen g1]; exact hpos))⟩
 refine ⟨b, off, rfl, hnL, cs, fun w' hw => ?_, h2⟩
 obtain ⟨cs', g1, g2⟩ := key w' hw
 have : cs = cs' := cells_same (w := w) (b := b) (off := off) (by rw [hlen h1, hlen g1]) h2 fun j u hj => by rw [← may_same hnL hw]; exact g2 j u hj
 rw [this]
 exact g1
theorem lst_elems {k : Option Nat} {l : List (SA Dm)} (hk : 0 < k.getD 1) (hp : l.flatMap SA.ptrs = []) : Elems (SA.d (Dm.gen (lstG k l))) k l := by
 refine ⟨rfl, hp, fun L ρ w v h => ?_⟩
 obtain ⟨ao, cap, rfl, _, h1⟩ := lst_open hk h
 refine ⟨ao, cap, rfl, fun hl => ?_⟩
 obtain ⟨b, off, e, _, cs, h2, h3⟩ := h1 hl
 exact ⟨b, off, e, cs, h3, Ats.chs h2⟩
theorem p_open {L : Nat → Prop} {ρ : Rho} {w : World} {v : Value} {k : Option Nat} {s : SA Dm} (hk : 0 < k.getD 1) (h : (SA.d (Dm.gen (pG k s))).is L ρ w v) :
  ∃ b off u, v = .pointer (some ⟨b, off, none⟩) ∧ (¬ L b ∧ b < w.heap.size) ∧ ∃ cs : List Value, Shaped k u cs ∧ (∀ w', Agree L w w' → s.at w' u) ∧ ∀ j c, cs[j]? = some c → w.cell? ⟨b, off + j, none⟩ = some c := by
 obtain ⟨b, off, u, rfl, cs, h1, h2, h3⟩ := h w (Agree.refl _ _)
 have key : ∀ w', Agree L w w' → ∃ u' cs', Shaped k u' cs' ∧ s.at w' u' ∧ ∀ j c, cs'[j]? = some c → w'.cell? ⟨b, off + j, none⟩ = some c := by
  intro w' hw
  obtain ⟨b', off', u', e, cs', g1, g2, g3⟩ := h w' hw
  injection e with e
  injection e with e
  injection e with e1 e2
  subst e1; subst e2
  exact ⟨u', cs', g1, g2, g3⟩
 have hnL : ¬ L b ∧ b < w.heap.size := not_may (o := off) fun w' hw => by
  obtain ⟨u', cs', g1, g2, g3⟩ := key w' hw
  exact ⟨_, g3 0 _ (List.getElem?_eq_getElem (by rw [g1.length]; exact hk))⟩
 refine ⟨b, off, u, rfl, hnL, cs, h1, fun w' hw => ?_, h3⟩
 obtain ⟨u', cs', g1, g2, g3⟩ := key w' hw
 have : cs = cs' := cells_same (w := w) (b := b) (off := off) (by rw [h1.length, g1.length]) h3 fun j u hj => by rw [← may_same hnL hw]; exact g3 j u hj
 subst this
 rw [h1.same g1]
 exact g2
theorem at_is {L : Nat → Prop} {ρ : Rho} {w : World} {s : SA Dm} {v : Value} (h : ∀ w', Agree L w w' → s.at w' v) : s.is L ρ w v := by
 cases s with
 | v x => exact h w (Agree.refl _ _)
 | d x => exact h
 | ptr b o => exact (h w (Agree.refl _ _)).elim
 | sl b n => exact (h w (Agree.refl _ _)).elim
theorem at_ptrs {w : World} {s : SA Dm} {v : Value} (h : s.at w v) : s.ptrs = [] := by
 cases s with
 | v x => rfl
 | d x => rfl
 | ptr b o => exact h.elim
 | sl b n => exact h.elim

section
variable {P : Program} {cx : Cx Dm} {n : Nat} {σ : St Dm} {o : Oper} {d t : Nat} {x y j : Operand}

/-! Operations. -/
theorem run_loadVar_at {w : World} {b off : Nat} {cs : List Value} {ty : TypeId} {k : Option Nat} {v : Value} (hc : ∀ j c, cs[j]? = some c → w.cell? ⟨b, off + j, none⟩ = some c) (hs : Shaped k v cs) (hty : TyIs P ty k) : (loadVar ty ⟨b, off, none⟩).run P w = .ok v w := by
 cases k with
 | some m =>
  obtain ⟨⟨d, hu, hd⟩, hi⟩ := hty
  rw [hs.1]
  exact run_loadVar_mid w b off ty cs d hc hu hd (by rw [hi, hs.2.1])
 | none =>
  obtain ⟨⟨d, hu, hd⟩, hi⟩ := hty
  have hc := hc 0 v (by rw [hs.1]; rfl)
  have hagg : (isAgg ty).run P w = .ok false w := by
   unfold isAgg
   rw [Sem.run_bind, run_underlying hu w]
   cases d <;> simp_all
  rw [Nat.add_zero] at hc
  simp [loadVar, Sem.run_bind, hagg, load, Sem.run, hc]
theorem ok_loadP {ty : TypeId} {k : Option Nat} {s : SA Dm} (hty : TyIs P ty k) (hk : 0 < k.getD 1) (ho : o.op = .load ty (.tmp t)) (hd : o.dst = some d) (hn : d < n) (ht : σ (.s t) = .av (.one (.d (.gen (pG k s))))) :
  OpOk P cx n σ o [.s t] [(.s d, .av (.one s))] := by
 intro σ' a w Q ⟨ρ, h⟩ h1 _ K hK
 have ht' := (h1 (.s t) (by simp)).trans ht
 obtain ⟨b, off, u, e1, _, cs, h3, h4, h5⟩ := p_open (ρ := ρ) hk (h.slt t _ ht')
 have e1 : a.eval (.tmp t) = .pointer (some ⟨b, off, none⟩) := e1
 have hr : (execOp a.eval o).run P w = .ok (.value u) w := by
  simp only [execOp, ho, e1, Sem.run_bind, Instr.loadAt, Instr.sureAddr, Sem.run_pure, Result.andThen_ok, run_loadVar_at h5 h3 hty]
 unfold Oper.wp
 rw [hr, Oper.upon_value, hd]
 exact hK _ _ ⟨ρ, h.put (Below.refl _ _) hn (at_is h4) (by show ∀ b ∈ s.ptrs, _; rw [at_ptrs (h4 w (Agree.refl _ _))]; intro b hb; cases hb)⟩
theorem ok_idxL {ty e : TypeId} {i : Nat} {k : Option Nat} {l : List (SA Dm)} {s : SA Dm} (hs : l[i]? = some s) (hu : P.underlying ty = some (.slice e)) (hsz : (P.info? e).map (·.size) = some (k.getD 1)) (hk : 0 < k.getD 1) (ho : o.op = .indexAddr ty (.tmp t) j) (hd : o.dst = some d) (hn : d < n)
  (ht : σ (.s t) = .av (.one (.d (.gen (lstG k l))))) (hj : opd σ j = .av (.one (.v (.int .i64 (i : Int))))) : OpOk P cx n σ o (.s t :: opk j) [(.s d, .av (.one (.d (.gen (pG k s)))))] := by
 refine ok_read hd hn rfl fun σ' ρ a w h hk' => ?_
 have hi : i < l.length := (List.getElem?_eq_some_iff.1 hs).1
 have ht' := (hk' (.s t) (by simp)).trans ht
 obtain ⟨ao, cap, e1, _, h2⟩ := lst_open (ρ := ρ) hk (h.slt t _ ht')
 obtain ⟨b, off, rfl, hnL, cs, h3, h4⟩ := h2 (by omega)
 have e1 : a.eval (.tmp t) = .slice (some ⟨b, off, none⟩) l.length cap := e1
 have e2 : a.eval j = .int .i64 (i : Int) := h.opd ((opd_same fun q hq => hk' q (by simp [hq])).trans hj)
 refine ⟨.pointer (some ⟨b, off + i * k.getD 1, none⟩), ?_, ?_⟩
 ·simp only [execOp, ho, e1, e2, Sem.run_bind, run_index hu hsz w b off _ cap i hi, Result.andThen_ok, Sem.run_pure]
 ·intro w' hag
  obtain ⟨pre, p, post, v, q1, q2, q3, q4⟩ := (h3 w' hag).at hs
  refine ⟨b, off + i * k.getD 1, v, rfl, p, q3, q4, fun m c hm => ?_⟩
  rw [may_same hnL hag, Nat.add_assoc]
  refine h4 _ _ ?_
  rw [q1, List.append_assoc, List.getElem?_append_right (by omega), q2, Nat.add_sub_cancel_left, List.getElem?_append_left (List.getElem?_eq_some_iff.1 hm).1]
  exact hm
theorem ok_lenL {ty e : TypeId} {k : Option Nat} {l : List (SA Dm)} {m : Nat} (hm : l.length = m) (hu : P.underlying ty = some (.slice e)) (ho : o.op = .call ⟨.builtin .len, #[.tmp t], #[ty]⟩) (hd : o.dst = some d) (hn : d < n) (ht : σ (.s t) = .av (.one (.d (.gen (lstG k l))))) : OpOk P cx n σ o [.s t] [(.s d, .av (.one (.v (.int .i64 (m : Int)))))] := by
 subst hm
 refine ok_read hd hn rfl fun σ' ρ a w h hk => ⟨_, ?_, rfl⟩
 obtain ⟨ao, c, hv, _⟩ := (h.slt t _ ((hk (.s t) (by simp)).trans ht)) w (Agree.refl _ _)
 have e1 : a.eval (.tmp t) = .slice ao l.length c := hv
 simp [execOp, ho, resolve, invoke, e1, builtin, Builtin.len_, run_underlying hu, goInt]
def bndK : Option Operand → List Key
 | none => []
 | some x => opk x
def bndIs (σ : St Dm) : Option Operand → Option Nat → Prop
 | none, none => True
 | some x, some m => opd σ x = .av (.one (.v (.int .i64 (m : Int))))
 | _, _ => False
theorem bnd_eval {ρ : Rho} {a : Act} {w : World} {σ' : St Dm} {x : Option Operand} {m : Option Nat} (h : Conc cx n ρ σ' a w) (hx : bndIs σ x m) (hk : ∀ q ∈ bndK x, σ' q = σ q) : x.map a.eval = optI m := by
 cases x with
 | none => cases m with | none => rfl | some m => exact hx.elim
 | some x =>
  cases m with
  | none => exact hx.elim
  | some m =>
   have : a.eval x = .int .i64 (m : Int) := h.opd ((opd_same hk).trans hx)
   simp [optI, this]
theorem ok_cutL {ty e : TypeId} {k : Option Nat} {l l' : List (SA Dm)} {lo hi mx : Option Operand} (lo' hi' mx' : Option Nat) (hl : (l.take (hi'.getD l.length)).drop (lo'.getD 0) = l') (hk : 0 < k.getD 1) (hle1 : lo'.getD 0 ≤ hi'.getD l.length) (hle2 : hi'.getD l.length ≤ mx'.getD l.length) (hle3 : mx'.getD l.length ≤ l.length) (h4 : hi' = none → mx' = none)
  (hu : P.underlying ty = some (.slice e)) (hsz : (P.info? e).map (·.size) = some (k.getD 1)) (ho : o.op = .slice ty (.tmp t) lo hi mx) (hd : o.dst = some d) (hn : d < n)
  (ht : σ (.s t) = .av (.one (.d (.gen (lstG k l))))) (hlo : bndIs σ lo lo') (hhi : bndIs σ hi hi') (hmx : bndIs σ mx mx') : OpOk P cx n σ o (.s t :: (bndK lo ++ bndK hi ++ bndK mx)) [(.s d, .av (.one (.d (.gen (lstG k l')))))] := by
 refine ok_read hd hn rfl fun σ' ρ a w h hk' => ?_
 have ht' := (hk' (.s t) (by simp)).trans ht
 obtain ⟨ao, cap, e1, hcap, h2⟩ := lst_open (ρ := ρ) hk (h.slt t _ ht')
 have e1 : a.eval (.tmp t) = .slice ao l.length cap := e1
 have f1 := bnd_eval h hlo fun q hq => hk' q (by simp [hq])
 have f2 := bnd_eval h hhi fun q hq => hk' q (by simp [hq])
 have f3 := bnd_eval h hmx fun q hq => hk' q (by simp [hq])
 have hm1 : hi'.getD l.length ≤ mx'.getD cap := by cases mx' with | none => exact Nat.le_trans hle2 hcap.1 | some m => exact hle2
 have hm2 : mx'.getD cap ≤ cap := by cases mx' with | none => exact Nat.le_refl _ | some m => exact Nat.le_trans hle3 hcap.1
 have hr := run_cut (P := P) w hu hsz ao l.length cap lo' hi' mx' hle1 hm1 hm2 h4
 have hlen : l'.length = hi'.getD l.length - lo'.getD 0 := by
  rw [← hl, List.length_drop, List.length_take]
  omega
 refine ⟨.slice (if mx'.getD cap = lo'.getD 0 then ao else ao.map (·.add (lo'.getD 0 * k.getD 1))) (hi'.getD l.length - lo'.getD 0) (mx'.getD cap - lo'.getD 0), by simp only [execOp, ho, e1, f1, f2, f3, Sem.run_bind, hr, Result.andThen_ok, Sem.run_pure], ?_⟩
 intro w' hag
 rw [← hlen]
 refine ⟨_, _, rfl, ⟨by rw [hlen]; omega, by have := hcap.2; omega⟩, fun hp => ?_⟩
 obtain ⟨b, off, rfl, hnL, cs, h3, h4'⟩ := h2 (by omega)
 have hne : ¬ mx'.getD cap = lo'.getD 0 := by omega
 refine ⟨b, off + lo'.getD 0 * k.getD 1, by rw [if_neg hne]; simp [Addr.add_mid], (cs.take (hi'.getD l.length * k.getD 1)).drop (lo'.getD 0 * k.getD 1), by rw [← hl]; exact ((h3 w' hag).take _).drop _, fun m c hm => ?_⟩
 rw [may_same hnL hag, Nat.add_assoc]
 refine h4' _ _ ?_
 rw [List.getElem?_drop] at hm
 have := List.getElem?_take .. ▸ hm
 split at this
 ·exact this
 ·cases this
theorem allAt_is {L : Nat → Prop} {ρ : Rho} {w : World} : ∀ {ss : List (SA Dm)} {vs : List Value}, (∀ w', Agree L w w' → allAt w' ss vs) → isAll L ρ w ss vs
 | [], [], _ => trivial
 | [], _ :: _, h => h w (Agree.refl _ _)
 | _ :: _, [], h => h w (Agree.refl _ _)
 | s :: ss, v :: vs, h => ⟨at_is fun w' hw => (h w' hw).1, allAt_is fun w' hw => (h w' hw).2⟩
theorem isAll_append {L : Nat → Prop} {ρ : Rho} {w : World} : ∀ {ss ss' : List (SA Dm)} {vs vs' : List Value}, isAll L ρ w ss vs → isAll L ρ w ss' vs' → isAll L ρ w (ss ++ ss') (vs ++ vs')
 | [], _, [], _, _, h => h
 | _ :: _, _, _ :: _, _, h, h' => ⟨h.1, isAll_append h.2 h'⟩
 | [], _, _ :: _, _, h, _ => h.elim
 | _ :: _, _, [], _, h, _ => h.elim
end
section
variable {P : Program} {cx : Cx Dm} {n : Nat} {σ : St Dm}
theorem Conc.staysB {ρ : Rho} {a : Act} {w w' : World} {r : Nat} {T : TypeId} {k : Option Nat} {s : SA Dm} {σ' : St Dm} (h : Conc cx n ρ σ a w) (hr : σ (.b r) = .blk T [(k, s)]) (hB : ∀ b, ¬ cx.Bw b) (hp : s.ptrs = []) (hrl : ∀ j, live σ' ρ j → live σ ρ j ∧ j ≠ r)
  (hag : Agree (Lof cx σ' ρ) w w') : ∃ u cs, w'.heap[(ρ r).1]? = some (.cells cs.toArray T (0, 0)) ∧ Shaped k u cs ∧ s.at w' u := by
 obtain ⟨cs, h1, p, q, v, rfl, h3, h4, h5⟩ := h.blk r T _ hr
 obtain rfl : q = [] := h5
 rw [List.append_nil] at h1
 have hlv : live σ ρ r := live_blk hr
 have hnL : ¬ Lof cx σ' ρ (ρ r).1 := by
  rintro (q | ⟨j, q1, q2⟩)
  ·rcases h.mine r hlv with m | m
   ·have := cx.lt _ q; omega
   ·exact hB _ m
  ·obtain ⟨q3, q4⟩ := hrl j q1
   exact q4 (h.inj j r q3 hlv q2)
 refine ⟨v, p, (hag.2 _ (h.lt hlv) hnL).trans h1, h3, SA.is_at h4 hp ⟨hag.1, fun b hb hn => hag.2 b hb fun q => hn ?_⟩⟩
 rcases q with q | ⟨j, q1, q2⟩
 ·exact .inl q
 ·exact .inr ⟨j, (hrl j q1).1, q2⟩
theorem CV.freezeB {c : Code} {K : Exit → Sg Dm → Prop} {r t : Nat} {T : TypeId} {k : Option Nat} {s : SA Dm} {l0 : Sg Dm} (hB : ∀ b, ¬ cx.Bw b) (hr : lookD .no l0 (.b r) = .blk T [(k, s)]) (ht : lookD .no l0 (.s t) = .av (.one (.ptr r 0))) (ht' : Nat.blt t n = true) (hp : s.ptrs = []) (hrK : Nat.beq r 1000000 = false)
  (h : CV P cx n c ((.s t, .av (.one (.d (Dm.gen (pG k s))))) :: (.b r, .dead) :: l0) K) : CV P cx n c l0 K := by
 have ht'' : t < n := by rwa [Nat.blt_eq] at ht'
 refine ⟨fun a w ⟨ρ, hC⟩ => h.run a w ⟨ρ, ?_⟩⟩
 obtain ⟨σ, hσ⟩ : ∃ σ, σ = lookD .no l0 := ⟨_, rfl⟩
 rw [← hσ] at hr ht hC
 obtain ⟨σ', hσ'⟩ : ∃ σ', σ' = upd σ [(.s t, .av (.one (.d (Dm.gen (pG k s))))), (.b r, .dead)] := ⟨_, rfl⟩
 have e0 : lookD .no ((.s t, .av (.one (.d (Dm.gen (pG k s))))) :: (.b r, .dead) :: l0) = σ' := by rw [hσ', hσ, upd_look]; rfl
 rw [e0]
 have k1 : σ' (.s t) = .av (.one (.d (Dm.gen (pG k s)))) := by rw [hσ']; exact upd2_s
 have k2 : σ' (.b r) = .dead := by rw [hσ']; exact upd2_b
 have k3 : ∀ k, k ≠ .s t → k ≠ .b r → σ' k = σ k := fun k h1 h2 => by rw [hσ']; exact upd2_ne h1 h2
 have hrK1 : r ≠ 1000000 := fun e => by subst e; cases hrK
 have hKP : σ' KP = σ KP := k3 _ (by simp [KP]) (by simp [KP]; omega)
 have hrl : ∀ j, live σ' ρ j → live σ ρ j ∧ j ≠ r := by
  intro j hj
  have e : j ≠ r := by
   rintro rfl
   rcases live_some hj with ⟨T, ch, e⟩ | ⟨T, k, l, e, _⟩ <;> rw [k2] at e <;> cases e
  exact ⟨(live_same (k3 _ (by simp) (by simpa using e)) rfl).1 hj, e⟩
 have hev : a.tmps.getD t undef = .pointer (some ⟨(ρ r).1, 0, none⟩) := hC.slt t _ ht
 refine hC.step (fun _ => False) (fun k => k = .s t ∨ k = .b r) hC.size hC.defers rfl rfl rfl (Nat.le_refl _) (fun _ _ _ => rfl) (fun _ q => q.elim)
  (fun k hk => k3 k (fun q => hk (.inl q)) (fun q => hk (.inr q))) (fun _ _ => rfl) (fun _ _ q => q.elim) (fun b _ q => ?_) ?_ ?_ ?_ (fun i _ q => by rw [hKP] at q; exact q) (fun i j hi hj => hC.inj i j (hrl i hi).1 (hrl j hj).1) ?_ (fun _ _ => rfl) ?_ ?_
 ·rcases q with q | ⟨j, q1, q2⟩
  ·exact .inl q
  ·exact .inr ⟨j, (hrl j q1).1, q2⟩
 ·rintro i (q | q) hi
  ·cases q
  ·injection q with q; subst q; exact absurd rfl (hrl _ hi).2
 ·rintro i T1 ch (q | q) hi
  ·cases q
  ·injection q with q; subst q; rw [k2] at hi; cases hi
 ·rintro i T1 k1 l1 (q | q) hi
  ·cases q
  ·injection q with q; subst q; rw [k2] at hi; cases hi
 ·rintro t1 av (q | q) ht1
  ·injection q with q
   subst q
   rw [k1] at ht1
   obtain rfl := (XV.av.injEq _ _).mp ht1
   rw [hev]
   intro w' hag
   obtain ⟨u, cs, q1, q2, q3⟩ := hC.staysB hr hB hp hrl hag
   refine ⟨(ρ r).1, 0, u, rfl, cs, q2, q3, fun j c hj => ?_⟩
   rw [Nat.zero_add, cell_of_row w' _ _ _ T _ q1, List.getElem?_toArray]
   exact hj
  ·cases q
 ·rintro k b (q | q) hb'
  ·subst q; rw [k1] at hb'; cases hb'
  ·subst q; rw [k2] at hb'; cases hb'
 ·intro i hi
  by_cases e : i = r
  ·rw [e, k2]; simp
  ·rw [k3 _ (by simp) (by simpa using e)]; exact hi

def SelfAt (f : FuncId) (caps : List (SA Dm)) (w : World) (v : Value) (g : Nat) : Prop := ∃ vs : List Value, v = .func (.func f) #[] (vs ++ [Value.pointer (some ⟨g, 0, none⟩)]).toArray ∧ allAt w caps vs ∧ w.cell? ⟨g, 0, none⟩ = some v
def selfG (f : FuncId) (caps : List (SA Dm)) : Gen where
 is := fun w v => ∃ g, SelfAt f caps w v g
 shape := none
 plain := true
 ok := fun w v ⟨g, vs, h, _⟩ => by subst h; exact ⟨_, rfl, rfl⟩
 pl := fun _ w v ⟨g, vs, h, _⟩ => by subst h; simp [Value.cells, notInt]
def pselfG (f : FuncId) (caps : List (SA Dm)) : Gen where
 is := fun w v => ∃ g u, v = .pointer (some ⟨g, 0, none⟩) ∧ SelfAt f caps w u g
 shape := none
 plain := true
 ok := fun w v ⟨g, u, h, _⟩ => by subst h; exact ⟨_, rfl, rfl⟩
 pl := fun _ w v ⟨g, u, h, _⟩ => by subst h; simp [Value.cells, notInt]
theorem self_open {L : Nat → Prop} {ρ : Rho} {w : World} {v : Value} {f : FuncId} {caps : List (SA Dm)} (h : (SA.d (Dm.gen (pselfG f caps))).is L ρ w v) : ∃ g u, v = .pointer (some ⟨g, 0, none⟩) ∧ ∀ w', Agree L w w' → SelfAt f caps w' u g := by
 obtain ⟨g, u, rfl, hs⟩ := h w (Agree.refl _ _)
 have key : ∀ w', Agree L w w' → ∃ u', SelfAt f caps w' u' g := by
  intro w' hw
  obtain ⟨g', u', e, hs'⟩ := h w' hw
  injection e with e
  injection e with e
  injection e with e
  subst e
  exact ⟨u', hs'⟩
 have hnL : ¬ L g ∧ g < w.heap.size := not_may (o := 0) fun w' hw => by
  obtain ⟨u', vs, _, _, q⟩ := key w' hw
  exact ⟨_, q⟩
 refine ⟨g, u, rfl, fun w' hw => ?_⟩
 obtain ⟨u', hs'⟩ := key w' hw
 have e1 := hs.choose_spec.2.2
 have e2 := hs'.choose_spec.2.2
 rw [may_same hnL hw, e1] at e2
 rw [Option.some.inj e2]
 exact hs'
variable {o : Oper} {d t : Nat}
theorem ok_loadself {T : TypeId} {f : FuncId} {caps : List (SA Dm)} (hT : TyIs P T none) (ho : o.op = .load T (.tmp t)) (hd : o.dst = some d) (hn : d < n) (ht : σ (.s t) = .av (.one (.d (.gen (pselfG f caps))))) : OpOk P cx n σ o [.s t] [(.s d, .av (.one (.d (.gen (selfG f caps)))))] := by
 refine ok_read hd hn rfl fun σ' ρ a w h hk => ?_
 obtain ⟨g, u, hv, hc⟩ := self_open (ρ := ρ) (h.slt t _ ((hk (.s t) (by simp)).trans ht))
 have e1 : a.eval (.tmp t) = .pointer (some ⟨g, 0, none⟩) := hv
 have hcell := (hc w (Agree.refl _ _)).choose_spec.2.2
 obtain ⟨⟨dd, hu, hdd⟩, _⟩ := hT
 have hagg : (isAgg T).run P w = .ok false w := by
  unfold isAgg
  rw [Sem.run_bind, run_underlying hu w]
  cases dd <;> simp_all
 exact ⟨u, by simp [execOp, ho, e1, Instr.loadAt, Instr.sureAddr, loadVar, hagg, load, Sem.run, hcell], fun w' hag => ⟨g, hc w' hag⟩⟩
theorem ok_callself {f : FuncId} {fn : Func} {caps : List (SA Dm)} {args : Array Operand} {tys : Array TypeId} {sas : List (SA Dm)} {r : AV Dm} (hcon : Con P f (sas ++ (caps ++ [.d (.gen (pselfG f caps))])) r) (hf : P.funcs[f]? = some fn) (hname : (fn.name == "runtime.NumGoroutine") = false) (hb : fn.body.isSome = true)
  (ho : o.op = .call ⟨.value (.tmp t), args, tys⟩) (hd : o.dst = some d) (hn : d < n) (ht : σ (.s t) = .av (.one (.d (.gen (selfG f caps))))) (hargs : ArgsOk σ args.toList sas) (hr : r.ptrs = []) (hfr : cx.fr = false) (hKP : npL (σ KP) = []) :
  OpOk P cx n σ o (KP :: .s t :: args.toList.flatMap opk) [(.s d, .av r)] := by
 intro σ' a w Q ⟨ρ, h⟩ h1 _ K hK
 obtain ⟨c, hc⟩ := Option.isSome_iff_exists.1 hb
 have hs := h.slt t _ ((h1 (.s t) (by simp)).trans ht)
 obtain ⟨g, vs, hv, hat, hcell⟩ := hs w (Agree.refl _ _)
 have e1 : a.eval (.tmp t) = .func (.func f) #[] (vs ++ [Value.pointer (some ⟨g, 0, none⟩)]).toArray := hv
 have hall' : ∀ w', Agree (Lof cx σ' ρ) w w' → SelfAt f caps w' (a.tmps.getD t undef) g ∧ allAt w' caps vs := by
  intro w' hag
  obtain ⟨g', vs', hv', hat', hcell'⟩ := hs w' hag
  have e2 := hv'
  rw [show a.tmps.getD t undef = _ from hv] at e2
  injection e2 with q1 q2 q3
  have e3 : vs ++ [Value.pointer (some ⟨g, 0, none⟩)] = vs' ++ [Value.pointer (some ⟨g', 0, none⟩)] := by simpa using congrArg Array.toList q3
  have hl : vs.length = vs'.length := by have := congrArg List.length e3; simpa using this
  obtain ⟨e4, e5⟩ := List.append_inj e3 hl
  injection e5 with e5
  injection e5 with e5
  injection e5 with e5
  injection e5 with e5
  subst e4; subst e5
  exact ⟨⟨vs, hv', hat', hcell'⟩, hat'⟩
 have hcaps : isAll (Lof cx σ' ρ) ρ w (caps ++ [.d (.gen (pselfG f caps))]) (vs ++ [Value.pointer (some ⟨g, 0, none⟩)]) :=
  isAll_append (allAt_is fun w' hag => (hall' w' hag).2) ⟨fun w' hag => ⟨g, _, rfl, (hall' w' hag).1⟩, trivial⟩
 have hrun : (execOp a.eval o).run P w = .ok (.enter f (args.toList.map a.eval ++ (vs ++ [Value.pointer (some ⟨g, 0, none⟩)])).toArray) w := by
  have h1 : fn.name ≠ "runtime.NumGoroutine" := by simpa using hname
  have h2 : args.map a.eval ++ (vs ++ [Value.pointer (some ⟨g, 0, none⟩)]).toArray = (args.toList.map a.eval ++ (vs ++ [Value.pointer (some ⟨g, 0, none⟩)])).toArray := Array.ext' (by simp)
  simp only [execOp, ho, resolve, e1, Deferred.ofValue, invoke]
  simp [callFunc, hf, h1, hc]
 unfold Oper.wp
 rw [hrun, Oper.upon_enter]
 refine (hcon (Lof cx σ' ρ) ρ w _ h.lofLt (h.noInt hfr (by rw [h1 KP (by simp)]; exact hKP)) (cx.wf hfr w h.kept) (isAll_append (hargs.is h fun q hq => h1 q (by simp [hq])) hcaps)).mono ?_
 rintro e w' ⟨v, rfl, hbel, hv'⟩
 show K (a.put o.dst v) w'
 rw [hd]
 exact hK _ _ ⟨ρ, h.put hbel hn hv' (by rw [hr]; intro b hb; cases hb)⟩

theorem CV.closureS {l : Sg Dm} {K : Exit → Sg Dm → Prop} {id : Nat} {o1 o2 : Oper} {f t6 t8 i6 : Nat} {T T6 : TypeId} {caps : List Operand} {ss : List (SA Dm)} (hB : ∀ b, ¬ cx.Bw b)
  (h1 : o1.op = .makeFunc (.func f) #[] (caps ++ [Operand.tmp t6]).toArray) (hg1 : o1.guard = none) (hd1 : o1.dst = some t8) (hn : t8 < n) (h2 : o2.op = .store T (.tmp t6) (.tmp t8)) (hg2 : o2.guard = none) (hd2 : o2.dst = none) (hsz : (P.info? T).map (·.size) = some 1)
  (e6 : lookD .no l (.s t6) = .av (.one (.ptr i6 0))) (b6 : lookD .no l (.b i6) = .blk T6 [(none, .v .nilFunc)]) (h68 : t6 ≠ t8) (h6n : t6 < n) (hargs : ArgsOk (lookD .no l) caps ss) (hps : ptrsAll ss = []) (hrK : Nat.beq i6 1000000 = false)
  (hK : K .normal ([(.s t8, .av (.one (.d (Dm.gen (selfG f ss))))), (.s t6, .av (.one (.d (Dm.gen (pselfG f ss))))), (.b i6, .dead)] ++ l)) : CV P cx n (.region id #[o1, o2] false) l K := by
 refine ⟨fun a w hC => ?_⟩
 obtain ⟨ρ, h⟩ := hC
 obtain ⟨σ, hσ⟩ : ∃ σ, σ = lookD .no l := ⟨_, rfl⟩
 rw [← hσ] at h e6 b6 hargs
 obtain ⟨cs6, hc6, p6, r6, v6, rfl, ⟨rfl, _⟩, hv6, hr6⟩ := h.blk i6 _ _ b6
 obtain rfl : r6 = [] := hr6
 obtain rfl : v6 = .nilFunc := hv6
 have hlv : live σ ρ i6 := live_blk b6
 obtain ⟨g, hg⟩ : ∃ g, g = (ρ i6).1 := ⟨_, rfl⟩
 have ev6 : a.eval (.tmp t6) = .pointer (some ⟨g, 0, none⟩) := by rw [hg]; exact h.slt t6 _ e6
 rw [← hg] at hc6
 have hall := hargs.is h fun _ _ => rfl
 obtain ⟨V, hV⟩ : ∃ V, V = Value.func (.func f) #[] (caps.map a.eval ++ [Value.pointer (some ⟨g, 0, none⟩)]).toArray := ⟨_, rfl⟩
 obtain ⟨w', hw'⟩ : ∃ w', w' = w.setCells g 0 [V] := ⟨_, rfl⟩
 have hoth : ∀ j, j ≠ g → w'.heap[j]? = w.heap[j]? := fun j hj => by rw [hw']; exact other_setCells _ _ _ _ _ hj
 have hsize : w'.heap.size = w.heap.size := by rw [hw']; exact size_setCells' ..
 have hcell6 : w'.heap[g]? = some (.cells #[V] T6 (0, 0)) := by
  rw [hw']
  exact same_setCells _ T6 [V] [.nilFunc] [] [] w rfl hc6
 refine wp_region_lit (l := [o1, o2]) ?_
 refine wpList_plain hg1 fun K1 hK1 => ?_
 have r1 : (execOp a.eval o1).run P w = .ok (.value V) w := by
  simp [execOp, h1, Instr.makeFunc, ev6, hV]
 unfold Oper.wp
 rw [r1, Oper.upon_value, hd1]
 refine hK1 _ _ ?_
 refine wpList_plain hg2 fun K2 hK2 => ?_
 have ev6' : (a.put (some t8) V).eval (.tmp t6) = .pointer (some ⟨g, 0, none⟩) := by
  show (a.put (some t8) V).tmps.getD t6 undef = _
  rw [tmp_put hn h.size, if_neg h68]
  exact ev6
 have ev8 : (a.put (some t8) V).eval (.tmp t8) = V := Pu.put_same _ _ _ (by rw [h.size]; exact hn)
 have r2 : (execOp (a.put (some t8) V).eval o2).run P w = .ok .skip w' := by
  have hst := run_storeCells_cells (P := P) g 0 [V] 0 w (fun j hj => by
    have : j = 0 := by simpa using hj
    subst this
    show (w.cell? ⟨g, 0, none⟩).isSome = true
    rw [cell_of_row w g 0 _ _ (0, 0) hc6]; rfl) (fun j hj => by simp [World.frozen?, hc6]) (by intro u hu; rw [List.mem_singleton.1 hu, hV]; rfl)
  cases hq : P.info? T with
  | none => simp [hq] at hsz
  | some inf =>
   have q1 : inf.size = 1 := by simpa [hq] using hsz
   have q2 : V.cells = [V].toArray := by rw [hV]; rfl
   rw [← hw'] at hst
   simp [execOp, h2, ev6', ev8, Instr.storeAt, Instr.sureAddr, storeVar, sizeOf, typeInfo, hq, q1, q2, hst]
 unfold Oper.wp
 rw [r2, Oper.upon_skip, hd2]
 refine hK2 _ _ ⟨_, ⟨ρ, ?_⟩, hK⟩
 show Conc cx n ρ _ (a.put (some t8) V) w'
 obtain ⟨wr, hwr⟩ : ∃ wr : Sg Dm, wr = [(.s t8, .av (.one (.d (Dm.gen (selfG f ss))))), (.s t6, .av (.one (.d (Dm.gen (pselfG f ss))))), (.b i6, .dead)] := ⟨_, rfl⟩
 rw [← hwr, ← upd_look, ← hσ]
 have k8 : upd σ wr (.s t8) = .av (.one (.d (Dm.gen (selfG f ss)))) := by rw [hwr]; show (bif Key.beq (.s t8) (.s t8) then _ else _) = _; rw [Key.beq_self]; rfl
 have k6 : upd σ wr (.s t6) = .av (.one (.d (Dm.gen (pselfG f ss)))) := by
  rw [hwr]; show (bif Key.beq (.s t8) (.s t6) then _ else bif Key.beq (.s t6) (.s t6) then _ else _) = _
  rw [Key.beq_ne (by simpa using h68.symm), Key.beq_self]; rfl
 have kb6 : upd σ wr (.b i6) = .dead := by
  rw [hwr]; show (bif Key.beq (.b i6) (.b i6) then _ else _) = _; rw [Key.beq_self]; rfl
 have k3 : ∀ k, k ≠ .s t8 → k ≠ .s t6 → k ≠ .b i6 → upd σ wr k = σ k := fun k q1 q2 q3 => upd_other (by rw [hwr]; simp [keys, q1, q2, q3])
 have hrK1 : i6 ≠ 1000000 := fun e => by subst e; cases hrK
 have hKP : upd σ wr KP = σ KP := k3 _ (by simp [KP]) (by simp [KP]) (by simp [KP]; omega)
 have hrl : ∀ j, live (upd σ wr) ρ j → live σ ρ j ∧ j ≠ i6 := by
  intro j hj
  have e : j ≠ i6 := by
   rintro rfl
   rcases live_some hj with ⟨T, ch, e⟩ | ⟨T, k, l, e, _⟩ <;> rw [kb6] at e <;> cases e
  exact ⟨(live_same (k3 _ (by simp) (by simp) (by simpa using e)) rfl).1 hj, e⟩
 have hL : ∀ b, Lof cx (upd σ wr) ρ b → Lof cx σ ρ b := by
  rintro b (q | ⟨j, q1, q2⟩)
  ·exact .inl q
  ·exact .inr ⟨j, (hrl j q1).1, q2⟩
 have hgL : ¬ Lof cx (upd σ wr) ρ g := by
  rintro (q | ⟨j, q1, q2⟩)
  ·rcases h.mine i6 hlv with m | m
   ·have := cx.lt _ q; omega
   ·exact hB _ m
  ·obtain ⟨q3, q4⟩ := hrl j q1
   exact q4 (h.inj j i6 q3 hlv (by rw [← hg]; exact q2))
 have gg : Goes (Lof cx σ ρ) w (Lof cx (upd σ wr) ρ) w' := by
  intro w'' hw
  refine ⟨by rw [← hsize]; exact hw.1, fun b hbs hnL => ?_⟩
  refine (hw.2 b (by rw [hsize]; exact hbs) fun hb => hnL (hL b hb)).trans (hoth b ?_)
  rintro rfl
  exact hnL (.inr ⟨i6, hlv, hg.symm⟩)
 have hclo : ∀ w'', Agree (Lof cx (upd σ wr) ρ) w' w'' → SelfAt f ss w'' V g := by
  intro w'' hag
  have q : w''.heap[g]? = some (.cells #[V] T6 (0, 0)) := (hag.2 _ (by rw [hsize, hg]; exact h.lt hlv) hgL).trans hcell6
  refine ⟨_, hV, ?_, by rw [cell_of_row _ _ _ _ _ _ q]; rfl⟩
  have key : ∀ (ss : List (SA Dm)) (vs : List Value), isAll (Lof cx σ ρ) ρ w ss vs → ptrsAll ss = [] → allAt w'' ss vs := by
   intro ss
   induction ss with
   | nil => intro vs h _; cases vs with | nil => trivial | cons => exact h.elim
   | cons s ss ih =>
    intro vs h hp
    cases vs with
    | nil => exact h.elim
    | cons v vs =>
     simp only [ptrsAll, List.flatMap_cons, List.append_eq_nil_iff] at hp
     exact ⟨SA.is_at h.1 hp.1 (gg w'' hag), ih vs h.2 hp.2⟩
  exact key ss _ hall hps
 refine h.step (fun b => b = g) (fun k => k = .s t8 ∨ k = .s t6 ∨ k = .b i6) (by rw [Pu.size_put]; exact h.size) (by rw [Pu.defers_put]; exact h.defers) (by rw [hw']; exact os_setCells ..) (by rw [hw']; exact tape_setCells ..) (by rw [hw']; exact out_setCells ..) (by rw [hsize]; exact Nat.le_refl _) (fun b _ hb => hoth b hb) (fun b hb => ⟨i6, hlv, by rw [hb]; exact hg.symm⟩)
  (fun k hk => k3 k (fun q => hk (.inl q)) (fun q => hk (.inr (.inl q))) (fun q => hk (.inr (.inr q)))) (fun _ _ => rfl) (fun i hi hm => .inr (.inr (by rw [h.inj i i6 hi hlv (by rw [← hg]; exact hm)]))) (fun b _ q => hL b q) ?_ ?_ ?_ (fun i _ q => by rw [hKP] at q; exact q) (fun i j hi hj => h.inj i j (hrl i hi).1 (hrl j hj).1) ?_ ?_ ?_ ?_
 ·rintro i (q | q | q) hi
  ·cases q
  ·cases q
  ·injection q with q; subst q; exact absurd rfl (hrl _ hi).2
 ·rintro i T1 ch (q | q | q) hi
  ·cases q
  ·cases q
  ·injection q with q; subst q; rw [kb6] at hi; cases hi
 ·rintro i T1 k1 l1 (q | q | q) hi
  ·cases q
  ·cases q
  ·injection q with q; subst q; rw [kb6] at hi; cases hi
 ·rintro t1 av (q | q | q) ht1
  ·injection q with q
   subst q
   rw [k8] at ht1
   obtain rfl := (XV.av.injEq _ _).mp ht1
   rw [show (a.put (some t1) V).tmps.getD t1 undef = V from ev8]
   exact fun w'' hag => ⟨g, hclo w'' hag⟩
  ·injection q with q
   subst q
   rw [k6] at ht1
   obtain rfl := (XV.av.injEq _ _).mp ht1
   rw [show (a.put (some t8) V).tmps.getD t1 undef = _ from ev6']
   exact fun w'' hag => ⟨g, V, rfl, hclo w'' hag⟩
  ·cases q
 ·intro t1 ht1
  rw [tmp_put hn h.size, if_neg (fun e => ht1 (.inl (by rw [e])))]
 ·rintro k b (q | q | q) hb'
  ·subst q; rw [k8] at hb'; cases hb'
  ·subst q; rw [k6] at hb'; cases hb'
  ·subst q; rw [kb6] at hb'; cases hb'
 ·intro i hi
  by_cases e : i = i6
  ·rw [e, kb6]; simp
  ·rw [k3 _ (by simp) (by simp) (by simpa using e)]; exact hi
end
theorem is_lenle {z : Int} {k B : Nat} (h : len z ≤ B) : ∀ L ρ w v, (SA.d (Dm.int z k) : SA Dm).is L ρ w v → (SA.d (Dm.int z B)).is L ρ w v := fun L ρ w v hv w' hw => ⟨(hv w' hw).1, h⟩
theorem is_pair {s s' r r' : SA Dm} (h1 : ∀ L ρ w v, s.is L ρ w v → r.is L ρ w v) (h2 : ∀ L ρ w v, s'.is L ρ w v → r'.is L ρ w v) : ∀ L ρ w v, (AV.tup [s, s']).is L ρ w v → (AV.tup [r, r']).is L ρ w v := by
 rintro L ρ w v ⟨vs, rfl, h⟩
 match vs, h with
 | [u, u'], ⟨k1, k2, _⟩ => exact ⟨[u, u'], rfl, h1 _ _ _ _ k1, h2 _ _ _ _ k2, trivial⟩
end Vc
end Go.Proofs.YtpgiebimhnhbiaaGreatDoor
