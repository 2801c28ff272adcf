/-
  Further operations: shifts, division of numbers that are not negative, digests compared and read by index, parts of an array of one's own.
  Signatures: the digits, of package sign and of the reference.
  Signatures: Digits of package sign.
-/
import Derived.Test.YthadfilandmhiaaDoorSB37
import Derived.Laws.StructEq
set_option linter.unusedVariables false
set_option linter.unusedSimpArgs false
set_option linter.unusedSectionVars false
namespace Go.Proofs.YthadfilandmhiaaDoor
open Go.RowKit
open Go.Lib (hid)
open Dg Zn S
namespace Vc
section
variable {P : Program} {cx : Cx Dm} {n : Nat} {σ : St Dm} {o : Oper} {d t : Nat} {x y : Operand} {T T' : TypeId}
theorem ok_shr {a c : Int} {j : Nat} (hj : j < 64) (hc : a / 2 ^ j = c) (ho : o.op = .binOp .shr T x y T') (hd : o.dst = some d) (hn : d < n) (hx : opd σ x = .av (.one (.v (.int .i64 a)))) (hy : opd σ y = .av (.one (.v (.int .i64 (j : Int))))) : OpOk P cx n σ o (opk x ++ opk y) [(.s d, .av (.one (.v (.int .i64 c))))] :=
  ok_bin ho hd hn hx hy fun w => by
    have h1 : ¬ ((j : Int) < 0) := by omega
    have h2 : min ((j : Int).toNat) (IntKind.i64.bits) = j := by rw [Int.toNat_natCast]; exact Nat.min_eq_left (Nat.le_of_lt hj)
    have h3 : a.fdiv (2 ^ j) = c := by rw [← hc]; exact Int.fdiv_eq_ediv_of_nonneg _ (Int.le_of_lt (Int.pow_pos (by decide)))
    have h4 : (Op.shift .shr .i64 a .i64 (j : Int)).run P w = .ok (.int .i64 c) w := by
      unfold Op.shift
      rw [if_neg h1, h2, ← h3]
      rfl
    simp only [eqGuard, Sem.run_bind]
    exact h4
theorem ok_shl {a c : Int} {j : Nat} (hj : j < 64) (hc : IntKind.i64.wrap (a * 2 ^ j) = c) (ho : o.op = .binOp .shl T x y T') (hd : o.dst = some d) (hn : d < n) (hx : opd σ x = .av (.one (.v (.int .i64 a)))) (hy : opd σ y = .av (.one (.v (.int .i64 (j : Int))))) : OpOk P cx n σ o (opk x ++ opk y) [(.s d, .av (.one (.v (.int .i64 c))))] :=
  ok_bin ho hd hn hx hy fun w => by
    have h1 : ¬ ((j : Int) < 0) := by omega
    have h2 : min ((j : Int).toNat) (IntKind.i64.bits) = j := by rw [Int.toNat_natCast]; exact Nat.min_eq_left (Nat.le_of_lt hj)
    have h4 : (Op.shift .shl .i64 a .i64 (j : Int)).run P w = .ok (.int .i64 c) w := by
      unfold Op.shift
      rw [if_neg h1, h2, ← hc]
      rfl
    simp only [eqGuard, Sem.run_bind]
    exact h4
theorem ok_quoN {m q : Nat} (hq : 0 < q) (hm : m ≤ 9223372036854775807) (ho : o.op = .binOp .quo T x y T') (hd : o.dst = some d) (hn : d < n) (hx : opd σ x = .av (.one (.v (.int .i64 (m : Int))))) (hy : opd σ y = .av (.one (.v (.int .i64 (q : Int))))) : OpOk P cx n σ o (opk x ++ opk y) [(.s d, .av (.one (.v (.int .i64 ((m / q : Nat) : Int)))))] := by
  have h1 : (m : Int).tdiv (q : Int) = ((m / q : Nat) : Int) := by rw [Int.tdiv_eq_ediv_of_nonneg (by omega)]; exact (Int.natCast_ediv m q).symm
  have h2 := Nat.div_le_self m q
  have h3 : IntKind.i64.wrap (((m / q : Nat) : Int)) = ((m / q : Nat) : Int) := by
    generalize m / q = z at *
    exact wrapI (by omega) (by omega)
  exact ok_quo (by omega) (by rw [h1]; exact h3) ho hd hn hx hy
theorem ok_remN {m q : Nat} (hq : 0 < q) (ho : o.op = .binOp .rem T x y T') (hd : o.dst = some d) (hn : d < n) (hx : opd σ x = .av (.one (.v (.int .i64 (m : Int))))) (hy : opd σ y = .av (.one (.v (.int .i64 (q : Int))))) : OpOk P cx n σ o (opk x ++ opk y) [(.s d, .av (.one (.v (.int .i64 ((m % q : Nat) : Int)))))] := by
  have h1 : (m : Int).tmod (q : Int) = ((m % q : Nat) : Int) := by rw [Int.tmod_eq_emod_of_nonneg (by omega)]; exact (Int.natCast_emod m q).symm
  rw [← h1]
  exact ok_rem (by omega) ho hd hn hx hy
/-- A byte of a digest that is data. -/
theorem ok_idxDP {l : List Nat} {i : Nat} {j : Operand} {ty e : TypeId} (hb : Bn l) (hi : i < 16) (hu : P.underlying ty = some (.array 16 e)) (hsz : (P.info? e).map (·.size) = some 1) (ho : o.op = .indexAddr ty (.tmp t) j) (hd : o.dst = some d) (hn : d < n)
    (ht : σ (.s t) = .av (.one (.d (.gen (pG (some 16) (DG (by8 l))))))) (hj : opd σ j = .av (.one (.v (.int .i64 (i : Int))))) : OpOk P cx n σ o (.s t :: opk j) [(.s d, .av (.one (.d (.gen (pG none (.v (.int .u8 ((l.getD i 0 : Nat) : Int))))))))] := by
  refine ok_read hd hn rfl fun σ' ρ a w h hk' => ?_
  have ht' := (hk' (.s t) (by simp)).trans ht
  obtain ⟨b, off, e1, hl, hc⟩ := dgp_open (ρ := ρ) (h.slt t _ ht')
  have e1 : a.eval (.tmp t) = .pointer (some ⟨b, off, none⟩) := e1
  have e2 : a.eval j = .int .i64 (i : Int) := h.opd ((opd_same fun q hq => hk' q (by simp [hq])).trans hj)
  refine ⟨.pointer (some ⟨b, off + i * 1, none⟩), ?_, ?_⟩
  · simp only [execOp, ho, e1, e2, Sem.run_bind, run_indexA hu hsz w b off i hi, Result.andThen_ok, Sem.run_pure]
  · intro w' hag
    rw [by8_length] at hl
    refine ⟨b, off + i * 1, _, rfl, [.int .u8 ((l.getD i 0 : Nat) : Int)], ⟨rfl, rfl⟩, rfl, fun m c hm => ?_⟩
    cases m with
    | zero =>
      obtain rfl : Value.int .u8 ((l.getD i 0 : Nat) : Int) = c := by simpa using hm
      rw [Nat.mul_one, Nat.add_zero]
      refine hc w' hag i _ ?_
      have hx := hb (l.getD i 0) (by rw [List.getD_eq_getElem?_getD, List.getElem?_eq_getElem (by omega)]; exact List.getElem_mem _)
      have hi2 : i < l.length := by omega
      rw [List.getD_eq_getElem?_getD, List.getElem?_eq_getElem hi2, Option.getD_some] at hx ⊢
      simp only [byC, by8, List.getElem?_map, List.getElem?_eq_getElem hi2, Option.map_some, Option.some.injEq, Value.int.injEq, true_and]
      rw [UInt8.toNat_ofNat']
      omega
    | succ m => simp at hm
/-- A part of an array of one's own, as a slice. -/
def subS (b off m c : Nat) : RG where
  is := fun ρ _ y => y = .slice (some ⟨(ρ b).1, off, none⟩) m c
  pts := [b]
  ne := by simp
  cong := fun ρ ρ' w y h hy => by rw [h b (by simp)]; exact hy
  cell := true
  one := fun _ ρ w y h => by subst h; exact ⟨rfl, rfl⟩
theorem run_cutB (w : World) {ty e : TypeId} {m q : Nat} (hu : P.underlying ty = some (.array m e)) (hq : (P.info? e).map (·.size) = some q) (g : Nat) (lo hi : Option Nat) (h1 : lo.getD 0 ≤ hi.getD m) (h2 : hi.getD m ≤ m) (h3 : lo.getD 0 < m) :
    (Instr.sliceAt ty (.pointer (some ⟨g, 0, none⟩)) (optI lo) (optI hi) none).run P w = .ok (.slice (some ⟨g, lo.getD 0 * q, none⟩) (hi.getD m - lo.getD 0) (m - lo.getD 0)) w := by
  have key : ∀ (n y : Nat) c, n ≤ y → (Instr.sliceBound (.int .i64 (n : Int)) y c).run P w = .ok n w := by
    intro n y c hny
    have : ((n : Nat) : Int) ≤ (y : Int) := by omega
    simp [Instr.sliceBound, asIntOf, this]
  have hb : (Instr.sliceBounds false m m (optI lo) (optI hi) none).run P w = .ok (lo.getD 0, hi.getD m, m) w := by
    cases lo with
    | none =>
      cases hi with
      | none => simp [Instr.sliceBounds, optI]
      | some hi => simp only [Option.getD_some] at h2; simp [Instr.sliceBounds, optI, key _ _ _ h2]
    | some lo =>
      cases hi with
      | none => simp only [Option.getD_some, Option.getD_none] at h1; simp [Instr.sliceBounds, optI, key _ _ _ h1]
      | some hi => simp only [Option.getD_some] at h1 h2; simp [Instr.sliceBounds, optI, key _ _ _ h2, key _ _ _ h1]
  have h4 : ¬ (m = lo.getD 0) := by omega
  simp [Instr.sliceAt, Instr.sureAddr, Sem.run_bind, run_underlying hu, Result.andThen_ok, hb, size_of hq, Sem.run_pure, h4, Addr.add_mid]
theorem ok_cutAR {r m q : Nat} {ty e T : TypeId} {k : Option Nat} {l : List (SA Dm)} {lo hi : Option Operand} (lo' hi' : Option Nat) (hu : P.underlying ty = some (.array m e)) (hq : (P.info? e).map (·.size) = some q) (h1 : lo'.getD 0 ≤ hi'.getD m) (h2 : hi'.getD m ≤ m) (h3 : lo'.getD 0 < m) (ho : o.op = .slice ty (.tmp t) lo hi none) (hd : o.dst = some d) (hn : d < n)
    (ht : σ (.s t) = .av (.one (.ptr r 0))) (hb : σ (.b r) = .row T k l) (hlo : bndIs σ lo lo') (hhi : bndIs σ hi hi') :
    OpOk P cx n σ o (.s t :: .b r :: (bndK lo ++ bndK hi)) [(.s d, .av (.one (.lk (subS r (lo'.getD 0 * q) (hi'.getD m - lo'.getD 0) (m - lo'.getD 0)))))] := by
  intro σ' a w Q ⟨ρ, h⟩ hk _ K hK
  have ht' := (hk (.s t) (by simp)).trans ht
  have hb' := (hk (.b r) (by simp)).trans hb
  have e1 : a.eval (.tmp t) = .pointer (some ⟨(ρ r).1, 0, none⟩) := h.slt t _ ht'
  have e2 := bnd_eval h hlo (fun q hq => hk q (by simp [hq]))
  have e3 := bnd_eval h hhi (fun q hq => hk q (by simp [hq]))
  have hr : (execOp a.eval o).run P w = .ok (.value (.slice (some ⟨(ρ r).1, lo'.getD 0 * q, none⟩) (hi'.getD m - lo'.getD 0) (m - lo'.getD 0))) w := by
    simp only [execOp, ho, e1, e2, e3, Option.map_none, Sem.run_bind, run_cutB w hu hq (ρ r).1 lo' hi' h1 h2 h3, Result.andThen_ok, Sem.run_pure]
  unfold Oper.wp
  rw [hr, Oper.upon_value, hd]
  refine hK _ _ ⟨ρ, h.put (Below.refl _ _) hn (fun _ _ => rfl) fun q hq => ?_⟩
  obtain rfl : q = r := by simpa [AV.ptrs, SA.ptrs, subS] using hq
  rw [hb']; simp
theorem ok_lenSub {b off m c : Nat} {ty e : TypeId} (hu : P.underlying ty = some (.slice e)) (ho : o.op = .call ⟨.builtin .len, #[.tmp t], #[ty]⟩) (hd : o.dst = some d) (hn : d < n) (ht : σ (.s t) = .av (.one (.lk (subS b off m c)))) : OpOk P cx n σ o [.s t] [(.s d, .av (.one (.v (.int .i64 (m : Int)))))] := by
  refine ok_read hd hn rfl fun σ' ρ a w h hk' => ⟨_, ?_, rfl⟩
  have e1 : a.eval (.tmp t) = .slice (some ⟨(ρ b).1, off, none⟩) m c := h.slt t _ ((hk' (.s t) (by simp)).trans ht) w (Agree.refl _ _)
  simp [execOp, ho, resolve, invoke, e1, builtin, Builtin.len_, run_underlying hu, goInt]
theorem ok_idxSub {r off m c i sz : Nat} {j : Operand} {ty e T : TypeId} {k : Option Nat} {l : List (SA Dm)} (hi : i < m) (hu : P.underlying ty = some (.slice e)) (hsz : (P.info? e).map (·.size) = some sz) (ho : o.op = .indexAddr ty (.tmp t) j) (hd : o.dst = some d) (hn : d < n)
    (ht : σ (.s t) = .av (.one (.lk (subS r off m c)))) (hb : σ (.b r) = .row T k l) (hj : opd σ j = .av (.one (.v (.int .i64 (i : Int))))) :
    OpOk P cx n σ o (.s t :: .b r :: opk j) [(.s d, .av (.one (.ptr r (off + i * sz))))] := by
  intro σ' a w Q ⟨ρ, h⟩ h1 _ K hK
  have ht' := (h1 (.s t) (by simp)).trans ht
  have hb' := (h1 (.b r) (by simp)).trans hb
  have e1 : a.eval (.tmp t) = .slice (some ⟨(ρ r).1, off, none⟩) m c := h.slt t _ ht' w (Agree.refl _ _)
  have e2 : a.eval j = .int .i64 (i : Int) := h.opd ((opd_same fun q hq => h1 q (by simp [hq])).trans hj)
  have hr : (execOp a.eval o).run P w = .ok (.value (.pointer (some ⟨(ρ r).1, off + i * sz, none⟩))) w := by
    simp only [execOp, ho, e1, e2, Sem.run_bind, run_index hu hsz w (ρ r).1 off m c i hi, Result.andThen_ok, Sem.run_pure]
  unfold Oper.wp
  rw [hr, Oper.upon_value, hd]
  exact hK _ _ ⟨ρ, h.put (Below.refl _ _) hn rfl fun q hq => by
    obtain rfl : q = r := by simpa [AV.ptrs, SA.ptrs] using hq
    rw [hb']; simp⟩
/-- The whole of it, as data: it is written no more. -/
theorem ok_cutAF {r m q : Nat} {ty e T : TypeId} {k : Option Nat} {l : List (SA Dm)} {G : Dm} (hB : ∀ b, ¬ cx.Bw b) (hl : l.length = m) (hm : 0 < m) (hm2 : m ≤ maxLen) (hG : Lst G k l) (hu : P.underlying ty = some (.array m e)) (hq : (P.info? e).map (·.size) = some q) (ho : o.op = .slice ty (.tmp t) none none none) (hd : o.dst = some d) (hn : d < n)
    (ht : σ (.s t) = .av (.one (.ptr r 0))) (hb : σ (.b r) = .row T k l) (hrK : Nat.beq r 1000000 = false) :
    OpOk P cx n σ o [.s t, .b r] [(.s d, .av (.one (.d G))), (.b r, .dead)] := by
  intro σ' a w Q ⟨ρ, h⟩ h1 _ K hK
  have ht' := (h1 (.s t) (by simp)).trans ht
  have hb' := (h1 (.b r) (by simp)).trans hb
  have e1 : a.eval (.tmp t) = .pointer (some ⟨(ρ r).1, 0, none⟩) := h.slt t _ ht'
  have hr : (execOp a.eval o).run P w = .ok (.value (.slice (some ⟨(ρ r).1, 0, none⟩) m m)) w := by
    simp only [execOp, ho, e1, Sem.run_bind, Option.map_none, run_cutA w hu hq _ 0, Result.andThen_ok, Sem.run_pure]
  unfold Oper.wp
  rw [hr, Oper.upon_value, hd]
  refine hK _ _ ⟨ρ, h.froze hb' hn (fun e => by subst e; cases hrK) (Below.refl _ _) fun w'' hag => ?_⟩
  have hc : 0 < (ρ r).2 := by have := (h.row r T k l hb').1.1; omega
  obtain ⟨cs, sp, q1, q2⟩ := h.stays hb' hB hag hc
  have := hG w'' (ρ r).1 0 m cs (by omega) hm2 q2 fun j u hj => by
    rw [q1.cell, Nat.zero_add, List.getElem?_append_left (List.getElem?_eq_some_iff.1 hj).1]
    exact hj
  rwa [hl] at this
end
/-- An array of numbers is made. -/
theorem ok_allocRN {P : Program} {cx : Cx Dm} {n : Nat} {σ : St Dm} {o : Oper} {d r : Nat} {ty : TypeId} (vs : List Value) (hz : (P.info? ty).map (·.zero) = some (some (.agg vs.toArray))) (h1 : ∀ v ∈ vs, v.oneCell' = true) (hm : vs.length ≤ 1000) (ho : o.op = .alloc ty) (hd : o.dst = some d) (hn : d < n) (hr : σ (.b r) = .no) (hkp : kpB (σ KP) = true) (hrK : Nat.beq r 1000000 = false) :
    OpOk P cx n σ o [] [(.s d, .av (.one (.ptr r 0))), (.b r, .row ty none (vs.map fun v => .v v)), (KP, .np (r :: npL (σ KP)))] := by
  intro σ' a w Q ⟨ρ, h⟩ _ h2 K hK
  have hKP := h2 KP (by simp [keys])
  have hrK1 : r ≠ 1000000 := fun e => by subst e; cases hrK
  have hzr : (zeroValue ty).run P w = .ok (.agg vs.toArray) w := by
    cases hq : P.info? ty with
    | none => simp [hq] at hz
    | some inf =>
      simp only [hq, Option.map_some, Option.some.injEq] at hz
      simp [zeroValue, typeInfo, hq, hz]
  have hrun : (execOp a.eval o).run P w = .ok (.value (.pointer (some ⟨w.heap.size, 0, none⟩))) (w.alloc (.cells vs.toArray ty)) := by
    simp only [execOp, ho, Sem.run_bind, Instr.alloc, hzr, newVar, newRow, run_newObj_alloc, Sem.run_pure, Result.andThen_ok, Value.cells]
  unfold Oper.wp
  rw [hrun, Oper.upon_value, hd]
  have hk := h.kp (q := .np (r :: npL (σ KP))) (by rw [hKP]; exact hkp) rfl (fun _ => by simp) (fun i T k l _ hi q => hi (by rw [hKP] at q; exact List.mem_cons_of_mem _ q))
  have hr0 : σ' (.b r) = .no := (h2 (.b r) (by simp [keys])).trans hr
  have hKr : Key.b r ≠ KP := by simpa [KP] using hrK1
  obtain ⟨σ1, hσ1⟩ : ∃ σ1, σ1 = upd σ' [(KP, .np (r :: npL (σ KP)))] := ⟨_, rfl⟩
  rw [← hσ1] at hk
  have hk1 : σ1 (.b r) = .no := by rw [hσ1, upd1_ne hKr]; exact hr0
  have hkK : σ1 KP = .np (r :: npL (σ KP)) := by rw [hσ1]; exact upd1
  have hnew := hk.new (d := d) (i := r) (g := w.heap.size) (c := vs.length) (av := .one (.ptr r 0)) (x := .row ty none (vs.map fun v => .v v)) (v := .pointer (some ⟨w.heap.size, 0, none⟩)) ((Below.refl _ _).alloc (Nat.le_refl _) (.cells vs.toArray ty)) hn hk1 hrK1 (by simp) (Nat.le_refl _) (fun ρ' hρ => by show _ = _; rw [hρ]) (fun b hb => by simpa [AV.ptrs, SA.ptrs] using hb)
    (fun T ch e => by cases e) (fun T1 k1 l1 e => by
      injection e with e1 e2 e3
      subst e1; subst e2; subst e3
      refine ⟨⟨by simp, by unfold maxLen; omega, ?_⟩, fun _ => ⟨vs, [], by rw [List.append_nil]; exact RowC.mk0 (heap_alloc_new w _), vals_chs h1, by simp, fun q => absurd (by rw [hkK]; exact List.mem_cons_self) q⟩⟩
      rw [List.flatMap_eq_nil_iff]
      intro s hs
      obtain ⟨v, _, rfl⟩ := List.mem_map.1 hs
      rfl) (by intro b hb; cases hb) (fun _ _ _ _ _ q => q)
  have e3 : upd σ1 [(.s d, .av (.one (.ptr r 0))), (.b r, .row ty none (vs.map fun v => .v v))] = upd σ' [(.s d, .av (.one (.ptr r 0))), (.b r, .row ty none (vs.map fun v => .v v)), (KP, .np (r :: npL (σ KP)))] := by
    rw [hσ1]
    rfl
  rw [e3] at hnew
  exact hK _ _ hnew

/-! Digests compared. -/
theorem part_byteD (ds : List Int) (j : Nat) (hj : j < ds.length) (w : World) : (part 5 (ds.map (Value.int .u8)).toArray j).run Tryd.prog w = .ok (.int .u8 ds[j]) w := by
  have h1 : (isAgg 5).run Tryd.prog w = .ok false w := by kernel_rfl
  simp [part, Sem.run_bind, h1, Result.andThen_ok, hj]
theorem eqItems_dig (ds es : List Int) (hl : ds.length = es.length) (w : World) : ∀ is : List Nat, (∀ i ∈ is, i < ds.length) → (Op.eqItems (9998 + 1) 5 1 (ds.map (Value.int .u8)).toArray (es.map (Value.int .u8)).toArray is).run Tryd.prog w = .ok (is.all fun i => decide (ds.getD i 0 = es.getD i 0)) w
  | [], _ => by simp [Op.eqItems]
  | i :: is, h => by
    have hi := h i (List.mem_cons_self ..)
    have hi2 : i < es.length := by omega
    have ih := eqItems_dig ds es hl w is (fun x hx => h x (List.mem_cons_of_mem _ hx))
    simp only [Op.eqItems, Sem.run_bind, Nat.mul_one, part_byteD ds i hi, part_byteD es i hi2, Result.andThen_ok]
    rw [run_equalIn_int w 9998 _ _ _ _ _ Tryd.under_u8]
    by_cases e : ds[i] = es[i]
    · simpa [Result.andThen_ok, e, List.getD_eq_getElem?_getD, hi, hi2] using ih
    · simp [Result.andThen_ok, e, List.getD_eq_getElem?_getD, hi, hi2]
def toZ (u : List UInt8) : List Int := u.map fun b => (b.toNat : Int)
theorem toZ_inj {u v : List UInt8} (h : toZ u = toZ v) : u = v := by
  have h2 := congrArg (List.map fun z : Int => UInt8.ofNat z.toNat) h
  simpa [toZ, Function.comp_def] using h2
set_option maxRecDepth 100000 in
theorem eqDig (u v : List UInt8) (h : u.length = 16) (h2 : v.length = 16) (w : World) : (Op.equalIn 10000 23 (.agg (byC u).toArray) (.agg (byC v).toArray)).run Tryd.prog w = .ok (decide (u = v)) w := by
  have el : ∀ u : List UInt8, byC u = (toZ u).map (Value.int .u8) := fun u => by simp [byC, toZ]
  obtain ⟨i0, hi, _, hz1, _⟩ := info_parts Tryd.info_u8
  have hc : Tryd.prog.cellsOf 5 = 1 := by kernel_rfl
  have hl : (toZ u).length = 16 := by simpa [toZ] using h
  have hm : (toZ v).length = 16 := by simpa [toZ] using h2
  have e := run_equalIn_array (P := Tryd.prog) w 9999 ((toZ u).map (Value.int .u8)).toArray ((toZ v).map (Value.int .u8)).toArray u_dig hi
  rw [hc, eqItems_dig (toZ u) (toZ v) (hl.trans hm.symm) w (List.range 16) (fun i hi => by rw [hl]; exact List.mem_range.1 hi)] at e
  rw [el u, el v]
  refine e.trans ?_
  congr 1
  have hiff : (u = v) ↔ ∀ i, i < 16 → (toZ u).getD i 0 = (toZ v).getD i 0 := by
    constructor
    · intro h _ _; rw [h]
    · intro h
      refine toZ_inj (List.ext_getElem (hl.trans hm.symm) fun i h3 h4 => ?_)
      have := h i (by omega)
      simpa [List.getD_eq_getElem?_getD, h3, h4] using this
  by_cases hlm : u = v
  · rw [decide_eq_true hlm, List.all_eq_true]
    intro i hi
    exact decide_eq_true (hiff.1 hlm i (List.mem_range.1 hi))
  · rw [decide_eq_false hlm, List.all_eq_false]
    have : ¬ ∀ i, i < 16 → (toZ u).getD i 0 = (toZ v).getD i 0 := fun h => hlm (hiff.2 h)
    simp only [Classical.not_forall] at this
    obtain ⟨i, hi, hne⟩ := this
    exact ⟨i, List.mem_range.2 hi, by simpa using hne⟩
theorem guard_dig (op : BinOp) (x y : Operand) (p q : Array Value) (w : World) : (eqGuard op 23 x y (.agg p) (.agg q)).run Tryd.prog w = .ok () w := by
  have h1 : Program.eqGuardType Tryd.prog Tryd.prog.depth 23 = false := by kernel_rfl
  cases op <;> simp [eqGuard, h1]
section
variable {cx : Cx Dm} {n : Nat} {σ : St Dm} {o : Oper} {d t : Nat} {x y : Operand} {T' : TypeId}
theorem ok_cmpD {u v : List UInt8} {neg b : Bool} {op : BinOp} (hop : op = if neg then .neq else .eql) (hb : (decide (u = v) != neg) = b) (ho : o.op = .binOp op 23 x y T') (hd : o.dst = some d) (hn : d < n) (hx : opd σ x = .av (.one (DG u))) (hy : opd σ y = .av (.one (DG v))) : OpOk Tryd.prog cx n σ o (opk x ++ opk y) [(.s d, .av (.one (.v (.bool b))))] := by
  refine ok_read hd hn rfl fun σ' ρ a w h hk => ⟨.bool b, ?_, rfl⟩
  obtain ⟨l1, e1⟩ := dg_open (ρ := ρ) (h.opd ((opd_same fun q hq => hk q (by simp [hq])).trans hx))
  obtain ⟨l2, e2⟩ := dg_open (ρ := ρ) (h.opd ((opd_same fun q hq => hk q (by simp [hq])).trans hy))
  have e := eqDig u v l1 l2 w
  subst hop
  subst hb
  have g1 := guard_dig .eql x y (byC u).toArray (byC v).toArray w
  have g2 := guard_dig .neq x y (byC u).toArray (byC v).toArray w
  cases neg
  · simp [execOp, ho, e1, e2, g1, binOp, Op.equal, Op.maxDepth, e]
  · simp [execOp, ho, e1, e2, g2, binOp, Op.equal, Op.maxDepth, e]
end
/-- Small numbers, as a list of ints. -/
def dzV (l : List Nat) : List (SA Dm) := ziV .i64 (l.map fun x : Nat => (x : Int))
abbrev DZ (l : List Nat) : SA Dm := .d (Dm.gen (lstG none (dzV l)))
theorem dzV_length (l : List Nat) : (dzV l).length = l.length := by simp [dzV, ziV]
theorem dzV_ptrs (l : List Nat) : (dzV l).flatMap SA.ptrs = [] := ziV_ptrs _
theorem dzV_append (a b : List Nat) : dzV (a ++ b) = dzV a ++ dzV b := by simp [dzV, ziV]
theorem dzV_at {l : List Nat} {i : Nat} (h : i < l.length) : (dzV l)[i]? = some (.v (.int .i64 ((l.getD i 0 : Nat) : Int))) := by
  simp [dzV, ziV, List.getD_eq_getElem?_getD, List.getElem?_eq_getElem h]
theorem dzV_kinds (l : List Nat) : ∀ s ∈ dzV l, s.kind = some none := zi_kinds _
theorem dzV_set (l : List Nat) (i x : Nat) : (dzV l).set i (.v (.int .i64 (x : Int))) = dzV (l.set i x) := by
  simp [dzV, ziV, List.map_set]
theorem own_length (b : Nat) : (Sg.own b).length = 4 := rfl
/-- The digits of the first k bytes. -/
def preD (d : List Nat) (k : Nat) : List Nat := Sg.ownN (d.take k)
theorem preD_length {d : List Nat} (h : d.length = 16) {k : Nat} (hk : k ≤ 16) : (preD d k).length = 4 * k := by
  rw [preD, Sg.ownN_length, List.length_take]; omega
theorem preD_succ {d : List Nat} {k : Nat} (hk : k < d.length) : preD d (k + 1) = preD d k ++ Sg.own (d.getD k 0) := by
  have e : d.take (k + 1) = d.take k ++ [d.getD k 0] := by
    rw [List.getD_eq_getElem?_getD, List.getElem?_eq_getElem hk, Option.getD_some]
    exact (List.take_append_getElem hk).symm
  rw [preD, preD, e]
  simp only [Sg.ownN, List.flatMap_append, List.flatMap_cons, List.flatMap_nil, List.append_nil]
theorem byte_lt {d : List Nat} (hd : Bn d) {k : Nat} (hk : k < d.length) : d.getD k 0 < 256 := by
  rw [List.getD_eq_getElem?_getD, List.getElem?_eq_getElem hk, Option.getD_some]
  exact hd _ (List.getElem_mem _)
theorem preD_le {d : List Nat} (h : d.length = 16) {k : Nat} (hk : k ≤ 16) : Sg.sumN (preD d k) ≤ 192 := by
  have h1 := Sg.sumN_le (preD d k)
  rw [preD_length h hk] at h1
  omega
theorem own_take_succ (b : Nat) {j : Nat} (hj : j < 4) : (Sg.own b).take (j + 1) = (Sg.own b).take j ++ [(Sg.own b).getD j 0] := by
  rw [List.getD_eq_getElem?_getD, List.getElem?_eq_getElem (by rw [own_length]; exact hj), Option.getD_some]
  exact (List.take_append_getElem _).symm
theorem own_getD_le {b : Nat} (hb : b < 256) (j : Nat) : (Sg.own b).getD j 0 ≤ 3 := by
  rcases Nat.lt_or_ge j 4 with h | h
  · rw [List.getD_eq_getElem?_getD, List.getElem?_eq_getElem (by rw [own_length]; exact h), Option.getD_some]
    exact Sg.own_le hb _ (List.getElem_mem _)
  · rw [List.getD_eq_getElem?_getD, List.getElem?_eq_none (by rw [own_length]; exact h)]; decide
theorem sumN_one (x : Nat) : Sg.sumN [x] = 3 - x := by simp [Sg.sumN]
theorem sumN_take_le (b : Nat) (j : Nat) : Sg.sumN ((Sg.own b).take j) ≤ 12 := by
  have h1 := Sg.sumN_le ((Sg.own b).take j)
  rw [List.length_take, own_length] at h1
  omega
abbrev DZg (a b : List Nat) : Dm := Dm.gen (lstG none (dzV a ++ dzV b))
set_option maxRecDepth 100000 in
theorem rDigits_con (d : List Nat) (hd : Bn d) (ld : d.length = 16) : Con Tryd.prog 11 [DG (by8 d)] (.one (DZ (Sg.digitsN d))) := by
  refine Con.of (n := 59) Tryd.func11 rfl rfl rfl rfl rfl fun cx hfr => ?_
  refine CV.seq ?_
  refine CV.region rfl (fun h => nomatch h) ?_
  refine RV.step1 (OpOk.plain (ok_boxD rfl rfl (by decide) rfl rfl rfl) rfl) ?_
  refine RV.step1 (OpOk.plain (ok_move (.inr rfl) rfl (by decide) rfl) rfl) ?_
  refine RV.done ?_
  refine CV.seq ?_
  refine CV.region rfl (fun h => nomatch h) ?_
  refine RV.step1 (OpOk.plain (ok_move (.inr rfl) rfl (by decide) rfl) rfl) ?_
  refine RV.done ?_
  refine CV.seq ?_
  refine CV.nilrow 3 100 3 none rfl rfl rfl rfl ?_
  refine CV.kp [100] rfl rfl ?_
  refine CV.region rfl (fun h => nomatch h) ?_
  refine RV.step1 (OpOk.plain (ok_move (.inr rfl) rfl (by decide) rfl) rfl) ?_
  refine RV.done ?_
  refine CV.seq ?_
  refine CV.seq ?_
  refine CV.region rfl (fun h => nomatch h) ?_
  refine RV.step1 (OpOk.plain (ok_move (.inr rfl) rfl (by decide) rfl) rfl) ?_
  refine RV.done ?_
  refine CV.block ?_
  refine CV.loop (X := {k : Nat // k ≤ 16}) (fun k => [(.s 5, .av (.one (.v (.int .i64 (k.1 : Int))))), (.s 4, .av (.one (.v (.int .i64 ((Sg.sumN (preD d k.1) : Nat) : Int))))), (.s 3, .av (.one (.sl 100 (dzV (preD d k.1)).length))), (.b 100, .row 3 none (dzV (preD d k.1))), (KP, .np [100]), (.s 1, .av (.one (.d (Dm.gen (pG (some 16) (DG (by8 d)))))))]) (fun k => 16 - k.1) ⟨0, Nat.zero_le _⟩ (Sub.mk ⟨XV.le_rfl _, XV.le_rfl _, XV.le_rfl _, XV.le_row rfl, trivial, XV.le_rfl _, trivial⟩ rfl rfl rfl rfl) (fun k => ?_)
  obtain ⟨k, hk⟩ := k
  simp only
  refine CV.seq ?_
  refine CV.seq ?_
  refine CV.region rfl (fun h => nomatch h) ?_
  refine RV.step1 (OpOk.plain (ok_move (.inl rfl) rfl (by decide) rfl) rfl) ?_
  refine RV.step1 (OpOk.plain (ok_lss rfl rfl (by decide) rfl rfl) rfl) ?_
  refine RV.done ?_
  refine CV.cond rfl (fun hc => ?_) (fun hc => ?_)
  · have hlt : k < 16 := (by have := of_decide_eq_true hc; omega)
    have hb256 := byte_lt hd (k := k) (by omega)
    have hsk := preD_le ld (k := k) (by omega)
    have hlk := preD_length ld (k := k) (by omega)
    refine CV.skip ?_
    refine CV.seq ?_
    refine CV.block ?_
    refine CV.seq ?_
    refine CV.region rfl (fun h => nomatch h) ?_
    refine RV.step1 (OpOk.plain (ok_move (.inl rfl) rfl (by decide) rfl) rfl) ?_
    refine RV.step1 (OpOk.plain (ok_idxDP (i := k) hd hlt u_dig sz_u8 rfl rfl (by decide) rfl rfl) rfl) ?_
    refine RV.step1 (OpOk.plain (ok_loadP ty_u8 (by decide) rfl rfl (by decide) rfl) rfl) ?_
    refine RV.step1 (OpOk.plain (ok_cvi (z' := ((d.getD k 0 : Nat) : Int)) (wrapI (by omega) (by omega)) u_u8 u_i64 rfl rfl (by decide) rfl) rfl) ?_
    refine RV.step1 (OpOk.plain (ok_move (.inr rfl) rfl (by decide) rfl) rfl) ?_
    refine RV.done ?_
    refine CV.seq ?_
    refine CV.region rfl (fun h => nomatch h) ?_
    refine RV.step1 (OpOk.plain (ok_move (.inl rfl) rfl (by decide) rfl) rfl) ?_
    refine RV.step1 (OpOk.plain (ok_quoN (m := d.getD k 0) (q := 64) (by decide) (by omega) rfl rfl (by decide) rfl rfl) rfl) ?_
    refine RV.step1 (OpOk.plain (ok_move (.inl rfl) rfl (by decide) rfl) rfl) ?_
    refine RV.step1 (OpOk.plain (ok_quoN (m := d.getD k 0) (q := 16) (by decide) (by omega) rfl rfl (by decide) rfl rfl) rfl) ?_
    refine RV.step1 (OpOk.plain (ok_remN (m := d.getD k 0 / 16) (q := 4) (by decide) rfl rfl (by decide) rfl rfl) rfl) ?_
    refine RV.step1 (OpOk.plain (ok_move (.inl rfl) rfl (by decide) rfl) rfl) ?_
    refine RV.step1 (OpOk.plain (ok_quoN (m := d.getD k 0) (q := 4) (by decide) (by omega) rfl rfl (by decide) rfl rfl) rfl) ?_
    refine RV.step1 (OpOk.plain (ok_remN (m := d.getD k 0 / 4) (q := 4) (by decide) rfl rfl (by decide) rfl rfl) rfl) ?_
    refine RV.step1 (OpOk.plain (ok_move (.inl rfl) rfl (by decide) rfl) rfl) ?_
    refine RV.step1 (OpOk.plain (ok_remN (m := d.getD k 0) (q := 4) (by decide) rfl rfl (by decide) rfl rfl) rfl) ?_
    refine RV.step1 (OpOk.plain (ok_litD (k := none) (xs := [.tmp 18, .tmp 21, .tmp 24, .tmp 26]) (ss := dzV (Sg.own (d.getD k 0))) (G := Dm.gen (lstG none (dzV (Sg.own (d.getD k 0))))) (lstG_Lst _ _) u_ints zs_i64 rfl rfl rfl (dzV_kinds _) (dzV_ptrs _) rfl rfl (by decide) (.cons rfl Conv.any (.cons rfl Conv.any (.cons rfl Conv.any (.cons rfl Conv.any .nil))))) rfl) ?_
    refine RV.step1 (OpOk.plain (ok_move (.inr rfl) rfl (by decide) rfl) rfl) ?_
    refine RV.done ?_
    refine CV.seq ?_
    refine CV.region rfl (fun h => nomatch h) ?_
    refine RV.step1 (OpOk.plain (ok_move (.inr rfl) rfl (by decide) rfl) rfl) ?_
    refine RV.done ?_
    refine CV.block ?_
    refine CV.loop (X := {j : Nat // j ≤ 4}) (fun j => [(.s 8, .av (.one (.v (.int .i64 (j.1 : Int))))), (.s 5, .av (.one (.v (.int .i64 (k : Int))))), (.s 7, .av (.one (DZ (Sg.own (d.getD k 0))))), (.s 4, .av (.one (.v (.int .i64 ((Sg.sumN (preD d k ++ (Sg.own (d.getD k 0)).take j.1) : Nat) : Int))))), (.s 3, .av (.one (.sl 100 (dzV (preD d k ++ (Sg.own (d.getD k 0)).take j.1)).length))), (.b 100, .row 3 none (dzV (preD d k ++ (Sg.own (d.getD k 0)).take j.1))), (KP, .np [100]), (.s 1, .av (.one (.d (Dm.gen (pG (some 16) (DG (by8 d)))))))]) (fun j => 4 - j.1) ⟨0, Nat.zero_le _⟩ (Sub.mk ⟨XV.le_rfl _, XV.le_rfl _, XV.le_rfl _, XV.le_of (by rw [List.take_zero, List.append_nil]; rfl), XV.le_sl rfl (by rw [List.take_zero, List.append_nil]), XV.le_row (by rw [List.take_zero, List.append_nil]), trivial, XV.le_rfl _, trivial⟩ rfl rfl rfl rfl) (fun j => ?_)
    obtain ⟨j, hj⟩ := j
    simp only
    refine CV.seq ?_
    refine CV.seq ?_
    refine CV.region rfl (fun h => nomatch h) ?_
    refine RV.step1 (OpOk.plain (ok_move (.inl rfl) rfl (by decide) rfl) rfl) ?_
    refine RV.step1 (OpOk.plain (ok_lss rfl rfl (by decide) rfl rfl) rfl) ?_
    refine RV.done ?_
    refine CV.cond rfl (fun hc2 => ?_) (fun hc2 => ?_)
    · have hjl : j < 4 := (by have := of_decide_eq_true hc2; omega)
      have hxl := own_getD_le hb256 j
      have hst := sumN_take_le (d.getD k 0) j
      have hsa := Sg.sumN_append (preD d k) ((Sg.own (d.getD k 0)).take j)
      refine CV.skip ?_
      refine CV.seq ?_
      refine CV.block ?_
      refine CV.seq ?_
      refine CV.region rfl (fun h => nomatch h) ?_
      refine RV.step1 (OpOk.plain (ok_move (.inl rfl) rfl (by decide) rfl) rfl) ?_
      refine RV.step1 (OpOk.plain (ok_move (.inl rfl) rfl (by decide) rfl) rfl) ?_
      refine RV.step1 (OpOk.plain (ok_move (.inl rfl) rfl (by decide) rfl) rfl) ?_
      refine RV.step1 (OpOk.plain (ok_idxL (i := j) (k := none) (dzV_at (by rw [own_length]; exact hjl)) u_ints sz_i64 (by decide) rfl rfl (by decide) rfl rfl) rfl) ?_
      refine RV.step1 (OpOk.plain (ok_loadP ty_i64 (by decide) rfl rfl (by decide) rfl) rfl) ?_
      refine RV.step1 (OpOk.plain (ok_litD (k := none) (xs := [.tmp 36]) (ss := dzV [(Sg.own (d.getD k 0)).getD j 0]) (G := Dm.gen (lstG none (dzV [(Sg.own (d.getD k 0)).getD j 0]))) (lstG_Lst _ _) u_ints zs_i64 rfl rfl rfl (dzV_kinds _) (dzV_ptrs _) rfl rfl (by decide) (.cons rfl Conv.any .nil)) rfl) ?_
      refine RV.step4 (OpOk.plain (ok_appendN (r := 100) (r' := 101) (k := none) (lst_elems (by decide) (dzV_ptrs _)) (by rw [dzV_length, dzV_length, List.length_append, List.length_take, hlk]; simp; omega) (by rw [dzV_length, dzV_length, List.length_append, List.length_take, hlk]; simp; omega) u_ints inf_i64 rfl rfl rfl rfl rfl (by decide) rfl rfl rfl rfl rfl rfl rfl) rfl) ?_
      refine RV.step1 (OpOk.plain (ok_move (.inr rfl) rfl (by decide) rfl) rfl) ?_
      refine RV.done ?_
      refine CV.region rfl (fun h => nomatch h) ?_
      refine RV.step1 (OpOk.plain (ok_move (.inl rfl) rfl (by decide) rfl) rfl) ?_
      refine RV.step1 (OpOk.plain (ok_add (c := ((Sg.sumN (preD d k ++ (Sg.own (d.getD k 0)).take j) + 3 : Nat) : Int)) (by rw [hsa, wrapI (by omega) (by omega)]; omega) rfl rfl (by decide) rfl rfl) rfl) ?_
      refine RV.step1 (OpOk.plain (ok_move (.inl rfl) rfl (by decide) rfl) rfl) ?_
      refine RV.step1 (OpOk.plain (ok_move (.inl rfl) rfl (by decide) rfl) rfl) ?_
      refine RV.step1 (OpOk.plain (ok_idxL (i := j) (k := none) (dzV_at (by rw [own_length]; exact hjl)) u_ints sz_i64 (by decide) rfl rfl (by decide) rfl rfl) rfl) ?_
      refine RV.step1 (OpOk.plain (ok_loadP ty_i64 (by decide) rfl rfl (by decide) rfl) rfl) ?_
      refine RV.step1 (OpOk.plain (ok_sub (c := ((Sg.sumN (preD d k ++ (Sg.own (d.getD k 0)).take (j + 1)) : Nat) : Int)) (by rw [own_take_succ _ hjl, ← List.append_assoc, Sg.sumN_append (_ ++ _), sumN_one, hsa, wrapI (by omega) (by omega)]; omega) rfl rfl (by decide) rfl rfl) rfl) ?_
      refine RV.step1 (OpOk.plain (ok_move (.inr rfl) rfl (by decide) rfl) rfl) ?_
      refine RV.done ?_
      refine CV.region rfl (fun h => nomatch h) ?_
      refine RV.step1 (OpOk.plain (ok_move (.inl rfl) rfl (by decide) rfl) rfl) ?_
      refine RV.step1 (OpOk.plain (ok_add (c := ((j + 1 : Nat) : Int)) (by rw [wrapI (by omega) (by omega)]; omega) rfl rfl (by decide) rfl rfl) rfl) ?_
      refine RV.step1 (OpOk.plain (ok_move (.inr rfl) rfl (by decide) rfl) rfl) ?_
      refine RV.done ?_
      exact ⟨⟨j + 1, hjl⟩, Sub.mkr (fun i => if i = 100 then 101 else i) ⟨XV.le_same, XV.le_same, fun _ _ _ _ h => h, XV.le_same, XV.le_sl rfl (by rw [own_take_succ _ hjl, ← List.append_assoc, dzV_append (_ ++ _), List.length_append]), XV.le_row (by rw [own_take_succ _ hjl, ← List.append_assoc, dzV_append (_ ++ _)]), trivial, fun _ _ _ _ h => h, trivial⟩ rfl rfl rfl rfl, by show 4 - (j + 1) < 4 - j; omega⟩
    · refine CV.exit ?_
      refine CV.region rfl (fun h => nomatch h) ?_
      refine RV.step1 (OpOk.plain (ok_move (.inl rfl) rfl (by decide) rfl) rfl) ?_
      refine RV.step1 (OpOk.plain (ok_add (c := ((k + 1 : Nat) : Int)) (by rw [wrapI (by omega) (by omega)]; omega) rfl rfl (by decide) rfl rfl) rfl) ?_
      refine RV.step1 (OpOk.plain (ok_move (.inr rfl) rfl (by decide) rfl) rfl) ?_
      refine RV.done ?_
      have hj4 : j = 4 := (by have := of_decide_eq_false hc2; omega)
      have e4 : preD d k ++ (Sg.own (d.getD k 0)).take j = preD d (k + 1) := (by rw [hj4, preD_succ (by omega)]; rfl)
      exact ⟨⟨k + 1, hlt⟩, Sub.mk ⟨XV.le_rfl _, XV.le_of (by rw [← e4]; rfl), XV.le_sl rfl (by rw [← e4]), XV.le_row (by rw [← e4]), trivial, XV.le_rfl _, trivial⟩ rfl rfl rfl rfl, by show 16 - (k + 1) < 16 - k; omega⟩
  · refine CV.exit ?_
    refine CV.seq ?_
    have hk16 : k = 16 := (by have := of_decide_eq_false hc; omega)
    subst hk16
    have e16 : preD d 16 = Sg.ownN d := (by rw [preD, ← ld, List.take_length])
    rw [e16]
    have hs192 : Sg.sumN (Sg.ownN d) ≤ 192 := (by rw [← e16]; exact preD_le ld (Nat.le_refl _))
    have hlo : (Sg.ownN d).length = 64 := (by rw [Sg.ownN_length, ld])
    refine CV.region rfl (fun h => nomatch h) ?_
    refine RV.step1 (OpOk.plain (ok_move (.inl rfl) rfl (by decide) rfl) rfl) ?_
    refine RV.step1 (OpOk.plain (ok_move (.inl rfl) rfl (by decide) rfl) rfl) ?_
    refine RV.step1 (OpOk.plain (ok_quoN (m := Sg.sumN (Sg.ownN d)) (q := 64) (by decide) (by omega) rfl rfl (by decide) rfl rfl) rfl) ?_
    refine RV.step1 (OpOk.plain (ok_move (.inl rfl) rfl (by decide) rfl) rfl) ?_
    refine RV.step1 (OpOk.plain (ok_quoN (m := Sg.sumN (Sg.ownN d)) (q := 16) (by decide) (by omega) rfl rfl (by decide) rfl rfl) rfl) ?_
    refine RV.step1 (OpOk.plain (ok_remN (m := Sg.sumN (Sg.ownN d) / 16) (q := 4) (by decide) rfl rfl (by decide) rfl rfl) rfl) ?_
    refine RV.step1 (OpOk.plain (ok_move (.inl rfl) rfl (by decide) rfl) rfl) ?_
    refine RV.step1 (OpOk.plain (ok_quoN (m := Sg.sumN (Sg.ownN d)) (q := 4) (by decide) (by omega) rfl rfl (by decide) rfl rfl) rfl) ?_
    refine RV.step1 (OpOk.plain (ok_remN (m := Sg.sumN (Sg.ownN d) / 4) (q := 4) (by decide) rfl rfl (by decide) rfl rfl) rfl) ?_
    refine RV.step1 (OpOk.plain (ok_move (.inl rfl) rfl (by decide) rfl) rfl) ?_
    refine RV.step1 (OpOk.plain (ok_remN (m := Sg.sumN (Sg.ownN d)) (q := 4) (by decide) rfl rfl (by decide) rfl rfl) rfl) ?_
    refine RV.step1 (OpOk.plain (ok_litD (k := none) (xs := [.tmp 48, .tmp 51, .tmp 54, .tmp 56]) (ss := dzV (Sg.checkN (Sg.sumN (Sg.ownN d)))) (G := Dm.gen (lstG none (dzV (Sg.checkN (Sg.sumN (Sg.ownN d)))))) (lstG_Lst _ _) u_ints zs_i64 rfl rfl rfl (dzV_kinds _) (dzV_ptrs _) rfl rfl (by decide) (.cons rfl Conv.any (.cons rfl Conv.any (.cons rfl Conv.any (.cons rfl Conv.any .nil))))) rfl) ?_
    refine RV.step4 (OpOk.plain (ok_appendND (r := 100) (r' := 101) (k := none) (G := DZg (Sg.ownN d) (Sg.checkN (Sg.sumN (Sg.ownN d)))) [] (cx.bw hfr) (lst_elems (by decide) (dzV_ptrs _)) (lstG_Lst none _) (lstG_Lst0 none _) (by rw [dzV_length, dzV_length, hlo]; exact (by decide : (64 + 4) * 8 ≤ 140737488355328)) (by rw [dzV_length, dzV_length, hlo]; exact (by decide : 64 + 4 ≤ 4611686018427387904)) u_ints inf_i64 rfl rfl rfl rfl rfl (by decide) rfl rfl rfl rfl rfl rfl rfl rfl) rfl) ?_
    refine RV.step1 (OpOk.plain (ok_move (.inr rfl) rfl (by decide) rfl) rfl) ?_
    refine RV.done ?_
    refine CV.ret ?_
    exact fin1 rfl (.inr rfl) rfl (is_of (by show SA.d (Dm.gen (lstG none _)) = _; rw [← dzV_append]; rfl))
theorem ownN_cons (b : Nat) (d : List Nat) : Sg.ownN (b :: d) = Sg.own b ++ Sg.ownN d := by simp [Sg.ownN]
theorem ownN_at : ∀ (d : List Nat) (i : Nat), i < 4 * d.length → (Sg.ownN d).getD i 0 = (Sg.own (d.getD (i / 4) 0)).getD (i % 4) 0
  | [], i, h => by simp at h
  | b :: d, i, h => by
    rw [ownN_cons]
    rcases Nat.lt_or_ge i 4 with h4 | h4
    · rw [Sg.getD_left (by rw [own_length]; exact h4), Nat.div_eq_of_lt h4, Nat.mod_eq_of_lt h4]
      rfl
    · rw [Sg.getD_right (by rw [own_length]; exact h4), own_length, ownN_at d (i - 4) (by simp at h; omega)]
      have e1 : i / 4 = (i - 4) / 4 + 1 := by omega
      have e2 : (i - 4) % 4 = i % 4 := by omega
      rw [e1, e2, List.getD_cons_succ]
theorem own_shift {b j : Nat} (hb : b < 256) (hj : j < 4) : b / 2 ^ (6 - 2 * j) % 4 = (Sg.own b).getD j 0 := by
  match j, hj with
  | 0, _ => show b / 64 % 4 = b / 64; omega
  | 1, _ => rfl
  | 2, _ => rfl
  | 3, _ => show b / 1 % 4 = b % 4; omega
theorem take_snoc {X : List Nat} {i : Nat} (h : i < X.length) : X.take (i + 1) = X.take i ++ [X.getD i 0] := by
  rw [List.getD_eq_getElem?_getD, List.getElem?_eq_getElem h, Option.getD_some]
  exact (List.take_append_getElem h).symm
/-- The first i of these, then zeros. -/
def fillD (X : List Nat) (m i : Nat) : List Nat := X.take i ++ List.replicate (m - i) 0
theorem fillD_length {X : List Nat} {m i : Nat} (h1 : i ≤ X.length) (h2 : i ≤ m) : (fillD X m i).length = m := by
  rw [fillD, List.length_append, List.length_take, List.length_replicate]; omega
theorem fillD_set {X : List Nat} {m i : Nat} (h1 : i < X.length) (h2 : i < m) : (fillD X m i).set i (X.getD i 0) = fillD X m (i + 1) := by
  have e : m - i = (m - (i + 1)) + 1 := by omega
  have el : (X.take i).length = i := by rw [List.length_take]; omega
  rw [fillD, fillD, e, List.replicate_succ, List.set_append_right _ _ (by omega), el, Nat.sub_self, List.set_cons_zero]
  have e2 : X.take (i + 1) = X.take i ++ [X.getD i 0] := by
    rw [List.getD_eq_getElem?_getD, List.getElem?_eq_getElem h1, Option.getD_some]
    exact (List.take_append_getElem h1).symm
  rw [e2, List.append_assoc]
  rfl
/-- The checksum's digits, made from the last one on. -/
def chkD (X : List Nat) (s m : Nat) : List Nat := X ++ (List.replicate m 0 ++ (Sg.checkN s).drop m)
theorem chkD_length (X : List Nat) (s : Nat) {m : Nat} (hm : m ≤ 4) : (chkD X s m).length = X.length + 4 := by
  simp [chkD, Sg.checkN]; omega
theorem chkD_set (X : List Nat) (s : Nat) {q : Nat} (hq : q < 4) : (chkD X s (q + 1)).set (X.length + q) ((Sg.checkN s).getD q 0) = chkD X s q := by
  rw [chkD, chkD, List.set_append_right _ _ (by omega), Nat.add_sub_cancel_left]
  congr 1
  match q, hq with
  | 0, _ => rfl
  | 1, _ => rfl
  | 2, _ => rfl
  | 3, _ => rfl
theorem chkD_4 (X : List Nat) (s : Nat) : chkD X s 4 = X ++ List.replicate 4 0 := by simp [chkD, Sg.checkN]
theorem chkD_0 (X : List Nat) (s : Nat) : chkD X s 0 = X ++ Sg.checkN s := by simp [chkD]
/-- What is left of the sum when m digits are wanting. -/
def lefts (s m : Nat) : Nat := s / 4 ^ (4 - m)
theorem lefts_le (s m : Nat) : lefts s m ≤ s := Nat.div_le_self _ _
theorem lefts_digit {s q : Nat} (hs : s ≤ 192) (hq : q < 4) : lefts s (q + 1) % 4 = (Sg.checkN s).getD q 0 := by
  match q, hq with
  | 0, _ => show s / 64 % 4 = s / 64; omega
  | 1, _ => rfl
  | 2, _ => rfl
  | 3, _ => show s / 1 % 4 = s % 4; omega
theorem lefts_next {s q : Nat} (hq : q < 4) : lefts s (q + 1) / 4 = lefts s q := by
  rw [lefts, lefts, Nat.div_div_eq_div_mul, ← Nat.pow_succ, show (4 - (q + 1)).succ = 4 - q by omega]
def pz : Nat → Int
  | 0 => -1
  | q + 1 => (q : Int)
theorem pz_le {m : Nat} : pz m = (m : Int) - 1 := by cases m <;> simp [pz]
theorem zero68 : (Tryd.prog.info? 43).map (·.zero) = some (some (.agg (List.replicate 68 (Value.int .i64 0)).toArray)) := by kernel_rfl
theorem u_a68 : Tryd.prog.underlying 43 = some (.array 68 3) := by kernel_rfl
theorem dz_zero (m : Nat) : ((List.replicate m (Value.int .i64 0)).map fun v => (SA.v v : SA Dm)) = dzV (List.replicate m 0) := by simp [dzV, ziV]
set_option maxRecDepth 100000 in
theorem Digits_conF (d : List Nat) (hd : Bn d) (ld : d.length = 16) : ConF Tryd.prog 10 [DG (by8 d)] (.one (DZ (Sg.digitsN d))) := by
  have hlo : (Sg.ownN d).length = 64 := by rw [Sg.ownN_length, ld]
  have hs192 : Sg.sumN (Sg.ownN d) ≤ 192 := by have := Sg.sumN_le (Sg.ownN d); omega
  refine ConF.of (n := 54) Tryd.func10 rfl rfl rfl rfl rfl fun cx hB => ?_
  refine CV.seq ?_
  refine CV.region rfl (fun h => nomatch h) ?_
  refine RV.step1 (OpOk.plain (ok_boxD rfl rfl (by decide) rfl rfl rfl) rfl) ?_
  refine RV.step1 (OpOk.plain (ok_move (.inr rfl) rfl (by decide) rfl) rfl) ?_
  refine RV.done ?_
  refine CV.seq ?_
  refine CV.region rfl (fun h => nomatch h) ?_
  refine RV.step3 (OpOk.plain (ok_allocRN (r := 100) (List.replicate 68 (.int .i64 0)) zero68 (by decide) (by decide) rfl rfl (by decide) rfl rfl rfl) rfl) ?_
  refine RV.done ?_
  refine CV.seq ?_
  refine CV.region rfl (fun h => nomatch h) ?_
  refine RV.step1 (OpOk.plain (ok_cutAR none (some 64) u_a68 sz_i64 (by decide) (by decide) (by decide) rfl rfl (by decide) rfl rfl trivial rfl) rfl) ?_
  refine RV.step1 (OpOk.plain (ok_move (.inr rfl) rfl (by decide) rfl) rfl) ?_
  refine RV.done ?_
  refine CV.seq ?_
  refine CV.region rfl (fun h => nomatch h) ?_
  refine RV.step1 (OpOk.plain (ok_move (.inl rfl) rfl (by decide) rfl) rfl) ?_
  refine RV.step1 (OpOk.plain (ok_lenSub u_ints rfl rfl (by decide) rfl) rfl) ?_
  refine RV.step1 (OpOk.plain (ok_cutAR (some 64) none u_a68 sz_i64 (by decide) (by decide) (by decide) rfl rfl (by decide) rfl rfl rfl trivial) rfl) ?_
  refine RV.step1 (OpOk.plain (ok_move (.inr rfl) rfl (by decide) rfl) rfl) ?_
  refine RV.done ?_
  refine CV.seq ?_
  refine CV.region rfl (fun h => nomatch h) ?_
  refine RV.step1 (OpOk.plain (ok_move (.inr rfl) rfl (by decide) rfl) rfl) ?_
  refine RV.done ?_
  refine CV.seq ?_
  refine CV.seq ?_
  refine CV.region rfl (fun h => nomatch h) ?_
  refine RV.step1 (OpOk.plain (ok_move (.inl rfl) rfl (by decide) rfl) rfl) ?_
  refine RV.step1 (OpOk.plain (ok_lenSub u_ints rfl rfl (by decide) rfl) rfl) ?_
  refine RV.step1 (OpOk.plain (ok_move (.inl rfl) rfl (by decide) rfl) rfl) ?_
  refine RV.done ?_
  refine CV.block ?_
  refine CV.loop (X := {k : Nat // k ≤ 64}) (fun k => [(.s 16, .av (.one (.v (.int .i64 (k.1 : Int))))), (.s 15, .av (.one (.v (.int .i64 ((64 : Nat) : Int))))), (.s 6, .av (.one (.v (.int .i64 ((Sg.sumN ((Sg.ownN d).take k.1) : Nat) : Int))))), (.s 4, .av (.one (.lk (subS 100 0 64 68)))), (.s 5, .av (.one (.lk (subS 100 64 4 4)))), (.s 3, .av (.one (.ptr 100 0))), (.b 100, .row 43 none (dzV (fillD (Sg.ownN d) 68 k.1))), (KP, .np [100]), (.s 1, .av (.one (.d (Dm.gen (pG (some 16) (DG (by8 d)))))))]) (fun k => 64 - k.1) ⟨0, Nat.zero_le _⟩ (Sub.mk ⟨XV.le_rfl _, XV.le_rfl _, XV.le_rfl _, XV.le_rfl _, XV.le_rfl _, XV.le_rfl _, XV.le_row (dz_zero 68), trivial, XV.le_rfl _, trivial⟩ rfl rfl rfl rfl) (fun k => ?_)
  obtain ⟨k, hk⟩ := k
  simp only
  refine CV.seq ?_
  refine CV.region rfl (fun h => nomatch h) ?_
  refine RV.step1 (OpOk.plain (ok_lss rfl rfl (by decide) rfl rfl) rfl) ?_
  refine RV.done ?_
  refine CV.seq ?_
  refine CV.cond rfl (fun hc => ?_) (fun hc => ?_)
  · have hlt : k < 64 := (by have := of_decide_eq_true hc; omega)
    have hb256 := byte_lt hd (k := k / 4) (by omega)
    have hat := ownN_at d k (by omega)
    have hx3 : (Sg.ownN d).getD k 0 ≤ 3 := (by rw [hat]; exact own_getD_le hb256 _)
    have hsk : Sg.sumN ((Sg.ownN d).take k) ≤ 192 := (by have := Sg.sumN_le ((Sg.ownN d).take k); rw [List.length_take] at this; omega)
    refine CV.skip ?_
    refine CV.seq ?_
    refine CV.block ?_
    refine CV.seq ?_
    refine CV.region rfl (fun h => nomatch h) ?_
    refine RV.step1 (OpOk.plain (ok_move (.inl rfl) rfl (by decide) rfl) rfl) ?_
    refine RV.step1 (OpOk.plain (ok_move (.inr rfl) rfl (by decide) rfl) rfl) ?_
    refine RV.done ?_
    refine CV.seq ?_
    refine CV.region rfl (fun h => nomatch h) ?_
    refine RV.step1 (OpOk.plain (ok_move (.inl rfl) rfl (by decide) rfl) rfl) ?_
    refine RV.step1 (OpOk.plain (ok_quoN (m := k) (q := 4) (by decide) (by omega) rfl rfl (by decide) rfl rfl) rfl) ?_
    refine RV.step1 (OpOk.plain (ok_idxDP (i := k / 4) hd (by omega) u_dig sz_u8 rfl rfl (by decide) rfl rfl) rfl) ?_
    refine RV.step1 (OpOk.plain (ok_loadP ty_u8 (by decide) rfl rfl (by decide) rfl) rfl) ?_
    refine RV.step1 (OpOk.plain (ok_cvi (z' := ((d.getD (k / 4) 0 : Nat) : Int)) (wrapI (by omega) (by omega)) u_u8 u_i64 rfl rfl (by decide) rfl) rfl) ?_
    refine RV.step1 (OpOk.plain (ok_move (.inl rfl) rfl (by decide) rfl) rfl) ?_
    refine RV.step1 (OpOk.plain (ok_remN (m := k) (q := 4) (by decide) rfl rfl (by decide) rfl rfl) rfl) ?_
    refine RV.step1 (OpOk.plain (ok_mul (c := ((2 * (k % 4) : Nat) : Int)) (by rw [wrapI (by omega) (by omega)]; omega) rfl rfl (by decide) rfl rfl) rfl) ?_
    refine RV.step1 (OpOk.plain (ok_sub (c := ((6 - 2 * (k % 4) : Nat) : Int)) (by rw [wrapI (by omega) (by omega)]; omega) rfl rfl (by decide) rfl rfl) rfl) ?_
    refine RV.step1 (OpOk.plain (ok_shr (j := 6 - 2 * (k % 4)) (c := ((d.getD (k / 4) 0 / 2 ^ (6 - 2 * (k % 4)) : Nat) : Int)) (by omega) (by rw [Int.natCast_ediv, Int.natCast_pow]; rfl) rfl rfl (by decide) rfl rfl) rfl) ?_
    refine RV.step1 (OpOk.plain (ok_remN (m := d.getD (k / 4) 0 / 2 ^ (6 - 2 * (k % 4))) (q := 4) (by decide) rfl rfl (by decide) rfl rfl) rfl) ?_
    refine RV.step1 (OpOk.plain (ok_move (.inr rfl) rfl (by decide) rfl) rfl) ?_
    refine RV.done ?_
    refine CV.seq ?_
    rw [own_shift hb256 (Nat.mod_lt _ (by decide)), ← hat]
    refine CV.region rfl (fun h => nomatch h) ?_
    refine RV.step1 (OpOk.plain (ok_move (.inl rfl) rfl (by decide) rfl) rfl) ?_
    refine RV.step1 (OpOk.plain (ok_move (.inl rfl) rfl (by decide) rfl) rfl) ?_
    refine RV.step1 (OpOk.plain (ok_move (.inl rfl) rfl (by decide) rfl) rfl) ?_
    refine RV.step1 (OpOk.plain (ok_idxSub (i := k) hlt u_ints sz_i64 rfl rfl (by decide) rfl rfl rfl) rfl) ?_
    refine RV.step1 (OpOk.plain (ok_storeR (i := k) (by rw [dzV_length, fillD_length (by omega) (by omega)]; omega) (by show 0 + k * 1 = k * 1; rw [Nat.zero_add]) (by decide) rfl rfl rfl rfl rfl rfl sz_i64 (.inr rfl) rfl rfl) rfl) ?_
    refine RV.done ?_
    refine CV.region rfl (fun h => nomatch h) ?_
    refine RV.step1 (OpOk.plain (ok_move (.inl rfl) rfl (by decide) rfl) rfl) ?_
    refine RV.step1 (OpOk.plain (ok_move (.inl rfl) rfl (by decide) rfl) rfl) ?_
    refine RV.step1 (OpOk.plain (ok_sub (c := ((3 - (Sg.ownN d).getD k 0 : Nat) : Int)) (by rw [wrapI (by omega) (by omega)]; omega) rfl rfl (by decide) rfl rfl) rfl) ?_
    refine RV.step1 (OpOk.plain (ok_add (c := ((Sg.sumN ((Sg.ownN d).take (k + 1)) : Nat) : Int)) (by rw [take_snoc (by omega), Sg.sumN_append, sumN_one, wrapI (by omega) (by omega)]; omega) rfl rfl (by decide) rfl rfl) rfl) ?_
    refine RV.step1 (OpOk.plain (ok_move (.inr rfl) rfl (by decide) rfl) rfl) ?_
    refine RV.done ?_
    refine CV.region rfl (fun h => nomatch h) ?_
    refine RV.step1 (OpOk.plain (ok_add (c := ((k + 1 : Nat) : Int)) (by rw [wrapI (by omega) (by omega)]; omega) rfl rfl (by decide) rfl rfl) rfl) ?_
    refine RV.step1 (OpOk.plain (ok_move (.inl rfl) rfl (by decide) rfl) rfl) ?_
    refine RV.done ?_
    exact ⟨⟨k + 1, hlt⟩, Sub.mk ⟨XV.le_rfl _, XV.le_rfl _, XV.le_rfl _, XV.le_rfl _, XV.le_rfl _, XV.le_rfl _, XV.le_row (by rw [← fillD_set (by omega) (by omega), ← dzV_set]), trivial, XV.le_rfl _, trivial⟩ rfl rfl rfl rfl, by show 64 - (k + 1) < 64 - k; omega⟩
  · refine CV.exit ?_
    refine CV.seq ?_
    refine CV.seq ?_
    have hk64 : k = 64 := (by have := of_decide_eq_false hc; omega)
    subst hk64
    have e64 : fillD (Sg.ownN d) 68 64 = chkD (Sg.ownN d) (Sg.sumN (Sg.ownN d)) 4 := (by rw [chkD_4, fillD, ← hlo, List.take_length, hlo])
    have t64 : (Sg.ownN d).take 64 = Sg.ownN d := (by rw [← hlo, List.take_length])
    rw [e64, t64]
    refine CV.region rfl (fun h => nomatch h) ?_
    refine RV.step1 (OpOk.plain (ok_move (.inl rfl) rfl (by decide) rfl) rfl) ?_
    refine RV.step1 (OpOk.plain (ok_lenSub u_ints rfl rfl (by decide) rfl) rfl) ?_
    refine RV.step1 (OpOk.plain (ok_sub (c := pz 4) rfl rfl rfl (by decide) rfl rfl) rfl) ?_
    refine RV.step1 (OpOk.plain (ok_move (.inr rfl) rfl (by decide) rfl) rfl) ?_
    refine RV.done ?_
    refine CV.block ?_
    refine CV.loop (X := {m : Nat // m ≤ 4}) (fun m => [(.s 9, .av (.one (.v (.int .i64 (pz m.1))))), (.s 6, .av (.one (.v (.int .i64 ((lefts (Sg.sumN (Sg.ownN d)) m.1 : Nat) : Int))))), (.s 5, .av (.one (.lk (subS 100 64 4 4)))), (.s 3, .av (.one (.ptr 100 0))), (.b 100, .row 43 none (dzV (chkD (Sg.ownN d) (Sg.sumN (Sg.ownN d)) m.1))), (KP, .np [100])]) (fun m => m.1) ⟨4, Nat.le_refl _⟩ (Sub.mk ⟨XV.le_rfl _, XV.le_of (by show XV.av (.one (.v (.int .i64 ((Sg.sumN (Sg.ownN d) : Nat) : Int)))) = _; rw [lefts, Nat.sub_self, Nat.pow_zero, Nat.div_one]), XV.le_rfl _, XV.le_rfl _, XV.le_row rfl, trivial, trivial⟩ rfl rfl rfl rfl) (fun m => ?_)
    obtain ⟨m, hm⟩ := m
    simp only
    refine CV.seq ?_
    refine CV.seq ?_
    refine CV.region rfl (fun h => nomatch h) ?_
    refine RV.step1 (OpOk.plain (ok_move (.inl rfl) rfl (by decide) rfl) rfl) ?_
    refine RV.step1 (OpOk.plain (ok_geq rfl rfl (by decide) rfl rfl) rfl) ?_
    refine RV.done ?_
    refine CV.cond rfl (fun hc2 => ?_) (fun hc2 => ?_)
    · obtain ⟨q, rfl⟩ : ∃ q, m = q + 1 := (by have := of_decide_eq_true hc2; rw [pz_le] at this; exact ⟨m - 1, by omega⟩)
      have hl1 := lefts_le (Sg.sumN (Sg.ownN d)) (q + 1)
      refine CV.skip ?_
      refine CV.seq ?_
      refine CV.block ?_
      refine CV.seq ?_
      refine CV.region rfl (fun h => nomatch h) ?_
      refine RV.step1 (OpOk.plain (ok_move (.inl rfl) rfl (by decide) rfl) rfl) ?_
      refine RV.step1 (OpOk.plain (ok_move (.inl rfl) rfl (by decide) rfl) rfl) ?_
      refine RV.step1 (OpOk.plain (ok_move (.inl rfl) rfl (by decide) rfl) rfl) ?_
      refine RV.step1 (OpOk.plain (ok_remN (m := lefts (Sg.sumN (Sg.ownN d)) (q + 1)) (q := 4) (by decide) rfl rfl (by decide) rfl rfl) rfl) ?_
      refine RV.step1 (OpOk.plain (ok_idxSub (i := q) (by omega) u_ints sz_i64 rfl rfl (by decide) rfl rfl rfl) rfl) ?_
      refine RV.step1 (OpOk.plain (ok_storeR (i := 64 + q) (by rw [dzV_length, chkD_length _ _ hm, hlo]; omega) (by show 64 + q * 1 = (64 + q) * 1; omega) (by decide) rfl rfl rfl rfl rfl rfl sz_i64 (.inr rfl) rfl rfl) rfl) ?_
      refine RV.done ?_
      refine CV.region rfl (fun h => nomatch h) ?_
      refine RV.step1 (OpOk.plain (ok_move (.inl rfl) rfl (by decide) rfl) rfl) ?_
      refine RV.step1 (OpOk.plain (ok_quoN (m := lefts (Sg.sumN (Sg.ownN d)) (q + 1)) (q := 4) (by decide) (by omega) rfl rfl (by decide) rfl rfl) rfl) ?_
      refine RV.step1 (OpOk.plain (ok_move (.inr rfl) rfl (by decide) rfl) rfl) ?_
      refine RV.done ?_
      refine CV.region rfl (fun h => nomatch h) ?_
      refine RV.step1 (OpOk.plain (ok_move (.inl rfl) rfl (by decide) rfl) rfl) ?_
      refine RV.step1 (OpOk.plain (ok_sub (c := pz q) (by have hpz := pz_le (m := q); show IntKind.i64.wrap ((q : Int) - 1) = _; rw [wrapI (by omega) (by omega)]; omega) rfl rfl (by decide) rfl rfl) rfl) ?_
      refine RV.step1 (OpOk.plain (ok_move (.inr rfl) rfl (by decide) rfl) rfl) ?_
      refine RV.done ?_
      exact ⟨⟨q, by omega⟩, Sub.mk ⟨XV.le_rfl _, XV.le_of (by rw [← lefts_next (q := q) (by omega)]; rfl), XV.le_rfl _, XV.le_rfl _, XV.le_row (by rw [← chkD_set _ _ (q := q) (by omega), ← dzV_set, hlo, ← lefts_digit hs192 (q := q) (by omega)]), trivial, trivial⟩ rfl rfl rfl rfl, by show q < q + 1; omega⟩
    · refine CV.exit ?_
      refine CV.seq ?_
      have hm0 : m = 0 := (by have := of_decide_eq_false hc2; rw [pz_le] at this; omega)
      subst hm0
      rw [chkD_0]
      refine CV.region rfl (fun h => nomatch h) ?_
      refine RV.step2 (OpOk.plain (ok_cutAF (G := Dm.gen (lstG none (dzV (Sg.digitsN d)))) hB (by rw [dzV_length, Sg.digitsN_length ld]) (by decide) (by decide) (lstG_Lst none _) u_a68 sz_i64 rfl rfl (by decide) rfl rfl rfl) rfl) ?_
      refine RV.step1 (OpOk.plain (ok_move (.inr rfl) rfl (by decide) rfl) rfl) ?_
      refine RV.done ?_
      refine CV.ret ?_
      exact fin1 rfl (.inr rfl) rfl is_rfl
theorem Digits_con (d : List Nat) (hd : Bn d) (ld : d.length = 16) : Con Tryd.prog 10 [DG (by8 d)] (.one (DZ (Sg.digitsN d))) := (Digits_conF d hd ld).con
end Vc
end Go.Proofs.YthadfilandmhiaaDoor
