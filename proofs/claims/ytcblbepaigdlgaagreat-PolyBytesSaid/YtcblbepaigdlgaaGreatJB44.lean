/-
  numeral and Parse of package integer, fo
-/
import Derived.Test.YtcblbepaigdlgaaGreatJB43
import Derived.Test.YtcblbepaigdlgaaGreatJB15
import Derived.Test.YtcblbepaigdlgaaGreatJB42
import Derived.Test.YtcblbepaigdlgaaGreatJB13
import Derived.Test.YtcblbepaigdlgaaGreatJB12
import Derived.Test.YtcblbepaigdlgaaGreatJB31
set_option linter.unusedVariables false
set_option linter.unusedSimpArgs false
set_option linter.unusedSectionVars false
namespace Go.Proofs.YtcblbepaigdlgaaGreat
open Go.RowKit
open Go.Lib (hid)
open Dg Zn Tx
namespace Vc
theorem all_take {l : List UInt8} {k : Nat} (hk : ¬ ((k : Int) < (l.length : Int))) (h : (l.take k).all isD = true) : l.all isD = true := by rwa [List.take_of_length_le (by omega)] at h
theorem signed_con (b : Bool) (ds : List Nat) (k : Nat) (hds : Dig ds) (hk : len (mk b (val ds)) ≤ k) : Con Tryz.prog 127 [.v (.bool b), .d (Dm.dl ds)] (.one (.d (Dm.int (mk b (val ds)) k))) := by
 rintro L ρ w vs hlt hn hwf hall
 match vs, hall with
 | [u, v], ⟨h1, h2, _⟩ =>
  obtain rfl : u = _ := h1
  refine (signed_any b v ds w (h2 w (Agree.refl _ _)) hds).mono ?_
  rintro e w' ⟨r, rfl, h3, h4⟩
  exact ⟨r, rfl, h4, int_is (ρ := ρ) h3 hk hn hlt h4⟩
section
variable (l d : List UInt8) (ng : Bool)
end
theorem fin3 {cx : Cx Dm} {n : Nat} {l : Sg Dm} {fn : Func} {rv rv' rv3 : ResultVar} {s s' s3 : SA Dm} {r : AV Dm} {e : Exit} (hres : fn.results = #[rv, rv', rv3]) (he : e = .normal ∨ e = .ret) (hr : RvIs Tryz.prog (lookD .no l) s rv) (hr' : RvIs Tryz.prog (lookD .no l) s' rv') (hr3 : RvIs Tryz.prog (lookD .no l) s3 rv3) (hc : ∀ L ρ w v, (AV.tup [s, s', s3]).is L ρ w v → r.is L ρ w v) : Fin Tryz.prog cx n fn r e l := by
 refine ⟨he, fun ρ a w h => ?_⟩
 obtain ⟨v, h1, h2⟩ := hr.run h
 obtain ⟨v', h1', h2'⟩ := hr'.run h
 obtain ⟨v3, h13, h23⟩ := hr3.run h
 refine ⟨.tuple #[v, v', v3], ?_, hc _ _ _ _ ⟨[v, v', v3], rfl, h2, h2', h23, trivial⟩⟩
 have : (results fn a.tmps).run Tryz.prog w = ((rvRun a.tmps rv).run Tryz.prog w).andThen fun v w => ((rvRun a.tmps rv').run Tryz.prog w).andThen fun v' w => ((rvRun a.tmps rv3).run Tryz.prog w).andThen fun v3 w => .ok (.tuple #[v, v', v3]) w := by
  cases rv <;> cases rv' <;> cases rv3 <;> simp [results, hres, rvRun, andThen_assoc]
 rw [this, h1]
 show ((rvRun a.tmps rv').run Tryz.prog w).andThen _ = _
 rw [h1']
 show ((rvRun a.tmps rv3).run Tryz.prog w).andThen _ = _
 rw [h13]
 rfl
set_option maxRecDepth 100000
set_option linter.unusedSectionVars false
/-! Rows of numbers. -/
def ziV (k : IntKind) (zs : List Int) : List (SA Dm) := zs.map fun z => .v (.int k z)
abbrev ZI (k : IntKind) (zs : List Int) : SA Dm := .d (Dm.gen (lstG none (ziV k zs)))
theorem ziV_length {k : IntKind} (l : List Int) : (ziV k l).length = l.length := by simp [ziV]
theorem ziV_ptrs {k : IntKind} (l : List Int) : (ziV k l).flatMap SA.ptrs = [] := by
 rw [List.flatMap_eq_nil_iff]
 intro s hs
 obtain ⟨b, _, rfl⟩ := List.mem_map.1 hs
 rfl
theorem ziV_vals {k : IntKind} (l : List Int) : ∀ s ∈ ziV k l, isV s = true := by
 intro s hs
 obtain ⟨b, _, rfl⟩ := List.mem_map.1 hs
 rfl
theorem ziV_plain (l : List Int) : ∀ s ∈ ziV .u8 l, s.plain = true := by
 intro s hs
 obtain ⟨b, _, rfl⟩ := List.mem_map.1 hs
 rfl
theorem ziV_at {k : IntKind} {l : List Int} {i : Nat} (h : i < l.length) : (ziV k l)[i]? = some (.v (.int k (l.getD i 0))) := by
 simp [ziV, List.getElem?_eq_getElem h, List.getD_eq_getElem?_getD]
theorem ziV_append {k : IntKind} (l m : List Int) : ziV k l ++ ziV k m = ziV k (l ++ m) := by simp [ziV]
theorem ziV_take {k : IntKind} (l : List Int) (n : Nat) : (ziV k l).take n = ziV k (l.take n) := by simp [ziV, List.map_take]
theorem ziV_drop {k : IntKind} (l : List Int) (n : Nat) : (ziV k l).drop n = ziV k (l.drop n) := by simp [ziV, List.map_drop]
theorem ziV_ats {k : IntKind} {w : World} : ∀ {l : List Int}, Ats w none (ziV k l) (l.map (Value.int k))
 | [] => rfl
 | b :: l => ⟨[_], l.map (Value.int k), _, rfl, ⟨rfl, rfl⟩, rfl, ziV_ats⟩
theorem ziV_ats' {k : IntKind} {w : World} : ∀ {l : List Int} {cs : List Value}, Ats w none (ziV k l) cs → cs = l.map (Value.int k)
 | [], _, h => h
 | b :: l, _, ⟨p, r, v, h1, h2, h3, h4⟩ => by
  have e1 : p = [v] := h2.1
  have e2 : v = .int k b := h3
  rw [h1, e1, e2, ziV_ats' h4]
  rfl
theorem ziV_chs {k : IntKind} {L : Nat → Prop} {ρ : Rho} {w : World} {l : List Int} : Chs L ρ w (rch none (ziV k l)) (l.map (Value.int k)) := Ats.chs fun _ _ => ziV_ats
theorem zi_row {k : IntKind} {L : Nat → Prop} {ρ : Rho} {w : World} {v : Value} {zs : List Int} (h : (ZI k zs).is L ρ w v) : Row k w v zs := by
 obtain ⟨ao, cap, rfl, hc, h1⟩ := lst_open (by decide) h
 rw [ziV_length] at hc h1 ⊢
 refine ⟨ao, cap, rfl, hc.1, hc.2, fun hl => ?_⟩
 obtain ⟨b, off, e, _, cs, h2, h3⟩ := h1 hl
 obtain rfl := ziV_ats' (h2 w (Agree.refl _ _))
 exact ⟨b, off, e, fun i hi => h3 i _ (by rw [List.getElem?_map, List.getElem?_eq_getElem hi, List.getD_eq_getElem?_getD, List.getElem?_eq_getElem hi]; rfl)⟩
theorem row_at {k : IntKind} {w : World} {v : Value} {zs : List Int} (h : Row k w v zs) : (lstG none (ziV k zs)).is w v := by
 obtain ⟨ao, cap, rfl, h1, h2, h3⟩ := h
 refine ⟨ao, cap, by rw [ziV_length], ⟨by rw [ziV_length]; exact h1, h2⟩, fun hl => ?_⟩
 rw [ziV_length] at hl
 obtain ⟨b, off, rfl, h4⟩ := h3 hl
 refine ⟨b, off, rfl, _, ziV_ats, fun j u hj => ?_⟩
 rw [List.getElem?_map] at hj
 obtain ⟨z, hz, rfl⟩ := Option.map_eq_some_iff.1 hj
 rw [h4 j (List.getElem?_eq_some_iff.1 hz).1, List.getD_eq_getElem?_getD, hz]
 rfl
theorem nums_elems (m : Nat) : Elems (SA.d (Dm.nums m)) none (ziV .i64 ((dig m).map Int.ofNat)) := by
 refine ⟨rfl, ziV_ptrs _, fun L ρ w v h => ?_⟩
 obtain ⟨ao, cap, rfl, h1, h2, h3⟩ := h w (Agree.refl _ _)
 refine ⟨ao, cap, by rw [ziV_length, List.length_map], fun hl => ?_⟩
 rw [ziV_length, List.length_map] at hl
 obtain ⟨b, off, e, h4⟩ := h3 hl
 refine ⟨b, off, e, _, fun j u hj => ?_, ziV_chs⟩
 rw [List.getElem?_map, List.getElem?_map] at hj
 obtain ⟨z, hz, rfl⟩ := Option.map_eq_some_iff.1 hj
 obtain ⟨y, hy, rfl⟩ := Option.map_eq_some_iff.1 hz
 rw [h4 j (List.getElem?_eq_some_iff.1 hy).1, List.getD_eq_getElem?_getD, hy]
 rfl
/-! Functions that return a new row. -/
section
variable {D : Type} [Dom D] {P : Program} {cx : Cx D} {n : Nat} {σ : St D} {o : Oper}
theorem ok_litN {d r : Nat} {ty e : TypeId} {z : Value} {sz : Nat} {k : Option Nat} {xs : List Operand} {ss : List (SA D)} (hu : P.underlying ty = some (.slice e)) (hsz : (P.info? e).map (fun i => (i.size, i.zero)) = some (sz, some z)) (hs : sz = k.getD 1) (hs0 : Nat.blt 0 sz = true) (hsm : Nat.ble (ss.length * sz) 1000 = true)
  (hk : ∀ s ∈ ss, s.kind = some k) (hpt : ss.flatMap SA.ptrs = []) (ho : o.op = .buildSlice ty ss.length ((xs.zipIdx 0).map fun p => (p.2, p.1)).toArray) (hd : o.dst = some d) (hn : d < n) (hargs : ArgsOk σ xs ss) (hr : σ (.b r) = .no) (hkp : kpB (σ KP) = true) (hrK : Nat.beq r 1000000 = false) :
  OpOk P cx n σ o (xs.flatMap opk) [(.s d, .av (.one (.sl r ss.length))), (.b r, .row e k ss), (KP, .np (r :: npL (σ KP)))] := by
 intro σ' a w Q ⟨ρ, h⟩ h1 h2 K hK
 have hKP := h2 KP (by simp [keys])
 have hrK1 : r ≠ 1000000 := fun e => by subst e; cases hrK
 have hargs' : ArgsOk σ' xs ss := hargs.same h1
 obtain ⟨cs, hrun, hc⟩ := lit_run h hu hsz hs hs0 hsm hk ho hargs'
 unfold Oper.wp
 rw [hrun, Oper.upon_value, hd]
 have hk := h.kp (q := .np (r :: npL (σ KP))) (by rw [hKP]; exact hkp) rfl (fun _ => by simp) (fun i T k l _ hi q => hi (by rw [hKP] at q; exact List.mem_cons_of_mem _ q))
 have hr0 : σ' (.b r) = .no := (h2 (.b r) (by simp [keys])).trans hr
 have hKr : Key.b r ≠ KP := by simpa [KP] using hrK1
 obtain ⟨σ1, hσ1⟩ : ∃ σ1, σ1 = upd σ' [(KP, .np (r :: npL (σ KP)))] := ⟨_, rfl⟩
 rw [← hσ1] at hk
 have hk1 : σ1 (.b r) = .no := by rw [hσ1, upd1_ne hKr]; exact hr0
 have hkK : σ1 KP = .np (r :: npL (σ KP)) := by rw [hσ1]; exact upd1
 have hml : ss.length ≤ maxLen := by
  have h0 : 0 < sz := by rwa [Nat.blt_eq] at hs0
  have h1 := Nat.le_of_ble_eq_true hsm
  have h2 := Nat.le_mul_of_pos_right ss.length h0
  unfold maxLen; omega
 have hc' : Chs (fun _ => False) ρ w (rch k ss) cs ∨ True := .inr trivial
 have hL : ∀ b, Lof cx σ1 ρ b → Lof cx σ' ρ b ∨ True := fun _ _ => .inr trivial
 have hnew := hk.new (d := d) (i := r) (g := w.heap.size) (c := ss.length) (av := .one (.sl r ss.length)) (x := .row e k ss) (v := .slice (some ⟨w.heap.size, 0, none⟩) ss.length ss.length) ((Below.refl _ _).alloc (Nat.le_refl _) (.cells cs.toArray e)) hn hk1 hrK1 (by simp) (Nat.le_refl _) (fun ρ' hρ => ⟨some ⟨w.heap.size, 0, none⟩, by rw [hρ], fun _ => by rw [hρ]⟩) (fun b hb => by simpa [AV.ptrs, SA.ptrs] using hb)
  (fun T ch e => by cases e) (fun T1 k1 l1 e => by
   injection e with e1 e2 e3
   subst e1; subst e2; subst e3
   refine ⟨⟨Nat.le_refl _, hml, hpt⟩, fun _ => ⟨cs, [], by rw [List.append_nil]; exact RowC.mk0 (heap_alloc_new w _), ?_, by rw [List.append_nil, hc.length], fun q => absurd (by rw [hkK]; exact List.mem_cons_self) q⟩⟩
   refine hc.go (Goes.less fun b hb => ?_) (by rw [rch_ptrs, hpt]; intro b hb; cases hb)
   rcases hb with hb | ⟨i, hi, rfl⟩
   ·exact .inl hb
   ·refine .inr ⟨i, ?_, rfl⟩
    rcases live_some hi with ⟨T, ch, e⟩ | ⟨T, k, l, e, hcap⟩
    ·by_cases e2 : i = 1000000
     ·subst e2; exact absurd (hkK.symm.trans e) (by simp)
     ·rw [hσ1, upd1_ne (by simpa [KP] using e2)] at e; exact live_blk e
    ·by_cases e2 : i = 1000000
     ·subst e2; exact absurd (hkK.symm.trans e) (by simp)
     ·rw [hσ1, upd1_ne (by simpa [KP] using e2)] at e; exact (live_row e).2 hcap) (by intro b hb; cases hb) (fun _ _ _ _ _ q => q)
 have e3 : upd σ1 [(.s d, .av (.one (.sl r ss.length))), (.b r, .row e k ss)] = upd σ' [(.s d, .av (.one (.sl r ss.length))), (.b r, .row e k ss), (KP, .np (r :: npL (σ KP)))] := by
  rw [hσ1]
  rfl
 rw [e3] at hnew
 exact hK _ _ hnew
def FinRow (fn : Func) (T : TypeId) (k : Option Nat) (l : List (SA D)) (e : Exit) (st : Sg D) : Prop :=
 (e = .normal ∨ e = .ret) ∧ ∃ t r, fn.results = #[.tmp t] ∧ lookD .no st (.s t) = .av (.one (.sl r l.length)) ∧ lookD .no st (.b r) = .row T k l
theorem finRow {fn : Func} {T : TypeId} {k : Option Nat} {l l' : List (SA D)} {e : Exit} {st : Sg D} {t r m : Nat} (hl : l' = l) (hm : m = l.length) (hres : fn.results = #[.tmp t]) (he : e = .normal ∨ e = .ret) (ht : lookD .no st (.s t) = .av (.one (.sl r m))) (hr : lookD .no st (.b r) = .row T k l') : FinRow fn T k l e st := by
 subst hl; subst hm
 exact ⟨he, t, r, hres, ht, hr⟩
theorem ConRow.of {f : FuncId} {fn : Func} {c : Code} {args : List (SA D)} {T : TypeId} {k : Option Nat} {l : List (SA D)} (hf : P.funcs[f]? = some fn) (hb : fn.body = some c) (hnt : fn.ntmps = n) (hcl : ptrsAll args = []) (hn : Nat.ble args.length n = true) (hval : ∀ s ∈ l, isV s = true)
  (h : ∀ cx : Cx0 D, (∀ b, ¬ cx.Bw b) → CV P cx n c (initSt 0 args) (FinRow fn T k l)) : ConRow P f args T k l := by
 subst hnt
 intro L ρ w vs hlt hall
 refine calls_of_wp hf hb (wp_mono ((h ⟨w, L, hlt, true, fun _ => False, fun _ q => q.elim, fun _ _ q => q, (fun q => nomatch q), (fun q => nomatch q)⟩ (fun _ q => q)).run _ w (Con.start hcl (Nat.le_of_ble_eq_true hn) hall rfl rfl)) ?_)
 rintro e a' w' ⟨l', ⟨ρ', hC'⟩, he, t, r, hres, ht, hr⟩
 obtain ⟨a0, hv, ha⟩ := hC'.slt t _ ht
 obtain ⟨⟨q1, q2, _⟩, q4⟩ := hC'.row r T k l hr
 have hfin : ∃ v, (results fn a'.tmps).run P w' = .ok v w' ∧ (Below w.heap.size w w' ∧ ∃ a c, Ending.returned v = .returned (.slice a l.length c) ∧ (l.length ≤ c ∧ c ≤ maxLen) ∧ (0 < c → ∃ g, a = some ⟨g, 0, none⟩ ∧ w.heap.size ≤ g ∧ ∃ cs sp : List Value, RowC w' g (cs ++ sp) T ∧ Chs L ρ w' (rch k l) cs ∧ (cs ++ sp).length = c * k.getD 1)) := by
  refine ⟨a'.tmps.getD t undef, ?_, hC'.kept.below (fun _ q => q), a0, (ρ' r).2, by rw [hv], ⟨q1, q2⟩, fun hc => ?_⟩
  ·simp [results, hres]
  ·obtain ⟨cs, sp, h1, h2, h3, _⟩ := q4 hc
   refine ⟨_, ha hc, ?_, cs, sp, h1, h2.vals hval, h3⟩
   rcases hC'.mine r ((live_row hr).2 hc) with h | h
   ·exact h
   ·exact h.elim
 rcases he with rfl | rfl
 ·exact ⟨hC'.defers, hfin⟩
 ·exact ⟨hC'.defers, hfin⟩
end
theorem conRow_fresh {f : FuncId} {args : List (SA Dm)} {bs : List Int} (h : ∀ L ρ w vs, isAll L ρ w args vs → Calls Tryz.prog f vs.toArray w (Fresh w bs)) : ConRow Tryz.prog f args 5 none (ziV .u8 bs) := by
 intro L ρ w vs _ hall
 refine (h L ρ w vs hall).mono ?_
 rintro e w' ⟨v, rfl, ⟨_, ho⟩, h2⟩
 refine ⟨h2, ?_⟩
 rcases ho with ⟨rfl, h0⟩ | ⟨g, cap, cur, rfl, hg, hc, h4, h5, h6, h7⟩
 ·have e : bs = [] := List.eq_nil_of_length_eq_zero h0
  subst e
  exact ⟨none, 0, rfl, ⟨Nat.le_refl _, by decide⟩, fun q => absurd q (by decide)⟩
 ·refine ⟨some ⟨g, 0, none⟩, cap, by rw [ziV_length], ⟨by rw [ziV_length]; exact h4, h5⟩, fun _ => ⟨g, rfl, hg, bs.map (Value.int .u8), cur.toList.drop (bs.length * 1), ?_, ziV_chs, ?_⟩⟩
  ·rw [← h7, List.take_append_drop]
   exact RowC.mk0 (by simpa using hc)
  ·rw [← h7, List.take_append_drop]
   simpa using h6
theorem wireInts_con (zs : List Int) (hz : ∀ z ∈ zs, -9223372036854775808 ≤ z ∧ z ≤ 9223372036854775807) (hl : zs.length ≤ 1099511627776) : ConRow Tryz.prog 154 [ZI .i64 zs] 5 none (ziV .u8 (W.encInts zs)) :=
 conRow_fresh fun L ρ w vs hall => by
  match vs, hall with
  | [v], ⟨h1, _⟩ => exact Ints_any v zs w (zi_row h1).view hz hl
theorem refInts_con (zs : List Int) (hz : ∀ z ∈ zs, -9223372036854775808 ≤ z ∧ z ≤ 9223372036854775807) (hl : zs.length ≤ 1099511627776) : ConRow Tryz.prog 155 [ZI .i64 zs] 5 none (ziV .u8 (W.encInts zs)) :=
 conRow_fresh fun L ρ w vs hall => by
  match vs, hall with
  | [v], ⟨h1, _⟩ => exact refInts_any v zs w (zi_row h1).view hz hl
theorem SignF_con (x : Int) {j : Nat} : ConF Tryz.prog 131 [.d (Dm.int x j)] (.one (.v (.int .i64 (cmpI x 0)))) := by
 rintro L ρ w vs hlt hall
 match vs, hall with
 | [v], ⟨h1, _⟩ =>
  refine (Sign_any v x w (h1 w (Agree.refl _ _)).1).mono ?_
  rintro e w' ⟨rfl, h⟩
  exact ⟨_, rfl, h, rfl⟩
theorem rSignF_con (x : Int) {j : Nat} : ConF Tryz.prog 110 [.d (Dm.int x j)] (.one (.v (.int .i64 (cmpI x 0)))) := by
 rintro L ρ w vs hlt hall
 match vs, hall with
 | [v], ⟨h1, _⟩ =>
  refine (refSign_any v x w (h1 w (Agree.refl _ _)).1).mono ?_
  rintro e w' ⟨rfl, h⟩
  exact ⟨_, rfl, h, rfl⟩
theorem Encode_con (x : Int) (k : Nat) (hx : len x ≤ 1000000000) : ConRow Tryz.prog 134 [.d (Dm.int x k)] 5 none (ziV .u8 (encI x)) := by
 refine ConRow.of (n := 10) Tryz.func134 rfl rfl rfl rfl (ziV_vals _) fun cx hB => ?_
 refine sr rfl ?_
 refine p2 (ok_box (i := 0) rfl rfl bd rfl rfl rfl rfl rfl) ?_
 refine xn ?_
 refine RV.done ?_
 refine CV.seq ?_
 refine CV.region rfl (fun _ => by kernel_rfl) ?_
 refine p1 (ok_load rfl rfl bd rfl rfl rfl ty_int) ?_
 refine p1 (ok_callF (SignF_con x) rfl rfl bd Tryz.func131 rfl rfl (xa rfl) rfl) ?_
 refine RV.step3 (OpOk.plain (ok_litN (r := 5) u_ints zs_i64 rfl rfl rfl (by intro s hs; obtain rfl := List.mem_singleton.1 hs; rfl) rfl rfl rfl bd (xa rfl) rfl rfl rfl) rfl) ?_
 refine p1 (ok_fieldAddr fa_int1 rfl rfl bd rfl) ?_
 refine p1 (ok_loadf 1 fld_dig rfl rfl bd rfl rfl rfl rfl ty_ints) ?_
 refine RV.step4 (OpOk.plain (ok_appendND (r := 5) (r' := 8) (k := none) (G := Dm.gen (lstG none (ziV .i64 (cmpI x 0 :: (dig x.natAbs).map Int.ofNat)))) [] hB (nums_elems _) (lstG_Lst none _) (lstG_Lst0 none _) (by rw [ziV_length, List.length_map]; show (1 + len x) * 8 ≤ _; omega) (by rw [ziV_length, List.length_map]; show 1 + len x ≤ _; omega) u_ints inf_i64 rfl rfl rfl rfl rfl bd rfl rfl rfl rfl rfl rfl rfl rfl) rfl) ?_
 refine RV.step3 (OpOk.plain (ok_callRow (r := 9) (wireInts_con _ (encI_bd x) (by show (cmpI x 0 :: (dig x.natAbs).map Int.ofNat).length ≤ _; rw [List.length_cons, List.length_map]; show len x + 1 ≤ _; omega)) (ziV_vals _) rfl rfl bd Tryz.func154 rfl rfl (xa rfl) rfl rfl rfl) rfl) ?_
 refine xn ?_
 refine RV.drawn (by kernel_rfl) ?_
 refine CV.ret ?_
 exact finRow rfl rfl rfl (.inr rfl) rfl rfl
theorem rEncode_con (x : Int) (k : Nat) (hx : len x ≤ 1000000000) : ConRow Tryz.prog 135 [.d (Dm.int x k)] 5 none (ziV .u8 (encI x)) := by
 refine ConRow.of (n := 10) Tryz.func135 rfl rfl rfl rfl (ziV_vals _) fun cx hB => ?_
 refine sr rfl ?_
 refine p2 (ok_box (i := 0) rfl rfl bd rfl rfl rfl rfl rfl) ?_
 refine xn ?_
 refine RV.done ?_
 refine CV.seq ?_
 refine CV.region rfl (fun _ => by kernel_rfl) ?_
 refine p1 (ok_load rfl rfl bd rfl rfl rfl ty_int) ?_
 refine p1 (ok_callF (rSignF_con x) rfl rfl bd Tryz.func110 rfl rfl (xa rfl) rfl) ?_
 refine RV.step3 (OpOk.plain (ok_litN (r := 5) u_ints zs_i64 rfl rfl rfl (by intro s hs; obtain rfl := List.mem_singleton.1 hs; rfl) rfl rfl rfl bd (xa rfl) rfl rfl rfl) rfl) ?_
 refine p1 (ok_fieldAddr fa_int1 rfl rfl bd rfl) ?_
 refine p1 (ok_loadf 1 fld_dig rfl rfl bd rfl rfl rfl rfl ty_ints) ?_
 refine RV.step4 (OpOk.plain (ok_appendND (r := 5) (r' := 8) (k := none) (G := Dm.gen (lstG none (ziV .i64 (cmpI x 0 :: (dig x.natAbs).map Int.ofNat)))) [] hB (nums_elems _) (lstG_Lst none _) (lstG_Lst0 none _) (by rw [ziV_length, List.length_map]; show (1 + len x) * 8 ≤ _; omega) (by rw [ziV_length, List.length_map]; show 1 + len x ≤ _; omega) u_ints inf_i64 rfl rfl rfl rfl rfl bd rfl rfl rfl rfl rfl rfl rfl rfl) rfl) ?_
 refine RV.step3 (OpOk.plain (ok_callRow (r := 9) (refInts_con _ (encI_bd x) (by show (cmpI x 0 :: (dig x.natAbs).map Int.ofNat).length ≤ _; rw [List.length_cons, List.length_map]; show len x + 1 ≤ _; omega)) (ziV_vals _) rfl rfl bd Tryz.func155 rfl rfl (xa rfl) rfl rfl rfl) rfl) ?_
 refine xn ?_
 refine RV.drawn (by kernel_rfl) ?_
 refine CV.ret ?_
 exact finRow rfl rfl rfl (.inr rfl) rfl rfl
def encR (a : Rat) : List Int := encI a.num ++ encI (qd a)
theorem REncode_con (a : Rat) (k : Nat) (hp : len a.num ≤ 1000000000) (hq : len (qd a) ≤ 1000000000) (h1 : (encI a.num).length + (encI (qd a)).length ≤ 1000000000000) : ConRow Tryz.prog 95 [RT a k] 5 none (ziV .u8 (encR a)) := by
 refine ConRow.of (n := 10) Tryz.func95 rfl rfl rfl rfl (ziV_vals _) fun cx hB => ?_
 refine sr rfl ?_
 refine p2 (ok_box (i := 0) rfl rfl bd rfl rfl rfl rfl rfl) ?_
 refine xn ?_
 refine RV.done ?_
 refine CV.seq ?_
 refine CV.region rfl (fun _ => by kernel_rfl) ?_
 refine p1 (ok_fieldAddr fa_rat0 rfl rfl bd rfl) ?_
 refine p1 (ok_loadf 0 fld_num rfl rfl bd rfl rfl rfl rfl ty_int) ?_
 refine RV.step3 (OpOk.plain (ok_callRow (r := 5) (Encode_con _ _ hp) (ziV_vals _) rfl rfl bd Tryz.func134 rfl rfl (xa rfl) rfl rfl rfl) rfl) ?_
 refine p1 (ok_fieldAddr fa_rat1 rfl rfl bd rfl) ?_
 refine p1 (ok_loadf 2 fld_den rfl rfl bd rfl rfl rfl rfl ty_int) ?_
 refine p1 (ok_callRowD (G := Dm.gen (lstG none (ziV .u8 (encI (qd a))))) (Encode_con _ _ hq) (ziV_vals _) (lstG_Lst none _) (lstG_Lst0 none _) rfl rfl bd Tryz.func134 rfl rfl (xa rfl)) ?_
 refine RV.step4 (OpOk.plain (ok_appendN (r := 5) (r' := 9) (k := none) (lst_elems (by decide) (ziV_ptrs _)) (by rw [ziV_length, ziV_length]; omega) (by rw [ziV_length, ziV_length]; omega) u_bytes inf_u8 rfl rfl (by rw [ziV_length]) rfl rfl bd rfl rfl rfl rfl rfl rfl rfl) rfl) ?_
 refine xn ?_
 refine RV.drawn (by kernel_rfl) ?_
 refine CV.ret ?_
 exact finRow (ziV_append _ _) (by rw [ziV_length, ziV_length, ziV_length]; show _ = (encI a.num ++ encI (qd a)).length; rw [List.length_append]) rfl (.inr rfl) rfl rfl
theorem eq_take {k : Nat} {a b : List Int} (h : a.length = b.length) (hk : k < a.length) (h1 : a.take k = b.take k) (h2 : a.getD k 0 = b.getD k 0) : a.take (k + 1) = b.take (k + 1) := by
 rw [List.take_add_one, List.take_add_one, h1]
 congr 1
 rw [List.getElem?_eq_getElem hk, List.getElem?_eq_getElem (by omega)]
 rw [List.getD_eq_getElem?_getD, List.getD_eq_getElem?_getD, List.getElem?_eq_getElem hk, List.getElem?_eq_getElem (by omega)] at h2
 simpa using h2
theorem SameB_con (a b : List Int) (ha : a.length ≤ 1000000000000) : Con Tryz.prog 47 [ZI .u8 a, ZI .u8 b] (.one (.v (.bool (decide (a = b))))) := by
 refine Con.of (n := 26) Tryz.func47 rfl rfl rfl rfl rfl fun cx hfr => ?_
 refine sr rfl ?_
 refine xn ?_
 refine RV.done ?_
 refine CV.seq ?_
 refine sr rfl ?_
 refine xm ?_
 refine p1 (ok_lenL rfl u_bytes rfl rfl bd rfl) ?_
 refine xm ?_
 refine p1 (ok_lenL rfl u_bytes rfl rfl bd rfl) ?_
 refine p1 (ok_neq rfl rfl bd rfl rfl) ?_
 refine RV.done ?_
 refine CV.cond rfl (fun h0 => ?_) (fun h0 => ?_)
 ·refine sr rfl ?_
  refine xn ?_
  refine RV.done ?_
  refine CV.ret ?_
  rw [ziV_length, ziV_length] at h0
  exact fin1 rfl (.inr rfl) rfl (is_bool (by symm; rw [decide_eq_false_iff_not]; rintro rfl; simp at h0))
 ·refine CV.skip ?_
  refine CV.seq ?_
  refine sr rfl ?_
  refine xn ?_
  refine RV.done ?_
  refine CV.block ?_
  rw [ziV_length, ziV_length] at h0
  have hl : a.length = b.length := (by simp at h0; omega)
  refine CV.loop (X := {k : Nat // k ≤ a.length ∧ a.take k = b.take k}) (fun k => [(.s 5, .av (.one (.v (.int .i64 (k.1 : Int))))), (.s 0, .av (.one (ZI .u8 a))), (.s 1, .av (.one (ZI .u8 b)))]) (fun k => a.length - k.1) ⟨0, Nat.zero_le _, by simp⟩ (Sub.mk ⟨XV.le_rfl _, XV.le_rfl _, XV.le_rfl _, trivial⟩ rfl rfl) (fun k => ?_)
  obtain ⟨k, hk, he⟩ := k
  simp only
  refine CV.seq ?_
  refine sr rfl ?_
  refine xm ?_
  refine xm ?_
  refine p1 (ok_lenL (ziV_length _) u_bytes rfl rfl bd rfl) ?_
  refine p1 (ok_lss rfl rfl bd rfl rfl) ?_
  refine RV.done ?_
  refine CV.cond rfl (fun hc => ?_) (fun hc => ?_)
  ·refine CV.skip ?_
   refine CV.seq ?_
   refine CV.block ?_
   refine CV.seq ?_
   refine CV.region rfl (fun _ => by kernel_rfl) ?_
   refine xm ?_
   refine xm ?_
   refine p1 (ok_idxL (k := none) (i := k) (ziV_at (by simpa using hc)) u_bytes sz_u8 (by decide) rfl rfl bd rfl rfl) ?_
   refine p1 (ok_loadP ty_u8 (by decide) rfl rfl bd rfl) ?_
   refine xm ?_
   refine xm ?_
   refine p1 (ok_idxL (k := none) (i := k) (ziV_at (by rw [← hl]; simpa using hc)) u_bytes sz_u8 (by decide) rfl rfl bd rfl rfl) ?_
   refine p1 (ok_loadP ty_u8 (by decide) rfl rfl bd rfl) ?_
   refine p1 (ok_neq rfl rfl bd rfl rfl) ?_
   refine RV.drawn (by kernel_rfl) ?_
   refine CV.cond rfl (fun hd => ?_) (fun hd => ?_)
   ·refine sr rfl ?_
    refine xn ?_
    refine RV.done ?_
    refine CV.ret ?_
    exact fin1 rfl (.inr rfl) rfl (is_bool (by symm; rw [decide_eq_false_iff_not]; rintro rfl; simp at hd))
   ·refine CV.skip ?_
    refine CV.region rfl (fun h => nomatch h) ?_
    refine xm ?_
    refine p1 (ok_add (c := ((k + 1 : Nat) : Int)) (by rw [wrapI (by omega) (by omega)]; omega) rfl rfl bd rfl rfl) ?_
    refine xn ?_
    refine RV.done ?_
    exact ⟨⟨k + 1, Nat.succ_le_of_lt (by simpa using hc), eq_take hl (by simpa using hc) he (by simpa using hd)⟩, Sub.mk ⟨XV.le_rfl _, XV.le_rfl _, XV.le_rfl _, trivial⟩ rfl rfl, by have : k < a.length := (by simpa using hc); show a.length - (k + 1) < a.length - k; omega⟩
  ·refine CV.exit ?_
   refine sr rfl ?_
   refine xn ?_
   refine RV.done ?_
   refine CV.ret ?_
   have : a.length ≤ k := (by simpa using hc)
   exact fin1 rfl (.inr rfl) rfl (is_bool (by symm; rw [decide_eq_true_eq]; rwa [List.take_of_length_le this, List.take_of_length_le (by omega)] at he))
end Vc
end Go.Proofs.YtcblbepaigdlgaaGreat

namespace Go.Proofs.YtcblbepaigdlgaaGreat
open Go.RowKit
open Go.Lib (hid)
open Dg Zn Tx
namespace Vc
set_option maxRecDepth 100000
/-! Whole. -/
theorem dig_pos {m : Nat} : 0 < (dig m).length ↔ m ≠ 0 := by
 rw [List.length_pos_iff, ne_eq, dig_eq_nil]
/-! Floor and Ceil of the reference. -/
theorem le_blkD {f : Nat → Nat} {T : TypeId} {k : Option Nat} {s : SA Dm} {x : Dm} (h : ∀ L ρ w v, s.is L ρ w v → (SA.d x).is L ρ w v) : (XV.blk T [(k, s)] : XV Dm).leR f (.blk T [(k, .d x)]) :=
 ⟨rfl, fun L ρ w _ ⟨p, r, v, h1, h2, h3, h4⟩ => ⟨p, r, v, h1, h2, h L ρ w v h3, h4⟩⟩
def zeroRat : Value := .agg #[.bool false, .slice none 0 0, .bool false, .slice none 0 0]
theorem zero_rt {k : Nat} : ∀ L ρ w v, (SA.v zeroRat : SA Dm).is L ρ w v → (SA.d (Dm.rt 0 0 k)).is L ρ w v := by
 intro L ρ w v h w' _
 obtain rfl : v = zeroRat := h
 have h0 : (dig (0 : Int).natAbs).length ≤ k := by rw [show (0 : Int).natAbs = 0 from rfl, dig_zero]; exact Nat.zero_le _
 exact ⟨_, _, rfl, Nums.nil (by decide), Nums.nil (by decide), h0, h0⟩
theorem le_zero {f : Nat → Nat} {T : TypeId} {k : Option Nat} {j : Nat} : (XV.blk T [(k, .v zeroRat)] : XV Dm).leR f (.blk T [(k, .d (Dm.rt 0 0 j))]) := le_blkD zero_rt
/-! Lists of rational numbers. -/
theorem u_rats : Tryz.prog.underlying 23 = some (.slice 30) := by kernel_rfl
theorem sz_rat : (Tryz.prog.info? 30).map (·.size) = some 4 := by kernel_rfl
theorem inf_rat : (Tryz.prog.info? 30).map (fun i => (i.zero, i.size, i.bytes)) = some (some zeroRat, 4, 64) := by kernel_rfl
theorem zs_rat : (Tryz.prog.info? 30).map (fun i => (i.size, i.zero)) = some (4, some zeroRat) := by kernel_rfl
def ratL (f : Nat → Rat) (K m : Nat) : List (SA Dm) := (List.range m).map fun i => RT (f i) K
theorem ratL_length {f : Nat → Rat} {K m : Nat} : (ratL f K m).length = m := by simp [ratL]
theorem ratL_at {f : Nat → Rat} {K m i : Nat} (h : i < m) : (ratL f K m)[i]? = some (RT (f i) K) := by simp [ratL, h]
theorem ratL_succ {f : Nat → Rat} {K m : Nat} : ratL f K m ++ [RT (f m) K] = ratL f K (m + 1) := by simp [ratL, List.range_succ]
abbrev RL (f : Nat → Rat) (K m : Nat) : SA Dm := .d (Dm.gen (lstG (some 4) (ratL f K m)))
def sumF (f : Nat → Rat) : Nat → Rat
 | 0 => 0
 | n + 1 => sumF f n + f n
def bndS (K : Nat) : Nat → Nat
 | 0 => 0
 | n + 1 => 3 * (bndS K n + K) + 20
theorem rsum_con (f : Nat → Rat) (K m : Nat) (hm : m ≤ 100000000) (hb : ∀ n, n ≤ m → bndS K n ≤ 10000000) (hK : K ≤ 10000000) : Con Tryz.prog 117 [RL f K m] (.one (RT (sumF f m) (bndS K m))) := by
 refine Con.of (n := 17) Tryz.func117 rfl rfl rfl rfl rfl fun cx hfr => ?_
 refine sr rfl ?_
 refine p2 (ok_alloc (i := 0) rfl rfl bd zero_rat rfl rfl rfl rfl) ?_
 refine RV.done (sr rfl ?_)
 refine p2 (ok_alloc (i := 1) rfl rfl bd zero_rat rfl rfl rfl rfl) ?_
 refine RV.done ?_
 refine CV.seq ?_
 refine sr rfl ?_
 refine xm ?_
 refine p1 (ok_lenL ratL_length u_rats rfl rfl bd rfl) ?_
 refine xm ?_
 refine RV.done ?_
 refine CV.block ?_
 refine CV.loop (X := {i : Nat // i ≤ m}) (fun i => [(.s 8, .av (.one (.v (.int .i64 (i.1 : Int))))), (.s 7, .av (.one (.v (.int .i64 (m : Int))))), (.s 6, .av (.one (RL f K m))), (.s 3, .av (.one (.ptr 1 0))), (.s 2, .av (.one (.ptr 0 0))), (.b 1, .blk 30 [(some 4, RT (sumF f i.1) (bndS K i.1))]), (.b 0, .blk 30 [(some 4, .v zeroRat)])]) (fun i => m - i.1) ⟨0, Nat.zero_le _⟩ (Sub.mk ⟨XV.le_rfl _, XV.le_rfl _, XV.le_rfl _, XV.le_rfl _, XV.le_rfl _, le_zero, XV.le_rfl _, trivial⟩ rfl rfl) (fun i => ?_)
 obtain ⟨i, hi⟩ := i
 simp only
 refine sr rfl ?_
 refine p1 (ok_lss rfl rfl bd rfl rfl) ?_
 refine RV.done ?_
 refine CV.seq ?_
 refine CV.cond rfl (fun hc => ?_) (fun hc => ?_)
 ·refine CV.skip ?_
  refine CV.seq ?_
  refine CV.block ?_
  refine sr rfl ?_
  refine p1 (ok_idxL (k := some 4) (i := i) (ratL_at (by simpa using hc)) u_rats sz_rat (by decide) rfl rfl bd rfl rfl) ?_
  refine p1 (ok_loadP ty_rat (by decide) rfl rfl bd rfl) ?_
  refine p2 (ok_alloc (i := 2) rfl rfl bd zero_rat rfl rfl rfl rfl) ?_
  refine p1 (ok_store rfl rfl rfl rfl rfl rfl rfl (ty_rat).2 rfl rfl rfl rfl) ?_
  refine RV.done ?_
  refine CV.region rfl (fun h => nomatch h) ?_
  refine p1 (ok_load rfl rfl bd rfl rfl rfl ty_rat) ?_
  refine p1 (ok_load rfl rfl bd rfl rfl rfl ty_rat) ?_
  refine xc (RAdd_con _ _ _ _ (hb i hi) hK) Tryz.func42 (xb rfl rfl) hfr ?_
  refine p1 (ok_store rfl rfl rfl rfl rfl rfl rfl (ty_rat).2 rfl rfl rfl rfl) ?_
  refine RV.done ?_
  refine CV.region rfl (fun h => nomatch h) ?_
  refine p1 (ok_add (c := ((i + 1 : Nat) : Int)) (by rw [wrapI (by omega) (by omega)]; omega) rfl rfl bd rfl rfl) ?_
  refine xm ?_
  refine RV.done ?_
  have hlt : i < m := (by simpa using hc)
  exact ⟨⟨i + 1, hlt⟩, Sub.mk ⟨XV.le_rfl _, XV.le_rfl _, XV.le_rfl _, XV.le_rfl _, XV.le_rfl _, ⟨rfl, fun _ _ _ _ h => h⟩, XV.le_rfl _, trivial⟩ rfl rfl, by show m - (i + 1) < m - i; omega⟩
 ·refine CV.exit ?_
  refine sr rfl ?_
  refine p1 (ok_load rfl rfl bd rfl rfl rfl ty_rat) ?_
  refine p1 (ok_store rfl rfl rfl rfl rfl rfl rfl (ty_rat).2 rfl rfl rfl rfl) ?_
  refine RV.done ?_
  refine CV.ret ?_
  obtain rfl : i = m := (by have : ¬ i < m := (by simpa using hc); omega)
  exact fin1 rfl (.inr rfl) ⟨_, _, _, _, _, rfl, rfl, rfl, ty_rat⟩ is_rfl
def prodL (f : Nat → Rat) (K m i : Nat) : List (SA Dm) := (List.range m).map fun j => if j < i then RT (f j) K else .v zeroRat
theorem prodL_length {f : Nat → Rat} {K m i : Nat} : (prodL f K m i).length = m := by simp [prodL]
theorem prodL_zero {f : Nat → Rat} {K m : Nat} : List.replicate m (SA.v zeroRat : SA Dm) = prodL f K m 0 := by
 apply List.ext_getElem
 ·simp [prodL]
 ·intro i h1 h2
  simp [prodL]
theorem prodL_set {f : Nat → Rat} {K m i : Nat} : (prodL f K m i).set i (RT (f i) K) = prodL f K m (i + 1) := by
 apply List.ext_getElem
 ·simp [prodL]
 ·intro j h1 h2
  simp only [prodL, List.getElem_set, List.getElem_map, List.getElem_range]
  by_cases e : i = j
  ·subst e; rw [if_pos rfl, if_pos (Nat.lt_succ_self i)]
  ·rw [if_neg e]
   by_cases h : j < i
   ·rw [if_pos h, if_pos (by omega)]
   ·rw [if_neg h, if_neg (by omega)]
theorem prodL_all {f : Nat → Rat} {K m : Nat} : prodL f K m m = ratL f K m := by
 unfold prodL ratL
 exact List.map_congr_left fun i hi => by rw [if_pos (List.mem_range.1 hi)]
theorem RDot_con (f g : Nat → Rat) (K m n : Nat) (hm : m ≤ 1000000) (hn : n ≤ 1000000) (hK : K ≤ 1000000) (hb : ∀ i, i ≤ min m n → bndS (3 * (K + K) + 20) i ≤ 10000000) : Con Tryz.prog 73 [RL f K m, RL g K n] (.one (RT (sumF (fun i => f i * g i) (min m n)) (bndS (3 * (K + K) + 20) (min m n)))) := by
 refine Con.of (n := 33) Tryz.func73 rfl rfl rfl rfl rfl fun cx hfr => ?_
 refine sr rfl ?_
 refine p2 (ok_alloc (i := 0) rfl rfl bd zero_rat rfl rfl rfl rfl) ?_
 refine RV.done (sr rfl ?_)
 refine xm ?_
 refine p1 (ok_lenL ratL_length u_rats rfl rfl bd rfl) ?_
 refine xm ?_
 refine p1 (ok_lenL ratL_length u_rats rfl rfl bd rfl) ?_
 refine p1 (ok_minI (c := ((min m n : Nat) : Int)) (by split <;> omega) rfl rfl bd rfl rfl) ?_
 refine p2 (ok_make (r := 12) (Nat.le_refl _) (by omega) (by omega) u_rats inf_rat rfl rfl rfl rfl bd rfl rfl rfl rfl rfl) ?_
 refine xn ?_
 refine RV.done ?_
 refine CV.seq ?_
 refine sr rfl ?_
 refine xm ?_
 refine p1 (ok_lenS u_rats rfl rfl bd rfl) ?_
 refine xm ?_
 refine RV.done ?_
 refine CV.block ?_
 refine CV.loop (X := {i : Nat // i ≤ min m n}) (fun i => [(.s 15, .av (.one (.v (.int .i64 (i.1 : Int))))), (.s 14, .av (.one (.v (.int .i64 ((min m n : Nat) : Int))))), (.s 0, .av (.one (RL f K m))), (.s 1, .av (.one (RL g K n))), (.s 5, .av (.one (.sl 12 (min m n)))), (.b 12, .row 30 (some 4) (prodL (fun i => f i * g i) (3 * (K + K) + 20) (min m n) i.1)), (.s 4, .av (.one (.ptr 0 0))), (.b 0, .blk 30 [(some 4, .v zeroRat)])]) (fun i => min m n - i.1) ⟨0, Nat.zero_le _⟩ (Sub.mk ⟨XV.le_rfl _, XV.le_rfl _, XV.le_rfl _, XV.le_rfl _, XV.le_rfl _, XV.le_row prodL_zero, XV.le_rfl _, XV.le_rfl _, trivial⟩ rfl rfl) (fun i => ?_)
 obtain ⟨i, hi⟩ := i
 simp only
 refine sr rfl ?_
 refine p1 (ok_lss rfl rfl bd rfl rfl) ?_
 refine RV.done ?_
 refine CV.seq ?_
 refine CV.cond rfl (fun hc => ?_) (fun hc => ?_)
 ·refine CV.skip ?_
  refine CV.seq ?_
  refine CV.block ?_
  refine sr rfl ?_
  refine xm ?_
  refine xn ?_
  refine RV.done ?_
  refine CV.region rfl (fun _ => by kernel_rfl) ?_
  refine xm ?_
  refine xm ?_
  refine xm ?_
  refine xm ?_
  refine p1 (ok_idxL (k := some 4) (i := i) (ratL_at (by have : i < min m n := (by simpa using hc); omega)) u_rats sz_rat (by decide) rfl rfl bd rfl rfl) ?_
  refine p1 (ok_loadP ty_rat (by decide) rfl rfl bd rfl) ?_
  refine xm ?_
  refine xm ?_
  refine p1 (ok_idxL (k := some 4) (i := i) (ratL_at (by have : i < min m n := (by simpa using hc); omega)) u_rats sz_rat (by decide) rfl rfl bd rfl rfl) ?_
  refine p1 (ok_loadP ty_rat (by decide) rfl rfl bd rfl) ?_
  refine xd rfl (RMul_con _ _ _ _ (by omega) (by omega)) Tryz.func43 (xb rfl rfl) hfr ?_
  refine p1 (ok_idxR (i := i) (by simpa using hc) (by rw [prodL_length]; exact Nat.le_refl _) u_rats sz_rat rfl rfl bd rfl rfl rfl) ?_
  refine p1 (ok_storeR (i := i) (by rw [prodL_length]; simpa using hc) rfl (by show 0 < 4; decide) rfl rfl rfl rfl rfl rfl sz_rat (.inl rfl) rfl rfl) ?_
  refine RV.drawn (by kernel_rfl) ?_
  refine CV.region rfl (fun h => nomatch h) ?_
  refine p1 (ok_add (c := ((i + 1 : Nat) : Int)) (by rw [wrapI (by omega) (by omega)]; omega) rfl rfl bd rfl rfl) ?_
  refine xm ?_
  refine RV.done ?_
  have hlt : i < min m n := (by simpa using hc)
  exact ⟨⟨i + 1, hlt⟩, Sub.mk ⟨XV.le_rfl _, XV.le_rfl _, XV.le_rfl _, XV.le_rfl _, XV.le_rfl _, XV.le_row prodL_set, XV.le_rfl _, XV.le_rfl _, trivial⟩ rfl rfl, by show min m n - (i + 1) < min m n - i; omega⟩
 ·refine CV.exit ?_
  refine CV.seq ?_
  have hi2 : i = min m n := (by have : ¬ i < min m n := (by simpa using hc); omega)
  subst hi2
  rw [prodL_all]
  refine CV.freeze (r := 12) (t := 5) (G := Dm.gen (lstG (some 4) (ratL (fun i => f i * g i) (3 * (K + K) + 20) (min m n)))) (cx.bw hfr) rfl rfl ratL_length.symm rfl rfl (lstG_Lst _ _) (lstG_Lst0 _ _) ?_
  refine CV.region rfl (fun h => nomatch h) ?_
  refine xm ?_
  refine xd rfl (rsum_con _ _ _ (by omega) hb (by omega)) Tryz.func117 (xa rfl) hfr ?_
  refine p1 (ok_store rfl rfl rfl rfl rfl rfl rfl (ty_rat).2 rfl rfl rfl rfl) ?_
  refine RV.done ?_
  refine CV.ret ?_
  exact fin1 rfl (.inr rfl) ⟨_, _, _, _, _, rfl, rfl, rfl, ty_rat⟩ is_rfl
section
variable (l m : List Int) (c : Int) (hc1 : -9223372036854775808 ≤ c) (hc2 : c ≤ 9223372036854775807)
include hc1 hc2
end
theorem row_of_at {k : IntKind} {w : World} {v : Value} {zs : List Int} (h : (lstG none (ziV k zs)).is w v) : Row k w v zs := by
 obtain ⟨ao, cap, rfl, h1, h2⟩ := h
 rw [ziV_length] at h1 h2 ⊢
 refine ⟨ao, cap, rfl, h1.1, h1.2, fun hl => ?_⟩
 obtain ⟨b, off, e, cs, h3, h4⟩ := h2 hl
 obtain rfl := ziV_ats' h3
 exact ⟨b, off, e, fun i hi => h4 i _ (by rw [List.getElem?_map, List.getElem?_eq_getElem hi, List.getD_eq_getElem?_getD, List.getElem?_eq_getElem hi]; rfl)⟩
theorem row_slice {k : IntKind} {w : World} {v : Value} {zs : List Int} (h : Row k w v zs) : ∃ a n c, v = .slice a n c := by
 obtain ⟨a, c, h, _⟩ := h
 exact ⟨a, _, c, h⟩
def rawG (b : Bool) (zs : List Int) : Gen where
 is := fun w v => ∃ s, v = .agg #[.bool b, s] ∧ Row .i64 w s zs
 shape := some 2
 plain := true
 ok := fun w v ⟨s, h, hs⟩ => by
  obtain ⟨a, n, c, rfl⟩ := row_slice hs
  subst h
  exact ⟨[_, _], rfl, rfl, by simp [Value.oneCell']⟩
 pl := fun _ w v ⟨s, h, hs⟩ => by
  obtain ⟨a, n, c, rfl⟩ := row_slice hs
  subst h
  simp [Value.cells, notInt]
theorem VRaw_con (b : Bool) (zs : List Int) (r : Bool) (hr : validI b zs = r) : Con Tryz.prog 104 [.d (Dm.gen (rawG b zs))] (.one (.v (.bool r))) := by
 subst hr
 rintro L ρ w vs hlt hn hwf hall
 match vs, hall with
 | [v], ⟨h, _⟩ =>
  obtain ⟨s, rfl, hs⟩ := h w (Agree.refl _ _)
  refine (Valid_raw b s zs w hs).mono ?_
  rintro e w' ⟨rfl, h4⟩
  exact ⟨_, rfl, h4, rfl⟩
theorem rVRaw_con (b : Bool) (zs : List Int) (r : Bool) (hr : validI b zs = r) : Con Tryz.prog 107 [.d (Dm.gen (rawG b zs))] (.one (.v (.bool r))) := by
 subst hr
 rintro L ρ w vs hlt hn hwf hall
 match vs, hall with
 | [v], ⟨h, _⟩ =>
  obtain ⟨s, rfl, hs⟩ := h w (Agree.refl _ _)
  refine (refValid_raw b s zs w hs).mono ?_
  rintro e w' ⟨rfl, h4⟩
  exact ⟨_, rfl, h4, rfl⟩
theorem row_of_nums {w : World} {v : Value} {ds : List Nat} (h : Nums w v ds) : Row .i64 w v (ds.map Int.ofNat) := by
 obtain ⟨a, c, rfl, h2, h3, h4⟩ := h
 refine ⟨a, c, by rw [List.length_map], by rw [List.length_map]; exact h2, h3, fun hl => ?_⟩
 rw [List.length_map] at hl
 obtain ⟨b, off, h5, h6⟩ := h4 hl
 refine ⟨b, off, h5, fun i hi => ?_⟩
 rw [List.length_map] at hi
 rw [h6 i hi]
 simp [List.getD_eq_getElem?_getD, hi]
theorem valid_int {b : Bool} {zs : List Int} (h : validI b zs = true) : ∃ z : Int, decide (z < 0) = b ∧ (dig z.natAbs).map Int.ofNat = zs := by
 unfold validI at h
 rw [Bool.and_eq_true, List.all_eq_true] at h
 obtain ⟨h1, h2⟩ := h
 have h1' : ∀ z ∈ zs, 0 ≤ z ∧ z < 1000000000 := fun z hz => by simpa using h1 z hz
 obtain ⟨ds, rfl, hd⟩ : ∃ ds : List Nat, ds.map Int.ofNat = zs ∧ Dig ds := by
  refine ⟨zs.map Int.toNat, ?_, fun d hd => ?_⟩
  ·rw [List.map_map]
   conv => rhs; rw [← List.map_id zs]
   exact List.map_congr_left fun z hz => by
    have := h1' z hz
    show ((z.toNat : Nat) : Int) = z
    omega
  ·obtain ⟨z, hz, rfl⟩ := List.mem_map.1 hd
   have := h1' z hz
   omega
 rw [List.length_map] at h2
 have hv : dig (val ds) = ds := by
  rw [dig_val hd]
  rcases List.eq_nil_or_concat ds with e | ⟨i, l, e⟩
  ·rw [e]; rfl
  ·rw [List.concat_eq_append] at e
   rw [e]
   refine trimN_snoc ?_ i
   rintro rfl
   rw [e] at h2
   simp at h2
 refine ⟨mk b (val ds), ?_, ?_⟩
 ·unfold mk
  cases b with
  | false => simp
  | true =>
   have : val ds ≠ 0 := by
    intro e
    rw [e, dig_zero] at hv
    rw [← hv] at h2
    simp at h2
   simp
   omega
 ·rw [show (mk b (val ds)).natAbs = val ds by unfold mk; cases b <;> simp, hv]
theorem nums_of_row {w : World} {v : Value} {ds : List Nat} (h : Row .i64 w v (ds.map Int.ofNat)) : Nums w v ds := by
 obtain ⟨a, c, rfl, h2, h3, h4⟩ := h
 rw [List.length_map] at h2 h4 ⊢
 refine ⟨a, c, rfl, h2, h3, fun hl => ?_⟩
 obtain ⟨b, off, h5, h6⟩ := h4 hl
 refine ⟨b, off, h5, fun i hi => ?_⟩
 rw [h6 i hi]
 simp [List.getD_eq_getElem?_getD, hi]
section
variable {cx : Cx Dm} {n : Nat} {σ : St Dm} {o : Oper} {d t : Nat} {x y j : Operand}
theorem built_int (parts : List (Nat × Value)) : Tryz.prog.built 28 parts = Instr.fill ((#[(0, 1), (1, 1)] : Array (Nat × Nat))[·]?) #[.bool false, .slice none 0 0] parts := by kernel_rfl
theorem ok_braw {b : Bool} {zs : List Int} (ho : o.op = .build 28 #[(0, x), (1, y)]) (hd : o.dst = some d) (hn : d < n) (hx : opd σ x = .av (.one (.v (.bool b)))) (hy : opd σ y = .av (.one (ZI .i64 zs))) : OpOk Tryz.prog cx n σ o (opk x ++ opk y) [(.s d, .av (.one (.d (.gen (rawG b zs)))))] := by
 refine ok_read hd hn rfl fun σ' ρ a w h hk => ?_
 have e1 : a.eval x = .bool b := h.opd ((opd_same fun q hq => hk q (by simp [hq])).trans hx)
 have hr := h.opd ((opd_same fun q hq => hk q (by simp [hq])).trans hy)
 obtain ⟨s, m, c, e2⟩ := row_slice (row_of_at (hr w (Agree.refl _ _)))
 refine ⟨.agg #[.bool b, a.eval y], ?_, ?_⟩
 ·have hb : Tryz.prog.built 28 #[(0, a.eval x), (1, a.eval y)].toList = some #[.bool b, a.eval y] := by
   rw [e1, e2, built_int]
   kernel_rfl
  have hb2 := run_build w 28 #[(0, a.eval x), (1, a.eval y)] _ hb
  simp only [execOp, ho, Sem.run_bind]
  rw [show (#[(0, x), (1, y)] : Array (Nat × Operand)).map (fun p => (p.1, a.eval p.2)) = #[(0, a.eval x), (1, a.eval y)] by simp, hb2]
  rfl
 ·intro w' hw
  exact ⟨_, rfl, row_of_at (hr w' hw)⟩
end
/-! Valid. -/
theorem valid_dig (z : Int) : validI (decide (z < 0)) ((dig z.natAbs).map Int.ofNat) = true := by
 unfold validI
 rw [Bool.and_eq_true, List.all_eq_true]
 constructor
 ·intro x hx
  obtain ⟨d, hd, rfl⟩ := List.mem_map.1 hx
  have := dig_Dig z.natAbs d hd
  simp
  omega
 ·rw [List.length_map]
  split
  ·rename_i h
   have := dig_eq_nil.1 (List.eq_nil_of_length_eq_zero h)
   simp
   omega
  ·rename_i h
   have h0 : 0 < z.natAbs := Nat.pos_of_ne_zero fun e => h (by rw [e, dig_zero]; rfl)
   have := dig_last h0
   simp only [List.getD_eq_getElem?_getD, List.getElem?_map, bne_iff_ne] at this ⊢
   rw [List.getElem?_eq_getElem (by omega)] at this ⊢
   simp at this ⊢
   exact this
theorem rIValid_con (z : Int) {k : Nat} : Con Tryz.prog 107 [.d (Dm.int z k)] (.one (.v (.bool true))) := by
 rintro L ρ w vs hlt hn hwf hall
 match vs, hall with
 | [v], ⟨h, _⟩ =>
  obtain ⟨⟨s, rfl, hs⟩, _⟩ := h w (Agree.refl _ _)
  refine (refValid_raw _ s _ w (row_of_nums hs)).mono ?_
  rintro e w' ⟨rfl, h4⟩
  refine ⟨_, rfl, h4, ?_⟩
  show Value.bool _ = Value.bool _
  rw [valid_dig]
theorem rfValidG_con (p q : Int) (k : Nat) (hk : k ≤ 10000000) : Con Tryz.prog 58 [.d (Dm.rt p q k)] (.one (.v (.bool (decide (q = 0 ∨ (0 ≤ q ∧ q ≠ 1 ∧ Int.gcd p q = 1)))))) := by
 refine Con.of (n := 34) Tryz.func58 rfl rfl rfl rfl rfl fun cx hfr => ?_
 refine sr rfl ?_
 refine p2 (ok_box (i := 0) rfl rfl bd rfl rfl rfl rfl rfl) ?_
 refine xn ?_
 refine RV.done ?_
 refine CV.seq ?_
 refine sr rfl ?_
 refine p1 (ok_fieldAddr fa_rat0 rfl rfl bd rfl) ?_
 refine p1 (ok_loadf 0 fld_num rfl rfl bd rfl rfl rfl rfl ty_int) ?_
 refine xc (rIValid_con _) Tryz.func107 (xa rfl) hfr ?_
 refine p1 (ok_not rfl rfl bd rfl) ?_
 refine xm ?_
 refine RV.step1 (OpOk.yes (ok_fieldAddr fa_rat1 rfl rfl bd rfl) rfl rfl rfl) ?_
 refine RV.step1 (OpOk.yes (ok_loadf 2 fld_den rfl rfl bd rfl rfl rfl rfl ty_int) rfl rfl rfl) ?_
 refine RV.step1 (OpOk.yes (ok_call (rIValid_con _) rfl rfl bd Tryz.func107 rfl rfl (xa rfl) rfl hfr rfl) rfl rfl rfl) ?_
 refine RV.step1 (OpOk.yes (ok_not rfl rfl bd rfl) rfl rfl rfl) ?_
 refine p1 (ok_pickF rfl rfl bd rfl rfl rfl) ?_
 refine xm ?_
 refine RV.step1 (OpOk.yes (ok_fieldAddr fa_rat1 rfl rfl bd rfl) rfl rfl rfl) ?_
 refine RV.step1 (OpOk.yes (ok_fieldAddr fa_int0 rfl rfl bd rfl) rfl rfl rfl) ?_
 refine RV.step1 (OpOk.yes (ok_loadf 2 fld_nden rfl rfl bd rfl rfl rfl rfl ty_bool) rfl rfl rfl) ?_
 refine p1 (ok_pickF rfl rfl bd rfl rfl rfl) ?_
 refine xm ?_
 refine RV.bool (fun h1 => ?_) (fun h1 => ?_)
 ·refine xk ?_
  refine xk ?_
  refine xk ?_
  refine p1 (ok_pickT rfl rfl bd rfl rfl rfl) ?_
  refine RV.done ?_
  refine CV.yes rfl ?_
  refine sr rfl ?_
  refine xn ?_
  refine RV.done ?_
  refine CV.ret ?_
  have h1' : q < 0 := (by simpa using h1)
  exact fin1 rfl (.inr rfl) rfl (is_bool (by symm; rw [decide_eq_false_iff_not]; omega))
 ·refine RV.step1 (OpOk.yes (ok_fieldAddr fa_rat1 rfl rfl bd rfl) rfl rfl rfl) ?_
  refine RV.step1 (OpOk.yes (ok_loadf 2 fld_den rfl rfl bd rfl rfl rfl rfl ty_int) rfl rfl rfl) ?_
  refine RV.step1 (OpOk.yes (ok_call (rone_con _ _) rfl rfl bd Tryz.func108 rfl rfl (xa rfl) rfl hfr rfl) rfl rfl rfl) ?_
  refine p1 (ok_pickF rfl rfl bd rfl rfl rfl) ?_
  refine RV.done ?_
  refine CV.cond rfl (fun h2 => ?_) (fun h2 => ?_)
  ·refine sr rfl ?_
   refine xn ?_
   refine RV.done ?_
   refine CV.ret ?_
   have h2' : q = 1 := (by simpa using h2)
   exact fin1 rfl (.inr rfl) rfl (is_bool (by symm; rw [decide_eq_false_iff_not]; omega))
  ·refine CV.skip ?_
   refine CV.seq ?_
   refine sr rfl ?_
   refine p1 (ok_fieldAddr fa_rat1 rfl rfl bd rfl) ?_
   refine p1 (ok_fieldAddr fa_int1 rfl rfl bd rfl) ?_
   refine p1 (ok_loadf 3 fld_dden rfl rfl bd rfl rfl rfl rfl ty_ints) ?_
   refine p1 (ok_len rfl rfl bd rfl) ?_
   refine p1 (ok_eql rfl rfl bd rfl rfl) ?_
   refine RV.done ?_
   refine CV.cond rfl (fun h3 => ?_) (fun h3 => ?_)
   ·refine sr rfl ?_
    refine xn ?_
    refine RV.done ?_
    refine CV.ret ?_
    have h3' : q = 0 := (by rw [dig_len_zero] at h3; simpa using h3)
    exact fin1 rfl (.inr rfl) rfl (is_bool (by symm; rw [decide_eq_true_eq]; exact .inl h3'))
   ·refine CV.skip ?_
    refine sr rfl ?_
    refine p1 (ok_fieldAddr fa_rat0 rfl rfl bd rfl) ?_
    refine p1 (ok_loadf 0 fld_num rfl rfl bd rfl rfl rfl rfl ty_int) ?_
    refine p1 (ok_fieldAddr fa_rat1 rfl rfl bd rfl) ?_
    refine p1 (ok_loadf 2 fld_den rfl rfl bd rfl rfl rfl rfl ty_int) ?_
    refine xd rfl (rGcd_con _ _ (by omega) (by omega)) Tryz.func109 (xb rfl rfl) hfr ?_
    refine xc (rone_con _ _) Tryz.func108 (xa rfl) hfr ?_
    refine xn ?_
    refine RV.done ?_
    refine CV.ret ?_
    have h1' : ¬ q < 0 := (by simpa using h1)
    have h2' : ¬ q = 1 := (by simpa using h2)
    have h3' : ¬ q = 0 := (by rw [dig_len_zero] at h3; simpa using h3)
    exact fin1 rfl (.inr rfl) rfl (is_bool (by rw [Bool.eq_iff_iff, decide_eq_true_eq, decide_eq_true_eq]; omega))
/-! Take. -/
section
variable (p q : Int) (l m z : List Int) (b : Bool) (hp1 : -9223372036854775808 ≤ p) (hp2 : p ≤ 9223372036854775807) (hq1 : -9223372036854775808 ≤ q) (hq2 : q ≤ 9223372036854775807)
include hp1 hp2 hq1 hq2
end
end Vc
end Go.Proofs.YtcblbepaigdlgaaGreat

namespace Go.Proofs.YtcblbepaigdlgaaGreat
open Dg Zn
namespace Vc
structure Simp (a b c d q p : Int) : Prop where
 hq : 0 < q
 hp : 0 < p
 lo : a * p ≤ q * b
 hi : q * d ≤ c * p
 min : ∀ u v : Int, 0 < v → a * v ≤ u * b → u * d ≤ c * v → q ≤ u ∧ p ≤ v
end Vc
end Go.Proofs.YtcblbepaigdlgaaGreat

namespace Go.Proofs.YtcblbepaigdlgaaGreat
open Go.RowKit
open Go.Lib (hid)
open Dg Zn Tx
namespace Vc
set_option linter.unusedSectionVars false
section
variable {cx : Cx Dm} {n : Nat} {σ : St Dm} {o : Oper} {d : Nat} {x : Operand}
end
/-! Plain. -/
/-! The reference's least. -/
section
variable (x y : Rat) (K : Nat) (hK : K ≤ 1000) (c : Int)
include hK
end
end Vc
end Go.Proofs.YtcblbepaigdlgaaGreat
