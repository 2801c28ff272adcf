/-
  Texts and bytes: the operations on them.
  Rows of numbers as data; functions that return a new row; Encode of package integer and of the references; equal bytes.
  Signatures: what they call, as contracts of states.
  Variables that hold a number and are captured: they are rows of one element, then data.
  Signatures: digests in variables of one's own, and slices of them.
  Signatures: join, Digest, start of package sign.
  Signatures: the reference's ints, Text, node, Digest, advance.
  Signatures: leaf of package sign, for any function that yields the chains' ends.
-/
import Derived.Test.YthadfilandmhiaaDoorSR35
import Derived.Test.YthadfilandmhiaaDoorSR34
import Derived.Lib.ConvBytes
import Derived.Laws.IdiomStrings
import Derived.Test.YthadfilandmhiaaDoorSR27
import Derived.Test.YthadfilandmhiaaDoorSR9
set_option linter.unusedVariables false
set_option linter.unusedSimpArgs false
set_option linter.unusedSectionVars false
namespace Go.Proofs.YthadfilandmhiaaDoor
open Go.RowKit
open Go.Lib (hid)
open Dg Zn
namespace Vc
def str (l : List UInt8) : Value := .string ⟨l.toArray⟩
def byV (l : List UInt8) : List (SA Dm) := l.map fun b => .v (.int .u8 (b.toNat : Int))
/-- A slice of these bytes. -/
abbrev BY (l : List UInt8) : SA Dm := .d (Dm.gen (lstG none (byV l)))
theorem byV_length (l : List UInt8) : (byV l).length = l.length := by simp [byV]
theorem byV_ptrs (l : List UInt8) : (byV l).flatMap SA.ptrs = [] := by
  rw [List.flatMap_eq_nil_iff]
  intro s hs
  obtain ⟨b, _, rfl⟩ := List.mem_map.1 hs
  rfl
theorem byV_vals (l : List UInt8) : ∀ s ∈ byV l, isV s = true := by
  intro s hs
  obtain ⟨b, _, rfl⟩ := List.mem_map.1 hs
  rfl
theorem byV_plain (l : List UInt8) : ∀ s ∈ byV l, s.plain = true := by
  intro s hs
  obtain ⟨b, _, rfl⟩ := List.mem_map.1 hs
  rfl
theorem byV_append (l m : List UInt8) : byV (l ++ m) = byV l ++ byV m := by simp [byV]
def byC (l : List UInt8) : List Value := l.map fun b => .int .u8 (b.toNat : Int)
theorem byV_ats {w : World} : ∀ {l : List UInt8}, Ats w none (byV l) (byC l)
  | [] => rfl
  | b :: l => ⟨[_], byC l, _, rfl, ⟨rfl, rfl⟩, rfl, byV_ats⟩
theorem byV_ats' {w : World} : ∀ {l : List UInt8} {cs : List Value}, Ats w none (byV l) cs → cs = byC l
  | [], _, h => h
  | b :: l, _, ⟨p, r, v, h1, h2, h3, h4⟩ => by
    have e1 : p = [v] := h2.1
    have e2 : v = .int .u8 (b.toNat : Int) := h3
    rw [h1, e1, e2, byV_ats' h4]
    rfl
section
variable {P : Program} {cx : Cx Dm} {n : Nat} {σ : St Dm} {o : Oper} {d t : Nat} {x y j : Operand} {T T' : TypeId}

/-! Texts. -/
theorem str_app (u v : List UInt8) : (ByteArray.mk u.toArray) ++ ⟨v.toArray⟩ = ⟨(u ++ v).toArray⟩ := by
  apply ByteArray.ext
  simp
theorem str_sz (u : List UInt8) : (ByteArray.mk u.toArray).size = u.length := by simp [ByteArray.size]
theorem ok_catT {u v : List UInt8} (hs : u.length + v.length ≤ 9223372036854775807) (ho : o.op = .binOp .add T x y T') (hd : o.dst = some d) (hn : d < n) (hx : opd σ x = .av (.one (.v (str u)))) (hy : opd σ y = .av (.one (.v (str v)))) : OpOk P cx n σ o (opk x ++ opk y) [(.s d, .av (.one (.v (str (u ++ v)))))] :=
  ok_bin ho hd hn hx hy fun w => by
    have h : ¬ ((((ByteArray.mk u.toArray).size + (ByteArray.mk v.toArray).size : Nat) : Int) > IntKind.i64.max) := by rw [show IntKind.i64.max = 9223372036854775807 from rfl, str_sz, str_sz]; omega
    simp only [str, eqGuard, binOp, Op.stringOp, if_neg h, Sem.run_bind, Sem.run_pure, str_app]
    rfl
theorem ok_lenT {u : List UInt8} {m : Nat} (hm : u.length = m) (hu : P.underlying T = some .string) (ho : o.op = .call ⟨.builtin .len, #[x], #[T]⟩) (hd : o.dst = some d) (hn : d < n) (hx : opd σ x = .av (.one (.v (str u)))) : OpOk P cx n σ o (opk x) [(.s d, .av (.one (.v (.int .i64 (m : Int)))))] := by
  subst hm
  refine ok_read hd hn rfl fun σ' ρ a w h hk => ⟨_, ?_, rfl⟩
  have e1 : a.eval x = str u := h.opd ((opd_same fun q hq => hk q (by simp [hq])).trans hx)
  have e2 : #[x].map a.eval = #[str u] := by simp [e1]
  simp [execOp, ho, resolve, invoke, e1, builtin, Builtin.len_, run_underlying hu, goInt, str, str_sz]
/-- A part of a text. -/
theorem ok_cutT {u v : List UInt8} {lo hi : Option Operand} (lo' hi' : Option Nat) (hv : (u.take (hi'.getD u.length)).drop (lo'.getD 0) = v) (h1 : lo'.getD 0 ≤ hi'.getD u.length) (h2 : hi'.getD u.length ≤ u.length) (hu : P.underlying T = some .string) (ho : o.op = .slice T x lo hi none) (hd : o.dst = some d) (hn : d < n)
    (hx : opd σ x = .av (.one (.v (str u)))) (hlo : bndIs σ lo lo') (hhi : bndIs σ hi hi') : OpOk P cx n σ o (opk x ++ (bndK lo ++ bndK hi)) [(.s d, .av (.one (.v (str v))))] := by
  subst hv
  refine ok_read hd hn rfl fun σ' ρ a w h hk => ⟨_, ?_, rfl⟩
  have e1 : a.eval x = str u := h.opd ((opd_same fun q hq => hk q (by simp [hq])).trans hx)
  have f1 := bnd_eval h hlo fun q hq => hk q (by simp [hq])
  have f2 := bnd_eval h hhi fun q hq => hk q (by simp [hq])
  have key : ∀ (n y : Nat) c, n ≤ y → (Instr.sliceBound (.int .i64 (n : Int)) y c).run P w = .ok n w := by
    intro n y c hny
    have : ((n : Nat) : Int) ≤ (y : Int) := by omega
    simp [Instr.sliceBound, asIntOf, this]
  have hb : (Instr.sliceBounds false u.length u.length (optI lo') (optI hi') none).run P w = .ok (lo'.getD 0, hi'.getD u.length, u.length) w := by
    cases lo' with
    | none =>
      cases hi' with
      | none => simp [Instr.sliceBounds, optI]
      | some hi => simp only [Option.getD_some, Option.getD_none] at h1 h2; simp [Instr.sliceBounds, optI, key _ _ _ h2]
    | some lo =>
      cases hi' with
      | none => simp only [Option.getD_some, Option.getD_none] at h1 h2; simp [Instr.sliceBounds, optI, key _ _ _ h1]
      | some hi => simp only [Option.getD_some, Option.getD_none] at h1 h2; simp [Instr.sliceBounds, optI, key _ _ _ h2, key _ _ _ h1]
  have hx2 : (ByteArray.mk u.toArray).extract (lo'.getD 0) (hi'.getD u.length) = ⟨((u.take (hi'.getD u.length)).drop (lo'.getD 0)).toArray⟩ := by
    apply ByteArray.ext
    simp [ByteArray.data_extract, List.extract_eq_take_drop, List.drop_take]
  have hsl : (Instr.sliceAt T (str u) (optI lo') (optI hi') none).run P w = .ok (str ((u.take (hi'.getD u.length)).drop (lo'.getD 0))) w := by
    have e0 : (Instr.sliceAt T (str u) (optI lo') (optI hi') none).run P w = (Instr.slice T (str u) (optI lo') (optI hi') none).run P w := by simp [Instr.sliceAt, run_underlying hu]
    rw [e0]
    simp only [Instr.slice, str, Sem.run_bind, run_underlying hu, Result.andThen_ok, str_sz, Option.isSome_none, Bool.false_eq_true, if_false, hb, Sem.run_pure, hx2]
  simp only [execOp, ho, e1, f1, f2, Option.map_none, Sem.run_bind, hsl, Result.andThen_ok, Sem.run_pure]
/-- A text's bytes. -/
theorem ok_s2b {u : List UInt8} {src dst e : TypeId} {ud : TypeDesc} (hlen : u.length ≤ 1099511627776) (hs : P.underlying src = some ud) (hd' : P.underlying dst = some (.slice e)) (he : P.underlying e = some (.int .u8)) (ho : o.op = .convert src dst x) (hd : o.dst = some d) (hn : d < n) (hx : opd σ x = .av (.one (.v (str u)))) :
    OpOk P cx n σ o (opk x) [(.s d, .av (.one (BY u)))] := by
  intro σ' a w Q ⟨ρ, h⟩ h1 _ K hK
  have e1 : a.eval x = str u := h.opd ((opd_same h1).trans hx)
  have hrun := Lib.run_convert_string_bytes (P := P) w src dst e ⟨u.toArray⟩ hs hd' he
  unfold Oper.wp
  simp only [execOp, ho, e1, Sem.run_bind]
  rw [show str u = .string ⟨u.toArray⟩ from rfl, hrun]
  simp only [Result.andThen_ok, Sem.run_pure, Oper.upon_value]
  rw [hd, str_sz]
  have hb : Below w.heap.size w (Lib.bytesWorld w e ⟨u.toArray⟩) := ⟨rfl, rfl, rfl, by rw [Lib.bytesWorld_size]; omega, fun k hk => Lib.bytesWorld_at_old w e _ k hk⟩
  refine hK _ _ ⟨ρ, h.put hb hn ?_ (by intro b hb; cases hb)⟩
  intro w' hag
  have hl : w.heap.size < (Lib.bytesWorld w e ⟨u.toArray⟩).heap.size := by rw [Lib.bytesWorld_size]; omega
  have hg := (hag.2 w.heap.size hl (fun hL => by have := h.lofLt _ hL; omega)).trans (Lib.bytesWorld_at_new w e ⟨u.toArray⟩)
  have hge := grownCap_ge w u.length 0 e
  have hle := grownCap_le_maxLen w u.length 0 e (by unfold maxLen; omega)
  refine lstG_Lst none (byV u) w' w.heap.size 0 (grownCap w u.length 0 e) (byC u) (by rw [byV_length]; exact hge) hle byV_ats (fun j c hj => ?_) |> fun q => by rw [byV_length] at q; exact q
  rw [Nat.zero_add, cell_of_row w' _ _ _ e _ hg]
  have hj' := (List.getElem?_eq_some_iff.1 hj).1
  have hju : j < u.length := by simpa [byC] using hj'
  simp [Lib.bytesCells, Array.getElem?_append, hju]
  simpa [byC, List.getElem?_eq_getElem hju] using hj
/-- The text of these bytes. -/
theorem ok_b2s {u : List UInt8} {src dst e : TypeId} (hs : P.underlying src = some (.slice e)) (he : P.underlying e = some (.int .u8)) (hd' : P.underlying dst = some .string) (ho : o.op = .convert src dst (.tmp t)) (hd : o.dst = some d) (hn : d < n) (ht : σ (.s t) = .av (.one (BY u))) :
    OpOk P cx n σ o [.s t] [(.s d, .av (.one (.v (str u))))] := by
  refine ok_read hd hn rfl fun σ' ρ a w h hk => ⟨_, ?_, rfl⟩
  obtain ⟨ao, c, hv, hle, hc⟩ := (h.slt t _ ((hk (.s t) (by simp)).trans ht)) w (Agree.refl _ _)
  rw [byV_length] at hv hc
  have e1 : a.eval (.tmp t) = .slice ao u.length c := hv
  have hr : (convert src dst (.slice ao u.length c)).run P w = .ok (str u) w := by
    by_cases hu : u.length = 0
    · obtain rfl := List.eq_nil_of_length_eq_zero hu
      rw [run_convert_bytes_string w src dst e ao ([] : List UInt8).length c hs he hd']
      cases ao with
      | none => rfl
      | some ad =>
        rw [run_bytesToString w ad ([] : List UInt8).length c [] rfl]
        rfl
    · obtain ⟨b, off, rfl, cs, h1, h2⟩ := hc (by omega)
      obtain rfl := byV_ats' h1
      exact run_convert_bytes_back w src dst e ⟨b, off, none⟩ c u hs he hd' fun j hj => by rw [Addr.add_lit]; exact h2 j _ (by simp [byC, List.getElem?_eq_getElem hj])
  simp only [execOp, ho, e1, Sem.run_bind, hr, Result.andThen_ok, Sem.run_pure]
/-- .. of a row of one's own. -/
theorem ok_b2sR {u : List UInt8} {src dst e e' : TypeId} {r m : Nat} (hm : m = u.length) (hs : P.underlying src = some (.slice e)) (he : P.underlying e = some (.int .u8)) (hd' : P.underlying dst = some .string) (ho : o.op = .convert src dst (.tmp t)) (hd : o.dst = some d) (hn : d < n) (ht : σ (.s t) = .av (.one (.sl r m))) (hr : σ (.b r) = .row e' none (byV u)) :
    OpOk P cx n σ o [.s t, .b r] [(.s d, .av (.one (.v (str u))))] := by
  subst hm
  refine ok_read hd hn rfl fun σ' ρ a w h hk => ⟨_, ?_, rfl⟩
  obtain ⟨a0, e1, e2⟩ := h.slt t _ ((hk (.s t) (by simp)).trans ht)
  have e1 : a.eval (.tmp t) = .slice a0 u.length (ρ r).2 := e1
  obtain ⟨⟨h1, h2⟩, h3⟩ := h.row r _ _ _ ((hk (.b r) (by simp)).trans hr)
  rw [byV_length] at h1
  have hrr : (convert src dst (.slice a0 u.length (ρ r).2)).run P w = .ok (str u) w := by
    by_cases hu : u.length = 0
    · obtain rfl := List.eq_nil_of_length_eq_zero hu
      rw [run_convert_bytes_string w src dst e a0 ([] : List UInt8).length _ hs he hd']
      cases a0 with
      | none => rfl
      | some ad =>
        rw [run_bytesToString w ad ([] : List UInt8).length _ [] rfl]
        rfl
    · have hc0 : 0 < (ρ r).2 := by omega
      rw [e2 hc0]
      obtain ⟨cs, sp, q1, q2, _⟩ := h3 hc0
      obtain rfl := byV_ats' (q2.ats (byV_ptrs u) (Agree.refl _ _))
      exact run_convert_bytes_back w src dst e _ _ u hs he hd' fun j hj => by
        rw [Addr.add_lit, Nat.zero_add, q1.cell, List.getElem?_append_left (by simpa [byC] using hj)]
        simp [byC, List.getElem?_eq_getElem hj]
  simp only [execOp, ho, e1, Sem.run_bind, hrr, Result.andThen_ok, Sem.run_pure]
/-- A number of another kind. -/
theorem ok_cvi {src dst : TypeId} {k1 k2 : IntKind} {z z' : Int} (hz : k2.wrap z = z') (hs : P.underlying src = some (.int k1)) (hd' : P.underlying dst = some (.int k2)) (ho : o.op = .convert src dst x) (hd : o.dst = some d) (hn : d < n) (hx : opd σ x = .av (.one (.v (.int k1 z)))) :
    OpOk P cx n σ o (opk x) [(.s d, .av (.one (.v (.int k2 z'))))] := by
  refine ok_read hd hn rfl fun σ' ρ a w h hk => ⟨_, ?_, rfl⟩
  have e1 : a.eval x = .int k1 z := h.opd ((opd_same fun q hq => hk q (by simp [hq])).trans hx)
  simp [execOp, ho, e1, convert, run_underlying hs, run_underlying hd', Conv.intToInt, hz]
end

/-! Types of this program. -/
theorem u_str : Tryd.prog.underlying 9 = some .string := by kernel_rfl
theorem u_bytes : Tryd.prog.underlying 51 = some (.slice 5) := by kernel_rfl
theorem u_u8 : Tryd.prog.underlying 5 = some (.int .u8) := by kernel_rfl
theorem u_i64 : Tryd.prog.underlying 3 = some (.int .i64) := by kernel_rfl
theorem u_ints : Tryd.prog.underlying 25 = some (.slice 3) := by kernel_rfl
theorem inf_u8 : (Tryd.prog.info? 5).map (fun i => (i.zero, i.size, i.bytes)) = some (some (.int .u8 0), 1, 1) := by kernel_rfl
theorem inf_i64 : (Tryd.prog.info? 3).map (fun i => (i.zero, i.size, i.bytes)) = some (some (.int .i64 0), 1, 8) := by kernel_rfl
theorem zs_i64 : (Tryd.prog.info? 3).map (fun i => (i.size, i.zero)) = some (1, some (.int .i64 0)) := by kernel_rfl
theorem sz_u8 : (Tryd.prog.info? 5).map (·.size) = some 1 := by kernel_rfl
theorem sz_i64 : (Tryd.prog.info? 3).map (·.size) = some 1 := by kernel_rfl
theorem ty_u8 : TyIs Tryd.prog 5 none := TyIs.one (by kernel_rfl) (by kernel_rfl)
theorem ty_bytes : TyIs Tryd.prog 51 none := TyIs.one (by kernel_rfl) (by kernel_rfl)
theorem ty_str : TyIs Tryd.prog 9 none := TyIs.one (by kernel_rfl) (by kernel_rfl)
set_option linter.unusedSectionVars false

/-! Rows of numbers. -/
def ziV (k : IntKind) (zs : List Int) : List (SA Dm) := zs.map fun z => .v (.int k z)
/-- A slice of these numbers. -/
abbrev ZI (k : IntKind) (zs : List Int) : SA Dm := .d (Dm.gen (lstG none (ziV k zs)))
theorem ziV_length {k : IntKind} (l : List Int) : (ziV k l).length = l.length := by simp [ziV]
theorem ziV_ptrs {k : IntKind} (l : List Int) : (ziV k l).flatMap SA.ptrs = [] := by
  rw [List.flatMap_eq_nil_iff]
  intro s hs
  obtain ⟨b, _, rfl⟩ := List.mem_map.1 hs
  rfl
theorem byV_ziV (l : List UInt8) : byV l = ziV .u8 (l.map fun b => (b.toNat : Int)) := by simp [byV, ziV]
theorem ziV_ats {k : IntKind} {w : World} : ∀ {l : List Int}, Ats w none (ziV k l) (l.map (Value.int k))
  | [] => rfl
  | b :: l => ⟨[_], l.map (Value.int k), _, rfl, ⟨rfl, rfl⟩, rfl, ziV_ats⟩
theorem ziV_ats' {k : IntKind} {w : World} : ∀ {l : List Int} {cs : List Value}, Ats w none (ziV k l) cs → cs = l.map (Value.int k)
  | [], _, h => h
  | b :: l, _, ⟨p, r, v, h1, h2, h3, h4⟩ => by
    have e1 : p = [v] := h2.1
    have e2 : v = .int k b := h3
    rw [h1, e1, e2, ziV_ats' h4]
    rfl
theorem ziV_chs {k : IntKind} {L : Nat → Prop} {ρ : Rho} {w : World} {l : List Int} : Chs L ρ w (rch none (ziV k l)) (l.map (Value.int k)) := Ats.chs fun _ _ => ziV_ats
theorem zi_row {k : IntKind} {L : Nat → Prop} {ρ : Rho} {w : World} {v : Value} {zs : List Int} (h : (ZI k zs).is L ρ w v) : Row k w v zs := by
  obtain ⟨ao, cap, rfl, hc, h1⟩ := lst_open (by decide) h
  rw [ziV_length] at hc h1 ⊢
  refine ⟨ao, cap, rfl, hc.1, hc.2, fun hl => ?_⟩
  obtain ⟨b, off, e, _, cs, h2, h3⟩ := h1 hl
  obtain rfl := ziV_ats' (h2 w (Agree.refl _ _))
  exact ⟨b, off, e, fun i hi => h3 i _ (by rw [List.getElem?_map, List.getElem?_eq_getElem hi, List.getD_eq_getElem?_getD, List.getElem?_eq_getElem hi]; rfl)⟩
/-! Functions that return a new row. -/
section
variable {D : Type} [Dom D] {P : Program} {cx : Cx D} {n : Nat} {σ : St D} {o : Oper}
def FinRow (fn : Func) (T : TypeId) (k : Option Nat) (l : List (SA D)) (e : Exit) (st : Sg D) : Prop :=
  (e = .normal ∨ e = .ret) ∧ ∃ t r, fn.results = #[.tmp t] ∧ lookD .no st (.s t) = .av (.one (.sl r l.length)) ∧ lookD .no st (.b r) = .row T k l
theorem ConRow.of {f : FuncId} {fn : Func} {c : Code} {args : List (SA D)} {T : TypeId} {k : Option Nat} {l : List (SA D)} (hf : P.funcs[f]? = some fn) (hb : fn.body = some c) (hnt : fn.ntmps = n) (hcl : ptrsAll args = []) (hn : Nat.ble args.length n = true) (hval : ∀ s ∈ l, isV s = true)
    (h : ∀ cx : Cx0 D, (∀ b, ¬ cx.Bw b) → CV P cx n c (initSt 0 args) (FinRow fn T k l)) : ConRow P f args T k l := by
  subst hnt
  intro L ρ w vs hlt hall
  refine calls_of_wp hf hb (wp_mono ((h ⟨w, L, hlt, true, fun _ => False, fun _ q => q.elim, fun _ _ q => q, (fun q => nomatch q), (fun q => nomatch q)⟩ (fun _ q => q)).run _ w (Con.start hcl (Nat.le_of_ble_eq_true hn) hall rfl rfl)) ?_)
  rintro e a' w' ⟨l', ⟨ρ', hC'⟩, he, t, r, hres, ht, hr⟩
  obtain ⟨a0, hv, ha⟩ := hC'.slt t _ ht
  obtain ⟨⟨q1, q2, _⟩, q4⟩ := hC'.row r T k l hr
  have hfin : ∃ v, (results fn a'.tmps).run P w' = .ok v w' ∧ (Below w.heap.size w w' ∧ ∃ a c, Ending.returned v = .returned (.slice a l.length c) ∧ (l.length ≤ c ∧ c ≤ maxLen) ∧ (0 < c → ∃ g, a = some ⟨g, 0, none⟩ ∧ w.heap.size ≤ g ∧ ∃ cs sp : List Value, RowC w' g (cs ++ sp) T ∧ Chs L ρ w' (rch k l) cs ∧ (cs ++ sp).length = c * k.getD 1)) := by
    refine ⟨a'.tmps.getD t undef, ?_, hC'.kept.below (fun _ q => q), a0, (ρ' r).2, by rw [hv], ⟨q1, q2⟩, fun hc => ?_⟩
    · simp [results, hres]
    · obtain ⟨cs, sp, h1, h2, h3, _⟩ := q4 hc
      refine ⟨_, ha hc, ?_, cs, sp, h1, h2.vals hval, h3⟩
      rcases hC'.mine r ((live_row hr).2 hc) with h | h
      · exact h
      · exact h.elim
  rcases he with rfl | rfl
  · exact ⟨hC'.defers, hfin⟩
  · exact ⟨hC'.defers, hfin⟩
end

theorem conRow_fresh {f : FuncId} {args : List (SA Dm)} {bs : List Int} (h : ∀ L ρ w vs, isAll L ρ w args vs → Calls Tryd.prog f vs.toArray w (Fresh w bs)) : ConRow Tryd.prog f args 5 none (ziV .u8 bs) := by
  intro L ρ w vs _ hall
  refine (h L ρ w vs hall).mono ?_
  rintro e w' ⟨v, rfl, ⟨_, ho⟩, h2⟩
  refine ⟨h2, ?_⟩
  rcases ho with ⟨rfl, h0⟩ | ⟨g, cap, cur, rfl, hg, hc, h4, h5, h6, h7⟩
  · have e : bs = [] := List.eq_nil_of_length_eq_zero h0
    subst e
    exact ⟨none, 0, rfl, ⟨Nat.le_refl _, by decide⟩, fun q => absurd q (by decide)⟩
  · refine ⟨some ⟨g, 0, none⟩, cap, by rw [ziV_length], ⟨by rw [ziV_length]; exact h4, h5⟩, fun _ => ⟨g, rfl, hg, bs.map (Value.int .u8), cur.toList.drop (bs.length * 1), ?_, ziV_chs, ?_⟩⟩
    · rw [← h7, List.take_append_drop]
      exact RowC.mk0 (by simpa using hc)
    · rw [← h7, List.take_append_drop]
      simpa using h6
theorem wireInts_con (zs : List Int) (hz : ∀ z ∈ zs, -9223372036854775808 ≤ z ∧ z ≤ 9223372036854775807) (hl : zs.length ≤ 1099511627776) : ConRow Tryd.prog 48 [ZI .i64 zs] 5 none (ziV .u8 (W.encInts zs)) :=
  conRow_fresh fun L ρ w vs hall => by
    match vs, hall with
    | [v], ⟨h1, _⟩ => exact Ints_any v zs w (zi_row h1).view hz hl
end Vc
end Go.Proofs.YthadfilandmhiaaDoor

namespace Go.Proofs.YthadfilandmhiaaDoor
open Go.RowKit
open Go.Lib (hid)
open Dg Zn S
namespace Vc
/-- Bytes, as they stand in texts. -/
def by8 (l : List Nat) : List UInt8 := l.map UInt8.ofNat
theorem by8_length (l : List Nat) : (by8 l).length = l.length := by simp [by8]
theorem str_by8 {l : List Nat} (h : Bn l) : str (by8 l) = .string (strN l) := by
  have e : tx ⟨(by8 l).toArray⟩ = l := by
    simp only [tx, by8, List.map_map]
    conv => rhs; rw [← List.map_id l]
    apply List.map_congr_left
    intro x hx
    have := h x hx
    simp [UInt8.toNat_ofNat']
    omega
  rw [str, ← strN_tx ⟨(by8 l).toArray⟩, e]
theorem tx_by8 {l : List Nat} (h : Bn l) : tx ⟨(by8 l).toArray⟩ = l := by
  have := str_by8 h
  rw [str] at this
  injection this with this
  rw [this, tx_strN l h]
theorem size_by8 (l : List Nat) : (ByteArray.mk (by8 l).toArray).size = l.length := by
  simp [ByteArray.size, by8]
theorem by8_append (a b : List Nat) : by8 (a ++ b) = by8 a ++ by8 b := by simp [by8]

theorem cell_below {w : World} {b o : Nat} {v : Value} (h : w.cell? ⟨b, o, none⟩ = some v) : b < w.heap.size := by
  rcases Nat.lt_or_ge b w.heap.size with hb | hb
  · exact hb
  · exfalso
    simp only [World.cell?] at h
    rw [Array.getElem?_eq_none (by omega)] at h
    cases h
/-- A list of texts. -/
def txV (ls : List (List Nat)) : List (SA Dm) := ls.map fun l => .v (str (by8 l))
abbrev TX (ls : List (List Nat)) : SA Dm := .d (Dm.gen (lstG none (txV ls)))
theorem txV_length (ls : List (List Nat)) : (txV ls).length = ls.length := by simp [txV]
def strs (ls : List (List Nat)) : List ByteArray := ls.map fun l => ⟨(by8 l).toArray⟩
theorem strs_length (ls : List (List Nat)) : (strs ls).length = ls.length := by simp [strs]
theorem strs_tx {ls : List (List Nat)} (h : ∀ l ∈ ls, Bn l) : (strs ls).map tx = ls := by
  rw [strs, List.map_map]
  conv => rhs; rw [← List.map_id ls]
  exact List.map_congr_left fun l hl => tx_by8 (h l hl)
theorem txV_ats' {w : World} : ∀ {ls : List (List Nat)} {cs : List Value}, Ats w none (txV ls) cs → cs = (strs ls).map Value.string
  | [], _, h => h
  | b :: l, _, ⟨p, r, v, h1, h2, h3, h4⟩ => by
    have e1 : p = [v] := h2.1
    have e2 : v = str (by8 b) := h3
    rw [h1, e1, e2, txV_ats' h4]
    rfl
theorem tx_parts {L : Nat → Prop} {ρ : Rho} {w : World} {v : Value} {ls : List (List Nat)} (h : (TX ls).is L ρ w v) : ∃ ao cap, v = .slice ao (strs ls).length cap ∧ Parts w ao (strs ls) := by
  obtain ⟨ao, cap, rfl, hc, h1⟩ := lst_open (by decide) h
  rw [txV_length] at hc h1 ⊢
  refine ⟨ao, cap, by rw [strs_length], fun hl => ?_⟩
  rw [strs_length] at hl
  obtain ⟨b, off, e, hb, cs, h2, h3⟩ := h1 hl
  obtain rfl := txV_ats' (h2 w (Agree.refl _ _))
  refine ⟨b, off, e, ?_, fun i s hs => h3 i _ (by rw [List.getElem?_map, hs]; rfl)⟩
  have h0 := h3 0 (.string ((strs ls)[0]'(by rw [strs_length]; exact hl))) (by rw [List.getElem?_map, List.getElem?_eq_getElem (by rw [strs_length]; exact hl)]; rfl)
  exact cell_below h0

/-- A digest's value. -/
def dgV (l : List Nat) : Value := .agg (bytesV l)
theorem Of_con (tag : Nat) (ht : tag < 256) (ls : List (List Nat)) (hb : ∀ l ∈ ls, Bn l) (hn : ls.length ≤ 12) (hs : ∀ l ∈ ls, l.length ≤ 2000) : Con Tryd.prog 34 [.v (.int .i64 (tag : Int)), TX ls] (.one (.v (dgV (Sg.ofL tag ls)))) := by
  rintro L ρ w vs hlt hni hwf hall
  match vs, hall with
  | [v0, v1], ⟨h0, h1, _⟩ =>
    obtain rfl : v0 = _ := h0
    obtain ⟨ao, cap, rfl, hp⟩ := tx_parts h1
    refine (Of_any (tag : Int) ao cap (strs ls) w hp (by rw [strs_length]; omega) (fun s hs' => ?_) hwf).mono ?_
    · obtain ⟨l, hl, rfl⟩ := List.mem_map.1 hs'
      rw [size_by8]
      exact hs l hl
    · rintro e w' ⟨rfl, hbel⟩
      exact ⟨_, rfl, hbel, by rw [Sg.ofN_ofL tag ht, strs_tx hb]; rfl⟩
theorem Mac_con (key text : List Nat) (hk : Bn key) (ht : Bn text) (lk : key.length ≤ 1000000) (lt : text.length ≤ 900000) : Con Tryd.prog 49 [(.v (str (by8 key)) : SA Dm), .v (str (by8 text))] (.one (.v (str (by8 (macN key text))))) := by
  rintro L ρ w vs hlt hni hwf hall
  match vs, hall with
  | [v0, v1], ⟨h0, h1, _⟩ =>
    obtain rfl : v0 = _ := h0
    obtain rfl : v1 = _ := h1
    refine (Mac_any ⟨(by8 key).toArray⟩ ⟨(by8 text).toArray⟩ w (by rw [size_by8]; omega) (by rw [size_by8]; omega) hwf).mono ?_
    rintro e w' ⟨rfl, hbel⟩
    rw [tx_by8 hk, tx_by8 ht]
    exact ⟨_, rfl, hbel, (str_by8 (sha_bn _)).symm⟩
/-- The encodings' bytes. -/
theorem enc_by8 {l : List Int} (h : W.Bs l) : ziV .u8 l = byV (by8 (l.map Int.toNat)) := by
  rw [byV_ziV, by8, List.map_map, List.map_map]
  congr 1
  conv => lhs; rw [← List.map_id l]
  apply List.map_congr_left
  intro x hx
  have := h x hx
  simp [Function.comp, UInt8.toNat_ofNat']
  omega
theorem wireInt_con (n : Int) (h1 : n ≤ 9223372036854775807) (h2 : -9223372036854775808 ≤ n) : ConRow Tryd.prog 26 [(.v (.int .i64 n) : SA Dm)] 5 none (ziV .u8 (W.code n)) :=
  conRow_fresh fun L ρ w vs hall => by
    match vs, hall with
    | [v], ⟨h0, _⟩ =>
      obtain rfl : v = _ := h0
      exact Int_fresh n w h1 h2
end Vc
end Go.Proofs.YthadfilandmhiaaDoor

namespace Go.Proofs.YthadfilandmhiaaDoor
open Go.RowKit
open Dg Zn
namespace Vc
section
variable {D : Type} [Dom D] {P : Program} {cx : Cx D} {n : Nat} {σ : St D} {o : Oper}
end
section
variable {P : Program} {cx : Cx Dm} {n : Nat}
end
end Vc
end Go.Proofs.YthadfilandmhiaaDoor

namespace Go.Proofs.YthadfilandmhiaaDoor
open Go.RowKit
open Go.Lib (hid)
open Dg Zn S
namespace Vc
/-- A digest. -/
def dgG (u : List UInt8) : Gen where
  is := fun _ v => u.length = 16 ∧ v = .agg (byC u).toArray
  shape := some 16
  plain := true
  ok := fun w v ⟨h, e⟩ => by
    subst e
    refine ⟨byC u, rfl, by simp [byC, h], fun c hc => ?_⟩
    obtain ⟨b, _, rfl⟩ := List.mem_map.1 hc
    rfl
  pl := fun _ w v ⟨h, e⟩ c hc => by
    subst e
    simp only [Value.cells] at hc
    obtain ⟨b, _, rfl⟩ := List.mem_map.1 hc
    rfl
abbrev DG (u : List UInt8) : SA Dm := .d (Dm.gen (dgG u))
theorem byC_bytesV {l : List Nat} (h : Bn l) : (byC (by8 l)).toArray = bytesV l := by
  rw [byC, by8, List.map_map, bytesV]
  congr 1
  apply List.map_congr_left
  intro x hx
  have := h x hx
  simp [Function.comp, UInt8.toNat_ofNat']
  omega
theorem is_dg {l : List Nat} (h : Bn l) (hl : l.length = 16) : ∀ L ρ w v, (SA.v (dgV l) : SA Dm).is L ρ w v → (DG (by8 l)).is L ρ w v := by
  rintro L ρ w v rfl w' _
  exact ⟨by rw [by8_length, hl], by rw [dgV, byC_bytesV h]⟩
theorem dg_open {u : List UInt8} {L : Nat → Prop} {ρ : Rho} {w : World} {v : Value} (h : (DG u).is L ρ w v) : u.length = 16 ∧ v = .agg (byC u).toArray := h w (Agree.refl _ _)

section
variable {P : Program} {cx : Cx Dm} {n : Nat} {σ : St Dm} {o : Oper} {d t : Nat}
theorem run_cutA (w : World) {ty e : TypeId} {m q : Nat} (hu : P.underlying ty = some (.array m e)) (hq : (P.info? e).map (·.size) = some q) (g off : Nat) : (Instr.sliceAt ty (.pointer (some ⟨g, off, none⟩)) none none none).run P w = .ok (.slice (some ⟨g, off, none⟩) m m) w := by
  simp [Instr.sliceAt, Instr.sureAddr, run_underlying hu, Instr.sliceBounds, size_of hq]
  intro _
  rfl
/-- The whole of an array in a variable, as a slice. -/
theorem ok_cutA {i m q : Nat} {ty e T : TypeId} {ch : List (Ch Dm)} (hu : P.underlying ty = some (.array m e)) (hq : (P.info? e).map (·.size) = some q) (ho : o.op = .slice ty (.tmp t) none none none) (hd : o.dst = some d) (hn : d < n) (ht : σ (.s t) = .av (.one (.ptr i 0))) (hb : σ (.b i) = .blk T ch) :
    OpOk P cx n σ o [.s t, .b i] [(.s d, .av (.one (.ar i m)))] := by
  intro σ' a w Q ⟨ρ, h⟩ h1 _ K hK
  have ht' := (h1 (.s t) (by simp)).trans ht
  have hb' := (h1 (.b i) (by simp)).trans hb
  have e1 : a.eval (.tmp t) = .pointer (some ⟨(ρ i).1, 0, none⟩) := h.slt t _ ht'
  have hr : (execOp a.eval o).run P w = .ok (.value (.slice (some ⟨(ρ i).1, 0, none⟩) m m)) w := by
    simp only [execOp, ho, e1, Sem.run_bind, Option.map_none, run_cutA w hu hq _ 0, Result.andThen_ok, Sem.run_pure]
  unfold Oper.wp
  rw [hr, Oper.upon_value, hd]
  exact hK _ _ ⟨ρ, h.put (Below.refl _ _) hn rfl fun q hq => by
    obtain rfl : q = i := by simpa [AV.ptrs, SA.ptrs] using hq
    rw [hb']; simp⟩
/-- The bytes of such a slice as a text. -/
theorem ok_b2sA {i : Nat} {u : List UInt8} {src dst e T : TypeId} (hs : P.underlying src = some (.slice e)) (he : P.underlying e = some (.int .u8)) (hd' : P.underlying dst = some .string) (ho : o.op = .convert src dst (.tmp t)) (hd : o.dst = some d) (hn : d < n) (ht : σ (.s t) = .av (.one (.ar i 16))) (hr : σ (.b i) = .blk T [(some 16, DG u)]) :
    OpOk P cx n σ o [.s t, .b i] [(.s d, .av (.one (.v (str u))))] := by
  refine ok_read hd hn rfl fun σ' ρ a w h hk => ⟨_, ?_, rfl⟩
  have e1 : a.eval (.tmp t) = .slice (some ⟨(ρ i).1, 0, none⟩) 16 16 := h.slt t _ ((hk (.s t) (by simp)).trans ht)
  obtain ⟨cs, hc, p, r, v, rfl, k2, k3, k4⟩ := h.blk i T _ ((hk (.b i) (by simp)).trans hr)
  obtain ⟨hl, rfl⟩ := dg_open k3
  have e2 : r = [] := k4
  subst e2
  obtain ⟨k5, _, _⟩ := k2
  have e3 : byC u = p := by simpa using congrArg Array.toList (Value.agg.inj k5)
  subst e3
  rw [List.append_nil] at hc
  have hrr : (convert src dst (.slice (some ⟨(ρ i).1, 0, none⟩) 16 16)).run P w = .ok (str u) w := by
    rw [← hl]
    exact run_convert_bytes_back w src dst e _ _ u hs he hd' fun j hj => by
      rw [Addr.add_lit, Nat.zero_add, cell_of_row w _ _ _ T _ hc]
      simp [byC, List.getElem?_eq_getElem hj]
  simp only [execOp, ho, e1, Sem.run_bind, hrr, Result.andThen_ok, Sem.run_pure]
/-- Sixteen bytes as an array. -/
theorem ok_s2ap {u : List UInt8} {ty e : TypeId} (hl : u.length = 16) (hu : P.underlying ty = some (.array 16 e)) (ho : o.op = .sliceToArrayPointer ty (.tmp t)) (hd : o.dst = some d) (hn : d < n) (ht : σ (.s t) = .av (.one (BY u))) : OpOk P cx n σ o [.s t] [(.s d, .av (.one (.d (.gen (pG (some 16) (DG u))))))] := by
  refine ok_read hd hn rfl fun σ' ρ a w h hk' => ?_
  have ht' := (hk' (.s t) (by simp)).trans ht
  obtain ⟨ao, cap, e1, _, h2⟩ := lst_open (ρ := ρ) (by decide) (h.slt t _ ht')
  rw [byV_length, hl] at e1 h2
  obtain ⟨b, off, rfl, hnL, cs, h3, h4⟩ := h2 (by omega)
  have e1 : a.eval (.tmp t) = .slice (some ⟨b, off, none⟩) 16 cap := e1
  refine ⟨.pointer (some ⟨b, off, none⟩), ?_, ?_⟩
  · simp [execOp, ho, e1, Instr.arrayAt, run_underlying hu]
  · intro w' hag
    obtain rfl := byV_ats' (h3 w' hag)
    refine ⟨b, off, .agg (byC u).toArray, rfl, byC u, ⟨rfl, by simp [byC, hl], fun c hc => ?_⟩, ⟨hl, rfl⟩, fun j c hj => ?_⟩
    · obtain ⟨x, _, rfl⟩ := List.mem_map.1 hc
      rfl
    · rw [may_same hnL hag]
      exact h4 _ _ hj
/-- A pointer to a digest that is data. -/
theorem dgp_open {L : Nat → Prop} {ρ : Rho} {w : World} {v : Value} {u : List UInt8} (h : (SA.d (Dm.gen (pG (some 16) (DG u)))).is L ρ w v) :
    ∃ b off, v = .pointer (some ⟨b, off, none⟩) ∧ u.length = 16 ∧ ∀ w', Agree L w w' → ∀ j c, (byC u)[j]? = some c → w'.cell? ⟨b, off + j, none⟩ = some c := by
  obtain ⟨b, off, x, rfl, cs, h1, h2, h3⟩ := h w (Agree.refl _ _)
  refine ⟨b, off, rfl, h2.1, fun w' hw => ?_⟩
  obtain ⟨b', off', x', e, cs', h1', h2', h3'⟩ := h w' hw
  injection e with e
  injection e with e
  injection e with e1 e2
  subst e1
  subst e2
  obtain ⟨_, rfl⟩ := h2'
  have e3 : byC u = cs' := by simpa using congrArg Array.toList (Value.agg.inj h1'.1)
  subst e3
  exact h3'
/-- The whole of a digest that is data, as a slice. -/
theorem ok_cutP {u : List UInt8} {q : Nat} {ty e : TypeId} (hu : P.underlying ty = some (.array 16 e)) (hq : (P.info? e).map (·.size) = some q) (ho : o.op = .slice ty (.tmp t) none none none) (hd : o.dst = some d) (hn : d < n) (ht : σ (.s t) = .av (.one (.d (.gen (pG (some 16) (DG u)))))) :
    OpOk P cx n σ o [.s t] [(.s d, .av (.one (BY u)))] := by
  refine ok_read hd hn rfl fun σ' ρ a w h hk' => ?_
  have ht' := (hk' (.s t) (by simp)).trans ht
  obtain ⟨b, off, e1, hl, hc⟩ := dgp_open (ρ := ρ) (h.slt t _ ht')
  have e1 : a.eval (.tmp t) = .pointer (some ⟨b, off, none⟩) := e1
  refine ⟨.slice (some ⟨b, off, none⟩) 16 16, ?_, ?_⟩
  · simp only [execOp, ho, e1, Sem.run_bind, Option.map_none, run_cutA w hu hq b off, Result.andThen_ok, Sem.run_pure]
  · intro w' hag
    refine ⟨_, 16, by rw [byV_length, hl], ⟨by rw [byV_length, hl]; exact Nat.le_refl _, by decide⟩, fun _ => ⟨b, off, rfl, byC u, byV_ats, fun j c hj => hc w' hag j c hj⟩⟩
end
theorem u_dig : Tryd.prog.underlying 23 = some (.array 16 5) := by kernel_rfl
theorem u_strs : Tryd.prog.underlying 60 = some (.slice 9) := by kernel_rfl
theorem zs_str : (Tryd.prog.info? 9).map (fun i => (i.size, i.zero)) = some (1, some (.string ⟨#[]⟩)) := by kernel_rfl
theorem ty_dig : TyIs Tryd.prog 23 (some 16) := TyIs.row (by kernel_rfl) (by kernel_rfl)
abbrev zeroDig : Value := .agg #[.int .u8 0, .int .u8 0, .int .u8 0, .int .u8 0, .int .u8 0, .int .u8 0, .int .u8 0, .int .u8 0, .int .u8 0, .int .u8 0, .int .u8 0, .int .u8 0, .int .u8 0, .int .u8 0, .int .u8 0, .int .u8 0]
theorem zero_dig : (Tryd.prog.info? 23).map (·.zero) = some (some zeroDig) := by kernel_rfl
theorem str_kinds : ∀ ls : List (List Nat), ∀ s ∈ txV ls, s.kind = some none := by
  intro ls s hs
  obtain ⟨l, _, rfl⟩ := List.mem_map.1 hs
  rfl
theorem str_ptrs (ls : List (List Nat)) : (txV ls).flatMap SA.ptrs = [] := by
  rw [List.flatMap_eq_nil_iff]
  intro s hs
  obtain ⟨l, _, rfl⟩ := List.mem_map.1 hs
  rfl
theorem Of_dg (tag : Nat) (ht : tag < 256) (ls : List (List Nat)) (hb : ∀ l ∈ ls, Bn l) (hn : ls.length ≤ 12) (hs : ∀ l ∈ ls, l.length ≤ 2000) : Con Tryd.prog 34 [.v (.int .i64 (tag : Int)), TX ls] (.one (DG (by8 (Sg.ofL tag ls)))) :=
  fun L ρ w vs h1 h2 h3 h4 => (Of_con tag ht ls hb hn hs L ρ w vs h1 h2 h3 h4).mono fun _ _ ⟨v, e, hb, hv⟩ => ⟨v, e, hb, is_dg (Sg.ofL_bn _ _) (Sg.ofL_length _ _) L ρ _ _ hv⟩
theorem zi_kinds {k : IntKind} (l : List Int) : ∀ s ∈ ziV k l, s.kind = some none := by
  intro s hs
  obtain ⟨x, _, rfl⟩ := List.mem_map.1 hs
  rfl
theorem toNat_bn {l : List Int} (h : W.Bs l) : Bn (l.map Int.toNat) := by
  intro x hx
  obtain ⟨y, hy, rfl⟩ := List.mem_map.1 hx
  have := h y hy
  omega
theorem intN_bn (n : Int) : Bn (Sg.intN n) := toNat_bn (W.code_bs n)
theorem intN_le (n : Int) : (Sg.intN n).length ≤ 9 := by rw [Sg.intN, List.length_map]; exact W.code_le n
theorem ints_bs (l : List Int) : W.Bs (W.encInts l) := by
  intro x hx
  rcases List.mem_append.1 hx with h | h
  · exact W.code_bs _ x h
  · obtain ⟨y, _, hy⟩ := List.mem_flatMap.1 h
    exact W.code_bs _ x hy
theorem intsN_bn (l : List Int) : Bn (Sg.intsN l) := toNat_bn (ints_bs l)
theorem flat_le : ∀ l : List Int, (l.flatMap W.code).length ≤ 9 * l.length
  | [] => Nat.le_refl _
  | x :: l => by
    have h1 := W.code_le x
    have h2 := flat_le l
    rw [List.flatMap_cons, List.length_append, List.length_cons]
    omega
theorem intsN_le (l : List Int) : (Sg.intsN l).length ≤ 9 * l.length + 9 := by
  have h1 := W.code_le (l.length : Int)
  have h2 := flat_le l
  rw [Sg.intsN, List.length_map, W.encInts, List.length_append]
  omega
theorem Int_row (n : Int) (h1 : n ≤ 9223372036854775807) (h2 : -9223372036854775808 ≤ n) : ConRow Tryd.prog 26 [(.v (.int .i64 n) : SA Dm)] 5 none (byV (by8 (Sg.intN n))) := by
  have h := wireInt_con n h1 h2
  rwa [enc_by8 (W.code_bs n)] at h
theorem Ints_row (zs : List Int) (hz : ∀ z ∈ zs, -9223372036854775808 ≤ z ∧ z ≤ 9223372036854775807) (hl : zs.length ≤ 1099511627776) : ConRow Tryd.prog 48 [ZI .i64 zs] 5 none (byV (by8 (Sg.intsN zs))) := by
  have h := wireInts_con zs hz hl
  rwa [enc_by8 (ints_bs zs)] at h
theorem adv_step (key chain fr k : Nat) (v : List Nat) (hv : Bn v) (lv : v.length = 16) : Con Tryd.prog 34 [.v (.int .i64 9), TX [Sg.intsN [(key : Int), (chain : Int), ((fr + k : Nat) : Int)], Sg.advN key chain fr k v]] (.one (DG (by8 (Sg.advN key chain fr (k + 1) v)))) := by
  have h1 := intsN_le [(key : Int), (chain : Int), ((fr + k : Nat) : Int)]
  have h2 := Sg.advN_length key chain k fr v lv
  rw [Sg.advN_snoc]
  exact Of_dg 9 (by decide) _ (by simp [intsN_bn, Sg.advN_bn key chain k fr v hv]) (by simp) (by simp [h2]; simp at h1; omega)
set_option maxRecDepth 100000 in
theorem join_con (l r : List Nat) (hl : Bn l) (hr : Bn r) (ll : l.length = 16) (lr : r.length = 16) : Con Tryd.prog 45 [DG (by8 l), DG (by8 r)] (.one (DG (by8 (Sg.joinN2 l r)))) := by
  refine Con.of (n := 11) Tryd.func45 rfl rfl rfl rfl rfl fun cx hfr => ?_
  refine CV.seq ?_
  refine CV.region rfl (fun h => nomatch h) ?_
  refine RV.step2 (OpOk.plain (ok_box (i := 0) rfl rfl (by decide) rfl rfl rfl rfl rfl) rfl) ?_
  refine RV.step2 (OpOk.plain (ok_box (i := 1) rfl rfl (by decide) rfl rfl rfl rfl rfl) rfl) ?_
  refine RV.step2 (OpOk.plain (ok_alloc (i := 2) rfl rfl (by decide) zero_dig rfl rfl rfl rfl) rfl) ?_
  refine RV.done ?_
  refine CV.seq ?_
  refine CV.region rfl (fun _ => by kernel_rfl) ?_
  refine RV.step1 (OpOk.plain (ok_cutA u_dig sz_u8 rfl rfl (by decide) rfl rfl) rfl) ?_
  refine RV.step1 (OpOk.plain (ok_b2sA u_bytes u_u8 u_str rfl rfl (by decide) rfl rfl) rfl) ?_
  refine RV.step1 (OpOk.plain (ok_cutA u_dig sz_u8 rfl rfl (by decide) rfl rfl) rfl) ?_
  refine RV.step1 (OpOk.plain (ok_b2sA u_bytes u_u8 u_str rfl rfl (by decide) rfl rfl) rfl) ?_
  refine RV.step1 (OpOk.plain (ok_litD (k := none) (xs := [.tmp 6, .tmp 8]) (ss := txV [l, r]) (G := Dm.gen (lstG none (txV [l, r]))) (lstG_Lst _ _) u_strs zs_str rfl rfl rfl (str_kinds _) (str_ptrs _) rfl rfl (by decide) (.cons rfl Conv.any (.cons rfl Conv.any .nil))) rfl) ?_
  refine RV.step1 (OpOk.plain (ok_call (Of_dg 2 (by decide) [l, r] (by simp [hl, hr]) (by simp) (by simp [ll, lr])) rfl rfl (by decide) Tryd.func34 rfl rfl (.cons rfl Conv.any (.cons rfl Conv.any .nil)) rfl hfr rfl) rfl) ?_
  refine RV.step1 (OpOk.plain (ok_store rfl rfl rfl rfl rfl rfl rfl (ty_dig).2 rfl rfl rfl rfl) rfl) ?_
  refine RV.drawn (by kernel_rfl) ?_
  refine CV.ret ?_
  exact fin1 rfl (.inr rfl) ⟨_, _, _, _, _, rfl, rfl, rfl, ty_dig⟩ is_rfl
set_option maxRecDepth 100000 in
theorem Digest_con (pub msg : List Nat) (index : Int) (hp : Bn pub) (lp : pub.length = 16) (hm : Bn msg) (lm : msg.length ≤ 2000) (h1 : index ≤ 9223372036854775807) (h2 : -9223372036854775808 ≤ index) : Con Tryd.prog 16 [DG (by8 pub), .v (.int .i64 index), .v (str (by8 msg))] (.one (DG (by8 (Sg.digestN pub index msg)))) := by
  refine Con.of (n := 15) Tryd.func16 rfl rfl rfl rfl rfl fun cx hfr => ?_
  refine CV.seq ?_
  refine CV.region rfl (fun h => nomatch h) ?_
  refine RV.step2 (OpOk.plain (ok_box (i := 0) rfl rfl (by decide) rfl rfl rfl rfl rfl) rfl) ?_
  refine RV.step2 (OpOk.plain (ok_alloc (i := 1) rfl rfl (by decide) zero_dig rfl rfl rfl rfl) rfl) ?_
  refine RV.done ?_
  refine CV.seq ?_
  refine CV.region rfl (fun _ => by kernel_rfl) ?_
  refine RV.step1 (OpOk.plain (ok_cutA u_dig sz_u8 rfl rfl (by decide) rfl rfl) rfl) ?_
  refine RV.step1 (OpOk.plain (ok_b2sA u_bytes u_u8 u_str rfl rfl (by decide) rfl rfl) rfl) ?_
  refine RV.step1 (OpOk.plain (ok_move (.inl rfl) rfl (by decide) rfl) rfl) ?_
  refine RV.step1 (OpOk.plain (ok_callRowD (G := Dm.gen (lstG none (byV (by8 (Sg.intN index))))) (Int_row index h1 h2) (byV_vals _) (lstG_Lst none _) (lstG_Lst0 none _) rfl rfl (by decide) Tryd.func26 rfl rfl (.cons rfl Conv.any .nil)) rfl) ?_
  refine RV.step1 (OpOk.plain (ok_b2s u_bytes u_u8 u_str rfl rfl (by decide) rfl) rfl) ?_
  refine RV.step1 (OpOk.plain (ok_move (.inl rfl) rfl (by decide) rfl) rfl) ?_
  refine RV.step1 (OpOk.plain (ok_litD (k := none) (xs := [.tmp 8, .tmp 11, .tmp 12]) (ss := txV [pub, Sg.intN index, msg]) (G := Dm.gen (lstG none (txV [pub, Sg.intN index, msg]))) (lstG_Lst _ _) u_strs zs_str rfl rfl rfl (str_kinds _) (str_ptrs _) rfl rfl (by decide) (.cons rfl Conv.any (.cons rfl Conv.any (.cons rfl Conv.any .nil)))) rfl) ?_
  refine RV.step1 (OpOk.plain (ok_call (Of_dg 4 (by decide) [pub, Sg.intN index, msg] (by simp [hp, hm, intN_bn]) (by simp) (by have := intN_le index; simp [lp, lm]; omega)) rfl rfl (by decide) Tryd.func34 rfl rfl (.cons rfl Conv.any (.cons rfl Conv.any .nil)) rfl hfr rfl) rfl) ?_
  refine RV.step1 (OpOk.plain (ok_store rfl rfl rfl rfl rfl rfl rfl (ty_dig).2 rfl rfl rfl rfl) rfl) ?_
  refine RV.drawn (by kernel_rfl) ?_
  refine CV.ret ?_
  exact fin1 rfl (.inr rfl) ⟨_, _, _, _, _, rfl, rfl, rfl, ty_dig⟩ is_rfl
set_option maxRecDepth 100000 in
theorem advance_con (v : List Nat) (key chain fr hi : Nat) (hv : Bn v) (lv : v.length = 16) (hk : key ≤ 1000) (hc' : chain ≤ 1000) (hft : fr ≤ hi) (ht : hi ≤ 1000) : Con Tryd.prog 28 [DG (by8 v), .v (.int .i64 (key : Int)), .v (.int .i64 (chain : Int)), .v (.int .i64 (fr : Int)), .v (.int .i64 (hi : Int))] (.one (DG (by8 (Sg.advN key chain fr (hi - fr) v)))) := by
  refine Con.of (n := 29) Tryd.func28 rfl rfl rfl rfl rfl fun cx hfr => ?_
  refine CV.seq ?_
  refine CV.region rfl (fun h => nomatch h) ?_
  refine RV.step2 (OpOk.plain (ok_box (i := 0) rfl rfl (by decide) rfl rfl rfl rfl rfl) rfl) ?_
  refine RV.step2 (OpOk.plain (ok_alloc (i := 1) rfl rfl (by decide) zero_dig rfl rfl rfl rfl) rfl) ?_
  refine RV.done ?_
  refine CV.seq ?_
  refine CV.seq ?_
  refine CV.region rfl (fun h => nomatch h) ?_
  refine RV.step1 (OpOk.plain (ok_move (.inl rfl) rfl (by decide) rfl) rfl) ?_
  refine RV.step1 (OpOk.plain (ok_move (.inr rfl) rfl (by decide) rfl) rfl) ?_
  refine RV.done ?_
  refine CV.block ?_
  refine CV.loop (X := {k : Nat // fr + k ≤ hi}) (fun k => [(.s 11, .av (.one (.v (.int .i64 ((fr + k.1 : Nat) : Int))))), (.s 4, .av (.one (.v (.int .i64 (hi : Int))))), (.s 1, .av (.one (.v (.int .i64 (key : Int))))), (.s 2, .av (.one (.v (.int .i64 (chain : Int))))), (.s 5, .av (.one (.ptr 0 0))), (.b 0, .blk 23 [(some 16, DG (by8 (Sg.advN key chain fr k.1 v)))]), (.s 10, .av (.one (.ptr 1 0))), (.b 1, .blk 23 [(some 16, .v zeroDig)])]) (fun k => hi - k.1) ⟨0, hft⟩ (Sub.mk ⟨XV.le_rfl _, XV.le_rfl _, XV.le_rfl _, XV.le_rfl _, XV.le_rfl _, XV.le_rfl _, XV.le_rfl _, XV.le_rfl _, trivial⟩ rfl rfl) (fun k => ?_)
  obtain ⟨k, hk2⟩ := k
  simp only
  refine CV.seq ?_
  refine CV.seq ?_
  refine CV.region rfl (fun h => nomatch h) ?_
  refine RV.step1 (OpOk.plain (ok_move (.inl rfl) rfl (by decide) rfl) rfl) ?_
  refine RV.step1 (OpOk.plain (ok_move (.inl rfl) rfl (by decide) rfl) rfl) ?_
  refine RV.step1 (OpOk.plain (ok_lss rfl rfl (by decide) rfl rfl) rfl) ?_
  refine RV.done ?_
  refine CV.cond rfl (fun hc => ?_) (fun hc => ?_)
  · have hlt : fr + k < hi := (by have := of_decide_eq_true hc; omega)
    refine CV.skip ?_
    refine CV.seq ?_
    refine CV.block ?_
    refine CV.region rfl (fun _ => by kernel_rfl) ?_
    refine RV.step1 (OpOk.plain (ok_move (.inl rfl) rfl (by decide) rfl) rfl) ?_
    refine RV.step1 (OpOk.plain (ok_move (.inl rfl) rfl (by decide) rfl) rfl) ?_
    refine RV.step1 (OpOk.plain (ok_move (.inl rfl) rfl (by decide) rfl) rfl) ?_
    refine RV.step1 (OpOk.plain (ok_litD (k := none) (xs := [.tmp 18, .tmp 19, .tmp 20]) (ss := ziV .i64 [(key : Int), (chain : Int), ((fr + k : Nat) : Int)]) (G := Dm.gen (lstG none (ziV .i64 [(key : Int), (chain : Int), ((fr + k : Nat) : Int)]))) (lstG_Lst _ _) u_ints zs_i64 rfl rfl rfl (zi_kinds _) (ziV_ptrs _) rfl rfl (by decide) (.cons rfl Conv.any (.cons rfl Conv.any (.cons rfl Conv.any .nil)))) rfl) ?_
    refine RV.step1 (OpOk.plain (ok_callRowD (G := Dm.gen (lstG none (byV (by8 (Sg.intsN [(key : Int), (chain : Int), ((fr + k : Nat) : Int)]))))) (Ints_row _ (by simp; omega) (by simp)) (byV_vals _) (lstG_Lst none _) (lstG_Lst0 none _) rfl rfl (by decide) Tryd.func48 rfl rfl (.cons rfl Conv.any .nil)) rfl) ?_
    refine RV.step1 (OpOk.plain (ok_b2s u_bytes u_u8 u_str rfl rfl (by decide) rfl) rfl) ?_
    refine RV.step1 (OpOk.plain (ok_cutA u_dig sz_u8 rfl rfl (by decide) rfl rfl) rfl) ?_
    refine RV.step1 (OpOk.plain (ok_b2sA u_bytes u_u8 u_str rfl rfl (by decide) rfl rfl) rfl) ?_
    refine RV.step1 (OpOk.plain (ok_litD (k := none) (xs := [.tmp 23, .tmp 25]) (ss := txV [Sg.intsN [(key : Int), (chain : Int), ((fr + k : Nat) : Int)], Sg.advN key chain fr k v]) (G := Dm.gen (lstG none (txV [Sg.intsN [(key : Int), (chain : Int), ((fr + k : Nat) : Int)], Sg.advN key chain fr k v]))) (lstG_Lst _ _) u_strs zs_str rfl rfl rfl (str_kinds _) (str_ptrs _) rfl rfl (by decide) (.cons rfl Conv.any (.cons rfl Conv.any .nil))) rfl) ?_
    refine RV.step1 (OpOk.plain (ok_call (adv_step key chain fr k v hv lv) rfl rfl (by decide) Tryd.func34 rfl rfl (.cons rfl Conv.any (.cons rfl Conv.any .nil)) rfl hfr rfl) rfl) ?_
    refine RV.step1 (OpOk.plain (ok_store rfl rfl rfl rfl rfl rfl rfl (ty_dig).2 rfl rfl rfl rfl) rfl) ?_
    refine RV.drawn (by kernel_rfl) ?_
    refine CV.region rfl (fun h => nomatch h) ?_
    refine RV.step1 (OpOk.plain (ok_move (.inl rfl) rfl (by decide) rfl) rfl) ?_
    refine RV.step1 (OpOk.plain (ok_add (c := ((fr + (k + 1) : Nat) : Int)) (by rw [wrapI (by omega) (by omega)]; omega) rfl rfl (by decide) rfl rfl) rfl) ?_
    refine RV.step1 (OpOk.plain (ok_move (.inr rfl) rfl (by decide) rfl) rfl) ?_
    refine RV.done ?_
    exact ⟨⟨k + 1, by omega⟩, Sub.mk ⟨XV.le_rfl _, XV.le_rfl _, XV.le_rfl _, XV.le_rfl _, XV.le_rfl _, XV.le_rfl _, XV.le_rfl _, XV.le_rfl _, trivial⟩ rfl rfl, by show hi - (k + 1) < hi - k; omega⟩
  · refine CV.exit ?_
    refine CV.seq ?_
    refine CV.region rfl (fun h => nomatch h) ?_
    refine RV.step1 (OpOk.plain (ok_load rfl rfl (by decide) rfl rfl rfl ty_dig) rfl) ?_
    refine RV.step1 (OpOk.plain (ok_store rfl rfl rfl rfl rfl rfl rfl (ty_dig).2 rfl rfl rfl rfl) rfl) ?_
    refine RV.done ?_
    refine CV.ret ?_
    have e : hi - fr = k := (by have := of_decide_eq_false hc; omega)
    rw [e]
    exact fin1 rfl (.inr rfl) ⟨_, _, _, _, _, rfl, rfl, rfl, ty_dig⟩ is_rfl
theorem macN_length (k t : List Nat) : (macN k t).length = 32 := sha_length _
theorem macN_bn (k t : List Nat) : Bn (macN k t) := sha_bn _
theorem startN_length (seed : List Nat) (k c : Nat) : (Sg.startN seed k c).length = 16 := by
  rw [Sg.startN, List.length_take, macN_length]
  rfl
theorem startN_bn (seed : List Nat) (k c : Nat) : Bn (Sg.startN seed k c) := fun x hx => macN_bn _ _ x (List.mem_of_mem_take hx)
theorem Mac_start (seed X : List Nat) (hs : Bn seed) (hX : Bn X) (ls : seed.length ≤ 1000) (lX : X.length ≤ 1000) : Con Tryd.prog 49 [(.v (str (by8 seed)) : SA Dm), .v (str (by8 Sg.chainTxt ++ by8 X))] (.one (.v (str (by8 (macN seed (Sg.chainTxt ++ X)))))) := by
  rw [← by8_append]
  refine Mac_con seed _ hs (fun x hx => ?_) (by omega) (by rw [List.length_append]; show 5 + _ ≤ _; omega)
  rcases List.mem_append.1 hx with h | h
  · have h0 : ∀ y ∈ Sg.chainTxt, y < 256 := by decide
    exact h0 x h
  · exact hX x h
set_option maxRecDepth 100000 in
theorem start_con (seed : List Nat) (key chain : Nat) (hs : Bn seed) (ls : seed.length ≤ 1000) (hk : key ≤ 1000) (hc' : chain ≤ 1000) : Con Tryd.prog 29 [(.v (str (by8 seed)) : SA Dm), .v (.int .i64 (key : Int)), .v (.int .i64 (chain : Int))] (.one (DG (by8 (Sg.startN seed key chain)))) := by
  refine Con.of (n := 21) Tryd.func29 rfl rfl rfl rfl rfl fun cx hfr => ?_
  refine CV.seq ?_
  refine CV.region rfl (fun h => nomatch h) ?_
  refine RV.step2 (OpOk.plain (ok_alloc (i := 0) rfl rfl (by decide) zero_dig rfl rfl rfl rfl) rfl) ?_
  refine RV.done ?_
  refine CV.seq ?_
  refine CV.region rfl (fun h => nomatch h) ?_
  refine RV.step1 (OpOk.plain (ok_move (.inl rfl) rfl (by decide) rfl) rfl) ?_
  refine RV.step1 (OpOk.plain (ok_move (.inl rfl) rfl (by decide) rfl) rfl) ?_
  refine RV.step1 (OpOk.plain (ok_move (.inl rfl) rfl (by decide) rfl) rfl) ?_
  refine RV.step1 (OpOk.plain (ok_litD (k := none) (xs := [.tmp 9, .tmp 10]) (ss := ziV .i64 [(key : Int), (chain : Int)]) (G := Dm.gen (lstG none (ziV .i64 [(key : Int), (chain : Int)]))) (lstG_Lst _ _) u_ints zs_i64 rfl rfl rfl (zi_kinds _) (ziV_ptrs _) rfl rfl (by decide) (.cons rfl Conv.any (.cons rfl Conv.any .nil))) rfl) ?_
  refine RV.step1 (OpOk.plain (ok_callRowD (G := Dm.gen (lstG none (byV (by8 (Sg.intsN [(key : Int), (chain : Int)]))))) (Ints_row _ (by simp; omega) (by simp)) (byV_vals _) (lstG_Lst none _) (lstG_Lst0 none _) rfl rfl (by decide) Tryd.func48 rfl rfl (.cons rfl Conv.any .nil)) rfl) ?_
  refine RV.step1 (OpOk.plain (ok_b2s u_bytes u_u8 u_str rfl rfl (by decide) rfl) rfl) ?_
  refine RV.step1 (OpOk.plain (ok_catT (u := by8 Sg.chainTxt) (v := by8 (Sg.intsN [(key : Int), (chain : Int)])) (by have := intsN_le [(key : Int), (chain : Int)]; rw [by8_length, by8_length]; simp at this; show 5 + _ ≤ _; omega) rfl rfl (by decide) rfl rfl) rfl) ?_
  refine RV.step1 (OpOk.plain (ok_call (Mac_start seed _ hs (intsN_bn _) ls (by have := intsN_le [(key : Int), (chain : Int)]; simp at this; omega)) rfl rfl (by decide) Tryd.func49 rfl rfl (.cons rfl Conv.any (.cons rfl Conv.any .nil)) rfl hfr rfl) rfl) ?_
  refine RV.step1 (OpOk.plain (ok_move (.inr rfl) rfl (by decide) rfl) rfl) ?_
  refine RV.done ?_
  refine CV.seq ?_
  refine CV.region rfl (fun h => nomatch h) ?_
  refine RV.step1 (OpOk.plain (ok_move (.inl rfl) rfl (by decide) rfl) rfl) ?_
  refine RV.step1 (OpOk.plain (ok_cutT (v := by8 (Sg.startN seed key chain)) none (some 16) (by show (List.take 16 (by8 _)).drop 0 = _; rw [List.drop_zero, by8, ← List.map_take]; rfl) (Nat.zero_le _) (by show 16 ≤ _; rw [by8_length, macN_length]; decide) u_str rfl rfl (by decide) rfl trivial rfl) rfl) ?_
  refine RV.step1 (OpOk.plain (ok_s2b (by rw [by8_length, startN_length]; decide) u_str u_bytes u_u8 rfl rfl (by decide) rfl) rfl) ?_
  refine RV.step1 (OpOk.plain (ok_s2ap (by rw [by8_length, startN_length]) u_dig rfl rfl (by decide) rfl) rfl) ?_
  refine RV.step1 (OpOk.plain (ok_loadP ty_dig (by decide) rfl rfl (by decide) rfl) rfl) ?_
  refine RV.step1 (OpOk.plain (ok_store rfl rfl rfl rfl rfl rfl rfl (ty_dig).2 rfl rfl rfl rfl) rfl) ?_
  refine RV.done ?_
  refine CV.ret ?_
  exact fin1 rfl (.inr rfl) ⟨_, _, _, _, _, rfl, rfl, rfl, ty_dig⟩ is_rfl
/-- The first k ends, one behind the other. -/
def topsN (g : Nat → List Nat) (k : Nat) : List Nat := ((List.range k).map g).flatten
theorem topsN_succ (g : Nat → List Nat) (k : Nat) : topsN g (k + 1) = topsN g k ++ g k := by
  simp [topsN, List.range_succ]
theorem topsN_length (g : Nat → List Nat) (hg : ∀ c, (g c).length = 16) : ∀ k, (topsN g k).length = 16 * k
  | 0 => rfl
  | k + 1 => by rw [topsN_succ, List.length_append, topsN_length g hg k, hg]; omega
theorem topsN_bn (g : Nat → List Nat) (hg : ∀ c, Bn (g c)) (k : Nat) : Bn (topsN g k) := by
  intro x hx
  obtain ⟨l, hl, hx⟩ := List.mem_flatten.1 hx
  obtain ⟨c, _, rfl⟩ := List.mem_map.1 hl
  exact hg c x hx
theorem byV_tops (g : Nat → List Nat) (k : Nat) : byV (by8 (topsN g k)) ++ byV (by8 (g k)) = byV (by8 (topsN g (k + 1))) := by
  rw [topsN_succ, by8_append, byV_append]
section
variable {f : FuncId} {fn : Func} {caps : List (SA Dm)} (g : Nat → List Nat) (hg : ∀ c, (g c).length = 16) (hgb : ∀ c, Bn (g c)) (hf : Tryd.prog.funcs[f]? = some fn) (hname : (fn.name == "runtime.NumGoroutine") = false) (hb : fn.body.isSome = true) (hcon : ∀ c : Nat, c < 68 → Con Tryd.prog f (.v (.int .i64 (c : Int)) :: caps) (.one (DG (by8 (g c)))))
include hg hgb hf hname hb hcon
set_option maxRecDepth 100000 in
theorem leaf_con : Con Tryd.prog 43 [.d (Dm.gen (fnG f caps))] (.one (DG (by8 (Sg.leafN ((List.range 68).map g))))) := by
  have hl68 := topsN_length g hg 68
  refine Con.of (n := 25) Tryd.func43 rfl rfl rfl rfl rfl fun cx hfr => ?_
  refine CV.seq ?_
  refine CV.region rfl (fun h => nomatch h) ?_
  refine RV.step2 (OpOk.plain (ok_alloc (i := 0) rfl rfl (by decide) zero_dig rfl rfl rfl rfl) rfl) ?_
  refine RV.done ?_
  refine CV.seq ?_
  refine CV.region rfl (fun h => nomatch h) ?_
  refine RV.step1 (OpOk.plain (ok_move (.inr rfl) rfl (by decide) rfl) rfl) ?_
  refine RV.done ?_
  refine CV.seq ?_
  refine CV.seq ?_
  refine CV.nilrow 3 100 5 none rfl rfl rfl rfl ?_
  refine CV.region rfl (fun h => nomatch h) ?_
  refine RV.step1 (OpOk.plain (ok_move (.inl rfl) rfl (by decide) rfl) rfl) ?_
  refine RV.done ?_
  refine CV.block ?_
  refine CV.loop (X := {k : Nat // k ≤ 68}) (fun k => [(.s 7, .av (.one (.v (.int .i64 (k.1 : Int))))), (.s 3, .av (.one (.sl 100 (byV (by8 (topsN g k.1))).length))), (.b 100, .row 5 none (byV (by8 (topsN g k.1)))), (.s 0, .av (.one (.d (Dm.gen (fnG f caps))))), (.s 2, .av (.one (.ptr 0 0))), (.b 0, .blk 23 [(some 16, .v zeroDig)])]) (fun k => 68 - k.1) ⟨0, Nat.zero_le _⟩ (Sub.mk ⟨XV.le_rfl _, XV.le_rfl _, XV.le_row rfl, XV.le_rfl _, XV.le_rfl _, XV.le_rfl _, trivial⟩ rfl rfl) (fun k => ?_)
  obtain ⟨k, hk⟩ := k
  simp only
  refine CV.seq ?_
  refine CV.region rfl (fun h => nomatch h) ?_
  refine RV.step1 (OpOk.plain (ok_lss rfl rfl (by decide) rfl rfl) rfl) ?_
  refine RV.done ?_
  refine CV.seq ?_
  refine CV.cond rfl (fun hc => ?_) (fun hc => ?_)
  · have hlt : k < 68 := (by have := of_decide_eq_true hc; omega)
    refine CV.skip ?_
    refine CV.seq ?_
    refine CV.block ?_
    refine CV.seq ?_
    refine CV.region rfl (fun h => nomatch h) ?_
    refine RV.step1 (OpOk.plain (ok_move (.inl rfl) rfl (by decide) rfl) rfl) ?_
    refine RV.step1 (OpOk.plain (ok_move (.inr rfl) rfl (by decide) rfl) rfl) ?_
    refine RV.done ?_
    refine CV.seq ?_
    refine CV.region rfl (fun h => nomatch h) ?_
    refine RV.step1 (OpOk.plain (ok_move (.inl rfl) rfl (by decide) rfl) rfl) ?_
    refine RV.step1 (OpOk.plain (ok_move (.inl rfl) rfl (by decide) rfl) rfl) ?_
    refine RV.step1 (OpOk.plain (ok_callfn (sas := [.v (.int .i64 (k : Int))]) (hcon k hlt) hf hname hb rfl rfl (by decide) rfl (.cons rfl Conv.any .nil) rfl hfr rfl) rfl) ?_
    refine RV.step2 (OpOk.plain (ok_alloc (i := 1) rfl rfl (by decide) zero_dig rfl rfl rfl rfl) rfl) ?_
    refine RV.step1 (OpOk.plain (ok_store rfl rfl rfl rfl rfl rfl rfl (ty_dig).2 rfl rfl rfl rfl) rfl) ?_
    refine RV.done ?_
    have hlk := topsN_length g hg k
    have hgk := hg k
    refine CV.freezeB (r := 1) (t := 5) (cx.bw hfr) rfl rfl rfl rfl rfl ?_
    refine CV.region rfl (fun h => nomatch h) ?_
    refine RV.step1 (OpOk.plain (ok_move (.inl rfl) rfl (by decide) rfl) rfl) ?_
    refine RV.step1 (OpOk.plain (ok_cutP u_dig sz_u8 rfl rfl (by decide) rfl) rfl) ?_
    refine RV.step3 (OpOk.plain (ok_append (r := 100) (r' := 101) (lst_elems (by decide) (byV_ptrs _)) (by rw [byV_length, byV_length, by8_length, by8_length]; omega) (by rw [byV_length, byV_length, by8_length, by8_length]; omega) u_bytes inf_u8 rfl rfl rfl (byV_plain _) rfl rfl rfl (by decide) rfl rfl rfl rfl rfl rfl rfl rfl) rfl) ?_
    refine RV.step1 (OpOk.plain (ok_move (.inr rfl) rfl (by decide) rfl) rfl) ?_
    refine RV.done ?_
    refine CV.region rfl (fun h => nomatch h) ?_
    refine RV.step1 (OpOk.plain (ok_add (c := ((k + 1 : Nat) : Int)) (by rw [wrapI (by omega) (by omega)]; omega) rfl rfl (by decide) rfl rfl) rfl) ?_
    refine RV.step1 (OpOk.plain (ok_move (.inl rfl) rfl (by decide) rfl) rfl) ?_
    refine RV.done ?_
    exact ⟨⟨k + 1, hlt⟩, Sub.mkr (fun i => if i = 100 then 101 else i) ⟨XV.le_same, XV.le_sl rfl (by rw [← byV_tops, List.length_append]), XV.le_row (byV_tops g k), XV.le_same, fun _ _ _ _ h => h, ⟨rfl, fun _ _ _ _ h => h⟩, trivial⟩ rfl rfl rfl rfl, by show 68 - (k + 1) < 68 - k; omega⟩
  · refine CV.exit ?_
    refine CV.seq ?_
    have hk68 : k = 68 := (by have := of_decide_eq_false hc; omega)
    subst hk68
    refine CV.region rfl (fun h => nomatch h) ?_
    refine RV.step1 (OpOk.plain (ok_move (.inl rfl) rfl (by decide) rfl) rfl) ?_
    refine RV.step1 (OpOk.plain (ok_b2sR (u := by8 (topsN g 68)) (byV_length _) u_bytes u_u8 u_str rfl rfl (by decide) rfl rfl) rfl) ?_
    refine RV.step1 (OpOk.plain (ok_litD (k := none) (xs := [.tmp 18]) (ss := txV [topsN g 68]) (G := Dm.gen (lstG none (txV [topsN g 68]))) (lstG_Lst _ _) u_strs zs_str rfl rfl rfl (str_kinds _) (str_ptrs _) rfl rfl (by decide) (.cons rfl Conv.any .nil)) rfl) ?_
    refine RV.step1 (OpOk.plain (ok_call (Of_dg 3 (by decide) [topsN g 68] (by simp [topsN_bn g hgb]) (by simp) (by simp [hl68])) rfl rfl (by decide) Tryd.func34 rfl rfl (.cons rfl Conv.any (.cons rfl Conv.any .nil)) rfl hfr rfl) rfl) ?_
    refine RV.step2 (OpOk.plain (ok_alloc (i := 1) rfl rfl (by decide) zero_dig rfl rfl rfl rfl) rfl) ?_
    refine RV.step1 (OpOk.plain (ok_store rfl rfl rfl rfl rfl rfl rfl (ty_dig).2 rfl rfl rfl rfl) rfl) ?_
    refine RV.done ?_
    refine CV.seq ?_
    refine CV.region rfl (fun h => nomatch h) ?_
    refine RV.step1 (OpOk.plain (ok_cutA u_dig sz_u8 rfl rfl (by decide) rfl rfl) rfl) ?_
    refine RV.step1 (OpOk.plain (ok_b2sA u_bytes u_u8 u_str rfl rfl (by decide) rfl rfl) rfl) ?_
    refine RV.step1 (OpOk.plain (ok_litD (k := none) (xs := [.tmp 22]) (ss := txV [Sg.ofL 3 [topsN g 68]]) (G := Dm.gen (lstG none (txV [Sg.ofL 3 [topsN g 68]]))) (lstG_Lst _ _) u_strs zs_str rfl rfl rfl (str_kinds _) (str_ptrs _) rfl rfl (by decide) (.cons rfl Conv.any .nil)) rfl) ?_
    refine RV.step1 (OpOk.plain (ok_call (Of_dg 1 (by decide) [Sg.ofL 3 [topsN g 68]] (by simp [Sg.ofL_bn]) (by simp) (by simp [Sg.ofL_length])) rfl rfl (by decide) Tryd.func34 rfl rfl (.cons rfl Conv.any (.cons rfl Conv.any .nil)) rfl hfr rfl) rfl) ?_
    refine RV.step1 (OpOk.plain (ok_store rfl rfl rfl rfl rfl rfl rfl (ty_dig).2 rfl rfl rfl rfl) rfl) ?_
    refine RV.done ?_
    refine CV.ret ?_
    exact fin1 rfl (.inr rfl) ⟨_, _, _, _, _, rfl, rfl, rfl, ty_dig⟩ is_rfl
end
end Vc
end Go.Proofs.YthadfilandmhiaaDoor
