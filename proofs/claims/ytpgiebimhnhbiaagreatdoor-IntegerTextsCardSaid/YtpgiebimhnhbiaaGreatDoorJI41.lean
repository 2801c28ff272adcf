/-
  Texts and bytes: the operations on them.
-/
import Derived.Test.YtpgiebimhnhbiaaGreatDoorJI39
import Derived.Test.YtpgiebimhnhbiaaGreatDoorJI38
import Derived.Test.YtpgiebimhnhbiaaGreatDoorJI32
import Derived.Lib.ConvBytes
import Derived.Laws.IdiomStrings
set_option linter.unusedVariables false
set_option linter.unusedSimpArgs false
set_option linter.unusedSectionVars false
namespace Go.Proofs.YtpgiebimhnhbiaaGreatDoor
open Go.RowKit
open Go.Lib (hid)
open Dg Zn
namespace Vc
def str (l : List UInt8) : Value := .string ⟨l.toArray⟩
def byV (l : List UInt8) : List (SA Dm) := l.map fun b => .v (.int .u8 (b.toNat : Int))
abbrev BY (l : List UInt8) : SA Dm := .d (Dm.gen (lstG none (byV l)))
theorem byV_length (l : List UInt8) : (byV l).length = l.length := by simp [byV]
theorem byV_ptrs (l : List UInt8) : (byV l).flatMap SA.ptrs = [] := by
 rw [List.flatMap_eq_nil_iff]
 intro s hs
 obtain ⟨b, _, rfl⟩ := List.mem_map.1 hs
 rfl
theorem byV_at {l : List UInt8} {i : Nat} (h : i < l.length) : (byV l)[i]? = some (.v (.int .u8 ((l.getD i 0).toNat : Int))) := by
 simp [byV, List.getElem?_eq_getElem h, List.getD_eq_getElem?_getD]
def byC (l : List UInt8) : List Value := l.map fun b => .int .u8 (b.toNat : Int)
theorem byV_ats {w : World} : ∀ {l : List UInt8}, Ats w none (byV l) (byC l)
 | [] => rfl
 | b :: l => ⟨[_], byC l, _, rfl, ⟨rfl, rfl⟩, rfl, byV_ats⟩
theorem byV_ats' {w : World} : ∀ {l : List UInt8} {cs : List Value}, Ats w none (byV l) cs → cs = byC l
 | [], _, h => h
 | b :: l, _, ⟨p, r, v, h1, h2, h3, h4⟩ => by
  have e1 : p = [v] := h2.1
  have e2 : v = .int .u8 (b.toNat : Int) := h3
  rw [h1, e1, e2, byV_ats' h4]
  rfl
theorem byV_chs {L : Nat → Prop} {ρ : Rho} {w : World} {l : List UInt8} : Chs L ρ w (rch none (byV l)) (byC l) := Ats.chs fun _ _ => byV_ats

section
variable {P : Program} {cx : Cx Dm} {n : Nat} {σ : St Dm} {o : Oper} {d t : Nat} {x y j : Operand} {T T' : TypeId}

/-! Texts. -/
theorem str_app (u v : List UInt8) : (ByteArray.mk u.toArray) ++ ⟨v.toArray⟩ = ⟨(u ++ v).toArray⟩ := by
 apply ByteArray.ext
 simp
theorem str_sz (u : List UInt8) : (ByteArray.mk u.toArray).size = u.length := by simp [ByteArray.size]
theorem ok_catT {u v : List UInt8} (hs : u.length + v.length ≤ 9223372036854775807) (ho : o.op = .binOp .add T x y T') (hd : o.dst = some d) (hn : d < n) (hx : opd σ x = .av (.one (.v (str u)))) (hy : opd σ y = .av (.one (.v (str v)))) : OpOk P cx n σ o (opk x ++ opk y) [(.s d, .av (.one (.v (str (u ++ v)))))] :=
 ok_bin ho hd hn hx hy fun w => by
  have h : ¬ ((((ByteArray.mk u.toArray).size + (ByteArray.mk v.toArray).size : Nat) : Int) > IntKind.i64.max) := by rw [show IntKind.i64.max = 9223372036854775807 from rfl, str_sz, str_sz]; omega
  simp only [str, eqGuard, binOp, Op.stringOp, if_neg h, Sem.run_bind, Sem.run_pure, str_app]
  rfl
theorem ok_lenT {u : List UInt8} {m : Nat} (hm : u.length = m) (hu : P.underlying T = some .string) (ho : o.op = .call ⟨.builtin .len, #[x], #[T]⟩) (hd : o.dst = some d) (hn : d < n) (hx : opd σ x = .av (.one (.v (str u)))) : OpOk P cx n σ o (opk x) [(.s d, .av (.one (.v (.int .i64 (m : Int)))))] := by
 subst hm
 refine ok_read hd hn rfl fun σ' ρ a w h hk => ⟨_, ?_, rfl⟩
 have e1 : a.eval x = str u := h.opd ((opd_same fun q hq => hk q (by simp [hq])).trans hx)
 have e2 : #[x].map a.eval = #[str u] := by simp [e1]
 simp [execOp, ho, resolve, invoke, e1, builtin, Builtin.len_, run_underlying hu, goInt, str, str_sz]
theorem lists_eq (u v : List UInt8) : ((ByteArray.mk u.toArray).toList == (ByteArray.mk v.toArray).toList) = (u == v) := by
 have h : ∀ l : List UInt8, (ByteArray.mk l.toArray).toList = l := by
  intro l
  have h1 : ∀ (k i : Nat) (r : List UInt8), l.length - i = k → ByteArray.toList.loop ⟨l.toArray⟩ i r = r.reverse ++ l.drop i := by
   intro k
   induction k with
   | zero =>
    intro i r h
    unfold ByteArray.toList.loop
    rw [if_neg (by rw [str_sz]; omega), List.drop_of_length_le (by omega), List.append_nil]
   | succ k ih =>
    intro i r h
    unfold ByteArray.toList.loop
    rw [if_pos (by rw [str_sz]; omega), ih (i + 1) _ (by omega), List.reverse_cons, List.append_assoc]
    congr 1
    rw [List.drop_eq_getElem_cons (by omega : i < l.length)]
    have e : (ByteArray.mk l.toArray).get! i = l[i]'(by omega) := by
     show l.toArray[i]! = _
     rw [getElem!_pos l.toArray i (by simpa using (by omega : i < l.length))]
     simp
    rw [e]
    rfl
  unfold ByteArray.toList
  rw [h1 l.length 0 [] (by omega)]
  rfl
 rw [h, h]
theorem ok_eqT {u v : List UInt8} {b : Bool} (hb : (u == v) = b) (ho : o.op = .binOp .eql T x y T') (hd : o.dst = some d) (hn : d < n) (hx : opd σ x = .av (.one (.v (str u)))) (hy : opd σ y = .av (.one (.v (str v)))) : OpOk P cx n σ o (opk x ++ opk y) [(.s d, .av (.one (.v (.bool b))))] := by
 subst hb
 exact ok_bin ho hd hn hx hy fun w => by simp [str, eqGuard, binOp, Op.stringOp, lists_eq]
theorem ok_neT {u v : List UInt8} {b : Bool} (hb : (u != v) = b) (ho : o.op = .binOp .neq T x y T') (hd : o.dst = some d) (hn : d < n) (hx : opd σ x = .av (.one (.v (str u)))) (hy : opd σ y = .av (.one (.v (str v)))) : OpOk P cx n σ o (opk x ++ opk y) [(.s d, .av (.one (.v (.bool b))))] := by
 subst hb
 exact ok_bin ho hd hn hx hy fun w => by simp [str, eqGuard, binOp, Op.stringOp, lists_eq, bne]
theorem ok_idxT {u : List UInt8} {i : Nat} (hi : i < u.length) (hu : P.underlying T = some .string) (ho : o.op = .index T x j) (hd : o.dst = some d) (hn : d < n) (hx : opd σ x = .av (.one (.v (str u)))) (hj : opd σ j = .av (.one (.v (.int .i64 (i : Int))))) :
  OpOk P cx n σ o (opk x ++ opk j) [(.s d, .av (.one (.v (.int .u8 ((u.getD i 0).toNat : Int)))))] := by
 refine ok_read hd hn rfl fun σ' ρ a w h hk => ⟨_, ?_, rfl⟩
 have e1 : a.eval x = str u := h.opd ((opd_same fun q hq => hk q (by simp [hq])).trans hx)
 have e2 : a.eval j = .int .i64 (i : Int) := h.opd ((opd_same fun q hq => hk q (by simp [hq])).trans hj)
 have e3 : (ByteArray.mk u.toArray)[i]? = some (u.getD i 0) := by
  rw [getElem?_pos (ByteArray.mk u.toArray) i (by rw [str_sz]; exact hi)]
  simp [List.getD_eq_getElem?_getD, List.getElem?_eq_getElem hi]
  rfl
 simp [execOp, ho, e1, e2, str, Instr.index, asIntOf, run_underlying hu, e3]
theorem ok_cutT {u v : List UInt8} {lo hi : Option Operand} (lo' hi' : Option Nat) (hv : (u.take (hi'.getD u.length)).drop (lo'.getD 0) = v) (h1 : lo'.getD 0 ≤ hi'.getD u.length) (h2 : hi'.getD u.length ≤ u.length) (hu : P.underlying T = some .string) (ho : o.op = .slice T x lo hi none) (hd : o.dst = some d) (hn : d < n)
  (hx : opd σ x = .av (.one (.v (str u)))) (hlo : bndIs σ lo lo') (hhi : bndIs σ hi hi') : OpOk P cx n σ o (opk x ++ (bndK lo ++ bndK hi)) [(.s d, .av (.one (.v (str v))))] := by
 subst hv
 refine ok_read hd hn rfl fun σ' ρ a w h hk => ⟨_, ?_, rfl⟩
 have e1 : a.eval x = str u := h.opd ((opd_same fun q hq => hk q (by simp [hq])).trans hx)
 have f1 := bnd_eval h hlo fun q hq => hk q (by simp [hq])
 have f2 := bnd_eval h hhi fun q hq => hk q (by simp [hq])
 have key : ∀ (n y : Nat) c, n ≤ y → (Instr.sliceBound (.int .i64 (n : Int)) y c).run P w = .ok n w := by
  intro n y c hny
  have : ((n : Nat) : Int) ≤ (y : Int) := by omega
  simp [Instr.sliceBound, asIntOf, this]
 have hb : (Instr.sliceBounds false u.length u.length (optI lo') (optI hi') none).run P w = .ok (lo'.getD 0, hi'.getD u.length, u.length) w := by
  cases lo' with
  | none =>
   cases hi' with
   | none => simp [Instr.sliceBounds, optI]
   | some hi => simp only [Option.getD_some, Option.getD_none] at h1 h2; simp [Instr.sliceBounds, optI, key _ _ _ h2]
  | some lo =>
   cases hi' with
   | none => simp only [Option.getD_some, Option.getD_none] at h1 h2; simp [Instr.sliceBounds, optI, key _ _ _ h1]
   | some hi => simp only [Option.getD_some, Option.getD_none] at h1 h2; simp [Instr.sliceBounds, optI, key _ _ _ h2, key _ _ _ h1]
 have hx2 : (ByteArray.mk u.toArray).extract (lo'.getD 0) (hi'.getD u.length) = ⟨((u.take (hi'.getD u.length)).drop (lo'.getD 0)).toArray⟩ := by
  apply ByteArray.ext
  simp [ByteArray.data_extract, List.extract_eq_take_drop, List.drop_take]
 have hsl : (Instr.sliceAt T (str u) (optI lo') (optI hi') none).run P w = .ok (str ((u.take (hi'.getD u.length)).drop (lo'.getD 0))) w := by
  have e0 : (Instr.sliceAt T (str u) (optI lo') (optI hi') none).run P w = (Instr.slice T (str u) (optI lo') (optI hi') none).run P w := by simp [Instr.sliceAt, run_underlying hu]
  rw [e0]
  simp only [Instr.slice, str, Sem.run_bind, run_underlying hu, Result.andThen_ok, str_sz, Option.isSome_none, Bool.false_eq_true, if_false, hb, Sem.run_pure, hx2]
 simp only [execOp, ho, e1, f1, f2, Option.map_none, Sem.run_bind, hsl, Result.andThen_ok, Sem.run_pure]
theorem ok_s2b {u : List UInt8} {src dst e : TypeId} {ud : TypeDesc} (hlen : u.length ≤ 1099511627776) (hs : P.underlying src = some ud) (hd' : P.underlying dst = some (.slice e)) (he : P.underlying e = some (.int .u8)) (ho : o.op = .convert src dst x) (hd : o.dst = some d) (hn : d < n) (hx : opd σ x = .av (.one (.v (str u)))) :
  OpOk P cx n σ o (opk x) [(.s d, .av (.one (BY u)))] := by
 intro σ' a w Q ⟨ρ, h⟩ h1 _ K hK
 have e1 : a.eval x = str u := h.opd ((opd_same h1).trans hx)
 have hrun := Lib.run_convert_string_bytes (P := P) w src dst e ⟨u.toArray⟩ hs hd' he
 unfold Oper.wp
 simp only [execOp, ho, e1, Sem.run_bind]
 rw [show str u = .string ⟨u.toArray⟩ from rfl, hrun]
 simp only [Result.andThen_ok, Sem.run_pure, Oper.upon_value]
 rw [hd, str_sz]
 have hb : Below w.heap.size w (Lib.bytesWorld w e ⟨u.toArray⟩) := ⟨rfl, rfl, rfl, by rw [Lib.bytesWorld_size]; omega, fun k hk => Lib.bytesWorld_at_old w e _ k hk⟩
 refine hK _ _ ⟨ρ, h.put hb hn ?_ (by intro b hb; cases hb)⟩
 intro w' hag
 have hl : w.heap.size < (Lib.bytesWorld w e ⟨u.toArray⟩).heap.size := by rw [Lib.bytesWorld_size]; omega
 have hg := (hag.2 w.heap.size hl (fun hL => by have := h.lofLt _ hL; omega)).trans (Lib.bytesWorld_at_new w e ⟨u.toArray⟩)
 have hge := grownCap_ge w u.length 0 e
 have hle := grownCap_le_maxLen w u.length 0 e (by unfold maxLen; omega)
 refine lstG_Lst none (byV u) w' w.heap.size 0 (grownCap w u.length 0 e) (byC u) (by rw [byV_length]; exact hge) hle byV_ats (fun j c hj => ?_) |> fun q => by rw [byV_length] at q; exact q
 rw [Nat.zero_add, cell_of_row w' _ _ _ e _ hg]
 have hj' := (List.getElem?_eq_some_iff.1 hj).1
 have hju : j < u.length := by simpa [byC] using hj'
 simp [Lib.bytesCells, Array.getElem?_append, hju]
 simpa [byC, List.getElem?_eq_getElem hju] using hj
theorem ok_s2bR {u : List UInt8} {src dst e : TypeId} {ud : TypeDesc} {r : Nat} (hlen : u.length ≤ 1099511627776) (hs : P.underlying src = some ud) (hd' : P.underlying dst = some (.slice e)) (he : P.underlying e = some (.int .u8)) (ho : o.op = .convert src dst x) (hd : o.dst = some d) (hn : d < n) (hx : opd σ x = .av (.one (.v (str u))))
  (hr : σ (.b r) = .no) (hrK : Nat.beq r 1000000 = false) : OpOk P cx n σ o (opk x) [(.s d, .av (.one (.sl r u.length))), (.b r, .row e none (byV u))] := by
 intro σ' a w Q ⟨ρ, h⟩ h1 h2 K hK
 have e1 : a.eval x = str u := h.opd ((opd_same h1).trans hx)
 have hrun := Lib.run_convert_string_bytes (P := P) w src dst e ⟨u.toArray⟩ hs hd' he
 unfold Oper.wp
 simp only [execOp, ho, e1, Sem.run_bind]
 rw [show str u = .string ⟨u.toArray⟩ from rfl, hrun]
 simp only [Result.andThen_ok, Sem.run_pure, Oper.upon_value]
 rw [hd, str_sz]
 have hb : Below w.heap.size w (Lib.bytesWorld w e ⟨u.toArray⟩) := ⟨rfl, rfl, rfl, by rw [Lib.bytesWorld_size]; omega, fun k hk => Lib.bytesWorld_at_old w e _ k hk⟩
 have hge := grownCap_ge w u.length 0 e
 have hle := grownCap_le_maxLen w u.length 0 e (by unfold maxLen; omega)
 refine hK _ _ (h.new (c := grownCap w u.length 0 e) hb hn ((h2 (.b r) (by simp [keys])).trans hr) (fun e => by subst e; cases hrK) (by simp) (Nat.le_refl _) (fun ρ' hρ => ⟨some ⟨w.heap.size, 0, none⟩, by rw [hρ], fun _ => by rw [hρ]⟩) (fun b hb => by simpa [AV.ptrs, SA.ptrs] using hb)
  (fun T ch e => by cases e) ?_ (by intro b hb; cases hb) (fun _ _ _ _ _ q => q))
 intro T1 k1 l1 eq
 injection eq with q1 q2 q3
 subst q1; subst q2; subst q3
 have hcells : (Lib.bytesCells w e ⟨u.toArray⟩) = (byC u ++ List.replicate (grownCap w u.length 0 e - u.length) (Value.int .u8 0)).toArray := by
  apply Array.ext'
  simp [Lib.bytesCells, byC, str_sz]
 have hg := Lib.bytesWorld_at_new w e ⟨u.toArray⟩
 rw [hcells] at hg
 refine ⟨⟨by rw [byV_length]; exact hge, hle, byV_ptrs u⟩, fun _ => ⟨byC u, List.replicate (grownCap w u.length 0 e - u.length) (.int .u8 0), ⟨_, hg, fun j hj => ?_⟩, byV_chs, ?_, fun _ c hc => ?_⟩⟩
 ·intro q
  have := q.1
  simp only [List.size_toArray] at this
  omega
 ·simp [byC]; omega
 ·rw [List.mem_append] at hc
  rcases hc with hc | hc
  ·obtain ⟨b, _, rfl⟩ := List.mem_map.1 hc; rfl
  ·rw [(List.mem_replicate.1 hc).2]; rfl
theorem ok_b2s {u : List UInt8} {src dst e : TypeId} (hs : P.underlying src = some (.slice e)) (he : P.underlying e = some (.int .u8)) (hd' : P.underlying dst = some .string) (ho : o.op = .convert src dst (.tmp t)) (hd : o.dst = some d) (hn : d < n) (ht : σ (.s t) = .av (.one (BY u))) :
  OpOk P cx n σ o [.s t] [(.s d, .av (.one (.v (str u))))] := by
 refine ok_read hd hn rfl fun σ' ρ a w h hk => ⟨_, ?_, rfl⟩
 obtain ⟨ao, c, hv, hle, hc⟩ := (h.slt t _ ((hk (.s t) (by simp)).trans ht)) w (Agree.refl _ _)
 rw [byV_length] at hv hc
 have e1 : a.eval (.tmp t) = .slice ao u.length c := hv
 have hr : (convert src dst (.slice ao u.length c)).run P w = .ok (str u) w := by
  by_cases hu : u.length = 0
  ·obtain rfl := List.eq_nil_of_length_eq_zero hu
   rw [run_convert_bytes_string w src dst e ao ([] : List UInt8).length c hs he hd']
   cases ao with
   | none => rfl
   | some ad =>
    rw [run_bytesToString w ad ([] : List UInt8).length c [] rfl]
    rfl
  ·obtain ⟨b, off, rfl, cs, h1, h2⟩ := hc (by omega)
   obtain rfl := byV_ats' h1
   exact run_convert_bytes_back w src dst e ⟨b, off, none⟩ c u hs he hd' fun j hj => by rw [Addr.add_lit]; exact h2 j _ (by simp [byC, List.getElem?_eq_getElem hj])
 simp only [execOp, ho, e1, Sem.run_bind, hr, Result.andThen_ok, Sem.run_pure]
theorem ok_b2sR {u : List UInt8} {src dst e e' : TypeId} {r m : Nat} (hm : m = u.length) (hs : P.underlying src = some (.slice e)) (he : P.underlying e = some (.int .u8)) (hd' : P.underlying dst = some .string) (ho : o.op = .convert src dst (.tmp t)) (hd : o.dst = some d) (hn : d < n) (ht : σ (.s t) = .av (.one (.sl r m))) (hr : σ (.b r) = .row e' none (byV u)) :
  OpOk P cx n σ o [.s t, .b r] [(.s d, .av (.one (.v (str u))))] := by
 subst hm
 refine ok_read hd hn rfl fun σ' ρ a w h hk => ⟨_, ?_, rfl⟩
 obtain ⟨a0, e1, e2⟩ := h.slt t _ ((hk (.s t) (by simp)).trans ht)
 have e1 : a.eval (.tmp t) = .slice a0 u.length (ρ r).2 := e1
 obtain ⟨⟨h1, h2⟩, h3⟩ := h.row r _ _ _ ((hk (.b r) (by simp)).trans hr)
 rw [byV_length] at h1
 have hrr : (convert src dst (.slice a0 u.length (ρ r).2)).run P w = .ok (str u) w := by
  by_cases hu : u.length = 0
  ·obtain rfl := List.eq_nil_of_length_eq_zero hu
   rw [run_convert_bytes_string w src dst e a0 ([] : List UInt8).length _ hs he hd']
   cases a0 with
   | none => rfl
   | some ad =>
    rw [run_bytesToString w ad ([] : List UInt8).length _ [] rfl]
    rfl
  ·have hc0 : 0 < (ρ r).2 := by omega
   rw [e2 hc0]
   obtain ⟨cs, sp, q1, q2, _⟩ := h3 hc0
   obtain rfl := byV_ats' (q2.ats (byV_ptrs u) (Agree.refl _ _))
   exact run_convert_bytes_back w src dst e _ _ u hs he hd' fun j hj => by
    rw [Addr.add_lit, Nat.zero_add, q1.cell, List.getElem?_append_left (by simpa [byC] using hj)]
    simp [byC, List.getElem?_eq_getElem hj]
 simp only [execOp, ho, e1, Sem.run_bind, hrr, Result.andThen_ok, Sem.run_pure]
theorem ok_cvi {src dst : TypeId} {k1 k2 : IntKind} {z z' : Int} (hz : k2.wrap z = z') (hs : P.underlying src = some (.int k1)) (hd' : P.underlying dst = some (.int k2)) (ho : o.op = .convert src dst x) (hd : o.dst = some d) (hn : d < n) (hx : opd σ x = .av (.one (.v (.int k1 z)))) :
  OpOk P cx n σ o (opk x) [(.s d, .av (.one (.v (.int k2 z'))))] := by
 refine ok_read hd hn rfl fun σ' ρ a w h hk => ⟨_, ?_, rfl⟩
 have e1 : a.eval x = .int k1 z := h.opd ((opd_same fun q hq => hk q (by simp [hq])).trans hx)
 simp [execOp, ho, e1, convert, run_underlying hs, run_underlying hd', Conv.intToInt, hz]
theorem ok_maxI {ts : Array TypeId} {k : IntKind} {a b c : Int} (hc : (if a < b then b else a) = c) (ho : o.op = .call ⟨.builtin .max, #[x, y], ts⟩) (hd : o.dst = some d) (hn : d < n) (hx : opd σ x = .av (.one (.v (.int k a)))) (hy : opd σ y = .av (.one (.v (.int k b)))) :
  OpOk P cx n σ o (opk x ++ opk y) [(.s d, .av (.one (.v (.int k c))))] := by
 refine ok_read hd hn rfl fun σ' ρ a w h hk => ⟨_, ?_, rfl⟩
 have e1 := h.opd ((opd_same fun q hq => hk q (by simp [hq])).trans hx)
 have e2 := h.opd ((opd_same fun q hq => hk q (by simp [hq])).trans hy)
 have e1 : a.eval x = _ := e1
 have e2 : a.eval y = _ := e2
 simp only [execOp, ho, resolve, invoke, builtin, Sem.run_bind, Sem.run_pure, Result.andThen_ok]
 rw [show (#[x, y] : Array Operand).map a.eval = #[a.eval x, a.eval y] by simp, e1, e2]
 rw [run_max_int2, hc]
 rfl
theorem ok_minI {ts : Array TypeId} {k : IntKind} {a b c : Int} (hc : (if b < a then b else a) = c) (ho : o.op = .call ⟨.builtin .min, #[x, y], ts⟩) (hd : o.dst = some d) (hn : d < n) (hx : opd σ x = .av (.one (.v (.int k a)))) (hy : opd σ y = .av (.one (.v (.int k b)))) :
  OpOk P cx n σ o (opk x ++ opk y) [(.s d, .av (.one (.v (.int k c))))] := by
 refine ok_read hd hn rfl fun σ' ρ a w h hk => ⟨_, ?_, rfl⟩
 have e1 := h.opd ((opd_same fun q hq => hk q (by simp [hq])).trans hx)
 have e2 := h.opd ((opd_same fun q hq => hk q (by simp [hq])).trans hy)
 have e1 : a.eval x = _ := e1
 have e2 : a.eval y = _ := e2
 simp only [execOp, ho, resolve, invoke, builtin, Sem.run_bind, Sem.run_pure, Result.andThen_ok]
 rw [show (#[x, y] : Array Operand).map a.eval = #[a.eval x, a.eval y] by simp, e1, e2]
 rw [run_min_int2, hc]
 rfl
end

/-! Types of this program. -/
theorem u_str : Tryz.prog.underlying 9 = some .string := by kernel_rfl
theorem u_bytes : Tryz.prog.underlying 23 = some (.slice 5) := by kernel_rfl
theorem u_u8 : Tryz.prog.underlying 5 = some (.int .u8) := by kernel_rfl
theorem u_ints : Tryz.prog.underlying 22 = some (.slice 3) := by kernel_rfl
theorem inf_u8 : (Tryz.prog.info? 5).map (fun i => (i.zero, i.size, i.bytes)) = some (some (.int .u8 0), 1, 1) := by kernel_rfl
theorem inf_i64 : (Tryz.prog.info? 3).map (fun i => (i.zero, i.size, i.bytes)) = some (some (.int .i64 0), 1, 8) := by kernel_rfl
theorem zs_u8 : (Tryz.prog.info? 5).map (fun i => (i.size, i.zero)) = some (1, some (.int .u8 0)) := by kernel_rfl
theorem zs_i64 : (Tryz.prog.info? 3).map (fun i => (i.size, i.zero)) = some (1, some (.int .i64 0)) := by kernel_rfl
theorem sz_u8 : (Tryz.prog.info? 5).map (·.size) = some 1 := by kernel_rfl
theorem sz_i64 : (Tryz.prog.info? 3).map (·.size) = some 1 := by kernel_rfl
theorem ty_u8 : TyIs Tryz.prog 5 none := TyIs.one (by kernel_rfl) (by kernel_rfl)
theorem ty_bytes : TyIs Tryz.prog 23 none := TyIs.one (by kernel_rfl) (by kernel_rfl)
theorem ty_str : TyIs Tryz.prog 9 none := TyIs.one (by kernel_rfl) (by kernel_rfl)
end Vc
end Go.Proofs.YtpgiebimhnhbiaaGreatDoor
