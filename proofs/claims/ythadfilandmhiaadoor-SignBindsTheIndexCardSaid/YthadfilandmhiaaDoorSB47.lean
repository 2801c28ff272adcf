/-
  Signatures: the laws' walks: what is made, what is verified.
  Signatures: the laws' walks: what is signed is accepted; the index is bound.
  Signatures: the laws' walks: the index is bound.
-/
import Derived.Test.YthadfilandmhiaaDoorSB46
set_option linter.unusedVariables false
set_option linter.unusedSimpArgs false
set_option linter.unusedSectionVars false
namespace Go.Proofs.YthadfilandmhiaaDoor
open Go.RowKit
open Go.Lib (hid)
open Dg Zn S
namespace Vc
section
variable {cx : Cx Dm} {n : Nat} {σ : St Dm} {o : Oper} {d t : Nat}
/-- An element of an array that is data. -/
theorem ok_idxAP {P : Program} {m i : Nat} {cs : List Value} {v : Value} {j : Operand} {ty e : TypeId} (hv : cs[i]? = some v) (h1 : v.oneCell' = true) (hi : i < m) (hu : P.underlying ty = some (.array m e)) (hsz : (P.info? e).map (·.size) = some 1) (ho : o.op = .indexAddr ty (.tmp t) j) (hd : o.dst = some d) (hn : d < n)
    (ht : σ (.s t) = .av (.one (.d (.gen (pG (some m) (.v (.agg cs.toArray))))))) (hj : opd σ j = .av (.one (.v (.int .i64 (i : Int))))) : OpOk P cx n σ o (.s t :: opk j) [(.s d, .av (.one (.d (.gen (pG none (.v v))))))] := by
  refine ok_read hd hn rfl fun σ' ρ a w h hk' => ?_
  have ht' := (hk' (.s t) (by simp)).trans ht
  obtain ⟨b, off, u, e1, hnL, cs', hs, hat, hc⟩ := p_open (ρ := ρ) (k := some m) (show 0 < m by omega) (h.slt t _ ht')
  have e1 : a.eval (.tmp t) = .pointer (some ⟨b, off, none⟩) := e1
  have e2 : a.eval j = .int .i64 (i : Int) := h.opd ((opd_same fun q hq => hk' q (by simp [hq])).trans hj)
  have e3 : u = .agg cs.toArray := hat w (Agree.refl _ _)
  have e4 : cs' = cs := by
    have := hs.1.symm.trans e3
    simpa using congrArg Array.toList (Value.agg.inj this)
  subst e4
  refine ⟨.pointer (some ⟨b, off + i * 1, none⟩), ?_, ?_⟩
  · simp only [execOp, ho, e1, e2, Sem.run_bind, run_indexA hu hsz w b off i hi, Result.andThen_ok, Sem.run_pure]
  · intro w' hag
    refine ⟨b, off + i * 1, v, rfl, [v], ⟨rfl, h1⟩, rfl, fun m c hm => ?_⟩
    cases m with
    | zero =>
      obtain rfl : v = c := by simpa using hm
      rw [Nat.mul_one, Nat.add_zero, may_same hnL hag]
      exact hc i _ hv
    | succ m => simp at hm
theorem ok_catB {P : Program} {x y : Operand} {T T' : TypeId} {a b : List Nat} (hs : a.length + b.length ≤ 9223372036854775807) (ho : o.op = .binOp .add T x y T') (hd : o.dst = some d) (hn : d < n) (hx : opd σ x = .av (.one (.v (str (by8 a))))) (hy : opd σ y = .av (.one (.v (str (by8 b))))) : OpOk P cx n σ o (opk x ++ opk y) [(.s d, .av (.one (.v (str (by8 (a ++ b))))))] := by
  rw [by8_append]
  exact ok_catT (by rw [by8_length, by8_length]; exact hs) ho hd hn hx hy
end
/-- What Public returns. -/
def pubN (s : List Nat) (h : Int) : List Nat × Int := if s.length = 32 ∧ 0 ≤ h ∧ h ≤ 6 then (Sg.nodeN s h.toNat 0, 0) else (List.replicate 16 0, 1)
theorem pubN_length (s : List Nat) (h : Int) : (pubN s h).1.length = 16 := by
  unfold pubN; split
  · exact nodeN_length _ _ _
  · rfl
theorem pubN_bn (s : List Nat) (h : Int) : Bn (pubN s h).1 := by
  unfold pubN; split
  · exact nodeN_bn _ _ _
  · exact z16_bn
theorem Public_all (s : List Nat) (h : Int) (hs : Bn s) : Con Tryd.prog 12 [(.v (str (by8 s)) : SA Dm), .v (.int .i64 h)] (.tup [DG (by8 (pubN s h).1), EV (pubN s h).2]) := by
  unfold pubN
  split
  · next hv =>
    have := Public_con s h.toNat hs hv.1 (by omega)
    rwa [Int.toNat_of_nonneg hv.2.1] at this
  · next hv => exact Public_bad s h hv
theorem rPublic_all (s : List Nat) (h : Int) (hs : Bn s) : Con Tryd.prog 13 [(.v (str (by8 s)) : SA Dm), .v (.int .i64 h)] (.tup [DG (by8 (pubN s h).1), EV (pubN s h).2]) := by
  unfold pubN
  split
  · next hv =>
    have := rPublic_con s h.toNat hs hv.1 (by omega)
    rwa [Int.toNat_of_nonneg hv.2.1] at this
  · next hv => exact rPublic_bad s h hv
/-- What Sign returns. -/
def sgnA (s : List Nat) (h i : Int) (msg : List Nat) : List Nat × Int :=
  if s.length = 32 ∧ 0 ≤ h ∧ h ≤ 6 then if 0 ≤ i ∧ i < ((2 ^ h.toNat : Nat) : Int) then (Sg.signN s h.toNat i.toNat msg, 0) else ([], 24) else ([], 1)
theorem Sign_all (s msg : List Nat) (h i : Int) (hs : Bn s) (hm : Bn msg) (lm : msg.length ≤ 2000) : Con Tryd.prog 14 [(.v (str (by8 s)) : SA Dm), .v (.int .i64 h), .v (.int .i64 i), .v (str (by8 msg))] (.tup [.v (str (by8 (sgnA s h i msg).1)), EV (sgnA s h i msg).2]) := by
  unfold sgnA
  split
  · next hv =>
    obtain ⟨h', rfl⟩ : ∃ h' : Nat, h = (h' : Int) := ⟨h.toNat, by omega⟩
    rw [Int.toNat_natCast]
    split
    · next hi =>
      obtain ⟨i', rfl⟩ : ∃ i' : Nat, i = (i' : Int) := ⟨i.toNat, by omega⟩
      rw [Int.toNat_natCast]
      exact Sign_con s h' i' msg hs hv.1 (by omega) (by have := hi.2; exact_mod_cast this) hm lm
    · next hi => exact Sign_spent s msg h' i hv.1 (by omega) hi
  · next hv => exact Sign_arg s msg h i hv
theorem rSign_all (s msg : List Nat) (h i : Int) (hs : Bn s) (hm : Bn msg) (lm : msg.length ≤ 2000) : Con Tryd.prog 15 [(.v (str (by8 s)) : SA Dm), .v (.int .i64 h), .v (.int .i64 i), .v (str (by8 msg))] (.tup [.v (str (by8 (sgnA s h i msg).1)), EV (sgnA s h i msg).2]) := by
  unfold sgnA
  split
  · next hv =>
    obtain ⟨h', rfl⟩ : ∃ h' : Nat, h = (h' : Int) := ⟨h.toNat, by omega⟩
    rw [Int.toNat_natCast]
    split
    · next hi =>
      obtain ⟨i', rfl⟩ : ∃ i' : Nat, i = (i' : Int) := ⟨i.toNat, by omega⟩
      rw [Int.toNat_natCast]
      exact rSign_con s h' i' msg hs hv.1 (by omega) (by have := hi.2; exact_mod_cast this) hm lm
    · next hi => exact rSign_spent s msg h' i hv.1 (by omega) hi
  · next hv => exact rSign_arg s msg h i hv
/-- What Verify returns. -/
def verF (pub : List Nat) (h : Int) (msg sig : List Nat) : Int × Int := if 0 ≤ h ∧ h ≤ 6 then verN pub h.toNat msg sig else (0, 1)
theorem dec_used (sig : List Nat) (hb : Bn sig) : (W.dec (sigI sig)).2.1 ≤ sig.length := by
  have := W.dec_cases (sigI sig) (sigI_bs hb)
  rw [sigI_length] at this
  rcases this with ⟨n, u, h1, _, h2, _⟩ | h1 | h1
  · rw [h1]; exact h2
  · rw [h1]; exact Nat.zero_le _
  · rw [h1]; exact Nat.zero_le _
theorem Verify_all (pub msg sig : List Nat) (h : Int) (hp : Bn pub) (lp : pub.length = 16) (hm : Bn msg) (lm : msg.length ≤ 2000) (hsb : Bn sig) (lb : sig.length ≤ 100000) : Con Tryd.prog 18 [DG (by8 pub), .v (.int .i64 h), .v (str (by8 msg)), .v (str (by8 sig))] (.tup [.v (.int .i64 (verF pub h msg sig).1), EV (verF pub h msg sig).2]) := by
  unfold verF
  split
  · next hv =>
    have := Verify_con pub msg sig h.toNat (W.dec (sigI sig)).2.1 (W.dec (sigI sig)).1 (W.dec (sigI sig)).2.2 hp lp hm lm hsb lb (by omega) rfl (dec_used sig hsb)
    rwa [Int.toNat_of_nonneg hv.1] at this
  · next hv => exact Verify_bad pub msg sig h hv
theorem rVerify_all (pub msg sig : List Nat) (h : Int) (hp : Bn pub) (lp : pub.length = 16) (hm : Bn msg) (lm : msg.length ≤ 2000) (hsb : Bn sig) (lb : sig.length ≤ 100000) : Con Tryd.prog 19 [DG (by8 pub), .v (.int .i64 h), .v (str (by8 msg)), .v (str (by8 sig))] (.tup [.v (.int .i64 (verF pub h msg sig).1), EV (verF pub h msg sig).2]) := by
  unfold verF
  split
  · next hv =>
    have := rVerify_con pub msg sig h.toNat (W.dec (sigI sig)).2.1 (W.dec (sigI sig)).1 (W.dec (sigI sig)).2.2 hp lp hm lm hsb lb (by omega) rfl (dec_used sig hsb)
    rwa [Int.toNat_of_nonneg hv.1] at this
  · next hv => exact rVerify_bad pub msg sig h hv
theorem u_a2 : Tryd.prog.underlying 28 = some (.array 2 3) := by kernel_rfl
set_option maxRecDepth 100000 in
theorem makes_con (s msg : List Nat) (n0 n1 : Int) (hs : Bn s) (hm : Bn msg) (h1 : n1 ≤ 9223372036854775807) (h2 : -9223372036854775808 ≤ n1) (ls : s.length ≤ 9223372036854775807) (lm : msg.length ≤ 9223372036854775807) : Con Tryd.prog 4 [(.v (str (by8 s)) : SA Dm), .v (.agg [Value.int .i64 n0, Value.int .i64 n1].toArray), .v (str (by8 msg))] (.one (.v (.bool true))) := by
  refine Con.of (n := 104) Tryd.func4 rfl rfl rfl rfl rfl fun cx hfr => ?_
  refine CV.seq ?_
  refine CV.region rfl (fun h => nomatch h) ?_
  refine RV.step1 (OpOk.plain (ok_boxD rfl rfl (by decide) rfl rfl rfl) rfl) ?_
  refine RV.step1 (OpOk.plain (ok_move (.inr rfl) rfl (by decide) rfl) rfl) ?_
  refine RV.done ?_
  refine CV.seq ?_
  refine CV.region rfl (fun h => nomatch h) ?_
  refine RV.step1 (OpOk.plain (ok_call (sanity_con) rfl rfl (by decide) Tryd.func9 rfl rfl .nil rfl hfr rfl) rfl) ?_
  refine RV.step1 (OpOk.plain (ok_move (.inr rfl) rfl (by decide) rfl) rfl) ?_
  refine RV.done ?_
  refine CV.seq ?_
  refine CV.seq ?_
  refine CV.region rfl (fun h => nomatch h) ?_
  refine RV.step1 (OpOk.plain (ok_move (.inl rfl) rfl (by decide) rfl) rfl) ?_
  refine RV.step1 (OpOk.plain (ok_lenT (by8_length s) u_str rfl rfl (by decide) rfl) rfl) ?_
  refine RV.step1 (OpOk.plain (ok_gtr rfl rfl (by decide) rfl rfl) rfl) ?_
  refine RV.step1 (OpOk.plain (ok_move (.inl rfl) rfl (by decide) rfl) rfl) ?_
  refine RV.bool (fun hA => ?_) (fun hA => ?_)
  · refine RV.step1 (OpOk.skip rfl rfl rfl rfl rfl (by decide)) ?_
    refine RV.step1 (OpOk.skip rfl rfl rfl rfl rfl (by decide)) ?_
    refine RV.step1 (OpOk.skip rfl rfl rfl rfl rfl (by decide)) ?_
    refine RV.step1 (OpOk.plain (ok_pickT rfl rfl (by decide) rfl rfl rfl) rfl) ?_
    refine RV.step1 (OpOk.plain (ok_move (.inl rfl) rfl (by decide) rfl) rfl) ?_
    refine RV.step1 (OpOk.skip rfl rfl rfl rfl rfl (by decide)) ?_
    refine RV.step1 (OpOk.skip rfl rfl rfl rfl rfl (by decide)) ?_
    refine RV.step1 (OpOk.skip rfl rfl rfl rfl rfl (by decide)) ?_
    refine RV.step1 (OpOk.skip rfl rfl rfl rfl rfl (by decide)) ?_
    refine RV.step1 (OpOk.skipU rfl rfl rfl rfl (by decide)) ?_
    refine RV.step1 (OpOk.skipU rfl rfl rfl rfl (by decide)) ?_
    refine RV.step1 (OpOk.skipU rfl rfl rfl rfl (by decide)) ?_
    refine RV.step1 (OpOk.skip rfl rfl rfl rfl rfl (by decide)) ?_
    refine RV.step1 (OpOk.plain (ok_pickT rfl rfl (by decide) rfl rfl rfl) rfl) ?_
    refine RV.done ?_
    refine CV.yes rfl ?_
    refine CV.seq ?_
    refine CV.region rfl (fun h => nomatch h) ?_
    refine RV.step1 (OpOk.plain (ok_move (.inl rfl) rfl (by decide) rfl) rfl) ?_
    refine RV.step1 (OpOk.plain (ok_move (.inr rfl) rfl (by decide) rfl) rfl) ?_
    refine RV.done ?_
    refine CV.ret ?_
    exact fin1 rfl (.inr rfl) rfl is_rfl
  · refine RV.step1 (OpOk.yes (ok_move (.inl rfl) rfl (by decide) rfl) rfl rfl rfl) ?_
    refine RV.step1 (OpOk.yes (ok_lenT (by8_length msg) u_str rfl rfl (by decide) rfl) rfl rfl rfl) ?_
    refine RV.step1 (OpOk.yes (ok_gtr rfl rfl (by decide) rfl rfl) rfl rfl rfl) ?_
    refine RV.step1 (OpOk.plain (ok_pickF rfl rfl (by decide) rfl rfl rfl) rfl) ?_
    refine RV.step1 (OpOk.plain (ok_move (.inl rfl) rfl (by decide) rfl) rfl) ?_
    refine RV.bool (fun hB => ?_) (fun hB => ?_)
    · refine RV.step1 (OpOk.skip rfl rfl rfl rfl rfl (by decide)) ?_
      refine RV.step1 (OpOk.skip rfl rfl rfl rfl rfl (by decide)) ?_
      refine RV.step1 (OpOk.skip rfl rfl rfl rfl rfl (by decide)) ?_
      refine RV.step1 (OpOk.skip rfl rfl rfl rfl rfl (by decide)) ?_
      refine RV.step1 (OpOk.skipU rfl rfl rfl rfl (by decide)) ?_
      refine RV.step1 (OpOk.skipU rfl rfl rfl rfl (by decide)) ?_
      refine RV.step1 (OpOk.skipU rfl rfl rfl rfl (by decide)) ?_
      refine RV.step1 (OpOk.skip rfl rfl rfl rfl rfl (by decide)) ?_
      refine RV.step1 (OpOk.plain (ok_pickT rfl rfl (by decide) rfl rfl rfl) rfl) ?_
      refine RV.done ?_
      refine CV.yes rfl ?_
      refine CV.seq ?_
      refine CV.region rfl (fun h => nomatch h) ?_
      refine RV.step1 (OpOk.plain (ok_move (.inl rfl) rfl (by decide) rfl) rfl) ?_
      refine RV.step1 (OpOk.plain (ok_move (.inr rfl) rfl (by decide) rfl) rfl) ?_
      refine RV.done ?_
      refine CV.ret ?_
      exact fin1 rfl (.inr rfl) rfl is_rfl
    · have hml : msg.length ≤ 2000 := (by have := of_decide_eq_false hB; omega)
      refine RV.step1 (OpOk.yes (ok_idxAP (i := 0) rfl rfl (by decide) u_a2 sz_i64 rfl rfl (by decide) rfl rfl) rfl rfl rfl) ?_
      refine RV.step1 (OpOk.yes (ok_loadP ty_i64 (by decide) rfl rfl (by decide) rfl) rfl rfl rfl) ?_
      refine RV.step1 (OpOk.yes (ok_gtr rfl rfl (by decide) rfl rfl) rfl rfl rfl) ?_
      refine RV.step1 (OpOk.yes (ok_move (.inl rfl) rfl (by decide) rfl) rfl rfl rfl) ?_
      refine RV.bool (fun hC => ?_) (fun hC => ?_)
      · refine RV.step1 (OpOk.yes (ok_idxAP (i := 0) rfl rfl (by decide) u_a2 sz_i64 rfl rfl (by decide) rfl rfl) rfl rfl rfl) ?_
        refine RV.step1 (OpOk.yes (ok_loadP ty_i64 (by decide) rfl rfl (by decide) rfl) rfl rfl rfl) ?_
        refine RV.step1 (OpOk.yes (ok_leq rfl rfl (by decide) rfl rfl) rfl rfl rfl) ?_
        refine RV.step1 (OpOk.yes (ok_pickT rfl rfl (by decide) rfl rfl rfl) rfl rfl rfl) ?_
        refine RV.step1 (OpOk.plain (ok_pickF rfl rfl (by decide) rfl rfl rfl) rfl) ?_
        refine RV.done ?_
        refine CV.cond rfl (fun hD => ?_) (fun hD => ?_)
        · refine CV.seq ?_
          refine CV.region rfl (fun h => nomatch h) ?_
          refine RV.step1 (OpOk.plain (ok_move (.inl rfl) rfl (by decide) rfl) rfl) ?_
          refine RV.step1 (OpOk.plain (ok_move (.inr rfl) rfl (by decide) rfl) rfl) ?_
          refine RV.done ?_
          refine CV.ret ?_
          exact fin1 rfl (.inr rfl) rfl is_rfl
        · refine CV.skip ?_
          refine CV.seq ?_
          refine CV.region rfl (fun h => nomatch h) ?_
          refine RV.step1 (OpOk.plain (ok_move (.inl rfl) rfl (by decide) rfl) rfl) ?_
          refine RV.step1 (OpOk.plain (ok_idxAP (i := 0) rfl rfl (by decide) u_a2 sz_i64 rfl rfl (by decide) rfl rfl) rfl) ?_
          refine RV.step1 (OpOk.plain (ok_loadP ty_i64 (by decide) rfl rfl (by decide) rfl) rfl) ?_
          refine RV.step1 (OpOk.plain (ok_call (Public_all s n0 hs) rfl rfl (by decide) Tryd.func12 rfl rfl (.cons rfl Conv.any (.cons rfl Conv.any .nil)) rfl hfr rfl) rfl) ?_
          refine RV.step1 (OpOk.plain (ok_move (.inl rfl) rfl (by decide) rfl) rfl) ?_
          refine RV.step1 (OpOk.plain (ok_extract rfl rfl (by decide) rfl rfl) rfl) ?_
          refine RV.step1 (OpOk.plain (ok_extract rfl rfl (by decide) rfl rfl) rfl) ?_
          refine RV.step2 (OpOk.plain (ok_alloc (i := 0) rfl rfl (by decide) zero_dig rfl rfl rfl rfl) rfl) ?_
          refine RV.step1 (OpOk.plain (ok_store rfl rfl rfl rfl rfl rfl rfl (ty_dig).2 rfl rfl rfl rfl) rfl) ?_
          refine RV.step1 (OpOk.plain (ok_move (.inr rfl) rfl (by decide) rfl) rfl) ?_
          refine RV.done ?_
          refine CV.seq ?_
          refine CV.region rfl (fun h => nomatch h) ?_
          refine RV.step1 (OpOk.plain (ok_move (.inl rfl) rfl (by decide) rfl) rfl) ?_
          refine RV.step1 (OpOk.plain (ok_idxAP (i := 0) rfl rfl (by decide) u_a2 sz_i64 rfl rfl (by decide) rfl rfl) rfl) ?_
          refine RV.step1 (OpOk.plain (ok_loadP ty_i64 (by decide) rfl rfl (by decide) rfl) rfl) ?_
          refine RV.step1 (OpOk.plain (ok_call (rPublic_all s n0 hs) rfl rfl (by decide) Tryd.func13 rfl rfl (.cons rfl Conv.any (.cons rfl Conv.any .nil)) rfl hfr rfl) rfl) ?_
          refine RV.step1 (OpOk.plain (ok_move (.inl rfl) rfl (by decide) rfl) rfl) ?_
          refine RV.step1 (OpOk.plain (ok_extract rfl rfl (by decide) rfl rfl) rfl) ?_
          refine RV.step1 (OpOk.plain (ok_extract rfl rfl (by decide) rfl rfl) rfl) ?_
          refine RV.step2 (OpOk.plain (ok_alloc (i := 1) rfl rfl (by decide) zero_dig rfl rfl rfl rfl) rfl) ?_
          refine RV.step1 (OpOk.plain (ok_store rfl rfl rfl rfl rfl rfl rfl (ty_dig).2 rfl rfl rfl rfl) rfl) ?_
          refine RV.step1 (OpOk.plain (ok_move (.inr rfl) rfl (by decide) rfl) rfl) ?_
          refine RV.done ?_
          refine CV.seq ?_
          refine CV.region rfl (fun h => nomatch h) ?_
          refine RV.step1 (OpOk.plain (ok_move (.inl rfl) rfl (by decide) rfl) rfl) ?_
          refine RV.step1 (OpOk.plain (ok_idxAP (i := 0) rfl rfl (by decide) u_a2 sz_i64 rfl rfl (by decide) rfl rfl) rfl) ?_
          refine RV.step1 (OpOk.plain (ok_loadP ty_i64 (by decide) rfl rfl (by decide) rfl) rfl) ?_
          refine RV.step1 (OpOk.plain (ok_idxAP (i := 1) rfl rfl (by decide) u_a2 sz_i64 rfl rfl (by decide) rfl rfl) rfl) ?_
          refine RV.step1 (OpOk.plain (ok_loadP ty_i64 (by decide) rfl rfl (by decide) rfl) rfl) ?_
          refine RV.step1 (OpOk.plain (ok_move (.inl rfl) rfl (by decide) rfl) rfl) ?_
          refine RV.step1 (OpOk.plain (ok_call (Sign_all s msg n0 n1 hs hm hml) rfl rfl (by decide) Tryd.func14 rfl rfl (.cons rfl Conv.any (.cons rfl Conv.any (.cons rfl Conv.any (.cons rfl Conv.any .nil)))) rfl hfr rfl) rfl) ?_
          refine RV.step1 (OpOk.plain (ok_move (.inl rfl) rfl (by decide) rfl) rfl) ?_
          refine RV.step1 (OpOk.plain (ok_extract rfl rfl (by decide) rfl rfl) rfl) ?_
          refine RV.step1 (OpOk.plain (ok_extract rfl rfl (by decide) rfl rfl) rfl) ?_
          refine RV.step1 (OpOk.plain (ok_move (.inr rfl) rfl (by decide) rfl) rfl) ?_
          refine RV.step1 (OpOk.plain (ok_move (.inr rfl) rfl (by decide) rfl) rfl) ?_
          refine RV.done ?_
          refine CV.seq ?_
          refine CV.region rfl (fun h => nomatch h) ?_
          refine RV.step1 (OpOk.plain (ok_move (.inl rfl) rfl (by decide) rfl) rfl) ?_
          refine RV.step1 (OpOk.plain (ok_idxAP (i := 0) rfl rfl (by decide) u_a2 sz_i64 rfl rfl (by decide) rfl rfl) rfl) ?_
          refine RV.step1 (OpOk.plain (ok_loadP ty_i64 (by decide) rfl rfl (by decide) rfl) rfl) ?_
          refine RV.step1 (OpOk.plain (ok_idxAP (i := 1) rfl rfl (by decide) u_a2 sz_i64 rfl rfl (by decide) rfl rfl) rfl) ?_
          refine RV.step1 (OpOk.plain (ok_loadP ty_i64 (by decide) rfl rfl (by decide) rfl) rfl) ?_
          refine RV.step1 (OpOk.plain (ok_move (.inl rfl) rfl (by decide) rfl) rfl) ?_
          refine RV.step1 (OpOk.plain (ok_call (rSign_all s msg n0 n1 hs hm hml) rfl rfl (by decide) Tryd.func15 rfl rfl (.cons rfl Conv.any (.cons rfl Conv.any (.cons rfl Conv.any (.cons rfl Conv.any .nil)))) rfl hfr rfl) rfl) ?_
          refine RV.step1 (OpOk.plain (ok_move (.inl rfl) rfl (by decide) rfl) rfl) ?_
          refine RV.step1 (OpOk.plain (ok_extract rfl rfl (by decide) rfl rfl) rfl) ?_
          refine RV.step1 (OpOk.plain (ok_extract rfl rfl (by decide) rfl rfl) rfl) ?_
          refine RV.step1 (OpOk.plain (ok_move (.inr rfl) rfl (by decide) rfl) rfl) ?_
          refine RV.step1 (OpOk.plain (ok_move (.inr rfl) rfl (by decide) rfl) rfl) ?_
          refine RV.done ?_
          refine CV.seq ?_
          refine CV.region rfl (fun _ => by kernel_rfl) ?_
          refine RV.step1 (OpOk.plain (ok_move (.inl rfl) rfl (by decide) rfl) rfl) ?_
          refine RV.step1 (OpOk.plain (ok_move (.inl rfl) rfl (by decide) rfl) rfl) ?_
          refine RV.step1 (OpOk.yes (ok_load rfl rfl (by decide) rfl rfl rfl ty_dig) rfl rfl rfl) ?_
          refine RV.step1 (OpOk.yes (ok_load rfl rfl (by decide) rfl rfl rfl ty_dig) rfl rfl rfl) ?_
          refine RV.step1 (OpOk.yes (ok_cmpD (neg := false) (b := true) rfl (by simp) rfl rfl (by decide) rfl rfl) rfl rfl rfl) ?_
          refine RV.step1 (OpOk.plain (ok_pickT rfl rfl (by decide) rfl rfl rfl) rfl) ?_
          refine RV.step1 (OpOk.plain (ok_move (.inl rfl) rfl (by decide) rfl) rfl) ?_
          refine RV.step1 (OpOk.yes (ok_move (.inl rfl) rfl (by decide) rfl) rfl rfl rfl) ?_
          refine RV.step1 (OpOk.yes (ok_move (.inl rfl) rfl (by decide) rfl) rfl rfl rfl) ?_
          refine RV.step1 (OpOk.yes (ok_eql rfl rfl (by decide) rfl rfl) rfl rfl rfl) ?_
          refine RV.step1 (OpOk.plain (ok_pickT rfl rfl (by decide) rfl rfl rfl) rfl) ?_
          refine RV.step1 (OpOk.plain (ok_move (.inl rfl) rfl (by decide) rfl) rfl) ?_
          refine RV.bool (fun hb => ?_) (fun hb => False.elim (by simp at hb))
          refine RV.step1 (OpOk.yes (ok_move (.inl rfl) rfl (by decide) rfl) rfl rfl rfl) ?_
          refine RV.step1 (OpOk.yes (ok_move (.inl rfl) rfl (by decide) rfl) rfl rfl rfl) ?_
          refine RV.step1 (OpOk.yes (ok_eqT rfl rfl rfl (by decide) rfl rfl) rfl rfl rfl) ?_
          refine RV.step1 (OpOk.plain (ok_pickT rfl rfl (by decide) rfl rfl rfl) rfl) ?_
          refine RV.step1 (OpOk.plain (ok_move (.inl rfl) rfl (by decide) rfl) rfl) ?_
          refine RV.bool (fun hb => ?_) (fun hb => False.elim (by simp at hb))
          refine RV.step1 (OpOk.yes (ok_move (.inl rfl) rfl (by decide) rfl) rfl rfl rfl) ?_
          refine RV.step1 (OpOk.yes (ok_move (.inl rfl) rfl (by decide) rfl) rfl rfl rfl) ?_
          refine RV.step1 (OpOk.yes (ok_eql rfl rfl (by decide) rfl rfl) rfl rfl rfl) ?_
          refine RV.step1 (OpOk.plain (ok_pickT rfl rfl (by decide) rfl rfl rfl) rfl) ?_
          refine RV.step1 (OpOk.plain (ok_move (.inl rfl) rfl (by decide) rfl) rfl) ?_
          refine RV.bool (fun hb => ?_) (fun hb => False.elim (by simp at hb))
          refine RV.step1 (OpOk.yes (ok_load rfl rfl (by decide) rfl rfl rfl ty_dig) rfl rfl rfl) ?_
          refine RV.step1 (OpOk.yes (ok_idxAP (i := 1) rfl rfl (by decide) u_a2 sz_i64 rfl rfl (by decide) rfl rfl) rfl rfl rfl) ?_
          refine RV.step1 (OpOk.yes (ok_loadP ty_i64 (by decide) rfl rfl (by decide) rfl) rfl rfl rfl) ?_
          refine RV.step1 (OpOk.yes (ok_move (.inl rfl) rfl (by decide) rfl) rfl rfl rfl) ?_
          refine RV.step1 (OpOk.yes (ok_call (Digest_con (pubN s n0).1 msg n1 (pubN_bn _ _) (pubN_length _ _) hm hml h1 h2) rfl rfl (by decide) Tryd.func16 rfl rfl (.cons rfl Conv.any (.cons rfl Conv.any (.cons rfl Conv.any .nil))) rfl hfr rfl) rfl rfl rfl) ?_
          refine RV.step1 (OpOk.yes (ok_load rfl rfl (by decide) rfl rfl rfl ty_dig) rfl rfl rfl) ?_
          refine RV.step1 (OpOk.yes (ok_idxAP (i := 1) rfl rfl (by decide) u_a2 sz_i64 rfl rfl (by decide) rfl rfl) rfl rfl rfl) ?_
          refine RV.step1 (OpOk.yes (ok_loadP ty_i64 (by decide) rfl rfl (by decide) rfl) rfl rfl rfl) ?_
          refine RV.step1 (OpOk.yes (ok_move (.inl rfl) rfl (by decide) rfl) rfl rfl rfl) ?_
          refine RV.step1 (OpOk.yes (ok_call (rDigest_con (pubN s n0).1 msg n1 (pubN_bn _ _) (pubN_length _ _) hm hml h1 h2) rfl rfl (by decide) Tryd.func17 rfl rfl (.cons rfl Conv.any (.cons rfl Conv.any (.cons rfl Conv.any .nil))) rfl hfr rfl) rfl rfl rfl) ?_
          refine RV.step1 (OpOk.yes (ok_cmpD (neg := false) (b := true) rfl (by simp) rfl rfl (by decide) rfl rfl) rfl rfl rfl) ?_
          refine RV.step1 (OpOk.plain (ok_pickT rfl rfl (by decide) rfl rfl rfl) rfl) ?_
          refine RV.step1 (OpOk.plain (ok_move (.inr rfl) rfl (by decide) rfl) rfl) ?_
          refine RV.drawn (by kernel_rfl) ?_
          refine CV.ret ?_
          exact fin1 rfl (.inr rfl) rfl is_rfl
      · refine RV.step1 (OpOk.skip rfl rfl rfl rfl rfl (by decide)) ?_
        refine RV.step1 (OpOk.skip rfl rfl rfl rfl rfl (by decide)) ?_
        refine RV.step1 (OpOk.skip rfl rfl rfl rfl rfl (by decide)) ?_
        refine RV.step1 (OpOk.yes (ok_pickF rfl rfl (by decide) rfl rfl rfl) rfl rfl rfl) ?_
        refine RV.step1 (OpOk.plain (ok_pickF rfl rfl (by decide) rfl rfl rfl) rfl) ?_
        refine RV.done ?_
        refine CV.no rfl ?_
        refine CV.skip ?_
        refine CV.seq ?_
        refine CV.region rfl (fun h => nomatch h) ?_
        refine RV.step1 (OpOk.plain (ok_move (.inl rfl) rfl (by decide) rfl) rfl) ?_
        refine RV.step1 (OpOk.plain (ok_idxAP (i := 0) rfl rfl (by decide) u_a2 sz_i64 rfl rfl (by decide) rfl rfl) rfl) ?_
        refine RV.step1 (OpOk.plain (ok_loadP ty_i64 (by decide) rfl rfl (by decide) rfl) rfl) ?_
        refine RV.step1 (OpOk.plain (ok_call (Public_all s n0 hs) rfl rfl (by decide) Tryd.func12 rfl rfl (.cons rfl Conv.any (.cons rfl Conv.any .nil)) rfl hfr rfl) rfl) ?_
        refine RV.step1 (OpOk.plain (ok_move (.inl rfl) rfl (by decide) rfl) rfl) ?_
        refine RV.step1 (OpOk.plain (ok_extract rfl rfl (by decide) rfl rfl) rfl) ?_
        refine RV.step1 (OpOk.plain (ok_extract rfl rfl (by decide) rfl rfl) rfl) ?_
        refine RV.step2 (OpOk.plain (ok_alloc (i := 0) rfl rfl (by decide) zero_dig rfl rfl rfl rfl) rfl) ?_
        refine RV.step1 (OpOk.plain (ok_store rfl rfl rfl rfl rfl rfl rfl (ty_dig).2 rfl rfl rfl rfl) rfl) ?_
        refine RV.step1 (OpOk.plain (ok_move (.inr rfl) rfl (by decide) rfl) rfl) ?_
        refine RV.done ?_
        refine CV.seq ?_
        refine CV.region rfl (fun h => nomatch h) ?_
        refine RV.step1 (OpOk.plain (ok_move (.inl rfl) rfl (by decide) rfl) rfl) ?_
        refine RV.step1 (OpOk.plain (ok_idxAP (i := 0) rfl rfl (by decide) u_a2 sz_i64 rfl rfl (by decide) rfl rfl) rfl) ?_
        refine RV.step1 (OpOk.plain (ok_loadP ty_i64 (by decide) rfl rfl (by decide) rfl) rfl) ?_
        refine RV.step1 (OpOk.plain (ok_call (rPublic_all s n0 hs) rfl rfl (by decide) Tryd.func13 rfl rfl (.cons rfl Conv.any (.cons rfl Conv.any .nil)) rfl hfr rfl) rfl) ?_
        refine RV.step1 (OpOk.plain (ok_move (.inl rfl) rfl (by decide) rfl) rfl) ?_
        refine RV.step1 (OpOk.plain (ok_extract rfl rfl (by decide) rfl rfl) rfl) ?_
        refine RV.step1 (OpOk.plain (ok_extract rfl rfl (by decide) rfl rfl) rfl) ?_
        refine RV.step2 (OpOk.plain (ok_alloc (i := 1) rfl rfl (by decide) zero_dig rfl rfl rfl rfl) rfl) ?_
        refine RV.step1 (OpOk.plain (ok_store rfl rfl rfl rfl rfl rfl rfl (ty_dig).2 rfl rfl rfl rfl) rfl) ?_
        refine RV.step1 (OpOk.plain (ok_move (.inr rfl) rfl (by decide) rfl) rfl) ?_
        refine RV.done ?_
        refine CV.seq ?_
        refine CV.region rfl (fun h => nomatch h) ?_
        refine RV.step1 (OpOk.plain (ok_move (.inl rfl) rfl (by decide) rfl) rfl) ?_
        refine RV.step1 (OpOk.plain (ok_idxAP (i := 0) rfl rfl (by decide) u_a2 sz_i64 rfl rfl (by decide) rfl rfl) rfl) ?_
        refine RV.step1 (OpOk.plain (ok_loadP ty_i64 (by decide) rfl rfl (by decide) rfl) rfl) ?_
        refine RV.step1 (OpOk.plain (ok_idxAP (i := 1) rfl rfl (by decide) u_a2 sz_i64 rfl rfl (by decide) rfl rfl) rfl) ?_
        refine RV.step1 (OpOk.plain (ok_loadP ty_i64 (by decide) rfl rfl (by decide) rfl) rfl) ?_
        refine RV.step1 (OpOk.plain (ok_move (.inl rfl) rfl (by decide) rfl) rfl) ?_
        refine RV.step1 (OpOk.plain (ok_call (Sign_all s msg n0 n1 hs hm hml) rfl rfl (by decide) Tryd.func14 rfl rfl (.cons rfl Conv.any (.cons rfl Conv.any (.cons rfl Conv.any (.cons rfl Conv.any .nil)))) rfl hfr rfl) rfl) ?_
        refine RV.step1 (OpOk.plain (ok_move (.inl rfl) rfl (by decide) rfl) rfl) ?_
        refine RV.step1 (OpOk.plain (ok_extract rfl rfl (by decide) rfl rfl) rfl) ?_
        refine RV.step1 (OpOk.plain (ok_extract rfl rfl (by decide) rfl rfl) rfl) ?_
        refine RV.step1 (OpOk.plain (ok_move (.inr rfl) rfl (by decide) rfl) rfl) ?_
        refine RV.step1 (OpOk.plain (ok_move (.inr rfl) rfl (by decide) rfl) rfl) ?_
        refine RV.done ?_
        refine CV.seq ?_
        refine CV.region rfl (fun h => nomatch h) ?_
        refine RV.step1 (OpOk.plain (ok_move (.inl rfl) rfl (by decide) rfl) rfl) ?_
        refine RV.step1 (OpOk.plain (ok_idxAP (i := 0) rfl rfl (by decide) u_a2 sz_i64 rfl rfl (by decide) rfl rfl) rfl) ?_
        refine RV.step1 (OpOk.plain (ok_loadP ty_i64 (by decide) rfl rfl (by decide) rfl) rfl) ?_
        refine RV.step1 (OpOk.plain (ok_idxAP (i := 1) rfl rfl (by decide) u_a2 sz_i64 rfl rfl (by decide) rfl rfl) rfl) ?_
        refine RV.step1 (OpOk.plain (ok_loadP ty_i64 (by decide) rfl rfl (by decide) rfl) rfl) ?_
        refine RV.step1 (OpOk.plain (ok_move (.inl rfl) rfl (by decide) rfl) rfl) ?_
        refine RV.step1 (OpOk.plain (ok_call (rSign_all s msg n0 n1 hs hm hml) rfl rfl (by decide) Tryd.func15 rfl rfl (.cons rfl Conv.any (.cons rfl Conv.any (.cons rfl Conv.any (.cons rfl Conv.any .nil)))) rfl hfr rfl) rfl) ?_
        refine RV.step1 (OpOk.plain (ok_move (.inl rfl) rfl (by decide) rfl) rfl) ?_
        refine RV.step1 (OpOk.plain (ok_extract rfl rfl (by decide) rfl rfl) rfl) ?_
        refine RV.step1 (OpOk.plain (ok_extract rfl rfl (by decide) rfl rfl) rfl) ?_
        refine RV.step1 (OpOk.plain (ok_move (.inr rfl) rfl (by decide) rfl) rfl) ?_
        refine RV.step1 (OpOk.plain (ok_move (.inr rfl) rfl (by decide) rfl) rfl) ?_
        refine RV.done ?_
        refine CV.seq ?_
        refine CV.region rfl (fun _ => by kernel_rfl) ?_
        refine RV.step1 (OpOk.plain (ok_move (.inl rfl) rfl (by decide) rfl) rfl) ?_
        refine RV.step1 (OpOk.plain (ok_move (.inl rfl) rfl (by decide) rfl) rfl) ?_
        refine RV.step1 (OpOk.yes (ok_load rfl rfl (by decide) rfl rfl rfl ty_dig) rfl rfl rfl) ?_
        refine RV.step1 (OpOk.yes (ok_load rfl rfl (by decide) rfl rfl rfl ty_dig) rfl rfl rfl) ?_
        refine RV.step1 (OpOk.yes (ok_cmpD (neg := false) (b := true) rfl (by simp) rfl rfl (by decide) rfl rfl) rfl rfl rfl) ?_
        refine RV.step1 (OpOk.plain (ok_pickT rfl rfl (by decide) rfl rfl rfl) rfl) ?_
        refine RV.step1 (OpOk.plain (ok_move (.inl rfl) rfl (by decide) rfl) rfl) ?_
        refine RV.step1 (OpOk.yes (ok_move (.inl rfl) rfl (by decide) rfl) rfl rfl rfl) ?_
        refine RV.step1 (OpOk.yes (ok_move (.inl rfl) rfl (by decide) rfl) rfl rfl rfl) ?_
        refine RV.step1 (OpOk.yes (ok_eql rfl rfl (by decide) rfl rfl) rfl rfl rfl) ?_
        refine RV.step1 (OpOk.plain (ok_pickT rfl rfl (by decide) rfl rfl rfl) rfl) ?_
        refine RV.step1 (OpOk.plain (ok_move (.inl rfl) rfl (by decide) rfl) rfl) ?_
        refine RV.bool (fun hb => ?_) (fun hb => False.elim (by simp at hb))
        refine RV.step1 (OpOk.yes (ok_move (.inl rfl) rfl (by decide) rfl) rfl rfl rfl) ?_
        refine RV.step1 (OpOk.yes (ok_move (.inl rfl) rfl (by decide) rfl) rfl rfl rfl) ?_
        refine RV.step1 (OpOk.yes (ok_eqT rfl rfl rfl (by decide) rfl rfl) rfl rfl rfl) ?_
        refine RV.step1 (OpOk.plain (ok_pickT rfl rfl (by decide) rfl rfl rfl) rfl) ?_
        refine RV.step1 (OpOk.plain (ok_move (.inl rfl) rfl (by decide) rfl) rfl) ?_
        refine RV.bool (fun hb => ?_) (fun hb => False.elim (by simp at hb))
        refine RV.step1 (OpOk.yes (ok_move (.inl rfl) rfl (by decide) rfl) rfl rfl rfl) ?_
        refine RV.step1 (OpOk.yes (ok_move (.inl rfl) rfl (by decide) rfl) rfl rfl rfl) ?_
        refine RV.step1 (OpOk.yes (ok_eql rfl rfl (by decide) rfl rfl) rfl rfl rfl) ?_
        refine RV.step1 (OpOk.plain (ok_pickT rfl rfl (by decide) rfl rfl rfl) rfl) ?_
        refine RV.step1 (OpOk.plain (ok_move (.inl rfl) rfl (by decide) rfl) rfl) ?_
        refine RV.bool (fun hb => ?_) (fun hb => False.elim (by simp at hb))
        refine RV.step1 (OpOk.yes (ok_load rfl rfl (by decide) rfl rfl rfl ty_dig) rfl rfl rfl) ?_
        refine RV.step1 (OpOk.yes (ok_idxAP (i := 1) rfl rfl (by decide) u_a2 sz_i64 rfl rfl (by decide) rfl rfl) rfl rfl rfl) ?_
        refine RV.step1 (OpOk.yes (ok_loadP ty_i64 (by decide) rfl rfl (by decide) rfl) rfl rfl rfl) ?_
        refine RV.step1 (OpOk.yes (ok_move (.inl rfl) rfl (by decide) rfl) rfl rfl rfl) ?_
        refine RV.step1 (OpOk.yes (ok_call (Digest_con (pubN s n0).1 msg n1 (pubN_bn _ _) (pubN_length _ _) hm hml h1 h2) rfl rfl (by decide) Tryd.func16 rfl rfl (.cons rfl Conv.any (.cons rfl Conv.any (.cons rfl Conv.any .nil))) rfl hfr rfl) rfl rfl rfl) ?_
        refine RV.step1 (OpOk.yes (ok_load rfl rfl (by decide) rfl rfl rfl ty_dig) rfl rfl rfl) ?_
        refine RV.step1 (OpOk.yes (ok_idxAP (i := 1) rfl rfl (by decide) u_a2 sz_i64 rfl rfl (by decide) rfl rfl) rfl rfl rfl) ?_
        refine RV.step1 (OpOk.yes (ok_loadP ty_i64 (by decide) rfl rfl (by decide) rfl) rfl rfl rfl) ?_
        refine RV.step1 (OpOk.yes (ok_move (.inl rfl) rfl (by decide) rfl) rfl rfl rfl) ?_
        refine RV.step1 (OpOk.yes (ok_call (rDigest_con (pubN s n0).1 msg n1 (pubN_bn _ _) (pubN_length _ _) hm hml h1 h2) rfl rfl (by decide) Tryd.func17 rfl rfl (.cons rfl Conv.any (.cons rfl Conv.any (.cons rfl Conv.any .nil))) rfl hfr rfl) rfl rfl rfl) ?_
        refine RV.step1 (OpOk.yes (ok_cmpD (neg := false) (b := true) rfl (by simp) rfl rfl (by decide) rfl rfl) rfl rfl rfl) ?_
        refine RV.step1 (OpOk.plain (ok_pickT rfl rfl (by decide) rfl rfl rfl) rfl) ?_
        refine RV.step1 (OpOk.plain (ok_move (.inr rfl) rfl (by decide) rfl) rfl) ?_
        refine RV.drawn (by kernel_rfl) ?_
        refine CV.ret ?_
        exact fin1 rfl (.inr rfl) rfl is_rfl
set_option maxRecDepth 100000 in
theorem verifies_con (pub msg sig : List Nat) (h : Int) (hp : Bn pub) (lp : pub.length = 16) (hm : Bn msg) (hsb : Bn sig) (lm : msg.length ≤ 9223372036854775807) (lb : sig.length ≤ 9223372036854775807) : Con Tryd.prog 5 [DG (by8 pub), .v (.int .i64 h), .v (str (by8 msg)), .v (str (by8 sig))] (.one (.v (.bool true))) := by
  refine Con.of (n := 51) Tryd.func5 rfl rfl rfl rfl rfl fun cx hfr => ?_
  refine CV.seq ?_
  refine CV.region rfl (fun h => nomatch h) ?_
  refine RV.step2 (OpOk.plain (ok_box (i := 0) rfl rfl (by decide) rfl rfl rfl rfl rfl) rfl) ?_
  refine RV.step1 (OpOk.plain (ok_move (.inr rfl) rfl (by decide) rfl) rfl) ?_
  refine RV.done ?_
  refine CV.seq ?_
  refine CV.region rfl (fun h => nomatch h) ?_
  refine RV.step1 (OpOk.plain (ok_call (sanity_con) rfl rfl (by decide) Tryd.func9 rfl rfl .nil rfl hfr rfl) rfl) ?_
  refine RV.step1 (OpOk.plain (ok_move (.inr rfl) rfl (by decide) rfl) rfl) ?_
  refine RV.done ?_
  refine CV.seq ?_
  refine CV.seq ?_
  refine CV.region rfl (fun h => nomatch h) ?_
  refine RV.step1 (OpOk.plain (ok_move (.inl rfl) rfl (by decide) rfl) rfl) ?_
  refine RV.step1 (OpOk.plain (ok_lenT (by8_length msg) u_str rfl rfl (by decide) rfl) rfl) ?_
  refine RV.step1 (OpOk.plain (ok_gtr rfl rfl (by decide) rfl rfl) rfl) ?_
  refine RV.step1 (OpOk.plain (ok_move (.inl rfl) rfl (by decide) rfl) rfl) ?_
  refine RV.bool (fun hA => ?_) (fun hA => ?_)
  · refine RV.step1 (OpOk.skip rfl rfl rfl rfl rfl (by decide)) ?_
    refine RV.step1 (OpOk.skip rfl rfl rfl rfl rfl (by decide)) ?_
    refine RV.step1 (OpOk.skip rfl rfl rfl rfl rfl (by decide)) ?_
    refine RV.step1 (OpOk.plain (ok_pickT rfl rfl (by decide) rfl rfl rfl) rfl) ?_
    refine RV.done ?_
    refine CV.yes rfl ?_
    refine CV.seq ?_
    refine CV.region rfl (fun h => nomatch h) ?_
    refine RV.step1 (OpOk.plain (ok_move (.inl rfl) rfl (by decide) rfl) rfl) ?_
    refine RV.step1 (OpOk.plain (ok_move (.inr rfl) rfl (by decide) rfl) rfl) ?_
    refine RV.done ?_
    refine CV.ret ?_
    exact fin1 rfl (.inr rfl) rfl is_rfl
  · have hml : msg.length ≤ 2000 := (by have := of_decide_eq_false hA; omega)
    refine RV.step1 (OpOk.yes (ok_move (.inl rfl) rfl (by decide) rfl) rfl rfl rfl) ?_
    refine RV.step1 (OpOk.yes (ok_lenT (by8_length sig) u_str rfl rfl (by decide) rfl) rfl rfl rfl) ?_
    refine RV.step1 (OpOk.yes (ok_gtr rfl rfl (by decide) rfl rfl) rfl rfl rfl) ?_
    refine RV.step1 (OpOk.plain (ok_pickF rfl rfl (by decide) rfl rfl rfl) rfl) ?_
    refine RV.done ?_
    refine CV.cond rfl (fun hB => ?_) (fun hB => ?_)
    · refine CV.seq ?_
      refine CV.region rfl (fun h => nomatch h) ?_
      refine RV.step1 (OpOk.plain (ok_move (.inl rfl) rfl (by decide) rfl) rfl) ?_
      refine RV.step1 (OpOk.plain (ok_move (.inr rfl) rfl (by decide) rfl) rfl) ?_
      refine RV.done ?_
      refine CV.ret ?_
      exact fin1 rfl (.inr rfl) rfl is_rfl
    · have hsl : sig.length ≤ 100000 := (by have := of_decide_eq_false hB; omega)
      refine CV.skip ?_
      refine CV.seq ?_
      refine CV.region rfl (fun h => nomatch h) ?_
      refine RV.step1 (OpOk.plain (ok_load rfl rfl (by decide) rfl rfl rfl ty_dig) rfl) ?_
      refine RV.step1 (OpOk.plain (ok_move (.inl rfl) rfl (by decide) rfl) rfl) ?_
      refine RV.step1 (OpOk.plain (ok_move (.inl rfl) rfl (by decide) rfl) rfl) ?_
      refine RV.step1 (OpOk.plain (ok_move (.inl rfl) rfl (by decide) rfl) rfl) ?_
      refine RV.step1 (OpOk.plain (ok_call (Verify_all pub msg sig h hp lp hm hml hsb hsl) rfl rfl (by decide) Tryd.func18 rfl rfl (.cons rfl Conv.any (.cons rfl Conv.any (.cons rfl Conv.any (.cons rfl Conv.any .nil)))) rfl hfr rfl) rfl) ?_
      refine RV.step1 (OpOk.plain (ok_move (.inl rfl) rfl (by decide) rfl) rfl) ?_
      refine RV.step1 (OpOk.plain (ok_extract rfl rfl (by decide) rfl rfl) rfl) ?_
      refine RV.step1 (OpOk.plain (ok_extract rfl rfl (by decide) rfl rfl) rfl) ?_
      refine RV.step1 (OpOk.plain (ok_move (.inr rfl) rfl (by decide) rfl) rfl) ?_
      refine RV.step1 (OpOk.plain (ok_move (.inr rfl) rfl (by decide) rfl) rfl) ?_
      refine RV.done ?_
      refine CV.seq ?_
      refine CV.region rfl (fun h => nomatch h) ?_
      refine RV.step1 (OpOk.plain (ok_load rfl rfl (by decide) rfl rfl rfl ty_dig) rfl) ?_
      refine RV.step1 (OpOk.plain (ok_move (.inl rfl) rfl (by decide) rfl) rfl) ?_
      refine RV.step1 (OpOk.plain (ok_move (.inl rfl) rfl (by decide) rfl) rfl) ?_
      refine RV.step1 (OpOk.plain (ok_move (.inl rfl) rfl (by decide) rfl) rfl) ?_
      refine RV.step1 (OpOk.plain (ok_call (rVerify_all pub msg sig h hp lp hm hml hsb hsl) rfl rfl (by decide) Tryd.func19 rfl rfl (.cons rfl Conv.any (.cons rfl Conv.any (.cons rfl Conv.any (.cons rfl Conv.any .nil)))) rfl hfr rfl) rfl) ?_
      refine RV.step1 (OpOk.plain (ok_move (.inl rfl) rfl (by decide) rfl) rfl) ?_
      refine RV.step1 (OpOk.plain (ok_extract rfl rfl (by decide) rfl rfl) rfl) ?_
      refine RV.step1 (OpOk.plain (ok_extract rfl rfl (by decide) rfl rfl) rfl) ?_
      refine RV.step1 (OpOk.plain (ok_move (.inr rfl) rfl (by decide) rfl) rfl) ?_
      refine RV.step1 (OpOk.plain (ok_move (.inr rfl) rfl (by decide) rfl) rfl) ?_
      refine RV.done ?_
      refine CV.seq ?_
      refine CV.region rfl (fun h => nomatch h) ?_
      refine RV.step1 (OpOk.plain (ok_move (.inl rfl) rfl (by decide) rfl) rfl) ?_
      refine RV.step1 (OpOk.plain (ok_move (.inl rfl) rfl (by decide) rfl) rfl) ?_
      refine RV.step1 (OpOk.yes (ok_move (.inl rfl) rfl (by decide) rfl) rfl rfl rfl) ?_
      refine RV.step1 (OpOk.yes (ok_move (.inl rfl) rfl (by decide) rfl) rfl rfl rfl) ?_
      refine RV.step1 (OpOk.yes (ok_eql rfl rfl (by decide) rfl rfl) rfl rfl rfl) ?_
      refine RV.step1 (OpOk.plain (ok_pickT rfl rfl (by decide) rfl rfl rfl) rfl) ?_
      refine RV.step1 (OpOk.plain (ok_move (.inl rfl) rfl (by decide) rfl) rfl) ?_
      refine RV.bool (fun hb => ?_) (fun hb => False.elim (by simp at hb))
      refine RV.step1 (OpOk.yes (ok_move (.inl rfl) rfl (by decide) rfl) rfl rfl rfl) ?_
      refine RV.step1 (OpOk.yes (ok_move (.inl rfl) rfl (by decide) rfl) rfl rfl rfl) ?_
      refine RV.step1 (OpOk.yes (ok_eql rfl rfl (by decide) rfl rfl) rfl rfl rfl) ?_
      refine RV.step1 (OpOk.plain (ok_pickT rfl rfl (by decide) rfl rfl rfl) rfl) ?_
      refine RV.step1 (OpOk.plain (ok_move (.inr rfl) rfl (by decide) rfl) rfl) ?_
      refine RV.done ?_
      refine CV.ret ?_
      exact fin1 rfl (.inr rfl) rfl (is_bool (by simp))
theorem seedN_bn {c : Nat} (hc : c < 256) : Bn (seedN c) := fun x hx => by
  have := List.eq_of_mem_replicate hx
  omega
theorem seedN_length (c : Nat) : (seedN c).length = 32 := List.length_replicate
theorem by8_take (l : List Nat) (k : Nat) : (by8 l).take k = by8 (l.take k) := by simp [by8, List.map_take]
theorem by8_drop (l : List Nat) (k : Nat) : (by8 l).drop k = by8 (l.drop k) := by simp [by8, List.map_drop]
theorem bn_app {a b : List Nat} (ha : Bn a) (hb : Bn b) : Bn (a ++ b) := fun x hx => (List.mem_append.1 hx).elim (ha x) (hb x)
set_option maxRecDepth 100000 in
theorem binds_con (c a b d : Nat) (msg : List Nat) (hcc : c < 256) (ha : a < 256) (hbb : b < 256) (hdd : d < 256) (hm : Bn msg) (lm : msg.length ≤ 9223372036854775807) : Con Tryd.prog 8 [(.v (.int .u8 (c : Int)) : SA Dm), .v (.int .u8 (a : Int)), .v (.int .u8 (b : Int)), .v (.int .u8 (d : Int)), .v (str (by8 msg))] (.one (.v (.bool true))) := by
  have hs8 := seedN_bn hcc
  have hs32 := seedN_length c
  refine Con.of (n := 139) Tryd.func8 rfl rfl rfl rfl rfl fun cx hfr => ?_
  refine CV.seq ?_
  refine CV.region rfl (fun h => nomatch h) ?_
  refine RV.step1 (OpOk.plain (ok_move (.inr rfl) rfl (by decide) rfl) rfl) ?_
  refine RV.done ?_
  refine CV.seq ?_
  refine CV.region rfl (fun h => nomatch h) ?_
  refine RV.step1 (OpOk.plain (ok_call (sanity_con) rfl rfl (by decide) Tryd.func9 rfl rfl .nil rfl hfr rfl) rfl) ?_
  refine RV.step1 (OpOk.plain (ok_move (.inr rfl) rfl (by decide) rfl) rfl) ?_
  refine RV.done ?_
  refine CV.seq ?_
  refine CV.seq ?_
  refine CV.region rfl (fun h => nomatch h) ?_
  refine RV.step1 (OpOk.plain (ok_move (.inl rfl) rfl (by decide) rfl) rfl) ?_
  refine RV.step1 (OpOk.plain (ok_lenT (by8_length msg) u_str rfl rfl (by decide) rfl) rfl) ?_
  refine RV.step1 (OpOk.plain (ok_gtr rfl rfl (by decide) rfl rfl) rfl) ?_
  refine RV.done ?_
  refine CV.cond rfl (fun hA => ?_) (fun hA => ?_)
  · refine CV.seq ?_
    refine CV.region rfl (fun h => nomatch h) ?_
    refine RV.step1 (OpOk.plain (ok_move (.inl rfl) rfl (by decide) rfl) rfl) ?_
    refine RV.step1 (OpOk.plain (ok_move (.inr rfl) rfl (by decide) rfl) rfl) ?_
    refine RV.done ?_
    refine CV.ret ?_
    exact fin1 rfl (.inr rfl) rfl is_rfl
  · have hml : msg.length ≤ 200 := (by have := of_decide_eq_false hA; omega)
    refine CV.skip ?_
    refine CV.seq ?_
    refine CV.region rfl (fun h => nomatch h) ?_
    refine RV.step1 (OpOk.plain (ok_move (.inl rfl) rfl (by decide) rfl) rfl) ?_
    refine RV.step1 (OpOk.plain (ok_cvi (z' := (a : Int)) (wrapI (by omega) (by omega)) u_u8 u_i64 rfl rfl (by decide) rfl) rfl) ?_
    refine RV.step1 (OpOk.plain (ok_remN (m := a) (q := 3) (by decide) rfl rfl (by decide) rfl rfl) rfl) ?_
    refine RV.step1 (OpOk.plain (ok_move (.inr rfl) rfl (by decide) rfl) rfl) ?_
    refine RV.done ?_
    refine CV.seq ?_
    obtain ⟨h, hh⟩ : ∃ h, h = a % 3 := ⟨_, rfl⟩
    rw [← hh]
    have hh2 : h ≤ 2 := (by omega)
    have hpow := pow_small (h := h) (by omega)
    refine CV.region rfl (fun h => nomatch h) ?_
    refine RV.step1 (OpOk.plain (ok_move (.inl rfl) rfl (by decide) rfl) rfl) ?_
    refine RV.step1 (OpOk.plain (ok_cvi (z' := (b : Int)) (wrapI (by omega) (by omega)) u_u8 u_i64 rfl rfl (by decide) rfl) rfl) ?_
    refine RV.step1 (OpOk.plain (ok_move (.inl rfl) rfl (by decide) rfl) rfl) ?_
    refine RV.step1 (OpOk.plain (ok_shl (j := h) (c := ((2 ^ h : Nat) : Int)) (by omega) (shl_small (by omega)) rfl rfl (by decide) rfl rfl) rfl) ?_
    refine RV.step1 (OpOk.plain (ok_remN (m := b) (q := 2 ^ h) (Nat.two_pow_pos h) rfl rfl (by decide) rfl rfl) rfl) ?_
    refine RV.step1 (OpOk.plain (ok_move (.inr rfl) rfl (by decide) rfl) rfl) ?_
    refine RV.done ?_
    refine CV.seq ?_
    refine CV.region rfl (fun h => nomatch h) ?_
    refine RV.step1 (OpOk.plain (ok_move (.inl rfl) rfl (by decide) rfl) rfl) ?_
    refine RV.step1 (OpOk.plain (ok_cvi (z' := (d : Int)) (wrapI (by omega) (by omega)) u_u8 u_i64 rfl rfl (by decide) rfl) rfl) ?_
    refine RV.step1 (OpOk.plain (ok_move (.inl rfl) rfl (by decide) rfl) rfl) ?_
    refine RV.step1 (OpOk.plain (ok_shl (j := h) (c := ((2 ^ h : Nat) : Int)) (by omega) (shl_small (by omega)) rfl rfl (by decide) rfl rfl) rfl) ?_
    refine RV.step1 (OpOk.plain (ok_remN (m := d) (q := 2 ^ h) (Nat.two_pow_pos h) rfl rfl (by decide) rfl rfl) rfl) ?_
    refine RV.step1 (OpOk.plain (ok_move (.inr rfl) rfl (by decide) rfl) rfl) ?_
    refine RV.done ?_
    refine CV.seq ?_
    obtain ⟨i, hi⟩ : ∃ i, i = b % 2 ^ h := ⟨_, rfl⟩
    obtain ⟨k, hk⟩ : ∃ k, k = d % 2 ^ h := ⟨_, rfl⟩
    rw [← hi, ← hk]
    have hi2 : i < 2 ^ h := (by rw [hi]; exact Nat.mod_lt _ (Nat.two_pow_pos h))
    have hk2 : k < 2 ^ h := (by rw [hk]; exact Nat.mod_lt _ (Nat.two_pow_pos h))
    have hS1 := signN_length (seedN c) h i msg
    have hT1 := signN_length (seedN c) h k msg
    have hS9 := intN_le9 i (by omega)
    have hT9 := intN_le9 k (by omega)
    have hPb := nodeN_bn (seedN c) h 0
    have hPl := nodeN_length (seedN c) h 0
    have hv1 := ver_own (seedN c) (h := h) (i := i) (by omega) hi2 msg
    have etS := signN_tail (seedN c) h i msg
    have etT := signN_tail (seedN c) h k msg
    have hRl := tailN_length (seedN c) h i msg
    have hRb := tailN_bn (seedN c) h i msg
    have hIb := intN_bn (k : Int)
    have hq := dec_int k (by omega) (tailN (seedN c) h i msg)
    have hM : (Sg.intN (k : Int) ++ tailN (seedN c) h i msg).length ≤ 2000 := (by rw [List.length_append, hRl]; omega)
    have hSd : (Sg.signN (seedN c) h i msg).drop ((Sg.signN (seedN c) h i msg).length - (68 + h) * 16) = tailN (seedN c) h i msg := (by rw [hS1, Nat.add_sub_cancel, etS]; exact List.drop_left)
    have hTt : (Sg.signN (seedN c) h k msg).take ((Sg.signN (seedN c) h k msg).length - (68 + h) * 16) = Sg.intN (k : Int) := (by rw [hT1, Nat.add_sub_cancel, etT]; exact List.take_left)
    obtain ⟨S, hS⟩ : ∃ S, S = Sg.signN (seedN c) h i msg := ⟨_, rfl⟩
    obtain ⟨T, hT⟩ : ∃ T, T = Sg.signN (seedN c) h k msg := ⟨_, rfl⟩
    rw [← hS] at hS1 hSd
    rw [← hT] at hT1 hTt
    refine CV.region rfl (fun h => nomatch h) ?_
    refine RV.step1 (OpOk.plain (ok_move (.inl rfl) rfl (by decide) rfl) rfl) ?_
    refine RV.step1 (OpOk.plain (ok_call (seed_con c hcc) rfl rfl (by decide) Tryd.func20 rfl rfl (.cons rfl Conv.any .nil) rfl hfr rfl) rfl) ?_
    refine RV.step1 (OpOk.plain (ok_move (.inl rfl) rfl (by decide) rfl) rfl) ?_
    refine RV.step1 (OpOk.plain (ok_call (Public_con (seedN c) h hs8 hs32 (by omega)) rfl rfl (by decide) Tryd.func12 rfl rfl (.cons rfl Conv.any (.cons rfl Conv.any .nil)) rfl hfr rfl) rfl) ?_
    refine RV.step1 (OpOk.plain (ok_move (.inl rfl) rfl (by decide) rfl) rfl) ?_
    refine RV.step1 (OpOk.plain (ok_extract rfl rfl (by decide) rfl rfl) rfl) ?_
    refine RV.step1 (OpOk.plain (ok_extract rfl rfl (by decide) rfl rfl) rfl) ?_
    refine RV.step2 (OpOk.plain (ok_alloc (i := 0) rfl rfl (by decide) zero_dig rfl rfl rfl rfl) rfl) ?_
    refine RV.step1 (OpOk.plain (ok_store rfl rfl rfl rfl rfl rfl rfl (ty_dig).2 rfl rfl rfl rfl) rfl) ?_
    refine RV.step1 (OpOk.plain (ok_move (.inr rfl) rfl (by decide) rfl) rfl) ?_
    refine RV.done ?_
    refine CV.seq ?_
    refine CV.region rfl (fun h => nomatch h) ?_
    refine RV.step1 (OpOk.plain (ok_move (.inl rfl) rfl (by decide) rfl) rfl) ?_
    refine RV.step1 (OpOk.plain (ok_call (seed_con c hcc) rfl rfl (by decide) Tryd.func20 rfl rfl (.cons rfl Conv.any .nil) rfl hfr rfl) rfl) ?_
    refine RV.step1 (OpOk.plain (ok_move (.inl rfl) rfl (by decide) rfl) rfl) ?_
    refine RV.step1 (OpOk.plain (ok_move (.inl rfl) rfl (by decide) rfl) rfl) ?_
    refine RV.step1 (OpOk.plain (ok_move (.inl rfl) rfl (by decide) rfl) rfl) ?_
    refine RV.step1 (OpOk.plain (ok_call (Sign_con (seedN c) h i msg hs8 hs32 (by omega) hi2 hm (by omega)) rfl rfl (by decide) Tryd.func14 rfl rfl (.cons rfl Conv.any (.cons rfl Conv.any (.cons rfl Conv.any (.cons rfl Conv.any .nil)))) rfl hfr rfl) rfl) ?_
    refine RV.step1 (OpOk.plain (ok_move (.inl rfl) rfl (by decide) rfl) rfl) ?_
    refine RV.step1 (OpOk.plain (ok_extract rfl rfl (by decide) rfl rfl) rfl) ?_
    refine RV.step1 (OpOk.plain (ok_extract rfl rfl (by decide) rfl rfl) rfl) ?_
    refine RV.step1 (OpOk.plain (ok_move (.inr rfl) rfl (by decide) rfl) rfl) ?_
    refine RV.step1 (OpOk.plain (ok_move (.inr rfl) rfl (by decide) rfl) rfl) ?_
    refine RV.done ?_
    refine CV.seq ?_
    refine CV.region rfl (fun h => nomatch h) ?_
    refine RV.step1 (OpOk.plain (ok_move (.inl rfl) rfl (by decide) rfl) rfl) ?_
    refine RV.step1 (OpOk.plain (ok_call (seed_con c hcc) rfl rfl (by decide) Tryd.func20 rfl rfl (.cons rfl Conv.any .nil) rfl hfr rfl) rfl) ?_
    refine RV.step1 (OpOk.plain (ok_move (.inl rfl) rfl (by decide) rfl) rfl) ?_
    refine RV.step1 (OpOk.plain (ok_move (.inl rfl) rfl (by decide) rfl) rfl) ?_
    refine RV.step1 (OpOk.plain (ok_move (.inl rfl) rfl (by decide) rfl) rfl) ?_
    refine RV.step1 (OpOk.plain (ok_call (Sign_con (seedN c) h k msg hs8 hs32 (by omega) hk2 hm (by omega)) rfl rfl (by decide) Tryd.func14 rfl rfl (.cons rfl Conv.any (.cons rfl Conv.any (.cons rfl Conv.any (.cons rfl Conv.any .nil)))) rfl hfr rfl) rfl) ?_
    refine RV.step1 (OpOk.plain (ok_move (.inl rfl) rfl (by decide) rfl) rfl) ?_
    refine RV.step1 (OpOk.plain (ok_extract rfl rfl (by decide) rfl rfl) rfl) ?_
    refine RV.step1 (OpOk.plain (ok_extract rfl rfl (by decide) rfl rfl) rfl) ?_
    refine RV.step1 (OpOk.plain (ok_move (.inr rfl) rfl (by decide) rfl) rfl) ?_
    refine RV.step1 (OpOk.plain (ok_move (.inr rfl) rfl (by decide) rfl) rfl) ?_
    refine RV.done ?_
    refine CV.seq ?_
    refine CV.seq ?_
    rw [← hS, ← hT]
    refine CV.region rfl (fun h => nomatch h) ?_
    refine RV.step1 (OpOk.plain (ok_move (.inl rfl) rfl (by decide) rfl) rfl) ?_
    refine RV.step1 (OpOk.plain (ok_neq rfl rfl (by decide) rfl rfl) rfl) ?_
    refine RV.step1 (OpOk.plain (ok_move (.inl rfl) rfl (by decide) rfl) rfl) ?_
    refine RV.bool (fun hb => False.elim (by simp at hb)) (fun hb => ?_)
    refine RV.step1 (OpOk.yes (ok_move (.inl rfl) rfl (by decide) rfl) rfl rfl rfl) ?_
    refine RV.step1 (OpOk.yes (ok_lenT (by8_length S) u_str rfl rfl (by decide) rfl) rfl rfl rfl) ?_
    refine RV.step1 (OpOk.yes (ok_lss rfl rfl (by decide) rfl rfl) rfl rfl rfl) ?_
    refine RV.step1 (OpOk.plain (ok_pickF rfl rfl (by decide) rfl rfl rfl) rfl) ?_
    refine RV.done ?_
    refine CV.cond rfl (fun hc => False.elim (by have := of_decide_eq_true hc; omega)) (fun hc => ?_)
    refine CV.skip ?_
    refine CV.seq ?_
    refine CV.region rfl (fun h => nomatch h) ?_
    refine RV.step1 (OpOk.plain (ok_move (.inl rfl) rfl (by decide) rfl) rfl) ?_
    refine RV.step1 (OpOk.plain (ok_add (c := ((68 + h : Nat) : Int)) (by rw [wrapI (by omega) (by omega)]; omega) rfl rfl (by decide) rfl rfl) rfl) ?_
    refine RV.step1 (OpOk.plain (ok_mul (c := (((68 + h) * 16 : Nat) : Int)) (by rw [wrapI (by omega) (by omega)]; omega) rfl rfl (by decide) rfl rfl) rfl) ?_
    refine RV.step1 (OpOk.plain (ok_move (.inr rfl) rfl (by decide) rfl) rfl) ?_
    refine RV.done ?_
    refine CV.seq ?_
    refine CV.seq ?_
    refine CV.region rfl (fun h => nomatch h) ?_
    refine RV.step1 (OpOk.plain (ok_move (.inl rfl) rfl (by decide) rfl) rfl) ?_
    refine RV.step1 (OpOk.plain (ok_lenT (by8_length S) u_str rfl rfl (by decide) rfl) rfl) ?_
    refine RV.step1 (OpOk.plain (ok_move (.inl rfl) rfl (by decide) rfl) rfl) ?_
    refine RV.step1 (OpOk.plain (ok_lss rfl rfl (by decide) rfl rfl) rfl) ?_
    refine RV.step1 (OpOk.plain (ok_move (.inl rfl) rfl (by decide) rfl) rfl) ?_
    refine RV.bool (fun hb => False.elim (by have := of_decide_eq_true hb; omega)) (fun hb => ?_)
    refine RV.step1 (OpOk.yes (ok_move (.inl rfl) rfl (by decide) rfl) rfl rfl rfl) ?_
    refine RV.step1 (OpOk.yes (ok_lenT (by8_length T) u_str rfl rfl (by decide) rfl) rfl rfl rfl) ?_
    refine RV.step1 (OpOk.yes (ok_move (.inl rfl) rfl (by decide) rfl) rfl rfl rfl) ?_
    refine RV.step1 (OpOk.yes (ok_lss rfl rfl (by decide) rfl rfl) rfl rfl rfl) ?_
    refine RV.step1 (OpOk.plain (ok_pickF rfl rfl (by decide) rfl rfl rfl) rfl) ?_
    refine RV.done ?_
    refine CV.cond rfl (fun hc => False.elim (by have := of_decide_eq_true hc; omega)) (fun hc => ?_)
    refine CV.skip ?_
    refine CV.seq ?_
    refine CV.region rfl (fun _ => by kernel_rfl) ?_
    refine RV.step1 (OpOk.plain (ok_move (.inl rfl) rfl (by decide) rfl) rfl) ?_
    refine RV.step1 (OpOk.plain (ok_move (.inl rfl) rfl (by decide) rfl) rfl) ?_
    refine RV.step1 (OpOk.plain (ok_lenT (by8_length T) u_str rfl rfl (by decide) rfl) rfl) ?_
    refine RV.step1 (OpOk.plain (ok_move (.inl rfl) rfl (by decide) rfl) rfl) ?_
    refine RV.step1 (OpOk.plain (ok_sub (c := ((T.length - (68 + h) * 16 : Nat) : Int)) (by rw [wrapI (by omega) (by omega)]; omega) rfl rfl (by decide) rfl rfl) rfl) ?_
    refine RV.step1 (OpOk.plain (ok_cutT (v := by8 (Sg.intN (k : Int))) none (some (T.length - (68 + h) * 16)) (by rw [← hTt, ← by8_take]; rfl) (Nat.zero_le _) (by rw [by8_length]; exact Nat.sub_le _ _) u_str rfl rfl (by decide) rfl trivial rfl) rfl) ?_
    refine RV.step1 (OpOk.plain (ok_move (.inl rfl) rfl (by decide) rfl) rfl) ?_
    refine RV.step1 (OpOk.plain (ok_move (.inl rfl) rfl (by decide) rfl) rfl) ?_
    refine RV.step1 (OpOk.plain (ok_lenT (by8_length S) u_str rfl rfl (by decide) rfl) rfl) ?_
    refine RV.step1 (OpOk.plain (ok_move (.inl rfl) rfl (by decide) rfl) rfl) ?_
    refine RV.step1 (OpOk.plain (ok_sub (c := ((S.length - (68 + h) * 16 : Nat) : Int)) (by rw [wrapI (by omega) (by omega)]; omega) rfl rfl (by decide) rfl rfl) rfl) ?_
    refine RV.step1 (OpOk.plain (ok_cutT (v := by8 (tailN (seedN c) h i msg)) (some (S.length - (68 + h) * 16)) none (by rw [← hSd, ← by8_drop, Option.getD_none, List.take_length]; rfl) (by rw [Option.getD_none, by8_length]; exact Nat.sub_le _ _) (Nat.le_refl _) u_str rfl rfl (by decide) rfl rfl trivial) rfl) ?_
    refine RV.step1 (OpOk.plain (ok_catB (a := Sg.intN (k : Int)) (b := tailN (seedN c) h i msg) (by rw [List.length_append] at hM; omega) rfl rfl (by decide) rfl rfl) rfl) ?_
    refine RV.step1 (OpOk.plain (ok_move (.inr rfl) rfl (by decide) rfl) rfl) ?_
    refine RV.drawn (by kernel_rfl) ?_
    refine CV.seq ?_
    obtain ⟨M, hMe⟩ : ∃ M, M = Sg.intN (k : Int) ++ tailN (seedN c) h i msg := ⟨_, rfl⟩
    have hMb := bn_app hIb hRb
    rw [← hMe] at hM hMb hq ⊢
    have hu9 : (Sg.intN (k : Int)).length ≤ M.length := (by rw [hMe, List.length_append]; omega)
    have hown : i = k → verN (Sg.nodeN (seedN c) h 0) h msg M = ((i : Int), 0) := (fun q => by rw [← hv1, hMe, ← q, etS])
    refine CV.region rfl (fun h => nomatch h) ?_
    refine RV.step1 (OpOk.plain (ok_load rfl rfl (by decide) rfl rfl rfl ty_dig) rfl) ?_
    refine RV.step1 (OpOk.plain (ok_move (.inl rfl) rfl (by decide) rfl) rfl) ?_
    refine RV.step1 (OpOk.plain (ok_move (.inl rfl) rfl (by decide) rfl) rfl) ?_
    refine RV.step1 (OpOk.plain (ok_move (.inl rfl) rfl (by decide) rfl) rfl) ?_
    refine RV.step1 (OpOk.plain (ok_call (Verify_con (Sg.nodeN (seedN c) h 0) msg M h _ _ _ hPb hPl hm (by omega) hMb (by omega) (by omega) hq hu9) rfl rfl (by decide) Tryd.func18 rfl rfl (.cons rfl Conv.any (.cons rfl Conv.any (.cons rfl Conv.any (.cons rfl Conv.any .nil)))) rfl hfr rfl) rfl) ?_
    refine RV.step1 (OpOk.plain (ok_move (.inl rfl) rfl (by decide) rfl) rfl) ?_
    refine RV.step1 (OpOk.plain (ok_extract rfl rfl (by decide) rfl rfl) rfl) ?_
    refine RV.step1 (OpOk.plain (ok_extract rfl rfl (by decide) rfl rfl) rfl) ?_
    refine RV.step1 (OpOk.plain (ok_move (.inr rfl) rfl (by decide) rfl) rfl) ?_
    refine RV.step1 (OpOk.plain (ok_move (.inr rfl) rfl (by decide) rfl) rfl) ?_
    refine RV.done ?_
    refine CV.seq ?_
    refine CV.region rfl (fun h => nomatch h) ?_
    refine RV.step1 (OpOk.plain (ok_load rfl rfl (by decide) rfl rfl rfl ty_dig) rfl) ?_
    refine RV.step1 (OpOk.plain (ok_move (.inl rfl) rfl (by decide) rfl) rfl) ?_
    refine RV.step1 (OpOk.plain (ok_move (.inl rfl) rfl (by decide) rfl) rfl) ?_
    refine RV.step1 (OpOk.plain (ok_move (.inl rfl) rfl (by decide) rfl) rfl) ?_
    refine RV.step1 (OpOk.plain (ok_call (rVerify_con (Sg.nodeN (seedN c) h 0) msg M h _ _ _ hPb hPl hm (by omega) hMb (by omega) (by omega) hq hu9) rfl rfl (by decide) Tryd.func19 rfl rfl (.cons rfl Conv.any (.cons rfl Conv.any (.cons rfl Conv.any (.cons rfl Conv.any .nil)))) rfl hfr rfl) rfl) ?_
    refine RV.step1 (OpOk.plain (ok_move (.inl rfl) rfl (by decide) rfl) rfl) ?_
    refine RV.step1 (OpOk.plain (ok_extract rfl rfl (by decide) rfl rfl) rfl) ?_
    refine RV.step1 (OpOk.plain (ok_extract rfl rfl (by decide) rfl rfl) rfl) ?_
    refine RV.step1 (OpOk.plain (ok_move (.inr rfl) rfl (by decide) rfl) rfl) ?_
    refine RV.step1 (OpOk.plain (ok_move (.inr rfl) rfl (by decide) rfl) rfl) ?_
    refine RV.done ?_
    refine CV.seq ?_
    refine CV.region rfl (fun h => nomatch h) ?_
    refine RV.step1 (OpOk.plain (ok_move (.inl rfl) rfl (by decide) rfl) rfl) ?_
    refine RV.step1 (OpOk.plain (ok_move (.inl rfl) rfl (by decide) rfl) rfl) ?_
    refine RV.step1 (OpOk.yes (ok_move (.inl rfl) rfl (by decide) rfl) rfl rfl rfl) ?_
    refine RV.step1 (OpOk.yes (ok_move (.inl rfl) rfl (by decide) rfl) rfl rfl rfl) ?_
    refine RV.step1 (OpOk.yes (ok_eql rfl rfl (by decide) rfl rfl) rfl rfl rfl) ?_
    refine RV.step1 (OpOk.plain (ok_pickT rfl rfl (by decide) rfl rfl rfl) rfl) ?_
    refine RV.step1 (OpOk.plain (ok_move (.inl rfl) rfl (by decide) rfl) rfl) ?_
    refine RV.bool (fun hb => ?_) (fun hb => False.elim (by simp at hb))
    refine RV.step1 (OpOk.yes (ok_move (.inl rfl) rfl (by decide) rfl) rfl rfl rfl) ?_
    refine RV.step1 (OpOk.yes (ok_move (.inl rfl) rfl (by decide) rfl) rfl rfl rfl) ?_
    refine RV.step1 (OpOk.yes (ok_eql rfl rfl (by decide) rfl rfl) rfl rfl rfl) ?_
    refine RV.step1 (OpOk.plain (ok_pickT rfl rfl (by decide) rfl rfl rfl) rfl) ?_
    refine RV.step1 (OpOk.plain (ok_move (.inl rfl) rfl (by decide) rfl) rfl) ?_
    refine RV.bool (fun hb => ?_) (fun hb => False.elim (by simp at hb))
    refine RV.step1 (OpOk.yes (ok_move (.inl rfl) rfl (by decide) rfl) rfl rfl rfl) ?_
    refine RV.step1 (OpOk.yes (ok_move (.inl rfl) rfl (by decide) rfl) rfl rfl rfl) ?_
    refine RV.step1 (OpOk.yes (ok_neq rfl rfl (by decide) rfl rfl) rfl rfl rfl) ?_
    refine RV.step1 (OpOk.yes (ok_move (.inl rfl) rfl (by decide) rfl) rfl rfl rfl) ?_
    refine RV.bool (fun hik => ?_) (fun hik => ?_)
    · refine RV.step1 (OpOk.skip rfl rfl rfl rfl rfl (by decide)) ?_
      refine RV.step1 (OpOk.skip rfl rfl rfl rfl rfl (by decide)) ?_
      refine RV.step1 (OpOk.yes (ok_pickT rfl rfl (by decide) rfl rfl rfl) rfl rfl rfl) ?_
      refine RV.step1 (OpOk.plain (ok_pickT rfl rfl (by decide) rfl rfl rfl) rfl) ?_
      refine RV.step1 (OpOk.plain (ok_move (.inr rfl) rfl (by decide) rfl) rfl) ?_
      refine RV.done ?_
      refine CV.ret ?_
      exact fin1 rfl (.inr rfl) rfl is_rfl
    · refine RV.step1 (OpOk.yes (ok_move (.inl rfl) rfl (by decide) rfl) rfl rfl rfl) ?_
      refine RV.step1 (OpOk.yes (ok_eql rfl rfl (by decide) rfl rfl) rfl rfl rfl) ?_
      refine RV.step1 (OpOk.yes (ok_pickF rfl rfl (by decide) rfl rfl rfl) rfl rfl rfl) ?_
      refine RV.step1 (OpOk.plain (ok_pickT rfl rfl (by decide) rfl rfl rfl) rfl) ?_
      refine RV.step1 (OpOk.plain (ok_move (.inr rfl) rfl (by decide) rfl) rfl) ?_
      refine RV.done ?_
      refine CV.ret ?_
      exact fin1 rfl (.inr rfl) rfl (is_bool (by have e : i = k := (by have := hik; simp at this; omega); rw [hown e]; rfl))
end Vc
end Go.Proofs.YthadfilandmhiaaDoor
