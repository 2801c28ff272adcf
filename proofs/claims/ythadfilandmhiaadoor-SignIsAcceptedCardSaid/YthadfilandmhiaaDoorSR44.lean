/-
  Signatures: the laws' walks: what is signed is accepted; the index is bound.
  Signatures: the laws' walks: the index is bound.
  Signatures: what came in, and from a contract to a law's walk.
-/
import Derived.Test.YthadfilandmhiaaDoorSR43
import Derived.Test.YthadfilandmhiaaDoorSR22
set_option linter.unusedVariables false
set_option linter.unusedSimpArgs false
set_option linter.unusedSectionVars false
namespace Go.Proofs.YthadfilandmhiaaDoor
open Go.RowKit
open Go.Lib (hid)
open Dg Zn S
namespace Vc
theorem ver_short {pub msg r : List Nat} {h i : Nat} (hi : i ≤ 1000) (hr : r.length ≠ (68 + h) * 16) : verN pub h msg (Sg.intN (i : Int) ++ r) = (0, 2) :=
  ver_len (pub := pub) (msg := msg) (h := h) (dec_int i hi r) rfl (by rw [List.drop_left]; exact hr)
theorem seedN_bn {c : Nat} (hc : c < 256) : Bn (seedN c) := fun x hx => by
  have := List.eq_of_mem_replicate hx
  omega
theorem seedN_length (c : Nat) : (seedN c).length = 32 := List.length_replicate
theorem sign_take (seed : List Nat) (h i : Nat) (msg : List Nat) : (Sg.signN seed h i msg).take ((Sg.signN seed h i msg).length - 1) = Sg.intN (i : Int) ++ (tailN seed h i msg).take ((68 + h) * 16 - 1) := by
  have h1 := signN_length seed h i msg
  rw [h1, signN_tail, List.take_append, List.take_of_length_le (by omega)]
  congr 2
  omega
theorem by8_take (l : List Nat) (k : Nat) : (by8 l).take k = by8 (l.take k) := by simp [by8, List.map_take]
theorem bn_take {l : List Nat} (h : Bn l) (k : Nat) : Bn (l.take k) := fun x hx => h x (List.mem_of_mem_take hx)
theorem bn_app {a b : List Nat} (ha : Bn a) (hb : Bn b) : Bn (a ++ b) := fun x hx => (List.mem_append.1 hx).elim (ha x) (hb x)
set_option maxRecDepth 100000 in
theorem accepted_con (c a b : Nat) (msg : List Nat) (hcc : c < 256) (ha : a < 256) (hbb : b < 256) (hm : Bn msg) (lm : msg.length ≤ 9223372036854775807) : Con Tryd.prog 6 [(.v (.int .u8 (c : Int)) : SA Dm), .v (.int .u8 (a : Int)), .v (.int .u8 (b : Int)), .v (str (by8 msg))] (.one (.v (.bool true))) := by
  have hs8 := seedN_bn hcc
  have hs32 := seedN_length c
  refine Con.of (n := 109) Tryd.func6 rfl rfl rfl rfl rfl fun cx hfr => ?_
  refine CV.seq ?_
  refine CV.region rfl (fun h => nomatch h) ?_
  refine RV.step1 (OpOk.plain (ok_move (.inr rfl) rfl (by decide) rfl) rfl) ?_
  refine RV.done ?_
  refine CV.seq ?_
  refine CV.region rfl (fun h => nomatch h) ?_
  refine RV.step1 (OpOk.plain (ok_call (sanity_con) rfl rfl (by decide) Tryd.func9 rfl rfl .nil rfl hfr rfl) rfl) ?_
  refine RV.step1 (OpOk.plain (ok_move (.inr rfl) rfl (by decide) rfl) rfl) ?_
  refine RV.done ?_
  refine CV.seq ?_
  refine CV.seq ?_
  refine CV.region rfl (fun h => nomatch h) ?_
  refine RV.step1 (OpOk.plain (ok_move (.inl rfl) rfl (by decide) rfl) rfl) ?_
  refine RV.step1 (OpOk.plain (ok_lenT (by8_length msg) u_str rfl rfl (by decide) rfl) rfl) ?_
  refine RV.step1 (OpOk.plain (ok_gtr rfl rfl (by decide) rfl rfl) rfl) ?_
  refine RV.done ?_
  refine CV.cond rfl (fun hA => ?_) (fun hA => ?_)
  · refine CV.seq ?_
    refine CV.region rfl (fun h => nomatch h) ?_
    refine RV.step1 (OpOk.plain (ok_move (.inl rfl) rfl (by decide) rfl) rfl) ?_
    refine RV.step1 (OpOk.plain (ok_move (.inr rfl) rfl (by decide) rfl) rfl) ?_
    refine RV.done ?_
    refine CV.ret ?_
    exact fin1 rfl (.inr rfl) rfl is_rfl
  · have hml : msg.length ≤ 200 := (by have := of_decide_eq_false hA; omega)
    refine CV.skip ?_
    refine CV.seq ?_
    refine CV.region rfl (fun h => nomatch h) ?_
    refine RV.step1 (OpOk.plain (ok_move (.inl rfl) rfl (by decide) rfl) rfl) ?_
    refine RV.step1 (OpOk.plain (ok_cvi (z' := (a : Int)) (wrapI (by omega) (by omega)) u_u8 u_i64 rfl rfl (by decide) rfl) rfl) ?_
    refine RV.step1 (OpOk.plain (ok_remN (m := a) (q := 3) (by decide) rfl rfl (by decide) rfl rfl) rfl) ?_
    refine RV.step1 (OpOk.plain (ok_move (.inr rfl) rfl (by decide) rfl) rfl) ?_
    refine RV.done ?_
    refine CV.seq ?_
    obtain ⟨h, hh⟩ : ∃ h, h = a % 3 := ⟨_, rfl⟩
    rw [← hh]
    have hh2 : h ≤ 2 := (by omega)
    have hpow := pow_small (h := h) (by omega)
    refine CV.region rfl (fun h => nomatch h) ?_
    refine RV.step1 (OpOk.plain (ok_move (.inl rfl) rfl (by decide) rfl) rfl) ?_
    refine RV.step1 (OpOk.plain (ok_cvi (z' := (b : Int)) (wrapI (by omega) (by omega)) u_u8 u_i64 rfl rfl (by decide) rfl) rfl) ?_
    refine RV.step1 (OpOk.plain (ok_move (.inl rfl) rfl (by decide) rfl) rfl) ?_
    refine RV.step1 (OpOk.plain (ok_shl (j := h) (c := ((2 ^ h : Nat) : Int)) (by omega) (shl_small (by omega)) rfl rfl (by decide) rfl rfl) rfl) ?_
    refine RV.step1 (OpOk.plain (ok_remN (m := b) (q := 2 ^ h) (Nat.two_pow_pos h) rfl rfl (by decide) rfl rfl) rfl) ?_
    refine RV.step1 (OpOk.plain (ok_move (.inr rfl) rfl (by decide) rfl) rfl) ?_
    refine RV.done ?_
    refine CV.seq ?_
    obtain ⟨i, hi⟩ : ∃ i, i = b % 2 ^ h := ⟨_, rfl⟩
    rw [← hi]
    have hi2 : i < 2 ^ h := (by rw [hi]; exact Nat.mod_lt _ (Nat.two_pow_pos h))
    have hS1 := signN_length (seedN c) h i msg
    have hS2 := signN_bn (seedN c) h i msg
    have hS9 := intN_le9 i (by omega)
    have hPb := nodeN_bn (seedN c) h 0
    have hPl := nodeN_length (seedN c) h 0
    have hq1 := sig_dec (seedN c) (h := h) (i := i) (by omega) hi2 msg
    have hv1 := ver_own (seedN c) (h := h) (i := i) (by omega) hi2 msg
    have et := signN_tail (seedN c) h i msg
    have hTl := tailN_length (seedN c) h i msg
    have e2 : Sg.signN (seedN c) h i msg ++ [120] = Sg.intN (i : Int) ++ (tailN (seedN c) h i msg ++ [120]) := (by rw [et, List.append_assoc])
    have e3 := sign_take (seedN c) h i msg
    have hq2 := dec_int i (by omega) (tailN (seedN c) h i msg ++ [120])
    have hq3 := dec_int i (by omega) ((tailN (seedN c) h i msg).take ((68 + h) * 16 - 1))
    rw [← e2] at hq2
    rw [← e3] at hq3
    have hv2 := ver_short (pub := Sg.nodeN (seedN c) h 0) (msg := msg) (h := h) (i := i) (r := tailN (seedN c) h i msg ++ [120]) (by omega) (by rw [List.length_append, hTl]; simp)
    have hv3 := ver_short (pub := Sg.nodeN (seedN c) h 0) (msg := msg) (h := h) (i := i) (r := (tailN (seedN c) h i msg).take ((68 + h) * 16 - 1)) (by omega) (by rw [List.length_take, hTl]; omega)
    rw [← e2] at hv2
    rw [← e3] at hv3
    obtain ⟨S, hS⟩ : ∃ S, S = Sg.signN (seedN c) h i msg := ⟨_, rfl⟩
    rw [← hS] at hS1 hS2 hq1 hq2 hq3 hv1 hv2 hv3
    refine CV.region rfl (fun h => nomatch h) ?_
    refine RV.step1 (OpOk.plain (ok_move (.inl rfl) rfl (by decide) rfl) rfl) ?_
    refine RV.step1 (OpOk.plain (ok_call (seed_con c hcc) rfl rfl (by decide) Tryd.func20 rfl rfl (.cons rfl Conv.any .nil) rfl hfr rfl) rfl) ?_
    refine RV.step1 (OpOk.plain (ok_move (.inl rfl) rfl (by decide) rfl) rfl) ?_
    refine RV.step1 (OpOk.plain (ok_call (Public_con (seedN c) h hs8 hs32 (by omega)) rfl rfl (by decide) Tryd.func12 rfl rfl (.cons rfl Conv.any (.cons rfl Conv.any .nil)) rfl hfr rfl) rfl) ?_
    refine RV.step1 (OpOk.plain (ok_move (.inl rfl) rfl (by decide) rfl) rfl) ?_
    refine RV.step1 (OpOk.plain (ok_extract rfl rfl (by decide) rfl rfl) rfl) ?_
    refine RV.step1 (OpOk.plain (ok_extract rfl rfl (by decide) rfl rfl) rfl) ?_
    refine RV.step2 (OpOk.plain (ok_alloc (i := 0) rfl rfl (by decide) zero_dig rfl rfl rfl rfl) rfl) ?_
    refine RV.step1 (OpOk.plain (ok_store rfl rfl rfl rfl rfl rfl rfl (ty_dig).2 rfl rfl rfl rfl) rfl) ?_
    refine RV.step1 (OpOk.plain (ok_move (.inr rfl) rfl (by decide) rfl) rfl) ?_
    refine RV.done ?_
    refine CV.seq ?_
    refine CV.region rfl (fun h => nomatch h) ?_
    refine RV.step1 (OpOk.plain (ok_move (.inl rfl) rfl (by decide) rfl) rfl) ?_
    refine RV.step1 (OpOk.plain (ok_call (seed_con c hcc) rfl rfl (by decide) Tryd.func20 rfl rfl (.cons rfl Conv.any .nil) rfl hfr rfl) rfl) ?_
    refine RV.step1 (OpOk.plain (ok_move (.inl rfl) rfl (by decide) rfl) rfl) ?_
    refine RV.step1 (OpOk.plain (ok_move (.inl rfl) rfl (by decide) rfl) rfl) ?_
    refine RV.step1 (OpOk.plain (ok_move (.inl rfl) rfl (by decide) rfl) rfl) ?_
    refine RV.step1 (OpOk.plain (ok_call (Sign_con (seedN c) h i msg hs8 hs32 (by omega) hi2 hm (by omega)) rfl rfl (by decide) Tryd.func14 rfl rfl (.cons rfl Conv.any (.cons rfl Conv.any (.cons rfl Conv.any (.cons rfl Conv.any .nil)))) rfl hfr rfl) rfl) ?_
    refine RV.step1 (OpOk.plain (ok_move (.inl rfl) rfl (by decide) rfl) rfl) ?_
    refine RV.step1 (OpOk.plain (ok_extract rfl rfl (by decide) rfl rfl) rfl) ?_
    refine RV.step1 (OpOk.plain (ok_extract rfl rfl (by decide) rfl rfl) rfl) ?_
    refine RV.step1 (OpOk.plain (ok_move (.inr rfl) rfl (by decide) rfl) rfl) ?_
    refine RV.step1 (OpOk.plain (ok_move (.inr rfl) rfl (by decide) rfl) rfl) ?_
    refine RV.done ?_
    refine CV.seq ?_
    rw [← hS]
    refine CV.region rfl (fun h => nomatch h) ?_
    refine RV.step1 (OpOk.plain (ok_load rfl rfl (by decide) rfl rfl rfl ty_dig) rfl) ?_
    refine RV.step1 (OpOk.plain (ok_move (.inl rfl) rfl (by decide) rfl) rfl) ?_
    refine RV.step1 (OpOk.plain (ok_move (.inl rfl) rfl (by decide) rfl) rfl) ?_
    refine RV.step1 (OpOk.plain (ok_move (.inl rfl) rfl (by decide) rfl) rfl) ?_
    refine RV.step1 (OpOk.plain (ok_call (Verify_con (Sg.nodeN (seedN c) h 0) msg S h _ _ _ hPb hPl hm (by omega) hS2 (by omega) (by omega) hq1 (by omega)) rfl rfl (by decide) Tryd.func18 rfl rfl (.cons rfl Conv.any (.cons rfl Conv.any (.cons rfl Conv.any (.cons rfl Conv.any .nil)))) rfl hfr rfl) rfl) ?_
    refine RV.step1 (OpOk.plain (ok_move (.inl rfl) rfl (by decide) rfl) rfl) ?_
    refine RV.step1 (OpOk.plain (ok_extract rfl rfl (by decide) rfl rfl) rfl) ?_
    refine RV.step1 (OpOk.plain (ok_extract rfl rfl (by decide) rfl rfl) rfl) ?_
    refine RV.step1 (OpOk.plain (ok_move (.inr rfl) rfl (by decide) rfl) rfl) ?_
    refine RV.step1 (OpOk.plain (ok_move (.inr rfl) rfl (by decide) rfl) rfl) ?_
    refine RV.done ?_
    refine CV.seq ?_
    refine CV.seq ?_
    rw [hv1]
    refine CV.region rfl (fun h => nomatch h) ?_
    refine RV.step1 (OpOk.plain (ok_move (.inl rfl) rfl (by decide) rfl) rfl) ?_
    refine RV.step1 (OpOk.plain (ok_neq rfl rfl (by decide) rfl rfl) rfl) ?_
    refine RV.step1 (OpOk.plain (ok_move (.inl rfl) rfl (by decide) rfl) rfl) ?_
    refine RV.bool (fun hb => False.elim (by simp at hb)) (fun hb => ?_)
    refine RV.step1 (OpOk.yes (ok_move (.inl rfl) rfl (by decide) rfl) rfl rfl rfl) ?_
    refine RV.step1 (OpOk.yes (ok_neq rfl rfl (by decide) rfl rfl) rfl rfl rfl) ?_
    refine RV.step1 (OpOk.plain (ok_pickF rfl rfl (by decide) rfl rfl rfl) rfl) ?_
    refine RV.step1 (OpOk.plain (ok_move (.inl rfl) rfl (by decide) rfl) rfl) ?_
    refine RV.bool (fun hb => False.elim (by simp at hb)) (fun hb => ?_)
    refine RV.step1 (OpOk.yes (ok_move (.inl rfl) rfl (by decide) rfl) rfl rfl rfl) ?_
    refine RV.step1 (OpOk.yes (ok_neq rfl rfl (by decide) rfl rfl) rfl rfl rfl) ?_
    refine RV.step1 (OpOk.plain (ok_pickF rfl rfl (by decide) rfl rfl rfl) rfl) ?_
    refine RV.step1 (OpOk.plain (ok_move (.inl rfl) rfl (by decide) rfl) rfl) ?_
    refine RV.bool (fun hb => False.elim (by simp at hb)) (fun hb => ?_)
    refine RV.step1 (OpOk.yes (ok_move (.inl rfl) rfl (by decide) rfl) rfl rfl rfl) ?_
    refine RV.step1 (OpOk.yes (ok_lenT (by8_length S) u_str rfl rfl (by decide) rfl) rfl rfl rfl) ?_
    refine RV.step1 (OpOk.yes (ok_lss rfl rfl (by decide) rfl rfl) rfl rfl rfl) ?_
    refine RV.step1 (OpOk.plain (ok_pickF rfl rfl (by decide) rfl rfl rfl) rfl) ?_
    refine RV.done ?_
    refine CV.cond rfl (fun hc => False.elim (by have := of_decide_eq_true hc; omega)) (fun hc => ?_)
    refine CV.skip ?_
    refine CV.seq ?_
    refine CV.region rfl (fun h => nomatch h) ?_
    refine RV.step1 (OpOk.plain (ok_load rfl rfl (by decide) rfl rfl rfl ty_dig) rfl) ?_
    refine RV.step1 (OpOk.plain (ok_move (.inl rfl) rfl (by decide) rfl) rfl) ?_
    refine RV.step1 (OpOk.plain (ok_move (.inl rfl) rfl (by decide) rfl) rfl) ?_
    refine RV.step1 (OpOk.plain (ok_move (.inl rfl) rfl (by decide) rfl) rfl) ?_
    refine RV.step1 (OpOk.plain (ok_catB (a := S) (b := [120]) (by rw [List.length_singleton]; omega) rfl rfl (by decide) rfl rfl) rfl) ?_
    refine RV.step1 (OpOk.plain (ok_call (Verify_con (Sg.nodeN (seedN c) h 0) msg (S ++ [120]) h _ _ _ hPb hPl hm (by omega) (bn_app hS2 (Sg.bn_of (by decide))) (by rw [List.length_append, List.length_singleton]; omega) (by omega) hq2 (by rw [List.length_append]; omega)) rfl rfl (by decide) Tryd.func18 rfl rfl (.cons rfl Conv.any (.cons rfl Conv.any (.cons rfl Conv.any (.cons rfl Conv.any .nil)))) rfl hfr rfl) rfl) ?_
    refine RV.step1 (OpOk.plain (ok_move (.inl rfl) rfl (by decide) rfl) rfl) ?_
    refine RV.step1 (OpOk.plain (ok_extract rfl rfl (by decide) rfl rfl) rfl) ?_
    refine RV.step1 (OpOk.plain (ok_extract rfl rfl (by decide) rfl rfl) rfl) ?_
    refine RV.step1 (OpOk.plain (ok_move (.inr rfl) rfl (by decide) rfl) rfl) ?_
    refine RV.step1 (OpOk.plain (ok_move (.inr rfl) rfl (by decide) rfl) rfl) ?_
    refine RV.done ?_
    refine CV.seq ?_
    refine CV.region rfl (fun _ => by kernel_rfl) ?_
    refine RV.step1 (OpOk.plain (ok_load rfl rfl (by decide) rfl rfl rfl ty_dig) rfl) ?_
    refine RV.step1 (OpOk.plain (ok_move (.inl rfl) rfl (by decide) rfl) rfl) ?_
    refine RV.step1 (OpOk.plain (ok_move (.inl rfl) rfl (by decide) rfl) rfl) ?_
    refine RV.step1 (OpOk.plain (ok_move (.inl rfl) rfl (by decide) rfl) rfl) ?_
    refine RV.step1 (OpOk.plain (ok_move (.inl rfl) rfl (by decide) rfl) rfl) ?_
    refine RV.step1 (OpOk.plain (ok_lenT (by8_length S) u_str rfl rfl (by decide) rfl) rfl) ?_
    refine RV.step1 (OpOk.plain (ok_sub (c := ((S.length - 1 : Nat) : Int)) (by rw [wrapI (by omega) (by omega)]; omega) rfl rfl (by decide) rfl rfl) rfl) ?_
    refine RV.step1 (OpOk.plain (ok_cutT (v := by8 (S.take (S.length - 1))) none (some (S.length - 1)) (by rw [← by8_take]; rfl) (Nat.zero_le _) (by rw [by8_length]; exact Nat.sub_le _ _) u_str rfl rfl (by decide) rfl trivial rfl) rfl) ?_
    refine RV.step1 (OpOk.plain (ok_call (Verify_con (Sg.nodeN (seedN c) h 0) msg (S.take (S.length - 1)) h _ _ _ hPb hPl hm (by omega) (bn_take hS2 _) (by rw [List.length_take]; omega) (by omega) hq3 (by rw [List.length_take]; omega)) rfl rfl (by decide) Tryd.func18 rfl rfl (.cons rfl Conv.any (.cons rfl Conv.any (.cons rfl Conv.any (.cons rfl Conv.any .nil)))) rfl hfr rfl) rfl) ?_
    refine RV.step1 (OpOk.plain (ok_move (.inl rfl) rfl (by decide) rfl) rfl) ?_
    refine RV.step1 (OpOk.plain (ok_extract rfl rfl (by decide) rfl rfl) rfl) ?_
    refine RV.step1 (OpOk.plain (ok_extract rfl rfl (by decide) rfl rfl) rfl) ?_
    refine RV.step1 (OpOk.plain (ok_move (.inr rfl) rfl (by decide) rfl) rfl) ?_
    refine RV.step1 (OpOk.plain (ok_move (.inr rfl) rfl (by decide) rfl) rfl) ?_
    refine RV.drawn (by kernel_rfl) ?_
    refine CV.seq ?_
    rw [hv2, hv3]
    refine CV.region rfl (fun h => nomatch h) ?_
    refine RV.step1 (OpOk.plain (ok_move (.inl rfl) rfl (by decide) rfl) rfl) ?_
    refine RV.step1 (OpOk.plain (ok_move (.inl rfl) rfl (by decide) rfl) rfl) ?_
    refine RV.step1 (OpOk.yes (ok_move (.inl rfl) rfl (by decide) rfl) rfl rfl rfl) ?_
    refine RV.step1 (OpOk.yes (ok_move (.inl rfl) rfl (by decide) rfl) rfl rfl rfl) ?_
    refine RV.step1 (OpOk.yes (ok_eql rfl rfl (by decide) rfl rfl) rfl rfl rfl) ?_
    refine RV.step1 (OpOk.plain (ok_pickT rfl rfl (by decide) rfl rfl rfl) rfl) ?_
    refine RV.step1 (OpOk.plain (ok_move (.inl rfl) rfl (by decide) rfl) rfl) ?_
    refine RV.bool (fun hb => ?_) (fun hb => False.elim (by simp at hb))
    refine RV.step1 (OpOk.yes (ok_move (.inl rfl) rfl (by decide) rfl) rfl rfl rfl) ?_
    refine RV.step1 (OpOk.yes (ok_eql rfl rfl (by decide) rfl rfl) rfl rfl rfl) ?_
    refine RV.step1 (OpOk.plain (ok_pickT rfl rfl (by decide) rfl rfl rfl) rfl) ?_
    refine RV.step1 (OpOk.plain (ok_move (.inl rfl) rfl (by decide) rfl) rfl) ?_
    refine RV.bool (fun hb => ?_) (fun hb => False.elim (by simp at hb))
    refine RV.step1 (OpOk.yes (ok_move (.inl rfl) rfl (by decide) rfl) rfl rfl rfl) ?_
    refine RV.step1 (OpOk.yes (ok_eql rfl rfl (by decide) rfl rfl) rfl rfl rfl) ?_
    refine RV.step1 (OpOk.plain (ok_pickT rfl rfl (by decide) rfl rfl rfl) rfl) ?_
    refine RV.step1 (OpOk.plain (ok_move (.inr rfl) rfl (by decide) rfl) rfl) ?_
    refine RV.done ?_
    refine CV.ret ?_
    exact fin1 rfl (.inr rfl) rfl is_rfl
end Vc
end Go.Proofs.YthadfilandmhiaaDoor

namespace Go.Proofs.YthadfilandmhiaaDoor
open Go.RowKit Go.WideShapes Go.Deep Go.ChangeShapes
open Go.Lib (hid)
open Dg Zn S
namespace Vc
theorem Con.walkS {P : Program} {f : FuncId} {args : List (SA Dm)} {b : Bool} (hcon : Con P f args (.one (.v (.bool b)))) {w : World} (hW : Dom.W Dm w) {vs : List Value} (h : isAll (fun _ => False) (fun _ => (0, 0)) w args vs) : Calls P f vs.toArray w fun e w' => e = .returned (.bool b) ∧ Below w.heap.size w w' := by
  refine (hcon (fun _ => False) (fun _ => (0, 0)) w vs (fun _ h => h.elim) (fun _ h => h.elim) hW h).mono ?_
  rintro e w' ⟨v, rfl, h1, h2⟩
  exact ⟨congrArg Ending.returned h2, h1⟩
theorem text_is {w : World} (a : ByteArray) : (SA.v (str (by8 (tx a))) : SA Dm).is (fun _ => False) (fun _ => (0, 0)) w (.string a) := by
  rw [str_by8 (tx_bn a), strN_tx]
  rfl
theorem tx_le {a : ByteArray} (h : a.size ≤ maxLen) : (tx a).length ≤ 9223372036854775807 := by
  rw [tx_length]
  unfold maxLen at h
  omega
theorem u8_is {w : World} {z : Int} (h : 0 ≤ z ∧ z ≤ 255) : (SA.v (.int .u8 (z.toNat : Int)) : SA Dm).is (fun _ => False) (fun _ => (0, 0)) w (.int .u8 z) := by
  show Value.int .u8 z = .int .u8 (z.toNat : Int)
  rw [Int.toNat_of_nonneg h.1]
theorem digest_is {w : World} {l : List Nat} (hl : l.length = 16) : (DG (by8 l) : SA Dm).is (fun _ => False) (fun _ => (0, 0)) w (.agg (byC (by8 l)).toArray) := fun _ _ => ⟨by rw [by8_length, hl], rfl⟩
def natOf : Value → Nat
  | .int _ z => z.toNat
  | _ => 0
theorem digest_in {H : Type} {enc : TypeId × Value → H} {w : World} {base : Nat} {spare : Nat → Bool} {held : Bool} {fuel : Nat} {v : Value} {x : DataW H × List MemPlace}
    (hv : Value.okWide Tryd.prog w .any base 23 v) (h : DataW.trod enc Tryd.prog w 0 spare held fuel 23 v.cells.toList = some x) :
    ∃ l : List Nat, l.length = 16 ∧ Bn l ∧ v = .agg (byC (by8 l)).toArray := by
  have hu : Tryd.prog.underlying 23 = some (.array 16 5) := by kernel_rfl
  have c1 : Tryd.prog.cellsOf 5 = 1 := by kernel_rfl
  have c2 : Tryd.prog.cellsOf 23 = 16 := by kernel_rfl
  unfold Value.okWide at hv
  rw [hu] at hv
  obtain ⟨cs, rfl, hsz, _⟩ := hv
  have h' : DataW.trod enc Tryd.prog w 0 spare held fuel 23 cs.toList = some x := h
  obtain ⟨xs, m, _, _, hlen, hn, hel⟩ := DataW.trod_array hu h'
  rw [c2] at hlen
  rw [c1] at hel
  obtain ⟨l⟩ := cs
  have hlen : l.length = 16 := hlen
  have key : ∀ y ∈ l, y = .int .u8 ((natOf y : Nat) : Int) ∧ natOf y < 256 := by
    intro y hy
    obtain ⟨i, hi, rfl⟩ := List.getElem_of_mem hy
    have e := hel i (by omega)
    rw [Nat.mul_one, List.getElem?_eq_getElem (by omega : i < xs.length)] at e
    obtain ⟨p, f0, _, w0⟩ := DataW.trod_int Tryd.under_u8 e
    have b0 := bounds_u8 w0
    have e3 : l[i] = .int .u8 p := by
      have := congrArg (fun l => l[0]?) f0
      simp only [List.getElem?_take, List.getElem?_drop] at this
      exact (List.getElem?_eq_some_iff.1 (show l[i]? = some (.int .u8 p) by simpa using this)).2
    rw [e3]
    exact ⟨by rw [natOf, Int.toNat_of_nonneg b0.1], by rw [natOf]; omega⟩
  have hb : Bn (l.map natOf) := fun z hz => by
    obtain ⟨y, hy, rfl⟩ := List.mem_map.1 hz
    exact (key y hy).2
  refine ⟨l.map natOf, by rw [List.length_map, hlen], hb, ?_⟩
  rw [byC_bytesV hb, bytesV, List.map_map]
  congr 2
  exact ((List.map_congr_left (g := id) fun y hy => (key y hy).1.symm).trans (List.map_id _)).symm
end Vc
end Go.Proofs.YthadfilandmhiaaDoor
