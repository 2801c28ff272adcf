/-
  Signatures: what is signed is accepted; the layer's example.
  Signatures: the laws' walks.
-/
import Derived.Test.YthadfilandmhiaaDoorSB45
import Derived.Test.YthadfilandmhiaaDoorSB27
import Derived.Test.YthadfilandmhiaaDoorSB1
import Derived.Test.YthadfilandmhiaaDoorSB9
set_option linter.unusedVariables false
set_option linter.unusedSimpArgs false
set_option linter.unusedSectionVars false
namespace Go.Proofs.YthadfilandmhiaaDoor
open Go.RowKit
open Go.Lib (hid)
open Dg Zn S
namespace Vc
theorem sig_append (a b : List Nat) : sigI (a ++ b) = sigI a ++ sigI b := by simp [sigI]
theorem sig_int (z : Int) : sigI (Sg.intN z) = W.code z := by
  rw [sigI, Sg.intN, List.map_map]
  refine (List.map_congr_left (g := id) fun x hx => ?_).trans (List.map_id _)
  have := W.code_bs z x hx
  simp only [Function.comp, id]
  omega
theorem intN_length (z : Int) : (Sg.intN z).length = (W.code z).length := by simp [Sg.intN]
/-- The digests of a signature. -/
def tailN (seed : List Nat) (h i : Nat) (msg : List Nat) : List Nat := topsN (chV seed i (Sg.digitsN (Sg.digestN (Sg.nodeN seed h 0) i msg))) 68 ++ topsN (sideV seed i) h
theorem signN_tail (seed : List Nat) (h i : Nat) (msg : List Nat) : Sg.signN seed h i msg = Sg.intN i ++ tailN seed h i msg := by rw [signN_eq, tailN, List.append_assoc]
theorem tailN_length (seed : List Nat) (h i : Nat) (msg : List Nat) : (tailN seed h i msg).length = (68 + h) * 16 := by
  rw [tailN, List.length_append, topsN_length _ (chV_length _ _ _), topsN_length _ (sideV_length _ _)]; omega
theorem tailN_bn (seed : List Nat) (h i : Nat) (msg : List Nat) : Bn (tailN seed h i msg) := by
  intro x hx
  rcases List.mem_append.1 hx with q | q
  · exact topsN_bn _ (chV_bn _ _ _) _ x q
  · exact topsN_bn _ (sideV_bn _ _) _ x q
theorem dec_int (i : Nat) (hi : i ≤ 1000) (r : List Nat) : W.dec (sigI (Sg.intN i ++ r)) = ((i : Int), (Sg.intN (i : Int)).length, 0) := by
  rw [sig_append, sig_int, intN_length]
  exact W.dec_code _ (by omega) (by omega) _
theorem piece_tops (g : Nat → List Nat) (hg : ∀ c, (g c).length = 16) (n c : Nat) (hc : c < n) (r : List Nat) : Sg.piece (topsN g n ++ r) c = g c := by
  have := Sg.piece_flat ((List.range n).map g) r c (by
    intro d hd
    obtain ⟨c, _, rfl⟩ := List.mem_map.1 hd
    exact hg c) (by simpa using hc)
  rw [topsN, this]
  simp [List.getD_eq_getElem?_getD, hc]
theorem tail_value (seed : List Nat) (h i : Nat) (msg : List Nat) {c : Nat} (hc : c < 68) : Sg.piece (tailN seed h i msg) c = chV seed i (Sg.digitsN (Sg.digestN (Sg.nodeN seed h 0) i msg)) c := piece_tops _ (chV_length _ _ _) 68 c hc _
theorem tail_side (seed : List Nat) (h i : Nat) (msg : List Nat) {l : Nat} (hl : l < h) : Sg.piece (tailN seed h i msg) (68 + l) = sideV seed i l := by
  rw [tailN, ← both_all, ← List.append_nil (topsN (bothV seed i _) (68 + h)), piece_tops _ (bothV_length _ _ _) _ _ (by omega)]
  rw [bothV, if_neg (by omega), Nat.add_sub_cancel_left]
/-- The root that follows from a signature's digests, under another message's digits. -/
theorem root_tail (seed : List Nat) (h i : Nat) (msg m2 pub : List Nat) : Sg.rootN pub h i m2 (tailN seed h i msg) = Sg.upN (sideV seed i) i h (Sg.leafN ((List.range 68).map fun c => Sg.advN i c ((Sg.digitsN (Sg.digestN pub i m2)).getD c 0) (3 - (Sg.digitsN (Sg.digestN pub i m2)).getD c 0) (chV seed i (Sg.digitsN (Sg.digestN (Sg.nodeN seed h 0) i msg)) c))) := by
  have e1 : Sg.endsN i (Sg.digitsN (Sg.digestN pub i m2)) (tailN seed h i msg) = (List.range 68).map fun c => Sg.advN i c ((Sg.digitsN (Sg.digestN pub i m2)).getD c 0) (3 - (Sg.digitsN (Sg.digestN pub i m2)).getD c 0) (chV seed i (Sg.digitsN (Sg.digestN (Sg.nodeN seed h 0) i msg)) c) :=
    List.map_congr_left fun c hc => by rw [tail_value seed h i msg (List.mem_range.1 hc)]
  rw [Sg.rootN, e1]
  have key : ∀ (n : Nat) (bs bs' : Nat → List Nat) (i : Nat) (v : List Nat), (∀ l, l < n → bs l = bs' l) → Sg.upN bs i n v = Sg.upN bs' i n v := by
    intro n
    induction n with
    | zero => intro _ _ _ _ _; rfl
    | succ n ih =>
      intro bs bs' i v hb
      rw [Sg.upN, Sg.upN, hb 0 (by omega)]
      exact ih _ _ _ _ fun l hl => hb (l + 1) (by omega)
  exact key h _ _ i _ fun l hl => tail_side seed h i msg hl
theorem root_own (seed : List Nat) {h i : Nat} (hi : i < 2 ^ h) (msg : List Nat) : Sg.rootN (Sg.nodeN seed h 0) h i msg (tailN seed h i msg) = Sg.nodeN seed h 0 := by
  rw [root_tail]
  have hdl := digestN_length (Sg.nodeN seed h 0) (i : Int) msg
  have hdb := digestN_bn (Sg.nodeN seed h 0) (i : Int) msg
  have e1 : ((List.range 68).map fun c => Sg.advN i c ((Sg.digitsN (Sg.digestN (Sg.nodeN seed h 0) i msg)).getD c 0) (3 - (Sg.digitsN (Sg.digestN (Sg.nodeN seed h 0) i msg)).getD c 0) (chV seed i (Sg.digitsN (Sg.digestN (Sg.nodeN seed h 0) i msg)) c)) = (List.range 68).map (Sg.topN seed i) := by
    refine List.map_congr_left fun c _ => ?_
    have h3 := digN_le hdl hdb c
    rw [chV, Sg.topN]
    have := Sg.advN_add i c ((Sg.digitsN (Sg.digestN (Sg.nodeN seed h 0) i msg)).getD c 0) 0 (3 - (Sg.digitsN (Sg.digestN (Sg.nodeN seed h 0) i msg)).getD c 0) (Sg.startN seed i c)
    rw [Nat.zero_add] at this
    rw [this]
    congr 1
    omega
  rw [e1]
  have := Sg.upN_node seed (sideV seed i) h 0 i (fun j _ => by rw [Nat.zero_add]; rfl)
  rw [Nat.zero_add, Nat.div_eq_of_lt hi] at this
  exact this
theorem ver_tail (seed : List Nat) {h i : Nat} (hh : h ≤ 6) (hi : i < 2 ^ h) (msg m2 pub : List Nat) : verN pub h m2 (Sg.signN seed h i msg) = if Sg.rootN pub h i m2 (tailN seed h i msg) = pub then ((i : Int), 0) else (0, 10) := by
  have hp := pow_small hh
  have hq := dec_int i (by omega) (tailN seed h i msg)
  rw [← signN_tail] at hq
  have hd : (Sg.signN seed h i msg).drop (Sg.intN (i : Int)).length = tailN seed h i msg := by rw [signN_tail, List.drop_left]
  have := ver_root (pub := pub) (msg := m2) (h := h) hq rfl ⟨by omega, by exact_mod_cast hi⟩ (by rw [hd]; exact tailN_length seed h i msg)
  rw [this, hd, Int.toNat_natCast]
/-- What is signed is accepted. -/
theorem ver_own (seed : List Nat) {h i : Nat} (hh : h ≤ 6) (hi : i < 2 ^ h) (msg : List Nat) : verN (Sg.nodeN seed h 0) h msg (Sg.signN seed h i msg) = ((i : Int), 0) := by
  rw [ver_tail seed hh hi, if_pos (root_own seed hi msg)]
theorem signN_bn (seed : List Nat) (h i : Nat) (msg : List Nat) : Bn (Sg.signN seed h i msg) := by
  rw [signN_tail]
  intro x hx
  rcases List.mem_append.1 hx with q | q
  · exact intN_bn _ x q
  · exact tailN_bn _ _ _ _ x q
theorem signN_length (seed : List Nat) (h i : Nat) (msg : List Nat) : (Sg.signN seed h i msg).length = (Sg.intN (i : Int)).length + (68 + h) * 16 := by
  rw [signN_tail, List.length_append, tailN_length]
/-! The example. -/
theorem ver5 : verN Sg.p5 1 [110] (Sg.signN Sg.s5 1 1 [109]) = (0, 10) := by
  have e : Sg.rootN Sg.p5 1 1 [110] (tailN Sg.s5 1 1 [109]) = Sg.joinN2 Sg.l50 (Sg.leafN ((List.range 68).map Sg.wrongN)) := by
    rw [root_tail, Sg.pub5]
    have h1 : Sg.digestN Sg.p5 ((1 : Nat) : Int) [109] = Sg.dm5 := Sg.dig5m
    have h2 : Sg.digestN Sg.p5 ((1 : Nat) : Int) [110] = Sg.dn5 := Sg.dig5n
    rw [h1, h2, Sg.gits5m, Sg.gits5n]
    show Sg.joinN2 (sideV Sg.s5 1 0) _ = _
    rw [show sideV Sg.s5 1 0 = Sg.l50 from Sg.node50]
    rfl
  rw [ver_tail Sg.s5 (by decide) (by decide), e, if_neg Sg.wrong5]
theorem zeros_digits : Sg.digitsN (List.replicate 16 0) = List.replicate 64 0 ++ [3, 0, 0, 0] := by decide
theorem z16_bn : Bn (List.replicate 16 0) := Sg.bn_of (by decide)
theorem sig_dec (seed : List Nat) {h i : Nat} (hh : h ≤ 6) (hi : i < 2 ^ h) (msg : List Nat) : W.dec (sigI (Sg.signN seed h i msg)) = ((i : Int), (Sg.intN (i : Int)).length, 0) := by
  have hp := pow_small hh
  rw [signN_tail]
  exact dec_int i (by omega) _
theorem intN_le9 (i : Nat) (hi : i ≤ 1000) : 1 ≤ (Sg.intN (i : Int)).length ∧ (Sg.intN (i : Int)).length ≤ 9 := by
  refine ⟨?_, intN_le _⟩
  rw [intN_length, W.code_length]
  omega
set_option maxRecDepth 100000 in
theorem sanity_con : Con Tryd.prog 9 ([] : List (SA Dm)) (.one (.v (.bool true))) := by
  have hsl := signN_length Sg.s5 1 1 [109]
  have hs9 := intN_le9 1 (by decide)
  have hq := sig_dec Sg.s5 (h := 1) (i := 1) (by decide) (by decide) [109]
  have hpb : Bn Sg.p5 := Sg.bn_of (by decide)
  have hv1 := ver_own Sg.s5 (h := 1) (i := 1) (by decide) (by decide) [109]
  rw [Sg.pub5] at hv1
  refine Con.of (n := 105) Tryd.func9 rfl rfl rfl rfl rfl fun cx hfr => ?_
  refine CV.seq ?_
  refine CV.region rfl (fun h => nomatch h) ?_
  refine RV.step1 (OpOk.plain (ok_move (.inr rfl) rfl (by decide) rfl) rfl) ?_
  refine RV.done ?_
  refine CV.seq ?_
  refine CV.region rfl (fun h => nomatch h) ?_
  refine RV.step1 (OpOk.plain (ok_call (seed_con 5 (by decide)) rfl rfl (by decide) Tryd.func20 rfl rfl (.cons rfl Conv.any .nil) rfl hfr rfl) rfl) ?_
  refine RV.step1 (OpOk.plain (ok_move (.inr rfl) rfl (by decide) rfl) rfl) ?_
  refine RV.done ?_
  refine CV.seq ?_
  refine CV.region rfl (fun h => nomatch h) ?_
  refine RV.step1 (OpOk.plain (ok_move (.inl rfl) rfl (by decide) rfl) rfl) ?_
  refine RV.step1 (OpOk.plain (ok_call (Public_con Sg.s5 1 Sg.s5_bn (by decide) (by decide)) rfl rfl (by decide) Tryd.func12 rfl rfl (.cons rfl Conv.any (.cons rfl Conv.any .nil)) rfl hfr rfl) rfl) ?_
  refine RV.step1 (OpOk.plain (ok_move (.inl rfl) rfl (by decide) rfl) rfl) ?_
  refine RV.step1 (OpOk.plain (ok_extract rfl rfl (by decide) rfl rfl) rfl) ?_
  refine RV.step1 (OpOk.plain (ok_extract rfl rfl (by decide) rfl rfl) rfl) ?_
  refine RV.step2 (OpOk.plain (ok_alloc (i := 0) rfl rfl (by decide) zero_dig rfl rfl rfl rfl) rfl) ?_
  refine RV.step1 (OpOk.plain (ok_store rfl rfl rfl rfl rfl rfl rfl (ty_dig).2 rfl rfl rfl rfl) rfl) ?_
  refine RV.step1 (OpOk.plain (ok_move (.inr rfl) rfl (by decide) rfl) rfl) ?_
  refine RV.done ?_
  refine CV.seq ?_
  rw [Sg.pub5]
  refine CV.region rfl (fun h => nomatch h) ?_
  refine RV.step1 (OpOk.plain (ok_move (.inl rfl) rfl (by decide) rfl) rfl) ?_
  refine RV.step1 (OpOk.plain (ok_call (Sign_con Sg.s5 1 1 [109] Sg.s5_bn (by decide) (by decide) (by decide) (Sg.bn_of (by decide)) (by decide)) rfl rfl (by decide) Tryd.func14 rfl rfl (.cons rfl Conv.any (.cons rfl Conv.any (.cons rfl Conv.any (.cons rfl Conv.any .nil)))) rfl hfr rfl) rfl) ?_
  refine RV.step1 (OpOk.plain (ok_move (.inl rfl) rfl (by decide) rfl) rfl) ?_
  refine RV.step1 (OpOk.plain (ok_extract rfl rfl (by decide) rfl rfl) rfl) ?_
  refine RV.step1 (OpOk.plain (ok_extract rfl rfl (by decide) rfl rfl) rfl) ?_
  refine RV.step1 (OpOk.plain (ok_move (.inr rfl) rfl (by decide) rfl) rfl) ?_
  refine RV.step1 (OpOk.plain (ok_move (.inr rfl) rfl (by decide) rfl) rfl) ?_
  refine RV.done ?_
  refine CV.seq ?_
  refine CV.region rfl (fun h => nomatch h) ?_
  refine RV.step1 (OpOk.plain (ok_load rfl rfl (by decide) rfl rfl rfl ty_dig) rfl) ?_
  refine RV.step1 (OpOk.plain (ok_move (.inl rfl) rfl (by decide) rfl) rfl) ?_
  refine RV.step1 (OpOk.plain (ok_call (Verify_con Sg.p5 [109] (Sg.signN Sg.s5 1 1 [109]) 1 _ _ _ hpb (by decide) (Sg.bn_of (by decide)) (by decide) (signN_bn _ _ _ _) (by omega) (by decide) hq (by omega)) rfl rfl (by decide) Tryd.func18 rfl rfl (.cons rfl Conv.any (.cons rfl Conv.any (.cons rfl Conv.any (.cons rfl Conv.any .nil)))) rfl hfr rfl) rfl) ?_
  refine RV.step1 (OpOk.plain (ok_move (.inl rfl) rfl (by decide) rfl) rfl) ?_
  refine RV.step1 (OpOk.plain (ok_extract rfl rfl (by decide) rfl rfl) rfl) ?_
  refine RV.step1 (OpOk.plain (ok_extract rfl rfl (by decide) rfl rfl) rfl) ?_
  refine RV.step1 (OpOk.plain (ok_move (.inr rfl) rfl (by decide) rfl) rfl) ?_
  refine RV.step1 (OpOk.plain (ok_move (.inr rfl) rfl (by decide) rfl) rfl) ?_
  refine RV.done ?_
  refine CV.seq ?_
  refine CV.region rfl (fun h => nomatch h) ?_
  refine RV.step1 (OpOk.plain (ok_load rfl rfl (by decide) rfl rfl rfl ty_dig) rfl) ?_
  refine RV.step1 (OpOk.plain (ok_move (.inl rfl) rfl (by decide) rfl) rfl) ?_
  refine RV.step1 (OpOk.plain (ok_call (Verify_con Sg.p5 [110] (Sg.signN Sg.s5 1 1 [109]) 1 _ _ _ hpb (by decide) (Sg.bn_of (by decide)) (by decide) (signN_bn _ _ _ _) (by omega) (by decide) hq (by omega)) rfl rfl (by decide) Tryd.func18 rfl rfl (.cons rfl Conv.any (.cons rfl Conv.any (.cons rfl Conv.any (.cons rfl Conv.any .nil)))) rfl hfr rfl) rfl) ?_
  refine RV.step1 (OpOk.plain (ok_move (.inl rfl) rfl (by decide) rfl) rfl) ?_
  refine RV.step1 (OpOk.plain (ok_extract rfl rfl (by decide) rfl rfl) rfl) ?_
  refine RV.step1 (OpOk.plain (ok_extract rfl rfl (by decide) rfl rfl) rfl) ?_
  refine RV.step1 (OpOk.plain (ok_move (.inr rfl) rfl (by decide) rfl) rfl) ?_
  refine RV.step1 (OpOk.plain (ok_move (.inr rfl) rfl (by decide) rfl) rfl) ?_
  refine RV.done ?_
  refine CV.seq ?_
  rw [hv1, ver5]
  refine CV.region rfl (fun h => nomatch h) ?_
  refine RV.step1 (OpOk.plain (ok_move (.inl rfl) rfl (by decide) rfl) rfl) ?_
  refine RV.step1 (OpOk.plain (ok_call (Sign_spent Sg.s5 [109] 1 2 (by decide) (by decide) (by decide)) rfl rfl (by decide) Tryd.func14 rfl rfl (.cons rfl Conv.any (.cons rfl Conv.any (.cons rfl Conv.any (.cons rfl Conv.any .nil)))) rfl hfr rfl) rfl) ?_
  refine RV.step1 (OpOk.plain (ok_move (.inl rfl) rfl (by decide) rfl) rfl) ?_
  refine RV.step1 (OpOk.plain (ok_extract rfl rfl (by decide) rfl rfl) rfl) ?_
  refine RV.step1 (OpOk.plain (ok_extract rfl rfl (by decide) rfl rfl) rfl) ?_
  refine RV.step1 (OpOk.plain (ok_move (.inr rfl) rfl (by decide) rfl) rfl) ?_
  refine RV.step1 (OpOk.plain (ok_move (.inr rfl) rfl (by decide) rfl) rfl) ?_
  refine RV.done ?_
  refine CV.seq ?_
  refine CV.region rfl (fun h => nomatch h) ?_
  refine RV.step1 (OpOk.plain (ok_move (.inl rfl) rfl (by decide) rfl) rfl) ?_
  refine RV.step1 (OpOk.plain (ok_cutT (v := by8 (Sg.s5.drop 1)) (some 1) none rfl (by decide) (by decide) u_str rfl rfl (by decide) rfl rfl trivial) rfl) ?_
  refine RV.step1 (OpOk.plain (ok_call (Public_bad (Sg.s5.drop 1) 0 (by decide)) rfl rfl (by decide) Tryd.func12 rfl rfl (.cons rfl Conv.any (.cons rfl Conv.any .nil)) rfl hfr rfl) rfl) ?_
  refine RV.step1 (OpOk.plain (ok_move (.inl rfl) rfl (by decide) rfl) rfl) ?_
  refine RV.step1 (OpOk.plain (ok_extract rfl rfl (by decide) rfl rfl) rfl) ?_
  refine RV.step1 (OpOk.plain (ok_extract rfl rfl (by decide) rfl rfl) rfl) ?_
  refine RV.step2 (OpOk.plain (ok_alloc (i := 1) rfl rfl (by decide) zero_dig rfl rfl rfl rfl) rfl) ?_
  refine RV.step1 (OpOk.plain (ok_store rfl rfl rfl rfl rfl rfl rfl (ty_dig).2 rfl rfl rfl rfl) rfl) ?_
  refine RV.step1 (OpOk.plain (ok_move (.inr rfl) rfl (by decide) rfl) rfl) ?_
  refine RV.done ?_
  refine CV.seq ?_
  refine CV.region rfl (fun h => nomatch h) ?_
  refine RV.step1 (OpOk.plain (ok_buildD rfl rfl (by decide)) rfl) ?_
  refine RV.step1 (OpOk.plain (ok_call (Digits_con (List.replicate 16 0) z16_bn (by decide)) rfl rfl (by decide) Tryd.func10 rfl rfl (.cons rfl ⟨rfl, dg_zero⟩ .nil) rfl hfr rfl) rfl) ?_
  refine RV.step1 (OpOk.plain (ok_move (.inr rfl) rfl (by decide) rfl) rfl) ?_
  refine RV.done ?_
  refine CV.seq ?_
  refine CV.seq ?_
  refine CV.region rfl (fun h => nomatch h) ?_
  refine RV.step1 (OpOk.plain (ok_move (.inl rfl) rfl (by decide) rfl) rfl) ?_
  refine RV.step1 (OpOk.plain (ok_neq rfl rfl (by decide) rfl rfl) rfl) ?_
  refine RV.step1 (OpOk.plain (ok_move (.inl rfl) rfl (by decide) rfl) rfl) ?_
  refine RV.bool (fun hb => False.elim (by revert hb; decide)) (fun hb => ?_)
  refine RV.step1 (OpOk.yes (ok_move (.inl rfl) rfl (by decide) rfl) rfl rfl rfl) ?_
  refine RV.step1 (OpOk.yes (ok_neq rfl rfl (by decide) rfl rfl) rfl rfl rfl) ?_
  refine RV.step1 (OpOk.plain (ok_pickF rfl rfl (by decide) rfl rfl rfl) rfl) ?_
  refine RV.step1 (OpOk.plain (ok_move (.inl rfl) rfl (by decide) rfl) rfl) ?_
  refine RV.bool (fun hb => False.elim (by revert hb; decide)) (fun hb => ?_)
  refine RV.step1 (OpOk.yes (ok_move (.inl rfl) rfl (by decide) rfl) rfl rfl rfl) ?_
  refine RV.step1 (OpOk.yes (ok_neq rfl rfl (by decide) rfl rfl) rfl rfl rfl) ?_
  refine RV.step1 (OpOk.plain (ok_pickF rfl rfl (by decide) rfl rfl rfl) rfl) ?_
  refine RV.step1 (OpOk.plain (ok_move (.inl rfl) rfl (by decide) rfl) rfl) ?_
  refine RV.bool (fun hb => False.elim (by revert hb; decide)) (fun hb => ?_)
  refine RV.step1 (OpOk.yes (ok_move (.inl rfl) rfl (by decide) rfl) rfl rfl rfl) ?_
  refine RV.step1 (OpOk.yes (ok_lenL (m := 68) (by rw [dzV_length, zeros_digits]; rfl) u_ints rfl rfl (by decide) rfl) rfl rfl rfl) ?_
  refine RV.step1 (OpOk.yes (ok_neq rfl rfl (by decide) rfl rfl) rfl rfl rfl) ?_
  refine RV.step1 (OpOk.plain (ok_pickF rfl rfl (by decide) rfl rfl rfl) rfl) ?_
  refine RV.done ?_
  refine CV.cond rfl (fun hc => False.elim (by revert hc; decide)) (fun hc => ?_)
  refine CV.skip ?_
  refine CV.seq ?_
  refine CV.region rfl (fun _ => by kernel_rfl) ?_
  refine RV.step1 (OpOk.plain (ok_move (.inl rfl) rfl (by decide) rfl) rfl) ?_
  refine RV.step1 (OpOk.plain (ok_eql rfl rfl (by decide) rfl rfl) rfl) ?_
  refine RV.step1 (OpOk.plain (ok_move (.inl rfl) rfl (by decide) rfl) rfl) ?_
  refine RV.bool (fun hb => ?_) (fun hb => False.elim (by revert hb; decide))
  refine RV.step1 (OpOk.yes (ok_move (.inl rfl) rfl (by decide) rfl) rfl rfl rfl) ?_
  refine RV.step1 (OpOk.yes (ok_eql rfl rfl (by decide) rfl rfl) rfl rfl rfl) ?_
  refine RV.step1 (OpOk.plain (ok_pickT rfl rfl (by decide) rfl rfl rfl) rfl) ?_
  refine RV.step1 (OpOk.plain (ok_move (.inl rfl) rfl (by decide) rfl) rfl) ?_
  refine RV.bool (fun hb => ?_) (fun hb => False.elim (by revert hb; decide))
  refine RV.step1 (OpOk.yes (ok_move (.inl rfl) rfl (by decide) rfl) rfl rfl rfl) ?_
  refine RV.step1 (OpOk.yes (ok_eql rfl rfl (by decide) rfl rfl) rfl rfl rfl) ?_
  refine RV.step1 (OpOk.plain (ok_pickT rfl rfl (by decide) rfl rfl rfl) rfl) ?_
  refine RV.step1 (OpOk.plain (ok_move (.inl rfl) rfl (by decide) rfl) rfl) ?_
  refine RV.bool (fun hb => ?_) (fun hb => False.elim (by revert hb; decide))
  refine RV.step1 (OpOk.yes (ok_move (.inl rfl) rfl (by decide) rfl) rfl rfl rfl) ?_
  refine RV.step1 (OpOk.yes (ok_eql rfl rfl (by decide) rfl rfl) rfl rfl rfl) ?_
  refine RV.step1 (OpOk.plain (ok_pickT rfl rfl (by decide) rfl rfl rfl) rfl) ?_
  refine RV.step1 (OpOk.plain (ok_move (.inl rfl) rfl (by decide) rfl) rfl) ?_
  refine RV.bool (fun hb => ?_) (fun hb => False.elim (by revert hb; decide))
  refine RV.step1 (OpOk.yes (ok_move (.inl rfl) rfl (by decide) rfl) rfl rfl rfl) ?_
  refine RV.step1 (OpOk.yes (ok_idxL (i := 0) (k := none) (dzV_at (by rw [zeros_digits]; decide)) u_ints sz_i64 (by decide) rfl rfl (by decide) rfl rfl) rfl rfl rfl) ?_
  refine RV.step1 (OpOk.yes (ok_loadP ty_i64 (by decide) rfl rfl (by decide) rfl) rfl rfl rfl) ?_
  refine RV.step1 (OpOk.yes (ok_eql rfl rfl (by decide) rfl rfl) rfl rfl rfl) ?_
  refine RV.step1 (OpOk.plain (ok_pickT rfl rfl (by decide) rfl rfl rfl) rfl) ?_
  refine RV.step1 (OpOk.plain (ok_move (.inl rfl) rfl (by decide) rfl) rfl) ?_
  refine RV.bool (fun hb => ?_) (fun hb => False.elim (by rw [zeros_digits] at hb; revert hb; decide))
  refine RV.step1 (OpOk.yes (ok_move (.inl rfl) rfl (by decide) rfl) rfl rfl rfl) ?_
  refine RV.step1 (OpOk.yes (ok_idxL (i := 64) (k := none) (dzV_at (by rw [zeros_digits]; decide)) u_ints sz_i64 (by decide) rfl rfl (by decide) rfl rfl) rfl rfl rfl) ?_
  refine RV.step1 (OpOk.yes (ok_loadP ty_i64 (by decide) rfl rfl (by decide) rfl) rfl rfl rfl) ?_
  refine RV.step1 (OpOk.yes (ok_eql rfl rfl (by decide) rfl rfl) rfl rfl rfl) ?_
  refine RV.step1 (OpOk.plain (ok_pickT rfl rfl (by decide) rfl rfl rfl) rfl) ?_
  refine RV.step1 (OpOk.plain (ok_move (.inl rfl) rfl (by decide) rfl) rfl) ?_
  refine RV.bool (fun hb => ?_) (fun hb => False.elim (by rw [zeros_digits] at hb; revert hb; decide))
  refine RV.step1 (OpOk.yes (ok_move (.inl rfl) rfl (by decide) rfl) rfl rfl rfl) ?_
  refine RV.step1 (OpOk.yes (ok_idxL (i := 67) (k := none) (dzV_at (by rw [zeros_digits]; decide)) u_ints sz_i64 (by decide) rfl rfl (by decide) rfl rfl) rfl rfl rfl) ?_
  refine RV.step1 (OpOk.yes (ok_loadP ty_i64 (by decide) rfl rfl (by decide) rfl) rfl rfl rfl) ?_
  refine RV.step1 (OpOk.yes (ok_eql rfl rfl (by decide) rfl rfl) rfl rfl rfl) ?_
  refine RV.step1 (OpOk.plain (ok_pickT rfl rfl (by decide) rfl rfl rfl) rfl) ?_
  refine RV.step1 (OpOk.plain (ok_move (.inl rfl) rfl (by decide) rfl) rfl) ?_
  refine RV.bool (fun hb => ?_) (fun hb => False.elim (by rw [zeros_digits] at hb; revert hb; decide))
  refine RV.step1 (OpOk.yes (ok_load rfl rfl (by decide) rfl rfl rfl ty_dig) rfl rfl rfl) ?_
  refine RV.step1 (OpOk.yes (ok_call (Digest_con Sg.p5 [109] 1 hpb (by decide) (Sg.bn_of (by decide)) (by decide) (by decide) (by decide)) rfl rfl (by decide) Tryd.func16 rfl rfl (.cons rfl Conv.any (.cons rfl Conv.any (.cons rfl Conv.any .nil))) rfl hfr rfl) rfl rfl rfl) ?_
  refine RV.step1 (OpOk.yes (ok_load rfl rfl (by decide) rfl rfl rfl ty_dig) rfl rfl rfl) ?_
  refine RV.step1 (OpOk.yes (ok_call (Digest_con Sg.p5 [109] 0 hpb (by decide) (Sg.bn_of (by decide)) (by decide) (by decide) (by decide)) rfl rfl (by decide) Tryd.func16 rfl rfl (.cons rfl Conv.any (.cons rfl Conv.any (.cons rfl Conv.any .nil))) rfl hfr rfl) rfl rfl rfl) ?_
  refine RV.step1 (OpOk.yes (ok_cmpD (neg := true) (b := true) rfl (by have h0 : ¬ by8 (Sg.digestN Sg.p5 1 [109]) = by8 (Sg.digestN Sg.p5 0 [109]) := (fun q => Sg.dig50 (by8_inj (digestN_bn _ _ _) (digestN_bn _ _ _) q)); rw [decide_eq_false h0]; rfl) rfl rfl (by decide) rfl rfl) rfl rfl rfl) ?_
  refine RV.step1 (OpOk.plain (ok_pickT rfl rfl (by decide) rfl rfl rfl) rfl) ?_
  refine RV.step1 (OpOk.plain (ok_move (.inr rfl) rfl (by decide) rfl) rfl) ?_
  refine RV.drawn (by kernel_rfl) ?_
  refine CV.ret ?_
  exact fin1 rfl (.inr rfl) rfl is_rfl
end Vc
end Go.Proofs.YthadfilandmhiaaDoor
