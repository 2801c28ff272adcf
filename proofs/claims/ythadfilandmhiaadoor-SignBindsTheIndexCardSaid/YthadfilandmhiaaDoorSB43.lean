/-
  Signatures: Sign of package sign, whose closure appends to what the caller holds; the cases that it refuses.
-/
import Derived.Test.YthadfilandmhiaaDoorSB42
set_option linter.unusedVariables false
set_option linter.unusedSimpArgs false
set_option linter.unusedSectionVars false
namespace Go.Proofs.YthadfilandmhiaaDoor
open Go.RowKit
open Go.Lib (hid)
open Dg Zn S
namespace Vc
abbrev sgB (l : List (SA Dm)) : Sg Dm := [(.b 500, .blk 51 [(none, .sl 501 l.length)]), (.b 501, .row 5 none l)]
abbrev sgB' (l xs : List (SA Dm)) : Sg Dm := [(.b 500, .blk 51 [(none, .sl 502 (l.length + xs.length))]), (.b 502, .row 5 none (l ++ xs)), (.b 501, .dead)]
theorem sz_bytes : (Tryd.prog.info? 51).map (·.size) = some 1 := by kernel_rfl
theorem zero_bytes : (Tryd.prog.info? 51).map (·.zero) = some (some (.slice none 0 0)) := by kernel_rfl
set_option maxRecDepth 100000 in
theorem add_con (l d : List Nat) (ld : d.length = 16) (ll : l.length ≤ 100000) : ConE Tryd.prog 27 [DG (by8 d), .ptr 500 0] (sgB (byV (by8 l))) (.tup []) (sgB' (byV (by8 l)) (byV (by8 d))) [502] false := by
  refine ConE.of (n := 6) (by exact List.cons_ne_nil _ _) Tryd.func27 rfl rfl rfl rfl rfl rfl rfl rfl fun cx ρ0 hW hBw => ?_
  refine CV.seq ?_
  refine CV.region rfl (fun h => nomatch h) ?_
  refine RV.step1 (OpOk.plain (ok_boxD rfl rfl (by decide) rfl rfl rfl) rfl) ?_
  refine RV.done ?_
  refine CV.region rfl (fun _ => by kernel_rfl) ?_
  refine RV.step1 (OpOk.plain (ok_load rfl rfl (by decide) rfl rfl rfl ty_bytes) rfl) ?_
  refine RV.step1 (OpOk.plain (ok_cutP u_dig sz_u8 rfl rfl (by decide) rfl) rfl) ?_
  refine RV.step4 (OpOk.plain (ok_appendN (r := 501) (r' := 502) (k := none) (lst_elems (by decide) (byV_ptrs _)) (by rw [byV_length, byV_length, by8_length, by8_length]; omega) (by rw [byV_length, byV_length, by8_length, by8_length]; omega) u_bytes inf_u8 rfl rfl rfl rfl rfl (by decide) rfl rfl rfl rfl rfl rfl rfl) rfl) ?_
  refine RV.step1 (OpOk.plain (ok_store1 rfl rfl rfl rfl rfl rfl sz_bytes rfl rfl) rfl) ?_
  refine RV.drawn (by kernel_rfl) ?_
  exact finE0 rfl (.inl rfl) rfl ⟨rfl, rfl, trivial⟩ (fun q => nomatch q)
/-- The signature so far. -/
def sgN (i : Nat) (g : Nat → List Nat) (k : Nat) : List Nat := Sg.intN i ++ topsN g k
theorem sgN_by (i : Nat) (g : Nat → List Nat) (k : Nat) : byV (by8 (sgN i g k)) ++ byV (by8 (g k)) = byV (by8 (sgN i g (k + 1))) := by
  rw [sgN, sgN, topsN_succ, ← List.append_assoc, by8_append _ (g k), byV_append]
theorem sgN_length (i : Nat) (g : Nat → List Nat) (hg : ∀ c, (g c).length = 16) (k : Nat) : (sgN i g k).length ≤ 9 + 16 * k := by
  have := intN_le (i : Int)
  rw [sgN, List.length_append, topsN_length g hg]; omega
/-- The chains' values, then those beside the way. -/
def bothV (seed : List Nat) (i : Nat) (D : List Nat) (c : Nat) : List Nat := if c < 68 then chV seed i D c else sideV seed i (c - 68)
theorem bothV_length (seed : List Nat) (i : Nat) (D : List Nat) (c : Nat) : (bothV seed i D c).length = 16 := by
  unfold bothV; split
  · exact chV_length _ _ _ _
  · exact sideV_length _ _ _
theorem tops_shift (g f : Nat → List Nat) (m : Nat) (hf : ∀ c, g (m + c) = f c) : ∀ k, topsN g (m + k) = topsN g m ++ topsN f k
  | 0 => by rw [Nat.add_zero, topsN_zero, List.append_nil]
  | k + 1 => by rw [← Nat.add_assoc, topsN_succ, tops_shift g f m hf k, topsN_succ, hf, List.append_assoc]
theorem tops_congr {g f : Nat → List Nat} : ∀ k, (∀ c, c < k → g c = f c) → topsN g k = topsN f k
  | 0, _ => rfl
  | k + 1, h => by rw [topsN_succ, topsN_succ, tops_congr k fun c hc => h c (by omega), h k (by omega)]
theorem both_all (seed : List Nat) (i : Nat) (D : List Nat) (h : Nat) : topsN (bothV seed i D) (68 + h) = topsN (chV seed i D) 68 ++ topsN (sideV seed i) h := by
  rw [tops_shift (bothV seed i D) (sideV seed i) 68 (fun c => by rw [bothV, if_neg (by omega), Nat.add_sub_cancel_left]) h, tops_congr 68 fun c hc => by rw [bothV, if_pos hc]]
theorem beside_at (seed : List Nat) (h i l : Nat) (hl : l < h) : (dgL (Sg.besideN seed h i))[l]? = some (DG (by8 (sideV seed i l))) := dgL_at (by simp [Sg.besideN, sideV, hl])
set_option maxRecDepth 100000 in
theorem Sign_con (seed : List Nat) (h i : Nat) (msg : List Nat) (hs : Bn seed) (ls : seed.length = 32) (hh : h ≤ 6) (hi : i < 2 ^ h) (hm : Bn msg) (lm : msg.length ≤ 2000) : Con Tryd.prog 14 [(.v (str (by8 seed)) : SA Dm), .v (.int .i64 (h : Int)), .v (.int .i64 (i : Int)), .v (str (by8 msg))] (.tup [.v (str (by8 (Sg.signN seed h i msg))), EV 0]) := by
  have hp64 := pow_small hh
  have hdl := digestN_length (Sg.nodeN seed h 0) (i : Int) msg
  have hdb := digestN_bn (Sg.nodeN seed h 0) (i : Int) msg
  have hin := intN_le (i : Int)
  refine Con.of (n := 73) Tryd.func14 rfl rfl rfl rfl rfl fun cx hfr => ?_
  refine CV.seq ?_
  refine CV.region rfl (fun h => nomatch h) ?_
  refine RV.step1 (OpOk.plain (ok_move (.inr rfl) rfl (by decide) rfl) rfl) ?_
  refine RV.step1 (OpOk.plain (ok_move (.inr rfl) rfl (by decide) rfl) rfl) ?_
  refine RV.done ?_
  refine CV.seq ?_
  refine CV.seq ?_
  refine CV.region rfl (fun h => nomatch h) ?_
  refine RV.step1 (OpOk.plain (ok_move (.inl rfl) rfl (by decide) rfl) rfl) ?_
  refine RV.step1 (OpOk.plain (ok_move (.inl rfl) rfl (by decide) rfl) rfl) ?_
  refine RV.step1 (OpOk.plain (ok_call (validSigner_con seed (h : Int)) rfl rfl (by decide) Tryd.func21 rfl rfl (.cons rfl Conv.any (.cons rfl Conv.any .nil)) rfl hfr rfl) rfl) ?_
  refine RV.step1 (OpOk.plain (ok_not rfl rfl (by decide) rfl) rfl) ?_
  refine RV.done ?_
  refine CV.cond rfl (fun hc => False.elim (by simp at hc; omega)) (fun hc => ?_)
  refine CV.skip ?_
  refine CV.seq ?_
  refine CV.seq ?_
  refine CV.region rfl (fun h => nomatch h) ?_
  refine RV.step1 (OpOk.plain (ok_move (.inl rfl) rfl (by decide) rfl) rfl) ?_
  refine RV.step1 (OpOk.plain (ok_move (.inl rfl) rfl (by decide) rfl) rfl) ?_
  refine RV.step1 (OpOk.plain (ok_call (validIndex_con h hh (i : Int)) rfl rfl (by decide) Tryd.func25 rfl rfl (.cons rfl Conv.any (.cons rfl Conv.any .nil)) rfl hfr rfl) rfl) ?_
  refine RV.step1 (OpOk.plain (ok_not rfl rfl (by decide) rfl) rfl) ?_
  refine RV.done ?_
  refine CV.cond rfl (fun hc => False.elim (by have hc' : ¬ (0 ≤ (i : Int) ∧ (i : Int) < ((2 ^ h : Nat) : Int)) := (by simpa using hc); omega)) (fun hc => ?_)
  refine CV.skip ?_
  refine CV.seq ?_
  refine CV.seq ?_
  refine CV.region rfl (fun h => nomatch h) ?_
  refine RV.step1 (OpOk.plain (ok_move (.inl rfl) rfl (by decide) rfl) rfl) ?_
  refine RV.step1 (OpOk.plain (ok_lenT (by8_length msg) u_str rfl rfl (by decide) rfl) rfl) ?_
  refine RV.step1 (OpOk.plain (ok_gtr rfl rfl (by decide) rfl rfl) rfl) ?_
  refine RV.done ?_
  refine CV.cond rfl (fun hc => False.elim (by simp at hc; omega)) (fun hc => ?_)
  refine CV.skip ?_
  refine CV.seq ?_
  refine CV.region rfl (fun h => nomatch h) ?_
  refine RV.step1 (OpOk.plain (ok_move (.inl rfl) rfl (by decide) rfl) rfl) ?_
  refine RV.step1 (OpOk.plain (ok_move (.inl rfl) rfl (by decide) rfl) rfl) ?_
  refine RV.step1 (OpOk.plain (ok_move (.inl rfl) rfl (by decide) rfl) rfl) ?_
  refine RV.step1 (OpOk.plain (ok_call (tree_con seed h i hs (by omega) hh hi) rfl rfl (by decide) Tryd.func22 rfl rfl (.cons rfl Conv.any (.cons rfl Conv.any (.cons rfl Conv.any .nil))) rfl hfr rfl) rfl) ?_
  refine RV.step1 (OpOk.plain (ok_move (.inl rfl) rfl (by decide) rfl) rfl) ?_
  refine RV.step1 (OpOk.plain (ok_extract rfl rfl (by decide) rfl rfl) rfl) ?_
  refine RV.step1 (OpOk.plain (ok_extract rfl rfl (by decide) rfl rfl) rfl) ?_
  refine RV.step2 (OpOk.plain (ok_alloc (i := 0) rfl rfl (by decide) zero_dig rfl rfl rfl rfl) rfl) ?_
  refine RV.step1 (OpOk.plain (ok_store rfl rfl rfl rfl rfl rfl rfl (ty_dig).2 rfl rfl rfl rfl) rfl) ?_
  refine RV.step1 (OpOk.plain (ok_move (.inr rfl) rfl (by decide) rfl) rfl) ?_
  refine RV.done ?_
  refine CV.seq ?_
  refine CV.region rfl (fun h => nomatch h) ?_
  refine RV.step1 (OpOk.plain (ok_move (.inl rfl) rfl (by decide) rfl) rfl) ?_
  refine RV.step3 (OpOk.plain (ok_callRow (r := 501) (Int_row (i : Int) (by omega) (by omega)) (byV_vals _) rfl rfl (by decide) Tryd.func26 rfl rfl (.cons rfl Conv.any .nil) rfl rfl rfl) rfl) ?_
  refine RV.step2 (OpOk.plain (ok_alloc (i := 500) rfl rfl (by decide) zero_bytes rfl rfl rfl rfl) rfl) ?_
  refine RV.step1 (OpOk.plain (ok_store1 rfl rfl rfl rfl rfl rfl sz_bytes rfl rfl) rfl) ?_
  refine RV.done ?_
  refine CV.seq ?_
  refine CV.region rfl (fun h => nomatch h) ?_
  refine RV.step1 (OpOk.plain (ok_mkfnR (hne := List.cons_ne_nil _ _) (ss := [(.ptr 500 0 : SA Dm)]) rfl rfl (by decide) ⟨rfl, trivial⟩) rfl) ?_
  refine RV.step1 (OpOk.plain (ok_move (.inr rfl) rfl (by decide) rfl) rfl) ?_
  refine RV.done ?_
  refine CV.seq ?_
  refine CV.seq ?_
  refine CV.kp [500, 501, 502] rfl rfl ?_
  refine CV.region rfl (fun h => nomatch h) ?_
  refine RV.step1 (OpOk.plain (ok_load rfl rfl (by decide) rfl rfl rfl ty_dig) rfl) ?_
  refine RV.step1 (OpOk.plain (ok_move (.inl rfl) rfl (by decide) rfl) rfl) ?_
  refine RV.step1 (OpOk.plain (ok_move (.inl rfl) rfl (by decide) rfl) rfl) ?_
  refine RV.step1 (OpOk.plain (ok_callV (Digest_con (Sg.nodeN seed h 0) msg (i : Int) (nodeN_bn _ _ _) (nodeN_length _ _ _) hm lm (by omega) (by omega)) (free_dg _) (cx.wf hfr) rfl rfl (by decide) Tryd.func16 rfl rfl (.cons rfl Conv.any (.cons rfl Conv.any (.cons rfl Conv.any .nil))) rfl) rfl) ?_
  refine RV.step1 (OpOk.plain (ok_callF (Digits_conF (Sg.digestN (Sg.nodeN seed h 0) (i : Int) msg) hdb hdl) rfl rfl (by decide) Tryd.func10 rfl rfl (.cons rfl Conv.any .nil) rfl) rfl) ?_
  refine RV.step1 (OpOk.plain (ok_lenL (m := 68) (by rw [dzV_length, Sg.digitsN_length hdl]) u_ints rfl rfl (by decide) rfl) rfl) ?_
  refine RV.step1 (OpOk.plain (ok_move (.inl rfl) rfl (by decide) rfl) rfl) ?_
  refine RV.done ?_
  refine CV.block ?_
  obtain ⟨D, hD⟩ : ∃ D, D = Sg.digitsN (Sg.digestN (Sg.nodeN seed h 0) (i : Int) msg) := ⟨_, rfl⟩
  have hD3 : ∀ c, D.getD c 0 ≤ 3 := (fun c => by rw [hD]; exact digN_le hdl hdb c)
  have hDl : D.length = 68 := (by rw [hD]; exact Sg.digitsN_length hdl)
  rw [← hD]
  refine CV.loop (X := {c : Nat // c ≤ 68}) (fun c => [(.s 45, .av (.one (.v (.int .i64 (c.1 : Int))))), (.s 44, .av (.one (.v (.int .i64 ((68 : Nat) : Int))))), (.s 43, .av (.one (DZ D))), (.s 13, .av (.one (.lk (fnR 27 [(.ptr 500 0 : SA Dm)])))), (.s 12, .av (.one (.ptr 500 0))), (.b 500, .blk 51 [(none, .sl 501 (byV (by8 (sgN i (bothV seed i D) c.1))).length)]), (.b 501, .row 5 none (byV (by8 (sgN i (bothV seed i D) c.1)))), (KP, .np [500, 501, 502]), (.s 11, .av (.one (DL (Sg.besideN seed h i)))), (.s 0, .av (.one (.v (str (by8 seed))))), (.s 2, .av (.one (.v (.int .i64 (i : Int)))))]) (fun c => 68 - c.1) ⟨0, Nat.zero_le _⟩ (Sub.mk ⟨XV.le_rfl _, XV.le_rfl _, XV.le_rfl _, XV.le_rfl _, XV.le_rfl _, XV.le_of (by rw [sgN, topsN_zero, List.append_nil]; rfl), XV.le_row (by rw [sgN, topsN_zero, List.append_nil]), trivial, XV.le_rfl _, XV.le_rfl _, XV.le_rfl _, trivial⟩ rfl rfl rfl rfl) (fun c => ?_)
  obtain ⟨c, hc4⟩ := c
  simp only
  refine CV.seq ?_
  refine CV.region rfl (fun h => nomatch h) ?_
  refine RV.step1 (OpOk.plain (ok_lss rfl rfl (by decide) rfl rfl) rfl) ?_
  refine RV.done ?_
  refine CV.seq ?_
  refine CV.cond rfl (fun hc => ?_) (fun hc => ?_)
  · have hlt : c < 68 := (by have := of_decide_eq_true hc; omega)
    have hc3 := hD3 c
    have hgl := sgN_length i (bothV seed i D) (bothV_length seed i D) c
    have hch : chV seed i D c = bothV seed i D c := (by rw [bothV, if_pos hlt])
    refine CV.skip ?_
    refine CV.seq ?_
    refine CV.block ?_
    refine CV.seq ?_
    refine CV.region rfl (fun h => nomatch h) ?_
    refine RV.step1 (OpOk.plain (ok_move (.inl rfl) rfl (by decide) rfl) rfl) ?_
    refine RV.step1 (OpOk.plain (ok_idxL (i := c) (k := none) (dzV_at (by omega)) u_ints sz_i64 (by decide) rfl rfl (by decide) rfl rfl) rfl) ?_
    refine RV.step1 (OpOk.plain (ok_loadP ty_i64 (by decide) rfl rfl (by decide) rfl) rfl) ?_
    refine RV.step1 (OpOk.plain (ok_move (.inr rfl) rfl (by decide) rfl) rfl) ?_
    refine RV.step1 (OpOk.plain (ok_move (.inr rfl) rfl (by decide) rfl) rfl) ?_
    refine RV.done ?_
    refine CV.region rfl (fun h => nomatch h) ?_
    refine RV.step1 (OpOk.plain (ok_move (.inl rfl) rfl (by decide) rfl) rfl) ?_
    refine RV.step1 (OpOk.plain (ok_move (.inl rfl) rfl (by decide) rfl) rfl) ?_
    refine RV.step1 (OpOk.plain (ok_move (.inl rfl) rfl (by decide) rfl) rfl) ?_
    refine RV.step1 (OpOk.plain (ok_move (.inl rfl) rfl (by decide) rfl) rfl) ?_
    refine RV.step1 (OpOk.plain (ok_callV (start_con seed i c hs (by omega) (by omega) (by omega)) (free_dg _) (cx.wf hfr) rfl rfl (by decide) Tryd.func29 rfl rfl (.cons rfl Conv.any (.cons rfl Conv.any (.cons rfl Conv.any .nil))) rfl) rfl) ?_
    refine RV.step1 (OpOk.plain (ok_move (.inl rfl) rfl (by decide) rfl) rfl) ?_
    refine RV.step1 (OpOk.plain (ok_move (.inl rfl) rfl (by decide) rfl) rfl) ?_
    refine RV.step1 (OpOk.plain (ok_move (.inl rfl) rfl (by decide) rfl) rfl) ?_
    refine RV.step1 (OpOk.plain (ok_callV (advance_con (Sg.startN seed i c) i c 0 (D.getD c 0) (startN_bn _ _ _) (startN_length _ _ _) (by omega) (by omega) (Nat.zero_le _) (by omega)) (free_dg _) (cx.wf hfr) rfl rfl (by decide) Tryd.func28 rfl rfl (.cons rfl Conv.any (.cons rfl Conv.any (.cons rfl Conv.any (.cons rfl Conv.any (.cons rfl Conv.any .nil))))) rfl) rfl) ?_
    refine RV.step4 (OpOk.plain (ok_callE (sas := [DG (by8 (chV seed i D c))]) (caps := [(.ptr 500 0 : SA Dm)]) (add_con (sgN i (bothV seed i D) c) (chV seed i D c) (chV_length _ _ _ _) (by omega)) (cx.wf hfr) Tryd.func27 rfl rfl rfl rfl (by decide) rfl ⟨rfl, trivial⟩ ⟨rfl, rfl, trivial⟩ ⟨rfl, trivial⟩ rfl rfl rfl rfl) rfl) ?_
    refine RV.done ?_
    refine CV.region rfl (fun h => nomatch h) ?_
    refine RV.step1 (OpOk.plain (ok_add (c := ((c + 1 : Nat) : Int)) (by rw [wrapI (by omega) (by omega)]; omega) rfl rfl (by decide) rfl rfl) rfl) ?_
    refine RV.step1 (OpOk.plain (ok_move (.inl rfl) rfl (by decide) rfl) rfl) ?_
    refine RV.done ?_
    rw [hch]
    exact ⟨⟨c + 1, hlt⟩, Sub.mkr (fun i => if i = 501 then 502 else i) ⟨XV.le_same, XV.le_same, fun _ _ _ _ h => h, XV.le_fix rfl, XV.le_fix rfl, ⟨rfl, by rw [← sgN_by, List.length_append]; exact fun _ _ _ _ h => h⟩, XV.le_row (sgN_by _ _ _), trivial, fun _ _ _ _ h => h, fun _ _ _ _ h => h, fun _ _ _ _ h => h, trivial⟩ rfl rfl rfl rfl, by show 68 - (c + 1) < 68 - c; omega⟩
  · refine CV.exit ?_
    refine CV.seq ?_
    refine CV.seq ?_
    have hc68 : c = 68 := (by have := of_decide_eq_false hc; omega)
    subst hc68
    refine CV.region rfl (fun h => nomatch h) ?_
    refine RV.step1 (OpOk.plain (ok_move (.inl rfl) rfl (by decide) rfl) rfl) ?_
    refine RV.step1 (OpOk.plain (ok_lenL (m := h) (by simp [dgL, Sg.besideN]) u_digs rfl rfl (by decide) rfl) rfl) ?_
    refine RV.step1 (OpOk.plain (ok_move (.inl rfl) rfl (by decide) rfl) rfl) ?_
    refine RV.done ?_
    refine CV.block ?_
    refine CV.loop (X := {l : Nat // l ≤ h}) (fun l => [(.s 63, .av (.one (.v (.int .i64 (l.1 : Int))))), (.s 62, .av (.one (.v (.int .i64 (h : Int))))), (.s 61, .av (.one (DL (Sg.besideN seed h i)))), (.s 13, .av (.one (.lk (fnR 27 [(.ptr 500 0 : SA Dm)])))), (.s 12, .av (.one (.ptr 500 0))), (.b 500, .blk 51 [(none, .sl 501 (byV (by8 (sgN i (bothV seed i D) (68 + l.1)))).length)]), (.b 501, .row 5 none (byV (by8 (sgN i (bothV seed i D) (68 + l.1))))), (KP, .np [500, 501, 502])]) (fun l => h - l.1) ⟨0, Nat.zero_le _⟩ (Sub.mk ⟨XV.le_rfl _, XV.le_rfl _, XV.le_rfl _, XV.le_rfl _, XV.le_rfl _, XV.le_rfl _, XV.le_rfl _, trivial, trivial⟩ rfl rfl rfl rfl) (fun l => ?_)
    obtain ⟨l, hl⟩ := l
    simp only
    refine CV.seq ?_
    refine CV.region rfl (fun h => nomatch h) ?_
    refine RV.step1 (OpOk.plain (ok_lss rfl rfl (by decide) rfl rfl) rfl) ?_
    refine RV.done ?_
    refine CV.seq ?_
    refine CV.cond rfl (fun hc2 => ?_) (fun hc2 => ?_)
    · have hll : l < h := (by have := of_decide_eq_true hc2; omega)
      have hgl := sgN_length i (bothV seed i D) (bothV_length seed i D) (68 + l)
      have hsd : sideV seed i l = bothV seed i D (68 + l) := (by rw [bothV, if_neg (by omega), Nat.add_sub_cancel_left])
      refine CV.skip ?_
      refine CV.seq ?_
      refine CV.block ?_
      refine CV.seq ?_
      refine CV.region rfl (fun h => nomatch h) ?_
      refine RV.step1 (OpOk.plain (ok_idxL (i := l) (k := some 16) (beside_at seed h i l hll) u_digs sz_dig (by decide) rfl rfl (by decide) rfl rfl) rfl) ?_
      refine RV.step1 (OpOk.plain (ok_loadP ty_dig (by decide) rfl rfl (by decide) rfl) rfl) ?_
      refine RV.step2 (OpOk.plain (ok_alloc (i := 1) rfl rfl (by decide) zero_dig rfl rfl rfl rfl) rfl) ?_
      refine RV.step1 (OpOk.plain (ok_store rfl rfl rfl rfl rfl rfl rfl (ty_dig).2 rfl rfl rfl rfl) rfl) ?_
      refine RV.done ?_
      refine CV.region rfl (fun h => nomatch h) ?_
      refine RV.step1 (OpOk.plain (ok_move (.inl rfl) rfl (by decide) rfl) rfl) ?_
      refine RV.step1 (OpOk.plain (ok_load rfl rfl (by decide) rfl rfl rfl ty_dig) rfl) ?_
      refine RV.step4 (OpOk.plain (ok_callE (sas := [DG (by8 (sideV seed i l))]) (caps := [(.ptr 500 0 : SA Dm)]) (add_con (sgN i (bothV seed i D) (68 + l)) (sideV seed i l) (sideV_length _ _ _) (by omega)) (cx.wf hfr) Tryd.func27 rfl rfl rfl rfl (by decide) rfl ⟨rfl, trivial⟩ ⟨rfl, rfl, trivial⟩ ⟨rfl, trivial⟩ rfl rfl rfl rfl) rfl) ?_
      refine RV.done ?_
      refine CV.region rfl (fun h => nomatch h) ?_
      refine RV.step1 (OpOk.plain (ok_add (c := ((l + 1 : Nat) : Int)) (by rw [wrapI (by omega) (by omega)]; omega) rfl rfl (by decide) rfl rfl) rfl) ?_
      refine RV.step1 (OpOk.plain (ok_move (.inl rfl) rfl (by decide) rfl) rfl) ?_
      refine RV.done ?_
      rw [hsd]
      exact ⟨⟨l + 1, hll⟩, Sub.mkr (fun i => if i = 501 then 502 else i) ⟨XV.le_same, XV.le_same, fun _ _ _ _ h => h, XV.le_fix rfl, XV.le_fix rfl, ⟨rfl, by rw [show 68 + (l + 1) = 68 + l + 1 from rfl, ← sgN_by, List.length_append]; exact fun _ _ _ _ h => h⟩, XV.le_row (sgN_by _ _ _), trivial, trivial⟩ rfl rfl rfl rfl, by show h - (l + 1) < h - l; omega⟩
    · refine CV.exit ?_
      refine CV.seq ?_
      have hlh : l = h := (by have := of_decide_eq_false hc2; omega)
      subst hlh
      refine CV.region rfl (fun h => nomatch h) ?_
      refine RV.step1 (OpOk.plain (ok_load rfl rfl (by decide) rfl rfl rfl ty_bytes) rfl) ?_
      refine RV.step1 (OpOk.plain (ok_b2sR (u := by8 (sgN i (bothV seed i D) (68 + l))) (byV_length _) u_bytes u_u8 u_str rfl rfl (by decide) rfl rfl) rfl) ?_
      refine RV.step1 (OpOk.plain (ok_move (.inr rfl) rfl (by decide) rfl) rfl) ?_
      refine RV.step1 (OpOk.plain (ok_move (.inr rfl) rfl (by decide) rfl) rfl) ?_
      refine RV.done ?_
      refine CV.ret ?_
      exact fin2 rfl (.inr rfl) rfl rfl (is_pair (by rw [signN_eq, ← hD, List.append_assoc, ← both_all]; exact fun _ _ _ _ h => h) fun _ _ _ _ h => h)
set_option maxRecDepth 100000 in
theorem Sign_arg (seed msg : List Nat) (h i : Int) (hb : ¬ (seed.length = 32 ∧ 0 ≤ h ∧ h ≤ 6)) : Con Tryd.prog 14 [(.v (str (by8 seed)) : SA Dm), .v (.int .i64 h), .v (.int .i64 i), .v (str (by8 msg))] (.tup [.v (str []), EV 1]) := by
  refine Con.of (n := 73) Tryd.func14 rfl rfl rfl rfl rfl fun cx hfr => ?_
  refine CV.seq ?_
  refine CV.region rfl (fun h => nomatch h) ?_
  refine RV.step1 (OpOk.plain (ok_move (.inr rfl) rfl (by decide) rfl) rfl) ?_
  refine RV.step1 (OpOk.plain (ok_move (.inr rfl) rfl (by decide) rfl) rfl) ?_
  refine RV.done ?_
  refine CV.seq ?_
  refine CV.seq ?_
  refine CV.region rfl (fun h => nomatch h) ?_
  refine RV.step1 (OpOk.plain (ok_move (.inl rfl) rfl (by decide) rfl) rfl) ?_
  refine RV.step1 (OpOk.plain (ok_move (.inl rfl) rfl (by decide) rfl) rfl) ?_
  refine RV.step1 (OpOk.plain (ok_call (validSigner_con seed h) rfl rfl (by decide) Tryd.func21 rfl rfl (.cons rfl Conv.any (.cons rfl Conv.any .nil)) rfl hfr rfl) rfl) ?_
  refine RV.step1 (OpOk.plain (ok_not rfl rfl (by decide) rfl) rfl) ?_
  refine RV.done ?_
  refine CV.cond rfl (fun hc => ?_) (fun hc => False.elim (by simp at hc; omega))
  refine CV.seq ?_
  refine CV.region rfl (fun h => nomatch h) ?_
  refine RV.step1 (OpOk.plain (ok_move (.inr rfl) rfl (by decide) rfl) rfl) ?_
  refine RV.step1 (OpOk.plain (ok_move (.inr rfl) rfl (by decide) rfl) rfl) ?_
  refine RV.done ?_
  refine CV.ret ?_
  exact fin2 rfl (.inr rfl) rfl rfl is_rfl2
set_option maxRecDepth 100000 in
theorem Sign_spent (seed msg : List Nat) (h : Nat) (i : Int) (ls : seed.length = 32) (hh : h ≤ 6) (hi : ¬ (0 ≤ i ∧ i < ((2 ^ h : Nat) : Int))) : Con Tryd.prog 14 [(.v (str (by8 seed)) : SA Dm), .v (.int .i64 (h : Int)), .v (.int .i64 i), .v (str (by8 msg))] (.tup [.v (str []), EV 24]) := by
  refine Con.of (n := 73) Tryd.func14 rfl rfl rfl rfl rfl fun cx hfr => ?_
  refine CV.seq ?_
  refine CV.region rfl (fun h => nomatch h) ?_
  refine RV.step1 (OpOk.plain (ok_move (.inr rfl) rfl (by decide) rfl) rfl) ?_
  refine RV.step1 (OpOk.plain (ok_move (.inr rfl) rfl (by decide) rfl) rfl) ?_
  refine RV.done ?_
  refine CV.seq ?_
  refine CV.seq ?_
  refine CV.region rfl (fun h => nomatch h) ?_
  refine RV.step1 (OpOk.plain (ok_move (.inl rfl) rfl (by decide) rfl) rfl) ?_
  refine RV.step1 (OpOk.plain (ok_move (.inl rfl) rfl (by decide) rfl) rfl) ?_
  refine RV.step1 (OpOk.plain (ok_call (validSigner_con seed (h : Int)) rfl rfl (by decide) Tryd.func21 rfl rfl (.cons rfl Conv.any (.cons rfl Conv.any .nil)) rfl hfr rfl) rfl) ?_
  refine RV.step1 (OpOk.plain (ok_not rfl rfl (by decide) rfl) rfl) ?_
  refine RV.done ?_
  refine CV.cond rfl (fun hc => False.elim (by simp at hc; omega)) (fun hc => ?_)
  refine CV.skip ?_
  refine CV.seq ?_
  refine CV.seq ?_
  refine CV.region rfl (fun h => nomatch h) ?_
  refine RV.step1 (OpOk.plain (ok_move (.inl rfl) rfl (by decide) rfl) rfl) ?_
  refine RV.step1 (OpOk.plain (ok_move (.inl rfl) rfl (by decide) rfl) rfl) ?_
  refine RV.step1 (OpOk.plain (ok_call (validIndex_con h hh i) rfl rfl (by decide) Tryd.func25 rfl rfl (.cons rfl Conv.any (.cons rfl Conv.any .nil)) rfl hfr rfl) rfl) ?_
  refine RV.step1 (OpOk.plain (ok_not rfl rfl (by decide) rfl) rfl) ?_
  refine RV.done ?_
  refine CV.cond rfl (fun hc => ?_) (fun hc => False.elim (by exact hi (by simpa using hc)))
  refine CV.seq ?_
  refine CV.region rfl (fun h => nomatch h) ?_
  refine RV.step1 (OpOk.plain (ok_move (.inr rfl) rfl (by decide) rfl) rfl) ?_
  refine RV.step1 (OpOk.plain (ok_move (.inr rfl) rfl (by decide) rfl) rfl) ?_
  refine RV.done ?_
  refine CV.ret ?_
  exact fin2 rfl (.inr rfl) rfl rfl is_rfl2
set_option maxRecDepth 100000 in
theorem rSign_arg (seed msg : List Nat) (h i : Int) (hb : ¬ (seed.length = 32 ∧ 0 ≤ h ∧ h ≤ 6)) : Con Tryd.prog 15 [(.v (str (by8 seed)) : SA Dm), .v (.int .i64 h), .v (.int .i64 i), .v (str (by8 msg))] (.tup [.v (str []), EV 1]) := by
  refine Con.of (n := 94) Tryd.func15 rfl rfl rfl rfl rfl fun cx hfr => ?_
  refine CV.seq ?_
  refine CV.region rfl (fun h => nomatch h) ?_
  refine RV.step1 (OpOk.plain (ok_move (.inr rfl) rfl (by decide) rfl) rfl) ?_
  refine RV.step1 (OpOk.plain (ok_move (.inr rfl) rfl (by decide) rfl) rfl) ?_
  refine RV.done ?_
  refine CV.seq ?_
  refine CV.region rfl (fun h => nomatch h) ?_
  refine RV.step1 (OpOk.plain (ok_move (.inl rfl) rfl (by decide) rfl) rfl) ?_
  refine RV.step1 (OpOk.plain (ok_move (.inl rfl) rfl (by decide) rfl) rfl) ?_
  refine RV.step1 (OpOk.plain (ok_call (fits_con seed h) rfl rfl (by decide) Tryd.func23 rfl rfl (.cons rfl Conv.any (.cons rfl Conv.any .nil)) rfl hfr rfl) rfl) ?_
  refine RV.step1 (OpOk.plain (ok_move (.inr rfl) rfl (by decide) rfl) rfl) ?_
  refine RV.done ?_
  refine CV.seq ?_
  refine CV.seq ?_
  refine CV.region rfl (fun h => nomatch h) ?_
  refine RV.step1 (OpOk.plain (ok_move (.inl rfl) rfl (by decide) rfl) rfl) ?_
  refine RV.step1 (OpOk.plain (ok_not rfl rfl (by decide) rfl) rfl) ?_
  refine RV.done ?_
  refine CV.cond rfl (fun hc => ?_) (fun hc => False.elim (by simp at hc; omega))
  refine CV.seq ?_
  refine CV.region rfl (fun h => nomatch h) ?_
  refine RV.step1 (OpOk.plain (ok_move (.inr rfl) rfl (by decide) rfl) rfl) ?_
  refine RV.step1 (OpOk.plain (ok_move (.inr rfl) rfl (by decide) rfl) rfl) ?_
  refine RV.done ?_
  refine CV.ret ?_
  exact fin2 rfl (.inr rfl) rfl rfl is_rfl2
set_option maxRecDepth 100000 in
theorem rSign_spent (seed msg : List Nat) (h : Nat) (i : Int) (ls : seed.length = 32) (hh : h ≤ 6) (hi : ¬ (0 ≤ i ∧ i < ((2 ^ h : Nat) : Int))) : Con Tryd.prog 15 [(.v (str (by8 seed)) : SA Dm), .v (.int .i64 (h : Int)), .v (.int .i64 i), .v (str (by8 msg))] (.tup [.v (str []), EV 24]) := by
  refine Con.of (n := 94) Tryd.func15 rfl rfl rfl rfl rfl fun cx hfr => ?_
  refine CV.seq ?_
  refine CV.region rfl (fun h => nomatch h) ?_
  refine RV.step1 (OpOk.plain (ok_move (.inr rfl) rfl (by decide) rfl) rfl) ?_
  refine RV.step1 (OpOk.plain (ok_move (.inr rfl) rfl (by decide) rfl) rfl) ?_
  refine RV.done ?_
  refine CV.seq ?_
  refine CV.region rfl (fun h => nomatch h) ?_
  refine RV.step1 (OpOk.plain (ok_move (.inl rfl) rfl (by decide) rfl) rfl) ?_
  refine RV.step1 (OpOk.plain (ok_move (.inl rfl) rfl (by decide) rfl) rfl) ?_
  refine RV.step1 (OpOk.plain (ok_call (fits_con seed (h : Int)) rfl rfl (by decide) Tryd.func23 rfl rfl (.cons rfl Conv.any (.cons rfl Conv.any .nil)) rfl hfr rfl) rfl) ?_
  refine RV.step1 (OpOk.plain (ok_move (.inr rfl) rfl (by decide) rfl) rfl) ?_
  refine RV.done ?_
  refine CV.seq ?_
  refine CV.seq ?_
  refine CV.region rfl (fun h => nomatch h) ?_
  refine RV.step1 (OpOk.plain (ok_move (.inl rfl) rfl (by decide) rfl) rfl) ?_
  refine RV.step1 (OpOk.plain (ok_not rfl rfl (by decide) rfl) rfl) ?_
  refine RV.done ?_
  refine CV.cond rfl (fun hc => False.elim (by simp at hc; omega)) (fun hc => ?_)
  refine CV.skip ?_
  refine CV.seq ?_
  refine CV.seq ?_
  refine CV.region rfl (fun h => nomatch h) ?_
  refine RV.step1 (OpOk.plain (ok_move (.inl rfl) rfl (by decide) rfl) rfl) ?_
  refine RV.step1 (OpOk.plain (ok_lss rfl rfl (by decide) rfl rfl) rfl) ?_
  refine RV.step1 (OpOk.plain (ok_move (.inl rfl) rfl (by decide) rfl) rfl) ?_
  refine RV.bool (fun hb2 => ?_) (fun hb2 => ?_)
  · refine RV.step1 (OpOk.skip rfl rfl rfl rfl rfl (by decide)) ?_
    refine RV.step1 (OpOk.skip rfl rfl rfl rfl rfl (by decide)) ?_
    refine RV.step1 (OpOk.skip rfl rfl rfl rfl rfl (by decide)) ?_
    refine RV.step1 (OpOk.skip rfl rfl rfl rfl rfl (by decide)) ?_
    refine RV.step1 (OpOk.plain (ok_pickT rfl rfl (by decide) rfl rfl rfl) rfl) ?_
    refine RV.done ?_
    refine CV.yes rfl ?_
    refine CV.seq ?_
    refine CV.region rfl (fun h => nomatch h) ?_
    refine RV.step1 (OpOk.plain (ok_move (.inr rfl) rfl (by decide) rfl) rfl) ?_
    refine RV.step1 (OpOk.plain (ok_move (.inr rfl) rfl (by decide) rfl) rfl) ?_
    refine RV.done ?_
    refine CV.ret ?_
    exact fin2 rfl (.inr rfl) rfl rfl is_rfl2
  · refine RV.step1 (OpOk.yes (ok_move (.inl rfl) rfl (by decide) rfl) rfl rfl rfl) ?_
    refine RV.step1 (OpOk.yes (ok_move (.inl rfl) rfl (by decide) rfl) rfl rfl rfl) ?_
    refine RV.step1 (OpOk.yes (ok_shl (j := h) (c := ((2 ^ h : Nat) : Int)) (by omega) (shl_small hh) rfl rfl (by decide) rfl rfl) rfl rfl rfl) ?_
    refine RV.step1 (OpOk.yes (ok_geq rfl rfl (by decide) rfl rfl) rfl rfl rfl) ?_
    refine RV.step1 (OpOk.plain (ok_pickF rfl rfl (by decide) rfl rfl rfl) rfl) ?_
    refine RV.done ?_
    refine CV.cond rfl (fun hc => ?_) (fun hc => False.elim (by have h1 := of_decide_eq_false hc; have h2 := of_decide_eq_false hb2; exact hi ⟨by omega, by omega⟩))
    refine CV.seq ?_
    refine CV.region rfl (fun h => nomatch h) ?_
    refine RV.step1 (OpOk.plain (ok_move (.inr rfl) rfl (by decide) rfl) rfl) ?_
    refine RV.step1 (OpOk.plain (ok_move (.inr rfl) rfl (by decide) rfl) rfl) ?_
    refine RV.done ?_
    refine CV.ret ?_
    exact fin2 rfl (.inr rfl) rfl rfl is_rfl2
end Vc
end Go.Proofs.YthadfilandmhiaaDoor
