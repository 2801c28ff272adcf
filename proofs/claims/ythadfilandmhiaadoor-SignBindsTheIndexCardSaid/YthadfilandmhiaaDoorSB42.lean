/-
  Signatures: the root that follows from a signature: closures that take its digests one by one.
  Signatures: the tree of package sign, a closure that calls itself and writes beside's row; Public.
-/
import Derived.Test.YthadfilandmhiaaDoorSB41
import Derived.Test.YthadfilandmhiaaDoorSB39
set_option linter.unusedVariables false
set_option linter.unusedSimpArgs false
set_option linter.unusedSectionVars false
namespace Go.Proofs.YthadfilandmhiaaDoor
open Go.RowKit
open Go.Lib (hid)
open Dg Zn S
namespace Vc
theorem free_dg (u : List UInt8) : Free (.one (DG u) : AV Dm) := fun _ _ _ w _ h w' _ => h w (Agree.refl _ _)
theorem XV.le_fix {f : Nat → Nat} {x : AV Dm} (h : (x.ptrs.all fun b => Nat.beq (f b) b) = true) : (XV.av x).leR f (.av x) := fun _ _ _ _ hv => hv.go (Goes.refl _ _) fun b hb => by rw [Nat.eq_of_beq_eq_true (List.all_eq_true.1 h b hb)]
/-- What is left of the digests. -/
abbrev rB (s : List Nat) : Sg Dm := [(.b 500, .blk 9 [(none, .v (str (by8 s)))])]
abbrev nextC : SA Dm := .lk (fnR 59 [(.ptr 500 0 : SA Dm)])
theorem ty_fnD : TyIs Tryd.prog 90 none := TyIs.one (by kernel_rfl) (by kernel_rfl)
theorem zero_fnD : (Tryd.prog.info? 90).map (·.zero) = some (some .nilFunc) := by kernel_rfl
theorem sz_fnD : (Tryd.prog.info? 90).map (·.size) = some 1 := by kernel_rfl
theorem zero_ints : (Tryd.prog.info? 25).map (·.zero) = some (some (.slice none 0 0)) := by kernel_rfl
set_option maxRecDepth 100000 in
theorem next_con (s : List Nat) (hs : 16 ≤ s.length) (hl : s.length ≤ 100000) : ConE Tryd.prog 59 [(.ptr 500 0 : SA Dm)] (rB s) (.one (DG (by8 (s.take 16)))) (rB (s.drop 16)) [] := by
  refine ConE.of (n := 11) (by exact List.cons_ne_nil _ _) Tryd.func59 rfl rfl rfl rfl rfl rfl rfl rfl fun cx ρ0 hW hBw => ?_
  refine CV.seq ?_
  refine CV.region rfl (fun h => nomatch h) ?_
  refine RV.step2 (OpOk.plain (ok_alloc (i := 0) rfl rfl (by decide) zero_dig rfl rfl rfl rfl) rfl) ?_
  refine RV.done ?_
  refine CV.seq ?_
  refine CV.region rfl (fun h => nomatch h) ?_
  refine RV.step1 (OpOk.plain (ok_load rfl rfl (by decide) rfl rfl rfl ty_str) rfl) ?_
  refine RV.step1 (OpOk.plain (ok_cutT (v := by8 (s.take 16)) none (some 16) (by show (List.take 16 (by8 s)).drop 0 = _; rw [List.drop_zero, by8, ← List.map_take]; rfl) (Nat.zero_le _) (by show 16 ≤ _; rw [by8_length]; exact hs) u_str rfl rfl (by decide) rfl trivial rfl) rfl) ?_
  refine RV.step1 (OpOk.plain (ok_s2b (by rw [by8_length, List.length_take]; omega) u_str u_bytes u_u8 rfl rfl (by decide) rfl) rfl) ?_
  refine RV.step1 (OpOk.plain (ok_s2ap (by rw [by8_length, List.length_take]; omega) u_dig rfl rfl (by decide) rfl) rfl) ?_
  refine RV.step1 (OpOk.plain (ok_loadP ty_dig (by decide) rfl rfl (by decide) rfl) rfl) ?_
  refine RV.step2 (OpOk.plain (ok_alloc (i := 1) rfl rfl (by decide) zero_dig rfl rfl rfl rfl) rfl) ?_
  refine RV.step1 (OpOk.plain (ok_store rfl rfl rfl rfl rfl rfl rfl (ty_dig).2 rfl rfl rfl rfl) rfl) ?_
  refine RV.done ?_
  refine CV.seq ?_
  refine CV.region rfl (fun h => nomatch h) ?_
  refine RV.step1 (OpOk.plain (ok_load rfl rfl (by decide) rfl rfl rfl ty_str) rfl) ?_
  refine RV.step1 (OpOk.plain (ok_cutT (v := by8 (s.drop 16)) (some 16) none (by show (List.take (by8 s).length (by8 s)).drop 16 = _; rw [List.take_length, by8, ← List.map_drop]; rfl) (by show 16 ≤ (by8 s).length; rw [by8_length]; exact hs) (Nat.le_refl _) u_str rfl rfl (by decide) rfl rfl trivial) rfl) ?_
  refine RV.step1 (OpOk.plain (ok_store rfl rfl rfl rfl rfl rfl rfl (ty_str).2 rfl rfl rfl rfl) rfl) ?_
  refine RV.done ?_
  refine CV.seq ?_
  refine CV.region rfl (fun h => nomatch h) ?_
  refine RV.step1 (OpOk.plain (ok_load rfl rfl (by decide) rfl rfl rfl ty_dig) rfl) ?_
  refine RV.step1 (OpOk.plain (ok_store rfl rfl rfl rfl rfl rfl rfl (ty_dig).2 rfl rfl rfl rfl) rfl) ?_
  refine RV.done ?_
  refine CV.ret ?_
  exact finE1 rfl (.inr rfl) rfl ⟨rfl, trivial⟩ (fun _ => rfl) ⟨_, _, _, _, _, rfl, rfl, rfl, ty_dig⟩ is_rfl
/-- What the closure for a chain's end has captured. -/
abbrev capsR (i : Nat) (D : List Nat) : List (SA Dm) := [.lk (pR none nextC), .d (Dm.gen (pG none (.v (.int .i64 (i : Int))))), .d (Dm.gen (pG none (DZ D)))]
set_option maxRecDepth 100000 in
theorem top2_con (i c : Nat) (D s : List Nat) (hs : 16 ≤ s.length) (hl : s.length ≤ 100000) (hb : Bn s) (hi : i ≤ 1000) (hc' : c < D.length) (hc3 : D.getD c 0 ≤ 3) (hc1 : c ≤ 1000) : ConE Tryd.prog 60 ((.v (.int .i64 (c : Int)) : SA Dm) :: capsR i D) (rB s) (.one (DG (by8 (Sg.advN i c (D.getD c 0) (3 - D.getD c 0) (s.take 16))))) (rB (s.drop 16)) [] := by
  refine ConE.of (n := 15) (by exact List.cons_ne_nil _ _) Tryd.func60 rfl rfl rfl rfl rfl rfl rfl rfl fun cx ρ0 hW hBw => ?_
  refine CV.seq ?_
  refine CV.region rfl (fun h => nomatch h) ?_
  refine RV.step2 (OpOk.plain (ok_alloc (i := 0) rfl rfl (by decide) zero_dig rfl rfl rfl rfl) rfl) ?_
  refine RV.done ?_
  refine CV.seq ?_
  refine CV.region rfl (fun _ => by kernel_rfl) ?_
  refine RV.step1 (OpOk.plain (ok_loadPR ty_fnD (by decide) rfl rfl (by decide) rfl) rfl) ?_
  refine RV.step2 (OpOk.plain (ok_callE (sas := []) (caps := [(.ptr 500 0 : SA Dm)]) (next_con s hs hl) hW Tryd.func59 rfl rfl rfl rfl (by decide) rfl trivial ⟨rfl, trivial⟩ trivial rfl rfl rfl rfl) rfl) ?_
  refine RV.step1 (OpOk.plain (ok_loadP ty_i64 (by decide) rfl rfl (by decide) rfl) rfl) ?_
  refine RV.step1 (OpOk.plain (ok_move (.inl rfl) rfl (by decide) rfl) rfl) ?_
  refine RV.step1 (OpOk.plain (ok_loadP ty_ints (by decide) rfl rfl (by decide) rfl) rfl) ?_
  refine RV.step1 (OpOk.plain (ok_move (.inl rfl) rfl (by decide) rfl) rfl) ?_
  refine RV.step1 (OpOk.plain (ok_idxL (i := c) (k := none) (dzV_at hc') u_ints sz_i64 (by decide) rfl rfl (by decide) rfl rfl) rfl) ?_
  refine RV.step1 (OpOk.plain (ok_loadP ty_i64 (by decide) rfl rfl (by decide) rfl) rfl) ?_
  refine RV.step1 (OpOk.plain (ok_callV (advance_con (s.take 16) i c (D.getD c 0) 3 (fun x hx => hb x (List.mem_of_mem_take hx)) (by rw [List.length_take]; omega) hi hc1 hc3 (by decide)) (free_dg _) hW rfl rfl (by decide) Tryd.func28 rfl rfl (.cons rfl Conv.any (.cons rfl Conv.any (.cons rfl Conv.any (.cons rfl Conv.any (.cons rfl Conv.any .nil))))) rfl) rfl) ?_
  refine RV.step1 (OpOk.plain (ok_store rfl rfl rfl rfl rfl rfl rfl (ty_dig).2 rfl rfl rfl rfl) rfl) ?_
  refine RV.drawn (by kernel_rfl) ?_
  refine CV.ret ?_
  exact finE1 rfl (.inr rfl) rfl ⟨rfl, trivial⟩ (fun _ => rfl) ⟨_, _, _, _, _, rfl, rfl, rfl, ty_dig⟩ is_rfl
/-- A chain's end. -/
def endV (i : Nat) (D rest : List Nat) (c : Nat) : List Nat := Sg.advN i c (D.getD c 0) (3 - D.getD c 0) (if c < 68 then Sg.piece rest c else List.replicate 16 0)
theorem piece_length {rest : List Nat} {c : Nat} (h : 16 * c + 16 ≤ rest.length) : (Sg.piece rest c).length = 16 := by
  rw [Sg.piece, List.length_take, List.length_drop]; omega
theorem piece_bn {rest : List Nat} (hb : Bn rest) (c : Nat) : Bn (Sg.piece rest c) := fun x hx => hb x (List.mem_of_mem_drop (List.mem_of_mem_take hx))
theorem rep_bn : Bn (List.replicate 16 0) := by intro x hx; rw [List.eq_of_mem_replicate hx]; decide
theorem endV_length {i : Nat} {D rest : List Nat} (h : 1088 ≤ rest.length) (c : Nat) : (endV i D rest c).length = 16 := by
  refine Sg.advN_length _ _ _ _ _ ?_
  split
  · exact piece_length (by omega)
  · rfl
theorem endV_bn {i : Nat} {D rest : List Nat} (hb : Bn rest) (c : Nat) : Bn (endV i D rest c) := by
  refine Sg.advN_bn _ _ _ _ _ ?_
  split
  · exact piece_bn hb c
  · exact rep_bn
theorem ends_eq (i : Nat) (D rest : List Nat) : (List.range 68).map (endV i D rest) = Sg.endsN i D rest := by
  refine List.map_congr_left fun c hc => ?_
  rw [endV, if_pos (List.mem_range.1 hc)]
theorem top3_con (i : Nat) (D rest : List Nat) (h : 1088 ≤ rest.length) (hl : rest.length ≤ 100000) (hb : Bn rest) (hi : i ≤ 1000) (hD : D.length = 68) (hD3 : ∀ c, D.getD c 0 ≤ 3) (c : Nat) (hc : c < 68) : ConE Tryd.prog 60 ((.v (.int .i64 (c : Int)) : SA Dm) :: capsR i D) (rB (rest.drop (16 * c))) (.one (DG (by8 (endV i D rest c)))) (rB (rest.drop (16 * (c + 1)))) [] := by
  have := top2_con i c D (rest.drop (16 * c)) (by rw [List.length_drop]; omega) (by rw [List.length_drop]; omega) (fun x hx => hb x (List.mem_of_mem_drop hx)) hi (by omega) (hD3 c) (by omega)
  rw [endV, if_pos hc, Sg.piece]
  rw [List.drop_drop, show 16 * c + 16 = 16 * (c + 1) by omega] at this
  exact this
set_option maxRecDepth 100000 in
theorem leafE_con (i : Nat) (D rest : List Nat) (h : 1088 ≤ rest.length) (hl : rest.length ≤ 100000) (hb : Bn rest) (hi : i ≤ 1000) (hD : D.length = 68) (hD3 : ∀ c, D.getD c 0 ≤ 3) : ConE Tryd.prog 43 [(.lk (fnR 60 (capsR i D)) : SA Dm)] (rB (rest.drop (16 * 0))) (.one (DG (by8 (Sg.leafN ((List.range 68).map (endV i D rest)))))) (rB (rest.drop (16 * 68))) [] := by
  have hl68 := topsN_length (endV i D rest) (endV_length h) 68
  have hgb := endV_bn (i := i) (D := D) hb
  refine ConE.of (n := 25) (by exact List.cons_ne_nil _ _) Tryd.func43 rfl rfl rfl rfl rfl rfl rfl rfl fun cx ρ0 hW hBw => ?_
  refine CV.seq ?_
  refine CV.region rfl (fun h => nomatch h) ?_
  refine RV.step2 (OpOk.plain (ok_alloc (i := 0) rfl rfl (by decide) zero_dig rfl rfl rfl rfl) rfl) ?_
  refine RV.done ?_
  refine CV.seq ?_
  refine CV.region rfl (fun h => nomatch h) ?_
  refine RV.step1 (OpOk.plain (ok_move (.inr rfl) rfl (by decide) rfl) rfl) ?_
  refine RV.done ?_
  refine CV.seq ?_
  refine CV.seq ?_
  refine CV.nilrow 3 100 5 none rfl rfl rfl rfl ?_
  refine CV.region rfl (fun h => nomatch h) ?_
  refine RV.step1 (OpOk.plain (ok_move (.inl rfl) rfl (by decide) rfl) rfl) ?_
  refine RV.done ?_
  refine CV.block ?_
  refine CV.loop (X := {k : Nat // k ≤ 68}) (fun k => [(.s 7, .av (.one (.v (.int .i64 (k.1 : Int))))), (.s 3, .av (.one (.sl 100 (byV (by8 (topsN (endV i D rest) k.1))).length))), (.b 100, .row 5 none (byV (by8 (topsN (endV i D rest) k.1)))), (.s 0, .av (.one (.lk (fnR 60 (capsR i D))))), (.s 2, .av (.one (.ptr 0 0))), (.b 0, .blk 23 [(some 16, .v zeroDig)]), (.b 500, .blk 9 [(none, .v (str (by8 (rest.drop (16 * k.1)))))]), (LKs, lkX [500] ρ0 (by exact List.cons_ne_nil _ _))]) (fun k => 68 - k.1) ⟨0, Nat.zero_le _⟩ (Sub.mk ⟨XV.le_rfl _, XV.le_rfl _, XV.le_row rfl, XV.le_rfl _, XV.le_rfl _, XV.le_rfl _, XV.le_rfl _, XV.le_rfl _, trivial⟩ rfl rfl) (fun k => ?_)
  obtain ⟨k, hk⟩ := k
  simp only
  refine CV.seq ?_
  refine CV.region rfl (fun h => nomatch h) ?_
  refine RV.step1 (OpOk.plain (ok_lss rfl rfl (by decide) rfl rfl) rfl) ?_
  refine RV.done ?_
  refine CV.seq ?_
  refine CV.cond rfl (fun hc => ?_) (fun hc => ?_)
  · have hlt : k < 68 := (by have := of_decide_eq_true hc; omega)
    refine CV.skip ?_
    refine CV.seq ?_
    refine CV.block ?_
    refine CV.seq ?_
    refine CV.region rfl (fun h => nomatch h) ?_
    refine RV.step1 (OpOk.plain (ok_move (.inl rfl) rfl (by decide) rfl) rfl) ?_
    refine RV.step1 (OpOk.plain (ok_move (.inr rfl) rfl (by decide) rfl) rfl) ?_
    refine RV.done ?_
    refine CV.seq ?_
    refine CV.region rfl (fun h => nomatch h) ?_
    refine RV.step1 (OpOk.plain (ok_move (.inl rfl) rfl (by decide) rfl) rfl) ?_
    refine RV.step1 (OpOk.plain (ok_move (.inl rfl) rfl (by decide) rfl) rfl) ?_
    refine RV.step2 (OpOk.plain (ok_callE (sas := [.v (.int .i64 (k : Int))]) (caps := capsR i D) (top3_con i D rest h hl hb hi hD hD3 k hlt) hW Tryd.func60 rfl rfl rfl rfl (by decide) rfl ⟨rfl, trivial⟩ ⟨rfl, trivial⟩ trivial rfl rfl rfl rfl) rfl) ?_
    refine RV.step2 (OpOk.plain (ok_alloc (i := 1) rfl rfl (by decide) zero_dig rfl rfl rfl rfl) rfl) ?_
    refine RV.step1 (OpOk.plain (ok_store rfl rfl rfl rfl rfl rfl rfl (ty_dig).2 rfl rfl rfl rfl) rfl) ?_
    refine RV.done ?_
    have hlk := topsN_length (endV i D rest) (endV_length h) k
    have hgk := endV_length (i := i) (D := D) h k
    refine CV.freezeE (r := 1) (t := 5) (nb_E hBw rfl rfl rfl) rfl rfl rfl rfl ?_
    refine CV.region rfl (fun h => nomatch h) ?_
    refine RV.step1 (OpOk.plain (ok_move (.inl rfl) rfl (by decide) rfl) rfl) ?_
    refine RV.step1 (OpOk.plain (ok_cutP u_dig sz_u8 rfl rfl (by decide) rfl) rfl) ?_
    refine RV.step3 (OpOk.plain (ok_append (r := 100) (r' := 101) (lst_elems (by decide) (byV_ptrs _)) (by rw [byV_length, byV_length, by8_length, by8_length]; omega) (by rw [byV_length, byV_length, by8_length, by8_length]; omega) u_bytes inf_u8 rfl rfl rfl (byV_plain _) rfl rfl rfl (by decide) rfl rfl rfl rfl rfl rfl rfl rfl) rfl) ?_
    refine RV.step1 (OpOk.plain (ok_move (.inr rfl) rfl (by decide) rfl) rfl) ?_
    refine RV.done ?_
    refine CV.region rfl (fun h => nomatch h) ?_
    refine RV.step1 (OpOk.plain (ok_add (c := ((k + 1 : Nat) : Int)) (by rw [wrapI (by omega) (by omega)]; omega) rfl rfl (by decide) rfl rfl) rfl) ?_
    refine RV.step1 (OpOk.plain (ok_move (.inl rfl) rfl (by decide) rfl) rfl) ?_
    refine RV.done ?_
    exact ⟨⟨k + 1, hlt⟩, Sub.mkr (fun i => if i = 100 then 101 else i) ⟨XV.le_same, XV.le_sl rfl (by rw [← byV_tops, List.length_append]), XV.le_row (byV_tops _ k), XV.le_fix rfl, fun _ _ _ _ h => h, ⟨rfl, fun _ _ _ _ h => h⟩, ⟨rfl, fun _ _ _ _ h => h⟩, XV.le_fix rfl, trivial⟩ rfl rfl rfl rfl, by show 68 - (k + 1) < 68 - k; omega⟩
  · refine CV.exit ?_
    refine CV.seq ?_
    have hk68 : k = 68 := (by have := of_decide_eq_false hc; omega)
    subst hk68
    refine CV.region rfl (fun h => nomatch h) ?_
    refine RV.step1 (OpOk.plain (ok_move (.inl rfl) rfl (by decide) rfl) rfl) ?_
    refine RV.step1 (OpOk.plain (ok_b2sR (u := by8 (topsN (endV i D rest) 68)) (byV_length _) u_bytes u_u8 u_str rfl rfl (by decide) rfl rfl) rfl) ?_
    refine RV.step1 (OpOk.plain (ok_litD (k := none) (xs := [.tmp 18]) (ss := txV [topsN (endV i D rest) 68]) (G := Dm.gen (lstG none (txV [topsN (endV i D rest) 68]))) (lstG_Lst _ _) u_strs zs_str rfl rfl rfl (str_kinds _) (str_ptrs _) rfl rfl (by decide) (.cons rfl Conv.any .nil)) rfl) ?_
    refine RV.step1 (OpOk.plain (ok_callV (Of_dg 3 (by decide) [topsN (endV i D rest) 68] (by simp [topsN_bn _ hgb]) (by simp) (by simp [hl68])) (free_dg _) hW rfl rfl (by decide) Tryd.func34 rfl rfl (.cons rfl Conv.any (.cons rfl Conv.any .nil)) rfl) rfl) ?_
    refine RV.step2 (OpOk.plain (ok_alloc (i := 1) rfl rfl (by decide) zero_dig rfl rfl rfl rfl) rfl) ?_
    refine RV.step1 (OpOk.plain (ok_store rfl rfl rfl rfl rfl rfl rfl (ty_dig).2 rfl rfl rfl rfl) rfl) ?_
    refine RV.done ?_
    refine CV.seq ?_
    refine CV.region rfl (fun h => nomatch h) ?_
    refine RV.step1 (OpOk.plain (ok_cutA u_dig sz_u8 rfl rfl (by decide) rfl rfl) rfl) ?_
    refine RV.step1 (OpOk.plain (ok_b2sA u_bytes u_u8 u_str rfl rfl (by decide) rfl rfl) rfl) ?_
    refine RV.step1 (OpOk.plain (ok_litD (k := none) (xs := [.tmp 22]) (ss := txV [Sg.ofL 3 [topsN (endV i D rest) 68]]) (G := Dm.gen (lstG none (txV [Sg.ofL 3 [topsN (endV i D rest) 68]]))) (lstG_Lst _ _) u_strs zs_str rfl rfl rfl (str_kinds _) (str_ptrs _) rfl rfl (by decide) (.cons rfl Conv.any .nil)) rfl) ?_
    refine RV.step1 (OpOk.plain (ok_callV (Of_dg 1 (by decide) [Sg.ofL 3 [topsN (endV i D rest) 68]] (by simp [Sg.ofL_bn]) (by simp) (by simp [Sg.ofL_length])) (free_dg _) hW rfl rfl (by decide) Tryd.func34 rfl rfl (.cons rfl Conv.any (.cons rfl Conv.any .nil)) rfl) rfl) ?_
    refine RV.step1 (OpOk.plain (ok_store rfl rfl rfl rfl rfl rfl rfl (ty_dig).2 rfl rfl rfl rfl) rfl) ?_
    refine RV.done ?_
    refine CV.ret ?_
    exact finE1 rfl (.inr rfl) rfl ⟨rfl, trivial⟩ (fun _ => rfl) ⟨_, _, _, _, _, rfl, rfl, rfl, ty_dig⟩ is_rfl

theorem up_step {rest : List Nat} {i h l : Nat} {v R : List Nat} (hl : l < h) (hR : Sg.upN (fun j => Sg.piece rest (68 + (l + j))) (i / 2 ^ l) (h - l) v = R) :
    Sg.upN (fun j => Sg.piece rest (68 + (l + 1 + j))) (i / 2 ^ (l + 1)) (h - (l + 1)) (if i / 2 ^ l % 2 = 1 then Sg.joinN2 (Sg.piece rest (68 + l)) v else Sg.joinN2 v (Sg.piece rest (68 + l))) = R := by
  rw [show h - l = (h - (l + 1)) + 1 by omega, Sg.upN, half_pow] at hR
  rw [← hR]
  congr 1
  funext j
  rw [show l + 1 + j = l + (j + 1) by omega]
theorem odd_of {q : Nat} (h : ((((q % 2 : Nat) : Int) == 0) = false)) : q % 2 = 1 := by
  have h1 : ¬ ((q % 2 : Nat) : Int) = 0 := fun e => by rw [e] at h; exact absurd h (by decide)
  omega
theorem join_bn (a b : List Nat) : Bn (Sg.joinN2 a b) := Sg.ofL_bn _ _
theorem join_length (a b : List Nat) : (Sg.joinN2 a b).length = 16 := Sg.ofL_length _ _
theorem shr_nat (i l : Nat) : (i : Int) / 2 ^ l = ((i / 2 ^ l : Nat) : Int) := by rw [Int.natCast_ediv, Int.natCast_pow]; rfl
set_option maxRecDepth 100000 in
theorem signedRoot_con (pub msg rest : List Nat) (h i : Nat) (hp : Bn pub) (lp : pub.length = 16) (hm : Bn msg) (lm : msg.length ≤ 2000) (hb : Bn rest) (hl : rest.length = (68 + h) * 16) (hh : h ≤ 6) (hi : i < 2 ^ h) : Con Tryd.prog 38 [DG (by8 pub), .v (.int .i64 (h : Int)), .v (.int .i64 (i : Int)), .v (str (by8 msg)), .v (str (by8 rest))] (.one (DG (by8 (Sg.rootN pub h i msg rest)))) := by
  have hp64 := pow_small hh
  have hdl := digestN_length pub (i : Int) msg
  have hdb := digestN_bn pub (i : Int) msg
  refine Con.of (n := 42) Tryd.func38 rfl rfl rfl rfl rfl fun cx hfr => ?_
  refine CV.seq ?_
  refine CV.region rfl (fun h => nomatch h) ?_
  refine RV.step2 (OpOk.plain (ok_box (i := 0) rfl rfl (by decide) rfl rfl rfl rfl rfl) rfl) ?_
  refine RV.step1 (OpOk.plain (ok_boxD rfl rfl (by decide) rfl rfl rfl) rfl) ?_
  refine RV.step2 (OpOk.plain (ok_box (i := 500) rfl rfl (by decide) rfl rfl rfl rfl rfl) rfl) ?_
  refine RV.step2 (OpOk.plain (ok_alloc (i := 1) rfl rfl (by decide) zero_dig rfl rfl rfl rfl) rfl) ?_
  refine RV.done ?_
  refine CV.seq ?_
  refine CV.region rfl (fun h => nomatch h) ?_
  refine RV.step1 (OpOk.plain (ok_mkfnR (hne := List.cons_ne_nil _ _) (ss := [(.ptr 500 0 : SA Dm)]) rfl rfl (by decide) ⟨rfl, trivial⟩) rfl) ?_
  refine RV.step2 (OpOk.plain (ok_alloc (i := 501) rfl rfl (by decide) zero_fnD rfl rfl rfl rfl) rfl) ?_
  refine RV.step1 (OpOk.plain (ok_store1 rfl rfl rfl rfl rfl rfl sz_fnD rfl rfl) rfl) ?_
  refine RV.done ?_
  refine CV.seq ?_
  refine CV.freezeR (s := nextC) (hne := List.cons_ne_nil _ _) (r := 501) (t := 11) (fun _ _ _ _ => cx.bw hfr _) rfl rfl rfl ?_
  refine CV.region rfl (fun h => nomatch h) ?_
  refine RV.step1 (OpOk.plain (ok_load rfl rfl (by decide) rfl rfl rfl ty_dig) rfl) ?_
  refine RV.step1 (OpOk.plain (ok_loadP ty_i64 (by decide) rfl rfl (by decide) rfl) rfl) ?_
  refine RV.step1 (OpOk.plain (ok_move (.inl rfl) rfl (by decide) rfl) rfl) ?_
  refine RV.step1 (OpOk.plain (ok_call (Digest_con pub msg (i : Int) hp lp hm lm (by omega) (by omega)) rfl rfl (by decide) Tryd.func16 rfl rfl (.cons rfl Conv.any (.cons rfl Conv.any (.cons rfl Conv.any .nil))) rfl hfr rfl) rfl) ?_
  refine RV.step1 (OpOk.plain (ok_call (Digits_con (Sg.digestN pub (i : Int) msg) hdb hdl) rfl rfl (by decide) Tryd.func10 rfl rfl (.cons rfl Conv.any .nil) rfl hfr rfl) rfl) ?_
  refine RV.step2 (OpOk.plain (ok_alloc (i := 502) rfl rfl (by decide) zero_ints rfl rfl rfl rfl) rfl) ?_
  refine RV.step1 (OpOk.plain (ok_store rfl rfl rfl rfl rfl rfl rfl (ty_ints).2 rfl rfl rfl rfl) rfl) ?_
  refine RV.done ?_
  refine CV.seq ?_
  refine CV.freezeB (r := 502) (t := 12) (cx.bw hfr) rfl rfl rfl rfl rfl ?_
  generalize hD : Sg.digitsN (Sg.digestN pub (i : Int) msg) = D
  have hD3 : ∀ c, D.getD c 0 ≤ 3 := (fun c => by rw [← hD]; exact digN_le hdl hdb c)
  have hDl : D.length = 68 := (by rw [← hD]; exact Sg.digitsN_length hdl)
  refine CV.region rfl (fun h => nomatch h) ?_
  refine RV.step1 (OpOk.plain (ok_mkfnR (hne := List.cons_ne_nil _ _) (ss := capsR i D) rfl rfl (by decide) ⟨rfl, rfl, rfl, trivial⟩) rfl) ?_
  refine RV.step2 (OpOk.plain (ok_callNE (bl := rB (rest.drop (16 * 0))) (leafE_con i D rest (by omega) (by omega) hb (by omega) hDl hD3) (cx.wf hfr) Tryd.func43 rfl rfl rfl rfl (by decide) ⟨rfl, trivial⟩ ⟨rfl, trivial⟩ trivial rfl rfl rfl rfl) rfl) ?_
  refine RV.step2 (OpOk.plain (ok_alloc (i := 2) rfl rfl (by decide) zero_dig rfl rfl rfl rfl) rfl) ?_
  refine RV.step1 (OpOk.plain (ok_store rfl rfl rfl rfl rfl rfl rfl (ty_dig).2 rfl rfl rfl rfl) rfl) ?_
  refine RV.done ?_
  refine CV.seq ?_
  refine CV.seq ?_
  rw [ends_eq]
  obtain ⟨V, hV⟩ : ∃ V, V = Sg.leafN (Sg.endsN i D rest) := ⟨_, rfl⟩
  rw [← hV]
  refine CV.region rfl (fun h => nomatch h) ?_
  refine RV.step1 (OpOk.plain (ok_move (.inl rfl) rfl (by decide) rfl) rfl) ?_
  refine RV.step1 (OpOk.plain (ok_move (.inl rfl) rfl (by decide) rfl) rfl) ?_
  refine RV.done ?_
  refine CV.block ?_
  refine CV.loop (X := {q : Nat × List Nat // q.1 ≤ h ∧ Bn q.2 ∧ q.2.length = 16 ∧ Sg.upN (fun j => Sg.piece rest (68 + (q.1 + j))) (i / 2 ^ q.1) (h - q.1) q.2 = Sg.rootN pub h i msg rest}) (fun q => [(.s 24, .av (.one (.v (.int .i64 (q.1.1 : Int))))), (.s 23, .av (.one (.v (.int .i64 (h : Int))))), (.s 7, .av (.one (.d (Dm.gen (pG none (.v (.int .i64 (i : Int)))))))), (.s 11, .av (.one (.lk (pR none nextC)))), (.s 13, .av (.one (.ptr 2 0))), (.b 2, .blk 23 [(some 16, DG (by8 q.1.2))]), (.b 500, .blk 9 [(none, .v (str (by8 (rest.drop (16 * (68 + q.1.1))))))]), (.s 10, .av (.one (.ptr 1 0))), (.b 1, .blk 23 [(some 16, .v zeroDig)])]) (fun q => h - q.1.1) ⟨(0, V), Nat.zero_le _, by rw [hV]; exact Sg.ofL_bn _ _, by rw [hV]; exact Sg.ofL_length _ _, by rw [Sg.rootN, hD, hV, Nat.pow_zero, Nat.div_one, Nat.sub_zero]; congr 1; funext j; rw [Nat.zero_add]⟩ (Sub.mk ⟨XV.le_rfl _, XV.le_rfl _, XV.le_rfl _, XV.le_rfl _, XV.le_rfl _, XV.le_rfl _, XV.le_rfl _, XV.le_rfl _, XV.le_rfl _, trivial⟩ rfl rfl) (fun q => ?_)
  obtain ⟨⟨l, v⟩, hll, hvb, hvl, hR⟩ := q
  simp only at hll hvb hvl hR ⊢
  refine CV.seq ?_
  refine CV.region rfl (fun h => nomatch h) ?_
  refine RV.step1 (OpOk.plain (ok_lss rfl rfl (by decide) rfl rfl) rfl) ?_
  refine RV.done ?_
  refine CV.seq ?_
  refine CV.cond rfl (fun hc => ?_) (fun hc => ?_)
  · have hlt : l < h := (by have := of_decide_eq_true hc; omega)
    have hstep := up_step hlt hR
    have hpl := piece_length (rest := rest) (c := 68 + l) (by omega)
    have hpb := piece_bn hb (68 + l)
    have hdr : (rest.drop (16 * (68 + l))).drop 16 = rest.drop (16 * (68 + (l + 1))) := (by rw [List.drop_drop, show 16 * (68 + l) + 16 = 16 * (68 + (l + 1)) by omega])
    have hnx := next_con (rest.drop (16 * (68 + l))) (by rw [List.length_drop]; omega) (by rw [List.length_drop]; omega)
    rw [hdr] at hnx
    refine CV.skip ?_
    refine CV.seq ?_
    refine CV.block ?_
    refine CV.seq ?_
    refine CV.region rfl (fun h => nomatch h) ?_
    refine RV.step1 (OpOk.plain (ok_move (.inl rfl) rfl (by decide) rfl) rfl) ?_
    refine RV.step1 (OpOk.plain (ok_move (.inr rfl) rfl (by decide) rfl) rfl) ?_
    refine RV.done ?_
    refine CV.seq ?_
    refine CV.region rfl (fun h => nomatch h) ?_
    refine RV.step1 (OpOk.plain (ok_loadP ty_i64 (by decide) rfl rfl (by decide) rfl) rfl) ?_
    refine RV.step1 (OpOk.plain (ok_move (.inl rfl) rfl (by decide) rfl) rfl) ?_
    refine RV.step1 (OpOk.plain (ok_shr (j := l) (c := ((i / 2 ^ l : Nat) : Int)) (by omega) (shr_nat i l) rfl rfl (by decide) rfl rfl) rfl) ?_
    refine RV.step1 (OpOk.plain (ok_remN (m := i / 2 ^ l) (q := 2) (by decide) rfl rfl (by decide) rfl rfl) rfl) ?_
    refine RV.step1 (OpOk.plain (ok_eql rfl rfl (by decide) rfl rfl) rfl) ?_
    refine RV.done ?_
    refine CV.cond rfl (fun hc2 => ?_) (fun hc2 => ?_)
    · have h0 : ¬ i / 2 ^ l % 2 = 1 := (by have := eq_of_beq hc2; omega)
      rw [if_neg h0] at hstep
      refine CV.region rfl (fun _ => by kernel_rfl) ?_
      refine RV.step1 (OpOk.plain (ok_load rfl rfl (by decide) rfl rfl rfl ty_dig) rfl) ?_
      refine RV.step1 (OpOk.plain (ok_loadPR ty_fnD (by decide) rfl rfl (by decide) rfl) rfl) ?_
      refine RV.step2 (OpOk.plain (ok_callE (sas := []) (caps := [(.ptr 500 0 : SA Dm)]) hnx (cx.wf hfr) Tryd.func59 rfl rfl rfl rfl (by decide) rfl trivial ⟨rfl, trivial⟩ trivial rfl rfl rfl rfl) rfl) ?_
      refine RV.step1 (OpOk.plain (ok_call (join_con v (Sg.piece rest (68 + l)) hvb hpb hvl hpl) rfl rfl (by decide) Tryd.func45 rfl rfl (.cons rfl Conv.any (.cons rfl Conv.any .nil)) rfl hfr rfl) rfl) ?_
      refine RV.step1 (OpOk.plain (ok_store rfl rfl rfl rfl rfl rfl rfl (ty_dig).2 rfl rfl rfl rfl) rfl) ?_
      refine RV.drawn (by kernel_rfl) ?_
      refine CV.region rfl (fun h => nomatch h) ?_
      refine RV.step1 (OpOk.plain (ok_add (c := ((l + 1 : Nat) : Int)) (by rw [wrapI (by omega) (by omega)]; omega) rfl rfl (by decide) rfl rfl) rfl) ?_
      refine RV.step1 (OpOk.plain (ok_move (.inl rfl) rfl (by decide) rfl) rfl) ?_
      refine RV.done ?_
      exact ⟨⟨(l + 1, _), hlt, join_bn _ _, join_length _ _, hstep⟩, Sub.mk ⟨XV.le_rfl _, XV.le_rfl _, XV.le_rfl _, XV.le_rfl _, XV.le_rfl _, XV.le_rfl _, XV.le_rfl _, XV.le_rfl _, XV.le_rfl _, trivial⟩ rfl rfl, by show h - (l + 1) < h - l; omega⟩
    · have h0 : i / 2 ^ l % 2 = 1 := odd_of hc2
      rw [if_pos h0] at hstep
      refine CV.region rfl (fun _ => by kernel_rfl) ?_
      refine RV.step1 (OpOk.plain (ok_loadPR ty_fnD (by decide) rfl rfl (by decide) rfl) rfl) ?_
      refine RV.step2 (OpOk.plain (ok_callE (sas := []) (caps := [(.ptr 500 0 : SA Dm)]) hnx (cx.wf hfr) Tryd.func59 rfl rfl rfl rfl (by decide) rfl trivial ⟨rfl, trivial⟩ trivial rfl rfl rfl rfl) rfl) ?_
      refine RV.step1 (OpOk.plain (ok_load rfl rfl (by decide) rfl rfl rfl ty_dig) rfl) ?_
      refine RV.step1 (OpOk.plain (ok_call (join_con (Sg.piece rest (68 + l)) v hpb hvb hpl hvl) rfl rfl (by decide) Tryd.func45 rfl rfl (.cons rfl Conv.any (.cons rfl Conv.any .nil)) rfl hfr rfl) rfl) ?_
      refine RV.step1 (OpOk.plain (ok_store rfl rfl rfl rfl rfl rfl rfl (ty_dig).2 rfl rfl rfl rfl) rfl) ?_
      refine RV.drawn (by kernel_rfl) ?_
      refine CV.region rfl (fun h => nomatch h) ?_
      refine RV.step1 (OpOk.plain (ok_add (c := ((l + 1 : Nat) : Int)) (by rw [wrapI (by omega) (by omega)]; omega) rfl rfl (by decide) rfl rfl) rfl) ?_
      refine RV.step1 (OpOk.plain (ok_move (.inl rfl) rfl (by decide) rfl) rfl) ?_
      refine RV.done ?_
      exact ⟨⟨(l + 1, _), hlt, join_bn _ _, join_length _ _, hstep⟩, Sub.mk ⟨XV.le_rfl _, XV.le_rfl _, XV.le_rfl _, XV.le_rfl _, XV.le_rfl _, XV.le_rfl _, XV.le_rfl _, XV.le_rfl _, XV.le_rfl _, trivial⟩ rfl rfl, by show h - (l + 1) < h - l; omega⟩
  · refine CV.exit ?_
    refine CV.seq ?_
    have hlh : l = h := (by have := of_decide_eq_false hc; omega)
    subst hlh
    rw [Nat.sub_self, Sg.upN] at hR
    refine CV.region rfl (fun h => nomatch h) ?_
    refine RV.step1 (OpOk.plain (ok_load rfl rfl (by decide) rfl rfl rfl ty_dig) rfl) ?_
    refine RV.step1 (OpOk.plain (ok_store rfl rfl rfl rfl rfl rfl rfl (ty_dig).2 rfl rfl rfl rfl) rfl) ?_
    refine RV.done ?_
    refine CV.ret ?_
    exact fin1 rfl (.inr rfl) ⟨_, _, _, _, _, rfl, rfl, rfl, ty_dig⟩ (is_of (by rw [hR]))
theorem xor_small : ∀ m : _root_.Fin 64, IntKind.i64.wrap (BitVec.ofInt 64 ((m.1 : Nat) : Int) ^^^ BitVec.ofInt 64 1).toNat = ((Sg.nextTo m.1 : Nat) : Int) := by decide +kernel
theorem ok_xor1 {P : Program} {cx : Cx Dm} {n : Nat} {σ : St Dm} {o : Oper} {d m : Nat} {x y : Operand} {T T' : TypeId} (hm : m < 64) (ho : o.op = .binOp .xor T x y T') (hd : o.dst = some d) (hn : d < n) (hx : opd σ x = .av (.one (.v (.int .i64 (m : Int))))) (hy : opd σ y = .av (.one (.v (.int .i64 1)))) : OpOk P cx n σ o (opk x ++ opk y) [(.s d, .av (.one (.v (.int .i64 ((Sg.nextTo m : Nat) : Int)))))] :=
  ok_bin ho hd hn hx hy fun w => by
    have h := xor_small ⟨m, hm⟩
    have h4 : (Op.intBits .xor .i64 (m : Int) 1).run P w = .ok (.int .i64 ((Sg.nextTo m : Nat) : Int)) w := by
      rw [← h]; rfl
    simp only [eqGuard, Sem.run_bind]
    exact h4
/-- What the call for a node does to the list of those beside the way. -/
def bsetL (seed : List Nat) (h key l k : Nat) (L : List (SA Dm)) : List (SA Dm) := if l < h ∧ k = Sg.nextTo (key / 2 ^ l) then L.set l (DG (by8 (Sg.nodeN seed l k))) else L
def nodeL (seed : List Nat) (h key : Nat) : Nat → Nat → List (SA Dm) → List (SA Dm)
  | 0, k, L => bsetL seed h key 0 k L
  | l + 1, k, L => bsetL seed h key (l + 1) k (nodeL seed h key l (2 * k + 1) (nodeL seed h key l (2 * k) L))
theorem bsetL_length (seed : List Nat) (h key l k : Nat) (L : List (SA Dm)) : (bsetL seed h key l k L).length = L.length := by
  unfold bsetL; split <;> simp
theorem nodeL_length (seed : List Nat) (h key : Nat) : ∀ (l k : Nat) (L : List (SA Dm)), (nodeL seed h key l k L).length = L.length
  | 0, k, L => bsetL_length ..
  | l + 1, k, L => by rw [nodeL, bsetL_length, nodeL_length, nodeL_length]
theorem bsetL_at (seed : List Nat) (h key l k q : Nat) (L : List (SA Dm)) (hL : L.length = h) (hq : q < h) : (bsetL seed h key l k L)[q]? = if q = l ∧ k = Sg.nextTo (key / 2 ^ l) then some (DG (by8 (Sg.nodeN seed l k))) else L[q]? := by
  unfold bsetL
  by_cases e : q = l
  · subst e
    by_cases e2 : k = Sg.nextTo (key / 2 ^ q)
    · rw [if_pos ⟨hq, e2⟩, if_pos ⟨rfl, e2⟩, List.getElem?_set_self (by omega)]
    · rw [if_neg (fun h => e2 h.2), if_neg (fun h => e2 h.2)]
  · rw [if_neg (c := q = l ∧ k = Sg.nextTo (key / 2 ^ l)) (fun h => e h.1)]
    split
    · rw [List.getElem?_set_ne (fun h => e h.symm)]
    · rfl
theorem nodeL_at (seed : List Nat) (h key : Nat) : ∀ (l k q : Nat) (L : List (SA Dm)), L.length = h → q < h → (nodeL seed h key l k L)[q]? = if q ≤ l ∧ Sg.nextTo (key / 2 ^ q) / 2 ^ (l - q) = k then some (DG (by8 (Sg.nodeN seed q (Sg.nextTo (key / 2 ^ q))))) else L[q]?
  | 0, k, q, L, hL, hq => by
    rw [nodeL, bsetL_at _ _ _ _ _ _ _ hL hq]
    by_cases e : q = 0
    · subst e
      by_cases e2 : k = Sg.nextTo (key / 2 ^ 0)
      · rw [if_pos ⟨rfl, e2⟩, if_pos ⟨Nat.le_refl _, by rw [Nat.sub_zero, Nat.pow_zero, Nat.div_one]; exact e2.symm⟩, ← e2]
      · rw [if_neg (fun h => e2 h.2), if_neg (fun h => e2 (by have := h.2; rw [Nat.sub_zero, Nat.pow_zero, Nat.div_one] at this; exact this.symm))]
    · rw [if_neg (fun h => e h.1), if_neg (fun h => e (Nat.le_zero.1 h.1))]
  | l + 1, k, q, L, hL, hq => by
    rw [nodeL, bsetL_at _ _ _ _ _ _ _ (by rw [nodeL_length, nodeL_length, hL]) hq, nodeL_at seed h key l (2 * k + 1) q _ (by rw [nodeL_length, hL]) hq, nodeL_at seed h key l (2 * k) q L hL hq]
    by_cases e : q = l + 1
    · subst e
      rw [if_neg (c := l + 1 ≤ l ∧ Sg.nextTo (key / 2 ^ (l + 1)) / 2 ^ (l - (l + 1)) = 2 * k + 1) (fun h => by omega), if_neg (c := l + 1 ≤ l ∧ Sg.nextTo (key / 2 ^ (l + 1)) / 2 ^ (l - (l + 1)) = 2 * k) (fun h => by omega), Nat.sub_self, Nat.pow_zero, Nat.div_one]
      by_cases e2 : k = Sg.nextTo (key / 2 ^ (l + 1))
      · rw [if_pos ⟨rfl, e2⟩, if_pos ⟨Nat.le_refl _, e2.symm⟩, ← e2]
      · rw [if_neg (fun h => e2 h.2), if_neg (fun h => e2 h.2.symm)]
    · rw [if_neg (fun h => e h.1)]
      by_cases hle : q ≤ l
      · have e3 : Sg.nextTo (key / 2 ^ q) / 2 ^ (l + 1 - q) = Sg.nextTo (key / 2 ^ q) / 2 ^ (l - q) / 2 := by
          rw [show l + 1 - q = (l - q) + 1 by omega, Nat.pow_succ, Nat.div_div_eq_div_mul]
        rw [e3]
        generalize Sg.nextTo (key / 2 ^ q) / 2 ^ (l - q) = z
        by_cases e4 : z = 2 * k + 1
        · rw [if_pos ⟨hle, e4⟩, if_pos ⟨by omega, by omega⟩]
        · rw [if_neg (fun h => e4 h.2)]
          by_cases e5 : z = 2 * k
          · rw [if_pos ⟨hle, e5⟩, if_pos ⟨by omega, by omega⟩]
          · rw [if_neg (fun h => e5 h.2), if_neg (fun h => by omega)]
      · rw [if_neg (fun h => hle h.1), if_neg (fun h => hle h.1), if_neg (fun h => by omega)]
theorem nodeL_all (seed : List Nat) {h key : Nat} (hk : key < 2 ^ h) {L : List (SA Dm)} (hL : L.length = h) : nodeL seed h key h 0 L = dgL (Sg.besideN seed h key) := by
  apply List.ext_getElem?
  intro q
  rcases Nat.lt_or_ge q h with hq | hq
  · rw [nodeL_at seed h key h 0 q L hL hq, if_pos ⟨Nat.le_of_lt hq, Nat.div_eq_of_lt (next_lt hq (path_lt hk hq))⟩]
    simp [dgL, Sg.besideN, hq]
  · rw [List.getElem?_eq_none (by rw [nodeL_length, hL]; exact hq), List.getElem?_eq_none (by simp [dgL, Sg.besideN]; exact hq)]
abbrev nPre (seed : List Nat) : List (SA Dm) := [.d (Dm.gen (pG none (.v (str (by8 seed)))))]
abbrev nPost (h key : Nat) : List (SA Dm) := [.d (Dm.gen (pG none (.v (.int .i64 (h : Int))))), .d (Dm.gen (pG none (.v (.int .i64 (key : Int))))), .lk (pR none (.sl 600 h : SA Dm))]
abbrev nCaps (seed : List Nat) (h key : Nat) : List (SA Dm) := nPre seed ++ .lk (pselfR 42 (nPre seed) (nPost h key)) :: nPost h key
abbrev nRow (L : List (SA Dm)) : Sg Dm := [(.b 600, .row 23 (some 16) L)]
theorem ty_fnN : TyIs Tryd.prog 67 none := TyIs.one (by kernel_rfl) (by kernel_rfl)
theorem zero_fnN : (Tryd.prog.info? 67).map (·.zero) = some (some .nilFunc) := by kernel_rfl
theorem sz_fnN : (Tryd.prog.info? 67).map (·.size) = some 1 := by kernel_rfl
theorem zero_digs : (Tryd.prog.info? 45).map (·.zero) = some (some (.slice none 0 0)) := by kernel_rfl
theorem key_small {h key l : Nat} (hh : h ≤ 6) (hk : key < 2 ^ h) : key / 2 ^ l < 64 := Nat.lt_of_le_of_lt (Nat.div_le_self _ _) (Nat.lt_of_lt_of_le hk (pow_small hh))
theorem bset_yes {seed : List Nat} {h key l k : Nat} {L : List (SA Dm)} (h1 : l < h) (h2 : k = Sg.nextTo (key / 2 ^ l)) : bsetL seed h key l k L = L.set l (DG (by8 (Sg.nodeN seed l k))) := if_pos ⟨h1, h2⟩
theorem bset_no1 {seed : List Nat} {h key l k : Nat} {L : List (SA Dm)} (h1 : ¬ l < h) : bsetL seed h key l k L = L := if_neg fun q => h1 q.1
theorem bset_no2 {seed : List Nat} {h key l k : Nat} {L : List (SA Dm)} (h2 : ¬ k = Sg.nextTo (key / 2 ^ l)) : bsetL seed h key l k L = L := if_neg fun q => h2 q.2
theorem pow_le_of {h l : Nat} (hh : h ≤ 6) : 2 ^ (h - l) ≤ 64 := pow_small (by omega)
set_option maxRecDepth 100000 in
theorem node_zero (seed : List Nat) (h key k : Nat) (L : List (SA Dm)) (hs : Bn seed) (ls : seed.length ≤ 1000) (hh : h ≤ 6) (hkey : key < 2 ^ h) (hL : L.length = h) (hk : k < 2 ^ (h - 0)) : ConE Tryd.prog 42 ([(.v (.int .i64 ((0 : Nat) : Int)) : SA Dm), .v (.int .i64 (k : Int))] ++ nCaps seed h key) (nRow L) (.one (DG (by8 (Sg.nodeN seed 0 k)))) (nRow (nodeL seed h key 0 k L)) [] := by
  have hp64 := pow_le_of (l := 0) hh
  have hks := key_small (l := 0) hh hkey
  refine ConE.of (n := 45) (by exact List.cons_ne_nil _ _) Tryd.func42 rfl rfl rfl rfl rfl rfl rfl rfl fun cx ρ0 hW hBw => ?_
  refine CV.seq ?_
  refine CV.region rfl (fun h => nomatch h) ?_
  refine RV.step1 (OpOk.plain (ok_boxD rfl rfl (by decide) rfl rfl rfl) rfl) ?_
  refine RV.step2 (OpOk.plain (ok_alloc (i := 0) rfl rfl (by decide) zero_dig rfl rfl rfl rfl) rfl) ?_
  refine RV.done ?_
  refine CV.seq ?_
  refine CV.region rfl (fun h => nomatch h) ?_
  refine RV.step2 (OpOk.plain (ok_alloc (i := 1) rfl rfl (by decide) zero_dig rfl rfl rfl rfl) rfl) ?_
  refine RV.done ?_
  refine CV.seq ?_
  refine CV.seq ?_
  refine CV.region rfl (fun h => nomatch h) ?_
  refine RV.step1 (OpOk.plain (ok_move (.inl rfl) rfl (by decide) rfl) rfl) ?_
  refine RV.step1 (OpOk.plain (ok_eql rfl rfl (by decide) rfl rfl) rfl) ?_
  refine RV.done ?_
  refine CV.cond rfl (fun hc => ?_) (fun hc => False.elim (by exact absurd hc (by decide)))
  refine CV.region rfl (fun h => nomatch h) ?_
  refine RV.step1 (OpOk.plain (ok_mkfn (caps := [.tmp 2, .tmp 8]) (ss := [_, _]) rfl rfl (by decide) (.cons rfl Conv.any (.cons rfl Conv.any .nil)) rfl) rfl) ?_
  refine RV.step1 (OpOk.plain (ok_callV (leaf0_con seed k hs ls (by omega)) (free_dg _) hW rfl rfl (by decide) Tryd.func43 rfl rfl (.cons rfl Conv.any .nil) rfl) rfl) ?_
  refine RV.step1 (OpOk.plain (ok_store rfl rfl rfl rfl rfl rfl rfl (ty_dig).2 rfl rfl rfl rfl) rfl) ?_
  refine RV.done ?_
  refine CV.seq ?_
  refine CV.seq ?_
  refine CV.region rfl (fun _ => by kernel_rfl) ?_
  refine RV.step1 (OpOk.plain (ok_move (.inl rfl) rfl (by decide) rfl) rfl) ?_
  refine RV.step1 (OpOk.plain (ok_loadP ty_i64 (by decide) rfl rfl (by decide) rfl) rfl) ?_
  refine RV.step1 (OpOk.plain (ok_lss rfl rfl (by decide) rfl rfl) rfl) ?_
  refine RV.step1 (OpOk.plain (ok_move (.inl rfl) rfl (by decide) rfl) rfl) ?_
  refine RV.bool (fun hlt => ?_) (fun hlt => ?_)
  · refine RV.step1 (OpOk.yes (ok_loadP ty_i64 (by decide) rfl rfl (by decide) rfl) rfl rfl rfl) ?_
    refine RV.step1 (OpOk.yes (ok_loadP ty_i64 (by decide) rfl rfl (by decide) rfl) rfl rfl rfl) ?_
    refine RV.step1 (OpOk.yes (ok_move (.inl rfl) rfl (by decide) rfl) rfl rfl rfl) ?_
    refine RV.step1 (OpOk.yes (ok_shr (j := 0) (c := ((key / 2 ^ 0 : Nat) : Int)) (by decide) (shr_nat key 0) rfl rfl (by decide) rfl rfl) rfl rfl rfl) ?_
    refine RV.step1 (OpOk.yes (ok_xor1 (m := key / 2 ^ 0) hks rfl rfl (by decide) rfl rfl) rfl rfl rfl) ?_
    refine RV.step1 (OpOk.yes (ok_eql rfl rfl (by decide) rfl rfl) rfl rfl rfl) ?_
    refine RV.step1 (OpOk.plain (ok_pickT rfl rfl (by decide) rfl rfl rfl) rfl) ?_
    refine RV.drawn (by kernel_rfl) ?_
    refine CV.cond rfl (fun hc2 => ?_) (fun hc2 => ?_)
    · refine CV.region rfl (fun h => nomatch h) ?_
      refine RV.step1 (OpOk.plain (ok_loadPR ty_digs (by decide) rfl rfl (by decide) rfl) rfl) ?_
      refine RV.step1 (OpOk.plain (ok_move (.inl rfl) rfl (by decide) rfl) rfl) ?_
      refine RV.step1 (OpOk.plain (ok_load rfl rfl (by decide) rfl rfl rfl ty_dig) rfl) ?_
      refine RV.step1 (OpOk.plain (ok_idxR (i := 0) (by have := of_decide_eq_true hlt; omega) (Nat.le_of_eq hL.symm) u_digs sz_dig rfl rfl (by decide) rfl rfl rfl) rfl) ?_
      refine RV.step1 (OpOk.plain (ok_storeR (i := 0) (by have := of_decide_eq_true hlt; omega) rfl (by show 0 < 16; decide) rfl rfl rfl rfl rfl rfl sz_dig (.inl rfl) rfl rfl) rfl) ?_
      refine RV.done ?_
      refine CV.seq ?_
      refine CV.region rfl (fun h => nomatch h) ?_
      refine RV.step1 (OpOk.plain (ok_load rfl rfl (by decide) rfl rfl rfl ty_dig) rfl) ?_
      refine RV.step1 (OpOk.plain (ok_store rfl rfl rfl rfl rfl rfl rfl (ty_dig).2 rfl rfl rfl rfl) rfl) ?_
      refine RV.done ?_
      refine CV.ret ?_
      have e := bset_yes (seed := seed) (L := L) (show 0 < h from (by have := of_decide_eq_true hlt; omega)) (show k = Sg.nextTo (key / 2 ^ 0) from (by have := eq_of_beq hc2; omega))
      exact finE1 rfl (.inr rfl) rfl ⟨by rw [nodeL, e]; rfl, trivial⟩ (fun _ => rfl) ⟨_, _, _, _, _, rfl, rfl, rfl, ty_dig⟩ is_rfl
    · refine CV.skip ?_
      refine CV.seq ?_
      refine CV.region rfl (fun h => nomatch h) ?_
      refine RV.step1 (OpOk.plain (ok_load rfl rfl (by decide) rfl rfl rfl ty_dig) rfl) ?_
      refine RV.step1 (OpOk.plain (ok_store rfl rfl rfl rfl rfl rfl rfl (ty_dig).2 rfl rfl rfl rfl) rfl) ?_
      refine RV.done ?_
      refine CV.ret ?_
      have e := bset_no2 (seed := seed) (h := h) (L := L) (show ¬ k = Sg.nextTo (key / 2 ^ 0) from (fun q => by rw [q] at hc2; simp at hc2))
      exact finE1 rfl (.inr rfl) rfl ⟨by rw [nodeL, e]; rfl, trivial⟩ (fun _ => rfl) ⟨_, _, _, _, _, rfl, rfl, rfl, ty_dig⟩ is_rfl
  · refine RV.step1 (OpOk.skip rfl rfl rfl rfl rfl (by decide)) ?_
    refine RV.step1 (OpOk.skip rfl rfl rfl rfl rfl (by decide)) ?_
    refine RV.step1 (OpOk.skip rfl rfl rfl rfl rfl (by decide)) ?_
    refine RV.step1 (OpOk.skip rfl rfl rfl rfl rfl (by decide)) ?_
    refine RV.step1 (OpOk.skip rfl rfl rfl rfl rfl (by decide)) ?_
    refine RV.step1 (OpOk.skip rfl rfl rfl rfl rfl (by decide)) ?_
    refine RV.step1 (OpOk.plain (ok_pickF rfl rfl (by decide) rfl rfl rfl) rfl) ?_
    refine RV.drawn (by kernel_rfl) ?_
    refine CV.no rfl ?_
    refine CV.skip ?_
    refine CV.seq ?_
    refine CV.region rfl (fun h => nomatch h) ?_
    refine RV.step1 (OpOk.plain (ok_load rfl rfl (by decide) rfl rfl rfl ty_dig) rfl) ?_
    refine RV.step1 (OpOk.plain (ok_store rfl rfl rfl rfl rfl rfl rfl (ty_dig).2 rfl rfl rfl rfl) rfl) ?_
    refine RV.done ?_
    refine CV.ret ?_
    have e := bset_no1 (seed := seed) (key := key) (k := k) (L := L) (show ¬ 0 < h from (by have := of_decide_eq_false hlt; omega))
    exact finE1 rfl (.inr rfl) rfl ⟨by rw [nodeL, e]; rfl, trivial⟩ (fun _ => rfl) ⟨_, _, _, _, _, rfl, rfl, rfl, ty_dig⟩ is_rfl
set_option maxRecDepth 100000 in
theorem node_succ (seed : List Nat) (h key l k : Nat) (L : List (SA Dm)) (hs : Bn seed) (ls : seed.length ≤ 1000) (hh : h ≤ 6) (hkey : key < 2 ^ h) (hL : L.length = h) (hl : l + 1 ≤ h) (hk : k < 2 ^ (h - (l + 1)))
    (hrec : ∀ (k' : Nat) (L' : List (SA Dm)), k' < 2 ^ (h - l) → L'.length = h → ConE Tryd.prog 42 ([(.v (.int .i64 (l : Int)) : SA Dm), .v (.int .i64 (k' : Int))] ++ nCaps seed h key) (nRow L') (.one (DG (by8 (Sg.nodeN seed l k')))) (nRow (nodeL seed h key l k' L')) []) :
    ConE Tryd.prog 42 ([(.v (.int .i64 ((l + 1 : Nat) : Int)) : SA Dm), .v (.int .i64 (k : Int))] ++ nCaps seed h key) (nRow L) (.one (DG (by8 (Sg.nodeN seed (l + 1) k)))) (nRow (nodeL seed h key (l + 1) k L)) [] := by
  have hp64 := pow_le_of (l := l + 1) hh
  have hks := key_small (l := l + 1) hh hkey
  have hph := pow_half (h := h) (l := l) (by omega)
  have hl1 : (nodeL seed h key l (2 * k) L).length = h := by rw [nodeL_length, hL]
  have hl2 : (nodeL seed h key l (2 * k + 1) (nodeL seed h key l (2 * k) L)).length = h := by rw [nodeL_length, hl1]
  refine ConE.of (n := 45) (by exact List.cons_ne_nil _ _) Tryd.func42 rfl rfl rfl rfl rfl rfl rfl rfl fun cx ρ0 hW hBw => ?_
  refine CV.seq ?_
  refine CV.region rfl (fun h => nomatch h) ?_
  refine RV.step1 (OpOk.plain (ok_boxD rfl rfl (by decide) rfl rfl rfl) rfl) ?_
  refine RV.step2 (OpOk.plain (ok_alloc (i := 0) rfl rfl (by decide) zero_dig rfl rfl rfl rfl) rfl) ?_
  refine RV.done ?_
  refine CV.seq ?_
  refine CV.region rfl (fun h => nomatch h) ?_
  refine RV.step2 (OpOk.plain (ok_alloc (i := 1) rfl rfl (by decide) zero_dig rfl rfl rfl rfl) rfl) ?_
  refine RV.done ?_
  refine CV.seq ?_
  refine CV.seq ?_
  refine CV.region rfl (fun h => nomatch h) ?_
  refine RV.step1 (OpOk.plain (ok_move (.inl rfl) rfl (by decide) rfl) rfl) ?_
  refine RV.step1 (OpOk.plain (ok_eql rfl rfl (by decide) rfl rfl) rfl) ?_
  refine RV.done ?_
  refine CV.cond rfl (fun hc => False.elim (by have h0 := eq_of_beq hc; omega)) (fun hc => ?_)
  refine CV.region rfl (fun _ => by kernel_rfl) ?_
  refine RV.step1 (OpOk.plain (ok_loadselfR ty_fnN rfl rfl (by decide) rfl) rfl) ?_
  refine RV.step1 (OpOk.plain (ok_move (.inl rfl) rfl (by decide) rfl) rfl) ?_
  refine RV.step1 (OpOk.plain (ok_sub (c := (l : Int)) (by rw [wrapI (by omega) (by omega)]; omega) rfl rfl (by decide) rfl rfl) rfl) ?_
  refine RV.step1 (OpOk.plain (ok_loadP ty_i64 (by decide) rfl rfl (by decide) rfl) rfl) ?_
  refine RV.step1 (OpOk.plain (ok_mul (c := ((2 * k : Nat) : Int)) (by rw [wrapI (by omega) (by omega)]; omega) rfl rfl (by decide) rfl rfl) rfl) ?_
  refine RV.step2 (OpOk.plain (ok_callSE (sas := [.v (.int .i64 (l : Int)), .v (.int .i64 ((2 * k : Nat) : Int))]) (hrec (2 * k) L (by omega) hL) hW Tryd.func42 rfl rfl rfl rfl (by decide) rfl ⟨rfl, rfl, trivial⟩ ⟨rfl, trivial⟩ trivial rfl rfl rfl rfl) rfl) ?_
  refine RV.step1 (OpOk.plain (ok_loadselfR ty_fnN rfl rfl (by decide) rfl) rfl) ?_
  refine RV.step1 (OpOk.plain (ok_move (.inl rfl) rfl (by decide) rfl) rfl) ?_
  refine RV.step1 (OpOk.plain (ok_sub (c := (l : Int)) (by rw [wrapI (by omega) (by omega)]; omega) rfl rfl (by decide) rfl rfl) rfl) ?_
  refine RV.step1 (OpOk.plain (ok_loadP ty_i64 (by decide) rfl rfl (by decide) rfl) rfl) ?_
  refine RV.step1 (OpOk.plain (ok_mul (c := ((2 * k : Nat) : Int)) (by rw [wrapI (by omega) (by omega)]; omega) rfl rfl (by decide) rfl rfl) rfl) ?_
  refine RV.step1 (OpOk.plain (ok_add (c := ((2 * k + 1 : Nat) : Int)) (by rw [wrapI (by omega) (by omega)]; omega) rfl rfl (by decide) rfl rfl) rfl) ?_
  refine RV.step2 (OpOk.plain (ok_callSE (sas := [.v (.int .i64 (l : Int)), .v (.int .i64 ((2 * k + 1 : Nat) : Int))]) (hrec (2 * k + 1) _ (by omega) hl1) hW Tryd.func42 rfl rfl rfl rfl (by decide) rfl ⟨rfl, rfl, trivial⟩ ⟨rfl, trivial⟩ trivial rfl rfl rfl rfl) rfl) ?_
  refine RV.step1 (OpOk.plain (ok_callV (join_con (Sg.nodeN seed l (2 * k)) (Sg.nodeN seed l (2 * k + 1)) (nodeN_bn _ _ _) (nodeN_bn _ _ _) (nodeN_length _ _ _) (nodeN_length _ _ _)) (free_dg _) hW rfl rfl (by decide) Tryd.func45 rfl rfl (.cons rfl Conv.any (.cons rfl Conv.any .nil)) rfl) rfl) ?_
  refine RV.step1 (OpOk.plain (ok_store rfl rfl rfl rfl rfl rfl rfl (ty_dig).2 rfl rfl rfl rfl) rfl) ?_
  refine RV.drawn (by kernel_rfl) ?_
  refine CV.seq ?_
  refine CV.seq ?_
  refine CV.region rfl (fun _ => by kernel_rfl) ?_
  refine RV.step1 (OpOk.plain (ok_move (.inl rfl) rfl (by decide) rfl) rfl) ?_
  refine RV.step1 (OpOk.plain (ok_loadP ty_i64 (by decide) rfl rfl (by decide) rfl) rfl) ?_
  refine RV.step1 (OpOk.plain (ok_lss rfl rfl (by decide) rfl rfl) rfl) ?_
  refine RV.step1 (OpOk.plain (ok_move (.inl rfl) rfl (by decide) rfl) rfl) ?_
  refine RV.bool (fun hlt => ?_) (fun hlt => ?_)
  · refine RV.step1 (OpOk.yes (ok_loadP ty_i64 (by decide) rfl rfl (by decide) rfl) rfl rfl rfl) ?_
    refine RV.step1 (OpOk.yes (ok_loadP ty_i64 (by decide) rfl rfl (by decide) rfl) rfl rfl rfl) ?_
    refine RV.step1 (OpOk.yes (ok_move (.inl rfl) rfl (by decide) rfl) rfl rfl rfl) ?_
    refine RV.step1 (OpOk.yes (ok_shr (j := l + 1) (c := ((key / 2 ^ (l + 1) : Nat) : Int)) (by omega) (shr_nat key (l + 1)) rfl rfl (by decide) rfl rfl) rfl rfl rfl) ?_
    refine RV.step1 (OpOk.yes (ok_xor1 (m := key / 2 ^ (l + 1)) hks rfl rfl (by decide) rfl rfl) rfl rfl rfl) ?_
    refine RV.step1 (OpOk.yes (ok_eql rfl rfl (by decide) rfl rfl) rfl rfl rfl) ?_
    refine RV.step1 (OpOk.plain (ok_pickT rfl rfl (by decide) rfl rfl rfl) rfl) ?_
    refine RV.drawn (by kernel_rfl) ?_
    refine CV.cond rfl (fun hc2 => ?_) (fun hc2 => ?_)
    · refine CV.region rfl (fun h => nomatch h) ?_
      refine RV.step1 (OpOk.plain (ok_loadPR ty_digs (by decide) rfl rfl (by decide) rfl) rfl) ?_
      refine RV.step1 (OpOk.plain (ok_move (.inl rfl) rfl (by decide) rfl) rfl) ?_
      refine RV.step1 (OpOk.plain (ok_load rfl rfl (by decide) rfl rfl rfl ty_dig) rfl) ?_
      refine RV.step1 (OpOk.plain (ok_idxR (i := l + 1) (by have := of_decide_eq_true hlt; omega) (Nat.le_of_eq hl2.symm) u_digs sz_dig rfl rfl (by decide) rfl rfl rfl) rfl) ?_
      refine RV.step1 (OpOk.plain (ok_storeR (i := l + 1) (by rw [hl2]; have := of_decide_eq_true hlt; omega) rfl (by show 0 < 16; decide) rfl rfl rfl rfl rfl rfl sz_dig (.inl rfl) rfl rfl) rfl) ?_
      refine RV.done ?_
      refine CV.seq ?_
      refine CV.region rfl (fun h => nomatch h) ?_
      refine RV.step1 (OpOk.plain (ok_load rfl rfl (by decide) rfl rfl rfl ty_dig) rfl) ?_
      refine RV.step1 (OpOk.plain (ok_store rfl rfl rfl rfl rfl rfl rfl (ty_dig).2 rfl rfl rfl rfl) rfl) ?_
      refine RV.done ?_
      refine CV.ret ?_
      have e := bset_yes (seed := seed) (L := nodeL seed h key l (2 * k + 1) (nodeL seed h key l (2 * k) L)) (show l + 1 < h from (by have := of_decide_eq_true hlt; omega)) (show k = Sg.nextTo (key / 2 ^ (l + 1)) from (by have := eq_of_beq hc2; omega))
      exact finE1 rfl (.inr rfl) rfl ⟨by rw [nodeL, e]; rfl, trivial⟩ (fun _ => rfl) ⟨_, _, _, _, _, rfl, rfl, rfl, ty_dig⟩ is_rfl
    · refine CV.skip ?_
      refine CV.seq ?_
      refine CV.region rfl (fun h => nomatch h) ?_
      refine RV.step1 (OpOk.plain (ok_load rfl rfl (by decide) rfl rfl rfl ty_dig) rfl) ?_
      refine RV.step1 (OpOk.plain (ok_store rfl rfl rfl rfl rfl rfl rfl (ty_dig).2 rfl rfl rfl rfl) rfl) ?_
      refine RV.done ?_
      refine CV.ret ?_
      have e := bset_no2 (seed := seed) (h := h) (L := nodeL seed h key l (2 * k + 1) (nodeL seed h key l (2 * k) L)) (show ¬ k = Sg.nextTo (key / 2 ^ (l + 1)) from (fun q => by rw [q] at hc2; simp at hc2))
      exact finE1 rfl (.inr rfl) rfl ⟨by rw [nodeL, e]; rfl, trivial⟩ (fun _ => rfl) ⟨_, _, _, _, _, rfl, rfl, rfl, ty_dig⟩ is_rfl
  · refine RV.step1 (OpOk.skip rfl rfl rfl rfl rfl (by decide)) ?_
    refine RV.step1 (OpOk.skip rfl rfl rfl rfl rfl (by decide)) ?_
    refine RV.step1 (OpOk.skip rfl rfl rfl rfl rfl (by decide)) ?_
    refine RV.step1 (OpOk.skip rfl rfl rfl rfl rfl (by decide)) ?_
    refine RV.step1 (OpOk.skip rfl rfl rfl rfl rfl (by decide)) ?_
    refine RV.step1 (OpOk.skip rfl rfl rfl rfl rfl (by decide)) ?_
    refine RV.step1 (OpOk.plain (ok_pickF rfl rfl (by decide) rfl rfl rfl) rfl) ?_
    refine RV.drawn (by kernel_rfl) ?_
    refine CV.no rfl ?_
    refine CV.skip ?_
    refine CV.seq ?_
    refine CV.region rfl (fun h => nomatch h) ?_
    refine RV.step1 (OpOk.plain (ok_load rfl rfl (by decide) rfl rfl rfl ty_dig) rfl) ?_
    refine RV.step1 (OpOk.plain (ok_store rfl rfl rfl rfl rfl rfl rfl (ty_dig).2 rfl rfl rfl rfl) rfl) ?_
    refine RV.done ?_
    refine CV.ret ?_
    have e := bset_no1 (seed := seed) (key := key) (k := k) (L := nodeL seed h key l (2 * k + 1) (nodeL seed h key l (2 * k) L)) (show ¬ l + 1 < h from (by have := of_decide_eq_false hlt; omega))
    exact finE1 rfl (.inr rfl) rfl ⟨by rw [nodeL, e]; rfl, trivial⟩ (fun _ => rfl) ⟨_, _, _, _, _, rfl, rfl, rfl, ty_dig⟩ is_rfl
theorem node_con (seed : List Nat) (h key : Nat) (hs : Bn seed) (ls : seed.length ≤ 1000) (hh : h ≤ 6) (hkey : key < 2 ^ h) : ∀ (l k : Nat) (L : List (SA Dm)), l ≤ h → k < 2 ^ (h - l) → L.length = h → ConE Tryd.prog 42 ([(.v (.int .i64 (l : Int)) : SA Dm), .v (.int .i64 (k : Int))] ++ nCaps seed h key) (nRow L) (.one (DG (by8 (Sg.nodeN seed l k)))) (nRow (nodeL seed h key l k L)) []
  | 0, k, L, _, hk, hL => node_zero seed h key k L hs ls hh hkey hL hk
  | l + 1, k, L, hl, hk, hL => node_succ seed h key l k L hs ls hh hkey hL hl hk fun k' L' h1 h2 => node_con seed h key hs ls hh hkey l k' L' (by omega) h1 h2
set_option maxRecDepth 100000 in
theorem tree_con (seed : List Nat) (h key : Nat) (hs : Bn seed) (ls : seed.length ≤ 1000) (hh : h ≤ 6) (hkey : key < 2 ^ h) : Con Tryd.prog 22 [(.v (str (by8 seed)) : SA Dm), .v (.int .i64 (h : Int)), .v (.int .i64 (key : Int))] (.tup [DG (by8 (Sg.nodeN seed h 0)), DL (Sg.besideN seed h key)]) := by
  refine Con.of (n := 17) Tryd.func22 rfl rfl rfl rfl rfl fun cx hfr => ?_
  refine CV.seq ?_
  refine CV.region rfl (fun h => nomatch h) ?_
  refine RV.step1 (OpOk.plain (ok_boxD rfl rfl (by decide) rfl rfl rfl) rfl) ?_
  refine RV.step1 (OpOk.plain (ok_boxD rfl rfl (by decide) rfl rfl rfl) rfl) ?_
  refine RV.step1 (OpOk.plain (ok_boxD rfl rfl (by decide) rfl rfl rfl) rfl) ?_
  refine RV.step2 (OpOk.plain (ok_alloc (i := 0) rfl rfl (by decide) zero_dig rfl rfl rfl rfl) rfl) ?_
  refine RV.step1 (OpOk.plain (ok_move (.inr rfl) rfl (by decide) rfl) rfl) ?_
  refine RV.done ?_
  refine CV.seq ?_
  refine CV.region rfl (fun h => nomatch h) ?_
  refine RV.step1 (OpOk.plain (ok_loadP ty_i64 (by decide) rfl rfl (by decide) rfl) rfl) ?_
  refine RV.step2 (OpOk.plain (ok_make (r := 600) (m := h) (c := h) (k := some 16) (Nat.le_refl _) (by omega) (by omega) u_digs inf_dig rfl rfl rfl rfl (by decide) rfl rfl rfl rfl rfl) rfl) ?_
  refine RV.step2 (OpOk.plain (ok_alloc (i := 601) rfl rfl (by decide) zero_digs rfl rfl rfl rfl) rfl) ?_
  refine RV.step1 (OpOk.plain (ok_store1 rfl rfl rfl rfl rfl rfl sz_digs rfl rfl) rfl) ?_
  refine RV.done ?_
  refine CV.seq ?_
  refine CV.freezeR (s := (.sl 600 h : SA Dm)) (hne := List.cons_ne_nil _ _) (r := 601) (t := 8) (fun _ _ _ _ => cx.bw hfr _) rfl rfl rfl ?_
  refine CV.region rfl (fun h => nomatch h) ?_
  refine RV.step2 (OpOk.plain (ok_alloc (i := 602) rfl rfl (by decide) zero_fnN rfl rfl rfl rfl) rfl) ?_
  refine RV.done ?_
  refine CV.seq ?_
  refine CV.closureR (capa := [.tmp 3]) (capb := [.tmp 4, .tmp 5, .tmp 8]) (pre := nPre seed) (post := nPost h key) (i6 := 602) (hne := List.cons_ne_nil _ _) (cx.bw hfr) rfl rfl rfl (by decide) rfl rfl rfl sz_fnN rfl rfl (by decide) ⟨rfl, trivial⟩ ⟨rfl, rfl, rfl, trivial⟩ rfl ?_
  refine CV.seq ?_
  refine CV.region rfl (fun _ => by kernel_rfl) ?_
  refine RV.step1 (OpOk.plain (ok_loadselfR ty_fnN rfl rfl (by decide) rfl) rfl) ?_
  refine RV.step1 (OpOk.plain (ok_loadP ty_i64 (by decide) rfl rfl (by decide) rfl) rfl) ?_
  refine RV.step2 (OpOk.plain (ok_callSE (sas := [.v (.int .i64 (h : Int)), .v (.int .i64 ((0 : Nat) : Int))]) (node_con seed h key hs ls hh hkey h 0 (List.replicate h (.v zeroDig)) (Nat.le_refl _) (by rw [Nat.sub_self]; decide) (by simp)) (cx.wf hfr) Tryd.func42 rfl rfl rfl rfl (by decide) rfl ⟨rfl, rfl, trivial⟩ ⟨rfl, trivial⟩ trivial rfl rfl rfl rfl) rfl) ?_
  refine RV.step1 (OpOk.plain (ok_loadPR ty_digs (by decide) rfl rfl (by decide) rfl) rfl) ?_
  refine RV.step1 (OpOk.plain (ok_store rfl rfl rfl rfl rfl rfl rfl (ty_dig).2 rfl rfl rfl rfl) rfl) ?_
  refine RV.step1 (OpOk.plain (ok_move (.inr rfl) rfl (by decide) rfl) rfl) ?_
  refine RV.drawn (by kernel_rfl) ?_
  rw [nodeL_all seed hkey (L := List.replicate h (.v zeroDig)) (by simp)]
  refine CV.freeze (r := 600) (t := 7) (G := Dm.gen (lstG (some 16) (dgL (Sg.besideN seed h key)))) (cx.bw hfr) rfl rfl (by simp [dgL, Sg.besideN]) rfl rfl (lstG_Lst _ _) (lstG_Lst0 _ _) ?_
  refine CV.ret ?_
  exact fin2 rfl (.inr rfl) ⟨_, _, _, _, _, rfl, rfl, rfl, ty_dig⟩ rfl is_rfl2
set_option maxRecDepth 100000 in
theorem Public_con (seed : List Nat) (h : Nat) (hs : Bn seed) (ls : seed.length = 32) (hh : h ≤ 6) : Con Tryd.prog 12 [(.v (str (by8 seed)) : SA Dm), .v (.int .i64 (h : Int))] (.tup [DG (by8 (Sg.nodeN seed h 0)), EV 0]) := by
  refine Con.of (n := 20) Tryd.func12 rfl rfl rfl rfl rfl fun cx hfr => ?_
  refine CV.seq ?_
  refine CV.region rfl (fun h => nomatch h) ?_
  refine RV.step2 (OpOk.plain (ok_alloc (i := 0) rfl rfl (by decide) zero_dig rfl rfl rfl rfl) rfl) ?_
  refine RV.step1 (OpOk.plain (ok_move (.inr rfl) rfl (by decide) rfl) rfl) ?_
  refine RV.done ?_
  refine CV.seq ?_
  refine CV.seq ?_
  refine CV.region rfl (fun h => nomatch h) ?_
  refine RV.step1 (OpOk.plain (ok_move (.inl rfl) rfl (by decide) rfl) rfl) ?_
  refine RV.step1 (OpOk.plain (ok_move (.inl rfl) rfl (by decide) rfl) rfl) ?_
  refine RV.step1 (OpOk.plain (ok_call (validSigner_con seed (h : Int)) rfl rfl (by decide) Tryd.func21 rfl rfl (.cons rfl Conv.any (.cons rfl Conv.any .nil)) rfl hfr rfl) rfl) ?_
  refine RV.step1 (OpOk.plain (ok_not rfl rfl (by decide) rfl) rfl) ?_
  refine RV.done ?_
  refine CV.cond rfl (fun hc => False.elim (by simp at hc; omega)) (fun hc => ?_)
  refine CV.skip ?_
  refine CV.seq ?_
  refine CV.region rfl (fun h => nomatch h) ?_
  refine RV.step1 (OpOk.plain (ok_move (.inl rfl) rfl (by decide) rfl) rfl) ?_
  refine RV.step1 (OpOk.plain (ok_move (.inl rfl) rfl (by decide) rfl) rfl) ?_
  refine RV.step1 (OpOk.plain (ok_call (tree_con seed h 0 hs (by omega) hh (Nat.pow_pos (by decide))) rfl rfl (by decide) Tryd.func22 rfl rfl (.cons rfl Conv.any (.cons rfl Conv.any (.cons rfl Conv.any .nil))) rfl hfr rfl) rfl) ?_
  refine RV.step1 (OpOk.plain (ok_move (.inl rfl) rfl (by decide) rfl) rfl) ?_
  refine RV.step1 (OpOk.plain (ok_extract rfl rfl (by decide) rfl rfl) rfl) ?_
  refine RV.step1 (OpOk.plain (ok_extract rfl rfl (by decide) rfl rfl) rfl) ?_
  refine RV.step2 (OpOk.plain (ok_alloc (i := 1) rfl rfl (by decide) zero_dig rfl rfl rfl rfl) rfl) ?_
  refine RV.step1 (OpOk.plain (ok_store rfl rfl rfl rfl rfl rfl rfl (ty_dig).2 rfl rfl rfl rfl) rfl) ?_
  refine RV.step1 (OpOk.plain (ok_move (.inr rfl) rfl (by decide) rfl) rfl) ?_
  refine RV.done ?_
  refine CV.seq ?_
  refine CV.region rfl (fun h => nomatch h) ?_
  refine RV.step1 (OpOk.plain (ok_load rfl rfl (by decide) rfl rfl rfl ty_dig) rfl) ?_
  refine RV.step1 (OpOk.plain (ok_store rfl rfl rfl rfl rfl rfl rfl (ty_dig).2 rfl rfl rfl rfl) rfl) ?_
  refine RV.step1 (OpOk.plain (ok_move (.inr rfl) rfl (by decide) rfl) rfl) ?_
  refine RV.done ?_
  refine CV.ret ?_
  exact fin2 rfl (.inr rfl) ⟨_, _, _, _, _, rfl, rfl, rfl, ty_dig⟩ rfl is_rfl2
set_option maxRecDepth 100000 in
theorem Public_bad (seed : List Nat) (h : Int) (hb : ¬ (seed.length = 32 ∧ 0 ≤ h ∧ h ≤ 6)) : Con Tryd.prog 12 [(.v (str (by8 seed)) : SA Dm), .v (.int .i64 h)] (.tup [DG (by8 (List.replicate 16 0)), EV 1]) := by
  refine Con.of (n := 20) Tryd.func12 rfl rfl rfl rfl rfl fun cx hfr => ?_
  refine CV.seq ?_
  refine CV.region rfl (fun h => nomatch h) ?_
  refine RV.step2 (OpOk.plain (ok_alloc (i := 0) rfl rfl (by decide) zero_dig rfl rfl rfl rfl) rfl) ?_
  refine RV.step1 (OpOk.plain (ok_move (.inr rfl) rfl (by decide) rfl) rfl) ?_
  refine RV.done ?_
  refine CV.seq ?_
  refine CV.seq ?_
  refine CV.region rfl (fun h => nomatch h) ?_
  refine RV.step1 (OpOk.plain (ok_move (.inl rfl) rfl (by decide) rfl) rfl) ?_
  refine RV.step1 (OpOk.plain (ok_move (.inl rfl) rfl (by decide) rfl) rfl) ?_
  refine RV.step1 (OpOk.plain (ok_call (validSigner_con seed h) rfl rfl (by decide) Tryd.func21 rfl rfl (.cons rfl Conv.any (.cons rfl Conv.any .nil)) rfl hfr rfl) rfl) ?_
  refine RV.step1 (OpOk.plain (ok_not rfl rfl (by decide) rfl) rfl) ?_
  refine RV.done ?_
  refine CV.cond rfl (fun hc => ?_) (fun hc => False.elim (by simp at hc; omega))
  refine CV.seq ?_
  refine CV.region rfl (fun h => nomatch h) ?_
  refine RV.step1 (OpOk.plain (ok_buildD rfl rfl (by decide)) rfl) ?_
  refine RV.step1 (OpOk.plain (ok_store rfl rfl rfl rfl rfl rfl rfl (ty_dig).2 rfl rfl rfl rfl) rfl) ?_
  refine RV.step1 (OpOk.plain (ok_move (.inr rfl) rfl (by decide) rfl) rfl) ?_
  refine RV.done ?_
  refine CV.ret ?_
  exact fin2 rfl (.inr rfl) ⟨_, _, _, _, _, rfl, rfl, rfl, ty_dig⟩ rfl (is_pair dg_zero fun _ _ _ _ h => h)
end Vc
end Go.Proofs.YthadfilandmhiaaDoor
