/-
  Signatures: which indices are valid; the laws' seeds; the reference's tree.
  Signatures: the reference's Public and Sign.
  Signatures: the root that follows from a signature: closures that take its digests one by one.
-/
import Derived.Test.YthadfilandmhiaaDoorSR39
import Derived.Test.YthadfilandmhiaaDoorSR38
set_option linter.unusedVariables false
set_option linter.unusedSimpArgs false
set_option linter.unusedSectionVars false
namespace Go.Proofs.YthadfilandmhiaaDoor
open Go.RowKit
open Go.Lib (hid)
open Dg Zn S
namespace Vc
theorem shl_small {h : Nat} (hh : h ≤ 6) : IntKind.i64.wrap (1 * 2 ^ h) = ((2 ^ h : Nat) : Int) := by
  match h, hh with
  | 0, _ => rfl
  | 1, _ => rfl
  | 2, _ => rfl
  | 3, _ => rfl
  | 4, _ => rfl
  | 5, _ => rfl
  | 6, _ => rfl
theorem pow_small {h : Nat} (hh : h ≤ 6) : 2 ^ h ≤ 64 := Nat.pow_le_pow_right (n := 2) (by decide) hh
set_option maxRecDepth 100000 in
theorem validIndex_con (h : Nat) (hh : h ≤ 6) (i : Int) : Con Tryd.prog 25 [(.v (.int .i64 (h : Int)) : SA Dm), .v (.int .i64 i)] (.one (.v (.bool (decide (0 ≤ i ∧ i < ((2 ^ h : Nat) : Int)))))) := by
  refine Con.of (n := 13) Tryd.func25 rfl rfl rfl rfl rfl fun cx hfr => ?_
  refine CV.seq ?_
  refine CV.region rfl (fun h => nomatch h) ?_
  refine RV.step1 (OpOk.plain (ok_move (.inr rfl) rfl (by decide) rfl) rfl) ?_
  refine RV.done ?_
  refine CV.seq ?_
  refine CV.region rfl (fun h => nomatch h) ?_
  refine RV.step1 (OpOk.plain (ok_move (.inl rfl) rfl (by decide) rfl) rfl) ?_
  refine RV.step1 (OpOk.plain (ok_geq rfl rfl (by decide) rfl rfl) rfl) ?_
  refine RV.step1 (OpOk.plain (ok_move (.inl rfl) rfl (by decide) rfl) rfl) ?_
  refine RV.bool (fun h0 => ?_) (fun h0 => ?_)
  · refine RV.step1 (OpOk.yes (ok_move (.inl rfl) rfl (by decide) rfl) rfl rfl rfl) ?_
    refine RV.step1 (OpOk.yes (ok_move (.inl rfl) rfl (by decide) rfl) rfl rfl rfl) ?_
    refine RV.step1 (OpOk.yes (ok_shl (j := h) (c := ((2 ^ h : Nat) : Int)) (by omega) (shl_small hh) rfl rfl (by decide) rfl rfl) rfl rfl rfl) ?_
    refine RV.step1 (OpOk.yes (ok_lss rfl rfl (by decide) rfl rfl) rfl rfl rfl) ?_
    refine RV.step1 (OpOk.plain (ok_pickT rfl rfl (by decide) rfl rfl rfl) rfl) ?_
    refine RV.step1 (OpOk.plain (ok_move (.inr rfl) rfl (by decide) rfl) rfl) ?_
    refine RV.done ?_
    refine CV.ret ?_
    have h1 : 0 ≤ i := (by simpa using h0)
    exact fin1 rfl (.inr rfl) rfl (is_bool (by simp [h1]))
  · refine RV.step1 (OpOk.skip rfl rfl rfl rfl rfl (by decide)) ?_
    refine RV.step1 (OpOk.skip rfl rfl rfl rfl rfl (by decide)) ?_
    refine RV.step1 (OpOk.skip rfl rfl rfl rfl rfl (by decide)) ?_
    refine RV.step1 (OpOk.skip rfl rfl rfl rfl rfl (by decide)) ?_
    refine RV.step1 (OpOk.plain (ok_pickF rfl rfl (by decide) rfl rfl rfl) rfl) ?_
    refine RV.step1 (OpOk.plain (ok_move (.inr rfl) rfl (by decide) rfl) rfl) ?_
    refine RV.done ?_
    refine CV.ret ?_
    have h1 : ¬ 0 ≤ i := (by simpa using h0)
    exact fin1 rfl (.inr rfl) rfl (is_bool (by simp [h1]))
def seedN (c : Nat) : List Nat := List.replicate 32 c
/-- The first k bytes of the seed, then zeros. -/
def seedK (c k : Nat) : List Nat := List.replicate k c ++ List.replicate (32 - k) 0
theorem seedK_length {c k : Nat} (hk : k ≤ 32) : (seedK c k).length = 32 := by
  rw [seedK, List.length_append, List.length_replicate, List.length_replicate]; omega
theorem seedK_set {c k : Nat} (hc : c < 256) (hk : k < 32) : (byV (by8 (seedK c k))).set k (.v (.int .u8 (c : Int))) = byV (by8 (seedK c (k + 1))) := by
  have e : (SA.v (.int .u8 (c : Int)) : SA Dm) = (fun b : UInt8 => (SA.v (.int .u8 (b.toNat : Int)) : SA Dm)) (UInt8.ofNat c) := by
    have : (UInt8.ofNat c).toNat = c := by rw [UInt8.toNat_ofNat']; omega
    show _ = SA.v (.int .u8 ((UInt8.ofNat c).toNat : Int))
    rw [this]
  have el : 32 - k = (32 - (k + 1)) + 1 := by omega
  rw [byV, byV, e, ← List.map_set, by8, by8, ← List.map_set]
  congr 2
  rw [seedK, seedK, el, List.replicate_succ, List.set_append_right _ _ (by rw [List.length_replicate]; exact Nat.le_refl _), List.length_replicate, Nat.sub_self, List.set_cons_zero, List.replicate_succ' (n := k), List.append_assoc]
  rfl
set_option maxRecDepth 100000 in
theorem seed_con (c : Nat) (hc : c < 256) : Con Tryd.prog 20 [(.v (.int .u8 (c : Int)) : SA Dm)] (.one (.v (str (by8 (seedN c))))) := by
  refine Con.of (n := 16) Tryd.func20 rfl rfl rfl rfl rfl fun cx hfr => ?_
  refine CV.seq ?_
  refine CV.region rfl (fun h => nomatch h) ?_
  refine RV.step1 (OpOk.plain (ok_move (.inr rfl) rfl (by decide) rfl) rfl) ?_
  refine RV.done ?_
  refine CV.seq ?_
  refine CV.region rfl (fun h => nomatch h) ?_
  refine RV.step2 (OpOk.plain (ok_make (r := 100) (m := 32) (c := 32) (k := none) (by decide) (by decide) (by decide) u_bytes inf_u8 rfl rfl rfl rfl (by decide) rfl rfl rfl rfl rfl) rfl) ?_
  refine RV.step1 (OpOk.plain (ok_move (.inr rfl) rfl (by decide) rfl) rfl) ?_
  refine RV.done ?_
  refine CV.seq ?_
  refine CV.seq ?_
  refine CV.region rfl (fun h => nomatch h) ?_
  refine RV.step1 (OpOk.plain (ok_move (.inr rfl) rfl (by decide) rfl) rfl) ?_
  refine RV.done ?_
  refine CV.block ?_
  refine CV.loop (X := {k : Nat // k ≤ 32}) (fun k => [(.s 4, .av (.one (.v (.int .i64 (k.1 : Int))))), (.s 0, .av (.one (.v (.int .u8 (c : Int))))), (.s 3, .av (.one (.sl 100 (byV (by8 (seedK c 32))).length))), (.b 100, .row 5 none (byV (by8 (seedK c k.1))))]) (fun k => 32 - k.1) ⟨0, Nat.zero_le _⟩ (Sub.mk ⟨XV.le_rfl _, XV.le_rfl _, XV.le_sl rfl (by rw [byV_length, by8_length, seedK_length (Nat.le_refl _)]), XV.le_row rfl, trivial⟩ rfl rfl rfl rfl) (fun k => ?_)
  obtain ⟨k, hk⟩ := k
  simp only
  refine CV.seq ?_
  refine CV.seq ?_
  refine CV.region rfl (fun h => nomatch h) ?_
  refine RV.step1 (OpOk.plain (ok_move (.inl rfl) rfl (by decide) rfl) rfl) ?_
  refine RV.step1 (OpOk.plain (ok_lss rfl rfl (by decide) rfl rfl) rfl) ?_
  refine RV.done ?_
  refine CV.cond rfl (fun hc2 => ?_) (fun hc2 => ?_)
  · have hlt : k < 32 := (by have := of_decide_eq_true hc2; omega)
    refine CV.skip ?_
    refine CV.seq ?_
    refine CV.block ?_
    refine CV.region rfl (fun h => nomatch h) ?_
    refine RV.step1 (OpOk.plain (ok_move (.inl rfl) rfl (by decide) rfl) rfl) ?_
    refine RV.step1 (OpOk.plain (ok_move (.inl rfl) rfl (by decide) rfl) rfl) ?_
    refine RV.step1 (OpOk.plain (ok_move (.inl rfl) rfl (by decide) rfl) rfl) ?_
    refine RV.step1 (OpOk.plain (ok_idxR (i := k) (by rw [byV_length, by8_length, seedK_length (Nat.le_refl _)]; exact hlt) (by rw [byV_length, by8_length, byV_length, by8_length, seedK_length (Nat.le_refl _), seedK_length hk]; exact Nat.le_refl _) u_bytes sz_u8 rfl rfl (by decide) rfl rfl rfl) rfl) ?_
    refine RV.step1 (OpOk.plain (ok_storeR (i := k) (by rw [byV_length, by8_length, seedK_length hk]; exact hlt) rfl (by decide) rfl rfl rfl rfl rfl rfl sz_u8 (.inl rfl) rfl rfl) rfl) ?_
    refine RV.done ?_
    refine CV.region rfl (fun h => nomatch h) ?_
    refine RV.step1 (OpOk.plain (ok_move (.inl rfl) rfl (by decide) rfl) rfl) ?_
    refine RV.step1 (OpOk.plain (ok_add (c := ((k + 1 : Nat) : Int)) (by rw [wrapI (by omega) (by omega)]; omega) rfl rfl (by decide) rfl rfl) rfl) ?_
    refine RV.step1 (OpOk.plain (ok_move (.inr rfl) rfl (by decide) rfl) rfl) ?_
    refine RV.done ?_
    exact ⟨⟨k + 1, hlt⟩, Sub.mk ⟨XV.le_rfl _, XV.le_rfl _, XV.le_rfl _, XV.le_row (seedK_set hc hlt), trivial⟩ rfl rfl rfl rfl, by show 32 - (k + 1) < 32 - k; omega⟩
  · refine CV.exit ?_
    refine CV.seq ?_
    have hk32 : k = 32 := (by have := of_decide_eq_false hc2; omega)
    subst hk32
    refine CV.region rfl (fun h => nomatch h) ?_
    refine RV.step1 (OpOk.plain (ok_move (.inl rfl) rfl (by decide) rfl) rfl) ?_
    refine RV.step1 (OpOk.plain (ok_b2sR (u := by8 (seedK c 32)) (byV_length _) u_bytes u_u8 u_str rfl rfl (by decide) rfl rfl) rfl) ?_
    refine RV.step1 (OpOk.plain (ok_move (.inr rfl) rfl (by decide) rfl) rfl) ?_
    refine RV.done ?_
    refine CV.ret ?_
    exact fin1 rfl (.inr rfl) rfl (is_of (by rw [seedN]; simp [seedK]))

/-! The reference's tree, level by level. -/
def dgL (ls : List (List Nat)) : List (SA Dm) := ls.map fun l => DG (by8 l)
abbrev DL (ls : List (List Nat)) : SA Dm := .d (Dm.gen (lstG (some 16) (dgL ls)))
theorem dgL_at {ls : List (List Nat)} {i : Nat} {l : List Nat} (h : ls[i]? = some l) : (dgL ls)[i]? = some (DG (by8 l)) := by simp [dgL, h]
theorem nodeN_length (seed : List Nat) : ∀ l k, (Sg.nodeN seed l k).length = 16
  | 0, _ => Sg.ofL_length _ _
  | _ + 1, _ => Sg.ofL_length _ _
theorem nodeN_bn (seed : List Nat) : ∀ l k, Bn (Sg.nodeN seed l k)
  | 0, _ => Sg.ofL_bn _ _
  | _ + 1, _ => Sg.ofL_bn _ _
theorem u_digs : Tryd.prog.underlying 45 = some (.slice 23) := by kernel_rfl
theorem sz_dig : (Tryd.prog.info? 23).map (·.size) = some 16 := by kernel_rfl
theorem inf_dig : (Tryd.prog.info? 23).map (fun i => (i.zero, i.size, i.bytes)) = some (some zeroDig, 16, 16) := by kernel_rfl
theorem sz_digs : (Tryd.prog.info? 45).map (·.size) = some 1 := by kernel_rfl
theorem ty_digs : TyIs Tryd.prog 45 none := TyIs.one (by kernel_rfl) (by kernel_rfl)
theorem pow_half {h l : Nat} (hl : l < h) : 2 ^ (h - l) = 2 * 2 ^ (h - (l + 1)) := by
  rw [show h - l = (h - (l + 1)) + 1 by omega, Nat.pow_succ, Nat.mul_comm]
abbrev EV (e : Int) : SA Dm := .v (.int .i64 e)
theorem dg_zero : ∀ L ρ w v, (SA.v zeroDig : SA Dm).is L ρ w v → (DG (by8 (List.replicate 16 0))).is L ρ w v := by
  intro L ρ w v h
  exact is_dg (l := List.replicate 16 0) (by intro x hx; rw [List.eq_of_mem_replicate hx]; decide) (by simp) L ρ w v h
theorem ok_buildD {cx : Cx Dm} {n : Nat} {σ : St Dm} {o : Oper} {d : Nat} (ho : o.op = .build 23 #[]) (hd : o.dst = some d) (hn : d < n) : OpOk Tryd.prog cx n σ o [] [(.s d, .av (.one (.v zeroDig)))] := by
  refine ok_read hd hn rfl fun σ' ρ a w h hk => ⟨zeroDig, ?_, rfl⟩
  have hb2 := run_build w 23 #[] _ (show Tryd.prog.built 23 (#[] : Array (Nat × Value)).toList = some (Array.replicate 16 (.int .u8 0)) by kernel_rfl)
  simp only [execOp, ho, Sem.run_bind]
  rw [show (#[] : Array (Nat × Operand)).map (fun p => (p.1, a.eval p.2)) = #[] by simp, hb2]
  rfl
/-! The reference's signature. -/
/-- The first k values of the chains, as bytes. -/
def chV (seed : List Nat) (key : Nat) (ds : List Nat) (c : Nat) : List Nat := Sg.advN key c 0 (ds.getD c 0) (Sg.startN seed key c)
theorem chV_length (seed : List Nat) (key : Nat) (ds : List Nat) (c : Nat) : (chV seed key ds c).length = 16 := Sg.advN_length _ _ _ _ _ (startN_length _ _ _)
theorem chV_bn (seed : List Nat) (key : Nat) (ds : List Nat) (c : Nat) : Bn (chV seed key ds c) := Sg.advN_bn _ _ _ _ _ (startN_bn _ _ _)
/-- The neighbour on a level. -/
def sideV (seed : List Nat) (i l : Nat) : List Nat := Sg.nodeN seed l (Sg.nextTo (i / 2 ^ l))
theorem sideV_length (seed : List Nat) (i l : Nat) : (sideV seed i l).length = 16 := nodeN_length _ _ _
theorem sideV_bn (seed : List Nat) (i l : Nat) : Bn (sideV seed i l) := nodeN_bn _ _ _
theorem signN_eq (seed : List Nat) (h i : Nat) (msg : List Nat) : Sg.signN seed h i msg = Sg.intN i ++ topsN (chV seed i (Sg.digitsN (Sg.digestN (Sg.nodeN seed h 0) i msg))) 68 ++ topsN (sideV seed i) h := rfl
theorem digN_le {d : List Nat} (hl : d.length = 16) (hd : Bn d) (c : Nat) : (Sg.digitsN d).getD c 0 ≤ 3 := by
  rcases Nat.lt_or_ge c (Sg.digitsN d).length with h | h
  · rw [List.getD_eq_getElem?_getD, List.getElem?_eq_getElem h, Option.getD_some]
    exact Sg.digitsN_le hl hd _ (List.getElem_mem _)
  · rw [List.getD_eq_getElem?_getD, List.getElem?_eq_none h]; decide
theorem digestN_length (p : List Nat) (i : Int) (m : List Nat) : (Sg.digestN p i m).length = 16 := Sg.ofL_length _ _
theorem digestN_bn (p : List Nat) (i : Int) (m : List Nat) : Bn (Sg.digestN p i m) := Sg.ofL_bn _ _
theorem path_lt {i h l : Nat} (hi : i < 2 ^ h) (hl : l < h) : i / 2 ^ l < 2 ^ (h - l) := by
  rw [Nat.div_lt_iff_lt_mul (Nat.pow_pos (by decide)), ← Nat.pow_add, show h - l + l = h by omega]
  exact hi
theorem next_lt {q h l : Nat} (hl : l < h) (hq : q < 2 ^ (h - l)) : Sg.nextTo q < 2 ^ (h - l) := by
  rw [pow_half hl] at *
  unfold Sg.nextTo
  split <;> omega
theorem half_pow (i l : Nat) : i / 2 ^ l / 2 = i / 2 ^ (l + 1) := by rw [Nat.div_div_eq_div_mul, Nat.pow_succ]
theorem topsN_zero (g : Nat → List Nat) : topsN g 0 = [] := rfl
theorem free_dg (u : List UInt8) : Free (.one (DG u) : AV Dm) := fun _ _ _ w _ h w' _ => h w (Agree.refl _ _)
theorem XV.le_fix {f : Nat → Nat} {x : AV Dm} (h : (x.ptrs.all fun b => Nat.beq (f b) b) = true) : (XV.av x).leR f (.av x) := fun _ _ _ _ hv => hv.go (Goes.refl _ _) fun b hb => by rw [Nat.eq_of_beq_eq_true (List.all_eq_true.1 h b hb)]
/-- What is left of the digests. -/
abbrev rB (s : List Nat) : Sg Dm := [(.b 500, .blk 9 [(none, .v (str (by8 s)))])]
abbrev nextC : SA Dm := .lk (fnR 59 [(.ptr 500 0 : SA Dm)])
theorem ty_fnD : TyIs Tryd.prog 90 none := TyIs.one (by kernel_rfl) (by kernel_rfl)
theorem zero_fnD : (Tryd.prog.info? 90).map (·.zero) = some (some .nilFunc) := by kernel_rfl
theorem sz_fnD : (Tryd.prog.info? 90).map (·.size) = some 1 := by kernel_rfl
theorem zero_ints : (Tryd.prog.info? 25).map (·.zero) = some (some (.slice none 0 0)) := by kernel_rfl
set_option maxRecDepth 100000 in
theorem next_con (s : List Nat) (hs : 16 ≤ s.length) (hl : s.length ≤ 100000) : ConE Tryd.prog 59 [(.ptr 500 0 : SA Dm)] (rB s) (.one (DG (by8 (s.take 16)))) (rB (s.drop 16)) [] := by
  refine ConE.of (n := 11) (by exact List.cons_ne_nil _ _) Tryd.func59 rfl rfl rfl rfl rfl rfl rfl rfl fun cx ρ0 hW hBw => ?_
  refine CV.seq ?_
  refine CV.region rfl (fun h => nomatch h) ?_
  refine RV.step2 (OpOk.plain (ok_alloc (i := 0) rfl rfl (by decide) zero_dig rfl rfl rfl rfl) rfl) ?_
  refine RV.done ?_
  refine CV.seq ?_
  refine CV.region rfl (fun h => nomatch h) ?_
  refine RV.step1 (OpOk.plain (ok_load rfl rfl (by decide) rfl rfl rfl ty_str) rfl) ?_
  refine RV.step1 (OpOk.plain (ok_cutT (v := by8 (s.take 16)) none (some 16) (by show (List.take 16 (by8 s)).drop 0 = _; rw [List.drop_zero, by8, ← List.map_take]; rfl) (Nat.zero_le _) (by show 16 ≤ _; rw [by8_length]; exact hs) u_str rfl rfl (by decide) rfl trivial rfl) rfl) ?_
  refine RV.step1 (OpOk.plain (ok_s2b (by rw [by8_length, List.length_take]; omega) u_str u_bytes u_u8 rfl rfl (by decide) rfl) rfl) ?_
  refine RV.step1 (OpOk.plain (ok_s2ap (by rw [by8_length, List.length_take]; omega) u_dig rfl rfl (by decide) rfl) rfl) ?_
  refine RV.step1 (OpOk.plain (ok_loadP ty_dig (by decide) rfl rfl (by decide) rfl) rfl) ?_
  refine RV.step2 (OpOk.plain (ok_alloc (i := 1) rfl rfl (by decide) zero_dig rfl rfl rfl rfl) rfl) ?_
  refine RV.step1 (OpOk.plain (ok_store rfl rfl rfl rfl rfl rfl rfl (ty_dig).2 rfl rfl rfl rfl) rfl) ?_
  refine RV.done ?_
  refine CV.seq ?_
  refine CV.region rfl (fun h => nomatch h) ?_
  refine RV.step1 (OpOk.plain (ok_load rfl rfl (by decide) rfl rfl rfl ty_str) rfl) ?_
  refine RV.step1 (OpOk.plain (ok_cutT (v := by8 (s.drop 16)) (some 16) none (by show (List.take (by8 s).length (by8 s)).drop 16 = _; rw [List.take_length, by8, ← List.map_drop]; rfl) (by show 16 ≤ (by8 s).length; rw [by8_length]; exact hs) (Nat.le_refl _) u_str rfl rfl (by decide) rfl rfl trivial) rfl) ?_
  refine RV.step1 (OpOk.plain (ok_store rfl rfl rfl rfl rfl rfl rfl (ty_str).2 rfl rfl rfl rfl) rfl) ?_
  refine RV.done ?_
  refine CV.seq ?_
  refine CV.region rfl (fun h => nomatch h) ?_
  refine RV.step1 (OpOk.plain (ok_load rfl rfl (by decide) rfl rfl rfl ty_dig) rfl) ?_
  refine RV.step1 (OpOk.plain (ok_store rfl rfl rfl rfl rfl rfl rfl (ty_dig).2 rfl rfl rfl rfl) rfl) ?_
  refine RV.done ?_
  refine CV.ret ?_
  exact finE1 rfl (.inr rfl) rfl ⟨rfl, trivial⟩ (fun _ => rfl) ⟨_, _, _, _, _, rfl, rfl, rfl, ty_dig⟩ is_rfl
/-- What the closure for a chain's end has captured. -/
abbrev capsR (i : Nat) (D : List Nat) : List (SA Dm) := [.lk (pR none nextC), .d (Dm.gen (pG none (.v (.int .i64 (i : Int))))), .d (Dm.gen (pG none (DZ D)))]
set_option maxRecDepth 100000 in
theorem top2_con (i c : Nat) (D s : List Nat) (hs : 16 ≤ s.length) (hl : s.length ≤ 100000) (hb : Bn s) (hi : i ≤ 1000) (hc' : c < D.length) (hc3 : D.getD c 0 ≤ 3) (hc1 : c ≤ 1000) : ConE Tryd.prog 60 ((.v (.int .i64 (c : Int)) : SA Dm) :: capsR i D) (rB s) (.one (DG (by8 (Sg.advN i c (D.getD c 0) (3 - D.getD c 0) (s.take 16))))) (rB (s.drop 16)) [] := by
  refine ConE.of (n := 15) (by exact List.cons_ne_nil _ _) Tryd.func60 rfl rfl rfl rfl rfl rfl rfl rfl fun cx ρ0 hW hBw => ?_
  refine CV.seq ?_
  refine CV.region rfl (fun h => nomatch h) ?_
  refine RV.step2 (OpOk.plain (ok_alloc (i := 0) rfl rfl (by decide) zero_dig rfl rfl rfl rfl) rfl) ?_
  refine RV.done ?_
  refine CV.seq ?_
  refine CV.region rfl (fun _ => by kernel_rfl) ?_
  refine RV.step1 (OpOk.plain (ok_loadPR ty_fnD (by decide) rfl rfl (by decide) rfl) rfl) ?_
  refine RV.step2 (OpOk.plain (ok_callE (sas := []) (caps := [(.ptr 500 0 : SA Dm)]) (next_con s hs hl) hW Tryd.func59 rfl rfl rfl rfl (by decide) rfl trivial ⟨rfl, trivial⟩ trivial rfl rfl rfl rfl) rfl) ?_
  refine RV.step1 (OpOk.plain (ok_loadP ty_i64 (by decide) rfl rfl (by decide) rfl) rfl) ?_
  refine RV.step1 (OpOk.plain (ok_move (.inl rfl) rfl (by decide) rfl) rfl) ?_
  refine RV.step1 (OpOk.plain (ok_loadP ty_ints (by decide) rfl rfl (by decide) rfl) rfl) ?_
  refine RV.step1 (OpOk.plain (ok_move (.inl rfl) rfl (by decide) rfl) rfl) ?_
  refine RV.step1 (OpOk.plain (ok_idxL (i := c) (k := none) (dzV_at hc') u_ints sz_i64 (by decide) rfl rfl (by decide) rfl rfl) rfl) ?_
  refine RV.step1 (OpOk.plain (ok_loadP ty_i64 (by decide) rfl rfl (by decide) rfl) rfl) ?_
  refine RV.step1 (OpOk.plain (ok_callV (advance_con (s.take 16) i c (D.getD c 0) 3 (fun x hx => hb x (List.mem_of_mem_take hx)) (by rw [List.length_take]; omega) hi hc1 hc3 (by decide)) (free_dg _) hW rfl rfl (by decide) Tryd.func28 rfl rfl (.cons rfl Conv.any (.cons rfl Conv.any (.cons rfl Conv.any (.cons rfl Conv.any (.cons rfl Conv.any .nil))))) rfl) rfl) ?_
  refine RV.step1 (OpOk.plain (ok_store rfl rfl rfl rfl rfl rfl rfl (ty_dig).2 rfl rfl rfl rfl) rfl) ?_
  refine RV.drawn (by kernel_rfl) ?_
  refine CV.ret ?_
  exact finE1 rfl (.inr rfl) rfl ⟨rfl, trivial⟩ (fun _ => rfl) ⟨_, _, _, _, _, rfl, rfl, rfl, ty_dig⟩ is_rfl
/-- A chain's end. -/
def endV (i : Nat) (D rest : List Nat) (c : Nat) : List Nat := Sg.advN i c (D.getD c 0) (3 - D.getD c 0) (if c < 68 then Sg.piece rest c else List.replicate 16 0)
theorem piece_length {rest : List Nat} {c : Nat} (h : 16 * c + 16 ≤ rest.length) : (Sg.piece rest c).length = 16 := by
  rw [Sg.piece, List.length_take, List.length_drop]; omega
theorem piece_bn {rest : List Nat} (hb : Bn rest) (c : Nat) : Bn (Sg.piece rest c) := fun x hx => hb x (List.mem_of_mem_drop (List.mem_of_mem_take hx))
theorem rep_bn : Bn (List.replicate 16 0) := by intro x hx; rw [List.eq_of_mem_replicate hx]; decide
theorem endV_length {i : Nat} {D rest : List Nat} (h : 1088 ≤ rest.length) (c : Nat) : (endV i D rest c).length = 16 := by
  refine Sg.advN_length _ _ _ _ _ ?_
  split
  · exact piece_length (by omega)
  · rfl
theorem endV_bn {i : Nat} {D rest : List Nat} (hb : Bn rest) (c : Nat) : Bn (endV i D rest c) := by
  refine Sg.advN_bn _ _ _ _ _ ?_
  split
  · exact piece_bn hb c
  · exact rep_bn
theorem ends_eq (i : Nat) (D rest : List Nat) : (List.range 68).map (endV i D rest) = Sg.endsN i D rest := by
  refine List.map_congr_left fun c hc => ?_
  rw [endV, if_pos (List.mem_range.1 hc)]
theorem top3_con (i : Nat) (D rest : List Nat) (h : 1088 ≤ rest.length) (hl : rest.length ≤ 100000) (hb : Bn rest) (hi : i ≤ 1000) (hD : D.length = 68) (hD3 : ∀ c, D.getD c 0 ≤ 3) (c : Nat) (hc : c < 68) : ConE Tryd.prog 60 ((.v (.int .i64 (c : Int)) : SA Dm) :: capsR i D) (rB (rest.drop (16 * c))) (.one (DG (by8 (endV i D rest c)))) (rB (rest.drop (16 * (c + 1)))) [] := by
  have := top2_con i c D (rest.drop (16 * c)) (by rw [List.length_drop]; omega) (by rw [List.length_drop]; omega) (fun x hx => hb x (List.mem_of_mem_drop hx)) hi (by omega) (hD3 c) (by omega)
  rw [endV, if_pos hc, Sg.piece]
  rw [List.drop_drop, show 16 * c + 16 = 16 * (c + 1) by omega] at this
  exact this
set_option maxRecDepth 100000 in
theorem leafE_con (i : Nat) (D rest : List Nat) (h : 1088 ≤ rest.length) (hl : rest.length ≤ 100000) (hb : Bn rest) (hi : i ≤ 1000) (hD : D.length = 68) (hD3 : ∀ c, D.getD c 0 ≤ 3) : ConE Tryd.prog 43 [(.lk (fnR 60 (capsR i D)) : SA Dm)] (rB (rest.drop (16 * 0))) (.one (DG (by8 (Sg.leafN ((List.range 68).map (endV i D rest)))))) (rB (rest.drop (16 * 68))) [] := by
  have hl68 := topsN_length (endV i D rest) (endV_length h) 68
  have hgb := endV_bn (i := i) (D := D) hb
  refine ConE.of (n := 25) (by exact List.cons_ne_nil _ _) Tryd.func43 rfl rfl rfl rfl rfl rfl rfl rfl fun cx ρ0 hW hBw => ?_
  refine CV.seq ?_
  refine CV.region rfl (fun h => nomatch h) ?_
  refine RV.step2 (OpOk.plain (ok_alloc (i := 0) rfl rfl (by decide) zero_dig rfl rfl rfl rfl) rfl) ?_
  refine RV.done ?_
  refine CV.seq ?_
  refine CV.region rfl (fun h => nomatch h) ?_
  refine RV.step1 (OpOk.plain (ok_move (.inr rfl) rfl (by decide) rfl) rfl) ?_
  refine RV.done ?_
  refine CV.seq ?_
  refine CV.seq ?_
  refine CV.nilrow 3 100 5 none rfl rfl rfl rfl ?_
  refine CV.region rfl (fun h => nomatch h) ?_
  refine RV.step1 (OpOk.plain (ok_move (.inl rfl) rfl (by decide) rfl) rfl) ?_
  refine RV.done ?_
  refine CV.block ?_
  refine CV.loop (X := {k : Nat // k ≤ 68}) (fun k => [(.s 7, .av (.one (.v (.int .i64 (k.1 : Int))))), (.s 3, .av (.one (.sl 100 (byV (by8 (topsN (endV i D rest) k.1))).length))), (.b 100, .row 5 none (byV (by8 (topsN (endV i D rest) k.1)))), (.s 0, .av (.one (.lk (fnR 60 (capsR i D))))), (.s 2, .av (.one (.ptr 0 0))), (.b 0, .blk 23 [(some 16, .v zeroDig)]), (.b 500, .blk 9 [(none, .v (str (by8 (rest.drop (16 * k.1)))))]), (LKs, lkX [500] ρ0 (by exact List.cons_ne_nil _ _))]) (fun k => 68 - k.1) ⟨0, Nat.zero_le _⟩ (Sub.mk ⟨XV.le_rfl _, XV.le_rfl _, XV.le_row rfl, XV.le_rfl _, XV.le_rfl _, XV.le_rfl _, XV.le_rfl _, XV.le_rfl _, trivial⟩ rfl rfl) (fun k => ?_)
  obtain ⟨k, hk⟩ := k
  simp only
  refine CV.seq ?_
  refine CV.region rfl (fun h => nomatch h) ?_
  refine RV.step1 (OpOk.plain (ok_lss rfl rfl (by decide) rfl rfl) rfl) ?_
  refine RV.done ?_
  refine CV.seq ?_
  refine CV.cond rfl (fun hc => ?_) (fun hc => ?_)
  · have hlt : k < 68 := (by have := of_decide_eq_true hc; omega)
    refine CV.skip ?_
    refine CV.seq ?_
    refine CV.block ?_
    refine CV.seq ?_
    refine CV.region rfl (fun h => nomatch h) ?_
    refine RV.step1 (OpOk.plain (ok_move (.inl rfl) rfl (by decide) rfl) rfl) ?_
    refine RV.step1 (OpOk.plain (ok_move (.inr rfl) rfl (by decide) rfl) rfl) ?_
    refine RV.done ?_
    refine CV.seq ?_
    refine CV.region rfl (fun h => nomatch h) ?_
    refine RV.step1 (OpOk.plain (ok_move (.inl rfl) rfl (by decide) rfl) rfl) ?_
    refine RV.step1 (OpOk.plain (ok_move (.inl rfl) rfl (by decide) rfl) rfl) ?_
    refine RV.step2 (OpOk.plain (ok_callE (sas := [.v (.int .i64 (k : Int))]) (caps := capsR i D) (top3_con i D rest h hl hb hi hD hD3 k hlt) hW Tryd.func60 rfl rfl rfl rfl (by decide) rfl ⟨rfl, trivial⟩ ⟨rfl, trivial⟩ trivial rfl rfl rfl rfl) rfl) ?_
    refine RV.step2 (OpOk.plain (ok_alloc (i := 1) rfl rfl (by decide) zero_dig rfl rfl rfl rfl) rfl) ?_
    refine RV.step1 (OpOk.plain (ok_store rfl rfl rfl rfl rfl rfl rfl (ty_dig).2 rfl rfl rfl rfl) rfl) ?_
    refine RV.done ?_
    have hlk := topsN_length (endV i D rest) (endV_length h) k
    have hgk := endV_length (i := i) (D := D) h k
    refine CV.freezeE (r := 1) (t := 5) (nb_E hBw rfl rfl rfl) rfl rfl rfl rfl ?_
    refine CV.region rfl (fun h => nomatch h) ?_
    refine RV.step1 (OpOk.plain (ok_move (.inl rfl) rfl (by decide) rfl) rfl) ?_
    refine RV.step1 (OpOk.plain (ok_cutP u_dig sz_u8 rfl rfl (by decide) rfl) rfl) ?_
    refine RV.step3 (OpOk.plain (ok_append (r := 100) (r' := 101) (lst_elems (by decide) (byV_ptrs _)) (by rw [byV_length, byV_length, by8_length, by8_length]; omega) (by rw [byV_length, byV_length, by8_length, by8_length]; omega) u_bytes inf_u8 rfl rfl rfl (byV_plain _) rfl rfl rfl (by decide) rfl rfl rfl rfl rfl rfl rfl rfl) rfl) ?_
    refine RV.step1 (OpOk.plain (ok_move (.inr rfl) rfl (by decide) rfl) rfl) ?_
    refine RV.done ?_
    refine CV.region rfl (fun h => nomatch h) ?_
    refine RV.step1 (OpOk.plain (ok_add (c := ((k + 1 : Nat) : Int)) (by rw [wrapI (by omega) (by omega)]; omega) rfl rfl (by decide) rfl rfl) rfl) ?_
    refine RV.step1 (OpOk.plain (ok_move (.inl rfl) rfl (by decide) rfl) rfl) ?_
    refine RV.done ?_
    exact ⟨⟨k + 1, hlt⟩, Sub.mkr (fun i => if i = 100 then 101 else i) ⟨XV.le_same, XV.le_sl rfl (by rw [← byV_tops, List.length_append]), XV.le_row (byV_tops _ k), XV.le_fix rfl, fun _ _ _ _ h => h, ⟨rfl, fun _ _ _ _ h => h⟩, ⟨rfl, fun _ _ _ _ h => h⟩, XV.le_fix rfl, trivial⟩ rfl rfl rfl rfl, by show 68 - (k + 1) < 68 - k; omega⟩
  · refine CV.exit ?_
    refine CV.seq ?_
    have hk68 : k = 68 := (by have := of_decide_eq_false hc; omega)
    subst hk68
    refine CV.region rfl (fun h => nomatch h) ?_
    refine RV.step1 (OpOk.plain (ok_move (.inl rfl) rfl (by decide) rfl) rfl) ?_
    refine RV.step1 (OpOk.plain (ok_b2sR (u := by8 (topsN (endV i D rest) 68)) (byV_length _) u_bytes u_u8 u_str rfl rfl (by decide) rfl rfl) rfl) ?_
    refine RV.step1 (OpOk.plain (ok_litD (k := none) (xs := [.tmp 18]) (ss := txV [topsN (endV i D rest) 68]) (G := Dm.gen (lstG none (txV [topsN (endV i D rest) 68]))) (lstG_Lst _ _) u_strs zs_str rfl rfl rfl (str_kinds _) (str_ptrs _) rfl rfl (by decide) (.cons rfl Conv.any .nil)) rfl) ?_
    refine RV.step1 (OpOk.plain (ok_callV (Of_dg 3 (by decide) [topsN (endV i D rest) 68] (by simp [topsN_bn _ hgb]) (by simp) (by simp [hl68])) (free_dg _) hW rfl rfl (by decide) Tryd.func34 rfl rfl (.cons rfl Conv.any (.cons rfl Conv.any .nil)) rfl) rfl) ?_
    refine RV.step2 (OpOk.plain (ok_alloc (i := 1) rfl rfl (by decide) zero_dig rfl rfl rfl rfl) rfl) ?_
    refine RV.step1 (OpOk.plain (ok_store rfl rfl rfl rfl rfl rfl rfl (ty_dig).2 rfl rfl rfl rfl) rfl) ?_
    refine RV.done ?_
    refine CV.seq ?_
    refine CV.region rfl (fun h => nomatch h) ?_
    refine RV.step1 (OpOk.plain (ok_cutA u_dig sz_u8 rfl rfl (by decide) rfl rfl) rfl) ?_
    refine RV.step1 (OpOk.plain (ok_b2sA u_bytes u_u8 u_str rfl rfl (by decide) rfl rfl) rfl) ?_
    refine RV.step1 (OpOk.plain (ok_litD (k := none) (xs := [.tmp 22]) (ss := txV [Sg.ofL 3 [topsN (endV i D rest) 68]]) (G := Dm.gen (lstG none (txV [Sg.ofL 3 [topsN (endV i D rest) 68]]))) (lstG_Lst _ _) u_strs zs_str rfl rfl rfl (str_kinds _) (str_ptrs _) rfl rfl (by decide) (.cons rfl Conv.any .nil)) rfl) ?_
    refine RV.step1 (OpOk.plain (ok_callV (Of_dg 1 (by decide) [Sg.ofL 3 [topsN (endV i D rest) 68]] (by simp [Sg.ofL_bn]) (by simp) (by simp [Sg.ofL_length])) (free_dg _) hW rfl rfl (by decide) Tryd.func34 rfl rfl (.cons rfl Conv.any (.cons rfl Conv.any .nil)) rfl) rfl) ?_
    refine RV.step1 (OpOk.plain (ok_store rfl rfl rfl rfl rfl rfl rfl (ty_dig).2 rfl rfl rfl rfl) rfl) ?_
    refine RV.done ?_
    refine CV.ret ?_
    exact finE1 rfl (.inr rfl) rfl ⟨rfl, trivial⟩ (fun _ => rfl) ⟨_, _, _, _, _, rfl, rfl, rfl, ty_dig⟩ is_rfl

theorem up_step {rest : List Nat} {i h l : Nat} {v R : List Nat} (hl : l < h) (hR : Sg.upN (fun j => Sg.piece rest (68 + (l + j))) (i / 2 ^ l) (h - l) v = R) :
    Sg.upN (fun j => Sg.piece rest (68 + (l + 1 + j))) (i / 2 ^ (l + 1)) (h - (l + 1)) (if i / 2 ^ l % 2 = 1 then Sg.joinN2 (Sg.piece rest (68 + l)) v else Sg.joinN2 v (Sg.piece rest (68 + l))) = R := by
  rw [show h - l = (h - (l + 1)) + 1 by omega, Sg.upN, half_pow] at hR
  rw [← hR]
  congr 1
  funext j
  rw [show l + 1 + j = l + (j + 1) by omega]
theorem odd_of {q : Nat} (h : ((((q % 2 : Nat) : Int) == 0) = false)) : q % 2 = 1 := by
  have h1 : ¬ ((q % 2 : Nat) : Int) = 0 := fun e => by rw [e] at h; exact absurd h (by decide)
  omega
theorem join_bn (a b : List Nat) : Bn (Sg.joinN2 a b) := Sg.ofL_bn _ _
theorem join_length (a b : List Nat) : (Sg.joinN2 a b).length = 16 := Sg.ofL_length _ _
theorem shr_nat (i l : Nat) : (i : Int) / 2 ^ l = ((i / 2 ^ l : Nat) : Int) := by rw [Int.natCast_ediv, Int.natCast_pow]; rfl
set_option maxRecDepth 100000 in
theorem signedRoot_con (pub msg rest : List Nat) (h i : Nat) (hp : Bn pub) (lp : pub.length = 16) (hm : Bn msg) (lm : msg.length ≤ 2000) (hb : Bn rest) (hl : rest.length = (68 + h) * 16) (hh : h ≤ 6) (hi : i < 2 ^ h) : Con Tryd.prog 38 [DG (by8 pub), .v (.int .i64 (h : Int)), .v (.int .i64 (i : Int)), .v (str (by8 msg)), .v (str (by8 rest))] (.one (DG (by8 (Sg.rootN pub h i msg rest)))) := by
  have hp64 := pow_small hh
  have hdl := digestN_length pub (i : Int) msg
  have hdb := digestN_bn pub (i : Int) msg
  refine Con.of (n := 42) Tryd.func38 rfl rfl rfl rfl rfl fun cx hfr => ?_
  refine CV.seq ?_
  refine CV.region rfl (fun h => nomatch h) ?_
  refine RV.step2 (OpOk.plain (ok_box (i := 0) rfl rfl (by decide) rfl rfl rfl rfl rfl) rfl) ?_
  refine RV.step1 (OpOk.plain (ok_boxD rfl rfl (by decide) rfl rfl rfl) rfl) ?_
  refine RV.step2 (OpOk.plain (ok_box (i := 500) rfl rfl (by decide) rfl rfl rfl rfl rfl) rfl) ?_
  refine RV.step2 (OpOk.plain (ok_alloc (i := 1) rfl rfl (by decide) zero_dig rfl rfl rfl rfl) rfl) ?_
  refine RV.done ?_
  refine CV.seq ?_
  refine CV.region rfl (fun h => nomatch h) ?_
  refine RV.step1 (OpOk.plain (ok_mkfnR (hne := List.cons_ne_nil _ _) (ss := [(.ptr 500 0 : SA Dm)]) rfl rfl (by decide) ⟨rfl, trivial⟩) rfl) ?_
  refine RV.step2 (OpOk.plain (ok_alloc (i := 501) rfl rfl (by decide) zero_fnD rfl rfl rfl rfl) rfl) ?_
  refine RV.step1 (OpOk.plain (ok_store1 rfl rfl rfl rfl rfl rfl sz_fnD rfl rfl) rfl) ?_
  refine RV.done ?_
  refine CV.seq ?_
  refine CV.freezeR (s := nextC) (hne := List.cons_ne_nil _ _) (r := 501) (t := 11) (fun _ _ _ _ => cx.bw hfr _) rfl rfl rfl ?_
  refine CV.region rfl (fun h => nomatch h) ?_
  refine RV.step1 (OpOk.plain (ok_load rfl rfl (by decide) rfl rfl rfl ty_dig) rfl) ?_
  refine RV.step1 (OpOk.plain (ok_loadP ty_i64 (by decide) rfl rfl (by decide) rfl) rfl) ?_
  refine RV.step1 (OpOk.plain (ok_move (.inl rfl) rfl (by decide) rfl) rfl) ?_
  refine RV.step1 (OpOk.plain (ok_call (Digest_con pub msg (i : Int) hp lp hm lm (by omega) (by omega)) rfl rfl (by decide) Tryd.func16 rfl rfl (.cons rfl Conv.any (.cons rfl Conv.any (.cons rfl Conv.any .nil))) rfl hfr rfl) rfl) ?_
  refine RV.step1 (OpOk.plain (ok_call (Digits_con (Sg.digestN pub (i : Int) msg) hdb hdl) rfl rfl (by decide) Tryd.func10 rfl rfl (.cons rfl Conv.any .nil) rfl hfr rfl) rfl) ?_
  refine RV.step2 (OpOk.plain (ok_alloc (i := 502) rfl rfl (by decide) zero_ints rfl rfl rfl rfl) rfl) ?_
  refine RV.step1 (OpOk.plain (ok_store rfl rfl rfl rfl rfl rfl rfl (ty_ints).2 rfl rfl rfl rfl) rfl) ?_
  refine RV.done ?_
  refine CV.seq ?_
  refine CV.freezeB (r := 502) (t := 12) (cx.bw hfr) rfl rfl rfl rfl rfl ?_
  generalize hD : Sg.digitsN (Sg.digestN pub (i : Int) msg) = D
  have hD3 : ∀ c, D.getD c 0 ≤ 3 := (fun c => by rw [← hD]; exact digN_le hdl hdb c)
  have hDl : D.length = 68 := (by rw [← hD]; exact Sg.digitsN_length hdl)
  refine CV.region rfl (fun h => nomatch h) ?_
  refine RV.step1 (OpOk.plain (ok_mkfnR (hne := List.cons_ne_nil _ _) (ss := capsR i D) rfl rfl (by decide) ⟨rfl, rfl, rfl, trivial⟩) rfl) ?_
  refine RV.step2 (OpOk.plain (ok_callNE (bl := rB (rest.drop (16 * 0))) (leafE_con i D rest (by omega) (by omega) hb (by omega) hDl hD3) (cx.wf hfr) Tryd.func43 rfl rfl rfl rfl (by decide) ⟨rfl, trivial⟩ ⟨rfl, trivial⟩ trivial rfl rfl rfl rfl) rfl) ?_
  refine RV.step2 (OpOk.plain (ok_alloc (i := 2) rfl rfl (by decide) zero_dig rfl rfl rfl rfl) rfl) ?_
  refine RV.step1 (OpOk.plain (ok_store rfl rfl rfl rfl rfl rfl rfl (ty_dig).2 rfl rfl rfl rfl) rfl) ?_
  refine RV.done ?_
  refine CV.seq ?_
  refine CV.seq ?_
  rw [ends_eq]
  obtain ⟨V, hV⟩ : ∃ V, V = Sg.leafN (Sg.endsN i D rest) := ⟨_, rfl⟩
  rw [← hV]
  refine CV.region rfl (fun h => nomatch h) ?_
  refine RV.step1 (OpOk.plain (ok_move (.inl rfl) rfl (by decide) rfl) rfl) ?_
  refine RV.step1 (OpOk.plain (ok_move (.inl rfl) rfl (by decide) rfl) rfl) ?_
  refine RV.done ?_
  refine CV.block ?_
  refine CV.loop (X := {q : Nat × List Nat // q.1 ≤ h ∧ Bn q.2 ∧ q.2.length = 16 ∧ Sg.upN (fun j => Sg.piece rest (68 + (q.1 + j))) (i / 2 ^ q.1) (h - q.1) q.2 = Sg.rootN pub h i msg rest}) (fun q => [(.s 24, .av (.one (.v (.int .i64 (q.1.1 : Int))))), (.s 23, .av (.one (.v (.int .i64 (h : Int))))), (.s 7, .av (.one (.d (Dm.gen (pG none (.v (.int .i64 (i : Int)))))))), (.s 11, .av (.one (.lk (pR none nextC)))), (.s 13, .av (.one (.ptr 2 0))), (.b 2, .blk 23 [(some 16, DG (by8 q.1.2))]), (.b 500, .blk 9 [(none, .v (str (by8 (rest.drop (16 * (68 + q.1.1))))))]), (.s 10, .av (.one (.ptr 1 0))), (.b 1, .blk 23 [(some 16, .v zeroDig)])]) (fun q => h - q.1.1) ⟨(0, V), Nat.zero_le _, by rw [hV]; exact Sg.ofL_bn _ _, by rw [hV]; exact Sg.ofL_length _ _, by rw [Sg.rootN, hD, hV, Nat.pow_zero, Nat.div_one, Nat.sub_zero]; congr 1; funext j; rw [Nat.zero_add]⟩ (Sub.mk ⟨XV.le_rfl _, XV.le_rfl _, XV.le_rfl _, XV.le_rfl _, XV.le_rfl _, XV.le_rfl _, XV.le_rfl _, XV.le_rfl _, XV.le_rfl _, trivial⟩ rfl rfl) (fun q => ?_)
  obtain ⟨⟨l, v⟩, hll, hvb, hvl, hR⟩ := q
  simp only at hll hvb hvl hR ⊢
  refine CV.seq ?_
  refine CV.region rfl (fun h => nomatch h) ?_
  refine RV.step1 (OpOk.plain (ok_lss rfl rfl (by decide) rfl rfl) rfl) ?_
  refine RV.done ?_
  refine CV.seq ?_
  refine CV.cond rfl (fun hc => ?_) (fun hc => ?_)
  · have hlt : l < h := (by have := of_decide_eq_true hc; omega)
    have hstep := up_step hlt hR
    have hpl := piece_length (rest := rest) (c := 68 + l) (by omega)
    have hpb := piece_bn hb (68 + l)
    have hdr : (rest.drop (16 * (68 + l))).drop 16 = rest.drop (16 * (68 + (l + 1))) := (by rw [List.drop_drop, show 16 * (68 + l) + 16 = 16 * (68 + (l + 1)) by omega])
    have hnx := next_con (rest.drop (16 * (68 + l))) (by rw [List.length_drop]; omega) (by rw [List.length_drop]; omega)
    rw [hdr] at hnx
    refine CV.skip ?_
    refine CV.seq ?_
    refine CV.block ?_
    refine CV.seq ?_
    refine CV.region rfl (fun h => nomatch h) ?_
    refine RV.step1 (OpOk.plain (ok_move (.inl rfl) rfl (by decide) rfl) rfl) ?_
    refine RV.step1 (OpOk.plain (ok_move (.inr rfl) rfl (by decide) rfl) rfl) ?_
    refine RV.done ?_
    refine CV.seq ?_
    refine CV.region rfl (fun h => nomatch h) ?_
    refine RV.step1 (OpOk.plain (ok_loadP ty_i64 (by decide) rfl rfl (by decide) rfl) rfl) ?_
    refine RV.step1 (OpOk.plain (ok_move (.inl rfl) rfl (by decide) rfl) rfl) ?_
    refine RV.step1 (OpOk.plain (ok_shr (j := l) (c := ((i / 2 ^ l : Nat) : Int)) (by omega) (shr_nat i l) rfl rfl (by decide) rfl rfl) rfl) ?_
    refine RV.step1 (OpOk.plain (ok_remN (m := i / 2 ^ l) (q := 2) (by decide) rfl rfl (by decide) rfl rfl) rfl) ?_
    refine RV.step1 (OpOk.plain (ok_eql rfl rfl (by decide) rfl rfl) rfl) ?_
    refine RV.done ?_
    refine CV.cond rfl (fun hc2 => ?_) (fun hc2 => ?_)
    · have h0 : ¬ i / 2 ^ l % 2 = 1 := (by have := eq_of_beq hc2; omega)
      rw [if_neg h0] at hstep
      refine CV.region rfl (fun _ => by kernel_rfl) ?_
      refine RV.step1 (OpOk.plain (ok_load rfl rfl (by decide) rfl rfl rfl ty_dig) rfl) ?_
      refine RV.step1 (OpOk.plain (ok_loadPR ty_fnD (by decide) rfl rfl (by decide) rfl) rfl) ?_
      refine RV.step2 (OpOk.plain (ok_callE (sas := []) (caps := [(.ptr 500 0 : SA Dm)]) hnx (cx.wf hfr) Tryd.func59 rfl rfl rfl rfl (by decide) rfl trivial ⟨rfl, trivial⟩ trivial rfl rfl rfl rfl) rfl) ?_
      refine RV.step1 (OpOk.plain (ok_call (join_con v (Sg.piece rest (68 + l)) hvb hpb hvl hpl) rfl rfl (by decide) Tryd.func45 rfl rfl (.cons rfl Conv.any (.cons rfl Conv.any .nil)) rfl hfr rfl) rfl) ?_
      refine RV.step1 (OpOk.plain (ok_store rfl rfl rfl rfl rfl rfl rfl (ty_dig).2 rfl rfl rfl rfl) rfl) ?_
      refine RV.drawn (by kernel_rfl) ?_
      refine CV.region rfl (fun h => nomatch h) ?_
      refine RV.step1 (OpOk.plain (ok_add (c := ((l + 1 : Nat) : Int)) (by rw [wrapI (by omega) (by omega)]; omega) rfl rfl (by decide) rfl rfl) rfl) ?_
      refine RV.step1 (OpOk.plain (ok_move (.inl rfl) rfl (by decide) rfl) rfl) ?_
      refine RV.done ?_
      exact ⟨⟨(l + 1, _), hlt, join_bn _ _, join_length _ _, hstep⟩, Sub.mk ⟨XV.le_rfl _, XV.le_rfl _, XV.le_rfl _, XV.le_rfl _, XV.le_rfl _, XV.le_rfl _, XV.le_rfl _, XV.le_rfl _, XV.le_rfl _, trivial⟩ rfl rfl, by show h - (l + 1) < h - l; omega⟩
    · have h0 : i / 2 ^ l % 2 = 1 := odd_of hc2
      rw [if_pos h0] at hstep
      refine CV.region rfl (fun _ => by kernel_rfl) ?_
      refine RV.step1 (OpOk.plain (ok_loadPR ty_fnD (by decide) rfl rfl (by decide) rfl) rfl) ?_
      refine RV.step2 (OpOk.plain (ok_callE (sas := []) (caps := [(.ptr 500 0 : SA Dm)]) hnx (cx.wf hfr) Tryd.func59 rfl rfl rfl rfl (by decide) rfl trivial ⟨rfl, trivial⟩ trivial rfl rfl rfl rfl) rfl) ?_
      refine RV.step1 (OpOk.plain (ok_load rfl rfl (by decide) rfl rfl rfl ty_dig) rfl) ?_
      refine RV.step1 (OpOk.plain (ok_call (join_con (Sg.piece rest (68 + l)) v hpb hvb hpl hvl) rfl rfl (by decide) Tryd.func45 rfl rfl (.cons rfl Conv.any (.cons rfl Conv.any .nil)) rfl hfr rfl) rfl) ?_
      refine RV.step1 (OpOk.plain (ok_store rfl rfl rfl rfl rfl rfl rfl (ty_dig).2 rfl rfl rfl rfl) rfl) ?_
      refine RV.drawn (by kernel_rfl) ?_
      refine CV.region rfl (fun h => nomatch h) ?_
      refine RV.step1 (OpOk.plain (ok_add (c := ((l + 1 : Nat) : Int)) (by rw [wrapI (by omega) (by omega)]; omega) rfl rfl (by decide) rfl rfl) rfl) ?_
      refine RV.step1 (OpOk.plain (ok_move (.inl rfl) rfl (by decide) rfl) rfl) ?_
      refine RV.done ?_
      exact ⟨⟨(l + 1, _), hlt, join_bn _ _, join_length _ _, hstep⟩, Sub.mk ⟨XV.le_rfl _, XV.le_rfl _, XV.le_rfl _, XV.le_rfl _, XV.le_rfl _, XV.le_rfl _, XV.le_rfl _, XV.le_rfl _, XV.le_rfl _, trivial⟩ rfl rfl, by show h - (l + 1) < h - l; omega⟩
  · refine CV.exit ?_
    refine CV.seq ?_
    have hlh : l = h := (by have := of_decide_eq_false hc; omega)
    subst hlh
    rw [Nat.sub_self, Sg.upN] at hR
    refine CV.region rfl (fun h => nomatch h) ?_
    refine RV.step1 (OpOk.plain (ok_load rfl rfl (by decide) rfl rfl rfl ty_dig) rfl) ?_
    refine RV.step1 (OpOk.plain (ok_store rfl rfl rfl rfl rfl rfl rfl (ty_dig).2 rfl rfl rfl rfl) rfl) ?_
    refine RV.done ?_
    refine CV.ret ?_
    exact fin1 rfl (.inr rfl) ⟨_, _, _, _, _, rfl, rfl, rfl, ty_dig⟩ (is_of (by rw [hR]))
end Vc
end Go.Proofs.YthadfilandmhiaaDoor
