/-
  Signatures: which indices are valid; the laws' seeds; the reference's tree.
  Signatures: the reference's Public and Sign.
-/
import Derived.Test.YthadfilandmhiaaDoorSB40
set_option linter.unusedVariables false
set_option linter.unusedSimpArgs false
set_option linter.unusedSectionVars false
namespace Go.Proofs.YthadfilandmhiaaDoor
open Go.RowKit
open Go.Lib (hid)
open Dg Zn S
namespace Vc
theorem shl_small {h : Nat} (hh : h ≤ 6) : IntKind.i64.wrap (1 * 2 ^ h) = ((2 ^ h : Nat) : Int) := by
  match h, hh with
  | 0, _ => rfl
  | 1, _ => rfl
  | 2, _ => rfl
  | 3, _ => rfl
  | 4, _ => rfl
  | 5, _ => rfl
  | 6, _ => rfl
theorem pow_small {h : Nat} (hh : h ≤ 6) : 2 ^ h ≤ 64 := Nat.pow_le_pow_right (n := 2) (by decide) hh
set_option maxRecDepth 100000 in
theorem validIndex_con (h : Nat) (hh : h ≤ 6) (i : Int) : Con Tryd.prog 25 [(.v (.int .i64 (h : Int)) : SA Dm), .v (.int .i64 i)] (.one (.v (.bool (decide (0 ≤ i ∧ i < ((2 ^ h : Nat) : Int)))))) := by
  refine Con.of (n := 13) Tryd.func25 rfl rfl rfl rfl rfl fun cx hfr => ?_
  refine CV.seq ?_
  refine CV.region rfl (fun h => nomatch h) ?_
  refine RV.step1 (OpOk.plain (ok_move (.inr rfl) rfl (by decide) rfl) rfl) ?_
  refine RV.done ?_
  refine CV.seq ?_
  refine CV.region rfl (fun h => nomatch h) ?_
  refine RV.step1 (OpOk.plain (ok_move (.inl rfl) rfl (by decide) rfl) rfl) ?_
  refine RV.step1 (OpOk.plain (ok_geq rfl rfl (by decide) rfl rfl) rfl) ?_
  refine RV.step1 (OpOk.plain (ok_move (.inl rfl) rfl (by decide) rfl) rfl) ?_
  refine RV.bool (fun h0 => ?_) (fun h0 => ?_)
  · refine RV.step1 (OpOk.yes (ok_move (.inl rfl) rfl (by decide) rfl) rfl rfl rfl) ?_
    refine RV.step1 (OpOk.yes (ok_move (.inl rfl) rfl (by decide) rfl) rfl rfl rfl) ?_
    refine RV.step1 (OpOk.yes (ok_shl (j := h) (c := ((2 ^ h : Nat) : Int)) (by omega) (shl_small hh) rfl rfl (by decide) rfl rfl) rfl rfl rfl) ?_
    refine RV.step1 (OpOk.yes (ok_lss rfl rfl (by decide) rfl rfl) rfl rfl rfl) ?_
    refine RV.step1 (OpOk.plain (ok_pickT rfl rfl (by decide) rfl rfl rfl) rfl) ?_
    refine RV.step1 (OpOk.plain (ok_move (.inr rfl) rfl (by decide) rfl) rfl) ?_
    refine RV.done ?_
    refine CV.ret ?_
    have h1 : 0 ≤ i := (by simpa using h0)
    exact fin1 rfl (.inr rfl) rfl (is_bool (by simp [h1]))
  · refine RV.step1 (OpOk.skip rfl rfl rfl rfl rfl (by decide)) ?_
    refine RV.step1 (OpOk.skip rfl rfl rfl rfl rfl (by decide)) ?_
    refine RV.step1 (OpOk.skip rfl rfl rfl rfl rfl (by decide)) ?_
    refine RV.step1 (OpOk.skip rfl rfl rfl rfl rfl (by decide)) ?_
    refine RV.step1 (OpOk.plain (ok_pickF rfl rfl (by decide) rfl rfl rfl) rfl) ?_
    refine RV.step1 (OpOk.plain (ok_move (.inr rfl) rfl (by decide) rfl) rfl) ?_
    refine RV.done ?_
    refine CV.ret ?_
    have h1 : ¬ 0 ≤ i := (by simpa using h0)
    exact fin1 rfl (.inr rfl) rfl (is_bool (by simp [h1]))
set_option maxRecDepth 100000 in
theorem fits_con (u : List Nat) (h : Int) : Con Tryd.prog 23 [(.v (str (by8 u)) : SA Dm), .v (.int .i64 h)] (.one (.v (.bool (decide (u.length = 32 ∧ 0 ≤ h ∧ h ≤ 6))))) := by
  refine Con.of (n := 16) Tryd.func23 rfl rfl rfl rfl rfl fun cx hfr => ?_
  refine CV.seq ?_
  refine CV.region rfl (fun h => nomatch h) ?_
  refine RV.step1 (OpOk.plain (ok_move (.inr rfl) rfl (by decide) rfl) rfl) ?_
  refine RV.done ?_
  refine CV.seq ?_
  refine CV.region rfl (fun h => nomatch h) ?_
  refine RV.step1 (OpOk.plain (ok_move (.inl rfl) rfl (by decide) rfl) rfl) ?_
  refine RV.step1 (OpOk.plain (ok_lenT (by8_length u) u_str rfl rfl (by decide) rfl) rfl) ?_
  refine RV.step1 (OpOk.plain (ok_eql rfl rfl (by decide) rfl rfl) rfl) ?_
  refine RV.step1 (OpOk.plain (ok_move (.inl rfl) rfl (by decide) rfl) rfl) ?_
  refine RV.bool (fun h0 => ?_) (fun h0 => ?_)
  · refine RV.step1 (OpOk.yes (ok_move (.inl rfl) rfl (by decide) rfl) rfl rfl rfl) ?_
    refine RV.step1 (OpOk.yes (ok_geq rfl rfl (by decide) rfl rfl) rfl rfl rfl) ?_
    refine RV.step1 (OpOk.plain (ok_pickT rfl rfl (by decide) rfl rfl rfl) rfl) ?_
    refine RV.step1 (OpOk.plain (ok_move (.inl rfl) rfl (by decide) rfl) rfl) ?_
    refine RV.bool (fun h2 => ?_) (fun h2 => ?_)
    · refine RV.step1 (OpOk.yes (ok_move (.inl rfl) rfl (by decide) rfl) rfl rfl rfl) ?_
      refine RV.step1 (OpOk.yes (ok_leq rfl rfl (by decide) rfl rfl) rfl rfl rfl) ?_
      refine RV.step1 (OpOk.plain (ok_pickT rfl rfl (by decide) rfl rfl rfl) rfl) ?_
      refine RV.step1 (OpOk.plain (ok_move (.inr rfl) rfl (by decide) rfl) rfl) ?_
      refine RV.done ?_
      refine CV.ret ?_
      have h1 : u.length = 32 := (by simp at h0; omega)
      have h4 : 0 ≤ h := (by simpa using h2)
      exact fin1 rfl (.inr rfl) rfl (is_bool (by simp [h1, h4]))
    · refine RV.step1 (OpOk.skip rfl rfl rfl rfl rfl (by decide)) ?_
      refine RV.step1 (OpOk.skip rfl rfl rfl rfl rfl (by decide)) ?_
      refine RV.step1 (OpOk.plain (ok_pickF rfl rfl (by decide) rfl rfl rfl) rfl) ?_
      refine RV.step1 (OpOk.plain (ok_move (.inr rfl) rfl (by decide) rfl) rfl) ?_
      refine RV.done ?_
      refine CV.ret ?_
      have h4 : ¬ 0 ≤ h := (by simpa using h2)
      exact fin1 rfl (.inr rfl) rfl (is_bool (by simp [h4]))
  · refine RV.step1 (OpOk.skip rfl rfl rfl rfl rfl (by decide)) ?_
    refine RV.step1 (OpOk.skip rfl rfl rfl rfl rfl (by decide)) ?_
    refine RV.step1 (OpOk.plain (ok_pickF rfl rfl (by decide) rfl rfl rfl) rfl) ?_
    refine RV.step1 (OpOk.plain (ok_move (.inl rfl) rfl (by decide) rfl) rfl) ?_
    refine RV.step1 (OpOk.skip rfl rfl rfl rfl rfl (by decide)) ?_
    refine RV.step1 (OpOk.skip rfl rfl rfl rfl rfl (by decide)) ?_
    refine RV.step1 (OpOk.plain (ok_pickF rfl rfl (by decide) rfl rfl rfl) rfl) ?_
    refine RV.step1 (OpOk.plain (ok_move (.inr rfl) rfl (by decide) rfl) rfl) ?_
    refine RV.done ?_
    refine CV.ret ?_
    have h1 : ¬ u.length = 32 := (by simp at h0; omega)
    exact fin1 rfl (.inr rfl) rfl (is_bool (by simp [h1]))
def seedN (c : Nat) : List Nat := List.replicate 32 c
/-- The first k bytes of the seed, then zeros. -/
def seedK (c k : Nat) : List Nat := List.replicate k c ++ List.replicate (32 - k) 0
theorem seedK_length {c k : Nat} (hk : k ≤ 32) : (seedK c k).length = 32 := by
  rw [seedK, List.length_append, List.length_replicate, List.length_replicate]; omega
theorem seedK_set {c k : Nat} (hc : c < 256) (hk : k < 32) : (byV (by8 (seedK c k))).set k (.v (.int .u8 (c : Int))) = byV (by8 (seedK c (k + 1))) := by
  have e : (SA.v (.int .u8 (c : Int)) : SA Dm) = (fun b : UInt8 => (SA.v (.int .u8 (b.toNat : Int)) : SA Dm)) (UInt8.ofNat c) := by
    have : (UInt8.ofNat c).toNat = c := by rw [UInt8.toNat_ofNat']; omega
    show _ = SA.v (.int .u8 ((UInt8.ofNat c).toNat : Int))
    rw [this]
  have el : 32 - k = (32 - (k + 1)) + 1 := by omega
  rw [byV, byV, e, ← List.map_set, by8, by8, ← List.map_set]
  congr 2
  rw [seedK, seedK, el, List.replicate_succ, List.set_append_right _ _ (by rw [List.length_replicate]; exact Nat.le_refl _), List.length_replicate, Nat.sub_self, List.set_cons_zero, List.replicate_succ' (n := k), List.append_assoc]
  rfl
set_option maxRecDepth 100000 in
theorem seed_con (c : Nat) (hc : c < 256) : Con Tryd.prog 20 [(.v (.int .u8 (c : Int)) : SA Dm)] (.one (.v (str (by8 (seedN c))))) := by
  refine Con.of (n := 16) Tryd.func20 rfl rfl rfl rfl rfl fun cx hfr => ?_
  refine CV.seq ?_
  refine CV.region rfl (fun h => nomatch h) ?_
  refine RV.step1 (OpOk.plain (ok_move (.inr rfl) rfl (by decide) rfl) rfl) ?_
  refine RV.done ?_
  refine CV.seq ?_
  refine CV.region rfl (fun h => nomatch h) ?_
  refine RV.step2 (OpOk.plain (ok_make (r := 100) (m := 32) (c := 32) (k := none) (by decide) (by decide) (by decide) u_bytes inf_u8 rfl rfl rfl rfl (by decide) rfl rfl rfl rfl rfl) rfl) ?_
  refine RV.step1 (OpOk.plain (ok_move (.inr rfl) rfl (by decide) rfl) rfl) ?_
  refine RV.done ?_
  refine CV.seq ?_
  refine CV.seq ?_
  refine CV.region rfl (fun h => nomatch h) ?_
  refine RV.step1 (OpOk.plain (ok_move (.inr rfl) rfl (by decide) rfl) rfl) ?_
  refine RV.done ?_
  refine CV.block ?_
  refine CV.loop (X := {k : Nat // k ≤ 32}) (fun k => [(.s 4, .av (.one (.v (.int .i64 (k.1 : Int))))), (.s 0, .av (.one (.v (.int .u8 (c : Int))))), (.s 3, .av (.one (.sl 100 (byV (by8 (seedK c 32))).length))), (.b 100, .row 5 none (byV (by8 (seedK c k.1))))]) (fun k => 32 - k.1) ⟨0, Nat.zero_le _⟩ (Sub.mk ⟨XV.le_rfl _, XV.le_rfl _, XV.le_sl rfl (by rw [byV_length, by8_length, seedK_length (Nat.le_refl _)]), XV.le_row rfl, trivial⟩ rfl rfl rfl rfl) (fun k => ?_)
  obtain ⟨k, hk⟩ := k
  simp only
  refine CV.seq ?_
  refine CV.seq ?_
  refine CV.region rfl (fun h => nomatch h) ?_
  refine RV.step1 (OpOk.plain (ok_move (.inl rfl) rfl (by decide) rfl) rfl) ?_
  refine RV.step1 (OpOk.plain (ok_lss rfl rfl (by decide) rfl rfl) rfl) ?_
  refine RV.done ?_
  refine CV.cond rfl (fun hc2 => ?_) (fun hc2 => ?_)
  · have hlt : k < 32 := (by have := of_decide_eq_true hc2; omega)
    refine CV.skip ?_
    refine CV.seq ?_
    refine CV.block ?_
    refine CV.region rfl (fun h => nomatch h) ?_
    refine RV.step1 (OpOk.plain (ok_move (.inl rfl) rfl (by decide) rfl) rfl) ?_
    refine RV.step1 (OpOk.plain (ok_move (.inl rfl) rfl (by decide) rfl) rfl) ?_
    refine RV.step1 (OpOk.plain (ok_move (.inl rfl) rfl (by decide) rfl) rfl) ?_
    refine RV.step1 (OpOk.plain (ok_idxR (i := k) (by rw [byV_length, by8_length, seedK_length (Nat.le_refl _)]; exact hlt) (by rw [byV_length, by8_length, byV_length, by8_length, seedK_length (Nat.le_refl _), seedK_length hk]; exact Nat.le_refl _) u_bytes sz_u8 rfl rfl (by decide) rfl rfl rfl) rfl) ?_
    refine RV.step1 (OpOk.plain (ok_storeR (i := k) (by rw [byV_length, by8_length, seedK_length hk]; exact hlt) rfl (by decide) rfl rfl rfl rfl rfl rfl sz_u8 (.inl rfl) rfl rfl) rfl) ?_
    refine RV.done ?_
    refine CV.region rfl (fun h => nomatch h) ?_
    refine RV.step1 (OpOk.plain (ok_move (.inl rfl) rfl (by decide) rfl) rfl) ?_
    refine RV.step1 (OpOk.plain (ok_add (c := ((k + 1 : Nat) : Int)) (by rw [wrapI (by omega) (by omega)]; omega) rfl rfl (by decide) rfl rfl) rfl) ?_
    refine RV.step1 (OpOk.plain (ok_move (.inr rfl) rfl (by decide) rfl) rfl) ?_
    refine RV.done ?_
    exact ⟨⟨k + 1, hlt⟩, Sub.mk ⟨XV.le_rfl _, XV.le_rfl _, XV.le_rfl _, XV.le_row (seedK_set hc hlt), trivial⟩ rfl rfl rfl rfl, by show 32 - (k + 1) < 32 - k; omega⟩
  · refine CV.exit ?_
    refine CV.seq ?_
    have hk32 : k = 32 := (by have := of_decide_eq_false hc2; omega)
    subst hk32
    refine CV.region rfl (fun h => nomatch h) ?_
    refine RV.step1 (OpOk.plain (ok_move (.inl rfl) rfl (by decide) rfl) rfl) ?_
    refine RV.step1 (OpOk.plain (ok_b2sR (u := by8 (seedK c 32)) (byV_length _) u_bytes u_u8 u_str rfl rfl (by decide) rfl rfl) rfl) ?_
    refine RV.step1 (OpOk.plain (ok_move (.inr rfl) rfl (by decide) rfl) rfl) ?_
    refine RV.done ?_
    refine CV.ret ?_
    exact fin1 rfl (.inr rfl) rfl (is_of (by rw [seedN]; simp [seedK]))

/-! The reference's tree, level by level. -/
def dgL (ls : List (List Nat)) : List (SA Dm) := ls.map fun l => DG (by8 l)
abbrev DL (ls : List (List Nat)) : SA Dm := .d (Dm.gen (lstG (some 16) (dgL ls)))
theorem dgL_length (ls : List (List Nat)) : (dgL ls).length = ls.length := by simp [dgL]
theorem dgL_ptrs : ∀ ls : List (List Nat), (dgL ls).flatMap SA.ptrs = [] := by
  intro ls
  rw [List.flatMap_eq_nil_iff]
  intro s hs
  obtain ⟨l, _, rfl⟩ := List.mem_map.1 hs
  rfl
theorem dgL_kinds (ls : List (List Nat)) : ∀ s ∈ dgL ls, s.kind = some (some 16) := by
  intro s hs
  obtain ⟨l, _, rfl⟩ := List.mem_map.1 hs
  rfl
theorem dgL_plain (ls : List (List Nat)) : ∀ s ∈ dgL ls, s.plain = true := by
  intro s hs
  obtain ⟨l, _, rfl⟩ := List.mem_map.1 hs
  rfl
theorem dgL_append (a b : List (List Nat)) : dgL (a ++ b) = dgL a ++ dgL b := by simp [dgL]
theorem dgL_at {ls : List (List Nat)} {i : Nat} {l : List Nat} (h : ls[i]? = some l) : (dgL ls)[i]? = some (DG (by8 l)) := by simp [dgL, h]
/-- The first j nodes of a level. -/
def lvK (seed : List Nat) (l j : Nat) : List (List Nat) := (List.range j).map (Sg.nodeN seed l)
theorem lvK_length (seed : List Nat) (l j : Nat) : (lvK seed l j).length = j := by simp [lvK]
theorem lvK_succ (seed : List Nat) (l j : Nat) : lvK seed l (j + 1) = lvK seed l j ++ [Sg.nodeN seed l j] := by simp [lvK, List.range_succ]
theorem lvK_at {seed : List Nat} {l j i : Nat} (h : i < j) : (lvK seed l j)[i]? = some (Sg.nodeN seed l i) := by simp [lvK, h]
/-- The first l levels. -/
def llV (seed : List Nat) (h l : Nat) : List (SA Dm) := (List.range l).map fun i => DL (lvK seed i (2 ^ (h - i)))
abbrev LLD (seed : List Nat) (h : Nat) : SA Dm := .d (Dm.gen (lstG none (llV seed h (h + 1))))
theorem llV_length (seed : List Nat) (h l : Nat) : (llV seed h l).length = l := by simp [llV]
theorem llV_succ (seed : List Nat) (h l : Nat) : llV seed h (l + 1) = llV seed h l ++ [DL (lvK seed l (2 ^ (h - l)))] := by simp [llV, List.range_succ]
theorem llV_at {seed : List Nat} {h l i : Nat} (hi : i < l) : (llV seed h l)[i]? = some (DL (lvK seed i (2 ^ (h - i)))) := by simp [llV, hi]
theorem llV_ptrs (seed : List Nat) (h l : Nat) : (llV seed h l).flatMap SA.ptrs = [] := by
  rw [List.flatMap_eq_nil_iff]
  intro s hs
  obtain ⟨l, _, rfl⟩ := List.mem_map.1 hs
  rfl
theorem nodeN_length (seed : List Nat) : ∀ l k, (Sg.nodeN seed l k).length = 16
  | 0, _ => Sg.ofL_length _ _
  | _ + 1, _ => Sg.ofL_length _ _
theorem nodeN_bn (seed : List Nat) : ∀ l k, Bn (Sg.nodeN seed l k)
  | 0, _ => Sg.ofL_bn _ _
  | _ + 1, _ => Sg.ofL_bn _ _
theorem u_digs : Tryd.prog.underlying 45 = some (.slice 23) := by kernel_rfl
theorem u_ldigs : Tryd.prog.underlying 48 = some (.slice 45) := by kernel_rfl
theorem zs_dig : (Tryd.prog.info? 23).map (fun i => (i.size, i.zero)) = some (16, some zeroDig) := by kernel_rfl
theorem sz_dig : (Tryd.prog.info? 23).map (·.size) = some 16 := by kernel_rfl
theorem inf_dig : (Tryd.prog.info? 23).map (fun i => (i.zero, i.size, i.bytes)) = some (some zeroDig, 16, 16) := by kernel_rfl
theorem zs_digs : (Tryd.prog.info? 45).map (fun i => (i.size, i.zero)) = some (1, some (.slice none 0 0)) := by kernel_rfl
theorem sz_digs : (Tryd.prog.info? 45).map (·.size) = some 1 := by kernel_rfl
theorem inf_digs : (Tryd.prog.info? 45).map (fun i => (i.zero, i.size, i.bytes)) = some (some (.slice none 0 0), 1, 24) := by kernel_rfl
theorem ty_digs : TyIs Tryd.prog 45 none := TyIs.one (by kernel_rfl) (by kernel_rfl)
theorem pow_half {h l : Nat} (hl : l < h) : 2 ^ (h - l) = 2 * 2 ^ (h - (l + 1)) := by
  rw [show h - l = (h - (l + 1)) + 1 by omega, Nat.pow_succ, Nat.mul_comm]
set_option maxRecDepth 100000 in
theorem rlevels_con (seed : List Nat) (h : Nat) (hs : Bn seed) (ls : seed.length ≤ 1000) (hh : h ≤ 6) : Con Tryd.prog 24 [(.v (str (by8 seed)) : SA Dm), .v (.int .i64 (h : Int))] (.one (LLD seed h)) := by
  have hp64 := pow_small hh
  refine Con.of (n := 64) Tryd.func24 rfl rfl rfl rfl rfl fun cx hfr => ?_
  refine CV.seq ?_
  refine CV.region rfl (fun h => nomatch h) ?_
  refine RV.step1 (OpOk.plain (ok_move (.inr rfl) rfl (by decide) rfl) rfl) ?_
  refine RV.done ?_
  refine CV.seq ?_
  refine CV.region rfl (fun h => nomatch h) ?_
  refine RV.step1 (OpOk.plain (ok_move (.inr rfl) rfl (by decide) rfl) rfl) ?_
  refine RV.done ?_
  refine CV.seq ?_
  refine CV.seq ?_
  refine CV.nilrow 5 100 23 (some 16) rfl rfl rfl rfl ?_
  refine CV.region rfl (fun h => nomatch h) ?_
  refine RV.step1 (OpOk.plain (ok_move (.inr rfl) rfl (by decide) rfl) rfl) ?_
  refine RV.done ?_
  refine CV.block ?_
  refine CV.loop (X := {k : Nat // k ≤ 2 ^ h}) (fun k => [(.s 6, .av (.one (.v (.int .i64 (k.1 : Int))))), (.s 5, .av (.one (.sl 100 (dgL (lvK seed 0 k.1)).length))), (.b 100, .row 23 (some 16) (dgL (lvK seed 0 k.1))), (.s 0, .av (.one (.v (str (by8 seed))))), (.s 1, .av (.one (.v (.int .i64 (h : Int)))))]) (fun k => 2 ^ h - k.1) ⟨0, Nat.zero_le _⟩ (Sub.mk ⟨XV.le_rfl _, XV.le_rfl _, XV.le_row rfl, XV.le_rfl _, XV.le_rfl _, trivial⟩ rfl rfl rfl rfl) (fun k => ?_)
  obtain ⟨k, hk⟩ := k
  simp only
  refine CV.seq ?_
  refine CV.seq ?_
  refine CV.region rfl (fun h => nomatch h) ?_
  refine RV.step1 (OpOk.plain (ok_move (.inl rfl) rfl (by decide) rfl) rfl) ?_
  refine RV.step1 (OpOk.plain (ok_move (.inl rfl) rfl (by decide) rfl) rfl) ?_
  refine RV.step1 (OpOk.plain (ok_shl (j := h) (c := ((2 ^ h : Nat) : Int)) (by omega) (shl_small hh) rfl rfl (by decide) rfl rfl) rfl) ?_
  refine RV.step1 (OpOk.plain (ok_lss rfl rfl (by decide) rfl rfl) rfl) ?_
  refine RV.done ?_
  refine CV.cond rfl (fun hc => ?_) (fun hc => ?_)
  · have hlt : k < 2 ^ h := (by have := of_decide_eq_true hc; omega)
    refine CV.skip ?_
    refine CV.seq ?_
    refine CV.block ?_
    refine CV.region rfl (fun h => nomatch h) ?_
    refine RV.step1 (OpOk.plain (ok_move (.inl rfl) rfl (by decide) rfl) rfl) ?_
    refine RV.step1 (OpOk.plain (ok_move (.inl rfl) rfl (by decide) rfl) rfl) ?_
    refine RV.step1 (OpOk.plain (ok_move (.inl rfl) rfl (by decide) rfl) rfl) ?_
    refine RV.step1 (OpOk.plain (ok_call (rleaf_con seed k hs ls (by omega)) rfl rfl (by decide) Tryd.func46 rfl rfl (.cons rfl Conv.any (.cons rfl Conv.any .nil)) rfl hfr rfl) rfl) ?_
    refine RV.step1 (OpOk.plain (ok_litD (k := some 16) (xs := [.tmp 20]) (ss := dgL [Sg.nodeN seed 0 k]) (G := Dm.gen (lstG (some 16) (dgL [Sg.nodeN seed 0 k]))) (lstG_Lst _ _) u_digs zs_dig rfl rfl rfl (dgL_kinds _) (dgL_ptrs _) rfl rfl (by decide) (.cons rfl Conv.any .nil)) rfl) ?_
    refine RV.step3 (OpOk.plain (ok_append (r := 100) (r' := 101) (k := some 16) (lst_elems (by decide) (dgL_ptrs _)) (by rw [dgL_length, dgL_length, lvK_length]; simp; omega) (by rw [dgL_length, dgL_length, lvK_length]; simp; omega) u_digs inf_dig rfl rfl rfl (dgL_plain _) rfl rfl rfl (by decide) rfl rfl rfl rfl rfl rfl rfl rfl) rfl) ?_
    refine RV.step1 (OpOk.plain (ok_move (.inr rfl) rfl (by decide) rfl) rfl) ?_
    refine RV.done ?_
    refine CV.region rfl (fun h => nomatch h) ?_
    refine RV.step1 (OpOk.plain (ok_move (.inl rfl) rfl (by decide) rfl) rfl) ?_
    refine RV.step1 (OpOk.plain (ok_add (c := ((k + 1 : Nat) : Int)) (by rw [wrapI (by omega) (by omega)]; omega) rfl rfl (by decide) rfl rfl) rfl) ?_
    refine RV.step1 (OpOk.plain (ok_move (.inr rfl) rfl (by decide) rfl) rfl) ?_
    refine RV.done ?_
    exact ⟨⟨k + 1, hlt⟩, Sub.mkr (fun i => if i = 100 then 101 else i) ⟨XV.le_same, XV.le_sl rfl (by rw [lvK_succ, dgL_append, List.length_append]), XV.le_row (by rw [lvK_succ, dgL_append]), fun _ _ _ _ h => h, fun _ _ _ _ h => h, trivial⟩ rfl rfl rfl rfl, by show 2 ^ h - (k + 1) < 2 ^ h - k; omega⟩
  · refine CV.exit ?_
    refine CV.seq ?_
    have hk2 : k = 2 ^ h := (by have := of_decide_eq_false hc; omega)
    subst hk2
    refine CV.freeze (r := 100) (t := 5) (G := Dm.gen (lstG (some 16) (dgL (lvK seed 0 (2 ^ h))))) (cx.bw hfr) rfl rfl rfl rfl rfl (lstG_Lst _ _) (lstG_Lst0 _ _) ?_
    refine CV.region rfl (fun h => nomatch h) ?_
    refine RV.step1 (OpOk.plain (ok_move (.inl rfl) rfl (by decide) rfl) rfl) ?_
    refine RV.step2 (OpOk.plain (ok_litR (r := 200) (k := none) (xs := [.tmp 23]) (ss := llV seed h 1) u_ldigs zs_digs rfl rfl rfl (by simp [llV, SA.kind, Dom.shape, Dm.shape, lstG]) (by simp [llV, SA.plain, Dom.plain, Dm.plain, lstG]) (llV_ptrs _ _ _) rfl rfl (by decide) (.cons rfl Conv.any .nil) rfl rfl) rfl) ?_
    refine RV.step1 (OpOk.plain (ok_move (.inr rfl) rfl (by decide) rfl) rfl) ?_
    refine RV.done ?_
    refine CV.seq ?_
    refine CV.seq ?_
    refine CV.region rfl (fun h => nomatch h) ?_
    refine RV.step1 (OpOk.plain (ok_move (.inr rfl) rfl (by decide) rfl) rfl) ?_
    refine RV.done ?_
    refine CV.block ?_
    refine CV.loop (X := {l : Nat // l ≤ h}) (fun l => [(.s 8, .av (.one (.v (.int .i64 (l.1 : Int))))), (.s 7, .av (.one (.sl 200 (llV seed h (l.1 + 1)).length))), (.b 200, .row 45 none (llV seed h (l.1 + 1))), (.s 0, .av (.one (.v (str (by8 seed))))), (.s 1, .av (.one (.v (.int .i64 (h : Int)))))]) (fun l => h - l.1) ⟨0, Nat.zero_le _⟩ (Sub.mk ⟨XV.le_rfl _, XV.le_rfl _, XV.le_row rfl, XV.le_rfl _, XV.le_rfl _, trivial⟩ rfl rfl rfl rfl) (fun l => ?_)
    obtain ⟨l, hl⟩ := l
    simp only
    refine CV.seq ?_
    refine CV.seq ?_
    refine CV.region rfl (fun h => nomatch h) ?_
    refine RV.step1 (OpOk.plain (ok_move (.inl rfl) rfl (by decide) rfl) rfl) ?_
    refine RV.step1 (OpOk.plain (ok_move (.inl rfl) rfl (by decide) rfl) rfl) ?_
    refine RV.step1 (OpOk.plain (ok_lss rfl rfl (by decide) rfl rfl) rfl) ?_
    refine RV.done ?_
    refine CV.cond rfl (fun hc2 => ?_) (fun hc2 => ?_)
    · have hll : l < h := (by have := of_decide_eq_true hc2; omega)
      have hph := pow_half hll
      have hpl : 2 ^ (h - l) ≤ 64 := pow_small (by omega)
      refine CV.skip ?_
      refine CV.seq ?_
      refine CV.block ?_
      refine CV.seq ?_
      refine CV.region rfl (fun h => nomatch h) ?_
      refine RV.step1 (OpOk.plain (ok_move (.inr rfl) rfl (by decide) rfl) rfl) ?_
      refine RV.done ?_
      refine CV.seq ?_
      refine CV.seq ?_
      refine CV.nilrow 9 300 23 (some 16) rfl rfl rfl rfl ?_
      refine CV.region rfl (fun h => nomatch h) ?_
      refine RV.step1 (OpOk.plain (ok_move (.inr rfl) rfl (by decide) rfl) rfl) ?_
      refine RV.done ?_
      refine CV.block ?_
      refine CV.loop (X := {j : Nat // j ≤ 2 ^ (h - (l + 1))}) (fun j => [(.s 10, .av (.one (.v (.int .i64 ((2 * j.1 : Nat) : Int))))), (.s 9, .av (.one (.sl 300 (dgL (lvK seed (l + 1) j.1)).length))), (.b 300, .row 23 (some 16) (dgL (lvK seed (l + 1) j.1))), (.s 8, .av (.one (.v (.int .i64 (l : Int))))), (.s 7, .av (.one (.sl 200 (llV seed h (l + 1)).length))), (.b 200, .row 45 none (llV seed h (l + 1))), (.s 0, .av (.one (.v (str (by8 seed))))), (.s 1, .av (.one (.v (.int .i64 (h : Int)))))]) (fun j => 2 ^ (h - (l + 1)) - j.1) ⟨0, Nat.zero_le _⟩ (Sub.mk ⟨XV.le_rfl _, XV.le_rfl _, XV.le_row rfl, XV.le_rfl _, XV.le_rfl _, XV.le_rfl _, XV.le_rfl _, XV.le_rfl _, trivial⟩ rfl rfl rfl rfl) (fun j => ?_)
      obtain ⟨j, hj⟩ := j
      simp only
      refine CV.seq ?_
      refine CV.seq ?_
      refine CV.region rfl (fun h => nomatch h) ?_
      refine RV.step1 (OpOk.plain (ok_move (.inl rfl) rfl (by decide) rfl) rfl) ?_
      refine RV.step1 (OpOk.plain (ok_add (c := ((2 * j + 1 : Nat) : Int)) (by rw [wrapI (by omega) (by omega)]; omega) rfl rfl (by decide) rfl rfl) rfl) ?_
      refine RV.step1 (OpOk.plain (ok_move (.inl rfl) rfl (by decide) rfl) rfl) ?_
      refine RV.step1 (OpOk.plain (ok_move (.inl rfl) rfl (by decide) rfl) rfl) ?_
      refine RV.step1 (OpOk.plain (ok_idxR (i := l) (by rw [llV_length]; omega) (Nat.le_refl _) u_ldigs sz_digs rfl rfl (by decide) rfl rfl rfl) rfl) ?_
      refine RV.step1 (OpOk.plain (ok_loadR (i := l) (llV_at (by omega)) rfl ty_digs (by decide) rfl rfl (by decide) rfl rfl) rfl) ?_
      refine RV.step1 (OpOk.plain (ok_lenL (m := 2 ^ (h - l)) (by rw [dgL_length, lvK_length]) u_digs rfl rfl (by decide) rfl) rfl) ?_
      refine RV.step1 (OpOk.plain (ok_lss rfl rfl (by decide) rfl rfl) rfl) ?_
      refine RV.done ?_
      refine CV.cond rfl (fun hc3 => ?_) (fun hc3 => ?_)
      · have hjl : 2 * j + 1 < 2 ^ (h - l) := (by have := of_decide_eq_true hc3; omega)
        refine CV.skip ?_
        refine CV.seq ?_
        refine CV.block ?_
        refine CV.region rfl (fun _ => by kernel_rfl) ?_
        refine RV.step1 (OpOk.plain (ok_move (.inl rfl) rfl (by decide) rfl) rfl) ?_
        refine RV.step1 (OpOk.plain (ok_move (.inl rfl) rfl (by decide) rfl) rfl) ?_
        refine RV.step1 (OpOk.plain (ok_move (.inl rfl) rfl (by decide) rfl) rfl) ?_
        refine RV.step1 (OpOk.plain (ok_idxR (i := l) (by rw [llV_length]; omega) (Nat.le_refl _) u_ldigs sz_digs rfl rfl (by decide) rfl rfl rfl) rfl) ?_
        refine RV.step1 (OpOk.plain (ok_loadR (i := l) (llV_at (by omega)) rfl ty_digs (by decide) rfl rfl (by decide) rfl rfl) rfl) ?_
        refine RV.step1 (OpOk.plain (ok_move (.inl rfl) rfl (by decide) rfl) rfl) ?_
        refine RV.step1 (OpOk.plain (ok_idxL (i := 2 * j) (k := some 16) (dgL_at (lvK_at (by omega))) u_digs sz_dig (by decide) rfl rfl (by decide) rfl rfl) rfl) ?_
        refine RV.step1 (OpOk.plain (ok_loadP ty_dig (by decide) rfl rfl (by decide) rfl) rfl) ?_
        refine RV.step1 (OpOk.plain (ok_move (.inl rfl) rfl (by decide) rfl) rfl) ?_
        refine RV.step1 (OpOk.plain (ok_move (.inl rfl) rfl (by decide) rfl) rfl) ?_
        refine RV.step1 (OpOk.plain (ok_idxR (i := l) (by rw [llV_length]; omega) (Nat.le_refl _) u_ldigs sz_digs rfl rfl (by decide) rfl rfl rfl) rfl) ?_
        refine RV.step1 (OpOk.plain (ok_loadR (i := l) (llV_at (by omega)) rfl ty_digs (by decide) rfl rfl (by decide) rfl rfl) rfl) ?_
        refine RV.step1 (OpOk.plain (ok_move (.inl rfl) rfl (by decide) rfl) rfl) ?_
        refine RV.step1 (OpOk.plain (ok_add (c := ((2 * j + 1 : Nat) : Int)) (by rw [wrapI (by omega) (by omega)]; omega) rfl rfl (by decide) rfl rfl) rfl) ?_
        refine RV.step1 (OpOk.plain (ok_idxL (i := 2 * j + 1) (k := some 16) (dgL_at (lvK_at (by omega))) u_digs sz_dig (by decide) rfl rfl (by decide) rfl rfl) rfl) ?_
        refine RV.step1 (OpOk.plain (ok_loadP ty_dig (by decide) rfl rfl (by decide) rfl) rfl) ?_
        refine RV.step1 (OpOk.plain (ok_call (rnode_con (Sg.nodeN seed l (2 * j)) (Sg.nodeN seed l (2 * j + 1)) (nodeN_bn _ _ _) (nodeN_bn _ _ _) (nodeN_length _ _ _) (nodeN_length _ _ _)) rfl rfl (by decide) Tryd.func41 rfl rfl (.cons rfl Conv.any (.cons rfl Conv.any .nil)) rfl hfr rfl) rfl) ?_
        refine RV.step1 (OpOk.plain (ok_litD (k := some 16) (xs := [.tmp 56]) (ss := dgL [Sg.nodeN seed (l + 1) j]) (G := Dm.gen (lstG (some 16) (dgL [Sg.nodeN seed (l + 1) j]))) (lstG_Lst _ _) u_digs zs_dig rfl rfl rfl (dgL_kinds _) (dgL_ptrs _) rfl rfl (by decide) (.cons rfl Conv.any .nil)) rfl) ?_
        refine RV.step3 (OpOk.plain (ok_append (r := 300) (r' := 301) (k := some 16) (lst_elems (by decide) (dgL_ptrs _)) (by rw [dgL_length, dgL_length, lvK_length]; simp; omega) (by rw [dgL_length, dgL_length, lvK_length]; simp; omega) u_digs inf_dig rfl rfl rfl (dgL_plain _) rfl rfl rfl (by decide) rfl rfl rfl rfl rfl rfl rfl rfl) rfl) ?_
        refine RV.step1 (OpOk.plain (ok_move (.inr rfl) rfl (by decide) rfl) rfl) ?_
        refine RV.drawn (by kernel_rfl) ?_
        refine CV.region rfl (fun h => nomatch h) ?_
        refine RV.step1 (OpOk.plain (ok_move (.inl rfl) rfl (by decide) rfl) rfl) ?_
        refine RV.step1 (OpOk.plain (ok_add (c := ((2 * (j + 1) : Nat) : Int)) (by rw [wrapI (by omega) (by omega)]; omega) rfl rfl (by decide) rfl rfl) rfl) ?_
        refine RV.step1 (OpOk.plain (ok_move (.inr rfl) rfl (by decide) rfl) rfl) ?_
        refine RV.done ?_
        exact ⟨⟨j + 1, by omega⟩, Sub.mkr (fun i => if i = 300 then 301 else i) ⟨XV.le_same, XV.le_sl rfl (by rw [lvK_succ, dgL_append, List.length_append]), XV.le_row (by rw [lvK_succ, dgL_append]), fun _ _ _ _ h => h, XV.le_sl rfl rfl, XV.le_row rfl, fun _ _ _ _ h => h, fun _ _ _ _ h => h, trivial⟩ rfl rfl rfl rfl, by show 2 ^ (h - (l + 1)) - (j + 1) < 2 ^ (h - (l + 1)) - j; omega⟩
      · refine CV.exit ?_
        refine CV.freeze (r := 300) (t := 9) (G := Dm.gen (lstG (some 16) (dgL (lvK seed (l + 1) j)))) (cx.bw hfr) rfl rfl rfl rfl rfl (lstG_Lst _ _) (lstG_Lst0 _ _) ?_
        refine CV.region rfl (fun h => nomatch h) ?_
        refine RV.step1 (OpOk.plain (ok_move (.inl rfl) rfl (by decide) rfl) rfl) ?_
        refine RV.step1 (OpOk.plain (ok_move (.inl rfl) rfl (by decide) rfl) rfl) ?_
        refine RV.step1 (OpOk.plain (ok_litD (k := none) (xs := [.tmp 60]) (ss := [DL (lvK seed (l + 1) j)]) (G := Dm.gen (lstG none [DL (lvK seed (l + 1) j)])) (lstG_Lst _ _) u_ldigs zs_digs rfl rfl rfl (by simp [SA.kind, Dom.shape, Dm.shape, lstG]) rfl rfl rfl (by decide) (.cons rfl Conv.any .nil)) rfl) ?_
        refine RV.step3 (OpOk.plain (ok_append (r := 200) (r' := 201) (k := none) (lst_elems (by decide) rfl) (by rw [llV_length]; simp; omega) (by rw [llV_length]; simp; omega) u_ldigs inf_digs rfl rfl rfl (by simp [SA.plain, Dom.plain, Dm.plain, lstG]) rfl rfl rfl (by decide) rfl rfl rfl rfl rfl rfl rfl rfl) rfl) ?_
        refine RV.step1 (OpOk.plain (ok_move (.inr rfl) rfl (by decide) rfl) rfl) ?_
        refine RV.done ?_
        refine CV.region rfl (fun h => nomatch h) ?_
        refine RV.step1 (OpOk.plain (ok_move (.inl rfl) rfl (by decide) rfl) rfl) ?_
        refine RV.step1 (OpOk.plain (ok_add (c := ((l + 1 : Nat) : Int)) (by rw [wrapI (by omega) (by omega)]; omega) rfl rfl (by decide) rfl rfl) rfl) ?_
        refine RV.step1 (OpOk.plain (ok_move (.inr rfl) rfl (by decide) rfl) rfl) ?_
        refine RV.done ?_
        have hj2 : j = 2 ^ (h - (l + 1)) := (by have := of_decide_eq_false hc3; have := pow_half hll; omega)
        subst hj2
        exact ⟨⟨l + 1, hll⟩, Sub.mkr (fun i => if i = 200 then 201 else i) ⟨XV.le_same, XV.le_sl rfl (by rw [llV_succ _ _ (l + 1), List.length_append]), XV.le_row (by rw [llV_succ _ _ (l + 1)]), fun _ _ _ _ h => h, fun _ _ _ _ h => h, trivial⟩ rfl rfl rfl rfl, by show h - (l + 1) < h - l; omega⟩
    · refine CV.exit ?_
      refine CV.seq ?_
      have hlh : l = h := (by have := of_decide_eq_false hc2; omega)
      subst hlh
      refine CV.freeze (r := 200) (t := 7) (G := Dm.gen (lstG none (llV seed l (l + 1)))) (cx.bw hfr) rfl rfl rfl rfl rfl (lstG_Lst _ _) (lstG_Lst0 _ _) ?_
      refine CV.region rfl (fun h => nomatch h) ?_
      refine RV.step1 (OpOk.plain (ok_move (.inl rfl) rfl (by decide) rfl) rfl) ?_
      refine RV.step1 (OpOk.plain (ok_move (.inr rfl) rfl (by decide) rfl) rfl) ?_
      refine RV.done ?_
      refine CV.ret ?_
      exact fin1 rfl (.inr rfl) rfl is_rfl
abbrev EV (e : Int) : SA Dm := .v (.int .i64 e)
theorem dg_zero : ∀ L ρ w v, (SA.v zeroDig : SA Dm).is L ρ w v → (DG (by8 (List.replicate 16 0))).is L ρ w v := by
  intro L ρ w v h
  exact is_dg (l := List.replicate 16 0) (by intro x hx; rw [List.eq_of_mem_replicate hx]; decide) (by simp) L ρ w v h
theorem ok_buildD {cx : Cx Dm} {n : Nat} {σ : St Dm} {o : Oper} {d : Nat} (ho : o.op = .build 23 #[]) (hd : o.dst = some d) (hn : d < n) : OpOk Tryd.prog cx n σ o [] [(.s d, .av (.one (.v zeroDig)))] := by
  refine ok_read hd hn rfl fun σ' ρ a w h hk => ⟨zeroDig, ?_, rfl⟩
  have hb2 := run_build w 23 #[] _ (show Tryd.prog.built 23 (#[] : Array (Nat × Value)).toList = some (Array.replicate 16 (.int .u8 0)) by kernel_rfl)
  simp only [execOp, ho, Sem.run_bind]
  rw [show (#[] : Array (Nat × Operand)).map (fun p => (p.1, a.eval p.2)) = #[] by simp, hb2]
  rfl
set_option maxRecDepth 100000 in
theorem rPublic_con (seed : List Nat) (h : Nat) (hs : Bn seed) (ls : seed.length = 32) (hh : h ≤ 6) : Con Tryd.prog 13 [(.v (str (by8 seed)) : SA Dm), .v (.int .i64 (h : Int))] (.tup [DG (by8 (Sg.nodeN seed h 0)), EV 0]) := by
  refine Con.of (n := 21) Tryd.func13 rfl rfl rfl rfl rfl fun cx hfr => ?_
  refine CV.seq ?_
  refine CV.region rfl (fun h => nomatch h) ?_
  refine RV.step2 (OpOk.plain (ok_alloc (i := 0) rfl rfl (by decide) zero_dig rfl rfl rfl rfl) rfl) ?_
  refine RV.step1 (OpOk.plain (ok_move (.inr rfl) rfl (by decide) rfl) rfl) ?_
  refine RV.done ?_
  refine CV.seq ?_
  refine CV.region rfl (fun h => nomatch h) ?_
  refine RV.step1 (OpOk.plain (ok_move (.inl rfl) rfl (by decide) rfl) rfl) ?_
  refine RV.step1 (OpOk.plain (ok_move (.inl rfl) rfl (by decide) rfl) rfl) ?_
  refine RV.step1 (OpOk.plain (ok_call (fits_con seed (h : Int)) rfl rfl (by decide) Tryd.func23 rfl rfl (.cons rfl Conv.any (.cons rfl Conv.any .nil)) rfl hfr rfl) rfl) ?_
  refine RV.step1 (OpOk.plain (ok_move (.inr rfl) rfl (by decide) rfl) rfl) ?_
  refine RV.done ?_
  refine CV.seq ?_
  refine CV.seq ?_
  refine CV.region rfl (fun h => nomatch h) ?_
  refine RV.step1 (OpOk.plain (ok_move (.inl rfl) rfl (by decide) rfl) rfl) ?_
  refine RV.step1 (OpOk.plain (ok_not rfl rfl (by decide) rfl) rfl) ?_
  refine RV.done ?_
  refine CV.cond rfl (fun hc => False.elim (by simp at hc; omega)) (fun hc => ?_)
  refine CV.skip ?_
  refine CV.seq ?_
  refine CV.region rfl (fun h => nomatch h) ?_
  refine RV.step1 (OpOk.plain (ok_move (.inl rfl) rfl (by decide) rfl) rfl) ?_
  refine RV.step1 (OpOk.plain (ok_move (.inl rfl) rfl (by decide) rfl) rfl) ?_
  refine RV.step1 (OpOk.plain (ok_call (rlevels_con seed h hs (by omega) hh) rfl rfl (by decide) Tryd.func24 rfl rfl (.cons rfl Conv.any (.cons rfl Conv.any .nil)) rfl hfr rfl) rfl) ?_
  refine RV.step1 (OpOk.plain (ok_move (.inl rfl) rfl (by decide) rfl) rfl) ?_
  refine RV.step1 (OpOk.plain (ok_idxL (i := h) (k := none) (llV_at (by omega)) u_ldigs sz_digs (by decide) rfl rfl (by decide) rfl rfl) rfl) ?_
  refine RV.step1 (OpOk.plain (ok_loadP ty_digs (by decide) rfl rfl (by decide) rfl) rfl) ?_
  refine RV.step1 (OpOk.plain (ok_idxL (i := 0) (k := some 16) (dgL_at (lvK_at (by rw [Nat.sub_self]; decide))) u_digs sz_dig (by decide) rfl rfl (by decide) rfl rfl) rfl) ?_
  refine RV.step1 (OpOk.plain (ok_loadP ty_dig (by decide) rfl rfl (by decide) rfl) rfl) ?_
  refine RV.step1 (OpOk.plain (ok_store rfl rfl rfl rfl rfl rfl rfl (ty_dig).2 rfl rfl rfl rfl) rfl) ?_
  refine RV.step1 (OpOk.plain (ok_move (.inr rfl) rfl (by decide) rfl) rfl) ?_
  refine RV.done ?_
  refine CV.ret ?_
  exact fin2 rfl (.inr rfl) ⟨_, _, _, _, _, rfl, rfl, rfl, ty_dig⟩ rfl is_rfl2
set_option maxRecDepth 100000 in
theorem rPublic_bad (seed : List Nat) (h : Int) (hb : ¬ (seed.length = 32 ∧ 0 ≤ h ∧ h ≤ 6)) : Con Tryd.prog 13 [(.v (str (by8 seed)) : SA Dm), .v (.int .i64 h)] (.tup [DG (by8 (List.replicate 16 0)), EV 1]) := by
  refine Con.of (n := 21) Tryd.func13 rfl rfl rfl rfl rfl fun cx hfr => ?_
  refine CV.seq ?_
  refine CV.region rfl (fun h => nomatch h) ?_
  refine RV.step2 (OpOk.plain (ok_alloc (i := 0) rfl rfl (by decide) zero_dig rfl rfl rfl rfl) rfl) ?_
  refine RV.step1 (OpOk.plain (ok_move (.inr rfl) rfl (by decide) rfl) rfl) ?_
  refine RV.done ?_
  refine CV.seq ?_
  refine CV.region rfl (fun h => nomatch h) ?_
  refine RV.step1 (OpOk.plain (ok_move (.inl rfl) rfl (by decide) rfl) rfl) ?_
  refine RV.step1 (OpOk.plain (ok_move (.inl rfl) rfl (by decide) rfl) rfl) ?_
  refine RV.step1 (OpOk.plain (ok_call (fits_con seed h) rfl rfl (by decide) Tryd.func23 rfl rfl (.cons rfl Conv.any (.cons rfl Conv.any .nil)) rfl hfr rfl) rfl) ?_
  refine RV.step1 (OpOk.plain (ok_move (.inr rfl) rfl (by decide) rfl) rfl) ?_
  refine RV.done ?_
  refine CV.seq ?_
  refine CV.seq ?_
  refine CV.region rfl (fun h => nomatch h) ?_
  refine RV.step1 (OpOk.plain (ok_move (.inl rfl) rfl (by decide) rfl) rfl) ?_
  refine RV.step1 (OpOk.plain (ok_not rfl rfl (by decide) rfl) rfl) ?_
  refine RV.done ?_
  refine CV.cond rfl (fun hc => ?_) (fun hc => False.elim (by simp at hc; omega))
  refine CV.seq ?_
  refine CV.region rfl (fun h => nomatch h) ?_
  refine RV.step1 (OpOk.plain (ok_buildD rfl rfl (by decide)) rfl) ?_
  refine RV.step1 (OpOk.plain (ok_store rfl rfl rfl rfl rfl rfl rfl (ty_dig).2 rfl rfl rfl rfl) rfl) ?_
  refine RV.step1 (OpOk.plain (ok_move (.inr rfl) rfl (by decide) rfl) rfl) ?_
  refine RV.done ?_
  refine CV.ret ?_
  exact fin2 rfl (.inr rfl) ⟨_, _, _, _, _, rfl, rfl, rfl, ty_dig⟩ rfl (is_pair dg_zero fun _ _ _ _ h => h)

/-! The reference's signature. -/
/-- The first k values of the chains, as bytes. -/
def chV (seed : List Nat) (key : Nat) (ds : List Nat) (c : Nat) : List Nat := Sg.advN key c 0 (ds.getD c 0) (Sg.startN seed key c)
theorem chV_length (seed : List Nat) (key : Nat) (ds : List Nat) (c : Nat) : (chV seed key ds c).length = 16 := Sg.advN_length _ _ _ _ _ (startN_length _ _ _)
theorem chV_bn (seed : List Nat) (key : Nat) (ds : List Nat) (c : Nat) : Bn (chV seed key ds c) := Sg.advN_bn _ _ _ _ _ (startN_bn _ _ _)
/-- The neighbour on a level. -/
def sideV (seed : List Nat) (i l : Nat) : List Nat := Sg.nodeN seed l (Sg.nextTo (i / 2 ^ l))
theorem sideV_length (seed : List Nat) (i l : Nat) : (sideV seed i l).length = 16 := nodeN_length _ _ _
theorem sideV_bn (seed : List Nat) (i l : Nat) : Bn (sideV seed i l) := nodeN_bn _ _ _
theorem signN_eq (seed : List Nat) (h i : Nat) (msg : List Nat) : Sg.signN seed h i msg = Sg.intN i ++ topsN (chV seed i (Sg.digitsN (Sg.digestN (Sg.nodeN seed h 0) i msg))) 68 ++ topsN (sideV seed i) h := rfl
theorem str_next (P : List Nat) (g : Nat → List Nat) (k : Nat) : by8 (P ++ topsN g k) ++ by8 (g k) = by8 (P ++ topsN g (k + 1)) := by
  rw [topsN_succ, ← by8_append, List.append_assoc]
theorem digN_le {d : List Nat} (hl : d.length = 16) (hd : Bn d) (c : Nat) : (Sg.digitsN d).getD c 0 ≤ 3 := by
  rcases Nat.lt_or_ge c (Sg.digitsN d).length with h | h
  · rw [List.getD_eq_getElem?_getD, List.getElem?_eq_getElem h, Option.getD_some]
    exact Sg.digitsN_le hl hd _ (List.getElem_mem _)
  · rw [List.getD_eq_getElem?_getD, List.getElem?_eq_none h]; decide
theorem digestN_length (p : List Nat) (i : Int) (m : List Nat) : (Sg.digestN p i m).length = 16 := Sg.ofL_length _ _
theorem digestN_bn (p : List Nat) (i : Int) (m : List Nat) : Bn (Sg.digestN p i m) := Sg.ofL_bn _ _
theorem path_lt {i h l : Nat} (hi : i < 2 ^ h) (hl : l < h) : i / 2 ^ l < 2 ^ (h - l) := by
  rw [Nat.div_lt_iff_lt_mul (Nat.pow_pos (by decide)), ← Nat.pow_add, show h - l + l = h by omega]
  exact hi
theorem next_lt {q h l : Nat} (hl : l < h) (hq : q < 2 ^ (h - l)) : Sg.nextTo q < 2 ^ (h - l) := by
  rw [pow_half hl] at *
  unfold Sg.nextTo
  split <;> omega
theorem half_pow (i l : Nat) : i / 2 ^ l / 2 = i / 2 ^ (l + 1) := by rw [Nat.div_div_eq_div_mul, Nat.pow_succ]
theorem wrap_succ (q : Nat) (hq : q ≤ 1000) : IntKind.i64.wrap ((q : Int) + 1) = (q : Int) + 1 := wrapI (by omega) (by omega)
theorem next_odd {q : Nat} (h1 : q % 2 = 1) (hq : q ≤ 1000) : IntKind.i64.wrap ((q : Int) - 1) = ((Sg.nextTo q : Nat) : Int) := by
  unfold Sg.nextTo
  rw [if_pos h1, wrapI (by omega) (by omega)]
  omega
theorem next_even {q : Nat} (h1 : ¬ q % 2 = 1) : (q : Int) + 1 = ((Sg.nextTo q : Nat) : Int) := by
  unfold Sg.nextTo
  rw [if_neg h1]
  omega
theorem topsN_zero (g : Nat → List Nat) : topsN g 0 = [] := rfl
set_option maxRecDepth 100000 in
theorem rSign_con (seed : List Nat) (h i : Nat) (msg : List Nat) (hs : Bn seed) (ls : seed.length = 32) (hh : h ≤ 6) (hi : i < 2 ^ h) (hm : Bn msg) (lm : msg.length ≤ 2000) : Con Tryd.prog 15 [(.v (str (by8 seed)) : SA Dm), .v (.int .i64 (h : Int)), .v (.int .i64 (i : Int)), .v (str (by8 msg))] (.tup [.v (str (by8 (Sg.signN seed h i msg))), EV 0]) := by
  have hp64 := pow_small hh
  have hdl := digestN_length (Sg.nodeN seed h 0) (i : Int) msg
  have hdb := digestN_bn (Sg.nodeN seed h 0) (i : Int) msg
  have hin := intN_le (i : Int)
  refine Con.of (n := 94) Tryd.func15 rfl rfl rfl rfl rfl fun cx hfr => ?_
  refine CV.seq ?_
  refine CV.region rfl (fun h => nomatch h) ?_
  refine RV.step1 (OpOk.plain (ok_move (.inr rfl) rfl (by decide) rfl) rfl) ?_
  refine RV.step1 (OpOk.plain (ok_move (.inr rfl) rfl (by decide) rfl) rfl) ?_
  refine RV.done ?_
  refine CV.seq ?_
  refine CV.region rfl (fun h => nomatch h) ?_
  refine RV.step1 (OpOk.plain (ok_move (.inl rfl) rfl (by decide) rfl) rfl) ?_
  refine RV.step1 (OpOk.plain (ok_move (.inl rfl) rfl (by decide) rfl) rfl) ?_
  refine RV.step1 (OpOk.plain (ok_call (fits_con seed (h : Int)) rfl rfl (by decide) Tryd.func23 rfl rfl (.cons rfl Conv.any (.cons rfl Conv.any .nil)) rfl hfr rfl) rfl) ?_
  refine RV.step1 (OpOk.plain (ok_move (.inr rfl) rfl (by decide) rfl) rfl) ?_
  refine RV.done ?_
  refine CV.seq ?_
  refine CV.seq ?_
  refine CV.region rfl (fun h => nomatch h) ?_
  refine RV.step1 (OpOk.plain (ok_move (.inl rfl) rfl (by decide) rfl) rfl) ?_
  refine RV.step1 (OpOk.plain (ok_not rfl rfl (by decide) rfl) rfl) ?_
  refine RV.done ?_
  refine CV.cond rfl (fun hc => False.elim (by simp at hc; omega)) (fun hc => ?_)
  refine CV.skip ?_
  refine CV.seq ?_
  refine CV.seq ?_
  refine CV.region rfl (fun h => nomatch h) ?_
  refine RV.step1 (OpOk.plain (ok_move (.inl rfl) rfl (by decide) rfl) rfl) ?_
  refine RV.step1 (OpOk.plain (ok_lss rfl rfl (by decide) rfl rfl) rfl) ?_
  refine RV.step1 (OpOk.plain (ok_move (.inl rfl) rfl (by decide) rfl) rfl) ?_
  refine RV.bool (fun hb => False.elim (by simp at hb; omega)) (fun hb => ?_)
  refine RV.step1 (OpOk.yes (ok_move (.inl rfl) rfl (by decide) rfl) rfl rfl rfl) ?_
  refine RV.step1 (OpOk.yes (ok_move (.inl rfl) rfl (by decide) rfl) rfl rfl rfl) ?_
  refine RV.step1 (OpOk.yes (ok_shl (j := h) (c := ((2 ^ h : Nat) : Int)) (by omega) (shl_small hh) rfl rfl (by decide) rfl rfl) rfl rfl rfl) ?_
  refine RV.step1 (OpOk.yes (ok_geq rfl rfl (by decide) rfl rfl) rfl rfl rfl) ?_
  refine RV.step1 (OpOk.plain (ok_pickF rfl rfl (by decide) rfl rfl rfl) rfl) ?_
  refine RV.done ?_
  refine CV.cond rfl (fun hc => False.elim (by have hc' := of_decide_eq_true hc; omega)) (fun hc => ?_)
  refine CV.skip ?_
  refine CV.seq ?_
  refine CV.seq ?_
  refine CV.region rfl (fun h => nomatch h) ?_
  refine RV.step1 (OpOk.plain (ok_move (.inl rfl) rfl (by decide) rfl) rfl) ?_
  refine RV.step1 (OpOk.plain (ok_lenT (by8_length msg) u_str rfl rfl (by decide) rfl) rfl) ?_
  refine RV.step1 (OpOk.plain (ok_gtr rfl rfl (by decide) rfl rfl) rfl) ?_
  refine RV.done ?_
  refine CV.cond rfl (fun hc => False.elim (by simp at hc; omega)) (fun hc => ?_)
  refine CV.skip ?_
  refine CV.seq ?_
  refine CV.region rfl (fun h => nomatch h) ?_
  refine RV.step1 (OpOk.plain (ok_move (.inl rfl) rfl (by decide) rfl) rfl) ?_
  refine RV.step1 (OpOk.plain (ok_move (.inl rfl) rfl (by decide) rfl) rfl) ?_
  refine RV.step1 (OpOk.plain (ok_call (rlevels_con seed h hs (by omega) hh) rfl rfl (by decide) Tryd.func24 rfl rfl (.cons rfl Conv.any (.cons rfl Conv.any .nil)) rfl hfr rfl) rfl) ?_
  refine RV.step1 (OpOk.plain (ok_move (.inr rfl) rfl (by decide) rfl) rfl) ?_
  refine RV.done ?_
  refine CV.seq ?_
  refine CV.region rfl (fun h => nomatch h) ?_
  refine RV.step1 (OpOk.plain (ok_move (.inl rfl) rfl (by decide) rfl) rfl) ?_
  refine RV.step1 (OpOk.plain (ok_move (.inl rfl) rfl (by decide) rfl) rfl) ?_
  refine RV.step1 (OpOk.plain (ok_idxL (i := h) (k := none) (llV_at (by omega)) u_ldigs sz_digs (by decide) rfl rfl (by decide) rfl rfl) rfl) ?_
  refine RV.step1 (OpOk.plain (ok_loadP ty_digs (by decide) rfl rfl (by decide) rfl) rfl) ?_
  refine RV.step1 (OpOk.plain (ok_idxL (i := 0) (k := some 16) (dgL_at (lvK_at (by rw [Nat.sub_self]; decide))) u_digs sz_dig (by decide) rfl rfl (by decide) rfl rfl) rfl) ?_
  refine RV.step1 (OpOk.plain (ok_loadP ty_dig (by decide) rfl rfl (by decide) rfl) rfl) ?_
  refine RV.step1 (OpOk.plain (ok_move (.inl rfl) rfl (by decide) rfl) rfl) ?_
  refine RV.step1 (OpOk.plain (ok_move (.inl rfl) rfl (by decide) rfl) rfl) ?_
  refine RV.step1 (OpOk.plain (ok_call (rDigest_con (Sg.nodeN seed h 0) msg (i : Int) (nodeN_bn _ _ _) (nodeN_length _ _ _) hm lm (by omega) (by omega)) rfl rfl (by decide) Tryd.func17 rfl rfl (.cons rfl Conv.any (.cons rfl Conv.any (.cons rfl Conv.any .nil))) rfl hfr rfl) rfl) ?_
  refine RV.step1 (OpOk.plain (ok_call (rDigits_con (Sg.digestN (Sg.nodeN seed h 0) (i : Int) msg) hdb hdl) rfl rfl (by decide) Tryd.func11 rfl rfl (.cons rfl Conv.any .nil) rfl hfr rfl) rfl) ?_
  refine RV.step1 (OpOk.plain (ok_move (.inr rfl) rfl (by decide) rfl) rfl) ?_
  refine RV.done ?_
  refine CV.seq ?_
  refine CV.region rfl (fun h => nomatch h) ?_
  refine RV.step1 (OpOk.plain (ok_move (.inl rfl) rfl (by decide) rfl) rfl) ?_
  refine RV.step1 (OpOk.plain (ok_callRowD (G := Dm.gen (lstG none (byV (by8 (Sg.intN (i : Int)))))) (rInt_row (i : Int) (by omega) (by omega)) (byV_vals _) (lstG_Lst none _) (lstG_Lst0 none _) rfl rfl (by decide) Tryd.func30 rfl rfl (.cons rfl Conv.any .nil)) rfl) ?_
  refine RV.step1 (OpOk.plain (ok_b2s u_bytes u_u8 u_str rfl rfl (by decide) rfl) rfl) ?_
  refine RV.step1 (OpOk.plain (ok_move (.inr rfl) rfl (by decide) rfl) rfl) ?_
  refine RV.done ?_
  refine CV.seq ?_
  refine CV.seq ?_
  generalize hD : Sg.digitsN (Sg.digestN (Sg.nodeN seed h 0) (i : Int) msg) = D
  have hD3 : ∀ c, D.getD c 0 ≤ 3 := (fun c => by rw [← hD]; exact digN_le hdl hdb c)
  have hDl : D.length = 68 := (by rw [← hD]; exact Sg.digitsN_length hdl)
  refine CV.region rfl (fun h => nomatch h) ?_
  refine RV.step1 (OpOk.plain (ok_move (.inr rfl) rfl (by decide) rfl) rfl) ?_
  refine RV.done ?_
  refine CV.block ?_
  refine CV.loop (X := {c : Nat // c ≤ 68}) (fun c => [(.s 14, .av (.one (.v (.int .i64 (c.1 : Int))))), (.s 13, .av (.one (.v (str (by8 (Sg.intN (i : Int) ++ topsN (chV seed i D) c.1)))))), (.s 12, .av (.one (DZ D))), (.s 11, .av (.one (LLD seed h))), (.s 0, .av (.one (.v (str (by8 seed))))), (.s 1, .av (.one (.v (.int .i64 (h : Int))))), (.s 2, .av (.one (.v (.int .i64 (i : Int)))))]) (fun c => 68 - c.1) ⟨0, Nat.zero_le _⟩ (Sub.mk ⟨XV.le_rfl _, XV.le_of (by rw [topsN_zero, List.append_nil]; rfl), XV.le_rfl _, XV.le_rfl _, XV.le_rfl _, XV.le_rfl _, XV.le_rfl _, trivial⟩ rfl rfl) (fun c => ?_)
  obtain ⟨c, hc4⟩ := c
  simp only
  refine CV.seq ?_
  refine CV.seq ?_
  refine CV.region rfl (fun h => nomatch h) ?_
  refine RV.step1 (OpOk.plain (ok_move (.inl rfl) rfl (by decide) rfl) rfl) ?_
  refine RV.step1 (OpOk.plain (ok_lss rfl rfl (by decide) rfl rfl) rfl) ?_
  refine RV.done ?_
  refine CV.cond rfl (fun hc => ?_) (fun hc => ?_)
  · have hlt : c < 68 := (by have := of_decide_eq_true hc; omega)
    have hc3 := hD3 c
    refine CV.skip ?_
    refine CV.seq ?_
    refine CV.block ?_
    refine CV.region rfl (fun _ => by kernel_rfl) ?_
    refine RV.step1 (OpOk.plain (ok_move (.inl rfl) rfl (by decide) rfl) rfl) ?_
    refine RV.step1 (OpOk.plain (ok_move (.inl rfl) rfl (by decide) rfl) rfl) ?_
    refine RV.step1 (OpOk.plain (ok_move (.inl rfl) rfl (by decide) rfl) rfl) ?_
    refine RV.step1 (OpOk.plain (ok_move (.inl rfl) rfl (by decide) rfl) rfl) ?_
    refine RV.step1 (OpOk.plain (ok_move (.inl rfl) rfl (by decide) rfl) rfl) ?_
    refine RV.step1 (OpOk.plain (ok_idxL (i := c) (k := none) (dzV_at (by omega)) u_ints sz_i64 (by decide) rfl rfl (by decide) rfl rfl) rfl) ?_
    refine RV.step1 (OpOk.plain (ok_loadP ty_i64 (by decide) rfl rfl (by decide) rfl) rfl) ?_
    refine RV.step1 (OpOk.plain (ok_move (.inl rfl) rfl (by decide) rfl) rfl) ?_
    refine RV.step1 (OpOk.plain (ok_move (.inl rfl) rfl (by decide) rfl) rfl) ?_
    refine RV.step1 (OpOk.plain (ok_move (.inl rfl) rfl (by decide) rfl) rfl) ?_
    refine RV.step1 (OpOk.plain (ok_call (rstart_con seed i c hs (by omega) (by omega) (by omega)) rfl rfl (by decide) Tryd.func33 rfl rfl (.cons rfl Conv.any (.cons rfl Conv.any (.cons rfl Conv.any .nil))) rfl hfr rfl) rfl) ?_
    refine RV.step1 (OpOk.plain (ok_call (radvance_con (Sg.startN seed i c) i c 0 (D.getD c 0) (startN_bn _ _ _) (startN_length _ _ _) (by omega) (by omega) (Nat.zero_le _) (by omega)) rfl rfl (by decide) Tryd.func32 rfl rfl (.cons rfl Conv.any (.cons rfl Conv.any (.cons rfl Conv.any (.cons rfl Conv.any (.cons rfl Conv.any .nil))))) rfl hfr rfl) rfl) ?_
    refine RV.step1 (OpOk.plain (ok_call (Text_con (chV seed i D c) (chV_bn _ _ _ _) (chV_length _ _ _ _)) rfl rfl (by decide) Tryd.func31 rfl rfl (.cons rfl Conv.any .nil) rfl hfr rfl) rfl) ?_
    refine RV.step1 (OpOk.plain (ok_catT (u := by8 (Sg.intN (i : Int) ++ topsN (chV seed i D) c)) (v := by8 (chV seed i D c)) (by rw [by8_length, by8_length, List.length_append, topsN_length _ (chV_length seed i D), chV_length]; omega) rfl rfl (by decide) rfl rfl) rfl) ?_
    refine RV.step1 (OpOk.plain (ok_move (.inr rfl) rfl (by decide) rfl) rfl) ?_
    refine RV.drawn (by kernel_rfl) ?_
    refine CV.region rfl (fun h => nomatch h) ?_
    refine RV.step1 (OpOk.plain (ok_move (.inl rfl) rfl (by decide) rfl) rfl) ?_
    refine RV.step1 (OpOk.plain (ok_add (c := ((c + 1 : Nat) : Int)) (by rw [wrapI (by omega) (by omega)]; omega) rfl rfl (by decide) rfl rfl) rfl) ?_
    refine RV.step1 (OpOk.plain (ok_move (.inr rfl) rfl (by decide) rfl) rfl) ?_
    refine RV.done ?_
    rw [str_next]
    exact ⟨⟨c + 1, hlt⟩, Sub.mk ⟨XV.le_rfl _, XV.le_rfl _, XV.le_rfl _, XV.le_rfl _, XV.le_rfl _, XV.le_rfl _, XV.le_rfl _, trivial⟩ rfl rfl, by show 68 - (c + 1) < 68 - c; omega⟩
  · refine CV.exit ?_
    refine CV.seq ?_
    have hc68 : c = 68 := (by have := of_decide_eq_false hc; omega)
    subst hc68
    refine CV.region rfl (fun h => nomatch h) ?_
    refine RV.step1 (OpOk.plain (ok_move (.inl rfl) rfl (by decide) rfl) rfl) ?_
    refine RV.step1 (OpOk.plain (ok_move (.inr rfl) rfl (by decide) rfl) rfl) ?_
    refine RV.done ?_
    refine CV.seq ?_
    refine CV.seq ?_
    refine CV.region rfl (fun h => nomatch h) ?_
    refine RV.step1 (OpOk.plain (ok_move (.inr rfl) rfl (by decide) rfl) rfl) ?_
    refine RV.done ?_
    refine CV.block ?_
    refine CV.loop (X := {l : Nat // l ≤ h}) (fun l => [(.s 16, .av (.one (.v (.int .i64 (l.1 : Int))))), (.s 15, .av (.one (.v (.int .i64 ((i / 2 ^ l.1 : Nat) : Int))))), (.s 13, .av (.one (.v (str (by8 (Sg.intN (i : Int) ++ topsN (chV seed i D) 68 ++ topsN (sideV seed i) l.1)))))), (.s 11, .av (.one (LLD seed h))), (.s 1, .av (.one (.v (.int .i64 (h : Int)))))]) (fun l => h - l.1) ⟨0, Nat.zero_le _⟩ (Sub.mk ⟨XV.le_rfl _, XV.le_of (by rw [Nat.pow_zero, Nat.div_one]; rfl), XV.le_of (by rw [topsN_zero, List.append_nil]; rfl), XV.le_rfl _, XV.le_rfl _, trivial⟩ rfl rfl) (fun l => ?_)
    obtain ⟨l, hl⟩ := l
    simp only
    refine CV.seq ?_
    refine CV.seq ?_
    refine CV.region rfl (fun h => nomatch h) ?_
    refine RV.step1 (OpOk.plain (ok_move (.inl rfl) rfl (by decide) rfl) rfl) ?_
    refine RV.step1 (OpOk.plain (ok_move (.inl rfl) rfl (by decide) rfl) rfl) ?_
    refine RV.step1 (OpOk.plain (ok_lss rfl rfl (by decide) rfl rfl) rfl) ?_
    refine RV.done ?_
    refine CV.cond rfl (fun hc2 => ?_) (fun hc2 => ?_)
    · have hll : l < h := (by have := of_decide_eq_true hc2; omega)
      have hq := path_lt hi hll
      have hq2 : i / 2 ^ l ≤ i := Nat.div_le_self _ _
      have hn := next_lt hll hq
      refine CV.skip ?_
      refine CV.seq ?_
      refine CV.block ?_
      refine CV.seq ?_
      refine CV.region rfl (fun h => nomatch h) ?_
      refine RV.step1 (OpOk.plain (ok_move (.inl rfl) rfl (by decide) rfl) rfl) ?_
      refine RV.step1 (OpOk.plain (ok_add (c := ((i / 2 ^ l : Nat) : Int) + 1) (wrap_succ _ (by omega)) rfl rfl (by decide) rfl rfl) rfl) ?_
      refine RV.step1 (OpOk.plain (ok_move (.inr rfl) rfl (by decide) rfl) rfl) ?_
      refine RV.done ?_
      refine CV.seq ?_
      refine CV.seq ?_
      refine CV.region rfl (fun h => nomatch h) ?_
      refine RV.step1 (OpOk.plain (ok_move (.inl rfl) rfl (by decide) rfl) rfl) ?_
      refine RV.step1 (OpOk.plain (ok_remN (m := i / 2 ^ l) (q := 2) (by decide) rfl rfl (by decide) rfl rfl) rfl) ?_
      refine RV.step1 (OpOk.plain (ok_eql rfl rfl (by decide) rfl rfl) rfl) ?_
      refine RV.done ?_
      refine CV.cond rfl (fun hc3 => ?_) (fun hc3 => ?_)
      · have h1 : i / 2 ^ l % 2 = 1 := (by have := eq_of_beq hc3; omega)
        refine CV.region rfl (fun h => nomatch h) ?_
        refine RV.step1 (OpOk.plain (ok_move (.inl rfl) rfl (by decide) rfl) rfl) ?_
        refine RV.step1 (OpOk.plain (ok_sub (c := ((Sg.nextTo (i / 2 ^ l) : Nat) : Int)) (next_odd h1 (by omega)) rfl rfl (by decide) rfl rfl) rfl) ?_
        refine RV.step1 (OpOk.plain (ok_move (.inr rfl) rfl (by decide) rfl) rfl) ?_
        refine RV.done ?_
        refine CV.seq ?_
        have := hq
        refine CV.region rfl (fun h => nomatch h) ?_
        refine RV.step1 (OpOk.plain (ok_move (.inl rfl) rfl (by decide) rfl) rfl) ?_
        refine RV.step1 (OpOk.plain (ok_move (.inl rfl) rfl (by decide) rfl) rfl) ?_
        refine RV.step1 (OpOk.plain (ok_move (.inl rfl) rfl (by decide) rfl) rfl) ?_
        refine RV.step1 (OpOk.plain (ok_idxL (i := l) (k := none) (llV_at (by omega)) u_ldigs sz_digs (by decide) rfl rfl (by decide) rfl rfl) rfl) ?_
        refine RV.step1 (OpOk.plain (ok_loadP ty_digs (by decide) rfl rfl (by decide) rfl) rfl) ?_
        refine RV.step1 (OpOk.plain (ok_move (.inl rfl) rfl (by decide) rfl) rfl) ?_
        refine RV.step1 (OpOk.plain (ok_idxL (i := Sg.nextTo (i / 2 ^ l)) (k := some 16) (dgL_at (lvK_at hn)) u_digs sz_dig (by decide) rfl rfl (by decide) rfl rfl) rfl) ?_
        refine RV.step1 (OpOk.plain (ok_loadP ty_dig (by decide) rfl rfl (by decide) rfl) rfl) ?_
        refine RV.step1 (OpOk.plain (ok_call (Text_con (sideV seed i l) (sideV_bn _ _ _) (sideV_length _ _ _)) rfl rfl (by decide) Tryd.func31 rfl rfl (.cons rfl Conv.any .nil) rfl hfr rfl) rfl) ?_
        refine RV.step1 (OpOk.plain (ok_catT (u := by8 (Sg.intN (i : Int) ++ topsN (chV seed i D) 68 ++ topsN (sideV seed i) l)) (v := by8 (sideV seed i l)) (by rw [by8_length, by8_length, List.length_append, List.length_append, topsN_length _ (chV_length seed i D), topsN_length _ (sideV_length seed i), sideV_length]; omega) rfl rfl (by decide) rfl rfl) rfl) ?_
        refine RV.step1 (OpOk.plain (ok_move (.inr rfl) rfl (by decide) rfl) rfl) ?_
        refine RV.done ?_
        refine CV.region rfl (fun h => nomatch h) ?_
        refine RV.step1 (OpOk.plain (ok_move (.inl rfl) rfl (by decide) rfl) rfl) ?_
        refine RV.step1 (OpOk.plain (ok_quoN (m := i / 2 ^ l) (q := 2) (by decide) (by omega) rfl rfl (by decide) rfl rfl) rfl) ?_
        refine RV.step1 (OpOk.plain (ok_move (.inr rfl) rfl (by decide) rfl) rfl) ?_
        refine RV.done ?_
        refine CV.region rfl (fun h => nomatch h) ?_
        refine RV.step1 (OpOk.plain (ok_move (.inl rfl) rfl (by decide) rfl) rfl) ?_
        refine RV.step1 (OpOk.plain (ok_add (c := ((l + 1 : Nat) : Int)) (by rw [wrapI (by omega) (by omega)]; omega) rfl rfl (by decide) rfl rfl) rfl) ?_
        refine RV.step1 (OpOk.plain (ok_move (.inr rfl) rfl (by decide) rfl) rfl) ?_
        refine RV.done ?_
        rw [str_next, half_pow]
        exact ⟨⟨l + 1, hll⟩, Sub.mk ⟨XV.le_rfl _, XV.le_rfl _, XV.le_rfl _, XV.le_rfl _, XV.le_rfl _, trivial⟩ rfl rfl, by show h - (l + 1) < h - l; omega⟩
      · have h1 : ¬ i / 2 ^ l % 2 = 1 := (fun h => by rw [h] at hc3; exact absurd hc3 (by decide))
        have hF : ((i / 2 ^ l : Nat) : Int) + 1 = ((Sg.nextTo (i / 2 ^ l) : Nat) : Int) := next_even h1
        refine CV.skip ?_
        refine CV.seq ?_
        rw [hF]
        refine CV.region rfl (fun h => nomatch h) ?_
        refine RV.step1 (OpOk.plain (ok_move (.inl rfl) rfl (by decide) rfl) rfl) ?_
        refine RV.step1 (OpOk.plain (ok_move (.inl rfl) rfl (by decide) rfl) rfl) ?_
        refine RV.step1 (OpOk.plain (ok_move (.inl rfl) rfl (by decide) rfl) rfl) ?_
        refine RV.step1 (OpOk.plain (ok_idxL (i := l) (k := none) (llV_at (by omega)) u_ldigs sz_digs (by decide) rfl rfl (by decide) rfl rfl) rfl) ?_
        refine RV.step1 (OpOk.plain (ok_loadP ty_digs (by decide) rfl rfl (by decide) rfl) rfl) ?_
        refine RV.step1 (OpOk.plain (ok_move (.inl rfl) rfl (by decide) rfl) rfl) ?_
        refine RV.step1 (OpOk.plain (ok_idxL (i := Sg.nextTo (i / 2 ^ l)) (k := some 16) (dgL_at (lvK_at hn)) u_digs sz_dig (by decide) rfl rfl (by decide) rfl rfl) rfl) ?_
        refine RV.step1 (OpOk.plain (ok_loadP ty_dig (by decide) rfl rfl (by decide) rfl) rfl) ?_
        refine RV.step1 (OpOk.plain (ok_call (Text_con (sideV seed i l) (sideV_bn _ _ _) (sideV_length _ _ _)) rfl rfl (by decide) Tryd.func31 rfl rfl (.cons rfl Conv.any .nil) rfl hfr rfl) rfl) ?_
        refine RV.step1 (OpOk.plain (ok_catT (u := by8 (Sg.intN (i : Int) ++ topsN (chV seed i D) 68 ++ topsN (sideV seed i) l)) (v := by8 (sideV seed i l)) (by rw [by8_length, by8_length, List.length_append, List.length_append, topsN_length _ (chV_length seed i D), topsN_length _ (sideV_length seed i), sideV_length]; omega) rfl rfl (by decide) rfl rfl) rfl) ?_
        refine RV.step1 (OpOk.plain (ok_move (.inr rfl) rfl (by decide) rfl) rfl) ?_
        refine RV.done ?_
        refine CV.region rfl (fun h => nomatch h) ?_
        refine RV.step1 (OpOk.plain (ok_move (.inl rfl) rfl (by decide) rfl) rfl) ?_
        refine RV.step1 (OpOk.plain (ok_quoN (m := i / 2 ^ l) (q := 2) (by decide) (by omega) rfl rfl (by decide) rfl rfl) rfl) ?_
        refine RV.step1 (OpOk.plain (ok_move (.inr rfl) rfl (by decide) rfl) rfl) ?_
        refine RV.done ?_
        refine CV.region rfl (fun h => nomatch h) ?_
        refine RV.step1 (OpOk.plain (ok_move (.inl rfl) rfl (by decide) rfl) rfl) ?_
        refine RV.step1 (OpOk.plain (ok_add (c := ((l + 1 : Nat) : Int)) (by rw [wrapI (by omega) (by omega)]; omega) rfl rfl (by decide) rfl rfl) rfl) ?_
        refine RV.step1 (OpOk.plain (ok_move (.inr rfl) rfl (by decide) rfl) rfl) ?_
        refine RV.done ?_
        rw [str_next, half_pow]
        exact ⟨⟨l + 1, hll⟩, Sub.mk ⟨XV.le_rfl _, XV.le_rfl _, XV.le_rfl _, XV.le_rfl _, XV.le_rfl _, trivial⟩ rfl rfl, by show h - (l + 1) < h - l; omega⟩
    · refine CV.exit ?_
      refine CV.seq ?_
      have hlh : l = h := (by have := of_decide_eq_false hc2; omega)
      subst hlh
      refine CV.region rfl (fun h => nomatch h) ?_
      refine RV.step1 (OpOk.plain (ok_move (.inl rfl) rfl (by decide) rfl) rfl) ?_
      refine RV.step1 (OpOk.plain (ok_move (.inr rfl) rfl (by decide) rfl) rfl) ?_
      refine RV.step1 (OpOk.plain (ok_move (.inr rfl) rfl (by decide) rfl) rfl) ?_
      refine RV.done ?_
      refine CV.ret ?_
      exact fin2 rfl (.inr rfl) rfl rfl (is_pair (by rw [signN_eq, hD]; exact fun _ _ _ _ h => h) fun _ _ _ _ h => h)
end Vc
end Go.Proofs.YthadfilandmhiaaDoor
