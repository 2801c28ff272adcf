/-
  Signatures: the tree of package sign, a closure that calls itself and writes beside's row; Public.
  Signatures: Sign of package sign, whose closure appends to what the caller holds; the cases that it refuses.
-/
import Derived.Test.YthadfilandmhiaaDoorSR40
set_option linter.unusedVariables false
set_option linter.unusedSimpArgs false
set_option linter.unusedSectionVars false
namespace Go.Proofs.YthadfilandmhiaaDoor
open Go.RowKit
open Go.Lib (hid)
open Dg Zn S
namespace Vc
theorem xor_small : ∀ m : _root_.Fin 64, IntKind.i64.wrap (BitVec.ofInt 64 ((m.1 : Nat) : Int) ^^^ BitVec.ofInt 64 1).toNat = ((Sg.nextTo m.1 : Nat) : Int) := by decide +kernel
theorem ok_xor1 {P : Program} {cx : Cx Dm} {n : Nat} {σ : St Dm} {o : Oper} {d m : Nat} {x y : Operand} {T T' : TypeId} (hm : m < 64) (ho : o.op = .binOp .xor T x y T') (hd : o.dst = some d) (hn : d < n) (hx : opd σ x = .av (.one (.v (.int .i64 (m : Int))))) (hy : opd σ y = .av (.one (.v (.int .i64 1)))) : OpOk P cx n σ o (opk x ++ opk y) [(.s d, .av (.one (.v (.int .i64 ((Sg.nextTo m : Nat) : Int)))))] :=
  ok_bin ho hd hn hx hy fun w => by
    have h := xor_small ⟨m, hm⟩
    have h4 : (Op.intBits .xor .i64 (m : Int) 1).run P w = .ok (.int .i64 ((Sg.nextTo m : Nat) : Int)) w := by
      rw [← h]; rfl
    simp only [eqGuard, Sem.run_bind]
    exact h4
/-- What the call for a node does to the list of those beside the way. -/
def bsetL (seed : List Nat) (h key l k : Nat) (L : List (SA Dm)) : List (SA Dm) := if l < h ∧ k = Sg.nextTo (key / 2 ^ l) then L.set l (DG (by8 (Sg.nodeN seed l k))) else L
def nodeL (seed : List Nat) (h key : Nat) : Nat → Nat → List (SA Dm) → List (SA Dm)
  | 0, k, L => bsetL seed h key 0 k L
  | l + 1, k, L => bsetL seed h key (l + 1) k (nodeL seed h key l (2 * k + 1) (nodeL seed h key l (2 * k) L))
theorem bsetL_length (seed : List Nat) (h key l k : Nat) (L : List (SA Dm)) : (bsetL seed h key l k L).length = L.length := by
  unfold bsetL; split <;> simp
theorem nodeL_length (seed : List Nat) (h key : Nat) : ∀ (l k : Nat) (L : List (SA Dm)), (nodeL seed h key l k L).length = L.length
  | 0, k, L => bsetL_length ..
  | l + 1, k, L => by rw [nodeL, bsetL_length, nodeL_length, nodeL_length]
theorem bsetL_at (seed : List Nat) (h key l k q : Nat) (L : List (SA Dm)) (hL : L.length = h) (hq : q < h) : (bsetL seed h key l k L)[q]? = if q = l ∧ k = Sg.nextTo (key / 2 ^ l) then some (DG (by8 (Sg.nodeN seed l k))) else L[q]? := by
  unfold bsetL
  by_cases e : q = l
  · subst e
    by_cases e2 : k = Sg.nextTo (key / 2 ^ q)
    · rw [if_pos ⟨hq, e2⟩, if_pos ⟨rfl, e2⟩, List.getElem?_set_self (by omega)]
    · rw [if_neg (fun h => e2 h.2), if_neg (fun h => e2 h.2)]
  · rw [if_neg (c := q = l ∧ k = Sg.nextTo (key / 2 ^ l)) (fun h => e h.1)]
    split
    · rw [List.getElem?_set_ne (fun h => e h.symm)]
    · rfl
theorem nodeL_at (seed : List Nat) (h key : Nat) : ∀ (l k q : Nat) (L : List (SA Dm)), L.length = h → q < h → (nodeL seed h key l k L)[q]? = if q ≤ l ∧ Sg.nextTo (key / 2 ^ q) / 2 ^ (l - q) = k then some (DG (by8 (Sg.nodeN seed q (Sg.nextTo (key / 2 ^ q))))) else L[q]?
  | 0, k, q, L, hL, hq => by
    rw [nodeL, bsetL_at _ _ _ _ _ _ _ hL hq]
    by_cases e : q = 0
    · subst e
      by_cases e2 : k = Sg.nextTo (key / 2 ^ 0)
      · rw [if_pos ⟨rfl, e2⟩, if_pos ⟨Nat.le_refl _, by rw [Nat.sub_zero, Nat.pow_zero, Nat.div_one]; exact e2.symm⟩, ← e2]
      · rw [if_neg (fun h => e2 h.2), if_neg (fun h => e2 (by have := h.2; rw [Nat.sub_zero, Nat.pow_zero, Nat.div_one] at this; exact this.symm))]
    · rw [if_neg (fun h => e h.1), if_neg (fun h => e (Nat.le_zero.1 h.1))]
  | l + 1, k, q, L, hL, hq => by
    rw [nodeL, bsetL_at _ _ _ _ _ _ _ (by rw [nodeL_length, nodeL_length, hL]) hq, nodeL_at seed h key l (2 * k + 1) q _ (by rw [nodeL_length, hL]) hq, nodeL_at seed h key l (2 * k) q L hL hq]
    by_cases e : q = l + 1
    · subst e
      rw [if_neg (c := l + 1 ≤ l ∧ Sg.nextTo (key / 2 ^ (l + 1)) / 2 ^ (l - (l + 1)) = 2 * k + 1) (fun h => by omega), if_neg (c := l + 1 ≤ l ∧ Sg.nextTo (key / 2 ^ (l + 1)) / 2 ^ (l - (l + 1)) = 2 * k) (fun h => by omega), Nat.sub_self, Nat.pow_zero, Nat.div_one]
      by_cases e2 : k = Sg.nextTo (key / 2 ^ (l + 1))
      · rw [if_pos ⟨rfl, e2⟩, if_pos ⟨Nat.le_refl _, e2.symm⟩, ← e2]
      · rw [if_neg (fun h => e2 h.2), if_neg (fun h => e2 h.2.symm)]
    · rw [if_neg (fun h => e h.1)]
      by_cases hle : q ≤ l
      · have e3 : Sg.nextTo (key / 2 ^ q) / 2 ^ (l + 1 - q) = Sg.nextTo (key / 2 ^ q) / 2 ^ (l - q) / 2 := by
          rw [show l + 1 - q = (l - q) + 1 by omega, Nat.pow_succ, Nat.div_div_eq_div_mul]
        rw [e3]
        generalize Sg.nextTo (key / 2 ^ q) / 2 ^ (l - q) = z
        by_cases e4 : z = 2 * k + 1
        · rw [if_pos ⟨hle, e4⟩, if_pos ⟨by omega, by omega⟩]
        · rw [if_neg (fun h => e4 h.2)]
          by_cases e5 : z = 2 * k
          · rw [if_pos ⟨hle, e5⟩, if_pos ⟨by omega, by omega⟩]
          · rw [if_neg (fun h => e5 h.2), if_neg (fun h => by omega)]
      · rw [if_neg (fun h => hle h.1), if_neg (fun h => hle h.1), if_neg (fun h => by omega)]
theorem nodeL_all (seed : List Nat) {h key : Nat} (hk : key < 2 ^ h) {L : List (SA Dm)} (hL : L.length = h) : nodeL seed h key h 0 L = dgL (Sg.besideN seed h key) := by
  apply List.ext_getElem?
  intro q
  rcases Nat.lt_or_ge q h with hq | hq
  · rw [nodeL_at seed h key h 0 q L hL hq, if_pos ⟨Nat.le_of_lt hq, Nat.div_eq_of_lt (next_lt hq (path_lt hk hq))⟩]
    simp [dgL, Sg.besideN, hq]
  · rw [List.getElem?_eq_none (by rw [nodeL_length, hL]; exact hq), List.getElem?_eq_none (by simp [dgL, Sg.besideN]; exact hq)]
abbrev nPre (seed : List Nat) : List (SA Dm) := [.d (Dm.gen (pG none (.v (str (by8 seed)))))]
abbrev nPost (h key : Nat) : List (SA Dm) := [.d (Dm.gen (pG none (.v (.int .i64 (h : Int))))), .d (Dm.gen (pG none (.v (.int .i64 (key : Int))))), .lk (pR none (.sl 600 h : SA Dm))]
abbrev nCaps (seed : List Nat) (h key : Nat) : List (SA Dm) := nPre seed ++ .lk (pselfR 42 (nPre seed) (nPost h key)) :: nPost h key
abbrev nRow (L : List (SA Dm)) : Sg Dm := [(.b 600, .row 23 (some 16) L)]
theorem ty_fnN : TyIs Tryd.prog 67 none := TyIs.one (by kernel_rfl) (by kernel_rfl)
theorem zero_fnN : (Tryd.prog.info? 67).map (·.zero) = some (some .nilFunc) := by kernel_rfl
theorem sz_fnN : (Tryd.prog.info? 67).map (·.size) = some 1 := by kernel_rfl
theorem zero_digs : (Tryd.prog.info? 45).map (·.zero) = some (some (.slice none 0 0)) := by kernel_rfl
theorem key_small {h key l : Nat} (hh : h ≤ 6) (hk : key < 2 ^ h) : key / 2 ^ l < 64 := Nat.lt_of_le_of_lt (Nat.div_le_self _ _) (Nat.lt_of_lt_of_le hk (pow_small hh))
theorem bset_yes {seed : List Nat} {h key l k : Nat} {L : List (SA Dm)} (h1 : l < h) (h2 : k = Sg.nextTo (key / 2 ^ l)) : bsetL seed h key l k L = L.set l (DG (by8 (Sg.nodeN seed l k))) := if_pos ⟨h1, h2⟩
theorem bset_no1 {seed : List Nat} {h key l k : Nat} {L : List (SA Dm)} (h1 : ¬ l < h) : bsetL seed h key l k L = L := if_neg fun q => h1 q.1
theorem bset_no2 {seed : List Nat} {h key l k : Nat} {L : List (SA Dm)} (h2 : ¬ k = Sg.nextTo (key / 2 ^ l)) : bsetL seed h key l k L = L := if_neg fun q => h2 q.2
theorem pow_le_of {h l : Nat} (hh : h ≤ 6) : 2 ^ (h - l) ≤ 64 := pow_small (by omega)
set_option maxRecDepth 100000 in
theorem node_zero (seed : List Nat) (h key k : Nat) (L : List (SA Dm)) (hs : Bn seed) (ls : seed.length ≤ 1000) (hh : h ≤ 6) (hkey : key < 2 ^ h) (hL : L.length = h) (hk : k < 2 ^ (h - 0)) : ConE Tryd.prog 42 ([(.v (.int .i64 ((0 : Nat) : Int)) : SA Dm), .v (.int .i64 (k : Int))] ++ nCaps seed h key) (nRow L) (.one (DG (by8 (Sg.nodeN seed 0 k)))) (nRow (nodeL seed h key 0 k L)) [] := by
  have hp64 := pow_le_of (l := 0) hh
  have hks := key_small (l := 0) hh hkey
  refine ConE.of (n := 45) (by exact List.cons_ne_nil _ _) Tryd.func42 rfl rfl rfl rfl rfl rfl rfl rfl fun cx ρ0 hW hBw => ?_
  refine CV.seq ?_
  refine CV.region rfl (fun h => nomatch h) ?_
  refine RV.step1 (OpOk.plain (ok_boxD rfl rfl (by decide) rfl rfl rfl) rfl) ?_
  refine RV.step2 (OpOk.plain (ok_alloc (i := 0) rfl rfl (by decide) zero_dig rfl rfl rfl rfl) rfl) ?_
  refine RV.done ?_
  refine CV.seq ?_
  refine CV.region rfl (fun h => nomatch h) ?_
  refine RV.step2 (OpOk.plain (ok_alloc (i := 1) rfl rfl (by decide) zero_dig rfl rfl rfl rfl) rfl) ?_
  refine RV.done ?_
  refine CV.seq ?_
  refine CV.seq ?_
  refine CV.region rfl (fun h => nomatch h) ?_
  refine RV.step1 (OpOk.plain (ok_move (.inl rfl) rfl (by decide) rfl) rfl) ?_
  refine RV.step1 (OpOk.plain (ok_eql rfl rfl (by decide) rfl rfl) rfl) ?_
  refine RV.done ?_
  refine CV.cond rfl (fun hc => ?_) (fun hc => False.elim (by exact absurd hc (by decide)))
  refine CV.region rfl (fun h => nomatch h) ?_
  refine RV.step1 (OpOk.plain (ok_mkfn (caps := [.tmp 2, .tmp 8]) (ss := [_, _]) rfl rfl (by decide) (.cons rfl Conv.any (.cons rfl Conv.any .nil)) rfl) rfl) ?_
  refine RV.step1 (OpOk.plain (ok_callV (leaf0_con seed k hs ls (by omega)) (free_dg _) hW rfl rfl (by decide) Tryd.func43 rfl rfl (.cons rfl Conv.any .nil) rfl) rfl) ?_
  refine RV.step1 (OpOk.plain (ok_store rfl rfl rfl rfl rfl rfl rfl (ty_dig).2 rfl rfl rfl rfl) rfl) ?_
  refine RV.done ?_
  refine CV.seq ?_
  refine CV.seq ?_
  refine CV.region rfl (fun _ => by kernel_rfl) ?_
  refine RV.step1 (OpOk.plain (ok_move (.inl rfl) rfl (by decide) rfl) rfl) ?_
  refine RV.step1 (OpOk.plain (ok_loadP ty_i64 (by decide) rfl rfl (by decide) rfl) rfl) ?_
  refine RV.step1 (OpOk.plain (ok_lss rfl rfl (by decide) rfl rfl) rfl) ?_
  refine RV.step1 (OpOk.plain (ok_move (.inl rfl) rfl (by decide) rfl) rfl) ?_
  refine RV.bool (fun hlt => ?_) (fun hlt => ?_)
  · refine RV.step1 (OpOk.yes (ok_loadP ty_i64 (by decide) rfl rfl (by decide) rfl) rfl rfl rfl) ?_
    refine RV.step1 (OpOk.yes (ok_loadP ty_i64 (by decide) rfl rfl (by decide) rfl) rfl rfl rfl) ?_
    refine RV.step1 (OpOk.yes (ok_move (.inl rfl) rfl (by decide) rfl) rfl rfl rfl) ?_
    refine RV.step1 (OpOk.yes (ok_shr (j := 0) (c := ((key / 2 ^ 0 : Nat) : Int)) (by decide) (shr_nat key 0) rfl rfl (by decide) rfl rfl) rfl rfl rfl) ?_
    refine RV.step1 (OpOk.yes (ok_xor1 (m := key / 2 ^ 0) hks rfl rfl (by decide) rfl rfl) rfl rfl rfl) ?_
    refine RV.step1 (OpOk.yes (ok_eql rfl rfl (by decide) rfl rfl) rfl rfl rfl) ?_
    refine RV.step1 (OpOk.plain (ok_pickT rfl rfl (by decide) rfl rfl rfl) rfl) ?_
    refine RV.drawn (by kernel_rfl) ?_
    refine CV.cond rfl (fun hc2 => ?_) (fun hc2 => ?_)
    · refine CV.region rfl (fun h => nomatch h) ?_
      refine RV.step1 (OpOk.plain (ok_loadPR ty_digs (by decide) rfl rfl (by decide) rfl) rfl) ?_
      refine RV.step1 (OpOk.plain (ok_move (.inl rfl) rfl (by decide) rfl) rfl) ?_
      refine RV.step1 (OpOk.plain (ok_load rfl rfl (by decide) rfl rfl rfl ty_dig) rfl) ?_
      refine RV.step1 (OpOk.plain (ok_idxR (i := 0) (by have := of_decide_eq_true hlt; omega) (Nat.le_of_eq hL.symm) u_digs sz_dig rfl rfl (by decide) rfl rfl rfl) rfl) ?_
      refine RV.step1 (OpOk.plain (ok_storeR (i := 0) (by have := of_decide_eq_true hlt; omega) rfl (by show 0 < 16; decide) rfl rfl rfl rfl rfl rfl sz_dig (.inl rfl) rfl rfl) rfl) ?_
      refine RV.done ?_
      refine CV.seq ?_
      refine CV.region rfl (fun h => nomatch h) ?_
      refine RV.step1 (OpOk.plain (ok_load rfl rfl (by decide) rfl rfl rfl ty_dig) rfl) ?_
      refine RV.step1 (OpOk.plain (ok_store rfl rfl rfl rfl rfl rfl rfl (ty_dig).2 rfl rfl rfl rfl) rfl) ?_
      refine RV.done ?_
      refine CV.ret ?_
      have e := bset_yes (seed := seed) (L := L) (show 0 < h from (by have := of_decide_eq_true hlt; omega)) (show k = Sg.nextTo (key / 2 ^ 0) from (by have := eq_of_beq hc2; omega))
      exact finE1 rfl (.inr rfl) rfl ⟨by rw [nodeL, e]; rfl, trivial⟩ (fun _ => rfl) ⟨_, _, _, _, _, rfl, rfl, rfl, ty_dig⟩ is_rfl
    · refine CV.skip ?_
      refine CV.seq ?_
      refine CV.region rfl (fun h => nomatch h) ?_
      refine RV.step1 (OpOk.plain (ok_load rfl rfl (by decide) rfl rfl rfl ty_dig) rfl) ?_
      refine RV.step1 (OpOk.plain (ok_store rfl rfl rfl rfl rfl rfl rfl (ty_dig).2 rfl rfl rfl rfl) rfl) ?_
      refine RV.done ?_
      refine CV.ret ?_
      have e := bset_no2 (seed := seed) (h := h) (L := L) (show ¬ k = Sg.nextTo (key / 2 ^ 0) from (fun q => by rw [q] at hc2; simp at hc2))
      exact finE1 rfl (.inr rfl) rfl ⟨by rw [nodeL, e]; rfl, trivial⟩ (fun _ => rfl) ⟨_, _, _, _, _, rfl, rfl, rfl, ty_dig⟩ is_rfl
  · refine RV.step1 (OpOk.skip rfl rfl rfl rfl rfl (by decide)) ?_
    refine RV.step1 (OpOk.skip rfl rfl rfl rfl rfl (by decide)) ?_
    refine RV.step1 (OpOk.skip rfl rfl rfl rfl rfl (by decide)) ?_
    refine RV.step1 (OpOk.skip rfl rfl rfl rfl rfl (by decide)) ?_
    refine RV.step1 (OpOk.skip rfl rfl rfl rfl rfl (by decide)) ?_
    refine RV.step1 (OpOk.skip rfl rfl rfl rfl rfl (by decide)) ?_
    refine RV.step1 (OpOk.plain (ok_pickF rfl rfl (by decide) rfl rfl rfl) rfl) ?_
    refine RV.drawn (by kernel_rfl) ?_
    refine CV.no rfl ?_
    refine CV.skip ?_
    refine CV.seq ?_
    refine CV.region rfl (fun h => nomatch h) ?_
    refine RV.step1 (OpOk.plain (ok_load rfl rfl (by decide) rfl rfl rfl ty_dig) rfl) ?_
    refine RV.step1 (OpOk.plain (ok_store rfl rfl rfl rfl rfl rfl rfl (ty_dig).2 rfl rfl rfl rfl) rfl) ?_
    refine RV.done ?_
    refine CV.ret ?_
    have e := bset_no1 (seed := seed) (key := key) (k := k) (L := L) (show ¬ 0 < h from (by have := of_decide_eq_false hlt; omega))
    exact finE1 rfl (.inr rfl) rfl ⟨by rw [nodeL, e]; rfl, trivial⟩ (fun _ => rfl) ⟨_, _, _, _, _, rfl, rfl, rfl, ty_dig⟩ is_rfl
set_option maxRecDepth 100000 in
theorem node_succ (seed : List Nat) (h key l k : Nat) (L : List (SA Dm)) (hs : Bn seed) (ls : seed.length ≤ 1000) (hh : h ≤ 6) (hkey : key < 2 ^ h) (hL : L.length = h) (hl : l + 1 ≤ h) (hk : k < 2 ^ (h - (l + 1)))
    (hrec : ∀ (k' : Nat) (L' : List (SA Dm)), k' < 2 ^ (h - l) → L'.length = h → ConE Tryd.prog 42 ([(.v (.int .i64 (l : Int)) : SA Dm), .v (.int .i64 (k' : Int))] ++ nCaps seed h key) (nRow L') (.one (DG (by8 (Sg.nodeN seed l k')))) (nRow (nodeL seed h key l k' L')) []) :
    ConE Tryd.prog 42 ([(.v (.int .i64 ((l + 1 : Nat) : Int)) : SA Dm), .v (.int .i64 (k : Int))] ++ nCaps seed h key) (nRow L) (.one (DG (by8 (Sg.nodeN seed (l + 1) k)))) (nRow (nodeL seed h key (l + 1) k L)) [] := by
  have hp64 := pow_le_of (l := l + 1) hh
  have hks := key_small (l := l + 1) hh hkey
  have hph := pow_half (h := h) (l := l) (by omega)
  have hl1 : (nodeL seed h key l (2 * k) L).length = h := by rw [nodeL_length, hL]
  have hl2 : (nodeL seed h key l (2 * k + 1) (nodeL seed h key l (2 * k) L)).length = h := by rw [nodeL_length, hl1]
  refine ConE.of (n := 45) (by exact List.cons_ne_nil _ _) Tryd.func42 rfl rfl rfl rfl rfl rfl rfl rfl fun cx ρ0 hW hBw => ?_
  refine CV.seq ?_
  refine CV.region rfl (fun h => nomatch h) ?_
  refine RV.step1 (OpOk.plain (ok_boxD rfl rfl (by decide) rfl rfl rfl) rfl) ?_
  refine RV.step2 (OpOk.plain (ok_alloc (i := 0) rfl rfl (by decide) zero_dig rfl rfl rfl rfl) rfl) ?_
  refine RV.done ?_
  refine CV.seq ?_
  refine CV.region rfl (fun h => nomatch h) ?_
  refine RV.step2 (OpOk.plain (ok_alloc (i := 1) rfl rfl (by decide) zero_dig rfl rfl rfl rfl) rfl) ?_
  refine RV.done ?_
  refine CV.seq ?_
  refine CV.seq ?_
  refine CV.region rfl (fun h => nomatch h) ?_
  refine RV.step1 (OpOk.plain (ok_move (.inl rfl) rfl (by decide) rfl) rfl) ?_
  refine RV.step1 (OpOk.plain (ok_eql rfl rfl (by decide) rfl rfl) rfl) ?_
  refine RV.done ?_
  refine CV.cond rfl (fun hc => False.elim (by have h0 := eq_of_beq hc; omega)) (fun hc => ?_)
  refine CV.region rfl (fun _ => by kernel_rfl) ?_
  refine RV.step1 (OpOk.plain (ok_loadselfR ty_fnN rfl rfl (by decide) rfl) rfl) ?_
  refine RV.step1 (OpOk.plain (ok_move (.inl rfl) rfl (by decide) rfl) rfl) ?_
  refine RV.step1 (OpOk.plain (ok_sub (c := (l : Int)) (by rw [wrapI (by omega) (by omega)]; omega) rfl rfl (by decide) rfl rfl) rfl) ?_
  refine RV.step1 (OpOk.plain (ok_loadP ty_i64 (by decide) rfl rfl (by decide) rfl) rfl) ?_
  refine RV.step1 (OpOk.plain (ok_mul (c := ((2 * k : Nat) : Int)) (by rw [wrapI (by omega) (by omega)]; omega) rfl rfl (by decide) rfl rfl) rfl) ?_
  refine RV.step2 (OpOk.plain (ok_callSE (sas := [.v (.int .i64 (l : Int)), .v (.int .i64 ((2 * k : Nat) : Int))]) (hrec (2 * k) L (by omega) hL) hW Tryd.func42 rfl rfl rfl rfl (by decide) rfl ⟨rfl, rfl, trivial⟩ ⟨rfl, trivial⟩ trivial rfl rfl rfl rfl) rfl) ?_
  refine RV.step1 (OpOk.plain (ok_loadselfR ty_fnN rfl rfl (by decide) rfl) rfl) ?_
  refine RV.step1 (OpOk.plain (ok_move (.inl rfl) rfl (by decide) rfl) rfl) ?_
  refine RV.step1 (OpOk.plain (ok_sub (c := (l : Int)) (by rw [wrapI (by omega) (by omega)]; omega) rfl rfl (by decide) rfl rfl) rfl) ?_
  refine RV.step1 (OpOk.plain (ok_loadP ty_i64 (by decide) rfl rfl (by decide) rfl) rfl) ?_
  refine RV.step1 (OpOk.plain (ok_mul (c := ((2 * k : Nat) : Int)) (by rw [wrapI (by omega) (by omega)]; omega) rfl rfl (by decide) rfl rfl) rfl) ?_
  refine RV.step1 (OpOk.plain (ok_add (c := ((2 * k + 1 : Nat) : Int)) (by rw [wrapI (by omega) (by omega)]; omega) rfl rfl (by decide) rfl rfl) rfl) ?_
  refine RV.step2 (OpOk.plain (ok_callSE (sas := [.v (.int .i64 (l : Int)), .v (.int .i64 ((2 * k + 1 : Nat) : Int))]) (hrec (2 * k + 1) _ (by omega) hl1) hW Tryd.func42 rfl rfl rfl rfl (by decide) rfl ⟨rfl, rfl, trivial⟩ ⟨rfl, trivial⟩ trivial rfl rfl rfl rfl) rfl) ?_
  refine RV.step1 (OpOk.plain (ok_callV (join_con (Sg.nodeN seed l (2 * k)) (Sg.nodeN seed l (2 * k + 1)) (nodeN_bn _ _ _) (nodeN_bn _ _ _) (nodeN_length _ _ _) (nodeN_length _ _ _)) (free_dg _) hW rfl rfl (by decide) Tryd.func45 rfl rfl (.cons rfl Conv.any (.cons rfl Conv.any .nil)) rfl) rfl) ?_
  refine RV.step1 (OpOk.plain (ok_store rfl rfl rfl rfl rfl rfl rfl (ty_dig).2 rfl rfl rfl rfl) rfl) ?_
  refine RV.drawn (by kernel_rfl) ?_
  refine CV.seq ?_
  refine CV.seq ?_
  refine CV.region rfl (fun _ => by kernel_rfl) ?_
  refine RV.step1 (OpOk.plain (ok_move (.inl rfl) rfl (by decide) rfl) rfl) ?_
  refine RV.step1 (OpOk.plain (ok_loadP ty_i64 (by decide) rfl rfl (by decide) rfl) rfl) ?_
  refine RV.step1 (OpOk.plain (ok_lss rfl rfl (by decide) rfl rfl) rfl) ?_
  refine RV.step1 (OpOk.plain (ok_move (.inl rfl) rfl (by decide) rfl) rfl) ?_
  refine RV.bool (fun hlt => ?_) (fun hlt => ?_)
  · refine RV.step1 (OpOk.yes (ok_loadP ty_i64 (by decide) rfl rfl (by decide) rfl) rfl rfl rfl) ?_
    refine RV.step1 (OpOk.yes (ok_loadP ty_i64 (by decide) rfl rfl (by decide) rfl) rfl rfl rfl) ?_
    refine RV.step1 (OpOk.yes (ok_move (.inl rfl) rfl (by decide) rfl) rfl rfl rfl) ?_
    refine RV.step1 (OpOk.yes (ok_shr (j := l + 1) (c := ((key / 2 ^ (l + 1) : Nat) : Int)) (by omega) (shr_nat key (l + 1)) rfl rfl (by decide) rfl rfl) rfl rfl rfl) ?_
    refine RV.step1 (OpOk.yes (ok_xor1 (m := key / 2 ^ (l + 1)) hks rfl rfl (by decide) rfl rfl) rfl rfl rfl) ?_
    refine RV.step1 (OpOk.yes (ok_eql rfl rfl (by decide) rfl rfl) rfl rfl rfl) ?_
    refine RV.step1 (OpOk.plain (ok_pickT rfl rfl (by decide) rfl rfl rfl) rfl) ?_
    refine RV.drawn (by kernel_rfl) ?_
    refine CV.cond rfl (fun hc2 => ?_) (fun hc2 => ?_)
    · refine CV.region rfl (fun h => nomatch h) ?_
      refine RV.step1 (OpOk.plain (ok_loadPR ty_digs (by decide) rfl rfl (by decide) rfl) rfl) ?_
      refine RV.step1 (OpOk.plain (ok_move (.inl rfl) rfl (by decide) rfl) rfl) ?_
      refine RV.step1 (OpOk.plain (ok_load rfl rfl (by decide) rfl rfl rfl ty_dig) rfl) ?_
      refine RV.step1 (OpOk.plain (ok_idxR (i := l + 1) (by have := of_decide_eq_true hlt; omega) (Nat.le_of_eq hl2.symm) u_digs sz_dig rfl rfl (by decide) rfl rfl rfl) rfl) ?_
      refine RV.step1 (OpOk.plain (ok_storeR (i := l + 1) (by rw [hl2]; have := of_decide_eq_true hlt; omega) rfl (by show 0 < 16; decide) rfl rfl rfl rfl rfl rfl sz_dig (.inl rfl) rfl rfl) rfl) ?_
      refine RV.done ?_
      refine CV.seq ?_
      refine CV.region rfl (fun h => nomatch h) ?_
      refine RV.step1 (OpOk.plain (ok_load rfl rfl (by decide) rfl rfl rfl ty_dig) rfl) ?_
      refine RV.step1 (OpOk.plain (ok_store rfl rfl rfl rfl rfl rfl rfl (ty_dig).2 rfl rfl rfl rfl) rfl) ?_
      refine RV.done ?_
      refine CV.ret ?_
      have e := bset_yes (seed := seed) (L := nodeL seed h key l (2 * k + 1) (nodeL seed h key l (2 * k) L)) (show l + 1 < h from (by have := of_decide_eq_true hlt; omega)) (show k = Sg.nextTo (key / 2 ^ (l + 1)) from (by have := eq_of_beq hc2; omega))
      exact finE1 rfl (.inr rfl) rfl ⟨by rw [nodeL, e]; rfl, trivial⟩ (fun _ => rfl) ⟨_, _, _, _, _, rfl, rfl, rfl, ty_dig⟩ is_rfl
    · refine CV.skip ?_
      refine CV.seq ?_
      refine CV.region rfl (fun h => nomatch h) ?_
      refine RV.step1 (OpOk.plain (ok_load rfl rfl (by decide) rfl rfl rfl ty_dig) rfl) ?_
      refine RV.step1 (OpOk.plain (ok_store rfl rfl rfl rfl rfl rfl rfl (ty_dig).2 rfl rfl rfl rfl) rfl) ?_
      refine RV.done ?_
      refine CV.ret ?_
      have e := bset_no2 (seed := seed) (h := h) (L := nodeL seed h key l (2 * k + 1) (nodeL seed h key l (2 * k) L)) (show ¬ k = Sg.nextTo (key / 2 ^ (l + 1)) from (fun q => by rw [q] at hc2; simp at hc2))
      exact finE1 rfl (.inr rfl) rfl ⟨by rw [nodeL, e]; rfl, trivial⟩ (fun _ => rfl) ⟨_, _, _, _, _, rfl, rfl, rfl, ty_dig⟩ is_rfl
  · refine RV.step1 (OpOk.skip rfl rfl rfl rfl rfl (by decide)) ?_
    refine RV.step1 (OpOk.skip rfl rfl rfl rfl rfl (by decide)) ?_
    refine RV.step1 (OpOk.skip rfl rfl rfl rfl rfl (by decide)) ?_
    refine RV.step1 (OpOk.skip rfl rfl rfl rfl rfl (by decide)) ?_
    refine RV.step1 (OpOk.skip rfl rfl rfl rfl rfl (by decide)) ?_
    refine RV.step1 (OpOk.skip rfl rfl rfl rfl rfl (by decide)) ?_
    refine RV.step1 (OpOk.plain (ok_pickF rfl rfl (by decide) rfl rfl rfl) rfl) ?_
    refine RV.drawn (by kernel_rfl) ?_
    refine CV.no rfl ?_
    refine CV.skip ?_
    refine CV.seq ?_
    refine CV.region rfl (fun h => nomatch h) ?_
    refine RV.step1 (OpOk.plain (ok_load rfl rfl (by decide) rfl rfl rfl ty_dig) rfl) ?_
    refine RV.step1 (OpOk.plain (ok_store rfl rfl rfl rfl rfl rfl rfl (ty_dig).2 rfl rfl rfl rfl) rfl) ?_
    refine RV.done ?_
    refine CV.ret ?_
    have e := bset_no1 (seed := seed) (key := key) (k := k) (L := nodeL seed h key l (2 * k + 1) (nodeL seed h key l (2 * k) L)) (show ¬ l + 1 < h from (by have := of_decide_eq_false hlt; omega))
    exact finE1 rfl (.inr rfl) rfl ⟨by rw [nodeL, e]; rfl, trivial⟩ (fun _ => rfl) ⟨_, _, _, _, _, rfl, rfl, rfl, ty_dig⟩ is_rfl
theorem node_con (seed : List Nat) (h key : Nat) (hs : Bn seed) (ls : seed.length ≤ 1000) (hh : h ≤ 6) (hkey : key < 2 ^ h) : ∀ (l k : Nat) (L : List (SA Dm)), l ≤ h → k < 2 ^ (h - l) → L.length = h → ConE Tryd.prog 42 ([(.v (.int .i64 (l : Int)) : SA Dm), .v (.int .i64 (k : Int))] ++ nCaps seed h key) (nRow L) (.one (DG (by8 (Sg.nodeN seed l k)))) (nRow (nodeL seed h key l k L)) []
  | 0, k, L, _, hk, hL => node_zero seed h key k L hs ls hh hkey hL hk
  | l + 1, k, L, hl, hk, hL => node_succ seed h key l k L hs ls hh hkey hL hl hk fun k' L' h1 h2 => node_con seed h key hs ls hh hkey l k' L' (by omega) h1 h2
set_option maxRecDepth 100000 in
theorem tree_con (seed : List Nat) (h key : Nat) (hs : Bn seed) (ls : seed.length ≤ 1000) (hh : h ≤ 6) (hkey : key < 2 ^ h) : Con Tryd.prog 22 [(.v (str (by8 seed)) : SA Dm), .v (.int .i64 (h : Int)), .v (.int .i64 (key : Int))] (.tup [DG (by8 (Sg.nodeN seed h 0)), DL (Sg.besideN seed h key)]) := by
  refine Con.of (n := 17) Tryd.func22 rfl rfl rfl rfl rfl fun cx hfr => ?_
  refine CV.seq ?_
  refine CV.region rfl (fun h => nomatch h) ?_
  refine RV.step1 (OpOk.plain (ok_boxD rfl rfl (by decide) rfl rfl rfl) rfl) ?_
  refine RV.step1 (OpOk.plain (ok_boxD rfl rfl (by decide) rfl rfl rfl) rfl) ?_
  refine RV.step1 (OpOk.plain (ok_boxD rfl rfl (by decide) rfl rfl rfl) rfl) ?_
  refine RV.step2 (OpOk.plain (ok_alloc (i := 0) rfl rfl (by decide) zero_dig rfl rfl rfl rfl) rfl) ?_
  refine RV.step1 (OpOk.plain (ok_move (.inr rfl) rfl (by decide) rfl) rfl) ?_
  refine RV.done ?_
  refine CV.seq ?_
  refine CV.region rfl (fun h => nomatch h) ?_
  refine RV.step1 (OpOk.plain (ok_loadP ty_i64 (by decide) rfl rfl (by decide) rfl) rfl) ?_
  refine RV.step2 (OpOk.plain (ok_make (r := 600) (m := h) (c := h) (k := some 16) (Nat.le_refl _) (by omega) (by omega) u_digs inf_dig rfl rfl rfl rfl (by decide) rfl rfl rfl rfl rfl) rfl) ?_
  refine RV.step2 (OpOk.plain (ok_alloc (i := 601) rfl rfl (by decide) zero_digs rfl rfl rfl rfl) rfl) ?_
  refine RV.step1 (OpOk.plain (ok_store1 rfl rfl rfl rfl rfl rfl sz_digs rfl rfl) rfl) ?_
  refine RV.done ?_
  refine CV.seq ?_
  refine CV.freezeR (s := (.sl 600 h : SA Dm)) (hne := List.cons_ne_nil _ _) (r := 601) (t := 8) (fun _ _ _ _ => cx.bw hfr _) rfl rfl rfl ?_
  refine CV.region rfl (fun h => nomatch h) ?_
  refine RV.step2 (OpOk.plain (ok_alloc (i := 602) rfl rfl (by decide) zero_fnN rfl rfl rfl rfl) rfl) ?_
  refine RV.done ?_
  refine CV.seq ?_
  refine CV.closureR (capa := [.tmp 3]) (capb := [.tmp 4, .tmp 5, .tmp 8]) (pre := nPre seed) (post := nPost h key) (i6 := 602) (hne := List.cons_ne_nil _ _) (cx.bw hfr) rfl rfl rfl (by decide) rfl rfl rfl sz_fnN rfl rfl (by decide) ⟨rfl, trivial⟩ ⟨rfl, rfl, rfl, trivial⟩ rfl ?_
  refine CV.seq ?_
  refine CV.region rfl (fun _ => by kernel_rfl) ?_
  refine RV.step1 (OpOk.plain (ok_loadselfR ty_fnN rfl rfl (by decide) rfl) rfl) ?_
  refine RV.step1 (OpOk.plain (ok_loadP ty_i64 (by decide) rfl rfl (by decide) rfl) rfl) ?_
  refine RV.step2 (OpOk.plain (ok_callSE (sas := [.v (.int .i64 (h : Int)), .v (.int .i64 ((0 : Nat) : Int))]) (node_con seed h key hs ls hh hkey h 0 (List.replicate h (.v zeroDig)) (Nat.le_refl _) (by rw [Nat.sub_self]; decide) (by simp)) (cx.wf hfr) Tryd.func42 rfl rfl rfl rfl (by decide) rfl ⟨rfl, rfl, trivial⟩ ⟨rfl, trivial⟩ trivial rfl rfl rfl rfl) rfl) ?_
  refine RV.step1 (OpOk.plain (ok_loadPR ty_digs (by decide) rfl rfl (by decide) rfl) rfl) ?_
  refine RV.step1 (OpOk.plain (ok_store rfl rfl rfl rfl rfl rfl rfl (ty_dig).2 rfl rfl rfl rfl) rfl) ?_
  refine RV.step1 (OpOk.plain (ok_move (.inr rfl) rfl (by decide) rfl) rfl) ?_
  refine RV.drawn (by kernel_rfl) ?_
  rw [nodeL_all seed hkey (L := List.replicate h (.v zeroDig)) (by simp)]
  refine CV.freeze (r := 600) (t := 7) (G := Dm.gen (lstG (some 16) (dgL (Sg.besideN seed h key)))) (cx.bw hfr) rfl rfl (by simp [dgL, Sg.besideN]) rfl rfl (lstG_Lst _ _) (lstG_Lst0 _ _) ?_
  refine CV.ret ?_
  exact fin2 rfl (.inr rfl) ⟨_, _, _, _, _, rfl, rfl, rfl, ty_dig⟩ rfl is_rfl2
set_option maxRecDepth 100000 in
theorem Public_con (seed : List Nat) (h : Nat) (hs : Bn seed) (ls : seed.length = 32) (hh : h ≤ 6) : Con Tryd.prog 12 [(.v (str (by8 seed)) : SA Dm), .v (.int .i64 (h : Int))] (.tup [DG (by8 (Sg.nodeN seed h 0)), EV 0]) := by
  refine Con.of (n := 20) Tryd.func12 rfl rfl rfl rfl rfl fun cx hfr => ?_
  refine CV.seq ?_
  refine CV.region rfl (fun h => nomatch h) ?_
  refine RV.step2 (OpOk.plain (ok_alloc (i := 0) rfl rfl (by decide) zero_dig rfl rfl rfl rfl) rfl) ?_
  refine RV.step1 (OpOk.plain (ok_move (.inr rfl) rfl (by decide) rfl) rfl) ?_
  refine RV.done ?_
  refine CV.seq ?_
  refine CV.seq ?_
  refine CV.region rfl (fun h => nomatch h) ?_
  refine RV.step1 (OpOk.plain (ok_move (.inl rfl) rfl (by decide) rfl) rfl) ?_
  refine RV.step1 (OpOk.plain (ok_move (.inl rfl) rfl (by decide) rfl) rfl) ?_
  refine RV.step1 (OpOk.plain (ok_call (validSigner_con seed (h : Int)) rfl rfl (by decide) Tryd.func21 rfl rfl (.cons rfl Conv.any (.cons rfl Conv.any .nil)) rfl hfr rfl) rfl) ?_
  refine RV.step1 (OpOk.plain (ok_not rfl rfl (by decide) rfl) rfl) ?_
  refine RV.done ?_
  refine CV.cond rfl (fun hc => False.elim (by simp at hc; omega)) (fun hc => ?_)
  refine CV.skip ?_
  refine CV.seq ?_
  refine CV.region rfl (fun h => nomatch h) ?_
  refine RV.step1 (OpOk.plain (ok_move (.inl rfl) rfl (by decide) rfl) rfl) ?_
  refine RV.step1 (OpOk.plain (ok_move (.inl rfl) rfl (by decide) rfl) rfl) ?_
  refine RV.step1 (OpOk.plain (ok_call (tree_con seed h 0 hs (by omega) hh (Nat.pow_pos (by decide))) rfl rfl (by decide) Tryd.func22 rfl rfl (.cons rfl Conv.any (.cons rfl Conv.any (.cons rfl Conv.any .nil))) rfl hfr rfl) rfl) ?_
  refine RV.step1 (OpOk.plain (ok_move (.inl rfl) rfl (by decide) rfl) rfl) ?_
  refine RV.step1 (OpOk.plain (ok_extract rfl rfl (by decide) rfl rfl) rfl) ?_
  refine RV.step1 (OpOk.plain (ok_extract rfl rfl (by decide) rfl rfl) rfl) ?_
  refine RV.step2 (OpOk.plain (ok_alloc (i := 1) rfl rfl (by decide) zero_dig rfl rfl rfl rfl) rfl) ?_
  refine RV.step1 (OpOk.plain (ok_store rfl rfl rfl rfl rfl rfl rfl (ty_dig).2 rfl rfl rfl rfl) rfl) ?_
  refine RV.step1 (OpOk.plain (ok_move (.inr rfl) rfl (by decide) rfl) rfl) ?_
  refine RV.done ?_
  refine CV.seq ?_
  refine CV.region rfl (fun h => nomatch h) ?_
  refine RV.step1 (OpOk.plain (ok_load rfl rfl (by decide) rfl rfl rfl ty_dig) rfl) ?_
  refine RV.step1 (OpOk.plain (ok_store rfl rfl rfl rfl rfl rfl rfl (ty_dig).2 rfl rfl rfl rfl) rfl) ?_
  refine RV.step1 (OpOk.plain (ok_move (.inr rfl) rfl (by decide) rfl) rfl) ?_
  refine RV.done ?_
  refine CV.ret ?_
  exact fin2 rfl (.inr rfl) ⟨_, _, _, _, _, rfl, rfl, rfl, ty_dig⟩ rfl is_rfl2
set_option maxRecDepth 100000 in
theorem Public_bad (seed : List Nat) (h : Int) (hb : ¬ (seed.length = 32 ∧ 0 ≤ h ∧ h ≤ 6)) : Con Tryd.prog 12 [(.v (str (by8 seed)) : SA Dm), .v (.int .i64 h)] (.tup [DG (by8 (List.replicate 16 0)), EV 1]) := by
  refine Con.of (n := 20) Tryd.func12 rfl rfl rfl rfl rfl fun cx hfr => ?_
  refine CV.seq ?_
  refine CV.region rfl (fun h => nomatch h) ?_
  refine RV.step2 (OpOk.plain (ok_alloc (i := 0) rfl rfl (by decide) zero_dig rfl rfl rfl rfl) rfl) ?_
  refine RV.step1 (OpOk.plain (ok_move (.inr rfl) rfl (by decide) rfl) rfl) ?_
  refine RV.done ?_
  refine CV.seq ?_
  refine CV.seq ?_
  refine CV.region rfl (fun h => nomatch h) ?_
  refine RV.step1 (OpOk.plain (ok_move (.inl rfl) rfl (by decide) rfl) rfl) ?_
  refine RV.step1 (OpOk.plain (ok_move (.inl rfl) rfl (by decide) rfl) rfl) ?_
  refine RV.step1 (OpOk.plain (ok_call (validSigner_con seed h) rfl rfl (by decide) Tryd.func21 rfl rfl (.cons rfl Conv.any (.cons rfl Conv.any .nil)) rfl hfr rfl) rfl) ?_
  refine RV.step1 (OpOk.plain (ok_not rfl rfl (by decide) rfl) rfl) ?_
  refine RV.done ?_
  refine CV.cond rfl (fun hc => ?_) (fun hc => False.elim (by simp at hc; omega))
  refine CV.seq ?_
  refine CV.region rfl (fun h => nomatch h) ?_
  refine RV.step1 (OpOk.plain (ok_buildD rfl rfl (by decide)) rfl) ?_
  refine RV.step1 (OpOk.plain (ok_store rfl rfl rfl rfl rfl rfl rfl (ty_dig).2 rfl rfl rfl rfl) rfl) ?_
  refine RV.step1 (OpOk.plain (ok_move (.inr rfl) rfl (by decide) rfl) rfl) ?_
  refine RV.done ?_
  refine CV.ret ?_
  exact fin2 rfl (.inr rfl) ⟨_, _, _, _, _, rfl, rfl, rfl, ty_dig⟩ rfl (is_pair dg_zero fun _ _ _ _ h => h)
abbrev sgB (l : List (SA Dm)) : Sg Dm := [(.b 500, .blk 51 [(none, .sl 501 l.length)]), (.b 501, .row 5 none l)]
abbrev sgB' (l xs : List (SA Dm)) : Sg Dm := [(.b 500, .blk 51 [(none, .sl 502 (l.length + xs.length))]), (.b 502, .row 5 none (l ++ xs)), (.b 501, .dead)]
theorem sz_bytes : (Tryd.prog.info? 51).map (·.size) = some 1 := by kernel_rfl
theorem zero_bytes : (Tryd.prog.info? 51).map (·.zero) = some (some (.slice none 0 0)) := by kernel_rfl
set_option maxRecDepth 100000 in
theorem add_con (l d : List Nat) (ld : d.length = 16) (ll : l.length ≤ 100000) : ConE Tryd.prog 27 [DG (by8 d), .ptr 500 0] (sgB (byV (by8 l))) (.tup []) (sgB' (byV (by8 l)) (byV (by8 d))) [502] false := by
  refine ConE.of (n := 6) (by exact List.cons_ne_nil _ _) Tryd.func27 rfl rfl rfl rfl rfl rfl rfl rfl fun cx ρ0 hW hBw => ?_
  refine CV.seq ?_
  refine CV.region rfl (fun h => nomatch h) ?_
  refine RV.step1 (OpOk.plain (ok_boxD rfl rfl (by decide) rfl rfl rfl) rfl) ?_
  refine RV.done ?_
  refine CV.region rfl (fun _ => by kernel_rfl) ?_
  refine RV.step1 (OpOk.plain (ok_load rfl rfl (by decide) rfl rfl rfl ty_bytes) rfl) ?_
  refine RV.step1 (OpOk.plain (ok_cutP u_dig sz_u8 rfl rfl (by decide) rfl) rfl) ?_
  refine RV.step4 (OpOk.plain (ok_appendN (r := 501) (r' := 502) (k := none) (lst_elems (by decide) (byV_ptrs _)) (by rw [byV_length, byV_length, by8_length, by8_length]; omega) (by rw [byV_length, byV_length, by8_length, by8_length]; omega) u_bytes inf_u8 rfl rfl rfl rfl rfl (by decide) rfl rfl rfl rfl rfl rfl rfl) rfl) ?_
  refine RV.step1 (OpOk.plain (ok_store1 rfl rfl rfl rfl rfl rfl sz_bytes rfl rfl) rfl) ?_
  refine RV.drawn (by kernel_rfl) ?_
  exact finE0 rfl (.inl rfl) rfl ⟨rfl, rfl, trivial⟩ (fun q => nomatch q)
/-- The signature so far. -/
def sgN (i : Nat) (g : Nat → List Nat) (k : Nat) : List Nat := Sg.intN i ++ topsN g k
theorem sgN_by (i : Nat) (g : Nat → List Nat) (k : Nat) : byV (by8 (sgN i g k)) ++ byV (by8 (g k)) = byV (by8 (sgN i g (k + 1))) := by
  rw [sgN, sgN, topsN_succ, ← List.append_assoc, by8_append _ (g k), byV_append]
theorem sgN_length (i : Nat) (g : Nat → List Nat) (hg : ∀ c, (g c).length = 16) (k : Nat) : (sgN i g k).length ≤ 9 + 16 * k := by
  have := intN_le (i : Int)
  rw [sgN, List.length_append, topsN_length g hg]; omega
/-- The chains' values, then those beside the way. -/
def bothV (seed : List Nat) (i : Nat) (D : List Nat) (c : Nat) : List Nat := if c < 68 then chV seed i D c else sideV seed i (c - 68)
theorem bothV_length (seed : List Nat) (i : Nat) (D : List Nat) (c : Nat) : (bothV seed i D c).length = 16 := by
  unfold bothV; split
  · exact chV_length _ _ _ _
  · exact sideV_length _ _ _
theorem tops_shift (g f : Nat → List Nat) (m : Nat) (hf : ∀ c, g (m + c) = f c) : ∀ k, topsN g (m + k) = topsN g m ++ topsN f k
  | 0 => by rw [Nat.add_zero, topsN_zero, List.append_nil]
  | k + 1 => by rw [← Nat.add_assoc, topsN_succ, tops_shift g f m hf k, topsN_succ, hf, List.append_assoc]
theorem tops_congr {g f : Nat → List Nat} : ∀ k, (∀ c, c < k → g c = f c) → topsN g k = topsN f k
  | 0, _ => rfl
  | k + 1, h => by rw [topsN_succ, topsN_succ, tops_congr k fun c hc => h c (by omega), h k (by omega)]
theorem both_all (seed : List Nat) (i : Nat) (D : List Nat) (h : Nat) : topsN (bothV seed i D) (68 + h) = topsN (chV seed i D) 68 ++ topsN (sideV seed i) h := by
  rw [tops_shift (bothV seed i D) (sideV seed i) 68 (fun c => by rw [bothV, if_neg (by omega), Nat.add_sub_cancel_left]) h, tops_congr 68 fun c hc => by rw [bothV, if_pos hc]]
theorem beside_at (seed : List Nat) (h i l : Nat) (hl : l < h) : (dgL (Sg.besideN seed h i))[l]? = some (DG (by8 (sideV seed i l))) := dgL_at (by simp [Sg.besideN, sideV, hl])
set_option maxRecDepth 100000 in
theorem Sign_con (seed : List Nat) (h i : Nat) (msg : List Nat) (hs : Bn seed) (ls : seed.length = 32) (hh : h ≤ 6) (hi : i < 2 ^ h) (hm : Bn msg) (lm : msg.length ≤ 2000) : Con Tryd.prog 14 [(.v (str (by8 seed)) : SA Dm), .v (.int .i64 (h : Int)), .v (.int .i64 (i : Int)), .v (str (by8 msg))] (.tup [.v (str (by8 (Sg.signN seed h i msg))), EV 0]) := by
  have hp64 := pow_small hh
  have hdl := digestN_length (Sg.nodeN seed h 0) (i : Int) msg
  have hdb := digestN_bn (Sg.nodeN seed h 0) (i : Int) msg
  have hin := intN_le (i : Int)
  refine Con.of (n := 73) Tryd.func14 rfl rfl rfl rfl rfl fun cx hfr => ?_
  refine CV.seq ?_
  refine CV.region rfl (fun h => nomatch h) ?_
  refine RV.step1 (OpOk.plain (ok_move (.inr rfl) rfl (by decide) rfl) rfl) ?_
  refine RV.step1 (OpOk.plain (ok_move (.inr rfl) rfl (by decide) rfl) rfl) ?_
  refine RV.done ?_
  refine CV.seq ?_
  refine CV.seq ?_
  refine CV.region rfl (fun h => nomatch h) ?_
  refine RV.step1 (OpOk.plain (ok_move (.inl rfl) rfl (by decide) rfl) rfl) ?_
  refine RV.step1 (OpOk.plain (ok_move (.inl rfl) rfl (by decide) rfl) rfl) ?_
  refine RV.step1 (OpOk.plain (ok_call (validSigner_con seed (h : Int)) rfl rfl (by decide) Tryd.func21 rfl rfl (.cons rfl Conv.any (.cons rfl Conv.any .nil)) rfl hfr rfl) rfl) ?_
  refine RV.step1 (OpOk.plain (ok_not rfl rfl (by decide) rfl) rfl) ?_
  refine RV.done ?_
  refine CV.cond rfl (fun hc => False.elim (by simp at hc; omega)) (fun hc => ?_)
  refine CV.skip ?_
  refine CV.seq ?_
  refine CV.seq ?_
  refine CV.region rfl (fun h => nomatch h) ?_
  refine RV.step1 (OpOk.plain (ok_move (.inl rfl) rfl (by decide) rfl) rfl) ?_
  refine RV.step1 (OpOk.plain (ok_move (.inl rfl) rfl (by decide) rfl) rfl) ?_
  refine RV.step1 (OpOk.plain (ok_call (validIndex_con h hh (i : Int)) rfl rfl (by decide) Tryd.func25 rfl rfl (.cons rfl Conv.any (.cons rfl Conv.any .nil)) rfl hfr rfl) rfl) ?_
  refine RV.step1 (OpOk.plain (ok_not rfl rfl (by decide) rfl) rfl) ?_
  refine RV.done ?_
  refine CV.cond rfl (fun hc => False.elim (by have hc' : ¬ (0 ≤ (i : Int) ∧ (i : Int) < ((2 ^ h : Nat) : Int)) := (by simpa using hc); omega)) (fun hc => ?_)
  refine CV.skip ?_
  refine CV.seq ?_
  refine CV.seq ?_
  refine CV.region rfl (fun h => nomatch h) ?_
  refine RV.step1 (OpOk.plain (ok_move (.inl rfl) rfl (by decide) rfl) rfl) ?_
  refine RV.step1 (OpOk.plain (ok_lenT (by8_length msg) u_str rfl rfl (by decide) rfl) rfl) ?_
  refine RV.step1 (OpOk.plain (ok_gtr rfl rfl (by decide) rfl rfl) rfl) ?_
  refine RV.done ?_
  refine CV.cond rfl (fun hc => False.elim (by simp at hc; omega)) (fun hc => ?_)
  refine CV.skip ?_
  refine CV.seq ?_
  refine CV.region rfl (fun h => nomatch h) ?_
  refine RV.step1 (OpOk.plain (ok_move (.inl rfl) rfl (by decide) rfl) rfl) ?_
  refine RV.step1 (OpOk.plain (ok_move (.inl rfl) rfl (by decide) rfl) rfl) ?_
  refine RV.step1 (OpOk.plain (ok_move (.inl rfl) rfl (by decide) rfl) rfl) ?_
  refine RV.step1 (OpOk.plain (ok_call (tree_con seed h i hs (by omega) hh hi) rfl rfl (by decide) Tryd.func22 rfl rfl (.cons rfl Conv.any (.cons rfl Conv.any (.cons rfl Conv.any .nil))) rfl hfr rfl) rfl) ?_
  refine RV.step1 (OpOk.plain (ok_move (.inl rfl) rfl (by decide) rfl) rfl) ?_
  refine RV.step1 (OpOk.plain (ok_extract rfl rfl (by decide) rfl rfl) rfl) ?_
  refine RV.step1 (OpOk.plain (ok_extract rfl rfl (by decide) rfl rfl) rfl) ?_
  refine RV.step2 (OpOk.plain (ok_alloc (i := 0) rfl rfl (by decide) zero_dig rfl rfl rfl rfl) rfl) ?_
  refine RV.step1 (OpOk.plain (ok_store rfl rfl rfl rfl rfl rfl rfl (ty_dig).2 rfl rfl rfl rfl) rfl) ?_
  refine RV.step1 (OpOk.plain (ok_move (.inr rfl) rfl (by decide) rfl) rfl) ?_
  refine RV.done ?_
  refine CV.seq ?_
  refine CV.region rfl (fun h => nomatch h) ?_
  refine RV.step1 (OpOk.plain (ok_move (.inl rfl) rfl (by decide) rfl) rfl) ?_
  refine RV.step3 (OpOk.plain (ok_callRow (r := 501) (Int_row (i : Int) (by omega) (by omega)) (byV_vals _) rfl rfl (by decide) Tryd.func26 rfl rfl (.cons rfl Conv.any .nil) rfl rfl rfl) rfl) ?_
  refine RV.step2 (OpOk.plain (ok_alloc (i := 500) rfl rfl (by decide) zero_bytes rfl rfl rfl rfl) rfl) ?_
  refine RV.step1 (OpOk.plain (ok_store1 rfl rfl rfl rfl rfl rfl sz_bytes rfl rfl) rfl) ?_
  refine RV.done ?_
  refine CV.seq ?_
  refine CV.region rfl (fun h => nomatch h) ?_
  refine RV.step1 (OpOk.plain (ok_mkfnR (hne := List.cons_ne_nil _ _) (ss := [(.ptr 500 0 : SA Dm)]) rfl rfl (by decide) ⟨rfl, trivial⟩) rfl) ?_
  refine RV.step1 (OpOk.plain (ok_move (.inr rfl) rfl (by decide) rfl) rfl) ?_
  refine RV.done ?_
  refine CV.seq ?_
  refine CV.seq ?_
  refine CV.kp [500, 501, 502] rfl rfl ?_
  refine CV.region rfl (fun h => nomatch h) ?_
  refine RV.step1 (OpOk.plain (ok_load rfl rfl (by decide) rfl rfl rfl ty_dig) rfl) ?_
  refine RV.step1 (OpOk.plain (ok_move (.inl rfl) rfl (by decide) rfl) rfl) ?_
  refine RV.step1 (OpOk.plain (ok_move (.inl rfl) rfl (by decide) rfl) rfl) ?_
  refine RV.step1 (OpOk.plain (ok_callV (Digest_con (Sg.nodeN seed h 0) msg (i : Int) (nodeN_bn _ _ _) (nodeN_length _ _ _) hm lm (by omega) (by omega)) (free_dg _) (cx.wf hfr) rfl rfl (by decide) Tryd.func16 rfl rfl (.cons rfl Conv.any (.cons rfl Conv.any (.cons rfl Conv.any .nil))) rfl) rfl) ?_
  refine RV.step1 (OpOk.plain (ok_callF (Digits_conF (Sg.digestN (Sg.nodeN seed h 0) (i : Int) msg) hdb hdl) rfl rfl (by decide) Tryd.func10 rfl rfl (.cons rfl Conv.any .nil) rfl) rfl) ?_
  refine RV.step1 (OpOk.plain (ok_lenL (m := 68) (by rw [dzV_length, Sg.digitsN_length hdl]) u_ints rfl rfl (by decide) rfl) rfl) ?_
  refine RV.step1 (OpOk.plain (ok_move (.inl rfl) rfl (by decide) rfl) rfl) ?_
  refine RV.done ?_
  refine CV.block ?_
  obtain ⟨D, hD⟩ : ∃ D, D = Sg.digitsN (Sg.digestN (Sg.nodeN seed h 0) (i : Int) msg) := ⟨_, rfl⟩
  have hD3 : ∀ c, D.getD c 0 ≤ 3 := (fun c => by rw [hD]; exact digN_le hdl hdb c)
  have hDl : D.length = 68 := (by rw [hD]; exact Sg.digitsN_length hdl)
  rw [← hD]
  refine CV.loop (X := {c : Nat // c ≤ 68}) (fun c => [(.s 45, .av (.one (.v (.int .i64 (c.1 : Int))))), (.s 44, .av (.one (.v (.int .i64 ((68 : Nat) : Int))))), (.s 43, .av (.one (DZ D))), (.s 13, .av (.one (.lk (fnR 27 [(.ptr 500 0 : SA Dm)])))), (.s 12, .av (.one (.ptr 500 0))), (.b 500, .blk 51 [(none, .sl 501 (byV (by8 (sgN i (bothV seed i D) c.1))).length)]), (.b 501, .row 5 none (byV (by8 (sgN i (bothV seed i D) c.1)))), (KP, .np [500, 501, 502]), (.s 11, .av (.one (DL (Sg.besideN seed h i)))), (.s 0, .av (.one (.v (str (by8 seed))))), (.s 2, .av (.one (.v (.int .i64 (i : Int)))))]) (fun c => 68 - c.1) ⟨0, Nat.zero_le _⟩ (Sub.mk ⟨XV.le_rfl _, XV.le_rfl _, XV.le_rfl _, XV.le_rfl _, XV.le_rfl _, XV.le_of (by rw [sgN, topsN_zero, List.append_nil]; rfl), XV.le_row (by rw [sgN, topsN_zero, List.append_nil]), trivial, XV.le_rfl _, XV.le_rfl _, XV.le_rfl _, trivial⟩ rfl rfl rfl rfl) (fun c => ?_)
  obtain ⟨c, hc4⟩ := c
  simp only
  refine CV.seq ?_
  refine CV.region rfl (fun h => nomatch h) ?_
  refine RV.step1 (OpOk.plain (ok_lss rfl rfl (by decide) rfl rfl) rfl) ?_
  refine RV.done ?_
  refine CV.seq ?_
  refine CV.cond rfl (fun hc => ?_) (fun hc => ?_)
  · have hlt : c < 68 := (by have := of_decide_eq_true hc; omega)
    have hc3 := hD3 c
    have hgl := sgN_length i (bothV seed i D) (bothV_length seed i D) c
    have hch : chV seed i D c = bothV seed i D c := (by rw [bothV, if_pos hlt])
    refine CV.skip ?_
    refine CV.seq ?_
    refine CV.block ?_
    refine CV.seq ?_
    refine CV.region rfl (fun h => nomatch h) ?_
    refine RV.step1 (OpOk.plain (ok_move (.inl rfl) rfl (by decide) rfl) rfl) ?_
    refine RV.step1 (OpOk.plain (ok_idxL (i := c) (k := none) (dzV_at (by omega)) u_ints sz_i64 (by decide) rfl rfl (by decide) rfl rfl) rfl) ?_
    refine RV.step1 (OpOk.plain (ok_loadP ty_i64 (by decide) rfl rfl (by decide) rfl) rfl) ?_
    refine RV.step1 (OpOk.plain (ok_move (.inr rfl) rfl (by decide) rfl) rfl) ?_
    refine RV.step1 (OpOk.plain (ok_move (.inr rfl) rfl (by decide) rfl) rfl) ?_
    refine RV.done ?_
    refine CV.region rfl (fun h => nomatch h) ?_
    refine RV.step1 (OpOk.plain (ok_move (.inl rfl) rfl (by decide) rfl) rfl) ?_
    refine RV.step1 (OpOk.plain (ok_move (.inl rfl) rfl (by decide) rfl) rfl) ?_
    refine RV.step1 (OpOk.plain (ok_move (.inl rfl) rfl (by decide) rfl) rfl) ?_
    refine RV.step1 (OpOk.plain (ok_move (.inl rfl) rfl (by decide) rfl) rfl) ?_
    refine RV.step1 (OpOk.plain (ok_callV (start_con seed i c hs (by omega) (by omega) (by omega)) (free_dg _) (cx.wf hfr) rfl rfl (by decide) Tryd.func29 rfl rfl (.cons rfl Conv.any (.cons rfl Conv.any (.cons rfl Conv.any .nil))) rfl) rfl) ?_
    refine RV.step1 (OpOk.plain (ok_move (.inl rfl) rfl (by decide) rfl) rfl) ?_
    refine RV.step1 (OpOk.plain (ok_move (.inl rfl) rfl (by decide) rfl) rfl) ?_
    refine RV.step1 (OpOk.plain (ok_move (.inl rfl) rfl (by decide) rfl) rfl) ?_
    refine RV.step1 (OpOk.plain (ok_callV (advance_con (Sg.startN seed i c) i c 0 (D.getD c 0) (startN_bn _ _ _) (startN_length _ _ _) (by omega) (by omega) (Nat.zero_le _) (by omega)) (free_dg _) (cx.wf hfr) rfl rfl (by decide) Tryd.func28 rfl rfl (.cons rfl Conv.any (.cons rfl Conv.any (.cons rfl Conv.any (.cons rfl Conv.any (.cons rfl Conv.any .nil))))) rfl) rfl) ?_
    refine RV.step4 (OpOk.plain (ok_callE (sas := [DG (by8 (chV seed i D c))]) (caps := [(.ptr 500 0 : SA Dm)]) (add_con (sgN i (bothV seed i D) c) (chV seed i D c) (chV_length _ _ _ _) (by omega)) (cx.wf hfr) Tryd.func27 rfl rfl rfl rfl (by decide) rfl ⟨rfl, trivial⟩ ⟨rfl, rfl, trivial⟩ ⟨rfl, trivial⟩ rfl rfl rfl rfl) rfl) ?_
    refine RV.done ?_
    refine CV.region rfl (fun h => nomatch h) ?_
    refine RV.step1 (OpOk.plain (ok_add (c := ((c + 1 : Nat) : Int)) (by rw [wrapI (by omega) (by omega)]; omega) rfl rfl (by decide) rfl rfl) rfl) ?_
    refine RV.step1 (OpOk.plain (ok_move (.inl rfl) rfl (by decide) rfl) rfl) ?_
    refine RV.done ?_
    rw [hch]
    exact ⟨⟨c + 1, hlt⟩, Sub.mkr (fun i => if i = 501 then 502 else i) ⟨XV.le_same, XV.le_same, fun _ _ _ _ h => h, XV.le_fix rfl, XV.le_fix rfl, ⟨rfl, by rw [← sgN_by, List.length_append]; exact fun _ _ _ _ h => h⟩, XV.le_row (sgN_by _ _ _), trivial, fun _ _ _ _ h => h, fun _ _ _ _ h => h, fun _ _ _ _ h => h, trivial⟩ rfl rfl rfl rfl, by show 68 - (c + 1) < 68 - c; omega⟩
  · refine CV.exit ?_
    refine CV.seq ?_
    refine CV.seq ?_
    have hc68 : c = 68 := (by have := of_decide_eq_false hc; omega)
    subst hc68
    refine CV.region rfl (fun h => nomatch h) ?_
    refine RV.step1 (OpOk.plain (ok_move (.inl rfl) rfl (by decide) rfl) rfl) ?_
    refine RV.step1 (OpOk.plain (ok_lenL (m := h) (by simp [dgL, Sg.besideN]) u_digs rfl rfl (by decide) rfl) rfl) ?_
    refine RV.step1 (OpOk.plain (ok_move (.inl rfl) rfl (by decide) rfl) rfl) ?_
    refine RV.done ?_
    refine CV.block ?_
    refine CV.loop (X := {l : Nat // l ≤ h}) (fun l => [(.s 63, .av (.one (.v (.int .i64 (l.1 : Int))))), (.s 62, .av (.one (.v (.int .i64 (h : Int))))), (.s 61, .av (.one (DL (Sg.besideN seed h i)))), (.s 13, .av (.one (.lk (fnR 27 [(.ptr 500 0 : SA Dm)])))), (.s 12, .av (.one (.ptr 500 0))), (.b 500, .blk 51 [(none, .sl 501 (byV (by8 (sgN i (bothV seed i D) (68 + l.1)))).length)]), (.b 501, .row 5 none (byV (by8 (sgN i (bothV seed i D) (68 + l.1))))), (KP, .np [500, 501, 502])]) (fun l => h - l.1) ⟨0, Nat.zero_le _⟩ (Sub.mk ⟨XV.le_rfl _, XV.le_rfl _, XV.le_rfl _, XV.le_rfl _, XV.le_rfl _, XV.le_rfl _, XV.le_rfl _, trivial, trivial⟩ rfl rfl rfl rfl) (fun l => ?_)
    obtain ⟨l, hl⟩ := l
    simp only
    refine CV.seq ?_
    refine CV.region rfl (fun h => nomatch h) ?_
    refine RV.step1 (OpOk.plain (ok_lss rfl rfl (by decide) rfl rfl) rfl) ?_
    refine RV.done ?_
    refine CV.seq ?_
    refine CV.cond rfl (fun hc2 => ?_) (fun hc2 => ?_)
    · have hll : l < h := (by have := of_decide_eq_true hc2; omega)
      have hgl := sgN_length i (bothV seed i D) (bothV_length seed i D) (68 + l)
      have hsd : sideV seed i l = bothV seed i D (68 + l) := (by rw [bothV, if_neg (by omega), Nat.add_sub_cancel_left])
      refine CV.skip ?_
      refine CV.seq ?_
      refine CV.block ?_
      refine CV.seq ?_
      refine CV.region rfl (fun h => nomatch h) ?_
      refine RV.step1 (OpOk.plain (ok_idxL (i := l) (k := some 16) (beside_at seed h i l hll) u_digs sz_dig (by decide) rfl rfl (by decide) rfl rfl) rfl) ?_
      refine RV.step1 (OpOk.plain (ok_loadP ty_dig (by decide) rfl rfl (by decide) rfl) rfl) ?_
      refine RV.step2 (OpOk.plain (ok_alloc (i := 1) rfl rfl (by decide) zero_dig rfl rfl rfl rfl) rfl) ?_
      refine RV.step1 (OpOk.plain (ok_store rfl rfl rfl rfl rfl rfl rfl (ty_dig).2 rfl rfl rfl rfl) rfl) ?_
      refine RV.done ?_
      refine CV.region rfl (fun h => nomatch h) ?_
      refine RV.step1 (OpOk.plain (ok_move (.inl rfl) rfl (by decide) rfl) rfl) ?_
      refine RV.step1 (OpOk.plain (ok_load rfl rfl (by decide) rfl rfl rfl ty_dig) rfl) ?_
      refine RV.step4 (OpOk.plain (ok_callE (sas := [DG (by8 (sideV seed i l))]) (caps := [(.ptr 500 0 : SA Dm)]) (add_con (sgN i (bothV seed i D) (68 + l)) (sideV seed i l) (sideV_length _ _ _) (by omega)) (cx.wf hfr) Tryd.func27 rfl rfl rfl rfl (by decide) rfl ⟨rfl, trivial⟩ ⟨rfl, rfl, trivial⟩ ⟨rfl, trivial⟩ rfl rfl rfl rfl) rfl) ?_
      refine RV.done ?_
      refine CV.region rfl (fun h => nomatch h) ?_
      refine RV.step1 (OpOk.plain (ok_add (c := ((l + 1 : Nat) : Int)) (by rw [wrapI (by omega) (by omega)]; omega) rfl rfl (by decide) rfl rfl) rfl) ?_
      refine RV.step1 (OpOk.plain (ok_move (.inl rfl) rfl (by decide) rfl) rfl) ?_
      refine RV.done ?_
      rw [hsd]
      exact ⟨⟨l + 1, hll⟩, Sub.mkr (fun i => if i = 501 then 502 else i) ⟨XV.le_same, XV.le_same, fun _ _ _ _ h => h, XV.le_fix rfl, XV.le_fix rfl, ⟨rfl, by rw [show 68 + (l + 1) = 68 + l + 1 from rfl, ← sgN_by, List.length_append]; exact fun _ _ _ _ h => h⟩, XV.le_row (sgN_by _ _ _), trivial, trivial⟩ rfl rfl rfl rfl, by show h - (l + 1) < h - l; omega⟩
    · refine CV.exit ?_
      refine CV.seq ?_
      have hlh : l = h := (by have := of_decide_eq_false hc2; omega)
      subst hlh
      refine CV.region rfl (fun h => nomatch h) ?_
      refine RV.step1 (OpOk.plain (ok_load rfl rfl (by decide) rfl rfl rfl ty_bytes) rfl) ?_
      refine RV.step1 (OpOk.plain (ok_b2sR (u := by8 (sgN i (bothV seed i D) (68 + l))) (byV_length _) u_bytes u_u8 u_str rfl rfl (by decide) rfl rfl) rfl) ?_
      refine RV.step1 (OpOk.plain (ok_move (.inr rfl) rfl (by decide) rfl) rfl) ?_
      refine RV.step1 (OpOk.plain (ok_move (.inr rfl) rfl (by decide) rfl) rfl) ?_
      refine RV.done ?_
      refine CV.ret ?_
      exact fin2 rfl (.inr rfl) rfl rfl (is_pair (by rw [signN_eq, ← hD, List.append_assoc, ← both_all]; exact fun _ _ _ _ h => h) fun _ _ _ _ h => h)
set_option maxRecDepth 100000 in
theorem Sign_spent (seed msg : List Nat) (h : Nat) (i : Int) (ls : seed.length = 32) (hh : h ≤ 6) (hi : ¬ (0 ≤ i ∧ i < ((2 ^ h : Nat) : Int))) : Con Tryd.prog 14 [(.v (str (by8 seed)) : SA Dm), .v (.int .i64 (h : Int)), .v (.int .i64 i), .v (str (by8 msg))] (.tup [.v (str []), EV 24]) := by
  refine Con.of (n := 73) Tryd.func14 rfl rfl rfl rfl rfl fun cx hfr => ?_
  refine CV.seq ?_
  refine CV.region rfl (fun h => nomatch h) ?_
  refine RV.step1 (OpOk.plain (ok_move (.inr rfl) rfl (by decide) rfl) rfl) ?_
  refine RV.step1 (OpOk.plain (ok_move (.inr rfl) rfl (by decide) rfl) rfl) ?_
  refine RV.done ?_
  refine CV.seq ?_
  refine CV.seq ?_
  refine CV.region rfl (fun h => nomatch h) ?_
  refine RV.step1 (OpOk.plain (ok_move (.inl rfl) rfl (by decide) rfl) rfl) ?_
  refine RV.step1 (OpOk.plain (ok_move (.inl rfl) rfl (by decide) rfl) rfl) ?_
  refine RV.step1 (OpOk.plain (ok_call (validSigner_con seed (h : Int)) rfl rfl (by decide) Tryd.func21 rfl rfl (.cons rfl Conv.any (.cons rfl Conv.any .nil)) rfl hfr rfl) rfl) ?_
  refine RV.step1 (OpOk.plain (ok_not rfl rfl (by decide) rfl) rfl) ?_
  refine RV.done ?_
  refine CV.cond rfl (fun hc => False.elim (by simp at hc; omega)) (fun hc => ?_)
  refine CV.skip ?_
  refine CV.seq ?_
  refine CV.seq ?_
  refine CV.region rfl (fun h => nomatch h) ?_
  refine RV.step1 (OpOk.plain (ok_move (.inl rfl) rfl (by decide) rfl) rfl) ?_
  refine RV.step1 (OpOk.plain (ok_move (.inl rfl) rfl (by decide) rfl) rfl) ?_
  refine RV.step1 (OpOk.plain (ok_call (validIndex_con h hh i) rfl rfl (by decide) Tryd.func25 rfl rfl (.cons rfl Conv.any (.cons rfl Conv.any .nil)) rfl hfr rfl) rfl) ?_
  refine RV.step1 (OpOk.plain (ok_not rfl rfl (by decide) rfl) rfl) ?_
  refine RV.done ?_
  refine CV.cond rfl (fun hc => ?_) (fun hc => False.elim (by exact hi (by simpa using hc)))
  refine CV.seq ?_
  refine CV.region rfl (fun h => nomatch h) ?_
  refine RV.step1 (OpOk.plain (ok_move (.inr rfl) rfl (by decide) rfl) rfl) ?_
  refine RV.step1 (OpOk.plain (ok_move (.inr rfl) rfl (by decide) rfl) rfl) ?_
  refine RV.done ?_
  refine CV.ret ?_
  exact fin2 rfl (.inr rfl) rfl rfl is_rfl2
end Vc
end Go.Proofs.YthadfilandmhiaaDoor
