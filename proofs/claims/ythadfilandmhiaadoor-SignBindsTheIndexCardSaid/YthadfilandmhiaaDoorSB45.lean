/-
  Signatures: Verify of package sign and of the reference.
-/
import Derived.Test.YthadfilandmhiaaDoorSB43
import Derived.Test.YthadfilandmhiaaDoorSB44
set_option linter.unusedVariables false
set_option linter.unusedSimpArgs false
set_option linter.unusedSectionVars false
namespace Go.Proofs.YthadfilandmhiaaDoor
open Go.RowKit
open Go.Lib (hid)
open Dg Zn S
namespace Vc
theorem byte_view {w : World} {v : Value} {bs : List Int} (hb : W.Bs bs) (h : Row .u8 w v bs) : ByteView w v bs := by
  obtain ⟨ao, cap, h1, h2, h3, h4⟩ := h
  exact ⟨hb, ao, cap, h1, h2, h3, fun hne => h4 (List.length_pos_iff.2 hne)⟩
def sigI (l : List Nat) : List Int := l.map fun x : Nat => (x : Int)
theorem sigI_bs {l : List Nat} (h : Bn l) : W.Bs (sigI l) := by
  intro x hx
  obtain ⟨y, hy, rfl⟩ := List.mem_map.1 hx
  have := h y hy
  omega
theorem sigI_length (l : List Nat) : (sigI l).length = l.length := by simp [sigI]
theorem sig_by {l : List Nat} (h : Bn l) : byV (by8 l) = ziV .u8 (sigI l) := by
  rw [enc_by8 (sigI_bs h)]
  congr 2
  rw [sigI, List.map_map]
  conv => lhs; rw [← List.map_id l]
  exact List.map_congr_left fun x _ => by simp
theorem GetInt_by {sig : List Nat} (hb : Bn sig) {n : Int} {u : Nat} {e : Int} (hq : W.dec (sigI sig) = (n, u, e)) : Con Tryd.prog 37 [BY (by8 sig)] (.tup [.v (.int .i64 n), .v (.int .i64 (u : Int)), .v (.int .i64 e)]) := by
  rintro L ρ w vs hlt hn hwf hall
  match vs, hall with
  | [v], ⟨h1, _⟩ =>
    have h2 : (ZI .u8 (sigI sig)).is L ρ w v := by
      show (SA.d (Dm.gen (lstG none (ziV .u8 (sigI sig))))).is L ρ w v
      rw [← sig_by hb]
      exact h1
    refine (GetInt_any v (sigI sig) w (byte_view (sigI_bs hb) (zi_row h2))).mono ?_
    rw [hq]
    rintro e w' ⟨rfl, rfl⟩
    exact ⟨_, rfl, Below.refl _ _, ⟨[_, _, _], rfl, rfl, rfl, rfl, trivial⟩⟩
theorem rGetInt_by {sig : List Nat} (hb : Bn sig) {n : Int} {u : Nat} {e : Int} (hq : W.dec (sigI sig) = (n, u, e)) : Con Tryd.prog 39 [BY (by8 sig)] (.tup [.v (.int .i64 n), .v (.int .i64 (u : Int)), .v (.int .i64 e)]) := by
  rintro L ρ w vs hlt hn hwf hall
  match vs, hall with
  | [v], ⟨h1, _⟩ =>
    have h2 : (ZI .u8 (sigI sig)).is L ρ w v := by
      show (SA.d (Dm.gen (lstG none (ziV .u8 (sigI sig))))).is L ρ w v
      rw [← sig_by hb]
      exact h1
    refine (refGetInt_any v (sigI sig) w (byte_view (sigI_bs hb) (zi_row h2))).mono ?_
    rw [hq]
    rintro e w' ⟨rfl, hbel⟩
    exact ⟨_, rfl, hbel, ⟨[_, _, _], rfl, rfl, rfl, rfl, trivial⟩⟩
theorem ne_of_bne {a b : Nat} (h : (((a : Nat) : Int) != ((b : Nat) : Int)) = true) : a ≠ b := fun e => by rw [e] at h; simp at h
theorem eq_of_bne {a b : Nat} (h : (((a : Nat) : Int) != ((b : Nat) : Int)) = false) : a = b := by
  have : ((a : Nat) : Int) = ((b : Nat) : Int) := by simpa using h
  omega
/-- What Verify returns. -/
def verN (pub : List Nat) (h : Nat) (msg sig : List Nat) : Int × Int :=
  if (W.dec (sigI sig)).2.2 ≠ 0 then (0, (W.dec (sigI sig)).2.2) else
  if ¬ (0 ≤ (W.dec (sigI sig)).1 ∧ (W.dec (sigI sig)).1 < ((2 ^ h : Nat) : Int)) ∨ (sig.drop (W.dec (sigI sig)).2.1).length ≠ (68 + h) * 16 then (0, 2) else
  if Sg.rootN pub h (W.dec (sigI sig)).1.toNat msg (sig.drop (W.dec (sigI sig)).2.1) = pub then ((W.dec (sigI sig)).1, 0) else (0, 10)
section
variable {pub msg sig : List Nat} {h u : Nat} {n e : Int} (hq : W.dec (sigI sig) = (n, u, e))
include hq
theorem ver_err (he : e ≠ 0) : verN pub h msg sig = (0, e) := by rw [verN, hq, if_pos he]
theorem ver_index (he : e = 0) (hn : ¬ (0 ≤ n ∧ n < ((2 ^ h : Nat) : Int))) : verN pub h msg sig = (0, 2) := by
  rw [verN, hq]
  simp only
  rw [if_neg (by simpa using he), if_pos (.inl hn)]
theorem ver_len (he : e = 0) (hl : (sig.drop u).length ≠ (68 + h) * 16) : verN pub h msg sig = (0, 2) := by
  rw [verN, hq]
  simp only
  rw [if_neg (by simpa using he), if_pos (.inr hl)]
theorem ver_root (he : e = 0) (hn : 0 ≤ n ∧ n < ((2 ^ h : Nat) : Int)) (hl : (sig.drop u).length = (68 + h) * 16) : verN pub h msg sig = if Sg.rootN pub h n.toNat msg (sig.drop u) = pub then (n, 0) else (0, 10) := by
  rw [verN, hq]
  simp only
  rw [if_neg (by simpa using he), if_neg (fun q => q.elim (fun q => q hn) fun q => q hl)]
end
theorem by8_inj {a b : List Nat} (ha : Bn a) (hb : Bn b) (h : by8 a = by8 b) : a = b := by
  have h1 := tx_by8 ha
  have h2 := tx_by8 hb
  rw [h] at h1
  exact h1.symm.trans h2
theorem is_ver {p : Int × Int} {a b : Int} (h : p = (a, b)) : ∀ L ρ w v, (AV.tup [(.v (.int .i64 a) : SA Dm), EV b]).is L ρ w v → (AV.tup [(.v (.int .i64 p.1) : SA Dm), EV p.2]).is L ρ w v := by subst h; exact is_rfl2
theorem bn_drop {l : List Nat} (h : Bn l) (u : Nat) : Bn (l.drop u) := fun x hx => h x (List.mem_of_mem_drop hx)
theorem rootN_bn (pub : List Nat) (h i : Nat) (msg rest : List Nat) : Bn (Sg.rootN pub h i msg rest) := by
  have key : ∀ (n : Nat) (bs : Nat → List Nat) (i : Nat) (v : List Nat), Bn v → Bn (Sg.upN bs i n v) := by
    intro n
    induction n with
    | zero => intro bs i v hv; exact hv
    | succ n ih => intro bs i v hv; exact ih _ _ _ (by split <;> exact join_bn _ _)
  exact key _ _ _ _ (Sg.ofL_bn _ _)
set_option maxRecDepth 100000 in
theorem Verify_con (pub msg sig : List Nat) (h u : Nat) (n e : Int) (hp : Bn pub) (lp : pub.length = 16) (hm : Bn msg) (lm : msg.length ≤ 2000) (hsb : Bn sig) (lb : sig.length ≤ 100000) (hh : h ≤ 6) (hq : W.dec (sigI sig) = (n, u, e)) (hu : u ≤ sig.length) : Con Tryd.prog 18 [DG (by8 pub), .v (.int .i64 (h : Int)), .v (str (by8 msg)), .v (str (by8 sig))] (.tup [.v (.int .i64 (verN pub h msg sig).1), EV (verN pub h msg sig).2]) := by
  refine Con.of (n := 54) Tryd.func18 rfl rfl rfl rfl rfl fun cx hfr => ?_
  refine CV.seq ?_
  refine CV.region rfl (fun h => nomatch h) ?_
  refine RV.step2 (OpOk.plain (ok_box (i := 0) rfl rfl (by decide) rfl rfl rfl rfl rfl) rfl) ?_
  refine RV.step1 (OpOk.plain (ok_move (.inr rfl) rfl (by decide) rfl) rfl) ?_
  refine RV.step1 (OpOk.plain (ok_move (.inr rfl) rfl (by decide) rfl) rfl) ?_
  refine RV.done ?_
  refine CV.seq ?_
  refine CV.seq ?_
  refine CV.region rfl (fun h => nomatch h) ?_
  refine RV.step1 (OpOk.plain (ok_move (.inl rfl) rfl (by decide) rfl) rfl) ?_
  refine RV.step1 (OpOk.plain (ok_call (validHeight_con (h : Int)) rfl rfl (by decide) Tryd.func36 rfl rfl (.cons rfl Conv.any .nil) rfl hfr rfl) rfl) ?_
  refine RV.step1 (OpOk.plain (ok_not rfl rfl (by decide) rfl) rfl) ?_
  refine RV.done ?_
  refine CV.cond rfl (fun hc => False.elim (by simp at hc; omega)) (fun hc => ?_)
  refine CV.skip ?_
  refine CV.seq ?_
  refine CV.seq ?_
  refine CV.region rfl (fun h => nomatch h) ?_
  refine RV.step1 (OpOk.plain (ok_move (.inl rfl) rfl (by decide) rfl) rfl) ?_
  refine RV.step1 (OpOk.plain (ok_lenT (by8_length msg) u_str rfl rfl (by decide) rfl) rfl) ?_
  refine RV.step1 (OpOk.plain (ok_gtr rfl rfl (by decide) rfl rfl) rfl) ?_
  refine RV.done ?_
  refine CV.cond rfl (fun hc => False.elim (by simp at hc; omega)) (fun hc => ?_)
  refine CV.skip ?_
  refine CV.seq ?_
  refine CV.region rfl (fun h => nomatch h) ?_
  refine RV.step1 (OpOk.plain (ok_move (.inl rfl) rfl (by decide) rfl) rfl) ?_
  refine RV.step1 (OpOk.plain (ok_s2b (by rw [by8_length]; omega) u_str u_bytes u_u8 rfl rfl (by decide) rfl) rfl) ?_
  refine RV.step1 (OpOk.plain (ok_call (GetInt_by hsb hq) rfl rfl (by decide) Tryd.func37 rfl rfl (.cons rfl Conv.any .nil) rfl hfr rfl) rfl) ?_
  refine RV.step1 (OpOk.plain (ok_move (.inl rfl) rfl (by decide) rfl) rfl) ?_
  refine RV.step1 (OpOk.plain (ok_extract rfl rfl (by decide) rfl rfl) rfl) ?_
  refine RV.step1 (OpOk.plain (ok_extract rfl rfl (by decide) rfl rfl) rfl) ?_
  refine RV.step1 (OpOk.plain (ok_extract rfl rfl (by decide) rfl rfl) rfl) ?_
  refine RV.step1 (OpOk.plain (ok_move (.inr rfl) rfl (by decide) rfl) rfl) ?_
  refine RV.step1 (OpOk.plain (ok_move (.inr rfl) rfl (by decide) rfl) rfl) ?_
  refine RV.step1 (OpOk.plain (ok_move (.inr rfl) rfl (by decide) rfl) rfl) ?_
  refine RV.done ?_
  refine CV.seq ?_
  refine CV.seq ?_
  refine CV.region rfl (fun h => nomatch h) ?_
  refine RV.step1 (OpOk.plain (ok_move (.inl rfl) rfl (by decide) rfl) rfl) ?_
  refine RV.step1 (OpOk.plain (ok_neq rfl rfl (by decide) rfl rfl) rfl) ?_
  refine RV.done ?_
  refine CV.cond rfl (fun he => ?_) (fun he => ?_)
  · have he' : e ≠ 0 := (by simpa using he)
    refine CV.seq ?_
    refine CV.region rfl (fun h => nomatch h) ?_
    refine RV.step1 (OpOk.plain (ok_move (.inl rfl) rfl (by decide) rfl) rfl) ?_
    refine RV.step1 (OpOk.plain (ok_move (.inr rfl) rfl (by decide) rfl) rfl) ?_
    refine RV.step1 (OpOk.plain (ok_move (.inr rfl) rfl (by decide) rfl) rfl) ?_
    refine RV.done ?_
    refine CV.ret ?_
    exact fin2 rfl (.inr rfl) rfl rfl (is_ver (ver_err hq he'))
  · have he' : e = 0 := (by simpa using he)
    refine CV.skip ?_
    refine CV.seq ?_
    refine CV.region rfl (fun h => nomatch h) ?_
    refine RV.step1 (OpOk.plain (ok_move (.inl rfl) rfl (by decide) rfl) rfl) ?_
    refine RV.step1 (OpOk.plain (ok_move (.inl rfl) rfl (by decide) rfl) rfl) ?_
    refine RV.step1 (OpOk.plain (ok_cutT (v := by8 (sig.drop u)) (some u) none (by show (List.take (by8 sig).length (by8 sig)).drop u = _; rw [List.take_length, by8, ← List.map_drop]; rfl) (by show u ≤ (by8 sig).length; rw [by8_length]; exact hu) (Nat.le_refl _) u_str rfl rfl (by decide) rfl rfl trivial) rfl) ?_
    refine RV.step1 (OpOk.plain (ok_move (.inr rfl) rfl (by decide) rfl) rfl) ?_
    refine RV.done ?_
    refine CV.seq ?_
    refine CV.seq ?_
    refine CV.region rfl (fun h => nomatch h) ?_
    refine RV.step1 (OpOk.plain (ok_move (.inl rfl) rfl (by decide) rfl) rfl) ?_
    refine RV.step1 (OpOk.plain (ok_move (.inl rfl) rfl (by decide) rfl) rfl) ?_
    refine RV.step1 (OpOk.plain (ok_call (validIndex_con h hh n) rfl rfl (by decide) Tryd.func25 rfl rfl (.cons rfl Conv.any (.cons rfl Conv.any .nil)) rfl hfr rfl) rfl) ?_
    refine RV.step1 (OpOk.plain (ok_not rfl rfl (by decide) rfl) rfl) ?_
    refine RV.step1 (OpOk.plain (ok_move (.inl rfl) rfl (by decide) rfl) rfl) ?_
    refine RV.bool (fun hv => ?_) (fun hv => ?_)
    · have hv' : ¬ (0 ≤ n ∧ n < ((2 ^ h : Nat) : Int)) := (fun q => by rw [decide_eq_true q] at hv; exact absurd hv (by decide))
      refine RV.step1 (OpOk.skip rfl rfl rfl rfl rfl (by decide)) ?_
      refine RV.step1 (OpOk.skip rfl rfl rfl rfl rfl (by decide)) ?_
      refine RV.step1 (OpOk.skip rfl rfl rfl rfl rfl (by decide)) ?_
      refine RV.step1 (OpOk.skip rfl rfl rfl rfl rfl (by decide)) ?_
      refine RV.step1 (OpOk.skip rfl rfl rfl rfl rfl (by decide)) ?_
      refine RV.step1 (OpOk.skip rfl rfl rfl rfl rfl (by decide)) ?_
      refine RV.step1 (OpOk.plain (ok_pickT rfl rfl (by decide) rfl rfl rfl) rfl) ?_
      refine RV.done ?_
      refine CV.yes rfl ?_
      refine CV.seq ?_
      refine CV.region rfl (fun h => nomatch h) ?_
      refine RV.step1 (OpOk.plain (ok_move (.inr rfl) rfl (by decide) rfl) rfl) ?_
      refine RV.step1 (OpOk.plain (ok_move (.inr rfl) rfl (by decide) rfl) rfl) ?_
      refine RV.done ?_
      refine CV.ret ?_
      exact fin2 rfl (.inr rfl) rfl rfl (is_ver (ver_index hq he' hv'))
    · have hv' : 0 ≤ n ∧ n < ((2 ^ h : Nat) : Int) := (by simpa using hv)
      refine RV.step1 (OpOk.yes (ok_move (.inl rfl) rfl (by decide) rfl) rfl rfl rfl) ?_
      refine RV.step1 (OpOk.yes (ok_lenT (m := (sig.drop u).length) (by8_length _) u_str rfl rfl (by decide) rfl) rfl rfl rfl) ?_
      refine RV.step1 (OpOk.yes (ok_move (.inl rfl) rfl (by decide) rfl) rfl rfl rfl) ?_
      refine RV.step1 (OpOk.yes (ok_add (c := ((68 + h : Nat) : Int)) (by rw [wrapI (by omega) (by omega)]; omega) rfl rfl (by decide) rfl rfl) rfl rfl rfl) ?_
      refine RV.step1 (OpOk.yes (ok_mul (c := (((68 + h) * 16 : Nat) : Int)) (by rw [wrapI (by omega) (by omega)]; omega) rfl rfl (by decide) rfl rfl) rfl rfl rfl) ?_
      refine RV.step1 (OpOk.yes (ok_neq rfl rfl (by decide) rfl rfl) rfl rfl rfl) ?_
      refine RV.step1 (OpOk.plain (ok_pickF rfl rfl (by decide) rfl rfl rfl) rfl) ?_
      refine RV.done ?_
      refine CV.cond rfl (fun hl => ?_) (fun hl => ?_)
      · have hl' : (sig.drop u).length ≠ (68 + h) * 16 := (ne_of_bne hl)
        refine CV.seq ?_
        refine CV.region rfl (fun h => nomatch h) ?_
        refine RV.step1 (OpOk.plain (ok_move (.inr rfl) rfl (by decide) rfl) rfl) ?_
        refine RV.step1 (OpOk.plain (ok_move (.inr rfl) rfl (by decide) rfl) rfl) ?_
        refine RV.done ?_
        refine CV.ret ?_
        exact fin2 rfl (.inr rfl) rfl rfl (is_ver (ver_len hq he' hl'))
      · have hl' : (sig.drop u).length = (68 + h) * 16 := (eq_of_bne hl)
        obtain ⟨i, rfl⟩ : ∃ i : Nat, n = (i : Int) := ⟨n.toNat, by omega⟩
        have hi : i < 2 ^ h := (by have := hv'.2; exact_mod_cast this)
        have hR := ver_root (pub := pub) (msg := msg) hq he' hv' hl'
        rw [Int.toNat_natCast] at hR
        refine CV.skip ?_
        refine CV.seq ?_
        refine CV.seq ?_
        refine CV.region rfl (fun _ => by kernel_rfl) ?_
        refine RV.step1 (OpOk.plain (ok_load rfl rfl (by decide) rfl rfl rfl ty_dig) rfl) ?_
        refine RV.step1 (OpOk.plain (ok_move (.inl rfl) rfl (by decide) rfl) rfl) ?_
        refine RV.step1 (OpOk.plain (ok_move (.inl rfl) rfl (by decide) rfl) rfl) ?_
        refine RV.step1 (OpOk.plain (ok_move (.inl rfl) rfl (by decide) rfl) rfl) ?_
        refine RV.step1 (OpOk.plain (ok_move (.inl rfl) rfl (by decide) rfl) rfl) ?_
        refine RV.step1 (OpOk.plain (ok_call (signedRoot_con pub msg (sig.drop u) h i hp lp hm lm (bn_drop hsb u) hl' hh hi) rfl rfl (by decide) Tryd.func38 rfl rfl (.cons rfl Conv.any (.cons rfl Conv.any (.cons rfl Conv.any (.cons rfl Conv.any (.cons rfl Conv.any .nil))))) rfl hfr rfl) rfl) ?_
        refine RV.step1 (OpOk.plain (ok_load rfl rfl (by decide) rfl rfl rfl ty_dig) rfl) ?_
        refine RV.step1 (OpOk.plain (ok_cmpD (neg := true) rfl rfl rfl rfl (by decide) rfl rfl) rfl) ?_
        refine RV.drawn (by kernel_rfl) ?_
        refine CV.cond rfl (fun hc2 => ?_) (fun hc2 => ?_)
        · have hne : ¬ Sg.rootN pub h i msg (sig.drop u) = pub := (fun q => by rw [q] at hc2; simp at hc2)
          rw [if_neg hne] at hR
          refine CV.seq ?_
          refine CV.region rfl (fun h => nomatch h) ?_
          refine RV.step1 (OpOk.plain (ok_move (.inr rfl) rfl (by decide) rfl) rfl) ?_
          refine RV.step1 (OpOk.plain (ok_move (.inr rfl) rfl (by decide) rfl) rfl) ?_
          refine RV.done ?_
          refine CV.ret ?_
          exact fin2 rfl (.inr rfl) rfl rfl (is_ver hR)
        · have heq : Sg.rootN pub h i msg (sig.drop u) = pub := (by8_inj (rootN_bn _ _ _ _ _) hp (by simpa using hc2))
          rw [if_pos heq] at hR
          refine CV.skip ?_
          refine CV.seq ?_
          refine CV.region rfl (fun h => nomatch h) ?_
          refine RV.step1 (OpOk.plain (ok_move (.inl rfl) rfl (by decide) rfl) rfl) ?_
          refine RV.step1 (OpOk.plain (ok_move (.inr rfl) rfl (by decide) rfl) rfl) ?_
          refine RV.step1 (OpOk.plain (ok_move (.inr rfl) rfl (by decide) rfl) rfl) ?_
          refine RV.done ?_
          refine CV.ret ?_
          exact fin2 rfl (.inr rfl) rfl rfl (is_ver hR)
set_option maxRecDepth 100000 in
theorem Verify_bad (pub msg sig : List Nat) (h : Int) (hh : ¬ (0 ≤ h ∧ h ≤ 6)) : Con Tryd.prog 18 [DG (by8 pub), .v (.int .i64 h), .v (str (by8 msg)), .v (str (by8 sig))] (.tup [.v (.int .i64 0), EV 1]) := by
  refine Con.of (n := 54) Tryd.func18 rfl rfl rfl rfl rfl fun cx hfr => ?_
  refine CV.seq ?_
  refine CV.region rfl (fun h => nomatch h) ?_
  refine RV.step2 (OpOk.plain (ok_box (i := 0) rfl rfl (by decide) rfl rfl rfl rfl rfl) rfl) ?_
  refine RV.step1 (OpOk.plain (ok_move (.inr rfl) rfl (by decide) rfl) rfl) ?_
  refine RV.step1 (OpOk.plain (ok_move (.inr rfl) rfl (by decide) rfl) rfl) ?_
  refine RV.done ?_
  refine CV.seq ?_
  refine CV.seq ?_
  refine CV.region rfl (fun h => nomatch h) ?_
  refine RV.step1 (OpOk.plain (ok_move (.inl rfl) rfl (by decide) rfl) rfl) ?_
  refine RV.step1 (OpOk.plain (ok_call (validHeight_con h) rfl rfl (by decide) Tryd.func36 rfl rfl (.cons rfl Conv.any .nil) rfl hfr rfl) rfl) ?_
  refine RV.step1 (OpOk.plain (ok_not rfl rfl (by decide) rfl) rfl) ?_
  refine RV.done ?_
  refine CV.cond rfl (fun hc => ?_) (fun hc => False.elim (by simp at hc; omega))
  refine CV.seq ?_
  refine CV.region rfl (fun h => nomatch h) ?_
  refine RV.step1 (OpOk.plain (ok_move (.inr rfl) rfl (by decide) rfl) rfl) ?_
  refine RV.step1 (OpOk.plain (ok_move (.inr rfl) rfl (by decide) rfl) rfl) ?_
  refine RV.done ?_
  refine CV.ret ?_
  exact fin2 rfl (.inr rfl) rfl rfl is_rfl2
set_option maxRecDepth 100000 in
theorem rVerify_bad (pub msg sig : List Nat) (h : Int) (hh : ¬ (0 ≤ h ∧ h ≤ 6)) : Con Tryd.prog 19 [DG (by8 pub), .v (.int .i64 h), .v (str (by8 msg)), .v (str (by8 sig))] (.tup [.v (.int .i64 0), EV 1]) := by
  refine Con.of (n := 118) Tryd.func19 rfl rfl rfl rfl rfl fun cx hfr => ?_
  refine CV.seq ?_
  refine CV.region rfl (fun h => nomatch h) ?_
  refine RV.step2 (OpOk.plain (ok_box (i := 0) rfl rfl (by decide) rfl rfl rfl rfl rfl) rfl) ?_
  refine RV.step1 (OpOk.plain (ok_move (.inr rfl) rfl (by decide) rfl) rfl) ?_
  refine RV.step1 (OpOk.plain (ok_move (.inr rfl) rfl (by decide) rfl) rfl) ?_
  refine RV.done ?_
  refine CV.seq ?_
  refine CV.seq ?_
  refine CV.region rfl (fun h => nomatch h) ?_
  refine RV.step1 (OpOk.plain (ok_move (.inl rfl) rfl (by decide) rfl) rfl) ?_
  refine RV.step1 (OpOk.plain (ok_lss rfl rfl (by decide) rfl rfl) rfl) ?_
  refine RV.step1 (OpOk.plain (ok_move (.inl rfl) rfl (by decide) rfl) rfl) ?_
  refine RV.bool (fun h0 => ?_) (fun h0 => ?_)
  · refine RV.step1 (OpOk.skip rfl rfl rfl rfl rfl (by decide)) ?_
    refine RV.step1 (OpOk.skip rfl rfl rfl rfl rfl (by decide)) ?_
    refine RV.step1 (OpOk.plain (ok_pickT rfl rfl (by decide) rfl rfl rfl) rfl) ?_
    refine RV.done ?_
    refine CV.yes rfl ?_
    refine CV.seq ?_
    refine CV.region rfl (fun h => nomatch h) ?_
    refine RV.step1 (OpOk.plain (ok_move (.inr rfl) rfl (by decide) rfl) rfl) ?_
    refine RV.step1 (OpOk.plain (ok_move (.inr rfl) rfl (by decide) rfl) rfl) ?_
    refine RV.done ?_
    refine CV.ret ?_
    exact fin2 rfl (.inr rfl) rfl rfl is_rfl2
  · refine RV.step1 (OpOk.yes (ok_move (.inl rfl) rfl (by decide) rfl) rfl rfl rfl) ?_
    refine RV.step1 (OpOk.yes (ok_gtr rfl rfl (by decide) rfl rfl) rfl rfl rfl) ?_
    refine RV.step1 (OpOk.plain (ok_pickF rfl rfl (by decide) rfl rfl rfl) rfl) ?_
    refine RV.done ?_
    refine CV.cond rfl (fun hc => ?_) (fun hc => False.elim (by have h1 := of_decide_eq_false hc; have h2 := of_decide_eq_false h0; exact hh ⟨by omega, by omega⟩))
    refine CV.seq ?_
    refine CV.region rfl (fun h => nomatch h) ?_
    refine RV.step1 (OpOk.plain (ok_move (.inr rfl) rfl (by decide) rfl) rfl) ?_
    refine RV.step1 (OpOk.plain (ok_move (.inr rfl) rfl (by decide) rfl) rfl) ?_
    refine RV.done ?_
    refine CV.ret ?_
    exact fin2 rfl (.inr rfl) rfl rfl is_rfl2
theorem str_topsE (g : Nat → List Nat) (k : Nat) : by8 (topsN g k) ++ by8 (g k) = by8 (topsN g (k + 1)) := by rw [topsN_succ, by8_append]
set_option maxRecDepth 100000 in
theorem rVerify_con (pub msg sig : List Nat) (h u : Nat) (n e : Int) (hp : Bn pub) (lp : pub.length = 16) (hm : Bn msg) (lm : msg.length ≤ 2000) (hsb : Bn sig) (lb : sig.length ≤ 100000) (hh : h ≤ 6) (hq : W.dec (sigI sig) = (n, u, e)) (hu : u ≤ sig.length) : Con Tryd.prog 19 [DG (by8 pub), .v (.int .i64 (h : Int)), .v (str (by8 msg)), .v (str (by8 sig))] (.tup [.v (.int .i64 (verN pub h msg sig).1), EV (verN pub h msg sig).2]) := by
  have hp64 := pow_small hh
  refine Con.of (n := 118) Tryd.func19 rfl rfl rfl rfl rfl fun cx hfr => ?_
  refine CV.seq ?_
  refine CV.region rfl (fun h => nomatch h) ?_
  refine RV.step2 (OpOk.plain (ok_box (i := 0) rfl rfl (by decide) rfl rfl rfl rfl rfl) rfl) ?_
  refine RV.step1 (OpOk.plain (ok_move (.inr rfl) rfl (by decide) rfl) rfl) ?_
  refine RV.step1 (OpOk.plain (ok_move (.inr rfl) rfl (by decide) rfl) rfl) ?_
  refine RV.done ?_
  refine CV.seq ?_
  refine CV.seq ?_
  refine CV.region rfl (fun h => nomatch h) ?_
  refine RV.step1 (OpOk.plain (ok_move (.inl rfl) rfl (by decide) rfl) rfl) ?_
  refine RV.step1 (OpOk.plain (ok_lss rfl rfl (by decide) rfl rfl) rfl) ?_
  refine RV.step1 (OpOk.plain (ok_move (.inl rfl) rfl (by decide) rfl) rfl) ?_
  refine RV.bool (fun hb => False.elim (by have h1 := of_decide_eq_true hb; omega)) (fun hb => ?_)
  refine RV.step1 (OpOk.yes (ok_move (.inl rfl) rfl (by decide) rfl) rfl rfl rfl) ?_
  refine RV.step1 (OpOk.yes (ok_gtr rfl rfl (by decide) rfl rfl) rfl rfl rfl) ?_
  refine RV.step1 (OpOk.plain (ok_pickF rfl rfl (by decide) rfl rfl rfl) rfl) ?_
  refine RV.done ?_
  refine CV.cond rfl (fun hc => False.elim (by have h1 := of_decide_eq_true hc; omega)) (fun hc => ?_)
  refine CV.skip ?_
  refine CV.seq ?_
  refine CV.seq ?_
  refine CV.region rfl (fun h => nomatch h) ?_
  refine RV.step1 (OpOk.plain (ok_move (.inl rfl) rfl (by decide) rfl) rfl) ?_
  refine RV.step1 (OpOk.plain (ok_lenT (by8_length msg) u_str rfl rfl (by decide) rfl) rfl) ?_
  refine RV.step1 (OpOk.plain (ok_gtr rfl rfl (by decide) rfl rfl) rfl) ?_
  refine RV.done ?_
  refine CV.cond rfl (fun hc => False.elim (by simp at hc; omega)) (fun hc => ?_)
  refine CV.skip ?_
  refine CV.seq ?_
  refine CV.region rfl (fun h => nomatch h) ?_
  refine RV.step1 (OpOk.plain (ok_move (.inl rfl) rfl (by decide) rfl) rfl) ?_
  refine RV.step1 (OpOk.plain (ok_s2b (by rw [by8_length]; omega) u_str u_bytes u_u8 rfl rfl (by decide) rfl) rfl) ?_
  refine RV.step1 (OpOk.plain (ok_call (rGetInt_by hsb hq) rfl rfl (by decide) Tryd.func39 rfl rfl (.cons rfl Conv.any .nil) rfl hfr rfl) rfl) ?_
  refine RV.step1 (OpOk.plain (ok_move (.inl rfl) rfl (by decide) rfl) rfl) ?_
  refine RV.step1 (OpOk.plain (ok_extract rfl rfl (by decide) rfl rfl) rfl) ?_
  refine RV.step1 (OpOk.plain (ok_extract rfl rfl (by decide) rfl rfl) rfl) ?_
  refine RV.step1 (OpOk.plain (ok_extract rfl rfl (by decide) rfl rfl) rfl) ?_
  refine RV.step1 (OpOk.plain (ok_move (.inr rfl) rfl (by decide) rfl) rfl) ?_
  refine RV.step1 (OpOk.plain (ok_move (.inr rfl) rfl (by decide) rfl) rfl) ?_
  refine RV.step1 (OpOk.plain (ok_move (.inr rfl) rfl (by decide) rfl) rfl) ?_
  refine RV.done ?_
  refine CV.seq ?_
  refine CV.seq ?_
  refine CV.region rfl (fun h => nomatch h) ?_
  refine RV.step1 (OpOk.plain (ok_move (.inl rfl) rfl (by decide) rfl) rfl) ?_
  refine RV.step1 (OpOk.plain (ok_neq rfl rfl (by decide) rfl rfl) rfl) ?_
  refine RV.done ?_
  refine CV.cond rfl (fun he => ?_) (fun he => ?_)
  · have he' : e ≠ 0 := (by simpa using he)
    refine CV.seq ?_
    refine CV.region rfl (fun h => nomatch h) ?_
    refine RV.step1 (OpOk.plain (ok_move (.inl rfl) rfl (by decide) rfl) rfl) ?_
    refine RV.step1 (OpOk.plain (ok_move (.inr rfl) rfl (by decide) rfl) rfl) ?_
    refine RV.step1 (OpOk.plain (ok_move (.inr rfl) rfl (by decide) rfl) rfl) ?_
    refine RV.done ?_
    refine CV.ret ?_
    exact fin2 rfl (.inr rfl) rfl rfl (is_ver (ver_err hq he'))
  · have he' : e = 0 := (by simpa using he)
    refine CV.skip ?_
    refine CV.seq ?_
    refine CV.region rfl (fun h => nomatch h) ?_
    refine RV.step1 (OpOk.plain (ok_move (.inl rfl) rfl (by decide) rfl) rfl) ?_
    refine RV.step1 (OpOk.plain (ok_move (.inl rfl) rfl (by decide) rfl) rfl) ?_
    refine RV.step1 (OpOk.plain (ok_cutT (v := by8 (sig.drop u)) (some u) none (by show (List.take (by8 sig).length (by8 sig)).drop u = _; rw [List.take_length, by8, ← List.map_drop]; rfl) (by show u ≤ (by8 sig).length; rw [by8_length]; exact hu) (Nat.le_refl _) u_str rfl rfl (by decide) rfl rfl trivial) rfl) ?_
    refine RV.step1 (OpOk.plain (ok_move (.inr rfl) rfl (by decide) rfl) rfl) ?_
    refine RV.done ?_
    refine CV.seq ?_
    refine CV.seq ?_
    refine CV.region rfl (fun h => nomatch h) ?_
    refine RV.step1 (OpOk.plain (ok_move (.inl rfl) rfl (by decide) rfl) rfl) ?_
    refine RV.step1 (OpOk.plain (ok_lss rfl rfl (by decide) rfl rfl) rfl) ?_
    refine RV.step1 (OpOk.plain (ok_move (.inl rfl) rfl (by decide) rfl) rfl) ?_
    refine RV.bool (fun hv0 => ?_) (fun hv0 => ?_)
    · have hv' : ¬ (0 ≤ n ∧ n < ((2 ^ h : Nat) : Int)) := (by have h1 := of_decide_eq_true hv0; omega)
      refine RV.step1 (OpOk.skip rfl rfl rfl rfl rfl (by decide)) ?_
      refine RV.step1 (OpOk.skip rfl rfl rfl rfl rfl (by decide)) ?_
      refine RV.step1 (OpOk.skip rfl rfl rfl rfl rfl (by decide)) ?_
      refine RV.step1 (OpOk.skip rfl rfl rfl rfl rfl (by decide)) ?_
      refine RV.step1 (OpOk.plain (ok_pickT rfl rfl (by decide) rfl rfl rfl) rfl) ?_
      refine RV.step1 (OpOk.plain (ok_move (.inl rfl) rfl (by decide) rfl) rfl) ?_
      refine RV.step1 (OpOk.skip rfl rfl rfl rfl rfl (by decide)) ?_
      refine RV.step1 (OpOk.skip rfl rfl rfl rfl rfl (by decide)) ?_
      refine RV.step1 (OpOk.skip rfl rfl rfl rfl rfl (by decide)) ?_
      refine RV.step1 (OpOk.skip rfl rfl rfl rfl rfl (by decide)) ?_
      refine RV.step1 (OpOk.skip rfl rfl rfl rfl rfl (by decide)) ?_
      refine RV.step1 (OpOk.skip rfl rfl rfl rfl rfl (by decide)) ?_
      refine RV.step1 (OpOk.plain (ok_pickT rfl rfl (by decide) rfl rfl rfl) rfl) ?_
      refine RV.done ?_
      refine CV.yes rfl ?_
      refine CV.seq ?_
      refine CV.region rfl (fun h => nomatch h) ?_
      refine RV.step1 (OpOk.plain (ok_move (.inr rfl) rfl (by decide) rfl) rfl) ?_
      refine RV.step1 (OpOk.plain (ok_move (.inr rfl) rfl (by decide) rfl) rfl) ?_
      refine RV.done ?_
      refine CV.ret ?_
      exact fin2 rfl (.inr rfl) rfl rfl (is_ver (ver_index hq he' hv'))
    · have hn0 := of_decide_eq_false hv0
      refine RV.step1 (OpOk.yes (ok_move (.inl rfl) rfl (by decide) rfl) rfl rfl rfl) ?_
      refine RV.step1 (OpOk.yes (ok_move (.inl rfl) rfl (by decide) rfl) rfl rfl rfl) ?_
      refine RV.step1 (OpOk.yes (ok_shl (j := h) (c := ((2 ^ h : Nat) : Int)) (by omega) (shl_small hh) rfl rfl (by decide) rfl rfl) rfl rfl rfl) ?_
      refine RV.step1 (OpOk.yes (ok_geq rfl rfl (by decide) rfl rfl) rfl rfl rfl) ?_
      refine RV.step1 (OpOk.plain (ok_pickF rfl rfl (by decide) rfl rfl rfl) rfl) ?_
      refine RV.step1 (OpOk.plain (ok_move (.inl rfl) rfl (by decide) rfl) rfl) ?_
      refine RV.bool (fun hv1 => ?_) (fun hv1 => ?_)
      · have hv' : ¬ (0 ≤ n ∧ n < ((2 ^ h : Nat) : Int)) := (by have h1 := of_decide_eq_true hv1; omega)
        refine RV.step1 (OpOk.skip rfl rfl rfl rfl rfl (by decide)) ?_
        refine RV.step1 (OpOk.skip rfl rfl rfl rfl rfl (by decide)) ?_
        refine RV.step1 (OpOk.skip rfl rfl rfl rfl rfl (by decide)) ?_
        refine RV.step1 (OpOk.skip rfl rfl rfl rfl rfl (by decide)) ?_
        refine RV.step1 (OpOk.skip rfl rfl rfl rfl rfl (by decide)) ?_
        refine RV.step1 (OpOk.skip rfl rfl rfl rfl rfl (by decide)) ?_
        refine RV.step1 (OpOk.plain (ok_pickT rfl rfl (by decide) rfl rfl rfl) rfl) ?_
        refine RV.done ?_
        refine CV.yes rfl ?_
        refine CV.seq ?_
        refine CV.region rfl (fun h => nomatch h) ?_
        refine RV.step1 (OpOk.plain (ok_move (.inr rfl) rfl (by decide) rfl) rfl) ?_
        refine RV.step1 (OpOk.plain (ok_move (.inr rfl) rfl (by decide) rfl) rfl) ?_
        refine RV.done ?_
        refine CV.ret ?_
        exact fin2 rfl (.inr rfl) rfl rfl (is_ver (ver_index hq he' hv'))
      · have hv' : 0 ≤ n ∧ n < ((2 ^ h : Nat) : Int) := (by have h1 := of_decide_eq_false hv1; omega)
        refine RV.step1 (OpOk.yes (ok_move (.inl rfl) rfl (by decide) rfl) rfl rfl rfl) ?_
        refine RV.step1 (OpOk.yes (ok_lenT (m := (sig.drop u).length) (by8_length _) u_str rfl rfl (by decide) rfl) rfl rfl rfl) ?_
        refine RV.step1 (OpOk.yes (ok_move (.inl rfl) rfl (by decide) rfl) rfl rfl rfl) ?_
        refine RV.step1 (OpOk.yes (ok_add (c := ((68 + h : Nat) : Int)) (by rw [wrapI (by omega) (by omega)]; omega) rfl rfl (by decide) rfl rfl) rfl rfl rfl) ?_
        refine RV.step1 (OpOk.yes (ok_mul (c := (((68 + h) * 16 : Nat) : Int)) (by rw [wrapI (by omega) (by omega)]; omega) rfl rfl (by decide) rfl rfl) rfl rfl rfl) ?_
        refine RV.step1 (OpOk.yes (ok_neq rfl rfl (by decide) rfl rfl) rfl rfl rfl) ?_
        refine RV.step1 (OpOk.plain (ok_pickF rfl rfl (by decide) rfl rfl rfl) rfl) ?_
        refine RV.done ?_
        refine CV.cond rfl (fun hl => ?_) (fun hl => ?_)
        · have hl' : (sig.drop u).length ≠ (68 + h) * 16 := (ne_of_bne hl)
          refine CV.seq ?_
          refine CV.region rfl (fun h => nomatch h) ?_
          refine RV.step1 (OpOk.plain (ok_move (.inr rfl) rfl (by decide) rfl) rfl) ?_
          refine RV.step1 (OpOk.plain (ok_move (.inr rfl) rfl (by decide) rfl) rfl) ?_
          refine RV.done ?_
          refine CV.ret ?_
          exact fin2 rfl (.inr rfl) rfl rfl (is_ver (ver_len hq he' hl'))
        · have hl' : (sig.drop u).length = (68 + h) * 16 := (eq_of_bne hl)
          obtain ⟨i, rfl⟩ : ∃ i : Nat, n = (i : Int) := ⟨n.toNat, by omega⟩
          have hi : i < 2 ^ h := (by have := hv'.2; exact_mod_cast this)
          have hR := ver_root (pub := pub) (msg := msg) hq he' hv' hl'
          rw [Int.toNat_natCast] at hR
          obtain ⟨rest, hrest⟩ : ∃ rest, rest = sig.drop u := ⟨_, rfl⟩
          rw [← hrest] at hl' hR ⊢
          have hrb : Bn rest := (by rw [hrest]; exact bn_drop hsb u)
          have hdl := digestN_length pub (i : Int) msg
          have hdb := digestN_bn pub (i : Int) msg
          refine CV.skip ?_
          refine CV.seq ?_
          refine CV.region rfl (fun h => nomatch h) ?_
          refine RV.step1 (OpOk.plain (ok_load rfl rfl (by decide) rfl rfl rfl ty_dig) rfl) ?_
          refine RV.step1 (OpOk.plain (ok_move (.inl rfl) rfl (by decide) rfl) rfl) ?_
          refine RV.step1 (OpOk.plain (ok_move (.inl rfl) rfl (by decide) rfl) rfl) ?_
          refine RV.step1 (OpOk.plain (ok_call (rDigest_con pub msg (i : Int) hp lp hm lm (by omega) (by omega)) rfl rfl (by decide) Tryd.func17 rfl rfl (.cons rfl Conv.any (.cons rfl Conv.any (.cons rfl Conv.any .nil))) rfl hfr rfl) rfl) ?_
          refine RV.step1 (OpOk.plain (ok_call (rDigits_con (Sg.digestN pub (i : Int) msg) hdb hdl) rfl rfl (by decide) Tryd.func11 rfl rfl (.cons rfl Conv.any .nil) rfl hfr rfl) rfl) ?_
          refine RV.step1 (OpOk.plain (ok_move (.inr rfl) rfl (by decide) rfl) rfl) ?_
          refine RV.done ?_
          refine CV.seq ?_
          generalize hD : Sg.digitsN (Sg.digestN pub (i : Int) msg) = D
          have hD3 : ∀ c, D.getD c 0 ≤ 3 := (fun c => by rw [← hD]; exact digN_le hdl hdb c)
          have hDl : D.length = 68 := (by rw [← hD]; exact Sg.digitsN_length hdl)
          have hel := endV_length (i := i) (D := D) (rest := rest) (by omega)
          have heb := endV_bn (i := i) (D := D) hrb
          have hl68 := topsN_length (endV i D rest) hel 68
          refine CV.region rfl (fun h => nomatch h) ?_
          refine RV.step1 (OpOk.plain (ok_move (.inr rfl) rfl (by decide) rfl) rfl) ?_
          refine RV.done ?_
          refine CV.seq ?_
          refine CV.seq ?_
          refine CV.region rfl (fun h => nomatch h) ?_
          refine RV.step1 (OpOk.plain (ok_move (.inr rfl) rfl (by decide) rfl) rfl) ?_
          refine RV.done ?_
          refine CV.block ?_
          refine CV.loop (X := {c : Nat // c ≤ 68}) (fun c => [(.s 16, .av (.one (.v (.int .i64 (c.1 : Int))))), (.s 15, .av (.one (.v (str (by8 (topsN (endV i D rest) c.1)))))), (.s 14, .av (.one (DZ D))), (.s 13, .av (.one (.v (str (by8 rest))))), (.s 10, .av (.one (.v (.int .i64 (i : Int))))), (.s 1, .av (.one (.v (.int .i64 (h : Int))))), (.s 4, .av (.one (.ptr 0 0))), (.b 0, .blk 23 [(some 16, DG (by8 pub))])]) (fun c => 68 - c.1) ⟨0, Nat.zero_le _⟩ (Sub.mk ⟨XV.le_rfl _, XV.le_rfl _, XV.le_rfl _, XV.le_rfl _, XV.le_rfl _, XV.le_rfl _, XV.le_rfl _, XV.le_rfl _, trivial⟩ rfl rfl) (fun c => ?_)
          obtain ⟨c, hc4⟩ := c
          simp only
          refine CV.seq ?_
          refine CV.seq ?_
          refine CV.region rfl (fun h => nomatch h) ?_
          refine RV.step1 (OpOk.plain (ok_move (.inl rfl) rfl (by decide) rfl) rfl) ?_
          refine RV.step1 (OpOk.plain (ok_lss rfl rfl (by decide) rfl rfl) rfl) ?_
          refine RV.done ?_
          refine CV.cond rfl (fun hc => ?_) (fun hc => ?_)
          · have hlt : c < 68 := (by have := of_decide_eq_true hc; omega)
            have hc3 := hD3 c
            have hpc := piece_length (rest := rest) (c := c) (by omega)
            have hen : Sg.advN i c (D.getD c 0) (3 - D.getD c 0) (Sg.piece rest c) = endV i D rest c := (by rw [endV, if_pos hlt])
            refine CV.skip ?_
            refine CV.seq ?_
            refine CV.block ?_
            refine CV.region rfl (fun _ => by kernel_rfl) ?_
            refine RV.step1 (OpOk.plain (ok_move (.inl rfl) rfl (by decide) rfl) rfl) ?_
            refine RV.step1 (OpOk.plain (ok_move (.inl rfl) rfl (by decide) rfl) rfl) ?_
            refine RV.step1 (OpOk.plain (ok_move (.inl rfl) rfl (by decide) rfl) rfl) ?_
            refine RV.step1 (OpOk.plain (ok_move (.inl rfl) rfl (by decide) rfl) rfl) ?_
            refine RV.step1 (OpOk.plain (ok_move (.inl rfl) rfl (by decide) rfl) rfl) ?_
            refine RV.step1 (OpOk.plain (ok_idxL (i := c) (k := none) (dzV_at (by omega)) u_ints sz_i64 (by decide) rfl rfl (by decide) rfl rfl) rfl) ?_
            refine RV.step1 (OpOk.plain (ok_loadP ty_i64 (by decide) rfl rfl (by decide) rfl) rfl) ?_
            refine RV.step1 (OpOk.plain (ok_move (.inl rfl) rfl (by decide) rfl) rfl) ?_
            refine RV.step1 (OpOk.plain (ok_move (.inl rfl) rfl (by decide) rfl) rfl) ?_
            refine RV.step1 (OpOk.plain (ok_mul (c := ((16 * c : Nat) : Int)) (by rw [wrapI (by omega) (by omega)]; omega) rfl rfl (by decide) rfl rfl) rfl) ?_
            refine RV.step1 (OpOk.plain (ok_cutT (v := by8 (rest.drop (16 * c))) (some (16 * c)) none (by show (List.take (by8 rest).length (by8 rest)).drop (16 * c) = _; rw [List.take_length, by8, ← List.map_drop]; rfl) (by show 16 * c ≤ (by8 rest).length; rw [by8_length]; omega) (Nat.le_refl _) u_str rfl rfl (by decide) rfl rfl trivial) rfl) ?_
            refine RV.step1 (OpOk.plain (ok_call (rdigest_con (rest.drop (16 * c)) (by rw [List.length_drop]; omega)) rfl rfl (by decide) Tryd.func40 rfl rfl (.cons rfl Conv.any .nil) rfl hfr rfl) rfl) ?_
            refine RV.step1 (OpOk.plain (ok_call (radvance_con (Sg.piece rest c) i c (D.getD c 0) 3 (piece_bn hrb c) hpc (by omega) (by omega) hc3 (by decide)) rfl rfl (by decide) Tryd.func32 rfl rfl (.cons rfl Conv.any (.cons rfl Conv.any (.cons rfl Conv.any (.cons rfl Conv.any (.cons rfl Conv.any .nil))))) rfl hfr rfl) rfl) ?_
            refine RV.step1 (OpOk.plain (ok_call (Text_con (Sg.advN i c (D.getD c 0) (3 - D.getD c 0) (Sg.piece rest c)) (by rw [hen]; exact heb c) (by rw [hen]; exact hel c)) rfl rfl (by decide) Tryd.func31 rfl rfl (.cons rfl Conv.any .nil) rfl hfr rfl) rfl) ?_
            refine RV.step1 (OpOk.plain (ok_catT (u := by8 (topsN (endV i D rest) c)) (v := by8 (Sg.advN i c (D.getD c 0) (3 - D.getD c 0) (Sg.piece rest c))) (by rw [hen, by8_length, by8_length, topsN_length _ hel, hel]; omega) rfl rfl (by decide) rfl rfl) rfl) ?_
            refine RV.step1 (OpOk.plain (ok_move (.inr rfl) rfl (by decide) rfl) rfl) ?_
            refine RV.drawn (by kernel_rfl) ?_
            refine CV.region rfl (fun h => nomatch h) ?_
            refine RV.step1 (OpOk.plain (ok_move (.inl rfl) rfl (by decide) rfl) rfl) ?_
            refine RV.step1 (OpOk.plain (ok_add (c := ((c + 1 : Nat) : Int)) (by rw [wrapI (by omega) (by omega)]; omega) rfl rfl (by decide) rfl rfl) rfl) ?_
            refine RV.step1 (OpOk.plain (ok_move (.inr rfl) rfl (by decide) rfl) rfl) ?_
            refine RV.done ?_
            rw [hen, str_topsE]
            exact ⟨⟨c + 1, hlt⟩, Sub.mk ⟨XV.le_rfl _, XV.le_rfl _, XV.le_rfl _, XV.le_rfl _, XV.le_rfl _, XV.le_rfl _, XV.le_rfl _, XV.le_rfl _, trivial⟩ rfl rfl, by show 68 - (c + 1) < 68 - c; omega⟩
          · refine CV.exit ?_
            refine CV.seq ?_
            have hc68 : c = 68 := (by have := of_decide_eq_false hc; omega)
            subst hc68
            refine CV.region rfl (fun h => nomatch h) ?_
            refine RV.step1 (OpOk.plain (ok_move (.inl rfl) rfl (by decide) rfl) rfl) ?_
            refine RV.step1 (OpOk.plain (ok_litD (k := none) (xs := [.tmp 84]) (ss := txV [topsN (endV i D rest) 68]) (G := Dm.gen (lstG none (txV [topsN (endV i D rest) 68]))) (lstG_Lst _ _) u_strs zs_str rfl rfl rfl (str_kinds _) (str_ptrs _) rfl rfl (by decide) (.cons rfl Conv.any .nil)) rfl) ?_
            refine RV.step1 (OpOk.plain (ok_call (refOf_dg 3 (by decide) [topsN (endV i D rest) 68] (by simp [topsN_bn _ heb]) (by simp) (by simp [hl68])) rfl rfl (by decide) Tryd.func35 rfl rfl (.cons rfl Conv.any (.cons rfl Conv.any .nil)) rfl hfr rfl) rfl) ?_
            refine RV.step2 (OpOk.plain (ok_alloc (i := 1) rfl rfl (by decide) zero_dig rfl rfl rfl rfl) rfl) ?_
            refine RV.step1 (OpOk.plain (ok_store rfl rfl rfl rfl rfl rfl rfl (ty_dig).2 rfl rfl rfl rfl) rfl) ?_
            refine RV.done ?_
            refine CV.seq ?_
            refine CV.region rfl (fun h => nomatch h) ?_
            refine RV.step1 (OpOk.plain (ok_load rfl rfl (by decide) rfl rfl rfl ty_dig) rfl) ?_
            refine RV.step1 (OpOk.plain (ok_call (Text_con (Sg.ofL 3 [topsN (endV i D rest) 68]) (Sg.ofL_bn _ _) (Sg.ofL_length _ _)) rfl rfl (by decide) Tryd.func31 rfl rfl (.cons rfl Conv.any .nil) rfl hfr rfl) rfl) ?_
            refine RV.step1 (OpOk.plain (ok_litD (k := none) (xs := [.tmp 88]) (ss := txV [Sg.ofL 3 [topsN (endV i D rest) 68]]) (G := Dm.gen (lstG none (txV [Sg.ofL 3 [topsN (endV i D rest) 68]]))) (lstG_Lst _ _) u_strs zs_str rfl rfl rfl (str_kinds _) (str_ptrs _) rfl rfl (by decide) (.cons rfl Conv.any .nil)) rfl) ?_
            refine RV.step1 (OpOk.plain (ok_call (refOf_dg 1 (by decide) [Sg.ofL 3 [topsN (endV i D rest) 68]] (by simp [Sg.ofL_bn]) (by simp) (by simp [Sg.ofL_length])) rfl rfl (by decide) Tryd.func35 rfl rfl (.cons rfl Conv.any (.cons rfl Conv.any .nil)) rfl hfr rfl) rfl) ?_
            refine RV.step2 (OpOk.plain (ok_alloc (i := 2) rfl rfl (by decide) zero_dig rfl rfl rfl rfl) rfl) ?_
            refine RV.step1 (OpOk.plain (ok_store rfl rfl rfl rfl rfl rfl rfl (ty_dig).2 rfl rfl rfl rfl) rfl) ?_
            refine RV.done ?_
            refine CV.seq ?_
            obtain ⟨V, hV⟩ : ∃ V, V = Sg.ofL 1 [Sg.ofL 3 [topsN (endV i D rest) 68]] := ⟨_, rfl⟩
            have hV2 : Sg.leafN (Sg.endsN i D rest) = V := (by rw [hV, ← ends_eq]; rfl)
            rw [← hV]
            refine CV.region rfl (fun h => nomatch h) ?_
            refine RV.step1 (OpOk.plain (ok_move (.inl rfl) rfl (by decide) rfl) rfl) ?_
            refine RV.step1 (OpOk.plain (ok_move (.inr rfl) rfl (by decide) rfl) rfl) ?_
            refine RV.done ?_
            refine CV.seq ?_
            refine CV.seq ?_
            refine CV.region rfl (fun h => nomatch h) ?_
            refine RV.step1 (OpOk.plain (ok_move (.inr rfl) rfl (by decide) rfl) rfl) ?_
            refine RV.done ?_
            refine CV.block ?_
            refine CV.loop (X := {q : Nat × List Nat // q.1 ≤ h ∧ Bn q.2 ∧ q.2.length = 16 ∧ Sg.upN (fun j => Sg.piece rest (68 + (q.1 + j))) (i / 2 ^ q.1) (h - q.1) q.2 = Sg.rootN pub h i msg rest}) (fun q => [(.s 20, .av (.one (.v (.int .i64 (q.1.1 : Int))))), (.s 19, .av (.one (.v (.int .i64 ((i / 2 ^ q.1.1 : Nat) : Int))))), (.s 18, .av (.one (.ptr 2 0))), (.b 2, .blk 23 [(some 16, DG (by8 q.1.2))]), (.s 13, .av (.one (.v (str (by8 rest))))), (.s 10, .av (.one (.v (.int .i64 (i : Int))))), (.s 1, .av (.one (.v (.int .i64 (h : Int))))), (.s 4, .av (.one (.ptr 0 0))), (.b 0, .blk 23 [(some 16, DG (by8 pub))])]) (fun q => h - q.1.1) ⟨(0, V), Nat.zero_le _, by rw [hV]; exact Sg.ofL_bn _ _, by rw [hV]; exact Sg.ofL_length _ _, by rw [Sg.rootN, hD, hV2, Nat.pow_zero, Nat.div_one, Nat.sub_zero]; congr 1; funext j; rw [Nat.zero_add]⟩ (Sub.mk ⟨XV.le_rfl _, XV.le_of (by rw [Nat.pow_zero, Nat.div_one]; rfl), XV.le_rfl _, XV.le_rfl _, XV.le_rfl _, XV.le_rfl _, XV.le_rfl _, XV.le_rfl _, XV.le_rfl _, trivial⟩ rfl rfl) (fun q => ?_)
            obtain ⟨⟨l, v⟩, hll, hvb, hvl, hR2⟩ := q
            simp only at hll hvb hvl hR2 ⊢
            refine CV.seq ?_
            refine CV.seq ?_
            refine CV.region rfl (fun h => nomatch h) ?_
            refine RV.step1 (OpOk.plain (ok_move (.inl rfl) rfl (by decide) rfl) rfl) ?_
            refine RV.step1 (OpOk.plain (ok_move (.inl rfl) rfl (by decide) rfl) rfl) ?_
            refine RV.step1 (OpOk.plain (ok_lss rfl rfl (by decide) rfl rfl) rfl) ?_
            refine RV.done ?_
            refine CV.cond rfl (fun hc3 => ?_) (fun hc3 => ?_)
            · have hlt : l < h := (by have := of_decide_eq_true hc3; omega)
              have hstep := up_step hlt hR2
              have hpl := piece_length (rest := rest) (c := 68 + l) (by omega)
              have hpb := piece_bn hrb (68 + l)
              refine CV.skip ?_
              refine CV.seq ?_
              refine CV.block ?_
              refine CV.seq ?_
              refine CV.region rfl (fun h => nomatch h) ?_
              refine RV.step1 (OpOk.plain (ok_move (.inl rfl) rfl (by decide) rfl) rfl) ?_
              refine RV.step1 (OpOk.plain (ok_move (.inl rfl) rfl (by decide) rfl) rfl) ?_
              refine RV.step1 (OpOk.plain (ok_add (c := ((68 + l : Nat) : Int)) (by rw [wrapI (by omega) (by omega)]; omega) rfl rfl (by decide) rfl rfl) rfl) ?_
              refine RV.step1 (OpOk.plain (ok_mul (c := ((16 * (68 + l) : Nat) : Int)) (by rw [wrapI (by omega) (by omega)]; omega) rfl rfl (by decide) rfl rfl) rfl) ?_
              refine RV.step1 (OpOk.plain (ok_cutT (v := by8 (rest.drop (16 * (68 + l)))) (some (16 * (68 + l))) none (by show (List.take (by8 rest).length (by8 rest)).drop (16 * (68 + l)) = _; rw [List.take_length, by8, ← List.map_drop]; rfl) (by show 16 * (68 + l) ≤ (by8 rest).length; rw [by8_length]; omega) (Nat.le_refl _) u_str rfl rfl (by decide) rfl rfl trivial) rfl) ?_
              refine RV.step1 (OpOk.plain (ok_call (rdigest_con (rest.drop (16 * (68 + l))) (by rw [List.length_drop]; omega)) rfl rfl (by decide) Tryd.func40 rfl rfl (.cons rfl Conv.any .nil) rfl hfr rfl) rfl) ?_
              refine RV.step2 (OpOk.plain (ok_alloc (i := 3) rfl rfl (by decide) zero_dig rfl rfl rfl rfl) rfl) ?_
              refine RV.step1 (OpOk.plain (ok_store rfl rfl rfl rfl rfl rfl rfl (ty_dig).2 rfl rfl rfl rfl) rfl) ?_
              refine RV.done ?_
              refine CV.seq ?_
              refine CV.seq ?_
              refine CV.region rfl (fun h => nomatch h) ?_
              refine RV.step1 (OpOk.plain (ok_move (.inl rfl) rfl (by decide) rfl) rfl) ?_
              refine RV.step1 (OpOk.plain (ok_remN (m := i / 2 ^ l) (q := 2) (by decide) rfl rfl (by decide) rfl rfl) rfl) ?_
              refine RV.step1 (OpOk.plain (ok_eql rfl rfl (by decide) rfl rfl) rfl) ?_
              refine RV.done ?_
              refine CV.cond rfl (fun hc5 => ?_) (fun hc5 => ?_)
              · have h0 : i / 2 ^ l % 2 = 1 := (by have := eq_of_beq hc5; omega)
                rw [if_pos h0] at hstep
                refine CV.region rfl (fun h => nomatch h) ?_
                refine RV.step1 (OpOk.plain (ok_load rfl rfl (by decide) rfl rfl rfl ty_dig) rfl) ?_
                refine RV.step1 (OpOk.plain (ok_load rfl rfl (by decide) rfl rfl rfl ty_dig) rfl) ?_
                refine RV.step1 (OpOk.plain (ok_call (rnode_con (Sg.piece rest (68 + l)) v hpb hvb hpl hvl) rfl rfl (by decide) Tryd.func41 rfl rfl (.cons rfl Conv.any (.cons rfl Conv.any .nil)) rfl hfr rfl) rfl) ?_
                refine RV.step1 (OpOk.plain (ok_store rfl rfl rfl rfl rfl rfl rfl (ty_dig).2 rfl rfl rfl rfl) rfl) ?_
                refine RV.done ?_
                refine CV.region rfl (fun h => nomatch h) ?_
                refine RV.step1 (OpOk.plain (ok_move (.inl rfl) rfl (by decide) rfl) rfl) ?_
                refine RV.step1 (OpOk.plain (ok_quoN (m := i / 2 ^ l) (q := 2) (by decide) (by have := Nat.div_le_self i (2 ^ l); omega) rfl rfl (by decide) rfl rfl) rfl) ?_
                refine RV.step1 (OpOk.plain (ok_move (.inr rfl) rfl (by decide) rfl) rfl) ?_
                refine RV.done ?_
                refine CV.region rfl (fun h => nomatch h) ?_
                refine RV.step1 (OpOk.plain (ok_move (.inl rfl) rfl (by decide) rfl) rfl) ?_
                refine RV.step1 (OpOk.plain (ok_add (c := ((l + 1 : Nat) : Int)) (by rw [wrapI (by omega) (by omega)]; omega) rfl rfl (by decide) rfl rfl) rfl) ?_
                refine RV.step1 (OpOk.plain (ok_move (.inr rfl) rfl (by decide) rfl) rfl) ?_
                refine RV.done ?_
                rw [half_pow]
                exact ⟨⟨(l + 1, _), hlt, join_bn _ _, join_length _ _, hstep⟩, Sub.mk ⟨XV.le_rfl _, XV.le_rfl _, XV.le_rfl _, XV.le_rfl _, XV.le_rfl _, XV.le_rfl _, XV.le_rfl _, XV.le_rfl _, XV.le_rfl _, trivial⟩ rfl rfl, by show h - (l + 1) < h - l; omega⟩
              · have h0 : ¬ i / 2 ^ l % 2 = 1 := (fun q => by rw [q] at hc5; exact absurd hc5 (by decide))
                rw [if_neg h0] at hstep
                refine CV.region rfl (fun h => nomatch h) ?_
                refine RV.step1 (OpOk.plain (ok_load rfl rfl (by decide) rfl rfl rfl ty_dig) rfl) ?_
                refine RV.step1 (OpOk.plain (ok_load rfl rfl (by decide) rfl rfl rfl ty_dig) rfl) ?_
                refine RV.step1 (OpOk.plain (ok_call (rnode_con v (Sg.piece rest (68 + l)) hvb hpb hvl hpl) rfl rfl (by decide) Tryd.func41 rfl rfl (.cons rfl Conv.any (.cons rfl Conv.any .nil)) rfl hfr rfl) rfl) ?_
                refine RV.step1 (OpOk.plain (ok_store rfl rfl rfl rfl rfl rfl rfl (ty_dig).2 rfl rfl rfl rfl) rfl) ?_
                refine RV.done ?_
                refine CV.region rfl (fun h => nomatch h) ?_
                refine RV.step1 (OpOk.plain (ok_move (.inl rfl) rfl (by decide) rfl) rfl) ?_
                refine RV.step1 (OpOk.plain (ok_quoN (m := i / 2 ^ l) (q := 2) (by decide) (by have := Nat.div_le_self i (2 ^ l); omega) rfl rfl (by decide) rfl rfl) rfl) ?_
                refine RV.step1 (OpOk.plain (ok_move (.inr rfl) rfl (by decide) rfl) rfl) ?_
                refine RV.done ?_
                refine CV.region rfl (fun h => nomatch h) ?_
                refine RV.step1 (OpOk.plain (ok_move (.inl rfl) rfl (by decide) rfl) rfl) ?_
                refine RV.step1 (OpOk.plain (ok_add (c := ((l + 1 : Nat) : Int)) (by rw [wrapI (by omega) (by omega)]; omega) rfl rfl (by decide) rfl rfl) rfl) ?_
                refine RV.step1 (OpOk.plain (ok_move (.inr rfl) rfl (by decide) rfl) rfl) ?_
                refine RV.done ?_
                rw [half_pow]
                exact ⟨⟨(l + 1, _), hlt, join_bn _ _, join_length _ _, hstep⟩, Sub.mk ⟨XV.le_rfl _, XV.le_rfl _, XV.le_rfl _, XV.le_rfl _, XV.le_rfl _, XV.le_rfl _, XV.le_rfl _, XV.le_rfl _, XV.le_rfl _, trivial⟩ rfl rfl, by show h - (l + 1) < h - l; omega⟩
            · refine CV.exit ?_
              refine CV.seq ?_
              refine CV.seq ?_
              have hlh : l = h := (by have := of_decide_eq_false hc3; omega)
              subst hlh
              rw [Nat.sub_self, Sg.upN] at hR2
              rw [hR2]
              refine CV.region rfl (fun h => nomatch h) ?_
              refine RV.step1 (OpOk.plain (ok_load rfl rfl (by decide) rfl rfl rfl ty_dig) rfl) ?_
              refine RV.step1 (OpOk.plain (ok_load rfl rfl (by decide) rfl rfl rfl ty_dig) rfl) ?_
              refine RV.step1 (OpOk.plain (ok_cmpD (neg := true) rfl rfl rfl rfl (by decide) rfl rfl) rfl) ?_
              refine RV.done ?_
              refine CV.cond rfl (fun hc2 => ?_) (fun hc2 => ?_)
              · have hne : ¬ Sg.rootN pub l i msg rest = pub := (fun q => by rw [q] at hc2; simp at hc2)
                rw [if_neg hne] at hR
                refine CV.seq ?_
                refine CV.region rfl (fun h => nomatch h) ?_
                refine RV.step1 (OpOk.plain (ok_move (.inr rfl) rfl (by decide) rfl) rfl) ?_
                refine RV.step1 (OpOk.plain (ok_move (.inr rfl) rfl (by decide) rfl) rfl) ?_
                refine RV.done ?_
                refine CV.ret ?_
                exact fin2 rfl (.inr rfl) rfl rfl (is_ver hR)
              · have heq : Sg.rootN pub l i msg rest = pub := (by8_inj (rootN_bn _ _ _ _ _) hp (by simpa using hc2))
                rw [if_pos heq] at hR
                refine CV.skip ?_
                refine CV.seq ?_
                refine CV.region rfl (fun h => nomatch h) ?_
                refine RV.step1 (OpOk.plain (ok_move (.inl rfl) rfl (by decide) rfl) rfl) ?_
                refine RV.step1 (OpOk.plain (ok_move (.inr rfl) rfl (by decide) rfl) rfl) ?_
                refine RV.step1 (OpOk.plain (ok_move (.inr rfl) rfl (by decide) rfl) rfl) ?_
                refine RV.done ?_
                refine CV.ret ?_
                exact fin2 rfl (.inr rfl) rfl rfl (is_ver hR)
end Vc
end Go.Proofs.YthadfilandmhiaaDoor
