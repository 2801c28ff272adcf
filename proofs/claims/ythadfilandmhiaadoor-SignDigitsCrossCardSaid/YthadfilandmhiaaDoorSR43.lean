/-
  Signatures: Verify of package sign and of the reference.
  Signatures: what is signed is accepted; the layer's example.
  Signatures: the laws' walks.
  Signatures: the laws' walks: what is made, what is verified.
-/
import Derived.Test.YthadfilandmhiaaDoorSR41
import Derived.Test.YthadfilandmhiaaDoorSR42
import Derived.Test.YthadfilandmhiaaDoorSR27
import Derived.Test.YthadfilandmhiaaDoorSR1
import Derived.Test.YthadfilandmhiaaDoorSR9
set_option linter.unusedVariables false
set_option linter.unusedSimpArgs false
set_option linter.unusedSectionVars false
namespace Go.Proofs.YthadfilandmhiaaDoor
open Go.RowKit
open Go.Lib (hid)
open Dg Zn S
namespace Vc
theorem byte_view {w : World} {v : Value} {bs : List Int} (hb : W.Bs bs) (h : Row .u8 w v bs) : ByteView w v bs := by
  obtain ⟨ao, cap, h1, h2, h3, h4⟩ := h
  exact ⟨hb, ao, cap, h1, h2, h3, fun hne => h4 (List.length_pos_iff.2 hne)⟩
def sigI (l : List Nat) : List Int := l.map fun x : Nat => (x : Int)
theorem sigI_bs {l : List Nat} (h : Bn l) : W.Bs (sigI l) := by
  intro x hx
  obtain ⟨y, hy, rfl⟩ := List.mem_map.1 hx
  have := h y hy
  omega
theorem sig_by {l : List Nat} (h : Bn l) : byV (by8 l) = ziV .u8 (sigI l) := by
  rw [enc_by8 (sigI_bs h)]
  congr 2
  rw [sigI, List.map_map]
  conv => lhs; rw [← List.map_id l]
  exact List.map_congr_left fun x _ => by simp
theorem GetInt_by {sig : List Nat} (hb : Bn sig) {n : Int} {u : Nat} {e : Int} (hq : W.dec (sigI sig) = (n, u, e)) : Con Tryd.prog 37 [BY (by8 sig)] (.tup [.v (.int .i64 n), .v (.int .i64 (u : Int)), .v (.int .i64 e)]) := by
  rintro L ρ w vs hlt hn hwf hall
  match vs, hall with
  | [v], ⟨h1, _⟩ =>
    have h2 : (ZI .u8 (sigI sig)).is L ρ w v := by
      show (SA.d (Dm.gen (lstG none (ziV .u8 (sigI sig))))).is L ρ w v
      rw [← sig_by hb]
      exact h1
    refine (GetInt_any v (sigI sig) w (byte_view (sigI_bs hb) (zi_row h2))).mono ?_
    rw [hq]
    rintro e w' ⟨rfl, rfl⟩
    exact ⟨_, rfl, Below.refl _ _, ⟨[_, _, _], rfl, rfl, rfl, rfl, trivial⟩⟩
theorem ne_of_bne {a b : Nat} (h : (((a : Nat) : Int) != ((b : Nat) : Int)) = true) : a ≠ b := fun e => by rw [e] at h; simp at h
theorem eq_of_bne {a b : Nat} (h : (((a : Nat) : Int) != ((b : Nat) : Int)) = false) : a = b := by
  have : ((a : Nat) : Int) = ((b : Nat) : Int) := by simpa using h
  omega
/-- What Verify returns. -/
def verN (pub : List Nat) (h : Nat) (msg sig : List Nat) : Int × Int :=
  if (W.dec (sigI sig)).2.2 ≠ 0 then (0, (W.dec (sigI sig)).2.2) else
  if ¬ (0 ≤ (W.dec (sigI sig)).1 ∧ (W.dec (sigI sig)).1 < ((2 ^ h : Nat) : Int)) ∨ (sig.drop (W.dec (sigI sig)).2.1).length ≠ (68 + h) * 16 then (0, 2) else
  if Sg.rootN pub h (W.dec (sigI sig)).1.toNat msg (sig.drop (W.dec (sigI sig)).2.1) = pub then ((W.dec (sigI sig)).1, 0) else (0, 10)
section
variable {pub msg sig : List Nat} {h u : Nat} {n e : Int} (hq : W.dec (sigI sig) = (n, u, e))
include hq
theorem ver_err (he : e ≠ 0) : verN pub h msg sig = (0, e) := by rw [verN, hq, if_pos he]
theorem ver_index (he : e = 0) (hn : ¬ (0 ≤ n ∧ n < ((2 ^ h : Nat) : Int))) : verN pub h msg sig = (0, 2) := by
  rw [verN, hq]
  simp only
  rw [if_neg (by simpa using he), if_pos (.inl hn)]
theorem ver_len (he : e = 0) (hl : (sig.drop u).length ≠ (68 + h) * 16) : verN pub h msg sig = (0, 2) := by
  rw [verN, hq]
  simp only
  rw [if_neg (by simpa using he), if_pos (.inr hl)]
theorem ver_root (he : e = 0) (hn : 0 ≤ n ∧ n < ((2 ^ h : Nat) : Int)) (hl : (sig.drop u).length = (68 + h) * 16) : verN pub h msg sig = if Sg.rootN pub h n.toNat msg (sig.drop u) = pub then (n, 0) else (0, 10) := by
  rw [verN, hq]
  simp only
  rw [if_neg (by simpa using he), if_neg (fun q => q.elim (fun q => q hn) fun q => q hl)]
end
theorem by8_inj {a b : List Nat} (ha : Bn a) (hb : Bn b) (h : by8 a = by8 b) : a = b := by
  have h1 := tx_by8 ha
  have h2 := tx_by8 hb
  rw [h] at h1
  exact h1.symm.trans h2
theorem is_ver {p : Int × Int} {a b : Int} (h : p = (a, b)) : ∀ L ρ w v, (AV.tup [(.v (.int .i64 a) : SA Dm), EV b]).is L ρ w v → (AV.tup [(.v (.int .i64 p.1) : SA Dm), EV p.2]).is L ρ w v := by subst h; exact is_rfl2
theorem bn_drop {l : List Nat} (h : Bn l) (u : Nat) : Bn (l.drop u) := fun x hx => h x (List.mem_of_mem_drop hx)
theorem rootN_bn (pub : List Nat) (h i : Nat) (msg rest : List Nat) : Bn (Sg.rootN pub h i msg rest) := by
  have key : ∀ (n : Nat) (bs : Nat → List Nat) (i : Nat) (v : List Nat), Bn v → Bn (Sg.upN bs i n v) := by
    intro n
    induction n with
    | zero => intro bs i v hv; exact hv
    | succ n ih => intro bs i v hv; exact ih _ _ _ (by split <;> exact join_bn _ _)
  exact key _ _ _ _ (Sg.ofL_bn _ _)
set_option maxRecDepth 100000 in
theorem Verify_con (pub msg sig : List Nat) (h u : Nat) (n e : Int) (hp : Bn pub) (lp : pub.length = 16) (hm : Bn msg) (lm : msg.length ≤ 2000) (hsb : Bn sig) (lb : sig.length ≤ 100000) (hh : h ≤ 6) (hq : W.dec (sigI sig) = (n, u, e)) (hu : u ≤ sig.length) : Con Tryd.prog 18 [DG (by8 pub), .v (.int .i64 (h : Int)), .v (str (by8 msg)), .v (str (by8 sig))] (.tup [.v (.int .i64 (verN pub h msg sig).1), EV (verN pub h msg sig).2]) := by
  refine Con.of (n := 54) Tryd.func18 rfl rfl rfl rfl rfl fun cx hfr => ?_
  refine CV.seq ?_
  refine CV.region rfl (fun h => nomatch h) ?_
  refine RV.step2 (OpOk.plain (ok_box (i := 0) rfl rfl (by decide) rfl rfl rfl rfl rfl) rfl) ?_
  refine RV.step1 (OpOk.plain (ok_move (.inr rfl) rfl (by decide) rfl) rfl) ?_
  refine RV.step1 (OpOk.plain (ok_move (.inr rfl) rfl (by decide) rfl) rfl) ?_
  refine RV.done ?_
  refine CV.seq ?_
  refine CV.seq ?_
  refine CV.region rfl (fun h => nomatch h) ?_
  refine RV.step1 (OpOk.plain (ok_move (.inl rfl) rfl (by decide) rfl) rfl) ?_
  refine RV.step1 (OpOk.plain (ok_call (validHeight_con (h : Int)) rfl rfl (by decide) Tryd.func36 rfl rfl (.cons rfl Conv.any .nil) rfl hfr rfl) rfl) ?_
  refine RV.step1 (OpOk.plain (ok_not rfl rfl (by decide) rfl) rfl) ?_
  refine RV.done ?_
  refine CV.cond rfl (fun hc => False.elim (by simp at hc; omega)) (fun hc => ?_)
  refine CV.skip ?_
  refine CV.seq ?_
  refine CV.seq ?_
  refine CV.region rfl (fun h => nomatch h) ?_
  refine RV.step1 (OpOk.plain (ok_move (.inl rfl) rfl (by decide) rfl) rfl) ?_
  refine RV.step1 (OpOk.plain (ok_lenT (by8_length msg) u_str rfl rfl (by decide) rfl) rfl) ?_
  refine RV.step1 (OpOk.plain (ok_gtr rfl rfl (by decide) rfl rfl) rfl) ?_
  refine RV.done ?_
  refine CV.cond rfl (fun hc => False.elim (by simp at hc; omega)) (fun hc => ?_)
  refine CV.skip ?_
  refine CV.seq ?_
  refine CV.region rfl (fun h => nomatch h) ?_
  refine RV.step1 (OpOk.plain (ok_move (.inl rfl) rfl (by decide) rfl) rfl) ?_
  refine RV.step1 (OpOk.plain (ok_s2b (by rw [by8_length]; omega) u_str u_bytes u_u8 rfl rfl (by decide) rfl) rfl) ?_
  refine RV.step1 (OpOk.plain (ok_call (GetInt_by hsb hq) rfl rfl (by decide) Tryd.func37 rfl rfl (.cons rfl Conv.any .nil) rfl hfr rfl) rfl) ?_
  refine RV.step1 (OpOk.plain (ok_move (.inl rfl) rfl (by decide) rfl) rfl) ?_
  refine RV.step1 (OpOk.plain (ok_extract rfl rfl (by decide) rfl rfl) rfl) ?_
  refine RV.step1 (OpOk.plain (ok_extract rfl rfl (by decide) rfl rfl) rfl) ?_
  refine RV.step1 (OpOk.plain (ok_extract rfl rfl (by decide) rfl rfl) rfl) ?_
  refine RV.step1 (OpOk.plain (ok_move (.inr rfl) rfl (by decide) rfl) rfl) ?_
  refine RV.step1 (OpOk.plain (ok_move (.inr rfl) rfl (by decide) rfl) rfl) ?_
  refine RV.step1 (OpOk.plain (ok_move (.inr rfl) rfl (by decide) rfl) rfl) ?_
  refine RV.done ?_
  refine CV.seq ?_
  refine CV.seq ?_
  refine CV.region rfl (fun h => nomatch h) ?_
  refine RV.step1 (OpOk.plain (ok_move (.inl rfl) rfl (by decide) rfl) rfl) ?_
  refine RV.step1 (OpOk.plain (ok_neq rfl rfl (by decide) rfl rfl) rfl) ?_
  refine RV.done ?_
  refine CV.cond rfl (fun he => ?_) (fun he => ?_)
  · have he' : e ≠ 0 := (by simpa using he)
    refine CV.seq ?_
    refine CV.region rfl (fun h => nomatch h) ?_
    refine RV.step1 (OpOk.plain (ok_move (.inl rfl) rfl (by decide) rfl) rfl) ?_
    refine RV.step1 (OpOk.plain (ok_move (.inr rfl) rfl (by decide) rfl) rfl) ?_
    refine RV.step1 (OpOk.plain (ok_move (.inr rfl) rfl (by decide) rfl) rfl) ?_
    refine RV.done ?_
    refine CV.ret ?_
    exact fin2 rfl (.inr rfl) rfl rfl (is_ver (ver_err hq he'))
  · have he' : e = 0 := (by simpa using he)
    refine CV.skip ?_
    refine CV.seq ?_
    refine CV.region rfl (fun h => nomatch h) ?_
    refine RV.step1 (OpOk.plain (ok_move (.inl rfl) rfl (by decide) rfl) rfl) ?_
    refine RV.step1 (OpOk.plain (ok_move (.inl rfl) rfl (by decide) rfl) rfl) ?_
    refine RV.step1 (OpOk.plain (ok_cutT (v := by8 (sig.drop u)) (some u) none (by show (List.take (by8 sig).length (by8 sig)).drop u = _; rw [List.take_length, by8, ← List.map_drop]; rfl) (by show u ≤ (by8 sig).length; rw [by8_length]; exact hu) (Nat.le_refl _) u_str rfl rfl (by decide) rfl rfl trivial) rfl) ?_
    refine RV.step1 (OpOk.plain (ok_move (.inr rfl) rfl (by decide) rfl) rfl) ?_
    refine RV.done ?_
    refine CV.seq ?_
    refine CV.seq ?_
    refine CV.region rfl (fun h => nomatch h) ?_
    refine RV.step1 (OpOk.plain (ok_move (.inl rfl) rfl (by decide) rfl) rfl) ?_
    refine RV.step1 (OpOk.plain (ok_move (.inl rfl) rfl (by decide) rfl) rfl) ?_
    refine RV.step1 (OpOk.plain (ok_call (validIndex_con h hh n) rfl rfl (by decide) Tryd.func25 rfl rfl (.cons rfl Conv.any (.cons rfl Conv.any .nil)) rfl hfr rfl) rfl) ?_
    refine RV.step1 (OpOk.plain (ok_not rfl rfl (by decide) rfl) rfl) ?_
    refine RV.step1 (OpOk.plain (ok_move (.inl rfl) rfl (by decide) rfl) rfl) ?_
    refine RV.bool (fun hv => ?_) (fun hv => ?_)
    · have hv' : ¬ (0 ≤ n ∧ n < ((2 ^ h : Nat) : Int)) := (fun q => by rw [decide_eq_true q] at hv; exact absurd hv (by decide))
      refine RV.step1 (OpOk.skip rfl rfl rfl rfl rfl (by decide)) ?_
      refine RV.step1 (OpOk.skip rfl rfl rfl rfl rfl (by decide)) ?_
      refine RV.step1 (OpOk.skip rfl rfl rfl rfl rfl (by decide)) ?_
      refine RV.step1 (OpOk.skip rfl rfl rfl rfl rfl (by decide)) ?_
      refine RV.step1 (OpOk.skip rfl rfl rfl rfl rfl (by decide)) ?_
      refine RV.step1 (OpOk.skip rfl rfl rfl rfl rfl (by decide)) ?_
      refine RV.step1 (OpOk.plain (ok_pickT rfl rfl (by decide) rfl rfl rfl) rfl) ?_
      refine RV.done ?_
      refine CV.yes rfl ?_
      refine CV.seq ?_
      refine CV.region rfl (fun h => nomatch h) ?_
      refine RV.step1 (OpOk.plain (ok_move (.inr rfl) rfl (by decide) rfl) rfl) ?_
      refine RV.step1 (OpOk.plain (ok_move (.inr rfl) rfl (by decide) rfl) rfl) ?_
      refine RV.done ?_
      refine CV.ret ?_
      exact fin2 rfl (.inr rfl) rfl rfl (is_ver (ver_index hq he' hv'))
    · have hv' : 0 ≤ n ∧ n < ((2 ^ h : Nat) : Int) := (by simpa using hv)
      refine RV.step1 (OpOk.yes (ok_move (.inl rfl) rfl (by decide) rfl) rfl rfl rfl) ?_
      refine RV.step1 (OpOk.yes (ok_lenT (m := (sig.drop u).length) (by8_length _) u_str rfl rfl (by decide) rfl) rfl rfl rfl) ?_
      refine RV.step1 (OpOk.yes (ok_move (.inl rfl) rfl (by decide) rfl) rfl rfl rfl) ?_
      refine RV.step1 (OpOk.yes (ok_add (c := ((68 + h : Nat) : Int)) (by rw [wrapI (by omega) (by omega)]; omega) rfl rfl (by decide) rfl rfl) rfl rfl rfl) ?_
      refine RV.step1 (OpOk.yes (ok_mul (c := (((68 + h) * 16 : Nat) : Int)) (by rw [wrapI (by omega) (by omega)]; omega) rfl rfl (by decide) rfl rfl) rfl rfl rfl) ?_
      refine RV.step1 (OpOk.yes (ok_neq rfl rfl (by decide) rfl rfl) rfl rfl rfl) ?_
      refine RV.step1 (OpOk.plain (ok_pickF rfl rfl (by decide) rfl rfl rfl) rfl) ?_
      refine RV.done ?_
      refine CV.cond rfl (fun hl => ?_) (fun hl => ?_)
      · have hl' : (sig.drop u).length ≠ (68 + h) * 16 := (ne_of_bne hl)
        refine CV.seq ?_
        refine CV.region rfl (fun h => nomatch h) ?_
        refine RV.step1 (OpOk.plain (ok_move (.inr rfl) rfl (by decide) rfl) rfl) ?_
        refine RV.step1 (OpOk.plain (ok_move (.inr rfl) rfl (by decide) rfl) rfl) ?_
        refine RV.done ?_
        refine CV.ret ?_
        exact fin2 rfl (.inr rfl) rfl rfl (is_ver (ver_len hq he' hl'))
      · have hl' : (sig.drop u).length = (68 + h) * 16 := (eq_of_bne hl)
        obtain ⟨i, rfl⟩ : ∃ i : Nat, n = (i : Int) := ⟨n.toNat, by omega⟩
        have hi : i < 2 ^ h := (by have := hv'.2; exact_mod_cast this)
        have hR := ver_root (pub := pub) (msg := msg) hq he' hv' hl'
        rw [Int.toNat_natCast] at hR
        refine CV.skip ?_
        refine CV.seq ?_
        refine CV.seq ?_
        refine CV.region rfl (fun _ => by kernel_rfl) ?_
        refine RV.step1 (OpOk.plain (ok_load rfl rfl (by decide) rfl rfl rfl ty_dig) rfl) ?_
        refine RV.step1 (OpOk.plain (ok_move (.inl rfl) rfl (by decide) rfl) rfl) ?_
        refine RV.step1 (OpOk.plain (ok_move (.inl rfl) rfl (by decide) rfl) rfl) ?_
        refine RV.step1 (OpOk.plain (ok_move (.inl rfl) rfl (by decide) rfl) rfl) ?_
        refine RV.step1 (OpOk.plain (ok_move (.inl rfl) rfl (by decide) rfl) rfl) ?_
        refine RV.step1 (OpOk.plain (ok_call (signedRoot_con pub msg (sig.drop u) h i hp lp hm lm (bn_drop hsb u) hl' hh hi) rfl rfl (by decide) Tryd.func38 rfl rfl (.cons rfl Conv.any (.cons rfl Conv.any (.cons rfl Conv.any (.cons rfl Conv.any (.cons rfl Conv.any .nil))))) rfl hfr rfl) rfl) ?_
        refine RV.step1 (OpOk.plain (ok_load rfl rfl (by decide) rfl rfl rfl ty_dig) rfl) ?_
        refine RV.step1 (OpOk.plain (ok_cmpD (neg := true) rfl rfl rfl rfl (by decide) rfl rfl) rfl) ?_
        refine RV.drawn (by kernel_rfl) ?_
        refine CV.cond rfl (fun hc2 => ?_) (fun hc2 => ?_)
        · have hne : ¬ Sg.rootN pub h i msg (sig.drop u) = pub := (fun q => by rw [q] at hc2; simp at hc2)
          rw [if_neg hne] at hR
          refine CV.seq ?_
          refine CV.region rfl (fun h => nomatch h) ?_
          refine RV.step1 (OpOk.plain (ok_move (.inr rfl) rfl (by decide) rfl) rfl) ?_
          refine RV.step1 (OpOk.plain (ok_move (.inr rfl) rfl (by decide) rfl) rfl) ?_
          refine RV.done ?_
          refine CV.ret ?_
          exact fin2 rfl (.inr rfl) rfl rfl (is_ver hR)
        · have heq : Sg.rootN pub h i msg (sig.drop u) = pub := (by8_inj (rootN_bn _ _ _ _ _) hp (by simpa using hc2))
          rw [if_pos heq] at hR
          refine CV.skip ?_
          refine CV.seq ?_
          refine CV.region rfl (fun h => nomatch h) ?_
          refine RV.step1 (OpOk.plain (ok_move (.inl rfl) rfl (by decide) rfl) rfl) ?_
          refine RV.step1 (OpOk.plain (ok_move (.inr rfl) rfl (by decide) rfl) rfl) ?_
          refine RV.step1 (OpOk.plain (ok_move (.inr rfl) rfl (by decide) rfl) rfl) ?_
          refine RV.done ?_
          refine CV.ret ?_
          exact fin2 rfl (.inr rfl) rfl rfl (is_ver hR)
theorem sig_append (a b : List Nat) : sigI (a ++ b) = sigI a ++ sigI b := by simp [sigI]
theorem sig_int (z : Int) : sigI (Sg.intN z) = W.code z := by
  rw [sigI, Sg.intN, List.map_map]
  refine (List.map_congr_left (g := id) fun x hx => ?_).trans (List.map_id _)
  have := W.code_bs z x hx
  simp only [Function.comp, id]
  omega
theorem intN_length (z : Int) : (Sg.intN z).length = (W.code z).length := by simp [Sg.intN]
/-- The digests of a signature. -/
def tailN (seed : List Nat) (h i : Nat) (msg : List Nat) : List Nat := topsN (chV seed i (Sg.digitsN (Sg.digestN (Sg.nodeN seed h 0) i msg))) 68 ++ topsN (sideV seed i) h
theorem signN_tail (seed : List Nat) (h i : Nat) (msg : List Nat) : Sg.signN seed h i msg = Sg.intN i ++ tailN seed h i msg := by rw [signN_eq, tailN, List.append_assoc]
theorem tailN_length (seed : List Nat) (h i : Nat) (msg : List Nat) : (tailN seed h i msg).length = (68 + h) * 16 := by
  rw [tailN, List.length_append, topsN_length _ (chV_length _ _ _), topsN_length _ (sideV_length _ _)]; omega
theorem tailN_bn (seed : List Nat) (h i : Nat) (msg : List Nat) : Bn (tailN seed h i msg) := by
  intro x hx
  rcases List.mem_append.1 hx with q | q
  · exact topsN_bn _ (chV_bn _ _ _) _ x q
  · exact topsN_bn _ (sideV_bn _ _) _ x q
theorem dec_int (i : Nat) (hi : i ≤ 1000) (r : List Nat) : W.dec (sigI (Sg.intN i ++ r)) = ((i : Int), (Sg.intN (i : Int)).length, 0) := by
  rw [sig_append, sig_int, intN_length]
  exact W.dec_code _ (by omega) (by omega) _
theorem piece_tops (g : Nat → List Nat) (hg : ∀ c, (g c).length = 16) (n c : Nat) (hc : c < n) (r : List Nat) : Sg.piece (topsN g n ++ r) c = g c := by
  have := Sg.piece_flat ((List.range n).map g) r c (by
    intro d hd
    obtain ⟨c, _, rfl⟩ := List.mem_map.1 hd
    exact hg c) (by simpa using hc)
  rw [topsN, this]
  simp [List.getD_eq_getElem?_getD, hc]
theorem tail_value (seed : List Nat) (h i : Nat) (msg : List Nat) {c : Nat} (hc : c < 68) : Sg.piece (tailN seed h i msg) c = chV seed i (Sg.digitsN (Sg.digestN (Sg.nodeN seed h 0) i msg)) c := piece_tops _ (chV_length _ _ _) 68 c hc _
theorem tail_side (seed : List Nat) (h i : Nat) (msg : List Nat) {l : Nat} (hl : l < h) : Sg.piece (tailN seed h i msg) (68 + l) = sideV seed i l := by
  rw [tailN, ← both_all, ← List.append_nil (topsN (bothV seed i _) (68 + h)), piece_tops _ (bothV_length _ _ _) _ _ (by omega)]
  rw [bothV, if_neg (by omega), Nat.add_sub_cancel_left]
/-- The root that follows from a signature's digests, under another message's digits. -/
theorem root_tail (seed : List Nat) (h i : Nat) (msg m2 pub : List Nat) : Sg.rootN pub h i m2 (tailN seed h i msg) = Sg.upN (sideV seed i) i h (Sg.leafN ((List.range 68).map fun c => Sg.advN i c ((Sg.digitsN (Sg.digestN pub i m2)).getD c 0) (3 - (Sg.digitsN (Sg.digestN pub i m2)).getD c 0) (chV seed i (Sg.digitsN (Sg.digestN (Sg.nodeN seed h 0) i msg)) c))) := by
  have e1 : Sg.endsN i (Sg.digitsN (Sg.digestN pub i m2)) (tailN seed h i msg) = (List.range 68).map fun c => Sg.advN i c ((Sg.digitsN (Sg.digestN pub i m2)).getD c 0) (3 - (Sg.digitsN (Sg.digestN pub i m2)).getD c 0) (chV seed i (Sg.digitsN (Sg.digestN (Sg.nodeN seed h 0) i msg)) c) :=
    List.map_congr_left fun c hc => by rw [tail_value seed h i msg (List.mem_range.1 hc)]
  rw [Sg.rootN, e1]
  have key : ∀ (n : Nat) (bs bs' : Nat → List Nat) (i : Nat) (v : List Nat), (∀ l, l < n → bs l = bs' l) → Sg.upN bs i n v = Sg.upN bs' i n v := by
    intro n
    induction n with
    | zero => intro _ _ _ _ _; rfl
    | succ n ih =>
      intro bs bs' i v hb
      rw [Sg.upN, Sg.upN, hb 0 (by omega)]
      exact ih _ _ _ _ fun l hl => hb (l + 1) (by omega)
  exact key h _ _ i _ fun l hl => tail_side seed h i msg hl
theorem root_own (seed : List Nat) {h i : Nat} (hi : i < 2 ^ h) (msg : List Nat) : Sg.rootN (Sg.nodeN seed h 0) h i msg (tailN seed h i msg) = Sg.nodeN seed h 0 := by
  rw [root_tail]
  have hdl := digestN_length (Sg.nodeN seed h 0) (i : Int) msg
  have hdb := digestN_bn (Sg.nodeN seed h 0) (i : Int) msg
  have e1 : ((List.range 68).map fun c => Sg.advN i c ((Sg.digitsN (Sg.digestN (Sg.nodeN seed h 0) i msg)).getD c 0) (3 - (Sg.digitsN (Sg.digestN (Sg.nodeN seed h 0) i msg)).getD c 0) (chV seed i (Sg.digitsN (Sg.digestN (Sg.nodeN seed h 0) i msg)) c)) = (List.range 68).map (Sg.topN seed i) := by
    refine List.map_congr_left fun c _ => ?_
    have h3 := digN_le hdl hdb c
    rw [chV, Sg.topN]
    have := Sg.advN_add i c ((Sg.digitsN (Sg.digestN (Sg.nodeN seed h 0) i msg)).getD c 0) 0 (3 - (Sg.digitsN (Sg.digestN (Sg.nodeN seed h 0) i msg)).getD c 0) (Sg.startN seed i c)
    rw [Nat.zero_add] at this
    rw [this]
    congr 1
    omega
  rw [e1]
  have := Sg.upN_node seed (sideV seed i) h 0 i (fun j _ => by rw [Nat.zero_add]; rfl)
  rw [Nat.zero_add, Nat.div_eq_of_lt hi] at this
  exact this
theorem ver_tail (seed : List Nat) {h i : Nat} (hh : h ≤ 6) (hi : i < 2 ^ h) (msg m2 pub : List Nat) : verN pub h m2 (Sg.signN seed h i msg) = if Sg.rootN pub h i m2 (tailN seed h i msg) = pub then ((i : Int), 0) else (0, 10) := by
  have hp := pow_small hh
  have hq := dec_int i (by omega) (tailN seed h i msg)
  rw [← signN_tail] at hq
  have hd : (Sg.signN seed h i msg).drop (Sg.intN (i : Int)).length = tailN seed h i msg := by rw [signN_tail, List.drop_left]
  have := ver_root (pub := pub) (msg := m2) (h := h) hq rfl ⟨by omega, by exact_mod_cast hi⟩ (by rw [hd]; exact tailN_length seed h i msg)
  rw [this, hd, Int.toNat_natCast]
/-- What is signed is accepted. -/
theorem ver_own (seed : List Nat) {h i : Nat} (hh : h ≤ 6) (hi : i < 2 ^ h) (msg : List Nat) : verN (Sg.nodeN seed h 0) h msg (Sg.signN seed h i msg) = ((i : Int), 0) := by
  rw [ver_tail seed hh hi, if_pos (root_own seed hi msg)]
theorem signN_bn (seed : List Nat) (h i : Nat) (msg : List Nat) : Bn (Sg.signN seed h i msg) := by
  rw [signN_tail]
  intro x hx
  rcases List.mem_append.1 hx with q | q
  · exact intN_bn _ x q
  · exact tailN_bn _ _ _ _ x q
theorem signN_length (seed : List Nat) (h i : Nat) (msg : List Nat) : (Sg.signN seed h i msg).length = (Sg.intN (i : Int)).length + (68 + h) * 16 := by
  rw [signN_tail, List.length_append, tailN_length]
/-! The example. -/
theorem ver5 : verN Sg.p5 1 [110] (Sg.signN Sg.s5 1 1 [109]) = (0, 10) := by
  have e : Sg.rootN Sg.p5 1 1 [110] (tailN Sg.s5 1 1 [109]) = Sg.joinN2 Sg.l50 (Sg.leafN ((List.range 68).map Sg.wrongN)) := by
    rw [root_tail, Sg.pub5]
    have h1 : Sg.digestN Sg.p5 ((1 : Nat) : Int) [109] = Sg.dm5 := Sg.dig5m
    have h2 : Sg.digestN Sg.p5 ((1 : Nat) : Int) [110] = Sg.dn5 := Sg.dig5n
    rw [h1, h2, Sg.gits5m, Sg.gits5n]
    show Sg.joinN2 (sideV Sg.s5 1 0) _ = _
    rw [show sideV Sg.s5 1 0 = Sg.l50 from Sg.node50]
    rfl
  rw [ver_tail Sg.s5 (by decide) (by decide), e, if_neg Sg.wrong5]
theorem zeros_digits : Sg.digitsN (List.replicate 16 0) = List.replicate 64 0 ++ [3, 0, 0, 0] := by decide
theorem z16_bn : Bn (List.replicate 16 0) := Sg.bn_of (by decide)
theorem sig_dec (seed : List Nat) {h i : Nat} (hh : h ≤ 6) (hi : i < 2 ^ h) (msg : List Nat) : W.dec (sigI (Sg.signN seed h i msg)) = ((i : Int), (Sg.intN (i : Int)).length, 0) := by
  have hp := pow_small hh
  rw [signN_tail]
  exact dec_int i (by omega) _
theorem intN_le9 (i : Nat) (hi : i ≤ 1000) : 1 ≤ (Sg.intN (i : Int)).length ∧ (Sg.intN (i : Int)).length ≤ 9 := by
  refine ⟨?_, intN_le _⟩
  rw [intN_length, W.code_length]
  omega
set_option maxRecDepth 100000 in
theorem sanity_con : Con Tryd.prog 9 ([] : List (SA Dm)) (.one (.v (.bool true))) := by
  have hsl := signN_length Sg.s5 1 1 [109]
  have hs9 := intN_le9 1 (by decide)
  have hq := sig_dec Sg.s5 (h := 1) (i := 1) (by decide) (by decide) [109]
  have hpb : Bn Sg.p5 := Sg.bn_of (by decide)
  have hv1 := ver_own Sg.s5 (h := 1) (i := 1) (by decide) (by decide) [109]
  rw [Sg.pub5] at hv1
  refine Con.of (n := 105) Tryd.func9 rfl rfl rfl rfl rfl fun cx hfr => ?_
  refine CV.seq ?_
  refine CV.region rfl (fun h => nomatch h) ?_
  refine RV.step1 (OpOk.plain (ok_move (.inr rfl) rfl (by decide) rfl) rfl) ?_
  refine RV.done ?_
  refine CV.seq ?_
  refine CV.region rfl (fun h => nomatch h) ?_
  refine RV.step1 (OpOk.plain (ok_call (seed_con 5 (by decide)) rfl rfl (by decide) Tryd.func20 rfl rfl (.cons rfl Conv.any .nil) rfl hfr rfl) rfl) ?_
  refine RV.step1 (OpOk.plain (ok_move (.inr rfl) rfl (by decide) rfl) rfl) ?_
  refine RV.done ?_
  refine CV.seq ?_
  refine CV.region rfl (fun h => nomatch h) ?_
  refine RV.step1 (OpOk.plain (ok_move (.inl rfl) rfl (by decide) rfl) rfl) ?_
  refine RV.step1 (OpOk.plain (ok_call (Public_con Sg.s5 1 Sg.s5_bn (by decide) (by decide)) rfl rfl (by decide) Tryd.func12 rfl rfl (.cons rfl Conv.any (.cons rfl Conv.any .nil)) rfl hfr rfl) rfl) ?_
  refine RV.step1 (OpOk.plain (ok_move (.inl rfl) rfl (by decide) rfl) rfl) ?_
  refine RV.step1 (OpOk.plain (ok_extract rfl rfl (by decide) rfl rfl) rfl) ?_
  refine RV.step1 (OpOk.plain (ok_extract rfl rfl (by decide) rfl rfl) rfl) ?_
  refine RV.step2 (OpOk.plain (ok_alloc (i := 0) rfl rfl (by decide) zero_dig rfl rfl rfl rfl) rfl) ?_
  refine RV.step1 (OpOk.plain (ok_store rfl rfl rfl rfl rfl rfl rfl (ty_dig).2 rfl rfl rfl rfl) rfl) ?_
  refine RV.step1 (OpOk.plain (ok_move (.inr rfl) rfl (by decide) rfl) rfl) ?_
  refine RV.done ?_
  refine CV.seq ?_
  rw [Sg.pub5]
  refine CV.region rfl (fun h => nomatch h) ?_
  refine RV.step1 (OpOk.plain (ok_move (.inl rfl) rfl (by decide) rfl) rfl) ?_
  refine RV.step1 (OpOk.plain (ok_call (Sign_con Sg.s5 1 1 [109] Sg.s5_bn (by decide) (by decide) (by decide) (Sg.bn_of (by decide)) (by decide)) rfl rfl (by decide) Tryd.func14 rfl rfl (.cons rfl Conv.any (.cons rfl Conv.any (.cons rfl Conv.any (.cons rfl Conv.any .nil)))) rfl hfr rfl) rfl) ?_
  refine RV.step1 (OpOk.plain (ok_move (.inl rfl) rfl (by decide) rfl) rfl) ?_
  refine RV.step1 (OpOk.plain (ok_extract rfl rfl (by decide) rfl rfl) rfl) ?_
  refine RV.step1 (OpOk.plain (ok_extract rfl rfl (by decide) rfl rfl) rfl) ?_
  refine RV.step1 (OpOk.plain (ok_move (.inr rfl) rfl (by decide) rfl) rfl) ?_
  refine RV.step1 (OpOk.plain (ok_move (.inr rfl) rfl (by decide) rfl) rfl) ?_
  refine RV.done ?_
  refine CV.seq ?_
  refine CV.region rfl (fun h => nomatch h) ?_
  refine RV.step1 (OpOk.plain (ok_load rfl rfl (by decide) rfl rfl rfl ty_dig) rfl) ?_
  refine RV.step1 (OpOk.plain (ok_move (.inl rfl) rfl (by decide) rfl) rfl) ?_
  refine RV.step1 (OpOk.plain (ok_call (Verify_con Sg.p5 [109] (Sg.signN Sg.s5 1 1 [109]) 1 _ _ _ hpb (by decide) (Sg.bn_of (by decide)) (by decide) (signN_bn _ _ _ _) (by omega) (by decide) hq (by omega)) rfl rfl (by decide) Tryd.func18 rfl rfl (.cons rfl Conv.any (.cons rfl Conv.any (.cons rfl Conv.any (.cons rfl Conv.any .nil)))) rfl hfr rfl) rfl) ?_
  refine RV.step1 (OpOk.plain (ok_move (.inl rfl) rfl (by decide) rfl) rfl) ?_
  refine RV.step1 (OpOk.plain (ok_extract rfl rfl (by decide) rfl rfl) rfl) ?_
  refine RV.step1 (OpOk.plain (ok_extract rfl rfl (by decide) rfl rfl) rfl) ?_
  refine RV.step1 (OpOk.plain (ok_move (.inr rfl) rfl (by decide) rfl) rfl) ?_
  refine RV.step1 (OpOk.plain (ok_move (.inr rfl) rfl (by decide) rfl) rfl) ?_
  refine RV.done ?_
  refine CV.seq ?_
  refine CV.region rfl (fun h => nomatch h) ?_
  refine RV.step1 (OpOk.plain (ok_load rfl rfl (by decide) rfl rfl rfl ty_dig) rfl) ?_
  refine RV.step1 (OpOk.plain (ok_move (.inl rfl) rfl (by decide) rfl) rfl) ?_
  refine RV.step1 (OpOk.plain (ok_call (Verify_con Sg.p5 [110] (Sg.signN Sg.s5 1 1 [109]) 1 _ _ _ hpb (by decide) (Sg.bn_of (by decide)) (by decide) (signN_bn _ _ _ _) (by omega) (by decide) hq (by omega)) rfl rfl (by decide) Tryd.func18 rfl rfl (.cons rfl Conv.any (.cons rfl Conv.any (.cons rfl Conv.any (.cons rfl Conv.any .nil)))) rfl hfr rfl) rfl) ?_
  refine RV.step1 (OpOk.plain (ok_move (.inl rfl) rfl (by decide) rfl) rfl) ?_
  refine RV.step1 (OpOk.plain (ok_extract rfl rfl (by decide) rfl rfl) rfl) ?_
  refine RV.step1 (OpOk.plain (ok_extract rfl rfl (by decide) rfl rfl) rfl) ?_
  refine RV.step1 (OpOk.plain (ok_move (.inr rfl) rfl (by decide) rfl) rfl) ?_
  refine RV.step1 (OpOk.plain (ok_move (.inr rfl) rfl (by decide) rfl) rfl) ?_
  refine RV.done ?_
  refine CV.seq ?_
  rw [hv1, ver5]
  refine CV.region rfl (fun h => nomatch h) ?_
  refine RV.step1 (OpOk.plain (ok_move (.inl rfl) rfl (by decide) rfl) rfl) ?_
  refine RV.step1 (OpOk.plain (ok_call (Sign_spent Sg.s5 [109] 1 2 (by decide) (by decide) (by decide)) rfl rfl (by decide) Tryd.func14 rfl rfl (.cons rfl Conv.any (.cons rfl Conv.any (.cons rfl Conv.any (.cons rfl Conv.any .nil)))) rfl hfr rfl) rfl) ?_
  refine RV.step1 (OpOk.plain (ok_move (.inl rfl) rfl (by decide) rfl) rfl) ?_
  refine RV.step1 (OpOk.plain (ok_extract rfl rfl (by decide) rfl rfl) rfl) ?_
  refine RV.step1 (OpOk.plain (ok_extract rfl rfl (by decide) rfl rfl) rfl) ?_
  refine RV.step1 (OpOk.plain (ok_move (.inr rfl) rfl (by decide) rfl) rfl) ?_
  refine RV.step1 (OpOk.plain (ok_move (.inr rfl) rfl (by decide) rfl) rfl) ?_
  refine RV.done ?_
  refine CV.seq ?_
  refine CV.region rfl (fun h => nomatch h) ?_
  refine RV.step1 (OpOk.plain (ok_move (.inl rfl) rfl (by decide) rfl) rfl) ?_
  refine RV.step1 (OpOk.plain (ok_cutT (v := by8 (Sg.s5.drop 1)) (some 1) none rfl (by decide) (by decide) u_str rfl rfl (by decide) rfl rfl trivial) rfl) ?_
  refine RV.step1 (OpOk.plain (ok_call (Public_bad (Sg.s5.drop 1) 0 (by decide)) rfl rfl (by decide) Tryd.func12 rfl rfl (.cons rfl Conv.any (.cons rfl Conv.any .nil)) rfl hfr rfl) rfl) ?_
  refine RV.step1 (OpOk.plain (ok_move (.inl rfl) rfl (by decide) rfl) rfl) ?_
  refine RV.step1 (OpOk.plain (ok_extract rfl rfl (by decide) rfl rfl) rfl) ?_
  refine RV.step1 (OpOk.plain (ok_extract rfl rfl (by decide) rfl rfl) rfl) ?_
  refine RV.step2 (OpOk.plain (ok_alloc (i := 1) rfl rfl (by decide) zero_dig rfl rfl rfl rfl) rfl) ?_
  refine RV.step1 (OpOk.plain (ok_store rfl rfl rfl rfl rfl rfl rfl (ty_dig).2 rfl rfl rfl rfl) rfl) ?_
  refine RV.step1 (OpOk.plain (ok_move (.inr rfl) rfl (by decide) rfl) rfl) ?_
  refine RV.done ?_
  refine CV.seq ?_
  refine CV.region rfl (fun h => nomatch h) ?_
  refine RV.step1 (OpOk.plain (ok_buildD rfl rfl (by decide)) rfl) ?_
  refine RV.step1 (OpOk.plain (ok_call (Digits_con (List.replicate 16 0) z16_bn (by decide)) rfl rfl (by decide) Tryd.func10 rfl rfl (.cons rfl ⟨rfl, dg_zero⟩ .nil) rfl hfr rfl) rfl) ?_
  refine RV.step1 (OpOk.plain (ok_move (.inr rfl) rfl (by decide) rfl) rfl) ?_
  refine RV.done ?_
  refine CV.seq ?_
  refine CV.seq ?_
  refine CV.region rfl (fun h => nomatch h) ?_
  refine RV.step1 (OpOk.plain (ok_move (.inl rfl) rfl (by decide) rfl) rfl) ?_
  refine RV.step1 (OpOk.plain (ok_neq rfl rfl (by decide) rfl rfl) rfl) ?_
  refine RV.step1 (OpOk.plain (ok_move (.inl rfl) rfl (by decide) rfl) rfl) ?_
  refine RV.bool (fun hb => False.elim (by revert hb; decide)) (fun hb => ?_)
  refine RV.step1 (OpOk.yes (ok_move (.inl rfl) rfl (by decide) rfl) rfl rfl rfl) ?_
  refine RV.step1 (OpOk.yes (ok_neq rfl rfl (by decide) rfl rfl) rfl rfl rfl) ?_
  refine RV.step1 (OpOk.plain (ok_pickF rfl rfl (by decide) rfl rfl rfl) rfl) ?_
  refine RV.step1 (OpOk.plain (ok_move (.inl rfl) rfl (by decide) rfl) rfl) ?_
  refine RV.bool (fun hb => False.elim (by revert hb; decide)) (fun hb => ?_)
  refine RV.step1 (OpOk.yes (ok_move (.inl rfl) rfl (by decide) rfl) rfl rfl rfl) ?_
  refine RV.step1 (OpOk.yes (ok_neq rfl rfl (by decide) rfl rfl) rfl rfl rfl) ?_
  refine RV.step1 (OpOk.plain (ok_pickF rfl rfl (by decide) rfl rfl rfl) rfl) ?_
  refine RV.step1 (OpOk.plain (ok_move (.inl rfl) rfl (by decide) rfl) rfl) ?_
  refine RV.bool (fun hb => False.elim (by revert hb; decide)) (fun hb => ?_)
  refine RV.step1 (OpOk.yes (ok_move (.inl rfl) rfl (by decide) rfl) rfl rfl rfl) ?_
  refine RV.step1 (OpOk.yes (ok_lenL (m := 68) (by rw [dzV_length, zeros_digits]; rfl) u_ints rfl rfl (by decide) rfl) rfl rfl rfl) ?_
  refine RV.step1 (OpOk.yes (ok_neq rfl rfl (by decide) rfl rfl) rfl rfl rfl) ?_
  refine RV.step1 (OpOk.plain (ok_pickF rfl rfl (by decide) rfl rfl rfl) rfl) ?_
  refine RV.done ?_
  refine CV.cond rfl (fun hc => False.elim (by revert hc; decide)) (fun hc => ?_)
  refine CV.skip ?_
  refine CV.seq ?_
  refine CV.region rfl (fun _ => by kernel_rfl) ?_
  refine RV.step1 (OpOk.plain (ok_move (.inl rfl) rfl (by decide) rfl) rfl) ?_
  refine RV.step1 (OpOk.plain (ok_eql rfl rfl (by decide) rfl rfl) rfl) ?_
  refine RV.step1 (OpOk.plain (ok_move (.inl rfl) rfl (by decide) rfl) rfl) ?_
  refine RV.bool (fun hb => ?_) (fun hb => False.elim (by revert hb; decide))
  refine RV.step1 (OpOk.yes (ok_move (.inl rfl) rfl (by decide) rfl) rfl rfl rfl) ?_
  refine RV.step1 (OpOk.yes (ok_eql rfl rfl (by decide) rfl rfl) rfl rfl rfl) ?_
  refine RV.step1 (OpOk.plain (ok_pickT rfl rfl (by decide) rfl rfl rfl) rfl) ?_
  refine RV.step1 (OpOk.plain (ok_move (.inl rfl) rfl (by decide) rfl) rfl) ?_
  refine RV.bool (fun hb => ?_) (fun hb => False.elim (by revert hb; decide))
  refine RV.step1 (OpOk.yes (ok_move (.inl rfl) rfl (by decide) rfl) rfl rfl rfl) ?_
  refine RV.step1 (OpOk.yes (ok_eql rfl rfl (by decide) rfl rfl) rfl rfl rfl) ?_
  refine RV.step1 (OpOk.plain (ok_pickT rfl rfl (by decide) rfl rfl rfl) rfl) ?_
  refine RV.step1 (OpOk.plain (ok_move (.inl rfl) rfl (by decide) rfl) rfl) ?_
  refine RV.bool (fun hb => ?_) (fun hb => False.elim (by revert hb; decide))
  refine RV.step1 (OpOk.yes (ok_move (.inl rfl) rfl (by decide) rfl) rfl rfl rfl) ?_
  refine RV.step1 (OpOk.yes (ok_eql rfl rfl (by decide) rfl rfl) rfl rfl rfl) ?_
  refine RV.step1 (OpOk.plain (ok_pickT rfl rfl (by decide) rfl rfl rfl) rfl) ?_
  refine RV.step1 (OpOk.plain (ok_move (.inl rfl) rfl (by decide) rfl) rfl) ?_
  refine RV.bool (fun hb => ?_) (fun hb => False.elim (by revert hb; decide))
  refine RV.step1 (OpOk.yes (ok_move (.inl rfl) rfl (by decide) rfl) rfl rfl rfl) ?_
  refine RV.step1 (OpOk.yes (ok_idxL (i := 0) (k := none) (dzV_at (by rw [zeros_digits]; decide)) u_ints sz_i64 (by decide) rfl rfl (by decide) rfl rfl) rfl rfl rfl) ?_
  refine RV.step1 (OpOk.yes (ok_loadP ty_i64 (by decide) rfl rfl (by decide) rfl) rfl rfl rfl) ?_
  refine RV.step1 (OpOk.yes (ok_eql rfl rfl (by decide) rfl rfl) rfl rfl rfl) ?_
  refine RV.step1 (OpOk.plain (ok_pickT rfl rfl (by decide) rfl rfl rfl) rfl) ?_
  refine RV.step1 (OpOk.plain (ok_move (.inl rfl) rfl (by decide) rfl) rfl) ?_
  refine RV.bool (fun hb => ?_) (fun hb => False.elim (by rw [zeros_digits] at hb; revert hb; decide))
  refine RV.step1 (OpOk.yes (ok_move (.inl rfl) rfl (by decide) rfl) rfl rfl rfl) ?_
  refine RV.step1 (OpOk.yes (ok_idxL (i := 64) (k := none) (dzV_at (by rw [zeros_digits]; decide)) u_ints sz_i64 (by decide) rfl rfl (by decide) rfl rfl) rfl rfl rfl) ?_
  refine RV.step1 (OpOk.yes (ok_loadP ty_i64 (by decide) rfl rfl (by decide) rfl) rfl rfl rfl) ?_
  refine RV.step1 (OpOk.yes (ok_eql rfl rfl (by decide) rfl rfl) rfl rfl rfl) ?_
  refine RV.step1 (OpOk.plain (ok_pickT rfl rfl (by decide) rfl rfl rfl) rfl) ?_
  refine RV.step1 (OpOk.plain (ok_move (.inl rfl) rfl (by decide) rfl) rfl) ?_
  refine RV.bool (fun hb => ?_) (fun hb => False.elim (by rw [zeros_digits] at hb; revert hb; decide))
  refine RV.step1 (OpOk.yes (ok_move (.inl rfl) rfl (by decide) rfl) rfl rfl rfl) ?_
  refine RV.step1 (OpOk.yes (ok_idxL (i := 67) (k := none) (dzV_at (by rw [zeros_digits]; decide)) u_ints sz_i64 (by decide) rfl rfl (by decide) rfl rfl) rfl rfl rfl) ?_
  refine RV.step1 (OpOk.yes (ok_loadP ty_i64 (by decide) rfl rfl (by decide) rfl) rfl rfl rfl) ?_
  refine RV.step1 (OpOk.yes (ok_eql rfl rfl (by decide) rfl rfl) rfl rfl rfl) ?_
  refine RV.step1 (OpOk.plain (ok_pickT rfl rfl (by decide) rfl rfl rfl) rfl) ?_
  refine RV.step1 (OpOk.plain (ok_move (.inl rfl) rfl (by decide) rfl) rfl) ?_
  refine RV.bool (fun hb => ?_) (fun hb => False.elim (by rw [zeros_digits] at hb; revert hb; decide))
  refine RV.step1 (OpOk.yes (ok_load rfl rfl (by decide) rfl rfl rfl ty_dig) rfl rfl rfl) ?_
  refine RV.step1 (OpOk.yes (ok_call (Digest_con Sg.p5 [109] 1 hpb (by decide) (Sg.bn_of (by decide)) (by decide) (by decide) (by decide)) rfl rfl (by decide) Tryd.func16 rfl rfl (.cons rfl Conv.any (.cons rfl Conv.any (.cons rfl Conv.any .nil))) rfl hfr rfl) rfl rfl rfl) ?_
  refine RV.step1 (OpOk.yes (ok_load rfl rfl (by decide) rfl rfl rfl ty_dig) rfl rfl rfl) ?_
  refine RV.step1 (OpOk.yes (ok_call (Digest_con Sg.p5 [109] 0 hpb (by decide) (Sg.bn_of (by decide)) (by decide) (by decide) (by decide)) rfl rfl (by decide) Tryd.func16 rfl rfl (.cons rfl Conv.any (.cons rfl Conv.any (.cons rfl Conv.any .nil))) rfl hfr rfl) rfl rfl rfl) ?_
  refine RV.step1 (OpOk.yes (ok_cmpD (neg := true) (b := true) rfl (by have h0 : ¬ by8 (Sg.digestN Sg.p5 1 [109]) = by8 (Sg.digestN Sg.p5 0 [109]) := (fun q => Sg.dig50 (by8_inj (digestN_bn _ _ _) (digestN_bn _ _ _) q)); rw [decide_eq_false h0]; rfl) rfl rfl (by decide) rfl rfl) rfl rfl rfl) ?_
  refine RV.step1 (OpOk.plain (ok_pickT rfl rfl (by decide) rfl rfl rfl) rfl) ?_
  refine RV.step1 (OpOk.plain (ok_move (.inr rfl) rfl (by decide) rfl) rfl) ?_
  refine RV.drawn (by kernel_rfl) ?_
  refine CV.ret ?_
  exact fin1 rfl (.inr rfl) rfl is_rfl
set_option maxRecDepth 100000 in
theorem digitsSpec_con (d : List Nat) (hd : Bn d) (ld : d.length = 16) : Con Tryd.prog 3 [DG (by8 d)] (.one (.v (.bool true))) := by
  have hDl := Sg.digitsN_length ld
  refine Con.of (n := 47) Tryd.func3 rfl rfl rfl rfl rfl fun cx hfr => ?_
  refine CV.seq ?_
  refine CV.region rfl (fun h => nomatch h) ?_
  refine RV.step1 (OpOk.plain (ok_boxD rfl rfl (by decide) rfl rfl rfl) rfl) ?_
  refine RV.step1 (OpOk.plain (ok_move (.inr rfl) rfl (by decide) rfl) rfl) ?_
  refine RV.done ?_
  refine CV.seq ?_
  refine CV.region rfl (fun h => nomatch h) ?_
  refine RV.step1 (OpOk.plain (ok_call (sanity_con) rfl rfl (by decide) Tryd.func9 rfl rfl .nil rfl hfr rfl) rfl) ?_
  refine RV.step1 (OpOk.plain (ok_move (.inr rfl) rfl (by decide) rfl) rfl) ?_
  refine RV.done ?_
  refine CV.seq ?_
  refine CV.region rfl (fun h => nomatch h) ?_
  refine RV.step1 (OpOk.plain (ok_loadP ty_dig (by decide) rfl rfl (by decide) rfl) rfl) ?_
  refine RV.step1 (OpOk.plain (ok_call (Digits_con d hd ld) rfl rfl (by decide) Tryd.func10 rfl rfl (.cons rfl Conv.any .nil) rfl hfr rfl) rfl) ?_
  refine RV.step1 (OpOk.plain (ok_move (.inr rfl) rfl (by decide) rfl) rfl) ?_
  refine RV.done ?_
  refine CV.seq ?_
  refine CV.region rfl (fun h => nomatch h) ?_
  refine RV.step1 (OpOk.plain (ok_loadP ty_dig (by decide) rfl rfl (by decide) rfl) rfl) ?_
  refine RV.step1 (OpOk.plain (ok_call (rDigits_con d hd ld) rfl rfl (by decide) Tryd.func11 rfl rfl (.cons rfl Conv.any .nil) rfl hfr rfl) rfl) ?_
  refine RV.step1 (OpOk.plain (ok_move (.inr rfl) rfl (by decide) rfl) rfl) ?_
  refine RV.done ?_
  refine CV.seq ?_
  refine CV.seq ?_
  refine CV.region rfl (fun h => nomatch h) ?_
  refine RV.step1 (OpOk.plain (ok_move (.inl rfl) rfl (by decide) rfl) rfl) ?_
  refine RV.step1 (OpOk.plain (ok_lenL (m := 68) (by rw [dzV_length, hDl]) u_ints rfl rfl (by decide) rfl) rfl) ?_
  refine RV.step1 (OpOk.plain (ok_move (.inl rfl) rfl (by decide) rfl) rfl) ?_
  refine RV.step1 (OpOk.plain (ok_lenL (m := 68) (by rw [dzV_length, hDl]) u_ints rfl rfl (by decide) rfl) rfl) ?_
  refine RV.step1 (OpOk.plain (ok_neq rfl rfl (by decide) rfl rfl) rfl) ?_
  refine RV.done ?_
  refine CV.cond rfl (fun hc => False.elim (by revert hc; decide)) (fun hc => ?_)
  refine CV.skip ?_
  refine CV.seq ?_
  refine CV.seq ?_
  refine CV.region rfl (fun h => nomatch h) ?_
  refine RV.step1 (OpOk.plain (ok_move (.inr rfl) rfl (by decide) rfl) rfl) ?_
  refine RV.done ?_
  refine CV.block ?_
  obtain ⟨D, hD⟩ : ∃ D, D = Sg.digitsN d := ⟨_, rfl⟩
  have hD3 : ∀ c, D.getD c 0 ≤ 3 := (fun c => by rw [hD]; exact digN_le ld hd c)
  rw [← hD] at hDl ⊢
  refine CV.loop (X := {k : Nat // k ≤ 68}) (fun k => [(.s 6, .av (.one (.v (.int .i64 (k.1 : Int))))), (.s 4, .av (.one (DZ D))), (.s 5, .av (.one (DZ D))), (.s 3, .av (.one (.v (.bool true))))]) (fun k => 68 - k.1) ⟨0, Nat.zero_le _⟩ (Sub.mk ⟨XV.le_rfl _, XV.le_rfl _, XV.le_rfl _, XV.le_rfl _, trivial⟩ rfl rfl) (fun k => ?_)
  obtain ⟨k, hk⟩ := k
  simp only
  refine CV.seq ?_
  refine CV.seq ?_
  refine CV.region rfl (fun h => nomatch h) ?_
  refine RV.step1 (OpOk.plain (ok_move (.inl rfl) rfl (by decide) rfl) rfl) ?_
  refine RV.step1 (OpOk.plain (ok_move (.inl rfl) rfl (by decide) rfl) rfl) ?_
  refine RV.step1 (OpOk.plain (ok_lenL (m := 68) (by rw [dzV_length, hDl]) u_ints rfl rfl (by decide) rfl) rfl) ?_
  refine RV.step1 (OpOk.plain (ok_lss rfl rfl (by decide) rfl rfl) rfl) ?_
  refine RV.done ?_
  refine CV.cond rfl (fun hc => ?_) (fun hc => ?_)
  · have hlt : k < 68 := (by have := of_decide_eq_true hc; omega)
    have hk3 := hD3 k
    refine CV.skip ?_
    refine CV.seq ?_
    refine CV.block ?_
    refine CV.seq ?_
    refine CV.region rfl (fun _ => by kernel_rfl) ?_
    refine RV.step1 (OpOk.plain (ok_move (.inl rfl) rfl (by decide) rfl) rfl) ?_
    refine RV.step1 (OpOk.plain (ok_move (.inl rfl) rfl (by decide) rfl) rfl) ?_
    refine RV.step1 (OpOk.plain (ok_idxL (i := k) (k := none) (dzV_at (by omega)) u_ints sz_i64 (by decide) rfl rfl (by decide) rfl rfl) rfl) ?_
    refine RV.step1 (OpOk.plain (ok_loadP ty_i64 (by decide) rfl rfl (by decide) rfl) rfl) ?_
    refine RV.step1 (OpOk.plain (ok_move (.inl rfl) rfl (by decide) rfl) rfl) ?_
    refine RV.step1 (OpOk.plain (ok_move (.inl rfl) rfl (by decide) rfl) rfl) ?_
    refine RV.step1 (OpOk.plain (ok_idxL (i := k) (k := none) (dzV_at (by omega)) u_ints sz_i64 (by decide) rfl rfl (by decide) rfl rfl) rfl) ?_
    refine RV.step1 (OpOk.plain (ok_loadP ty_i64 (by decide) rfl rfl (by decide) rfl) rfl) ?_
    refine RV.step1 (OpOk.plain (ok_neq rfl rfl (by decide) rfl rfl) rfl) ?_
    refine RV.step1 (OpOk.plain (ok_move (.inl rfl) rfl (by decide) rfl) rfl) ?_
    refine RV.bool (fun hb => False.elim (by simp at hb)) (fun hb => ?_)
    refine RV.step1 (OpOk.yes (ok_move (.inl rfl) rfl (by decide) rfl) rfl rfl rfl) ?_
    refine RV.step1 (OpOk.yes (ok_move (.inl rfl) rfl (by decide) rfl) rfl rfl rfl) ?_
    refine RV.step1 (OpOk.yes (ok_idxL (i := k) (k := none) (dzV_at (by omega)) u_ints sz_i64 (by decide) rfl rfl (by decide) rfl rfl) rfl rfl rfl) ?_
    refine RV.step1 (OpOk.yes (ok_loadP ty_i64 (by decide) rfl rfl (by decide) rfl) rfl rfl rfl) ?_
    refine RV.step1 (OpOk.yes (ok_lss rfl rfl (by decide) rfl rfl) rfl rfl rfl) ?_
    refine RV.step1 (OpOk.plain (ok_pickF rfl rfl (by decide) rfl rfl rfl) rfl) ?_
    refine RV.step1 (OpOk.plain (ok_move (.inl rfl) rfl (by decide) rfl) rfl) ?_
    refine RV.bool (fun hb => False.elim (by have h1 := of_decide_eq_true hb; omega)) (fun hb => ?_)
    refine RV.step1 (OpOk.yes (ok_move (.inl rfl) rfl (by decide) rfl) rfl rfl rfl) ?_
    refine RV.step1 (OpOk.yes (ok_move (.inl rfl) rfl (by decide) rfl) rfl rfl rfl) ?_
    refine RV.step1 (OpOk.yes (ok_idxL (i := k) (k := none) (dzV_at (by omega)) u_ints sz_i64 (by decide) rfl rfl (by decide) rfl rfl) rfl rfl rfl) ?_
    refine RV.step1 (OpOk.yes (ok_loadP ty_i64 (by decide) rfl rfl (by decide) rfl) rfl rfl rfl) ?_
    refine RV.step1 (OpOk.yes (ok_gtr rfl rfl (by decide) rfl rfl) rfl rfl rfl) ?_
    refine RV.step1 (OpOk.plain (ok_pickF rfl rfl (by decide) rfl rfl rfl) rfl) ?_
    refine RV.drawn (by kernel_rfl) ?_
    refine CV.cond rfl (fun hc => False.elim (by have h1 := of_decide_eq_true hc; omega)) (fun hc => ?_)
    refine CV.skip ?_
    refine CV.region rfl (fun h => nomatch h) ?_
    refine RV.step1 (OpOk.plain (ok_move (.inl rfl) rfl (by decide) rfl) rfl) ?_
    refine RV.step1 (OpOk.plain (ok_add (c := ((k + 1 : Nat) : Int)) (by rw [wrapI (by omega) (by omega)]; omega) rfl rfl (by decide) rfl rfl) rfl) ?_
    refine RV.step1 (OpOk.plain (ok_move (.inr rfl) rfl (by decide) rfl) rfl) ?_
    refine RV.done ?_
    exact ⟨⟨k + 1, hlt⟩, Sub.mk ⟨XV.le_rfl _, XV.le_rfl _, XV.le_rfl _, XV.le_rfl _, trivial⟩ rfl rfl, by show 68 - (k + 1) < 68 - k; omega⟩
  · refine CV.exit ?_
    refine CV.seq ?_
    refine CV.region rfl (fun h => nomatch h) ?_
    refine RV.step1 (OpOk.plain (ok_move (.inl rfl) rfl (by decide) rfl) rfl) ?_
    refine RV.step1 (OpOk.plain (ok_move (.inr rfl) rfl (by decide) rfl) rfl) ?_
    refine RV.done ?_
    refine CV.ret ?_
    exact fin1 rfl (.inr rfl) rfl is_rfl
/-- Whether one of the first k digits is less. -/
def lessB (A B : List Nat) : Nat → Bool
  | 0 => false
  | k + 1 => lessB A B k || decide (((A.getD k 0 : Nat) : Int) < ((B.getD k 0 : Nat) : Int))
theorem lessB_of {A B : List Nat} {i : Nat} (h : A.getD i 0 < B.getD i 0) : ∀ k, i < k → lessB A B k = true
  | k + 1, hk => by
    rw [lessB, Bool.or_eq_true]
    by_cases e : i = k
    · subst e; exact .inr (decide_eq_true (by omega))
    · exact .inl (lessB_of h k (by omega))
set_option maxRecDepth 100000 in
theorem cross_con (a b : List Nat) (ha : Bn a) (la : a.length = 16) (hbn : Bn b) (lb : b.length = 16) : Con Tryd.prog 7 [DG (by8 a), DG (by8 b)] (.one (.v (.bool true))) := by
  have hAl := Sg.digitsN_length la
  have hBl := Sg.digitsN_length lb
  refine Con.of (n := 64) Tryd.func7 rfl rfl rfl rfl rfl fun cx hfr => ?_
  refine CV.seq ?_
  refine CV.region rfl (fun h => nomatch h) ?_
  refine RV.step1 (OpOk.plain (ok_boxD rfl rfl (by decide) rfl rfl rfl) rfl) ?_
  refine RV.step1 (OpOk.plain (ok_boxD rfl rfl (by decide) rfl rfl rfl) rfl) ?_
  refine RV.step1 (OpOk.plain (ok_move (.inr rfl) rfl (by decide) rfl) rfl) ?_
  refine RV.done ?_
  refine CV.seq ?_
  refine CV.region rfl (fun h => nomatch h) ?_
  refine RV.step1 (OpOk.plain (ok_call (sanity_con) rfl rfl (by decide) Tryd.func9 rfl rfl .nil rfl hfr rfl) rfl) ?_
  refine RV.step1 (OpOk.plain (ok_move (.inr rfl) rfl (by decide) rfl) rfl) ?_
  refine RV.done ?_
  refine CV.seq ?_
  refine CV.region rfl (fun h => nomatch h) ?_
  refine RV.step1 (OpOk.plain (ok_loadP ty_dig (by decide) rfl rfl (by decide) rfl) rfl) ?_
  refine RV.step1 (OpOk.plain (ok_call (Digits_con a ha la) rfl rfl (by decide) Tryd.func10 rfl rfl (.cons rfl Conv.any .nil) rfl hfr rfl) rfl) ?_
  refine RV.step1 (OpOk.plain (ok_move (.inr rfl) rfl (by decide) rfl) rfl) ?_
  refine RV.done ?_
  refine CV.seq ?_
  refine CV.region rfl (fun h => nomatch h) ?_
  refine RV.step1 (OpOk.plain (ok_loadP ty_dig (by decide) rfl rfl (by decide) rfl) rfl) ?_
  refine RV.step1 (OpOk.plain (ok_call (Digits_con b hbn lb) rfl rfl (by decide) Tryd.func10 rfl rfl (.cons rfl Conv.any .nil) rfl hfr rfl) rfl) ?_
  refine RV.step1 (OpOk.plain (ok_move (.inr rfl) rfl (by decide) rfl) rfl) ?_
  refine RV.done ?_
  refine CV.seq ?_
  refine CV.seq ?_
  refine CV.region rfl (fun h => nomatch h) ?_
  refine RV.step1 (OpOk.plain (ok_move (.inl rfl) rfl (by decide) rfl) rfl) ?_
  refine RV.step1 (OpOk.plain (ok_lenL (m := 68) (by rw [dzV_length, hAl]) u_ints rfl rfl (by decide) rfl) rfl) ?_
  refine RV.step1 (OpOk.plain (ok_neq rfl rfl (by decide) rfl rfl) rfl) ?_
  refine RV.step1 (OpOk.plain (ok_move (.inl rfl) rfl (by decide) rfl) rfl) ?_
  refine RV.bool (fun hb => False.elim (by revert hb; decide)) (fun hb => ?_)
  refine RV.step1 (OpOk.yes (ok_move (.inl rfl) rfl (by decide) rfl) rfl rfl rfl) ?_
  refine RV.step1 (OpOk.yes (ok_lenL (m := 68) (by rw [dzV_length, hBl]) u_ints rfl rfl (by decide) rfl) rfl rfl rfl) ?_
  refine RV.step1 (OpOk.yes (ok_neq rfl rfl (by decide) rfl rfl) rfl rfl rfl) ?_
  refine RV.step1 (OpOk.plain (ok_pickF rfl rfl (by decide) rfl rfl rfl) rfl) ?_
  refine RV.done ?_
  refine CV.cond rfl (fun hc => False.elim (by revert hc; decide)) (fun hc => ?_)
  refine CV.skip ?_
  refine CV.seq ?_
  refine CV.region rfl (fun h => nomatch h) ?_
  refine RV.step1 (OpOk.plain (ok_move (.inr rfl) rfl (by decide) rfl) rfl) ?_
  refine RV.done ?_
  refine CV.seq ?_
  refine CV.region rfl (fun h => nomatch h) ?_
  refine RV.step1 (OpOk.plain (ok_move (.inr rfl) rfl (by decide) rfl) rfl) ?_
  refine RV.done ?_
  refine CV.seq ?_
  refine CV.seq ?_
  refine CV.region rfl (fun h => nomatch h) ?_
  refine RV.step1 (OpOk.plain (ok_move (.inr rfl) rfl (by decide) rfl) rfl) ?_
  refine RV.done ?_
  refine CV.block ?_
  obtain ⟨A, hA⟩ : ∃ A, A = Sg.digitsN a := ⟨_, rfl⟩
  obtain ⟨B, hB⟩ : ∃ B, B = Sg.digitsN b := ⟨_, rfl⟩
  rw [← hA] at hAl ⊢
  rw [← hB] at hBl ⊢
  refine CV.loop (X := {k : Nat // k ≤ 68}) (fun k => [(.s 10, .av (.one (.v (.int .i64 (k.1 : Int))))), (.s 8, .av (.one (.v (.bool (lessB A B k.1))))), (.s 9, .av (.one (.v (.bool (lessB B A k.1))))), (.s 6, .av (.one (DZ A))), (.s 7, .av (.one (DZ B))), (.s 5, .av (.one (.v (.bool true)))), (.s 2, .av (.one (.d (Dm.gen (pG (some 16) (DG (by8 a))))))), (.s 3, .av (.one (.d (Dm.gen (pG (some 16) (DG (by8 b)))))))]) (fun k => 68 - k.1) ⟨0, Nat.zero_le _⟩ (Sub.mk ⟨XV.le_rfl _, XV.le_rfl _, XV.le_rfl _, XV.le_rfl _, XV.le_rfl _, XV.le_rfl _, XV.le_rfl _, XV.le_rfl _, trivial⟩ rfl rfl) (fun k => ?_)
  obtain ⟨k, hk⟩ := k
  simp only
  refine CV.seq ?_
  refine CV.seq ?_
  refine CV.region rfl (fun h => nomatch h) ?_
  refine RV.step1 (OpOk.plain (ok_move (.inl rfl) rfl (by decide) rfl) rfl) ?_
  refine RV.step1 (OpOk.plain (ok_lss rfl rfl (by decide) rfl rfl) rfl) ?_
  refine RV.done ?_
  refine CV.cond rfl (fun hc => ?_) (fun hc => ?_)
  · have hlt : k < 68 := (by have := of_decide_eq_true hc; omega)
    refine CV.skip ?_
    refine CV.seq ?_
    refine CV.block ?_
    refine CV.seqJ (l' := [(.s 8, .av (.one (.v (.bool (lessB A B (k + 1)))))), (.s 10, .av (.one (.v (.int .i64 (k : Int))))), (.s 9, .av (.one (.v (.bool (lessB B A k))))), (.s 6, .av (.one (DZ A))), (.s 7, .av (.one (DZ B))), (.s 5, .av (.one (.v (.bool true)))), (.s 2, .av (.one (.d (Dm.gen (pG (some 16) (DG (by8 a))))))), (.s 3, .av (.one (.d (Dm.gen (pG (some 16) (DG (by8 b)))))))]) ?_ ?_
    · refine CV.region rfl (fun _ => by kernel_rfl) ?_
      refine RV.step1 (OpOk.plain (ok_move (.inl rfl) rfl (by decide) rfl) rfl) ?_
      refine RV.step1 (OpOk.plain (ok_move (.inl rfl) rfl (by decide) rfl) rfl) ?_
      refine RV.bool (fun hx1 => ?_) (fun hx1 => ?_)
      · refine RV.step1 (OpOk.skip rfl rfl rfl rfl rfl (by decide)) ?_
        refine RV.step1 (OpOk.skip rfl rfl rfl rfl rfl (by decide)) ?_
        refine RV.step1 (OpOk.skip rfl rfl rfl rfl rfl (by decide)) ?_
        refine RV.step1 (OpOk.skip rfl rfl rfl rfl rfl (by decide)) ?_
        refine RV.step1 (OpOk.skip rfl rfl rfl rfl rfl (by decide)) ?_
        refine RV.step1 (OpOk.skip rfl rfl rfl rfl rfl (by decide)) ?_
        refine RV.step1 (OpOk.skip rfl rfl rfl rfl rfl (by decide)) ?_
        refine RV.step1 (OpOk.skip rfl rfl rfl rfl rfl (by decide)) ?_
        refine RV.step1 (OpOk.skip rfl rfl rfl rfl rfl (by decide)) ?_
        refine RV.step1 (OpOk.plain (ok_pickT rfl rfl (by decide) rfl rfl rfl) rfl) ?_
        refine RV.step1 (OpOk.plain (ok_move (.inr rfl) rfl (by decide) rfl) rfl) ?_
        refine RV.drawn (by kernel_rfl) ?_
        show Sub _ _
        exact Sub.mk ⟨XV.le_of (by rw [lessB]; simp only [hx1, Bool.true_or, Bool.false_or]; rfl), XV.le_rfl _, XV.le_rfl _, XV.le_rfl _, XV.le_rfl _, XV.le_rfl _, XV.le_rfl _, XV.le_rfl _, trivial⟩ rfl rfl
      · refine RV.step1 (OpOk.yes (ok_move (.inl rfl) rfl (by decide) rfl) rfl rfl rfl) ?_
        refine RV.step1 (OpOk.yes (ok_move (.inl rfl) rfl (by decide) rfl) rfl rfl rfl) ?_
        refine RV.step1 (OpOk.yes (ok_idxL (i := k) (k := none) (dzV_at (by omega)) u_ints sz_i64 (by decide) rfl rfl (by decide) rfl rfl) rfl rfl rfl) ?_
        refine RV.step1 (OpOk.yes (ok_loadP ty_i64 (by decide) rfl rfl (by decide) rfl) rfl rfl rfl) ?_
        refine RV.step1 (OpOk.yes (ok_move (.inl rfl) rfl (by decide) rfl) rfl rfl rfl) ?_
        refine RV.step1 (OpOk.yes (ok_move (.inl rfl) rfl (by decide) rfl) rfl rfl rfl) ?_
        refine RV.step1 (OpOk.yes (ok_idxL (i := k) (k := none) (dzV_at (by omega)) u_ints sz_i64 (by decide) rfl rfl (by decide) rfl rfl) rfl rfl rfl) ?_
        refine RV.step1 (OpOk.yes (ok_loadP ty_i64 (by decide) rfl rfl (by decide) rfl) rfl rfl rfl) ?_
        refine RV.step1 (OpOk.yes (ok_lss rfl rfl (by decide) rfl rfl) rfl rfl rfl) ?_
        refine RV.step1 (OpOk.plain (ok_pickF rfl rfl (by decide) rfl rfl rfl) rfl) ?_
        refine RV.step1 (OpOk.plain (ok_move (.inr rfl) rfl (by decide) rfl) rfl) ?_
        refine RV.drawn (by kernel_rfl) ?_
        show Sub _ _
        exact Sub.mk ⟨XV.le_of (by rw [lessB]; simp only [hx1, Bool.true_or, Bool.false_or]; rfl), XV.le_rfl _, XV.le_rfl _, XV.le_rfl _, XV.le_rfl _, XV.le_rfl _, XV.le_rfl _, XV.le_rfl _, trivial⟩ rfl rfl
    · refine CV.region rfl (fun _ => by kernel_rfl) ?_
      refine RV.step1 (OpOk.plain (ok_move (.inl rfl) rfl (by decide) rfl) rfl) ?_
      refine RV.step1 (OpOk.plain (ok_move (.inl rfl) rfl (by decide) rfl) rfl) ?_
      refine RV.bool (fun hx2 => ?_) (fun hx2 => ?_)
      · refine RV.step1 (OpOk.skip rfl rfl rfl rfl rfl (by decide)) ?_
        refine RV.step1 (OpOk.skip rfl rfl rfl rfl rfl (by decide)) ?_
        refine RV.step1 (OpOk.skip rfl rfl rfl rfl rfl (by decide)) ?_
        refine RV.step1 (OpOk.skip rfl rfl rfl rfl rfl (by decide)) ?_
        refine RV.step1 (OpOk.skip rfl rfl rfl rfl rfl (by decide)) ?_
        refine RV.step1 (OpOk.skip rfl rfl rfl rfl rfl (by decide)) ?_
        refine RV.step1 (OpOk.skip rfl rfl rfl rfl rfl (by decide)) ?_
        refine RV.step1 (OpOk.skip rfl rfl rfl rfl rfl (by decide)) ?_
        refine RV.step1 (OpOk.skip rfl rfl rfl rfl rfl (by decide)) ?_
        refine RV.step1 (OpOk.plain (ok_pickT rfl rfl (by decide) rfl rfl rfl) rfl) ?_
        refine RV.step1 (OpOk.plain (ok_move (.inr rfl) rfl (by decide) rfl) rfl) ?_
        refine RV.drawn (by kernel_rfl) ?_
        refine CV.region rfl (fun h => nomatch h) ?_
        refine RV.step1 (OpOk.plain (ok_move (.inl rfl) rfl (by decide) rfl) rfl) ?_
        refine RV.step1 (OpOk.plain (ok_add (c := ((k + 1 : Nat) : Int)) (by rw [wrapI (by omega) (by omega)]; omega) rfl rfl (by decide) rfl rfl) rfl) ?_
        refine RV.step1 (OpOk.plain (ok_move (.inr rfl) rfl (by decide) rfl) rfl) ?_
        refine RV.done ?_
        exact ⟨⟨k + 1, hlt⟩, Sub.mk ⟨XV.le_rfl _, XV.le_rfl _, XV.le_of (by rw [show lessB B A (k + 1) = (lessB B A k || decide (((B.getD k 0 : Nat) : Int) < ((A.getD k 0 : Nat) : Int))) from rfl, hx2]; rfl), XV.le_rfl _, XV.le_rfl _, XV.le_rfl _, XV.le_rfl _, XV.le_rfl _, trivial⟩ rfl rfl, by show 68 - (k + 1) < 68 - k; omega⟩
      · refine RV.step1 (OpOk.yes (ok_move (.inl rfl) rfl (by decide) rfl) rfl rfl rfl) ?_
        refine RV.step1 (OpOk.yes (ok_move (.inl rfl) rfl (by decide) rfl) rfl rfl rfl) ?_
        refine RV.step1 (OpOk.yes (ok_idxL (i := k) (k := none) (dzV_at (by omega)) u_ints sz_i64 (by decide) rfl rfl (by decide) rfl rfl) rfl rfl rfl) ?_
        refine RV.step1 (OpOk.yes (ok_loadP ty_i64 (by decide) rfl rfl (by decide) rfl) rfl rfl rfl) ?_
        refine RV.step1 (OpOk.yes (ok_move (.inl rfl) rfl (by decide) rfl) rfl rfl rfl) ?_
        refine RV.step1 (OpOk.yes (ok_move (.inl rfl) rfl (by decide) rfl) rfl rfl rfl) ?_
        refine RV.step1 (OpOk.yes (ok_idxL (i := k) (k := none) (dzV_at (by omega)) u_ints sz_i64 (by decide) rfl rfl (by decide) rfl rfl) rfl rfl rfl) ?_
        refine RV.step1 (OpOk.yes (ok_loadP ty_i64 (by decide) rfl rfl (by decide) rfl) rfl rfl rfl) ?_
        refine RV.step1 (OpOk.yes (ok_gtr rfl rfl (by decide) rfl rfl) rfl rfl rfl) ?_
        refine RV.step1 (OpOk.plain (ok_pickF rfl rfl (by decide) rfl rfl rfl) rfl) ?_
        refine RV.step1 (OpOk.plain (ok_move (.inr rfl) rfl (by decide) rfl) rfl) ?_
        refine RV.drawn (by kernel_rfl) ?_
        refine CV.region rfl (fun h => nomatch h) ?_
        refine RV.step1 (OpOk.plain (ok_move (.inl rfl) rfl (by decide) rfl) rfl) ?_
        refine RV.step1 (OpOk.plain (ok_add (c := ((k + 1 : Nat) : Int)) (by rw [wrapI (by omega) (by omega)]; omega) rfl rfl (by decide) rfl rfl) rfl) ?_
        refine RV.step1 (OpOk.plain (ok_move (.inr rfl) rfl (by decide) rfl) rfl) ?_
        refine RV.done ?_
        exact ⟨⟨k + 1, hlt⟩, Sub.mk ⟨XV.le_rfl _, XV.le_rfl _, XV.le_of (by rw [show lessB B A (k + 1) = (lessB B A k || decide (((B.getD k 0 : Nat) : Int) < ((A.getD k 0 : Nat) : Int))) from rfl, hx2]; rfl), XV.le_rfl _, XV.le_rfl _, XV.le_rfl _, XV.le_rfl _, XV.le_rfl _, trivial⟩ rfl rfl, by show 68 - (k + 1) < 68 - k; omega⟩
  · refine CV.exit ?_
    refine CV.seq ?_
    have hk68 : k = 68 := (by have := of_decide_eq_false hc; omega)
    subst hk68
    refine CV.region rfl (fun h => nomatch h) ?_
    refine RV.step1 (OpOk.plain (ok_move (.inl rfl) rfl (by decide) rfl) rfl) ?_
    refine RV.step1 (OpOk.plain (ok_move (.inl rfl) rfl (by decide) rfl) rfl) ?_
    refine RV.step1 (OpOk.yes (ok_loadP ty_dig (by decide) rfl rfl (by decide) rfl) rfl rfl rfl) ?_
    refine RV.step1 (OpOk.yes (ok_loadP ty_dig (by decide) rfl rfl (by decide) rfl) rfl rfl rfl) ?_
    refine RV.step1 (OpOk.yes (ok_cmpD (neg := false) rfl rfl rfl rfl (by decide) rfl rfl) rfl rfl rfl) ?_
    refine RV.step1 (OpOk.yes (ok_move (.inl rfl) rfl (by decide) rfl) rfl rfl rfl) ?_
    refine RV.bool (fun hab => ?_) (fun hab => ?_)
    · skip
      refine RV.step1 (OpOk.skip rfl rfl rfl rfl rfl (by decide)) ?_
      refine RV.step1 (OpOk.skip rfl rfl rfl rfl rfl (by decide)) ?_
      refine RV.step1 (OpOk.skipU rfl rfl rfl rfl (by decide)) ?_
      refine RV.step1 (OpOk.skip rfl rfl rfl rfl rfl (by decide)) ?_
      refine RV.step1 (OpOk.yes (ok_pickT rfl rfl (by decide) rfl rfl rfl) rfl rfl rfl) ?_
      refine RV.step1 (OpOk.plain (ok_pickT rfl rfl (by decide) rfl rfl rfl) rfl) ?_
      refine RV.step1 (OpOk.plain (ok_move (.inr rfl) rfl (by decide) rfl) rfl) ?_
      refine RV.done ?_
      refine CV.ret ?_
      exact fin1 rfl (.inr rfl) rfl is_rfl
    · have hne : a ≠ b := (fun q => by rw [q] at hab; simp at hab)
      have h1 : lessB A B 68 = true := (by obtain ⟨i, hi, hlt⟩ := Sg.digits_less la lb ha hbn hne; rw [← hA, ← hB] at hlt; exact lessB_of hlt 68 hi)
      have h2 : lessB B A 68 = true := (by obtain ⟨i, hi, hlt⟩ := Sg.digits_less lb la hbn ha (fun q => hne q.symm); rw [← hA, ← hB] at hlt; exact lessB_of hlt 68 hi)
      refine RV.step1 (OpOk.yes (ok_move (.inl rfl) rfl (by decide) rfl) rfl rfl rfl) ?_
      refine RV.step1 (OpOk.yes (ok_move (.inl rfl) rfl (by decide) rfl) rfl rfl rfl) ?_
      refine RV.bool (fun hb => ?_) (fun hb => False.elim (by rw [h1] at hb; cases hb))
      refine RV.step1 (OpOk.yes (ok_move (.inl rfl) rfl (by decide) rfl) rfl rfl rfl) ?_
      refine RV.step1 (OpOk.yes (ok_pickT rfl rfl (by decide) rfl rfl rfl) rfl rfl rfl) ?_
      refine RV.step1 (OpOk.yes (ok_pickF rfl rfl (by decide) rfl rfl rfl) rfl rfl rfl) ?_
      refine RV.step1 (OpOk.plain (ok_pickT rfl rfl (by decide) rfl rfl rfl) rfl) ?_
      refine RV.step1 (OpOk.plain (ok_move (.inr rfl) rfl (by decide) rfl) rfl) ?_
      refine RV.done ?_
      refine CV.ret ?_
      exact fin1 rfl (.inr rfl) rfl (is_bool h2)
section
variable {cx : Cx Dm} {n : Nat} {σ : St Dm} {o : Oper} {d t : Nat}
theorem ok_catB {P : Program} {x y : Operand} {T T' : TypeId} {a b : List Nat} (hs : a.length + b.length ≤ 9223372036854775807) (ho : o.op = .binOp .add T x y T') (hd : o.dst = some d) (hn : d < n) (hx : opd σ x = .av (.one (.v (str (by8 a))))) (hy : opd σ y = .av (.one (.v (str (by8 b))))) : OpOk P cx n σ o (opk x ++ opk y) [(.s d, .av (.one (.v (str (by8 (a ++ b))))))] := by
  rw [by8_append]
  exact ok_catT (by rw [by8_length, by8_length]; exact hs) ho hd hn hx hy
end
end Vc
end Go.Proofs.YthadfilandmhiaaDoor
