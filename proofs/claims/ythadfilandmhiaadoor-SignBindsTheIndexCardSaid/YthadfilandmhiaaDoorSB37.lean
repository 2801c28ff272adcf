/-
  Signatures: the reference's ints, Text, node, Digest, advance.
  Signatures: leaf of package sign, for any function that yields the chains' ends.
  Signatures: the closure that yields a chain's end, and the leaf made of it.
  Arrays of one's own that are written and read by index: rows that a pointer leads to.
  Signatures: the reference's digest and start.
  Signatures: the reference's leaf.
  Signatures: which heights and seeds are valid.
-/
import Derived.Test.YthadfilandmhiaaDoorSB36
set_option linter.unusedVariables false
set_option linter.unusedSimpArgs false
set_option linter.unusedSectionVars false
namespace Go.Proofs.YthadfilandmhiaaDoor
open Go.RowKit
open Go.Lib (hid)
open Dg Zn S
namespace Vc
theorem Text_con (l : List Nat) (hb : Bn l) (hl : l.length = 16) : Con Tryd.prog 31 [DG (by8 l)] (.one (.v (str (by8 l)))) := by
  rintro L ρ w vs hlt hni hwf hall
  match vs, hall with
  | [v0], ⟨h0, _⟩ =>
    obtain ⟨_, rfl⟩ := dg_open h0
    rw [byC_bytesV hb]
    refine (Text_any l hl w).mono ?_
    rintro e w' ⟨rfl, hbel⟩
    exact ⟨_, rfl, hbel, (str_by8 hb).symm⟩
theorem refOf_dg (tag : Nat) (ht : tag < 256) (ls : List (List Nat)) (hb : ∀ l ∈ ls, Bn l) (hn : ls.length ≤ 12) (hs : ∀ l ∈ ls, l.length ≤ 2000) : Con Tryd.prog 35 [.v (.int .i64 (tag : Int)), TX ls] (.one (DG (by8 (Sg.ofL tag ls)))) :=
  fun L ρ w vs h1 h2 h3 h4 => (refOf_con tag ht ls hb hn hs L ρ w vs h1 h2 h3 h4).mono fun _ _ ⟨v, e, hb, hv⟩ => ⟨v, e, hb, is_dg (Sg.ofL_bn _ _) (Sg.ofL_length _ _) L ρ _ _ hv⟩
theorem rInt_row (n : Int) (h1 : n ≤ 9223372036854775807) (h2 : -9223372036854775808 ≤ n) : ConRow Tryd.prog 30 [(.v (.int .i64 n) : SA Dm)] 5 none (byV (by8 (Sg.intN n))) := by
  have h := rwireInt_con n h1 h2
  rwa [enc_by8 (W.code_bs n)] at h
theorem rInts_row (zs : List Int) (hz : ∀ z ∈ zs, -9223372036854775808 ≤ z ∧ z ≤ 9223372036854775807) (hl : zs.length ≤ 1099511627776) : ConRow Tryd.prog 63 [ZI .i64 zs] 5 none (byV (by8 (Sg.intsN zs))) := by
  have h := refInts_con zs hz hl
  rwa [enc_by8 (ints_bs zs)] at h
theorem radv_step (key chain fr k : Nat) (v : List Nat) (hv : Bn v) (lv : v.length = 16) : Con Tryd.prog 35 [.v (.int .i64 9), TX [Sg.intsN [(key : Int), (chain : Int), ((fr + k : Nat) : Int)], Sg.advN key chain fr k v]] (.one (DG (by8 (Sg.advN key chain fr (k + 1) v)))) := by
  have h1 := intsN_le [(key : Int), (chain : Int), ((fr + k : Nat) : Int)]
  have h2 := Sg.advN_length key chain k fr v lv
  rw [Sg.advN_snoc]
  exact refOf_dg 9 (by decide) _ (by simp [intsN_bn, Sg.advN_bn key chain k fr v hv]) (by simp) (by simp [h2]; simp at h1; omega)
set_option maxRecDepth 100000 in
theorem rints_con (zs : List Int) (hz : ∀ z ∈ zs, -9223372036854775808 ≤ z ∧ z ≤ 9223372036854775807) (hl : zs.length ≤ 1099511627776) : Con Tryd.prog 50 [ZI .i64 zs] (.one (.v (str (by8 (Sg.intsN zs))))) := by
  refine Con.of (n := 6) Tryd.func50 rfl rfl rfl rfl rfl fun cx hfr => ?_
  refine CV.seq ?_
  refine CV.region rfl (fun h => nomatch h) ?_
  refine RV.step1 (OpOk.plain (ok_move (.inr rfl) rfl (by decide) rfl) rfl) ?_
  refine RV.done ?_
  refine CV.seq ?_
  refine CV.region rfl (fun h => nomatch h) ?_
  refine RV.step1 (OpOk.plain (ok_move (.inl rfl) rfl (by decide) rfl) rfl) ?_
  refine RV.step1 (OpOk.plain (ok_callRowD (G := Dm.gen (lstG none (byV (by8 (Sg.intsN zs))))) (rInts_row zs hz hl) (byV_vals _) (lstG_Lst none _) (lstG_Lst0 none _) rfl rfl (by decide) Tryd.func63 rfl rfl (.cons rfl Conv.any .nil)) rfl) ?_
  refine RV.step1 (OpOk.plain (ok_b2s u_bytes u_u8 u_str rfl rfl (by decide) rfl) rfl) ?_
  refine RV.step1 (OpOk.plain (ok_move (.inr rfl) rfl (by decide) rfl) rfl) ?_
  refine RV.done ?_
  refine CV.ret ?_
  exact fin1 rfl (.inr rfl) rfl is_rfl
set_option maxRecDepth 100000 in
theorem rnode_con (l r : List Nat) (hl : Bn l) (hr : Bn r) (ll : l.length = 16) (lr : r.length = 16) : Con Tryd.prog 41 [DG (by8 l), DG (by8 r)] (.one (DG (by8 (Sg.joinN2 l r)))) := by
  refine Con.of (n := 11) Tryd.func41 rfl rfl rfl rfl rfl fun cx hfr => ?_
  refine CV.seq ?_
  refine CV.region rfl (fun h => nomatch h) ?_
  refine RV.step2 (OpOk.plain (ok_box (i := 0) rfl rfl (by decide) rfl rfl rfl rfl rfl) rfl) ?_
  refine RV.step2 (OpOk.plain (ok_box (i := 1) rfl rfl (by decide) rfl rfl rfl rfl rfl) rfl) ?_
  refine RV.step2 (OpOk.plain (ok_alloc (i := 2) rfl rfl (by decide) zero_dig rfl rfl rfl rfl) rfl) ?_
  refine RV.done ?_
  refine CV.seq ?_
  refine CV.region rfl (fun _ => by kernel_rfl) ?_
  refine RV.step1 (OpOk.plain (ok_load rfl rfl (by decide) rfl rfl rfl ty_dig) rfl) ?_
  refine RV.step1 (OpOk.plain (ok_call (Text_con l hl ll) rfl rfl (by decide) Tryd.func31 rfl rfl (.cons rfl Conv.any .nil) rfl hfr rfl) rfl) ?_
  refine RV.step1 (OpOk.plain (ok_load rfl rfl (by decide) rfl rfl rfl ty_dig) rfl) ?_
  refine RV.step1 (OpOk.plain (ok_call (Text_con r hr lr) rfl rfl (by decide) Tryd.func31 rfl rfl (.cons rfl Conv.any .nil) rfl hfr rfl) rfl) ?_
  refine RV.step1 (OpOk.plain (ok_litD (k := none) (xs := [.tmp 6, .tmp 8]) (ss := txV [l, r]) (G := Dm.gen (lstG none (txV [l, r]))) (lstG_Lst _ _) u_strs zs_str rfl rfl rfl (str_kinds _) (str_ptrs _) rfl rfl (by decide) (.cons rfl Conv.any (.cons rfl Conv.any .nil))) rfl) ?_
  refine RV.step1 (OpOk.plain (ok_call (refOf_dg 2 (by decide) [l, r] (by simp [hl, hr]) (by simp) (by simp [ll, lr])) rfl rfl (by decide) Tryd.func35 rfl rfl (.cons rfl Conv.any (.cons rfl Conv.any .nil)) rfl hfr rfl) rfl) ?_
  refine RV.step1 (OpOk.plain (ok_store rfl rfl rfl rfl rfl rfl rfl (ty_dig).2 rfl rfl rfl rfl) rfl) ?_
  refine RV.drawn (by kernel_rfl) ?_
  refine CV.ret ?_
  exact fin1 rfl (.inr rfl) ⟨_, _, _, _, _, rfl, rfl, rfl, ty_dig⟩ is_rfl
set_option maxRecDepth 100000 in
theorem rDigest_con (pub msg : List Nat) (index : Int) (hp : Bn pub) (lp : pub.length = 16) (hm : Bn msg) (lm : msg.length ≤ 2000) (h1 : index ≤ 9223372036854775807) (h2 : -9223372036854775808 ≤ index) : Con Tryd.prog 17 [DG (by8 pub), .v (.int .i64 index), .v (str (by8 msg))] (.one (DG (by8 (Sg.digestN pub index msg)))) := by
  refine Con.of (n := 15) Tryd.func17 rfl rfl rfl rfl rfl fun cx hfr => ?_
  refine CV.seq ?_
  refine CV.region rfl (fun h => nomatch h) ?_
  refine RV.step2 (OpOk.plain (ok_box (i := 0) rfl rfl (by decide) rfl rfl rfl rfl rfl) rfl) ?_
  refine RV.step2 (OpOk.plain (ok_alloc (i := 1) rfl rfl (by decide) zero_dig rfl rfl rfl rfl) rfl) ?_
  refine RV.done ?_
  refine CV.seq ?_
  refine CV.region rfl (fun h => nomatch h) ?_
  refine RV.step1 (OpOk.plain (ok_load rfl rfl (by decide) rfl rfl rfl ty_dig) rfl) ?_
  refine RV.step1 (OpOk.plain (ok_call (Text_con pub hp lp) rfl rfl (by decide) Tryd.func31 rfl rfl (.cons rfl Conv.any .nil) rfl hfr rfl) rfl) ?_
  refine RV.step1 (OpOk.plain (ok_move (.inl rfl) rfl (by decide) rfl) rfl) ?_
  refine RV.step1 (OpOk.plain (ok_callRowD (G := Dm.gen (lstG none (byV (by8 (Sg.intN index))))) (rInt_row index h1 h2) (byV_vals _) (lstG_Lst none _) (lstG_Lst0 none _) rfl rfl (by decide) Tryd.func30 rfl rfl (.cons rfl Conv.any .nil)) rfl) ?_
  refine RV.step1 (OpOk.plain (ok_b2s u_bytes u_u8 u_str rfl rfl (by decide) rfl) rfl) ?_
  refine RV.step1 (OpOk.plain (ok_move (.inl rfl) rfl (by decide) rfl) rfl) ?_
  refine RV.step1 (OpOk.plain (ok_litD (k := none) (xs := [.tmp 8, .tmp 11, .tmp 12]) (ss := txV [pub, Sg.intN index, msg]) (G := Dm.gen (lstG none (txV [pub, Sg.intN index, msg]))) (lstG_Lst _ _) u_strs zs_str rfl rfl rfl (str_kinds _) (str_ptrs _) rfl rfl (by decide) (.cons rfl Conv.any (.cons rfl Conv.any (.cons rfl Conv.any .nil)))) rfl) ?_
  refine RV.step1 (OpOk.plain (ok_call (refOf_dg 4 (by decide) [pub, Sg.intN index, msg] (by simp [hp, hm, intN_bn]) (by simp) (by have := intN_le index; simp [lp, lm]; omega)) rfl rfl (by decide) Tryd.func35 rfl rfl (.cons rfl Conv.any (.cons rfl Conv.any .nil)) rfl hfr rfl) rfl) ?_
  refine RV.step1 (OpOk.plain (ok_store rfl rfl rfl rfl rfl rfl rfl (ty_dig).2 rfl rfl rfl rfl) rfl) ?_
  refine RV.done ?_
  refine CV.ret ?_
  exact fin1 rfl (.inr rfl) ⟨_, _, _, _, _, rfl, rfl, rfl, ty_dig⟩ is_rfl
set_option maxRecDepth 100000 in
theorem radvance_con (v : List Nat) (key chain fr hi : Nat) (hv : Bn v) (lv : v.length = 16) (hk : key ≤ 1000) (hc' : chain ≤ 1000) (hft : fr ≤ hi) (ht : hi ≤ 1000) : Con Tryd.prog 32 [.v (.int .i64 (key : Int)), .v (.int .i64 (chain : Int)), .v (.int .i64 (fr : Int)), .v (.int .i64 (hi : Int)), DG (by8 v)] (.one (DG (by8 (Sg.advN key chain fr (hi - fr) v)))) := by
  refine Con.of (n := 28) Tryd.func32 rfl rfl rfl rfl rfl fun cx hfr => ?_
  refine CV.seq ?_
  refine CV.region rfl (fun h => nomatch h) ?_
  refine RV.step2 (OpOk.plain (ok_box (i := 0) rfl rfl (by decide) rfl rfl rfl rfl rfl) rfl) ?_
  refine RV.step2 (OpOk.plain (ok_alloc (i := 1) rfl rfl (by decide) zero_dig rfl rfl rfl rfl) rfl) ?_
  refine RV.done ?_
  refine CV.seq ?_
  refine CV.seq ?_
  refine CV.region rfl (fun h => nomatch h) ?_
  refine RV.step1 (OpOk.plain (ok_move (.inl rfl) rfl (by decide) rfl) rfl) ?_
  refine RV.step1 (OpOk.plain (ok_move (.inr rfl) rfl (by decide) rfl) rfl) ?_
  refine RV.done ?_
  refine CV.block ?_
  refine CV.loop (X := {k : Nat // fr + k ≤ hi}) (fun k => [(.s 11, .av (.one (.v (.int .i64 ((fr + k.1 : Nat) : Int))))), (.s 3, .av (.one (.v (.int .i64 (hi : Int))))), (.s 0, .av (.one (.v (.int .i64 (key : Int))))), (.s 1, .av (.one (.v (.int .i64 (chain : Int))))), (.s 9, .av (.one (.ptr 0 0))), (.b 0, .blk 23 [(some 16, DG (by8 (Sg.advN key chain fr k.1 v)))]), (.s 10, .av (.one (.ptr 1 0))), (.b 1, .blk 23 [(some 16, .v zeroDig)])]) (fun k => hi - k.1) ⟨0, hft⟩ (Sub.mk ⟨XV.le_rfl _, XV.le_rfl _, XV.le_rfl _, XV.le_rfl _, XV.le_rfl _, XV.le_rfl _, XV.le_rfl _, XV.le_rfl _, trivial⟩ rfl rfl) (fun k => ?_)
  obtain ⟨k, hk2⟩ := k
  simp only
  refine CV.seq ?_
  refine CV.seq ?_
  refine CV.region rfl (fun h => nomatch h) ?_
  refine RV.step1 (OpOk.plain (ok_move (.inl rfl) rfl (by decide) rfl) rfl) ?_
  refine RV.step1 (OpOk.plain (ok_move (.inl rfl) rfl (by decide) rfl) rfl) ?_
  refine RV.step1 (OpOk.plain (ok_lss rfl rfl (by decide) rfl rfl) rfl) ?_
  refine RV.done ?_
  refine CV.cond rfl (fun hc => ?_) (fun hc => ?_)
  · have hlt : fr + k < hi := (by have := of_decide_eq_true hc; omega)
    refine CV.skip ?_
    refine CV.seq ?_
    refine CV.block ?_
    refine CV.region rfl (fun _ => by kernel_rfl) ?_
    refine RV.step1 (OpOk.plain (ok_move (.inl rfl) rfl (by decide) rfl) rfl) ?_
    refine RV.step1 (OpOk.plain (ok_move (.inl rfl) rfl (by decide) rfl) rfl) ?_
    refine RV.step1 (OpOk.plain (ok_move (.inl rfl) rfl (by decide) rfl) rfl) ?_
    refine RV.step1 (OpOk.plain (ok_litD (k := none) (xs := [.tmp 18, .tmp 19, .tmp 20]) (ss := ziV .i64 [(key : Int), (chain : Int), ((fr + k : Nat) : Int)]) (G := Dm.gen (lstG none (ziV .i64 [(key : Int), (chain : Int), ((fr + k : Nat) : Int)]))) (lstG_Lst _ _) u_ints zs_i64 rfl rfl rfl (zi_kinds _) (ziV_ptrs _) rfl rfl (by decide) (.cons rfl Conv.any (.cons rfl Conv.any (.cons rfl Conv.any .nil)))) rfl) ?_
    refine RV.step1 (OpOk.plain (ok_call (rints_con [(key : Int), (chain : Int), ((fr + k : Nat) : Int)] (by simp; omega) (by simp)) rfl rfl (by decide) Tryd.func50 rfl rfl (.cons rfl Conv.any .nil) rfl hfr rfl) rfl) ?_
    refine RV.step1 (OpOk.plain (ok_load rfl rfl (by decide) rfl rfl rfl ty_dig) rfl) ?_
    refine RV.step1 (OpOk.plain (ok_call (Text_con _ (Sg.advN_bn key chain k fr v hv) (Sg.advN_length key chain k fr v lv)) rfl rfl (by decide) Tryd.func31 rfl rfl (.cons rfl Conv.any .nil) rfl hfr rfl) rfl) ?_
    refine RV.step1 (OpOk.plain (ok_litD (k := none) (xs := [.tmp 22, .tmp 24]) (ss := txV [Sg.intsN [(key : Int), (chain : Int), ((fr + k : Nat) : Int)], Sg.advN key chain fr k v]) (G := Dm.gen (lstG none (txV [Sg.intsN [(key : Int), (chain : Int), ((fr + k : Nat) : Int)], Sg.advN key chain fr k v]))) (lstG_Lst _ _) u_strs zs_str rfl rfl rfl (str_kinds _) (str_ptrs _) rfl rfl (by decide) (.cons rfl Conv.any (.cons rfl Conv.any .nil))) rfl) ?_
    refine RV.step1 (OpOk.plain (ok_call (radv_step key chain fr k v hv lv) rfl rfl (by decide) Tryd.func35 rfl rfl (.cons rfl Conv.any (.cons rfl Conv.any .nil)) rfl hfr rfl) rfl) ?_
    refine RV.step1 (OpOk.plain (ok_store rfl rfl rfl rfl rfl rfl rfl (ty_dig).2 rfl rfl rfl rfl) rfl) ?_
    refine RV.drawn (by kernel_rfl) ?_
    refine CV.region rfl (fun h => nomatch h) ?_
    refine RV.step1 (OpOk.plain (ok_move (.inl rfl) rfl (by decide) rfl) rfl) ?_
    refine RV.step1 (OpOk.plain (ok_add (c := ((fr + (k + 1) : Nat) : Int)) (by rw [wrapI (by omega) (by omega)]; omega) rfl rfl (by decide) rfl rfl) rfl) ?_
    refine RV.step1 (OpOk.plain (ok_move (.inr rfl) rfl (by decide) rfl) rfl) ?_
    refine RV.done ?_
    exact ⟨⟨k + 1, by omega⟩, Sub.mk ⟨XV.le_rfl _, XV.le_rfl _, XV.le_rfl _, XV.le_rfl _, XV.le_rfl _, XV.le_rfl _, XV.le_rfl _, XV.le_rfl _, trivial⟩ rfl rfl, by show hi - (k + 1) < hi - k; omega⟩
  · refine CV.exit ?_
    refine CV.seq ?_
    refine CV.region rfl (fun h => nomatch h) ?_
    refine RV.step1 (OpOk.plain (ok_load rfl rfl (by decide) rfl rfl rfl ty_dig) rfl) ?_
    refine RV.step1 (OpOk.plain (ok_store rfl rfl rfl rfl rfl rfl rfl (ty_dig).2 rfl rfl rfl rfl) rfl) ?_
    refine RV.done ?_
    refine CV.ret ?_
    have e : hi - fr = k := (by have := of_decide_eq_false hc; omega)
    rw [e]
    exact fin1 rfl (.inr rfl) ⟨_, _, _, _, _, rfl, rfl, rfl, ty_dig⟩ is_rfl
/-- The first k ends, one behind the other. -/
def topsN (g : Nat → List Nat) (k : Nat) : List Nat := ((List.range k).map g).flatten
theorem topsN_succ (g : Nat → List Nat) (k : Nat) : topsN g (k + 1) = topsN g k ++ g k := by
  simp [topsN, List.range_succ]
theorem topsN_length (g : Nat → List Nat) (hg : ∀ c, (g c).length = 16) : ∀ k, (topsN g k).length = 16 * k
  | 0 => rfl
  | k + 1 => by rw [topsN_succ, List.length_append, topsN_length g hg k, hg]; omega
theorem topsN_bn (g : Nat → List Nat) (hg : ∀ c, Bn (g c)) (k : Nat) : Bn (topsN g k) := by
  intro x hx
  obtain ⟨l, hl, hx⟩ := List.mem_flatten.1 hx
  obtain ⟨c, _, rfl⟩ := List.mem_map.1 hl
  exact hg c x hx
theorem byV_tops (g : Nat → List Nat) (k : Nat) : byV (by8 (topsN g k)) ++ byV (by8 (g k)) = byV (by8 (topsN g (k + 1))) := by
  rw [topsN_succ, by8_append, byV_append]
section
variable {f : FuncId} {fn : Func} {caps : List (SA Dm)} (g : Nat → List Nat) (hg : ∀ c, (g c).length = 16) (hgb : ∀ c, Bn (g c)) (hf : Tryd.prog.funcs[f]? = some fn) (hname : (fn.name == "runtime.NumGoroutine") = false) (hb : fn.body.isSome = true) (hcon : ∀ c : Nat, c < 68 → Con Tryd.prog f (.v (.int .i64 (c : Int)) :: caps) (.one (DG (by8 (g c)))))
include hg hgb hf hname hb hcon
set_option maxRecDepth 100000 in
theorem leaf_con : Con Tryd.prog 43 [.d (Dm.gen (fnG f caps))] (.one (DG (by8 (Sg.leafN ((List.range 68).map g))))) := by
  have hl68 := topsN_length g hg 68
  refine Con.of (n := 25) Tryd.func43 rfl rfl rfl rfl rfl fun cx hfr => ?_
  refine CV.seq ?_
  refine CV.region rfl (fun h => nomatch h) ?_
  refine RV.step2 (OpOk.plain (ok_alloc (i := 0) rfl rfl (by decide) zero_dig rfl rfl rfl rfl) rfl) ?_
  refine RV.done ?_
  refine CV.seq ?_
  refine CV.region rfl (fun h => nomatch h) ?_
  refine RV.step1 (OpOk.plain (ok_move (.inr rfl) rfl (by decide) rfl) rfl) ?_
  refine RV.done ?_
  refine CV.seq ?_
  refine CV.seq ?_
  refine CV.nilrow 3 100 5 none rfl rfl rfl rfl ?_
  refine CV.region rfl (fun h => nomatch h) ?_
  refine RV.step1 (OpOk.plain (ok_move (.inl rfl) rfl (by decide) rfl) rfl) ?_
  refine RV.done ?_
  refine CV.block ?_
  refine CV.loop (X := {k : Nat // k ≤ 68}) (fun k => [(.s 7, .av (.one (.v (.int .i64 (k.1 : Int))))), (.s 3, .av (.one (.sl 100 (byV (by8 (topsN g k.1))).length))), (.b 100, .row 5 none (byV (by8 (topsN g k.1)))), (.s 0, .av (.one (.d (Dm.gen (fnG f caps))))), (.s 2, .av (.one (.ptr 0 0))), (.b 0, .blk 23 [(some 16, .v zeroDig)])]) (fun k => 68 - k.1) ⟨0, Nat.zero_le _⟩ (Sub.mk ⟨XV.le_rfl _, XV.le_rfl _, XV.le_row rfl, XV.le_rfl _, XV.le_rfl _, XV.le_rfl _, trivial⟩ rfl rfl) (fun k => ?_)
  obtain ⟨k, hk⟩ := k
  simp only
  refine CV.seq ?_
  refine CV.region rfl (fun h => nomatch h) ?_
  refine RV.step1 (OpOk.plain (ok_lss rfl rfl (by decide) rfl rfl) rfl) ?_
  refine RV.done ?_
  refine CV.seq ?_
  refine CV.cond rfl (fun hc => ?_) (fun hc => ?_)
  · have hlt : k < 68 := (by have := of_decide_eq_true hc; omega)
    refine CV.skip ?_
    refine CV.seq ?_
    refine CV.block ?_
    refine CV.seq ?_
    refine CV.region rfl (fun h => nomatch h) ?_
    refine RV.step1 (OpOk.plain (ok_move (.inl rfl) rfl (by decide) rfl) rfl) ?_
    refine RV.step1 (OpOk.plain (ok_move (.inr rfl) rfl (by decide) rfl) rfl) ?_
    refine RV.done ?_
    refine CV.seq ?_
    refine CV.region rfl (fun h => nomatch h) ?_
    refine RV.step1 (OpOk.plain (ok_move (.inl rfl) rfl (by decide) rfl) rfl) ?_
    refine RV.step1 (OpOk.plain (ok_move (.inl rfl) rfl (by decide) rfl) rfl) ?_
    refine RV.step1 (OpOk.plain (ok_callfn (sas := [.v (.int .i64 (k : Int))]) (hcon k hlt) hf hname hb rfl rfl (by decide) rfl (.cons rfl Conv.any .nil) rfl hfr rfl) rfl) ?_
    refine RV.step2 (OpOk.plain (ok_alloc (i := 1) rfl rfl (by decide) zero_dig rfl rfl rfl rfl) rfl) ?_
    refine RV.step1 (OpOk.plain (ok_store rfl rfl rfl rfl rfl rfl rfl (ty_dig).2 rfl rfl rfl rfl) rfl) ?_
    refine RV.done ?_
    have hlk := topsN_length g hg k
    have hgk := hg k
    refine CV.freezeB (r := 1) (t := 5) (cx.bw hfr) rfl rfl rfl rfl rfl ?_
    refine CV.region rfl (fun h => nomatch h) ?_
    refine RV.step1 (OpOk.plain (ok_move (.inl rfl) rfl (by decide) rfl) rfl) ?_
    refine RV.step1 (OpOk.plain (ok_cutP u_dig sz_u8 rfl rfl (by decide) rfl) rfl) ?_
    refine RV.step3 (OpOk.plain (ok_append (r := 100) (r' := 101) (lst_elems (by decide) (byV_ptrs _)) (by rw [byV_length, byV_length, by8_length, by8_length]; omega) (by rw [byV_length, byV_length, by8_length, by8_length]; omega) u_bytes inf_u8 rfl rfl rfl (byV_plain _) rfl rfl rfl (by decide) rfl rfl rfl rfl rfl rfl rfl rfl) rfl) ?_
    refine RV.step1 (OpOk.plain (ok_move (.inr rfl) rfl (by decide) rfl) rfl) ?_
    refine RV.done ?_
    refine CV.region rfl (fun h => nomatch h) ?_
    refine RV.step1 (OpOk.plain (ok_add (c := ((k + 1 : Nat) : Int)) (by rw [wrapI (by omega) (by omega)]; omega) rfl rfl (by decide) rfl rfl) rfl) ?_
    refine RV.step1 (OpOk.plain (ok_move (.inl rfl) rfl (by decide) rfl) rfl) ?_
    refine RV.done ?_
    exact ⟨⟨k + 1, hlt⟩, Sub.mkr (fun i => if i = 100 then 101 else i) ⟨XV.le_same, XV.le_sl rfl (by rw [← byV_tops, List.length_append]), XV.le_row (byV_tops g k), XV.le_same, fun _ _ _ _ h => h, ⟨rfl, fun _ _ _ _ h => h⟩, trivial⟩ rfl rfl rfl rfl, by show 68 - (k + 1) < 68 - k; omega⟩
  · refine CV.exit ?_
    refine CV.seq ?_
    have hk68 : k = 68 := (by have := of_decide_eq_false hc; omega)
    subst hk68
    refine CV.region rfl (fun h => nomatch h) ?_
    refine RV.step1 (OpOk.plain (ok_move (.inl rfl) rfl (by decide) rfl) rfl) ?_
    refine RV.step1 (OpOk.plain (ok_b2sR (u := by8 (topsN g 68)) (byV_length _) u_bytes u_u8 u_str rfl rfl (by decide) rfl rfl) rfl) ?_
    refine RV.step1 (OpOk.plain (ok_litD (k := none) (xs := [.tmp 18]) (ss := txV [topsN g 68]) (G := Dm.gen (lstG none (txV [topsN g 68]))) (lstG_Lst _ _) u_strs zs_str rfl rfl rfl (str_kinds _) (str_ptrs _) rfl rfl (by decide) (.cons rfl Conv.any .nil)) rfl) ?_
    refine RV.step1 (OpOk.plain (ok_call (Of_dg 3 (by decide) [topsN g 68] (by simp [topsN_bn g hgb]) (by simp) (by simp [hl68])) rfl rfl (by decide) Tryd.func34 rfl rfl (.cons rfl Conv.any (.cons rfl Conv.any .nil)) rfl hfr rfl) rfl) ?_
    refine RV.step2 (OpOk.plain (ok_alloc (i := 1) rfl rfl (by decide) zero_dig rfl rfl rfl rfl) rfl) ?_
    refine RV.step1 (OpOk.plain (ok_store rfl rfl rfl rfl rfl rfl rfl (ty_dig).2 rfl rfl rfl rfl) rfl) ?_
    refine RV.done ?_
    refine CV.seq ?_
    refine CV.region rfl (fun h => nomatch h) ?_
    refine RV.step1 (OpOk.plain (ok_cutA u_dig sz_u8 rfl rfl (by decide) rfl rfl) rfl) ?_
    refine RV.step1 (OpOk.plain (ok_b2sA u_bytes u_u8 u_str rfl rfl (by decide) rfl rfl) rfl) ?_
    refine RV.step1 (OpOk.plain (ok_litD (k := none) (xs := [.tmp 22]) (ss := txV [Sg.ofL 3 [topsN g 68]]) (G := Dm.gen (lstG none (txV [Sg.ofL 3 [topsN g 68]]))) (lstG_Lst _ _) u_strs zs_str rfl rfl rfl (str_kinds _) (str_ptrs _) rfl rfl (by decide) (.cons rfl Conv.any .nil)) rfl) ?_
    refine RV.step1 (OpOk.plain (ok_call (Of_dg 1 (by decide) [Sg.ofL 3 [topsN g 68]] (by simp [Sg.ofL_bn]) (by simp) (by simp [Sg.ofL_length])) rfl rfl (by decide) Tryd.func34 rfl rfl (.cons rfl Conv.any (.cons rfl Conv.any .nil)) rfl hfr rfl) rfl) ?_
    refine RV.step1 (OpOk.plain (ok_store rfl rfl rfl rfl rfl rfl rfl (ty_dig).2 rfl rfl rfl rfl) rfl) ?_
    refine RV.done ?_
    refine CV.ret ?_
    exact fin1 rfl (.inr rfl) ⟨_, _, _, _, _, rfl, rfl, rfl, ty_dig⟩ is_rfl
end
theorem topN_length (seed : List Nat) (k c : Nat) : (Sg.topN seed k c).length = 16 := Sg.advN_length _ _ _ _ _ (startN_length _ _ _)
theorem topN_bn (seed : List Nat) (k c : Nat) : Bn (Sg.topN seed k c) := Sg.advN_bn _ _ _ _ _ (startN_bn _ _ _)
/-- What the closure has captured: the seed and the key. -/
def capsT (seed : List Nat) (key : Nat) : List (SA Dm) := [.d (Dm.gen (pG none (.v (str (by8 seed))))), .d (Dm.gen (pG none (.v (.int .i64 (key : Int)))))]
set_option maxRecDepth 100000 in
theorem top_con (seed : List Nat) (key c : Nat) (hs : Bn seed) (ls : seed.length ≤ 1000) (hk : key ≤ 1000) (hc : c ≤ 1000) : Con Tryd.prog 44 (.v (.int .i64 (c : Int)) :: capsT seed key) (.one (DG (by8 (Sg.topN seed key c)))) := by
  refine Con.of (n := 12) Tryd.func44 rfl rfl rfl rfl rfl fun cx hfr => ?_
  refine CV.seq ?_
  refine CV.region rfl (fun h => nomatch h) ?_
  refine RV.step2 (OpOk.plain (ok_alloc (i := 0) rfl rfl (by decide) zero_dig rfl rfl rfl rfl) rfl) ?_
  refine RV.done ?_
  refine CV.seq ?_
  refine CV.region rfl (fun _ => by kernel_rfl) ?_
  refine RV.step1 (OpOk.plain (ok_loadP ty_str (by decide) rfl rfl (by decide) rfl) rfl) ?_
  refine RV.step1 (OpOk.plain (ok_loadP ty_i64 (by decide) rfl rfl (by decide) rfl) rfl) ?_
  refine RV.step1 (OpOk.plain (ok_move (.inl rfl) rfl (by decide) rfl) rfl) ?_
  refine RV.step1 (OpOk.plain (ok_call (start_con seed key c hs ls hk hc) rfl rfl (by decide) Tryd.func29 rfl rfl (.cons rfl Conv.any (.cons rfl Conv.any (.cons rfl Conv.any .nil))) rfl hfr rfl) rfl) ?_
  refine RV.step1 (OpOk.plain (ok_loadP ty_i64 (by decide) rfl rfl (by decide) rfl) rfl) ?_
  refine RV.step1 (OpOk.plain (ok_move (.inl rfl) rfl (by decide) rfl) rfl) ?_
  refine RV.step1 (OpOk.plain (ok_call (advance_con (Sg.startN seed key c) key c 0 3 (startN_bn _ _ _) (startN_length _ _ _) hk hc (by decide) (by decide)) rfl rfl (by decide) Tryd.func28 rfl rfl (.cons rfl Conv.any (.cons rfl Conv.any (.cons rfl Conv.any (.cons rfl Conv.any (.cons rfl Conv.any .nil))))) rfl hfr rfl) rfl) ?_
  refine RV.step1 (OpOk.plain (ok_store rfl rfl rfl rfl rfl rfl rfl (ty_dig).2 rfl rfl rfl rfl) rfl) ?_
  refine RV.drawn (by kernel_rfl) ?_
  refine CV.ret ?_
  exact fin1 rfl (.inr rfl) ⟨_, _, _, _, _, rfl, rfl, rfl, ty_dig⟩ is_rfl
theorem leaf0_con (seed : List Nat) (key : Nat) (hs : Bn seed) (ls : seed.length ≤ 1000) (hk : key ≤ 1000) : Con Tryd.prog 43 [.d (Dm.gen (fnG 44 (capsT seed key)))] (.one (DG (by8 (Sg.nodeN seed 0 key)))) :=
  leaf_con (Sg.topN seed key) (topN_length seed key) (topN_bn seed key) Tryd.func44 rfl rfl fun c hc => top_con seed key c hs ls hk (by omega)
section
variable {P : Program} {cx : Cx Dm} {n : Nat} {σ : St Dm} {o : Oper} {d t : Nat}
theorem vals_chs {L : Nat → Prop} {ρ : Rho} {w : World} : ∀ {vs : List Value}, (∀ v ∈ vs, v.oneCell' = true) → Chs L ρ w (rch none (vs.map fun v => (SA.v v : SA Dm))) vs
  | [], _ => rfl
  | v :: vs, h => ⟨[v], vs, v, rfl, ⟨rfl, h v List.mem_cons_self⟩, rfl, vals_chs fun x hx => h x (List.mem_cons_of_mem _ hx)⟩
/-- An array is made. -/
theorem ok_allocR {r : Nat} {ty : TypeId} (vs : List Value) (hz : (P.info? ty).map (·.zero) = some (some (.agg vs.toArray))) (h1 : ∀ v ∈ vs, v.oneCell' = true) (hpl : ∀ v ∈ vs, notInt v = true) (hm : vs.length ≤ 1000) (ho : o.op = .alloc ty) (hd : o.dst = some d) (hn : d < n) (hr : σ (.b r) = .no) (hrK : Nat.beq r 1000000 = false) :
    OpOk P cx n σ o [] [(.s d, .av (.one (.ptr r 0))), (.b r, .row ty none (vs.map fun v => .v v))] := by
  intro σ' a w Q ⟨ρ, h⟩ _ h2 K hK
  have hzr : (zeroValue ty).run P w = .ok (.agg vs.toArray) w := by
    cases hq : P.info? ty with
    | none => simp [hq] at hz
    | some inf =>
      simp only [hq, Option.map_some, Option.some.injEq] at hz
      simp [zeroValue, typeInfo, hq, hz]
  have hrun : (execOp a.eval o).run P w = .ok (.value (.pointer (some ⟨w.heap.size, 0, none⟩))) (w.alloc (.cells vs.toArray ty)) := by
    simp only [execOp, ho, Sem.run_bind, Instr.alloc, hzr, newVar, newRow, run_newObj_alloc, Sem.run_pure, Result.andThen_ok, Value.cells]
  unfold Oper.wp
  rw [hrun, Oper.upon_value, hd]
  refine hK _ _ (h.new (c := vs.length) ((Below.refl _ _).alloc (Nat.le_refl _) _) hn ((h2 (.b r) (by simp [keys])).trans hr) (fun e => by subst e; cases hrK) (by simp) (Nat.le_refl _) (fun ρ' hρ => by show _ = _; rw [hρ]) (fun b hb => by simpa [AV.ptrs, SA.ptrs] using hb)
    (fun T ch e => by cases e) ?_ (by intro b hb; cases hb) (fun _ _ _ _ _ q => q))
  intro T1 k1 l1 e
  injection e with e1 e2 e3
  subst e1; subst e2; subst e3
  refine ⟨⟨by simp, by unfold maxLen; omega, ?_⟩, fun _ => ⟨vs, [], by rw [List.append_nil]; exact RowC.mk0 (heap_alloc_new w _), vals_chs h1, by simp, fun _ q hq => hpl q (by simpa using hq)⟩⟩
  rw [List.flatMap_eq_nil_iff]
  intro s hs
  obtain ⟨v, _, rfl⟩ := List.mem_map.1 hs
  rfl
theorem run_indexA {ty e : TypeId} {len m : Nat} (hu : P.underlying ty = some (.array len e)) (hsz : (P.info? e).map (·.size) = some m) (w : World) (b off i : Nat) (hi : i < len) :
    (Instr.indexAt ty (.pointer (some ⟨b, off, none⟩)) (.int .i64 (i : Int))).run P w = .ok (.pointer (some ⟨b, off + i * m, none⟩)) w := by
  simp [Instr.indexAt, Instr.sureAddr, asIntOf, run_underlying hu, size_of hsz, hi, Addr.add_mid]
/-- An element of it. -/
theorem ok_idxA {r i len sz : Nat} {j : Operand} {ty e T : TypeId} {k : Option Nat} {l : List (SA Dm)} (hi : i < len) (hu : P.underlying ty = some (.array len e)) (hsz : (P.info? e).map (·.size) = some sz) (ho : o.op = .indexAddr ty (.tmp t) j) (hd : o.dst = some d) (hn : d < n)
    (ht : σ (.s t) = .av (.one (.ptr r 0))) (hb : σ (.b r) = .row T k l) (hj : opd σ j = .av (.one (.v (.int .i64 (i : Int))))) :
    OpOk P cx n σ o (.s t :: .b r :: opk j) [(.s d, .av (.one (.ptr r (i * sz))))] := by
  intro σ' a w Q ⟨ρ, h⟩ h1 _ K hK
  have ht' := (h1 (.s t) (by simp)).trans ht
  have hb' := (h1 (.b r) (by simp)).trans hb
  have e1 : a.eval (.tmp t) = .pointer (some ⟨(ρ r).1, 0, none⟩) := h.slt t _ ht'
  have e2 : a.eval j = .int .i64 (i : Int) := h.opd ((opd_same fun q hq => h1 q (by simp [hq])).trans hj)
  have hr : (execOp a.eval o).run P w = .ok (.value (.pointer (some ⟨(ρ r).1, i * sz, none⟩))) w := by
    simp only [execOp, ho, e1, e2, Sem.run_bind, run_indexA hu hsz w (ρ r).1 0 i hi, Result.andThen_ok, Sem.run_pure, Nat.zero_add]
  unfold Oper.wp
  rw [hr, Oper.upon_value, hd]
  exact hK _ _ ⟨ρ, h.put (Below.refl _ _) hn rfl fun q hq => by
    obtain rfl : q = r := by simpa [AV.ptrs, SA.ptrs] using hq
    rw [hb']; simp⟩
/-- A digest that is made so, as a whole. -/
theorem ok_loadA {r : Nat} {ty T : TypeId} {u : List UInt8} (hl : u.length = 16) (hty : TyIs P ty (some 16)) (ho : o.op = .load ty (.tmp t)) (hd : o.dst = some d) (hn : d < n) (ht : σ (.s t) = .av (.one (.ptr r 0))) (hb : σ (.b r) = .row T none (byV u)) :
    OpOk P cx n σ o [.s t, .b r] [(.s d, .av (.one (DG u)))] := by
  refine ok_read hd hn rfl fun σ' ρ a w h hk' => ?_
  have ht' := (hk' (.s t) (by simp)).trans ht
  have e1 : a.eval (.tmp t) = .pointer (some ⟨(ρ r).1, 0, none⟩) := h.slt t _ ht'
  obtain ⟨⟨hle, _, _⟩, hc⟩ := h.row r T none _ ((hk' (.b r) (by simp)).trans hb)
  rw [byV_length, hl] at hle
  obtain ⟨cs, sp, h1, h2, _⟩ := hc (by omega)
  obtain rfl := byV_ats' (h2.ats (byV_ptrs u) (Agree.refl _ _))
  have hs : Shaped (some 16) (.agg (byC u).toArray) (byC u) := ⟨rfl, by simp [byC, hl], fun c hc => by
    obtain ⟨x, _, rfl⟩ := List.mem_map.1 hc
    rfl⟩
  have hrun := run_loadVar_at (P := P) (w := w) (b := (ρ r).1) (off := 0) (cs := byC u) (ty := ty) (k := some 16) (v := .agg (byC u).toArray) (fun j c hj => by
    rw [Nat.zero_add, h1.cell, List.getElem?_append_left (List.getElem?_eq_some_iff.1 hj).1]
    exact hj) hs hty
  exact ⟨_, by simp only [execOp, ho, e1, Sem.run_bind, Instr.loadAt, Instr.sureAddr, Sem.run_pure, Result.andThen_ok, hrun], fun w' _ => ⟨hl, rfl⟩⟩
end
/-- The first k bytes of s, then zeros: sixteen. -/
def duN (s : List Nat) (k : Nat) : List Nat := s.take k ++ List.replicate (16 - k) 0
theorem duN_length {s : List Nat} (hs : 16 ≤ s.length) {k : Nat} (hk : k ≤ 16) : (duN s k).length = 16 := by
  rw [duN, List.length_append, List.length_take, List.length_replicate]
  omega
theorem duN_set {s : List Nat} (hs : 16 ≤ s.length) {k : Nat} (hk : k < 16) : (byV (by8 (duN s k))).set k (.v (.int .u8 (((by8 s).getD k 0).toNat : Int))) = byV (by8 (duN s (k + 1))) := by
  apply List.ext_getElem
  · rw [List.length_set, byV_length, byV_length, by8_length, by8_length, duN_length hs (by omega), duN_length hs (by omega)]
  · intro i h1 h2
    rw [byV_length, by8_length, duN_length hs (by omega)] at h2
    rw [List.getElem_set]
    by_cases e : k = i
    · subst e
      rw [if_pos rfl]
      simp only [byV, by8, duN, List.getElem_map]
      rw [List.getElem_append_left (by rw [List.length_take]; omega), List.getElem_take]
      simp [List.getD_eq_getElem?_getD, List.getElem?_eq_getElem (show k < s.length by omega)]
    · rw [if_neg e]
      simp only [byV, by8, duN, List.getElem_map]
      congr 4
      rcases Nat.lt_or_ge i k with h | h
      · rw [List.getElem_append_left (by rw [List.length_take]; omega), List.getElem_append_left (by rw [List.length_take]; omega), List.getElem_take, List.getElem_take]
      · rw [List.getElem_append_right (by rw [List.length_take]; omega), List.getElem_append_right (by rw [List.length_take]; omega), List.getElem_replicate, List.getElem_replicate]
set_option maxRecDepth 100000 in
theorem rdigest_con (s : List Nat) (hs : 16 ≤ s.length) : Con Tryd.prog 40 [(.v (str (by8 s)) : SA Dm)] (.one (DG (by8 (s.take 16)))) := by
  refine Con.of (n := 15) Tryd.func40 rfl rfl rfl rfl rfl fun cx hfr => ?_
  refine CV.seq ?_
  refine CV.region rfl (fun h => nomatch h) ?_
  refine RV.step2 (OpOk.plain (ok_alloc (i := 0) rfl rfl (by decide) zero_dig rfl rfl rfl rfl) rfl) ?_
  refine RV.done ?_
  refine CV.seq ?_
  refine CV.region rfl (fun h => nomatch h) ?_
  refine RV.step2 (OpOk.plain (ok_allocR (r := 100) (List.replicate 16 (.int .u8 0)) zero_dig (by decide) (by decide) (by decide) rfl rfl (by decide) rfl rfl) rfl) ?_
  refine RV.done ?_
  refine CV.seq ?_
  refine CV.seq ?_
  refine CV.region rfl (fun h => nomatch h) ?_
  refine RV.step1 (OpOk.plain (ok_move (.inr rfl) rfl (by decide) rfl) rfl) ?_
  refine RV.done ?_
  refine CV.block ?_
  refine CV.loop (X := {k : Nat // k ≤ 16}) (fun k => [(.s 4, .av (.one (.v (.int .i64 (k.1 : Int))))), (.s 3, .av (.one (.ptr 100 0))), (.b 100, .row 23 none (byV (by8 (duN s k.1)))), (.s 0, .av (.one (.v (str (by8 s))))), (.s 2, .av (.one (.ptr 0 0))), (.b 0, .blk 23 [(some 16, .v zeroDig)])]) (fun k => 16 - k.1) ⟨0, Nat.zero_le _⟩ (Sub.mk ⟨XV.le_rfl _, XV.le_rfl _, XV.le_row rfl, XV.le_rfl _, XV.le_rfl _, XV.le_rfl _, trivial⟩ rfl rfl) (fun k => ?_)
  obtain ⟨k, hk⟩ := k
  simp only
  refine CV.seq ?_
  refine CV.seq ?_
  refine CV.region rfl (fun h => nomatch h) ?_
  refine RV.step1 (OpOk.plain (ok_move (.inl rfl) rfl (by decide) rfl) rfl) ?_
  refine RV.step1 (OpOk.plain (ok_lss rfl rfl (by decide) rfl rfl) rfl) ?_
  refine RV.done ?_
  refine CV.cond rfl (fun hc => ?_) (fun hc => ?_)
  · have hlt : k < 16 := (by have := of_decide_eq_true hc; omega)
    refine CV.skip ?_
    refine CV.seq ?_
    refine CV.block ?_
    refine CV.region rfl (fun h => nomatch h) ?_
    refine RV.step1 (OpOk.plain (ok_move (.inl rfl) rfl (by decide) rfl) rfl) ?_
    refine RV.step1 (OpOk.plain (ok_move (.inl rfl) rfl (by decide) rfl) rfl) ?_
    refine RV.step1 (OpOk.plain (ok_move (.inl rfl) rfl (by decide) rfl) rfl) ?_
    refine RV.step1 (OpOk.plain (ok_idxT (i := k) (by rw [by8_length]; omega) u_str rfl rfl (by decide) rfl rfl) rfl) ?_
    refine RV.step1 (OpOk.plain (ok_idxA (i := k) hlt u_dig sz_u8 rfl rfl (by decide) rfl rfl rfl) rfl) ?_
    refine RV.step1 (OpOk.plain (ok_storeR (i := k) (by rw [byV_length, by8_length, duN_length hs (by omega)]; exact hlt) (by show k * 1 = k * 1; rfl) (by decide) rfl rfl rfl rfl rfl rfl sz_u8 (.inl rfl) rfl rfl) rfl) ?_
    refine RV.done ?_
    refine CV.region rfl (fun h => nomatch h) ?_
    refine RV.step1 (OpOk.plain (ok_move (.inl rfl) rfl (by decide) rfl) rfl) ?_
    refine RV.step1 (OpOk.plain (ok_add (c := ((k + 1 : Nat) : Int)) (by rw [wrapI (by omega) (by omega)]; omega) rfl rfl (by decide) rfl rfl) rfl) ?_
    refine RV.step1 (OpOk.plain (ok_move (.inr rfl) rfl (by decide) rfl) rfl) ?_
    refine RV.done ?_
    exact ⟨⟨k + 1, hlt⟩, Sub.mk ⟨XV.le_rfl _, XV.le_rfl _, XV.le_row (duN_set hs hlt), XV.le_rfl _, XV.le_rfl _, XV.le_rfl _, trivial⟩ rfl rfl, by show 16 - (k + 1) < 16 - k; omega⟩
  · refine CV.exit ?_
    refine CV.seq ?_
    have hk16 : k = 16 := (by have := of_decide_eq_false hc; omega)
    subst hk16
    have e16 : duN s 16 = s.take 16 := (by simp [duN])
    rw [e16]
    refine CV.region rfl (fun h => nomatch h) ?_
    refine RV.step1 (OpOk.plain (ok_loadA (u := by8 (s.take 16)) (by rw [by8_length, List.length_take]; omega) ty_dig rfl rfl (by decide) rfl rfl) rfl) ?_
    refine RV.step1 (OpOk.plain (ok_store rfl rfl rfl rfl rfl rfl rfl (ty_dig).2 rfl rfl rfl rfl) rfl) ?_
    refine RV.done ?_
    refine CV.ret ?_
    exact fin1 rfl (.inr rfl) ⟨_, _, _, _, _, rfl, rfl, rfl, ty_dig⟩ is_rfl
theorem rMac_start (seed X : List Nat) (hs : Bn seed) (hX : Bn X) (ls : seed.length ≤ 1000) (lX : X.length ≤ 1000) : Con Tryd.prog 51 [(.v (str (by8 seed)) : SA Dm), .v (str (by8 Sg.chainTxt ++ by8 X))] (.one (.v (str (by8 (macN seed (Sg.chainTxt ++ X)))))) := by
  rw [← by8_append]
  refine refMac_con seed _ hs (fun x hx => ?_) (by omega) (by rw [List.length_append]; show 5 + _ ≤ _; omega)
  rcases List.mem_append.1 hx with h | h
  · have h0 : ∀ y ∈ Sg.chainTxt, y < 256 := by decide
    exact h0 x h
  · exact hX x h
set_option maxRecDepth 100000 in
theorem rstart_con (seed : List Nat) (key chain : Nat) (hs : Bn seed) (ls : seed.length ≤ 1000) (hk : key ≤ 1000) (hc' : chain ≤ 1000) : Con Tryd.prog 33 [(.v (str (by8 seed)) : SA Dm), .v (.int .i64 (key : Int)), .v (.int .i64 (chain : Int))] (.one (DG (by8 (Sg.startN seed key chain)))) := by
  refine Con.of (n := 15) Tryd.func33 rfl rfl rfl rfl rfl fun cx hfr => ?_
  refine CV.seq ?_
  refine CV.region rfl (fun h => nomatch h) ?_
  refine RV.step2 (OpOk.plain (ok_alloc (i := 0) rfl rfl (by decide) zero_dig rfl rfl rfl rfl) rfl) ?_
  refine RV.done ?_
  refine CV.seq ?_
  refine CV.region rfl (fun h => nomatch h) ?_
  refine RV.step1 (OpOk.plain (ok_move (.inl rfl) rfl (by decide) rfl) rfl) ?_
  refine RV.step1 (OpOk.plain (ok_move (.inl rfl) rfl (by decide) rfl) rfl) ?_
  refine RV.step1 (OpOk.plain (ok_move (.inl rfl) rfl (by decide) rfl) rfl) ?_
  refine RV.step1 (OpOk.plain (ok_litD (k := none) (xs := [.tmp 8, .tmp 9]) (ss := ziV .i64 [(key : Int), (chain : Int)]) (G := Dm.gen (lstG none (ziV .i64 [(key : Int), (chain : Int)]))) (lstG_Lst _ _) u_ints zs_i64 rfl rfl rfl (zi_kinds _) (ziV_ptrs _) rfl rfl (by decide) (.cons rfl Conv.any (.cons rfl Conv.any .nil))) rfl) ?_
  refine RV.step1 (OpOk.plain (ok_call (rints_con [(key : Int), (chain : Int)] (by simp; omega) (by simp)) rfl rfl (by decide) Tryd.func50 rfl rfl (.cons rfl Conv.any .nil) rfl hfr rfl) rfl) ?_
  refine RV.step1 (OpOk.plain (ok_catT (u := by8 Sg.chainTxt) (v := by8 (Sg.intsN [(key : Int), (chain : Int)])) (by have := intsN_le [(key : Int), (chain : Int)]; rw [by8_length, by8_length]; simp at this; show 5 + _ ≤ _; omega) rfl rfl (by decide) rfl rfl) rfl) ?_
  refine RV.step1 (OpOk.plain (ok_call (rMac_start seed _ hs (intsN_bn _) ls (by have := intsN_le [(key : Int), (chain : Int)]; simp at this; omega)) rfl rfl (by decide) Tryd.func51 rfl rfl (.cons rfl Conv.any (.cons rfl Conv.any .nil)) rfl hfr rfl) rfl) ?_
  refine RV.step1 (OpOk.plain (ok_call (rdigest_con (macN seed (Sg.chainTxt ++ Sg.intsN [(key : Int), (chain : Int)])) (by rw [macN_length]; decide)) rfl rfl (by decide) Tryd.func40 rfl rfl (.cons rfl Conv.any .nil) rfl hfr rfl) rfl) ?_
  refine RV.step1 (OpOk.plain (ok_store rfl rfl rfl rfl rfl rfl rfl (ty_dig).2 rfl rfl rfl rfl) rfl) ?_
  refine RV.done ?_
  refine CV.ret ?_
  exact fin1 rfl (.inr rfl) ⟨_, _, _, _, _, rfl, rfl, rfl, ty_dig⟩ is_rfl
theorem str_tops (g : Nat → List Nat) (k : Nat) : by8 (topsN g k) ++ by8 (g k) = by8 (topsN g (k + 1)) := by rw [topsN_succ, by8_append]
set_option maxRecDepth 100000 in
theorem rleaf_con (seed : List Nat) (key : Nat) (hs : Bn seed) (ls : seed.length ≤ 1000) (hk : key ≤ 1000) : Con Tryd.prog 46 [(.v (str (by8 seed)) : SA Dm), .v (.int .i64 (key : Int))] (.one (DG (by8 (Sg.nodeN seed 0 key)))) := by
  have hl68 := topsN_length (Sg.topN seed key) (topN_length seed key) 68
  refine Con.of (n := 29) Tryd.func46 rfl rfl rfl rfl rfl fun cx hfr => ?_
  refine CV.seq ?_
  refine CV.region rfl (fun h => nomatch h) ?_
  refine RV.step2 (OpOk.plain (ok_alloc (i := 0) rfl rfl (by decide) zero_dig rfl rfl rfl rfl) rfl) ?_
  refine RV.done ?_
  refine CV.seq ?_
  refine CV.region rfl (fun h => nomatch h) ?_
  refine RV.step1 (OpOk.plain (ok_move (.inr rfl) rfl (by decide) rfl) rfl) ?_
  refine RV.done ?_
  refine CV.seq ?_
  refine CV.seq ?_
  refine CV.region rfl (fun h => nomatch h) ?_
  refine RV.step1 (OpOk.plain (ok_move (.inr rfl) rfl (by decide) rfl) rfl) ?_
  refine RV.done ?_
  refine CV.block ?_
  refine CV.loop (X := {k : Nat // k ≤ 68}) (fun k => [(.s 6, .av (.one (.v (.int .i64 (k.1 : Int))))), (.s 5, .av (.one (.v (str (by8 (topsN (Sg.topN seed key) k.1)))))), (.s 0, .av (.one (.v (str (by8 seed))))), (.s 1, .av (.one (.v (.int .i64 (key : Int))))), (.s 4, .av (.one (.ptr 0 0))), (.b 0, .blk 23 [(some 16, .v zeroDig)])]) (fun k => 68 - k.1) ⟨0, Nat.zero_le _⟩ (Sub.mk ⟨XV.le_rfl _, XV.le_rfl _, XV.le_rfl _, XV.le_rfl _, XV.le_rfl _, XV.le_rfl _, trivial⟩ rfl rfl) (fun k => ?_)
  obtain ⟨k, hk2⟩ := k
  simp only
  refine CV.seq ?_
  refine CV.seq ?_
  refine CV.region rfl (fun h => nomatch h) ?_
  refine RV.step1 (OpOk.plain (ok_move (.inl rfl) rfl (by decide) rfl) rfl) ?_
  refine RV.step1 (OpOk.plain (ok_lss rfl rfl (by decide) rfl rfl) rfl) ?_
  refine RV.done ?_
  refine CV.cond rfl (fun hc => ?_) (fun hc => ?_)
  · have hlt : k < 68 := (by have := of_decide_eq_true hc; omega)
    refine CV.skip ?_
    refine CV.seq ?_
    refine CV.block ?_
    refine CV.region rfl (fun h => nomatch h) ?_
    refine RV.step1 (OpOk.plain (ok_move (.inl rfl) rfl (by decide) rfl) rfl) ?_
    refine RV.step1 (OpOk.plain (ok_move (.inl rfl) rfl (by decide) rfl) rfl) ?_
    refine RV.step1 (OpOk.plain (ok_move (.inl rfl) rfl (by decide) rfl) rfl) ?_
    refine RV.step1 (OpOk.plain (ok_move (.inl rfl) rfl (by decide) rfl) rfl) ?_
    refine RV.step1 (OpOk.plain (ok_move (.inl rfl) rfl (by decide) rfl) rfl) ?_
    refine RV.step1 (OpOk.plain (ok_move (.inl rfl) rfl (by decide) rfl) rfl) ?_
    refine RV.step1 (OpOk.plain (ok_call (rstart_con seed key k hs ls hk (by omega)) rfl rfl (by decide) Tryd.func33 rfl rfl (.cons rfl Conv.any (.cons rfl Conv.any (.cons rfl Conv.any .nil))) rfl hfr rfl) rfl) ?_
    refine RV.step1 (OpOk.plain (ok_call (radvance_con (Sg.startN seed key k) key k 0 3 (startN_bn _ _ _) (startN_length _ _ _) hk (by omega) (by decide) (by decide)) rfl rfl (by decide) Tryd.func32 rfl rfl (.cons rfl Conv.any (.cons rfl Conv.any (.cons rfl Conv.any (.cons rfl Conv.any (.cons rfl Conv.any .nil))))) rfl hfr rfl) rfl) ?_
    refine RV.step1 (OpOk.plain (ok_call (Text_con (Sg.topN seed key k) (topN_bn _ _ _) (topN_length _ _ _)) rfl rfl (by decide) Tryd.func31 rfl rfl (.cons rfl Conv.any .nil) rfl hfr rfl) rfl) ?_
    refine RV.step1 (OpOk.plain (ok_catT (u := by8 (topsN (Sg.topN seed key) k)) (v := by8 (Sg.topN seed key k)) (by rw [by8_length, by8_length, topsN_length _ (topN_length seed key), topN_length]; omega) rfl rfl (by decide) rfl rfl) rfl) ?_
    refine RV.step1 (OpOk.plain (ok_move (.inr rfl) rfl (by decide) rfl) rfl) ?_
    refine RV.done ?_
    refine CV.region rfl (fun h => nomatch h) ?_
    refine RV.step1 (OpOk.plain (ok_move (.inl rfl) rfl (by decide) rfl) rfl) ?_
    refine RV.step1 (OpOk.plain (ok_add (c := ((k + 1 : Nat) : Int)) (by rw [wrapI (by omega) (by omega)]; omega) rfl rfl (by decide) rfl rfl) rfl) ?_
    refine RV.step1 (OpOk.plain (ok_move (.inr rfl) rfl (by decide) rfl) rfl) ?_
    refine RV.done ?_
    rw [str_tops]
    exact ⟨⟨k + 1, hlt⟩, Sub.mk ⟨XV.le_rfl _, XV.le_rfl _, XV.le_rfl _, XV.le_rfl _, XV.le_rfl _, XV.le_rfl _, trivial⟩ rfl rfl, by show 68 - (k + 1) < 68 - k; omega⟩
  · refine CV.exit ?_
    refine CV.seq ?_
    have hk68 : k = 68 := (by have := of_decide_eq_false hc; omega)
    subst hk68
    refine CV.region rfl (fun h => nomatch h) ?_
    refine RV.step1 (OpOk.plain (ok_move (.inl rfl) rfl (by decide) rfl) rfl) ?_
    refine RV.step1 (OpOk.plain (ok_litD (k := none) (xs := [.tmp 22]) (ss := txV [topsN (Sg.topN seed key) 68]) (G := Dm.gen (lstG none (txV [topsN (Sg.topN seed key) 68]))) (lstG_Lst _ _) u_strs zs_str rfl rfl rfl (str_kinds _) (str_ptrs _) rfl rfl (by decide) (.cons rfl Conv.any .nil)) rfl) ?_
    refine RV.step1 (OpOk.plain (ok_call (refOf_dg 3 (by decide) [topsN (Sg.topN seed key) 68] (by simp [topsN_bn _ (topN_bn seed key)]) (by simp) (by simp [hl68])) rfl rfl (by decide) Tryd.func35 rfl rfl (.cons rfl Conv.any (.cons rfl Conv.any .nil)) rfl hfr rfl) rfl) ?_
    refine RV.step2 (OpOk.plain (ok_alloc (i := 1) rfl rfl (by decide) zero_dig rfl rfl rfl rfl) rfl) ?_
    refine RV.step1 (OpOk.plain (ok_store rfl rfl rfl rfl rfl rfl rfl (ty_dig).2 rfl rfl rfl rfl) rfl) ?_
    refine RV.done ?_
    refine CV.seq ?_
    refine CV.region rfl (fun h => nomatch h) ?_
    refine RV.step1 (OpOk.plain (ok_load rfl rfl (by decide) rfl rfl rfl ty_dig) rfl) ?_
    refine RV.step1 (OpOk.plain (ok_call (Text_con (Sg.ofL 3 [topsN (Sg.topN seed key) 68]) (Sg.ofL_bn _ _) (Sg.ofL_length _ _)) rfl rfl (by decide) Tryd.func31 rfl rfl (.cons rfl Conv.any .nil) rfl hfr rfl) rfl) ?_
    refine RV.step1 (OpOk.plain (ok_litD (k := none) (xs := [.tmp 26]) (ss := txV [Sg.ofL 3 [topsN (Sg.topN seed key) 68]]) (G := Dm.gen (lstG none (txV [Sg.ofL 3 [topsN (Sg.topN seed key) 68]]))) (lstG_Lst _ _) u_strs zs_str rfl rfl rfl (str_kinds _) (str_ptrs _) rfl rfl (by decide) (.cons rfl Conv.any .nil)) rfl) ?_
    refine RV.step1 (OpOk.plain (ok_call (refOf_dg 1 (by decide) [Sg.ofL 3 [topsN (Sg.topN seed key) 68]] (by simp [Sg.ofL_bn]) (by simp) (by simp [Sg.ofL_length])) rfl rfl (by decide) Tryd.func35 rfl rfl (.cons rfl Conv.any (.cons rfl Conv.any .nil)) rfl hfr rfl) rfl) ?_
    refine RV.step1 (OpOk.plain (ok_store rfl rfl rfl rfl rfl rfl rfl (ty_dig).2 rfl rfl rfl rfl) rfl) ?_
    refine RV.done ?_
    refine CV.ret ?_
    exact fin1 rfl (.inr rfl) ⟨_, _, _, _, _, rfl, rfl, rfl, ty_dig⟩ is_rfl
set_option maxRecDepth 100000 in
theorem validHeight_con (h : Int) : Con Tryd.prog 36 [(.v (.int .i64 h) : SA Dm)] (.one (.v (.bool (decide (0 ≤ h ∧ h ≤ 6))))) := by
  refine Con.of (n := 9) Tryd.func36 rfl rfl rfl rfl rfl fun cx hfr => ?_
  refine CV.seq ?_
  refine CV.region rfl (fun h => nomatch h) ?_
  refine RV.step1 (OpOk.plain (ok_move (.inr rfl) rfl (by decide) rfl) rfl) ?_
  refine RV.done ?_
  refine CV.seq ?_
  refine CV.region rfl (fun h => nomatch h) ?_
  refine RV.step1 (OpOk.plain (ok_move (.inl rfl) rfl (by decide) rfl) rfl) ?_
  refine RV.step1 (OpOk.plain (ok_geq rfl rfl (by decide) rfl rfl) rfl) ?_
  refine RV.step1 (OpOk.plain (ok_move (.inl rfl) rfl (by decide) rfl) rfl) ?_
  refine RV.bool (fun h0 => ?_) (fun h0 => ?_)
  · refine RV.step1 (OpOk.yes (ok_move (.inl rfl) rfl (by decide) rfl) rfl rfl rfl) ?_
    refine RV.step1 (OpOk.yes (ok_leq rfl rfl (by decide) rfl rfl) rfl rfl rfl) ?_
    refine RV.step1 (OpOk.plain (ok_pickT rfl rfl (by decide) rfl rfl rfl) rfl) ?_
    refine RV.step1 (OpOk.plain (ok_move (.inr rfl) rfl (by decide) rfl) rfl) ?_
    refine RV.done ?_
    refine CV.ret ?_
    have h1 : 0 ≤ h := (by simpa using h0)
    exact fin1 rfl (.inr rfl) rfl (is_bool (by simp [h1]))
  · refine RV.step1 (OpOk.skip rfl rfl rfl rfl rfl (by decide)) ?_
    refine RV.step1 (OpOk.skip rfl rfl rfl rfl rfl (by decide)) ?_
    refine RV.step1 (OpOk.plain (ok_pickF rfl rfl (by decide) rfl rfl rfl) rfl) ?_
    refine RV.step1 (OpOk.plain (ok_move (.inr rfl) rfl (by decide) rfl) rfl) ?_
    refine RV.done ?_
    refine CV.ret ?_
    have h1 : ¬ 0 ≤ h := (by simpa using h0)
    exact fin1 rfl (.inr rfl) rfl (is_bool (by simp [h1]))
set_option maxRecDepth 100000 in
theorem validSigner_con (u : List Nat) (h : Int) : Con Tryd.prog 21 [(.v (str (by8 u)) : SA Dm), .v (.int .i64 h)] (.one (.v (.bool (decide (u.length = 32 ∧ 0 ≤ h ∧ h ≤ 6))))) := by
  refine Con.of (n := 12) Tryd.func21 rfl rfl rfl rfl rfl fun cx hfr => ?_
  refine CV.seq ?_
  refine CV.region rfl (fun h => nomatch h) ?_
  refine RV.step1 (OpOk.plain (ok_move (.inr rfl) rfl (by decide) rfl) rfl) ?_
  refine RV.done ?_
  refine CV.seq ?_
  refine CV.region rfl (fun h => nomatch h) ?_
  refine RV.step1 (OpOk.plain (ok_move (.inl rfl) rfl (by decide) rfl) rfl) ?_
  refine RV.step1 (OpOk.plain (ok_lenT (by8_length u) u_str rfl rfl (by decide) rfl) rfl) ?_
  refine RV.step1 (OpOk.plain (ok_eql rfl rfl (by decide) rfl rfl) rfl) ?_
  refine RV.step1 (OpOk.plain (ok_move (.inl rfl) rfl (by decide) rfl) rfl) ?_
  refine RV.bool (fun h0 => ?_) (fun h0 => ?_)
  · refine RV.step1 (OpOk.yes (ok_move (.inl rfl) rfl (by decide) rfl) rfl rfl rfl) ?_
    refine RV.step1 (OpOk.yes (ok_call (validHeight_con h) rfl rfl (by decide) Tryd.func36 rfl rfl (.cons rfl Conv.any .nil) rfl hfr rfl) rfl rfl rfl) ?_
    refine RV.step1 (OpOk.plain (ok_pickT rfl rfl (by decide) rfl rfl rfl) rfl) ?_
    refine RV.step1 (OpOk.plain (ok_move (.inr rfl) rfl (by decide) rfl) rfl) ?_
    refine RV.done ?_
    refine CV.ret ?_
    have h1 : u.length = 32 := (by simp at h0; omega)
    exact fin1 rfl (.inr rfl) rfl (is_bool (by simp [h1]))
  · refine RV.step1 (OpOk.skip rfl rfl rfl rfl rfl (by decide)) ?_
    refine RV.step1 (OpOk.skip rfl rfl rfl rfl rfl (by decide)) ?_
    refine RV.step1 (OpOk.plain (ok_pickF rfl rfl (by decide) rfl rfl rfl) rfl) ?_
    refine RV.step1 (OpOk.plain (ok_move (.inr rfl) rfl (by decide) rfl) rfl) ?_
    refine RV.done ?_
    refine CV.ret ?_
    have h1 : ¬ u.length = 32 := (by simp at h0; omega)
    exact fin1 rfl (.inr rfl) rfl (is_bool (by simp [h1]))
end Vc
end Go.Proofs.YthadfilandmhiaaDoor
