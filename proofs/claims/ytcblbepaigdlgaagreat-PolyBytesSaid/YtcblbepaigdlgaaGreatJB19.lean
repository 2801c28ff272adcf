/-
  Encodings of integers and of lists of th
-/
import Derived.Test.YtcblbepaigdlgaaGreatJB18
import Derived.Test.YtcblbepaigdlgaaGreatJB3
import Derived.Lib.AppendStr
import Derived.BigQuiet
import Derived.Deep.QuietTactic
import Derived.Deep.OwnRows
set_option linter.unusedVariables false
set_option linter.unusedSimpArgs false
set_option linter.unusedSectionVars false
namespace Go.Proofs.YtcblbepaigdlgaaGreat
open Go.RowKit
open Go.Lib (hid)
open W
theorem further {w a b : World} (h : Below w.heap.size w a) (k : Below a.heap.size a b) : Below w.heap.size w b := h.trans (k.mono h.size)
set_option maxRecDepth 100000 in
set_option maxHeartbeats 400000 in
theorem Int_any (base : Nat) (n : Int) (w : World) (h1 : n ≤ 9223372036854775807) (h2 : -9223372036854775808 ≤ n) (hb : base ≤ w.heap.size) :
  Calls Tryz.prog 94 #[.int .i64 n] w (Grew w base (.slice none 0 0) (code n)) := by
 go_enter Tryz.func94, Tryz.ntmps94
 go_wp2_with fail
 refine (appendInt_any base _ [] n _ h1 h2 (World.ownsRow_nil _ _ _ _) hb (by simp)).mono ?_
 rintro e w' ⟨v', rfl, h⟩
 have H := hid h
 clear h
 go_wp2
 go_ret
 exact ⟨v', rfl, by simpa using H.out.1, H.out.2⟩
theorem below_keep {w w' : World} (hb : Below w.heap.size w w') {a : Addr} {x : Value} (h : w.cell? a = some x) : w'.cell? a = some x := by
 rw [hb.cell (World.block_lt_of_cell? w _ h)]; exact h
theorem cell_new (w : World) (x : Value) (E : TypeId) (b : Nat) (hb : b = w.heap.size) : ∀ j u, [x][j]? = some u → (w.alloc (.cells #[x] E)).cell? ((⟨b, 0, none⟩ : Addr).add j) = some u := by
 subst hb
 exact cell_one_new _ _ _
structure View (w : World) (v : Value) (size n : Nat) (cells : List Value) : Prop where
 len : cells.length = n * size
 shape : ∃ ao cap, v = .slice ao n cap ∧ n ≤ cap ∧ cap ≤ maxLen ∧ (0 < n → ∃ b off, ao = some ⟨b, off, none⟩ ∧ ∀ i x, cells[i]? = some x → w.cell? ⟨b, off + i, none⟩ = some x)
theorem View.below {w w' : World} {v : Value} {size n : Nat} {cells : List Value} (h : View w v size n cells) (hb : Below w.heap.size w w') : View w' v size n cells := by
 obtain ⟨hl, ao, cap, hsh, h1, h2, hc⟩ := h
 refine ⟨hl, ao, cap, hsh, h1, h2, fun hne => ?_⟩
 obtain ⟨b, off, he, hcell⟩ := hc hne
 exact ⟨b, off, he, fun i x hi => below_keep hb (hcell i x hi)⟩
theorem View.of_owns {w : World} {base : Nat} {E : TypeId} {v : Value} {size n : Nat} {cells : List Value} (h : w.ownsRow base E size v n cells) : View w v size n cells := by
 refine ⟨h.1, ?_⟩
 rcases h.2 with ⟨rfl, rfl⟩ | ⟨g, cap, cur, rfl, hg, hh, hn, hm, hs, ht⟩
 ·exact ⟨none, 0, rfl, Nat.le_refl _, by unfold maxLen; omega, fun h => absurd h (by omega)⟩
 ·refine ⟨_, cap, rfl, hn, hm, fun _ => ⟨g, 0, rfl, fun i x hi => ?_⟩⟩
  have := h.cells (g := g) rfl i x hi
  rwa [Addr.add_lit] at this
def Fresh (w : World) (bs : List Int) (e : Ending) (w' : World) : Prop :=
 ∃ v, e = .returned v ∧ w'.ownsRow w.heap.size 5 1 v bs.length (bs.map (Value.int .u8)) ∧ Below w.heap.size w w'
theorem Grew.fresh {w w' : World} {xs : List Int} {e : Ending} (h : Grew w w.heap.size (.slice none 0 0) xs e w') : Fresh w xs e w' := by
 obtain ⟨v, he, ho, hg⟩ := h
 exact ⟨v, he, ho, (Below.refl _ _).grown hg (Nat.le_refl _) (by simp [Value.ownBlock])⟩
theorem Int_fresh (n : Int) (w : World) (h1 : n ≤ 9223372036854775807) (h2 : -9223372036854775808 ≤ n) :
  Calls Tryz.prog 94 #[.int .i64 n] w (Fresh w (code n)) :=
 (Int_any w.heap.size n w h1 h2 (Nat.le_refl _)).mono fun _ _ h => h.fresh
theorem below_owned {w w1 w2 : World} {E : TypeId} {v : Value} {size n : Nat} {xs : List Value} (h1 : Below w.heap.size w w1) (ho : w1.ownsRow w.heap.size E size v n xs) (hg : w1.grownBy w2 v.ownBlock) : Below w.heap.size w w2 :=
 h1.grown hg h1.size (fun k hk => (ho.lt k hk).1)
set_option maxRecDepth 100000 in
set_option maxHeartbeats 400000 in
theorem Ints_any (v : Value) (zs : List Int) (w : World) (hv : View w v 1 zs.length (zs.map (Value.int .i64))) (hz : ∀ z ∈ zs, -9223372036854775808 ≤ z ∧ z ≤ 9223372036854775807) (hl : zs.length ≤ 1099511627776) :
  Calls Tryz.prog 154 #[v] w (Fresh w (encInts zs)) := by
 have HC := hid (Int_fresh (zs.length : Int) w (by omega) (by omega))
 obtain ⟨_, ao, cap, rfl, hlc, hcm, hcells⟩ := hv
 have HCE := hid hcells
 have HZ := hid hz
 clear hcells hz
 unfold maxLen at hcm
 go_enter Tryz.func154, Tryz.ntmps154
 go_wp2_with fail
 refine HC.out.mono ?_
 rintro e w1 ⟨v1, rfl, hown, hbel⟩
 have HO := hid hown
 have HB := hid hbel
 clear hown hbel
 go_wp2
 go_loopw [3, 11] (fun out i wr => ∃ k : Nat, k ≤ zs.length ∧ i = .int .i64 k ∧ wr.ownsRow w.heap.size 5 1 out (code (zs.length : Int) ++ (zs.take k).flatMap code).length ((code (zs.length : Int) ++ (zs.take k).flatMap code).map (Value.int .u8)) ∧ Below w.heap.size w wr) (fun _ i _ => zs.length - (intOf i).toNat)
 case atStart => exact ⟨0, by omega, rfl, by simpa using HO.out, HB.out⟩
 case round =>
  obtain ⟨k, hk, rfl, hown, hbel⟩ := hrel
  have HO2 := hid hown
  have HB2 := hid hbel
  clear hown hbel
  by_cases hkn : k < zs.length
  ·obtain ⟨b, off, rfl, hc⟩ := HCE.out (by omega)
   obtain ⟨z, hzz⟩ : ∃ z, z = zs[k] := ⟨_, rfl⟩
   have hcz : wr.cell? ⟨b, off + k, none⟩ = some (.int .i64 z) := below_keep HB2.out (hc k _ (by rw [List.getElem?_map, List.getElem?_eq_getElem hkn, hzz]; rfl))
   have hzb := HZ.out z (by rw [hzz]; exact List.getElem_mem hkn)
   have hlen := codes_le (zs.take k)
   have hcl := code_le (zs.length : Int)
   have hlt : (zs.take k).length ≤ k := List.length_take_le _ _
   have HN := hid (appendInt_any w.heap.size _ _ z wr hzb.2 hzb.1 HO2.out HB2.out.size (by rw [List.length_append]; omega))
   have HZZ := hid hzz
   clear hzz hc hlen hcl hlt hzb
   go_wp2_with (go_at_call 133; refine HN.out.mono ?_; rintro e w2 ⟨v2, rfl, hown2, hgrow2⟩)
   have HO3 := hid hown2
   have HB3 := hid (below_owned HB2.out HO2.out hgrow2)
   go_roundw
   case rel =>
    refine ⟨k + 1, by omega, by go_num, ?_, HB3.out⟩
    rw [List.take_succ_eq_append_getElem hkn, List.flatMap_append, ← List.append_assoc, ← HZZ.out]
    simpa using HO3.out
   case measure => simp [intOf]; omega
  ·obtain rfl : k = zs.length := by omega
   go_wp2
   go_ret
   refine ⟨_, rfl, ?_, HB2.out⟩
   have := HO2.out
   rw [List.take_length] at this
   exact this
theorem owned_slice {w : World} {base : Nat} {E : TypeId} {v : Value} {n : Nat} {xs : List Value} (h : w.ownsRow base E 1 v n xs) (hn : 0 < n) : ∃ g cap, v = .slice (some ⟨g, 0, none⟩) n cap ∧ n ≤ cap ∧ cap ≤ maxLen := by
 rcases h.2 with ⟨_, h0⟩ | ⟨g, cap, cur, rfl, _, _, h1, h2, _⟩
 ·omega
 ·exact ⟨g, cap, rfl, h1, h2⟩
theorem owned_kept {w w' : World} {base : Nat} {E : TypeId} {v : Value} {size n : Nat} {xs : List Value} (h : w.ownsRow base E size v n xs) (hb : Below w.heap.size w w') : w'.ownsRow base E size v n xs :=
 h.kept (Below.grownBy hb none) (by cases hv : v.ownBlock <;> simp)
theorem owned_shape {w : World} {base : Nat} {E : TypeId} {v : Value} {size n : Nat} {xs : List Value} (h : w.ownsRow base E size v n xs) : ∃ ao cap, v = .slice ao n cap := by
 rcases h.2 with ⟨rfl, rfl⟩ | ⟨g, cap, cur, rfl, _⟩
 ·exact ⟨_, _, rfl⟩
 ·exact ⟨_, _, rfl⟩
def RelB (M : Nat) (w : World) (j q : Nat) (dv : Value) (wr : World) : Prop :=
 j ≤ 8 ∧ q = M / 256 ^ j ∧ (j = 0 ∨ M / 256 ^ (j - 1) ≠ 0) ∧ wr.ownsRow w.heap.size 5 1 dv j (((be j M).reverse.map Int.ofNat).map (Value.int .u8)) ∧ Below w.heap.size w wr
theorem RelB.lt {M : Nat} {w : World} {j q : Nat} {dv : Value} {wr : World} (h : RelB M w j q dv wr) (hM : M < 9223372036854775808) (hq : q ≠ 0) : j < 8 := by
 obtain ⟨h1, rfl, _⟩ := h
 rcases (show j = 8 ∨ j < 8 from by omega) with rfl | h
 ·exact absurd (Nat.div_eq_of_lt (by omega)) hq
 ·exact h
theorem RelB.le {M : Nat} {w : World} {j q : Nat} {dv : Value} {wr : World} (h : RelB M w j q dv wr) (hM : M < 9223372036854775808) : q ≤ 9223372036854775807 := by
 obtain ⟨h1, rfl, _⟩ := h
 exact Nat.le_trans (Nat.div_le_self _ _) (by omega)
theorem RelB.next {M : Nat} {w : World} {j q : Nat} {dv : Value} {wr w' : World} {o : Obj} {dv' : Value} (h : RelB M w j q dv wr) (hM : M < 9223372036854775808) (hq : q ≠ 0)
  (ho : w'.ownsRow w.heap.size 5 1 dv' (j + 1) (((be j M).reverse.map Int.ofNat).map (Value.int .u8) ++ [.int .u8 ((q : Int) % 256)])) (hg : (wr.alloc o).grownBy w' dv.ownBlock) : RelB M w (j + 1) (q / 256) dv' w' := by
 have hlt := h.lt hM hq
 obtain ⟨h1, rfl, h3, h4, h5⟩ := h
 refine ⟨by omega, by rw [Nat.pow_succ, Nat.div_div_eq_div_mul], .inr (by simpa using hq), ?_, below_owned (h5.alloc h5.size _) (h4.alloc _) hg⟩
 simp only [be, List.reverse_cons, List.map_append]
 simpa using ho
theorem RelB.done {M : Nat} {w : World} {j : Nat} {dv : Value} {wr : World} (h : RelB M w j 0 dv wr) : j = wid M := by
 obtain ⟨h1, h0, h3, _⟩ := h
 refine wid_unique M j (by omega) ((Nat.div_eq_zero_iff_lt (Nat.pow_pos (by decide))).1 h0.symm) ?_
 rcases h3 with h | h
 ·exact .inl h
 ·refine .inr ?_
  rcases Nat.lt_or_ge M (256 ^ (j - 1)) with hlt | hge
  ·exact absurd (Nat.div_eq_of_lt hlt) h
  ·exact hge
theorem fl_true_first (k : Nat) : fl true (128 + (k : Int)) = 127 - k := by
 show 255 - (128 + (k : Int)) = _
 omega
def RelC (M : Nat) (neg : Bool) (k p : Nat) (wo : World) (out : Value) (wr : World) : Prop :=
 wr.ownsRow wo.heap.size 5 1 out (1 + (k - p)) ((fl neg (128 + (k : Int)) :: ((be k M).take (k - p)).map fun d => fl neg (Int.ofNat d)).map (Value.int .u8)) ∧ Below wo.heap.size wo wr
theorem digit_at {w : World} {ao : Option Addr} {M k cap p : Nat} (h : View w (.slice ao k cap) 1 k (((be k M).reverse.map Int.ofNat).map (Value.int .u8))) (hp : p < k) :
  ∃ z b off, ao = some ⟨b, off, none⟩ ∧ (0 : Int) ≤ z ∧ z ≤ 255 ∧ w.cell? ⟨b, off + p, none⟩ = some (.int .u8 z) ∧ (be k M)[k - (p + 1)]? = some z.toNat := by
 obtain ⟨_, ao', cap', hsh, _, _, hc⟩ := h
 simp only [Value.slice.injEq, true_and] at hsh
 obtain ⟨rfl, rfl⟩ := hsh
 obtain ⟨b, off, rfl, hcell⟩ := hc (by omega)
 have hlen := be_length k M
 have hg : (be k M).reverse[p]? = (be k M)[k - (p + 1)]? := by
  rw [List.getElem?_reverse (by omega), hlen]
  congr 1
  omega
 obtain ⟨d, hd⟩ : ∃ d, (be k M)[k - (p + 1)]? = some d := ⟨_, List.getElem?_eq_getElem (by omega)⟩
 have hlt := be_lt k M d (List.mem_of_getElem? hd)
 refine ⟨(d : Int), b, off, rfl, by omega, by omega, hcell p _ ?_, by rw [hd]; simp⟩
 rw [List.getElem?_map, List.getElem?_map, hg, hd]
 rfl
theorem RelC.next {M : Nat} {neg : Bool} {k p : Nat} {wo wr w' : World} {out out' : Value} {o : Obj} {z : Int} (h : RelC M neg k (p + 1) wo out wr) (hp : p < k) (hz : (be k M)[k - (p + 1)]? = some z.toNat)
  (ho : w'.ownsRow wo.heap.size 5 1 out' (1 + (k - (p + 1)) + 1) ((fl neg (128 + (k : Int)) :: ((be k M).take (k - (p + 1))).map fun d => fl neg (Int.ofNat d)).map (Value.int .u8) ++ [.int .u8 (fl neg z)])) (h0 : 0 ≤ z) (hg : (wr.alloc o).grownBy w' out.ownBlock) : RelC M neg k p wo out' w' := by
 refine ⟨?_, below_owned (h.2.alloc h.2.size _) (h.1.alloc _) hg⟩
 have e : k - p = k - (p + 1) + 1 := by omega
 have hlt : k - (p + 1) < (be k M).length := by rw [be_length]; omega
 have hz' : (be k M)[k - (p + 1)] = z.toNat := by rw [List.getElem?_eq_getElem hlt] at hz; simpa using hz
 rw [e, List.take_succ_eq_append_getElem hlt, hz']
 have hzz : max z 0 = z := by omega
 simpa [hzz, Nat.add_assoc] using ho
theorem RelC.done {n : Int} {neg : Bool} {k : Nat} {w wo wr : World} {out : Value} (h : RelC (mag n) neg k 0 wo out wr) (hneg : neg = decide (n < 0)) (hk : k = wid (mag n)) (hs : w.heap.size ≤ wo.heap.size) :
  wr.ownsRow w.heap.size 5 1 out (code n).length ((code n).map (Value.int .u8)) := by
 have e : (fl neg (128 + (k : Int)) :: ((be k (mag n)).take (k - 0)).map fun d => fl neg (Int.ofNat d)) = code n := by
  rw [Nat.sub_zero, List.take_of_length_le (by rw [be_length]; omega), code, ← hneg, ← hk]
  simp
 have hl : (code n).length = 1 + (k - 0) := by rw [code_length, ← hk]; omega
 have h1 : wr.ownsRow wo.heap.size 5 1 out (code n).length ((code n).map (Value.int .u8)) := by
  have h0 := h.1
  rw [e] at h0
  rw [hl]
  exact h0
 refine ⟨h1.1, ?_⟩
 rcases h1.2 with h2 | ⟨g, cap, cur, hv, hg, r⟩
 ·exact .inl h2
 ·exact .inr ⟨g, cap, cur, hv, Nat.le_trans hs hg, r⟩
set_option maxRecDepth 100000 in
set_option maxHeartbeats 800000 in
theorem refInt_pos (n : Int) (w : World) (h0 : 0 ≤ n) (h1 : n ≤ 9223372036854775807) :
  Calls Tryz.prog 96 #[.int .i64 n] w (Fresh w (code n)) := by
 obtain ⟨i0, hi, hz0', hz1', hz2⟩ := info_parts Tryz.info5
 have HM := hid (mag_lt n (by omega) h1)
 have hmg : Hid (n = mag n) := by show n = (mag n : Int); unfold mag; rw [if_neg (by omega)]; omega
 have HR0 : Hid (RelB (mag n) w 0 (mag n) (.slice none 0 0) w) := ⟨by omega, by simp, .inl rfl, World.ownsRow_nil _ _ _ _, Below.refl _ _⟩
 go_enter Tryz.func96, Tryz.ntmps96
 go_wp2
 go_loopw [3, 4] (fun m dv wr => ∃ j q : Nat, m = .int .i64 q ∧ RelB (mag n) w j q dv wr) (fun m _ _ => (intOf m).toNat)
 case atStart => exact ⟨0, mag n, by rw [← hmg.out], HR0.out⟩
 case round =>
  obtain ⟨j, q, rfl, hrel⟩ := hrel
  have hq9 := hrel.le HM.out
  by_cases hq0 : q = 0
  ·subst hq0
   have hjw := hrel.done
   have hw8 := wid_le (mag n)
   have HO := hid hrel.2.2.2.1
   have HB := hid hrel.2.2.2.2
   obtain ⟨ao, cap, hdv⟩ := owned_shape HO.out
   subst hdv
   subst hjw
   clear hrel hq9
   obtain ⟨k, hk⟩ : ∃ k, k = wid (mag n) := ⟨_, rfl⟩
   rw [← hk] at HO hw8 ⊢
   have HK := hid hk
   clear hk
   have HV := hid (View.of_owns HO.out)
   go_wp2_with (at_builtin; go_must (refine wpList_append_own _ rfl (.tmp 28) (.tmp 32) 55 rfl wr.heap.size 5 i0 (.int .u8 0) 1 1 Tryz.under28 hi hz0' hz1' hz2 rfl (by decide) _ 0 [] rfl (World.ownsRow_nil _ _ _ _) ⟨wr.heap.size, 0, none⟩ 1 1 [.int .u8 (128 + (k : Int))] rfl rfl ?d1 ?d2 ?d3 ?d4 ?d5 ?_))
   case d1 => exact cell_new _ _ _ _ (by simp)
   case d2 => intro z hz; simp at hz; subst hz; rfl
   case d3 => unfold maxLen; omega
   case d4 => omega
   case d5 => simp
   intro v1 w1 ho1 hg1 _
   have HO1 := hid ho1
   have HB1 := hid (show Below wr.heap.size wr w1 from ((Below.refl _ _).alloc (Nat.le_refl _) _).grown hg1 (by simp) (by simp [Value.ownBlock]))
   clear ho1 hg1
   obtain ⟨wo, rfl⟩ : ∃ wo : World, wo = wr := ⟨_, rfl⟩
   go_wp2_with fail
   go_loopw [6, 7] (fun out i wr => ∃ p : Nat, p ≤ k ∧ i = .int .i64 ((p : Int) - 1) ∧ RelC (mag n) false k p wo out wr) (fun _ i _ => (intOf i + 1).toNat)
   case atStart => exact ⟨k, Nat.le_refl _, rfl, by rw [Nat.sub_self]; exact HO1.out, HB1.out⟩
   case round =>
    obtain ⟨p, hp, rfl, hrelc⟩ := hrel
    have HC := hid hrelc
    clear hrelc
    by_cases hp0 : p = 0
    ·subst hp0
     go_wp2
     go_ret
     refine ⟨_, rfl, ?_, further HB.out HC.out.2⟩
     exact RelC.done HC.out (by simp; omega) HK.out HB.out.size
    ·obtain ⟨p', rfl⟩ : ∃ p', p = p' + 1 := ⟨p - 1, by omega⟩
     obtain ⟨z, b, off, hao, hz0, hz1, hcz, hzv⟩ := digit_at HV.out (show p' < k by omega)
     subst hao
     have hc8 := below_keep HC.out.2 hcz
     have HZ := hid hzv
     have e1 : ((p' + 1 : Nat) : Int) - 1 = (p' : Int) := by omega
     rw [e1]
     have hpI : (0 : Int) ≤ (p' : Int) := by omega
     clear hzv hcz e1
     go_wp2_with (at_builtin; go_must (refine wpList_append_own _ rfl (.tmp 54) (.tmp 56) 55 rfl wo.heap.size 5 i0 (.int .u8 0) 1 1 Tryz.under28 hi hz0' hz1' hz2 rfl (by decide) _ _ _ rfl (HC.out.1.alloc _) ⟨wr.heap.size, 0, none⟩ 1 1 [.int .u8 z] rfl rfl ?f1 ?f2 ?f3 ?f4 ?f5 ?_))
     case f1 => exact cell_new _ _ _ _ (by simp)
     case f2 => intro z hz; simp at hz; subst hz; rfl
     case f3 => unfold maxLen; omega
     case f4 => omega
     case f5 => have := HC.out.2.size; simp; omega
     intro v' w6 hown' hgrow _
     have HS := hid (RelC.next HC.out (by omega) HZ.out (by simpa [fl, Nat.add_comm] using hown') hz0 hgrow)
     clear hown' hgrow
     go_wp2
     go_roundw
     case rel => exact ⟨p', by omega, by go_num, HS.out⟩
     case measure => first | (simp [intOf]; done) | (simp [intOf]; omega)
  ·have hj8 := hrel.lt HM.out hq0
   have HR := hid hrel
   have HO := hid hrel.2.2.2.1
   have HB := hid hrel.2.2.2.2
   clear hrel
   go_wp2_with (at_builtin; go_must (refine wpList_append_own _ rfl (.tmp 16) (.tmp 20) 55 rfl w.heap.size 5 i0 (.int .u8 0) 1 1 Tryz.under28 hi hz0' hz1' hz2 rfl (by decide) _ j _ rfl (HO.out.alloc _) ⟨wr.heap.size, 0, none⟩ 1 1 [.int .u8 ((q : Int) % 256)] rfl rfl ?c1 ?c2 ?c3 ?c4 ?c5 ?_))
   case c1 => exact cell_new _ _ _ _ (by simp)
   case c2 => intro z hz; simp at hz; subst hz; rfl
   case c3 => unfold maxLen; omega
   case c4 => omega
   case c5 => have := HB.out.size; simp; omega
   intro v' w6 hown' hgrow _
   have HS := hid (HR.out.next HM.out hq0 (by simpa using hown') hgrow)
   clear hown' hgrow
   go_wp2
   go_roundw
   case rel => exact ⟨j + 1, q / 256, by go_num, HS.out⟩
   case measure => simp [intOf]; omega
set_option maxRecDepth 100000 in
set_option maxHeartbeats 800000 in
theorem refInt_neg (n : Int) (w : World) (h0 : n < 0) (h1 : -9223372036854775808 ≤ n) :
  Calls Tryz.prog 96 #[.int .i64 n] w (Fresh w (code n)) := by
 obtain ⟨i0, hi, hz0', hz1', hz2⟩ := info_parts Tryz.info5
 have HM := hid (mag_lt n h1 (by omega))
 have hmg : Hid (-1 - n = mag n) := by show -1 - n = (mag n : Int); unfold mag; rw [if_pos h0]; omega
 have HR0 : Hid (RelB (mag n) w 0 (mag n) (.slice none 0 0) w) := ⟨by omega, by simp, .inl rfl, World.ownsRow_nil _ _ _ _, Below.refl _ _⟩
 go_enter Tryz.func96, Tryz.ntmps96
 go_wp2
 go_loopw [3, 4] (fun m dv wr => ∃ j q : Nat, m = .int .i64 q ∧ RelB (mag n) w j q dv wr) (fun m _ _ => (intOf m).toNat)
 case atStart => exact ⟨0, mag n, by rw [← hmg.out], HR0.out⟩
 case round =>
  obtain ⟨j, q, rfl, hrel⟩ := hrel
  have hq9 := hrel.le HM.out
  by_cases hq0 : q = 0
  ·subst hq0
   have hjw := hrel.done
   have hw8 := wid_le (mag n)
   have HO := hid hrel.2.2.2.1
   have HB := hid hrel.2.2.2.2
   obtain ⟨ao, cap, hdv⟩ := owned_shape HO.out
   subst hdv
   subst hjw
   clear hrel hq9
   obtain ⟨k, hk⟩ : ∃ k, k = wid (mag n) := ⟨_, rfl⟩
   rw [← hk] at HO hw8 ⊢
   have HK := hid hk
   clear hk
   have HV := hid (View.of_owns HO.out)
   go_wp2_with (at_builtin; go_must (refine wpList_append_own _ rfl (.tmp 34) (.tmp 38) 55 rfl wr.heap.size 5 i0 (.int .u8 0) 1 1 Tryz.under28 hi hz0' hz1' hz2 rfl (by decide) _ 0 [] rfl (World.ownsRow_nil _ _ _ _) ⟨wr.heap.size, 0, none⟩ 1 1 [.int .u8 (127 - (k : Int))] rfl rfl ?d1 ?d2 ?d3 ?d4 ?d5 ?_))
   case d1 => exact cell_new _ _ _ _ (by simp)
   case d2 => intro z hz; simp at hz; subst hz; rfl
   case d3 => unfold maxLen; omega
   case d4 => omega
   case d5 => simp
   intro v1 w1 ho1 hg1 _
   have HO1 := hid ho1
   have HB1 := hid (show Below wr.heap.size wr w1 from ((Below.refl _ _).alloc (Nat.le_refl _) _).grown hg1 (by simp) (by simp [Value.ownBlock]))
   clear ho1 hg1
   obtain ⟨wo, rfl⟩ : ∃ wo : World, wo = wr := ⟨_, rfl⟩
   go_wp2_with fail
   go_loopw [6, 7] (fun out i wr => ∃ p : Nat, p ≤ k ∧ i = .int .i64 ((p : Int) - 1) ∧ RelC (mag n) true k p wo out wr) (fun _ i _ => (intOf i + 1).toNat)
   case atStart => exact ⟨k, Nat.le_refl _, rfl, by rw [Nat.sub_self, List.take_zero, fl_true_first]; exact HO1.out, HB1.out⟩
   case round =>
    obtain ⟨p, hp, rfl, hrelc⟩ := hrel
    have HC := hid hrelc
    clear hrelc
    by_cases hp0 : p = 0
    ·subst hp0
     go_wp2
     go_ret
     refine ⟨_, rfl, ?_, further HB.out HC.out.2⟩
     exact RelC.done HC.out (by simp [h0]) HK.out HB.out.size
    ·obtain ⟨p', rfl⟩ : ∃ p', p = p' + 1 := ⟨p - 1, by omega⟩
     obtain ⟨z, b, off, hao, hz0, hz1, hcz, hzv⟩ := digit_at HV.out (show p' < k by omega)
     subst hao
     have hc8 := below_keep HC.out.2 hcz
     have HZ := hid hzv
     have e1 : ((p' + 1 : Nat) : Int) - 1 = (p' : Int) := by omega
     rw [e1]
     have hpI : (0 : Int) ≤ (p' : Int) := by omega
     clear hzv hcz e1
     go_wp2_with (at_builtin; go_must (refine wpList_append_own _ rfl (.tmp 54) (.tmp 56) 55 rfl wo.heap.size 5 i0 (.int .u8 0) 1 1 Tryz.under28 hi hz0' hz1' hz2 rfl (by decide) _ _ _ rfl (HC.out.1.alloc _) ⟨wr.heap.size, 0, none⟩ 1 1 [.int .u8 (255 - z)] rfl rfl ?f1 ?f2 ?f3 ?f4 ?f5 ?_))
     case f1 => exact cell_new _ _ _ _ (by simp)
     case f2 => intro z hz; simp at hz; subst hz; rfl
     case f3 => unfold maxLen; omega
     case f4 => omega
     case f5 => have := HC.out.2.size; simp; omega
     intro v' w6 hown' hgrow _
     have HS := hid (RelC.next HC.out (by omega) HZ.out (by simpa [fl, Nat.add_comm] using hown') hz0 hgrow)
     clear hown' hgrow
     go_wp2
     go_roundw
     case rel => exact ⟨p', by omega, by go_num, HS.out⟩
     case measure => first | (simp [intOf]; done) | (simp [intOf]; omega)
  ·have hj8 := hrel.lt HM.out hq0
   have HR := hid hrel
   have HO := hid hrel.2.2.2.1
   have HB := hid hrel.2.2.2.2
   clear hrel
   go_wp2_with (at_builtin; go_must (refine wpList_append_own _ rfl (.tmp 16) (.tmp 20) 55 rfl w.heap.size 5 i0 (.int .u8 0) 1 1 Tryz.under28 hi hz0' hz1' hz2 rfl (by decide) _ j _ rfl (HO.out.alloc _) ⟨wr.heap.size, 0, none⟩ 1 1 [.int .u8 ((q : Int) % 256)] rfl rfl ?c1 ?c2 ?c3 ?c4 ?c5 ?_))
   case c1 => exact cell_new _ _ _ _ (by simp)
   case c2 => intro z hz; simp at hz; subst hz; rfl
   case c3 => unfold maxLen; omega
   case c4 => omega
   case c5 => have := HB.out.size; simp; omega
   intro v' w6 hown' hgrow _
   have HS := hid (HR.out.next HM.out hq0 (by simpa using hown') hgrow)
   clear hown' hgrow
   go_wp2
   go_roundw
   case rel => exact ⟨j + 1, q / 256, by go_num, HS.out⟩
   case measure => simp [intOf]; omega
theorem refInt_any (n : Int) (w : World) (h1 : n ≤ 9223372036854775807) (h2 : -9223372036854775808 ≤ n) :
  Calls Tryz.prog 96 #[.int .i64 n] w (Fresh w (code n)) := by
 by_cases h : n < 0
 ·exact refInt_neg n w h h2
 ·exact refInt_pos n w (by omega) h1
theorem owned_news {w : World} {base : Nat} {E : TypeId} {g n cap : Nat} {xs : List Value} (h : w.ownsRow base E 1 (.slice (some ⟨g, 0, none⟩) n cap) n xs) : ∀ j u, xs[j]? = some u → w.cell? ((⟨g, 0, none⟩ : Addr).add j) = some u := by
 intro j u hj
 have hlt : j < xs.length := (List.getElem?_eq_some_iff.1 hj).1
 rcases h.2 with ⟨h0, _⟩ | ⟨g', cap', cur, hv, _, hg, _, _, _, ht⟩
 ·cases h0
 ·simp only [Value.slice.injEq, Option.some.injEq, Addr.mk.injEq] at hv
  obtain ⟨⟨rfl, _, _⟩, _, rfl⟩ := hv
  rw [Addr.add_lit, Nat.zero_add, cell_of_row _ _ _ _ _ _ hg]
  have hl := h.1
  rw [← ht, List.getElem?_take] at hj
  split at hj
  ·simpa using hj
  ·cases hj
set_option maxRecDepth 100000 in
set_option maxHeartbeats 800000 in
theorem refInts_any (v : Value) (zs : List Int) (w : World) (hv : View w v 1 zs.length (zs.map (Value.int .i64))) (hz : ∀ z ∈ zs, -9223372036854775808 ≤ z ∧ z ≤ 9223372036854775807) (hl : zs.length ≤ 1099511627776) :
  Calls Tryz.prog 155 #[v] w (Fresh w (encInts zs)) := by
 obtain ⟨i0, hi, hz0, hz1, hz2⟩ := info_parts Tryz.info5
 have HC := hid (refInt_any (zs.length : Int) w (by omega) (by omega))
 obtain ⟨_, ao, cap, rfl, hlc, hcm, hcells⟩ := hv
 have HCE := hid hcells
 have HZ := hid hz
 clear hcells hz
 unfold maxLen at hcm
 go_enter Tryz.func155, Tryz.ntmps155
 go_wp2_with fail
 refine HC.out.mono ?_
 rintro e w1 ⟨v1, rfl, hown, hbel⟩
 have HO := hid hown
 have HB := hid hbel
 clear hown hbel
 go_wp2
 go_loopw [3, 4] (fun out i wr => ∃ k : Nat, k ≤ zs.length ∧ i = .int .i64 k ∧ wr.ownsRow w.heap.size 5 1 out (code (zs.length : Int) ++ (zs.take k).flatMap code).length ((code (zs.length : Int) ++ (zs.take k).flatMap code).map (Value.int .u8)) ∧ Below w.heap.size w wr) (fun _ i _ => zs.length - (intOf i).toNat)
 case atStart => exact ⟨0, by omega, rfl, by simpa using HO.out, HB.out⟩
 case round =>
  obtain ⟨k, hk, rfl, hown, hbel⟩ := hrel
  have HO2 := hid hown
  have HB2 := hid hbel
  clear hown hbel
  by_cases hkn : k < zs.length
  ·obtain ⟨b, off, rfl, hc⟩ := HCE.out (by omega)
   obtain ⟨z, hzz⟩ : ∃ z, z = zs[k] := ⟨_, rfl⟩
   have hcz : wr.cell? ⟨b, off + k, none⟩ = some (.int .i64 z) := below_keep HB2.out (hc k _ (by rw [List.getElem?_map, List.getElem?_eq_getElem hkn, hzz]; rfl))
   have hzb := HZ.out z (by rw [hzz]; exact List.getElem_mem hkn)
   have hlen := codes_le (zs.take k)
   have hcl := code_le (zs.length : Int)
   have hcz2 := code_le z
   have hcp := code_pos z
   have hlt : (zs.take k).length ≤ k := List.length_take_le _ _
   have hbig : (code (zs.length : Int) ++ (zs.take k).flatMap code).length + (code z).length ≤ 20000000000000 := by rw [List.length_append]; omega
   have HN := hid (refInt_any z wr hzb.2 hzb.1)
   have HZZ := hid hzz
   obtain ⟨X, hX⟩ : ∃ X, X = code (zs.length : Int) ++ (zs.take k).flatMap code := ⟨_, rfl⟩
   rw [← hX] at HO2 hbig
   have HX := hid hX
   clear hzz hc hlen hcl hlt hzb hcz2 hX
   go_wp2_with fail
   refine HN.out.mono ?_
   rintro e w2 ⟨v2, rfl, hown2, hbel2⟩
   obtain ⟨g2, c2, rfl, hc21, hc22⟩ := owned_slice hown2 (by omega)
   have HO3 := hid (owned_kept HO2.out hbel2)
   have HB3 := hid (further HB2.out hbel2)
   have HN2 := hid (owned_news hown2)
   clear hown2 hbel2
   go_wp2_with (at_builtin; go_must (refine wpList_append_own _ rfl (.tmp 14) (.tmp 19) 55 rfl w.heap.size 5 i0 (.int .u8 0) 1 1 Tryz.under28 hi hz0 hz1 hz2 rfl (by decide) _ X.length (X.map (Value.int .u8)) rfl HO3.out ⟨g2, 0, none⟩ (code z).length c2 ((code z).map (Value.int .u8)) rfl ?c1 HN2.out ?c2 ?c3 ?c4 ?c5 ?_))
   case c1 => rw [List.length_map]; omega
   case c2 => exact bytes_oneCell _
   case c3 => unfold maxLen; omega
   case c4 => omega
   case c5 => exact HB3.out.size
   intro v3 w3 hown3 hgrow3 _
   have HO4 := hid hown3
   have HB4 := hid (below_owned HB3.out HO3.out hgrow3)
   clear hown3 hgrow3
   go_wp2
   go_roundw
   case rel =>
    refine ⟨k + 1, by omega, by go_num, ?_, HB4.out⟩
    rw [List.take_succ_eq_append_getElem hkn, List.flatMap_append, ← List.append_assoc, ← HX.out, ← HZZ.out]
    simpa using HO4.out
   case measure => simp [intOf]; omega
  ·obtain rfl : k = zs.length := by omega
   go_wp2
   go_ret
   refine ⟨_, rfl, ?_, HB2.out⟩
   have := HO2.out
   rw [List.take_length] at this
   exact this
def Yes (w : World) (e : Ending) (w' : World) : Prop := e = .returned (.bool true) ∧ ∃ n, w' = w.drewN n
set_option maxRecDepth 100000 in
set_option maxHeartbeats 400000 in
theorem Same_yes (va vb : Value) (n : Nat) (zs : List Int) (w : World) (hn : zs.length = n) (ha : View w va 1 n (zs.map (Value.int .u8))) (hb : View w vb 1 n (zs.map (Value.int .u8))) :
  Calls Tryz.prog 47 #[va, vb] w (Yes w) := by
 obtain ⟨_, ao, cap, rfl, hlc, hcm, hca⟩ := ha
 obtain ⟨_, bo, cap', rfl, hlc', hcm', hcb⟩ := hb
 unfold maxLen at hcm hcm'
 have HA := hid hca
 have HB := hid hcb
 have HN := hid hn
 clear hca hcb hn
 go_enter Tryz.func47, Tryz.ntmps47
 go_wp2
 go_loopw [5] (fun i wr => ∃ k m : Nat, k ≤ n ∧ i = .int .i64 k ∧ wr = w.drewN m) (fun i _ => n - (intOf i).toNat)
 case atStart => exact ⟨0, 0, by omega, rfl, rfl⟩
 case round =>
  obtain ⟨k, m, hk, rfl, rfl⟩ := hrel
  by_cases hkn : k < n
  ·obtain ⟨b, off, rfl, hc⟩ := HA.out (by omega)
   obtain ⟨b', off', rfl, hc'⟩ := HB.out (by omega)
   obtain ⟨z, hz⟩ : ∃ z, zs[k]? = some z := ⟨_, List.getElem?_eq_getElem (by rw [HN.out]; exact hkn)⟩
   have h1 := hc k (.int .u8 z) (by rw [List.getElem?_map, hz]; rfl)
   have h2 := hc' k (.int .u8 z) (by rw [List.getElem?_map, hz]; rfl)
   have hkI : (k : Int) < n := by omega
   have hkJ : (0 : Int) ≤ k := by omega
   clear hc hc' hz
   go_wp2
   go_quiet (fail)
   go_wp2
   go_roundw
   case rel => exact ⟨k + 1, _, by omega, by go_num, rfl⟩
   case measure => simp [intOf]; omega
  ·obtain rfl : k = n := by omega
   go_wp2
   go_ret
   exact ⟨rfl, _, rfl⟩
structure ByteView (w : World) (v : Value) (bs : List Int) : Prop where
 bytes : Bs bs
 shape : ∃ ao cap, v = .slice ao bs.length cap ∧ bs.length ≤ cap ∧ cap ≤ maxLen ∧
  (bs ≠ [] → ∃ b off, ao = some ⟨b, off, none⟩ ∧ ∀ i, i < bs.length → w.cell? ⟨b, off + i, none⟩ = some (.int .u8 (bs.getD i 0)))
theorem dec_cons {neg : Bool} {x : Int} {t : List Int} {k : Nat} (hneg : decide (x < 128) = neg) (hk : fl neg x = 128 + k) :
  dec (x :: t) = if 8 < k then (0, 0, 2) else if t.length < k then (0, 0, 3) else
   if (0 < k ∧ ((t.take k).map fun x => (fl neg x).toNat).headD 1 = 0) ∨ 9223372036854775807 < val ((t.take k).map fun x => (fl neg x).toNat) then (0, 0, 2)
   else (if neg then -1 - (val ((t.take k).map fun x => (fl neg x).toNat) : Int) else val ((t.take k).map fun x => (fl neg x).toNat), k + 1, 0) := by
 simp only [dec, hneg, hk]
 have e : (128 + (k : Int) - 128).toNat = k := by omega
 rw [e]
def Fold (neg : Bool) (t : List Int) (k j q : Nat) : Prop := q = val (((t.take k).map fun x => (fl neg x).toNat).take j)
theorem fl_byte {neg : Bool} {x : Int} (h : 0 ≤ x ∧ x ≤ 255) : 0 ≤ fl neg x ∧ fl neg x ≤ 255 := by
 unfold fl; split <;> omega
theorem Bs.getD {l : List Int} (h : Bs l) (i : Nat) : 0 ≤ l.getD i 0 ∧ l.getD i 0 ≤ 255 := by
 by_cases hi : i < l.length
 ·rw [List.getD_eq_getElem?_getD, List.getElem?_eq_getElem hi]; exact h _ (List.getElem_mem hi)
 ·rw [List.getD_eq_getElem?_getD, List.getElem?_eq_none (by omega)]; simp
theorem flips_lt {neg : Bool} {t : List Int} (ht : Bs t) (k j : Nat) : ∀ d ∈ ((t.take k).map fun x => (fl neg x).toNat).take j, d < 256 := by
 intro d hd
 obtain ⟨x, hx, rfl⟩ := List.mem_map.1 (List.mem_of_mem_take hd)
 have := fl_byte (neg := neg) (ht x (List.mem_of_mem_take hx))
 omega
theorem Fold.pow {neg : Bool} {t : List Int} {k j q : Nat} (h : Fold neg t k j q) (ht : Bs t) : q < 256 ^ j := by
 have h1 := val_lt _ (flips_lt (neg := neg) ht k j)
 rw [← h] at h1
 exact Nat.lt_of_lt_of_le h1 (Nat.pow_le_pow_right (by decide) (List.length_take_le _ _))
theorem Fold.lt {neg : Bool} {t : List Int} {k j q : Nat} (h : Fold neg t k j q) (ht : Bs t) (hk : ¬ 8 < k) (hj : j ≤ k) : q ≤ 18446744073709551615 := by
 have h1 := h.pow ht
 have h2 : 256 ^ j ≤ 256 ^ 8 := Nat.pow_le_pow_right (by decide) (by omega)
 omega
theorem Fold.lt7 {neg : Bool} {t : List Int} {k j q : Nat} (h : Fold neg t k j q) (ht : Bs t) (hk : ¬ 8 < k) (_hj : j ≤ k) (hjk : j < k) : q ≤ 72057594037927935 := by
 have h1 := h.pow ht
 have h2 : 256 ^ j ≤ 256 ^ 7 := Nat.pow_le_pow_right (by decide) (by omega)
 omega
theorem Fold.step {neg : Bool} {t : List Int} {k j q : Nat} {y : Int} (h : Fold neg t k j q) (hjk : j < k) (hkt : k ≤ t.length) (hy : y = t.getD j 0) : Fold neg t k (j + 1) (q * 256 + (fl neg y).toNat) := by
 unfold Fold at h ⊢
 rw [List.take_succ_eq_append_getElem (by simp; omega), val_snoc, ← h]
 simp [hy, List.getD_eq_getElem?_getD, List.getElem?_eq_getElem (show j < t.length by omega)]
theorem Fold.full {neg : Bool} {t : List Int} {k q : Nat} (h : Fold neg t k k q) : q = val ((t.take k).map fun x => (fl neg x).toNat) := by
 unfold Fold at h
 rwa [List.take_of_length_le (by simp; omega)] at h
theorem flips_head {neg : Bool} {t : List Int} {j : Nat} {y : Int} (hj : 0 < j) (hjt : j ≤ t.length) (hy : y = t.getD 0 0) : ((t.take j).map fun x => (fl neg x).toNat).headD 1 = (fl neg y).toNat := by
 obtain ⟨j, rfl⟩ : ∃ i, j = i + 1 := ⟨j - 1, by omega⟩
 cases t with
 | nil => simp at hjt
 | cons x t => simp at hy; simp [hy]
theorem or_u64 (q : Nat) (z : Int) (hq : q ≤ 72057594037927935) (h0 : 0 ≤ z) (h1 : z ≤ 255) : bits .or .u64 ((q : Int) * 256) z = ((q * 256 + z.toNat : Nat) : Int) := by
 have e := u64_or_nat (q * 256) z.toNat (by omega) (by omega)
 rw [show ((q * 256 : Nat) : Int) = (q : Int) * 256 by omega, show ((z.toNat : Nat) : Int) = z by omega] at e
 rw [e]
 have h := Nat.two_pow_add_eq_or_of_lt (i := 8) (b := z.toNat) (by omega) q
 rw [show q * 256 = 2 ^ 8 * q by omega, ← h]
def Trip (a b c : Int) (w : World) (e : Ending) (w' : World) : Prop := e = .returned (.tuple #[.int .i64 a, .int .i64 b, .int .i64 c]) ∧ w = w'
theorem Trip.mk {a b c a' b' c' : Int} {w : World} (h1 : a = a') (h2 : b = b') (h3 : c = c') : Trip a' b' c' w (.returned (.tuple #[.int .i64 a, .int .i64 b, .int .i64 c])) w := by
 subst h1 h2 h3; exact ⟨rfl, rfl⟩
set_option maxHeartbeats 400000 in
theorem GetInt_neg0 (b off len cap : Nat) (t : List Int) (w : World) (hl : len = t.length + 1) (hlc : len ≤ cap) (_hcm : cap ≤ maxLen)
  (hc0 : w.cell? ⟨b, off, none⟩ = some (.int .u8 127)) :
  Calls Tryz.prog 98 #[.slice (some ⟨b, off, none⟩) len cap] w (Trip (-1) 1 0 w) := by
 subst hl
 unfold maxLen at _hcm
 have hx : bits .xor .u8 127 255 = 128 := by rw [xor_ff _ (by omega) (by omega)]; omega
 have hp : IntKind.u64.wrap 0 = 0 := by decide
 go_enter Tryz.func98, Tryz.ntmps98
 go_wp2_with (go_at_call 136; refine (flip_any _ _).mono ?_; rintro e w' ⟨rfl, rfl⟩)
 all_goals
  go_loop [8, 40] (fun m i => i = .int .i64 0 ∧ m = .int .u64 0) (fun _ i => 0 - (intOf i).toNat)
  case atStart => exact ⟨rfl, rfl⟩
  case round =>
   obtain ⟨rfl, rfl⟩ := hrel
   go_wp2
   go_ret3
   exact ⟨rfl, rfl⟩
set_option maxHeartbeats 400000 in
theorem GetInt_neg (b off len cap k : Nat) (t : List Int) (w : World) (hk : k ≤ 127) (hk0 : 0 < k) (hl : len = t.length + 1) (hlc : len ≤ cap) (_hcm : cap ≤ maxLen) (ht : Bs t)
  (hc0 : w.cell? ⟨b, off, none⟩ = some (.int .u8 (127 - (k : Int)))) (hct : ∀ i, i < t.length → w.cell? ⟨b, off + (i + 1), none⟩ = some (.int .u8 (t.getD i 0))) :
  Calls Tryz.prog 98 #[.slice (some ⟨b, off, none⟩) len cap] w (Trip (dec ((127 - (k : Int)) :: t)).1 (dec ((127 - (k : Int)) :: t)).2.1 (dec ((127 - (k : Int)) :: t)).2.2 w) := by
 subst hl
 unfold maxLen at _hcm
 have HD := hid (dec_cons (t := t) (neg := true) (x := 127 - (k : Int)) (k := k) (by simp; omega) (by simp [fl]; omega))
 have hx : bits .xor .u8 (127 - (k : Int)) 255 = 128 + (k : Int) := by rw [xor_ff _ (by omega) (by omega)]; omega
 have h128 : 128 + (k : Int) - 128 = k := by omega
 have HCT := hid hct
 clear hct
 by_cases hk8 : 8 < k
 ·go_enter Tryz.func98, Tryz.ntmps98
  go_wp2_with (go_at_call 136; refine (flip_any _ _).mono ?_; rintro e w' ⟨rfl, rfl⟩)
  go_ret3
  rw [HD.out, if_pos hk8]
  exact ⟨rfl, rfl⟩
 ·by_cases hlt : t.length < k
  ·go_enter Tryz.func98, Tryz.ntmps98
   go_wp2_with (go_at_call 136; refine (flip_any _ _).mono ?_; rintro e w' ⟨rfl, rfl⟩)
   go_ret3
   rw [HD.out, if_neg hk8, if_pos hlt]
   exact ⟨rfl, rfl⟩
  ·go_enter Tryz.func98, Tryz.ntmps98
   go_wp2_with (go_at_call 136; refine (flip_any _ _).mono ?_; rintro e w' ⟨rfl, rfl⟩)
   go_loop [8, 40] (fun m i => ∃ j q : Nat, j ≤ k ∧ i = .int .i64 j ∧ m = .int .u64 q ∧ Fold true t k j q) (fun _ i => k - (intOf i).toNat)
   case atStart => exact ⟨0, 0, by omega, rfl, rfl, rfl⟩
   case round =>
    obtain ⟨j, q, hj, rfl, rfl, hq⟩ := hrel
    have hqb := hq.lt ht hk8 (by omega)
    by_cases hjk : j < k
    ·have hqc := hq.lt7 ht hk8 (by omega) hjk
     obtain ⟨y, hy⟩ : ∃ y, y = t.getD j 0 := ⟨_, rfl⟩
     have hcy : w.cell? ⟨b, off + 1 + j, none⟩ = some (.int .u8 y) := by rw [hy, ← HCT.out j (by omega)]; congr 2; omega
     have hyb : 0 ≤ y ∧ y ≤ 255 := by rw [hy]; exact Bs.getD ht j
     have hxy := xor_ff y hyb.1 hyb.2
     have HQ := hid (hq.step hjk (by omega) hy)
     obtain ⟨hy0, hy1⟩ := hyb
     clear hy hq
     go_wp2
     go_round
     case rel => exact ⟨j + 1, _, by omega, by go_num, by rw [or_u64 q (255 - y) (by omega) (by omega) (by omega)], by simpa [fl] using HQ.out⟩
     case measure => simp [intOf]; omega
    ·obtain rfl : j = k := by omega
     obtain ⟨y, hy⟩ : ∃ y, y = t.getD 0 0 := ⟨_, rfl⟩
     have hcy : w.cell? ⟨b, off + 1, none⟩ = some (.int .u8 y) := by rw [hy, ← HCT.out 0 (by omega)]
     have HH := hid (flips_head (neg := true) (j := j) hk0 (by omega) hy)
     have HV := hid (hq.full)
     have hyb : 0 ≤ y ∧ y ≤ 255 := by rw [hy]; exact Bs.getD ht 0
     obtain ⟨hy0, hy1⟩ := hyb
     clear hy hq
     by_cases hy255 : y = 255
     ·have hye : ((y : Int) == 255) = true := by simp [hy255]
      have HY := hid hy255
      clear hy255
      go_wp2
      go_ret3
      rw [HD.out, if_neg hk8, if_neg hlt, if_pos (.inl ⟨hk0, by rw [HH.out, HY.out]; rfl⟩)]
      exact ⟨rfl, rfl⟩
     ·have hye : ((y : Int) == 255) = false := by simp [hy255]
      have HY := hid hy255
      clear hy255
      by_cases hqm : 9223372036854775807 < q
      ·have HQM := hid hqm
       go_wp2
       go_ret3
       rw [HD.out, if_neg hk8, if_neg hlt, if_pos (.inr (by rw [← HV.out]; exact HQM.out))]
       exact ⟨rfl, rfl⟩
      ·have hqm' : q ≤ 9223372036854775807 := by omega
       have HQM := hid hqm
       clear hqm
       go_wp2
       go_ret3
       rw [HD.out, if_neg hk8, if_neg hlt, if_neg, ← HV.out]
       ·exact Trip.mk (by simp) (by simp; omega) rfl
       ·rintro (⟨_, h⟩ | h)
        ·rw [HH.out] at h
         exact HY.out (by simp [fl] at h; omega)
        ·rw [← HV.out] at h; exact HQM.out h
set_option maxHeartbeats 400000 in
theorem GetInt_pos0 (b off len cap : Nat) (t : List Int) (w : World) (hl : len = t.length + 1) (hlc : len ≤ cap) (_hcm : cap ≤ maxLen)
  (hc0 : w.cell? ⟨b, off, none⟩ = some (.int .u8 128)) :
  Calls Tryz.prog 98 #[.slice (some ⟨b, off, none⟩) len cap] w (Trip 0 1 0 w) := by
 subst hl
 unfold maxLen at _hcm
 have hx : bits .xor .u8 128 0 = 128 := by rw [xor_00 _ (by omega) (by omega)]
 have hp : IntKind.u64.wrap 0 = 0 := by decide
 go_enter Tryz.func98, Tryz.ntmps98
 go_wp2_with (go_at_call 136; refine (flip_any _ _).mono ?_; rintro e w' ⟨rfl, rfl⟩)
 all_goals
  go_loop [8, 40] (fun m i => i = .int .i64 0 ∧ m = .int .u64 0) (fun _ i => 0 - (intOf i).toNat)
  case atStart => exact ⟨rfl, rfl⟩
  case round =>
   obtain ⟨rfl, rfl⟩ := hrel
   go_wp2
   go_ret3
   exact ⟨rfl, rfl⟩
set_option maxHeartbeats 400000 in
theorem GetInt_pos (b off len cap k : Nat) (t : List Int) (w : World) (hk : k ≤ 127) (hk0 : 0 < k) (hl : len = t.length + 1) (hlc : len ≤ cap) (_hcm : cap ≤ maxLen) (ht : Bs t)
  (hc0 : w.cell? ⟨b, off, none⟩ = some (.int .u8 (128 + (k : Int)))) (hct : ∀ i, i < t.length → w.cell? ⟨b, off + (i + 1), none⟩ = some (.int .u8 (t.getD i 0))) :
  Calls Tryz.prog 98 #[.slice (some ⟨b, off, none⟩) len cap] w (Trip (dec ((128 + (k : Int)) :: t)).1 (dec ((128 + (k : Int)) :: t)).2.1 (dec ((128 + (k : Int)) :: t)).2.2 w) := by
 subst hl
 unfold maxLen at _hcm
 have HD := hid (dec_cons (t := t) (neg := false) (x := 128 + (k : Int)) (k := k) (by simp; omega) (by simp [fl]))
 obtain ⟨X, hX⟩ : ∃ X : Int, X = 128 + (k : Int) := ⟨_, rfl⟩
 have hx0 : 128 ≤ X := by omega
 have hx1 : X ≤ 255 := by omega
 have hx : bits .xor .u8 X 0 = X := by rw [xor_00 _ (by omega) (by omega)]
 have h128 : X - 128 = k := by omega
 rw [← hX] at HD hc0 ⊢
 clear hX
 have HCT := hid hct
 clear hct
 by_cases hk8 : 8 < k
 ·go_enter Tryz.func98, Tryz.ntmps98
  go_wp2_with (go_at_call 136; refine (flip_any _ _).mono ?_; rintro e w' ⟨rfl, rfl⟩)
  go_ret3
  rw [HD.out, if_pos hk8]
  exact ⟨rfl, rfl⟩
 ·by_cases hlt : t.length < k
  ·go_enter Tryz.func98, Tryz.ntmps98
   go_wp2_with (go_at_call 136; refine (flip_any _ _).mono ?_; rintro e w' ⟨rfl, rfl⟩)
   go_ret3
   rw [HD.out, if_neg hk8, if_pos hlt]
   exact ⟨rfl, rfl⟩
  ·go_enter Tryz.func98, Tryz.ntmps98
   go_wp2_with (go_at_call 136; refine (flip_any _ _).mono ?_; rintro e w' ⟨rfl, rfl⟩)
   go_loop [8, 40] (fun m i => ∃ j q : Nat, j ≤ k ∧ i = .int .i64 j ∧ m = .int .u64 q ∧ Fold false t k j q) (fun _ i => k - (intOf i).toNat)
   case atStart => exact ⟨0, 0, by omega, rfl, rfl, rfl⟩
   case round =>
    obtain ⟨j, q, hj, rfl, rfl, hq⟩ := hrel
    have hqb := hq.lt ht hk8 (by omega)
    by_cases hjk : j < k
    ·have hqc := hq.lt7 ht hk8 (by omega) hjk
     obtain ⟨y, hy⟩ : ∃ y, y = t.getD j 0 := ⟨_, rfl⟩
     have hcy : w.cell? ⟨b, off + 1 + j, none⟩ = some (.int .u8 y) := by rw [hy, ← HCT.out j (by omega)]; congr 2; omega
     have hyb : 0 ≤ y ∧ y ≤ 255 := by rw [hy]; exact Bs.getD ht j
     have hxy := xor_00 y hyb.1 hyb.2
     have HQ := hid (hq.step hjk (by omega) hy)
     obtain ⟨hy0, hy1⟩ := hyb
     clear hy hq
     go_wp2
     go_round
     case rel => exact ⟨j + 1, _, by omega, by go_num, by rw [or_u64 q y (by omega) (by omega) (by omega)], by simpa [fl] using HQ.out⟩
     case measure => simp [intOf]; omega
    ·obtain rfl : j = k := by omega
     obtain ⟨y, hy⟩ : ∃ y, y = t.getD 0 0 := ⟨_, rfl⟩
     have hcy : w.cell? ⟨b, off + 1, none⟩ = some (.int .u8 y) := by rw [hy, ← HCT.out 0 (by omega)]
     have HH := hid (flips_head (neg := false) (j := j) hk0 (by omega) hy)
     have HV := hid (hq.full)
     have hyb : 0 ≤ y ∧ y ≤ 255 := by rw [hy]; exact Bs.getD ht 0
     obtain ⟨hy0, hy1⟩ := hyb
     clear hy hq
     by_cases hy255 : y = 0
     ·have hye : ((y : Int) == 0) = true := by simp [hy255]
      have HY := hid hy255
      clear hy255
      go_wp2
      go_ret3
      rw [HD.out, if_neg hk8, if_neg hlt, if_pos (.inl ⟨hk0, by rw [HH.out, HY.out]; rfl⟩)]
      exact ⟨rfl, rfl⟩
     ·have hye : ((y : Int) == 0) = false := by simp [hy255]
      have HY := hid hy255
      clear hy255
      by_cases hqm : 9223372036854775807 < q
      ·have HQM := hid hqm
       go_wp2
       go_ret3
       rw [HD.out, if_neg hk8, if_neg hlt, if_pos (.inr (by rw [← HV.out]; exact HQM.out))]
       exact ⟨rfl, rfl⟩
      ·have hqm' : q ≤ 9223372036854775807 := by omega
       have HQM := hid hqm
       clear hqm
       go_wp2
       go_ret3
       rw [HD.out, if_neg hk8, if_neg hlt, if_neg, ← HV.out]
       ·exact Trip.mk (by simp) (by simp; omega) rfl
       ·rintro (⟨_, h⟩ | h)
        ·rw [HH.out] at h
         exact HY.out (by simp [fl] at h; omega)
        ·rw [← HV.out] at h; exact HQM.out h
set_option maxHeartbeats 400000 in
theorem GetInt_nil (ao : Option Addr) (cap : Nat) (w : World) :
  Calls Tryz.prog 98 #[.slice ao 0 cap] w (Trip 0 0 3 w) := by
 go_enter Tryz.func98, Tryz.ntmps98
 go_wp2
 go_ret3
 exact ⟨rfl, rfl⟩
theorem GetInt_any (v : Value) (bs : List Int) (w : World) (hv : ByteView w v bs) :
  Calls Tryz.prog 98 #[v] w (Trip (dec bs).1 (dec bs).2.1 (dec bs).2.2 w) := by
 obtain ⟨hB, ao, cap, rfl, hlc, hcm, hcells⟩ := hv
 cases bs with
 | nil => exact GetInt_nil ao cap w
 | cons x t =>
  obtain ⟨b, off, rfl, hc⟩ := hcells (by simp)
  obtain ⟨hx, ht⟩ := hB.cons
  have hc0 := hc 0 (by simp)
  have hct : ∀ i, i < t.length → w.cell? ⟨b, off + (i + 1), none⟩ = some (.int .u8 (t.getD i 0)) := by
   intro i hi
   have := hc (i + 1) (by simpa using hi)
   simpa using this
  simp only [Nat.add_zero, List.getD_cons_zero] at hc0
  clear hc hcells hB
  by_cases h : x < 128
  ·obtain ⟨k, rfl⟩ : ∃ k : Nat, x = 127 - (k : Int) := ⟨(127 - x).toNat, by omega⟩
   cases k with
   | zero =>
    have e : dec ((127 - ((0 : Nat) : Int)) :: t) = (-1, 1, 0) := by
     rw [dec_cons (k := 0) (neg := true) (by simp) (by simp [fl])]; simp [val]
    rw [e]
    exact GetInt_neg0 b off _ cap t w rfl hlc hcm (by simpa using hc0)
   | succ k => exact GetInt_neg b off _ cap (k + 1) t w (by omega) (by omega) rfl hlc hcm ht hc0 hct
  ·obtain ⟨k, rfl⟩ : ∃ k : Nat, x = 128 + (k : Int) := ⟨(x - 128).toNat, by omega⟩
   cases k with
   | zero =>
    have e : dec ((128 + ((0 : Nat) : Int)) :: t) = (0, 1, 0) := by
     rw [dec_cons (k := 0) (neg := false) (by simp) (by simp [fl])]; simp [val]
    rw [e]
    exact GetInt_pos0 b off _ cap t w rfl hlc hcm (by simpa using hc0)
   | succ k => exact GetInt_pos b off _ cap (k + 1) t w (by omega) (by omega) rfl hlc hcm ht hc0 hct
end Go.Proofs.YtcblbepaigdlgaaGreat
