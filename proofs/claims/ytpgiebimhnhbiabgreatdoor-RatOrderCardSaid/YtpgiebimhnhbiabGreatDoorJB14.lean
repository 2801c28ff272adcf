/-
  Encodings of integers and of lists of them, and those of the reference.
-/
import Derived.Test.YtpgiebimhnhbiabGreatDoorJB13
import Derived.Test.YtpgiebimhnhbiabGreatDoorJB4
import Derived.Lib.AppendStr
import Derived.BigQuiet
import Derived.Deep.QuietTactic
import Derived.Deep.OwnRows
set_option linter.unusedVariables false
set_option linter.unusedSimpArgs false
set_option linter.unusedSectionVars false
namespace Go.Proofs.YtpgiebimhnhbiabGreatDoor
open Go.RowKit
open Go.Lib (hid)
open W
theorem further {w a b : World} (h : Below w.heap.size w a) (k : Below a.heap.size a b) : Below w.heap.size w b := h.trans (k.mono h.size)

set_option maxRecDepth 100000 in
set_option maxHeartbeats 400000 in
theorem Int_any (base : Nat) (n : Int) (w : World) (h1 : n ≤ 9223372036854775807) (h2 : -9223372036854775808 ≤ n) (hb : base ≤ w.heap.size) :
  Calls Tryz.prog 109 #[.int .i64 n] w (Grew w base (.slice none 0 0) (code n)) := by
 go_enter Tryz.func109, Tryz.ntmps109
 go_wp2_with fail
 refine (appendInt_any base _ [] n _ h1 h2 (World.ownsRow_nil _ _ _ _) hb (by simp)).mono ?_
 rintro e w' ⟨v', rfl, h⟩
 have H := hid h
 clear h
 go_wp2
 go_ret
 exact ⟨v', rfl, by simpa using H.out.1, H.out.2⟩

theorem below_keep {w w' : World} (hb : Below w.heap.size w w') {a : Addr} {x : Value} (h : w.cell? a = some x) : w'.cell? a = some x := by
 rw [hb.cell (World.block_lt_of_cell? w _ h)]; exact h

theorem cell_new (w : World) (x : Value) (E : TypeId) (b : Nat) (hb : b = w.heap.size) : ∀ j u, [x][j]? = some u → (w.alloc (.cells #[x] E)).cell? ((⟨b, 0, none⟩ : Addr).add j) = some u := by
 subst hb
 exact cell_one_new _ _ _

structure View (w : World) (v : Value) (size n : Nat) (cells : List Value) : Prop where
 len : cells.length = n * size
 shape : ∃ ao cap, v = .slice ao n cap ∧ n ≤ cap ∧ cap ≤ maxLen ∧ (0 < n → ∃ b off, ao = some ⟨b, off, none⟩ ∧ ∀ i x, cells[i]? = some x → w.cell? ⟨b, off + i, none⟩ = some x)

theorem View.of_owns {w : World} {base : Nat} {E : TypeId} {v : Value} {size n : Nat} {cells : List Value} (h : w.ownsRow base E size v n cells) : View w v size n cells := by
 refine ⟨h.1, ?_⟩
 rcases h.2 with ⟨rfl, rfl⟩ | ⟨g, cap, cur, rfl, hg, hh, hn, hm, hs, ht⟩
 ·exact ⟨none, 0, rfl, Nat.le_refl _, by unfold maxLen; omega, fun h => absurd h (by omega)⟩
 ·refine ⟨_, cap, rfl, hn, hm, fun _ => ⟨g, 0, rfl, fun i x hi => ?_⟩⟩
  have := h.cells (g := g) rfl i x hi
  rwa [Addr.add_lit] at this

def Fresh (w : World) (bs : List Int) (e : Ending) (w' : World) : Prop :=
 ∃ v, e = .returned v ∧ w'.ownsRow w.heap.size 5 1 v bs.length (bs.map (Value.int .u8)) ∧ Below w.heap.size w w'

theorem Grew.fresh {w w' : World} {xs : List Int} {e : Ending} (h : Grew w w.heap.size (.slice none 0 0) xs e w') : Fresh w xs e w' := by
 obtain ⟨v, he, ho, hg⟩ := h
 exact ⟨v, he, ho, (Below.refl _ _).grown hg (Nat.le_refl _) (by simp [Value.ownBlock])⟩

theorem Int_fresh (n : Int) (w : World) (h1 : n ≤ 9223372036854775807) (h2 : -9223372036854775808 ≤ n) :
  Calls Tryz.prog 109 #[.int .i64 n] w (Fresh w (code n)) :=
 (Int_any w.heap.size n w h1 h2 (Nat.le_refl _)).mono fun _ _ h => h.fresh

theorem below_owned {w w1 w2 : World} {E : TypeId} {v : Value} {size n : Nat} {xs : List Value} (h1 : Below w.heap.size w w1) (ho : w1.ownsRow w.heap.size E size v n xs) (hg : w1.grownBy w2 v.ownBlock) : Below w.heap.size w w2 :=
 h1.grown hg h1.size (fun k hk => (ho.lt k hk).1)

set_option maxRecDepth 100000 in
set_option maxHeartbeats 400000 in
theorem Ints_any (v : Value) (zs : List Int) (w : World) (hv : View w v 1 zs.length (zs.map (Value.int .i64))) (hz : ∀ z ∈ zs, -9223372036854775808 ≤ z ∧ z ≤ 9223372036854775807) (hl : zs.length ≤ 1099511627776) :
  Calls Tryz.prog 96 #[v] w (Fresh w (encInts zs)) := by
 have HC := hid (Int_fresh (zs.length : Int) w (by omega) (by omega))
 obtain ⟨_, ao, cap, rfl, hlc, hcm, hcells⟩ := hv
 have HCE := hid hcells
 have HZ := hid hz
 clear hcells hz
 unfold maxLen at hcm
 go_enter Tryz.func96, Tryz.ntmps96
 go_wp2_with fail
 refine HC.out.mono ?_
 rintro e w1 ⟨v1, rfl, hown, hbel⟩
 have HO := hid hown
 have HB := hid hbel
 clear hown hbel
 go_wp2
 go_loopw [3, 11] (fun out i wr => ∃ k : Nat, k ≤ zs.length ∧ i = .int .i64 k ∧ wr.ownsRow w.heap.size 5 1 out (code (zs.length : Int) ++ (zs.take k).flatMap code).length ((code (zs.length : Int) ++ (zs.take k).flatMap code).map (Value.int .u8)) ∧ Below w.heap.size w wr) (fun _ i _ => zs.length - (intOf i).toNat)
 case atStart => exact ⟨0, by omega, rfl, by simpa using HO.out, HB.out⟩
 case round =>
  obtain ⟨k, hk, rfl, hown, hbel⟩ := hrel
  have HO2 := hid hown
  have HB2 := hid hbel
  clear hown hbel
  by_cases hkn : k < zs.length
  ·obtain ⟨b, off, rfl, hc⟩ := HCE.out (by omega)
   obtain ⟨z, hzz⟩ : ∃ z, z = zs[k] := ⟨_, rfl⟩
   have hcz : wr.cell? ⟨b, off + k, none⟩ = some (.int .i64 z) := below_keep HB2.out (hc k _ (by rw [List.getElem?_map, List.getElem?_eq_getElem hkn, hzz]; rfl))
   have hzb := HZ.out z (by rw [hzz]; exact List.getElem_mem hkn)
   have hlen := codes_le (zs.take k)
   have hcl := code_le (zs.length : Int)
   have hlt : (zs.take k).length ≤ k := List.length_take_le _ _
   have HN := hid (appendInt_any w.heap.size _ _ z wr hzb.2 hzb.1 HO2.out HB2.out.size (by rw [List.length_append]; omega))
   have HZZ := hid hzz
   clear hzz hc hlen hcl hlt hzb
   go_wp2_with (go_at_call 110; refine HN.out.mono ?_; rintro e w2 ⟨v2, rfl, hown2, hgrow2⟩)
   have HO3 := hid hown2
   have HB3 := hid (below_owned HB2.out HO2.out hgrow2)
   go_roundw
   case rel =>
    refine ⟨k + 1, by omega, by go_num, ?_, HB3.out⟩
    rw [List.take_succ_eq_append_getElem hkn, List.flatMap_append, ← List.append_assoc, ← HZZ.out]
    simpa using HO3.out
   case measure => simp [intOf]; omega
  ·obtain rfl : k = zs.length := by omega
   go_wp2
   go_ret
   refine ⟨_, rfl, ?_, HB2.out⟩
   have := HO2.out
   rw [List.take_length] at this
   exact this

theorem owned_slice {w : World} {base : Nat} {E : TypeId} {v : Value} {n : Nat} {xs : List Value} (h : w.ownsRow base E 1 v n xs) (hn : 0 < n) : ∃ g cap, v = .slice (some ⟨g, 0, none⟩) n cap ∧ n ≤ cap ∧ cap ≤ maxLen := by
 rcases h.2 with ⟨_, h0⟩ | ⟨g, cap, cur, rfl, _, _, h1, h2, _⟩
 ·omega
 ·exact ⟨g, cap, rfl, h1, h2⟩

theorem owned_kept {w w' : World} {base : Nat} {E : TypeId} {v : Value} {size n : Nat} {xs : List Value} (h : w.ownsRow base E size v n xs) (hb : Below w.heap.size w w') : w'.ownsRow base E size v n xs :=
 h.kept (Below.grownBy hb none) (by cases hv : v.ownBlock <;> simp)

theorem owned_shape {w : World} {base : Nat} {E : TypeId} {v : Value} {size n : Nat} {xs : List Value} (h : w.ownsRow base E size v n xs) : ∃ ao cap, v = .slice ao n cap := by
 rcases h.2 with ⟨rfl, rfl⟩ | ⟨g, cap, cur, rfl, _⟩
 ·exact ⟨_, _, rfl⟩
 ·exact ⟨_, _, rfl⟩

def RelB (M : Nat) (w : World) (j q : Nat) (dv : Value) (wr : World) : Prop :=
 j ≤ 8 ∧ q = M / 256 ^ j ∧ (j = 0 ∨ M / 256 ^ (j - 1) ≠ 0) ∧ wr.ownsRow w.heap.size 5 1 dv j (((be j M).reverse.map Int.ofNat).map (Value.int .u8)) ∧ Below w.heap.size w wr

theorem RelB.lt {M : Nat} {w : World} {j q : Nat} {dv : Value} {wr : World} (h : RelB M w j q dv wr) (hM : M < 9223372036854775808) (hq : q ≠ 0) : j < 8 := by
 obtain ⟨h1, rfl, _⟩ := h
 rcases (show j = 8 ∨ j < 8 from by omega) with rfl | h
 ·exact absurd (Nat.div_eq_of_lt (by omega)) hq
 ·exact h

theorem RelB.le {M : Nat} {w : World} {j q : Nat} {dv : Value} {wr : World} (h : RelB M w j q dv wr) (hM : M < 9223372036854775808) : q ≤ 9223372036854775807 := by
 obtain ⟨h1, rfl, _⟩ := h
 exact Nat.le_trans (Nat.div_le_self _ _) (by omega)

theorem RelB.next {M : Nat} {w : World} {j q : Nat} {dv : Value} {wr w' : World} {o : Obj} {dv' : Value} (h : RelB M w j q dv wr) (hM : M < 9223372036854775808) (hq : q ≠ 0)
  (ho : w'.ownsRow w.heap.size 5 1 dv' (j + 1) (((be j M).reverse.map Int.ofNat).map (Value.int .u8) ++ [.int .u8 ((q : Int) % 256)])) (hg : (wr.alloc o).grownBy w' dv.ownBlock) : RelB M w (j + 1) (q / 256) dv' w' := by
 have hlt := h.lt hM hq
 obtain ⟨h1, rfl, h3, h4, h5⟩ := h
 refine ⟨by omega, by rw [Nat.pow_succ, Nat.div_div_eq_div_mul], .inr (by simpa using hq), ?_, below_owned (h5.alloc h5.size _) (h4.alloc _) hg⟩
 simp only [be, List.reverse_cons, List.map_append]
 simpa using ho

theorem RelB.done {M : Nat} {w : World} {j : Nat} {dv : Value} {wr : World} (h : RelB M w j 0 dv wr) : j = wid M := by
 obtain ⟨h1, h0, h3, _⟩ := h
 refine wid_unique M j (by omega) ((Nat.div_eq_zero_iff_lt (Nat.pow_pos (by decide))).1 h0.symm) ?_
 rcases h3 with h | h
 ·exact .inl h
 ·refine .inr ?_
  rcases Nat.lt_or_ge M (256 ^ (j - 1)) with hlt | hge
  ·exact absurd (Nat.div_eq_of_lt hlt) h
  ·exact hge

theorem fl_true_first (k : Nat) : fl true (128 + (k : Int)) = 127 - k := by
 show 255 - (128 + (k : Int)) = _
 omega

def RelC (M : Nat) (neg : Bool) (k p : Nat) (wo : World) (out : Value) (wr : World) : Prop :=
 wr.ownsRow wo.heap.size 5 1 out (1 + (k - p)) ((fl neg (128 + (k : Int)) :: ((be k M).take (k - p)).map fun d => fl neg (Int.ofNat d)).map (Value.int .u8)) ∧ Below wo.heap.size wo wr

theorem digit_at {w : World} {ao : Option Addr} {M k cap p : Nat} (h : View w (.slice ao k cap) 1 k (((be k M).reverse.map Int.ofNat).map (Value.int .u8))) (hp : p < k) :
  ∃ z b off, ao = some ⟨b, off, none⟩ ∧ (0 : Int) ≤ z ∧ z ≤ 255 ∧ w.cell? ⟨b, off + p, none⟩ = some (.int .u8 z) ∧ (be k M)[k - (p + 1)]? = some z.toNat := by
 obtain ⟨_, ao', cap', hsh, _, _, hc⟩ := h
 simp only [Value.slice.injEq, true_and] at hsh
 obtain ⟨rfl, rfl⟩ := hsh
 obtain ⟨b, off, rfl, hcell⟩ := hc (by omega)
 have hlen := be_length k M
 have hg : (be k M).reverse[p]? = (be k M)[k - (p + 1)]? := by
  rw [List.getElem?_reverse (by omega), hlen]
  congr 1
  omega
 obtain ⟨d, hd⟩ : ∃ d, (be k M)[k - (p + 1)]? = some d := ⟨_, List.getElem?_eq_getElem (by omega)⟩
 have hlt := be_lt k M d (List.mem_of_getElem? hd)
 refine ⟨(d : Int), b, off, rfl, by omega, by omega, hcell p _ ?_, by rw [hd]; simp⟩
 rw [List.getElem?_map, List.getElem?_map, hg, hd]
 rfl

theorem RelC.next {M : Nat} {neg : Bool} {k p : Nat} {wo wr w' : World} {out out' : Value} {o : Obj} {z : Int} (h : RelC M neg k (p + 1) wo out wr) (hp : p < k) (hz : (be k M)[k - (p + 1)]? = some z.toNat)
  (ho : w'.ownsRow wo.heap.size 5 1 out' (1 + (k - (p + 1)) + 1) ((fl neg (128 + (k : Int)) :: ((be k M).take (k - (p + 1))).map fun d => fl neg (Int.ofNat d)).map (Value.int .u8) ++ [.int .u8 (fl neg z)])) (h0 : 0 ≤ z) (hg : (wr.alloc o).grownBy w' out.ownBlock) : RelC M neg k p wo out' w' := by
 refine ⟨?_, below_owned (h.2.alloc h.2.size _) (h.1.alloc _) hg⟩
 have e : k - p = k - (p + 1) + 1 := by omega
 have hlt : k - (p + 1) < (be k M).length := by rw [be_length]; omega
 have hz' : (be k M)[k - (p + 1)] = z.toNat := by rw [List.getElem?_eq_getElem hlt] at hz; simpa using hz
 rw [e, List.take_succ_eq_append_getElem hlt, hz']
 have hzz : max z 0 = z := by omega
 simpa [hzz, Nat.add_assoc] using ho

theorem RelC.done {n : Int} {neg : Bool} {k : Nat} {w wo wr : World} {out : Value} (h : RelC (mag n) neg k 0 wo out wr) (hneg : neg = decide (n < 0)) (hk : k = wid (mag n)) (hs : w.heap.size ≤ wo.heap.size) :
  wr.ownsRow w.heap.size 5 1 out (code n).length ((code n).map (Value.int .u8)) := by
 have e : (fl neg (128 + (k : Int)) :: ((be k (mag n)).take (k - 0)).map fun d => fl neg (Int.ofNat d)) = code n := by
  rw [Nat.sub_zero, List.take_of_length_le (by rw [be_length]; omega), code, ← hneg, ← hk]
  simp
 have hl : (code n).length = 1 + (k - 0) := by rw [code_length, ← hk]; omega
 have h1 : wr.ownsRow wo.heap.size 5 1 out (code n).length ((code n).map (Value.int .u8)) := by
  have h0 := h.1
  rw [e] at h0
  rw [hl]
  exact h0
 refine ⟨h1.1, ?_⟩
 rcases h1.2 with h2 | ⟨g, cap, cur, hv, hg, r⟩
 ·exact .inl h2
 ·exact .inr ⟨g, cap, cur, hv, Nat.le_trans hs hg, r⟩

set_option maxRecDepth 100000 in
set_option maxHeartbeats 800000 in
theorem refInt_pos (n : Int) (w : World) (h0 : 0 ≤ n) (h1 : n ≤ 9223372036854775807) :
  Calls Tryz.prog 74 #[.int .i64 n] w (Fresh w (code n)) := by
 obtain ⟨i0, hi, hz0', hz1', hz2⟩ := info_parts Tryz.info5
 have HM := hid (mag_lt n (by omega) h1)
 have hmg : Hid (n = mag n) := by show n = (mag n : Int); unfold mag; rw [if_neg (by omega)]; omega
 have HR0 : Hid (RelB (mag n) w 0 (mag n) (.slice none 0 0) w) := ⟨by omega, by simp, .inl rfl, World.ownsRow_nil _ _ _ _, Below.refl _ _⟩
 go_enter Tryz.func74, Tryz.ntmps74
 go_wp2
 go_loopw [3, 4] (fun m dv wr => ∃ j q : Nat, m = .int .i64 q ∧ RelB (mag n) w j q dv wr) (fun m _ _ => (intOf m).toNat)
 case atStart => exact ⟨0, mag n, by rw [← hmg.out], HR0.out⟩
 case round =>
  obtain ⟨j, q, rfl, hrel⟩ := hrel
  have hq9 := hrel.le HM.out
  by_cases hq0 : q = 0
  ·subst hq0
   have hjw := hrel.done
   have hw8 := wid_le (mag n)
   have HO := hid hrel.2.2.2.1
   have HB := hid hrel.2.2.2.2
   obtain ⟨ao, cap, hdv⟩ := owned_shape HO.out
   subst hdv
   subst hjw
   clear hrel hq9
   obtain ⟨k, hk⟩ : ∃ k, k = wid (mag n) := ⟨_, rfl⟩
   rw [← hk] at HO hw8 ⊢
   have HK := hid hk
   clear hk
   have HV := hid (View.of_owns HO.out)
   go_wp2_with (at_builtin; go_must (refine wpList_append_own _ rfl (.tmp 28) (.tmp 32) 55 rfl wr.heap.size 5 i0 (.int .u8 0) 1 1 Tryz.under28 hi hz0' hz1' hz2 rfl (by decide) _ 0 [] rfl (World.ownsRow_nil _ _ _ _) ⟨wr.heap.size, 0, none⟩ 1 1 [.int .u8 (128 + (k : Int))] rfl rfl ?d1 ?d2 ?d3 ?d4 ?d5 ?_))
   case d1 => exact cell_new _ _ _ _ (by simp)
   case d2 => intro z hz; simp at hz; subst hz; rfl
   case d3 => unfold maxLen; omega
   case d4 => omega
   case d5 => simp
   intro v1 w1 ho1 hg1 _
   have HO1 := hid ho1
   have HB1 := hid (show Below wr.heap.size wr w1 from ((Below.refl _ _).alloc (Nat.le_refl _) _).grown hg1 (by simp) (by simp [Value.ownBlock]))
   clear ho1 hg1
   obtain ⟨wo, rfl⟩ : ∃ wo : World, wo = wr := ⟨_, rfl⟩
   go_wp2_with fail
   go_loopw [6, 7] (fun out i wr => ∃ p : Nat, p ≤ k ∧ i = .int .i64 ((p : Int) - 1) ∧ RelC (mag n) false k p wo out wr) (fun _ i _ => (intOf i + 1).toNat)
   case atStart => exact ⟨k, Nat.le_refl _, rfl, by rw [Nat.sub_self]; exact HO1.out, HB1.out⟩
   case round =>
    obtain ⟨p, hp, rfl, hrelc⟩ := hrel
    have HC := hid hrelc
    clear hrelc
    by_cases hp0 : p = 0
    ·subst hp0
     go_wp2
     go_ret
     refine ⟨_, rfl, ?_, further HB.out HC.out.2⟩
     exact RelC.done HC.out (by simp; omega) HK.out HB.out.size
    ·obtain ⟨p', rfl⟩ : ∃ p', p = p' + 1 := ⟨p - 1, by omega⟩
     obtain ⟨z, b, off, hao, hz0, hz1, hcz, hzv⟩ := digit_at HV.out (show p' < k by omega)
     subst hao
     have hc8 := below_keep HC.out.2 hcz
     have HZ := hid hzv
     have e1 : ((p' + 1 : Nat) : Int) - 1 = (p' : Int) := by omega
     rw [e1]
     have hpI : (0 : Int) ≤ (p' : Int) := by omega
     clear hzv hcz e1
     go_wp2_with (at_builtin; go_must (refine wpList_append_own _ rfl (.tmp 54) (.tmp 56) 55 rfl wo.heap.size 5 i0 (.int .u8 0) 1 1 Tryz.under28 hi hz0' hz1' hz2 rfl (by decide) _ _ _ rfl (HC.out.1.alloc _) ⟨wr.heap.size, 0, none⟩ 1 1 [.int .u8 z] rfl rfl ?f1 ?f2 ?f3 ?f4 ?f5 ?_))
     case f1 => exact cell_new _ _ _ _ (by simp)
     case f2 => intro z hz; simp at hz; subst hz; rfl
     case f3 => unfold maxLen; omega
     case f4 => omega
     case f5 => have := HC.out.2.size; simp; omega
     intro v' w6 hown' hgrow _
     have HS := hid (RelC.next HC.out (by omega) HZ.out (by simpa [fl, Nat.add_comm] using hown') hz0 hgrow)
     clear hown' hgrow
     go_wp2
     go_roundw
     case rel => exact ⟨p', by omega, by go_num, HS.out⟩
     case measure => first | (simp [intOf]; done) | (simp [intOf]; omega)
  ·have hj8 := hrel.lt HM.out hq0
   have HR := hid hrel
   have HO := hid hrel.2.2.2.1
   have HB := hid hrel.2.2.2.2
   clear hrel
   go_wp2_with (at_builtin; go_must (refine wpList_append_own _ rfl (.tmp 16) (.tmp 20) 55 rfl w.heap.size 5 i0 (.int .u8 0) 1 1 Tryz.under28 hi hz0' hz1' hz2 rfl (by decide) _ j _ rfl (HO.out.alloc _) ⟨wr.heap.size, 0, none⟩ 1 1 [.int .u8 ((q : Int) % 256)] rfl rfl ?c1 ?c2 ?c3 ?c4 ?c5 ?_))
   case c1 => exact cell_new _ _ _ _ (by simp)
   case c2 => intro z hz; simp at hz; subst hz; rfl
   case c3 => unfold maxLen; omega
   case c4 => omega
   case c5 => have := HB.out.size; simp; omega
   intro v' w6 hown' hgrow _
   have HS := hid (HR.out.next HM.out hq0 (by simpa using hown') hgrow)
   clear hown' hgrow
   go_wp2
   go_roundw
   case rel => exact ⟨j + 1, q / 256, by go_num, HS.out⟩
   case measure => simp [intOf]; omega

set_option maxRecDepth 100000 in
set_option maxHeartbeats 800000 in
theorem refInt_neg (n : Int) (w : World) (h0 : n < 0) (h1 : -9223372036854775808 ≤ n) :
  Calls Tryz.prog 74 #[.int .i64 n] w (Fresh w (code n)) := by
 obtain ⟨i0, hi, hz0', hz1', hz2⟩ := info_parts Tryz.info5
 have HM := hid (mag_lt n h1 (by omega))
 have hmg : Hid (-1 - n = mag n) := by show -1 - n = (mag n : Int); unfold mag; rw [if_pos h0]; omega
 have HR0 : Hid (RelB (mag n) w 0 (mag n) (.slice none 0 0) w) := ⟨by omega, by simp, .inl rfl, World.ownsRow_nil _ _ _ _, Below.refl _ _⟩
 go_enter Tryz.func74, Tryz.ntmps74
 go_wp2
 go_loopw [3, 4] (fun m dv wr => ∃ j q : Nat, m = .int .i64 q ∧ RelB (mag n) w j q dv wr) (fun m _ _ => (intOf m).toNat)
 case atStart => exact ⟨0, mag n, by rw [← hmg.out], HR0.out⟩
 case round =>
  obtain ⟨j, q, rfl, hrel⟩ := hrel
  have hq9 := hrel.le HM.out
  by_cases hq0 : q = 0
  ·subst hq0
   have hjw := hrel.done
   have hw8 := wid_le (mag n)
   have HO := hid hrel.2.2.2.1
   have HB := hid hrel.2.2.2.2
   obtain ⟨ao, cap, hdv⟩ := owned_shape HO.out
   subst hdv
   subst hjw
   clear hrel hq9
   obtain ⟨k, hk⟩ : ∃ k, k = wid (mag n) := ⟨_, rfl⟩
   rw [← hk] at HO hw8 ⊢
   have HK := hid hk
   clear hk
   have HV := hid (View.of_owns HO.out)
   go_wp2_with (at_builtin; go_must (refine wpList_append_own _ rfl (.tmp 34) (.tmp 38) 55 rfl wr.heap.size 5 i0 (.int .u8 0) 1 1 Tryz.under28 hi hz0' hz1' hz2 rfl (by decide) _ 0 [] rfl (World.ownsRow_nil _ _ _ _) ⟨wr.heap.size, 0, none⟩ 1 1 [.int .u8 (127 - (k : Int))] rfl rfl ?d1 ?d2 ?d3 ?d4 ?d5 ?_))
   case d1 => exact cell_new _ _ _ _ (by simp)
   case d2 => intro z hz; simp at hz; subst hz; rfl
   case d3 => unfold maxLen; omega
   case d4 => omega
   case d5 => simp
   intro v1 w1 ho1 hg1 _
   have HO1 := hid ho1
   have HB1 := hid (show Below wr.heap.size wr w1 from ((Below.refl _ _).alloc (Nat.le_refl _) _).grown hg1 (by simp) (by simp [Value.ownBlock]))
   clear ho1 hg1
   obtain ⟨wo, rfl⟩ : ∃ wo : World, wo = wr := ⟨_, rfl⟩
   go_wp2_with fail
   go_loopw [6, 7] (fun out i wr => ∃ p : Nat, p ≤ k ∧ i = .int .i64 ((p : Int) - 1) ∧ RelC (mag n) true k p wo out wr) (fun _ i _ => (intOf i + 1).toNat)
   case atStart => exact ⟨k, Nat.le_refl _, rfl, by rw [Nat.sub_self, List.take_zero, fl_true_first]; exact HO1.out, HB1.out⟩
   case round =>
    obtain ⟨p, hp, rfl, hrelc⟩ := hrel
    have HC := hid hrelc
    clear hrelc
    by_cases hp0 : p = 0
    ·subst hp0
     go_wp2
     go_ret
     refine ⟨_, rfl, ?_, further HB.out HC.out.2⟩
     exact RelC.done HC.out (by simp [h0]) HK.out HB.out.size
    ·obtain ⟨p', rfl⟩ : ∃ p', p = p' + 1 := ⟨p - 1, by omega⟩
     obtain ⟨z, b, off, hao, hz0, hz1, hcz, hzv⟩ := digit_at HV.out (show p' < k by omega)
     subst hao
     have hc8 := below_keep HC.out.2 hcz
     have HZ := hid hzv
     have e1 : ((p' + 1 : Nat) : Int) - 1 = (p' : Int) := by omega
     rw [e1]
     have hpI : (0 : Int) ≤ (p' : Int) := by omega
     clear hzv hcz e1
     go_wp2_with (at_builtin; go_must (refine wpList_append_own _ rfl (.tmp 54) (.tmp 56) 55 rfl wo.heap.size 5 i0 (.int .u8 0) 1 1 Tryz.under28 hi hz0' hz1' hz2 rfl (by decide) _ _ _ rfl (HC.out.1.alloc _) ⟨wr.heap.size, 0, none⟩ 1 1 [.int .u8 (255 - z)] rfl rfl ?f1 ?f2 ?f3 ?f4 ?f5 ?_))
     case f1 => exact cell_new _ _ _ _ (by simp)
     case f2 => intro z hz; simp at hz; subst hz; rfl
     case f3 => unfold maxLen; omega
     case f4 => omega
     case f5 => have := HC.out.2.size; simp; omega
     intro v' w6 hown' hgrow _
     have HS := hid (RelC.next HC.out (by omega) HZ.out (by simpa [fl, Nat.add_comm] using hown') hz0 hgrow)
     clear hown' hgrow
     go_wp2
     go_roundw
     case rel => exact ⟨p', by omega, by go_num, HS.out⟩
     case measure => first | (simp [intOf]; done) | (simp [intOf]; omega)
  ·have hj8 := hrel.lt HM.out hq0
   have HR := hid hrel
   have HO := hid hrel.2.2.2.1
   have HB := hid hrel.2.2.2.2
   clear hrel
   go_wp2_with (at_builtin; go_must (refine wpList_append_own _ rfl (.tmp 16) (.tmp 20) 55 rfl w.heap.size 5 i0 (.int .u8 0) 1 1 Tryz.under28 hi hz0' hz1' hz2 rfl (by decide) _ j _ rfl (HO.out.alloc _) ⟨wr.heap.size, 0, none⟩ 1 1 [.int .u8 ((q : Int) % 256)] rfl rfl ?c1 ?c2 ?c3 ?c4 ?c5 ?_))
   case c1 => exact cell_new _ _ _ _ (by simp)
   case c2 => intro z hz; simp at hz; subst hz; rfl
   case c3 => unfold maxLen; omega
   case c4 => omega
   case c5 => have := HB.out.size; simp; omega
   intro v' w6 hown' hgrow _
   have HS := hid (HR.out.next HM.out hq0 (by simpa using hown') hgrow)
   clear hown' hgrow
   go_wp2
   go_roundw
   case rel => exact ⟨j + 1, q / 256, by go_num, HS.out⟩
   case measure => simp [intOf]; omega

theorem refInt_any (n : Int) (w : World) (h1 : n ≤ 9223372036854775807) (h2 : -9223372036854775808 ≤ n) :
  Calls Tryz.prog 74 #[.int .i64 n] w (Fresh w (code n)) := by
 by_cases h : n < 0
 ·exact refInt_neg n w h h2
 ·exact refInt_pos n w (by omega) h1

theorem owned_news {w : World} {base : Nat} {E : TypeId} {g n cap : Nat} {xs : List Value} (h : w.ownsRow base E 1 (.slice (some ⟨g, 0, none⟩) n cap) n xs) : ∀ j u, xs[j]? = some u → w.cell? ((⟨g, 0, none⟩ : Addr).add j) = some u := by
 intro j u hj
 have hlt : j < xs.length := (List.getElem?_eq_some_iff.1 hj).1
 rcases h.2 with ⟨h0, _⟩ | ⟨g', cap', cur, hv, _, hg, _, _, _, ht⟩
 ·cases h0
 ·simp only [Value.slice.injEq, Option.some.injEq, Addr.mk.injEq] at hv
  obtain ⟨⟨rfl, _, _⟩, _, rfl⟩ := hv
  rw [Addr.add_lit, Nat.zero_add, cell_of_row _ _ _ _ _ _ hg]
  have hl := h.1
  rw [← ht, List.getElem?_take] at hj
  split at hj
  ·simpa using hj
  ·cases hj

set_option maxRecDepth 100000 in
set_option maxHeartbeats 800000 in
theorem refInts_any (v : Value) (zs : List Int) (w : World) (hv : View w v 1 zs.length (zs.map (Value.int .i64))) (hz : ∀ z ∈ zs, -9223372036854775808 ≤ z ∧ z ≤ 9223372036854775807) (hl : zs.length ≤ 1099511627776) :
  Calls Tryz.prog 43 #[v] w (Fresh w (encInts zs)) := by
 obtain ⟨i0, hi, hz0, hz1, hz2⟩ := info_parts Tryz.info5
 have HC := hid (refInt_any (zs.length : Int) w (by omega) (by omega))
 obtain ⟨_, ao, cap, rfl, hlc, hcm, hcells⟩ := hv
 have HCE := hid hcells
 have HZ := hid hz
 clear hcells hz
 unfold maxLen at hcm
 go_enter Tryz.func43, Tryz.ntmps43
 go_wp2_with fail
 refine HC.out.mono ?_
 rintro e w1 ⟨v1, rfl, hown, hbel⟩
 have HO := hid hown
 have HB := hid hbel
 clear hown hbel
 go_wp2
 go_loopw [3, 4] (fun out i wr => ∃ k : Nat, k ≤ zs.length ∧ i = .int .i64 k ∧ wr.ownsRow w.heap.size 5 1 out (code (zs.length : Int) ++ (zs.take k).flatMap code).length ((code (zs.length : Int) ++ (zs.take k).flatMap code).map (Value.int .u8)) ∧ Below w.heap.size w wr) (fun _ i _ => zs.length - (intOf i).toNat)
 case atStart => exact ⟨0, by omega, rfl, by simpa using HO.out, HB.out⟩
 case round =>
  obtain ⟨k, hk, rfl, hown, hbel⟩ := hrel
  have HO2 := hid hown
  have HB2 := hid hbel
  clear hown hbel
  by_cases hkn : k < zs.length
  ·obtain ⟨b, off, rfl, hc⟩ := HCE.out (by omega)
   obtain ⟨z, hzz⟩ : ∃ z, z = zs[k] := ⟨_, rfl⟩
   have hcz : wr.cell? ⟨b, off + k, none⟩ = some (.int .i64 z) := below_keep HB2.out (hc k _ (by rw [List.getElem?_map, List.getElem?_eq_getElem hkn, hzz]; rfl))
   have hzb := HZ.out z (by rw [hzz]; exact List.getElem_mem hkn)
   have hlen := codes_le (zs.take k)
   have hcl := code_le (zs.length : Int)
   have hcz2 := code_le z
   have hcp := code_pos z
   have hlt : (zs.take k).length ≤ k := List.length_take_le _ _
   have hbig : (code (zs.length : Int) ++ (zs.take k).flatMap code).length + (code z).length ≤ 20000000000000 := by rw [List.length_append]; omega
   have HN := hid (refInt_any z wr hzb.2 hzb.1)
   have HZZ := hid hzz
   obtain ⟨X, hX⟩ : ∃ X, X = code (zs.length : Int) ++ (zs.take k).flatMap code := ⟨_, rfl⟩
   rw [← hX] at HO2 hbig
   have HX := hid hX
   clear hzz hc hlen hcl hlt hzb hcz2 hX
   go_wp2_with fail
   refine HN.out.mono ?_
   rintro e w2 ⟨v2, rfl, hown2, hbel2⟩
   obtain ⟨g2, c2, rfl, hc21, hc22⟩ := owned_slice hown2 (by omega)
   have HO3 := hid (owned_kept HO2.out hbel2)
   have HB3 := hid (further HB2.out hbel2)
   have HN2 := hid (owned_news hown2)
   clear hown2 hbel2
   go_wp2_with (at_builtin; go_must (refine wpList_append_own _ rfl (.tmp 14) (.tmp 19) 55 rfl w.heap.size 5 i0 (.int .u8 0) 1 1 Tryz.under28 hi hz0 hz1 hz2 rfl (by decide) _ X.length (X.map (Value.int .u8)) rfl HO3.out ⟨g2, 0, none⟩ (code z).length c2 ((code z).map (Value.int .u8)) rfl ?c1 HN2.out ?c2 ?c3 ?c4 ?c5 ?_))
   case c1 => rw [List.length_map]; omega
   case c2 => exact bytes_oneCell _
   case c3 => unfold maxLen; omega
   case c4 => omega
   case c5 => exact HB3.out.size
   intro v3 w3 hown3 hgrow3 _
   have HO4 := hid hown3
   have HB4 := hid (below_owned HB3.out HO3.out hgrow3)
   clear hown3 hgrow3
   go_wp2
   go_roundw
   case rel =>
    refine ⟨k + 1, by omega, by go_num, ?_, HB4.out⟩
    rw [List.take_succ_eq_append_getElem hkn, List.flatMap_append, ← List.append_assoc, ← HX.out, ← HZZ.out]
    simpa using HO4.out
   case measure => simp [intOf]; omega
  ·obtain rfl : k = zs.length := by omega
   go_wp2
   go_ret
   refine ⟨_, rfl, ?_, HB2.out⟩
   have := HO2.out
   rw [List.take_length] at this
   exact this
end Go.Proofs.YtpgiebimhnhbiabGreatDoor
