/-
  Contracts of gantry/gantryref01: Int of a number that is not negative, Bytes.
  Encodings of integers and of lists of them, and those of the reference.
  Lists of numbers in slices (what IntG and IntP say of them).
  The data: integers, their digits, fractions; the contracts of package integer in this form.
  Operations on numbers and truth values, and on integers and fractions.
  Contracts of gantry/gantryref02: Input, Short, Of.
  Contracts of gantry/gantryref02: Short, Of.
-/
import Derived.Test.YthadfilandmhiaaDoorSB24
import Derived.Test.YthadfilandmhiaaDoorSB33
import Derived.Test.YthadfilandmhiaaDoorSB1
import Derived.Test.YthadfilandmhiaaDoorSB3
import Derived.Lib.AppendStr
import Derived.BigQuiet
import Derived.Deep.QuietTactic
import Derived.Deep.OwnRows
import Derived.Test.YthadfilandmhiaaDoorSB29
import Derived.IntWalk
import Derived.Test.YthadfilandmhiaaDoorSB7
import Derived.Test.YthadfilandmhiaaDoorSB22
import Derived.Test.YthadfilandmhiaaDoorSB31
set_option linter.unusedVariables false
set_option linter.unusedSimpArgs false
set_option linter.unusedSectionVars false
namespace Go.Proofs.YthadfilandmhiaaDoor
open Go.RowKit
open Go.Lib (hid)
open W
/-- The value v is a slice of n elements of so many cells each, which are these. -/
structure View (w : World) (v : Value) (size n : Nat) (cells : List Value) : Prop where
  len : cells.length = n * size
  shape : ∃ ao cap, v = .slice ao n cap ∧ n ≤ cap ∧ cap ≤ maxLen ∧ (0 < n → ∃ b off, ao = some ⟨b, off, none⟩ ∧ ∀ i x, cells[i]? = some x → w.cell? ⟨b, off + i, none⟩ = some x)

theorem View.of_owns {w : World} {base : Nat} {E : TypeId} {v : Value} {size n : Nat} {cells : List Value} (h : w.ownsRow base E size v n cells) : View w v size n cells := by
  refine ⟨h.1, ?_⟩
  rcases h.2 with ⟨rfl, rfl⟩ | ⟨g, cap, cur, rfl, hg, hh, hn, hm, hs, ht⟩
  · exact ⟨none, 0, rfl, Nat.le_refl _, by unfold maxLen; omega, fun h => absurd h (by omega)⟩
  · refine ⟨_, cap, rfl, hn, hm, fun _ => ⟨g, 0, rfl, fun i x hi => ?_⟩⟩
    have := h.cells (g := g) rfl i x hi
    rwa [Addr.add_lit] at this

/-- Behind a function that makes bytes: they lie in new memory. -/
def Fresh (w : World) (bs : List Int) (e : Ending) (w' : World) : Prop :=
  ∃ v, e = .returned v ∧ w'.ownsRow w.heap.size 5 1 v bs.length (bs.map (Value.int .u8)) ∧ Below w.heap.size w w'

theorem cell_new (w : World) (x : Value) (E : TypeId) (b : Nat) (hb : b = w.heap.size) : ∀ j u, [x][j]? = some u → (w.alloc (.cells #[x] E)).cell? ((⟨b, 0, none⟩ : Addr).add j) = some u := by
  subst hb
  exact cell_one_new _ _ _
theorem below_keep {w w' : World} (hb : Below w.heap.size w w') {a : Addr} {x : Value} (h : w.cell? a = some x) : w'.cell? a = some x := by
  rw [hb.cell (World.block_lt_of_cell? w _ h)]; exact h
theorem owned_shape {w : World} {base : Nat} {E : TypeId} {v : Value} {size n : Nat} {xs : List Value} (h : w.ownsRow base E size v n xs) : ∃ ao cap, v = .slice ao n cap := by
  rcases h.2 with ⟨rfl, rfl⟩ | ⟨g, cap, cur, rfl, _⟩
  · exact ⟨_, _, rfl⟩
  · exact ⟨_, _, rfl⟩

/-- The first loop's relation: j digits have been taken, q is left. -/
def RelB (M : Nat) (w : World) (j q : Nat) (dv : Value) (wr : World) : Prop :=
  j ≤ 8 ∧ q = M / 256 ^ j ∧ (j = 0 ∨ M / 256 ^ (j - 1) ≠ 0) ∧ wr.ownsRow w.heap.size 5 1 dv j (((be j M).reverse.map Int.ofNat).map (Value.int .u8)) ∧ Below w.heap.size w wr

theorem RelB.lt {M : Nat} {w : World} {j q : Nat} {dv : Value} {wr : World} (h : RelB M w j q dv wr) (hM : M < 9223372036854775808) (hq : q ≠ 0) : j < 8 := by
  obtain ⟨h1, rfl, _⟩ := h
  rcases (show j = 8 ∨ j < 8 from by omega) with rfl | h
  · exact absurd (Nat.div_eq_of_lt (by omega)) hq
  · exact h

theorem RelB.le {M : Nat} {w : World} {j q : Nat} {dv : Value} {wr : World} (h : RelB M w j q dv wr) (hM : M < 9223372036854775808) : q ≤ 9223372036854775807 := by
  obtain ⟨h1, rfl, _⟩ := h
  exact Nat.le_trans (Nat.div_le_self _ _) (by omega)

theorem RelB.next {M : Nat} {w : World} {j q : Nat} {dv : Value} {wr w' : World} {o : Obj} {dv' : Value} (h : RelB M w j q dv wr) (hM : M < 9223372036854775808) (hq : q ≠ 0)
    (ho : w'.ownsRow w.heap.size 5 1 dv' (j + 1) (((be j M).reverse.map Int.ofNat).map (Value.int .u8) ++ [.int .u8 ((q : Int) % 256)])) (hg : (wr.alloc o).grownBy w' dv.ownBlock) : RelB M w (j + 1) (q / 256) dv' w' := by
  have hlt := h.lt hM hq
  obtain ⟨h1, rfl, h3, h4, h5⟩ := h
  refine ⟨by omega, by rw [Nat.pow_succ, Nat.div_div_eq_div_mul], .inr (by simpa using hq), ?_, below_owned (h5.alloc h5.size _) (h4.alloc _) hg⟩
  simp only [be, List.reverse_cons, List.map_append]
  simpa using ho

theorem RelB.done {M : Nat} {w : World} {j : Nat} {dv : Value} {wr : World} (h : RelB M w j 0 dv wr) : j = wid M := by
  obtain ⟨h1, h0, h3, _⟩ := h
  refine wid_unique M j (by omega) ((Nat.div_eq_zero_iff_lt (Nat.pow_pos (by decide))).1 h0.symm) ?_
  rcases h3 with h | h
  · exact .inl h
  · refine .inr ?_
    rcases Nat.lt_or_ge M (256 ^ (j - 1)) with hlt | hge
    · exact absurd (Nat.div_eq_of_lt hlt) h
    · exact hge

theorem fl_true_first (k : Nat) : fl true (128 + (k : Int)) = 127 - k := by
  show 255 - (128 + (k : Int)) = _
  omega

/-- The second loop's relation: p digits are still to come. -/
def RelC (M : Nat) (neg : Bool) (k p : Nat) (wo : World) (out : Value) (wr : World) : Prop :=
  wr.ownsRow wo.heap.size 5 1 out (1 + (k - p)) ((fl neg (128 + (k : Int)) :: ((be k M).take (k - p)).map fun d => fl neg (Int.ofNat d)).map (Value.int .u8)) ∧ Below wo.heap.size wo wr

theorem digit_at {w : World} {ao : Option Addr} {M k cap p : Nat} (h : View w (.slice ao k cap) 1 k (((be k M).reverse.map Int.ofNat).map (Value.int .u8))) (hp : p < k) :
    ∃ z b off, ao = some ⟨b, off, none⟩ ∧ (0 : Int) ≤ z ∧ z ≤ 255 ∧ w.cell? ⟨b, off + p, none⟩ = some (.int .u8 z) ∧ (be k M)[k - (p + 1)]? = some z.toNat := by
  obtain ⟨_, ao', cap', hsh, _, _, hc⟩ := h
  simp only [Value.slice.injEq, true_and] at hsh
  obtain ⟨rfl, rfl⟩ := hsh
  obtain ⟨b, off, rfl, hcell⟩ := hc (by omega)
  have hlen := be_length k M
  have hg : (be k M).reverse[p]? = (be k M)[k - (p + 1)]? := by
    rw [List.getElem?_reverse (by omega), hlen]
    congr 1
    omega
  obtain ⟨d, hd⟩ : ∃ d, (be k M)[k - (p + 1)]? = some d := ⟨_, List.getElem?_eq_getElem (by omega)⟩
  have hlt := be_lt k M d (List.mem_of_getElem? hd)
  refine ⟨(d : Int), b, off, rfl, by omega, by omega, hcell p _ ?_, by rw [hd]; simp⟩
  rw [List.getElem?_map, List.getElem?_map, hg, hd]
  rfl

theorem RelC.next {M : Nat} {neg : Bool} {k p : Nat} {wo wr w' : World} {out out' : Value} {o : Obj} {z : Int} (h : RelC M neg k (p + 1) wo out wr) (hp : p < k) (hz : (be k M)[k - (p + 1)]? = some z.toNat)
    (ho : w'.ownsRow wo.heap.size 5 1 out' (1 + (k - (p + 1)) + 1) ((fl neg (128 + (k : Int)) :: ((be k M).take (k - (p + 1))).map fun d => fl neg (Int.ofNat d)).map (Value.int .u8) ++ [.int .u8 (fl neg z)])) (h0 : 0 ≤ z) (hg : (wr.alloc o).grownBy w' out.ownBlock) : RelC M neg k p wo out' w' := by
  refine ⟨?_, below_owned (h.2.alloc h.2.size _) (h.1.alloc _) hg⟩
  have e : k - p = k - (p + 1) + 1 := by omega
  have hlt : k - (p + 1) < (be k M).length := by rw [be_length]; omega
  have hz' : (be k M)[k - (p + 1)] = z.toNat := by rw [List.getElem?_eq_getElem hlt] at hz; simpa using hz
  rw [e, List.take_succ_eq_append_getElem hlt, hz']
  have hzz : max z 0 = z := by omega
  simpa [hzz, Nat.add_assoc] using ho

theorem RelC.done {n : Int} {neg : Bool} {k : Nat} {w wo wr : World} {out : Value} (h : RelC (mag n) neg k 0 wo out wr) (hneg : neg = decide (n < 0)) (hk : k = wid (mag n)) (hs : w.heap.size ≤ wo.heap.size) :
    wr.ownsRow w.heap.size 5 1 out (code n).length ((code n).map (Value.int .u8)) := by
  have e : (fl neg (128 + (k : Int)) :: ((be k (mag n)).take (k - 0)).map fun d => fl neg (Int.ofNat d)) = code n := by
    rw [Nat.sub_zero, List.take_of_length_le (by rw [be_length]; omega), code, ← hneg, ← hk]
    simp
  have hl : (code n).length = 1 + (k - 0) := by rw [code_length, ← hk]; omega
  have h1 : wr.ownsRow wo.heap.size 5 1 out (code n).length ((code n).map (Value.int .u8)) := by
    have h0 := h.1
    rw [e] at h0
    rw [hl]
    exact h0
  refine ⟨h1.1, ?_⟩
  rcases h1.2 with h2 | ⟨g, cap, cur, hv, hg, r⟩
  · exact .inl h2
  · exact .inr ⟨g, cap, cur, hv, Nat.le_trans hs hg, r⟩

set_option maxRecDepth 100000 in
set_option maxHeartbeats 1600000 in
theorem refInt_pos (n : Int) (w : World) (h0 : 0 ≤ n) (h1 : n ≤ 9223372036854775807) :
    Calls Tryd.prog 30 #[.int .i64 n] w (Fresh w (code n)) := by
  obtain ⟨i0, hi, hz0', hz1', hz2⟩ := info_parts Tryd.info5
  have HM := hid (mag_lt n (by omega) h1)
  have hmg : Hid (n = mag n) := by show n = (mag n : Int); unfold mag; rw [if_neg (by omega)]; omega
  have HR0 : Hid (RelB (mag n) w 0 (mag n) (.slice none 0 0) w) := ⟨by omega, by simp, .inl rfl, World.ownsRow_nil _ _ _ _, Below.refl _ _⟩
  go_enter Tryd.func30, Tryd.ntmps30
  go_wp2
  go_loopw [3, 4] (fun m dv wr => ∃ j q : Nat, m = .int .i64 q ∧ RelB (mag n) w j q dv wr) (fun m _ _ => (intOf m).toNat)
  case atStart => exact ⟨0, mag n, by rw [← hmg.out], HR0.out⟩
  case round =>
    obtain ⟨j, q, rfl, hrel⟩ := hrel
    have hq9 := hrel.le HM.out
    by_cases hq0 : q = 0
    · subst hq0
      have hjw := hrel.done
      have hw8 := wid_le (mag n)
      have HO := hid hrel.2.2.2.1
      have HB := hid hrel.2.2.2.2
      obtain ⟨ao, cap, hdv⟩ := owned_shape HO.out
      subst hdv
      subst hjw
      clear hrel hq9
      obtain ⟨k, hk⟩ : ∃ k, k = wid (mag n) := ⟨_, rfl⟩
      rw [← hk] at HO hw8 ⊢
      have HK := hid hk
      clear hk
      have HV := hid (View.of_owns HO.out)
      go_wp2_with (at_builtin; go_must (refine wpList_append_own _ rfl (.tmp 28) (.tmp 32) 51 rfl wr.heap.size 5 i0 (.int .u8 0) 1 1 Tryd.under28 hi hz0' hz1' hz2 rfl (by decide) _ 0 [] rfl (World.ownsRow_nil _ _ _ _) ⟨wr.heap.size, 0, none⟩ 1 1 [.int .u8 (128 + (k : Int))] rfl rfl ?d1 ?d2 ?d3 ?d4 ?d5 ?_))
      case d1 => exact cell_new _ _ _ _ (by simp)
      case d2 => intro z hz; simp at hz; subst hz; rfl
      case d3 => unfold maxLen; omega
      case d4 => omega
      case d5 => simp
      intro v1 w1 ho1 hg1 _
      have HO1 := hid ho1
      have HB1 := hid (show Below wr.heap.size wr w1 from ((Below.refl _ _).alloc (Nat.le_refl _) _).grown hg1 (by simp) (by simp [Value.ownBlock]))
      clear ho1 hg1
      obtain ⟨wo, rfl⟩ : ∃ wo : World, wo = wr := ⟨_, rfl⟩
      go_wp2_with fail
      go_loopw [6, 7] (fun out i wr => ∃ p : Nat, p ≤ k ∧ i = .int .i64 ((p : Int) - 1) ∧ RelC (mag n) false k p wo out wr) (fun _ i _ => (intOf i + 1).toNat)
      case atStart => exact ⟨k, Nat.le_refl _, rfl, by rw [Nat.sub_self]; exact HO1.out, HB1.out⟩
      case round =>
        obtain ⟨p, hp, rfl, hrelc⟩ := hrel
        have HC := hid hrelc
        clear hrelc
        by_cases hp0 : p = 0
        · subst hp0
          go_wp2
          go_ret
          refine ⟨_, rfl, ?_, further HB.out HC.out.2⟩
          exact RelC.done HC.out (by simp; omega) HK.out HB.out.size
        · obtain ⟨p', rfl⟩ : ∃ p', p = p' + 1 := ⟨p - 1, by omega⟩
          obtain ⟨z, b, off, hao, hz0, hz1, hcz, hzv⟩ := digit_at HV.out (show p' < k by omega)
          subst hao
          have hc8 := below_keep HC.out.2 hcz
          have HZ := hid hzv
          have e1 : ((p' + 1 : Nat) : Int) - 1 = (p' : Int) := by omega
          rw [e1]
          have hpI : (0 : Int) ≤ (p' : Int) := by omega
          clear hzv hcz e1
          go_wp2_with (at_builtin; go_must (refine wpList_append_own _ rfl (.tmp 54) (.tmp 56) 51 rfl wo.heap.size 5 i0 (.int .u8 0) 1 1 Tryd.under28 hi hz0' hz1' hz2 rfl (by decide) _ _ _ rfl (HC.out.1.alloc _) ⟨wr.heap.size, 0, none⟩ 1 1 [.int .u8 z] rfl rfl ?f1 ?f2 ?f3 ?f4 ?f5 ?_))
          case f1 => exact cell_new _ _ _ _ (by simp)
          case f2 => intro z hz; simp at hz; subst hz; rfl
          case f3 => unfold maxLen; omega
          case f4 => omega
          case f5 => have := HC.out.2.size; simp; omega
          intro v' w6 hown' hgrow _
          have HS := hid (RelC.next HC.out (by omega) HZ.out (by simpa [fl, Nat.add_comm] using hown') hz0 hgrow)
          clear hown' hgrow
          go_wp2
          go_roundw
          case rel => exact ⟨p', by omega, by go_num, HS.out⟩
          case measure => first | (simp [intOf]; done) | (simp [intOf]; omega)
    · have hj8 := hrel.lt HM.out hq0
      have HR := hid hrel
      have HO := hid hrel.2.2.2.1
      have HB := hid hrel.2.2.2.2
      clear hrel
      go_wp2_with (at_builtin; go_must (refine wpList_append_own _ rfl (.tmp 16) (.tmp 20) 51 rfl w.heap.size 5 i0 (.int .u8 0) 1 1 Tryd.under28 hi hz0' hz1' hz2 rfl (by decide) _ j _ rfl (HO.out.alloc _) ⟨wr.heap.size, 0, none⟩ 1 1 [.int .u8 ((q : Int) % 256)] rfl rfl ?c1 ?c2 ?c3 ?c4 ?c5 ?_))
      case c1 => exact cell_new _ _ _ _ (by simp)
      case c2 => intro z hz; simp at hz; subst hz; rfl
      case c3 => unfold maxLen; omega
      case c4 => omega
      case c5 => have := HB.out.size; simp; omega
      intro v' w6 hown' hgrow _
      have HS := hid (HR.out.next HM.out hq0 (by simpa using hown') hgrow)
      clear hown' hgrow
      go_wp2
      go_roundw
      case rel => exact ⟨j + 1, q / 256, by go_num, HS.out⟩
      case measure => simp [intOf]; omega

open S
set_option maxHeartbeats 800000 in
theorem refBytes_any (s : ByteArray) (w : World) (hs : s.size ≤ 1000000) :
    Calls Tryd.prog 69 #[.string s] w fun e w' => ∃ v, e = .returned v ∧ w'.ownsRow w.heap.size 5 1 v (encN (tx s)).length (bc (encN (tx s))) ∧ Below w.heap.size w w' := by
  obtain ⟨i0, hi, hz0, hz1, hz2⟩ := info_parts Tryd.info5
  have HI := hid (refInt_pos (s.size : Int) w (by omega) (by omega))
  have hcl := code_le (s.size : Int)
  have hcv := fun W : World => Lib.run_convert_string_bytes (P := Tryd.prog) W 9 51 5 s Tryd.under_str Tryd.under_bs Tryd.under_u8
  go_enter Tryd.func69, Tryd.ntmps69
  go_wp2_with fail
  refine HI.out.mono ?_
  rintro e w1 ⟨v1, rfl, hown, hbel⟩
  have hw := bytesW_below w1 5 s
  have HNw := hid (lie_bytes w1 s).news
  have HO := hid (own_kept hown hw)
  have HB := hid (further hbel hw)
  have hsz := hbel.size
  clear hown hbel hw
  go_wp2_with (at_builtin; go_must (refine wpList_append_own _ rfl (.tmp 5) (.tmp 7) 51 rfl w.heap.size 5 i0 (.int .u8 0) 1 1 Tryd.under28 hi hz0 hz1 hz2 rfl (by decide) _ (code (s.size : Int)).length ((code (s.size : Int)).map (Value.int .u8)) rfl HO.out ⟨w1.heap.size, 0, none⟩ s.size (grownCap w1 s.size 0 5) (bc (tx s)) rfl ?c1 HNw.out ?c2 ?c3 ?c4 ?c5 ?_))
  case c1 => simp [bc, tx_length]
  case c2 => exact bc_one _
  case c3 => unfold maxLen; omega
  case c4 => omega
  case c5 => have := HB.out.size; omega
  intro v2 w2 hown2 hgrow2 _
  have HO2 := hid hown2
  have HB2 := hid (below_owned HB.out HO.out hgrow2)
  clear hown2 hgrow2
  go_wp2
  go_ret
  refine ⟨v2, rfl, ?_, HB2.out⟩
  have h := HO2.out
  rw [code_cells, ← bc_app] at h
  have e : (code (s.size : Int)).map Int.toNat ++ tx s = encN (tx s) := by unfold encN; rw [tx_length]
  rw [e] at h
  rw [encN_length, tx_length]
  exact h
end Go.Proofs.YthadfilandmhiaaDoor

namespace Go.Proofs.YthadfilandmhiaaDoor
open Go.RowKit
open Go.Lib (hid)
open W
theorem View.below {w w' : World} {v : Value} {size n : Nat} {cells : List Value} (h : View w v size n cells) (hb : Below w.heap.size w w') : View w' v size n cells := by
  obtain ⟨hl, ao, cap, hsh, h1, h2, hc⟩ := h
  refine ⟨hl, ao, cap, hsh, h1, h2, fun hne => ?_⟩
  obtain ⟨b, off, he, hcell⟩ := hc hne
  exact ⟨b, off, he, fun i x hi => below_keep hb (hcell i x hi)⟩

theorem Grew.fresh {w w' : World} {xs : List Int} {e : Ending} (h : Grew w w.heap.size (.slice none 0 0) xs e w') : Fresh w xs e w' := by
  obtain ⟨v, he, ho, hg⟩ := h
  exact ⟨v, he, ho, (Below.refl _ _).grown hg (Nat.le_refl _) (by simp [Value.ownBlock])⟩

theorem Int_fresh (n : Int) (w : World) (h1 : n ≤ 9223372036854775807) (h2 : -9223372036854775808 ≤ n) :
    Calls Tryd.prog 26 #[.int .i64 n] w (Fresh w (code n)) :=
  (Int_any w.heap.size n w h1 h2 (Nat.le_refl _)).mono fun _ _ h => h.fresh

set_option maxRecDepth 100000 in
set_option maxHeartbeats 400000 in
theorem Ints_any (v : Value) (zs : List Int) (w : World) (hv : View w v 1 zs.length (zs.map (Value.int .i64))) (hz : ∀ z ∈ zs, -9223372036854775808 ≤ z ∧ z ≤ 9223372036854775807) (hl : zs.length ≤ 1099511627776) :
    Calls Tryd.prog 48 #[v] w (Fresh w (encInts zs)) := by
  have HC := hid (Int_fresh (zs.length : Int) w (by omega) (by omega))
  obtain ⟨_, ao, cap, rfl, hlc, hcm, hcells⟩ := hv
  have HCE := hid hcells
  have HZ := hid hz
  clear hcells hz
  unfold maxLen at hcm
  go_enter Tryd.func48, Tryd.ntmps48
  go_wp2_with fail
  refine HC.out.mono ?_
  rintro e w1 ⟨v1, rfl, hown, hbel⟩
  have HO := hid hown
  have HB := hid hbel
  clear hown hbel
  go_wp2
  go_loopw [3, 11] (fun out i wr => ∃ k : Nat, k ≤ zs.length ∧ i = .int .i64 k ∧ wr.ownsRow w.heap.size 5 1 out (code (zs.length : Int) ++ (zs.take k).flatMap code).length ((code (zs.length : Int) ++ (zs.take k).flatMap code).map (Value.int .u8)) ∧ Below w.heap.size w wr) (fun _ i _ => zs.length - (intOf i).toNat)
  case atStart => exact ⟨0, by omega, rfl, by simpa using HO.out, HB.out⟩
  case round =>
    obtain ⟨k, hk, rfl, hown, hbel⟩ := hrel
    have HO2 := hid hown
    have HB2 := hid hbel
    clear hown hbel
    by_cases hkn : k < zs.length
    · obtain ⟨b, off, rfl, hc⟩ := HCE.out (by omega)
      obtain ⟨z, hzz⟩ : ∃ z, z = zs[k] := ⟨_, rfl⟩
      have hcz : wr.cell? ⟨b, off + k, none⟩ = some (.int .i64 z) := below_keep HB2.out (hc k _ (by rw [List.getElem?_map, List.getElem?_eq_getElem hkn, hzz]; rfl))
      have hzb := HZ.out z (by rw [hzz]; exact List.getElem_mem hkn)
      have hlen := codes_le (zs.take k)
      have hcl := code_le (zs.length : Int)
      have hlt : (zs.take k).length ≤ k := List.length_take_le _ _
      have HN := hid (appendInt_any w.heap.size _ _ z wr hzb.2 hzb.1 HO2.out HB2.out.size (by rw [List.length_append]; omega))
      have HZZ := hid hzz
      clear hzz hc hlen hcl hlt hzb
      go_wp2_with (go_at_call 47; refine HN.out.mono ?_; rintro e w2 ⟨v2, rfl, hown2, hgrow2⟩)
      have HO3 := hid hown2
      have HB3 := hid (below_owned HB2.out HO2.out hgrow2)
      go_roundw
      case rel =>
        refine ⟨k + 1, by omega, by go_num, ?_, HB3.out⟩
        rw [List.take_succ_eq_append_getElem hkn, List.flatMap_append, ← List.append_assoc, ← HZZ.out]
        simpa using HO3.out
      case measure => simp [intOf]; omega
    · obtain rfl : k = zs.length := by omega
      go_wp2
      go_ret
      refine ⟨_, rfl, ?_, HB2.out⟩
      have := HO2.out
      rw [List.take_length] at this
      exact this

/-- What is owned stays owned. -/
theorem owned_kept {w w' : World} {base : Nat} {E : TypeId} {v : Value} {size n : Nat} {xs : List Value} (h : w.ownsRow base E size v n xs) (hb : Below w.heap.size w w') : w'.ownsRow base E size v n xs :=
  h.kept (Below.grownBy hb none) (by cases hv : v.ownBlock <;> simp)

set_option maxRecDepth 100000 in
set_option maxHeartbeats 800000 in
theorem refInt_neg (n : Int) (w : World) (h0 : n < 0) (h1 : -9223372036854775808 ≤ n) :
    Calls Tryd.prog 30 #[.int .i64 n] w (Fresh w (code n)) := by
  obtain ⟨i0, hi, hz0', hz1', hz2⟩ := info_parts Tryd.info5
  have HM := hid (mag_lt n h1 (by omega))
  have hmg : Hid (-1 - n = mag n) := by show -1 - n = (mag n : Int); unfold mag; rw [if_pos h0]; omega
  have HR0 : Hid (RelB (mag n) w 0 (mag n) (.slice none 0 0) w) := ⟨by omega, by simp, .inl rfl, World.ownsRow_nil _ _ _ _, Below.refl _ _⟩
  go_enter Tryd.func30, Tryd.ntmps30
  go_wp2
  go_loopw [3, 4] (fun m dv wr => ∃ j q : Nat, m = .int .i64 q ∧ RelB (mag n) w j q dv wr) (fun m _ _ => (intOf m).toNat)
  case atStart => exact ⟨0, mag n, by rw [← hmg.out], HR0.out⟩
  case round =>
    obtain ⟨j, q, rfl, hrel⟩ := hrel
    have hq9 := hrel.le HM.out
    by_cases hq0 : q = 0
    · subst hq0
      have hjw := hrel.done
      have hw8 := wid_le (mag n)
      have HO := hid hrel.2.2.2.1
      have HB := hid hrel.2.2.2.2
      obtain ⟨ao, cap, hdv⟩ := owned_shape HO.out
      subst hdv
      subst hjw
      clear hrel hq9
      obtain ⟨k, hk⟩ : ∃ k, k = wid (mag n) := ⟨_, rfl⟩
      rw [← hk] at HO hw8 ⊢
      have HK := hid hk
      clear hk
      have HV := hid (View.of_owns HO.out)
      go_wp2_with (at_builtin; go_must (refine wpList_append_own _ rfl (.tmp 34) (.tmp 38) 51 rfl wr.heap.size 5 i0 (.int .u8 0) 1 1 Tryd.under28 hi hz0' hz1' hz2 rfl (by decide) _ 0 [] rfl (World.ownsRow_nil _ _ _ _) ⟨wr.heap.size, 0, none⟩ 1 1 [.int .u8 (127 - (k : Int))] rfl rfl ?d1 ?d2 ?d3 ?d4 ?d5 ?_))
      case d1 => exact cell_new _ _ _ _ (by simp)
      case d2 => intro z hz; simp at hz; subst hz; rfl
      case d3 => unfold maxLen; omega
      case d4 => omega
      case d5 => simp
      intro v1 w1 ho1 hg1 _
      have HO1 := hid ho1
      have HB1 := hid (show Below wr.heap.size wr w1 from ((Below.refl _ _).alloc (Nat.le_refl _) _).grown hg1 (by simp) (by simp [Value.ownBlock]))
      clear ho1 hg1
      obtain ⟨wo, rfl⟩ : ∃ wo : World, wo = wr := ⟨_, rfl⟩
      go_wp2_with fail
      go_loopw [6, 7] (fun out i wr => ∃ p : Nat, p ≤ k ∧ i = .int .i64 ((p : Int) - 1) ∧ RelC (mag n) true k p wo out wr) (fun _ i _ => (intOf i + 1).toNat)
      case atStart => exact ⟨k, Nat.le_refl _, rfl, by rw [Nat.sub_self, List.take_zero, fl_true_first]; exact HO1.out, HB1.out⟩
      case round =>
        obtain ⟨p, hp, rfl, hrelc⟩ := hrel
        have HC := hid hrelc
        clear hrelc
        by_cases hp0 : p = 0
        · subst hp0
          go_wp2
          go_ret
          refine ⟨_, rfl, ?_, further HB.out HC.out.2⟩
          exact RelC.done HC.out (by simp [h0]) HK.out HB.out.size
        · obtain ⟨p', rfl⟩ : ∃ p', p = p' + 1 := ⟨p - 1, by omega⟩
          obtain ⟨z, b, off, hao, hz0, hz1, hcz, hzv⟩ := digit_at HV.out (show p' < k by omega)
          subst hao
          have hc8 := below_keep HC.out.2 hcz
          have HZ := hid hzv
          have e1 : ((p' + 1 : Nat) : Int) - 1 = (p' : Int) := by omega
          rw [e1]
          have hpI : (0 : Int) ≤ (p' : Int) := by omega
          clear hzv hcz e1
          go_wp2_with (at_builtin; go_must (refine wpList_append_own _ rfl (.tmp 54) (.tmp 56) 51 rfl wo.heap.size 5 i0 (.int .u8 0) 1 1 Tryd.under28 hi hz0' hz1' hz2 rfl (by decide) _ _ _ rfl (HC.out.1.alloc _) ⟨wr.heap.size, 0, none⟩ 1 1 [.int .u8 (255 - z)] rfl rfl ?f1 ?f2 ?f3 ?f4 ?f5 ?_))
          case f1 => exact cell_new _ _ _ _ (by simp)
          case f2 => intro z hz; simp at hz; subst hz; rfl
          case f3 => unfold maxLen; omega
          case f4 => omega
          case f5 => have := HC.out.2.size; simp; omega
          intro v' w6 hown' hgrow _
          have HS := hid (RelC.next HC.out (by omega) HZ.out (by simpa [fl, Nat.add_comm] using hown') hz0 hgrow)
          clear hown' hgrow
          go_wp2
          go_roundw
          case rel => exact ⟨p', by omega, by go_num, HS.out⟩
          case measure => first | (simp [intOf]; done) | (simp [intOf]; omega)
    · have hj8 := hrel.lt HM.out hq0
      have HR := hid hrel
      have HO := hid hrel.2.2.2.1
      have HB := hid hrel.2.2.2.2
      clear hrel
      go_wp2_with (at_builtin; go_must (refine wpList_append_own _ rfl (.tmp 16) (.tmp 20) 51 rfl w.heap.size 5 i0 (.int .u8 0) 1 1 Tryd.under28 hi hz0' hz1' hz2 rfl (by decide) _ j _ rfl (HO.out.alloc _) ⟨wr.heap.size, 0, none⟩ 1 1 [.int .u8 ((q : Int) % 256)] rfl rfl ?c1 ?c2 ?c3 ?c4 ?c5 ?_))
      case c1 => exact cell_new _ _ _ _ (by simp)
      case c2 => intro z hz; simp at hz; subst hz; rfl
      case c3 => unfold maxLen; omega
      case c4 => omega
      case c5 => have := HB.out.size; simp; omega
      intro v' w6 hown' hgrow _
      have HS := hid (HR.out.next HM.out hq0 (by simpa using hown') hgrow)
      clear hown' hgrow
      go_wp2
      go_roundw
      case rel => exact ⟨j + 1, q / 256, by go_num, HS.out⟩
      case measure => simp [intOf]; omega

theorem refInt_any (n : Int) (w : World) (h1 : n ≤ 9223372036854775807) (h2 : -9223372036854775808 ≤ n) :
    Calls Tryd.prog 30 #[.int .i64 n] w (Fresh w (code n)) := by
  by_cases h : n < 0
  · exact refInt_neg n w h h2
  · exact refInt_pos n w (by omega) h1

theorem owned_news {w : World} {base : Nat} {E : TypeId} {g n cap : Nat} {xs : List Value} (h : w.ownsRow base E 1 (.slice (some ⟨g, 0, none⟩) n cap) n xs) : ∀ j u, xs[j]? = some u → w.cell? ((⟨g, 0, none⟩ : Addr).add j) = some u := by
  intro j u hj
  have hlt : j < xs.length := (List.getElem?_eq_some_iff.1 hj).1
  rcases h.2 with ⟨h0, _⟩ | ⟨g', cap', cur, hv, _, hg, _, _, _, ht⟩
  · cases h0
  · simp only [Value.slice.injEq, Option.some.injEq, Addr.mk.injEq] at hv
    obtain ⟨⟨rfl, _, _⟩, _, rfl⟩ := hv
    rw [Addr.add_lit, Nat.zero_add, cell_of_row _ _ _ _ _ _ hg]
    have hl := h.1
    rw [← ht, List.getElem?_take] at hj
    split at hj
    · simpa using hj
    · cases hj

set_option maxRecDepth 100000 in
set_option maxHeartbeats 800000 in
theorem refInts_any (v : Value) (zs : List Int) (w : World) (hv : View w v 1 zs.length (zs.map (Value.int .i64))) (hz : ∀ z ∈ zs, -9223372036854775808 ≤ z ∧ z ≤ 9223372036854775807) (hl : zs.length ≤ 1099511627776) :
    Calls Tryd.prog 63 #[v] w (Fresh w (encInts zs)) := by
  obtain ⟨i0, hi, hz0, hz1, hz2⟩ := info_parts Tryd.info5
  have HC := hid (refInt_any (zs.length : Int) w (by omega) (by omega))
  obtain ⟨_, ao, cap, rfl, hlc, hcm, hcells⟩ := hv
  have HCE := hid hcells
  have HZ := hid hz
  clear hcells hz
  unfold maxLen at hcm
  go_enter Tryd.func63, Tryd.ntmps63
  go_wp2_with fail
  refine HC.out.mono ?_
  rintro e w1 ⟨v1, rfl, hown, hbel⟩
  have HO := hid hown
  have HB := hid hbel
  clear hown hbel
  go_wp2
  go_loopw [3, 4] (fun out i wr => ∃ k : Nat, k ≤ zs.length ∧ i = .int .i64 k ∧ wr.ownsRow w.heap.size 5 1 out (code (zs.length : Int) ++ (zs.take k).flatMap code).length ((code (zs.length : Int) ++ (zs.take k).flatMap code).map (Value.int .u8)) ∧ Below w.heap.size w wr) (fun _ i _ => zs.length - (intOf i).toNat)
  case atStart => exact ⟨0, by omega, rfl, by simpa using HO.out, HB.out⟩
  case round =>
    obtain ⟨k, hk, rfl, hown, hbel⟩ := hrel
    have HO2 := hid hown
    have HB2 := hid hbel
    clear hown hbel
    by_cases hkn : k < zs.length
    · obtain ⟨b, off, rfl, hc⟩ := HCE.out (by omega)
      obtain ⟨z, hzz⟩ : ∃ z, z = zs[k] := ⟨_, rfl⟩
      have hcz : wr.cell? ⟨b, off + k, none⟩ = some (.int .i64 z) := below_keep HB2.out (hc k _ (by rw [List.getElem?_map, List.getElem?_eq_getElem hkn, hzz]; rfl))
      have hzb := HZ.out z (by rw [hzz]; exact List.getElem_mem hkn)
      have hlen := codes_le (zs.take k)
      have hcl := code_le (zs.length : Int)
      have hcz2 := code_le z
      have hcp := code_pos z
      have hlt : (zs.take k).length ≤ k := List.length_take_le _ _
      have hbig : (code (zs.length : Int) ++ (zs.take k).flatMap code).length + (code z).length ≤ 20000000000000 := by rw [List.length_append]; omega
      have HN := hid (refInt_any z wr hzb.2 hzb.1)
      have HZZ := hid hzz
      obtain ⟨X, hX⟩ : ∃ X, X = code (zs.length : Int) ++ (zs.take k).flatMap code := ⟨_, rfl⟩
      rw [← hX] at HO2 hbig
      have HX := hid hX
      clear hzz hc hlen hcl hlt hzb hcz2 hX
      go_wp2_with fail
      refine HN.out.mono ?_
      rintro e w2 ⟨v2, rfl, hown2, hbel2⟩
      obtain ⟨g2, c2, rfl, hc21, hc22⟩ := owned_slice hown2 (by omega)
      have HO3 := hid (owned_kept HO2.out hbel2)
      have HB3 := hid (further HB2.out hbel2)
      have HN2 := hid (owned_news hown2)
      clear hown2 hbel2
      go_wp2_with (at_builtin; go_must (refine wpList_append_own _ rfl (.tmp 14) (.tmp 19) 51 rfl w.heap.size 5 i0 (.int .u8 0) 1 1 Tryd.under28 hi hz0 hz1 hz2 rfl (by decide) _ X.length (X.map (Value.int .u8)) rfl HO3.out ⟨g2, 0, none⟩ (code z).length c2 ((code z).map (Value.int .u8)) rfl ?c1 HN2.out ?c2 ?c3 ?c4 ?c5 ?_))
      case c1 => rw [List.length_map]; omega
      case c2 => exact bytes_oneCell _
      case c3 => unfold maxLen; omega
      case c4 => omega
      case c5 => exact HB3.out.size
      intro v3 w3 hown3 hgrow3 _
      have HO4 := hid hown3
      have HB4 := hid (below_owned HB3.out HO3.out hgrow3)
      clear hown3 hgrow3
      go_wp2
      go_roundw
      case rel =>
        refine ⟨k + 1, by omega, by go_num, ?_, HB4.out⟩
        rw [List.take_succ_eq_append_getElem hkn, List.flatMap_append, ← List.append_assoc, ← HX.out, ← HZZ.out]
        simpa using HO4.out
      case measure => simp [intOf]; omega
    · obtain rfl : k = zs.length := by omega
      go_wp2
      go_ret
      refine ⟨_, rfl, ?_, HB2.out⟩
      have := HO2.out
      rw [List.take_length] at this
      exact this

/-- Behind a function that has answered yes, and only read. -/
def Yes (w : World) (e : Ending) (w' : World) : Prop := e = .returned (.bool true) ∧ ∃ n, w' = w.drewN n

set_option maxRecDepth 100000 in
set_option maxHeartbeats 400000 in
theorem Same_yes (va vb : Value) (n : Nat) (zs : List Int) (w : World) (hn : zs.length = n) (ha : View w va 1 n (zs.map (Value.int .u8))) (hb : View w vb 1 n (zs.map (Value.int .u8))) :
    Calls Tryd.prog 61 #[va, vb] w (Yes w) := by
  obtain ⟨_, ao, cap, rfl, hlc, hcm, hca⟩ := ha
  obtain ⟨_, bo, cap', rfl, hlc', hcm', hcb⟩ := hb
  unfold maxLen at hcm hcm'
  have HA := hid hca
  have HB := hid hcb
  have HN := hid hn
  clear hca hcb hn
  go_enter Tryd.func61, Tryd.ntmps61
  go_wp2
  go_loopw [5] (fun i wr => ∃ k m : Nat, k ≤ n ∧ i = .int .i64 k ∧ wr = w.drewN m) (fun i _ => n - (intOf i).toNat)
  case atStart => exact ⟨0, 0, by omega, rfl, rfl⟩
  case round =>
    obtain ⟨k, m, hk, rfl, rfl⟩ := hrel
    by_cases hkn : k < n
    · obtain ⟨b, off, rfl, hc⟩ := HA.out (by omega)
      obtain ⟨b', off', rfl, hc'⟩ := HB.out (by omega)
      obtain ⟨z, hz⟩ : ∃ z, zs[k]? = some z := ⟨_, List.getElem?_eq_getElem (by rw [HN.out]; exact hkn)⟩
      have h1 := hc k (.int .u8 z) (by rw [List.getElem?_map, hz]; rfl)
      have h2 := hc' k (.int .u8 z) (by rw [List.getElem?_map, hz]; rfl)
      have hkI : (k : Int) < n := by omega
      have hkJ : (0 : Int) ≤ k := by omega
      clear hc hc' hz
      go_wp2
      go_quiet (fail)
      go_wp2
      go_roundw
      case rel => exact ⟨k + 1, _, by omega, by go_num, rfl⟩
      case measure => simp [intOf]; omega
    · obtain rfl : k = n := by omega
      go_wp2
      go_ret
      exact ⟨rfl, _, rfl⟩
end Go.Proofs.YthadfilandmhiaaDoor

namespace Go.Proofs.YthadfilandmhiaaDoor
open Go.RowKit
open Dg Zn
namespace Zn
abbrev len (z : Int) : Nat := (dig z.natAbs).length
def ListI (w : World) (v : Value) (zs : List Int) : Prop :=
  (∀ z ∈ zs, -9223372036854775808 ≤ z ∧ z ≤ 9223372036854775807) ∧
  ∃ ao cap, v = .slice ao zs.length cap ∧ zs.length ≤ cap ∧ cap ≤ maxLen ∧ (0 < zs.length → ∃ b off, ao = some ⟨b, off, none⟩ ∧ ∀ i, i < zs.length → w.cell? ⟨b, off + i, none⟩ = some (.int .i64 (zs.getD i 0)))
def Row (k : IntKind) (w : World) (v : Value) (zs : List Int) : Prop :=
  ∃ ao cap, v = .slice ao zs.length cap ∧ zs.length ≤ cap ∧ cap ≤ maxLen ∧ (0 < zs.length → ∃ b off, ao = some ⟨b, off, none⟩ ∧ ∀ i, i < zs.length → w.cell? ⟨b, off + i, none⟩ = some (.int k (zs.getD i 0)))
theorem Row.keep {k : IntKind} {w w' : World} {v : Value} {zs : List Int} (h : Row k w v zs) (hb : Below w.heap.size w w') : Row k w' v zs := by
  obtain ⟨ao, cap, h1, h2, h3, h4⟩ := h
  refine ⟨ao, cap, h1, h2, h3, fun hl => ?_⟩
  obtain ⟨b, off, h5, h6⟩ := h4 hl
  exact ⟨b, off, h5, fun i hi => keepCell hb (h6 i hi)⟩
theorem Row.view {w : World} {v : Value} {zs : List Int} (h : Row .i64 w v zs) : View w v 1 zs.length (zs.map (Value.int .i64)) := by
  obtain ⟨ao, cap, rfl, h1, h2, h3⟩ := h
  refine ⟨by simp, ao, cap, rfl, h1, h2, fun hl => ?_⟩
  obtain ⟨b, off, h4, h5⟩ := h3 hl
  refine ⟨b, off, h4, fun i x hi => ?_⟩
  rw [List.getElem?_map] at hi
  obtain ⟨z, hz, rfl⟩ := Option.map_eq_some_iff.1 hi
  rw [h5 i (List.getElem?_eq_some_iff.1 hz).1, List.getD_eq_getElem?_getD, hz]
  rfl
theorem Row.of_view {k : IntKind} {w : World} {v : Value} {zs : List Int} (h : View w v 1 zs.length (zs.map (Value.int k))) : Row k w v zs := by
  obtain ⟨_, ao, cap, rfl, h1, h2, h3⟩ := h
  refine ⟨ao, cap, rfl, h1, h2, fun hl => ?_⟩
  obtain ⟨b, off, h4, h5⟩ := h3 hl
  refine ⟨b, off, h4, fun i hi => h5 i _ ?_⟩
  rw [List.getElem?_map, List.getElem?_eq_getElem hi, List.getD_eq_getElem?_getD, List.getElem?_eq_getElem hi]
  rfl
theorem Row.of_owns {k : IntKind} {w : World} {base : Nat} {E : TypeId} {v : Value} {zs : List Int} (h : w.ownsRow base E 1 v zs.length (zs.map (Value.int k))) : Row k w v zs := Row.of_view (View.of_owns h)
end Zn
namespace Vc
theorem wrapI {z : Int} (h1 : -9223372036854775808 ≤ z) (h2 : z ≤ 9223372036854775807) : IntKind.i64.wrap z = z := IntWalk.i64_in _ (by omega)
end Vc
end Go.Proofs.YthadfilandmhiaaDoor

namespace Go.Proofs.YthadfilandmhiaaDoor
open Go.RowKit
open Go.Lib (hid)
open Dg Zn
namespace Vc
/-- Any other kind of data. -/
structure Gen where
  is : World → Value → Prop
  shape : Option Nat
  plain : Bool
  ok : ∀ w v, is w v → ∃ cs, Shaped shape v cs
  pl : plain = true → ∀ w v, is w v → ∀ c ∈ v.cells.toList, notInt c = true

inductive Dm where
  | int (z : Int) (k : Nat)
  | nums (m : Nat)
  | cell (x : Int)
  | rt (p q : Int) (k : Nat)
  | ints (zs : List Int)
  | lint (l : List Int) (k : Nat)
  | pint (z : Int) (k : Nat)
  | llint (l : List (List Int)) (k : Nat)
  | plint (l : List Int) (k : Nat)
  | dl (ds : List Nat)
  | full (ds : List Nat)
  | gen (g : Gen)

/-- Numbers, one behind the other. -/
def LintAt (w : World) (v : Value) (l : List Int) (k : Nat) : Prop :=
  ∃ ao cap, v = .slice ao l.length cap ∧ (0 < l.length → ∃ b off, ao = some ⟨b, off, none⟩ ∧ ∀ i, i < l.length → ∃ s, w.cell? ⟨b, off + 2 * i, none⟩ = some (.bool (decide (l.getD i 0 < 0))) ∧ w.cell? ⟨b, off + 2 * i + 1, none⟩ = some s ∧ Nums w s (dig (l.getD i 0).natAbs) ∧ len (l.getD i 0) ≤ k)
def Dm.at : Dm → World → Value → Prop
  | .int z k, w, v => IntAt w v z ∧ len z ≤ k
  | .nums m, w, v => Nums w v (dig m)
  | .cell x, w, v => ∃ a, v = .pointer (some a) ∧ w.cell? a = some (.int .i64 x)
  | .rt p q k, w, v => ∃ s t, v = .agg #[.bool (decide (p < 0)), s, .bool (decide (q < 0)), t] ∧ Nums w s (dig p.natAbs) ∧ Nums w t (dig q.natAbs) ∧ len p ≤ k ∧ len q ≤ k
  | .ints zs, w, v => ListI w v zs
  | .lint l k, w, v => LintAt w v l k
  | .pint z k, w, v => ∃ b off s, v = .pointer (some ⟨b, off, none⟩) ∧ w.cell? ⟨b, off, none⟩ = some (.bool (decide (z < 0))) ∧ w.cell? ⟨b, off + 1, none⟩ = some s ∧ Nums w s (dig z.natAbs) ∧ len z ≤ k
  | .llint l k, w, v => ∃ ao cap, v = .slice ao l.length cap ∧ (0 < l.length → ∃ b off, ao = some ⟨b, off, none⟩ ∧ ∀ i, i < l.length → ∃ s, w.cell? ⟨b, off + i, none⟩ = some s ∧ LintAt w s (l.getD i []) k)
  | .plint l k, w, v => ∃ b off s, v = .pointer (some ⟨b, off, none⟩) ∧ w.cell? ⟨b, off, none⟩ = some s ∧ LintAt w s l k
  | .dl ds, w, v => Nums w v ds
  | .full ds, w, v => Nums w v ds ∧ ∃ ao, v = .slice ao ds.length ds.length
  | .gen g, w, v => g.is w v
def Dm.shape : Dm → Option Nat
  | .int _ _ => some 2
  | .rt _ _ _ => some 4
  | .gen g => g.shape
  | _ => none
def Dm.plain : Dm → Bool
  | .gen g => g.plain
  | _ => true

theorem nums_slice {w : World} {v : Value} {ds : List Nat} (h : Nums w v ds) : ∃ a n c, v = .slice a n c := by
  obtain ⟨a, c, h, _⟩ := h
  exact ⟨a, _, c, h⟩

instance : Dom Dm where
  dat := Dm.at
  shape := Dm.shape
  plain := Dm.plain
  shape_ok := by
    intro x w v h
    cases x with
    | int z k =>
      obtain ⟨⟨s, rfl, hs⟩, _⟩ := h
      obtain ⟨a, n, c, rfl⟩ := nums_slice hs
      exact ⟨[_, _], rfl, rfl, by simp [Value.oneCell']⟩
    | nums m => obtain ⟨a, n, c, rfl⟩ := nums_slice h; exact ⟨_, rfl, rfl⟩
    | cell x => obtain ⟨a, rfl, _⟩ := h; exact ⟨_, rfl, rfl⟩
    | rt p q k =>
      obtain ⟨s, t, rfl, hs, ht, _⟩ := h
      obtain ⟨a, n, c, rfl⟩ := nums_slice hs
      obtain ⟨a', n', c', rfl⟩ := nums_slice ht
      exact ⟨[_, _, _, _], rfl, rfl, by simp [Value.oneCell']⟩
    | ints zs => obtain ⟨_, a, c, rfl, _⟩ := h; exact ⟨_, rfl, rfl⟩
    | lint l k => obtain ⟨a, c, rfl, _⟩ := h; exact ⟨_, rfl, rfl⟩
    | pint z k => obtain ⟨b, off, s, rfl, _⟩ := h; exact ⟨_, rfl, rfl⟩
    | llint l k => obtain ⟨a, c, rfl, _⟩ := h; exact ⟨_, rfl, rfl⟩
    | plint l k => obtain ⟨b, off, s, rfl, _⟩ := h; exact ⟨_, rfl, rfl⟩
    | dl ds => obtain ⟨a, n, c, rfl⟩ := nums_slice h; exact ⟨_, rfl, rfl⟩
    | full ds => obtain ⟨_, a, rfl⟩ := h; exact ⟨_, rfl, rfl⟩
    | gen g => exact g.ok w v h
  W := fun w => KR w ∧ KC w
  W_keep := fun w w' hb h => ⟨h.1.below hb, h.2.below hb⟩
  plain_ok := by
    intro x w v hp h
    cases x with
    | int z k =>
      obtain ⟨⟨s, rfl, hs⟩, _⟩ := h
      obtain ⟨a, n, c, rfl⟩ := nums_slice hs
      simp [Value.cells, notInt]
    | nums m => obtain ⟨a, n, c, rfl⟩ := nums_slice h; simp [Value.cells, notInt]
    | cell x => obtain ⟨a, rfl, _⟩ := h; simp [Value.cells, notInt]
    | rt p q k =>
      obtain ⟨s, t, rfl, hs, ht, _⟩ := h
      obtain ⟨a, n, c, rfl⟩ := nums_slice hs
      obtain ⟨a', n', c', rfl⟩ := nums_slice ht
      simp [Value.cells, notInt]
    | ints zs => obtain ⟨_, a, c, rfl, _⟩ := h; simp [Value.cells, notInt]
    | lint l k => obtain ⟨a, c, rfl, _⟩ := h; simp [Value.cells, notInt]
    | pint z k => obtain ⟨b, off, s, rfl, _⟩ := h; simp [Value.cells, notInt]
    | llint l k => obtain ⟨a, c, rfl, _⟩ := h; simp [Value.cells, notInt]
    | plint l k => obtain ⟨b, off, s, rfl, _⟩ := h; simp [Value.cells, notInt]
    | dl ds => obtain ⟨a, n, c, rfl⟩ := nums_slice h; simp [Value.cells, notInt]
    | full ds => obtain ⟨_, a, rfl⟩ := h; simp [Value.cells, notInt]
    | gen g => exact g.pl hp w v h

/-! Numbers are not met by what changes. -/
variable {P : Program}
/-! Lengths. -/
/-! Package integer. -/
/-! Types. -/
theorem ty_i64 : TyIs Tryd.prog 3 none := TyIs.one (by kernel_rfl) (by kernel_rfl)
theorem ty_ints : TyIs Tryd.prog 25 none := TyIs.one (by kernel_rfl) (by kernel_rfl)
/-! Parts. -/
end Vc
end Go.Proofs.YthadfilandmhiaaDoor

namespace Go.Proofs.YthadfilandmhiaaDoor
open Go.RowKit
open Go.Lib (hid)
open Dg Zn
namespace Vc
section
variable {D : Type} [Dom D] {P : Program} {cx : Cx D} {n : Nat} {σ : St D} {o : Oper} {d : Nat} {x y : Operand} {T T' : TypeId} {k : IntKind} {a b : Int}

theorem ok_bin {op : BinOp} {u v r : Value} (ho : o.op = .binOp op T x y T') (hd : o.dst = some d) (hn : d < n) (hx : opd σ x = .av (.one (.v u))) (hy : opd σ y = .av (.one (.v v)))
    (hr : ∀ w, (do eqGuard op T x y u v; binOp op T u v : Sem Value).run P w = .ok r w) : OpOk P cx n σ o (opk x ++ opk y) [(.s d, .av (.one (.v r)))] := by
  refine ok_read hd hn rfl fun σ' ρ a w h hk => ⟨r, ?_, rfl⟩
  have e1 : a.eval x = u := h.opd ((opd_same fun q hq => hk q (by simp [hq])).trans hx)
  have e2 : a.eval y = v := h.opd ((opd_same fun q hq => hk q (by simp [hq])).trans hy)
  have := hr w
  simp only [execOp, ho, e1, e2, Sem.run_bind, this, Result.andThen_ok, Sem.run_pure]
theorem ok_eql (ho : o.op = .binOp .eql T x y T') (hd : o.dst = some d) (hn : d < n) (hx : opd σ x = .av (.one (.v (.int k a)))) (hy : opd σ y = .av (.one (.v (.int k b)))) : OpOk P cx n σ o (opk x ++ opk y) [(.s d, .av (.one (.v (.bool (a == b)))))] :=
  ok_bin ho hd hn hx hy fun w => by simp [eqGuard, binOp, Op.intCmp]
theorem ok_neq (ho : o.op = .binOp .neq T x y T') (hd : o.dst = some d) (hn : d < n) (hx : opd σ x = .av (.one (.v (.int k a)))) (hy : opd σ y = .av (.one (.v (.int k b)))) : OpOk P cx n σ o (opk x ++ opk y) [(.s d, .av (.one (.v (.bool (a != b)))))] :=
  ok_bin ho hd hn hx hy fun w => by simp [eqGuard, binOp, Op.intCmp]
theorem ok_lss (ho : o.op = .binOp .lss T x y T') (hd : o.dst = some d) (hn : d < n) (hx : opd σ x = .av (.one (.v (.int k a)))) (hy : opd σ y = .av (.one (.v (.int k b)))) : OpOk P cx n σ o (opk x ++ opk y) [(.s d, .av (.one (.v (.bool (decide (a < b))))))] :=
  ok_bin ho hd hn hx hy fun w => by simp [eqGuard, binOp, Op.intCmp]
theorem ok_leq (ho : o.op = .binOp .leq T x y T') (hd : o.dst = some d) (hn : d < n) (hx : opd σ x = .av (.one (.v (.int k a)))) (hy : opd σ y = .av (.one (.v (.int k b)))) : OpOk P cx n σ o (opk x ++ opk y) [(.s d, .av (.one (.v (.bool (decide (a ≤ b))))))] :=
  ok_bin ho hd hn hx hy fun w => by simp [eqGuard, binOp, Op.intCmp]
theorem ok_gtr (ho : o.op = .binOp .gtr T x y T') (hd : o.dst = some d) (hn : d < n) (hx : opd σ x = .av (.one (.v (.int k a)))) (hy : opd σ y = .av (.one (.v (.int k b)))) : OpOk P cx n σ o (opk x ++ opk y) [(.s d, .av (.one (.v (.bool (decide (b < a))))))] :=
  ok_bin ho hd hn hx hy fun w => by simp [eqGuard, binOp, Op.intCmp]
theorem ok_geq (ho : o.op = .binOp .geq T x y T') (hd : o.dst = some d) (hn : d < n) (hx : opd σ x = .av (.one (.v (.int k a)))) (hy : opd σ y = .av (.one (.v (.int k b)))) : OpOk P cx n σ o (opk x ++ opk y) [(.s d, .av (.one (.v (.bool (decide (b ≤ a))))))] :=
  ok_bin ho hd hn hx hy fun w => by simp [eqGuard, binOp, Op.intCmp]
theorem ok_add {c : Int} (hw : k.wrap (a + b) = c) (ho : o.op = .binOp .add T x y T') (hd : o.dst = some d) (hn : d < n) (hx : opd σ x = .av (.one (.v (.int k a)))) (hy : opd σ y = .av (.one (.v (.int k b)))) : OpOk P cx n σ o (opk x ++ opk y) [(.s d, .av (.one (.v (.int k c))))] :=
  ok_bin ho hd hn hx hy fun w => by simp [eqGuard, binOp, Op.intArith, hw]
theorem ok_sub {c : Int} (hw : k.wrap (a - b) = c) (ho : o.op = .binOp .sub T x y T') (hd : o.dst = some d) (hn : d < n) (hx : opd σ x = .av (.one (.v (.int k a)))) (hy : opd σ y = .av (.one (.v (.int k b)))) : OpOk P cx n σ o (opk x ++ opk y) [(.s d, .av (.one (.v (.int k c))))] :=
  ok_bin ho hd hn hx hy fun w => by simp [eqGuard, binOp, Op.intArith, hw]
theorem ok_mul {c : Int} (hw : k.wrap (a * b) = c) (ho : o.op = .binOp .mul T x y T') (hd : o.dst = some d) (hn : d < n) (hx : opd σ x = .av (.one (.v (.int k a)))) (hy : opd σ y = .av (.one (.v (.int k b)))) : OpOk P cx n σ o (opk x ++ opk y) [(.s d, .av (.one (.v (.int k c))))] :=
  ok_bin ho hd hn hx hy fun w => by simp [eqGuard, binOp, Op.intArith, hw]
theorem ok_quo {c : Int} (hb : b ≠ 0) (hw : k.wrap (a.tdiv b) = c) (ho : o.op = .binOp .quo T x y T') (hd : o.dst = some d) (hn : d < n) (hx : opd σ x = .av (.one (.v (.int k a)))) (hy : opd σ y = .av (.one (.v (.int k b)))) : OpOk P cx n σ o (opk x ++ opk y) [(.s d, .av (.one (.v (.int k c))))] :=
  ok_bin ho hd hn hx hy fun w => by simp [eqGuard, binOp, Op.intDiv, hb, hw]
theorem ok_rem (hb : b ≠ 0) (ho : o.op = .binOp .rem T x y T') (hd : o.dst = some d) (hn : d < n) (hx : opd σ x = .av (.one (.v (.int k a)))) (hy : opd σ y = .av (.one (.v (.int k b)))) : OpOk P cx n σ o (opk x ++ opk y) [(.s d, .av (.one (.v (.int k (a.tmod b)))))] :=
  ok_bin ho hd hn hx hy fun w => by simp [eqGuard, binOp, Op.intDiv, hb]
theorem ok_not {p : Bool} (ho : o.op = .unOp .not T x) (hd : o.dst = some d) (hn : d < n) (hx : opd σ x = .av (.one (.v (.bool p)))) : OpOk P cx n σ o (opk x) [(.s d, .av (.one (.v (.bool (!p)))))] := by
  refine ok_read hd hn rfl fun σ' ρ a w h hk => ⟨.bool !p, ?_, rfl⟩
  have e1 : a.eval x = .bool p := h.opd ((opd_same fun q hq => hk q (by simp [hq])).trans hx)
  simp [execOp, ho, e1, Op.unary]
theorem ok_pickT {c : Operand} {av : AV D} (ho : o.op = .pick c x y) (hd : o.dst = some d) (hn : d < n) (hc : opd σ c = .av (.one (.v (.bool true)))) (hx : opd σ x = .av av) (hp : av.ptrs = []) : OpOk P cx n σ o (opk c ++ opk x) [(.s d, .av av)] := by
  refine ok_read hd hn hp fun σ' ρ a w h hk => ⟨a.eval x, ?_, h.opd ((opd_same fun q hq => hk q (by simp [hq])).trans hx)⟩
  have e1 : a.eval c = .bool true := h.opd ((opd_same fun q hq => hk q (by simp [hq])).trans hc)
  simp [execOp, ho, e1, asBool]
theorem ok_pickF {c : Operand} {av : AV D} (ho : o.op = .pick c x y) (hd : o.dst = some d) (hn : d < n) (hc : opd σ c = .av (.one (.v (.bool false)))) (hy : opd σ y = .av av) (hp : av.ptrs = []) : OpOk P cx n σ o (opk c ++ opk y) [(.s d, .av av)] := by
  refine ok_read hd hn hp fun σ' ρ a w h hk => ⟨a.eval y, ?_, h.opd ((opd_same fun q hq => hk q (by simp [hq])).trans hy)⟩
  have e1 : a.eval c = .bool false := h.opd ((opd_same fun q hq => hk q (by simp [hq])).trans hc)
  simp [execOp, ho, e1, asBool]

end

section
variable {cx : Cx Dm} {n : Nat} {σ : St Dm} {o : Oper} {d t : Nat}

end
end Vc
end Go.Proofs.YthadfilandmhiaaDoor

namespace Go.Proofs.YthadfilandmhiaaDoor
open Go.RowKit
open Go.Lib (hid)
open S
open W
theorem ofIn_all (tag : Int) (ss : List ByteArray) (n : Nat) (h : n = ss.length) : ofIn tag (ss.take n) = ofIn tag ss := by rw [h, List.take_length]

set_option maxRecDepth 100000 in
set_option maxHeartbeats 1600000 in
theorem Input_any (tag : Int) (ao : Option Addr) (cap : Nat) (ss : List ByteArray) (w : World) (hp : Parts w ao ss) (hf : FewP ss) :
    Calls Tryd.prog 57 #[.int .i64 tag, .slice ao ss.length cap] w fun e w' => ∃ v, e = .returned v ∧ w'.ownsRow w.heap.size 5 1 v (ofIn tag ss).length (bc (ofIn tag ss)) ∧ Below w.heap.size w w' := by
  obtain ⟨i0, hi, hz0, hz1, hz2⟩ := info_parts Tryd.info_u8
  have HP := hid hp
  have HF := hid hf
  have ht := tagN_cast tag
  have hle := hid (fun (k : Nat) => show (ofIn tag (ss.take k)).length ≤ 24109 by
    have h1 := ofIn_le tag (ss.take k) (fun s hs => Nat.le_trans (hf.2 s (List.mem_of_mem_take hs)) (by decide))
    have h2 : (ss.take k).length ≤ 12 := by have := hf.1; simp; omega
    omega)
  have hl12 := hf.1
  obtain ⟨n, hn⟩ : ∃ n, n = ss.length := ⟨_, rfl⟩
  have HN := hid hn
  rw [← hn] at hl12 ⊢
  clear hn hp hf
  go_enter Tryd.func57, Tryd.ntmps57
  go_wp2_with fail
  go_loopw [5, 6] (fun v i wr => ∃ k : Nat, k ≤ n ∧ i = .int .i64 k ∧ wr.ownsRow w.heap.size 5 1 v (ofIn tag (ss.take k)).length (bc (ofIn tag (ss.take k))) ∧ Below w.heap.size w wr) (fun _ i _ => n - (intOf i).toNat)
  case atStart =>
    refine ⟨0, by omega, rfl, ?_, (Below.refl _ _).alloc (Nat.le_refl _) _⟩
    exact ⟨rfl, .inr ⟨w.heap.size, 1, #[.int .u8 (tagN tag : Nat)], rfl, Nat.le_refl _, heap_alloc_new w _, Nat.le_refl _, by unfold maxLen; omega, rfl, rfl⟩⟩
  case round =>
    obtain ⟨k, hk, rfl, hown, hbel⟩ := hrel
    have hlk := hle.out k
    have HO := hid hown
    have HB := hid hbel
    clear hown hbel
    by_cases hlt : k < n
    · have hks : k < ss.length := by rw [← HN.out]; exact hlt
      obtain ⟨b, off, rfl, hc0⟩ := part_at (HP.out.below HB.out) hks
      have hlt' : (k : Int) < (n : Int) := by omega
      obtain ⟨s, hs⟩ : ∃ s, s = ss[k]'hks := ⟨_, rfl⟩
      rw [← hs] at hc0
      have hss : s.size ≤ 2000 := by rw [hs]; exact HF.out.2 _ (List.getElem_mem _)
      have HJ := hid (show ofIn tag (ss.take (k + 1)) = ofIn tag (ss.take k) ++ encN (tx s) by rw [ofIn_snoc tag ss k hks, hs])
      clear hs hks
      go_wp2_with fail
      refine (refBytes_any s wr (by omega)).mono ?_
      rintro e w1 ⟨v1, rfl, hown1, hb1⟩
      have hel : (encN (tx s)).length ≤ 2009 := by
        have := code_le ((tx s).length : Int)
        rw [encN_length, tx_length] at *
        omega
      have hep : 0 < (encN (tx s)).length := by
        have := code_length ((tx s).length : Int)
        rw [encN_length]; omega
      obtain ⟨el, hel2⟩ : ∃ el, el = (encN (tx s)).length := ⟨_, rfl⟩
      rw [← hel2] at hown1 hel hep
      have HEl := hid hel2
      obtain ⟨g1, c1, rfl, _, _, _, hlie, _⟩ := lie_of_own hown1 hep
      have HNw := hid hlie.news
      have HO1 := hid (own_kept HO.out hb1)
      have HB1 := hid (further HB.out hb1)
      have hsz := HB1.out.size
      obtain ⟨il, hil⟩ : ∃ il, il = (ofIn tag (ss.take k)).length := ⟨_, rfl⟩
      rw [← hil] at HO1 hlk
      have HIl := hid hil
      clear hown1 hb1 hlie hel2 hil HO HB
      go_wp2_with (at_builtin; go_must (refine wpList_append_own _ rfl (.tmp 16) (.tmp 21) 51 rfl w.heap.size 5 i0 (.int .u8 0) 1 1 Tryd.under_bs hi hz0 hz1 hz2 rfl (by decide) _ il (bc (ofIn tag (ss.take k))) rfl HO1.out ⟨g1, 0, none⟩ el c1 (bc (encN (tx s))) rfl ?c1 HNw.out ?c2 ?c3 ?c4 ?c5 ?_))
      case c1 => rw [HEl.out]; simp [bc]
      case c2 => exact bc_one _
      case c3 => unfold maxLen; omega
      case c4 => omega
      case c5 => omega
      intro v2 w2 hown2 hgrow2 _
      have HO2 := hid hown2
      have HB2 := hid (below_owned HB1.out HO1.out hgrow2)
      clear hown2 hgrow2
      go_wp2
      go_roundw
      case rel =>
        refine ⟨k + 1, by omega, by go_num, ?_, HB2.out⟩
        have h := HO2.out
        rw [← bc_app, ← HJ.out] at h
        have e : (ofIn tag (ss.take (k + 1))).length = il + el := by rw [HJ.out, List.length_append, HIl.out, HEl.out]
        rw [e]
        exact h
      case measure => simp [intOf]; omega
    · obtain rfl : k = n := by omega
      have hlt' : ¬ (k : Int) < (k : Int) := by omega
      go_wp2_with fail
      go_ret
      refine ⟨_, rfl, ?_, HB.out⟩
      have h := HO.out
      rw [ofIn_all tag ss k HN.out] at h
      exact h
end Go.Proofs.YthadfilandmhiaaDoor

namespace Go.Proofs.YthadfilandmhiaaDoor
open Go.RowKit
open Go.Lib (hid)
open S
/-- While the digest's bytes are copied. -/
def ShRow (w : World) (gh go : Nat) (M : List Nat) (i : Nat) (wr : World) : Prop :=
  Below w.heap.size w wr ∧ Res16 w wr ∧ wr.heap[gh]? = some (.cells (bytesV M) 84 (0, 0)) ∧ wr.rowIs go 23 16 (fun p => if p < i then .int .u8 (M.getD p 0 : Nat) else .int .u8 0)

theorem take16 {M : List Nat} (hM : M.length = 32) {c : Array Value} (h2 : c.size = 16) (h3 : ∀ i, i < 16 → c[i]? = some (if i < 16 then .int .u8 (M.getD i 0 : Nat) else .int .u8 0)) : c = bytesV (M.take 16) := by
  have hl : (M.take 16).length = 16 := by simp; omega
  refine bytes_of (h2.trans hl.symm) fun i hi => ?_
  rw [hl] at hi
  rw [h3 i hi, if_pos hi]
  simp [List.getD_eq_getElem?_getD, hi]

set_option maxRecDepth 100000 in
set_option maxHeartbeats 1600000 in
theorem Short_any (g c : Nat) (M : List Nat) (w : World) (hM : M.length ≤ 1000000) (hB : Bn M) (hL : Lie w g 0 M) (hC : KC w) :
    Calls Tryd.prog 56 #[.slice (some ⟨g, 0, none⟩) M.length c] w fun e w' => e = .returned (.agg (bytesV ((sha M).take 16))) ∧ Below w.heap.size w w' := by
  have HS := hid fun W hW => refSum_any g 0 c M W hM hB (hL.below hW) (hC.below hW)
  obtain ⟨S1, hS1⟩ : ∃ S1, S1 = sha M := ⟨_, rfl⟩
  have HSl := hid (show S1.length = 32 by rw [hS1]; exact sha_length _)
  have HSb := hid (show Bn S1 by rw [hS1]; exact sha_bn _)
  obtain ⟨ml, hml⟩ : ∃ ml, ml = M.length := ⟨_, rfl⟩
  rw [← hS1, ← hml] at HS
  rw [← hS1, ← hml]
  clear hS1 hM hB hL hC hml
  obtain ⟨L, hLL⟩ : ∃ L, L = bytesV S1 := ⟨_, rfl⟩
  have HL := hid hLL
  have HL32 := hid (show L.size = 32 by rw [hLL, bytesV_size]; exact HSl.out)
  rw [← hLL] at HS
  clear hLL
  go_enter Tryd.func56, Tryd.ntmps56
  go_wp2_with fail
  have hW0 : Below w.heap.size w (w.alloc (.cells (Array.replicate 16 (.int .u8 0)) 23)) := (Below.refl _ _).alloc (Nat.le_refl _) _
  have hR0 : Res16 w (w.alloc (.cells (Array.replicate 16 (.int .u8 0)) 23)) := ⟨Array.replicate 16 (.int .u8 0), heap_alloc_new w _, Array.size_replicate⟩
  refine (HS.out _ hW0).mono ?_
  rintro e w3 ⟨rfl, hb3⟩
  have HB3 := hid (further hW0 hb3)
  have HR3 := hid (hR0.keep hb3)
  clear hb3 hW0 hR0 HS
  go_wp2_with (with_reducible refine wpList_store_at rfl 84 (.tmp 3) (.tmp 7) rfl w3.heap.size 0 L rfl rfl _ 84 (heap_alloc_new w3 _) ?s1 ?s2 ?s3 ?_)
  case s1 => rw [HL32.out]; exact Tryd.size_h32
  case s2 => rw [HL32.out]; exact Nat.le_refl _
  case s3 => rw [HL.out]; exact bytesV_one _
  intro w4 F1 F2 F3 F4
  have hbw := below_same ((Below.refl w3.heap.size w3).alloc (Nat.le_refl _) (.cells (Array.replicate 32 (.int .u8 0)) 84)) (Nat.le_refl _) F2.out (F3.out.trans (by simp)) F4.out
  have HG4 := hid (show w4.heap[w3.heap.size]? = some (.cells (bytesV S1) 84 (0, 0)) by
    rw [F1.out, splice_all64 (by show 32 = L.toList.length; rw [Array.length_toList, HL32.out]), ← HL.out])
  have HB4 := hid (further HB3.out hbw)
  have HR4 := hid (HR3.out.keep hbw)
  have hgh := lt_of_heap HG4.out
  have hw3 := HB3.out.size
  have hw33 : w.heap.size < w3.heap.size := by obtain ⟨Z, z1, _⟩ := HR3.out; exact lt_of_heap z1
  clear F1 F2 F3 F4 hbw HB3 HR3
  go_wp2_with fail
  go_loopw [5] (fun i wr => ∃ k : Nat, k ≤ 16 ∧ i = .int .i64 k ∧ ShRow w w3.heap.size w4.heap.size S1 k wr) (fun i _ => 16 - (intOf i).toNat)
  case atStart =>
    refine ⟨0, by omega, rfl, HB4.out.alloc HB4.out.size _, ?_, ?_, ?_⟩
    · exact HR4.out.keep ((Below.refl _ _).alloc (Nat.le_refl _) _)
    · exact stays ((Below.refl _ _).alloc (Nat.le_refl _) _) HG4.out
    · have hr := World.rowIs_alloc w4 (Array.replicate 16 (.int .u8 0)) 23 (fun _ => .int .u8 0) (lits_at _ rfl)
      rw [Array.size_replicate] at hr
      exact hr.congr fun p _ => by rw [if_neg (by omega)]
  case round =>
    obtain ⟨k, hk, rfl, hb, hr16, hg, hr⟩ := hrel
    by_cases hlt : k < 16
    · have hc := hr.cell (i := k) (by omega)
      have hf := hr.frozen k
      rw [if_neg (by omega)] at hc
      obtain ⟨x, hx⟩ : ∃ x, x = S1.getD k 0 := ⟨_, rfl⟩
      have hcs : wr.cell? ⟨w3.heap.size, k, none⟩ = some (.int .u8 (x : Int)) := by
        rw [cell_of_row _ _ _ _ _ _ hg, bytesV_at _ _ (by rw [HSl.out]; omega), ← hx]
      have HX := hid hx
      have HB := hid hb
      have HR := hid hr16
      have HG := hid hg
      have HRr := hid hr
      clear hx hb hr16 hg hr
      go_wp2
      go_roundw
      case rel =>
        refine ⟨k + 1, by omega, by go_num, HB.out.setCell (by show _ ≤ w4.heap.size; exact HB4.out.size) _, ?_, ?_, ?_⟩
        · obtain ⟨Z2, z1, z2⟩ := HR.out
          exact ⟨Z2, (heap_setCell_other _ _ _ _ (by show w.heap.size ≠ w4.heap.size; omega)).trans z1, z2⟩
        · exact (heap_setCell_other _ _ _ _ (by show w3.heap.size ≠ w4.heap.size; omega)).trans HG.out
        · refine (HRr.out.set k _).congr fun p hp => ?_
          by_cases h : p = k
          · rw [if_pos h, if_pos (by omega), h, HX.out]
          · rw [if_neg h]
            by_cases h2 : p < k
            · rw [if_pos h2, if_pos (by omega)]
            · rw [if_neg h2, if_neg (by omega)]
      case measure => simp [intOf]; omega
    · obtain rfl : k = 16 := by omega
      obtain ⟨Z1, z1, z2⟩ := hr16
      obtain ⟨c1, e1, e2, e3⟩ := hr
      have E2 := hid e2
      have Z2 := hid z2
      have E3 := hid (take16 HSl.out e2 e3)
      have HB := hid hb
      clear e2 e3 z2 hb hg
      go_wp2_with (first | (with_reducible refine wpList_load_row rfl 23 (.tmp 4) rfl w4.heap.size rfl 23 c1 (0, 0) _ e1 Tryd.under_d16 rfl (by rw [E2.out]; exact Tryd.size_d16) ?_) | (with_reducible refine wpList_store_row rfl 23 (.tmp 2) (.tmp 18) rfl w.heap.size c1 rfl rfl 23 Z1 z1 (by rw [E2.out]; exact Tryd.size_d16) (by rw [E2.out, Z2.out]) (by rw [E3.out]; exact bytesV_one _) ?_))
      refine bodyPost_ret (results_cell_row rfl _ _ w.heap.size 23 c1 (0, 0) _ rfl (setRow_heap _ _ _ _ _ _ z1) Tryd.under_d16 rfl (by rw [E2.out]; exact Tryd.size_d16)) rfl ?_
      exact ⟨by rw [E3.out], below_setRow HB.out (by omega) _⟩

set_option maxRecDepth 100000 in
set_option maxHeartbeats 800000 in
theorem refOf_any (tag : Int) (ao : Option Addr) (cap : Nat) (ss : List ByteArray) (w : World) (hp : Parts w ao ss) (hf : FewP ss) (hC : KC w) :
    Calls Tryd.prog 35 #[.int .i64 tag, .slice ao ss.length cap] w fun e w' => e = .returned (.agg (bytesV (ofN tag ss))) ∧ Below w.heap.size w w' := by
  have HI := hid fun W hW => Input_any tag ao cap ss W (hp.below hW) hf
  have HC := hid hC
  have hle : (ofIn tag ss).length ≤ 24109 := by
    have h1 := ofIn_le tag ss (fun s hs => Nat.le_trans (hf.2 s hs) (by decide))
    have h2 := hf.1
    omega
  have hpos : 0 < (ofIn tag ss).length := by simp [ofIn]
  obtain ⟨n, hn⟩ : ∃ n, n = ss.length := ⟨_, rfl⟩
  rw [← hn] at HI ⊢
  obtain ⟨M, hM⟩ : ∃ M, M = ofIn tag ss := ⟨_, rfl⟩
  have HMb := hid (show Bn M by rw [hM]; exact ofIn_bn tag ss)
  have HO := hid (show (sha M).take 16 = ofN tag ss by rw [hM]; rfl)
  rw [← hM] at HI hle hpos
  clear hM hn hp hf hC
  go_enter Tryd.func35, Tryd.ntmps35
  go_wp2_with fail
  have hW0 : Below w.heap.size w (w.alloc (.cells (Array.replicate 16 (.int .u8 0)) 23)) := (Below.refl _ _).alloc (Nat.le_refl _) _
  have hR0 : Res16 w (w.alloc (.cells (Array.replicate 16 (.int .u8 0)) 23)) := ⟨Array.replicate 16 (.int .u8 0), heap_alloc_new w _, Array.size_replicate⟩
  refine (HI.out _ hW0).mono ?_
  rintro e w3 ⟨v3, rfl, hown, hb3⟩
  have HB3 := hid (further hW0 hb3)
  have HR3 := hid (hR0.keep hb3)
  obtain ⟨g, c, rfl, _, _, _, hlie, _⟩ := lie_of_own hown hpos
  have HLi := hid hlie
  clear hb3 hW0 hR0 HI hown hlie
  go_wp2_with fail
  refine (Short_any g c M w3 (by omega) HMb.out HLi.out (HC.out.below HB3.out)).mono ?_
  rintro e w4 ⟨rfl, hb4⟩
  have HB4 := hid (further HB3.out hb4)
  obtain ⟨Z1, z1, z2⟩ := HR3.out.keep hb4
  have Z2 := hid z2
  rw [HO.out]
  obtain ⟨D, hD⟩ : ∃ D, D = bytesV (ofN tag ss) := ⟨_, rfl⟩
  have HD := hid hD
  have HD16 := hid (show D.size = 16 by rw [hD, bytesV_size, ofN, List.length_take, sha_length]; rfl)
  rw [← hD]
  clear hb4 z2 hD
  go_wp2_with (with_reducible refine wpList_store_row rfl 23 (.tmp 4) (.tmp 8) rfl w.heap.size D rfl rfl 23 Z1 z1 (by rw [HD16.out]; exact Tryd.size_d16) (by rw [HD16.out, Z2.out]) (by rw [HD.out]; exact bytesV_one _) ?_)
  refine bodyPost_ret (results_cell_row rfl _ _ w.heap.size 23 D (0, 0) _ rfl (setRow_heap _ _ _ _ _ _ z1) Tryd.under_d16 rfl (by rw [HD16.out]; exact Tryd.size_d16)) rfl ?_
  exact ⟨by rw [HD.out], below_setRow HB4.out (by omega) _⟩
end Go.Proofs.YthadfilandmhiaaDoor
