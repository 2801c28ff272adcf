/-
  Contracts of math/bits.Len64; of gantry/integer: rootAbove, squareRoot, Root, for short numbers.
  Regions that draw their order and store an integer before they end; gantry/integer: Root.
-/
import Derived.Test.YtpgiebimhnhbiaaGreatDoorJI26
import Derived.Lib.Strings
import Derived.Lib.Slices
import Derived.Lib.Small
import Derived.Lib.Walk
import Derived.Lib.BitFns
set_option linter.unusedVariables false
set_option linter.unusedSimpArgs false
set_option linter.unusedSectionVars false
namespace Go.Proofs.YtpgiebimhnhbiaaGreatDoor
open Go.RowKit
open Go.Lib (hid)
open Dg
namespace Zn
def RetLen (x : Nat) (w : World) (e : Ending) (w' : World) : Prop := ∃ L : Nat, e = .returned (.int .i64 (L : Int)) ∧ L ≤ 64 ∧ x < 2 ^ L ∧ w = w'
theorem lt_len8 : ∀ n : Fin 256, n.val < 2 ^ Lib.bitLen n.val := by decide +kernel
theorem lt_len8' (b : Nat) (h : b < 256) : b < 2 ^ Lib.bitLen b := lt_len8 ⟨b, h⟩
theorem lt_shift {x b s k l : Nat} (h : b < 2 ^ l) (hs : s = 2 ^ k) (hb : b = x / s) : x < 2 ^ (k + l) := by
 subst hb
 subst hs
 rw [Nat.pow_add, Nat.mul_comm]
 exact (Nat.div_lt_iff_lt_mul (Nat.pow_pos (by decide))).1 h

theorem len_fin {x b K : Int} {w : World} (k s : Nat) (h0 : 0 ≤ x) (hb0 : 0 ≤ b) (hb : b ≤ 255) (hK : K = (k : Int)) (hs : s = 2 ^ k) (hbx : b = x / (s : Int)) (hk : k ≤ 56) :
  RetLen x.toNat w (.returned (.int .i64 (wrap64 (K + wrap64 (Lib.len8 b))))) w := by
 have hl := Lib.bitLen_le8' b hb0 hb
 have hlt := lt_len8' b.toNat (by omega)
 rw [Lib.len8_of b hb0 hb]
 refine ⟨k + Lib.bitLen b.toNat, ret_int ?_, by omega, ?_, rfl⟩
 ·unfold wrap64; omega
 ·refine lt_shift hlt hs ?_
  obtain ⟨n, rfl⟩ := Int.eq_ofNat_of_zero_le h0
  subst hbx
  rw [Int.toNat_natCast, ← Int.natCast_ediv, Int.toNat_natCast]

set_option maxHeartbeats 4000000 in
set_option maxRecDepth 100000 in
theorem Len64_any (x : Int) (w : World) (h0 : 0 ≤ x) (h1 : x ≤ 18446744073709551615) :
  Calls Tryz.prog 179 #[.int .u64 x] w (RetLen x.toNat w) := by
 rcases (show x < 256 ∨ (256 ≤ x ∧ x < 65536) ∨ (65536 ≤ x ∧ x < 16777216) ∨ (16777216 ≤ x ∧ x < 4294967296) ∨ (4294967296 ≤ x ∧ x < 1099511627776) ∨ (1099511627776 ≤ x ∧ x < 281474976710656) ∨ (281474976710656 ≤ x ∧ x < 72057594037927936) ∨ 72057594037927936 ≤ x by omega) with h | ⟨g, h⟩ | ⟨g, h⟩ | ⟨g, h⟩ | ⟨g, h⟩ | ⟨g, h⟩ | ⟨g, h⟩ | g
 ·have hb : x ≤ 255 := by omega
  have hb0 : 0 ≤ x := by omega
  go_enter Tryz.func179, Tryz.ntmps179
  go_wp2
  go_ret
  have hf := len_fin (w := w) 0 1 h0 hb0 hb rfl rfl (by omega) (by decide)
  rw [show ((0 : Nat) : Int) = 0 from rfl, Int.zero_add] at hf
  exact hf
 ·have hb : x / 256 ≤ 255 := by omega
  have hb0 : 0 ≤ x / 256 := by omega
  go_enter Tryz.func179, Tryz.ntmps179
  go_wp2
  go_ret
  exact len_fin 8 256 h0 hb0 hb rfl (by decide) (by omega) (by decide)
 ·have hb : x / 65536 ≤ 255 := by omega
  have hb0 : 0 ≤ x / 65536 := by omega
  go_enter Tryz.func179, Tryz.ntmps179
  go_wp2
  go_ret
  exact len_fin 16 65536 h0 hb0 hb rfl (by decide) (by omega) (by decide)
 ·have hb : x / 65536 / 256 ≤ 255 := by omega
  have hb0 : 0 ≤ x / 65536 / 256 := by omega
  go_enter Tryz.func179, Tryz.ntmps179
  go_wp2
  go_ret
  exact len_fin 24 16777216 h0 hb0 hb rfl (by decide) (by omega) (by decide)
 ·have hb : x / 4294967296 ≤ 255 := by omega
  have hb0 : 0 ≤ x / 4294967296 := by omega
  go_enter Tryz.func179, Tryz.ntmps179
  go_wp2
  go_ret
  exact len_fin 32 4294967296 h0 hb0 hb rfl (by decide) (by omega) (by decide)
 ·have hb : x / 4294967296 / 256 ≤ 255 := by omega
  have hb0 : 0 ≤ x / 4294967296 / 256 := by omega
  go_enter Tryz.func179, Tryz.ntmps179
  go_wp2
  go_ret
  exact len_fin 40 1099511627776 h0 hb0 hb rfl (by decide) (by omega) (by decide)
 ·have hb : x / 4294967296 / 65536 ≤ 255 := by omega
  have hb0 : 0 ≤ x / 4294967296 / 65536 := by omega
  go_enter Tryz.func179, Tryz.ntmps179
  go_wp2
  go_ret
  exact len_fin 48 281474976710656 h0 hb0 hb rfl (by decide) (by omega) (by decide)
 ·have hb : x / 4294967296 / 65536 / 256 ≤ 255 := by omega
  have hb0 : 0 ≤ x / 4294967296 / 65536 / 256 := by omega
  go_enter Tryz.func179, Tryz.ntmps179
  go_wp2
  go_ret
  exact len_fin 56 72057594037927936 h0 hb0 hb rfl (by decide) (by omega) (by decide)

def RetRoot (w : World) (m : Nat) (e : Ending) (w' : World) : Prop := ∃ v r, e = .returned v ∧ Nums w' v (dig r) ∧ m < (r + 1) * (r + 1) ∧ (dig r).length ≤ (dig m).length + 3 ∧ Below w.heap.size w w'

theorem two_pow {m L : Nat} (h : m < 2 ^ L) : m < (2 ^ ((L + 1) / 2) + 1) * (2 ^ ((L + 1) / 2) + 1) := by
 have h1 : 2 ^ L ≤ 2 ^ ((L + 1) / 2) * 2 ^ ((L + 1) / 2) := by
  rw [← Nat.pow_add]
  exact Nat.pow_le_pow_right (by decide) (by omega)
 have h2 := Nat.mul_le_mul (Nat.le_succ (2 ^ ((L + 1) / 2))) (Nat.le_succ (2 ^ ((L + 1) / 2)))
 exact Nat.lt_of_lt_of_le h (Nat.le_trans h1 h2)

set_option maxRecDepth 100000 in
set_option maxHeartbeats 4000000 in
theorem rootAbove_two (va : Value) (m : Nat) (w : World) (ha : Nums w va (dig m)) (h2 : (dig m).length ≤ 2) :
  Calls Tryz.prog 164 #[va] w (RetRoot w m) := by
 have HA := hid ha
 have hm := lt_of_two h2
 obtain ⟨ao, ac, rfl, a1, a2, -⟩ := ha
 unfold maxLen at a2
 have HV1 := hid (value_any _ (dig m) w HA.out (dig_Dig _) (by rw [val_dig]; omega))
 rw [val_dig] at HV1
 have HL := hid (Len64_any (m : Int) w (by omega) (by omega))
 clear hm
 go_enter Tryz.func164, Tryz.ntmps164
 go_wp2_with fail
 refine HV1.out.mono ?_
 rintro e w' ⟨rfl, rfl⟩
 go_wp2_with fail
 refine HL.out.mono ?_
 rintro e w' ⟨L, rfl, hL, hlt, rfl⟩
 rw [Int.toNat_natCast] at hlt
 have HLT := hid (two_pow hlt)
 clear hlt
 obtain ⟨H, hH⟩ : ∃ H, H = (L + 1) / 2 := ⟨_, rfl⟩
 have eH : ((L : Int) + 1) / 2 = (H : Int) := by omega
 have hH32 : H ≤ 32 := by omega
 rw [← hH] at HLT
 have hp : 2 ^ H ≤ 4294967296 := Nat.pow_le_pow_right (n := 2) (by decide) hH32
 have HSP := hid (fun w1 => split_any (2 ^ H) w1 (by omega))
 have HPP := hid hp
 clear hH hp
 go_wp2_with fail
 rw [show IntKind.u64.wrap ((2 : Int) ^ H) = ((2 ^ H : Nat) : Int) by
  have := HPP.out
  rw [show ((2 : Int) ^ H) = ((2 ^ H : Nat) : Int) by rw [Int.natCast_pow]; rfl]
  generalize 2 ^ H = q at *
  exact IntWalk.u64_in _ (by omega)]
 refine (HSP.out _).mono ?_
 rintro e w1 ⟨v1, rfl, hn1, hb1⟩
 have HN1 := hid hn1
 have HB1 := hid hb1
 clear hn1 hb1
 go_wp2
 go_ret
 refine ⟨v1, 2 ^ H, rfl, HN1.out, HLT.out, ?_, HB1.out⟩
 have := HPP.out
 have h3 : (dig (2 ^ H)).length ≤ 3 := dig_length_le.2 (Nat.lt_of_le_of_lt this (by decide +kernel))
 omega

def RetSqrt (w : World) (m : Nat) (e : Ending) (w' : World) : Prop := ∃ v s, e = .returned v ∧ Nums w' v (dig s) ∧ s * s ≤ m ∧ m < (s + 1) * (s + 1) ∧ Below w.heap.size w w'

theorem newton_up {m r : Nat} (hr : 0 < r) : m < ((r + m / r) / 2 + 1) * ((r + m / r) / 2 + 1) := by
 have h1 : m < r * (m / r + 1) := by
  have := Nat.div_add_mod m r
  have := Nat.mod_lt m hr
  rw [Nat.mul_add, Nat.mul_one]
  omega
 generalize m / r = q at *
 obtain ⟨s, hs⟩ : ∃ s, s = (r + q) / 2 := ⟨_, rfl⟩
 rw [← hs]
 have h2 : r + (q + 1) ≤ 2 * (s + 1) := by omega
 have h3 : 4 * (r * (q + 1)) ≤ (r + (q + 1)) * (r + (q + 1)) := by
  rcases Nat.le_total r (q + 1) with h | h
  ·obtain ⟨t, ht⟩ := Nat.exists_eq_add_of_le h
   rw [ht]
   have e : (r + (r + t)) * (r + (r + t)) = 4 * (r * (r + t)) + t * t := by
    simp only [Nat.mul_add, Nat.add_mul]
    rw [Nat.mul_comm t r]
    omega
   omega
  ·obtain ⟨t, ht⟩ := Nat.exists_eq_add_of_le h
   rw [ht]
   generalize q + 1 = u at *
   have e : (u + t + u) * (u + t + u) = 4 * ((u + t) * u) + t * t := by
    simp only [Nat.mul_add, Nat.add_mul]
    rw [Nat.mul_comm t u]
    omega
   omega
 have h4 := Nat.mul_le_mul h2 h2
 have e4 : 2 * (s + 1) * (2 * (s + 1)) = 4 * ((s + 1) * (s + 1)) := by
  rw [Nat.mul_mul_mul_comm]
 omega
theorem newton_end {m r : Nat} (h : r ≤ (r + m / r) / 2) : r * r ≤ m := by
 have h1 : r ≤ m / r := by omega
 exact Nat.le_trans (Nat.mul_le_mul_left r h1) (Nat.mul_div_le m r)

set_option maxRecDepth 100000 in
set_option maxHeartbeats 4000000 in
theorem squareRoot_of (va : Value) (m : Nat) (w : World) (ha : Nums w va (dig m)) (hl : (dig m).length ≤ 1099511627000)
  (habove : ∀ w, Nums w va (dig m) → Calls Tryz.prog 164 #[va] w (RetRoot w m))
  (hdiv : ∀ w vb r, 0 < r → (dig r).length ≤ (dig m).length + 3 → Nums w va (dig m) → Nums w vb (dig r) → Calls Tryz.prog 135 #[va, vb] w (RetTwo w (m / r) (m % r))) :
  Calls Tryz.prog 140 #[va] w (RetSqrt w m) := by
 have HA := hid ha
 have HDV := hid hdiv
 have HAB := hid (habove w ha)
 obtain ⟨ao, ac, rfl, a1, a2, -⟩ := ha
 unfold maxLen at a2
 clear hdiv habove
 go_enter Tryz.func140, Tryz.ntmps140
 go_wp2_with fail
 refine HAB.out.mono ?_
 rintro e w1 ⟨v1, r0, rfl, hn1, hr1, hlen1, hb1⟩
 have HN1 := hid hn1
 have HB1 := hid hb1
 have HR1 := hid hr1
 have HL1 := hid hlen1
 clear hn1 hb1 hr1 hlen1
 go_wp2
 go_loopg [3] r0 (fun r v wr => Nums wr v (dig r) ∧ m < (r + 1) * (r + 1) ∧ (dig r).length ≤ (dig m).length + 3 ∧ Below w.heap.size w wr)
 case atStart => exact ⟨HN1.out, HR1.out, HL1.out, HB1.out⟩
 case round =>
  obtain ⟨hn, hr, hlen, hbel⟩ := hrel
  have HN := hid hn
  have HR := hid hr
  have HLN := hid hlen
  have HBL := hid hbel
  obtain ⟨ro, rc, rfl, r1, r2, -⟩ := hn
  unfold maxLen at r2
  have hlr : (dig gk).length ≤ 1099511627100 := by omega
  clear hr hlen hbel
  rcases Nat.eq_zero_or_pos gk with h0 | h0
  ·subst h0
   have hm0 : m = 0 := by have := HR.out; omega
   have HM0 := hid hm0
   rw [dig_zero] at r1 ⊢
   clear hm0
   go_wp2
   go_ret
   exact ⟨_, 0, rfl, HN.out, by omega, by rw [HM0.out]; decide, HBL.out⟩
  ·have hpos : 0 < (dig gk).length := by
    rcases Nat.eq_zero_or_pos (dig gk).length with h | h
    ·have := dig_eq_nil.1 (List.eq_nil_of_length_eq_zero h); omega
    ·exact h
   have hql : (dig (m / gk)).length ≤ 1099511627000 := Nat.le_trans (dig_length_mono (Nat.div_le_self _ _)) hl
   have hval : ((gk + m / gk : Nat) : Int) = 1 * (val (dig gk) : Int) + 1 * (val (dig (m / gk)) : Int) := by rw [val_dig, val_dig]; omega
   have hlt : gk + m / gk < 1000000000 ^ (max (dig gk).length (dig (m / gk)).length + 1) := dig_length_le.1 (length_add _ _)
   have hsl : (dig (gk + m / gk)).length ≤ 1099511627776 := Nat.le_trans (length_add _ _) (by omega)
   have HC := hid (fun w1 vq h1 h2 => combine_any 1 1 (.slice ro (dig gk).length rc) vq (dig gk) (dig (m / gk)) (gk + m / gk) w1 h1 h2 (dig_Dig _) (dig_Dig _) (by decide) (by decide) (by decide) (by decide) hval hlt (by omega) (by omega))
   have HSH := hid (fun w1 vs h1 => divideShort_any vs (dig (gk + m / gk)) 2 w1 h1 (dig_Dig _) (by decide) (by decide) hsl)
   rw [val_dig] at HSH
   have HUP := hid (newton_up (m := m) h0)
   have HEND := hid (newton_end (m := m) (r := gk))
   clear hval hlt hsl hql
   obtain ⟨S, hS⟩ : ∃ S, S = gk + m / gk := ⟨_, rfl⟩
   rw [← hS] at HC HSH HUP HEND
   clear hS
   go_wp2_with fail
   refine (HDV.out _ _ _ h0 HLN.out (HA.out.keep HBL.out) HN.out).mono ?_
   rintro e w2 ⟨vq, vr, rfl, hq, -, hb2⟩
   have HQ := hid hq
   have HB2 := hid hb2
   clear hq hb2
   go_wp2_with fail
   refine (HC.out _ _ (HN.out.keep HB2.out) HQ.out).mono ?_
   rintro e w3 ⟨vs, rfl, hs, hb3⟩
   have HS := hid hs
   have HB3 := hid (Pu.further HB2.out hb3)
   clear hs hb3
   go_wp2_with fail
   refine (HSH.out _ _ HS.out).mono ?_
   rintro e w4 ⟨vn, vr2, rfl, hn4, -, hb4⟩
   have HN4 := hid hn4
   have HB4 := hid (Pu.further HB3.out hb4)
   clear hn4 hb4
   by_cases hlt : S / 2 < gk
   ·have hcmp : cmpI ((S / 2 : Nat) : Int) (gk : Int) = -1 := cmp_dig_lt hlt
    have HCM := hid (compare_any vn (.slice ro (dig gk).length rc) (S / 2) gk w4 HN4.out (HN.out.keep HB4.out))
    rw [hcmp] at HCM
    clear hcmp
    go_wp2_with fail
    refine HCM.out.mono ?_
    rintro e w5 ⟨rfl, hb5⟩
    have HN5 := hid (HN4.out.keep hb5)
    have HB5 := hid (Pu.further HBL.out (Pu.further HB4.out hb5))
    have hln : (dig (S / 2)).length ≤ (dig m).length + 3 := Nat.le_trans (dig_length_mono (Nat.le_of_lt hlt)) HLN.out
    have HLN5 := hid hln
    clear hb5 hln
    go_wp2
    go_roundg (S / 2)
    case rel => exact ⟨HN5.out, HUP.out, HLN5.out, HB5.out⟩
    case measure => exact hlt
   ·have hcmp : decide (0 ≤ cmpI ((S / 2 : Nat) : Int) (gk : Int)) = true := by
     unfold cmpI
     rw [if_neg (by omega)]
     split <;> rfl
    have HCM := hid (compare_any vn (.slice ro (dig gk).length rc) (S / 2) gk w4 HN4.out (HN.out.keep HB4.out))
    generalize cmpI ((S / 2 : Nat) : Int) (gk : Int) = cc at *
    have hcc : 0 ≤ cc := by simpa using hcmp
    clear hcmp
    go_wp2_with fail
    refine HCM.out.mono ?_
    rintro e w5 ⟨rfl, hb5⟩
    have HN5 := hid (HN.out.keep (Pu.further HB4.out hb5))
    have HB5 := hid (Pu.further HBL.out (Pu.further HB4.out hb5))
    clear hb5
    go_wp2
    go_ret
    exact ⟨_, gk, rfl, HN5.out, HEND.out (by omega), HR.out, HB5.out⟩

theorem squareRoot_two (va : Value) (m : Nat) (w : World) (ha : Nums w va (dig m)) (h2 : (dig m).length ≤ 2) :
  Calls Tryz.prog 140 #[va] w (RetSqrt w m) :=
 squareRoot_of va m w ha (by omega) (fun w h => rootAbove_two va m w h h2) fun w vb r hr _ ha hb => by
  rcases Nat.lt_or_ge (dig m).length (dig r).length with h | h
  ·exact divide_less va vb m r w ha hb h
  ·exact divide_two va vb m r w ha hb (by omega) h2 hr
theorem Sp.apart {s : Sp} {w : World} {v : Value} {g : Nat} (h : s.is w v) (hg : ResAt w g) (cs : Array Value) : s.is (w.setRow g cs) v := by
 cases s with
 | any => trivial
 | eq x => exact h
 | int z => exact IntAt.apart h hg cs
 | nums ds => exact Nums.apart h hg cs
 | two y z => obtain ⟨s, t, h1, h2, h3⟩ := h; exact ⟨s, t, h1, h2.apart hg cs, h3.apart hg cs⟩
 | twoN y z => obtain ⟨s, t, h1, h2, h3⟩ := h; exact ⟨s, t, h1, h2.apart hg cs, h3.apart hg cs⟩
 | intB y z => obtain ⟨s, h1, h2⟩ := h; exact ⟨s, h1, h2.apart hg cs⟩
 | intE y z => obtain ⟨s, h1, h2⟩ := h; exact ⟨s, h1, h2.apart hg cs⟩
 | vals n => obtain ⟨ds, h1, h2⟩ := h; exact ⟨ds, h1.apart hg cs, h2⟩
 | row k zs => exact Row.apart h hg cs
 | one k z => exact One.apart h hg cs
 | gen p hk ha => exact ha _ _ _ _ h hg

def RS (g : Nat) (w w' : World) : Prop := Below w.heap.size w w' ∨ (ResAt w g ∧ ∃ cs, w' = w.setRow g cs)
theorem Slots.keepRS (l : List (Nat × Sp)) (g : Nat) (t : Nat) (w w2 : World) (v : Value) (h : Slots l t w v) (hb : RS g w w2) : Slots l t w2 v := by
 rcases hb with hb | ⟨hg, cs, rfl⟩
 ·exact Sp.keep h hb
 ·exact Sp.apart h hg cs

structure StI (w0 : World) (l : List (Nat × Obj)) (ns : List (Value × List Nat)) (g k : Nat) (z : Int) (L : Nat → Bool) (w : World) : Prop where
 below : Below w0.heap.size w0 w
 heaps : ∀ p ∈ l, w.heap[p.1]? = some p.2
 nums : ∀ p ∈ ns, Nums w p.1 p.2
 cell : L k = true → IntCell w g z
 res : ResAt w g
theorem StI.keep {w0 w w' : World} {l : List (Nat × Obj)} {ns : List (Value × List Nat)} {g k i : Nat} {z : Int} {L L' : Nat → Bool} (h : StI w0 l ns g k z L w) (hb : Below w.heap.size w w') (hL : Pu.More L i L') (hne : k ≠ i) : StI w0 l ns g k z L' w' :=
 ⟨Pu.further h.below hb, fun p hp => heapKeep hb (h.heaps p hp), fun p hp => (h.nums p hp).keep hb, fun hk => (h.cell (hL.old hne hk)).keep hb, h.res.keep hb⟩
theorem StI.set {w0 w : World} {l : List (Nat × Obj)} {ns : List (Value × List Nat)} {g k : Nat} {z : Int} {L L' : Nat → Bool} {v : Value} (h : StI w0 l ns g k z L w) (hv : IntAt w v z) (hg : w0.heap.size ≤ g) (hl : ∀ p ∈ l, p.1 ≠ g) : StI w0 l ns g k z L' (w.setRow g v.cells) :=
 ⟨below_row h.below hg _, fun p hp => (setRow_other w g p.1 _ (hl p hp)).trans (h.heaps p hp), fun p hp => (h.nums p hp).apart h.res _, fun _ => IntCell.set h.res hv, (IntCell.set h.res hv).res⟩

theorem rstep {P : Program} {ops : Array Oper} {l : List (Nat × Sp)} {w0 : World} {hs : List (Nat × Obj)} {ns : List (Value × List Nat)} {g k : Nat} {z : Int} {Q : Exit → Act → World → Prop} {L : Nat → Bool} {i : Nat} {o : Oper} {a : Act} {w : World} (hg : Region.wanted o (yielded ops a.tmps) = true)
  (hI : StI w0 hs ns g k z L w) (hne : k ≠ i)
  (h : ∀ K : Act → World → Prop, (∀ v w', Below w.heap.size w w' → (∀ d, o.dst = some d → Slots l d w' v) → K (a.put o.dst v) w') → o.wp P a w K Q) : Pu.RStep P ops (Slots l) (RS g) (StI w0 hs ns g k z) Q L i o a w :=
 ⟨hg, h _ fun v _ hb hv => ⟨v, rfl, .inl hb, fun _ hL => hI.keep hb hL hne, hv⟩⟩
theorem rstore {ops : Array Oper} {l : List (Nat × Sp)} {w0 : World} {hs : List (Nat × Obj)} {ns : List (Value × List Nat)} {g k : Nat} {z : Int} {Q : Exit → Act → World → Prop} {L : Nat → Bool} {o : Oper} {a : Act} {w : World} (hg : Region.wanted o (yielded ops a.tmps) = true)
  (hI : StI w0 hs ns g k z L w) (x y : Operand) (ho : o.op = .store 25 x y) (hd : o.dst = none) (v : Value) (hx : a.eval x = .pointer (some ⟨g, 0, none⟩)) (hy : a.eval y = v) (hv : IntAt w v z) (hB : w0.heap.size ≤ g) (hl : ∀ p ∈ hs, p.1 ≠ g) :
  Pu.RStep Tryz.prog ops (Slots l) (RS g) (StI w0 hs ns g k z) Q L k o a w :=
 ⟨hg, wp_store_int x y ho g v z hx hy hv hI.res ⟨undef, rfl, .inr ⟨hI.res, _, rfl⟩, fun _ _ => hI.set hv hB hl, fun d h => by rw [hd] at h; cases h⟩⟩

def RetIB (w : World) (z : Int) (b : Bool) (e : Ending) (w' : World) : Prop := ∃ s, e = .returned (.tuple #[s, .bool b]) ∧ IntAt w' s z ∧ Below w.heap.size w w'
theorem results_mix {fn : Func} {p q : Tmp} (h : fn.results = #[.cell p 25, .tmp q]) (tmps : Array Value) (w : World) (g1 : Nat) (c1 : Array Value) (x : Value)
  (hp : tmps.getD p undef = .pointer (some ⟨g1, 0, none⟩)) (hq : tmps.getD q undef = x) (h1 : w.heap[g1]? = some (.cells c1 25 (0, 0))) (l1 : c1.size = 2) :
  (results fn tmps).run Tryz.prog w = .ok (.tuple #[.agg c1, x]) w := by
 obtain ⟨d, hd1, hd2⟩ := struct_of Tryz.int_struct
 have hp' : tmps[p]?.getD undef = .pointer (some ⟨g1, 0, none⟩) := by simpa using hp
 have hq' : tmps[q]?.getD undef = x := by simpa using hq
 have hr1 := run_loadVar_row (P := Tryz.prog) w g1 25 25 c1 (0, 0) d h1 hd1 (by cases d <;> first | rfl | cases hd2) (by rw [l1]; exact Tryz.int_size)
 simp [results, h, hp', hq', asAddr, hr1]
theorem ret_mix {fn : Func} {p q : Tmp} (h : fn.results = #[.cell p 25, .tmp q]) {a : Act} {w : World} {g : Nat} {z : Int} {x : Value} (hd : a.defers = []) (hp : a.tmps.getD p undef = .pointer (some ⟨g, 0, none⟩)) (hq : a.tmps.getD q undef = x)
  (hc : IntCell w g z) {R : Ending → World → Prop} (hR : ∀ s, IntAt w s z → R (.returned (.tuple #[s, x])) w) : bodyPost Tryz.prog fn R .ret a w := by
 obtain ⟨v, hv, hh⟩ := hc
 obtain ⟨b, so, n, sc, rfl⟩ := hv.open
 exact bodyPost_ret (results_mix h _ _ g _ x hp hq hh rfl) hd (hR _ hv)

theorem sq_unique {m s t : Nat} (h1 : s * s ≤ m) (h2 : m < (s + 1) * (s + 1)) (h3 : t * t ≤ m) (h4 : m < (t + 1) * (t + 1)) : s = t := by
 rcases Nat.lt_trichotomy s t with h | h | h
 ·have := Nat.mul_le_mul (show s + 1 ≤ t from h) (show s + 1 ≤ t from h); omega
 ·exact h
 ·have := Nat.mul_le_mul (show t + 1 ≤ s from h) (show t + 1 ≤ s from h); omega

def RetRootI (w : World) (x : Int) (e : Ending) (w' : World) : Prop := ∃ r : Nat, r * r ≤ x.natAbs ∧ x.natAbs < (r + 1) * (r + 1) ∧ RetIB w (r : Int) (decide (r * r = x.natAbs)) e w'
theorem cmp_zero (a b : Nat) : (cmpI (a : Int) (b : Int) == 0) = decide (a = b) := by
 rw [Bool.eq_iff_iff, beq_iff_eq, decide_eq_true_eq]
 unfold cmpI
 constructor
 ·intro h
  split at h
  ·cases h
  ·split at h
   ·cases h
   ·omega
 ·rintro rfl
  rw [if_neg (by omega), if_neg (by omega)]

set_option maxRecDepth 100000 in
set_option maxHeartbeats 4000000 in
theorem Root_of (vx : Value) (x : Int) (w : World) (hx : IntAt w vx x) (hx0 : 0 ≤ x) (hl : len x ≤ 1000000000)
  (hsq : ∀ w va, Nums w va (dig x.natAbs) → Calls Tryz.prog 140 #[va] w (RetSqrt w x.natAbs)) :
  Calls Tryz.prog 100 #[vx] w (RetRootI w x) := by
 have HXI := hid hx
 obtain ⟨s, rfl, hs⟩ := hx
 have HS := hid hs
 have hb0 : decide (x < 0) = false := by simp [hx0]
 rw [hb0] at HXI ⊢
 obtain ⟨W, hW⟩ : ∃ W, W = ((w.alloc (Obj.cells #[Value.bool false, s] 25)).alloc (Obj.cells #[Value.bool false, Value.slice none 0 0] 25)) := ⟨_, rfl⟩
 have hBW : Below w.heap.size w W := by rw [hW]; exact below2 w _ _
 have hX : W.heap[w.heap.size]? = some (.cells #[Value.bool false, s] 25 (0, 0)) := by rw [hW]; exact first2 w _ _
 have hR : ResAt W (w.heap.size + 1) := by rw [hW]; exact ResAt.at (by simp)
 have HWW := hid hW
 have HBW := hid hBW
 have HX := hid hX
 have HR := hid hR
 have HSQ := hid hsq
 obtain ⟨c1, c2, -, -⟩ := cell2 hX
 clear hW hBW hX hR hs hb0 hsq
 go_enter Tryz.func100, Tryz.ntmps100
 go_upto_region 1 with fail
 rw [← HWW.out]
 go_wp2_with fail
 refine (Valid_any _ x _ (HXI.out.keep HBW.out)).mono ?_
 rintro e w1 ⟨rfl, hb1⟩
 have HB1 := hid (Pu.further HBW.out hb1)
 have HK1 := hid hb1
 obtain ⟨e1, e2, -, -⟩ := cell2 (heapKeep hb1 HX.out)
 clear hb1 c1 c2
 go_wp2_with fail
 refine (HSQ.out _ _ (HS.out.keep HB1.out)).mono ?_
 rintro e w2 ⟨vr, r, rfl, hn, hr1, hr2, hb2⟩
 have HN := hid hn
 have HB2 := hid (Pu.further HB1.out hb2)
 have HK2 := hid (Pu.further HK1.out hb2)
 have HR1 := hid hr1
 have HR2 := hid hr2
 have hrl : (dig r).length ≤ 1000000000 := by
  refine Nat.le_trans (dig_length_mono ?_) hl
  rcases Nat.eq_zero_or_pos r with h | h
  ·omega
  ·exact Nat.le_trans (Nat.le_mul_of_pos_left r h) hr1
 clear hn hb2 hr1 hr2 e1 e2
 go_upto_region 4 with fail
 rename_i hret
 refine Pu.wp_region_rel (Slots [(16, .nums (dig r)), (17, .int ((r : Int))), (18, .nums (dig r)), (19, .nums (dig r)), (20, .nums (dig (r * r))), (21, .eq (.pointer (some ⟨w.heap.size, 1, none⟩))), (22, .eq (s)), (23, .eq (.int .i64 (cmpI ((r * r : Nat) : Int) (x.natAbs : Int)))), (24, .eq (.bool (decide (r * r = x.natAbs)))), (3, .eq (.bool (decide (r * r = x.natAbs))))]) (RS (w.heap.size + 1)) (StI w [(w.heap.size, .cells #[.bool false, s] 25 (0, 0))] [(vr, dig r)] (w.heap.size + 1) 9 ((r : Int))) (by kernel_rfl) (by kernel_rfl) (by kernel_rfl) (Slots.keepRS _ _) ?_ ?_ ?_
 ·intro L hL
  exact ⟨HB2.out.drew, fun p hp => by cases List.mem_singleton.1 hp; exact heapKeep HK2.out.drew HX.out, fun p hp => by cases List.mem_singleton.1 hp; exact HN.out.keep ((Below.refl _ _).drew), (fun h => by rw [hL] at h; cases h), HR.out.keep HK2.out.drew⟩
 ·intro L a w2 i o ho hL hdep hI
  have hi : i < 11 := (Array.getElem?_eq_some_iff.1 ho).1
  rcases (show i = 0 ∨ i = 1 ∨ i = 2 ∨ i = 3 ∨ i = 4 ∨ i = 5 ∨ i = 6 ∨ i = 7 ∨ i = 8 ∨ i = 9 ∨ i = 10 by omega) with rfl | rfl | rfl | rfl | rfl | rfl | rfl | rfl | rfl | rfl | rfl
  ·cases (Option.some.inj (show some _ = some o from ho))
   have h4 : a.tmps.getD 4 undef = vr := hI.free (t := 4) (by kernel_rfl)
   refine rstep rfl hI.world (by decide) fun K hK => ?_
   have hbl := hI.world.below
   clear hdep ho hi
   go_simp
   exact hK _ _ (Below.refl _ _) (fun d hd => by cases hd; exact hI.world.nums _ (List.mem_singleton.2 rfl))
  ·cases (Option.some.inj (show some _ = some o from ho))
   have h16 : Nums w2 (a.tmps.getD 16 undef) (dig r) := hI.slot (i := 0) (d := 16) (hdep ⟨0, .data⟩ (by simp) (by rfl)) rfl
   obtain ⟨x16, e16⟩ : ∃ x, a.tmps.getD 16 undef = x := ⟨_, rfl⟩
   rw [e16] at h16
   refine rstep rfl hI.world (by decide) fun K hK => ?_
   have hbl := hI.world.below
   clear hdep ho hi
   go_simp
   refine (signed_any false x16 _ _ h16 (dig_Dig _)).mono ?_
   rintro e w3 ⟨v3, rfl, hn3, hb3⟩
   rw [val_dig] at hn3
   exact hK _ _ hb3 (fun d hd => by cases hd; exact hn3)
  ·cases (Option.some.inj (show some _ = some o from ho))
   have h4 : a.tmps.getD 4 undef = vr := hI.free (t := 4) (by kernel_rfl)
   refine rstep rfl hI.world (by decide) fun K hK => ?_
   have hbl := hI.world.below
   clear hdep ho hi
   go_simp
   exact hK _ _ (Below.refl _ _) (fun d hd => by cases hd; exact hI.world.nums _ (List.mem_singleton.2 rfl))
  ·cases (Option.some.inj (show some _ = some o from ho))
   have h4 : a.tmps.getD 4 undef = vr := hI.free (t := 4) (by kernel_rfl)
   refine rstep rfl hI.world (by decide) fun K hK => ?_
   have hbl := hI.world.below
   clear hdep ho hi
   go_simp
   exact hK _ _ (Below.refl _ _) (fun d hd => by cases hd; exact hI.world.nums _ (List.mem_singleton.2 rfl))
  ·cases (Option.some.inj (show some _ = some o from ho))
   have h18 : Nums w2 (a.tmps.getD 18 undef) (dig r) := hI.slot (i := 2) (d := 18) (hdep ⟨2, .data⟩ (by simp) (by rfl)) rfl
   obtain ⟨x18, e18⟩ : ∃ x, a.tmps.getD 18 undef = x := ⟨_, rfl⟩
   rw [e18] at h18
   have h19 : Nums w2 (a.tmps.getD 19 undef) (dig r) := hI.slot (i := 3) (d := 19) (hdep ⟨3, .data⟩ (by simp) (by rfl)) rfl
   obtain ⟨x19, e19⟩ : ∃ x, a.tmps.getD 19 undef = x := ⟨_, rfl⟩
   rw [e19] at h19
   refine rstep rfl hI.world (by decide) fun K hK => ?_
   have hbl := hI.world.below
   clear hdep ho hi
   go_simp
   refine (times_any x18 x19 _ _ _ h18 h19 (dig_Dig _) (dig_Dig _) (by omega) (by omega)).mono ?_
   rintro e w3 ⟨v3, rfl, hn3, hb3⟩
   rw [val_dig] at hn3
   exact hK _ _ hb3 (fun d hd => by cases hd; exact hn3)
  ·cases (Option.some.inj (show some _ = some o from ho))
   have h1 : a.tmps.getD 1 undef = .pointer (some ⟨w.heap.size, 0, none⟩) := hI.free (t := 1) (by kernel_rfl)
   refine rstep rfl hI.world (by decide) fun K hK => ?_
   have hbl := hI.world.below
   clear hdep ho hi
   go_simp
   exact hK _ _ (Below.refl _ _) (fun d hd => by cases hd; rfl)
  ·cases (Option.some.inj (show some _ = some o from ho))
   have h21 : a.tmps.getD 21 undef = .pointer (some ⟨w.heap.size, 1, none⟩) := hI.slot (i := 5) (d := 21) (hdep ⟨5, .data⟩ (by simp) (by rfl)) rfl
   have hc2 := (cell2 (hI.world.heaps _ (List.mem_singleton.2 rfl))).2.1
   refine rstep rfl hI.world (by decide) fun K hK => ?_
   have hbl := hI.world.below
   clear hdep ho hi
   go_simp
   exact hK _ _ (Below.refl _ _) (fun d hd => by cases hd; rfl)
  ·cases (Option.some.inj (show some _ = some o from ho))
   have h20 : Nums w2 (a.tmps.getD 20 undef) (dig (r * r)) := hI.slot (i := 4) (d := 20) (hdep ⟨4, .data⟩ (by simp) (by rfl)) rfl
   obtain ⟨x20, e20⟩ : ∃ x, a.tmps.getD 20 undef = x := ⟨_, rfl⟩
   rw [e20] at h20
   have h22 : a.tmps.getD 22 undef = s := hI.slot (i := 6) (d := 22) (hdep ⟨6, .data⟩ (by simp) (by rfl)) rfl
   refine rstep rfl hI.world (by decide) fun K hK => ?_
   have hbl := hI.world.below
   clear hdep ho hi
   go_simp
   refine (compare_any x20 s (r * r) x.natAbs _ h20 (HS.out.keep hbl)).mono ?_
   rintro e w3 ⟨rfl, hb3⟩
   exact hK _ _ hb3 (fun d hd => by cases hd; rfl)
  ·cases (Option.some.inj (show some _ = some o from ho))
   have h23 : a.tmps.getD 23 undef = .int .i64 (cmpI ((r * r : Nat) : Int) (x.natAbs : Int)) := hI.slot (i := 7) (d := 23) (hdep ⟨7, .data⟩ (by simp) (by rfl)) rfl
   refine rstep rfl hI.world (by decide) fun K hK => ?_
   have hbl := hI.world.below
   clear hdep ho hi
   go_simp
   rw [← Int.natCast_mul, cmp_zero]
   exact hK _ _ (Below.refl _ _) (fun d hd => by cases hd; rfl)
  ·cases (Option.some.inj (show some _ = some o from ho))
   have h2 : a.tmps.getD 2 undef = .pointer (some ⟨w.heap.size + 1, 0, none⟩) := hI.free (t := 2) (by kernel_rfl)
   have h17 : IntAt w2 (a.tmps.getD 17 undef) ((r : Int)) := hI.slot (i := 1) (d := 17) (hdep ⟨1, .data⟩ (by simp) (by rfl)) rfl
   obtain ⟨x17, e17⟩ : ∃ x, a.tmps.getD 17 undef = x := ⟨_, rfl⟩
   rw [e17] at h17
   refine rstore rfl hI.world (.tmp 2) (.tmp 17) rfl rfl x17 h2 e17 h17 (by omega) ?_
   intro p hp
   cases List.mem_singleton.1 hp
   exact Nat.ne_of_lt (Nat.lt_succ_self _)
  ·cases (Option.some.inj (show some _ = some o from ho))
   have h24 : a.tmps.getD 24 undef = .bool (decide (r * r = x.natAbs)) := hI.slot (i := 8) (d := 24) (hdep ⟨8, .data⟩ (by simp) (by rfl)) rfl
   refine rstep rfl hI.world (by decide) fun K hK => ?_
   have hbl := hI.world.below
   clear hdep ho hi
   go_simp
   exact hK _ _ (Below.refl _ _) (fun d hd => by cases hd; rfl)
 ·intro L a w2 hall hI
  have h3 : a.tmps.getD 3 undef = .bool (decide (r * r = x.natAbs)) := hI.slot (i := 10) (d := 3) (hall 10 (by decide)) rfl
  have h2 : a.tmps.getD 2 undef = .pointer (some ⟨w.heap.size + 1, 0, none⟩) := hI.free (t := 2) (by kernel_rfl)
  refine hret _ _ (wp_ret ?_)
  refine ret_mix rfl hI.defers h2 h3 (hI.world.cell (hall 9 (by decide))) fun s1 hs1 => ?_
  exact ⟨r, HR1.out, HR2.out, s1, rfl, hs1, hI.world.below⟩
end Zn
end Go.Proofs.YtpgiebimhnhbiaaGreatDoor
