/-
  Contracts of math/bits.Len64; of gantry/integer: rootAbove, squareRoot, Root, for short numbers.
-/
import Derived.Test.YtelfpefcjchjbaaGreatDoorIntU
import Derived.Lib.Strings
import Derived.Lib.Slices
import Derived.Lib.Small
import Derived.Lib.Walk
import Derived.Lib.BitFns
namespace Go.Proofs.YtelfpefcjchjbaaGreatDoor
open Go.RowKit
open Go.Lib (hid)
open Dg
namespace Zn

def RetLen (x : Nat) (w : World) (e : Ending) (w' : World) : Prop := ∃ L : Nat, e = .returned (.int .i64 (L : Int)) ∧ L ≤ 64 ∧ x < 2 ^ L ∧ w = w'
theorem lt_len8 : ∀ n : Fin 256, n.val < 2 ^ Lib.bitLen n.val := by decide +kernel
theorem lt_len8' (b : Nat) (h : b < 256) : b < 2 ^ Lib.bitLen b := lt_len8 ⟨b, h⟩
theorem lt_shift {x b s k l : Nat} (h : b < 2 ^ l) (hs : s = 2 ^ k) (hb : b = x / s) : x < 2 ^ (k + l) := by
  subst hb
  subst hs
  rw [Nat.pow_add, Nat.mul_comm]
  exact (Nat.div_lt_iff_lt_mul (Nat.pow_pos (by decide))).1 h

theorem len_fin {x b K : Int} {w : World} (k s : Nat) (h0 : 0 ≤ x) (hb0 : 0 ≤ b) (hb : b ≤ 255) (hK : K = (k : Int)) (hs : s = 2 ^ k) (hbx : b = x / (s : Int)) (hk : k ≤ 56) :
    RetLen x.toNat w (.returned (.int .i64 (wrap64 (K + wrap64 (Lib.len8 b))))) w := by
  have hl := Lib.bitLen_le8' b hb0 hb
  have hlt := lt_len8' b.toNat (by omega)
  rw [Lib.len8_of b hb0 hb]
  refine ⟨k + Lib.bitLen b.toNat, ret_int ?_, by omega, ?_, rfl⟩
  · unfold wrap64; omega
  · refine lt_shift hlt hs ?_
    obtain ⟨n, rfl⟩ := Int.eq_ofNat_of_zero_le h0
    subst hbx
    rw [Int.toNat_natCast, ← Int.natCast_ediv, Int.toNat_natCast]

set_option maxHeartbeats 4000000 in
set_option maxRecDepth 100000 in
theorem Len64_any (x : Int) (w : World) (h0 : 0 ≤ x) (h1 : x ≤ 18446744073709551615) :
    Calls Tryz.prog 106 #[.int .u64 x] w (RetLen x.toNat w) := by
  rcases (show x < 256 ∨ (256 ≤ x ∧ x < 65536) ∨ (65536 ≤ x ∧ x < 16777216) ∨ (16777216 ≤ x ∧ x < 4294967296) ∨ (4294967296 ≤ x ∧ x < 1099511627776) ∨ (1099511627776 ≤ x ∧ x < 281474976710656) ∨ (281474976710656 ≤ x ∧ x < 72057594037927936) ∨ 72057594037927936 ≤ x by omega) with h | ⟨g, h⟩ | ⟨g, h⟩ | ⟨g, h⟩ | ⟨g, h⟩ | ⟨g, h⟩ | ⟨g, h⟩ | g
  · have hb : x ≤ 255 := by omega
    have hb0 : 0 ≤ x := by omega
    go_enter Tryz.func106, Tryz.ntmps106
    go_wp2
    go_ret
    have hf := len_fin (w := w) 0 1 h0 hb0 hb rfl rfl (by omega) (by decide)
    rw [show ((0 : Nat) : Int) = 0 from rfl, Int.zero_add] at hf
    exact hf
  · have hb : x / 256 ≤ 255 := by omega
    have hb0 : 0 ≤ x / 256 := by omega
    go_enter Tryz.func106, Tryz.ntmps106
    go_wp2
    go_ret
    exact len_fin 8 256 h0 hb0 hb rfl (by decide) (by omega) (by decide)
  · have hb : x / 65536 ≤ 255 := by omega
    have hb0 : 0 ≤ x / 65536 := by omega
    go_enter Tryz.func106, Tryz.ntmps106
    go_wp2
    go_ret
    exact len_fin 16 65536 h0 hb0 hb rfl (by decide) (by omega) (by decide)
  · have hb : x / 65536 / 256 ≤ 255 := by omega
    have hb0 : 0 ≤ x / 65536 / 256 := by omega
    go_enter Tryz.func106, Tryz.ntmps106
    go_wp2
    go_ret
    exact len_fin 24 16777216 h0 hb0 hb rfl (by decide) (by omega) (by decide)
  · have hb : x / 4294967296 ≤ 255 := by omega
    have hb0 : 0 ≤ x / 4294967296 := by omega
    go_enter Tryz.func106, Tryz.ntmps106
    go_wp2
    go_ret
    exact len_fin 32 4294967296 h0 hb0 hb rfl (by decide) (by omega) (by decide)
  · have hb : x / 4294967296 / 256 ≤ 255 := by omega
    have hb0 : 0 ≤ x / 4294967296 / 256 := by omega
    go_enter Tryz.func106, Tryz.ntmps106
    go_wp2
    go_ret
    exact len_fin 40 1099511627776 h0 hb0 hb rfl (by decide) (by omega) (by decide)
  · have hb : x / 4294967296 / 65536 ≤ 255 := by omega
    have hb0 : 0 ≤ x / 4294967296 / 65536 := by omega
    go_enter Tryz.func106, Tryz.ntmps106
    go_wp2
    go_ret
    exact len_fin 48 281474976710656 h0 hb0 hb rfl (by decide) (by omega) (by decide)
  · have hb : x / 4294967296 / 65536 / 256 ≤ 255 := by omega
    have hb0 : 0 ≤ x / 4294967296 / 65536 / 256 := by omega
    go_enter Tryz.func106, Tryz.ntmps106
    go_wp2
    go_ret
    exact len_fin 56 72057594037927936 h0 hb0 hb rfl (by decide) (by omega) (by decide)

/-- The first number of Newton's steps for a short number. -/
def RetRoot (w : World) (m : Nat) (e : Ending) (w' : World) : Prop := ∃ v r, e = .returned v ∧ Nums w' v (dig r) ∧ m < (r + 1) * (r + 1) ∧ (dig r).length ≤ (dig m).length + 3 ∧ Below w.heap.size w w'

theorem two_pow {m L : Nat} (h : m < 2 ^ L) : m < (2 ^ ((L + 1) / 2) + 1) * (2 ^ ((L + 1) / 2) + 1) := by
  have h1 : 2 ^ L ≤ 2 ^ ((L + 1) / 2) * 2 ^ ((L + 1) / 2) := by
    rw [← Nat.pow_add]
    exact Nat.pow_le_pow_right (by decide) (by omega)
  have h2 := Nat.mul_le_mul (Nat.le_succ (2 ^ ((L + 1) / 2))) (Nat.le_succ (2 ^ ((L + 1) / 2)))
  exact Nat.lt_of_lt_of_le h (Nat.le_trans h1 h2)

set_option maxRecDepth 100000 in
set_option maxHeartbeats 4000000 in
theorem rootAbove_two (va : Value) (m : Nat) (w : World) (ha : Nums w va (dig m)) (h2 : (dig m).length ≤ 2) :
    Calls Tryz.prog 90 #[va] w (RetRoot w m) := by
  have HA := hid ha
  have hm := lt_of_two h2
  obtain ⟨ao, ac, rfl, a1, a2, -⟩ := ha
  unfold maxLen at a2
  have HV1 := hid (value_any _ (dig m) w HA.out (dig_Dig _) (by rw [val_dig]; omega))
  rw [val_dig] at HV1
  have HL := hid (Len64_any (m : Int) w (by omega) (by omega))
  clear hm
  go_enter Tryz.func90, Tryz.ntmps90
  go_wp2_with fail
  refine HV1.out.mono ?_
  rintro e w' ⟨rfl, rfl⟩
  go_wp2_with fail
  refine HL.out.mono ?_
  rintro e w' ⟨L, rfl, hL, hlt, rfl⟩
  rw [Int.toNat_natCast] at hlt
  have HLT := hid (two_pow hlt)
  clear hlt
  obtain ⟨H, hH⟩ : ∃ H, H = (L + 1) / 2 := ⟨_, rfl⟩
  have eH : ((L : Int) + 1) / 2 = (H : Int) := by omega
  have hH32 : H ≤ 32 := by omega
  rw [← hH] at HLT
  have hp : 2 ^ H ≤ 4294967296 := Nat.pow_le_pow_right (n := 2) (by decide) hH32
  have HSP := hid (fun w1 => split_any (2 ^ H) w1 (by omega))
  have HPP := hid hp
  clear hH hp
  go_wp2_with fail
  rw [show IntKind.u64.wrap ((2 : Int) ^ H) = ((2 ^ H : Nat) : Int) by
    have := HPP.out
    rw [show ((2 : Int) ^ H) = ((2 ^ H : Nat) : Int) by rw [Int.natCast_pow]; rfl]
    generalize 2 ^ H = q at *
    exact IntWalk.u64_in _ (by omega)]
  refine (HSP.out _).mono ?_
  rintro e w1 ⟨v1, rfl, hn1, hb1⟩
  have HN1 := hid hn1
  have HB1 := hid hb1
  clear hn1 hb1
  go_wp2
  go_ret
  refine ⟨v1, 2 ^ H, rfl, HN1.out, HLT.out, ?_, HB1.out⟩
  have := HPP.out
  have h3 : (dig (2 ^ H)).length ≤ 3 := dig_length_le.2 (Nat.lt_of_le_of_lt this (by decide +kernel))
  omega

/-- Behind a function that returns a square root. -/
def RetSqrt (w : World) (m : Nat) (e : Ending) (w' : World) : Prop := ∃ v s, e = .returned v ∧ Nums w' v (dig s) ∧ s * s ≤ m ∧ m < (s + 1) * (s + 1) ∧ Below w.heap.size w w'

theorem newton_up {m r : Nat} (hr : 0 < r) : m < ((r + m / r) / 2 + 1) * ((r + m / r) / 2 + 1) := by
  have h1 : m < r * (m / r + 1) := by
    have := Nat.div_add_mod m r
    have := Nat.mod_lt m hr
    rw [Nat.mul_add, Nat.mul_one]
    omega
  generalize m / r = q at *
  obtain ⟨s, hs⟩ : ∃ s, s = (r + q) / 2 := ⟨_, rfl⟩
  rw [← hs]
  have h2 : r + (q + 1) ≤ 2 * (s + 1) := by omega
  have h3 : 4 * (r * (q + 1)) ≤ (r + (q + 1)) * (r + (q + 1)) := by
    rcases Nat.le_total r (q + 1) with h | h
    · obtain ⟨t, ht⟩ := Nat.exists_eq_add_of_le h
      rw [ht]
      have e : (r + (r + t)) * (r + (r + t)) = 4 * (r * (r + t)) + t * t := by
        simp only [Nat.mul_add, Nat.add_mul]
        rw [Nat.mul_comm t r]
        omega
      omega
    · obtain ⟨t, ht⟩ := Nat.exists_eq_add_of_le h
      rw [ht]
      generalize q + 1 = u at *
      have e : (u + t + u) * (u + t + u) = 4 * ((u + t) * u) + t * t := by
        simp only [Nat.mul_add, Nat.add_mul]
        rw [Nat.mul_comm t u]
        omega
      omega
  have h4 := Nat.mul_le_mul h2 h2
  have e4 : 2 * (s + 1) * (2 * (s + 1)) = 4 * ((s + 1) * (s + 1)) := by
    rw [Nat.mul_mul_mul_comm]
  omega
theorem newton_end {m r : Nat} (h : r ≤ (r + m / r) / 2) : r * r ≤ m := by
  have h1 : r ≤ m / r := by omega
  exact Nat.le_trans (Nat.mul_le_mul_left r h1) (Nat.mul_div_le m r)

set_option maxRecDepth 100000 in
set_option maxHeartbeats 4000000 in
theorem squareRoot_of (va : Value) (m : Nat) (w : World) (ha : Nums w va (dig m)) (hl : (dig m).length ≤ 1099511627000)
    (habove : ∀ w, Nums w va (dig m) → Calls Tryz.prog 90 #[va] w (RetRoot w m))
    (hdiv : ∀ w vb r, 0 < r → (dig r).length ≤ (dig m).length + 3 → Nums w va (dig m) → Nums w vb (dig r) → Calls Tryz.prog 63 #[va, vb] w (RetTwo w (m / r) (m % r))) :
    Calls Tryz.prog 68 #[va] w (RetSqrt w m) := by
  have HA := hid ha
  have HDV := hid hdiv
  have HAB := hid (habove w ha)
  obtain ⟨ao, ac, rfl, a1, a2, -⟩ := ha
  unfold maxLen at a2
  clear hdiv habove
  go_enter Tryz.func68, Tryz.ntmps68
  go_wp2_with fail
  refine HAB.out.mono ?_
  rintro e w1 ⟨v1, r0, rfl, hn1, hr1, hlen1, hb1⟩
  have HN1 := hid hn1
  have HB1 := hid hb1
  have HR1 := hid hr1
  have HL1 := hid hlen1
  clear hn1 hb1 hr1 hlen1
  go_wp2
  go_loopg [3] r0 (fun r v wr => Nums wr v (dig r) ∧ m < (r + 1) * (r + 1) ∧ (dig r).length ≤ (dig m).length + 3 ∧ Below w.heap.size w wr)
  case atStart => exact ⟨HN1.out, HR1.out, HL1.out, HB1.out⟩
  case round =>
    obtain ⟨hn, hr, hlen, hbel⟩ := hrel
    have HN := hid hn
    have HR := hid hr
    have HLN := hid hlen
    have HBL := hid hbel
    obtain ⟨ro, rc, rfl, r1, r2, -⟩ := hn
    unfold maxLen at r2
    have hlr : (dig gk).length ≤ 1099511627100 := by omega
    clear hr hlen hbel
    rcases Nat.eq_zero_or_pos gk with h0 | h0
    · subst h0
      have hm0 : m = 0 := by have := HR.out; omega
      have HM0 := hid hm0
      rw [dig_zero] at r1 ⊢
      clear hm0
      go_wp2
      go_ret
      exact ⟨_, 0, rfl, HN.out, by omega, by rw [HM0.out]; decide, HBL.out⟩
    · have hpos : 0 < (dig gk).length := by
        rcases Nat.eq_zero_or_pos (dig gk).length with h | h
        · have := dig_eq_nil.1 (List.eq_nil_of_length_eq_zero h); omega
        · exact h
      have hql : (dig (m / gk)).length ≤ 1099511627000 := Nat.le_trans (dig_length_mono (Nat.div_le_self _ _)) hl
      have hval : ((gk + m / gk : Nat) : Int) = 1 * (val (dig gk) : Int) + 1 * (val (dig (m / gk)) : Int) := by rw [val_dig, val_dig]; omega
      have hlt : gk + m / gk < 1000000000 ^ (max (dig gk).length (dig (m / gk)).length + 1) := dig_length_le.1 (length_add _ _)
      have hsl : (dig (gk + m / gk)).length ≤ 1099511627776 := Nat.le_trans (length_add _ _) (by omega)
      have HC := hid (fun w1 vq h1 h2 => combine_any 1 1 (.slice ro (dig gk).length rc) vq (dig gk) (dig (m / gk)) (gk + m / gk) w1 h1 h2 (dig_Dig _) (dig_Dig _) (by decide) (by decide) (by decide) (by decide) hval hlt (by omega) (by omega))
      have HSH := hid (fun w1 vs h1 => divideShort_any vs (dig (gk + m / gk)) 2 w1 h1 (dig_Dig _) (by decide) (by decide) hsl)
      rw [val_dig] at HSH
      have HUP := hid (newton_up (m := m) h0)
      have HEND := hid (newton_end (m := m) (r := gk))
      clear hval hlt hsl hql
      obtain ⟨S, hS⟩ : ∃ S, S = gk + m / gk := ⟨_, rfl⟩
      rw [← hS] at HC HSH HUP HEND
      clear hS
      go_wp2_with fail
      refine (HDV.out _ _ _ h0 HLN.out (HA.out.keep HBL.out) HN.out).mono ?_
      rintro e w2 ⟨vq, vr, rfl, hq, -, hb2⟩
      have HQ := hid hq
      have HB2 := hid hb2
      clear hq hb2
      go_wp2_with fail
      refine (HC.out _ _ (HN.out.keep HB2.out) HQ.out).mono ?_
      rintro e w3 ⟨vs, rfl, hs, hb3⟩
      have HS := hid hs
      have HB3 := hid (Pu.further HB2.out hb3)
      clear hs hb3
      go_wp2_with fail
      refine (HSH.out _ _ HS.out).mono ?_
      rintro e w4 ⟨vn, vr2, rfl, hn4, -, hb4⟩
      have HN4 := hid hn4
      have HB4 := hid (Pu.further HB3.out hb4)
      clear hn4 hb4
      by_cases hlt : S / 2 < gk
      · have hcmp : cmpI ((S / 2 : Nat) : Int) (gk : Int) = -1 := cmp_dig_lt hlt
        have HCM := hid (compare_any vn (.slice ro (dig gk).length rc) (S / 2) gk w4 HN4.out (HN.out.keep HB4.out))
        rw [hcmp] at HCM
        clear hcmp
        go_wp2_with fail
        refine HCM.out.mono ?_
        rintro e w5 ⟨rfl, hb5⟩
        have HN5 := hid (HN4.out.keep hb5)
        have HB5 := hid (Pu.further HBL.out (Pu.further HB4.out hb5))
        have hln : (dig (S / 2)).length ≤ (dig m).length + 3 := Nat.le_trans (dig_length_mono (Nat.le_of_lt hlt)) HLN.out
        have HLN5 := hid hln
        clear hb5 hln
        go_wp2
        go_roundg (S / 2)
        case rel => exact ⟨HN5.out, HUP.out, HLN5.out, HB5.out⟩
        case measure => exact hlt
      · have hcmp : decide (0 ≤ cmpI ((S / 2 : Nat) : Int) (gk : Int)) = true := by
          unfold cmpI
          rw [if_neg (by omega)]
          split <;> rfl
        have HCM := hid (compare_any vn (.slice ro (dig gk).length rc) (S / 2) gk w4 HN4.out (HN.out.keep HB4.out))
        generalize cmpI ((S / 2 : Nat) : Int) (gk : Int) = cc at *
        have hcc : 0 ≤ cc := by simpa using hcmp
        clear hcmp
        go_wp2_with fail
        refine HCM.out.mono ?_
        rintro e w5 ⟨rfl, hb5⟩
        have HN5 := hid (HN.out.keep (Pu.further HB4.out hb5))
        have HB5 := hid (Pu.further HBL.out (Pu.further HB4.out hb5))
        clear hb5
        go_wp2
        go_ret
        exact ⟨_, gk, rfl, HN5.out, HEND.out (by omega), HR.out, HB5.out⟩

theorem squareRoot_two (va : Value) (m : Nat) (w : World) (ha : Nums w va (dig m)) (h2 : (dig m).length ≤ 2) :
    Calls Tryz.prog 68 #[va] w (RetSqrt w m) :=
  squareRoot_of va m w ha (by omega) (fun w h => rootAbove_two va m w h h2) fun w vb r hr _ ha hb => by
    rcases Nat.lt_or_ge (dig m).length (dig r).length with h | h
    · exact divide_less va vb m r w ha hb h
    · exact divide_two va vb m r w ha hb (by omega) h2 hr

end Zn
end Go.Proofs.YtelfpefcjchjbaaGreatDoor
