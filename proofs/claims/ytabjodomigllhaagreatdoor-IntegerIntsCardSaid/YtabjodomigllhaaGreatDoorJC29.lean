/-
  Plain facts: fractions in lowest terms.
-/
import Derived.Test.YtabjodomigllhaaGreatDoorJC28
namespace Go.Proofs.YtabjodomigllhaaGreatDoor
open Dg Zn
namespace Vc

/-- The denominator as it is written: 0 where it is 1. -/
def qd (a : Rat) : Int := if a.den = 1 then 0 else a.den
theorem den_ne (a : Rat) : (a.den : Int) ≠ 0 := by have := a.den_nz; omega
theorem dn_qd (a : Rat) : (if qd a = 0 then 1 else qd a) = (a.den : Int) := by
  unfold qd
  by_cases h : a.den = 1
  · simp [h]
  · rw [if_neg h, if_neg (den_ne a)]
theorem qd_zero {a : Rat} : qd a = 0 ↔ a.den = 1 := by
  unfold qd
  split
  · rename_i h; simp [h]
  · rename_i h; exact ⟨fun h1 => absurd h1 (den_ne a), fun h1 => absurd h1 h⟩
theorem red (a : Rat) : Int.gcd a.num a.den = 1 := by
  rw [Int.gcd_eq_natAbs_gcd_natAbs]
  exact a.reduced
theorem red' (a : Rat) : Int.gcd a.den a.num = 1 := by rw [Int.gcd_comm]; exact red a

theorem low_num {p q : Int} (hc : Int.gcd p q = 1) : (Rat.divInt p q).num = q.sign * p := by
  rw [Rat.num_divInt, Int.gcd_comm, hc]
  simp
theorem low_den {p q : Int} (hc : Int.gcd p q = 1) (hq : q ≠ 0) : ((Rat.divInt p q).den : Int) = (q.natAbs : Int) := by
  rw [Rat.den_divInt, Int.gcd_comm, hc]
  simp [hq]
theorem low_qd {p q : Int} (hc : Int.gcd p q = 1) (hq : q ≠ 0) : qd (Rat.divInt p q) = if q.natAbs = 1 then 0 else (q.natAbs : Int) := by
  have h := low_den hc hq
  unfold qd
  rw [show (Rat.divInt p q).den = q.natAbs by omega]
theorem qd_of_zero (p : Int) : (Rat.divInt p 0).num = 0 ∧ qd (Rat.divInt p 0) = 0 := by
  rw [Rat.divInt_zero]
  exact ⟨rfl, rfl⟩

theorem gcd_dvd_one {x y x' y' : Int} (h : Int.gcd x y = 1) (hx : x' ∣ x) (hy : y' ∣ y) : Int.gcd x' y' = 1 := by
  have h1 := Int.gcd_dvd_gcd_of_dvd_left y hx
  have h2 := Int.gcd_dvd_gcd_of_dvd_right x' hy
  have h3 := Nat.dvd_trans h2 h1
  rw [h] at h3
  exact Nat.dvd_one.1 h3
theorem gcd_mul_one {x y z : Int} (h1 : Int.gcd x y = 1) (h2 : Int.gcd x z = 1) : Int.gcd x (y * z) = 1 := by
  rw [Int.gcd_mul_right_right_of_gcd_eq_one h1]; exact h2
theorem gcd_mul_one' {x y z : Int} (h1 : Int.gcd x z = 1) (h2 : Int.gcd y z = 1) : Int.gcd (x * y) z = 1 := by
  rw [Int.gcd_comm] at *
  exact gcd_mul_one h1 h2
theorem div_dvd {x y : Int} (h : y ∣ x) : x / y ∣ x := ⟨y, (Int.ediv_mul_cancel h).symm⟩

/-- The sum. -/
theorem add_facts (a b : Rat) (g m n s h p r : Int) (hg : g = (Int.gcd a.den b.den : Nat)) (hm : m = a.den / g) (hn : n = b.den / g) (hs : s = a.num * n + b.num * m) (hh : h = (Int.gcd s g : Nat)) (hp : p = s / h) (hr : r = g / h) :
    Int.gcd p (m * n * r) = 1 ∧ Rat.divInt p (m * n * r) = a + b := by
  have ha := den_ne a
  have hb := den_ne b
  have hgp : 0 < Int.gcd a.den b.den := Int.gcd_pos_of_ne_zero_left _ ha
  have hg0 : g ≠ 0 := by omega
  have hga : g ∣ (a.den : Int) := by rw [hg]; exact Int.gcd_dvd_left ..
  have hgb : g ∣ (b.den : Int) := by rw [hg]; exact Int.gcd_dvd_right ..
  have ea : (a.den : Int) = m * g := by rw [hm]; exact (Int.ediv_mul_cancel hga).symm
  have eb : (b.den : Int) = n * g := by rw [hn]; exact (Int.ediv_mul_cancel hgb).symm
  have hhp : 0 < Int.gcd s g := Int.gcd_pos_of_ne_zero_right _ hg0
  have hh0 : h ≠ 0 := by omega
  have hhs : h ∣ s := by rw [hh]; exact Int.gcd_dvd_left ..
  have hhg : h ∣ g := by rw [hh]; exact Int.gcd_dvd_right ..
  have es : s = p * h := by rw [hp]; exact (Int.ediv_mul_cancel hhs).symm
  have eg : g = r * h := by rw [hr]; exact (Int.ediv_mul_cancel hhg).symm
  have hmn : Int.gcd m n = 1 := by rw [hm, hn, hg]; exact Int.gcd_ediv_gcd_ediv_gcd hgp
  have hpr : Int.gcd p r = 1 := by rw [hp, hr, hh]; exact Int.gcd_ediv_gcd_ediv_gcd hhp
  have hm0 : m ≠ 0 := fun e => ha (by rw [ea, e, Int.zero_mul])
  have hn0 : n ≠ 0 := fun e => hb (by rw [eb, e, Int.zero_mul])
  have hr0 : r ≠ 0 := fun e => hg0 (by rw [eg, e, Int.zero_mul])
  have h1m : Int.gcd a.num m = 1 := gcd_dvd_one (red a) (Int.dvd_refl _) ⟨g, ea⟩
  have h2n : Int.gcd b.num n = 1 := gcd_dvd_one (red b) (Int.dvd_refl _) ⟨g, eb⟩
  have hsm : Int.gcd s m = 1 := by
    rw [hs, Int.gcd_add_mul_right_left]
    exact gcd_mul_one' h1m (by rw [Int.gcd_comm]; exact hmn)
  have hsn : Int.gcd s n = 1 := by
    rw [hs, Int.add_comm, Int.gcd_add_mul_right_left]
    exact gcd_mul_one' h2n hmn
  have hps : p ∣ s := ⟨h, es⟩
  refine ⟨gcd_mul_one (gcd_mul_one (gcd_dvd_one hsm hps (Int.dvd_refl _)) (gcd_dvd_one hsn hps (Int.dvd_refl _))) hpr, ?_⟩
  have hq0 : m * n * r ≠ 0 := Int.mul_ne_zero (Int.mul_ne_zero hm0 hn0) hr0
  have e : a + b = Rat.divInt (a.num * b.den + b.num * a.den) (a.den * b.den) := by
    rw [← Rat.divInt_add_divInt a.num b.num ha hb, Rat.num_divInt_den, Rat.num_divInt_den]
  rw [e, Rat.divInt_eq_divInt_iff hq0 (Int.mul_ne_zero ha hb), ea, eb]
  have : a.num * (n * g) + b.num * (m * g) = s * g := by rw [hs]; grind
  rw [this, es, eg]
  grind
/-- The product. -/
theorem mul_facts (a b : Rat) (g h m n r s : Int) (hg : g = (Int.gcd a.num b.den : Nat)) (hh : h = (Int.gcd b.num a.den : Nat)) (hm : m = a.num / g) (hs : s = b.den / g) (hn : n = b.num / h) (hr : r = a.den / h) :
    Int.gcd (m * n) (r * s) = 1 ∧ Rat.divInt (m * n) (r * s) = a * b := by
  have ha := den_ne a
  have hb := den_ne b
  have hgp : 0 < Int.gcd a.num b.den := Int.gcd_pos_of_ne_zero_right _ hb
  have hhp : 0 < Int.gcd b.num a.den := Int.gcd_pos_of_ne_zero_right _ ha
  have d1 : g ∣ a.num := by rw [hg]; exact Int.gcd_dvd_left ..
  have d2 : g ∣ (b.den : Int) := by rw [hg]; exact Int.gcd_dvd_right ..
  have d3 : h ∣ b.num := by rw [hh]; exact Int.gcd_dvd_left ..
  have d4 : h ∣ (a.den : Int) := by rw [hh]; exact Int.gcd_dvd_right ..
  have e1 : a.num = m * g := by rw [hm]; exact (Int.ediv_mul_cancel d1).symm
  have e2 : (b.den : Int) = s * g := by rw [hs]; exact (Int.ediv_mul_cancel d2).symm
  have e3 : b.num = n * h := by rw [hn]; exact (Int.ediv_mul_cancel d3).symm
  have e4 : (a.den : Int) = r * h := by rw [hr]; exact (Int.ediv_mul_cancel d4).symm
  have hms : Int.gcd m s = 1 := by rw [hm, hs, hg]; exact Int.gcd_ediv_gcd_ediv_gcd hgp
  have hnr : Int.gcd n r = 1 := by rw [hn, hr, hh]; exact Int.gcd_ediv_gcd_ediv_gcd hhp
  have hmr : Int.gcd m r = 1 := gcd_dvd_one (red a) ⟨g, e1⟩ ⟨h, e4⟩
  have hns : Int.gcd n s = 1 := gcd_dvd_one (red b) ⟨h, e3⟩ ⟨g, e2⟩
  have hr0 : r ≠ 0 := fun e => ha (by rw [e4, e, Int.zero_mul])
  have hs0 : s ≠ 0 := fun e => hb (by rw [e2, e, Int.zero_mul])
  refine ⟨gcd_mul_one (gcd_mul_one' hmr hnr) (gcd_mul_one' hms hns), ?_⟩
  have e : a * b = Rat.divInt (a.num * b.num) (a.den * b.den) := by
    rw [← Rat.divInt_mul_divInt, Rat.num_divInt_den, Rat.num_divInt_den]
  rw [e, Rat.divInt_eq_divInt_iff (Int.mul_ne_zero hr0 hs0) (Int.mul_ne_zero ha hb), e4, e2]
  rw [e1, e3]
  grind
theorem int_num_den {a b : Rat} (ha : a.den = 1) (hb : b.den = 1) : (a + b).num = a.num + b.num ∧ (a + b).den = 1 ∧ (a * b).num = a.num * b.num ∧ (a * b).den = 1 := by
  have xa : Rat.divInt a.num 1 = a := by have h := Rat.num_divInt_den a; rw [ha] at h; exact h
  have xb : Rat.divInt b.num 1 = b := by have h := Rat.num_divInt_den b; rw [hb] at h; exact h
  have e : a + b = Rat.divInt (a.num + b.num) 1 := by
    have h := Rat.divInt_add_divInt a.num b.num (d₁ := 1) (d₂ := 1) (by decide) (by decide)
    rw [xa, xb] at h
    rw [h]
    simp
  have e' : a * b = Rat.divInt (a.num * b.num) 1 := by
    have h := Rat.divInt_mul_divInt a.num b.num (d₁ := 1) (d₂ := 1)
    rw [xa, xb] at h
    rw [h]
    simp
  have hg : ∀ x : Int, Int.gcd x 1 = 1 := fun x => Int.gcd_one_right x
  refine ⟨?_, ?_, ?_, ?_⟩
  · rw [e, low_num (hg _)]; simp
  · have := low_den (hg (a.num + b.num)) (by decide); rw [e]; omega
  · rw [e', low_num (hg _)]; simp
  · have := low_den (hg (a.num * b.num)) (by decide); rw [e']; omega

/-- Any fraction, its common divisor taken out. -/
theorem make_facts (p q : Int) (hq : q ≠ 0) : Int.gcd (p / (Int.gcd p q : Nat)) (q / (Int.gcd p q : Nat)) = 1 ∧ Rat.divInt (p / (Int.gcd p q : Nat)) (q / (Int.gcd p q : Nat)) = Rat.divInt p q := by
  have hg : 0 < Int.gcd p q := Int.gcd_pos_of_ne_zero_right _ hq
  have d1 : ((Int.gcd p q : Nat) : Int) ∣ p := Int.gcd_dvd_left ..
  have d2 : ((Int.gcd p q : Nat) : Int) ∣ q := Int.gcd_dvd_right ..
  refine ⟨Int.gcd_ediv_gcd_ediv_gcd hg, ?_⟩
  obtain ⟨x, hx⟩ := d1
  obtain ⟨y, hy⟩ := d2
  generalize ((Int.gcd p q : Nat) : Int) = G at *
  have hG : G ≠ 0 := by rintro rfl; rw [Int.zero_mul] at hy; exact hq hy
  have h1 : p / G = x := by rw [hx]; exact Int.mul_ediv_cancel_left _ hG
  have h2 : q / G = y := by rw [hy]; exact Int.mul_ediv_cancel_left _ hG
  have hy0 : y ≠ 0 := by rintro rfl; rw [Int.mul_zero] at hy; exact hq hy
  rw [h1, h2, Rat.divInt_eq_divInt_iff hy0 hq]
  rw [hx, hy]
  grind

theorem sign_zero {q : Int} (h : (cmpI q 0 == 0) = true) : q = 0 := by
  have h : cmpI q 0 = 0 := by simpa using h
  unfold cmpI at h
  split at h
  · omega
  · split at h <;> omega
theorem sign_neg {q : Int} (h : (cmpI q 0 == -1) = true) : q < 0 := by
  have h : cmpI q 0 = -1 := by simpa using h
  unfold cmpI at h
  split at h
  · omega
  · split at h <;> omega
theorem sign_pos {q : Int} (h : (cmpI q 0 == 0) = false) (h' : (cmpI q 0 == -1) = false) : 0 < q := by
  have h : cmpI q 0 ≠ 0 := by simpa using h
  have h' : cmpI q 0 ≠ -1 := by simpa using h'
  unfold cmpI at h h'
  split at h
  · simp_all
  · split at h <;> omega

end Vc
end Go.Proofs.YtabjodomigllhaaGreatDoor
