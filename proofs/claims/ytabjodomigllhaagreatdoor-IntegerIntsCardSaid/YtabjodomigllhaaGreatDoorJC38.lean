/-
  Plain facts on fractions: their order, floors and ceilings.
-/
import Derived.Test.YtabjodomigllhaaGreatDoorJC37
namespace Go.Proofs.YtabjodomigllhaaGreatDoor
open Dg Zn
namespace Vc

theorem cmpR_lt (a b : Rat) : cmpR a b = if a < b then -1 else if b < a then 1 else 0 := by
  unfold cmpR cmpI
  simp only [Rat.lt_iff]
theorem cmpR_add (a b c : Rat) : cmpR (a + c) (b + c) = cmpR a b := by
  rw [cmpR_lt, cmpR_lt]
  grind
theorem cmpR_swap (a b : Rat) : cmpR b a = -cmpR a b := by
  rw [cmpR_lt, cmpR_lt]
  grind
theorem cmpR_num (a : Rat) : cmpI a.num 0 = cmpR a 0 := by
  unfold cmpR
  simp
theorem cmpR_sub (a b : Rat) : cmpI (a - b).num 0 = cmpR a b := by
  rw [cmpR_num, cmpR_lt, cmpR_lt]
  grind
theorem cmpR_same (a b : Rat) : decide (a = b) = (cmpR a b == 0) := by
  rw [cmpR_lt]
  grind
theorem cmpR_pos {a b c : Rat} (h : 0 < cmpI c.num 0) : cmpR (a * c) (b * c) = cmpR a b := by
  have hc : 0 < c := by
    rw [cmpR_num, cmpR_lt] at h
    grind
  have key : ∀ x y : Rat, x * c < y * c ↔ x < y := fun x y => Rat.mul_lt_mul_right hc
  rw [cmpR_lt, cmpR_lt]
  simp only [key]
theorem cmpR_neg {a b c : Rat} (h : cmpI c.num 0 < 0) : cmpR (a * c) (b * c) = -cmpR a b := by
  have hc : 0 < -c := by
    rw [cmpR_num, cmpR_lt] at h
    grind
  have key : ∀ x y : Rat, x * c < y * c ↔ y < x := fun x y => by
    have h1 := Rat.mul_lt_mul_right (a := y) (b := x) hc
    rw [← h1]
    grind
  rw [cmpR_lt, cmpR_lt]
  simp only [key]
  grind
theorem cmpR_bd (a b : Rat) : cmpR a b = -1 ∨ cmpR a b = 0 ∨ cmpR a b = 1 := by
  rw [cmpR_lt]
  grind
theorem whole_parts (z : Int) : (Rat.divInt z 1).num = z ∧ ((Rat.divInt z 1).den : Int) = 1 := by
  have hg : Int.gcd z 1 = 1 := Int.gcd_one_right z
  refine ⟨by rw [low_num hg]; simp, ?_⟩
  rw [low_den hg (by decide)]
  rfl
theorem cmpR_whole (z : Int) (a : Rat) : cmpR (Rat.divInt z 1) a = cmpI (z * a.den) a.num := by
  unfold cmpR
  rw [(whole_parts z).1, (whole_parts z).2]
  simp
/-- Floor and ceiling. -/
theorem round_facts (a : Rat) (lo hi : Int) (h1 : lo = a.num / a.den) (h2 : hi = -(-a.num / a.den)) :
    (hi - lo = 0 ∨ hi - lo = 1) ∧ (hi - lo == 0) = (cmpR (Rat.divInt lo 1) a == 0) ∧ cmpR (Rat.divInt lo 1) a ≤ 0 ∧ 0 ≤ cmpR (Rat.divInt hi 1) a := by
  have hd : 0 < (a.den : Int) := by have := a.den_nz; omega
  have e1 := Int.mul_ediv_add_emod a.num a.den
  have e2 := Int.mul_ediv_add_emod (-a.num) a.den
  have r1 := Int.emod_nonneg a.num (Int.ne_of_gt hd)
  have r2 := Int.emod_lt_of_pos a.num hd
  have r3 := Int.emod_nonneg (-a.num) (Int.ne_of_gt hd)
  have r4 := Int.emod_lt_of_pos (-a.num) hd
  rw [← h1] at e1
  rw [show -a.num / (a.den : Int) = -hi by omega] at e2
  rw [cmpR_whole, cmpR_whole]
  generalize (a.den : Int) = d at *
  generalize a.num = n at *
  have hm : ∀ x y : Int, x + 1 ≤ y → d * x + d ≤ d * y := fun x y h => by
    have := Int.mul_le_mul_of_nonneg_left h (Int.le_of_lt hd)
    rw [Int.mul_add] at this
    omega
  have hneg : d * -hi = -(d * hi) := by rw [Int.mul_neg]
  have hle : lo ≤ hi := by
    rcases Int.lt_or_le hi lo with h | h
    · have := hm hi lo h; omega
    · exact h
  have hge : hi ≤ lo + 1 := by
    rcases Int.lt_or_le (lo + 1) hi with h | h
    · have h3 := hm (lo + 1) hi h
      have h4 : d * (lo + 1) = d * lo + d := by rw [Int.mul_add]; omega
      omega
    · exact h
  have c1 : lo * d = d * lo := Int.mul_comm ..
  have c2 : hi * d = d * hi := Int.mul_comm ..
  refine ⟨by omega, ?_, ?_, ?_⟩
  · rw [Bool.eq_iff_iff, cmpI_eq, decide_eq_true_eq, beq_iff_eq]
    constructor
    · intro h
      have : hi = lo := by omega
      subst this
      omega
    · intro h
      rcases Int.lt_or_le lo hi with h3 | h3
      · have := hm lo hi h3; omega
      · omega
  · unfold cmpI
    split
    · decide
    · split
      · omega
      · decide
  · unfold cmpI
    split
    · omega
    · split <;> decide

end Vc
end Go.Proofs.YtabjodomigllhaaGreatDoor
