/-
  Plain facts of Lehmer's steps of Euclid's algorithm.
-/
import Derived.Test.YtelfpefcjchjbaaGreatDoorIntZI
namespace Go.Proofs.YtelfpefcjchjbaaGreatDoor
namespace Lh

/-- Steps known of A and B (an even number of them; an odd number with A and B the other way round): what they have become, X and Y; x0, y0, x, y are the same divided by M, roughly. -/
structure E (A B x0 y0 M P Q R S x y X Y : Int) : Prop where
  hM : 0 < M
  a1 : M * x0 ≤ A
  a2 : A ≤ M * x0 + M
  b1 : M * y0 ≤ B
  b2 : B ≤ M * y0 + M
  hP : 0 ≤ P
  hQ : 0 ≤ Q
  hR : 0 ≤ R
  hS : 0 ≤ S
  hX : X = P * A - Q * B
  hY : Y = S * B - R * A
  hx : x = P * x0 - Q * y0
  hy : y = S * y0 - R * x0
  hQx : Q ≤ x
  hRy : R ≤ y
  i1 : x0 = S * x + Q * y
  i2 : y0 = R * x + P * y

theorem E.lowX {A B x0 y0 M P Q R S x y X Y : Int} (h : E A B x0 y0 M P Q R S x y X Y) : M * (x - Q) ≤ X ∧ X ≤ M * (x + P) := by
  have h1 := Int.mul_le_mul_of_nonneg_left h.a1 h.hP
  have h2 := Int.mul_le_mul_of_nonneg_left h.a2 h.hP
  have h3 := Int.mul_le_mul_of_nonneg_left h.b1 h.hQ
  have h4 := Int.mul_le_mul_of_nonneg_left h.b2 h.hQ
  rw [h.hX, h.hx]
  have e1 : M * (P * x0 - Q * y0 - Q) = P * (M * x0) - Q * (M * y0 + M) := by grind
  have e2 : M * (P * x0 - Q * y0 + P) = P * (M * x0 + M) - Q * (M * y0) := by grind
  rw [e1, e2]
  omega
theorem E.lowY {A B x0 y0 M P Q R S x y X Y : Int} (h : E A B x0 y0 M P Q R S x y X Y) : M * (y - R) ≤ Y ∧ Y ≤ M * (y + S) := by
  have h1 := Int.mul_le_mul_of_nonneg_left h.a1 h.hR
  have h2 := Int.mul_le_mul_of_nonneg_left h.a2 h.hR
  have h3 := Int.mul_le_mul_of_nonneg_left h.b1 h.hS
  have h4 := Int.mul_le_mul_of_nonneg_left h.b2 h.hS
  rw [h.hY, h.hy]
  have e1 : M * (S * y0 - R * x0 - R) = S * (M * y0) - R * (M * x0 + M) := by grind
  have e2 : M * (S * y0 - R * x0 + S) = S * (M * y0 + M) - R * (M * x0) := by grind
  rw [e1, e2]
  omega

/-- A step more. -/
theorem E.step {A B x0 y0 M P Q R S x y X Y k : Int} (h : E A B x0 y0 M P Q R S x y X Y) (hk1 : k * (y - R) ≤ x + P) (hk2 : x + P < (k + 1) * (y - R)) (hk3 : k * (y + S) ≤ x - Q) (hk : 0 ≤ k) :
    E B A y0 x0 M S R (Q + k * S) (P + k * R) y (x - k * y) Y (X - k * Y) ∧ 0 ≤ X - k * Y ∧ X - k * Y < Y := by
  obtain ⟨l1, l2⟩ := h.lowX
  obtain ⟨l3, l4⟩ := h.lowY
  have hkS := Int.mul_nonneg hk h.hS
  have hkR := Int.mul_nonneg hk h.hR
  refine ⟨⟨h.hM, h.b1, h.b2, h.a1, h.a2, h.hS, h.hR, ?_, ?_, ?_, ?_, ?_, ?_, h.hRy, ?_, ?_, ?_⟩, ?_, ?_⟩
  · have := h.hQ; omega
  · have := h.hP; omega
  · exact h.hY
  · rw [h.hX, h.hY]; grind
  · exact h.hy
  · rw [h.hx, h.hy]; grind
  · rw [Int.mul_add] at hk3; omega
  · have := h.i2; grind
  · have := h.i1; grind
  · have e1 := Int.mul_le_mul_of_nonneg_left l4 hk
    have e2 := Int.mul_le_mul_of_nonneg_left hk3 (Int.le_of_lt h.hM)
    have e3 : M * (k * (y + S)) = k * (M * (y + S)) := Int.mul_left_comm ..
    rw [e3] at e2
    omega
  · have e1 := Int.mul_lt_mul_of_pos_left hk2 h.hM
    have e2 := Int.mul_le_mul_of_nonneg_left l3 (show 0 ≤ k + 1 by omega)
    have e3 : M * ((k + 1) * (y - R)) = (k + 1) * (M * (y - R)) := Int.mul_left_comm ..
    rw [e3] at e1
    have e4 : (k + 1) * Y = k * Y + Y := by grind
    rw [e4] at e2
    omega

/-- The factors of a step stay small. -/
theorem E.small {A B x0 y0 M P Q R S x y X Y k : Int} (h : E A B x0 y0 M P Q R S x y X Y) (hk2 : x + P < (k + 1) * (y - R)) (hk3 : k * (y + S) ≤ x - Q) (hk : 0 ≤ k) (hx0 : x0 < 1000000000000000000) (hy0 : y0 < 1000000000000000000) :
    0 ≤ k * S ∧ 0 ≤ k * R ∧ Q + k * S < 1000000000 ∧ P + k * R < 1000000000 ∧ 0 ≤ k * y ∧ x - k * y < y ∧ 0 ≤ x - k * y := by
  have hkS := Int.mul_nonneg hk h.hS
  have hkR := Int.mul_nonneg hk h.hR
  have hQ := h.hQ
  have hR := h.hR
  have hP := h.hP
  have hRy := h.hRy
  have hky := Int.mul_nonneg hk (show 0 ≤ y by omega)
  have e2 : (k + 1) * (y - R) = k * y + y - k * R - R := by grind
  rw [e2] at hk2
  rw [Int.mul_add] at hk3
  have j1 : y0 = (P + k * R) * y + R * (x - k * y) := by have := h.i2; grind
  have j2 : x0 = (Q + k * S) * y + S * (x - k * y) := by have := h.i1; grind
  have n1 := Int.mul_nonneg h.hR (show 0 ≤ x - k * y by omega)
  have n2 := Int.mul_nonneg h.hS (show 0 ≤ x - k * y by omega)
  have key : ∀ u v z : Int, 0 ≤ u → u ≤ y → z = u * y + v → 0 ≤ v → z < 1000000000000000000 → u < 1000000000 := by
    intro u v z hu huy hz hv hlt
    refine Int.lt_of_not_ge fun hge => ?_
    have := Int.mul_le_mul hge huy hu hu
    have := Int.mul_le_mul_of_nonneg_right hge (show (0 : Int) ≤ 1000000000 by decide)
    have := Int.mul_le_mul_of_nonneg_left hge hu
    omega
  refine ⟨hkS, hkR, ?_, ?_, hky, by omega, by omega⟩
  · exact key _ _ _ (by omega) (by omega) j2 n2 hx0
  · exact key _ _ _ (by omega) (by omega) j1 n1 hy0

/-- The state of the steps, in the order in which the program holds them. -/
def T (A B x0 y0 M p q r s x y X Y : Int) : Prop :=
  (∃ P Q R S, E A B x0 y0 M P Q R S x y X Y ∧ p = P ∧ q = -Q ∧ r = -R ∧ s = S) ∨ (∃ P Q R S, E B A y0 x0 M P Q R S x y X Y ∧ p = -Q ∧ q = P ∧ r = S ∧ s = -R)
theorem T.start {A B x0 y0 M : Int} (hM : 0 < M) (a1 : M * x0 ≤ A) (a2 : A ≤ M * x0 + M) (b1 : M * y0 ≤ B) (b2 : B ≤ M * y0 + M) (hx : 0 ≤ x0) (hy : 0 ≤ y0) : T A B x0 y0 M 1 0 0 1 x0 y0 A B :=
  .inl ⟨1, 0, 0, 1, ⟨hM, a1, a2, b1, b2, by decide, by decide, by decide, by decide, by omega, by omega, by omega, by omega, by omega, by omega, by omega, by omega⟩, rfl, rfl, rfl, rfl⟩
theorem T.eqs {A B x0 y0 M p q r s x y X Y : Int} (h : T A B x0 y0 M p q r s x y X Y) : X = p * A + q * B ∧ Y = r * A + s * B ∧ 0 ≤ x + p ∧ 0 ≤ x + q ∧ 0 ≤ y + r ∧ 0 ≤ y + s ∧ 0 ≤ x ∧ 0 ≤ y := by
  rcases h with ⟨P, Q, R, S, h, rfl, rfl, rfl, rfl⟩ | ⟨P, Q, R, S, h, rfl, rfl, rfl, rfl⟩
  · have := h.hP; have := h.hQ; have := h.hR; have := h.hS; have := h.hQx; have := h.hRy
    refine ⟨?_, ?_, by omega, by omega, by omega, by omega, by omega, by omega⟩
    · have := h.hX; grind
    · have := h.hY; grind
  · have := h.hP; have := h.hQ; have := h.hR; have := h.hS; have := h.hQx; have := h.hRy
    refine ⟨?_, ?_, by omega, by omega, by omega, by omega, by omega, by omega⟩
    · have := h.hX; grind
    · have := h.hY; grind
theorem T.step {A B x0 y0 M p q r s x y X Y k : Int} (h : T A B x0 y0 M p q r s x y X Y) (h1 : y + r ≠ 0) (h2 : y + s ≠ 0) (hk1 : k = (x + p) / (y + r)) (hk2 : k = (x + q) / (y + s)) (hx0 : x0 < 1000000000000000000) (hy0 : y0 < 1000000000000000000) :
    T A B x0 y0 M r s (p - k * r) (q - k * s) y (x - k * y) Y (X - k * Y) ∧ 0 ≤ X - k * Y ∧ X - k * Y < Y ∧
    (-1000000000 < p - k * r ∧ p - k * r < 1000000000 ∧ -1000000000 < q - k * s ∧ q - k * s < 1000000000) ∧ 0 ≤ k ∧ 0 ≤ x - k * y ∧ x - k * y < y ∧ 0 ≤ k * y ∧ ((p - k * r ≤ 0 ∧ 0 ≤ q - k * s) ∨ (0 ≤ p - k * r ∧ q - k * s ≤ 0)) := by
  obtain ⟨-, -, p1, p2, p3, p4, -, -⟩ := h.eqs
  have hk : 0 ≤ k := by rw [hk1]; exact Int.ediv_nonneg p1 p3
  have d1 := Int.mul_ediv_add_emod (x + p) (y + r)
  have d2 := Int.emod_nonneg (x + p) h1
  have d3 := Int.emod_lt_of_pos (x + p) (show 0 < y + r by omega)
  have d4 := Int.mul_ediv_add_emod (x + q) (y + s)
  have d5 := Int.emod_nonneg (x + q) h2
  have d6 := Int.emod_lt_of_pos (x + q) (show 0 < y + s by omega)
  rw [← hk1, Int.mul_comm] at d1
  rw [← hk2, Int.mul_comm] at d4
  have c1 : k * (y + r) ≤ x + p := by omega
  have c2 : x + p < (k + 1) * (y + r) := by rw [Int.add_mul, Int.one_mul]; omega
  have c3 : k * (y + s) ≤ x + q := by omega
  have c4 : x + q < (k + 1) * (y + s) := by rw [Int.add_mul, Int.one_mul]; omega
  clear d1 d2 d3 d4 d5 d6 hk1 hk2
  rcases h with ⟨P, Q, R, S, h, rfl, rfl, rfl, rfl⟩ | ⟨P, Q, R, S, h, rfl, rfl, rfl, rfl⟩
  · have e1 : y + -R = y - R := Int.add_neg_eq_sub
    have e2 : x + -Q = x - Q := Int.add_neg_eq_sub
    rw [e1] at c1 c2
    rw [e2] at c3
    obtain ⟨s1, s2, s3⟩ := h.step c1 c2 c3 hk
    obtain ⟨t1, t2, t3, t4, t5, t6, t7⟩ := h.small c2 c3 hk hx0 hy0
    have f1 : p - k * -R = p + k * R := by grind
    have f2 : -Q - k * s = -(Q + k * s) := by grind
    rw [f1, f2]
    have := h.hP
    have := h.hQ
    refine ⟨.inr ⟨s, R, Q + k * s, p + k * R, s1, rfl, rfl, rfl, rfl⟩, s2, s3, ⟨by omega, by omega, by omega, by omega⟩, hk, t7, t6, t5, .inr ⟨by omega, by omega⟩⟩
  · have e1 : y + -R = y - R := Int.add_neg_eq_sub
    have e2 : x + -Q = x - Q := Int.add_neg_eq_sub
    rw [e1] at c3 c4
    rw [e2] at c1
    obtain ⟨s1, s2, s3⟩ := h.step c3 c4 c1 hk
    obtain ⟨t1, t2, t3, t4, t5, t6, t7⟩ := h.small c4 c1 hk hy0 hx0
    have f1 : q - k * -R = q + k * R := by grind
    have f2 : -Q - k * r = -(Q + k * r) := by grind
    rw [f1, f2]
    have := h.hP
    have := h.hQ
    refine ⟨.inl ⟨r, R, Q + k * r, q + k * R, s1, rfl, rfl, rfl, rfl⟩, s2, s3, ⟨by omega, by omega, by omega, by omega⟩, hk, t7, t6, t5, .inl ⟨by omega, by omega⟩⟩

theorem gcd_step (X Y k : Int) : Int.gcd Y (X - k * Y) = Int.gcd X Y := by
  rw [Int.gcd_comm X Y]
  exact Int.gcd_sub_mul_right_right Y X k

end Lh
end Go.Proofs.YtelfpefcjchjbaaGreatDoor
