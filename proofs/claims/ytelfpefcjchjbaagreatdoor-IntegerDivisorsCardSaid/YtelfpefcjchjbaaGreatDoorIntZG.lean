/-
  Plain facts of the division of great numbers: two words by one (Knuth's halves), and the guess of a digit.
-/
import Derived.Test.YtelfpefcjchjbaaGreatDoorInt0
namespace Go.Proofs.YtelfpefcjchjbaaGreatDoor
namespace Dv

/-- One half's loop: the guess q and what it leaves, r. -/
structure J (un v1 v0 d q r : Nat) : Prop where
  sum : q * v1 + r = un
  up : (un * 4294967296 + d) / (v1 * 4294967296 + v0) ≤ q
  top : q ≤ 4294967297

theorem mul_v (q v1 v0 : Nat) : q * (v1 * 4294967296 + v0) = q * v1 * 4294967296 + q * v0 := by
  rw [Nat.mul_add, Nat.mul_assoc]

theorem J.start {un v1 v0 d : Nat} (h0 : v0 < 4294967296) (h1 : 2147483648 ≤ v1) (hu : un < v1 * 4294967296 + v0) (hd : d < 4294967296) : J un v1 v0 d (un / v1) (un % v1) := by
  have hv : 0 < v1 := by omega
  refine ⟨by rw [Nat.mul_comm]; exact Nat.div_add_mod un v1, ?_, ?_⟩
  · rw [Nat.le_div_iff_mul_le hv]
    have h := Nat.div_mul_le_self (un * 4294967296 + d) (v1 * 4294967296 + v0)
    generalize (un * 4294967296 + d) / (v1 * 4294967296 + v0) = q at *
    rw [mul_v] at h
    omega
  · have : un / v1 < 4294967298 := by
      rw [Nat.div_lt_iff_lt_mul hv]
      omega
    omega
theorem J.exit {un v1 v0 d q r : Nat} (h : J un v1 v0 d q r) (h1 : 2147483648 ≤ v1) (hc : q * v0 ≤ 4294967296 * r + d) : q = (un * 4294967296 + d) / (v1 * 4294967296 + v0) := by
  refine Nat.le_antisymm ?_ h.up
  rw [Nat.le_div_iff_mul_le (by omega), mul_v]
  have := h.sum
  omega
theorem J.big {un v1 v0 d q r : Nat} (h : J un v1 v0 d q r) (h0 : v0 < 4294967296) (h1 : 2147483648 ≤ v1) (hq : q ≤ 4294967296) (hr : 4294967296 ≤ r) : q = (un * 4294967296 + d) / (v1 * 4294967296 + v0) := by
  refine h.exit h1 ?_
  have : q * v0 ≤ 4294967296 * v0 := Nat.mul_le_mul_right _ hq
  omega
theorem J.down {un v1 v0 d q r : Nat} (h : J un v1 v0 d q r) (h1 : 2147483648 ≤ v1) (hu : un < v1 * 4294967296 + v0) (hd : d < 4294967296) (hc : 4294967296 ≤ q ∨ 4294967296 * r + d < q * v0) : ∃ p, q = p + 1 ∧ J un v1 v0 d p (r + v1) := by
  have hlt : (un * 4294967296 + d) / (v1 * 4294967296 + v0) < q := by
    rcases hc with hc | hc
    · refine Nat.lt_of_lt_of_le ?_ hc
      rw [Nat.div_lt_iff_lt_mul (by omega)]
      omega
    · rw [Nat.div_lt_iff_lt_mul (by omega), mul_v]
      have := h.sum
      omega
  obtain ⟨p, rfl⟩ : ∃ p, q = p + 1 := ⟨q - 1, (Nat.sub_add_cancel (Nat.lt_of_le_of_lt (Nat.zero_le _) hlt)).symm⟩
  refine ⟨p, rfl, ?_, Nat.le_of_lt_succ hlt, by have := h.top; omega⟩
  have := h.sum
  rw [Nat.succ_mul] at this
  omega
/-- The quotient of a half is a half. -/
theorem half_lt {un v d : Nat} (hu : un < v) (hd : d < 4294967296) : (un * 4294967296 + d) / v < 4294967296 := by
  rw [Nat.div_lt_iff_lt_mul (by omega)]
  omega

/-- Two halves make the whole. -/
theorem two_halves (W x v d0 : Nat) (hv : 0 < v) : (x * W + d0) / v = x / v * W + (x % v * W + d0) / v ∧ (x * W + d0) % v = (x % v * W + d0) % v := by
  have e : x * W + d0 = (x % v * W + d0) + v * (x / v * W) := by
    have h := Nat.div_add_mod x v
    rw [← Nat.mul_assoc, Nat.add_right_comm, ← Nat.add_mul, Nat.add_comm (x % v), h]
  generalize hr : x % v = r at *
  generalize hq : x / v = q at *
  constructor
  · rw [e, Nat.add_mul_div_left _ _ hv, Nat.add_comm]
  · rw [e, Nat.add_mul_mod_self_left]

/-- The quotient and the rest of both shifted. -/
theorem shifted (n y s : Nat) (_hy : 0 < y) : n * 2 ^ s / (y * 2 ^ s) = n / y ∧ n * 2 ^ s % (y * 2 ^ s) = n % y * 2 ^ s :=
  ⟨Nat.mul_div_mul_right _ _ (Nat.two_pow_pos s), Nat.mul_mod_mul_right _ _ _⟩

/-- A guess by the greatest digits is right, or greater by 1. -/
theorem guess {p y N Y P pl yl B : Nat} (hB : 0 < B) (hp : p = N * P + pl) (hy : y = Y * P + yl) (hpl : pl < P) (hyl : yl < P) (hpy : p < B * y) (hY : B ≤ Y) :
    p / y ≤ N / Y ∧ N / Y ≤ p / y + 1 ∧ N / Y ≤ B := by
  have hY0 : 0 < Y := by omega
  have hP0 : 0 < P := by omega
  have hy0 : 0 < y := by
    have := Nat.mul_pos hY0 hP0
    rw [hy]
    omega
  have hNB : N < B * (Y + 1) := by
    refine Nat.lt_of_mul_lt_mul_right (a := P) ?_
    have h1 : B * y ≤ B * ((Y + 1) * P) := Nat.mul_le_mul_left _ (by rw [Nat.succ_mul]; omega)
    rw [← Nat.mul_assoc] at h1
    refine Nat.lt_of_lt_of_le ?_ h1
    refine Nat.lt_of_le_of_lt ?_ hpy
    rw [hp]
    exact Nat.le_add_right _ _
  have hqB : N / Y ≤ B := by
    have : N / Y < B + 1 := by
      rw [Nat.div_lt_iff_lt_mul hY0, Nat.succ_mul]
      rw [Nat.mul_add, Nat.mul_one] at hNB
      omega
    omega
  refine ⟨?_, ?_, hqB⟩
  · rw [Nat.le_div_iff_mul_le hY0]
    have h1 := Nat.div_mul_le_self p y
    generalize p / y = Q at *
    have h2 : Q * Y * P ≤ Q * y := by
      rw [Nat.mul_assoc]
      exact Nat.mul_le_mul_left _ (by omega)
    have h3 : Q * Y * P < (N + 1) * P := by rw [Nat.succ_mul]; omega
    have := Nat.lt_of_mul_lt_mul_right h3
    omega
  · rcases Nat.eq_zero_or_pos (N / Y) with h0 | h0
    · rw [h0]; exact Nat.zero_le _
    · obtain ⟨k, hk⟩ : ∃ k, N / Y = k + 1 := ⟨N / Y - 1, by omega⟩
      have h1 := Nat.div_mul_le_self N Y
      rw [hk] at h1 hqB ⊢
      refine Nat.succ_le_succ ?_
      rw [Nat.le_div_iff_mul_le hy0]
      rw [Nat.succ_mul] at h1
      have h2 : k * y ≤ k * ((Y + 1) * P) := Nat.mul_le_mul_left _ (by rw [Nat.succ_mul]; omega)
      rw [← Nat.mul_assoc, Nat.mul_add, Nat.mul_one] at h2
      have h3 : (k * Y + k) * P ≤ N * P := Nat.mul_le_mul_right _ (by omega)
      omega

end Dv
end Go.Proofs.YtelfpefcjchjbaaGreatDoor
