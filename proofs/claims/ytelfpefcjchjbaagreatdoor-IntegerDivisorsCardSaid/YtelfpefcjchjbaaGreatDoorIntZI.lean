/-
  Plain facts of the division of great numbers: a multiple taken from a part of the dividend.
-/
import Derived.Test.YtelfpefcjchjbaaGreatDoorIntZG
namespace Go.Proofs.YtelfpefcjchjbaaGreatDoor
open Dg
namespace Dv

/-- Both words shifted. -/
theorem norm {hi lo s : Nat} (hs : s ≤ 64) : (hi * 2 ^ s + lo / 2 ^ (64 - s)) * 2 ^ 64 + lo * 2 ^ s % 2 ^ 64 = (hi * 2 ^ 64 + lo) * 2 ^ s := by
  have e : lo * 2 ^ s / 2 ^ 64 = lo / 2 ^ (64 - s) := by
    have h : (2 : Nat) ^ 64 = 2 ^ (64 - s) * 2 ^ s := by rw [← Nat.pow_add]; congr 1; omega
    rw [h, Nat.mul_div_mul_right _ _ (Nat.two_pow_pos s)]
  have h := Nat.div_add_mod (lo * 2 ^ s) (2 ^ 64)
  rw [e, Nat.mul_comm] at h
  rw [Nat.add_mul, Nat.add_mul, Nat.add_assoc, h, Nat.mul_right_comm]
theorem or_add {a b s : Nat} (h : b < 2 ^ s) : a * 2 ^ s ||| b = a * 2 ^ s + b := by
  have := Nat.shiftLeft_add_eq_or_of_lt h a
  rw [Nat.shiftLeft_eq] at this
  exact this.symm

theorem take_getD' (a : List Nat) (k : Nat) : val (a.take (k + 1)) = val (a.take k) + 1000000000 ^ k * a.getD k 0 := by
  rcases Nat.lt_or_ge k a.length with h | h
  · rw [val_take_succ h, List.getD_eq_getElem?_getD, List.getElem?_eq_getElem h]; rfl
  · rw [List.take_of_length_le (by omega), List.take_of_length_le h, List.getD_eq_getElem?_getD, List.getElem?_eq_none h]
    simp

theorem take_step {done lo b : List Nat} {k e : Nat} {C q s : Int} (h1 : done.length = k) (h6 : (val done : Int) + 1000000000 ^ k * C = (val (lo.take k) : Int) - q * (val (b.take k) : Int))
    (hs : s = ((lo.getD k 0 : Nat) : Int) - q * ((b.getD k 0 : Nat) : Int) + C) (he : s % 1000000000 = (e : Int)) :
    (val (done ++ [e]) : Int) + 1000000000 ^ (k + 1) * (s / 1000000000) = (val (lo.take (k + 1)) : Int) - q * (val (b.take (k + 1)) : Int) := by
  rw [val_append, h1, take_getD' lo, take_getD' b]
  simp only [val, Nat.mul_zero, Nat.add_zero, Int.natCast_add, Int.natCast_mul, Int.natCast_pow]
  have e0 : (e : Int) + 1000000000 * (s / 1000000000) = ((lo.getD k 0 : Nat) : Int) - q * ((b.getD k 0 : Nat) : Int) + C := by rw [← hs, ← he]; omega
  have e2 := congrArg (fun x => (1000000000 : Int) ^ k * x) e0
  simp only [Int.mul_add, Int.mul_sub] at e2
  rw [Int.pow_succ, Int.mul_add]
  rw [Int.mul_assoc ((1000000000 : Int) ^ k) 1000000000, Int.mul_left_comm q]
  show (val done : Int) + 1000000000 ^ k * (e : Int) + _ = _
  generalize (1000000000 : Int) ^ k * (e : Int) = e3 at *
  generalize (1000000000 : Int) ^ k * (1000000000 * (s / 1000000000)) = e4 at *
  generalize (1000000000 : Int) ^ k * C = e5 at *
  generalize (1000000000 : Int) ^ k * ((lo.getD k 0 : Nat) : Int) = e6 at *
  generalize (1000000000 : Int) ^ k * (q * ((b.getD k 0 : Nat) : Int)) = e7 at *
  show _ = ((val (lo.take k) : Nat) : Int) + e6 - (q * ((val (b.take k) : Nat) : Int) + e7)
  generalize q * ((val (b.take k) : Nat) : Int) = e9 at *
  omega

theorem step_bd {q : Int} {d z : Nat} {C s : Int} (hq1 : -1 ≤ q) (hq2 : q ≤ 1000000000) (hd : d < 1000000000) (hz : z < 1000000000) (hC1 : -1000000001 ≤ C) (hC2 : C ≤ 1) (hs : s = (z : Int) - q * (d : Int) + C) :
    -1000000000 ≤ q * (d : Int) ∧ q * (d : Int) ≤ 999999999000000000 ∧ -1000000001 ≤ s / 1000000000 ∧ s / 1000000000 ≤ 1 := by
  have a := Int.mul_le_mul_of_nonneg_right hq2 (show (0 : Int) ≤ (d : Int) by omega)
  have b := Int.mul_le_mul_of_nonneg_right hq1 (show (0 : Int) ≤ (d : Int) by omega)
  omega

theorem set_mid {α : Type} (pre : List α) (x y : α) (post : List α) {i : Nat} (h : pre.length = i) : (pre ++ x :: post).set i y = pre ++ y :: post := by
  subst h
  rw [List.set_append_right _ _ (Nat.le_refl _), Nat.sub_self, List.set_cons_zero]
theorem getD_mid {α : Type} (pre : List α) (x : α) (post : List α) (u : α) {i : Nat} (h : pre.length = i) : (pre ++ x :: post).getD i u = x := by
  subst h
  simp [List.getD_eq_getElem?_getD]

theorem top_zero {v P t r : Int} (h0 : 0 ≤ v) (h1 : v < P) (h : v + P * t = r) (hr0 : 0 ≤ r) (hr : r < P) : t = 0 ∧ v = r := by
  rcases Int.lt_trichotomy t 0 with ht | ht | ht
  · have := Int.mul_le_mul_of_nonneg_left (show t ≤ -1 by omega) (show 0 ≤ P by omega)
    rw [Int.mul_neg, Int.mul_one] at this
    omega
  · subst ht
    rw [Int.mul_zero] at h
    exact ⟨rfl, by omega⟩
  · have := Int.mul_le_mul_of_nonneg_left (show 1 ≤ t by omega) (show 0 ≤ P by omega)
    rw [Int.mul_one] at this
    omega
theorem top_pos {v P t r : Int} (h0 : 0 ≤ v) (h1 : v < P) (h : v + P * t = r) (ht : 0 ≤ t) : 0 ≤ r := by
  have := Int.mul_nonneg (show 0 ≤ P by omega) ht
  omega
theorem top_neg {v P t r : Int} (_h0 : 0 ≤ v) (h1 : v < P) (h : v + P * t = r) (ht : t < 0) : r < 0 := by
  have := Int.mul_le_mul_of_nonneg_left (show t ≤ -1 by omega) (show 0 ≤ P by omega)
  rw [Int.mul_neg, Int.mul_one] at this
  omega

/-- A digit more of the quotient. -/
theorem place_next {a qs : List Nat} {y k q r R : Nat} (hk : k < a.length) (hq : k < qs.length) (h : val (a.drop (k + 1)) = y * val (qs.drop (k + 1)) + R) (hp : a.getD k 0 + 1000000000 * R = y * q + r) :
    val (a.drop k) = y * val ((qs.set k q).drop k) + r := by
  have e1 : val ((qs.set k q).drop k) = q + 1000000000 * val (qs.drop (k + 1)) := by
    rw [val_drop (by simpa using hq)]
    congr 1
    · simp
    · congr 2
      rw [List.drop_set_of_lt (by omega)]
  have e2 : val (a.drop k) = a.getD k 0 + 1000000000 * val (a.drop (k + 1)) := by
    rw [val_drop hk]
    congr 1
    simp [List.getD_eq_getElem?_getD, hk]
  rw [e1, e2, h, Nat.mul_add, Nat.mul_add, Nat.mul_left_comm y 1000000000]
  generalize 1000000000 * (y * val (qs.drop (k + 1))) = X
  generalize y * q = Y at *
  omega

/-- Rows end with their last. -/
theorem split_last {x : Nat} {rr : List Nat} : ∃ lo t, x :: rr = lo ++ [t] ∧ lo.length = rr.length := by
  refine ⟨(x :: rr).dropLast, (x :: rr).getLast (by simp), (List.dropLast_concat_getLast (by simp)).symm, by simp⟩
theorem val_last (lo : List Nat) (t : Nat) : val (lo ++ [t]) = val lo + 1000000000 ^ lo.length * t := by
  rw [val_append]; simp [val]

end Dv
end Go.Proofs.YtelfpefcjchjbaaGreatDoor
