/-
  Natural numbers as lists of digits in base 1000000000, the least significant one first.
  Plain facts of the division of great numbers: two words by one (Knuth's halves), and the guess of a digit.
  Plain facts of the division of great numbers: a multiple taken from a part of the dividend.
  Plain facts of Lehmer's steps of Euclid's algorithm.
-/
import Derived.Lib.Hide
set_option linter.unusedVariables false
set_option linter.unusedSimpArgs false
set_option linter.unusedSectionVars false
namespace Go.Proofs.YtpgiebimhnhbiaaGreatDoor
namespace Dg
def val : List Nat → Nat
 | [] => 0
 | d :: ds => d + 1000000000 * val ds

def Dig (ds : List Nat) : Prop := ∀ d ∈ ds, d < 1000000000

def digF : Nat → Nat → List Nat
 | 0, _ => []
 | f + 1, n => if n = 0 then [] else n % 1000000000 :: digF f (n / 1000000000)
def dig (n : Nat) : List Nat := digF n n

def trimN : List Nat → List Nat
 | [] => []
 | d :: ds => if d = 0 ∧ trimN ds = [] then [] else d :: trimN ds

theorem digF_fuel : ∀ f g n, n ≤ f → n ≤ g → digF f n = digF g n := by
 intro f
 induction f with
 | zero =>
  intro g n h1 _
  obtain rfl : n = 0 := by omega
  cases g <;> simp [digF]
 | succ f ih =>
  intro g n h1 h2
  by_cases hn : n = 0
  ·subst hn
   cases g <;> simp [digF]
  ·obtain ⟨g, rfl⟩ : ∃ k, g = k + 1 := ⟨g - 1, by omega⟩
   simp only [digF, hn, if_false]
   rw [ih g (n / 1000000000) (by omega) (by omega)]

theorem dig_zero : dig 0 = [] := rfl
theorem dig_pos {n : Nat} (h : 0 < n) : dig n = n % 1000000000 :: dig (n / 1000000000) := by
 obtain ⟨k, rfl⟩ : ∃ k, n = k + 1 := ⟨n - 1, by omega⟩
 show digF (k + 1) (k + 1) = _
 simp only [digF, Nat.succ_ne_zero, if_false]
 rw [digF_fuel k ((k + 1) / 1000000000) _ (by omega) (Nat.le_refl _)]
 rfl
theorem dig_eq_nil {n : Nat} : dig n = [] ↔ n = 0 := by
 constructor
 ·intro h
  rcases Nat.eq_zero_or_pos n with h0 | h0
  ·exact h0
  ·rw [dig_pos h0] at h; cases h
 ·rintro rfl; rfl

theorem val_dig (n : Nat) : val (dig n) = n := by
 induction n using Nat.strongRecOn with
 | _ n ih =>
  rcases Nat.eq_zero_or_pos n with rfl | h0
  ·rfl
  ·rw [dig_pos h0]
   simp only [val]
   rw [ih (n / 1000000000) (by omega)]
   omega
theorem dig_Dig (n : Nat) : Dig (dig n) := by
 induction n using Nat.strongRecOn with
 | _ n ih =>
  rcases Nat.eq_zero_or_pos n with rfl | h0
  ·intro d hd; cases hd
  ·rw [dig_pos h0]
   intro d hd
   rcases List.mem_cons.1 hd with rfl | hd
   ·omega
   ·exact ih _ (by omega) d hd
theorem dig_inj {m n : Nat} (h : dig m = dig n) : m = n := by rw [← val_dig m, h, val_dig]

theorem Dig.tail {d : Nat} {ds : List Nat} (h : Dig (d :: ds)) : Dig ds := fun x hx => h x (List.mem_cons_of_mem _ hx)
theorem Dig.head {d : Nat} {ds : List Nat} (h : Dig (d :: ds)) : d < 1000000000 := h d (List.mem_cons_self ..)
theorem Dig.nil : Dig [] := fun _ h => by cases h
theorem Dig.cons {d : Nat} {ds : List Nat} (h1 : d < 1000000000) (h : Dig ds) : Dig (d :: ds) := by
 intro x hx
 rcases List.mem_cons.1 hx with rfl | hx
 ·exact h1
 ·exact h x hx
theorem Dig.append {a b : List Nat} (h1 : Dig a) (h2 : Dig b) : Dig (a ++ b) := by
 intro x hx
 rcases List.mem_append.1 hx with h | h
 ·exact h1 x h
 ·exact h2 x h
theorem Dig.take {a : List Nat} (h : Dig a) (k : Nat) : Dig (a.take k) := fun x hx => h x (List.mem_of_mem_take hx)
theorem Dig.at {a : List Nat} (h : Dig a) {k : Nat} (hk : k < a.length) : a[k] < 1000000000 := h _ (List.getElem_mem hk)
theorem Dig.getD {a : List Nat} (h : Dig a) (k : Nat) : a.getD k 0 < 1000000000 := by
 rw [List.getD_eq_getElem?_getD]
 rcases Nat.lt_or_ge k a.length with hk | hk
 ·rw [List.getElem?_eq_getElem hk]; exact h.at hk
 ·rw [List.getElem?_eq_none hk]; decide
theorem Dig.set {a : List Nat} (h : Dig a) (k d : Nat) (hd : d < 1000000000) : Dig (a.set k d) := by
 intro x hx
 rcases List.mem_or_eq_of_mem_set hx with h1 | h1
 ·exact h x h1
 ·rw [h1]; exact hd
theorem Dig.replicate (k : Nat) : Dig (List.replicate k 0) := by
 intro x hx
 rw [List.eq_of_mem_replicate hx]; decide

theorem dig_cons {d v : Nat} (hd : d < 1000000000) (h : 0 < d + 1000000000 * v) : dig (d + 1000000000 * v) = d :: dig v := by
 rw [dig_pos h, show (d + 1000000000 * v) % 1000000000 = d from by omega, show (d + 1000000000 * v) / 1000000000 = v from by omega]
theorem dig_val : ∀ {ds : List Nat}, Dig ds → dig (val ds) = trimN ds := by
 intro ds
 induction ds with
 | nil => intro _; rfl
 | cons d ds ih =>
  intro h
  have ih := ih h.tail
  have hd := h.head
  simp only [val, trimN]
  by_cases h0 : d = 0 ∧ trimN ds = []
  ·obtain ⟨rfl, h1⟩ := h0
   rw [if_pos ⟨rfl, h1⟩]
   rw [h1, dig_eq_nil] at ih
   rw [ih]; rfl
  ·rw [if_neg h0, ← ih]
   refine dig_cons hd ?_
   rcases Nat.eq_zero_or_pos (d + 1000000000 * val ds) with hz | hz
   ·exfalso
    refine h0 ⟨by omega, ?_⟩
    rw [← ih, show val ds = 0 from by omega]; rfl
   ·exact hz
theorem trimN_dig (n : Nat) : trimN (dig n) = dig n := by rw [← dig_val (dig_Dig n), val_dig]

theorem val_append (a b : List Nat) : val (a ++ b) = val a + 1000000000 ^ a.length * val b := by
 induction a with
 | nil => simp [val]
 | cons d a ih =>
  simp only [List.cons_append, val, ih, List.length_cons, Nat.pow_succ, Nat.mul_add]
  rw [Nat.mul_comm (1000000000 ^ a.length) 1000000000, Nat.mul_assoc]
  omega
theorem val_lt {ds : List Nat} (h : Dig ds) : val ds < 1000000000 ^ ds.length := by
 induction ds with
 | nil => simp [val]
 | cons d ds ih =>
  have := ih h.tail
  have := h.head
  simp only [val, List.length_cons, Nat.pow_succ]
  omega
theorem val_replicate (k : Nat) : val (List.replicate k 0) = 0 := by
 induction k with
 | zero => rfl
 | succ k ih => simp only [List.replicate_succ, val, ih, Nat.mul_zero, Nat.add_zero]
theorem val_take_succ {a : List Nat} {k : Nat} (h : k < a.length) : val (a.take (k + 1)) = val (a.take k) + 1000000000 ^ k * a[k] := by
 rw [List.take_succ_eq_append_getElem h, val_append]
 simp [val, List.length_take, Nat.min_eq_left (Nat.le_of_lt h)]
theorem val_drop {a : List Nat} {k : Nat} (h : k < a.length) : val (a.drop k) = a[k] + 1000000000 * val (a.drop (k + 1)) := by
 rw [List.drop_eq_getElem_cons h]; rfl
theorem val_split (a : List Nat) (k : Nat) (h : k ≤ a.length) : val a = val (a.take k) + 1000000000 ^ k * val (a.drop k) := by
 have := val_append (a.take k) (a.drop k)
 rw [List.take_append_drop, List.length_take, Nat.min_eq_left h] at this
 exact this
theorem val_set {a : List Nat} {k : Nat} (h : k < a.length) (d : Nat) : (val (a.set k d) : Int) = (val a : Int) + 1000000000 ^ k * ((d : Int) - (a[k] : Int)) := by
 induction a generalizing k with
 | nil => simp at h
 | cons x a ih =>
  cases k with
  | zero => simp only [List.set_cons_zero, val, List.getElem_cons_zero]; omega
  | succ k =>
   have := ih (show k < a.length by simpa using h)
   simp only [List.set_cons_succ, val, List.getElem_cons_succ, Int.natCast_add, Int.natCast_mul, this, Int.pow_succ]
   rw [Int.mul_add, Int.mul_comm ((1000000000 : Int) ^ k) (1000000000 : Int), Int.mul_assoc]
   simp; omega

theorem trimN_snoc_zero (ds : List Nat) : trimN (ds ++ [0]) = trimN ds := by
 induction ds with
 | nil => rfl
 | cons d ds ih => simp only [List.cons_append, trimN, ih]
theorem trimN_snoc {d : Nat} (hd : d ≠ 0) (ds : List Nat) : trimN (ds ++ [d]) = ds ++ [d] := by
 induction ds with
 | nil => simp [trimN, hd]
 | cons x ds ih => simp [trimN, ih]
theorem trimN_length (ds : List Nat) : (trimN ds).length ≤ ds.length := by
 induction ds with
 | nil => simp [trimN]
 | cons d ds ih =>
  simp only [trimN]
  split
  ·simp
  ·simp; omega
theorem take_pred {a : List Nat} {k : Nat} (hk : 0 < k) (h : k ≤ a.length) : a.take k = a.take (k - 1) ++ [a.getD (k - 1) 0] := by
 obtain ⟨j, rfl⟩ : ∃ j, k = j + 1 := ⟨k - 1, by omega⟩
 rw [List.take_succ_eq_append_getElem (by omega)]
 simp [List.getD_eq_getElem?_getD, List.getElem?_eq_getElem (show j < a.length by omega)]

theorem dig_length_le {n k : Nat} : (dig n).length ≤ k ↔ n < 1000000000 ^ k := by
 constructor
 ·intro h
  have h1 := val_lt (dig_Dig n)
  rw [val_dig] at h1
  exact Nat.lt_of_lt_of_le h1 (Nat.pow_le_pow_right (by decide) h)
 ·intro h
  induction k generalizing n with
  | zero =>
   obtain rfl : n = 0 := by simpa using h
   simp [dig_zero]
  | succ k ih =>
   rcases Nat.eq_zero_or_pos n with rfl | h0
   ·simp [dig_zero]
   ·rw [dig_pos h0, List.length_cons]
    have : n / 1000000000 < 1000000000 ^ k := by
     rw [Nat.pow_succ] at h
     exact Nat.div_lt_of_lt_mul (by rw [Nat.mul_comm]; exact h)
    have := ih this
    omega
theorem dig_length_mono {m n : Nat} (h : m ≤ n) : (dig m).length ≤ (dig n).length := by
 refine dig_length_le.2 (Nat.lt_of_le_of_lt h ?_)
 exact dig_length_le.1 (Nat.le_refl _)
theorem lt_of_length {m n : Nat} (h : (dig m).length < (dig n).length) : m < n := by
 rcases Nat.lt_or_ge m n with h1 | h1
 ·exact h1
 ·have := dig_length_mono h1; omega
theorem length_add (m n : Nat) : (dig (m + n)).length ≤ max (dig m).length (dig n).length + 1 := by
 refine dig_length_le.2 ?_
 have h1 : m < 1000000000 ^ max (dig m).length (dig n).length := dig_length_le.1 (Nat.le_max_left _ _)
 have h2 : n < 1000000000 ^ max (dig m).length (dig n).length := dig_length_le.1 (Nat.le_max_right _ _)
 rw [Nat.pow_succ]
 omega
theorem lt_at {a b : List Nat} {i : Nat} (ha : Dig a) (hi : i < a.length) (hj : i < b.length) (hd : a.drop (i + 1) = b.drop (i + 1)) (h : a[i] < b[i]) : val a < val b := by
 rw [val_split a i (by omega), val_split b i (by omega), val_drop hi, val_drop hj, hd]
 have h1 := val_lt (ha.take i)
 rw [List.length_take, Nat.min_eq_left (by omega)] at h1
 have h2 : 1000000000 ^ i * (a[i] + 1000000000 * val (b.drop (i + 1)) + 1) ≤ 1000000000 ^ i * (b[i] + 1000000000 * val (b.drop (i + 1))) := Nat.mul_le_mul_left _ (by omega)
 rw [Nat.mul_add, Nat.mul_one] at h2
 omega

theorem dig_last {n : Nat} (h : 0 < n) : (dig n).getD ((dig n).length - 1) 0 ≠ 0 := by
 have hl : 0 < (dig n).length := by
  rcases Nat.eq_zero_or_pos (dig n).length with h0 | h0
  ·rw [List.length_eq_zero_iff, dig_eq_nil] at h0; omega
  ·exact h0
 intro h0
 have h1 := take_pred hl (Nat.le_refl (dig n).length)
 rw [List.take_length, h0] at h1
 have h2 : dig n = trimN ((dig n).take ((dig n).length - 1)) := by
  have h3 := congrArg trimN h1
  rw [trimN_dig, trimN_snoc_zero] at h3
  exact h3
 have h3 := trimN_length ((dig n).take ((dig n).length - 1))
 rw [← h2, List.length_take] at h3
 omega
theorem dig_small {n : Nat} (h0 : 0 < n) (h : n < 1000000000) : dig n = [n] := by
 rw [dig_pos h0, show n / 1000000000 = 0 from by omega, show n % 1000000000 = n from by omega, dig_zero]
end Dg
end Go.Proofs.YtpgiebimhnhbiaaGreatDoor

namespace Go.Proofs.YtpgiebimhnhbiaaGreatDoor
namespace Dv
structure J (un v1 v0 d q r : Nat) : Prop where
 sum : q * v1 + r = un
 up : (un * 4294967296 + d) / (v1 * 4294967296 + v0) ≤ q
 top : q ≤ 4294967297

theorem guess {p y N Y P pl yl B : Nat} (hB : 0 < B) (hp : p = N * P + pl) (hy : y = Y * P + yl) (hpl : pl < P) (hyl : yl < P) (hpy : p < B * y) (hY : B ≤ Y) :
  p / y ≤ N / Y ∧ N / Y ≤ p / y + 1 ∧ N / Y ≤ B := by
 have hY0 : 0 < Y := by omega
 have hP0 : 0 < P := by omega
 have hy0 : 0 < y := by
  have := Nat.mul_pos hY0 hP0
  rw [hy]
  omega
 have hNB : N < B * (Y + 1) := by
  refine Nat.lt_of_mul_lt_mul_right (a := P) ?_
  have h1 : B * y ≤ B * ((Y + 1) * P) := Nat.mul_le_mul_left _ (by rw [Nat.succ_mul]; omega)
  rw [← Nat.mul_assoc] at h1
  refine Nat.lt_of_lt_of_le ?_ h1
  refine Nat.lt_of_le_of_lt ?_ hpy
  rw [hp]
  exact Nat.le_add_right _ _
 have hqB : N / Y ≤ B := by
  have : N / Y < B + 1 := by
   rw [Nat.div_lt_iff_lt_mul hY0, Nat.succ_mul]
   rw [Nat.mul_add, Nat.mul_one] at hNB
   omega
  omega
 refine ⟨?_, ?_, hqB⟩
 ·rw [Nat.le_div_iff_mul_le hY0]
  have h1 := Nat.div_mul_le_self p y
  generalize p / y = Q at *
  have h2 : Q * Y * P ≤ Q * y := by
   rw [Nat.mul_assoc]
   exact Nat.mul_le_mul_left _ (by omega)
  have h3 : Q * Y * P < (N + 1) * P := by rw [Nat.succ_mul]; omega
  have := Nat.lt_of_mul_lt_mul_right h3
  omega
 ·rcases Nat.eq_zero_or_pos (N / Y) with h0 | h0
  ·rw [h0]; exact Nat.zero_le _
  ·obtain ⟨k, hk⟩ : ∃ k, N / Y = k + 1 := ⟨N / Y - 1, by omega⟩
   have h1 := Nat.div_mul_le_self N Y
   rw [hk] at h1 hqB ⊢
   refine Nat.succ_le_succ ?_
   rw [Nat.le_div_iff_mul_le hy0]
   rw [Nat.succ_mul] at h1
   have h2 : k * y ≤ k * ((Y + 1) * P) := Nat.mul_le_mul_left _ (by rw [Nat.succ_mul]; omega)
   rw [← Nat.mul_assoc, Nat.mul_add, Nat.mul_one] at h2
   have h3 : (k * Y + k) * P ≤ N * P := Nat.mul_le_mul_right _ (by omega)
   omega
end Dv
end Go.Proofs.YtpgiebimhnhbiaaGreatDoor

namespace Go.Proofs.YtpgiebimhnhbiaaGreatDoor
open Dg
namespace Dv
end Dv
end Go.Proofs.YtpgiebimhnhbiaaGreatDoor

namespace Go.Proofs.YtpgiebimhnhbiaaGreatDoor
namespace Lh
structure E (A B x0 y0 M P Q R S x y X Y : Int) : Prop where
 hM : 0 < M
 a1 : M * x0 ≤ A
 a2 : A ≤ M * x0 + M
 b1 : M * y0 ≤ B
 b2 : B ≤ M * y0 + M
 hP : 0 ≤ P
 hQ : 0 ≤ Q
 hR : 0 ≤ R
 hS : 0 ≤ S
 hX : X = P * A - Q * B
 hY : Y = S * B - R * A
 hx : x = P * x0 - Q * y0
 hy : y = S * y0 - R * x0
 hQx : Q ≤ x
 hRy : R ≤ y
 i1 : x0 = S * x + Q * y
 i2 : y0 = R * x + P * y

def T (A B x0 y0 M p q r s x y X Y : Int) : Prop :=
 (∃ P Q R S, E A B x0 y0 M P Q R S x y X Y ∧ p = P ∧ q = -Q ∧ r = -R ∧ s = S) ∨ (∃ P Q R S, E B A y0 x0 M P Q R S x y X Y ∧ p = -Q ∧ q = P ∧ r = S ∧ s = -R)
end Lh
end Go.Proofs.YtpgiebimhnhbiaaGreatDoor
