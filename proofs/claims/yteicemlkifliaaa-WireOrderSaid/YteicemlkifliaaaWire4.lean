/-
  Plain mathematics of package wire: the order of the codes.
-/
import Derived.Test.YteicemlkifliaaaWire0
namespace Go.Proofs.Yteicemlkifliaaa.W

/-- Byte by byte: is the first list less? -/
def lexLess : List Int → List Int → Bool
  | _, [] => false
  | [], _ :: _ => true
  | a :: x, b :: y => decide (a < b) || (decide (a = b) && lexLess x y)

theorem two_digits {P x y r s : Nat} (hr : r < P) (hs : s < P) : x * P + r < y * P + s ↔ x < y ∨ (x = y ∧ r < s) := by
  constructor
  · intro h
    rcases Nat.lt_trichotomy x y with h1 | h1 | h1
    · exact .inl h1
    · subst h1; exact .inr ⟨rfl, by omega⟩
    · have : (y + 1) * P ≤ x * P := Nat.mul_le_mul_right _ h1
      rw [Nat.add_mul] at this
      omega
  · rintro (h | ⟨rfl, h⟩)
    · have : (x + 1) * P ≤ y * P := Nat.mul_le_mul_right _ h
      rw [Nat.add_mul] at this
      omega
    · omega

theorem mod_succ (k a : Nat) : a % 256 ^ (k + 1) = a / 256 ^ k % 256 * 256 ^ k + a % 256 ^ k := by
  rw [Nat.pow_succ, Nat.mod_mul, Nat.mul_comm, Nat.add_comm]

theorem lex_be (k a b : Nat) : lexLess ((be k a).map Int.ofNat) ((be k b).map Int.ofNat) = decide (a % 256 ^ k < b % 256 ^ k) := by
  induction k with
  | zero => simp [be, lexLess, Nat.mod_one]
  | succ k ih =>
    have hp : 0 < 256 ^ k := Nat.pow_pos (by decide)
    have h1 := Nat.mod_lt a hp
    have h2 := Nat.mod_lt b hp
    simp only [be, List.map_cons, lexLess, ih, mod_succ]
    rw [Bool.eq_iff_iff]
    simp only [Bool.or_eq_true, Bool.and_eq_true, decide_eq_true_eq, two_digits h1 h2]
    simp only [Int.ofNat_eq_natCast]
    omega

theorem lex_fl (k a b : Nat) : lexLess (((be k a).map Int.ofNat).map (fl true)) (((be k b).map Int.ofNat).map (fl true)) = decide (b % 256 ^ k < a % 256 ^ k) := by
  induction k with
  | zero => simp [be, lexLess, Nat.mod_one]
  | succ k ih =>
    have hp : 0 < 256 ^ k := Nat.pow_pos (by decide)
    have h1 := Nat.mod_lt a hp
    have h2 := Nat.mod_lt b hp
    simp only [be, List.map_cons, lexLess, ih, mod_succ]
    rw [Bool.eq_iff_iff]
    simp only [Bool.or_eq_true, Bool.and_eq_true, decide_eq_true_eq, two_digits h2 h1, fl, if_true]
    simp only [Int.ofNat_eq_natCast]
    omega

theorem map_fl_false (l : List Int) : l.map (fl false) = l := by
  conv => rhs; rw [← List.map_id l]
  exact List.map_congr_left fun a _ => by simp [fl]

theorem wid_of_lt {a k : Nat} (hk : k ≤ 8) (h : a < 256 ^ k) : wid a ≤ k := by
  have : k = 0 ∨ k = 1 ∨ k = 2 ∨ k = 3 ∨ k = 4 ∨ k = 5 ∨ k = 6 ∨ k = 7 ∨ k = 8 := by omega
  unfold wid
  rcases this with rfl | rfl | rfl | rfl | rfl | rfl | rfl | rfl | rfl
  all_goals simp at h
  all_goals repeat' split
  all_goals omega

theorem wid_mono {a b : Nat} (hb : b < 9223372036854775808) (h : a ≤ b) : wid a ≤ wid b :=
  wid_of_lt (wid_le b) (Nat.lt_of_le_of_lt h (wid_spec b hb).1)

/-- P1.7. -/
theorem code_order (m n : Int) (hm1 : -9223372036854775808 ≤ m) (hm2 : m ≤ 9223372036854775807) (hn1 : -9223372036854775808 ≤ n) (hn2 : n ≤ 9223372036854775807) : lexLess (code m) (code n) = decide (m < n) := by
  have wm := wid_le (mag m)
  have wn := wid_le (mag n)
  have sm := (wid_spec (mag m) (mag_lt m hm1 hm2)).1
  have sn := (wid_spec (mag n) (mag_lt n hn1 hn2)).1
  have mono : mag m ≤ mag n → wid (mag m) ≤ wid (mag n) := wid_mono (mag_lt n hn1 hn2)
  have mono' : mag n ≤ mag m → wid (mag n) ≤ wid (mag m) := wid_mono (mag_lt m hm1 hm2)
  by_cases h1 : m < 0
  · have em : mag m = (-1 - m).toNat := by unfold mag; rw [if_pos h1]
    by_cases h2 : n < 0
    · have en : mag n = (-1 - n).toNat := by unfold mag; rw [if_pos h2]
      simp only [code, h1, h2, decide_true, List.map_cons, lexLess]
      by_cases hw : wid (mag m) = wid (mag n)
      · have e : lexLess (List.map (fl true) (List.map Int.ofNat (be (wid (mag m)) (mag m)))) (List.map (fl true) (List.map Int.ofNat (be (wid (mag n)) (mag n)))) = decide (mag n < mag m) := by
          rw [← hw] at sn ⊢
          rw [lex_fl, Nat.mod_eq_of_lt sm, Nat.mod_eq_of_lt sn]
        rw [e, hw, Bool.eq_iff_iff]
        simp
        omega
      · rw [Bool.eq_iff_iff]
        simp only [fl, if_true, Bool.or_eq_true, Bool.and_eq_true, decide_eq_true_eq]
        omega
    · simp only [code, h1, h2, decide_true, decide_false, List.map_cons, lexLess]
      rw [Bool.eq_iff_iff]
      simp only [fl, if_true, Bool.or_eq_true, Bool.and_eq_true, decide_eq_true_eq]
      constructor
      · intro _; omega
      · intro _; left; simp; omega
  · have em : mag m = m.toNat := by unfold mag; rw [if_neg h1]
    by_cases h2 : n < 0
    · simp only [code, h1, h2, decide_true, decide_false, List.map_cons, lexLess]
      rw [Bool.eq_iff_iff]
      simp only [fl, if_true, Bool.or_eq_true, Bool.and_eq_true, decide_eq_true_eq]
      constructor
      · rintro (h | h)
        · simp at h; omega
        · have := h.1; simp at this; omega
      · intro h; omega
    · have en : mag n = n.toNat := by unfold mag; rw [if_neg h2]
      simp only [code, h1, h2, decide_false, List.map_cons, lexLess, map_fl_false]
      by_cases hw : wid (mag m) = wid (mag n)
      · have e : lexLess (List.map Int.ofNat (be (wid (mag m)) (mag m))) (List.map Int.ofNat (be (wid (mag n)) (mag n))) = decide (mag m < mag n) := by
          rw [← hw] at sn ⊢
          rw [lex_be, Nat.mod_eq_of_lt sm, Nat.mod_eq_of_lt sn]
        rw [e, hw, Bool.eq_iff_iff]
        simp
        omega
      · rw [Bool.eq_iff_iff]
        simp only [fl, Bool.or_eq_true, Bool.and_eq_true, decide_eq_true_eq]
        simp
        omega

theorem code_inj {m n : Int} (hm1 : -9223372036854775808 ≤ m) (hm2 : m ≤ 9223372036854775807) (hn1 : -9223372036854775808 ≤ n) (hn2 : n ≤ 9223372036854775807) (h : code m = code n) : m = n := by
  have h1 := dec_code m hm1 hm2 []
  have h2 := dec_code n hn1 hn2 []
  rw [h, h2] at h1
  simpa using (congrArg Prod.fst h1).symm

/-- P1.6: no code is a proper beginning of another one. -/
theorem code_front {m n : Int} (hm1 : -9223372036854775808 ≤ m) (hm2 : m ≤ 9223372036854775807) (hn1 : -9223372036854775808 ≤ n) (hn2 : n ≤ 9223372036854775807) {k : Nat} (hk : k = min (code m).length (code n).length) (h : (code m).take k = (code n).take k) : m = n := by
  rcases Nat.le_total (code m).length (code n).length with hl | hl
  · rw [Nat.min_eq_left hl] at hk
    have e : code n = code m ++ (code n).drop k := by
      conv => lhs; rw [← List.take_append_drop k (code n), ← h, hk, List.take_length]
      rw [hk]
    have h1 := dec_code n hn1 hn2 []
    have h2 := dec_code m hm1 hm2 ((code n).drop k)
    rw [List.append_nil, e, h2] at h1
    exact congrArg Prod.fst h1
  · rw [Nat.min_eq_right hl] at hk
    have e : code m = code n ++ (code m).drop k := by
      conv => lhs; rw [← List.take_append_drop k (code m), h, hk, List.take_length]
      rw [hk]
    have h1 := dec_code m hm1 hm2 []
    have h2 := dec_code n hn1 hn2 ((code m).drop k)
    rw [List.append_nil, e, h2] at h1
    exact (congrArg Prod.fst h1).symm

end Go.Proofs.Yteicemlkifliaaa.W
