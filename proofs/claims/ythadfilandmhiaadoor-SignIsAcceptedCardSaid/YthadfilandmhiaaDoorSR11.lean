/-
  Natural numbers as lists of digits in base 1000000000, the least significant one first.
-/
import Derived.Lib.Hide
set_option linter.unusedVariables false
set_option linter.unusedSimpArgs false
set_option linter.unusedSectionVars false
namespace Go.Proofs.YthadfilandmhiaaDoor
namespace Dg
def val : List Nat → Nat
  | [] => 0
  | d :: ds => d + 1000000000 * val ds

def Dig (ds : List Nat) : Prop := ∀ d ∈ ds, d < 1000000000

def digF : Nat → Nat → List Nat
  | 0, _ => []
  | f + 1, n => if n = 0 then [] else n % 1000000000 :: digF f (n / 1000000000)
/-- The digits of a number, without zeros at the end. -/
def dig (n : Nat) : List Nat := digF n n

def trimN : List Nat → List Nat
  | [] => []
  | d :: ds => if d = 0 ∧ trimN ds = [] then [] else d :: trimN ds

theorem digF_fuel : ∀ f g n, n ≤ f → n ≤ g → digF f n = digF g n := by
  intro f
  induction f with
  | zero =>
    intro g n h1 _
    obtain rfl : n = 0 := by omega
    cases g <;> simp [digF]
  | succ f ih =>
    intro g n h1 h2
    by_cases hn : n = 0
    · subst hn
      cases g <;> simp [digF]
    · obtain ⟨g, rfl⟩ : ∃ k, g = k + 1 := ⟨g - 1, by omega⟩
      simp only [digF, hn, if_false]
      rw [ih g (n / 1000000000) (by omega) (by omega)]

theorem dig_pos {n : Nat} (h : 0 < n) : dig n = n % 1000000000 :: dig (n / 1000000000) := by
  obtain ⟨k, rfl⟩ : ∃ k, n = k + 1 := ⟨n - 1, by omega⟩
  show digF (k + 1) (k + 1) = _
  simp only [digF, Nat.succ_ne_zero, if_false]
  rw [digF_fuel k ((k + 1) / 1000000000) _ (by omega) (Nat.le_refl _)]
  rfl
theorem dig_eq_nil {n : Nat} : dig n = [] ↔ n = 0 := by
  constructor
  · intro h
    rcases Nat.eq_zero_or_pos n with h0 | h0
    · exact h0
    · rw [dig_pos h0] at h; cases h
  · rintro rfl; rfl

theorem Dig.tail {d : Nat} {ds : List Nat} (h : Dig (d :: ds)) : Dig ds := fun x hx => h x (List.mem_cons_of_mem _ hx)
theorem Dig.head {d : Nat} {ds : List Nat} (h : Dig (d :: ds)) : d < 1000000000 := h d (List.mem_cons_self ..)
theorem Dig.nil : Dig [] := fun _ h => by cases h
theorem Dig.cons {d : Nat} {ds : List Nat} (h1 : d < 1000000000) (h : Dig ds) : Dig (d :: ds) := by
  intro x hx
  rcases List.mem_cons.1 hx with rfl | hx
  · exact h1
  · exact h x hx
theorem Dig.append {a b : List Nat} (h1 : Dig a) (h2 : Dig b) : Dig (a ++ b) := by
  intro x hx
  rcases List.mem_append.1 hx with h | h
  · exact h1 x h
  · exact h2 x h
theorem Dig.take {a : List Nat} (h : Dig a) (k : Nat) : Dig (a.take k) := fun x hx => h x (List.mem_of_mem_take hx)
theorem Dig.drop {a : List Nat} (h : Dig a) (k : Nat) : Dig (a.drop k) := fun x hx => h x (List.mem_of_mem_drop hx)
theorem Dig.at {a : List Nat} (h : Dig a) {k : Nat} (hk : k < a.length) : a[k] < 1000000000 := h _ (List.getElem_mem hk)
theorem Dig.getD {a : List Nat} (h : Dig a) (k : Nat) : a.getD k 0 < 1000000000 := by
  rw [List.getD_eq_getElem?_getD]
  rcases Nat.lt_or_ge k a.length with hk | hk
  · rw [List.getElem?_eq_getElem hk]; exact h.at hk
  · rw [List.getElem?_eq_none hk]; decide
theorem Dig.set {a : List Nat} (h : Dig a) (k d : Nat) (hd : d < 1000000000) : Dig (a.set k d) := by
  intro x hx
  rcases List.mem_or_eq_of_mem_set hx with h1 | h1
  · exact h x h1
  · rw [h1]; exact hd
theorem Dig.replicate (k : Nat) : Dig (List.replicate k 0) := by
  intro x hx
  rw [List.eq_of_mem_replicate hx]; decide

theorem dig_cons {d v : Nat} (hd : d < 1000000000) (h : 0 < d + 1000000000 * v) : dig (d + 1000000000 * v) = d :: dig v := by
  rw [dig_pos h, show (d + 1000000000 * v) % 1000000000 = d from by omega, show (d + 1000000000 * v) / 1000000000 = v from by omega]
theorem dig_val : ∀ {ds : List Nat}, Dig ds → dig (val ds) = trimN ds := by
  intro ds
  induction ds with
  | nil => intro _; rfl
  | cons d ds ih =>
    intro h
    have ih := ih h.tail
    have hd := h.head
    simp only [val, trimN]
    by_cases h0 : d = 0 ∧ trimN ds = []
    · obtain ⟨rfl, h1⟩ := h0
      rw [if_pos ⟨rfl, h1⟩]
      rw [h1, dig_eq_nil] at ih
      rw [ih]; rfl
    · rw [if_neg h0, ← ih]
      refine dig_cons hd ?_
      rcases Nat.eq_zero_or_pos (d + 1000000000 * val ds) with hz | hz
      · exfalso
        refine h0 ⟨by omega, ?_⟩
        rw [← ih, show val ds = 0 from by omega]; rfl
      · exact hz
theorem val_append (a b : List Nat) : val (a ++ b) = val a + 1000000000 ^ a.length * val b := by
  induction a with
  | nil => simp [val]
  | cons d a ih =>
    simp only [List.cons_append, val, ih, List.length_cons, Nat.pow_succ, Nat.mul_add]
    rw [Nat.mul_comm (1000000000 ^ a.length) 1000000000, Nat.mul_assoc]
    omega
theorem val_lt {ds : List Nat} (h : Dig ds) : val ds < 1000000000 ^ ds.length := by
  induction ds with
  | nil => simp [val]
  | cons d ds ih =>
    have := ih h.tail
    have := h.head
    simp only [val, List.length_cons, Nat.pow_succ]
    omega
theorem val_replicate (k : Nat) : val (List.replicate k 0) = 0 := by
  induction k with
  | zero => rfl
  | succ k ih => simp only [List.replicate_succ, val, ih, Nat.mul_zero, Nat.add_zero]
theorem val_take_succ {a : List Nat} {k : Nat} (h : k < a.length) : val (a.take (k + 1)) = val (a.take k) + 1000000000 ^ k * a[k] := by
  rw [List.take_succ_eq_append_getElem h, val_append]
  simp [val, List.length_take, Nat.min_eq_left (Nat.le_of_lt h)]
theorem val_set {a : List Nat} {k : Nat} (h : k < a.length) (d : Nat) : (val (a.set k d) : Int) = (val a : Int) + 1000000000 ^ k * ((d : Int) - (a[k] : Int)) := by
  induction a generalizing k with
  | nil => simp at h
  | cons x a ih =>
    cases k with
    | zero => simp only [List.set_cons_zero, val, List.getElem_cons_zero]; omega
    | succ k =>
      have := ih (show k < a.length by simpa using h)
      simp only [List.set_cons_succ, val, List.getElem_cons_succ, Int.natCast_add, Int.natCast_mul, this, Int.pow_succ]
      rw [Int.mul_add, Int.mul_comm ((1000000000 : Int) ^ k) (1000000000 : Int), Int.mul_assoc]
      simp; omega
end Dg
end Go.Proofs.YthadfilandmhiaaDoor
