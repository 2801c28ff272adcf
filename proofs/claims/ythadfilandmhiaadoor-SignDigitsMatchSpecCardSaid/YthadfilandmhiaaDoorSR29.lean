/-
  Contracts of gantry/integer: combine.
  Contracts of gantry/integer: times.
  Contracts of gantry/integer: plus.
-/
import Derived.Test.YthadfilandmhiaaDoorSR28
import Derived.Deep.CutBlock
set_option linter.unusedVariables false
set_option linter.unusedSimpArgs false
set_option linter.unusedSectionVars false
namespace Go.Proofs.YthadfilandmhiaaDoor
open Go.RowKit
open Go.Lib (hid)
open Dg
namespace Zn
def RowN (w : World) (B : Nat) (ds : List Nat) : Prop := RowI w B (ds.map Int.ofNat)
theorem RowN.cell {w : World} {B : Nat} {ds : List Nat} (h : RowN w B ds) {i : Nat} (hi : i < ds.length) : w.cell? ⟨B, i, none⟩ = some (.int .i64 ((ds.getD i 0 : Nat) : Int)) := by
  rw [RowI.cell h (by simpa using hi), getD_map]
theorem RowN.store {w : World} {B : Nat} {ds : List Nat} (h : RowN w B ds) (i : Nat) (z : Int) (d : Nat) (hz : z = d) : RowN (w.setCell ⟨B, i, none⟩ (.int .i64 z)) B (ds.set i d) := by
  have := RowI.store h i z
  unfold RowN
  rw [List.map_set, ← show z = Int.ofNat d from hz]
  exact this
theorem RowN.made {w : World} {B n : Nat} (h : RowI w B (List.replicate n 0)) : RowN w B (List.replicate n 0) := by
  unfold RowN
  rw [List.map_replicate]
  exact h
theorem RowN.nums {w : World} {B : Nat} {ds : List Nat} (h : RowN w B ds) (cap : Nat) (hc : ds.length ≤ cap) (hm : cap ≤ maxLen) : Nums w (.slice (some ⟨B, 0, none⟩) ds.length cap) ds :=
  RowI.nums h 0 ds.length cap ds rfl hc hm (by simp) fun i _ => by rw [Nat.zero_add, getD_map]

theorem set_replicate (ds : List Nat) (m d : Nat) : (ds ++ List.replicate (m + 1) 0).set ds.length d = (ds ++ [d]) ++ List.replicate m 0 := by
  rw [List.set_append_right _ _ (Nat.le_refl _), Nat.sub_self, List.replicate_succ, List.set_cons_zero, List.append_assoc]
  rfl
theorem set_last (ds : List Nat) (d : Nat) : (ds ++ List.replicate 1 0).set ds.length d = ds ++ [d] := by
  rw [set_replicate]; simp

theorem val_take_getD (a : List Nat) (k : Nat) : val (a.take (k + 1)) = val (a.take k) + 1000000000 ^ k * a.getD k 0 := by
  rcases Nat.lt_or_ge k a.length with h | h
  · rw [val_take_succ h, List.getD_eq_getElem?_getD, List.getElem?_eq_getElem h]; rfl
  · rw [List.take_of_length_le (by omega), List.take_of_length_le h, List.getD_eq_getElem?_getD, List.getElem?_eq_none h]
    simp

/-- combine's loop: k digits of the sum are there; C is what is carried. -/
def CRel (p q : Int) (a b : List Nat) (n : Nat) (w : World) (k : Nat) (C : Int) (wr : World) : Prop :=
  ∃ ds, ds.length = k ∧ Dig ds ∧ RowN wr w.heap.size (ds ++ List.replicate (n + 1 - k) 0) ∧ Below w.heap.size w wr ∧ wr.heap.size = w.heap.size + 1 ∧
    (val ds : Int) + 1000000000 ^ k * C = p * (val (a.take k) : Int) + q * (val (b.take k) : Int) ∧ -3000000000 ≤ C ∧ C ≤ 3000000000

theorem CRel.step {p q : Int} {a b : List Nat} {n : Nat} {w : World} {k : Nat} {C : Int} {wr : World} {s : Int} (h : CRel p q a b n w k C wr) (hk : k < n)
    (hs : s = C + p * ((a.getD k 0 : Nat) : Int) + q * ((b.getD k 0 : Nat) : Int)) (hs1 : -2000000000000000000 - 3000000000 ≤ s) (hs2 : s ≤ 2000000000000000000 + 3000000000) :
    CRel p q a b n w (k + 1) (s / 1000000000) (wr.setCell ⟨w.heap.size, k, none⟩ (.int .i64 (s % 1000000000))) := by
  obtain ⟨ds, h1, h2, h3, h4, h5, h6, h7, h8⟩ := h
  obtain ⟨d, hd⟩ : ∃ d : Nat, s % 1000000000 = (d : Int) := ⟨(s % 1000000000).toNat, by omega⟩
  refine ⟨ds ++ [d], by simp [h1], h2.append (Dig.cons (by omega) Dig.nil), ?_, h4.setCell (by simp) _, by simpa using h5, ?_, by omega, by omega⟩
  · have h9 := h3.store k _ d hd
    rw [show n + 1 - k = n + 1 - (k + 1) + 1 by omega] at h9
    subst h1
    rw [set_replicate] at h9
    exact h9
  · rw [val_append, h1, val_take_getD a, val_take_getD b]
    simp only [val, Nat.mul_zero, Nat.add_zero, Int.natCast_add, Int.natCast_mul, Int.natCast_pow]
    have e : (d : Int) + 1000000000 * (s / 1000000000) = C + p * ((a.getD k 0 : Nat) : Int) + q * ((b.getD k 0 : Nat) : Int) := by rw [← hs, ← hd]; omega
    have e2 := congrArg (fun x => (1000000000 : Int) ^ k * x) e
    simp only [Int.mul_add] at e2
    rw [Int.pow_succ, Int.mul_add, Int.mul_add]
    rw [Int.mul_assoc ((1000000000 : Int) ^ k) 1000000000, Int.mul_left_comm p, Int.mul_left_comm q]
    show (val ds : Int) + 1000000000 ^ k * (d : Int) + _ = _
    generalize (1000000000 : Int) ^ k * (d : Int) = e3 at *
    generalize (1000000000 : Int) ^ k * (1000000000 * (s / 1000000000)) = e4 at *
    generalize (1000000000 : Int) ^ k * C = e5 at *
    generalize (1000000000 : Int) ^ k * (p * ((a.getD k 0 : Nat) : Int)) = e6 at *
    generalize (1000000000 : Int) ^ k * (q * ((b.getD k 0 : Nat) : Int)) = e7 at *
    generalize p * ((val (a.take k) : Nat) : Int) = e8 at *
    generalize q * ((val (b.take k) : Nat) : Int) = e9 at *
    omega

theorem CRel.start (p q : Int) (a b : List Nat) (n : Nat) (w : World) (wr : World) (h1 : RowI wr w.heap.size (List.replicate (n + 1) 0)) (h2 : Below w.heap.size w wr) (h3 : wr.heap.size = w.heap.size + 1) : CRel p q a b n w 0 0 wr :=
  ⟨[], rfl, Dig.nil, RowN.made h1, h2, h3, by simp [val], by omega, by omega⟩

/-- What stands when all digits are there, behind the store of what is carried. -/
theorem CRel.fin {p q : Int} {a b : List Nat} {n : Nat} {w : World} {C : Int} {wr : World} {N : Nat} (h : CRel p q a b n w n C wr) (hla : a.length ≤ n) (hlb : b.length ≤ n)
    (hN : (N : Int) = p * (val a : Int) + q * (val b : Int)) (hlt : N < 1000000000 ^ (n + 1)) (hm : n + 1 ≤ maxLen) :
    ∃ ds, Dig ds ∧ dig N = trimN ds ∧ ds.length = n + 1 ∧ Nums (wr.setCell ⟨w.heap.size, n, none⟩ (.int .i64 C)) (.slice (some ⟨w.heap.size, 0, none⟩) (n + 1) (n + 1)) ds ∧ Below w.heap.size w (wr.setCell ⟨w.heap.size, n, none⟩ (.int .i64 C)) := by
  obtain ⟨ds, h1, h2, h3, h4, h5, h6, h7, h8⟩ := h
  rw [List.take_of_length_le hla, List.take_of_length_le hlb, ← hN] at h6
  have hv := val_lt h2
  rw [h1] at hv
  have hP : (0 : Int) < 1000000000 ^ n := Int.pow_pos (by decide)
  have hvI : (val ds : Int) < 1000000000 ^ n := by
    have : ((val ds : Nat) : Int) < ((1000000000 ^ n : Nat) : Int) := by omega
    rwa [Int.natCast_pow] at this
  have hNI : (N : Int) < 1000000000 ^ n * 1000000000 := by
    have : ((N : Nat) : Int) < ((1000000000 ^ (n + 1) : Nat) : Int) := by omega
    rwa [Int.natCast_pow, Int.pow_succ] at this
  have hC0 : 0 ≤ C := by
    rcases Int.lt_or_le C 0 with h | h
    · have := Int.mul_le_mul_of_nonneg_left (show C ≤ -1 by omega) (Int.le_of_lt hP)
      rw [Int.mul_neg, Int.mul_one] at this
      omega
    · exact h
  have hC1 : C < 1000000000 := by
    rcases Int.lt_or_le C 1000000000 with h | h
    · exact h
    · have := Int.mul_le_mul_of_nonneg_left h (Int.le_of_lt hP)
      omega
  obtain ⟨c, rfl⟩ := Int.eq_ofNat_of_zero_le hC0
  have h9 := h3.store n _ c rfl
  rw [show n + 1 - n = 1 by omega] at h9
  have e : ((ds ++ List.replicate 1 0).set n c) = ds ++ [c] := by rw [← h1, set_last]
  rw [e] at h9
  refine ⟨ds ++ [c], h2.append (Dig.cons (by omega) Dig.nil), ?_, by simp [h1], ?_, h4.setCell (by simp) _⟩
  · rw [← dig_val (h2.append (Dig.cons (by omega) Dig.nil)), val_append, h1]
    congr 1
    simp only [val, Nat.mul_zero, Nat.add_zero]
    have : ((N : Nat) : Int) = ((val ds + 1000000000 ^ n * c : Nat) : Int) := by
      rw [Int.natCast_add, Int.natCast_mul, Int.natCast_pow]; exact h6.symm
    omega
  · have h10 := h9.nums (n + 1) (by simp [h1]) hm
    have el : (ds ++ [c]).length = n + 1 := by simp [h1]
    rw [el] at h10
    exact h10
theorem CRel.cell {p q : Int} {a b : List Nat} {n : Nat} {w : World} {k : Nat} {C : Int} {wr : World} (h : CRel p q a b n w k C wr) (hk : k ≤ n) : (∃ v, wr.cell? ⟨w.heap.size, k, none⟩ = some v) ∧ wr.frozen? ⟨w.heap.size, k, none⟩ = false := by
  obtain ⟨ds, h1, h2, h3, _⟩ := h
  exact ⟨⟨_, h3.cell (by simp [h1]; omega)⟩, RowI.frozen h3 k⟩
/-- times' inner loop: the product so far, and what is carried. -/
def TRel (a b : List Nat) (w : World) (i k c : Nat) (wr : World) : Prop :=
  ∃ zs, zs.length = a.length + b.length ∧ Dig zs ∧ RowN wr w.heap.size zs ∧ Below w.heap.size w wr ∧ wr.heap.size = w.heap.size + 1 ∧ c < 1000000000 ∧
    val zs + 1000000000 ^ (i + k) * c = val (a.take i) * val b + 1000000000 ^ i * (a.getD i 0 * val (b.take k)) ∧ ∀ j, i + b.length ≤ j → zs.getD j 0 = 0
/-- times' outer loop. -/
def ORel (a b : List Nat) (w : World) (i : Nat) (wr : World) : Prop :=
  ∃ zs, zs.length = a.length + b.length ∧ Dig zs ∧ RowN wr w.heap.size zs ∧ Below w.heap.size w wr ∧ wr.heap.size = w.heap.size + 1 ∧
    val zs = val (a.take i) * val b ∧ ∀ j, i + b.length ≤ j → zs.getD j 0 = 0

theorem ORel.start {a b : List Nat} {w wr : World} (h1 : RowI wr w.heap.size (List.replicate (a.length + b.length) 0)) (h2 : Below w.heap.size w wr) (h3 : wr.heap.size = w.heap.size + 1) : ORel a b w 0 wr := by
  refine ⟨_, by simp, Dig.replicate _, RowN.made h1, h2, h3, by simp [val_replicate, val], fun j _ => ?_⟩
  rw [List.getD_eq_getElem?_getD, List.getElem?_replicate]
  split <;> rfl
theorem TRel.cell {a b : List Nat} {w wr : World} {i k c : Nat} (h : TRel a b w i k c wr) (hj : i + k < a.length + b.length) : ∃ z : Nat, z < 1000000000 ∧ wr.cell? ⟨w.heap.size, i + k, none⟩ = some (.int .i64 (z : Int)) ∧ wr.frozen? ⟨w.heap.size, i + k, none⟩ = false ∧
    (∀ v, v = z + a.getD i 0 * b.getD k 0 + c → k < b.length → v / 1000000000 < 1000000000 → TRel a b w i (k + 1) (v / 1000000000) (wr.setCell ⟨w.heap.size, i + k, none⟩ (.int .i64 ((v : Int) % 1000000000)))) := by
  obtain ⟨zs, h1, h2, h3, h4, h5, h6, h7, h8⟩ := h
  refine ⟨zs.getD (i + k) 0, h2.getD _, h3.cell (by omega), RowI.frozen h3 _, fun v hv hk hc => ?_⟩
  refine ⟨zs.set (i + k) (v % 1000000000), by simpa using h1, h2.set _ _ (by omega), h3.store _ _ _ (by omega), h4.setCell (by simp) _, by simpa using h5, hc, ?_, ?_⟩
  · have e := val_set (a := zs) (k := i + k) (by omega) (v % 1000000000)
    have e0 : zs.getD (i + k) 0 = zs[i + k]'(by omega) := by rw [List.getD_eq_getElem?_getD, List.getElem?_eq_getElem (by omega)]; rfl
    rw [← e0] at e
    rw [val_take_getD b k]
    generalize zs.getD (i + k) 0 = z at *
    generalize val (zs.set (i + k) (v % 1000000000)) = V at *
    rw [show i + (k + 1) = i + k + 1 from rfl, Nat.pow_succ]
    have e2 : ((1000000000 : Int) ^ (i + k)) = ((1000000000 ^ (i + k) : Nat) : Int) := by rw [Int.natCast_pow]; rfl
    rw [e2] at e
    rw [Nat.mul_add, Nat.mul_add]
    rw [show 1000000000 ^ i * (a.getD i 0 * (1000000000 ^ k * b.getD k 0)) = 1000000000 ^ (i + k) * (a.getD i 0 * b.getD k 0) by rw [Nat.pow_add, Nat.mul_left_comm (a.getD i 0), Nat.mul_assoc]]
    rw [← Nat.add_assoc, ← h7]
    generalize 1000000000 ^ (i + k) = P at *
    generalize a.getD i 0 * b.getD k 0 = xy at *
    have e3 : (P : Int) * (((v % 1000000000 : Nat) : Int) - (z : Int)) + ((P * (1000000000 * (v / 1000000000)) : Nat) : Int) = ((P * xy : Nat) : Int) + ((P * c : Nat) : Int) := by
      rw [Int.natCast_mul P (1000000000 * (v / 1000000000)), Int.natCast_mul P xy, Int.natCast_mul P c, ← Int.mul_add, ← Int.mul_add]
      congr 1
      omega
    rw [Nat.mul_assoc]
    generalize P * (1000000000 * (v / 1000000000)) = Q1 at *
    generalize P * xy = Q2 at *
    generalize P * c = Q3 at *
    generalize (P : Int) * (((v % 1000000000 : Nat) : Int) - (z : Int)) = Q4 at *
    omega
  · intro j hj
    have := h8 j hj
    rw [List.getD_eq_getElem?_getD] at this ⊢
    rw [List.getElem?_set_ne (by omega)]
    exact this
theorem ORel.fin {a b : List Nat} {w wr : World} (h : ORel a b w a.length wr) (hm : a.length + b.length ≤ maxLen) : ∃ zs, Dig zs ∧ dig (val a * val b) = trimN zs ∧ Nums wr (.slice (some ⟨w.heap.size, 0, none⟩) (a.length + b.length) (a.length + b.length)) zs ∧ Below w.heap.size w wr := by
  obtain ⟨zs, h1, h2, h3, h4, h5, h6, h7⟩ := h
  rw [List.take_of_length_le (Nat.le_refl _)] at h6
  refine ⟨zs, h2, by rw [← h6, dig_val h2], ?_, h4⟩
  rw [← h1]
  exact h3.nums _ (Nat.le_refl _) (by omega)
end Zn
end Go.Proofs.YthadfilandmhiaaDoor
