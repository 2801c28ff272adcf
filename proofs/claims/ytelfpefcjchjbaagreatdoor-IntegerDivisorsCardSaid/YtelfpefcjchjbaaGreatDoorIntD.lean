/-
  Contracts of gantry/integer: combine.
-/
import Derived.Test.YtelfpefcjchjbaaGreatDoorIntC
import Derived.Deep.CutBlock
namespace Go.Proofs.YtelfpefcjchjbaaGreatDoor
open Go.RowKit
open Go.Lib (hid)
open Dg
namespace Zn

def RowN (w : World) (B : Nat) (ds : List Nat) : Prop := RowI w B (ds.map Int.ofNat)
theorem RowN.cell {w : World} {B : Nat} {ds : List Nat} (h : RowN w B ds) {i : Nat} (hi : i < ds.length) : w.cell? ⟨B, i, none⟩ = some (.int .i64 ((ds.getD i 0 : Nat) : Int)) := by
  rw [RowI.cell h (by simpa using hi), getD_map]
theorem RowN.store {w : World} {B : Nat} {ds : List Nat} (h : RowN w B ds) (i : Nat) (z : Int) (d : Nat) (hz : z = d) : RowN (w.setCell ⟨B, i, none⟩ (.int .i64 z)) B (ds.set i d) := by
  have := RowI.store h i z
  unfold RowN
  rw [List.map_set, ← show z = Int.ofNat d from hz]
  exact this
theorem RowN.made {w : World} {B n : Nat} (h : RowI w B (List.replicate n 0)) : RowN w B (List.replicate n 0) := by
  unfold RowN
  rw [List.map_replicate]
  exact h
theorem RowN.nums {w : World} {B : Nat} {ds : List Nat} (h : RowN w B ds) (cap : Nat) (hc : ds.length ≤ cap) (hm : cap ≤ maxLen) : Nums w (.slice (some ⟨B, 0, none⟩) ds.length cap) ds :=
  RowI.nums h 0 ds.length cap ds rfl hc hm (by simp) fun i _ => by rw [Nat.zero_add, getD_map]

theorem set_replicate (ds : List Nat) (m d : Nat) : (ds ++ List.replicate (m + 1) 0).set ds.length d = (ds ++ [d]) ++ List.replicate m 0 := by
  rw [List.set_append_right _ _ (Nat.le_refl _), Nat.sub_self, List.replicate_succ, List.set_cons_zero, List.append_assoc]
  rfl
theorem set_last (ds : List Nat) (d : Nat) : (ds ++ List.replicate 1 0).set ds.length d = ds ++ [d] := by
  rw [set_replicate]; simp

theorem val_take_getD (a : List Nat) (k : Nat) : val (a.take (k + 1)) = val (a.take k) + 1000000000 ^ k * a.getD k 0 := by
  rcases Nat.lt_or_ge k a.length with h | h
  · rw [val_take_succ h, List.getD_eq_getElem?_getD, List.getElem?_eq_getElem h]; rfl
  · rw [List.take_of_length_le (by omega), List.take_of_length_le h, List.getD_eq_getElem?_getD, List.getElem?_eq_none h]
    simp

/-- combine's loop: k digits of the sum are there; C is what is carried. -/
def CRel (p q : Int) (a b : List Nat) (n : Nat) (w : World) (k : Nat) (C : Int) (wr : World) : Prop :=
  ∃ ds, ds.length = k ∧ Dig ds ∧ RowN wr w.heap.size (ds ++ List.replicate (n + 1 - k) 0) ∧ Below w.heap.size w wr ∧ wr.heap.size = w.heap.size + 1 ∧
    (val ds : Int) + 1000000000 ^ k * C = p * (val (a.take k) : Int) + q * (val (b.take k) : Int) ∧ -3000000000 ≤ C ∧ C ≤ 3000000000

theorem mul_bd {p : Int} {x : Nat} (h1 : -1000000000 < p) (h2 : p < 1000000000) (hx : x < 1000000000) : -1000000000000000000 ≤ p * (x : Int) ∧ p * (x : Int) ≤ 1000000000000000000 := by
  have a := Int.mul_le_mul_of_nonneg_right (show p ≤ 1000000000 by omega) (show (0 : Int) ≤ (x : Int) by omega)
  have b := Int.mul_le_mul_of_nonneg_right (show -1000000000 ≤ p by omega) (show (0 : Int) ≤ (x : Int) by omega)
  omega

theorem CRel.step {p q : Int} {a b : List Nat} {n : Nat} {w : World} {k : Nat} {C : Int} {wr : World} {s : Int} (h : CRel p q a b n w k C wr) (hk : k < n)
    (hs : s = C + p * ((a.getD k 0 : Nat) : Int) + q * ((b.getD k 0 : Nat) : Int)) (hs1 : -2000000000000000000 - 3000000000 ≤ s) (hs2 : s ≤ 2000000000000000000 + 3000000000) :
    CRel p q a b n w (k + 1) (s / 1000000000) (wr.setCell ⟨w.heap.size, k, none⟩ (.int .i64 (s % 1000000000))) := by
  obtain ⟨ds, h1, h2, h3, h4, h5, h6, h7, h8⟩ := h
  obtain ⟨d, hd⟩ : ∃ d : Nat, s % 1000000000 = (d : Int) := ⟨(s % 1000000000).toNat, by omega⟩
  refine ⟨ds ++ [d], by simp [h1], h2.append (Dig.cons (by omega) Dig.nil), ?_, h4.setCell (by simp) _, by simpa using h5, ?_, by omega, by omega⟩
  · have h9 := h3.store k _ d hd
    rw [show n + 1 - k = n + 1 - (k + 1) + 1 by omega] at h9
    subst h1
    rw [set_replicate] at h9
    exact h9
  · rw [val_append, h1, val_take_getD a, val_take_getD b]
    simp only [val, Nat.mul_zero, Nat.add_zero, Int.natCast_add, Int.natCast_mul, Int.natCast_pow]
    have e : (d : Int) + 1000000000 * (s / 1000000000) = C + p * ((a.getD k 0 : Nat) : Int) + q * ((b.getD k 0 : Nat) : Int) := by rw [← hs, ← hd]; omega
    have e2 := congrArg (fun x => (1000000000 : Int) ^ k * x) e
    simp only [Int.mul_add] at e2
    rw [Int.pow_succ, Int.mul_add, Int.mul_add]
    rw [Int.mul_assoc ((1000000000 : Int) ^ k) 1000000000, Int.mul_left_comm p, Int.mul_left_comm q]
    show (val ds : Int) + 1000000000 ^ k * (d : Int) + _ = _
    generalize (1000000000 : Int) ^ k * (d : Int) = e3 at *
    generalize (1000000000 : Int) ^ k * (1000000000 * (s / 1000000000)) = e4 at *
    generalize (1000000000 : Int) ^ k * C = e5 at *
    generalize (1000000000 : Int) ^ k * (p * ((a.getD k 0 : Nat) : Int)) = e6 at *
    generalize (1000000000 : Int) ^ k * (q * ((b.getD k 0 : Nat) : Int)) = e7 at *
    generalize p * ((val (a.take k) : Nat) : Int) = e8 at *
    generalize q * ((val (b.take k) : Nat) : Int) = e9 at *
    omega

theorem CRel.start (p q : Int) (a b : List Nat) (n : Nat) (w : World) (wr : World) (h1 : RowI wr w.heap.size (List.replicate (n + 1) 0)) (h2 : Below w.heap.size w wr) (h3 : wr.heap.size = w.heap.size + 1) : CRel p q a b n w 0 0 wr :=
  ⟨[], rfl, Dig.nil, RowN.made h1, h2, h3, by simp [val], by omega, by omega⟩

/-- What stands when all digits are there, behind the store of what is carried. -/
theorem CRel.fin {p q : Int} {a b : List Nat} {n : Nat} {w : World} {C : Int} {wr : World} {N : Nat} (h : CRel p q a b n w n C wr) (hla : a.length ≤ n) (hlb : b.length ≤ n)
    (hN : (N : Int) = p * (val a : Int) + q * (val b : Int)) (hlt : N < 1000000000 ^ (n + 1)) (hm : n + 1 ≤ maxLen) :
    ∃ ds, Dig ds ∧ dig N = trimN ds ∧ ds.length = n + 1 ∧ Nums (wr.setCell ⟨w.heap.size, n, none⟩ (.int .i64 C)) (.slice (some ⟨w.heap.size, 0, none⟩) (n + 1) (n + 1)) ds ∧ Below w.heap.size w (wr.setCell ⟨w.heap.size, n, none⟩ (.int .i64 C)) := by
  obtain ⟨ds, h1, h2, h3, h4, h5, h6, h7, h8⟩ := h
  rw [List.take_of_length_le hla, List.take_of_length_le hlb, ← hN] at h6
  have hv := val_lt h2
  rw [h1] at hv
  have hP : (0 : Int) < 1000000000 ^ n := Int.pow_pos (by decide)
  have hvI : (val ds : Int) < 1000000000 ^ n := by
    have : ((val ds : Nat) : Int) < ((1000000000 ^ n : Nat) : Int) := by omega
    rwa [Int.natCast_pow] at this
  have hNI : (N : Int) < 1000000000 ^ n * 1000000000 := by
    have : ((N : Nat) : Int) < ((1000000000 ^ (n + 1) : Nat) : Int) := by omega
    rwa [Int.natCast_pow, Int.pow_succ] at this
  have hC0 : 0 ≤ C := by
    rcases Int.lt_or_le C 0 with h | h
    · have := Int.mul_le_mul_of_nonneg_left (show C ≤ -1 by omega) (Int.le_of_lt hP)
      rw [Int.mul_neg, Int.mul_one] at this
      omega
    · exact h
  have hC1 : C < 1000000000 := by
    rcases Int.lt_or_le C 1000000000 with h | h
    · exact h
    · have := Int.mul_le_mul_of_nonneg_left h (Int.le_of_lt hP)
      omega
  obtain ⟨c, rfl⟩ := Int.eq_ofNat_of_zero_le hC0
  have h9 := h3.store n _ c rfl
  rw [show n + 1 - n = 1 by omega] at h9
  have e : ((ds ++ List.replicate 1 0).set n c) = ds ++ [c] := by rw [← h1, set_last]
  rw [e] at h9
  refine ⟨ds ++ [c], h2.append (Dig.cons (by omega) Dig.nil), ?_, by simp [h1], ?_, h4.setCell (by simp) _⟩
  · rw [← dig_val (h2.append (Dig.cons (by omega) Dig.nil)), val_append, h1]
    congr 1
    simp only [val, Nat.mul_zero, Nat.add_zero]
    have : ((N : Nat) : Int) = ((val ds + 1000000000 ^ n * c : Nat) : Int) := by
      rw [Int.natCast_add, Int.natCast_mul, Int.natCast_pow]; exact h6.symm
    omega
  · have h10 := h9.nums (n + 1) (by simp [h1]) hm
    have el : (ds ++ [c]).length = n + 1 := by simp [h1]
    rw [el] at h10
    exact h10
theorem CRel.cell {p q : Int} {a b : List Nat} {n : Nat} {w : World} {k : Nat} {C : Int} {wr : World} (h : CRel p q a b n w k C wr) (hk : k ≤ n) : (∃ v, wr.cell? ⟨w.heap.size, k, none⟩ = some v) ∧ wr.frozen? ⟨w.heap.size, k, none⟩ = false := by
  obtain ⟨ds, h1, h2, h3, _⟩ := h
  exact ⟨⟨_, h3.cell (by simp [h1]; omega)⟩, RowI.frozen h3 k⟩

theorem CRel.bd {p q : Int} {a b : List Nat} {n : Nat} {w : World} {k : Nat} {C : Int} {wr : World} (h : CRel p q a b n w k C wr) : -3000000000 ≤ C ∧ C ≤ 3000000000 := by
  obtain ⟨ds, h1, h2, h3, h4, h5, h6, h7, h8⟩ := h
  exact ⟨h7, h8⟩
theorem CRel.bel {p q : Int} {a b : List Nat} {n : Nat} {w : World} {k : Nat} {C : Int} {wr : World} (h : CRel p q a b n w k C wr) : Below w.heap.size w wr := by
  obtain ⟨ds, h1, h2, h3, h4, h5, h6, h7, h8⟩ := h
  exact h4

set_option maxRecDepth 100000 in
set_option maxHeartbeats 4000000 in
theorem combine_any (p q : Int) (va vb : Value) (a b : List Nat) (N : Nat) (w : World) (ha : Nums w va a) (hb : Nums w vb b) (hda : Dig a) (hdb : Dig b)
    (hp1 : -1000000000 < p) (hp2 : p < 1000000000) (hq1 : -1000000000 < q) (hq2 : q < 1000000000)
    (hN : (N : Int) = p * (val a : Int) + q * (val b : Int)) (hlt : N < 1000000000 ^ (max a.length b.length + 1)) (hla : a.length ≤ 1099511627776) (hlb : b.length ≤ 1099511627776) :
    Calls Tryz.prog 64 #[.int .i64 p, va, .int .i64 q, vb] w (RetNums w (dig N)) := by
  obtain ⟨i0, hi, hz0, hz1, hz2⟩ := info_parts Tryz.int_info
  obtain ⟨ao, ac, rfl, a1, a2, a3⟩ := ha
  obtain ⟨bo, bc, rfl, b1, b2, b3⟩ := hb
  have HA := hid a3
  have HB := hid b3
  have HN := hid hN
  have HLT := hid hlt
  clear a3 b3 hN hlt
  unfold maxLen at a2 b2
  have hal : a.length ≤ max a.length b.length := Nat.le_max_left _ _
  have hbl : b.length ≤ max a.length b.length := Nat.le_max_right _ _
  obtain ⟨n, hn, hnm⟩ : ∃ n, n = max a.length b.length ∧ (n = a.length ∧ ¬ a.length < b.length ∨ n = b.length ∧ a.length < b.length) := ⟨_, rfl, by omega⟩
  rw [← hn] at hal hbl HLT
  have hnl : n ≤ 1099511627776 := by omega
  clear hn
  go_enter Tryz.func64, Tryz.ntmps64
  rcases hnm with ⟨hn, hmx⟩ | ⟨hn, hmx⟩
  all_goals
    have HNN := hid hn
    clear hn
    go_upto_region 2 with fail
    rw [← HNN.out]
    go_wp2_with (at_make; refine wpList_make_ints rfl (.tmp 20) (.tmp 20) rfl i0 hi hz0 hz1 hz2 Tryz.under_ints _ _ (n + 1) rfl rfl (by omega) (by omega) (by omega) ?_)
    intro w1 hrow hbel hsz
    have HC := hid (CRel.start p q a b n w w1 hrow hbel hsz)
    clear hrow hbel hsz
    go_wp2
    go_loopw [11, 23] (fun c i wr => ∃ (k : Nat) (C : Int), k ≤ n ∧ i = .int .i64 k ∧ c = .int .i64 C ∧ CRel p q a b n w k C wr) (fun _ i _ => n - (intOf i).toNat)
    case atStart => exact ⟨0, 0, by omega, rfl, rfl, HC.out⟩
    case round =>
      obtain ⟨k, C, hk, rfl, rfl, hrel⟩ := hrel
      have HR := hid hrel
      obtain ⟨⟨v0, hc⟩, hfz⟩ := hrel.cell hk
      obtain ⟨hC1, hC2⟩ := hrel.bd
      clear hrel
      obtain ⟨x, hx⟩ : ∃ x, x = a.getD k 0 := ⟨_, rfl⟩
      obtain ⟨y, hy⟩ : ∃ y, y = b.getD k 0 := ⟨_, rfl⟩
      have hx9 : x < 1000000000 := by rw [hx]; exact hda.getD k
      have hy9 : y < 1000000000 := by rw [hy]; exact hdb.getD k
      obtain ⟨px1, px2⟩ := mul_bd hp1 hp2 hx9
      obtain ⟨qy1, qy2⟩ := mul_bd hq1 hq2 hy9
      have HX := hid hx
      have HY := hid hy
      by_cases hkn : k < n
      · have HS : Hid (∀ s, s = C + p * (x : Int) + q * (y : Int) → CRel p q a b n w (k + 1) (s / 1000000000) (wr.setCell ⟨w.heap.size, k, none⟩ (.int .i64 (s % 1000000000)))) :=
          hid fun s hs => HR.out.step hkn (by rw [← HX.out, ← HY.out]; exact hs) (by omega) (by omega)
        clear hx hy
        by_cases ka : k < a.length
        · obtain ⟨ab, aoff, rfl, hac⟩ := HA.out (by omega)
          have hca := keepCell HR.out.bel (hac k ka)
          rw [← HX.out] at hca
          clear hac
          by_cases kb : k < b.length
          · obtain ⟨bb, boff, rfl, hbc⟩ := HB.out (by omega)
            have hcb := keepCell HR.out.bel (hbc k kb)
            rw [← HY.out] at hcb
            clear hbc
            go_wp2_with (go_at_call 83; refine (carried_any _ _ (by omega) (by omega)).mono ?_; rintro e w' ⟨rfl, rfl⟩)
            go_roundw
            case rel => exact ⟨k + 1, _, by omega, by go_num, rfl, HS.out _ (by omega)⟩
            case measure => simp [intOf]; omega
          · first
            | (exfalso; have := HNN.out; omega)
            | (
                have y0 : y = 0 := by rw [HY.out, List.getD_eq_getElem?_getD, List.getElem?_eq_none (by omega)]; rfl
                have qy0 : q * (y : Int) = 0 := by rw [y0]; simp
                have Q0 := hid qy0
                clear y0 qy0
                go_wp2_with (go_at_call 83; refine (carried_any _ _ (by omega) (by omega)).mono ?_; rintro e w' ⟨rfl, rfl⟩)
                go_roundw
                case rel => exact ⟨k + 1, _, by omega, by go_num, rfl, HS.out _ (by rw [Q0.out]; omega)⟩
                case measure => simp [intOf]; omega)
        · first
          | (exfalso; have := HNN.out; omega)
          | (
              have x0 : x = 0 := by rw [HX.out, List.getD_eq_getElem?_getD, List.getElem?_eq_none (by omega)]; rfl
              have px0 : p * (x : Int) = 0 := by rw [x0]; simp
              have P0 := hid px0
              clear x0 px0
              have kb : k < b.length := by have := HNN.out; omega
              obtain ⟨bb, boff, rfl, hbc⟩ := HB.out (by omega)
              have hcb := keepCell HR.out.bel (hbc k kb)
              rw [← HY.out] at hcb
              clear hbc
              go_wp2_with (go_at_call 83; refine (carried_any _ _ (by omega) (by omega)).mono ?_; rintro e w' ⟨rfl, rfl⟩)
              go_roundw
              case rel => exact ⟨k + 1, _, by omega, by go_num, rfl, HS.out _ (by rw [P0.out]; omega)⟩
              case measure => simp [intOf]; omega)
      · clear hx hy
        obtain rfl : k = n := by omega
        obtain ⟨ds, hd1, hd2, hd3, hd4, hd5⟩ := HR.out.fin hal hbl HN.out HLT.out (by unfold maxLen; omega)
        have HD2 := hid hd2
        have HD3 := hid hd3
        have HD4 := hid hd4
        have HD5 := hid hd5
        clear hd2 hd3 hd4 hd5
        go_wp2_with fail
        refine (trim_any _ ds _ HD4.out).mono ?_
        rintro e w' ⟨v', rfl, rfl, hn⟩
        have HV := hid (hn _ HD4.out)
        clear hn
        go_wp2
        go_ret
        exact ⟨v', rfl, by rw [HD2.out]; exact HV.out, HD5.out⟩

end Zn
end Go.Proofs.YtelfpefcjchjbaaGreatDoor
