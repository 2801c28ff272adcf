/-
  Contracts of gantry/integer: times.
-/
import Derived.Test.YtelfpefcjchjbaaGreatDoorIntD
namespace Go.Proofs.YtelfpefcjchjbaaGreatDoor
open Go.RowKit
open Go.Lib (hid)
open Dg
namespace Zn

/-- times' inner loop: the product so far, and what is carried. -/
def TRel (a b : List Nat) (w : World) (i k c : Nat) (wr : World) : Prop :=
  ∃ zs, zs.length = a.length + b.length ∧ Dig zs ∧ RowN wr w.heap.size zs ∧ Below w.heap.size w wr ∧ wr.heap.size = w.heap.size + 1 ∧ c < 1000000000 ∧
    val zs + 1000000000 ^ (i + k) * c = val (a.take i) * val b + 1000000000 ^ i * (a.getD i 0 * val (b.take k)) ∧ ∀ j, i + b.length ≤ j → zs.getD j 0 = 0
/-- times' outer loop. -/
def ORel (a b : List Nat) (w : World) (i : Nat) (wr : World) : Prop :=
  ∃ zs, zs.length = a.length + b.length ∧ Dig zs ∧ RowN wr w.heap.size zs ∧ Below w.heap.size w wr ∧ wr.heap.size = w.heap.size + 1 ∧
    val zs = val (a.take i) * val b ∧ ∀ j, i + b.length ≤ j → zs.getD j 0 = 0

theorem ORel.inner {a b : List Nat} {w wr : World} {i : Nat} (h : ORel a b w i wr) : TRel a b w i 0 0 wr := by
  obtain ⟨zs, h1, h2, h3, h4, h5, h6, h7⟩ := h
  exact ⟨zs, h1, h2, h3, h4, h5, by omega, by simp [val, h6], h7⟩
theorem ORel.start {a b : List Nat} {w wr : World} (h1 : RowI wr w.heap.size (List.replicate (a.length + b.length) 0)) (h2 : Below w.heap.size w wr) (h3 : wr.heap.size = w.heap.size + 1) : ORel a b w 0 wr := by
  refine ⟨_, by simp, Dig.replicate _, RowN.made h1, h2, h3, by simp [val_replicate, val], fun j _ => ?_⟩
  rw [List.getD_eq_getElem?_getD, List.getElem?_replicate]
  split <;> rfl
theorem TRel.cell {a b : List Nat} {w wr : World} {i k c : Nat} (h : TRel a b w i k c wr) (hj : i + k < a.length + b.length) : ∃ z : Nat, z < 1000000000 ∧ wr.cell? ⟨w.heap.size, i + k, none⟩ = some (.int .i64 (z : Int)) ∧ wr.frozen? ⟨w.heap.size, i + k, none⟩ = false ∧
    (∀ v, v = z + a.getD i 0 * b.getD k 0 + c → k < b.length → v / 1000000000 < 1000000000 → TRel a b w i (k + 1) (v / 1000000000) (wr.setCell ⟨w.heap.size, i + k, none⟩ (.int .i64 ((v : Int) % 1000000000)))) := by
  obtain ⟨zs, h1, h2, h3, h4, h5, h6, h7, h8⟩ := h
  refine ⟨zs.getD (i + k) 0, h2.getD _, h3.cell (by omega), RowI.frozen h3 _, fun v hv hk hc => ?_⟩
  refine ⟨zs.set (i + k) (v % 1000000000), by simpa using h1, h2.set _ _ (by omega), h3.store _ _ _ (by omega), h4.setCell (by simp) _, by simpa using h5, hc, ?_, ?_⟩
  · have e := val_set (a := zs) (k := i + k) (by omega) (v % 1000000000)
    have e0 : zs.getD (i + k) 0 = zs[i + k]'(by omega) := by rw [List.getD_eq_getElem?_getD, List.getElem?_eq_getElem (by omega)]; rfl
    rw [← e0] at e
    rw [val_take_getD b k]
    generalize zs.getD (i + k) 0 = z at *
    generalize val (zs.set (i + k) (v % 1000000000)) = V at *
    rw [show i + (k + 1) = i + k + 1 from rfl, Nat.pow_succ]
    have e2 : ((1000000000 : Int) ^ (i + k)) = ((1000000000 ^ (i + k) : Nat) : Int) := by rw [Int.natCast_pow]; rfl
    rw [e2] at e
    rw [Nat.mul_add, Nat.mul_add]
    rw [show 1000000000 ^ i * (a.getD i 0 * (1000000000 ^ k * b.getD k 0)) = 1000000000 ^ (i + k) * (a.getD i 0 * b.getD k 0) by rw [Nat.pow_add, Nat.mul_left_comm (a.getD i 0), Nat.mul_assoc]]
    rw [← Nat.add_assoc, ← h7]
    generalize 1000000000 ^ (i + k) = P at *
    generalize a.getD i 0 * b.getD k 0 = xy at *
    have e3 : (P : Int) * (((v % 1000000000 : Nat) : Int) - (z : Int)) + ((P * (1000000000 * (v / 1000000000)) : Nat) : Int) = ((P * xy : Nat) : Int) + ((P * c : Nat) : Int) := by
      rw [Int.natCast_mul P (1000000000 * (v / 1000000000)), Int.natCast_mul P xy, Int.natCast_mul P c, ← Int.mul_add, ← Int.mul_add]
      congr 1
      omega
    rw [Nat.mul_assoc]
    generalize P * (1000000000 * (v / 1000000000)) = Q1 at *
    generalize P * xy = Q2 at *
    generalize P * c = Q3 at *
    generalize (P : Int) * (((v % 1000000000 : Nat) : Int) - (z : Int)) = Q4 at *
    omega
  · intro j hj
    have := h8 j hj
    rw [List.getD_eq_getElem?_getD] at this ⊢
    rw [List.getElem?_set_ne (by omega)]
    exact this
theorem TRel.cellOut {a b : List Nat} {w wr : World} {i c : Nat} (h : TRel a b w i b.length c wr) (hi : i < a.length) : (∃ v, wr.cell? ⟨w.heap.size, i + b.length, none⟩ = some v) ∧ wr.frozen? ⟨w.heap.size, i + b.length, none⟩ = false ∧ ORel a b w (i + 1) (wr.setCell ⟨w.heap.size, i + b.length, none⟩ (.int .i64 (c : Int))) := by
  obtain ⟨zs, h1, h2, h3, h4, h5, h6, h7, h8⟩ := h
  refine ⟨⟨_, h3.cell (by omega)⟩, RowI.frozen h3 _, ?_⟩
  refine ⟨zs.set (i + b.length) c, by simpa using h1, h2.set _ _ h6, h3.store _ _ _ rfl, h4.setCell (by simp) _, by simpa using h5, ?_, ?_⟩
  · have e := val_set (a := zs) (k := i + b.length) (by omega) c
    have e0 : zs.getD (i + b.length) 0 = zs[i + b.length]'(by omega) := by rw [List.getD_eq_getElem?_getD, List.getElem?_eq_getElem (by omega)]; rfl
    rw [← e0, h8 _ (Nat.le_refl _)] at e
    rw [val_take_getD a i, Nat.add_mul, Nat.mul_assoc]
    rw [List.take_of_length_le (Nat.le_refl _)] at h7
    rw [← h7]
    have e2 : ((1000000000 : Int) ^ (i + b.length)) = ((1000000000 ^ (i + b.length) : Nat) : Int) := by rw [Int.natCast_pow]; rfl
    rw [e2] at e
    generalize val (zs.set (i + b.length) c) = V at *
    generalize 1000000000 ^ (i + b.length) = P at *
    rw [show ((c : Nat) : Int) - ((0 : Nat) : Int) = (c : Int) by omega, ← Int.natCast_mul] at e
    omega
  · intro j hj
    have := h8 j (by omega)
    rw [List.getD_eq_getElem?_getD] at this ⊢
    rw [List.getElem?_set_ne (by omega)]
    exact this
theorem TRel.bel {a b : List Nat} {w wr : World} {i k c : Nat} (h : TRel a b w i k c wr) : Below w.heap.size w wr ∧ c < 1000000000 := by
  obtain ⟨zs, h1, h2, h3, h4, h5, h6, h7, h8⟩ := h
  exact ⟨h4, h6⟩
theorem ORel.bel {a b : List Nat} {w wr : World} {i : Nat} (h : ORel a b w i wr) : Below w.heap.size w wr := by
  obtain ⟨zs, h1, h2, h3, h4, h5, h6, h7⟩ := h
  exact h4
theorem ORel.fin {a b : List Nat} {w wr : World} (h : ORel a b w a.length wr) (hm : a.length + b.length ≤ maxLen) : ∃ zs, Dig zs ∧ dig (val a * val b) = trimN zs ∧ Nums wr (.slice (some ⟨w.heap.size, 0, none⟩) (a.length + b.length) (a.length + b.length)) zs ∧ Below w.heap.size w wr := by
  obtain ⟨zs, h1, h2, h3, h4, h5, h6, h7⟩ := h
  rw [List.take_of_length_le (Nat.le_refl _)] at h6
  refine ⟨zs, h2, by rw [← h6, dig_val h2], ?_, h4⟩
  rw [← h1]
  exact h3.nums _ (Nat.le_refl _) (by omega)

theorem prod_bd {x y : Nat} (hx : x < 1000000000) (hy : y < 1000000000) : (0 : Int) ≤ (x : Int) * (y : Int) ∧ (x : Int) * (y : Int) ≤ 999999998000000001 := by
  have h := Nat.mul_le_mul (show x ≤ 999999999 by omega) (show y ≤ 999999999 by omega)
  have e : ((x * y : Nat) : Int) = (x : Int) * (y : Int) := Int.natCast_mul ..
  rw [← e]
  omega

set_option maxRecDepth 100000 in
set_option maxHeartbeats 4000000 in
theorem times_any (va vb : Value) (a b : List Nat) (w : World) (ha : Nums w va a) (hb : Nums w vb b) (hda : Dig a) (hdb : Dig b) (hla : a.length ≤ 1099511627776) (hlb : b.length ≤ 1099511627776) :
    Calls Tryz.prog 61 #[va, vb] w (RetNums w (dig (val a * val b))) := by
  obtain ⟨i0, hi, hz0, hz1, hz2⟩ := info_parts Tryz.int_info
  obtain ⟨ao, ac, rfl, a1, a2, a3⟩ := ha
  obtain ⟨bo, bc, rfl, b1, b2, b3⟩ := hb
  have HA := hid a3
  have HB := hid b3
  clear a3 b3
  unfold maxLen at a2 b2
  go_enter Tryz.func61, Tryz.ntmps61
  go_wp2_with (at_make; refine wpList_make_ints rfl (.tmp 15) (.tmp 15) rfl i0 hi hz0 hz1 hz2 Tryz.under_ints _ _ (a.length + b.length) rfl rfl (by omega) (by omega) (by omega) ?_)
  intro w1 hrow hbel hsz
  have HC := hid (ORel.start hrow hbel hsz)
  clear hrow hbel hsz
  go_wp2
  go_loopw [19] (fun i wr => ∃ k : Nat, k ≤ a.length ∧ i = .int .i64 k ∧ ORel a b w k wr) (fun i _ => a.length - (intOf i).toNat)
  case atStart => exact ⟨0, by omega, rfl, HC.out⟩
  case round =>
    obtain ⟨i, hik, rfl, hrel⟩ := hrel
    have HR := hid hrel
    clear hrel
    by_cases hia : i < a.length
    · obtain ⟨ab, aoff, rfl, hac⟩ := HA.out (by omega)
      have hca := keepCell HR.out.bel (hac i hia)
      obtain ⟨x, hx⟩ : ∃ x, x = a.getD i 0 := ⟨_, rfl⟩
      have hx9 : x < 1000000000 := by rw [hx]; exact hda.getD i
      rw [← hx] at hca
      have HX := hid hx
      have HI := hid HR.out.inner
      clear hac hx
      go_wp2
      go_loopw [8, 26] (fun c j wr => ∃ k c' : Nat, k ≤ b.length ∧ j = .int .i64 k ∧ c = .int .i64 c' ∧ TRel a b w i k c' wr) (fun _ j _ => b.length - (intOf j).toNat)
      case atStart => exact ⟨0, 0, by omega, rfl, rfl, HI.out⟩
      case round =>
        obtain ⟨k, c, hkb, rfl, rfl, hrel⟩ := hrel
        have HT := hid hrel
        have hc9 := hrel.bel.2
        clear hrel
        by_cases hk : k < b.length
        · obtain ⟨bb, boff, rfl, hbc⟩ := HB.out (by omega)
          have hcb := keepCell HT.out.bel.1 (hbc k hk)
          obtain ⟨y, hy⟩ : ∃ y, y = b.getD k 0 := ⟨_, rfl⟩
          have hy9 : y < 1000000000 := by rw [hy]; exact hdb.getD k
          rw [← hy] at hcb
          obtain ⟨xy1, xy2⟩ := prod_bd hx9 hy9
          obtain ⟨z, hz9, hcz, hfz, hnext⟩ := HT.out.cell (show i + k < a.length + b.length by omega)
          rw [← HX.out, ← hy] at hnext
          have HN : Hid (∀ s : Int, s = (z : Int) + (x : Int) * (y : Int) + (c : Int) → ∃ c' : Nat, s / 1000000000 = (c' : Int) ∧ TRel a b w i (k + 1) c' (wr.setCell ⟨w.heap.size, i + k, none⟩ (.int .i64 (s % 1000000000)))) := by
            refine hid fun s hs => ?_
            have e : s = ((z + x * y + c : Nat) : Int) := by rw [hs, Int.natCast_add, Int.natCast_add, Int.natCast_mul]
            refine ⟨(z + x * y + c) / 1000000000, by rw [e]; omega, ?_⟩
            rw [e]
            have hxy : ((x * y : Nat) : Int) ≤ 999999998000000001 := by rw [Int.natCast_mul]; exact xy2
            exact hnext _ rfl hk (by omega)
          clear hbc hy hnext
          go_wp2_with (go_at_call 83; refine (carried_any _ _ (by omega) (by omega)).mono ?_; rintro e w' ⟨rfl, rfl⟩)
          obtain ⟨c', hc', hT⟩ := HN.out _ rfl
          go_roundw
          case rel => exact ⟨k + 1, c', by omega, by go_num, by rw [hc'], hT⟩
          case measure => simp [intOf]; omega
        · obtain rfl : k = b.length := by omega
          obtain ⟨⟨v0, hc⟩, hfz, hO⟩ := HT.out.cellOut hia
          have HO := hid hO
          clear hO
          go_wp2
          go_roundw
          case rel => exact ⟨i + 1, by omega, by go_num, HO.out⟩
          case measure => simp [intOf]; omega
    · obtain rfl : i = a.length := by omega
      obtain ⟨zs, hz1', hz2', hz3', hz4'⟩ := HR.out.fin (by unfold maxLen; omega)
      have HZ2 := hid hz2'
      have HZ3 := hid hz3'
      have HZ4 := hid hz4'
      clear hz2' hz3' hz4'
      go_wp2_with fail
      refine (trim_any _ zs _ HZ3.out).mono ?_
      rintro e w' ⟨v', rfl, rfl, hn⟩
      have HV := hid (hn _ HZ3.out)
      clear hn
      go_wp2
      go_ret
      exact ⟨v', rfl, by rw [HZ2.out]; exact HV.out, HZ4.out⟩

end Zn
end Go.Proofs.YtelfpefcjchjbaaGreatDoor
