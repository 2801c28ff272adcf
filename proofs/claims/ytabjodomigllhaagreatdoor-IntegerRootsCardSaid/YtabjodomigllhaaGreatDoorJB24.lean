/-
  Contract of gantry/integer: rootAbove of a long number, squareRoot in general.
-/
import Derived.Test.YtabjodomigllhaaGreatDoorJB1
import Derived.Test.YtabjodomigllhaaGreatDoorJB19
import Derived.Test.YtabjodomigllhaaGreatDoorJB18
namespace Go.Proofs.YtabjodomigllhaaGreatDoor
open Go.RowKit
open Go.Lib (hid)
open Dg
namespace Zn

theorem Nums.from {w : World} {ao : Option Addr} {cap : Nat} {ds : List Nat} (h : Nums w (.slice ao ds.length cap) ds) {k : Nat} (hk : k < ds.length) : Nums w (.slice (Option.map (fun x => x.add k) ao) (ds.length - k) (cap - k)) (ds.drop k) := by
  obtain ⟨a1, c1, e, h1, h2, h3⟩ := h
  cases e
  refine ⟨_, _, by rw [List.length_drop], by rw [List.length_drop]; omega, by omega, fun hl => ?_⟩
  obtain ⟨g, off, rfl, hc⟩ := h3 (by omega)
  refine ⟨g, off + k, by rw [Option.map_some, Addr.add_lit], fun i hi => ?_⟩
  rw [List.length_drop] at hi
  have h4 := hc (k + i) (by omega)
  rw [show off + k + i = off + (k + i) by omega, h4]
  simp [List.getD_eq_getElem?_getD, List.getElem?_drop]

set_option maxRecDepth 100000 in
set_option maxHeartbeats 4000000 in
theorem rootAbove_long (va : Value) (m p : Nat) (w : World) (ha : Nums w va (dig m)) (h2 : ¬ (dig m).length ≤ 2) (hp : p = ((dig m).length + 1) / 4) (hl : (dig m).length ≤ 1099511627000)
    (hsq : ∀ w' v, Nums w' v (dig (m / 1000000000 ^ (2 * p))) → Calls Tryz.prog 110 #[v] w' (RetSqrt w' (m / 1000000000 ^ (2 * p)))) :
    Calls Tryz.prog 150 #[va] w (RetRoot w m) := by
  obtain ⟨i0, hi, hz0, hz1, hz2⟩ := info_parts Tryz.int_info
  have HA := hid ha
  have HSQ := hid hsq
  obtain ⟨ao, ac, rfl, a1, a2, -⟩ := ha
  unfold maxLen at a2
  have h2i : ¬ (((dig m).length : Int) ≤ 2) := by omega
  have hpi : (((dig m).length : Int) + 1) / 4 = (p : Int) := by omega
  have hpl : 2 * p < (dig m).length := by omega
  have hn := Nums.from HA.out hpl
  rw [dig_drop] at hn
  have HP := hid hp
  have HN := hid hn
  clear hn hsq hp
  go_enter Tryz.func150, Tryz.ntmps150
  go_upto_region 5 with fail
  rw [hpi]
  clear hpi
  have hp2 : 0 ≤ 2 * (p : Int) := by omega
  have hple : 2 * (p : Int) ≤ ((dig m).length : Int) := by omega
  have hpb : (p : Int) ≤ 1099511627000 := by omega
  have hlb : ((dig m).length : Int) ≤ 1099511627000 := by omega
  go_wp2_with fail
  refine (HSQ.out _ _ HN.out).mono ?_
  rintro e w1 ⟨v1, s, rfl, hs, hs1, hs2, hb1⟩
  have HS := hid hs
  have HS1 := hid hs1
  have HS2 := hid hs2
  have HB := hid hb1
  clear hs hs1 hs2 hb1 HSQ HN
  go_wp2_with fail
  have hal := (show Below w1.heap.size w1 (w1.alloc (Obj.cells #[Value.int .i64 1] 3)) from (Below.refl _ _).alloc (Nat.le_refl _) _)
  have hone : Nums (w1.alloc (Obj.cells #[Value.int .i64 1] 3)) (.slice (some ⟨w1.heap.size, 0, none⟩) 1 1) [1] := by
    refine ⟨_, _, rfl, Nat.le_refl _, by decide, fun _ => ⟨_, _, rfl, fun i hi => ?_⟩⟩
    obtain rfl : i = 0 := by simpa using hi
    exact cell_of_row _ _ 0 _ _ (0, 0) (heap_alloc_new w1 _)
  have hsl : (dig s).length ≤ (dig m).length := dig_length_mono (Nat.le_trans (Nat.le_mul_self s) (Nat.le_trans HS1.out (Nat.div_le_self _ _)))
  have h1d : Dig [1] := fun x hx => by simp at hx; omega
  have hs1l : s + 1 < 1000000000 ^ (max (dig s).length [1].length + 1) := by
    have h3 : s < 1000000000 ^ (dig s).length := dig_length_le.1 (Nat.le_refl _)
    have h4 : 1000000000 ^ (dig s).length ≤ 1000000000 ^ (max (dig s).length [1].length) := Nat.pow_le_pow_right (by decide) (Nat.le_max_left _ _)
    rw [Nat.pow_succ]
    omega
  refine (combine_any 1 1 v1 _ (dig s) [1] (s + 1) _ (HS.out.keep hal) hone (dig_Dig _) h1d (by decide) (by decide) (by decide) (by decide) (by rw [val_dig]; simp [val]) hs1l (by omega) (by decide)).mono ?_
  rintro e w2 ⟨v2, rfl, hn2, hb2⟩
  have HN := hid hn2
  replace HB := hid (Pu.further (Pu.further HB.out hal) hb2)
  have hal2 := above_length HS1.out (Nat.le_of_lt hpl)
  have HAL := hid hal2
  have HLT := hid (above_lt HS2.out)
  rw [dig_zeros (show 0 < s + 1 by omega), List.length_append, List.length_replicate] at hal2
  clear hb2 hal hone hsl h1d hs1l HS HS1 HS2
  obtain ⟨so, sc, rfl, s1, s2, -⟩ := hn2
  unfold maxLen at s2
  obtain ⟨t, ht⟩ : ∃ t, t = dig (s + 1) := ⟨_, rfl⟩
  rw [← ht] at HN hal2 s1 ⊢
  have HT := hid ht
  have ht0 : ¬ t = [] := by rw [ht, dig_eq_nil]; omega
  clear ht
  go_wp2_with (at_make; refine wpList_make_ints rfl (.tmp 32) (.tmp 32) rfl i0 hi hz0 hz1 hz2 Tryz.under_ints _ _ (p + t.length) rfl rfl (by omega) (by omega) (by omega) ?_)
  intro w3 hrow hbel hsz
  have HRW := hid (show w3.heap[w2.heap.size]? = some (.cells ((List.replicate (p + t.length) (0 : Int)).map (Value.int .i64)).toArray 3 (0, 0)) from hrow)
  have HB3 := hid hbel
  clear hrow hbel hsz
  have hsub : p + t.length - p = t.length := by omega
  have hpt : (p : Int) ≤ ((p + t.length : Nat) : Int) := by omega
  go_wp2_with (with_reducible refine wpList_copy_splice rfl (.tmp 36) (.tmp 37) 22 22 rfl 3 Tryz.under_ints ?c0 _ _ t.length t.length t.length sc rfl rfl w2.heap.size p ((List.replicate (p + t.length) (0 : Int)).map (Value.int .i64)) 3 HRW.out (t.map fun d : Nat => Value.int .i64 (d : Int)) ?c1 ?c2 ?c3 ?c4 w2.heap.size w2 ?c5 ?c6 ?_)
  case c0 => rw [hi]; simp [hz1]
  case c1 =>
    show _ = Nat.min t.length t.length
    rw [List.length_map]
    exact (Nat.min_self _).symm
  case c2 =>
    intro hl
    obtain ⟨a1, c1, e, -, -, h3⟩ := HN.out
    cases e
    obtain ⟨bb, off, rfl, hc⟩ := h3 (by simpa using hl)
    first | refine ⟨rfl, _, rfl, fun j d hd1 => ?_⟩ | refine ⟨_, rfl, fun j d hd1 => ?_⟩
    have hja : j < t.length := by simpa using (List.getElem?_eq_some_iff.1 hd1).1
    rw [Addr.add_lit]
    refine keepCell HB3.out ((hc j hja).trans ?_)
    rw [List.getD_eq_getElem?_getD, hd1]
    rfl
  case c3 => simp
  case c4 =>
    intro v hv
    obtain ⟨d, _, rfl⟩ := List.mem_map.1 hv
    rfl
  case c5 => exact HB3.out
  case c6 => exact Nat.le_refl _
  intro w4 hrow2 hbel2
  have HR2 := hid (show RowI w4 w2.heap.size ((List.replicate p 0 ++ t).map Int.ofNat) by
    unfold RowI
    rw [hrow2.out]
    congr 2
    unfold splice
    simp)
  replace HB := hid (Pu.further HB.out hbel2)
  clear hrow2 hbel2 HRW HB3
  have HNN := hid (show Nums w4 (.slice (some ⟨w2.heap.size, 0, none⟩) (p + t.length) (p + t.length)) (dig ((s + 1) * 1000000000 ^ p)) by
    rw [dig_zeros (show 0 < s + 1 by omega), ← HT.out]
    exact HR2.out.nums 0 _ _ _ (by simp) (Nat.le_refl _) (by unfold maxLen; omega) (by simp) (fun i _ => by rw [Nat.zero_add]; exact getD_map _ _))
  go_wp2
  go_ret
  exact ⟨_, _, rfl, HNN.out, HLT.out, HAL.out, HB.out⟩

/-- Both, of a number of any length: by induction on the length. -/
theorem squareRoot_any (va : Value) (m : Nat) (w : World) (ha : Nums w va (dig m)) (hl : (dig m).length ≤ 1099511620000) :
    Calls Tryz.prog 110 #[va] w (RetSqrt w m) := by
  induction hk : (dig m).length using Nat.strongRecOn generalizing m va w with
  | _ k ih =>
    by_cases h2 : (dig m).length ≤ 2
    · exact squareRoot_two va m w ha h2
    · refine squareRoot_of va m w ha (Nat.le_trans hl (by decide)) (fun w1 h1 => rootAbove_long va m (((dig m).length + 1) / 4) w1 h1 h2 rfl (Nat.le_trans hl (by decide)) fun w2 v h3 => ?_) fun w1 vb r hr hr2 h1 h3 => divide_any va vb m r w1 h1 h3 hr (Nat.le_trans hl (by decide))
      have hd : (dig (m / 1000000000 ^ (2 * (((dig m).length + 1) / 4)))).length = (dig m).length - 2 * (((dig m).length + 1) / 4) := by rw [← dig_drop, List.length_drop]
      exact ih _ (by omega) v _ w2 h3 (by omega) hd

theorem Root_any (vx : Value) (x : Int) (w : World) (hx : IntAt w vx x) (hx0 : 0 ≤ x) (hl : len x ≤ 1000000000) :
    Calls Tryz.prog 32 #[vx] w (RetRootI w x) :=
  Root_of vx x w hx hx0 hl fun w1 va h => squareRoot_any va x.natAbs w1 h (Nat.le_trans hl (by decide))

end Zn
end Go.Proofs.YtabjodomigllhaaGreatDoor
