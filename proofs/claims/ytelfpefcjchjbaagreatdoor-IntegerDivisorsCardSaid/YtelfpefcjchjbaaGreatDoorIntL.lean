/-
  Contracts of gantry/gantryref04: plus, minus, Add.
-/
import Derived.Test.YtelfpefcjchjbaaGreatDoorIntK
namespace Go.Proofs.YtelfpefcjchjbaaGreatDoor
open Go.RowKit
open Go.Lib (hid)
open Dg
namespace Zn

/-- The reference's plus, in its loop: k digits of the sum; c is what is carried. -/
def PRel (a b : List Nat) (w : World) (k c : Nat) (v : Value) (wr : World) : Prop :=
  ∃ ds, ds.length = k ∧ Dig ds ∧ OwnN wr w.heap.size v ds ∧ Below w.heap.size w wr ∧ c ≤ 1 ∧ val ds + 1000000000 ^ k * c = val (a.take k) + val (b.take k)
theorem plus_step {a b ds : List Nat} {k c s : Nat} (ha : Dig a) (hb : Dig b) (h1 : ds.length = k) (h2 : Dig ds) (h5 : c ≤ 1) (h6 : val ds + 1000000000 ^ k * c = val (a.take k) + val (b.take k)) (hs : s = a.getD k 0 + b.getD k 0 + c) :
    (ds ++ [s % 1000000000]).length = k + 1 ∧ Dig (ds ++ [s % 1000000000]) ∧ s / 1000000000 ≤ 1 ∧ val (ds ++ [s % 1000000000]) + 1000000000 ^ (k + 1) * (s / 1000000000) = val (a.take (k + 1)) + val (b.take (k + 1)) := by
  have ha9 := ha.getD k
  have hb9 := hb.getD k
  refine ⟨by simp [h1], h2.append (Dig.cons (by omega) Dig.nil), by omega, ?_⟩
  rw [val_append, h1, val_take_getD a, val_take_getD b]
  simp only [val, Nat.mul_zero, Nat.add_zero]
  rw [Nat.pow_succ, Nat.mul_assoc]
  have e : s % 1000000000 + 1000000000 * (s / 1000000000) = a.getD k 0 + b.getD k 0 + c := by omega
  have e2 := congrArg (fun x => 1000000000 ^ k * x) e
  simp only [Nat.mul_add] at e2
  generalize 1000000000 ^ k * (s % 1000000000) = e3 at *
  generalize 1000000000 ^ k * (1000000000 * (s / 1000000000)) = e4 at *
  generalize 1000000000 ^ k * c = e5 at *
  generalize 1000000000 ^ k * a.getD k 0 = e6 at *
  generalize 1000000000 ^ k * b.getD k 0 = e7 at *
  omega

set_option maxRecDepth 100000 in
set_option maxHeartbeats 2000000 in
theorem refPlus_any (va vb : Value) (a b : List Nat) (w : World) (ha : Nums w va a) (hb : Nums w vb b) (hda : Dig a) (hdb : Dig b) (hla : a.length ≤ 1099511627000) (hlb : b.length ≤ 1099511627000) :
    Calls Tryz.prog 53 #[va, vb] w (RetVal w (val a + val b)) := by
  obtain ⟨i0, hi, hz0, hz1, hz2⟩ := info_parts Tryz.int_info
  have HA := hid ha
  have HB := hid hb
  obtain ⟨ao, ac, rfl, a1, a2, -⟩ := ha
  obtain ⟨bo, bc, rfl, b1, b2, -⟩ := hb
  unfold maxLen at a2 b2
  go_enter Tryz.func53, Tryz.ntmps53
  go_wp2
  go_loopw [5, 6, 7] (fun d c i wr => ∃ k c' : Nat, k ≤ max a.length b.length + 1 ∧ (c' = 0 ∨ k ≤ max a.length b.length) ∧ i = .int .i64 k ∧ c = .int .i64 c' ∧ PRel a b w k c' d wr) (fun _ _ i _ => max a.length b.length + 1 - (intOf i).toNat)
  case atStart => exact ⟨0, 0, by omega, by omega, rfl, rfl, [], rfl, Dig.nil, OwnN.start _ _, Below.refl _ _, by omega, by simp [val]⟩
  case round =>
    obtain ⟨k, c, hk, hkc, rfl, rfl, ds, hlen, hdg, hown, hbel, hc1, hval⟩ := hrel
    have HO := hid hown
    have HBL := hid hbel
    have HA2 := hid (HA.out.keep hbel)
    have HB2 := hid (HB.out.keep hbel)
    obtain ⟨x, hx⟩ : ∃ x, x = a.getD k 0 := ⟨_, rfl⟩
    obtain ⟨y, hy⟩ : ∃ y, y = b.getD k 0 := ⟨_, rfl⟩
    have hx9 : x < 1000000000 := by rw [hx]; exact hda.getD k
    have hy9 : y < 1000000000 := by rw [hy]; exact hdb.getD k
    have HX := hid hx
    have HY := hid hy
    have HDA := hid (digit_any _ a k wr HA2.out)
    have HDB := hid (digit_any _ b k wr HB2.out)
    rw [← hx] at HDA
    rw [← hy] at HDB
    have hmx : max a.length b.length ≤ 1099511627000 := by omega
    have hdl : ds.length ≤ 1099511627776 := by omega
    have HST := hid (plus_step hda hdb hlen hdg hc1 hval (s := x + y + c) (by rw [hx, hy]))
    have HLN := hid hlen
    have HVL := hid hval
    clear hx hy hown hbel hlen hval
    by_cases hgo : k < a.length ∨ (¬ k < a.length ∧ k < b.length) ∨ (¬ k < a.length ∧ ¬ k < b.length ∧ 0 < c)
    · have hnext : (x + y + c) / 1000000000 = 0 ∨ k + 1 ≤ max a.length b.length := by
        by_cases hh : k < max a.length b.length
        · exact .inr hh
        · refine .inl ?_
          have e1 : x = 0 := by rw [HX.out, List.getD_eq_getElem?_getD, List.getElem?_eq_none (by omega)]; rfl
          have e2 : y = 0 := by rw [HY.out, List.getD_eq_getElem?_getD, List.getElem?_eq_none (by omega)]; rfl
          omega
      have HNX := hid hnext
      have HKM := hid (show k + 1 ≤ max a.length b.length + 1 by omega)
      have hk40 : k ≤ 1099511627001 := by omega
      clear hnext hmx hk hkc
      rcases hgo with hgo | ⟨hgo, hgo2⟩ | ⟨hgo, hgo2, hgo3⟩
      all_goals
        go_wp2_with fail
        refine HDA.out.mono ?_
        rintro e w' ⟨rfl, rfl⟩
        go_wp2_with fail
        refine HDB.out.mono ?_
        rintro e w' ⟨rfl, rfl⟩
        go_wp2_with (at_builtin; refine wpList_append_int rfl (.tmp 34) (.tmp 37) rfl i0 hi hz0 hz1 hz2 Tryz.under_ints w _ ds rfl (HO.out.alloc _) wr.heap.size ((x + y + c) % 1000000000) rfl (by exact cell_of_row _ _ 0 _ _ _ (heap_alloc_new wr _)) hdl (HBL.out.alloc HBL.out.size _) ?_)
        intro v' w' hown' hbel'
        have HO2 := hid hown'
        have HB2 := hid hbel'
        clear hown' hbel'
        go_wp2
        go_roundw
        case rel => exact ⟨k + 1, (x + y + c) / 1000000000, HKM.out, HNX.out, by go_num, by congr 1, _, HST.out.1, HST.out.2.1, HO2.out, HB2.out, HST.out.2.2.1, HST.out.2.2.2⟩
        case measure => have := HKM.out; simp [intOf]; omega
    · have hge : ¬ k < a.length := by omega
      have hge2 : ¬ k < b.length := by omega
      obtain rfl : c = 0 := by omega
      have hge3 : max a.length b.length ≤ k := by omega
      rw [show ((0 : Nat) : Int) = 0 from rfl]
      clear hgo
      go_wp2
      go_ret
      refine ⟨_, ds, rfl, HO.out.nums, hdg, ?_, HBL.out⟩
      have h := HVL.out
      rw [Nat.mul_zero, Nat.add_zero, List.take_of_length_le (by omega), List.take_of_length_le (by omega)] at h
      exact h

end Zn
end Go.Proofs.YtelfpefcjchjbaaGreatDoor
