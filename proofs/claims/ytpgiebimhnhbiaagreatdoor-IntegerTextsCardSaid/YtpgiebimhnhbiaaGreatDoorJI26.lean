/-
  Contracts of gantry/integer: divideShort, Small.
  Contract of gantry/integer: Small.
-/
import Derived.Test.YtpgiebimhnhbiaaGreatDoorJI25
import Derived.RegionTactic
import Derived.ChangeAlike
import Derived.BigRegion
set_option linter.unusedVariables false
set_option linter.unusedSimpArgs false
set_option linter.unusedSectionVars false
namespace Go.Proofs.YtpgiebimhnhbiaaGreatDoor
open Go.RowKit
open Go.Lib (hid)
open Dg
namespace Zn
def SRel (a : List Nat) (d : Nat) (w : World) (k r : Nat) (wr : World) : Prop :=
 ∃ zs, zs.length = a.length ∧ Dig zs ∧ RowN wr w.heap.size zs ∧ Below w.heap.size w wr ∧ wr.heap.size = w.heap.size + 1 ∧ r < d ∧
  d * val (zs.drop k) + r = val (a.drop k)
theorem SRel.cell {a : List Nat} {d : Nat} {w wr : World} {k r : Nat} (h : SRel a d w (k + 1) r wr) (hk : k < a.length) (hd : d < 1000000000) (hda : Dig a) :
  (∃ v, wr.cell? ⟨w.heap.size, k, none⟩ = some v) ∧ wr.frozen? ⟨w.heap.size, k, none⟩ = false ∧ Below w.heap.size w wr ∧ r < d ∧
  ∀ p, p = r * 1000000000 + a.getD k 0 → ∀ w2, w2.heap = (wr.setCell ⟨w.heap.size, k, none⟩ (.int .i64 ((p / d : Nat) : Int))).heap → Below w.heap.size w w2 → SRel a d w k (p % d) w2 := by
 obtain ⟨zs, h1, h2, h3, h4, h5, h6, h7⟩ := h
 have ha9 := hda.getD k
 refine ⟨⟨_, h3.cell (by omega)⟩, RowI.frozen h3 k, h4, h6, fun p hp w2 hw hb => ?_⟩
 have hq : p / d < 1000000000 := by
  rw [Nat.div_lt_iff_lt_mul (by omega)]
  have : (r + 1) * 1000000000 ≤ d * 1000000000 := Nat.mul_le_mul_right _ (by omega)
  rw [Nat.mul_comm 1000000000 d]
  omega
 refine ⟨zs.set k (p / d), by simpa using h1, h2.set _ _ hq, ?_, hb, ?_, Nat.mod_lt _ (by omega), ?_⟩
 ·have := h3.store k _ (p / d) rfl
  unfold RowN RowI at this ⊢
  rw [hw]
  exact this
 ·rw [hw]
  simpa using h5
 ·have e1 : val ((zs.set k (p / d)).drop k) = p / d + 1000000000 * val (zs.drop (k + 1)) := by
   rw [val_drop (by simp; omega)]
   congr 1
   ·simp
   ·congr 2
    rw [List.drop_set_of_lt (by omega)]
  have e2 : val (a.drop k) = a.getD k 0 + 1000000000 * val (a.drop (k + 1)) := by
   rw [val_drop hk]
   congr 1
   simp [List.getD_eq_getElem?_getD, hk]
  rw [e1, e2, ← h7]
  have hdm := Nat.div_add_mod p d
  rw [Nat.mul_add, Nat.mul_add, Nat.mul_left_comm d 1000000000]
  generalize 1000000000 * (d * val (zs.drop (k + 1))) = X
  generalize d * (p / d) = Y at *
  omega

set_option maxRecDepth 100000 in
set_option maxHeartbeats 4000000 in
theorem divideShort_any (va : Value) (a : List Nat) (d : Nat) (w : World) (ha : Nums w va a) (hda : Dig a) (hd0 : 0 < d) (hd : d < 1000000000) (hla : a.length ≤ 1099511627776) :
  Calls Tryz.prog 161 #[va, .int .i64 (d : Int)] w (RetTwo w (val a / d) (val a % d)) := by
 obtain ⟨i0, hi, hz0, hz1, hz2⟩ := info_parts Tryz.int_info
 obtain ⟨ao, ac, rfl, a1, a2, a3⟩ := ha
 have HA := hid a3
 clear a3
 unfold maxLen at a2
 have hdz : ((d : Int) == 0) = false := by rw [beq_eq_false_iff_ne]; omega
 go_enter Tryz.func161, Tryz.ntmps161
 go_wp2_with (at_make; refine wpList_make_ints rfl (.tmp 11) (.tmp 11) rfl i0 hi hz0 hz1 hz2 Tryz.under_ints _ _ a.length rfl rfl (by omega) (by omega) (by omega) ?_)
 intro w1 hrow hbel hsz
 have HC := hid (show SRel a d w a.length 0 w1 from ⟨_, by simp, Dig.replicate _, RowN.made hrow, hbel, hsz, hd0, by rw [List.drop_eq_nil_of_le (by simp), List.drop_length]; simp [val]⟩)
 clear hrow hbel hsz
 go_wp2
 go_loopw [7, 8] (fun r i wr => ∃ k r' : Nat, k ≤ a.length ∧ i = .int .i64 ((k : Int) - 1) ∧ r = .int .i64 r' ∧ SRel a d w k r' wr) (fun _ i _ => (intOf i + 1).toNat)
 case atStart => exact ⟨a.length, 0, by omega, rfl, rfl, HC.out⟩
 case round =>
  obtain ⟨k, r, hk, rfl, rfl, hrel⟩ := hrel
  have HR := hid hrel
  clear hrel
  rcases Nat.eq_zero_or_pos k with h0 | h0
  ·subst h0
   obtain ⟨zs, h1, h2, h3, h4, h5, h6, h7⟩ := HR.out
   rw [List.drop_zero, List.drop_zero] at h7
   have hqz : val zs = val a / d := by
    rw [← h7, Nat.add_comm, Nat.add_mul_div_left _ _ hd0, Nat.div_eq_of_lt h6, Nat.zero_add]
   have hrz : r = val a % d := by
    rw [← h7, Nat.add_comm, Nat.add_mul_mod_self_left, Nat.mod_eq_of_lt h6]
   have HN0 := hid (show Nums wr (.slice (some ⟨w.heap.size, 0, none⟩) a.length a.length) zs by rw [← h1]; exact h3.nums _ (Nat.le_refl _) (by unfold maxLen; omega))
   have HQ := hid hqz
   have HRZ := hid hrz
   have HB4 := hid h4
   have hr64 : (r : Int) ≤ 1000000000 := by omega
   have HSP := hid (fun w1 => split_any r w1 (by omega))
   clear h1 h3 h4 h5 h7 hqz hrz
   go_wp2_with fail
   refine (trim_any _ zs _ HN0.out).mono ?_
   rintro e w' ⟨v', rfl, rfl, hn⟩
   have hn2 := hn _ HN0.out
   rw [← dig_val h2, HQ.out] at hn2
   have HV := hid hn2
   clear hn hn2
   go_wp2_with fail
   refine (HSP.out _).mono ?_
   rintro e w5 ⟨v5, rfl, hn5, hb5⟩
   rw [HRZ.out] at hn5
   have HV5 := hid hn5
   have HV2 := hid (HV.out.keep hb5)
   have HB5 := hid (Pu.further HB4.out hb5)
   clear hn5 hb5
   go_wp2
   go_ret2
   exact ⟨v', v5, rfl, HV2.out, HV5.out, HB5.out⟩
  ·obtain ⟨j, rfl⟩ : ∃ j, k = j + 1 := ⟨k - 1, by omega⟩
   obtain ⟨⟨v0, hc⟩, hfz, hbl, hrd, hnext⟩ := HR.out.cell (by omega) hd hda
   obtain ⟨b, off, rfl, hac⟩ := HA.out (by omega)
   have hca := keepCell hbl (hac j (by omega))
   obtain ⟨x, hx⟩ : ∃ x, x = a.getD j 0 := ⟨_, rfl⟩
   have hx9 : x < 1000000000 := by rw [hx]; exact hda.getD j
   rw [← hx] at hca hnext
   have HN := hid hnext
   have HBL := hid hbl
   have e1 : ((j + 1 : Nat) : Int) - 1 = (j : Int) := by omega
   rw [e1]
   clear hac hx hnext hbl e1
   obtain ⟨p, hp⟩ : ∃ p, p = r * 1000000000 + x := ⟨_, rfl⟩
   have ep : (r : Int) * 1000000000 + (x : Int) = ((p : Nat) : Int) := by omega
   have hpb : p ≤ 1000000000000000000 := by omega
   have eq1 : ((r : Int) * 1000000000 + (x : Int)) / (d : Int) = ((p / d : Nat) : Int) := by rw [ep, Int.natCast_ediv]
   have eq2 : ((r : Int) * 1000000000 + (x : Int)) % (d : Int) = ((p % d : Nat) : Int) := by rw [ep, Int.natCast_emod]
   have HE1 := hid eq1
   have HE2 := hid eq2
   have HP := hid hp
   clear ep eq1 eq2 hp
   go_wp2
   go_region
   rw [HE1.out]
   rw [HE2.out]
   have HS := hid (HN.out p HP.out ((wr.setCell ⟨w.heap.size, j, none⟩ (.int .i64 ((p / d : Nat) : Int))).drew) rfl ((HBL.out.setCell (by simp) _).drew))
   generalize (wr.setCell ⟨w.heap.size, j, none⟩ (.int .i64 ((p / d : Nat) : Int))).drew = w5 at *
   go_wp2
   go_roundw
   case rel => exact ⟨j, p % d, by omega, by go_num, rfl, HS.out⟩
   case measure => simp [intOf]

def smallI (x : Int) : Int × Bool := if -9223372036854775808 ≤ x ∧ x ≤ 9223372036854775807 then (x, true) else (0, false)
def RetSmall (w : World) (x : Int) (e : Ending) (w' : World) : Prop := e = .returned (.tuple #[.int .i64 (smallI x).1, .bool (smallI x).2]) ∧ Below w.heap.size w w'

set_option maxRecDepth 100000 in
set_option maxHeartbeats 4000000 in
theorem Small_big (vx : Value) (x : Int) (w : World) (hx : IntAt w vx x) (hb : 10000000000000000000 ≤ x.natAbs) :
  Calls Tryz.prog 99 #[vx] w (RetSmall w x) := by
 have hsm : smallI x = (0, false) := by unfold smallI; rw [if_neg (by omega)]
 obtain ⟨s, rfl, hs⟩ := hx
 obtain ⟨ao, ac, rfl, a1, a2, a3⟩ := hs
 have HA := hid a3
 clear a3
 unfold maxLen at a2
 have hl : 3 ≤ (dig x.natAbs).length := by
  refine Nat.lt_of_not_le fun h => ?_
  have := lt_of_two (show (dig x.natAbs).length ≤ 2 by omega)
  omega
 have htop : (dig x.natAbs).length = 3 → 10 ≤ (dig x.natAbs).getD 2 0 := by
  intro h3
  refine Nat.le_of_not_lt fun h => ?_
  have e1 := val_take_getD (dig x.natAbs) 2
  rw [List.take_of_length_le (by omega), val_dig] at e1
  have e2 := val_lt ((dig_Dig x.natAbs).take 2)
  rw [List.length_take, Nat.min_eq_left (by omega)] at e2
  rw [show (1000000000 : Nat) ^ 2 = 1000000000000000000 by decide +kernel] at e1 e2
  omega
 have HT := hid htop
 generalize decide (x < 0) = bx at *
 have HSM := hid hsm
 have HB : Hid (Below w.heap.size w (w.alloc (Obj.cells #[Value.bool bx, .slice ao (dig x.natAbs).length ac] 25))) := hid ((Below.refl _ _).alloc (Nat.le_refl _) _)
 generalize dig x.natAbs = a at *
 clear htop hsm hb
 by_cases h3 : a.length = 3
 ·obtain ⟨b, off, rfl, hc⟩ := HA.out (by omega)
  have hc2 := keepCell HB.out (hc 2 (by omega))
  have ht := HT.out h3
  generalize a.getD 2 0 = d at *
  have hd10 : (10 : Int) ≤ (d : Int) := by omega
  rw [h3] at HB a1 hc2 ⊢
  clear hc HT h3
  go_enter Tryz.func99, Tryz.ntmps99
  go_wp2
  go_ret2
  exact ⟨by rw [HSM.out]; rfl, HB.out⟩
 ·have hn3 : (3 : Int) < (a.length : Int) := by omega
  clear HT
  go_enter Tryz.func99, Tryz.ntmps99
  go_wp2
  go_ret2
  exact ⟨by rw [HSM.out]; rfl, HB.out⟩
end Zn
end Go.Proofs.YtpgiebimhnhbiaaGreatDoor
