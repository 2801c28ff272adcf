/-
  Contracts of gantry/integer: Valid, divide (short numbers), Div.
-/
import Derived.Test.YtelfpefcjchjbaaGreatDoorIntR
namespace Go.Proofs.YtelfpefcjchjbaaGreatDoor
open Go.RowKit
open Go.Lib (hid)
open Dg
namespace Zn

set_option maxRecDepth 100000 in
set_option maxHeartbeats 1000000 in
theorem Valid_any (vx : Value) (x : Int) (w : World) (hx : IntAt w vx x) :
    Calls Tryz.prog 15 #[vx] w (RetB w true) := by
  obtain ⟨s, rfl, hs⟩ := hx
  obtain ⟨ao, ac, rfl, a1, a2, a3⟩ := hs
  have HA := hid a3
  have hnz : 0 < (dig x.natAbs).length → (dig x.natAbs).getD ((dig x.natAbs).length - 1) 0 ≠ 0 := by
    intro h
    refine dig_last (Nat.pos_of_ne_zero fun e => ?_)
    rw [e] at h
    exact absurd h (by decide)
  have hz : (dig x.natAbs).length = 0 → decide (x < 0) = false := by
    intro h
    have h2 := dig_eq_nil.1 (List.eq_nil_of_length_eq_zero h)
    simp; omega
  have HNZ := hid hnz
  have HZ := hid hz
  have hdg : Dig (dig x.natAbs) := dig_Dig _
  clear a3 hnz hz
  unfold maxLen at a2
  generalize decide (x < 0) = bx at *
  obtain ⟨a, ha⟩ : ∃ a, a = dig x.natAbs := ⟨_, rfl⟩
  rw [← ha] at HA HNZ HZ a1 hdg ⊢
  clear ha
  obtain ⟨W, hW⟩ : ∃ W, W = w.alloc (Obj.cells #[Value.bool bx, .slice ao a.length ac] 24) := ⟨_, rfl⟩
  have HB := hid (show Below w.heap.size w W by rw [hW]; exact (Below.refl _ _).alloc (Nat.le_refl _) _)
  have hrow : W.heap[w.heap.size]? = some (.cells #[.bool bx, .slice ao a.length ac] 24 (0, 0)) := by rw [hW]; exact heap_alloc_new w _
  obtain ⟨c1, c2, -, -⟩ := cell2 hrow
  have HWW := hid hW
  have HDG := hid hdg
  clear hW hrow hdg
  go_enter Tryz.func15, Tryz.ntmps15
  go_upto_region 1 with fail
  rw [← HWW.out]
  go_wp2
  go_loopw [8] (fun i wr => ∃ k : Nat, k ≤ a.length ∧ i = .int .i64 k ∧ W = wr) (fun i _ => a.length - (intOf i).toNat)
  case atStart => exact ⟨0, Nat.zero_le _, rfl, rfl⟩
  case round =>
    obtain ⟨k, hk, rfl, rfl⟩ := hrel
    by_cases hka : k < a.length
    · obtain ⟨b, off, rfl, hc⟩ := HA.out (by omega)
      have hck := keepCell HB.out (hc k hka)
      have hd9 := HDG.out.getD k
      generalize a.getD k 0 = d at *
      have hnn : ¬ ((d : Int) < 0) := by omega
      have hn9 : ¬ (1000000000 ≤ (d : Int)) := by omega
      clear hc
      go_wp2
      go_roundw
      case rel => exact ⟨k + 1, by omega, by go_num, trivial⟩
      case measure => simp [intOf]; omega
    · obtain rfl : k = a.length := by omega
      rcases Nat.eq_zero_or_pos a.length with h0 | h0
      · have hb := HZ.out h0
        subst hb
        have hll : (((a.length : Nat) : Int) == 0) = true := by rw [h0]; rfl
        clear h0
        go_wp2
        go_ret
        exact ⟨rfl, HB.out⟩
      · have hll : (((a.length : Nat) : Int) == 0) = false := by rw [beq_eq_false_iff_ne]; omega
        obtain ⟨b, off, rfl, hc⟩ := HA.out h0
        have hck := keepCell HB.out (hc (a.length - 1) (by omega))
        have hne := HNZ.out h0
        generalize a.getD (a.length - 1) 0 = d at *
        have hdn : ((d : Int) != 0) = true := by rw [bne_iff_ne]; omega
        clear hc
        go_wp2
        go_ret
        exact ⟨rfl, HB.out⟩

theorem lt_of_two {m : Nat} (h : (dig m).length ≤ 2) : m < 1000000000000000000 := by
  have h1 : m < 1000000000 ^ 2 := dig_length_le.1 h
  rw [show (1000000000 : Nat) ^ 2 = 1000000000000000000 by decide +kernel] at h1
  exact h1

/-- Behind a function that returns two rows of digits. -/
def RetTwo (w : World) (q r : Nat) (e : Ending) (w' : World) : Prop := ∃ s t, e = .returned (.tuple #[s, t]) ∧ Nums w' s (dig q) ∧ Nums w' t (dig r) ∧ Below w.heap.size w w'

set_option maxRecDepth 100000 in
set_option maxHeartbeats 1000000 in
theorem divide_less (va vb : Value) (m n : Nat) (w : World) (ha : Nums w va (dig m)) (hb : Nums w vb (dig n)) (hlt : (dig m).length < (dig n).length) :
    Calls Tryz.prog 63 #[va, vb] w (RetTwo w (m / n) (m % n)) := by
  have hmn := lt_of_length hlt
  rw [Nat.div_eq_of_lt hmn, Nat.mod_eq_of_lt hmn]
  have HA := hid ha
  obtain ⟨ao, ac, rfl, a1, a2, -⟩ := ha
  obtain ⟨bo, bc, rfl, b1, b2, -⟩ := hb
  clear hmn
  go_enter Tryz.func63, Tryz.ntmps63
  go_wp2
  go_ret2
  exact ⟨_, _, rfl, Nums.nil (by decide), HA.out, Below.refl _ _⟩

set_option maxRecDepth 100000 in
set_option maxHeartbeats 1000000 in
theorem divide_two (va vb : Value) (m n : Nat) (w : World) (ha : Nums w va (dig m)) (hb : Nums w vb (dig n)) (hge : ¬ (dig m).length < (dig n).length) (h2 : (dig m).length ≤ 2) (hn : 0 < n) :
    Calls Tryz.prog 63 #[va, vb] w (RetTwo w (m / n) (m % n)) := by
  have hm := lt_of_two h2
  have hn8 := lt_of_two (show (dig n).length ≤ 2 by omega)
  have HA := hid ha
  have HB := hid hb
  obtain ⟨ao, ac, rfl, a1, a2, -⟩ := ha
  obtain ⟨bo, bc, rfl, b1, b2, -⟩ := hb
  unfold maxLen at a2 b2
  have HV1 := hid (value_any _ (dig m) w HA.out (dig_Dig _) (by rw [val_dig]; omega))
  have HV2 := hid (value_any _ (dig n) w HB.out (dig_Dig _) (by rw [val_dig]; omega))
  rw [val_dig] at HV1 HV2
  have HS1 := hid (fun w1 => split_any (m / n) w1 (by have := Nat.div_le_self m n; omega))
  have HS2 := hid (fun w1 => split_any (m % n) w1 (by have := Nat.mod_le m n; omega))
  have hm1 : (m : Int) ≤ 1000000000000000000 := by omega
  have hn1 : (n : Int) ≤ 1000000000000000000 := by omega
  have hn0 : (1 : Int) ≤ (n : Int) := by omega
  have hnz : ((n : Int) == 0) = false := by rw [beq_eq_false_iff_ne]; omega
  have hnn : ¬ n = 0 := by omega
  have hq : IntKind.u64.wrap ((m : Int) / (n : Int)) = ((m / n : Nat) : Int) := by
    have := Nat.div_le_self m n
    rw [← Int.natCast_ediv]
    generalize m / n = q at *
    exact IntWalk.u64_in _ (by omega)
  have hr : ((m : Int)).tmod (n : Int) = ((m % n : Nat) : Int) := by
    rw [Int.tmod_eq_emod_of_nonneg (by omega), Int.natCast_emod]
  have HQ := hid hq
  have HRR := hid hr
  clear hm hn8 hq hr
  go_enter Tryz.func63, Tryz.ntmps63
  go_wp2_with fail
  refine HV1.out.mono ?_
  rintro e w' ⟨rfl, rfl⟩
  go_upto_region 5 with ((go_at_call 56; refine HV2.out.mono ?_; rintro e w' ⟨rfl, rfl⟩))
  rename_i hret
  refine Pu.wp_region_pure 10 (Slots [(23, .eq (.int .u64 (m : Int))), (24, .eq (.int .u64 (n : Int))), (25, .eq (.int .u64 ((m / n : Nat) : Int))), (26, .nums (dig (m / n))), (27, .eq (.int .u64 (m : Int))), (28, .eq (.int .u64 (n : Int))), (29, .eq (.int .u64 ((m % n : Nat) : Int))), (30, .nums (dig (m % n))), (4, .nums (dig (m / n))), (5, .nums (dig (m % n)))]) (by kernel_rfl) (by kernel_rfl) (by kernel_rfl) (fun hfn => absurd hfn (by decide)) (Slots.keep _) ?_ ?_ ?_
  · intro L a w2 i o ho hne2 hL hdep hI
    have hi : i < 10 := (Array.getElem?_eq_some_iff.1 ho).1
    rcases (show i = 0 ∨ i = 1 ∨ i = 2 ∨ i = 3 ∨ i = 4 ∨ i = 5 ∨ i = 6 ∨ i = 7 ∨ i = 8 ∨ i = 9 by omega) with rfl | rfl | rfl | rfl | rfl | rfl | rfl | rfl | rfl | rfl
    · cases (Option.some.inj (show some _ = some o from ho))
      have h6 : a.tmps.getD 6 undef = .int .u64 (m : Int) := hI.free (t := 6) (by kernel_rfl)
      refine pstep rfl fun K hK => ?_
      clear hdep hI ho hi
      go_simp
      exact hK _ _ (Below.refl _ _) (fun d hd => by cases hd; rfl)
    · cases (Option.some.inj (show some _ = some o from ho))
      have h7 : a.tmps.getD 7 undef = .int .u64 (n : Int) := hI.free (t := 7) (by kernel_rfl)
      refine pstep rfl fun K hK => ?_
      clear hdep hI ho hi
      go_simp
      exact hK _ _ (Below.refl _ _) (fun d hd => by cases hd; rfl)
    · cases (Option.some.inj (show some _ = some o from ho))
      have h23 : a.tmps.getD 23 undef = .int .u64 (m : Int) := hI.slot (i := 0) (d := 23) (hdep ⟨0, .data⟩ (by simp) (by rfl)) rfl
      have h24 : a.tmps.getD 24 undef = .int .u64 (n : Int) := hI.slot (i := 1) (d := 24) (hdep ⟨1, .data⟩ (by simp) (by rfl)) rfl
      have hq := HQ.out
      refine pstep rfl fun K hK => ?_
      clear hdep hI ho hi
      go_simp
      exact hK _ _ (Below.refl _ _) (fun d hd => by cases hd; rfl)
    · cases (Option.some.inj (show some _ = some o from ho))
      have h25 : a.tmps.getD 25 undef = .int .u64 ((m / n : Nat) : Int) := hI.slot (i := 2) (d := 25) (hdep ⟨2, .data⟩ (by simp) (by rfl)) rfl
      refine pstep rfl fun K hK => ?_
      clear hdep hI ho hi
      go_simp
      refine (HS1.out _).mono ?_
      rintro e w3 ⟨v3, rfl, hn3, hb3⟩
      exact hK _ _ hb3 (fun d hd => by cases hd; exact hn3)
    · cases (Option.some.inj (show some _ = some o from ho))
      have h6 : a.tmps.getD 6 undef = .int .u64 (m : Int) := hI.free (t := 6) (by kernel_rfl)
      refine pstep rfl fun K hK => ?_
      clear hdep hI ho hi
      go_simp
      exact hK _ _ (Below.refl _ _) (fun d hd => by cases hd; rfl)
    · cases (Option.some.inj (show some _ = some o from ho))
      have h7 : a.tmps.getD 7 undef = .int .u64 (n : Int) := hI.free (t := 7) (by kernel_rfl)
      refine pstep rfl fun K hK => ?_
      clear hdep hI ho hi
      go_simp
      exact hK _ _ (Below.refl _ _) (fun d hd => by cases hd; rfl)
    · cases (Option.some.inj (show some _ = some o from ho))
      have h27 : a.tmps.getD 27 undef = .int .u64 (m : Int) := hI.slot (i := 4) (d := 27) (hdep ⟨4, .data⟩ (by simp) (by rfl)) rfl
      have h28 : a.tmps.getD 28 undef = .int .u64 (n : Int) := hI.slot (i := 5) (d := 28) (hdep ⟨5, .data⟩ (by simp) (by rfl)) rfl
      have hr := HRR.out
      refine pstep rfl fun K hK => ?_
      clear hdep hI ho hi
      go_simp
      exact hK _ _ (Below.refl _ _) (fun d hd => by cases hd; rfl)
    · cases (Option.some.inj (show some _ = some o from ho))
      have h29 : a.tmps.getD 29 undef = .int .u64 ((m % n : Nat) : Int) := hI.slot (i := 6) (d := 29) (hdep ⟨6, .data⟩ (by simp) (by rfl)) rfl
      refine pstep rfl fun K hK => ?_
      clear hdep hI ho hi
      go_simp
      refine (HS2.out _).mono ?_
      rintro e w3 ⟨v3, rfl, hn3, hb3⟩
      exact hK _ _ hb3 (fun d hd => by cases hd; exact hn3)
    · cases (Option.some.inj (show some _ = some o from ho))
      have h26 : Nums w2 (a.tmps.getD 26 undef) (dig (m / n)) := hI.slot (i := 3) (d := 26) (hdep ⟨3, .data⟩ (by simp) (by rfl)) rfl
      obtain ⟨x26, e26⟩ : ∃ x, a.tmps.getD 26 undef = x := ⟨_, rfl⟩
      rw [e26] at h26
      refine pstep rfl fun K hK => ?_
      clear hdep hI ho hi
      go_simp
      exact hK _ _ (Below.refl _ _) (fun d hd => by cases hd; exact h26)
    · cases (Option.some.inj (show some _ = some o from ho))
      have h30 : Nums w2 (a.tmps.getD 30 undef) (dig (m % n)) := hI.slot (i := 7) (d := 30) (hdep ⟨7, .data⟩ (by simp) (by rfl)) rfl
      obtain ⟨x30, e30⟩ : ∃ x, a.tmps.getD 30 undef = x := ⟨_, rfl⟩
      rw [e30] at h30
      refine pstep rfl fun K hK => ?_
      clear hdep hI ho hi
      go_simp
      exact hK _ _ (Below.refl _ _) (fun d hd => by cases hd; exact h30)
  · intro L a w2 o ho
    exact absurd ho (by simp)
  · intro _ L a w2 hall hI
    have h4 : Nums w2 (a.tmps.getD 4 undef) (dig (m / n)) := hI.slot (i := 8) (d := 4) (hall 8 (by decide)) rfl
    have h5 : Nums w2 (a.tmps.getD 5 undef) (dig (m % n)) := hI.slot (i := 9) (d := 5) (hall 9 (by decide)) rfl
    have HBL := hid hI.below
    refine hret _ _ ?_
    have hf := hI.frame [23, 24, 25, 26, 27, 28, 29, 30, 4, 5] (by kernel_rfl)
    simp only [List.foldl_cons, List.foldl_nil] at hf
    clear hI hall
    generalize a.tmps.getD 23 undef = y23 at *
    generalize a.tmps.getD 24 undef = y24 at *
    generalize a.tmps.getD 25 undef = y25 at *
    generalize a.tmps.getD 26 undef = y26 at *
    generalize a.tmps.getD 27 undef = y27 at *
    generalize a.tmps.getD 28 undef = y28 at *
    generalize a.tmps.getD 29 undef = y29 at *
    generalize a.tmps.getD 30 undef = y30 at *
    generalize a.tmps.getD 4 undef = y4 at *
    generalize a.tmps.getD 5 undef = y5 at *
    subst hf
    go_wp2
    go_simp
    go_ret2
    exact ⟨y4, y5, rfl, h4, h5, HBL.out⟩

end Zn
end Go.Proofs.YtelfpefcjchjbaaGreatDoor
