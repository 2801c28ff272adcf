/-
  Contracts of gantry/integer: Of; of gantry/gantryref04: Same, normal, Of, digit, compared.
-/
import Derived.Test.YtelfpefcjchjbaaGreatDoorIntI
namespace Go.Proofs.YtelfpefcjchjbaaGreatDoor
open Go.RowKit
open Go.Lib (hid)
open Dg
namespace Zn

theorem wrap_pos {n : Int} (h0 : 0 ≤ n) (h1 : n ≤ 9223372036854775807) : IntKind.u64.wrap n = n := by
  simp [IntKind.wrap, IntKind.bits, IntKind.signed]; omega
theorem wrap_neg {n : Int} (h0 : n < 0) (h1 : -9223372036854775808 ≤ n) : IntKind.u64.wrap n = 18446744073709551616 + n := by
  simp [IntKind.wrap, IntKind.bits, IntKind.signed]; omega
theorem wrap_back {n : Int} (h0 : n < 0) (h1 : -9223372036854775808 ≤ n) : IntKind.u64.wrap (-(18446744073709551616 + n)) = ((n.natAbs : Nat) : Int) := by
  simp [IntKind.wrap, IntKind.bits, IntKind.signed]; omega

set_option maxRecDepth 100000 in
set_option maxHeartbeats 1000000 in
theorem Of_any (n : Int) (w : World) (h1 : -9223372036854775808 ≤ n) (h2 : n ≤ 9223372036854775807) :
    Calls Tryz.prog 19 #[.int .i64 n] w (RetInt w n) := by
  have HB := hid (show Below w.heap.size w (w.alloc (Obj.cells #[Value.bool false, Value.slice none 0 0] 24)) from (Below.refl _ _).alloc (Nat.le_refl _) _)
  have HR := hid (ResAt.at (W := w) (g := w.heap.size) rfl)
  have HS := hid (split_any n.natAbs · (by omega))
  rw [show RetInt w n = RetInt w (mk (decide (n < 0)) n.natAbs) by rw [mk_self]]
  rcases Int.lt_or_le n 0 with h | h
  · have hd : decide (n < 0) = true := by simp [h]
    rw [hd]
    have e1 := wrap_neg h h1
    have e2 := wrap_back h h1
    obtain ⟨u, hu⟩ : ∃ u, u = 18446744073709551616 + n := ⟨_, rfl⟩
    rw [← hu] at e1 e2
    obtain ⟨m, hm⟩ : ∃ m, m = n.natAbs := ⟨_, rfl⟩
    rw [← hm] at e2 HS ⊢
    clear hu hm hd h1 h2
    go_enter Tryz.func19, Tryz.ntmps19
    go_wp2_with fail
    refine (HS.out _).mono ?_
    rintro e w1 ⟨v1, rfl, hn1, hb1⟩
    have HN1 := hid hn1
    have HB1 := hid (Pu.further HB.out hb1)
    have HR1 := hid (HR.out.keep hb1)
    clear hn1 hb1
    go_wp2_with fail
    refine (signed_any true v1 _ _ HN1.out (dig_Dig _)).mono ?_
    rintro e w2 ⟨v2, rfl, hv2, hb2⟩
    rw [val_dig] at hv2
    have HV2 := hid hv2
    have HB2 := hid (Pu.further HB1.out hb2)
    have HR2 := hid (HR1.out.keep hb2)
    clear hv2 hb2
    go_wp2_with (with_reducible refine wpList_store_int rfl (.tmp 2) (.tmp 14) rfl w.heap.size v2 _ rfl rfl HV2.out HR2.out ?_)
    exact ret_int_cell rfl rfl HR2.out HV2.out HB2.out (Nat.le_refl _)
  · have hd : decide (n < 0) = false := by simp [h]
    rw [hd]
    have e1 := wrap_pos h h2
    obtain ⟨m, rfl⟩ := Int.eq_ofNat_of_zero_le h
    rw [show ((m : Nat) : Int).natAbs = m from rfl] at HS ⊢
    clear hd h1 h
    go_enter Tryz.func19, Tryz.ntmps19
    go_wp2_with fail
    refine (HS.out _).mono ?_
    rintro e w1 ⟨v1, rfl, hn1, hb1⟩
    have HN1 := hid hn1
    have HB1 := hid (Pu.further HB.out hb1)
    have HR1 := hid (HR.out.keep hb1)
    clear hn1 hb1
    go_wp2_with fail
    refine (signed_any false v1 _ _ HN1.out (dig_Dig _)).mono ?_
    rintro e w2 ⟨v2, rfl, hv2, hb2⟩
    rw [val_dig] at hv2
    have HV2 := hid hv2
    have HB2 := hid (Pu.further HB1.out hb2)
    have HR2 := hid (HR1.out.keep hb2)
    clear hv2 hb2
    go_wp2_with (with_reducible refine wpList_store_int rfl (.tmp 2) (.tmp 14) rfl w.heap.size v2 _ rfl rfl HV2.out HR2.out ?_)
    exact ret_int_cell rfl rfl HR2.out HV2.out HB2.out (Nat.le_refl _)

/-- Behind a function that answers yes or no. -/
def RetB (w : World) (b : Bool) (e : Ending) (w' : World) : Prop := e = .returned (.bool b) ∧ Below w.heap.size w w'

theorem take_snoc_getD {a b : List Nat} {k : Nat} (h : a.take k = b.take k) (ha : k < a.length) (hb : k < b.length) (he : a.getD k 0 = b.getD k 0) : a.take (k + 1) = b.take (k + 1) := by
  rw [List.take_succ_eq_append_getElem ha, List.take_succ_eq_append_getElem hb, h]
  congr 1
  simp only [List.getD_eq_getElem?_getD, List.getElem?_eq_getElem ha, List.getElem?_eq_getElem hb, Option.getD_some] at he
  rw [he]
theorem eq_of_digits {x y : Int} (hs : decide (x < 0) = decide (y < 0)) (hd : dig x.natAbs = dig y.natAbs) : x = y := by
  have h := dig_inj hd
  rcases Int.lt_or_le x 0 with h1 | h1
  · have h2 : y < 0 := by simpa [h1] using hs.symm
    omega
  · have h2 : ¬ y < 0 := by simpa [show ¬ x < 0 by omega] using hs.symm
    omega

set_option maxRecDepth 100000 in
set_option maxHeartbeats 2000000 in
theorem Same_any (vx vy : Value) (x y : Int) (w : World) (hx : IntAt w vx x) (hy : IntAt w vy y) :
    Calls Tryz.prog 59 #[vx, vy] w (RetB w (decide (x = y))) := by
  obtain ⟨s, rfl, hs⟩ := hx
  obtain ⟨t, rfl, ht⟩ := hy
  obtain ⟨ao, ac, rfl, a1, a2, a3⟩ := hs
  obtain ⟨bo, bc, rfl, b1, b2, b3⟩ := ht
  have HA := hid a3
  have HB := hid b3
  clear a3 b3
  unfold maxLen at a2 b2
  have HW : Hid (∀ p q, Below w.heap.size w ((w.alloc (Obj.cells #[Value.bool p, .slice ao (dig x.natAbs).length ac] 24)).alloc (Obj.cells #[Value.bool q, .slice bo (dig y.natAbs).length bc] 24))) := hid fun _ _ => below2 w _ _
  by_cases hsg : decide (x < 0) = decide (y < 0)
  · by_cases hl : (dig x.natAbs).length = (dig y.natAbs).length
    · have HSG := hid hsg
      obtain ⟨a, ha⟩ : ∃ a, a = dig x.natAbs := ⟨_, rfl⟩
      obtain ⟨b, hb⟩ : ∃ b, b = dig y.natAbs := ⟨_, rfl⟩
      rw [← ha] at HA HW a1 hl ⊢
      rw [← hb] at HB HW b1 hl ⊢
      have HDA := hid ha
      have HDB := hid hb
      obtain ⟨r, hr⟩ : ∃ r, r = decide (x = y) := ⟨_, rfl⟩
      have hrt : a = b → r = true := by
        intro h
        rw [hr, eq_of_digits hsg (by rw [← ha, ← hb]; exact h)]
        simp
      have hrf : a ≠ b → r = false := by
        intro h
        rw [hr]
        simp only [decide_eq_false_iff_not]
        intro e
        exact h (by rw [ha, hb, e])
      have HRT := hid hrt
      have HRF := hid hrf
      rw [← hr]
      generalize decide (x < 0) = p at *
      generalize decide (y < 0) = q at *
      subst hsg
      have hne : (p != p) = false := bne_self_eq_false ..
      have hll : (((a.length : Nat) : Int) != ((b.length : Nat) : Int)) = false := by rw [hl]; exact bne_self_eq_false ..
      have hl1 : a.length ≤ b.length := by omega
      have hl2 : b.length ≤ a.length := by omega
      have HL := hid hl
      clear hl ha hb hr hrt hrf
      have HWp := hid (HW.out p p)
      clear HW
      obtain ⟨W, hW⟩ : ∃ W, W = ((w.alloc (Obj.cells #[Value.bool p, .slice ao a.length ac] 24)).alloc (Obj.cells #[Value.bool p, .slice bo b.length bc] 24)) := ⟨_, rfl⟩
      have HC1 := hid (show W.heap[w.heap.size]? = some (.cells #[.bool p, .slice ao a.length ac] 24 (0, 0)) by rw [hW]; exact first2 w _ _)
      have HC2 := hid (show W.heap[w.heap.size + 1]? = some (.cells #[.bool p, .slice bo b.length bc] 24 (0, 0)) by
        rw [hW]
        have h := heap_alloc_new (w.alloc (Obj.cells #[Value.bool p, .slice ao a.length ac] 24)) (Obj.cells #[Value.bool p, .slice bo b.length bc] 24)
        rwa [show (w.alloc (Obj.cells #[Value.bool p, .slice ao a.length ac] 24)).heap.size = w.heap.size + 1 by simp] at h)
      rw [← hW] at HWp
      have HWW := hid hW
      clear hW
      go_enter Tryz.func59, Tryz.ntmps59
      go_wp2
      rw [← HWW.out]
      go_loopw [5] (fun i wr => ∃ k : Nat, k ≤ a.length ∧ i = .int .i64 k ∧ a.take k = b.take k ∧ Below W.heap.size W wr) (fun i _ => a.length - (intOf i).toNat)
      case atStart => exact ⟨0, Nat.zero_le _, rfl, by simp, Below.refl _ _⟩
      case round =>
        obtain ⟨k, hk, rfl, htk, hbel⟩ := hrel
        have HT := hid htk
        have HBL := hid hbel
        obtain ⟨c1, c2, -, -⟩ := cell2 (heapKeep hbel HC1.out)
        obtain ⟨c3, c4, -, -⟩ := cell2 (heapKeep hbel HC2.out)
        have HBW := hid (Pu.further HWp.out hbel)
        clear htk hbel
        by_cases hkl : k < a.length
        · obtain ⟨pa, po, rfl, hp⟩ := HA.out (by omega)
          obtain ⟨qa, qo, rfl, hq⟩ := HB.out (by omega)
          have hpj := keepCell HBW.out (hp k (by omega))
          have hqj := keepCell HBW.out (hq k (by omega))
          obtain ⟨dx, hdx⟩ : ∃ d, d = a.getD k 0 := ⟨_, rfl⟩
          obtain ⟨dy, hdy⟩ : ∃ d, d = b.getD k 0 := ⟨_, rfl⟩
          rw [← hdx] at hpj
          rw [← hdy] at hqj
          have HDX := hid hdx
          have HDY := hid hdy
          have hkb : k < b.length := by omega
          clear hp hq hdx hdy
          by_cases hd : dx = dy
          · subst hd
            have hdd : (((dx : Nat) : Int) != ((dx : Nat) : Int)) = false := bne_self_eq_false ..
            go_wp2
            go_quiet (fail)
            have HN := hid (below_drewN HBL.out nq)
            go_wp2
            go_roundw
            case rel => exact ⟨k + 1, by omega, by go_num, take_snoc_getD HT.out hkl hkb (by rw [← HDX.out, ← HDY.out]), HN.out⟩
            case measure => simp [intOf]; omega
          · have hdd : (((dx : Nat) : Int) != ((dy : Nat) : Int)) = true := by rw [bne_iff_ne]; omega
            go_wp2
            go_quiet (fail)
            go_wp2
            go_ret
            have hf := HRF.out (fun e => hd (by rw [HDX.out, HDY.out, e]))
            rw [hf]
            exact ⟨rfl, below_drewN HBW.out _⟩
        · obtain rfl : k = a.length := by omega
          go_wp2
          go_ret
          have ht := HRT.out (by
            have h := HT.out
            rwa [List.take_length, HL.out, List.take_length] at h)
          rw [ht]
          exact ⟨rfl, HBW.out⟩
    · have hll : ((((dig x.natAbs).length : Nat) : Int) != (((dig y.natAbs).length : Nat) : Int)) = true := by rw [bne_iff_ne]; omega
      have hne : x ≠ y := fun e => hl (by rw [e])
      have hr : decide (x = y) = false := by simp [hne]
      rw [hr, ← hsg]
      generalize decide (x < 0) = p at *
      have hpp : (p != p) = false := bne_self_eq_false ..
      clear hne hr hl hsg
      go_enter Tryz.func59, Tryz.ntmps59
      go_wp2
      go_ret
      exact ⟨rfl, HW.out _ _⟩
  · have hne : x ≠ y := fun e => hsg (by rw [e])
    have hr : decide (x = y) = false := by simp [hne]
    rw [hr]
    generalize decide (x < 0) = p at *
    generalize decide (y < 0) = q at *
    clear hne hr
    cases p <;> cases q
    · exact absurd rfl hsg
    · clear hsg
      go_enter Tryz.func59, Tryz.ntmps59
      go_wp2
      go_ret
      exact ⟨rfl, HW.out _ _⟩
    · clear hsg
      go_enter Tryz.func59, Tryz.ntmps59
      go_wp2
      go_ret
      exact ⟨rfl, HW.out _ _⟩
    · exact absurd rfl hsg

end Zn
end Go.Proofs.YtelfpefcjchjbaaGreatDoor
