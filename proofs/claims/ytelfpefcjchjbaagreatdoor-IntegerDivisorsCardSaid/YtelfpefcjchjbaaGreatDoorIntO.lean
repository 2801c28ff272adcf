/-
  Contracts of gantry/gantryref04: Add, Mul, Power; of gantry/gantryref01: Around, At.
-/
import Derived.Test.YtelfpefcjchjbaaGreatDoorIntN
namespace Go.Proofs.YtelfpefcjchjbaaGreatDoor
open Go.RowKit
open Go.Lib (hid)
open Dg
namespace Zn

theorem mk_add {x y : Int} (h : decide (x < 0) = decide (y < 0)) : mk (decide (x < 0)) (x.natAbs + y.natAbs) = x + y := by
  unfold mk
  rcases Int.lt_or_le x 0 with h1 | h1
  · have h2 : y < 0 := by simpa [h1] using h.symm
    simp only [h1, decide_true, if_true]; omega
  · have h2 : ¬ y < 0 := by simpa [show ¬ x < 0 by omega] using h.symm
    simp only [show ¬ x < 0 by omega, decide_false, Bool.false_eq_true, if_false]; omega

set_option maxRecDepth 100000 in
set_option maxHeartbeats 2000000 in
theorem refAdd_any (vx vy : Value) (x y : Int) (w : World) (hx : IntAt w vx x) (hy : IntAt w vy y) (hl1 : len x ≤ 1099511627000) (hl2 : len y ≤ 1099511627000) :
    Calls Tryz.prog 13 #[vx, vy] w (RetInt w (x + y)) := by
  obtain ⟨s, rfl, hs⟩ := hx
  obtain ⟨t, rfl, ht⟩ := hy
  have HS := hid hs
  have HT := hid ht
  have HBq : Hid (∀ bx by', Below w.heap.size w (((w.alloc (Obj.cells #[Value.bool bx, s] 24)).alloc (Obj.cells #[Value.bool by', t] 24)).alloc (Obj.cells #[Value.bool false, Value.slice none 0 0] 24))) := hid fun _ _ => below3 w _ _ _
  have HRq : Hid (∀ bx by', ResAt (((w.alloc (Obj.cells #[Value.bool bx, s] 24)).alloc (Obj.cells #[Value.bool by', t] 24)).alloc (Obj.cells #[Value.bool false, Value.slice none 0 0] 24)) (w.heap.size + 1 + 1)) := hid fun _ _ => ResAt.at (by simp)
  have HXq : Hid (∀ bx by', (((w.alloc (Obj.cells #[Value.bool bx, s] 24)).alloc (Obj.cells #[Value.bool by', t] 24)).alloc (Obj.cells #[Value.bool false, Value.slice none 0 0] 24)).heap[w.heap.size]? = some (.cells #[.bool bx, s] 24 (0, 0))) := hid fun _ _ => first3 w _ _ _
  have HYq : Hid (∀ bx by', (((w.alloc (Obj.cells #[Value.bool bx, s] 24)).alloc (Obj.cells #[Value.bool by', t] 24)).alloc (Obj.cells #[Value.bool false, Value.slice none 0 0] 24)).heap[w.heap.size + 1]? = some (.cells #[.bool by', t] 24 (0, 0))) := hid fun _ _ => second3 w _ _ _
  clear hs ht
  by_cases hsg : decide (x < 0) = decide (y < 0)
  · rw [← mk_add hsg]
    have HP := hid (refPlus_any s t _ _ · · · (dig_Dig x.natAbs) (dig_Dig y.natAbs) hl1 hl2)
    rw [val_dig, val_dig] at HP
    rw [← hsg]
    generalize decide (x < 0) = bx at *
    clear hsg
    have hbb : (bx == bx) = true := by simp
    have HB := hid (HBq.out bx bx)
    have HR := hid (HRq.out bx bx)
    have HX := hid (HXq.out bx bx)
    have HY := hid (HYq.out bx bx)
    clear HBq HRq HXq HYq
    go_enter Tryz.func13, Tryz.ntmps13
    go_upto_region 2 with fail
    rename_i hret
    refine Pu.wp_region_pure 8 (Slots [(10, .eq (.pointer (some ⟨w.heap.size, 0, none⟩))), (11, .eq (.bool bx)), (12, .eq (.pointer (some ⟨w.heap.size, 1, none⟩))), (13, .eq (s)), (14, .eq (.pointer (some ⟨w.heap.size + 1, 1, none⟩))), (15, .eq (t)), (16, .vals (x.natAbs + y.natAbs)), (17, .int (mk bx (x.natAbs + y.natAbs)))]) (by kernel_rfl) (by kernel_rfl) (by kernel_rfl) (fun hfn => by kernel_rfl) (Slots.keep _) ?_ ?_ ?_
    · intro L a w2 i o ho hne2 hL hdep hI
      have hi : i < 9 := (Array.getElem?_eq_some_iff.1 ho).1
      rcases (show i = 0 ∨ i = 1 ∨ i = 2 ∨ i = 3 ∨ i = 4 ∨ i = 5 ∨ i = 6 ∨ i = 7 by omega) with rfl | rfl | rfl | rfl | rfl | rfl | rfl | rfl
      · cases (Option.some.inj (show some _ = some o from ho))
        have h2 : a.tmps.getD 2 undef = .pointer (some ⟨w.heap.size, 0, none⟩) := hI.free (t := 2) (by kernel_rfl)
        refine pstep rfl fun K hK => ?_
        clear hdep hI ho hi
        go_simp
        exact hK _ _ (Below.refl _ _) (fun d hd => by cases hd; rfl)
      · cases (Option.some.inj (show some _ = some o from ho))
        have h10 : a.tmps.getD 10 undef = .pointer (some ⟨w.heap.size, 0, none⟩) := hI.slot (i := 0) (d := 10) (hdep ⟨0, .data⟩ (by simp) (by rfl)) rfl
        have hc2 := (cell2 (heapKeep hI.below HX.out)).1
        refine pstep rfl fun K hK => ?_
        clear hdep hI ho hi
        go_simp
        exact hK _ _ (Below.refl _ _) (fun d hd => by cases hd; rfl)
      · cases (Option.some.inj (show some _ = some o from ho))
        have h2 : a.tmps.getD 2 undef = .pointer (some ⟨w.heap.size, 0, none⟩) := hI.free (t := 2) (by kernel_rfl)
        refine pstep rfl fun K hK => ?_
        clear hdep hI ho hi
        go_simp
        exact hK _ _ (Below.refl _ _) (fun d hd => by cases hd; rfl)
      · cases (Option.some.inj (show some _ = some o from ho))
        have h12 : a.tmps.getD 12 undef = .pointer (some ⟨w.heap.size, 1, none⟩) := hI.slot (i := 2) (d := 12) (hdep ⟨2, .data⟩ (by simp) (by rfl)) rfl
        have hc2 := (cell2 (heapKeep hI.below HX.out)).2.1
        refine pstep rfl fun K hK => ?_
        clear hdep hI ho hi
        go_simp
        exact hK _ _ (Below.refl _ _) (fun d hd => by cases hd; rfl)
      · cases (Option.some.inj (show some _ = some o from ho))
        have h3 : a.tmps.getD 3 undef = .pointer (some ⟨w.heap.size + 1, 0, none⟩) := hI.free (t := 3) (by kernel_rfl)
        refine pstep rfl fun K hK => ?_
        clear hdep hI ho hi
        go_simp
        exact hK _ _ (Below.refl _ _) (fun d hd => by cases hd; rfl)
      · cases (Option.some.inj (show some _ = some o from ho))
        have h14 : a.tmps.getD 14 undef = .pointer (some ⟨w.heap.size + 1, 1, none⟩) := hI.slot (i := 4) (d := 14) (hdep ⟨4, .data⟩ (by simp) (by rfl)) rfl
        have hc2 := (cell2 (heapKeep hI.below HY.out)).2.1
        refine pstep rfl fun K hK => ?_
        clear hdep hI ho hi
        go_simp
        exact hK _ _ (Below.refl _ _) (fun d hd => by cases hd; rfl)
      · cases (Option.some.inj (show some _ = some o from ho))
        have h13 : a.tmps.getD 13 undef = s := hI.slot (i := 3) (d := 13) (hdep ⟨3, .data⟩ (by simp) (by rfl)) rfl
        have h15 : a.tmps.getD 15 undef = t := hI.slot (i := 5) (d := 15) (hdep ⟨5, .data⟩ (by simp) (by rfl)) rfl
        have hbw := Pu.further HB.out hI.below
        refine pstep rfl fun K hK => ?_
        clear hdep hI ho hi
        go_simp
        refine (HP.out _ (HS.out.keep hbw) (HT.out.keep hbw)).mono ?_
        rintro e w3 ⟨v3, ds, rfl, hn3, hd3, hv3, hb3⟩
        exact hK _ _ hb3 (fun d hd => by cases hd; exact ⟨ds, hn3, hd3, hv3⟩)
      · cases (Option.some.inj (show some _ = some o from ho))
        have h11 : a.tmps.getD 11 undef = .bool bx := hI.slot (i := 1) (d := 11) (hdep ⟨1, .data⟩ (by simp) (by rfl)) rfl
        have h16 : Sp.is (.vals (x.natAbs + y.natAbs)) w2 (a.tmps.getD 16 undef) := hI.slot (i := 6) (d := 16) (hdep ⟨6, .data⟩ (by simp) (by rfl)) rfl
        obtain ⟨x16, e16⟩ : ∃ x, a.tmps.getD 16 undef = x := ⟨_, rfl⟩
        rw [e16] at h16
        refine pstep rfl fun K hK => ?_
        clear hdep hI ho hi
        go_simp
        obtain ⟨ds, hn, hdg, hv⟩ := h16
        refine (normal_any bx x16 ds _ hn hdg).mono ?_
        rintro e w3 ⟨v3, rfl, hn3, hb3⟩
        rw [hv] at hn3
        exact hK _ _ hb3 (fun d hd => by cases hd; exact hn3)
    · intro L a w2 o ho hL hoth hI
      cases (Option.some.inj (show some _ = some o from ho))
      have h4 : a.tmps.getD 4 undef = .pointer (some ⟨w.heap.size + 1 + 1, 0, none⟩) := hI.free (t := 4) (by kernel_rfl)
      have h17 : IntAt w2 (a.tmps.getD 17 undef) (mk bx (x.natAbs + y.natAbs)) := hI.slot (i := 7) (d := 17) (hoth 7 (by decide) (by decide)) rfl
      obtain ⟨x17, e17⟩ : ∃ x, a.tmps.getD 17 undef = x := ⟨_, rfl⟩
      rw [e17] at h17
      refine ⟨rfl, ?_⟩
      refine wp_store_int (.tmp 4) (.tmp 17) rfl (w.heap.size + 1 + 1) x17 _ h4 e17 h17 (HR.out.keep hI.below) ?_
      refine hret _ _ (wp_ret ?_)
      exact ret_int_act rfl hI.defers h4 (HR.out.keep hI.below) h17 (Pu.further HB.out hI.below) (by omega)
    · intro hfn
      exact absurd hfn (by decide)
  · have hne : (decide (x < 0) == decide (y < 0)) = false := by simpa using hsg
    have HC := hid (compared_any s t x.natAbs y.natAbs · · ·)
    rcases Nat.lt_or_ge x.natAbs y.natAbs with hlt | hge
    · have e0 : mk (decide (y < 0)) (y.natAbs - x.natAbs) = x + y := by rw [mk_sub2 (fun h => hsg h.symm) hlt, mk_self]
      rw [← e0]
      have hc : cmpI x.natAbs y.natAbs = -1 := by unfold cmpI; rw [if_pos (by omega)]
      have HM := hid (refMinus_any t s _ _ · · · (dig_Dig y.natAbs) (dig_Dig x.natAbs) hl2 (dig_length_mono (Nat.le_of_lt hlt)) (by rw [val_dig, val_dig]; omega))
      rw [val_dig, val_dig] at HM
      rw [hc] at HC
      generalize decide (x < 0) = bx at *
      generalize decide (y < 0) = by' at *
      have HB := hid (HBq.out bx by')
      have HR := hid (HRq.out bx by')
      have HX := hid (HXq.out bx by')
      have HY := hid (HYq.out bx by')
      clear HBq HRq HXq HYq hsg e0 hc
      go_enter Tryz.func13, Tryz.ntmps13
      go_upto_region 4 with ((go_at_call 54; refine (HC.out _ (HS.out.keep HB.out) (HT.out.keep HB.out)).mono ?_; rintro e w1 ⟨rfl, hb1⟩))
      have HB1 := hid (Pu.further HB.out hb1)
      have HX1 := hid (heapKeep hb1 HX.out)
      have HY1 := hid (heapKeep hb1 HY.out)
      have HR1 := hid (HR.out.keep hb1)
      clear hb1
      rename_i hret
      refine Pu.wp_region_pure 8 (Slots [(24, .eq (.pointer (some ⟨w.heap.size + 1, 0, none⟩))), (25, .eq (.bool by')), (26, .eq (.pointer (some ⟨w.heap.size + 1, 1, none⟩))), (27, .eq (t)), (28, .eq (.pointer (some ⟨w.heap.size, 1, none⟩))), (29, .eq (s)), (30, .vals (y.natAbs - x.natAbs)), (31, .int (mk by' (y.natAbs - x.natAbs)))]) (by kernel_rfl) (by kernel_rfl) (by kernel_rfl) (fun hfn => by kernel_rfl) (Slots.keep _) ?_ ?_ ?_
      · intro L a w2 i o ho hne2 hL hdep hI
        have hi : i < 9 := (Array.getElem?_eq_some_iff.1 ho).1
        rcases (show i = 0 ∨ i = 1 ∨ i = 2 ∨ i = 3 ∨ i = 4 ∨ i = 5 ∨ i = 6 ∨ i = 7 by omega) with rfl | rfl | rfl | rfl | rfl | rfl | rfl | rfl
        · cases (Option.some.inj (show some _ = some o from ho))
          have h3 : a.tmps.getD 3 undef = .pointer (some ⟨w.heap.size + 1, 0, none⟩) := hI.free (t := 3) (by kernel_rfl)
          refine pstep rfl fun K hK => ?_
          clear hdep hI ho hi
          go_simp
          exact hK _ _ (Below.refl _ _) (fun d hd => by cases hd; rfl)
        · cases (Option.some.inj (show some _ = some o from ho))
          have h24 : a.tmps.getD 24 undef = .pointer (some ⟨w.heap.size + 1, 0, none⟩) := hI.slot (i := 0) (d := 24) (hdep ⟨0, .data⟩ (by simp) (by rfl)) rfl
          have hc2 := (cell2 (heapKeep hI.below HY1.out)).1
          refine pstep rfl fun K hK => ?_
          clear hdep hI ho hi
          go_simp
          exact hK _ _ (Below.refl _ _) (fun d hd => by cases hd; rfl)
        · cases (Option.some.inj (show some _ = some o from ho))
          have h3 : a.tmps.getD 3 undef = .pointer (some ⟨w.heap.size + 1, 0, none⟩) := hI.free (t := 3) (by kernel_rfl)
          refine pstep rfl fun K hK => ?_
          clear hdep hI ho hi
          go_simp
          exact hK _ _ (Below.refl _ _) (fun d hd => by cases hd; rfl)
        · cases (Option.some.inj (show some _ = some o from ho))
          have h26 : a.tmps.getD 26 undef = .pointer (some ⟨w.heap.size + 1, 1, none⟩) := hI.slot (i := 2) (d := 26) (hdep ⟨2, .data⟩ (by simp) (by rfl)) rfl
          have hc2 := (cell2 (heapKeep hI.below HY1.out)).2.1
          refine pstep rfl fun K hK => ?_
          clear hdep hI ho hi
          go_simp
          exact hK _ _ (Below.refl _ _) (fun d hd => by cases hd; rfl)
        · cases (Option.some.inj (show some _ = some o from ho))
          have h2 : a.tmps.getD 2 undef = .pointer (some ⟨w.heap.size, 0, none⟩) := hI.free (t := 2) (by kernel_rfl)
          refine pstep rfl fun K hK => ?_
          clear hdep hI ho hi
          go_simp
          exact hK _ _ (Below.refl _ _) (fun d hd => by cases hd; rfl)
        · cases (Option.some.inj (show some _ = some o from ho))
          have h28 : a.tmps.getD 28 undef = .pointer (some ⟨w.heap.size, 1, none⟩) := hI.slot (i := 4) (d := 28) (hdep ⟨4, .data⟩ (by simp) (by rfl)) rfl
          have hc2 := (cell2 (heapKeep hI.below HX1.out)).2.1
          refine pstep rfl fun K hK => ?_
          clear hdep hI ho hi
          go_simp
          exact hK _ _ (Below.refl _ _) (fun d hd => by cases hd; rfl)
        · cases (Option.some.inj (show some _ = some o from ho))
          have h27 : a.tmps.getD 27 undef = t := hI.slot (i := 3) (d := 27) (hdep ⟨3, .data⟩ (by simp) (by rfl)) rfl
          have h29 : a.tmps.getD 29 undef = s := hI.slot (i := 5) (d := 29) (hdep ⟨5, .data⟩ (by simp) (by rfl)) rfl
          have hbw := Pu.further HB1.out hI.below
          refine pstep rfl fun K hK => ?_
          clear hdep hI ho hi
          go_simp
          refine (HM.out _ (HT.out.keep hbw) (HS.out.keep hbw)).mono ?_
          rintro e w3 ⟨v3, ds, rfl, hn3, hd3, hv3, hb3⟩
          exact hK _ _ hb3 (fun d hd => by cases hd; exact ⟨ds, hn3, hd3, hv3⟩)
        · cases (Option.some.inj (show some _ = some o from ho))
          have h25 : a.tmps.getD 25 undef = .bool by' := hI.slot (i := 1) (d := 25) (hdep ⟨1, .data⟩ (by simp) (by rfl)) rfl
          have h30 : Sp.is (.vals (y.natAbs - x.natAbs)) w2 (a.tmps.getD 30 undef) := hI.slot (i := 6) (d := 30) (hdep ⟨6, .data⟩ (by simp) (by rfl)) rfl
          obtain ⟨x30, e30⟩ : ∃ x, a.tmps.getD 30 undef = x := ⟨_, rfl⟩
          rw [e30] at h30
          refine pstep rfl fun K hK => ?_
          clear hdep hI ho hi
          go_simp
          obtain ⟨ds, hn, hdg, hv⟩ := h30
          refine (normal_any by' x30 ds _ hn hdg).mono ?_
          rintro e w3 ⟨v3, rfl, hn3, hb3⟩
          rw [hv] at hn3
          exact hK _ _ hb3 (fun d hd => by cases hd; exact hn3)
      · intro L a w2 o ho hL hoth hI
        cases (Option.some.inj (show some _ = some o from ho))
        have h4 : a.tmps.getD 4 undef = .pointer (some ⟨w.heap.size + 1 + 1, 0, none⟩) := hI.free (t := 4) (by kernel_rfl)
        have h31 : IntAt w2 (a.tmps.getD 31 undef) (mk by' (y.natAbs - x.natAbs)) := hI.slot (i := 7) (d := 31) (hoth 7 (by decide) (by decide)) rfl
        obtain ⟨x31, e31⟩ : ∃ x, a.tmps.getD 31 undef = x := ⟨_, rfl⟩
        rw [e31] at h31
        refine ⟨rfl, ?_⟩
        refine wp_store_int (.tmp 4) (.tmp 31) rfl (w.heap.size + 1 + 1) x31 _ h4 e31 h31 (HR1.out.keep hI.below) ?_
        refine hret _ _ (wp_ret ?_)
        exact ret_int_act rfl hI.defers h4 (HR1.out.keep hI.below) h31 (Pu.further HB1.out hI.below) (by omega)
      · intro hfn
        exact absurd hfn (by decide)
    · have e0 : mk (decide (x < 0)) (x.natAbs - y.natAbs) = x + y := by rw [mk_sub (fun h => hsg h.symm) hge, mk_self]
      rw [← e0]
      have hc : decide (cmpI x.natAbs y.natAbs < 0) = false := by unfold cmpI; rw [if_neg (by omega)]; split <;> rfl
      have HM := hid (refMinus_any s t _ _ · · · (dig_Dig x.natAbs) (dig_Dig y.natAbs) hl1 (dig_length_mono hge) (by rw [val_dig, val_dig]; omega))
      rw [val_dig, val_dig] at HM
      generalize decide (x < 0) = bx at *
      generalize decide (y < 0) = by' at *
      have HB := hid (HBq.out bx by')
      have HR := hid (HRq.out bx by')
      have HX := hid (HXq.out bx by')
      have HY := hid (HYq.out bx by')
      clear HBq HRq HXq HYq hsg e0
      go_enter Tryz.func13, Tryz.ntmps13
      go_upto_region 5 with ((go_at_call 54; refine (HC.out _ (HS.out.keep HB.out) (HT.out.keep HB.out)).mono ?_; rintro e w1 ⟨rfl, hb1⟩))
      have HB1 := hid (Pu.further HB.out hb1)
      have HX1 := hid (heapKeep hb1 HX.out)
      have HY1 := hid (heapKeep hb1 HY.out)
      have HR1 := hid (HR.out.keep hb1)
      clear hb1
      rename_i hret
      refine Pu.wp_region_pure 8 (Slots [(32, .eq (.pointer (some ⟨w.heap.size, 0, none⟩))), (33, .eq (.bool bx)), (34, .eq (.pointer (some ⟨w.heap.size, 1, none⟩))), (35, .eq (s)), (36, .eq (.pointer (some ⟨w.heap.size + 1, 1, none⟩))), (37, .eq (t)), (38, .vals (x.natAbs - y.natAbs)), (39, .int (mk bx (x.natAbs - y.natAbs)))]) (by kernel_rfl) (by kernel_rfl) (by kernel_rfl) (fun hfn => by kernel_rfl) (Slots.keep _) ?_ ?_ ?_
      · intro L a w2 i o ho hne2 hL hdep hI
        have hi : i < 9 := (Array.getElem?_eq_some_iff.1 ho).1
        rcases (show i = 0 ∨ i = 1 ∨ i = 2 ∨ i = 3 ∨ i = 4 ∨ i = 5 ∨ i = 6 ∨ i = 7 by omega) with rfl | rfl | rfl | rfl | rfl | rfl | rfl | rfl
        · cases (Option.some.inj (show some _ = some o from ho))
          have h2 : a.tmps.getD 2 undef = .pointer (some ⟨w.heap.size, 0, none⟩) := hI.free (t := 2) (by kernel_rfl)
          refine pstep rfl fun K hK => ?_
          clear hdep hI ho hi
          go_simp
          exact hK _ _ (Below.refl _ _) (fun d hd => by cases hd; rfl)
        · cases (Option.some.inj (show some _ = some o from ho))
          have h32 : a.tmps.getD 32 undef = .pointer (some ⟨w.heap.size, 0, none⟩) := hI.slot (i := 0) (d := 32) (hdep ⟨0, .data⟩ (by simp) (by rfl)) rfl
          have hc2 := (cell2 (heapKeep hI.below HX1.out)).1
          refine pstep rfl fun K hK => ?_
          clear hdep hI ho hi
          go_simp
          exact hK _ _ (Below.refl _ _) (fun d hd => by cases hd; rfl)
        · cases (Option.some.inj (show some _ = some o from ho))
          have h2 : a.tmps.getD 2 undef = .pointer (some ⟨w.heap.size, 0, none⟩) := hI.free (t := 2) (by kernel_rfl)
          refine pstep rfl fun K hK => ?_
          clear hdep hI ho hi
          go_simp
          exact hK _ _ (Below.refl _ _) (fun d hd => by cases hd; rfl)
        · cases (Option.some.inj (show some _ = some o from ho))
          have h34 : a.tmps.getD 34 undef = .pointer (some ⟨w.heap.size, 1, none⟩) := hI.slot (i := 2) (d := 34) (hdep ⟨2, .data⟩ (by simp) (by rfl)) rfl
          have hc2 := (cell2 (heapKeep hI.below HX1.out)).2.1
          refine pstep rfl fun K hK => ?_
          clear hdep hI ho hi
          go_simp
          exact hK _ _ (Below.refl _ _) (fun d hd => by cases hd; rfl)
        · cases (Option.some.inj (show some _ = some o from ho))
          have h3 : a.tmps.getD 3 undef = .pointer (some ⟨w.heap.size + 1, 0, none⟩) := hI.free (t := 3) (by kernel_rfl)
          refine pstep rfl fun K hK => ?_
          clear hdep hI ho hi
          go_simp
          exact hK _ _ (Below.refl _ _) (fun d hd => by cases hd; rfl)
        · cases (Option.some.inj (show some _ = some o from ho))
          have h36 : a.tmps.getD 36 undef = .pointer (some ⟨w.heap.size + 1, 1, none⟩) := hI.slot (i := 4) (d := 36) (hdep ⟨4, .data⟩ (by simp) (by rfl)) rfl
          have hc2 := (cell2 (heapKeep hI.below HY1.out)).2.1
          refine pstep rfl fun K hK => ?_
          clear hdep hI ho hi
          go_simp
          exact hK _ _ (Below.refl _ _) (fun d hd => by cases hd; rfl)
        · cases (Option.some.inj (show some _ = some o from ho))
          have h35 : a.tmps.getD 35 undef = s := hI.slot (i := 3) (d := 35) (hdep ⟨3, .data⟩ (by simp) (by rfl)) rfl
          have h37 : a.tmps.getD 37 undef = t := hI.slot (i := 5) (d := 37) (hdep ⟨5, .data⟩ (by simp) (by rfl)) rfl
          have hbw := Pu.further HB1.out hI.below
          refine pstep rfl fun K hK => ?_
          clear hdep hI ho hi
          go_simp
          refine (HM.out _ (HS.out.keep hbw) (HT.out.keep hbw)).mono ?_
          rintro e w3 ⟨v3, ds, rfl, hn3, hd3, hv3, hb3⟩
          exact hK _ _ hb3 (fun d hd => by cases hd; exact ⟨ds, hn3, hd3, hv3⟩)
        · cases (Option.some.inj (show some _ = some o from ho))
          have h33 : a.tmps.getD 33 undef = .bool bx := hI.slot (i := 1) (d := 33) (hdep ⟨1, .data⟩ (by simp) (by rfl)) rfl
          have h38 : Sp.is (.vals (x.natAbs - y.natAbs)) w2 (a.tmps.getD 38 undef) := hI.slot (i := 6) (d := 38) (hdep ⟨6, .data⟩ (by simp) (by rfl)) rfl
          obtain ⟨x38, e38⟩ : ∃ x, a.tmps.getD 38 undef = x := ⟨_, rfl⟩
          rw [e38] at h38
          refine pstep rfl fun K hK => ?_
          clear hdep hI ho hi
          go_simp
          obtain ⟨ds, hn, hdg, hv⟩ := h38
          refine (normal_any bx x38 ds _ hn hdg).mono ?_
          rintro e w3 ⟨v3, rfl, hn3, hb3⟩
          rw [hv] at hn3
          exact hK _ _ hb3 (fun d hd => by cases hd; exact hn3)
      · intro L a w2 o ho hL hoth hI
        cases (Option.some.inj (show some _ = some o from ho))
        have h4 : a.tmps.getD 4 undef = .pointer (some ⟨w.heap.size + 1 + 1, 0, none⟩) := hI.free (t := 4) (by kernel_rfl)
        have h39 : IntAt w2 (a.tmps.getD 39 undef) (mk bx (x.natAbs - y.natAbs)) := hI.slot (i := 7) (d := 39) (hoth 7 (by decide) (by decide)) rfl
        obtain ⟨x39, e39⟩ : ∃ x, a.tmps.getD 39 undef = x := ⟨_, rfl⟩
        rw [e39] at h39
        refine ⟨rfl, ?_⟩
        refine wp_store_int (.tmp 4) (.tmp 39) rfl (w.heap.size + 1 + 1) x39 _ h4 e39 h39 (HR1.out.keep hI.below) ?_
        refine hret _ _ (wp_ret ?_)
        exact ret_int_act rfl hI.defers h4 (HR1.out.keep hI.below) h39 (Pu.further HB1.out hI.below) (by omega)
      · intro hfn
        exact absurd hfn (by decide)

/-- A number within a bound. -/
def aroundI (n m : Int) : Int := (if n < 0 then -(n + 1) else n) % m
theorem aroundI_bd (n m : Int) (h : 1 ≤ m) : 0 ≤ aroundI n m ∧ aroundI n m < m := ⟨Int.emod_nonneg _ (by omega), Int.emod_lt_of_pos _ (by omega)⟩

set_option maxHeartbeats 400000 in
theorem Around_any (n m : Int) (w : World) (h1 : -9223372036854775808 ≤ n) (h2 : n ≤ 9223372036854775807) (hm : 1 ≤ m) (hm2 : m ≤ 9223372036854775807) :
    Calls Tryz.prog 11 #[.int .i64 n, .int .i64 m] w fun e w' => e = .returned (.int .i64 (aroundI n m)) ∧ w = w' := by
  unfold aroundI
  rcases Int.lt_or_le n 0 with h | h
  · rw [if_pos h]
    have hm0 : (m == 0) = false := by rw [beq_eq_false_iff_ne]; omega
    go_enter Tryz.func11, Tryz.ntmps11
    go_wp2
    go_ret
    refine ⟨ret_int ?_, rfl⟩
    obtain ⟨k, hk⟩ : ∃ k, n + 1 = -k := ⟨-(n + 1), by omega⟩
    rw [hk, Int.neg_tmod, Int.neg_neg, Int.neg_neg, Int.tmod_eq_emod_of_nonneg (by omega)]
  · rw [if_neg (by omega)]
    have hm0 : (m == 0) = false := by rw [beq_eq_false_iff_ne]; omega
    go_enter Tryz.func11, Tryz.ntmps11
    go_wp2
    go_ret
    exact ⟨rfl, rfl⟩

end Zn
end Go.Proofs.YtelfpefcjchjbaaGreatDoor
