/-
  Contracts of gantry/integer: Neg; of gantry/gantryref04: Neg, Sub, Compare, Sign, Encode.
-/
import Derived.Test.YtelfpefcjchjbaaGreatDoorIntX
namespace Go.Proofs.YtelfpefcjchjbaaGreatDoor
open Go.RowKit
open Go.Lib (hid)
open Dg
namespace Zn

set_option maxHeartbeats 1000000 in
theorem refCompare_any (vx vy : Value) (x y : Int) (w : World) (hx : IntAt w vx x) (hy : IntAt w vy y) :
    Calls Tryz.prog 30 #[vx, vy] w (RetI w (cmpI x y)) := by
  obtain ⟨s, rfl, hs⟩ := hx
  obtain ⟨t, rfl, ht⟩ := hy
  have HS := hid hs
  have HT := hid ht
  have HB : Hid (∀ bx by' : Bool, Below w.heap.size w ((w.alloc (Obj.cells #[Value.bool bx, s] 24)).alloc (Obj.cells #[Value.bool by', t] 24))) := hid fun _ _ => below2 w _ _
  clear hs ht
  rcases Int.lt_or_le x 0 with h | h
  · have hd : decide (x < 0) = true := by simp [h]
    rw [hd]
    rcases Int.lt_or_le y 0 with k | k
    · have kd : decide (y < 0) = true := by simp [k]
      rw [kd]
      have e : cmpI x y = cmpI y.natAbs x.natAbs := by
        rw [← cmp_neg]; congr 1 <;> omega
      rw [e]
      have HC := hid (compared_any t s y.natAbs x.natAbs · · ·)
      clear h k hd kd e
      go_enter Tryz.func30, Tryz.ntmps30
      go_wp2_with fail
      refine (HC.out _ (HT.out.keep (HB.out _ _)) (HS.out.keep (HB.out _ _))).mono ?_
      rintro e w1 ⟨rfl, hb1⟩
      have HB1 := hid (Pu.further (HB.out _ _) hb1)
      clear hb1
      go_wp2
      go_ret
      exact ⟨rfl, HB1.out⟩
    · have kd : decide (y < 0) = false := by simp [k]
      rw [kd]
      have e : (-1 : Int) = cmpI x y := by unfold cmpI; rw [if_pos (by omega)]
      rw [← e]
      clear h k hd kd e
      go_enter Tryz.func30, Tryz.ntmps30
      go_wp2
      go_ret
      exact ⟨rfl, HB.out _ _⟩
  · have hd : decide (x < 0) = false := by simp [h]
    rw [hd]
    rcases Int.lt_or_le y 0 with k | k
    · have kd : decide (y < 0) = true := by simp [k]
      rw [kd]
      have e : (1 : Int) = cmpI x y := by unfold cmpI; rw [if_neg (by omega), if_pos (by omega)]
      rw [← e]
      clear h k hd kd e
      go_enter Tryz.func30, Tryz.ntmps30
      go_wp2
      go_ret
      exact ⟨rfl, HB.out _ _⟩
    · have kd : decide (y < 0) = false := by simp [k]
      rw [kd]
      have e : cmpI x y = cmpI x.natAbs y.natAbs := by congr 1 <;> omega
      rw [e]
      have HC := hid (compared_any s t x.natAbs y.natAbs · · ·)
      clear h k hd kd e
      go_enter Tryz.func30, Tryz.ntmps30
      go_wp2_with fail
      refine (HC.out _ (HS.out.keep (HB.out _ _)) (HT.out.keep (HB.out _ _))).mono ?_
      rintro e w1 ⟨rfl, hb1⟩
      have HB1 := hid (Pu.further (HB.out _ _) hb1)
      clear hb1
      go_wp2
      go_ret
      exact ⟨rfl, HB1.out⟩

set_option maxHeartbeats 1000000 in
theorem refSign_any (vx : Value) (x : Int) (w : World) (hx : IntAt w vx x) :
    Calls Tryz.prog 32 #[vx] w (RetI w (cmpI x 0)) := by
  have hx1 := hx
  obtain ⟨s, rfl, _⟩ := hx1
  have HS := hid hx
  have HC := hid (refCompare_any (.agg #[.bool (decide (x < 0)), s]) (.agg #[.bool false, .slice none 0 0]) x 0 · · ·)
  generalize decide (x < 0) = bx at *
  have HB := hid (show Below w.heap.size w (w.alloc (Obj.cells #[Value.bool bx, s] 24)) from (Below.refl _ _).alloc (Nat.le_refl _) _)
  clear hx
  go_enter Tryz.func32, Tryz.ntmps32
  go_wp2_with fail
  refine (HC.out _ (HS.out.keep HB.out) (int_zero _)).mono ?_
  rintro e w1 ⟨rfl, hb1⟩
  have HB1 := hid (Pu.further HB.out hb1)
  clear hb1
  go_wp2
  go_ret
  exact ⟨rfl, HB1.out⟩

set_option maxHeartbeats 1000000 in
theorem Neg_any (vx : Value) (x : Int) (w : World) (hx : IntAt w vx x) :
    Calls Tryz.prog 27 #[vx] w (RetInt w (-x)) := by
  obtain ⟨s, rfl, hs⟩ := hx
  have HP := hid (fun w1 h => signed_any (!decide (x < 0)) s (dig x.natAbs) w1 h (dig_Dig _))
  simp only [val_dig, mk_not] at HP
  generalize decide (x < 0) = bx at *
  have HS := hid hs
  have HB := hid (below2 w (Obj.cells #[Value.bool bx, s] 24) (Obj.cells #[Value.bool false, Value.slice none 0 0] 24))
  have HR := hid (ResAt.at (W := (w.alloc (Obj.cells #[Value.bool bx, s] 24))) (g := w.heap.size + 1) (by simp))
  clear hs
  go_enter Tryz.func27, Tryz.ntmps27
  go_wp2_with fail
  refine (HP.out _ (HS.out.keep HB.out)).mono ?_
  rintro e w1 ⟨v1, rfl, hv1, hb1⟩
  have HV1 := hid hv1
  have HB1 := hid (Pu.further HB.out hb1)
  have HR1 := hid (HR.out.keep hb1)
  clear hv1 hb1
  go_wp2_with (with_reducible refine wpList_store_int rfl (.tmp 2) (.tmp 8) rfl (w.heap.size + 1) v1 _ rfl rfl HV1.out HR1.out ?_)
  exact ret_int_cell rfl rfl HR1.out HV1.out HB1.out (by omega)

set_option maxHeartbeats 1000000 in
theorem refNeg_any (vx : Value) (x : Int) (w : World) (hx : IntAt w vx x) :
    Calls Tryz.prog 28 #[vx] w (RetInt w (-x)) := by
  obtain ⟨s, rfl, hs⟩ := hx
  have HP := hid (fun w1 h => normal_any (!decide (x < 0)) s (dig x.natAbs) w1 h (dig_Dig _))
  simp only [val_dig, mk_not] at HP
  generalize decide (x < 0) = bx at *
  have HS := hid hs
  have HB := hid (below2 w (Obj.cells #[Value.bool bx, s] 24) (Obj.cells #[Value.bool false, Value.slice none 0 0] 24))
  have HR := hid (ResAt.at (W := (w.alloc (Obj.cells #[Value.bool bx, s] 24))) (g := w.heap.size + 1) (by simp))
  clear hs
  go_enter Tryz.func28, Tryz.ntmps28
  go_wp2_with fail
  refine (HP.out _ (HS.out.keep HB.out)).mono ?_
  rintro e w1 ⟨v1, rfl, hv1, hb1⟩
  have HV1 := hid hv1
  have HB1 := hid (Pu.further HB.out hb1)
  have HR1 := hid (HR.out.keep hb1)
  clear hv1 hb1
  go_wp2_with (with_reducible refine wpList_store_int rfl (.tmp 2) (.tmp 8) rfl (w.heap.size + 1) v1 _ rfl rfl HV1.out HR1.out ?_)
  exact ret_int_cell rfl rfl HR1.out HV1.out HB1.out (by omega)

set_option maxRecDepth 100000 in
set_option maxHeartbeats 2000000 in
theorem refSub_any (vx vy : Value) (x y : Int) (w : World) (hx : IntAt w vx x) (hy : IntAt w vy y) (hl1 : len x ≤ 1099511627000) (hl2 : len y ≤ 1099511627000) :
    Calls Tryz.prog 14 #[vx, vy] w (RetInt w (x - y)) := by
  obtain ⟨bx, so, n, sc, rfl⟩ := hx.open
  obtain ⟨by', ty, m, tc, rfl⟩ := hy.open
  have HX := hid hx
  have HY := hid hy
  obtain ⟨W1, hW1⟩ : ∃ W1, W1 = w.alloc (Obj.cells #[Value.bool bx, .slice so n sc] 24) := ⟨_, rfl⟩
  obtain ⟨W2, hW2⟩ : ∃ W2, W2 = W1.alloc (Obj.cells #[Value.bool by', .slice ty m tc] 24) := ⟨_, rfl⟩
  obtain ⟨W, hW⟩ : ∃ W, W = W2.alloc (Obj.cells #[Value.bool false, Value.slice none 0 0] 24) := ⟨_, rfl⟩
  have hb1 : Below w.heap.size w W1 := by rw [hW1]; exact (Below.refl _ _).alloc (Nat.le_refl _) _
  have hs1 : W1.heap.size = w.heap.size + 1 := by rw [hW1]; simp
  have hb2 : Below W1.heap.size W1 W2 := by rw [hW2]; exact (Below.refl _ _).alloc (Nat.le_refl _) _
  have hs2 : W2.heap.size = w.heap.size + 1 + 1 := by rw [hW2]; simp [hs1]
  have hb3 : Below W2.heap.size W2 W := by rw [hW]; exact (Below.refl _ _).alloc (Nat.le_refl _) _
  have c1 : IntCell W1 w.heap.size x := by rw [hW1]; exact IntCell.new hx
  have c2 : IntCell W2 (w.heap.size + 1) y := by rw [hW2, ← hs1]; exact IntCell.new (hy.keep hb1)
  have HC1 := hid ((c1.keep hb2).keep hb3)
  have HC2 := hid (c2.keep hb3)
  have HR := hid (show ResAt W (w.heap.size + 1 + 1) by rw [hW]; exact ResAt.at hs2)
  have HB := hid (Pu.further (Pu.further hb1 hb2) hb3)
  rw [hW1] at hW2
  rw [hW2] at hW
  have HWW := hid hW
  have HL1 := hid hl1
  have HL2 := hid (show len (-y) ≤ 1099511627000 by rw [len, Int.natAbs_neg]; exact hl2)
  clear hW hW1 hW2 hb1 hb2 hb3 c1 c2 hs1 hs2 hx hy hl1 hl2
  go_enter Tryz.func14, Tryz.ntmps14
  go_upto_region 1 with fail
  rw [← HWW.out]
  rename_i hret
  refine Pu.wp_region_pure 4 (Slots [(5, .int (x)), (6, .int (y)), (7, .int (-y)), (8, .int (x - y))]) (by kernel_rfl) (by kernel_rfl) (by kernel_rfl) (fun hfn => by kernel_rfl) (Slots.keep _) ?_ ?_ ?_
  · intro L a w2 i o ho hne2 hL hdep hI
    have hi : i < 5 := (Array.getElem?_eq_some_iff.1 ho).1
    rcases (show i = 0 ∨ i = 1 ∨ i = 2 ∨ i = 3 by omega) with rfl | rfl | rfl | rfl
    · cases (Option.some.inj (show some _ = some o from ho))
      have h2 : a.tmps.getD 2 undef = .pointer (some ⟨w.heap.size, 0, none⟩) := hI.free (t := 2) (by kernel_rfl)
      refine pstep rfl fun K hK => ?_
      refine wp_load_int (.tmp 2) rfl w.heap.size x h2 (HC1.out.keep hI.below) ?_
      intro v hv hh
      exact hK _ _ (Below.refl _ _) (fun d hd => by cases hd; exact hv)
    · cases (Option.some.inj (show some _ = some o from ho))
      have h3 : a.tmps.getD 3 undef = .pointer (some ⟨w.heap.size + 1, 0, none⟩) := hI.free (t := 3) (by kernel_rfl)
      refine pstep rfl fun K hK => ?_
      refine wp_load_int (.tmp 3) rfl (w.heap.size + 1) y h3 (HC2.out.keep hI.below) ?_
      intro v hv hh
      exact hK _ _ (Below.refl _ _) (fun d hd => by cases hd; exact hv)
    · cases (Option.some.inj (show some _ = some o from ho))
      have h6 : IntAt w2 (a.tmps.getD 6 undef) (y) := hI.slot (i := 1) (d := 6) (hdep ⟨1, .data⟩ (by simp) (by rfl)) rfl
      obtain ⟨x6, e6⟩ : ∃ x, a.tmps.getD 6 undef = x := ⟨_, rfl⟩
      rw [e6] at h6
      refine pstep rfl fun K hK => ?_
      clear hdep hI ho hi
      go_simp
      refine (refNeg_any x6 y _ h6).mono ?_
      rintro e w3 ⟨v3, rfl, hn3, hb3⟩
      exact hK _ _ hb3 (fun d hd => by cases hd; exact hn3)
    · cases (Option.some.inj (show some _ = some o from ho))
      have h5 : IntAt w2 (a.tmps.getD 5 undef) (x) := hI.slot (i := 0) (d := 5) (hdep ⟨0, .data⟩ (by simp) (by rfl)) rfl
      obtain ⟨x5, e5⟩ : ∃ x, a.tmps.getD 5 undef = x := ⟨_, rfl⟩
      rw [e5] at h5
      have h7 : IntAt w2 (a.tmps.getD 7 undef) (-y) := hI.slot (i := 2) (d := 7) (hdep ⟨2, .data⟩ (by simp) (by rfl)) rfl
      obtain ⟨x7, e7⟩ : ∃ x, a.tmps.getD 7 undef = x := ⟨_, rfl⟩
      rw [e7] at h7
      refine pstep rfl fun K hK => ?_
      clear hdep hI ho hi
      go_simp
      refine (refAdd_any x5 x7 x (-y) _ h5 h7 HL1.out HL2.out).mono ?_
      rintro e w3 ⟨v3, rfl, hn3, hb3⟩
      exact hK _ _ hb3 (fun d hd => by cases hd; exact (by rw [Int.sub_eq_add_neg]; exact hn3))
  · intro L a w2 o ho hL hoth hI
    cases (Option.some.inj (show some _ = some o from ho))
    have h4 : a.tmps.getD 4 undef = .pointer (some ⟨w.heap.size + 1 + 1, 0, none⟩) := hI.free (t := 4) (by kernel_rfl)
    have h8 : IntAt w2 (a.tmps.getD 8 undef) (x - y) := hI.slot (i := 3) (d := 8) (hoth 3 (by decide) (by decide)) rfl
    obtain ⟨x8, e8⟩ : ∃ x, a.tmps.getD 8 undef = x := ⟨_, rfl⟩
    rw [e8] at h8
    refine ⟨rfl, ?_⟩
    refine wp_store_int (.tmp 4) (.tmp 8) rfl (w.heap.size + 1 + 1) x8 _ h4 e8 h8 (HR.out.keep hI.below) ?_
    refine hret _ _ (wp_ret ?_)
    exact ret_int_act rfl hI.defers h4 (HR.out.keep hI.below) h8 (Pu.further HB.out hI.below) (by omega)
  · intro hfn
    exact absurd hfn (by decide)

set_option maxRecDepth 100000 in
set_option maxHeartbeats 4000000 in
theorem refEncode_any (vx : Value) (x : Int) (w : World) (hx : IntAt w vx x) (hl : len x ≤ 1099511627000) :
    Calls Tryz.prog 22 #[vx] w (RetRow .u8 w (encI x)) := by
  have HXI := hid hx
  obtain ⟨s, rfl, hs⟩ := hx
  have HS := hid hs
  have HSG := hid (fun w1 h => refSign_any (.agg #[.bool (decide (x < 0)), s]) x w1 h)
  generalize decide (x < 0) = bx at *
  obtain ⟨W, hW⟩ : ∃ W, W = w.alloc (Obj.cells #[Value.bool bx, s] 24) := ⟨_, rfl⟩
  have HBW := hid (show Below w.heap.size w W by rw [hW]; exact (Below.refl _ _).alloc (Nat.le_refl _) _)
  have HC := hid (show IntCell W w.heap.size x by rw [hW]; have h := HXI.out; obtain ⟨b, so, n, sc, e⟩ := h.open; cases e; exact IntCell.new h)
  have HX := hid (show W.heap[w.heap.size]? = some (.cells #[Value.bool bx, s] 24 (0, 0)) by rw [hW]; exact heap_alloc_new w _)
  have HWW := hid hW
  clear hW hs
  go_enter Tryz.func22, Tryz.ntmps22
  go_upto_region 1 with fail
  rw [← HWW.out]
  rename_i hret
  refine Pu.wp_region_pure 8 (Slots [(3, .int (x)), (4, .eq (.int .i64 (cmpI x 0))), (5, .one .i64 (cmpI x 0)), (6, .eq (.pointer (some ⟨w.heap.size, 1, none⟩))), (7, .eq (s)), (8, .row .i64 (cmpI x 0 :: (dig x.natAbs).map Int.ofNat)), (9, .row .u8 (encI x)), (2, .row .u8 (encI x))]) (by kernel_rfl) (by kernel_rfl) (by kernel_rfl) (fun hfn => absurd hfn (by decide)) (Slots.keep _) ?_ ?_ ?_
  · intro L a w2 i o ho hne2 hL hdep hI
    have hi : i < 8 := (Array.getElem?_eq_some_iff.1 ho).1
    rcases (show i = 0 ∨ i = 1 ∨ i = 2 ∨ i = 3 ∨ i = 4 ∨ i = 5 ∨ i = 6 ∨ i = 7 by omega) with rfl | rfl | rfl | rfl | rfl | rfl | rfl | rfl
    · cases (Option.some.inj (show some _ = some o from ho))
      have h1 : a.tmps.getD 1 undef = .pointer (some ⟨w.heap.size, 0, none⟩) := hI.free (t := 1) (by kernel_rfl)
      refine pstep rfl fun K hK => ?_
      refine wp_load_int (.tmp 1) rfl w.heap.size x h1 (HC.out.keep hI.below) ?_
      intro v hv hh
      exact hK _ _ (Below.refl _ _) (fun d hd => by cases hd; exact hv)
    · cases (Option.some.inj (show some _ = some o from ho))
      have h3 : IntAt w2 (a.tmps.getD 3 undef) (x) := hI.slot (i := 0) (d := 3) (hdep ⟨0, .data⟩ (by simp) (by rfl)) rfl
      obtain ⟨x3, e3⟩ : ∃ x, a.tmps.getD 3 undef = x := ⟨_, rfl⟩
      rw [e3] at h3
      refine pstep rfl fun K hK => ?_
      clear hdep hI ho hi
      go_simp
      refine (refSign_any x3 x _ h3).mono ?_
      rintro e w3 ⟨rfl, hb3⟩
      exact hK _ _ hb3 (fun d hd => by cases hd; rfl)
    · cases (Option.some.inj (show some _ = some o from ho))
      have h4 : a.tmps.getD 4 undef = .int .i64 (cmpI x 0) := hI.slot (i := 1) (d := 4) (hdep ⟨1, .data⟩ (by simp) (by rfl)) rfl
      have g4 : (a.tmps[4]?).getD undef = .int .i64 (cmpI x 0) := by rw [← Array.getD_eq_getD_getElem?]; exact h4
      refine pstep rfl fun K hK => ?_
      clear hdep hI ho hi
      go_simp
      exact hK (.slice (some ⟨w2.heap.size, 0, none⟩) 1 1) (w2.alloc (.cells #[.int .i64 (cmpI x 0)] 3)) ((Below.refl _ _).alloc (Nat.le_refl _) _) (fun d hd => by cases hd; exact One.new .i64 w2 (cmpI x 0) 3)
    · cases (Option.some.inj (show some _ = some o from ho))
      have h1 : a.tmps.getD 1 undef = .pointer (some ⟨w.heap.size, 0, none⟩) := hI.free (t := 1) (by kernel_rfl)
      refine pstep rfl fun K hK => ?_
      clear hdep hI ho hi
      go_simp
      exact hK _ _ (Below.refl _ _) (fun d hd => by cases hd; rfl)
    · cases (Option.some.inj (show some _ = some o from ho))
      have h6 : a.tmps.getD 6 undef = .pointer (some ⟨w.heap.size, 1, none⟩) := hI.slot (i := 3) (d := 6) (hdep ⟨3, .data⟩ (by simp) (by rfl)) rfl
      have hc2 := (cell2 (heapKeep hI.below HX.out)).2.1
      refine pstep rfl fun K hK => ?_
      clear hdep hI ho hi
      go_simp
      exact hK _ _ (Below.refl _ _) (fun d hd => by cases hd; rfl)
    · cases (Option.some.inj (show some _ = some o from ho))
      have h5 : Sp.is (.one .i64 (cmpI x 0)) w2 (a.tmps.getD 5 undef) := hI.slot (i := 2) (d := 5) (hdep ⟨2, .data⟩ (by simp) (by rfl)) rfl
      obtain ⟨x5, e5⟩ : ∃ x, a.tmps.getD 5 undef = x := ⟨_, rfl⟩
      rw [e5] at h5
      have h7 : a.tmps.getD 7 undef = s := hI.slot (i := 4) (d := 7) (hdep ⟨4, .data⟩ (by simp) (by rfl)) rfl
      refine pstep rfl fun K hK => ?_
      obtain ⟨g, rfl, hcg⟩ := h5
      refine wp_append_digits (.tmp 5) (.tmp 7) rfl g (cmpI x 0) e5 hcg s (dig x.natAbs) h7 (HS.out.keep (Pu.further HBW.out hI.below)) (Nat.le_trans hl (by decide)) ?_
      intro v' w' hv' hb'
      exact hK _ _ hb' (fun d hd => by cases hd; exact hv')
    · cases (Option.some.inj (show some _ = some o from ho))
      have h8 : Sp.is (.row .i64 (cmpI x 0 :: (dig x.natAbs).map Int.ofNat)) w2 (a.tmps.getD 8 undef) := hI.slot (i := 5) (d := 8) (hdep ⟨5, .data⟩ (by simp) (by rfl)) rfl
      obtain ⟨x8, e8⟩ : ∃ x, a.tmps.getD 8 undef = x := ⟨_, rfl⟩
      rw [e8] at h8
      refine pstep rfl fun K hK => ?_
      clear hdep hI ho hi
      go_simp
      refine (refInts_row x8 _ _ h8 (encI_bd x) (by have := hl; unfold len at this; simp; omega)).mono ?_
      rintro e w3 ⟨v3, rfl, hn3, hb3⟩
      exact hK _ _ hb3 (fun d hd => by cases hd; exact hn3)
    · cases (Option.some.inj (show some _ = some o from ho))
      have h9 : Sp.is (.row .u8 (encI x)) w2 (a.tmps.getD 9 undef) := hI.slot (i := 6) (d := 9) (hdep ⟨6, .data⟩ (by simp) (by rfl)) rfl
      obtain ⟨x9, e9⟩ : ∃ x, a.tmps.getD 9 undef = x := ⟨_, rfl⟩
      rw [e9] at h9
      refine pstep rfl fun K hK => ?_
      clear hdep hI ho hi
      go_simp
      exact hK _ _ (Below.refl _ _) (fun d hd => by cases hd; exact h9)
  · intro L a w2 o ho
    exact absurd ho (by simp)
  · intro _ L a w2 hall hI
    have h2 : Sp.is (.row .u8 (encI x)) w2 (a.tmps.getD 2 undef) := hI.slot (i := 7) (d := 2) (hall 7 (by decide)) rfl
    have HBL := hid hI.below
    refine hret _ _ (wp_ret ?_)
    have hf := hI.frame [3, 4, 5, 6, 7, 8, 9, 2] (by kernel_rfl)
    simp only [List.foldl_cons, List.foldl_nil] at hf
    clear hI hall
    generalize a.tmps.getD 3 undef = y3 at *
    generalize a.tmps.getD 4 undef = y4 at *
    generalize a.tmps.getD 5 undef = y5 at *
    generalize a.tmps.getD 6 undef = y6 at *
    generalize a.tmps.getD 7 undef = y7 at *
    generalize a.tmps.getD 8 undef = y8 at *
    generalize a.tmps.getD 9 undef = y9 at *
    generalize a.tmps.getD 2 undef = y2 at *
    subst hf
    go_simp
    go_ret
    exact ⟨y2, rfl, h2, Pu.further HBW.out HBL.out⟩

end Zn
end Go.Proofs.YtelfpefcjchjbaaGreatDoor
