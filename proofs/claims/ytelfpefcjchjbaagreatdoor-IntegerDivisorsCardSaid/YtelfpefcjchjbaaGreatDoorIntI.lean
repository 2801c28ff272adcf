/-
  Contracts of gantry/integer: Add, Sub, Mul, Compare, Sign, Of.
-/
import Derived.Test.YtelfpefcjchjbaaGreatDoorIntH
namespace Go.Proofs.YtelfpefcjchjbaaGreatDoor
open Go.RowKit
open Go.Lib (hid)
open Dg
namespace Zn

/-- The digits of an integer's size. -/
abbrev len (z : Int) : Nat := (dig z.natAbs).length

theorem mk_self (z : Int) : mk (decide (z < 0)) z.natAbs = z := by
  unfold mk
  rcases Int.lt_or_le z 0 with h1 | h1
  · simp only [h1, decide_true, if_true]; omega
  · simp only [show ¬ z < 0 by omega, decide_false, Bool.false_eq_true, if_false]; omega
theorem mk_not (z : Int) : mk (!decide (z < 0)) z.natAbs = -z := by
  unfold mk
  rcases Int.lt_or_le z 0 with h1 | h1
  · simp only [h1, decide_true, Bool.not_true, Bool.false_eq_true, if_false]; omega
  · simp only [show ¬ z < 0 by omega, decide_false, Bool.not_false, if_true]; omega

theorem ResAt.at {W : World} {g : Nat} (h : W.heap.size = g) : ResAt (W.alloc (.cells #[.bool false, .slice none 0 0] 24)) g := by
  subst h; exact ResAt.new W _ _ _ _
theorem below3 (w : World) (a b c : Obj) : Below w.heap.size w (((w.alloc a).alloc b).alloc c) :=
  ((((Below.refl _ _).alloc (Nat.le_refl _) _).alloc (by simp) _).alloc (by simp; omega) _)
theorem below2 (w : World) (a b : Obj) : Below w.heap.size w ((w.alloc a).alloc b) :=
  (((Below.refl _ _).alloc (Nat.le_refl _) _).alloc (by simp) _)
theorem first3 (w : World) (a b c : Obj) : (((w.alloc a).alloc b).alloc c).heap[w.heap.size]? = some a :=
  heapKeep (below2 (w.alloc a) b c) (heap_alloc_new w a)
theorem second3 (w : World) (a b c : Obj) : (((w.alloc a).alloc b).alloc c).heap[w.heap.size + 1]? = some b := by
  have h := heapKeep ((Below.refl _ _).alloc (Nat.le_refl _) c) (heap_alloc_new (w.alloc a) b)
  rwa [show (w.alloc a).heap.size = w.heap.size + 1 by simp] at h
theorem first2 (w : World) (a b : Obj) : ((w.alloc a).alloc b).heap[w.heap.size]? = some a :=
  heapKeep ((Below.refl _ _).alloc (Nat.le_refl _) _) (heap_alloc_new w a)

set_option maxHeartbeats 1000000 in
theorem Add_any (vx vy : Value) (x y : Int) (w : World) (hx : IntAt w vx x) (hy : IntAt w vy y) (hl1 : len x ≤ 1099511627776) (hl2 : len y ≤ 1099511627776) :
    Calls Tryz.prog 23 #[vx, vy] w (RetInt w (x + y)) := by
  have hx1 := hx
  obtain ⟨s, rfl, _⟩ := hx1
  obtain ⟨t, rfl, ht⟩ := hy
  have HP := hid (plus_any (.agg #[.bool (decide (x < 0)), s]) x (decide (y < 0)) t y.natAbs · · · hl1 hl2)
  rw [mk_self] at HP
  generalize decide (x < 0) = bx at *
  generalize decide (y < 0) = by' at *
  have HS := hid hx
  have HT := hid ht
  have HB := hid (below3 w (Obj.cells #[Value.bool bx, s] 24) (Obj.cells #[Value.bool by', t] 24) (Obj.cells #[Value.bool false, Value.slice none 0 0] 24))
  have HR := hid (ResAt.at (W := (w.alloc (Obj.cells #[Value.bool bx, s] 24)).alloc (Obj.cells #[Value.bool by', t] 24)) (g := w.heap.size + 1 + 1) (by simp))
  clear hx ht
  go_enter Tryz.func23, Tryz.ntmps23
  go_wp2_with fail
  refine (HP.out _ (HS.out.keep HB.out) (HT.out.keep HB.out)).mono ?_
  rintro e w1 ⟨v1, rfl, hv1, hb1⟩
  have HV1 := hid hv1
  have HB1 := hid (Pu.further HB.out hb1)
  have HR1 := hid (HR.out.keep hb1)
  clear hv1 hb1
  go_wp2_with (with_reducible refine wpList_store_int rfl (.tmp 4) (.tmp 10) rfl (w.heap.size + 1 + 1) v1 _ rfl rfl HV1.out HR1.out ?_)
  exact ret_int_cell rfl rfl HR1.out HV1.out HB1.out (by omega)

set_option maxHeartbeats 1000000 in
theorem Sub_any (vx vy : Value) (x y : Int) (w : World) (hx : IntAt w vx x) (hy : IntAt w vy y) (hl1 : len x ≤ 1099511627776) (hl2 : len y ≤ 1099511627776) :
    Calls Tryz.prog 24 #[vx, vy] w (RetInt w (x - y)) := by
  have hx1 := hx
  obtain ⟨s, rfl, _⟩ := hx1
  obtain ⟨t, rfl, ht⟩ := hy
  have HP := hid (plus_any (.agg #[.bool (decide (x < 0)), s]) x (!decide (y < 0)) t y.natAbs · · · hl1 hl2)
  rw [mk_not, ← Int.sub_eq_add_neg] at HP
  generalize decide (x < 0) = bx at *
  generalize decide (y < 0) = by' at *
  have HS := hid hx
  have HT := hid ht
  have HB := hid (below3 w (Obj.cells #[Value.bool bx, s] 24) (Obj.cells #[Value.bool by', t] 24) (Obj.cells #[Value.bool false, Value.slice none 0 0] 24))
  have HR := hid (ResAt.at (W := (w.alloc (Obj.cells #[Value.bool bx, s] 24)).alloc (Obj.cells #[Value.bool by', t] 24)) (g := w.heap.size + 1 + 1) (by simp))
  clear hx ht
  go_enter Tryz.func24, Tryz.ntmps24
  go_wp2_with fail
  refine (HP.out _ (HS.out.keep HB.out) (HT.out.keep HB.out)).mono ?_
  rintro e w1 ⟨v1, rfl, hv1, hb1⟩
  have HV1 := hid hv1
  have HB1 := hid (Pu.further HB.out hb1)
  have HR1 := hid (HR.out.keep hb1)
  clear hv1 hb1
  go_wp2_with (with_reducible refine wpList_store_int rfl (.tmp 4) (.tmp 11) rfl (w.heap.size + 1 + 1) v1 _ rfl rfl HV1.out HR1.out ?_)
  exact ret_int_cell rfl rfl HR1.out HV1.out HB1.out (by omega)

theorem mk_mul (x y : Int) : mk (decide (x < 0) != decide (y < 0)) (x.natAbs * y.natAbs) = x * y := by
  rw [← Int.natAbs_mul]
  have key : ∀ z : Int, mk (decide (z < 0)) z.natAbs = z := mk_self
  rcases Int.lt_trichotomy x 0 with hx | rfl | hx
  · rcases Int.lt_trichotomy y 0 with hy | rfl | hy
    · have := Int.mul_pos_of_neg_of_neg hx hy
      have e : (decide (x < 0) != decide (y < 0)) = decide (x * y < 0) := by simp [hx, hy]; omega
      rw [e, key]
    · simp [mk]
    · have := Int.mul_neg_of_neg_of_pos hx hy
      have e : (decide (x < 0) != decide (y < 0)) = decide (x * y < 0) := by simp [hx, show ¬ y < 0 by omega]; omega
      rw [e, key]
  · simp [mk]
  · rcases Int.lt_trichotomy y 0 with hy | rfl | hy
    · have := Int.mul_neg_of_pos_of_neg hx hy
      have e : (decide (x < 0) != decide (y < 0)) = decide (x * y < 0) := by simp [hy, show ¬ x < 0 by omega]; omega
      rw [e, key]
    · simp [mk]
    · have := Int.mul_pos hx hy
      have e : (decide (x < 0) != decide (y < 0)) = decide (x * y < 0) := by simp [show ¬ x < 0 by omega, show ¬ y < 0 by omega]; omega
      rw [e, key]

set_option maxHeartbeats 1000000 in
theorem Mul_any (vx vy : Value) (x y : Int) (w : World) (hx : IntAt w vx x) (hy : IntAt w vy y) (hl1 : len x ≤ 1099511627776) (hl2 : len y ≤ 1099511627776) :
    Calls Tryz.prog 25 #[vx, vy] w (RetInt w (x * y)) := by
  obtain ⟨s, rfl, hs⟩ := hx
  obtain ⟨t, rfl, ht⟩ := hy
  have HM := hid (times_any s t _ _ · · · (dig_Dig x.natAbs) (dig_Dig y.natAbs) hl1 hl2)
  rw [val_dig, val_dig] at HM
  rw [← mk_mul]
  generalize decide (x < 0) = bx at *
  generalize decide (y < 0) = by' at *
  have HS := hid hs
  have HT := hid ht
  have HB := hid (below3 w (Obj.cells #[Value.bool bx, s] 24) (Obj.cells #[Value.bool by', t] 24) (Obj.cells #[Value.bool false, Value.slice none 0 0] 24))
  have HR := hid (ResAt.at (W := (w.alloc (Obj.cells #[Value.bool bx, s] 24)).alloc (Obj.cells #[Value.bool by', t] 24)) (g := w.heap.size + 1 + 1) (by simp))
  have HX := hid (first3 w (Obj.cells #[Value.bool bx, s] 24) (Obj.cells #[Value.bool by', t] 24) (Obj.cells #[Value.bool false, Value.slice none 0 0] 24))
  have HY := hid (second3 w (Obj.cells #[Value.bool bx, s] 24) (Obj.cells #[Value.bool by', t] 24) (Obj.cells #[Value.bool false, Value.slice none 0 0] 24))
  clear hs ht
  go_enter Tryz.func25, Tryz.ntmps25
  go_upto_region 1 with fail
  rename_i hret
  refine Pu.wp_region_pure 11 (Slots [(5, .eq (.pointer (some ⟨w.heap.size, 0, none⟩))), (6, .eq (.bool bx)), (7, .eq (.pointer (some ⟨w.heap.size + 1, 0, none⟩))), (8, .eq (.bool by')), (9, .eq (.bool (bx != by'))), (10, .eq (.pointer (some ⟨w.heap.size, 1, none⟩))), (11, .eq (s)), (12, .eq (.pointer (some ⟨w.heap.size + 1, 1, none⟩))), (13, .eq (t)), (14, .nums (dig (x.natAbs * y.natAbs))), (15, .int (mk (bx != by') (x.natAbs * y.natAbs)))]) (by kernel_rfl) (by kernel_rfl) (by kernel_rfl) (fun hfn => by kernel_rfl) (Slots.keep _) ?_ ?_ ?_
  · intro L a w2 i o ho hne2 hL hdep hI
    have hi : i < 12 := (Array.getElem?_eq_some_iff.1 ho).1
    rcases (show i = 0 ∨ i = 1 ∨ i = 2 ∨ i = 3 ∨ i = 4 ∨ i = 5 ∨ i = 6 ∨ i = 7 ∨ i = 8 ∨ i = 9 ∨ i = 10 by omega) with rfl | rfl | rfl | rfl | rfl | rfl | rfl | rfl | rfl | rfl | rfl
    · cases (Option.some.inj (show some _ = some o from ho))
      have h2 : a.tmps.getD 2 undef = .pointer (some ⟨w.heap.size, 0, none⟩) := hI.free (t := 2) (by kernel_rfl)
      refine pstep rfl fun K hK => ?_
      clear hdep hI ho hi
      go_simp
      exact hK _ _ (Below.refl _ _) (fun d hd => by cases hd; rfl)
    · cases (Option.some.inj (show some _ = some o from ho))
      have h5 : a.tmps.getD 5 undef = .pointer (some ⟨w.heap.size, 0, none⟩) := hI.slot (i := 0) (d := 5) (hdep ⟨0, .data⟩ (by simp) (by rfl)) rfl
      have hc2 := (cell2 (heapKeep hI.below HX.out)).1
      refine pstep rfl fun K hK => ?_
      clear hdep hI ho hi
      go_simp
      exact hK _ _ (Below.refl _ _) (fun d hd => by cases hd; rfl)
    · cases (Option.some.inj (show some _ = some o from ho))
      have h3 : a.tmps.getD 3 undef = .pointer (some ⟨w.heap.size + 1, 0, none⟩) := hI.free (t := 3) (by kernel_rfl)
      refine pstep rfl fun K hK => ?_
      clear hdep hI ho hi
      go_simp
      exact hK _ _ (Below.refl _ _) (fun d hd => by cases hd; rfl)
    · cases (Option.some.inj (show some _ = some o from ho))
      have h7 : a.tmps.getD 7 undef = .pointer (some ⟨w.heap.size + 1, 0, none⟩) := hI.slot (i := 2) (d := 7) (hdep ⟨2, .data⟩ (by simp) (by rfl)) rfl
      have hc2 := (cell2 (heapKeep hI.below HY.out)).1
      refine pstep rfl fun K hK => ?_
      clear hdep hI ho hi
      go_simp
      exact hK _ _ (Below.refl _ _) (fun d hd => by cases hd; rfl)
    · cases (Option.some.inj (show some _ = some o from ho))
      have h6 : a.tmps.getD 6 undef = .bool bx := hI.slot (i := 1) (d := 6) (hdep ⟨1, .data⟩ (by simp) (by rfl)) rfl
      have h8 : a.tmps.getD 8 undef = .bool by' := hI.slot (i := 3) (d := 8) (hdep ⟨3, .data⟩ (by simp) (by rfl)) rfl
      refine pstep rfl fun K hK => ?_
      clear hdep hI ho hi
      go_simp
      exact hK _ _ (Below.refl _ _) (fun d hd => by cases hd; rfl)
    · cases (Option.some.inj (show some _ = some o from ho))
      have h2 : a.tmps.getD 2 undef = .pointer (some ⟨w.heap.size, 0, none⟩) := hI.free (t := 2) (by kernel_rfl)
      refine pstep rfl fun K hK => ?_
      clear hdep hI ho hi
      go_simp
      exact hK _ _ (Below.refl _ _) (fun d hd => by cases hd; rfl)
    · cases (Option.some.inj (show some _ = some o from ho))
      have h10 : a.tmps.getD 10 undef = .pointer (some ⟨w.heap.size, 1, none⟩) := hI.slot (i := 5) (d := 10) (hdep ⟨5, .data⟩ (by simp) (by rfl)) rfl
      have hc2 := (cell2 (heapKeep hI.below HX.out)).2.1
      refine pstep rfl fun K hK => ?_
      clear hdep hI ho hi
      go_simp
      exact hK _ _ (Below.refl _ _) (fun d hd => by cases hd; rfl)
    · cases (Option.some.inj (show some _ = some o from ho))
      have h3 : a.tmps.getD 3 undef = .pointer (some ⟨w.heap.size + 1, 0, none⟩) := hI.free (t := 3) (by kernel_rfl)
      refine pstep rfl fun K hK => ?_
      clear hdep hI ho hi
      go_simp
      exact hK _ _ (Below.refl _ _) (fun d hd => by cases hd; rfl)
    · cases (Option.some.inj (show some _ = some o from ho))
      have h12 : a.tmps.getD 12 undef = .pointer (some ⟨w.heap.size + 1, 1, none⟩) := hI.slot (i := 7) (d := 12) (hdep ⟨7, .data⟩ (by simp) (by rfl)) rfl
      have hc2 := (cell2 (heapKeep hI.below HY.out)).2.1
      refine pstep rfl fun K hK => ?_
      clear hdep hI ho hi
      go_simp
      exact hK _ _ (Below.refl _ _) (fun d hd => by cases hd; rfl)
    · cases (Option.some.inj (show some _ = some o from ho))
      have h11 : a.tmps.getD 11 undef = s := hI.slot (i := 6) (d := 11) (hdep ⟨6, .data⟩ (by simp) (by rfl)) rfl
      have h13 : a.tmps.getD 13 undef = t := hI.slot (i := 8) (d := 13) (hdep ⟨8, .data⟩ (by simp) (by rfl)) rfl
      have hbw := Pu.further HB.out hI.below
      refine pstep rfl fun K hK => ?_
      clear hdep hI ho hi
      go_simp
      refine (HM.out _ (HS.out.keep hbw) (HT.out.keep hbw)).mono ?_
      rintro e w3 ⟨v3, rfl, hn3, hb3⟩
      exact hK _ _ hb3 (fun d hd => by cases hd; exact hn3)
    · cases (Option.some.inj (show some _ = some o from ho))
      have h9 : a.tmps.getD 9 undef = .bool (bx != by') := hI.slot (i := 4) (d := 9) (hdep ⟨4, .data⟩ (by simp) (by rfl)) rfl
      have h14 : Nums w2 (a.tmps.getD 14 undef) (dig (x.natAbs * y.natAbs)) := hI.slot (i := 9) (d := 14) (hdep ⟨9, .data⟩ (by simp) (by rfl)) rfl
      obtain ⟨x14, e14⟩ : ∃ x, a.tmps.getD 14 undef = x := ⟨_, rfl⟩
      rw [e14] at h14
      refine pstep rfl fun K hK => ?_
      clear hdep hI ho hi
      go_simp
      refine (signed_any (bx != by') x14 _ _ h14 (dig_Dig _)).mono ?_
      rintro e w3 ⟨v3, rfl, hn3, hb3⟩
      rw [val_dig] at hn3
      exact hK _ _ hb3 (fun d hd => by cases hd; exact hn3)
  · intro L a w2 o ho hL hoth hI
    cases (Option.some.inj (show some _ = some o from ho))
    have h4 : a.tmps.getD 4 undef = .pointer (some ⟨w.heap.size + 1 + 1, 0, none⟩) := hI.free (t := 4) (by kernel_rfl)
    have h15 : IntAt w2 (a.tmps.getD 15 undef) (mk (bx != by') (x.natAbs * y.natAbs)) := hI.slot (i := 10) (d := 15) (hoth 10 (by decide) (by decide)) rfl
    obtain ⟨x15, e15⟩ : ∃ x, a.tmps.getD 15 undef = x := ⟨_, rfl⟩
    rw [e15] at h15
    refine ⟨rfl, ?_⟩
    refine wp_store_int (.tmp 4) (.tmp 15) rfl (w.heap.size + 1 + 1) x15 _ h4 e15 h15 (HR.out.keep hI.below) ?_
    refine hret _ _ (wp_ret ?_)
    exact ret_int_act rfl hI.defers h4 (HR.out.keep hI.below) h15 (Pu.further HB.out hI.below) (by omega)
  · intro hfn
    exact absurd hfn (by decide)

theorem cmp_neg (x y : Nat) : cmpI (-(x : Int)) (-(y : Int)) = cmpI y x := by
  unfold cmpI
  rcases Nat.lt_trichotomy x y with h | h | h
  · rw [if_neg (by omega), if_pos (by omega), if_neg (by omega), if_pos (by omega)]
  · rw [if_neg (by omega), if_neg (by omega), if_neg (by omega), if_neg (by omega)]
  · rw [if_pos (by omega), if_pos (by omega)]

set_option maxHeartbeats 1000000 in
theorem Compare_any (vx vy : Value) (x y : Int) (w : World) (hx : IntAt w vx x) (hy : IntAt w vy y) :
    Calls Tryz.prog 29 #[vx, vy] w (RetI w (cmpI x y)) := by
  obtain ⟨s, rfl, hs⟩ := hx
  obtain ⟨t, rfl, ht⟩ := hy
  have HS := hid hs
  have HT := hid ht
  have HB : Hid (∀ bx by' : Bool, Below w.heap.size w ((w.alloc (Obj.cells #[Value.bool bx, s] 24)).alloc (Obj.cells #[Value.bool by', t] 24))) := hid fun _ _ => below2 w _ _
  clear hs ht
  rcases Int.lt_or_le x 0 with h | h
  · have hd : decide (x < 0) = true := by simp [h]
    rw [hd]
    rcases Int.lt_or_le y 0 with k | k
    · have kd : decide (y < 0) = true := by simp [k]
      rw [kd]
      have e : cmpI x y = cmpI y.natAbs x.natAbs := by
        rw [← cmp_neg]; congr 1 <;> omega
      rw [e]
      have HC := hid (compare_any t s y.natAbs x.natAbs · · ·)
      clear h k hd kd e
      go_enter Tryz.func29, Tryz.ntmps29
      go_wp2_with fail
      refine (HC.out _ (HT.out.keep (HB.out _ _)) (HS.out.keep (HB.out _ _))).mono ?_
      rintro e w1 ⟨rfl, hb1⟩
      have HB1 := hid (Pu.further (HB.out _ _) hb1)
      clear hb1
      go_wp2
      go_ret
      exact ⟨rfl, HB1.out⟩
    · have kd : decide (y < 0) = false := by simp [k]
      rw [kd]
      have e : (-1 : Int) = cmpI x y := by unfold cmpI; rw [if_pos (by omega)]
      rw [← e]
      clear h k hd kd e
      go_enter Tryz.func29, Tryz.ntmps29
      go_wp2
      go_ret
      exact ⟨rfl, HB.out _ _⟩
  · have hd : decide (x < 0) = false := by simp [h]
    rw [hd]
    rcases Int.lt_or_le y 0 with k | k
    · have kd : decide (y < 0) = true := by simp [k]
      rw [kd]
      have e : (1 : Int) = cmpI x y := by unfold cmpI; rw [if_neg (by omega), if_pos (by omega)]
      rw [← e]
      clear h k hd kd e
      go_enter Tryz.func29, Tryz.ntmps29
      go_wp2
      go_ret
      exact ⟨rfl, HB.out _ _⟩
    · have kd : decide (y < 0) = false := by simp [k]
      rw [kd]
      have e : cmpI x y = cmpI x.natAbs y.natAbs := by congr 1 <;> omega
      rw [e]
      have HC := hid (compare_any s t x.natAbs y.natAbs · · ·)
      clear h k hd kd e
      go_enter Tryz.func29, Tryz.ntmps29
      go_wp2_with fail
      refine (HC.out _ (HS.out.keep (HB.out _ _)) (HT.out.keep (HB.out _ _))).mono ?_
      rintro e w1 ⟨rfl, hb1⟩
      have HB1 := hid (Pu.further (HB.out _ _) hb1)
      clear hb1
      go_wp2
      go_ret
      exact ⟨rfl, HB1.out⟩

theorem int_zero (w : World) : IntAt w (.agg #[.bool false, .slice none 0 0]) 0 := ⟨_, rfl, Nums.nil (by decide)⟩

set_option maxHeartbeats 1000000 in
theorem Sign_any (vx : Value) (x : Int) (w : World) (hx : IntAt w vx x) :
    Calls Tryz.prog 31 #[vx] w (RetI w (cmpI x 0)) := by
  have hx1 := hx
  obtain ⟨s, rfl, _⟩ := hx1
  have HS := hid hx
  have HC := hid (Compare_any (.agg #[.bool (decide (x < 0)), s]) (.agg #[.bool false, .slice none 0 0]) x 0 · · ·)
  generalize decide (x < 0) = bx at *
  have HB := hid (show Below w.heap.size w (w.alloc (Obj.cells #[Value.bool bx, s] 24)) from (Below.refl _ _).alloc (Nat.le_refl _) _)
  clear hx
  go_enter Tryz.func31, Tryz.ntmps31
  go_wp2_with fail
  refine (HC.out _ (HS.out.keep HB.out) (int_zero _)).mono ?_
  rintro e w1 ⟨rfl, hb1⟩
  have HB1 := hid (Pu.further HB.out hb1)
  clear hb1
  go_wp2
  go_ret
  exact ⟨rfl, HB1.out⟩

end Zn
end Go.Proofs.YtelfpefcjchjbaaGreatDoor
