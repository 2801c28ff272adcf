/-
  Contracts of gantry/integer: plus, Add, Sub, Mul.
-/
import Derived.Test.YtelfpefcjchjbaaGreatDoorIntG
namespace Go.Proofs.YtelfpefcjchjbaaGreatDoor
open Go.RowKit
open Go.Lib (hid)
open Dg
namespace Zn

theorem mk_sub {z : Int} {neg : Bool} {m : Nat} (hneg : neg ≠ decide (z < 0)) (h : m ≤ z.natAbs) : mk (decide (z < 0)) (z.natAbs - m) = z + mk neg m := by
  unfold mk
  rcases Int.lt_or_le z 0 with h1 | h1
  · simp only [h1, decide_true] at hneg ⊢
    cases neg
    · simp; omega
    · exact absurd rfl hneg
  · simp only [show ¬ z < 0 by omega, decide_false] at hneg ⊢
    cases neg
    · exact absurd rfl hneg
    · simp; omega
theorem mk_sub2 {z : Int} {neg : Bool} {m : Nat} (hneg : neg ≠ decide (z < 0)) (h : z.natAbs < m) : mk neg (m - z.natAbs) = z + mk neg m := by
  unfold mk
  rcases Int.lt_or_le z 0 with h1 | h1
  · simp only [h1, decide_true] at hneg
    cases neg
    · simp; omega
    · exact absurd rfl hneg
  · simp only [show ¬ z < 0 by omega, decide_false] at hneg
    cases neg
    · exact absurd rfl hneg
    · simp; omega

set_option maxHeartbeats 1000000 in
theorem plus_big (v : Value) (z : Int) (neg : Bool) (d : Value) (m : Nat) (w : World) (hv : IntAt w v z) (hd : Nums w d (dig m)) (hneg : neg ≠ decide (z < 0)) (hlt : m ≤ z.natAbs) (hl1 : (dig z.natAbs).length ≤ 1099511627776) (hl2 : (dig m).length ≤ 1099511627776) :
    Calls Tryz.prog 60 #[v, .bool neg, d] w (RetInt w (z + mk neg m)) := by
  obtain ⟨s, rfl, hs⟩ := hv
  have hne : (decide (z < 0) == neg) = false := by cases neg <;> simp_all
  have hc : decide (cmpI z.natAbs m < 0) = false := by unfold cmpI; rw [if_neg (by omega)]; split <;> rfl
  have HC := hid (compare_any s d z.natAbs m · · ·)
  have hval : ((z.natAbs - m : Nat) : Int) = 1 * (val (dig z.natAbs) : Int) + (-1) * (val (dig m) : Int) := by rw [val_dig, val_dig]; omega
  have hlt2 : z.natAbs - m < 1000000000 ^ (max (dig z.natAbs).length (dig m).length + 1) := dig_length_le.1 (Nat.le_trans (dig_length_mono (Nat.le_add_right (z.natAbs - m) (m + m))) (by have := length_add z.natAbs m; rw [show z.natAbs - m + (m + m) = z.natAbs + m by omega]; exact this))
  have HX := hid (combine_any 1 (-1) s d _ _ _ · · · (dig_Dig z.natAbs) (dig_Dig m) (by decide) (by decide) (by decide) (by decide) hval hlt2 hl1 hl2)
  rw [← mk_sub hneg hlt]
  clear hval hlt2
  generalize decide (z < 0) = b at *
  have HS := hid hs
  have HD := hid hd
  clear hs hd
  have HB0 := hid (show Below w.heap.size w ((w.alloc (Obj.cells #[Value.bool b, s] 24)).alloc (Obj.cells #[Value.bool false, Value.slice none 0 0] 24)) from ((Below.refl _ _).alloc (Nat.le_refl _) _).alloc (by simp) _)
  have HQ0 := hid (show ((w.alloc (Obj.cells #[Value.bool b, s] 24)).alloc (Obj.cells #[Value.bool false, Value.slice none 0 0] 24)).heap[w.heap.size]? = some (.cells #[.bool b, s] 24 (0, 0)) from heapKeep ((Below.refl _ _).alloc (Nat.le_refl _) _) (heap_alloc_new w _))
  have HR0 := hid (show ResAt ((w.alloc (Obj.cells #[Value.bool b, s] 24)).alloc (Obj.cells #[Value.bool false, Value.slice none 0 0] 24)) (w.heap.size + 1) by
    have h := ResAt.new (w.alloc (Obj.cells #[Value.bool b, s] 24)) false none 0 0
    rwa [show (w.alloc (Obj.cells #[Value.bool b, s] 24)).heap.size = w.heap.size + 1 by simp] at h)
  go_enter Tryz.func60, Tryz.ntmps60
  go_upto_region 5 with ((go_at_call 62; refine (HC.out _ (HS.out.keep HB0.out) (HD.out.keep HB0.out)).mono ?_; rintro e w1 ⟨rfl, hb1⟩))
  have HB1 := hid (Pu.further HB0.out hb1)
  have HQ1 := hid (heapKeep hb1 HQ0.out)
  have HR1 := hid (HR0.out.keep hb1)
  clear hb1
  rename_i hret
  refine Pu.wp_region_pure 7 (Slots [(28, .eq (.pointer (some ⟨w.heap.size, 0, none⟩))), (29, .eq (.bool b)), (30, .eq (.pointer (some ⟨w.heap.size, 1, none⟩))), (31, .eq (s)), (32, .eq (d)), (33, .nums (dig (z.natAbs - m))), (34, .int (mk b (z.natAbs - m)))]) (by kernel_rfl) (by kernel_rfl) (by kernel_rfl) (fun hfn => by kernel_rfl) (Slots.keep _) ?_ ?_ ?_
  · intro L a w2 i o ho hne2 hL hdep hI
    have hi : i < 8 := (Array.getElem?_eq_some_iff.1 ho).1
    rcases (show i = 0 ∨ i = 1 ∨ i = 2 ∨ i = 3 ∨ i = 4 ∨ i = 5 ∨ i = 6 by omega) with rfl | rfl | rfl | rfl | rfl | rfl | rfl
    · cases (Option.some.inj (show some _ = some o from ho))
      have h3 : a.tmps.getD 3 undef = .pointer (some ⟨w.heap.size, 0, none⟩) := hI.free (t := 3) (by kernel_rfl)
      refine pstep rfl fun K hK => ?_
      clear hdep hI ho hi
      go_simp
      exact hK _ _ (Below.refl _ _) (fun d hd => by cases hd; rfl)
    · cases (Option.some.inj (show some _ = some o from ho))
      have h28 : a.tmps.getD 28 undef = .pointer (some ⟨w.heap.size, 0, none⟩) := hI.slot (i := 0) (d := 28) (hdep ⟨0, .data⟩ (by simp) (by rfl)) rfl
      have hc2 := (cell2 (heapKeep hI.below HQ1.out)).1
      refine pstep rfl fun K hK => ?_
      clear hdep hI ho hi
      go_simp
      exact hK _ _ (Below.refl _ _) (fun d hd => by cases hd; rfl)
    · cases (Option.some.inj (show some _ = some o from ho))
      have h3 : a.tmps.getD 3 undef = .pointer (some ⟨w.heap.size, 0, none⟩) := hI.free (t := 3) (by kernel_rfl)
      refine pstep rfl fun K hK => ?_
      clear hdep hI ho hi
      go_simp
      exact hK _ _ (Below.refl _ _) (fun d hd => by cases hd; rfl)
    · cases (Option.some.inj (show some _ = some o from ho))
      have h30 : a.tmps.getD 30 undef = .pointer (some ⟨w.heap.size, 1, none⟩) := hI.slot (i := 2) (d := 30) (hdep ⟨2, .data⟩ (by simp) (by rfl)) rfl
      have hc2 := (cell2 (heapKeep hI.below HQ1.out)).2.1
      refine pstep rfl fun K hK => ?_
      clear hdep hI ho hi
      go_simp
      exact hK _ _ (Below.refl _ _) (fun d hd => by cases hd; rfl)
    · cases (Option.some.inj (show some _ = some o from ho))
      have h2 : a.tmps.getD 2 undef = d := hI.free (t := 2) (by kernel_rfl)
      refine pstep rfl fun K hK => ?_
      clear hdep hI ho hi
      go_simp
      exact hK _ _ (Below.refl _ _) (fun d hd => by cases hd; rfl)
    · cases (Option.some.inj (show some _ = some o from ho))
      have h31 : a.tmps.getD 31 undef = s := hI.slot (i := 3) (d := 31) (hdep ⟨3, .data⟩ (by simp) (by rfl)) rfl
      have h32 : a.tmps.getD 32 undef = d := hI.slot (i := 4) (d := 32) (hdep ⟨4, .data⟩ (by simp) (by rfl)) rfl
      have hbw := Pu.further HB1.out hI.below
      refine pstep rfl fun K hK => ?_
      clear hdep hI ho hi
      go_simp
      refine (HX.out _ (HS.out.keep hbw) (HD.out.keep hbw)).mono ?_
      rintro e w3 ⟨v3, rfl, hn3, hb3⟩
      exact hK _ _ hb3 (fun d hd => by cases hd; exact hn3)
    · cases (Option.some.inj (show some _ = some o from ho))
      have h29 : a.tmps.getD 29 undef = .bool b := hI.slot (i := 1) (d := 29) (hdep ⟨1, .data⟩ (by simp) (by rfl)) rfl
      have h33 : Nums w2 (a.tmps.getD 33 undef) (dig (z.natAbs - m)) := hI.slot (i := 5) (d := 33) (hdep ⟨5, .data⟩ (by simp) (by rfl)) rfl
      obtain ⟨x33, e33⟩ : ∃ x, a.tmps.getD 33 undef = x := ⟨_, rfl⟩
      rw [e33] at h33
      refine pstep rfl fun K hK => ?_
      clear hdep hI ho hi
      go_simp
      refine (signed_any b x33 _ _ h33 (dig_Dig _)).mono ?_
      rintro e w3 ⟨v3, rfl, hn3, hb3⟩
      rw [val_dig] at hn3
      exact hK _ _ hb3 (fun d hd => by cases hd; exact hn3)
  · intro L a w2 o ho hL hoth hI
    cases (Option.some.inj (show some _ = some o from ho))
    have h6 : a.tmps.getD 6 undef = .pointer (some ⟨w.heap.size + 1, 0, none⟩) := hI.free (t := 6) (by kernel_rfl)
    have h34 : IntAt w2 (a.tmps.getD 34 undef) (mk b (z.natAbs - m)) := hI.slot (i := 6) (d := 34) (hoth 6 (by decide) (by decide)) rfl
    obtain ⟨x34, e34⟩ : ∃ x, a.tmps.getD 34 undef = x := ⟨_, rfl⟩
    rw [e34] at h34
    refine ⟨rfl, ?_⟩
    refine wp_store_int (.tmp 6) (.tmp 34) rfl (w.heap.size + 1) x34 _ h6 e34 h34 (HR1.out.keep hI.below) ?_
    refine hret _ _ (wp_ret ?_)
    exact ret_int_act rfl hI.defers h6 (HR1.out.keep hI.below) h34 (Pu.further HB1.out hI.below) (by omega)
  · intro hfn
    exact absurd hfn (by decide)

set_option maxHeartbeats 1000000 in
theorem plus_small (v : Value) (z : Int) (neg : Bool) (d : Value) (m : Nat) (w : World) (hv : IntAt w v z) (hd : Nums w d (dig m)) (hneg : neg ≠ decide (z < 0)) (hlt : z.natAbs < m) (hl1 : (dig z.natAbs).length ≤ 1099511627776) (hl2 : (dig m).length ≤ 1099511627776) :
    Calls Tryz.prog 60 #[v, .bool neg, d] w (RetInt w (z + mk neg m)) := by
  obtain ⟨s, rfl, hs⟩ := hv
  have hne : (decide (z < 0) == neg) = false := by cases neg <;> simp_all
  have hc : cmpI z.natAbs m = -1 := by unfold cmpI; rw [if_pos (by omega)]
  have HC := hid (compare_any s d z.natAbs m · · ·)
  rw [hc] at HC
  have hval : ((m - z.natAbs : Nat) : Int) = 1 * (val (dig m) : Int) + (-1) * (val (dig z.natAbs) : Int) := by rw [val_dig, val_dig]; omega
  have hlt2 : m - z.natAbs < 1000000000 ^ (max (dig m).length (dig z.natAbs).length + 1) := dig_length_le.1 (Nat.le_trans (dig_length_mono (Nat.le_add_right (m - z.natAbs) (z.natAbs + z.natAbs))) (by have := length_add m z.natAbs; rw [show m - z.natAbs + (z.natAbs + z.natAbs) = m + z.natAbs by omega]; exact this))
  have HX := hid (combine_any 1 (-1) d s _ _ _ · · · (dig_Dig m) (dig_Dig z.natAbs) (by decide) (by decide) (by decide) (by decide) hval hlt2 hl2 hl1)
  rw [← mk_sub2 hneg hlt]
  clear hval hlt2 hc
  generalize decide (z < 0) = b at *
  have HS := hid hs
  have HD := hid hd
  clear hs hd
  have HB0 := hid (show Below w.heap.size w ((w.alloc (Obj.cells #[Value.bool b, s] 24)).alloc (Obj.cells #[Value.bool false, Value.slice none 0 0] 24)) from ((Below.refl _ _).alloc (Nat.le_refl _) _).alloc (by simp) _)
  have HQ0 := hid (show ((w.alloc (Obj.cells #[Value.bool b, s] 24)).alloc (Obj.cells #[Value.bool false, Value.slice none 0 0] 24)).heap[w.heap.size]? = some (.cells #[.bool b, s] 24 (0, 0)) from heapKeep ((Below.refl _ _).alloc (Nat.le_refl _) _) (heap_alloc_new w _))
  have HR0 := hid (show ResAt ((w.alloc (Obj.cells #[Value.bool b, s] 24)).alloc (Obj.cells #[Value.bool false, Value.slice none 0 0] 24)) (w.heap.size + 1) by
    have h := ResAt.new (w.alloc (Obj.cells #[Value.bool b, s] 24)) false none 0 0
    rwa [show (w.alloc (Obj.cells #[Value.bool b, s] 24)).heap.size = w.heap.size + 1 by simp] at h)
  go_enter Tryz.func60, Tryz.ntmps60
  go_wp2_with fail
  refine (HC.out _ (HS.out.keep HB0.out) (HD.out.keep HB0.out)).mono ?_
  rintro e w1 ⟨rfl, hb1⟩
  have HB1 := hid (Pu.further HB0.out hb1)
  have hc2 := (cell2 (heapKeep hb1 HQ0.out)).2.1
  have HR1 := hid (HR0.out.keep hb1)
  clear hb1
  go_wp2_with fail
  refine (HX.out _ (HD.out.keep HB1.out) (HS.out.keep HB1.out)).mono ?_
  rintro e w2 ⟨v2, rfl, hn2, hb2⟩
  have HN2 := hid hn2
  have HB2 := hid (Pu.further HB1.out hb2)
  have HR2 := hid (HR1.out.keep hb2)
  clear hn2 hb2
  go_wp2_with fail
  refine (signed_any neg v2 _ _ HN2.out (dig_Dig _)).mono ?_
  rintro e w3 ⟨v3, rfl, hv3, hb3⟩
  rw [val_dig] at hv3
  have HV3 := hid hv3
  have HB3 := hid (Pu.further HB2.out hb3)
  have HR3 := hid (HR2.out.keep hb3)
  clear hv3 hb3
  go_wp2_with (with_reducible refine wpList_store_int rfl (.tmp 6) (.tmp 27) rfl (w.heap.size + 1) v3 _ rfl rfl HV3.out HR3.out ?_)
  exact ret_int_cell rfl rfl HR3.out HV3.out HB3.out (by omega)

theorem plus_any (v : Value) (z : Int) (neg : Bool) (d : Value) (m : Nat) (w : World) (hv : IntAt w v z) (hd : Nums w d (dig m)) (hl1 : (dig z.natAbs).length ≤ 1099511627776) (hl2 : (dig m).length ≤ 1099511627776) :
    Calls Tryz.prog 60 #[v, .bool neg, d] w (RetInt w (z + mk neg m)) := by
  by_cases hn : neg = decide (z < 0)
  · exact plus_same v z neg d m w hv hd hn hl1 hl2
  · rcases Nat.lt_or_ge z.natAbs m with h | h
    · exact plus_small v z neg d m w hv hd hn h hl1 hl2
    · exact plus_big v z neg d m w hv hd hn h hl1 hl2

end Zn
end Go.Proofs.YtelfpefcjchjbaaGreatDoor
