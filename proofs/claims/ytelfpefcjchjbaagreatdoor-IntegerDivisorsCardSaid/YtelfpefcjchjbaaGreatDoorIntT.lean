/-
  Contract of gantry/integer: Div, by that of divide.
-/
import Derived.Test.YtelfpefcjchjbaaGreatDoorIntS
namespace Go.Proofs.YtelfpefcjchjbaaGreatDoor
open Go.RowKit
open Go.Lib (hid)
open Dg
namespace Zn

/-- Behind a function that returns two integers. -/
def RetPair (w : World) (q r : Int) (e : Ending) (w' : World) : Prop := ∃ s t, e = .returned (.tuple #[s, t]) ∧ IntAt w' s q ∧ IntAt w' t r ∧ Below w.heap.size w w'

theorem results_two {fn : Func} {p q : Tmp} (h : fn.results = #[.cell p 24, .cell q 24]) (tmps : Array Value) (w : World) (g1 g2 : Nat) (c1 c2 : Array Value)
    (hp : tmps.getD p undef = .pointer (some ⟨g1, 0, none⟩)) (hq : tmps.getD q undef = .pointer (some ⟨g2, 0, none⟩)) (h1 : w.heap[g1]? = some (.cells c1 24 (0, 0))) (h2 : w.heap[g2]? = some (.cells c2 24 (0, 0))) (l1 : c1.size = 2) (l2 : c2.size = 2) :
    (results fn tmps).run Tryz.prog w = .ok (.tuple #[.agg c1, .agg c2]) w := by
  obtain ⟨d, hd1, hd2⟩ := struct_of Tryz.int_struct
  have hp' : tmps[p]?.getD undef = .pointer (some ⟨g1, 0, none⟩) := by simpa using hp
  have hq' : tmps[q]?.getD undef = .pointer (some ⟨g2, 0, none⟩) := by simpa using hq
  have hr1 := run_loadVar_row (P := Tryz.prog) w g1 24 24 c1 (0, 0) d h1 hd1 (by cases d <;> first | rfl | cases hd2) (by rw [l1]; exact Tryz.int_size)
  have hr2 := run_loadVar_row (P := Tryz.prog) w g2 24 24 c2 (0, 0) d h2 hd1 (by cases d <;> first | rfl | cases hd2) (by rw [l2]; exact Tryz.int_size)
  simp [results, h, hp', hq', asAddr, hr1, hr2]

/-- The end of a function that returns two integers, both of which are stored. -/
theorem ret_pair_cell {fn : Func} {p q : Tmp} (h : fn.results = #[.cell p 24, .cell q 24]) {tmps : Array Value} {w0 w : World} {g1 g2 : Nat} {v1 v2 : Value} {y z : Int} (hp : tmps.getD p undef = .pointer (some ⟨g1, 0, none⟩)) (hq : tmps.getD q undef = .pointer (some ⟨g2, 0, none⟩))
    (hg1 : ResAt w g1) (hg2 : ResAt w g2) (hne : g1 ≠ g2) (hv1 : IntAt w v1 y) (hv2 : IntAt w v2 z) (hb : Below w0.heap.size w0 w) (hB1 : w0.heap.size ≤ g1) (hB2 : w0.heap.size ≤ g2) :
    bodyPost Tryz.prog fn (RetPair w0 y z) .ret ⟨tmps, []⟩ ((w.setRow g1 v1.cells).setRow g2 v2.cells) := by
  have hg2' := ResAt.apart hg2 (Ne.symm hne) v1.cells
  have a1 := (hv1.apart hg1 v1.cells).apart hg2' v2.cells
  have a2 := (hv2.apart hg1 v1.cells).apart hg2' v2.cells
  obtain ⟨b1, so1, n1, sc1, rfl⟩ := hv1.open
  obtain ⟨b2, so2, n2, sc2, rfl⟩ := hv2.open
  have e1 : ((w.setRow g1 (Value.agg #[.bool b1, .slice so1 n1 sc1]).cells).setRow g2 (Value.agg #[.bool b2, .slice so2 n2 sc2]).cells).heap[g1]? = some (.cells #[.bool b1, .slice so1 n1 sc1] 24 (0, 0)) := by
    rw [setRow_other _ g2 g1 _ hne]
    obtain ⟨_, _, _, _, hg⟩ := hg1
    exact setRow_heap _ _ _ _ _ _ hg
  have e2 : ((w.setRow g1 (Value.agg #[.bool b1, .slice so1 n1 sc1]).cells).setRow g2 (Value.agg #[.bool b2, .slice so2 n2 sc2]).cells).heap[g2]? = some (.cells #[.bool b2, .slice so2 n2 sc2] 24 (0, 0)) := by
    obtain ⟨_, _, _, _, hg⟩ := hg2'
    exact setRow_heap _ _ _ _ _ _ hg
  exact bodyPost_ret (results_two h _ _ g1 g2 _ _ hp hq e1 e2 rfl rfl) rfl ⟨_, _, rfl, a1, a2, below_row (below_row hb hB1 _) hB2 _⟩

theorem ediv_nat {x y : Int} (hy : y ≠ 0) (h : 0 ≤ x ∨ x.natAbs % y.natAbs = 0) : mk (decide (x < 0) != decide (y < 0)) (x.natAbs / y.natAbs) = x / y ∧ ((x.natAbs % y.natAbs : Nat) : Int) = x % y := by
  have key : ∀ x y : Int, 0 < y → (0 ≤ x ∨ x.natAbs % y.natAbs = 0) → mk (decide (x < 0)) (x.natAbs / y.natAbs) = x / y ∧ ((x.natAbs % y.natAbs : Nat) : Int) = x % y := by
    intro x y hy h
    obtain ⟨n, rfl⟩ := Int.eq_ofNat_of_zero_le (Int.le_of_lt hy)
    rw [show ((n : Nat) : Int).natAbs = n from rfl] at *
    rcases Int.lt_or_le x 0 with hx | hx
    · obtain ⟨m, rfl⟩ : ∃ m : Nat, x = -(m : Int) := ⟨x.natAbs, by omega⟩
      rw [show (-((m : Nat) : Int)).natAbs = m by omega] at *
      have hm : m % n = 0 := by rcases h with h | h <;> omega
      simp only [hx, decide_true, mk, if_true]
      have hd : (n : Int) ∣ (m : Int) := Int.natCast_dvd_natCast.2 (Nat.dvd_of_mod_eq_zero hm)
      rw [hm, Int.neg_ediv_of_dvd hd, Int.natCast_ediv]
      exact ⟨rfl, (Int.emod_eq_zero_of_dvd ((Int.dvd_neg).2 hd)).symm⟩
    · obtain ⟨m, rfl⟩ := Int.eq_ofNat_of_zero_le hx
      rw [show ((m : Nat) : Int).natAbs = m from rfl]
      simp only [show ¬ ((m : Nat) : Int) < 0 by omega, decide_false, mk, Bool.false_eq_true, if_false]
      exact ⟨by rw [Int.natCast_ediv], by rw [Int.natCast_emod]⟩
  rcases Int.lt_trichotomy y 0 with h1 | h1 | h1
  · obtain ⟨h2, h3⟩ := key x (-y) (by omega) (by rwa [Int.natAbs_neg])
    rw [Int.natAbs_neg] at h2 h3
    rw [Int.ediv_neg] at h2
    rw [Int.emod_neg] at h3
    refine ⟨?_, h3⟩
    have e : (decide (x < 0) != decide (y < 0)) = !decide (x < 0) := by simp [h1]
    rw [e]
    have hm : ∀ (b : Bool) (n : Nat), mk (!b) n = -(mk b n) := by intro b n; cases b <;> simp [mk]
    rw [hm, h2, Int.neg_neg]
  · exact absurd h1 hy
  · have e : (decide (x < 0) != decide (y < 0)) = decide (x < 0) := by simp [show ¬ y < 0 by omega]
    rw [e]
    exact key x y h1 h
theorem ediv_up {x y : Int} (hy : y ≠ 0) (hx : x < 0) (hr : x.natAbs % y.natAbs ≠ 0) : mk (decide (x < 0) != decide (y < 0)) (x.natAbs / y.natAbs + 1) = x / y ∧ ((y.natAbs - x.natAbs % y.natAbs : Nat) : Int) = x % y := by
  have key : ∀ y : Int, 0 < y → x.natAbs % y.natAbs ≠ 0 → mk true (x.natAbs / y.natAbs + 1) = x / y ∧ ((y.natAbs - x.natAbs % y.natAbs : Nat) : Int) = x % y := by
    intro y hy hr
    obtain ⟨n, rfl⟩ := Int.eq_ofNat_of_zero_le (Int.le_of_lt hy)
    rw [show ((n : Nat) : Int).natAbs = n from rfl] at *
    obtain ⟨m, rfl⟩ : ∃ m : Nat, x = -(m : Int) := ⟨x.natAbs, by omega⟩
    rw [show (-((m : Nat) : Int)).natAbs = m by omega] at *
    have hlt := Nat.mod_lt m (show 0 < n by omega)
    have hdm := Nat.div_add_mod m n
    have hu := (@Int.ediv_emod_unique (-(m : Int)) (n : Int) ((n - m % n : Nat) : Int) (-((m / n + 1 : Nat) : Int)) (by omega)).2 ⟨?_, by omega, by omega⟩
    · simp only [mk, if_true]
      exact ⟨hu.1.symm, hu.2.symm⟩
    · rw [Int.mul_neg, ← Int.natCast_mul, Nat.mul_add, Nat.mul_one]
      omega
  rcases Int.lt_trichotomy y 0 with h1 | h1 | h1
  · obtain ⟨h2, h3⟩ := key (-y) (by omega) (by rwa [Int.natAbs_neg])
    rw [Int.natAbs_neg] at h2 h3
    rw [Int.ediv_neg] at h2
    rw [Int.emod_neg] at h3
    refine ⟨?_, h3⟩
    have e : (decide (x < 0) != decide (y < 0)) = false := by simp [h1, hx]
    rw [e]
    simp only [mk, Bool.false_eq_true, if_false]
    simp only [mk, if_true] at h2
    omega
  · exact absurd h1 hy
  · have e : (decide (x < 0) != decide (y < 0)) = true := by simp [show ¬ y < 0 by omega, hx]
    rw [e]
    exact key y h1 hr

theorem one_nums (w : World) : Nums (w.alloc (.cells #[.int .i64 1] 3)) (.slice (some ⟨w.heap.size, 0, none⟩) 1 1) [1] :=
  Nums.mk' rfl (by decide) (by decide) fun i hi => by
    obtain rfl : i = 0 := by omega
    exact cell_of_row _ _ 0 _ _ _ (heap_alloc_new w _)
theorem below4 (w : World) (a b c d : Obj) : Below w.heap.size w ((((w.alloc a).alloc b).alloc c).alloc d) :=
  (below3 w a b c).alloc (by simp; omega) _

set_option maxRecDepth 100000 in
set_option maxHeartbeats 4000000 in
theorem Div_of (vx vy : Value) (x y : Int) (w : World) (hx : IntAt w vx x) (hy : IntAt w vy y) (hy0 : y ≠ 0) (hl1 : len x ≤ 1099511627000) (hl2 : len y ≤ 1099511627000)
    (hdiv : ∀ w va vb, Nums w va (dig x.natAbs) → Nums w vb (dig y.natAbs) → Calls Tryz.prog 63 #[va, vb] w (RetTwo w (x.natAbs / y.natAbs) (x.natAbs % y.natAbs))) :
    Calls Tryz.prog 34 #[vx, vy] w (RetPair w (x / y) (x % y)) := by
  have HXI := hid hx
  have HYI := hid hy
  obtain ⟨s, rfl, hs⟩ := hx
  obtain ⟨t, rfl, ht⟩ := hy
  have HS := hid hs
  have HT := hid ht
  have HDV := hid hdiv
  have hyl : 0 < (dig y.natAbs).length := by
    rcases Nat.eq_zero_or_pos (dig y.natAbs).length with h | h
    · have := dig_eq_nil.1 (List.eq_nil_of_length_eq_zero h); omega
    · exact h
  have hylb : ((((dig y.natAbs).length : Nat) : Int) == 0) = false := by rw [beq_eq_false_iff_ne]; omega
  obtain ⟨ao, ac, rfl, a1, a2, -⟩ := hs
  obtain ⟨bo, bc, rfl, b1, b2, -⟩ := ht
  unfold maxLen at a2 b2
  obtain ⟨W, hW⟩ : ∃ W, W = ((((w.alloc (Obj.cells #[Value.bool (decide (x < 0)), .slice ao (dig x.natAbs).length ac] 24)).alloc (Obj.cells #[Value.bool (decide (y < 0)), .slice bo (dig y.natAbs).length bc] 24)).alloc (Obj.cells #[Value.bool false, Value.slice none 0 0] 24)).alloc (Obj.cells #[Value.bool false, Value.slice none 0 0] 24)) := ⟨_, rfl⟩
  have hlast : ∀ (w3 : World) (o : Obj), Below w3.heap.size w3 (w3.alloc o) := fun w3 o => (Below.refl _ _).alloc (Nat.le_refl _) _
  have hBW : Below w.heap.size w W := by rw [hW]; exact below4 w _ _ _ _
  have hX : W.heap[w.heap.size]? = some (.cells #[Value.bool (decide (x < 0)), .slice ao (dig x.natAbs).length ac] 24 (0, 0)) := by rw [hW]; exact heapKeep (hlast _ _) (first3 w _ _ _)
  have hY : W.heap[w.heap.size + 1]? = some (.cells #[Value.bool (decide (y < 0)), .slice bo (dig y.natAbs).length bc] 24 (0, 0)) := by rw [hW]; exact heapKeep (hlast _ _) (second3 w _ _ _)
  have hR4 : ResAt W (w.heap.size + 1 + 1) := by rw [hW]; exact (ResAt.at (by simp)).keep (hlast _ _)
  have hR5 : ResAt W (w.heap.size + 1 + 1 + 1) := by rw [hW]; exact ResAt.at (by simp)
  have HWW := hid hW
  have HBW := hid hBW
  have HX := hid hX
  have HY := hid hY
  have HR4 := hid hR4
  have HR5 := hid hR5
  obtain ⟨c1, c2, -, -⟩ := cell2 hX
  obtain ⟨d1, d2, -, -⟩ := cell2 hY
  clear hW hBW hX hY hR4 hR5 hlast hdiv
  go_enter Tryz.func34, Tryz.ntmps34
  go_upto_region 1 with fail
  rw [← HWW.out]
  go_wp2_with fail
  refine (Valid_any _ x _ (HXI.out.keep HBW.out)).mono ?_
  rintro e w1 ⟨rfl, hb1⟩
  have HB1 := hid (Pu.further HBW.out hb1)
  have HK1 := hid hb1
  obtain ⟨e1, e2, -, -⟩ := cell2 (heapKeep hb1 HX.out)
  obtain ⟨f1, f2, -, -⟩ := cell2 (heapKeep hb1 HY.out)
  clear hb1 c1 c2 d1 d2
  go_wp2_with fail
  refine (Valid_any _ y _ (HYI.out.keep HB1.out)).mono ?_
  rintro e w2 ⟨rfl, hb2⟩
  have HB2 := hid (Pu.further HB1.out hb2)
  have HK2 := hid (Pu.further HK1.out hb2)
  obtain ⟨c1, c2, -, -⟩ := cell2 (heapKeep HK2.out HX.out)
  obtain ⟨d1, d2, -, -⟩ := cell2 (heapKeep HK2.out HY.out)
  clear hb2 e1 e2 f1 f2
  go_wp2_with fail
  refine (HDV.out _ _ _ (HS.out.keep HB2.out) (HT.out.keep HB2.out)).mono ?_
  rintro e w3 ⟨vq, vr, rfl, hq, hr, hb3⟩
  have HQ := hid hq
  have HRM := hid hr
  obtain ⟨qo, qc, rfl, q1, q2, -⟩ := hq
  obtain ⟨ro, rc, rfl, r1, r2, -⟩ := hr
  unfold maxLen at q2 r2
  have HB3 := hid (Pu.further HB2.out hb3)
  have HK3 := hid (Pu.further HK2.out hb3)
  obtain ⟨e1, e2, -, -⟩ := cell2 (heapKeep HK3.out HX.out)
  obtain ⟨f1, f2, -, -⟩ := cell2 (heapKeep HK3.out HY.out)
  clear hb3 c1 c2 d1 d2
  have hql : (dig (x.natAbs / y.natAbs)).length ≤ 1099511627000 := Nat.le_trans (dig_length_mono (Nat.div_le_self _ _)) hl1
  have hrl : (dig (x.natAbs % y.natAbs)).length ≤ 1099511627000 := Nat.le_trans (dig_length_mono (Nat.mod_le _ _)) hl1
  by_cases hcase : 0 ≤ x ∨ x.natAbs % y.natAbs = 0
  · obtain ⟨p1, p2⟩ := ediv_nat hy0 hcase
    have HP1 := hid p1
    have HP2 := hid p2
    have hgo : decide (x < 0) = false ∨ (decide (x < 0) = true ∧ (dig (x.natAbs % y.natAbs)).length = 0) := by
      rcases Int.lt_or_le x 0 with h | h
      · refine .inr ⟨by simp [h], ?_⟩
        rcases hcase with h2 | h2
        · omega
        · rw [h2]; rfl
      · exact .inl (by simp [h])
    clear p1 p2 hcase
    generalize x.natAbs / y.natAbs = Q at *
    generalize x.natAbs % y.natAbs = R at *
    generalize hbx : decide (x < 0) = bx at *
    generalize hby : decide (y < 0) = by' at *
    clear hbx hby
    rcases hgo with rfl | ⟨rfl, hr0⟩
    · clear hrl
      go_wp2_with fail
      refine (signed_any _ _ _ _ HQ.out (dig_Dig _)).mono ?_
      rintro e w4 ⟨v4, rfl, hv4, hb4⟩
      rw [val_dig] at hv4
      have hv4' : IntAt w4 v4 (x / y) := by rw [← HP1.out]; cases by' <;> exact hv4
      have HV4 := hid hv4'
      have HB4 := hid hb4
      clear hv4 hv4' hb4
      go_wp2_with fail
      refine (signed_any false _ _ _ (HRM.out.keep HB4.out) (dig_Dig _)).mono ?_
      rintro e w5 ⟨v5, rfl, hv5, hb5⟩
      rw [val_dig] at hv5
      have hv5' : IntAt w5 v5 (x % y) := by rw [← HP2.out]; exact hv5
      have HV5 := hid hv5'
      have HV45 := hid (HV4.out.keep hb5)
      have HR45 := hid ((HR4.out.keep HK3.out).keep (Pu.further HB4.out hb5))
      have HR55 := hid ((HR5.out.keep HK3.out).keep (Pu.further HB4.out hb5))
      have HB5 := hid (Pu.further HB3.out (Pu.further HB4.out hb5))
      have HV5b := hid (hv5'.apart HR45.out v4.cells)
      have HR5b := hid (ResAt.apart HR55.out (show w.heap.size + 1 + 1 + 1 ≠ w.heap.size + 1 + 1 by omega) v4.cells)
      clear hv5 hv5' hb5
      go_wp2_with (first | (with_reducible refine wpList_store_int rfl (.tmp 4) (.tmp 52) rfl (w.heap.size + 1 + 1) v4 _ rfl rfl HV45.out HR45.out ?_) | (with_reducible refine wpList_store_int rfl (.tmp 5) (.tmp 54) rfl (w.heap.size + 1 + 1 + 1) v5 _ rfl rfl HV5b.out HR5b.out ?_))
      exact ret_pair_cell rfl rfl rfl HR45.out HR55.out (by omega) HV45.out HV5.out HB5.out (by omega) (by omega)
    · rw [hr0] at r1 ⊢
      have HR0 := hid hr0
      have HRM0 := hid (show Nums w3 (.slice ro 0 rc) (dig R) by rw [← hr0]; exact HRM.out)
      clear hrl hr0
      go_wp2_with fail
      refine (signed_any _ _ _ _ HQ.out (dig_Dig _)).mono ?_
      rintro e w4 ⟨v4, rfl, hv4, hb4⟩
      rw [val_dig] at hv4
      have hv4' : IntAt w4 v4 (x / y) := by rw [← HP1.out]; cases by' <;> exact hv4
      have HV4 := hid hv4'
      have HB4 := hid hb4
      clear hv4 hv4' hb4
      go_wp2_with fail
      refine (signed_any false _ _ _ (HRM0.out.keep HB4.out) (dig_Dig _)).mono ?_
      rintro e w5 ⟨v5, rfl, hv5, hb5⟩
      rw [val_dig] at hv5
      have hv5' : IntAt w5 v5 (x % y) := by rw [← HP2.out]; exact hv5
      have HV5 := hid hv5'
      have HV45 := hid (HV4.out.keep hb5)
      have HR45 := hid ((HR4.out.keep HK3.out).keep (Pu.further HB4.out hb5))
      have HR55 := hid ((HR5.out.keep HK3.out).keep (Pu.further HB4.out hb5))
      have HB5 := hid (Pu.further HB3.out (Pu.further HB4.out hb5))
      have HV5b := hid (hv5'.apart HR45.out v4.cells)
      have HR5b := hid (ResAt.apart HR55.out (show w.heap.size + 1 + 1 + 1 ≠ w.heap.size + 1 + 1 by omega) v4.cells)
      clear hv5 hv5' hb5
      go_wp2_with (first | (with_reducible refine wpList_store_int rfl (.tmp 4) (.tmp 52) rfl (w.heap.size + 1 + 1) v4 _ rfl rfl HV45.out HR45.out ?_) | (with_reducible refine wpList_store_int rfl (.tmp 5) (.tmp 54) rfl (w.heap.size + 1 + 1 + 1) v5 _ rfl rfl HV5b.out HR5b.out ?_))
      exact ret_pair_cell rfl rfl rfl HR45.out HR55.out (by omega) HV45.out HV5.out HB5.out (by omega) (by omega)
  · have hx0 : x < 0 := by omega
    have hr0 : x.natAbs % y.natAbs ≠ 0 := by omega
    obtain ⟨p1, p2⟩ := ediv_up hy0 hx0 hr0
    have HP1 := hid p1
    have HP2 := hid p2
    have hl2' : (dig y.natAbs).length ≤ 1099511627000 := hl2
    have hrn := Nat.mod_lt x.natAbs (show 0 < y.natAbs by omega)
    have hrpos : 0 < (dig (x.natAbs % y.natAbs)).length := by
      rcases Nat.eq_zero_or_pos (dig (x.natAbs % y.natAbs)).length with h | h
      · have := dig_eq_nil.1 (List.eq_nil_of_length_eq_zero h); omega
      · exact h
    have hbx : decide (x < 0) = true := by simp [hx0]
    clear p1 p2 hcase hx0 hr0
    obtain ⟨Q0, hQ0⟩ : ∃ Q, Q = x.natAbs / y.natAbs := ⟨_, rfl⟩
    obtain ⟨R0, hR0⟩ : ∃ R, R = x.natAbs % y.natAbs := ⟨_, rfl⟩
    rw [← hQ0] at hql HQ q1 HP1 ⊢
    rw [← hR0] at hrl HRM r1 hrn hrpos HP2 ⊢
    clear HDV hQ0 hR0
    generalize hby : decide (y < 0) = by' at *
    generalize decide (x < 0) = bx at *
    subst hbx
    clear hby
    have hN1 : ((Q0 + 1 : Nat) : Int) = 1 * (val (dig Q0) : Int) + 1 * (val [1] : Int) := by rw [val_dig]; simp [val]
    have hlt1 : Q0 + 1 < 1000000000 ^ (max (dig Q0).length [1].length + 1) := by
      have h := length_add Q0 1
      rw [dig_small (n := 1) (by decide) (by decide)] at h
      exact dig_length_le.1 h
    have HC1 := hid (combine_any 1 1 (.slice qo (dig Q0).length qc) (.slice (some ⟨w3.heap.size, 0, none⟩) 1 1) (dig Q0) [1] (Q0 + 1) · · · (dig_Dig _) (Dig.cons (by decide) Dig.nil) (by decide) (by decide) (by decide) (by decide) hN1 hlt1 (by omega) (by decide))
    have hN2 : ((y.natAbs - R0 : Nat) : Int) = 1 * (val (dig y.natAbs) : Int) + (-1) * (val (dig R0) : Int) := by rw [val_dig, val_dig]; omega
    have hlt2 : y.natAbs - R0 < 1000000000 ^ (max (dig y.natAbs).length (dig R0).length + 1) :=
      dig_length_le.1 (Nat.le_trans (dig_length_mono (Nat.sub_le _ _)) (by omega))
    have HC2 := hid (combine_any 1 (-1) (.slice bo (dig y.natAbs).length bc) (.slice ro (dig R0).length rc) (dig y.natAbs) (dig R0) (y.natAbs - R0) · · · (dig_Dig _) (dig_Dig _) (by decide) (by decide) (by decide) (by decide) hN2 hlt2 (by omega) (by omega))
    have HON := hid (one_nums w3)
    have HAL := hid (show Below w3.heap.size w3 (w3.alloc (.cells #[.int .i64 1] 3)) from (Below.refl _ _).alloc (Nat.le_refl _) _)
    clear hN1 hlt1 hN2 hlt2
    go_wp2_with fail
    refine (HC1.out _ (HQ.out.keep HAL.out) HON.out).mono ?_
    rintro e wa ⟨vq, rfl, hq, hba⟩
    have HQa := hid hq
    have HBa := hid (Pu.further HB3.out (Pu.further HAL.out hba))
    have HKa := hid (Pu.further HK3.out (Pu.further HAL.out hba))
    have HLa := hid (Pu.further HAL.out hba)
    obtain ⟨c1, c2, -, -⟩ := cell2 (heapKeep HKa.out HX.out)
    obtain ⟨d1, d2, -, -⟩ := cell2 (heapKeep HKa.out HY.out)
    clear hq hba e1 e2 f1 f2
    go_wp2_with fail
    refine (HC2.out _ (HT.out.keep HBa.out) (HRM.out.keep HLa.out)).mono ?_
    rintro e wb ⟨vr, rfl, hr, hbb⟩
    have HRMb := hid hr
    have HQb := hid (HQa.out.keep hbb)
    have HBb := hid (Pu.further HBa.out hbb)
    have HKb := hid (Pu.further HKa.out hbb)
    obtain ⟨e1, e2, -, -⟩ := cell2 (heapKeep HKb.out HX.out)
    obtain ⟨f1, f2, -, -⟩ := cell2 (heapKeep HKb.out HY.out)
    clear hr hbb c1 c2 d1 d2 HRM HQ HC1 HC2 HB3 HK3 HBa HKa HLa HAL HON HQa
    have HRM := HRMb
    have HQ := HQb
    have HB3 := HBb
    have HK3 := HKb
    clear HRMb HQb HBb HKb
    generalize Q0 + 1 = Q at *
    generalize y.natAbs - R0 = R at *
    go_wp2_with fail
    refine (signed_any _ _ _ _ HQ.out (dig_Dig _)).mono ?_
    rintro e w4 ⟨v4, rfl, hv4, hb4⟩
    rw [val_dig] at hv4
    have hv4' : IntAt w4 v4 (x / y) := by rw [← HP1.out]; cases by' <;> exact hv4
    have HV4 := hid hv4'
    have HB4 := hid hb4
    clear hv4 hv4' hb4
    go_wp2_with fail
    refine (signed_any false _ _ _ (HRM.out.keep HB4.out) (dig_Dig _)).mono ?_
    rintro e w5 ⟨v5, rfl, hv5, hb5⟩
    rw [val_dig] at hv5
    have hv5' : IntAt w5 v5 (x % y) := by rw [← HP2.out]; exact hv5
    have HV5 := hid hv5'
    have HV45 := hid (HV4.out.keep hb5)
    have HR45 := hid ((HR4.out.keep HK3.out).keep (Pu.further HB4.out hb5))
    have HR55 := hid ((HR5.out.keep HK3.out).keep (Pu.further HB4.out hb5))
    have HB5 := hid (Pu.further HB3.out (Pu.further HB4.out hb5))
    have HV5b := hid (hv5'.apart HR45.out v4.cells)
    have HR5b := hid (ResAt.apart HR55.out (show w.heap.size + 1 + 1 + 1 ≠ w.heap.size + 1 + 1 by omega) v4.cells)
    clear hv5 hv5' hb5
    go_wp2_with (first | (with_reducible refine wpList_store_int rfl (.tmp 4) (.tmp 52) rfl (w.heap.size + 1 + 1) v4 _ rfl rfl HV45.out HR45.out ?_) | (with_reducible refine wpList_store_int rfl (.tmp 5) (.tmp 54) rfl (w.heap.size + 1 + 1 + 1) v5 _ rfl rfl HV5b.out HR5b.out ?_))
    exact ret_pair_cell rfl rfl rfl HR45.out HR55.out (by omega) HV45.out HV5.out HB5.out (by omega) (by omega)

end Zn
end Go.Proofs.YtelfpefcjchjbaaGreatDoor
