/-
  The walk of IntegerGo.
-/
import Derived.Test.YtelfpefcjchjbaaDoorIntZD
import Derived.Test.YtelfpefcjchjbaaDoorIntZM
import Derived.BigFrame
namespace Go.Proofs.YtelfpefcjchjbaaDoor
open Go.RowKit
open Go.Lib (hid)
open Dg
namespace Zn

theorem len_64 {x : Int} (h1 : -9223372036854775808 ≤ x) (h2 : x ≤ 9223372036854775807) {n : Nat} (hn : 3 ≤ n := by decide) : len x ≤ n := by
  refine Nat.le_trans ((dig_length_le (k := 3)).2 ?_) hn
  rw [show (1000000000 : Nat) ^ 3 = 1000000000000000000000000000 by decide +kernel]
  omega
theorem wpList_load_int_h {ops : Array Oper} {rest : List Oper} {o : Oper} {a : Act} {w : World} {Q : Exit → Act → World → Prop} (hw : Region.wanted o (yielded ops a.tmps) = true) (x : Operand) (ho : o.op = .load 24 x)
    (g : Nat) (v : Value) (z : Int) (hx : a.eval x = .pointer (some ⟨g, 0, none⟩)) (hv : IntAt w v z) (hh : w.heap[g]? = some (.cells v.cells 24 (0, 0)))
    (h : wpList Tryd.prog ops Q rest (a.put o.dst v) w) : wpList Tryd.prog ops Q (o :: rest) a w := by
  obtain ⟨d, hd1, hd2⟩ := struct_of Tryd.int_struct
  obtain ⟨so, n, sc, rfl, _⟩ := hv.form
  exact BigFrame.wpList_want hw fun _ hK => wp_load_row 24 x ho g hx 24 _ (0, 0) d hh hd1 (by cases d <;> first | rfl | cases hd2) Tryd.int_size (hK _ _ h)
theorem wrap_64 {x : Int} (h1 : -9223372036854775808 ≤ x) (h2 : x ≤ 9223372036854775807) : IntKind.i64.wrap x = x := IntWalk.i64_in x ⟨h1, h2⟩
theorem tmod_bd (a : Int) : -2147483648 < a.tmod 2147483648 ∧ a.tmod 2147483648 < 2147483648 := by
  rcases Int.lt_or_le a 0 with h | h
  · obtain ⟨k, rfl⟩ : ∃ k, a = -k := ⟨-a, by omega⟩
    rw [Int.neg_tmod, Int.tmod_eq_emod_of_nonneg (by omega)]
    omega
  · rw [Int.tmod_eq_emod_of_nonneg h]
    omega
theorem mul_32 {m n : Int} (h1 : -2147483648 < m) (h2 : m < 2147483648) (h3 : -2147483648 < n) (h4 : n < 2147483648) : -4611686018427387904 ≤ m * n ∧ m * n ≤ 4611686018427387904 := by
  have h : (m * n).natAbs ≤ 2147483648 * 2147483648 := by
    rw [Int.natAbs_mul]
    exact Nat.mul_le_mul (by omega) (by omega)
  omega

set_option maxRecDepth 100000 in
set_option maxHeartbeats 8000000 in
theorem go_walk (a b k : Int) (w : World) (ha1 : -9223372036854775808 ≤ a) (ha2 : a ≤ 9223372036854775807) (hb1 : -9223372036854775808 ≤ b) (hb2 : b ≤ 9223372036854775807) (hk1 : -9223372036854775808 ≤ k) (hk2 : k ≤ 9223372036854775807) (ht : Tab w) :
    Calls Tryd.prog 4 #[.int .i64 a, .int .i64 b, .int .i64 k] w (RetB w true) := by
  have HB := hid (Below.refl w.heap.size w)
  have HT := hid ht
  clear ht
  have hA := aroundI_bd a 4611686018427387904 (by decide)
  have hK := aroundI_bd k 4611686018427387903 (by decide)
  obtain ⟨U0, hU0⟩ := Int.eq_ofNat_of_zero_le hA.1
  obtain ⟨K0, hK0⟩ := Int.eq_ofNat_of_zero_le hK.1
  have hV1 := aroundI_bd b (1 + (K0 : Int)) (by omega)
  obtain ⟨V0, hV0⟩ := Int.eq_ofNat_of_zero_le hV1.1
  obtain ⟨V, hV⟩ : ∃ V, V = 1 + V0 := ⟨_, rfl⟩
  have hVi : (1 : Int) + (V0 : Int) = (V : Int) := by omega
  have hUb : (U0 : Int) < 4611686018427387904 := by omega
  have hKb : (K0 : Int) < 4611686018427387903 := by omega
  have hVb : (V : Int) ≤ 4611686018427387904 := by omega
  have hV0b : (V0 : Int) < 4611686018427387904 := by omega
  have hVp : (1 : Int) ≤ (V : Int) := by omega
  have HA := hid (show ∀ w, Calls Tryd.prog 14 #[.int .i64 a, .int .i64 4611686018427387904] w fun e w' => e = .returned (.int .i64 (U0 : Int)) ∧ w = w' from fun w => by
    have h := Around_any a 4611686018427387904 w ha1 ha2 (by decide) (by decide)
    rwa [hU0] at h)
  have HK := hid (show ∀ w, Calls Tryd.prog 14 #[.int .i64 k, .int .i64 4611686018427387903] w fun e w' => e = .returned (.int .i64 (K0 : Int)) ∧ w = w' from fun w => by
    have h := Around_any k 4611686018427387903 w hk1 hk2 (by decide) (by decide)
    rwa [hK0] at h)
  have HV := hid (show ∀ w, Calls Tryd.prog 14 #[.int .i64 b, .int .i64 (1 + (K0 : Int))] w fun e w' => e = .returned (.int .i64 (V0 : Int)) ∧ w = w' from fun w => by
    have h := Around_any b (1 + (K0 : Int)) w hb1 hb2 (by omega) (by omega)
    rwa [hV0] at h)
  have hdiv : (U0 : Int) / (V : Int) = ((U0 / V : Nat) : Int) := by rw [Int.natCast_ediv]
  have hmod : (U0 : Int) % (V : Int) = ((U0 % V : Nat) : Int) := by rw [Int.natCast_emod]
  obtain ⟨q, hq⟩ : ∃ q, q = U0 / V := ⟨_, rfl⟩
  obtain ⟨r, hr⟩ : ∃ r, r = U0 % V := ⟨_, rfl⟩
  have hqb : q ≤ U0 := by rw [hq]; exact Nat.div_le_self _ _
  have hrb : r ≤ U0 := by rw [hr]; exact Nat.mod_le _ _
  rw [← hq] at hdiv
  rw [← hr] at hmod
  have HQ := hid hdiv
  have HR := hid hmod
  have hVz : ((V : Int) == 0) = false := by rw [beq_eq_false_iff_ne]; omega
  have HF := hid (And.intro hVi (And.intro hUb (And.intro hKb (And.intro hVb (And.intro hV0b (And.intro hVp (And.intro hqb (And.intro hrb hVz))))))))
  clear hA hK hV1 hU0 hK0 hV0 hV hdiv hmod hq hr hVi hUb hKb hVb hV0b hVp hqb hrb hVz
  obtain ⟨m, hm⟩ : ∃ m, a.tmod 2147483648 = m := ⟨_, rfl⟩
  obtain ⟨n, hn⟩ : ∃ n, b.tmod 2147483648 = n := ⟨_, rfl⟩
  obtain ⟨hm3, hm4⟩ := hm ▸ tmod_bd a
  obtain ⟨hn3, hn4⟩ := hn ▸ tmod_bd b
  obtain ⟨hp1, hp2⟩ := mul_32 hm3 hm4 hn3 hn4
  obtain ⟨P, hP⟩ : ∃ P, m * n = P := ⟨_, rfl⟩
  rw [hP] at hp1 hp2
  have HPQ := hid hP
  have hm1 : -9223372036854775808 ≤ m := by omega
  have hm2 : m ≤ 9223372036854775807 := by omega
  have hn1 : -9223372036854775808 ≤ n := by omega
  have hn2 : n ≤ 9223372036854775807 := by omega
  have hcc : (m < n ∧ cmpI m n = -1) ∨ (¬ m < n ∧ n < m ∧ cmpI m n = 1) ∨ (¬ m < n ∧ ¬ n < m ∧ cmpI m n = 0) := by
    unfold cmpI
    rcases Int.lt_trichotomy m n with h | h | h
    · exact .inl ⟨h, by rw [if_pos h]⟩
    · exact .inr (.inr ⟨by omega, by omega, by rw [if_neg (by omega), if_neg (by omega)]⟩)
    · exact .inr (.inl ⟨by omega, h, by rw [if_neg (by omega), if_pos h]⟩)
  rcases hcc with ⟨hlt, hc⟩ | ⟨hlt, hgt, hc⟩ | ⟨hlt, hgt, hc⟩
  all_goals
    have HCC := hid hc
    clear hc
    go_enter Tryd.func4, Tryd.ntmps4
    go_wp2_with fail
    refine (Of_any m _ hm1 hm2).mono ?_
    rintro e u1 ⟨v1, rfl, hv1, hb⟩
    obtain ⟨b1, so1, n1, sc1, rfl⟩ := hv1.open
    have hal := (show Below u1.heap.size u1 (u1.alloc (Obj.cells #[Value.bool b1, Value.slice so1 n1 sc1] 24)) from (Below.refl _ _).alloc (Nat.le_refl _) _)
    have C9 := hid (IntCell.new hv1)
    replace HB := hid (Pu.further (Pu.further HB.out hb) hal)
    replace HT := hid ((HT.out.keep hb).keep hal)
    clear hal hb hv1
    go_wp2_with fail
    refine (Of_any n _ hn1 hn2).mono ?_
    rintro e u2 ⟨v2, rfl, hv2, hb⟩
    obtain ⟨b2, so2, n2, sc2, rfl⟩ := hv2.open
    have hal := (show Below u2.heap.size u2 (u2.alloc (Obj.cells #[Value.bool b2, Value.slice so2 n2 sc2] 24)) from (Below.refl _ _).alloc (Nat.le_refl _) _)
    have C10 := hid (IntCell.new hv2)
    replace C9 := hid ((C9.out.keep hb).keep hal)
    replace HB := hid (Pu.further (Pu.further HB.out hb) hal)
    replace HT := hid ((HT.out.keep hb).keep hal)
    clear hal hb hv2
    go_upto_region 10 with fail
    generalize u2.alloc (Obj.cells #[Value.bool b2, Value.slice so2 n2 sc2] 24) = U at *
    obtain ⟨vm, hvm, hhm⟩ := C9.out
    have HVm := hid hvm
    have HHm := hid hhm
    clear hvm hhm
    obtain ⟨vn, hvn, hhn⟩ := C10.out
    have HVn := hid hvn
    have HHn := hid hhn
    clear hvn hhn
    go_wp2_with (first | (refine wpList_load_int rfl (.tmp 9) rfl u1.heap.size vm m rfl HVm.out HHm.out ?_) | (refine wpList_load_int rfl (.tmp 10) rfl u2.heap.size vn n rfl HVn.out HHn.out ?_))
    refine (Add_any vm vn m n _ HVm.out HVn.out (len_64 hm1 hm2) (len_64 hn1 hn2)).mono ?_
    rintro e U3 ⟨v3, rfl, hr, hb⟩
    have R := hid hr
    replace C9 := hid (C9.out.keep hb)
    replace C10 := hid (C10.out.keep hb)
    replace HT := hid (HT.out.keep hb)
    replace HB := hid (Pu.further HB.out hb)
    clear hr hb HVm HVn HHm HHn
    go_wp2_with fail
    refine (Of_any (m + n) _ (by omega) (by omega)).mono ?_
    rintro e U31 ⟨v31, rfl, hr, hb⟩
    have R1 := hid hr
    replace C9 := hid (C9.out.keep hb)
    replace C10 := hid (C10.out.keep hb)
    replace HT := hid (HT.out.keep hb)
    replace R := hid (R.out.keep hb)
    replace HB := hid (Pu.further HB.out hb)
    clear hr hb
    go_wp2_with fail
    refine (lawSame_any v3 v31 _ _ _ R.out R1.out).mono ?_
    rintro e U32 ⟨rfl, hb⟩
    replace C9 := hid (C9.out.keep hb)
    replace C10 := hid (C10.out.keep hb)
    replace HT := hid (HT.out.keep hb)
    replace HB := hid (Pu.further HB.out hb)
    rw [decide_eq_true rfl]
    clear hb R R1
    obtain ⟨vm, hvm, hhm⟩ := C9.out
    have HVm := hid hvm
    have HHm := hid hhm
    clear hvm hhm
    obtain ⟨vn, hvn, hhn⟩ := C10.out
    have HVn := hid hvn
    have HHn := hid hhn
    clear hvn hhn
    go_wp2_with (first | (refine wpList_load_int_h rfl (.tmp 9) rfl u1.heap.size vm m rfl HVm.out HHm.out ?_) | (refine wpList_load_int_h rfl (.tmp 10) rfl u2.heap.size vn n rfl HVn.out HHn.out ?_))
    refine (Sub_any vm vn m n _ HVm.out HVn.out (len_64 hm1 hm2) (len_64 hn1 hn2)).mono ?_
    rintro e U4 ⟨v4, rfl, hr, hb⟩
    have R := hid hr
    replace C9 := hid (C9.out.keep hb)
    replace C10 := hid (C10.out.keep hb)
    replace HT := hid (HT.out.keep hb)
    replace HB := hid (Pu.further HB.out hb)
    clear hr hb HVm HVn HHm HHn
    go_wp2_with fail
    refine (Of_any (m - n) _ (by omega) (by omega)).mono ?_
    rintro e U41 ⟨v41, rfl, hr, hb⟩
    have R1 := hid hr
    replace C9 := hid (C9.out.keep hb)
    replace C10 := hid (C10.out.keep hb)
    replace HT := hid (HT.out.keep hb)
    replace R := hid (R.out.keep hb)
    replace HB := hid (Pu.further HB.out hb)
    clear hr hb
    go_wp2_with fail
    refine (lawSame_any v4 v41 _ _ _ R.out R1.out).mono ?_
    rintro e U42 ⟨rfl, hb⟩
    replace C9 := hid (C9.out.keep hb)
    replace C10 := hid (C10.out.keep hb)
    replace HT := hid (HT.out.keep hb)
    replace HB := hid (Pu.further HB.out hb)
    rw [decide_eq_true rfl]
    clear hb R R1
    obtain ⟨vm, hvm, hhm⟩ := C9.out
    have HVm := hid hvm
    have HHm := hid hhm
    clear hvm hhm
    obtain ⟨vn, hvn, hhn⟩ := C10.out
    have HVn := hid hvn
    have HHn := hid hhn
    clear hvn hhn
    go_wp2_with (first | (refine wpList_load_int_h rfl (.tmp 9) rfl u1.heap.size vm m rfl HVm.out HHm.out ?_) | (refine wpList_load_int_h rfl (.tmp 10) rfl u2.heap.size vn n rfl HVn.out HHn.out ?_))
    refine (Mul_any vm vn m n _ HVm.out HVn.out (len_64 hm1 hm2) (len_64 hn1 hn2)).mono ?_
    rintro e U5 ⟨v5, rfl, hr, hb⟩
    rw [HPQ.out] at hr
    have R := hid hr
    replace C9 := hid (C9.out.keep hb)
    replace C10 := hid (C10.out.keep hb)
    replace HT := hid (HT.out.keep hb)
    replace HB := hid (Pu.further HB.out hb)
    clear hr hb HVm HVn HHm HHn
    go_wp2_with fail
    refine (Of_any (P) _ (by omega) (by omega)).mono ?_
    rintro e U51 ⟨v51, rfl, hr, hb⟩
    have R1 := hid hr
    replace C9 := hid (C9.out.keep hb)
    replace C10 := hid (C10.out.keep hb)
    replace HT := hid (HT.out.keep hb)
    replace R := hid (R.out.keep hb)
    replace HB := hid (Pu.further HB.out hb)
    clear hr hb
    go_wp2_with fail
    refine (lawSame_any v5 v51 _ _ _ R.out R1.out).mono ?_
    rintro e U52 ⟨rfl, hb⟩
    replace C9 := hid (C9.out.keep hb)
    replace C10 := hid (C10.out.keep hb)
    replace HT := hid (HT.out.keep hb)
    replace HB := hid (Pu.further HB.out hb)
    rw [decide_eq_true rfl]
    clear hb R R1
    obtain ⟨vm, hvm, hhm⟩ := C9.out
    have HVm := hid hvm
    have HHm := hid hhm
    clear hvm hhm
    obtain ⟨vn, hvn, hhn⟩ := C10.out
    have HVn := hid hvn
    have HHn := hid hhn
    clear hvn hhn
    go_wp2_with (first | (refine wpList_load_int_h rfl (.tmp 9) rfl u1.heap.size vm m rfl HVm.out HHm.out ?_) | (refine wpList_load_int_h rfl (.tmp 10) rfl u2.heap.size vn n rfl HVn.out HHn.out ?_))
    refine (Compare_any vm vn m n _ HVm.out HVn.out).mono ?_
    rintro e U6 ⟨rfl, hb⟩
    replace C9 := hid (C9.out.keep hb)
    replace C10 := hid (C10.out.keep hb)
    replace HT := hid (HT.out.keep hb)
    replace HB := hid (Pu.further HB.out hb)
    rw [HCC.out]
    clear hb HVm HVn HHm HHn
    go_wp2_with fail
    refine (HA.out _).mono ?_
    obtain ⟨hVi, hUb, hKb, hVb, hV0b, hVp, hqb, hrb, hVz⟩ := HF.out
    clear hm hn hP
    rintro e w' ⟨rfl, rfl⟩
    go_wp2_with fail
    refine (HK.out _).mono ?_
    rintro e w' ⟨rfl, rfl⟩
    go_wp2_with fail
    refine (HV.out _).mono ?_
    rintro e w' ⟨rfl, rfl⟩
    go_wp2_with fail
    refine (Of_any (U0 : Int) _ (by omega) (by omega)).mono ?_
    rintro e U7 ⟨v7, rfl, hr, hb⟩
    have R := hid hr
    replace C9 := hid (C9.out.keep hb)
    replace C10 := hid (C10.out.keep hb)
    replace HT := hid (HT.out.keep hb)
    replace HB := hid (Pu.further HB.out hb)
    clear hr hb
    go_wp2_with fail
    refine (Of_any (V : Int) _ (by omega) (by omega)).mono ?_
    rintro e U8 ⟨v8, rfl, hr, hb⟩
    have R1 := hid hr
    replace C9 := hid (C9.out.keep hb)
    replace C10 := hid (C10.out.keep hb)
    replace HT := hid (HT.out.keep hb)
    replace R := hid (R.out.keep hb)
    replace HB := hid (Pu.further HB.out hb)
    clear hr hb
    go_wp2_with fail
    refine (Div_any v7 v8 (U0 : Int) (V : Int) _ R.out R1.out (by omega) (len_64 (by omega) (by omega)) (len_64 (by omega) (by omega))).mono ?_
    rintro e u9 ⟨s3, s4, rfl, h3, h4, hb⟩
    rw [HQ.out] at h3
    rw [HR.out] at h4
    replace HT := hid (HT.out.keep hb)
    replace HB := hid (Pu.further HB.out hb)
    clear hb R R1 C9 C10
    obtain ⟨b3, so3, n3, sc3, rfl⟩ := h3.open
    obtain ⟨b4, so4, n4, sc4, rfl⟩ := h4.open
    have hal := (show Below u9.heap.size u9 (u9.alloc (Obj.cells #[Value.bool b3, Value.slice so3 n3 sc3] 24)) from (Below.refl _ _).alloc (Nat.le_refl _) _)
    have hal2 := (show Below (u9.alloc (Obj.cells #[Value.bool b3, Value.slice so3 n3 sc3] 24)).heap.size (u9.alloc (Obj.cells #[Value.bool b3, Value.slice so3 n3 sc3] 24)) ((u9.alloc (Obj.cells #[Value.bool b3, Value.slice so3 n3 sc3] 24)).alloc (Obj.cells #[Value.bool b4, Value.slice so4 n4 sc4] 24)) from (Below.refl _ _).alloc (Nat.le_refl _) _)
    have C14 := hid ((IntCell.new h3).keep hal2)
    have hp := (IntCell.new (h4.keep hal))
    rw [show (u9.alloc (Obj.cells #[Value.bool b3, Value.slice so3 n3 sc3] 24)).heap.size = u9.heap.size + 1 by simp] at hp
    have C15 := hid hp
    replace HB := hid (Pu.further (Pu.further HB.out hal) hal2)
    replace HT := hid ((HT.out.keep hal).keep hal2)
    clear hal hal2 hp h3 h4
    go_upto_region 15 with fail
    generalize ((u9.alloc (Obj.cells #[Value.bool b3, Value.slice so3 n3 sc3] 24)).alloc (Obj.cells #[Value.bool b4, Value.slice so4 n4 sc4] 24)) = W9 at *
    have hq := HQ.out
    have hr := HR.out
    rename_i hret
    refine Pu.wp_region_pure 18 (Slots [(84, .int (q)), (85, .eq (.int .i64 (U0 : Int))), (86, .eq (.int .i64 (V : Int))), (87, .eq (.int .i64 (q : Int))), (88, .int (q)), (89, .eq (.bool true)), (90, .eq (.bool true)), (91, .int (r)), (92, .eq (.int .i64 (U0 : Int))), (93, .eq (.int .i64 (V : Int))), (94, .eq (.int .i64 (r : Int))), (95, .int (r)), (96, .eq (.bool true)), (97, .eq (.bool true)), (98, .eq (.bool true)), (99, .eq (.bool true)), (100, .eq (.bool true)), (6, .eq (.bool true))]) (by kernel_rfl) (by kernel_rfl) (by kernel_rfl) (fun hfn => absurd hfn (by decide)) (Slots.keep _) ?_ ?_ ?_
    · intro L a w2 i o ho hne2 hL hdep hI
      have hi : i < 18 := (Array.getElem?_eq_some_iff.1 ho).1
      rcases (show i = 0 ∨ i = 1 ∨ i = 2 ∨ i = 3 ∨ i = 4 ∨ i = 5 ∨ i = 6 ∨ i = 7 ∨ i = 8 ∨ i = 9 ∨ i = 10 ∨ i = 11 ∨ i = 12 ∨ i = 13 ∨ i = 14 ∨ i = 15 ∨ i = 16 ∨ i = 17 by omega) with rfl | rfl | rfl | rfl | rfl | rfl | rfl | rfl | rfl | rfl | rfl | rfl | rfl | rfl | rfl | rfl | rfl | rfl
      · cases (Option.some.inj (show some _ = some o from ho))
        have h14 : a.tmps.getD 14 undef = .pointer (some ⟨u9.heap.size, 0, none⟩) := hI.free (t := 14) (by kernel_rfl)
        refine pstep rfl fun K hK => ?_
        refine wp_load_int (.tmp 14) rfl u9.heap.size q h14 (C14.out.keep hI.below) ?_
        intro v hv hh
        exact hK _ _ (Below.refl _ _) (fun d hd => by cases hd; exact hv)
      · cases (Option.some.inj (show some _ = some o from ho))
        have h12 : a.tmps.getD 12 undef = .int .i64 (U0 : Int) := hI.free (t := 12) (by kernel_rfl)
        refine pstep rfl fun K hK => ?_
        clear hdep hI ho hi
        go_simp
        exact hK _ _ (Below.refl _ _) (fun d hd => by cases hd; rfl)
      · cases (Option.some.inj (show some _ = some o from ho))
        have h13 : a.tmps.getD 13 undef = .int .i64 (V : Int) := hI.free (t := 13) (by kernel_rfl)
        refine pstep rfl fun K hK => ?_
        clear hdep hI ho hi
        go_simp
        exact hK _ _ (Below.refl _ _) (fun d hd => by cases hd; rfl)
      · cases (Option.some.inj (show some _ = some o from ho))
        have h85 : a.tmps.getD 85 undef = .int .i64 (U0 : Int) := hI.slot (i := 1) (d := 85) (hdep ⟨1, .data⟩ (by simp) (by rfl)) rfl
        have h86 : a.tmps.getD 86 undef = .int .i64 (V : Int) := hI.slot (i := 2) (d := 86) (hdep ⟨2, .data⟩ (by simp) (by rfl)) rfl
        have hvn : ¬ V = 0 := by omega
        have hqw : IntKind.i64.wrap (q : Int) = (q : Int) := wrap_64 (by omega) (by omega)
        refine pstep rfl fun K hK => ?_
        clear hdep hI ho hi
        go_simp
        exact hK _ _ (Below.refl _ _) (fun d hd => by cases hd; rfl)
      · cases (Option.some.inj (show some _ = some o from ho))
        have h87 : a.tmps.getD 87 undef = .int .i64 (q : Int) := hI.slot (i := 3) (d := 87) (hdep ⟨3, .data⟩ (by simp) (by rfl)) rfl
        refine pstep rfl fun K hK => ?_
        clear hdep hI ho hi
        go_simp
        refine (Of_any (q : Int) _ (by omega) (by omega)).mono ?_
        rintro e w3 ⟨v3, rfl, hv3, hb3⟩
        exact hK _ _ hb3 (fun d hd => by cases hd; exact hv3)
      · cases (Option.some.inj (show some _ = some o from ho))
        have h84 : IntAt w2 (a.tmps.getD 84 undef) (q) := hI.slot (i := 0) (d := 84) (hdep ⟨0, .data⟩ (by simp) (by rfl)) rfl
        obtain ⟨x84, e84⟩ : ∃ x, a.tmps.getD 84 undef = x := ⟨_, rfl⟩
        rw [e84] at h84
        have h88 : IntAt w2 (a.tmps.getD 88 undef) (q) := hI.slot (i := 4) (d := 88) (hdep ⟨4, .data⟩ (by simp) (by rfl)) rfl
        obtain ⟨x88, e88⟩ : ∃ x, a.tmps.getD 88 undef = x := ⟨_, rfl⟩
        rw [e88] at h88
        refine pstep rfl fun K hK => ?_
        clear hdep hI ho hi
        go_simp
        refine (lawSame_any x84 x88 _ _ _ h84 h88).mono ?_
        rintro e w3 ⟨rfl, hb3⟩
        exact hK _ _ hb3 (fun d hd => by cases hd; exact congrArg Value.bool (decide_eq_true rfl))
      · cases (Option.some.inj (show some _ = some o from ho))
        have h89 : a.tmps.getD 89 undef = .bool true := hI.slot (i := 5) (d := 89) (hdep ⟨5, .data⟩ (by simp) (by rfl)) rfl
        refine pstep rfl fun K hK => ?_
        clear hdep hI ho hi
        go_simp
        exact hK _ _ (Below.refl _ _) (fun d hd => by cases hd; rfl)
      · cases (Option.some.inj (show some _ = some o from ho))
        have h15 : a.tmps.getD 15 undef = .pointer (some ⟨u9.heap.size + 1, 0, none⟩) := hI.free (t := 15) (by kernel_rfl)
        have hgd : a.tmps.getD 90 undef = .bool true := hI.slot (i := 6) (d := 90) (hdep ⟨6, .guard⟩ (by simp) (by rfl)) rfl
        refine pstep (wanted_of rfl (Pu.yielded_of rfl hgd)) fun K hK => ?_
        clear hgd
        refine wp_load_int (.tmp 15) rfl (u9.heap.size + 1) r h15 (C15.out.keep hI.below) ?_
        intro v hv hh
        exact hK _ _ (Below.refl _ _) (fun d hd => by cases hd; exact hv)
      · cases (Option.some.inj (show some _ = some o from ho))
        have h12 : a.tmps.getD 12 undef = .int .i64 (U0 : Int) := hI.free (t := 12) (by kernel_rfl)
        have hgd : a.tmps.getD 90 undef = .bool true := hI.slot (i := 6) (d := 90) (hdep ⟨6, .guard⟩ (by simp) (by rfl)) rfl
        refine pstep (wanted_of rfl (Pu.yielded_of rfl hgd)) fun K hK => ?_
        clear hgd
        clear hdep hI ho hi
        go_simp
        exact hK _ _ (Below.refl _ _) (fun d hd => by cases hd; rfl)
      · cases (Option.some.inj (show some _ = some o from ho))
        have h13 : a.tmps.getD 13 undef = .int .i64 (V : Int) := hI.free (t := 13) (by kernel_rfl)
        have hgd : a.tmps.getD 90 undef = .bool true := hI.slot (i := 6) (d := 90) (hdep ⟨6, .guard⟩ (by simp) (by rfl)) rfl
        refine pstep (wanted_of rfl (Pu.yielded_of rfl hgd)) fun K hK => ?_
        clear hgd
        clear hdep hI ho hi
        go_simp
        exact hK _ _ (Below.refl _ _) (fun d hd => by cases hd; rfl)
      · cases (Option.some.inj (show some _ = some o from ho))
        have h92 : a.tmps.getD 92 undef = .int .i64 (U0 : Int) := hI.slot (i := 8) (d := 92) (hdep ⟨8, .data⟩ (by simp) (by rfl)) rfl
        have h93 : a.tmps.getD 93 undef = .int .i64 (V : Int) := hI.slot (i := 9) (d := 93) (hdep ⟨9, .data⟩ (by simp) (by rfl)) rfl
        have hgd : a.tmps.getD 90 undef = .bool true := hI.slot (i := 6) (d := 90) (hdep ⟨6, .guard⟩ (by simp) (by rfl)) rfl
        have hvn : ¬ V = 0 := by omega
        have hrw : (U0 : Int).tmod (V : Int) = (r : Int) := by rw [Int.tmod_eq_emod_of_nonneg (by omega)]; exact HR.out
        refine pstep (wanted_of rfl (Pu.yielded_of rfl hgd)) fun K hK => ?_
        clear hgd
        clear hdep hI ho hi
        go_simp
        exact hK _ _ (Below.refl _ _) (fun d hd => by cases hd; rfl)
      · cases (Option.some.inj (show some _ = some o from ho))
        have h94 : a.tmps.getD 94 undef = .int .i64 (r : Int) := hI.slot (i := 10) (d := 94) (hdep ⟨10, .data⟩ (by simp) (by rfl)) rfl
        have hgd : a.tmps.getD 90 undef = .bool true := hI.slot (i := 6) (d := 90) (hdep ⟨6, .guard⟩ (by simp) (by rfl)) rfl
        refine pstep (wanted_of rfl (Pu.yielded_of rfl hgd)) fun K hK => ?_
        clear hgd
        clear hdep hI ho hi
        go_simp
        refine (Of_any (r : Int) _ (by omega) (by omega)).mono ?_
        rintro e w3 ⟨v3, rfl, hv3, hb3⟩
        exact hK _ _ hb3 (fun d hd => by cases hd; exact hv3)
      · cases (Option.some.inj (show some _ = some o from ho))
        have h91 : IntAt w2 (a.tmps.getD 91 undef) (r) := hI.slot (i := 7) (d := 91) (hdep ⟨7, .data⟩ (by simp) (by rfl)) rfl
        obtain ⟨x91, e91⟩ : ∃ x, a.tmps.getD 91 undef = x := ⟨_, rfl⟩
        rw [e91] at h91
        have h95 : IntAt w2 (a.tmps.getD 95 undef) (r) := hI.slot (i := 11) (d := 95) (hdep ⟨11, .data⟩ (by simp) (by rfl)) rfl
        obtain ⟨x95, e95⟩ : ∃ x, a.tmps.getD 95 undef = x := ⟨_, rfl⟩
        rw [e95] at h95
        have hgd : a.tmps.getD 90 undef = .bool true := hI.slot (i := 6) (d := 90) (hdep ⟨6, .guard⟩ (by simp) (by rfl)) rfl
        refine pstep (wanted_of rfl (Pu.yielded_of rfl hgd)) fun K hK => ?_
        clear hgd
        clear hdep hI ho hi
        go_simp
        refine (lawSame_any x91 x95 _ _ _ h91 h95).mono ?_
        rintro e w3 ⟨rfl, hb3⟩
        exact hK _ _ hb3 (fun d hd => by cases hd; exact congrArg Value.bool (decide_eq_true rfl))
      · cases (Option.some.inj (show some _ = some o from ho))
        have h90 : a.tmps.getD 90 undef = .bool true := hI.slot (i := 6) (d := 90) (hdep ⟨6, .data⟩ (by simp) (by rfl)) rfl
        have h96 : a.tmps.getD 96 undef = .bool true := hI.slot (i := 12) (d := 96) (hdep ⟨12, .data⟩ (by simp) (by rfl)) rfl
        refine pstep rfl fun K hK => ?_
        clear hdep hI ho hi
        go_simp
        exact hK _ _ (Below.refl _ _) (fun d hd => by cases hd; rfl)
      · cases (Option.some.inj (show some _ = some o from ho))
        have h97 : a.tmps.getD 97 undef = .bool true := hI.slot (i := 13) (d := 97) (hdep ⟨13, .data⟩ (by simp) (by rfl)) rfl
        refine pstep rfl fun K hK => ?_
        clear hdep hI ho hi
        go_simp
        exact hK _ _ (Below.refl _ _) (fun d hd => by cases hd; rfl)
      · cases (Option.some.inj (show some _ = some o from ho))
        have hgd : a.tmps.getD 98 undef = .bool true := hI.slot (i := 14) (d := 98) (hdep ⟨14, .guard⟩ (by simp) (by rfl)) rfl
        have htab := HT.out.keep hI.below
        refine pstep (wanted_of rfl (Pu.yielded_of rfl hgd)) fun K hK => ?_
        clear hgd
        clear hdep hI ho hi
        go_simp
        refine (lives_any _ htab).mono ?_
        rintro e w3 ⟨rfl, hb3⟩
        exact hK _ _ hb3 (fun d hd => by cases hd; rfl)
      · cases (Option.some.inj (show some _ = some o from ho))
        have h98 : a.tmps.getD 98 undef = .bool true := hI.slot (i := 14) (d := 98) (hdep ⟨14, .data⟩ (by simp) (by rfl)) rfl
        have h99 : a.tmps.getD 99 undef = .bool true := hI.slot (i := 15) (d := 99) (hdep ⟨15, .data⟩ (by simp) (by rfl)) rfl
        refine pstep rfl fun K hK => ?_
        clear hdep hI ho hi
        go_simp
        exact hK _ _ (Below.refl _ _) (fun d hd => by cases hd; rfl)
      · cases (Option.some.inj (show some _ = some o from ho))
        have h100 : a.tmps.getD 100 undef = .bool true := hI.slot (i := 16) (d := 100) (hdep ⟨16, .data⟩ (by simp) (by rfl)) rfl
        refine pstep rfl fun K hK => ?_
        clear hdep hI ho hi
        go_simp
        exact hK _ _ (Below.refl _ _) (fun d hd => by cases hd; rfl)
    · intro L a w2 o ho
      exact absurd ho (by simp)
    · intro _ L a w2 hall hI
      have h6 : a.tmps.getD 6 undef = .bool true := hI.slot (i := 17) (d := 6) (hall 17 (by decide)) rfl
      have HBL := hid hI.below
      refine hret _ _ ?_
      have hf := hI.frame [84, 85, 86, 87, 88, 89, 90, 91, 92, 93, 94, 95, 96, 97, 98, 99, 100, 6] (by kernel_rfl)
      simp only [List.foldl_cons, List.foldl_nil] at hf
      clear hI hall
      generalize a.tmps.getD 84 undef = y84 at *
      generalize a.tmps.getD 85 undef = y85 at *
      generalize a.tmps.getD 86 undef = y86 at *
      generalize a.tmps.getD 87 undef = y87 at *
      generalize a.tmps.getD 88 undef = y88 at *
      generalize a.tmps.getD 89 undef = y89 at *
      generalize a.tmps.getD 90 undef = y90 at *
      generalize a.tmps.getD 91 undef = y91 at *
      generalize a.tmps.getD 92 undef = y92 at *
      generalize a.tmps.getD 93 undef = y93 at *
      generalize a.tmps.getD 94 undef = y94 at *
      generalize a.tmps.getD 95 undef = y95 at *
      generalize a.tmps.getD 96 undef = y96 at *
      generalize a.tmps.getD 97 undef = y97 at *
      generalize a.tmps.getD 98 undef = y98 at *
      generalize a.tmps.getD 99 undef = y99 at *
      generalize a.tmps.getD 100 undef = y100 at *
      generalize a.tmps.getD 6 undef = y6 at *
      subst hf
      subst h6
      go_simp
      go_wp2
      go_ret
      exact ⟨rfl, Pu.further HB.out HBL.out⟩

end Zn
end Go.Proofs.YtelfpefcjchjbaaDoor
