/-
  The walk of IntegerSums.
-/
import Derived.Test.YtelfpefcjchjbaaGreatDoorIntZD
import Derived.Test.YtelfpefcjchjbaaGreatDoorIntZH
import Derived.BigFrame
namespace Go.Proofs.YtelfpefcjchjbaaGreatDoor
open Go.RowKit
open Go.Lib (hid)
open Dg
namespace Zn

theorem len_j {x : Int} (hx : len x ≤ 7) {n : Nat} (hn : 7 ≤ n := by decide) : len x ≤ n := Nat.le_trans hx hn
theorem cmp_same (x : Int) : cmpI x x = 0 := by
  unfold cmpI
  rw [if_neg (by omega), if_neg (by omega)]

theorem wpList_load_int_g {ops : Array Oper} {rest : List Oper} {o : Oper} {a : Act} {w : World} {Q : Exit → Act → World → Prop} (hw : Region.wanted o (yielded ops a.tmps) = true) (x : Operand) (ho : o.op = .load 24 x)
    (g : Nat) (v : Value) (z : Int) (hx : a.eval x = .pointer (some ⟨g, 0, none⟩)) (hv : IntAt w v z) (hh : w.heap[g]? = some (.cells v.cells 24 (0, 0)))
    (h : wpList Tryz.prog ops Q rest (a.put o.dst v) w) : wpList Tryz.prog ops Q (o :: rest) a w := by
  obtain ⟨d, hd1, hd2⟩ := struct_of Tryz.int_struct
  obtain ⟨so, n, sc, rfl, _⟩ := hv.form
  exact BigFrame.wpList_want hw fun _ hK => wp_load_row 24 x ho g hx 24 _ (0, 0) d hh hd1 (by cases d <;> first | rfl | cases hd2) Tryz.int_size (hK _ _ h)

set_option maxRecDepth 100000 in
set_option maxHeartbeats 4000000 in
theorem sums_walk (va vb : Value) (l m : List Int) (w : World) (h1 : ListI w va l) (h2 : ListI w vb m) (ht : Tab w) :
    Calls Tryz.prog 4 #[va, vb] w (RetB w true) := by
  have HX := hid (numI_len l 0)
  have HY := hid (numI_len m 0)
  have HB := hid (Below.refl w.heap.size w)
  have HT := hid ht
  have H1 := hid h1
  have H2 := hid h2
  clear h1 h2 ht
  have N1 := hid fun w h => Number_any va l 0 w h (Nat.zero_le _)
  have N2 := hid fun w h => Number_any vb m 0 w h (Nat.zero_le _)
  generalize numI l 0 = x at *
  generalize numI m 0 = y at *
  go_enter Tryz.func4, Tryz.ntmps4
  go_wp2_with fail
  refine (N1.out _ H1.out).mono ?_
  rintro e u1 ⟨v1, rfl, hv1, hb⟩
  obtain ⟨b1, so1, n1, sc1, rfl⟩ := hv1.open
  have hal := (show Below u1.heap.size u1 (u1.alloc (Obj.cells #[Value.bool b1, Value.slice so1 n1 sc1] 24)) from (Below.refl _ _).alloc (Nat.le_refl _) _)
  have C1 := hid (IntCell.new hv1)
  replace H2 := hid ((H2.out.keep hb).keep hal)
  replace HB := hid (Pu.further (Pu.further HB.out hb) hal)
  replace HT := hid ((HT.out.keep hb).keep hal)
  clear hal hb hv1
  go_wp2_with fail
  refine (N2.out _ H2.out).mono ?_
  rintro e u2 ⟨v2, rfl, hv2, hb⟩
  obtain ⟨b2, so2, n2, sc2, rfl⟩ := hv2.open
  have hal := (show Below u2.heap.size u2 (u2.alloc (Obj.cells #[Value.bool b2, Value.slice so2 n2 sc2] 24)) from (Below.refl _ _).alloc (Nat.le_refl _) _)
  have C2 := hid (IntCell.new hv2)
  replace C1 := hid ((C1.out.keep hb).keep hal)
  replace HB := hid (Pu.further (Pu.further HB.out hb) hal)
  replace HT := hid ((HT.out.keep hb).keep hal)
  clear hal hb hv2
  go_upto_region 3 with fail
  generalize u2.alloc (Obj.cells #[Value.bool b2, Value.slice so2 n2 sc2] 24) = U at *
  obtain ⟨vx, hvx, hhx⟩ := C1.out
  have HVX := hid hvx
  have HHX := hid hhx
  clear hvx hhx
  go_wp2_with (with_reducible refine wpList_load_int rfl (.tmp 5) rfl u1.heap.size vx _ rfl HVX.out HHX.out ?_)
  refine (refEncode_any vx x _ HVX.out (len_j HX.out)).mono ?_
  rintro e U1 ⟨va1, rfl, hra, hb⟩
  have RA := hid hra
  replace C1 := hid (C1.out.keep hb)
  replace C2 := hid (C2.out.keep hb)
  replace HB := hid (Pu.further HB.out hb)
  replace HT := hid (HT.out.keep hb)
  clear hra hb HVX HHX
  go_upto_region 4 with fail
  obtain ⟨vy, hvy, hhy⟩ := C2.out
  have HVY := hid hvy
  have HHY := hid hhy
  clear hvy hhy
  go_wp2_with (with_reducible refine wpList_load_int rfl (.tmp 6) rfl u2.heap.size vy _ rfl HVY.out HHY.out ?_)
  refine (refEncode_any vy y _ HVY.out (len_j HY.out)).mono ?_
  rintro e U2 ⟨vb1, rfl, hrb, hb⟩
  have RB := hid hrb
  replace C1 := hid (C1.out.keep hb)
  replace C2 := hid (C2.out.keep hb)
  replace RA := hid (RA.out.keep hb)
  replace HB := hid (Pu.further HB.out hb)
  replace HT := hid (HT.out.keep hb)
  clear hrb hb HVY HHY
  go_upto_region 5 with fail
  rename_i hret
  refine Pu.wp_region_pure 33 (Slots [(19, .int (x)), (20, .int (y)), (21, .int (x + y)), (22, .int (x)), (23, .int (y)), (24, .int (x + y)), (25, .eq (.bool true)), (26, .eq (.bool true)), (27, .int (x)), (28, .int (y)), (29, .int (x - y)), (30, .int (x)), (31, .int (y)), (32, .int (x - y)), (33, .eq (.bool true)), (34, .eq (.bool true)), (35, .eq (.bool true)), (36, .int (x)), (37, .int (y)), (38, .int (x * y)), (39, .int (x)), (40, .int (y)), (41, .int (x * y)), (42, .eq (.bool true)), (43, .eq (.bool true)), (44, .eq (.bool true)), (45, .int (x)), (46, .int (-x)), (47, .int (x)), (48, .int (-x)), (49, .eq (.bool true)), (50, .eq (.bool true)), (9, .eq (.bool true))]) (by kernel_rfl) (by kernel_rfl) (by kernel_rfl) (fun hfn => absurd hfn (by decide)) (Slots.keep _) ?_ ?_ ?_
  · intro L a w2 i o ho hne2 hL hdep hI
    have hi : i < 33 := (Array.getElem?_eq_some_iff.1 ho).1
    rcases (show i = 0 ∨ i = 1 ∨ i = 2 ∨ i = 3 ∨ i = 4 ∨ i = 5 ∨ i = 6 ∨ i = 7 ∨ i = 8 ∨ i = 9 ∨ i = 10 ∨ i = 11 ∨ i = 12 ∨ i = 13 ∨ i = 14 ∨ i = 15 ∨ i = 16 ∨ i = 17 ∨ i = 18 ∨ i = 19 ∨ i = 20 ∨ i = 21 ∨ i = 22 ∨ i = 23 ∨ i = 24 ∨ i = 25 ∨ i = 26 ∨ i = 27 ∨ i = 28 ∨ i = 29 ∨ i = 30 ∨ i = 31 ∨ i = 32 by omega) with rfl | rfl | rfl | rfl | rfl | rfl | rfl | rfl | rfl | rfl | rfl | rfl | rfl | rfl | rfl | rfl | rfl | rfl | rfl | rfl | rfl | rfl | rfl | rfl | rfl | rfl | rfl | rfl | rfl | rfl | rfl | rfl | rfl
    · cases (Option.some.inj (show some _ = some o from ho))
      have h5 : a.tmps.getD 5 undef = .pointer (some ⟨u1.heap.size, 0, none⟩) := hI.free (t := 5) (by kernel_rfl)
      refine pstep rfl fun K hK => ?_
      refine wp_load_int (.tmp 5) rfl u1.heap.size x h5 (C1.out.keep hI.below) ?_
      intro v hv hh
      exact hK _ _ (Below.refl _ _) (fun d hd => by cases hd; exact hv)
    · cases (Option.some.inj (show some _ = some o from ho))
      have h6 : a.tmps.getD 6 undef = .pointer (some ⟨u2.heap.size, 0, none⟩) := hI.free (t := 6) (by kernel_rfl)
      refine pstep rfl fun K hK => ?_
      refine wp_load_int (.tmp 6) rfl u2.heap.size y h6 (C2.out.keep hI.below) ?_
      intro v hv hh
      exact hK _ _ (Below.refl _ _) (fun d hd => by cases hd; exact hv)
    · cases (Option.some.inj (show some _ = some o from ho))
      have h19 : IntAt w2 (a.tmps.getD 19 undef) (x) := hI.slot (i := 0) (d := 19) (hdep ⟨0, .data⟩ (by simp) (by rfl)) rfl
      obtain ⟨x19, e19⟩ : ∃ x, a.tmps.getD 19 undef = x := ⟨_, rfl⟩
      rw [e19] at h19
      have h20 : IntAt w2 (a.tmps.getD 20 undef) (y) := hI.slot (i := 1) (d := 20) (hdep ⟨1, .data⟩ (by simp) (by rfl)) rfl
      obtain ⟨x20, e20⟩ : ∃ x, a.tmps.getD 20 undef = x := ⟨_, rfl⟩
      rw [e20] at h20
      refine pstep rfl fun K hK => ?_
      clear hdep hI ho hi
      go_simp
      refine (Add_any x19 x20 _ _ _ h19 h20 (len_j HX.out) (len_j HY.out)).mono ?_
      rintro e w3 ⟨v3, rfl, hv3, hb3⟩
      exact hK _ _ hb3 (fun d hd => by cases hd; exact hv3)
    · cases (Option.some.inj (show some _ = some o from ho))
      have h5 : a.tmps.getD 5 undef = .pointer (some ⟨u1.heap.size, 0, none⟩) := hI.free (t := 5) (by kernel_rfl)
      refine pstep rfl fun K hK => ?_
      refine wp_load_int (.tmp 5) rfl u1.heap.size x h5 (C1.out.keep hI.below) ?_
      intro v hv hh
      exact hK _ _ (Below.refl _ _) (fun d hd => by cases hd; exact hv)
    · cases (Option.some.inj (show some _ = some o from ho))
      have h6 : a.tmps.getD 6 undef = .pointer (some ⟨u2.heap.size, 0, none⟩) := hI.free (t := 6) (by kernel_rfl)
      refine pstep rfl fun K hK => ?_
      refine wp_load_int (.tmp 6) rfl u2.heap.size y h6 (C2.out.keep hI.below) ?_
      intro v hv hh
      exact hK _ _ (Below.refl _ _) (fun d hd => by cases hd; exact hv)
    · cases (Option.some.inj (show some _ = some o from ho))
      have h22 : IntAt w2 (a.tmps.getD 22 undef) (x) := hI.slot (i := 3) (d := 22) (hdep ⟨3, .data⟩ (by simp) (by rfl)) rfl
      obtain ⟨x22, e22⟩ : ∃ x, a.tmps.getD 22 undef = x := ⟨_, rfl⟩
      rw [e22] at h22
      have h23 : IntAt w2 (a.tmps.getD 23 undef) (y) := hI.slot (i := 4) (d := 23) (hdep ⟨4, .data⟩ (by simp) (by rfl)) rfl
      obtain ⟨x23, e23⟩ : ∃ x, a.tmps.getD 23 undef = x := ⟨_, rfl⟩
      rw [e23] at h23
      refine pstep rfl fun K hK => ?_
      clear hdep hI ho hi
      go_simp
      refine (refAdd_any x22 x23 _ _ _ h22 h23 (len_j HX.out) (len_j HY.out)).mono ?_
      rintro e w3 ⟨v3, rfl, hv3, hb3⟩
      exact hK _ _ hb3 (fun d hd => by cases hd; exact hv3)
    · cases (Option.some.inj (show some _ = some o from ho))
      have h21 : IntAt w2 (a.tmps.getD 21 undef) (x + y) := hI.slot (i := 2) (d := 21) (hdep ⟨2, .data⟩ (by simp) (by rfl)) rfl
      obtain ⟨x21, e21⟩ : ∃ x, a.tmps.getD 21 undef = x := ⟨_, rfl⟩
      rw [e21] at h21
      have h24 : IntAt w2 (a.tmps.getD 24 undef) (x + y) := hI.slot (i := 5) (d := 24) (hdep ⟨5, .data⟩ (by simp) (by rfl)) rfl
      obtain ⟨x24, e24⟩ : ∃ x, a.tmps.getD 24 undef = x := ⟨_, rfl⟩
      rw [e24] at h24
      refine pstep rfl fun K hK => ?_
      clear hdep hI ho hi
      go_simp
      refine (lawSame_any x21 x24 _ _ _ h21 h24).mono ?_
      rintro e w3 ⟨rfl, hb3⟩
      exact hK _ _ hb3 (fun d hd => by cases hd; exact congrArg Value.bool (decide_eq_true rfl))
    · cases (Option.some.inj (show some _ = some o from ho))
      have h25 : a.tmps.getD 25 undef = .bool true := hI.slot (i := 6) (d := 25) (hdep ⟨6, .data⟩ (by simp) (by rfl)) rfl
      refine pstep rfl fun K hK => ?_
      clear hdep hI ho hi
      go_simp
      exact hK _ _ (Below.refl _ _) (fun d hd => by cases hd; rfl)
    · cases (Option.some.inj (show some _ = some o from ho))
      have h5 : a.tmps.getD 5 undef = .pointer (some ⟨u1.heap.size, 0, none⟩) := hI.free (t := 5) (by kernel_rfl)
      have hgd : a.tmps.getD 26 undef = .bool true := hI.slot (i := 7) (d := 26) (hdep ⟨7, .guard⟩ (by simp) (by rfl)) rfl
      refine pstep (wanted_of rfl (Pu.yielded_of rfl hgd)) fun K hK => ?_
      clear hgd
      refine wp_load_int (.tmp 5) rfl u1.heap.size x h5 (C1.out.keep hI.below) ?_
      intro v hv hh
      exact hK _ _ (Below.refl _ _) (fun d hd => by cases hd; exact hv)
    · cases (Option.some.inj (show some _ = some o from ho))
      have h6 : a.tmps.getD 6 undef = .pointer (some ⟨u2.heap.size, 0, none⟩) := hI.free (t := 6) (by kernel_rfl)
      have hgd : a.tmps.getD 26 undef = .bool true := hI.slot (i := 7) (d := 26) (hdep ⟨7, .guard⟩ (by simp) (by rfl)) rfl
      refine pstep (wanted_of rfl (Pu.yielded_of rfl hgd)) fun K hK => ?_
      clear hgd
      refine wp_load_int (.tmp 6) rfl u2.heap.size y h6 (C2.out.keep hI.below) ?_
      intro v hv hh
      exact hK _ _ (Below.refl _ _) (fun d hd => by cases hd; exact hv)
    · cases (Option.some.inj (show some _ = some o from ho))
      have h27 : IntAt w2 (a.tmps.getD 27 undef) (x) := hI.slot (i := 8) (d := 27) (hdep ⟨8, .data⟩ (by simp) (by rfl)) rfl
      obtain ⟨x27, e27⟩ : ∃ x, a.tmps.getD 27 undef = x := ⟨_, rfl⟩
      rw [e27] at h27
      have h28 : IntAt w2 (a.tmps.getD 28 undef) (y) := hI.slot (i := 9) (d := 28) (hdep ⟨9, .data⟩ (by simp) (by rfl)) rfl
      obtain ⟨x28, e28⟩ : ∃ x, a.tmps.getD 28 undef = x := ⟨_, rfl⟩
      rw [e28] at h28
      have hgd : a.tmps.getD 26 undef = .bool true := hI.slot (i := 7) (d := 26) (hdep ⟨7, .guard⟩ (by simp) (by rfl)) rfl
      refine pstep (wanted_of rfl (Pu.yielded_of rfl hgd)) fun K hK => ?_
      clear hgd
      clear hdep hI ho hi
      go_simp
      refine (Sub_any x27 x28 _ _ _ h27 h28 (len_j HX.out) (len_j HY.out)).mono ?_
      rintro e w3 ⟨v3, rfl, hv3, hb3⟩
      exact hK _ _ hb3 (fun d hd => by cases hd; exact hv3)
    · cases (Option.some.inj (show some _ = some o from ho))
      have h5 : a.tmps.getD 5 undef = .pointer (some ⟨u1.heap.size, 0, none⟩) := hI.free (t := 5) (by kernel_rfl)
      have hgd : a.tmps.getD 26 undef = .bool true := hI.slot (i := 7) (d := 26) (hdep ⟨7, .guard⟩ (by simp) (by rfl)) rfl
      refine pstep (wanted_of rfl (Pu.yielded_of rfl hgd)) fun K hK => ?_
      clear hgd
      refine wp_load_int (.tmp 5) rfl u1.heap.size x h5 (C1.out.keep hI.below) ?_
      intro v hv hh
      exact hK _ _ (Below.refl _ _) (fun d hd => by cases hd; exact hv)
    · cases (Option.some.inj (show some _ = some o from ho))
      have h6 : a.tmps.getD 6 undef = .pointer (some ⟨u2.heap.size, 0, none⟩) := hI.free (t := 6) (by kernel_rfl)
      have hgd : a.tmps.getD 26 undef = .bool true := hI.slot (i := 7) (d := 26) (hdep ⟨7, .guard⟩ (by simp) (by rfl)) rfl
      refine pstep (wanted_of rfl (Pu.yielded_of rfl hgd)) fun K hK => ?_
      clear hgd
      refine wp_load_int (.tmp 6) rfl u2.heap.size y h6 (C2.out.keep hI.below) ?_
      intro v hv hh
      exact hK _ _ (Below.refl _ _) (fun d hd => by cases hd; exact hv)
    · cases (Option.some.inj (show some _ = some o from ho))
      have h30 : IntAt w2 (a.tmps.getD 30 undef) (x) := hI.slot (i := 11) (d := 30) (hdep ⟨11, .data⟩ (by simp) (by rfl)) rfl
      obtain ⟨x30, e30⟩ : ∃ x, a.tmps.getD 30 undef = x := ⟨_, rfl⟩
      rw [e30] at h30
      have h31 : IntAt w2 (a.tmps.getD 31 undef) (y) := hI.slot (i := 12) (d := 31) (hdep ⟨12, .data⟩ (by simp) (by rfl)) rfl
      obtain ⟨x31, e31⟩ : ∃ x, a.tmps.getD 31 undef = x := ⟨_, rfl⟩
      rw [e31] at h31
      have hgd : a.tmps.getD 26 undef = .bool true := hI.slot (i := 7) (d := 26) (hdep ⟨7, .guard⟩ (by simp) (by rfl)) rfl
      refine pstep (wanted_of rfl (Pu.yielded_of rfl hgd)) fun K hK => ?_
      clear hgd
      clear hdep hI ho hi
      go_simp
      refine (refSub_any x30 x31 _ _ _ h30 h31 (len_j HX.out) (len_j HY.out)).mono ?_
      rintro e w3 ⟨v3, rfl, hv3, hb3⟩
      exact hK _ _ hb3 (fun d hd => by cases hd; exact hv3)
    · cases (Option.some.inj (show some _ = some o from ho))
      have h29 : IntAt w2 (a.tmps.getD 29 undef) (x - y) := hI.slot (i := 10) (d := 29) (hdep ⟨10, .data⟩ (by simp) (by rfl)) rfl
      obtain ⟨x29, e29⟩ : ∃ x, a.tmps.getD 29 undef = x := ⟨_, rfl⟩
      rw [e29] at h29
      have h32 : IntAt w2 (a.tmps.getD 32 undef) (x - y) := hI.slot (i := 13) (d := 32) (hdep ⟨13, .data⟩ (by simp) (by rfl)) rfl
      obtain ⟨x32, e32⟩ : ∃ x, a.tmps.getD 32 undef = x := ⟨_, rfl⟩
      rw [e32] at h32
      have hgd : a.tmps.getD 26 undef = .bool true := hI.slot (i := 7) (d := 26) (hdep ⟨7, .guard⟩ (by simp) (by rfl)) rfl
      refine pstep (wanted_of rfl (Pu.yielded_of rfl hgd)) fun K hK => ?_
      clear hgd
      clear hdep hI ho hi
      go_simp
      refine (lawSame_any x29 x32 _ _ _ h29 h32).mono ?_
      rintro e w3 ⟨rfl, hb3⟩
      exact hK _ _ hb3 (fun d hd => by cases hd; exact congrArg Value.bool (decide_eq_true rfl))
    · cases (Option.some.inj (show some _ = some o from ho))
      have h26 : a.tmps.getD 26 undef = .bool true := hI.slot (i := 7) (d := 26) (hdep ⟨7, .data⟩ (by simp) (by rfl)) rfl
      have h33 : a.tmps.getD 33 undef = .bool true := hI.slot (i := 14) (d := 33) (hdep ⟨14, .data⟩ (by simp) (by rfl)) rfl
      refine pstep rfl fun K hK => ?_
      clear hdep hI ho hi
      go_simp
      exact hK _ _ (Below.refl _ _) (fun d hd => by cases hd; rfl)
    · cases (Option.some.inj (show some _ = some o from ho))
      have h34 : a.tmps.getD 34 undef = .bool true := hI.slot (i := 15) (d := 34) (hdep ⟨15, .data⟩ (by simp) (by rfl)) rfl
      refine pstep rfl fun K hK => ?_
      clear hdep hI ho hi
      go_simp
      exact hK _ _ (Below.refl _ _) (fun d hd => by cases hd; rfl)
    · cases (Option.some.inj (show some _ = some o from ho))
      have h5 : a.tmps.getD 5 undef = .pointer (some ⟨u1.heap.size, 0, none⟩) := hI.free (t := 5) (by kernel_rfl)
      have hgd : a.tmps.getD 35 undef = .bool true := hI.slot (i := 16) (d := 35) (hdep ⟨16, .guard⟩ (by simp) (by rfl)) rfl
      refine pstep (wanted_of rfl (Pu.yielded_of rfl hgd)) fun K hK => ?_
      clear hgd
      refine wp_load_int (.tmp 5) rfl u1.heap.size x h5 (C1.out.keep hI.below) ?_
      intro v hv hh
      exact hK _ _ (Below.refl _ _) (fun d hd => by cases hd; exact hv)
    · cases (Option.some.inj (show some _ = some o from ho))
      have h6 : a.tmps.getD 6 undef = .pointer (some ⟨u2.heap.size, 0, none⟩) := hI.free (t := 6) (by kernel_rfl)
      have hgd : a.tmps.getD 35 undef = .bool true := hI.slot (i := 16) (d := 35) (hdep ⟨16, .guard⟩ (by simp) (by rfl)) rfl
      refine pstep (wanted_of rfl (Pu.yielded_of rfl hgd)) fun K hK => ?_
      clear hgd
      refine wp_load_int (.tmp 6) rfl u2.heap.size y h6 (C2.out.keep hI.below) ?_
      intro v hv hh
      exact hK _ _ (Below.refl _ _) (fun d hd => by cases hd; exact hv)
    · cases (Option.some.inj (show some _ = some o from ho))
      have h36 : IntAt w2 (a.tmps.getD 36 undef) (x) := hI.slot (i := 17) (d := 36) (hdep ⟨17, .data⟩ (by simp) (by rfl)) rfl
      obtain ⟨x36, e36⟩ : ∃ x, a.tmps.getD 36 undef = x := ⟨_, rfl⟩
      rw [e36] at h36
      have h37 : IntAt w2 (a.tmps.getD 37 undef) (y) := hI.slot (i := 18) (d := 37) (hdep ⟨18, .data⟩ (by simp) (by rfl)) rfl
      obtain ⟨x37, e37⟩ : ∃ x, a.tmps.getD 37 undef = x := ⟨_, rfl⟩
      rw [e37] at h37
      have hgd : a.tmps.getD 35 undef = .bool true := hI.slot (i := 16) (d := 35) (hdep ⟨16, .guard⟩ (by simp) (by rfl)) rfl
      refine pstep (wanted_of rfl (Pu.yielded_of rfl hgd)) fun K hK => ?_
      clear hgd
      clear hdep hI ho hi
      go_simp
      refine (Mul_any x36 x37 _ _ _ h36 h37 (len_j HX.out) (len_j HY.out)).mono ?_
      rintro e w3 ⟨v3, rfl, hv3, hb3⟩
      exact hK _ _ hb3 (fun d hd => by cases hd; exact hv3)
    · cases (Option.some.inj (show some _ = some o from ho))
      have h5 : a.tmps.getD 5 undef = .pointer (some ⟨u1.heap.size, 0, none⟩) := hI.free (t := 5) (by kernel_rfl)
      have hgd : a.tmps.getD 35 undef = .bool true := hI.slot (i := 16) (d := 35) (hdep ⟨16, .guard⟩ (by simp) (by rfl)) rfl
      refine pstep (wanted_of rfl (Pu.yielded_of rfl hgd)) fun K hK => ?_
      clear hgd
      refine wp_load_int (.tmp 5) rfl u1.heap.size x h5 (C1.out.keep hI.below) ?_
      intro v hv hh
      exact hK _ _ (Below.refl _ _) (fun d hd => by cases hd; exact hv)
    · cases (Option.some.inj (show some _ = some o from ho))
      have h6 : a.tmps.getD 6 undef = .pointer (some ⟨u2.heap.size, 0, none⟩) := hI.free (t := 6) (by kernel_rfl)
      have hgd : a.tmps.getD 35 undef = .bool true := hI.slot (i := 16) (d := 35) (hdep ⟨16, .guard⟩ (by simp) (by rfl)) rfl
      refine pstep (wanted_of rfl (Pu.yielded_of rfl hgd)) fun K hK => ?_
      clear hgd
      refine wp_load_int (.tmp 6) rfl u2.heap.size y h6 (C2.out.keep hI.below) ?_
      intro v hv hh
      exact hK _ _ (Below.refl _ _) (fun d hd => by cases hd; exact hv)
    · cases (Option.some.inj (show some _ = some o from ho))
      have h39 : IntAt w2 (a.tmps.getD 39 undef) (x) := hI.slot (i := 20) (d := 39) (hdep ⟨20, .data⟩ (by simp) (by rfl)) rfl
      obtain ⟨x39, e39⟩ : ∃ x, a.tmps.getD 39 undef = x := ⟨_, rfl⟩
      rw [e39] at h39
      have h40 : IntAt w2 (a.tmps.getD 40 undef) (y) := hI.slot (i := 21) (d := 40) (hdep ⟨21, .data⟩ (by simp) (by rfl)) rfl
      obtain ⟨x40, e40⟩ : ∃ x, a.tmps.getD 40 undef = x := ⟨_, rfl⟩
      rw [e40] at h40
      have hgd : a.tmps.getD 35 undef = .bool true := hI.slot (i := 16) (d := 35) (hdep ⟨16, .guard⟩ (by simp) (by rfl)) rfl
      refine pstep (wanted_of rfl (Pu.yielded_of rfl hgd)) fun K hK => ?_
      clear hgd
      clear hdep hI ho hi
      go_simp
      refine (refMul_any x39 x40 _ _ _ h39 h40 (len_j HX.out) (len_j HY.out)).mono ?_
      rintro e w3 ⟨v3, rfl, hv3, hb3⟩
      exact hK _ _ hb3 (fun d hd => by cases hd; exact hv3)
    · cases (Option.some.inj (show some _ = some o from ho))
      have h38 : IntAt w2 (a.tmps.getD 38 undef) (x * y) := hI.slot (i := 19) (d := 38) (hdep ⟨19, .data⟩ (by simp) (by rfl)) rfl
      obtain ⟨x38, e38⟩ : ∃ x, a.tmps.getD 38 undef = x := ⟨_, rfl⟩
      rw [e38] at h38
      have h41 : IntAt w2 (a.tmps.getD 41 undef) (x * y) := hI.slot (i := 22) (d := 41) (hdep ⟨22, .data⟩ (by simp) (by rfl)) rfl
      obtain ⟨x41, e41⟩ : ∃ x, a.tmps.getD 41 undef = x := ⟨_, rfl⟩
      rw [e41] at h41
      have hgd : a.tmps.getD 35 undef = .bool true := hI.slot (i := 16) (d := 35) (hdep ⟨16, .guard⟩ (by simp) (by rfl)) rfl
      refine pstep (wanted_of rfl (Pu.yielded_of rfl hgd)) fun K hK => ?_
      clear hgd
      clear hdep hI ho hi
      go_simp
      refine (lawSame_any x38 x41 _ _ _ h38 h41).mono ?_
      rintro e w3 ⟨rfl, hb3⟩
      exact hK _ _ hb3 (fun d hd => by cases hd; exact congrArg Value.bool (decide_eq_true rfl))
    · cases (Option.some.inj (show some _ = some o from ho))
      have h35 : a.tmps.getD 35 undef = .bool true := hI.slot (i := 16) (d := 35) (hdep ⟨16, .data⟩ (by simp) (by rfl)) rfl
      have h42 : a.tmps.getD 42 undef = .bool true := hI.slot (i := 23) (d := 42) (hdep ⟨23, .data⟩ (by simp) (by rfl)) rfl
      refine pstep rfl fun K hK => ?_
      clear hdep hI ho hi
      go_simp
      exact hK _ _ (Below.refl _ _) (fun d hd => by cases hd; rfl)
    · cases (Option.some.inj (show some _ = some o from ho))
      have h43 : a.tmps.getD 43 undef = .bool true := hI.slot (i := 24) (d := 43) (hdep ⟨24, .data⟩ (by simp) (by rfl)) rfl
      refine pstep rfl fun K hK => ?_
      clear hdep hI ho hi
      go_simp
      exact hK _ _ (Below.refl _ _) (fun d hd => by cases hd; rfl)
    · cases (Option.some.inj (show some _ = some o from ho))
      have h5 : a.tmps.getD 5 undef = .pointer (some ⟨u1.heap.size, 0, none⟩) := hI.free (t := 5) (by kernel_rfl)
      have hgd : a.tmps.getD 44 undef = .bool true := hI.slot (i := 25) (d := 44) (hdep ⟨25, .guard⟩ (by simp) (by rfl)) rfl
      refine pstep (wanted_of rfl (Pu.yielded_of rfl hgd)) fun K hK => ?_
      clear hgd
      refine wp_load_int (.tmp 5) rfl u1.heap.size x h5 (C1.out.keep hI.below) ?_
      intro v hv hh
      exact hK _ _ (Below.refl _ _) (fun d hd => by cases hd; exact hv)
    · cases (Option.some.inj (show some _ = some o from ho))
      have h45 : IntAt w2 (a.tmps.getD 45 undef) (x) := hI.slot (i := 26) (d := 45) (hdep ⟨26, .data⟩ (by simp) (by rfl)) rfl
      obtain ⟨x45, e45⟩ : ∃ x, a.tmps.getD 45 undef = x := ⟨_, rfl⟩
      rw [e45] at h45
      have hgd : a.tmps.getD 44 undef = .bool true := hI.slot (i := 25) (d := 44) (hdep ⟨25, .guard⟩ (by simp) (by rfl)) rfl
      refine pstep (wanted_of rfl (Pu.yielded_of rfl hgd)) fun K hK => ?_
      clear hgd
      clear hdep hI ho hi
      go_simp
      refine (Neg_any x45 _ _ h45).mono ?_
      rintro e w3 ⟨v3, rfl, hv3, hb3⟩
      exact hK _ _ hb3 (fun d hd => by cases hd; exact hv3)
    · cases (Option.some.inj (show some _ = some o from ho))
      have h5 : a.tmps.getD 5 undef = .pointer (some ⟨u1.heap.size, 0, none⟩) := hI.free (t := 5) (by kernel_rfl)
      have hgd : a.tmps.getD 44 undef = .bool true := hI.slot (i := 25) (d := 44) (hdep ⟨25, .guard⟩ (by simp) (by rfl)) rfl
      refine pstep (wanted_of rfl (Pu.yielded_of rfl hgd)) fun K hK => ?_
      clear hgd
      refine wp_load_int (.tmp 5) rfl u1.heap.size x h5 (C1.out.keep hI.below) ?_
      intro v hv hh
      exact hK _ _ (Below.refl _ _) (fun d hd => by cases hd; exact hv)
    · cases (Option.some.inj (show some _ = some o from ho))
      have h47 : IntAt w2 (a.tmps.getD 47 undef) (x) := hI.slot (i := 28) (d := 47) (hdep ⟨28, .data⟩ (by simp) (by rfl)) rfl
      obtain ⟨x47, e47⟩ : ∃ x, a.tmps.getD 47 undef = x := ⟨_, rfl⟩
      rw [e47] at h47
      have hgd : a.tmps.getD 44 undef = .bool true := hI.slot (i := 25) (d := 44) (hdep ⟨25, .guard⟩ (by simp) (by rfl)) rfl
      refine pstep (wanted_of rfl (Pu.yielded_of rfl hgd)) fun K hK => ?_
      clear hgd
      clear hdep hI ho hi
      go_simp
      refine (refNeg_any x47 _ _ h47).mono ?_
      rintro e w3 ⟨v3, rfl, hv3, hb3⟩
      exact hK _ _ hb3 (fun d hd => by cases hd; exact hv3)
    · cases (Option.some.inj (show some _ = some o from ho))
      have h46 : IntAt w2 (a.tmps.getD 46 undef) (-x) := hI.slot (i := 27) (d := 46) (hdep ⟨27, .data⟩ (by simp) (by rfl)) rfl
      obtain ⟨x46, e46⟩ : ∃ x, a.tmps.getD 46 undef = x := ⟨_, rfl⟩
      rw [e46] at h46
      have h48 : IntAt w2 (a.tmps.getD 48 undef) (-x) := hI.slot (i := 29) (d := 48) (hdep ⟨29, .data⟩ (by simp) (by rfl)) rfl
      obtain ⟨x48, e48⟩ : ∃ x, a.tmps.getD 48 undef = x := ⟨_, rfl⟩
      rw [e48] at h48
      have hgd : a.tmps.getD 44 undef = .bool true := hI.slot (i := 25) (d := 44) (hdep ⟨25, .guard⟩ (by simp) (by rfl)) rfl
      refine pstep (wanted_of rfl (Pu.yielded_of rfl hgd)) fun K hK => ?_
      clear hgd
      clear hdep hI ho hi
      go_simp
      refine (lawSame_any x46 x48 _ _ _ h46 h48).mono ?_
      rintro e w3 ⟨rfl, hb3⟩
      exact hK _ _ hb3 (fun d hd => by cases hd; exact congrArg Value.bool (decide_eq_true rfl))
    · cases (Option.some.inj (show some _ = some o from ho))
      have h44 : a.tmps.getD 44 undef = .bool true := hI.slot (i := 25) (d := 44) (hdep ⟨25, .data⟩ (by simp) (by rfl)) rfl
      have h49 : a.tmps.getD 49 undef = .bool true := hI.slot (i := 30) (d := 49) (hdep ⟨30, .data⟩ (by simp) (by rfl)) rfl
      refine pstep rfl fun K hK => ?_
      clear hdep hI ho hi
      go_simp
      exact hK _ _ (Below.refl _ _) (fun d hd => by cases hd; rfl)
    · cases (Option.some.inj (show some _ = some o from ho))
      have h50 : a.tmps.getD 50 undef = .bool true := hI.slot (i := 31) (d := 50) (hdep ⟨31, .data⟩ (by simp) (by rfl)) rfl
      refine pstep rfl fun K hK => ?_
      clear hdep hI ho hi
      go_simp
      exact hK _ _ (Below.refl _ _) (fun d hd => by cases hd; rfl)
  · intro L a w2 o ho
    exact absurd ho (by simp)
  · intro _ L a w2 hall hI
    have h9 : a.tmps.getD 9 undef = .bool true := hI.slot (i := 32) (d := 9) (hall 32 (by decide)) rfl
    have HBL := hid hI.below
    refine hret _ _ ?_
    have hf := hI.frame [19, 20, 21, 22, 23, 24, 25, 26, 27, 28, 29, 30, 31, 32, 33, 34, 35, 36, 37, 38, 39, 40, 41, 42, 43, 44, 45, 46, 47, 48, 49, 50, 9] (by kernel_rfl)
    simp only [List.foldl_cons, List.foldl_nil] at hf
    clear hI hall
    generalize a.tmps.getD 19 undef = y19 at *
    generalize a.tmps.getD 20 undef = y20 at *
    generalize a.tmps.getD 21 undef = y21 at *
    generalize a.tmps.getD 22 undef = y22 at *
    generalize a.tmps.getD 23 undef = y23 at *
    generalize a.tmps.getD 24 undef = y24 at *
    generalize a.tmps.getD 25 undef = y25 at *
    generalize a.tmps.getD 26 undef = y26 at *
    generalize a.tmps.getD 27 undef = y27 at *
    generalize a.tmps.getD 28 undef = y28 at *
    generalize a.tmps.getD 29 undef = y29 at *
    generalize a.tmps.getD 30 undef = y30 at *
    generalize a.tmps.getD 31 undef = y31 at *
    generalize a.tmps.getD 32 undef = y32 at *
    generalize a.tmps.getD 33 undef = y33 at *
    generalize a.tmps.getD 34 undef = y34 at *
    generalize a.tmps.getD 35 undef = y35 at *
    generalize a.tmps.getD 36 undef = y36 at *
    generalize a.tmps.getD 37 undef = y37 at *
    generalize a.tmps.getD 38 undef = y38 at *
    generalize a.tmps.getD 39 undef = y39 at *
    generalize a.tmps.getD 40 undef = y40 at *
    generalize a.tmps.getD 41 undef = y41 at *
    generalize a.tmps.getD 42 undef = y42 at *
    generalize a.tmps.getD 43 undef = y43 at *
    generalize a.tmps.getD 44 undef = y44 at *
    generalize a.tmps.getD 45 undef = y45 at *
    generalize a.tmps.getD 46 undef = y46 at *
    generalize a.tmps.getD 47 undef = y47 at *
    generalize a.tmps.getD 48 undef = y48 at *
    generalize a.tmps.getD 49 undef = y49 at *
    generalize a.tmps.getD 50 undef = y50 at *
    generalize a.tmps.getD 9 undef = y9 at *
    subst hf
    subst h9
    go_simp
    replace C1 := hid (C1.out.keep HBL.out)
    replace C2 := hid (C2.out.keep HBL.out)
    replace RA := hid (RA.out.keep HBL.out)
    replace RB := hid (RB.out.keep HBL.out)
    replace HT := hid (HT.out.keep HBL.out)
    replace HB := hid (Pu.further HB.out HBL.out)
    clear HBL
    go_upto_region 6 with fail
    rename_i hret
    refine Pu.wp_region_pure 21 (Slots [(51, .int (x)), (52, .int (y)), (53, .eq (.int .i64 (cmpI x y))), (54, .int (x)), (55, .int (y)), (56, .eq (.int .i64 (cmpI x y))), (57, .eq (.bool true)), (58, .eq (.bool true)), (59, .int (x)), (60, .int (x)), (61, .eq (.int .i64 0)), (62, .eq (.bool true)), (63, .eq (.bool true)), (64, .eq (.bool true)), (65, .int (x)), (66, .eq (.int .i64 (cmpI x 0))), (67, .int (x)), (68, .eq (.int .i64 (cmpI x 0))), (69, .eq (.bool true)), (70, .eq (.bool true)), (10, .eq (.bool true))]) (by kernel_rfl) (by kernel_rfl) (by kernel_rfl) (fun hfn => absurd hfn (by decide)) (Slots.keep _) ?_ ?_ ?_
    · intro L a w2 i o ho hne2 hL hdep hI
      have hi : i < 21 := (Array.getElem?_eq_some_iff.1 ho).1
      rcases (show i = 0 ∨ i = 1 ∨ i = 2 ∨ i = 3 ∨ i = 4 ∨ i = 5 ∨ i = 6 ∨ i = 7 ∨ i = 8 ∨ i = 9 ∨ i = 10 ∨ i = 11 ∨ i = 12 ∨ i = 13 ∨ i = 14 ∨ i = 15 ∨ i = 16 ∨ i = 17 ∨ i = 18 ∨ i = 19 ∨ i = 20 by omega) with rfl | rfl | rfl | rfl | rfl | rfl | rfl | rfl | rfl | rfl | rfl | rfl | rfl | rfl | rfl | rfl | rfl | rfl | rfl | rfl | rfl
      · cases (Option.some.inj (show some _ = some o from ho))
        have h5 : a.tmps.getD 5 undef = .pointer (some ⟨u1.heap.size, 0, none⟩) := hI.free (t := 5) (by kernel_rfl)
        refine pstep rfl fun K hK => ?_
        refine wp_load_int (.tmp 5) rfl u1.heap.size x h5 (C1.out.keep hI.below) ?_
        intro v hv hh
        exact hK _ _ (Below.refl _ _) (fun d hd => by cases hd; exact hv)
      · cases (Option.some.inj (show some _ = some o from ho))
        have h6 : a.tmps.getD 6 undef = .pointer (some ⟨u2.heap.size, 0, none⟩) := hI.free (t := 6) (by kernel_rfl)
        refine pstep rfl fun K hK => ?_
        refine wp_load_int (.tmp 6) rfl u2.heap.size y h6 (C2.out.keep hI.below) ?_
        intro v hv hh
        exact hK _ _ (Below.refl _ _) (fun d hd => by cases hd; exact hv)
      · cases (Option.some.inj (show some _ = some o from ho))
        have h51 : IntAt w2 (a.tmps.getD 51 undef) (x) := hI.slot (i := 0) (d := 51) (hdep ⟨0, .data⟩ (by simp) (by rfl)) rfl
        obtain ⟨x51, e51⟩ : ∃ x, a.tmps.getD 51 undef = x := ⟨_, rfl⟩
        rw [e51] at h51
        have h52 : IntAt w2 (a.tmps.getD 52 undef) (y) := hI.slot (i := 1) (d := 52) (hdep ⟨1, .data⟩ (by simp) (by rfl)) rfl
        obtain ⟨x52, e52⟩ : ∃ x, a.tmps.getD 52 undef = x := ⟨_, rfl⟩
        rw [e52] at h52
        refine pstep rfl fun K hK => ?_
        clear hdep hI ho hi
        go_simp
        refine (Compare_any x51 x52 _ _ _ h51 h52).mono ?_
        rintro e w3 ⟨rfl, hb3⟩
        exact hK _ _ hb3 (fun d hd => by cases hd; rfl)
      · cases (Option.some.inj (show some _ = some o from ho))
        have h5 : a.tmps.getD 5 undef = .pointer (some ⟨u1.heap.size, 0, none⟩) := hI.free (t := 5) (by kernel_rfl)
        refine pstep rfl fun K hK => ?_
        refine wp_load_int (.tmp 5) rfl u1.heap.size x h5 (C1.out.keep hI.below) ?_
        intro v hv hh
        exact hK _ _ (Below.refl _ _) (fun d hd => by cases hd; exact hv)
      · cases (Option.some.inj (show some _ = some o from ho))
        have h6 : a.tmps.getD 6 undef = .pointer (some ⟨u2.heap.size, 0, none⟩) := hI.free (t := 6) (by kernel_rfl)
        refine pstep rfl fun K hK => ?_
        refine wp_load_int (.tmp 6) rfl u2.heap.size y h6 (C2.out.keep hI.below) ?_
        intro v hv hh
        exact hK _ _ (Below.refl _ _) (fun d hd => by cases hd; exact hv)
      · cases (Option.some.inj (show some _ = some o from ho))
        have h54 : IntAt w2 (a.tmps.getD 54 undef) (x) := hI.slot (i := 3) (d := 54) (hdep ⟨3, .data⟩ (by simp) (by rfl)) rfl
        obtain ⟨x54, e54⟩ : ∃ x, a.tmps.getD 54 undef = x := ⟨_, rfl⟩
        rw [e54] at h54
        have h55 : IntAt w2 (a.tmps.getD 55 undef) (y) := hI.slot (i := 4) (d := 55) (hdep ⟨4, .data⟩ (by simp) (by rfl)) rfl
        obtain ⟨x55, e55⟩ : ∃ x, a.tmps.getD 55 undef = x := ⟨_, rfl⟩
        rw [e55] at h55
        refine pstep rfl fun K hK => ?_
        clear hdep hI ho hi
        go_simp
        refine (refCompare_any x54 x55 _ _ _ h54 h55).mono ?_
        rintro e w3 ⟨rfl, hb3⟩
        exact hK _ _ hb3 (fun d hd => by cases hd; rfl)
      · cases (Option.some.inj (show some _ = some o from ho))
        have h53 : a.tmps.getD 53 undef = .int .i64 (cmpI x y) := hI.slot (i := 2) (d := 53) (hdep ⟨2, .data⟩ (by simp) (by rfl)) rfl
        have h56 : a.tmps.getD 56 undef = .int .i64 (cmpI x y) := hI.slot (i := 5) (d := 56) (hdep ⟨5, .data⟩ (by simp) (by rfl)) rfl
        refine pstep rfl fun K hK => ?_
        clear hdep hI ho hi
        go_simp
        exact hK _ _ (Below.refl _ _) (fun d hd => by cases hd; rfl)
      · cases (Option.some.inj (show some _ = some o from ho))
        have h57 : a.tmps.getD 57 undef = .bool true := hI.slot (i := 6) (d := 57) (hdep ⟨6, .data⟩ (by simp) (by rfl)) rfl
        refine pstep rfl fun K hK => ?_
        clear hdep hI ho hi
        go_simp
        exact hK _ _ (Below.refl _ _) (fun d hd => by cases hd; rfl)
      · cases (Option.some.inj (show some _ = some o from ho))
        have h5 : a.tmps.getD 5 undef = .pointer (some ⟨u1.heap.size, 0, none⟩) := hI.free (t := 5) (by kernel_rfl)
        have hgd : a.tmps.getD 58 undef = .bool true := hI.slot (i := 7) (d := 58) (hdep ⟨7, .guard⟩ (by simp) (by rfl)) rfl
        refine pstep (wanted_of rfl (Pu.yielded_of rfl hgd)) fun K hK => ?_
        clear hgd
        refine wp_load_int (.tmp 5) rfl u1.heap.size x h5 (C1.out.keep hI.below) ?_
        intro v hv hh
        exact hK _ _ (Below.refl _ _) (fun d hd => by cases hd; exact hv)
      · cases (Option.some.inj (show some _ = some o from ho))
        have h5 : a.tmps.getD 5 undef = .pointer (some ⟨u1.heap.size, 0, none⟩) := hI.free (t := 5) (by kernel_rfl)
        have hgd : a.tmps.getD 58 undef = .bool true := hI.slot (i := 7) (d := 58) (hdep ⟨7, .guard⟩ (by simp) (by rfl)) rfl
        refine pstep (wanted_of rfl (Pu.yielded_of rfl hgd)) fun K hK => ?_
        clear hgd
        refine wp_load_int (.tmp 5) rfl u1.heap.size x h5 (C1.out.keep hI.below) ?_
        intro v hv hh
        exact hK _ _ (Below.refl _ _) (fun d hd => by cases hd; exact hv)
      · cases (Option.some.inj (show some _ = some o from ho))
        have h59 : IntAt w2 (a.tmps.getD 59 undef) (x) := hI.slot (i := 8) (d := 59) (hdep ⟨8, .data⟩ (by simp) (by rfl)) rfl
        obtain ⟨x59, e59⟩ : ∃ x, a.tmps.getD 59 undef = x := ⟨_, rfl⟩
        rw [e59] at h59
        have h60 : IntAt w2 (a.tmps.getD 60 undef) (x) := hI.slot (i := 9) (d := 60) (hdep ⟨9, .data⟩ (by simp) (by rfl)) rfl
        obtain ⟨x60, e60⟩ : ∃ x, a.tmps.getD 60 undef = x := ⟨_, rfl⟩
        rw [e60] at h60
        have hgd : a.tmps.getD 58 undef = .bool true := hI.slot (i := 7) (d := 58) (hdep ⟨7, .guard⟩ (by simp) (by rfl)) rfl
        refine pstep (wanted_of rfl (Pu.yielded_of rfl hgd)) fun K hK => ?_
        clear hgd
        clear hdep hI ho hi
        go_simp
        refine (Compare_any x59 x60 _ _ _ h59 h60).mono ?_
        rintro e w3 ⟨rfl, hb3⟩
        exact hK _ _ hb3 (fun d hd => by cases hd; exact congrArg (Value.int .i64) (cmp_same _))
      · cases (Option.some.inj (show some _ = some o from ho))
        have h61 : a.tmps.getD 61 undef = .int .i64 0 := hI.slot (i := 10) (d := 61) (hdep ⟨10, .data⟩ (by simp) (by rfl)) rfl
        have hgd : a.tmps.getD 58 undef = .bool true := hI.slot (i := 7) (d := 58) (hdep ⟨7, .guard⟩ (by simp) (by rfl)) rfl
        refine pstep (wanted_of rfl (Pu.yielded_of rfl hgd)) fun K hK => ?_
        clear hgd
        clear hdep hI ho hi
        go_simp
        exact hK _ _ (Below.refl _ _) (fun d hd => by cases hd; rfl)
      · cases (Option.some.inj (show some _ = some o from ho))
        have h58 : a.tmps.getD 58 undef = .bool true := hI.slot (i := 7) (d := 58) (hdep ⟨7, .data⟩ (by simp) (by rfl)) rfl
        have h62 : a.tmps.getD 62 undef = .bool true := hI.slot (i := 11) (d := 62) (hdep ⟨11, .data⟩ (by simp) (by rfl)) rfl
        refine pstep rfl fun K hK => ?_
        clear hdep hI ho hi
        go_simp
        exact hK _ _ (Below.refl _ _) (fun d hd => by cases hd; rfl)
      · cases (Option.some.inj (show some _ = some o from ho))
        have h63 : a.tmps.getD 63 undef = .bool true := hI.slot (i := 12) (d := 63) (hdep ⟨12, .data⟩ (by simp) (by rfl)) rfl
        refine pstep rfl fun K hK => ?_
        clear hdep hI ho hi
        go_simp
        exact hK _ _ (Below.refl _ _) (fun d hd => by cases hd; rfl)
      · cases (Option.some.inj (show some _ = some o from ho))
        have h5 : a.tmps.getD 5 undef = .pointer (some ⟨u1.heap.size, 0, none⟩) := hI.free (t := 5) (by kernel_rfl)
        have hgd : a.tmps.getD 64 undef = .bool true := hI.slot (i := 13) (d := 64) (hdep ⟨13, .guard⟩ (by simp) (by rfl)) rfl
        refine pstep (wanted_of rfl (Pu.yielded_of rfl hgd)) fun K hK => ?_
        clear hgd
        refine wp_load_int (.tmp 5) rfl u1.heap.size x h5 (C1.out.keep hI.below) ?_
        intro v hv hh
        exact hK _ _ (Below.refl _ _) (fun d hd => by cases hd; exact hv)
      · cases (Option.some.inj (show some _ = some o from ho))
        have h65 : IntAt w2 (a.tmps.getD 65 undef) (x) := hI.slot (i := 14) (d := 65) (hdep ⟨14, .data⟩ (by simp) (by rfl)) rfl
        obtain ⟨x65, e65⟩ : ∃ x, a.tmps.getD 65 undef = x := ⟨_, rfl⟩
        rw [e65] at h65
        have hgd : a.tmps.getD 64 undef = .bool true := hI.slot (i := 13) (d := 64) (hdep ⟨13, .guard⟩ (by simp) (by rfl)) rfl
        refine pstep (wanted_of rfl (Pu.yielded_of rfl hgd)) fun K hK => ?_
        clear hgd
        clear hdep hI ho hi
        go_simp
        refine (Sign_any x65 _ _ h65).mono ?_
        rintro e w3 ⟨rfl, hb3⟩
        exact hK _ _ hb3 (fun d hd => by cases hd; rfl)
      · cases (Option.some.inj (show some _ = some o from ho))
        have h5 : a.tmps.getD 5 undef = .pointer (some ⟨u1.heap.size, 0, none⟩) := hI.free (t := 5) (by kernel_rfl)
        have hgd : a.tmps.getD 64 undef = .bool true := hI.slot (i := 13) (d := 64) (hdep ⟨13, .guard⟩ (by simp) (by rfl)) rfl
        refine pstep (wanted_of rfl (Pu.yielded_of rfl hgd)) fun K hK => ?_
        clear hgd
        refine wp_load_int (.tmp 5) rfl u1.heap.size x h5 (C1.out.keep hI.below) ?_
        intro v hv hh
        exact hK _ _ (Below.refl _ _) (fun d hd => by cases hd; exact hv)
      · cases (Option.some.inj (show some _ = some o from ho))
        have h67 : IntAt w2 (a.tmps.getD 67 undef) (x) := hI.slot (i := 16) (d := 67) (hdep ⟨16, .data⟩ (by simp) (by rfl)) rfl
        obtain ⟨x67, e67⟩ : ∃ x, a.tmps.getD 67 undef = x := ⟨_, rfl⟩
        rw [e67] at h67
        have hgd : a.tmps.getD 64 undef = .bool true := hI.slot (i := 13) (d := 64) (hdep ⟨13, .guard⟩ (by simp) (by rfl)) rfl
        refine pstep (wanted_of rfl (Pu.yielded_of rfl hgd)) fun K hK => ?_
        clear hgd
        clear hdep hI ho hi
        go_simp
        refine (refSign_any x67 _ _ h67).mono ?_
        rintro e w3 ⟨rfl, hb3⟩
        exact hK _ _ hb3 (fun d hd => by cases hd; rfl)
      · cases (Option.some.inj (show some _ = some o from ho))
        have h66 : a.tmps.getD 66 undef = .int .i64 (cmpI x 0) := hI.slot (i := 15) (d := 66) (hdep ⟨15, .data⟩ (by simp) (by rfl)) rfl
        have h68 : a.tmps.getD 68 undef = .int .i64 (cmpI x 0) := hI.slot (i := 17) (d := 68) (hdep ⟨17, .data⟩ (by simp) (by rfl)) rfl
        have hgd : a.tmps.getD 64 undef = .bool true := hI.slot (i := 13) (d := 64) (hdep ⟨13, .guard⟩ (by simp) (by rfl)) rfl
        refine pstep (wanted_of rfl (Pu.yielded_of rfl hgd)) fun K hK => ?_
        clear hgd
        clear hdep hI ho hi
        go_simp
        exact hK _ _ (Below.refl _ _) (fun d hd => by cases hd; rfl)
      · cases (Option.some.inj (show some _ = some o from ho))
        have h64 : a.tmps.getD 64 undef = .bool true := hI.slot (i := 13) (d := 64) (hdep ⟨13, .data⟩ (by simp) (by rfl)) rfl
        have h69 : a.tmps.getD 69 undef = .bool true := hI.slot (i := 18) (d := 69) (hdep ⟨18, .data⟩ (by simp) (by rfl)) rfl
        refine pstep rfl fun K hK => ?_
        clear hdep hI ho hi
        go_simp
        exact hK _ _ (Below.refl _ _) (fun d hd => by cases hd; rfl)
      · cases (Option.some.inj (show some _ = some o from ho))
        have h70 : a.tmps.getD 70 undef = .bool true := hI.slot (i := 19) (d := 70) (hdep ⟨19, .data⟩ (by simp) (by rfl)) rfl
        refine pstep rfl fun K hK => ?_
        clear hdep hI ho hi
        go_simp
        exact hK _ _ (Below.refl _ _) (fun d hd => by cases hd; rfl)
    · intro L a w2 o ho
      exact absurd ho (by simp)
    · intro _ L a w2 hall hI
      have h10 : a.tmps.getD 10 undef = .bool true := hI.slot (i := 20) (d := 10) (hall 20 (by decide)) rfl
      have HBL := hid hI.below
      refine hret _ _ ?_
      have hf := hI.frame [51, 52, 53, 54, 55, 56, 57, 58, 59, 60, 61, 62, 63, 64, 65, 66, 67, 68, 69, 70, 10] (by kernel_rfl)
      simp only [List.foldl_cons, List.foldl_nil] at hf
      clear hI hall
      generalize a.tmps.getD 51 undef = y51 at *
      generalize a.tmps.getD 52 undef = y52 at *
      generalize a.tmps.getD 53 undef = y53 at *
      generalize a.tmps.getD 54 undef = y54 at *
      generalize a.tmps.getD 55 undef = y55 at *
      generalize a.tmps.getD 56 undef = y56 at *
      generalize a.tmps.getD 57 undef = y57 at *
      generalize a.tmps.getD 58 undef = y58 at *
      generalize a.tmps.getD 59 undef = y59 at *
      generalize a.tmps.getD 60 undef = y60 at *
      generalize a.tmps.getD 61 undef = y61 at *
      generalize a.tmps.getD 62 undef = y62 at *
      generalize a.tmps.getD 63 undef = y63 at *
      generalize a.tmps.getD 64 undef = y64 at *
      generalize a.tmps.getD 65 undef = y65 at *
      generalize a.tmps.getD 66 undef = y66 at *
      generalize a.tmps.getD 67 undef = y67 at *
      generalize a.tmps.getD 68 undef = y68 at *
      generalize a.tmps.getD 69 undef = y69 at *
      generalize a.tmps.getD 70 undef = y70 at *
      generalize a.tmps.getD 10 undef = y10 at *
      subst hf
      subst h10
      go_simp
      replace C1 := hid (C1.out.keep HBL.out)
      replace C2 := hid (C2.out.keep HBL.out)
      replace RA := hid (RA.out.keep HBL.out)
      replace RB := hid (RB.out.keep HBL.out)
      replace HT := hid (HT.out.keep HBL.out)
      replace HB := hid (Pu.further HB.out HBL.out)
      clear HBL
      obtain ⟨vx2, hvx, hhx⟩ := C1.out
      have HVx := hid hvx
      have HHx := hid hhx
      clear hvx hhx
      go_wp2_with (refine wpList_load_int_g rfl (.tmp 5) rfl u1.heap.size vx2 x rfl HVx.out HHx.out ?_)
      refine (refEncode_any vx2 x _ HVx.out (len_j HX.out)).mono ?_
      rintro e U3 ⟨r3, rfl, hr, hb⟩
      have RR := hid hr
      replace C1 := hid (C1.out.keep hb)
      replace C2 := hid (C2.out.keep hb)
      replace RA := hid (RA.out.keep hb)
      replace RB := hid (RB.out.keep hb)
      replace HT := hid (HT.out.keep hb)
      replace HB := hid (Pu.further HB.out hb)
      clear hr hb HVx HHx
      go_wp2_with fail
      refine (sameBytes_yes _ _ _ _ RA.out RR.out).mono ?_
      rintro e U31 ⟨rfl, hb⟩
      replace C1 := hid (C1.out.keep hb)
      replace C2 := hid (C2.out.keep hb)
      replace RA := hid (RA.out.keep hb)
      replace RB := hid (RB.out.keep hb)
      replace HT := hid (HT.out.keep hb)
      replace HB := hid (Pu.further HB.out hb)
      clear hb RR
      obtain ⟨vy2, hvy, hhy⟩ := C2.out
      have HVy := hid hvy
      have HHy := hid hhy
      clear hvy hhy
      go_wp2_with (refine wpList_load_int_g rfl (.tmp 6) rfl u2.heap.size vy2 y rfl HVy.out HHy.out ?_)
      refine (refEncode_any vy2 y _ HVy.out (len_j HY.out)).mono ?_
      rintro e U4 ⟨r4, rfl, hr, hb⟩
      have RR := hid hr
      replace C1 := hid (C1.out.keep hb)
      replace C2 := hid (C2.out.keep hb)
      replace RA := hid (RA.out.keep hb)
      replace RB := hid (RB.out.keep hb)
      replace HT := hid (HT.out.keep hb)
      replace HB := hid (Pu.further HB.out hb)
      clear hr hb HVy HHy
      go_wp2_with fail
      refine (sameBytes_yes _ _ _ _ RB.out RR.out).mono ?_
      rintro e U41 ⟨rfl, hb⟩
      replace C1 := hid (C1.out.keep hb)
      replace C2 := hid (C2.out.keep hb)
      replace RA := hid (RA.out.keep hb)
      replace RB := hid (RB.out.keep hb)
      replace HT := hid (HT.out.keep hb)
      replace HB := hid (Pu.further HB.out hb)
      clear hb RR
      go_wp2_with fail
      refine (lives_any _ HT.out).mono ?_
      rintro e U5 ⟨rfl, hb⟩
      have HBE := hid (Pu.further HB.out hb)
      clear hb
      go_wp2
      go_ret
      exact ⟨rfl, HBE.out⟩

end Zn
end Go.Proofs.YtelfpefcjchjbaaGreatDoor
