/-
  The walk of IntegerRing.
-/
import Derived.Test.YtieoanhmglalnaaDoorIntZD
namespace Go.Proofs.YtieoanhmglalnaaDoor
open Go.RowKit
open Go.Lib (hid)
open Dg
namespace Zn

theorem len_i {x : Int} (hx : len x ≤ 7) : len x ≤ 1099511627776 := Nat.le_trans hx (by decide)
theorem len_s {x y : Int} (hx : len x ≤ 7) (hy : len y ≤ 7) : len (x + y) ≤ 1099511627776 := by
  have h : len (x + y) ≤ 8 := by have := len_add x y; omega
  exact Nat.le_trans h (by decide)
theorem len_p {x y : Int} (hx : len x ≤ 7) (hy : len y ≤ 7) : len (x * y) ≤ 1099511627776 := by
  have h : len (x * y) ≤ 14 := by have := len_mul x y; omega
  exact Nat.le_trans h (by decide)
theorem cmp_minus (x y : Int) : cmpI (x - y) 0 = cmpI x y := by
  unfold cmpI
  split <;> split <;> first | rfl | omega | (split <;> first | rfl | omega)
theorem cmp_add (x y z : Int) : cmpI (x + z) (y + z) = cmpI x y := by
  unfold cmpI
  split <;> split <;> first | rfl | omega | (split <;> first | rfl | omega)

set_option maxRecDepth 100000 in
set_option maxHeartbeats 4000000 in
theorem ring_walk (va vb vc : Value) (l m n : List Int) (w : World) (h1 : ListI w va l) (h2 : ListI w vb m) (h3 : ListI w vc n) (ht : Tab w) :
    Calls Tryd.prog 3 #[va, vb, vc] w (RetB w true) := by
  have HX := hid (numI_len l 0)
  have HY := hid (numI_len m 0)
  have HZ := hid (numI_len n 0)
  have HB := hid (Below.refl w.heap.size w)
  have HT := hid ht
  have H1 := hid h1
  have H2 := hid h2
  have H3 := hid h3
  clear h1 h2 h3 ht
  have N1 := hid fun w h => Number_any va l 0 w h (Nat.zero_le _)
  have N2 := hid fun w h => Number_any vb m 0 w h (Nat.zero_le _)
  have N3 := hid fun w h => Number_any vc n 0 w h (Nat.zero_le _)
  generalize numI l 0 = x at *
  generalize numI m 0 = y at *
  generalize numI n 0 = z at *
  go_enter Tryd.func3, Tryd.ntmps3
  go_wp2_with fail
  refine (N1.out _ H1.out).mono ?_
  rintro e u1 ⟨v1, rfl, hv1, hb⟩
  obtain ⟨b1, so1, n1, sc1, rfl⟩ := hv1.open
  have hal := (show Below u1.heap.size u1 (u1.alloc (Obj.cells #[Value.bool b1, Value.slice so1 n1 sc1] 24)) from (Below.refl _ _).alloc (Nat.le_refl _) _)
  have C1 := hid (IntCell.new hv1)
  replace H2 := hid ((H2.out.keep hb).keep hal)
  replace H3 := hid ((H3.out.keep hb).keep hal)
  replace HB := hid (Pu.further (Pu.further HB.out hb) hal)
  replace HT := hid ((HT.out.keep hb).keep hal)
  clear hal hb hv1
  go_wp2_with fail
  refine (N2.out _ H2.out).mono ?_
  rintro e u2 ⟨v2, rfl, hv2, hb⟩
  obtain ⟨b2, so2, n2, sc2, rfl⟩ := hv2.open
  have hal := (show Below u2.heap.size u2 (u2.alloc (Obj.cells #[Value.bool b2, Value.slice so2 n2 sc2] 24)) from (Below.refl _ _).alloc (Nat.le_refl _) _)
  have C2 := hid (IntCell.new hv2)
  replace C1 := hid ((C1.out.keep hb).keep hal)
  replace H3 := hid ((H3.out.keep hb).keep hal)
  replace HB := hid (Pu.further (Pu.further HB.out hb) hal)
  replace HT := hid ((HT.out.keep hb).keep hal)
  clear hal hb hv2
  go_wp2_with fail
  refine (N3.out _ H3.out).mono ?_
  rintro e u3 ⟨v3, rfl, hv3, hb⟩
  obtain ⟨b3, so3, n3, sc3, rfl⟩ := hv3.open
  have hal := (show Below u3.heap.size u3 (u3.alloc (Obj.cells #[Value.bool b3, Value.slice so3 n3 sc3] 24)) from (Below.refl _ _).alloc (Nat.le_refl _) _)
  have C3 := hid (IntCell.new hv3)
  replace C1 := hid ((C1.out.keep hb).keep hal)
  replace C2 := hid ((C2.out.keep hb).keep hal)
  replace HB := hid (Pu.further (Pu.further HB.out hb) hal)
  replace HT := hid ((HT.out.keep hb).keep hal)
  clear hal hb hv3
  go_upto_region 4 with fail
  rename_i hret
  generalize u3.alloc (Obj.cells #[Value.bool b3, Value.slice so3 n3 sc3] 24) = U at *
  refine Pu.wp_region_pure 46 (Slots [(17, .int (x)), (18, .int (y)), (19, .int (x + y)), (20, .int (y)), (21, .int (x)), (22, .int (y + x)), (23, .eq (.bool true)), (24, .eq (.bool false)), (25, .eq (.bool false)), (26, .int (x)), (27, .int (y)), (28, .int (x * y)), (29, .int (y)), (30, .int (x)), (31, .int (y * x)), (32, .eq (.bool true)), (33, .eq (.bool false)), (34, .eq (.bool false)), (35, .eq (.bool false)), (36, .int (x)), (37, .int (y)), (38, .int (x + y)), (39, .int (z)), (40, .int (x + y + z)), (41, .int (x)), (42, .int (y)), (43, .int (z)), (44, .int (y + z)), (45, .int (x + (y + z))), (46, .eq (.bool true)), (47, .eq (.bool false)), (48, .eq (.bool false)), (49, .eq (.bool false)), (50, .int (x)), (51, .int (y)), (52, .int (x * y)), (53, .int (z)), (54, .int (x * y * z)), (55, .int (x)), (56, .int (y)), (57, .int (z)), (58, .int (y * z)), (59, .int (x * (y * z))), (60, .eq (.bool true)), (61, .eq (.bool false)), (62, .eq (.bool false))]) (by kernel_rfl) (by kernel_rfl) (by kernel_rfl) (fun hfn => absurd hfn (by decide)) (Slots.keep _) ?_ ?_ ?_
  · intro L a w2 i o ho hne2 hL hdep hI
    have hi : i < 46 := (Array.getElem?_eq_some_iff.1 ho).1
    rcases (show i = 0 ∨ i = 1 ∨ i = 2 ∨ i = 3 ∨ i = 4 ∨ i = 5 ∨ i = 6 ∨ i = 7 ∨ i = 8 ∨ i = 9 ∨ i = 10 ∨ i = 11 ∨ i = 12 ∨ i = 13 ∨ i = 14 ∨ i = 15 ∨ i = 16 ∨ i = 17 ∨ i = 18 ∨ i = 19 ∨ i = 20 ∨ i = 21 ∨ i = 22 ∨ i = 23 ∨ i = 24 ∨ i = 25 ∨ i = 26 ∨ i = 27 ∨ i = 28 ∨ i = 29 ∨ i = 30 ∨ i = 31 ∨ i = 32 ∨ i = 33 ∨ i = 34 ∨ i = 35 ∨ i = 36 ∨ i = 37 ∨ i = 38 ∨ i = 39 ∨ i = 40 ∨ i = 41 ∨ i = 42 ∨ i = 43 ∨ i = 44 ∨ i = 45 by omega) with rfl | rfl | rfl | rfl | rfl | rfl | rfl | rfl | rfl | rfl | rfl | rfl | rfl | rfl | rfl | rfl | rfl | rfl | rfl | rfl | rfl | rfl | rfl | rfl | rfl | rfl | rfl | rfl | rfl | rfl | rfl | rfl | rfl | rfl | rfl | rfl | rfl | rfl | rfl | rfl | rfl | rfl | rfl | rfl | rfl | rfl
    · cases (Option.some.inj (show some _ = some o from ho))
      have h7 : a.tmps.getD 7 undef = .pointer (some ⟨u1.heap.size, 0, none⟩) := hI.free (t := 7) (by kernel_rfl)
      refine pstep rfl fun K hK => ?_
      refine wp_load_int (.tmp 7) rfl u1.heap.size x h7 (C1.out.keep hI.below) ?_
      intro v hv hh
      exact hK _ _ (Below.refl _ _) (fun d hd => by cases hd; exact hv)
    · cases (Option.some.inj (show some _ = some o from ho))
      have h8 : a.tmps.getD 8 undef = .pointer (some ⟨u2.heap.size, 0, none⟩) := hI.free (t := 8) (by kernel_rfl)
      refine pstep rfl fun K hK => ?_
      refine wp_load_int (.tmp 8) rfl u2.heap.size y h8 (C2.out.keep hI.below) ?_
      intro v hv hh
      exact hK _ _ (Below.refl _ _) (fun d hd => by cases hd; exact hv)
    · cases (Option.some.inj (show some _ = some o from ho))
      have h17 : IntAt w2 (a.tmps.getD 17 undef) (x) := hI.slot (i := 0) (d := 17) (hdep ⟨0, .data⟩ (by simp) (by rfl)) rfl
      obtain ⟨x17, e17⟩ : ∃ x, a.tmps.getD 17 undef = x := ⟨_, rfl⟩
      rw [e17] at h17
      have h18 : IntAt w2 (a.tmps.getD 18 undef) (y) := hI.slot (i := 1) (d := 18) (hdep ⟨1, .data⟩ (by simp) (by rfl)) rfl
      obtain ⟨x18, e18⟩ : ∃ x, a.tmps.getD 18 undef = x := ⟨_, rfl⟩
      rw [e18] at h18
      refine pstep rfl fun K hK => ?_
      clear hdep hI ho hi
      go_simp
      refine (Add_any x17 x18 _ _ _ h17 h18 (len_i HX.out) (len_i HY.out)).mono ?_
      rintro e w3 ⟨v3, rfl, hv3, hb3⟩
      exact hK _ _ hb3 (fun d hd => by cases hd; exact hv3)
    · cases (Option.some.inj (show some _ = some o from ho))
      have h8 : a.tmps.getD 8 undef = .pointer (some ⟨u2.heap.size, 0, none⟩) := hI.free (t := 8) (by kernel_rfl)
      refine pstep rfl fun K hK => ?_
      refine wp_load_int (.tmp 8) rfl u2.heap.size y h8 (C2.out.keep hI.below) ?_
      intro v hv hh
      exact hK _ _ (Below.refl _ _) (fun d hd => by cases hd; exact hv)
    · cases (Option.some.inj (show some _ = some o from ho))
      have h7 : a.tmps.getD 7 undef = .pointer (some ⟨u1.heap.size, 0, none⟩) := hI.free (t := 7) (by kernel_rfl)
      refine pstep rfl fun K hK => ?_
      refine wp_load_int (.tmp 7) rfl u1.heap.size x h7 (C1.out.keep hI.below) ?_
      intro v hv hh
      exact hK _ _ (Below.refl _ _) (fun d hd => by cases hd; exact hv)
    · cases (Option.some.inj (show some _ = some o from ho))
      have h20 : IntAt w2 (a.tmps.getD 20 undef) (y) := hI.slot (i := 3) (d := 20) (hdep ⟨3, .data⟩ (by simp) (by rfl)) rfl
      obtain ⟨x20, e20⟩ : ∃ x, a.tmps.getD 20 undef = x := ⟨_, rfl⟩
      rw [e20] at h20
      have h21 : IntAt w2 (a.tmps.getD 21 undef) (x) := hI.slot (i := 4) (d := 21) (hdep ⟨4, .data⟩ (by simp) (by rfl)) rfl
      obtain ⟨x21, e21⟩ : ∃ x, a.tmps.getD 21 undef = x := ⟨_, rfl⟩
      rw [e21] at h21
      refine pstep rfl fun K hK => ?_
      clear hdep hI ho hi
      go_simp
      refine (Add_any x20 x21 _ _ _ h20 h21 (len_i HY.out) (len_i HX.out)).mono ?_
      rintro e w3 ⟨v3, rfl, hv3, hb3⟩
      exact hK _ _ hb3 (fun d hd => by cases hd; exact hv3)
    · cases (Option.some.inj (show some _ = some o from ho))
      have h19 : IntAt w2 (a.tmps.getD 19 undef) (x + y) := hI.slot (i := 2) (d := 19) (hdep ⟨2, .data⟩ (by simp) (by rfl)) rfl
      obtain ⟨x19, e19⟩ : ∃ x, a.tmps.getD 19 undef = x := ⟨_, rfl⟩
      rw [e19] at h19
      have h22 : IntAt w2 (a.tmps.getD 22 undef) (y + x) := hI.slot (i := 5) (d := 22) (hdep ⟨5, .data⟩ (by simp) (by rfl)) rfl
      obtain ⟨x22, e22⟩ : ∃ x, a.tmps.getD 22 undef = x := ⟨_, rfl⟩
      rw [e22] at h22
      refine pstep rfl fun K hK => ?_
      clear hdep hI ho hi
      go_simp
      refine (lawSame_any x19 x22 _ _ _ h19 h22).mono ?_
      rintro e w3 ⟨rfl, hb3⟩
      exact hK _ _ hb3 (fun d hd => by cases hd; exact congrArg Value.bool (decide_eq_true (Int.add_comm x y)))
    · cases (Option.some.inj (show some _ = some o from ho))
      have h23 : a.tmps.getD 23 undef = .bool true := hI.slot (i := 6) (d := 23) (hdep ⟨6, .data⟩ (by simp) (by rfl)) rfl
      refine pstep rfl fun K hK => ?_
      clear hdep hI ho hi
      go_simp
      exact hK _ _ (Below.refl _ _) (fun d hd => by cases hd; rfl)
    · cases (Option.some.inj (show some _ = some o from ho))
      have h24 : a.tmps.getD 24 undef = .bool false := hI.slot (i := 7) (d := 24) (hdep ⟨7, .data⟩ (by simp) (by rfl)) rfl
      refine pstep rfl fun K hK => ?_
      clear hdep hI ho hi
      go_simp
      exact hK _ _ (Below.refl _ _) (fun d hd => by cases hd; rfl)
    · cases (Option.some.inj (show some _ = some o from ho))
      have h7 : a.tmps.getD 7 undef = .pointer (some ⟨u1.heap.size, 0, none⟩) := hI.free (t := 7) (by kernel_rfl)
      have hgd : a.tmps.getD 25 undef = .bool false := hI.slot (i := 8) (d := 25) (hdep ⟨8, .guard⟩ (by simp) (by rfl)) rfl
      refine pstep (wanted_of rfl (Pu.yielded_of rfl hgd)) fun K hK => ?_
      clear hgd
      refine wp_load_int (.tmp 7) rfl u1.heap.size x h7 (C1.out.keep hI.below) ?_
      intro v hv hh
      exact hK _ _ (Below.refl _ _) (fun d hd => by cases hd; exact hv)
    · cases (Option.some.inj (show some _ = some o from ho))
      have h8 : a.tmps.getD 8 undef = .pointer (some ⟨u2.heap.size, 0, none⟩) := hI.free (t := 8) (by kernel_rfl)
      have hgd : a.tmps.getD 25 undef = .bool false := hI.slot (i := 8) (d := 25) (hdep ⟨8, .guard⟩ (by simp) (by rfl)) rfl
      refine pstep (wanted_of rfl (Pu.yielded_of rfl hgd)) fun K hK => ?_
      clear hgd
      refine wp_load_int (.tmp 8) rfl u2.heap.size y h8 (C2.out.keep hI.below) ?_
      intro v hv hh
      exact hK _ _ (Below.refl _ _) (fun d hd => by cases hd; exact hv)
    · cases (Option.some.inj (show some _ = some o from ho))
      have h26 : IntAt w2 (a.tmps.getD 26 undef) (x) := hI.slot (i := 9) (d := 26) (hdep ⟨9, .data⟩ (by simp) (by rfl)) rfl
      obtain ⟨x26, e26⟩ : ∃ x, a.tmps.getD 26 undef = x := ⟨_, rfl⟩
      rw [e26] at h26
      have h27 : IntAt w2 (a.tmps.getD 27 undef) (y) := hI.slot (i := 10) (d := 27) (hdep ⟨10, .data⟩ (by simp) (by rfl)) rfl
      obtain ⟨x27, e27⟩ : ∃ x, a.tmps.getD 27 undef = x := ⟨_, rfl⟩
      rw [e27] at h27
      have hgd : a.tmps.getD 25 undef = .bool false := hI.slot (i := 8) (d := 25) (hdep ⟨8, .guard⟩ (by simp) (by rfl)) rfl
      refine pstep (wanted_of rfl (Pu.yielded_of rfl hgd)) fun K hK => ?_
      clear hgd
      clear hdep hI ho hi
      go_simp
      refine (Mul_any x26 x27 _ _ _ h26 h27 (len_i HX.out) (len_i HY.out)).mono ?_
      rintro e w3 ⟨v3, rfl, hv3, hb3⟩
      exact hK _ _ hb3 (fun d hd => by cases hd; exact hv3)
    · cases (Option.some.inj (show some _ = some o from ho))
      have h8 : a.tmps.getD 8 undef = .pointer (some ⟨u2.heap.size, 0, none⟩) := hI.free (t := 8) (by kernel_rfl)
      have hgd : a.tmps.getD 25 undef = .bool false := hI.slot (i := 8) (d := 25) (hdep ⟨8, .guard⟩ (by simp) (by rfl)) rfl
      refine pstep (wanted_of rfl (Pu.yielded_of rfl hgd)) fun K hK => ?_
      clear hgd
      refine wp_load_int (.tmp 8) rfl u2.heap.size y h8 (C2.out.keep hI.below) ?_
      intro v hv hh
      exact hK _ _ (Below.refl _ _) (fun d hd => by cases hd; exact hv)
    · cases (Option.some.inj (show some _ = some o from ho))
      have h7 : a.tmps.getD 7 undef = .pointer (some ⟨u1.heap.size, 0, none⟩) := hI.free (t := 7) (by kernel_rfl)
      have hgd : a.tmps.getD 25 undef = .bool false := hI.slot (i := 8) (d := 25) (hdep ⟨8, .guard⟩ (by simp) (by rfl)) rfl
      refine pstep (wanted_of rfl (Pu.yielded_of rfl hgd)) fun K hK => ?_
      clear hgd
      refine wp_load_int (.tmp 7) rfl u1.heap.size x h7 (C1.out.keep hI.below) ?_
      intro v hv hh
      exact hK _ _ (Below.refl _ _) (fun d hd => by cases hd; exact hv)
    · cases (Option.some.inj (show some _ = some o from ho))
      have h29 : IntAt w2 (a.tmps.getD 29 undef) (y) := hI.slot (i := 12) (d := 29) (hdep ⟨12, .data⟩ (by simp) (by rfl)) rfl
      obtain ⟨x29, e29⟩ : ∃ x, a.tmps.getD 29 undef = x := ⟨_, rfl⟩
      rw [e29] at h29
      have h30 : IntAt w2 (a.tmps.getD 30 undef) (x) := hI.slot (i := 13) (d := 30) (hdep ⟨13, .data⟩ (by simp) (by rfl)) rfl
      obtain ⟨x30, e30⟩ : ∃ x, a.tmps.getD 30 undef = x := ⟨_, rfl⟩
      rw [e30] at h30
      have hgd : a.tmps.getD 25 undef = .bool false := hI.slot (i := 8) (d := 25) (hdep ⟨8, .guard⟩ (by simp) (by rfl)) rfl
      refine pstep (wanted_of rfl (Pu.yielded_of rfl hgd)) fun K hK => ?_
      clear hgd
      clear hdep hI ho hi
      go_simp
      refine (Mul_any x29 x30 _ _ _ h29 h30 (len_i HY.out) (len_i HX.out)).mono ?_
      rintro e w3 ⟨v3, rfl, hv3, hb3⟩
      exact hK _ _ hb3 (fun d hd => by cases hd; exact hv3)
    · cases (Option.some.inj (show some _ = some o from ho))
      have h28 : IntAt w2 (a.tmps.getD 28 undef) (x * y) := hI.slot (i := 11) (d := 28) (hdep ⟨11, .data⟩ (by simp) (by rfl)) rfl
      obtain ⟨x28, e28⟩ : ∃ x, a.tmps.getD 28 undef = x := ⟨_, rfl⟩
      rw [e28] at h28
      have h31 : IntAt w2 (a.tmps.getD 31 undef) (y * x) := hI.slot (i := 14) (d := 31) (hdep ⟨14, .data⟩ (by simp) (by rfl)) rfl
      obtain ⟨x31, e31⟩ : ∃ x, a.tmps.getD 31 undef = x := ⟨_, rfl⟩
      rw [e31] at h31
      have hgd : a.tmps.getD 25 undef = .bool false := hI.slot (i := 8) (d := 25) (hdep ⟨8, .guard⟩ (by simp) (by rfl)) rfl
      refine pstep (wanted_of rfl (Pu.yielded_of rfl hgd)) fun K hK => ?_
      clear hgd
      clear hdep hI ho hi
      go_simp
      refine (lawSame_any x28 x31 _ _ _ h28 h31).mono ?_
      rintro e w3 ⟨rfl, hb3⟩
      exact hK _ _ hb3 (fun d hd => by cases hd; exact congrArg Value.bool (decide_eq_true (Int.mul_comm x y)))
    · cases (Option.some.inj (show some _ = some o from ho))
      have h32 : a.tmps.getD 32 undef = .bool true := hI.slot (i := 15) (d := 32) (hdep ⟨15, .data⟩ (by simp) (by rfl)) rfl
      have hgd : a.tmps.getD 25 undef = .bool false := hI.slot (i := 8) (d := 25) (hdep ⟨8, .guard⟩ (by simp) (by rfl)) rfl
      refine pstep (wanted_of rfl (Pu.yielded_of rfl hgd)) fun K hK => ?_
      clear hgd
      clear hdep hI ho hi
      go_simp
      exact hK _ _ (Below.refl _ _) (fun d hd => by cases hd; rfl)
    · cases (Option.some.inj (show some _ = some o from ho))
      have h25 : a.tmps.getD 25 undef = .bool false := hI.slot (i := 8) (d := 25) (hdep ⟨8, .data⟩ (by simp) (by rfl)) rfl
      have h33 : a.tmps.getD 33 undef = .bool false := hI.slot (i := 16) (d := 33) (hdep ⟨16, .data⟩ (by simp) (by rfl)) rfl
      refine pstep rfl fun K hK => ?_
      clear hdep hI ho hi
      go_simp
      exact hK _ _ (Below.refl _ _) (fun d hd => by cases hd; rfl)
    · cases (Option.some.inj (show some _ = some o from ho))
      have h34 : a.tmps.getD 34 undef = .bool false := hI.slot (i := 17) (d := 34) (hdep ⟨17, .data⟩ (by simp) (by rfl)) rfl
      refine pstep rfl fun K hK => ?_
      clear hdep hI ho hi
      go_simp
      exact hK _ _ (Below.refl _ _) (fun d hd => by cases hd; rfl)
    · cases (Option.some.inj (show some _ = some o from ho))
      have h7 : a.tmps.getD 7 undef = .pointer (some ⟨u1.heap.size, 0, none⟩) := hI.free (t := 7) (by kernel_rfl)
      have hgd : a.tmps.getD 35 undef = .bool false := hI.slot (i := 18) (d := 35) (hdep ⟨18, .guard⟩ (by simp) (by rfl)) rfl
      refine pstep (wanted_of rfl (Pu.yielded_of rfl hgd)) fun K hK => ?_
      clear hgd
      refine wp_load_int (.tmp 7) rfl u1.heap.size x h7 (C1.out.keep hI.below) ?_
      intro v hv hh
      exact hK _ _ (Below.refl _ _) (fun d hd => by cases hd; exact hv)
    · cases (Option.some.inj (show some _ = some o from ho))
      have h8 : a.tmps.getD 8 undef = .pointer (some ⟨u2.heap.size, 0, none⟩) := hI.free (t := 8) (by kernel_rfl)
      have hgd : a.tmps.getD 35 undef = .bool false := hI.slot (i := 18) (d := 35) (hdep ⟨18, .guard⟩ (by simp) (by rfl)) rfl
      refine pstep (wanted_of rfl (Pu.yielded_of rfl hgd)) fun K hK => ?_
      clear hgd
      refine wp_load_int (.tmp 8) rfl u2.heap.size y h8 (C2.out.keep hI.below) ?_
      intro v hv hh
      exact hK _ _ (Below.refl _ _) (fun d hd => by cases hd; exact hv)
    · cases (Option.some.inj (show some _ = some o from ho))
      have h36 : IntAt w2 (a.tmps.getD 36 undef) (x) := hI.slot (i := 19) (d := 36) (hdep ⟨19, .data⟩ (by simp) (by rfl)) rfl
      obtain ⟨x36, e36⟩ : ∃ x, a.tmps.getD 36 undef = x := ⟨_, rfl⟩
      rw [e36] at h36
      have h37 : IntAt w2 (a.tmps.getD 37 undef) (y) := hI.slot (i := 20) (d := 37) (hdep ⟨20, .data⟩ (by simp) (by rfl)) rfl
      obtain ⟨x37, e37⟩ : ∃ x, a.tmps.getD 37 undef = x := ⟨_, rfl⟩
      rw [e37] at h37
      have hgd : a.tmps.getD 35 undef = .bool false := hI.slot (i := 18) (d := 35) (hdep ⟨18, .guard⟩ (by simp) (by rfl)) rfl
      refine pstep (wanted_of rfl (Pu.yielded_of rfl hgd)) fun K hK => ?_
      clear hgd
      clear hdep hI ho hi
      go_simp
      refine (Add_any x36 x37 _ _ _ h36 h37 (len_i HX.out) (len_i HY.out)).mono ?_
      rintro e w3 ⟨v3, rfl, hv3, hb3⟩
      exact hK _ _ hb3 (fun d hd => by cases hd; exact hv3)
    · cases (Option.some.inj (show some _ = some o from ho))
      have h9 : a.tmps.getD 9 undef = .pointer (some ⟨u3.heap.size, 0, none⟩) := hI.free (t := 9) (by kernel_rfl)
      have hgd : a.tmps.getD 35 undef = .bool false := hI.slot (i := 18) (d := 35) (hdep ⟨18, .guard⟩ (by simp) (by rfl)) rfl
      refine pstep (wanted_of rfl (Pu.yielded_of rfl hgd)) fun K hK => ?_
      clear hgd
      refine wp_load_int (.tmp 9) rfl u3.heap.size z h9 (C3.out.keep hI.below) ?_
      intro v hv hh
      exact hK _ _ (Below.refl _ _) (fun d hd => by cases hd; exact hv)
    · cases (Option.some.inj (show some _ = some o from ho))
      have h38 : IntAt w2 (a.tmps.getD 38 undef) (x + y) := hI.slot (i := 21) (d := 38) (hdep ⟨21, .data⟩ (by simp) (by rfl)) rfl
      obtain ⟨x38, e38⟩ : ∃ x, a.tmps.getD 38 undef = x := ⟨_, rfl⟩
      rw [e38] at h38
      have h39 : IntAt w2 (a.tmps.getD 39 undef) (z) := hI.slot (i := 22) (d := 39) (hdep ⟨22, .data⟩ (by simp) (by rfl)) rfl
      obtain ⟨x39, e39⟩ : ∃ x, a.tmps.getD 39 undef = x := ⟨_, rfl⟩
      rw [e39] at h39
      have hgd : a.tmps.getD 35 undef = .bool false := hI.slot (i := 18) (d := 35) (hdep ⟨18, .guard⟩ (by simp) (by rfl)) rfl
      refine pstep (wanted_of rfl (Pu.yielded_of rfl hgd)) fun K hK => ?_
      clear hgd
      clear hdep hI ho hi
      go_simp
      refine (Add_any x38 x39 _ _ _ h38 h39 (len_s HX.out HY.out) (len_i HZ.out)).mono ?_
      rintro e w3 ⟨v3, rfl, hv3, hb3⟩
      exact hK _ _ hb3 (fun d hd => by cases hd; exact hv3)
    · cases (Option.some.inj (show some _ = some o from ho))
      have h7 : a.tmps.getD 7 undef = .pointer (some ⟨u1.heap.size, 0, none⟩) := hI.free (t := 7) (by kernel_rfl)
      have hgd : a.tmps.getD 35 undef = .bool false := hI.slot (i := 18) (d := 35) (hdep ⟨18, .guard⟩ (by simp) (by rfl)) rfl
      refine pstep (wanted_of rfl (Pu.yielded_of rfl hgd)) fun K hK => ?_
      clear hgd
      refine wp_load_int (.tmp 7) rfl u1.heap.size x h7 (C1.out.keep hI.below) ?_
      intro v hv hh
      exact hK _ _ (Below.refl _ _) (fun d hd => by cases hd; exact hv)
    · cases (Option.some.inj (show some _ = some o from ho))
      have h8 : a.tmps.getD 8 undef = .pointer (some ⟨u2.heap.size, 0, none⟩) := hI.free (t := 8) (by kernel_rfl)
      have hgd : a.tmps.getD 35 undef = .bool false := hI.slot (i := 18) (d := 35) (hdep ⟨18, .guard⟩ (by simp) (by rfl)) rfl
      refine pstep (wanted_of rfl (Pu.yielded_of rfl hgd)) fun K hK => ?_
      clear hgd
      refine wp_load_int (.tmp 8) rfl u2.heap.size y h8 (C2.out.keep hI.below) ?_
      intro v hv hh
      exact hK _ _ (Below.refl _ _) (fun d hd => by cases hd; exact hv)
    · cases (Option.some.inj (show some _ = some o from ho))
      have h9 : a.tmps.getD 9 undef = .pointer (some ⟨u3.heap.size, 0, none⟩) := hI.free (t := 9) (by kernel_rfl)
      have hgd : a.tmps.getD 35 undef = .bool false := hI.slot (i := 18) (d := 35) (hdep ⟨18, .guard⟩ (by simp) (by rfl)) rfl
      refine pstep (wanted_of rfl (Pu.yielded_of rfl hgd)) fun K hK => ?_
      clear hgd
      refine wp_load_int (.tmp 9) rfl u3.heap.size z h9 (C3.out.keep hI.below) ?_
      intro v hv hh
      exact hK _ _ (Below.refl _ _) (fun d hd => by cases hd; exact hv)
    · cases (Option.some.inj (show some _ = some o from ho))
      have h42 : IntAt w2 (a.tmps.getD 42 undef) (y) := hI.slot (i := 25) (d := 42) (hdep ⟨25, .data⟩ (by simp) (by rfl)) rfl
      obtain ⟨x42, e42⟩ : ∃ x, a.tmps.getD 42 undef = x := ⟨_, rfl⟩
      rw [e42] at h42
      have h43 : IntAt w2 (a.tmps.getD 43 undef) (z) := hI.slot (i := 26) (d := 43) (hdep ⟨26, .data⟩ (by simp) (by rfl)) rfl
      obtain ⟨x43, e43⟩ : ∃ x, a.tmps.getD 43 undef = x := ⟨_, rfl⟩
      rw [e43] at h43
      have hgd : a.tmps.getD 35 undef = .bool false := hI.slot (i := 18) (d := 35) (hdep ⟨18, .guard⟩ (by simp) (by rfl)) rfl
      refine pstep (wanted_of rfl (Pu.yielded_of rfl hgd)) fun K hK => ?_
      clear hgd
      clear hdep hI ho hi
      go_simp
      refine (Add_any x42 x43 _ _ _ h42 h43 (len_i HY.out) (len_i HZ.out)).mono ?_
      rintro e w3 ⟨v3, rfl, hv3, hb3⟩
      exact hK _ _ hb3 (fun d hd => by cases hd; exact hv3)
    · cases (Option.some.inj (show some _ = some o from ho))
      have h41 : IntAt w2 (a.tmps.getD 41 undef) (x) := hI.slot (i := 24) (d := 41) (hdep ⟨24, .data⟩ (by simp) (by rfl)) rfl
      obtain ⟨x41, e41⟩ : ∃ x, a.tmps.getD 41 undef = x := ⟨_, rfl⟩
      rw [e41] at h41
      have h44 : IntAt w2 (a.tmps.getD 44 undef) (y + z) := hI.slot (i := 27) (d := 44) (hdep ⟨27, .data⟩ (by simp) (by rfl)) rfl
      obtain ⟨x44, e44⟩ : ∃ x, a.tmps.getD 44 undef = x := ⟨_, rfl⟩
      rw [e44] at h44
      have hgd : a.tmps.getD 35 undef = .bool false := hI.slot (i := 18) (d := 35) (hdep ⟨18, .guard⟩ (by simp) (by rfl)) rfl
      refine pstep (wanted_of rfl (Pu.yielded_of rfl hgd)) fun K hK => ?_
      clear hgd
      clear hdep hI ho hi
      go_simp
      refine (Add_any x41 x44 _ _ _ h41 h44 (len_i HX.out) (len_s HY.out HZ.out)).mono ?_
      rintro e w3 ⟨v3, rfl, hv3, hb3⟩
      exact hK _ _ hb3 (fun d hd => by cases hd; exact hv3)
    · cases (Option.some.inj (show some _ = some o from ho))
      have h40 : IntAt w2 (a.tmps.getD 40 undef) (x + y + z) := hI.slot (i := 23) (d := 40) (hdep ⟨23, .data⟩ (by simp) (by rfl)) rfl
      obtain ⟨x40, e40⟩ : ∃ x, a.tmps.getD 40 undef = x := ⟨_, rfl⟩
      rw [e40] at h40
      have h45 : IntAt w2 (a.tmps.getD 45 undef) (x + (y + z)) := hI.slot (i := 28) (d := 45) (hdep ⟨28, .data⟩ (by simp) (by rfl)) rfl
      obtain ⟨x45, e45⟩ : ∃ x, a.tmps.getD 45 undef = x := ⟨_, rfl⟩
      rw [e45] at h45
      have hgd : a.tmps.getD 35 undef = .bool false := hI.slot (i := 18) (d := 35) (hdep ⟨18, .guard⟩ (by simp) (by rfl)) rfl
      refine pstep (wanted_of rfl (Pu.yielded_of rfl hgd)) fun K hK => ?_
      clear hgd
      clear hdep hI ho hi
      go_simp
      refine (lawSame_any x40 x45 _ _ _ h40 h45).mono ?_
      rintro e w3 ⟨rfl, hb3⟩
      exact hK _ _ hb3 (fun d hd => by cases hd; exact congrArg Value.bool (decide_eq_true (Int.add_assoc x y z)))
    · cases (Option.some.inj (show some _ = some o from ho))
      have h46 : a.tmps.getD 46 undef = .bool true := hI.slot (i := 29) (d := 46) (hdep ⟨29, .data⟩ (by simp) (by rfl)) rfl
      have hgd : a.tmps.getD 35 undef = .bool false := hI.slot (i := 18) (d := 35) (hdep ⟨18, .guard⟩ (by simp) (by rfl)) rfl
      refine pstep (wanted_of rfl (Pu.yielded_of rfl hgd)) fun K hK => ?_
      clear hgd
      clear hdep hI ho hi
      go_simp
      exact hK _ _ (Below.refl _ _) (fun d hd => by cases hd; rfl)
    · cases (Option.some.inj (show some _ = some o from ho))
      have h35 : a.tmps.getD 35 undef = .bool false := hI.slot (i := 18) (d := 35) (hdep ⟨18, .data⟩ (by simp) (by rfl)) rfl
      have h47 : a.tmps.getD 47 undef = .bool false := hI.slot (i := 30) (d := 47) (hdep ⟨30, .data⟩ (by simp) (by rfl)) rfl
      refine pstep rfl fun K hK => ?_
      clear hdep hI ho hi
      go_simp
      exact hK _ _ (Below.refl _ _) (fun d hd => by cases hd; rfl)
    · cases (Option.some.inj (show some _ = some o from ho))
      have h48 : a.tmps.getD 48 undef = .bool false := hI.slot (i := 31) (d := 48) (hdep ⟨31, .data⟩ (by simp) (by rfl)) rfl
      refine pstep rfl fun K hK => ?_
      clear hdep hI ho hi
      go_simp
      exact hK _ _ (Below.refl _ _) (fun d hd => by cases hd; rfl)
    · cases (Option.some.inj (show some _ = some o from ho))
      have h7 : a.tmps.getD 7 undef = .pointer (some ⟨u1.heap.size, 0, none⟩) := hI.free (t := 7) (by kernel_rfl)
      have hgd : a.tmps.getD 49 undef = .bool false := hI.slot (i := 32) (d := 49) (hdep ⟨32, .guard⟩ (by simp) (by rfl)) rfl
      refine pstep (wanted_of rfl (Pu.yielded_of rfl hgd)) fun K hK => ?_
      clear hgd
      refine wp_load_int (.tmp 7) rfl u1.heap.size x h7 (C1.out.keep hI.below) ?_
      intro v hv hh
      exact hK _ _ (Below.refl _ _) (fun d hd => by cases hd; exact hv)
    · cases (Option.some.inj (show some _ = some o from ho))
      have h8 : a.tmps.getD 8 undef = .pointer (some ⟨u2.heap.size, 0, none⟩) := hI.free (t := 8) (by kernel_rfl)
      have hgd : a.tmps.getD 49 undef = .bool false := hI.slot (i := 32) (d := 49) (hdep ⟨32, .guard⟩ (by simp) (by rfl)) rfl
      refine pstep (wanted_of rfl (Pu.yielded_of rfl hgd)) fun K hK => ?_
      clear hgd
      refine wp_load_int (.tmp 8) rfl u2.heap.size y h8 (C2.out.keep hI.below) ?_
      intro v hv hh
      exact hK _ _ (Below.refl _ _) (fun d hd => by cases hd; exact hv)
    · cases (Option.some.inj (show some _ = some o from ho))
      have h50 : IntAt w2 (a.tmps.getD 50 undef) (x) := hI.slot (i := 33) (d := 50) (hdep ⟨33, .data⟩ (by simp) (by rfl)) rfl
      obtain ⟨x50, e50⟩ : ∃ x, a.tmps.getD 50 undef = x := ⟨_, rfl⟩
      rw [e50] at h50
      have h51 : IntAt w2 (a.tmps.getD 51 undef) (y) := hI.slot (i := 34) (d := 51) (hdep ⟨34, .data⟩ (by simp) (by rfl)) rfl
      obtain ⟨x51, e51⟩ : ∃ x, a.tmps.getD 51 undef = x := ⟨_, rfl⟩
      rw [e51] at h51
      have hgd : a.tmps.getD 49 undef = .bool false := hI.slot (i := 32) (d := 49) (hdep ⟨32, .guard⟩ (by simp) (by rfl)) rfl
      refine pstep (wanted_of rfl (Pu.yielded_of rfl hgd)) fun K hK => ?_
      clear hgd
      clear hdep hI ho hi
      go_simp
      refine (Mul_any x50 x51 _ _ _ h50 h51 (len_i HX.out) (len_i HY.out)).mono ?_
      rintro e w3 ⟨v3, rfl, hv3, hb3⟩
      exact hK _ _ hb3 (fun d hd => by cases hd; exact hv3)
    · cases (Option.some.inj (show some _ = some o from ho))
      have h9 : a.tmps.getD 9 undef = .pointer (some ⟨u3.heap.size, 0, none⟩) := hI.free (t := 9) (by kernel_rfl)
      have hgd : a.tmps.getD 49 undef = .bool false := hI.slot (i := 32) (d := 49) (hdep ⟨32, .guard⟩ (by simp) (by rfl)) rfl
      refine pstep (wanted_of rfl (Pu.yielded_of rfl hgd)) fun K hK => ?_
      clear hgd
      refine wp_load_int (.tmp 9) rfl u3.heap.size z h9 (C3.out.keep hI.below) ?_
      intro v hv hh
      exact hK _ _ (Below.refl _ _) (fun d hd => by cases hd; exact hv)
    · cases (Option.some.inj (show some _ = some o from ho))
      have h52 : IntAt w2 (a.tmps.getD 52 undef) (x * y) := hI.slot (i := 35) (d := 52) (hdep ⟨35, .data⟩ (by simp) (by rfl)) rfl
      obtain ⟨x52, e52⟩ : ∃ x, a.tmps.getD 52 undef = x := ⟨_, rfl⟩
      rw [e52] at h52
      have h53 : IntAt w2 (a.tmps.getD 53 undef) (z) := hI.slot (i := 36) (d := 53) (hdep ⟨36, .data⟩ (by simp) (by rfl)) rfl
      obtain ⟨x53, e53⟩ : ∃ x, a.tmps.getD 53 undef = x := ⟨_, rfl⟩
      rw [e53] at h53
      have hgd : a.tmps.getD 49 undef = .bool false := hI.slot (i := 32) (d := 49) (hdep ⟨32, .guard⟩ (by simp) (by rfl)) rfl
      refine pstep (wanted_of rfl (Pu.yielded_of rfl hgd)) fun K hK => ?_
      clear hgd
      clear hdep hI ho hi
      go_simp
      refine (Mul_any x52 x53 _ _ _ h52 h53 (len_p HX.out HY.out) (len_i HZ.out)).mono ?_
      rintro e w3 ⟨v3, rfl, hv3, hb3⟩
      exact hK _ _ hb3 (fun d hd => by cases hd; exact hv3)
    · cases (Option.some.inj (show some _ = some o from ho))
      have h7 : a.tmps.getD 7 undef = .pointer (some ⟨u1.heap.size, 0, none⟩) := hI.free (t := 7) (by kernel_rfl)
      have hgd : a.tmps.getD 49 undef = .bool false := hI.slot (i := 32) (d := 49) (hdep ⟨32, .guard⟩ (by simp) (by rfl)) rfl
      refine pstep (wanted_of rfl (Pu.yielded_of rfl hgd)) fun K hK => ?_
      clear hgd
      refine wp_load_int (.tmp 7) rfl u1.heap.size x h7 (C1.out.keep hI.below) ?_
      intro v hv hh
      exact hK _ _ (Below.refl _ _) (fun d hd => by cases hd; exact hv)
    · cases (Option.some.inj (show some _ = some o from ho))
      have h8 : a.tmps.getD 8 undef = .pointer (some ⟨u2.heap.size, 0, none⟩) := hI.free (t := 8) (by kernel_rfl)
      have hgd : a.tmps.getD 49 undef = .bool false := hI.slot (i := 32) (d := 49) (hdep ⟨32, .guard⟩ (by simp) (by rfl)) rfl
      refine pstep (wanted_of rfl (Pu.yielded_of rfl hgd)) fun K hK => ?_
      clear hgd
      refine wp_load_int (.tmp 8) rfl u2.heap.size y h8 (C2.out.keep hI.below) ?_
      intro v hv hh
      exact hK _ _ (Below.refl _ _) (fun d hd => by cases hd; exact hv)
    · cases (Option.some.inj (show some _ = some o from ho))
      have h9 : a.tmps.getD 9 undef = .pointer (some ⟨u3.heap.size, 0, none⟩) := hI.free (t := 9) (by kernel_rfl)
      have hgd : a.tmps.getD 49 undef = .bool false := hI.slot (i := 32) (d := 49) (hdep ⟨32, .guard⟩ (by simp) (by rfl)) rfl
      refine pstep (wanted_of rfl (Pu.yielded_of rfl hgd)) fun K hK => ?_
      clear hgd
      refine wp_load_int (.tmp 9) rfl u3.heap.size z h9 (C3.out.keep hI.below) ?_
      intro v hv hh
      exact hK _ _ (Below.refl _ _) (fun d hd => by cases hd; exact hv)
    · cases (Option.some.inj (show some _ = some o from ho))
      have h56 : IntAt w2 (a.tmps.getD 56 undef) (y) := hI.slot (i := 39) (d := 56) (hdep ⟨39, .data⟩ (by simp) (by rfl)) rfl
      obtain ⟨x56, e56⟩ : ∃ x, a.tmps.getD 56 undef = x := ⟨_, rfl⟩
      rw [e56] at h56
      have h57 : IntAt w2 (a.tmps.getD 57 undef) (z) := hI.slot (i := 40) (d := 57) (hdep ⟨40, .data⟩ (by simp) (by rfl)) rfl
      obtain ⟨x57, e57⟩ : ∃ x, a.tmps.getD 57 undef = x := ⟨_, rfl⟩
      rw [e57] at h57
      have hgd : a.tmps.getD 49 undef = .bool false := hI.slot (i := 32) (d := 49) (hdep ⟨32, .guard⟩ (by simp) (by rfl)) rfl
      refine pstep (wanted_of rfl (Pu.yielded_of rfl hgd)) fun K hK => ?_
      clear hgd
      clear hdep hI ho hi
      go_simp
      refine (Mul_any x56 x57 _ _ _ h56 h57 (len_i HY.out) (len_i HZ.out)).mono ?_
      rintro e w3 ⟨v3, rfl, hv3, hb3⟩
      exact hK _ _ hb3 (fun d hd => by cases hd; exact hv3)
    · cases (Option.some.inj (show some _ = some o from ho))
      have h55 : IntAt w2 (a.tmps.getD 55 undef) (x) := hI.slot (i := 38) (d := 55) (hdep ⟨38, .data⟩ (by simp) (by rfl)) rfl
      obtain ⟨x55, e55⟩ : ∃ x, a.tmps.getD 55 undef = x := ⟨_, rfl⟩
      rw [e55] at h55
      have h58 : IntAt w2 (a.tmps.getD 58 undef) (y * z) := hI.slot (i := 41) (d := 58) (hdep ⟨41, .data⟩ (by simp) (by rfl)) rfl
      obtain ⟨x58, e58⟩ : ∃ x, a.tmps.getD 58 undef = x := ⟨_, rfl⟩
      rw [e58] at h58
      have hgd : a.tmps.getD 49 undef = .bool false := hI.slot (i := 32) (d := 49) (hdep ⟨32, .guard⟩ (by simp) (by rfl)) rfl
      refine pstep (wanted_of rfl (Pu.yielded_of rfl hgd)) fun K hK => ?_
      clear hgd
      clear hdep hI ho hi
      go_simp
      refine (Mul_any x55 x58 _ _ _ h55 h58 (len_i HX.out) (len_p HY.out HZ.out)).mono ?_
      rintro e w3 ⟨v3, rfl, hv3, hb3⟩
      exact hK _ _ hb3 (fun d hd => by cases hd; exact hv3)
    · cases (Option.some.inj (show some _ = some o from ho))
      have h54 : IntAt w2 (a.tmps.getD 54 undef) (x * y * z) := hI.slot (i := 37) (d := 54) (hdep ⟨37, .data⟩ (by simp) (by rfl)) rfl
      obtain ⟨x54, e54⟩ : ∃ x, a.tmps.getD 54 undef = x := ⟨_, rfl⟩
      rw [e54] at h54
      have h59 : IntAt w2 (a.tmps.getD 59 undef) (x * (y * z)) := hI.slot (i := 42) (d := 59) (hdep ⟨42, .data⟩ (by simp) (by rfl)) rfl
      obtain ⟨x59, e59⟩ : ∃ x, a.tmps.getD 59 undef = x := ⟨_, rfl⟩
      rw [e59] at h59
      have hgd : a.tmps.getD 49 undef = .bool false := hI.slot (i := 32) (d := 49) (hdep ⟨32, .guard⟩ (by simp) (by rfl)) rfl
      refine pstep (wanted_of rfl (Pu.yielded_of rfl hgd)) fun K hK => ?_
      clear hgd
      clear hdep hI ho hi
      go_simp
      refine (lawSame_any x54 x59 _ _ _ h54 h59).mono ?_
      rintro e w3 ⟨rfl, hb3⟩
      exact hK _ _ hb3 (fun d hd => by cases hd; exact congrArg Value.bool (decide_eq_true (Int.mul_assoc x y z)))
    · cases (Option.some.inj (show some _ = some o from ho))
      have h60 : a.tmps.getD 60 undef = .bool true := hI.slot (i := 43) (d := 60) (hdep ⟨43, .data⟩ (by simp) (by rfl)) rfl
      have hgd : a.tmps.getD 49 undef = .bool false := hI.slot (i := 32) (d := 49) (hdep ⟨32, .guard⟩ (by simp) (by rfl)) rfl
      refine pstep (wanted_of rfl (Pu.yielded_of rfl hgd)) fun K hK => ?_
      clear hgd
      clear hdep hI ho hi
      go_simp
      exact hK _ _ (Below.refl _ _) (fun d hd => by cases hd; rfl)
    · cases (Option.some.inj (show some _ = some o from ho))
      have h49 : a.tmps.getD 49 undef = .bool false := hI.slot (i := 32) (d := 49) (hdep ⟨32, .data⟩ (by simp) (by rfl)) rfl
      have h61 : a.tmps.getD 61 undef = .bool false := hI.slot (i := 44) (d := 61) (hdep ⟨44, .data⟩ (by simp) (by rfl)) rfl
      refine pstep rfl fun K hK => ?_
      clear hdep hI ho hi
      go_simp
      exact hK _ _ (Below.refl _ _) (fun d hd => by cases hd; rfl)
  · intro L a w2 o ho
    exact absurd ho (by simp)
  · intro _ L a w2 hall hI
    have h62 : a.tmps.getD 62 undef = .bool false := hI.slot (i := 45) (d := 62) (hall 45 (by decide)) rfl
    have HBL := hid hI.below
    refine hret _ _ ?_
    have hf := hI.frame [17, 18, 19, 20, 21, 22, 23, 24, 25, 26, 27, 28, 29, 30, 31, 32, 33, 34, 35, 36, 37, 38, 39, 40, 41, 42, 43, 44, 45, 46, 47, 48, 49, 50, 51, 52, 53, 54, 55, 56, 57, 58, 59, 60, 61, 62] (by kernel_rfl)
    simp only [List.foldl_cons, List.foldl_nil] at hf
    clear hI hall
    generalize a.tmps.getD 17 undef = y17 at *
    generalize a.tmps.getD 18 undef = y18 at *
    generalize a.tmps.getD 19 undef = y19 at *
    generalize a.tmps.getD 20 undef = y20 at *
    generalize a.tmps.getD 21 undef = y21 at *
    generalize a.tmps.getD 22 undef = y22 at *
    generalize a.tmps.getD 23 undef = y23 at *
    generalize a.tmps.getD 24 undef = y24 at *
    generalize a.tmps.getD 25 undef = y25 at *
    generalize a.tmps.getD 26 undef = y26 at *
    generalize a.tmps.getD 27 undef = y27 at *
    generalize a.tmps.getD 28 undef = y28 at *
    generalize a.tmps.getD 29 undef = y29 at *
    generalize a.tmps.getD 30 undef = y30 at *
    generalize a.tmps.getD 31 undef = y31 at *
    generalize a.tmps.getD 32 undef = y32 at *
    generalize a.tmps.getD 33 undef = y33 at *
    generalize a.tmps.getD 34 undef = y34 at *
    generalize a.tmps.getD 35 undef = y35 at *
    generalize a.tmps.getD 36 undef = y36 at *
    generalize a.tmps.getD 37 undef = y37 at *
    generalize a.tmps.getD 38 undef = y38 at *
    generalize a.tmps.getD 39 undef = y39 at *
    generalize a.tmps.getD 40 undef = y40 at *
    generalize a.tmps.getD 41 undef = y41 at *
    generalize a.tmps.getD 42 undef = y42 at *
    generalize a.tmps.getD 43 undef = y43 at *
    generalize a.tmps.getD 44 undef = y44 at *
    generalize a.tmps.getD 45 undef = y45 at *
    generalize a.tmps.getD 46 undef = y46 at *
    generalize a.tmps.getD 47 undef = y47 at *
    generalize a.tmps.getD 48 undef = y48 at *
    generalize a.tmps.getD 49 undef = y49 at *
    generalize a.tmps.getD 50 undef = y50 at *
    generalize a.tmps.getD 51 undef = y51 at *
    generalize a.tmps.getD 52 undef = y52 at *
    generalize a.tmps.getD 53 undef = y53 at *
    generalize a.tmps.getD 54 undef = y54 at *
    generalize a.tmps.getD 55 undef = y55 at *
    generalize a.tmps.getD 56 undef = y56 at *
    generalize a.tmps.getD 57 undef = y57 at *
    generalize a.tmps.getD 58 undef = y58 at *
    generalize a.tmps.getD 59 undef = y59 at *
    generalize a.tmps.getD 60 undef = y60 at *
    generalize a.tmps.getD 61 undef = y61 at *
    generalize a.tmps.getD 62 undef = y62 at *
    subst hf
    subst h62
    go_simp
    replace C1 := hid (C1.out.keep HBL.out)
    replace C2 := hid (C2.out.keep HBL.out)
    replace C3 := hid (C3.out.keep HBL.out)
    replace HT := hid (HT.out.keep HBL.out)
    replace HB := hid (Pu.further HB.out HBL.out)
    clear HBL
    go_upto_region 6 with fail
    rename_i hret
    refine Pu.wp_region_pure 24 (Slots [(63, .int (x)), (64, .int (y)), (65, .int (z)), (66, .int (y + z)), (67, .int (x * (y + z))), (68, .int (x)), (69, .int (y)), (70, .int (x * y)), (71, .int (x)), (72, .int (z)), (73, .int (x * z)), (74, .int (x * y + x * z)), (75, .eq (.bool true)), (76, .eq (.bool false)), (77, .eq (.bool false)), (78, .int (x)), (79, .int (y)), (80, .int (x + y)), (81, .int (y)), (82, .int (x + y - y)), (83, .int (x)), (84, .eq (.bool true)), (85, .eq (.bool false)), (86, .eq (.bool false))]) (by kernel_rfl) (by kernel_rfl) (by kernel_rfl) (fun hfn => absurd hfn (by decide)) (Slots.keep _) ?_ ?_ ?_
    · intro L a w2 i o ho hne2 hL hdep hI
      have hi : i < 24 := (Array.getElem?_eq_some_iff.1 ho).1
      rcases (show i = 0 ∨ i = 1 ∨ i = 2 ∨ i = 3 ∨ i = 4 ∨ i = 5 ∨ i = 6 ∨ i = 7 ∨ i = 8 ∨ i = 9 ∨ i = 10 ∨ i = 11 ∨ i = 12 ∨ i = 13 ∨ i = 14 ∨ i = 15 ∨ i = 16 ∨ i = 17 ∨ i = 18 ∨ i = 19 ∨ i = 20 ∨ i = 21 ∨ i = 22 ∨ i = 23 by omega) with rfl | rfl | rfl | rfl | rfl | rfl | rfl | rfl | rfl | rfl | rfl | rfl | rfl | rfl | rfl | rfl | rfl | rfl | rfl | rfl | rfl | rfl | rfl | rfl
      · cases (Option.some.inj (show some _ = some o from ho))
        have h7 : a.tmps.getD 7 undef = .pointer (some ⟨u1.heap.size, 0, none⟩) := hI.free (t := 7) (by kernel_rfl)
        refine pstep rfl fun K hK => ?_
        refine wp_load_int (.tmp 7) rfl u1.heap.size x h7 (C1.out.keep hI.below) ?_
        intro v hv hh
        exact hK _ _ (Below.refl _ _) (fun d hd => by cases hd; exact hv)
      · cases (Option.some.inj (show some _ = some o from ho))
        have h8 : a.tmps.getD 8 undef = .pointer (some ⟨u2.heap.size, 0, none⟩) := hI.free (t := 8) (by kernel_rfl)
        refine pstep rfl fun K hK => ?_
        refine wp_load_int (.tmp 8) rfl u2.heap.size y h8 (C2.out.keep hI.below) ?_
        intro v hv hh
        exact hK _ _ (Below.refl _ _) (fun d hd => by cases hd; exact hv)
      · cases (Option.some.inj (show some _ = some o from ho))
        have h9 : a.tmps.getD 9 undef = .pointer (some ⟨u3.heap.size, 0, none⟩) := hI.free (t := 9) (by kernel_rfl)
        refine pstep rfl fun K hK => ?_
        refine wp_load_int (.tmp 9) rfl u3.heap.size z h9 (C3.out.keep hI.below) ?_
        intro v hv hh
        exact hK _ _ (Below.refl _ _) (fun d hd => by cases hd; exact hv)
      · cases (Option.some.inj (show some _ = some o from ho))
        have h64 : IntAt w2 (a.tmps.getD 64 undef) (y) := hI.slot (i := 1) (d := 64) (hdep ⟨1, .data⟩ (by simp) (by rfl)) rfl
        obtain ⟨x64, e64⟩ : ∃ x, a.tmps.getD 64 undef = x := ⟨_, rfl⟩
        rw [e64] at h64
        have h65 : IntAt w2 (a.tmps.getD 65 undef) (z) := hI.slot (i := 2) (d := 65) (hdep ⟨2, .data⟩ (by simp) (by rfl)) rfl
        obtain ⟨x65, e65⟩ : ∃ x, a.tmps.getD 65 undef = x := ⟨_, rfl⟩
        rw [e65] at h65
        refine pstep rfl fun K hK => ?_
        clear hdep hI ho hi
        go_simp
        refine (Add_any x64 x65 _ _ _ h64 h65 (len_i HY.out) (len_i HZ.out)).mono ?_
        rintro e w3 ⟨v3, rfl, hv3, hb3⟩
        exact hK _ _ hb3 (fun d hd => by cases hd; exact hv3)
      · cases (Option.some.inj (show some _ = some o from ho))
        have h63 : IntAt w2 (a.tmps.getD 63 undef) (x) := hI.slot (i := 0) (d := 63) (hdep ⟨0, .data⟩ (by simp) (by rfl)) rfl
        obtain ⟨x63, e63⟩ : ∃ x, a.tmps.getD 63 undef = x := ⟨_, rfl⟩
        rw [e63] at h63
        have h66 : IntAt w2 (a.tmps.getD 66 undef) (y + z) := hI.slot (i := 3) (d := 66) (hdep ⟨3, .data⟩ (by simp) (by rfl)) rfl
        obtain ⟨x66, e66⟩ : ∃ x, a.tmps.getD 66 undef = x := ⟨_, rfl⟩
        rw [e66] at h66
        refine pstep rfl fun K hK => ?_
        clear hdep hI ho hi
        go_simp
        refine (Mul_any x63 x66 _ _ _ h63 h66 (len_i HX.out) (len_s HY.out HZ.out)).mono ?_
        rintro e w3 ⟨v3, rfl, hv3, hb3⟩
        exact hK _ _ hb3 (fun d hd => by cases hd; exact hv3)
      · cases (Option.some.inj (show some _ = some o from ho))
        have h7 : a.tmps.getD 7 undef = .pointer (some ⟨u1.heap.size, 0, none⟩) := hI.free (t := 7) (by kernel_rfl)
        refine pstep rfl fun K hK => ?_
        refine wp_load_int (.tmp 7) rfl u1.heap.size x h7 (C1.out.keep hI.below) ?_
        intro v hv hh
        exact hK _ _ (Below.refl _ _) (fun d hd => by cases hd; exact hv)
      · cases (Option.some.inj (show some _ = some o from ho))
        have h8 : a.tmps.getD 8 undef = .pointer (some ⟨u2.heap.size, 0, none⟩) := hI.free (t := 8) (by kernel_rfl)
        refine pstep rfl fun K hK => ?_
        refine wp_load_int (.tmp 8) rfl u2.heap.size y h8 (C2.out.keep hI.below) ?_
        intro v hv hh
        exact hK _ _ (Below.refl _ _) (fun d hd => by cases hd; exact hv)
      · cases (Option.some.inj (show some _ = some o from ho))
        have h68 : IntAt w2 (a.tmps.getD 68 undef) (x) := hI.slot (i := 5) (d := 68) (hdep ⟨5, .data⟩ (by simp) (by rfl)) rfl
        obtain ⟨x68, e68⟩ : ∃ x, a.tmps.getD 68 undef = x := ⟨_, rfl⟩
        rw [e68] at h68
        have h69 : IntAt w2 (a.tmps.getD 69 undef) (y) := hI.slot (i := 6) (d := 69) (hdep ⟨6, .data⟩ (by simp) (by rfl)) rfl
        obtain ⟨x69, e69⟩ : ∃ x, a.tmps.getD 69 undef = x := ⟨_, rfl⟩
        rw [e69] at h69
        refine pstep rfl fun K hK => ?_
        clear hdep hI ho hi
        go_simp
        refine (Mul_any x68 x69 _ _ _ h68 h69 (len_i HX.out) (len_i HY.out)).mono ?_
        rintro e w3 ⟨v3, rfl, hv3, hb3⟩
        exact hK _ _ hb3 (fun d hd => by cases hd; exact hv3)
      · cases (Option.some.inj (show some _ = some o from ho))
        have h7 : a.tmps.getD 7 undef = .pointer (some ⟨u1.heap.size, 0, none⟩) := hI.free (t := 7) (by kernel_rfl)
        refine pstep rfl fun K hK => ?_
        refine wp_load_int (.tmp 7) rfl u1.heap.size x h7 (C1.out.keep hI.below) ?_
        intro v hv hh
        exact hK _ _ (Below.refl _ _) (fun d hd => by cases hd; exact hv)
      · cases (Option.some.inj (show some _ = some o from ho))
        have h9 : a.tmps.getD 9 undef = .pointer (some ⟨u3.heap.size, 0, none⟩) := hI.free (t := 9) (by kernel_rfl)
        refine pstep rfl fun K hK => ?_
        refine wp_load_int (.tmp 9) rfl u3.heap.size z h9 (C3.out.keep hI.below) ?_
        intro v hv hh
        exact hK _ _ (Below.refl _ _) (fun d hd => by cases hd; exact hv)
      · cases (Option.some.inj (show some _ = some o from ho))
        have h71 : IntAt w2 (a.tmps.getD 71 undef) (x) := hI.slot (i := 8) (d := 71) (hdep ⟨8, .data⟩ (by simp) (by rfl)) rfl
        obtain ⟨x71, e71⟩ : ∃ x, a.tmps.getD 71 undef = x := ⟨_, rfl⟩
        rw [e71] at h71
        have h72 : IntAt w2 (a.tmps.getD 72 undef) (z) := hI.slot (i := 9) (d := 72) (hdep ⟨9, .data⟩ (by simp) (by rfl)) rfl
        obtain ⟨x72, e72⟩ : ∃ x, a.tmps.getD 72 undef = x := ⟨_, rfl⟩
        rw [e72] at h72
        refine pstep rfl fun K hK => ?_
        clear hdep hI ho hi
        go_simp
        refine (Mul_any x71 x72 _ _ _ h71 h72 (len_i HX.out) (len_i HZ.out)).mono ?_
        rintro e w3 ⟨v3, rfl, hv3, hb3⟩
        exact hK _ _ hb3 (fun d hd => by cases hd; exact hv3)
      · cases (Option.some.inj (show some _ = some o from ho))
        have h70 : IntAt w2 (a.tmps.getD 70 undef) (x * y) := hI.slot (i := 7) (d := 70) (hdep ⟨7, .data⟩ (by simp) (by rfl)) rfl
        obtain ⟨x70, e70⟩ : ∃ x, a.tmps.getD 70 undef = x := ⟨_, rfl⟩
        rw [e70] at h70
        have h73 : IntAt w2 (a.tmps.getD 73 undef) (x * z) := hI.slot (i := 10) (d := 73) (hdep ⟨10, .data⟩ (by simp) (by rfl)) rfl
        obtain ⟨x73, e73⟩ : ∃ x, a.tmps.getD 73 undef = x := ⟨_, rfl⟩
        rw [e73] at h73
        refine pstep rfl fun K hK => ?_
        clear hdep hI ho hi
        go_simp
        refine (Add_any x70 x73 _ _ _ h70 h73 (len_p HX.out HY.out) (len_p HX.out HZ.out)).mono ?_
        rintro e w3 ⟨v3, rfl, hv3, hb3⟩
        exact hK _ _ hb3 (fun d hd => by cases hd; exact hv3)
      · cases (Option.some.inj (show some _ = some o from ho))
        have h67 : IntAt w2 (a.tmps.getD 67 undef) (x * (y + z)) := hI.slot (i := 4) (d := 67) (hdep ⟨4, .data⟩ (by simp) (by rfl)) rfl
        obtain ⟨x67, e67⟩ : ∃ x, a.tmps.getD 67 undef = x := ⟨_, rfl⟩
        rw [e67] at h67
        have h74 : IntAt w2 (a.tmps.getD 74 undef) (x * y + x * z) := hI.slot (i := 11) (d := 74) (hdep ⟨11, .data⟩ (by simp) (by rfl)) rfl
        obtain ⟨x74, e74⟩ : ∃ x, a.tmps.getD 74 undef = x := ⟨_, rfl⟩
        rw [e74] at h74
        refine pstep rfl fun K hK => ?_
        clear hdep hI ho hi
        go_simp
        refine (lawSame_any x67 x74 _ _ _ h67 h74).mono ?_
        rintro e w3 ⟨rfl, hb3⟩
        exact hK _ _ hb3 (fun d hd => by cases hd; exact congrArg Value.bool (decide_eq_true (Int.mul_add x y z)))
      · cases (Option.some.inj (show some _ = some o from ho))
        have h75 : a.tmps.getD 75 undef = .bool true := hI.slot (i := 12) (d := 75) (hdep ⟨12, .data⟩ (by simp) (by rfl)) rfl
        refine pstep rfl fun K hK => ?_
        clear hdep hI ho hi
        go_simp
        exact hK _ _ (Below.refl _ _) (fun d hd => by cases hd; rfl)
      · cases (Option.some.inj (show some _ = some o from ho))
        have h76 : a.tmps.getD 76 undef = .bool false := hI.slot (i := 13) (d := 76) (hdep ⟨13, .data⟩ (by simp) (by rfl)) rfl
        refine pstep rfl fun K hK => ?_
        clear hdep hI ho hi
        go_simp
        exact hK _ _ (Below.refl _ _) (fun d hd => by cases hd; rfl)
      · cases (Option.some.inj (show some _ = some o from ho))
        have h7 : a.tmps.getD 7 undef = .pointer (some ⟨u1.heap.size, 0, none⟩) := hI.free (t := 7) (by kernel_rfl)
        have hgd : a.tmps.getD 77 undef = .bool false := hI.slot (i := 14) (d := 77) (hdep ⟨14, .guard⟩ (by simp) (by rfl)) rfl
        refine pstep (wanted_of rfl (Pu.yielded_of rfl hgd)) fun K hK => ?_
        clear hgd
        refine wp_load_int (.tmp 7) rfl u1.heap.size x h7 (C1.out.keep hI.below) ?_
        intro v hv hh
        exact hK _ _ (Below.refl _ _) (fun d hd => by cases hd; exact hv)
      · cases (Option.some.inj (show some _ = some o from ho))
        have h8 : a.tmps.getD 8 undef = .pointer (some ⟨u2.heap.size, 0, none⟩) := hI.free (t := 8) (by kernel_rfl)
        have hgd : a.tmps.getD 77 undef = .bool false := hI.slot (i := 14) (d := 77) (hdep ⟨14, .guard⟩ (by simp) (by rfl)) rfl
        refine pstep (wanted_of rfl (Pu.yielded_of rfl hgd)) fun K hK => ?_
        clear hgd
        refine wp_load_int (.tmp 8) rfl u2.heap.size y h8 (C2.out.keep hI.below) ?_
        intro v hv hh
        exact hK _ _ (Below.refl _ _) (fun d hd => by cases hd; exact hv)
      · cases (Option.some.inj (show some _ = some o from ho))
        have h78 : IntAt w2 (a.tmps.getD 78 undef) (x) := hI.slot (i := 15) (d := 78) (hdep ⟨15, .data⟩ (by simp) (by rfl)) rfl
        obtain ⟨x78, e78⟩ : ∃ x, a.tmps.getD 78 undef = x := ⟨_, rfl⟩
        rw [e78] at h78
        have h79 : IntAt w2 (a.tmps.getD 79 undef) (y) := hI.slot (i := 16) (d := 79) (hdep ⟨16, .data⟩ (by simp) (by rfl)) rfl
        obtain ⟨x79, e79⟩ : ∃ x, a.tmps.getD 79 undef = x := ⟨_, rfl⟩
        rw [e79] at h79
        have hgd : a.tmps.getD 77 undef = .bool false := hI.slot (i := 14) (d := 77) (hdep ⟨14, .guard⟩ (by simp) (by rfl)) rfl
        refine pstep (wanted_of rfl (Pu.yielded_of rfl hgd)) fun K hK => ?_
        clear hgd
        clear hdep hI ho hi
        go_simp
        refine (Add_any x78 x79 _ _ _ h78 h79 (len_i HX.out) (len_i HY.out)).mono ?_
        rintro e w3 ⟨v3, rfl, hv3, hb3⟩
        exact hK _ _ hb3 (fun d hd => by cases hd; exact hv3)
      · cases (Option.some.inj (show some _ = some o from ho))
        have h8 : a.tmps.getD 8 undef = .pointer (some ⟨u2.heap.size, 0, none⟩) := hI.free (t := 8) (by kernel_rfl)
        have hgd : a.tmps.getD 77 undef = .bool false := hI.slot (i := 14) (d := 77) (hdep ⟨14, .guard⟩ (by simp) (by rfl)) rfl
        refine pstep (wanted_of rfl (Pu.yielded_of rfl hgd)) fun K hK => ?_
        clear hgd
        refine wp_load_int (.tmp 8) rfl u2.heap.size y h8 (C2.out.keep hI.below) ?_
        intro v hv hh
        exact hK _ _ (Below.refl _ _) (fun d hd => by cases hd; exact hv)
      · cases (Option.some.inj (show some _ = some o from ho))
        have h80 : IntAt w2 (a.tmps.getD 80 undef) (x + y) := hI.slot (i := 17) (d := 80) (hdep ⟨17, .data⟩ (by simp) (by rfl)) rfl
        obtain ⟨x80, e80⟩ : ∃ x, a.tmps.getD 80 undef = x := ⟨_, rfl⟩
        rw [e80] at h80
        have h81 : IntAt w2 (a.tmps.getD 81 undef) (y) := hI.slot (i := 18) (d := 81) (hdep ⟨18, .data⟩ (by simp) (by rfl)) rfl
        obtain ⟨x81, e81⟩ : ∃ x, a.tmps.getD 81 undef = x := ⟨_, rfl⟩
        rw [e81] at h81
        have hgd : a.tmps.getD 77 undef = .bool false := hI.slot (i := 14) (d := 77) (hdep ⟨14, .guard⟩ (by simp) (by rfl)) rfl
        refine pstep (wanted_of rfl (Pu.yielded_of rfl hgd)) fun K hK => ?_
        clear hgd
        clear hdep hI ho hi
        go_simp
        refine (Sub_any x80 x81 _ _ _ h80 h81 (len_s HX.out HY.out) (len_i HY.out)).mono ?_
        rintro e w3 ⟨v3, rfl, hv3, hb3⟩
        exact hK _ _ hb3 (fun d hd => by cases hd; exact hv3)
      · cases (Option.some.inj (show some _ = some o from ho))
        have h7 : a.tmps.getD 7 undef = .pointer (some ⟨u1.heap.size, 0, none⟩) := hI.free (t := 7) (by kernel_rfl)
        have hgd : a.tmps.getD 77 undef = .bool false := hI.slot (i := 14) (d := 77) (hdep ⟨14, .guard⟩ (by simp) (by rfl)) rfl
        refine pstep (wanted_of rfl (Pu.yielded_of rfl hgd)) fun K hK => ?_
        clear hgd
        refine wp_load_int (.tmp 7) rfl u1.heap.size x h7 (C1.out.keep hI.below) ?_
        intro v hv hh
        exact hK _ _ (Below.refl _ _) (fun d hd => by cases hd; exact hv)
      · cases (Option.some.inj (show some _ = some o from ho))
        have h82 : IntAt w2 (a.tmps.getD 82 undef) (x + y - y) := hI.slot (i := 19) (d := 82) (hdep ⟨19, .data⟩ (by simp) (by rfl)) rfl
        obtain ⟨x82, e82⟩ : ∃ x, a.tmps.getD 82 undef = x := ⟨_, rfl⟩
        rw [e82] at h82
        have h83 : IntAt w2 (a.tmps.getD 83 undef) (x) := hI.slot (i := 20) (d := 83) (hdep ⟨20, .data⟩ (by simp) (by rfl)) rfl
        obtain ⟨x83, e83⟩ : ∃ x, a.tmps.getD 83 undef = x := ⟨_, rfl⟩
        rw [e83] at h83
        have hgd : a.tmps.getD 77 undef = .bool false := hI.slot (i := 14) (d := 77) (hdep ⟨14, .guard⟩ (by simp) (by rfl)) rfl
        refine pstep (wanted_of rfl (Pu.yielded_of rfl hgd)) fun K hK => ?_
        clear hgd
        clear hdep hI ho hi
        go_simp
        refine (lawSame_any x82 x83 _ _ _ h82 h83).mono ?_
        rintro e w3 ⟨rfl, hb3⟩
        exact hK _ _ hb3 (fun d hd => by cases hd; exact congrArg Value.bool (decide_eq_true (Int.add_sub_cancel x y)))
      · cases (Option.some.inj (show some _ = some o from ho))
        have h84 : a.tmps.getD 84 undef = .bool true := hI.slot (i := 21) (d := 84) (hdep ⟨21, .data⟩ (by simp) (by rfl)) rfl
        have hgd : a.tmps.getD 77 undef = .bool false := hI.slot (i := 14) (d := 77) (hdep ⟨14, .guard⟩ (by simp) (by rfl)) rfl
        refine pstep (wanted_of rfl (Pu.yielded_of rfl hgd)) fun K hK => ?_
        clear hgd
        clear hdep hI ho hi
        go_simp
        exact hK _ _ (Below.refl _ _) (fun d hd => by cases hd; rfl)
      · cases (Option.some.inj (show some _ = some o from ho))
        have h77 : a.tmps.getD 77 undef = .bool false := hI.slot (i := 14) (d := 77) (hdep ⟨14, .data⟩ (by simp) (by rfl)) rfl
        have h85 : a.tmps.getD 85 undef = .bool false := hI.slot (i := 22) (d := 85) (hdep ⟨22, .data⟩ (by simp) (by rfl)) rfl
        refine pstep rfl fun K hK => ?_
        clear hdep hI ho hi
        go_simp
        exact hK _ _ (Below.refl _ _) (fun d hd => by cases hd; rfl)
    · intro L a w2 o ho
      exact absurd ho (by simp)
    · intro _ L a w2 hall hI
      have h86 : a.tmps.getD 86 undef = .bool false := hI.slot (i := 23) (d := 86) (hall 23 (by decide)) rfl
      have HBL := hid hI.below
      refine hret _ _ ?_
      have hf := hI.frame [63, 64, 65, 66, 67, 68, 69, 70, 71, 72, 73, 74, 75, 76, 77, 78, 79, 80, 81, 82, 83, 84, 85, 86] (by kernel_rfl)
      simp only [List.foldl_cons, List.foldl_nil] at hf
      clear hI hall
      generalize a.tmps.getD 63 undef = y63 at *
      generalize a.tmps.getD 64 undef = y64 at *
      generalize a.tmps.getD 65 undef = y65 at *
      generalize a.tmps.getD 66 undef = y66 at *
      generalize a.tmps.getD 67 undef = y67 at *
      generalize a.tmps.getD 68 undef = y68 at *
      generalize a.tmps.getD 69 undef = y69 at *
      generalize a.tmps.getD 70 undef = y70 at *
      generalize a.tmps.getD 71 undef = y71 at *
      generalize a.tmps.getD 72 undef = y72 at *
      generalize a.tmps.getD 73 undef = y73 at *
      generalize a.tmps.getD 74 undef = y74 at *
      generalize a.tmps.getD 75 undef = y75 at *
      generalize a.tmps.getD 76 undef = y76 at *
      generalize a.tmps.getD 77 undef = y77 at *
      generalize a.tmps.getD 78 undef = y78 at *
      generalize a.tmps.getD 79 undef = y79 at *
      generalize a.tmps.getD 80 undef = y80 at *
      generalize a.tmps.getD 81 undef = y81 at *
      generalize a.tmps.getD 82 undef = y82 at *
      generalize a.tmps.getD 83 undef = y83 at *
      generalize a.tmps.getD 84 undef = y84 at *
      generalize a.tmps.getD 85 undef = y85 at *
      generalize a.tmps.getD 86 undef = y86 at *
      subst hf
      subst h86
      go_simp
      replace C1 := hid (C1.out.keep HBL.out)
      replace C2 := hid (C2.out.keep HBL.out)
      replace C3 := hid (C3.out.keep HBL.out)
      replace HT := hid (HT.out.keep HBL.out)
      replace HB := hid (Pu.further HB.out HBL.out)
      clear HBL
      obtain ⟨vx, hvx, hhx⟩ := C1.out
      obtain ⟨vy, hvy, hhy⟩ := C2.out
      have HVX := hid hvx
      have HVY := hid hvy
      have HHX := hid hhx
      have HHY := hid hhy
      clear hvx hvy hhx hhy
      go_wp2_with (first | (with_reducible refine wpList_load_int rfl (.tmp 7) rfl u1.heap.size vx _ rfl HVX.out HHX.out ?_) | (with_reducible refine wpList_load_int rfl (.tmp 8) rfl u2.heap.size vy _ rfl HVY.out HHY.out ?_))
      refine (Compare_any _ _ _ _ _ HVX.out HVY.out).mono ?_
      rintro e u5 ⟨rfl, hb⟩
      have HBL := hid hb
      clear hb HVX HVY HHX HHY
      replace C1 := hid (C1.out.keep HBL.out)
      replace C2 := hid (C2.out.keep HBL.out)
      replace C3 := hid (C3.out.keep HBL.out)
      replace HT := hid (HT.out.keep HBL.out)
      replace HB := hid (Pu.further HB.out HBL.out)
      clear HBL
      go_upto_region 9 with fail
      rename_i hret
      refine Pu.wp_region_pure 21 (Slots [(90, .eq (.int .i64 (cmpI x y))), (91, .int (x)), (92, .int (y)), (93, .int (x - y)), (94, .eq (.int .i64 (cmpI x y))), (95, .eq (.bool true)), (96, .eq (.bool true)), (97, .eq (.int .i64 (cmpI x y))), (98, .int (x)), (99, .int (z)), (100, .int (x + z)), (101, .int (y)), (102, .int (z)), (103, .int (y + z)), (104, .eq (.int .i64 (cmpI x y))), (105, .eq (.bool true)), (106, .eq (.bool true)), (107, .eq (.bool true)), (108, .eq (.bool true)), (109, .eq (.bool true)), (6, .eq (.bool true))]) (by kernel_rfl) (by kernel_rfl) (by kernel_rfl) (fun hfn => absurd hfn (by decide)) (Slots.keep _) ?_ ?_ ?_
      · intro L a w2 i o ho hne2 hL hdep hI
        have hi : i < 21 := (Array.getElem?_eq_some_iff.1 ho).1
        rcases (show i = 0 ∨ i = 1 ∨ i = 2 ∨ i = 3 ∨ i = 4 ∨ i = 5 ∨ i = 6 ∨ i = 7 ∨ i = 8 ∨ i = 9 ∨ i = 10 ∨ i = 11 ∨ i = 12 ∨ i = 13 ∨ i = 14 ∨ i = 15 ∨ i = 16 ∨ i = 17 ∨ i = 18 ∨ i = 19 ∨ i = 20 by omega) with rfl | rfl | rfl | rfl | rfl | rfl | rfl | rfl | rfl | rfl | rfl | rfl | rfl | rfl | rfl | rfl | rfl | rfl | rfl | rfl | rfl
        · cases (Option.some.inj (show some _ = some o from ho))
          have h10 : a.tmps.getD 10 undef = .int .i64 (cmpI x y) := hI.free (t := 10) (by kernel_rfl)
          refine pstep rfl fun K hK => ?_
          clear hdep hI ho hi
          go_simp
          exact hK _ _ (Below.refl _ _) (fun d hd => by cases hd; rfl)
        · cases (Option.some.inj (show some _ = some o from ho))
          have h7 : a.tmps.getD 7 undef = .pointer (some ⟨u1.heap.size, 0, none⟩) := hI.free (t := 7) (by kernel_rfl)
          refine pstep rfl fun K hK => ?_
          refine wp_load_int (.tmp 7) rfl u1.heap.size x h7 (C1.out.keep hI.below) ?_
          intro v hv hh
          exact hK _ _ (Below.refl _ _) (fun d hd => by cases hd; exact hv)
        · cases (Option.some.inj (show some _ = some o from ho))
          have h8 : a.tmps.getD 8 undef = .pointer (some ⟨u2.heap.size, 0, none⟩) := hI.free (t := 8) (by kernel_rfl)
          refine pstep rfl fun K hK => ?_
          refine wp_load_int (.tmp 8) rfl u2.heap.size y h8 (C2.out.keep hI.below) ?_
          intro v hv hh
          exact hK _ _ (Below.refl _ _) (fun d hd => by cases hd; exact hv)
        · cases (Option.some.inj (show some _ = some o from ho))
          have h91 : IntAt w2 (a.tmps.getD 91 undef) (x) := hI.slot (i := 1) (d := 91) (hdep ⟨1, .data⟩ (by simp) (by rfl)) rfl
          obtain ⟨x91, e91⟩ : ∃ x, a.tmps.getD 91 undef = x := ⟨_, rfl⟩
          rw [e91] at h91
          have h92 : IntAt w2 (a.tmps.getD 92 undef) (y) := hI.slot (i := 2) (d := 92) (hdep ⟨2, .data⟩ (by simp) (by rfl)) rfl
          obtain ⟨x92, e92⟩ : ∃ x, a.tmps.getD 92 undef = x := ⟨_, rfl⟩
          rw [e92] at h92
          refine pstep rfl fun K hK => ?_
          clear hdep hI ho hi
          go_simp
          refine (Sub_any x91 x92 _ _ _ h91 h92 (len_i HX.out) (len_i HY.out)).mono ?_
          rintro e w3 ⟨v3, rfl, hv3, hb3⟩
          exact hK _ _ hb3 (fun d hd => by cases hd; exact hv3)
        · cases (Option.some.inj (show some _ = some o from ho))
          have h93 : IntAt w2 (a.tmps.getD 93 undef) (x - y) := hI.slot (i := 3) (d := 93) (hdep ⟨3, .data⟩ (by simp) (by rfl)) rfl
          obtain ⟨x93, e93⟩ : ∃ x, a.tmps.getD 93 undef = x := ⟨_, rfl⟩
          rw [e93] at h93
          refine pstep rfl fun K hK => ?_
          clear hdep hI ho hi
          go_simp
          refine (Sign_any x93 _ _ h93).mono ?_
          rintro e w3 ⟨rfl, hb3⟩
          exact hK _ _ hb3 (fun d hd => by cases hd; exact congrArg (Value.int .i64) (cmp_minus x y))
        · cases (Option.some.inj (show some _ = some o from ho))
          have h90 : a.tmps.getD 90 undef = .int .i64 (cmpI x y) := hI.slot (i := 0) (d := 90) (hdep ⟨0, .data⟩ (by simp) (by rfl)) rfl
          have h94 : a.tmps.getD 94 undef = .int .i64 (cmpI x y) := hI.slot (i := 4) (d := 94) (hdep ⟨4, .data⟩ (by simp) (by rfl)) rfl
          refine pstep rfl fun K hK => ?_
          clear hdep hI ho hi
          go_simp
          exact hK _ _ (Below.refl _ _) (fun d hd => by cases hd; rfl)
        · cases (Option.some.inj (show some _ = some o from ho))
          have h95 : a.tmps.getD 95 undef = .bool true := hI.slot (i := 5) (d := 95) (hdep ⟨5, .data⟩ (by simp) (by rfl)) rfl
          refine pstep rfl fun K hK => ?_
          clear hdep hI ho hi
          go_simp
          exact hK _ _ (Below.refl _ _) (fun d hd => by cases hd; rfl)
        · cases (Option.some.inj (show some _ = some o from ho))
          have h10 : a.tmps.getD 10 undef = .int .i64 (cmpI x y) := hI.free (t := 10) (by kernel_rfl)
          have hgd : a.tmps.getD 96 undef = .bool true := hI.slot (i := 6) (d := 96) (hdep ⟨6, .guard⟩ (by simp) (by rfl)) rfl
          refine pstep (wanted_of rfl (Pu.yielded_of rfl hgd)) fun K hK => ?_
          clear hgd
          clear hdep hI ho hi
          go_simp
          exact hK _ _ (Below.refl _ _) (fun d hd => by cases hd; rfl)
        · cases (Option.some.inj (show some _ = some o from ho))
          have h7 : a.tmps.getD 7 undef = .pointer (some ⟨u1.heap.size, 0, none⟩) := hI.free (t := 7) (by kernel_rfl)
          have hgd : a.tmps.getD 96 undef = .bool true := hI.slot (i := 6) (d := 96) (hdep ⟨6, .guard⟩ (by simp) (by rfl)) rfl
          refine pstep (wanted_of rfl (Pu.yielded_of rfl hgd)) fun K hK => ?_
          clear hgd
          refine wp_load_int (.tmp 7) rfl u1.heap.size x h7 (C1.out.keep hI.below) ?_
          intro v hv hh
          exact hK _ _ (Below.refl _ _) (fun d hd => by cases hd; exact hv)
        · cases (Option.some.inj (show some _ = some o from ho))
          have h9 : a.tmps.getD 9 undef = .pointer (some ⟨u3.heap.size, 0, none⟩) := hI.free (t := 9) (by kernel_rfl)
          have hgd : a.tmps.getD 96 undef = .bool true := hI.slot (i := 6) (d := 96) (hdep ⟨6, .guard⟩ (by simp) (by rfl)) rfl
          refine pstep (wanted_of rfl (Pu.yielded_of rfl hgd)) fun K hK => ?_
          clear hgd
          refine wp_load_int (.tmp 9) rfl u3.heap.size z h9 (C3.out.keep hI.below) ?_
          intro v hv hh
          exact hK _ _ (Below.refl _ _) (fun d hd => by cases hd; exact hv)
        · cases (Option.some.inj (show some _ = some o from ho))
          have h98 : IntAt w2 (a.tmps.getD 98 undef) (x) := hI.slot (i := 8) (d := 98) (hdep ⟨8, .data⟩ (by simp) (by rfl)) rfl
          obtain ⟨x98, e98⟩ : ∃ x, a.tmps.getD 98 undef = x := ⟨_, rfl⟩
          rw [e98] at h98
          have h99 : IntAt w2 (a.tmps.getD 99 undef) (z) := hI.slot (i := 9) (d := 99) (hdep ⟨9, .data⟩ (by simp) (by rfl)) rfl
          obtain ⟨x99, e99⟩ : ∃ x, a.tmps.getD 99 undef = x := ⟨_, rfl⟩
          rw [e99] at h99
          have hgd : a.tmps.getD 96 undef = .bool true := hI.slot (i := 6) (d := 96) (hdep ⟨6, .guard⟩ (by simp) (by rfl)) rfl
          refine pstep (wanted_of rfl (Pu.yielded_of rfl hgd)) fun K hK => ?_
          clear hgd
          clear hdep hI ho hi
          go_simp
          refine (Add_any x98 x99 _ _ _ h98 h99 (len_i HX.out) (len_i HZ.out)).mono ?_
          rintro e w3 ⟨v3, rfl, hv3, hb3⟩
          exact hK _ _ hb3 (fun d hd => by cases hd; exact hv3)
        · cases (Option.some.inj (show some _ = some o from ho))
          have h8 : a.tmps.getD 8 undef = .pointer (some ⟨u2.heap.size, 0, none⟩) := hI.free (t := 8) (by kernel_rfl)
          have hgd : a.tmps.getD 96 undef = .bool true := hI.slot (i := 6) (d := 96) (hdep ⟨6, .guard⟩ (by simp) (by rfl)) rfl
          refine pstep (wanted_of rfl (Pu.yielded_of rfl hgd)) fun K hK => ?_
          clear hgd
          refine wp_load_int (.tmp 8) rfl u2.heap.size y h8 (C2.out.keep hI.below) ?_
          intro v hv hh
          exact hK _ _ (Below.refl _ _) (fun d hd => by cases hd; exact hv)
        · cases (Option.some.inj (show some _ = some o from ho))
          have h9 : a.tmps.getD 9 undef = .pointer (some ⟨u3.heap.size, 0, none⟩) := hI.free (t := 9) (by kernel_rfl)
          have hgd : a.tmps.getD 96 undef = .bool true := hI.slot (i := 6) (d := 96) (hdep ⟨6, .guard⟩ (by simp) (by rfl)) rfl
          refine pstep (wanted_of rfl (Pu.yielded_of rfl hgd)) fun K hK => ?_
          clear hgd
          refine wp_load_int (.tmp 9) rfl u3.heap.size z h9 (C3.out.keep hI.below) ?_
          intro v hv hh
          exact hK _ _ (Below.refl _ _) (fun d hd => by cases hd; exact hv)
        · cases (Option.some.inj (show some _ = some o from ho))
          have h101 : IntAt w2 (a.tmps.getD 101 undef) (y) := hI.slot (i := 11) (d := 101) (hdep ⟨11, .data⟩ (by simp) (by rfl)) rfl
          obtain ⟨x101, e101⟩ : ∃ x, a.tmps.getD 101 undef = x := ⟨_, rfl⟩
          rw [e101] at h101
          have h102 : IntAt w2 (a.tmps.getD 102 undef) (z) := hI.slot (i := 12) (d := 102) (hdep ⟨12, .data⟩ (by simp) (by rfl)) rfl
          obtain ⟨x102, e102⟩ : ∃ x, a.tmps.getD 102 undef = x := ⟨_, rfl⟩
          rw [e102] at h102
          have hgd : a.tmps.getD 96 undef = .bool true := hI.slot (i := 6) (d := 96) (hdep ⟨6, .guard⟩ (by simp) (by rfl)) rfl
          refine pstep (wanted_of rfl (Pu.yielded_of rfl hgd)) fun K hK => ?_
          clear hgd
          clear hdep hI ho hi
          go_simp
          refine (Add_any x101 x102 _ _ _ h101 h102 (len_i HY.out) (len_i HZ.out)).mono ?_
          rintro e w3 ⟨v3, rfl, hv3, hb3⟩
          exact hK _ _ hb3 (fun d hd => by cases hd; exact hv3)
        · cases (Option.some.inj (show some _ = some o from ho))
          have h100 : IntAt w2 (a.tmps.getD 100 undef) (x + z) := hI.slot (i := 10) (d := 100) (hdep ⟨10, .data⟩ (by simp) (by rfl)) rfl
          obtain ⟨x100, e100⟩ : ∃ x, a.tmps.getD 100 undef = x := ⟨_, rfl⟩
          rw [e100] at h100
          have h103 : IntAt w2 (a.tmps.getD 103 undef) (y + z) := hI.slot (i := 13) (d := 103) (hdep ⟨13, .data⟩ (by simp) (by rfl)) rfl
          obtain ⟨x103, e103⟩ : ∃ x, a.tmps.getD 103 undef = x := ⟨_, rfl⟩
          rw [e103] at h103
          have hgd : a.tmps.getD 96 undef = .bool true := hI.slot (i := 6) (d := 96) (hdep ⟨6, .guard⟩ (by simp) (by rfl)) rfl
          refine pstep (wanted_of rfl (Pu.yielded_of rfl hgd)) fun K hK => ?_
          clear hgd
          clear hdep hI ho hi
          go_simp
          refine (Compare_any x100 x103 _ _ _ h100 h103).mono ?_
          rintro e w3 ⟨rfl, hb3⟩
          exact hK _ _ hb3 (fun d hd => by cases hd; exact congrArg (Value.int .i64) (cmp_add x y z))
        · cases (Option.some.inj (show some _ = some o from ho))
          have h97 : a.tmps.getD 97 undef = .int .i64 (cmpI x y) := hI.slot (i := 7) (d := 97) (hdep ⟨7, .data⟩ (by simp) (by rfl)) rfl
          have h104 : a.tmps.getD 104 undef = .int .i64 (cmpI x y) := hI.slot (i := 14) (d := 104) (hdep ⟨14, .data⟩ (by simp) (by rfl)) rfl
          have hgd : a.tmps.getD 96 undef = .bool true := hI.slot (i := 6) (d := 96) (hdep ⟨6, .guard⟩ (by simp) (by rfl)) rfl
          refine pstep (wanted_of rfl (Pu.yielded_of rfl hgd)) fun K hK => ?_
          clear hgd
          clear hdep hI ho hi
          go_simp
          exact hK _ _ (Below.refl _ _) (fun d hd => by cases hd; rfl)
        · cases (Option.some.inj (show some _ = some o from ho))
          have h96 : a.tmps.getD 96 undef = .bool true := hI.slot (i := 6) (d := 96) (hdep ⟨6, .data⟩ (by simp) (by rfl)) rfl
          have h105 : a.tmps.getD 105 undef = .bool true := hI.slot (i := 15) (d := 105) (hdep ⟨15, .data⟩ (by simp) (by rfl)) rfl
          refine pstep rfl fun K hK => ?_
          clear hdep hI ho hi
          go_simp
          exact hK _ _ (Below.refl _ _) (fun d hd => by cases hd; rfl)
        · cases (Option.some.inj (show some _ = some o from ho))
          have h106 : a.tmps.getD 106 undef = .bool true := hI.slot (i := 16) (d := 106) (hdep ⟨16, .data⟩ (by simp) (by rfl)) rfl
          refine pstep rfl fun K hK => ?_
          clear hdep hI ho hi
          go_simp
          exact hK _ _ (Below.refl _ _) (fun d hd => by cases hd; rfl)
        · cases (Option.some.inj (show some _ = some o from ho))
          have hgd : a.tmps.getD 107 undef = .bool true := hI.slot (i := 17) (d := 107) (hdep ⟨17, .guard⟩ (by simp) (by rfl)) rfl
          have htab := HT.out.keep hI.below
          refine pstep (wanted_of rfl (Pu.yielded_of rfl hgd)) fun K hK => ?_
          clear hgd
          clear hdep hI ho hi
          go_simp
          refine (lives_any _ htab).mono ?_
          rintro e w3 ⟨rfl, hb3⟩
          exact hK _ _ hb3 (fun d hd => by cases hd; rfl)
        · cases (Option.some.inj (show some _ = some o from ho))
          have h107 : a.tmps.getD 107 undef = .bool true := hI.slot (i := 17) (d := 107) (hdep ⟨17, .data⟩ (by simp) (by rfl)) rfl
          have h108 : a.tmps.getD 108 undef = .bool true := hI.slot (i := 18) (d := 108) (hdep ⟨18, .data⟩ (by simp) (by rfl)) rfl
          refine pstep rfl fun K hK => ?_
          clear hdep hI ho hi
          go_simp
          exact hK _ _ (Below.refl _ _) (fun d hd => by cases hd; rfl)
        · cases (Option.some.inj (show some _ = some o from ho))
          have h109 : a.tmps.getD 109 undef = .bool true := hI.slot (i := 19) (d := 109) (hdep ⟨19, .data⟩ (by simp) (by rfl)) rfl
          refine pstep rfl fun K hK => ?_
          clear hdep hI ho hi
          go_simp
          exact hK _ _ (Below.refl _ _) (fun d hd => by cases hd; rfl)
      · intro L a w2 o ho
        exact absurd ho (by simp)
      · intro _ L a w2 hall hI
        have h6 : a.tmps.getD 6 undef = .bool true := hI.slot (i := 20) (d := 6) (hall 20 (by decide)) rfl
        have HBL := hid hI.below
        refine hret _ _ ?_
        have hf := hI.frame [90, 91, 92, 93, 94, 95, 96, 97, 98, 99, 100, 101, 102, 103, 104, 105, 106, 107, 108, 109, 6] (by kernel_rfl)
        simp only [List.foldl_cons, List.foldl_nil] at hf
        clear hI hall
        generalize a.tmps.getD 90 undef = y90 at *
        generalize a.tmps.getD 91 undef = y91 at *
        generalize a.tmps.getD 92 undef = y92 at *
        generalize a.tmps.getD 93 undef = y93 at *
        generalize a.tmps.getD 94 undef = y94 at *
        generalize a.tmps.getD 95 undef = y95 at *
        generalize a.tmps.getD 96 undef = y96 at *
        generalize a.tmps.getD 97 undef = y97 at *
        generalize a.tmps.getD 98 undef = y98 at *
        generalize a.tmps.getD 99 undef = y99 at *
        generalize a.tmps.getD 100 undef = y100 at *
        generalize a.tmps.getD 101 undef = y101 at *
        generalize a.tmps.getD 102 undef = y102 at *
        generalize a.tmps.getD 103 undef = y103 at *
        generalize a.tmps.getD 104 undef = y104 at *
        generalize a.tmps.getD 105 undef = y105 at *
        generalize a.tmps.getD 106 undef = y106 at *
        generalize a.tmps.getD 107 undef = y107 at *
        generalize a.tmps.getD 108 undef = y108 at *
        generalize a.tmps.getD 109 undef = y109 at *
        generalize a.tmps.getD 6 undef = y6 at *
        subst hf
        subst h6
        go_simp
        go_wp2
        go_ret
        exact ⟨rfl, Pu.further HB.out HBL.out⟩

end Zn
end Go.Proofs.YtieoanhmglalnaaDoor
