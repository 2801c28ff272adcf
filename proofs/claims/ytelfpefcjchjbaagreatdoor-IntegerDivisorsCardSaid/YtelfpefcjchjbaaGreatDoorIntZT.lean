/-
  The walk of IntegerDivisors.
-/
import Derived.Test.YtelfpefcjchjbaaGreatDoorIntZD
import Derived.Test.YtelfpefcjchjbaaGreatDoorIntZH
import Derived.Test.YtelfpefcjchjbaaGreatDoorIntZS
namespace Go.Proofs.YtelfpefcjchjbaaGreatDoor
open Go.RowKit
open Go.Lib (hid)
open Dg
namespace Zn

/-- A block made anew, for an integer. -/
def NewAt (B : Nat) (w : World) (v : Value) : Prop := ∃ g, v = .pointer (some ⟨g, 0, none⟩) ∧ B ≤ g ∧ ResAt w g
theorem NewAt.keep {B : Nat} {w w' : World} {v : Value} (h : NewAt B w v) (hb : Below w.heap.size w w') : NewAt B w' v := by
  obtain ⟨g, h1, h2, h3⟩ := h
  exact ⟨g, h1, h2, h3.keep hb⟩
/-- Slots, one of which holds a block made anew. -/
def SlotsN (T B : Nat) (l : List (Nat × Sp)) (t : Nat) (w : World) (v : Value) : Prop := cond (Nat.beq t T) (NewAt B w v) (Slots l t w v)
theorem SlotsN.keep (T B : Nat) (l : List (Nat × Sp)) (t : Nat) (w w2 : World) (v : Value) (h : SlotsN T B l t w v) (hb : Below w.heap.size w w2) : SlotsN T B l t w2 v := by
  unfold SlotsN at h ⊢
  cases hc : Nat.beq t T with
  | true => rw [hc] at h; exact NewAt.keep h hb
  | false => rw [hc] at h; exact Slots.keep l t w w2 v h hb

theorem len_k {x : Int} {k : Nat} (hx : len x ≤ k) {n : Nat} (hn : k ≤ n := by decide) : len x ≤ n := Nat.le_trans hx hn
theorem len_div {x y : Int} {k : Nat} (hx : len x ≤ k) : len (x / y) ≤ k := Nat.le_trans (dig_length_mono (Int.natAbs_ediv_le_natAbs x y)) hx
theorem len_mod {x y : Int} {k : Nat} (hy : y ≠ 0) (hk : len y ≤ k) : len (x % y) ≤ k := by
  refine Nat.le_trans (dig_length_mono ?_) hk
  have h1 := Int.emod_nonneg x hy
  have h2 := Int.emod_lt x hy
  omega
theorem len_gcd {x y : Int} {k : Nat} (hy : y ≠ 0) (hk : len y ≤ k) : len ((Int.gcd x y : Nat) : Int) ≤ k := by
  refine Nat.le_trans (dig_length_mono ?_) hk
  show Int.gcd x y ≤ y.natAbs
  exact Nat.le_of_dvd (Int.natAbs_pos.2 hy) (Int.gcd_dvd_natAbs_right ..)
theorem gcd_mod (x y : Int) : Int.gcd y (x % y) = Int.gcd x y := by
  rw [Int.emod_def, Int.mul_comm, Int.gcd_sub_mul_right_right, Int.gcd_comm]
theorem mod_gcd_l (x y : Int) : x % ((Int.gcd x y : Nat) : Int) = 0 := Int.emod_eq_zero_of_dvd (Int.gcd_dvd_left ..)
theorem mod_gcd_r (x y : Int) : y % ((Int.gcd x y : Nat) : Int) = 0 := Int.emod_eq_zero_of_dvd (Int.gcd_dvd_right ..)

set_option maxRecDepth 100000 in
set_option maxHeartbeats 20000000 in
theorem divisors_walk (va vb vc : Value) (l m n : List Int) (w : World) (h1 : ListI w va l) (h2 : ListI w vb m) (h3 : ListI w vc n) (ht : Tab w) :
    Calls Tryz.prog 8 #[va, vb, vc] w (RetB w true) := by
  have HL := hid (numI_len l 0)
  have HM := hid (numI_len m 0)
  have HZ := hid (numI_len n 0)
  have HB := hid (Below.refl w.heap.size w)
  have HT := hid ht
  have H0 := hid h1
  have H1 := hid h2
  have H2 := hid h3
  clear h1 h2 h3 ht
  have N1 := hid fun w h => Number_any va l 0 w h (Nat.zero_le _)
  have N2 := hid fun w h => Number_any vb m 0 w h (Nat.zero_le _)
  have N3 := hid fun w h => Number_any vc n 0 w h (Nat.zero_le _)
  generalize numI l 0 = l0 at *
  generalize numI m 0 = m0 at *
  generalize numI n 0 = z at *
  have hxl : len (l0 * z) ≤ 14 := Nat.le_trans (len_mul l0 z) (by have := HL.out; have := HZ.out; omega)
  have hyl : len (m0 * z) ≤ 14 := Nat.le_trans (len_mul m0 z) (by have := HM.out; have := HZ.out; omega)
  obtain ⟨x, hx⟩ : ∃ x, x = l0 * z := ⟨_, rfl⟩
  obtain ⟨y, hy⟩ : ∃ y, y = m0 * z := ⟨_, rfl⟩
  have M1 := hid (fun (v1 v2 : Value) (w : World) h1 h2 => refMul_any v1 v2 l0 z w h1 h2 (len_k HL.out) (len_k HZ.out))
  have M2 := hid (fun (v1 v2 : Value) (w : World) h1 h2 => refMul_any v1 v2 m0 z w h1 h2 (len_k HM.out) (len_k HZ.out))
  rw [← hx] at hxl M1
  rw [← hy] at hyl M2
  have HXL := hid hxl
  have HYL := hid hyl
  clear hx hy hxl hyl
  go_enter Tryz.func8, Tryz.ntmps8
  go_wp2_with fail
  refine (N3.out _ H2.out).mono ?_
  rintro e u1 ⟨vu1, rfl, hv, hb⟩
  replace HT := hid (HT.out.keep hb)
  replace H0 := hid (H0.out.keep hb)
  replace H1 := hid (H1.out.keep hb)
  replace HB := hid (Pu.further HB.out hb)
  obtain ⟨b1, so1, n1, sc1, rfl⟩ := hv.open
  have hal := (show Below u1.heap.size u1 (u1.alloc (Obj.cells #[Value.bool b1, Value.slice so1 n1 sc1] 24)) from (Below.refl _ _).alloc (Nat.le_refl _) _)
  have C7 := hid (IntCell.new hv)
  replace HT := hid (HT.out.keep hal)
  replace H0 := hid (H0.out.keep hal)
  replace H1 := hid (H1.out.keep hal)
  replace HB := hid (Pu.further HB.out hal)
  clear hb hal hv
  clear H2
  go_upto_region 2 with fail
  generalize hU : u1.alloc (Obj.cells #[Value.bool b1, Value.slice so1 n1 sc1] 24) = W7 at *
  clear hU
  generalize u1.heap.size = g7 at *
  go_upto_region 2 with fail
  rename_i hret
  refine Pu.wp_region_pure 5 (SlotsN 8 (W7.heap.size) [(21, .eq (va)), (22, .int (l0)), (23, .int (z)), (24, .int (x)), (8, .any)]) (by kernel_rfl) (by kernel_rfl) (by kernel_rfl) (fun hfn => by kernel_rfl) (SlotsN.keep _ _ _) ?_ ?_ ?_
  · intro L a w2 i o ho hne2 hL hdep hI
    have hi : i < 6 := (Array.getElem?_eq_some_iff.1 ho).1
    rcases (show i = 0 ∨ i = 1 ∨ i = 2 ∨ i = 3 ∨ i = 4 by omega) with rfl | rfl | rfl | rfl | rfl
    · cases (Option.some.inj (show some _ = some o from ho))
      have h0 : a.tmps.getD 0 undef = va := hI.free (t := 0) (by kernel_rfl)
      refine pstep rfl fun K hK => ?_
      clear hdep hI ho hi
      go_simp
      exact hK _ _ (Below.refl _ _) (fun d hd => by cases hd; rfl)
    · cases (Option.some.inj (show some _ = some o from ho))
      have h21 : a.tmps.getD 21 undef = va := hI.slot (i := 0) (d := 21) (hdep ⟨0, .data⟩ (by simp) (by rfl)) rfl
      have hbl := hI.below
      refine pstep rfl fun K hK => ?_
      clear hdep hI ho hi
      go_simp
      refine (N1.out _ (H0.out.keep hbl)).mono ?_
      rintro e w3 ⟨v3, rfl, hn3, hb3⟩
      exact hK _ _ hb3 (fun d hd => by cases hd; exact hn3)
    · cases (Option.some.inj (show some _ = some o from ho))
      have h7 : a.tmps.getD 7 undef = .pointer (some ⟨g7, 0, none⟩) := hI.free (t := 7) (by kernel_rfl)
      refine pstep rfl fun K hK => ?_
      refine wp_load_int (.tmp 7) rfl g7 z h7 (C7.out.keep hI.below) ?_
      intro v hv hh
      exact hK _ _ (Below.refl _ _) (fun d hd => by cases hd; exact hv)
    · cases (Option.some.inj (show some _ = some o from ho))
      have h22 : IntAt w2 (a.tmps.getD 22 undef) (l0) := hI.slot (i := 1) (d := 22) (hdep ⟨1, .data⟩ (by simp) (by rfl)) rfl
      obtain ⟨x22, e22⟩ : ∃ x, a.tmps.getD 22 undef = x := ⟨_, rfl⟩
      rw [e22] at h22
      have h23 : IntAt w2 (a.tmps.getD 23 undef) (z) := hI.slot (i := 2) (d := 23) (hdep ⟨2, .data⟩ (by simp) (by rfl)) rfl
      obtain ⟨x23, e23⟩ : ∃ x, a.tmps.getD 23 undef = x := ⟨_, rfl⟩
      rw [e23] at h23
      refine pstep rfl fun K hK => ?_
      clear hdep hI ho hi
      go_simp
      refine (M1.out x22 x23 _ h22 h23).mono ?_
      rintro e w3 ⟨v3, rfl, hn3, hb3⟩
      exact hK _ _ hb3 (fun d hd => by cases hd; exact hn3)
    · cases (Option.some.inj (show some _ = some o from ho))
      have hbz := hI.below.size
      refine pstep rfl fun K hK => ?_
      clear hdep hI ho hi
      go_simp
      exact hK (.pointer (some ⟨w2.heap.size, 0, none⟩)) _ ((Below.refl _ _).alloc (Nat.le_refl _) _) (fun d hd => by cases hd; exact ⟨w2.heap.size, rfl, hbz, ResAt.new w2 _ _ _ _⟩)
  rotate_left 1
  · intro hfn
    exact absurd hfn (by decide)
  · intro L a w2 o ho hL hoth hI
    cases (Option.some.inj (show some _ = some o from ho))
    have h8 : NewAt (W7.heap.size) w2 (a.tmps.getD 8 undef) := hI.slot (i := 4) (d := 8) (hoth 4 (by decide) (by decide)) rfl
    obtain ⟨x8, e8⟩ : ∃ x, a.tmps.getD 8 undef = x := ⟨_, rfl⟩
    rw [e8] at h8
    have h24 : IntAt w2 (a.tmps.getD 24 undef) (x) := hI.slot (i := 3) (d := 24) (hoth 3 (by decide) (by decide)) rfl
    obtain ⟨x24, e24⟩ : ∃ x, a.tmps.getD 24 undef = x := ⟨_, rfl⟩
    rw [e24] at h24
    refine ⟨rfl, ?_⟩
    obtain ⟨g8, rfl, hg8, hres⟩ := h8
    refine wp_store_int (.tmp 8) (.tmp 24) rfl g8 x24 _ e8 e24 h24 hres ?_
    have C8 := hid (IntCell.set hres h24)
    have hb := below_row hI.below hg8 x24.cells
    refine hret _ _ ?_
    have hf := hI.frame [21, 22, 23, 24, 8] (by kernel_rfl)
    simp only [List.foldl_cons, List.foldl_nil] at hf
    clear hI hoth hL
    generalize a.tmps.getD 21 undef = y21 at *
    generalize a.tmps.getD 22 undef = y22 at *
    generalize a.tmps.getD 23 undef = y23 at *
    generalize a.tmps.getD 24 undef = y24 at *
    generalize a.tmps.getD 8 undef = y8 at *
    subst hf
    subst e8
    clear h24 e24 hres hg8
    replace HT := hid (HT.out.keep hb)
    replace H0 := hid (H0.out.keep hb)
    replace H1 := hid (H1.out.keep hb)
    replace C7 := hid (C7.out.keep hb)
    replace HB := hid (Pu.further HB.out hb)
    clear hb
    generalize hU : w2.setRow g8 x24.cells = W8 at *
    clear hU
    go_simp
    go_upto_region 3 with fail
    rename_i hret
    refine Pu.wp_region_pure 5 (SlotsN 9 (W8.heap.size) [(25, .eq (vb)), (26, .int (m0)), (27, .int (z)), (28, .int (y)), (9, .any)]) (by kernel_rfl) (by kernel_rfl) (by kernel_rfl) (fun hfn => by kernel_rfl) (SlotsN.keep _ _ _) ?_ ?_ ?_
    · intro L a w2 i o ho hne2 hL hdep hI
      have hi : i < 6 := (Array.getElem?_eq_some_iff.1 ho).1
      rcases (show i = 0 ∨ i = 1 ∨ i = 2 ∨ i = 3 ∨ i = 4 by omega) with rfl | rfl | rfl | rfl | rfl
      · cases (Option.some.inj (show some _ = some o from ho))
        have h1 : a.tmps.getD 1 undef = vb := hI.free (t := 1) (by kernel_rfl)
        refine pstep rfl fun K hK => ?_
        clear hdep hI ho hi
        go_simp
        exact hK _ _ (Below.refl _ _) (fun d hd => by cases hd; rfl)
      · cases (Option.some.inj (show some _ = some o from ho))
        have h25 : a.tmps.getD 25 undef = vb := hI.slot (i := 0) (d := 25) (hdep ⟨0, .data⟩ (by simp) (by rfl)) rfl
        have hbl := hI.below
        refine pstep rfl fun K hK => ?_
        clear hdep hI ho hi
        go_simp
        refine (N2.out _ (H1.out.keep hbl)).mono ?_
        rintro e w3 ⟨v3, rfl, hn3, hb3⟩
        exact hK _ _ hb3 (fun d hd => by cases hd; exact hn3)
      · cases (Option.some.inj (show some _ = some o from ho))
        have h7 : a.tmps.getD 7 undef = .pointer (some ⟨g7, 0, none⟩) := hI.free (t := 7) (by kernel_rfl)
        refine pstep rfl fun K hK => ?_
        refine wp_load_int (.tmp 7) rfl g7 z h7 (C7.out.keep hI.below) ?_
        intro v hv hh
        exact hK _ _ (Below.refl _ _) (fun d hd => by cases hd; exact hv)
      · cases (Option.some.inj (show some _ = some o from ho))
        have h26 : IntAt w2 (a.tmps.getD 26 undef) (m0) := hI.slot (i := 1) (d := 26) (hdep ⟨1, .data⟩ (by simp) (by rfl)) rfl
        obtain ⟨x26, e26⟩ : ∃ x, a.tmps.getD 26 undef = x := ⟨_, rfl⟩
        rw [e26] at h26
        have h27 : IntAt w2 (a.tmps.getD 27 undef) (z) := hI.slot (i := 2) (d := 27) (hdep ⟨2, .data⟩ (by simp) (by rfl)) rfl
        obtain ⟨x27, e27⟩ : ∃ x, a.tmps.getD 27 undef = x := ⟨_, rfl⟩
        rw [e27] at h27
        refine pstep rfl fun K hK => ?_
        clear hdep hI ho hi
        go_simp
        refine (M2.out x26 x27 _ h26 h27).mono ?_
        rintro e w3 ⟨v3, rfl, hn3, hb3⟩
        exact hK _ _ hb3 (fun d hd => by cases hd; exact hn3)
      · cases (Option.some.inj (show some _ = some o from ho))
        have hbz := hI.below.size
        refine pstep rfl fun K hK => ?_
        clear hdep hI ho hi
        go_simp
        exact hK (.pointer (some ⟨w2.heap.size, 0, none⟩)) _ ((Below.refl _ _).alloc (Nat.le_refl _) _) (fun d hd => by cases hd; exact ⟨w2.heap.size, rfl, hbz, ResAt.new w2 _ _ _ _⟩)
    rotate_left 1
    · intro hfn
      exact absurd hfn (by decide)
    · intro L a w2 o ho hL hoth hI
      cases (Option.some.inj (show some _ = some o from ho))
      have h9 : NewAt (W8.heap.size) w2 (a.tmps.getD 9 undef) := hI.slot (i := 4) (d := 9) (hoth 4 (by decide) (by decide)) rfl
      obtain ⟨x9, e9⟩ : ∃ x, a.tmps.getD 9 undef = x := ⟨_, rfl⟩
      rw [e9] at h9
      have h28 : IntAt w2 (a.tmps.getD 28 undef) (y) := hI.slot (i := 3) (d := 28) (hoth 3 (by decide) (by decide)) rfl
      obtain ⟨x28, e28⟩ : ∃ x, a.tmps.getD 28 undef = x := ⟨_, rfl⟩
      rw [e28] at h28
      refine ⟨rfl, ?_⟩
      obtain ⟨g9, rfl, hg9, hres⟩ := h9
      refine wp_store_int (.tmp 9) (.tmp 28) rfl g9 x28 _ e9 e28 h28 hres ?_
      have C9 := hid (IntCell.set hres h28)
      have hb := below_row hI.below hg9 x28.cells
      refine hret _ _ ?_
      have hf := hI.frame [25, 26, 27, 28, 9] (by kernel_rfl)
      simp only [List.foldl_cons, List.foldl_nil] at hf
      clear hI hoth hL
      generalize a.tmps.getD 25 undef = y25 at *
      generalize a.tmps.getD 26 undef = y26 at *
      generalize a.tmps.getD 27 undef = y27 at *
      generalize a.tmps.getD 28 undef = y28 at *
      generalize a.tmps.getD 9 undef = y9 at *
      subst hf
      subst e9
      clear h28 e28 hres hg9
      replace HT := hid (HT.out.keep hb)
      replace H0 := hid (H0.out.keep hb)
      replace H1 := hid (H1.out.keep hb)
      replace C7 := hid (C7.out.keep hb)
      replace C8 := hid (C8.out.keep hb)
      replace HB := hid (Pu.further HB.out hb)
      clear hb
      generalize hU : w2.setRow g9 x28.cells = W9 at *
      clear hU
      go_simp
      clear H0 H1 N1 N2 N3
      clear C7 HZ HL HM M1 M2
      rcases Int.lt_trichotomy y 0 with hy | hy | hy
      · have HY0 := hid hy
        have hne : y ≠ 0 := by omega
        obtain ⟨sz, hsz⟩ : ∃ sz, sz = ((y.natAbs : Nat) : Int) := ⟨_, rfl⟩
        have hr0 := Int.emod_nonneg x hne
        have hr1 := Int.emod_lt x hne
        have hqr : x / y * y + x % y = x := by rw [Int.mul_comm]; exact Int.mul_ediv_add_emod x y
        have hql := hid (len_div (y := y) HXL.out)
        have hrl := hid (len_mod (x := x) hne HYL.out)
        have hgl := hid (len_gcd (x := x) hne HYL.out)
        have hgm := gcd_mod x y
        have hgx := mod_gcd_l x y
        have hgy := mod_gcd_r x y
        have hg1 := @Int.gcd_ediv_gcd_ediv_gcd_of_ne_zero_right x y hne
        have hgp : (0 : Int) < ((Int.gcd x y : Nat) : Int) := by have := Int.gcd_pos_of_ne_zero_right x hne; omega
        have DV := hid (fun (v1 v2 : Value) (w : World) h1 h2 => Div_any v1 v2 x y w h1 h2 hne (len_k HXL.out) (len_k HYL.out))
        have GC := hid (fun (v1 v2 : Value) (w : World) h1 h2 => Gcd_any v1 v2 x y w h1 h2 (len_k HXL.out) (len_k HYL.out))
        have GM := hid (fun (v1 v2 : Value) (w : World) h1 h2 => Gcd_any v1 v2 y (x % y) w h1 h2 (len_k HYL.out) (len_k hrl.out))
        rw [hgm] at GM
        generalize ((Int.gcd x y : Nat) : Int) = gg at *
        generalize x % y = r at *
        generalize x / y = q at *
        have DX := hid (fun (v1 v2 : Value) (w : World) h1 h2 => Div_any v1 v2 x gg w h1 h2 (by omega) (len_k HXL.out) (len_k hgl.out))
        rw [hgx] at DX
        have DY := hid (fun (v1 v2 : Value) (w : World) h1 h2 => Div_any v1 v2 y gg w h1 h2 (by omega) (len_k HYL.out) (len_k hgl.out))
        rw [hgy] at DY
        have HAL := hid (len_div (y := gg) HXL.out)
        have HBL2 := hid (len_div (y := gg) HYL.out)
        generalize x / gg = a0 at *
        generalize y / gg = b0 at *
        have GO := hid (fun (v1 v2 : Value) (w : World) h1 h2 => Gcd_any v1 v2 a0 b0 w h1 h2 (len_k HAL.out) (len_k HBL2.out))
        rw [hg1] at GO
        have MQ := hid (fun (v1 v2 : Value) (w : World) h1 h2 => Mul_any v1 v2 q y w h1 h2 (len_k hql.out) (len_k HYL.out))
        have hqy : len (q * y) ≤ 28 := Nat.le_trans (len_mul q y) (by have := hql.out; have := HYL.out; omega)
        have AQ := hid (fun (v1 v2 : Value) (w : World) h1 h2 => Add_any v1 v2 (q * y) r w h1 h2 (len_k hqy) (len_k hrl.out))
        rw [hqr] at AQ
        generalize q * y = qy at *
        have HC0 := hid (show cmpI y 0 = -1 by unfold cmpI; rw [if_pos (by omega)])
        have HS0 := hid (show decide (cmpI r 0 < 0) = false by unfold cmpI; rw [if_neg (by omega)]; split <;> rfl)
        have HCR := hid (show cmpI r sz = -1 by unfold cmpI; rw [if_pos (by omega)])
        have HCG := hid (show cmpI gg 0 = 1 by unfold cmpI; rw [if_neg (by omega), if_pos (by omega)])
        have HSZ := hid (show sz = -y by omega)
        clear hy hsz hr0 hr1 hqr hgm hgx hgy hg1 hgp hqy hne HY0 hql
        obtain ⟨v8, hv8, hh8⟩ := C8.out
        have HV8 := hid hv8
        have HH8 := hid hh8
        clear hv8 hh8
        obtain ⟨v9, hv9, hh9⟩ := C9.out
        have HV9 := hid hv9
        have HH9 := hid hh9
        clear hv9 hh9
        go_wp2_with (first | (refine wpList_load_int rfl (.tmp 8) rfl g8 v8 (x) rfl HV8.out HH8.out ?_) | (refine wpList_load_int rfl (.tmp 9) rfl g9 v9 (y) rfl HV9.out HH9.out ?_))
        refine (DV.out v8 v9 _ HV8.out HV9.out).mono ?_
        rintro e u4 ⟨pu4, qu4, rfl, h3, h4, hb⟩
        replace HT := hid (HT.out.keep hb)
        replace C8 := hid (C8.out.keep hb)
        replace C9 := hid (C9.out.keep hb)
        replace HB := hid (Pu.further HB.out hb)
        obtain ⟨b2, so2, n2, sc2, rfl⟩ := h3.open
        obtain ⟨b3, so3, n3, sc3, rfl⟩ := h4.open
        have hal := (show Below u4.heap.size u4 (u4.alloc (Obj.cells #[Value.bool b2, Value.slice so2 n2 sc2] 24)) from (Below.refl _ _).alloc (Nat.le_refl _) _)
        have hal2 := (show Below (u4.alloc (Obj.cells #[Value.bool b2, Value.slice so2 n2 sc2] 24)).heap.size (u4.alloc (Obj.cells #[Value.bool b2, Value.slice so2 n2 sc2] 24)) ((u4.alloc (Obj.cells #[Value.bool b2, Value.slice so2 n2 sc2] 24)).alloc (Obj.cells #[Value.bool b3, Value.slice so3 n3 sc3] 24)) from (Below.refl _ _).alloc (Nat.le_refl _) _)
        replace HT := hid (HT.out.keep hal)
        replace C8 := hid (C8.out.keep hal)
        replace C9 := hid (C9.out.keep hal)
        replace HB := hid (Pu.further HB.out hal)
        replace HT := hid (HT.out.keep hal2)
        replace C8 := hid (C8.out.keep hal2)
        replace C9 := hid (C9.out.keep hal2)
        replace HB := hid (Pu.further HB.out hal2)
        have C10 := hid ((IntCell.new h3).keep hal2)
        have hp := (IntCell.new (h4.keep hal))
        rw [show (u4.alloc (Obj.cells #[Value.bool b2, Value.slice so2 n2 sc2] 24)).heap.size = u4.heap.size + 1 by simp] at hp
        have C11 := hid hp
        clear hb hal hal2 hp h3 h4
        clear HV8 HH8 HV9 HH9
        go_upto_region 5 with fail
        generalize hU : ((u4.alloc (Obj.cells #[Value.bool b2, Value.slice so2 n2 sc2] 24)).alloc (Obj.cells #[Value.bool b3, Value.slice so3 n3 sc3] 24)) = W10 at *
        clear hU
        generalize hg : u4.heap.size + 1 = g11 at *
        generalize u4.heap.size = g10 at *
        clear hg
        have S8 := C8
        have S9 := C9
        have S10 := C10
        have S11 := C11
        have ST := HT
        have SB := HB
        have HBU := hid (Below.refl W10.heap.size W10)
        obtain ⟨v9, hv9, hh9⟩ := C9.out
        have HV9 := hid hv9
        have HH9 := hid hh9
        clear hv9 hh9
        have hv9 := HV9.out
        obtain ⟨b9, so9, n9, sc9, rfl⟩ := hv9.open
        clear hv9
        go_upto_region 6 with (refine wpList_load_int rfl (.tmp 9) rfl g9 (.agg #[.bool b9, .slice so9 n9 sc9]) (y) rfl HV9.out HH9.out ?_)
        have hb := (show Below W10.heap.size W10 (W10.alloc (Obj.cells #[Value.bool b9, Value.slice so9 n9 sc9] 24)) from (Below.refl _ _).alloc (Nat.le_refl _) _)
        replace HT := hid (HT.out.keep hb)
        replace C8 := hid (C8.out.keep hb)
        replace C9 := hid (C9.out.keep hb)
        replace C10 := hid (C10.out.keep hb)
        replace C11 := hid (C11.out.keep hb)
        replace HB := hid (Pu.further HB.out hb)
        replace HBU := hid (Pu.further HBU.out hb)
        have C12 := hid (IntCell.new HV9.out)
        clear hb HV9 HH9
        generalize hU : W10.alloc (Obj.cells #[Value.bool b9, Value.slice so9 n9 sc9] 24) = W12 at *
        clear hU
        obtain ⟨g12, hg12⟩ : ∃ g, W10.heap.size = g := ⟨_, rfl⟩
        rw [hg12] at C12 ⊢
        have G12 := hid hg12
        clear hg12
        obtain ⟨v9, hv9, hh9⟩ := C9.out
        have HV9 := hid hv9
        have HH9 := hid hh9
        clear hv9 hh9
        go_wp2_with (refine wpList_load_int rfl (.tmp 9) rfl g9 v9 (y) rfl HV9.out HH9.out ?_)
        refine (Sign_any v9 _ _ HV9.out).mono ?_
        rintro e u6 ⟨rfl, hb⟩
        replace HT := hid (HT.out.keep hb)
        replace C8 := hid (C8.out.keep hb)
        replace C9 := hid (C9.out.keep hb)
        replace C10 := hid (C10.out.keep hb)
        replace C11 := hid (C11.out.keep hb)
        replace C12 := hid (C12.out.keep hb)
        replace HB := hid (Pu.further HB.out hb)
        replace HBU := hid (Pu.further HBU.out hb)
        rw [HC0.out]
        clear hb
        clear HV9 HH9
        obtain ⟨v9, hv9, hh9⟩ := C9.out
        have HV9 := hid hv9
        have HH9 := hid hh9
        clear hv9 hh9
        go_wp2_with (refine wpList_load_int rfl (.tmp 9) rfl g9 v9 (y) rfl HV9.out HH9.out ?_)
        refine (Neg_any v9 y _ HV9.out).mono ?_
        rintro e u7 ⟨v7, rfl, hv, hb⟩
        replace HT := hid (HT.out.keep hb)
        replace C8 := hid (C8.out.keep hb)
        replace C9 := hid (C9.out.keep hb)
        replace C10 := hid (C10.out.keep hb)
        replace C11 := hid (C11.out.keep hb)
        replace C12 := hid (C12.out.keep hb)
        replace HB := hid (Pu.further HB.out hb)
        replace HBU := hid (Pu.further HBU.out hb)
        have HV := hid hv
        clear hb hv
        clear HV9 HH9
        go_upto_region 8 with (refine wpList_store_int rfl (.tmp 12) (.tmp 40) rfl g12 v7 _ rfl rfl HV.out C12.out.res ?_)
        have hbu := below_row HBU.out (Nat.le_of_eq G12.out) v7.cells
        replace C12 := hid (show IntCell (u7.setRow g12 v7.cells) g12 sz by rw [HSZ.out]; exact IntCell.set C12.out.res HV.out)
        generalize hU : u7.setRow g12 v7.cells = W13 at *
        clear hU
        replace C8 := hid (S8.out.keep hbu)
        replace C9 := hid (S9.out.keep hbu)
        replace C10 := hid (S10.out.keep hbu)
        replace C11 := hid (S11.out.keep hbu)
        replace HT := hid (ST.out.keep hbu)
        replace HB := hid (Pu.further SB.out hbu)
        clear hbu HV HBU
        clear S8 S9 S10 S11 ST SB G12
        obtain ⟨v9, hv9, hh9⟩ := C9.out
        have HV9 := hid hv9
        have HH9 := hid hh9
        clear hv9 hh9
        go_wp2_with (refine wpList_load_int rfl (.tmp 9) rfl g9 v9 (y) rfl HV9.out HH9.out ?_)
        refine (Sign_any v9 _ _ HV9.out).mono ?_
        rintro e u8 ⟨rfl, hb⟩
        replace HT := hid (HT.out.keep hb)
        replace C8 := hid (C8.out.keep hb)
        replace C9 := hid (C9.out.keep hb)
        replace C10 := hid (C10.out.keep hb)
        replace C11 := hid (C11.out.keep hb)
        replace C12 := hid (C12.out.keep hb)
        replace HB := hid (Pu.further HB.out hb)
        rw [HC0.out]
        clear hb
        clear HV9 HH9
        go_upto_region 10 with fail
        rename_i hret
        refine Pu.wp_region_pure 19 (Slots [(55, .int (q)), (56, .int (y)), (57, .int (qy)), (58, .int (r)), (59, .int (x)), (60, .int (x)), (61, .eq (.bool true)), (62, .eq (.bool false)), (63, .eq (.bool false)), (64, .int (r)), (65, .eq (.int .i64 (cmpI r 0))), (66, .eq (.bool false)), (67, .eq (.bool false)), (68, .eq (.bool false)), (69, .int (r)), (70, .int (sz)), (71, .eq (.int .i64 (-1))), (72, .eq (.bool false)), (73, .eq (.bool false))]) (by kernel_rfl) (by kernel_rfl) (by kernel_rfl) (fun hfn => absurd hfn (by decide)) (Slots.keep _) ?_ ?_ ?_
        · intro L a w2 i o ho hne2 hL hdep hI
          have hi : i < 19 := (Array.getElem?_eq_some_iff.1 ho).1
          rcases (show i = 0 ∨ i = 1 ∨ i = 2 ∨ i = 3 ∨ i = 4 ∨ i = 5 ∨ i = 6 ∨ i = 7 ∨ i = 8 ∨ i = 9 ∨ i = 10 ∨ i = 11 ∨ i = 12 ∨ i = 13 ∨ i = 14 ∨ i = 15 ∨ i = 16 ∨ i = 17 ∨ i = 18 by omega) with rfl | rfl | rfl | rfl | rfl | rfl | rfl | rfl | rfl | rfl | rfl | rfl | rfl | rfl | rfl | rfl | rfl | rfl | rfl
          · cases (Option.some.inj (show some _ = some o from ho))
            have h10 : a.tmps.getD 10 undef = .pointer (some ⟨g10, 0, none⟩) := hI.free (t := 10) (by kernel_rfl)
            refine pstep rfl fun K hK => ?_
            refine wp_load_int (.tmp 10) rfl g10 _ h10 (C10.out.keep hI.below) ?_
            intro v hv hh
            exact hK _ _ (Below.refl _ _) (fun d hd => by cases hd; exact hv)
          · cases (Option.some.inj (show some _ = some o from ho))
            have h9 : a.tmps.getD 9 undef = .pointer (some ⟨g9, 0, none⟩) := hI.free (t := 9) (by kernel_rfl)
            refine pstep rfl fun K hK => ?_
            refine wp_load_int (.tmp 9) rfl g9 _ h9 (C9.out.keep hI.below) ?_
            intro v hv hh
            exact hK _ _ (Below.refl _ _) (fun d hd => by cases hd; exact hv)
          · cases (Option.some.inj (show some _ = some o from ho))
            have h55 : IntAt w2 (a.tmps.getD 55 undef) (q) := hI.slot (i := 0) (d := 55) (hdep ⟨0, .data⟩ (by simp) (by rfl)) rfl
            obtain ⟨x55, e55⟩ : ∃ x, a.tmps.getD 55 undef = x := ⟨_, rfl⟩
            rw [e55] at h55
            have h56 : IntAt w2 (a.tmps.getD 56 undef) (y) := hI.slot (i := 1) (d := 56) (hdep ⟨1, .data⟩ (by simp) (by rfl)) rfl
            obtain ⟨x56, e56⟩ : ∃ x, a.tmps.getD 56 undef = x := ⟨_, rfl⟩
            rw [e56] at h56
            refine pstep rfl fun K hK => ?_
            clear hdep hI ho hi
            go_simp
            refine (MQ.out x55 x56 _ h55 h56).mono ?_
            rintro e w3 ⟨v3, rfl, hv3, hb3⟩
            exact hK _ _ hb3 (fun d hd => by cases hd; exact hv3)
          · cases (Option.some.inj (show some _ = some o from ho))
            have h11 : a.tmps.getD 11 undef = .pointer (some ⟨g11, 0, none⟩) := hI.free (t := 11) (by kernel_rfl)
            refine pstep rfl fun K hK => ?_
            refine wp_load_int (.tmp 11) rfl g11 _ h11 (C11.out.keep hI.below) ?_
            intro v hv hh
            exact hK _ _ (Below.refl _ _) (fun d hd => by cases hd; exact hv)
          · cases (Option.some.inj (show some _ = some o from ho))
            have h57 : IntAt w2 (a.tmps.getD 57 undef) (qy) := hI.slot (i := 2) (d := 57) (hdep ⟨2, .data⟩ (by simp) (by rfl)) rfl
            obtain ⟨x57, e57⟩ : ∃ x, a.tmps.getD 57 undef = x := ⟨_, rfl⟩
            rw [e57] at h57
            have h58 : IntAt w2 (a.tmps.getD 58 undef) (r) := hI.slot (i := 3) (d := 58) (hdep ⟨3, .data⟩ (by simp) (by rfl)) rfl
            obtain ⟨x58, e58⟩ : ∃ x, a.tmps.getD 58 undef = x := ⟨_, rfl⟩
            rw [e58] at h58
            refine pstep rfl fun K hK => ?_
            clear hdep hI ho hi
            go_simp
            refine (AQ.out x57 x58 _ h57 h58).mono ?_
            rintro e w3 ⟨v3, rfl, hv3, hb3⟩
            exact hK _ _ hb3 (fun d hd => by cases hd; exact hv3)
          · cases (Option.some.inj (show some _ = some o from ho))
            have h8 : a.tmps.getD 8 undef = .pointer (some ⟨g8, 0, none⟩) := hI.free (t := 8) (by kernel_rfl)
            refine pstep rfl fun K hK => ?_
            refine wp_load_int (.tmp 8) rfl g8 _ h8 (C8.out.keep hI.below) ?_
            intro v hv hh
            exact hK _ _ (Below.refl _ _) (fun d hd => by cases hd; exact hv)
          · cases (Option.some.inj (show some _ = some o from ho))
            have h59 : IntAt w2 (a.tmps.getD 59 undef) (x) := hI.slot (i := 4) (d := 59) (hdep ⟨4, .data⟩ (by simp) (by rfl)) rfl
            obtain ⟨x59, e59⟩ : ∃ x, a.tmps.getD 59 undef = x := ⟨_, rfl⟩
            rw [e59] at h59
            have h60 : IntAt w2 (a.tmps.getD 60 undef) (x) := hI.slot (i := 5) (d := 60) (hdep ⟨5, .data⟩ (by simp) (by rfl)) rfl
            obtain ⟨x60, e60⟩ : ∃ x, a.tmps.getD 60 undef = x := ⟨_, rfl⟩
            rw [e60] at h60
            refine pstep rfl fun K hK => ?_
            clear hdep hI ho hi
            go_simp
            refine (lawSame_any x59 x60 _ _ _ h59 h60).mono ?_
            rintro e w3 ⟨rfl, hb3⟩
            exact hK _ _ hb3 (fun d hd => by cases hd; exact congrArg Value.bool (decide_eq_true rfl))
          · cases (Option.some.inj (show some _ = some o from ho))
            have h61 : a.tmps.getD 61 undef = .bool true := hI.slot (i := 6) (d := 61) (hdep ⟨6, .data⟩ (by simp) (by rfl)) rfl
            refine pstep rfl fun K hK => ?_
            clear hdep hI ho hi
            go_simp
            exact hK _ _ (Below.refl _ _) (fun d hd => by cases hd; rfl)
          · cases (Option.some.inj (show some _ = some o from ho))
            have h62 : a.tmps.getD 62 undef = .bool false := hI.slot (i := 7) (d := 62) (hdep ⟨7, .data⟩ (by simp) (by rfl)) rfl
            refine pstep rfl fun K hK => ?_
            clear hdep hI ho hi
            go_simp
            exact hK _ _ (Below.refl _ _) (fun d hd => by cases hd; rfl)
          · cases (Option.some.inj (show some _ = some o from ho))
            have h11 : a.tmps.getD 11 undef = .pointer (some ⟨g11, 0, none⟩) := hI.free (t := 11) (by kernel_rfl)
            have hgd : a.tmps.getD 63 undef = .bool false := hI.slot (i := 8) (d := 63) (hdep ⟨8, .guard⟩ (by simp) (by rfl)) rfl
            refine pstep (wanted_of rfl (Pu.yielded_of rfl hgd)) fun K hK => ?_
            clear hgd
            refine wp_load_int (.tmp 11) rfl g11 _ h11 (C11.out.keep hI.below) ?_
            intro v hv hh
            exact hK _ _ (Below.refl _ _) (fun d hd => by cases hd; exact hv)
          · cases (Option.some.inj (show some _ = some o from ho))
            have h64 : IntAt w2 (a.tmps.getD 64 undef) (r) := hI.slot (i := 9) (d := 64) (hdep ⟨9, .data⟩ (by simp) (by rfl)) rfl
            obtain ⟨x64, e64⟩ : ∃ x, a.tmps.getD 64 undef = x := ⟨_, rfl⟩
            rw [e64] at h64
            have hgd : a.tmps.getD 63 undef = .bool false := hI.slot (i := 8) (d := 63) (hdep ⟨8, .guard⟩ (by simp) (by rfl)) rfl
            refine pstep (wanted_of rfl (Pu.yielded_of rfl hgd)) fun K hK => ?_
            clear hgd
            clear hdep hI ho hi
            go_simp
            refine (Sign_any x64 _ _ h64).mono ?_
            rintro e w3 ⟨rfl, hb3⟩
            exact hK _ _ hb3 (fun d hd => by cases hd; rfl)
          · cases (Option.some.inj (show some _ = some o from ho))
            have h65 : a.tmps.getD 65 undef = .int .i64 (cmpI r 0) := hI.slot (i := 10) (d := 65) (hdep ⟨10, .data⟩ (by simp) (by rfl)) rfl
            have hgd : a.tmps.getD 63 undef = .bool false := hI.slot (i := 8) (d := 63) (hdep ⟨8, .guard⟩ (by simp) (by rfl)) rfl
            have hsd := HS0.out
            refine pstep (wanted_of rfl (Pu.yielded_of rfl hgd)) fun K hK => ?_
            clear hgd
            clear hdep hI ho hi
            go_simp
            exact hK _ _ (Below.refl _ _) (fun d hd => by cases hd; rfl)
          · cases (Option.some.inj (show some _ = some o from ho))
            have h63 : a.tmps.getD 63 undef = .bool false := hI.slot (i := 8) (d := 63) (hdep ⟨8, .data⟩ (by simp) (by rfl)) rfl
            have h66 : a.tmps.getD 66 undef = .bool false := hI.slot (i := 11) (d := 66) (hdep ⟨11, .data⟩ (by simp) (by rfl)) rfl
            refine pstep rfl fun K hK => ?_
            clear hdep hI ho hi
            go_simp
            exact hK _ _ (Below.refl _ _) (fun d hd => by cases hd; rfl)
          · cases (Option.some.inj (show some _ = some o from ho))
            have h67 : a.tmps.getD 67 undef = .bool false := hI.slot (i := 12) (d := 67) (hdep ⟨12, .data⟩ (by simp) (by rfl)) rfl
            refine pstep rfl fun K hK => ?_
            clear hdep hI ho hi
            go_simp
            exact hK _ _ (Below.refl _ _) (fun d hd => by cases hd; rfl)
          · cases (Option.some.inj (show some _ = some o from ho))
            have h11 : a.tmps.getD 11 undef = .pointer (some ⟨g11, 0, none⟩) := hI.free (t := 11) (by kernel_rfl)
            have hgd : a.tmps.getD 68 undef = .bool false := hI.slot (i := 13) (d := 68) (hdep ⟨13, .guard⟩ (by simp) (by rfl)) rfl
            refine pstep (wanted_of rfl (Pu.yielded_of rfl hgd)) fun K hK => ?_
            clear hgd
            refine wp_load_int (.tmp 11) rfl g11 _ h11 (C11.out.keep hI.below) ?_
            intro v hv hh
            exact hK _ _ (Below.refl _ _) (fun d hd => by cases hd; exact hv)
          · cases (Option.some.inj (show some _ = some o from ho))
            have h12 : a.tmps.getD 12 undef = .pointer (some ⟨g12, 0, none⟩) := hI.free (t := 12) (by kernel_rfl)
            have hgd : a.tmps.getD 68 undef = .bool false := hI.slot (i := 13) (d := 68) (hdep ⟨13, .guard⟩ (by simp) (by rfl)) rfl
            refine pstep (wanted_of rfl (Pu.yielded_of rfl hgd)) fun K hK => ?_
            clear hgd
            refine wp_load_int (.tmp 12) rfl g12 _ h12 (C12.out.keep hI.below) ?_
            intro v hv hh
            exact hK _ _ (Below.refl _ _) (fun d hd => by cases hd; exact hv)
          · cases (Option.some.inj (show some _ = some o from ho))
            have h69 : IntAt w2 (a.tmps.getD 69 undef) (r) := hI.slot (i := 14) (d := 69) (hdep ⟨14, .data⟩ (by simp) (by rfl)) rfl
            obtain ⟨x69, e69⟩ : ∃ x, a.tmps.getD 69 undef = x := ⟨_, rfl⟩
            rw [e69] at h69
            have h70 : IntAt w2 (a.tmps.getD 70 undef) (sz) := hI.slot (i := 15) (d := 70) (hdep ⟨15, .data⟩ (by simp) (by rfl)) rfl
            obtain ⟨x70, e70⟩ : ∃ x, a.tmps.getD 70 undef = x := ⟨_, rfl⟩
            rw [e70] at h70
            have hgd : a.tmps.getD 68 undef = .bool false := hI.slot (i := 13) (d := 68) (hdep ⟨13, .guard⟩ (by simp) (by rfl)) rfl
            refine pstep (wanted_of rfl (Pu.yielded_of rfl hgd)) fun K hK => ?_
            clear hgd
            clear hdep hI ho hi
            go_simp
            refine (Compare_any x69 x70 _ _ _ h69 h70).mono ?_
            rintro e w3 ⟨rfl, hb3⟩
            exact hK _ _ hb3 (fun d hd => by cases hd; exact congrArg (Value.int .i64) HCR.out)
          · cases (Option.some.inj (show some _ = some o from ho))
            have h71 : a.tmps.getD 71 undef = .int .i64 (-1) := hI.slot (i := 16) (d := 71) (hdep ⟨16, .data⟩ (by simp) (by rfl)) rfl
            have hgd : a.tmps.getD 68 undef = .bool false := hI.slot (i := 13) (d := 68) (hdep ⟨13, .guard⟩ (by simp) (by rfl)) rfl
            refine pstep (wanted_of rfl (Pu.yielded_of rfl hgd)) fun K hK => ?_
            clear hgd
            clear hdep hI ho hi
            go_simp
            exact hK _ _ (Below.refl _ _) (fun d hd => by cases hd; rfl)
          · cases (Option.some.inj (show some _ = some o from ho))
            have h68 : a.tmps.getD 68 undef = .bool false := hI.slot (i := 13) (d := 68) (hdep ⟨13, .data⟩ (by simp) (by rfl)) rfl
            have h72 : a.tmps.getD 72 undef = .bool false := hI.slot (i := 17) (d := 72) (hdep ⟨17, .data⟩ (by simp) (by rfl)) rfl
            refine pstep rfl fun K hK => ?_
            clear hdep hI ho hi
            go_simp
            exact hK _ _ (Below.refl _ _) (fun d hd => by cases hd; rfl)
        · intro L a w2 o ho
          exact absurd ho (by simp)
        · intro _ L a w2 hall hI
          have h73 : a.tmps.getD 73 undef = .bool false := hI.slot (i := 18) (d := 73) (hall 18 (by decide)) rfl
          have hb := hI.below
          refine hret _ _ ?_
          have hf := hI.frame [55, 56, 57, 58, 59, 60, 61, 62, 63, 64, 65, 66, 67, 68, 69, 70, 71, 72, 73] (by kernel_rfl)
          simp only [List.foldl_cons, List.foldl_nil] at hf
          clear hI hall
          generalize a.tmps.getD 55 undef = y55 at *
          generalize a.tmps.getD 56 undef = y56 at *
          generalize a.tmps.getD 57 undef = y57 at *
          generalize a.tmps.getD 58 undef = y58 at *
          generalize a.tmps.getD 59 undef = y59 at *
          generalize a.tmps.getD 60 undef = y60 at *
          generalize a.tmps.getD 61 undef = y61 at *
          generalize a.tmps.getD 62 undef = y62 at *
          generalize a.tmps.getD 63 undef = y63 at *
          generalize a.tmps.getD 64 undef = y64 at *
          generalize a.tmps.getD 65 undef = y65 at *
          generalize a.tmps.getD 66 undef = y66 at *
          generalize a.tmps.getD 67 undef = y67 at *
          generalize a.tmps.getD 68 undef = y68 at *
          generalize a.tmps.getD 69 undef = y69 at *
          generalize a.tmps.getD 70 undef = y70 at *
          generalize a.tmps.getD 71 undef = y71 at *
          generalize a.tmps.getD 72 undef = y72 at *
          generalize a.tmps.getD 73 undef = y73 at *
          subst hf
          subst h73
          go_simp
          replace HT := hid (HT.out.keep hb)
          replace C8 := hid (C8.out.keep hb)
          replace C9 := hid (C9.out.keep hb)
          replace C10 := hid (C10.out.keep hb)
          replace C11 := hid (C11.out.keep hb)
          replace C12 := hid (C12.out.keep hb)
          replace HB := hid (Pu.further HB.out hb)
          clear hb hret C12 MQ AQ HSZ HS0 HCR
          obtain ⟨v8, hv8, hh8⟩ := C8.out
          have HV8 := hid hv8
          have HH8 := hid hh8
          clear hv8 hh8
          obtain ⟨v9, hv9, hh9⟩ := C9.out
          have HV9 := hid hv9
          have HH9 := hid hh9
          clear hv9 hh9
          go_wp2_with (first | (refine wpList_load_int rfl (.tmp 8) rfl g8 v8 (x) rfl HV8.out HH8.out ?_) | (refine wpList_load_int rfl (.tmp 9) rfl g9 v9 (y) rfl HV9.out HH9.out ?_))
          refine (GC.out v8 v9 _ HV8.out HV9.out).mono ?_
          rintro e u12 ⟨vu12, rfl, hv, hb⟩
          replace HT := hid (HT.out.keep hb)
          replace C8 := hid (C8.out.keep hb)
          replace C9 := hid (C9.out.keep hb)
          replace C10 := hid (C10.out.keep hb)
          replace C11 := hid (C11.out.keep hb)
          replace HB := hid (Pu.further HB.out hb)
          obtain ⟨b4, so4, n4, sc4, rfl⟩ := hv.open
          have hal := (show Below u12.heap.size u12 (u12.alloc (Obj.cells #[Value.bool b4, Value.slice so4 n4 sc4] 24)) from (Below.refl _ _).alloc (Nat.le_refl _) _)
          have C13 := hid (IntCell.new hv)
          replace HT := hid (HT.out.keep hal)
          replace C8 := hid (C8.out.keep hal)
          replace C9 := hid (C9.out.keep hal)
          replace C10 := hid (C10.out.keep hal)
          replace C11 := hid (C11.out.keep hal)
          replace HB := hid (Pu.further HB.out hal)
          clear hb hal hv
          clear HV8 HH8 HV9 HH9
          go_upto_region 13 with fail
          generalize hU : u12.alloc (Obj.cells #[Value.bool b4, Value.slice so4 n4 sc4] 24) = W13 at *
          clear hU
          generalize u12.heap.size = g13 at *
          obtain ⟨v8, hv8, hh8⟩ := C8.out
          have HV8 := hid hv8
          have HH8 := hid hh8
          clear hv8 hh8
          obtain ⟨v13, hv13, hh13⟩ := C13.out
          have HV13 := hid hv13
          have HH13 := hid hh13
          clear hv13 hh13
          go_wp2_with (first | (refine wpList_load_int rfl (.tmp 8) rfl g8 v8 (x) rfl HV8.out HH8.out ?_) | (refine wpList_load_int rfl (.tmp 13) rfl g13 v13 (gg) rfl HV13.out HH13.out ?_))
          refine (DX.out v8 v13 _ HV8.out HV13.out).mono ?_
          rintro e u13 ⟨pu13, qu13, rfl, h3, h4, hb⟩
          replace HT := hid (HT.out.keep hb)
          replace C8 := hid (C8.out.keep hb)
          replace C9 := hid (C9.out.keep hb)
          replace C10 := hid (C10.out.keep hb)
          replace C11 := hid (C11.out.keep hb)
          replace C13 := hid (C13.out.keep hb)
          replace HB := hid (Pu.further HB.out hb)
          obtain ⟨b5, so5, n5, sc5, rfl⟩ := h3.open
          obtain ⟨b6, so6, n6, sc6, rfl⟩ := h4.open
          have hal := (show Below u13.heap.size u13 (u13.alloc (Obj.cells #[Value.bool b5, Value.slice so5 n5 sc5] 24)) from (Below.refl _ _).alloc (Nat.le_refl _) _)
          have hal2 := (show Below (u13.alloc (Obj.cells #[Value.bool b5, Value.slice so5 n5 sc5] 24)).heap.size (u13.alloc (Obj.cells #[Value.bool b5, Value.slice so5 n5 sc5] 24)) ((u13.alloc (Obj.cells #[Value.bool b5, Value.slice so5 n5 sc5] 24)).alloc (Obj.cells #[Value.bool b6, Value.slice so6 n6 sc6] 24)) from (Below.refl _ _).alloc (Nat.le_refl _) _)
          replace HT := hid (HT.out.keep hal)
          replace C8 := hid (C8.out.keep hal)
          replace C9 := hid (C9.out.keep hal)
          replace C10 := hid (C10.out.keep hal)
          replace C11 := hid (C11.out.keep hal)
          replace C13 := hid (C13.out.keep hal)
          replace HB := hid (Pu.further HB.out hal)
          replace HT := hid (HT.out.keep hal2)
          replace C8 := hid (C8.out.keep hal2)
          replace C9 := hid (C9.out.keep hal2)
          replace C10 := hid (C10.out.keep hal2)
          replace C11 := hid (C11.out.keep hal2)
          replace C13 := hid (C13.out.keep hal2)
          replace HB := hid (Pu.further HB.out hal2)
          have C14 := hid ((IntCell.new h3).keep hal2)
          have hp := (IntCell.new (h4.keep hal))
          rw [show (u13.alloc (Obj.cells #[Value.bool b5, Value.slice so5 n5 sc5] 24)).heap.size = u13.heap.size + 1 by simp] at hp
          have C15 := hid hp
          clear hb hal hal2 hp h3 h4
          clear HV8 HH8 HV13 HH13
          go_upto_region 14 with fail
          generalize hU : ((u13.alloc (Obj.cells #[Value.bool b5, Value.slice so5 n5 sc5] 24)).alloc (Obj.cells #[Value.bool b6, Value.slice so6 n6 sc6] 24)) = W14 at *
          clear hU
          generalize hg : u13.heap.size + 1 = g15 at *
          generalize u13.heap.size = g14 at *
          clear hg
          obtain ⟨v9, hv9, hh9⟩ := C9.out
          have HV9 := hid hv9
          have HH9 := hid hh9
          clear hv9 hh9
          obtain ⟨v13, hv13, hh13⟩ := C13.out
          have HV13 := hid hv13
          have HH13 := hid hh13
          clear hv13 hh13
          go_wp2_with (first | (refine wpList_load_int rfl (.tmp 9) rfl g9 v9 (y) rfl HV9.out HH9.out ?_) | (refine wpList_load_int rfl (.tmp 13) rfl g13 v13 (gg) rfl HV13.out HH13.out ?_))
          refine (DY.out v9 v13 _ HV9.out HV13.out).mono ?_
          rintro e u14 ⟨pu14, qu14, rfl, h3, h4, hb⟩
          replace HT := hid (HT.out.keep hb)
          replace C8 := hid (C8.out.keep hb)
          replace C9 := hid (C9.out.keep hb)
          replace C10 := hid (C10.out.keep hb)
          replace C11 := hid (C11.out.keep hb)
          replace C13 := hid (C13.out.keep hb)
          replace C14 := hid (C14.out.keep hb)
          replace C15 := hid (C15.out.keep hb)
          replace HB := hid (Pu.further HB.out hb)
          obtain ⟨b7, so7, n7, sc7, rfl⟩ := h3.open
          obtain ⟨b8, so8, n8, sc8, rfl⟩ := h4.open
          have hal := (show Below u14.heap.size u14 (u14.alloc (Obj.cells #[Value.bool b7, Value.slice so7 n7 sc7] 24)) from (Below.refl _ _).alloc (Nat.le_refl _) _)
          have hal2 := (show Below (u14.alloc (Obj.cells #[Value.bool b7, Value.slice so7 n7 sc7] 24)).heap.size (u14.alloc (Obj.cells #[Value.bool b7, Value.slice so7 n7 sc7] 24)) ((u14.alloc (Obj.cells #[Value.bool b7, Value.slice so7 n7 sc7] 24)).alloc (Obj.cells #[Value.bool b8, Value.slice so8 n8 sc8] 24)) from (Below.refl _ _).alloc (Nat.le_refl _) _)
          replace HT := hid (HT.out.keep hal)
          replace C8 := hid (C8.out.keep hal)
          replace C9 := hid (C9.out.keep hal)
          replace C10 := hid (C10.out.keep hal)
          replace C11 := hid (C11.out.keep hal)
          replace C13 := hid (C13.out.keep hal)
          replace C14 := hid (C14.out.keep hal)
          replace C15 := hid (C15.out.keep hal)
          replace HB := hid (Pu.further HB.out hal)
          replace HT := hid (HT.out.keep hal2)
          replace C8 := hid (C8.out.keep hal2)
          replace C9 := hid (C9.out.keep hal2)
          replace C10 := hid (C10.out.keep hal2)
          replace C11 := hid (C11.out.keep hal2)
          replace C13 := hid (C13.out.keep hal2)
          replace C14 := hid (C14.out.keep hal2)
          replace C15 := hid (C15.out.keep hal2)
          replace HB := hid (Pu.further HB.out hal2)
          have C16 := hid ((IntCell.new h3).keep hal2)
          have hp := (IntCell.new (h4.keep hal))
          rw [show (u14.alloc (Obj.cells #[Value.bool b7, Value.slice so7 n7 sc7] 24)).heap.size = u14.heap.size + 1 by simp] at hp
          have C17 := hid hp
          clear hb hal hal2 hp h3 h4
          clear HV9 HH9 HV13 HH13
          go_upto_region 15 with fail
          generalize hU : ((u14.alloc (Obj.cells #[Value.bool b7, Value.slice so7 n7 sc7] 24)).alloc (Obj.cells #[Value.bool b8, Value.slice so8 n8 sc8] 24)) = W16 at *
          clear hU
          generalize hg : u14.heap.size + 1 = g17 at *
          generalize u14.heap.size = g16 at *
          clear hg
          obtain ⟨v14, hv14, hh14⟩ := C14.out
          have HV14 := hid hv14
          have HH14 := hid hh14
          clear hv14 hh14
          obtain ⟨v16, hv16, hh16⟩ := C16.out
          have HV16 := hid hv16
          have HH16 := hid hh16
          clear hv16 hh16
          go_wp2_with (first | (refine wpList_load_int rfl (.tmp 14) rfl g14 v14 (a0) rfl HV14.out HH14.out ?_) | (refine wpList_load_int rfl (.tmp 16) rfl g16 v16 (b0) rfl HV16.out HH16.out ?_))
          refine (GO.out v14 v16 _ HV14.out HV16.out).mono ?_
          rintro e u15 ⟨vu15, rfl, hv, hb⟩
          replace HT := hid (HT.out.keep hb)
          replace C8 := hid (C8.out.keep hb)
          replace C9 := hid (C9.out.keep hb)
          replace C10 := hid (C10.out.keep hb)
          replace C11 := hid (C11.out.keep hb)
          replace C13 := hid (C13.out.keep hb)
          replace C14 := hid (C14.out.keep hb)
          replace C15 := hid (C15.out.keep hb)
          replace C16 := hid (C16.out.keep hb)
          replace C17 := hid (C17.out.keep hb)
          replace HB := hid (Pu.further HB.out hb)
          obtain ⟨b9, so9, n9, sc9, rfl⟩ := hv.open
          have hal := (show Below u15.heap.size u15 (u15.alloc (Obj.cells #[Value.bool b9, Value.slice so9 n9 sc9] 24)) from (Below.refl _ _).alloc (Nat.le_refl _) _)
          have C18 := hid (IntCell.new hv)
          replace HT := hid (HT.out.keep hal)
          replace C8 := hid (C8.out.keep hal)
          replace C9 := hid (C9.out.keep hal)
          replace C10 := hid (C10.out.keep hal)
          replace C11 := hid (C11.out.keep hal)
          replace C13 := hid (C13.out.keep hal)
          replace C14 := hid (C14.out.keep hal)
          replace C15 := hid (C15.out.keep hal)
          replace C16 := hid (C16.out.keep hal)
          replace C17 := hid (C17.out.keep hal)
          replace HB := hid (Pu.further HB.out hal)
          clear hb hal hv
          clear HV14 HH14 HV16 HH16
          go_upto_region 16 with fail
          generalize hU : u15.alloc (Obj.cells #[Value.bool b9, Value.slice so9 n9 sc9] 24) = W18 at *
          clear hU
          generalize u15.heap.size = g18 at *
          rename_i hret
          refine Pu.wp_region_pure 29 (Slots [(92, .int (gg)), (93, .eq (.int .i64 1)), (94, .eq (.bool true)), (95, .eq (.bool true)), (96, .int (0)), (97, .eq (.int .i64 0)), (98, .eq (.bool true)), (99, .eq (.bool true)), (100, .eq (.bool true)), (101, .int (0)), (102, .eq (.int .i64 0)), (103, .eq (.bool true)), (104, .eq (.bool true)), (105, .eq (.bool true)), (106, .int (1)), (107, .int (1)), (108, .eq (.bool true)), (109, .eq (.bool true)), (110, .eq (.bool true)), (111, .int (gg)), (112, .int (y)), (113, .int (r)), (114, .int (gg)), (115, .eq (.bool true)), (116, .eq (.bool true)), (117, .eq (.bool true)), (118, .eq (.bool true)), (119, .eq (.bool true)), (6, .eq (.bool true))]) (by kernel_rfl) (by kernel_rfl) (by kernel_rfl) (fun hfn => absurd hfn (by decide)) (Slots.keep _) ?_ ?_ ?_
          · intro L a w2 i o ho hne2 hL hdep hI
            have hi : i < 29 := (Array.getElem?_eq_some_iff.1 ho).1
            rcases (show i = 0 ∨ i = 1 ∨ i = 2 ∨ i = 3 ∨ i = 4 ∨ i = 5 ∨ i = 6 ∨ i = 7 ∨ i = 8 ∨ i = 9 ∨ i = 10 ∨ i = 11 ∨ i = 12 ∨ i = 13 ∨ i = 14 ∨ i = 15 ∨ i = 16 ∨ i = 17 ∨ i = 18 ∨ i = 19 ∨ i = 20 ∨ i = 21 ∨ i = 22 ∨ i = 23 ∨ i = 24 ∨ i = 25 ∨ i = 26 ∨ i = 27 ∨ i = 28 by omega) with rfl | rfl | rfl | rfl | rfl | rfl | rfl | rfl | rfl | rfl | rfl | rfl | rfl | rfl | rfl | rfl | rfl | rfl | rfl | rfl | rfl | rfl | rfl | rfl | rfl | rfl | rfl | rfl | rfl
            · cases (Option.some.inj (show some _ = some o from ho))
              have h13 : a.tmps.getD 13 undef = .pointer (some ⟨g13, 0, none⟩) := hI.free (t := 13) (by kernel_rfl)
              refine pstep rfl fun K hK => ?_
              refine wp_load_int (.tmp 13) rfl g13 _ h13 (C13.out.keep hI.below) ?_
              intro v hv hh
              exact hK _ _ (Below.refl _ _) (fun d hd => by cases hd; exact hv)
            · cases (Option.some.inj (show some _ = some o from ho))
              have h92 : IntAt w2 (a.tmps.getD 92 undef) (gg) := hI.slot (i := 0) (d := 92) (hdep ⟨0, .data⟩ (by simp) (by rfl)) rfl
              obtain ⟨x92, e92⟩ : ∃ x, a.tmps.getD 92 undef = x := ⟨_, rfl⟩
              rw [e92] at h92
              refine pstep rfl fun K hK => ?_
              clear hdep hI ho hi
              go_simp
              refine (Sign_any x92 _ _ h92).mono ?_
              rintro e w3 ⟨rfl, hb3⟩
              exact hK _ _ hb3 (fun d hd => by cases hd; exact congrArg (Value.int .i64) HCG.out)
            · cases (Option.some.inj (show some _ = some o from ho))
              have h93 : a.tmps.getD 93 undef = .int .i64 1 := hI.slot (i := 1) (d := 93) (hdep ⟨1, .data⟩ (by simp) (by rfl)) rfl
              refine pstep rfl fun K hK => ?_
              clear hdep hI ho hi
              go_simp
              exact hK _ _ (Below.refl _ _) (fun d hd => by cases hd; rfl)
            · cases (Option.some.inj (show some _ = some o from ho))
              have h94 : a.tmps.getD 94 undef = .bool true := hI.slot (i := 2) (d := 94) (hdep ⟨2, .data⟩ (by simp) (by rfl)) rfl
              refine pstep rfl fun K hK => ?_
              clear hdep hI ho hi
              go_simp
              exact hK _ _ (Below.refl _ _) (fun d hd => by cases hd; rfl)
            · cases (Option.some.inj (show some _ = some o from ho))
              have h15 : a.tmps.getD 15 undef = .pointer (some ⟨g15, 0, none⟩) := hI.free (t := 15) (by kernel_rfl)
              have hgd : a.tmps.getD 95 undef = .bool true := hI.slot (i := 3) (d := 95) (hdep ⟨3, .guard⟩ (by simp) (by rfl)) rfl
              refine pstep (wanted_of rfl (Pu.yielded_of rfl hgd)) fun K hK => ?_
              clear hgd
              refine wp_load_int (.tmp 15) rfl g15 _ h15 (C15.out.keep hI.below) ?_
              intro v hv hh
              exact hK _ _ (Below.refl _ _) (fun d hd => by cases hd; exact hv)
            · cases (Option.some.inj (show some _ = some o from ho))
              have h96 : IntAt w2 (a.tmps.getD 96 undef) (0) := hI.slot (i := 4) (d := 96) (hdep ⟨4, .data⟩ (by simp) (by rfl)) rfl
              obtain ⟨x96, e96⟩ : ∃ x, a.tmps.getD 96 undef = x := ⟨_, rfl⟩
              rw [e96] at h96
              have hgd : a.tmps.getD 95 undef = .bool true := hI.slot (i := 3) (d := 95) (hdep ⟨3, .guard⟩ (by simp) (by rfl)) rfl
              refine pstep (wanted_of rfl (Pu.yielded_of rfl hgd)) fun K hK => ?_
              clear hgd
              clear hdep hI ho hi
              go_simp
              refine (Sign_any x96 _ _ h96).mono ?_
              rintro e w3 ⟨rfl, hb3⟩
              exact hK _ _ hb3 (fun d hd => by cases hd; rfl)
            · cases (Option.some.inj (show some _ = some o from ho))
              have h97 : a.tmps.getD 97 undef = .int .i64 0 := hI.slot (i := 5) (d := 97) (hdep ⟨5, .data⟩ (by simp) (by rfl)) rfl
              have hgd : a.tmps.getD 95 undef = .bool true := hI.slot (i := 3) (d := 95) (hdep ⟨3, .guard⟩ (by simp) (by rfl)) rfl
              refine pstep (wanted_of rfl (Pu.yielded_of rfl hgd)) fun K hK => ?_
              clear hgd
              clear hdep hI ho hi
              go_simp
              exact hK _ _ (Below.refl _ _) (fun d hd => by cases hd; rfl)
            · cases (Option.some.inj (show some _ = some o from ho))
              have h95 : a.tmps.getD 95 undef = .bool true := hI.slot (i := 3) (d := 95) (hdep ⟨3, .data⟩ (by simp) (by rfl)) rfl
              have h98 : a.tmps.getD 98 undef = .bool true := hI.slot (i := 6) (d := 98) (hdep ⟨6, .data⟩ (by simp) (by rfl)) rfl
              refine pstep rfl fun K hK => ?_
              clear hdep hI ho hi
              go_simp
              exact hK _ _ (Below.refl _ _) (fun d hd => by cases hd; rfl)
            · cases (Option.some.inj (show some _ = some o from ho))
              have h99 : a.tmps.getD 99 undef = .bool true := hI.slot (i := 7) (d := 99) (hdep ⟨7, .data⟩ (by simp) (by rfl)) rfl
              refine pstep rfl fun K hK => ?_
              clear hdep hI ho hi
              go_simp
              exact hK _ _ (Below.refl _ _) (fun d hd => by cases hd; rfl)
            · cases (Option.some.inj (show some _ = some o from ho))
              have h17 : a.tmps.getD 17 undef = .pointer (some ⟨g17, 0, none⟩) := hI.free (t := 17) (by kernel_rfl)
              have hgd : a.tmps.getD 100 undef = .bool true := hI.slot (i := 8) (d := 100) (hdep ⟨8, .guard⟩ (by simp) (by rfl)) rfl
              refine pstep (wanted_of rfl (Pu.yielded_of rfl hgd)) fun K hK => ?_
              clear hgd
              refine wp_load_int (.tmp 17) rfl g17 _ h17 (C17.out.keep hI.below) ?_
              intro v hv hh
              exact hK _ _ (Below.refl _ _) (fun d hd => by cases hd; exact hv)
            · cases (Option.some.inj (show some _ = some o from ho))
              have h101 : IntAt w2 (a.tmps.getD 101 undef) (0) := hI.slot (i := 9) (d := 101) (hdep ⟨9, .data⟩ (by simp) (by rfl)) rfl
              obtain ⟨x101, e101⟩ : ∃ x, a.tmps.getD 101 undef = x := ⟨_, rfl⟩
              rw [e101] at h101
              have hgd : a.tmps.getD 100 undef = .bool true := hI.slot (i := 8) (d := 100) (hdep ⟨8, .guard⟩ (by simp) (by rfl)) rfl
              refine pstep (wanted_of rfl (Pu.yielded_of rfl hgd)) fun K hK => ?_
              clear hgd
              clear hdep hI ho hi
              go_simp
              refine (Sign_any x101 _ _ h101).mono ?_
              rintro e w3 ⟨rfl, hb3⟩
              exact hK _ _ hb3 (fun d hd => by cases hd; rfl)
            · cases (Option.some.inj (show some _ = some o from ho))
              have h102 : a.tmps.getD 102 undef = .int .i64 0 := hI.slot (i := 10) (d := 102) (hdep ⟨10, .data⟩ (by simp) (by rfl)) rfl
              have hgd : a.tmps.getD 100 undef = .bool true := hI.slot (i := 8) (d := 100) (hdep ⟨8, .guard⟩ (by simp) (by rfl)) rfl
              refine pstep (wanted_of rfl (Pu.yielded_of rfl hgd)) fun K hK => ?_
              clear hgd
              clear hdep hI ho hi
              go_simp
              exact hK _ _ (Below.refl _ _) (fun d hd => by cases hd; rfl)
            · cases (Option.some.inj (show some _ = some o from ho))
              have h100 : a.tmps.getD 100 undef = .bool true := hI.slot (i := 8) (d := 100) (hdep ⟨8, .data⟩ (by simp) (by rfl)) rfl
              have h103 : a.tmps.getD 103 undef = .bool true := hI.slot (i := 11) (d := 103) (hdep ⟨11, .data⟩ (by simp) (by rfl)) rfl
              refine pstep rfl fun K hK => ?_
              clear hdep hI ho hi
              go_simp
              exact hK _ _ (Below.refl _ _) (fun d hd => by cases hd; rfl)
            · cases (Option.some.inj (show some _ = some o from ho))
              have h104 : a.tmps.getD 104 undef = .bool true := hI.slot (i := 12) (d := 104) (hdep ⟨12, .data⟩ (by simp) (by rfl)) rfl
              refine pstep rfl fun K hK => ?_
              clear hdep hI ho hi
              go_simp
              exact hK _ _ (Below.refl _ _) (fun d hd => by cases hd; rfl)
            · cases (Option.some.inj (show some _ = some o from ho))
              have h18 : a.tmps.getD 18 undef = .pointer (some ⟨g18, 0, none⟩) := hI.free (t := 18) (by kernel_rfl)
              have hgd : a.tmps.getD 105 undef = .bool true := hI.slot (i := 13) (d := 105) (hdep ⟨13, .guard⟩ (by simp) (by rfl)) rfl
              refine pstep (wanted_of rfl (Pu.yielded_of rfl hgd)) fun K hK => ?_
              clear hgd
              refine wp_load_int (.tmp 18) rfl g18 _ h18 (C18.out.keep hI.below) ?_
              intro v hv hh
              exact hK _ _ (Below.refl _ _) (fun d hd => by cases hd; exact hv)
            · cases (Option.some.inj (show some _ = some o from ho))
              have hgd : a.tmps.getD 105 undef = .bool true := hI.slot (i := 13) (d := 105) (hdep ⟨13, .guard⟩ (by simp) (by rfl)) rfl
              refine pstep (wanted_of rfl (Pu.yielded_of rfl hgd)) fun K hK => ?_
              clear hgd
              clear hdep hI ho hi
              go_simp
              refine (Of_any 1 _ (by decide) (by decide)).mono ?_
              rintro e w3 ⟨v3, rfl, hv3, hb3⟩
              exact hK _ _ hb3 (fun d hd => by cases hd; exact hv3)
            · cases (Option.some.inj (show some _ = some o from ho))
              have h106 : IntAt w2 (a.tmps.getD 106 undef) (1) := hI.slot (i := 14) (d := 106) (hdep ⟨14, .data⟩ (by simp) (by rfl)) rfl
              obtain ⟨x106, e106⟩ : ∃ x, a.tmps.getD 106 undef = x := ⟨_, rfl⟩
              rw [e106] at h106
              have h107 : IntAt w2 (a.tmps.getD 107 undef) (1) := hI.slot (i := 15) (d := 107) (hdep ⟨15, .data⟩ (by simp) (by rfl)) rfl
              obtain ⟨x107, e107⟩ : ∃ x, a.tmps.getD 107 undef = x := ⟨_, rfl⟩
              rw [e107] at h107
              have hgd : a.tmps.getD 105 undef = .bool true := hI.slot (i := 13) (d := 105) (hdep ⟨13, .guard⟩ (by simp) (by rfl)) rfl
              refine pstep (wanted_of rfl (Pu.yielded_of rfl hgd)) fun K hK => ?_
              clear hgd
              clear hdep hI ho hi
              go_simp
              refine (lawSame_any x106 x107 _ _ _ h106 h107).mono ?_
              rintro e w3 ⟨rfl, hb3⟩
              exact hK _ _ hb3 (fun d hd => by cases hd; exact congrArg Value.bool (decide_eq_true rfl))
            · cases (Option.some.inj (show some _ = some o from ho))
              have h105 : a.tmps.getD 105 undef = .bool true := hI.slot (i := 13) (d := 105) (hdep ⟨13, .data⟩ (by simp) (by rfl)) rfl
              have h108 : a.tmps.getD 108 undef = .bool true := hI.slot (i := 16) (d := 108) (hdep ⟨16, .data⟩ (by simp) (by rfl)) rfl
              refine pstep rfl fun K hK => ?_
              clear hdep hI ho hi
              go_simp
              exact hK _ _ (Below.refl _ _) (fun d hd => by cases hd; rfl)
            · cases (Option.some.inj (show some _ = some o from ho))
              have h109 : a.tmps.getD 109 undef = .bool true := hI.slot (i := 17) (d := 109) (hdep ⟨17, .data⟩ (by simp) (by rfl)) rfl
              refine pstep rfl fun K hK => ?_
              clear hdep hI ho hi
              go_simp
              exact hK _ _ (Below.refl _ _) (fun d hd => by cases hd; rfl)
            · cases (Option.some.inj (show some _ = some o from ho))
              have h13 : a.tmps.getD 13 undef = .pointer (some ⟨g13, 0, none⟩) := hI.free (t := 13) (by kernel_rfl)
              have hgd : a.tmps.getD 110 undef = .bool true := hI.slot (i := 18) (d := 110) (hdep ⟨18, .guard⟩ (by simp) (by rfl)) rfl
              refine pstep (wanted_of rfl (Pu.yielded_of rfl hgd)) fun K hK => ?_
              clear hgd
              refine wp_load_int (.tmp 13) rfl g13 _ h13 (C13.out.keep hI.below) ?_
              intro v hv hh
              exact hK _ _ (Below.refl _ _) (fun d hd => by cases hd; exact hv)
            · cases (Option.some.inj (show some _ = some o from ho))
              have h9 : a.tmps.getD 9 undef = .pointer (some ⟨g9, 0, none⟩) := hI.free (t := 9) (by kernel_rfl)
              have hgd : a.tmps.getD 110 undef = .bool true := hI.slot (i := 18) (d := 110) (hdep ⟨18, .guard⟩ (by simp) (by rfl)) rfl
              refine pstep (wanted_of rfl (Pu.yielded_of rfl hgd)) fun K hK => ?_
              clear hgd
              refine wp_load_int (.tmp 9) rfl g9 _ h9 (C9.out.keep hI.below) ?_
              intro v hv hh
              exact hK _ _ (Below.refl _ _) (fun d hd => by cases hd; exact hv)
            · cases (Option.some.inj (show some _ = some o from ho))
              have h11 : a.tmps.getD 11 undef = .pointer (some ⟨g11, 0, none⟩) := hI.free (t := 11) (by kernel_rfl)
              have hgd : a.tmps.getD 110 undef = .bool true := hI.slot (i := 18) (d := 110) (hdep ⟨18, .guard⟩ (by simp) (by rfl)) rfl
              refine pstep (wanted_of rfl (Pu.yielded_of rfl hgd)) fun K hK => ?_
              clear hgd
              refine wp_load_int (.tmp 11) rfl g11 _ h11 (C11.out.keep hI.below) ?_
              intro v hv hh
              exact hK _ _ (Below.refl _ _) (fun d hd => by cases hd; exact hv)
            · cases (Option.some.inj (show some _ = some o from ho))
              have h112 : IntAt w2 (a.tmps.getD 112 undef) (y) := hI.slot (i := 20) (d := 112) (hdep ⟨20, .data⟩ (by simp) (by rfl)) rfl
              obtain ⟨x112, e112⟩ : ∃ x, a.tmps.getD 112 undef = x := ⟨_, rfl⟩
              rw [e112] at h112
              have h113 : IntAt w2 (a.tmps.getD 113 undef) (r) := hI.slot (i := 21) (d := 113) (hdep ⟨21, .data⟩ (by simp) (by rfl)) rfl
              obtain ⟨x113, e113⟩ : ∃ x, a.tmps.getD 113 undef = x := ⟨_, rfl⟩
              rw [e113] at h113
              have hgd : a.tmps.getD 110 undef = .bool true := hI.slot (i := 18) (d := 110) (hdep ⟨18, .guard⟩ (by simp) (by rfl)) rfl
              refine pstep (wanted_of rfl (Pu.yielded_of rfl hgd)) fun K hK => ?_
              clear hgd
              clear hdep hI ho hi
              go_simp
              refine (GM.out x112 x113 _ h112 h113).mono ?_
              rintro e w3 ⟨v3, rfl, hv3, hb3⟩
              exact hK _ _ hb3 (fun d hd => by cases hd; exact hv3)
            · cases (Option.some.inj (show some _ = some o from ho))
              have h111 : IntAt w2 (a.tmps.getD 111 undef) (gg) := hI.slot (i := 19) (d := 111) (hdep ⟨19, .data⟩ (by simp) (by rfl)) rfl
              obtain ⟨x111, e111⟩ : ∃ x, a.tmps.getD 111 undef = x := ⟨_, rfl⟩
              rw [e111] at h111
              have h114 : IntAt w2 (a.tmps.getD 114 undef) (gg) := hI.slot (i := 22) (d := 114) (hdep ⟨22, .data⟩ (by simp) (by rfl)) rfl
              obtain ⟨x114, e114⟩ : ∃ x, a.tmps.getD 114 undef = x := ⟨_, rfl⟩
              rw [e114] at h114
              have hgd : a.tmps.getD 110 undef = .bool true := hI.slot (i := 18) (d := 110) (hdep ⟨18, .guard⟩ (by simp) (by rfl)) rfl
              refine pstep (wanted_of rfl (Pu.yielded_of rfl hgd)) fun K hK => ?_
              clear hgd
              clear hdep hI ho hi
              go_simp
              refine (lawSame_any x111 x114 _ _ _ h111 h114).mono ?_
              rintro e w3 ⟨rfl, hb3⟩
              exact hK _ _ hb3 (fun d hd => by cases hd; exact congrArg Value.bool (decide_eq_true rfl))
            · cases (Option.some.inj (show some _ = some o from ho))
              have h110 : a.tmps.getD 110 undef = .bool true := hI.slot (i := 18) (d := 110) (hdep ⟨18, .data⟩ (by simp) (by rfl)) rfl
              have h115 : a.tmps.getD 115 undef = .bool true := hI.slot (i := 23) (d := 115) (hdep ⟨23, .data⟩ (by simp) (by rfl)) rfl
              refine pstep rfl fun K hK => ?_
              clear hdep hI ho hi
              go_simp
              exact hK _ _ (Below.refl _ _) (fun d hd => by cases hd; rfl)
            · cases (Option.some.inj (show some _ = some o from ho))
              have h116 : a.tmps.getD 116 undef = .bool true := hI.slot (i := 24) (d := 116) (hdep ⟨24, .data⟩ (by simp) (by rfl)) rfl
              refine pstep rfl fun K hK => ?_
              clear hdep hI ho hi
              go_simp
              exact hK _ _ (Below.refl _ _) (fun d hd => by cases hd; rfl)
            · cases (Option.some.inj (show some _ = some o from ho))
              have hgd : a.tmps.getD 117 undef = .bool true := hI.slot (i := 25) (d := 117) (hdep ⟨25, .guard⟩ (by simp) (by rfl)) rfl
              have htab := HT.out.keep hI.below
              refine pstep (wanted_of rfl (Pu.yielded_of rfl hgd)) fun K hK => ?_
              clear hgd
              clear hdep hI ho hi
              go_simp
              refine (lives_any _ htab).mono ?_
              rintro e w3 ⟨rfl, hb3⟩
              exact hK _ _ hb3 (fun d hd => by cases hd; rfl)
            · cases (Option.some.inj (show some _ = some o from ho))
              have h117 : a.tmps.getD 117 undef = .bool true := hI.slot (i := 25) (d := 117) (hdep ⟨25, .data⟩ (by simp) (by rfl)) rfl
              have h118 : a.tmps.getD 118 undef = .bool true := hI.slot (i := 26) (d := 118) (hdep ⟨26, .data⟩ (by simp) (by rfl)) rfl
              refine pstep rfl fun K hK => ?_
              clear hdep hI ho hi
              go_simp
              exact hK _ _ (Below.refl _ _) (fun d hd => by cases hd; rfl)
            · cases (Option.some.inj (show some _ = some o from ho))
              have h119 : a.tmps.getD 119 undef = .bool true := hI.slot (i := 27) (d := 119) (hdep ⟨27, .data⟩ (by simp) (by rfl)) rfl
              refine pstep rfl fun K hK => ?_
              clear hdep hI ho hi
              go_simp
              exact hK _ _ (Below.refl _ _) (fun d hd => by cases hd; rfl)
          · intro L a w2 o ho
            exact absurd ho (by simp)
          · intro _ L a w2 hall hI
            have h6 : a.tmps.getD 6 undef = .bool true := hI.slot (i := 28) (d := 6) (hall 28 (by decide)) rfl
            have HBL := hid hI.below
            refine hret _ _ ?_
            have hf := hI.frame [92, 93, 94, 95, 96, 97, 98, 99, 100, 101, 102, 103, 104, 105, 106, 107, 108, 109, 110, 111, 112, 113, 114, 115, 116, 117, 118, 119, 6] (by kernel_rfl)
            simp only [List.foldl_cons, List.foldl_nil] at hf
            clear hI hall
            generalize a.tmps.getD 92 undef = y92 at *
            generalize a.tmps.getD 93 undef = y93 at *
            generalize a.tmps.getD 94 undef = y94 at *
            generalize a.tmps.getD 95 undef = y95 at *
            generalize a.tmps.getD 96 undef = y96 at *
            generalize a.tmps.getD 97 undef = y97 at *
            generalize a.tmps.getD 98 undef = y98 at *
            generalize a.tmps.getD 99 undef = y99 at *
            generalize a.tmps.getD 100 undef = y100 at *
            generalize a.tmps.getD 101 undef = y101 at *
            generalize a.tmps.getD 102 undef = y102 at *
            generalize a.tmps.getD 103 undef = y103 at *
            generalize a.tmps.getD 104 undef = y104 at *
            generalize a.tmps.getD 105 undef = y105 at *
            generalize a.tmps.getD 106 undef = y106 at *
            generalize a.tmps.getD 107 undef = y107 at *
            generalize a.tmps.getD 108 undef = y108 at *
            generalize a.tmps.getD 109 undef = y109 at *
            generalize a.tmps.getD 110 undef = y110 at *
            generalize a.tmps.getD 111 undef = y111 at *
            generalize a.tmps.getD 112 undef = y112 at *
            generalize a.tmps.getD 113 undef = y113 at *
            generalize a.tmps.getD 114 undef = y114 at *
            generalize a.tmps.getD 115 undef = y115 at *
            generalize a.tmps.getD 116 undef = y116 at *
            generalize a.tmps.getD 117 undef = y117 at *
            generalize a.tmps.getD 118 undef = y118 at *
            generalize a.tmps.getD 119 undef = y119 at *
            generalize a.tmps.getD 6 undef = y6 at *
            subst hf
            subst h6
            go_simp
            go_wp2
            go_ret
            exact ⟨rfl, Pu.further HB.out HBL.out⟩
      · have HY0 := hid hy
        have HC0 := hid (show cmpI y 0 = 0 by rw [hy]; rfl)
        clear hy
        obtain ⟨v8, hv8, hh8⟩ := C8.out
        have HV8 := hid hv8
        have HH8 := hid hh8
        clear hv8 hh8
        obtain ⟨v9, hv9, hh9⟩ := C9.out
        have HV9 := hid hv9
        have HH9 := hid hh9
        clear hv9 hh9
        go_wp2_with (first | (refine wpList_load_int rfl (.tmp 8) rfl g8 v8 (x) rfl HV8.out HH8.out ?_) | (refine wpList_load_int rfl (.tmp 9) rfl g9 v9 (y) rfl HV9.out HH9.out ?_))
        refine (Div_zero v8 v9 x _ HV8.out (by have h := HV9.out; rw [HY0.out] at h; exact h)).mono ?_
        rintro e u4 ⟨pu4, qu4, rfl, h3, h4, hb⟩
        replace HT := hid (HT.out.keep hb)
        replace C8 := hid (C8.out.keep hb)
        replace C9 := hid (C9.out.keep hb)
        replace HB := hid (Pu.further HB.out hb)
        obtain ⟨b10, so10, n10, sc10, rfl⟩ := h3.open
        obtain ⟨b11, so11, n11, sc11, rfl⟩ := h4.open
        have hal := (show Below u4.heap.size u4 (u4.alloc (Obj.cells #[Value.bool b10, Value.slice so10 n10 sc10] 24)) from (Below.refl _ _).alloc (Nat.le_refl _) _)
        have hal2 := (show Below (u4.alloc (Obj.cells #[Value.bool b10, Value.slice so10 n10 sc10] 24)).heap.size (u4.alloc (Obj.cells #[Value.bool b10, Value.slice so10 n10 sc10] 24)) ((u4.alloc (Obj.cells #[Value.bool b10, Value.slice so10 n10 sc10] 24)).alloc (Obj.cells #[Value.bool b11, Value.slice so11 n11 sc11] 24)) from (Below.refl _ _).alloc (Nat.le_refl _) _)
        replace HT := hid (HT.out.keep hal)
        replace C8 := hid (C8.out.keep hal)
        replace C9 := hid (C9.out.keep hal)
        replace HB := hid (Pu.further HB.out hal)
        replace HT := hid (HT.out.keep hal2)
        replace C8 := hid (C8.out.keep hal2)
        replace C9 := hid (C9.out.keep hal2)
        replace HB := hid (Pu.further HB.out hal2)
        have C10 := hid ((IntCell.new h3).keep hal2)
        have hp := (IntCell.new (h4.keep hal))
        rw [show (u4.alloc (Obj.cells #[Value.bool b10, Value.slice so10 n10 sc10] 24)).heap.size = u4.heap.size + 1 by simp] at hp
        have C11 := hid hp
        clear hb hal hal2 hp h3 h4
        clear HV8 HH8 HV9 HH9
        clear HY0
        go_upto_region 5 with fail
        generalize hU : ((u4.alloc (Obj.cells #[Value.bool b10, Value.slice so10 n10 sc10] 24)).alloc (Obj.cells #[Value.bool b11, Value.slice so11 n11 sc11] 24)) = W10 at *
        clear hU
        generalize hg : u4.heap.size + 1 = g11 at *
        generalize u4.heap.size = g10 at *
        clear hg
        have S8 := C8
        have S9 := C9
        have S10 := C10
        have S11 := C11
        have ST := HT
        have SB := HB
        have HBU := hid (Below.refl W10.heap.size W10)
        obtain ⟨v9, hv9, hh9⟩ := C9.out
        have HV9 := hid hv9
        have HH9 := hid hh9
        clear hv9 hh9
        have hv9 := HV9.out
        obtain ⟨b9, so9, n9, sc9, rfl⟩ := hv9.open
        clear hv9
        go_upto_region 6 with (refine wpList_load_int rfl (.tmp 9) rfl g9 (.agg #[.bool b9, .slice so9 n9 sc9]) (y) rfl HV9.out HH9.out ?_)
        have hb := (show Below W10.heap.size W10 (W10.alloc (Obj.cells #[Value.bool b9, Value.slice so9 n9 sc9] 24)) from (Below.refl _ _).alloc (Nat.le_refl _) _)
        replace HT := hid (HT.out.keep hb)
        replace C8 := hid (C8.out.keep hb)
        replace C9 := hid (C9.out.keep hb)
        replace C10 := hid (C10.out.keep hb)
        replace C11 := hid (C11.out.keep hb)
        replace HB := hid (Pu.further HB.out hb)
        replace HBU := hid (Pu.further HBU.out hb)
        have C12 := hid (IntCell.new HV9.out)
        clear hb HV9 HH9
        generalize hU : W10.alloc (Obj.cells #[Value.bool b9, Value.slice so9 n9 sc9] 24) = W12 at *
        clear hU
        obtain ⟨g12, hg12⟩ : ∃ g, W10.heap.size = g := ⟨_, rfl⟩
        rw [hg12] at C12 ⊢
        have G12 := hid hg12
        clear hg12
        obtain ⟨v9, hv9, hh9⟩ := C9.out
        have HV9 := hid hv9
        have HH9 := hid hh9
        clear hv9 hh9
        go_wp2_with (refine wpList_load_int rfl (.tmp 9) rfl g9 v9 (y) rfl HV9.out HH9.out ?_)
        refine (Sign_any v9 _ _ HV9.out).mono ?_
        rintro e u6 ⟨rfl, hb⟩
        replace HT := hid (HT.out.keep hb)
        replace C8 := hid (C8.out.keep hb)
        replace C9 := hid (C9.out.keep hb)
        replace C10 := hid (C10.out.keep hb)
        replace C11 := hid (C11.out.keep hb)
        replace C12 := hid (C12.out.keep hb)
        replace HB := hid (Pu.further HB.out hb)
        replace HBU := hid (Pu.further HBU.out hb)
        rw [HC0.out]
        clear hb
        clear HV9 HH9
        clear HBU
        clear S8 S9 S10 S11 ST SB G12
        obtain ⟨v9, hv9, hh9⟩ := C9.out
        have HV9 := hid hv9
        have HH9 := hid hh9
        clear hv9 hh9
        go_wp2_with (refine wpList_load_int rfl (.tmp 9) rfl g9 v9 (y) rfl HV9.out HH9.out ?_)
        refine (Sign_any v9 _ _ HV9.out).mono ?_
        rintro e u8 ⟨rfl, hb⟩
        replace HT := hid (HT.out.keep hb)
        replace C8 := hid (C8.out.keep hb)
        replace C9 := hid (C9.out.keep hb)
        replace C10 := hid (C10.out.keep hb)
        replace C11 := hid (C11.out.keep hb)
        replace C12 := hid (C12.out.keep hb)
        replace HB := hid (Pu.further HB.out hb)
        rw [HC0.out]
        clear hb
        clear HV9 HH9
        obtain ⟨v10, hv10, hh10⟩ := C10.out
        have HV10 := hid hv10
        have HH10 := hid hh10
        clear hv10 hh10
        go_wp2_with (refine wpList_load_int rfl (.tmp 10) rfl g10 v10 (0) rfl HV10.out HH10.out ?_)
        refine (Sign_any v10 _ _ HV10.out).mono ?_
        rintro e u9 ⟨rfl, hb⟩
        replace HT := hid (HT.out.keep hb)
        replace C8 := hid (C8.out.keep hb)
        replace C9 := hid (C9.out.keep hb)
        replace C10 := hid (C10.out.keep hb)
        replace C11 := hid (C11.out.keep hb)
        replace C12 := hid (C12.out.keep hb)
        replace HB := hid (Pu.further HB.out hb)
        rw [show cmpI (0 : Int) 0 = 0 from rfl]
        clear hb
        clear HV10 HH10
        obtain ⟨v11, hv11, hh11⟩ := C11.out
        have HV11 := hid hv11
        have HH11 := hid hh11
        clear hv11 hh11
        go_wp2_with (refine wpList_load_int_r rfl (.tmp 11) rfl g11 v11 (0) rfl HV11.out HH11.out ?_)
        refine (Sign_any v11 _ _ HV11.out).mono ?_
        rintro e u10 ⟨rfl, hb⟩
        replace HT := hid (HT.out.keep hb)
        replace C8 := hid (C8.out.keep hb)
        replace C9 := hid (C9.out.keep hb)
        replace C10 := hid (C10.out.keep hb)
        replace C11 := hid (C11.out.keep hb)
        replace C12 := hid (C12.out.keep hb)
        replace HB := hid (Pu.further HB.out hb)
        rw [show cmpI (0 : Int) 0 = 0 from rfl]
        clear hb
        clear HV11 HH11
        go_wp2_with fail
        refine (lives_any _ HT.out).mono ?_
        rintro e u11 ⟨rfl, hb⟩
        have HBE := hid (Pu.further HB.out hb)
        clear hb
        go_wp2
        go_ret
        exact ⟨rfl, HBE.out⟩
      · have HY0 := hid hy
        have hne : y ≠ 0 := by omega
        obtain ⟨sz, hsz⟩ : ∃ sz, sz = ((y.natAbs : Nat) : Int) := ⟨_, rfl⟩
        have hr0 := Int.emod_nonneg x hne
        have hr1 := Int.emod_lt x hne
        have hqr : x / y * y + x % y = x := by rw [Int.mul_comm]; exact Int.mul_ediv_add_emod x y
        have hql := hid (len_div (y := y) HXL.out)
        have hrl := hid (len_mod (x := x) hne HYL.out)
        have hgl := hid (len_gcd (x := x) hne HYL.out)
        have hgm := gcd_mod x y
        have hgx := mod_gcd_l x y
        have hgy := mod_gcd_r x y
        have hg1 := @Int.gcd_ediv_gcd_ediv_gcd_of_ne_zero_right x y hne
        have hgp : (0 : Int) < ((Int.gcd x y : Nat) : Int) := by have := Int.gcd_pos_of_ne_zero_right x hne; omega
        have DV := hid (fun (v1 v2 : Value) (w : World) h1 h2 => Div_any v1 v2 x y w h1 h2 hne (len_k HXL.out) (len_k HYL.out))
        have GC := hid (fun (v1 v2 : Value) (w : World) h1 h2 => Gcd_any v1 v2 x y w h1 h2 (len_k HXL.out) (len_k HYL.out))
        have GM := hid (fun (v1 v2 : Value) (w : World) h1 h2 => Gcd_any v1 v2 y (x % y) w h1 h2 (len_k HYL.out) (len_k hrl.out))
        rw [hgm] at GM
        generalize ((Int.gcd x y : Nat) : Int) = gg at *
        generalize x % y = r at *
        generalize x / y = q at *
        have DX := hid (fun (v1 v2 : Value) (w : World) h1 h2 => Div_any v1 v2 x gg w h1 h2 (by omega) (len_k HXL.out) (len_k hgl.out))
        rw [hgx] at DX
        have DY := hid (fun (v1 v2 : Value) (w : World) h1 h2 => Div_any v1 v2 y gg w h1 h2 (by omega) (len_k HYL.out) (len_k hgl.out))
        rw [hgy] at DY
        have HAL := hid (len_div (y := gg) HXL.out)
        have HBL2 := hid (len_div (y := gg) HYL.out)
        generalize x / gg = a0 at *
        generalize y / gg = b0 at *
        have GO := hid (fun (v1 v2 : Value) (w : World) h1 h2 => Gcd_any v1 v2 a0 b0 w h1 h2 (len_k HAL.out) (len_k HBL2.out))
        rw [hg1] at GO
        have MQ := hid (fun (v1 v2 : Value) (w : World) h1 h2 => Mul_any v1 v2 q y w h1 h2 (len_k hql.out) (len_k HYL.out))
        have hqy : len (q * y) ≤ 28 := Nat.le_trans (len_mul q y) (by have := hql.out; have := HYL.out; omega)
        have AQ := hid (fun (v1 v2 : Value) (w : World) h1 h2 => Add_any v1 v2 (q * y) r w h1 h2 (len_k hqy) (len_k hrl.out))
        rw [hqr] at AQ
        generalize q * y = qy at *
        have HC0 := hid (show cmpI y 0 = 1 by unfold cmpI; rw [if_neg (by omega), if_pos (by omega)])
        have HS0 := hid (show decide (cmpI r 0 < 0) = false by unfold cmpI; rw [if_neg (by omega)]; split <;> rfl)
        have HCR := hid (show cmpI r sz = -1 by unfold cmpI; rw [if_pos (by omega)])
        have HCG := hid (show cmpI gg 0 = 1 by unfold cmpI; rw [if_neg (by omega), if_pos (by omega)])
        have HSZ := hid (show sz = y by omega)
        clear hy hsz hr0 hr1 hqr hgm hgx hgy hg1 hgp hqy hne HY0 hql
        obtain ⟨v8, hv8, hh8⟩ := C8.out
        have HV8 := hid hv8
        have HH8 := hid hh8
        clear hv8 hh8
        obtain ⟨v9, hv9, hh9⟩ := C9.out
        have HV9 := hid hv9
        have HH9 := hid hh9
        clear hv9 hh9
        go_wp2_with (first | (refine wpList_load_int rfl (.tmp 8) rfl g8 v8 (x) rfl HV8.out HH8.out ?_) | (refine wpList_load_int rfl (.tmp 9) rfl g9 v9 (y) rfl HV9.out HH9.out ?_))
        refine (DV.out v8 v9 _ HV8.out HV9.out).mono ?_
        rintro e u4 ⟨pu4, qu4, rfl, h3, h4, hb⟩
        replace HT := hid (HT.out.keep hb)
        replace C8 := hid (C8.out.keep hb)
        replace C9 := hid (C9.out.keep hb)
        replace HB := hid (Pu.further HB.out hb)
        obtain ⟨b12, so12, n12, sc12, rfl⟩ := h3.open
        obtain ⟨b13, so13, n13, sc13, rfl⟩ := h4.open
        have hal := (show Below u4.heap.size u4 (u4.alloc (Obj.cells #[Value.bool b12, Value.slice so12 n12 sc12] 24)) from (Below.refl _ _).alloc (Nat.le_refl _) _)
        have hal2 := (show Below (u4.alloc (Obj.cells #[Value.bool b12, Value.slice so12 n12 sc12] 24)).heap.size (u4.alloc (Obj.cells #[Value.bool b12, Value.slice so12 n12 sc12] 24)) ((u4.alloc (Obj.cells #[Value.bool b12, Value.slice so12 n12 sc12] 24)).alloc (Obj.cells #[Value.bool b13, Value.slice so13 n13 sc13] 24)) from (Below.refl _ _).alloc (Nat.le_refl _) _)
        replace HT := hid (HT.out.keep hal)
        replace C8 := hid (C8.out.keep hal)
        replace C9 := hid (C9.out.keep hal)
        replace HB := hid (Pu.further HB.out hal)
        replace HT := hid (HT.out.keep hal2)
        replace C8 := hid (C8.out.keep hal2)
        replace C9 := hid (C9.out.keep hal2)
        replace HB := hid (Pu.further HB.out hal2)
        have C10 := hid ((IntCell.new h3).keep hal2)
        have hp := (IntCell.new (h4.keep hal))
        rw [show (u4.alloc (Obj.cells #[Value.bool b12, Value.slice so12 n12 sc12] 24)).heap.size = u4.heap.size + 1 by simp] at hp
        have C11 := hid hp
        clear hb hal hal2 hp h3 h4
        clear HV8 HH8 HV9 HH9
        go_upto_region 5 with fail
        generalize hU : ((u4.alloc (Obj.cells #[Value.bool b12, Value.slice so12 n12 sc12] 24)).alloc (Obj.cells #[Value.bool b13, Value.slice so13 n13 sc13] 24)) = W10 at *
        clear hU
        generalize hg : u4.heap.size + 1 = g11 at *
        generalize u4.heap.size = g10 at *
        clear hg
        have S8 := C8
        have S9 := C9
        have S10 := C10
        have S11 := C11
        have ST := HT
        have SB := HB
        have HBU := hid (Below.refl W10.heap.size W10)
        obtain ⟨v9, hv9, hh9⟩ := C9.out
        have HV9 := hid hv9
        have HH9 := hid hh9
        clear hv9 hh9
        have hv9 := HV9.out
        obtain ⟨b9, so9, n9, sc9, rfl⟩ := hv9.open
        clear hv9
        go_upto_region 6 with (refine wpList_load_int rfl (.tmp 9) rfl g9 (.agg #[.bool b9, .slice so9 n9 sc9]) (y) rfl HV9.out HH9.out ?_)
        have hb := (show Below W10.heap.size W10 (W10.alloc (Obj.cells #[Value.bool b9, Value.slice so9 n9 sc9] 24)) from (Below.refl _ _).alloc (Nat.le_refl _) _)
        replace HT := hid (HT.out.keep hb)
        replace C8 := hid (C8.out.keep hb)
        replace C9 := hid (C9.out.keep hb)
        replace C10 := hid (C10.out.keep hb)
        replace C11 := hid (C11.out.keep hb)
        replace HB := hid (Pu.further HB.out hb)
        replace HBU := hid (Pu.further HBU.out hb)
        have C12 := hid (IntCell.new HV9.out)
        clear hb HV9 HH9
        generalize hU : W10.alloc (Obj.cells #[Value.bool b9, Value.slice so9 n9 sc9] 24) = W12 at *
        clear hU
        obtain ⟨g12, hg12⟩ : ∃ g, W10.heap.size = g := ⟨_, rfl⟩
        rw [hg12] at C12 ⊢
        have G12 := hid hg12
        clear hg12
        obtain ⟨v9, hv9, hh9⟩ := C9.out
        have HV9 := hid hv9
        have HH9 := hid hh9
        clear hv9 hh9
        go_wp2_with (refine wpList_load_int rfl (.tmp 9) rfl g9 v9 (y) rfl HV9.out HH9.out ?_)
        refine (Sign_any v9 _ _ HV9.out).mono ?_
        rintro e u6 ⟨rfl, hb⟩
        replace HT := hid (HT.out.keep hb)
        replace C8 := hid (C8.out.keep hb)
        replace C9 := hid (C9.out.keep hb)
        replace C10 := hid (C10.out.keep hb)
        replace C11 := hid (C11.out.keep hb)
        replace C12 := hid (C12.out.keep hb)
        replace HB := hid (Pu.further HB.out hb)
        replace HBU := hid (Pu.further HBU.out hb)
        rw [HC0.out]
        clear hb
        clear HV9 HH9
        rw [← HSZ.out] at C12
        clear HBU
        clear S8 S9 S10 S11 ST SB G12
        obtain ⟨v9, hv9, hh9⟩ := C9.out
        have HV9 := hid hv9
        have HH9 := hid hh9
        clear hv9 hh9
        go_wp2_with (refine wpList_load_int rfl (.tmp 9) rfl g9 v9 (y) rfl HV9.out HH9.out ?_)
        refine (Sign_any v9 _ _ HV9.out).mono ?_
        rintro e u8 ⟨rfl, hb⟩
        replace HT := hid (HT.out.keep hb)
        replace C8 := hid (C8.out.keep hb)
        replace C9 := hid (C9.out.keep hb)
        replace C10 := hid (C10.out.keep hb)
        replace C11 := hid (C11.out.keep hb)
        replace C12 := hid (C12.out.keep hb)
        replace HB := hid (Pu.further HB.out hb)
        rw [HC0.out]
        clear hb
        clear HV9 HH9
        go_upto_region 10 with fail
        rename_i hret
        refine Pu.wp_region_pure 19 (Slots [(55, .int (q)), (56, .int (y)), (57, .int (qy)), (58, .int (r)), (59, .int (x)), (60, .int (x)), (61, .eq (.bool true)), (62, .eq (.bool false)), (63, .eq (.bool false)), (64, .int (r)), (65, .eq (.int .i64 (cmpI r 0))), (66, .eq (.bool false)), (67, .eq (.bool false)), (68, .eq (.bool false)), (69, .int (r)), (70, .int (sz)), (71, .eq (.int .i64 (-1))), (72, .eq (.bool false)), (73, .eq (.bool false))]) (by kernel_rfl) (by kernel_rfl) (by kernel_rfl) (fun hfn => absurd hfn (by decide)) (Slots.keep _) ?_ ?_ ?_
        · intro L a w2 i o ho hne2 hL hdep hI
          have hi : i < 19 := (Array.getElem?_eq_some_iff.1 ho).1
          rcases (show i = 0 ∨ i = 1 ∨ i = 2 ∨ i = 3 ∨ i = 4 ∨ i = 5 ∨ i = 6 ∨ i = 7 ∨ i = 8 ∨ i = 9 ∨ i = 10 ∨ i = 11 ∨ i = 12 ∨ i = 13 ∨ i = 14 ∨ i = 15 ∨ i = 16 ∨ i = 17 ∨ i = 18 by omega) with rfl | rfl | rfl | rfl | rfl | rfl | rfl | rfl | rfl | rfl | rfl | rfl | rfl | rfl | rfl | rfl | rfl | rfl | rfl
          · cases (Option.some.inj (show some _ = some o from ho))
            have h10 : a.tmps.getD 10 undef = .pointer (some ⟨g10, 0, none⟩) := hI.free (t := 10) (by kernel_rfl)
            refine pstep rfl fun K hK => ?_
            refine wp_load_int (.tmp 10) rfl g10 _ h10 (C10.out.keep hI.below) ?_
            intro v hv hh
            exact hK _ _ (Below.refl _ _) (fun d hd => by cases hd; exact hv)
          · cases (Option.some.inj (show some _ = some o from ho))
            have h9 : a.tmps.getD 9 undef = .pointer (some ⟨g9, 0, none⟩) := hI.free (t := 9) (by kernel_rfl)
            refine pstep rfl fun K hK => ?_
            refine wp_load_int (.tmp 9) rfl g9 _ h9 (C9.out.keep hI.below) ?_
            intro v hv hh
            exact hK _ _ (Below.refl _ _) (fun d hd => by cases hd; exact hv)
          · cases (Option.some.inj (show some _ = some o from ho))
            have h55 : IntAt w2 (a.tmps.getD 55 undef) (q) := hI.slot (i := 0) (d := 55) (hdep ⟨0, .data⟩ (by simp) (by rfl)) rfl
            obtain ⟨x55, e55⟩ : ∃ x, a.tmps.getD 55 undef = x := ⟨_, rfl⟩
            rw [e55] at h55
            have h56 : IntAt w2 (a.tmps.getD 56 undef) (y) := hI.slot (i := 1) (d := 56) (hdep ⟨1, .data⟩ (by simp) (by rfl)) rfl
            obtain ⟨x56, e56⟩ : ∃ x, a.tmps.getD 56 undef = x := ⟨_, rfl⟩
            rw [e56] at h56
            refine pstep rfl fun K hK => ?_
            clear hdep hI ho hi
            go_simp
            refine (MQ.out x55 x56 _ h55 h56).mono ?_
            rintro e w3 ⟨v3, rfl, hv3, hb3⟩
            exact hK _ _ hb3 (fun d hd => by cases hd; exact hv3)
          · cases (Option.some.inj (show some _ = some o from ho))
            have h11 : a.tmps.getD 11 undef = .pointer (some ⟨g11, 0, none⟩) := hI.free (t := 11) (by kernel_rfl)
            refine pstep rfl fun K hK => ?_
            refine wp_load_int (.tmp 11) rfl g11 _ h11 (C11.out.keep hI.below) ?_
            intro v hv hh
            exact hK _ _ (Below.refl _ _) (fun d hd => by cases hd; exact hv)
          · cases (Option.some.inj (show some _ = some o from ho))
            have h57 : IntAt w2 (a.tmps.getD 57 undef) (qy) := hI.slot (i := 2) (d := 57) (hdep ⟨2, .data⟩ (by simp) (by rfl)) rfl
            obtain ⟨x57, e57⟩ : ∃ x, a.tmps.getD 57 undef = x := ⟨_, rfl⟩
            rw [e57] at h57
            have h58 : IntAt w2 (a.tmps.getD 58 undef) (r) := hI.slot (i := 3) (d := 58) (hdep ⟨3, .data⟩ (by simp) (by rfl)) rfl
            obtain ⟨x58, e58⟩ : ∃ x, a.tmps.getD 58 undef = x := ⟨_, rfl⟩
            rw [e58] at h58
            refine pstep rfl fun K hK => ?_
            clear hdep hI ho hi
            go_simp
            refine (AQ.out x57 x58 _ h57 h58).mono ?_
            rintro e w3 ⟨v3, rfl, hv3, hb3⟩
            exact hK _ _ hb3 (fun d hd => by cases hd; exact hv3)
          · cases (Option.some.inj (show some _ = some o from ho))
            have h8 : a.tmps.getD 8 undef = .pointer (some ⟨g8, 0, none⟩) := hI.free (t := 8) (by kernel_rfl)
            refine pstep rfl fun K hK => ?_
            refine wp_load_int (.tmp 8) rfl g8 _ h8 (C8.out.keep hI.below) ?_
            intro v hv hh
            exact hK _ _ (Below.refl _ _) (fun d hd => by cases hd; exact hv)
          · cases (Option.some.inj (show some _ = some o from ho))
            have h59 : IntAt w2 (a.tmps.getD 59 undef) (x) := hI.slot (i := 4) (d := 59) (hdep ⟨4, .data⟩ (by simp) (by rfl)) rfl
            obtain ⟨x59, e59⟩ : ∃ x, a.tmps.getD 59 undef = x := ⟨_, rfl⟩
            rw [e59] at h59
            have h60 : IntAt w2 (a.tmps.getD 60 undef) (x) := hI.slot (i := 5) (d := 60) (hdep ⟨5, .data⟩ (by simp) (by rfl)) rfl
            obtain ⟨x60, e60⟩ : ∃ x, a.tmps.getD 60 undef = x := ⟨_, rfl⟩
            rw [e60] at h60
            refine pstep rfl fun K hK => ?_
            clear hdep hI ho hi
            go_simp
            refine (lawSame_any x59 x60 _ _ _ h59 h60).mono ?_
            rintro e w3 ⟨rfl, hb3⟩
            exact hK _ _ hb3 (fun d hd => by cases hd; exact congrArg Value.bool (decide_eq_true rfl))
          · cases (Option.some.inj (show some _ = some o from ho))
            have h61 : a.tmps.getD 61 undef = .bool true := hI.slot (i := 6) (d := 61) (hdep ⟨6, .data⟩ (by simp) (by rfl)) rfl
            refine pstep rfl fun K hK => ?_
            clear hdep hI ho hi
            go_simp
            exact hK _ _ (Below.refl _ _) (fun d hd => by cases hd; rfl)
          · cases (Option.some.inj (show some _ = some o from ho))
            have h62 : a.tmps.getD 62 undef = .bool false := hI.slot (i := 7) (d := 62) (hdep ⟨7, .data⟩ (by simp) (by rfl)) rfl
            refine pstep rfl fun K hK => ?_
            clear hdep hI ho hi
            go_simp
            exact hK _ _ (Below.refl _ _) (fun d hd => by cases hd; rfl)
          · cases (Option.some.inj (show some _ = some o from ho))
            have h11 : a.tmps.getD 11 undef = .pointer (some ⟨g11, 0, none⟩) := hI.free (t := 11) (by kernel_rfl)
            have hgd : a.tmps.getD 63 undef = .bool false := hI.slot (i := 8) (d := 63) (hdep ⟨8, .guard⟩ (by simp) (by rfl)) rfl
            refine pstep (wanted_of rfl (Pu.yielded_of rfl hgd)) fun K hK => ?_
            clear hgd
            refine wp_load_int (.tmp 11) rfl g11 _ h11 (C11.out.keep hI.below) ?_
            intro v hv hh
            exact hK _ _ (Below.refl _ _) (fun d hd => by cases hd; exact hv)
          · cases (Option.some.inj (show some _ = some o from ho))
            have h64 : IntAt w2 (a.tmps.getD 64 undef) (r) := hI.slot (i := 9) (d := 64) (hdep ⟨9, .data⟩ (by simp) (by rfl)) rfl
            obtain ⟨x64, e64⟩ : ∃ x, a.tmps.getD 64 undef = x := ⟨_, rfl⟩
            rw [e64] at h64
            have hgd : a.tmps.getD 63 undef = .bool false := hI.slot (i := 8) (d := 63) (hdep ⟨8, .guard⟩ (by simp) (by rfl)) rfl
            refine pstep (wanted_of rfl (Pu.yielded_of rfl hgd)) fun K hK => ?_
            clear hgd
            clear hdep hI ho hi
            go_simp
            refine (Sign_any x64 _ _ h64).mono ?_
            rintro e w3 ⟨rfl, hb3⟩
            exact hK _ _ hb3 (fun d hd => by cases hd; rfl)
          · cases (Option.some.inj (show some _ = some o from ho))
            have h65 : a.tmps.getD 65 undef = .int .i64 (cmpI r 0) := hI.slot (i := 10) (d := 65) (hdep ⟨10, .data⟩ (by simp) (by rfl)) rfl
            have hgd : a.tmps.getD 63 undef = .bool false := hI.slot (i := 8) (d := 63) (hdep ⟨8, .guard⟩ (by simp) (by rfl)) rfl
            have hsd := HS0.out
            refine pstep (wanted_of rfl (Pu.yielded_of rfl hgd)) fun K hK => ?_
            clear hgd
            clear hdep hI ho hi
            go_simp
            exact hK _ _ (Below.refl _ _) (fun d hd => by cases hd; rfl)
          · cases (Option.some.inj (show some _ = some o from ho))
            have h63 : a.tmps.getD 63 undef = .bool false := hI.slot (i := 8) (d := 63) (hdep ⟨8, .data⟩ (by simp) (by rfl)) rfl
            have h66 : a.tmps.getD 66 undef = .bool false := hI.slot (i := 11) (d := 66) (hdep ⟨11, .data⟩ (by simp) (by rfl)) rfl
            refine pstep rfl fun K hK => ?_
            clear hdep hI ho hi
            go_simp
            exact hK _ _ (Below.refl _ _) (fun d hd => by cases hd; rfl)
          · cases (Option.some.inj (show some _ = some o from ho))
            have h67 : a.tmps.getD 67 undef = .bool false := hI.slot (i := 12) (d := 67) (hdep ⟨12, .data⟩ (by simp) (by rfl)) rfl
            refine pstep rfl fun K hK => ?_
            clear hdep hI ho hi
            go_simp
            exact hK _ _ (Below.refl _ _) (fun d hd => by cases hd; rfl)
          · cases (Option.some.inj (show some _ = some o from ho))
            have h11 : a.tmps.getD 11 undef = .pointer (some ⟨g11, 0, none⟩) := hI.free (t := 11) (by kernel_rfl)
            have hgd : a.tmps.getD 68 undef = .bool false := hI.slot (i := 13) (d := 68) (hdep ⟨13, .guard⟩ (by simp) (by rfl)) rfl
            refine pstep (wanted_of rfl (Pu.yielded_of rfl hgd)) fun K hK => ?_
            clear hgd
            refine wp_load_int (.tmp 11) rfl g11 _ h11 (C11.out.keep hI.below) ?_
            intro v hv hh
            exact hK _ _ (Below.refl _ _) (fun d hd => by cases hd; exact hv)
          · cases (Option.some.inj (show some _ = some o from ho))
            have h12 : a.tmps.getD 12 undef = .pointer (some ⟨g12, 0, none⟩) := hI.free (t := 12) (by kernel_rfl)
            have hgd : a.tmps.getD 68 undef = .bool false := hI.slot (i := 13) (d := 68) (hdep ⟨13, .guard⟩ (by simp) (by rfl)) rfl
            refine pstep (wanted_of rfl (Pu.yielded_of rfl hgd)) fun K hK => ?_
            clear hgd
            refine wp_load_int (.tmp 12) rfl g12 _ h12 (C12.out.keep hI.below) ?_
            intro v hv hh
            exact hK _ _ (Below.refl _ _) (fun d hd => by cases hd; exact hv)
          · cases (Option.some.inj (show some _ = some o from ho))
            have h69 : IntAt w2 (a.tmps.getD 69 undef) (r) := hI.slot (i := 14) (d := 69) (hdep ⟨14, .data⟩ (by simp) (by rfl)) rfl
            obtain ⟨x69, e69⟩ : ∃ x, a.tmps.getD 69 undef = x := ⟨_, rfl⟩
            rw [e69] at h69
            have h70 : IntAt w2 (a.tmps.getD 70 undef) (sz) := hI.slot (i := 15) (d := 70) (hdep ⟨15, .data⟩ (by simp) (by rfl)) rfl
            obtain ⟨x70, e70⟩ : ∃ x, a.tmps.getD 70 undef = x := ⟨_, rfl⟩
            rw [e70] at h70
            have hgd : a.tmps.getD 68 undef = .bool false := hI.slot (i := 13) (d := 68) (hdep ⟨13, .guard⟩ (by simp) (by rfl)) rfl
            refine pstep (wanted_of rfl (Pu.yielded_of rfl hgd)) fun K hK => ?_
            clear hgd
            clear hdep hI ho hi
            go_simp
            refine (Compare_any x69 x70 _ _ _ h69 h70).mono ?_
            rintro e w3 ⟨rfl, hb3⟩
            exact hK _ _ hb3 (fun d hd => by cases hd; exact congrArg (Value.int .i64) HCR.out)
          · cases (Option.some.inj (show some _ = some o from ho))
            have h71 : a.tmps.getD 71 undef = .int .i64 (-1) := hI.slot (i := 16) (d := 71) (hdep ⟨16, .data⟩ (by simp) (by rfl)) rfl
            have hgd : a.tmps.getD 68 undef = .bool false := hI.slot (i := 13) (d := 68) (hdep ⟨13, .guard⟩ (by simp) (by rfl)) rfl
            refine pstep (wanted_of rfl (Pu.yielded_of rfl hgd)) fun K hK => ?_
            clear hgd
            clear hdep hI ho hi
            go_simp
            exact hK _ _ (Below.refl _ _) (fun d hd => by cases hd; rfl)
          · cases (Option.some.inj (show some _ = some o from ho))
            have h68 : a.tmps.getD 68 undef = .bool false := hI.slot (i := 13) (d := 68) (hdep ⟨13, .data⟩ (by simp) (by rfl)) rfl
            have h72 : a.tmps.getD 72 undef = .bool false := hI.slot (i := 17) (d := 72) (hdep ⟨17, .data⟩ (by simp) (by rfl)) rfl
            refine pstep rfl fun K hK => ?_
            clear hdep hI ho hi
            go_simp
            exact hK _ _ (Below.refl _ _) (fun d hd => by cases hd; rfl)
        · intro L a w2 o ho
          exact absurd ho (by simp)
        · intro _ L a w2 hall hI
          have h73 : a.tmps.getD 73 undef = .bool false := hI.slot (i := 18) (d := 73) (hall 18 (by decide)) rfl
          have hb := hI.below
          refine hret _ _ ?_
          have hf := hI.frame [55, 56, 57, 58, 59, 60, 61, 62, 63, 64, 65, 66, 67, 68, 69, 70, 71, 72, 73] (by kernel_rfl)
          simp only [List.foldl_cons, List.foldl_nil] at hf
          clear hI hall
          generalize a.tmps.getD 55 undef = y55 at *
          generalize a.tmps.getD 56 undef = y56 at *
          generalize a.tmps.getD 57 undef = y57 at *
          generalize a.tmps.getD 58 undef = y58 at *
          generalize a.tmps.getD 59 undef = y59 at *
          generalize a.tmps.getD 60 undef = y60 at *
          generalize a.tmps.getD 61 undef = y61 at *
          generalize a.tmps.getD 62 undef = y62 at *
          generalize a.tmps.getD 63 undef = y63 at *
          generalize a.tmps.getD 64 undef = y64 at *
          generalize a.tmps.getD 65 undef = y65 at *
          generalize a.tmps.getD 66 undef = y66 at *
          generalize a.tmps.getD 67 undef = y67 at *
          generalize a.tmps.getD 68 undef = y68 at *
          generalize a.tmps.getD 69 undef = y69 at *
          generalize a.tmps.getD 70 undef = y70 at *
          generalize a.tmps.getD 71 undef = y71 at *
          generalize a.tmps.getD 72 undef = y72 at *
          generalize a.tmps.getD 73 undef = y73 at *
          subst hf
          subst h73
          go_simp
          replace HT := hid (HT.out.keep hb)
          replace C8 := hid (C8.out.keep hb)
          replace C9 := hid (C9.out.keep hb)
          replace C10 := hid (C10.out.keep hb)
          replace C11 := hid (C11.out.keep hb)
          replace C12 := hid (C12.out.keep hb)
          replace HB := hid (Pu.further HB.out hb)
          clear hb hret C12 MQ AQ HSZ HS0 HCR
          obtain ⟨v8, hv8, hh8⟩ := C8.out
          have HV8 := hid hv8
          have HH8 := hid hh8
          clear hv8 hh8
          obtain ⟨v9, hv9, hh9⟩ := C9.out
          have HV9 := hid hv9
          have HH9 := hid hh9
          clear hv9 hh9
          go_wp2_with (first | (refine wpList_load_int rfl (.tmp 8) rfl g8 v8 (x) rfl HV8.out HH8.out ?_) | (refine wpList_load_int rfl (.tmp 9) rfl g9 v9 (y) rfl HV9.out HH9.out ?_))
          refine (GC.out v8 v9 _ HV8.out HV9.out).mono ?_
          rintro e u12 ⟨vu12, rfl, hv, hb⟩
          replace HT := hid (HT.out.keep hb)
          replace C8 := hid (C8.out.keep hb)
          replace C9 := hid (C9.out.keep hb)
          replace C10 := hid (C10.out.keep hb)
          replace C11 := hid (C11.out.keep hb)
          replace HB := hid (Pu.further HB.out hb)
          obtain ⟨b14, so14, n14, sc14, rfl⟩ := hv.open
          have hal := (show Below u12.heap.size u12 (u12.alloc (Obj.cells #[Value.bool b14, Value.slice so14 n14 sc14] 24)) from (Below.refl _ _).alloc (Nat.le_refl _) _)
          have C13 := hid (IntCell.new hv)
          replace HT := hid (HT.out.keep hal)
          replace C8 := hid (C8.out.keep hal)
          replace C9 := hid (C9.out.keep hal)
          replace C10 := hid (C10.out.keep hal)
          replace C11 := hid (C11.out.keep hal)
          replace HB := hid (Pu.further HB.out hal)
          clear hb hal hv
          clear HV8 HH8 HV9 HH9
          go_upto_region 13 with fail
          generalize hU : u12.alloc (Obj.cells #[Value.bool b14, Value.slice so14 n14 sc14] 24) = W13 at *
          clear hU
          generalize u12.heap.size = g13 at *
          obtain ⟨v8, hv8, hh8⟩ := C8.out
          have HV8 := hid hv8
          have HH8 := hid hh8
          clear hv8 hh8
          obtain ⟨v13, hv13, hh13⟩ := C13.out
          have HV13 := hid hv13
          have HH13 := hid hh13
          clear hv13 hh13
          go_wp2_with (first | (refine wpList_load_int rfl (.tmp 8) rfl g8 v8 (x) rfl HV8.out HH8.out ?_) | (refine wpList_load_int rfl (.tmp 13) rfl g13 v13 (gg) rfl HV13.out HH13.out ?_))
          refine (DX.out v8 v13 _ HV8.out HV13.out).mono ?_
          rintro e u13 ⟨pu13, qu13, rfl, h3, h4, hb⟩
          replace HT := hid (HT.out.keep hb)
          replace C8 := hid (C8.out.keep hb)
          replace C9 := hid (C9.out.keep hb)
          replace C10 := hid (C10.out.keep hb)
          replace C11 := hid (C11.out.keep hb)
          replace C13 := hid (C13.out.keep hb)
          replace HB := hid (Pu.further HB.out hb)
          obtain ⟨b15, so15, n15, sc15, rfl⟩ := h3.open
          obtain ⟨b16, so16, n16, sc16, rfl⟩ := h4.open
          have hal := (show Below u13.heap.size u13 (u13.alloc (Obj.cells #[Value.bool b15, Value.slice so15 n15 sc15] 24)) from (Below.refl _ _).alloc (Nat.le_refl _) _)
          have hal2 := (show Below (u13.alloc (Obj.cells #[Value.bool b15, Value.slice so15 n15 sc15] 24)).heap.size (u13.alloc (Obj.cells #[Value.bool b15, Value.slice so15 n15 sc15] 24)) ((u13.alloc (Obj.cells #[Value.bool b15, Value.slice so15 n15 sc15] 24)).alloc (Obj.cells #[Value.bool b16, Value.slice so16 n16 sc16] 24)) from (Below.refl _ _).alloc (Nat.le_refl _) _)
          replace HT := hid (HT.out.keep hal)
          replace C8 := hid (C8.out.keep hal)
          replace C9 := hid (C9.out.keep hal)
          replace C10 := hid (C10.out.keep hal)
          replace C11 := hid (C11.out.keep hal)
          replace C13 := hid (C13.out.keep hal)
          replace HB := hid (Pu.further HB.out hal)
          replace HT := hid (HT.out.keep hal2)
          replace C8 := hid (C8.out.keep hal2)
          replace C9 := hid (C9.out.keep hal2)
          replace C10 := hid (C10.out.keep hal2)
          replace C11 := hid (C11.out.keep hal2)
          replace C13 := hid (C13.out.keep hal2)
          replace HB := hid (Pu.further HB.out hal2)
          have C14 := hid ((IntCell.new h3).keep hal2)
          have hp := (IntCell.new (h4.keep hal))
          rw [show (u13.alloc (Obj.cells #[Value.bool b15, Value.slice so15 n15 sc15] 24)).heap.size = u13.heap.size + 1 by simp] at hp
          have C15 := hid hp
          clear hb hal hal2 hp h3 h4
          clear HV8 HH8 HV13 HH13
          go_upto_region 14 with fail
          generalize hU : ((u13.alloc (Obj.cells #[Value.bool b15, Value.slice so15 n15 sc15] 24)).alloc (Obj.cells #[Value.bool b16, Value.slice so16 n16 sc16] 24)) = W14 at *
          clear hU
          generalize hg : u13.heap.size + 1 = g15 at *
          generalize u13.heap.size = g14 at *
          clear hg
          obtain ⟨v9, hv9, hh9⟩ := C9.out
          have HV9 := hid hv9
          have HH9 := hid hh9
          clear hv9 hh9
          obtain ⟨v13, hv13, hh13⟩ := C13.out
          have HV13 := hid hv13
          have HH13 := hid hh13
          clear hv13 hh13
          go_wp2_with (first | (refine wpList_load_int rfl (.tmp 9) rfl g9 v9 (y) rfl HV9.out HH9.out ?_) | (refine wpList_load_int rfl (.tmp 13) rfl g13 v13 (gg) rfl HV13.out HH13.out ?_))
          refine (DY.out v9 v13 _ HV9.out HV13.out).mono ?_
          rintro e u14 ⟨pu14, qu14, rfl, h3, h4, hb⟩
          replace HT := hid (HT.out.keep hb)
          replace C8 := hid (C8.out.keep hb)
          replace C9 := hid (C9.out.keep hb)
          replace C10 := hid (C10.out.keep hb)
          replace C11 := hid (C11.out.keep hb)
          replace C13 := hid (C13.out.keep hb)
          replace C14 := hid (C14.out.keep hb)
          replace C15 := hid (C15.out.keep hb)
          replace HB := hid (Pu.further HB.out hb)
          obtain ⟨b17, so17, n17, sc17, rfl⟩ := h3.open
          obtain ⟨b18, so18, n18, sc18, rfl⟩ := h4.open
          have hal := (show Below u14.heap.size u14 (u14.alloc (Obj.cells #[Value.bool b17, Value.slice so17 n17 sc17] 24)) from (Below.refl _ _).alloc (Nat.le_refl _) _)
          have hal2 := (show Below (u14.alloc (Obj.cells #[Value.bool b17, Value.slice so17 n17 sc17] 24)).heap.size (u14.alloc (Obj.cells #[Value.bool b17, Value.slice so17 n17 sc17] 24)) ((u14.alloc (Obj.cells #[Value.bool b17, Value.slice so17 n17 sc17] 24)).alloc (Obj.cells #[Value.bool b18, Value.slice so18 n18 sc18] 24)) from (Below.refl _ _).alloc (Nat.le_refl _) _)
          replace HT := hid (HT.out.keep hal)
          replace C8 := hid (C8.out.keep hal)
          replace C9 := hid (C9.out.keep hal)
          replace C10 := hid (C10.out.keep hal)
          replace C11 := hid (C11.out.keep hal)
          replace C13 := hid (C13.out.keep hal)
          replace C14 := hid (C14.out.keep hal)
          replace C15 := hid (C15.out.keep hal)
          replace HB := hid (Pu.further HB.out hal)
          replace HT := hid (HT.out.keep hal2)
          replace C8 := hid (C8.out.keep hal2)
          replace C9 := hid (C9.out.keep hal2)
          replace C10 := hid (C10.out.keep hal2)
          replace C11 := hid (C11.out.keep hal2)
          replace C13 := hid (C13.out.keep hal2)
          replace C14 := hid (C14.out.keep hal2)
          replace C15 := hid (C15.out.keep hal2)
          replace HB := hid (Pu.further HB.out hal2)
          have C16 := hid ((IntCell.new h3).keep hal2)
          have hp := (IntCell.new (h4.keep hal))
          rw [show (u14.alloc (Obj.cells #[Value.bool b17, Value.slice so17 n17 sc17] 24)).heap.size = u14.heap.size + 1 by simp] at hp
          have C17 := hid hp
          clear hb hal hal2 hp h3 h4
          clear HV9 HH9 HV13 HH13
          go_upto_region 15 with fail
          generalize hU : ((u14.alloc (Obj.cells #[Value.bool b17, Value.slice so17 n17 sc17] 24)).alloc (Obj.cells #[Value.bool b18, Value.slice so18 n18 sc18] 24)) = W16 at *
          clear hU
          generalize hg : u14.heap.size + 1 = g17 at *
          generalize u14.heap.size = g16 at *
          clear hg
          obtain ⟨v14, hv14, hh14⟩ := C14.out
          have HV14 := hid hv14
          have HH14 := hid hh14
          clear hv14 hh14
          obtain ⟨v16, hv16, hh16⟩ := C16.out
          have HV16 := hid hv16
          have HH16 := hid hh16
          clear hv16 hh16
          go_wp2_with (first | (refine wpList_load_int rfl (.tmp 14) rfl g14 v14 (a0) rfl HV14.out HH14.out ?_) | (refine wpList_load_int rfl (.tmp 16) rfl g16 v16 (b0) rfl HV16.out HH16.out ?_))
          refine (GO.out v14 v16 _ HV14.out HV16.out).mono ?_
          rintro e u15 ⟨vu15, rfl, hv, hb⟩
          replace HT := hid (HT.out.keep hb)
          replace C8 := hid (C8.out.keep hb)
          replace C9 := hid (C9.out.keep hb)
          replace C10 := hid (C10.out.keep hb)
          replace C11 := hid (C11.out.keep hb)
          replace C13 := hid (C13.out.keep hb)
          replace C14 := hid (C14.out.keep hb)
          replace C15 := hid (C15.out.keep hb)
          replace C16 := hid (C16.out.keep hb)
          replace C17 := hid (C17.out.keep hb)
          replace HB := hid (Pu.further HB.out hb)
          obtain ⟨b19, so19, n19, sc19, rfl⟩ := hv.open
          have hal := (show Below u15.heap.size u15 (u15.alloc (Obj.cells #[Value.bool b19, Value.slice so19 n19 sc19] 24)) from (Below.refl _ _).alloc (Nat.le_refl _) _)
          have C18 := hid (IntCell.new hv)
          replace HT := hid (HT.out.keep hal)
          replace C8 := hid (C8.out.keep hal)
          replace C9 := hid (C9.out.keep hal)
          replace C10 := hid (C10.out.keep hal)
          replace C11 := hid (C11.out.keep hal)
          replace C13 := hid (C13.out.keep hal)
          replace C14 := hid (C14.out.keep hal)
          replace C15 := hid (C15.out.keep hal)
          replace C16 := hid (C16.out.keep hal)
          replace C17 := hid (C17.out.keep hal)
          replace HB := hid (Pu.further HB.out hal)
          clear hb hal hv
          clear HV14 HH14 HV16 HH16
          go_upto_region 16 with fail
          generalize hU : u15.alloc (Obj.cells #[Value.bool b19, Value.slice so19 n19 sc19] 24) = W18 at *
          clear hU
          generalize u15.heap.size = g18 at *
          rename_i hret
          refine Pu.wp_region_pure 29 (Slots [(92, .int (gg)), (93, .eq (.int .i64 1)), (94, .eq (.bool true)), (95, .eq (.bool true)), (96, .int (0)), (97, .eq (.int .i64 0)), (98, .eq (.bool true)), (99, .eq (.bool true)), (100, .eq (.bool true)), (101, .int (0)), (102, .eq (.int .i64 0)), (103, .eq (.bool true)), (104, .eq (.bool true)), (105, .eq (.bool true)), (106, .int (1)), (107, .int (1)), (108, .eq (.bool true)), (109, .eq (.bool true)), (110, .eq (.bool true)), (111, .int (gg)), (112, .int (y)), (113, .int (r)), (114, .int (gg)), (115, .eq (.bool true)), (116, .eq (.bool true)), (117, .eq (.bool true)), (118, .eq (.bool true)), (119, .eq (.bool true)), (6, .eq (.bool true))]) (by kernel_rfl) (by kernel_rfl) (by kernel_rfl) (fun hfn => absurd hfn (by decide)) (Slots.keep _) ?_ ?_ ?_
          · intro L a w2 i o ho hne2 hL hdep hI
            have hi : i < 29 := (Array.getElem?_eq_some_iff.1 ho).1
            rcases (show i = 0 ∨ i = 1 ∨ i = 2 ∨ i = 3 ∨ i = 4 ∨ i = 5 ∨ i = 6 ∨ i = 7 ∨ i = 8 ∨ i = 9 ∨ i = 10 ∨ i = 11 ∨ i = 12 ∨ i = 13 ∨ i = 14 ∨ i = 15 ∨ i = 16 ∨ i = 17 ∨ i = 18 ∨ i = 19 ∨ i = 20 ∨ i = 21 ∨ i = 22 ∨ i = 23 ∨ i = 24 ∨ i = 25 ∨ i = 26 ∨ i = 27 ∨ i = 28 by omega) with rfl | rfl | rfl | rfl | rfl | rfl | rfl | rfl | rfl | rfl | rfl | rfl | rfl | rfl | rfl | rfl | rfl | rfl | rfl | rfl | rfl | rfl | rfl | rfl | rfl | rfl | rfl | rfl | rfl
            · cases (Option.some.inj (show some _ = some o from ho))
              have h13 : a.tmps.getD 13 undef = .pointer (some ⟨g13, 0, none⟩) := hI.free (t := 13) (by kernel_rfl)
              refine pstep rfl fun K hK => ?_
              refine wp_load_int (.tmp 13) rfl g13 _ h13 (C13.out.keep hI.below) ?_
              intro v hv hh
              exact hK _ _ (Below.refl _ _) (fun d hd => by cases hd; exact hv)
            · cases (Option.some.inj (show some _ = some o from ho))
              have h92 : IntAt w2 (a.tmps.getD 92 undef) (gg) := hI.slot (i := 0) (d := 92) (hdep ⟨0, .data⟩ (by simp) (by rfl)) rfl
              obtain ⟨x92, e92⟩ : ∃ x, a.tmps.getD 92 undef = x := ⟨_, rfl⟩
              rw [e92] at h92
              refine pstep rfl fun K hK => ?_
              clear hdep hI ho hi
              go_simp
              refine (Sign_any x92 _ _ h92).mono ?_
              rintro e w3 ⟨rfl, hb3⟩
              exact hK _ _ hb3 (fun d hd => by cases hd; exact congrArg (Value.int .i64) HCG.out)
            · cases (Option.some.inj (show some _ = some o from ho))
              have h93 : a.tmps.getD 93 undef = .int .i64 1 := hI.slot (i := 1) (d := 93) (hdep ⟨1, .data⟩ (by simp) (by rfl)) rfl
              refine pstep rfl fun K hK => ?_
              clear hdep hI ho hi
              go_simp
              exact hK _ _ (Below.refl _ _) (fun d hd => by cases hd; rfl)
            · cases (Option.some.inj (show some _ = some o from ho))
              have h94 : a.tmps.getD 94 undef = .bool true := hI.slot (i := 2) (d := 94) (hdep ⟨2, .data⟩ (by simp) (by rfl)) rfl
              refine pstep rfl fun K hK => ?_
              clear hdep hI ho hi
              go_simp
              exact hK _ _ (Below.refl _ _) (fun d hd => by cases hd; rfl)
            · cases (Option.some.inj (show some _ = some o from ho))
              have h15 : a.tmps.getD 15 undef = .pointer (some ⟨g15, 0, none⟩) := hI.free (t := 15) (by kernel_rfl)
              have hgd : a.tmps.getD 95 undef = .bool true := hI.slot (i := 3) (d := 95) (hdep ⟨3, .guard⟩ (by simp) (by rfl)) rfl
              refine pstep (wanted_of rfl (Pu.yielded_of rfl hgd)) fun K hK => ?_
              clear hgd
              refine wp_load_int (.tmp 15) rfl g15 _ h15 (C15.out.keep hI.below) ?_
              intro v hv hh
              exact hK _ _ (Below.refl _ _) (fun d hd => by cases hd; exact hv)
            · cases (Option.some.inj (show some _ = some o from ho))
              have h96 : IntAt w2 (a.tmps.getD 96 undef) (0) := hI.slot (i := 4) (d := 96) (hdep ⟨4, .data⟩ (by simp) (by rfl)) rfl
              obtain ⟨x96, e96⟩ : ∃ x, a.tmps.getD 96 undef = x := ⟨_, rfl⟩
              rw [e96] at h96
              have hgd : a.tmps.getD 95 undef = .bool true := hI.slot (i := 3) (d := 95) (hdep ⟨3, .guard⟩ (by simp) (by rfl)) rfl
              refine pstep (wanted_of rfl (Pu.yielded_of rfl hgd)) fun K hK => ?_
              clear hgd
              clear hdep hI ho hi
              go_simp
              refine (Sign_any x96 _ _ h96).mono ?_
              rintro e w3 ⟨rfl, hb3⟩
              exact hK _ _ hb3 (fun d hd => by cases hd; rfl)
            · cases (Option.some.inj (show some _ = some o from ho))
              have h97 : a.tmps.getD 97 undef = .int .i64 0 := hI.slot (i := 5) (d := 97) (hdep ⟨5, .data⟩ (by simp) (by rfl)) rfl
              have hgd : a.tmps.getD 95 undef = .bool true := hI.slot (i := 3) (d := 95) (hdep ⟨3, .guard⟩ (by simp) (by rfl)) rfl
              refine pstep (wanted_of rfl (Pu.yielded_of rfl hgd)) fun K hK => ?_
              clear hgd
              clear hdep hI ho hi
              go_simp
              exact hK _ _ (Below.refl _ _) (fun d hd => by cases hd; rfl)
            · cases (Option.some.inj (show some _ = some o from ho))
              have h95 : a.tmps.getD 95 undef = .bool true := hI.slot (i := 3) (d := 95) (hdep ⟨3, .data⟩ (by simp) (by rfl)) rfl
              have h98 : a.tmps.getD 98 undef = .bool true := hI.slot (i := 6) (d := 98) (hdep ⟨6, .data⟩ (by simp) (by rfl)) rfl
              refine pstep rfl fun K hK => ?_
              clear hdep hI ho hi
              go_simp
              exact hK _ _ (Below.refl _ _) (fun d hd => by cases hd; rfl)
            · cases (Option.some.inj (show some _ = some o from ho))
              have h99 : a.tmps.getD 99 undef = .bool true := hI.slot (i := 7) (d := 99) (hdep ⟨7, .data⟩ (by simp) (by rfl)) rfl
              refine pstep rfl fun K hK => ?_
              clear hdep hI ho hi
              go_simp
              exact hK _ _ (Below.refl _ _) (fun d hd => by cases hd; rfl)
            · cases (Option.some.inj (show some _ = some o from ho))
              have h17 : a.tmps.getD 17 undef = .pointer (some ⟨g17, 0, none⟩) := hI.free (t := 17) (by kernel_rfl)
              have hgd : a.tmps.getD 100 undef = .bool true := hI.slot (i := 8) (d := 100) (hdep ⟨8, .guard⟩ (by simp) (by rfl)) rfl
              refine pstep (wanted_of rfl (Pu.yielded_of rfl hgd)) fun K hK => ?_
              clear hgd
              refine wp_load_int (.tmp 17) rfl g17 _ h17 (C17.out.keep hI.below) ?_
              intro v hv hh
              exact hK _ _ (Below.refl _ _) (fun d hd => by cases hd; exact hv)
            · cases (Option.some.inj (show some _ = some o from ho))
              have h101 : IntAt w2 (a.tmps.getD 101 undef) (0) := hI.slot (i := 9) (d := 101) (hdep ⟨9, .data⟩ (by simp) (by rfl)) rfl
              obtain ⟨x101, e101⟩ : ∃ x, a.tmps.getD 101 undef = x := ⟨_, rfl⟩
              rw [e101] at h101
              have hgd : a.tmps.getD 100 undef = .bool true := hI.slot (i := 8) (d := 100) (hdep ⟨8, .guard⟩ (by simp) (by rfl)) rfl
              refine pstep (wanted_of rfl (Pu.yielded_of rfl hgd)) fun K hK => ?_
              clear hgd
              clear hdep hI ho hi
              go_simp
              refine (Sign_any x101 _ _ h101).mono ?_
              rintro e w3 ⟨rfl, hb3⟩
              exact hK _ _ hb3 (fun d hd => by cases hd; rfl)
            · cases (Option.some.inj (show some _ = some o from ho))
              have h102 : a.tmps.getD 102 undef = .int .i64 0 := hI.slot (i := 10) (d := 102) (hdep ⟨10, .data⟩ (by simp) (by rfl)) rfl
              have hgd : a.tmps.getD 100 undef = .bool true := hI.slot (i := 8) (d := 100) (hdep ⟨8, .guard⟩ (by simp) (by rfl)) rfl
              refine pstep (wanted_of rfl (Pu.yielded_of rfl hgd)) fun K hK => ?_
              clear hgd
              clear hdep hI ho hi
              go_simp
              exact hK _ _ (Below.refl _ _) (fun d hd => by cases hd; rfl)
            · cases (Option.some.inj (show some _ = some o from ho))
              have h100 : a.tmps.getD 100 undef = .bool true := hI.slot (i := 8) (d := 100) (hdep ⟨8, .data⟩ (by simp) (by rfl)) rfl
              have h103 : a.tmps.getD 103 undef = .bool true := hI.slot (i := 11) (d := 103) (hdep ⟨11, .data⟩ (by simp) (by rfl)) rfl
              refine pstep rfl fun K hK => ?_
              clear hdep hI ho hi
              go_simp
              exact hK _ _ (Below.refl _ _) (fun d hd => by cases hd; rfl)
            · cases (Option.some.inj (show some _ = some o from ho))
              have h104 : a.tmps.getD 104 undef = .bool true := hI.slot (i := 12) (d := 104) (hdep ⟨12, .data⟩ (by simp) (by rfl)) rfl
              refine pstep rfl fun K hK => ?_
              clear hdep hI ho hi
              go_simp
              exact hK _ _ (Below.refl _ _) (fun d hd => by cases hd; rfl)
            · cases (Option.some.inj (show some _ = some o from ho))
              have h18 : a.tmps.getD 18 undef = .pointer (some ⟨g18, 0, none⟩) := hI.free (t := 18) (by kernel_rfl)
              have hgd : a.tmps.getD 105 undef = .bool true := hI.slot (i := 13) (d := 105) (hdep ⟨13, .guard⟩ (by simp) (by rfl)) rfl
              refine pstep (wanted_of rfl (Pu.yielded_of rfl hgd)) fun K hK => ?_
              clear hgd
              refine wp_load_int (.tmp 18) rfl g18 _ h18 (C18.out.keep hI.below) ?_
              intro v hv hh
              exact hK _ _ (Below.refl _ _) (fun d hd => by cases hd; exact hv)
            · cases (Option.some.inj (show some _ = some o from ho))
              have hgd : a.tmps.getD 105 undef = .bool true := hI.slot (i := 13) (d := 105) (hdep ⟨13, .guard⟩ (by simp) (by rfl)) rfl
              refine pstep (wanted_of rfl (Pu.yielded_of rfl hgd)) fun K hK => ?_
              clear hgd
              clear hdep hI ho hi
              go_simp
              refine (Of_any 1 _ (by decide) (by decide)).mono ?_
              rintro e w3 ⟨v3, rfl, hv3, hb3⟩
              exact hK _ _ hb3 (fun d hd => by cases hd; exact hv3)
            · cases (Option.some.inj (show some _ = some o from ho))
              have h106 : IntAt w2 (a.tmps.getD 106 undef) (1) := hI.slot (i := 14) (d := 106) (hdep ⟨14, .data⟩ (by simp) (by rfl)) rfl
              obtain ⟨x106, e106⟩ : ∃ x, a.tmps.getD 106 undef = x := ⟨_, rfl⟩
              rw [e106] at h106
              have h107 : IntAt w2 (a.tmps.getD 107 undef) (1) := hI.slot (i := 15) (d := 107) (hdep ⟨15, .data⟩ (by simp) (by rfl)) rfl
              obtain ⟨x107, e107⟩ : ∃ x, a.tmps.getD 107 undef = x := ⟨_, rfl⟩
              rw [e107] at h107
              have hgd : a.tmps.getD 105 undef = .bool true := hI.slot (i := 13) (d := 105) (hdep ⟨13, .guard⟩ (by simp) (by rfl)) rfl
              refine pstep (wanted_of rfl (Pu.yielded_of rfl hgd)) fun K hK => ?_
              clear hgd
              clear hdep hI ho hi
              go_simp
              refine (lawSame_any x106 x107 _ _ _ h106 h107).mono ?_
              rintro e w3 ⟨rfl, hb3⟩
              exact hK _ _ hb3 (fun d hd => by cases hd; exact congrArg Value.bool (decide_eq_true rfl))
            · cases (Option.some.inj (show some _ = some o from ho))
              have h105 : a.tmps.getD 105 undef = .bool true := hI.slot (i := 13) (d := 105) (hdep ⟨13, .data⟩ (by simp) (by rfl)) rfl
              have h108 : a.tmps.getD 108 undef = .bool true := hI.slot (i := 16) (d := 108) (hdep ⟨16, .data⟩ (by simp) (by rfl)) rfl
              refine pstep rfl fun K hK => ?_
              clear hdep hI ho hi
              go_simp
              exact hK _ _ (Below.refl _ _) (fun d hd => by cases hd; rfl)
            · cases (Option.some.inj (show some _ = some o from ho))
              have h109 : a.tmps.getD 109 undef = .bool true := hI.slot (i := 17) (d := 109) (hdep ⟨17, .data⟩ (by simp) (by rfl)) rfl
              refine pstep rfl fun K hK => ?_
              clear hdep hI ho hi
              go_simp
              exact hK _ _ (Below.refl _ _) (fun d hd => by cases hd; rfl)
            · cases (Option.some.inj (show some _ = some o from ho))
              have h13 : a.tmps.getD 13 undef = .pointer (some ⟨g13, 0, none⟩) := hI.free (t := 13) (by kernel_rfl)
              have hgd : a.tmps.getD 110 undef = .bool true := hI.slot (i := 18) (d := 110) (hdep ⟨18, .guard⟩ (by simp) (by rfl)) rfl
              refine pstep (wanted_of rfl (Pu.yielded_of rfl hgd)) fun K hK => ?_
              clear hgd
              refine wp_load_int (.tmp 13) rfl g13 _ h13 (C13.out.keep hI.below) ?_
              intro v hv hh
              exact hK _ _ (Below.refl _ _) (fun d hd => by cases hd; exact hv)
            · cases (Option.some.inj (show some _ = some o from ho))
              have h9 : a.tmps.getD 9 undef = .pointer (some ⟨g9, 0, none⟩) := hI.free (t := 9) (by kernel_rfl)
              have hgd : a.tmps.getD 110 undef = .bool true := hI.slot (i := 18) (d := 110) (hdep ⟨18, .guard⟩ (by simp) (by rfl)) rfl
              refine pstep (wanted_of rfl (Pu.yielded_of rfl hgd)) fun K hK => ?_
              clear hgd
              refine wp_load_int (.tmp 9) rfl g9 _ h9 (C9.out.keep hI.below) ?_
              intro v hv hh
              exact hK _ _ (Below.refl _ _) (fun d hd => by cases hd; exact hv)
            · cases (Option.some.inj (show some _ = some o from ho))
              have h11 : a.tmps.getD 11 undef = .pointer (some ⟨g11, 0, none⟩) := hI.free (t := 11) (by kernel_rfl)
              have hgd : a.tmps.getD 110 undef = .bool true := hI.slot (i := 18) (d := 110) (hdep ⟨18, .guard⟩ (by simp) (by rfl)) rfl
              refine pstep (wanted_of rfl (Pu.yielded_of rfl hgd)) fun K hK => ?_
              clear hgd
              refine wp_load_int (.tmp 11) rfl g11 _ h11 (C11.out.keep hI.below) ?_
              intro v hv hh
              exact hK _ _ (Below.refl _ _) (fun d hd => by cases hd; exact hv)
            · cases (Option.some.inj (show some _ = some o from ho))
              have h112 : IntAt w2 (a.tmps.getD 112 undef) (y) := hI.slot (i := 20) (d := 112) (hdep ⟨20, .data⟩ (by simp) (by rfl)) rfl
              obtain ⟨x112, e112⟩ : ∃ x, a.tmps.getD 112 undef = x := ⟨_, rfl⟩
              rw [e112] at h112
              have h113 : IntAt w2 (a.tmps.getD 113 undef) (r) := hI.slot (i := 21) (d := 113) (hdep ⟨21, .data⟩ (by simp) (by rfl)) rfl
              obtain ⟨x113, e113⟩ : ∃ x, a.tmps.getD 113 undef = x := ⟨_, rfl⟩
              rw [e113] at h113
              have hgd : a.tmps.getD 110 undef = .bool true := hI.slot (i := 18) (d := 110) (hdep ⟨18, .guard⟩ (by simp) (by rfl)) rfl
              refine pstep (wanted_of rfl (Pu.yielded_of rfl hgd)) fun K hK => ?_
              clear hgd
              clear hdep hI ho hi
              go_simp
              refine (GM.out x112 x113 _ h112 h113).mono ?_
              rintro e w3 ⟨v3, rfl, hv3, hb3⟩
              exact hK _ _ hb3 (fun d hd => by cases hd; exact hv3)
            · cases (Option.some.inj (show some _ = some o from ho))
              have h111 : IntAt w2 (a.tmps.getD 111 undef) (gg) := hI.slot (i := 19) (d := 111) (hdep ⟨19, .data⟩ (by simp) (by rfl)) rfl
              obtain ⟨x111, e111⟩ : ∃ x, a.tmps.getD 111 undef = x := ⟨_, rfl⟩
              rw [e111] at h111
              have h114 : IntAt w2 (a.tmps.getD 114 undef) (gg) := hI.slot (i := 22) (d := 114) (hdep ⟨22, .data⟩ (by simp) (by rfl)) rfl
              obtain ⟨x114, e114⟩ : ∃ x, a.tmps.getD 114 undef = x := ⟨_, rfl⟩
              rw [e114] at h114
              have hgd : a.tmps.getD 110 undef = .bool true := hI.slot (i := 18) (d := 110) (hdep ⟨18, .guard⟩ (by simp) (by rfl)) rfl
              refine pstep (wanted_of rfl (Pu.yielded_of rfl hgd)) fun K hK => ?_
              clear hgd
              clear hdep hI ho hi
              go_simp
              refine (lawSame_any x111 x114 _ _ _ h111 h114).mono ?_
              rintro e w3 ⟨rfl, hb3⟩
              exact hK _ _ hb3 (fun d hd => by cases hd; exact congrArg Value.bool (decide_eq_true rfl))
            · cases (Option.some.inj (show some _ = some o from ho))
              have h110 : a.tmps.getD 110 undef = .bool true := hI.slot (i := 18) (d := 110) (hdep ⟨18, .data⟩ (by simp) (by rfl)) rfl
              have h115 : a.tmps.getD 115 undef = .bool true := hI.slot (i := 23) (d := 115) (hdep ⟨23, .data⟩ (by simp) (by rfl)) rfl
              refine pstep rfl fun K hK => ?_
              clear hdep hI ho hi
              go_simp
              exact hK _ _ (Below.refl _ _) (fun d hd => by cases hd; rfl)
            · cases (Option.some.inj (show some _ = some o from ho))
              have h116 : a.tmps.getD 116 undef = .bool true := hI.slot (i := 24) (d := 116) (hdep ⟨24, .data⟩ (by simp) (by rfl)) rfl
              refine pstep rfl fun K hK => ?_
              clear hdep hI ho hi
              go_simp
              exact hK _ _ (Below.refl _ _) (fun d hd => by cases hd; rfl)
            · cases (Option.some.inj (show some _ = some o from ho))
              have hgd : a.tmps.getD 117 undef = .bool true := hI.slot (i := 25) (d := 117) (hdep ⟨25, .guard⟩ (by simp) (by rfl)) rfl
              have htab := HT.out.keep hI.below
              refine pstep (wanted_of rfl (Pu.yielded_of rfl hgd)) fun K hK => ?_
              clear hgd
              clear hdep hI ho hi
              go_simp
              refine (lives_any _ htab).mono ?_
              rintro e w3 ⟨rfl, hb3⟩
              exact hK _ _ hb3 (fun d hd => by cases hd; rfl)
            · cases (Option.some.inj (show some _ = some o from ho))
              have h117 : a.tmps.getD 117 undef = .bool true := hI.slot (i := 25) (d := 117) (hdep ⟨25, .data⟩ (by simp) (by rfl)) rfl
              have h118 : a.tmps.getD 118 undef = .bool true := hI.slot (i := 26) (d := 118) (hdep ⟨26, .data⟩ (by simp) (by rfl)) rfl
              refine pstep rfl fun K hK => ?_
              clear hdep hI ho hi
              go_simp
              exact hK _ _ (Below.refl _ _) (fun d hd => by cases hd; rfl)
            · cases (Option.some.inj (show some _ = some o from ho))
              have h119 : a.tmps.getD 119 undef = .bool true := hI.slot (i := 27) (d := 119) (hdep ⟨27, .data⟩ (by simp) (by rfl)) rfl
              refine pstep rfl fun K hK => ?_
              clear hdep hI ho hi
              go_simp
              exact hK _ _ (Below.refl _ _) (fun d hd => by cases hd; rfl)
          · intro L a w2 o ho
            exact absurd ho (by simp)
          · intro _ L a w2 hall hI
            have h6 : a.tmps.getD 6 undef = .bool true := hI.slot (i := 28) (d := 6) (hall 28 (by decide)) rfl
            have HBL := hid hI.below
            refine hret _ _ ?_
            have hf := hI.frame [92, 93, 94, 95, 96, 97, 98, 99, 100, 101, 102, 103, 104, 105, 106, 107, 108, 109, 110, 111, 112, 113, 114, 115, 116, 117, 118, 119, 6] (by kernel_rfl)
            simp only [List.foldl_cons, List.foldl_nil] at hf
            clear hI hall
            generalize a.tmps.getD 92 undef = y92 at *
            generalize a.tmps.getD 93 undef = y93 at *
            generalize a.tmps.getD 94 undef = y94 at *
            generalize a.tmps.getD 95 undef = y95 at *
            generalize a.tmps.getD 96 undef = y96 at *
            generalize a.tmps.getD 97 undef = y97 at *
            generalize a.tmps.getD 98 undef = y98 at *
            generalize a.tmps.getD 99 undef = y99 at *
            generalize a.tmps.getD 100 undef = y100 at *
            generalize a.tmps.getD 101 undef = y101 at *
            generalize a.tmps.getD 102 undef = y102 at *
            generalize a.tmps.getD 103 undef = y103 at *
            generalize a.tmps.getD 104 undef = y104 at *
            generalize a.tmps.getD 105 undef = y105 at *
            generalize a.tmps.getD 106 undef = y106 at *
            generalize a.tmps.getD 107 undef = y107 at *
            generalize a.tmps.getD 108 undef = y108 at *
            generalize a.tmps.getD 109 undef = y109 at *
            generalize a.tmps.getD 110 undef = y110 at *
            generalize a.tmps.getD 111 undef = y111 at *
            generalize a.tmps.getD 112 undef = y112 at *
            generalize a.tmps.getD 113 undef = y113 at *
            generalize a.tmps.getD 114 undef = y114 at *
            generalize a.tmps.getD 115 undef = y115 at *
            generalize a.tmps.getD 116 undef = y116 at *
            generalize a.tmps.getD 117 undef = y117 at *
            generalize a.tmps.getD 118 undef = y118 at *
            generalize a.tmps.getD 119 undef = y119 at *
            generalize a.tmps.getD 6 undef = y6 at *
            subst hf
            subst h6
            go_simp
            go_wp2
            go_ret
            exact ⟨rfl, Pu.further HB.out HBL.out⟩

end Zn
end Go.Proofs.YtelfpefcjchjbaaGreatDoor
