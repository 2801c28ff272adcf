/-
  Contracts of gantry/gantryref04: Power, Number.
-/
import Derived.Test.YtelfpefcjchjbaaGreatDoorIntP
namespace Go.Proofs.YtelfpefcjchjbaaGreatDoor
open Go.RowKit
open Go.Lib (hid)
open Dg
namespace Zn

theorem len_pow {k : Nat} (h : k ≤ 30) : len ((10 : Int) ^ k) ≤ 5 := by
  unfold len
  refine dig_length_le.2 ?_
  rw [show ((10 : Int) ^ k).natAbs = 10 ^ k by rw [Int.natAbs_pow]; rfl]
  exact Nat.lt_of_le_of_lt (Nat.pow_le_pow_right (by decide) h) (by decide)

set_option maxRecDepth 100000 in
set_option maxHeartbeats 4000000 in
theorem Power_any (m : Nat) (w : World) (hm : m ≤ 30) :
    Calls Tryz.prog 51 #[.int .i64 (m : Int)] w (RetInt w ((10 : Int) ^ m)) := by
  obtain ⟨W, hW⟩ : ∃ W, W = w.alloc (Obj.cells #[Value.bool false, Value.slice none 0 0] 24) := ⟨_, rfl⟩
  have HBW := hid (show Below w.heap.size w W by rw [hW]; exact (Below.refl _ _).alloc (Nat.le_refl _) _)
  have HR := hid (show ResAt W w.heap.size by rw [hW]; exact ResAt.at rfl)
  have HWW := hid hW
  clear hW
  have H1 := hid (refOf_any 1 · (by decide) (by decide))
  have H10 := hid (refOf_any 10 · (by decide) (by decide))
  go_enter Tryz.func51, Tryz.ntmps51
  go_upto_region 1 with fail
  rw [← HWW.out]
  go_wp2_with fail
  refine (H1.out _).mono ?_
  rintro e w1 ⟨v1, rfl, hv1, hb1⟩
  obtain ⟨b1, so, n1, sc, rfl⟩ := hv1.open
  have hba : Below w1.heap.size w1 (w1.alloc (Obj.cells #[.bool b1, .slice so n1 sc] 24)) := (Below.refl _ _).alloc (Nat.le_refl _) _
  have HC0 := hid (IntCell.new hv1)
  have HB2 := hid (Pu.further HBW.out (Pu.further hb1 hba))
  have HR2 := hid ((HR.out.keep hb1).keep hba)
  have hgw : w.heap.size < w1.heap.size := by have h2 := hb1.size; rw [HWW.out] at h2; simp at h2; omega
  have HG := hid hgw
  clear hv1 hb1 hba hgw
  go_wp2
  obtain ⟨g, hg⟩ : ∃ g, g = w1.heap.size := ⟨_, rfl⟩
  rw [← hg] at HC0 HG ⊢
  generalize w1.alloc (Obj.cells #[.bool b1, .slice so n1 sc] 24) = w2 at *
  have hgw := HG.out
  clear hg
  go_loopw [4] (fun i wr => ∃ k : Nat, k ≤ m ∧ i = .int .i64 k ∧ IntCell wr g ((10 : Int) ^ k) ∧ ResAt wr w.heap.size ∧ Below w.heap.size w wr) (fun i _ => m - (intOf i).toNat)
  case atStart => exact ⟨0, by omega, rfl, HC0.out, HR2.out, HB2.out⟩
  case round =>
    obtain ⟨k, hk, rfl, hcell, hres, hbel⟩ := hrel
    have HC := hid hcell
    have HRS := hid hres
    have HBL := hid hbel
    clear hcell hres hbel
    by_cases hkm : k < m
    · go_upto_region 5 with fail
      rename_i hret
      refine Pu.wp_region_pure 3 (Slots [(11, .int ((10 : Int) ^ k)), (12, .int (10)), (13, .int ((10 : Int) ^ k * 10))]) (by kernel_rfl) (by kernel_rfl) (by kernel_rfl) (fun hfn => by kernel_rfl) (Slots.keep _) ?_ ?_ ?_
      · intro L a w2 i o ho hne2 hL hdep hI
        have hi : i < 4 := (Array.getElem?_eq_some_iff.1 ho).1
        rcases (show i = 0 ∨ i = 1 ∨ i = 2 by omega) with rfl | rfl | rfl
        · cases (Option.some.inj (show some _ = some o from ho))
          have h3 : a.tmps.getD 3 undef = .pointer (some ⟨g, 0, none⟩) := hI.free (t := 3) (by kernel_rfl)
          refine pstep rfl fun K hK => ?_
          refine wp_load_int (.tmp 3) rfl g ((10 : Int) ^ k) h3 (HC.out.keep hI.below) ?_
          intro v hv hh
          exact hK _ _ (Below.refl _ _) (fun d hd => by cases hd; exact hv)
        · cases (Option.some.inj (show some _ = some o from ho))
          refine pstep rfl fun K hK => ?_
          clear hdep hI ho hi
          go_simp
          refine (H10.out _).mono ?_
          rintro e w3 ⟨v3, rfl, hv3, hb3⟩
          exact hK _ _ hb3 (fun d hd => by cases hd; exact hv3)
        · cases (Option.some.inj (show some _ = some o from ho))
          have h11 : IntAt w2 (a.tmps.getD 11 undef) ((10 : Int) ^ k) := hI.slot (i := 0) (d := 11) (hdep ⟨0, .data⟩ (by simp) (by rfl)) rfl
          obtain ⟨x11, e11⟩ : ∃ x, a.tmps.getD 11 undef = x := ⟨_, rfl⟩
          rw [e11] at h11
          have h12 : IntAt w2 (a.tmps.getD 12 undef) (10) := hI.slot (i := 1) (d := 12) (hdep ⟨1, .data⟩ (by simp) (by rfl)) rfl
          obtain ⟨x12, e12⟩ : ∃ x, a.tmps.getD 12 undef = x := ⟨_, rfl⟩
          rw [e12] at h12
          refine pstep rfl fun K hK => ?_
          clear hdep hI ho hi
          go_simp
          refine (refMul_any x11 x12 _ _ _ h11 h12 (Nat.le_trans (len_pow (by omega)) (by decide)) (by decide)).mono ?_
          rintro e w3 ⟨v3, rfl, hv3, hb3⟩
          exact hK _ _ hb3 (fun d hd => by cases hd; exact hv3)
      · intro L a w2 o ho hL hoth hI
        cases (Option.some.inj (show some _ = some o from ho))
        have h3 : a.tmps.getD 3 undef = .pointer (some ⟨g, 0, none⟩) := hI.free (t := 3) (by kernel_rfl)
        have h13 : IntAt w2 (a.tmps.getD 13 undef) ((10 : Int) ^ k * 10) := hI.slot (i := 2) (d := 13) (hoth 2 (by decide) (by decide)) rfl
        obtain ⟨x13, e13⟩ : ∃ x, a.tmps.getD 13 undef = x := ⟨_, rfl⟩
        rw [e13] at h13
        refine ⟨rfl, ?_⟩
        have HC3 := hid (IntCell.set (HC.out.keep hI.below).res h13)
        have HR3 := hid (ResAt.apart (HRS.out.keep hI.below) (show w.heap.size ≠ g by omega) x13.cells)
        have HB3 := hid (below_row (Pu.further HBL.out hI.below) (show w.heap.size ≤ g by omega) x13.cells)
        refine wp_store_int (.tmp 3) (.tmp 13) rfl g x13 _ h3 e13 h13 (HC.out.keep hI.below).res ?_
        refine hret _ _ ?_
        clear h3 h13 e13
        have hf := hI.frame [11, 12, 13] (by kernel_rfl)
        simp only [List.foldl_cons, List.foldl_nil] at hf
        clear hI hoth hL
        generalize a.tmps.getD 11 undef = y11 at *
        generalize a.tmps.getD 12 undef = y12 at *
        generalize a.tmps.getD 13 undef = y13 at *
        subst hf
        generalize w2.setRow g x13.cells = w5 at *
        rw [← Int.pow_succ] at HC3
        go_wp2
        go_roundw
        case rel => exact ⟨k + 1, by omega, by go_num, HC3.out, HR3.out, HB3.out⟩
        case measure => simp [intOf]; omega
      · intro hfn
        exact absurd hfn (by decide)
    · obtain rfl : k = m := by omega
      obtain ⟨v, hv, hh⟩ := HC.out
      have HV := hid hv
      have HH := hid hh
      clear hv hh
      go_wp2_with (first | (with_reducible refine wpList_load_int rfl (.tmp 3) rfl g v _ rfl HV.out HH.out ?_) | (with_reducible refine wpList_store_int rfl (.tmp 2) (.tmp 14) rfl w.heap.size v _ rfl rfl HV.out HRS.out ?_))
      exact ret_int_cell rfl rfl HRS.out HV.out HBL.out (Nat.le_refl _)

theorem len_small {z : Int} {k : Nat} (h1 : -(1000000000 : Int) ^ k < z) (h2 : z < (1000000000 : Int) ^ k) : len z ≤ k := by
  unfold len
  refine dig_length_le.2 ?_
  have : ((z.natAbs : Nat) : Int) < ((1000000000 ^ k : Nat) : Int) := by rw [Int.natCast_pow]; show ((z.natAbs : Nat) : Int) < (1000000000 : Int) ^ k; omega
  omega
theorem len_add (x y : Int) : len (x + y) ≤ max (len x) (len y) + 1 := by
  unfold len
  refine Nat.le_trans (dig_length_mono (Int.natAbs_add_le x y)) (length_add _ _)
theorem len_neg (x : Int) : len (-x) = len x := by unfold len; rw [Int.natAbs_neg]
theorem len_sub (x y : Int) : len (x - y) ≤ max (len x) (len y) + 1 := by
  rw [Int.sub_eq_add_neg]
  have := len_add x (-y)
  rwa [len_neg] at this
theorem len_mul (x y : Int) : len (x * y) ≤ len x + len y := by
  unfold len
  rw [Int.natAbs_mul]
  exact length_mul _ _
theorem len_mk (neg : Bool) {ds : List Nat} (h : Dig ds) : len (mk neg (val ds)) ≤ ds.length := by
  unfold len
  rw [mk_abs]
  exact dig_length_le.2 (val_lt h)

/-- The digits of the third kind. -/
def pick4 (r : Nat) : Nat := [0, 999999999, 1, 500000000].getD r 0
theorem pick4_lt (r : Nat) : pick4 r < 1000000000 := by
  unfold pick4
  rcases (show r = 0 ∨ r = 1 ∨ r = 2 ∨ r = 3 ∨ 4 ≤ r by omega) with rfl | rfl | rfl | rfl | h
  · decide
  · decide
  · decide
  · decide
  · rw [List.getD_eq_getElem?_getD, List.getElem?_eq_none (by simpa using h)]; decide
def dig3 (zs : List Int) (p i : Nat) : Nat := pick4 (atI zs (p + 2 + i) 4).toNat
def dig4 (zs : List Int) (p i : Nat) : Nat := (atI zs (p + 2 + i) 1000000000).toNat
theorem Dig.of_fun {f : Nat → Nat} (h : ∀ i, f i < 1000000000) (k : Nat) : Dig ((List.range k).map f) := by
  intro d hd
  obtain ⟨i, _, rfl⟩ := List.mem_map.1 hd
  exact h i

/-- What Number comes to, by its two numbers. -/
def numI (zs : List Int) (p : Nat) : Int :=
  let kind := atI zs p 6
  let n := atI zs (p + 1) 1000000
  if kind = 0 then n % 41 - 20
  else if kind = 1 then n - 500000
  else if kind = 2 then
    let x := (10 : Int) ^ (n / 2 % 30).toNat + (n / 60 % 5 - 2)
    mk (decide (n % 2 = 1) != decide (x < 0)) x.natAbs
  else if kind = 3 then mk (decide (n % 2 = 1)) (val ((List.range (1 + n / 2 % 5).toNat).map (dig3 zs p)))
  else mk (decide (n % 2 = 1)) (val ((List.range (1 + n / 2 % 6).toNat).map (dig4 zs p)))

theorem dig4_lt (zs : List Int) (p i : Nat) : dig4 zs p i < 1000000000 := by
  have := atI_bd zs (p + 2 + i) 1000000000 (by decide)
  unfold dig4
  omega
theorem numI_len (zs : List Int) (p : Nat) : len (numI zs p) ≤ 7 := by
  have hn := atI_bd zs (p + 1) 1000000 (by decide)
  unfold numI
  simp only
  generalize atI zs (p + 1) 1000000 = n at *
  generalize atI zs p 6 = kind
  split
  · exact Nat.le_trans (len_small (k := 1) (by omega) (by omega)) (by decide)
  · split
    · exact Nat.le_trans (len_small (k := 1) (by omega) (by omega)) (by decide)
    · split
      · have h := len_add ((10 : Int) ^ (n / 2 % 30).toNat) (n / 60 % 5 - 2)
        have h1 := len_pow (k := (n / 2 % 30).toNat) (by omega)
        have h2 := len_small (z := n / 60 % 5 - 2) (k := 1) (by omega) (by omega)
        generalize (10 : Int) ^ (n / 2 % 30).toNat + (n / 60 % 5 - 2) = x at *
        unfold len at *
        rw [mk_abs]
        omega
      · split
        · refine Nat.le_trans (len_mk _ (Dig.of_fun (fun i => pick4_lt _) _)) ?_
          rw [List.length_map, List.length_range]
          omega
        · refine Nat.le_trans (len_mk _ (Dig.of_fun (dig4_lt zs p) _)) ?_
          rw [List.length_map, List.length_range]
          omega

end Zn
end Go.Proofs.YtelfpefcjchjbaaGreatDoor
