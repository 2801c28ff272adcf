/-
  gantry/gantryref04: Number.
-/
import Derived.Test.YtelfpefcjchjbaaGreatDoorIntQ
namespace Go.Proofs.YtelfpefcjchjbaaGreatDoor
open Go.RowKit
open Go.Lib (hid)
open Dg
namespace Zn

theorem numI_0 {zs : List Int} {p : Nat} {n : Int} (hk : (0 : Int) = atI zs p 6) (hn : n = atI zs (p + 1) 1000000) : n % 41 - 20 = numI zs p := by
  unfold numI
  rw [← hk, ← hn]
  rfl
theorem numI_1 {zs : List Int} {p : Nat} {n : Int} (hk : (1 : Int) = atI zs p 6) (hn : n = atI zs (p + 1) 1000000) : n - 500000 = numI zs p := by
  unfold numI
  rw [← hk, ← hn]
  rfl
theorem numI_2 {zs : List Int} {p m : Nat} {n : Int} (hk : (2 : Int) = atI zs p 6) (hn : n = atI zs (p + 1) 1000000) (hm : n / 2 % 30 = (m : Int)) :
    mk (decide (n % 2 = 1) != decide ((10 : Int) ^ m + (n / 60 % 5 - 2) < 0)) ((10 : Int) ^ m + (n / 60 % 5 - 2)).natAbs = numI zs p := by
  unfold numI
  rw [← hk, ← hn]
  simp only [hm]
  rfl
theorem numI_3 {zs : List Int} {p m : Nat} {n : Int} (hk : (3 : Int) = atI zs p 6) (hn : n = atI zs (p + 1) 1000000) (hm : 1 + n / 2 % 5 = (m : Int)) :
    mk (decide (n % 2 = 1)) (val ((List.range m).map (dig3 zs p))) = numI zs p := by
  unfold numI
  rw [← hk, ← hn]
  simp only [hm]
  rfl
theorem numI_4 {zs : List Int} {p m : Nat} {n κ : Int} (hκ : 4 ≤ κ) (hk : κ = atI zs p 6) (hn : n = atI zs (p + 1) 1000000) (hm : 1 + n / 2 % 6 = (m : Int)) :
    mk (decide (n % 2 = 1)) (val ((List.range m).map (dig4 zs p))) = numI zs p := by
  unfold numI
  rw [← hk, ← hn]
  simp only [hm]
  rw [if_neg (by omega), if_neg (by omega), if_neg (by omega), if_neg (by omega)]
  rfl
theorem beq_dec (a b : Int) : (a == b) = decide (a = b) := by
  rw [Bool.eq_iff_iff]; simp

set_option maxRecDepth 100000 in
set_option maxHeartbeats 8000000 in
theorem Number_any (v : Value) (zs : List Int) (p : Nat) (w : World) (hv : ListI w v zs) (hp : p ≤ 1000000) :
    Calls Tryz.prog 9 #[v, .int .i64 (p : Int)] w (RetInt w (numI zs p)) := by
  obtain ⟨i0, hi, hz0, hz1, hz2⟩ := info_parts Tryz.int_info
  obtain ⟨W, hW⟩ : ∃ W, W = w.alloc (Obj.cells #[Value.bool false, Value.slice none 0 0] 24) := ⟨_, rfl⟩
  have HBW := hid (show Below w.heap.size w W by rw [hW]; exact (Below.refl _ _).alloc (Nat.le_refl _) _)
  have HR := hid (show ResAt W w.heap.size by rw [hW]; exact ResAt.at rfl)
  have HWW := hid hW
  have HAt : Hid (∀ w1, Below w.heap.size w w1 → ∀ (i : Nat) (m : Int), 1 ≤ m → m ≤ 9223372036854775807 → Calls Tryz.prog 50 #[v, .int .i64 (i : Int), .int .i64 m] w1 fun e w' => e = .returned (.int .i64 (atI zs i m)) ∧ w1 = w') :=
    hid fun w1 h i m h1 h2 => by have := At_any v zs i m w1 (hv.keep h) (by omega) h1 h2; rwa [Int.toNat_natCast] at this
  clear hW
  obtain ⟨κ, hκ⟩ : ∃ k, k = atI zs p 6 := ⟨_, rfl⟩
  obtain ⟨n, hn⟩ : ∃ n, n = atI zs (p + 1) 1000000 := ⟨_, rfl⟩
  have hκb := atI_bd zs p 6 (by decide)
  have hnb := atI_bd zs (p + 1) 1000000 (by decide)
  rw [← hκ] at hκb
  rw [← hn] at hnb
  obtain ⟨hκ1, hκ2⟩ := hκb
  obtain ⟨hn1, hn2⟩ := hnb
  have HK := hid hκ
  have HN := hid hn
  have hA1 := HAt.out W HBW.out p 6 (by decide) (by decide)
  have hA2 := HAt.out W HBW.out (p + 1) 1000000 (by decide) (by decide)
  rw [← hκ] at hA1
  rw [← hn] at hA2
  have HA1 := hid hA1
  have HA2 := hid hA2
  rw [Int.natCast_add] at HA2
  have HL : Hid (∀ wr, Below w.heap.size w wr → ∀ (k : Nat) (m : Int), 1 ≤ m → m ≤ 9223372036854775807 → Calls Tryz.prog 50 #[v, .int .i64 ((p : Int) + 2 + (k : Int)), .int .i64 m] wr fun e w' => e = .returned (.int .i64 (atI zs (p + 2 + k) m)) ∧ wr = w') :=
    hid fun wr h k m h1 h2 => by have := HAt.out wr h (p + 2 + k) m h1 h2; rwa [Int.natCast_add, Int.natCast_add] at this
  clear hκ hn hA1 hA2 hv
  go_enter Tryz.func9, Tryz.ntmps9
  go_upto_region 1 with fail
  rw [← HWW.out]
  go_wp2_with fail
  refine HA1.out.mono ?_
  rintro e w' ⟨rfl, rfl⟩
  go_wp2_with fail
  refine HA2.out.mono ?_
  rintro e w' ⟨rfl, rfl⟩
  rcases (show κ = 0 ∨ κ = 1 ∨ κ = 2 ∨ κ = 3 ∨ 4 ≤ κ by omega) with hc | hc | hc | hc | hc
  · subst hc
    go_wp2_with fail
    refine (refOf_any _ _ (by omega) (by omega)).mono ?_
    rintro e w2 ⟨v2, rfl, hv2, hb2⟩
    rw [numI_0 HK.out HN.out] at hv2
    have HV2 := hid hv2
    have HB2 := hid (Pu.further HBW.out hb2)
    have HR2 := hid (HR.out.keep hb2)
    clear hv2 hb2
    go_wp2_with (with_reducible refine wpList_store_int rfl (.tmp 4) (.tmp 45) rfl w.heap.size v2 _ rfl rfl HV2.out HR2.out ?_)
    exact ret_int_cell rfl rfl HR2.out HV2.out HB2.out (Nat.le_refl _)
  · subst hc
    go_wp2_with fail
    refine (refOf_any _ _ (by omega) (by omega)).mono ?_
    rintro e w2 ⟨v2, rfl, hv2, hb2⟩
    rw [numI_1 HK.out HN.out] at hv2
    have HV2 := hid hv2
    have HB2 := hid (Pu.further HBW.out hb2)
    have HR2 := hid (HR.out.keep hb2)
    clear hv2 hb2
    go_wp2_with (with_reducible refine wpList_store_int rfl (.tmp 4) (.tmp 50) rfl w.heap.size v2 _ rfl rfl HV2.out HR2.out ?_)
    exact ret_int_cell rfl rfl HR2.out HV2.out HB2.out (Nat.le_refl _)
  · subst hc
    obtain ⟨m, hm⟩ : ∃ m : Nat, n / 2 % 30 = (m : Int) := ⟨(n / 2 % 30).toNat, by omega⟩
    have hm30 : m ≤ 30 := by omega
    go_wp2_with fail
    refine (Power_any m _ hm30).mono ?_
    rintro e w2 ⟨v2, rfl, hv2, hb2⟩
    have HV2 := hid hv2
    have HB2 := hid (Pu.further HBW.out hb2)
    have HR2 := hid (HR.out.keep hb2)
    clear hv2 hb2
    go_wp2_with fail
    refine (refOf_any _ _ (by omega) (by omega)).mono ?_
    rintro e w3 ⟨v3, rfl, hv3, hb3⟩
    have HV3 := hid hv3
    have HV23 := hid (HV2.out.keep hb3)
    have HB3 := hid (Pu.further HB2.out hb3)
    have HR3 := hid (HR2.out.keep hb3)
    clear hv3 hb3
    go_wp2_with fail
    refine (refAdd_any v2 v3 _ _ _ HV23.out HV3.out (Nat.le_trans (len_pow hm30) (by decide)) (Nat.le_trans (len_small (k := 1) (by omega) (by omega)) (by decide))).mono ?_
    rintro e w4 ⟨v4, rfl, hv4, hb4⟩
    have hfin := numI_2 HK.out HN.out hm
    generalize (10 : Int) ^ m + (n / 60 % 5 - 2) = X at *
    obtain ⟨s4, rfl, hs4⟩ := hv4
    have HFN := hid hfin
    have HS4 := hid hs4
    obtain ⟨so, sc, rfl, -⟩ := hs4
    generalize decide (X < 0) = bX at *
    have HB4 := hid (Pu.further HB3.out (Pu.further hb4 ((Below.refl _ _).alloc (Nat.le_refl _) (Obj.cells #[Value.bool bX, Value.slice so (dig X.natAbs).length sc] 24))))
    have HR4 := hid ((HR3.out.keep hb4).keep ((Below.refl _ _).alloc (Nat.le_refl _) (Obj.cells #[Value.bool bX, Value.slice so (dig X.natAbs).length sc] 24)))
    have HN4 := hid (HS4.out.keep ((Below.refl _ _).alloc (Nat.le_refl _) (Obj.cells #[Value.bool bX, Value.slice so (dig X.natAbs).length sc] 24)))
    clear hfin hb4 hm
    go_wp2_with fail
    refine (normal_any _ _ _ _ HN4.out (dig_Dig _)).mono ?_
    rintro e w5 ⟨v5, rfl, hv5, hb5⟩
    rw [val_dig] at hv5
    have HV5 : Hid (IntAt w5 v5 (numI zs p)) := hid (by
      rw [← HFN.out, ← beq_dec]
      exact hv5)
    have HB5 := hid (Pu.further HB4.out hb5)
    have HR5 := hid (HR4.out.keep hb5)
    clear hv5 hb5
    go_wp2_with (with_reducible refine wpList_store_int rfl (.tmp 4) (.tmp 69) rfl w.heap.size v5 _ rfl rfl HV5.out HR5.out ?_)
    exact ret_int_cell rfl rfl HR5.out HV5.out HB5.out (Nat.le_refl _)
  · subst hc
    obtain ⟨m, hm⟩ : ∃ m : Nat, 1 + n / 2 % 5 = (m : Int) := ⟨(1 + n / 2 % 5).toNat, by omega⟩
    have hm30 : m ≤ 5 := by omega
    have HM := hid hm
    have HFN := hid (numI_3 HK.out HN.out hm)
    go_wp2
    go_loopw [8, 10] (fun d i wr => ∃ k : Nat, k ≤ m ∧ i = .int .i64 k ∧ OwnN wr W.heap.size d ((List.range k).map (dig3 zs p)) ∧ Below W.heap.size W wr) (fun _ i _ => m - (intOf i).toNat)
    case atStart => exact ⟨0, by omega, rfl, OwnN.start _ _, Below.refl _ _⟩
    case round =>
      obtain ⟨k, hk, rfl, hown, hbel⟩ := hrel
      have HO := hid hown
      have HBL := hid hbel
      have HBWr := hid (Pu.further HBW.out hbel)
      clear hown hbel
      by_cases hkm : k < m
      · obtain ⟨r, hr⟩ : ∃ r, r = atI zs (p + 2 + k) 4 := ⟨_, rfl⟩
        have hrb := atI_bd zs (p + 2 + k) 4 (by decide)
        rw [← hr] at hrb
        obtain ⟨hr1, hr2⟩ := hrb
        obtain ⟨A, hA⟩ : ∃ A, A = wr.alloc (Obj.cells #[.int .i64 0, .int .i64 999999999, .int .i64 1, .int .i64 500000000] 3) := ⟨_, rfl⟩
        have hbA : Below wr.heap.size wr A := by rw [hA]; exact (Below.refl _ _).alloc (Nat.le_refl _) _
        have hcall := HL.out A (Pu.further HBWr.out hbA) k 4 (by decide) (by decide)
        rw [← hr] at hcall
        have HC := hid hcall
        have HBA := hid hbA
        have HOA := hid (HO.out.alloc (Obj.cells #[.int .i64 0, .int .i64 999999999, .int .i64 1, .int .i64 500000000] 3))
        rw [← hA] at HOA
        have hrow : A.heap[wr.heap.size]? = some (Obj.cells #[.int .i64 0, .int .i64 999999999, .int .i64 1, .int .i64 500000000] 3 (0, 0)) := by rw [hA]; exact heap_alloc_new _ _
        have hcr : A.cell? ⟨wr.heap.size, r.toNat, none⟩ = some (.int .i64 ((dig3 zs p k : Nat) : Int)) := by
          rw [cell_of_row _ _ _ _ _ (0, 0) hrow]
          unfold dig3 pick4
          rw [← hr]
          rcases (show r = 0 ∨ r = 1 ∨ r = 2 ∨ r = 3 by omega) with rfl | rfl | rfl | rfl <;> rfl
        have hszA : A.heap.size = wr.heap.size + 1 := by rw [hA]; simp
        have HSA := hid hszA
        have HAA := hid hA
        have hdl : ((List.range k).map (dig3 zs p)).length ≤ 1099511627776 := by rw [List.length_map, List.length_range]; omega
        generalize hdg : dig3 zs p k = dg at *
        have HDG := hid hdg
        clear hA hr hcall hbA hrow hszA hdg
        go_wp2_with fail
        rw [← HAA.out]
        refine HC.out.mono ?_
        rintro e w' ⟨rfl, rfl⟩
        go_wp2_with (at_builtin; refine wpList_append_int rfl (.tmp 80) (.tmp 90) rfl i0 hi hz0 hz1 hz2 Tryz.under_ints W _ _ rfl (HOA.out.alloc _) A.heap.size dg rfl (by exact cell_of_row _ _ 0 _ _ _ (heap_alloc_new A _)) hdl (Below.alloc (Pu.further HBL.out HBA.out) (by have := HBL.out.size; have := HBA.out.size; omega) _) ?_)
        intro v' w' hown' hbel'
        have HO2 := hid hown'
        have HB2 := hid hbel'
        clear hown' hbel'
        go_wp2
        go_roundw
        case rel => exact ⟨k + 1, by omega, by go_num, by rw [List.range_succ, List.map_append, List.map_singleton, HDG.out]; exact HO2.out, HB2.out⟩
        case measure => simp [intOf]; omega
      · obtain rfl : k = m := by omega
        go_wp2_with fail
        refine (normal_any _ _ _ _ HO.out.nums (Dig.of_fun (fun i => pick4_lt _) _)).mono ?_
        rintro e w5 ⟨v5, rfl, hv5, hb5⟩
        rw [beq_dec, HFN.out] at hv5
        have HV5 := hid hv5
        have HB5 := hid (Pu.further HBWr.out hb5)
        have HR5 := hid ((HR.out.keep HBL.out).keep hb5)
        clear hv5 hb5
        go_wp2_with (with_reducible refine wpList_store_int rfl (.tmp 4) (.tmp 94) rfl w.heap.size v5 _ rfl rfl HV5.out HR5.out ?_)
        exact ret_int_cell rfl rfl HR5.out HV5.out HB5.out (Nat.le_refl _)
  · have hc4 : κ = 4 ∨ κ = 5 := by omega
    clear hc
    rcases hc4 with rfl | rfl
    all_goals
      obtain ⟨m, hm⟩ : ∃ m : Nat, 1 + n / 2 % 6 = (m : Int) := ⟨(1 + n / 2 % 6).toNat, by omega⟩
      have hm30 : m ≤ 6 := by omega
      have HM := hid hm
      have HFN := hid (numI_4 (by decide) HK.out HN.out hm)
      go_wp2
      go_loopw [8, 11] (fun d i wr => ∃ k : Nat, k ≤ m ∧ i = .int .i64 k ∧ OwnN wr W.heap.size d ((List.range k).map (dig4 zs p)) ∧ Below W.heap.size W wr) (fun _ i _ => m - (intOf i).toNat)
      case atStart => exact ⟨0, by omega, rfl, OwnN.start _ _, Below.refl _ _⟩
      case round =>
        obtain ⟨k, hk, rfl, hown, hbel⟩ := hrel
        have HO := hid hown
        have HBL := hid hbel
        have HBWr := hid (Pu.further HBW.out hbel)
        clear hown hbel
        by_cases hkm : k < m
        · obtain ⟨r, hr⟩ : ∃ r, r = atI zs (p + 2 + k) 1000000000 := ⟨_, rfl⟩
          have hrb := atI_bd zs (p + 2 + k) 1000000000 (by decide)
          rw [← hr] at hrb
          obtain ⟨hr1, hr2⟩ := hrb
          obtain ⟨dg, rfl⟩ := Int.eq_ofNat_of_zero_le hr1
          have hdg : dig4 zs p k = dg := by unfold dig4; rw [← hr]; omega
          have hcall := HL.out wr HBWr.out k 1000000000 (by decide) (by decide)
          rw [← hr] at hcall
          have HC := hid hcall
          have hdl : ((List.range k).map (dig4 zs p)).length ≤ 1099511627776 := by rw [List.length_map, List.length_range]; omega
          have HDG := hid hdg
          clear hr hcall hdg
          go_wp2_with fail
          refine HC.out.mono ?_
          rintro e w' ⟨rfl, rfl⟩
          go_wp2_with (at_builtin; refine wpList_append_int rfl (.tmp 31) (.tmp 38) rfl i0 hi hz0 hz1 hz2 Tryz.under_ints W _ _ rfl (HO.out.alloc _) wr.heap.size dg rfl (by exact cell_of_row _ _ 0 _ _ _ (heap_alloc_new wr _)) hdl (HBL.out.alloc HBL.out.size _) ?_)
          intro v' w' hown' hbel'
          have HO2 := hid hown'
          have HB2 := hid hbel'
          clear hown' hbel'
          go_wp2
          go_roundw
          case rel => exact ⟨k + 1, by omega, by go_num, by rw [List.range_succ, List.map_append, List.map_singleton, HDG.out]; exact HO2.out, HB2.out⟩
          case measure => simp [intOf]; omega
        · obtain rfl : k = m := by omega
          go_wp2_with fail
          refine (normal_any _ _ _ _ HO.out.nums (Dig.of_fun (dig4_lt zs p) _)).mono ?_
          rintro e w5 ⟨v5, rfl, hv5, hb5⟩
          rw [beq_dec, HFN.out] at hv5
          have HV5 := hid hv5
          have HB5 := hid (Pu.further HBWr.out hb5)
          have HR5 := hid ((HR.out.keep HBL.out).keep hb5)
          clear hv5 hb5
          go_wp2_with (with_reducible refine wpList_store_int rfl (.tmp 4) (.tmp 94) rfl w.heap.size v5 _ rfl rfl HV5.out HR5.out ?_)
          exact ret_int_cell rfl rfl HR5.out HV5.out HB5.out (Nat.le_refl _)

end Zn
end Go.Proofs.YtelfpefcjchjbaaGreatDoor
