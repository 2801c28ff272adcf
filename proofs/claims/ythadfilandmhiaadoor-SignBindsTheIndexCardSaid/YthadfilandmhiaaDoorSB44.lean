/-
  Contracts of gantry/gantryref01: GetInt.
-/
import Derived.Test.YthadfilandmhiaaDoorSB34
import Derived.Test.YthadfilandmhiaaDoorSB3
import Derived.Deep.RegionWith
set_option linter.unusedVariables false
set_option linter.unusedSimpArgs false
set_option linter.unusedSectionVars false
namespace Go.Proofs.YthadfilandmhiaaDoor
open Go.RowKit
open Go.Lib (hid)
open W
/-- Two slices of different lengths are not the same. -/
theorem Same_no (ao bo : Option Addr) (n m c c' : Nat) (w : World) (hne : n ≠ m) (_hn : n ≤ 9223372036854775807) (_hm : m ≤ 9223372036854775807) :
    Calls Tryd.prog 61 #[.slice ao n c, .slice bo m c'] w fun e w' => e = .returned (.bool false) ∧ w = w' := by
  have h : ((n : Int) != (m : Int)) = true := by simp; omega
  go_enter Tryd.func61, Tryd.ntmps61
  go_wp2
  go_ret
  exact ⟨rfl, rfl⟩

theorem Fold.over {neg : Bool} {t : List Int} {k j q : Nat} (h : Fold neg t k j q) (hjk : j < k) (hkt : k ≤ t.length) (hq : 36028797018963968 ≤ q) :
    9223372036854775807 < val ((t.take k).map fun x => (fl neg x).toNat) := by
  unfold Fold at h
  obtain ⟨ds, hds⟩ : ∃ ds, ds = (t.take k).map fun x => (fl neg x).toNat := ⟨_, rfl⟩
  rw [← hds] at h ⊢
  have hl : ds.length = k := by rw [hds]; simp; omega
  have e : val ds = val (ds.take j ++ ds.drop j) := by rw [List.take_append_drop]
  rw [e, val_append, ← h]
  have h1 : 256 ^ 1 ≤ 256 ^ (ds.drop j).length := Nat.pow_le_pow_right (by decide) (by rw [List.length_drop]; omega)
  have h2 : q * 256 ^ 1 ≤ q * 256 ^ (ds.drop j).length := Nat.mul_le_mul_left _ h1
  omega

theorem lead_len {n : Int} {ds : List Nat} (hm : mag n = val ds) (hlt : ∀ d ∈ ds, d < 256) (hk : 0 < ds.length) (h0 : ds.headD 1 = 0) (hb : mag n < 9223372036854775808) : (code n).length ≠ ds.length + 1 := by
  cases ds with
  | nil => simp at hk
  | cons d r =>
    simp at h0
    subst h0
    have h1 := val_lt r (fun x hx => hlt x (List.mem_cons_of_mem _ hx))
    simp [val] at hm
    obtain ⟨_, h3⟩ := wid_spec (mag n) hb
    rw [code_length, List.length_cons]
    intro e
    have hw : wid (mag n) = r.length + 1 := by omega
    rw [hw] at h3
    rcases h3 with h3 | h3
    · omega
    · rw [Nat.add_sub_cancel] at h3; omega

set_option maxRecDepth 100000 in
theorem run_cut_any (b off len cap n : Nat) (hn : n ≤ cap) (h0 : 0 < cap) (w : World) :
    (Instr.slice 51 (.slice (some ⟨b, off, none⟩) len cap) none (some (.int .i64 (n : Int))) none).run Tryd.prog w = .ok (.slice (some ⟨b, off, none⟩) n cap) w := by
  rw [run_slice_h w _ _ _ _ (show Tryd.prog.underlying 51 = some (.slice 5) by kernel_rfl) _ _ (by omega) (by omega), (show (sizeOf (Tryd.prog.elem 51)).run Tryd.prog w = .ok 1 w by kernel_rfl)]
  simp only [Result.andThen, Int.toNat_natCast, sliced, Nat.sub_zero]
  rw [if_neg (by omega), Option.map_some, Nat.zero_mul, Addr.add_lit, Nat.add_zero]

theorem drew_below {w w1 : World} (h : Below w.drew.heap.size w.drew w1) : Below w.heap.size w w1 := ⟨h.os, h.tape, h.output, h.size, h.block⟩

theorem head_view {w : World} {b off cap : Nat} {x : Int} {t : List Int} (j : Nat) (hj : j + 1 ≤ t.length + 1) (hlc : t.length + 1 ≤ cap) (hcm : cap ≤ maxLen)
    (hc0 : w.cell? ⟨b, off, none⟩ = some (.int .u8 x)) (hct : ∀ i, i < t.length → w.cell? ⟨b, off + (i + 1), none⟩ = some (.int .u8 (t.getD i 0))) :
    View w (.slice (some ⟨b, off, none⟩) (j + 1) cap) 1 (j + 1) (((x :: t).take (j + 1)).map (Value.int .u8)) := by
  refine ⟨by simp; omega, _, cap, rfl, by omega, hcm, fun _ => ⟨b, off, rfl, fun i y hy => ?_⟩⟩
  rw [List.getElem?_map, List.getElem?_take] at hy
  split at hy
  · cases i with
    | zero => simp at hy; rw [← hy]; exact hc0
    | succ i =>
      have hi : i < t.length := by omega
      simp only [List.getElem?_cons_succ, List.getElem?_eq_getElem hi, Option.map_some, Option.some.injEq] at hy
      rw [hct i hi, ← hy, List.getD_eq_getElem?_getD, List.getElem?_eq_getElem hi]
      rfl
  · simp at hy

/-- Behind a function that decodes and makes memory. -/
def RTrip (w : World) (r : Int × Nat × Int) (e : Ending) (w' : World) : Prop := e = .returned (.tuple #[.int .i64 r.1, .int .i64 r.2.1, .int .i64 r.2.2]) ∧ Below w.heap.size w w'

theorem RTrip.mk {w w' : World} {r : Int × Nat × Int} {a b c : Int} (h : r = (a, b.toNat, c)) (hb : 0 ≤ b) (hw : Below w.heap.size w w') : RTrip w r (.returned (.tuple #[.int .i64 a, .int .i64 b, .int .i64 c])) w' := by
  subst h
  refine ⟨?_, hw⟩
  show _ = Ending.returned (.tuple #[.int .i64 a, .int .i64 ((b.toNat : Nat) : Int), .int .i64 c])
  rw [show ((b.toNat : Nat) : Int) = b by omega]

theorem dec_full {neg : Bool} {x : Int} {t : List Int} {k : Nat} (hneg : decide (x < 128) = neg) (hk : fl neg x = 128 + k) (h8 : ¬ 8 < k) (hl : ¬ t.length < k) {q : Nat} (hq : q = val ((t.take k).map fun x => (fl neg x).toNat)) :
    dec (x :: t) = if (0 < k ∧ ((t.take k).map fun x => (fl neg x).toNat).headD 1 = 0) ∨ 9223372036854775807 < q then (0, 0, 2) else (if neg then -1 - (q : Int) else q, k + 1, 0) := by
  rw [dec_cons hneg hk, if_neg h8, if_neg hl, ← hq]

set_option maxRecDepth 100000 in
set_option maxHeartbeats 1600000 in
theorem refGetInt_neg (b off cap k : Nat) (x : Int) (t : List Int) (w : World) (hk : k ≤ 127) (hxk : x = 127 - (k : Int)) (hlc : t.length + 1 ≤ cap) (_hcm : cap ≤ maxLen) (ht : Bs t)
    (hc0 : w.cell? ⟨b, off, none⟩ = some (.int .u8 x)) (hct : ∀ i, i < t.length → w.cell? ⟨b, off + (i + 1), none⟩ = some (.int .u8 (t.getD i 0))) :
    Calls Tryd.prog 39 #[.slice (some ⟨b, off, none⟩) (t.length + 1) cap] w (RTrip w (dec (x :: t))) := by
  unfold maxLen at _hcm
  have hneg : decide (x < 128) = true := by simp; omega
  have hfl : fl true x = 128 + (k : Int) := by simp [fl]; omega; try omega
  have HD := hid (dec_cons (t := t) hneg hfl)
  have HBs := hid ht
  have hx0 : 0 ≤ x := by omega
  have hx1 : x ≤ 255 := by omega
  have HCT := hid hct
  have HNeg := hid hneg
  have HFl := hid hfl
  have hxa := Int.le_of_eq hxk
  have hxb := Int.le_of_eq hxk.symm
  have HXK := hid hxk
  clear hct ht hneg hfl hxk
  by_cases hk8 : 8 < k
  · go_enter Tryd.func39, Tryd.ntmps39
    go_wp2
    all_goals
      go_ret3
      rw [HD.out, if_pos hk8]
      exact ⟨rfl, Below.refl _ _⟩
  · by_cases hlt : t.length < k
    · go_enter Tryd.func39, Tryd.ntmps39
      go_wp2
      go_ret3
      rw [HD.out, if_neg hk8, if_pos hlt]
      exact ⟨rfl, Below.refl _ _⟩
    · have hkx : 127 - x = (k : Int) := by omega
      go_enter Tryd.func39, Tryd.ntmps39
      go_wp2
      go_loop [7, 8] (fun m i => ∃ j q : Nat, j ≤ k ∧ i = .int .i64 ((j : Int) + 1) ∧ m = .int .i64 q ∧ q ≤ 9223372036854775807 ∧ Fold true t k j q) (fun _ i => k + 1 - (intOf i).toNat)
      case atStart => exact ⟨0, 0, by omega, rfl, rfl, by omega, rfl⟩
      case round =>
        obtain ⟨j, q, hj, rfl, rfl, hqb, hq⟩ := hrel
        by_cases hjk : j < k
        · obtain ⟨y, hy⟩ : ∃ y, y = t.getD j 0 := ⟨_, rfl⟩
          have hcy : w.cell? ⟨b, off + (j + 1), none⟩ = some (.int .u8 y) := by rw [hy, ← HCT.out j (by omega)]
          have hyb : 0 ≤ y ∧ y ≤ 255 := by rw [hy]; exact Bs.getD HBs.out j
          obtain ⟨hy0, hy1⟩ := hyb
          by_cases hbig : 36028797018963967 < q
          · have HO := hid (hq.over hjk (by omega) (by omega))
            clear hq hy
            go_wp2
            go_ret3
            rw [HD.out, if_neg hk8, if_neg hlt, if_pos (.inr HO.out)]
            exact ⟨rfl, Below.refl _ _⟩
          · have HQ := hid (hq.step hjk (by omega) hy)
            have hql : q ≤ 36028797018963967 := by omega
            clear hbig hq hy
            go_wp2
            go_round
            case rel => exact ⟨j + 1, q * 256 + (255 - y).toNat, by omega, by go_num, by go_num, by omega, HQ.out⟩
            case measure => simp [intOf]; omega
        · obtain rfl : j = k := by omega
          obtain ⟨ds, hds⟩ : ∃ ds, ds = (t.take j).map fun x => (fl true x).toNat := ⟨_, rfl⟩
          have hdl : ds.length = j := by rw [hds]; simp; omega
          have hd256 : ∀ d ∈ ds, d < 256 := by
            intro d hd
            rw [hds] at hd
            obtain ⟨z, hz, rfl⟩ := List.mem_map.1 hd
            have := fl_byte (neg := true) (HBs.out z (List.mem_of_mem_take hz))
            omega
          have hfull := hq.full
          have HF := hid (dec_full HNeg.out HFl.out hk8 hlt hfull)
          rw [← hds] at HF hfull
          have hn1 : -1 - (q : Int) ≤ 9223372036854775807 := by omega
          have hn2 : -9223372036854775808 ≤ -1 - (q : Int) := by omega
          have hmag : mag (-1 - (q : Int)) = q := by unfold mag; rw [if_pos (by omega)]; omega
          have HI := hid (fun W => refInt_any (-1 - (q : Int)) W hn1 hn2)
          have hcl := code_le (-1 - (q : Int))
          have hcp := code_pos (-1 - (q : Int))
          have hcut : ∀ W : World, (Instr.slice 51 (.slice (some ⟨b, off, none⟩) (t.length + 1) cap) none (some (.int .i64 ((j : Int) + 1))) none).run Tryd.prog W = .ok (.slice (some ⟨b, off, none⟩) (j + 1) cap) W := fun W => run_cut_any b off (t.length + 1) cap (j + 1) (by omega) (by omega) W
          by_cases hlead : 0 < j ∧ ds.headD 1 = 0
          · have hne : (code (-1 - (q : Int))).length ≠ j + 1 := by
              have := lead_len (n := -1 - (q : Int)) (by rw [hmag, hfull]) hd256 (by omega) hlead.2 (by omega)
              rwa [hdl] at this
            have HR := hid (HF.out.trans (if_pos (.inl hlead)))
            obtain ⟨C, hC⟩ : ∃ C, C = code (-1 - (q : Int)) := ⟨_, rfl⟩
            rw [← hC] at HI hcl hcp hne
            clear hlead hfull HF hmag hds hdl hd256 hq hC hn1 hn2
            have hs1 : IntKind.i64.wrap ((j : Int) + 1) = (j : Int) + 1 := IntWalk.i64_in _ (by omega)
            have hs2 : 0 ≤ (j : Int) + 1 := by omega
            have hs3 : ((j : Int) + 1).toNat = j + 1 := by omega
            go_wp2
            go_region_with (first | (go_at_call 30; refine (HI.out _).mono ?_; rintro e1 w1 ⟨v1, rfl, ho, hb⟩; obtain ⟨g1, c1, rfl, hg1, hg2⟩ := owned_slice ho (by omega); have HB1 := hid hb; clear ho hb) | (go_at_call 61; refine (Same_no _ _ _ _ _ _ _ hne (by omega) (by omega)).mono ?_; rintro e2 w2 ⟨rfl, rfl⟩))
            all_goals
              go_wp2
              go_ret3
              rw [HR.out]
              exact ⟨rfl, drew_below HB1.out⟩
          · have hr : dec (x :: t) = (-1 - (q : Int), j + 1, 0) := HF.out.trans (if_neg (by rintro (h | h); exact hlead h; omega))
            have hcan := dec_canonical (x :: t) (fun z hz => by rcases List.mem_cons.1 hz with rfl | hz; exact ⟨hx0, hx1⟩; exact HBs.out z hz) _ _ hr
            have hv := head_view (cap := cap) j (show j + 1 ≤ t.length + 1 by omega) hlc (by unfold maxLen; omega) hc0 HCT.out
            rw [hcan.2.1] at hv
            obtain ⟨C, hC⟩ : ∃ C, C = code (-1 - (q : Int)) := ⟨_, rfl⟩
            have hcl2 : C.length = j + 1 := by rw [hC, ← hcan.2.1, List.length_take, List.length_cons]; omega
            rw [← hC] at HI hcl hcp hv
            have HR := hid hr
            have HV := hid hv
            have HCl := hid hcl2
            clear hlead hfull HF hmag hds hdl hd256 hq hC hn1 hn2 hcan hr hv hcl2 hcl hcp
            have hs1 : IntKind.i64.wrap ((j : Int) + 1) = (j : Int) + 1 := IntWalk.i64_in _ (by omega)
            have hs2 : 0 ≤ (j : Int) + 1 := by omega
            have hs3 : ((j : Int) + 1).toNat = j + 1 := by omega
            go_wp2
            go_region_with (first | (go_at_call 30; refine (HI.out _).mono ?_; rintro e1 w1 ⟨v1, rfl, ho, hb⟩; have HW1 := hid (View.of_owns ho); have HB1 := hid hb; clear ho hb) | (go_at_call 61; refine (Same_yes _ _ (j + 1) C _ HCl.out (HCl.out ▸ HW1.out) (HV.out.below (drew_below HB1.out))).mono ?_; rintro e2 w2 ⟨rfl, n2, rfl⟩))
            all_goals
              go_wp2
              go_ret3
              rw [HR.out]
              exact RTrip.mk (by simp) (by omega) (below_drewN (drew_below HB1.out) _)

set_option maxRecDepth 100000 in
set_option maxHeartbeats 1600000 in
theorem refGetInt_pos (b off cap k : Nat) (x : Int) (t : List Int) (w : World) (hk : k ≤ 127) (hxk : x = 128 + (k : Int)) (hlc : t.length + 1 ≤ cap) (_hcm : cap ≤ maxLen) (ht : Bs t)
    (hc0 : w.cell? ⟨b, off, none⟩ = some (.int .u8 x)) (hct : ∀ i, i < t.length → w.cell? ⟨b, off + (i + 1), none⟩ = some (.int .u8 (t.getD i 0))) :
    Calls Tryd.prog 39 #[.slice (some ⟨b, off, none⟩) (t.length + 1) cap] w (RTrip w (dec (x :: t))) := by
  unfold maxLen at _hcm
  have hneg : decide (x < 128) = false := by simp; omega
  have hfl : fl false x = 128 + (k : Int) := by simp [fl]; try omega
  have HD := hid (dec_cons (t := t) hneg hfl)
  have HBs := hid ht
  have hx0 : 0 ≤ x := by omega
  have hx1 : x ≤ 255 := by omega
  have HCT := hid hct
  have HNeg := hid hneg
  have HFl := hid hfl
  have hxa := Int.le_of_eq hxk
  have hxb := Int.le_of_eq hxk.symm
  have HXK := hid hxk
  clear hct ht hneg hfl hxk
  by_cases hk8 : 8 < k
  · go_enter Tryd.func39, Tryd.ntmps39
    go_wp2
    all_goals
      go_ret3
      rw [HD.out, if_pos hk8]
      exact ⟨rfl, Below.refl _ _⟩
  · by_cases hlt : t.length < k
    · go_enter Tryd.func39, Tryd.ntmps39
      go_wp2
      go_ret3
      rw [HD.out, if_neg hk8, if_pos hlt]
      exact ⟨rfl, Below.refl _ _⟩
    · have hkx : x - 128 = (k : Int) := by omega
      go_enter Tryd.func39, Tryd.ntmps39
      go_wp2
      go_loop [7, 8] (fun m i => ∃ j q : Nat, j ≤ k ∧ i = .int .i64 ((j : Int) + 1) ∧ m = .int .i64 q ∧ q ≤ 9223372036854775807 ∧ Fold false t k j q) (fun _ i => k + 1 - (intOf i).toNat)
      case atStart => exact ⟨0, 0, by omega, rfl, rfl, by omega, rfl⟩
      case round =>
        obtain ⟨j, q, hj, rfl, rfl, hqb, hq⟩ := hrel
        by_cases hjk : j < k
        · obtain ⟨y, hy⟩ : ∃ y, y = t.getD j 0 := ⟨_, rfl⟩
          have hcy : w.cell? ⟨b, off + (j + 1), none⟩ = some (.int .u8 y) := by rw [hy, ← HCT.out j (by omega)]
          have hyb : 0 ≤ y ∧ y ≤ 255 := by rw [hy]; exact Bs.getD HBs.out j
          obtain ⟨hy0, hy1⟩ := hyb
          by_cases hbig : 36028797018963967 < q
          · have HO := hid (hq.over hjk (by omega) (by omega))
            clear hq hy
            go_wp2
            go_ret3
            rw [HD.out, if_neg hk8, if_neg hlt, if_pos (.inr HO.out)]
            exact ⟨rfl, Below.refl _ _⟩
          · have HQ := hid (hq.step hjk (by omega) hy)
            have hql : q ≤ 36028797018963967 := by omega
            clear hbig hq hy
            go_wp2
            go_round
            case rel => exact ⟨j + 1, q * 256 + (y).toNat, by omega, by go_num, by go_num, by omega, HQ.out⟩
            case measure => simp [intOf]; omega
        · obtain rfl : j = k := by omega
          obtain ⟨ds, hds⟩ : ∃ ds, ds = (t.take j).map fun x => (fl false x).toNat := ⟨_, rfl⟩
          have hdl : ds.length = j := by rw [hds]; simp; omega
          have hd256 : ∀ d ∈ ds, d < 256 := by
            intro d hd
            rw [hds] at hd
            obtain ⟨z, hz, rfl⟩ := List.mem_map.1 hd
            have := fl_byte (neg := false) (HBs.out z (List.mem_of_mem_take hz))
            omega
          have hfull := hq.full
          have HF := hid (dec_full HNeg.out HFl.out hk8 hlt hfull)
          rw [← hds] at HF hfull
          have hn1 : (q : Int) ≤ 9223372036854775807 := by omega
          have hn2 : -9223372036854775808 ≤ (q : Int) := by omega
          have hmag : mag ((q : Int)) = q := by unfold mag; rw [if_neg (by omega)]; omega
          have HI := hid (fun W => refInt_any ((q : Int)) W hn1 hn2)
          have hcl := code_le ((q : Int))
          have hcp := code_pos ((q : Int))
          have hcut : ∀ W : World, (Instr.slice 51 (.slice (some ⟨b, off, none⟩) (t.length + 1) cap) none (some (.int .i64 ((j : Int) + 1))) none).run Tryd.prog W = .ok (.slice (some ⟨b, off, none⟩) (j + 1) cap) W := fun W => run_cut_any b off (t.length + 1) cap (j + 1) (by omega) (by omega) W
          by_cases hlead : 0 < j ∧ ds.headD 1 = 0
          · have hne : (code ((q : Int))).length ≠ j + 1 := by
              have := lead_len (n := (q : Int)) (by rw [hmag, hfull]) hd256 (by omega) hlead.2 (by omega)
              rwa [hdl] at this
            have HR := hid (HF.out.trans (if_pos (.inl hlead)))
            obtain ⟨C, hC⟩ : ∃ C, C = code ((q : Int)) := ⟨_, rfl⟩
            rw [← hC] at HI hcl hcp hne
            clear hlead hfull HF hmag hds hdl hd256 hq hC hn1 hn2
            have hs1 : IntKind.i64.wrap ((j : Int) + 1) = (j : Int) + 1 := IntWalk.i64_in _ (by omega)
            have hs2 : 0 ≤ (j : Int) + 1 := by omega
            have hs3 : ((j : Int) + 1).toNat = j + 1 := by omega
            go_wp2
            go_region_with (first | (go_at_call 30; refine (HI.out _).mono ?_; rintro e1 w1 ⟨v1, rfl, ho, hb⟩; obtain ⟨g1, c1, rfl, hg1, hg2⟩ := owned_slice ho (by omega); have HB1 := hid hb; clear ho hb) | (go_at_call 61; refine (Same_no _ _ _ _ _ _ _ hne (by omega) (by omega)).mono ?_; rintro e2 w2 ⟨rfl, rfl⟩))
            all_goals
              go_wp2
              go_ret3
              rw [HR.out]
              exact ⟨rfl, drew_below HB1.out⟩
          · have hr : dec (x :: t) = ((q : Int), j + 1, 0) := HF.out.trans (if_neg (by rintro (h | h); exact hlead h; omega))
            have hcan := dec_canonical (x :: t) (fun z hz => by rcases List.mem_cons.1 hz with rfl | hz; exact ⟨hx0, hx1⟩; exact HBs.out z hz) _ _ hr
            have hv := head_view (cap := cap) j (show j + 1 ≤ t.length + 1 by omega) hlc (by unfold maxLen; omega) hc0 HCT.out
            rw [hcan.2.1] at hv
            obtain ⟨C, hC⟩ : ∃ C, C = code ((q : Int)) := ⟨_, rfl⟩
            have hcl2 : C.length = j + 1 := by rw [hC, ← hcan.2.1, List.length_take, List.length_cons]; omega
            rw [← hC] at HI hcl hcp hv
            have HR := hid hr
            have HV := hid hv
            have HCl := hid hcl2
            clear hlead hfull HF hmag hds hdl hd256 hq hC hn1 hn2 hcan hr hv hcl2 hcl hcp
            have hs1 : IntKind.i64.wrap ((j : Int) + 1) = (j : Int) + 1 := IntWalk.i64_in _ (by omega)
            have hs2 : 0 ≤ (j : Int) + 1 := by omega
            have hs3 : ((j : Int) + 1).toNat = j + 1 := by omega
            go_wp2
            go_region_with (first | (go_at_call 30; refine (HI.out _).mono ?_; rintro e1 w1 ⟨v1, rfl, ho, hb⟩; have HW1 := hid (View.of_owns ho); have HB1 := hid hb; clear ho hb) | (go_at_call 61; refine (Same_yes _ _ (j + 1) C _ HCl.out (HCl.out ▸ HW1.out) (HV.out.below (drew_below HB1.out))).mono ?_; rintro e2 w2 ⟨rfl, n2, rfl⟩))
            all_goals
              go_wp2
              go_ret3
              rw [HR.out]
              exact RTrip.mk (by simp) (by omega) (below_drewN (drew_below HB1.out) _)

theorem refGetInt_any (v : Value) (bs : List Int) (w : World) (hv : ByteView w v bs) :
    Calls Tryd.prog 39 #[v] w (RTrip w (dec bs)) := by
  obtain ⟨hB, ao, cap, rfl, hlc, hcm, hc⟩ := hv
  cases bs with
  | nil =>
    go_enter Tryd.func39, Tryd.ntmps39
    go_wp2
    go_ret3
    exact ⟨rfl, Below.refl _ _⟩
  | cons x t =>
    obtain ⟨b, off, rfl, hcell⟩ := hc (by simp)
    obtain ⟨hx, ht⟩ := hB.cons
    have hc0 : w.cell? ⟨b, off, none⟩ = some (.int .u8 x) := by simpa using hcell 0 (by simp)
    have hct : ∀ i, i < t.length → w.cell? ⟨b, off + (i + 1), none⟩ = some (.int .u8 (t.getD i 0)) := fun i hi => by simpa using hcell (i + 1) (by simp; omega)
    by_cases hn : x < 128
    · exact refGetInt_neg b off cap (127 - x).toNat x t w (by omega) (by omega) hlc hcm ht hc0 hct
    · exact refGetInt_pos b off cap (x - 128).toNat x t w (by omega) (by omega) hlc hcm ht hc0 hct
end Go.Proofs.YthadfilandmhiaaDoor
