/-
  gantry/gantryref02.Bytes32 and Text: an array of bytes as a string.
-/
import Derived.Test.YtihljbephlpgcaaDoorHashL
namespace Go.Proofs.YtihljbephlpgcaaDoor
open Go.RowKit
open Go.Lib (hid)
open S

set_option maxRecDepth 100000 in
set_option maxHeartbeats 3200000 in
theorem Bytes32_any (l : List Nat) (hl : l.length = 32) (w : World) :
    Calls Tryd.prog 20 #[.agg (bytesV l)] w fun e w' => e = .returned (.string (strN l)) ∧ Below w.heap.size w w' := by
  obtain ⟨i0, hi, hz0, hz1, hz2⟩ := info_parts Tryd.info_u8
  obtain ⟨C, hC⟩ : ∃ C, C = bytesV l := ⟨_, rfl⟩
  have HC := hid hC
  have HL := hid hl
  rw [← hC]
  clear hC hl
  go_enter Tryd.func20, Tryd.ntmps20
  go_wp2_with fail
  obtain ⟨w1, hw1⟩ : ∃ w1, w1 = w.alloc (.cells C 24) := ⟨_, rfl⟩
  rw [← hw1]
  have HB1 := hid (show Below w.heap.size w w1 by rw [hw1]; exact (Below.refl _ _).alloc (Nat.le_refl _) _)
  have HC1 := hid (show w1.heap[w.heap.size]? = some (.cells C 24 (0, 0)) by rw [hw1]; exact heap_alloc_new w _)
  have HS1 := hid (show w.heap.size < w1.heap.size by rw [hw1]; simp)
  clear hw1
  go_loopw [3, 4] (fun v i wr => ∃ k : Nat, k ≤ 32 ∧ i = .int .i64 k ∧ wr.ownsRow w1.heap.size 5 1 v k (bc (l.take k)) ∧ Below w1.heap.size w1 wr) (fun _ i _ => 32 - (intOf i).toNat)
  case atStart => exact ⟨0, by omega, rfl, ⟨rfl, .inl ⟨rfl, rfl⟩⟩, Below.refl _ _⟩
  case round =>
    obtain ⟨k, hk, rfl, hown, hb⟩ := hrel
    by_cases hk8 : k < 32
    · have hrow := stays hb HC1.out
      have hc : wr.cell? ⟨w.heap.size, k, none⟩ = some (.int .u8 (l.getD k 0 : Nat)) := by
        rw [cell_of_row _ _ _ _ _ _ hrow, HC.out]
        exact bytesV_at _ _ (by rw [HL.out]; exact hk8)
      obtain ⟨x, hx⟩ : ∃ x, x = l.getD k 0 := ⟨_, rfl⟩
      rw [← hx] at hc
      obtain ⟨v, hv⟩ : ∃ v, v = u3 := ⟨_, rfl⟩
      subst hv
      have HX := hid hx
      have HO := hid hown
      have HB := hid hb
      have HRow := hid hrow
      clear hx hown hb hrow
      go_wp2_with (at_builtin; go_must (refine wpList_append_own _ rfl (.tmp 9) (.tmp 13) 22 rfl w1.heap.size 5 i0 (.int .u8 0) 1 1 Tryd.under_bs hi hz0 hz1 hz2 rfl (by decide) _ k (bc (l.take k)) rfl (HO.out.alloc _) ⟨wr.heap.size, 0, none⟩ 1 1 [.int .u8 (x : Int)] rfl rfl ?c1 ?c2 ?c3 ?c4 ?c5 ?_))
      case c1 => exact cell_new1 _ _ _
      case c2 => intro v hv; rw [List.mem_singleton.1 hv]; rfl
      case c3 => unfold maxLen; omega
      case c4 => omega
      case c5 => have := HB.out.size; simp; omega
      intro v' w2 hown' hgrow _
      have HO2 := hid hown'
      have HB2 := hid (below_owned (HB.out.alloc HB.out.size _) (HO.out.alloc _) hgrow)
      clear hown' hgrow
      go_wp2
      go_roundw
      case rel =>
        refine ⟨k + 1, by omega, by go_num, ?_, HB2.out⟩
        have h := HO2.out
        have e : bc (l.take k) ++ [Value.int .u8 (x : Int)] = bc (l.take (k + 1)) := by
          have hlk : k < l.length := by rw [HL.out]; exact hk8
          rw [List.take_succ_eq_append_getElem hlk, HX.out]
          unfold bc
          rw [List.map_append, List.getD_eq_getElem?_getD, List.getElem?_eq_getElem hlk]
          rfl
        rw [e] at h
        exact h
      case measure => simp [intOf]; omega
    · obtain rfl : k = 32 := by omega
      obtain ⟨g, c, rfl, _, _⟩ := owned_slice hown (by omega)
      rw [List.take_of_length_le (by rw [HL.out]; omega)] at hown
      have hcv := conv_row wr g 0 32 c l HL.out (owned_cells hown HL.out)
      have HB := hid (further HB1.out hb)
      clear hown hb
      go_wp2
      go_ret
      exact ⟨rfl, HB.out⟩

set_option maxRecDepth 100000 in
set_option maxHeartbeats 3200000 in
theorem Text_any (l : List Nat) (hl : l.length = 16) (w : World) :
    Calls Tryd.prog 26 #[.agg (bytesV l)] w fun e w' => e = .returned (.string (strN l)) ∧ Below w.heap.size w w' := by
  obtain ⟨i0, hi, hz0, hz1, hz2⟩ := info_parts Tryd.info_u8
  obtain ⟨C, hC⟩ : ∃ C, C = bytesV l := ⟨_, rfl⟩
  have HC := hid hC
  have HL := hid hl
  rw [← hC]
  clear hC hl
  go_enter Tryd.func26, Tryd.ntmps26
  go_wp2_with fail
  obtain ⟨w1, hw1⟩ : ∃ w1, w1 = w.alloc (.cells C 44) := ⟨_, rfl⟩
  rw [← hw1]
  have HB1 := hid (show Below w.heap.size w w1 by rw [hw1]; exact (Below.refl _ _).alloc (Nat.le_refl _) _)
  have HC1 := hid (show w1.heap[w.heap.size]? = some (.cells C 44 (0, 0)) by rw [hw1]; exact heap_alloc_new w _)
  have HS1 := hid (show w.heap.size < w1.heap.size by rw [hw1]; simp)
  clear hw1
  go_loopw [3, 4] (fun v i wr => ∃ k : Nat, k ≤ 16 ∧ i = .int .i64 k ∧ wr.ownsRow w1.heap.size 5 1 v k (bc (l.take k)) ∧ Below w1.heap.size w1 wr) (fun _ i _ => 16 - (intOf i).toNat)
  case atStart => exact ⟨0, by omega, rfl, ⟨rfl, .inl ⟨rfl, rfl⟩⟩, Below.refl _ _⟩
  case round =>
    obtain ⟨k, hk, rfl, hown, hb⟩ := hrel
    by_cases hk8 : k < 16
    · have hrow := stays hb HC1.out
      have hc : wr.cell? ⟨w.heap.size, k, none⟩ = some (.int .u8 (l.getD k 0 : Nat)) := by
        rw [cell_of_row _ _ _ _ _ _ hrow, HC.out]
        exact bytesV_at _ _ (by rw [HL.out]; exact hk8)
      obtain ⟨x, hx⟩ : ∃ x, x = l.getD k 0 := ⟨_, rfl⟩
      rw [← hx] at hc
      obtain ⟨v, hv⟩ : ∃ v, v = u3 := ⟨_, rfl⟩
      subst hv
      have HX := hid hx
      have HO := hid hown
      have HB := hid hb
      have HRow := hid hrow
      clear hx hown hb hrow
      go_wp2_with (at_builtin; go_must (refine wpList_append_own _ rfl (.tmp 9) (.tmp 13) 22 rfl w1.heap.size 5 i0 (.int .u8 0) 1 1 Tryd.under_bs hi hz0 hz1 hz2 rfl (by decide) _ k (bc (l.take k)) rfl (HO.out.alloc _) ⟨wr.heap.size, 0, none⟩ 1 1 [.int .u8 (x : Int)] rfl rfl ?c1 ?c2 ?c3 ?c4 ?c5 ?_))
      case c1 => exact cell_new1 _ _ _
      case c2 => intro v hv; rw [List.mem_singleton.1 hv]; rfl
      case c3 => unfold maxLen; omega
      case c4 => omega
      case c5 => have := HB.out.size; simp; omega
      intro v' w2 hown' hgrow _
      have HO2 := hid hown'
      have HB2 := hid (below_owned (HB.out.alloc HB.out.size _) (HO.out.alloc _) hgrow)
      clear hown' hgrow
      go_wp2
      go_roundw
      case rel =>
        refine ⟨k + 1, by omega, by go_num, ?_, HB2.out⟩
        have h := HO2.out
        have e : bc (l.take k) ++ [Value.int .u8 (x : Int)] = bc (l.take (k + 1)) := by
          have hlk : k < l.length := by rw [HL.out]; exact hk8
          rw [List.take_succ_eq_append_getElem hlk, HX.out]
          unfold bc
          rw [List.map_append, List.getD_eq_getElem?_getD, List.getElem?_eq_getElem hlk]
          rfl
        rw [e] at h
        exact h
      case measure => simp [intOf]; omega
    · obtain rfl : k = 16 := by omega
      obtain ⟨g, c, rfl, _, _⟩ := owned_slice hown (by omega)
      rw [List.take_of_length_le (by rw [HL.out]; omega)] at hown
      have hcv := conv_row wr g 0 16 c l HL.out (owned_cells hown HL.out)
      have HB := hid (further HB1.out hb)
      clear hown hb
      go_wp2
      go_ret
      exact ⟨rfl, HB.out⟩

end Go.Proofs.YtihljbephlpgcaaDoor
