/-
  Contract of gantry/gantrylaw01.few.
-/
import Derived.Test.YtpdphbliaibkhaaWireZ
namespace Go.Proofs.Ytpdphbliaibkhaa
open Go.RowKit
open Go.Lib (hid)
open W

theorem total_step (ss : List ByteArray) (k : Nat) (hk : k < ss.length) : total (ss.take (k + 1)) = total (ss.take k) + ss[k].size := by
  rw [List.take_succ_eq_append_getElem hk]
  simp only [total, List.map_append, List.sum_append, List.map_cons, List.map_nil, List.sum_cons, List.sum_nil]
  omega

theorem few_any (v : Value) (ss : List ByteArray) (w : World) (hv : View w v 1 ss.length (ss.map Value.string)) (hl : ss.length ≤ 1099511627776) (ht : total ss ≤ 1099511627776) :
    Calls Try.prog 11 #[v] w fun e w' => e = .returned (.bool (decide (ss.length + total ss ≤ 2000))) ∧ Below w.heap.size w w' := by
  obtain ⟨_, ao, cap, rfl, hlc, hcm, hcells⟩ := hv
  have HCE := hid hcells
  clear hcells
  unfold maxLen at hcm
  go_enter Try.func11, Try.ntmps11
  go_wp2
  go_loopw [3, 10] (fun n i wr => ∃ k : Nat, k ≤ ss.length ∧ i = .int .i64 k ∧ n = .int .i64 (ss.length + total (ss.take k) : Nat) ∧ Below w.heap.size w wr) (fun _ i _ => ss.length - (intOf i).toNat)
  case atStart => exact ⟨0, by omega, rfl, by simp [total], Below.refl _ w⟩
  case round =>
    obtain ⟨k, hk, rfl, rfl, hbel⟩ := hrel
    have HB2 := hid hbel
    clear hbel
    have hle := total_take ss k
    by_cases hkn : k < ss.length
    · obtain ⟨b, off, rfl, hc⟩ := HCE.out (by omega)
      obtain ⟨s, hss⟩ : ∃ s, s = ss[k] := ⟨_, rfl⟩
      have hcz : wr.cell? ⟨b, off + k, none⟩ = some (.string s) := below_keep HB2.out (hc k _ (by rw [List.getElem?_map, List.getElem?_eq_getElem hkn, hss]; rfl))
      have htt := total_step ss k hkn
      rw [← hss] at htt
      have hle2 := total_take ss (k + 1)
      clear hss hc
      obtain ⟨T, hT⟩ : ∃ T, T = total (ss.take k) := ⟨_, rfl⟩
      rw [← hT] at hle htt ⊢
      go_wp2
      go_roundw
      case rel => exact ⟨k + 1, by omega, by go_num, by rw [htt]; go_num, HB2.out⟩
      case measure => simp [intOf]; omega
    · obtain rfl : k = ss.length := by omega
      rw [List.take_length]
      go_wp2
      go_ret
      refine ⟨?_, HB2.out⟩
      congr 2
      simp
      omega

end Go.Proofs.Ytpdphbliaibkhaa
