/-
  Contracts of gantry/gantryref02: Few, Joined.
-/
import Derived.Test.YtihljbephlpgcaaDoorHashT
import Derived.Test.YtihljbephlpgcaaDoorHashZ
namespace Go.Proofs.YtihljbephlpgcaaDoor
open Go.RowKit
open Go.Lib (hid)
open S

def FewP (ss : List ByteArray) : Prop := ss.length ≤ 12 ∧ ∀ s ∈ ss, s.size ≤ 400
instance (ss : List ByteArray) : Decidable (FewP ss) := by unfold FewP; infer_instance
def joinN (ss : List ByteArray) : List Nat := ss.flatMap tx
theorem joinN_bn (ss : List ByteArray) : Bn (joinN ss) := by
  intro x hx
  obtain ⟨s, _, hs⟩ := List.mem_flatMap.1 hx
  exact tx_bn s x hs
theorem joinN_snoc (ss : List ByteArray) (i : Nat) (h : i < ss.length) : joinN (ss.take (i + 1)) = joinN (ss.take i) ++ tx ss[i] := by
  unfold joinN
  rw [List.take_succ_eq_append_getElem h, List.flatMap_append]
  simp
theorem joinN_le : ∀ (ss : List ByteArray), (∀ s ∈ ss, s.size ≤ 400) → (joinN ss).length ≤ 400 * ss.length
  | [], _ => by simp [joinN]
  | s :: ss, h => by
    have ih := joinN_le ss fun t ht => h t (List.mem_cons_of_mem _ ht)
    have h1 := h s (List.mem_cons_self ..)
    have e : joinN (s :: ss) = tx s ++ joinN ss := by simp [joinN]
    rw [e, List.length_append, tx_length, List.length_cons]
    omega
theorem strN_app (l : List Nat) (s : ByteArray) (hl : Bn l) : strN l ++ s = strN (l ++ tx s) := by
  have h : tx (strN l ++ s) = l ++ tx s := by rw [tx_append, tx_strN l hl]
  rw [← h, strN_tx]

theorem part_at {w : World} {ao : Option Addr} {ss : List ByteArray} (h : Parts w ao ss) {i : Nat} (hi : i < ss.length) : ∃ b off, ao = some ⟨b, off, none⟩ ∧ w.cell? ⟨b, off + i, none⟩ = some (.string ss[i]) := by
  obtain ⟨b, off, rfl, _, hc⟩ := h (by omega)
  exact ⟨b, off, rfl, hc i _ (List.getElem?_eq_getElem hi)⟩

set_option maxRecDepth 100000 in
set_option maxHeartbeats 800000 in
theorem Few_any (ao : Option Addr) (cap : Nat) (ss : List ByteArray) (w : World) (hp : Parts w ao ss) (hl : ss.length ≤ 9223372036854775807) :
    Calls Tryd.prog 13 #[.slice ao ss.length cap] w fun e w' => e = .returned (.bool (decide (FewP ss))) ∧ w = w' := by
  have HP := hid hp
  obtain ⟨n, hn⟩ : ∃ n, n = ss.length := ⟨_, rfl⟩
  have HN := hid hn
  rw [← hn] at hl ⊢
  clear hn hp
  go_enter Tryd.func13, Tryd.ntmps13
  by_cases h12 : (12 : Int) < n
  · go_wp2_with fail
    go_ret
    have hf : ¬ FewP ss := fun h => by have := h.1; have := HN.out; omega
    exact ⟨by rw [decide_eq_false hf]; rfl, rfl⟩
  · go_wp2_with fail
    go_loopw [3] (fun i wr => ∃ k : Nat, k ≤ n ∧ i = .int .i64 k ∧ wr = w ∧ ∀ s ∈ ss.take k, s.size ≤ 400) (fun i _ => n - (intOf i).toNat)
    case atStart => exact ⟨0, by omega, rfl, rfl, fun s hs => by simp at hs⟩
    case round =>
      obtain ⟨k, hk, rfl, rfl, hall⟩ := hrel
      have HA := hid hall
      clear hall
      by_cases hlt : k < n
      · obtain ⟨b, off, rfl, hc⟩ := part_at HP.out (show k < ss.length by rw [← HN.out]; exact hlt)
        have hlt' : (k : Int) < (n : Int) := by omega
        obtain ⟨s, hs⟩ : ∃ s, s = ss[k]'(by rw [← HN.out]; exact hlt) := ⟨_, rfl⟩
        rw [← hs] at hc
        have HS := hid hs
        clear hs
        by_cases h4 : (400 : Int) < s.size
        · go_wp2_with fail
          go_ret
          have hf : ¬ FewP ss := fun h => by
            have := h.2 s (by rw [HS.out]; exact List.getElem_mem _)
            omega
          exact ⟨by rw [decide_eq_false hf]; rfl, rfl⟩
        · go_wp2_with fail
          go_roundw
          case rel =>
            refine ⟨k + 1, by omega, by go_num, by trivial, fun t ht => ?_⟩
            rw [List.take_succ_eq_append_getElem (by rw [← HN.out]; exact hlt), List.mem_append, List.mem_singleton] at ht
            rcases ht with ht | rfl
            · exact HA.out t ht
            · rw [← HS.out]; omega
          case measure => simp [intOf]; omega
      · have hlt' : ¬ (k : Int) < (n : Int) := by omega
        go_wp2_with fail
        go_ret
        have hf : FewP ss := ⟨by rw [← HN.out]; omega, fun s hs => HA.out s (by rw [List.take_of_length_le (by rw [← HN.out]; omega)]; exact hs)⟩
        exact ⟨by rw [decide_eq_true hf]; rfl, rfl⟩

set_option maxRecDepth 100000 in
set_option maxHeartbeats 800000 in
theorem Joined_any (ao : Option Addr) (cap : Nat) (ss : List ByteArray) (w : World) (hp : Parts w ao ss) (hf : FewP ss) :
    Calls Tryd.prog 16 #[.slice ao ss.length cap] w fun e w' => e = .returned (.string (strN (joinN ss))) ∧ w = w' := by
  have HP := hid hp
  have HF := hid hf
  have hl := hf.1
  obtain ⟨n, hn⟩ : ∃ n, n = ss.length := ⟨_, rfl⟩
  have HN := hid hn
  rw [← hn] at hl ⊢
  clear hn hp hf
  go_enter Tryd.func16, Tryd.ntmps16
  go_wp2_with fail
  go_loopw [3, 4] (fun v i wr => ∃ k : Nat, k ≤ n ∧ i = .int .i64 k ∧ wr = w ∧ v = .string (strN (joinN (ss.take k)))) (fun _ i _ => n - (intOf i).toNat)
  case atStart => exact ⟨0, by omega, rfl, rfl, rfl⟩
  case round =>
    obtain ⟨k, hk, rfl, rfl, rfl⟩ := hrel
    by_cases hlt : k < n
    · have hks : k < ss.length := by rw [← HN.out]; exact hlt
      obtain ⟨b, off, rfl, hc⟩ := part_at HP.out hks
      have hlt' : (k : Int) < (n : Int) := by omega
      obtain ⟨s, hs⟩ : ∃ s, s = ss[k]'hks := ⟨_, rfl⟩
      rw [← hs] at hc
      obtain ⟨X, hX⟩ : ∃ X, X = strN (joinN (ss.take k)) := ⟨_, rfl⟩
      have hXs : X.size ≤ 4800 := by
        rw [hX, strN_size]
        have h1 := joinN_le (ss.take k) fun t ht => HF.out.2 t (List.mem_of_mem_take ht)
        have h2 : (ss.take k).length ≤ 12 := by simp; omega
        omega
      have hss : s.size ≤ 400 := by rw [hs]; exact HF.out.2 _ (List.getElem_mem _)
      have HX := hid (show X ++ s = strN (joinN (ss.take (k + 1))) by
        rw [hX, joinN_snoc ss k hks, hs, strN_app _ _ (joinN_bn _)])
      rw [← hX]
      clear hX hs hks
      go_wp2_with fail
      go_roundw
      case rel => exact ⟨k + 1, by omega, by go_num, by trivial, by rw [← HX.out]⟩
      case measure => simp [intOf]; omega
    · obtain rfl : k = n := by omega
      have hlt' : ¬ (k : Int) < (k : Int) := by omega
      go_wp2_with fail
      go_ret
      refine ⟨?_, rfl⟩
      rw [HN.out, List.take_length]
      rfl

end Go.Proofs.YtihljbephlpgcaaDoor
