/-
  Contracts of gantry/gantryref02: Input, Short, Of.
-/
import Derived.Test.YtihljbephlpgcaaDoorHashRI
import Derived.Test.YtihljbephlpgcaaDoorHashRH
namespace Go.Proofs.YtihljbephlpgcaaDoor
open Go.RowKit
open Go.Lib (hid)
open S
open W

theorem ofIn_all (tag : Int) (ss : List ByteArray) (n : Nat) (h : n = ss.length) : ofIn tag (ss.take n) = ofIn tag ss := by rw [h, List.take_length]

set_option maxRecDepth 100000 in
set_option maxHeartbeats 1600000 in
theorem Input_any (tag : Int) (ao : Option Addr) (cap : Nat) (ss : List ByteArray) (w : World) (hp : Parts w ao ss) (hf : FewP ss) :
    Calls Tryd.prog 23 #[.int .i64 tag, .slice ao ss.length cap] w fun e w' => ∃ v, e = .returned v ∧ w'.ownsRow w.heap.size 5 1 v (ofIn tag ss).length (bc (ofIn tag ss)) ∧ Below w.heap.size w w' := by
  obtain ⟨i0, hi, hz0, hz1, hz2⟩ := info_parts Tryd.info_u8
  have HP := hid hp
  have HF := hid hf
  have ht := tagN_cast tag
  have hle := hid (fun (k : Nat) => show (ofIn tag (ss.take k)).length ≤ 12109 by
    have h1 := ofIn_le tag (ss.take k) (fun s hs => Nat.le_trans (hf.2 s (List.mem_of_mem_take hs)) (by decide))
    have h2 : (ss.take k).length ≤ 12 := by have := hf.1; simp; omega
    omega)
  have hl12 := hf.1
  obtain ⟨n, hn⟩ : ∃ n, n = ss.length := ⟨_, rfl⟩
  have HN := hid hn
  rw [← hn] at hl12 ⊢
  clear hn hp hf
  go_enter Tryd.func23, Tryd.ntmps23
  go_wp2_with fail
  go_loopw [5, 6] (fun v i wr => ∃ k : Nat, k ≤ n ∧ i = .int .i64 k ∧ wr.ownsRow w.heap.size 5 1 v (ofIn tag (ss.take k)).length (bc (ofIn tag (ss.take k))) ∧ Below w.heap.size w wr) (fun _ i _ => n - (intOf i).toNat)
  case atStart =>
    refine ⟨0, by omega, rfl, ?_, (Below.refl _ _).alloc (Nat.le_refl _) _⟩
    exact ⟨rfl, .inr ⟨w.heap.size, 1, #[.int .u8 (tagN tag : Nat)], rfl, Nat.le_refl _, heap_alloc_new w _, Nat.le_refl _, by unfold maxLen; omega, rfl, rfl⟩⟩
  case round =>
    obtain ⟨k, hk, rfl, hown, hbel⟩ := hrel
    have hlk := hle.out k
    have HO := hid hown
    have HB := hid hbel
    clear hown hbel
    by_cases hlt : k < n
    · have hks : k < ss.length := by rw [← HN.out]; exact hlt
      obtain ⟨b, off, rfl, hc0⟩ := part_at (HP.out.below HB.out) hks
      have hlt' : (k : Int) < (n : Int) := by omega
      obtain ⟨s, hs⟩ : ∃ s, s = ss[k]'hks := ⟨_, rfl⟩
      rw [← hs] at hc0
      have hss : s.size ≤ 400 := by rw [hs]; exact HF.out.2 _ (List.getElem_mem _)
      have HJ := hid (show ofIn tag (ss.take (k + 1)) = ofIn tag (ss.take k) ++ encN (tx s) by rw [ofIn_snoc tag ss k hks, hs])
      clear hs hks
      go_wp2_with fail
      refine (refBytes_any s wr (by omega)).mono ?_
      rintro e w1 ⟨v1, rfl, hown1, hb1⟩
      have hel : (encN (tx s)).length ≤ 409 := by
        have := code_le ((tx s).length : Int)
        rw [encN_length, tx_length] at *
        omega
      have hep : 0 < (encN (tx s)).length := by
        have := code_length ((tx s).length : Int)
        rw [encN_length]; omega
      obtain ⟨el, hel2⟩ : ∃ el, el = (encN (tx s)).length := ⟨_, rfl⟩
      rw [← hel2] at hown1 hel hep
      have HEl := hid hel2
      obtain ⟨g1, c1, rfl, _, _, _, hlie, _⟩ := lie_of_own hown1 hep
      have HNw := hid hlie.news
      have HO1 := hid (own_kept HO.out hb1)
      have HB1 := hid (further HB.out hb1)
      have hsz := HB1.out.size
      obtain ⟨il, hil⟩ : ∃ il, il = (ofIn tag (ss.take k)).length := ⟨_, rfl⟩
      rw [← hil] at HO1 hlk
      have HIl := hid hil
      clear hown1 hb1 hlie hel2 hil HO HB
      go_wp2_with (at_builtin; go_must (refine wpList_append_own _ rfl (.tmp 16) (.tmp 21) 22 rfl w.heap.size 5 i0 (.int .u8 0) 1 1 Tryd.under_bs hi hz0 hz1 hz2 rfl (by decide) _ il (bc (ofIn tag (ss.take k))) rfl HO1.out ⟨g1, 0, none⟩ el c1 (bc (encN (tx s))) rfl ?c1 HNw.out ?c2 ?c3 ?c4 ?c5 ?_))
      case c1 => rw [HEl.out]; simp [bc]
      case c2 => exact bc_one _
      case c3 => unfold maxLen; omega
      case c4 => omega
      case c5 => omega
      intro v2 w2 hown2 hgrow2 _
      have HO2 := hid hown2
      have HB2 := hid (below_owned HB1.out HO1.out hgrow2)
      clear hown2 hgrow2
      go_wp2
      go_roundw
      case rel =>
        refine ⟨k + 1, by omega, by go_num, ?_, HB2.out⟩
        have h := HO2.out
        rw [← bc_app, ← HJ.out] at h
        have e : (ofIn tag (ss.take (k + 1))).length = il + el := by rw [HJ.out, List.length_append, HIl.out, HEl.out]
        rw [e]
        exact h
      case measure => simp [intOf]; omega
    · obtain rfl : k = n := by omega
      have hlt' : ¬ (k : Int) < (k : Int) := by omega
      go_wp2_with fail
      go_ret
      refine ⟨_, rfl, ?_, HB.out⟩
      have h := HO.out
      rw [ofIn_all tag ss k HN.out] at h
      exact h

end Go.Proofs.YtihljbephlpgcaaDoor
