/-
  Contracts of gantry/gantryref02: padKey, Mac.
-/
import Derived.Test.YthadfilandmhiaaDoorSB30
import Derived.Test.YthadfilandmhiaaDoorSB23
import Derived.Test.YthadfilandmhiaaDoorSB25
import Derived.Test.YthadfilandmhiaaDoorSB19
set_option linter.unusedVariables false
set_option linter.unusedSimpArgs false
set_option linter.unusedSectionVars false
namespace Go.Proofs.YthadfilandmhiaaDoor
open Go.RowKit
open Go.Lib (hid)
open S
theorem lie_bytes (w : World) (s : ByteArray) : Lie (Lib.bytesWorld w 5 s) w.heap.size 0 (tx s) := by
  refine ⟨by rw [Lib.bytesWorld_size]; exact Nat.lt_succ_self _, fun i hi => ?_⟩
  rw [Nat.zero_add]
  exact bytesW_cell w 5 s i (by rw [tx_length] at hi; exact hi)
theorem shortN_le (l : List Nat) : (shortN l).length ≤ 64 := by
  unfold shortN
  split
  · rw [sha_length]; decide
  · omega
theorem shortN_bn {l : List Nat} (h : Bn l) : Bn (shortN l) := by
  unfold shortN
  split
  · exact sha_bn _
  · exact h
theorem kblk_at (l : List Nat) (h : l.length ≤ 64) (p : Nat) : (kblk l).getD p 0 = if p < l.length then l.getD p 0 else 0 := by
  rw [kblk_of l h]
  by_cases hp : p < l.length
  · rw [if_pos hp]; simp [List.getD_eq_getElem?_getD, List.getElem?_append_left hp]
  · rw [if_neg hp, List.getD_eq_getElem?_getD, List.getElem?_append_right (by omega), List.getElem?_replicate]
    split <;> rfl
/-- The loop's step. -/
theorem kmask_take (msk : Nat) (K : List Nat) (i : Nat) (hi : i < 64) : bc ((kmask msk K).take i) ++ [Value.int .u8 (((kblk K).getD i 0 ^^^ msk : Nat) : Int)] = bc ((kmask msk K).take (i + 1)) := by
  have hl := kmask_length msk K
  rw [List.take_succ_eq_append_getElem (by omega), ← kmask_at msk K i hi]
  have e : (kmask msk K).getD i 0 = (kmask msk K)[i] := by simp [List.getD_eq_getElem?_getD, hl, hi]
  rw [e]
  unfold bc
  rw [List.map_append, List.map_cons, List.map_nil]

set_option maxRecDepth 100000 in
set_option maxHeartbeats 1600000 in
theorem padKey_any (key : ByteArray) (msk : Nat) (w : World) (hk : key.size ≤ 1000000) (hm : msk < 256) (hC : KC w) :
    Calls Tryd.prog 64 #[.string key, .int .u8 (msk : Int)] w fun e w' => ∃ v, e = .returned v ∧ w'.ownsRow w.heap.size 5 1 v 64 (bc (kmask msk (shortN (tx key)))) ∧ Below w.heap.size w w' := by
  obtain ⟨i0, hi, hz0, hz1, hz2⟩ := info_parts Tryd.info_u8
  have HC := hid hC
  clear hC
  obtain ⟨K, hK⟩ : ∃ K, K = shortN (tx key) := ⟨_, rfl⟩
  have HKl := hid (show K.length ≤ 64 by rw [hK]; exact shortN_le _)
  have HKb := hid (show Bn K by rw [hK]; exact shortN_bn (tx_bn key))
  have HKd := hid hK
  clear hK
  go_enter Tryd.func64, Tryd.ntmps64
  by_cases h64 : (64 : Int) < key.size
  · have kc := fun W : World => Lib.run_convert_string_bytes (P := Tryd.prog) W 9 51 5 key Tryd.under_str Tryd.under_bs Tryd.under_u8
    go_wp2_with fail
    clear kc
    have hb0 := bytesW_below w 5 key
    have hX := refSum_any w.heap.size 0 (grownCap w key.size 0 5) (tx key) (Lib.bytesWorld w 5 key) (by rw [tx_length]; exact hk) (tx_bn key) (lie_bytes w key) (HC.out.below hb0)
    rw [tx_length] at hX
    refine hX.mono ?_
    clear hX
    rintro e w2 ⟨rfl, hb2⟩
    have HB0 := hid (further hb0 hb2)
    clear hb0 hb2
    obtain ⟨S1, hS1⟩ : ∃ S1, S1 = sha (tx key) := ⟨_, rfl⟩
    have HS1 := hid hS1
    rw [← hS1]
    clear hS1
    go_wp2_with fail
    refine (Bytes32_any S1 (by rw [HS1.out]; exact sha_length _) w2).mono ?_
    rintro e w3 ⟨rfl, hb3⟩
    have HB3 := hid (further HB0.out hb3)
    clear hb3 HB0
    obtain ⟨kk, hkk⟩ : ∃ kk, kk = strN S1 := ⟨_, rfl⟩
    rw [← hkk]
    have HKt := hid (show tx kk = K by
      rw [hkk, tx_strN _ (by rw [HS1.out]; exact sha_bn _), HS1.out, HKd.out, shortN, if_pos (by rw [tx_length]; omega)])
    clear hkk
    have HKs := hid (show kk.size = K.length by rw [← HKt.out, tx_length])
    go_wp2_with fail
    go_loopw [6, 7] (fun v i wr => ∃ k : Nat, k ≤ 64 ∧ i = .int .i64 k ∧ wr.ownsRow w.heap.size 5 1 v k (bc ((kmask msk K).take k)) ∧ Below w.heap.size w wr) (fun _ i _ => 64 - (intOf i).toNat)
    case atStart => exact ⟨0, by omega, rfl, (show w3.ownsRow w.heap.size 5 1 (.slice none 0 0) 0 (bc ((kmask msk K).take 0)) from ⟨rfl, .inl ⟨rfl, rfl⟩⟩), HB3.out⟩
    case round =>
      obtain ⟨k, hk64, rfl, hown, hbel⟩ := hrel
      have HO := hid hown
      have HB := hid hbel
      clear hown hbel
      by_cases hlt : k < 64
      · obtain ⟨x, hx⟩ : ∃ x, x = (kblk K).getD k 0 := ⟨_, rfl⟩
        have hxl : x < 256 := by rw [hx]; exact (kblk_bn HKb.out).getD k
        have e := u8_xor_nat x msk hxl hm
        have hat := kblk_at K HKl.out k
        rw [← hx] at hat
        have HX := hid hx
        clear hx
        by_cases hkk : k < K.length
        · have hkk' : (k : Int) < (kk.size : Int) := by rw [HKs.out]; omega
          have hix := index_str kk k (by rw [HKs.out]; exact hkk)
          rw [HKt.out, ← show x = K.getD k 0 by rw [hat, if_pos hkk]] at hix
          clear hat
          go_wp2_with (at_builtin; go_must (refine wpList_append_own _ rfl (.tmp 28) (.tmp 32) 51 rfl w.heap.size 5 i0 (.int .u8 0) 1 1 Tryd.under_bs hi hz0 hz1 hz2 rfl (by decide) _ k (bc ((kmask msk K).take k)) rfl (HO.out.alloc _) ⟨wr.heap.size, 0, none⟩ 1 1 [.int .u8 ((x ^^^ msk : Nat) : Int)] rfl rfl ?p1 ?p2 ?p3 ?p4 ?p5 ?_))
          case p1 => exact cell_new1 _ _ _
          case p2 => intro v hv; rw [List.mem_singleton.1 hv]; rfl
          case p3 => unfold maxLen; omega
          case p4 => omega
          case p5 => have := HB.out.size; simp; omega
          intro v' w1 hown' hgrow _
          have HO2 := hid hown'
          have HB2 := hid (below_owned (HB.out.alloc HB.out.size _) (HO.out.alloc _) hgrow)
          clear hown' hgrow
          go_wp2
          go_roundw
          case rel =>
            refine ⟨k + 1, by omega, by go_num, ?_, HB2.out⟩
            have h := HO2.out
            rw [HX.out, kmask_take msk K k hlt] at h
            exact h
          case measure => simp [intOf]; omega
        · have hkk' : ¬ (k : Int) < (kk.size : Int) := by rw [HKs.out]; omega
          have hx0 : (kblk K).getD k 0 = 0 := by rw [← HX.out, hat, if_neg hkk]
          have e0 : bits .xor .u8 0 (msk : Int) = (msk : Int) := by
            have h := u8_xor_nat 0 msk (by decide) hm
            rw [Nat.zero_xor] at h
            exact h
          have HX0 := hid hx0
          clear hat hx0
          go_wp2_with (at_builtin; go_must (refine wpList_append_own _ rfl (.tmp 28) (.tmp 32) 51 rfl w.heap.size 5 i0 (.int .u8 0) 1 1 Tryd.under_bs hi hz0 hz1 hz2 rfl (by decide) _ k (bc ((kmask msk K).take k)) rfl (HO.out.alloc _) ⟨wr.heap.size, 0, none⟩ 1 1 [.int .u8 (msk : Int)] rfl rfl ?q1 ?q2 ?q3 ?q4 ?q5 ?_))
          case q2 => rfl
          case q3 => unfold maxLen; omega
          case q4 => omega
          case q5 => have := HB.out.size; simp; omega
          intro v' w1 hown' hgrow _
          have HO2 := hid hown'
          have HB2 := hid (below_owned (HB.out.alloc HB.out.size _) (HO.out.alloc _) hgrow)
          clear hown' hgrow
          go_wp2
          go_roundw
          case rel =>
            refine ⟨k + 1, by omega, by go_num, ?_, HB2.out⟩
            have h := HO2.out
            have hq := kmask_take msk K k hlt
            rw [HX0.out, Nat.zero_xor] at hq
            rw [hq] at h
            exact h
          case measure => simp [intOf]; omega
      · obtain rfl : k = 64 := by omega
        go_wp2
        go_ret
        refine ⟨_, rfl, ?_, HB.out⟩
        have h := HO.out
        rw [List.take_of_length_le (by rw [kmask_length]; decide)] at h
        rw [← HKd.out]
        exact h
  · obtain ⟨kk, hkk⟩ : ∃ kk, kk = key := ⟨_, rfl⟩
    have HKt := hid (show tx kk = K by
      rw [hkk, HKd.out, shortN, if_neg (by rw [tx_length]; omega)])
    rw [← hkk]
    rw [← hkk] at h64
    have HKd' := HKd
    clear HKd
    have HKd := hid (show K = shortN (tx kk) by rw [hkk]; exact HKd'.out)
    clear hkk HKd'
    have HKs := hid (show kk.size = K.length by rw [← HKt.out, tx_length])
    go_wp2_with fail
    go_loopw [6, 7] (fun v i wr => ∃ k : Nat, k ≤ 64 ∧ i = .int .i64 k ∧ wr.ownsRow w.heap.size 5 1 v k (bc ((kmask msk K).take k)) ∧ Below w.heap.size w wr) (fun _ i _ => 64 - (intOf i).toNat)
    case atStart => exact ⟨0, by omega, rfl, (show w.ownsRow w.heap.size 5 1 (.slice none 0 0) 0 (bc ((kmask msk K).take 0)) from ⟨rfl, .inl ⟨rfl, rfl⟩⟩), Below.refl _ _⟩
    case round =>
      obtain ⟨k, hk64, rfl, hown, hbel⟩ := hrel
      have HO := hid hown
      have HB := hid hbel
      clear hown hbel
      by_cases hlt : k < 64
      · obtain ⟨x, hx⟩ : ∃ x, x = (kblk K).getD k 0 := ⟨_, rfl⟩
        have hxl : x < 256 := by rw [hx]; exact (kblk_bn HKb.out).getD k
        have e := u8_xor_nat x msk hxl hm
        have hat := kblk_at K HKl.out k
        rw [← hx] at hat
        have HX := hid hx
        clear hx
        by_cases hkk : k < K.length
        · have hkk' : (k : Int) < (kk.size : Int) := by rw [HKs.out]; omega
          have hix := index_str kk k (by rw [HKs.out]; exact hkk)
          rw [HKt.out, ← show x = K.getD k 0 by rw [hat, if_pos hkk]] at hix
          clear hat
          go_wp2_with (at_builtin; go_must (refine wpList_append_own _ rfl (.tmp 28) (.tmp 32) 51 rfl w.heap.size 5 i0 (.int .u8 0) 1 1 Tryd.under_bs hi hz0 hz1 hz2 rfl (by decide) _ k (bc ((kmask msk K).take k)) rfl (HO.out.alloc _) ⟨wr.heap.size, 0, none⟩ 1 1 [.int .u8 ((x ^^^ msk : Nat) : Int)] rfl rfl ?r1 ?r2 ?r3 ?r4 ?r5 ?_))
          case r1 => exact cell_new1 _ _ _
          case r2 => intro v hv; rw [List.mem_singleton.1 hv]; rfl
          case r3 => unfold maxLen; omega
          case r4 => omega
          case r5 => have := HB.out.size; simp; omega
          intro v' w1 hown' hgrow _
          have HO2 := hid hown'
          have HB2 := hid (below_owned (HB.out.alloc HB.out.size _) (HO.out.alloc _) hgrow)
          clear hown' hgrow
          go_wp2
          go_roundw
          case rel =>
            refine ⟨k + 1, by omega, by go_num, ?_, HB2.out⟩
            have h := HO2.out
            rw [HX.out, kmask_take msk K k hlt] at h
            exact h
          case measure => simp [intOf]; omega
        · have hkk' : ¬ (k : Int) < (kk.size : Int) := by rw [HKs.out]; omega
          have hx0 : (kblk K).getD k 0 = 0 := by rw [← HX.out, hat, if_neg hkk]
          have e0 : bits .xor .u8 0 (msk : Int) = (msk : Int) := by
            have h := u8_xor_nat 0 msk (by decide) hm
            rw [Nat.zero_xor] at h
            exact h
          have HX0 := hid hx0
          clear hat hx0
          go_wp2_with (at_builtin; go_must (refine wpList_append_own _ rfl (.tmp 28) (.tmp 32) 51 rfl w.heap.size 5 i0 (.int .u8 0) 1 1 Tryd.under_bs hi hz0 hz1 hz2 rfl (by decide) _ k (bc ((kmask msk K).take k)) rfl (HO.out.alloc _) ⟨wr.heap.size, 0, none⟩ 1 1 [.int .u8 (msk : Int)] rfl rfl ?s1 ?s2 ?s3 ?s4 ?s5 ?_))
          case s2 => rfl
          case s3 => unfold maxLen; omega
          case s4 => omega
          case s5 => have := HB.out.size; simp; omega
          intro v' w1 hown' hgrow _
          have HO2 := hid hown'
          have HB2 := hid (below_owned (HB.out.alloc HB.out.size _) (HO.out.alloc _) hgrow)
          clear hown' hgrow
          go_wp2
          go_roundw
          case rel =>
            refine ⟨k + 1, by omega, by go_num, ?_, HB2.out⟩
            have h := HO2.out
            have hq := kmask_take msk K k hlt
            rw [HX0.out, Nat.zero_xor] at hq
            rw [hq] at h
            exact h
          case measure => simp [intOf]; omega
      · obtain rfl : k = 64 := by omega
        go_wp2
        go_ret
        refine ⟨_, rfl, ?_, HB.out⟩
        have h := HO.out
        rw [List.take_of_length_le (by rw [kmask_length]; decide)] at h
        rw [← HKd.out]
        exact h
end Go.Proofs.YthadfilandmhiaaDoor
