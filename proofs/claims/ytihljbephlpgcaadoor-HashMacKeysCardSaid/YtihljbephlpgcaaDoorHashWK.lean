/-
  The walk of the law HashMacKeys.
-/
import Derived.Test.YtihljbephlpgcaaDoorHashV
import Derived.Test.YtihljbephlpgcaaDoorHashZ
namespace Go.Proofs.YtihljbephlpgcaaDoor
open Go.RowKit
open Go.Lib (hid)
open S

set_option maxRecDepth 100000 in
set_option maxHeartbeats 1600000 in
theorem walkKeys (a0 a1 : ByteArray) (w : World) (HK : KR w) :
    Calls Tryd.prog 6 #[.string a0, .string a1] w fun e w' => e = .returned (.bool true) ∧ Below w.heap.size w w' := by
  have HK1 := hid HK
  clear HK
  go_enter Tryd.func6, Tryd.ntmps6
  go_wp2_with fail
  refine (sanity_any w HK1.out).mono ?_
  rintro e w1 ⟨rfl, hb1⟩
  have HB1 := hid hb1
  clear hb1
  by_cases h0 : (400 : Int) < a0.size
  · go_wp2_with fail
    go_ret
    exact ⟨rfl, HB1.out⟩
  · by_cases h1 : (400 : Int) < a1.size
    · go_wp2_with fail
      go_ret
      exact ⟨rfl, HB1.out⟩
    · go_wp2_with fail
      obtain ⟨M, hM⟩ : ∃ M, M = strN (macN (tx a0) (tx a1)) := ⟨_, rfl⟩
      have HMs := hid (show M.size = 32 by rw [hM, strN_size, macN_length])
      have hC := Mac_any a0 a1 w1 (by omega) (by omega) (HK1.out.below HB1.out)
      rw [← hM] at hC
      have HM := hid hM
      clear hM
      refine hC.mono ?_
      clear hC
      rintro e w2 ⟨rfl, hb2⟩
      have HB2 := hid (further HB1.out hb2)
      clear hb2
      by_cases h2 : (64 : Int) < a0.size
      · have kc := fun W : World => Lib.run_convert_string_bytes (P := Tryd.prog) W 9 22 5 a0 Tryd.under_str Tryd.under_bs Tryd.under_u8
        go_wp2_with fail
        clear kc
        have HB3 := hid (further HB2.out (bytesW_below w2 5 a0))
        refine (Sum_any (tx a0) _ _ (tx_bn a0) (by rw [tx_length]; omega) (textOf_bytes w2 a0 _) (HK1.out.below HB3.out)).mono ?_
        rintro e w4 ⟨rfl, hb4⟩
        have HB4 := hid (further HB3.out hb4)
        clear hb4
        obtain ⟨S1, hS1⟩ : ∃ S1, S1 = sha (tx a0) := ⟨_, rfl⟩
        have HS1 := hid hS1
        rw [← hS1]
        clear hS1
        go_wp2_with fail
        refine (Bytes32_any S1 (by rw [HS1.out]; exact sha_length _) w4).mono ?_
        rintro e w5 ⟨rfl, hb5⟩
        have HB5 := hid (further HB4.out hb5)
        clear hb5
        go_wp2_with fail
        have hC := Mac_any (strN S1) a1 w5 (by rw [strN_size, HS1.out, sha_length]; decide) (by omega) (HK1.out.below HB5.out)
        have hm : macN (tx (strN S1)) (tx a1) = macN (tx a0) (tx a1) := by
          rw [tx_strN _ (by rw [HS1.out]; exact sha_bn _), HS1.out, macN_sha _ _ (by rw [tx_length]; omega)]
        rw [hm, ← HM.out] at hC
        refine hC.mono ?_
        clear hC
        rintro e w6 ⟨rfl, hb6⟩
        have HB6 := hid (further HB5.out hb6)
        clear hb6
        have hMM : (M.toList == M.toList) = true := beq_self_eq_true _
        go_wp2_with fail
        go_ret
        exact ⟨rfl, HB6.out⟩
      · by_cases h3 : (a0.size : Int) < 64
        · go_wp2_with fail
          have hC := Mac_any (a0 ++ ⟨#[0]⟩) a1 w2 (by rw [ByteArray.size_append]; show a0.size + 1 ≤ _; omega) (by omega) (HK1.out.below HB2.out)
          rw [tx_append, show tx ⟨#[0]⟩ = [0] from rfl, macN_zero _ _ (by rw [tx_length]; omega), ← HM.out] at hC
          refine hC.mono ?_
          clear hC
          rintro e w6 ⟨rfl, hb6⟩
          have HB6 := hid (further HB2.out hb6)
          clear hb6
          have hMM : (M.toList == M.toList) = true := beq_self_eq_true _
          go_wp2_with fail
          go_ret
          exact ⟨rfl, HB6.out⟩
        · have hms : (M.size : Int) = 32 := by rw [HMs.out]; rfl
          go_wp2_with fail
          go_ret
          exact ⟨rfl, HB2.out⟩

end Go.Proofs.YtihljbephlpgcaaDoor
