/-
  The walk of the law HashMacMatchesSpec.
-/
import Derived.Test.YtihljbephlpgcaaDoorHashV
import Derived.Test.YtihljbephlpgcaaDoorHashRF
namespace Go.Proofs.YtihljbephlpgcaaDoor
open Go.RowKit
open Go.Lib (hid)
open S

set_option maxRecDepth 100000 in
set_option maxHeartbeats 1600000 in
theorem walkMac (a0 a1 : ByteArray) (w : World) (HC : KC w) (HK : KR w) :
    Calls Tryd.prog 5 #[.string a0, .string a1] w fun e w' => e = .returned (.bool true) ∧ Below w.heap.size w w' := by
  have HK1 := hid HK
  have HC1 := hid HC
  clear HK HC
  go_enter Tryd.func5, Tryd.ntmps5
  go_wp2_with fail
  refine (sanity_any w HK1.out).mono ?_
  rintro e w1 ⟨rfl, hb1⟩
  have HB1 := hid hb1
  clear hb1
  by_cases h0 : (400 : Int) < a0.size
  · go_wp2_with fail
    go_ret
    exact ⟨rfl, HB1.out⟩
  · by_cases h1 : (400 : Int) < a1.size
    · go_wp2_with fail
      go_ret
      exact ⟨rfl, HB1.out⟩
    · go_wp2_with fail
      obtain ⟨M, hM⟩ : ∃ M, M = strN (macN (tx a0) (tx a1)) := ⟨_, rfl⟩
      have hX := Mac_any a0 a1 w1 (by omega) (by omega) (HK1.out.below HB1.out)
      have HM := hid hM
      clear hM
      rw [← HM.out] at hX
      refine hX.mono ?_
      clear hX
      rintro e w2 ⟨rfl, hb2⟩
      have HB2 := hid (further HB1.out hb2)
      clear hb2
      go_wp2_with fail
      have hX := refMac_any a0 a1 w2 (by omega) (by omega) (HC1.out.below HB2.out)
      rw [← HM.out] at hX
      refine hX.mono ?_
      clear hX
      rintro e w3 ⟨rfl, hb3⟩
      have HB3 := hid (further HB2.out hb3)
      clear hb3
      have hMM : (M.toList == M.toList) = true := beq_self_eq_true _
      go_wp2_with fail
      go_ret
      exact ⟨rfl, HB3.out⟩

end Go.Proofs.YtihljbephlpgcaaDoor
