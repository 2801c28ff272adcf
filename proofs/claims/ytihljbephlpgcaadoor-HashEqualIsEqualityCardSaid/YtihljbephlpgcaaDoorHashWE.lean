/-
  The walk of the law HashEqualIsEquality.
-/
import Derived.Test.YtihljbephlpgcaaDoorHashV
import Derived.Test.YtihljbephlpgcaaDoorHashO
namespace Go.Proofs.YtihljbephlpgcaaDoor
open Go.RowKit
open Go.Lib (hid)
open S

set_option maxRecDepth 100000 in
theorem walkEqual (a0 a1 : ByteArray) (w : World) (HK : KR w) :
    Calls Tryd.prog 9 #[.string a0, .string a1] w fun e w' => e = .returned (.bool true) ∧ Below w.heap.size w w' := by
  have HK1 := hid HK
  clear HK
  go_enter Tryd.func9, Tryd.ntmps9
  go_wp2_with fail
  refine (sanity_any w HK1.out).mono ?_
  rintro e w1 ⟨rfl, hb1⟩
  have HB1 := hid hb1
  clear hb1
  by_cases h0 : (400 : Int) < a0.size
  · go_wp2_with fail
    go_ret
    exact ⟨rfl, HB1.out⟩
  · by_cases h1 : (400 : Int) < a1.size
    · go_wp2_with fail
      go_ret
      exact ⟨rfl, HB1.out⟩
    · go_wp2_with fail
      refine (Equal_any a0 a1 w1 (by omega)).mono ?_
      rintro e w2 ⟨rfl, hb2⟩
      have HB2 := hid (further HB1.out hb2)
      clear hb2
      go_wp2_with fail
      refine (Equal_any a1 a0 w2 (by omega)).mono ?_
      rintro e w3 ⟨rfl, hb3⟩
      have HB3 := hid (further HB2.out hb3)
      clear hb3
      have hadd : a0 ++ (⟨#[]⟩ : ByteArray) = a0 := by
        apply ByteArray.ext
        simp
      go_wp2_with fail
      refine (Equal_any a0 a0 w3 (by omega)).mono ?_
      rintro e w4 ⟨rfl, hb4⟩
      have HB4 := hid (further HB3.out hb4)
      clear hb4
      by_cases e : a0 = a1
      · subst e
        simp only [decide_true]
        go_wp2_with fail
        go_ret
        exact ⟨rfl, HB4.out⟩
      · have e' : ¬ a1 = a0 := fun h => e h.symm
        have eb : (a0.toList == a1.toList) = false := by
          rw [ByteArray.toList_eq, ByteArray.toList_eq, beq_eq_false_iff_ne]
          exact fun h => e (ByteArray.ext (Array.toList_inj.1 h))
        simp only [e, e', decide_true, decide_false]
        go_wp2_with fail
        go_ret
        exact ⟨rfl, HB4.out⟩

end Go.Proofs.YtihljbephlpgcaaDoor
