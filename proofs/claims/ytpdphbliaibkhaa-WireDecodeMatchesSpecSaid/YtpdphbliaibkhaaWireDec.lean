/-
  gantrylaw01.WireDecodeMatchesSpec answers yes.
-/
import Derived.Test.YtpdphbliaibkhaaWireW
import Derived.Test.YtpdphbliaibkhaaWireX
namespace Go.Proofs.Ytpdphbliaibkhaa
open Go.RowKit
open Go.Lib (hid)
open W

set_option maxRecDepth 100000 in
set_option maxHeartbeats 3200000 in
theorem decode_any (v : Value) (bs : List Int) (w : World) (hv : ByteView w v bs) :
    Calls Try.prog 4 #[v] w fun e w' => e = .returned (.bool true) ∧ Below w.heap.size w w' := by
  have HV := hid hv
  have hle := hv.le
  obtain ⟨_, ao, cap, rfl, hlc, hcm, _⟩ := hv
  unfold maxLen at hcm
  by_cases hbig : 2000 < bs.length
  · go_enter Try.func4, Try.ntmps4
    go_wp2_with fail
    refine (sanity_yes _).mono ?_
    rintro e w1 ⟨rfl, hb⟩
    have HB := hid hb
    clear hb
    go_wp2
    go_ret
    exact ⟨rfl, HB.out⟩
  · obtain ⟨n5, u5, e5, D5, B5, _, _⟩ := fact_digs HV.out.bytes
    obtain ⟨n1, u1, e1, D1⟩ : ∃ n u e, dec bs = (n, u, e) := ⟨_, _, _, rfl⟩
    obtain ⟨n2, u2, e2, D2⟩ : ∃ n u e, decBytes bs = (n, u, e) := ⟨_, _, _, rfl⟩
    obtain ⟨n3, u3, e3, D3⟩ : ∃ n u e, decList dec 1 bs = (n, u, e) := ⟨_, _, _, rfl⟩
    obtain ⟨n4, u4, e4, D4⟩ : ∃ n u e, decList decBytes 1 bs = (n, u, e) := ⟨_, _, _, rfl⟩
    have D1 := hid D1
    have D2 := hid D2
    have D3 := hid D3
    have D4 := hid D4
    have D5 := hid D5
    have B5 := hid B5
    go_enter Try.func4, Try.ntmps4
    go_wp2_with fail
    refine (GetInt_any _ bs _ HV.out).mono ?_
    rw [D1.out]
    rintro e w1 ⟨rfl, rfl⟩
    go_wp2_with fail
    refine (refGetInt_any _ bs _ HV.out).mono ?_
    rw [D1.out]
    rintro e w2 ⟨rfl, hb⟩
    have K := hid hb
    clear hb
    go_wp2_with fail
    refine (GetBytes_any _ bs _ (HV.out.below K.out)).mono ?_
    rw [D2.out]
    rintro e w3 ⟨rfl, rfl⟩
    go_wp2_with fail
    refine (refGetBytes_any _ bs _ (HV.out.below K.out) (by omega)).mono ?_
    rw [D2.out]
    rintro e w4 ⟨rfl, hb⟩
    have K := hid (further K.out hb)
    clear hb
    go_wp2_with fail
    refine (GetInts_any _ bs _ (HV.out.below K.out) (by omega)).mono ?_
    rw [D3.out]
    rintro e w5 h5
    obtain ⟨v5, rfl, hv5, hb⟩ := h5.view
    have V5 := hid (show View w5 v5 1 n3.length (n3.map (Value.int .i64)) by rw [← flat_single]; exact hv5)
    have K := hid (further K.out hb)
    clear h5 hv5 hb
    go_wp2_with fail
    refine (refGetInts_any _ bs _ (HV.out.below K.out) (by omega)).mono ?_
    rw [D3.out]
    rintro e w6 h6
    obtain ⟨v6, rfl, hv6, hb⟩ := h6.view
    have V6 := hid (show View w6 v6 1 n3.length (n3.map (Value.int .i64)) by rw [← flat_single]; exact hv6)
    have V5 := hid (V5.out.below hb)
    have K := hid (further K.out hb)
    clear h6 hv6 hb
    go_wp2_with fail
    refine (SameInts_yes _ _ n3.length n3 _ rfl V5.out V6.out).mono ?_
    rintro e w7 h7
    obtain ⟨rfl, hb⟩ := h7.below
    have K := hid (further K.out hb)
    clear h7 hb V5 V6
    go_wp2_with fail
    refine (GetStrings_any _ bs _ (HV.out.below K.out) (by omega)).mono ?_
    rw [D4.out]
    rintro e w8 h8
    obtain ⟨v8, rfl, hv8, hb⟩ := h8.view
    have V8 := hid (show View w8 v8 1 n4.length ((n4.map strOfNums).map Value.string) by rw [List.map_map, ← flat_single]; exact hv8)
    have K := hid (further K.out hb)
    clear h8 hv8 hb
    go_wp2_with fail
    refine (refGetStrings_any _ bs _ (HV.out.below K.out) (by omega)).mono ?_
    rw [D4.out]
    rintro e w9 h9
    obtain ⟨v9, rfl, hv9, hb⟩ := h9.view
    have V9 := hid (show View w9 v9 1 n4.length ((n4.map strOfNums).map Value.string) by rw [List.map_map, ← flat_single]; exact hv9)
    have V8 := hid (V8.out.below hb)
    have K := hid (further K.out hb)
    clear h9 hv9 hb
    go_wp2_with fail
    refine (SameTexts_yes _ _ n4.length (n4.map strOfNums) _ (by rw [List.length_map]) V8.out V9.out).mono ?_
    rintro e wa ha
    obtain ⟨rfl, hb⟩ := ha.below
    have K := hid (further K.out hb)
    clear ha hb V8 V9
    go_wp2_with fail
    refine (GetDigests_any _ bs _ (HV.out.below K.out) (by omega)).mono ?_
    rw [D5.out]
    rintro e wb hB
    obtain ⟨vb, rfl, hvb, hb⟩ := hB.view
    have VB := hid (show View wb vb 16 n5.length (digCells n5) from hvb)
    have K := hid (further K.out hb)
    clear hB hvb hb
    go_wp2_with fail
    refine (refGetDigests_any _ bs _ (HV.out.below K.out) (by omega)).mono ?_
    rw [D5.out]
    rintro e wc hC
    obtain ⟨vc, rfl, hvc, hb⟩ := hC.view
    have VC := hid (show View wc vc 16 n5.length (digCells n5) from hvc)
    have VB := hid (VB.out.below hb)
    have K := hid (further K.out hb)
    clear hC hvc hb
    go_wp2_with fail
    refine (sanity_yes _).mono ?_
    rintro e wd ⟨rfl, hb⟩
    have VB := hid (VB.out.below hb)
    have VC := hid (VC.out.below hb)
    have K := hid (further K.out hb)
    clear hb
    go_wp2_with fail
    refine (SameDigests_yes _ _ n5.length n5 _ rfl B5.out VB.out VC.out).mono ?_
    rintro e we hE
    obtain ⟨rfl, hb⟩ := hE.below
    have K := hid (further K.out hb)
    clear hE hb VB VC
    go_wp2
    go_ret
    exact ⟨rfl, K.out⟩

end Go.Proofs.Ytpdphbliaibkhaa
