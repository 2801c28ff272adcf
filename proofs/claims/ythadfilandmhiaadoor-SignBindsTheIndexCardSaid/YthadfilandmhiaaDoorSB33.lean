/-
  Contracts of gantry/gantryref02: Mac.
-/
import Derived.Test.YthadfilandmhiaaDoorSB32
import Derived.Lib.AppendStr
set_option linter.unusedVariables false
set_option linter.unusedSimpArgs false
set_option linter.unusedSectionVars false
namespace Go.Proofs.YthadfilandmhiaaDoor
open Go.RowKit
open Go.Lib (hid)
open S
theorem below_own2 {w w1 w2 : World} {B : Nat} {E : TypeId} {v : Value} {size n : Nat} {xs : List Value} (h1 : Below w.heap.size w w1) (hB : w.heap.size ≤ B) (ho : w1.ownsRow B E size v n xs) (hg : w1.grownBy w2 v.ownBlock) : Below w.heap.size w w2 :=
  h1.grown hg h1.size (fun k hk => Nat.le_trans hB (ho.lt k hk).1)
theorem own_kept {w w' : World} {B : Nat} {E : TypeId} {v : Value} {size n : Nat} {xs : List Value} (ho : w.ownsRow B E size v n xs) (hb : Below w.heap.size w w') : w'.ownsRow B E size v n xs := by
  obtain ⟨h1, h2⟩ := ho
  refine ⟨h1, ?_⟩
  rcases h2 with h | ⟨g, cap, cur, e1, e2, e3, e4⟩
  · exact .inl h
  · exact .inr ⟨g, cap, cur, e1, e2, stays hb e3, e4⟩
theorem strCells_bc (s : ByteArray) : Lib.strCells s = bc (tx s) := by simp [Lib.strCells, bc, tx]
theorem bc_app (a b : List Nat) : bc (a ++ b) = bc a ++ bc b := by simp [bc]

set_option maxRecDepth 100000 in
set_option maxHeartbeats 1600000 in
theorem refMac_any (key text : ByteArray) (w : World) (hk : key.size ≤ 1000000) (ht : text.size ≤ 900000) (hC : KC w) :
    Calls Tryd.prog 51 #[.string key, .string text] w fun e w' => e = .returned (.string (strN (macN (tx key) (tx text)))) ∧ Below w.heap.size w w' := by
  obtain ⟨i0, hi, hz0, hz1, hz2⟩ := info_parts Tryd.info_u8
  have HC := hid hC
  clear hC
  go_enter Tryd.func51, Tryd.ntmps51
  go_wp2_with fail
  refine (padKey_any key 54 w hk (by decide) HC.out).mono ?_
  rintro e w1 ⟨v1, rfl, hown1, hb1⟩
  obtain ⟨K, hK⟩ : ∃ K, K = shortN (tx key) := ⟨_, rfl⟩
  rw [← hK] at hown1
  have HK := hid hK
  have HKb := hid (show Bn K by rw [hK]; exact shortN_bn (tx_bn key))
  have HB1 := hid hb1
  have HO1 := hid hown1
  clear hK hb1 hown1
  go_wp2_with (at_builtin; go_must (refine Lib.wpList_append_own_string _ rfl (.tmp 9) (.tmp 10) 51 9 rfl w.heap.size 5 i0 Tryd.under_bs Tryd.under_str hi hz0 hz1 hz2 _ 64 (bc (kmask 54 K)) rfl HO1.out text rfl ?p1 ?p2 ?p3 ?_))
  case p1 => unfold maxLen; omega
  case p2 => omega
  case p3 => exact HB1.out.size
  intro v2 w2 hown2 hgrow2 _
  have HB2 := hid (below_owned HB1.out HO1.out hgrow2)
  rw [strCells_bc, ← bc_app] at hown2
  obtain ⟨g2, c2, rfl, _, _, _, hlie2, hlen2⟩ := lie_of_own hown2 (by omega)
  have HL2 := hid hlie2
  have HN2 := hid hlen2
  clear hown2 hgrow2 HO1 HB1 hlie2 hlen2
  go_wp2_with fail
  refine (padKey_any key 92 w2 hk (by decide) (HC.out.below HB2.out)).mono ?_
  rintro e w3 ⟨v3, rfl, hown3, hb3⟩
  rw [← HK.out] at hown3
  have HO3 := hid hown3
  have HB3 := hid (further HB2.out hb3)
  have HL3 := hid (HL2.out.below hb3)
  have hsz2 := HB2.out.size
  have hsz3 := hb3.size
  clear hown3 hb3 HB2 HL2
  go_wp2_with fail
  have hX := refSum_any g2 0 c2 (kmask 54 K ++ tx text) w3 (by rw [HN2.out]; omega) (bn_app (kmask_bn HKb.out (by decide)) (tx_bn text)) HL3.out (HC.out.below HB3.out)
  rw [HN2.out] at hX
  refine hX.mono ?_
  clear hX
  rintro e w4 ⟨rfl, hb4⟩
  have HO4 := hid (own_kept HO3.out hb4)
  have HB4 := hid (further HB3.out hb4)
  have hsz4 := hb4.size
  clear hb4 HO3 HB3 HL3
  obtain ⟨S1, hS1⟩ : ∃ S1, S1 = sha (kmask 54 K ++ tx text) := ⟨_, rfl⟩
  have HS1 := hid hS1
  have hS1l : S1.length = 32 := by rw [hS1]; exact sha_length _
  have hS1b : Bn S1 := by rw [hS1]; exact sha_bn _
  rw [← hS1]
  clear hS1
  go_wp2_with fail
  refine (Bytes32_any S1 hS1l w4).mono ?_
  rintro e w5 ⟨rfl, hb5⟩
  have HO5 := hid (own_kept HO4.out hb5)
  have HB5 := hid (further HB4.out hb5)
  have hsz5 := hb5.size
  clear hb5 HO4 HB4
  go_wp2_with (at_builtin; go_must (refine Lib.wpList_append_own_string _ rfl (.tmp 14) (.tmp 17) 51 9 rfl w2.heap.size 5 i0 Tryd.under_bs Tryd.under_str hi hz0 hz1 hz2 _ 64 (bc (kmask 92 K)) rfl HO5.out (strN S1) rfl ?q1 ?q2 ?q3 ?_))
  case q1 => rw [strN_size, hS1l]; unfold maxLen; omega
  case q2 => rw [strN_size, hS1l]; omega
  case q3 => omega
  intro v6 w6 hown6 hgrow6 _
  have HB6 := hid (below_own2 HB5.out hsz2 HO5.out hgrow6)
  rw [strCells_bc, tx_strN _ hS1b, ← bc_app, strN_size, hS1l] at hown6
  obtain ⟨g6, c6, rfl, _, _, _, hlie6, hlen6⟩ := lie_of_own hown6 (by omega)
  have HL6 := hid hlie6
  have HN6 := hid hlen6
  clear hown6 hgrow6 HO5 HB5 hlie6 hlen6
  go_wp2_with fail
  have hX := refSum_any g6 0 c6 (kmask 92 K ++ S1) w6 (by rw [HN6.out]; omega) (bn_app (kmask_bn HKb.out (by decide)) hS1b) HL6.out (HC.out.below HB6.out)
  rw [HN6.out] at hX
  refine hX.mono ?_
  clear hX
  rintro e w7 ⟨rfl, hb7⟩
  have HB7 := hid (further HB6.out hb7)
  clear hb7 HB6 HL6
  obtain ⟨S2, hS2⟩ : ∃ S2, S2 = sha (kmask 92 K ++ S1) := ⟨_, rfl⟩
  have HS2 := hid hS2
  have hS2l : S2.length = 32 := by rw [hS2]; exact sha_length _
  rw [← hS2]
  clear hS2
  go_wp2_with fail
  refine (Bytes32_any S2 hS2l w7).mono ?_
  rintro e w8 ⟨rfl, hb8⟩
  have HB8 := hid (further HB7.out hb8)
  clear hb8
  go_wp2_with fail
  go_ret
  refine ⟨?_, HB8.out⟩
  rw [macN, ← HK.out, outN, innN, ← HS1.out, ← HS2.out]
  rfl
end Go.Proofs.YthadfilandmhiaaDoor
