/-
  Contracts of gantry/gantryref02: padded.
-/
import Derived.Test.YtihljbephlpgcaaDoorHashRB
import Derived.Test.YtihljbephlpgcaaDoorHashH
namespace Go.Proofs.YtihljbephlpgcaaDoor
open Go.RowKit
open Go.Lib (hid)
open S

theorem own_empty (w : World) : (w.alloc (.cells #[] 5)).ownsRow w.heap.size 5 1 (.slice (some ⟨w.heap.size, 0, none⟩) 0 0) 0 [] :=
  ⟨rfl, .inr ⟨w.heap.size, 0, #[], rfl, Nat.le_refl _, heap_alloc_new w _, Nat.le_refl _, by unfold maxLen; omega, rfl, rfl⟩⟩
/-- Bytes that lie in memory. -/
def Lie (w : World) (bk off : Nat) (m : List Nat) : Prop := bk < w.heap.size ∧ ∀ i, i < m.length → w.cell? ⟨bk, off + i, none⟩ = some (.int .u8 (m.getD i 0 : Nat))
theorem Lie.below {w w' : World} {bk off : Nat} {m : List Nat} (h : Lie w bk off m) (hb : Below w.heap.size w w') : Lie w' bk off m :=
  ⟨Nat.lt_of_lt_of_le h.1 hb.size, fun i hi => (hb.cell (p := ⟨bk, off + i, none⟩) h.1).trans (h.2 i hi)⟩
theorem Lie.news {w : World} {bk off : Nat} {m : List Nat} (h : Lie w bk off m) : ∀ j u, (bc m)[j]? = some u → w.cell? ((⟨bk, off, none⟩ : Addr).add j) = some u := by
  intro j u hj
  have hlt : j < m.length := by
    have := (List.getElem?_eq_some_iff.1 hj).1
    simpa [bc] using this
  have := h.2 j hlt
  rw [Addr.add_lit, this]
  simp only [bc, List.getElem?_map, List.getElem?_eq_getElem hlt, Option.map_some, Option.some.injEq] at hj
  rw [← hj]
  simp [List.getD_eq_getElem?_getD, hlt]

set_option maxRecDepth 100000 in
set_option maxHeartbeats 3200000 in
theorem padded_any (bk off cap : Nat) (m : List Nat) (w : World) (hm : m.length ≤ 1000000) (hL : Lie w bk off m) :
    Calls Tryd.prog 27 #[.slice (some ⟨bk, off, none⟩) m.length cap] w fun e w' => ∃ v, e = .returned v ∧ w'.ownsRow w.heap.size 5 1 v (m ++ pad m.length).length (bc (m ++ pad m.length)) ∧ Below w.heap.size w w' := by
  obtain ⟨i0, hi, hz0, hz1, hz2⟩ := info_parts Tryd.info_u8
  obtain ⟨n, hn⟩ : ∃ n, n = m.length := ⟨_, rfl⟩
  have HN := hid hn
  have HLi := hid hL
  rw [← hn] at hm ⊢
  obtain ⟨z, hz⟩ : ∃ z, z = (119 - n % 64) % 64 := ⟨_, rfl⟩
  have HZ := hid hz
  have HZ1 := hid (show ∀ j, j < z → (n + 1 + j) % 64 ≠ 56 by intro j hj; omega)
  have HZ2 := hid (show (n + 1 + z) % 64 = 56 by omega)
  have HZ3 := hid (show z < 64 by omega)
  clear hz hL hn
  go_enter Tryd.func27, Tryd.ntmps27
  go_wp2_with (at_builtin; go_must (refine wpList_append_own _ rfl (.tmp 6) (.tmp 7) 22 rfl w.heap.size 5 i0 (.int .u8 0) 1 1 Tryd.under_bs hi hz0 hz1 hz2 rfl (by decide) _ 0 [] rfl (own_empty w) ⟨bk, off, none⟩ n cap (bc m) rfl ?c1 ?c2 ?c3 ?c4 ?c5 ?c6 ?_))
  case c1 => simp [bc, HN.out]
  case c2 => exact (HLi.out.below ((Below.refl _ _).alloc (Nat.le_refl _) _)).news
  case c3 => exact bc_one _
  case c4 => unfold maxLen; omega
  case c5 => omega
  case c6 => simp
  intro v1 w1 hown1 hgrow1 _
  have HB1 := hid (below_owned ((Below.refl w.heap.size w).alloc (Nat.le_refl _) _) (own_empty w) hgrow1)
  have HO1 := hid (show w1.ownsRow w.heap.size 5 1 v1 n (bc m) by simpa using hown1)
  clear hown1 hgrow1
  go_wp2_with (at_builtin; go_must (refine wpList_append_own _ rfl (.tmp 9) (.tmp 10) 22 rfl w.heap.size 5 i0 (.int .u8 0) 1 1 Tryd.under_bs hi hz0 hz1 hz2 rfl (by decide) _ n (bc m) rfl (HO1.out.alloc _) ⟨w1.heap.size, 0, none⟩ 1 1 [.int .u8 128] rfl rfl ?c1 ?c2 ?c3 ?c4 ?c5 ?_))
  case c1 => exact cell_new1 _ _ _
  case c2 => intro v hv; rw [List.mem_singleton.1 hv]; rfl
  case c3 => unfold maxLen; omega
  case c4 => omega
  case c5 => have := HB1.out.size; simp; omega
  intro v2 w2 hown2 hgrow2 _
  have HB2 := hid (below_owned (HB1.out.alloc HB1.out.size _) (HO1.out.alloc _) hgrow2)
  have HP := hid (show w2.ownsRow w.heap.size 5 1 v2 (n + 1 + 0) (bc (m ++ 128 :: List.replicate 0 0)) by simpa [bc] using hown2)
  clear hown2 hgrow2
  go_wp2
  go_loopw [3] (fun v wr => ∃ j : Nat, j ≤ z ∧ wr.ownsRow w.heap.size 5 1 v (n + 1 + j) (bc (m ++ 128 :: List.replicate j 0)) ∧ Below w.heap.size w wr) (fun v _ => n + 65 - (match v with | .slice _ l _ => l | _ => 0))
  case atStart => exact ⟨0, by omega, HP.out, HB2.out⟩
  case round =>
    clear HP HB2 HO1 HB1
    obtain ⟨j, hj, hown, hbel⟩ := hrel
    obtain ⟨len, hlen⟩ : ∃ len, len = n + 1 + j := ⟨_, rfl⟩
    rw [← hlen] at hown
    have HLen := hid hlen
    have hl1 : len ≤ n + 1 + j := by omega
    have hl2 : n + 1 + j ≤ len := by omega
    clear hlen
    obtain ⟨g, c, rfl, hc1, hc2⟩ := owned_slice hown (by omega)
    unfold maxLen at hc2
    have HO := hid hown
    have HB := hid hbel
    have hz64 := HZ3.out
    clear hown hbel
    by_cases hjz : j < z
    · have hne : ((len : Int) % 64 != 56) = true := by
        have := HZ1.out j hjz
        simp; omega
      go_wp2_with (at_builtin; go_must (refine wpList_append_own _ rfl (.tmp 16) (.tmp 17) 22 rfl w.heap.size 5 i0 (.int .u8 0) 1 1 Tryd.under_bs hi hz0 hz1 hz2 rfl (by decide) _ len (bc (m ++ 128 :: List.replicate j 0)) rfl (HO.out.alloc _) ⟨wr.heap.size, 0, none⟩ 1 1 [.int .u8 0] rfl rfl ?c1 ?c2 ?c3 ?c4 ?c5 ?_))
      case c1 => exact cell_new1 _ _ _
      case c2 => intro v hv; rw [List.mem_singleton.1 hv]; rfl
      case c3 => unfold maxLen; omega
      case c4 => omega
      case c5 => have := HB.out.size; simp; omega
      intro v' w1 hown' hgrow _
      have HO2 := hid hown'
      have HB2 := hid (below_owned (HB.out.alloc HB.out.size _) (HO.out.alloc _) hgrow)
      clear hown' hgrow
      obtain ⟨g2, c2, rfl, _⟩ := owned_slice HO2.out (by omega)
      go_wp2
      go_roundw
      case rel =>
        refine ⟨j + 1, by omega, ?_, HB2.out⟩
        have h := HO2.out
        have e : bc (m ++ 128 :: List.replicate j 0) ++ [Value.int .u8 0] = bc (m ++ 128 :: List.replicate (j + 1) 0) := by
          simp [bc, List.replicate_succ']
        rw [e] at h
        rw [show n + 1 + (j + 1) = len + 1 by omega]
        exact h
      case measure => simp; omega
    · obtain rfl : j = z := by omega
      have hne : ((len : Int) % 64 != 56) = false := by
        have := HZ2.out
        simp; omega
      have HNe := hid hne
      clear hne
      have hne := HNe.out
      obtain ⟨N, hNN⟩ : ∃ N : Nat, N = 8 * n := ⟨_, rfl⟩
      have hN2 : 8 * (n : Int) = (N : Int) := by omega
      have hN3 : N ≤ 9223372036854775808 := by omega
      have HNN := hid hNN
      clear hNN
      go_wp2
      go_loopw [3, 5] (fun v i wr' => ∃ k : Nat, k ≤ 8 ∧ i = .int .i64 k ∧ wr'.ownsRow w.heap.size 5 1 v (len + k) (bc (m ++ 128 :: List.replicate j 0 ++ (bytes8 N).take k)) ∧ Below w.heap.size w wr') (fun _ i _ => 8 - (intOf i).toNat)
      case atStart => exact ⟨0, by omega, rfl, by simpa using HO.out, HB.out⟩
      case round =>
        obtain ⟨k, hk, rfl, hown2, hbel2⟩ := hrel
        obtain ⟨len2, hlen2⟩ : ∃ len2, len2 = len + k := ⟨_, rfl⟩
        rw [← hlen2] at hown2
        have HLen2 := hid hlen2
        have hm1 : len2 ≤ len + k := by omega
        have hm2 : len + k ≤ len2 := by omega
        clear hlen2
        obtain ⟨g2, c2, rfl, hc3, hc4⟩ := owned_slice hown2 (by omega)
        unfold maxLen at hc4
        have HO2 := hid hown2
        have HB2 := hid hbel2
        clear hown2 hbel2 hne HO HB
        by_cases hk8 : k < 8
        · obtain ⟨sh, hsh⟩ : ∃ sh : Nat, sh = 56 - 8 * k := ⟨_, rfl⟩
          have hs0 : IntKind.i64.wrap (8 * (k : Int)) = 8 * (k : Int) := IntWalk.i64_in _ (by omega)
          have hs1 : IntKind.i64.wrap (56 - 8 * (k : Int)) = (sh : Int) := by rw [IntWalk.i64_in _ (by omega)]; omega
          have hs2 : 56 - 8 * (k : Int) = (sh : Int) := by omega
          have hsh2 : sh ≤ 56 := by omega
          have hq : (N : Int) / 2 ^ sh = ((N / 2 ^ sh : Nat) : Int) := by rw [Int.natCast_ediv, Int.natCast_pow]; rfl
          obtain ⟨q, hqq⟩ : ∃ q, q = N / 2 ^ sh := ⟨_, rfl⟩
          rw [← hqq] at hq
          have HQ := hid hqq
          have HSh := hid hsh
          clear hqq hsh
          go_wp2_with (at_builtin; go_must (refine wpList_append_own _ rfl (.tmp 27) (.tmp 34) 22 rfl w.heap.size 5 i0 (.int .u8 0) 1 1 Tryd.under_bs hi hz0 hz1 hz2 rfl (by decide) _ len2 (bc (m ++ 128 :: List.replicate j 0 ++ (bytes8 N).take k)) rfl (HO2.out.alloc _) ⟨wr.heap.size, 0, none⟩ 1 1 [.int .u8 ((q : Int) % 256)] rfl rfl ?c1 ?c2 ?c3 ?c4 ?c5 ?_))
          case c1 => exact cell_new1 _ _ _
          case c2 => intro v hv; rw [List.mem_singleton.1 hv]; rfl
          case c3 => unfold maxLen; omega
          case c4 => omega
          case c5 => have := HB2.out.size; simp; omega
          intro v' w1 hown' hgrow _
          have HO3 := hid hown'
          have HB3 := hid (below_owned (HB2.out.alloc HB2.out.size _) (HO2.out.alloc _) hgrow)
          clear hown' hgrow
          obtain ⟨g3, c3, rfl, _⟩ := owned_slice HO3.out (by omega)
          go_wp2
          go_roundw
          case rel =>
            refine ⟨k + 1, by omega, by go_num, ?_, HB3.out⟩
            have h := HO3.out
            have e : bc (m ++ 128 :: (List.replicate j 0 ++ (bytes8 N).take k)) ++ [Value.int .u8 ((q : Int) % 256)] = bc (m ++ 128 :: List.replicate j 0 ++ (bytes8 N).take (k + 1)) := by
              rw [bytes8_at N k hk8, HQ.out, HSh.out]
              simp [bc]
            rw [e] at h
            rw [show len + (k + 1) = len2 + 1 by omega]
            exact h
          case measure => simp [intOf]; omega
        · obtain rfl : k = 8 := by omega
          go_wp2
          go_ret
          refine ⟨_, rfl, ?_, HB2.out⟩
          have e : m ++ 128 :: List.replicate j 0 ++ (bytes8 N).take 8 = m ++ pad n := by
            rw [HNN.out, List.take_of_length_le (by simp [bytes8]), HZ.out, List.append_assoc]
            rfl
          have h := HO2.out
          rw [e] at h
          have e2 : (m ++ pad n).length = len2 := by
            have := h.1
            simpa [bc] using this
          rw [e2]
          exact h

end Go.Proofs.YtihljbephlpgcaaDoor
