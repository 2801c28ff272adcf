/-
  The walk of the law HashOfSeparates.
-/
import Derived.Test.YtihljbephlpgcaaDoorHashS1
import Derived.Test.YtihljbephlpgcaaDoorHashWT
namespace Go.Proofs.YtihljbephlpgcaaDoor
open Go.RowKit
open Go.Lib (hid)
open S

set_option maxRecDepth 100000 in
set_option maxHeartbeats 3200000 in
theorem walkSep (c d : Nat) (hc : c < 256) (hd : d < 256) (ao bo : Option Addr) (ca cb : Nat) (sa sb : List ByteArray) (w : World) (hpa : Parts w ao sa) (hpb : Parts w bo sb) (hla : sa.length ≤ 9223372036854775807) (hlb : sb.length ≤ 9223372036854775807) (HK' : KR w) :
    Calls Tryd.prog 8 #[.agg #[.int .u8 (c : Int), .int .u8 (d : Int)], .slice ao sa.length ca, .slice bo sb.length cb] w fun e w' => e = .returned (.bool true) ∧ Below w.heap.size w w' := by
  have HK := hid HK'
  have HPa := hid hpa
  have HPb := hid hpb
  have HFa := hid fun W h => Few_any ao ca sa W h hla
  have HFb := hid fun W h => Few_any bo cb sb W h hlb
  obtain ⟨na, hna⟩ : ∃ n, n = sa.length := ⟨_, rfl⟩
  obtain ⟨nb, hnb⟩ : ∃ n, n = sb.length := ⟨_, rfl⟩
  have HNa := hid hna
  have HNb := hid hnb
  rw [← hna] at HFa ⊢
  rw [← hnb] at HFb ⊢
  clear hna hnb hpa hpb HK' hla hlb
  go_enter Tryd.func8, Tryd.ntmps8
  go_wp2_with fail
  have hb0 : Below w.heap.size w (w.alloc (.cells #[.int .u8 (c : Int), .int .u8 (d : Int)] 48)) := (Below.refl _ _).alloc (Nat.le_refl _) _
  refine (sanity_any _ (HK.out.below hb0)).mono ?_
  rintro e w1 ⟨rfl, hb1⟩
  have HB1 := hid (further hb0 hb1)
  have HT1 := hid (stays hb1 (heap_alloc_new w (.cells #[.int .u8 (c : Int), .int .u8 (d : Int)] 48)))
  clear hb0 hb1
  go_wp2_with fail
  refine (HFa.out w1 (HPa.out.below HB1.out)).mono ?_
  rintro e w2 ⟨rfl, rfl⟩
  by_cases hfa : FewP sa
  · rw [decide_eq_true hfa]
    have HA := hid hfa
    clear hfa HFa
    go_wp2_with fail
    refine (HFb.out w1 (HPb.out.below HB1.out)).mono ?_
    rintro e w2 ⟨rfl, rfl⟩
    by_cases hfb : FewP sb
    · rw [decide_eq_true hfb]
      have HBf := hid hfb
      clear hfb HFb
      have hna12 : na ≤ 12 := by rw [HNa.out]; exact HA.out.1
      have hnb12 : nb ≤ 12 := by rw [HNb.out]; exact HBf.out.1
      have ct0 : w1.cell? ⟨w.heap.size, 0, none⟩ = some (.int .u8 (c : Int)) := by rw [cell_of_row _ _ _ _ _ _ HT1.out]; rfl
      have ct1 : w1.cell? ⟨w.heap.size, 1, none⟩ = some (.int .u8 (d : Int)) := by rw [cell_of_row _ _ _ _ _ _ HT1.out]; rfl
      go_upto_region 4 with fail
      go_cut [8] (fun s8 wx => s8 = .bool (decide (c = d ∧ na = nb)) ∧ wx = w1)
      case first =>
        by_cases hcd : c = d
        · by_cases hn : na = nb
          · have e1 : (c : Int) = (d : Int) := by omega
            have e2 : (na : Int) = (nb : Int) := by omega
            subst hcd hn
            go_wp2_with fail
            go_meet
            exact ⟨by simp, rfl⟩
          · have e2 : ¬ (na : Int) = (nb : Int) := by omega
            have e3 : ((na : Int) == (nb : Int)) = false := by simpa using e2
            subst hcd
            go_wp2_with fail
            go_meet
            exact ⟨by simp [hn], rfl⟩
        · have e1 : ¬ (c : Int) = (d : Int) := by omega
          have e3 : ((c : Int) == (d : Int)) = false := by simpa using e1
          go_wp2_with fail
          go_meet
          exact ⟨by simp [hcd], rfl⟩
      case rest =>
        obtain ⟨rfl, rfl⟩ := hcut
        clear ct0 ct1
        go_wp2_with fail
        go_loopw [8, 9] (fun v i wr => ∃ k m : Nat, k ≤ na ∧ i = .int .i64 k ∧ v = .bool (decide (c = d ∧ na = nb ∧ sa.take k = sb.take k)) ∧ wr = wc.drewN m) (fun _ i _ => na - (intOf i).toNat)
        case atStart => exact ⟨0, 0, by omega, rfl, by simp, rfl⟩
        case round =>
          obtain ⟨k, m, hk, rfl, rfl, rfl⟩ := hrel
          obtain ⟨q, hq⟩ : ∃ q, q = decide (c = d ∧ na = nb ∧ sa.take k = sb.take k) := ⟨_, rfl⟩
          rw [← hq]
          have HQ := hid hq
          clear hq
          go_upto_region 6 with fail
          go_cut [46] (fun s wx => s = .bool (decide (k < na) && q) ∧ wx = wc.drewN m)
          case first =>
            by_cases hlt : k < na
            · have hlt' : (k : Int) < (na : Int) := by omega
              go_wp2_with fail
              go_meet
              exact ⟨by simp [hlt], rfl⟩
            · have hlt' : ¬ (k : Int) < (na : Int) := by omega
              go_wp2_with fail
              go_meet
              exact ⟨by simp [hlt], rfl⟩
          case rest =>
            obtain ⟨rfl, rfl⟩ := hcut
            by_cases hcond : (decide (k < na) && q) = true
            · rw [hcond]
              rw [Bool.and_eq_true, decide_eq_true_eq] at hcond
              obtain ⟨hlt, hqt⟩ := hcond
              have hall := of_decide_eq_true (HQ.out.symm.trans hqt)
              obtain ⟨hcd, hnn, htk⟩ := hall
              have hka : k < sa.length := by rw [← HNa.out]; exact hlt
              have hkb : k < sb.length := by rw [← HNb.out]; omega
              obtain ⟨ba, offa, rfl, hca⟩ := part_at (HPa.out.below HB1.out) hka
              obtain ⟨bb, offb, rfl, hcb⟩ := part_at (HPb.out.below HB1.out) hkb
              have hstep := hid (show (sa[k] = sb[k]) ↔ (c = d ∧ na = nb ∧ sa.take (k + 1) = sb.take (k + 1)) by
                rw [List.take_succ_eq_append_getElem hka, List.take_succ_eq_append_getElem hkb]
                constructor
                · intro h
                  exact ⟨hcd, hnn, by rw [htk, h]⟩
                · intro h
                  have h3 := h.2.2
                  rw [htk] at h3
                  exact (List.cons.inj (List.append_cancel_left h3)).1)
              obtain ⟨x, hx⟩ : ∃ x, x = sa[k] := ⟨_, rfl⟩
              obtain ⟨y, hy⟩ : ∃ y, y = sb[k] := ⟨_, rfl⟩
              rw [← hx] at hca hstep
              rw [← hy] at hcb hstep
              have heq : (x.toList == y.toList) = decide (x = y) := by
                by_cases e : x = y
                · rw [e]; simp
                · rw [decide_eq_false e, ByteArray.toList_eq, ByteArray.toList_eq, beq_eq_false_iff_ne]
                  exact fun h => e (ByteArray.ext (Array.toList_inj.1 h))
              have hlt' : (k : Int) < (na : Int) := by omega
              have hltb : (k : Int) < (nb : Int) := by omega
              have hltn : k < nb := by omega
              clear hx hy hka hkb htk
              go_wp2_with fail
              go_quiet (fail)
              go_wp2_with fail
              go_roundw
              case rel =>
                refine ⟨k + 1, _, by omega, by go_num, ?_, rfl⟩
                exact congrArg Value.bool (decide_eq_decide.2 hstep.out)
              case measure => simp [intOf]; omega
            · rw [Bool.not_eq_true] at hcond
              have hqS : q = decide (c = d ∧ sa = sb) := by
                by_cases hlt : k < na
                · have hqf : q = false := by simpa [hlt] using hcond
                  rw [hqf]
                  refine (decide_eq_false fun h => ?_).symm
                  have := HQ.out
                  rw [hqf, h.2] at this
                  have h2 := of_decide_eq_false this.symm
                  exact h2 ⟨h.1, by rw [HNa.out, HNb.out, h.2], rfl⟩
                · have hkn : k = na := by omega
                  rw [HQ.out]
                  refine decide_eq_decide.2 ⟨fun h => ⟨h.1, ?_⟩, fun h => ⟨h.1, by rw [HNa.out, HNb.out, h.2], by rw [h.2]⟩⟩
                  have h3 := h.2.2
                  rwa [List.take_of_length_le (by rw [← HNa.out]; omega), List.take_of_length_le (by rw [← HNb.out, ← h.2.1]; omega)] at h3
              rw [hcond]
              have HQS := hid hqS
              have HB2 := hid (below_drewN HB1.out m)
              have HT2 := hid (show (wc.drewN m).heap[w.heap.size]? = some (.cells #[.int .u8 (c : Int), .int .u8 (d : Int)] 48 (0, 0)) from HT1.out)
              obtain ⟨w2, hw2⟩ : ∃ w2, w2 = wc.drewN m := ⟨_, rfl⟩
              rw [← hw2] at HB2 HT2
              rw [← hw2]
              clear hw2 hqS HQ hcond HB1 HT1
              have ct0 : w2.cell? ⟨w.heap.size, 0, none⟩ = some (.int .u8 (c : Int)) := by rw [cell_of_row _ _ _ _ _ _ HT2.out]; rfl
              go_wp2_with fail
              have hX := Input_any (c : Int) ao ca sa w2 (HPa.out.below HB2.out) HA.out
              rw [← HNa.out] at hX
              refine hX.mono ?_
              clear hX ct0
              rintro e w3 ⟨vx, rfl, hownx, hb3⟩
              have HB3 := hid (further HB2.out hb3)
              have HT3 := hid (stays hb3 HT2.out)
              obtain ⟨X, hX⟩ : ∃ X, X = ofIn (c : Int) sa := ⟨_, rfl⟩
              rw [← hX] at hownx
              have hXp : 0 < X.length := by rw [hX]; simp [ofIn]
              have HTx := hid (owned_text hownx rfl hXp)
              obtain ⟨gx, cx, rfl, _, _, _, _, _⟩ := lie_of_own hownx hXp
              have ct1 : w3.cell? ⟨w.heap.size, 1, none⟩ = some (.int .u8 (d : Int)) := by rw [cell_of_row _ _ _ _ _ _ HT3.out]; rfl
              have HX := hid hX
              obtain ⟨lx, hlx⟩ : ∃ lx, lx = X.length := ⟨_, rfl⟩
              rw [← hlx] at HTx hXp
              rw [← hlx]
              have HLx := hid hlx
              clear hb3 hownx hX hlx HB2 HT2
              go_wp2_with fail
              have hX := Input_any (d : Int) bo cb sb w3 (HPb.out.below HB3.out) HBf.out
              rw [← HNb.out] at hX
              refine hX.mono ?_
              clear hX ct1
              rintro e w4 ⟨vy, rfl, howny, hb4⟩
              have HB4 := hid (further HB3.out hb4)
              have HT4 := hid (stays hb4 HT3.out)
              have HTx4 := hid (HTx.out.keep hb4)
              obtain ⟨Y, hY⟩ : ∃ Y, Y = ofIn (d : Int) sb := ⟨_, rfl⟩
              rw [← hY] at howny
              have hYp : 0 < Y.length := by rw [hY]; simp [ofIn]
              have HTy4 := hid (owned_text howny rfl hYp)
              obtain ⟨gy, cy, rfl, _, _, _, _, _⟩ := lie_of_own howny hYp
              have HY := hid hY
              obtain ⟨ly, hly⟩ : ∃ ly, ly = Y.length := ⟨_, rfl⟩
              rw [← hly] at HTy4 hYp
              rw [← hly]
              have HLy := hid hly
              clear hb4 howny hY hly HB3 HT3 HTx
              by_cases hS : c = d ∧ sa = sb
              · have hqt : q = true := by rw [HQS.out]; exact decide_eq_true hS
                have hxy : Y = X := by rw [HX.out, HY.out, hS.1, hS.2]
                have hcx := HTx4.out w4 (Below.refl _ _)
                have hcy := HTy4.out w4 (Below.refl _ _)
                rw [hxy] at hcy
                obtain ⟨sx, hsx⟩ : ∃ sx, sx = strN X := ⟨_, rfl⟩
                rw [← hsx] at hcx hcy
                have hss : (sx.toList == sx.toList) = true := beq_self_eq_true _
                clear hsx hxy
                subst hqt
                go_wp2_with fail
                go_ret
                exact ⟨rfl, HB4.out⟩
              · have hqf : q = false := by rw [HQS.out]; exact decide_eq_false hS
                subst hqf
                have hXY : X ≠ Y := fun h => by
                  rw [HX.out, HY.out] at h
                  exact hS (ofIn_inj hc hd HA.out.2 HBf.out.2 h)
                have HXY := hid hXY
                have HXb := hid (show Bn X by rw [HX.out]; exact ofIn_bn _ _)
                have HYb := hid (show Bn Y by rw [HY.out]; exact ofIn_bn _ _)
                have HXl := hid (show X.length ≤ 20000 by
                  have h1 := ofIn_le (c : Int) sa (fun s hs => Nat.le_trans (HA.out.2 s hs) (by decide))
                  have h2 := HA.out.1
                  rw [HX.out]; omega)
                have HYl := hid (show Y.length ≤ 20000 by
                  have h1 := ofIn_le (d : Int) sb (fun s hs => Nat.le_trans (HBf.out.2 s hs) (by decide))
                  have h2 := HBf.out.1
                  rw [HY.out]; omega)
                have ct0 : w4.cell? ⟨w.heap.size, 0, none⟩ = some (.int .u8 (c : Int)) := by rw [cell_of_row _ _ _ _ _ _ HT4.out]; rfl
                clear hS hXY
                obtain ⟨D1, hD1⟩ : ∃ D1, D1 = bytesV (ofN (c : Int) sa) := ⟨_, rfl⟩
                obtain ⟨D2, hD2⟩ : ∃ D2, D2 = bytesV (ofN (d : Int) sb) := ⟨_, rfl⟩
                obtain ⟨G1, hG1⟩ : ∃ G1, G1 = bytesV (sha X) := ⟨_, rfl⟩
                obtain ⟨G2, hG2⟩ : ∃ G2, G2 = bytesV (sha Y) := ⟨_, rfl⟩
                obtain ⟨r, hr⟩ : ∃ r, r = decide (ofN (c : Int) sa = ofN (d : Int) sb) := ⟨_, rfl⟩
                have HD1 := hid hD1
                have HD2 := hid hD2
                have HG1 := hid hG1
                have HG2 := hid hG2
                have HDs := hid (show D1.size = 16 by rw [hD1, bytesV_size, ofN_length])
                have HDs1 := hid (show D1.all (·.oneCell') = true by rw [hD1]; exact bytesV_one _)
                have HEs := hid (show D2.size = 16 by rw [hD2, bytesV_size, ofN_length])
                have HEs1 := hid (show D2.all (·.oneCell') = true by rw [hD2]; exact bytesV_one _)
                have HGs := hid (show G1.size = 32 by rw [hG1, bytesV_size]; exact sha_length _)
                have HGs1 := hid (show G1.all (·.oneCell') = true by rw [hG1]; exact bytesV_one _)
                have HHs := hid (show G2.size = 32 by rw [hG2, bytesV_size]; exact sha_length _)
                have HHs1 := hid (show G2.all (·.oneCell') = true by rw [hG2]; exact bytesV_one _)
                have HR := hid (show ∀ W, (Op.equalIn 10000 44 (.agg D1) (.agg D2)).run Tryd.prog W = .ok r W by
                  rw [hD1, hD2, hr]
                  exact fun W => eqlD2 _ _ (ofN_length _ _) (ofN_length _ _) W)
                have HRr := hid (show r = decide ((sha X).take 16 = (sha Y).take 16) by rw [hr, HX.out, HY.out]; rfl)
                clear hD1 hD2 hG1 hG2 hr
                go_wp2_with fail
                clear ct0
                have hX := Of_any (c : Int) ao ca sa w4 (HPa.out.below HB4.out) (Nat.le_trans HA.out.1 (by decide)) (fun s hs => Nat.le_trans (HA.out.2 s hs) (by decide)) (HK.out.below HB4.out)
                rw [← HNa.out, ← HD1.out] at hX
                refine hX.mono ?_
                clear hX
                rintro e w5 ⟨rfl, hb⟩
                go_wp2_with (with_reducible refine wpList_store_at rfl 44 (.tmp 12) (.tmp 81) rfl w5.heap.size 0 D1 rfl rfl _ 44 (heap_alloc_new w5 _) ?s1 ?s2 ?s3 ?_)
                case s1 => rw [HDs.out]; exact Tryd.size_d16
                case s2 => rw [HDs.out]; exact Nat.le_refl _
                case s3 => exact HDs1.out
                intro w6 F1 F2 F3 F4
                have hbw := below_same ((Below.refl w5.heap.size w5).alloc (Nat.le_refl _) (.cells (Array.replicate 16 (.int .u8 0)) 44)) (Nat.le_refl _) F2.out (F3.out.trans (by simp)) F4.out
                have hbt := further hb hbw
                have HP6 := hid (show w6.heap[w5.heap.size]? = some (.cells D1 44 (0, 0)) by rw [F1.out, splice_all64 (by show 16 = D1.toList.length; rw [Array.length_toList, HDs.out])])
                have HB6 := hid (further HB4.out hbt)
                have HT6 := hid (stays hbt HT4.out)
                have HTx6 := hid (HTx4.out.keep hbt)
                have HTy6 := hid (HTy4.out.keep hbt)
                have ct1 : w6.cell? ⟨w.heap.size, 1, none⟩ = some (.int .u8 (d : Int)) := by rw [cell_of_row _ _ _ _ _ _ HT6.out]; rfl
                clear hb hbw hbt F1 F2 F3 F4 HB4 HT4 HTx4 HTy4
                go_wp2_with fail
                clear ct1
                have hX := Of_any (d : Int) bo cb sb w6 (HPb.out.below HB6.out) (Nat.le_trans HBf.out.1 (by decide)) (fun s hs => Nat.le_trans (HBf.out.2 s hs) (by decide)) (HK.out.below HB6.out)
                rw [← HNb.out, ← HD2.out] at hX
                refine hX.mono ?_
                clear hX
                rintro e w7 ⟨rfl, hb⟩
                go_wp2_with (with_reducible refine wpList_store_at rfl 44 (.tmp 13) (.tmp 86) rfl w7.heap.size 0 D2 rfl rfl _ 44 (heap_alloc_new w7 _) ?s1 ?s2 ?s3 ?_)
                case s1 => rw [HEs.out]; exact Tryd.size_d16
                case s2 => rw [HEs.out]; exact Nat.le_refl _
                case s3 => exact HEs1.out
                intro w8 F1 F2 F3 F4
                have hbw := below_same ((Below.refl w7.heap.size w7).alloc (Nat.le_refl _) (.cells (Array.replicate 16 (.int .u8 0)) 44)) (Nat.le_refl _) F2.out (F3.out.trans (by simp)) F4.out
                have hbt := further hb hbw
                have HQ8 := hid (show w8.heap[w7.heap.size]? = some (.cells D2 44 (0, 0)) by rw [F1.out, splice_all64 (by show 16 = D2.toList.length; rw [Array.length_toList, HEs.out])])
                have HB8 := hid (further HB6.out hbt)
                have HP8 := hid (stays hbt HP6.out)
                have HTx8 := hid (HTx6.out.keep hbt)
                have HTy8 := hid (HTy6.out.keep hbt)
                clear hb hbw hbt F1 F2 F3 F4 HB6 HT6 HTx6 HTy6 HP6
                go_wp2_with fail
                have hX := Sum_any X (.slice (some ⟨gx, 0, none⟩) lx cx) w8 HXb.out (by have := HXl.out; omega) HTx8.out (HK.out.below HB8.out)
                rw [← HG1.out] at hX
                refine hX.mono ?_
                clear hX
                rintro e w9 ⟨rfl, hb⟩
                go_wp2_with (with_reducible refine wpList_store_at rfl 24 (.tmp 14) (.tmp 88) rfl w9.heap.size 0 G1 rfl rfl _ 24 (heap_alloc_new w9 _) ?s1 ?s2 ?s3 ?_)
                case s1 => rw [HGs.out]; exact Tryd.size_h32
                case s2 => rw [HGs.out]; exact Nat.le_refl _
                case s3 => exact HGs1.out
                intro w10 F1 F2 F3 F4
                have hbw := below_same ((Below.refl w9.heap.size w9).alloc (Nat.le_refl _) (.cells (Array.replicate 32 (.int .u8 0)) 24)) (Nat.le_refl _) F2.out (F3.out.trans (by simp)) F4.out
                have hbt := further hb hbw
                have HU10 := hid (show w10.heap[w9.heap.size]? = some (.cells G1 24 (0, 0)) by rw [F1.out, splice_all64 (by show 32 = G1.toList.length; rw [Array.length_toList, HGs.out])])
                have HB10 := hid (further HB8.out hbt)
                have HP10 := hid (stays hbt HP8.out)
                have HQ10 := hid (stays hbt HQ8.out)
                have HTx10 := hid (HTx8.out.keep hbt)
                have HTy10 := hid (HTy8.out.keep hbt)
                clear hb hbw hbt F1 F2 F3 F4 HB8 HTx8 HTy8 HP8 HQ8
                go_wp2_with fail
                have hX := Sum_any Y (.slice (some ⟨gy, 0, none⟩) ly cy) w10 HYb.out (by have := HYl.out; omega) HTy10.out (HK.out.below HB10.out)
                rw [← HG2.out] at hX
                refine hX.mono ?_
                clear hX
                rintro e w11 ⟨rfl, hb⟩
                go_wp2_with (with_reducible refine wpList_store_at rfl 24 (.tmp 15) (.tmp 90) rfl w11.heap.size 0 G2 rfl rfl _ 24 (heap_alloc_new w11 _) ?s1 ?s2 ?s3 ?_)
                case s1 => rw [HHs.out]; exact Tryd.size_h32
                case s2 => rw [HHs.out]; exact Nat.le_refl _
                case s3 => exact HHs1.out
                intro w12 F1 F2 F3 F4
                have hbw := below_same ((Below.refl w11.heap.size w11).alloc (Nat.le_refl _) (.cells (Array.replicate 32 (.int .u8 0)) 24)) (Nat.le_refl _) F2.out (F3.out.trans (by simp)) F4.out
                have hbt := further hb hbw
                have HV12 := hid (show w12.heap[w11.heap.size]? = some (.cells G2 24 (0, 0)) by rw [F1.out, splice_all64 (by show 32 = G2.toList.length; rw [Array.length_toList, HHs.out])])
                have HB12 := hid (further HB10.out hbt)
                have HP12 := hid (stays hbt HP10.out)
                have HQ12 := hid (stays hbt HQ10.out)
                have HU12 := hid (stays hbt HU10.out)
                have HTx12 := hid (HTx10.out.keep hbt)
                have HTy12 := hid (HTy10.out.keep hbt)
                clear hb hbw hbt F1 F2 F3 F4 HB10 HTx10 HTy10 HP10 HQ10 HU10
                go_wp2_with fail
                obtain ⟨A, hA⟩ : ∃ A, A = sha X := ⟨_, rfl⟩
                obtain ⟨B, hB⟩ : ∃ B, B = sha Y := ⟨_, rfl⟩
                have HAl := hid (show A.length = 32 by rw [hA]; exact sha_length _)
                have HBl := hid (show B.length = 32 by rw [hB]; exact sha_length _)
                have HU := hid (show w12.heap[w9.heap.size]? = some (.cells (bytesV A) 24 (0, 0)) by rw [HU12.out, HG1.out, hA])
                have HV := hid (show w12.heap[w11.heap.size]? = some (.cells (bytesV B) 24 (0, 0)) by rw [HV12.out, HG2.out, hB])
                have HRr2 := hid (show r = decide (A.take 16 = B.take 16) by rw [HRr.out, hA, hB])
                clear hA hB HU12 HV12 HRr HG1 HG2
                go_loopw [16, 17] (fun v i wr => ∃ k m : Nat, k ≤ 16 ∧ i = .int .i64 k ∧ v = .bool (decide (A.take k = B.take k)) ∧ wr = w12.drewN m) (fun _ i _ => 16 - (intOf i).toNat)
                case atStart => exact ⟨0, 0, by omega, rfl, rfl, rfl⟩
                case round =>
                  obtain ⟨k, m, hk, rfl, rfl, rfl⟩ := hrel
                  by_cases hlt : k < 16
                  · have hxl : k < A.length := by rw [HAl.out]; omega
                    have hyl : k < B.length := by rw [HBl.out]; omega
                    obtain ⟨x, hx⟩ : ∃ x, x = A[k] := ⟨_, rfl⟩
                    obtain ⟨y, hy⟩ : ∃ y, y = B[k] := ⟨_, rfl⟩
                    have hcx : w12.cell? ⟨w9.heap.size, k, none⟩ = some (.int .u8 (x : Int)) := by
                      rw [cell_of_row _ _ _ _ _ _ HU.out, bytesV_at _ _ hxl, hx, List.getD_eq_getElem?_getD, List.getElem?_eq_getElem hxl]; rfl
                    have hcy : w12.cell? ⟨w11.heap.size, k, none⟩ = some (.int .u8 (y : Int)) := by
                      rw [cell_of_row _ _ _ _ _ _ HV.out, bytesV_at _ _ hyl, hy, List.getD_eq_getElem?_getD, List.getElem?_eq_getElem hyl]; rfl
                    have hxy2 : ((x : Int) == (y : Int)) = decide (x = y) := by
                      by_cases e : x = y
                      · rw [e]; simp
                      · rw [decide_eq_false e, beq_eq_false_iff_ne]; omega
                    by_cases hqk : A.take k = B.take k
                    · have hstep := hid (show (x = y) ↔ (A.take (k + 1) = B.take (k + 1)) by
                        rw [List.take_succ_eq_append_getElem hxl, List.take_succ_eq_append_getElem hyl, ← hx, ← hy]
                        constructor
                        · intro h; rw [hqk, h]
                        · intro h; rw [hqk] at h; exact (List.cons.inj (List.append_cancel_left h)).1)
                      rw [decide_eq_true hqk]
                      clear hx hy hxl hyl hqk
                      go_wp2_with fail
                      go_quiet (fail)
                      go_wp2_with fail
                      go_roundw
                      case rel => exact ⟨k + 1, _, by omega, by go_num, congrArg Value.bool (by first | (rw [hxy2]; exact decide_eq_decide.2 hstep.out) | exact decide_eq_decide.2 hstep.out | (refine Eq.trans ?_ (decide_eq_decide.2 hstep.out); simp)), rfl⟩
                      case measure => simp [intOf]; omega
                    · have hstep := hid (show ¬ (A.take (k + 1) = B.take (k + 1)) from fun h => hqk (by
                        have h2 := congrArg (List.take k) h
                        rwa [List.take_take, List.take_take, Nat.min_eq_left (by omega)] at h2))
                      rw [decide_eq_false hqk]
                      clear hx hy hxl hyl hqk hcx hcy hxy2
                      go_wp2_with fail
                      go_quiet (fail)
                      go_wp2_with fail
                      go_roundw
                      case rel => exact ⟨k + 1, _, by omega, by go_num, congrArg Value.bool (decide_eq_false hstep.out).symm, rfl⟩
                      case measure => simp [intOf]; omega
                  · obtain rfl : k = 16 := by omega
                    rw [← HRr2.out]
                    have hcx := HTx12.out (w12.drewN m) (below_drewN (Below.refl _ _) m)
                    have hcy := HTy12.out (w12.drewN m) (below_drewN (Below.refl _ _) m)
                    have hne : ((strN X).toList == (strN Y).toList) = false := by
                      rw [ByteArray.toList_eq, ByteArray.toList_eq, beq_eq_false_iff_ne]
                      intro h
                      have h2 : strN X = strN Y := ByteArray.ext (Array.toList_inj.1 h)
                      have h3 := congrArg tx h2
                      rw [tx_strN _ HXb.out, tx_strN _ HYb.out] at h3
                      exact HXY.out h3
                    obtain ⟨sx, hsx⟩ : ∃ sx, sx = strN X := ⟨_, rfl⟩
                    obtain ⟨sy, hsy⟩ : ∃ sy, sy = strN Y := ⟨_, rfl⟩
                    rw [← hsx] at hcx hne
                    rw [← hsy] at hcy hne
                    clear hsx hsy
                    have hq1 := HR.out
                    have hq2 : ∀ W, (binOp .eql 44 (.agg D1) (.agg D2)).run Tryd.prog W = .ok (.bool r) W := fun W => by
                      rw [run_eql_struct, HR.out]; rfl
                    have HBm := hid (below_drewN HB12.out m)
                    have HPm := hid (show (w12.drewN m).heap[w5.heap.size]? = some (.cells D1 44 (0, 0)) from HP12.out)
                    have HQm := hid (show (w12.drewN m).heap[w7.heap.size]? = some (.cells D2 44 (0, 0)) from HQ12.out)
                    obtain ⟨w13, hw13⟩ : ∃ w13, w13 = w12.drewN m := ⟨_, rfl⟩
                    rw [← hw13] at HBm HPm HQm hcx hcy
                    rw [← hw13]
                    clear hw13
                    cases r
                    · go_wp2_with (first | (refine wpList_load_row_g ?w1 44 (.tmp 12) rfl w5.heap.size rfl 44 D1 (0, 0) _ HPm.out Tryd.under_d16 rfl (by rw [HDs.out]; exact Tryd.size_d16) ?_; case w1 => rfl) | (refine wpList_load_row_g ?w1 44 (.tmp 13) rfl w7.heap.size rfl 44 D2 (0, 0) _ HQm.out Tryd.under_d16 rfl (by rw [HEs.out]; exact Tryd.size_d16) ?_; case w1 => rfl))
                      go_ret
                      exact ⟨rfl, HBm.out⟩
                    · go_wp2_with (first | (refine wpList_load_row_g ?w1 44 (.tmp 12) rfl w5.heap.size rfl 44 D1 (0, 0) _ HPm.out Tryd.under_d16 rfl (by rw [HDs.out]; exact Tryd.size_d16) ?_; case w1 => rfl) | (refine wpList_load_row_g ?w1 44 (.tmp 13) rfl w7.heap.size rfl 44 D2 (0, 0) _ HQm.out Tryd.under_d16 rfl (by rw [HEs.out]; exact Tryd.size_d16) ?_; case w1 => rfl))
                      go_ret
                      exact ⟨rfl, HBm.out⟩
    · rw [decide_eq_false hfb]
      clear HFb
      go_wp2_with fail
      go_ret
      exact ⟨rfl, HB1.out⟩
  · rw [decide_eq_false hfa]
    clear HFa HFb
    go_wp2_with fail
    go_ret
    exact ⟨rfl, HB1.out⟩

end Go.Proofs.YtihljbephlpgcaaDoor
