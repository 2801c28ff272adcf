/-
  Contracts of gantry/gantryref01: Bytes, Ints, Strings, Digests.
-/
import Derived.Test.YtpdphbliaibkhaaWireR
import Derived.Test.YtpdphbliaibkhaaWireV
import Derived.Lib.ConvBytes
namespace Go.Proofs.Ytpdphbliaibkhaa
open Go.RowKit
open Go.Lib (hid)
open W

theorem owned_news {w : World} {base : Nat} {E : TypeId} {g n cap : Nat} {xs : List Value} (h : w.ownsRow base E 1 (.slice (some ⟨g, 0, none⟩) n cap) n xs) : ∀ j u, xs[j]? = some u → w.cell? ((⟨g, 0, none⟩ : Addr).add j) = some u := by
  intro j u hj
  have hlt : j < xs.length := (List.getElem?_eq_some_iff.1 hj).1
  rcases h.2 with ⟨h0, _⟩ | ⟨g', cap', cur, hv, _, hg, _, _, _, ht⟩
  · cases h0
  · simp only [Value.slice.injEq, Option.some.injEq, Addr.mk.injEq] at hv
    obtain ⟨⟨rfl, _, _⟩, _, rfl⟩ := hv
    rw [Addr.add_lit, Nat.zero_add, cell_of_row _ _ _ _ _ _ hg]
    have hl := h.1
    rw [← ht, List.getElem?_take] at hj
    split at hj
    · simpa using hj
    · cases hj

theorem bytesWorld_below (w : World) (E : TypeId) (s : ByteArray) : Below w.heap.size w (Lib.bytesWorld w E s) :=
  ⟨rfl, rfl, rfl, by rw [Lib.bytesWorld_size]; omega, fun k hk => Lib.bytesWorld_at_old w E s k hk⟩
theorem bytesWorld_news (w : World) (E : TypeId) (s : ByteArray) : ∀ j u, ((txt s).map (Value.int .u8))[j]? = some u → (Lib.bytesWorld w E s).cell? ((⟨w.heap.size, 0, none⟩ : Addr).add j) = some u := by
  intro j u hj
  have hlt : j < s.size := by
    have := (List.getElem?_eq_some_iff.1 hj).1
    simpa [txt] using this
  rw [Addr.add_lit, Nat.zero_add, Lib.bytesWorld_cell w E s j hlt, ← hj]
  simp [txt, List.getD_eq_getElem?_getD, hlt]

set_option maxHeartbeats 800000 in
theorem refBytes_any (s : ByteArray) (w : World) (hs : s.size ≤ 1099511627776) :
    Calls Try.prog 17 #[.string s] w (Fresh w (encBytes (txt s))) := by
  obtain ⟨i0, hi, hz0, hz1, hz2⟩ := info_parts Try.info5
  have HC := hid (refInt_any (s.size : Int) w (by omega) (by omega))
  have hcl := code_le (s.size : Int)
  have hcv := fun W : World => Lib.run_convert_string_bytes (P := Try.prog) W 9 28 5 s Try.under9 Try.under28 Try.under5
  go_enter Try.func17, Try.ntmps17
  go_wp2_with fail
  refine HC.out.mono ?_
  rintro e w1 ⟨v1, rfl, hown, hbel⟩
  have hw := bytesWorld_below w1 5 s
  have HNw := hid (bytesWorld_news w1 5 s)
  have HO := hid (owned_kept hown hw)
  have HB := hid (further hbel hw)
  have HTl := hid (txt_length s)
  have hsz := hbel.size
  clear hown hbel hw
  go_wp2_with (at_builtin; go_must (refine wpList_append_own _ rfl (.tmp 5) (.tmp 7) 28 rfl w.heap.size 5 i0 (.int .u8 0) 1 1 Try.under28 hi hz0 hz1 hz2 rfl (by decide) _ (code (s.size : Int)).length ((code (s.size : Int)).map (Value.int .u8)) rfl HO.out ⟨w1.heap.size, 0, none⟩ s.size (grownCap w1 s.size 0 5) ((txt s).map (Value.int .u8)) rfl ?c1 HNw.out ?c2 ?c3 ?c4 ?c5 ?_))
  case c1 => rw [List.length_map, HTl.out]; omega
  case c2 => exact bytes_oneCell _
  case c3 => unfold maxLen; omega
  case c4 => omega
  case c5 => have := HB.out.size; omega
  intro v2 w2 hown2 hgrow2 _
  have HO2 := hid hown2
  have HB2 := hid (below_owned HB.out HO.out hgrow2)
  clear hown2 hgrow2
  go_wp2
  go_ret
  refine ⟨v2, rfl, ?_, HB2.out⟩
  have := HO2.out
  rw [← List.map_append] at this
  simpa [encBytes, txt_length] using this

set_option maxHeartbeats 800000 in
theorem refInts_any (v : Value) (zs : List Int) (w : World) (hv : View w v 1 zs.length (zs.map (Value.int .i64))) (hz : ∀ z ∈ zs, -9223372036854775808 ≤ z ∧ z ≤ 9223372036854775807) (hl : zs.length ≤ 1099511627776) :
    Calls Try.prog 19 #[v] w (Fresh w (encInts zs)) := by
  obtain ⟨i0, hi, hz0, hz1, hz2⟩ := info_parts Try.info5
  have HC := hid (refInt_any (zs.length : Int) w (by omega) (by omega))
  obtain ⟨_, ao, cap, rfl, hlc, hcm, hcells⟩ := hv
  have HCE := hid hcells
  have HZ := hid hz
  clear hcells hz
  unfold maxLen at hcm
  go_enter Try.func19, Try.ntmps19
  go_wp2_with fail
  refine HC.out.mono ?_
  rintro e w1 ⟨v1, rfl, hown, hbel⟩
  have HO := hid hown
  have HB := hid hbel
  clear hown hbel
  go_wp2
  go_loopw [3, 4] (fun out i wr => ∃ k : Nat, k ≤ zs.length ∧ i = .int .i64 k ∧ wr.ownsRow w.heap.size 5 1 out (code (zs.length : Int) ++ (zs.take k).flatMap code).length ((code (zs.length : Int) ++ (zs.take k).flatMap code).map (Value.int .u8)) ∧ Below w.heap.size w wr) (fun _ i _ => zs.length - (intOf i).toNat)
  case atStart => exact ⟨0, by omega, rfl, by simpa using HO.out, HB.out⟩
  case round =>
    obtain ⟨k, hk, rfl, hown, hbel⟩ := hrel
    have HO2 := hid hown
    have HB2 := hid hbel
    clear hown hbel
    by_cases hkn : k < zs.length
    · obtain ⟨b, off, rfl, hc⟩ := HCE.out (by omega)
      obtain ⟨z, hzz⟩ : ∃ z, z = zs[k] := ⟨_, rfl⟩
      have hcz : wr.cell? ⟨b, off + k, none⟩ = some (.int .i64 z) := below_keep HB2.out (hc k _ (by rw [List.getElem?_map, List.getElem?_eq_getElem hkn, hzz]; rfl))
      have hzb := HZ.out z (by rw [hzz]; exact List.getElem_mem hkn)
      have hlen := codes_le (zs.take k)
      have hcl := code_le (zs.length : Int)
      have hcz2 := code_le z
      have hcp := code_pos z
      have hlt : (zs.take k).length ≤ k := List.length_take_le _ _
      have hbig : (code (zs.length : Int) ++ (zs.take k).flatMap code).length + (code z).length ≤ 20000000000000 := by rw [List.length_append]; omega
      have HN := hid (refInt_any z wr hzb.2 hzb.1)
      have HZZ := hid hzz
      obtain ⟨X, hX⟩ : ∃ X, X = code (zs.length : Int) ++ (zs.take k).flatMap code := ⟨_, rfl⟩
      rw [← hX] at HO2 hbig
      have HX := hid hX
      clear hzz hc hlen hcl hlt hzb hcz2 hX
      go_wp2_with fail
      refine HN.out.mono ?_
      rintro e w2 ⟨v2, rfl, hown2, hbel2⟩
      obtain ⟨g2, c2, rfl, hc21, hc22⟩ := owned_slice hown2 (by omega)
      have HO3 := hid (owned_kept HO2.out hbel2)
      have HB3 := hid (further HB2.out hbel2)
      have HN2 := hid (owned_news hown2)
      clear hown2 hbel2
      go_wp2_with (at_builtin; go_must (refine wpList_append_own _ rfl (.tmp 14) (.tmp 19) 28 rfl w.heap.size 5 i0 (.int .u8 0) 1 1 Try.under28 hi hz0 hz1 hz2 rfl (by decide) _ X.length (X.map (Value.int .u8)) rfl HO3.out ⟨g2, 0, none⟩ (code z).length c2 ((code z).map (Value.int .u8)) rfl ?c1 HN2.out ?c2 ?c3 ?c4 ?c5 ?_))
      case c1 => rw [List.length_map]; omega
      case c2 => exact bytes_oneCell _
      case c3 => unfold maxLen; omega
      case c4 => omega
      case c5 => exact HB3.out.size
      intro v3 w3 hown3 hgrow3 _
      have HO4 := hid hown3
      have HB4 := hid (below_owned HB3.out HO3.out hgrow3)
      clear hown3 hgrow3
      go_wp2
      go_roundw
      case rel =>
        refine ⟨k + 1, by omega, by go_num, ?_, HB4.out⟩
        rw [List.take_succ_eq_append_getElem hkn, List.flatMap_append, ← List.append_assoc, ← HX.out, ← HZZ.out]
        simpa using HO4.out
      case measure => simp [intOf]; omega
    · obtain rfl : k = zs.length := by omega
      go_wp2
      go_ret
      refine ⟨_, rfl, ?_, HB2.out⟩
      have := HO2.out
      rw [List.take_length] at this
      exact this

set_option maxHeartbeats 800000 in
theorem refStrings_any (v : Value) (ss : List ByteArray) (w : World) (hv : View w v 1 ss.length (ss.map Value.string)) (hl : ss.length ≤ 1099511627776) (ht : total ss ≤ 1099511627776) :
    Calls Try.prog 21 #[v] w (Fresh w (encTexts (ss.map txt))) := by
  obtain ⟨i0, hi, hz0, hz1, hz2⟩ := info_parts Try.info5
  have HC := hid (refInt_any (ss.length : Int) w (by omega) (by omega))
  obtain ⟨_, ao, cap, rfl, hlc, hcm, hcells⟩ := hv
  have HCE := hid hcells
  clear hcells
  unfold maxLen at hcm
  go_enter Try.func21, Try.ntmps21
  go_wp2_with fail
  refine HC.out.mono ?_
  rintro e w1 ⟨v1, rfl, hown, hbel⟩
  have HO := hid hown
  have HB := hid hbel
  clear hown hbel
  go_wp2
  go_loopw [3, 4] (fun out i wr => ∃ k : Nat, k ≤ ss.length ∧ i = .int .i64 k ∧ wr.ownsRow w.heap.size 5 1 out (code (ss.length : Int) ++ ((ss.take k).map txt).flatMap encBytes).length ((code (ss.length : Int) ++ ((ss.take k).map txt).flatMap encBytes).map (Value.int .u8)) ∧ Below w.heap.size w wr) (fun _ i _ => ss.length - (intOf i).toNat)
  case atStart => exact ⟨0, by omega, rfl, by simpa using HO.out, HB.out⟩
  case round =>
    obtain ⟨k, hk, rfl, hown, hbel⟩ := hrel
    have HO2 := hid hown
    have HB2 := hid hbel
    clear hown hbel
    by_cases hkn : k < ss.length
    · obtain ⟨b, off, rfl, hc⟩ := HCE.out (by omega)
      obtain ⟨z, hzz⟩ : ∃ z, z = ss[k] := ⟨_, rfl⟩
      have hcz : wr.cell? ⟨b, off + k, none⟩ = some (.string z) := below_keep HB2.out (hc k _ (by rw [List.getElem?_map, List.getElem?_eq_getElem hkn, hzz]; rfl))
      have htot := total_at ss k hkn
      rw [← hzz] at htot
      have hlen := texts_le (ss.take k)
      have hcl := code_le (ss.length : Int)
      have hcz2 := encBytes_le (txt z)
      have hcp := encBytes_pos (txt z)
      rw [txt_length] at hcz2
      have hzl : z.size ≤ 1099511627776 := by omega
      have hlt : (ss.take k).length ≤ k := List.length_take_le _ _
      have hbig : (code (ss.length : Int) ++ ((ss.take k).map txt).flatMap encBytes).length + (encBytes (txt z)).length ≤ 20000000000000 := by rw [List.length_append]; omega
      have HN := hid (refBytes_any z wr hzl)
      have HZZ := hid hzz
      obtain ⟨X, hX⟩ : ∃ X, X = code (ss.length : Int) ++ ((ss.take k).map txt).flatMap encBytes := ⟨_, rfl⟩
      rw [← hX] at HO2 hbig
      have HX := hid hX
      clear hzz hc hlen hcl hlt htot hcz2 hX
      go_wp2_with fail
      refine HN.out.mono ?_
      rintro e w2 ⟨v2, rfl, hown2, hbel2⟩
      obtain ⟨g2, c2, rfl, hc21, hc22⟩ := owned_slice hown2 (by omega)
      have HO3 := hid (owned_kept HO2.out hbel2)
      have HB3 := hid (further HB2.out hbel2)
      have HN2 := hid (owned_news hown2)
      clear hown2 hbel2
      go_wp2_with (at_builtin; go_must (refine wpList_append_own _ rfl (.tmp 14) (.tmp 19) 28 rfl w.heap.size 5 i0 (.int .u8 0) 1 1 Try.under28 hi hz0 hz1 hz2 rfl (by decide) _ X.length (X.map (Value.int .u8)) rfl HO3.out ⟨g2, 0, none⟩ (encBytes (txt z)).length c2 ((encBytes (txt z)).map (Value.int .u8)) rfl ?c1 HN2.out ?c2 ?c3 ?c4 ?c5 ?_))
      case c1 => rw [List.length_map]; omega
      case c2 => exact bytes_oneCell _
      case c3 => unfold maxLen; omega
      case c4 => omega
      case c5 => exact HB3.out.size
      intro v3 w3 hown3 hgrow3 _
      have HO4 := hid hown3
      have HB4 := hid (below_owned HB3.out HO3.out hgrow3)
      clear hown3 hgrow3
      go_wp2
      go_roundw
      case rel =>
        refine ⟨k + 1, by omega, by go_num, ?_, HB4.out⟩
        rw [List.take_succ_eq_append_getElem hkn, List.map_append, List.flatMap_append, ← List.append_assoc, ← HX.out, ← HZZ.out]
        simpa using HO4.out
      case measure => simp [intOf]; omega
    · obtain rfl : k = ss.length := by omega
      go_wp2
      go_ret
      refine ⟨_, rfl, ?_, HB2.out⟩
      have := HO2.out
      rw [List.take_length] at this
      simpa [encTexts] using this


set_option maxHeartbeats 1600000 in
theorem refDigests_any (v : Value) (ds : List (List Int)) (w : World) (hv : View w v 16 ds.length (digCells ds)) (hd : ∀ d ∈ ds, d.length = 16) (hl : ds.length ≤ 1099511627776) :
    Calls Try.prog 23 #[v] w (Fresh w (encDigs ds)) := by
  obtain ⟨i0, hi, hz0, hz1, hz2⟩ := info_parts Try.info5
  have HC := hid (refInt_any (ds.length : Int) w (by omega) (by omega))
  obtain ⟨_, ao, cap, rfl, hlc, hcm, hcells⟩ := hv
  have HCE := hid hcells
  have HDL := hid hd
  clear hcells hd
  unfold maxLen at hcm
  go_enter Try.func23, Try.ntmps23
  go_wp2_with fail
  refine HC.out.mono ?_
  rintro e w1 ⟨v1, rfl, hown, hbel⟩
  have HO := hid hown
  have HB := hid hbel
  clear hown hbel
  go_wp2
  go_loopw [3, 4] (fun out i wr => ∃ k : Nat, k ≤ ds.length ∧ i = .int .i64 k ∧ wr.ownsRow w.heap.size 5 1 out (code (ds.length : Int) ++ (ds.take k).flatMap id).length ((code (ds.length : Int) ++ (ds.take k).flatMap id).map (Value.int .u8)) ∧ Below w.heap.size w wr) (fun _ i _ => ds.length - (intOf i).toNat)
  case atStart => exact ⟨0, by omega, rfl, by simpa using HO.out, HB.out⟩
  case round =>
    obtain ⟨k, hk, rfl, hown, hbel⟩ := hrel
    have HO2 := hid hown
    have HB2 := hid hbel
    clear hown hbel
    by_cases hkn : k < ds.length
    · obtain ⟨b, off, rfl, hc⟩ := HCE.out (by omega)
      obtain ⟨cs, hcs⟩ : ∃ cs, cs = ds[k] := ⟨_, rfl⟩
      have hc16 : cs.length = 16 := by rw [hcs]; exact HDL.out _ (List.getElem_mem hkn)
      have hra : ∀ j, j < 16 → w.cell? ⟨b, off + k * 16 + j, none⟩ = some (.int .u8 (cs.getD j 0)) := by
        intro j hj
        have h1 : (ds[k].map (Value.int .u8))[j]? = some (.int .u8 (cs.getD j 0)) := by
          rw [← hcs, List.getElem?_map, List.getD_eq_getElem?_getD, List.getElem?_eq_getElem (by omega)]; rfl
        have := hc _ _ (digCells_at HDL.out k hkn j _ h1)
        rwa [Nat.add_assoc]
      have hlen : (code (ds.length : Int) ++ (ds.take k).flatMap id).length ≤ 20000000000000 := by
        have := code_le (ds.length : Int)
        have h2 := digs_length (ds := ds.take k) (fun d hd => HDL.out d (List.mem_of_mem_take hd))
        have h3 : (ds.take k).length ≤ k := List.length_take_le _ _
        rw [List.length_append]; omega
      obtain ⟨X, hX⟩ : ∃ X, X = code (ds.length : Int) ++ (ds.take k).flatMap id := ⟨_, rfl⟩
      rw [← hX] at HO2 hlen
      have HX := hid hX
      have HCS := hid hcs
      have H16 := hid hc16
      have HRA := hid hra
      clear hcs hc16 hra hc hX
      obtain ⟨wo, rfl⟩ : ∃ wo : World, wo = wr := ⟨_, rfl⟩
      go_wp2
      go_loopw [3, 5] (fun out i wr => ∃ j : Nat, j ≤ 16 ∧ i = .int .i64 j ∧ wr.ownsRow w.heap.size 5 1 out (X.length + j) ((X ++ cs.take j).map (Value.int .u8)) ∧ Below w.heap.size w wr) (fun _ i _ => 16 - (intOf i).toNat)
      case atStart => exact ⟨0, by omega, rfl, by simpa using HO2.out, HB2.out⟩
      case round =>
        obtain ⟨j, hj, rfl, hown, hbel⟩ := hrel
        have HO3 := hid hown
        have HB3 := hid hbel
        clear hown hbel
        by_cases hj16 : j < 16
        · have hcz := below_keep HB3.out (HRA.out j hj16)
          obtain ⟨z, hz⟩ : ∃ z, z = cs.getD j 0 := ⟨_, rfl⟩
          rw [← hz] at hcz
          have HZ := hid hz
          clear hz
          go_wp2_with (at_builtin; go_must (refine wpList_append_own _ rfl (.tmp 19) (.tmp 26) 28 rfl w.heap.size 5 i0 (.int .u8 0) 1 1 Try.under28 hi hz0 hz1 hz2 rfl (by decide) _ (X.length + j) ((X ++ cs.take j).map (Value.int .u8)) rfl (HO3.out.alloc _) ⟨wr.heap.size, 0, none⟩ 1 1 [.int .u8 z] rfl rfl ?c1 ?c2 ?c3 ?c4 ?c5 ?_))
          case c1 => exact cell_new _ _ _ _ (by simp)
          case c2 => intro u hu; simp at hu; subst hu; rfl
          case c3 => unfold maxLen; omega
          case c4 => omega
          case c5 => have := HB3.out.size; simp; omega
          intro v' w6 hown' hgrow _
          have HO4 := hid hown'
          have HB4 := hid (below_owned (HB3.out.alloc HB3.out.size _) (HO3.out.alloc _) hgrow)
          clear hown' hgrow
          go_wp2
          go_roundw
          case rel =>
            refine ⟨j + 1, by omega, by go_num, ?_, HB4.out⟩
            have h := HO4.out
            rw [Nat.add_assoc] at h
            have hjc : j < cs.length := by rw [H16.out]; exact hj16
            have hz' : z = cs[j] := by rw [HZ.out, List.getD_eq_getElem?_getD, List.getElem?_eq_getElem hjc]; rfl
            rw [List.take_succ_eq_append_getElem hjc, ← hz']
            simpa using h
          case measure => simp [intOf]; omega
        · obtain rfl : j = 16 := by omega
          go_wp2
          go_roundw
          case rel =>
            refine ⟨k + 1, by omega, by go_num, ?_, HB3.out⟩
            have h := HO3.out
            rw [List.take_of_length_le (by rw [H16.out]; omega)] at h
            rw [List.take_succ_eq_append_getElem hkn, List.flatMap_append, ← List.append_assoc, ← HX.out, ← HCS.out]
            have e : (X ++ [cs].flatMap id).length = X.length + 16 := by simp [H16.out]
            rw [e]
            simpa using h
          case measure => simp [intOf]; omega
    · obtain rfl : k = ds.length := by omega
      go_wp2
      go_ret
      refine ⟨_, rfl, ?_, HB2.out⟩
      have := HO2.out
      rw [List.take_length] at this
      simpa [encDigs] using this

end Go.Proofs.Ytpdphbliaibkhaa
