/-
  gantrylaw01.WireCanonical answers yes.
-/
import Derived.Test.YtpdphbliaibkhaaWireV
import Derived.Test.YtpdphbliaibkhaaWire3
namespace Go.Proofs.Ytpdphbliaibkhaa
open Go.RowKit
open Go.Lib (hid)
open W

set_option maxHeartbeats 400000 in
theorem is_err (cv : Value) (u : Int) (er : Int) (pv : Value) (w : World) (he : er ≠ 0) :
    Calls Try.prog 37 #[cv, .int .i64 u, .int .i64 er, pv] w (Yes w) := by
  have he1 : (er != 0) = true := by simp [he]
  go_enter Try.func37, Try.ntmps37
  go_wp2
  go_ret
  exact ⟨rfl, 0, rfl⟩

theorem ByteView.front {w : World} {ao : Option Addr} {cap u : Nat} {bs : List Int} (hv : ByteView w (.slice ao bs.length cap) bs) (hu : u ≤ bs.length) : View w (.slice ao u cap) 1 u ((bs.take u).map (Value.int .u8)) := by
  obtain ⟨hl, ao', cap', hsh, h1, h2, hc⟩ := hv.view
  simp only [Value.slice.injEq, true_and] at hsh
  obtain ⟨rfl, rfl⟩ := hsh
  refine ⟨by simp; omega, _, _, rfl, by omega, h2, fun h0 => ?_⟩
  obtain ⟨b, off, rfl, hcell⟩ := hc (by omega)
  refine ⟨b, off, rfl, fun i x hx => hcell i x ?_⟩
  rw [List.map_take, List.getElem?_take] at hx
  split at hx
  · exact hx
  · simp at hx

set_option maxHeartbeats 400000 in
theorem is_ok (cv : Value) (u bb cap : Nat) (ao : Option Addr) (bs : List Int) (w : World) (hu : u ≤ bs.length) (hc : View w cv 1 u ((bs.take u).map (Value.int .u8))) (hv : ByteView w (.slice ao bs.length cap) bs) (hb : w.cell? ⟨bb, 0, none⟩ = some (.slice ao bs.length cap)) :
    Calls Try.prog 37 #[cv, .int .i64 u, .int .i64 0, .pointer (some ⟨bb, 0, none⟩)] w (Yes w) := by
  have hle := hv.le
  have hcap : bs.length ≤ cap := by
    obtain ⟨_, ao', cap', hsh, h1, _⟩ := hv
    simp only [Value.slice.injEq, true_and] at hsh
    omega
  have HS := hid (Same_yes cv (.slice ao u cap) u (bs.take u) w (by simp; omega) hc (hv.front hu))
  clear hc hv
  by_cases h0 : u = 0
  · subst h0
    go_enter Try.func37, Try.ntmps37
    go_wp2_with fail
    all_goals
      refine HS.out.mono ?_
      rintro e w1 ⟨rfl, n, rfl⟩
      go_wp2
      go_ret
      exact ⟨rfl, n, rfl⟩
  · have h1 : 0 < u := by omega
    go_enter Try.func37, Try.ntmps37
    go_wp2_with fail
    refine HS.out.mono ?_
    rintro e w1 ⟨rfl, n, rfl⟩
    go_wp2
    go_ret
    exact ⟨rfl, n, rfl⟩

theorem nil_view (w : World) (size : Nat) : View w (.slice none 0 0) size 0 [] := ⟨by simp, none, 0, rfl, Nat.le_refl _, by unfold maxLen; omega, fun h => absurd h (by omega)⟩

theorem txt_strOfNums {l : List Int} (h : Bs l) : txt (strOfNums l) = l := by
  unfold txt strOfNums
  rw [List.map_map]
  conv => rhs; rw [← List.map_id l]
  apply List.map_congr_left
  intro a ha
  have := h a ha
  simp only [Function.comp, id]
  rw [UInt8.toNat_ofNat']
  omega

theorem size_strOfNums (l : List Int) : (strOfNums l).size = l.length := strOfNums_size l

/-- What the law asks of one kind of values: the closure answers yes. -/
theorem is_any {cv : Value} {u : Nat} {er : Int} {bb cap : Nat} {ao : Option Addr} {bs c : List Int} {w : World} (hc : View w cv 1 c.length (c.map (Value.int .u8))) (hv : ByteView w (.slice ao bs.length cap) bs) (hb : w.cell? ⟨bb, 0, none⟩ = some (.slice ao bs.length cap))
    (h : er = 0 → u ≤ bs.length ∧ bs.take u = c) :
    Calls Try.prog 37 #[cv, .int .i64 u, .int .i64 er, .pointer (some ⟨bb, 0, none⟩)] w (Yes w) := by
  by_cases he : er = 0
  · subst he
    obtain ⟨h1, h2⟩ := h rfl
    have hl : c.length = u := by rw [← h2]; simp; omega
    rw [← h2] at hc
    refine is_ok cv u bb cap ao bs w h1 ?_ hv hb
    have e : (bs.take u).length = u := by simp; omega
    rwa [e] at hc
  · exact is_err cv u er _ w he

theorem fact_int {bs : List Int} (hb : Bs bs) : ∃ n u e, dec bs = (n, u, e) ∧ (-9223372036854775808 ≤ n ∧ n ≤ 9223372036854775807) ∧ (e = 0 → u ≤ bs.length ∧ bs.take u = code n) := by
  rcases dec_cases bs hb with ⟨n, u, h, _, h2, h3, h4⟩ | h | h
  · exact ⟨n, u, 0, h, ⟨h3, h4⟩, fun _ => ⟨h2, (dec_canonical bs hb n u h).2.1⟩⟩
  · exact ⟨_, _, _, h, by omega, fun h => by omega⟩
  · exact ⟨_, _, _, h, by omega, fun h => by omega⟩

theorem fact_bytes {bs : List Int} (hb : Bs bs) : ∃ s u e, decBytes bs = (s, u, e) ∧ Bs s ∧ s.length ≤ bs.length ∧ (e = 0 → u ≤ bs.length ∧ bs.take u = encBytes s) := by
  rcases decBytes_cases bs hb with ⟨s, u, h, _, h2, h3⟩ | h | h
  · have hc := decBytes_canonical hb h
    refine ⟨s, u, 0, h, h3, ?_, fun _ => hc⟩
    have := congrArg List.length hc.2
    rw [encBytes, List.length_append, List.length_take] at this
    omega
  · exact ⟨_, _, _, h, fun _ h => by simp at h, by simp, fun h => by omega⟩
  · exact ⟨_, _, _, h, fun _ h => by simp at h, by simp, fun h => by omega⟩

theorem fact_ints {bs : List Int} (hb : Bs bs) : ∃ l u e, decList dec 1 bs = (l, u, e) ∧ (∀ z ∈ l, -9223372036854775808 ≤ z ∧ z ≤ 9223372036854775807) ∧ l.length ≤ bs.length ∧ (e = 0 → u ≤ bs.length ∧ bs.take u = encInts l) := by
  rcases decList_cases dec 1 bs with ⟨l, v, h⟩ | ⟨e, he, h⟩
  · obtain ⟨h1, h2, h3⟩ := decInts_good hb h
    refine ⟨l, v, 0, h, h3, ?_, fun _ => ⟨h1, h2⟩⟩
    have := congrArg List.length h2
    have h4 := list_le code l (fun x _ => code_pos x)
    rw [encInts, List.length_take] at this
    omega
  · exact ⟨_, _, _, h, fun _ h => by simp at h, by simp, fun h => absurd h he⟩

theorem fact_texts {bs : List Int} (hb : Bs bs) : ∃ l u e, decList decBytes 1 bs = (l, u, e) ∧ (∀ s ∈ l, Bs s) ∧ l.length ≤ bs.length ∧ (l.map List.length).sum ≤ bs.length ∧ (e = 0 → u ≤ bs.length ∧ bs.take u = encTexts l) := by
  rcases decList_cases decBytes 1 bs with ⟨l, v, h⟩ | ⟨e, he, h⟩
  · obtain ⟨h1, h2, h3⟩ := decTexts_good hb h
    have := congrArg List.length h2
    have h4 := list_le encBytes l (fun x _ => encBytes_pos x)
    have h5 := encTexts_sum l
    rw [List.length_take] at this
    refine ⟨l, v, 0, h, h3, ?_, by omega, fun _ => ⟨h1, h2⟩⟩
    rw [encTexts] at this
    omega
  · exact ⟨_, _, _, h, fun _ h => by simp at h, by simp, by simp, fun h => absurd h he⟩

theorem fact_digs {bs : List Int} (hb : Bs bs) : ∃ l u e, decList decDig 16 bs = (l, u, e) ∧ (∀ d ∈ l, d.length = 16) ∧ l.length ≤ bs.length ∧ (e = 0 → u ≤ bs.length ∧ bs.take u = encDigs l) := by
  rcases decList_cases decDig 16 bs with ⟨l, v, h⟩ | ⟨e, he, h⟩
  · obtain ⟨h1, h2, h3, _⟩ := decDigs_good hb h
    have := congrArg List.length h2
    have h4 := list_le id l (fun x hx => by rw [id, h3 x hx]; omega)
    rw [encDigs, List.length_take] at this
    exact ⟨l, v, 0, h, h3, by omega, fun _ => ⟨h1, h2⟩⟩
  · exact ⟨_, _, _, h, fun _ h => by simp at h, by simp, fun h => absurd h he⟩

theorem total_strs (l : List (List Int)) : total (l.map strOfNums) = (l.map List.length).sum := by
  unfold total
  rw [List.map_map]
  congr 1
  apply List.map_congr_left
  intro a _
  exact size_strOfNums a

theorem map_txt (l : List (List Int)) (h : ∀ s ∈ l, Bs s) : (l.map strOfNums).map txt = l := by
  rw [List.map_map]
  conv => rhs; rw [← List.map_id l]
  exact List.map_congr_left fun a ha => txt_strOfNums (h a ha)

set_option maxRecDepth 100000 in
set_option maxHeartbeats 3200000 in
theorem canonical_any (bv : Value) (bs : List Int) (w : World) (hv : ByteView w bv bs) :
    Calls Try.prog 7 #[bv] w fun e w' => e = .returned (.bool true) ∧ Below w.heap.size w w' := by
  have HV := hid hv
  have hle := hv.le
  obtain ⟨_, ao, cap, rfl, hlc, hcm, _⟩ := hv
  unfold maxLen at hcm
  by_cases hbig : 2000 < bs.length
  · go_enter Try.func7, Try.ntmps7
    go_wp2_with fail
    refine (sanity_yes _).mono ?_
    rintro e w1 ⟨rfl, hb⟩
    have HB := hid (show Below w.heap.size w w1 from further ((Below.refl _ _).alloc (Nat.le_refl _) _) hb)
    clear hb
    go_wp2
    go_ret
    exact ⟨rfl, HB.out⟩
  · have HB0 : Hid (∀ W, Below (w.alloc (.cells #[.slice ao bs.length cap] 28)).heap.size (w.alloc (.cells #[.slice ao bs.length cap] 28)) W → Below w.heap.size w W ∧ ByteView W (.slice ao bs.length cap) bs ∧ W.cell? ⟨w.heap.size, 0, none⟩ = some (.slice ao bs.length cap)) := fun W hW => by
      have h1 : Below w.heap.size w W := further ((Below.refl _ _).alloc (Nat.le_refl _) _) hW
      exact ⟨h1, HV.out.below h1, below_keep hW (cell_new w _ _ _ rfl 0 _ rfl)⟩
    obtain ⟨n1, u1, e1, D1, B1, C1⟩ := fact_int HV.out.bytes
    obtain ⟨n2, u2, e2, D2, B2, M2, C2⟩ := fact_bytes HV.out.bytes
    obtain ⟨n3, u3, e3, D3, B3, M3, C3⟩ := fact_ints HV.out.bytes
    obtain ⟨n4, u4, e4, D4, B4, M4, T4, C4⟩ := fact_texts HV.out.bytes
    obtain ⟨n5, u5, e5, D5, B5, M5, C5⟩ := fact_digs HV.out.bytes
    have D1 := hid D1
    have D2 := hid D2
    have D3 := hid D3
    have D4 := hid D4
    have D5 := hid D5
    have B1 := hid B1
    have B2 := hid B2
    have B3 := hid B3
    have B4 := hid B4
    have B5 := hid B5
    have C1 := hid C1
    have C2 := hid C2
    have C3 := hid C3
    have C4 := hid C4
    have C5 := hid C5
    have K0 := hid (Below.refl (w.alloc (.cells #[.slice ao bs.length cap] 28)).heap.size (w.alloc (.cells #[.slice ao bs.length cap] 28)))
    go_enter Try.func7, Try.ntmps7
    go_wp2_with fail
    refine (GetInt_any _ bs _ (HB0.out _ K0.out).2.1).mono ?_
    rw [D1.out]
    rintro e w1 ⟨rfl, rfl⟩
    go_wp2_with fail
    refine (GetBytes_any _ bs _ (HB0.out _ K0.out).2.1).mono ?_
    rw [D2.out]
    rintro e w2 ⟨rfl, rfl⟩
    go_wp2_with fail
    refine (GetInts_any _ bs _ (HB0.out _ K0.out).2.1 (by omega)).mono ?_
    rw [D3.out]
    rintro e w3 h3
    obtain ⟨v3, rfl, hv3, hb3⟩ := h3.view
    have V3 := hid (show View w3 v3 1 n3.length (n3.map (Value.int .i64)) by rw [← flat_single]; exact hv3)
    have K3 := hid (further K0.out hb3)
    have hbox3 := (HB0.out _ K3.out).2.2
    clear h3 hv3 hb3
    go_wp2_with fail
    refine (GetStrings_any _ bs _ (HB0.out _ K3.out).2.1 (by omega)).mono ?_
    rw [D4.out]
    rintro e w4 h4
    obtain ⟨v4, rfl, hv4, hb4⟩ := h4.view
    have V4 := hid (show View w4 v4 1 n4.length ((n4.map strOfNums).map Value.string) by rw [List.map_map, ← flat_single]; exact hv4)
    have V3 := hid (V3.out.below hb4)
    have K4 := hid (further K3.out hb4)
    have hbox4 := (HB0.out _ K4.out).2.2
    clear h4 hv4 hb4 hbox3
    go_wp2_with fail
    refine (GetDigests_any _ bs _ (HB0.out _ K4.out).2.1 (by omega)).mono ?_
    rw [D5.out]
    rintro e w5 h5
    obtain ⟨v5, rfl, hv5, hb5⟩ := h5.view
    have V5 := hid (show View w5 v5 16 n5.length (digCells n5) from hv5)
    have V3 := hid (V3.out.below hb5)
    have V4 := hid (V4.out.below hb5)
    have K5 := hid (further K4.out hb5)
    clear h5 hv5 hb5 hbox4
    go_wp2_with fail
    refine (sanity_yes w5).mono ?_
    rintro e w6 ⟨rfl, hb6⟩
    have V3 := hid (V3.out.below hb6)
    have V4 := hid (V4.out.below hb6)
    have V5 := hid (V5.out.below hb6)
    have K6 := hid (further K5.out hb6)
    clear hb6
    go_wp2_with fail
    refine (Int_fresh n1 w6 B1.out.2 B1.out.1).mono ?_
    rintro e w7 h7
    obtain ⟨v7, rfl, hv7, hb7⟩ := h7.view
    have K7 := hid (further K6.out hb7)
    have J7 := hid (show Below w6.heap.size w6 w7 from hb7)
    have V7 := hid hv7
    clear h7 hv7 hb7
    go_wp2_with fail
    refine (is_any (c := code n1) V7.out (HB0.out _ K7.out).2.1 (HB0.out _ K7.out).2.2 C1.out).mono ?_
    rintro e w8 h8
    obtain ⟨rfl, hb8⟩ := h8.below
    have K8 := hid (further K7.out hb8)
    have J8 := hid (further J7.out hb8)
    clear h8 hb8 V7 J7
    go_wp2_with fail
    refine (Bytes_any (strOfNums n2) w8 (by rw [size_strOfNums]; omega)).mono ?_
    rw [txt_strOfNums B2.out]
    rintro e w9 h9
    obtain ⟨v9, rfl, hv9, hb9⟩ := h9.view
    have K9 := hid (further K8.out hb9)
    have J9 := hid (further J8.out hb9)
    have V9 := hid hv9
    clear h9 hv9 hb9 J8
    go_wp2_with fail
    refine (is_any (c := encBytes n2) V9.out (HB0.out _ K9.out).2.1 (HB0.out _ K9.out).2.2 C2.out).mono ?_
    rintro e w10 h10
    obtain ⟨rfl, hb10⟩ := h10.below
    have K10 := hid (further K9.out hb10)
    have J10 := hid (further J9.out hb10)
    clear h10 hb10 V9 J9
    go_wp2_with fail
    refine (Ints_any _ n3 w10 (V3.out.below J10.out) B3.out (by omega)).mono ?_
    rintro e w11 h11
    obtain ⟨v11, rfl, hv11, hb11⟩ := h11.view
    have K11 := hid (further K10.out hb11)
    have J11 := hid (further J10.out hb11)
    have V11 := hid hv11
    clear h11 hv11 hb11 J10
    go_wp2_with fail
    refine (is_any (c := encInts n3) V11.out (HB0.out _ K11.out).2.1 (HB0.out _ K11.out).2.2 C3.out).mono ?_
    rintro e w12 h12
    obtain ⟨rfl, hb12⟩ := h12.below
    have K12 := hid (further K11.out hb12)
    have J12 := hid (further J11.out hb12)
    clear h12 hb12 V11 J11
    go_wp2_with fail
    refine (Strings_any _ (n4.map strOfNums) w12 (by rw [List.length_map]; exact V4.out.below J12.out) (by rw [List.length_map]; omega) (by rw [total_strs]; omega)).mono ?_
    rw [map_txt n4 B4.out]
    rintro e w13 h13
    obtain ⟨v13, rfl, hv13, hb13⟩ := h13.view
    have K13 := hid (further K12.out hb13)
    have J13 := hid (further J12.out hb13)
    have V13 := hid hv13
    clear h13 hv13 hb13 J12
    go_wp2_with fail
    refine (is_any (c := encTexts n4) V13.out (HB0.out _ K13.out).2.1 (HB0.out _ K13.out).2.2 C4.out).mono ?_
    rintro e w14 h14
    obtain ⟨rfl, hb14⟩ := h14.below
    have K14 := hid (further K13.out hb14)
    have J14 := hid (further J13.out hb14)
    clear h14 hb14 V13 J13
    go_wp2_with fail
    refine (Digests_any _ n5 w14 (V5.out.below J14.out) B5.out (by omega)).mono ?_
    rintro e w15 h15
    obtain ⟨v15, rfl, hv15, hb15⟩ := h15.view
    have K15 := hid (further K14.out hb15)
    have V15 := hid hv15
    clear h15 hv15 hb15 J14
    go_wp2_with fail
    refine (is_any (c := encDigs n5) V15.out (HB0.out _ K15.out).2.1 (HB0.out _ K15.out).2.2 C5.out).mono ?_
    rintro e w16 h16
    obtain ⟨rfl, hb16⟩ := h16.below
    have K16 := hid (further K15.out hb16)
    clear h16 hb16 V15
    go_wp2
    go_ret
    exact ⟨rfl, (HB0.out _ K16.out).1⟩

end Go.Proofs.Ytpdphbliaibkhaa
