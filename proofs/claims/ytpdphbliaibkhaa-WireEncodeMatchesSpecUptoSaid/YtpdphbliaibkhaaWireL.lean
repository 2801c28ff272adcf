/-
  gantrylaw01.WireListRoundTrip answers yes.
-/
import Derived.Test.YtpdphbliaibkhaaWireQ
import Derived.Test.YtpdphbliaibkhaaWireX
namespace Go.Proofs.Ytpdphbliaibkhaa
open Go.RowKit
open Go.Lib (hid)
open W

/-- 'append(a[:len(a):len(a)], tail...)', read as bytes. -/
theorem wpList_cut_append {w : World} {ops : Array Oper} {rest : List Oper} {o : Oper} {a : Act} {Q : Exit → Act → World → Prop} (hgd : o.guard = none) (s x : Operand)
    (ho : o.op = .call { callee := .builtin .append, args := #[s, x], argTypes := #[28, 28] })
    (g L : Nat) (bs ts : List Int) (tv : Value) (hL : bs.length = L) (hs : a.eval s = .slice (some ⟨g, 0, none⟩) L L) (hx : a.eval x = tv)
    (HB : View w (.slice (some ⟨g, 0, none⟩) L L) 1 L (bs.map (Value.int .u8))) (hbs : Bs bs) (HT : ByteView w tv ts) (hsmall : L + ts.length ≤ 1099511627776)
    (h : ∀ v2 w2, ByteView w2 v2 (bs ++ ts) → Below w.heap.size w w2 → wpList Try.prog ops Q rest (a.put o.dst v2) w2) : wpList Try.prog ops Q (o :: rest) a w := by
  obtain ⟨i0, hi, hz0, hz1, hz2⟩ := info_parts Try.info5
  have HT0 := HT
  obtain ⟨_, ao, cap, rfl, hlc, hcm, hcells⟩ := HT
  by_cases ht0 : ts.length = 0
  · obtain rfl : ts = [] := List.length_eq_zero_iff.1 ht0
    refine wpList_append_nothing hgd s x ho ⟨g, 0, none⟩ L L cap ao (Nat.le_refl _) hs hx (h _ _ ?_ (Below.refl _ _))
    rw [List.append_nil]
    subst hL
    exact HB.bytes hbs
  · obtain ⟨b, off, rfl, hcell⟩ := hcells (by rintro rfl; simp at ht0)
    refine wpList_append_grows _ hgd s x 28 ho 5 i0 (.int .u8 0) 1 1 Try.under28 hi hz0 hz1 hz2 rfl (by decide) (some ⟨g, 0, none⟩) L L (bs.map (Value.int .u8)) hs (by simp) (by simp [hL]) ?_ ⟨b, off, none⟩ ts.length cap (ts.map (Value.int .u8)) hx (by simp) (cells_at hcell) (bytes_oneCell _) (by omega) (by unfold maxLen; omega) (by omega) ?_
    · intro b' hb j u hu
      cases hb
      obtain ⟨_, ao', cap', hsh, _, _, hcc⟩ := HB
      simp only [Value.slice.injEq, true_and] at hsh
      obtain ⟨rfl, rfl⟩ := hsh
      have hj := (List.getElem?_eq_some_iff.1 hu).1
      rw [List.length_map] at hj
      obtain ⟨b2, off2, he, hcell2⟩ := hcc (by omega)
      cases he
      rw [Addr.add_lit]
      exact hcell2 j u hu
    · intro v2 w2 ho2 hg2
      refine h v2 w2 ?_ ((Below.refl _ _).grown hg2 (Nat.le_refl _) (by simp))
      have := View.of_owns ho2
      rw [← List.map_append, ← hL, ← List.length_append] at this
      exact this.bytes (hbs.append HT0.bytes)

theorem encDigs_le {l : List (List Int)} (h : ∀ d ∈ l, d.length = 16) : (encDigs l).length ≤ 9 + 16 * l.length := by
  have h1 := code_le (l.length : Int)
  have h2 := digs_length h
  rw [encDigs, List.length_append, h2]; omega

theorem encTexts_le (ss : List ByteArray) : (encTexts (ss.map txt)).length ≤ 9 + 9 * ss.length + total ss := by
  have h1 := code_le ((ss.map txt).length : Int)
  have h2 := texts_le ss
  rw [encTexts, List.length_append]; omega

theorem total_mem {ss : List ByteArray} {s : ByteArray} (h : s ∈ ss) : s.size ≤ total ss := by
  induction ss with
  | nil => simp at h
  | cons a ss ih =>
    simp only [total, List.map_cons, List.sum_cons] at ih ⊢
    rcases List.mem_cons.1 h with rfl | h
    · omega
    · have := ih h
      omega

theorem texts_back (ss : List ByteArray) : ((ss.map txt).flatMap fun x => [Value.string (strOfNums x)]) = ss.map Value.string := by
  rw [flat_single, List.map_map]
  exact List.map_congr_left fun a _ => by simp only [Function.comp, strOfNums_txt]

set_option maxRecDepth 100000 in
set_option maxHeartbeats 6400000 in
theorem listRound_any (s : ByteArray) (zs : List Int) (ss : List ByteArray) (ds : List (List Int)) (ts : List Int) (vl vx vd vt : Value) (w : World)
    (hl : View w vl 1 zs.length (zs.map (Value.int .i64))) (hz : ∀ z ∈ zs, -9223372036854775808 ≤ z ∧ z ≤ 9223372036854775807)
    (hx : View w vx 1 ss.length (ss.map Value.string)) (hd : View w vd 16 ds.length (digCells ds)) (hd16 : ∀ d ∈ ds, d.length = 16) (hdb : ∀ d ∈ ds, Bs d) (ht : ByteView w vt ts)
    (b1 : s.size ≤ 1048576) (b2 : zs.length ≤ 1048576) (b3 : total ss + ss.length ≤ 1048576) (b4 : ds.length ≤ 1048576) (b5 : ts.length ≤ 1048576) :
    Calls Try.prog 8 #[.string s, vl, vx, vd, vt] w fun e w' => e = .returned (.bool true) ∧ Below w.heap.size w w' := by
  have HL := hid hl
  have HX := hid hx
  have HD := hid hd
  have HT := hid ht
  have HZ := hid hz
  have HD16 := hid hd16
  have HDB := hid hdb
  obtain ⟨_, al, cl, rfl, hcl, hml, _⟩ := hl
  obtain ⟨_, ad, cd, rfl, hcd, hmd, _⟩ := hd
  obtain ⟨_, at_, ct, rfl, hct, hmt, _⟩ := ht
  unfold maxLen at hml hmd hmt
  clear hx hz hd16 hdb
  by_cases hbig : 2000 < s.size + zs.length + ds.length + ts.length
  · go_enter Try.func8, Try.ntmps8
    go_wp2_with fail
    refine (sanity_yes w).mono ?_
    rintro e w1 ⟨rfl, hb⟩
    have HB := hid hb
    clear hb
    go_wp2
    go_ret
    exact ⟨rfl, HB.out⟩
  by_cases hfew : ss.length + total ss ≤ 2000
  case neg =>
    have hf : decide (ss.length + total ss ≤ 2000) = false := by simp; omega
    go_enter Try.func8, Try.ntmps8
    go_wp2_with fail
    refine (few_any _ ss w HX.out (by omega) (by omega)).mono ?_
    rw [hf]
    rintro e w0 ⟨rfl, hb0⟩
    have HB0 := hid hb0
    clear hb0
    go_wp2_with fail
    refine (sanity_yes w0).mono ?_
    rintro e w1 ⟨rfl, hb⟩
    have HB := hid (further HB0.out hb)
    clear hb
    go_wp2
    go_ret
    exact ⟨rfl, HB.out⟩
  have hf : decide (ss.length + total ss ≤ 2000) = true := by simp; omega
  have hL1 := encBytes_le (txt s)
  rw [txt_length] at hL1
  have hL2 := encInts_le zs
  have hL3 := encDigs_le HD16.out
  have hL4 := encTexts_le ss
  have hp1 := encBytes_pos (txt s)
  have hp2 := encInts_pos zs
  have hp3 := encDigs_pos ds
  have hp4 := encTexts_pos (ss.map txt)
  have E1 := hid (decBytes_enc (txt s) ts (by rw [txt_length]; omega))
  have E2 := hid (decInts_enc zs (by omega) HZ.out ts)
  have E3 := hid (decDigs_enc ds (by omega) HD16.out ts)
  have E4 := hid (decTexts_enc (ss.map txt) (by rw [List.length_map]; omega) (fun x hx => by
    obtain ⟨y, hy, rfl⟩ := List.mem_map.1 hx
    have := total_mem hy
    rw [txt_length]; omega) ts)
  have S1 := hid (encBytes_bs (txt_bs s))
  have S2 := hid (encInts_bs zs)
  have S3 := hid (encDigs_bs HDB.out)
  have S4 := hid (encTexts_bs (l := ss.map txt) (fun x hx => by
    obtain ⟨y, hy, rfl⟩ := List.mem_map.1 hx
    exact txt_bs y))
  have H1 : Hid (∀ W, Calls Try.prog 16 #[.string s] W (Fresh W (encBytes (txt s)))) := fun W => Bytes_any s W (by omega)
  have H2 : Hid (∀ W, Below w.heap.size w W → Calls Try.prog 18 #[.slice al zs.length cl] W (Fresh W (encInts zs))) := fun W hW => Ints_any _ zs W (HL.out.below hW) HZ.out (by omega)
  have H3 : Hid (∀ W, Below w.heap.size w W → Calls Try.prog 22 #[.slice ad ds.length cd] W (Fresh W (encDigs ds))) := fun W hW => Digests_any _ ds W (HD.out.below hW) HD16.out (by omega)
  have H4 : Hid (∀ W, Below w.heap.size w W → Calls Try.prog 20 #[vx] W (Fresh W (encTexts (ss.map txt)))) := fun W hW => Strings_any _ ss W (HX.out.below hW) (by omega) (by omega)
  obtain ⟨X1, hX1⟩ : ∃ X, X = encBytes (txt s) := ⟨_, rfl⟩
  obtain ⟨X2, hX2⟩ : ∃ X, X = encInts zs := ⟨_, rfl⟩
  obtain ⟨X3, hX3⟩ : ∃ X, X = encDigs ds := ⟨_, rfl⟩
  obtain ⟨X4, hX4⟩ : ∃ X, X = encTexts (ss.map txt) := ⟨_, rfl⟩
  rw [← hX1] at hL1 hp1 E1 S1 H1
  rw [← hX2] at hL2 hp2 E2 S2 H2
  rw [← hX3] at hL3 hp3 E3 S3 H3
  rw [← hX4] at hL4 hp4 E4 S4 H4
  clear hX1 hX2 hX3 hX4
  go_enter Try.func8, Try.ntmps8
  go_wp2_with fail
  refine (few_any _ ss w HX.out (by omega) (by omega)).mono ?_
  rw [hf]
  rintro e w0 ⟨rfl, hb0⟩
  have K0 := hid hb0
  clear hb0 hf
  go_wp2_with fail
  refine (H1.out w0).mono ?_
  rintro e w1 ⟨v1, rfl, ho1, hb1⟩
  obtain ⟨g1, c1, rfl, hgc1, hcm1⟩ := owned_slice ho1 (by omega)
  unfold maxLen at hcm1
  have K1 := hid (further K0.out hb1)
  have V1 := hid (View.of_owns ho1)
  clear ho1 hb1 K0
  go_wp2_with fail
  refine (H2.out w1 K1.out).mono ?_
  rintro e w2 ⟨v2, rfl, ho2, hb2⟩
  obtain ⟨g2, c2, rfl, hgc2, hcm2⟩ := owned_slice ho2 (by omega)
  unfold maxLen at hcm2
  have K2 := hid (further K1.out hb2)
  have V1 := hid (V1.out.below hb2)
  have V2 := hid (View.of_owns ho2)
  clear ho2 hb2 K1
  go_wp2_with fail
  refine (H3.out w2 K2.out).mono ?_
  rintro e w3 ⟨v3, rfl, ho3, hb3⟩
  obtain ⟨g3, c3, rfl, hgc3, hcm3⟩ := owned_slice ho3 (by omega)
  unfold maxLen at hcm3
  have K3 := hid (further K2.out hb3)
  have V1 := hid (V1.out.below hb3)
  have V2 := hid (V2.out.below hb3)
  have V3 := hid (View.of_owns ho3)
  clear ho3 hb3 K2
  go_wp2_with fail
  refine (H4.out w3 K3.out).mono ?_
  rintro e w4 ⟨v4, rfl, ho4, hb4⟩
  obtain ⟨g4, c4, rfl, hgc4, hcm4⟩ := owned_slice ho4 (by omega)
  unfold maxLen at hcm4
  have K4 := hid (further K3.out hb4)
  have V1 := hid (V1.out.below hb4)
  have V2 := hid (V2.out.below hb4)
  have V3 := hid (V3.out.below hb4)
  have V4 := hid (View.of_owns ho4)
  clear ho4 hb4 K3
  have hcut1 := fun W => run_cut_hm g1 X1.length c1 X1.length hgc1 hp1 W
  have hcut2 := fun W => run_cut_hm g2 X2.length c2 X2.length hgc2 hp2 W
  have hcut3 := fun W => run_cut_hm g3 X3.length c3 X3.length hgc3 hp3 W
  have hcut4 := fun W => run_cut_hm g4 X4.length c4 X4.length hgc4 hp4 W
  go_wp2_with (at_builtin; go_must (refine wpList_cut_append rfl (.tmp 59) (.tmp 60) rfl g1 X1.length X1 ts _ rfl rfl rfl (V1.out.recap rfl ⟨Nat.le_refl _, by unfold maxLen; omega⟩) S1.out (HT.out.below K4.out) (by omega) ?_))
  intro p5 w5 hp5 hb5
  have K5 := hid (further K4.out hb5)
  have V2 := hid (V2.out.below hb5)
  have V3 := hid (V3.out.below hb5)
  have V4 := hid (V4.out.below hb5)
  have P5 := hid hp5
  clear hp5 hb5 K4 V1
  go_wp2_with fail
  refine (GetBytes_any _ _ _ P5.out).mono ?_
  rw [E1.out]
  rintro e w6 ⟨he, rfl⟩
  rw [strOfNums_txt] at he
  subst he
  clear P5
  go_wp2_with (at_builtin; go_must (refine wpList_cut_append rfl (.tmp 72) (.tmp 73) rfl g2 X2.length X2 ts _ rfl rfl rfl (V2.out.recap rfl ⟨Nat.le_refl _, by unfold maxLen; omega⟩) S2.out (HT.out.below K5.out) (by omega) ?_))
  intro p7 w7 hp7 hb7
  have K7 := hid (further K5.out hb7)
  have V3 := hid (V3.out.below hb7)
  have V4 := hid (V4.out.below hb7)
  have P7 := hid hp7
  clear hp7 hb7 K5 V2
  go_wp2_with fail
  refine (GetInts_any _ _ _ P7.out (by rw [List.length_append]; omega)).mono ?_
  rw [E2.out]
  rintro e w8 h8
  obtain ⟨v8, rfl, hv8, hb8⟩ := h8.view
  have U8 := hid (show View w8 v8 1 zs.length (zs.map (Value.int .i64)) by rw [← flat_single]; exact hv8)
  have K8 := hid (further K7.out hb8)
  have V3 := hid (V3.out.below hb8)
  have V4 := hid (V4.out.below hb8)
  clear h8 hv8 hb8 K7 P7
  go_wp2_with (at_builtin; go_must (refine wpList_cut_append rfl (.tmp 85) (.tmp 86) rfl g3 X3.length X3 ts _ rfl rfl rfl (V3.out.recap rfl ⟨Nat.le_refl _, by unfold maxLen; omega⟩) S3.out (HT.out.below K8.out) (by omega) ?_))
  intro p9 w9 hp9 hb9
  have K9 := hid (further K8.out hb9)
  have V4 := hid (V4.out.below hb9)
  have U8 := hid (U8.out.below hb9)
  have P9 := hid hp9
  clear hp9 hb9 K8 V3
  go_wp2_with fail
  refine (GetDigests_any _ _ _ P9.out (by rw [List.length_append]; omega)).mono ?_
  rw [E3.out]
  rintro e w10 h10
  obtain ⟨v10, rfl, hv10, hb10⟩ := h10.view
  have U10 := hid (show View w10 v10 16 ds.length (digCells ds) from hv10)
  have U8 := hid (U8.out.below hb10)
  have K10 := hid (further K9.out hb10)
  have V4 := hid (V4.out.below hb10)
  clear h10 hv10 hb10 K9 P9
  go_wp2_with (at_builtin; go_must (refine wpList_cut_append rfl (.tmp 98) (.tmp 99) rfl g4 X4.length X4 ts _ rfl rfl rfl (V4.out.recap rfl ⟨Nat.le_refl _, by unfold maxLen; omega⟩) S4.out (HT.out.below K10.out) (by omega) ?_))
  intro p11 w11 hp11 hb11
  have K11 := hid (further K10.out hb11)
  have U8 := hid (U8.out.below hb11)
  have U10 := hid (U10.out.below hb11)
  have P11 := hid hp11
  clear hp11 hb11 K10 V4
  go_wp2_with fail
  refine (GetStrings_any _ _ _ P11.out (by rw [List.length_append]; omega)).mono ?_
  rw [E4.out]
  rintro e w12 h12
  obtain ⟨v12, rfl, hv12, hb12⟩ := h12.view
  have U12 := hid (show View w12 v12 1 ss.length (ss.map Value.string) by
    have := hv12
    rw [texts_back] at this
    simpa using this)
  have U8 := hid (U8.out.below hb12)
  have U10 := hid (U10.out.below hb12)
  have K12 := hid (further K11.out hb12)
  clear h12 hv12 hb12 K11 P11
  go_wp2_with fail
  refine (sanity_yes w12).mono ?_
  rintro e w13 ⟨rfl, hb13⟩
  have U8 := hid (U8.out.below hb13)
  have U10 := hid (U10.out.below hb13)
  have U12 := hid (U12.out.below hb13)
  have K13 := hid (further K12.out hb13)
  clear hb13 K12
  go_wp2_with fail
  refine (SameTexts_yes _ _ ss.length ss w13 rfl U12.out (HX.out.below K13.out)).mono ?_
  rintro e w14 h14
  obtain ⟨rfl, hb14⟩ := h14.below
  have U8 := hid (U8.out.below hb14)
  have U10 := hid (U10.out.below hb14)
  have K14 := hid (further K13.out hb14)
  clear h14 hb14 K13 U12
  go_wp2_with fail
  refine (SameInts_yes _ _ zs.length zs w14 rfl U8.out (HL.out.below K14.out)).mono ?_
  rintro e w15 h15
  obtain ⟨rfl, hb15⟩ := h15.below
  have U10 := hid (U10.out.below hb15)
  have K15 := hid (further K14.out hb15)
  clear h15 hb15 K14 U8
  go_wp2_with fail
  refine (SameDigests_yes _ _ ds.length ds w15 rfl HD16.out U10.out (HD.out.below K15.out)).mono ?_
  rintro e w16 h16
  obtain ⟨rfl, hb16⟩ := h16.below
  have K16 := hid (further K15.out hb16)
  clear h16 hb16 K15 U10
  go_wp2
  go_ret
  refine ⟨?_, K16.out⟩
  simp

end Go.Proofs.Ytpdphbliaibkhaa
