/-
  gantrylaw01.WireTruncated answers yes.
-/
import Derived.Test.YtpdphbliaibkhaaWireL
namespace Go.Proofs.Ytpdphbliaibkhaa
open Go.RowKit
open Go.Lib (hid)
open W

theorem run_cut_h (g len cap n : Nat) (hn : n ≤ cap) (h0 : 0 < cap) (w : World) :
    (Instr.slice 28 (.slice (some ⟨g, 0, none⟩) len cap) none (some (.int .i64 n)) none).run Try.prog w = .ok (.slice (some ⟨g, 0, none⟩) n cap) w := by
  rw [run_slice_h w _ _ _ _ Try.under28e _ _ (by omega) (by omega), Try.size5]
  simp only [Result.andThen, Int.toNat_natCast, sliced, Nat.sub_zero]
  rw [if_neg (by omega), Option.map_some, Addr.add_lit]

/-- Cut off anywhere, the encoding of kind k is too short for its decoder. -/
def Short (k : Nat) (X : List Int) : Prop :=
  (k = 0 ∧ ∀ i, i < X.length → dec (X.take i) = (0, 0, 3)) ∨
  (k = 1 ∧ ∀ i, i < X.length → decBytes (X.take i) = ([], 0, 3)) ∨
  (k = 2 ∧ ∀ i, i < X.length → decList dec 1 (X.take i) = ([], 0, 3)) ∨
  (k = 3 ∧ ∀ i, i < X.length → decList decBytes 1 (X.take i) = ([], 0, 3)) ∨
  (k = 4 ∧ ∀ i, i < X.length → decList decDig 16 (X.take i) = ([], 0, 3))

/-- What stands at place k of the list of the encodings. -/
def Stands (w : World) (B k : Nat) : Prop :=
  ∃ g c X, w.cell? ⟨B, k, none⟩ = some (.slice (some ⟨g, 0, none⟩) X.length c) ∧ ByteView w (.slice (some ⟨g, 0, none⟩) X.length c) X ∧ 0 < X.length ∧ X.length ≤ 1099511627776 ∧ X.length ≤ c ∧ c ≤ 9223372036854775807 ∧ Short k X

theorem front_bytes {w : World} {ao : Option Addr} {cap u : Nat} {bs : List Int} (hv : ByteView w (.slice ao bs.length cap) bs) (hu : u ≤ bs.length) : ByteView w (.slice ao u cap) (bs.take u) := by
  have h := hv.front hu
  have e : (bs.take u).length = u := by simp; omega
  have h2 : View w (.slice ao u cap) 1 (bs.take u).length ((bs.take u).map (Value.int .u8)) := by rw [e]; exact h
  exact h2.bytes fun x hx => hv.bytes x (List.mem_of_mem_take hx)

theorem cell_of_new (w : World) (cs : Array Value) (ty : TypeId) (k : Nat) (v : Value) (hc : cs[k]? = some v) : (w.alloc (.cells cs ty)).cell? ⟨w.heap.size, k, none⟩ = some v := by
  rw [cell_of_row (w.alloc (.cells cs ty)) w.heap.size k cs ty (0, 0) (heap_alloc_new w _)]
  exact hc

theorem stands_mk {w : World} {cells : Array Value} {ty : TypeId} (k g c : Nat) (X : List Int) (hc : cells[k]? = some (.slice (some ⟨g, 0, none⟩) X.length c)) (hv : View w (.slice (some ⟨g, 0, none⟩) X.length c) 1 X.length (X.map (Value.int .u8))) (hB : Bs X)
    (h1 : 0 < X.length) (h2 : X.length ≤ 1099511627776) (h3 : X.length ≤ c) (h4 : c ≤ 9223372036854775807) (T : Short k X) : Stands (w.alloc (.cells cells ty)) w.heap.size k :=
  ⟨g, c, X, cell_of_new w _ _ k _ hc, (hv.below ((Below.refl _ _).alloc (Nat.le_refl _) _)).bytes hB, h1, h2, h3, h4, T⟩

theorem Stands.below {w w' : World} {B k : Nat} (h : Stands w B k) (hb : Below w.heap.size w w') : Stands w' B k := by
  obtain ⟨g, c, X, h1, h2, h3⟩ := h
  exact ⟨g, c, X, below_keep hb h1, h2.below hb, h3⟩

set_option maxRecDepth 100000 in
set_option maxHeartbeats 6400000 in
theorem truncated_any (n : Int) (s : ByteArray) (zs : List Int) (ss : List ByteArray) (ds : List (List Int)) (vl vx vd : Value) (w : World)
    (hn1 : n ≤ 9223372036854775807) (hn2 : -9223372036854775808 ≤ n)
    (hl : View w vl 1 zs.length (zs.map (Value.int .i64))) (hz : ∀ z ∈ zs, -9223372036854775808 ≤ z ∧ z ≤ 9223372036854775807)
    (hx : View w vx 1 ss.length (ss.map Value.string)) (hd : View w vd 16 ds.length (digCells ds)) (hd16 : ∀ d ∈ ds, d.length = 16) (hdb : ∀ d ∈ ds, Bs d)
    (b1 : s.size ≤ 1048576) (b2 : zs.length ≤ 1048576) (b3 : total ss + ss.length ≤ 1048576) (b4 : ds.length ≤ 1048576) :
    Calls Try.prog 9 #[.int .i64 n, .string s, vl, vx, vd] w fun e w' => e = .returned (.bool true) ∧ Below w.heap.size w w' := by
  have HL := hid hl
  have HX := hid hx
  have HD := hid hd
  have HZ := hid hz
  have HD16 := hid hd16
  have HDB := hid hdb
  obtain ⟨_, al, cl, rfl, hcl, hml, _⟩ := hl
  obtain ⟨_, ax, cx, rfl, hcx, hmx, _⟩ := hx
  obtain ⟨_, ad, cd, rfl, hcd, hmd, _⟩ := hd
  unfold maxLen at hml hmd hmx
  clear hz hd16 hdb
  by_cases hbig : 400 < (s.size : Int) + 9 * zs.length + 16 * ds.length
  · go_enter Try.func9, Try.ntmps9
    go_wp2_with fail
    refine (sanity_yes w).mono ?_
    rintro e w1 ⟨rfl, hb⟩
    have HB := hid hb
    clear hb
    go_wp2
    go_ret
    exact ⟨rfl, HB.out⟩
  by_cases hmany : 40 < ss.length
  · go_enter Try.func9, Try.ntmps9
    go_wp2_with fail
    refine (sanity_yes w).mono ?_
    rintro e w1 ⟨rfl, hb⟩
    have HB := hid hb
    clear hb
    go_wp2
    go_ret
    exact ⟨rfl, HB.out⟩
  by_cases hfew : ss.length + total ss ≤ 2000
  case neg =>
    have hf : decide (ss.length + total ss ≤ 2000) = false := by simp; omega
    go_enter Try.func9, Try.ntmps9
    go_wp2_with fail
    refine (few_any _ ss w HX.out (by omega) (by omega)).mono ?_
    rw [hf]
    rintro e w0 ⟨rfl, hb0⟩
    have HB0 := hid hb0
    clear hb0
    go_wp2_with fail
    refine (sanity_yes w0).mono ?_
    rintro e w1 ⟨rfl, hb⟩
    have HB := hid (further HB0.out hb)
    clear hb
    go_wp2
    go_ret
    exact ⟨rfl, HB.out⟩
  have hf : decide (ss.length + total ss ≤ 2000) = true := by simp; omega
  have hL0 := code_le n
  have hL1 := encBytes_le (txt s)
  rw [txt_length] at hL1
  have hL2 := encInts_le zs
  have hL3 := encTexts_le ss
  have hL4 := encDigs_le HD16.out
  have hp0 := code_pos n
  have hp1 := encBytes_pos (txt s)
  have hp2 := encInts_pos zs
  have hp3 := encTexts_pos (ss.map txt)
  have hp4 := encDigs_pos ds
  have T0 : Hid (Short 0 (code n)) := .inl ⟨rfl, fun i hi => dec_prefix n i hi⟩
  have T1 : Hid (Short 1 (encBytes (txt s))) := .inr (.inl ⟨rfl, fun i hi => decBytes_cut (txt s) (by rw [txt_length]; omega) i hi⟩)
  have T2 : Hid (Short 2 (encInts zs)) := .inr (.inr (.inl ⟨rfl, fun i hi => decInts_cut zs (by omega) HZ.out i hi⟩))
  have T3 : Hid (Short 3 (encTexts (ss.map txt))) := .inr (.inr (.inr (.inl ⟨rfl, fun i hi => decTexts_cut (ss.map txt) (by rw [List.length_map]; omega) (fun x hx => by
    obtain ⟨y, hy, rfl⟩ := List.mem_map.1 hx
    have := total_mem hy
    rw [txt_length]; omega) i hi⟩)))
  have T4 : Hid (Short 4 (encDigs ds)) := .inr (.inr (.inr (.inr ⟨rfl, fun i hi => decDigs_cut ds (by omega) HD16.out i hi⟩)))
  have S0 := hid (code_bs n)
  have S1 := hid (encBytes_bs (txt_bs s))
  have S2 := hid (encInts_bs zs)
  have S3 := hid (encTexts_bs (l := ss.map txt) (fun x hx => by
    obtain ⟨y, hy, rfl⟩ := List.mem_map.1 hx
    exact txt_bs y))
  have S4 := hid (encDigs_bs HDB.out)
  have H0 : Hid (∀ W, Calls Try.prog 14 #[.int .i64 n] W (Fresh W (code n))) := fun W => Int_fresh n W hn1 hn2
  have H1 : Hid (∀ W, Calls Try.prog 16 #[.string s] W (Fresh W (encBytes (txt s)))) := fun W => Bytes_any s W (by omega)
  have H2 : Hid (∀ W, Below w.heap.size w W → Calls Try.prog 18 #[.slice al zs.length cl] W (Fresh W (encInts zs))) := fun W hW => Ints_any _ zs W (HL.out.below hW) HZ.out (by omega)
  have H3 : Hid (∀ W, Below w.heap.size w W → Calls Try.prog 20 #[.slice ax ss.length cx] W (Fresh W (encTexts (ss.map txt)))) := fun W hW => Strings_any _ ss W (HX.out.below hW) (by omega) (by omega)
  have H4 : Hid (∀ W, Below w.heap.size w W → Calls Try.prog 22 #[.slice ad ds.length cd] W (Fresh W (encDigs ds))) := fun W hW => Digests_any _ ds W (HD.out.below hW) HD16.out (by omega)
  obtain ⟨X0, hX0⟩ : ∃ X, X = code n := ⟨_, rfl⟩
  obtain ⟨X1, hX1⟩ : ∃ X, X = encBytes (txt s) := ⟨_, rfl⟩
  obtain ⟨X2, hX2⟩ : ∃ X, X = encInts zs := ⟨_, rfl⟩
  obtain ⟨X3, hX3⟩ : ∃ X, X = encTexts (ss.map txt) := ⟨_, rfl⟩
  obtain ⟨X4, hX4⟩ : ∃ X, X = encDigs ds := ⟨_, rfl⟩
  rw [← hX0] at hL0 hp0 T0 S0 H0
  rw [← hX1] at hL1 hp1 T1 S1 H1
  rw [← hX2] at hL2 hp2 T2 S2 H2
  rw [← hX3] at hL3 hp3 T3 S3 H3
  rw [← hX4] at hL4 hp4 T4 S4 H4
  clear hX0 hX1 hX2 hX3 hX4
  go_enter Try.func9, Try.ntmps9
  go_wp2_with fail
  refine (few_any _ ss w HX.out (by omega) (by omega)).mono ?_
  rw [hf]
  rintro e w0 ⟨rfl, hb0⟩
  have K := hid hb0
  clear hb0 hf
  go_wp2_with fail
  refine (H0.out w0).mono ?_
  rintro e w1 ⟨v1, rfl, ho1, hb1⟩
  obtain ⟨g0, c0, rfl, hgc0, hcm0⟩ := owned_slice ho1 (by omega)
  unfold maxLen at hcm0
  have K := hid (further K.out hb1)
  have V0 := hid (View.of_owns ho1)
  clear ho1 hb1
  go_wp2_with fail
  refine (H1.out w1).mono ?_
  rintro e w2 ⟨v2, rfl, ho2, hb2⟩
  obtain ⟨g1, c1, rfl, hgc1, hcm1⟩ := owned_slice ho2 (by omega)
  unfold maxLen at hcm1
  have K := hid (further K.out hb2)
  have V0 := hid (V0.out.below hb2)
  have V1 := hid (View.of_owns ho2)
  clear ho2 hb2
  go_wp2_with fail
  refine (H2.out w2 K.out).mono ?_
  rintro e w3 ⟨v3, rfl, ho3, hb3⟩
  obtain ⟨g2, c2, rfl, hgc2, hcm2⟩ := owned_slice ho3 (by omega)
  unfold maxLen at hcm2
  have K := hid (further K.out hb3)
  have V0 := hid (V0.out.below hb3)
  have V1 := hid (V1.out.below hb3)
  have V2 := hid (View.of_owns ho3)
  clear ho3 hb3
  go_wp2_with fail
  refine (H3.out w3 K.out).mono ?_
  rintro e w4 ⟨v4, rfl, ho4, hb4⟩
  obtain ⟨g3, c3, rfl, hgc3, hcm3⟩ := owned_slice ho4 (by omega)
  unfold maxLen at hcm3
  have K := hid (further K.out hb4)
  have V0 := hid (V0.out.below hb4)
  have V1 := hid (V1.out.below hb4)
  have V2 := hid (V2.out.below hb4)
  have V3 := hid (View.of_owns ho4)
  clear ho4 hb4
  go_wp2_with fail
  refine (H4.out w4 K.out).mono ?_
  rintro e w5 ⟨v5, rfl, ho5, hb5⟩
  obtain ⟨g4, c4, rfl, hgc4, hcm4⟩ := owned_slice ho5 (by omega)
  unfold maxLen at hcm4
  have K := hid (further K.out hb5)
  have V0 := hid (V0.out.below hb5)
  have V1 := hid (V1.out.below hb5)
  have V2 := hid (V2.out.below hb5)
  have V3 := hid (V3.out.below hb5)
  have V4 := hid (View.of_owns ho5)
  clear ho5 hb5
  go_wp2
  have HS : Hid (∀ k, k < 5 → Stands (w5.alloc (.cells #[.slice (some ⟨g0, 0, none⟩) X0.length c0, .slice (some ⟨g1, 0, none⟩) X1.length c1, .slice (some ⟨g2, 0, none⟩) X2.length c2, .slice (some ⟨g3, 0, none⟩) X3.length c3, .slice (some ⟨g4, 0, none⟩) X4.length c4] 28)) w5.heap.size k) := fun k hk => by
    rcases (show k = 0 ∨ k = 1 ∨ k = 2 ∨ k = 3 ∨ k = 4 by omega) with rfl | rfl | rfl | rfl | rfl
    · exact stands_mk 0 g0 c0 X0 rfl V0.out S0.out hp0 (by omega) hgc0 (by omega) T0.out
    · exact stands_mk 1 g1 c1 X1 rfl V1.out S1.out hp1 (by omega) hgc1 (by omega) T1.out
    · exact stands_mk 2 g2 c2 X2 rfl V2.out S2.out hp2 (by omega) hgc2 (by omega) T2.out
    · exact stands_mk 3 g3 c3 X3 rfl V3.out S3.out hp3 (by omega) hgc3 (by omega) T3.out
    · exact stands_mk 4 g4 c4 X4 rfl V4.out S4.out hp4 (by omega) hgc4 (by omega) T4.out
  have K := hid (show Below w.heap.size w (w5.alloc (.cells #[.slice (some ⟨g0, 0, none⟩) X0.length c0, .slice (some ⟨g1, 0, none⟩) X1.length c1, .slice (some ⟨g2, 0, none⟩) X2.length c2, .slice (some ⟨g3, 0, none⟩) X3.length c3, .slice (some ⟨g4, 0, none⟩) X4.length c4] 28)) from further K.out ((Below.refl _ _).alloc (Nat.le_refl _) _))
  clear V0 V1 V2 V3 V4 T0 T1 T2 T3 T4 S0 S1 S2 S3 S4 H0 H1 H2 H3 H4 hgc0 hgc1 hgc2 hgc3 hgc4 hcm0 hcm1 hcm2 hcm3 hcm4
  generalize w5.alloc (.cells #[.slice (some ⟨g0, 0, none⟩) X0.length c0, .slice (some ⟨g1, 0, none⟩) X1.length c1, .slice (some ⟨g2, 0, none⟩) X2.length c2, .slice (some ⟨g3, 0, none⟩) X3.length c3, .slice (some ⟨g4, 0, none⟩) X4.length c4] 28) = w6 at HS K ⊢
  go_loopw [49] (fun i wr => ∃ k : Nat, k ≤ 5 ∧ i = .int .i64 k ∧ Below w6.heap.size w6 wr) (fun i _ => 5 - (intOf i).toNat)
  case atStart => exact ⟨0, by omega, rfl, Below.refl _ _⟩
  case round =>
    obtain ⟨k, hk, rfl, hbel⟩ := hrel
    have HB := hid hbel
    clear hbel
    by_cases hk5 : k < 5
    · obtain ⟨g, c, X, hcell, hX⟩ := (HS.out k hk5).below HB.out
      obtain ⟨hXv, hX1, hX2, hX3, hX4, hT⟩ := hX
      have HXV := hid hXv
      have HT := hid hT
      clear hXv hT
      have hcell0 : wr.cell? ⟨w5.heap.size, 0 + k, none⟩ = some (.slice (some ⟨g, 0, none⟩) X.length c) := by rw [Nat.zero_add]; exact hcell
      obtain ⟨wo, rfl⟩ : ∃ wo : World, wo = wr := ⟨_, rfl⟩
      go_wp2
      all_goals
        go_loopw [57] (fun i wr => ∃ j : Nat, j ≤ X.length ∧ i = .int .i64 j ∧ Below wo.heap.size wo wr) (fun i _ => X.length - (intOf i).toNat)
        case atStart => exact ⟨0, by omega, rfl, Below.refl _ _⟩
        case round =>
          obtain ⟨j, hj, rfl, hbel⟩ := hrel
          have HJ := hid hbel
          clear hbel
          by_cases hlt : j < X.length ∧ j < 500
          · obtain ⟨hlt1, hlt2⟩ := hlt
            have hcut := fun W => run_cut_h g X.length c j (by omega) (by omega) W
            have HP := hid (front_bytes (HXV.out.below HJ.out) hj)
            have htl : (X.take j).length ≤ 1099511627776 := by rw [List.length_take]; omega
            rcases HT.out with ⟨ke, hs⟩ | ⟨ke, hs⟩ | ⟨ke, hs⟩ | ⟨ke, hs⟩ | ⟨ke, hs⟩
            · have HS := hid (hs j hlt1)
              have k0 : 0 ≤ k := by omega
              have k1 : k ≤ 0 := by omega
              clear hs ke
              go_wp2_with fail
              refine (GetInt_any _ (X.take j) _ HP.out).mono ?_
              rw [HS.out]
              rintro e w8 ⟨rfl, rfl⟩
              go_wp2
              go_roundw
              case rel => exact ⟨j + 1, by omega, by go_num, HJ.out⟩
              case measure => simp [intOf]; omega
            · have HS := hid (hs j hlt1)
              have k0 : 1 ≤ k := by omega
              have k1 : k ≤ 1 := by omega
              clear hs ke
              go_wp2_with fail
              refine (GetBytes_any _ (X.take j) _ HP.out).mono ?_
              rw [HS.out]
              rintro e w8 ⟨rfl, rfl⟩
              go_wp2
              go_roundw
              case rel => exact ⟨j + 1, by omega, by go_num, HJ.out⟩
              case measure => simp [intOf]; omega
            · have HS := hid (hs j hlt1)
              have k0 : 2 ≤ k := by omega
              have k1 : k ≤ 2 := by omega
              clear hs ke
              go_wp2_with fail
              refine (GetInts_any _ (X.take j) _ HP.out htl).mono ?_
              rw [HS.out]
              rintro e w8 h8
              obtain ⟨v8, rfl, _, hb8⟩ := h8.view
              have HJ8 := hid (further HJ.out hb8)
              clear h8 hb8
              go_wp2
              go_roundw
              case rel => exact ⟨j + 1, by omega, by go_num, HJ8.out⟩
              case measure => simp [intOf]; omega
            · have HS := hid (hs j hlt1)
              have k0 : 3 ≤ k := by omega
              have k1 : k ≤ 3 := by omega
              clear hs ke
              go_wp2_with fail
              refine (GetStrings_any _ (X.take j) _ HP.out htl).mono ?_
              rw [HS.out]
              rintro e w8 h8
              obtain ⟨v8, rfl, _, hb8⟩ := h8.view
              have HJ8 := hid (further HJ.out hb8)
              clear h8 hb8
              go_wp2
              go_roundw
              case rel => exact ⟨j + 1, by omega, by go_num, HJ8.out⟩
              case measure => simp [intOf]; omega
            · have HS := hid (hs j hlt1)
              have k0 : 4 ≤ k := by omega
              have k1 : k ≤ 4 := by omega
              clear hs ke
              go_wp2_with fail
              refine (GetDigests_any _ (X.take j) _ HP.out htl).mono ?_
              rw [HS.out]
              rintro e w8 h8
              obtain ⟨v8, rfl, _, hb8⟩ := h8.view
              have HJ8 := hid (further HJ.out hb8)
              clear h8 hb8
              go_wp2
              go_roundw
              case rel => exact ⟨j + 1, by omega, by go_num, HJ8.out⟩
              case measure => simp [intOf]; omega
          · have HB9 := hid (further HB.out HJ.out)
            go_wp2
            go_roundw
            case rel => exact ⟨k + 1, by omega, by go_num, HB9.out⟩
            case measure => simp [intOf]; omega
    · obtain rfl : k = 5 := by omega
      go_wp2_with fail
      refine (sanity_yes wr).mono ?_
      rintro e w7 ⟨rfl, hb⟩
      have HB7 := hid (further K.out (further HB.out hb))
      clear hb
      go_wp2
      go_ret
      exact ⟨rfl, HB7.out⟩

end Go.Proofs.Ytpdphbliaibkhaa
