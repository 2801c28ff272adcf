/-
  gantrylaw01.WireEncodeMatchesSpec answers yes.
-/
import Derived.Test.YtpdphbliaibkhaaWireK
import Derived.Test.YtpdphbliaibkhaaWireL
namespace Go.Proofs.Ytpdphbliaibkhaa
open Go.RowKit
open Go.Lib (hid)
open W

set_option maxRecDepth 100000 in
set_option maxHeartbeats 3200000 in
theorem encode_any (n : Int) (s : ByteArray) (zs : List Int) (ss : List ByteArray) (ds : List (List Int)) (vl vx vd : Value) (w : World)
    (hn1 : n ≤ 9223372036854775807) (hn2 : -9223372036854775808 ≤ n)
    (hl : View w vl 1 zs.length (zs.map (Value.int .i64))) (hz : ∀ z ∈ zs, -9223372036854775808 ≤ z ∧ z ≤ 9223372036854775807)
    (hx : View w vx 1 ss.length (ss.map Value.string)) (hd : View w vd 16 ds.length (digCells ds)) (hd16 : ∀ d ∈ ds, d.length = 16)
    (b1 : s.size ≤ 1048576) (b2 : zs.length ≤ 1048576) (b3 : total ss + ss.length ≤ 1048576) (b4 : ds.length ≤ 1048576) :
    Calls Try.prog 3 #[.int .i64 n, .string s, vl, vx, vd] w fun e w' => e = .returned (.bool true) ∧ Below w.heap.size w w' := by
  have HL := hid hl
  have HX := hid hx
  have HD := hid hd
  have HZ := hid hz
  have HD16 := hid hd16
  obtain ⟨_, al, cl, rfl, hcl, hml, _⟩ := hl
  obtain ⟨_, ad, cd, rfl, hcd, hmd, _⟩ := hd
  unfold maxLen at hml hmd
  clear hx hz hd16
  by_cases hbig : 2000 < s.size + zs.length + ds.length
  · go_enter Try.func3, Try.ntmps3
    go_wp2_with fail
    refine (sanity_yes w).mono ?_
    rintro e w1 ⟨rfl, hb⟩
    have HB := hid hb
    clear hb
    go_wp2
    go_ret
    exact ⟨rfl, HB.out⟩
  by_cases hfew : ss.length + total ss ≤ 2000
  case neg =>
    have hf : decide (ss.length + total ss ≤ 2000) = false := by simp; omega
    go_enter Try.func3, Try.ntmps3
    go_wp2_with fail
    refine (few_any _ ss w HX.out (by omega) (by omega)).mono ?_
    rw [hf]
    rintro e w0 ⟨rfl, hb0⟩
    have HB0 := hid hb0
    clear hb0
    go_wp2_with fail
    refine (sanity_yes w0).mono ?_
    rintro e w1 ⟨rfl, hb⟩
    have HB := hid (further HB0.out hb)
    clear hb
    go_wp2
    go_ret
    exact ⟨rfl, HB.out⟩
  have hf : decide (ss.length + total ss ≤ 2000) = true := by simp; omega
  have H0 : Hid (∀ W, Below w.heap.size w W → Calls Try.prog 14 #[.int .i64 n] W (Fresh W (code n))) := fun W _ => Int_fresh n W hn1 hn2
  have R0 : Hid (∀ W, Below w.heap.size w W → Calls Try.prog 15 #[.int .i64 n] W (Fresh W (code n))) := fun W _ => refInt_any n W hn1 hn2
  have H1 : Hid (∀ W, Below w.heap.size w W → Calls Try.prog 16 #[.string s] W (Fresh W (encBytes (txt s)))) := fun W _ => Bytes_any s W (by omega)
  have R1 : Hid (∀ W, Below w.heap.size w W → Calls Try.prog 17 #[.string s] W (Fresh W (encBytes (txt s)))) := fun W _ => refBytes_any s W (by omega)
  have H2 : Hid (∀ W, Below w.heap.size w W → Calls Try.prog 18 #[.slice al zs.length cl] W (Fresh W (encInts zs))) := fun W hW => Ints_any _ zs W (HL.out.below hW) HZ.out (by omega)
  have R2 : Hid (∀ W, Below w.heap.size w W → Calls Try.prog 19 #[.slice al zs.length cl] W (Fresh W (encInts zs))) := fun W hW => refInts_any _ zs W (HL.out.below hW) HZ.out (by omega)
  have H3 : Hid (∀ W, Below w.heap.size w W → Calls Try.prog 20 #[vx] W (Fresh W (encTexts (ss.map txt)))) := fun W hW => Strings_any _ ss W (HX.out.below hW) (by omega) (by omega)
  have R3 : Hid (∀ W, Below w.heap.size w W → Calls Try.prog 21 #[vx] W (Fresh W (encTexts (ss.map txt)))) := fun W hW => refStrings_any _ ss W (HX.out.below hW) (by omega) (by omega)
  have H4 : Hid (∀ W, Below w.heap.size w W → Calls Try.prog 22 #[.slice ad ds.length cd] W (Fresh W (encDigs ds))) := fun W hW => Digests_any _ ds W (HD.out.below hW) HD16.out (by omega)
  have R4 : Hid (∀ W, Below w.heap.size w W → Calls Try.prog 23 #[.slice ad ds.length cd] W (Fresh W (encDigs ds))) := fun W hW => refDigests_any _ ds W (HD.out.below hW) HD16.out (by omega)
  obtain ⟨X0, hX0⟩ : ∃ X, X = code n := ⟨_, rfl⟩
  rw [← hX0] at H0 R0
  clear hX0
  obtain ⟨X1, hX1⟩ : ∃ X, X = encBytes (txt s) := ⟨_, rfl⟩
  rw [← hX1] at H1 R1
  clear hX1
  obtain ⟨X2, hX2⟩ : ∃ X, X = encInts zs := ⟨_, rfl⟩
  rw [← hX2] at H2 R2
  clear hX2
  obtain ⟨X3, hX3⟩ : ∃ X, X = encTexts (ss.map txt) := ⟨_, rfl⟩
  rw [← hX3] at H3 R3
  clear hX3
  obtain ⟨X4, hX4⟩ : ∃ X, X = encDigs ds := ⟨_, rfl⟩
  rw [← hX4] at H4 R4
  clear hX4
  go_enter Try.func3, Try.ntmps3
  go_wp2_with fail
  refine (few_any _ ss w HX.out (by omega) (by omega)).mono ?_
  rw [hf]
  rintro e w0 ⟨rfl, hb0⟩
  have K := hid hb0
  clear hb0 hf
  go_wp2_with fail
  refine (sanity_yes w0).mono ?_
  rintro e wa ⟨rfl, hb⟩
  have K := hid (further K.out hb)
  clear hb
  go_wp2_with fail
  refine (H0.out _ K.out).mono ?_
  rintro e u0 h0
  obtain ⟨v0, rfl, hv, hb⟩ := h0.view
  have K := hid (further K.out hb)
  have V := hid hv
  clear h0 hb hv
  go_wp2_with fail
  refine (R0.out _ K.out).mono ?_
  rintro e x0 h0
  obtain ⟨r0, rfl, hv, hb⟩ := h0.view
  have K := hid (further K.out hb)
  have V := hid (V.out.below hb)
  have V2 := hid hv
  clear h0 hb hv
  go_wp2_with fail
  refine (Same_yes _ _ X0.length X0 _ rfl V.out V2.out).mono ?_
  rintro e y0 h0
  obtain ⟨rfl, hb⟩ := h0.below
  have K := hid (further K.out hb)
  clear h0 hb V V2
  go_wp2_with fail
  refine (H1.out _ K.out).mono ?_
  rintro e u1 h1
  obtain ⟨v1, rfl, hv, hb⟩ := h1.view
  have K := hid (further K.out hb)
  have V := hid hv
  clear h1 hb hv
  go_wp2_with fail
  refine (R1.out _ K.out).mono ?_
  rintro e x1 h1
  obtain ⟨r1, rfl, hv, hb⟩ := h1.view
  have K := hid (further K.out hb)
  have V := hid (V.out.below hb)
  have V2 := hid hv
  clear h1 hb hv
  go_wp2_with fail
  refine (Same_yes _ _ X1.length X1 _ rfl V.out V2.out).mono ?_
  rintro e y1 h1
  obtain ⟨rfl, hb⟩ := h1.below
  have K := hid (further K.out hb)
  clear h1 hb V V2
  go_wp2_with fail
  refine (H2.out _ K.out).mono ?_
  rintro e u2 h2
  obtain ⟨v2, rfl, hv, hb⟩ := h2.view
  have K := hid (further K.out hb)
  have V := hid hv
  clear h2 hb hv
  go_wp2_with fail
  refine (R2.out _ K.out).mono ?_
  rintro e x2 h2
  obtain ⟨r2, rfl, hv, hb⟩ := h2.view
  have K := hid (further K.out hb)
  have V := hid (V.out.below hb)
  have V2 := hid hv
  clear h2 hb hv
  go_wp2_with fail
  refine (Same_yes _ _ X2.length X2 _ rfl V.out V2.out).mono ?_
  rintro e y2 h2
  obtain ⟨rfl, hb⟩ := h2.below
  have K := hid (further K.out hb)
  clear h2 hb V V2
  go_wp2_with fail
  refine (H3.out _ K.out).mono ?_
  rintro e u3 h3
  obtain ⟨v3, rfl, hv, hb⟩ := h3.view
  have K := hid (further K.out hb)
  have V := hid hv
  clear h3 hb hv
  go_wp2_with fail
  refine (R3.out _ K.out).mono ?_
  rintro e x3 h3
  obtain ⟨r3, rfl, hv, hb⟩ := h3.view
  have K := hid (further K.out hb)
  have V := hid (V.out.below hb)
  have V2 := hid hv
  clear h3 hb hv
  go_wp2_with fail
  refine (Same_yes _ _ X3.length X3 _ rfl V.out V2.out).mono ?_
  rintro e y3 h3
  obtain ⟨rfl, hb⟩ := h3.below
  have K := hid (further K.out hb)
  clear h3 hb V V2
  go_wp2_with fail
  refine (H4.out _ K.out).mono ?_
  rintro e u4 h4
  obtain ⟨v4, rfl, hv, hb⟩ := h4.view
  have K := hid (further K.out hb)
  have V := hid hv
  clear h4 hb hv
  go_wp2_with fail
  refine (R4.out _ K.out).mono ?_
  rintro e x4 h4
  obtain ⟨r4, rfl, hv, hb⟩ := h4.view
  have K := hid (further K.out hb)
  have V := hid (V.out.below hb)
  have V2 := hid hv
  clear h4 hb hv
  go_wp2_with fail
  refine (Same_yes _ _ X4.length X4 _ rfl V.out V2.out).mono ?_
  rintro e y4 h4
  obtain ⟨rfl, hb⟩ := h4.below
  have K := hid (further K.out hb)
  clear h4 hb V V2
  go_wp2
  go_ret
  exact ⟨rfl, K.out⟩

end Go.Proofs.Ytpdphbliaibkhaa
