/-
  gantrylaw01.sanity answers yes.
-/
import Derived.Test.YtpdphbliaibkhaaWireH
namespace Go.Proofs.Ytpdphbliaibkhaa
open Go.RowKit
open Go.Lib (hid)
open W

theorem View.lit (W : World) (E : TypeId) (b size n : Nat) (cs : List Value) (hb : b = W.heap.size) (hl : cs.length = n * size) (hn : n ≤ 1000000) : View (W.alloc (.cells cs.toArray E)) (.slice (some ⟨b, 0, none⟩) n n) size n cs :=
  ⟨hl, _, n, rfl, Nat.le_refl _, by unfold maxLen; omega, fun _ => ⟨b, 0, rfl, fun i x hx => range_new W b cs E hb i x hx⟩⟩

theorem bytes_lit (W : World) (E : TypeId) (b n : Nat) (bs : List Int) (cs : List Value) (hc : cs = bs.map (Value.int .u8)) (hb : b = W.heap.size) (hl : bs.length = n) (hn : n ≤ 1000000) (hB : ∀ x ∈ bs, 0 ≤ x ∧ x ≤ 255) : ByteView (W.alloc (.cells cs.toArray E)) (.slice (some ⟨b, 0, none⟩) n n) bs := by
  subst hc hl
  exact (View.lit W E b 1 bs.length _ hb (by simp) hn).bytes hB

theorem Yes.below {w w' : World} {e : Ending} (h : Yes w e w') : e = .returned (.bool true) ∧ Below w.heap.size w w' := by
  obtain ⟨h1, n, rfl⟩ := h
  exact ⟨h1, below_drewN (Below.refl _ _) n⟩

theorem Fresh.view {w w' : World} {bs : List Int} {e : Ending} (h : Fresh w bs e w') : ∃ v, e = .returned v ∧ View w' v 1 bs.length (bs.map (Value.int .u8)) ∧ Below w.heap.size w w' := by
  obtain ⟨v, h1, h2, h3⟩ := h
  exact ⟨v, h1, View.of_owns h2, h3⟩

theorem Listed.view {α : Type} {w w' : World} {E : TypeId} {size : Nat} {cells : α → List Value} {r : List α × Nat × Int} {e : Ending} (h : Listed w E size cells r e w') : ∃ v, e = .returned (.tuple #[v, .int .i64 r.2.1, .int .i64 r.2.2]) ∧ View w' v size r.1.length (r.1.flatMap cells) ∧ Below w.heap.size w w' := by
  obtain ⟨h3, v, h1, h2⟩ := h
  exact ⟨v, h1, View.of_owns h2, h3⟩

/-- A world further on. -/
theorem further {w a b : World} (h : Below w.heap.size w a) (k : Below a.heap.size a b) : Below w.heap.size w b := h.trans (k.mono h.size)

set_option maxRecDepth 100000 in
set_option maxHeartbeats 1600000 in
theorem sanity_yes (w : World) :
    Calls Try.prog 12 #[] w fun e w' => e = .returned (.bool true) ∧ Below w.heap.size w w' := by
  have d1 : dec [130, 1, 0, 9] = (256, 3, 0) := by decide
  have d2 : dec [130, 1] = (0, 0, 3) := by decide
  have d3 : dec [129, 0] = (0, 0, 2) := by decide
  have d4 : decBytes [129, 2, 97, 98, 7] = ([97, 98], 4, 0) := by decide
  have d5 : decList dec 1 [129, 2, 129, 1, 127] = ([1, -1], 5, 0) := by decide
  have D7 : Hid (decList decDig 16 (encDigs [[1, 2, 0, 0, 0, 0, 0, 0, 0, 0, 0, 0, 0, 0, 0, 0]]) = ([[1, 2, 0, 0, 0, 0, 0, 0, 0, 0, 0, 0, 0, 0, 0, 0]], 18, 0)) := by show _ = _; decide
  have D8 : Hid (decList decBytes 1 [129, 2, 128, 129, 1, 97, 5] = ([[], [97]], 6, 0)) := by show _ = _; decide
  have D1 := hid d1
  have D2 := hid d2
  have D3 := hid d3
  have D4 := hid d4
  have D5 := hid d5
  clear d1 d2 d3 d4 d5
  have hs97 : strOfNums [97, 98] = ⟨#[97, 98]⟩ := rfl
  go_enter Try.func12, Try.ntmps12
  go_wp2_with fail
  refine (GetInt_any _ [130, 1, 0, 9] _ (bytes_lit _ _ _ _ _ _ rfl rfl rfl (by decide) (by decide))).mono ?_
  rw [D1.out]
  rintro e w1 ⟨rfl, rfl⟩
  go_wp2_with fail
  refine (GetInt_any _ [130, 1] _ (bytes_lit _ _ _ _ _ _ rfl (by simp) rfl (by decide) (by decide))).mono ?_
  rw [D2.out]
  rintro e w2 ⟨rfl, rfl⟩
  go_wp2_with fail
  refine (GetInt_any _ [129, 0] _ (bytes_lit _ _ _ _ _ _ rfl (by simp) rfl (by decide) (by decide))).mono ?_
  rw [D3.out]
  rintro e w3 ⟨rfl, rfl⟩
  go_wp2_with fail
  refine (GetBytes_any _ [129, 2, 97, 98, 7] _ (bytes_lit _ _ _ _ _ _ rfl (by simp) rfl (by decide) (by decide))).mono ?_
  rw [D4.out]
  rintro e w4 ⟨rfl, rfl⟩
  go_wp2_with fail
  refine (GetInts_any _ [129, 2, 129, 1, 127] _ (bytes_lit _ _ _ _ _ _ rfl (by simp) rfl (by decide) (by decide)) (by decide)).mono ?_
  rw [D5.out]
  rintro e w5 h5
  obtain ⟨l5, rfl, hv5, hb5⟩ := h5.view
  have H5 := hid (show Below w.heap.size w w5 from further (by repeat (first | exact Below.refl _ _ | refine Below.alloc ?_ (by simp; try omega) _)) hb5)
  have L5 := hid hv5
  clear h5 hb5 hv5
  go_wp2_with fail
  refine (Digests_any _ [[1, 2, 0, 0, 0, 0, 0, 0, 0, 0, 0, 0, 0, 0, 0, 0]] _ (View.lit _ _ _ _ _ _ (by simp) rfl (by decide)) (by decide) (by decide)).mono ?_
  rintro e w6 h6
  obtain ⟨v6, rfl, hv6, hb6⟩ := h6.view
  have H6 := hid (further (further H5.out (by repeat (first | exact Below.refl _ _ | refine Below.alloc ?_ (by simp; try omega) _))) hb6)
  have V6 := hid hv6
  have K6 := hid (show Below w5.heap.size w5 w6 from further (by repeat (first | exact Below.refl _ _ | refine Below.alloc ?_ (by simp; try omega) _)) hb6)
  have KD := hid (show Below (w5.alloc (.cells #[.int .u8 1, .int .u8 2, .int .u8 0, .int .u8 0, .int .u8 0, .int .u8 0, .int .u8 0, .int .u8 0, .int .u8 0, .int .u8 0, .int .u8 0, .int .u8 0, .int .u8 0, .int .u8 0, .int .u8 0, .int .u8 0] 57)).heap.size (w5.alloc (.cells #[.int .u8 1, .int .u8 2, .int .u8 0, .int .u8 0, .int .u8 0, .int .u8 0, .int .u8 0, .int .u8 0, .int .u8 0, .int .u8 0, .int .u8 0, .int .u8 0, .int .u8 0, .int .u8 0, .int .u8 0, .int .u8 0] 57)) w6 from further (by repeat (first | exact Below.refl _ _ | refine Below.alloc ?_ (by simp; try omega) _)) hb6)
  clear h6 hb6 hv6
  go_wp2_with fail
  refine (GetDigests_any _ _ _ (V6.out.bytes (show ∀ x ∈ encDigs [[1, 2, 0, 0, 0, 0, 0, 0, 0, 0, 0, 0, 0, 0, 0, 0]], 0 ≤ x ∧ x ≤ 255 by decide)) (by decide)).mono ?_
  rw [D7.out]
  rintro e w7 h7
  obtain ⟨v7, rfl, hv7, hb7⟩ := h7.view
  have H7 := hid (further H6.out hb7)
  have K7 := hid (further K6.out hb7)
  have KD7 := hid (further KD.out hb7)
  have V7 := hid hv7
  clear h7 hb7 hv7
  go_wp2_with fail
  refine (GetStrings_any _ [129, 2, 128, 129, 1, 97, 5] _ (bytes_lit _ _ _ _ _ _ rfl (by simp) rfl (by decide) (by decide)) (by decide)).mono ?_
  rw [D8.out]
  rintro e w8 h8
  obtain ⟨v8, rfl, hv8, hb8⟩ := h8.view
  have J8 := hid (show Below w7.heap.size w7 w8 from further (by repeat (first | exact Below.refl _ _ | refine Below.alloc ?_ (by simp; try omega) _)) hb8)
  have H8 := hid (further H7.out J8.out)
  have K8 := hid (further K7.out J8.out)
  have KD8 := hid (further KD7.out J8.out)
  have V8 := hid hv8
  clear h8 hb8 hv8
  go_wp2_with fail
  refine (SameTexts_yes _ _ 2 [⟨#[]⟩, ⟨#[97]⟩] _ rfl (View.below V8.out (by repeat (first | exact Below.refl _ _ | refine Below.alloc ?_ (by simp; try omega) _))) (View.lit _ _ _ _ _ _ rfl rfl (by decide))).mono ?_
  rintro e w9 h9
  obtain ⟨rfl, hb9⟩ := h9.below
  have J9 := hid (show Below w8.heap.size w8 w9 from further (by repeat (first | exact Below.refl _ _ | refine Below.alloc ?_ (by simp; try omega) _)) hb9)
  clear h9 hb9
  go_wp2_with fail
  refine (Strings_any _ [⟨#[]⟩, ⟨#[97]⟩] _ (View.lit _ _ _ _ _ _ rfl rfl (by decide)) (by decide) (by decide)).mono ?_
  rintro e w10 h10
  obtain ⟨v10, rfl, hv10, hb10⟩ := h10.view
  have J10 := hid (further (further J9.out (by repeat (first | exact Below.refl _ _ | refine Below.alloc ?_ (by simp; try omega) _))) hb10)
  have V10 := hid hv10
  clear h10 hb10 hv10
  go_wp2_with fail
  refine (Same_yes _ _ 6 [129, 2, 128, 129, 1, 97] _ rfl (View.below V10.out (by repeat (first | exact Below.refl _ _ | refine Below.alloc ?_ (by simp; try omega) _))) (View.lit _ _ _ _ _ _ rfl rfl (by decide))).mono ?_
  rintro e w11 h11
  obtain ⟨rfl, hb11⟩ := h11.below
  have J11 := hid (further (further J10.out (by repeat (first | exact Below.refl _ _ | refine Below.alloc ?_ (by simp; try omega) _))) hb11)
  clear h11 hb11 V10 J9 J10 V8
  go_wp2_with fail
  refine (Int_fresh (-257) _ (by decide) (by decide)).mono ?_
  rintro e w12 h12
  obtain ⟨v12, rfl, hv12, hb12⟩ := h12.view
  have J12 := hid (further J11.out hb12)
  have V12 := hid hv12
  clear h12 hb12 hv12
  go_wp2_with fail
  refine (Same_yes _ _ 3 [125, 254, 255] _ rfl (View.below V12.out (by repeat (first | exact Below.refl _ _ | refine Below.alloc ?_ (by simp; try omega) _))) (View.lit _ _ _ _ _ _ rfl rfl (by decide))).mono ?_
  rintro e w13 h13
  obtain ⟨rfl, hb13⟩ := h13.below
  have J13 := hid (further (further J12.out (by repeat (first | exact Below.refl _ _ | refine Below.alloc ?_ (by simp; try omega) _))) hb13)
  clear h13 hb13 V12 J11 J12
  go_wp2_with fail
  refine (SameInts_yes _ _ 2 [1, -1] _ rfl (View.below L5.out (further (further K8.out J13.out) (by repeat (first | exact Below.refl _ _ | refine Below.alloc ?_ (by simp; try omega) _)))) (View.lit _ _ _ _ _ _ rfl rfl (by decide))).mono ?_
  rintro e w14 h14
  obtain ⟨rfl, hb14⟩ := h14.below
  have J14 := hid (further (further J13.out (by repeat (first | exact Below.refl _ _ | refine Below.alloc ?_ (by simp; try omega) _))) hb14)
  clear h14 hb14 J13 L5
  go_wp2_with fail
  refine (Bytes_any ⟨#[97, 98]⟩ _ (by decide)).mono ?_
  rintro e w15 h15
  obtain ⟨v15, rfl, hv15, hb15⟩ := h15.view
  have J15 := hid (further J14.out hb15)
  have V15 := hid hv15
  clear h15 hb15 hv15
  go_wp2_with fail
  refine (Same_yes _ _ 4 [129, 2, 97, 98] _ rfl (View.below V15.out (by repeat (first | exact Below.refl _ _ | refine Below.alloc ?_ (by simp; try omega) _))) (View.lit _ _ _ _ _ _ rfl rfl (by decide))).mono ?_
  rintro e w16 h16
  obtain ⟨rfl, hb16⟩ := h16.below
  have J16 := hid (further (further J15.out (by repeat (first | exact Below.refl _ _ | refine Below.alloc ?_ (by simp; try omega) _))) hb16)
  clear h16 hb16 V15 J14 J15
  go_wp2_with fail
  refine (Ints_any _ [1, -1] _ (View.lit _ _ _ _ _ _ rfl rfl (by decide)) (by decide) (by decide)).mono ?_
  rintro e w17 h17
  obtain ⟨v17, rfl, hv17, hb17⟩ := h17.view
  have J17 := hid (further (further J16.out (by repeat (first | exact Below.refl _ _ | refine Below.alloc ?_ (by simp; try omega) _))) hb17)
  have V17 := hid hv17
  clear h17 hb17 hv17
  go_wp2_with fail
  refine (Same_yes _ _ 5 [129, 2, 129, 1, 127] _ rfl (View.below V17.out (by repeat (first | exact Below.refl _ _ | refine Below.alloc ?_ (by simp; try omega) _))) (View.lit _ _ _ _ _ _ rfl rfl (by decide))).mono ?_
  rintro e w18 h18
  obtain ⟨rfl, hb18⟩ := h18.below
  have J18 := hid (further (further J17.out (by repeat (first | exact Below.refl _ _ | refine Below.alloc ?_ (by simp; try omega) _))) hb18)
  clear h18 hb18 V17 J16 J17
  have hrd : ∀ (j : Nat) (x : Value), ([1, 2, 0, 0, 0, 0, 0, 0, 0, 0, 0, 0, 0, 0, 0, 0].map (Value.int .u8))[j]? = some x → w18.cell? ⟨w5.heap.size, j, none⟩ = some x := fun j x hx => by
    have := below_keep (further KD8.out J18.out) (range_new w5 w5.heap.size _ 57 rfl j x hx)
    rwa [Nat.zero_add] at this
  have c0 : w18.cell? ⟨w5.heap.size, 0, none⟩ = some (.int .u8 1) := hrd 0 _ rfl
  have c1 : w18.cell? ⟨w5.heap.size, 1, none⟩ = some (.int .u8 2) := hrd 1 _ rfl
  have c2 : w18.cell? ⟨w5.heap.size, 2, none⟩ = some (.int .u8 0) := hrd 2 _ rfl
  have c3 : w18.cell? ⟨w5.heap.size, 3, none⟩ = some (.int .u8 0) := hrd 3 _ rfl
  have c4 : w18.cell? ⟨w5.heap.size, 4, none⟩ = some (.int .u8 0) := hrd 4 _ rfl
  have c5 : w18.cell? ⟨w5.heap.size, 5, none⟩ = some (.int .u8 0) := hrd 5 _ rfl
  have c6 : w18.cell? ⟨w5.heap.size, 6, none⟩ = some (.int .u8 0) := hrd 6 _ rfl
  have c7 : w18.cell? ⟨w5.heap.size, 7, none⟩ = some (.int .u8 0) := hrd 7 _ rfl
  have c8 : w18.cell? ⟨w5.heap.size, 8, none⟩ = some (.int .u8 0) := hrd 8 _ rfl
  have c9 : w18.cell? ⟨w5.heap.size, 9, none⟩ = some (.int .u8 0) := hrd 9 _ rfl
  have c10 : w18.cell? ⟨w5.heap.size, 10, none⟩ = some (.int .u8 0) := hrd 10 _ rfl
  have c11 : w18.cell? ⟨w5.heap.size, 11, none⟩ = some (.int .u8 0) := hrd 11 _ rfl
  have c12 : w18.cell? ⟨w5.heap.size, 12, none⟩ = some (.int .u8 0) := hrd 12 _ rfl
  have c13 : w18.cell? ⟨w5.heap.size, 13, none⟩ = some (.int .u8 0) := hrd 13 _ rfl
  have c14 : w18.cell? ⟨w5.heap.size, 14, none⟩ = some (.int .u8 0) := hrd 14 _ rfl
  have c15 : w18.cell? ⟨w5.heap.size, 15, none⟩ = some (.int .u8 0) := hrd 15 _ rfl
  clear hrd
  go_wp2_with fail
  refine (SameDigests_yes _ _ 1 [[1, 2, 0, 0, 0, 0, 0, 0, 0, 0, 0, 0, 0, 0, 0, 0]] _ rfl (by decide) (View.below V7.out (further (further J8.out J18.out) (by repeat (first | exact Below.refl _ _ | refine Below.alloc ?_ (by simp; try omega) _)))) (View.lit _ _ _ _ _ _ rfl rfl (by decide))).mono ?_
  rintro e w19 h19
  obtain ⟨rfl, hb19⟩ := h19.below
  have J19 := hid (further (further J18.out (by repeat (first | exact Below.refl _ _ | refine Below.alloc ?_ (by simp; try omega) _))) hb19)
  clear h19 hb19 V7 J18
  go_wp2
  go_ret
  exact ⟨rfl, further H8.out J19.out⟩

end Go.Proofs.Ytpdphbliaibkhaa
