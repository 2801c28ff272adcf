/-
  gantrylaw01.WireConcat answers yes.
-/
import Derived.Test.YtpdphbliaibkhaaWireT
import Derived.Test.YtpdphbliaibkhaaWire2
namespace Go.Proofs.Ytpdphbliaibkhaa
open Go.RowKit
open Go.Lib (hid)
open W

theorem code_bs_append {a b : List Int} (ha : Bs a) (hb : Bs b) : Bs (a ++ b) := ha.append hb
theorem encBytes_bs {s : List Int} (h : Bs s) : Bs (encBytes s) := (code_bs _).append h
theorem flat_bs {α : Type} {c : α → List Int} {l : List α} (h : ∀ x ∈ l, Bs (c x)) : Bs (l.flatMap c) := by
  intro x hx
  obtain ⟨a, ha, hxa⟩ := List.mem_flatMap.1 hx
  exact h a ha x hxa
theorem encInts_bs (l : List Int) : Bs (encInts l) := (code_bs _).append (flat_bs fun x _ => code_bs x)
theorem encTexts_bs {l : List (List Int)} (h : ∀ s ∈ l, Bs s) : Bs (encTexts l) := (code_bs _).append (flat_bs fun x hx => encBytes_bs (h x hx))
theorem encDigs_bs {l : List (List Int)} (h : ∀ s ∈ l, Bs s) : Bs (encDigs l) := (code_bs _).append (flat_bs fun x hx => h x hx)
theorem encInts_pos (l : List Int) : 0 < (encInts l).length := by have := code_pos (l.length : Int); rw [encInts, List.length_append]; omega
theorem encBytes_pos (l : List Int) : 0 < (encBytes l).length := by have := code_pos (l.length : Int); rw [encBytes, List.length_append]; omega
theorem encTexts_pos (l : List (List Int)) : 0 < (encTexts l).length := by have := code_pos (l.length : Int); rw [encTexts, List.length_append]; omega
theorem encDigs_pos (l : List (List Int)) : 0 < (encDigs l).length := by have := code_pos (l.length : Int); rw [encDigs, List.length_append]; omega
theorem encInts_le (l : List Int) : (encInts l).length ≤ 9 + 9 * l.length := by
  have h1 := code_le (l.length : Int)
  have h2 := codes_le l
  rw [encInts, List.length_append]; omega

theorem flat_single {α β : Type} (f : α → β) (l : List α) : (l.flatMap fun x => [f x]) = l.map f := by
  induction l with
  | nil => rfl
  | cons x l ih => rw [List.flatMap_cons, ih]; rfl

/-- What is owned stays owned. -/
theorem owned_kept {w w' : World} {base : Nat} {E : TypeId} {v : Value} {size n : Nat} {xs : List Value} (h : w.ownsRow base E size v n xs) (hb : Below w.heap.size w w') : w'.ownsRow base E size v n xs :=
  h.kept (Below.grownBy hb none) (by cases hv : v.ownBlock <;> simp)

set_option maxHeartbeats 1600000 in
theorem concat_any (s : ByteArray) (lv : Value) (zs : List Int) (w : World) (hs : s.size ≤ 140737488351232) (hl : zs.length ≤ 140737488351232) (hv : View w lv 1 zs.length (zs.map (Value.int .i64))) (hz : ∀ z ∈ zs, -9223372036854775808 ≤ z ∧ z ≤ 9223372036854775807) :
    Calls Try.prog 10 #[.string s, lv] w fun e w' => e = .returned (.bool true) ∧ Below w.heap.size w w' := by
  have HV := hid hv
  have HZ := hid hz
  obtain ⟨_, ao, cap, rfl, hlc, hcm, _⟩ := hv
  clear hz
  unfold maxLen at hcm
  by_cases hbig : 2000 < (s.size : Int) + zs.length
  · go_enter Try.func10, Try.ntmps10
    go_wp2_with fail
    refine (sanity_yes w).mono ?_
    rintro e w1 ⟨rfl, hb⟩
    have HB := hid hb
    clear hb
    go_wp2
    go_ret
    exact ⟨rfl, HB.out⟩
  · obtain ⟨i0, hi, hz0, hz1, hz2⟩ := info_parts Try.info5
    have hbs := encBytes_le (txt s)
    rw [txt_length] at hbs
    have hbi := encInts_le zs
    have hp1 := encBytes_pos (txt s)
    have hp2 := encInts_pos zs
    have HD1 := hid (decBytes_enc (txt s) (encInts zs) (by rw [txt_length]; omega))
    have HD2 := hid (by have := decInts_enc zs (by omega) HZ.out []; rwa [List.append_nil] at this)
    have HBS := hid (show Bs (encBytes (txt s) ++ encInts zs) from (encBytes_bs (txt_bs s)).append (encInts_bs zs))
    obtain ⟨X, hX⟩ : ∃ X, X = encBytes (txt s) := ⟨_, rfl⟩
    obtain ⟨Y, hY⟩ : ∃ Y, Y = encInts zs := ⟨_, rfl⟩
    have H1 := hid (Bytes_any s (w.alloc (.cells #[] 5)) (by omega))
    have H2 : Hid (∀ W, Below w.heap.size w W → Calls Try.prog 18 #[.slice ao zs.length cap] W (Fresh W (encInts zs))) := fun W hW => Ints_any _ zs W (HV.out.below hW) HZ.out (by omega)
    rw [← hX] at hbs hp1 HD1 HBS H1
    rw [← hY] at hbi hp2 HD1 HD2 HBS H2
    clear hX hY
    go_enter Try.func10, Try.ntmps10
    go_wp2_with fail
    refine H1.out.mono ?_
    rintro e w1 ⟨v1, rfl, ho1, hb1⟩
    obtain ⟨g1, c1, rfl, hgc1, hcm1⟩ := owned_slice ho1 (by omega)
    unfold maxLen at hcm1
    have HO1 := hid ho1
    have HB1 := hid (show Below w.heap.size w w1 from further (by repeat (first | exact Below.refl _ _ | refine Below.alloc ?_ (by simp; try omega) _)) hb1)
    have HE := hid (owned_kept (World.ownsRow_lit (size := 1) (e := 5) w #[] 0 (Nat.le_refl _) (by unfold maxLen; omega) rfl) hb1)
    clear ho1 hb1
    go_wp2_with (at_builtin; go_must (refine wpList_append_own _ rfl (.tmp 19) (.tmp 21) 28 rfl w.heap.size 5 i0 (.int .u8 0) 1 1 Try.under28 hi hz0 hz1 hz2 rfl (by decide) _ 0 [] rfl HE.out ⟨g1, 0, none⟩ X.length c1 (X.map (Value.int .u8)) rfl (by simp) (HO1.out.cells rfl) (bytes_oneCell _) ?c1 ?c2 ?c3 ?_))
    case c1 => unfold maxLen; omega
    case c2 => omega
    case c3 => exact HB1.out.size
    intro v2 w2 ho2 hg2 _
    have HO2 := hid (show w2.ownsRow w.heap.size 5 1 v2 X.length (X.map (Value.int .u8)) by simpa using ho2)
    have HB2 := hid (below_owned HB1.out HE.out hg2)
    clear ho2 hg2
    go_wp2_with fail
    refine (H2.out w2 HB2.out).mono ?_
    rintro e w3 ⟨v3, rfl, ho3, hb3⟩
    obtain ⟨g3, c3, rfl, hgc3, hcm3⟩ := owned_slice ho3 (by omega)
    unfold maxLen at hcm3
    have HO3 := hid ho3
    have HB3 := hid (further HB2.out hb3)
    have HO2' := hid (owned_kept HO2.out hb3)
    clear ho3 hb3
    go_wp2_with (at_builtin; go_must (refine wpList_append_own _ rfl (.tmp 22) (.tmp 24) 28 rfl w.heap.size 5 i0 (.int .u8 0) 1 1 Try.under28 hi hz0 hz1 hz2 rfl (by decide) _ X.length (X.map (Value.int .u8)) rfl HO2'.out ⟨g3, 0, none⟩ Y.length c3 (Y.map (Value.int .u8)) rfl (by simp) (HO3.out.cells rfl) (bytes_oneCell _) ?d1 ?d2 ?d3 ?_))
    case d1 => unfold maxLen; omega
    case d2 => omega
    case d3 => exact HB3.out.size
    intro v4 w4 ho4 hg4 _
    have HO4 := hid (show w4.ownsRow w.heap.size 5 1 v4 (X.length + Y.length) ((X ++ Y).map (Value.int .u8)) by simpa using ho4)
    have HB4 := hid (below_owned HB3.out HO2'.out hg4)
    clear ho4 hg4
    obtain ⟨g4, c4, rfl, hgc4, hcm4⟩ := owned_slice HO4.out (by omega)
    unfold maxLen at hcm4
    have HV4 := hid (show ByteView w4 (.slice (some ⟨g4, 0, none⟩) (X ++ Y).length c4) (X ++ Y) by
      have := View.of_owns HO4.out
      rw [← List.length_append] at this
      exact this.bytes HBS.out)
    go_wp2_with fail
    refine (GetBytes_any _ (X ++ Y) w4 (by simpa using HV4.out)).mono ?_
    rw [HD1.out]
    rintro e w5 ⟨rfl, rfl⟩
    have hst := strOfNums_txt s
    have hcut := fun W => run_cut_l (some ⟨g4, 0, none⟩) (X.length + Y.length) c4 X.length (by omega) W
    have HS := hid (show ByteView w4 (sliced (some ⟨g4, 0, none⟩) X.length (X.length + Y.length) c4 1) Y by
      have := HV4.out.rest (u := X.length) (by rw [List.length_append]; omega)
      rw [List.drop_left, List.length_append] at this
      exact this)
    obtain ⟨S, hS⟩ : ∃ S, S = sliced (some ⟨g4, 0, none⟩) X.length (X.length + Y.length) c4 1 := ⟨_, rfl⟩
    rw [← hS] at HS
    simp only [← hS] at hcut
    clear hS
    have hlt : (X.length : Int) ≤ (X.length : Int) + Y.length := by omega
    have hnn : (0 : Int) ≤ X.length := by omega
    go_wp2_with fail
    refine (GetInts_any _ Y w4 HS.out (by omega)).mono ?_
    rw [HD2.out]
    rintro e w6 h6
    obtain ⟨v6, rfl, hv6, hb6⟩ := h6.view
    have HB6 := hid (further HB4.out hb6)
    have HV6 := hid (show View w6 v6 1 zs.length (zs.map (Value.int .i64)) by rw [← flat_single]; exact hv6)
    clear h6 hb6 hv6
    go_wp2_with fail
    refine (sanity_yes w6).mono ?_
    rintro e w7 ⟨rfl, hb7⟩
    have HB7 := hid (further HB6.out hb7)
    have HV7 := hid (HV6.out.below hb7)
    clear hb7
    go_wp2_with fail
    refine (SameInts_yes _ _ zs.length zs w7 rfl HV7.out (HV.out.below HB7.out)).mono ?_
    rintro e w8 h8
    obtain ⟨rfl, hb8⟩ := h8.below
    have HB8 := hid (further HB7.out hb8)
    clear h8 hb8
    go_wp2
    go_ret
    refine ⟨?_, HB8.out⟩
    simp

end Go.Proofs.Ytpdphbliaibkhaa
