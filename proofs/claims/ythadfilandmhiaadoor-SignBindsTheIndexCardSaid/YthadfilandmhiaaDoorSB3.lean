/-
  Contracts of gantry/wire: flip, appendInt, Int.
  Contracts of gantry/wire: Int, GetInt.
-/
import Derived.Test.YthadfilandmhiaaDoorRows
import Derived.Test.YthadfilandmhiaaDoorSB1
import Derived.WalkKit
import Derived.WalkSpells
import Derived.WalkLawsBesides
import Derived.Lib.Hide
import Derived.WalkMore
import Derived.Deep.LoopGhost
import Derived.Laws.DeepNot64
set_option linter.unusedVariables false
set_option linter.unusedSimpArgs false
set_option linter.unusedSectionVars false
namespace Go.Proofs.YthadfilandmhiaaDoor
open Go.RowKit
open Go.Lib (hid)
set_option maxHeartbeats 400000 in
theorem flip_any (b : Bool) (w : World) :
    Calls Tryd.prog 58 #[.bool b] w fun e w' => e = .returned (.int .u8 (if b then 255 else 0)) ∧ w = w' := by
  cases b
  all_goals
    go_enter Tryd.func58, Tryd.ntmps58
    go_wp2
    go_ret
    exact ⟨rfl, rfl⟩

open W

theorem xor_ff (x : Int) (h0 : 0 ≤ x) (h1 : x ≤ 255) : bits .xor .u8 x 255 = 255 - x := by
  have e : ∀ k : Fin 256, k.val ^^^ 255 = 255 - k.val := by decide +kernel
  have h := e ⟨x.toNat, by omega⟩
  rw [u8_xor x 255 h0 (by omega) (by omega) (by omega)]
  show ((x.toNat ^^^ 255 : Nat) : Int) = _
  simp only at h
  rw [h]; omega

theorem xor_00 (x : Int) (h0 : 0 ≤ x) (h1 : x ≤ 255) : bits .xor .u8 x 0 = x := by
  rw [u8_xor x 0 h0 (by omega) (by omega) (by omega)]
  show ((x.toNat ^^^ 0 : Nat) : Int) = _
  rw [Nat.xor_zero]; omega

/-- What the bytes of an integer are combined with. -/
def Mask (neg : Bool) (mk : Int) : Prop := (neg = true ∧ mk = 255) ∨ (neg = false ∧ mk = 0)

theorem xor_fl {neg : Bool} {mk : Int} (hm : Mask neg mk) (x : Int) (h0 : 0 ≤ x) (h1 : x ≤ 255) : bits .xor .u8 x mk = fl neg x := by
  rcases hm with ⟨rfl, rfl⟩ | ⟨rfl, rfl⟩
  · rw [xor_ff x h0 h1]; rfl
  · rw [xor_00 x h0 h1]; rfl

theorem not_u64 (n : Int) (h0 : n < 0) (h1 : -9223372036854775808 ≤ n) : bits BinOp.xor IntKind.u64 IntKind.u64.max (IntKind.u64.wrap n) = (mag n : Int) := by
  have hw : IntKind.u64.wrap n = ((n + 18446744073709551616).toNat : Int) := by
    simp [IntKind.wrap, IntKind.bits, IntKind.signed]; omega
  have hx : IntKind.u64.max = ((18446744073709551615 : Nat) : Int) := by decide
  rw [hw, hx]
  show IntKind.u64.wrap ((BitVec.ofInt 64 ((18446744073709551615 : Nat) : Int) ^^^ BitVec.ofInt 64 (((n + 18446744073709551616).toNat : Nat) : Int)).toNat : Int) = _
  have h1 : BitVec.ofInt 64 ((18446744073709551615 : Nat) : Int) = BitVec.allOnes 64 := by decide
  rw [h1, BitVec.allOnes_xor, BitVec.toNat_not, ofInt_u64 _ (by omega)]
  simp [IntKind.wrap, IntKind.bits, IntKind.signed, mag, h0]
  omega

/-- The room's block: from f on it holds the bytes ds. -/
def Room (wr : World) (B f : Nat) (ds : List Int) : Prop :=
  ∃ cur : Array Value, wr.heap[B]? = some (.cells cur 92 (0, 0)) ∧ cur.size = 9 ∧ cur.toList.drop f = ds.map (Value.int .u8)

theorem Room.cell {wr : World} {B f : Nat} {ds : List Int} (h : Room wr B f ds) (j : Nat) (hj : j < 9) : (∃ v, wr.cell? ⟨B, j, none⟩ = some v) ∧ wr.frozen? ⟨B, j, none⟩ = false := by
  obtain ⟨cur, hh, hs, _⟩ := h
  refine ⟨⟨cur[j]'(by omega), ?_⟩, frozen_of_row wr B j cur _ hh⟩
  rw [cell_of_row wr B j cur _ (0, 0) hh]
  simp [hs, hj]

theorem Room.store {wr : World} {B g : Nat} {ds : List Int} (h : Room wr B (g + 1) ds) (hg : g < 9) (x : Int) : Room (wr.setCell ⟨B, g, none⟩ (.int .u8 x)) B g (x :: ds) := by
  obtain ⟨cur, hh, hs, hd⟩ := h
  refine ⟨cur.setIfInBounds g (.int .u8 x), heap_setCell_same wr B g cur _ _ hh, by simpa using hs, ?_⟩
  rw [Array.toList_setIfInBounds, List.drop_eq_getElem_cons (by simp; omega)]
  congr 1
  · simp
  · rw [← hd, List.drop_set_of_lt (by omega)]

theorem Room.news {wr : World} {B f : Nat} {ds : List Int} (h : Room wr B f ds) : ∀ j u, (ds.map (Value.int .u8))[j]? = some u → wr.cell? ((⟨B, f, none⟩ : Addr).add j) = some u := by
  obtain ⟨cur, hh, hs, hd⟩ := h
  intro j u hu
  rw [Addr.add_lit, cell_of_row wr B (f + j) cur _ (0, 0) hh, ← hu, ← hd, List.getElem?_drop]
  simp

theorem Below.grownBy {w w' : World} (h : Below w.heap.size w w') (row : Option Nat) : w.grownBy w' row := ⟨h.os, h.tape, h.output, h.size, fun k hk _ => h.block k hk⟩

theorem grownBy_trans {a b c : World} {row : Option Nat} (h : a.grownBy b row) (k : b.grownBy c row) : a.grownBy c row :=
  ⟨k.os.trans h.os, k.tape.trans h.tape, k.output.trans h.output, Nat.le_trans h.size k.size, fun i hi hr => (k.block i (Nat.lt_of_lt_of_le hi h.size) hr).trans (h.block i hi hr)⟩

/-- Behind a function that appends to a slice of the call's own. -/
def Grew (w : World) (base : Nat) (sv : Value) (xs : List Int) (e : Ending) (w' : World) : Prop :=
  ∃ v', e = .returned v' ∧ w'.ownsRow base 5 1 v' xs.length (xs.map (Value.int .u8)) ∧ w.grownBy w' sv.ownBlock

/-- The loop's relation: from f on the room holds the digits that have been written; q is what is left. -/
def RelA (M : Nat) (neg : Bool) (w : World) (f q : Nat) (wr : World) : Prop :=
  1 ≤ f ∧ f ≤ 9 ∧ q = M / 256 ^ (9 - f) ∧ (f = 9 ∨ M / 256 ^ (8 - f) ≠ 0) ∧ Room wr w.heap.size f ((be (9 - f) M).map fun d => fl neg (Int.ofNat d)) ∧ Below w.heap.size w wr ∧ wr.heap.size = w.heap.size + 1

theorem RelA.step {M : Nat} {neg : Bool} {w : World} {f q : Nat} {wr : World} {mk : Int} (h : RelA M neg w f q wr) (hq : q ≠ 0) (hf : 2 ≤ f) (hm : Mask neg mk) :
    RelA M neg w (f - 1) (q / 256) (wr.setCell ⟨w.heap.size, f - 1, none⟩ (.int .u8 (bits .xor .u8 ((q : Int) % 256) mk))) := by
  obtain ⟨g, rfl⟩ : ∃ g, f = g + 2 := ⟨f - 2, by omega⟩
  rw [show g + 2 - 1 = g + 1 from rfl]
  obtain ⟨h1, h9, rfl, hne, hr, hb, hs⟩ := h
  have e9 : 9 - (g + 1) = 9 - (g + 2) + 1 := by omega
  refine ⟨by omega, by omega, ?_, .inr ?_, ?_, hb.setCell (by simp) _, by simpa using hs⟩
  · rw [e9, Nat.pow_succ, Nat.div_div_eq_div_mul]
  · rw [show 8 - (g + 1) = 9 - (g + 2) from by omega]; exact hq
  · have := hr.store (by omega) (bits .xor .u8 (((M / 256 ^ (9 - (g + 2)) : Nat) : Int) % 256) mk)
    rw [e9]
    simp only [be, List.map_cons]
    rw [xor_fl hm _ (by omega) (by omega)] at this ⊢
    simpa using this

theorem RelA.two {M : Nat} {neg : Bool} {w : World} {f q : Nat} {wr : World} (h : RelA M neg w f q wr) (hM : M < 9223372036854775808) (hq : q ≠ 0) : 2 ≤ f := by
  obtain ⟨h1, h9, rfl, _⟩ := h
  rcases (show f = 1 ∨ 2 ≤ f from by omega) with rfl | h
  · exact absurd (Nat.div_eq_of_lt (by omega)) hq
  · exact h

theorem RelA.lt {M : Nat} {neg : Bool} {w : World} {f q : Nat} {wr : World} (h : RelA M neg w f q wr) (hM : M < 9223372036854775808) : q ≤ 9223372036854775807 := by
  obtain ⟨h1, h9, rfl, _⟩ := h
  exact Nat.le_trans (Nat.div_le_self _ _) (by omega)

theorem RelA.cell {M : Nat} {neg : Bool} {w : World} {f q : Nat} {wr : World} (h : RelA M neg w f q wr) : (∃ v, wr.cell? ⟨w.heap.size, f - 1, none⟩ = some v) ∧ wr.frozen? ⟨w.heap.size, f - 1, none⟩ = false := by
  have h1 := h.1
  have h9 := h.2.1
  exact h.2.2.2.2.1.cell (f - 1) (by omega)

theorem RelA.out {M : Nat} {neg : Bool} {w : World} {f : Nat} {wr : World} {mk : Int} (h : RelA M neg w f 0 wr) (hm : Mask neg mk) :
    f = 9 - wid M ∧ Room (wr.setCell ⟨w.heap.size, f - 1, none⟩ (.int .u8 (bits .xor .u8 (128 + (9 - (f : Int))) mk))) w.heap.size (f - 1) (((128 + (wid M : Int)) :: (be (wid M) M).map Int.ofNat).map (fl neg)) := by
  obtain ⟨h1, h9, h0, hne, hr, _, _⟩ := h
  have hw := wid_le M
  have e : 9 - f = wid M := by
    refine wid_unique M (9 - f) (by omega) ?_ ?_
    · exact (Nat.div_eq_zero_iff_lt (Nat.pow_pos (by decide))).1 h0.symm
    · rcases hne with h | h
      · exact .inl (by omega)
      · refine .inr ?_
        rw [show 9 - f - 1 = 8 - f from by omega]
        rcases Nat.lt_or_ge M (256 ^ (8 - f)) with hlt | hge
        · exact absurd (Nat.div_eq_of_lt hlt) h
        · exact hge
  refine ⟨by omega, ?_⟩
  obtain ⟨g, rfl⟩ : ∃ g, f = g + 1 := ⟨f - 1, by omega⟩
  have := hr.store (by omega) (bits .xor .u8 (128 + (9 - ((g + 1 : Nat) : Int))) mk)
  rw [xor_fl hm _ (by omega) (by omega)] at this ⊢
  rw [show (g + 1 - 1) = g from rfl]
  simp only [List.map_cons, List.map_map]
  rw [← e]
  have e2 : (128 + (9 - ((g + 1 : Nat) : Int))) = 128 + ((9 - (g + 1) : Nat) : Int) := by omega
  rw [e2] at this ⊢
  exact this

/-- What stands when the loop has ended, behind the store of the first byte. -/
theorem RelA.done {n : Int} {neg : Bool} {w : World} {f : Nat} {wr : World} {mk : Int} {base : Nat} {sv : Value} {xs : List Int} (h : RelA (mag n) neg w f 0 wr) (hm : Mask neg mk) (hneg : neg = decide (n < 0))
    (hown : w.ownsRow base 5 1 sv xs.length (xs.map (Value.int .u8))) :
    ∃ W1, W1 = wr.setCell ⟨w.heap.size, f - 1, none⟩ (.int .u8 (bits .xor .u8 (128 + (9 - (f : Int))) mk)) ∧ W1.ownsRow base 5 1 sv xs.length (xs.map (Value.int .u8)) ∧
      (∀ j u, ((code n).map (Value.int .u8))[j]? = some u → W1.cell? ((⟨w.heap.size, f - 1, none⟩ : Addr).add j) = some u) ∧ (code n).length = 10 - f ∧ Below w.heap.size w W1 ∧ W1.heap.size = w.heap.size + 1 := by
  obtain ⟨hf, hr⟩ := h.out hm
  have hb := h.2.2.2.2.2.1
  have hs := h.2.2.2.2.2.2
  have hw := wid_le (mag n)
  have hB : Below w.heap.size w (wr.setCell ⟨w.heap.size, f - 1, none⟩ (.int .u8 (bits .xor .u8 (128 + (9 - (f : Int))) mk))) := hb.setCell (by simp) _
  refine ⟨_, rfl, hown.kept (Below.grownBy hB none) (by cases hv : sv.ownBlock <;> simp), ?_, by rw [code_length]; omega, hB, by simpa using hs⟩
  have e : code n = ((128 + (wid (mag n) : Int)) :: (be (wid (mag n)) (mag n)).map Int.ofNat).map (fl neg) := by rw [hneg]; rfl
  rw [e]
  exact hr.news

theorem bytes_oneCell (l : List Int) : ∀ u ∈ l.map (Value.int .u8), u.oneCell' = true := by
  intro u hu
  obtain ⟨x, _, rfl⟩ := List.mem_map.1 hu
  rfl

theorem Tryd.info5 : (Tryd.prog.info? 5).map (fun i => (i.zero, i.size, i.bytes)) = some (some (.int .u8 0), 1, 1) := by kernel_rfl

theorem Tryd.under28 : Tryd.prog.underlying 51 = some (.slice 5) := by kernel_rfl
theorem Tryd.under67 : Tryd.prog.underlying 92 = some (.array (Tryd.prog.arrayLen 92) (Tryd.prog.elem 92)) := by kernel_rfl
theorem Tryd.len67 : Tryd.prog.arrayLen 92 = 9 := by kernel_rfl
theorem Tryd.size67 (w : World) : (sizeOf (Tryd.prog.elem 92)).run Tryd.prog w = .ok 1 w := by kernel_rfl

theorem slice_room (w : World) (B f : Nat) (h1 : 1 ≤ f) (h9 : f ≤ 9) :
    (Instr.sliceAt 92 (.pointer (some ⟨B, 0, none⟩)) (some (.int .i64 ((f : Int) - 1))) none none).run Tryd.prog w = .ok (.slice (some ⟨B, f - 1, none⟩) (10 - f) (10 - f)) w := by
  rw [run_sliceAt_array_l w _ _ Tryd.under67 _ _ (by omega) (by rw [Tryd.len67]; omega), Tryd.size67, Tryd.len67]
  have e : ((f : Int) - 1).toNat = f - 1 := by omega
  simp only [Result.andThen, slicedAt, e]
  rw [if_neg (by omega), Nat.mul_one, Addr.add_lit, Nat.zero_add]
  rw [show 9 - (f - 1) = 10 - f from by omega]

set_option maxRecDepth 100000 in
set_option maxHeartbeats 400000 in
theorem appendInt_any (base : Nat) (sv : Value) (xs : List Int) (n : Int) (w : World) (h1 : n ≤ 9223372036854775807) (h2 : -9223372036854775808 ≤ n)
    (hown : w.ownsRow base 5 1 sv xs.length (xs.map (Value.int .u8))) (hb : base ≤ w.heap.size) (hl : xs.length ≤ 140737488355319) :
    Calls Tryd.prog 47 #[sv, .int .i64 n] w (Grew w base sv (xs ++ code n)) := by
  obtain ⟨i0, hi, hz0, hz1, hz2⟩ := info_parts Tryd.info5
  have hM := hid (mag_lt n h2 h1)
  obtain ⟨neg, hneg⟩ : ∃ b, b = decide (n < 0) := ⟨_, rfl⟩
  have HN := hid hneg
  clear hneg
  obtain ⟨mk, hmk, hcase⟩ : ∃ mk : Int, Mask neg mk ∧ ((n < 0 ∧ mk = 255) ∨ (0 ≤ n ∧ mk = 0)) := by
    by_cases h : n < 0
    · exact ⟨255, .inl ⟨by rw [HN.out]; simp [h], rfl⟩, .inl ⟨h, rfl⟩⟩
    · exact ⟨0, .inr ⟨by rw [HN.out]; simp [h], rfl⟩, .inr ⟨by omega, rfl⟩⟩
  have hmg : Hid (0 ≤ n → n = mag n) := fun h => by unfold mag; rw [if_neg (by omega)]; omega
  have hR0 : ∀ wr, wr = w.alloc (.cells #[.int .u8 0, .int .u8 0, .int .u8 0, .int .u8 0, .int .u8 0, .int .u8 0, .int .u8 0, .int .u8 0, .int .u8 0] 92) → RelA (mag n) neg w 9 (mag n) wr := by
    rintro wr rfl
    exact ⟨by omega, by omega, by simp, .inl rfl, ⟨_, heap_alloc_new w _, rfl, rfl⟩, (Below.refl _ _).alloc (Nat.le_refl _) _, by simp⟩
  have HR0 := hid hR0
  have HO := hid hown
  clear hR0 hown
  have hx : n < 0 → bits BinOp.xor IntKind.u64 IntKind.u64.max (IntKind.u64.wrap n) = (mag n : Int) := fun h => not_u64 n h h2
  rcases hcase with ⟨hn, rfl⟩ | ⟨hn, rfl⟩
  rotate_left
  · clear hx
    go_enter Tryd.func47, Tryd.ntmps47
    go_wp2
    go_step3
    go_wp2_with (go_at_call 58; refine (flip_any _ _).mono ?_; rintro e w' ⟨rfl, rfl⟩)
    go_step3
    go_wp2
    go_loopw [6, 8] (fun m i wr => ∃ f q : Nat, i = .int .i64 f ∧ m = .int .u64 q ∧ RelA (mag n) neg w f q wr) (fun _ i _ => (intOf i).toNat)
    case atStart => first | exact ⟨9, mag n, rfl, rfl, HR0.out _ rfl⟩ | exact ⟨9, mag n, rfl, by rw [← hmg.out hn], HR0.out _ rfl⟩
    case round =>
      obtain ⟨f, q, rfl, rfl, hrel⟩ := hrel
      have hf1 := hrel.1
      have hf9 := hrel.2.1
      have hq9 := hrel.lt hM.out
      obtain ⟨⟨v0, hc⟩, hfz⟩ := hrel.cell
      by_cases hq0 : q = 0
      · subst hq0
        obtain ⟨W1, hW1, hown1, hnews, hlen, hB1, hS1⟩ := hrel.done hmk HN.out HO.out
        have HW := hid hW1
        have HO1 := hid hown1
        have HN1 := hid hnews
        have HL := hid hlen
        have HB := hid hB1
        have HS := hid hS1
        have hsl := fun w1 => slice_room w1 w.heap.size f hf1 hf9
        clear hrel hq9 hW1 hown1 hnews hlen hB1 hS1
        go_wp2_with (at_builtin; refine wpList_append_own _ rfl (.tmp 43) (.tmp 45) 51 rfl base 5 i0 (.int .u8 0) 1 1 Tryd.under28 hi hz0 hz1 hz2 rfl (by decide) sv xs.length (xs.map (Value.int .u8)) rfl ?c0 ⟨w.heap.size, f - 1, none⟩ (10 - f) (10 - f) ((code n).map (Value.int .u8)) rfl ?c1 ?c2 ?c3 ?c4 ?c5 ?c6 ?_)
        case c0 => rw [← HW.out]; exact HO1.out
        case c1 => rw [List.length_map, HL.out]; omega
        case c2 => rw [← HW.out]; exact HN1.out
        case c3 => exact bytes_oneCell _
        case c4 => unfold maxLen; omega
        case c5 => omega
        case c6 => rw [← HW.out, HS.out]; omega
        intro v' w1 hown' hgrow _
        rw [← HW.out] at hgrow
        have HG := hid hgrow
        have HO2 := hid hown'
        clear hown' hgrow
        go_wp2
        rw [Exit.noGoto_ret]
        go_ret
        exact ⟨v', rfl, by simpa [HL.out] using HO2.out, grownBy_trans (Below.grownBy HB.out _) HG.out⟩
      · have hqq : ((q : Int) == 0) = false := by simp; omega
        have hf2 := hrel.two hM.out hq0
        have HR := hid (hrel.step hq0 hf2 hmk)
        clear hrel
        go_wp2
        go_roundw
        case rel => exact ⟨f - 1, q / 256, by go_num, by go_num, HR.out⟩
        case measure => simp [intOf]; omega
  · replace hx := hx hn
    go_enter Tryd.func47, Tryd.ntmps47
    go_wp2
    go_step3
    go_wp2_with (go_at_call 58; refine (flip_any _ _).mono ?_; rintro e w' ⟨rfl, rfl⟩)
    go_step3
    go_wp2
    go_loopw [6, 8] (fun m i wr => ∃ f q : Nat, i = .int .i64 f ∧ m = .int .u64 q ∧ RelA (mag n) neg w f q wr) (fun _ i _ => (intOf i).toNat)
    case atStart => first | exact ⟨9, mag n, rfl, rfl, HR0.out _ rfl⟩ | exact ⟨9, mag n, rfl, by rw [← hmg.out hn], HR0.out _ rfl⟩
    case round =>
      obtain ⟨f, q, rfl, rfl, hrel⟩ := hrel
      have hf1 := hrel.1
      have hf9 := hrel.2.1
      have hq9 := hrel.lt hM.out
      obtain ⟨⟨v0, hc⟩, hfz⟩ := hrel.cell
      by_cases hq0 : q = 0
      · subst hq0
        obtain ⟨W1, hW1, hown1, hnews, hlen, hB1, hS1⟩ := hrel.done hmk HN.out HO.out
        have HW := hid hW1
        have HO1 := hid hown1
        have HN1 := hid hnews
        have HL := hid hlen
        have HB := hid hB1
        have HS := hid hS1
        have hsl := fun w1 => slice_room w1 w.heap.size f hf1 hf9
        clear hrel hq9 hW1 hown1 hnews hlen hB1 hS1
        go_wp2_with (at_builtin; refine wpList_append_own _ rfl (.tmp 43) (.tmp 45) 51 rfl base 5 i0 (.int .u8 0) 1 1 Tryd.under28 hi hz0 hz1 hz2 rfl (by decide) sv xs.length (xs.map (Value.int .u8)) rfl ?c0 ⟨w.heap.size, f - 1, none⟩ (10 - f) (10 - f) ((code n).map (Value.int .u8)) rfl ?c1 ?c2 ?c3 ?c4 ?c5 ?c6 ?_)
        case c0 => rw [← HW.out]; exact HO1.out
        case c1 => rw [List.length_map, HL.out]; omega
        case c2 => rw [← HW.out]; exact HN1.out
        case c3 => exact bytes_oneCell _
        case c4 => unfold maxLen; omega
        case c5 => omega
        case c6 => rw [← HW.out, HS.out]; omega
        intro v' w1 hown' hgrow _
        rw [← HW.out] at hgrow
        have HG := hid hgrow
        have HO2 := hid hown'
        clear hown' hgrow
        go_wp2
        rw [Exit.noGoto_ret]
        go_ret
        exact ⟨v', rfl, by simpa [HL.out] using HO2.out, grownBy_trans (Below.grownBy HB.out _) HG.out⟩
      · have hqq : ((q : Int) == 0) = false := by simp; omega
        have hf2 := hrel.two hM.out hq0
        have HR := hid (hrel.step hq0 hf2 hmk)
        clear hrel
        go_wp2
        go_roundw
        case rel => exact ⟨f - 1, q / 256, by go_num, by go_num, HR.out⟩
        case measure => simp [intOf]; omega
end Go.Proofs.YthadfilandmhiaaDoor

namespace Go.Proofs.YthadfilandmhiaaDoor
open Go.RowKit
open Go.Lib (hid)
open W
set_option maxHeartbeats 400000 in
theorem Int_any (base : Nat) (n : Int) (w : World) (h1 : n ≤ 9223372036854775807) (h2 : -9223372036854775808 ≤ n) (hb : base ≤ w.heap.size) :
    Calls Tryd.prog 26 #[.int .i64 n] w (Grew w base (.slice none 0 0) (code n)) := by
  go_enter Tryd.func26, Tryd.ntmps26
  go_wp2_with fail
  refine (appendInt_any base _ [] n _ h1 h2 (World.ownsRow_nil _ _ _ _) hb (by simp)).mono ?_
  rintro e w' ⟨v', rfl, h⟩
  have H := hid h
  clear h
  go_wp2
  go_ret
  exact ⟨v', rfl, by simpa using H.out.1, H.out.2⟩

/-- The value v is a slice of the bytes bs. -/
structure ByteView (w : World) (v : Value) (bs : List Int) : Prop where
  bytes : Bs bs
  shape : ∃ ao cap, v = .slice ao bs.length cap ∧ bs.length ≤ cap ∧ cap ≤ maxLen ∧
    (bs ≠ [] → ∃ b off, ao = some ⟨b, off, none⟩ ∧ ∀ i, i < bs.length → w.cell? ⟨b, off + i, none⟩ = some (.int .u8 (bs.getD i 0)))

theorem dec_cons {neg : Bool} {x : Int} {t : List Int} {k : Nat} (hneg : decide (x < 128) = neg) (hk : fl neg x = 128 + k) :
    dec (x :: t) = if 8 < k then (0, 0, 2) else if t.length < k then (0, 0, 3) else
      if (0 < k ∧ ((t.take k).map fun x => (fl neg x).toNat).headD 1 = 0) ∨ 9223372036854775807 < val ((t.take k).map fun x => (fl neg x).toNat) then (0, 0, 2)
      else (if neg then -1 - (val ((t.take k).map fun x => (fl neg x).toNat) : Int) else val ((t.take k).map fun x => (fl neg x).toNat), k + 1, 0) := by
  simp only [dec, hneg, hk]
  have e : (128 + (k : Int) - 128).toNat = k := by omega
  rw [e]

/-- The number that the first j of the k bytes stand for. -/
def Fold (neg : Bool) (t : List Int) (k j q : Nat) : Prop := q = val (((t.take k).map fun x => (fl neg x).toNat).take j)

theorem fl_byte {neg : Bool} {x : Int} (h : 0 ≤ x ∧ x ≤ 255) : 0 ≤ fl neg x ∧ fl neg x ≤ 255 := by
  unfold fl; split <;> omega

theorem Bs.getD {l : List Int} (h : Bs l) (i : Nat) : 0 ≤ l.getD i 0 ∧ l.getD i 0 ≤ 255 := by
  by_cases hi : i < l.length
  · rw [List.getD_eq_getElem?_getD, List.getElem?_eq_getElem hi]; exact h _ (List.getElem_mem hi)
  · rw [List.getD_eq_getElem?_getD, List.getElem?_eq_none (by omega)]; simp

theorem flips_lt {neg : Bool} {t : List Int} (ht : Bs t) (k j : Nat) : ∀ d ∈ ((t.take k).map fun x => (fl neg x).toNat).take j, d < 256 := by
  intro d hd
  obtain ⟨x, hx, rfl⟩ := List.mem_map.1 (List.mem_of_mem_take hd)
  have := fl_byte (neg := neg) (ht x (List.mem_of_mem_take hx))
  omega

theorem Fold.pow {neg : Bool} {t : List Int} {k j q : Nat} (h : Fold neg t k j q) (ht : Bs t) : q < 256 ^ j := by
  have h1 := val_lt _ (flips_lt (neg := neg) ht k j)
  rw [← h] at h1
  exact Nat.lt_of_lt_of_le h1 (Nat.pow_le_pow_right (by decide) (List.length_take_le _ _))

theorem Fold.lt {neg : Bool} {t : List Int} {k j q : Nat} (h : Fold neg t k j q) (ht : Bs t) (hk : ¬ 8 < k) (hj : j ≤ k) : q ≤ 18446744073709551615 := by
  have h1 := h.pow ht
  have h2 : 256 ^ j ≤ 256 ^ 8 := Nat.pow_le_pow_right (by decide) (by omega)
  omega

theorem Fold.lt7 {neg : Bool} {t : List Int} {k j q : Nat} (h : Fold neg t k j q) (ht : Bs t) (hk : ¬ 8 < k) (_hj : j ≤ k) (hjk : j < k) : q ≤ 72057594037927935 := by
  have h1 := h.pow ht
  have h2 : 256 ^ j ≤ 256 ^ 7 := Nat.pow_le_pow_right (by decide) (by omega)
  omega

theorem Fold.step {neg : Bool} {t : List Int} {k j q : Nat} {y : Int} (h : Fold neg t k j q) (hjk : j < k) (hkt : k ≤ t.length) (hy : y = t.getD j 0) : Fold neg t k (j + 1) (q * 256 + (fl neg y).toNat) := by
  unfold Fold at h ⊢
  rw [List.take_succ_eq_append_getElem (by simp; omega), val_snoc, ← h]
  simp [hy, List.getD_eq_getElem?_getD, List.getElem?_eq_getElem (show j < t.length by omega)]

theorem Fold.full {neg : Bool} {t : List Int} {k q : Nat} (h : Fold neg t k k q) : q = val ((t.take k).map fun x => (fl neg x).toNat) := by
  unfold Fold at h
  rwa [List.take_of_length_le (by simp; omega)] at h

theorem flips_head {neg : Bool} {t : List Int} {j : Nat} {y : Int} (hj : 0 < j) (hjt : j ≤ t.length) (hy : y = t.getD 0 0) : ((t.take j).map fun x => (fl neg x).toNat).headD 1 = (fl neg y).toNat := by
  obtain ⟨j, rfl⟩ : ∃ i, j = i + 1 := ⟨j - 1, by omega⟩
  cases t with
  | nil => simp at hjt
  | cons x t => simp at hy; simp [hy]

theorem or_u64 (q : Nat) (z : Int) (hq : q ≤ 72057594037927935) (h0 : 0 ≤ z) (h1 : z ≤ 255) : bits .or .u64 ((q : Int) * 256) z = ((q * 256 + z.toNat : Nat) : Int) := by
  have e := u64_or_nat (q * 256) z.toNat (by omega) (by omega)
  rw [show ((q * 256 : Nat) : Int) = (q : Int) * 256 by omega, show ((z.toNat : Nat) : Int) = z by omega] at e
  rw [e]
  have h := Nat.two_pow_add_eq_or_of_lt (i := 8) (b := z.toNat) (by omega) q
  rw [show q * 256 = 2 ^ 8 * q by omega, ← h]

def Trip (a b c : Int) (w : World) (e : Ending) (w' : World) : Prop := e = .returned (.tuple #[.int .i64 a, .int .i64 b, .int .i64 c]) ∧ w = w'

theorem Trip.mk {a b c a' b' c' : Int} {w : World} (h1 : a = a') (h2 : b = b') (h3 : c = c') : Trip a' b' c' w (.returned (.tuple #[.int .i64 a, .int .i64 b, .int .i64 c])) w := by
  subst h1 h2 h3; exact ⟨rfl, rfl⟩

set_option maxHeartbeats 400000 in
theorem GetInt_neg0 (b off len cap : Nat) (t : List Int) (w : World) (hl : len = t.length + 1) (hlc : len ≤ cap) (_hcm : cap ≤ maxLen)
    (hc0 : w.cell? ⟨b, off, none⟩ = some (.int .u8 127)) :
    Calls Tryd.prog 37 #[.slice (some ⟨b, off, none⟩) len cap] w (Trip (-1) 1 0 w) := by
  subst hl
  unfold maxLen at _hcm
  have hx : bits .xor .u8 127 255 = 128 := by rw [xor_ff _ (by omega) (by omega)]; omega
  have hp : IntKind.u64.wrap 0 = 0 := by decide
  go_enter Tryd.func37, Tryd.ntmps37
  go_wp2_with (go_at_call 58; refine (flip_any _ _).mono ?_; rintro e w' ⟨rfl, rfl⟩)
  all_goals
    go_loop [8, 40] (fun m i => i = .int .i64 0 ∧ m = .int .u64 0) (fun _ i => 0 - (intOf i).toNat)
    case atStart => exact ⟨rfl, rfl⟩
    case round =>
      obtain ⟨rfl, rfl⟩ := hrel
      go_wp2
      go_ret3
      exact ⟨rfl, rfl⟩

set_option maxHeartbeats 400000 in
theorem GetInt_neg (b off len cap k : Nat) (t : List Int) (w : World) (hk : k ≤ 127) (hk0 : 0 < k) (hl : len = t.length + 1) (hlc : len ≤ cap) (_hcm : cap ≤ maxLen) (ht : Bs t)
    (hc0 : w.cell? ⟨b, off, none⟩ = some (.int .u8 (127 - (k : Int)))) (hct : ∀ i, i < t.length → w.cell? ⟨b, off + (i + 1), none⟩ = some (.int .u8 (t.getD i 0))) :
    Calls Tryd.prog 37 #[.slice (some ⟨b, off, none⟩) len cap] w (Trip (dec ((127 - (k : Int)) :: t)).1 (dec ((127 - (k : Int)) :: t)).2.1 (dec ((127 - (k : Int)) :: t)).2.2 w) := by
  subst hl
  unfold maxLen at _hcm
  have HD := hid (dec_cons (t := t) (neg := true) (x := 127 - (k : Int)) (k := k) (by simp; omega) (by simp [fl]; omega))
  have hx : bits .xor .u8 (127 - (k : Int)) 255 = 128 + (k : Int) := by rw [xor_ff _ (by omega) (by omega)]; omega
  have h128 : 128 + (k : Int) - 128 = k := by omega
  have HCT := hid hct
  clear hct
  by_cases hk8 : 8 < k
  · go_enter Tryd.func37, Tryd.ntmps37
    go_wp2_with (go_at_call 58; refine (flip_any _ _).mono ?_; rintro e w' ⟨rfl, rfl⟩)
    go_ret3
    rw [HD.out, if_pos hk8]
    exact ⟨rfl, rfl⟩
  · by_cases hlt : t.length < k
    · go_enter Tryd.func37, Tryd.ntmps37
      go_wp2_with (go_at_call 58; refine (flip_any _ _).mono ?_; rintro e w' ⟨rfl, rfl⟩)
      go_ret3
      rw [HD.out, if_neg hk8, if_pos hlt]
      exact ⟨rfl, rfl⟩
    · go_enter Tryd.func37, Tryd.ntmps37
      go_wp2_with (go_at_call 58; refine (flip_any _ _).mono ?_; rintro e w' ⟨rfl, rfl⟩)
      go_loop [8, 40] (fun m i => ∃ j q : Nat, j ≤ k ∧ i = .int .i64 j ∧ m = .int .u64 q ∧ Fold true t k j q) (fun _ i => k - (intOf i).toNat)
      case atStart => exact ⟨0, 0, by omega, rfl, rfl, rfl⟩
      case round =>
        obtain ⟨j, q, hj, rfl, rfl, hq⟩ := hrel
        have hqb := hq.lt ht hk8 (by omega)
        by_cases hjk : j < k
        · have hqc := hq.lt7 ht hk8 (by omega) hjk
          obtain ⟨y, hy⟩ : ∃ y, y = t.getD j 0 := ⟨_, rfl⟩
          have hcy : w.cell? ⟨b, off + 1 + j, none⟩ = some (.int .u8 y) := by rw [hy, ← HCT.out j (by omega)]; congr 2; omega
          have hyb : 0 ≤ y ∧ y ≤ 255 := by rw [hy]; exact Bs.getD ht j
          have hxy := xor_ff y hyb.1 hyb.2
          have HQ := hid (hq.step hjk (by omega) hy)
          obtain ⟨hy0, hy1⟩ := hyb
          clear hy hq
          go_wp2
          go_round
          case rel => exact ⟨j + 1, _, by omega, by go_num, by rw [or_u64 q (255 - y) (by omega) (by omega) (by omega)], by simpa [fl] using HQ.out⟩
          case measure => simp [intOf]; omega
        · obtain rfl : j = k := by omega
          obtain ⟨y, hy⟩ : ∃ y, y = t.getD 0 0 := ⟨_, rfl⟩
          have hcy : w.cell? ⟨b, off + 1, none⟩ = some (.int .u8 y) := by rw [hy, ← HCT.out 0 (by omega)]
          have HH := hid (flips_head (neg := true) (j := j) hk0 (by omega) hy)
          have HV := hid (hq.full)
          have hyb : 0 ≤ y ∧ y ≤ 255 := by rw [hy]; exact Bs.getD ht 0
          obtain ⟨hy0, hy1⟩ := hyb
          clear hy hq
          by_cases hy255 : y = 255
          · have hye : ((y : Int) == 255) = true := by simp [hy255]
            have HY := hid hy255
            clear hy255
            go_wp2
            go_ret3
            rw [HD.out, if_neg hk8, if_neg hlt, if_pos (.inl ⟨hk0, by rw [HH.out, HY.out]; rfl⟩)]
            exact ⟨rfl, rfl⟩
          · have hye : ((y : Int) == 255) = false := by simp [hy255]
            have HY := hid hy255
            clear hy255
            by_cases hqm : 9223372036854775807 < q
            · have HQM := hid hqm
              go_wp2
              go_ret3
              rw [HD.out, if_neg hk8, if_neg hlt, if_pos (.inr (by rw [← HV.out]; exact HQM.out))]
              exact ⟨rfl, rfl⟩
            · have hqm' : q ≤ 9223372036854775807 := by omega
              have HQM := hid hqm
              clear hqm
              go_wp2
              go_ret3
              rw [HD.out, if_neg hk8, if_neg hlt, if_neg, ← HV.out]
              · exact Trip.mk (by simp) (by simp; omega) rfl
              · rintro (⟨_, h⟩ | h)
                · rw [HH.out] at h
                  exact HY.out (by simp [fl] at h; omega)
                · rw [← HV.out] at h; exact HQM.out h
set_option maxHeartbeats 400000 in
theorem GetInt_pos0 (b off len cap : Nat) (t : List Int) (w : World) (hl : len = t.length + 1) (hlc : len ≤ cap) (_hcm : cap ≤ maxLen)
    (hc0 : w.cell? ⟨b, off, none⟩ = some (.int .u8 128)) :
    Calls Tryd.prog 37 #[.slice (some ⟨b, off, none⟩) len cap] w (Trip 0 1 0 w) := by
  subst hl
  unfold maxLen at _hcm
  have hx : bits .xor .u8 128 0 = 128 := by rw [xor_00 _ (by omega) (by omega)]
  have hp : IntKind.u64.wrap 0 = 0 := by decide
  go_enter Tryd.func37, Tryd.ntmps37
  go_wp2_with (go_at_call 58; refine (flip_any _ _).mono ?_; rintro e w' ⟨rfl, rfl⟩)
  all_goals
    go_loop [8, 40] (fun m i => i = .int .i64 0 ∧ m = .int .u64 0) (fun _ i => 0 - (intOf i).toNat)
    case atStart => exact ⟨rfl, rfl⟩
    case round =>
      obtain ⟨rfl, rfl⟩ := hrel
      go_wp2
      go_ret3
      exact ⟨rfl, rfl⟩

set_option maxHeartbeats 400000 in
theorem GetInt_pos (b off len cap k : Nat) (t : List Int) (w : World) (hk : k ≤ 127) (hk0 : 0 < k) (hl : len = t.length + 1) (hlc : len ≤ cap) (_hcm : cap ≤ maxLen) (ht : Bs t)
    (hc0 : w.cell? ⟨b, off, none⟩ = some (.int .u8 (128 + (k : Int)))) (hct : ∀ i, i < t.length → w.cell? ⟨b, off + (i + 1), none⟩ = some (.int .u8 (t.getD i 0))) :
    Calls Tryd.prog 37 #[.slice (some ⟨b, off, none⟩) len cap] w (Trip (dec ((128 + (k : Int)) :: t)).1 (dec ((128 + (k : Int)) :: t)).2.1 (dec ((128 + (k : Int)) :: t)).2.2 w) := by
  subst hl
  unfold maxLen at _hcm
  have HD := hid (dec_cons (t := t) (neg := false) (x := 128 + (k : Int)) (k := k) (by simp; omega) (by simp [fl]))
  obtain ⟨X, hX⟩ : ∃ X : Int, X = 128 + (k : Int) := ⟨_, rfl⟩
  have hx0 : 128 ≤ X := by omega
  have hx1 : X ≤ 255 := by omega
  have hx : bits .xor .u8 X 0 = X := by rw [xor_00 _ (by omega) (by omega)]
  have h128 : X - 128 = k := by omega
  rw [← hX] at HD hc0 ⊢
  clear hX
  have HCT := hid hct
  clear hct
  by_cases hk8 : 8 < k
  · go_enter Tryd.func37, Tryd.ntmps37
    go_wp2_with (go_at_call 58; refine (flip_any _ _).mono ?_; rintro e w' ⟨rfl, rfl⟩)
    go_ret3
    rw [HD.out, if_pos hk8]
    exact ⟨rfl, rfl⟩
  · by_cases hlt : t.length < k
    · go_enter Tryd.func37, Tryd.ntmps37
      go_wp2_with (go_at_call 58; refine (flip_any _ _).mono ?_; rintro e w' ⟨rfl, rfl⟩)
      go_ret3
      rw [HD.out, if_neg hk8, if_pos hlt]
      exact ⟨rfl, rfl⟩
    · go_enter Tryd.func37, Tryd.ntmps37
      go_wp2_with (go_at_call 58; refine (flip_any _ _).mono ?_; rintro e w' ⟨rfl, rfl⟩)
      go_loop [8, 40] (fun m i => ∃ j q : Nat, j ≤ k ∧ i = .int .i64 j ∧ m = .int .u64 q ∧ Fold false t k j q) (fun _ i => k - (intOf i).toNat)
      case atStart => exact ⟨0, 0, by omega, rfl, rfl, rfl⟩
      case round =>
        obtain ⟨j, q, hj, rfl, rfl, hq⟩ := hrel
        have hqb := hq.lt ht hk8 (by omega)
        by_cases hjk : j < k
        · have hqc := hq.lt7 ht hk8 (by omega) hjk
          obtain ⟨y, hy⟩ : ∃ y, y = t.getD j 0 := ⟨_, rfl⟩
          have hcy : w.cell? ⟨b, off + 1 + j, none⟩ = some (.int .u8 y) := by rw [hy, ← HCT.out j (by omega)]; congr 2; omega
          have hyb : 0 ≤ y ∧ y ≤ 255 := by rw [hy]; exact Bs.getD ht j
          have hxy := xor_00 y hyb.1 hyb.2
          have HQ := hid (hq.step hjk (by omega) hy)
          obtain ⟨hy0, hy1⟩ := hyb
          clear hy hq
          go_wp2
          go_round
          case rel => exact ⟨j + 1, _, by omega, by go_num, by rw [or_u64 q y (by omega) (by omega) (by omega)], by simpa [fl] using HQ.out⟩
          case measure => simp [intOf]; omega
        · obtain rfl : j = k := by omega
          obtain ⟨y, hy⟩ : ∃ y, y = t.getD 0 0 := ⟨_, rfl⟩
          have hcy : w.cell? ⟨b, off + 1, none⟩ = some (.int .u8 y) := by rw [hy, ← HCT.out 0 (by omega)]
          have HH := hid (flips_head (neg := false) (j := j) hk0 (by omega) hy)
          have HV := hid (hq.full)
          have hyb : 0 ≤ y ∧ y ≤ 255 := by rw [hy]; exact Bs.getD ht 0
          obtain ⟨hy0, hy1⟩ := hyb
          clear hy hq
          by_cases hy255 : y = 0
          · have hye : ((y : Int) == 0) = true := by simp [hy255]
            have HY := hid hy255
            clear hy255
            go_wp2
            go_ret3
            rw [HD.out, if_neg hk8, if_neg hlt, if_pos (.inl ⟨hk0, by rw [HH.out, HY.out]; rfl⟩)]
            exact ⟨rfl, rfl⟩
          · have hye : ((y : Int) == 0) = false := by simp [hy255]
            have HY := hid hy255
            clear hy255
            by_cases hqm : 9223372036854775807 < q
            · have HQM := hid hqm
              go_wp2
              go_ret3
              rw [HD.out, if_neg hk8, if_neg hlt, if_pos (.inr (by rw [← HV.out]; exact HQM.out))]
              exact ⟨rfl, rfl⟩
            · have hqm' : q ≤ 9223372036854775807 := by omega
              have HQM := hid hqm
              clear hqm
              go_wp2
              go_ret3
              rw [HD.out, if_neg hk8, if_neg hlt, if_neg, ← HV.out]
              · exact Trip.mk (by simp) (by simp; omega) rfl
              · rintro (⟨_, h⟩ | h)
                · rw [HH.out] at h
                  exact HY.out (by simp [fl] at h; omega)
                · rw [← HV.out] at h; exact HQM.out h

set_option maxHeartbeats 400000 in
theorem GetInt_nil (ao : Option Addr) (cap : Nat) (w : World) :
    Calls Tryd.prog 37 #[.slice ao 0 cap] w (Trip 0 0 3 w) := by
  go_enter Tryd.func37, Tryd.ntmps37
  go_wp2
  go_ret3
  exact ⟨rfl, rfl⟩

theorem GetInt_any (v : Value) (bs : List Int) (w : World) (hv : ByteView w v bs) :
    Calls Tryd.prog 37 #[v] w (Trip (dec bs).1 (dec bs).2.1 (dec bs).2.2 w) := by
  obtain ⟨hB, ao, cap, rfl, hlc, hcm, hcells⟩ := hv
  cases bs with
  | nil => exact GetInt_nil ao cap w
  | cons x t =>
    obtain ⟨b, off, rfl, hc⟩ := hcells (by simp)
    obtain ⟨hx, ht⟩ := hB.cons
    have hc0 := hc 0 (by simp)
    have hct : ∀ i, i < t.length → w.cell? ⟨b, off + (i + 1), none⟩ = some (.int .u8 (t.getD i 0)) := by
      intro i hi
      have := hc (i + 1) (by simpa using hi)
      simpa using this
    simp only [Nat.add_zero, List.getD_cons_zero] at hc0
    clear hc hcells hB
    by_cases h : x < 128
    · obtain ⟨k, rfl⟩ : ∃ k : Nat, x = 127 - (k : Int) := ⟨(127 - x).toNat, by omega⟩
      cases k with
      | zero =>
        have e : dec ((127 - ((0 : Nat) : Int)) :: t) = (-1, 1, 0) := by
          rw [dec_cons (k := 0) (neg := true) (by simp) (by simp [fl])]; simp [val]
        rw [e]
        exact GetInt_neg0 b off _ cap t w rfl hlc hcm (by simpa using hc0)
      | succ k => exact GetInt_neg b off _ cap (k + 1) t w (by omega) (by omega) rfl hlc hcm ht hc0 hct
    · obtain ⟨k, rfl⟩ : ∃ k : Nat, x = 128 + (k : Int) := ⟨(x - 128).toNat, by omega⟩
      cases k with
      | zero =>
        have e : dec ((128 + ((0 : Nat) : Int)) :: t) = (0, 1, 0) := by
          rw [dec_cons (k := 0) (neg := false) (by simp) (by simp [fl])]; simp [val]
        rw [e]
        exact GetInt_pos0 b off _ cap t w rfl hlc hcm (by simpa using hc0)
      | succ k => exact GetInt_pos b off _ cap (k + 1) t w (by omega) (by omega) rfl hlc hcm ht hc0 hct
end Go.Proofs.YthadfilandmhiaaDoor
