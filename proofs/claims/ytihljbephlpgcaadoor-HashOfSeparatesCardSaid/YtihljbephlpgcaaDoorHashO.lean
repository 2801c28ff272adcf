/-
  gantry/hash.Equal.
-/
import Derived.Test.YtihljbephlpgcaaDoorHashH
import Derived.Laws.BitsAllLaws
import Derived.Deep.RegionHeld3
namespace Go.Proofs.YtihljbephlpgcaaDoor
open Go.RowKit
open Go.Lib (hid)
open S

/-- What differs so far. -/
def diff (a b : List Nat) (n : Nat) : Nat := ((a.take n).zip (b.take n)).foldl (fun d p => d ||| (p.1 ^^^ p.2)) 0
theorem foldl_lt (l : List (Nat × Nat)) (d : Nat) (hd : d < 256) (h : ∀ p ∈ l, p.1 < 256 ∧ p.2 < 256) : l.foldl (fun d p => d ||| (p.1 ^^^ p.2)) d < 256 := by
  induction l generalizing d with
  | nil => exact hd
  | cons p l ih =>
    have hp := h p (List.mem_cons_self ..)
    exact ih _ (Nat.or_lt_two_pow (n := 8) hd (Nat.xor_lt_two_pow (n := 8) hp.1 hp.2)) fun q hq => h q (List.mem_cons_of_mem _ hq)
theorem diff_lt {a b : List Nat} (ha : Bn a) (hb : Bn b) (n : Nat) : diff a b n < 256 := by
  refine foldl_lt _ _ (by decide) fun p hp => ?_
  have := List.of_mem_zip hp
  exact ⟨ha _ (List.mem_of_mem_take this.1), hb _ (List.mem_of_mem_take this.2)⟩
theorem diff_step {a b : List Nat} (n : Nat) (ha : n < a.length) (hb : n < b.length) : diff a b (n + 1) = diff a b n ||| (a.getD n 0 ^^^ b.getD n 0) := by
  unfold diff
  rw [List.take_succ_eq_append_getElem ha, List.take_succ_eq_append_getElem hb, List.zip_append (by simp [Nat.min_eq_left (Nat.le_of_lt ha), Nat.min_eq_left (Nat.le_of_lt hb)]), List.foldl_append]
  simp [List.getD_eq_getElem?_getD, ha, hb]
theorem or_zero {a b : Nat} (h : a ||| b = 0) : a = 0 ∧ b = 0 := by
  constructor
  · apply Nat.eq_of_testBit_eq
    intro i
    have := congrArg (·.testBit i) h
    simp only [Nat.testBit_or, Nat.zero_testBit] at this ⊢
    simpa using (Bool.or_eq_false_iff.1 this).1
  · apply Nat.eq_of_testBit_eq
    intro i
    have := congrArg (·.testBit i) h
    simp only [Nat.testBit_or, Nat.zero_testBit] at this ⊢
    simpa using (Bool.or_eq_false_iff.1 this).2
theorem xor_zero {a b : Nat} (h : a ^^^ b = 0) : a = b := by
  apply Nat.eq_of_testBit_eq
  intro i
  have := congrArg (·.testBit i) h
  simp only [Nat.testBit_xor, Nat.zero_testBit] at this
  cases h1 : a.testBit i <;> cases h2 : b.testBit i <;> simp [h1, h2] at this ⊢
theorem fold_zero : ∀ (l : List (Nat × Nat)) (d : Nat), l.foldl (fun d p => d ||| (p.1 ^^^ p.2)) d = 0 ↔ d = 0 ∧ ∀ p ∈ l, p.1 = p.2
  | [], d => by simp
  | p :: l, d => by
    rw [List.foldl_cons, fold_zero l]
    constructor
    · rintro ⟨h1, h2⟩
      obtain ⟨h3, h4⟩ := or_zero h1
      refine ⟨h3, fun q hq => ?_⟩
      rcases List.mem_cons.1 hq with rfl | hq
      · exact xor_zero h4
      · exact h2 q hq
    · rintro ⟨rfl, h2⟩
      refine ⟨?_, fun q hq => h2 q (List.mem_cons_of_mem _ hq)⟩
      rw [h2 p (List.mem_cons_self ..), Nat.xor_self]
      rfl
theorem diff_zero {a b : List Nat} (h : a.length = b.length) : diff a b a.length = 0 ↔ a = b := by
  unfold diff
  rw [List.take_of_length_le (Nat.le_refl _), List.take_of_length_le (by omega), fold_zero]
  constructor
  · rintro ⟨_, h2⟩
    apply List.ext_getElem h
    intro i h3 h4
    exact h2 (a[i], b[i]) (by rw [List.mem_iff_getElem]; exact ⟨i, by simp; omega, by simp⟩)
  · rintro rfl
    refine ⟨rfl, fun p hp => ?_⟩
    rw [List.mem_iff_getElem] at hp
    obtain ⟨i, hi, rfl⟩ := hp
    simp
theorem tx_inj {a b : ByteArray} (h : tx a = tx b) : a = b := by rw [← strN_tx a, ← strN_tx b, h]

/-- A byte of a string. -/
theorem tx_index (s : ByteArray) (i : Nat) (h : i < s.size) : s[i].toNat = (tx s).getD i 0 := by
  have : i < (tx s).length := by rw [tx_length]; exact h
  rw [List.getD_eq_getElem?_getD, List.getElem?_eq_getElem this]
  simp [tx]
  rfl

theorem bn_getD {l : List Nat} (h : Bn l) (i : Nat) : l.getD i 0 < 256 := by
  rw [List.getD_eq_getElem?_getD]
  cases hi : l[i]? with
  | none => decide
  | some x => exact h x (List.mem_of_getElem? hi)
theorem index_str (s : ByteArray) (k : Nat) (h : k < s.size) (w : World) : (Instr.index 9 (.string s) (.int .i64 (k : Int))).run Tryd.prog w = .ok (.int .u8 ((tx s).getD k 0 : Nat)) w := by
  rw [← tx_index s k h]
  rw [run_index_string (P := Tryd.prog) w 9 s .i64 (k : Int) Tryd.under_str, dif_pos ⟨by omega, by omega⟩]
  rfl

set_option maxRecDepth 100000 in
set_option maxHeartbeats 3200000 in
theorem Equal_any (a b : ByteArray) (w : World) (ha : a.size ≤ 1000000) :
    Calls Tryd.prog 24 #[.string a, .string b] w fun e w' => e = .returned (.bool (decide (a = b))) ∧ Below w.heap.size w w' := by
  have HTa := hid (tx_length a)
  have HTb := hid (tx_length b)
  go_enter Tryd.func24, Tryd.ntmps24
  by_cases hne : a.size = b.size
  · go_wp2_with fail
    go_loopw [14, 5] (fun i d wr => ∃ k : Nat, k ≤ a.size ∧ i = .int .i64 k ∧ d = .int .u8 (diff (tx a) (tx b) k : Nat) ∧ Below w.heap.size w wr) (fun i _ _ => a.size - (intOf i).toNat)
    case atStart => exact ⟨0, by omega, rfl, rfl, Below.refl _ _⟩
    case round =>
      obtain ⟨k, hk, rfl, rfl, hbl⟩ := hrel
      by_cases hk8 : k < a.size
      · obtain ⟨x, hx⟩ : ∃ x, x = (tx a).getD k 0 := ⟨_, rfl⟩
        obtain ⟨y, hy⟩ : ∃ y, y = (tx b).getD k 0 := ⟨_, rfl⟩
        obtain ⟨d, hd⟩ : ∃ d, d = diff (tx a) (tx b) k := ⟨_, rfl⟩
        have hxl : x < 256 := by rw [hx]; exact bn_getD (tx_bn a) k
        have hyl : y < 256 := by rw [hy]; exact bn_getD (tx_bn b) k
        have hdl : d < 256 := by rw [hd]; exact diff_lt (tx_bn a) (tx_bn b) k
        have ia := fun W => index_str a k hk8 W
        have ib := fun W => index_str b k (hne ▸ hk8) W
        rw [← hx] at ia
        rw [← hy] at ib
        rw [← hd]
        have e1 := u8_xor_nat x y hxl hyl
        have e2 := u8_or_nat d (x ^^^ y) hdl (Nat.xor_lt_two_pow (n := 8) hxl hyl)
        have HX := hid hx
        have HY := hid hy
        have HD := hid hd
        have HB := hid hbl
        clear hx hy hd hbl
        go_wp2
        go_quiet (fail)
        go_wp2
        go_roundw
        case rel =>
          refine ⟨k + 1, by omega, by go_num, ?_, ?_⟩
          rotate_left
          · exact ⟨HB.out.os, HB.out.tape, HB.out.output, HB.out.size, HB.out.block⟩
          rw [diff_step k (by rw [HTa.out]; omega) (by rw [HTb.out]; omega), ← HX.out, ← HY.out, ← HD.out]
        case measure => simp [intOf]; omega
      · obtain rfl : k = a.size := by omega
        have hz : ((diff (tx a) (tx b) a.size : Nat) : Int) = 0 ↔ a = b := by
          have h := diff_zero (a := tx a) (b := tx b) (by rw [HTa.out, HTb.out, hne])
          rw [HTa.out] at h
          rw [Int.natCast_eq_zero, h]
          exact ⟨tx_inj, fun h => by rw [h]⟩
        obtain ⟨d, hd⟩ : ∃ d, d = diff (tx a) (tx b) a.size := ⟨_, rfl⟩
        rw [← hd] at hz ⊢
        have HZ := hid hz
        have HB := hid hbl
        clear hz hbl hd
        go_wp2
        go_ret
        refine ⟨?_, HB.out⟩
        have e : (((d : Nat) : Int) == 0) = decide (a = b) := by
          rw [Bool.eq_iff_iff, beq_iff_eq, decide_eq_true_eq]
          exact HZ.out
        show Ending.returned (.bool (((d : Nat) : Int) == 0)) = _
        rw [e]
  · have hd : (decide (a = b)) = false := decide_eq_false (fun h => hne (by rw [h]))
    go_wp2_with fail
    go_ret
    exact ⟨by rw [hd]; rfl, Below.refl _ _⟩

end Go.Proofs.YtihljbephlpgcaaDoor
