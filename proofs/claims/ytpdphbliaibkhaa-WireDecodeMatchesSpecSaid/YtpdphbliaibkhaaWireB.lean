/-
  Contracts of gantry/wire: Int, GetInt.
-/
import Derived.Test.YtpdphbliaibkhaaWireA
namespace Go.Proofs.Ytpdphbliaibkhaa
open Go.RowKit
open Go.Lib (hid)
open W

set_option maxHeartbeats 400000 in
theorem Int_any (base : Nat) (n : Int) (w : World) (h1 : n ≤ 9223372036854775807) (h2 : -9223372036854775808 ≤ n) (hb : base ≤ w.heap.size) :
    Calls Try.prog 14 #[.int .i64 n] w (Grew w base (.slice none 0 0) (code n)) := by
  go_enter Try.func14, Try.ntmps14
  go_wp2_with fail
  refine (appendInt_any base _ [] n _ h1 h2 (World.ownsRow_nil _ _ _ _) hb (by simp)).mono ?_
  rintro e w' ⟨v', rfl, h⟩
  have H := hid h
  clear h
  go_wp2
  go_ret
  exact ⟨v', rfl, by simpa using H.out.1, H.out.2⟩

/-- The value v is a slice of the bytes bs. -/
structure ByteView (w : World) (v : Value) (bs : List Int) : Prop where
  bytes : Bs bs
  shape : ∃ ao cap, v = .slice ao bs.length cap ∧ bs.length ≤ cap ∧ cap ≤ maxLen ∧
    (bs ≠ [] → ∃ b off, ao = some ⟨b, off, none⟩ ∧ ∀ i, i < bs.length → w.cell? ⟨b, off + i, none⟩ = some (.int .u8 (bs.getD i 0)))

theorem dec_cons {neg : Bool} {x : Int} {t : List Int} {k : Nat} (hneg : decide (x < 128) = neg) (hk : fl neg x = 128 + k) :
    dec (x :: t) = if 8 < k then (0, 0, 2) else if t.length < k then (0, 0, 3) else
      if (0 < k ∧ ((t.take k).map fun x => (fl neg x).toNat).headD 1 = 0) ∨ 9223372036854775807 < val ((t.take k).map fun x => (fl neg x).toNat) then (0, 0, 2)
      else (if neg then -1 - (val ((t.take k).map fun x => (fl neg x).toNat) : Int) else val ((t.take k).map fun x => (fl neg x).toNat), k + 1, 0) := by
  simp only [dec, hneg, hk]
  have e : (128 + (k : Int) - 128).toNat = k := by omega
  rw [e]

/-- The number that the first j of the k bytes stand for. -/
def Fold (neg : Bool) (t : List Int) (k j q : Nat) : Prop := q = val (((t.take k).map fun x => (fl neg x).toNat).take j)

theorem fl_byte {neg : Bool} {x : Int} (h : 0 ≤ x ∧ x ≤ 255) : 0 ≤ fl neg x ∧ fl neg x ≤ 255 := by
  unfold fl; split <;> omega

theorem Bs.getD {l : List Int} (h : Bs l) (i : Nat) : 0 ≤ l.getD i 0 ∧ l.getD i 0 ≤ 255 := by
  by_cases hi : i < l.length
  · rw [List.getD_eq_getElem?_getD, List.getElem?_eq_getElem hi]; exact h _ (List.getElem_mem hi)
  · rw [List.getD_eq_getElem?_getD, List.getElem?_eq_none (by omega)]; simp

theorem flips_lt {neg : Bool} {t : List Int} (ht : Bs t) (k j : Nat) : ∀ d ∈ ((t.take k).map fun x => (fl neg x).toNat).take j, d < 256 := by
  intro d hd
  obtain ⟨x, hx, rfl⟩ := List.mem_map.1 (List.mem_of_mem_take hd)
  have := fl_byte (neg := neg) (ht x (List.mem_of_mem_take hx))
  omega

theorem Fold.pow {neg : Bool} {t : List Int} {k j q : Nat} (h : Fold neg t k j q) (ht : Bs t) : q < 256 ^ j := by
  have h1 := val_lt _ (flips_lt (neg := neg) ht k j)
  rw [← h] at h1
  exact Nat.lt_of_lt_of_le h1 (Nat.pow_le_pow_right (by decide) (List.length_take_le _ _))

theorem Fold.lt {neg : Bool} {t : List Int} {k j q : Nat} (h : Fold neg t k j q) (ht : Bs t) (hk : ¬ 8 < k) (hj : j ≤ k) : q ≤ 18446744073709551615 := by
  have h1 := h.pow ht
  have h2 : 256 ^ j ≤ 256 ^ 8 := Nat.pow_le_pow_right (by decide) (by omega)
  omega

theorem Fold.lt7 {neg : Bool} {t : List Int} {k j q : Nat} (h : Fold neg t k j q) (ht : Bs t) (hk : ¬ 8 < k) (_hj : j ≤ k) (hjk : j < k) : q ≤ 72057594037927935 := by
  have h1 := h.pow ht
  have h2 : 256 ^ j ≤ 256 ^ 7 := Nat.pow_le_pow_right (by decide) (by omega)
  omega

theorem Fold.step {neg : Bool} {t : List Int} {k j q : Nat} {y : Int} (h : Fold neg t k j q) (hjk : j < k) (hkt : k ≤ t.length) (hy : y = t.getD j 0) : Fold neg t k (j + 1) (q * 256 + (fl neg y).toNat) := by
  unfold Fold at h ⊢
  rw [List.take_succ_eq_append_getElem (by simp; omega), val_snoc, ← h]
  simp [hy, List.getD_eq_getElem?_getD, List.getElem?_eq_getElem (show j < t.length by omega)]

theorem Fold.full {neg : Bool} {t : List Int} {k q : Nat} (h : Fold neg t k k q) : q = val ((t.take k).map fun x => (fl neg x).toNat) := by
  unfold Fold at h
  rwa [List.take_of_length_le (by simp; omega)] at h

theorem flips_head {neg : Bool} {t : List Int} {j : Nat} {y : Int} (hj : 0 < j) (hjt : j ≤ t.length) (hy : y = t.getD 0 0) : ((t.take j).map fun x => (fl neg x).toNat).headD 1 = (fl neg y).toNat := by
  obtain ⟨j, rfl⟩ : ∃ i, j = i + 1 := ⟨j - 1, by omega⟩
  cases t with
  | nil => simp at hjt
  | cons x t => simp at hy; simp [hy]

theorem or_u64 (q : Nat) (z : Int) (hq : q ≤ 72057594037927935) (h0 : 0 ≤ z) (h1 : z ≤ 255) : bits .or .u64 ((q : Int) * 256) z = ((q * 256 + z.toNat : Nat) : Int) := by
  have e := u64_or_nat (q * 256) z.toNat (by omega) (by omega)
  rw [show ((q * 256 : Nat) : Int) = (q : Int) * 256 by omega, show ((z.toNat : Nat) : Int) = z by omega] at e
  rw [e]
  have h := Nat.two_pow_add_eq_or_of_lt (i := 8) (b := z.toNat) (by omega) q
  rw [show q * 256 = 2 ^ 8 * q by omega, ← h]

def Trip (a b c : Int) (w : World) (e : Ending) (w' : World) : Prop := e = .returned (.tuple #[.int .i64 a, .int .i64 b, .int .i64 c]) ∧ w = w'

theorem Trip.mk {a b c a' b' c' : Int} {w : World} (h1 : a = a') (h2 : b = b') (h3 : c = c') : Trip a' b' c' w (.returned (.tuple #[.int .i64 a, .int .i64 b, .int .i64 c])) w := by
  subst h1 h2 h3; exact ⟨rfl, rfl⟩

set_option maxHeartbeats 400000 in
theorem GetInt_neg0 (b off len cap : Nat) (t : List Int) (w : World) (hl : len = t.length + 1) (hlc : len ≤ cap) (_hcm : cap ≤ maxLen)
    (hc0 : w.cell? ⟨b, off, none⟩ = some (.int .u8 127)) :
    Calls Try.prog 24 #[.slice (some ⟨b, off, none⟩) len cap] w (Trip (-1) 1 0 w) := by
  subst hl
  unfold maxLen at _hcm
  have hx : bits .xor .u8 127 255 = 128 := by rw [xor_ff _ (by omega) (by omega)]; omega
  have hp : IntKind.u64.wrap 0 = 0 := by decide
  go_enter Try.func24, Try.ntmps24
  go_wp2_with (go_at_call 39; refine (flip_any _ _).mono ?_; rintro e w' ⟨rfl, rfl⟩)
  all_goals
    go_loop [8, 40] (fun m i => i = .int .i64 0 ∧ m = .int .u64 0) (fun _ i => 0 - (intOf i).toNat)
    case atStart => exact ⟨rfl, rfl⟩
    case round =>
      obtain ⟨rfl, rfl⟩ := hrel
      go_wp2
      go_ret3
      exact ⟨rfl, rfl⟩

set_option maxHeartbeats 400000 in
theorem GetInt_neg (b off len cap k : Nat) (t : List Int) (w : World) (hk : k ≤ 127) (hk0 : 0 < k) (hl : len = t.length + 1) (hlc : len ≤ cap) (_hcm : cap ≤ maxLen) (ht : Bs t)
    (hc0 : w.cell? ⟨b, off, none⟩ = some (.int .u8 (127 - (k : Int)))) (hct : ∀ i, i < t.length → w.cell? ⟨b, off + (i + 1), none⟩ = some (.int .u8 (t.getD i 0))) :
    Calls Try.prog 24 #[.slice (some ⟨b, off, none⟩) len cap] w (Trip (dec ((127 - (k : Int)) :: t)).1 (dec ((127 - (k : Int)) :: t)).2.1 (dec ((127 - (k : Int)) :: t)).2.2 w) := by
  subst hl
  unfold maxLen at _hcm
  have HD := hid (dec_cons (t := t) (neg := true) (x := 127 - (k : Int)) (k := k) (by simp; omega) (by simp [fl]; omega))
  have hx : bits .xor .u8 (127 - (k : Int)) 255 = 128 + (k : Int) := by rw [xor_ff _ (by omega) (by omega)]; omega
  have h128 : 128 + (k : Int) - 128 = k := by omega
  have HCT := hid hct
  clear hct
  by_cases hk8 : 8 < k
  · go_enter Try.func24, Try.ntmps24
    go_wp2_with (go_at_call 39; refine (flip_any _ _).mono ?_; rintro e w' ⟨rfl, rfl⟩)
    go_ret3
    rw [HD.out, if_pos hk8]
    exact ⟨rfl, rfl⟩
  · by_cases hlt : t.length < k
    · go_enter Try.func24, Try.ntmps24
      go_wp2_with (go_at_call 39; refine (flip_any _ _).mono ?_; rintro e w' ⟨rfl, rfl⟩)
      go_ret3
      rw [HD.out, if_neg hk8, if_pos hlt]
      exact ⟨rfl, rfl⟩
    · go_enter Try.func24, Try.ntmps24
      go_wp2_with (go_at_call 39; refine (flip_any _ _).mono ?_; rintro e w' ⟨rfl, rfl⟩)
      go_loop [8, 40] (fun m i => ∃ j q : Nat, j ≤ k ∧ i = .int .i64 j ∧ m = .int .u64 q ∧ Fold true t k j q) (fun _ i => k - (intOf i).toNat)
      case atStart => exact ⟨0, 0, by omega, rfl, rfl, rfl⟩
      case round =>
        obtain ⟨j, q, hj, rfl, rfl, hq⟩ := hrel
        have hqb := hq.lt ht hk8 (by omega)
        by_cases hjk : j < k
        · have hqc := hq.lt7 ht hk8 (by omega) hjk
          obtain ⟨y, hy⟩ : ∃ y, y = t.getD j 0 := ⟨_, rfl⟩
          have hcy : w.cell? ⟨b, off + 1 + j, none⟩ = some (.int .u8 y) := by rw [hy, ← HCT.out j (by omega)]; congr 2; omega
          have hyb : 0 ≤ y ∧ y ≤ 255 := by rw [hy]; exact Bs.getD ht j
          have hxy := xor_ff y hyb.1 hyb.2
          have HQ := hid (hq.step hjk (by omega) hy)
          obtain ⟨hy0, hy1⟩ := hyb
          clear hy hq
          go_wp2
          go_round
          case rel => exact ⟨j + 1, _, by omega, by go_num, by rw [or_u64 q (255 - y) (by omega) (by omega) (by omega)], by simpa [fl] using HQ.out⟩
          case measure => simp [intOf]; omega
        · obtain rfl : j = k := by omega
          obtain ⟨y, hy⟩ : ∃ y, y = t.getD 0 0 := ⟨_, rfl⟩
          have hcy : w.cell? ⟨b, off + 1, none⟩ = some (.int .u8 y) := by rw [hy, ← HCT.out 0 (by omega)]
          have HH := hid (flips_head (neg := true) (j := j) hk0 (by omega) hy)
          have HV := hid (hq.full)
          have hyb : 0 ≤ y ∧ y ≤ 255 := by rw [hy]; exact Bs.getD ht 0
          obtain ⟨hy0, hy1⟩ := hyb
          clear hy hq
          by_cases hy255 : y = 255
          · have hye : ((y : Int) == 255) = true := by simp [hy255]
            have HY := hid hy255
            clear hy255
            go_wp2
            go_ret3
            rw [HD.out, if_neg hk8, if_neg hlt, if_pos (.inl ⟨hk0, by rw [HH.out, HY.out]; rfl⟩)]
            exact ⟨rfl, rfl⟩
          · have hye : ((y : Int) == 255) = false := by simp [hy255]
            have HY := hid hy255
            clear hy255
            by_cases hqm : 9223372036854775807 < q
            · have HQM := hid hqm
              go_wp2
              go_ret3
              rw [HD.out, if_neg hk8, if_neg hlt, if_pos (.inr (by rw [← HV.out]; exact HQM.out))]
              exact ⟨rfl, rfl⟩
            · have hqm' : q ≤ 9223372036854775807 := by omega
              have HQM := hid hqm
              clear hqm
              go_wp2
              go_ret3
              rw [HD.out, if_neg hk8, if_neg hlt, if_neg, ← HV.out]
              · exact Trip.mk (by simp) (by simp; omega) rfl
              · rintro (⟨_, h⟩ | h)
                · rw [HH.out] at h
                  exact HY.out (by simp [fl] at h; omega)
                · rw [← HV.out] at h; exact HQM.out h
set_option maxHeartbeats 400000 in
theorem GetInt_pos0 (b off len cap : Nat) (t : List Int) (w : World) (hl : len = t.length + 1) (hlc : len ≤ cap) (_hcm : cap ≤ maxLen)
    (hc0 : w.cell? ⟨b, off, none⟩ = some (.int .u8 128)) :
    Calls Try.prog 24 #[.slice (some ⟨b, off, none⟩) len cap] w (Trip 0 1 0 w) := by
  subst hl
  unfold maxLen at _hcm
  have hx : bits .xor .u8 128 0 = 128 := by rw [xor_00 _ (by omega) (by omega)]
  have hp : IntKind.u64.wrap 0 = 0 := by decide
  go_enter Try.func24, Try.ntmps24
  go_wp2_with (go_at_call 39; refine (flip_any _ _).mono ?_; rintro e w' ⟨rfl, rfl⟩)
  all_goals
    go_loop [8, 40] (fun m i => i = .int .i64 0 ∧ m = .int .u64 0) (fun _ i => 0 - (intOf i).toNat)
    case atStart => exact ⟨rfl, rfl⟩
    case round =>
      obtain ⟨rfl, rfl⟩ := hrel
      go_wp2
      go_ret3
      exact ⟨rfl, rfl⟩

set_option maxHeartbeats 400000 in
theorem GetInt_pos (b off len cap k : Nat) (t : List Int) (w : World) (hk : k ≤ 127) (hk0 : 0 < k) (hl : len = t.length + 1) (hlc : len ≤ cap) (_hcm : cap ≤ maxLen) (ht : Bs t)
    (hc0 : w.cell? ⟨b, off, none⟩ = some (.int .u8 (128 + (k : Int)))) (hct : ∀ i, i < t.length → w.cell? ⟨b, off + (i + 1), none⟩ = some (.int .u8 (t.getD i 0))) :
    Calls Try.prog 24 #[.slice (some ⟨b, off, none⟩) len cap] w (Trip (dec ((128 + (k : Int)) :: t)).1 (dec ((128 + (k : Int)) :: t)).2.1 (dec ((128 + (k : Int)) :: t)).2.2 w) := by
  subst hl
  unfold maxLen at _hcm
  have HD := hid (dec_cons (t := t) (neg := false) (x := 128 + (k : Int)) (k := k) (by simp; omega) (by simp [fl]))
  obtain ⟨X, hX⟩ : ∃ X : Int, X = 128 + (k : Int) := ⟨_, rfl⟩
  have hx0 : 128 ≤ X := by omega
  have hx1 : X ≤ 255 := by omega
  have hx : bits .xor .u8 X 0 = X := by rw [xor_00 _ (by omega) (by omega)]
  have h128 : X - 128 = k := by omega
  rw [← hX] at HD hc0 ⊢
  clear hX
  have HCT := hid hct
  clear hct
  by_cases hk8 : 8 < k
  · go_enter Try.func24, Try.ntmps24
    go_wp2_with (go_at_call 39; refine (flip_any _ _).mono ?_; rintro e w' ⟨rfl, rfl⟩)
    go_ret3
    rw [HD.out, if_pos hk8]
    exact ⟨rfl, rfl⟩
  · by_cases hlt : t.length < k
    · go_enter Try.func24, Try.ntmps24
      go_wp2_with (go_at_call 39; refine (flip_any _ _).mono ?_; rintro e w' ⟨rfl, rfl⟩)
      go_ret3
      rw [HD.out, if_neg hk8, if_pos hlt]
      exact ⟨rfl, rfl⟩
    · go_enter Try.func24, Try.ntmps24
      go_wp2_with (go_at_call 39; refine (flip_any _ _).mono ?_; rintro e w' ⟨rfl, rfl⟩)
      go_loop [8, 40] (fun m i => ∃ j q : Nat, j ≤ k ∧ i = .int .i64 j ∧ m = .int .u64 q ∧ Fold false t k j q) (fun _ i => k - (intOf i).toNat)
      case atStart => exact ⟨0, 0, by omega, rfl, rfl, rfl⟩
      case round =>
        obtain ⟨j, q, hj, rfl, rfl, hq⟩ := hrel
        have hqb := hq.lt ht hk8 (by omega)
        by_cases hjk : j < k
        · have hqc := hq.lt7 ht hk8 (by omega) hjk
          obtain ⟨y, hy⟩ : ∃ y, y = t.getD j 0 := ⟨_, rfl⟩
          have hcy : w.cell? ⟨b, off + 1 + j, none⟩ = some (.int .u8 y) := by rw [hy, ← HCT.out j (by omega)]; congr 2; omega
          have hyb : 0 ≤ y ∧ y ≤ 255 := by rw [hy]; exact Bs.getD ht j
          have hxy := xor_00 y hyb.1 hyb.2
          have HQ := hid (hq.step hjk (by omega) hy)
          obtain ⟨hy0, hy1⟩ := hyb
          clear hy hq
          go_wp2
          go_round
          case rel => exact ⟨j + 1, _, by omega, by go_num, by rw [or_u64 q y (by omega) (by omega) (by omega)], by simpa [fl] using HQ.out⟩
          case measure => simp [intOf]; omega
        · obtain rfl : j = k := by omega
          obtain ⟨y, hy⟩ : ∃ y, y = t.getD 0 0 := ⟨_, rfl⟩
          have hcy : w.cell? ⟨b, off + 1, none⟩ = some (.int .u8 y) := by rw [hy, ← HCT.out 0 (by omega)]
          have HH := hid (flips_head (neg := false) (j := j) hk0 (by omega) hy)
          have HV := hid (hq.full)
          have hyb : 0 ≤ y ∧ y ≤ 255 := by rw [hy]; exact Bs.getD ht 0
          obtain ⟨hy0, hy1⟩ := hyb
          clear hy hq
          by_cases hy255 : y = 0
          · have hye : ((y : Int) == 0) = true := by simp [hy255]
            have HY := hid hy255
            clear hy255
            go_wp2
            go_ret3
            rw [HD.out, if_neg hk8, if_neg hlt, if_pos (.inl ⟨hk0, by rw [HH.out, HY.out]; rfl⟩)]
            exact ⟨rfl, rfl⟩
          · have hye : ((y : Int) == 0) = false := by simp [hy255]
            have HY := hid hy255
            clear hy255
            by_cases hqm : 9223372036854775807 < q
            · have HQM := hid hqm
              go_wp2
              go_ret3
              rw [HD.out, if_neg hk8, if_neg hlt, if_pos (.inr (by rw [← HV.out]; exact HQM.out))]
              exact ⟨rfl, rfl⟩
            · have hqm' : q ≤ 9223372036854775807 := by omega
              have HQM := hid hqm
              clear hqm
              go_wp2
              go_ret3
              rw [HD.out, if_neg hk8, if_neg hlt, if_neg, ← HV.out]
              · exact Trip.mk (by simp) (by simp; omega) rfl
              · rintro (⟨_, h⟩ | h)
                · rw [HH.out] at h
                  exact HY.out (by simp [fl] at h; omega)
                · rw [← HV.out] at h; exact HQM.out h

set_option maxHeartbeats 400000 in
theorem GetInt_nil (ao : Option Addr) (cap : Nat) (w : World) :
    Calls Try.prog 24 #[.slice ao 0 cap] w (Trip 0 0 3 w) := by
  go_enter Try.func24, Try.ntmps24
  go_wp2
  go_ret3
  exact ⟨rfl, rfl⟩

theorem GetInt_any (v : Value) (bs : List Int) (w : World) (hv : ByteView w v bs) :
    Calls Try.prog 24 #[v] w (Trip (dec bs).1 (dec bs).2.1 (dec bs).2.2 w) := by
  obtain ⟨hB, ao, cap, rfl, hlc, hcm, hcells⟩ := hv
  cases bs with
  | nil => exact GetInt_nil ao cap w
  | cons x t =>
    obtain ⟨b, off, rfl, hc⟩ := hcells (by simp)
    obtain ⟨hx, ht⟩ := hB.cons
    have hc0 := hc 0 (by simp)
    have hct : ∀ i, i < t.length → w.cell? ⟨b, off + (i + 1), none⟩ = some (.int .u8 (t.getD i 0)) := by
      intro i hi
      have := hc (i + 1) (by simpa using hi)
      simpa using this
    simp only [Nat.add_zero, List.getD_cons_zero] at hc0
    clear hc hcells hB
    by_cases h : x < 128
    · obtain ⟨k, rfl⟩ : ∃ k : Nat, x = 127 - (k : Int) := ⟨(127 - x).toNat, by omega⟩
      cases k with
      | zero =>
        have e : dec ((127 - ((0 : Nat) : Int)) :: t) = (-1, 1, 0) := by
          rw [dec_cons (k := 0) (neg := true) (by simp) (by simp [fl])]; simp [val]
        rw [e]
        exact GetInt_neg0 b off _ cap t w rfl hlc hcm (by simpa using hc0)
      | succ k => exact GetInt_neg b off _ cap (k + 1) t w (by omega) (by omega) rfl hlc hcm ht hc0 hct
    · obtain ⟨k, rfl⟩ : ∃ k : Nat, x = 128 + (k : Int) := ⟨(x - 128).toNat, by omega⟩
      cases k with
      | zero =>
        have e : dec ((128 + ((0 : Nat) : Int)) :: t) = (0, 1, 0) := by
          rw [dec_cons (k := 0) (neg := false) (by simp) (by simp [fl])]; simp [val]
        rw [e]
        exact GetInt_pos0 b off _ cap t w rfl hlc hcm (by simpa using hc0)
      | succ k => exact GetInt_pos b off _ cap (k + 1) t w (by omega) (by omega) rfl hlc hcm ht hc0 hct

end Go.Proofs.Ytpdphbliaibkhaa
