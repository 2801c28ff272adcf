/-
  Contracts of gantry/gantryref01: count, GetBytes.
-/
import Derived.Test.YtpdphbliaibkhaaWireO
namespace Go.Proofs.Ytpdphbliaibkhaa
open Go.RowKit
open Go.Lib (hid)
open W

theorem lenOf_bad {b : List Int} {size : Nat} {e : Int} (h : dec b = (0, 0, e)) (he : e ≠ 0) : lenOf b size = (0, 0, e) := by
  unfold lenOf; rw [h]; simp [he]
theorem lenOf_neg {b : List Int} {size : Nat} {n : Int} {u : Nat} (h : dec b = (n, u, 0)) (hn : n < 0) : lenOf b size = (0, 0, 2) := by
  unfold lenOf; rw [h]; simp [hn]
theorem lenOf_more {b : List Int} {size : Nat} {n : Int} {u : Nat} (hs : 0 < size) (h : dec b = (n, u, 0)) (hn : 0 ≤ n) (hm : ((b.length : Int) - u) < n * size) (hu : u ≤ b.length) : lenOf b size = (0, 0, 3) := by
  unfold lenOf
  rw [h]
  obtain ⟨m, rfl⟩ := Int.eq_ofNat_of_zero_le hn
  have h2 : (b.length - u) / size < m := by
    rw [Nat.div_lt_iff_lt_mul hs]
    have : ((m * size : Nat) : Int) = (m : Int) * size := by rw [Int.natCast_mul]
    omega
  simp only [ne_eq, not_true, if_false]
  rw [if_neg (by omega), if_pos (by omega)]
theorem lenOf_good {b : List Int} {size : Nat} {n : Int} {u : Nat} (hs : 0 < size) (h : dec b = (n, u, 0)) (hn : 0 ≤ n) (hm : n * size ≤ ((b.length : Int) - u)) (hu : u ≤ b.length) : lenOf b size = (n, u, 0) := by
  unfold lenOf
  rw [h]
  obtain ⟨m, rfl⟩ := Int.eq_ofNat_of_zero_le hn
  have h2 : m ≤ (b.length - u) / size := by
    rw [Nat.le_div_iff_mul_le hs]
    have : ((m * size : Nat) : Int) = (m : Int) * size := by rw [Int.natCast_mul]
    omega
  simp only [ne_eq, not_true, if_false]
  rw [if_neg (by omega), if_neg (by omega)]

set_option maxHeartbeats 800000 in
theorem refCount_any (v : Value) (bs : List Int) (size : Nat) (w : World) (hv : ByteView w v bs) (hs : size = 1 ∨ size = 16) (hl : bs.length ≤ 140737488355328) :
    Calls Try.prog 41 #[v, .int .i64 size] w (RTrip w (lenOf bs size)) := by
  have HC := hid (refGetInt_any v bs w hv)
  have hB := hv.bytes
  obtain ⟨_, ao, cap, rfl, _, _, _⟩ := hv
  rcases dec_cases bs hB with ⟨n, u, h, h1, h2, h3, h4⟩ | h | h
  · rw [h] at HC
    by_cases hn : n < 0
    · have HR := hid (lenOf_neg (size := size) h hn)
      clear h hB
      go_enter Try.func41, Try.ntmps41
      go_wp2_with fail
      refine HC.out.mono ?_
      rintro e w' ⟨rfl, hb⟩
      have HB := hid hb
      clear hb
      go_wp2
      go_ret3
      rw [HR.out]
      exact ⟨rfl, HB.out⟩
    · have hs0 : 0 < size := by omega
      by_cases hnl : (bs.length : Int) < n
      · have HR := hid (lenOf_more hs0 h (by omega) (by rcases hs with rfl | rfl <;> omega) h2)
        clear h hB
        go_enter Try.func41, Try.ntmps41
        go_wp2_with fail
        refine HC.out.mono ?_
        rintro e w' ⟨rfl, hb⟩
        have HB := hid hb
        clear hb
        go_wp2
        go_ret3
        rw [HR.out]
        exact ⟨rfl, HB.out⟩
      · rcases hs with rfl | rfl
        · by_cases hm : ((bs.length : Int) - u) < n * ((1 : Nat) : Int)
          · have HR := hid (lenOf_more hs0 h (by omega) hm h2)
            clear h hB
            go_enter Try.func41, Try.ntmps41
            go_wp2_with fail
            refine HC.out.mono ?_
            rintro e w' ⟨rfl, hb⟩
            have HB := hid hb
            clear hb
            go_wp2
            go_ret3
            rw [HR.out]
            exact ⟨rfl, HB.out⟩
          · have HR := hid (lenOf_good hs0 h (by omega) (by omega) h2)
            clear h hB
            go_enter Try.func41, Try.ntmps41
            go_wp2_with fail
            refine HC.out.mono ?_
            rintro e w' ⟨rfl, hb⟩
            have HB := hid hb
            clear hb
            go_wp2
            go_ret3
            rw [HR.out]
            exact ⟨rfl, HB.out⟩
        · by_cases hm : ((bs.length : Int) - u) < n * ((16 : Nat) : Int)
          · have HR := hid (lenOf_more hs0 h (by omega) hm h2)
            clear h hB
            go_enter Try.func41, Try.ntmps41
            go_wp2_with fail
            refine HC.out.mono ?_
            rintro e w' ⟨rfl, hb⟩
            have HB := hid hb
            clear hb
            go_wp2
            go_ret3
            rw [HR.out]
            exact ⟨rfl, HB.out⟩
          · have HR := hid (lenOf_good hs0 h (by omega) (by omega) h2)
            clear h hB
            go_enter Try.func41, Try.ntmps41
            go_wp2_with fail
            refine HC.out.mono ?_
            rintro e w' ⟨rfl, hb⟩
            have HB := hid hb
            clear hb
            go_wp2
            go_ret3
            rw [HR.out]
            exact ⟨rfl, HB.out⟩
  all_goals
    have HR := hid (lenOf_bad (size := size) h (by omega))
    rw [h] at HC
    clear h hB
    go_enter Try.func41, Try.ntmps41
    go_wp2_with fail
    refine HC.out.mono ?_
    rintro e w' ⟨rfl, hb⟩
    have HB := hid hb
    clear hb
    go_wp2
    go_ret3
    rw [HR.out]
    exact ⟨rfl, HB.out⟩

end Go.Proofs.Ytpdphbliaibkhaa
