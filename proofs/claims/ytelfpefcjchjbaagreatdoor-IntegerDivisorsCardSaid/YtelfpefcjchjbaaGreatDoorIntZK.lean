/-
  Contracts of gantry/integer: place, top, guess.
-/
import Derived.Test.YtelfpefcjchjbaaGreatDoorIntZJ
import Derived.Test.YtelfpefcjchjbaaGreatDoorIntG
import Derived.Shelf.Spec.BitsCarry
namespace Go.Proofs.YtelfpefcjchjbaaGreatDoor
open Go.RowKit
open Go.Lib (hid)
open Dg
namespace Zn

theorem getD_none {ds : List Nat} {k : Nat} (h : ds.length ≤ k) : ds.getD k 0 = 0 := by
  rw [List.getD_eq_getElem?_getD, List.getElem?_eq_none h]; rfl

set_option maxRecDepth 100000 in
set_option maxHeartbeats 1000000 in
theorem place_any (v : Value) (ds : List Nat) (k : Nat) (w : World) (hv : Nums w v ds) (hd : Dig ds) (hk : k ≤ 4611686018427387904) :
    Calls Tryz.prog 120 #[v, .int .i64 (k : Int)] w fun e w' => e = .returned (.int .u64 ((ds.getD k 0 : Nat) : Int)) ∧ w = w' := by
  obtain ⟨ao, ac, rfl, a1, a2, a3⟩ := hv
  unfold maxLen at a2
  by_cases h : k < ds.length
  · obtain ⟨b, off, rfl, hc⟩ := a3 (by omega)
    have hck := hc k h
    have hd9 := hd.getD k
    generalize ds.getD k 0 = d at *
    clear hc a3
    go_enter Tryz.func120, Tryz.ntmps120
    go_wp2
    go_ret
    exact ⟨rfl, rfl⟩
  · rw [getD_none (by omega)]
    clear a3
    go_enter Tryz.func120, Tryz.ntmps120
    go_wp2
    go_ret
    exact ⟨rfl, rfl⟩

/-- The number of three digits up to a place. -/
def top3 (ds : List Nat) (k : Nat) : Nat := (ds.getD k 0 * 1000000000 + ds.getD (k - 1) 0) * 1000000000 + ds.getD (k - 2) 0
theorem add64 (x y : Int) (hx : 0 ≤ x) (hy : 0 ≤ y) (w : World) : (callFunc 130 #[.int .u64 x, .int .u64 y, .int .u64 0]).run Tryz.prog w =
      .ok (.value (.tuple #[.int .u64 ((x + y) % 18446744073709551616), .int .u64 ((x + y) / 18446744073709551616)])) w := by
  rw [run_callFunc_extern Tryz.func130 (by kernel_rfl) (by kernel_rfl) (by kernel_rfl) (e := add64Entry) (by kernel_rfl), run_add64 x y 0 hx hy (by decide) (by decide)]
  simp only [Result.andThen, Int.add_zero]

def RetTop (n : Nat) (w : World) (e : Ending) (w' : World) : Prop := e = .returned (.tuple #[.int .u64 ((n / 18446744073709551616 : Nat) : Int), .int .u64 ((n % 18446744073709551616 : Nat) : Int)]) ∧ w = w'

set_option maxRecDepth 100000 in
set_option maxHeartbeats 1000000 in
theorem top_any (v : Value) (ds : List Nat) (k : Nat) (w : World) (hv : Nums w v ds) (hd : Dig ds) (hk2 : 2 ≤ k) (hk : k ≤ 4611686018427387904) :
    Calls Tryz.prog 118 #[v, .int .i64 (k : Int)] w (RetTop (top3 ds k) w) := by
  have H0 := hid (place_any v ds k w hv hd hk)
  have H1 := hid (place_any v ds (k - 1) w hv hd (by omega))
  have H2 := hid (place_any v ds (k - 2) w hv hd (by omega))
  have d0 := hd.getD k
  have d1 := hd.getD (k - 1)
  have d2 := hd.getD (k - 2)
  have hk2i : (2 : Int) ≤ (k : Int) := by omega
  have hki : (k : Int) ≤ 4611686018427387904 := by omega
  unfold top3
  generalize ds.getD k 0 = x0 at *
  generalize ds.getD (k - 1) 0 = x1 at *
  generalize ds.getD (k - 2) 0 = x2 at *
  obtain ⟨u, hu⟩ : ∃ u, u = x0 * 1000000000 + x1 := ⟨_, rfl⟩
  have hui : (x0 : Int) * 1000000000 + (x1 : Int) = (u : Int) := by omega
  have hub : u < 1000000000000000000 := by omega
  obtain ⟨m, hm⟩ : ∃ m, m = u * 1000000000 := ⟨_, rfl⟩
  have HM0 := Tryz.bits_Mul64 u 1000000000 (by omega) (by decide) w
  rw [← hm] at HM0
  obtain ⟨H, hH⟩ : ∃ H, H = m / 18446744073709551616 := ⟨_, rfl⟩
  obtain ⟨L, hL⟩ : ∃ L, L = m % 18446744073709551616 := ⟨_, rfl⟩
  rw [← hH, ← hL] at HM0
  have HM := hid HM0
  have hHb : (H : Int) < 1000000000 := by omega
  have hL1 : (L : Int) < 18446744073709551616 := by omega
  have hL0 : (0 : Int) ≤ (L : Int) := by omega
  have hx20 : (0 : Int) ≤ (x2 : Int) := by omega
  obtain ⟨S, hS⟩ : ∃ S, S = L + x2 := ⟨_, rfl⟩
  have hSi : (L : Int) + (x2 : Int) = (S : Int) := by omega
  obtain ⟨C, hC⟩ : ∃ C, C = S / 18446744073709551616 := ⟨_, rfl⟩
  obtain ⟨D, hD⟩ : ∃ D, D = S % 18446744073709551616 := ⟨_, rfl⟩
  have hCi : (S : Int) / 18446744073709551616 = (C : Int) := by omega
  have hDi : (S : Int) % 18446744073709551616 = (D : Int) := by omega
  have hCb : (C : Int) ≤ 1 := by omega
  have hDb : (D : Int) < 18446744073709551616 := by omega
  have F1 : H + C = (u * 1000000000 + x2) / 18446744073709551616 := by omega
  have F2 : D = (u * 1000000000 + x2) % 18446744073709551616 := by omega
  rw [hu] at F1 F2
  have HF1 := hid F1
  have HF2 := hid F2
  clear hm hH hL HM0 hS hC hD F1 F2
  rw [show ((k - 1 : Nat) : Int) = (k : Int) - 1 by omega] at H1
  rw [show ((k - 2 : Nat) : Int) = (k : Int) - 2 by omega] at H2
  clear hu hv
  go_enter Tryz.func118, Tryz.ntmps118
  go_wp2_with fail
  refine H0.out.mono ?_
  rintro e w' ⟨rfl, rfl⟩
  go_wp2_with fail
  refine H1.out.mono ?_
  rintro e w' ⟨rfl, rfl⟩
  go_wp2_with fail
  refine HM.out.mono ?_
  rintro e w' ⟨rfl, rfl⟩
  go_wp2_with fail
  refine H2.out.mono ?_
  rintro e w' ⟨rfl, rfl⟩
  go_wp2_with (simp only [add64 (L : Int) (x2 : Int) hL0 hx20])
  go_ret2
  refine ⟨?_, rfl⟩
  rw [← HF1.out, ← HF2.out]
  rfl

theorem top_split (ds : List Nat) (k : Nat) (hk : 2 ≤ k) (hl : ds.length ≤ k + 1) : val ds = top3 ds k * 1000000000 ^ (k - 2) + val (ds.take (k - 2)) := by
  obtain ⟨j, rfl⟩ : ∃ j, k = j + 2 := ⟨k - 2, by omega⟩
  have e0 := Dv.take_getD' ds (j + 2)
  have e1 := Dv.take_getD' ds (j + 1)
  have e2 := Dv.take_getD' ds j
  rw [List.take_of_length_le hl] at e0
  unfold top3
  rw [show j + 2 - 1 = j + 1 from rfl, show j + 2 - 2 = j from rfl, e0, e1, e2, Nat.pow_add 1000000000 j 2, Nat.pow_succ 1000000000 j]
  generalize ds.getD (j + 2) 0 = x0
  generalize ds.getD (j + 1) 0 = x1
  generalize ds.getD j 0 = x2
  generalize val (ds.take j) = V
  generalize 1000000000 ^ j = P
  rw [show (1000000000 : Nat) ^ 2 = 1000000000 * 1000000000 by decide]
  grind
theorem two_split (ds : List Nat) (k : Nat) (hk : 2 ≤ k) (hl : ds.length ≤ k) : val ds = (ds.getD (k - 1) 0 * 1000000000 + ds.getD (k - 2) 0) * 1000000000 ^ (k - 2) + val (ds.take (k - 2)) := by
  obtain ⟨j, rfl⟩ : ∃ j, k = j + 2 := ⟨k - 2, by omega⟩
  have e1 := Dv.take_getD' ds (j + 1)
  have e2 := Dv.take_getD' ds j
  rw [List.take_of_length_le hl] at e1
  rw [show j + 2 - 1 = j + 1 from rfl, show j + 2 - 2 = j from rfl, e1, e2, Nat.pow_succ 1000000000 j]
  generalize ds.getD (j + 1) 0 = x1
  generalize ds.getD j 0 = x2
  generalize val (ds.take j) = V
  generalize 1000000000 ^ j = P
  grind
theorem take_lt {ds : List Nat} (hd : Dig ds) (j : Nat) : val (ds.take j) < 1000000000 ^ j := by
  refine Nat.lt_of_lt_of_le (val_lt (hd.take j)) (Nat.pow_le_pow_right (by decide) ?_)
  rw [List.length_take]
  exact Nat.min_le_left _ _

def RetGuess (p y : Nat) (w : World) (e : Ending) (w' : World) : Prop := ∃ q : Nat, e = .returned (.int .i64 (q : Int)) ∧ p / y ≤ q ∧ q ≤ p / y + 1 ∧ q ≤ 1000000000 ∧ Below w.heap.size w w'

set_option maxRecDepth 100000 in
set_option maxHeartbeats 1000000 in
theorem guess_any (vp vb : Value) (p b : List Nat) (w : World) (hp : Nums w vp p) (hb : Nums w vb b) (hdp : Dig p) (hdb : Dig b) (hn : 2 ≤ b.length) (hpl : p.length = b.length + 1) (htop : b.getD (b.length - 1) 0 ≠ 0) (hlt : val p < 1000000000 * val b) (hlb : b.length ≤ 1099511627776) :
    Calls Tryz.prog 103 #[vp, vb] w (RetGuess (val p) (val b) w) := by
  obtain ⟨bo, bc, rfl, b1, b2, b3⟩ := hb
  have hb : Nums w (.slice bo b.length bc) b := ⟨bo, bc, rfl, b1, b2, b3⟩
  unfold maxLen at b2
  have HT := hid (top_any vp p b.length w hp hdp hn (by omega))
  have H1 := hid (place_any _ b (b.length - 1) w hb hdb (by omega))
  have H2 := hid (place_any _ b (b.length - 2) w hb hdb (by omega))
  have d1 := hdb.getD (b.length - 1)
  have d2 := hdb.getD (b.length - 2)
  have t0 := hdp.getD b.length
  have t1 := hdp.getD (b.length - 1)
  have t2 := hdp.getD (b.length - 2)
  have eN := top_split p b.length hn (by omega)
  have eY := two_split b b.length hn (Nat.le_refl _)
  have lp := take_lt hdp (b.length - 2)
  have lb := take_lt hdb (b.length - 2)
  have hNb : top3 p b.length < 1000000000000000000000000000 := by unfold top3; omega
  obtain ⟨Y, hY⟩ : ∃ Y, Y = b.getD (b.length - 1) 0 * 1000000000 + b.getD (b.length - 2) 0 := ⟨_, rfl⟩
  have hY9 : 1000000000 ≤ Y := by omega
  have hYb : Y < 1000000000000000000 := by omega
  rw [← hY] at eY
  generalize top3 p b.length = N at *
  have G := Dv.guess (B := 1000000000) (by decide) eN eY lp lb hlt hY9
  have HD := hid (Div64_any (N / 18446744073709551616) (N % 18446744073709551616) Y w (by omega) (by omega) (Nat.mod_lt _ (by decide)))
  rw [show N / 18446744073709551616 * 18446744073709551616 + N % 18446744073709551616 = N by omega] at HD
  have hki : (2 : Int) ≤ (b.length : Int) := by omega
  have hkb : (b.length : Int) ≤ 1099511627776 := by omega
  rw [show ((b.length - 1 : Nat) : Int) = (b.length : Int) - 1 by omega] at H1
  rw [show ((b.length - 2 : Nat) : Int) = (b.length : Int) - 2 by omega] at H2
  have hYi : ((b.getD (b.length - 1) 0 : Nat) : Int) * 1000000000 + ((b.getD (b.length - 2) 0 : Nat) : Int) = (Y : Int) := by omega
  obtain ⟨q, hq⟩ : ∃ q, q = N / Y := ⟨_, rfl⟩
  rw [← hq] at G
  unfold RetDiv at HD
  unfold RetTop at HT
  rw [← hq] at HD
  have hqb : (q : Int) ≤ 1000000000 := by omega
  have HG := hid G
  clear G eN eY lp lb hlt t0 t1 t2 hpl hp hb b3 htop hY hq hNb
  generalize b.getD (b.length - 1) 0 = y1 at *
  generalize b.getD (b.length - 2) 0 = y2 at *
  generalize N / 18446744073709551616 = H at *
  generalize N % 18446744073709551616 = L at *
  generalize N % Y = R at *
  go_enter Tryz.func103, Tryz.ntmps103
  go_wp2_with fail
  refine HT.out.mono ?_
  rintro e w' ⟨rfl, rfl⟩
  go_wp2_with fail
  refine H1.out.mono ?_
  rintro e w' ⟨rfl, rfl⟩
  go_wp2_with fail
  refine H2.out.mono ?_
  rintro e w' ⟨rfl, rfl⟩
  go_wp2_with fail
  refine HD.out.mono ?_
  rintro e w' ⟨rfl, hbel⟩
  have HBL := hid hbel
  clear hbel
  go_wp2
  go_ret
  exact ⟨q, rfl, HG.out.1, HG.out.2.1, HG.out.2.2, HBL.out⟩

end Zn
end Go.Proofs.YtelfpefcjchjbaaGreatDoor
