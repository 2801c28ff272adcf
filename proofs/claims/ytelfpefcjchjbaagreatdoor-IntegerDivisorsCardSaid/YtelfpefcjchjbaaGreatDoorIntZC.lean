/-
  What layer 4's examples come to: contracts at the examples' numbers.
-/
import Derived.Test.YtelfpefcjchjbaaGreatDoorIntZB
namespace Go.Proofs.YtelfpefcjchjbaaGreatDoor
open Go.RowKit
open Go.Lib (hid)
open Dg
namespace Zn

set_option maxRecDepth 100000 in
theorem lawSame_any (vx vy : Value) (x y : Int) (w : World) (hx : IntAt w vx x) (hy : IntAt w vy y) :
    Calls Tryz.prog 20 #[vx, vy] w (RetB w (decide (x = y))) := by
  obtain ⟨b, so, n, sc, rfl⟩ := hx.open
  obtain ⟨b2, so2, n2, sc2, rfl⟩ := hy.open
  have HB := hid (show Below w.heap.size w ((w.alloc (Obj.cells #[Value.bool b, Value.slice so n sc] 24)).alloc (Obj.cells #[Value.bool b2, Value.slice so2 n2 sc2] 24)) from ((Below.refl _ _).alloc (Nat.le_refl _) _).alloc (by simp) _)
  have HS := hid (Same_any _ _ x y _ (hx.keep HB.out) (hy.keep HB.out))
  clear hx hy
  go_enter Tryz.func20, Tryz.ntmps20
  go_wp2_with fail
  refine HS.out.mono ?_
  rintro e w1 ⟨rfl, hb1⟩
  go_wp2_with fail
  go_ret
  exact ⟨rfl, Pu.further HB.out hb1⟩

theorem dig_sq : dig 18446744073709551616 = [709551616, 446744073, 18] := by decide +kernel
theorem txt_sq : txtN [709551616, 446744073, 18] 2 = [49, 56, 52, 52, 54, 55, 52, 52, 48, 55, 51, 55, 48, 57, 53, 53, 49, 54, 49, 54] := by
  have e1 : Lib.itoa 18 = [49, 56] := by
    rw [Lib.itoa, if_neg (by decide), Lib.decDigits_eq, show Lib.nDigits (18 : Int).toNat = 2 from Lib.nDigits_unique 1 18 (by decide) (by decide)]
    decide +kernel
  have e2 : Lib.itoa 1446744073 = [49, 52, 52, 54, 55, 52, 52, 48, 55, 51] := by
    rw [Lib.itoa, if_neg (by decide), Lib.decDigits_eq, show Lib.nDigits (1446744073 : Int).toNat = 10 from Lib.nDigits_unique 9 1446744073 (by decide) (by decide)]
    decide +kernel
  have e3 : Lib.itoa 1709551616 = [49, 55, 48, 57, 53, 53, 49, 54, 49, 54] := by
    rw [Lib.itoa, if_neg (by decide), Lib.decDigits_eq, show Lib.nDigits (1709551616 : Int).toNat = 10 from Lib.nDigits_unique 9 1709551616 (by decide) (by decide)]
    decide +kernel
  show (Lib.itoa 18 ++ (Lib.itoa 1446744073).drop 1) ++ (Lib.itoa 1709551616).drop 1 = _
  rw [e1, e2, e3]
  rfl

theorem Text_sq (v : Value) (w : World) (hv : IntAt w v 18446744073709551616) (ht : Tab w) :
    Calls Tryz.prog 40 #[v] w fun e w' => e = .returned (.string ⟨#[49, 56, 52, 52, 54, 55, 52, 52, 48, 55, 51, 55, 48, 57, 53, 53, 49, 54, 49, 54]⟩) ∧ Below w.heap.size w w' := by
  have e0 : dig (18446744073709551616 : Int).natAbs = [709551616, 446744073, 18] := dig_sq
  have h := Text_pos v 18446744073709551616 w hv (by decide) (by rw [e0]; decide) ht
  rw [e0] at h
  refine h.mono ?_
  rintro e w' ⟨rfl, hb⟩
  refine ⟨?_, hb⟩
  rw [show [709551616, 446744073, 18].length - 1 = 2 from rfl, txt_sq]

theorem Div_m7_2 (vx vy : Value) (w : World) (hx : IntAt w vx (-7)) (hy : IntAt w vy 2) : Calls Tryz.prog 34 #[vx, vy] w (RetPair w (-4) 1) :=
  Div_of vx vy (-7) 2 w hx hy (by decide) (by decide) (by decide) fun w va vb ha hb => divide_two va vb 7 2 w ha hb (by decide) (by decide) (by decide)
theorem Div_7_m2 (vx vy : Value) (w : World) (hx : IntAt w vx 7) (hy : IntAt w vy (-2)) : Calls Tryz.prog 34 #[vx, vy] w (RetPair w (-3) 1) :=
  Div_of vx vy 7 (-2) w hx hy (by decide) (by decide) (by decide) fun w va vb ha hb => divide_two va vb 7 2 w ha hb (by decide) (by decide) (by decide)
theorem Root_10 (vx : Value) (w : World) (hx : IntAt w vx 10) : Calls Tryz.prog 38 #[vx] w (RetIB w 3 false) := by
  refine (Root_of vx 10 w hx (by decide) (by decide) fun w va h => squareRoot_two va 10 w h (by decide)).mono ?_
  rintro e w' ⟨r, h1, h2, h3⟩
  obtain rfl : r = 3 := sq_unique h1 h2 (by decide) (by decide)
  exact h3
theorem Small_sq (vx : Value) (w : World) (hx : IntAt w vx 18446744073709551616) : Calls Tryz.prog 17 #[vx] w (fun e w' => e = .returned (.tuple #[.int .i64 0, .bool false]) ∧ Below w.heap.size w w') := by
  refine (Small_big vx 18446744073709551616 w hx (by decide)).mono ?_
  rintro e w' ⟨rfl, h⟩
  exact ⟨rfl, h⟩

/-- A new cell, and what is stored there. -/
theorem cell_one {W : World} {v u : Value} {z : Int} (h : IntAt W v z) (hu : ∃ x y k n, u.cells = #[.bool x, .slice y k n]) :
    IntCell ((W.alloc (.cells u.cells 24)).setRow W.heap.size v.cells) W.heap.size z ∧ Below W.heap.size W ((W.alloc (.cells u.cells 24)).setRow W.heap.size v.cells) := by
  obtain ⟨x, y, k, n, hu⟩ := hu
  rw [hu]
  have hr := ResAt.new W x y k n
  have hb : Below W.heap.size W (W.alloc (.cells #[.bool x, .slice y k n] 24)) := (Below.refl _ _).alloc (Nat.le_refl _) _
  refine ⟨⟨v, (h.keep hb).apart hr _, ?_⟩, below_row hb (Nat.le_refl _) _⟩
  obtain ⟨_, _, _, _, hh⟩ := hr
  exact setRow_heap _ _ _ _ _ _ hh

end Zn
end Go.Proofs.YtelfpefcjchjbaaGreatDoor
