/-
  Contracts of gantry/gantryref04: minus.
-/
import Derived.Test.YtelfpefcjchjbaaGreatDoorIntL
namespace Go.Proofs.YtelfpefcjchjbaaGreatDoor
open Go.RowKit
open Go.Lib (hid)
open Dg
namespace Zn

theorem minus_core {X Y A P d x y c c' : Nat} (h6 : X + Y = A + P * c) (e : d + y + c = x + 1000000000 * c') : (X + P * d) + (Y + P * y) = (A + P * x) + P * 1000000000 * c' := by
  have e2 : P * (d + y + c) = P * (x + 1000000000 * c') := by rw [e]
  rw [Nat.mul_add, Nat.mul_add, Nat.mul_add] at e2
  rw [Nat.mul_assoc]
  generalize P * (1000000000 * c') = q1 at *
  generalize P * d = q2 at *
  generalize P * x = q3 at *
  generalize P * y = q4 at *
  generalize P * c = q5 at *
  omega
theorem minus_step {a b ds : List Nat} {k c : Nat} {v : Int} (h1 : ds.length = k) (h6 : val ds + val (b.take k) = val (a.take k) + 1000000000 ^ k * c)
    (hv : v = ((a.getD k 0 : Nat) : Int) - ((b.getD k 0 : Nat) : Int) - (c : Int)) (d c' : Nat) (hd : (d : Int) = v + 1000000000 * (c' : Int)) :
    val (ds ++ [d]) + val (b.take (k + 1)) = val (a.take (k + 1)) + 1000000000 ^ (k + 1) * c' := by
  rw [val_append, h1, val_take_getD a, val_take_getD b, Nat.pow_succ]
  have e : val [d] = d := by simp [val]
  rw [e]
  exact minus_core h6 (by omega)

set_option maxRecDepth 100000 in
set_option maxHeartbeats 2000000 in
theorem refMinus_any (va vb : Value) (a b : List Nat) (w : World) (ha : Nums w va a) (hb : Nums w vb b) (hda : Dig a) (hdb : Dig b) (hla : a.length ≤ 1099511627000) (hlb : b.length ≤ a.length) (hle : val b ≤ val a) :
    Calls Tryz.prog 55 #[va, vb] w (RetVal w (val a - val b)) := by
  obtain ⟨i0, hi, hz0, hz1, hz2⟩ := info_parts Tryz.int_info
  have HA := hid ha
  have HB := hid hb
  obtain ⟨ao, ac, rfl, a1, a2, a3⟩ := ha
  obtain ⟨bo, bc, rfl, b1, b2, -⟩ := hb
  have HA3 := hid a3
  unfold maxLen at a2 b2
  clear a3
  go_enter Tryz.func55, Tryz.ntmps55
  go_wp2
  go_loopw [5, 6, 7] (fun d c i wr => ∃ k c' : Nat, k ≤ a.length ∧ i = .int .i64 k ∧ c = .int .i64 c' ∧ ∃ ds, ds.length = k ∧ Dig ds ∧ OwnN wr w.heap.size d ds ∧ Below w.heap.size w wr ∧ c' ≤ 1 ∧ val ds + val (b.take k) = val (a.take k) + 1000000000 ^ k * c') (fun _ _ i _ => a.length - (intOf i).toNat)
  case atStart => exact ⟨0, 0, by omega, rfl, rfl, [], rfl, Dig.nil, OwnN.start _ _, Below.refl _ _, by omega, by simp [val]⟩
  case round =>
    obtain ⟨k, c, hk, rfl, rfl, ds, hlen, hdg, hown, hbel, hc1, hval⟩ := hrel
    have HO := hid hown
    have HBL := hid hbel
    have HB2 := hid (HB.out.keep hbel)
    by_cases hka : k < a.length
    · obtain ⟨p, po, rfl, hp⟩ := HA3.out (by omega)
      have hpk := keepCell hbel (hp k hka)
      obtain ⟨x, hx⟩ : ∃ x, x = a.getD k 0 := ⟨_, rfl⟩
      obtain ⟨y, hy⟩ : ∃ y, y = b.getD k 0 := ⟨_, rfl⟩
      have hx9 : x < 1000000000 := by rw [hx]; exact hda.getD k
      have hy9 : y < 1000000000 := by rw [hy]; exact hdb.getD k
      rw [← hx] at hpk
      have HDQ : Hid (∀ n, Calls Tryz.prog 81 #[.slice bo b.length bc, .int .i64 (k : Int)] (wr.drewN n) fun e w'' => e = .returned (.int .i64 (y : Int)) ∧ ∃ n, w'' = wr.drewN n) :=
        hid fun n => (digit_any _ b k (wr.drewN n) (HB.out.keep (below_drewN hbel n))).mono fun e w'' h => ⟨by rw [h.1, ← hy], n, h.2.symm⟩
      have HST := hid (minus_step hlen hval (v := (x : Int) - (y : Int) - (c : Int)) (by rw [hx, hy]))
      have HLN := hid hlen
      have HDG := hid hdg
      have hdl : ds.length ≤ 1099511627776 := by omega
      clear hx hy hown hbel hlen hval hp hdg
      obtain ⟨v, hv⟩ : ∃ v, v = (x : Int) - (y : Int) - (c : Int) := ⟨_, rfl⟩
      have hv1 : -1000000000 ≤ v ∧ v < 1000000000 := by omega
      rw [← hv] at HST
      by_cases hneg : (x : Int) - (y : Int) - (c : Int) < 0
      · obtain ⟨d, hd⟩ : ∃ d : Nat, (d : Int) = v + 1000000000 := ⟨(v + 1000000000).toNat, by omega⟩
        have hd9 : d < 1000000000 := by omega
        have HV := hid (HST.out d 1 (by omega))
        have hdx : (x : Int) - (y : Int) - (c : Int) + 1000000000 = (d : Int) := by omega
        clear hv hd
        go_wp2
        go_quiet ((go_at_call 81; exact HDQ.out _))
        have HB3 := hid (below_drewN HBL.out nq)
        have HO3 := hid (HO.out.heap (w' := wr.drewN nq) rfl)
        generalize wr.drewN nq = w2 at *
        go_wp2_with (at_builtin; refine wpList_append_int rfl (.tmp 29) (.tmp 31) rfl i0 hi hz0 hz1 hz2 Tryz.under_ints w _ ds rfl (HO3.out.alloc _) w2.heap.size d rfl (by exact cell_of_row _ _ 0 _ _ _ (heap_alloc_new w2 _)) hdl (HB3.out.alloc HB3.out.size _) ?_)
        intro v' w' hown' hbel'
        have HO2 := hid hown'
        have HB4 := hid hbel'
        clear hown' hbel'
        go_wp2
        go_roundw
        case rel => exact ⟨k + 1, 1, by omega, by go_num, rfl, ds ++ [d], by simp [HLN.out], HDG.out.append (Dig.cons hd9 Dig.nil), HO2.out, HB4.out, by omega, HV.out⟩
        case measure => simp [intOf]; omega
      · obtain ⟨d, hd⟩ : ∃ d : Nat, (d : Int) = v := ⟨v.toNat, by omega⟩
        have hd9 : d < 1000000000 := by omega
        have HV := hid (HST.out d 0 (by omega))
        have hdx : (x : Int) - (y : Int) - (c : Int) = (d : Int) := by omega
        rw [hdx] at hneg
        clear hv hd
        go_wp2
        go_quiet ((go_at_call 81; exact HDQ.out _))
        have HB3 := hid (below_drewN HBL.out nq)
        have HO3 := hid (HO.out.heap (w' := wr.drewN nq) rfl)
        generalize wr.drewN nq = w2 at *
        go_wp2_with (at_builtin; refine wpList_append_int rfl (.tmp 29) (.tmp 31) rfl i0 hi hz0 hz1 hz2 Tryz.under_ints w _ ds rfl (HO3.out.alloc _) w2.heap.size d rfl (by exact cell_of_row _ _ 0 _ _ _ (heap_alloc_new w2 _)) hdl (HB3.out.alloc HB3.out.size _) ?_)
        intro v' w' hown' hbel'
        have HO2 := hid hown'
        have HB4 := hid hbel'
        clear hown' hbel'
        go_wp2
        go_roundw
        case rel => exact ⟨k + 1, 0, by omega, by go_num, rfl, ds ++ [d], by simp [HLN.out], HDG.out.append (Dig.cons hd9 Dig.nil), HO2.out, HB4.out, by omega, HV.out⟩
        case measure => simp [intOf]; omega
    · obtain rfl : k = a.length := by omega
      rw [List.take_of_length_le hlb, List.take_length] at hval
      have hc0 : c = 0 := by
        rcases Nat.eq_zero_or_pos c with h | h
        · exact h
        · exfalso
          obtain rfl : c = 1 := by omega
          have := val_lt hdg
          rw [hlen] at this
          omega
      have hv2 : val ds = val a - val b := by rw [hc0] at hval; omega
      have HV2 := hid hv2
      clear hval hlen hown hbel hc0 hv2
      go_wp2
      go_ret
      exact ⟨_, ds, rfl, HO.out.nums, hdg, HV2.out, HBL.out⟩

end Zn
end Go.Proofs.YtelfpefcjchjbaaGreatDoor
