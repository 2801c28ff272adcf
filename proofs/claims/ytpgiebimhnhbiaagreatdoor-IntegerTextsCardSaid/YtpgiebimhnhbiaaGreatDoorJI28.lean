/-
  Contracts of gantry/integer: Encode; of the encodings, as rows.
  Contracts of gantry/integer: Neg; of gantry/gantryref04: Neg, Sub, Compare, Sign, Encode.
  Contracts of gantry/gantryref04: minus and normal, and where their digits lie; tiny, times.
  Contract of gantry/gantryref04: divided.
  Contract of gantry/gantryref04: Div.
  Contract of gantry/gantryref04: Gcd.
  Contracts of gantry/gantryref04: Valid of any digits, Small.
-/
import Derived.Test.YtpgiebimhnhbiaaGreatDoorJI27
import Derived.Test.YtpgiebimhnhbiaaGreatDoorJI16
import Derived.ArgAppend
import Derived.Test.YtpgiebimhnhbiaaGreatDoorJI1
import Derived.RegionTactic
import Derived.BigRegion
import Derived.Test.YtpgiebimhnhbiaaGreatDoorJI25
set_option linter.unusedVariables false
set_option linter.unusedSimpArgs false
set_option linter.unusedSectionVars false
namespace Go.Proofs.YtpgiebimhnhbiaaGreatDoor
open Go.RowKit
open Go.Lib (hid)
open Dg
namespace Zn
theorem Row.view {w : World} {v : Value} {zs : List Int} (h : Row .i64 w v zs) : View w v 1 zs.length (zs.map (Value.int .i64)) := by
 obtain ⟨ao, cap, rfl, h1, h2, h3⟩ := h
 refine ⟨by simp, ao, cap, rfl, h1, h2, fun hl => ?_⟩
 obtain ⟨b, off, h4, h5⟩ := h3 hl
 refine ⟨b, off, h4, fun i x hi => ?_⟩
 rw [List.getElem?_map] at hi
 obtain ⟨z, hz, rfl⟩ := Option.map_eq_some_iff.1 hi
 rw [h5 i (List.getElem?_eq_some_iff.1 hz).1, List.getD_eq_getElem?_getD, hz]
 rfl
theorem Row.of_view {k : IntKind} {w : World} {v : Value} {zs : List Int} (h : View w v 1 zs.length (zs.map (Value.int k))) : Row k w v zs := by
 obtain ⟨_, ao, cap, rfl, h1, h2, h3⟩ := h
 refine ⟨ao, cap, rfl, h1, h2, fun hl => ?_⟩
 obtain ⟨b, off, h4, h5⟩ := h3 hl
 refine ⟨b, off, h4, fun i hi => h5 i _ ?_⟩
 rw [List.getElem?_map, List.getElem?_eq_getElem hi, List.getD_eq_getElem?_getD, List.getElem?_eq_getElem hi]
 rfl
theorem Row.of_owns {k : IntKind} {w : World} {base : Nat} {E : TypeId} {v : Value} {zs : List Int} (h : w.ownsRow base E 1 v zs.length (zs.map (Value.int k))) : Row k w v zs := Row.of_view (View.of_owns h)

def RetRow (k : IntKind) (w : World) (zs : List Int) (e : Ending) (w' : World) : Prop := ∃ v, e = .returned v ∧ Row k w' v zs ∧ Below w.heap.size w w'
theorem fresh_row {w w' : World} {bs : List Int} {e : Ending} (h : Fresh w bs e w') : RetRow .u8 w bs e w' := by
 obtain ⟨v, rfl, h1, h2⟩ := h
 exact ⟨v, rfl, Row.of_owns h1, h2⟩
theorem wireInts_any (v : Value) (zs : List Int) (w : World) (hv : Row .i64 w v zs) (hz : ∀ z ∈ zs, -9223372036854775808 ≤ z ∧ z ≤ 9223372036854775807) (hl : zs.length ≤ 1099511627776) :
  Calls Tryz.prog 87 #[v] w (RetRow .u8 w (W.encInts zs)) := (Ints_any v zs w hv.view hz hl).mono fun _ _ h => fresh_row h
theorem refInts_row (v : Value) (zs : List Int) (w : World) (hv : Row .i64 w v zs) (hz : ∀ z ∈ zs, -9223372036854775808 ≤ z ∧ z ≤ 9223372036854775807) (hl : zs.length ≤ 1099511627776) :
  Calls Tryz.prog 22 #[v] w (RetRow .u8 w (W.encInts zs)) := (refInts_any v zs w hv.view hz hl).mono fun _ _ h => fresh_row h
theorem sameBytes_yes (va vb : Value) (zs : List Int) (w : World) (ha : Row .u8 w va zs) (hb : Row .u8 w vb zs) :
  Calls Tryz.prog 17 #[va, vb] w (RetB w true) := by
 have e : ∀ {v}, Row .u8 w v zs → View w v 1 zs.length (zs.map (Value.int .u8)) := by
  intro v h
  obtain ⟨ao, cap, rfl, h1, h2, h3⟩ := h
  refine ⟨by simp, ao, cap, rfl, h1, h2, fun hl => ?_⟩
  obtain ⟨b, off, h4, h5⟩ := h3 hl
  refine ⟨b, off, h4, fun i x hi => ?_⟩
  rw [List.getElem?_map] at hi
  obtain ⟨z, hz, rfl⟩ := Option.map_eq_some_iff.1 hi
  rw [h5 i (List.getElem?_eq_some_iff.1 hz).1, List.getD_eq_getElem?_getD, hz]
  rfl
 refine (Same_yes va vb zs.length zs w rfl (e ha) (e hb)).mono ?_
 rintro e w' ⟨rfl, n, rfl⟩
 exact ⟨rfl, below_drewN (Below.refl _ _) n⟩

theorem run_append_none (w : World) (ty : TypeId) (b : Addr) (n cap c : Nat) (ao : Option Addr) (hn : n ≤ cap) :
  (Builtin.append_ #[22, 22] ty #[.slice (some b) n cap, .slice ao 0 c]).run Tryz.prog w = .ok (.slice (some b) n cap) w := by
 obtain ⟨i0, hi, hz0, hz1, hz2⟩ := info_parts Tryz.int_info
 cases ao with
 | none => simp [Builtin.append_, run_underlying Tryz.under_ints, sizeOf, typeInfo, hi, Builtin.lenOf, Builtin.firstCells, hn, storeCells]
 | some a => simp [Builtin.append_, run_underlying Tryz.under_ints, sizeOf, typeInfo, hi, Builtin.lenOf, Builtin.firstCells, hn, storeCells, loadCells, loadCellsFrom]

theorem wp_append_digits {o : Oper} {a : Act} {w : World} {K : Act → World → Prop} {Q : Exit → Act → World → Prop} (s x : Operand)
  (ho : o.op = .call { callee := .builtin .append, args := #[s, x], argTypes := #[22, 22] })
  (g : Nat) (z : Int) (hs : a.eval s = .slice (some ⟨g, 0, none⟩) 1 1) (hc : w.cell? ⟨g, 0, none⟩ = some (.int .i64 z)) (v : Value) (ds : List Nat) (hx : a.eval x = v) (hv : Nums w v ds) (hl : ds.length ≤ 1099511627776)
  (h : ∀ v' w', Row .i64 w' v' (z :: ds.map Int.ofNat) → Below w.heap.size w w' → K (a.put o.dst v') w') : o.wp Tryz.prog a w K Q := by
 obtain ⟨i0, hi, hz0, hz1, hz2⟩ := info_parts Tryz.int_info
 obtain ⟨ao, cap, rfl, h1, h2, h3⟩ := hv
 rcases Nat.eq_zero_or_pos ds.length with h0 | h0
 ·obtain rfl := List.eq_nil_of_length_eq_zero h0
  have hrun := run_append_none w o.type ⟨g, 0, none⟩ 1 1 cap ao (Nat.le_refl _)
  unfold Oper.wp
  simp [execOp, ho, resolve, invoke, builtin, hs, hx, hrun, Result.andThen]
  refine h _ _ ⟨_, 1, rfl, by simp, by decide, fun _ => ⟨g, 0, rfl, fun i hi => ?_⟩⟩ (Below.refl _ _)
  obtain rfl : i = 0 := by simpa using hi
  exact hc
 ·obtain ⟨b, off, rfl, hcell⟩ := h3 h0
  obtain ⟨v', w', hrun, r1, r2⟩ := run_append_arg_grows (P := Tryz.prog) w 22 o.type 3 i0 (.int .i64 0) 1 8 Tryz.under_ints hi hz0 hz1 hz2 rfl (by decide) ⟨g, 0, none⟩ 1 1 [.int .i64 z] rfl
   (by intro j u hj; cases j with | zero => cases hj; rw [Addr.add_lit]; exact hc | succ j => cases hj)
   ⟨b, off, none⟩ ds.length cap (ds.map fun d : Nat => Value.int .i64 (d : Int)) (by simp)
   (by intro j u hj
       rw [List.getElem?_map] at hj
       obtain ⟨d, hd, rfl⟩ := Option.map_eq_some_iff.1 hj
       rw [Addr.add_lit, hcell j (List.getElem?_eq_some_iff.1 hd).1, List.getD_eq_getElem?_getD, hd]
       rfl) (by omega) (by unfold maxLen; omega) (by omega)
  unfold Oper.wp
  simp [execOp, ho, resolve, invoke, builtin, hs, hx, hrun, Result.andThen]
  refine h v' w' (Row.of_owns (base := w.heap.size) (E := 3) ?_) ((Below.refl _ _).grown r2 (Nat.le_refl _) (fun k hk => by cases hk))
  have e : ((z :: ds.map Int.ofNat).map (Value.int .i64)) = [Value.int .i64 z] ++ (ds.map fun d : Nat => Value.int .i64 (d : Int)) := by simp
  rw [e, show (z :: ds.map Int.ofNat).length = 1 + ds.length by simp; omega]
  exact r1

def encI (x : Int) : List Int := W.encInts (cmpI x 0 :: (dig x.natAbs).map Int.ofNat)
theorem cmp_bd (x y : Int) : -1 ≤ cmpI x y ∧ cmpI x y ≤ 1 := by
 unfold cmpI
 split
 ·omega
 ·split <;> omega

theorem encI_bd (x : Int) : ∀ z ∈ (cmpI x 0 :: (dig x.natAbs).map Int.ofNat), -9223372036854775808 ≤ z ∧ z ≤ 9223372036854775807 := by
 intro z hz
 rcases List.mem_cons.1 hz with rfl | hz
 ·have := cmp_bd x 0; omega
 ·obtain ⟨d, hd, rfl⟩ := List.mem_map.1 hz
  have := dig_Dig x.natAbs d hd
  show -9223372036854775808 ≤ ((d : Nat) : Int) ∧ ((d : Nat) : Int) ≤ 9223372036854775807
  omega

set_option maxRecDepth 100000 in
set_option maxHeartbeats 4000000 in
theorem Encode_any (vx : Value) (x : Int) (w : World) (hx : IntAt w vx x) (hl : len x ≤ 1099511627000) :
  Calls Tryz.prog 12 #[vx] w (RetRow .u8 w (encI x)) := by
 have HXI := hid hx
 obtain ⟨s, rfl, hs⟩ := hx
 have HS := hid hs
 have HSG := hid (fun w1 h => Sign_any (.agg #[.bool (decide (x < 0)), s]) x w1 h)
 generalize decide (x < 0) = bx at *
 obtain ⟨W, hW⟩ : ∃ W, W = w.alloc (Obj.cells #[Value.bool bx, s] 25) := ⟨_, rfl⟩
 have HBW := hid (show Below w.heap.size w W by rw [hW]; exact (Below.refl _ _).alloc (Nat.le_refl _) _)
 have HC := hid (show IntCell W w.heap.size x by rw [hW]; have h := HXI.out; obtain ⟨b, so, n, sc, e⟩ := h.open; cases e; exact IntCell.new h)
 have HX := hid (show W.heap[w.heap.size]? = some (.cells #[Value.bool bx, s] 25 (0, 0)) by rw [hW]; exact heap_alloc_new w _)
 have HWW := hid hW
 clear hW hs
 go_enter Tryz.func12, Tryz.ntmps12
 go_upto_region 1 with fail
 rw [← HWW.out]
 rename_i hret
 refine Pu.wp_region_pure 8 (Slots [(3, .int (x)), (4, .eq (.int .i64 (cmpI x 0))), (5, .one .i64 (cmpI x 0)), (6, .eq (.pointer (some ⟨w.heap.size, 1, none⟩))), (7, .eq (s)), (8, .row .i64 (cmpI x 0 :: (dig x.natAbs).map Int.ofNat)), (9, .row .u8 (encI x)), (2, .row .u8 (encI x))]) (by kernel_rfl) (by kernel_rfl) (by kernel_rfl) (fun hfn => absurd hfn (by decide)) (Slots.keep _) ?_ ?_ ?_
 ·intro L a w2 i o ho hne2 hL hdep hI
  have hi : i < 8 := (Array.getElem?_eq_some_iff.1 ho).1
  rcases (show i = 0 ∨ i = 1 ∨ i = 2 ∨ i = 3 ∨ i = 4 ∨ i = 5 ∨ i = 6 ∨ i = 7 by omega) with rfl | rfl | rfl | rfl | rfl | rfl | rfl | rfl
  ·cases (Option.some.inj (show some _ = some o from ho))
   have h1 : a.tmps.getD 1 undef = .pointer (some ⟨w.heap.size, 0, none⟩) := hI.free (t := 1) (by kernel_rfl)
   refine pstep rfl fun K hK => ?_
   refine wp_load_int (.tmp 1) rfl w.heap.size x h1 (HC.out.keep hI.below) ?_
   intro v hv hh
   exact hK _ _ (Below.refl _ _) (fun d hd => by cases hd; exact hv)
  ·cases (Option.some.inj (show some _ = some o from ho))
   have h3 : IntAt w2 (a.tmps.getD 3 undef) (x) := hI.slot (i := 0) (d := 3) (hdep ⟨0, .data⟩ (by simp) (by rfl)) rfl
   obtain ⟨x3, e3⟩ : ∃ x, a.tmps.getD 3 undef = x := ⟨_, rfl⟩
   rw [e3] at h3
   refine pstep rfl fun K hK => ?_
   clear hdep hI ho hi
   go_simp
   refine (Sign_any x3 x _ h3).mono ?_
   rintro e w3 ⟨rfl, hb3⟩
   exact hK _ _ hb3 (fun d hd => by cases hd; rfl)
  ·cases (Option.some.inj (show some _ = some o from ho))
   have h4 : a.tmps.getD 4 undef = .int .i64 (cmpI x 0) := hI.slot (i := 1) (d := 4) (hdep ⟨1, .data⟩ (by simp) (by rfl)) rfl
   have g4 : (a.tmps[4]?).getD undef = .int .i64 (cmpI x 0) := by rw [← Array.getD_eq_getD_getElem?]; exact h4
   refine pstep rfl fun K hK => ?_
   clear hdep hI ho hi
   go_simp
   exact hK (.slice (some ⟨w2.heap.size, 0, none⟩) 1 1) (w2.alloc (.cells #[.int .i64 (cmpI x 0)] 3)) ((Below.refl _ _).alloc (Nat.le_refl _) _) (fun d hd => by cases hd; exact One.new .i64 w2 (cmpI x 0) 3)
  ·cases (Option.some.inj (show some _ = some o from ho))
   have h1 : a.tmps.getD 1 undef = .pointer (some ⟨w.heap.size, 0, none⟩) := hI.free (t := 1) (by kernel_rfl)
   refine pstep rfl fun K hK => ?_
   clear hdep hI ho hi
   go_simp
   exact hK _ _ (Below.refl _ _) (fun d hd => by cases hd; rfl)
  ·cases (Option.some.inj (show some _ = some o from ho))
   have h6 : a.tmps.getD 6 undef = .pointer (some ⟨w.heap.size, 1, none⟩) := hI.slot (i := 3) (d := 6) (hdep ⟨3, .data⟩ (by simp) (by rfl)) rfl
   have hc2 := (cell2 (heapKeep hI.below HX.out)).2.1
   refine pstep rfl fun K hK => ?_
   clear hdep hI ho hi
   go_simp
   exact hK _ _ (Below.refl _ _) (fun d hd => by cases hd; rfl)
  ·cases (Option.some.inj (show some _ = some o from ho))
   have h5 : Sp.is (.one .i64 (cmpI x 0)) w2 (a.tmps.getD 5 undef) := hI.slot (i := 2) (d := 5) (hdep ⟨2, .data⟩ (by simp) (by rfl)) rfl
   obtain ⟨x5, e5⟩ : ∃ x, a.tmps.getD 5 undef = x := ⟨_, rfl⟩
   rw [e5] at h5
   have h7 : a.tmps.getD 7 undef = s := hI.slot (i := 4) (d := 7) (hdep ⟨4, .data⟩ (by simp) (by rfl)) rfl
   refine pstep rfl fun K hK => ?_
   obtain ⟨g, rfl, hcg⟩ := h5
   refine wp_append_digits (.tmp 5) (.tmp 7) rfl g (cmpI x 0) e5 hcg s (dig x.natAbs) h7 (HS.out.keep (Pu.further HBW.out hI.below)) (Nat.le_trans hl (by decide)) ?_
   intro v' w' hv' hb'
   exact hK _ _ hb' (fun d hd => by cases hd; exact hv')
  ·cases (Option.some.inj (show some _ = some o from ho))
   have h8 : Sp.is (.row .i64 (cmpI x 0 :: (dig x.natAbs).map Int.ofNat)) w2 (a.tmps.getD 8 undef) := hI.slot (i := 5) (d := 8) (hdep ⟨5, .data⟩ (by simp) (by rfl)) rfl
   obtain ⟨x8, e8⟩ : ∃ x, a.tmps.getD 8 undef = x := ⟨_, rfl⟩
   rw [e8] at h8
   refine pstep rfl fun K hK => ?_
   clear hdep hI ho hi
   go_simp
   refine (wireInts_any x8 _ _ h8 (encI_bd x) (by have := hl; unfold len at this; simp; omega)).mono ?_
   rintro e w3 ⟨v3, rfl, hn3, hb3⟩
   exact hK _ _ hb3 (fun d hd => by cases hd; exact hn3)
  ·cases (Option.some.inj (show some _ = some o from ho))
   have h9 : Sp.is (.row .u8 (encI x)) w2 (a.tmps.getD 9 undef) := hI.slot (i := 6) (d := 9) (hdep ⟨6, .data⟩ (by simp) (by rfl)) rfl
   obtain ⟨x9, e9⟩ : ∃ x, a.tmps.getD 9 undef = x := ⟨_, rfl⟩
   rw [e9] at h9
   refine pstep rfl fun K hK => ?_
   clear hdep hI ho hi
   go_simp
   exact hK _ _ (Below.refl _ _) (fun d hd => by cases hd; exact h9)
 ·intro L a w2 o ho
  exact absurd ho (by simp)
 ·intro _ L a w2 hall hI
  have h2 : Sp.is (.row .u8 (encI x)) w2 (a.tmps.getD 2 undef) := hI.slot (i := 7) (d := 2) (hall 7 (by decide)) rfl
  have HBL := hid hI.below
  refine hret _ _ (wp_ret ?_)
  have hf := hI.frame [3, 4, 5, 6, 7, 8, 9, 2] (by kernel_rfl)
  simp only [List.foldl_cons, List.foldl_nil] at hf
  clear hI hall
  generalize a.tmps.getD 3 undef = y3 at *
  generalize a.tmps.getD 4 undef = y4 at *
  generalize a.tmps.getD 5 undef = y5 at *
  generalize a.tmps.getD 6 undef = y6 at *
  generalize a.tmps.getD 7 undef = y7 at *
  generalize a.tmps.getD 8 undef = y8 at *
  generalize a.tmps.getD 9 undef = y9 at *
  generalize a.tmps.getD 2 undef = y2 at *
  subst hf
  go_simp
  go_ret
  exact ⟨y2, rfl, h2, Pu.further HBW.out HBL.out⟩
set_option maxHeartbeats 1000000 in
theorem refCompare_any (vx vy : Value) (x y : Int) (w : World) (hx : IntAt w vx x) (hy : IntAt w vy y) :
  Calls Tryz.prog 66 #[vx, vy] w (RetI w (cmpI x y)) := by
 obtain ⟨s, rfl, hs⟩ := hx
 obtain ⟨t, rfl, ht⟩ := hy
 have HS := hid hs
 have HT := hid ht
 have HB : Hid (∀ bx by' : Bool, Below w.heap.size w ((w.alloc (Obj.cells #[Value.bool bx, s] 25)).alloc (Obj.cells #[Value.bool by', t] 25))) := hid fun _ _ => below2 w _ _
 clear hs ht
 rcases Int.lt_or_le x 0 with h | h
 ·have hd : decide (x < 0) = true := by simp [h]
  rw [hd]
  rcases Int.lt_or_le y 0 with k | k
  ·have kd : decide (y < 0) = true := by simp [k]
   rw [kd]
   have e : cmpI x y = cmpI y.natAbs x.natAbs := by
    rw [← cmp_neg]; congr 1 <;> omega
   rw [e]
   have HC := hid (compared_any t s y.natAbs x.natAbs · · ·)
   clear h k hd kd e
   go_enter Tryz.func66, Tryz.ntmps66
   go_wp2_with fail
   refine (HC.out _ (HT.out.keep (HB.out _ _)) (HS.out.keep (HB.out _ _))).mono ?_
   rintro e w1 ⟨rfl, hb1⟩
   have HB1 := hid (Pu.further (HB.out _ _) hb1)
   clear hb1
   go_wp2
   go_ret
   exact ⟨rfl, HB1.out⟩
  ·have kd : decide (y < 0) = false := by simp [k]
   rw [kd]
   have e : (-1 : Int) = cmpI x y := by unfold cmpI; rw [if_pos (by omega)]
   rw [← e]
   clear h k hd kd e
   go_enter Tryz.func66, Tryz.ntmps66
   go_wp2
   go_ret
   exact ⟨rfl, HB.out _ _⟩
 ·have hd : decide (x < 0) = false := by simp [h]
  rw [hd]
  rcases Int.lt_or_le y 0 with k | k
  ·have kd : decide (y < 0) = true := by simp [k]
   rw [kd]
   have e : (1 : Int) = cmpI x y := by unfold cmpI; rw [if_neg (by omega), if_pos (by omega)]
   rw [← e]
   clear h k hd kd e
   go_enter Tryz.func66, Tryz.ntmps66
   go_wp2
   go_ret
   exact ⟨rfl, HB.out _ _⟩
  ·have kd : decide (y < 0) = false := by simp [k]
   rw [kd]
   have e : cmpI x y = cmpI x.natAbs y.natAbs := by congr 1 <;> omega
   rw [e]
   have HC := hid (compared_any s t x.natAbs y.natAbs · · ·)
   clear h k hd kd e
   go_enter Tryz.func66, Tryz.ntmps66
   go_wp2_with fail
   refine (HC.out _ (HS.out.keep (HB.out _ _)) (HT.out.keep (HB.out _ _))).mono ?_
   rintro e w1 ⟨rfl, hb1⟩
   have HB1 := hid (Pu.further (HB.out _ _) hb1)
   clear hb1
   go_wp2
   go_ret
   exact ⟨rfl, HB1.out⟩

set_option maxHeartbeats 1000000 in
theorem refSign_any (vx : Value) (x : Int) (w : World) (hx : IntAt w vx x) :
  Calls Tryz.prog 92 #[vx] w (RetI w (cmpI x 0)) := by
 have hx1 := hx
 obtain ⟨s, rfl, _⟩ := hx1
 have HS := hid hx
 have HC := hid (refCompare_any (.agg #[.bool (decide (x < 0)), s]) (.agg #[.bool false, .slice none 0 0]) x 0 · · ·)
 generalize decide (x < 0) = bx at *
 have HB := hid (show Below w.heap.size w (w.alloc (Obj.cells #[Value.bool bx, s] 25)) from (Below.refl _ _).alloc (Nat.le_refl _) _)
 clear hx
 go_enter Tryz.func92, Tryz.ntmps92
 go_wp2_with fail
 refine (HC.out _ (HS.out.keep HB.out) (int_zero _)).mono ?_
 rintro e w1 ⟨rfl, hb1⟩
 have HB1 := hid (Pu.further HB.out hb1)
 clear hb1
 go_wp2
 go_ret
 exact ⟨rfl, HB1.out⟩
theorem nums_of_row {w : World} {v : Value} {ds : List Nat} (h : Row .i64 w v (ds.map Int.ofNat)) : Nums w v ds := by
 obtain ⟨ao, cap, rfl, h1, h2, h3⟩ := h
 rw [List.length_map] at h1 h3
 refine ⟨ao, cap, by rw [List.length_map], h1, h2, fun hl => ?_⟩
 obtain ⟨b, off, rfl, hc⟩ := h3 hl
 exact ⟨b, off, rfl, fun i hi => by rw [hc i hi, getD_map]⟩
set_option maxRecDepth 100000 in
set_option maxHeartbeats 1000000 in
theorem refValid_raw (b : Bool) (v : Value) (zs : List Int) (w : World) (hv : Row .i64 w v zs) :
  Calls Tryz.prog 95 #[.agg #[.bool b, v]] w (RetB w (validI b zs)) := by
 obtain ⟨ao, ac, rfl, a1, a2, a3⟩ := hv
 have HA := hid a3
 clear a3
 unfold maxLen at a2
 obtain ⟨W, hW⟩ : ∃ W, W = w.alloc (Obj.cells #[Value.bool b, .slice ao zs.length ac] 25) := ⟨_, rfl⟩
 have HB := hid (show Below w.heap.size w W by rw [hW]; exact (Below.refl _ _).alloc (Nat.le_refl _) _)
 have hrow : W.heap[w.heap.size]? = some (.cells #[.bool b, .slice ao zs.length ac] 25 (0, 0)) := by rw [hW]; exact heap_alloc_new w _
 obtain ⟨c1, c2, -, -⟩ := cell2 hrow
 have HWW := hid hW
 clear hW hrow
 go_enter Tryz.func95, Tryz.ntmps95
 go_upto_region 1 with fail
 rw [← HWW.out]
 go_wp2
 go_loopw [3] (fun i wr => ∃ k : Nat, k ≤ zs.length ∧ i = .int .i64 k ∧ (∀ j, j < k → (decide (0 ≤ zs.getD j 0) && decide (zs.getD j 0 < 1000000000)) = true) ∧ W = wr) (fun i _ => zs.length - (intOf i).toNat)
 case atStart => exact ⟨0, Nat.zero_le _, rfl, fun j hj => absurd hj (Nat.not_lt_zero j), rfl⟩
 case round =>
  obtain ⟨k, hk, rfl, hall, rfl⟩ := hrel
  have HALL := hid hall
  clear hall
  by_cases hka : k < zs.length
  ·obtain ⟨bb, off, rfl, hc⟩ := HA.out (by omega)
   have hck := keepCell HB.out (hc k hka)
   obtain ⟨d, hd⟩ : ∃ d, d = zs.getD k 0 := ⟨_, rfl⟩
   rw [← hd] at hck
   have HD := hid hd
   clear hc hd
   by_cases h1 : d < 0
   ·have hf : validI b zs = false := by
     unfold validI
     rw [all_not hka (by rw [← HD.out]; simp; omega)]
     rfl
    have HF := hid hf
    clear hf
    go_wp2
    go_ret
    exact ⟨by rw [HF.out]; rfl, HB.out⟩
   ·by_cases h2 : 1000000000 ≤ d
    ·have hf : validI b zs = false := by
      unfold validI
      rw [all_not hka (by rw [← HD.out]; simp; omega)]
      rfl
     have HF := hid hf
     clear hf
     go_wp2
     go_ret
     exact ⟨by rw [HF.out]; rfl, HB.out⟩
    ·go_wp2
     go_roundw
     case rel =>
      refine ⟨k + 1, by omega, by go_num, fun j hj => ?_, trivial⟩
      rcases Nat.lt_or_ge j k with h | h
      ·exact HALL.out j h
      ·obtain rfl : j = k := by omega
       rw [← HD.out]
       simp; omega
     case measure => simp [intOf]; omega
  ·have hke : k = zs.length := by omega
   have hall := all_take (p := fun d => decide (0 ≤ d) && decide (d < 1000000000)) HALL.out hke
   rcases Nat.eq_zero_or_pos zs.length with h0 | h0
   ·have hv : validI b zs = !b := by unfold validI; rw [hall, if_pos h0]; rfl
    have HV := hid hv
    have hll : (((zs.length : Nat) : Int) == 0) = true := by rw [h0]; rfl
    clear h0 hall hv hke
    go_wp2
    go_ret
    exact ⟨by rw [HV.out]; rfl, HB.out⟩
   ·have hv : validI b zs = (zs.getD (zs.length - 1) 0 != 0) := by unfold validI; rw [hall, if_neg (by omega)]; rfl
    have HV := hid hv
    have hll : (((zs.length : Nat) : Int) == 0) = false := by rw [beq_eq_false_iff_ne]; omega
    obtain ⟨bb, off, rfl, hc⟩ := HA.out h0
    have hck := keepCell HB.out (hc (zs.length - 1) (by omega))
    generalize zs.getD (zs.length - 1) 0 = d at *
    clear hc hall hv hke
    go_wp2
    go_ret
    exact ⟨by rw [HV.out]; rfl, HB.out⟩
end Zn
end Go.Proofs.YtpgiebimhnhbiaaGreatDoor
