/-
  Contracts of gantry/gantryref04: Mul, Power; of gantry/gantryref01: At.
-/
import Derived.Test.YtelfpefcjchjbaaGreatDoorIntO
namespace Go.Proofs.YtelfpefcjchjbaaGreatDoor
open Go.RowKit
open Go.Lib (hid)
open Dg
namespace Zn

/-- The value v is a slice of these integers. -/
def ListI (w : World) (v : Value) (zs : List Int) : Prop :=
  (∀ z ∈ zs, -9223372036854775808 ≤ z ∧ z ≤ 9223372036854775807) ∧
  ∃ ao cap, v = .slice ao zs.length cap ∧ zs.length ≤ cap ∧ cap ≤ maxLen ∧ (0 < zs.length → ∃ b off, ao = some ⟨b, off, none⟩ ∧ ∀ i, i < zs.length → w.cell? ⟨b, off + i, none⟩ = some (.int .i64 (zs.getD i 0)))
theorem ListI.keep {w w' : World} {v : Value} {zs : List Int} (h : ListI w v zs) (hb : Below w.heap.size w w') : ListI w' v zs := by
  obtain ⟨h0, ao, cap, h1, h2, h3, h4⟩ := h
  refine ⟨h0, ao, cap, h1, h2, h3, fun hl => ?_⟩
  obtain ⟨b, off, h5, h6⟩ := h4 hl
  exact ⟨b, off, h5, fun i hi => keepCell hb (h6 i hi)⟩

/-- At's answer. -/
def atI (zs : List Int) (i : Nat) (m : Int) : Int := if i < zs.length then aroundI (zs.getD i 0) m else 0
theorem atI_bd (zs : List Int) (i : Nat) (m : Int) (h : 1 ≤ m) : 0 ≤ atI zs i m ∧ atI zs i m < m := by
  unfold atI
  split
  · exact aroundI_bd _ _ h
  · omega

set_option maxHeartbeats 400000 in
theorem At_any (v : Value) (zs : List Int) (i m : Int) (w : World) (hv : ListI w v zs) (hi : 0 ≤ i) (hm : 1 ≤ m) (hm2 : m ≤ 9223372036854775807) :
    Calls Tryz.prog 50 #[v, .int .i64 i, .int .i64 m] w fun e w' => e = .returned (.int .i64 (atI zs i.toNat m)) ∧ w = w' := by
  obtain ⟨h0, ao, cap, rfl, hlc, hcm, hcells⟩ := hv
  unfold maxLen at hcm
  obtain ⟨k, rfl⟩ := Int.eq_ofNat_of_zero_le hi
  rw [Int.toNat_natCast]
  unfold atI
  by_cases hk : k < zs.length
  · rw [if_pos hk]
    obtain ⟨b, off, rfl, hc⟩ := hcells (by omega)
    have hck := hc k hk
    have hz := h0 (zs.getD k 0) (by rw [List.getD_eq_getElem?_getD, List.getElem?_eq_getElem hk]; exact List.getElem_mem hk)
    generalize zs.getD k 0 = z at *
    obtain ⟨hz1, hz2⟩ := hz
    have HA := hid (fun w1 => Around_any z m w1 hz1 hz2 hm hm2)
    clear hcells hc h0 hi
    go_enter Tryz.func50, Tryz.ntmps50
    go_wp2_with fail
    refine (HA.out _).mono ?_
    rintro e w' ⟨rfl, rfl⟩
    go_wp2
    go_ret
    exact ⟨rfl, rfl⟩
  · rw [if_neg hk]
    clear hcells h0 hi
    go_enter Tryz.func50, Tryz.ntmps50
    go_wp2
    go_ret
    exact ⟨rfl, rfl⟩

theorem TRel.drewN {a b : List Nat} {w wr : World} {i k c : Nat} (h : TRel a b w i k c wr) (n : Nat) : TRel a b w i k c (wr.drewN n) := by
  obtain ⟨zs, h1, h2, h3, h4, h5, h6⟩ := h
  exact ⟨zs, h1, h2, h3, below_drewN h4 n, h5, h6⟩

set_option maxRecDepth 100000 in
set_option maxHeartbeats 4000000 in
theorem refMul_any (vx vy : Value) (x y : Int) (w : World) (hx : IntAt w vx x) (hy : IntAt w vy y) (hl1 : len x ≤ 1099511627776) (hl2 : len y ≤ 1099511627776) :
    Calls Tryz.prog 26 #[vx, vy] w (RetInt w (x * y)) := by
  obtain ⟨i0, hi, hz0, hz1, hz2⟩ := info_parts Tryz.int_info
  obtain ⟨s, rfl, hs⟩ := hx
  obtain ⟨t, rfl, ht⟩ := hy
  rw [← mk_mul]
  generalize decide (x < 0) = bx at *
  generalize decide (y < 0) = by' at *
  obtain ⟨a, ha⟩ : ∃ a, a = dig x.natAbs := ⟨_, rfl⟩
  obtain ⟨b, hb⟩ : ∃ b, b = dig y.natAbs := ⟨_, rfl⟩
  have hda : Dig a := by rw [ha]; exact dig_Dig _
  have hdb : Dig b := by rw [hb]; exact dig_Dig _
  have hva : val a = x.natAbs := by rw [ha, val_dig]
  have hvb : val b = y.natAbs := by rw [hb, val_dig]
  unfold len at hl1 hl2
  rw [← ha] at hs hl1
  rw [← hb] at ht hl2
  rw [← hva, ← hvb]
  clear ha hb hva hvb
  obtain ⟨ao, ac, rfl, a1, a2, a3⟩ := hs
  obtain ⟨bo, bc, rfl, b1, b2, b3⟩ := ht
  have HA := hid a3
  have HB := hid b3
  clear a3 b3
  unfold maxLen at a2 b2
  obtain ⟨W, hW⟩ : ∃ W, W = (((w.alloc (Obj.cells #[Value.bool bx, .slice ao a.length ac] 24)).alloc (Obj.cells #[Value.bool by', .slice bo b.length bc] 24)).alloc (Obj.cells #[Value.bool false, Value.slice none 0 0] 24)) := ⟨_, rfl⟩
  have HBW := hid (show Below w.heap.size w W by rw [hW]; exact below3 w _ _ _)
  have HR := hid (show ResAt W (w.heap.size + 1 + 1) by rw [hW]; exact ResAt.at (by simp))
  have HX := hid (show W.heap[w.heap.size]? = some (.cells #[.bool bx, .slice ao a.length ac] 24 (0, 0)) by rw [hW]; exact first3 w _ _ _)
  have HY := hid (show W.heap[w.heap.size + 1]? = some (.cells #[.bool by', .slice bo b.length bc] 24 (0, 0)) by rw [hW]; exact second3 w _ _ _)
  have HWW := hid hW
  obtain ⟨c1, c2, -, -⟩ := cell2 HX.out
  obtain ⟨d1, d2, -, -⟩ := cell2 HY.out
  clear hW
  go_enter Tryz.func26, Tryz.ntmps26
  go_upto_region 1 with fail
  rw [← HWW.out]
  go_wp2_with (at_make; refine wpList_make_ints rfl (.tmp 16) (.tmp 16) rfl i0 hi hz0 hz1 hz2 Tryz.under_ints _ _ (a.length + b.length) rfl rfl (by omega) (by omega) (by omega) ?_)
  intro w1 hrow hbel hsz
  have HC := hid (ORel.start hrow hbel hsz)
  clear hrow hbel hsz c1 c2 d1 d2
  go_wp2
  go_loopw [6] (fun i wr => ∃ k : Nat, k ≤ a.length ∧ i = .int .i64 k ∧ ORel a b W k wr) (fun i _ => a.length - (intOf i).toNat)
  case atStart => exact ⟨0, by omega, rfl, HC.out⟩
  case round =>
    obtain ⟨i, hik, rfl, hrel⟩ := hrel
    have HR1 := hid hrel
    obtain ⟨c1, c2, -, -⟩ := cell2 (heapKeep hrel.bel HX.out)
    obtain ⟨d1, d2, -, -⟩ := cell2 (heapKeep hrel.bel HY.out)
    clear hrel
    by_cases hia : i < a.length
    · obtain ⟨ab, aoff, rfl, hac⟩ := HA.out (by omega)
      have hca0 := hac i hia
      obtain ⟨x', hx⟩ : ∃ x, x = a.getD i 0 := ⟨_, rfl⟩
      have hx9 : x' < 1000000000 := by rw [hx]; exact hda.getD i
      rw [← hx] at hca0
      have HX' := hid hx
      have HI := hid HR1.out.inner
      have HCA := hid hca0
      clear hac hx hca0
      go_wp2
      go_loopw [7, 8] (fun c j wr => ∃ k c' : Nat, k ≤ b.length ∧ j = .int .i64 k ∧ c = .int .i64 c' ∧ TRel a b W i k c' wr) (fun _ j _ => b.length - (intOf j).toNat)
      case atStart => exact ⟨0, 0, by omega, rfl, rfl, HI.out⟩
      case round =>
        obtain ⟨k, c, hkb, rfl, rfl, hrel⟩ := hrel
        have HT := hid hrel
        have hc9 := hrel.bel.2
        obtain ⟨c1', c2', -, -⟩ := cell2 (heapKeep hrel.bel.1 HX.out)
        obtain ⟨d1', d2', -, -⟩ := cell2 (heapKeep hrel.bel.1 HY.out)
        have hca := keepCell hrel.bel.1 (keepCell HBW.out HCA.out)
        clear hrel c1 c2 d1 d2
        by_cases hk : k < b.length
        · obtain ⟨bb, boff, rfl, hbc⟩ := HB.out (by omega)
          have hcb := keepCell HT.out.bel.1 (keepCell HBW.out (hbc k hk))
          obtain ⟨y', hy⟩ : ∃ y, y = b.getD k 0 := ⟨_, rfl⟩
          have hy9 : y' < 1000000000 := by rw [hy]; exact hdb.getD k
          rw [← hy] at hcb
          obtain ⟨xy1, xy2⟩ := prod_bd hx9 hy9
          obtain ⟨z, hz9, hcz, hfz, hnext⟩ := HT.out.cell (show i + k < a.length + b.length by omega)
          have HCZ := hid hcz
          have HFZ := hid hfz
          have HZ9 := hid hz9
          have HYY := hid hy
          clear hbc hy hnext hfz
          have hwrap1 : IntKind.i64.wrap ((i : Int) + (k : Int)) = (i : Int) + (k : Int) := IntWalk.i64_in _ (by omega)
          have hwrap2 : IntKind.i64.wrap ((x' : Int) * (y' : Int)) = (x' : Int) * (y' : Int) := IntWalk.i64_in _ (by omega)
          have hwrap3 : IntKind.i64.wrap ((z : Int) + (x' : Int) * (y' : Int)) = (z : Int) + (x' : Int) * (y' : Int) := IntWalk.i64_in _ (by omega)
          have hwrap4 : IntKind.i64.wrap ((z : Int) + (x' : Int) * (y' : Int) + (c : Int)) = (z : Int) + (x' : Int) * (y' : Int) + (c : Int) := IntWalk.i64_in _ (by omega)
          have hton : ((i : Int) + (k : Int)).toNat = i + k := by omega
          go_wp2
          go_quiet (fail)
          clear hwrap1 hwrap2 hwrap3 hwrap4 hton
          have hTn := HT.out.drewN nq
          obtain ⟨z2, hz92, hcz2, hfz2, hnext2⟩ := hTn.cell (show i + k < a.length + b.length by omega)
          obtain rfl : z2 = z := by
            have h : some (Value.int .i64 (z : Int)) = some (Value.int .i64 (z2 : Int)) := HCZ.out.symm.trans hcz2
            injection h with h
            injection h with _ h
            omega
          rw [← HX'.out, ← HYY.out] at hnext2
          have HN : Hid (∀ s : Int, s = (z2 : Int) + (x' : Int) * (y' : Int) + (c : Int) → ∃ c' : Nat, s / 1000000000 = (c' : Int) ∧ TRel a b W i (k + 1) c' ((wr.drewN nq).setCell ⟨W.heap.size, i + k, none⟩ (.int .i64 (s % 1000000000)))) := by
            refine hid fun s hs => ?_
            have e : s = ((z2 + x' * y' + c : Nat) : Int) := by rw [hs, Int.natCast_add, Int.natCast_add, Int.natCast_mul]
            refine ⟨(z2 + x' * y' + c) / 1000000000, by rw [e]; omega, ?_⟩
            rw [e]
            have hxy : ((x' * y' : Nat) : Int) ≤ 999999998000000001 := by rw [Int.natCast_mul]; exact xy2
            exact hnext2 _ rfl hk (by omega)
          clear hnext2 hTn hcz HCZ
          generalize wr.drewN nq = w2 at *
          go_wp2
          obtain ⟨c', hc', hT⟩ := HN.out _ rfl
          go_roundw
          case rel => exact ⟨k + 1, c', by omega, by go_num, by rw [hc'], hT⟩
          case measure => simp [intOf]; omega
        · obtain rfl : k = b.length := by omega
          obtain ⟨⟨v0, hc⟩, hfz, hO⟩ := HT.out.cellOut hia
          have HO := hid hO
          clear hO
          go_wp2
          go_roundw
          case rel => exact ⟨i + 1, by omega, by go_num, HO.out⟩
          case measure => simp [intOf]; omega
    · obtain rfl : i = a.length := by omega
      obtain ⟨zs, hz1', hz2', hz3', hz4'⟩ := HR1.out.fin (by unfold maxLen; omega)
      have HZ1 := hid hz1'
      have HZ3 := hid hz3'
      have HZ4 := hid hz4'
      have HV : Hid (val zs = val a * val b) := hid (dig_inj (by rw [hz2', dig_val hz1']))
      clear hz2' hz3' hz4'
      go_wp2_with fail
      refine (normal_any _ _ zs _ HZ3.out HZ1.out).mono ?_
      rintro e w2 ⟨v2, rfl, hv2, hb2⟩
      rw [HV.out, show (!bx == by') = (bx != by') from rfl] at hv2
      have HV2 := hid hv2
      have HB2 := hid (Pu.further HBW.out (Pu.further HZ4.out hb2))
      have HR2 := hid ((HR.out.keep HZ4.out).keep hb2)
      clear hv2 hb2
      go_wp2_with (with_reducible refine wpList_store_int rfl (.tmp 4) (.tmp 75) rfl (w.heap.size + 1 + 1) v2 _ rfl rfl HV2.out HR2.out ?_)
      exact ret_int_cell rfl rfl HR2.out HV2.out HB2.out (by omega)

/-- A variable of type Int. -/
def IntCell (w : World) (g : Nat) (z : Int) : Prop := ∃ v, IntAt w v z ∧ w.heap[g]? = some (.cells v.cells 24 (0, 0))
theorem IntCell.keep {w w' : World} {g : Nat} {z : Int} (h : IntCell w g z) (hb : Below w.heap.size w w') : IntCell w' g z := by
  obtain ⟨v, h1, h2⟩ := h
  exact ⟨v, h1.keep hb, heapKeep hb h2⟩
theorem IntCell.res {w : World} {g : Nat} {z : Int} (h : IntCell w g z) : ResAt w g := by
  obtain ⟨v, h1, h2⟩ := h
  obtain ⟨so, n, sc, rfl, _⟩ := h1.form
  exact ⟨_, _, _, _, h2⟩
theorem IntCell.set {w : World} {g : Nat} {v : Value} {z : Int} (hr : ResAt w g) (hv : IntAt w v z) : IntCell (w.setRow g v.cells) g z := by
  refine ⟨v, hv.apart hr _, ?_⟩
  obtain ⟨_, _, _, _, h⟩ := hr
  exact setRow_heap w g _ _ _ _ h
theorem IntCell.apart {w : World} {g : Nat} {z : Int} (h : IntCell w g z) {r : Nat} (hr : ResAt w r) (hne : g ≠ r) (cs : Array Value) : IntCell (w.setRow r cs) g z := by
  obtain ⟨v, h1, h2⟩ := h
  exact ⟨v, h1.apart hr cs, (setRow_other w r g cs hne).trans h2⟩
theorem ResAt.apart {w : World} {g : Nat} (h : ResAt w g) {r : Nat} (hne : g ≠ r) (cs : Array Value) : ResAt (w.setRow r cs) g := by
  obtain ⟨x, y, z, n, h⟩ := h
  exact ⟨x, y, z, n, (setRow_other w r g cs hne).trans h⟩

theorem IntAt.open {w : World} {v : Value} {z : Int} (h : IntAt w v z) : ∃ b so n sc, v = .agg #[.bool b, .slice so n sc] := by
  obtain ⟨so, n, sc, rfl, _⟩ := h.form
  exact ⟨_, so, n, sc, rfl⟩
/-- A new variable. -/
theorem IntCell.new {w : World} {b : Bool} {so : Option Addr} {n sc : Nat} {z : Int} (h : IntAt w (.agg #[.bool b, .slice so n sc]) z) : IntCell (w.alloc (.cells #[.bool b, .slice so n sc] 24)) w.heap.size z :=
  ⟨_, h.keep ((Below.refl _ _).alloc (Nat.le_refl _) _), heap_alloc_new w _⟩

/-- An integer is loaded. -/
theorem wp_load_int {o : Oper} {a : Act} {w : World} {K : Act → World → Prop} {Q : Exit → Act → World → Prop} (x : Operand) (ho : o.op = .load 24 x)
    (g : Nat) (z : Int) (hx : a.eval x = .pointer (some ⟨g, 0, none⟩)) (hc : IntCell w g z)
    (h : ∀ v, IntAt w v z → w.heap[g]? = some (.cells v.cells 24 (0, 0)) → K (a.put o.dst v) w) : o.wp Tryz.prog a w K Q := by
  obtain ⟨d, hd1, hd2⟩ := struct_of Tryz.int_struct
  obtain ⟨v, hv, hh⟩ := hc
  obtain ⟨so, n, sc, rfl, _⟩ := hv.form
  exact wp_load_row 24 x ho g hx 24 _ (0, 0) d hh hd1 (by cases d <;> first | rfl | cases hd2) Tryz.int_size (h _ hv hh)
theorem wpList_load_int {ops : Array Oper} {rest : List Oper} {o : Oper} {a : Act} {w : World} {Q : Exit → Act → World → Prop} (hgd : o.guard = none) (x : Operand) (ho : o.op = .load 24 x)
    (g : Nat) (v : Value) (z : Int) (hx : a.eval x = .pointer (some ⟨g, 0, none⟩)) (hv : IntAt w v z) (hh : w.heap[g]? = some (.cells v.cells 24 (0, 0)))
    (h : wpList Tryz.prog ops Q rest (a.put o.dst v) w) : wpList Tryz.prog ops Q (o :: rest) a w := by
  obtain ⟨d, hd1, hd2⟩ := struct_of Tryz.int_struct
  obtain ⟨so, n, sc, rfl, _⟩ := hv.form
  exact wpList_load_row hgd 24 x ho g hx 24 _ (0, 0) d hh hd1 (by cases d <;> first | rfl | cases hd2) Tryz.int_size h

end Zn
end Go.Proofs.YtelfpefcjchjbaaGreatDoor
