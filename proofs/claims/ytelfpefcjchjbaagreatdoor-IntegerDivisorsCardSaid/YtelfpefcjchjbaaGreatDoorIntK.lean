/-
  Contracts of gantry/gantryref04: normal, Of, digit, compared, plus, minus.
-/
import Derived.Test.YtelfpefcjchjbaaGreatDoorIntJ
import Derived.ArgAppend
import Derived.Laws.AppendOwn
namespace Go.Proofs.YtelfpefcjchjbaaGreatDoor
open Go.RowKit
open Go.Lib (hid)
open Dg
namespace Zn

set_option maxHeartbeats 1000000 in
theorem normal_any (neg : Bool) (v : Value) (ds : List Nat) (w : World) (hv : Nums w v ds) (hd : Dig ds) :
    Calls Tryz.prog 52 #[.bool neg, v] w (RetInt w (mk neg (val ds))) := by
  have HD := hid (dig_val hd)
  have HV := hid hv
  obtain ⟨ao, cap, rfl, hlc, hcm, hcells⟩ := hv
  have HCE := hid hcells
  clear hcells
  unfold maxLen at hcm
  obtain ⟨W, hW⟩ : ∃ W, W = w.alloc (Obj.cells #[Value.bool false, Value.slice none 0 0] 24) := ⟨_, rfl⟩
  have HB := hid (show Below w.heap.size w W by rw [hW]; exact (Below.refl _ _).alloc (Nat.le_refl _) _)
  have HR := hid (show ResAt W w.heap.size by rw [hW]; exact ResAt.at rfl)
  have HWW := hid hW
  clear hW
  go_enter Tryz.func52, Tryz.ntmps52
  go_wp2
  rw [← HWW.out]
  go_loopw [5] (fun n wr => ∃ k : Nat, k ≤ ds.length ∧ n = .int .i64 k ∧ trimN (ds.take k) = trimN ds ∧ W = wr) (fun n _ => (intOf n).toNat)
  case atStart => exact ⟨ds.length, Nat.le_refl _, rfl, by rw [List.take_length], rfl⟩
  case round =>
    obtain ⟨k, hk, rfl, htr, rfl⟩ := hrel
    have HT := hid htr
    clear htr
    rcases Nat.eq_zero_or_pos k with h0 | h0
    · subst h0
      rw [show ((0 : Nat) : Int) = 0 from rfl]
      have hz : val ds = 0 := by
        have h := HD.out
        rw [← HT.out, List.take_zero] at h
        exact dig_eq_nil.1 h
      have HZ := hid (show IntAt W (.agg #[.bool false, .slice none 0 0]) (mk neg (val ds)) by rw [hz, show mk neg 0 = 0 by cases neg <;> rfl]; exact int_zero W)
      clear hz
      go_wp2_with (with_reducible refine wpList_store_int rfl (.tmp 4) (.tmp 23) rfl w.heap.size (.agg #[.bool false, .slice none 0 0]) _ rfl rfl HZ.out HR.out ?_)
      exact ret_int_cell rfl rfl HR.out HZ.out HB.out (Nat.le_refl _)
    · obtain ⟨j, rfl⟩ : ∃ j, k = j + 1 := ⟨k - 1, by omega⟩
      obtain ⟨b, off, rfl, hc⟩ := HCE.out (by omega)
      obtain ⟨d, hdd⟩ : ∃ d, d = ds.getD j 0 := ⟨_, rfl⟩
      have hcj := keepCell HB.out (hc j (by omega))
      rw [← hdd] at hcj
      have HDD := hid hdd
      clear hc hdd
      by_cases hz : d = 0
      · subst hz
        go_wp2
        go_roundw
        case rel =>
          refine ⟨j, by omega, by go_num, ?_, trivial⟩
          have h := HT.out
          rw [take_pred (by omega) hk, show j + 1 - 1 = j from rfl, ← HDD.out, trimN_snoc_zero] at h
          exact h
        case measure => simp [intOf]
      · have hz2 : ((d : Int) == 0) = false := by simp; omega
        have h := HT.out
        have h2 := take_pred (show 0 < j + 1 by omega) hk
        rw [show j + 1 - 1 = j from rfl, ← HDD.out] at h2
        rw [h2, trimN_snoc hz, ← h2] at h
        have hvz : val ds ≠ 0 := by
          intro h0
          have h3 := HD.out
          rw [h0, dig_zero, ← h, h2] at h3
          simp at h3
        have HI := hid (show IntAt W (.agg #[.bool neg, .slice (some ⟨b, off, none⟩) (j + 1) cap]) (mk neg (val ds)) by
          refine ⟨_, by rw [mk_neg _ _ hvz], ?_⟩
          rw [mk_abs, HD.out, ← h]
          exact (HV.out.keep HB.out).take (j + 1) hk)
        clear h h2 hvz
        go_wp2_with (with_reducible refine wpList_store_int rfl (.tmp 4) (.tmp 28) rfl w.heap.size (.agg #[.bool neg, .slice (some ⟨b, off, none⟩) (j + 1) cap]) _ rfl rfl HI.out HR.out ?_)
        exact ret_int_cell rfl rfl HR.out HI.out HB.out (Nat.le_refl _)

set_option maxHeartbeats 400000 in
theorem digit_any (v : Value) (ds : List Nat) (i : Nat) (w : World) (hv : Nums w v ds) :
    Calls Tryz.prog 81 #[v, .int .i64 (i : Int)] w fun e w' => e = .returned (.int .i64 ((ds.getD i 0 : Nat) : Int)) ∧ w = w' := by
  obtain ⟨ao, cap, rfl, hlc, hcm, hcells⟩ := hv
  unfold maxLen at hcm
  by_cases hi : i < ds.length
  · obtain ⟨b, off, rfl, hc⟩ := hcells (by omega)
    have hci := hc i hi
    generalize ds.getD i 0 = d at *
    clear hcells hc
    go_enter Tryz.func81, Tryz.ntmps81
    go_wp2
    go_ret
    exact ⟨rfl, rfl⟩
  · have h0 : ds.getD i 0 = 0 := by rw [List.getD_eq_getElem?_getD, List.getElem?_eq_none (by omega)]; rfl
    rw [h0]
    clear hcells h0
    go_enter Tryz.func81, Tryz.ntmps81
    go_wp2
    go_ret
    exact ⟨rfl, rfl⟩

/-- A slice of digits that the call itself has made. -/
def OwnN (w : World) (base : Nat) (v : Value) (ds : List Nat) : Prop := w.ownsRow base 3 1 v ds.length (ds.map fun d : Nat => Value.int .i64 (d : Int))
theorem OwnN.start (w : World) (base : Nat) : OwnN w base (.slice none 0 0) [] := ⟨rfl, .inl ⟨rfl, rfl⟩⟩
theorem OwnN.heap {w w' : World} {base : Nat} {v : Value} {ds : List Nat} (h : OwnN w base v ds) (he : w'.heap = w.heap) : OwnN w' base v ds := by
  unfold OwnN World.ownsRow at *
  rw [he]
  exact h
theorem OwnN.nums {w : World} {base : Nat} {v : Value} {ds : List Nat} (h : OwnN w base v ds) : Nums w v ds := by
  have h0 := h
  rcases h.2 with ⟨rfl, hl⟩ | ⟨g, cap, cur, rfl, hg, hh, hn, hm, hs, ht⟩
  · rw [List.eq_nil_of_length_eq_zero hl]
    exact Nums.nil (by decide)
  · refine Nums.mk' rfl hn hm fun i hi => ?_
    have := World.ownsRow.cells (g := g) h0 rfl i (.int .i64 ((ds.getD i 0 : Nat) : Int)) (by
      rw [List.getElem?_map, List.getD_eq_getElem?_getD, List.getElem?_eq_getElem hi]
      rfl)
    rwa [Addr.add_lit] at this
theorem OwnN.alloc {w : World} {base : Nat} {v : Value} {ds : List Nat} (h : OwnN w base v ds) (o : Obj) : OwnN (w.alloc o) base v ds := World.ownsRow.alloc h o

/-- 'append(out, x)', x a digit that lies in a new array of one. -/
theorem wpList_append_int {w : World} {ops : Array Oper} {rest : List Oper} {o : Oper} {a : Act} {Q : Exit → Act → World → Prop} (hgd : o.guard = none) (s x : Operand)
    (ho : o.op = .call { callee := .builtin .append, args := #[s, x], argTypes := #[22, 22] }) (i : TypeInfo)
    (hi : Tryz.prog.info? 3 = some i) (hz0 : i.zero = some (.int .i64 0)) (hz1 : i.size = 1) (hz2 : i.bytes = 8) (hu : Tryz.prog.underlying 22 = some (.slice 3))
    (w0 : World) (v : Value) (ds : List Nat) (hs : a.eval s = v) (hown : OwnN w w0.heap.size v ds) (g d : Nat) (hx : a.eval x = .slice (some ⟨g, 0, none⟩) 1 1) (hc : w.cell? ⟨g, 0, none⟩ = some (.int .i64 (d : Int)))
    (hlen : ds.length ≤ 1099511627776) (hbel : Below w0.heap.size w0 w)
    (h : ∀ v' w', OwnN w' w0.heap.size v' (ds ++ [d]) → Below w0.heap.size w0 w' → wpList Tryz.prog ops Q rest (a.put o.dst v') w') : wpList Tryz.prog ops Q (o :: rest) a w := by
  refine wpList_append_own w hgd s x 22 ho w0.heap.size 3 i (.int .i64 0) 1 8 hu hi hz0 hz1 hz2 rfl (by decide) v ds.length _ hs hown ⟨g, 0, none⟩ 1 1 [.int .i64 (d : Int)] hx rfl ?_ ?_ (by unfold maxLen; omega) (by omega) hbel.size ?_
  · intro j u hj
    cases j with
    | zero => cases hj; rw [Addr.add_lit]; exact hc
    | succ j => cases hj
  · intro u hu
    cases List.mem_singleton.1 hu
    rfl
  · intro v' w' hown' hgrow _
    refine h v' w' ?_ (hbel.grown hgrow hbel.size (fun k hk => (World.ownsRow.lt hown k hk).1))
    unfold OwnN
    rw [List.length_append, List.map_append]
    exact hown'

/-- Behind a function that returns digits, with zeros at the end perhaps. -/
def RetVal (w : World) (n : Nat) (e : Ending) (w' : World) : Prop := ∃ v ds, e = .returned v ∧ Nums w' v ds ∧ Dig ds ∧ val ds = n ∧ Below w.heap.size w w'

theorem mod_mk (neg : Bool) (q : Nat) : (mk neg q).tmod 1000000000 = mk neg (q % 1000000000) ∧ (mk neg q).tdiv 1000000000 = mk neg (q / 1000000000) := by
  cases neg
  · obtain ⟨e1, e2⟩ := tm_pos (s := (q : Int)) (by omega)
    simp only [mk, Bool.false_eq_true, if_false]
    rw [e1, e2]
    omega
  · rcases Nat.eq_zero_or_pos q with rfl | h
    · simp [mk]
    · obtain ⟨e1, e2⟩ := tm_neg (s := -(q : Int)) (by omega)
      simp only [mk, if_true]
      rw [e1, e2]
      omega

set_option maxRecDepth 100000 in
set_option maxHeartbeats 2000000 in
theorem refOf_any (n : Int) (w : World) (h1 : -9223372036854775808 ≤ n) (h2 : n ≤ 9223372036854775807) :
    Calls Tryz.prog 12 #[.int .i64 n] w (RetInt w n) := by
  obtain ⟨i0, hi, hz0, hz1, hz2⟩ := info_parts Tryz.int_info
  obtain ⟨W, hW⟩ : ∃ W, W = w.alloc (Obj.cells #[Value.bool false, Value.slice none 0 0] 24) := ⟨_, rfl⟩
  have HB := hid (show Below w.heap.size w W by rw [hW]; exact (Below.refl _ _).alloc (Nat.le_refl _) _)
  have HR := hid (show ResAt W w.heap.size by rw [hW]; exact ResAt.at rfl)
  have HWW := hid hW
  rw [show RetInt w n = RetInt w (mk (decide (n < 0)) n.natAbs) by rw [mk_self]]
  have hself := mk_self n
  have hN : n.natAbs ≤ 9223372036854775808 := by omega
  obtain ⟨neg, hneg⟩ : ∃ b, b = decide (n < 0) := ⟨_, rfl⟩
  obtain ⟨N, hNN⟩ : ∃ N, N = n.natAbs := ⟨_, rfl⟩
  rw [← hneg, ← hNN] at hself ⊢
  rw [← hNN] at hN
  have HSF := hid hself
  have HNG := hid hneg
  have HN8 := hid hN
  clear hW hself hneg hNN hN
  go_enter Tryz.func12, Tryz.ntmps12
  go_wp2
  rw [← HWW.out]
  rw [← HNG.out]
  go_loopw [0, 3] (fun n d wr => ∃ (q : Nat) (m : Int) (ds : List Nat), n = .int .i64 m ∧ m = mk neg q ∧ q ≤ N ∧ -9223372036854775808 ≤ m ∧ m ≤ 9223372036854775807 ∧ dig N = ds ++ dig q ∧ OwnN wr W.heap.size d ds ∧ Below W.heap.size W wr) (fun n _ _ => (match n with | .int _ x => x | _ => 0).natAbs)
  case atStart => exact ⟨N, n, [], rfl, HSF.out.symm, Nat.le_refl _, h1, h2, rfl, OwnN.start _ _, Below.refl _ _⟩
  case round =>
    obtain ⟨q, m, ds, rfl, hm, hqN, hm1, hm2, hdig, hown, hbel⟩ := hrel
    have HM := hid hm
    have HDG := hid hdig
    have HO := hid hown
    have HBL := hid hbel
    clear hm hdig hown hbel
    by_cases hq : q = 0
    · subst hq
      have hm0 : m = 0 := by rw [HM.out]; cases neg <;> rfl
      subst hm0
      have hbne : ((0 : Int) != 0) = false := rfl
      have hds : ds = dig N := by have h := HDG.out; rw [dig_zero, List.append_nil] at h; exact h.symm
      subst hds
      clear hqN h1 h2
      go_wp2_with fail
      refine (normal_any neg _ (dig N) _ HO.out.nums (dig_Dig _)).mono ?_
      rintro e w2 ⟨v2, rfl, hv2, hb2⟩
      rw [val_dig] at hv2
      have HV2 := hid hv2
      have HB2 := hid (Pu.further HB.out (Pu.further HBL.out hb2))
      have HR2 := hid ((HR.out.keep HBL.out).keep hb2)
      clear hv2 hb2
      go_wp2_with (with_reducible refine wpList_store_int rfl (.tmp 2) (.tmp 24) rfl w.heap.size v2 _ rfl rfl HV2.out HR2.out ?_)
      exact ret_int_cell rfl rfl HR2.out HV2.out HB2.out (Nat.le_refl _)
    · obtain ⟨e1, e2⟩ := mod_mk neg q
      rw [← HM.out] at e1 e2
      have hbne : (m != 0) = true := by
        rw [bne_iff_ne, HM.out]
        cases neg <;> simp [mk] <;> omega
      obtain ⟨m1, hm1'⟩ : ∃ m1, m1 = mk neg (q % 1000000000) := ⟨_, rfl⟩
      obtain ⟨m2, hm2'⟩ : ∃ m2, m2 = mk neg (q / 1000000000) := ⟨_, rfl⟩
      rw [← hm1'] at e1
      rw [← hm2'] at e2
      obtain ⟨d, hd⟩ : ∃ d, d = q % 1000000000 := ⟨_, rfl⟩
      have hd9 : d < 1000000000 := by omega
      have hcase : (m1 < 0 ∧ -m1 = (d : Int)) ∨ (¬ m1 < 0 ∧ m1 = (d : Int)) := by
        rw [hm1', ← hd]
        cases neg <;> simp [mk] <;> omega
      have hb1 : -1000000000 ≤ m1 ∧ m1 ≤ 1000000000 := by rcases hcase with ⟨_, h⟩ | ⟨_, h⟩ <;> omega
      have hb2 : -9223372036854775808 ≤ m2 ∧ m2 ≤ 9223372036854775807 := by
        have := HN8.out
        rw [hm2']
        cases neg <;> simp [mk] <;> omega
      obtain ⟨hb1a, hb1b⟩ := hb1
      obtain ⟨hb2a, hb2b⟩ := hb2
      have hlen : ds.length ≤ 1099511627776 := by
        have h3 : (dig N).length ≤ 3 := dig_length_le.2 (by have := HN8.out; omega)
        rw [HDG.out, List.length_append] at h3
        omega
      have HD2 := hid (show dig N = (ds ++ [d]) ++ dig (q / 1000000000) by rw [HDG.out, dig_pos (by omega), hd, List.append_assoc]; rfl)
      have HM2 := hid hm2'
      have hqd : q / 1000000000 < q := by omega
      clear hm1' hm2' hd h1 h2
      rcases hcase with ⟨hneg1, hd1⟩ | ⟨hneg1, rfl⟩
      · obtain ⟨m1', rfl⟩ : ∃ k, m1 = -k := ⟨-m1, by omega⟩
        rw [Int.neg_neg] at hd1
        subst hd1
        go_wp2_with (at_builtin; refine wpList_append_int rfl (.tmp 16) (.tmp 18) rfl i0 hi hz0 hz1 hz2 Tryz.under_ints W _ ds rfl (HO.out.alloc _) wr.heap.size d rfl (by exact cell_of_row _ _ 0 _ _ _ (heap_alloc_new wr _)) hlen (HBL.out.alloc HBL.out.size _) ?_)
        intro v' w' hown' hbel'
        have HO2 := hid hown'
        have HB2 := hid hbel'
        clear hown' hbel'
        go_wp2
        go_roundw
        case rel => exact ⟨q / 1000000000, m2, ds ++ [d], rfl, HM2.out, by omega, by omega, by omega, HD2.out, HO2.out, HB2.out⟩
        case measure =>
          show m2.natAbs < m.natAbs
          rw [HM2.out, HM.out, mk_abs, mk_abs]
          exact hqd
      · go_wp2_with (at_builtin; refine wpList_append_int rfl (.tmp 16) (.tmp 18) rfl i0 hi hz0 hz1 hz2 Tryz.under_ints W _ ds rfl (HO.out.alloc _) wr.heap.size d rfl (by exact cell_of_row _ _ 0 _ _ _ (heap_alloc_new wr _)) hlen (HBL.out.alloc HBL.out.size _) ?_)
        intro v' w' hown' hbel'
        have HO2 := hid hown'
        have HB2 := hid hbel'
        clear hown' hbel'
        go_wp2
        go_roundw
        case rel => exact ⟨q / 1000000000, m2, ds ++ [d], rfl, HM2.out, by omega, by omega, by omega, HD2.out, HO2.out, HB2.out⟩
        case measure =>
          show m2.natAbs < m.natAbs
          rw [HM2.out, HM.out, mk_abs, mk_abs]
          exact hqd

set_option maxHeartbeats 1000000 in
theorem compared_any (va vb : Value) (m n : Nat) (w : World) (ha : Nums w va (dig m)) (hb : Nums w vb (dig n)) :
    Calls Tryz.prog 54 #[va, vb] w (RetI w (cmpI m n)) := by
  obtain ⟨ao, ac, rfl, a1, a2, a3⟩ := ha
  obtain ⟨bo, bc, rfl, b1, b2, b3⟩ := hb
  have HA := hid a3
  have HB := hid b3
  clear a3 b3
  unfold maxLen at a2 b2
  obtain ⟨x, hx⟩ : ∃ x, x = dig m := ⟨_, rfl⟩
  obtain ⟨y, hy⟩ : ∃ y, y = dig n := ⟨_, rfl⟩
  rw [← hx] at HA a1 ⊢
  rw [← hy] at HB b1 ⊢
  have HX := hid hx
  have HY := hid hy
  clear hx hy
  rcases Nat.lt_trichotomy x.length y.length with hl | hl | hl
  · have e : cmpI m n = -1 := cmp_dig_lt (lt_of_length (by rw [← HX.out, ← HY.out]; exact hl))
    rw [e]
    clear e
    go_enter Tryz.func54, Tryz.ntmps54
    go_wp2
    go_ret
    exact ⟨rfl, Below.refl _ _⟩
  · have HL := hid hl
    have hl1 : ¬ x.length < y.length := by omega
    have hl2 : ¬ y.length < x.length := by omega
    have hl3 : x.length ≤ y.length := by omega
    clear hl
    go_enter Tryz.func54, Tryz.ntmps54
    go_wp2
    go_loopw [5] (fun i wr => ∃ k : Nat, k ≤ x.length ∧ i = .int .i64 ((k : Int) - 1) ∧ x.drop k = y.drop k ∧ Below w.heap.size w wr) (fun i _ => (intOf i + 1).toNat)
    case atStart => exact ⟨x.length, Nat.le_refl _, rfl, by rw [List.drop_length, HL.out, List.drop_length], Below.refl _ _⟩
    case round =>
      obtain ⟨k, hk, rfl, hdr, hbel⟩ := hrel
      have HD := hid hdr
      have HBL := hid hbel
      clear hdr hbel
      rcases Nat.eq_zero_or_pos k with h0 | h0
      · subst h0
        go_wp2
        go_ret
        have h := HD.out
        rw [List.drop_zero, List.drop_zero, HX.out, HY.out] at h
        exact ⟨ret_int (by rw [dig_inj h, cmp_self]), HBL.out⟩
      · obtain ⟨j, rfl⟩ : ∃ j, k = j + 1 := ⟨k - 1, by omega⟩
        obtain ⟨p, po, rfl, hp⟩ := HA.out (by omega)
        obtain ⟨q, qo, rfl, hq⟩ := HB.out (by omega)
        have hpj : _ := keepCell HBL.out (hp j (by omega))
        have hqj : _ := keepCell HBL.out (hq j (by omega))
        obtain ⟨dx, hdx⟩ : ∃ d, d = x.getD j 0 := ⟨_, rfl⟩
        obtain ⟨dy, hdy⟩ : ∃ d, d = y.getD j 0 := ⟨_, rfl⟩
        rw [← hdx] at hpj
        rw [← hdy] at hqj
        have HDX := hid hdx
        have HDY := hid hdy
        have e1 : ((j + 1 : Nat) : Int) - 1 = (j : Int) := by omega
        rw [e1]
        clear hp hq hdx hdy e1
        have hcmp : dx ≠ dy → cmpI ((dx : Nat) : Int) ((dy : Nat) : Int) = cmpI m n := by
          intro hd
          rw [HDX.out, HDY.out, cmp_at (by rw [HX.out]; exact dig_Dig _) (by rw [HY.out]; exact dig_Dig _) (by omega) (by omega) HD.out (by rw [← HDX.out, ← HDY.out]; exact hd), HX.out, HY.out, val_dig, val_dig]
        have HCM := hid hcmp
        clear hcmp
        rcases Nat.lt_trichotomy dx dy with hd | hd | hd
        · go_wp2
          go_quiet (fail)
          go_wp2
          go_ret
          refine ⟨ret_int ?_, below_drewN HBL.out _⟩
          rw [← HCM.out (by omega), cmp_dig_lt hd]
        · subst hd
          go_wp2
          go_quiet (fail)
          obtain ⟨w2, hw2⟩ : ∃ w2, w2 = wr.drewN nq := ⟨_, rfl⟩
          have hpj2 : w2.cell? ⟨p, po + j, none⟩ = some (.int .i64 (dx : Int)) := by rw [hw2]; exact hpj
          have hqj2 : w2.cell? ⟨q, qo + j, none⟩ = some (.int .i64 (dx : Int)) := by rw [hw2]; exact hqj
          have HN := hid (show Below w.heap.size w w2 by rw [hw2]; exact below_drewN HBL.out nq)
          rw [← hw2]
          clear hw2 hpj hqj
          go_wp2
          go_quiet (fail)
          go_wp2
          go_roundw
          case rel =>
            refine ⟨j, by omega, rfl, ?_, below_drewN HN.out _⟩
            rw [List.drop_eq_getElem_cons (show j < x.length by omega), List.drop_eq_getElem_cons (show j < y.length by omega), HD.out]
            congr 1
            have e1 := HDX.out
            have e2 := HDY.out
            simp only [List.getD_eq_getElem?_getD, List.getElem?_eq_getElem (show j < x.length by omega), List.getElem?_eq_getElem (show j < y.length by omega), Option.getD_some] at e1 e2
            rw [← e1, ← e2]
          case measure => simp [intOf]
        · go_wp2
          go_quiet (fail)
          obtain ⟨w2, hw2⟩ : ∃ w2, w2 = wr.drewN nq := ⟨_, rfl⟩
          have hpj2 : w2.cell? ⟨p, po + j, none⟩ = some (.int .i64 (dx : Int)) := by rw [hw2]; exact hpj
          have hqj2 : w2.cell? ⟨q, qo + j, none⟩ = some (.int .i64 (dy : Int)) := by rw [hw2]; exact hqj
          have HN := hid (show Below w.heap.size w w2 by rw [hw2]; exact below_drewN HBL.out nq)
          rw [← hw2]
          clear hw2 hpj hqj
          go_wp2
          go_quiet (fail)
          go_wp2
          go_ret
          refine ⟨ret_int ?_, below_drewN HN.out _⟩
          rw [← HCM.out (by omega), cmp_dig_gt hd]
  · have e : cmpI m n = 1 := cmp_dig_gt (lt_of_length (by rw [← HX.out, ← HY.out]; exact hl))
    rw [e]
    clear e
    go_enter Tryz.func54, Tryz.ntmps54
    go_wp2
    go_ret
    exact ⟨rfl, Below.refl _ _⟩

end Zn
end Go.Proofs.YtelfpefcjchjbaaGreatDoor
