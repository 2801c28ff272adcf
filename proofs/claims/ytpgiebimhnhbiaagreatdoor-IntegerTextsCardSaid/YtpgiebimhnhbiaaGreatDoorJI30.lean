/-
  Contract of integer's Text, of a number above zero.
  A builder's WriteByte.
  Contract of integer's Text, of any number.
  What layer 4's examples come to: contracts at the examples' numbers.
  Layer 4's examples hold.
-/
import Derived.Test.YtpgiebimhnhbiaaGreatDoorJI29
import Derived.Lib.AppendIntMem
import Derived.Lib.ItoaLen
set_option linter.unusedVariables false
set_option linter.unusedSimpArgs false
set_option linter.unusedSectionVars false
namespace Go.Proofs.YtpgiebimhnhbiaaGreatDoor
open Go.RowKit
open Go.Lib (hid)
open Dg
namespace Zn
theorem gPow : Tryz.prog.globalNamed "internal/strconv.uint64pow10" = some 3 := by kernel_rfl
def Tab (w : World) : Prop := Lib.TabIs Tryz.prog w "internal/strconv.uint64pow10" .u64 Lib.pow10Tab
theorem Tab.keep {w w' : World} (h : Tab w) (hb : Below w.heap.size w w') : Tab w' := by
 unfold Tab Lib.TabIs World.var? at h ⊢
 simp only [gPow, Option.bind_some] at h ⊢
 have hl : 3 < w.heap.size := by
  rcases Nat.lt_or_ge 3 w.heap.size with h1 | h1
  ·exact h1
  ·rw [Array.getElem?_eq_none (by omega)] at h; cases h
 rw [hb.block _ hl]
 exact h

theorem bld_kept {B b : Nat} {p : Value} {bs : List Value} {w w' : World} (h : Lib.BuilderAt 78 5 B b p bs w) (hb : Below w.heap.size w w') : Lib.BuilderAt 78 5 B b p bs w' := by
 obtain ⟨h1, v, h2, h3, h4⟩ := h
 exact ⟨h1, v, heapKeep hb h2, owned_kept h3 hb, h4⟩

theorem itoa_any (n : Int) (h0 : -9223372036854775808 ≤ n) (h1 : n ≤ 9223372036854775807) (w : World) (ht : Tab w) :
  Calls Tryz.prog 81 #[.int .i64 n] w fun e w' => e = .returned (.string ⟨(Lib.itoa n).toArray⟩) ∧ Below w.heap.size w w' := by
 refine (Tryz.strconv_Itoa n h0 h1 w ht).mono ?_
 rintro e w' ⟨rfl, k, os, rfl⟩
 exact ⟨rfl, Lib.below_grow _ w (Nat.le_refl _) k os⟩

def txtN (ds : List Nat) : Nat → List UInt8
 | 0 => Lib.itoa ((ds.getD (ds.length - 1) 0 : Nat) : Int)
 | i + 1 => txtN ds i ++ (Lib.itoa (1000000000 + ((ds.getD (ds.length - 2 - i) 0 : Nat) : Int))).drop 1
theorem txtN_length (ds : List Nat) (hd : Dig ds) (i : Nat) : (txtN ds i).length ≤ 21 * (i + 1) := by
 have hdd := fun j => hd.getD j
 induction i with
 | zero =>
  have h1 := hdd (ds.length - 1)
  exact Lib.itoa_length_le _ (by omega) (by omega)
 | succ i ih =>
  have h1 := hdd (ds.length - 2 - i)
  have := Lib.itoa_length_le (1000000000 + ((ds.getD (ds.length - 2 - i) 0 : Nat) : Int)) (by omega) (by omega)
  simp only [txtN, List.length_append, List.length_drop]
  omega

theorem isb_kept {B b : Nat} {bs : List Value} {w w' : World} (h : Lib.IsBuilder 78 5 B b bs w) (hb : Below w.heap.size w w') : Lib.IsBuilder 78 5 B b bs w' := by
 rcases h with h | h
 ·exact .inl (bld_kept h hb)
 ·exact .inr (bld_kept h hb)
theorem str_cells (l : List UInt8) : Lib.strCells ⟨l.toArray⟩ = Lib.byteCells l := by simp [Lib.strCells, Lib.byteCells]
theorem str_size (l : List UInt8) : (ByteArray.mk l.toArray).size = l.length := by simp [ByteArray.size]
theorem itoa_pos (n : Int) : 1 ≤ (Lib.itoa n).length := by
 unfold Lib.itoa
 split
 ·simp
 ·rw [Lib.decDigits_length]; exact Lib.nDigits_pos _

theorem wr64 (n : Int) (h0 : -9223372036854775808 ≤ n) (h1 : n ≤ 9223372036854775807) : wrap64 n = n := by unfold wrap64; omega
theorem txt_facts (m k j d : Nat) (hm : m + 1 ≤ 1099511627776) (hj : m = k + 1 + j) (hd : d < 1000000000) :
  wrap64 ((m : Int) - 1) = m - 1 ∧ wrap64 ((m : Int) - 1 - k) = j ∧ wrap64 ((k : Int) + 1) = k + 1 ∧ (j : Int) < m + 1 ∧ (k : Int) < m ∧ ∃ q : Int, q = 1000000000 + (d : Int) ∧ wrap64 (1000000000 + (d : Int)) = q ∧ -9223372036854775808 ≤ q ∧ q ≤ 9223372036854775807 := by
 subst hj
 refine ⟨wr64 _ (by omega) (by omega), (wr64 _ (by omega) (by omega)).trans (by omega), wr64 _ (by omega) (by omega), by omega, by omega, _, rfl, wr64 _ (by omega) (by omega), by omega, by omega⟩
theorem str_drop (l : List UInt8) : (ByteArray.mk l.toArray).extract 1 l.length = ⟨(l.drop 1).toArray⟩ := by
 apply ByteArray.ext
 rw [ByteArray.data_extract]
 simp [List.take_of_length_le]
theorem txt_next {ds : List Nat} {m k j : Nat} (h : ds.length = m + 1) (hj : m = k + 1 + j) : txtN ds (k + 1) = txtN ds k ++ (Lib.itoa (1000000000 + ((ds.getD j 0 : Nat) : Int))).drop 1 := by
 rw [txtN, h, show m + 1 - 2 - k = j by omega]
theorem txt_less {m k : Nat} (h : k < m) : m - (k + 1) < m - (intOf (Value.int IntKind.i64 (k : Int))).toNat := by
 simp [intOf]
 omega
def TxtAt (w : World) (box : Array Value) (ds : List Nat) (k : Nat) (wr : World) : Prop :=
 Lib.BuilderAt 78 5 (w.heap.size + 1) (w.heap.size + 1) (.pointer (some ⟨w.heap.size + 1, 0, none⟩)) (Lib.byteCells (txtN ds k)) wr ∧ Below (w.heap.size + 1) (w.alloc (.cells box 25)) wr

set_option maxHeartbeats 2000000 in
set_option maxRecDepth 100000 in
theorem Text_pos (v : Value) (z : Int) (w : World) (hv : IntAt w v z) (hz : 0 < z) (hl : (dig z.natAbs).length ≤ 1099511627776) (ht : Tab w) :
  Calls Tryz.prog 10 #[v] w fun e w' => e = .returned (.string ⟨(txtN (dig z.natAbs) ((dig z.natAbs).length - 1)).toArray⟩) ∧ Below w.heap.size w w' := by
 obtain ⟨s, rfl, hs⟩ := hv
 have hneg : decide (z < 0) = false := decide_eq_false (by omega)
 rw [hneg]
 have hn0 : dig z.natAbs ≠ [] := by
  intro h
  rw [dig_eq_nil] at h
  omega
 have hD := dig_Dig z.natAbs
 generalize dig z.natAbs = ds at *
 obtain ⟨m, hm⟩ : ∃ m, ds.length = m + 1 := ⟨ds.length - 1, by have := List.length_pos_iff.2 hn0; omega⟩
 obtain ⟨ao, cap, rfl, hc1, hc2, hc3⟩ := hs
 obtain ⟨b, off, rfl, hc⟩ := hc3 (by omega)
 rw [hm] at hc hc1 hl
 have hwr : wrap64 (m : Int) = m := wr64 _ (by omega) (by omega)
 have hz1 : ((m : Int) + 1 == 0) = false := by rw [beq_eq_false_iff_ne]; omega
 have HB0 := hid (show Below w.heap.size w ((w.alloc (Obj.cells #[Value.bool false, Value.slice (some ⟨b, off, none⟩) (m + 1) cap] 25)).alloc (Obj.cells #[Value.pointer none, Value.slice none 0 0] 78)) from ((Below.refl _ _).alloc (Nat.le_refl _) _).alloc (by simp) _)
 have hct := keepCell HB0.out (hc m (by omega))
 have htop : ds.getD m 0 < 1000000000 := hD.getD _
 obtain ⟨t, htt⟩ : ∃ t, t = ds.getD m 0 := ⟨_, rfl⟩
 rw [← htt] at hct htop
 have HTT := hid htt
 have HCE := hid hc
 have HLEN := hid hm
 have HD := hid hD
 have HT := hid ht
 have HL := hid hl
 rw [hm]
 have HTOP := hid htop
 have HC1 := hid hc1
 have HC2 := hid hc2
 clear hc3 hc htt hn0 hneg hz hm hD ht hl
 go_enter Tryz.func10, Tryz.ntmps10
 go_wp2_with fail
 refine (itoa_any (t : Int) (by omega) (by omega) _ (HT.out.keep HB0.out)).mono ?_
 rintro e w1 ⟨rfl, hb1⟩
 have hI := isb_kept (Lib.fresh_isBuilder 78 5 (w.alloc (Obj.cells #[Value.bool false, Value.slice (some ⟨b, off, none⟩) (m + 1) cap] 25))) hb1
 have hs1 : w.heap.size + 2 ≤ w1.heap.size := by have := hb1.size; simp at this; omega
 rw [show (w.alloc (Obj.cells #[Value.bool false, Value.slice (some ⟨b, off, none⟩) (m + 1) cap] 25)).heap.size = w.heap.size + 1 by simp] at hI
 have hlt := Lib.itoa_length_le (t : Int) (by omega) (by omega)
 have HW := hid (writeString_any _ _ [] ⟨(Lib.itoa (t : Int)).toArray⟩ w1 hI (by rw [str_size, List.length_nil]; omega) (by omega))
 have HB1 := hid hb1
 have HS1 := hid hs1
 clear hI hb1 hs1 hlt htop hc1 hc2 hct
 go_wp2_with fail
 refine HW.out.mono ?_
 rintro e w2 ⟨rfl, hA2, hb2⟩
 have HA := hid (show TxtAt w #[Value.bool false, Value.slice (some ⟨b, off, none⟩) (m + 1) cap] ds 0 w2 by
  refine ⟨?_, (((Below.refl _ _).alloc (by simp) _).trans (HB1.out.mono (by simp))).trans hb2⟩
  rw [List.nil_append, str_cells] at hA2
  rw [txtN, HLEN.out, Nat.add_sub_cancel, ← HTT.out]
  exact hA2)
 clear hA2 hb2 HW
 go_wp2_with fail
 go_loopw [25] (fun i wr => ∃ k : Nat, k ≤ m ∧ i = .int .i64 k ∧ TxtAt w #[Value.bool false, Value.slice (some ⟨b, off, none⟩) (m + 1) cap] ds k wr) (fun i _ => m - (intOf i).toNat)
 case atStart => exact ⟨0, Nat.zero_le _, rfl, HA.out⟩
 case round =>
  obtain ⟨k, hk, rfl, hT⟩ := hrel
  obtain ⟨hTA, hTB⟩ := hT
  have hwB : Below w.heap.size w wr := ((Below.refl _ w).alloc (Nat.le_refl _) _).trans (hTB.mono (Nat.le_succ _))
  have hsz : w.heap.size + 1 < wr.heap.size := hTA.lt
  have hml := HL.out
  by_cases hkm : k < m
  ·obtain ⟨j, hj⟩ : ∃ j, m = k + 1 + j := ⟨m - (k + 1), by omega⟩
   have hbox : wr.heap[w.heap.size]? = some (.cells #[Value.bool false, Value.slice (some ⟨b, off, none⟩) (m + 1) cap] 25 (0, 0)) := (hTB.block _ (Nat.lt_succ_self _)).trans (cellsNew w _ _ _)
   obtain ⟨c0, c1, -, -⟩ := cell2 hbox
   have hcj := keepCell hwB (HCE.out j (by omega))
   have hdj : ds.getD j 0 < 1000000000 := HD.out.getD _
   obtain ⟨d, hdd⟩ : ∃ d, d = ds.getD j 0 := ⟨_, rfl⟩
   rw [← hdd] at hcj hdj
   obtain ⟨hx1, hx2, hx4, hx5, hx6, q, hq, hx3, hq0, hq1⟩ := txt_facts m k j d hml hj hdj
   have HDD := hid hdd
   have HJ := hid hj
   have HTA := hid hTA
   have HTB := hid hTB
   have HWB := hid hwB
   have HSZ := hid hsz
   have HDJ := hid hdj
   have HK := hid hk
   have HKM := hid hkm
   have HI := itoa_any q hq0 hq1 wr (HT.out.keep hwB)
   have hlen := itoa_pos q
   have hlen2 := Lib.itoa_length_le q hq0 hq1
   obtain ⟨l, hll⟩ : ∃ l, l = Lib.itoa q := ⟨_, rfl⟩
   rw [← hll] at HI hlen hlen2
   have HLL := hid hll
   have HQ := hid hq
   have hsz2 : (0 : Int) ≤ 1 ∧ (1 : Int) ≤ ((ByteArray.mk l.toArray).size : Int) := by rw [str_size]; omega
   have HHI := hid HI
   have HLN := hid hlen
   have HLN2 := hid hlen2
   clear hml hbox hdd hj hTA hTB hwB hsz hdj hk hkm hll hq hq0 hq1 HI hlen hlen2
   go_wp2_with fail
   refine HHI.out.mono ?_
   rintro e w3 ⟨rfl, hb3⟩
   have HB3 := hid hb3
   clear hb3
   go_wp2_with fail
   rw [str_drop]
   have hlb := txtN_length ds HD.out k
   have hm1 := HL.out
   have hk1 := HKM.out
   have hl21 := HLN2.out
   refine (writeString_any (w.heap.size + 1) (w.heap.size + 1) (Lib.byteCells (txtN ds k)) ⟨(l.drop 1).toArray⟩ w3 (.inr (bld_kept HTA.out HB3.out)) (by rw [str_size, List.length_drop, Lib.byteCells_length]; omega) (by have h1 := HB3.out.size; have h2 := HSZ.out; omega)).mono ?_
   rintro e w4 ⟨rfl, hA4, hb4⟩
   clear hlb hm1 hk1 hl21
   have HA4 := hid (show TxtAt w #[Value.bool false, Value.slice (some ⟨b, off, none⟩) (m + 1) cap] ds (k + 1) w4 by
    refine ⟨?_, (HTB.out.trans (HB3.out.mono (by have := HSZ.out; omega))).trans hb4⟩
    rw [str_cells, ← Lib.byteCells_append] at hA4
    rw [txt_next HLEN.out HJ.out, ← HDD.out, ← HQ.out, ← HLL.out]
    exact hA4)
   clear hA4 hb4 HHI HTA HTB
   go_wp2_with fail
   go_roundw
   case rel => exact ⟨k + 1, HKM.out, by go_num, HA4.out⟩
   case measure =>
    have e : (intOf (Value.int IntKind.i64 (wrap64 ((k : Int) + 1)))).toNat = k + 1 := by
     rw [hx4]
     rfl
    have h1 := HKM.out
    rw [e]
    exact txt_less h1
  ·obtain rfl : k = m := by omega
   have HTA := hid hTA
   have HTB := hid hTB
   have HWB := hid hwB
   have HSZ := hid hsz
   clear hTA hTB hwB hsz hml
   go_wp2_with fail
   refine (Tryz.Builder_String_any (w.heap.size + 1) (w.heap.size + 1) (txtN ds k) wr (.inr HTA.out) (by have := HSZ.out; omega)).mono ?_
   rintro e w3 ⟨rfl, hb3⟩
   go_wp2_with fail
   go_ret
   exact ⟨rfl, HWB.out.trans (hb3.mono (Nat.le_succ _))⟩
set_option maxHeartbeats 2000000 in
set_option maxRecDepth 100000 in
theorem writeByte_any (B b : Nat) (bs : List Value) (u : Int) (w : World) (h : Lib.IsBuilder 78 5 B b bs w) (hlen : bs.length + 1 ≤ 140737488355328) (hBw : B ≤ w.heap.size) :
  Calls Tryz.prog 79 #[.pointer (some ⟨b, 0, none⟩), .int .u8 u] w fun e w' => e = .returned .nilIface ∧ (Lib.BuilderAt 78 5 B b (.pointer (some ⟨b, 0, none⟩)) (bs ++ [.int .u8 u]) w' ∧ Below B w w') := by
 obtain ⟨i0, hi, hz0, hz1, hz2⟩ := info_parts Tryz.byte_info
 go_enter Tryz.func79, Tryz.ntmps79
 go_wp2_with fail
 refine (copyCheck_any B b bs _ h).mono ?_
 rintro e w1 ⟨rfl, h1, hb1⟩
 obtain ⟨hB, v, hbk, hown, hne⟩ := h1
 have c0 : w1.cell? ⟨b, 0, none⟩ = some (.pointer (some ⟨b, 0, none⟩)) := by rw [Lib.cell_of_heap hbk]; rfl
 have c1 : w1.cell? ⟨b, 1, none⟩ = some v := by rw [Lib.cell_of_heap hbk]; rfl
 go_wp2_with (at_builtin; refine wpList_append_own _ rfl _ _ 23 rfl B 5 i0 (.int .u8 0) 1 1 Tryz.underlying23 hi hz0 hz1 hz2 rfl (by decide) _ _ _ rfl (World.ownsRow.alloc hown _) ⟨w1.heap.size, 0, none⟩ 1 1 [.int .u8 u] rfl rfl ?c1 (by simp [Value.oneCell']) ?c3 ?c4 ?c5 ?_)
 case c1 =>
  intro j x hj
  cases j with
  | zero =>
   obtain rfl := Option.some.inj hj
   rw [Addr.add_lit, cell_of_row _ _ _ _ _ _ (heap_alloc_new w1 _)]
   rfl
  | succ j => cases hj
 case c3 => unfold maxLen; omega
 case c4 => omega
 case c5 => have := hb1.size; simp; omega
 intro v' w2 hown' hgrow _
 have hlt : b < w1.heap.size := by
  rcases Nat.lt_or_ge b w1.heap.size with h' | h'
  ·exact h'
  ·simp [Array.getElem?_eq_none h'] at hbk
 have hbk' : (w1.alloc (.cells #[.int .u8 u] 5)).heap[b]? = some (.cells #[.pointer (some ⟨b, 0, none⟩), v] 78 (0, 0)) := by
  rw [Below.heap_alloc w1 _ b hlt]
  exact hbk
 have hb2 : w2.heap[b]? = some (.cells #[.pointer (some ⟨b, 0, none⟩), v] 78 (0, 0)) := by
  rw [hgrow.block b (by simp; omega) (fun e => hne e.symm)]
  exact hbk'
 have d0 : w2.cell? ⟨b, 0, none⟩ = some (.pointer (some ⟨b, 0, none⟩)) := by rw [Lib.cell_of_heap hb2]; rfl
 have d1 : w2.cell? ⟨b, 1, none⟩ = some v := by rw [Lib.cell_of_heap hb2]; rfl
 have f1 : w2.frozen? ⟨b, 1, none⟩ = false := Lib.frozen_of_heap hb2 1
 obtain ⟨ao, n', cap, rfl⟩ := slice_of hown'
 go_wp2
 go_ret
 refine ⟨rfl, ?_, ?_⟩
 ·exact Lib.BuilderAt.put (T := 78) (e := 5) hB hb2 (bs' := bs ++ [.int .u8 u]) (by simpa using hown') (by decide)
 ·exact ((hb1.alloc (by have := hb1.size; omega) _).grown hgrow (by have := hb1.size; simp; omega) (fun k hk => (hown.lt k hk).1)).setCell (p := ⟨b, 1, none⟩) hB _
def TxtAtN (w : World) (box : Array Value) (ds : List Nat) (k : Nat) (wr : World) : Prop :=
 Lib.BuilderAt 78 5 (w.heap.size + 1) (w.heap.size + 1) (.pointer (some ⟨w.heap.size + 1, 0, none⟩)) (Lib.byteCells (45 :: txtN ds k)) wr ∧ Below (w.heap.size + 1) (w.alloc (.cells box 25)) wr

set_option maxHeartbeats 2000000 in
set_option maxRecDepth 100000 in
theorem Text_neg (v : Value) (z : Int) (w : World) (hv : IntAt w v z) (hz : z < 0) (hl : (dig z.natAbs).length ≤ 1099511627776) (ht : Tab w) :
  Calls Tryz.prog 10 #[v] w fun e w' => e = .returned (.string ⟨(45 :: txtN (dig z.natAbs) ((dig z.natAbs).length - 1)).toArray⟩) ∧ Below w.heap.size w w' := by
 obtain ⟨s, rfl, hs⟩ := hv
 have hneg : decide (z < 0) = true := decide_eq_true hz
 rw [hneg]
 have hn0 : dig z.natAbs ≠ [] := by
  intro h
  rw [dig_eq_nil] at h
  omega
 have hD := dig_Dig z.natAbs
 generalize dig z.natAbs = ds at *
 obtain ⟨m, hm⟩ : ∃ m, ds.length = m + 1 := ⟨ds.length - 1, by have := List.length_pos_iff.2 hn0; omega⟩
 obtain ⟨ao, cap, rfl, hc1, hc2, hc3⟩ := hs
 obtain ⟨b, off, rfl, hc⟩ := hc3 (by omega)
 rw [hm] at hc hc1 hl
 have hwr : wrap64 (m : Int) = m := wr64 _ (by omega) (by omega)
 have hz1 : ((m : Int) + 1 == 0) = false := by rw [beq_eq_false_iff_ne]; omega
 have HB0 := hid (show Below w.heap.size w ((w.alloc (Obj.cells #[Value.bool true, Value.slice (some ⟨b, off, none⟩) (m + 1) cap] 25)).alloc (Obj.cells #[Value.pointer none, Value.slice none 0 0] 78)) from ((Below.refl _ _).alloc (Nat.le_refl _) _).alloc (by simp) _)
 have hct := keepCell HB0.out (hc m (by omega))
 have htop : ds.getD m 0 < 1000000000 := hD.getD _
 obtain ⟨t, htt⟩ : ∃ t, t = ds.getD m 0 := ⟨_, rfl⟩
 rw [← htt] at hct htop
 have HTT := hid htt
 have HCE := hid hc
 have HLEN := hid hm
 have HD := hid hD
 have HT := hid ht
 have HL := hid hl
 rw [hm]
 have HTOP := hid htop
 have HC1 := hid hc1
 have HC2 := hid hc2
 clear hc3 hc htt hn0 hneg hz hm hD ht hl
 go_enter Tryz.func10, Tryz.ntmps10
 go_wp2_with fail
 have hI0 := Lib.fresh_isBuilder 78 5 (w.alloc (Obj.cells #[Value.bool true, Value.slice (some ⟨b, off, none⟩) (m + 1) cap] 25))
 rw [show (w.alloc (Obj.cells #[Value.bool true, Value.slice (some ⟨b, off, none⟩) (m + 1) cap] 25)).heap.size = w.heap.size + 1 by simp] at hI0
 have HW0 := hid (writeByte_any _ _ [] 45 _ hI0 (by simp) (by simp))
 clear hI0
 refine HW0.out.mono ?_
 rintro e w0 ⟨rfl, hA0, hb0⟩
 have hbw : Below w.heap.size w w0 := HB0.out.trans (hb0.mono (by omega))
 have hs0 : w.heap.size + 2 ≤ w0.heap.size := by have := hb0.size; simp at this; omega
 have hbox0 : Below (w.heap.size + 1) (w.alloc (Obj.cells #[Value.bool true, Value.slice (some ⟨b, off, none⟩) (m + 1) cap] 25)) w0 := ((Below.refl _ _).alloc (by simp) _).trans hb0
 have c1 := (HB0.out.trans (hb0.mono (Nat.le_succ _)))
 have hbox : w0.heap[w.heap.size]? = some (.cells #[Value.bool true, Value.slice (some ⟨b, off, none⟩) (m + 1) cap] 25 (0, 0)) := (hbox0.block _ (Nat.lt_succ_self _)).trans (cellsNew w _ _ _)
 obtain ⟨q0, q1, -, -⟩ := cell2 hbox
 have hct0 := keepCell hbw (HCE.out m (by omega))
 rw [← HTT.out] at hct0
 have HBW := hid hbw
 have HS0 := hid hs0
 have HBOX := hid hbox0
 have HA0 := hid hA0
 clear hb0 hA0 hbw hs0 hbox0 c1 hbox HW0 hct
 go_wp2_with fail
 refine (itoa_any (t : Int) (by omega) (by omega) _ (HT.out.keep HBW.out)).mono ?_
 rintro e w1 ⟨rfl, hb1⟩
 have hI : Lib.IsBuilder 78 5 (w.heap.size + 1) (w.heap.size + 1) (Lib.byteCells [45]) w1 := isb_kept (.inr HA0.out) hb1
 have hs1 : w.heap.size + 2 ≤ w1.heap.size := by have := hb1.size; have := HS0.out; omega
 have hlt := Lib.itoa_length_le (t : Int) (by omega) (by omega)
 have HW := hid (writeString_any _ _ (Lib.byteCells [45]) ⟨(Lib.itoa (t : Int)).toArray⟩ w1 hI (by rw [str_size, Lib.byteCells_length, List.length_singleton]; omega) (by omega))
 have HB1 := hid hb1
 have HS1 := hid hs1
 clear hI hb1 hs1 hlt htop hc1 hc2 hct0 q0 q1
 go_wp2_with fail
 refine HW.out.mono ?_
 rintro e w2 ⟨rfl, hA2, hb2⟩
 have HA := hid (show TxtAtN w #[Value.bool true, Value.slice (some ⟨b, off, none⟩) (m + 1) cap] ds 0 w2 by
  refine ⟨?_, (HBOX.out.trans (HB1.out.mono (by have := HS0.out; omega))).trans hb2⟩
  rw [str_cells, ← Lib.byteCells_append] at hA2
  rw [txtN, HLEN.out, Nat.add_sub_cancel, ← HTT.out]
  exact hA2)
 clear hA2 hb2 HW
 go_wp2_with fail
 go_loopw [25] (fun i wr => ∃ k : Nat, k ≤ m ∧ i = .int .i64 k ∧ TxtAtN w #[Value.bool true, Value.slice (some ⟨b, off, none⟩) (m + 1) cap] ds k wr) (fun i _ => m - (intOf i).toNat)
 case atStart => exact ⟨0, Nat.zero_le _, rfl, HA.out⟩
 case round =>
  obtain ⟨k, hk, rfl, hT⟩ := hrel
  obtain ⟨hTA, hTB⟩ := hT
  have hwB : Below w.heap.size w wr := ((Below.refl _ w).alloc (Nat.le_refl _) _).trans (hTB.mono (Nat.le_succ _))
  have hsz : w.heap.size + 1 < wr.heap.size := hTA.lt
  have hml := HL.out
  by_cases hkm : k < m
  ·obtain ⟨j, hj⟩ : ∃ j, m = k + 1 + j := ⟨m - (k + 1), by omega⟩
   have hbox : wr.heap[w.heap.size]? = some (.cells #[Value.bool true, Value.slice (some ⟨b, off, none⟩) (m + 1) cap] 25 (0, 0)) := (hTB.block _ (Nat.lt_succ_self _)).trans (cellsNew w _ _ _)
   obtain ⟨c0, c1, -, -⟩ := cell2 hbox
   have hcj := keepCell hwB (HCE.out j (by omega))
   have hdj : ds.getD j 0 < 1000000000 := HD.out.getD _
   obtain ⟨d, hdd⟩ : ∃ d, d = ds.getD j 0 := ⟨_, rfl⟩
   rw [← hdd] at hcj hdj
   obtain ⟨hx1, hx2, hx4, hx5, hx6, q, hq, hx3, hq0, hq1⟩ := txt_facts m k j d hml hj hdj
   have HDD := hid hdd
   have HJ := hid hj
   have HTA := hid hTA
   have HTB := hid hTB
   have HWB := hid hwB
   have HSZ := hid hsz
   have HDJ := hid hdj
   have HK := hid hk
   have HKM := hid hkm
   have HI := itoa_any q hq0 hq1 wr (HT.out.keep hwB)
   have hlen := itoa_pos q
   have hlen2 := Lib.itoa_length_le q hq0 hq1
   obtain ⟨l, hll⟩ : ∃ l, l = Lib.itoa q := ⟨_, rfl⟩
   rw [← hll] at HI hlen hlen2
   have HLL := hid hll
   have HQ := hid hq
   have hsz2 : (0 : Int) ≤ 1 ∧ (1 : Int) ≤ ((ByteArray.mk l.toArray).size : Int) := by rw [str_size]; omega
   have HHI := hid HI
   have HLN := hid hlen
   have HLN2 := hid hlen2
   clear hml hbox hdd hj hTA hTB hwB hsz hdj hk hkm hll hq hq0 hq1 HI hlen hlen2
   go_wp2_with fail
   refine HHI.out.mono ?_
   rintro e w3 ⟨rfl, hb3⟩
   have HB3 := hid hb3
   clear hb3
   go_wp2_with fail
   rw [str_drop]
   have hlb := txtN_length ds HD.out k
   have hm1 := HL.out
   have hk1 := HKM.out
   have hl21 := HLN2.out
   refine (writeString_any (w.heap.size + 1) (w.heap.size + 1) (Lib.byteCells (45 :: txtN ds k)) ⟨(l.drop 1).toArray⟩ w3 (.inr (bld_kept HTA.out HB3.out)) (by rw [str_size, List.length_drop, Lib.byteCells_length, List.length_cons]; omega) (by have h1 := HB3.out.size; have h2 := HSZ.out; omega)).mono ?_
   rintro e w4 ⟨rfl, hA4, hb4⟩
   clear hlb hm1 hk1 hl21
   have HA4 := hid (show TxtAtN w #[Value.bool true, Value.slice (some ⟨b, off, none⟩) (m + 1) cap] ds (k + 1) w4 by
    refine ⟨?_, (HTB.out.trans (HB3.out.mono (by have := HSZ.out; omega))).trans hb4⟩
    rw [str_cells, ← Lib.byteCells_append] at hA4
    rw [txt_next HLEN.out HJ.out, ← HDD.out, ← HQ.out, ← HLL.out, ← List.cons_append]
    exact hA4)
   clear hA4 hb4 HHI HTA HTB
   go_wp2_with fail
   go_roundw
   case rel => exact ⟨k + 1, HKM.out, by go_num, HA4.out⟩
   case measure =>
    have e : (intOf (Value.int IntKind.i64 (wrap64 ((k : Int) + 1)))).toNat = k + 1 := by
     rw [hx4]
     rfl
    have h1 := HKM.out
    rw [e]
    exact txt_less h1
  ·obtain rfl : k = m := by omega
   have HTA := hid hTA
   have HTB := hid hTB
   have HWB := hid hwB
   have HSZ := hid hsz
   clear hTA hTB hwB hsz hml
   go_wp2_with fail
   refine (Tryz.Builder_String_any (w.heap.size + 1) (w.heap.size + 1) (45 :: txtN ds k) wr (.inr HTA.out) (by have := HSZ.out; omega)).mono ?_
   rintro e w3 ⟨rfl, hb3⟩
   go_wp2_with fail
   go_ret
   exact ⟨rfl, HWB.out.trans (hb3.mono (Nat.le_succ _))⟩
set_option maxRecDepth 100000 in
theorem lawSame_any (vx vy : Value) (x y : Int) (w : World) (hx : IntAt w vx x) (hy : IntAt w vy y) :
  Calls Tryz.prog 16 #[vx, vy] w (RetB w (decide (x = y))) := by
 obtain ⟨b, so, n, sc, rfl⟩ := hx.open
 obtain ⟨b2, so2, n2, sc2, rfl⟩ := hy.open
 have HB := hid (show Below w.heap.size w ((w.alloc (Obj.cells #[Value.bool b, Value.slice so n sc] 25)).alloc (Obj.cells #[Value.bool b2, Value.slice so2 n2 sc2] 25)) from ((Below.refl _ _).alloc (Nat.le_refl _) _).alloc (by simp) _)
 have HS := hid (Same_any _ _ x y _ (hx.keep HB.out) (hy.keep HB.out))
 clear hx hy
 go_enter Tryz.func16, Tryz.ntmps16
 go_wp2_with fail
 refine HS.out.mono ?_
 rintro e w1 ⟨rfl, hb1⟩
 go_wp2_with fail
 go_ret
 exact ⟨rfl, Pu.further HB.out hb1⟩

theorem dig_sq : dig 18446744073709551616 = [709551616, 446744073, 18] := by decide +kernel
theorem txt_sq : txtN [709551616, 446744073, 18] 2 = [49, 56, 52, 52, 54, 55, 52, 52, 48, 55, 51, 55, 48, 57, 53, 53, 49, 54, 49, 54] := by
 have e1 : Lib.itoa 18 = [49, 56] := by
  rw [Lib.itoa, if_neg (by decide), Lib.decDigits_eq, show Lib.nDigits (18 : Int).toNat = 2 from Lib.nDigits_unique 1 18 (by decide) (by decide)]
  decide +kernel
 have e2 : Lib.itoa 1446744073 = [49, 52, 52, 54, 55, 52, 52, 48, 55, 51] := by
  rw [Lib.itoa, if_neg (by decide), Lib.decDigits_eq, show Lib.nDigits (1446744073 : Int).toNat = 10 from Lib.nDigits_unique 9 1446744073 (by decide) (by decide)]
  decide +kernel
 have e3 : Lib.itoa 1709551616 = [49, 55, 48, 57, 53, 53, 49, 54, 49, 54] := by
  rw [Lib.itoa, if_neg (by decide), Lib.decDigits_eq, show Lib.nDigits (1709551616 : Int).toNat = 10 from Lib.nDigits_unique 9 1709551616 (by decide) (by decide)]
  decide +kernel
 show (Lib.itoa 18 ++ (Lib.itoa 1446744073).drop 1) ++ (Lib.itoa 1709551616).drop 1 = _
 rw [e1, e2, e3]
 rfl

theorem Text_sq (v : Value) (w : World) (hv : IntAt w v 18446744073709551616) (ht : Tab w) :
  Calls Tryz.prog 10 #[v] w fun e w' => e = .returned (.string ⟨#[49, 56, 52, 52, 54, 55, 52, 52, 48, 55, 51, 55, 48, 57, 53, 53, 49, 54, 49, 54]⟩) ∧ Below w.heap.size w w' := by
 have e0 : dig (18446744073709551616 : Int).natAbs = [709551616, 446744073, 18] := dig_sq
 have h := Text_pos v 18446744073709551616 w hv (by decide) (by rw [e0]; decide) ht
 rw [e0] at h
 refine h.mono ?_
 rintro e w' ⟨rfl, hb⟩
 refine ⟨?_, hb⟩
 rw [show [709551616, 446744073, 18].length - 1 = 2 from rfl, txt_sq]

theorem Div_m7_2 (vx vy : Value) (w : World) (hx : IntAt w vx (-7)) (hy : IntAt w vy 2) : Calls Tryz.prog 96 #[vx, vy] w (RetPair w (-4) 1) :=
 Div_of vx vy (-7) 2 w hx hy (by decide) (by decide) (by decide) fun w va vb ha hb => divide_two va vb 7 2 w ha hb (by decide) (by decide) (by decide)
theorem Div_7_m2 (vx vy : Value) (w : World) (hx : IntAt w vx 7) (hy : IntAt w vy (-2)) : Calls Tryz.prog 96 #[vx, vy] w (RetPair w (-3) 1) :=
 Div_of vx vy 7 (-2) w hx hy (by decide) (by decide) (by decide) fun w va vb ha hb => divide_two va vb 7 2 w ha hb (by decide) (by decide) (by decide)
theorem Root_10 (vx : Value) (w : World) (hx : IntAt w vx 10) : Calls Tryz.prog 100 #[vx] w (RetIB w 3 false) := by
 refine (Root_of vx 10 w hx (by decide) (by decide) fun w va h => squareRoot_two va 10 w h (by decide)).mono ?_
 rintro e w' ⟨r, h1, h2, h3⟩
 obtain rfl : r = 3 := sq_unique h1 h2 (by decide) (by decide)
 exact h3
theorem Small_sq (vx : Value) (w : World) (hx : IntAt w vx 18446744073709551616) : Calls Tryz.prog 99 #[vx] w (fun e w' => e = .returned (.tuple #[.int .i64 0, .bool false]) ∧ Below w.heap.size w w') := by
 refine (Small_big vx 18446744073709551616 w hx (by decide)).mono ?_
 rintro e w' ⟨rfl, h⟩
 exact ⟨rfl, h⟩
theorem three_new (w : World) : Nums (w.alloc (.cells #[.int .i64 709551616, .int .i64 446744073, .int .i64 18] 3)) (.slice (some ⟨w.heap.size, 0, none⟩) 3 3) [709551616, 446744073, 18] := by
 refine Nums.mk' rfl (Nat.le_refl _) (by decide) fun i hi => ?_
 rcases (show i = 0 ∨ i = 1 ∨ i = 2 by omega) with rfl | rfl | rfl
 all_goals exact cell_of_row _ _ _ _ _ _ (heap_alloc_new w _)
theorem int_sq {w : World} {s : Value} (h : Nums w s [709551616, 446744073, 18]) : IntAt w (.agg #[.bool false, s]) 18446744073709551616 := by
 refine ⟨s, rfl, ?_⟩
 rw [show dig (18446744073709551616 : Int).natAbs = [709551616, 446744073, 18] from dig_sq]
 exact h

theorem two_row (w : World) : Row .i64 (w.alloc (.cells #[.int .i64 (-1), .int .i64 5] 3)) (.slice (some ⟨w.heap.size, 0, none⟩) 2 2) [-1, 5] := by
 refine ⟨_, 2, rfl, Nat.le_refl _, by decide, fun _ => ⟨_, _, rfl, fun i hi => ?_⟩⟩
 have hi : i < 2 := hi
 rcases (show i = 0 ∨ i = 1 by omega) with rfl | rfl
 all_goals exact cell_of_row _ _ _ _ _ _ (heap_alloc_new w _)
theorem enc_m5 : encI (-5) = W.encInts [-1, 5] := by
 unfold encI
 rw [show cmpI (-5) 0 = -1 by decide, show dig (-5 : Int).natAbs = [5] by decide +kernel]
 rfl

set_option maxRecDepth 100000 in
set_option maxHeartbeats 2000000 in
theorem lives_any (w : World) (ht : Tab w) : Calls Tryz.prog 24 #[] w (RetB w true) := by
 have HT := hid ht
 clear ht
 go_enter Tryz.func24, Tryz.ntmps24
 have HB := hid (Below.refl w.heap.size w)
 go_wp2_with fail
 refine (Of_any (-7) _ (by decide) (by decide)).mono ?_
 rintro e u1 ⟨v1, rfl, h, hb⟩
 have HA := hid h
 replace HB := hid (Pu.further HB.out hb)
 replace HT := hid (HT.out.keep hb)
 clear h hb
 go_wp2_with fail
 refine (Of_any 2 _ (by decide) (by decide)).mono ?_
 rintro e u2 ⟨v2, rfl, h, hb⟩
 replace HA := hid (HA.out.keep hb)
 have HC := hid h
 replace HB := hid (Pu.further HB.out hb)
 replace HT := hid (HT.out.keep hb)
 clear h hb
 go_wp2_with fail
 refine (Div_m7_2 _ _ _ HA.out HC.out).mono ?_
 rintro e u3 ⟨_, _, rfl, h3, h4, hb⟩
 replace HA := hid (HA.out.keep hb)
 replace HC := hid (HC.out.keep hb)
 obtain ⟨b3, so3, n3, sc3, rfl⟩ := h3.open
 obtain ⟨b4, so4, n4, sc4, rfl⟩ := h4.open
 have H3 := hid h3
 have H4 := hid h4
 replace HB := hid (Pu.further HB.out hb)
 replace HT := hid (HT.out.keep hb)
 clear h3 h4 hb
 clear HA
 clear HC
 have hal := (show Below u3.heap.size u3 (u3.alloc (Obj.cells #[Value.bool b3, Value.slice so3 n3 sc3] 25)) from (Below.refl _ _).alloc (Nat.le_refl _) _)
 have hal2 := (show Below (u3.alloc (Obj.cells #[Value.bool b3, Value.slice so3 n3 sc3] 25)).heap.size (u3.alloc (Obj.cells #[Value.bool b3, Value.slice so3 n3 sc3] 25)) ((u3.alloc (Obj.cells #[Value.bool b3, Value.slice so3 n3 sc3] 25)).alloc (Obj.cells #[Value.bool b4, Value.slice so4 n4 sc4] 25)) from (Below.refl _ _).alloc (Nat.le_refl _) _)
 have C1 := hid ((IntCell.new H3.out).keep hal2)
 have hp := (IntCell.new (H4.out.keep hal))
 rw [show (u3.alloc (Obj.cells #[Value.bool b3, Value.slice so3 n3 sc3] 25)).heap.size = u3.heap.size + 1 by simp] at hp
 have C2 := hid hp
 replace HB := hid (Pu.further (Pu.further HB.out hal) hal2)
 replace HT := hid ((HT.out.keep hal).keep hal2)
 clear hal hal2 hp H3 H4
 go_wp2_with fail
 refine (Of_any 7 _ (by decide) (by decide)).mono ?_
 rintro e u4 ⟨v4, rfl, h, hb⟩
 replace C1 := hid (C1.out.keep hb)
 replace C2 := hid (C2.out.keep hb)
 have HA := hid h
 replace HB := hid (Pu.further HB.out hb)
 replace HT := hid (HT.out.keep hb)
 clear h hb
 go_wp2_with fail
 refine (Of_any (-2) _ (by decide) (by decide)).mono ?_
 rintro e u5 ⟨v5, rfl, h, hb⟩
 replace C1 := hid (C1.out.keep hb)
 replace C2 := hid (C2.out.keep hb)
 replace HA := hid (HA.out.keep hb)
 have HC := hid h
 replace HB := hid (Pu.further HB.out hb)
 replace HT := hid (HT.out.keep hb)
 clear h hb
 go_wp2_with fail
 refine (Div_7_m2 _ _ _ HA.out HC.out).mono ?_
 rintro e u6 ⟨_, _, rfl, h5, h6, hb⟩
 replace C1 := hid (C1.out.keep hb)
 replace C2 := hid (C2.out.keep hb)
 replace HA := hid (HA.out.keep hb)
 replace HC := hid (HC.out.keep hb)
 obtain ⟨b5, so5, n5, sc5, rfl⟩ := h5.open
 obtain ⟨b6, so6, n6, sc6, rfl⟩ := h6.open
 have H5 := hid h5
 have H6 := hid h6
 replace HB := hid (Pu.further HB.out hb)
 replace HT := hid (HT.out.keep hb)
 clear h5 h6 hb
 clear HA
 clear HC
 have hal := (show Below u6.heap.size u6 (u6.alloc (Obj.cells #[Value.bool b5, Value.slice so5 n5 sc5] 25)) from (Below.refl _ _).alloc (Nat.le_refl _) _)
 have hal2 := (show Below (u6.alloc (Obj.cells #[Value.bool b5, Value.slice so5 n5 sc5] 25)).heap.size (u6.alloc (Obj.cells #[Value.bool b5, Value.slice so5 n5 sc5] 25)) ((u6.alloc (Obj.cells #[Value.bool b5, Value.slice so5 n5 sc5] 25)).alloc (Obj.cells #[Value.bool b6, Value.slice so6 n6 sc6] 25)) from (Below.refl _ _).alloc (Nat.le_refl _) _)
 replace C1 := hid (C1.out.keep hal)
 replace C2 := hid (C2.out.keep hal)
 replace C1 := hid (C1.out.keep hal2)
 replace C2 := hid (C2.out.keep hal2)
 have C3 := hid ((IntCell.new H5.out).keep hal2)
 have hp := (IntCell.new (H6.out.keep hal))
 rw [show (u6.alloc (Obj.cells #[Value.bool b5, Value.slice so5 n5 sc5] 25)).heap.size = u6.heap.size + 1 by simp] at hp
 have C4 := hid hp
 replace HB := hid (Pu.further (Pu.further HB.out hal) hal2)
 replace HT := hid ((HT.out.keep hal).keep hal2)
 clear hal hal2 hp H5 H6
 go_wp2_with fail
 refine (Of_any 4294967296 _ (by decide) (by decide)).mono ?_
 rintro e u7 ⟨v7, rfl, h, hb⟩
 replace C1 := hid (C1.out.keep hb)
 replace C2 := hid (C2.out.keep hb)
 replace C3 := hid (C3.out.keep hb)
 replace C4 := hid (C4.out.keep hb)
 have HA := hid h
 replace HB := hid (Pu.further HB.out hb)
 replace HT := hid (HT.out.keep hb)
 clear h hb
 go_wp2_with fail
 refine (Of_any 4294967296 _ (by decide) (by decide)).mono ?_
 rintro e u8 ⟨v8, rfl, h, hb⟩
 replace C1 := hid (C1.out.keep hb)
 replace C2 := hid (C2.out.keep hb)
 replace C3 := hid (C3.out.keep hb)
 replace C4 := hid (C4.out.keep hb)
 replace HA := hid (HA.out.keep hb)
 have HC := hid h
 replace HB := hid (Pu.further HB.out hb)
 replace HT := hid (HT.out.keep hb)
 clear h hb
 go_wp2_with fail
 refine (Mul_any _ _ 4294967296 4294967296 _ HA.out HC.out (by decide) (by decide)).mono ?_
 rintro e u9 ⟨_, rfl, h7, hb⟩
 replace C1 := hid (C1.out.keep hb)
 replace C2 := hid (C2.out.keep hb)
 replace C3 := hid (C3.out.keep hb)
 replace C4 := hid (C4.out.keep hb)
 replace HA := hid (HA.out.keep hb)
 replace HC := hid (HC.out.keep hb)
 rw [show (4294967296 : Int) * 4294967296 = 18446744073709551616 by decide] at h7
 obtain ⟨b7, so7, n7, sc7, rfl⟩ := h7.open
 have H7 := hid h7
 replace HB := hid (Pu.further HB.out hb)
 replace HT := hid (HT.out.keep hb)
 clear h7 hb
 clear HA
 clear HC
 have hal := (show Below u9.heap.size u9 (u9.alloc (Obj.cells #[Value.bool b7, Value.slice so7 n7 sc7] 25)) from (Below.refl _ _).alloc (Nat.le_refl _) _)
 replace C1 := hid (C1.out.keep hal)
 replace C2 := hid (C2.out.keep hal)
 replace C3 := hid (C3.out.keep hal)
 replace C4 := hid (C4.out.keep hal)
 have C5 := hid (IntCell.new H7.out)
 replace H7 := hid (H7.out.keep hal)
 replace HB := hid (Pu.further HB.out hal)
 replace HT := hid (HT.out.keep hal)
 clear hal
 go_wp2_with fail
 refine (Small_sq _ _ H7.out).mono ?_
 rintro e u10 ⟨rfl, hb⟩
 replace C1 := hid (C1.out.keep hb)
 replace C2 := hid (C2.out.keep hb)
 replace C3 := hid (C3.out.keep hb)
 replace C4 := hid (C4.out.keep hb)
 replace C5 := hid (C5.out.keep hb)
 replace HB := hid (Pu.further HB.out hb)
 replace HT := hid (HT.out.keep hb)
 clear  hb
 clear H7
 go_wp2_with fail
 refine (Of_any 10 _ (by decide) (by decide)).mono ?_
 rintro e u11 ⟨v11, rfl, h, hb⟩
 replace C1 := hid (C1.out.keep hb)
 replace C2 := hid (C2.out.keep hb)
 replace C3 := hid (C3.out.keep hb)
 replace C4 := hid (C4.out.keep hb)
 replace C5 := hid (C5.out.keep hb)
 have HA := hid h
 replace HB := hid (Pu.further HB.out hb)
 replace HT := hid (HT.out.keep hb)
 clear h hb
 go_wp2_with fail
 refine (Root_10 _ _ HA.out).mono ?_
 rintro e u12 ⟨_, rfl, h8, hb⟩
 replace C1 := hid (C1.out.keep hb)
 replace C2 := hid (C2.out.keep hb)
 replace C3 := hid (C3.out.keep hb)
 replace C4 := hid (C4.out.keep hb)
 replace C5 := hid (C5.out.keep hb)
 replace HA := hid (HA.out.keep hb)
 obtain ⟨b8, so8, n8, sc8, rfl⟩ := h8.open
 have H8 := hid h8
 replace HB := hid (Pu.further HB.out hb)
 replace HT := hid (HT.out.keep hb)
 clear h8 hb
 clear HA
 have hal := (show Below u12.heap.size u12 (u12.alloc (Obj.cells #[Value.bool b8, Value.slice so8 n8 sc8] 25)) from (Below.refl _ _).alloc (Nat.le_refl _) _)
 replace C1 := hid (C1.out.keep hal)
 replace C2 := hid (C2.out.keep hal)
 replace C3 := hid (C3.out.keep hal)
 replace C4 := hid (C4.out.keep hal)
 replace C5 := hid (C5.out.keep hal)
 have C8 := hid (IntCell.new H8.out)
 replace H8 := hid (H8.out.keep hal)
 replace HB := hid (Pu.further HB.out hal)
 replace HT := hid (HT.out.keep hal)
 clear hal
 clear H8
 go_wp2_with fail
 refine (Parse_m0 _ ⟨#[45, 48]⟩ rfl).mono ?_
 rintro e u13 ⟨_, rfl, h10, hb⟩
 replace C1 := hid (C1.out.keep hb)
 replace C2 := hid (C2.out.keep hb)
 replace C3 := hid (C3.out.keep hb)
 replace C4 := hid (C4.out.keep hb)
 replace C5 := hid (C5.out.keep hb)
 replace C8 := hid (C8.out.keep hb)
 obtain ⟨b10, so10, n10, sc10, rfl⟩ := h10.open
 have H10 := hid h10
 replace HB := hid (Pu.further HB.out hb)
 replace HT := hid (HT.out.keep hb)
 clear h10 hb
 have hal := (show Below u13.heap.size u13 (u13.alloc (Obj.cells #[Value.bool b10, Value.slice so10 n10 sc10] 25)) from (Below.refl _ _).alloc (Nat.le_refl _) _)
 replace C1 := hid (C1.out.keep hal)
 replace C2 := hid (C2.out.keep hal)
 replace C3 := hid (C3.out.keep hal)
 replace C4 := hid (C4.out.keep hal)
 replace C5 := hid (C5.out.keep hal)
 replace C8 := hid (C8.out.keep hal)
 have C10 := hid (IntCell.new H10.out)
 replace H10 := hid (H10.out.keep hal)
 replace HB := hid (Pu.further HB.out hal)
 replace HT := hid (HT.out.keep hal)
 clear hal
 clear H10 C10
 go_wp2_with fail
 refine (Parse_01 _ ⟨#[48, 49]⟩ rfl).mono ?_
 rintro e u14 ⟨_, rfl, h12, hb⟩
 replace C1 := hid (C1.out.keep hb)
 replace C2 := hid (C2.out.keep hb)
 replace C3 := hid (C3.out.keep hb)
 replace C4 := hid (C4.out.keep hb)
 replace C5 := hid (C5.out.keep hb)
 replace C8 := hid (C8.out.keep hb)
 obtain ⟨b12, so12, n12, sc12, rfl⟩ := h12.open
 have H12 := hid h12
 replace HB := hid (Pu.further HB.out hb)
 replace HT := hid (HT.out.keep hb)
 clear h12 hb
 have hal := (show Below u14.heap.size u14 (u14.alloc (Obj.cells #[Value.bool b12, Value.slice so12 n12 sc12] 25)) from (Below.refl _ _).alloc (Nat.le_refl _) _)
 replace C1 := hid (C1.out.keep hal)
 replace C2 := hid (C2.out.keep hal)
 replace C3 := hid (C3.out.keep hal)
 replace C4 := hid (C4.out.keep hal)
 replace C5 := hid (C5.out.keep hal)
 replace C8 := hid (C8.out.keep hal)
 have C12 := hid (IntCell.new H12.out)
 replace H12 := hid (H12.out.keep hal)
 replace HB := hid (Pu.further HB.out hal)
 replace HT := hid (HT.out.keep hal)
 clear hal
 clear H12 C12
 go_upto_region 8 with fail
 generalize u14.alloc (Obj.cells #[Value.bool b12, Value.slice so12 n12 sc12] 25) = U at *
 rename_i hret
 refine Pu.wp_region_pure 19 (Slots [(49, .int ((-4))), (50, .int ((-4))), (51, .eq (.bool true)), (52, .eq (.bool true)), (53, .int (1)), (54, .int (1)), (55, .eq (.bool true)), (56, .eq (.bool true)), (57, .eq (.bool true)), (58, .int ((-3))), (59, .int ((-3))), (60, .eq (.bool true)), (61, .eq (.bool true)), (62, .eq (.bool true)), (63, .int (1)), (64, .int (1)), (65, .eq (.bool true)), (66, .eq (.bool true)), (14, .eq (.bool true))]) (by kernel_rfl) (by kernel_rfl) (by kernel_rfl) (fun hfn => absurd hfn (by decide)) (Slots.keep _) ?_ ?_ ?_
 ·intro L a w2 i o ho hne2 hL hdep hI
  have hi : i < 19 := (Array.getElem?_eq_some_iff.1 ho).1
  rcases (show i = 0 ∨ i = 1 ∨ i = 2 ∨ i = 3 ∨ i = 4 ∨ i = 5 ∨ i = 6 ∨ i = 7 ∨ i = 8 ∨ i = 9 ∨ i = 10 ∨ i = 11 ∨ i = 12 ∨ i = 13 ∨ i = 14 ∨ i = 15 ∨ i = 16 ∨ i = 17 ∨ i = 18 by omega) with rfl | rfl | rfl | rfl | rfl | rfl | rfl | rfl | rfl | rfl | rfl | rfl | rfl | rfl | rfl | rfl | rfl | rfl | rfl
  ·cases (Option.some.inj (show some _ = some o from ho))
   have h1 : a.tmps.getD 1 undef = .pointer (some ⟨u3.heap.size, 0, none⟩) := hI.free (t := 1) (by kernel_rfl)
   refine pstep rfl fun K hK => ?_
   refine wp_load_int (.tmp 1) rfl u3.heap.size (-4) h1 (C1.out.keep hI.below) ?_
   intro v hv hh
   exact hK _ _ (Below.refl _ _) (fun d hd => by cases hd; exact hv)
  ·cases (Option.some.inj (show some _ = some o from ho))
   refine pstep rfl fun K hK => ?_
   clear hdep hI ho hi
   go_simp
   refine (refOf_any (-4) _ (by decide) (by decide)).mono ?_
   rintro e w3 ⟨v3, rfl, hv3, hb3⟩
   exact hK _ _ hb3 (fun d hd => by cases hd; exact hv3)
  ·cases (Option.some.inj (show some _ = some o from ho))
   have h49 : IntAt w2 (a.tmps.getD 49 undef) ((-4)) := hI.slot (i := 0) (d := 49) (hdep ⟨0, .data⟩ (by simp) (by rfl)) rfl
   obtain ⟨x49, e49⟩ : ∃ x, a.tmps.getD 49 undef = x := ⟨_, rfl⟩
   rw [e49] at h49
   have h50 : IntAt w2 (a.tmps.getD 50 undef) ((-4)) := hI.slot (i := 1) (d := 50) (hdep ⟨1, .data⟩ (by simp) (by rfl)) rfl
   obtain ⟨x50, e50⟩ : ∃ x, a.tmps.getD 50 undef = x := ⟨_, rfl⟩
   rw [e50] at h50
   refine pstep rfl fun K hK => ?_
   clear hdep hI ho hi
   go_simp
   refine (lawSame_any x49 x50 _ _ _ h49 h50).mono ?_
   rintro e w3 ⟨rfl, hb3⟩
   exact hK _ _ hb3 (fun d hd => by cases hd; rfl)
  ·cases (Option.some.inj (show some _ = some o from ho))
   have h51 : a.tmps.getD 51 undef = .bool true := hI.slot (i := 2) (d := 51) (hdep ⟨2, .data⟩ (by simp) (by rfl)) rfl
   refine pstep rfl fun K hK => ?_
   clear hdep hI ho hi
   go_simp
   exact hK _ _ (Below.refl _ _) (fun d hd => by cases hd; rfl)
  ·cases (Option.some.inj (show some _ = some o from ho))
   have h2 : a.tmps.getD 2 undef = .pointer (some ⟨u3.heap.size + 1, 0, none⟩) := hI.free (t := 2) (by kernel_rfl)
   have hgd : a.tmps.getD 52 undef = .bool true := hI.slot (i := 3) (d := 52) (hdep ⟨3, .guard⟩ (by simp) (by rfl)) rfl
   refine pstep (wanted_of rfl (Pu.yielded_of rfl hgd)) fun K hK => ?_
   clear hgd
   refine wp_load_int (.tmp 2) rfl (u3.heap.size + 1) 1 h2 (C2.out.keep hI.below) ?_
   intro v hv hh
   exact hK _ _ (Below.refl _ _) (fun d hd => by cases hd; exact hv)
  ·cases (Option.some.inj (show some _ = some o from ho))
   have hgd : a.tmps.getD 52 undef = .bool true := hI.slot (i := 3) (d := 52) (hdep ⟨3, .guard⟩ (by simp) (by rfl)) rfl
   refine pstep (wanted_of rfl (Pu.yielded_of rfl hgd)) fun K hK => ?_
   clear hgd
   clear hdep hI ho hi
   go_simp
   refine (refOf_any 1 _ (by decide) (by decide)).mono ?_
   rintro e w3 ⟨v3, rfl, hv3, hb3⟩
   exact hK _ _ hb3 (fun d hd => by cases hd; exact hv3)
  ·cases (Option.some.inj (show some _ = some o from ho))
   have h53 : IntAt w2 (a.tmps.getD 53 undef) (1) := hI.slot (i := 4) (d := 53) (hdep ⟨4, .data⟩ (by simp) (by rfl)) rfl
   obtain ⟨x53, e53⟩ : ∃ x, a.tmps.getD 53 undef = x := ⟨_, rfl⟩
   rw [e53] at h53
   have h54 : IntAt w2 (a.tmps.getD 54 undef) (1) := hI.slot (i := 5) (d := 54) (hdep ⟨5, .data⟩ (by simp) (by rfl)) rfl
   obtain ⟨x54, e54⟩ : ∃ x, a.tmps.getD 54 undef = x := ⟨_, rfl⟩
   rw [e54] at h54
   have hgd : a.tmps.getD 52 undef = .bool true := hI.slot (i := 3) (d := 52) (hdep ⟨3, .guard⟩ (by simp) (by rfl)) rfl
   refine pstep (wanted_of rfl (Pu.yielded_of rfl hgd)) fun K hK => ?_
   clear hgd
   clear hdep hI ho hi
   go_simp
   refine (lawSame_any x53 x54 _ _ _ h53 h54).mono ?_
   rintro e w3 ⟨rfl, hb3⟩
   exact hK _ _ hb3 (fun d hd => by cases hd; rfl)
  ·cases (Option.some.inj (show some _ = some o from ho))
   have h52 : a.tmps.getD 52 undef = .bool true := hI.slot (i := 3) (d := 52) (hdep ⟨3, .data⟩ (by simp) (by rfl)) rfl
   have h55 : a.tmps.getD 55 undef = .bool true := hI.slot (i := 6) (d := 55) (hdep ⟨6, .data⟩ (by simp) (by rfl)) rfl
   refine pstep rfl fun K hK => ?_
   clear hdep hI ho hi
   go_simp
   exact hK _ _ (Below.refl _ _) (fun d hd => by cases hd; rfl)
  ·cases (Option.some.inj (show some _ = some o from ho))
   have h56 : a.tmps.getD 56 undef = .bool true := hI.slot (i := 7) (d := 56) (hdep ⟨7, .data⟩ (by simp) (by rfl)) rfl
   refine pstep rfl fun K hK => ?_
   clear hdep hI ho hi
   go_simp
   exact hK _ _ (Below.refl _ _) (fun d hd => by cases hd; rfl)
  ·cases (Option.some.inj (show some _ = some o from ho))
   have h3 : a.tmps.getD 3 undef = .pointer (some ⟨u6.heap.size, 0, none⟩) := hI.free (t := 3) (by kernel_rfl)
   have hgd : a.tmps.getD 57 undef = .bool true := hI.slot (i := 8) (d := 57) (hdep ⟨8, .guard⟩ (by simp) (by rfl)) rfl
   refine pstep (wanted_of rfl (Pu.yielded_of rfl hgd)) fun K hK => ?_
   clear hgd
   refine wp_load_int (.tmp 3) rfl u6.heap.size (-3) h3 (C3.out.keep hI.below) ?_
   intro v hv hh
   exact hK _ _ (Below.refl _ _) (fun d hd => by cases hd; exact hv)
  ·cases (Option.some.inj (show some _ = some o from ho))
   have hgd : a.tmps.getD 57 undef = .bool true := hI.slot (i := 8) (d := 57) (hdep ⟨8, .guard⟩ (by simp) (by rfl)) rfl
   refine pstep (wanted_of rfl (Pu.yielded_of rfl hgd)) fun K hK => ?_
   clear hgd
   clear hdep hI ho hi
   go_simp
   refine (refOf_any (-3) _ (by decide) (by decide)).mono ?_
   rintro e w3 ⟨v3, rfl, hv3, hb3⟩
   exact hK _ _ hb3 (fun d hd => by cases hd; exact hv3)
  ·cases (Option.some.inj (show some _ = some o from ho))
   have h58 : IntAt w2 (a.tmps.getD 58 undef) ((-3)) := hI.slot (i := 9) (d := 58) (hdep ⟨9, .data⟩ (by simp) (by rfl)) rfl
   obtain ⟨x58, e58⟩ : ∃ x, a.tmps.getD 58 undef = x := ⟨_, rfl⟩
   rw [e58] at h58
   have h59 : IntAt w2 (a.tmps.getD 59 undef) ((-3)) := hI.slot (i := 10) (d := 59) (hdep ⟨10, .data⟩ (by simp) (by rfl)) rfl
   obtain ⟨x59, e59⟩ : ∃ x, a.tmps.getD 59 undef = x := ⟨_, rfl⟩
   rw [e59] at h59
   have hgd : a.tmps.getD 57 undef = .bool true := hI.slot (i := 8) (d := 57) (hdep ⟨8, .guard⟩ (by simp) (by rfl)) rfl
   refine pstep (wanted_of rfl (Pu.yielded_of rfl hgd)) fun K hK => ?_
   clear hgd
   clear hdep hI ho hi
   go_simp
   refine (lawSame_any x58 x59 _ _ _ h58 h59).mono ?_
   rintro e w3 ⟨rfl, hb3⟩
   exact hK _ _ hb3 (fun d hd => by cases hd; rfl)
  ·cases (Option.some.inj (show some _ = some o from ho))
   have h57 : a.tmps.getD 57 undef = .bool true := hI.slot (i := 8) (d := 57) (hdep ⟨8, .data⟩ (by simp) (by rfl)) rfl
   have h60 : a.tmps.getD 60 undef = .bool true := hI.slot (i := 11) (d := 60) (hdep ⟨11, .data⟩ (by simp) (by rfl)) rfl
   refine pstep rfl fun K hK => ?_
   clear hdep hI ho hi
   go_simp
   exact hK _ _ (Below.refl _ _) (fun d hd => by cases hd; rfl)
  ·cases (Option.some.inj (show some _ = some o from ho))
   have h61 : a.tmps.getD 61 undef = .bool true := hI.slot (i := 12) (d := 61) (hdep ⟨12, .data⟩ (by simp) (by rfl)) rfl
   refine pstep rfl fun K hK => ?_
   clear hdep hI ho hi
   go_simp
   exact hK _ _ (Below.refl _ _) (fun d hd => by cases hd; rfl)
  ·cases (Option.some.inj (show some _ = some o from ho))
   have h4 : a.tmps.getD 4 undef = .pointer (some ⟨u6.heap.size + 1, 0, none⟩) := hI.free (t := 4) (by kernel_rfl)
   have hgd : a.tmps.getD 62 undef = .bool true := hI.slot (i := 13) (d := 62) (hdep ⟨13, .guard⟩ (by simp) (by rfl)) rfl
   refine pstep (wanted_of rfl (Pu.yielded_of rfl hgd)) fun K hK => ?_
   clear hgd
   refine wp_load_int (.tmp 4) rfl (u6.heap.size + 1) 1 h4 (C4.out.keep hI.below) ?_
   intro v hv hh
   exact hK _ _ (Below.refl _ _) (fun d hd => by cases hd; exact hv)
  ·cases (Option.some.inj (show some _ = some o from ho))
   have hgd : a.tmps.getD 62 undef = .bool true := hI.slot (i := 13) (d := 62) (hdep ⟨13, .guard⟩ (by simp) (by rfl)) rfl
   refine pstep (wanted_of rfl (Pu.yielded_of rfl hgd)) fun K hK => ?_
   clear hgd
   clear hdep hI ho hi
   go_simp
   refine (refOf_any 1 _ (by decide) (by decide)).mono ?_
   rintro e w3 ⟨v3, rfl, hv3, hb3⟩
   exact hK _ _ hb3 (fun d hd => by cases hd; exact hv3)
  ·cases (Option.some.inj (show some _ = some o from ho))
   have h63 : IntAt w2 (a.tmps.getD 63 undef) (1) := hI.slot (i := 14) (d := 63) (hdep ⟨14, .data⟩ (by simp) (by rfl)) rfl
   obtain ⟨x63, e63⟩ : ∃ x, a.tmps.getD 63 undef = x := ⟨_, rfl⟩
   rw [e63] at h63
   have h64 : IntAt w2 (a.tmps.getD 64 undef) (1) := hI.slot (i := 15) (d := 64) (hdep ⟨15, .data⟩ (by simp) (by rfl)) rfl
   obtain ⟨x64, e64⟩ : ∃ x, a.tmps.getD 64 undef = x := ⟨_, rfl⟩
   rw [e64] at h64
   have hgd : a.tmps.getD 62 undef = .bool true := hI.slot (i := 13) (d := 62) (hdep ⟨13, .guard⟩ (by simp) (by rfl)) rfl
   refine pstep (wanted_of rfl (Pu.yielded_of rfl hgd)) fun K hK => ?_
   clear hgd
   clear hdep hI ho hi
   go_simp
   refine (lawSame_any x63 x64 _ _ _ h63 h64).mono ?_
   rintro e w3 ⟨rfl, hb3⟩
   exact hK _ _ hb3 (fun d hd => by cases hd; rfl)
  ·cases (Option.some.inj (show some _ = some o from ho))
   have h62 : a.tmps.getD 62 undef = .bool true := hI.slot (i := 13) (d := 62) (hdep ⟨13, .data⟩ (by simp) (by rfl)) rfl
   have h65 : a.tmps.getD 65 undef = .bool true := hI.slot (i := 16) (d := 65) (hdep ⟨16, .data⟩ (by simp) (by rfl)) rfl
   refine pstep rfl fun K hK => ?_
   clear hdep hI ho hi
   go_simp
   exact hK _ _ (Below.refl _ _) (fun d hd => by cases hd; rfl)
  ·cases (Option.some.inj (show some _ = some o from ho))
   have h66 : a.tmps.getD 66 undef = .bool true := hI.slot (i := 17) (d := 66) (hdep ⟨17, .data⟩ (by simp) (by rfl)) rfl
   refine pstep rfl fun K hK => ?_
   clear hdep hI ho hi
   go_simp
   exact hK _ _ (Below.refl _ _) (fun d hd => by cases hd; rfl)
 ·intro L a w2 o ho
  exact absurd ho (by simp)
 ·intro _ L a w2 hall hI
  have h14 : a.tmps.getD 14 undef = .bool true := hI.slot (i := 18) (d := 14) (hall 18 (by decide)) rfl
  have HBL := hid hI.below
  refine hret _ _ ?_
  have hf := hI.frame [49, 50, 51, 52, 53, 54, 55, 56, 57, 58, 59, 60, 61, 62, 63, 64, 65, 66, 14] (by kernel_rfl)
  simp only [List.foldl_cons, List.foldl_nil] at hf
  clear hI hall
  generalize a.tmps.getD 49 undef = y49 at *
  generalize a.tmps.getD 50 undef = y50 at *
  generalize a.tmps.getD 51 undef = y51 at *
  generalize a.tmps.getD 52 undef = y52 at *
  generalize a.tmps.getD 53 undef = y53 at *
  generalize a.tmps.getD 54 undef = y54 at *
  generalize a.tmps.getD 55 undef = y55 at *
  generalize a.tmps.getD 56 undef = y56 at *
  generalize a.tmps.getD 57 undef = y57 at *
  generalize a.tmps.getD 58 undef = y58 at *
  generalize a.tmps.getD 59 undef = y59 at *
  generalize a.tmps.getD 60 undef = y60 at *
  generalize a.tmps.getD 61 undef = y61 at *
  generalize a.tmps.getD 62 undef = y62 at *
  generalize a.tmps.getD 63 undef = y63 at *
  generalize a.tmps.getD 64 undef = y64 at *
  generalize a.tmps.getD 65 undef = y65 at *
  generalize a.tmps.getD 66 undef = y66 at *
  generalize a.tmps.getD 14 undef = y14 at *
  subst hf
  subst h14
  go_simp
  replace C5 := hid (C5.out.keep HBL.out)
  replace C8 := hid (C8.out.keep HBL.out)
  replace HT := hid (HT.out.keep HBL.out)
  replace HB := hid (Pu.further HB.out HBL.out)
  clear C1 C2 C3 C4 HBL
  go_upto_region 9 with fail
  rename_i hret
  have HQ := hid (show ((⟨#[49, 56, 52, 52, 54, 55, 52, 52, 48, 55, 51, 55, 48, 57, 53, 53, 49, 54, 49, 54]⟩ : ByteArray).toList == [49, 56, 52, 52, 54, 55, 52, 52, 48, 55, 51, 55, 48, 57, 53, 53, 49, 54, 49, 54]) = true by decide +kernel)
  refine Pu.wp_region_pure 23 (Slots [(67, .int (18446744073709551616)), (68, .nums ([709551616, 446744073, 18])), (69, .int (18446744073709551616)), (70, .eq (.bool true)), (71, .eq (.bool true)), (72, .int (18446744073709551616)), (73, .eq (.string ⟨#[49, 56, 52, 52, 54, 55, 52, 52, 48, 55, 51, 55, 48, 57, 53, 53, 49, 54, 49, 54]⟩)), (74, .eq (.bool true)), (75, .eq (.bool true)), (76, .eq (.bool true)), (77, .eq (.bool false)), (78, .eq (.bool true)), (79, .eq (.bool true)), (80, .eq (.bool true)), (81, .int (3)), (82, .int (3)), (83, .eq (.bool true)), (84, .eq (.bool true)), (85, .eq (.bool true)), (86, .eq (.bool false)), (87, .eq (.bool true)), (88, .eq (.bool true)), (15, .eq (.bool true))]) (by kernel_rfl) (by kernel_rfl) (by kernel_rfl) (fun hfn => absurd hfn (by decide)) (Slots.keep _) ?_ ?_ ?_
  ·intro L a w2 i o ho hne2 hL hdep hI
   have hi : i < 23 := (Array.getElem?_eq_some_iff.1 ho).1
   rcases (show i = 0 ∨ i = 1 ∨ i = 2 ∨ i = 3 ∨ i = 4 ∨ i = 5 ∨ i = 6 ∨ i = 7 ∨ i = 8 ∨ i = 9 ∨ i = 10 ∨ i = 11 ∨ i = 12 ∨ i = 13 ∨ i = 14 ∨ i = 15 ∨ i = 16 ∨ i = 17 ∨ i = 18 ∨ i = 19 ∨ i = 20 ∨ i = 21 ∨ i = 22 by omega) with rfl | rfl | rfl | rfl | rfl | rfl | rfl | rfl | rfl | rfl | rfl | rfl | rfl | rfl | rfl | rfl | rfl | rfl | rfl | rfl | rfl | rfl | rfl
   ·cases (Option.some.inj (show some _ = some o from ho))
    have h5 : a.tmps.getD 5 undef = .pointer (some ⟨u9.heap.size, 0, none⟩) := hI.free (t := 5) (by kernel_rfl)
    refine pstep rfl fun K hK => ?_
    refine wp_load_int (.tmp 5) rfl u9.heap.size 18446744073709551616 h5 (C5.out.keep hI.below) ?_
    intro v hv hh
    exact hK _ _ (Below.refl _ _) (fun d hd => by cases hd; exact hv)
   ·cases (Option.some.inj (show some _ = some o from ho))
    refine pstep rfl fun K hK => ?_
    clear hdep hI ho hi
    go_simp
    exact hK (.slice (some ⟨w2.heap.size, 0, none⟩) 3 3) (w2.alloc (.cells #[.int .i64 709551616, .int .i64 446744073, .int .i64 18] 3)) ((Below.refl _ _).alloc (Nat.le_refl _) _) (fun d hd => by cases hd; exact three_new w2)
   ·cases (Option.some.inj (show some _ = some o from ho))
    have h68 : Nums w2 (a.tmps.getD 68 undef) ([709551616, 446744073, 18]) := hI.slot (i := 1) (d := 68) (hdep ⟨1, .data⟩ (by simp) (by rfl)) rfl
    obtain ⟨x68, e68⟩ : ∃ x, a.tmps.getD 68 undef = x := ⟨_, rfl⟩
    rw [e68] at h68
    obtain ⟨ao, cap, rfl, -, -, -⟩ := id h68
    have g68 : (a.tmps[68]?).getD undef = .slice ao [709551616, 446744073, 18].length cap := by rw [← Array.getD_eq_getD_getElem?]; exact e68
    refine pstep rfl fun K hK => ?_
    clear hdep hI ho hi
    go_simp
    exact hK _ _ (Below.refl _ _) (fun d hd => by cases hd; exact int_sq h68)
   ·cases (Option.some.inj (show some _ = some o from ho))
    have h67 : IntAt w2 (a.tmps.getD 67 undef) (18446744073709551616) := hI.slot (i := 0) (d := 67) (hdep ⟨0, .data⟩ (by simp) (by rfl)) rfl
    obtain ⟨x67, e67⟩ : ∃ x, a.tmps.getD 67 undef = x := ⟨_, rfl⟩
    rw [e67] at h67
    have h69 : IntAt w2 (a.tmps.getD 69 undef) (18446744073709551616) := hI.slot (i := 2) (d := 69) (hdep ⟨2, .data⟩ (by simp) (by rfl)) rfl
    obtain ⟨x69, e69⟩ : ∃ x, a.tmps.getD 69 undef = x := ⟨_, rfl⟩
    rw [e69] at h69
    refine pstep rfl fun K hK => ?_
    clear hdep hI ho hi
    go_simp
    refine (lawSame_any x67 x69 _ _ _ h67 h69).mono ?_
    rintro e w3 ⟨rfl, hb3⟩
    exact hK _ _ hb3 (fun d hd => by cases hd; rfl)
   ·cases (Option.some.inj (show some _ = some o from ho))
    have h70 : a.tmps.getD 70 undef = .bool true := hI.slot (i := 3) (d := 70) (hdep ⟨3, .data⟩ (by simp) (by rfl)) rfl
    refine pstep rfl fun K hK => ?_
    clear hdep hI ho hi
    go_simp
    exact hK _ _ (Below.refl _ _) (fun d hd => by cases hd; rfl)
   ·cases (Option.some.inj (show some _ = some o from ho))
    have h5 : a.tmps.getD 5 undef = .pointer (some ⟨u9.heap.size, 0, none⟩) := hI.free (t := 5) (by kernel_rfl)
    have hgd : a.tmps.getD 71 undef = .bool true := hI.slot (i := 4) (d := 71) (hdep ⟨4, .guard⟩ (by simp) (by rfl)) rfl
    refine pstep (wanted_of rfl (Pu.yielded_of rfl hgd)) fun K hK => ?_
    clear hgd
    refine wp_load_int (.tmp 5) rfl u9.heap.size 18446744073709551616 h5 (C5.out.keep hI.below) ?_
    intro v hv hh
    exact hK _ _ (Below.refl _ _) (fun d hd => by cases hd; exact hv)
   ·cases (Option.some.inj (show some _ = some o from ho))
    have h72 : IntAt w2 (a.tmps.getD 72 undef) (18446744073709551616) := hI.slot (i := 5) (d := 72) (hdep ⟨5, .data⟩ (by simp) (by rfl)) rfl
    obtain ⟨x72, e72⟩ : ∃ x, a.tmps.getD 72 undef = x := ⟨_, rfl⟩
    rw [e72] at h72
    have hgd : a.tmps.getD 71 undef = .bool true := hI.slot (i := 4) (d := 71) (hdep ⟨4, .guard⟩ (by simp) (by rfl)) rfl
    have htab := HT.out.keep hI.below
    refine pstep (wanted_of rfl (Pu.yielded_of rfl hgd)) fun K hK => ?_
    clear hgd
    clear hdep hI ho hi
    go_simp
    refine (Text_sq x72 _ h72 htab).mono ?_
    rintro e w3 ⟨rfl, hb3⟩
    exact hK _ _ hb3 (fun d hd => by cases hd; rfl)
   ·cases (Option.some.inj (show some _ = some o from ho))
    have h73 : a.tmps.getD 73 undef = .string ⟨#[49, 56, 52, 52, 54, 55, 52, 52, 48, 55, 51, 55, 48, 57, 53, 53, 49, 54, 49, 54]⟩ := hI.slot (i := 6) (d := 73) (hdep ⟨6, .data⟩ (by simp) (by rfl)) rfl
    have hgd : a.tmps.getD 71 undef = .bool true := hI.slot (i := 4) (d := 71) (hdep ⟨4, .guard⟩ (by simp) (by rfl)) rfl
    have hq := HQ.out
    refine pstep (wanted_of rfl (Pu.yielded_of rfl hgd)) fun K hK => ?_
    clear hgd
    clear hdep hI ho hi
    go_simp
    exact hK _ _ (Below.refl _ _) (fun d hd => by cases hd; rfl)
   ·cases (Option.some.inj (show some _ = some o from ho))
    have h71 : a.tmps.getD 71 undef = .bool true := hI.slot (i := 4) (d := 71) (hdep ⟨4, .data⟩ (by simp) (by rfl)) rfl
    have h74 : a.tmps.getD 74 undef = .bool true := hI.slot (i := 7) (d := 74) (hdep ⟨7, .data⟩ (by simp) (by rfl)) rfl
    refine pstep rfl fun K hK => ?_
    clear hdep hI ho hi
    go_simp
    exact hK _ _ (Below.refl _ _) (fun d hd => by cases hd; rfl)
   ·cases (Option.some.inj (show some _ = some o from ho))
    have h75 : a.tmps.getD 75 undef = .bool true := hI.slot (i := 8) (d := 75) (hdep ⟨8, .data⟩ (by simp) (by rfl)) rfl
    refine pstep rfl fun K hK => ?_
    clear hdep hI ho hi
    go_simp
    exact hK _ _ (Below.refl _ _) (fun d hd => by cases hd; rfl)
   ·cases (Option.some.inj (show some _ = some o from ho))
    have h7 : a.tmps.getD 7 undef = .bool false := hI.free (t := 7) (by kernel_rfl)
    have hgd : a.tmps.getD 76 undef = .bool true := hI.slot (i := 9) (d := 76) (hdep ⟨9, .guard⟩ (by simp) (by rfl)) rfl
    refine pstep (wanted_of rfl (Pu.yielded_of rfl hgd)) fun K hK => ?_
    clear hgd
    clear hdep hI ho hi
    go_simp
    exact hK _ _ (Below.refl _ _) (fun d hd => by cases hd; rfl)
   ·cases (Option.some.inj (show some _ = some o from ho))
    have h77 : a.tmps.getD 77 undef = .bool false := hI.slot (i := 10) (d := 77) (hdep ⟨10, .data⟩ (by simp) (by rfl)) rfl
    have hgd : a.tmps.getD 76 undef = .bool true := hI.slot (i := 9) (d := 76) (hdep ⟨9, .guard⟩ (by simp) (by rfl)) rfl
    refine pstep (wanted_of rfl (Pu.yielded_of rfl hgd)) fun K hK => ?_
    clear hgd
    clear hdep hI ho hi
    go_simp
    exact hK _ _ (Below.refl _ _) (fun d hd => by cases hd; rfl)
   ·cases (Option.some.inj (show some _ = some o from ho))
    have h76 : a.tmps.getD 76 undef = .bool true := hI.slot (i := 9) (d := 76) (hdep ⟨9, .data⟩ (by simp) (by rfl)) rfl
    have h78 : a.tmps.getD 78 undef = .bool true := hI.slot (i := 11) (d := 78) (hdep ⟨11, .data⟩ (by simp) (by rfl)) rfl
    refine pstep rfl fun K hK => ?_
    clear hdep hI ho hi
    go_simp
    exact hK _ _ (Below.refl _ _) (fun d hd => by cases hd; rfl)
   ·cases (Option.some.inj (show some _ = some o from ho))
    have h79 : a.tmps.getD 79 undef = .bool true := hI.slot (i := 12) (d := 79) (hdep ⟨12, .data⟩ (by simp) (by rfl)) rfl
    refine pstep rfl fun K hK => ?_
    clear hdep hI ho hi
    go_simp
    exact hK _ _ (Below.refl _ _) (fun d hd => by cases hd; rfl)
   ·cases (Option.some.inj (show some _ = some o from ho))
    have h8 : a.tmps.getD 8 undef = .pointer (some ⟨u12.heap.size, 0, none⟩) := hI.free (t := 8) (by kernel_rfl)
    have hgd : a.tmps.getD 80 undef = .bool true := hI.slot (i := 13) (d := 80) (hdep ⟨13, .guard⟩ (by simp) (by rfl)) rfl
    refine pstep (wanted_of rfl (Pu.yielded_of rfl hgd)) fun K hK => ?_
    clear hgd
    refine wp_load_int (.tmp 8) rfl u12.heap.size 3 h8 (C8.out.keep hI.below) ?_
    intro v hv hh
    exact hK _ _ (Below.refl _ _) (fun d hd => by cases hd; exact hv)
   ·cases (Option.some.inj (show some _ = some o from ho))
    have hgd : a.tmps.getD 80 undef = .bool true := hI.slot (i := 13) (d := 80) (hdep ⟨13, .guard⟩ (by simp) (by rfl)) rfl
    refine pstep (wanted_of rfl (Pu.yielded_of rfl hgd)) fun K hK => ?_
    clear hgd
    clear hdep hI ho hi
    go_simp
    refine (refOf_any 3 _ (by decide) (by decide)).mono ?_
    rintro e w3 ⟨v3, rfl, hv3, hb3⟩
    exact hK _ _ hb3 (fun d hd => by cases hd; exact hv3)
   ·cases (Option.some.inj (show some _ = some o from ho))
    have h81 : IntAt w2 (a.tmps.getD 81 undef) (3) := hI.slot (i := 14) (d := 81) (hdep ⟨14, .data⟩ (by simp) (by rfl)) rfl
    obtain ⟨x81, e81⟩ : ∃ x, a.tmps.getD 81 undef = x := ⟨_, rfl⟩
    rw [e81] at h81
    have h82 : IntAt w2 (a.tmps.getD 82 undef) (3) := hI.slot (i := 15) (d := 82) (hdep ⟨15, .data⟩ (by simp) (by rfl)) rfl
    obtain ⟨x82, e82⟩ : ∃ x, a.tmps.getD 82 undef = x := ⟨_, rfl⟩
    rw [e82] at h82
    have hgd : a.tmps.getD 80 undef = .bool true := hI.slot (i := 13) (d := 80) (hdep ⟨13, .guard⟩ (by simp) (by rfl)) rfl
    refine pstep (wanted_of rfl (Pu.yielded_of rfl hgd)) fun K hK => ?_
    clear hgd
    clear hdep hI ho hi
    go_simp
    refine (lawSame_any x81 x82 _ _ _ h81 h82).mono ?_
    rintro e w3 ⟨rfl, hb3⟩
    exact hK _ _ hb3 (fun d hd => by cases hd; rfl)
   ·cases (Option.some.inj (show some _ = some o from ho))
    have h80 : a.tmps.getD 80 undef = .bool true := hI.slot (i := 13) (d := 80) (hdep ⟨13, .data⟩ (by simp) (by rfl)) rfl
    have h83 : a.tmps.getD 83 undef = .bool true := hI.slot (i := 16) (d := 83) (hdep ⟨16, .data⟩ (by simp) (by rfl)) rfl
    refine pstep rfl fun K hK => ?_
    clear hdep hI ho hi
    go_simp
    exact hK _ _ (Below.refl _ _) (fun d hd => by cases hd; rfl)
   ·cases (Option.some.inj (show some _ = some o from ho))
    have h84 : a.tmps.getD 84 undef = .bool true := hI.slot (i := 17) (d := 84) (hdep ⟨17, .data⟩ (by simp) (by rfl)) rfl
    refine pstep rfl fun K hK => ?_
    clear hdep hI ho hi
    go_simp
    exact hK _ _ (Below.refl _ _) (fun d hd => by cases hd; rfl)
   ·cases (Option.some.inj (show some _ = some o from ho))
    have h9 : a.tmps.getD 9 undef = .bool false := hI.free (t := 9) (by kernel_rfl)
    have hgd : a.tmps.getD 85 undef = .bool true := hI.slot (i := 18) (d := 85) (hdep ⟨18, .guard⟩ (by simp) (by rfl)) rfl
    refine pstep (wanted_of rfl (Pu.yielded_of rfl hgd)) fun K hK => ?_
    clear hgd
    clear hdep hI ho hi
    go_simp
    exact hK _ _ (Below.refl _ _) (fun d hd => by cases hd; rfl)
   ·cases (Option.some.inj (show some _ = some o from ho))
    have h86 : a.tmps.getD 86 undef = .bool false := hI.slot (i := 19) (d := 86) (hdep ⟨19, .data⟩ (by simp) (by rfl)) rfl
    have hgd : a.tmps.getD 85 undef = .bool true := hI.slot (i := 18) (d := 85) (hdep ⟨18, .guard⟩ (by simp) (by rfl)) rfl
    refine pstep (wanted_of rfl (Pu.yielded_of rfl hgd)) fun K hK => ?_
    clear hgd
    clear hdep hI ho hi
    go_simp
    exact hK _ _ (Below.refl _ _) (fun d hd => by cases hd; rfl)
   ·cases (Option.some.inj (show some _ = some o from ho))
    have h85 : a.tmps.getD 85 undef = .bool true := hI.slot (i := 18) (d := 85) (hdep ⟨18, .data⟩ (by simp) (by rfl)) rfl
    have h87 : a.tmps.getD 87 undef = .bool true := hI.slot (i := 20) (d := 87) (hdep ⟨20, .data⟩ (by simp) (by rfl)) rfl
    refine pstep rfl fun K hK => ?_
    clear hdep hI ho hi
    go_simp
    exact hK _ _ (Below.refl _ _) (fun d hd => by cases hd; rfl)
   ·cases (Option.some.inj (show some _ = some o from ho))
    have h88 : a.tmps.getD 88 undef = .bool true := hI.slot (i := 21) (d := 88) (hdep ⟨21, .data⟩ (by simp) (by rfl)) rfl
    refine pstep rfl fun K hK => ?_
    clear hdep hI ho hi
    go_simp
    exact hK _ _ (Below.refl _ _) (fun d hd => by cases hd; rfl)
  ·intro L a w2 o ho
   exact absurd ho (by simp)
  ·intro _ L a w2 hall hI
   have h15 : a.tmps.getD 15 undef = .bool true := hI.slot (i := 22) (d := 15) (hall 22 (by decide)) rfl
   have HBL := hid hI.below
   refine hret _ _ ?_
   have hf := hI.frame [67, 68, 69, 70, 71, 72, 73, 74, 75, 76, 77, 78, 79, 80, 81, 82, 83, 84, 85, 86, 87, 88, 15] (by kernel_rfl)
   simp only [List.foldl_cons, List.foldl_nil] at hf
   clear hI hall
   generalize a.tmps.getD 67 undef = y67 at *
   generalize a.tmps.getD 68 undef = y68 at *
   generalize a.tmps.getD 69 undef = y69 at *
   generalize a.tmps.getD 70 undef = y70 at *
   generalize a.tmps.getD 71 undef = y71 at *
   generalize a.tmps.getD 72 undef = y72 at *
   generalize a.tmps.getD 73 undef = y73 at *
   generalize a.tmps.getD 74 undef = y74 at *
   generalize a.tmps.getD 75 undef = y75 at *
   generalize a.tmps.getD 76 undef = y76 at *
   generalize a.tmps.getD 77 undef = y77 at *
   generalize a.tmps.getD 78 undef = y78 at *
   generalize a.tmps.getD 79 undef = y79 at *
   generalize a.tmps.getD 80 undef = y80 at *
   generalize a.tmps.getD 81 undef = y81 at *
   generalize a.tmps.getD 82 undef = y82 at *
   generalize a.tmps.getD 83 undef = y83 at *
   generalize a.tmps.getD 84 undef = y84 at *
   generalize a.tmps.getD 85 undef = y85 at *
   generalize a.tmps.getD 86 undef = y86 at *
   generalize a.tmps.getD 87 undef = y87 at *
   generalize a.tmps.getD 88 undef = y88 at *
   generalize a.tmps.getD 15 undef = y15 at *
   subst hf
   subst h15
   go_simp
   replace HB := hid (Pu.further HB.out HBL.out)
   clear C5 C8 HBL HT HQ
   go_wp2_with fail
   refine (Of_any (-5) _ (by decide) (by decide)).mono ?_
   rintro e z1 ⟨v15, rfl, h15, hb⟩
   have H15 := hid h15
   replace HB := hid (Pu.further HB.out hb)
   clear h15 hb
   go_wp2_with fail
   refine (Encode_any _ (-5) _ H15.out (by decide)).mono ?_
   rintro e z2 ⟨v16, rfl, h16, hb⟩
   obtain ⟨ao16, cap16, rfl, -, -, -⟩ := id h16
   have H16 := hid h16
   replace HB := hid (Pu.further HB.out hb)
   clear h16 hb H15
   go_wp2_with fail
   have hal := (show Below z2.heap.size z2 (z2.alloc (Obj.cells #[Value.int IntKind.i64 (-1), Value.int IntKind.i64 5] 3)) from (Below.refl _ _).alloc (Nat.le_refl _) _)
   replace H16 := hid (H16.out.keep hal)
   replace HB := hid (Pu.further HB.out hal)
   clear hal
   refine (refInts_row _ [-1, 5] _ (two_row z2) (by decide) (by decide)).mono ?_
   rintro e z3 ⟨v17, rfl, h17, hb⟩
   obtain ⟨ao17, cap17, rfl, -, -, -⟩ := id h17
   have HS := hid (sameBytes_yes _ _ (W.encInts [-1, 5]) z3 (by have h := H16.out.keep hb; rw [enc_m5] at h; exact h) h17)
   have HE := hid (show (encI (-5)).length = (W.encInts [-1, 5]).length by rw [enc_m5])
   replace HB := hid (Pu.further HB.out hb)
   clear h17 hb H16
   rw [HE.out]
   go_wp2_with fail
   refine HS.out.mono ?_
   rintro e z4 ⟨rfl, hb⟩
   replace HB := hid (Pu.further HB.out hb)
   clear hb
   go_wp2_with fail
   go_ret
   exact ⟨rfl, HB.out⟩
end Zn
end Go.Proofs.YtpgiebimhnhbiaaGreatDoor
