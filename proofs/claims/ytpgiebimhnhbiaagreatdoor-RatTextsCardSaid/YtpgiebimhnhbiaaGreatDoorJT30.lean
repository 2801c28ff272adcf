/-
  Contract of integer's Text, of a number above zero.
  A builder's WriteByte.
  Contract of integer's Text, of any number.
  What layer 4's examples come to: contracts at the examples' numbers.
  Layer 4's examples hold.
-/
import Derived.Test.YtpgiebimhnhbiaaGreatDoorJT29
import Derived.Lib.AppendIntMem
import Derived.Lib.ItoaLen
set_option linter.unusedVariables false
set_option linter.unusedSimpArgs false
set_option linter.unusedSectionVars false
namespace Go.Proofs.YtpgiebimhnhbiaaGreatDoor
open Go.RowKit
open Go.Lib (hid)
open Dg
namespace Zn
theorem gPow : Tryz.prog.globalNamed "internal/strconv.uint64pow10" = some 3 := by kernel_rfl
def Tab (w : World) : Prop := Lib.TabIs Tryz.prog w "internal/strconv.uint64pow10" .u64 Lib.pow10Tab
theorem Tab.keep {w w' : World} (h : Tab w) (hb : Below w.heap.size w w') : Tab w' := by
 unfold Tab Lib.TabIs World.var? at h ⊢
 simp only [gPow, Option.bind_some] at h ⊢
 have hl : 3 < w.heap.size := by
  rcases Nat.lt_or_ge 3 w.heap.size with h1 | h1
  ·exact h1
  ·rw [Array.getElem?_eq_none (by omega)] at h; cases h
 rw [hb.block _ hl]
 exact h

theorem bld_kept {B b : Nat} {p : Value} {bs : List Value} {w w' : World} (h : Lib.BuilderAt 78 5 B b p bs w) (hb : Below w.heap.size w w') : Lib.BuilderAt 78 5 B b p bs w' := by
 obtain ⟨h1, v, h2, h3, h4⟩ := h
 exact ⟨h1, v, heapKeep hb h2, owned_kept h3 hb, h4⟩

theorem itoa_any (n : Int) (h0 : -9223372036854775808 ≤ n) (h1 : n ≤ 9223372036854775807) (w : World) (ht : Tab w) :
  Calls Tryz.prog 81 #[.int .i64 n] w fun e w' => e = .returned (.string ⟨(Lib.itoa n).toArray⟩) ∧ Below w.heap.size w w' := by
 refine (Tryz.strconv_Itoa n h0 h1 w ht).mono ?_
 rintro e w' ⟨rfl, k, os, rfl⟩
 exact ⟨rfl, Lib.below_grow _ w (Nat.le_refl _) k os⟩

def txtN (ds : List Nat) : Nat → List UInt8
 | 0 => Lib.itoa ((ds.getD (ds.length - 1) 0 : Nat) : Int)
 | i + 1 => txtN ds i ++ (Lib.itoa (1000000000 + ((ds.getD (ds.length - 2 - i) 0 : Nat) : Int))).drop 1
theorem txtN_length (ds : List Nat) (hd : Dig ds) (i : Nat) : (txtN ds i).length ≤ 21 * (i + 1) := by
 have hdd := fun j => hd.getD j
 induction i with
 | zero =>
  have h1 := hdd (ds.length - 1)
  exact Lib.itoa_length_le _ (by omega) (by omega)
 | succ i ih =>
  have h1 := hdd (ds.length - 2 - i)
  have := Lib.itoa_length_le (1000000000 + ((ds.getD (ds.length - 2 - i) 0 : Nat) : Int)) (by omega) (by omega)
  simp only [txtN, List.length_append, List.length_drop]
  omega

theorem isb_kept {B b : Nat} {bs : List Value} {w w' : World} (h : Lib.IsBuilder 78 5 B b bs w) (hb : Below w.heap.size w w') : Lib.IsBuilder 78 5 B b bs w' := by
 rcases h with h | h
 ·exact .inl (bld_kept h hb)
 ·exact .inr (bld_kept h hb)
theorem str_cells (l : List UInt8) : Lib.strCells ⟨l.toArray⟩ = Lib.byteCells l := by simp [Lib.strCells, Lib.byteCells]
theorem str_size (l : List UInt8) : (ByteArray.mk l.toArray).size = l.length := by simp [ByteArray.size]
theorem itoa_pos (n : Int) : 1 ≤ (Lib.itoa n).length := by
 unfold Lib.itoa
 split
 ·simp
 ·rw [Lib.decDigits_length]; exact Lib.nDigits_pos _

theorem wr64 (n : Int) (h0 : -9223372036854775808 ≤ n) (h1 : n ≤ 9223372036854775807) : wrap64 n = n := by unfold wrap64; omega
theorem txt_facts (m k j d : Nat) (hm : m + 1 ≤ 1099511627776) (hj : m = k + 1 + j) (hd : d < 1000000000) :
  wrap64 ((m : Int) - 1) = m - 1 ∧ wrap64 ((m : Int) - 1 - k) = j ∧ wrap64 ((k : Int) + 1) = k + 1 ∧ (j : Int) < m + 1 ∧ (k : Int) < m ∧ ∃ q : Int, q = 1000000000 + (d : Int) ∧ wrap64 (1000000000 + (d : Int)) = q ∧ -9223372036854775808 ≤ q ∧ q ≤ 9223372036854775807 := by
 subst hj
 refine ⟨wr64 _ (by omega) (by omega), (wr64 _ (by omega) (by omega)).trans (by omega), wr64 _ (by omega) (by omega), by omega, by omega, _, rfl, wr64 _ (by omega) (by omega), by omega, by omega⟩
theorem str_drop (l : List UInt8) : (ByteArray.mk l.toArray).extract 1 l.length = ⟨(l.drop 1).toArray⟩ := by
 apply ByteArray.ext
 rw [ByteArray.data_extract]
 simp [List.take_of_length_le]
theorem txt_next {ds : List Nat} {m k j : Nat} (h : ds.length = m + 1) (hj : m = k + 1 + j) : txtN ds (k + 1) = txtN ds k ++ (Lib.itoa (1000000000 + ((ds.getD j 0 : Nat) : Int))).drop 1 := by
 rw [txtN, h, show m + 1 - 2 - k = j by omega]
theorem txt_less {m k : Nat} (h : k < m) : m - (k + 1) < m - (intOf (Value.int IntKind.i64 (k : Int))).toNat := by
 simp [intOf]
 omega
def TxtAt (w : World) (box : Array Value) (ds : List Nat) (k : Nat) (wr : World) : Prop :=
 Lib.BuilderAt 78 5 (w.heap.size + 1) (w.heap.size + 1) (.pointer (some ⟨w.heap.size + 1, 0, none⟩)) (Lib.byteCells (txtN ds k)) wr ∧ Below (w.heap.size + 1) (w.alloc (.cells box 25)) wr

set_option maxHeartbeats 2000000 in
set_option maxRecDepth 100000 in
theorem Text_pos (v : Value) (z : Int) (w : World) (hv : IntAt w v z) (hz : 0 < z) (hl : (dig z.natAbs).length ≤ 1099511627776) (ht : Tab w) :
  Calls Tryz.prog 10 #[v] w fun e w' => e = .returned (.string ⟨(txtN (dig z.natAbs) ((dig z.natAbs).length - 1)).toArray⟩) ∧ Below w.heap.size w w' := by
 obtain ⟨s, rfl, hs⟩ := hv
 have hneg : decide (z < 0) = false := decide_eq_false (by omega)
 rw [hneg]
 have hn0 : dig z.natAbs ≠ [] := by
  intro h
  rw [dig_eq_nil] at h
  omega
 have hD := dig_Dig z.natAbs
 generalize dig z.natAbs = ds at *
 obtain ⟨m, hm⟩ : ∃ m, ds.length = m + 1 := ⟨ds.length - 1, by have := List.length_pos_iff.2 hn0; omega⟩
 obtain ⟨ao, cap, rfl, hc1, hc2, hc3⟩ := hs
 obtain ⟨b, off, rfl, hc⟩ := hc3 (by omega)
 rw [hm] at hc hc1 hl
 have hwr : wrap64 (m : Int) = m := wr64 _ (by omega) (by omega)
 have hz1 : ((m : Int) + 1 == 0) = false := by rw [beq_eq_false_iff_ne]; omega
 have HB0 := hid (show Below w.heap.size w ((w.alloc (Obj.cells #[Value.bool false, Value.slice (some ⟨b, off, none⟩) (m + 1) cap] 25)).alloc (Obj.cells #[Value.pointer none, Value.slice none 0 0] 78)) from ((Below.refl _ _).alloc (Nat.le_refl _) _).alloc (by simp) _)
 have hct := keepCell HB0.out (hc m (by omega))
 have htop : ds.getD m 0 < 1000000000 := hD.getD _
 obtain ⟨t, htt⟩ : ∃ t, t = ds.getD m 0 := ⟨_, rfl⟩
 rw [← htt] at hct htop
 have HTT := hid htt
 have HCE := hid hc
 have HLEN := hid hm
 have HD := hid hD
 have HT := hid ht
 have HL := hid hl
 rw [hm]
 have HTOP := hid htop
 have HC1 := hid hc1
 have HC2 := hid hc2
 clear hc3 hc htt hn0 hneg hz hm hD ht hl
 go_enter Tryz.func10, Tryz.ntmps10
 go_wp2_with fail
 refine (itoa_any (t : Int) (by omega) (by omega) _ (HT.out.keep HB0.out)).mono ?_
 rintro e w1 ⟨rfl, hb1⟩
 have hI := isb_kept (Lib.fresh_isBuilder 78 5 (w.alloc (Obj.cells #[Value.bool false, Value.slice (some ⟨b, off, none⟩) (m + 1) cap] 25))) hb1
 have hs1 : w.heap.size + 2 ≤ w1.heap.size := by have := hb1.size; simp at this; omega
 rw [show (w.alloc (Obj.cells #[Value.bool false, Value.slice (some ⟨b, off, none⟩) (m + 1) cap] 25)).heap.size = w.heap.size + 1 by simp] at hI
 have hlt := Lib.itoa_length_le (t : Int) (by omega) (by omega)
 have HW := hid (writeString_any _ _ [] ⟨(Lib.itoa (t : Int)).toArray⟩ w1 hI (by rw [str_size, List.length_nil]; omega) (by omega))
 have HB1 := hid hb1
 have HS1 := hid hs1
 clear hI hb1 hs1 hlt htop hc1 hc2 hct
 go_wp2_with fail
 refine HW.out.mono ?_
 rintro e w2 ⟨rfl, hA2, hb2⟩
 have HA := hid (show TxtAt w #[Value.bool false, Value.slice (some ⟨b, off, none⟩) (m + 1) cap] ds 0 w2 by
  refine ⟨?_, (((Below.refl _ _).alloc (by simp) _).trans (HB1.out.mono (by simp))).trans hb2⟩
  rw [List.nil_append, str_cells] at hA2
  rw [txtN, HLEN.out, Nat.add_sub_cancel, ← HTT.out]
  exact hA2)
 clear hA2 hb2 HW
 go_wp2_with fail
 go_loopw [25] (fun i wr => ∃ k : Nat, k ≤ m ∧ i = .int .i64 k ∧ TxtAt w #[Value.bool false, Value.slice (some ⟨b, off, none⟩) (m + 1) cap] ds k wr) (fun i _ => m - (intOf i).toNat)
 case atStart => exact ⟨0, Nat.zero_le _, rfl, HA.out⟩
 case round =>
  obtain ⟨k, hk, rfl, hT⟩ := hrel
  obtain ⟨hTA, hTB⟩ := hT
  have hwB : Below w.heap.size w wr := ((Below.refl _ w).alloc (Nat.le_refl _) _).trans (hTB.mono (Nat.le_succ _))
  have hsz : w.heap.size + 1 < wr.heap.size := hTA.lt
  have hml := HL.out
  by_cases hkm : k < m
  ·obtain ⟨j, hj⟩ : ∃ j, m = k + 1 + j := ⟨m - (k + 1), by omega⟩
   have hbox : wr.heap[w.heap.size]? = some (.cells #[Value.bool false, Value.slice (some ⟨b, off, none⟩) (m + 1) cap] 25 (0, 0)) := (hTB.block _ (Nat.lt_succ_self _)).trans (cellsNew w _ _ _)
   obtain ⟨c0, c1, -, -⟩ := cell2 hbox
   have hcj := keepCell hwB (HCE.out j (by omega))
   have hdj : ds.getD j 0 < 1000000000 := HD.out.getD _
   obtain ⟨d, hdd⟩ : ∃ d, d = ds.getD j 0 := ⟨_, rfl⟩
   rw [← hdd] at hcj hdj
   obtain ⟨hx1, hx2, hx4, hx5, hx6, q, hq, hx3, hq0, hq1⟩ := txt_facts m k j d hml hj hdj
   have HDD := hid hdd
   have HJ := hid hj
   have HTA := hid hTA
   have HTB := hid hTB
   have HWB := hid hwB
   have HSZ := hid hsz
   have HDJ := hid hdj
   have HK := hid hk
   have HKM := hid hkm
   have HI := itoa_any q hq0 hq1 wr (HT.out.keep hwB)
   have hlen := itoa_pos q
   have hlen2 := Lib.itoa_length_le q hq0 hq1
   obtain ⟨l, hll⟩ : ∃ l, l = Lib.itoa q := ⟨_, rfl⟩
   rw [← hll] at HI hlen hlen2
   have HLL := hid hll
   have HQ := hid hq
   have hsz2 : (0 : Int) ≤ 1 ∧ (1 : Int) ≤ ((ByteArray.mk l.toArray).size : Int) := by rw [str_size]; omega
   have HHI := hid HI
   have HLN := hid hlen
   have HLN2 := hid hlen2
   clear hml hbox hdd hj hTA hTB hwB hsz hdj hk hkm hll hq hq0 hq1 HI hlen hlen2
   go_wp2_with fail
   refine HHI.out.mono ?_
   rintro e w3 ⟨rfl, hb3⟩
   have HB3 := hid hb3
   clear hb3
   go_wp2_with fail
   rw [str_drop]
   have hlb := txtN_length ds HD.out k
   have hm1 := HL.out
   have hk1 := HKM.out
   have hl21 := HLN2.out
   refine (writeString_any (w.heap.size + 1) (w.heap.size + 1) (Lib.byteCells (txtN ds k)) ⟨(l.drop 1).toArray⟩ w3 (.inr (bld_kept HTA.out HB3.out)) (by rw [str_size, List.length_drop, Lib.byteCells_length]; omega) (by have h1 := HB3.out.size; have h2 := HSZ.out; omega)).mono ?_
   rintro e w4 ⟨rfl, hA4, hb4⟩
   clear hlb hm1 hk1 hl21
   have HA4 := hid (show TxtAt w #[Value.bool false, Value.slice (some ⟨b, off, none⟩) (m + 1) cap] ds (k + 1) w4 by
    refine ⟨?_, (HTB.out.trans (HB3.out.mono (by have := HSZ.out; omega))).trans hb4⟩
    rw [str_cells, ← Lib.byteCells_append] at hA4
    rw [txt_next HLEN.out HJ.out, ← HDD.out, ← HQ.out, ← HLL.out]
    exact hA4)
   clear hA4 hb4 HHI HTA HTB
   go_wp2_with fail
   go_roundw
   case rel => exact ⟨k + 1, HKM.out, by go_num, HA4.out⟩
   case measure =>
    have e : (intOf (Value.int IntKind.i64 (wrap64 ((k : Int) + 1)))).toNat = k + 1 := by
     rw [hx4]
     rfl
    have h1 := HKM.out
    rw [e]
    exact txt_less h1
  ·obtain rfl : k = m := by omega
   have HTA := hid hTA
   have HTB := hid hTB
   have HWB := hid hwB
   have HSZ := hid hsz
   clear hTA hTB hwB hsz hml
   go_wp2_with fail
   refine (Tryz.Builder_String_any (w.heap.size + 1) (w.heap.size + 1) (txtN ds k) wr (.inr HTA.out) (by have := HSZ.out; omega)).mono ?_
   rintro e w3 ⟨rfl, hb3⟩
   go_wp2_with fail
   go_ret
   exact ⟨rfl, HWB.out.trans (hb3.mono (Nat.le_succ _))⟩
set_option maxHeartbeats 2000000 in
set_option maxRecDepth 100000 in
theorem writeByte_any (B b : Nat) (bs : List Value) (u : Int) (w : World) (h : Lib.IsBuilder 78 5 B b bs w) (hlen : bs.length + 1 ≤ 140737488355328) (hBw : B ≤ w.heap.size) :
  Calls Tryz.prog 79 #[.pointer (some ⟨b, 0, none⟩), .int .u8 u] w fun e w' => e = .returned .nilIface ∧ (Lib.BuilderAt 78 5 B b (.pointer (some ⟨b, 0, none⟩)) (bs ++ [.int .u8 u]) w' ∧ Below B w w') := by
 obtain ⟨i0, hi, hz0, hz1, hz2⟩ := info_parts Tryz.byte_info
 go_enter Tryz.func79, Tryz.ntmps79
 go_wp2_with fail
 refine (copyCheck_any B b bs _ h).mono ?_
 rintro e w1 ⟨rfl, h1, hb1⟩
 obtain ⟨hB, v, hbk, hown, hne⟩ := h1
 have c0 : w1.cell? ⟨b, 0, none⟩ = some (.pointer (some ⟨b, 0, none⟩)) := by rw [Lib.cell_of_heap hbk]; rfl
 have c1 : w1.cell? ⟨b, 1, none⟩ = some v := by rw [Lib.cell_of_heap hbk]; rfl
 go_wp2_with (at_builtin; refine wpList_append_own _ rfl _ _ 23 rfl B 5 i0 (.int .u8 0) 1 1 Tryz.underlying23 hi hz0 hz1 hz2 rfl (by decide) _ _ _ rfl (World.ownsRow.alloc hown _) ⟨w1.heap.size, 0, none⟩ 1 1 [.int .u8 u] rfl rfl ?c1 (by simp [Value.oneCell']) ?c3 ?c4 ?c5 ?_)
 case c1 =>
  intro j x hj
  cases j with
  | zero =>
   obtain rfl := Option.some.inj hj
   rw [Addr.add_lit, cell_of_row _ _ _ _ _ _ (heap_alloc_new w1 _)]
   rfl
  | succ j => cases hj
 case c3 => unfold maxLen; omega
 case c4 => omega
 case c5 => have := hb1.size; simp; omega
 intro v' w2 hown' hgrow _
 have hlt : b < w1.heap.size := by
  rcases Nat.lt_or_ge b w1.heap.size with h' | h'
  ·exact h'
  ·simp [Array.getElem?_eq_none h'] at hbk
 have hbk' : (w1.alloc (.cells #[.int .u8 u] 5)).heap[b]? = some (.cells #[.pointer (some ⟨b, 0, none⟩), v] 78 (0, 0)) := by
  rw [Below.heap_alloc w1 _ b hlt]
  exact hbk
 have hb2 : w2.heap[b]? = some (.cells #[.pointer (some ⟨b, 0, none⟩), v] 78 (0, 0)) := by
  rw [hgrow.block b (by simp; omega) (fun e => hne e.symm)]
  exact hbk'
 have d0 : w2.cell? ⟨b, 0, none⟩ = some (.pointer (some ⟨b, 0, none⟩)) := by rw [Lib.cell_of_heap hb2]; rfl
 have d1 : w2.cell? ⟨b, 1, none⟩ = some v := by rw [Lib.cell_of_heap hb2]; rfl
 have f1 : w2.frozen? ⟨b, 1, none⟩ = false := Lib.frozen_of_heap hb2 1
 obtain ⟨ao, n', cap, rfl⟩ := slice_of hown'
 go_wp2
 go_ret
 refine ⟨rfl, ?_, ?_⟩
 ·exact Lib.BuilderAt.put (T := 78) (e := 5) hB hb2 (bs' := bs ++ [.int .u8 u]) (by simpa using hown') (by decide)
 ·exact ((hb1.alloc (by have := hb1.size; omega) _).grown hgrow (by have := hb1.size; simp; omega) (fun k hk => (hown.lt k hk).1)).setCell (p := ⟨b, 1, none⟩) hB _
def TxtAtN (w : World) (box : Array Value) (ds : List Nat) (k : Nat) (wr : World) : Prop :=
 Lib.BuilderAt 78 5 (w.heap.size + 1) (w.heap.size + 1) (.pointer (some ⟨w.heap.size + 1, 0, none⟩)) (Lib.byteCells (45 :: txtN ds k)) wr ∧ Below (w.heap.size + 1) (w.alloc (.cells box 25)) wr

set_option maxHeartbeats 2000000 in
set_option maxRecDepth 100000 in
theorem Text_neg (v : Value) (z : Int) (w : World) (hv : IntAt w v z) (hz : z < 0) (hl : (dig z.natAbs).length ≤ 1099511627776) (ht : Tab w) :
  Calls Tryz.prog 10 #[v] w fun e w' => e = .returned (.string ⟨(45 :: txtN (dig z.natAbs) ((dig z.natAbs).length - 1)).toArray⟩) ∧ Below w.heap.size w w' := by
 obtain ⟨s, rfl, hs⟩ := hv
 have hneg : decide (z < 0) = true := decide_eq_true hz
 rw [hneg]
 have hn0 : dig z.natAbs ≠ [] := by
  intro h
  rw [dig_eq_nil] at h
  omega
 have hD := dig_Dig z.natAbs
 generalize dig z.natAbs = ds at *
 obtain ⟨m, hm⟩ : ∃ m, ds.length = m + 1 := ⟨ds.length - 1, by have := List.length_pos_iff.2 hn0; omega⟩
 obtain ⟨ao, cap, rfl, hc1, hc2, hc3⟩ := hs
 obtain ⟨b, off, rfl, hc⟩ := hc3 (by omega)
 rw [hm] at hc hc1 hl
 have hwr : wrap64 (m : Int) = m := wr64 _ (by omega) (by omega)
 have hz1 : ((m : Int) + 1 == 0) = false := by rw [beq_eq_false_iff_ne]; omega
 have HB0 := hid (show Below w.heap.size w ((w.alloc (Obj.cells #[Value.bool true, Value.slice (some ⟨b, off, none⟩) (m + 1) cap] 25)).alloc (Obj.cells #[Value.pointer none, Value.slice none 0 0] 78)) from ((Below.refl _ _).alloc (Nat.le_refl _) _).alloc (by simp) _)
 have hct := keepCell HB0.out (hc m (by omega))
 have htop : ds.getD m 0 < 1000000000 := hD.getD _
 obtain ⟨t, htt⟩ : ∃ t, t = ds.getD m 0 := ⟨_, rfl⟩
 rw [← htt] at hct htop
 have HTT := hid htt
 have HCE := hid hc
 have HLEN := hid hm
 have HD := hid hD
 have HT := hid ht
 have HL := hid hl
 rw [hm]
 have HTOP := hid htop
 have HC1 := hid hc1
 have HC2 := hid hc2
 clear hc3 hc htt hn0 hneg hz hm hD ht hl
 go_enter Tryz.func10, Tryz.ntmps10
 go_wp2_with fail
 have hI0 := Lib.fresh_isBuilder 78 5 (w.alloc (Obj.cells #[Value.bool true, Value.slice (some ⟨b, off, none⟩) (m + 1) cap] 25))
 rw [show (w.alloc (Obj.cells #[Value.bool true, Value.slice (some ⟨b, off, none⟩) (m + 1) cap] 25)).heap.size = w.heap.size + 1 by simp] at hI0
 have HW0 := hid (writeByte_any _ _ [] 45 _ hI0 (by simp) (by simp))
 clear hI0
 refine HW0.out.mono ?_
 rintro e w0 ⟨rfl, hA0, hb0⟩
 have hbw : Below w.heap.size w w0 := HB0.out.trans (hb0.mono (by omega))
 have hs0 : w.heap.size + 2 ≤ w0.heap.size := by have := hb0.size; simp at this; omega
 have hbox0 : Below (w.heap.size + 1) (w.alloc (Obj.cells #[Value.bool true, Value.slice (some ⟨b, off, none⟩) (m + 1) cap] 25)) w0 := ((Below.refl _ _).alloc (by simp) _).trans hb0
 have c1 := (HB0.out.trans (hb0.mono (Nat.le_succ _)))
 have hbox : w0.heap[w.heap.size]? = some (.cells #[Value.bool true, Value.slice (some ⟨b, off, none⟩) (m + 1) cap] 25 (0, 0)) := (hbox0.block _ (Nat.lt_succ_self _)).trans (cellsNew w _ _ _)
 obtain ⟨q0, q1, -, -⟩ := cell2 hbox
 have hct0 := keepCell hbw (HCE.out m (by omega))
 rw [← HTT.out] at hct0
 have HBW := hid hbw
 have HS0 := hid hs0
 have HBOX := hid hbox0
 have HA0 := hid hA0
 clear hb0 hA0 hbw hs0 hbox0 c1 hbox HW0 hct
 go_wp2_with fail
 refine (itoa_any (t : Int) (by omega) (by omega) _ (HT.out.keep HBW.out)).mono ?_
 rintro e w1 ⟨rfl, hb1⟩
 have hI : Lib.IsBuilder 78 5 (w.heap.size + 1) (w.heap.size + 1) (Lib.byteCells [45]) w1 := isb_kept (.inr HA0.out) hb1
 have hs1 : w.heap.size + 2 ≤ w1.heap.size := by have := hb1.size; have := HS0.out; omega
 have hlt := Lib.itoa_length_le (t : Int) (by omega) (by omega)
 have HW := hid (writeString_any _ _ (Lib.byteCells [45]) ⟨(Lib.itoa (t : Int)).toArray⟩ w1 hI (by rw [str_size, Lib.byteCells_length, List.length_singleton]; omega) (by omega))
 have HB1 := hid hb1
 have HS1 := hid hs1
 clear hI hb1 hs1 hlt htop hc1 hc2 hct0 q0 q1
 go_wp2_with fail
 refine HW.out.mono ?_
 rintro e w2 ⟨rfl, hA2, hb2⟩
 have HA := hid (show TxtAtN w #[Value.bool true, Value.slice (some ⟨b, off, none⟩) (m + 1) cap] ds 0 w2 by
  refine ⟨?_, (HBOX.out.trans (HB1.out.mono (by have := HS0.out; omega))).trans hb2⟩
  rw [str_cells, ← Lib.byteCells_append] at hA2
  rw [txtN, HLEN.out, Nat.add_sub_cancel, ← HTT.out]
  exact hA2)
 clear hA2 hb2 HW
 go_wp2_with fail
 go_loopw [25] (fun i wr => ∃ k : Nat, k ≤ m ∧ i = .int .i64 k ∧ TxtAtN w #[Value.bool true, Value.slice (some ⟨b, off, none⟩) (m + 1) cap] ds k wr) (fun i _ => m - (intOf i).toNat)
 case atStart => exact ⟨0, Nat.zero_le _, rfl, HA.out⟩
 case round =>
  obtain ⟨k, hk, rfl, hT⟩ := hrel
  obtain ⟨hTA, hTB⟩ := hT
  have hwB : Below w.heap.size w wr := ((Below.refl _ w).alloc (Nat.le_refl _) _).trans (hTB.mono (Nat.le_succ _))
  have hsz : w.heap.size + 1 < wr.heap.size := hTA.lt
  have hml := HL.out
  by_cases hkm : k < m
  ·obtain ⟨j, hj⟩ : ∃ j, m = k + 1 + j := ⟨m - (k + 1), by omega⟩
   have hbox : wr.heap[w.heap.size]? = some (.cells #[Value.bool true, Value.slice (some ⟨b, off, none⟩) (m + 1) cap] 25 (0, 0)) := (hTB.block _ (Nat.lt_succ_self _)).trans (cellsNew w _ _ _)
   obtain ⟨c0, c1, -, -⟩ := cell2 hbox
   have hcj := keepCell hwB (HCE.out j (by omega))
   have hdj : ds.getD j 0 < 1000000000 := HD.out.getD _
   obtain ⟨d, hdd⟩ : ∃ d, d = ds.getD j 0 := ⟨_, rfl⟩
   rw [← hdd] at hcj hdj
   obtain ⟨hx1, hx2, hx4, hx5, hx6, q, hq, hx3, hq0, hq1⟩ := txt_facts m k j d hml hj hdj
   have HDD := hid hdd
   have HJ := hid hj
   have HTA := hid hTA
   have HTB := hid hTB
   have HWB := hid hwB
   have HSZ := hid hsz
   have HDJ := hid hdj
   have HK := hid hk
   have HKM := hid hkm
   have HI := itoa_any q hq0 hq1 wr (HT.out.keep hwB)
   have hlen := itoa_pos q
   have hlen2 := Lib.itoa_length_le q hq0 hq1
   obtain ⟨l, hll⟩ : ∃ l, l = Lib.itoa q := ⟨_, rfl⟩
   rw [← hll] at HI hlen hlen2
   have HLL := hid hll
   have HQ := hid hq
   have hsz2 : (0 : Int) ≤ 1 ∧ (1 : Int) ≤ ((ByteArray.mk l.toArray).size : Int) := by rw [str_size]; omega
   have HHI := hid HI
   have HLN := hid hlen
   have HLN2 := hid hlen2
   clear hml hbox hdd hj hTA hTB hwB hsz hdj hk hkm hll hq hq0 hq1 HI hlen hlen2
   go_wp2_with fail
   refine HHI.out.mono ?_
   rintro e w3 ⟨rfl, hb3⟩
   have HB3 := hid hb3
   clear hb3
   go_wp2_with fail
   rw [str_drop]
   have hlb := txtN_length ds HD.out k
   have hm1 := HL.out
   have hk1 := HKM.out
   have hl21 := HLN2.out
   refine (writeString_any (w.heap.size + 1) (w.heap.size + 1) (Lib.byteCells (45 :: txtN ds k)) ⟨(l.drop 1).toArray⟩ w3 (.inr (bld_kept HTA.out HB3.out)) (by rw [str_size, List.length_drop, Lib.byteCells_length, List.length_cons]; omega) (by have h1 := HB3.out.size; have h2 := HSZ.out; omega)).mono ?_
   rintro e w4 ⟨rfl, hA4, hb4⟩
   clear hlb hm1 hk1 hl21
   have HA4 := hid (show TxtAtN w #[Value.bool true, Value.slice (some ⟨b, off, none⟩) (m + 1) cap] ds (k + 1) w4 by
    refine ⟨?_, (HTB.out.trans (HB3.out.mono (by have := HSZ.out; omega))).trans hb4⟩
    rw [str_cells, ← Lib.byteCells_append] at hA4
    rw [txt_next HLEN.out HJ.out, ← HDD.out, ← HQ.out, ← HLL.out, ← List.cons_append]
    exact hA4)
   clear hA4 hb4 HHI HTA HTB
   go_wp2_with fail
   go_roundw
   case rel => exact ⟨k + 1, HKM.out, by go_num, HA4.out⟩
   case measure =>
    have e : (intOf (Value.int IntKind.i64 (wrap64 ((k : Int) + 1)))).toNat = k + 1 := by
     rw [hx4]
     rfl
    have h1 := HKM.out
    rw [e]
    exact txt_less h1
  ·obtain rfl : k = m := by omega
   have HTA := hid hTA
   have HTB := hid hTB
   have HWB := hid hwB
   have HSZ := hid hsz
   clear hTA hTB hwB hsz hml
   go_wp2_with fail
   refine (Tryz.Builder_String_any (w.heap.size + 1) (w.heap.size + 1) (45 :: txtN ds k) wr (.inr HTA.out) (by have := HSZ.out; omega)).mono ?_
   rintro e w3 ⟨rfl, hb3⟩
   go_wp2_with fail
   go_ret
   exact ⟨rfl, HWB.out.trans (hb3.mono (Nat.le_succ _))⟩
end Zn
end Go.Proofs.YtpgiebimhnhbiaaGreatDoor
