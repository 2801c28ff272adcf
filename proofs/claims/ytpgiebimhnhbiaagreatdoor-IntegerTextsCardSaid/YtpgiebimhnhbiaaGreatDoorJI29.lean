/-
  Contracts of gantry/integer: numeral and Parse, for two texts that are none of an integer.
  Contracts of what integer's Text writes with: a builder's WriteByte and WriteString.
-/
import Derived.Test.YtpgiebimhnhbiaaGreatDoorJI28
import Derived.Lib.ConvBytes
import Derived.Test.YtpgiebimhnhbiaaGreatDoorJI13
set_option linter.unusedVariables false
set_option linter.unusedSimpArgs false
set_option linter.unusedSectionVars false
namespace Go.Proofs.YtpgiebimhnhbiaaGreatDoor
open Go.RowKit
open Go.Lib (hid)
open Dg
namespace Zn
theorem bw_below (w : World) (E : TypeId) (s : ByteArray) : Below w.heap.size w (Lib.bytesWorld w E s) :=
 ⟨rfl, rfl, rfl, by rw [Lib.bytesWorld_size]; omega, fun k hk => Lib.bytesWorld_at_old w E s k hk⟩

def RetIE (w : World) (z e : Int) (ed : Ending) (w' : World) : Prop := ∃ s, ed = .returned (.tuple #[s, .int .i64 e]) ∧ IntAt w' s z ∧ Below w.heap.size w w'

set_option maxRecDepth 100000 in
set_option maxHeartbeats 1000000 in
theorem numeral_0 (w : World) (s : ByteArray) (hs : s = ⟨#[48]⟩) : Calls Tryz.prog 84 #[.string s] w (RetB w true) := by
 have hz : s.size = 1 := by rw [hs]; rfl
 have hb : (s.data.toList.getD 0 0).toNat = 48 := by rw [hs]; rfl
 have hq : (s.toList == [48]) = true := by rw [hs]; decide +kernel
 have hHs := hid hs
 clear hs
 have hcv := Lib.run_convert_string_bytes (P := Tryz.prog) w 9 23 5 s (u := .string) Tryz.underlying9 Tryz.underlying23 Tryz.underlying5
 have HB := hid (bw_below w 5 s)
 have hc := Lib.bytesWorld_cell w 5 s 0 (by omega)
 rw [hb] at hc
 generalize Lib.bytesWorld w 5 s = W at hcv HB hc
 go_enter Tryz.func84, Tryz.ntmps84
 go_wp2
 go_loopw [8] (fun i wr => ∃ k : Nat, k ≤ 1 ∧ i = .int .i64 k ∧ W = wr) (fun i _ => 1 - (intOf i).toNat)
 case atStart => exact ⟨0, by omega, rfl, rfl⟩
 case round =>
  obtain ⟨k, hk, rfl, rfl⟩ := hrel
  rcases (show k = 0 ∨ k = 1 by omega) with rfl | rfl
  ·go_wp2
   go_roundw
   case rel => exact ⟨1, by omega, rfl, trivial⟩
   case measure => simp [intOf]
  ·go_wp2
   go_ret
   exact ⟨rfl, HB.out⟩

set_option maxRecDepth 100000 in
set_option maxHeartbeats 1000000 in
theorem numeral_01 (w : World) (s : ByteArray) (hs : s = ⟨#[48, 49]⟩) : Calls Tryz.prog 84 #[.string s] w (RetB w false) := by
 have hz : s.size = 2 := by rw [hs]; rfl
 have hb : (s.data.toList.getD 0 0).toNat = 48 := by rw [hs]; rfl
 have hb1 : (s.data.toList.getD 1 0).toNat = 49 := by rw [hs]; rfl
 have hq : (s.toList == [48]) = false := by rw [hs]; decide +kernel
 have hq0 : (s.toList == []) = false := by rw [hs]; decide +kernel
 have h0 : ∀ h : 0 < s.size, (((s[0]'h).toNat : Int) != 48) = false := by subst hs; intro h; rfl
 have hHs := hid hs
 clear hs
 have hcv := Lib.run_convert_string_bytes (P := Tryz.prog) w 9 23 5 s (u := .string) Tryz.underlying9 Tryz.underlying23 Tryz.underlying5
 have HB := hid (bw_below w 5 s)
 have hc := Lib.bytesWorld_cell w 5 s 0 (by omega)
 have hc1 := Lib.bytesWorld_cell w 5 s 1 (by omega)
 rw [hb] at hc
 rw [hb1] at hc1
 generalize Lib.bytesWorld w 5 s = W at hcv HB hc hc1
 go_enter Tryz.func84, Tryz.ntmps84
 go_wp2
 go_loopw [8] (fun i wr => ∃ k : Nat, k ≤ 2 ∧ i = .int .i64 k ∧ W = wr) (fun i _ => 2 - (intOf i).toNat)
 case atStart => exact ⟨0, by omega, rfl, rfl⟩
 case round =>
  obtain ⟨k, hk, rfl, rfl⟩ := hrel
  rcases (show k = 0 ∨ k = 1 ∨ k = 2 by omega) with rfl | rfl | rfl
  ·go_wp2
   go_roundw
   case rel => exact ⟨1, by omega, rfl, trivial⟩
   case measure => simp [intOf]
  ·go_wp2
   go_roundw
   case rel => exact ⟨2, by omega, rfl, trivial⟩
   case measure => simp [intOf]
  ·go_wp2
   go_ret
   exact ⟨rfl, HB.out⟩

theorem int_null (w : World) : IntAt w (.agg #[.bool false, .slice none 0 0]) 0 := ⟨_, rfl, Nums.nil (by decide)⟩
theorem ret_zero {fn : Func} {p q : Tmp} (h : fn.results = #[.cell p 25, .tmp q]) {a : Act} {w : World} {g : Nat} {x : Value} (hd : a.defers = []) (hp : a.tmps.getD p undef = .pointer (some ⟨g, 0, none⟩)) (hq : a.tmps.getD q undef = x)
  (hg : ResAt w g) {R : Ending → World → Prop} (hR : ∀ s, IntAt (w.setRow g (Value.agg #[.bool false, .slice none 0 0]).cells) s 0 → R (.returned (.tuple #[s, x])) (w.setRow g (Value.agg #[.bool false, .slice none 0 0]).cells)) :
  bodyPost Tryz.prog fn R .ret a (w.setRow g (Value.agg #[.bool false, .slice none 0 0]).cells) := by
 obtain ⟨_, _, _, _, hg⟩ := hg
 exact ret_mix h hd hp hq ⟨_, int_null _, setRow_heap _ _ _ _ _ _ hg⟩ hR

set_option maxRecDepth 100000 in
set_option maxHeartbeats 1000000 in
theorem Parse_m0 (w : World) (s : ByteArray) (hs : s = ⟨#[45, 48]⟩) : Calls Tryz.prog 11 #[.string s] w (RetIE w 0 2) := by
 have hz : s.size = 2 := by rw [hs]; rfl
 have hcp : ∀ W : World, Calls Tryz.prog 83 #[.string s, .string ⟨#[45]⟩] W (fun e w' => e = .returned (.tuple #[.string ⟨#[48]⟩, .bool true]) ∧ w' = W) := by
  intro W
  refine (Tryz.strings_CutPrefix s ⟨#[45]⟩ W).mono ?_
  rintro e w' ⟨rfl, rfl⟩
  refine ⟨?_, rfl⟩
  subst hs
  rfl
 have hHs := hid hs
 clear hs
 go_enter Tryz.func11, Tryz.ntmps11
 go_wp2_with (go_at_call 83; refine (hcp _).mono ?_; rintro e w1 ⟨rfl, rfl⟩)
 refine (numeral_0 _ _ rfl).mono ?_
 rintro e w1 ⟨rfl, hb1⟩
 have HR := hid (show ResAt w1 w.heap.size from (ResAt.new w false none 0 0).keep hb1)
 have HB := hid (show Below w.heap.size w w1 from Pu.further ((Below.refl _ _).alloc (Nat.le_refl _) _) hb1)
 clear hb1
 go_wp2_with (with_reducible refine wpList_store_int rfl (.tmp 2) (.tmp 29) rfl w.heap.size (.agg #[.bool false, .slice none 0 0]) 0 rfl rfl (int_null _) HR.out ?_)
 refine ret_zero rfl rfl rfl rfl HR.out ?_
 intro s' hs'
 exact ⟨s', rfl, hs', below_row HB.out (Nat.le_refl _) _⟩

set_option maxRecDepth 100000 in
set_option maxHeartbeats 1000000 in
theorem Parse_01 (w : World) (s : ByteArray) (hs : s = ⟨#[48, 49]⟩) : Calls Tryz.prog 11 #[.string s] w (RetIE w 0 2) := by
 have hz : s.size = 2 := by rw [hs]; rfl
 have hcp : ∀ W : World, Calls Tryz.prog 83 #[.string s, .string ⟨#[45]⟩] W (fun e w' => e = .returned (.tuple #[.string ⟨#[48, 49]⟩, .bool false]) ∧ w' = W) := by
  intro W
  refine (Tryz.strings_CutPrefix s ⟨#[45]⟩ W).mono ?_
  rintro e w' ⟨rfl, rfl⟩
  refine ⟨?_, rfl⟩
  subst hs
  rfl
 have hHs := hid hs
 clear hs
 go_enter Tryz.func11, Tryz.ntmps11
 go_wp2_with (go_at_call 83; refine (hcp _).mono ?_; rintro e w1 ⟨rfl, rfl⟩)
 refine (numeral_01 _ _ rfl).mono ?_
 rintro e w1 ⟨rfl, hb1⟩
 have HR := hid (show ResAt w1 w.heap.size from (ResAt.new w false none 0 0).keep hb1)
 have HB := hid (show Below w.heap.size w w1 from Pu.further ((Below.refl _ _).alloc (Nat.le_refl _) _) hb1)
 clear hb1
 go_wp2_with (with_reducible refine wpList_store_int rfl (.tmp 2) (.tmp 29) rfl w.heap.size (.agg #[.bool false, .slice none 0 0]) 0 rfl rfl (int_null _) HR.out ?_)
 refine ret_zero rfl rfl rfl rfl HR.out ?_
 intro s' hs'
 exact ⟨s', rfl, hs', below_row HB.out (Nat.le_refl _) _⟩
theorem Tryz.bld_size : (Tryz.prog.info? 78).map (·.size) = some 2 := by kernel_rfl
theorem Tryz.bld_lies : liesAt Tryz.prog Tryz.prog.depth 78 (2 / Tryz.prog.cellsOf 78) 0 78 1 = true := by kernel_rfl
theorem Tryz.byte_info : (Tryz.prog.info? 5).map (fun i => (i.zero, i.size, i.bytes)) = some (some (.int .u8 0), 1, 1) := by kernel_rfl

set_option maxHeartbeats 1000000 in
set_option maxRecDepth 100000 in
theorem copyCheck_old (b : Nat) (w : World) (h0 : w.cell? ⟨b, 0, none⟩ = some (.pointer (some ⟨b, 0, none⟩))) :
  Calls Tryz.prog 123 #[.pointer (some ⟨b, 0, none⟩)] w fun e w' => e = .returned (.tuple #[]) ∧ w' = w := by
 obtain ⟨j, hj, _⟩ := Option.map_eq_some_iff.1 Tryz.bld_size
 go_enter Tryz.func123, Tryz.ntmps123
 go_wp2
 rw [Lib.run_neq_ptr_same w _ Tryz.underlying76 hj]
 go_wp2
 go_end0
 exact ⟨rfl, rfl⟩

set_option maxHeartbeats 1000000 in
set_option maxRecDepth 100000 in
theorem copyCheck_new (b : Nat) (w : World) (h0 : w.cell? ⟨b, 0, none⟩ = some (.pointer none)) (hsh : w.shape? b = some (78, 2)) (hfz : w.frozen? ⟨b, 0, none⟩ = false) :
  Calls Tryz.prog 123 #[.pointer (some ⟨b, 0, none⟩)] w fun e w' => e = .returned (.tuple #[]) ∧ w' = w.setCell ⟨b, 0, none⟩ (.pointer (some ⟨b, 0, none⟩)) := by
 obtain ⟨j, hj, hjs⟩ := Option.map_eq_some_iff.1 Tryz.bld_size
 go_enter Tryz.func123, Tryz.ntmps123
 go_wp2
 rw [Lib.run_to_unsafe w ⟨b, 0, none⟩ Tryz.underlying76 Tryz.underlying123 hj (by rw [hjs]; decide) hsh (Nat.zero_lt_succ 1)]
 simp only [Result.andThen]
 rw [Oper.upon_value]
 go_wp2
 rw [run_callFunc_extern Tryz.func150 (by kernel_rfl) (by kernel_rfl) (by kernel_rfl) (e := Extern.AbiNoEscape.same) (by kernel_rfl)]
 rw [Lib.run_noEscape]
 simp only [Result.andThen]
 rw [Oper.upon_value]
 go_wp2
 rw [Lib.run_from_unsafe w ⟨b, 0, none⟩ Tryz.underlying123 Tryz.underlying76 hj hsh Tryz.bld_lies]
 simp only [Result.andThen]
 rw [Oper.upon_value]
 go_wp2
 go_end0
 exact ⟨rfl, rfl⟩

theorem copyCheck_any (B b : Nat) (bs : List Value) (w : World) (h : Lib.IsBuilder 78 5 B b bs w) :
  Calls Tryz.prog 123 #[.pointer (some ⟨b, 0, none⟩)] w fun e w' => e = .returned (.tuple #[]) ∧ (Lib.BuilderAt 78 5 B b (.pointer (some ⟨b, 0, none⟩)) bs w' ∧ Below B w w') := by
 rcases h with h | h
 ·refine (copyCheck_new b w h.cell0 h.shape h.frozen0).mono ?_
  rintro e w' ⟨rfl, rfl⟩
  exact ⟨rfl, h.used _, (Below.refl B w).setCell (p := ⟨b, 0, none⟩) h.1 _⟩
 ·refine (copyCheck_old b w h.cell0).mono ?_
  rintro e w' ⟨rfl, rfl⟩
  exact ⟨rfl, h, Below.refl B _⟩

theorem slice_of {w : World} {B n : Nat} {v : Value} {bs : List Value} (h : w.ownsRow B 5 1 v n bs) : ∃ ao m cap, v = .slice ao m cap := by
 rcases h.2 with ⟨hv, _⟩ | ⟨g, cap, cur, hv, _⟩
 ·exact ⟨_, _, _, hv⟩
 ·exact ⟨_, _, _, hv⟩

set_option maxHeartbeats 2000000 in
set_option maxRecDepth 100000 in
theorem writeString_any (B b : Nat) (bs : List Value) (s : ByteArray) (w : World) (h : Lib.IsBuilder 78 5 B b bs w) (hlen : bs.length + s.size ≤ 140737488355328) (hBw : B ≤ w.heap.size) :
  Calls Tryz.prog 80 #[.pointer (some ⟨b, 0, none⟩), .string s] w fun e w' => e = .returned (.tuple #[.int .i64 s.size, .nilIface]) ∧ (Lib.BuilderAt 78 5 B b (.pointer (some ⟨b, 0, none⟩)) (bs ++ Lib.strCells s) w' ∧ Below B w w') := by
 obtain ⟨i0, hi, hz0, hz1, hz2⟩ := info_parts Tryz.byte_info
 go_enter Tryz.func80, Tryz.ntmps80
 go_wp2_with fail
 refine (copyCheck_any B b bs _ h).mono ?_
 rintro e w1 ⟨rfl, h1, hb1⟩
 obtain ⟨hB, v, hbk, hown, hne⟩ := h1
 have c0 : w1.cell? ⟨b, 0, none⟩ = some (.pointer (some ⟨b, 0, none⟩)) := by rw [Lib.cell_of_heap hbk]; rfl
 have c1 : w1.cell? ⟨b, 1, none⟩ = some v := by rw [Lib.cell_of_heap hbk]; rfl
 go_wp2_with (at_builtin; refine Lib.wpList_append_own_string _ rfl _ _ 23 9 rfl B 5 i0 Tryz.underlying23 Tryz.underlying9 hi hz0 hz1 hz2 _ _ _ rfl hown s rfl ?c3 ?c4 ?c5 ?_)
 case c3 => unfold maxLen; omega
 case c4 => omega
 case c5 => have := hb1.size; omega
 intro v' w2 hown' hgrow _
 have hlt : b < w1.heap.size := by
  rcases Nat.lt_or_ge b w1.heap.size with h' | h'
  ·exact h'
  ·simp [Array.getElem?_eq_none h'] at hbk
 have hb2 : w2.heap[b]? = some (.cells #[.pointer (some ⟨b, 0, none⟩), v] 78 (0, 0)) := by
  rw [hgrow.block b hlt (fun e => hne e.symm)]
  exact hbk
 have d0 : w2.cell? ⟨b, 0, none⟩ = some (.pointer (some ⟨b, 0, none⟩)) := by rw [Lib.cell_of_heap hb2]; rfl
 have d1 : w2.cell? ⟨b, 1, none⟩ = some v := by rw [Lib.cell_of_heap hb2]; rfl
 have f1 : w2.frozen? ⟨b, 1, none⟩ = false := Lib.frozen_of_heap hb2 1
 obtain ⟨ao, n', cap, rfl⟩ := slice_of hown'
 go_wp2
 go_ret2
 refine ⟨rfl, ?_, ?_⟩
 ·exact Lib.BuilderAt.put (T := 78) (e := 5) hB hb2 (bs' := bs ++ Lib.strCells s) (by simpa [Lib.strCells_length] using hown') (by decide)
 ·exact (hb1.grown hgrow (by have := hb1.size; omega) (fun k hk => (hown.lt k hk).1)).setCell (p := ⟨b, 1, none⟩) hB _
end Zn
end Go.Proofs.YtpgiebimhnhbiaaGreatDoor
