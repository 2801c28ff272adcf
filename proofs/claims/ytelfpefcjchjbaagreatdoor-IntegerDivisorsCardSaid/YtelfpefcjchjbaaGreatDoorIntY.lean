/-
  Contracts of gantry/integer: numeral and Parse, for two texts that are none of an integer.
-/
import Derived.Test.YtelfpefcjchjbaaGreatDoorIntX
import Derived.Lib.ConvBytes
import Derived.Test.YtelfpefcjchjbaaGreatDoorIntSh
namespace Go.Proofs.YtelfpefcjchjbaaGreatDoor
open Go.RowKit
open Go.Lib (hid)
open Dg
namespace Zn

def txt0 : ByteArray := ⟨#[48]⟩
def txt01 : ByteArray := ⟨#[48, 49]⟩

theorem bw_below (w : World) (E : TypeId) (s : ByteArray) : Below w.heap.size w (Lib.bytesWorld w E s) :=
  ⟨rfl, rfl, rfl, by rw [Lib.bytesWorld_size]; omega, fun k hk => Lib.bytesWorld_at_old w E s k hk⟩


def RetIE (w : World) (z e : Int) (ed : Ending) (w' : World) : Prop := ∃ s, ed = .returned (.tuple #[s, .int .i64 e]) ∧ IntAt w' s z ∧ Below w.heap.size w w'

set_option maxRecDepth 100000 in
set_option maxHeartbeats 1000000 in
theorem numeral_0 (w : World) (s : ByteArray) (hs : s = ⟨#[48]⟩) : Calls Tryz.prog 74 #[.string s] w (RetB w true) := by
  have hz : s.size = 1 := by rw [hs]; rfl
  have hb : (s.data.toList.getD 0 0).toNat = 48 := by rw [hs]; rfl
  have hq : (s.toList == [48]) = true := by rw [hs]; decide +kernel
  have hHs := hid hs
  clear hs
  have hcv := Lib.run_convert_string_bytes (P := Tryz.prog) w 9 37 5 s (u := .string) Tryz.underlying9 Tryz.underlying37 Tryz.underlying5
  have HB := hid (bw_below w 5 s)
  have hc := Lib.bytesWorld_cell w 5 s 0 (by omega)
  rw [hb] at hc
  generalize Lib.bytesWorld w 5 s = W at hcv HB hc
  go_enter Tryz.func74, Tryz.ntmps74
  go_wp2
  go_loopw [8] (fun i wr => ∃ k : Nat, k ≤ 1 ∧ i = .int .i64 k ∧ W = wr) (fun i _ => 1 - (intOf i).toNat)
  case atStart => exact ⟨0, by omega, rfl, rfl⟩
  case round =>
    obtain ⟨k, hk, rfl, rfl⟩ := hrel
    rcases (show k = 0 ∨ k = 1 by omega) with rfl | rfl
    · go_wp2
      go_roundw
      case rel => exact ⟨1, by omega, rfl, trivial⟩
      case measure => simp [intOf]
    · go_wp2
      go_ret
      exact ⟨rfl, HB.out⟩

set_option maxRecDepth 100000 in
set_option maxHeartbeats 1000000 in
theorem numeral_01 (w : World) (s : ByteArray) (hs : s = ⟨#[48, 49]⟩) : Calls Tryz.prog 74 #[.string s] w (RetB w false) := by
  have hz : s.size = 2 := by rw [hs]; rfl
  have hb : (s.data.toList.getD 0 0).toNat = 48 := by rw [hs]; rfl
  have hb1 : (s.data.toList.getD 1 0).toNat = 49 := by rw [hs]; rfl
  have hq : (s.toList == [48]) = false := by rw [hs]; decide +kernel
  have hq0 : (s.toList == []) = false := by rw [hs]; decide +kernel
  have h0 : ∀ h : 0 < s.size, (((s[0]'h).toNat : Int) != 48) = false := by subst hs; intro h; rfl
  have hHs := hid hs
  clear hs
  have hcv := Lib.run_convert_string_bytes (P := Tryz.prog) w 9 37 5 s (u := .string) Tryz.underlying9 Tryz.underlying37 Tryz.underlying5
  have HB := hid (bw_below w 5 s)
  have hc := Lib.bytesWorld_cell w 5 s 0 (by omega)
  have hc1 := Lib.bytesWorld_cell w 5 s 1 (by omega)
  rw [hb] at hc
  rw [hb1] at hc1
  generalize Lib.bytesWorld w 5 s = W at hcv HB hc hc1
  go_enter Tryz.func74, Tryz.ntmps74
  go_wp2
  go_loopw [8] (fun i wr => ∃ k : Nat, k ≤ 2 ∧ i = .int .i64 k ∧ W = wr) (fun i _ => 2 - (intOf i).toNat)
  case atStart => exact ⟨0, by omega, rfl, rfl⟩
  case round =>
    obtain ⟨k, hk, rfl, rfl⟩ := hrel
    rcases (show k = 0 ∨ k = 1 ∨ k = 2 by omega) with rfl | rfl | rfl
    · go_wp2
      go_roundw
      case rel => exact ⟨1, by omega, rfl, trivial⟩
      case measure => simp [intOf]
    · go_wp2
      go_roundw
      case rel => exact ⟨2, by omega, rfl, trivial⟩
      case measure => simp [intOf]
    · go_wp2
      go_ret
      exact ⟨rfl, HB.out⟩

theorem int_null (w : World) : IntAt w (.agg #[.bool false, .slice none 0 0]) 0 := ⟨_, rfl, Nums.nil (by decide)⟩
theorem ret_zero {fn : Func} {p q : Tmp} (h : fn.results = #[.cell p 24, .tmp q]) {a : Act} {w : World} {g : Nat} {x : Value} (hd : a.defers = []) (hp : a.tmps.getD p undef = .pointer (some ⟨g, 0, none⟩)) (hq : a.tmps.getD q undef = x)
    (hg : ResAt w g) {R : Ending → World → Prop} (hR : ∀ s, IntAt (w.setRow g (Value.agg #[.bool false, .slice none 0 0]).cells) s 0 → R (.returned (.tuple #[s, x])) (w.setRow g (Value.agg #[.bool false, .slice none 0 0]).cells)) :
    bodyPost Tryz.prog fn R .ret a (w.setRow g (Value.agg #[.bool false, .slice none 0 0]).cells) := by
  obtain ⟨_, _, _, _, hg⟩ := hg
  exact ret_mix h hd hp hq ⟨_, int_null _, setRow_heap _ _ _ _ _ _ hg⟩ hR

set_option maxRecDepth 100000 in
set_option maxHeartbeats 1000000 in
theorem Parse_m0 (w : World) (s : ByteArray) (hs : s = ⟨#[45, 48]⟩) : Calls Tryz.prog 41 #[.string s] w (RetIE w 0 2) := by
  have hz : s.size = 2 := by rw [hs]; rfl
  have hcp : ∀ W : World, Calls Tryz.prog 73 #[.string s, .string ⟨#[45]⟩] W (fun e w' => e = .returned (.tuple #[.string ⟨#[48]⟩, .bool true]) ∧ w' = W) := by
    intro W
    refine (Tryz.strings_CutPrefix s ⟨#[45]⟩ W).mono ?_
    rintro e w' ⟨rfl, rfl⟩
    refine ⟨?_, rfl⟩
    subst hs
    rfl
  have hHs := hid hs
  clear hs
  go_enter Tryz.func41, Tryz.ntmps41
  go_wp2_with (go_at_call 73; refine (hcp _).mono ?_; rintro e w1 ⟨rfl, rfl⟩)
  refine (numeral_0 _ _ rfl).mono ?_
  rintro e w1 ⟨rfl, hb1⟩
  have HR := hid (show ResAt w1 w.heap.size from (ResAt.new w false none 0 0).keep hb1)
  have HB := hid (show Below w.heap.size w w1 from Pu.further ((Below.refl _ _).alloc (Nat.le_refl _) _) hb1)
  clear hb1
  go_wp2_with (with_reducible refine wpList_store_int rfl (.tmp 2) (.tmp 29) rfl w.heap.size (.agg #[.bool false, .slice none 0 0]) 0 rfl rfl (int_null _) HR.out ?_)
  refine ret_zero rfl rfl rfl rfl HR.out ?_
  intro s' hs'
  exact ⟨s', rfl, hs', below_row HB.out (Nat.le_refl _) _⟩


set_option maxRecDepth 100000 in
set_option maxHeartbeats 1000000 in
theorem Parse_01 (w : World) (s : ByteArray) (hs : s = ⟨#[48, 49]⟩) : Calls Tryz.prog 41 #[.string s] w (RetIE w 0 2) := by
  have hz : s.size = 2 := by rw [hs]; rfl
  have hcp : ∀ W : World, Calls Tryz.prog 73 #[.string s, .string ⟨#[45]⟩] W (fun e w' => e = .returned (.tuple #[.string ⟨#[48, 49]⟩, .bool false]) ∧ w' = W) := by
    intro W
    refine (Tryz.strings_CutPrefix s ⟨#[45]⟩ W).mono ?_
    rintro e w' ⟨rfl, rfl⟩
    refine ⟨?_, rfl⟩
    subst hs
    rfl
  have hHs := hid hs
  clear hs
  go_enter Tryz.func41, Tryz.ntmps41
  go_wp2_with (go_at_call 73; refine (hcp _).mono ?_; rintro e w1 ⟨rfl, rfl⟩)
  refine (numeral_01 _ _ rfl).mono ?_
  rintro e w1 ⟨rfl, hb1⟩
  have HR := hid (show ResAt w1 w.heap.size from (ResAt.new w false none 0 0).keep hb1)
  have HB := hid (show Below w.heap.size w w1 from Pu.further ((Below.refl _ _).alloc (Nat.le_refl _) _) hb1)
  clear hb1
  go_wp2_with (with_reducible refine wpList_store_int rfl (.tmp 2) (.tmp 29) rfl w.heap.size (.agg #[.bool false, .slice none 0 0]) 0 rfl rfl (int_null _) HR.out ?_)
  refine ret_zero rfl rfl rfl rfl HR.out ?_
  intro s' hs'
  exact ⟨s', rfl, hs', below_row HB.out (Nat.le_refl _) _⟩

end Zn
end Go.Proofs.YtelfpefcjchjbaaGreatDoor
