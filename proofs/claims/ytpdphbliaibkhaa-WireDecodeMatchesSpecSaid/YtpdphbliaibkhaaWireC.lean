/-
  Contracts of gantry/wire: getLength, GetBytes.
-/
import Derived.Test.YtpdphbliaibkhaaWireB
import Derived.Laws.BytesArg
namespace Go.Proofs.Ytpdphbliaibkhaa
open Go.RowKit
open Go.Lib (hid)
open W

theorem ByteView.le {w : World} {v : Value} {bs : List Int} (h : ByteView w v bs) : bs.length ≤ 9223372036854775807 := by
  obtain ⟨_, ao, cap, _, h1, h2, _⟩ := h
  unfold maxLen at h2
  omega

set_option maxHeartbeats 400000 in
theorem getLength_any (v : Value) (bs : List Int) (size : Nat) (w : World) (hv : ByteView w v bs) (hs0 : 1 ≤ size) (hs1 : size ≤ 1000) :
    Calls Try.prog 40 #[v, .int .i64 size] w (Trip (lenOf bs size).1 (lenOf bs size).2.1 (lenOf bs size).2.2 w) := by
  have hle := hv.le
  have HB := hid hv.bytes
  have HC := hid (GetInt_any v bs w hv)
  obtain ⟨_, ao, cap, rfl, hlc, hcm, _⟩ := hv
  unfold maxLen at hcm
  obtain ⟨L, hL⟩ : ∃ L, L = lenOf bs size := ⟨_, rfl⟩
  rw [← hL]
  have HL := hid hL
  clear hL
  unfold lenOf at HL
  rcases dec_cases bs HB.out with ⟨n, u, h, h1, h2, h3, h4⟩ | h | h
  · rw [h] at HC HL
    clear h
    by_cases hn : n < 0
    · replace HL := hid (show L = (0, 0, 2) by rw [HL.out, if_neg (by simp), if_pos hn])
      go_enter Try.func40, Try.ntmps40
      go_wp2_with (go_at_call 24; refine HC.out.mono ?_; rintro e w' ⟨rfl, rfl⟩)
      go_ret3
      rw [HL.out]
      exact Trip.mk rfl rfl rfl
    · by_cases hd : (((bs.length - u) / size : Nat) : Int) < n
      · replace HL := hid (show L = (0, 0, 3) by rw [HL.out, if_neg (by simp), if_neg hn, if_pos hd])
        have hd' : ((bs.length : Int) - u) / size < n := by rw [← Int.natCast_sub h2]; omega
        clear hd
        go_enter Try.func40, Try.ntmps40
        go_wp2_with (go_at_call 24; refine HC.out.mono ?_; rintro e w' ⟨rfl, rfl⟩)
        go_ret3
        rw [HL.out]
        exact Trip.mk rfl rfl rfl
      · replace HL := hid (show L = (n, u, 0) by rw [HL.out, if_neg (by simp), if_neg hn, if_neg hd])
        have hd' : n ≤ ((bs.length : Int) - u) / size := by rw [← Int.natCast_sub h2]; omega
        clear hd
        go_enter Try.func40, Try.ntmps40
        go_wp2_with (go_at_call 24; refine HC.out.mono ?_; rintro e w' ⟨rfl, rfl⟩)
        go_ret3
        rw [HL.out]
        exact Trip.mk rfl rfl rfl
  all_goals
    rw [h] at HC HL
    clear h
    go_enter Try.func40, Try.ntmps40
    go_wp2_with (go_at_call 24; refine HC.out.mono ?_; rintro e w' ⟨rfl, rfl⟩)
    go_ret3
    rw [HL.out]
    exact Trip.mk (by simp) (by simp) (by simp)

theorem Try.elem28 : Try.prog.elem 28 = 5 := by kernel_rfl
theorem Try.under28e : Try.prog.underlying 28 = some (.slice (Try.prog.elem 28)) := by kernel_rfl
theorem Try.under9 : Try.prog.underlying 9 = some .string := by kernel_rfl
theorem Try.under5 : Try.prog.underlying 5 = some (.int .u8) := by kernel_rfl
theorem Try.size5 (w : World) : (sizeOf (Try.prog.elem 28)).run Try.prog w = .ok 1 w := by kernel_rfl

theorem getD_cut (bs : List Int) (l h i : Nat) (hi : i < h - l) : ((bs.take h).drop l).getD i 0 = bs.getD (l + i) 0 := by
  simp only [List.getD_eq_getElem?_getD, List.getElem?_drop, List.getElem?_take]
  rw [if_pos (by omega)]

theorem ByteView.cut {w : World} {ao : Option Addr} {cap l h : Nat} {bs : List Int} (hv : ByteView w (.slice ao bs.length cap) bs) (hl : l ≤ h) (hh : h ≤ bs.length) :
    ByteView w (sliced ao l h cap 1) ((bs.take h).drop l) := by
  obtain ⟨hB, ao', cap', hsh, hlc, hcm, hc⟩ := hv
  simp only [Value.slice.injEq, true_and] at hsh
  obtain ⟨rfl, rfl⟩ := hsh
  have hlen : ((bs.take h).drop l).length = h - l := by simp; omega
  refine ⟨(hB.take h).drop l, _, _, by rw [hlen]; rfl, by rw [hlen]; omega, by unfold maxLen at hcm ⊢; omega, ?_⟩
  intro hne
  have hpos : 0 < h - l := by rw [← hlen]; exact List.length_pos_iff.2 hne
  have hbne : bs ≠ [] := by rintro rfl; simp at hh; omega
  obtain ⟨b, off, rfl, hcell⟩ := hc hbne
  refine ⟨b, off + l, ?_, ?_⟩
  · rw [if_neg (by omega), Nat.mul_one, Option.map_some, Addr.add_lit]
  · intro i hi
    rw [hlen] at hi
    rw [getD_cut bs l h i hi, Nat.add_assoc]
    exact hcell (l + i) (by omega)

theorem run_cut_lh (ao : Option Addr) (len cap l h : Nat) (hl : l ≤ h) (hh : h ≤ cap) (w : World) :
    (Instr.slice 28 (.slice ao len cap) (some (.int .i64 l)) (some (.int .i64 h)) none).run Try.prog w = .ok (sliced ao l h cap 1) w := by
  rw [run_slice_lh w _ _ _ _ Try.under28e _ _ _ _ (by omega) (by omega) (by omega), Try.size5]
  simp only [Result.andThen, Int.toNat_natCast]

theorem run_cut_l (ao : Option Addr) (len cap l : Nat) (hl : l ≤ len) (w : World) :
    (Instr.slice 28 (.slice ao len cap) (some (.int .i64 l)) none none).run Try.prog w = .ok (sliced ao l len cap 1) w := by
  rw [run_slice_l w _ _ _ _ Try.under28e _ _ (by omega) (by omega), Try.size5]
  simp only [Result.andThen, Int.toNat_natCast]

theorem run_text {w : World} {v : Value} {bs : List Int} (hv : ByteView w v bs) : (convert 28 9 v).run Try.prog w = .ok (.string (strOfNums bs)) w := by
  obtain ⟨_, ao, cap, rfl, _, _, hc⟩ := hv
  cases bs with
  | nil =>
    cases ao with
    | none => exact run_convert_bytes_nil w _ _ Try.under28 Try.under5 _ _ _ Try.under9
    | some a =>
      rw [run_convert_bytes_string w _ _ _ _ _ cap Try.under28 Try.under5 Try.under9]
      exact run_bytesToString w a 0 cap [] (by simpa using run_loadCells_list (P := Try.prog) w a [] (fun j v hj => by simp at hj))
  | cons x t =>
    obtain ⟨b, off, rfl, hcell⟩ := hc (by simp)
    exact run_convert_bytes_arg w _ _ Try.under28 Try.under5 b off _ cap _ rfl hcell _ Try.under9

def TextTrip (s : List Int) (b c : Int) (w : World) (e : Ending) (w' : World) : Prop := e = .returned (.tuple #[.string (strOfNums s), .int .i64 b, .int .i64 c]) ∧ w = w'

theorem TextTrip.mk {s : List Int} {b c b' c' : Int} {t : ByteArray} {w : World} (h1 : t = strOfNums s) (h2 : b = b') (h3 : c = c') : TextTrip s b' c' w (.returned (.tuple #[.string t, .int .i64 b, .int .i64 c])) w := by
  subst h1 h2 h3; exact ⟨rfl, rfl⟩

set_option maxHeartbeats 400000 in
theorem GetBytes_any (v : Value) (bs : List Int) (w : World) (hv : ByteView w v bs) :
    Calls Try.prog 26 #[v] w (TextTrip (decBytes bs).1 (decBytes bs).2.1 (decBytes bs).2.2 w) := by
  have hle := hv.le
  have HV := hid hv
  have HB := hid hv.bytes
  have HC := hid (getLength_any v bs 1 w hv (by omega) (by omega))
  obtain ⟨_, ao, cap, rfl, hlc, hcm, _⟩ := hv
  unfold maxLen at hcm
  obtain ⟨L, hL⟩ : ∃ L, L = decBytes bs := ⟨_, rfl⟩
  rw [← hL]
  have HL := hid hL
  clear hL
  unfold decBytes at HL
  rcases lenOf_cases bs 1 (by omega) HB.out with ⟨n, u, h, _, h1, h2, h3⟩ | h | h
  · rw [h] at HC HL
    clear h
    have hcut := run_cut_lh ao bs.length cap u (u + n) (by omega) (by omega) w
    have htx := run_text (HV.out.cut (l := u) (h := u + n) (by omega) (by omega))
    obtain ⟨S, hS⟩ : ∃ S, S = sliced ao u (u + n) cap 1 := ⟨_, rfl⟩
    rw [← hS] at hcut htx
    clear hS
    replace HL := hid (show L = ((bs.take (u + n)).drop u, u + n, 0) by rw [HL.out, if_neg (by simp)]; simp)
    simp only [Int.natCast_add] at hcut
    have hcast : ((1 : Nat) : Int) = 1 := rfl
    rw [hcast] at HC
    clear hcast
    go_enter Try.func26, Try.ntmps26
    go_wp2_with (go_at_call 40; refine HC.out.mono ?_; rintro e w' ⟨rfl, rfl⟩)
    go_ret3
    rw [HL.out]
    exact TextTrip.mk rfl (by simp) rfl
  all_goals
    rw [h] at HC HL
    clear h
    have hcast : ((1 : Nat) : Int) = 1 := rfl
    rw [hcast] at HC
    clear hcast
    go_enter Try.func26, Try.ntmps26
    go_wp2_with (go_at_call 40; refine HC.out.mono ?_; rintro e w' ⟨rfl, rfl⟩)
    go_ret3
    rw [HL.out]
    exact TextTrip.mk rfl (by simp) (by simp)

end Go.Proofs.Ytpdphbliaibkhaa
