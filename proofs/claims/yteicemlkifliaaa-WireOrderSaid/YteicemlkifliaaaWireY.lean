/-
  gantrylaw01.WireOrder answers yes.
-/
import Derived.Test.YteicemlkifliaaaWireT
import Derived.Test.YteicemlkifliaaaWire4
import Derived.Deep.RegionWith
import Derived.Deep.RegionHeld3
namespace Go.Proofs.Yteicemlkifliaaa
open Go.RowKit
open Go.Lib (hid)
open W

theorem toList_nums (l : List Int) : (strOfNums l).toList = l.map fun n => UInt8.ofNat n.toNat := by
  rw [ByteArray.toList_eq]; exact strOfNums_data l

theorem size_nums (l : List Int) : (strOfNums l).size = l.length := strOfNums_size l

theorem u8_lt {a b : Int} (ha : 0 ≤ a ∧ a ≤ 255) (hb : 0 ≤ b ∧ b ≤ 255) : decide (UInt8.ofNat a.toNat < UInt8.ofNat b.toNat) = decide (a < b) := by
  rw [Bool.eq_iff_iff]
  simp only [decide_eq_true_eq, UInt8.lt_iff_toNat_lt, UInt8.toNat_ofNat']
  omega

theorem u8_eq {a b : Int} (ha : 0 ≤ a ∧ a ≤ 255) (hb : 0 ≤ b ∧ b ≤ 255) : (UInt8.ofNat a.toNat == UInt8.ofNat b.toNat) = decide (a = b) := by
  rw [Bool.eq_iff_iff]
  simp only [beq_iff_eq, decide_eq_true_eq, ← UInt8.toNat_inj, UInt8.toNat_ofNat']
  omega

theorem bytesLess_lex : ∀ (a b : List Int), Bs a → Bs b → Op.bytesLess (a.map fun n => UInt8.ofNat n.toNat) (b.map fun n => UInt8.ofNat n.toNat) = lexLess a b
  | a, [], _, _ => by cases a <;> rfl
  | [], _ :: _, _, _ => rfl
  | x :: a, y :: b, ha, hb => by
    have h1 := ha.cons
    have h2 := hb.cons
    simp only [List.map_cons, Op.bytesLess, lexLess, bytesLess_lex a b h1.2 h2.2, u8_eq h1.1 h2.1]
    rw [u8_lt h1.1 h2.1]

theorem txt_nums {l : List Int} (h : Bs l) : ((l.map fun n => UInt8.ofNat n.toNat).map fun b => (b.toNat : Int)) = l := by
  rw [List.map_map]
  conv => rhs; rw [← List.map_id l]
  apply List.map_congr_left
  intro a ha
  have := h a ha
  simp only [Function.comp, id]
  rw [UInt8.toNat_ofNat']
  omega

theorem nums_inj {a b : List Int} (ha : Bs a) (hb : Bs b) (h : (a.map fun n => UInt8.ofNat n.toNat) = b.map fun n => UInt8.ofNat n.toNat) : a = b := by
  have h1 := txt_nums ha
  have h2 := txt_nums hb
  rw [← h1, ← h2, h]

theorem strs_ne {a b : List Int} (ha : Bs a) (hb : Bs b) (h : a ≠ b) : ((strOfNums a).toList == (strOfNums b).toList) = false ∧ (strOfNums a == strOfNums b) = false := by
  have h1 : (strOfNums a).toList ≠ (strOfNums b).toList := by
    rw [toList_nums, toList_nums]
    exact fun e => h (nums_inj ha hb e)
  refine ⟨by simpa using h1, ?_⟩
  rw [beq_toListBytes]
  simpa using h1

theorem extract_nums (l : List Int) (k : Nat) : (strOfNums l).extract 0 k = strOfNums (l.take k) := by
  apply ByteArray.ext
  apply Array.toList_inj.1
  rw [ByteArray.data_extract]
  simp [strOfNums, List.map_take]

theorem run_front (l : List Int) (k : Nat) (hk : k ≤ l.length) (W : World) : (Instr.slice 9 (.string (strOfNums l)) none (some (.int .i64 k)) none).run Try.prog W = .ok (.string (strOfNums (l.take k))) W := by
  rw [run_slice_string_h W _ _ Try.under9 _ _ (by omega) (by rw [size_nums]; omega), Int.toNat_natCast, extract_nums]

set_option maxRecDepth 100000 in
set_option maxHeartbeats 3200000 in
theorem order_ne (m n : Int) (w : World) (hm1 : -9223372036854775808 ≤ m) (hm2 : m ≤ 9223372036854775807) (hn1 : -9223372036854775808 ≤ n) (hn2 : n ≤ 9223372036854775807) (hne : m ≠ n) :
    Calls Try.prog 5 #[.int .i64 m, .int .i64 n] w fun e w' => e = .returned (.bool true) ∧ Below w.heap.size w w' := by
  have HM : Hid (∀ W, Calls Try.prog 14 #[.int .i64 m] W (Fresh W (code m))) := fun W => Int_fresh m W hm2 hm1
  have HN : Hid (∀ W, Calls Try.prog 14 #[.int .i64 n] W (Fresh W (code n))) := fun W => Int_fresh n W hn2 hn1
  obtain ⟨k, hk⟩ : ∃ k, k = min (code m).length (code n).length := ⟨_, rfl⟩
  have F1 := hid (strs_ne (code_bs m) (code_bs n) (fun e => hne (code_inj hm1 hm2 hn1 hn2 e)))
  have F2 := hid (strs_ne ((code_bs m).take k) ((code_bs n).take k) (fun e => hne (code_front hm1 hm2 hn1 hn2 hk e)))
  have F3 : Hid (Op.bytesLess (strOfNums (code m)).toList (strOfNums (code n)).toList = decide (m < n)) := by
    show _ = _
    rw [toList_nums, toList_nums, bytesLess_lex _ _ (code_bs m) (code_bs n), code_order m n hm1 hm2 hn1 hn2]
  have F4 : Hid (∀ W, (Instr.slice 9 (.string (strOfNums (code m))) none (some (.int .i64 k)) none).run Try.prog W = .ok (.string (strOfNums ((code m).take k))) W) := fun W => run_front _ k (by omega) W
  have F5 : Hid (∀ W, (Instr.slice 9 (.string (strOfNums (code n))) none (some (.int .i64 k)) none).run Try.prog W = .ok (.string (strOfNums ((code n).take k))) W) := fun W => run_front _ k (by omega) W
  have F6 : Hid (((strOfNums (code m)).size : Int) ≤ (strOfNums (code n)).size ∧ k = (strOfNums (code m)).size ∨ ((strOfNums (code n)).size : Int) < (strOfNums (code m)).size ∧ k = (strOfNums (code n)).size) := by
    show _ ∨ _
    rw [size_nums, size_nums]
    omega
  clear hk
  have hmn : (m == n) = false := by simpa using hne
  have hdec : (m < n ∧ decide (m < n) = true) ∨ (¬ m < n ∧ decide (m < n) = false) := by
    by_cases h : m < n
    · exact .inl ⟨h, by simpa using h⟩
    · exact .inr ⟨h, by simpa using h⟩
  go_enter Try.func5, Try.ntmps5
  go_wp2_with fail
  go_region_with (first | (go_at_call_of 14 m; refine (HM.out _).mono ?_; rintro e w1 ⟨v1, rfl, ho1, hb1⟩; have hc1 := run_text ((View.of_owns ho1).bytes (code_bs m)); have HO1 := hid ho1; have HB1 := hid hb1; clear ho1 hb1) | (go_at_call_of 14 n; refine (HN.out _).mono ?_; rintro e w2 ⟨v2, rfl, ho2, hb2⟩; have hc2 := run_text ((View.of_owns ho2).bytes (code_bs n)); have hc3 := run_text (((View.of_owns HO1.out).bytes (code_bs m)).below hb2); have HO2 := hid ho2; have HB2 := hid hb2; clear ho2 hb2))
  all_goals
    have HW := hid (show Below w.heap.size w w2 from further (further (Below.refl _ _).drew HB1.out) HB2.out)
    clear HO1 HB1 HO2 HB2 hc1 hc2 hc3
    generalize strOfNums (code m) = A at F1 F3 F4 F6 ⊢
    generalize strOfNums (code n) = B at F1 F3 F5 F6 ⊢
    generalize strOfNums ((code m).take k) = A1 at F2 F4 ⊢
    generalize strOfNums ((code n).take k) = B1 at F2 F5 ⊢
    obtain ⟨f1, f1'⟩ := F1.out
    obtain ⟨f2, f2'⟩ := F2.out
    have f3 := F3.out
    have f4 := F4.out
    have f5 := F5.out
    rcases F6.out with ⟨hsz, rfl⟩ | ⟨hsz, rfl⟩
    all_goals
      rcases hdec with ⟨hd1, hd2⟩ | ⟨hd1, hd2⟩
      all_goals
        rw [hd2] at f3
        clear F1 F2 F3 F4 F5 F6 HM HN
        go_wp2_with fail
        go_region_held3 (fun _ => True) (trivial) (first | (go_at_call 12; refine (sanity_yes _).mono ?_; rintro e w3 ⟨rfl, hb3⟩))
  all_goals
    have HE := hid (further HW.out.drew hb3)
    clear hb3
    go_wp2
    go_ret
    exact ⟨rfl, HE.out⟩

set_option maxRecDepth 100000 in
set_option maxHeartbeats 3200000 in
theorem order_eq (m : Int) (w : World) (hm1 : -9223372036854775808 ≤ m) (hm2 : m ≤ 9223372036854775807) :
    Calls Try.prog 5 #[.int .i64 m, .int .i64 m] w fun e w' => e = .returned (.bool true) ∧ Below w.heap.size w w' := by
  have HM : Hid (∀ W, Calls Try.prog 14 #[.int .i64 m] W (Fresh W (code m))) := fun W => Int_fresh m W hm2 hm1
  have F4 : Hid (∀ W, (Instr.slice 9 (.string (strOfNums (code m))) none (some (.int .i64 (code m).length)) none).run Try.prog W = .ok (.string (strOfNums (code m))) W) := fun W => by
    have := run_front (code m) (code m).length (Nat.le_refl _) W
    rwa [List.take_length] at this
  have F3 : Hid (Op.bytesLess (strOfNums (code m)).toList (strOfNums (code m)).toList = false) := by
    show _ = _
    rw [toList_nums, bytesLess_lex _ _ (code_bs m) (code_bs m), code_order m m hm1 hm2 hm1 hm2]
    simp
  have hmm : decide (m < m) = false := by simp
  have F6 := hid (size_nums (code m))
  go_enter Try.func5, Try.ntmps5
  go_wp2_with fail
  go_region_with (go_at_call 14; first | (have hc3 := fun W hW => run_text (((View.of_owns HO1.out).bytes (code_bs m)).below (w' := W) hW); refine (HM.out _).mono ?_; rintro e w2 ⟨v2, rfl, ho2, hb2⟩; have hc2 := run_text ((View.of_owns ho2).bytes (code_bs m)); have hc4 := hc3 w2 hb2; have HO2 := hid ho2; have HB2 := hid hb2; clear ho2 hb2 hc3) | (refine (HM.out _).mono ?_; rintro e w1 ⟨v1, rfl, ho1, hb1⟩; have hc1 := run_text ((View.of_owns ho1).bytes (code_bs m)); have HO1 := hid ho1; have HB1 := hid hb1; clear ho1 hb1))
  all_goals
    have HW := hid (show Below w.heap.size w w2 from further (further (Below.refl _ _).drew HB1.out) HB2.out)
    clear HO1 HB1 HO2 HB2 hc1 hc2 hc4
    have f3 := F3.out
    have f4 := F4.out
    rw [← F6.out] at f4
    clear F3 F4 F6 HM
    generalize strOfNums (code m) = A at f3 f4 ⊢
    go_wp2_with fail
    go_region_held3 (fun _ => True) (trivial) (first | (go_at_call 12; refine (sanity_yes _).mono ?_; rintro e w3 ⟨rfl, hb3⟩))
  all_goals
    have HE := hid (further HW.out.drew hb3)
    clear hb3
    go_wp2
    go_ret
    exact ⟨rfl, HE.out⟩

theorem order_any (m n : Int) (w : World) (hm1 : -9223372036854775808 ≤ m) (hm2 : m ≤ 9223372036854775807) (hn1 : -9223372036854775808 ≤ n) (hn2 : n ≤ 9223372036854775807) :
    Calls Try.prog 5 #[.int .i64 m, .int .i64 n] w fun e w' => e = .returned (.bool true) ∧ Below w.heap.size w w' := by
  by_cases h : m = n
  · subst h; exact order_eq m w hm1 hm2
  · exact order_ne m n w hm1 hm2 hn1 hn2 h

end Go.Proofs.Yteicemlkifliaaa
