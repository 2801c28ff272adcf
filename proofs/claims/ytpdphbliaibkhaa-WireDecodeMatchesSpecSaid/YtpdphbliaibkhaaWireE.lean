/-
  Contracts of gantry/wire: GetInts, getList over strings, GetStrings.
-/
import Derived.Test.YtpdphbliaibkhaaWireD
namespace Go.Proofs.Ytpdphbliaibkhaa
open Go.RowKit
open Go.Lib (hid)
open W

set_option maxHeartbeats 400000 in
theorem GetInts_any (v : Value) (bs : List Int) (w : World) (hv : ByteView w v bs) (hbl : bs.length ≤ 1099511627776) :
    Calls Try.prog 28 #[v] w (Listed w 3 1 (fun x => [Value.int .i64 x]) (decList dec 1 bs)) := by
  have HC := hid (getList_int v bs w hv hbl)
  go_enter Try.func28, Try.ntmps28
  go_wp2_with fail
  refine HC.out.mono ?_
  rintro e w' ⟨hb, v', rfl, hown⟩
  have HB := hid hb
  have HO := hid hown
  clear hb hown
  go_wp2
  go_ret3
  exact ⟨HB.out, _, rfl, HO.out⟩

theorem Try.info9 : (Try.prog.info? 9).map (fun i => (i.zero, i.size, i.bytes)) = some (some (.string ByteArray.empty), 1, 16) := by kernel_rfl
theorem Try.under23 : Try.prog.underlying 23 = some (.slice 9) := by kernel_rfl

set_option maxHeartbeats 400000 in
theorem next_str (b5 b3 b10 u : Nat) (ao : Option Addr) (cap : Nat) (bs : List Int) (w : World) (hv : ByteView w (.slice ao bs.length cap) bs) (hu : u ≤ bs.length)
    (h5 : w.cell? ⟨b5, 0, none⟩ = some (.func (.func 26) #[] #[])) (h3 : w.cell? ⟨b3, 0, none⟩ = some (.slice ao bs.length cap)) (h10 : w.cell? ⟨b10, 0, none⟩ = some (.int .i64 u)) (h10f : w.frozen? ⟨b10, 0, none⟩ = false) :
    Calls Try.prog 47 #[.pointer (some ⟨b5, 0, none⟩), .pointer (some ⟨b3, 0, none⟩), .pointer (some ⟨b10, 0, none⟩)] w
      (Nexted w b10 u (.string (strOfNums (decBytes (bs.drop u)).1), (decBytes (bs.drop u)).2.1, (decBytes (bs.drop u)).2.2)) := by
  have hle := hv.le
  have hcut := fun W => run_cut_l ao bs.length cap u hu W
  have HV := hid (hv.rest hu)
  obtain ⟨S, hS⟩ : ∃ S, S = sliced ao u bs.length cap 1 := ⟨_, rfl⟩
  simp only [← hS] at hcut HV
  have HC : Hid (∀ n, Calls Try.prog 26 #[S] (w.drewN n) fun e w' => e = .returned (.tuple #[.string (strOfNums (decBytes (bs.drop u)).1), .int .i64 (decBytes (bs.drop u)).2.1, .int .i64 (decBytes (bs.drop u)).2.2]) ∧ w' = w.drewN n) :=
    fun n => (GetBytes_any S _ _ (HV.out.drewN n)).mono fun _ _ ⟨h1, h2⟩ => ⟨h1, h2.symm⟩
  have hub : (decBytes (bs.drop u)).2.1 ≤ bs.length - u := by
    rcases decBytes_cases _ HV.out.bytes with ⟨n, u', h, _, h2, _⟩ | h | h
    · rw [h]; simpa using h2
    · rw [h]; simp
    · rw [h]; simp
  generalize decBytes (bs.drop u) = r at HC hub ⊢
  obtain ⟨x, more, er⟩ := r
  simp only at HC hub ⊢
  clear hS hv
  go_enter Try.func47, Try.ntmps47
  go_wp2
  go_quiet ((go_at_call 26; exact Calls.quiet_of_same (HC.out _)))
  go_wp2
  go_ret2
  exact ⟨rfl, nq, rfl⟩

set_option maxHeartbeats 400000 in
theorem getList_str (v : Value) (bs : List Int) (w : World) (hv : ByteView w v bs) (hbl : bs.length ≤ 1099511627776) :
    Calls Try.prog 43 #[v, .int .i64 1, .func (.func 26) #[] #[]] w (Listed w 9 1 (fun x => [Value.string (strOfNums x)]) (decList decBytes 1 bs)) := by
  have hle := hv.le
  have HV := hid hv
  have HB := hid hv.bytes
  have HC : Hid (∀ W, Below w.heap.size w W → Calls Try.prog 40 #[v, .int .i64 1] W (Trip (lenOf bs 1).1 (lenOf bs 1).2.1 (lenOf bs 1).2.2 W)) :=
    fun W hW => getLength_any v bs 1 W (hv.below hW) (by omega) (by omega)
  obtain ⟨_, ao, cap, rfl, hlc, hcm, _⟩ := hv
  unfold maxLen at hcm
  obtain ⟨L, hL⟩ : ∃ L, L = decList decBytes 1 bs := ⟨_, rfl⟩
  rw [← hL]
  have HL := hid hL
  clear hL
  obtain ⟨i0, hi, hz0, hz1, hz2⟩ := info_parts Try.info9
  rcases lenOf_cases bs 1 (by omega) HB.out with ⟨n, u, h, _, h1, h2, h3⟩ | h | h
  · replace HL := hid (HL.out.trans (decList_ok h))
    rw [h] at HC
    clear h
    go_enter Try.func43, Try.ntmps43
    go_wp2_with fail
    refine (HC.out _ (((Below.refl _ _).alloc (Nat.le_refl _) _).alloc (by simp) _)).mono ?_
    rintro e w' ⟨rfl, rfl⟩
    go_wp2_with (at_make; refine wpList_make_own _ rfl (.const (.int .i64 0)) (.tmp 27) 23 rfl (w.heap.size + 1 + 1 + 1) 9 i0 (.string ByteArray.empty) 1 Try.under23 hi hz0 hz1 .i64 .i64 n n rfl rfl rfl (by rw [hz2]; omega) (by unfold maxLen; omega) (by simp) ?_)
    intro w1 hown hgrow
    have H0 := hid (InList.start (E := 9) (size := 1) (cells := fun x : List Int => [Value.string (strOfNums x)]) (d := decBytes) (bs := bs) (n := n) h2 (by simpa using hown) (by simpa using hgrow) (by simp))
    clear hown hgrow
    go_wp2
    go_loopw [13, 30] (fun out i wr => ∃ (k : Nat) (l : List (List Int)) (u' : Nat), k ≤ n ∧ i = .int .i64 k ∧ InList w wr 9 1 (fun x => [Value.string (strOfNums x)]) decBytes bs (.func (.func 26) #[] #[]) (.slice ao bs.length cap) u k l u' out) (fun _ i _ => n - (intOf i).toNat)
    case atStart => exact ⟨0, [], u, by omega, rfl, by simpa using H0.out⟩
    case round =>
      obtain ⟨k, l, u', hk, rfl, hin⟩ := hrel
      have HI := hid hin
      have c10 := hin.c10
      have hlen : l.length = k := by have := steps_length decBytes bs u k; rw [hin.at_] at this; exact this rfl
      have hll : l.length ≤ n := by omega
      have HLN := hid hlen
      have hul := hin.le
      clear hin hlen
      by_cases hkn : k < n
      · have HN := hid (next_str (w.heap.size + 1) w.heap.size (w.heap.size + 1 + 1) u' ao cap bs _ (HV.out.below HI.out.below) HI.out.le HI.out.c5 HI.out.c3 HI.out.c10 HI.out.f10)
        rcases decBytes_cases _ (HB.out.drop u') with ⟨x, m, hd, hm1, hm2, _⟩ | hd | hd
        · rw [hd] at HN
          have HD := hid hd
          clear hd
          have hm2' : u' + m ≤ bs.length := by simp at hm2; omega
          go_wp2_with (first | (go_at_call 47; refine HN.out.mono ?_; rintro e w2 ⟨rfl, nq, rfl⟩) | (at_builtin; go_must (refine wpList_append_own _ rfl (.tmp 40) (.tmp 42) 23 rfl (w.heap.size + 1 + 1 + 1) 9 i0 (.string ByteArray.empty) 1 16 Try.under23 hi hz0 hz1 hz2 rfl (by decide) _ l.length (l.flatMap fun x => [Value.string (strOfNums x)]) rfl ((HI.out.own5 _ _).alloc _) ⟨wr.heap.size, 0, none⟩ 1 1 [.string (strOfNums x)] rfl rfl ?c1 ?c2 ?c3 ?c4 ?c5 ?_)))
          case c1 => exact cell_new _ _ _ _ (by simp)
          case c2 => intro z hz; simp at hz; subst hz; rfl
          case c3 => unfold maxLen; omega
          case c4 => omega
          case c5 => have := HI.out.size_; simp; omega
          intro v' w6 hown' hgrow _
          have HS := hid (HI.out.step HD.out hm2' hown' hgrow)
          clear hown' hgrow
          go_wp2
          go_roundw
          case rel => exact ⟨k + 1, l ++ [x], u' + m, by omega, by go_num, HS.out⟩
          case measure => simp [intOf]; omega
        all_goals
          have HR := hid (HL.out.trans (decList_stop (by omega) hkn HI.out.at_ hd))
          rw [hd] at HN
          clear hd
          go_wp2_with (go_at_call 47; refine HN.out.mono ?_; rintro e w2 ⟨rfl, nq, rfl⟩)
          go_ret3
          rw [HR.out]
          exact Listed.nil (HI.out.below5 _ _)
      · obtain rfl : k = n := by omega
        have HR := hid (HL.out.trans (show _ = (l, u', 0) by rw [HI.out.at_]; simp))
        go_wp2
        go_quiet (fail)
        go_wp2
        go_ret3
        rw [HR.out]
        exact Listed.mk HI.out
  all_goals
    replace HL := hid (HL.out.trans (decList_err h (by omega)))
    rw [h] at HC
    clear h
    go_enter Try.func43, Try.ntmps43
    go_wp2_with fail
    refine (HC.out _ (((Below.refl _ _).alloc (Nat.le_refl _) _).alloc (by simp) _)).mono ?_
    rintro e w' ⟨rfl, rfl⟩
    go_wp2
    go_ret3
    rw [HL.out]
    exact Listed.nil ((((Below.refl _ _).alloc (Nat.le_refl _) _).alloc (by simp) _).alloc (by simp; omega) _)

set_option maxHeartbeats 400000 in
theorem GetStrings_any (v : Value) (bs : List Int) (w : World) (hv : ByteView w v bs) (hbl : bs.length ≤ 1099511627776) :
    Calls Try.prog 31 #[v] w (Listed w 9 1 (fun x => [Value.string (strOfNums x)]) (decList decBytes 1 bs)) := by
  have HC := hid (getList_str v bs w hv hbl)
  go_enter Try.func31, Try.ntmps31
  go_wp2_with fail
  refine HC.out.mono ?_
  rintro e w' ⟨hb, v', rfl, hown⟩
  have HB := hid hb
  have HO := hid hown
  clear hb hown
  go_wp2
  go_ret3
  exact ⟨HB.out, _, rfl, HO.out⟩


end Go.Proofs.Ytpdphbliaibkhaa
