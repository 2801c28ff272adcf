/-
  Contracts of gantry/gantryref01: GetBytes, GetInts, GetStrings.
-/
import Derived.Test.YtpdphbliaibkhaaWireP
namespace Go.Proofs.Ytpdphbliaibkhaa
open Go.RowKit
open Go.Lib (hid)
open W

/-- Behind a function that decodes a text and makes memory. -/
def RText (w : World) (r : List Int × Nat × Int) (e : Ending) (w' : World) : Prop := e = .returned (.tuple #[.string (strOfNums r.1), .int .i64 r.2.1, .int .i64 r.2.2]) ∧ Below w.heap.size w w'
theorem RText.mk {w w' : World} {r : List Int × Nat × Int} {s : List Int} {b c : Int} {t : ByteArray} (h : r = (s, b.toNat, c)) (ht : t = strOfNums s) (hb : 0 ≤ b) (hw : Below w.heap.size w w') : RText w r (.returned (.tuple #[.string t, .int .i64 b, .int .i64 c])) w' := by
  subst h ht
  refine ⟨?_, hw⟩
  show _ = Ending.returned (.tuple #[.string (strOfNums s), .int .i64 ((b.toNat : Nat) : Int), .int .i64 c])
  rw [show ((b.toNat : Nat) : Int) = b by omega]

set_option maxHeartbeats 800000 in
theorem refGetBytes_any (v : Value) (bs : List Int) (w : World) (hv : ByteView w v bs) (hl : bs.length ≤ 140737488355328) :
    Calls Try.prog 27 #[v] w (RText w (decBytes bs)) := by
  have hle := hv.le
  have HV := hid hv
  have HB := hid hv.bytes
  have HC := hid (refCount_any v bs 1 w hv (.inl rfl) hl)
  obtain ⟨_, ao, cap, rfl, hlc, hcm, _⟩ := hv
  unfold maxLen at hcm
  obtain ⟨L, hL⟩ : ∃ L, L = decBytes bs := ⟨_, rfl⟩
  rw [← hL]
  have HL := hid hL
  clear hL
  unfold decBytes at HL
  have hcast : ((1 : Nat) : Int) = 1 := rfl
  rw [hcast] at HC
  clear hcast
  rcases lenOf_cases bs 1 (by omega) HB.out with ⟨n, u, h, _, h1, h2, h3⟩ | h | h
  · rw [h] at HC HL
    clear h
    replace HL := hid (show L = ((bs.take (u + n)).drop u, u + n, 0) by rw [HL.out, if_neg (by simp)]; simp)
    go_enter Try.func27, Try.ntmps27
    go_wp2_with fail
    refine HC.out.mono ?_
    rintro e w' ⟨rfl, hb⟩
    have hcut := run_cut_lh ao bs.length cap u (u + n) (by omega) (by omega) w'
    have htx := run_text ((HV.out.below hb).cut (l := u) (h := u + n) (by omega) (by omega))
    obtain ⟨S, hS⟩ : ∃ S, S = sliced ao u (u + n) cap 1 := ⟨_, rfl⟩
    rw [← hS] at hcut htx
    simp only [Int.natCast_add] at hcut
    have HBl := hid hb
    clear hS hb
    go_wp2
    go_ret3
    rw [HL.out]
    exact RText.mk (by simp; omega) rfl (by omega) HBl.out
  all_goals
    rw [h] at HC HL
    clear h
    go_enter Try.func27, Try.ntmps27
    go_wp2_with fail
    refine HC.out.mono ?_
    rintro e w' ⟨rfl, hb⟩
    have HBl := hid hb
    clear hb
    go_wp2
    go_ret3
    rw [HL.out]
    exact ⟨rfl, HBl.out⟩

/-- What holds of the world when a loop over a list begins its round k: l has been decoded, u is the next place. -/
structure RefIn {α : Type} (w wr : World) (E : TypeId) (size : Nat) (cells : α → List Value) (d : List Int → α × Nat × Int) (bs : List Int) (u0 k : Nat) (l : List α) (u : Nat) (out : Value) : Prop where
  at_ : steps d bs u0 k = (l, u, 0)
  own : wr.ownsRow w.heap.size E size out l.length (l.flatMap cells)
  below : Below w.heap.size w wr
  le : u ≤ bs.length

theorem RefIn.step {α : Type} {w wr w2 w6 : World} {E : TypeId} {size : Nat} {cells : α → List Value} {d : List Int → α × Nat × Int} {bs : List Int} {u0 k : Nat} {l : List α} {u : Nat} {out out' : Value} {x : α} {m : Nat} {o : Obj}
    (h : RefIn w wr E size cells d bs u0 k l u out) (hb : Below wr.heap.size wr w2) (hd : d (bs.drop u) = (x, m, 0)) (hm : u + m ≤ bs.length)
    (hown : w6.ownsRow w.heap.size E size out' (l.length + 1) (l.flatMap cells ++ cells x)) (hg : (w2.alloc o).grownBy w6 out.ownBlock) : RefIn w w6 E size cells d bs u0 (k + 1) (l ++ [x]) (u + m) out' := by
  have hB := further h.below hb
  refine ⟨steps_ok h.at_ hd, by simpa using hown, ?_, hm⟩
  exact below_owned (hB.alloc hB.size _) ((owned_kept h.own hb).alloc _) hg

theorem RefIn.listed {α : Type} {w wr : World} {E : TypeId} {size : Nat} {cells : α → List Value} {d : List Int → α × Nat × Int} {bs : List Int} {u0 k : Nat} {l : List α} {u : Nat} {out : Value}
    (h : RefIn w wr E size cells d bs u0 k l u out) : Listed w E size cells (l, u, 0) (.returned (.tuple #[out, .int .i64 u, .int .i64 0])) wr :=
  ⟨h.below, _, rfl, h.own⟩

set_option maxHeartbeats 1600000 in
theorem refGetInts_any (v : Value) (bs : List Int) (w : World) (hv : ByteView w v bs) (hbl : bs.length ≤ 1099511627776) :
    Calls Try.prog 29 #[v] w (Listed w 3 1 (fun x => [Value.int .i64 x]) (decList dec 1 bs)) := by
  have hle := hv.le
  have HV := hid hv
  have HB := hid hv.bytes
  have HC := hid (refCount_any v bs 1 w hv (.inl rfl) (by omega))
  obtain ⟨_, ao, cap, rfl, hlc, hcm, _⟩ := hv
  unfold maxLen at hcm
  obtain ⟨L, hL⟩ : ∃ L, L = decList dec 1 bs := ⟨_, rfl⟩
  rw [← hL]
  have HL := hid hL
  clear hL
  have hcast : ((1 : Nat) : Int) = 1 := rfl
  rw [hcast] at HC
  clear hcast
  obtain ⟨i0, hi, hz0, hz1, hz2⟩ := info_parts Try.info3
  rcases lenOf_cases bs 1 (by omega) HB.out with ⟨n, u, h, _, h1, h2, h3⟩ | h | h
  · replace HL := hid (HL.out.trans (decList_ok h))
    rw [h] at HC
    clear h
    go_enter Try.func29, Try.ntmps29
    go_wp2_with fail
    refine HC.out.mono ?_
    rintro e w1 ⟨rfl, hb⟩
    have HB1 := hid hb
    clear hb
    go_wp2
    go_loopw [6, 8, 9] (fun at_ out i wr => ∃ (k : Nat) (l : List Int) (u' : Nat), k ≤ n ∧ i = .int .i64 k ∧ at_ = .int .i64 u' ∧ RefIn w wr 3 1 (fun x => [Value.int .i64 x]) dec bs u k l u' out) (fun _ _ i _ => n - (intOf i).toNat)
    case atStart => exact ⟨0, [], u, by omega, rfl, rfl, rfl, World.ownsRow_nil _ _ _ _, HB1.out, h2⟩
    case round =>
      obtain ⟨k, l, u', hk, rfl, rfl, hin⟩ := hrel
      have HI := hid hin
      have hlen : l.length = k := by have := steps_length dec bs u k; rw [hin.at_] at this; exact this rfl
      have hll : l.length ≤ n := by omega
      have hul := hin.le
      clear hin hlen
      by_cases hkn : k < n
      · have hcut := fun W => run_cut_l ao bs.length cap u' hul W
        have HVr := hid ((HV.out.below HI.out.below).rest hul)
        obtain ⟨S, hS⟩ : ∃ S, S = sliced ao u' bs.length cap 1 := ⟨_, rfl⟩
        simp only [← hS] at hcut HVr
        have HN := hid (refGetInt_any S _ _ HVr.out)
        clear hS
        rcases dec_cases _ (HB.out.drop u') with ⟨x, m, hd, hm1, hm2, hm3⟩ | hd | hd
        · rw [hd] at HN
          have HD := hid hd
          clear hd hm3
          have hm2' : u' + m ≤ bs.length := by simp at hm2; omega
          go_wp2_with fail
          refine HN.out.mono ?_
          rintro e w2 ⟨rfl, hb⟩
          have HB2 := hid hb
          have HO2 := hid (owned_kept HI.out.own hb)
          have hsz2 := Nat.le_trans HI.out.below.size hb.size
          clear hb
          go_wp2_with (at_builtin; go_must (refine wpList_append_own _ rfl (.tmp 38) (.tmp 40) 22 rfl w.heap.size 3 i0 (.int .i64 0) 1 8 Try.under22 hi hz0 hz1 hz2 rfl (by decide) _ l.length (l.flatMap (fun x => [Value.int .i64 x])) rfl (HO2.out.alloc _) ⟨w2.heap.size, 0, none⟩ 1 1 [.int .i64 x] rfl rfl ?c1 ?c2 ?c3 ?c4 ?c5 ?_))
          case c1 => exact cell_new _ _ _ _ (by simp)
          case c2 => intro z hz; simp at hz; subst hz; rfl
          case c3 => unfold maxLen; omega
          case c4 => omega
          case c5 => simp; omega
          intro v' w6 hown' hgrow _
          have HS := hid (HI.out.step HB2.out HD.out hm2' hown' hgrow)
          clear hown' hgrow
          go_wp2
          go_roundw
          case rel => exact ⟨k + 1, l ++ [x], u' + m, by omega, by go_num, by go_num, HS.out⟩
          case measure => simp [intOf]; omega
        all_goals
          have HR := hid (HL.out.trans (decList_stop (by omega) hkn HI.out.at_ hd))
          rw [hd] at HN
          clear hd
          go_wp2_with fail
          refine HN.out.mono ?_
          rintro e w2 ⟨rfl, hb⟩
          have HB2 := hid (further HI.out.below hb)
          clear hb
          go_wp2
          go_ret3
          rw [HR.out]
          exact Listed.nil HB2.out
      · obtain rfl : k = n := by omega
        have HR := hid (HL.out.trans (show _ = (l, u', 0) by rw [HI.out.at_]; simp))
        go_wp2
        go_ret3
        rw [HR.out]
        exact HI.out.listed
  all_goals
    replace HL := hid (HL.out.trans (decList_err h (by omega)))
    rw [h] at HC
    clear h
    go_enter Try.func29, Try.ntmps29
    go_wp2_with fail
    refine HC.out.mono ?_
    rintro e w1 ⟨rfl, hb⟩
    have HB1 := hid hb
    clear hb
    go_wp2
    go_ret3
    rw [HL.out]
    exact Listed.nil HB1.out

set_option maxHeartbeats 1600000 in
theorem refGetStrings_any (v : Value) (bs : List Int) (w : World) (hv : ByteView w v bs) (hbl : bs.length ≤ 1099511627776) :
    Calls Try.prog 32 #[v] w (Listed w 9 1 (fun x => [Value.string (strOfNums x)]) (decList decBytes 1 bs)) := by
  have hle := hv.le
  have HV := hid hv
  have HB := hid hv.bytes
  have HC := hid (refCount_any v bs 1 w hv (.inl rfl) (by omega))
  obtain ⟨_, ao, cap, rfl, hlc, hcm, _⟩ := hv
  unfold maxLen at hcm
  obtain ⟨L, hL⟩ : ∃ L, L = decList decBytes 1 bs := ⟨_, rfl⟩
  rw [← hL]
  have HL := hid hL
  clear hL
  have hcast : ((1 : Nat) : Int) = 1 := rfl
  rw [hcast] at HC
  clear hcast
  obtain ⟨i0, hi, hz0, hz1, hz2⟩ := info_parts Try.info9
  rcases lenOf_cases bs 1 (by omega) HB.out with ⟨n, u, h, _, h1, h2, h3⟩ | h | h
  · replace HL := hid (HL.out.trans (decList_ok h))
    rw [h] at HC
    clear h
    go_enter Try.func32, Try.ntmps32
    go_wp2_with fail
    refine HC.out.mono ?_
    rintro e w1 ⟨rfl, hb⟩
    have HB1 := hid hb
    clear hb
    go_wp2
    go_loopw [6, 8, 9] (fun at_ out i wr => ∃ (k : Nat) (l : List (List Int)) (u' : Nat), k ≤ n ∧ i = .int .i64 k ∧ at_ = .int .i64 u' ∧ RefIn w wr 9 1 (fun x => [Value.string (strOfNums x)]) decBytes bs u k l u' out) (fun _ _ i _ => n - (intOf i).toNat)
    case atStart => exact ⟨0, [], u, by omega, rfl, rfl, rfl, World.ownsRow_nil _ _ _ _, HB1.out, h2⟩
    case round =>
      obtain ⟨k, l, u', hk, rfl, rfl, hin⟩ := hrel
      have HI := hid hin
      have hlen : l.length = k := by have := steps_length decBytes bs u k; rw [hin.at_] at this; exact this rfl
      have hll : l.length ≤ n := by omega
      have hul := hin.le
      clear hin hlen
      by_cases hkn : k < n
      · have hcut := fun W => run_cut_l ao bs.length cap u' hul W
        have HVr := hid ((HV.out.below HI.out.below).rest hul)
        obtain ⟨S, hS⟩ : ∃ S, S = sliced ao u' bs.length cap 1 := ⟨_, rfl⟩
        simp only [← hS] at hcut HVr
        have HN := hid (refGetBytes_any S _ _ HVr.out (by rw [List.length_drop]; omega))
        clear hS
        rcases decBytes_cases _ (HB.out.drop u') with ⟨x, m, hd, hm1, hm2, hm3⟩ | hd | hd
        · rw [hd] at HN
          have HD := hid hd
          clear hd hm3
          have hm2' : u' + m ≤ bs.length := by simp at hm2; omega
          go_wp2_with fail
          refine HN.out.mono ?_
          rintro e w2 ⟨rfl, hb⟩
          have HB2 := hid hb
          have HO2 := hid (owned_kept HI.out.own hb)
          have hsz2 := Nat.le_trans HI.out.below.size hb.size
          clear hb
          go_wp2_with (at_builtin; go_must (refine wpList_append_own _ rfl (.tmp 38) (.tmp 40) 23 rfl w.heap.size 9 i0 (.string ByteArray.empty) 1 16 Try.under23 hi hz0 hz1 hz2 rfl (by decide) _ l.length (l.flatMap (fun x => [Value.string (strOfNums x)])) rfl (HO2.out.alloc _) ⟨w2.heap.size, 0, none⟩ 1 1 [.string (strOfNums x)] rfl rfl ?c1 ?c2 ?c3 ?c4 ?c5 ?_))
          case c1 => exact cell_new _ _ _ _ (by simp)
          case c2 => intro z hz; simp at hz; subst hz; rfl
          case c3 => unfold maxLen; omega
          case c4 => omega
          case c5 => simp; omega
          intro v' w6 hown' hgrow _
          have HS := hid (HI.out.step HB2.out HD.out hm2' hown' hgrow)
          clear hown' hgrow
          go_wp2
          go_roundw
          case rel => exact ⟨k + 1, l ++ [x], u' + m, by omega, by go_num, by go_num, HS.out⟩
          case measure => simp [intOf]; omega
        all_goals
          have HR := hid (HL.out.trans (decList_stop (by omega) hkn HI.out.at_ hd))
          rw [hd] at HN
          clear hd
          go_wp2_with fail
          refine HN.out.mono ?_
          rintro e w2 ⟨rfl, hb⟩
          have HB2 := hid (further HI.out.below hb)
          clear hb
          go_wp2
          go_ret3
          rw [HR.out]
          exact Listed.nil HB2.out
      · obtain rfl : k = n := by omega
        have HR := hid (HL.out.trans (show _ = (l, u', 0) by rw [HI.out.at_]; simp))
        go_wp2
        go_ret3
        rw [HR.out]
        exact HI.out.listed
  all_goals
    replace HL := hid (HL.out.trans (decList_err h (by omega)))
    rw [h] at HC
    clear h
    go_enter Try.func32, Try.ntmps32
    go_wp2_with fail
    refine HC.out.mono ?_
    rintro e w1 ⟨rfl, hb⟩
    have HB1 := hid hb
    clear hb
    go_wp2
    go_ret3
    rw [HL.out]
    exact Listed.nil HB1.out

end Go.Proofs.Ytpdphbliaibkhaa
