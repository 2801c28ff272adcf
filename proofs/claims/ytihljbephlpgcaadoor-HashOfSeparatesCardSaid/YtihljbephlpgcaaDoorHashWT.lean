/-
  The walk of the law HashStreamsAgree.
-/
import Derived.Test.YtihljbephlpgcaaDoorHashV
import Derived.Test.YtihljbephlpgcaaDoorHashWS
import Derived.Test.YtihljbephlpgcaaDoorHashRH
namespace Go.Proofs.YtihljbephlpgcaaDoor
open Go.RowKit
open Go.Lib (hid)
open S

theorem streamL_length (m : List Nat) : (streamL m).length = 73 := strL_length _ _ _ rfl (blkOf_length _)
def SAt (w : World) (g : Nat) (m : List Nat) : Prop := w.heap[g]? = some (.cells (streamL m).toArray 34 (0, 0))

theorem wpList_load_stream {ops : Array Oper} {rest : List Oper} {o : Oper} {a : Act} {w : World} {Q : Exit → Act → World → Prop} (hw : Region.wanted o (yielded ops a.tmps) = true) (x : Operand) (ho : o.op = .load 34 x)
    (g : Nat) (hx : a.eval x = .pointer (some ⟨g, 0, none⟩)) (m : List Nat) (hg : SAt w g m)
    (h : wpList Tryd.prog ops Q rest (a.put o.dst (streamV m)) w) : wpList Tryd.prog ops Q (o :: rest) a w := by
  obtain ⟨d, hd1, hd2⟩ := Tryd.under_s
  exact wpList_load_row_g hw 34 x ho g hx 34 (streamL m).toArray (0, 0) d hg hd1 (by cases d <;> first | rfl | cases hd2) (by rw [List.size_toArray, streamL_length]; exact Tryd.size_s73) h
theorem wpList_store_stream {ops : Array Oper} {rest : List Oper} {o : Oper} {a : Act} {w : World} {Q : Exit → Act → World → Prop} (hgd : o.guard = none) (x y : Operand) (ho : o.op = .store 34 x y)
    (g : Nat) (m : List Nat) (hx : a.eval x = .pointer (some ⟨g, 0, none⟩)) (hy : a.eval y = streamV m) (hg : StreamAt w g)
    (h : ∀ w', Hid (SAt w' g m) → Hid (∀ i, i ≠ g → w'.heap[i]? = w.heap[i]?) → Hid (w'.heap.size = w.heap.size) → Hid (w'.os = w.os ∧ w'.tape = w.tape ∧ w'.output = w.output) → wpList Tryd.prog ops Q rest (a.put o.dst undef) w') : wpList Tryd.prog ops Q (o :: rest) a w := by
  obtain ⟨Z, z1, z2⟩ := hg
  obtain ⟨cur, rfl⟩ : ∃ cur : List Value, Z = cur.toArray := ⟨Z.toList, by simp⟩
  refine wpList_store_at hgd 34 x y ho g 0 (streamL m).toArray hx hy cur 34 z1 (by rw [List.size_toArray, streamL_length]; exact Tryd.size_s73) (by rw [List.size_toArray, streamL_length]; simp at z2; omega) (strL_all _ _ _) fun w' F1 F2 F3 F4 => h w' (hid ?_) F2 F3 F4
  have e := F1.out
  rw [splice_all64 (by simp at z2 ⊢; rw [z2, streamL_length])] at e
  exact e
theorem still_load_stream {ops : Array Oper} {rest : List Oper} {o : Oper} {a : Act} {w : World} {Q : Act → Prop} (hw : Region.wanted o (yielded ops a.tmps) = true) (x : Operand) (ho : o.op = .load 34 x)
    (g : Nat) (hx : a.eval x = .pointer (some ⟨g, 0, none⟩)) (m : List Nat) (hg : SAt w g m)
    (h : wpStill Tryd.prog ops w Q rest (a.put o.dst (streamV m))) : wpStill Tryd.prog ops w Q (o :: rest) a := by
  obtain ⟨d, hd1, hd2⟩ := Tryd.under_s
  refine wpStill_step fun K hK => ?_
  rw [if_pos hw]
  have hr := run_loadVar_row (P := Tryd.prog) w g 34 34 (streamL m).toArray (0, 0) d hg hd1 (by cases d <;> first | rfl | cases hd2) (by rw [List.size_toArray, streamL_length]; exact Tryd.size_s73)
  unfold Oper.still execOp
  simp only [ho, hx, Instr.loadAt, Instr.sureAddr, Sem.run_bind, Sem.run_pure, Result.andThen_ok, hr]
  exact ⟨rfl, hK _ h⟩
theorem SAt.keep {w w' : World} {g : Nat} {m : List Nat} (h : SAt w g m) (hb : Below w.heap.size w w') : SAt w' g m := stays hb h
theorem SAt.at {w : World} {g : Nat} {m : List Nat} (h : SAt w g m) : StreamAt w g := ⟨_, h, by rw [List.size_toArray, streamL_length]⟩

theorem Tryd.under_sse : Tryd.prog.underlying 27 = some (.slice (Tryd.prog.elem 27)) := by kernel_rfl
theorem Tryd.size_sse (w : World) : (sizeOf (Tryd.prog.elem 27)).run Tryd.prog w = .ok 1 w := by kernel_rfl
theorem cut_parts (ao : Option Addr) (n cap kk : Nat) (ss : List ByteArray) (hn : n = ss.length) (hk : kk ≤ n) (hcap : n ≤ cap) :
    ∃ ao', (∀ W, (Instr.slice 27 (.slice ao n cap) none (some (.int .i64 (kk : Int))) none).run Tryd.prog W = .ok (.slice ao' kk cap) W) ∧ ∀ W, Parts W ao ss → Parts W ao' (ss.take kk) := by
  refine ⟨if cap = 0 then ao else ao.map (·.add (0 * 1)), fun W => ?_, fun W hp h0 => ?_⟩
  · rw [run_slice_h W _ _ _ _ Tryd.under_sse _ _ (by omega) (by omega), Tryd.size_sse]
    simp only [Result.andThen, sliced, Int.toNat_natCast, Nat.sub_zero]
  · have h1 : 0 < ss.length := by simp at h0; omega
    obtain ⟨b, off, rfl, hlt, hc⟩ := hp h1
    refine ⟨b, off, ?_, hlt, fun i s hs => hc i s ?_⟩
    · rw [if_neg (by omega), Option.map_some, Addr.add_lit]; rfl
    · rw [List.getElem?_take] at hs
      split at hs
      · exact hs
      · cases hs
theorem few_take {ss : List ByteArray} (h : FewP ss) (k : Nat) : FewP (ss.take k) := ⟨by have := h.1; simp; omega, fun s hs => h.2 s (List.mem_of_mem_take hs)⟩
theorem join_few {ss : List ByteArray} (h : FewP ss) : (joinN ss).length ≤ 4800 := by
  have h1 := joinN_le ss h.2
  have h2 := h.1
  omega

set_option maxRecDepth 100000 in
set_option maxHeartbeats 3200000 in
theorem walkStreams (ao : Option Addr) (cap : Nat) (ss : List ByteArray) (oth : ByteArray) (c : Nat) (w : World) (hp : Parts w ao ss) (hl : ss.length ≤ 9223372036854775807) (hcap : ss.length ≤ cap) (hc : c < 256) (HC' : KC w) (HK' : KR w) :
    Calls Tryd.prog 4 #[.slice ao ss.length cap, .string oth, .int .u8 (c : Int)] w fun e w' => e = .returned (.bool true) ∧ Below w.heap.size w w' := by
  have HC := hid HC'
  have HK := hid HK'
  have HP := hid hp
  have HFew := hid fun W h => Few_any ao cap ss W h hl
  obtain ⟨n, hn⟩ : ∃ n, n = ss.length := ⟨_, rfl⟩
  have HN := hid hn
  rw [← hn] at HFew hl hcap ⊢
  clear hn hp HC' HK'
  go_enter Tryd.func4, Tryd.ntmps4
  go_wp2_with fail
  refine (sanity_any w HK.out).mono ?_
  rintro e w1 ⟨rfl, hb1⟩
  have HB1 := hid hb1
  clear hb1
  go_wp2_with fail
  refine (HFew.out w1 (HP.out.below HB1.out)).mono ?_
  rintro e w2 ⟨rfl, rfl⟩
  by_cases hfew : FewP ss
  · have HF := hid hfew
    have hn12 : n ≤ 12 := by rw [HN.out]; exact hfew.1
    rw [decide_eq_true hfew]
    clear hfew HFew
    by_cases h4 : (400 : Int) < oth.size
    · go_wp2_with fail
      go_ret
      exact ⟨rfl, HB1.out⟩
    · obtain ⟨kk, hkk⟩ : ∃ kk, kk = c % (n + 1) := ⟨_, rfl⟩
      have hk1 : (c : Int) % ((n : Int) + 1) = (kk : Int) := by rw [hkk, Int.natCast_emod]; rfl
      have hkn : kk ≤ n := by rw [hkk]; have := Nat.mod_lt c (show 0 < n + 1 by omega); omega
      clear hkk
      have hz := zero_stream
      obtain ⟨Z, hZ⟩ : ∃ Z, Z = (strL (List.replicate 8 0) (List.replicate 64 0) 0).toArray := ⟨_, rfl⟩
      have HZ := hid (show Z.size = 73 by rw [hZ, List.size_toArray]; exact strL_length _ _ _ rfl rfl)
      rw [← hZ] at hz
      clear hZ
      go_wp2_with fail
      refine (Begin_any w1).mono ?_
      rintro e w3 ⟨rfl, hb3⟩
      have HB3 := hid (further HB1.out hb3)
      clear hb3
      go_wp2_with (refine wpList_store_stream rfl (.tmp 9) (.tmp 32) rfl w3.heap.size [] rfl rfl (StreamAt.new w3 Z HZ.out) ?_)
      intro w4 F1 F2 F3 F4
      have HB4 := hid (below_same (HB3.out.alloc HB3.out.size _) HB3.out.size F2.out (F3.out.trans (by simp)) F4.out)
      have HS4 := F1
      have hg9 := HB3.out.size
      have HP4 := hid (HP.out.below HB4.out)
      obtain ⟨g9, hg⟩ : ∃ g9, g9 = w3.heap.size := ⟨_, rfl⟩
      rw [← hg] at HS4 hg9
      rw [← hg]
      clear F1 F2 F3 F4 hg HZ hz hk1
      go_wp2_with fail
      go_loopw [10] (fun i wr => ∃ k : Nat, k ≤ kk ∧ i = .int .i64 k ∧ Below w.heap.size w wr ∧ SAt wr g9 (joinN (ss.take k))) (fun i _ => kk - (intOf i).toNat)
      case atStart => exact ⟨0, by omega, rfl, HB4.out, HS4.out⟩
      case round =>
        obtain ⟨k, hk, rfl, hB, hS⟩ := hrel
        have HB := hid hB
        have HS := hid hS
        clear hB hS
        by_cases hlt : k < kk
        · have hlt' : (k : Int) < (kk : Int) := by omega
          have hks : k < ss.length := by rw [← HN.out]; omega
          obtain ⟨b, off, rfl, hc0⟩ := part_at (HP.out.below HB.out) hks
          obtain ⟨s, hs⟩ : ∃ s, s = ss[k]'hks := ⟨_, rfl⟩
          rw [← hs] at hc0
          have hss : s.size ≤ 400 := by rw [hs]; exact HF.out.2 _ (List.getElem_mem _)
          have HJ := hid (show joinN (ss.take (k + 1)) = joinN (ss.take k) ++ tx s by rw [joinN_snoc ss k hks, hs])
          have hjl : (joinN (ss.take k)).length ≤ 4800 := by
            have h1 := joinN_le (ss.take k) fun t ht => HF.out.2 t (List.mem_of_mem_take ht)
            have h2 : (ss.take k).length ≤ 12 := by simp; omega
            omega
          clear hs hks
          go_wp2_with fail
          go_still_tail 5, (by kernel_rfl)
          refine still_load_stream rfl (.tmp 9) rfl g9 rfl _ HS.out ?_
          have hkn2 : (k : Int) < (n : Int) := by omega
          have hkn3 : k < n := by omega
          repeat still_step
          refine wpStill_nil ?_
          have HBd := hid (show Below w.heap.size w wr.drew from HB.out.drew)
          have HSd := hid (show SAt wr.drew g9 (joinN (ss.take k)) from HS.out)
          change wpList _ _ _ _ _ wr.drew
          generalize wr.drew = w5 at HBd HSd ⊢
          go_wp2_with fail
          have hX := Add_any (joinN (ss.take k)) s w5 (joinN_bn _) (by omega) (HK.out.below HBd.out)
          rw [← HJ.out] at hX
          refine hX.mono ?_
          clear hX
          rintro e w6 ⟨rfl, hb6⟩
          have HB6 := hid (further HBd.out hb6)
          have HS6 := hid (HSd.out.keep hb6)
          clear hb6
          go_wp2_with (refine wpList_store_stream rfl (.tmp 9) (.tmp 43) rfl g9 (joinN (ss.take (k + 1))) rfl rfl HS6.out.at ?_)
          intro w7 G1 G2 G3 G4
          have HB7 := hid (below_same HB6.out hg9 G2.out G3.out G4.out)
          go_wp2_with fail
          go_roundw
          case rel => exact ⟨k + 1, by omega, by go_num, HB7.out, G1.out⟩
          case measure => simp [intOf]; omega
        · obtain rfl : k = kk := by omega
          have hlt' : ¬ (k : Int) < (k : Int) := by omega
          have hz := zero_stream
          obtain ⟨Z, hZ⟩ : ∃ Z, Z = (strL (List.replicate 8 0) (List.replicate 64 0) 0).toArray := ⟨_, rfl⟩
          have HZ := hid (show Z.size = 73 by rw [hZ, List.size_toArray]; exact strL_length _ _ _ rfl rfl)
          rw [← hZ] at hz
          clear hZ
          have hlt9 : g9 < wr.heap.size := lt_of_heap HS.out
          go_wp2_with (first | (refine wpList_load_stream rfl (.tmp 9) rfl g9 rfl _ HS.out ?_) | (refine wpList_store_stream rfl (.tmp 11) (.tmp 44) rfl wr.heap.size (joinN (ss.take k)) rfl rfl (StreamAt.new wr Z HZ.out) ?_))
          intro w5 F1 F2 F3 F4
          have HE5 := F1
          have HB5 := hid (below_same (HB.out.alloc HB.out.size _) HB.out.size F2.out (F3.out.trans (by simp)) F4.out)
          have HS5 := hid (show SAt w5 g9 (joinN (ss.take k)) from (F2.out g9 (by omega)).trans (stays ((Below.refl _ _).alloc (Nat.le_refl _) _) HS.out))
          obtain ⟨g11, hg11⟩ : ∃ g11, g11 = wr.heap.size := ⟨_, rfl⟩
          have h911 : g9 < g11 := by omega
          have hg11b : w.heap.size ≤ g11 := by have := HB.out.size; omega
          rw [← hg11] at HE5
          rw [← hg11]
          clear F1 F2 F3 F4 hg11 hz HZ hlt9 HB HS
          go_wp2_with fail
          go_loopw [12] (fun i wr => ∃ j : Nat, k ≤ j ∧ j ≤ n ∧ i = .int .i64 j ∧ Below w.heap.size w wr ∧ SAt wr g9 (joinN (ss.take j)) ∧ SAt wr g11 (joinN (ss.take k))) (fun i _ => n - (intOf i).toNat)
          case atStart => exact ⟨k, by omega, by omega, rfl, HB5.out, HS5.out, HE5.out⟩
          case round =>
            clear HB5 HS5 HE5
            obtain ⟨j, hj1, hj2, rfl, hB, hS, hE⟩ := hrel
            have HB := hid hB
            have HS := hid hS
            have HE := hid hE
            clear hB hS hE
            by_cases hlt : j < n
            · have hlt' : (j : Int) < (n : Int) := by omega
              have hks : j < ss.length := by rw [← HN.out]; omega
              obtain ⟨b, off, rfl, hc0⟩ := part_at (HP.out.below HB.out) hks
              obtain ⟨s, hs⟩ : ∃ s, s = ss[j]'hks := ⟨_, rfl⟩
              rw [← hs] at hc0
              have hss : s.size ≤ 400 := by rw [hs]; exact HF.out.2 _ (List.getElem_mem _)
              have HJ := hid (show joinN (ss.take (j + 1)) = joinN (ss.take j) ++ tx s by rw [joinN_snoc ss j hks, hs])
              have hjl : (joinN (ss.take j)).length ≤ 4800 := join_few (few_take HF.out j)
              clear hs hks
              go_wp2_with fail
              go_still_tail 5, (by kernel_rfl)
              refine still_load_stream rfl (.tmp 9) rfl g9 rfl _ HS.out ?_
              repeat still_step
              refine wpStill_nil ?_
              have HBd := hid (show Below w.heap.size w wr.drew from HB.out.drew)
              have HSd := hid (show SAt wr.drew g9 (joinN (ss.take j)) from HS.out)
              have HEd := hid (show SAt wr.drew g11 (joinN (ss.take k)) from HE.out)
              change wpList _ _ _ _ _ wr.drew
              generalize wr.drew = w5 at HBd HSd HEd ⊢
              go_wp2_with fail
              have hX := Add_any (joinN (ss.take j)) s w5 (joinN_bn _) (by omega) (HK.out.below HBd.out)
              rw [← HJ.out] at hX
              refine hX.mono ?_
              clear hX
              rintro e w6 ⟨rfl, hb6⟩
              have HB6 := hid (further HBd.out hb6)
              have HS6 := hid (HSd.out.keep hb6)
              have HE6 := hid (HEd.out.keep hb6)
              clear hb6
              go_wp2_with (refine wpList_store_stream rfl (.tmp 9) (.tmp 57) rfl g9 (joinN (ss.take (j + 1))) rfl rfl HS6.out.at ?_)
              intro w7 G1 G2 G3 G4
              have HB7 := hid (below_same HB6.out hg9 G2.out G3.out G4.out)
              have HE7 := hid (show SAt w7 g11 (joinN (ss.take k)) from (G2.out g11 (by omega)).trans HE6.out)
              go_wp2_with fail
              go_roundw
              case rel => exact ⟨j + 1, by omega, by omega, by go_num, HB7.out, G1.out, HE7.out⟩
              case measure => simp [intOf]; omega
            · obtain rfl : j = n := by omega
              have hlt' : ¬ (j : Int) < (j : Int) := by omega
              have htk : ss.take j = ss := List.take_of_length_le (by rw [← HN.out]; omega)
              have HS1 := hid (show SAt wr g9 (joinN ss) by have := HS.out; rw [htk] at this; exact this)
              have hz := zero_stream
              obtain ⟨Z, hZ⟩ : ∃ Z, Z = (strL (List.replicate 8 0) (List.replicate 64 0) 0).toArray := ⟨_, rfl⟩
              have HZ := hid (show Z.size = 73 by rw [hZ, List.size_toArray]; exact strL_length _ _ _ rfl rfl)
              rw [← hZ] at hz
              have hA1l := join_few HF.out
              have hA2l := join_few (few_take HF.out k)
              obtain ⟨A1, hA1⟩ : ∃ A1, A1 = joinN ss := ⟨_, rfl⟩
              obtain ⟨A2, hA2⟩ : ∃ A2, A2 = joinN (ss.take k) := ⟨_, rfl⟩
              have hB1 : Bn A1 := by rw [hA1]; exact joinN_bn _
              have hB2 : Bn A2 := by rw [hA2]; exact joinN_bn _
              have HJ1 := hid (show strN (joinN ss) = strN A1 by rw [hA1])
              have HJ2 := hid (show strN (joinN (ss.take k)) = strN A2 by rw [hA2])
              have HS := HS1
              rw [← hA1] at hA1l HS
              rw [← hA2] at hA2l HE
              clear hZ HS1 htk hA1 hA2
              go_wp2_with (first | (refine wpList_load_stream rfl (.tmp 11) rfl g11 rfl _ HE.out ?_))
              refine (Add_any A2 oth wr hB2 (by omega) (HK.out.below HB.out)).mono ?_
              rintro e w5 ⟨rfl, hb5⟩
              have HB5 := hid (further HB.out hb5)
              have HS5 := hid (HS.out.keep hb5)
              have HE5 := hid (HE.out.keep hb5)
              have hl9 : g9 < w5.heap.size := lt_of_heap HS5.out
              have hl11 : g11 < w5.heap.size := lt_of_heap HE5.out
              clear hb5 HB HS HE
              obtain ⟨A3, hA3⟩ : ∃ A3, A3 = A2 ++ tx oth := ⟨_, rfl⟩
              have HA3 := hid hA3
              have hA3l : A3.length ≤ 5200 := by rw [hA3, List.length_append, tx_length]; omega
              have hB3 : Bn A3 := by rw [hA3]; exact bn_app hB2 (tx_bn _)
              rw [← hA3]
              clear hA3
              go_wp2_with (refine wpList_store_stream rfl (.tmp 13) (.tmp 60) rfl w5.heap.size A3 rfl rfl (StreamAt.new w5 Z HZ.out) ?_)
              intro w6 F1 F2 F3 F4
              have HF6 := F1
              have HB6 := hid (below_same (HB5.out.alloc HB5.out.size _) HB5.out.size F2.out (F3.out.trans (by simp)) F4.out)
              have HS6 := hid (show SAt w6 g9 A1 from (F2.out g9 (by omega)).trans (stays ((Below.refl _ _).alloc (Nat.le_refl _) _) HS5.out))
              have HE6 := hid (show SAt w6 g11 A2 from (F2.out g11 (by omega)).trans (stays ((Below.refl _ _).alloc (Nat.le_refl _) _) HE5.out))
              obtain ⟨g13, hg13⟩ : ∃ g13, g13 = w5.heap.size := ⟨_, rfl⟩
              rw [← hg13] at HF6
              rw [← hg13]
              clear F1 F2 F3 F4 hg13 hl9 hl11 HB5 HS5 HE5 hz HZ
              go_wp2_with fail
              have hX := Joined_any ao cap ss w6 (HP.out.below HB6.out) HF.out
              rw [← HN.out, HJ1.out] at hX
              refine hX.mono ?_
              clear hX
              rintro e w7 ⟨rfl, rfl⟩
              obtain ⟨ao2, hcut, hpar⟩ := cut_parts ao j cap k ss HN.out (by omega) hcap
              go_wp2_with fail
              have hX := Joined_any ao2 cap (ss.take k) w6 (hpar _ (HP.out.below HB6.out)) (few_take HF.out k)
              rw [show (ss.take k).length = k by rw [List.length_take, ← HN.out]; omega, HJ2.out] at hX
              refine hX.mono ?_
              clear hX hcut hpar
              rintro e w7 ⟨rfl, rfl⟩
              obtain ⟨S1, hS1⟩ : ∃ S1, S1 = strN A1 := ⟨_, rfl⟩
              obtain ⟨S2, hS2⟩ : ∃ S2, S2 = strN A2 := ⟨_, rfl⟩
              have HT1 := hid (show tx S1 = A1 by rw [hS1, tx_strN _ hB1])
              have HT2 := hid (show tx S2 = A2 by rw [hS2, tx_strN _ hB2])
              have hs1 : S1.size ≤ 4800 := by rw [hS1, strN_size]; exact hA1l
              have hs2 : S2.size ≤ 4800 := by rw [hS2, strN_size]; exact hA2l
              rw [← hS1, ← hS2]
              clear hS1 hS2
              obtain ⟨S3, hS3⟩ : ∃ S3, S3 = S2 ++ oth := ⟨_, rfl⟩
              have HT3 := hid (show tx S3 = A3 by rw [hS3, tx_append, HT2.out, HA3.out])
              have hs3 : S3.size ≤ 5200 := by rw [← tx_length, HT3.out]; exact hA3l
              have hadd : S2 ++ oth = S3 := hS3.symm
              clear hS3
              obtain ⟨L1, hL1⟩ : ∃ L1, L1 = bytesV (sha A1) := ⟨_, rfl⟩
              obtain ⟨L2, hL2⟩ : ∃ L2, L2 = bytesV (sha A2) := ⟨_, rfl⟩
              obtain ⟨L3, hL3⟩ : ∃ L3, L3 = bytesV (sha A3) := ⟨_, rfl⟩
              have HL1 := hid hL1
              have HL2 := hid hL2
              have HL3 := hid hL3
              have hq1 : ∀ W, (Op.equalIn 10000 24 (.agg L1) (.agg L1)).run Tryd.prog W = .ok true W := by rw [hL1]; exact fun W => eqlI _ (sha_length _) W
              have hq2 : ∀ W, (Op.equalIn 10000 24 (.agg L2) (.agg L2)).run Tryd.prog W = .ok true W := by rw [hL2]; exact fun W => eqlI _ (sha_length _) W
              have hq3 : ∀ W, (Op.equalIn 10000 24 (.agg L3) (.agg L3)).run Tryd.prog W = .ok true W := by rw [hL3]; exact fun W => eqlI _ (sha_length _) W
              have hr1 : ∀ W, (binOp .eql 24 (.agg L1) (.agg L1)).run Tryd.prog W = .ok (.bool true) W := by rw [hL1]; exact fun W => eqlV _ (sha_length _) W
              have hr2 : ∀ W, (binOp .eql 24 (.agg L2) (.agg L2)).run Tryd.prog W = .ok (.bool true) W := by rw [hL2]; exact fun W => eqlV _ (sha_length _) W
              have hr3 : ∀ W, (binOp .eql 24 (.agg L3) (.agg L3)).run Tryd.prog W = .ok (.bool true) W := by rw [hL3]; exact fun W => eqlV _ (sha_length _) W
              clear hL1 hL2 hL3
              have kc := fun (W : World) (s : ByteArray) => Lib.run_convert_string_bytes (P := Tryd.prog) W 9 22 5 s Tryd.under_str Tryd.under_bs Tryd.under_u8
              go_wp2_with (refine wpList_load_stream rfl (.tmp 9) rfl g9 rfl _ HS6.out ?_)
              have hX := StreamSum_any A1 w6 hB1 (by omega) (HK.out.below HB6.out)
              rw [← HL1.out] at hX
              refine hX.mono ?_
              clear hX
              rintro e w7 ⟨rfl, hb2⟩
              have HB7 := hid (further HB6.out hb2)
              have HS7 := hid (HS6.out.keep hb2)
              have HE7 := hid (HE6.out.keep hb2)
              have HF7 := hid (HF6.out.keep hb2)
              clear hb2
              go_wp2_with fail
              have hX := refSum_any w7.heap.size 0 (grownCap w7 S1.size 0 5) (tx S1) (Lib.bytesWorld w7 5 S1) (by rw [tx_length]; omega) (tx_bn _) (lie_bytes w7 S1) (HC.out.below (further HB7.out (bytesW_below w7 5 S1)))
              rw [tx_length, HT1.out, ← HL1.out] at hX
              refine hX.mono ?_
              clear hX
              rintro e w8 ⟨rfl, hb⟩
              have hb2 := further (bytesW_below w7 5 S1) hb
              have HB8 := hid (further HB7.out hb2)
              have HS8 := hid (HS7.out.keep hb2)
              have HE8 := hid (HE7.out.keep hb2)
              have HF8 := hid (HF7.out.keep hb2)
              clear hb hb2
              go_wp2_with (refine wpList_load_stream rfl (.tmp 11) rfl g11 rfl _ HE8.out ?_)
              have hX := StreamSum_any A2 w8 hB2 (by omega) (HK.out.below HB8.out)
              rw [← HL2.out] at hX
              refine hX.mono ?_
              clear hX
              rintro e w9 ⟨rfl, hb2⟩
              have HB9 := hid (further HB8.out hb2)
              have HS9 := hid (HS8.out.keep hb2)
              have HE9 := hid (HE8.out.keep hb2)
              have HF9 := hid (HF8.out.keep hb2)
              clear hb2
              go_wp2_with fail
              have hX := refSum_any w9.heap.size 0 (grownCap w9 S2.size 0 5) (tx S2) (Lib.bytesWorld w9 5 S2) (by rw [tx_length]; omega) (tx_bn _) (lie_bytes w9 S2) (HC.out.below (further HB9.out (bytesW_below w9 5 S2)))
              rw [tx_length, HT2.out, ← HL2.out] at hX
              refine hX.mono ?_
              clear hX
              rintro e w10 ⟨rfl, hb⟩
              have hb2 := further (bytesW_below w9 5 S2) hb
              have HB10 := hid (further HB9.out hb2)
              have HS10 := hid (HS9.out.keep hb2)
              have HE10 := hid (HE9.out.keep hb2)
              have HF10 := hid (HF9.out.keep hb2)
              clear hb hb2
              go_wp2_with (refine wpList_load_stream rfl (.tmp 13) rfl g13 rfl _ HF10.out ?_)
              have hX := StreamSum_any A3 w10 hB3 (by omega) (HK.out.below HB10.out)
              rw [← HL3.out] at hX
              refine hX.mono ?_
              clear hX
              rintro e w11 ⟨rfl, hb2⟩
              have HB11 := hid (further HB10.out hb2)
              have HS11 := hid (HS10.out.keep hb2)
              have HE11 := hid (HE10.out.keep hb2)
              have HF11 := hid (HF10.out.keep hb2)
              clear hb2
              go_wp2_with fail
              have hX := refSum_any w11.heap.size 0 (grownCap w11 S3.size 0 5) (tx S3) (Lib.bytesWorld w11 5 S3) (by rw [tx_length]; omega) (tx_bn _) (lie_bytes w11 S3) (HC.out.below (further HB11.out (bytesW_below w11 5 S3)))
              rw [tx_length, HT3.out, ← HL3.out] at hX
              refine hX.mono ?_
              clear hX
              rintro e w12 ⟨rfl, hb⟩
              have hb2 := further (bytesW_below w11 5 S3) hb
              have HB12 := hid (further HB11.out hb2)
              have HS12 := hid (HS11.out.keep hb2)
              have HE12 := hid (HE11.out.keep hb2)
              have HF12 := hid (HF11.out.keep hb2)
              clear hb hb2
              go_wp2_with (refine wpList_load_stream rfl (.tmp 9) rfl g9 rfl _ HS12.out ?_)
              have hX := StreamSum_any A1 w12 hB1 (by omega) (HK.out.below HB12.out)
              rw [← HL1.out] at hX
              refine hX.mono ?_
              clear hX
              rintro e w13 ⟨rfl, hb2⟩
              have HB13 := hid (further HB12.out hb2)
              have HS13 := hid (HS12.out.keep hb2)
              have HE13 := hid (HE12.out.keep hb2)
              have HF13 := hid (HF12.out.keep hb2)
              clear hb2
              go_wp2_with fail
              have hX := Sum_any A1 (.slice (some ⟨w13.heap.size, 0, none⟩) S1.size (grownCap w13 S1.size 0 5)) (Lib.bytesWorld w13 5 S1) hB1 (by omega) (by have := textOf_bytes w13 S1 (grownCap w13 S1.size 0 5); rw [HT1.out] at this; exact this) (HK.out.below (further HB13.out (bytesW_below w13 5 S1)))
              rw [← HL1.out] at hX
              refine hX.mono ?_
              clear hX
              rintro e w14 ⟨rfl, hb⟩
              have HB14 := hid (further (further HB13.out (bytesW_below w13 5 S1)) hb)
              clear hb
              go_wp2_with fail
              go_ret
              exact ⟨rfl, HB14.out⟩
  · rw [decide_eq_false hfew]
    clear HFew
    go_wp2_with fail
    go_ret
    exact ⟨rfl, HB1.out⟩

end Go.Proofs.YtihljbephlpgcaaDoor
