/-
  Contracts of gantry/gantryref02: Sum.
-/
import Derived.Test.YthadfilandmhiaaDoorSB18
import Derived.Test.YthadfilandmhiaaDoorSB22
import Derived.Test.YthadfilandmhiaaDoorSB19
import Derived.Laws.Slices
set_option linter.unusedVariables false
set_option linter.unusedSimpArgs false
set_option linter.unusedSectionVars false
namespace Go.Proofs.YthadfilandmhiaaDoor
open Go.RowKit
open Go.Lib (hid)
open S
theorem Tryd.under_bse : Tryd.prog.underlying 51 = some (.slice (Tryd.prog.elem 51)) := by kernel_rfl
theorem Tryd.size_bse (w : World) : (sizeOf (Tryd.prog.elem 51)).run Tryd.prog w = .ok 1 w := by kernel_rfl
theorem run_cut64 (g n cap len : Nat) (h : n + 64 ≤ cap) (w : World) :
    (Instr.slice 51 (.slice (some ⟨g, 0, none⟩) len cap) (some (.int .i64 (n : Int))) (some (.int .i64 ((n : Int) + 64))) none).run Tryd.prog w = .ok (.slice (some ⟨g, n, none⟩) 64 (cap - n)) w := by
  have e : (n : Int) + 64 = ((n + 64 : Nat) : Int) := by omega
  rw [e, run_slice_lh w _ _ _ _ Tryd.under_bse _ _ _ _ (by omega) (by omega) (by omega), Tryd.size_bse]
  simp only [Result.andThen, sliced, Int.toNat_natCast]
  rw [if_neg (by omega)]
  simp [Addr.add_lit]

theorem bn_app {a b : List Nat} (ha : Bn a) (hb : Bn b) : Bn (a ++ b) := fun x hx => (List.mem_append.1 hx).elim (ha x) (hb x)
theorem lie_of_own {w : World} {base : Nat} {v : Value} {n : Nat} {M : List Nat} (h : w.ownsRow base 5 1 v n (bc M)) (hn : 0 < n) :
    ∃ g c, v = .slice (some ⟨g, 0, none⟩) n c ∧ base ≤ g ∧ n ≤ c ∧ c ≤ maxLen ∧ Lie w g 0 M ∧ M.length = n := by
  have hl : M.length = n := by have := h.1; simpa [bc] using this
  rcases h.2 with ⟨_, h0⟩ | ⟨g, c, cur, rfl, h1, h2, h3, h4, h5, h6⟩
  · omega
  · refine ⟨g, c, rfl, h1, h3, h4, ⟨lt_of_heap h2, fun i hi => ?_⟩, hl⟩
    rw [Nat.zero_add, cell_of_row _ _ _ _ _ _ h2]
    have e : (cur.toList.take (n * 1))[i]? = (bc M)[i]? := by rw [h6]
    rw [List.getElem?_take, if_pos (by omega)] at e
    rw [← Array.getElem?_toList, e]
    simp [bc, hi]
theorem chs_cast2 (e f g : Nat) (h1 : e < 4294967296) (h2 : f < 4294967296) (h3 : g < 4294967296) :
    bits .xor .u32 (bits .and .u32 e f) (bits .and .u32 (bits .xor .u32 e 4294967295) g) = (chs e f g : Nat) := by
  have h := chs_cast e f g h1 h2 h3
  have e1 : (if IntKind.u32.signed = true then -1 else IntKind.u32.max) = ((4294967295 : Nat) : Int) := by decide
  have e2 : bits .xor .u32 (e : Int) 4294967295 = bits .xor .u32 ((4294967295 : Nat) : Int) (e : Int) := by
    rw [u32_xor_nat _ _ (by decide) h1, show (4294967295 : Int) = ((4294967295 : Nat) : Int) from rfl, u32_xor_nat _ _ h1 (by decide), Nat.xor_comm]
  rw [e1] at h
  rw [e2]
  exact h

theorem splice_all64 {cur L : List Value} (h : cur.length = L.length) : (splice cur 0 L).toArray = L.toArray := by
  unfold splice
  rw [List.take_zero, List.nil_append, Nat.zero_add, List.drop_eq_nil_of_le (by omega), List.append_nil]
theorem cell_same {w w' : World} {g o : Nat} (h : w'.heap[g]? = w.heap[g]?) : w'.cell? ⟨g, o, none⟩ = w.cell? ⟨g, o, none⟩ := by
  unfold World.cell?
  rw [h]
/-- While the bytes are written. -/
def FinRow (w wx : World) (st : St) (i : Nat) (wr : World) : Prop :=
  Below w.heap.size w wr ∧ Res32 w wr ∧ wr.heap[w.heap.size + 1]? = some (.cells (wordsV st.list) 76 (0, 0)) ∧ wr.rowIs wx.heap.size 84 32 (fun p => if p < i then .int .u8 ((bytes32 st).getD p 0 : Nat) else .int .u8 0)
theorem FinRow.start {w wx : World} {st : St} (h1 : Below w.heap.size w wx) (h2 : Res32 w wx) (h3 : wx.heap[w.heap.size + 1]? = some (.cells (wordsV st.list) 76 (0, 0))) (Z : Array Value) (hZ : Z = Array.replicate 32 (.int .u8 0)) : FinRow w wx st 0 (wx.alloc (.cells Z 84)) := by
  have hz : Z.size = 32 := by rw [hZ, Array.size_replicate]
  have hb : Below wx.heap.size wx (wx.alloc (.cells Z 84)) := (Below.refl _ _).alloc (Nat.le_refl _) _
  have hr := World.rowIs_alloc wx Z 84 (fun _ => .int .u8 0) (lits_at _ hZ)
  rw [hz] at hr
  exact ⟨further h1 hb, h2.keep hb, stays hb h3, hr.congr fun p _ => by rw [if_neg (by omega)]⟩
theorem fin_step {st : St} {q i : Nat} (hq : q = st.list.getD (i / 4) 0 / 2 ^ (24 - 8 * (i % 4))) (hi : i < 32) (p : Nat) :
    (if p = i then Value.int .u8 ((q : Int) % 256) else (if p < i then Value.int .u8 ((bytes32 st).getD p 0 : Nat) else .int .u8 0)) = (if p < i + 1 then Value.int .u8 ((bytes32 st).getD p 0 : Nat) else .int .u8 0) := by
  by_cases h : p = i
  · have hb := bytes32_at st (i / 4) (i % 4) (by omega) (by omega)
    rw [show 4 * (i / 4) + i % 4 = i by omega, ← hq] at hb
    rw [if_pos h, if_pos (by omega), h, hb]
    rfl
  · rw [if_neg h]
    by_cases h2 : p < i
    · rw [if_pos h2, if_pos (by omega)]
    · rw [if_neg h2, if_neg (by omega)]
theorem FinRow.done {w wx wr : World} {st : St} (h : FinRow w wx st 32 wr) : wr.heap[wx.heap.size]? = some (.cells (bytesV (bytes32 st)) 84 (0, 0)) := by
  obtain ⟨_, _, _, c, h1, h2, h3⟩ := h
  have : c = bytesV (bytes32 st) := bytes_of (h2.trans (bytes32_length st).symm) (fun i hi => by
    rw [bytes32_length] at hi
    exact (h3 i hi).trans (congrArg some (if_pos hi)))
  rw [← this]
  exact h1
/-- Between two blocks. -/
def SumO (w : World) (M : List Nat) (n : Nat) (wr : World) : Prop :=
  Below w.heap.size w wr ∧ Res32 w wr ∧ wr.heap[w.heap.size + 1]? = some (.cells (wordsV (after M n).list) 76 (0, 0))

theorem t6 : Turn 6 6 := by unfold Turn; omega
theorem t11 : Turn 11 11 := by unfold Turn; omega
theorem t25 : Turn 25 25 := by unfold Turn; omega
theorem t2 : Turn 2 2 := by unfold Turn; omega
theorem t13 : Turn 13 13 := by unfold Turn; omega
theorem t22 : Turn 22 22 := by unfold Turn; omega

theorem block_cells {w : World} {g t : Nat} {M : List Nat} (h : Lie w g 0 M) (ht : t + 64 ≤ M.length) : ∀ i, i < 64 → w.cell? ⟨g, t + i, none⟩ = some (.int .u8 (((M.drop t).take 64).getD i 0 : Nat)) := by
  intro i hi
  have := h.2 (t + i) (by omega)
  rw [Nat.zero_add] at this
  rw [this]
  simp [List.getD_eq_getElem?_getD, hi]
theorem block_length {t : Nat} {M : List Nat} (ht : t + 64 ≤ M.length) : ((M.drop t).take 64).length = 64 := by simp; omega
theorem block_bn {t : Nat} {M : List Nat} (h : Bn M) : Bn ((M.drop t).take 64) := fun x hx => h x (List.mem_of_mem_drop (List.mem_of_mem_take hx))

set_option maxRecDepth 100000 in
set_option maxHeartbeats 6400000 in
theorem refSum_any (bk off cap : Nat) (m : List Nat) (w : World) (hm : m.length ≤ 1000000) (hB : Bn m) (hL : Lie w bk off m) (hC : KC w) :
    Calls Tryd.prog 66 #[.slice (some ⟨bk, off, none⟩) m.length cap] w fun e w' => e = .returned (.agg (bytesV (sha m))) ∧ Below w.heap.size w w' := by
  have HLi := hid hL
  have HC := hid hC
  have HBn := hid hB
  have HP := hid fun W hW => padded_any bk off cap m W hm (hL.below hW)
  obtain ⟨ml, hml⟩ : ∃ ml, ml = m.length := ⟨_, rfl⟩
  rw [← hml] at HP hm ⊢
  have HMl := hid hml
  clear hL hC hB hml
  go_enter Tryd.func66, Tryd.ntmps66
  go_wp2_with fail
  have hW1 : Below w.heap.size w ((w.alloc (.cells (Array.replicate 32 (.int .u8 0)) 84)).alloc (.cells (wordsV iv.list) 76)) := ((Below.refl _ _).alloc (Nat.le_refl _) _).alloc (by simp) _
  have hO : SumO w (m ++ pad ml) 0 ((w.alloc (.cells (Array.replicate 32 (.int .u8 0)) 84)).alloc (.cells (wordsV iv.list) 76)) := by
    refine ⟨hW1, ⟨Array.replicate 32 (.int .u8 0), ?_, Array.size_replicate⟩, ?_⟩
    · exact stays ((Below.refl _ _).alloc (Nat.le_refl _) _) (heap_alloc_new w _)
    · have := heap_alloc_new (w.alloc (.cells (Array.replicate 32 (.int .u8 0)) 84)) (.cells (wordsV iv.list) 76)
      simpa [after] using this
  have hsz1 : ((w.alloc (.cells (Array.replicate 32 (.int .u8 0)) 84)).alloc (.cells (wordsV iv.list) 76)).heap.size = w.heap.size + 2 := by simp
  refine (HP.out _ hW1).mono ?_
  rintro e w2 ⟨v2, rfl, hown, hb2⟩
  obtain ⟨M, hM⟩ : ∃ M, M = m ++ pad ml := ⟨_, rfl⟩
  have hO2 : SumO w M 0 w2 := by
    rw [hM]
    exact ⟨further hW1 hb2, hO.2.1.keep hb2, stays hb2 hO.2.2⟩
  obtain ⟨ML, hML⟩ : ∃ ML, ML = M.length := ⟨_, rfl⟩
  have hq : ML % 64 = 0 := by rw [hML, hM, List.length_append, ← HMl.out]; exact pad_length ml
  have hpos : 0 < ML := by rw [hML, hM]; simp [pad]; omega
  have hle : ML ≤ 1000100 := by
    have := pad_le ml
    rw [hML, hM, List.length_append, ← HMl.out]; omega
  rw [← hM, ← hML, hsz1] at hown
  obtain ⟨g, c2, rfl, hg, hc1, hc2, hLie, _⟩ := lie_of_own hown hpos
  have HBM := hid (show Bn M by rw [hM]; exact bn_app HBn.out (pad_bn ml))
  have HM := hid hM
  have HML := hid hML
  have HO := hid hO2
  have HLie := hid hLie
  unfold maxLen at hc2
  clear hown hb2 hW1 hO hsz1 hM hML hO2 hLie HP HLi
  obtain ⟨q, hqq⟩ : ∃ q, q = ML / 64 := ⟨_, rfl⟩
  have hq1 : 64 * q ≤ ML := by omega
  have hq2 : ML ≤ 64 * q := by omega
  have HQ := hid hqq
  clear hqq hq
  go_wp2_with fail
  go_loopw [5] (fun i wr => ∃ t n : Nat, t = 64 * n ∧ n ≤ q ∧ i = .int .i64 t ∧ SumO w M n wr ∧ Lie wr g 0 M) (fun i _ => ML + 64 - (intOf i).toNat)
  case atStart => exact ⟨0, 0, rfl, by omega, rfl, HO.out, HLie.out⟩
  case round =>
    clear HO HLie
    obtain ⟨t, n, ht, hn, rfl, ⟨hB, hR, hS⟩, hLi⟩ := hrel
    have HT := hid ht
    have ht1 : t ≤ 64 * n := by omega
    have ht2 : 64 * n ≤ t := by omega
    clear ht
    have HB := hid hB
    have HR := hid hR
    have HS := hid hS
    have HLi := hid hLi
    clear hB hR hS hLi
    by_cases hlt : t < ML
    · have hlt' : (t : Int) < (ML : Int) := by omega
      have hcut := fun W => run_cut64 g t c2 ML (by omega) W
      go_wp2_with fail
      have hbl := HML.out
      refine (words_any g t (c2 - t) ((M.drop t).take 64) wr (block_length (by omega)) (block_bn HBM.out) HLi.out.1 (block_cells HLi.out (by omega))).mono ?_
      rintro e w3 ⟨rfl, hb3⟩
      obtain ⟨ws, hws⟩ : ∃ ws, ws = sched ((M.drop t).take 64) := ⟨_, rfl⟩
      have hwl : ws.length = 64 := by rw [hws]; unfold sched; rw [wordsUpto_length]
      have HWl := hid (show Ws ws by rw [hws]; exact wordsUpto_ws _ (block_bn HBM.out) 48)
      rw [← hws]
      have HWs := hid hws
      obtain ⟨WV, hWV⟩ : ∃ WV, WV = wordsV ws := ⟨_, rfl⟩
      have HWV := hid hWV
      have HWV64 := hid (show WV.size = 64 by rw [hWV, wordsV_size, hwl])
      have HB3 := hid (further HB.out hb3)
      have HR3 := hid (HR.out.keep hb3)
      have HS3 := hid (stays hb3 HS.out)
      have HLi3 := hid (HLi.out.below hb3)
      have HW64 := hid hwl
      rw [← hWV]
      clear hws hWV hb3 HB HR HS HLi hcut hbl hwl
      go_wp2_with (with_reducible refine wpList_store_at rfl 100 (.tmp 6) (.tmp 34) rfl w3.heap.size 0 WV rfl rfl _ 100 (heap_alloc_new w3 _) ?s1 ?s2 ?s3 ?_)
      case s1 => rw [HWV64.out]; exact Tryd.size_w64
      case s2 => rw [HWV64.out]; exact Nat.le_refl _
      case s3 => rw [HWV.out]; exact wordsV_one _
      intro w4 F1 F2 F3 F4
      have HA4 := hid (show w4.heap[w3.heap.size]? = some (.cells WV 100 (0, 0)) by
        rw [F1.out, splice_all64 (by show 64 = WV.toList.length; rw [Array.length_toList, HWV64.out])])
      have hbw := below_same ((Below.refl w3.heap.size w3).alloc (Nat.le_refl _) (.cells (Array.replicate 64 (.int .u32 0)) 100)) (Nat.le_refl _) F2.out (F3.out.trans (by simp)) F4.out
      have HB4 := hid (further HB3.out hbw)
      have HR4 := hid (HR3.out.keep hbw)
      have HS4 := hid (stays hbw HS3.out)
      have HLi4 := hid (HLi3.out.below hbw)
      clear hbw F1 F2 F3 F4 HB3 HR3 HS3 HLi3
      obtain ⟨st, hst⟩ : ∃ st, st = after M n := ⟨_, rfl⟩
      have hok : st.ok := by rw [hst]; exact after_ok M n
      rw [← hst] at HS4
      have HSt := hid hst
      clear hst
      obtain ⟨a, b1, c, d, e, f, gg, h⟩ := st
      have HOk := hid hok
      clear hok
      have cells8 : ∀ i v, (wordsV [a, b1, c, d, e, f, gg, h])[i]? = some v → w4.cell? ⟨w.heap.size + 1, i, none⟩ = some v := fun i v hv => (cell_of_row _ _ _ _ _ _ HS4.out).trans hv
      have c0 := cells8 0 (.int .u32 (a : Int)) rfl
      have c1 := cells8 1 (.int .u32 (b1 : Int)) rfl
      have c2' := cells8 2 (.int .u32 (c : Int)) rfl
      have c3 := cells8 3 (.int .u32 (d : Int)) rfl
      have c4 := cells8 4 (.int .u32 (e : Int)) rfl
      have c5 := cells8 5 (.int .u32 (f : Int)) rfl
      have c6 := cells8 6 (.int .u32 (gg : Int)) rfl
      have c7 := cells8 7 (.int .u32 (h : Int)) rfl
      have HC8 := hid cells8
      clear cells8
      go_wp2
      go_quiet (fail)
      go_wp2_with fail
      clear c0 c1 c2' c3 c4 c5 c6 c7
      go_loopw [7, 8, 9, 10, 11, 12, 13, 14, 15] (fun v5 v6 v7 v8 v9 v10 v11 v12 i wr => ∃ tt : Nat, tt ≤ 64 ∧ i = .int .i64 tt ∧ ∃ r, r = rounds ⟨a, b1, c, d, e, f, gg, h⟩ ws tt ∧ v5 = .int .u32 r.a ∧ v6 = .int .u32 r.b ∧ v7 = .int .u32 r.c ∧ v8 = .int .u32 r.d ∧ v9 = .int .u32 r.e ∧ v10 = .int .u32 r.f ∧ v11 = .int .u32 r.g ∧ v12 = .int .u32 r.h ∧ ∃ n, wr = w4.drewN n) (fun _ _ _ _ _ _ _ _ i _ => 64 - (intOf i).toNat)
      case atStart => exact ⟨0, by omega, rfl, _, rfl, rfl, rfl, rfl, rfl, rfl, rfl, rfl, rfl, _, rfl⟩
      case round =>
        obtain ⟨tt, htt, rfl, ⟨r1, r2, r3, r4, r5, r6, r7, r8⟩, hr, rfl, rfl, rfl, rfl, rfl, rfl, rfl, rfl, nn, rfl⟩ := hrel
        have hok := rounds_ok HOk.out ws tt
        rw [← hr] at hok
        have HRr := hid hr
        clear hr
        obtain ⟨o1, o2, o3, o4, o5, o6, o7, o8⟩ := hok
        by_cases hlt2 : tt < 64
        · obtain ⟨k, hk⟩ : ∃ k, k = ks.getD tt 0 := ⟨_, rfl⟩
          obtain ⟨x, hx⟩ : ∃ x, x = ws.getD tt 0 := ⟨_, rfl⟩
          have hc := (HC.out.below HB4.out).2 tt hlt2
          have hi : w4.cell? ⟨w3.heap.size, tt, none⟩ = some (.int .u32 (ws.getD tt 0 : Nat)) := by
            rw [cell_of_row _ _ _ _ _ _ HA4.out, HWV.out]
            exact wordsV_at ws tt (by rw [HW64.out]; exact hlt2)
          have kl : k < 4294967296 := by rw [hk]; exact ks_lt tt
          have xl : x < 4294967296 := by rw [hx]; exact HWl.out.getD tt
          rw [← hk] at hc
          rw [← hx] at hi
          have HKk := hid hk
          have HXx := hid hx
          clear hk hx
          have E1 := big1_cast r5 o5
          have E2 := chs_cast2 r5 r6 r7 o5 o6 o7
          go_wp2
          go_quiet (first | (go_at_call 72; with_reducible exact quiet_add_ref (refRotr_any r5 6 6 _ o5 t6)) | (go_at_call 72; with_reducible exact quiet_add_ref (refRotr_any r5 11 11 _ o5 t11)) | (go_at_call 72; with_reducible exact quiet_add_ref (refRotr_any r5 25 25 _ o5 t25)))
          clear E1 E2
          have E5 := big0_cast r1 o1
          have E6 := major_cast r1 r2 r3 o1 o2 o3
          obtain ⟨Y, hY⟩ : ∃ Y, Y = yOf ⟨r1, r2, r3, r4, r5, r6, r7, r8⟩ := ⟨_, rfl⟩
          have E7 : ((big0 r1 : Nat) + (major r1 r2 r3 : Nat) : Int) % 4294967296 = (Y : Int) := by rw [hY]; exact sum2_cast _ _
          have HY := hid hY
          clear hY
          go_wp2_with fail
          refine (refRotr_any r1 2 2 _ o1 t2).mono ?_
          rintro e' w' ⟨rfl, k1, rfl⟩
          go_wp2_with fail
          refine (refRotr_any r1 13 13 _ o1 t13).mono ?_
          rintro e' w' ⟨rfl, k2, rfl⟩
          go_wp2_with fail
          refine (refRotr_any r1 22 22 _ o1 t22).mono ?_
          rintro e' w' ⟨rfl, k3, rfl⟩
          go_wp2
          go_roundw
          case rel =>
            refine ⟨tt + 1, by omega, by go_num, S.step ⟨r1, r2, r3, r4, r5, r6, r7, r8⟩ k x, ?_, ?_, rfl, rfl, rfl, ?_, rfl, rfl, rfl, ?_⟩
            · rw [rounds, ← HRr.out, ← HKk.out, ← HXx.out]
            · rw [fin_a, HY.out]; rfl
            · rw [fin_e]; rfl
            · exact ⟨_, rfl⟩
          case measure => simp [intOf]; omega
        · obtain rfl : tt = 64 := by omega
          have hB5 : Below w.heap.size w (w4.drewN nn) := below_drewN HB4.out nn
          have HB5 := hid hB5
          have HR5 := hid (show Res32 w (w4.drewN nn) from HR4.out)
          have HLi5 := hid (show Lie (w4.drewN nn) g 0 M from HLi4.out)
          have HS5 := hid (show (w4.drewN nn).heap[w.heap.size + 1]? = some (.cells (wordsV [a, b1, c, d, e, f, gg, h]) 76 (0, 0)) from HS4.out)
          have cells8 : ∀ i v, (wordsV [a, b1, c, d, e, f, gg, h])[i]? = some v → (w4.drewN nn).cell? ⟨w.heap.size + 1, i, none⟩ = some v := fun i v hv => (cell_of_row _ _ _ _ _ _ HS5.out).trans hv
          have c0 := cells8 0 (.int .u32 (a : Int)) rfl
          have c1 := cells8 1 (.int .u32 (b1 : Int)) rfl
          have c2' := cells8 2 (.int .u32 (c : Int)) rfl
          have c3 := cells8 3 (.int .u32 (d : Int)) rfl
          have c4 := cells8 4 (.int .u32 (e : Int)) rfl
          have c5 := cells8 5 (.int .u32 (f : Int)) rfl
          have c6 := cells8 6 (.int .u32 (gg : Int)) rfl
          have c7 := cells8 7 (.int .u32 (h : Int)) rfl
          have HAft := hid (show after M (n + 1) = plus ⟨a, b1, c, d, e, f, gg, h⟩ ⟨r1, r2, r3, r4, r5, r6, r7, r8⟩ by
            show comp (after M n) ((M.drop (64 * n)).take 64) = _
            rw [← HSt.out, ← HT.out, comp, ← HWs.out, ← HRr.out])
          clear cells8 hB5 HR4 HB4 HLi4 HS4 HC8 HA4 HWs HWV HWV64 HWl HW64 HSt HOk HRr o1 o2 o3 o4 o5 o6 o7 o8
          obtain ⟨w5, hw5⟩ : ∃ w5, w5 = w4.drewN nn := ⟨_, rfl⟩
          rw [← hw5] at HB5 HR5 HLi5 HS5 c0 c1 c2' c3 c4 c5 c6 c7
          rw [← hw5]
          clear hw5
          have S0 := sum2_cast a r1
          have S1 := sum2_cast b1 r2
          have S2 := sum2_cast c r3
          have S3 := sum2_cast d r4
          have S4 := sum2_cast e r5
          have S5 := sum2_cast f r6
          have S6 := sum2_cast gg r7
          have S7 := sum2_cast h r8
          go_wp2_with (refine wpList_store_at rfl 76 (.tmp 3) (.tmp 146) rfl (w.heap.size + 1) 0 (wordsV [nadd a r1, nadd b1 r2, nadd c r3, nadd d r4, nadd e r5, nadd f r6, nadd gg r7, nadd h r8]) rfl rfl (wordsV [a, b1, c, d, e, f, gg, h]).toList 76 HS5.out ?s1 ?s2 ?s3 ?_)
          case s1 => exact Tryd.size_w8
          case s2 => exact Nat.le_refl _
          case s3 => exact wordsV_one _
          intro w6 F1 F2 F3 F4
          have HS6 := hid (show w6.heap[w.heap.size + 1]? = some (.cells (wordsV (after M (n + 1)).list) 76 (0, 0)) by
            rw [F1.out, splice_all64 (show (wordsV [a, b1, c, d, e, f, gg, h]).toList.length = (wordsV [nadd a r1, nadd b1 r2, nadd c r3, nadd d r4, nadd e r5, nadd f r6, nadd gg r7, nadd h r8]).toList.length from rfl), HAft.out]; rfl)
          have HB6 := hid (below_same HB5.out (by omega) F2.out F3.out F4.out)
          have HR6 := hid (show Res32 w w6 by
            obtain ⟨Z, h1, h2⟩ := HR5.out
            exact ⟨Z, (F2.out _ (by omega)).trans h1, h2⟩)
          have HLi6 := hid (show Lie w6 g 0 M by
            obtain ⟨h1, h2⟩ := HLi5.out
            refine ⟨by rw [F3.out]; exact h1, fun i hi => ?_⟩
            rw [← h2 i hi]
            exact cell_same (F2.out g (by omega)))
          clear F1 F2 F3 F4 HS5 HB5 HR5 HLi5 c0 c1 c2' c3 c4 c5 c6 c7 S0 S1 S2 S3 S4 S5 S6 S7 HAft
          go_wp2
          go_roundw
          case rel =>
            exact ⟨t + 64, n + 1, by have := HT.out; omega, by omega, by go_num, ⟨HB6.out, HR6.out, HS6.out⟩, HLi6.out⟩
          case measure => simp [intOf]; omega
    · obtain rfl : n = q := by omega
      have hlt' : ¬ (t : Int) < (ML : Int) := by omega
      obtain ⟨st, hst⟩ : ∃ st, st = after M n := ⟨_, rfl⟩
      have hok : st.ok := by rw [hst]; exact after_ok M n
      have hsha : sha m = bytes32 st := by
        rw [hst, HQ.out, HML.out, HM.out, HMl.out]
        rfl
      rw [← hst] at HS
      have HSha := hid hsha
      have HWs := hid (show Ws st.list from list_ws hok)
      obtain ⟨wx, rfl⟩ : ∃ wx : World, wx = wr := ⟨_, rfl⟩
      have hxs : w.heap.size + 1 < wx.heap.size := lt_of_heap HS.out
      clear hst hok hsha HT HBM HM HML HQ HLi HBn HC HMl
      go_wp2
      go_loopw [19] (fun i wr => ∃ k : Nat, k ≤ 32 ∧ i = .int .i64 k ∧ FinRow w wx st k wr) (fun i _ => 32 - (intOf i).toNat)
      case atStart => exact ⟨0, by omega, rfl, FinRow.start HB.out HR.out HS.out _ (by kernel_rfl)⟩
      case round =>
        clear HB HR HS
        obtain ⟨k, hk, rfl, hrel⟩ := hrel
        by_cases hk32 : k < 32
        · obtain ⟨hb, hr32, hs, hr⟩ := hrel
          have hc := hr.cell (i := k) (by omega)
          have hf := hr.frozen k
          rw [if_neg (by omega)] at hc
          obtain ⟨x, hx⟩ : ∃ x, x = st.list.getD (k / 4) 0 := ⟨_, rfl⟩
          have hxl : x < 4294967296 := by rw [hx]; exact HWs.out.getD _
          have hcs : wr.cell? ⟨w.heap.size + 1, k / 4, none⟩ = some (.int .u32 (x : Int)) := by
            rw [cell_of_row _ _ _ _ _ _ hs, wordsV_at _ _ (show k / 4 < 8 by omega), ← hx]
          obtain ⟨sh, hsh⟩ : ∃ sh : Nat, sh = 24 - 8 * (k % 4) := ⟨_, rfl⟩
          have hs0 : IntKind.i64.wrap (8 * ((k : Int) % 4)) = 8 * ((k : Int) % 4) := IntWalk.i64_in _ (by omega)
          have hs1 : (24 : Int) - 8 * ((k : Int) % 4) = (sh : Int) := by omega
          have hs24 : sh ≤ 24 := by omega
          have hq : (x : Int) / 2 ^ sh = ((x / 2 ^ sh : Nat) : Int) := by rw [Int.natCast_ediv, Int.natCast_pow]; rfl
          obtain ⟨qq, hqq⟩ : ∃ q, q = x / 2 ^ sh := ⟨_, rfl⟩
          rw [← hqq] at hq
          have HQ := hid hqq
          have HX := hid hx
          have HSh := hid hsh
          have HB := hid hb
          have HR := hid hr32
          have HS := hid hs
          have HRr := hid hr
          clear hqq hsh hb hr32 hs hr hx
          go_wp2
          go_roundw
          case rel =>
            refine ⟨k + 1, by omega, by go_num, HB.out.setCell (by show _ ≤ wx.heap.size; omega) _, ?_, ?_, ?_⟩
            · obtain ⟨Z2, z1, z2⟩ := HR.out
              exact ⟨Z2, (heap_setCell_other _ _ _ _ (by show w.heap.size ≠ wx.heap.size; omega)).trans z1, z2⟩
            · exact (heap_setCell_other _ _ _ _ (by show w.heap.size + 1 ≠ wx.heap.size; omega)).trans HS.out
            · refine (HRr.out.set k _).congr fun p hp => ?_
              exact fin_step (by rw [HQ.out, HSh.out, HX.out]) hk32 p
          case measure => simp [intOf]; omega
        · obtain rfl : k = 32 := by omega
          have hend := hrel.done
          obtain ⟨hb, ⟨Z1, z1, z2⟩, _, _⟩ := hrel
          obtain ⟨L, hLL⟩ : ∃ L, L = bytesV (bytes32 st) := ⟨_, rfl⟩
          rw [← hLL] at hend
          have hL32 : L.size = 32 := by rw [hLL, bytesV_size]; rfl
          have HL := hid hLL
          have HL32 := hid hL32
          have HZ2 := hid z2
          have HB := hid hb
          clear hLL hL32 z2 hb
          go_wp2_with (first | (with_reducible refine wpList_load_row rfl 84 (.tmp 18) rfl wx.heap.size rfl 84 L (0, 0) _ hend Tryd.under_h32 rfl (by rw [HL32.out]; exact Tryd.size_h32) ?_) | (with_reducible refine wpList_store_row rfl 84 (.tmp 2) (.tmp 163) rfl w.heap.size L rfl rfl 84 Z1 z1 (by rw [HL32.out]; exact Tryd.size_h32) (by rw [HL32.out, HZ2.out]) (by rw [HL.out]; exact bytesV_one _) ?_))
          refine bodyPost_ret (results_cell_row rfl _ _ w.heap.size 84 L (0, 0) _ rfl (setRow_heap _ _ _ _ _ _ z1) Tryd.under_h32 rfl (by rw [HL32.out]; exact Tryd.size_h32)) rfl ?_
          exact ⟨by rw [HL.out, HSha.out], below_setRow HB.out (by omega) _⟩
end Go.Proofs.YthadfilandmhiaaDoor
