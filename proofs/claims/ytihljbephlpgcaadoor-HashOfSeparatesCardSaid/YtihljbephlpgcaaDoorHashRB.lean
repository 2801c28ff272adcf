/-
  Contracts of gantry/gantryref02: words.
-/
import Derived.Test.YtihljbephlpgcaaDoorHashRA
namespace Go.Proofs.YtihljbephlpgcaaDoor
open Go.RowKit
open Go.Lib (hid)
open S

theorem quiet_ref {P : Program} {f : FuncId} {args : Array Value} {w : World} {n : Nat} {v : Value}
    (h : Calls P f args (w.drewN n) fun e w' => e = .returned v ∧ ∃ k, w' = (w.drewN n).drewN k) : Calls P f args (w.drewN n) fun e w'' => e = .returned v ∧ ∃ m, w'' = w.drewN m :=
  h.mono fun _ _ ⟨he, k, hm⟩ => ⟨he, n + k, by rw [hm, World.drewN_drewN]⟩
theorem quiet_add_ref {P : Program} {f : FuncId} {args : Array Value} {w : World} {a n : Nat} {v : Value}
    (h : Calls P f args (w.drewN (a + n)) fun e w' => e = .returned v ∧ ∃ k, w' = (w.drewN (a + n)).drewN k) :
    Calls P f args (w.drewN (a + n)) fun e w'' => e = .returned v ∧ ∃ m, w'' = w.drewN (a + m) :=
  h.mono fun _ _ ⟨he, k, hm⟩ => ⟨he, n + k, by rw [hm, World.drewN_drewN, Nat.add_assoc]⟩

/-- The first k words of a block. -/
def RW1 (w : World) (b : List Nat) (k : Nat) (wr : World) : Prop :=
  Below w.heap.size w wr ∧ wr.heap.size = w.heap.size + 2 ∧ wr.rowIs w.heap.size 54 64 (fun _ => .int .u32 0) ∧
    wr.rowIs (w.heap.size + 1) 54 64 (fun j => .int .u32 (if j < k then word b j else 0 : Nat))
def RW2 (w : World) (b : List Nat) (t : Nat) (wr : World) : Prop :=
  Below w.heap.size w wr ∧ wr.heap.size = w.heap.size + 2 ∧ wr.rowIs w.heap.size 54 64 (fun _ => .int .u32 0) ∧
    wr.rowIs (w.heap.size + 1) 54 64 (fun j => .int .u32 ((wordsUpto b (t - 16)).getD j 0 : Nat))

theorem rw1_start (w : World) (b : List Nat) (Z1 Z2 : Array Value) (h1 : Z1 = Array.replicate 64 (.int .u32 0)) (h2 : Z2 = Array.replicate 64 (.int .u32 0)) :
    RW1 w b 0 ((w.alloc (.cells Z1 54)).alloc (.cells Z2 54)) := by
  have z1 : Z1.size = 64 := by rw [h1, Array.size_replicate]
  have z2 : Z2.size = 64 := by rw [h2, Array.size_replicate]
  have a1 := lits_at _ h1
  have a2 := lits_at _ h2
  clear h1 h2
  refine ⟨((Below.refl _ _).alloc (Nat.le_refl _) _).alloc (by simp) _, by simp, ?_, ?_⟩
  · have := (World.rowIs_alloc w Z1 54 (fun _ => .int .u32 0) a1).alloc (.cells Z2 54)
    rw [z1] at this
    exact this
  · have := World.rowIs_alloc (w.alloc (.cells Z1 54)) Z2 54 (fun _ => .int .u32 0) a2
    rw [z2] at this
    refine World.rowIs.congr (by simpa using this) fun j _ => ?_
    simp

theorem rw2_start {w : World} {b : List Nat} {wr : World} (h : RW1 w b 16 wr) : RW2 w b 16 wr := by
  obtain ⟨hb, hs, h0, h1⟩ := h
  refine ⟨hb, hs, h0, h1.congr fun j hj => ?_⟩
  congr 2
  simp only [Nat.sub_self, wordsUpto]
  by_cases h : j < 16
  · simp [List.getD_eq_getElem?_getD, h]
  · rw [if_neg h, List.getD_eq_getElem?_getD, List.getElem?_eq_none (by simp; omega)]
    rfl

theorem word_of (b : List Nat) (t : Nat) (h : 4 * t + 3 < b.length) : word b t = ((b.getD (4 * t) 0 * 256 + b.getD (4 * t + 1) 0) * 256 + b.getD (4 * t + 2) 0) * 256 + b.getD (4 * t + 3) 0 := by
  have e : (b.drop (4 * t)).take 4 = [b.getD (4 * t) 0, b.getD (4 * t + 1) 0, b.getD (4 * t + 2) 0, b.getD (4 * t + 3) 0] := by
    apply List.ext_getElem
    · simp; omega
    · intro i h1 h2
      simp only [List.length_cons, List.length_nil] at h2
      rcases (show i = 0 ∨ i = 1 ∨ i = 2 ∨ i = 3 by omega) with rfl | rfl | rfl | rfl <;> simp [List.getD_eq_getElem?_getD, h, show 4 * t < b.length by omega, show 4 * t + 1 < b.length by omega, show 4 * t + 2 < b.length by omega]
  unfold word
  rw [e]
  simp [num]

theorem or_four (a b c d : Nat) (ha : a < 256) (hb : b < 256) (hc : c < 256) (hd : d < 256) :
    bits .or .u32 (bits .or .u32 (bits .or .u32 ((a : Int) * 16777216) ((b : Int) * 65536)) ((c : Int) * 256)) (d : Int) = ((((a * 256 + b) * 256 + c) * 256 + d : Nat) : Int) := by
  have e1 : (a : Int) * 16777216 = ((a * 16777216 : Nat) : Int) := by omega
  have e2 : (b : Int) * 65536 = ((b * 65536 : Nat) : Int) := by omega
  have e3 : (c : Int) * 256 = ((c * 256 : Nat) : Int) := by omega
  have o1 : a * 16777216 ||| b * 65536 = (a * 256 + b) * 65536 := by
    have h := Nat.two_pow_add_eq_or_of_lt (i := 24) (b := b * 65536) (by omega) a
    rw [show a * 16777216 = 2 ^ 24 * a by omega, ← h]; omega
  have o2 : (a * 256 + b) * 65536 ||| c * 256 = ((a * 256 + b) * 256 + c) * 256 := by
    have h := Nat.two_pow_add_eq_or_of_lt (i := 16) (b := c * 256) (by omega) (a * 256 + b)
    rw [show (a * 256 + b) * 65536 = 2 ^ 16 * (a * 256 + b) by omega, ← h]; omega
  have o3 : ((a * 256 + b) * 256 + c) * 256 ||| d = ((a * 256 + b) * 256 + c) * 256 + d := by
    have h := Nat.two_pow_add_eq_or_of_lt (i := 8) (b := d) (by omega) ((a * 256 + b) * 256 + c)
    rw [show ((a * 256 + b) * 256 + c) * 256 = 2 ^ 8 * ((a * 256 + b) * 256 + c) by omega, ← h]
  rw [e1, e2, e3, u32_or_nat _ _ (by omega) (by omega), o1, u32_or_nat _ _ (by omega) (by omega), o2, u32_or_nat _ _ (by omega) (by omega), o3]

theorem t7 : Turn 7 7 := by unfold Turn; omega
theorem t18 : Turn 18 18 := by unfold Turn; omega
theorem t17 : Turn 17 17 := by unfold Turn; omega
theorem t19 : Turn 19 19 := by unfold Turn; omega

set_option maxRecDepth 100000 in
set_option maxHeartbeats 3200000 in
theorem words_any (bk off cap : Nat) (b : List Nat) (w : World) (hl : b.length = 64) (hB : Bn b) (hlt : bk < w.heap.size)
    (hc : ∀ i, i < 64 → w.cell? ⟨bk, off + i, none⟩ = some (.int .u8 (b.getD i 0 : Nat))) :
    Calls Tryd.prog 28 #[.slice (some ⟨bk, off, none⟩) 64 cap] w fun e w' => e = .returned (.agg (wordsV (sched b))) ∧ Below w.heap.size w w' := by
  have HL := hid hl
  have HBn := hid hB
  have HLt := hid hlt
  have HCe := hid hc
  clear hl hB hlt hc
  go_enter Tryd.func28, Tryd.ntmps28
  go_wp2
  go_loopw [4] (fun i wr => ∃ k : Nat, k ≤ 16 ∧ i = .int .i64 k ∧ RW1 w b k wr) (fun i _ => 16 - (intOf i).toNat)
  case atStart =>
    exact ⟨0, by omega, rfl, rw1_start w b _ _ (by kernel_rfl) (by kernel_rfl)⟩
  case round =>
    obtain ⟨k, hk, rfl, hb, hsz, hr0, hr⟩ := hrel
    by_cases hlt : k < 16
    · have q0 := (hb.cell (p := ⟨bk, off + (4 * k), none⟩) HLt.out).trans (HCe.out (4 * k) (by omega))
      have q1 := (hb.cell (p := ⟨bk, off + (4 * k + 1), none⟩) HLt.out).trans (HCe.out (4 * k + 1) (by omega))
      have q2 := (hb.cell (p := ⟨bk, off + (4 * k + 2), none⟩) HLt.out).trans (HCe.out (4 * k + 2) (by omega))
      have q3 := (hb.cell (p := ⟨bk, off + (4 * k + 3), none⟩) HLt.out).trans (HCe.out (4 * k + 3) (by omega))
      have HW := hid (word_of b k (by rw [HL.out]; omega))
      have l0 := HBn.out.getD (4 * k)
      have l1 := HBn.out.getD (4 * k + 1)
      have l2 := HBn.out.getD (4 * k + 2)
      have l3 := HBn.out.getD (4 * k + 3)
      generalize b.getD (4 * k) 0 = x0 at *
      generalize b.getD (4 * k + 1) 0 = x1 at *
      generalize b.getD (4 * k + 2) 0 = x2 at *
      generalize b.getD (4 * k + 3) 0 = x3 at *
      have ct := hr.cell (i := k) (by omega)
      have hfz := hr.frozen k
      have E4 := or_four x0 x1 x2 x3 l0 l1 l2 l3
      have HR := hid hr
      have HR0 := hid hr0
      have HB := hid hb
      have HZ := hid hsz
      clear hr hr0 hb hsz
      have s0 : IntKind.i64.wrap (4 * (k : Int)) = 4 * (k : Int) := IntWalk.i64_in _ (by omega)
      have s1 : IntKind.i64.wrap (4 * (k : Int) + 1) = 4 * (k : Int) + 1 := IntWalk.i64_in _ (by omega)
      have s2 : IntKind.i64.wrap (4 * (k : Int) + 2) = 4 * (k : Int) + 2 := IntWalk.i64_in _ (by omega)
      have s3 : IntKind.i64.wrap (4 * (k : Int) + 3) = 4 * (k : Int) + 3 := IntWalk.i64_in _ (by omega)
      have p0 : 0 ≤ 4 * (k : Int) := by omega
      have p1 : 0 ≤ 4 * (k : Int) + 1 := by omega
      have p2 : 0 ≤ 4 * (k : Int) + 2 := by omega
      have p3 : 0 ≤ 4 * (k : Int) + 3 := by omega
      have n0 : (4 * (k : Int)).toNat = 4 * k := by omega
      have n1 : (4 * (k : Int) + 1).toNat = 4 * k + 1 := by omega
      have n2 : (4 * (k : Int) + 2).toNat = 4 * k + 2 := by omega
      have n3 : (4 * (k : Int) + 3).toNat = 4 * k + 3 := by omega
      go_wp2
      go_region
      go_wp2
      go_roundw
      case rel =>
        refine ⟨k + 1, by omega, by go_num, below_setCell_drewN HB.out _ (by show _ ≤ w.heap.size + 1; omega) _, by simpa using HZ.out, (rowIs_drewN HR0.out _).setOther (by simp) _, ?_⟩
        refine ((rowIs_drewN HR.out _).set k _).congr fun j _ => ?_
        split
        · rename_i h
          rw [if_pos (by omega), h, HW.out]
          exact congrArg (Value.int .u32) (by omega)
        · rename_i h
          by_cases h2 : j < k
          · rw [if_pos h2, if_pos (by omega)]
          · rw [if_neg h2, if_neg (by omega)]
      case measure => simp [intOf]; omega
    · obtain rfl : k = 16 := by omega
      have HR2 := hid (rw2_start ⟨hb, hsz, hr0, hr⟩)
      clear hb hsz hr0 hr
      go_wp2
      go_loopw [5] (fun i wr => ∃ t : Nat, 16 ≤ t ∧ t ≤ 64 ∧ i = .int .i64 t ∧ RW2 w b t wr) (fun i _ => 64 - (intOf i).toNat)
      case atStart =>
        exact ⟨16, by omega, by omega, rfl, HR2.out⟩
      case round =>
        clear HR2
        obtain ⟨t, ht1, ht2, rfl, hb, hsz, hr0, hr⟩ := hrel
        by_cases hlt : t < 64
        · have c2 := hr.cell (i := t - 2) (by omega)
          have c7 := hr.cell (i := t - 7) (by omega)
          have c15 := hr.cell (i := t - 15) (by omega)
          have c16 := hr.cell (i := t - 16) (by omega)
          have ct := hr.cell (i := t) (by omega)
          have hfz := hr.frozen t
          obtain ⟨x2, h2⟩ : ∃ x, x = (wordsUpto b (t - 16)).getD (t - 2) 0 := ⟨_, rfl⟩
          obtain ⟨x7, h7⟩ : ∃ x, x = (wordsUpto b (t - 16)).getD (t - 7) 0 := ⟨_, rfl⟩
          obtain ⟨x15, h15⟩ : ∃ x, x = (wordsUpto b (t - 16)).getD (t - 15) 0 := ⟨_, rfl⟩
          obtain ⟨x16, h16⟩ : ∃ x, x = (wordsUpto b (t - 16)).getD (t - 16) 0 := ⟨_, rfl⟩
          obtain ⟨xt, hxt⟩ : ∃ x, x = (wordsUpto b (t - 16)).getD t 0 := ⟨_, rfl⟩
          have hws := wordsUpto_ws b HBn.out (t - 16)
          have l2 : x2 < 4294967296 := by rw [h2]; exact hws.getD _
          have l7 : x7 < 4294967296 := by rw [h7]; exact hws.getD _
          have l15 : x15 < 4294967296 := by rw [h15]; exact hws.getD _
          have l16 : x16 < 4294967296 := by rw [h16]; exact hws.getD _
          simp only [← h2, ← h7, ← h15, ← h16, ← hxt] at c2 c7 c15 c16 ct
          have H2 := hid h2
          have H7 := hid h7
          have H15 := hid h15
          have H16 := hid h16
          have HR := hid hr
          have HR0 := hid hr0
          have HB := hid hb
          have HZ := hid hsz
          clear h2 h7 h15 h16 hxt hws hr hr0 hb hsz
          have s15 : IntKind.i64.wrap ((t : Int) - 15) = (t : Int) - 15 := IntWalk.i64_in _ (by omega)
          have s2 : IntKind.i64.wrap ((t : Int) - 2) = (t : Int) - 2 := IntWalk.i64_in _ (by omega)
          have p15 : 0 ≤ (t : Int) - 15 := by omega
          have p2 : 0 ≤ (t : Int) - 2 := by omega
          have n15 : ((t : Int) - 15).toNat = t - 15 := by omega
          have n2 : ((t : Int) - 2).toNat = t - 2 := by omega
          have E0 := small0_cast x15 l15
          have E1 := small1_cast x2 l2
          go_wp2
          go_quiet (first | (go_at_call 29; with_reducible exact quiet_ref (refRotr_any x15 7 7 _ l15 t7)) | (go_at_call 29; with_reducible exact quiet_ref (refRotr_any x15 18 18 _ l15 t18)))
          go_wp2
          go_quiet (first | (go_at_call 29; with_reducible exact quiet_add_ref (refRotr_any x2 17 17 _ l2 t17)) | (go_at_call 29; with_reducible exact quiet_add_ref (refRotr_any x2 19 19 _ l2 t19)))
          clear s15 s2 p15 p2 n15 n2 E0 E1 c2 c15
          have s7 : IntKind.i64.wrap ((t : Int) - 7) = (t : Int) - 7 := IntWalk.i64_in _ (by omega)
          have s16 : IntKind.i64.wrap ((t : Int) - 16) = (t : Int) - 16 := IntWalk.i64_in _ (by omega)
          have p7 : 0 ≤ (t : Int) - 7 := by omega
          have p16 : 0 ≤ (t : Int) - 16 := by omega
          have n7 : ((t : Int) - 7).toNat = t - 7 := by omega
          have n16 : ((t : Int) - 16).toNat = t - 16 := by omega
          go_wp2
          go_region
          go_wp2
          go_roundw
          case rel =>
            refine ⟨t + 1, by omega, by omega, by go_num, below_setCell_drewN HB.out _ (by show _ ≤ w.heap.size + 1; omega) _, by simpa using HZ.out, (rowIs_drewN HR0.out _).setOther (by simp) _, ?_⟩
            refine ((rowIs_drewN HR.out _).set t _).congr fun j _ => ?_
            rw [words_step b t ht1 j]
            split
            · rename_i h
              rw [next_cast (wordsUpto b (t - 16)) t x16 x15 x7 x2 H16.out H15.out H7.out H2.out]
            · rfl
          case measure => simp [intOf]; omega
        · obtain rfl : t = 64 := by omega
          obtain ⟨c0, d1, d2, _⟩ := hr0
          obtain ⟨c1, e1, e2, e3⟩ := hr
          have E2 := hid e2
          have D2 := hid d2
          have E3 := hid (words_of e2 e3)
          have HB := hid hb
          clear e2 e3 d2 hb hsz
          go_wp2_with (first | (with_reducible refine wpList_load_row rfl 54 (.tmp 3) rfl (w.heap.size + 1) rfl 54 c1 (0, 0) _ e1 Tryd.under_w64 rfl (by rw [E2.out]; exact Tryd.size_w64) ?_) | (with_reducible refine wpList_store_row rfl 54 (.tmp 2) (.tmp 100) rfl w.heap.size c1 rfl rfl 54 c0 d1 (by rw [E2.out]; exact Tryd.size_w64) (by rw [E2.out, D2.out]) (by rw [E3.out]; exact wordsV_one _) ?_))
          refine bodyPost_ret (results_cell_row rfl _ _ w.heap.size 54 c1 (0, 0) _ rfl (setRow_heap _ _ _ _ _ _ d1) Tryd.under_w64 rfl (by rw [E2.out]; exact Tryd.size_w64)) rfl ?_
          exact ⟨by rw [E3.out], below_setRow HB.out (by omega) _⟩

end Go.Proofs.YtihljbephlpgcaaDoor
