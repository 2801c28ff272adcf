/-
  gantry/hash.schedule: the words of a block.
-/
import Derived.Test.YtihljbephlpgcaaDoorHashB
import Derived.Deep.QuietTactic
import Derived.BigQuiet
import Derived.RegionTactic
import Derived.ChangeAlike

import Derived.StillTailTactics
import Derived.IntWalk
namespace Go.Proofs.YtihljbephlpgcaaDoor
open Go.RowKit
open Go.Lib (hid)
open S

theorem Tryd.under_b64 : Tryd.prog.underlying 31 = some (.array 64 5) := by kernel_rfl
theorem Tryd.under_w64 : Tryd.prog.underlying 54 = some (.array 64 29) := by kernel_rfl
theorem Tryd.under_u8 : Tryd.prog.underlying 5 = some (.int .u8) := by kernel_rfl
theorem Tryd.under_u32 : Tryd.prog.underlying 29 = some (.int .u32) := by kernel_rfl
theorem Tryd.size_u8 : (Tryd.prog.info? 5).map (·.size) = some 1 := by kernel_rfl
theorem Tryd.size_u32 : (Tryd.prog.info? 29).map (·.size) = some 1 := by kernel_rfl
theorem Tryd.size_b64 : (Tryd.prog.info? 31).map (·.size) = some 64 := by kernel_rfl
theorem Tryd.size_w64 : (Tryd.prog.info? 54).map (·.size) = some 64 := by kernel_rfl

theorem index_b64 (b : List Nat) (k : Nat) (hb : b.length = 64) (hk : k < 64) (w : World) :
    (Instr.index 31 (.agg (bytesV b)) (.int .i64 (k : Int))).run Tryd.prog w = .ok (.int .u8 (b.getD k 0 : Nat)) w :=
  run_index_row _ _ 64 _ _ k _ Tryd.under_b64 Tryd.under_u8 rfl Tryd.size_u8 hk (bytesV_at b k (by omega)) w

theorem lits_at {n : Nat} {v : Value} (c : Array Value) (h : c = Array.replicate n v) (i : Nat) (hi : i < c.size) : c[i]? = some v := by
  subst h
  simp at hi
  simp [hi]

theorem heap_first3 (w : World) (X Y Z : Obj) : (((w.alloc X).alloc Y).alloc Z).heap[w.heap.size]? = some X := by
  rw [Below.heap_alloc ((w.alloc X).alloc Y) Z _ (by simp; omega), Below.heap_alloc (w.alloc X) Y _ (by simp)]
  exact heap_alloc_new w X
theorem below_first3 (w : World) (X Y Z : Obj) : Below w.heap.size w (((w.alloc X).alloc Y).alloc Z) :=
  (((Below.refl _ _).alloc (Nat.le_refl _) X).alloc (by simp) Y).alloc (by simp; omega) Z
theorem quiet_left {P : Program} {f : FuncId} {args : Array Value} {w : World} {n : Nat} {v : Value}
    (h : Calls P f args (w.drewN n) fun e w' => e = .returned v ∧ w.drewN n = w') : Calls P f args (w.drewN n) fun e w'' => e = .returned v ∧ ∃ m, w'' = w.drewN m :=
  h.mono fun _ _ ⟨he, hm⟩ => ⟨he, n, hm.symm⟩
theorem quiet_add_left {P : Program} {f : FuncId} {args : Array Value} {w : World} {a n : Nat} {v : Value}
    (h : Calls P f args (w.drewN (a + n)) fun e w' => e = .returned v ∧ w.drewN (a + n) = w') :
    Calls P f args (w.drewN (a + n)) fun e w'' => e = .returned v ∧ ∃ m, w'' = w.drewN (a + m) :=
  h.mono fun _ _ ⟨he, hm⟩ => ⟨he, n, hm.symm⟩

/-- While the words are reckoned: w(0) to w(t - 1). -/
def Sched2 (w : World) (b : List Nat) (t : Nat) (wr : World) : Prop :=
  Below w.heap.size w wr ∧ wr.heap.size = w.heap.size + 3 ∧ wr.rowIs (w.heap.size + 1) 54 64 (fun _ => .int .u32 0) ∧
    wr.rowIs (w.heap.size + 1 + 1) 54 64 (fun j => .int .u32 ((wordsUpto b (t - 16)).getD j 0 : Nat))

/-- While the bytes are read: the words of the first k bytes. -/
def Sched1 (w : World) (b : List Nat) (k : Nat) (wr : World) : Prop :=
  Below w.heap.size w wr ∧ wr.heap.size = w.heap.size + 3 ∧ wr.rowIs (w.heap.size + 1) 54 64 (fun _ => .int .u32 0) ∧
    wr.rowIs (w.heap.size + 1 + 1) 54 64 (fun j => .int .u32 (word (b.take k) j : Nat))

theorem sched1_start (w : World) (b : List Nat) (cs Z1 Z2 : Array Value) (h1 : Z1 = Array.replicate 64 (.int .u32 0)) (h2 : Z2 = Array.replicate 64 (.int .u32 0)) :
    Sched1 w b 0 (((w.alloc (.cells cs 31)).alloc (.cells Z1 54)).alloc (.cells Z2 54)) := by
  have z1 : Z1.size = 64 := by rw [h1, Array.size_replicate]
  have z2 : Z2.size = 64 := by rw [h2, Array.size_replicate]
  have a1 := lits_at _ h1
  have a2 := lits_at _ h2
  clear h1 h2
  refine ⟨below_first3 w _ _ _, by simp, ?_, ?_⟩
  · have := (World.rowIs_alloc (w.alloc (.cells cs 31)) Z1 54 (fun _ => .int .u32 0) a1).alloc (.cells Z2 54)
    rw [z1] at this
    simpa using this
  · have := World.rowIs_alloc ((w.alloc (.cells cs 31)).alloc (.cells Z1 54)) Z2 54 (fun _ => .int .u32 0) a2
    rw [z2] at this
    refine World.rowIs.congr (by simpa using this) fun j _ => ?_
    simp [word, num]

theorem sched2_start {w : World} {b : List Nat} {wr : World} (hl : b.length = 64) (h : Sched1 w b 64 wr) : Sched2 w b 16 wr := by
  obtain ⟨hb, hs, h0, h1⟩ := h
  refine ⟨hb, hs, h0, h1.congr fun j hj => ?_⟩
  rw [List.take_of_length_le (by omega)]
  congr 2
  simp only [Nat.sub_self, wordsUpto]
  by_cases h : j < 16
  · simp [List.getD_eq_getElem?_getD, List.getElem?_range h]
  · rw [List.getD_eq_getElem?_getD, List.getElem?_eq_none (by simp; omega)]
    unfold word
    rw [List.drop_eq_nil_of_le (by omega)]
    rfl

theorem small0_cast (x : Nat) (h : x < 4294967296) : bits .xor .u32 (bits .xor .u32 (nrot 7 x : Nat) (nrot 18 x : Nat)) ((x : Int) / 8) = (small0 x : Nat) := by
  have e : (x : Int) / 8 = ((x / 8 : Nat) : Int) := by omega
  rw [e, u32_xor_nat _ _ (nrot_lt _ _ h) (nrot_lt _ _ h), u32_xor_nat _ _ (Nat.xor_lt_two_pow (n := 32) (nrot_lt _ _ h) (nrot_lt _ _ h)) (by omega)]
  rfl
theorem small1_cast (x : Nat) (h : x < 4294967296) : bits .xor .u32 (bits .xor .u32 (nrot 17 x : Nat) (nrot 19 x : Nat)) ((x : Int) / 1024) = (small1 x : Nat) := by
  have e : (x : Int) / 1024 = ((x / 1024 : Nat) : Int) := by omega
  rw [e, u32_xor_nat _ _ (nrot_lt _ _ h) (nrot_lt _ _ h), u32_xor_nat _ _ (Nat.xor_lt_two_pow (n := 32) (nrot_lt _ _ h) (nrot_lt _ _ h)) (by omega)]
  rfl
theorem next_cast (l : List Nat) (t x16 x15 x7 x2 : Nat) (h16 : x16 = l.getD (t - 16) 0) (h15 : x15 = l.getD (t - 15) 0) (h7 : x7 = l.getD (t - 7) 0) (h2 : x2 = l.getD (t - 2) 0) :
    ((x16 : Int) + (small0 x15 : Nat) + (x7 : Int) + (small1 x2 : Nat)) % 4294967296 = ((next l t : Nat) : Int) := by
  unfold next
  rw [← h16, ← h15, ← h7, ← h2]
  generalize small0 x15 = a
  generalize small1 x2 = c
  unfold nadd
  omega
theorem below_setCell_drewN {B : Nat} {a w : World} (h : Below B a w) (n : Nat) {p : Addr} (hp : B ≤ p.block) (v : Value) : Below B a ((w.drewN n).setCell p v) :=
  Below.setCell (w := w.drewN n) ⟨h.os, h.tape, h.output, h.size, h.block⟩ hp v
theorem rowIs_drewN {w : World} {b : Nat} {t : TypeId} {n : Nat} {f : Nat → Value} (h : w.rowIs b t n f) (k : Nat) : (w.drewN k).rowIs b t n f := h

theorem wordsV_one (l : List Nat) : (wordsV l).all (·.oneCell') = true := by
  simp [wordsV, Value.oneCell']
theorem words_of {c : Array Value} {b : List Nat} (hs : c.size = 64) (h : ∀ i, i < 64 → c[i]? = some (.int .u32 ((wordsUpto b (64 - 16)).getD i 0 : Nat))) : c = wordsV (sched b) := by
  have hl : (sched b).length = 64 := by unfold sched; rw [wordsUpto_length]
  apply Array.ext_getElem?
  intro i
  by_cases hi : i < 64
  · rw [h i hi, wordsV_at _ i (by omega)]
    rfl
  · rw [Array.getElem?_eq_none (by omega), Array.getElem?_eq_none (by rw [wordsV_size]; omega)]
theorem below_setRow {B : Nat} {a w : World} (h : Below B a w) {g : Nat} (hg : B ≤ g) (cs : Array Value) : Below B a (w.setRow g cs) :=
  ⟨h.os, h.tape, h.output, by simpa using h.size, fun i hi => (setRow_other w g i cs (by omega)).trans (h.block i hi)⟩

theorem nadd_cast (a b : Nat) : IntKind.u32.wrap ((a : Int) + (b : Int)) = (nadd a b : Nat) := by
  rw [IntKind.wrap_u32']
  unfold nadd
  omega

set_option maxRecDepth 100000 in
set_option maxHeartbeats 1600000 in
theorem schedule_any (b : List Nat) (w : World) (hl : b.length = 64) (hB : Bn b) :
    Calls Tryd.prog 37 #[.agg (bytesV b)] w fun e w' => e = .returned (.agg (wordsV (sched b))) ∧ Below w.heap.size w w' := by
  have HI := hid fun (k : Nat) (h : k < 64) => index_b64 b k hl h
  have HL := hid hl
  have HBn := hid hB
  obtain ⟨cs, hcs⟩ : ∃ cs, cs = bytesV b := ⟨_, rfl⟩
  have HS := hid (show cs.size = 64 by rw [hcs, bytesV_size, hl])
  rw [← hcs] at HI
  rw [← hcs]
  clear hl hB hcs
  go_enter Tryd.func37, Tryd.ntmps37
  go_wp2_with (with_reducible refine wpList_load_row rfl 31 (.tmp 1) rfl w.heap.size rfl 31 cs (0, 0) _ ?c0 Tryd.under_b64 rfl ?c1 ?_)
  case c0 =>
    exact heap_first3 w _ _ _
  case c1 => rw [HS.out]; exact Tryd.size_b64
  go_loopw [10] (fun i wr => ∃ k : Nat, k ≤ 64 ∧ i = .int .i64 k ∧ Sched1 w b k wr) (fun i _ => 64 - (intOf i).toNat)
  case atStart =>
    exact ⟨0, by omega, rfl, sched1_start w b _ _ _ (by kernel_rfl) (by kernel_rfl)⟩
  case round =>
    obtain ⟨k, hk, rfl, hb, hsz, hr0, hr⟩ := hrel
    by_cases hlt : k < 64
    · have hix := fun W => HI.out k hlt W
      have hc := hr.cell (i := k / 4) (by omega)
      have hfz := hr.frozen (k / 4)
      obtain ⟨x, hx⟩ : ∃ x, x = word (b.take k) (k / 4) := ⟨_, rfl⟩
      obtain ⟨c, hcc⟩ : ∃ c, c = b.getD k 0 := ⟨_, rfl⟩
      have hx2 : x < 16777216 := by rw [hx]; exact word_part b HBn.out k
      have hc2 : c < 256 := by rw [hcc]; exact HBn.out.getD k
      rw [← hx] at hc
      rw [← hcc] at hix
      have HX := hid hx
      have HC := hid hcc
      have HR := hid hr
      have HR0 := hid hr0
      have HB := hid hb
      have HZ := hid hsz
      clear hx hcc hr hr0 hb hsz
      go_wp2
      go_roundw
      case rel =>
        refine ⟨k + 1, by omega, by go_num, HB.out.setCell (by show _ ≤ w.heap.size + 1 + 1; omega) _, by simpa using HZ.out, HR0.out.setOther (by simp) _, ?_⟩
        refine (HR.out.set (k / 4) _).congr fun j _ => ?_
        rw [word_take b k (by rw [HL.out]; omega) j, or_shift x c hx2 hc2, HX.out, HC.out]
        split <;> rename_i h
        · rw [h]
        · rfl
      case measure => simp [intOf]; omega
    · obtain rfl : k = 64 := by omega
      go_wp2
      go_loopw [6] (fun i wr => ∃ t : Nat, 16 ≤ t ∧ t ≤ 64 ∧ i = .int .i64 t ∧ Sched2 w b t wr) (fun i _ => 64 - (intOf i).toNat)
      case atStart =>
        exact ⟨16, by omega, by omega, rfl, sched2_start HL.out ⟨hb, hsz, hr0, hr⟩⟩
      case round =>
        obtain ⟨t, ht1, ht2, rfl, hb, hsz, hr0, hr⟩ := hrel
        by_cases hlt : t < 64
        · have c2 := hr.cell (i := t - 2) (by omega)
          have c7 := hr.cell (i := t - 7) (by omega)
          have c15 := hr.cell (i := t - 15) (by omega)
          have c16 := hr.cell (i := t - 16) (by omega)
          have ct := hr.cell (i := t) (by omega)
          have hfz := hr.frozen t
          obtain ⟨x2, h2⟩ : ∃ x, x = (wordsUpto b (t - 16)).getD (t - 2) 0 := ⟨_, rfl⟩
          obtain ⟨x7, h7⟩ : ∃ x, x = (wordsUpto b (t - 16)).getD (t - 7) 0 := ⟨_, rfl⟩
          obtain ⟨x15, h15⟩ : ∃ x, x = (wordsUpto b (t - 16)).getD (t - 15) 0 := ⟨_, rfl⟩
          obtain ⟨x16, h16⟩ : ∃ x, x = (wordsUpto b (t - 16)).getD (t - 16) 0 := ⟨_, rfl⟩
          obtain ⟨xt, hxt⟩ : ∃ x, x = (wordsUpto b (t - 16)).getD t 0 := ⟨_, rfl⟩
          have hws := wordsUpto_ws b HBn.out (t - 16)
          have l2 : x2 < 4294967296 := by rw [h2]; exact hws.getD _
          have l7 : x7 < 4294967296 := by rw [h7]; exact hws.getD _
          have l15 : x15 < 4294967296 := by rw [h15]; exact hws.getD _
          have l16 : x16 < 4294967296 := by rw [h16]; exact hws.getD _
          simp only [← h2, ← h7, ← h15, ← h16, ← hxt] at c2 c7 c15 c16 ct
          have H2 := hid h2
          have H7 := hid h7
          have H15 := hid h15
          have H16 := hid h16
          have HR := hid hr
          have HR0 := hid hr0
          have HB := hid hb
          have HZ := hid hsz
          clear h2 h7 h15 h16 hxt hws hr hr0 hb hsz
          have s15 : IntKind.i64.wrap ((t : Int) - 15) = (t : Int) - 15 := IntWalk.i64_in _ (by omega)
          have s2 : IntKind.i64.wrap ((t : Int) - 2) = (t : Int) - 2 := IntWalk.i64_in _ (by omega)
          have p15 : 0 ≤ (t : Int) - 15 := by omega
          have p2 : 0 ≤ (t : Int) - 2 := by omega
          have n15 : ((t : Int) - 15).toNat = t - 15 := by omega
          have n2 : ((t : Int) - 2).toNat = t - 2 := by omega
          have E0 := small0_cast x15 l15
          have E1 := small1_cast x2 l2
          go_wp2
          go_quiet (first | (go_at_call 38; exact quiet_left (rotr_any x15 7 7 _ l15 (by unfold Turn; omega))) | (go_at_call 38; exact quiet_left (rotr_any x15 18 18 _ l15 (by unfold Turn; omega))))
          go_wp2
          go_quiet (first | (go_at_call 38; exact quiet_add_left (rotr_any x2 17 17 _ l2 (by unfold Turn; omega))) | (go_at_call 38; exact quiet_add_left (rotr_any x2 19 19 _ l2 (by unfold Turn; omega))))
          clear s15 s2 p15 p2 n15 n2 E0 E1 c2 c15
          have s7 : IntKind.i64.wrap ((t : Int) - 7) = (t : Int) - 7 := IntWalk.i64_in _ (by omega)
          have s16 : IntKind.i64.wrap ((t : Int) - 16) = (t : Int) - 16 := IntWalk.i64_in _ (by omega)
          have p7 : 0 ≤ (t : Int) - 7 := by omega
          have p16 : 0 ≤ (t : Int) - 16 := by omega
          have n7 : ((t : Int) - 7).toNat = t - 7 := by omega
          have n16 : ((t : Int) - 16).toNat = t - 16 := by omega
          go_wp2
          go_region
          go_wp2
          go_roundw
          case rel =>
            refine ⟨t + 1, by omega, by omega, by go_num, below_setCell_drewN HB.out _ (by show _ ≤ w.heap.size + 1 + 1; omega) _, by simpa using HZ.out, (rowIs_drewN HR0.out _).setOther (by simp) _, ?_⟩
            refine ((rowIs_drewN HR.out _).set t _).congr fun j _ => ?_
            rw [words_step b t ht1 j]
            split
            · rename_i h
              rw [next_cast (wordsUpto b (t - 16)) t x16 x15 x7 x2 H16.out H15.out H7.out H2.out]
            · rfl
          case measure => simp [intOf]; omega
        · obtain rfl : t = 64 := by omega
          obtain ⟨c0, d1, d2, _⟩ := hr0
          obtain ⟨c1, e1, e2, e3⟩ := hr
          have E2 := hid e2
          have D2 := hid d2
          have E3 := hid (words_of e2 e3)
          have HB := hid hb
          clear e2 e3 d2 hb hsz
          go_wp2_with (first | (with_reducible refine wpList_load_row rfl 54 (.tmp 3) rfl (w.heap.size + 1 + 1) rfl 54 c1 (0, 0) _ e1 Tryd.under_w64 rfl (by rw [E2.out]; exact Tryd.size_w64) ?_) | (with_reducible refine wpList_store_row rfl 54 (.tmp 2) (.tmp 79) rfl (w.heap.size + 1) c1 rfl rfl 54 c0 d1 (by rw [E2.out]; exact Tryd.size_w64) (by rw [E2.out, D2.out]) (by rw [E3.out]; exact wordsV_one _) ?_))
          refine bodyPost_ret (results_cell_row rfl _ _ (w.heap.size + 1) 54 c1 (0, 0) _ rfl (setRow_heap _ _ _ _ _ _ d1) Tryd.under_w64 rfl (by rw [E2.out]; exact Tryd.size_w64)) rfl ?_
          exact ⟨by rw [E3.out], below_setRow HB.out (by omega) _⟩

end Go.Proofs.YtihljbephlpgcaaDoor
