/-
  gantry/hash.schedule: the words of a block.
  gantry/hash.compress: the hash value after one more block.
  Contracts of gantry/gantryref02: rotr.
  Contracts of gantry/gantryref02: words.
-/
import Derived.Test.YthadfilandmhiaaDoorSR14
import Derived.Deep.QuietTactic
import Derived.BigQuiet
import Derived.RegionTactic
import Derived.ChangeAlike
import Derived.StillTailTactics
import Derived.IntWalk
set_option linter.unusedVariables false
set_option linter.unusedSimpArgs false
set_option linter.unusedSectionVars false
namespace Go.Proofs.YthadfilandmhiaaDoor
open Go.RowKit
open Go.Lib (hid)
open S
theorem Tryd.under_b64 : Tryd.prog.underlying 77 = some (.array 64 5) := by kernel_rfl
theorem Tryd.under_w64 : Tryd.prog.underlying 100 = some (.array 64 75) := by kernel_rfl
theorem Tryd.under_u8 : Tryd.prog.underlying 5 = some (.int .u8) := by kernel_rfl
theorem Tryd.under_u32 : Tryd.prog.underlying 75 = some (.int .u32) := by kernel_rfl
theorem Tryd.size_u8 : (Tryd.prog.info? 5).map (·.size) = some 1 := by kernel_rfl
theorem Tryd.size_u32 : (Tryd.prog.info? 75).map (·.size) = some 1 := by kernel_rfl
theorem Tryd.size_b64 : (Tryd.prog.info? 77).map (·.size) = some 64 := by kernel_rfl
theorem Tryd.size_w64 : (Tryd.prog.info? 100).map (·.size) = some 64 := by kernel_rfl

theorem index_b64 (b : List Nat) (k : Nat) (hb : b.length = 64) (hk : k < 64) (w : World) :
    (Instr.index 77 (.agg (bytesV b)) (.int .i64 (k : Int))).run Tryd.prog w = .ok (.int .u8 (b.getD k 0 : Nat)) w :=
  run_index_row _ _ 64 _ _ k _ Tryd.under_b64 Tryd.under_u8 rfl Tryd.size_u8 hk (bytesV_at b k (by omega)) w

theorem lits_at {n : Nat} {v : Value} (c : Array Value) (h : c = Array.replicate n v) (i : Nat) (hi : i < c.size) : c[i]? = some v := by
  subst h
  simp at hi
  simp [hi]

theorem heap_first3 (w : World) (X Y Z : Obj) : (((w.alloc X).alloc Y).alloc Z).heap[w.heap.size]? = some X := by
  rw [Below.heap_alloc ((w.alloc X).alloc Y) Z _ (by simp; omega), Below.heap_alloc (w.alloc X) Y _ (by simp)]
  exact heap_alloc_new w X
theorem below_first3 (w : World) (X Y Z : Obj) : Below w.heap.size w (((w.alloc X).alloc Y).alloc Z) :=
  (((Below.refl _ _).alloc (Nat.le_refl _) X).alloc (by simp) Y).alloc (by simp; omega) Z
theorem quiet_left {P : Program} {f : FuncId} {args : Array Value} {w : World} {n : Nat} {v : Value}
    (h : Calls P f args (w.drewN n) fun e w' => e = .returned v ∧ w.drewN n = w') : Calls P f args (w.drewN n) fun e w'' => e = .returned v ∧ ∃ m, w'' = w.drewN m :=
  h.mono fun _ _ ⟨he, hm⟩ => ⟨he, n, hm.symm⟩
theorem quiet_add_left {P : Program} {f : FuncId} {args : Array Value} {w : World} {a n : Nat} {v : Value}
    (h : Calls P f args (w.drewN (a + n)) fun e w' => e = .returned v ∧ w.drewN (a + n) = w') :
    Calls P f args (w.drewN (a + n)) fun e w'' => e = .returned v ∧ ∃ m, w'' = w.drewN (a + m) :=
  h.mono fun _ _ ⟨he, hm⟩ => ⟨he, n, hm.symm⟩

/-- While the words are reckoned: w(0) to w(t - 1). -/
def Sched2 (w : World) (b : List Nat) (t : Nat) (wr : World) : Prop :=
  Below w.heap.size w wr ∧ wr.heap.size = w.heap.size + 3 ∧ wr.rowIs (w.heap.size + 1) 100 64 (fun _ => .int .u32 0) ∧
    wr.rowIs (w.heap.size + 1 + 1) 100 64 (fun j => .int .u32 ((wordsUpto b (t - 16)).getD j 0 : Nat))

/-- While the bytes are read: the words of the first k bytes. -/
def Sched1 (w : World) (b : List Nat) (k : Nat) (wr : World) : Prop :=
  Below w.heap.size w wr ∧ wr.heap.size = w.heap.size + 3 ∧ wr.rowIs (w.heap.size + 1) 100 64 (fun _ => .int .u32 0) ∧
    wr.rowIs (w.heap.size + 1 + 1) 100 64 (fun j => .int .u32 (word (b.take k) j : Nat))

theorem sched1_start (w : World) (b : List Nat) (cs Z1 Z2 : Array Value) (h1 : Z1 = Array.replicate 64 (.int .u32 0)) (h2 : Z2 = Array.replicate 64 (.int .u32 0)) :
    Sched1 w b 0 (((w.alloc (.cells cs 77)).alloc (.cells Z1 100)).alloc (.cells Z2 100)) := by
  have z1 : Z1.size = 64 := by rw [h1, Array.size_replicate]
  have z2 : Z2.size = 64 := by rw [h2, Array.size_replicate]
  have a1 := lits_at _ h1
  have a2 := lits_at _ h2
  clear h1 h2
  refine ⟨below_first3 w _ _ _, by simp, ?_, ?_⟩
  · have := (World.rowIs_alloc (w.alloc (.cells cs 77)) Z1 100 (fun _ => .int .u32 0) a1).alloc (.cells Z2 100)
    rw [z1] at this
    simpa using this
  · have := World.rowIs_alloc ((w.alloc (.cells cs 77)).alloc (.cells Z1 100)) Z2 100 (fun _ => .int .u32 0) a2
    rw [z2] at this
    refine World.rowIs.congr (by simpa using this) fun j _ => ?_
    simp [word, num]

theorem sched2_start {w : World} {b : List Nat} {wr : World} (hl : b.length = 64) (h : Sched1 w b 64 wr) : Sched2 w b 16 wr := by
  obtain ⟨hb, hs, h0, h1⟩ := h
  refine ⟨hb, hs, h0, h1.congr fun j hj => ?_⟩
  rw [List.take_of_length_le (by omega)]
  congr 2
  simp only [Nat.sub_self, wordsUpto]
  by_cases h : j < 16
  · simp [List.getD_eq_getElem?_getD, List.getElem?_range h]
  · rw [List.getD_eq_getElem?_getD, List.getElem?_eq_none (by simp; omega)]
    unfold word
    rw [List.drop_eq_nil_of_le (by omega)]
    rfl

theorem small0_cast (x : Nat) (h : x < 4294967296) : bits .xor .u32 (bits .xor .u32 (nrot 7 x : Nat) (nrot 18 x : Nat)) ((x : Int) / 8) = (small0 x : Nat) := by
  have e : (x : Int) / 8 = ((x / 8 : Nat) : Int) := by omega
  rw [e, u32_xor_nat _ _ (nrot_lt _ _ h) (nrot_lt _ _ h), u32_xor_nat _ _ (Nat.xor_lt_two_pow (n := 32) (nrot_lt _ _ h) (nrot_lt _ _ h)) (by omega)]
  rfl
theorem small1_cast (x : Nat) (h : x < 4294967296) : bits .xor .u32 (bits .xor .u32 (nrot 17 x : Nat) (nrot 19 x : Nat)) ((x : Int) / 1024) = (small1 x : Nat) := by
  have e : (x : Int) / 1024 = ((x / 1024 : Nat) : Int) := by omega
  rw [e, u32_xor_nat _ _ (nrot_lt _ _ h) (nrot_lt _ _ h), u32_xor_nat _ _ (Nat.xor_lt_two_pow (n := 32) (nrot_lt _ _ h) (nrot_lt _ _ h)) (by omega)]
  rfl
theorem next_cast (l : List Nat) (t x16 x15 x7 x2 : Nat) (h16 : x16 = l.getD (t - 16) 0) (h15 : x15 = l.getD (t - 15) 0) (h7 : x7 = l.getD (t - 7) 0) (h2 : x2 = l.getD (t - 2) 0) :
    ((x16 : Int) + (small0 x15 : Nat) + (x7 : Int) + (small1 x2 : Nat)) % 4294967296 = ((next l t : Nat) : Int) := by
  unfold next
  rw [← h16, ← h15, ← h7, ← h2]
  generalize small0 x15 = a
  generalize small1 x2 = c
  unfold nadd
  omega
theorem below_setCell_drewN {B : Nat} {a w : World} (h : Below B a w) (n : Nat) {p : Addr} (hp : B ≤ p.block) (v : Value) : Below B a ((w.drewN n).setCell p v) :=
  Below.setCell (w := w.drewN n) ⟨h.os, h.tape, h.output, h.size, h.block⟩ hp v
theorem rowIs_drewN {w : World} {b : Nat} {t : TypeId} {n : Nat} {f : Nat → Value} (h : w.rowIs b t n f) (k : Nat) : (w.drewN k).rowIs b t n f := h

theorem wordsV_one (l : List Nat) : (wordsV l).all (·.oneCell') = true := by
  simp [wordsV, Value.oneCell']
theorem words_of {c : Array Value} {b : List Nat} (hs : c.size = 64) (h : ∀ i, i < 64 → c[i]? = some (.int .u32 ((wordsUpto b (64 - 16)).getD i 0 : Nat))) : c = wordsV (sched b) := by
  have hl : (sched b).length = 64 := by unfold sched; rw [wordsUpto_length]
  apply Array.ext_getElem?
  intro i
  by_cases hi : i < 64
  · rw [h i hi, wordsV_at _ i (by omega)]
    rfl
  · rw [Array.getElem?_eq_none (by omega), Array.getElem?_eq_none (by rw [wordsV_size]; omega)]
theorem below_setRow {B : Nat} {a w : World} (h : Below B a w) {g : Nat} (hg : B ≤ g) (cs : Array Value) : Below B a (w.setRow g cs) :=
  ⟨h.os, h.tape, h.output, by simpa using h.size, fun i hi => (setRow_other w g i cs (by omega)).trans (h.block i hi)⟩

set_option maxRecDepth 100000 in
set_option maxHeartbeats 1600000 in
theorem schedule_any (b : List Nat) (w : World) (hl : b.length = 64) (hB : Bn b) :
    Calls Tryd.prog 73 #[.agg (bytesV b)] w fun e w' => e = .returned (.agg (wordsV (sched b))) ∧ Below w.heap.size w w' := by
  have HI := hid fun (k : Nat) (h : k < 64) => index_b64 b k hl h
  have HL := hid hl
  have HBn := hid hB
  obtain ⟨cs, hcs⟩ : ∃ cs, cs = bytesV b := ⟨_, rfl⟩
  have HS := hid (show cs.size = 64 by rw [hcs, bytesV_size, hl])
  rw [← hcs] at HI
  rw [← hcs]
  clear hl hB hcs
  go_enter Tryd.func73, Tryd.ntmps73
  go_wp2_with (with_reducible refine wpList_load_row rfl 77 (.tmp 1) rfl w.heap.size rfl 77 cs (0, 0) _ ?c0 Tryd.under_b64 rfl ?c1 ?_)
  case c0 =>
    exact heap_first3 w _ _ _
  case c1 => rw [HS.out]; exact Tryd.size_b64
  go_loopw [10] (fun i wr => ∃ k : Nat, k ≤ 64 ∧ i = .int .i64 k ∧ Sched1 w b k wr) (fun i _ => 64 - (intOf i).toNat)
  case atStart =>
    exact ⟨0, by omega, rfl, sched1_start w b _ _ _ (by kernel_rfl) (by kernel_rfl)⟩
  case round =>
    obtain ⟨k, hk, rfl, hb, hsz, hr0, hr⟩ := hrel
    by_cases hlt : k < 64
    · have hix := fun W => HI.out k hlt W
      have hc := hr.cell (i := k / 4) (by omega)
      have hfz := hr.frozen (k / 4)
      obtain ⟨x, hx⟩ : ∃ x, x = word (b.take k) (k / 4) := ⟨_, rfl⟩
      obtain ⟨c, hcc⟩ : ∃ c, c = b.getD k 0 := ⟨_, rfl⟩
      have hx2 : x < 16777216 := by rw [hx]; exact word_part b HBn.out k
      have hc2 : c < 256 := by rw [hcc]; exact HBn.out.getD k
      rw [← hx] at hc
      rw [← hcc] at hix
      have HX := hid hx
      have HC := hid hcc
      have HR := hid hr
      have HR0 := hid hr0
      have HB := hid hb
      have HZ := hid hsz
      clear hx hcc hr hr0 hb hsz
      go_wp2
      go_roundw
      case rel =>
        refine ⟨k + 1, by omega, by go_num, HB.out.setCell (by show _ ≤ w.heap.size + 1 + 1; omega) _, by simpa using HZ.out, HR0.out.setOther (by simp) _, ?_⟩
        refine (HR.out.set (k / 4) _).congr fun j _ => ?_
        rw [word_take b k (by rw [HL.out]; omega) j, or_shift x c hx2 hc2, HX.out, HC.out]
        split <;> rename_i h
        · rw [h]
        · rfl
      case measure => simp [intOf]; omega
    · obtain rfl : k = 64 := by omega
      go_wp2
      go_loopw [6] (fun i wr => ∃ t : Nat, 16 ≤ t ∧ t ≤ 64 ∧ i = .int .i64 t ∧ Sched2 w b t wr) (fun i _ => 64 - (intOf i).toNat)
      case atStart =>
        exact ⟨16, by omega, by omega, rfl, sched2_start HL.out ⟨hb, hsz, hr0, hr⟩⟩
      case round =>
        obtain ⟨t, ht1, ht2, rfl, hb, hsz, hr0, hr⟩ := hrel
        by_cases hlt : t < 64
        · have c2 := hr.cell (i := t - 2) (by omega)
          have c7 := hr.cell (i := t - 7) (by omega)
          have c15 := hr.cell (i := t - 15) (by omega)
          have c16 := hr.cell (i := t - 16) (by omega)
          have ct := hr.cell (i := t) (by omega)
          have hfz := hr.frozen t
          obtain ⟨x2, h2⟩ : ∃ x, x = (wordsUpto b (t - 16)).getD (t - 2) 0 := ⟨_, rfl⟩
          obtain ⟨x7, h7⟩ : ∃ x, x = (wordsUpto b (t - 16)).getD (t - 7) 0 := ⟨_, rfl⟩
          obtain ⟨x15, h15⟩ : ∃ x, x = (wordsUpto b (t - 16)).getD (t - 15) 0 := ⟨_, rfl⟩
          obtain ⟨x16, h16⟩ : ∃ x, x = (wordsUpto b (t - 16)).getD (t - 16) 0 := ⟨_, rfl⟩
          obtain ⟨xt, hxt⟩ : ∃ x, x = (wordsUpto b (t - 16)).getD t 0 := ⟨_, rfl⟩
          have hws := wordsUpto_ws b HBn.out (t - 16)
          have l2 : x2 < 4294967296 := by rw [h2]; exact hws.getD _
          have l7 : x7 < 4294967296 := by rw [h7]; exact hws.getD _
          have l15 : x15 < 4294967296 := by rw [h15]; exact hws.getD _
          have l16 : x16 < 4294967296 := by rw [h16]; exact hws.getD _
          simp only [← h2, ← h7, ← h15, ← h16, ← hxt] at c2 c7 c15 c16 ct
          have H2 := hid h2
          have H7 := hid h7
          have H15 := hid h15
          have H16 := hid h16
          have HR := hid hr
          have HR0 := hid hr0
          have HB := hid hb
          have HZ := hid hsz
          clear h2 h7 h15 h16 hxt hws hr hr0 hb hsz
          have s15 : IntKind.i64.wrap ((t : Int) - 15) = (t : Int) - 15 := IntWalk.i64_in _ (by omega)
          have s2 : IntKind.i64.wrap ((t : Int) - 2) = (t : Int) - 2 := IntWalk.i64_in _ (by omega)
          have p15 : 0 ≤ (t : Int) - 15 := by omega
          have p2 : 0 ≤ (t : Int) - 2 := by omega
          have n15 : ((t : Int) - 15).toNat = t - 15 := by omega
          have n2 : ((t : Int) - 2).toNat = t - 2 := by omega
          have E0 := small0_cast x15 l15
          have E1 := small1_cast x2 l2
          go_wp2
          go_quiet (first | (go_at_call 74; exact quiet_left (rotr_any x15 7 7 _ l15 (by unfold Turn; omega))) | (go_at_call 74; exact quiet_left (rotr_any x15 18 18 _ l15 (by unfold Turn; omega))))
          go_wp2
          go_quiet (first | (go_at_call 74; exact quiet_add_left (rotr_any x2 17 17 _ l2 (by unfold Turn; omega))) | (go_at_call 74; exact quiet_add_left (rotr_any x2 19 19 _ l2 (by unfold Turn; omega))))
          clear s15 s2 p15 p2 n15 n2 E0 E1 c2 c15
          have s7 : IntKind.i64.wrap ((t : Int) - 7) = (t : Int) - 7 := IntWalk.i64_in _ (by omega)
          have s16 : IntKind.i64.wrap ((t : Int) - 16) = (t : Int) - 16 := IntWalk.i64_in _ (by omega)
          have p7 : 0 ≤ (t : Int) - 7 := by omega
          have p16 : 0 ≤ (t : Int) - 16 := by omega
          have n7 : ((t : Int) - 7).toNat = t - 7 := by omega
          have n16 : ((t : Int) - 16).toNat = t - 16 := by omega
          go_wp2
          go_region
          go_wp2
          go_roundw
          case rel =>
            refine ⟨t + 1, by omega, by omega, by go_num, below_setCell_drewN HB.out _ (by show _ ≤ w.heap.size + 1 + 1; omega) _, by simpa using HZ.out, (rowIs_drewN HR0.out _).setOther (by simp) _, ?_⟩
            refine ((rowIs_drewN HR.out _).set t _).congr fun j _ => ?_
            rw [words_step b t ht1 j]
            split
            · rename_i h
              rw [next_cast (wordsUpto b (t - 16)) t x16 x15 x7 x2 H16.out H15.out H7.out H2.out]
            · rfl
          case measure => simp [intOf]; omega
        · obtain rfl : t = 64 := by omega
          obtain ⟨c0, d1, d2, _⟩ := hr0
          obtain ⟨c1, e1, e2, e3⟩ := hr
          have E2 := hid e2
          have D2 := hid d2
          have E3 := hid (words_of e2 e3)
          have HB := hid hb
          clear e2 e3 d2 hb hsz
          go_wp2_with (first | (with_reducible refine wpList_load_row rfl 100 (.tmp 3) rfl (w.heap.size + 1 + 1) rfl 100 c1 (0, 0) _ e1 Tryd.under_w64 rfl (by rw [E2.out]; exact Tryd.size_w64) ?_) | (with_reducible refine wpList_store_row rfl 100 (.tmp 2) (.tmp 79) rfl (w.heap.size + 1) c1 rfl rfl 100 c0 d1 (by rw [E2.out]; exact Tryd.size_w64) (by rw [E2.out, D2.out]) (by rw [E3.out]; exact wordsV_one _) ?_))
          refine bodyPost_ret (results_cell_row rfl _ _ (w.heap.size + 1) 100 c1 (0, 0) _ rfl (setRow_heap _ _ _ _ _ _ d1) Tryd.under_w64 rfl (by rw [E2.out]; exact Tryd.size_w64)) rfl ?_
          exact ⟨by rw [E3.out], below_setRow HB.out (by omega) _⟩
theorem Tryd.under_w8 : Tryd.prog.underlying 76 = some (.array 8 75) := by kernel_rfl
theorem Tryd.size_w8 : (Tryd.prog.info? 76).map (·.size) = some 8 := by kernel_rfl

/-- The round constants lie where the program reads them. -/
def KR (w : World) : Prop := 1 < w.heap.size ∧ ∀ t, t < 64 → w.cell? ⟨1, t, none⟩ = some (.int .u32 (ks.getD t 0 : Nat))
theorem KR.below {w w' : World} (h : KR w) (hb : Below w.heap.size w w') : KR w' :=
  ⟨Nat.lt_of_lt_of_le h.1 hb.size, fun t ht => (hb.cell (p := ⟨1, t, none⟩) (by show 1 < _; have := h.1; omega)).trans (h.2 t ht)⟩

theorem ks_lt (t : Nat) : ks.getD t 0 < 4294967296 := Ws.getD (l := ks) (by unfold Ws; decide) t

theorem index_w64 (l : List Nat) (k : Nat) (hl : l.length = 64) (hk : k < 64) (w : World) :
    (Instr.index 100 (.agg (wordsV l)) (.int .i64 (k : Int))).run Tryd.prog w = .ok (.int .u32 (l.getD k 0 : Nat)) w :=
  run_index_row _ _ 64 _ _ k _ Tryd.under_w64 Tryd.under_u32 rfl Tryd.size_u32 hk (wordsV_at l k (by omega)) w
theorem index_w8 (l : List Nat) (k : Nat) (hl : l.length = 8) (hk : k < 8) (w : World) :
    (Instr.index 76 (.agg (wordsV l)) (.int .i64 (k : Int))).run Tryd.prog w = .ok (.int .u32 (l.getD k 0 : Nat)) w :=
  run_index_row _ _ 8 _ _ k _ Tryd.under_w8 Tryd.under_u32 rfl Tryd.size_u32 hk (wordsV_at l k (by omega)) w

theorem index_8 (a b c d e f g h k : Nat) (hk : k < 8) (w : World) :
    (Instr.index 76 (.agg #[.int .u32 (a : Int), .int .u32 (b : Int), .int .u32 (c : Int), .int .u32 (d : Int), .int .u32 (e : Int), .int .u32 (f : Int), .int .u32 (g : Int), .int .u32 (h : Int)]) (.int .i64 (k : Int))).run Tryd.prog w = .ok (.int .u32 ([a, b, c, d, e, f, g, h].getD k 0 : Nat)) w :=
  index_w8 [a, b, c, d, e, f, g, h] k rfl hk w
theorem heap_second3 (w : World) (X Y Z : Obj) : (((w.alloc X).alloc Y).alloc Z).heap[w.heap.size + 1]? = some Y := by
  rw [Below.heap_alloc ((w.alloc X).alloc Y) Z _ (by simp)]
  have h := heap_alloc_new (w.alloc X) Y
  simpa using h
theorem row_below {w w' : World} {b : Nat} {t : TypeId} {n : Nat} {f : Nat → Value} (h : w.rowIs b t n f) (hb : Below w.heap.size w w') : w'.rowIs b t n f :=
  h.of_block (hb.block b h.lt)
theorem below_drewN {B : Nat} {a w : World} (h : Below B a w) (n : Nat) : Below B a (w.drewN n) := ⟨h.os, h.tape, h.output, h.size, h.block⟩
theorem further {w a b : World} (h : Below w.heap.size w a) (k : Below a.heap.size a b) : Below w.heap.size w b := h.trans (k.mono h.size)

theorem big1_cast (x : Nat) (h : x < 4294967296) : bits .xor .u32 (bits .xor .u32 (nrot 6 x : Nat) (nrot 11 x : Nat)) (nrot 25 x : Nat) = (big1 x : Nat) := by
  rw [u32_xor_nat _ _ (nrot_lt _ _ h) (nrot_lt _ _ h), u32_xor_nat _ _ (Nat.xor_lt_two_pow (n := 32) (nrot_lt _ _ h) (nrot_lt _ _ h)) (nrot_lt _ _ h)]
  rfl
theorem big0_cast (x : Nat) (h : x < 4294967296) : bits .xor .u32 (bits .xor .u32 (nrot 2 x : Nat) (nrot 13 x : Nat)) (nrot 22 x : Nat) = (big0 x : Nat) := by
  rw [u32_xor_nat _ _ (nrot_lt _ _ h) (nrot_lt _ _ h), u32_xor_nat _ _ (Nat.xor_lt_two_pow (n := 32) (nrot_lt _ _ h) (nrot_lt _ _ h)) (nrot_lt _ _ h)]
  rfl
theorem and_lt (a b : Nat) (h : a < 4294967296) : a &&& b < 4294967296 := Nat.lt_of_le_of_lt Nat.and_le_left h
theorem chs_cast (e f g : Nat) (h1 : e < 4294967296) (h2 : f < 4294967296) (h3 : g < 4294967296) :
    bits .xor .u32 (bits .and .u32 e f) (bits .and .u32 (bits .xor .u32 (if IntKind.u32.signed = true then -1 else IntKind.u32.max) e) g) = (chs e f g : Nat) := by
  have e1 : (if IntKind.u32.signed = true then -1 else IntKind.u32.max) = ((4294967295 : Nat) : Int) := by decide
  have l1 : 4294967295 ^^^ e < 4294967296 := Nat.xor_lt_two_pow (n := 32) (by decide) h1
  rw [e1, u32_xor_nat _ _ (by decide) h1, u32_and_nat _ _ h1 h2, u32_and_nat _ _ l1 h3, u32_xor_nat _ _ (and_lt _ _ h1) (and_lt _ _ l1)]
  rfl
theorem major_cast (a b c : Nat) (h1 : a < 4294967296) (h2 : b < 4294967296) (h3 : c < 4294967296) :
    bits .xor .u32 (bits .xor .u32 (bits .and .u32 a b) (bits .and .u32 a c)) (bits .and .u32 b c) = (major a b c : Nat) := by
  rw [u32_and_nat _ _ h1 h2, u32_and_nat _ _ h1 h3, u32_and_nat _ _ h2 h3, u32_xor_nat _ _ (and_lt _ _ h1) (and_lt _ _ h1), u32_xor_nat _ _ (Nat.xor_lt_two_pow (n := 32) (and_lt _ _ h1) (and_lt _ _ h1)) (and_lt _ _ h2)]
  rfl
theorem fin_a (h b c k x y : Nat) : ((((h : Int) + (b : Int) + (c : Int) + (k : Int) + (x : Int)) % 4294967296 + (y : Int)) % 4294967296) = (nadd (nadd (nadd (nadd (nadd h b) c) k) x) y : Nat) := by
  unfold nadd
  omega
theorem fin_e (d h b c k x : Nat) : ((d : Int) + ((h : Int) + (b : Int) + (c : Int) + (k : Int) + (x : Int)) % 4294967296) % 4294967296 = (nadd d (nadd (nadd (nadd (nadd h b) c) k) x) : Nat) := by
  unfold nadd
  omega
theorem sum2_cast (a b : Nat) : ((a : Int) + (b : Int)) % 4294967296 = (nadd a b : Nat) := by
  unfold nadd
  omega

/-- When the block's words are there: the value's row, the result's row. -/
def CompIn (w : World) (l : List Nat) (w1 : World) : Prop :=
  Below w.heap.size w w1 ∧ KR w1 ∧ w1.rowIs w.heap.size 76 8 (fun j => .int .u32 (l.getD j 0 : Nat)) ∧ w1.rowIs (w.heap.size + 1 + 1) 76 8 (fun _ => .int .u32 0)
theorem CompIn.mk {w w1 : World} {l : List Nat} {A cs Z : Array Value} {n : Nat} (hK : KR w) (hA : A = wordsV l) (hl : l.length = 8) (hZ : Z = Array.replicate 8 (.int .u32 0))
    (hb : Below ((((w.alloc (.cells A 76)).alloc (.cells cs 77)).alloc (.cells Z 76)).drewN n).heap.size ((((w.alloc (.cells A 76)).alloc (.cells cs 77)).alloc (.cells Z 76)).drewN n) w1) : CompIn w l w1 := by
  have hB := further (below_drewN (below_first3 w (.cells A 76) (.cells cs 77) (.cells Z 76)) n) hb
  have a1 := World.rowIs_alloc w A 76 (fun j => .int .u32 (l.getD j 0 : Nat)) (fun i hi => by
    rw [hA] at hi ⊢
    exact wordsV_at l i (by rw [wordsV_size] at hi; exact hi))
  rw [hA, wordsV_size, hl] at a1
  have z2 : Z.size = 8 := by rw [hZ, Array.size_replicate]
  have a2 := World.rowIs_alloc ((w.alloc (.cells A 76)).alloc (.cells cs 77)) Z 76 (fun _ => .int .u32 0) (lits_at _ hZ)
  rw [z2] at a2
  refine ⟨hB, hK.below hB, ?_, ?_⟩
  · subst hA
    exact row_below (rowIs_drewN ((a1.alloc _).alloc _) n) hb
  · have := row_below (rowIs_drewN a2 n) hb
    simpa using this

/-- While the variables are added: the first k words are done. -/
def Comp2 (w : World) (l r : List Nat) (k : Nat) (wr : World) : Prop :=
  Below w.heap.size w wr ∧ wr.rowIs w.heap.size 76 8 (fun j => .int .u32 (if j < k then nadd (l.getD j 0) (r.getD j 0) else l.getD j 0 : Nat)) ∧ wr.rowIs (w.heap.size + 1 + 1) 76 8 (fun _ => .int .u32 0)

theorem comp2_step {l r : List Nat} {k x y : Nat} (hx : x = l.getD k 0) (hy : y = r.getD k 0) (j : Nat) :
    (if j = k then Value.int .u32 (((x : Int) + (y : Int)) % 4294967296) else Value.int .u32 (if j < k then nadd (l.getD j 0) (r.getD j 0) else l.getD j 0 : Nat)) =
      .int .u32 (if j < k + 1 then nadd (l.getD j 0) (r.getD j 0) else l.getD j 0 : Nat) := by
  by_cases h : j = k
  · subst h
    rw [if_pos rfl, if_pos (by omega), sum2_cast, hx, hy]
  · rw [if_neg h]
    by_cases h2 : j < k
    · rw [if_pos h2, if_pos (by omega)]
    · rw [if_neg h2, if_neg (by omega)]
theorem comp2_done {c : Array Value} {a1 a2 a3 a4 a5 a6 a7 a8 r1 r2 r3 r4 r5 r6 r7 r8 : Nat} (hs : c.size = 8)
    (h : ∀ i, i < 8 → c[i]? = some (.int .u32 (if i < 8 then nadd ([a1, a2, a3, a4, a5, a6, a7, a8].getD i 0) ([r1, r2, r3, r4, r5, r6, r7, r8].getD i 0) else [a1, a2, a3, a4, a5, a6, a7, a8].getD i 0 : Nat))) :
    c = wordsV [nadd a1 r1, nadd a2 r2, nadd a3 r3, nadd a4 r4, nadd a5 r5, nadd a6 r6, nadd a7 r7, nadd a8 r8] := by
  apply Array.ext_getElem?
  intro i
  by_cases hi : i < 8
  · rw [h i hi, if_pos hi]
    refine Eq.trans ?_ (wordsV_at _ i (by simp only [List.length_cons, List.length_nil]; omega)).symm
    rcases (show i = 0 ∨ i = 1 ∨ i = 2 ∨ i = 3 ∨ i = 4 ∨ i = 5 ∨ i = 6 ∨ i = 7 by omega) with rfl | rfl | rfl | rfl | rfl | rfl | rfl | rfl <;> rfl
  · rw [Array.getElem?_eq_none (by omega), Array.getElem?_eq_none (by rw [wordsV_size]; simp only [List.length_cons, List.length_nil]; omega)]

set_option maxRecDepth 100000 in
set_option maxHeartbeats 6400000 in
theorem compress_any (s : St) (b : List Nat) (w : World) (hs : s.ok) (hl : b.length = 64) (hB : Bn b) (hK : KR w) :
    Calls Tryd.prog 67 #[.agg (wordsV s.list), .agg (bytesV b)] w fun e w' => e = .returned (.agg (wordsV (comp s b).list)) ∧ Below w.heap.size w w' := by
  have HSc := hid fun W => schedule_any b W hl hB
  have HL := hid hl
  have HOk := hid hs
  have HBn := hid hB
  have HK := hid hK
  obtain ⟨cs, hcs⟩ : ∃ cs, cs = bytesV b := ⟨_, rfl⟩
  have HS := hid (show cs.size = 64 by rw [hcs, bytesV_size, hl])
  rw [← hcs] at HSc
  rw [← hcs]
  obtain ⟨sc, hsc⟩ : ∃ sc, sc = comp s b := ⟨_, rfl⟩
  have HC := hid hsc
  rw [← hsc]
  clear hl hB hcs hs hK hsc
  obtain ⟨a, b1, c, d, e, f, g, h⟩ := s
  show Calls Tryd.prog 67 #[.agg #[.int .u32 (a : Int), .int .u32 (b1 : Int), .int .u32 (c : Int), .int .u32 (d : Int), .int .u32 (e : Int), .int .u32 (f : Int), .int .u32 (g : Int), .int .u32 (h : Int)], .agg cs] w _
  go_enter Tryd.func67, Tryd.ntmps67
  go_wp2_with fail
  go_quiet (fail)
  go_wp2_with fail
  go_quiet (fail)
  go_wp2_with (with_reducible refine wpList_load_row rfl 77 (.tmp 3) rfl (w.heap.size + 1) rfl 77 cs (0, 0) _ ?c0 Tryd.under_b64 rfl ?c1 ?_)
  case c0 => exact heap_second3 w _ _ _
  case c1 => rw [HS.out]; exact Tryd.size_b64
  refine (HSc.out _).mono ?_
  rintro e1 w1 ⟨rfl, hb⟩
  have hin : CompIn w [a, b1, c, d, e, f, g, h] w1 := CompIn.mk HK.out rfl rfl (by kernel_rfl) hb
  obtain ⟨ws, hws⟩ : ∃ ws, ws = sched b := ⟨_, rfl⟩
  have HWs := hid hws
  rw [← hws]
  have HI := hid fun (k : Nat) (hk : k < 64) => index_w64 ws k (by rw [hws]; unfold sched; rw [wordsUpto_length]) hk
  have HWl := hid (show Ws ws by rw [hws]; exact wordsUpto_ws b HBn.out 48)
  obtain ⟨wv, hwv⟩ : ∃ wv, wv = wordsV ws := ⟨_, rfl⟩
  rw [← hwv] at HI
  rw [← hwv]
  have HIn := hid hin
  clear hb hin hws hwv
  go_wp2
  go_loopw [5, 6, 7, 8, 9, 10, 11, 12, 37] (fun v5 v6 v7 v8 v9 v10 v11 v12 i wr => ∃ t : Nat, t ≤ 64 ∧ i = .int .i64 t ∧ ∃ r, r = rounds ⟨a, b1, c, d, e, f, g, h⟩ ws t ∧ v5 = .int .u32 r.a ∧ v6 = .int .u32 r.b ∧ v7 = .int .u32 r.c ∧ v8 = .int .u32 r.d ∧ v9 = .int .u32 r.e ∧ v10 = .int .u32 r.f ∧ v11 = .int .u32 r.g ∧ v12 = .int .u32 r.h ∧ ∃ n, wr = w1.drewN n) (fun _ _ _ _ _ _ _ _ i _ => 64 - (intOf i).toNat)
  case atStart => exact ⟨0, by omega, rfl, _, rfl, rfl, rfl, rfl, rfl, rfl, rfl, rfl, rfl, 0, rfl⟩
  case round =>
    obtain ⟨t, ht, rfl, ⟨r1, r2, r3, r4, r5, r6, r7, r8⟩, hr, rfl, rfl, rfl, rfl, rfl, rfl, rfl, rfl, n, rfl⟩ := hrel
    have hok := rounds_ok HOk.out ws t
    rw [← hr] at hok
    have HR := hid hr
    clear hr
    obtain ⟨o1, o2, o3, o4, o5, o6, o7, o8⟩ := hok
    by_cases hlt : t < 64
    · obtain ⟨k, hk⟩ : ∃ k, k = ks.getD t 0 := ⟨_, rfl⟩
      obtain ⟨x, hx⟩ : ∃ x, x = ws.getD t 0 := ⟨_, rfl⟩
      have hc := HIn.out.2.1.2 t hlt
      have hi := HI.out t hlt
      have kl : k < 4294967296 := by rw [hk]; exact ks_lt t
      have xl : x < 4294967296 := by rw [hx]; exact HWl.out.getD t
      rw [← hk] at hc
      rw [← hx] at hi
      have HKk := hid hk
      have HXx := hid hx
      clear hk hx
      have E1 := big1_cast r5 o5
      have E2 := chs_cast r5 r6 r7 o5 o6 o7
      go_wp2
      go_quiet (first | (go_at_call 74; exact quiet_add_left (rotr_any r5 6 6 _ o5 (by unfold Turn; omega))) | (go_at_call 74; exact quiet_add_left (rotr_any r5 11 11 _ o5 (by unfold Turn; omega))) | (go_at_call 74; exact quiet_add_left (rotr_any r5 25 25 _ o5 (by unfold Turn; omega))))
      clear E1 E2
      have E5 := big0_cast r1 o1
      have E6 := major_cast r1 r2 r3 o1 o2 o3
      obtain ⟨Y, hY⟩ : ∃ Y, Y = yOf ⟨r1, r2, r3, r4, r5, r6, r7, r8⟩ := ⟨_, rfl⟩
      have E7 : ((big0 r1 : Nat) + (major r1 r2 r3 : Nat) : Int) % 4294967296 = (Y : Int) := by rw [hY]; exact sum2_cast _ _
      have HY := hid hY
      clear hY
      go_wp2_with fail
      refine (rotr_any r1 2 2 _ o1 (by unfold Turn; omega)).mono ?_
      rintro e' w' ⟨rfl, rfl⟩
      go_wp2_with fail
      refine (rotr_any r1 13 13 _ o1 (by unfold Turn; omega)).mono ?_
      rintro e' w' ⟨rfl, rfl⟩
      go_wp2_with fail
      refine (rotr_any r1 22 22 _ o1 (by unfold Turn; omega)).mono ?_
      rintro e' w' ⟨rfl, rfl⟩
      go_wp2
      go_roundw
      case rel =>
        refine ⟨t + 1, by omega, by go_num, S.step ⟨r1, r2, r3, r4, r5, r6, r7, r8⟩ k x, ?_, ?_, rfl, rfl, rfl, ?_, rfl, rfl, rfl, _, rfl⟩
        · rw [rounds, ← HR.out, ← HKk.out, ← HXx.out]
        · rw [fin_a, HY.out]; rfl
        · rw [fin_e]; rfl
      case measure => simp [intOf]; omega
    · obtain rfl : t = 64 := by omega
      obtain ⟨q1, q2, q3, q4⟩ := HIn.out
      have HI8 := hid fun (k : Nat) (hk : k < 8) => index_8 r1 r2 r3 r4 r5 r6 r7 r8 k hk
      have HC2 := hid (show sc = plus ⟨a, b1, c, d, e, f, g, h⟩ ⟨r1, r2, r3, r4, r5, r6, r7, r8⟩ by rw [HC.out, HR.out, HWs.out]; rfl)
      have Q1 := hid q1
      have Q3 := hid q3
      have Q4 := hid q4
      clear q1 q2 q3 q4 HC HR HI HIn HWl HWs o1 o2 o3 o4 o5 o6 o7 o8
      go_wp2
      go_loopw [108] (fun i wr => ∃ k : Nat, k ≤ 8 ∧ i = .int .i64 k ∧ Comp2 w [a, b1, c, d, e, f, g, h] [r1, r2, r3, r4, r5, r6, r7, r8] k wr) (fun i _ => 8 - (intOf i).toNat)
      case atStart => exact ⟨0, by omega, rfl, below_drewN Q1.out n, by simpa using rowIs_drewN Q3.out n, rowIs_drewN Q4.out n⟩
      case round =>
        obtain ⟨k, hk, rfl, hb, hr, h0⟩ := hrel
        by_cases hlt2 : k < 8
        · have hix := HI8.out k hlt2
          have hc := hr.cell (i := k) (by omega)
          have hfz := hr.frozen k
          simp only [Nat.lt_irrefl, if_false] at hc
          obtain ⟨x, hx⟩ : ∃ x, x = [a, b1, c, d, e, f, g, h].getD k 0 := ⟨_, rfl⟩
          obtain ⟨y, hy⟩ : ∃ y, y = [r1, r2, r3, r4, r5, r6, r7, r8].getD k 0 := ⟨_, rfl⟩
          rw [← hx] at hc
          rw [← hy] at hix
          have HX := hid hx
          have HY := hid hy
          have HB := hid hb
          have HRr := hid hr
          have H0 := hid h0
          clear hx hy hb hr h0
          go_wp2
          go_roundw
          case rel =>
            refine ⟨k + 1, by omega, by go_num, HB.out.setCell (by show _ ≤ w.heap.size; omega) _, ?_, H0.out.setOther (by show w.heap.size + 1 + 1 ≠ w.heap.size; omega) _⟩
            refine (HRr.out.set k _).congr fun j _ => ?_
            exact comp2_step HX.out HY.out j
          case measure => simp [intOf]; omega
        · obtain rfl : k = 8 := by omega
          obtain ⟨c0, d1, d2, _⟩ := h0
          obtain ⟨c1, e1, e2, e3⟩ := hr
          have E2 := hid e2
          have D2 := hid d2
          have E3 := hid (comp2_done e2 e3)
          have HB := hid hb
          clear e2 e3 d2 hb
          go_wp2_with (first | (with_reducible refine wpList_load_row rfl 76 (.tmp 2) rfl w.heap.size rfl 76 c1 (0, 0) _ e1 Tryd.under_w8 rfl (by rw [E2.out]; exact Tryd.size_w8) ?_) | (with_reducible refine wpList_store_row rfl 76 (.tmp 4) (.tmp 119) rfl (w.heap.size + 1 + 1) c1 rfl rfl 76 c0 d1 (by rw [E2.out]; exact Tryd.size_w8) (by rw [E2.out, D2.out]) (by rw [E3.out]; exact wordsV_one _) ?_))
          refine bodyPost_ret (results_cell_row rfl _ _ (w.heap.size + 1 + 1) 76 c1 (0, 0) _ rfl (setRow_heap _ _ _ _ _ _ d1) Tryd.under_w8 rfl (by rw [E2.out]; exact Tryd.size_w8)) rfl ?_
          exact ⟨by rw [E3.out, HC2.out]; rfl, below_setRow HB.out (by omega) _⟩
end Go.Proofs.YthadfilandmhiaaDoor
