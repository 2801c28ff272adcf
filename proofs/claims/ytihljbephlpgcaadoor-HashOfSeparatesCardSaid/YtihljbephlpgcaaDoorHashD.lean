/-
  gantry/hash.compress: the hash value after one more block.
-/
import Derived.Test.YtihljbephlpgcaaDoorHashC
namespace Go.Proofs.YtihljbephlpgcaaDoor
open Go.RowKit
open Go.Lib (hid)
open S

theorem Tryd.under_w8 : Tryd.prog.underlying 30 = some (.array 8 29) := by kernel_rfl
theorem Tryd.size_w8 : (Tryd.prog.info? 30).map (·.size) = some 8 := by kernel_rfl

/-- The round constants lie where the program reads them. -/
def KR (w : World) : Prop := 1 < w.heap.size ∧ ∀ t, t < 64 → w.cell? ⟨1, t, none⟩ = some (.int .u32 (ks.getD t 0 : Nat))
theorem KR.below {w w' : World} (h : KR w) (hb : Below w.heap.size w w') : KR w' :=
  ⟨Nat.lt_of_lt_of_le h.1 hb.size, fun t ht => (hb.cell (p := ⟨1, t, none⟩) (by show 1 < _; have := h.1; omega)).trans (h.2 t ht)⟩

theorem ks_lt (t : Nat) : ks.getD t 0 < 4294967296 := Ws.getD (l := ks) (by unfold Ws; decide) t

theorem index_w64 (l : List Nat) (k : Nat) (hl : l.length = 64) (hk : k < 64) (w : World) :
    (Instr.index 54 (.agg (wordsV l)) (.int .i64 (k : Int))).run Tryd.prog w = .ok (.int .u32 (l.getD k 0 : Nat)) w :=
  run_index_row _ _ 64 _ _ k _ Tryd.under_w64 Tryd.under_u32 rfl Tryd.size_u32 hk (wordsV_at l k (by omega)) w
theorem index_w8 (l : List Nat) (k : Nat) (hl : l.length = 8) (hk : k < 8) (w : World) :
    (Instr.index 30 (.agg (wordsV l)) (.int .i64 (k : Int))).run Tryd.prog w = .ok (.int .u32 (l.getD k 0 : Nat)) w :=
  run_index_row _ _ 8 _ _ k _ Tryd.under_w8 Tryd.under_u32 rfl Tryd.size_u32 hk (wordsV_at l k (by omega)) w

theorem index_8 (a b c d e f g h k : Nat) (hk : k < 8) (w : World) :
    (Instr.index 30 (.agg #[.int .u32 (a : Int), .int .u32 (b : Int), .int .u32 (c : Int), .int .u32 (d : Int), .int .u32 (e : Int), .int .u32 (f : Int), .int .u32 (g : Int), .int .u32 (h : Int)]) (.int .i64 (k : Int))).run Tryd.prog w = .ok (.int .u32 ([a, b, c, d, e, f, g, h].getD k 0 : Nat)) w :=
  index_w8 [a, b, c, d, e, f, g, h] k rfl hk w
theorem heap_second3 (w : World) (X Y Z : Obj) : (((w.alloc X).alloc Y).alloc Z).heap[w.heap.size + 1]? = some Y := by
  rw [Below.heap_alloc ((w.alloc X).alloc Y) Z _ (by simp)]
  have h := heap_alloc_new (w.alloc X) Y
  simpa using h
theorem row_below {w w' : World} {b : Nat} {t : TypeId} {n : Nat} {f : Nat → Value} (h : w.rowIs b t n f) (hb : Below w.heap.size w w') : w'.rowIs b t n f :=
  h.of_block (hb.block b h.lt)
theorem below_drewN {B : Nat} {a w : World} (h : Below B a w) (n : Nat) : Below B a (w.drewN n) := ⟨h.os, h.tape, h.output, h.size, h.block⟩
theorem further {w a b : World} (h : Below w.heap.size w a) (k : Below a.heap.size a b) : Below w.heap.size w b := h.trans (k.mono h.size)

theorem big1_cast (x : Nat) (h : x < 4294967296) : bits .xor .u32 (bits .xor .u32 (nrot 6 x : Nat) (nrot 11 x : Nat)) (nrot 25 x : Nat) = (big1 x : Nat) := by
  rw [u32_xor_nat _ _ (nrot_lt _ _ h) (nrot_lt _ _ h), u32_xor_nat _ _ (Nat.xor_lt_two_pow (n := 32) (nrot_lt _ _ h) (nrot_lt _ _ h)) (nrot_lt _ _ h)]
  rfl
theorem big0_cast (x : Nat) (h : x < 4294967296) : bits .xor .u32 (bits .xor .u32 (nrot 2 x : Nat) (nrot 13 x : Nat)) (nrot 22 x : Nat) = (big0 x : Nat) := by
  rw [u32_xor_nat _ _ (nrot_lt _ _ h) (nrot_lt _ _ h), u32_xor_nat _ _ (Nat.xor_lt_two_pow (n := 32) (nrot_lt _ _ h) (nrot_lt _ _ h)) (nrot_lt _ _ h)]
  rfl
theorem and_lt (a b : Nat) (h : a < 4294967296) : a &&& b < 4294967296 := Nat.lt_of_le_of_lt Nat.and_le_left h
theorem chs_cast (e f g : Nat) (h1 : e < 4294967296) (h2 : f < 4294967296) (h3 : g < 4294967296) :
    bits .xor .u32 (bits .and .u32 e f) (bits .and .u32 (bits .xor .u32 (if IntKind.u32.signed = true then -1 else IntKind.u32.max) e) g) = (chs e f g : Nat) := by
  have e1 : (if IntKind.u32.signed = true then -1 else IntKind.u32.max) = ((4294967295 : Nat) : Int) := by decide
  have l1 : 4294967295 ^^^ e < 4294967296 := Nat.xor_lt_two_pow (n := 32) (by decide) h1
  rw [e1, u32_xor_nat _ _ (by decide) h1, u32_and_nat _ _ h1 h2, u32_and_nat _ _ l1 h3, u32_xor_nat _ _ (and_lt _ _ h1) (and_lt _ _ l1)]
  rfl
theorem major_cast (a b c : Nat) (h1 : a < 4294967296) (h2 : b < 4294967296) (h3 : c < 4294967296) :
    bits .xor .u32 (bits .xor .u32 (bits .and .u32 a b) (bits .and .u32 a c)) (bits .and .u32 b c) = (major a b c : Nat) := by
  rw [u32_and_nat _ _ h1 h2, u32_and_nat _ _ h1 h3, u32_and_nat _ _ h2 h3, u32_xor_nat _ _ (and_lt _ _ h1) (and_lt _ _ h1), u32_xor_nat _ _ (Nat.xor_lt_two_pow (n := 32) (and_lt _ _ h1) (and_lt _ _ h1)) (and_lt _ _ h2)]
  rfl
theorem fin_a (h b c k x y : Nat) : ((((h : Int) + (b : Int) + (c : Int) + (k : Int) + (x : Int)) % 4294967296 + (y : Int)) % 4294967296) = (nadd (nadd (nadd (nadd (nadd h b) c) k) x) y : Nat) := by
  unfold nadd
  omega
theorem fin_e (d h b c k x : Nat) : ((d : Int) + ((h : Int) + (b : Int) + (c : Int) + (k : Int) + (x : Int)) % 4294967296) % 4294967296 = (nadd d (nadd (nadd (nadd (nadd h b) c) k) x) : Nat) := by
  unfold nadd
  omega
theorem sum2_cast (a b : Nat) : ((a : Int) + (b : Int)) % 4294967296 = (nadd a b : Nat) := by
  unfold nadd
  omega

/-- When the block's words are there: the value's row, the result's row. -/
def CompIn (w : World) (l : List Nat) (w1 : World) : Prop :=
  Below w.heap.size w w1 ∧ KR w1 ∧ w1.rowIs w.heap.size 30 8 (fun j => .int .u32 (l.getD j 0 : Nat)) ∧ w1.rowIs (w.heap.size + 1 + 1) 30 8 (fun _ => .int .u32 0)
theorem CompIn.mk {w w1 : World} {l : List Nat} {A cs Z : Array Value} {n : Nat} (hK : KR w) (hA : A = wordsV l) (hl : l.length = 8) (hZ : Z = Array.replicate 8 (.int .u32 0))
    (hb : Below ((((w.alloc (.cells A 30)).alloc (.cells cs 31)).alloc (.cells Z 30)).drewN n).heap.size ((((w.alloc (.cells A 30)).alloc (.cells cs 31)).alloc (.cells Z 30)).drewN n) w1) : CompIn w l w1 := by
  have hB := further (below_drewN (below_first3 w (.cells A 30) (.cells cs 31) (.cells Z 30)) n) hb
  have a1 := World.rowIs_alloc w A 30 (fun j => .int .u32 (l.getD j 0 : Nat)) (fun i hi => by
    rw [hA] at hi ⊢
    exact wordsV_at l i (by rw [wordsV_size] at hi; exact hi))
  rw [hA, wordsV_size, hl] at a1
  have z2 : Z.size = 8 := by rw [hZ, Array.size_replicate]
  have a2 := World.rowIs_alloc ((w.alloc (.cells A 30)).alloc (.cells cs 31)) Z 30 (fun _ => .int .u32 0) (lits_at _ hZ)
  rw [z2] at a2
  refine ⟨hB, hK.below hB, ?_, ?_⟩
  · subst hA
    exact row_below (rowIs_drewN ((a1.alloc _).alloc _) n) hb
  · have := row_below (rowIs_drewN a2 n) hb
    simpa using this

/-- While the variables are added: the first k words are done. -/
def Comp2 (w : World) (l r : List Nat) (k : Nat) (wr : World) : Prop :=
  Below w.heap.size w wr ∧ wr.rowIs w.heap.size 30 8 (fun j => .int .u32 (if j < k then nadd (l.getD j 0) (r.getD j 0) else l.getD j 0 : Nat)) ∧ wr.rowIs (w.heap.size + 1 + 1) 30 8 (fun _ => .int .u32 0)

theorem comp2_step {l r : List Nat} {k x y : Nat} (hx : x = l.getD k 0) (hy : y = r.getD k 0) (j : Nat) :
    (if j = k then Value.int .u32 (((x : Int) + (y : Int)) % 4294967296) else Value.int .u32 (if j < k then nadd (l.getD j 0) (r.getD j 0) else l.getD j 0 : Nat)) =
      .int .u32 (if j < k + 1 then nadd (l.getD j 0) (r.getD j 0) else l.getD j 0 : Nat) := by
  by_cases h : j = k
  · subst h
    rw [if_pos rfl, if_pos (by omega), sum2_cast, hx, hy]
  · rw [if_neg h]
    by_cases h2 : j < k
    · rw [if_pos h2, if_pos (by omega)]
    · rw [if_neg h2, if_neg (by omega)]
theorem comp2_done {c : Array Value} {a1 a2 a3 a4 a5 a6 a7 a8 r1 r2 r3 r4 r5 r6 r7 r8 : Nat} (hs : c.size = 8)
    (h : ∀ i, i < 8 → c[i]? = some (.int .u32 (if i < 8 then nadd ([a1, a2, a3, a4, a5, a6, a7, a8].getD i 0) ([r1, r2, r3, r4, r5, r6, r7, r8].getD i 0) else [a1, a2, a3, a4, a5, a6, a7, a8].getD i 0 : Nat))) :
    c = wordsV [nadd a1 r1, nadd a2 r2, nadd a3 r3, nadd a4 r4, nadd a5 r5, nadd a6 r6, nadd a7 r7, nadd a8 r8] := by
  apply Array.ext_getElem?
  intro i
  by_cases hi : i < 8
  · rw [h i hi, if_pos hi]
    refine Eq.trans ?_ (wordsV_at _ i (by simp only [List.length_cons, List.length_nil]; omega)).symm
    rcases (show i = 0 ∨ i = 1 ∨ i = 2 ∨ i = 3 ∨ i = 4 ∨ i = 5 ∨ i = 6 ∨ i = 7 by omega) with rfl | rfl | rfl | rfl | rfl | rfl | rfl | rfl <;> rfl
  · rw [Array.getElem?_eq_none (by omega), Array.getElem?_eq_none (by rw [wordsV_size]; simp only [List.length_cons, List.length_nil]; omega)]

set_option maxRecDepth 100000 in
set_option maxHeartbeats 6400000 in
theorem compress_any (s : St) (b : List Nat) (w : World) (hs : s.ok) (hl : b.length = 64) (hB : Bn b) (hK : KR w) :
    Calls Tryd.prog 30 #[.agg (wordsV s.list), .agg (bytesV b)] w fun e w' => e = .returned (.agg (wordsV (comp s b).list)) ∧ Below w.heap.size w w' := by
  have HSc := hid fun W => schedule_any b W hl hB
  have HL := hid hl
  have HOk := hid hs
  have HBn := hid hB
  have HK := hid hK
  obtain ⟨cs, hcs⟩ : ∃ cs, cs = bytesV b := ⟨_, rfl⟩
  have HS := hid (show cs.size = 64 by rw [hcs, bytesV_size, hl])
  rw [← hcs] at HSc
  rw [← hcs]
  obtain ⟨sc, hsc⟩ : ∃ sc, sc = comp s b := ⟨_, rfl⟩
  have HC := hid hsc
  rw [← hsc]
  clear hl hB hcs hs hK hsc
  obtain ⟨a, b1, c, d, e, f, g, h⟩ := s
  show Calls Tryd.prog 30 #[.agg #[.int .u32 (a : Int), .int .u32 (b1 : Int), .int .u32 (c : Int), .int .u32 (d : Int), .int .u32 (e : Int), .int .u32 (f : Int), .int .u32 (g : Int), .int .u32 (h : Int)], .agg cs] w _
  go_enter Tryd.func30, Tryd.ntmps30
  go_wp2_with fail
  go_quiet (fail)
  go_wp2_with fail
  go_quiet (fail)
  go_wp2_with (with_reducible refine wpList_load_row rfl 31 (.tmp 3) rfl (w.heap.size + 1) rfl 31 cs (0, 0) _ ?c0 Tryd.under_b64 rfl ?c1 ?_)
  case c0 => exact heap_second3 w _ _ _
  case c1 => rw [HS.out]; exact Tryd.size_b64
  refine (HSc.out _).mono ?_
  rintro e1 w1 ⟨rfl, hb⟩
  have hin : CompIn w [a, b1, c, d, e, f, g, h] w1 := CompIn.mk HK.out rfl rfl (by kernel_rfl) hb
  obtain ⟨ws, hws⟩ : ∃ ws, ws = sched b := ⟨_, rfl⟩
  have HWs := hid hws
  rw [← hws]
  have HI := hid fun (k : Nat) (hk : k < 64) => index_w64 ws k (by rw [hws]; unfold sched; rw [wordsUpto_length]) hk
  have HWl := hid (show Ws ws by rw [hws]; exact wordsUpto_ws b HBn.out 48)
  obtain ⟨wv, hwv⟩ : ∃ wv, wv = wordsV ws := ⟨_, rfl⟩
  rw [← hwv] at HI
  rw [← hwv]
  have HIn := hid hin
  clear hb hin hws hwv
  go_wp2
  go_loopw [5, 6, 7, 8, 9, 10, 11, 12, 37] (fun v5 v6 v7 v8 v9 v10 v11 v12 i wr => ∃ t : Nat, t ≤ 64 ∧ i = .int .i64 t ∧ ∃ r, r = rounds ⟨a, b1, c, d, e, f, g, h⟩ ws t ∧ v5 = .int .u32 r.a ∧ v6 = .int .u32 r.b ∧ v7 = .int .u32 r.c ∧ v8 = .int .u32 r.d ∧ v9 = .int .u32 r.e ∧ v10 = .int .u32 r.f ∧ v11 = .int .u32 r.g ∧ v12 = .int .u32 r.h ∧ ∃ n, wr = w1.drewN n) (fun _ _ _ _ _ _ _ _ i _ => 64 - (intOf i).toNat)
  case atStart => exact ⟨0, by omega, rfl, _, rfl, rfl, rfl, rfl, rfl, rfl, rfl, rfl, rfl, 0, rfl⟩
  case round =>
    obtain ⟨t, ht, rfl, ⟨r1, r2, r3, r4, r5, r6, r7, r8⟩, hr, rfl, rfl, rfl, rfl, rfl, rfl, rfl, rfl, n, rfl⟩ := hrel
    have hok := rounds_ok HOk.out ws t
    rw [← hr] at hok
    have HR := hid hr
    clear hr
    obtain ⟨o1, o2, o3, o4, o5, o6, o7, o8⟩ := hok
    by_cases hlt : t < 64
    · obtain ⟨k, hk⟩ : ∃ k, k = ks.getD t 0 := ⟨_, rfl⟩
      obtain ⟨x, hx⟩ : ∃ x, x = ws.getD t 0 := ⟨_, rfl⟩
      have hc := HIn.out.2.1.2 t hlt
      have hi := HI.out t hlt
      have kl : k < 4294967296 := by rw [hk]; exact ks_lt t
      have xl : x < 4294967296 := by rw [hx]; exact HWl.out.getD t
      rw [← hk] at hc
      rw [← hx] at hi
      have HKk := hid hk
      have HXx := hid hx
      clear hk hx
      have E1 := big1_cast r5 o5
      have E2 := chs_cast r5 r6 r7 o5 o6 o7
      go_wp2
      go_quiet (first | (go_at_call 38; exact quiet_add_left (rotr_any r5 6 6 _ o5 (by unfold Turn; omega))) | (go_at_call 38; exact quiet_add_left (rotr_any r5 11 11 _ o5 (by unfold Turn; omega))) | (go_at_call 38; exact quiet_add_left (rotr_any r5 25 25 _ o5 (by unfold Turn; omega))))
      clear E1 E2
      have E5 := big0_cast r1 o1
      have E6 := major_cast r1 r2 r3 o1 o2 o3
      obtain ⟨Y, hY⟩ : ∃ Y, Y = yOf ⟨r1, r2, r3, r4, r5, r6, r7, r8⟩ := ⟨_, rfl⟩
      have E7 : ((big0 r1 : Nat) + (major r1 r2 r3 : Nat) : Int) % 4294967296 = (Y : Int) := by rw [hY]; exact sum2_cast _ _
      have HY := hid hY
      clear hY
      go_wp2_with fail
      refine (rotr_any r1 2 2 _ o1 (by unfold Turn; omega)).mono ?_
      rintro e' w' ⟨rfl, rfl⟩
      go_wp2_with fail
      refine (rotr_any r1 13 13 _ o1 (by unfold Turn; omega)).mono ?_
      rintro e' w' ⟨rfl, rfl⟩
      go_wp2_with fail
      refine (rotr_any r1 22 22 _ o1 (by unfold Turn; omega)).mono ?_
      rintro e' w' ⟨rfl, rfl⟩
      go_wp2
      go_roundw
      case rel =>
        refine ⟨t + 1, by omega, by go_num, S.step ⟨r1, r2, r3, r4, r5, r6, r7, r8⟩ k x, ?_, ?_, rfl, rfl, rfl, ?_, rfl, rfl, rfl, _, rfl⟩
        · rw [rounds, ← HR.out, ← HKk.out, ← HXx.out]
        · rw [fin_a, HY.out]; rfl
        · rw [fin_e]; rfl
      case measure => simp [intOf]; omega
    · obtain rfl : t = 64 := by omega
      obtain ⟨q1, q2, q3, q4⟩ := HIn.out
      have HI8 := hid fun (k : Nat) (hk : k < 8) => index_8 r1 r2 r3 r4 r5 r6 r7 r8 k hk
      have HC2 := hid (show sc = plus ⟨a, b1, c, d, e, f, g, h⟩ ⟨r1, r2, r3, r4, r5, r6, r7, r8⟩ by rw [HC.out, HR.out, HWs.out]; rfl)
      have Q1 := hid q1
      have Q3 := hid q3
      have Q4 := hid q4
      clear q1 q2 q3 q4 HC HR HI HIn HWl HWs o1 o2 o3 o4 o5 o6 o7 o8
      go_wp2
      go_loopw [108] (fun i wr => ∃ k : Nat, k ≤ 8 ∧ i = .int .i64 k ∧ Comp2 w [a, b1, c, d, e, f, g, h] [r1, r2, r3, r4, r5, r6, r7, r8] k wr) (fun i _ => 8 - (intOf i).toNat)
      case atStart => exact ⟨0, by omega, rfl, below_drewN Q1.out n, by simpa using rowIs_drewN Q3.out n, rowIs_drewN Q4.out n⟩
      case round =>
        obtain ⟨k, hk, rfl, hb, hr, h0⟩ := hrel
        by_cases hlt2 : k < 8
        · have hix := HI8.out k hlt2
          have hc := hr.cell (i := k) (by omega)
          have hfz := hr.frozen k
          simp only [Nat.lt_irrefl, if_false] at hc
          obtain ⟨x, hx⟩ : ∃ x, x = [a, b1, c, d, e, f, g, h].getD k 0 := ⟨_, rfl⟩
          obtain ⟨y, hy⟩ : ∃ y, y = [r1, r2, r3, r4, r5, r6, r7, r8].getD k 0 := ⟨_, rfl⟩
          rw [← hx] at hc
          rw [← hy] at hix
          have HX := hid hx
          have HY := hid hy
          have HB := hid hb
          have HRr := hid hr
          have H0 := hid h0
          clear hx hy hb hr h0
          go_wp2
          go_roundw
          case rel =>
            refine ⟨k + 1, by omega, by go_num, HB.out.setCell (by show _ ≤ w.heap.size; omega) _, ?_, H0.out.setOther (by show w.heap.size + 1 + 1 ≠ w.heap.size; omega) _⟩
            refine (HRr.out.set k _).congr fun j _ => ?_
            exact comp2_step HX.out HY.out j
          case measure => simp [intOf]; omega
        · obtain rfl : k = 8 := by omega
          obtain ⟨c0, d1, d2, _⟩ := h0
          obtain ⟨c1, e1, e2, e3⟩ := hr
          have E2 := hid e2
          have D2 := hid d2
          have E3 := hid (comp2_done e2 e3)
          have HB := hid hb
          clear e2 e3 d2 hb
          go_wp2_with (first | (with_reducible refine wpList_load_row rfl 30 (.tmp 2) rfl w.heap.size rfl 30 c1 (0, 0) _ e1 Tryd.under_w8 rfl (by rw [E2.out]; exact Tryd.size_w8) ?_) | (with_reducible refine wpList_store_row rfl 30 (.tmp 4) (.tmp 119) rfl (w.heap.size + 1 + 1) c1 rfl rfl 30 c0 d1 (by rw [E2.out]; exact Tryd.size_w8) (by rw [E2.out, D2.out]) (by rw [E3.out]; exact wordsV_one _) ?_))
          refine bodyPost_ret (results_cell_row rfl _ _ (w.heap.size + 1 + 1) 30 c1 (0, 0) _ rfl (setRow_heap _ _ _ _ _ _ d1) Tryd.under_w8 rfl (by rw [E2.out]; exact Tryd.size_w8)) rfl ?_
          exact ⟨by rw [E3.out, HC2.out]; rfl, below_setRow HB.out (by omega) _⟩

end Go.Proofs.YtihljbephlpgcaaDoor
