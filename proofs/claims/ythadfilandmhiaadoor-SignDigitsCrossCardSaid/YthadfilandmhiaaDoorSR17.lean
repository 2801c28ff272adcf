/-
  What gantry/hash.Stream.Add needs: copies of strings and stores of arrays into the middle of a block; the block of a longer message.
  gantry/hash.Stream.Add: a longer message.
-/
import Derived.Test.YthadfilandmhiaaDoorSR15
import Derived.Test.YthadfilandmhiaaDoorSR16
import Derived.Laws.CopyOwn
import Derived.Laws.CopyRow
import Derived.Laws.DeepStrings4
set_option linter.unusedVariables false
set_option linter.unusedSimpArgs false
set_option linter.unusedSectionVars false
namespace Go.Proofs.YthadfilandmhiaaDoor
open Go.RowKit
open Go.Lib (hid)
open S
/-- The bytes of a string. -/
def tx (s : ByteArray) : List Nat := s.data.toList.map (·.toNat)
theorem tx_length (s : ByteArray) : (tx s).length = s.size := by simp [tx]
theorem tx_bn (s : ByteArray) : Bn (tx s) := by
  intro x hx
  obtain ⟨y, _, rfl⟩ := List.mem_map.1 hx
  exact y.toNat_lt
theorem tx_extract (s : ByteArray) (n : Nat) : tx (s.extract n s.size) = (tx s).drop n := by
  simp only [tx, ByteArray.data_extract, Array.toList_extract, List.extract_eq_take_drop, List.map_drop, List.map_take]
  rw [List.take_of_length_le]
  simp only [List.length_drop, List.length_map, Array.length_toList]
  exact Nat.le_refl _

def bc (l : List Nat) : List Value := l.map fun x : Nat => Value.int .u8 (x : Int)
theorem bc_length (l : List Nat) : (bc l).length = l.length := by simp [bc]
theorem bc_one (l : List Nat) : ∀ v ∈ bc l, v.oneCell' = true := by
  intro v hv
  obtain ⟨x, _, rfl⟩ := List.mem_map.1 hv
  rfl

/-- 'copy(dst, s)', s a string: as many bytes as fit. -/
theorem run_copy_str {P : Program} (w : World) (dT sT ty elem : TypeId) (g o dLen dCap : Nat) (s : ByteArray) (cur : Array Value) (t : TypeId) (n : Nat) (hn : n = Nat.min s.size dLen)
    (hu : P.underlying dT = some (.slice elem)) (hs : (P.info? elem).map (·.size) = some 1) (hg : w.heap[g]? = some (.cells cur t (0, 0))) (hfit : o + n ≤ cur.size) :
    (Builtin.copy_ #[dT, sT] ty #[.slice (some ⟨g, o, none⟩) dLen dCap, .string s]).run P w =
      .ok (goInt n) (w.setRow g (splice cur.toList o (bc ((tx s).take n))).toArray) := by
  have hle : n ≤ s.size := by rw [hn]; exact Nat.min_le_left _ _
  have hlen : (bc ((tx s).take n)).length = n := by rw [bc_length, List.length_take, tx_length]; omega
  have hst := run_storeCells_at P g o t (bc ((tx s).take n)) 0 cur w hg (by rw [hlen]; simpa using hfit) (bc_one _)
  have htk : List.take n (List.map (fun b : UInt8 => Value.int .u8 (b.toNat : Int)) s.data.toList) = bc ((tx s).take n) := by
    simp only [bc, tx, List.map_take, List.map_map]
    rfl
  simp only [Nat.add_zero] at hst
  cases hq : P.info? elem with
  | none => simp [hq] at hs
  | some i =>
    simp [Builtin.copy_, run_underlying hu, Builtin.lenOf, Builtin.firstCells, sizeOf, typeInfo, hq, ← hn]
    rw [htk, hst]
    simp [Result.andThen, splice, List.append_assoc]

theorem wpList_copy_str {P : Program} {w : World} {ops : Array Oper} {rest : List Oper} {o : Oper} {a : Act} {Q : Exit → Act → World → Prop} (hgd : o.guard = none) (d s : Operand) (dT sT : TypeId)
    (ho : o.op = .call { callee := .builtin .copy, args := #[d, s], argTypes := #[dT, sT] }) (elem : TypeId) (hu : P.underlying dT = some (.slice elem)) (hsz : (P.info? elem).map (·.size) = some 1)
    (g off dLen dCap : Nat) (x : ByteArray) (hd : a.eval d = .slice (some ⟨g, off, none⟩) dLen dCap) (hs : a.eval s = .string x)
    (cur : List Value) (t : TypeId) (hg : w.heap[g]? = some (.cells cur.toArray t (0, 0))) (n : Nat) (hn : n = Nat.min x.size dLen) (hfit : off + n ≤ cur.length)
    (h : ∀ w', Hid (w'.heap[g]? = some (.cells (splice cur off (bc ((tx x).take n))).toArray t (0, 0))) → Hid (∀ i, i ≠ g → w'.heap[i]? = w.heap[i]?) → Hid (w'.heap.size = w.heap.size) → Hid (w'.os = w.os ∧ w'.tape = w.tape ∧ w'.output = w.output) → wpList P ops Q rest (a.put o.dst (goInt n)) w') :
    wpList P ops Q (o :: rest) a w := by
  refine wpList_plain hgd fun K hK => ?_
  have hrun := run_copy_str (P := P) w dT sT o.type elem g off dLen dCap x cur.toArray t n hn hu hsz hg (by simpa using hfit)
  unfold Oper.wp
  simp [execOp, ho, resolve, invoke, builtin, hd, hs, hrun, Result.andThen]
  exact hK _ _ (h _ (hid (setRow_heap w g _ _ t _ hg)) (hid fun i hi => setRow_other w g i _ hi) (hid (by simp)) (hid ⟨rfl, rfl, rfl⟩))

/-- A whole array into the middle of a block. -/
theorem wpList_store_at {P : Program} {w : World} {ops : Array Oper} {rest : List Oper} {op : Oper} {a : Act} {Q : Exit → Act → World → Prop} (hgd : op.guard = none) (ty : TypeId) (x y : Operand) (ho : op.op = .store ty x y)
    (g o : Nat) (cells : Array Value) (hx : a.eval x = .pointer (some ⟨g, o, none⟩)) (hy : a.eval y = .agg cells)
    (cur : List Value) (t : TypeId) (hg : w.heap[g]? = some (.cells cur.toArray t (0, 0))) (hi : (P.info? ty).map (·.size) = some cells.size) (hfit : o + cells.size ≤ cur.length) (h1 : cells.all (·.oneCell') = true)
    (h : ∀ w', Hid (w'.heap[g]? = some (.cells (splice cur o cells.toList).toArray t (0, 0))) → Hid (∀ i, i ≠ g → w'.heap[i]? = w.heap[i]?) → Hid (w'.heap.size = w.heap.size) → Hid (w'.os = w.os ∧ w'.tape = w.tape ∧ w'.output = w.output) → wpList P ops Q rest (a.put op.dst undef) w') :
    wpList P ops Q (op :: rest) a w := by
  have hst := run_storeCells_at P g o t cells.toList 0 cur.toArray w hg (by simpa using hfit) (fun v hv => (Array.all_eq_true_iff_forall_mem.1 h1) v (by simpa using hv))
  have hrun : (storeVar ty ⟨g, o, none⟩ (.agg cells)).run P w = .ok () (w.setRow g (splice cur o cells.toList).toArray) := by
    cases hq : P.info? ty with
    | none => simp [hq] at hi
    | some i =>
      have hs : cells.size = i.size := by simp [hq] at hi; omega
      simp [storeVar, sizeOf, typeInfo, hq, Value.cells, hs] at hst ⊢
      rw [hst]
      simp [splice, hs]
  refine wpList_plain hgd fun K hK => ?_
  unfold Oper.wp execOp
  simp only [ho, hx, hy, Instr.storeAt, Instr.sureAddr, Sem.run_bind, Sem.run_pure, Result.andThen_ok, hrun]
  exact hK _ _ (h _ (hid (setRow_heap w g _ _ t _ hg)) (hid fun i hi => setRow_other w g i _ hi) (hid (by simp)) (hid ⟨rfl, rfl, rfl⟩))

/-! ### The cells of a stream -/
theorem splice_blk (v blk : List Nat) (len u : Nat) (x : List Nat) (hv : v.length = 8) (h : u + x.length ≤ blk.length) :
    splice (strL v blk len) (8 + u) (bc x) = strL v (splice blk u x) len := by
  have e1 : (v.map (fun x : Nat => Value.int .u32 (x : Int))).length = 8 := by simp [hv]
  unfold splice strL bc
  rw [List.length_map, List.take_append, List.take_of_length_le (by omega), e1, show 8 + u - 8 = u by omega, List.take_append_of_le_length (by simp; omega),
    show 8 + u + x.length = 8 + (u + x.length) by omega, List.drop_append, List.drop_eq_nil_of_le (by omega), e1, show 8 + (u + x.length) - 8 = u + x.length by omega, List.drop_append_of_le_length (by simp; omega)]
  simp [List.map_take, List.map_drop, List.append_assoc]
theorem splice_val (v v' blk : List Nat) (len : Nat) (hv : v.length = 8) (hv' : v'.length = 8) :
    splice (strL v blk len) 0 (v'.map fun x : Nat => Value.int .u32 (x : Int)) = strL v' blk len := by
  unfold splice strL
  rw [List.take_zero, List.nil_append, List.length_map, hv', Nat.zero_add, List.drop_append, List.drop_eq_nil_of_le (by simp [hv]), List.length_map, hv, Nat.sub_self]
  simp
theorem set_len (v blk : List Nat) (len len' : Nat) (hv : v.length = 8) (hb : blk.length = 64) :
    ((strL v blk len).toArray.setIfInBounds 72 (.int .u64 (len' : Int))) = (strL v blk len').toArray := by
  apply Array.ext'
  simp only [Array.toList_setIfInBounds, strL]
  rw [List.set_append_right _ _ (by simp [hv]), List.set_append_right _ _ (by simp [hv, hb])]
  simp [hv, hb]

theorem blkOf_length (m : List Nat) : (blkOf m).length = 64 := by
  simp only [blkOf, List.length_append, List.length_drop, List.length_replicate]
  omega
theorem blkOf_bn (m : List Nat) (h : Bn m) : Bn (blkOf m) := by
  intro x hx
  rcases List.mem_append.1 hx with hx | hx
  · exact h x (List.mem_of_mem_drop hx)
  · rw [(List.mem_replicate.1 hx).2]; decide
theorem blk_splice (m x : List Nat) (h : m.length % 64 + x.length ≤ 64) :
    splice (blkOf m) (m.length % 64) x = (m ++ x).drop (64 * (m.length / 64)) ++ List.replicate (64 - m.length % 64 - x.length) 0 := by
  have hl : (m.drop (64 * (m.length / 64))).length = m.length % 64 := by rw [List.length_drop]; omega
  have e : (m.drop (64 * (m.length / 64))).drop (m.length % 64 + x.length) = [] := List.drop_eq_nil_of_le (by omega)
  unfold splice blkOf
  rw [List.take_left' hl, List.drop_append, e, hl, List.drop_replicate, List.nil_append, List.drop_append_of_le_length (by omega), List.append_assoc]
  congr 3
  omega
theorem blk_part (m x : List Nat) (h : m.length % 64 + x.length < 64) : splice (blkOf m) (m.length % 64) x = blkOf (m ++ x) ∧ after (m ++ x) ((m ++ x).length / 64) = after m (m.length / 64) := by
  have hq : (m ++ x).length / 64 = m.length / 64 := by rw [List.length_append]; omega
  have hr : (m ++ x).length % 64 = m.length % 64 + x.length := by rw [List.length_append]; omega
  refine ⟨?_, ?_⟩
  · rw [blk_splice m x (by omega)]
    unfold blkOf
    rw [hq, hr, Nat.sub_sub]
  · rw [hq, after_append _ _ _ (by omega)]
theorem blk_full (m x : List Nat) (h : m.length % 64 + x.length = 64) :
    after (m ++ x) ((m ++ x).length / 64) = comp (after m (m.length / 64)) (splice (blkOf m) (m.length % 64) x) ∧ blkOf (m ++ x) = List.replicate 64 0 ∧ (splice (blkOf m) (m.length % 64) x).length = 64 := by
  have hq : (m ++ x).length / 64 = m.length / 64 + 1 := by rw [List.length_append]; omega
  have hr : (m ++ x).length % 64 = 0 := by rw [List.length_append]; omega
  have hs := blk_splice m x (by omega)
  rw [show 64 - m.length % 64 - x.length = 0 by omega, List.replicate_zero, List.append_nil] at hs
  have hl : ((m ++ x).drop (64 * (m.length / 64))).length = 64 := by rw [List.length_drop, List.length_append]; omega
  refine ⟨?_, ?_, by rw [hs, hl]⟩
  · rw [hq, hs]
    have e : after (m ++ x) (m.length / 64 + 1) = comp (after (m ++ x) (m.length / 64)) (((m ++ x).drop (64 * (m.length / 64))).take 64) := by rw [after]
    rw [e, after_append _ _ _ (by omega), List.take_of_length_le (by omega)]
  · unfold blkOf
    rw [hq, hr, List.drop_eq_nil_of_le (by rw [List.length_append]; omega)]
    rfl
theorem Tryd.under_bs : Tryd.prog.underlying 51 = some (.slice 5) := by kernel_rfl
theorem Tryd.under_b64e : Tryd.prog.underlying 77 = some (.array (Tryd.prog.arrayLen 77) (Tryd.prog.elem 77)) := by kernel_rfl
theorem Tryd.len_b64 : Tryd.prog.arrayLen 77 = 64 := by kernel_rfl
theorem Tryd.sizeE_b64 (w : World) : (sizeOf (Tryd.prog.elem 77)).run Tryd.prog w = .ok 1 w := by kernel_rfl

theorem slice_block (w : World) (B u : Nat) (hu : u < 64) :
    (Instr.sliceAt 77 (.pointer (some ⟨B, 8, none⟩)) (some (.int .i64 (u : Int))) none none).run Tryd.prog w = .ok (.slice (some ⟨B, 8 + u, none⟩) (64 - u) (64 - u)) w := by
  rw [run_sliceAt_array_l w _ _ Tryd.under_b64e _ _ (by omega) (by rw [Tryd.len_b64]; omega), Tryd.sizeE_b64, Tryd.len_b64]
  simp only [Result.andThen, slicedAt, Int.toNat_natCast]
  rw [if_neg (by omega), Nat.mul_one, Addr.add_lit]

theorem strL_72 (v blk : List Nat) (len : Nat) (hv : v.length = 8) (hb : blk.length = 64) : (strL v blk len).toArray[72]? = some (.int .u64 (len : Int)) := by
  unfold strL
  rw [List.getElem?_toArray, List.getElem?_append_right (by simp [hv]), List.getElem?_append_right (by simp [hv, hb])]
  simp [hv, hb]
theorem splice_len (blk : List Nat) (u : Nat) (x : List Nat) (h : u + x.length ≤ blk.length) : (splice blk u x).length = blk.length := length_splice _ _ _ h

theorem streamL_part (M y : List Nat) (h : M.length % 64 + y.length < 64) : streamL (M ++ y) = strL (after M (M.length / 64)).list (splice (blkOf M) (M.length % 64) y) (M.length + y.length) := by
  obtain ⟨h1, h2⟩ := blk_part M y h
  unfold streamL
  rw [h2, h1, List.length_append]
theorem streamL_full (M y : List Nat) (h : M.length % 64 + y.length = 64) : streamL (M ++ y) = strL (comp (after M (M.length / 64)) (splice (blkOf M) (M.length % 64) y)).list (List.replicate 64 0) (M.length + y.length) := by
  obtain ⟨h1, h2, _⟩ := blk_full M y h
  unfold streamL
  rw [h1, h2, List.length_append]
theorem range_of {w : World} {b : Nat} {t : TypeId} {fr : Nat × Nat} {L X cs Y : List Value} (h : w.heap[b]? = some (.cells L.toArray t fr)) (e : L = X ++ (cs ++ Y)) (o : Nat) (ho : X.length = o) : w.rangeAt b o cs := by
  intro j v hj
  have hlt : j < cs.length := (List.getElem?_eq_some_iff.1 hj).1
  rw [cell_of_row _ _ _ _ _ _ h, List.getElem?_toArray, e, List.getElem?_append_right (by omega), ← ho, Nat.add_sub_cancel_left, List.getElem?_append_left hlt, hj]
/-- Block g has turned, nothing else. -/
theorem below_same {w w1 : World} {B g : Nat} {w0 : World} (hb : Below B w0 w) (hg : B ≤ g) (h1 : ∀ i, i ≠ g → w1.heap[i]? = w.heap[i]?) (h2 : w1.heap.size = w.heap.size) (h3 : w1.os = w.os ∧ w1.tape = w.tape ∧ w1.output = w.output) : Below B w0 w1 :=
  ⟨h3.1.trans hb.os, h3.2.1.trans hb.tape, h3.2.2.trans hb.output, by rw [h2]; exact hb.size, fun i hi => (h1 i (by omega)).trans (hb.block i hi)⟩
theorem take_more (l : List Nat) (k n : Nat) : l.take (k + n) = l.take k ++ (l.drop k).take n := by rw [List.take_add]

theorem splice_bn {b y : List Nat} (hb : Bn b) (hy : Bn y) (u : Nat) : Bn (splice b u y) := by
  intro x hx
  unfold splice at hx
  rcases List.mem_append.1 hx with h | h
  · exact hb x (List.mem_of_mem_take h)
  · rcases List.mem_append.1 h with h | h
    · exact hy x h
    · exact hb x (List.mem_of_mem_drop h)

theorem lt_of_heap {w : World} {i : Nat} {o : Obj} (h : w.heap[i]? = some o) : i < w.heap.size := (Array.getElem?_eq_some_iff.1 h).1

theorem zero_blk (v b2 : List Nat) (len : Nat) (Zs : List Value) (hz : Zs = bc (List.replicate 64 0)) (hv : v.length = 8) (hb : b2.length = 64) : splice (strL v b2 len) 8 Zs = strL v (List.replicate 64 0) len := by
  subst hz
  have h := splice_blk v b2 len 0 (List.replicate 64 0) hv (by simp [hb])
  rw [Nat.add_zero] at h
  rw [h]
  congr 1
  unfold splice
  rw [List.drop_eq_nil_of_le (by simp [hb])]
  simp

theorem wpList_load_whole {P : Program} {ops : Array Oper} {rest : List Oper} {o : Oper} {a : Act} {w : World} {Q : Exit → Act → World → Prop} (hgd : o.guard = none) (ty : TypeId) (x : Operand) (ho : o.op = .load ty x)
    (g : Nat) (hx : a.eval x = .pointer (some ⟨g, 0, none⟩)) (t : TypeId) (cs : Array Value) (fr : Nat × Nat) (d : TypeDesc) (hg : w.heap[g]? = some (.cells cs t fr))
    (hu : P.underlying ty = some d) (hd : d.isRow = true) (hi : (P.info? ty).map (·.size) = some cs.size)
    (h : wpList P ops Q rest (a.put o.dst (.agg cs)) w) : wpList P ops Q (o :: rest) a w :=
  wpList_load_row hgd ty x ho g hx t cs fr d hg hu (by cases d <;> first | rfl | cases hd) hi h
theorem results_cell_whole {P : Program} {fn : Func} {p : Tmp} {ty : TypeId} (h : fn.results = #[.cell p ty]) (tmps : Array Value) (w : World) (g : Nat) (t : TypeId) (cs : Array Value) (fr : Nat × Nat) (d : TypeDesc)
    (hp : tmps.getD p undef = .pointer (some ⟨g, 0, none⟩)) (hg : w.heap[g]? = some (.cells cs t fr))
    (hu : P.underlying ty = some d) (hd : d.isRow = true) (hi : (P.info? ty).map (·.size) = some cs.size) :
    (results fn tmps).run P w = .ok (.agg cs) w :=
  results_cell_row h tmps w g t cs fr d hp hg hu (by cases d <;> first | rfl | cases hd) hi

/-- While a text is added: the stream of the message so far. -/
def AddIn (w : World) (m : List Nat) (wr : World) : Prop :=
  Below w.heap.size w wr ∧ wr.heap[w.heap.size]? = some (.cells (streamL m).toArray 80 (0, 0)) ∧ ∃ Z, wr.heap[w.heap.size + 1]? = some (.cells Z 80 (0, 0)) ∧ Z.size = 73

theorem AddIn.start (w : World) (m : List Nat) (A Z : Array Value) (hA : A = (streamL m).toArray) (hZ : Z.size = 73) : AddIn w m ((w.alloc (.cells A 80)).alloc (.cells Z 80)) := by
  subst hA
  refine ⟨((Below.refl _ _).alloc (Nat.le_refl _) _).alloc (by simp) _, ?_, Z, ?_, hZ⟩
  · rw [Below.heap_alloc _ _ _ (by simp)]
    exact heap_alloc_new w _
  · have := heap_alloc_new (w.alloc (.cells (streamL m).toArray 80)) (.cells Z 80)
    simpa using this

set_option maxRecDepth 100000 in
set_option maxHeartbeats 3200000 in
theorem Add_any (m : List Nat) (s : ByteArray) (w : World) (hB : Bn m) (hlen : m.length + s.size ≤ 1152921504606846976) (hK : KR w) :
    Calls Tryd.prog 53 #[streamV m, .string s] w fun e w' => e = .returned (streamV (m ++ tx s)) ∧ Below w.heap.size w w' := by
  have HBn := hid hB
  have HLen := hid hlen
  have HK := hid hK
  have hz := zero_stream
  obtain ⟨Z, hZ⟩ : ∃ Z, Z = (strL (List.replicate 8 0) (List.replicate 64 0) 0).toArray := ⟨_, rfl⟩
  have HZ := hid (show Z.size = 73 by rw [hZ, List.size_toArray]; exact strL_length _ _ _ rfl rfl)
  rw [← hZ] at hz
  obtain ⟨A, hA⟩ : ∃ A, A = (streamL m).toArray := ⟨_, rfl⟩
  have HA := hid hA
  unfold streamV
  rw [← hA]
  have HSt := hid (AddIn.start w m A Z hA HZ.out)
  have HTx := hid (tx_length s)
  clear hZ hA hB hlen hK
  go_enter Tryd.func53, Tryd.ntmps53
  go_wp2_with fail
  go_loopw [1] (fun tv wr => ∃ k : Nat, ∃ x : ByteArray, k ≤ s.size ∧ x.size = s.size - k ∧ tx x = (tx s).drop k ∧ tv = .string x ∧ AddIn w (m ++ (tx s).take k) wr) (fun tv _ => match tv with | .string x => x.size | _ => 0)
  case atStart => exact ⟨0, s, by omega, by omega, by simp, rfl, by simpa using HSt.out⟩
  case round =>
    obtain ⟨k, x, hk, hx, htx, rfl, hin⟩ := hrel
    by_cases h0 : 0 < x.size
    · obtain ⟨M, hM⟩ : ∃ M, M = m ++ (tx s).take k := ⟨_, rfl⟩
      have hMl : M.length = m.length + k := by rw [hM, List.length_append, List.length_take, HTx.out]; omega
      have hMB : Bn M := by
        intro y hy
        rw [hM] at hy
        rcases List.mem_append.1 hy with hy | hy
        · exact HBn.out y hy
        · exact tx_bn s y (List.mem_of_mem_take hy)
      rw [← hM] at hin
      obtain ⟨len, hlen⟩ : ∃ len, len = M.length := ⟨_, rfl⟩
      obtain ⟨u, hu⟩ : ∃ u, u = len % 64 := ⟨_, rfl⟩
      obtain ⟨n, hn⟩ : ∃ n, n = Nat.min x.size (64 - u) := ⟨_, rfl⟩
      have u64 : u < 64 := by omega
      have nx : n ≤ x.size := by rw [hn]; exact Nat.min_le_left _ _
      have nu : u + n ≤ 64 := by have : n ≤ 64 - u := by rw [hn]; exact Nat.min_le_right _ _
                                 omega
      have n0 : 0 < n := by rw [hn]; exact Nat.lt_min.2 ⟨h0, by omega⟩
      have hll := HLen.out
      have l60 : len ≤ 1152921504606846976 := by omega
      have x60 : x.size ≤ 1152921504606846976 := by omega
      obtain ⟨L, hL⟩ : ∃ L, L = streamL M := ⟨_, rfl⟩
      have hLs : L = strL (after M (M.length / 64)).list (blkOf M) len := by rw [hL, hlen]; rfl
      have hL73 : L.length = 73 := by rw [hLs]; exact strL_length _ _ _ rfl (blkOf_length M)
      obtain ⟨hb, h34, Z1, hZ1, hZs⟩ := hin
      rw [← hL] at h34
      have c72 : wr.cell? ⟨w.heap.size, 72, none⟩ = some (.int .u64 (len : Int)) := by
        rw [cell_of_row _ _ _ _ _ _ h34, hLs]
        exact strL_72 _ _ _ rfl (blkOf_length M)
      have E0 : (len : Int) % 64 = (u : Int) := by omega
      have hsl := fun W => slice_block W w.heap.size u u64
      have HMl := hid hMl
      have HM := hid hM
      have HMB := hid hMB
      have HLen2 := hid hlen
      have HU := hid hu
      have HN := hid hn
      have HX := hid hx
      have HTX := hid htx
      have HL := hid hLs
      have HL73 := hid hL73
      have HB := hid hb
      have H34 := hid h34
      have HZ1 := hid hZ1
      have HZs := hid hZs
      clear hMl hM hMB hlen hu hn hx htx hLs hL73 hb h34 hZ1 hZs hll hL
      go_wp2_with (with_reducible refine wpList_copy_str rfl (.tmp 16) (.tmp 17) 51 9 rfl 5 Tryd.under_bs Tryd.size_u8 w.heap.size (8 + u) (64 - u) (64 - u) x rfl rfl L 80 H34.out n HN.out ?c1 ?_)
      case c1 => rw [HL73.out]; omega
      intro w1 G1 G2 G3 G4
      obtain ⟨y, hy⟩ : ∃ y, y = (tx x).take n := ⟨_, rfl⟩
      have hyl : y.length = n := by rw [hy, List.length_take, tx_length]; omega
      have hyB : Bn y := by rw [hy]; exact fun z hz => tx_bn x z (List.mem_of_mem_take hz)
      have hmy : m ++ (tx s).take (k + n) = M ++ y := by rw [take_more, ← HTX.out, hy, HM.out, List.append_assoc]
      obtain ⟨st, hst⟩ : ∃ st, st = after M (M.length / 64) := ⟨_, rfl⟩
      obtain ⟨b2, hb2⟩ : ∃ b2, b2 = splice (blkOf M) u y := ⟨_, rfl⟩
      have hul : M.length % 64 = u := by rw [HU.out, HLen2.out]
      have hb2l : b2.length = 64 := by rw [hb2, splice_len _ _ _ (by rw [blkOf_length]; omega), blkOf_length]
      have g1 : w1.heap[w.heap.size]? = some (.cells (strL st.list b2 len).toArray 80 (0, 0)) := by
        have g := G1.out
        rw [HL.out, ← hy, ← hst, splice_blk _ _ _ _ _ rfl (by rw [blkOf_length]; omega), ← hb2] at g
        exact g
      have hc1 : w1.cell? ⟨w.heap.size, 72, none⟩ = some (.int .u64 (len : Int)) := by
        rw [cell_of_row _ _ _ _ _ _ g1]; exact strL_72 _ _ _ rfl hb2l
      have hf1 := frozen_of_row _ _ 72 _ _ g1
      have HBw1 := hid (below_same HB.out (Nat.le_refl _) G2.out G3.out G4.out)
      have g2 : (w1.setCell ⟨w.heap.size, 72, none⟩ (.int .u64 ((len : Int) + (n : Int)))).heap[w.heap.size]? = some (.cells (strL st.list b2 (len + n)).toArray 80 (0, 0)) := by
        rw [heap_setCell_same _ _ _ _ _ _ g1, show (len : Int) + (n : Int) = ((len + n : Nat) : Int) by omega, set_len _ _ _ _ rfl hb2l]
      have z2 : (w1.setCell ⟨w.heap.size, 72, none⟩ (.int .u64 ((len : Int) + (n : Int)))).heap[w.heap.size + 1]? = some (.cells Z1 80 (0, 0)) := by
        rw [heap_setCell_other _ _ _ _ (by show w.heap.size + 1 ≠ w.heap.size; omega), G2.out _ (by omega), HZ1.out]
      have HBw2 := hid (HBw1.out.setCell (p := ⟨w.heap.size, 72, none⟩) (Nat.le_refl _) (.int .u64 ((len : Int) + (n : Int))))
      have HG2 := hid g2
      have HZ2 := hid z2
      have HY := hid hy
      have HYl := hid hyl
      have HMy := hid hmy
      have HSt2 := hid hst
      have HB2 := hid hb2
      have HB2l := hid hb2l
      have HUl := hid hul
      have HYB := hid hyB
      have hxe : tx (x.extract n x.size) = (tx s).drop (k + n) := by rw [tx_extract, HTX.out, List.drop_drop]
      have hxs : (x.extract n x.size).size = s.size - (k + n) := by rw [← tx_length, hxe, List.length_drop, HTx.out]
      have HXe := hid hxe
      have HXs := hid hxs
      have hkn : k + n ≤ s.size := by have := HX.out; omega
      clear hy hyl hyB hmy hst hb2 hul hb2l g1 g2 z2 c72 hxe hxs
      by_cases hfull : u + n = 64
      · have ht : ((u : Int) + (n : Int) == 64) = true := by simp; omega
        have hcmp : ∀ W, KR W → Calls Tryd.prog 67 #[.agg (wordsV st.list), .agg (bytesV b2)] W fun e w' => e = .returned (.agg (wordsV (comp st b2).list)) ∧ Below W.heap.size W w' := fun W hW =>
          compress_any st b2 W (by rw [HSt2.out]; exact after_ok _ _) HB2l.out (by rw [HB2.out]; exact splice_bn (blkOf_bn M HMB.out) HYB.out u) hW
        have HCmp := hid hcmp
        obtain ⟨C8, hC8⟩ : ∃ C, C = st.list.map fun x : Nat => Value.int .u32 (x : Int) := ⟨_, rfl⟩
        obtain ⟨C64, hC64⟩ : ∃ C, C = bc b2 := ⟨_, rfl⟩
        have HC8 := hid hC8
        have HC64 := hid hC64
        clear hC8 hC64 hcmp hfull
        go_wp2_with (first | (with_reducible refine wpList_load_mid rfl 76 (.tmp 32) rfl w.heap.size 0 rfl C8 _ ?r0 Tryd.under_w8 rfl ?i0 ?_) | (with_reducible refine wpList_load_mid rfl 77 (.tmp 34) rfl w.heap.size 8 rfl C64 _ ?r1 Tryd.under_b64 rfl ?i1 ?_))
        case r0 => exact range_of (X := []) HG2.out (by rw [HC8.out]; rfl) 0 rfl
        case r1 => exact range_of (X := C8) (Y := [.int .u64 ((len + n : Nat) : Int)]) HG2.out (by rw [HC64.out, HC8.out]; rfl) 8 (by rw [HC8.out]; rfl)
        case i0 => rw [HC8.out]; exact Tryd.size_w8
        case i1 => rw [HC64.out, bc_length, HB2l.out]; exact Tryd.size_b64
        have e8 : C8.toArray = wordsV st.list := by rw [HC8.out]; rfl
        have e64 : C64.toArray = bytesV b2 := by rw [HC64.out]; rfl
        rw [e8, e64]
        clear e8 e64
        refine (HCmp.out _ (HK.out.below HBw2.out)).mono ?_
        rintro e w2 ⟨rfl, hb2⟩
        have g3 : w2.heap[w.heap.size]? = some (.cells (strL st.list b2 (len + n)).toArray 80 (0, 0)) := (hb2.block _ (lt_of_heap HG2.out)).trans HG2.out
        have z3 : w2.heap[w.heap.size + 1]? = some (.cells Z1 80 (0, 0)) := (hb2.block _ (lt_of_heap HZ2.out)).trans HZ2.out
        have HBw3 := hid (further HBw2.out hb2)
        have HG3 := hid g3
        have HZ3 := hid z3
        obtain ⟨sv, hsv⟩ : ∃ sv, sv = comp st b2 := ⟨_, rfl⟩
        rw [← hsv]
        have HSv := hid hsv
        obtain ⟨VC, hVC⟩ : ∃ VC, VC = wordsV sv.list := ⟨_, rfl⟩
        rw [← hVC]
        have HVC := hid hVC
        have HL3 := hid (strL_length st.list b2 (len + n) rfl HB2l.out)
        clear hb2 g3 z3 hsv hVC
        go_wp2_with (with_reducible refine wpList_store_at rfl 76 (.tmp 37) (.tmp 36) rfl w.heap.size 0 VC rfl rfl _ 80 HG3.out ?s1 ?s2 ?s3 ?_)
        case s1 => rw [HVC.out, wordsV_size]; exact Tryd.size_w8
        case s2 => rw [HL3.out, HVC.out, wordsV_size]; show 0 + 8 ≤ 73; decide
        case s3 => rw [HVC.out]; exact wordsV_one _
        intro w3 F1 F2 F3 F4
        have g4 : w3.heap[w.heap.size]? = some (.cells (strL sv.list b2 (len + n)).toArray 80 (0, 0)) := by
          have h := F1.out
          rw [HVC.out] at h
          rw [h]
          exact congrArg (fun l : List Value => some (Obj.cells l.toArray 80 (0, 0))) (splice_val _ _ _ _ rfl rfl)
        have HZ4 := hid ((F2.out _ (by omega)).trans HZ3.out)
        have HBw4 := hid (below_same HBw3.out (Nat.le_refl _) F2.out F3.out F4.out)
        have HG4 := hid g4
        have HL4 := hid (strL_length sv.list b2 (len + n) rfl HB2l.out)
        clear g4
        go_wp2_with (with_reducible refine wpList_store_at rfl 77 (.tmp 39) (.tmp 38) rfl w.heap.size 8 _ rfl rfl _ 80 HG4.out ?q1 ?q2 ?q3 ?_)
        case q1 => exact Tryd.size_b64
        case q2 => rw [HL4.out]; show 8 + 64 ≤ 73; omega
        case q3 => kernel_rfl
        intro w4 K1 K2 K3 K4
        have g5 : w4.heap[w.heap.size]? = some (.cells (strL sv.list (List.replicate 64 0) (len + n)).toArray 80 (0, 0)) := by
          have h := K1.out
          rw [h]
          exact congrArg (fun l : List Value => some (Obj.cells l.toArray 80 (0, 0))) (zero_blk _ _ _ _ (by kernel_rfl) rfl HB2l.out)
        have HG5 := hid g5
        have HZ5 := hid ((K2.out _ (by omega)).trans HZ4.out)
        have HBw5 := hid (below_same HBw4.out (Nat.le_refl _) K2.out K3.out K4.out)
        have hun : u + n = 64 := by have := WalkArith.int_eq ht; omega
        clear g5
        go_wp2
        go_roundw
        case rel =>
          refine ⟨k + n, x.extract n x.size, hkn, HXs.out, HXe.out, rfl, HBw5.out, ?_, Z1, HZ5.out, HZs.out⟩
          rw [HMy.out, streamL_full M y (by rw [HUl.out, HYl.out]; exact hun), HG5.out, HSv.out, HSt2.out, HB2.out, HUl.out, HYl.out, HLen2.out]
        case measure => have := HXs.out; have := HX.out; simp only; omega
      · have ht : ((u : Int) + (n : Int) == 64) = false := by simp; omega
        go_wp2
        go_roundw
        case rel =>
          refine ⟨k + n, x.extract n x.size, hkn, HXs.out, HXe.out, rfl, HBw2.out, ?_, Z1, HZ2.out, HZs.out⟩
          rw [HMy.out, streamL_part M y (by rw [HUl.out, HYl.out]; omega), HG2.out, HSt2.out, HB2.out, HUl.out, HYl.out, HLen2.out]
        case measure => have := HXs.out; have := HX.out; simp only; omega
    · obtain ⟨M, hM⟩ : ∃ M, M = m ++ (tx s).take k := ⟨_, rfl⟩
      have hMe : M = m ++ tx s := by rw [hM, List.take_of_length_le (by rw [HTx.out]; omega)]
      rw [← hM] at hin
      obtain ⟨hb, h34, Z1, hZ1, hZs⟩ := hin
      obtain ⟨L, hL⟩ : ∃ L, L = (streamL M).toArray := ⟨_, rfl⟩
      rw [← hL] at h34
      have HLs := hid (show L.size = 73 by rw [hL, List.size_toArray]; exact strL_length _ _ _ rfl (blkOf_length M))
      have HL1 := hid (show L.all (·.oneCell') = true by rw [hL]; exact strL_all _ _ _)
      have HL := hid (show L = (streamL (m ++ tx s)).toArray by rw [hL, hMe])
      have HB := hid hb
      have H34 := hid h34
      have HZ1 := hid hZ1
      have HZs := hid hZs
      obtain ⟨d, hd1, hd2⟩ := Tryd.under_s
      have HD1 := hid hd1
      have HD3 := hid hd2
      clear hM hMe hL hb h34 hZ1 hZs hd1 hd2 htx
      go_wp2_with (first | (with_reducible refine wpList_load_whole rfl 80 (.tmp 2) rfl w.heap.size rfl 80 L (0, 0) d H34.out HD1.out HD3.out (by rw [HLs.out]; exact Tryd.size_s73) ?_) | (with_reducible refine wpList_store_row rfl 80 (.tmp 4) (.tmp 40) rfl (w.heap.size + 1) L rfl rfl 80 Z1 HZ1.out (by rw [HLs.out]; exact Tryd.size_s73) (by rw [HLs.out, HZs.out]) HL1.out ?_))
      refine bodyPost_ret (results_cell_whole rfl _ _ (w.heap.size + 1) 80 L (0, 0) d rfl (setRow_heap _ _ _ _ _ _ HZ1.out) HD1.out HD3.out (by rw [HLs.out]; exact Tryd.size_s73)) rfl ?_
      exact ⟨by rw [HL.out], below_setRow HB.out (by omega) _⟩
end Go.Proofs.YthadfilandmhiaaDoor
