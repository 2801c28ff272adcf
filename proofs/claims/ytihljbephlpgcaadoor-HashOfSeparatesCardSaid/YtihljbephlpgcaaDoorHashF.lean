/-
  What gantry/hash.Stream.Add needs: copies of strings and stores of arrays into the middle of a block; the block of a longer message.
-/
import Derived.Test.YtihljbephlpgcaaDoorHashD
import Derived.Test.YtihljbephlpgcaaDoorHashE
import Derived.Laws.CopyOwn
import Derived.Laws.CopyRow
import Derived.Laws.DeepStrings4
namespace Go.Proofs.YtihljbephlpgcaaDoor
open Go.RowKit
open Go.Lib (hid)
open S

/-- The bytes of a string. -/
def tx (s : ByteArray) : List Nat := s.data.toList.map (·.toNat)
theorem tx_length (s : ByteArray) : (tx s).length = s.size := by simp [tx]
theorem tx_bn (s : ByteArray) : Bn (tx s) := by
  intro x hx
  obtain ⟨y, _, rfl⟩ := List.mem_map.1 hx
  exact y.toNat_lt
theorem tx_extract (s : ByteArray) (n : Nat) : tx (s.extract n s.size) = (tx s).drop n := by
  simp only [tx, ByteArray.data_extract, Array.toList_extract, List.extract_eq_take_drop, List.map_drop, List.map_take]
  rw [List.take_of_length_le]
  simp only [List.length_drop, List.length_map, Array.length_toList]
  exact Nat.le_refl _

def bc (l : List Nat) : List Value := l.map fun x : Nat => Value.int .u8 (x : Int)
theorem bc_length (l : List Nat) : (bc l).length = l.length := by simp [bc]
theorem bc_one (l : List Nat) : ∀ v ∈ bc l, v.oneCell' = true := by
  intro v hv
  obtain ⟨x, _, rfl⟩ := List.mem_map.1 hv
  rfl

/-- 'copy(dst, s)', s a string: as many bytes as fit. -/
theorem run_copy_str {P : Program} (w : World) (dT sT ty elem : TypeId) (g o dLen dCap : Nat) (s : ByteArray) (cur : Array Value) (t : TypeId) (n : Nat) (hn : n = Nat.min s.size dLen)
    (hu : P.underlying dT = some (.slice elem)) (hs : (P.info? elem).map (·.size) = some 1) (hg : w.heap[g]? = some (.cells cur t (0, 0))) (hfit : o + n ≤ cur.size) :
    (Builtin.copy_ #[dT, sT] ty #[.slice (some ⟨g, o, none⟩) dLen dCap, .string s]).run P w =
      .ok (goInt n) (w.setRow g (splice cur.toList o (bc ((tx s).take n))).toArray) := by
  have hle : n ≤ s.size := by rw [hn]; exact Nat.min_le_left _ _
  have hlen : (bc ((tx s).take n)).length = n := by rw [bc_length, List.length_take, tx_length]; omega
  have hst := run_storeCells_at P g o t (bc ((tx s).take n)) 0 cur w hg (by rw [hlen]; simpa using hfit) (bc_one _)
  have htk : List.take n (List.map (fun b : UInt8 => Value.int .u8 (b.toNat : Int)) s.data.toList) = bc ((tx s).take n) := by
    simp only [bc, tx, List.map_take, List.map_map]
    rfl
  simp only [Nat.add_zero] at hst
  cases hq : P.info? elem with
  | none => simp [hq] at hs
  | some i =>
    simp [Builtin.copy_, run_underlying hu, Builtin.lenOf, Builtin.firstCells, sizeOf, typeInfo, hq, ← hn]
    rw [htk, hst]
    simp [Result.andThen, splice, List.append_assoc]

theorem wpList_copy_str {P : Program} {w : World} {ops : Array Oper} {rest : List Oper} {o : Oper} {a : Act} {Q : Exit → Act → World → Prop} (hgd : o.guard = none) (d s : Operand) (dT sT : TypeId)
    (ho : o.op = .call { callee := .builtin .copy, args := #[d, s], argTypes := #[dT, sT] }) (elem : TypeId) (hu : P.underlying dT = some (.slice elem)) (hsz : (P.info? elem).map (·.size) = some 1)
    (g off dLen dCap : Nat) (x : ByteArray) (hd : a.eval d = .slice (some ⟨g, off, none⟩) dLen dCap) (hs : a.eval s = .string x)
    (cur : List Value) (t : TypeId) (hg : w.heap[g]? = some (.cells cur.toArray t (0, 0))) (n : Nat) (hn : n = Nat.min x.size dLen) (hfit : off + n ≤ cur.length)
    (h : ∀ w', Hid (w'.heap[g]? = some (.cells (splice cur off (bc ((tx x).take n))).toArray t (0, 0))) → Hid (∀ i, i ≠ g → w'.heap[i]? = w.heap[i]?) → Hid (w'.heap.size = w.heap.size) → Hid (w'.os = w.os ∧ w'.tape = w.tape ∧ w'.output = w.output) → wpList P ops Q rest (a.put o.dst (goInt n)) w') :
    wpList P ops Q (o :: rest) a w := by
  refine wpList_plain hgd fun K hK => ?_
  have hrun := run_copy_str (P := P) w dT sT o.type elem g off dLen dCap x cur.toArray t n hn hu hsz hg (by simpa using hfit)
  unfold Oper.wp
  simp [execOp, ho, resolve, invoke, builtin, hd, hs, hrun, Result.andThen]
  exact hK _ _ (h _ (hid (setRow_heap w g _ _ t _ hg)) (hid fun i hi => setRow_other w g i _ hi) (hid (by simp)) (hid ⟨rfl, rfl, rfl⟩))

/-- A whole array into the middle of a block. -/
theorem wpList_store_at {P : Program} {w : World} {ops : Array Oper} {rest : List Oper} {op : Oper} {a : Act} {Q : Exit → Act → World → Prop} (hgd : op.guard = none) (ty : TypeId) (x y : Operand) (ho : op.op = .store ty x y)
    (g o : Nat) (cells : Array Value) (hx : a.eval x = .pointer (some ⟨g, o, none⟩)) (hy : a.eval y = .agg cells)
    (cur : List Value) (t : TypeId) (hg : w.heap[g]? = some (.cells cur.toArray t (0, 0))) (hi : (P.info? ty).map (·.size) = some cells.size) (hfit : o + cells.size ≤ cur.length) (h1 : cells.all (·.oneCell') = true)
    (h : ∀ w', Hid (w'.heap[g]? = some (.cells (splice cur o cells.toList).toArray t (0, 0))) → Hid (∀ i, i ≠ g → w'.heap[i]? = w.heap[i]?) → Hid (w'.heap.size = w.heap.size) → Hid (w'.os = w.os ∧ w'.tape = w.tape ∧ w'.output = w.output) → wpList P ops Q rest (a.put op.dst undef) w') :
    wpList P ops Q (op :: rest) a w := by
  have hst := run_storeCells_at P g o t cells.toList 0 cur.toArray w hg (by simpa using hfit) (fun v hv => (Array.all_eq_true_iff_forall_mem.1 h1) v (by simpa using hv))
  have hrun : (storeVar ty ⟨g, o, none⟩ (.agg cells)).run P w = .ok () (w.setRow g (splice cur o cells.toList).toArray) := by
    cases hq : P.info? ty with
    | none => simp [hq] at hi
    | some i =>
      have hs : cells.size = i.size := by simp [hq] at hi; omega
      simp [storeVar, sizeOf, typeInfo, hq, Value.cells, hs] at hst ⊢
      rw [hst]
      simp [splice, hs]
  refine wpList_plain hgd fun K hK => ?_
  unfold Oper.wp execOp
  simp only [ho, hx, hy, Instr.storeAt, Instr.sureAddr, Sem.run_bind, Sem.run_pure, Result.andThen_ok, hrun]
  exact hK _ _ (h _ (hid (setRow_heap w g _ _ t _ hg)) (hid fun i hi => setRow_other w g i _ hi) (hid (by simp)) (hid ⟨rfl, rfl, rfl⟩))

/-! ### The cells of a stream -/
theorem splice_blk (v blk : List Nat) (len u : Nat) (x : List Nat) (hv : v.length = 8) (h : u + x.length ≤ blk.length) :
    splice (strL v blk len) (8 + u) (bc x) = strL v (splice blk u x) len := by
  have e1 : (v.map (fun x : Nat => Value.int .u32 (x : Int))).length = 8 := by simp [hv]
  unfold splice strL bc
  rw [List.length_map, List.take_append, List.take_of_length_le (by omega), e1, show 8 + u - 8 = u by omega, List.take_append_of_le_length (by simp; omega),
    show 8 + u + x.length = 8 + (u + x.length) by omega, List.drop_append, List.drop_eq_nil_of_le (by omega), e1, show 8 + (u + x.length) - 8 = u + x.length by omega, List.drop_append_of_le_length (by simp; omega)]
  simp [List.map_take, List.map_drop, List.append_assoc]
theorem splice_val (v v' blk : List Nat) (len : Nat) (hv : v.length = 8) (hv' : v'.length = 8) :
    splice (strL v blk len) 0 (v'.map fun x : Nat => Value.int .u32 (x : Int)) = strL v' blk len := by
  unfold splice strL
  rw [List.take_zero, List.nil_append, List.length_map, hv', Nat.zero_add, List.drop_append, List.drop_eq_nil_of_le (by simp [hv]), List.length_map, hv, Nat.sub_self]
  simp
theorem set_len (v blk : List Nat) (len len' : Nat) (hv : v.length = 8) (hb : blk.length = 64) :
    ((strL v blk len).toArray.setIfInBounds 72 (.int .u64 (len' : Int))) = (strL v blk len').toArray := by
  apply Array.ext'
  simp only [Array.toList_setIfInBounds, strL]
  rw [List.set_append_right _ _ (by simp [hv]), List.set_append_right _ _ (by simp [hv, hb])]
  simp [hv, hb]

theorem blkOf_length (m : List Nat) : (blkOf m).length = 64 := by
  simp only [blkOf, List.length_append, List.length_drop, List.length_replicate]
  omega
theorem blkOf_bn (m : List Nat) (h : Bn m) : Bn (blkOf m) := by
  intro x hx
  rcases List.mem_append.1 hx with hx | hx
  · exact h x (List.mem_of_mem_drop hx)
  · rw [(List.mem_replicate.1 hx).2]; decide
theorem blk_splice (m x : List Nat) (h : m.length % 64 + x.length ≤ 64) :
    splice (blkOf m) (m.length % 64) x = (m ++ x).drop (64 * (m.length / 64)) ++ List.replicate (64 - m.length % 64 - x.length) 0 := by
  have hl : (m.drop (64 * (m.length / 64))).length = m.length % 64 := by rw [List.length_drop]; omega
  have e : (m.drop (64 * (m.length / 64))).drop (m.length % 64 + x.length) = [] := List.drop_eq_nil_of_le (by omega)
  unfold splice blkOf
  rw [List.take_left' hl, List.drop_append, e, hl, List.drop_replicate, List.nil_append, List.drop_append_of_le_length (by omega), List.append_assoc]
  congr 3
  omega
theorem blk_part (m x : List Nat) (h : m.length % 64 + x.length < 64) : splice (blkOf m) (m.length % 64) x = blkOf (m ++ x) ∧ after (m ++ x) ((m ++ x).length / 64) = after m (m.length / 64) := by
  have hq : (m ++ x).length / 64 = m.length / 64 := by rw [List.length_append]; omega
  have hr : (m ++ x).length % 64 = m.length % 64 + x.length := by rw [List.length_append]; omega
  refine ⟨?_, ?_⟩
  · rw [blk_splice m x (by omega)]
    unfold blkOf
    rw [hq, hr, Nat.sub_sub]
  · rw [hq, after_append _ _ _ (by omega)]
theorem blk_full (m x : List Nat) (h : m.length % 64 + x.length = 64) :
    after (m ++ x) ((m ++ x).length / 64) = comp (after m (m.length / 64)) (splice (blkOf m) (m.length % 64) x) ∧ blkOf (m ++ x) = List.replicate 64 0 ∧ (splice (blkOf m) (m.length % 64) x).length = 64 := by
  have hq : (m ++ x).length / 64 = m.length / 64 + 1 := by rw [List.length_append]; omega
  have hr : (m ++ x).length % 64 = 0 := by rw [List.length_append]; omega
  have hs := blk_splice m x (by omega)
  rw [show 64 - m.length % 64 - x.length = 0 by omega, List.replicate_zero, List.append_nil] at hs
  have hl : ((m ++ x).drop (64 * (m.length / 64))).length = 64 := by rw [List.length_drop, List.length_append]; omega
  refine ⟨?_, ?_, by rw [hs, hl]⟩
  · rw [hq, hs]
    have e : after (m ++ x) (m.length / 64 + 1) = comp (after (m ++ x) (m.length / 64)) (((m ++ x).drop (64 * (m.length / 64))).take 64) := by rw [after]
    rw [e, after_append _ _ _ (by omega), List.take_of_length_le (by omega)]
  · unfold blkOf
    rw [hq, hr, List.drop_eq_nil_of_le (by rw [List.length_append]; omega)]
    rfl

end Go.Proofs.YtihljbephlpgcaaDoor
