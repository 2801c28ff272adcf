/-
  gantry/hash.Stream.Sum: the hash of the message.
  A region that draws its order, by what holds when a set of its operations has been carried out.
  gantry/hash.Stream.Sum: the hash of the message.
  gantry/hash.Sum.
  gantry/gantryref02.Bytes32 and Text: an array of bytes as a string.
-/
import Derived.Test.YthadfilandmhiaaDoorSR18
import Derived.Deep.RegionHeld3
import Derived.Deep.DeepCutAuto
import Derived.Deep.MidRow
set_option linter.unusedVariables false
set_option linter.unusedSimpArgs false
set_option linter.unusedSectionVars false
namespace Go.Proofs.YthadfilandmhiaaDoor
open Go.RowKit
open Go.Lib (hid)
open S
/-- A stream's block. -/
def StreamAt (w : World) (g : Nat) : Prop := ∃ Z, w.heap[g]? = some (.cells Z 80 (0, 0)) ∧ Z.size = 73
theorem StreamAt.new (w : World) (Z : Array Value) (h : Z.size = 73) : StreamAt (w.alloc (.cells Z 80)) w.heap.size := ⟨Z, heap_alloc_new w _, h⟩
theorem StreamAt.keep {w w' : World} {g : Nat} (hb : Below w.heap.size w w') (h : StreamAt w g) : StreamAt w' g := by
  obtain ⟨Z, h1, h2⟩ := h
  exact ⟨Z, (hb.block g (lt_of_heap h1)).trans h1, h2⟩
end Go.Proofs.YthadfilandmhiaaDoor

namespace Go.Proofs.YthadfilandmhiaaDoor
open Go.RowKit
open Go.Lib (hid)
section
variable {P : Program} {ops : Array Oper} {Q : Exit → Act → World → Prop} {md : Region.Mode}

theorem ready_mem {listed : Array Bool} {i : Nat} (h : i ∈ Region.ready md ops listed) : i < ops.size ∧ listed.getD i true = false ∧ ∀ o, ops[i]? = some o → ∀ e ∈ o.after, Region.binds md e = true → listed.getD e.on false = true := by
  unfold Region.ready at h
  obtain ⟨h1, h2⟩ := List.mem_filter.1 h
  have hi : i < ops.size := List.mem_range.1 h1
  rw [Bool.and_eq_true] at h2
  refine ⟨hi, by simpa using h2.1, fun o ho e he hb => ?_⟩
  have h3 := h2.2
  rw [ho] at h3
  simp only [Option.map_some, Option.getD_some, Array.all_eq_true_iff_forall_mem] at h3
  have := h3 e he
  rw [hb] at this
  simpa using this

/-- The operations' edges lead back. -/
def backB (md : Region.Mode) (ops : Array Oper) : Bool := ops.toList.zipIdx.all fun p => p.1.after.all fun e => !Region.binds md e || decide (e.on < p.2)

theorem back_of (h : backB md ops = true) {i : Nat} {o : Oper} (ho : ops[i]? = some o) {e : _} (he : e ∈ o.after) (hb : Region.binds md e = true) : e.on < i := by
  unfold backB at h
  rw [List.all_eq_true] at h
  have hm : (o, i) ∈ ops.toList.zipIdx := by
    rw [List.mem_zipIdx_iff_getElem?]
    simpa using ho
  have h2 := h _ hm
  rw [Array.all_eq_true_iff_forall_mem] at h2
  have h3 := h2 e he
  rw [hb] at h3
  simpa using h3

theorem all_listed (hb : backB md ops = true) {listed : Array Bool} (hs : listed.size = ops.size) (h : Region.ready md ops listed = []) : ∀ n i, i ≤ n → i < ops.size → listed.getD i false = true := by
  intro n
  induction n with
  | zero =>
    intro i hi hlt
    obtain rfl : i = 0 := by omega
    cases hL : listed.getD 0 false with
    | true => rfl
    | false =>
      exfalso
      have hm : 0 ∈ Region.ready md ops listed := by
        unfold Region.ready
        refine List.mem_filter.2 ⟨List.mem_range.2 hlt, ?_⟩
        rw [Bool.and_eq_true]
        refine ⟨?_, ?_⟩
        · simp only [Array.getD_eq_getD_getElem?] at hL ⊢
          rw [Array.getElem?_eq_getElem (by omega)] at hL ⊢
          simpa using hL
        · rw [Array.getElem?_eq_getElem hlt]
          simp only [Option.map_some, Option.getD_some, Array.all_eq_true_iff_forall_mem]
          intro e he
          cases hbe : Region.binds md e with
          | false => rfl
          | true => have := back_of hb (Array.getElem?_eq_getElem hlt) he hbe; omega
      rw [h] at hm
      cases hm
  | succ n ih =>
    intro i hi hlt
    rcases Nat.lt_or_ge n i with hni | hni
    · obtain rfl : i = n + 1 := by omega
      cases hL : listed.getD (n + 1) false with
      | true => rfl
      | false =>
        exfalso
        have hm : n + 1 ∈ Region.ready md ops listed := by
          unfold Region.ready
          refine List.mem_filter.2 ⟨List.mem_range.2 hlt, ?_⟩
          rw [Bool.and_eq_true]
          refine ⟨?_, ?_⟩
          · simp only [Array.getD_eq_getD_getElem?] at hL ⊢
            rw [Array.getElem?_eq_getElem (by omega)] at hL ⊢
            simpa using hL
          · rw [Array.getElem?_eq_getElem hlt]
            simp only [Option.map_some, Option.getD_some, Array.all_eq_true_iff_forall_mem]
            intro e he
            cases hbe : Region.binds md e with
            | false => rfl
            | true =>
              have hlt2 := back_of hb (Array.getElem?_eq_getElem hlt) he hbe
              rw [ih e.on (by omega) (by omega)]
              rfl
        rw [h] at hm
        cases hm
    · exact ih i hni hlt

/-- One operation more. -/
def More (L : Nat → Bool) (i : Nat) (L' : Nat → Bool) : Prop := ∀ j, L' j = (L j || decide (j = i))
theorem More.old {L L' : Nat → Bool} {i j : Nat} (h : More L i L') (hne : j ≠ i) (hj : L' j = true) : L j = true := by
  rw [h j] at hj
  simpa [hne] using hj

/-- What is wanted of an operation that comes up: carried out, it leads to what holds with one operation more. -/
def StepTo (P : Program) (Q : Exit → Act → World → Prop) (Inv : (Nat → Bool) → Act → World → Prop) (L : Nat → Bool) (i : Nat) (o : Oper) (a : Act) (w : World) : Prop :=
  o.guard = none ∧ o.wp P a w (fun a' w' => ∀ L', More L i L' → Inv L' a' w') Q

theorem wpAny_inv (Inv : (Nat → Bool) → Act → World → Prop) (hb : backB md ops = true)
    (hstep : ∀ L a w i o, ops[i]? = some o → L i = false → (∀ e ∈ o.after, Region.binds md e = true → L e.on = true) → Inv L a w → StepTo P Q Inv L i o a w)
    (hend : ∀ L a w, (∀ i, i < ops.size → L i = true) → Inv L a w → Q .normal a w) :
    ∀ (fuel : Nat) (listed : Array Bool) (a : Act) (w : World), listed.size = ops.size → listed.toList.countP (fun b => !b) ≤ fuel → Inv (fun i => listed.getD i false) a w → wpAny P md ops Q fuel listed a w := by
  intro fuel
  induction fuel with
  | zero =>
    intro listed a w hs hc hI
    have hall : ∀ i, i < ops.size → listed.getD i false = true := by
      intro i hi
      have h0 := Nat.le_zero.1 hc
      rw [List.countP_eq_zero] at h0
      have := h0 (listed[i]'(by omega)) (by simp)
      simp only [Array.getD_eq_getD_getElem?]
      rw [Array.getElem?_eq_getElem (by omega)]
      simpa using this
    refine ⟨?_, hend _ a w hall hI⟩
    cases hr : Region.ready md ops listed with
    | nil => rfl
    | cons x xs =>
      exfalso
      obtain ⟨h1, h2, _⟩ := ready_mem (show x ∈ Region.ready md ops listed by rw [hr]; exact List.mem_cons_self ..)
      have := hall x h1
      simp only [Array.getD_eq_getD_getElem?] at this h2
      rw [Array.getElem?_eq_getElem (by omega)] at this h2
      simp at this h2
      rw [this] at h2
      cases h2
  | succ fuel ih =>
    intro listed a w hs hc hI
    refine ⟨fun hr => hend _ a w (fun i hi => all_listed hb hs hr i i (Nat.le_refl _) hi) hI, fun i hi => ?_⟩
    obtain ⟨h1, h2, h3⟩ := ready_mem hi
    have ho := Array.getElem?_eq_getElem h1
    have hLi : listed.getD i false = false := by
      simp only [Array.getD_eq_getD_getElem?] at h2 ⊢
      rw [Array.getElem?_eq_getElem (by omega)] at h2 ⊢
      simpa using h2
    obtain ⟨hg, hw⟩ := hstep _ a w i _ ho hLi (h3 _ ho) hI
    unfold wpOp
    rw [ho]
    simp only
    rw [if_pos (by unfold Region.wanted; rw [hg])]
    refine .inl (Oper.wp_mono (fun a' w' h => ?_) hw)
    refine ih _ a' w' (by simpa using hs) ?_ ?_
    · have hil : i < listed.toList.length := by simpa [hs] using h1
      have hval : listed.toList[i] = false := by
        simp only [Array.getD_eq_getD_getElem?] at hLi
        rw [Array.getElem?_eq_getElem (by omega)] at hLi
        simpa using hLi
      have hset : (listed.setIfInBounds i true).toList = listed.toList.set i true := Array.toList_setIfInBounds ..
      rw [hset, List.countP_set hil, hval]
      have hpos : 0 < listed.toList.countP (fun b => !b) := List.countP_pos_iff.2 ⟨false, by rw [← hval]; exact List.getElem_mem hil, rfl⟩
      simp only [Bool.not_false, Bool.not_true, if_true, Bool.false_eq_true, if_false]
      omega
    · refine h _ fun j => ?_
      simp only [Array.getD_eq_getD_getElem?, Array.getElem?_setIfInBounds]
      by_cases e : i = j
      · subst e
        rw [if_pos rfl, if_pos (by omega)]
        simp
      · rw [if_neg e]
        simp [Ne.symm e]

/-- THE LAW. -/
theorem wp_region_inv {id : Nat} {a : Act} {w : World} (hm : P.follows .mixedOrders = true) (Inv : (Nat → Bool) → Act → World → Prop) (hb : backB .any ops = true)
    (hstart : ∀ L, (∀ i, L i = false) → Inv L a w.drew)
    (hstep : ∀ L a w i o, ops[i]? = some o → L i = false → (∀ e ∈ o.after, Region.binds .any e = true → L e.on = true) → Inv L a w → StepTo P Q Inv L i o a w)
    (hend : ∀ L a w, (∀ i, i < ops.size → L i = true) → Inv L a w → Q .normal a w) : (Code.region id ops true).wp P Q a w := by
  refine wp_region_any hm ?_
  refine wpAny_inv Inv hb hstep hend _ _ _ _ (by simp) ?_ (hstart _ fun i => ?_)
  · refine Nat.le_trans (List.countP_le_length ..) (by simp)
  · simp only [Array.getD_eq_getD_getElem?, Array.getElem?_replicate]
    split <;> rfl
end
end Go.Proofs.YthadfilandmhiaaDoor

namespace Go.Proofs.YthadfilandmhiaaDoor
open Go.RowKit
open Go.Lib (hid)
open S
theorem Tryd.under_h32 : Tryd.prog.underlying 84 = some (.array 32 5) := by kernel_rfl
theorem Tryd.size_h32 : (Tryd.prog.info? 84).map (·.size) = some 32 := by kernel_rfl

/-- Before the padding is added: the stream's block, the result's block. -/
def SumIn (w : World) (m : List Nat) (wr : World) : Prop :=
  Below w.heap.size w wr ∧ wr.heap[w.heap.size]? = some (.cells (streamL m).toArray 80 (0, 0)) ∧ ∃ Z, wr.heap[w.heap.size + 1]? = some (.cells Z 84 (0, 0)) ∧ Z.size = 32
theorem SumIn.start (w : World) (m : List Nat) (A Z : Array Value) (hA : A = (streamL m).toArray) (hZ : Z = Array.replicate 32 (.int .u8 0)) : SumIn w m ((w.alloc (.cells A 80)).alloc (.cells Z 84)) := by
  subst hA
  have hz : Z.size = 32 := by rw [hZ, Array.size_replicate]
  refine ⟨((Below.refl _ _).alloc (Nat.le_refl _) _).alloc (by simp) _, ?_, Z, ?_, hz⟩
  · rw [Below.heap_alloc _ _ _ (by simp)]
    exact heap_alloc_new w _
  · have := heap_alloc_new (w.alloc (.cells (streamL m).toArray 80)) (.cells Z 84)
    simpa using this

/-- While the padded stream is made: what holds when the operations L have been carried out. -/
def SumInv (w : World) (m : List Nat) (A : Array Value) (L : Nat → Bool) (a : Act) (w' : World) : Prop :=
  ∃ x3 x8 x9 x10 x11 x12 : Value, a = ⟨#[.agg A, .pointer (some ⟨w.heap.size, 0, none⟩), .pointer (some ⟨w.heap.size + 1, 0, none⟩), x3, undef, undef, undef, undef, x8, x9, x10, x11, x12, undef, undef, undef, undef, undef, undef, undef, undef, undef, undef, undef, undef, undef, undef, undef, undef, undef, undef, undef, undef, undef, undef, undef], []⟩ ∧ SumIn w m w' ∧
    (L 0 = true → x8 = .agg A) ∧ (L 1 = true → x9 = .pointer (some ⟨w.heap.size, 72, none⟩)) ∧ (L 2 = true → x10 = .int .u64 (m.length : Int)) ∧ (L 3 = true → x11 = .string (strN (pad m.length))) ∧
    (L 4 = true → x12 = streamV (m ++ pad m.length)) ∧ (L 5 = true → ∃ g, x3 = .pointer (some ⟨g, 0, none⟩) ∧ w.heap.size + 1 < g ∧ StreamAt w' g) ∧ (L 6 = true → L 5 = true) ∧
    (L 6 = true → ∃ g, x3 = .pointer (some ⟨g, 0, none⟩) ∧ w.heap.size + 1 < g ∧ w'.heap[g]? = some (.cells (streamL (m ++ pad m.length)).toArray 80 (0, 0)))

theorem SumIn.keep {w w' w'' : World} {m : List Nat} (h : SumIn w m w') (hb : Below w'.heap.size w' w'') : SumIn w m w'' := by
  obtain ⟨h1, h2, Z, h3, h4⟩ := h
  exact ⟨further h1 hb, (hb.block _ (lt_of_heap h2)).trans h2, Z, (hb.block _ (lt_of_heap h3)).trans h3, h4⟩
theorem SumIn.row {w w' : World} {m : List Nat} (h : SumIn w m w') {g : Nat} (hg : w.heap.size + 1 < g) (cs : Array Value) : SumIn w m (w'.setRow g cs) := by
  obtain ⟨h1, h2, Z, h3, h4⟩ := h
  exact ⟨below_setRow h1 (by omega) cs, (setRow_other w' g _ cs (by omega)).trans h2, Z, (setRow_other w' g _ cs (by omega)).trans h3, h4⟩
theorem stays {w' w'' : World} {g : Nat} {o : Obj} (hb : Below w'.heap.size w' w'') (h : w'.heap[g]? = some o) : w''.heap[g]? = some o := (hb.block g (lt_of_heap h)).trans h
theorem pad_bn (n : Nat) : Bn (pad n) := by
  intro x hx
  unfold pad at hx
  rcases List.mem_append.1 hx with h | h
  · rcases List.mem_cons.1 h with rfl | h
    · decide
    · rw [(List.mem_replicate.1 h).2]; decide
  · simp only [bytes8, List.mem_cons, List.not_mem_nil, or_false] at h
    rcases h with h | h | h | h | h | h | h | h <;> (rw [h]; exact Nat.mod_lt _ (by decide))
theorem pad_le (n : Nat) : (pad n).length ≤ 72 := by
  simp only [pad, List.length_append, List.length_cons, List.length_replicate, bytes8, List.length_nil]
  omega

theorem list_ws {s : St} (h : s.ok) : Ws s.list := by
  obtain ⟨h1, h2, h3, h4, h5, h6, h7, h8⟩ := h
  intro x hx
  simp only [St.list, List.mem_cons, List.not_mem_nil, or_false] at hx
  rcases hx with rfl | rfl | rfl | rfl | rfl | rfl | rfl | rfl <;> assumption
theorem bytes32_at (s : St) (k j : Nat) (hk : k < 8) (hj : j < 4) : (bytes32 s).getD (4 * k + j) 0 = s.list.getD k 0 / 2 ^ (24 - 8 * j) % 256 := by
  rcases (show k = 0 ∨ k = 1 ∨ k = 2 ∨ k = 3 ∨ k = 4 ∨ k = 5 ∨ k = 6 ∨ k = 7 by omega) with rfl | rfl | rfl | rfl | rfl | rfl | rfl | rfl <;>
    rcases (show j = 0 ∨ j = 1 ∨ j = 2 ∨ j = 3 by omega) with rfl | rfl | rfl | rfl <;> simp [bytes32, bytes4, St.list]
theorem bytes32_length (s : St) : (bytes32 s).length = 32 := rfl

/-- While the words are written: the first n bytes are there. -/
def SumRow (w wx : World) (st : St) (n : Nat) (wr : World) : Prop :=
  Below w.heap.size w wr ∧ (∃ Z, wr.heap[w.heap.size + 1]? = some (.cells Z 84 (0, 0)) ∧ Z.size = 32) ∧ wr.rowIs wx.heap.size 84 32 (fun p => if p < n then .int .u8 ((bytes32 st).getD p 0 : Nat) else .int .u8 0)
theorem SumRow.start {w wx : World} {m : List Nat} {st : St} (h : SumIn w m wx) (Z : Array Value) (hZ : Z = Array.replicate 32 (.int .u8 0)) : SumRow w wx st (4 * 0) (wx.alloc (.cells Z 84)) := by
  have hz : Z.size = 32 := by rw [hZ, Array.size_replicate]
  obtain ⟨h1, _, Z1, h3, h4⟩ := h
  have hb : Below wx.heap.size wx (wx.alloc (.cells Z 84)) := (Below.refl _ _).alloc (Nat.le_refl _) _
  have hr := World.rowIs_alloc wx Z 84 (fun _ => .int .u8 0) (lits_at _ hZ)
  rw [hz] at hr
  exact ⟨further h1 hb, ⟨Z1, stays hb h3, h4⟩, hr.congr fun p _ => by rw [if_neg (by omega)]⟩
theorem sum_step {st : St} {q k j : Nat} (hq : q = st.list.getD k 0 / 2 ^ (24 - 8 * j)) (hk : k < 8) (hj : j < 4) (p : Nat) :
    (if p = 4 * k + j then Value.int .u8 ((q : Int) % 256) else (if p < 4 * k + j then Value.int .u8 ((bytes32 st).getD p 0 : Nat) else .int .u8 0)) = (if p < 4 * k + (j + 1) then Value.int .u8 ((bytes32 st).getD p 0 : Nat) else .int .u8 0) := by
  by_cases h : p = 4 * k + j
  · rw [if_pos h, if_pos (by omega), h, bytes32_at st k j hk hj, ← hq]
    rfl
  · rw [if_neg h]
    by_cases h2 : p < 4 * k + j
    · rw [if_pos h2, if_pos (by omega)]
    · rw [if_neg h2, if_neg (by omega)]

theorem bytesV_one (l : List Nat) : (bytesV l).all (·.oneCell') = true := by
  simp [bytesV, Value.oneCell']
theorem bytes_of {c : Array Value} {b : List Nat} (hs : c.size = b.length) (h : ∀ i, i < b.length → c[i]? = some (.int .u8 (b.getD i 0 : Nat))) : c = bytesV b := by
  apply Array.ext_getElem?
  intro i
  by_cases hi : i < b.length
  · rw [h i hi, bytesV_at _ i hi]
  · rw [Array.getElem?_eq_none (by omega), Array.getElem?_eq_none (by rw [bytesV_size]; omega)]
theorem SumRow.done {w wx wr : World} {st : St} (h : SumRow w wx st 32 wr) : wr.heap[wx.heap.size]? = some (.cells (bytesV (bytes32 st)) 84 (0, 0)) := by
  obtain ⟨_, _, c, h1, h2, h3⟩ := h
  have : c = bytesV (bytes32 st) := bytes_of (h2.trans (bytes32_length st).symm) (fun i hi => by
    rw [bytes32_length] at hi
    exact (h3 i hi).trans (congrArg some (if_pos hi)))
  rw [← this]
  exact h1

set_option maxRecDepth 100000 in
set_option maxHeartbeats 3200000 in
theorem StreamSum_any (m : List Nat) (w : World) (hB : Bn m) (hlen : m.length ≤ 576460752303423488) (hK : KR w) :
    Calls Tryd.prog 55 #[streamV m] w fun e w' => e = .returned (.agg (bytesV (sha m))) ∧ Below w.heap.size w w' := by
  have HBn := hid hB
  have HLen := hid hlen
  have HK := hid hK
  have hz := zero_stream
  obtain ⟨Z, hZ⟩ : ∃ Z, Z = (strL (List.replicate 8 0) (List.replicate 64 0) 0).toArray := ⟨_, rfl⟩
  have HZ := hid (show Z.size = 73 by rw [hZ, List.size_toArray]; exact strL_length _ _ _ rfl rfl)
  rw [← hZ] at hz
  obtain ⟨A, hA⟩ : ∃ A, A = (streamL m).toArray := ⟨_, rfl⟩
  have HA := hid hA
  unfold streamV
  rw [← hA]
  have HSt := hid (SumIn.start w m A #[.int .u8 0, .int .u8 0, .int .u8 0, .int .u8 0, .int .u8 0, .int .u8 0, .int .u8 0, .int .u8 0, .int .u8 0, .int .u8 0, .int .u8 0, .int .u8 0, .int .u8 0, .int .u8 0, .int .u8 0, .int .u8 0, .int .u8 0, .int .u8 0, .int .u8 0, .int .u8 0, .int .u8 0, .int .u8 0, .int .u8 0, .int .u8 0, .int .u8 0, .int .u8 0, .int .u8 0, .int .u8 0, .int .u8 0, .int .u8 0, .int .u8 0, .int .u8 0] hA (by kernel_rfl))
  clear hZ hA hB hlen hK
  go_enter Tryd.func55, Tryd.ntmps55
  go_upto_region 1 with fail
  go_cut [3] (fun s3 wx => ∃ g : Nat, s3 = .pointer (some ⟨g, 0, none⟩) ∧ w.heap.size + 1 < g ∧ SumIn w m wx ∧ wx.heap[g]? = some (.cells (streamL (m ++ pad m.length)).toArray 80 (0, 0)))
  case first =>
    rename_i hJ hM
    generalize (w.alloc (.cells A 80)).alloc (.cells #[.int .u8 0, .int .u8 0, .int .u8 0, .int .u8 0, .int .u8 0, .int .u8 0, .int .u8 0, .int .u8 0, .int .u8 0, .int .u8 0, .int .u8 0, .int .u8 0, .int .u8 0, .int .u8 0, .int .u8 0, .int .u8 0, .int .u8 0, .int .u8 0, .int .u8 0, .int .u8 0, .int .u8 0, .int .u8 0, .int .u8 0, .int .u8 0, .int .u8 0, .int .u8 0, .int .u8 0, .int .u8 0, .int .u8 0, .int .u8 0, .int .u8 0, .int .u8 0] 84) = w0 at HSt ⊢
    obtain ⟨d, hd1, hd2⟩ := Tryd.under_s
    have hA73 : A.size = 73 := by rw [HA.out, List.size_toArray]; exact strL_length _ _ _ rfl (blkOf_length m)
    have hAdd : ∀ W, KR W → Calls Tryd.prog 53 #[.agg A, .string (strN (pad m.length))] W fun e w' => e = .returned (streamV (m ++ pad m.length)) ∧ Below W.heap.size W w' := by
      intro W hW
      have h := Add_any m (strN (pad m.length)) W HBn.out (by have := HLen.out; have := pad_le m.length; rw [strN_size]; omega) hW
      rw [tx_strN _ (pad_bn _)] at h
      rw [HA.out]
      exact h
    refine wp_region_inv (by kernel_rfl) (SumInv w m A) (by kernel_rfl) ?_ ?_ ?_
    · intro L hL
      refine ⟨undef, undef, undef, undef, undef, undef, rfl, HSt.out.keep (Below.drew (Below.refl _ _)), ?_⟩
      refine ⟨?_, ?_, ?_, ?_, ?_, ?_, ?_, ?_⟩ <;> (intro h; rw [hL] at h; cases h)
    · intro L a w' i o ho hLi hdep hI
      obtain ⟨x3, x8, x9, x10, x11, x12, rfl, hS, f0, f1, f2, f3, f4, f5, f65, f6⟩ := hI
      have hi : i < 7 := (Array.getElem?_eq_some_iff.1 ho).1
      rcases (show i = 0 ∨ i = 1 ∨ i = 2 ∨ i = 3 ∨ i = 4 ∨ i = 5 ∨ i = 6 by omega) with rfl | rfl | rfl | rfl | rfl | rfl | rfl
      · cases (Option.some.inj (show some _ = some o from ho))
        refine ⟨rfl, ?_⟩
        have h34 := hS.2.1
        rw [← HA.out] at h34
        refine wp_load_row 80 (.tmp 1) rfl w.heap.size rfl 80 A (0, 0) d h34 hd1 (by cases d <;> first | rfl | cases hd2) (by rw [hA73]; exact Tryd.size_s73) ?_
        intro L' hL'
        exact ⟨x3, .agg A, x9, x10, x11, x12, rfl, hS, fun _ => rfl, fun h => f1 (hL'.old (by decide) h), fun h => f2 (hL'.old (by decide) h), fun h => f3 (hL'.old (by decide) h), fun h => f4 (hL'.old (by decide) h), fun h => f5 (hL'.old (by decide) h), fun h => by rw [hL' 5]; simp [f65 (hL'.old (by decide) h)], fun h => f6 (hL'.old (by decide) h)⟩
      · cases (Option.some.inj (show some _ = some o from ho))
        refine ⟨rfl, ?_⟩
        generalize hKK : (fun (a' : Act) (w' : World) => ∀ L', More L 1 L' → SumInv w m A L' a' w') = KK
        go_simp
        rw [← hKK]
        intro L' hL'
        exact ⟨x3, x8, _, x10, x11, x12, rfl, hS, fun h => f0 (hL'.old (by decide) h), fun _ => rfl, fun h => f2 (hL'.old (by decide) h), fun h => f3 (hL'.old (by decide) h), fun h => f4 (hL'.old (by decide) h), fun h => f5 (hL'.old (by decide) h), fun h => by rw [hL' 5]; simp [f65 (hL'.old (by decide) h)], fun h => f6 (hL'.old (by decide) h)⟩
      · cases (Option.some.inj (show some _ = some o from ho))
        refine ⟨rfl, ?_⟩
        generalize hKK : (fun (a' : Act) (w' : World) => ∀ L', More L 2 L' → SumInv w m A L' a' w') = KK
        obtain rfl := f1 (hdep { on := 1, ground := Ground.data } (by simp) (by rfl))
        have h72 : w'.cell? ⟨w.heap.size, 72, none⟩ = some (.int .u64 (m.length : Int)) := by
          rw [cell_of_row _ _ _ _ _ _ hS.2.1]
          exact strL_72 _ _ _ rfl (blkOf_length m)
        go_simp
        rw [← hKK]
        intro L' hL'
        exact ⟨x3, x8, _, _, x11, x12, rfl, hS, fun h => f0 (hL'.old (by decide) h), fun _ => rfl, fun _ => rfl, fun h => f3 (hL'.old (by decide) h), fun h => f4 (hL'.old (by decide) h), fun h => f5 (hL'.old (by decide) h), fun h => by rw [hL' 5]; simp [f65 (hL'.old (by decide) h)], fun h => f6 (hL'.old (by decide) h)⟩
      · cases (Option.some.inj (show some _ = some o from ho))
        refine ⟨rfl, ?_⟩
        generalize hKK : (fun (a' : Act) (w' : World) => ∀ L', More L 3 L' → SumInv w m A L' a' w') = KK
        obtain rfl := f2 (hdep { on := 2, ground := Ground.data } (by simp) (by rfl))
        go_simp
        refine (padding_any m.length w' (by have := HLen.out; omega)).mono ?_
        rintro e w'' ⟨rfl, hb⟩
        go_simp
        rw [← hKK]
        intro L' hL'
        exact ⟨x3, x8, x9, _, _, x12, rfl, hS.keep hb, fun h => f0 (hL'.old (by decide) h), fun h => f1 (hL'.old (by decide) h), fun _ => rfl, fun _ => rfl, fun h => f4 (hL'.old (by decide) h), fun h => (f5 (hL'.old (by decide) h)).imp fun g hg => ⟨hg.1, hg.2.1, hg.2.2.keep hb⟩, fun h => by rw [hL' 5]; simp [f65 (hL'.old (by decide) h)], fun h => (f6 (hL'.old (by decide) h)).imp fun g hg => ⟨hg.1, hg.2.1, stays hb hg.2.2⟩⟩
      · cases (Option.some.inj (show some _ = some o from ho))
        refine ⟨rfl, ?_⟩
        generalize hKK : (fun (a' : Act) (w' : World) => ∀ L', More L 4 L' → SumInv w m A L' a' w') = KK
        obtain rfl := f0 (hdep { on := 0, ground := Ground.data } (by simp) (by rfl))
        obtain rfl := f3 (hdep { on := 3, ground := Ground.data } (by simp) (by rfl))
        go_simp
        refine (hAdd w' (HK.out.below hS.1)).mono ?_
        rintro e w'' ⟨rfl, hb⟩
        go_simp
        rw [← hKK]
        intro L' hL'
        exact ⟨x3, _, x9, x10, _, _, rfl, hS.keep hb, fun _ => rfl, fun h => f1 (hL'.old (by decide) h), fun h => f2 (hL'.old (by decide) h), fun _ => rfl, fun _ => rfl, fun h => (f5 (hL'.old (by decide) h)).imp fun g hg => ⟨hg.1, hg.2.1, hg.2.2.keep hb⟩, fun h => by rw [hL' 5]; simp [f65 (hL'.old (by decide) h)], fun h => (f6 (hL'.old (by decide) h)).imp fun g hg => ⟨hg.1, hg.2.1, stays hb hg.2.2⟩⟩
      · cases (Option.some.inj (show some _ = some o from ho))
        refine ⟨rfl, ?_⟩
        generalize hKK : (fun (a' : Act) (w' : World) => ∀ L', More L 5 L' → SumInv w m A L' a' w') = KK
        have hb : Below w'.heap.size w' (w'.alloc (.cells Z 80)) := (Below.refl _ _).alloc (Nat.le_refl _) _
        have hlt : w.heap.size + 1 < w'.heap.size := by obtain ⟨_, _, Z2, h3, _⟩ := hS; exact lt_of_heap h3
        go_simp
        rw [← hKK]
        intro L' hL'
        refine ⟨_, x8, x9, x10, x11, x12, rfl, hS.keep hb, fun h => f0 (hL'.old (by decide) h), fun h => f1 (hL'.old (by decide) h), fun h => f2 (hL'.old (by decide) h), fun h => f3 (hL'.old (by decide) h), fun h => f4 (hL'.old (by decide) h), fun _ => ⟨w'.heap.size, rfl, hlt, StreamAt.new w' Z HZ.out⟩, fun _ => by rw [hL' 5]; simp, fun h => ?_⟩
        rw [f65 (hL'.old (by decide) h)] at hLi
        cases hLi
      · cases (Option.some.inj (show some _ = some o from ho))
        refine ⟨rfl, ?_⟩
        obtain rfl := f4 (hdep { on := 4, ground := Ground.data } (by simp) (by rfl))
        obtain ⟨g, rfl, hg, Z2, hz1, hz2⟩ := f5 (hdep { on := 5, ground := Ground.data } (by simp) (by rfl))
        have hS73 : (streamL (m ++ pad m.length)).toArray.size = 73 := by rw [List.size_toArray]; exact strL_length _ _ _ rfl (blkOf_length _)
        refine wp_store_row 80 (.tmp 3) (.tmp 12) rfl g (streamL (m ++ pad m.length)).toArray rfl rfl 80 Z2 hz1 (by rw [hS73]; exact Tryd.size_s73) (by rw [hS73, hz2]) (strL_all _ _ _) ?_
        intro L' hL'
        have hrow := setRow_heap w' g Z2 (streamL (m ++ pad m.length)).toArray _ _ hz1
        exact ⟨_, x8, x9, x10, x11, _, rfl, hS.row hg _, fun h => f0 (hL'.old (by decide) h), fun h => f1 (hL'.old (by decide) h), fun h => f2 (hL'.old (by decide) h), fun h => f3 (hL'.old (by decide) h), fun _ => rfl, fun _ => ⟨g, rfl, hg, _, hrow, hS73⟩, fun _ => by rw [hL' 5]; simp [hdep { on := 5, ground := Ground.data } (by simp) (by rfl)], fun _ => ⟨g, rfl, hg, hrow⟩⟩
    · intro L a w' hall hI
      obtain ⟨x3, x8, x9, x10, x11, x12, rfl, hS, f0, f1, f2, f3, f4, f5, f65, f6⟩ := hI
      obtain ⟨g, rfl, hg, hst⟩ := f6 (hall 6 (by decide))
      refine hM _ _ (hJ _ _ ?_)
      (repeat apply Exists.intro)
      exact ⟨⟨g, rfl, hg, hS, hst⟩, rfl⟩
  case rest =>
    obtain ⟨g, rfl, hg, hin, hst⟩ := hcut
    obtain ⟨M, hM⟩ : ∃ M, M = m ++ pad m.length := ⟨_, rfl⟩
    obtain ⟨st, hstt⟩ : ∃ st, st = after M (M.length / 64) := ⟨_, rfl⟩
    have hsha : sha m = bytes32 st := by rw [hstt, hM]; rfl
    have hok : st.ok := by rw [hstt]; exact after_ok _ _
    have hL : streamL M = strL st.list (blkOf M) M.length := by rw [hstt]; rfl
    rw [← hM, hL] at hst
    obtain ⟨C8, hC8⟩ : ∃ C, C = st.list.map fun x : Nat => Value.int .u32 (x : Int) := ⟨_, rfl⟩
    have hcw : C8.toArray = wordsV st.list := by rw [hC8]; rfl
    have HI := hid fun (k : Nat) (hk : k < 8) => index_w8 st.list k rfl hk
    rw [← hcw] at HI
    have HWs := hid (show Ws st.list from list_ws hok)
    have HC8 := hid hC8
    have HSha := hid hsha
    have HSt3 := hid hst
    have HIn := hid hin
    have hlt := lt_of_heap hst
    clear hM hstt hsha hok hL hC8 hcw hst hin
    go_wp2_with (with_reducible refine wpList_load_mid rfl 76 (.tmp 13) rfl g 0 rfl C8 _ ?r0 Tryd.under_w8 rfl ?i0 ?_)
    case r0 => exact range_of (X := []) (stays ((Below.refl _ _).alloc (Nat.le_refl _) _) HSt3.out) (by rw [HC8.out]; rfl) 0 rfl
    case i0 => rw [HC8.out]; exact Tryd.size_w8
    go_loopw [15] (fun i wr => ∃ k : Nat, k ≤ 8 ∧ i = .int .i64 k ∧ SumRow w wc st (4 * k) wr) (fun i _ => 8 - (intOf i).toNat)
    case atStart => exact ⟨0, by omega, rfl, SumRow.start HIn.out _ (by kernel_rfl)⟩
    case round =>
      obtain ⟨k, hk, rfl, hrel⟩ := hrel
      by_cases hk8 : k < 8
      · have hix := HI.out k hk8
        obtain ⟨x, hx⟩ : ∃ x, x = st.list.getD k 0 := ⟨_, rfl⟩
        have hxl : x < 4294967296 := by rw [hx]; exact HWs.out.getD k
        rw [← hx] at hix
        have HX := hid hx
        have HR := hid hrel
        clear hx hrel
        obtain ⟨wo, rfl⟩ : ∃ wo : World, wo = wr := ⟨_, rfl⟩
        go_wp2
        go_loopw [19] (fun i wr => ∃ j : Nat, j ≤ 4 ∧ i = .int .i64 j ∧ SumRow w wc st (4 * k + j) wr) (fun i _ => 4 - (intOf i).toNat)
        case atStart => exact ⟨0, by omega, rfl, HR.out⟩
        case round =>
          obtain ⟨j, hj, rfl, hrel⟩ := hrel
          by_cases hj4 : j < 4
          · obtain ⟨hb, hin2, hr⟩ := hrel
            have hc := hr.cell (i := 4 * k + j) (by omega)
            have hf := hr.frozen (4 * k + j)
            rw [if_neg (by omega)] at hc
            obtain ⟨sh, hsh⟩ : ∃ sh : Nat, sh = 24 - 8 * j := ⟨_, rfl⟩
            have hs1 : (24 : Int) - 8 * (j : Int) = (sh : Int) := by omega
            have hs24 : sh ≤ 24 := by omega
            have hq : (x : Int) / 2 ^ sh = ((x / 2 ^ sh : Nat) : Int) := by rw [Int.natCast_ediv, Int.natCast_pow]; rfl
            obtain ⟨q, hqq⟩ : ∃ q, q = x / 2 ^ sh := ⟨_, rfl⟩
            rw [← hqq] at hq
            have HQ := hid hqq
            have HSh := hid hsh
            have HB := hid hb
            have HIn2 := hid hin2
            have HRr := hid hr
            clear hqq hsh hb hin2 hr
            go_wp2
            go_roundw
            case rel =>
              refine ⟨j + 1, by omega, by go_num, HB.out.setCell (by show _ ≤ wc.heap.size; omega) _, ?_, ?_⟩
              · obtain ⟨Z2, z1, z2⟩ := HIn2.out
                exact ⟨Z2, (heap_setCell_other _ _ _ _ (by show w.heap.size + 1 ≠ wc.heap.size; omega)).trans z1, z2⟩
              refine (HRr.out.set (4 * k + j) _).congr fun p hp => ?_
              exact sum_step (by rw [HQ.out, HSh.out, HX.out]) hk8 hj4 p
            case measure => simp [intOf]; omega
          · obtain rfl : j = 4 := by omega
            have HRr := hid hrel
            clear hrel
            go_wp2
            go_roundw
            case rel => exact ⟨k + 1, by omega, by go_num, HRr.out⟩
            case measure => simp [intOf]; omega
      · obtain rfl : k = 8 := by omega
        have hend := SumRow.done (show SumRow w wc st 32 _ from hrel)
        obtain ⟨hb, ⟨Z1, z1, z2⟩, _⟩ := hrel
        obtain ⟨L, hLL⟩ : ∃ L, L = bytesV (bytes32 st) := ⟨_, rfl⟩
        rw [← hLL] at hend
        have hL32 : L.size = 32 := by rw [hLL, bytesV_size]; rfl
        have HL := hid hLL
        have HL32 := hid hL32
        have HZ2 := hid z2
        have HB := hid hb
        clear hLL hL32 z2 hb
        go_wp2_with (first | (with_reducible refine wpList_load_row rfl 84 (.tmp 4) rfl wc.heap.size rfl 84 L (0, 0) _ hend Tryd.under_h32 rfl (by rw [HL32.out]; exact Tryd.size_h32) ?_) | (with_reducible refine wpList_store_row rfl 84 (.tmp 2) (.tmp 35) rfl (w.heap.size + 1) L rfl rfl 84 Z1 z1 (by rw [HL32.out]; exact Tryd.size_h32) (by rw [HL32.out, HZ2.out]) (by rw [HL.out]; exact bytesV_one _) ?_))
        refine bodyPost_ret (results_cell_row rfl _ _ (w.heap.size + 1) 84 L (0, 0) _ rfl (setRow_heap _ _ _ _ _ _ z1) Tryd.under_h32 rfl (by rw [HL32.out]; exact Tryd.size_h32)) rfl ?_
        exact ⟨by rw [HL.out, HSha.out], below_setRow HB.out (by omega) _⟩
/-- A slice of bytes reads as these bytes for as long as its block is not changed. -/
def TextOf (w : World) (v : Value) (m : List Nat) : Prop := ∀ w', Below w.heap.size w w' → (convert 51 9 v).run Tryd.prog w' = .ok (.string (strN m)) w'

/-- The result's block of 32 bytes. -/
def Res32 (w w' : World) : Prop := ∃ Z, w'.heap[w.heap.size]? = some (.cells Z 84 (0, 0)) ∧ Z.size = 32
theorem Res32.keep {w w' w'' : World} (h : Res32 w w') (hb : Below w'.heap.size w' w'') : Res32 w w'' := by
  obtain ⟨Z, h1, h2⟩ := h
  exact ⟨Z, stays hb h1, h2⟩

theorem sha_length (m : List Nat) : (sha m).length = 32 := rfl
end Go.Proofs.YthadfilandmhiaaDoor
