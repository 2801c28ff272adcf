/-
  Contracts of gantry/wire: getLength, Get
-/
import Derived.Test.YtcblbepaigdlgaaGreatJB19
import Derived.Laws.BytesArg
import Derived.Deep.QuietTactic
import Derived.BigQuiet
set_option linter.unusedVariables false
set_option linter.unusedSimpArgs false
set_option linter.unusedSectionVars false
namespace Go.Proofs.YtcblbepaigdlgaaGreat
open Go.RowKit
open Go.Lib (hid)
open W
theorem ByteView.le {w : World} {v : Value} {bs : List Int} (h : ByteView w v bs) : bs.length ≤ 9223372036854775807 := by
 obtain ⟨_, ao, cap, _, h1, h2, _⟩ := h
 unfold maxLen at h2
 omega
set_option maxHeartbeats 400000 in
theorem getLength_any (v : Value) (bs : List Int) (size : Nat) (w : World) (hv : ByteView w v bs) (hs0 : 1 ≤ size) (hs1 : size ≤ 1000) :
  Calls Tryz.prog 172 #[v, .int .i64 size] w (Trip (lenOf bs size).1 (lenOf bs size).2.1 (lenOf bs size).2.2 w) := by
 have hle := hv.le
 have HB := hid hv.bytes
 have HC := hid (GetInt_any v bs w hv)
 obtain ⟨_, ao, cap, rfl, hlc, hcm, _⟩ := hv
 unfold maxLen at hcm
 obtain ⟨L, hL⟩ : ∃ L, L = lenOf bs size := ⟨_, rfl⟩
 rw [← hL]
 have HL := hid hL
 clear hL
 unfold lenOf at HL
 rcases dec_cases bs HB.out with ⟨n, u, h, h1, h2, h3, h4⟩ | h | h
 ·rw [h] at HC HL
  clear h
  by_cases hn : n < 0
  ·replace HL := hid (show L = (0, 0, 2) by rw [HL.out, if_neg (by simp), if_pos hn])
   go_enter Tryz.func172, Tryz.ntmps172
   go_wp2_with (go_at_call 98; refine HC.out.mono ?_; rintro e w' ⟨rfl, rfl⟩)
   go_ret3
   rw [HL.out]
   exact Trip.mk rfl rfl rfl
  ·by_cases hd : (((bs.length - u) / size : Nat) : Int) < n
   ·replace HL := hid (show L = (0, 0, 3) by rw [HL.out, if_neg (by simp), if_neg hn, if_pos hd])
    have hd' : ((bs.length : Int) - u) / size < n := by rw [← Int.natCast_sub h2]; omega
    clear hd
    go_enter Tryz.func172, Tryz.ntmps172
    go_wp2_with (go_at_call 98; refine HC.out.mono ?_; rintro e w' ⟨rfl, rfl⟩)
    go_ret3
    rw [HL.out]
    exact Trip.mk rfl rfl rfl
   ·replace HL := hid (show L = (n, u, 0) by rw [HL.out, if_neg (by simp), if_neg hn, if_neg hd])
    have hd' : n ≤ ((bs.length : Int) - u) / size := by rw [← Int.natCast_sub h2]; omega
    clear hd
    go_enter Tryz.func172, Tryz.ntmps172
    go_wp2_with (go_at_call 98; refine HC.out.mono ?_; rintro e w' ⟨rfl, rfl⟩)
    go_ret3
    rw [HL.out]
    exact Trip.mk rfl rfl rfl
 all_goals
  rw [h] at HC HL
  clear h
  go_enter Tryz.func172, Tryz.ntmps172
  go_wp2_with (go_at_call 98; refine HC.out.mono ?_; rintro e w' ⟨rfl, rfl⟩)
  go_ret3
  rw [HL.out]
  exact Trip.mk (by simp) (by simp) (by simp)
theorem Tryz.under28e : Tryz.prog.underlying 55 = some (.slice (Tryz.prog.elem 55)) := by kernel_rfl
theorem Tryz.size5 (w : World) : (sizeOf (Tryz.prog.elem 55)).run Tryz.prog w = .ok 1 w := by kernel_rfl
theorem getD_cut (bs : List Int) (l h i : Nat) (hi : i < h - l) : ((bs.take h).drop l).getD i 0 = bs.getD (l + i) 0 := by
 simp only [List.getD_eq_getElem?_getD, List.getElem?_drop, List.getElem?_take]
 rw [if_pos (by omega)]
theorem ByteView.cut {w : World} {ao : Option Addr} {cap l h : Nat} {bs : List Int} (hv : ByteView w (.slice ao bs.length cap) bs) (hl : l ≤ h) (hh : h ≤ bs.length) :
  ByteView w (sliced ao l h cap 1) ((bs.take h).drop l) := by
 obtain ⟨hB, ao', cap', hsh, hlc, hcm, hc⟩ := hv
 simp only [Value.slice.injEq, true_and] at hsh
 obtain ⟨rfl, rfl⟩ := hsh
 have hlen : ((bs.take h).drop l).length = h - l := by simp; omega
 refine ⟨(hB.take h).drop l, _, _, by rw [hlen]; rfl, by rw [hlen]; omega, by unfold maxLen at hcm ⊢; omega, ?_⟩
 intro hne
 have hpos : 0 < h - l := by rw [← hlen]; exact List.length_pos_iff.2 hne
 have hbne : bs ≠ [] := by rintro rfl; simp at hh; omega
 obtain ⟨b, off, rfl, hcell⟩ := hc hbne
 refine ⟨b, off + l, ?_, ?_⟩
 ·rw [if_neg (by omega), Nat.mul_one, Option.map_some, Addr.add_lit]
 ·intro i hi
  rw [hlen] at hi
  rw [getD_cut bs l h i hi, Nat.add_assoc]
  exact hcell (l + i) (by omega)
theorem run_cut_l (ao : Option Addr) (len cap l : Nat) (hl : l ≤ len) (w : World) :
  (Instr.slice 55 (.slice ao len cap) (some (.int .i64 l)) none none).run Tryz.prog w = .ok (sliced ao l len cap 1) w := by
 rw [run_slice_l w _ _ _ _ Tryz.under28e _ _ (by omega) (by omega), Tryz.size5]
 simp only [Result.andThen, Int.toNat_natCast]
theorem ByteView.drewN {w : World} {v : Value} {bs : List Int} (h : ByteView w v bs) (n : Nat) : ByteView (w.drewN n) v bs := ⟨h.bytes, h.shape⟩
theorem ByteView.rest {w : World} {ao : Option Addr} {cap u : Nat} {bs : List Int} (hv : ByteView w (.slice ao bs.length cap) bs) (hu : u ≤ bs.length) :
  ByteView w (sliced ao u bs.length cap 1) (bs.drop u) := by
 have := hv.cut (l := u) (h := bs.length) hu (Nat.le_refl _)
 rwa [List.take_length] at this
def Nexted (w : World) (b10 : Nat) (u : Nat) (r : Value × Nat × Int) (e : Ending) (w' : World) : Prop :=
 e = .returned (.tuple #[r.1, .int .i64 r.2.2]) ∧ ∃ n, w' = (w.drewN n).setCell ⟨b10, 0, none⟩ (.int .i64 ((u + r.2.1 : Nat) : Int))
set_option maxHeartbeats 400000 in
theorem next_int (b5 b3 b10 u : Nat) (ao : Option Addr) (cap : Nat) (bs : List Int) (w : World) (hv : ByteView w (.slice ao bs.length cap) bs) (hu : u ≤ bs.length)
  (h5 : w.cell? ⟨b5, 0, none⟩ = some (.func (.func 98) #[] #[])) (h3 : w.cell? ⟨b3, 0, none⟩ = some (.slice ao bs.length cap)) (h10 : w.cell? ⟨b10, 0, none⟩ = some (.int .i64 u)) (h10f : w.frozen? ⟨b10, 0, none⟩ = false) :
  Calls Tryz.prog 173 #[.pointer (some ⟨b5, 0, none⟩), .pointer (some ⟨b3, 0, none⟩), .pointer (some ⟨b10, 0, none⟩)] w
   (Nexted w b10 u (.int .i64 (dec (bs.drop u)).1, (dec (bs.drop u)).2.1, (dec (bs.drop u)).2.2)) := by
 have hle := hv.le
 have hcut := fun W => run_cut_l ao bs.length cap u hu W
 have HV := hid (hv.rest hu)
 obtain ⟨S, hS⟩ : ∃ S, S = sliced ao u bs.length cap 1 := ⟨_, rfl⟩
 simp only [← hS] at hcut HV
 have HC : Hid (∀ n, Calls Tryz.prog 98 #[S] (w.drewN n) fun e w' => e = .returned (.tuple #[.int .i64 (dec (bs.drop u)).1, .int .i64 (dec (bs.drop u)).2.1, .int .i64 (dec (bs.drop u)).2.2]) ∧ w' = w.drewN n) :=
  fun n => (GetInt_any S _ _ (HV.out.drewN n)).mono fun _ _ ⟨h1, h2⟩ => ⟨h1, h2.symm⟩
 have hub : (dec (bs.drop u)).2.1 ≤ bs.length - u := by
  rcases dec_cases _ HV.out.bytes with ⟨n, u', h, _, h2, _⟩ | h | h
  ·rw [h]; simpa using h2
  ·rw [h]; simp
  ·rw [h]; simp
 generalize dec (bs.drop u) = r at HC hub ⊢
 obtain ⟨x, more, er⟩ := r
 simp only at HC hub ⊢
 clear hS hv
 go_enter Tryz.func173, Tryz.ntmps173
 go_wp2
 go_quiet ((go_at_call 98; exact Calls.quiet_of_same (HC.out _)))
 go_wp2
 go_ret2
 exact ⟨rfl, nq, rfl⟩
def Listed {α : Type} (w : World) (E : TypeId) (size : Nat) (cells : α → List Value) (r : List α × Nat × Int) (e : Ending) (w' : World) : Prop :=
 Below w.heap.size w w' ∧ ∃ v, e = .returned (.tuple #[v, .int .i64 r.2.1, .int .i64 r.2.2]) ∧ w'.ownsRow w.heap.size E size v r.1.length (r.1.flatMap cells)
theorem ByteView.below {w w' : World} {v : Value} {bs : List Int} (h : ByteView w v bs) (hb : Below w.heap.size w w') : ByteView w' v bs := by
 obtain ⟨hB, ao, cap, hsh, h1, h2, hc⟩ := h
 refine ⟨hB, ao, cap, hsh, h1, h2, fun hne => ?_⟩
 obtain ⟨b, off, he, hcell⟩ := hc hne
 refine ⟨b, off, he, fun i hi => ?_⟩
 have := hcell i hi
 rw [hb.cell (World.block_lt_of_cell? w _ this)]
 exact this
theorem decList_err {α : Type} {d : List Int → α × Nat × Int} {size : Nat} {b : List Int} {e : Int} (h : lenOf b size = (0, 0, e)) (he : e ≠ 0) : decList d size b = ([], 0, e) := by
 unfold decList; rw [h]; simp [he]
theorem decList_ok {α : Type} {d : List Int → α × Nat × Int} {size : Nat} {b : List Int} {n u : Nat} (h : lenOf b size = ((n : Int), u, 0)) : decList d size b = if (steps d b u n).2.2 ≠ 0 then ([], 0, (steps d b u n).2.2) else steps d b u n := by
 unfold decList; rw [h]; simp
theorem Tryz.info3 : (Tryz.prog.info? 3).map (fun i => (i.zero, i.size, i.bytes)) = some (some (.int .i64 0), 1, 8) := by kernel_rfl
theorem Tryz.under22 : Tryz.prog.underlying 22 = some (.slice 3) := by kernel_rfl
structure InList {α : Type} (w wr : World) (E : TypeId) (size : Nat) (cells : α → List Value) (d : List Int → α × Nat × Int) (bs : List Int) (fn v : Value) (u0 k : Nat) (l : List α) (u : Nat) (out : Value) : Prop where
 at_ : steps d bs u0 k = (l, u, 0)
 c3 : wr.cell? ⟨w.heap.size, 0, none⟩ = some v
 c5 : wr.cell? ⟨w.heap.size + 1, 0, none⟩ = some fn
 c10 : wr.cell? ⟨w.heap.size + 1 + 1, 0, none⟩ = some (.int .i64 u)
 f10 : wr.frozen? ⟨w.heap.size + 1 + 1, 0, none⟩ = false
 own : wr.ownsRow (w.heap.size + 1 + 1 + 1) E size out l.length (l.flatMap cells)
 below : Below w.heap.size w wr
 size_ : w.heap.size + 1 + 1 + 1 < wr.heap.size
 le : u ≤ bs.length
section
variable {n : Nat} {α : Type} {w wr : World} {E T3 T5 T10 : TypeId} {size : Nat} {cells : α → List Value} {d : List Int → α × Nat × Int} {bs : List Int} {fn v : Value} {u0 k : Nat} {l : List α} {u : Nat} {out : Value}
theorem InList.start (hu : u ≤ bs.length) {w' : World} (hown : w'.ownsRow (w.heap.size + 1 + 1 + 1) E size out 0 [])
  (hg : (((w.alloc (.cells #[v] T3)).alloc (.cells #[fn] T5)).alloc (.cells #[.int .i64 u] T10)).grownBy w' none) (hout : out = .slice (some ⟨w.heap.size + 1 + 1 + 1, 0, none⟩) 0 n) :
  InList w w' E size cells d bs fn v u 0 [] u out := by
 have hs : (((w.alloc (.cells #[v] T3)).alloc (.cells #[fn] T5)).alloc (.cells #[.int .i64 u] T10)).heap.size = w.heap.size + 1 + 1 + 1 := by simp
 have hcell : ∀ (a : Addr) (x : Value), (((w.alloc (.cells #[v] T3)).alloc (.cells #[fn] T5)).alloc (.cells #[.int .i64 u] T10)).cell? a = some x → w'.cell? a = some x := fun a x h => hg.cell h (by simp)
 have hb : Below w.heap.size w w' := ((((Below.refl _ _).alloc (Nat.le_refl _) _).alloc (by simp) _).alloc (by simp; omega) _).grown hg (by simp; omega) (by simp)
 refine ⟨rfl, hcell _ _ (by go_simp), hcell _ _ (by go_simp), hcell _ _ (by go_simp), ?_, hown, hb, ?_, hu⟩
 ·rw [World.frozen?_of_block (w := (((w.alloc (.cells #[v] T3)).alloc (.cells #[fn] T5)).alloc (.cells #[.int .i64 u] T10))) (hg.block _ (by rw [hs]; simp) (by simp))]
  go_simp
 ·have := hown.lt (w.heap.size + 1 + 1 + 1) (by rw [hout]; rfl)
  exact this.2
theorem InList.own5 (h : InList w wr E size cells d bs fn v u0 k l u out) (nq : Nat) (z : Value) : ((wr.drewN nq).setCell ⟨w.heap.size + 1 + 1, 0, none⟩ z).ownsRow (w.heap.size + 1 + 1 + 1) E size out l.length (l.flatMap cells) :=
 ownsRow_setCell_below (w := wr.drewN nq) h.own (by simp) z
theorem InList.below5 (h : InList w wr E size cells d bs fn v u0 k l u out) (nq : Nat) (z : Value) : Below w.heap.size w ((wr.drewN nq).setCell ⟨w.heap.size + 1 + 1, 0, none⟩ z) :=
 (below_drewN h.below nq).setCell (by simp; omega) z
theorem InList.step {x : α} {m nq : Nat} {o : Obj} {w6 : World} {out' : Value} (h : InList w wr E size cells d bs fn v u0 k l u out) (hd : d (bs.drop u) = (x, m, 0)) (hm : u + m ≤ bs.length)
  (hown : w6.ownsRow (w.heap.size + 1 + 1 + 1) E size out' (l.length + 1) (l.flatMap cells ++ cells x))
  (hg : (((wr.drewN nq).setCell ⟨w.heap.size + 1 + 1, 0, none⟩ (.int .i64 ((u + m : Nat) : Int))).alloc o).grownBy w6 out.ownBlock) :
  InList w w6 E size cells d bs fn v u0 (k + 1) (l ++ [x]) (u + m) out' := by
 have hsz := h.size_
 have hlt := h.own.lt
 have hne : ∀ j, j < w.heap.size + 1 + 1 + 1 → some j ≠ out.ownBlock := fun j hj e => by have := (hlt j e.symm).1; omega
 have hheap : ∀ j, j < w.heap.size + 1 + 1 → w6.heap[j]? = wr.heap[j]? := by
  intro j hj
  rw [hg.block j (by simp; omega) (hne j (by omega)), Below.heap_alloc _ _ _ (by simp; omega), Below.heap_setCell _ _ _ _ (by simp; omega)]
  rfl
 have h10 : w6.heap[w.heap.size + 1 + 1]? = ((wr.drewN nq).setCell ⟨w.heap.size + 1 + 1, 0, none⟩ (.int .i64 ((u + m : Nat) : Int))).heap[w.heap.size + 1 + 1]? := by
  rw [hg.block _ (by simp; omega) (hne _ (by omega)), Below.heap_alloc _ _ _ (by simp; omega)]
 refine ⟨steps_ok h.at_ hd, ?_, ?_, ?_, ?_, ?_, ?_, ?_, hm⟩
 ·rw [World.cell?_of_block (w := wr) (hheap _ (by simp; omega))]; exact h.c3
 ·rw [World.cell?_of_block (w := wr) (hheap _ (by simp))]; exact h.c5
 ·rw [World.cell?_of_block (a := ⟨w.heap.size + 1 + 1, 0, none⟩) h10]
  have c10 := h.c10
  go_simp
 ·rw [World.frozen?_of_block (a := ⟨w.heap.size + 1 + 1, 0, none⟩) h10]
  have f10 := h.f10
  go_simp
 ·simpa using hown
 ·exact ((h.below5 nq _).alloc (by simp; omega) _).grown hg (by simp; omega) (fun j e => by have := (hlt j e).1; omega)
 ·have := hg.size
  simp at this
  omega
end
theorem decList_stop {α : Type} {d : List Int → α × Nat × Int} {b : List Int} {n u k u' m : Nat} {l : List α} {x : α} {e : Int} (he : e ≠ 0) (hk : k < n) (hat : steps d b u k = (l, u', 0)) (hd : d (b.drop u') = (x, m, e)) :
  (if (steps d b u n).2.2 ≠ 0 then (([] : List α), 0, (steps d b u n).2.2) else steps d b u n) = ([], 0, e) := by
 have h1 := steps_err hat hd he
 have h2 : steps d b u n = (l, u', e) := by
  have := steps_stuck (d := d) (b := b) (u := u) (k := k + 1) (by rw [h1]; exact he) (n - (k + 1))
  rw [show k + 1 + (n - (k + 1)) = n by omega] at this
  rw [this, h1]
 rw [h2, if_pos he]
theorem Listed.nil {α : Type} {w w' : World} {E : TypeId} {size : Nat} {cells : α → List Value} {e : Int} (hb : Below w.heap.size w w') :
  Listed w E size cells (([] : List α), 0, e) (.returned (.tuple #[.slice none 0 0, .int .i64 0, .int .i64 e])) w' :=
 ⟨hb, _, rfl, World.ownsRow_nil _ _ _ _⟩
theorem Listed.mk {α : Type} {w wr : World} {E : TypeId} {size : Nat} {cells : α → List Value} {d : List Int → α × Nat × Int} {bs : List Int} {fn v : Value} {u0 k : Nat} {l : List α} {u nq : Nat} {out : Value}
  (h : InList w wr E size cells d bs fn v u0 k l u out) : Listed w E size cells (l, u, 0) (.returned (.tuple #[out, .int .i64 u, .int .i64 0])) (wr.drewN nq) := by
 refine ⟨below_drewN h.below nq, _, rfl, ?_⟩
 obtain ⟨h1, h2⟩ := h.own
 refine ⟨h1, ?_⟩
 rcases h2 with h2 | ⟨g, cap, cur, hv, hg, r⟩
 ·exact .inl h2
 ·exact .inr ⟨g, cap, cur, hv, by omega, r⟩
set_option maxHeartbeats 400000 in
theorem getList_int (v : Value) (bs : List Int) (w : World) (hv : ByteView w v bs) (hbl : bs.length ≤ 1099511627776) :
  Calls Tryz.prog 164 #[v, .int .i64 1, .func (.func 98) #[] #[]] w (Listed w 3 1 (fun x => [Value.int .i64 x]) (decList dec 1 bs)) := by
 have hle := hv.le
 have HV := hid hv
 have HB := hid hv.bytes
 have HC : Hid (∀ W, Below w.heap.size w W → Calls Tryz.prog 172 #[v, .int .i64 1] W (Trip (lenOf bs 1).1 (lenOf bs 1).2.1 (lenOf bs 1).2.2 W)) :=
  fun W hW => getLength_any v bs 1 W (hv.below hW) (by omega) (by omega)
 obtain ⟨_, ao, cap, rfl, hlc, hcm, _⟩ := hv
 unfold maxLen at hcm
 obtain ⟨L, hL⟩ : ∃ L, L = decList dec 1 bs := ⟨_, rfl⟩
 rw [← hL]
 have HL := hid hL
 clear hL
 obtain ⟨i0, hi, hz0, hz1, hz2⟩ := info_parts Tryz.info3
 rcases lenOf_cases bs 1 (by omega) HB.out with ⟨n, u, h, _, h1, h2, h3⟩ | h | h
 ·replace HL := hid (HL.out.trans (decList_ok h))
  rw [h] at HC
  clear h
  go_enter Tryz.func164, Tryz.ntmps164
  go_wp2_with fail
  refine (HC.out _ (((Below.refl _ _).alloc (Nat.le_refl _) _).alloc (by simp) _)).mono ?_
  rintro e w' ⟨rfl, rfl⟩
  go_wp2_with (at_make; refine wpList_make_own _ rfl (.const (.int .i64 0)) (.tmp 27) 22 rfl (w.heap.size + 1 + 1 + 1) 3 i0 (.int .i64 0) 1 Tryz.under22 hi hz0 hz1 .i64 .i64 n n rfl rfl rfl (by rw [hz2]; omega) (by unfold maxLen; omega) (by simp) ?_)
  intro w1 hown hgrow
  have H0 := hid (InList.start (E := 3) (size := 1) (cells := fun x : Int => [Value.int .i64 x]) (d := dec) (bs := bs) (n := n) h2 (by simpa using hown) (by simpa using hgrow) (by simp))
  clear hown hgrow
  go_wp2
  go_loopw [13, 30] (fun out i wr => ∃ (k : Nat) (l : List Int) (u' : Nat), k ≤ n ∧ i = .int .i64 k ∧ InList w wr 3 1 (fun x => [Value.int .i64 x]) dec bs (.func (.func 98) #[] #[]) (.slice ao bs.length cap) u k l u' out) (fun _ i _ => n - (intOf i).toNat)
  case atStart => exact ⟨0, [], u, by omega, rfl, by simpa using H0.out⟩
  case round =>
   obtain ⟨k, l, u', hk, rfl, hin⟩ := hrel
   have HI := hid hin
   have c10 := hin.c10
   have hlen : l.length = k := by have := steps_length dec bs u k; rw [hin.at_] at this; exact this rfl
   have hll : l.length ≤ n := by omega
   have HLN := hid hlen
   have hul := hin.le
   clear hin hlen
   by_cases hkn : k < n
   ·have HN := hid (next_int (w.heap.size + 1) w.heap.size (w.heap.size + 1 + 1) u' ao cap bs _ (HV.out.below HI.out.below) HI.out.le HI.out.c5 HI.out.c3 HI.out.c10 HI.out.f10)
    rcases dec_cases _ (HB.out.drop u') with ⟨x, m, hd, hm1, hm2, _, _⟩ | hd | hd
    ·rw [hd] at HN
     have HD := hid hd
     clear hd
     have hm2' : u' + m ≤ bs.length := by simp at hm2; omega
     go_wp2_with (first | (go_at_call 173; refine HN.out.mono ?_; rintro e w2 ⟨rfl, nq, rfl⟩) | (at_builtin; go_must (refine wpList_append_own _ rfl (.tmp 40) (.tmp 42) 22 rfl (w.heap.size + 1 + 1 + 1) 3 i0 (.int .i64 0) 1 8 Tryz.under22 hi hz0 hz1 hz2 rfl (by decide) _ l.length (l.flatMap fun x => [Value.int .i64 x]) rfl ((HI.out.own5 _ _).alloc _) ⟨wr.heap.size, 0, none⟩ 1 1 [.int .i64 x] rfl rfl ?c1 ?c2 ?c3 ?c4 ?c5 ?_)))
     case c1 => exact cell_new _ _ _ _ (by simp)
     case c2 => intro z hz; simp at hz; subst hz; rfl
     case c3 => unfold maxLen; omega
     case c4 => omega
     case c5 => have := HI.out.size_; simp; omega
     intro v' w6 hown' hgrow _
     have HS := hid (HI.out.step HD.out hm2' hown' hgrow)
     clear hown' hgrow
     go_wp2
     go_roundw
     case rel => exact ⟨k + 1, l ++ [x], u' + m, by omega, by go_num, HS.out⟩
     case measure => simp [intOf]; omega
    all_goals
     have HR := hid (HL.out.trans (decList_stop (by omega) hkn HI.out.at_ hd))
     rw [hd] at HN
     clear hd
     go_wp2_with (go_at_call 173; refine HN.out.mono ?_; rintro e w2 ⟨rfl, nq, rfl⟩)
     go_ret3
     rw [HR.out]
     exact Listed.nil (HI.out.below5 _ _)
   ·obtain rfl : k = n := by omega
    have HR := hid (HL.out.trans (show _ = (l, u', 0) by rw [HI.out.at_]; simp))
    go_wp2
    go_quiet (fail)
    go_wp2
    go_ret3
    rw [HR.out]
    exact Listed.mk HI.out
 all_goals
  replace HL := hid (HL.out.trans (decList_err h (by omega)))
  rw [h] at HC
  clear h
  go_enter Tryz.func164, Tryz.ntmps164
  go_wp2_with fail
  refine (HC.out _ (((Below.refl _ _).alloc (Nat.le_refl _) _).alloc (by simp) _)).mono ?_
  rintro e w' ⟨rfl, rfl⟩
  go_wp2
  go_ret3
  rw [HL.out]
  exact Listed.nil ((((Below.refl _ _).alloc (Nat.le_refl _) _).alloc (by simp) _).alloc (by simp; omega) _)
set_option maxHeartbeats 400000 in
theorem GetInts_any (v : Value) (bs : List Int) (w : World) (hv : ByteView w v bs) (hbl : bs.length ≤ 1099511627776) :
  Calls Tryz.prog 156 #[v] w (Listed w 3 1 (fun x => [Value.int .i64 x]) (decList dec 1 bs)) := by
 have HC := hid (getList_int v bs w hv hbl)
 go_enter Tryz.func156, Tryz.ntmps156
 go_wp2_with fail
 refine HC.out.mono ?_
 rintro e w' ⟨hb, v', rfl, hown⟩
 have HB := hid hb
 have HO := hid hown
 clear hb hown
 go_wp2
 go_ret3
 exact ⟨HB.out, _, rfl, HO.out⟩
end Go.Proofs.YtcblbepaigdlgaaGreat
