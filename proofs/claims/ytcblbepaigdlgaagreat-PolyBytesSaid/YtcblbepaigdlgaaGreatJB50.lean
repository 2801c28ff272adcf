/-
  Package poly: Eval. Package poly: the ro
-/
import Derived.Test.YtcblbepaigdlgaaGreatJB49
import Derived.Test.YtcblbepaigdlgaaGreatJB48
import Derived.Test.YtcblbepaigdlgaaGreatJB46
import Derived.Test.YtcblbepaigdlgaaGreatJB12
import Derived.Test.YtcblbepaigdlgaaGreatJB40
set_option linter.unusedVariables false
set_option linter.unusedSimpArgs false
set_option linter.unusedSectionVars false
namespace Go.Proofs.YtcblbepaigdlgaaGreat
open Go.RowKit Go.Shelf
open Dg Zn
namespace Vc
attribute [local go_sem] Oper.semAt_some
def Kpt (n B : Nat) (W W' : World) : Prop := W.heap.size ≤ W'.heap.size ∧ ∀ b, b < n → b ≠ B → W'.heap[b]? = W.heap[b]?
theorem Kpt.refl (n B : Nat) (W : World) : Kpt n B W W := ⟨Nat.le_refl _, fun _ _ _ => rfl⟩
theorem Kpt.trans {n B : Nat} {X Y Z : World} (h : Kpt n B X Y) (k : Kpt n B Y Z) : Kpt n B X Z := ⟨Nat.le_trans h.1 k.1, fun b hb hne => (k.2 b hb hne).trans (h.2 b hb hne)⟩
theorem Kpt.put {n B : Nat} {w : World} (hn : n ≤ w.heap.size) (W : World) (l : Nat) (o o' : Obj) (hl : w.heap.size ≤ l) (_ : W.heap[l]? = some o) (_ : o.isCells = false) (_ : o.isWalk = false) : Kpt n B W (W.putObj l o') :=
 ⟨by simp, fun b hb _ => World.putObj_heap_other (by omega)⟩
def bkE (len : Nat) (V : Nat → Value) (k : Nat) : Array Value := #[.int .i64 ((len - 1 - k : Nat) : Int), V (len - 1 - k)]
theorem back_stops {len cap Bs b off B n : Nat} {ao : Option Addr} {C : Nat → Nat → Value} {w1 : World} (hn : 1 ≤ n) (hao : 0 < len → ao = some ⟨b, off, none⟩) (hreach : len ≤ 1000000) (hBs : w1.cell? ⟨Bs, 0, none⟩ = some (.slice ao len cap)) (hBB : Bs ≠ B)
  (hc : 0 < len → b ≠ B ∧ ∀ j, j < len → w1.cell? ⟨b, off + j * 4, none⟩ = some (C j 0) ∧ w1.cell? ⟨b, off + j * 4 + 1, none⟩ = some (C j 1) ∧ w1.cell? ⟨b, off + j * 4 + 2, none⟩ = some (C j 2) ∧ w1.cell? ⟨b, off + j * 4 + 3, none⟩ = some (C j 3)) :
  SeqStopsK Fence.wide n Tryz.prog 118 #[.pointer (some ⟨Bs, 0, none⟩)] (bkE len fun j => .agg #[C j 0, C j 1, C j 2, C j 3]) (Kpt w1.heap.size B) (fun ys => ys = dwn id len) (fun pre => ∃ k, k ≤ len ∧ pre = dwn id k) len w1 := by
 intro l J Jx W hW _ _ hY h0
 have hk : ∀ wr, Kpt w1.heap.size B W wr → ∀ c o u, c ≠ B → w1.cell? ⟨c, o, none⟩ = some u → wr.cell? ⟨c, o, none⟩ = some u := by
  intro wr hwr c o u hcB hu
  have hl := cell_lt hu
  exact (World.cell?_of_block ((hwr.2 c hl hcB).trans (hW.block c hl))).trans hu
 exact back1_in Fence.wide n trivial rfl hn l Bs b off len cap ao hao (Kpt w1.heap.size B) Kpt.trans C hreach id (bkE len fun j => .agg #[C j 0, C j 1, C j 2, C j 3]) (fun _ _ => rfl) J Jx hY W (Kpt.refl _ _ _) (fun wr hwr => hk wr hwr Bs 0 _ hBB hBs)
  (fun wr hwr j hj => by
   obtain ⟨hbB, hcs⟩ := hc (by omega)
   obtain ⟨q0, q1, q2, q3⟩ := hcs j hj
   exact ⟨hk wr hwr _ _ _ hbB q0, hk wr hwr _ _ _ hbB q1, hk wr hwr _ _ _ hbB q2, hk wr hwr _ _ _ hbB q3⟩) h0
structure Fold (w w1 : World) (L : Nat → Prop) (B : Nat) (k : Option Nat) (T : TypeId) (s : SA Dm) (W : World) : Prop where
 below : Below w.heap.size w W
 size : w1.heap.size ≤ W.heap.size
 same : ∀ b, b < w1.heap.size → b ≠ B → W.heap[b]? = w1.heap[b]?
 var : ∃ v, ∃ cs : List Value, W.heap[B]? = some (.cells cs.toArray T (0, 0)) ∧ Shaped k v cs ∧ Stab L W s v ∧ ∀ c ∈ cs, notInt c = true
theorem Fold.own {w w1 : World} {L : Nat → Prop} {B : Nat} {k : Option Nat} {T : TypeId} {f : List Nat → SA Dm} (hw : w.heap.size ≤ w1.heap.size) : OwnFrom w1.heap.size (fun pre W => Fold w w1 L B k T (f pre) W) := by
 intro pre W W' row ⟨h1, h2, h3, v, cs, h4, h5, h6, h7⟩ hg hr
 have hb : ∀ b o, W.heap[b]? = some o → (b < w1.heap.size ∨ o.isCells = true) → W'.heap[b]? = W.heap[b]? := by
  intro b o ho hc
  refine hg.block b (Array.getElem?_eq_some_iff.1 ho).1 fun e => ?_
  obtain ⟨q1, o', q2, q3⟩ := hr b e.symm
  rw [ho] at q2
  obtain rfl := Option.some.inj q2
  rcases hc with hc | hc
  ·omega
  ·rw [hc] at q3; cases q3
 refine ⟨⟨hg.os.trans h1.os, hg.tape.trans h1.tape, hg.output.trans h1.output, Nat.le_trans h1.size hg.size, fun b hb' => ?_⟩, Nat.le_trans h2 hg.size, fun b hb' hne => ?_, v, cs, ?_, h5, ?_, h7⟩
 ·have hl : b < W.heap.size := by omega
  rw [hb b W.heap[b] (Array.getElem?_eq_getElem hl) (.inl (by omega))]
  exact h1.block b hb'
 ·have hl : b < W.heap.size := by omega
  rw [hb b W.heap[b] (Array.getElem?_eq_getElem hl) (.inl hb')]
  exact h3 b hb' hne
 ·rw [hb B _ h4 (.inr rfl)]; exact h4
 ·exact h6.keep (kept_grown hg fun r e => (hr r e).2)
end Vc
end Go.Proofs.YtcblbepaigdlgaaGreat

namespace Go.Proofs.YtcblbepaigdlgaaGreat
open Go.RowKit Go.Shelf
open Dg Zn
namespace Vc
attribute [local go_sem] Oper.semAt_some
def el4 (cs : List Value) (j i : Nat) : Value := (cs[j * 4 + i]?).getD undef
theorem elem4 {w : World} {l : List (SA Dm)} {cs : List Value} {j : Nat} {s : SA Dm} (h : Ats w (some 4) l cs) (hs : l[j]? = some s) : (s.at w (.agg #[el4 cs j 0, el4 cs j 1, el4 cs j 2, el4 cs j 3]) ∧ Shaped (some 4) (.agg #[el4 cs j 0, el4 cs j 1, el4 cs j 2, el4 cs j 3]) [el4 cs j 0, el4 cs j 1, el4 cs j 2, el4 cs j 3]) ∧ ∀ i, i < 4 → cs[j * 4 + i]? = some (el4 cs j i) := by
 obtain ⟨pre, p, post, v, q1, q2, q3, q4⟩ := h.at hs
 have q2 : pre.length = j * 4 := q2
 have hp : p.length = 4 := q3.length
 have hi : ∀ i, i < 4 → cs[j * 4 + i]? = some (el4 cs j i) := by
  intro i hi
  have hl : j * 4 + i < cs.length := by rw [q1]; simp only [List.length_append]; omega
  unfold el4
  rw [List.getElem?_eq_getElem hl]
  rfl
 have hpi : ∀ i, i < 4 → p[i]? = some (el4 cs j i) := by
  intro i hi4
  rw [← hi i hi4, q1, List.append_assoc, List.getElem?_append_right (by omega), q2, Nat.add_sub_cancel_left, List.getElem?_append_left (by omega)]
 have he : p = [el4 cs j 0, el4 cs j 1, el4 cs j 2, el4 cs j 3] := by
  match p, hp, hpi with
  | [a, b, c, d], _, hpi =>
   have h0 := hpi 0 (by decide)
   have h1 := hpi 1 (by decide)
   have h2 := hpi 2 (by decide)
   have h3 := hpi 3 (by decide)
   simp at h0 h1 h2 h3
   rw [h0, h1, h2, h3]
 have hv : v = .agg p.toArray := q3.1
 subst he
 rw [hv] at q4 q3
 exact ⟨⟨q4, q3⟩, hi⟩
theorem assign_run {a : Act} {W : World} {u7 u11 id l n : Nat} {c0 c1 c2 c3 : Value} {K : Act → World → Prop} {o1 o2 : Oper} (hn : u7 < a.tmps.size) (hne : u11 ≠ u7) (h11 : a.tmps.getD u11 undef = .agg #[c0, c1, c2, c3]) (hone : Shaped (some 4) (.agg #[c0, c1, c2, c3]) [c0, c1, c2, c3])
  (g1 : o1.guard = none) (g2 : o2.guard = none) (d1 : o1.dst = some u7) (d2 : o2.dst = none) (e1 : o1.op = .alloc 30) (e2 : o2.op = .store 30 (.tmp u7) (.tmp u11))
  (hK : ∀ W2, Below W.heap.size W W2 → W2.heap.size = W.heap.size + 1 → W2.heap[W.heap.size]? = some (.cells [c0, c1, c2, c3].toArray 30 (0, 0)) → K (a.put (some u7) (.pointer (some ⟨W.heap.size, 0, none⟩))) W2) :
  (Code.region id #[o1, o2] false).wpIn (rnd l) n Tryz.prog (Exit.then K (fun _ _ _ => False)) a W := by
 refine wpIn_region_list (list_in (fun ⟨_, _, h⟩ => h) _ _ _ (by simp [noDef, e1, e2]) ?_)
 refine wpList_step fun K1 hK1 => ?_
 rw [if_pos (by simp [Region.wanted, g1])]
 have hzr : (zeroValue 30).run Tryz.prog W = .ok zeroRat W := by
  cases hq : Tryz.prog.info? 30 with
  | none => have := inf_rat; rw [hq] at this; cases this
  | some inf =>
   have hz := inf_rat
   rw [hq] at hz
   simp only [Option.map_some, Option.some.injEq, Prod.mk.injEq] at hz
   simp [zeroValue, typeInfo, hq, hz.1]
 have r1 : (execOp a.eval o1).run Tryz.prog W = .ok (.value (.pointer (some ⟨W.heap.size, 0, none⟩))) (W.alloc (.cells zeroRat.cells 30)) := by
  simp only [execOp, e1, Sem.run_bind, Instr.alloc, hzr, newVar, newRow, run_newObj_alloc, Sem.run_pure, Result.andThen_ok]
 unfold Oper.wp
 rw [r1, Oper.upon_value, d1]
 refine hK1 _ _ ?_
 clear hK1 K1 r1 hzr
 have hw1 : (W.alloc (.cells zeroRat.cells 30)).heap[W.heap.size]? = some (.cells ([] ++ [Value.bool false, .slice none 0 0, .bool false, .slice none 0 0] ++ []).toArray 30 (0, 0)) := heap_alloc_new W _
 have hs1 : (W.alloc (.cells zeroRat.cells 30)).heap.size = W.heap.size + 1 := Array.size_push _
 have hb1 : Below W.heap.size W (W.alloc (.cells zeroRat.cells 30)) := (Below.refl _ _).alloc (Nat.le_refl _) _
 obtain ⟨W1, hW1⟩ : ∃ W1, W1 = W.alloc (.cells zeroRat.cells 30) := ⟨_, rfl⟩
 rw [← hW1] at hw1 hs1 hb1 ⊢
 clear hW1
 have t7 : (a.put (some u7) (.pointer (some ⟨W.heap.size, 0, none⟩))).tmps.getD u7 undef = .pointer (some ⟨W.heap.size, 0, none⟩) := by rw [tmp_put hn rfl, if_pos rfl]
 have t11 : (a.put (some u7) (.pointer (some ⟨W.heap.size, 0, none⟩))).tmps.getD u11 undef = .agg #[c0, c1, c2, c3] := by rw [tmp_put hn rfl, if_neg hne]; exact h11
 refine wpList_step fun K1 hK1 => ?_
 rw [if_pos (by simp [Region.wanted, g2])]
 have hc : ∀ j, j < 4 → ∃ u, W1.cell? ⟨W.heap.size, j, none⟩ = some u := by
  intro j hj
  simp only [World.cell?, hw1]
  have : j < ([] ++ [Value.bool false, .slice none 0 0, .bool false, .slice none 0 0] ++ []).toArray.size := hj
  exact ⟨_, Array.getElem?_eq_getElem this⟩
 have r2 : (execOp (a.put (some u7) (.pointer (some ⟨W.heap.size, 0, none⟩))).eval o2).run Tryz.prog W1 = .ok .skip (W1.setCells W.heap.size 0 [c0, c1, c2, c3]) := by
  have hst := run_storeCells_cells (P := Tryz.prog) W.heap.size 0 [c0, c1, c2, c3] 0 W1 (fun j hj => by
   obtain ⟨u, hu⟩ := hc j hj
   rw [Nat.add_zero, Nat.zero_add, hu]
   rfl) (fun j hj => by simp [World.frozen?, hw1]) hone.one
  rw [Nat.add_zero] at hst
  have ev7 : (a.put (some u7) (.pointer (some ⟨W.heap.size, 0, none⟩))).eval (.tmp u7) = .pointer (some ⟨W.heap.size, 0, none⟩) := t7
  have ev11 : (a.put (some u7) (.pointer (some ⟨W.heap.size, 0, none⟩))).eval (.tmp u11) = .agg #[c0, c1, c2, c3] := t11
  have ec : (Value.agg #[c0, c1, c2, c3]).cells = #[c0, c1, c2, c3] := hone.cells
  have hsz := sizeOf_rat W1
  simp only [execOp, e2, ev7, ev11, Sem.run_bind, Sem.run_pure, Result.andThen_ok, Instr.storeAt, Instr.sureAddr, storeVar, hsz, ec]
  simp [hst]
 unfold Oper.wp
 rw [r2, Oper.upon_skip, d2]
 refine hK1 _ _ ?_
 clear hK1 K1 r2
 show Exit.then _ _ .normal (a.put (some u7) (.pointer (some ⟨W.heap.size, 0, none⟩))) _
 refine hK _ ?_ (by rw [size_setCells', hs1]) ?_
 ·refine ⟨by rw [os_setCells]; exact hb1.os, by rw [tape_setCells]; exact hb1.tape, by rw [out_setCells]; exact hb1.output, by rw [size_setCells', hs1]; omega, fun j hj => ?_⟩
  rw [other_setCells _ _ _ _ j (by omega)]
  exact hb1.block j hj
 ·exact same_setCells W.heap.size 30 [c0, c1, c2, c3] [Value.bool false, .slice none 0 0, .bool false, .slice none 0 0] [] [] W1 rfl hw1
def orB (L : Nat → Prop) (B : Nat) : Nat → Prop := fun b => L b ∨ b = B
section
variable {w w1 W : World} {L : Nat → Prop} {B : Nat} {k : Option Nat} {T : TypeId} {s : SA Dm}
theorem orB_lt (hlt : ∀ b, L b → b < w.heap.size) (hW : w.heap.size ≤ W.heap.size) (hB : B < W.heap.size) : ∀ b, orB L B b → b < W.heap.size := by
 rintro b (h | rfl)
 ·have := hlt b h; omega
 ·exact hB
theorem orB_ni (hlt : ∀ b, L b → b < w.heap.size) (hni : NoInt L w) (h : Fold w w1 (orB L B) B k T s W) : NoInt (orB L B) W := by
 rintro b (hb | rfl) cs T' fr hc c hcm
 ·rw [h.below.block b (hlt b hb)] at hc
  exact hni b hb cs T' fr hc c hcm
 ·obtain ⟨v, cs', h1, _, _, h4⟩ := h.var
  rw [h1] at hc
  obtain ⟨rfl, -, -⟩ := (Obj.cells.injEq _ _ _ _ _ _).mp (Option.some.inj hc)
  exact h4 c (by simpa using hcm)
theorem stab_later {x : SA Dm} {v : Value} (hB : w.heap.size ≤ B) (hb : Below w.heap.size w W) (h : Stab L w x v) : Stab (orB L B) W x v := by
 intro W' hk
 refine h W' ⟨Nat.le_trans hb.size hk.1, fun b hnl off u hu => ?_⟩
 have hl := cell_lt hu
 refine hk.2 b (fun q => ?_) off u ((World.cell?_of_block (hb.block b hl)).trans hu)
 rcases q with q | q
 ·exact hnl q
 ·omega
theorem ptr_is {L' : Nat → Prop} {ρ : Rho} {b : Nat} {v : Value} {cs : List Value} (hb : W.heap[b]? = some (.cells cs.toArray T (0, 0))) (hnl : ¬ L' b) (hsh : Shaped k v cs) (hs : Stab L' W s v) : (SA.d (Dm.gen (pG k s))).is L' ρ W (.pointer (some ⟨b, 0, none⟩)) := by
 intro w' hag
 refine ⟨b, 0, v, rfl, cs, hsh, hs w' (.agree hag), fun j c hj => ?_⟩
 have hbl : b < W.heap.size := by
  rcases Nat.lt_or_ge b W.heap.size with hl | hl
  ·exact hl
  ·rw [Array.getElem?_eq_none hl] at hb; cases hb
 have e : w'.heap[b]? = some (.cells cs.toArray T (0, 0)) := (hag.2 b hbl hnl).trans hb
 rw [Nat.zero_add]
 simpa [World.cell?, e] using hj
theorem fold_next {x : Dm} {W' : World} {m : Nat} (hwB : w.heap.size ≤ B) (hm : w1.heap.size ≤ m) (h : Fold w w1 (orB L B) B k T s W) (hp : (SA.d x : SA Dm).plain = true) (hS : Stored W (orB L B) B k (.d x) W') : KeepsFrom m W W' ∧ Kpt w1.heap.size B W W' ∧ Fold w w1 (orB L B) B k T (.d x) W' := by
 obtain ⟨v0, cs0, h1, h2, _, _⟩ := h.var
 obtain ⟨w2, v, cs, k1, k2, k3, rfl⟩ := hS
 have hBl : B < W.heap.size := by
  rcases Nat.lt_or_ge B W.heap.size with hl | hl
  ·exact hl
  ·rw [Array.getElem?_eq_none hl] at h1; cases h1
 have hBw : w2.heap[B]? = some (.cells ([] ++ cs0 ++ []).toArray T (0, 0)) := by
  rw [k1.block B hBl, h1, List.nil_append, List.append_nil]
 have hsz : (w2.setCells B 0 cs).heap.size = w2.heap.size := size_setCells' ..
 have hne : ∀ j, j ≠ B → j < W.heap.size → (w2.setCells B 0 cs).heap[j]? = W.heap[j]? := fun j hj hl => (other_setCells _ _ _ _ j hj).trans (k1.block j hl)
 have hnew : (w2.setCells B 0 cs).heap[B]? = some (.cells cs.toArray T (0, 0)) := by
  have := same_setCells B T cs cs0 [] [] w2 (by rw [k3.length, h2.length]) hBw
  rw [List.nil_append, List.append_nil] at this
  exact this
 refine ⟨⟨by rw [hsz]; exact k1.size, fun j o _ ho hc => ?_⟩, ⟨by rw [hsz]; exact k1.size, fun b hb hb' => hne b hb' (by have := h.size; omega)⟩, ⟨?_, by rw [hsz]; exact Nat.le_trans h.size k1.size, fun b hb hb' => (hne b hb' (by have := h.size; omega)).trans (h.same b hb hb'), v, cs, hnew, k3, k2.keep (kept_set (.inr rfl)), fun c hc => ?_⟩⟩
 ·have hjB : j ≠ B := by
   rintro rfl
   rw [h1] at ho
   obtain rfl := Option.some.inj ho
   cases hc
  rw [hne j hjB (Array.getElem?_eq_some_iff.1 ho).1]
  exact ho
 ·refine ⟨by rw [os_setCells]; exact k1.os.trans h.below.os, by rw [tape_setCells]; exact k1.tape.trans h.below.tape, by rw [out_setCells]; exact k1.output.trans h.below.output, by rw [hsz]; exact Nat.le_trans h.below.size k1.size, fun j hj => ?_⟩
  have := h.below.size
  rw [hne j (by omega) (by omega)]
  exact h.below.block j hj
 ·have := Dom.plain_ok x w2 v hp k2.at c (by rw [k3.cells]; simpa using hc)
  exact this
end
end Vc
end Go.Proofs.YtcblbepaigdlgaaGreat

namespace Go.Proofs.YtcblbepaigdlgaaGreat
open Go.RowKit
open Dg Zn
namespace Vc
theorem len_divIntP {p q : Int} {k : Nat} (hp : len p ≤ k) (hq : len q ≤ k) : len (Rat.divInt p q).num ≤ k ∧ len (qd (Rat.divInt p q)) ≤ k := by
 have h0 : len 0 ≤ k := by show (dig 0).length ≤ _; rw [dig_zero]; exact Nat.zero_le _
 by_cases hq0 : q = 0
 ·subst hq0
  obtain ⟨e1, e2⟩ := qd_of_zero p
  rw [e1, e2]
  exact ⟨h0, h0⟩
 ·obtain ⟨e1, e2⟩ := make_num p q hq0
  rw [e1, e2]
  have h1 := Int.natAbs_ediv_le_natAbs p (Int.gcd p q : Nat)
  have h2 := Int.natAbs_ediv_le_natAbs q (Int.gcd p q : Nat)
  refine ⟨Nat.le_trans (len_mono ?_) hp, ?_⟩
  ·rw [Int.natAbs_mul]
   refine Nat.le_trans (Nat.mul_le_mul_right _ (?_ : _ ≤ 1)) (by rw [Nat.one_mul]; exact h1)
   rw [Int.natAbs_sign]
   split <;> omega
  ·split
   ·exact h0
   ·exact Nat.le_trans (len_mono (by rw [Int.natAbs_natCast]; exact h2)) hq
theorem szR_mk {a : Rat} {B : Nat} (h1 : len a.num ≤ B) (h2 : len (qd a) ≤ B) : szR [a] B = true := by
 simp [szR, h1, h2]
theorem den_lenP {a : Rat} {k : Nat} (h1 : 1 ≤ k) (h : len (qd a) ≤ k) : len (a.den : Int) ≤ k := by
 unfold qd at h
 split at h
 ·rename_i hd
  rw [hd]
  refine Nat.le_trans (?_ : len ((1 : Nat) : Int) ≤ 1) h1
  rw [len_lt]
  decide
 ·exact h
theorem sz_mul {a b : Rat} {j k : Nat} (h1 : 1 ≤ j) (h2 : 1 ≤ k) (ha : szR [a] j = true) (hb : szR [b] k = true) : szR [a * b] (j + k) = true := by
 have e : a * b = Rat.divInt (a.num * b.num) ((a.den : Int) * b.den) := by
  conv => lhs; rw [← Rat.num_divInt_den a, ← Rat.num_divInt_den b]
  exact Rat.divInt_mul_divInt _ _
 obtain ⟨a1, a2⟩ := szR_one ha
 obtain ⟨b1, b2⟩ := szR_one hb
 rw [e]
 have h := len_divIntP (Vc.len_mul a1 b1) (Vc.len_mul (den_lenP h1 a2) (den_lenP h2 b2))
 exact szR_mk h.1 h.2
theorem sz_add {a b : Rat} {j k : Nat} (h1 : 1 ≤ j) (h2 : 1 ≤ k) (ha : szR [a] j = true) (hb : szR [b] k = true) : szR [a + b] (j + k + 1) = true := by
 have e : a + b = Rat.divInt (a.num * b.den + b.num * a.den) ((a.den : Int) * b.den) := by
  conv => lhs; rw [← Rat.num_divInt_den a, ← Rat.num_divInt_den b]
  exact Rat.divInt_add_divInt _ _ (by have := a.den_nz; omega) (by have := b.den_nz; omega)
 obtain ⟨a1, a2⟩ := szR_one ha
 obtain ⟨b1, b2⟩ := szR_one hb
 rw [e]
 have n1 : len (a.num * b.den) ≤ j + k := Vc.len_mul a1 (den_lenP h2 b2)
 have n2 : len (b.num * a.den) ≤ j + k := Nat.le_trans (Vc.len_mul b1 (den_lenP h1 a2)) (by omega)
 have n3 := Zn.len_add (a.num * b.den) (b.num * a.den)
 have h := len_divIntP (k := j + k + 1) (p := a.num * b.den + b.num * a.den) (q := (a.den : Int) * b.den) (by omega) (Nat.le_trans (Vc.len_mul (den_lenP h1 a2) (den_lenP h2 b2)) (Nat.le_succ _))
 exact szR_mk h.1 h.2
theorem sz_less {a : Rat} {j k : Nat} (h : j ≤ k) (ha : szR [a] j = true) : szR [a] k = true := by
 obtain ⟨a1, a2⟩ := szR_one ha
 exact szR_mk (Nat.le_trans a1 h) (Nat.le_trans a2 h)
theorem sz_zero {B : Nat} : szR [(0 : Rat)] B = true := by
 have h : len 0 ≤ B := by show (dig 0).length ≤ _; rw [dig_zero]; exact Nat.zero_le _
 exact szR_mk h h
theorem szR_all {l : List Rat} {B : Nat} (h : ∀ a ∈ l, szR [a] B = true) : szR l B = true := by
 unfold szR
 rw [List.all_eq_true]
 intro a ha
 have := szR_one (h a ha)
 rw [Bool.and_eq_true]
 exact ⟨decide_eq_true this.1, decide_eq_true this.2⟩
theorem szR_el {l : List Rat} {B : Nat} (h : szR l B = true) {a : Rat} (ha : a ∈ l) : szR [a] B = true := szR_mk (szR_mem h ha).1 (szR_mem h ha).2
theorem sz_getD {l : List Rat} {B : Nat} (h : szR l B = true) (i : Nat) : szR [l.getD i 0] B = true := by
 rcases Nat.lt_or_ge i l.length with hl | hl
 ·rw [List.getD_eq_getElem?_getD, List.getElem?_eq_getElem hl]
  exact szR_el h (List.getElem_mem hl)
 ·rw [getD_zero hl]
  exact sz_zero
theorem sz_trim {l : List Rat} {B : Nat} (h : szR l B = true) : szR (trimR l) B = true := szR_all fun a ha => by
 rw [trimR_take] at ha
 exact szR_el h (List.mem_of_mem_take ha)
theorem sz_tabs {g : Nat → Rat} {n B : Nat} (h : ∀ k, k < n → szR [g k] B = true) : szR (tab g n) B = true := szR_all fun a ha => by
 unfold tab at ha
 obtain ⟨k, hk, rfl⟩ := List.mem_map.1 ha
 exact h k (List.mem_range.1 hk)
theorem sz_addR {p q : List Rat} {j k : Nat} (h1 : 1 ≤ j) (h2 : 1 ≤ k) (hp : szR p j = true) (hq : szR q k = true) : szR (addR p q) (j + k + 1) = true :=
 sz_trim (sz_tabs fun i _ => sz_add h1 h2 (sz_getD hp i) (sz_getD hq i))
theorem sz_scaleR {p : List Rat} {a : Rat} {j k : Nat} (h1 : 1 ≤ j) (h2 : 1 ≤ k) (hp : szR p j = true) (ha : szR [a] k = true) : szR (scaleR p a) (j + k) = true :=
 sz_trim (sz_tabs fun i _ => sz_mul h1 h2 (sz_getD hp i) ha)
theorem sz_lessL {l : List Rat} {j k : Nat} (h : j ≤ k) (hl : szR l j = true) : szR l k = true := szR_all fun _ ha => sz_less h (szR_el hl ha)
theorem sz_cons {a : Rat} {l : List Rat} {B : Nat} (ha : szR [a] B = true) (hl : szR l B = true) : szR (a :: l) B = true := szR_all fun b hb => by
 rcases List.mem_cons.1 hb with rfl | hb
 ·exact ha
 ·exact szR_el hl hb
end Vc
end Go.Proofs.YtcblbepaigdlgaaGreat

namespace Go.Proofs.YtcblbepaigdlgaaGreat
open Go.RowKit Go.Shelf
open Dg Zn
namespace Vc
attribute [local go_sem] Oper.semAt_some
theorem Fold.later {w w1 W W' : World} {L : Nat → Prop} {B : Nat} {k : Option Nat} {T : TypeId} {s : SA Dm} (h : Fold w w1 L B k T s W) (hb : Below W.heap.size W W') : Fold w w1 L B k T s W' := by
 obtain ⟨h1, h2, h3, v, cs, h4, h5, h6, h7⟩ := h
 have hBl : B < W.heap.size := by
  rcases Nat.lt_or_ge B W.heap.size with hl | hl
  ·exact hl
  ·rw [Array.getElem?_eq_none hl] at h4; cases h4
 refine ⟨⟨hb.os.trans h1.os, hb.tape.trans h1.tape, hb.output.trans h1.output, Nat.le_trans h1.size hb.size, fun b hb' => ?_⟩, Nat.le_trans h2 hb.size, fun b hb' hne => (hb.block b (by omega)).trans (h3 b hb' hne), v, cs, (hb.block B hBl).trans h4, h5, h6.keep (kept_below hb), h7⟩
 have := h1.size
 rw [hb.block b (by omega)]
 exact h1.block b hb'
theorem keeps_below {B : Nat} {W W' : World} (hb : Below W.heap.size W W') : KeepsFrom B W W' := ⟨hb.size, fun k o _ hk _ => (hb.block k (Array.getElem?_eq_some_iff.1 hk).1).trans hk⟩
theorem kpt_below {n B : Nat} {W W' : World} (hn : n ≤ W.heap.size) (hb : Below W.heap.size W W') : Kpt n B W W' := ⟨hb.size, fun b hb' _ => hb.block b (by omega)⟩
def evalF (p : List Rat) (x : Rat) (pre : List Nat) : Rat := pre.foldl (fun s k => s * x + p.getD (p.length - 1 - k) 0) 0
theorem evalF_snoc (p : List Rat) (x : Rat) (pre : List Nat) (k : Nat) : evalF p x (pre ++ [k]) = evalF p x pre * x + p.getD (p.length - 1 - k) 0 := by simp [evalF]
def evalR (p : List Rat) (x : Rat) : Rat := evalF p x (dwn id p.length)
def bdE (K Kx n : Nat) : Nat := n * (Kx + K + 1) + 1
theorem bdE_mono {K Kx i j : Nat} (h : i ≤ j) : bdE K Kx i ≤ bdE K Kx j := by
 have := Nat.mul_le_mul_right (Kx + K + 1) h
 unfold bdE
 omega
theorem sz_evalF {p : List Rat} {x : Rat} {K Kx : Nat} (h1 : 1 ≤ K) (h2 : 1 ≤ Kx) (hp : szR p K = true) (hx : szR [x] Kx = true) : ∀ pre : List Nat, szR [evalF p x pre] (bdE K Kx pre.length) = true := by
 have hK : ∀ i, szR [p.getD i 0] K = true := by
  intro i
  rcases Nat.lt_or_ge i p.length with hl | hl
  ·have := szR_mem hp (List.getElem_mem hl)
   rw [List.getD_eq_getElem?_getD, List.getElem?_eq_getElem hl]
   exact szR_mk this.1 this.2
  ·rw [getD_zero hl]
   exact sz_zero
 have : ∀ (pre : List Nat) (s : Rat) (m : Nat), 1 ≤ m → szR [s] m = true → szR [pre.foldl (fun s k => s * x + p.getD (p.length - 1 - k) 0) s] (m + pre.length * (Kx + K + 1)) = true := by
  intro pre
  induction pre with
  | nil => intro s m _ hs; exact sz_less (by omega) hs
  | cons k pre ih =>
   intro s m hm hs
   rw [List.foldl_cons]
   have h := ih (s * x + p.getD (p.length - 1 - k) 0) (m + Kx + K + 1) (by omega) (sz_add (by omega) h1 (sz_mul hm h2 hs hx) (hK _))
   refine sz_less ?_ h
   rw [List.length_cons, Nat.succ_mul]
   omega
 intro pre
 refine sz_less ?_ (this pre 0 1 (Nat.le_refl _) sz_zero)
 unfold bdE
 omega
theorem alloc4 (w : World) (a b c d : Obj) : ∃ w1, (((w.alloc a).alloc b).alloc c).alloc d = w1 ∧ w1.heap.size = w.heap.size + 4 ∧ w1.heap[w.heap.size]? = ((w.alloc a).heap[w.heap.size]?) ∧ w1.heap[w.heap.size + 1]? = ((w.alloc a).alloc b).heap[w.heap.size + 1]? ∧ w1.heap[w.heap.size + 1 + 1]? = (((w.alloc a).alloc b).alloc c).heap[w.heap.size + 1 + 1]? ∧ w1.heap[w.heap.size + 1 + 1 + 1]? = ((((w.alloc a).alloc b).alloc c).alloc d).heap[w.heap.size + 1 + 1 + 1]? ∧ Below w.heap.size w w1 ∧ ∃ wA, wA.heap.size = w.heap.size + 1 + 1 ∧ Below w.heap.size w wA ∧ Below wA.heap.size wA w1 ∧ wA.heap[w.heap.size + 1]? = ((w.alloc a).alloc b).heap[w.heap.size + 1]? := by
 have s1 : (w.alloc a).heap.size = w.heap.size + 1 := Array.size_push _
 have s2 : ((w.alloc a).alloc b).heap.size = w.heap.size + 1 + 1 := (Array.size_push _).trans (by rw [s1])
 have s3 : (((w.alloc a).alloc b).alloc c).heap.size = w.heap.size + 1 + 1 + 1 := (Array.size_push _).trans (by rw [s2])
 have s4 : ((((w.alloc a).alloc b).alloc c).alloc d).heap.size = w.heap.size + 1 + 1 + 1 + 1 := (Array.size_push _).trans (by rw [s3])
 have b4 : ∀ j, j < (((w.alloc a).alloc b).alloc c).heap.size → ((((w.alloc a).alloc b).alloc c).alloc d).heap[j]? = (((w.alloc a).alloc b).alloc c).heap[j]? := fun j hj => Below.heap_alloc _ _ _ hj
 have b3 : ∀ j, j < ((w.alloc a).alloc b).heap.size → (((w.alloc a).alloc b).alloc c).heap[j]? = ((w.alloc a).alloc b).heap[j]? := fun j hj => Below.heap_alloc _ _ _ hj
 have b2 : ∀ j, j < (w.alloc a).heap.size → ((w.alloc a).alloc b).heap[j]? = (w.alloc a).heap[j]? := fun j hj => Below.heap_alloc _ _ _ hj
 refine ⟨_, rfl, s4, ?_, ?_, ?_, rfl, ((((Below.refl _ w).alloc (Nat.le_refl _) _).alloc (by omega) _).alloc (by omega) _).alloc (by omega) _, (w.alloc a).alloc b, s2, ((Below.refl _ w).alloc (Nat.le_refl _) _).alloc (by omega) _, ((Below.refl _ _).alloc (Nat.le_refl _) _).alloc (by omega) _, rfl⟩
 ·rw [b4 _ (by omega), b3 _ (by omega), b2 _ (by omega)]
 ·rw [b4 _ (by omega), b3 _ (by omega)]
 ·rw [b4 _ (by omega)]
theorem alloc_at (w : World) (o : Obj) {n : Nat} (h : w.heap.size = n) : (w.alloc o).heap[n]? = some o := by subst h; exact heap_alloc_new w o
set_option maxRecDepth 100000 in
set_option maxHeartbeats 4000000 in
theorem PEval_con (p : List Rat) (x : Rat) (K Kx : Nat) (hp : p.length ≤ 1000000) (hK : K ≤ 1000000) (hKx : Kx ≤ 1000000) (hK1 : 1 ≤ K) (hKx1 : 1 ≤ Kx) (hpz : szR p K = true) (hxz : szR [x] Kx = true) (hbd : bdE K Kx p.length ≤ 1000000) : Con Tryz.prog 29 [PL p K, RT x Kx] (.one (RT (evalR p x) (bdE K Kx p.length))) := by
 intro L ρ w vs hlt hni _ hall
 match vs, hall with
 | [v0, v1], ⟨g0, g1, _⟩ =>
  obtain ⟨ao, cap, rfl, hcap, hlst⟩ := lst_open (by decide) g0
  rw [plV_length] at hcap hlst ⊢
  have hx := stab_is loc_rt g1
  obtain ⟨sx, tx, rfl, n1, n2, _, _⟩ := g1 w (Agree.refl _ _)
  have hx1s : ∀ c ∈ [Value.bool (decide (x.num < 0)), sx, .bool (decide (qd x < 0)), tx], c.oneCell' = true := by
   obtain ⟨_, _, rfl, _⟩ := n1
   obtain ⟨_, _, rfl, _⟩ := n2
   simp [Value.oneCell']
  generalize hcx : (decide (x.num < 0)) = bx at *
  generalize hcy : (decide (qd x < 0)) = bz at *
  -- the elements
  obtain ⟨b, off, cs, hao, hsh, hel⟩ : ∃ b off, ∃ cs : List Value, (0 < p.length → ao = some ⟨b, off, none⟩ ∧ b < w.heap.size) ∧ (∀ k, Shaped (some 4) (.agg #[el4 cs (p.length - 1 - k) 0, el4 cs (p.length - 1 - k) 1, el4 cs (p.length - 1 - k) 2, el4 cs (p.length - 1 - k) 3]) [el4 cs (p.length - 1 - k) 0, el4 cs (p.length - 1 - k) 1, el4 cs (p.length - 1 - k) 2, el4 cs (p.length - 1 - k) 3]) ∧ ∀ j, j < p.length → (w.cell? ⟨b, off + j * 4, none⟩ = some (el4 cs j 0) ∧ w.cell? ⟨b, off + j * 4 + 1, none⟩ = some (el4 cs j 1) ∧ w.cell? ⟨b, off + j * 4 + 2, none⟩ = some (el4 cs j 2) ∧ w.cell? ⟨b, off + j * 4 + 3, none⟩ = some (el4 cs j 3)) ∧ Stab L w (RT (p.getD j 0) K) (.agg #[el4 cs j 0, el4 cs j 1, el4 cs j 2, el4 cs j 3]) := by
   rcases Nat.eq_zero_or_pos p.length with h0 | h0
   ·exact ⟨0, 0, [.bool false, .slice none 0 0, .bool false, .slice none 0 0], fun h => by omega, fun k => by rw [show p.length - 1 - k = 0 by omega]; exact ⟨rfl, rfl, by simp [el4, Value.oneCell']⟩, fun j hj => by omega⟩
   ·obtain ⟨b, off, e, ⟨_, hb⟩, cs, hats, hcs⟩ := hlst h0
    refine ⟨b, off, cs, fun _ => ⟨e, hb⟩, fun k => (elem4 (hats w (Agree.refl _ _)) (plV_at (K := K) (by omega))).1.2, fun j hj => ?_⟩
    have h4 := elem4 (hats w (Agree.refl _ _)) (plV_at (K := K) hj)
    have hi : ∀ i, i < 4 → w.cell? ⟨b, off + j * 4 + i, none⟩ = some (el4 cs j i) := fun i hi => by
     rw [Nat.add_assoc]
     exact hcs _ _ (h4.2 i hi)
    exact ⟨⟨hi 0 (by decide), hi 1 (by decide), hi 2 (by decide), hi 3 (by decide)⟩, stab_of loc_rt fun w' hw => (elem4 (hats w' hw) (plV_at (K := K) hj)).1.1⟩
  refine (callsIn_wide (n := 9)).1 ?_
  refine callsIn_of_wp_marks Tryz.func29 rfl trivial ?_ rfl
  simp only [Tryz.ntmps29, List.size_toArray, List.length_cons, List.length_nil, Nat.reduceAdd, Nat.reduceSub, Array.replicate_succ, Array.replicate_zero, List.push_toArray, List.append_toArray, List.nil_append, List.cons_append]
  have hs0 := (Stab.at hx)
  gi_wp2_with (refine ⟨trivial, ?_⟩; gi_at_call 76; refine (back_in Fence.wide _ trivial rfl _ _ _ _).mono ?_; rintro e w' ⟨rfl, rfl⟩)
  have s3 : (((w.alloc (.cells #[.bool bx, sx, .bool bz, tx] 30)).alloc (.cells #[.bool false, .slice none 0 0, .bool false, .slice none 0 0] 30)).alloc (.cells #[.bool false, .slice none 0 0, .bool false, .slice none 0 0] 30)).heap.size = w.heap.size + 1 + 1 + 1 := by
   refine (Array.size_push _).trans (congrArg (· + 1) ((Array.size_push _).trans (congrArg (· + 1) (Array.size_push _))))
  obtain ⟨w1, hw1, hs1, q3, q4, q5, q6, hb1, wA, hsA, hbA, hb1A, qA⟩ := alloc4 w (.cells #[.bool bx, sx, .bool bz, tx] 30) (.cells #[.bool false, .slice none 0 0, .bool false, .slice none 0 0] 30) (.cells #[.bool false, .slice none 0 0, .bool false, .slice none 0 0] 30) (.cells #[.slice ao p.length cap] 24)
  rw [alloc_at _ _ rfl] at q3
  rw [alloc_at _ _ (Array.size_push _)] at q4 qA
  rw [alloc_at _ _ ((Array.size_push _).trans (congrArg (· + 1) (Array.size_push _)))] at q5
  rw [alloc_at _ _ s3] at q6
  rw [hw1]
  clear hw1 s3
  have hB5 : w.heap.size + 1 + 1 < w1.heap.size := by omega
  have hlt1 : ∀ b, orB L (w.heap.size + 1) b → b < wA.heap.size := by
   rintro b (q | q)
   ·have := hlt b q; omega
   ·omega
  have hni1 : NoInt (orB L (w.heap.size + 1)) wA := by
   rintro b (q | rfl) cs' T' fr hc c hcm
   ·rw [hbA.block b (hlt b q)] at hc
    exact hni b q cs' T' fr hc c hcm
   ·rw [qA] at hc
    obtain ⟨rfl, -, -⟩ := (Obj.cells.injEq _ _ _ _ _ _).mp (Option.some.inj hc)
    have hall : ∀ c ∈ [Value.bool false, .slice none 0 0, .bool false, .slice none 0 0], notInt c = true := by simp [notInt]
    exact hall c (by simpa using hcm)
  have hx' := stab_later (Nat.le_succ _) hbA hx
  have hel' := fun j hj => stab_later (Nat.le_succ _) hbA (hel j hj).2
  have hBs : w1.cell? ⟨w.heap.size + 1 + 1 + 1, 0, none⟩ = some (.slice ao p.length cap) := by simp [World.cell?, q6]
  have hfold : ∀ k, ((#[10, 11] : Array Tmp).zip (bkE p.length (fun j => .agg #[el4 cs j 0, el4 cs j 1, el4 cs j 2, el4 cs j 3]) k)).foldl (fun t (p, v) => t.setIfInBounds p v) #[.slice ao p.length cap, .agg #[.bool bx, sx, .bool bz, tx], undef, .pointer (some ⟨w.heap.size, 0, none⟩), .pointer (some ⟨w.heap.size + 1, 0, none⟩), .pointer (some ⟨w.heap.size + 1 + 1, 0, none⟩), undef, undef, .slice ao p.length cap, .func (.func 118) #[] #[.pointer (some ⟨w.heap.size + 1 + 1 + 1, 0, none⟩)], undef, undef, undef, undef, undef, undef, undef, undef] = #[.slice ao p.length cap, .agg #[.bool bx, sx, .bool bz, tx], undef, .pointer (some ⟨w.heap.size, 0, none⟩), .pointer (some ⟨w.heap.size + 1, 0, none⟩), .pointer (some ⟨w.heap.size + 1 + 1, 0, none⟩), undef, undef, .slice ao p.length cap, .func (.func 118) #[] #[.pointer (some ⟨w.heap.size + 1 + 1 + 1, 0, none⟩)], .int .i64 ((p.length - 1 - k : Nat) : Int), .agg #[el4 cs (p.length - 1 - k) 0, el4 cs (p.length - 1 - k) 1, el4 cs (p.length - 1 - k) 2, el4 cs (p.length - 1 - k) 3], undef, undef, undef, undef, undef, undef] := by
   intro k
   simp [bkE]
  refine wpIn_rangeFunc_ownH (α := Nat) rfl (by decide) (gf := 118) (lb := #[.pointer (some ⟨w.heap.size + 1 + 1 + 1, 0, none⟩)]) rfl trivial (enters_of Tryz.func118 (by kernel_rfl) rfl)
   (back_stops (C := el4 cs) (B := w.heap.size + 1 + 1) (b := b) (off := off) (by decide) (fun h => (hao h).1) hp hBs (by omega) (fun h => ⟨by have := (hao h).2; omega, fun j hj => by
    obtain ⟨⟨e0, e1, e2, e3⟩, _⟩ := hel j hj
    have hk := (kept_below (L := fun _ => False) hb1).2 b (fun q => q)
    exact ⟨hk _ _ e0, hk _ _ e1, hk _ _ e2, hk _ _ e3⟩⟩)) Kpt.trans (Kpt.put (Nat.le_refl _)) (Below.refl _ _) (fun _ => rfl)
   (fun pre W => Fold wA w1 (orB (orB L (w.heap.size + 1)) (w.heap.size + 1 + 1)) (w.heap.size + 1 + 1) (some 4) 30 (RT (evalF p x pre) (bdE K Kx pre.length)) W)
   (fun _ _ _ => False) (Fold.own (f := fun pre => RT (evalF p x pre) (bdE K Kx pre.length)) (by omega)) (fun _ _ _ _ _ hs _ _ => hs) ?start
   (fun k a' W => ∃ Bx, w1.heap.size ≤ Bx ∧ W.heap[Bx]? = some (.cells [el4 cs (p.length - 1 - k) 0, el4 cs (p.length - 1 - k) 1, el4 cs (p.length - 1 - k) 2, el4 cs (p.length - 1 - k) 3].toArray 30 (0, 0)) ∧ a' = Act.put { tmps := #[.slice ao p.length cap, .agg #[.bool bx, sx, .bool bz, tx], undef, .pointer (some ⟨w.heap.size, 0, none⟩), .pointer (some ⟨w.heap.size + 1, 0, none⟩), .pointer (some ⟨w.heap.size + 1 + 1, 0, none⟩), undef, undef, .slice ao p.length cap, .func (.func 118) #[] #[.pointer (some ⟨w.heap.size + 1 + 1 + 1, 0, none⟩)], .int .i64 ((p.length - 1 - k : Nat) : Int), .agg #[el4 cs (p.length - 1 - k) 0, el4 cs (p.length - 1 - k) 1, el4 cs (p.length - 1 - k) 2, el4 cs (p.length - 1 - k) 3], undef, undef, undef, undef, undef, undef], defers := [] } (some 7) (.pointer (some ⟨Bx, 0, none⟩))) ?hAx ?assign ?body ?done ?stop
  case start =>
   refine ⟨hb1A, Nat.le_refl _, fun _ _ _ => rfl, zeroRat, [.bool false, .slice none 0 0, .bool false, .slice none 0 0], q5, ⟨rfl, rfl, by simp [Value.oneCell']⟩, fun W' _ => ?_, by simp [notInt]⟩
   have h0 : (dig (0 : Int).natAbs).length ≤ bdE K Kx ([] : List Nat).length := by rw [show (0 : Int).natAbs = 0 from rfl, dig_zero]; exact Nat.zero_le _
   exact ⟨_, _, rfl, Nums.nil (by decide), Nums.nil (by decide), h0, h0⟩
  case hAx =>
   rintro k a' _ W W' row ⟨Bx, h1, h2, h3⟩ hg hr
   refine ⟨Bx, h1, ?_, h3⟩
   rw [hg.block Bx (Array.getElem?_eq_some_iff.1 h2).1 (fun e => by
    obtain ⟨_, o', m2, m3⟩ := hr Bx e.symm
    rw [h2] at m2
    obtain rfl := Option.some.inj m2
    cases m3)]
   exact h2
  case assign =>
   intro l pre k W K' hi hK'
   show Code.wpIn _ _ _ _ _ (Act.mk (((#[10, 11] : Array Tmp).zip (bkE p.length (fun j => .agg #[el4 cs j 0, el4 cs j 1, el4 cs j 2, el4 cs j 3]) k)).foldl (fun t (p, v) => t.setIfInBounds p v) #[.slice ao p.length cap, .agg #[.bool bx, sx, .bool bz, tx], undef, .pointer (some ⟨w.heap.size, 0, none⟩), .pointer (some ⟨w.heap.size + 1, 0, none⟩), .pointer (some ⟨w.heap.size + 1 + 1, 0, none⟩), undef, undef, .slice ao p.length cap, .func (.func 118) #[] #[.pointer (some ⟨w.heap.size + 1 + 1 + 1, 0, none⟩)], undef, undef, undef, undef, undef, undef, undef, undef]) []) W
   rw [hfold k]
   exact assign_run (u7 := 7) (u11 := 11) (Nat.le_of_ble_eq_true rfl) (by decide) rfl (hsh k) rfl rfl rfl rfl rfl rfl fun W2 hb _ hcell => hK' _ W2 (keeps_below hb) (kpt_below hi.size hb) (hi.later hb) ⟨W.heap.size, hi.size, hcell, rfl⟩
  case stop =>
   rintro D c pre W _ _ h _
   exact h.elim
  case done =>
   intro D ys W hD hys hI hKD
   have hsame4 := hI.same (w.heap.size + 1) (by omega) (by omega)
   obtain ⟨v, cs5, c1, c2, c3, c4⟩ := hI.var
   obtain ⟨s5, t5, e5, ⟨ao5, cap5, e6, _⟩, ⟨ao7, cap7, e7, _⟩, _, _⟩ := c3.at
   obtain ⟨b5, a5, n5, k5, b6, a6, n6, k6, hv⟩ : ∃ b5 a5 n5 k5 b6 a6 n6 k6, v = .agg #[.bool b5, .slice a5 n5 k5, .bool b6, .slice a6 n6 k6] := ⟨_, _, _, _, _, _, _, _, by rw [e5, e6, e7]⟩
   have hcs : cs5 = [.bool b5, .slice a5 n5 k5, .bool b6, .slice a6 n6 k6] := by
    have h := c2.1
    rw [hv] at h
    injection h with h
    have h := congrArg Array.toList h
    simpa using h.symm
   subst hcs
   clear e5 e6 e7
   have f0 : W.cell? ⟨w.heap.size + 1 + 1, 0, none⟩ = some (.bool b5) := by simp [World.cell?, c1]
   have f1 : W.cell? ⟨w.heap.size + 1 + 1, 1, none⟩ = some (.slice a5 n5 k5) := by simp [World.cell?, c1]
   have f2 : W.cell? ⟨w.heap.size + 1 + 1, 2, none⟩ = some (.bool b6) := by simp [World.cell?, c1]
   have f3 : W.cell? ⟨w.heap.size + 1 + 1, 3, none⟩ = some (.slice a6 n6 k6) := by simp [World.cell?, c1]
   have e4 : W.heap[w.heap.size + 1]? = some (.cells #[.bool false, .slice none 0 0, .bool false, .slice none 0 0] 30 (0, 0)) := hsame4.trans q4
   have h0 : W.cell? ⟨w.heap.size + 1, 0, none⟩ = some (.bool false) := by simp [World.cell?, e4]
   have h1 : W.cell? ⟨w.heap.size + 1, 1, none⟩ = some (.slice none 0 0) := by simp [World.cell?, e4]
   have h2 : W.cell? ⟨w.heap.size + 1, 2, none⟩ = some (.bool false) := by simp [World.cell?, e4]
   have h3 : W.cell? ⟨w.heap.size + 1, 3, none⟩ = some (.slice none 0 0) := by simp [World.cell?, e4]
   have z0 : ∀ i, W.frozen? ⟨w.heap.size + 1, i, none⟩ = false := fun i => by simp [World.frozen?, e4]
   have y0 := z0 0
   have y1 := z0 1
   have y2 := z0 2
   have y3 := z0 3
   gi_wp2
   have hbl : Below W.heap.size W W := Below.refl _ _
   obtain ⟨W4, hW4⟩ : ∃ W4, W4 = W.setCells (w.heap.size + 1) 0 [.bool b5, .slice a5 n5 k5, .bool b6, .slice a6 n6 k6] := ⟨_, rfl⟩
   have hW4' : ((((W.setCell ⟨w.heap.size + 1, 0, none⟩ (.bool b5)).setCell ⟨w.heap.size + 1, 1, none⟩ (.slice a5 n5 k5)).setCell ⟨w.heap.size + 1, 2, none⟩ (.bool b6)).setCell ⟨w.heap.size + 1, 3, none⟩ (.slice a6 n6 k6)) = W4 := by
    rw [hW4]
    rfl
   rw [hW4']
   have hD4 : W4.heap[D]? = some (.deferred (some [])) := by
    rw [hW4, other_setCells _ _ _ _ D (by omega)]
    exact hKD
   have g4 : W4.heap[w.heap.size + 1]? = some (.cells [.bool b5, .slice a5 n5 k5, .bool b6, .slice a6 n6 k6].toArray 30 (0, 0)) := by
    rw [hW4]
    exact same_setCells (w.heap.size + 1) 30 [.bool b5, .slice a5 n5 k5, .bool b6, .slice a6 n6 k6] [.bool false, .slice none 0 0, .bool false, .slice none 0 0] [] [] W rfl e4
   refine ⟨by simp, .inl ⟨_, _, rfl, run_takeDeferred hD4, ?_⟩⟩
   have hDl : D < W4.heap.size := (Array.getElem?_eq_some_iff.1 hD4).1
   have hn4 : w.heap.size + 1 ≠ D := by omega
   have g5 : (W4.putObj D (.deferred none)).heap[w.heap.size + 1]? = some (.cells [.bool b5, .slice a5 n5 k5, .bool b6, .slice a6 n6 k6].toArray 30 (0, 0)) := (World.putObj_heap_other hn4).trans g4
   refine ⟨v, ?_, v, rfl, ?_, ?_⟩
   ·have e : ∀ tm : Array Value, tm.getD 4 undef = .pointer (some ⟨w.heap.size + 1, 0, none⟩) → (results Tryz.f29 tm).run Tryz.prog (W4.putObj D (.deferred none)) = .ok v (W4.putObj D (.deferred none)) := by
     intro tm htm
     have h1 : (rvRun tm (.cell 4 30)).run Tryz.prog (W4.putObj D (.deferred none)) = .ok v (W4.putObj D (.deferred none)) := by
      have hl := run_loadVar_at (P := Tryz.prog) (w := W4.putObj D (.deferred none)) (b := w.heap.size + 1) (off := 0) (cs := [.bool b5, .slice a5 n5 k5, .bool b6, .slice a6 n6 k6]) (ty := 30) (k := some 4) (v := v) (fun j c hj => by rw [Nat.zero_add]; simpa [World.cell?, g5] using hj) c2 ty_rat
      simp only [rvRun, htm, asAddr, Sem.run_bind, Sem.run_pure, Result.andThen_ok, hl]
     have h2 : (results Tryz.f29 tm).run Tryz.prog (W4.putObj D (.deferred none)) = ((rvRun tm (.cell 4 30)).run Tryz.prog (W4.putObj D (.deferred none))).andThen fun v w => .ok v w := by
      simp [results, show Tryz.f29.results = #[.cell 4 30] from rfl, rvRun, andThen_assoc, andThen_ok']
     rw [h2, h1]
     rfl
    exact e _ rfl
   ·refine ⟨?_, ?_, ?_, ?_, fun j hj => ?_⟩
    ·show W4.os = _
     rw [hW4, os_setCells]; exact (hbA.os ▸ hI.below.os)
    ·show W4.tape = _
     rw [hW4, tape_setCells]; exact (hbA.tape ▸ hI.below.tape)
    ·show W4.output = _
     rw [hW4, out_setCells]; exact (hbA.output ▸ hI.below.output)
    ·have h1 := hI.below.size
     have h2 : W4.heap.size = W.heap.size := by rw [hW4]; exact size_setCells' ..
     simp
     omega
    ·have h1 := hI.below.size
     rw [World.putObj_heap_other (by omega), hW4, other_setCells _ _ _ _ j (by omega), hI.below.block j (by omega)]
     exact hbA.block j hj
   ·have hev : evalR p x = evalF p x ys := by rw [hys]; rfl
    have hyl : ys.length = p.length := by rw [hys, dwn_length]
    rw [hev, ← hyl]
    refine at_is (ρ := ρ) fun w'' hag => c3 w'' ?_
    refine CellsKept.trans ?_ (CellsKept.trans (kept_grown (grownBy_putObj' W4 D (.deferred none)) (fun r e => by cases e; exact ⟨_, hD4, rfl⟩)) ?_)
    ·rw [hW4]
     exact kept_set (.inl (.inr rfl))
    ·have := CellsKept.agree hag
     exact ⟨this.1, fun b hb => this.2 b fun q => hb (.inl (.inl q))⟩
  case body =>
   rintro l pre k a' W hl _ hi ⟨Bx, hx1, hx2, rfl⟩ hlen
   have hbW := hi.below.size
   obtain ⟨vc, csv, c1, c2, c3, c4⟩ := hi.var
   have hkl : p.length - 1 - k < p.length := by omega
   have hpre : bdE K Kx pre.length ≤ 1000000 := Nat.le_trans (bdE_mono (Nat.le_of_lt hlen)) hbd
   have hnew := sz_evalF hK1 hKx1 hpz hxz (pre ++ [k])
   have h3W : W.heap[w.heap.size]? = some (.cells [Value.bool bx, sx, .bool bz, tx].toArray 30 (0, 0)) := (hi.same _ (by omega) (by omega)).trans q3
   have hxp : (SA.d (Dm.gen (pG (some 4) (RT x Kx)))).is (orB (orB L (w.heap.size + 1)) (w.heap.size + 1 + 1)) ρ W (.pointer (some ⟨w.heap.size, 0, none⟩)) := ptr_is h3W (by rintro ((q | q) | q); exact absurd (hlt _ q) (by omega); omega; omega) ⟨rfl, rfl, hx1s⟩ (stab_later (by omega) hi.below hx')
   have hap : (SA.d (Dm.gen (pG (some 4) (RT (p.getD (p.length - 1 - k) 0) K)))).is (orB (orB L (w.heap.size + 1)) (w.heap.size + 1 + 1)) ρ W (.pointer (some ⟨Bx, 0, none⟩)) := ptr_is hx2 (by rintro ((q | q) | q); exact absurd (hlt _ q) (by omega); omega; omega) (hsh k) (stab_later (by omega) hi.below (hel' _ hkl))
   have hBlW : w.heap.size + 1 + 1 < W.heap.size := by have := hi.size; omega
   refine wpIn_block (wpIn_mono (RV.wpIn (x0 := .no) (C := CS W (orB (orB L (w.heap.size + 1)) (w.heap.size + 1 + 1)) (orB_lt hlt1 hbW hBlW) (orB_ni hlt1 hni1 hi) 18 (w.heap.size + 1 + 1) (some 4) (RT (evalF p x (pre ++ [k])) (bdE K Kx (pre ++ [k]).length))) (K := fun l => lookD .no l FK = .dead)
    (l := [(.s 3, .av (.one (.d (Dm.gen (pG (some 4) (RT x Kx)))))), (.s 5, .av (.one (.v (.pointer (some ⟨w.heap.size + 1 + 1, 0, none⟩))))), (.s 7, .av (.one (.d (Dm.gen (pG (some 4) (RT (p.getD (p.length - 1 - k) 0) K))))))]) (fun a w h => CS.drew rfl h) (by kernel_rfl) (fun _ => by kernel_rfl) (by kernel_rfl) ?walk ?begin) ?after)
   case begin =>
    refine .inl ⟨rfl, ρ, conc_start (Eq.refl 18) rfl (fun i => rfl) fun t => ?_⟩
    by_cases e3 : t = 3
    ·subst e3; exact .inr ⟨_, rfl, rfl, hxp⟩
    ·by_cases e5 : t = 5
     ·subst e5; exact .inr ⟨_, rfl, rfl, rfl⟩
     ·by_cases e7 : t = 7
      ·subst e7; exact .inr ⟨_, rfl, rfl, hap⟩
      ·refine .inl ?_
       show (bif Key.beq (.s 3) (.s t) then _ else bif Key.beq (.s 5) (.s t) then _ else bif Key.beq (.s 7) (.s t) then _ else _) = _
       rw [Key.beq_ne (by simpa using Ne.symm e3), Key.beq_ne (by simpa using Ne.symm e5), Key.beq_ne (by simpa using Ne.symm e7)]
       rfl
   case walk =>
    rw [evalF_snoc] at hnew ⊢
    refine RV.step1 (OpOk.flag (ok_loadV c1 c2 c3 rfl ty_rat rfl rfl (by decide) rfl) rfl rfl rfl) ?_
    refine RV.step1 (OpOk.flag (ok_loadP ty_rat (by decide) rfl rfl (by decide) rfl) rfl rfl rfl) ?_
    refine RV.step1 (OpOk.flag (ok_call (RMul_con _ _ _ _ (by omega) (by omega)) rfl rfl (by decide) Tryz.func43 rfl rfl (.cons rfl Conv.any (.cons rfl Conv.any .nil)) rfl rfl rfl) rfl rfl rfl) ?_
    refine RV.step1 (OpOk.flag (ok_loadP ty_rat (by decide) rfl rfl (by decide) rfl) rfl rfl rfl) ?_
    refine RV.step1 (OpOk.flag (ok_call ((RAdd_con _ _ (3 * (bdE K Kx pre.length + Kx) + 20) K (by omega) (by omega)).mono (fun _ _ _ _ h => h) (rt_le1 hnew)) rfl rfl (by decide) Tryz.func42 rfl rfl (.cons rfl Conv.any (.cons rfl Conv.any .nil)) rfl rfl rfl) rfl rfl rfl) ?_
    refine RV.step1 (step_storeV c1 c2.length loc_rt rfl sz_rat rfl rfl rfl rfl rfl rfl) ?_
    exact RV.drawn (by kernel_rfl) rfl
   case after =>
    intro e a'' W'' he
    cases e with
    | normal =>
     obtain ⟨l', h1, h2⟩ := he
     rcases h2 with ⟨h3, _⟩ | ⟨_, h3⟩
     ·rw [h1] at h3; cases h3
     ·exact fold_next (by omega) (Nat.le_refl _) hi rfl h3
    | ret => exact he.elim
    | exit id => exact he.elim
    | goto t => exact he.elim
    | panic c => exact he.elim
    | outgrown => exact he.elim
end Vc
end Go.Proofs.YtcblbepaigdlgaaGreat

namespace Go.Proofs.YtcblbepaigdlgaaGreat
open Go.RowKit Go.Shelf
open Dg Zn
namespace Vc
attribute [local go_sem] Oper.semAt_some
theorem alloc3 (w : World) (a b c : Obj) : ∃ w1, ((w.alloc a).alloc b).alloc c = w1 ∧ w1.heap.size = w.heap.size + 3 ∧ w1.heap[w.heap.size]? = ((w.alloc a).heap[w.heap.size]?) ∧ w1.heap[w.heap.size + 1]? = ((w.alloc a).alloc b).heap[w.heap.size + 1]? ∧ w1.heap[w.heap.size + 1 + 1]? = (((w.alloc a).alloc b).alloc c).heap[w.heap.size + 1 + 1]? ∧ Below w.heap.size w w1 := by
 have s1 : (w.alloc a).heap.size = w.heap.size + 1 := Array.size_push _
 have s2 : ((w.alloc a).alloc b).heap.size = w.heap.size + 1 + 1 := (Array.size_push _).trans (by rw [s1])
 have s3 : (((w.alloc a).alloc b).alloc c).heap.size = w.heap.size + 1 + 1 + 1 := (Array.size_push _).trans (by rw [s2])
 have b3 : ∀ j, j < ((w.alloc a).alloc b).heap.size → (((w.alloc a).alloc b).alloc c).heap[j]? = ((w.alloc a).alloc b).heap[j]? := fun j hj => Below.heap_alloc _ _ _ hj
 have b2 : ∀ j, j < (w.alloc a).heap.size → ((w.alloc a).alloc b).heap[j]? = (w.alloc a).heap[j]? := fun j hj => Below.heap_alloc _ _ _ hj
 refine ⟨_, rfl, s3, ?_, ?_, rfl, (((Below.refl _ w).alloc (Nat.le_refl _) _).alloc (by omega) _).alloc (by omega) _⟩
 ·rw [b3 _ (by omega), b2 _ (by omega)]
 ·rw [b3 _ (by omega)]
def shiftF (p : List Rat) (x : Rat) (pre : List Nat) : List Rat := pre.foldl (fun s k => addR (p.getD (p.length - 1 - k) 0 :: s) (scaleR s x)) []
theorem shiftF_snoc (p : List Rat) (x : Rat) (pre : List Nat) (k : Nat) : shiftF p x (pre ++ [k]) = addR (p.getD (p.length - 1 - k) 0 :: shiftF p x pre) (scaleR (shiftF p x pre) x) := by simp [shiftF]
def shiftR (p : List Rat) (x : Rat) : List Rat := shiftF p x (dwn id p.length)
theorem addR_len (p q : List Rat) : (addR p q).length ≤ max p.length q.length := by
 unfold addR
 refine Nat.le_trans (trimR_len _) ?_
 rw [tab_length]
 exact Nat.le_refl _
theorem shiftF_len (p : List Rat) (x : Rat) (pre : List Nat) : (shiftF p x pre).length ≤ pre.length := by
 unfold shiftF
 have : ∀ (pre : List Nat) (s : List Rat), (pre.foldl (fun s k => addR (p.getD (p.length - 1 - k) 0 :: s) (scaleR s x)) s).length ≤ s.length + pre.length := by
  intro pre
  induction pre with
  | nil => intro s; exact Nat.le_refl _
  | cons k pre ih =>
   intro s
   rw [List.foldl_cons]
   refine Nat.le_trans (ih _) ?_
   have h1 := addR_len (p.getD (p.length - 1 - k) 0 :: s) (scaleR s x)
   have h2 := scaleR_len s x
   rw [List.length_cons] at h1 ⊢
   omega
 have := this pre []
 rw [List.length_nil] at this
 omega
def bdS (K Kx : Nat) : Nat → Nat
 | 0 => 1
 | n + 1 => max K (bdS K Kx n) + (bdS K Kx n + Kx) + 1
theorem bdS_pos {K Kx : Nat} : ∀ {n : Nat}, 1 ≤ bdS K Kx n
 | 0 => Nat.le_refl _
 | n + 1 => by rw [bdS]; omega
theorem sz_shiftF {p : List Rat} {x : Rat} {K Kx : Nat} (h1 : 1 ≤ K) (h2 : 1 ≤ Kx) (hp : szR p K = true) (hx : szR [x] Kx = true) (pre : List Nat) : szR (shiftF p x pre) (bdS K Kx pre.length) = true := by
 have : ∀ (n : Nat) (pre : List Nat), pre.length = n → szR (shiftF p x pre) (bdS K Kx n) = true := by
  intro n
  induction n with
  | zero =>
   intro pre h
   obtain rfl := List.eq_nil_of_length_eq_zero h
   rfl
  | succ n ih =>
   intro pre h
   obtain ⟨pre', k, rfl⟩ : ∃ pre' k, pre = pre' ++ [k] := ⟨pre.dropLast, pre.getLast (by intro e; rw [e] at h; cases h), (List.dropLast_concat_getLast _).symm⟩
   have hl : pre'.length = n := by simpa using h
   have hs := ih pre' hl
   rw [shiftF_snoc, bdS]
   exact sz_addR (Nat.le_trans h1 (Nat.le_max_left _ _)) (by have := bdS_pos (K := K) (Kx := Kx) (n := n); omega) (sz_cons (sz_less (Nat.le_max_left _ _) (sz_getD hp _)) (sz_lessL (Nat.le_max_right _ _) hs)) (sz_scaleR bdS_pos h2 hs hx)
 exact this _ pre rfl
theorem bdS_mono {K Kx i j : Nat} (h : i ≤ j) : bdS K Kx i ≤ bdS K Kx j := by
 induction h with
 | refl => exact Nat.le_refl _
 | step _ ih => rw [bdS]; omega
theorem pl_cons {a : Rat} {s : List Rat} {K j : Nat} : ∀ L ρ w v, (SA.d (Dm.gen (lstG (some 4) ([RT a K] ++ plV s j)))).is L ρ w v → (PL (a :: s) (max K j)).is L ρ w v := by
 have le : ∀ (a : Rat) (i j : Nat), i ≤ j → ∀ w v, (RT a i).at w v → (RT a j).at w v := fun a i j h w v ⟨s, t, h1, h2, h3, h4, h5⟩ => ⟨s, t, h1, h2, h3, Nat.le_trans h4 h, Nat.le_trans h5 h⟩
 refine lst_le (.cons (le a _ _ (Nat.le_max_left _ _)) ?_)
 induction s with
 | nil => exact .nil
 | cons b s ih => exact .cons (le b _ _ (Nat.le_max_right _ _)) ih
set_option maxRecDepth 100000 in
set_option maxHeartbeats 4000000 in
theorem PShift_con (p : List Rat) (x : Rat) (K Kx : Nat) (hp : p.length ≤ 100000) (hK : K ≤ 1000000) (hKx : Kx ≤ 1000000) (hK1 : 1 ≤ K) (hKx1 : 1 ≤ Kx) (hpz : szR p K = true) (hxz : szR [x] Kx = true) (hbd : bdS K Kx p.length ≤ 1000000) : Con Tryz.prog 33 [PL p K, RT x Kx] (.one (PL (shiftR p x) (bdS K Kx p.length))) := by
 intro L ρ w vs hlt hni _ hall
 match vs, hall with
 | [v0, v1], ⟨g0, g1, _⟩ =>
  obtain ⟨ao, cap, rfl, hcap, hlst⟩ := lst_open (by decide) g0
  rw [plV_length] at hcap hlst ⊢
  have hx := stab_is loc_rt g1
  obtain ⟨sx, tx, rfl, n1, n2, _, _⟩ := g1 w (Agree.refl _ _)
  have hx1s : ∀ c ∈ [Value.bool (decide (x.num < 0)), sx, .bool (decide (qd x < 0)), tx], c.oneCell' = true := by
   obtain ⟨_, _, rfl, _⟩ := n1
   obtain ⟨_, _, rfl, _⟩ := n2
   simp [Value.oneCell']
  generalize hcx : (decide (x.num < 0)) = bx at *
  generalize hcy : (decide (qd x < 0)) = bz at *
  -- the elements
  obtain ⟨b, off, cs, hao, hsh, hel⟩ : ∃ b off, ∃ cs : List Value, (0 < p.length → ao = some ⟨b, off, none⟩ ∧ b < w.heap.size) ∧ (∀ k, Shaped (some 4) (.agg #[el4 cs (p.length - 1 - k) 0, el4 cs (p.length - 1 - k) 1, el4 cs (p.length - 1 - k) 2, el4 cs (p.length - 1 - k) 3]) [el4 cs (p.length - 1 - k) 0, el4 cs (p.length - 1 - k) 1, el4 cs (p.length - 1 - k) 2, el4 cs (p.length - 1 - k) 3]) ∧ ∀ j, j < p.length → (w.cell? ⟨b, off + j * 4, none⟩ = some (el4 cs j 0) ∧ w.cell? ⟨b, off + j * 4 + 1, none⟩ = some (el4 cs j 1) ∧ w.cell? ⟨b, off + j * 4 + 2, none⟩ = some (el4 cs j 2) ∧ w.cell? ⟨b, off + j * 4 + 3, none⟩ = some (el4 cs j 3)) ∧ Stab L w (RT (p.getD j 0) K) (.agg #[el4 cs j 0, el4 cs j 1, el4 cs j 2, el4 cs j 3]) := by
   rcases Nat.eq_zero_or_pos p.length with h0 | h0
   ·exact ⟨0, 0, [.bool false, .slice none 0 0, .bool false, .slice none 0 0], fun h => by omega, fun k => by rw [show p.length - 1 - k = 0 by omega]; exact ⟨rfl, rfl, by simp [el4, Value.oneCell']⟩, fun j hj => by omega⟩
   ·obtain ⟨b, off, e, ⟨_, hb⟩, cs, hats, hcs⟩ := hlst h0
    refine ⟨b, off, cs, fun _ => ⟨e, hb⟩, fun k => (elem4 (hats w (Agree.refl _ _)) (plV_at (K := K) (by omega))).1.2, fun j hj => ?_⟩
    have h4 := elem4 (hats w (Agree.refl _ _)) (plV_at (K := K) hj)
    have hi : ∀ i, i < 4 → w.cell? ⟨b, off + j * 4 + i, none⟩ = some (el4 cs j i) := fun i hi => by
     rw [Nat.add_assoc]
     exact hcs _ _ (h4.2 i hi)
    exact ⟨⟨hi 0 (by decide), hi 1 (by decide), hi 2 (by decide), hi 3 (by decide)⟩, stab_of loc_rt fun w' hw => (elem4 (hats w' hw) (plV_at (K := K) hj)).1.1⟩
  refine (callsIn_wide (n := 9)).1 ?_
  refine callsIn_of_wp_marks Tryz.func33 rfl trivial ?_ rfl
  simp only [Tryz.ntmps33, List.size_toArray, List.length_cons, List.length_nil, Nat.reduceAdd, Nat.reduceSub, Array.replicate_succ, Array.replicate_zero, List.push_toArray, List.append_toArray, List.nil_append, List.cons_append]
  gi_wp2_with (refine ⟨trivial, ?_⟩; gi_at_call 76; refine (back_in Fence.wide _ trivial rfl _ _ _ _).mono ?_; rintro e w' ⟨rfl, rfl⟩)
  obtain ⟨w1, hw1, hs1, q3, q5, q6, hb1⟩ := alloc3 w (.cells #[.bool bx, sx, .bool bz, tx] 30) (.cells #[.slice none 0 0] 24) (.cells #[.slice ao p.length cap] 24)
  rw [alloc_at _ _ rfl] at q3
  rw [alloc_at _ _ (Array.size_push _)] at q5
  rw [alloc_at _ _ ((Array.size_push _).trans (congrArg (· + 1) (Array.size_push _)))] at q6
  rw [hw1]
  clear hw1
  have hB5 : w.heap.size + 1 < w1.heap.size := by omega
  have hBs : w1.cell? ⟨w.heap.size + 1 + 1, 0, none⟩ = some (.slice ao p.length cap) := by simp [World.cell?, q6]
  have hfold : ∀ k, ((#[10, 11] : Array Tmp).zip (bkE p.length (fun j => .agg #[el4 cs j 0, el4 cs j 1, el4 cs j 2, el4 cs j 3]) k)).foldl (fun t (p, v) => t.setIfInBounds p v) #[.slice ao p.length cap, .agg #[.bool bx, sx, .bool bz, tx], undef, .pointer (some ⟨w.heap.size, 0, none⟩), .slice none 0 0, .pointer (some ⟨w.heap.size + 1, 0, none⟩), undef, undef, .slice ao p.length cap, .func (.func 118) #[] #[.pointer (some ⟨w.heap.size + 1 + 1, 0, none⟩)], undef, undef, undef, undef, undef, undef, undef, undef, undef, undef, undef] = #[.slice ao p.length cap, .agg #[.bool bx, sx, .bool bz, tx], undef, .pointer (some ⟨w.heap.size, 0, none⟩), .slice none 0 0, .pointer (some ⟨w.heap.size + 1, 0, none⟩), undef, undef, .slice ao p.length cap, .func (.func 118) #[] #[.pointer (some ⟨w.heap.size + 1 + 1, 0, none⟩)], .int .i64 ((p.length - 1 - k : Nat) : Int), .agg #[el4 cs (p.length - 1 - k) 0, el4 cs (p.length - 1 - k) 1, el4 cs (p.length - 1 - k) 2, el4 cs (p.length - 1 - k) 3], undef, undef, undef, undef, undef, undef, undef, undef, undef] := by
   intro k
   simp [bkE]
  refine wpIn_rangeFunc_ownH (α := Nat) rfl (by decide) (gf := 118) (lb := #[.pointer (some ⟨w.heap.size + 1 + 1, 0, none⟩)]) rfl trivial (enters_of Tryz.func118 (by kernel_rfl) rfl)
   (back_stops (C := el4 cs) (B := w.heap.size + 1) (b := b) (off := off) (by decide) (fun h => (hao h).1) (by omega) hBs (by omega) (fun h => ⟨by have := (hao h).2; omega, fun j hj => by
    obtain ⟨⟨e0, e1, e2, e3⟩, _⟩ := hel j hj
    have hk := (kept_below (L := fun _ => False) hb1).2 b (fun q => q)
    exact ⟨hk _ _ e0, hk _ _ e1, hk _ _ e2, hk _ _ e3⟩⟩)) Kpt.trans (Kpt.put (Nat.le_refl _)) (Below.refl _ _) (fun _ => rfl)
   (fun pre W => Fold w w1 (orB L (w.heap.size + 1)) (w.heap.size + 1) none 24 (PL (shiftF p x pre) (bdS K Kx pre.length)) W)
   (fun _ _ _ => False) (Fold.own (f := fun pre => PL (shiftF p x pre) (bdS K Kx pre.length)) (by omega)) (fun _ _ _ _ _ hs _ _ => hs) ?start
   (fun k a' W => ∃ Bx, w1.heap.size ≤ Bx ∧ W.heap[Bx]? = some (.cells [el4 cs (p.length - 1 - k) 0, el4 cs (p.length - 1 - k) 1, el4 cs (p.length - 1 - k) 2, el4 cs (p.length - 1 - k) 3].toArray 30 (0, 0)) ∧ a' = Act.put { tmps := #[.slice ao p.length cap, .agg #[.bool bx, sx, .bool bz, tx], undef, .pointer (some ⟨w.heap.size, 0, none⟩), .slice none 0 0, .pointer (some ⟨w.heap.size + 1, 0, none⟩), undef, undef, .slice ao p.length cap, .func (.func 118) #[] #[.pointer (some ⟨w.heap.size + 1 + 1, 0, none⟩)], .int .i64 ((p.length - 1 - k : Nat) : Int), .agg #[el4 cs (p.length - 1 - k) 0, el4 cs (p.length - 1 - k) 1, el4 cs (p.length - 1 - k) 2, el4 cs (p.length - 1 - k) 3], undef, undef, undef, undef, undef, undef, undef, undef, undef], defers := [] } (some 7) (.pointer (some ⟨Bx, 0, none⟩))) ?hAx ?assign ?body ?done ?stop
  case start =>
   exact ⟨hb1, Nat.le_refl _, fun _ _ _ => rfl, .slice none 0 0, [.slice none 0 0], q5, ⟨rfl, rfl⟩, fun W' _ => ⟨none, 0, rfl, ⟨Nat.le_refl _, by decide⟩, fun h => absurd h (Nat.lt_irrefl 0)⟩, by simp [notInt]⟩
  case hAx =>
   rintro k a' _ W W' row ⟨Bx, h1, h2, h3⟩ hg hr
   refine ⟨Bx, h1, ?_, h3⟩
   rw [hg.block Bx (Array.getElem?_eq_some_iff.1 h2).1 (fun e => by
    obtain ⟨_, o', m2, m3⟩ := hr Bx e.symm
    rw [h2] at m2
    obtain rfl := Option.some.inj m2
    cases m3)]
   exact h2
  case assign =>
   intro l pre k W K' hi hK'
   show Code.wpIn _ _ _ _ _ (Act.mk (((#[10, 11] : Array Tmp).zip (bkE p.length (fun j => .agg #[el4 cs j 0, el4 cs j 1, el4 cs j 2, el4 cs j 3]) k)).foldl (fun t (p, v) => t.setIfInBounds p v) #[.slice ao p.length cap, .agg #[.bool bx, sx, .bool bz, tx], undef, .pointer (some ⟨w.heap.size, 0, none⟩), .slice none 0 0, .pointer (some ⟨w.heap.size + 1, 0, none⟩), undef, undef, .slice ao p.length cap, .func (.func 118) #[] #[.pointer (some ⟨w.heap.size + 1 + 1, 0, none⟩)], undef, undef, undef, undef, undef, undef, undef, undef, undef, undef, undef]) []) W
   rw [hfold k]
   exact assign_run (u7 := 7) (u11 := 11) (Nat.le_of_ble_eq_true rfl) (by decide) rfl (hsh k) rfl rfl rfl rfl rfl rfl fun W2 hb _ hcell => hK' _ W2 (keeps_below hb) (kpt_below hi.size hb) (hi.later hb) ⟨W.heap.size, hi.size, hcell, rfl⟩
  case stop =>
   rintro D c pre W _ _ h _
   exact h.elim
  case done =>
   intro D ys W hD hys hI hKD
   obtain rfl : ys = dwn id p.length := hys
   simp only [dwn_length] at hI
   obtain ⟨v, cs5, c1, c2, c3, c4⟩ := hI.var
   obtain ⟨a5, k5, hv, _⟩ := c3.at
   obtain ⟨n5, hv⟩ : ∃ n5, v = .slice a5 n5 k5 := ⟨_, hv⟩
   subst hv
   have hcs : cs5 = [.slice a5 n5 k5] := c2.1
   subst hcs
   have f0 : W.cell? ⟨w.heap.size + 1, 0, none⟩ = some (.slice a5 n5 k5) := by simp [World.cell?, c1]
   gi_wp2
   refine ⟨by simp, .inl ⟨_, _, rfl, run_takeDeferred hKD, ?_⟩⟩
   refine ⟨_, results_tmp rfl _ _ _, _, rfl, ?_, ?_⟩
   ·refine ⟨hI.below.os, hI.below.tape, hI.below.output, ?_, fun j hj => ?_⟩
    ·have h1 := hI.below.size
     simp
     omega
    ·rw [World.putObj_heap_other (by omega)]
     exact hI.below.block j hj
   ·show AV.is L ρ _ (AV.one (PL (shiftF p x (dwn id p.length)) (bdS K Kx p.length))) _
    refine at_is (s := PL (shiftF p x (dwn id p.length)) (bdS K Kx p.length)) (ρ := ρ) fun w'' hag => c3 w'' (CellsKept.trans (kept_grown (grownBy_putObj' W D (.deferred none)) (fun r e => by cases e; exact ⟨_, hKD, rfl⟩)) ?_)
    have := CellsKept.agree hag
    exact ⟨this.1, fun b hb => this.2 b fun q => hb (.inl q)⟩
  case body =>
   rintro l pre k a' W hl _ hi ⟨Bx, hx1, hx2, rfl⟩ hlen
   have hbW := hi.below.size
   obtain ⟨vc, csv, c1, c2, c3, c4⟩ := hi.var
   have hkl : p.length - 1 - k < p.length := by omega
   have hpre : bdS K Kx pre.length ≤ 1000000 := Nat.le_trans (bdS_mono (Nat.le_of_lt hlen)) hbd
   have hnew := sz_shiftF hK1 hKx1 hpz hxz (pre ++ [k])
   have hsl := shiftF_len p x pre
   have hsl2 := scaleR_len (shiftF p x pre) x
   have h3W : W.heap[w.heap.size]? = some (.cells [Value.bool bx, sx, .bool bz, tx].toArray 30 (0, 0)) := (hi.same _ (by omega) (by omega)).trans q3
   have hxp : (SA.d (Dm.gen (pG (some 4) (RT x Kx)))).is (orB L (w.heap.size + 1)) ρ W (.pointer (some ⟨w.heap.size, 0, none⟩)) := ptr_is h3W (by rintro (q | q); exact absurd (hlt _ q) (by omega); omega) ⟨rfl, rfl, hx1s⟩ (stab_later (by omega) hi.below hx)
   have hap : (SA.d (Dm.gen (pG (some 4) (RT (p.getD (p.length - 1 - k) 0) K)))).is (orB L (w.heap.size + 1)) ρ W (.pointer (some ⟨Bx, 0, none⟩)) := ptr_is hx2 (by rintro (q | q); exact absurd (hlt _ q) (by omega); omega) (hsh k) (stab_later (by omega) hi.below (hel _ hkl).2)
   have hBlW : w.heap.size + 1 < W.heap.size := by have := hi.size; omega
   refine wpIn_block (wpIn_mono (RV.wpIn (x0 := .no) (C := CS W (orB L (w.heap.size + 1)) (orB_lt hlt hbW hBlW) (orB_ni hlt hni hi) 21 (w.heap.size + 1) none (PL (shiftF p x (pre ++ [k])) (bdS K Kx (pre ++ [k]).length))) (K := fun l => lookD .no l FK = .dead)
    (l := [(.s 3, .av (.one (.d (Dm.gen (pG (some 4) (RT x Kx)))))), (.s 5, .av (.one (.v (.pointer (some ⟨w.heap.size + 1, 0, none⟩))))), (.s 7, .av (.one (.d (Dm.gen (pG (some 4) (RT (p.getD (p.length - 1 - k) 0) K))))))]) (fun a w h => CS.drew rfl h) (by kernel_rfl) (fun _ => by kernel_rfl) (by kernel_rfl) ?walk ?begin) ?after)
   case begin =>
    refine .inl ⟨rfl, ρ, conc_start (Eq.refl 21) rfl (fun i => rfl) fun t => ?_⟩
    by_cases e3 : t = 3
    ·subst e3; exact .inr ⟨_, rfl, rfl, hxp⟩
    ·by_cases e5 : t = 5
     ·subst e5; exact .inr ⟨_, rfl, rfl, rfl⟩
     ·by_cases e7 : t = 7
      ·subst e7; exact .inr ⟨_, rfl, rfl, hap⟩
      ·refine .inl ?_
       show (bif Key.beq (.s 3) (.s t) then _ else bif Key.beq (.s 5) (.s t) then _ else bif Key.beq (.s 7) (.s t) then _ else _) = _
       rw [Key.beq_ne (by simpa using Ne.symm e3), Key.beq_ne (by simpa using Ne.symm e5), Key.beq_ne (by simpa using Ne.symm e7)]
       rfl
   case walk =>
    rw [shiftF_snoc] at hnew ⊢
    refine RV.step1 (OpOk.flag (ok_loadP ty_rat (by decide) rfl rfl (by decide) rfl) rfl rfl rfl) ?_
    refine RV.step2 (OpOk.flag (ok_litR (r := 113) (k := some 4) u_poly zs_rat rfl rfl rfl (by intro s hs; obtain rfl := List.mem_singleton.1 hs; rfl) (by intro s hs; obtain rfl := List.mem_singleton.1 hs; rfl) rfl rfl rfl (by decide) (.cons rfl Conv.any .nil) rfl rfl) rfl rfl rfl) ?_
    refine RV.step1 (OpOk.flag (ok_loadV c1 c2 c3 rfl ty_poly rfl rfl (by decide) rfl) rfl rfl rfl) ?_
    refine RV.step3 (OpOk.flag (ok_appendD (r := 113) (r' := 115) (k := some 4) (G := Dm.gen (lstG (some 4) ([RT (p.getD (p.length - 1 - k) 0) K] ++ plV (shiftF p x pre) (bdS K Kx pre.length)))) (fun _ h => h) (lst_elems (by decide) plV_ptrs) (lstG_Lst _ _) (lstG_Lst0 _ _) (by rw [plV_length]; show (1 + _) * 64 ≤ _; omega) (by rw [plV_length]; show 1 + _ ≤ _; omega) u_poly inf_rat rfl rfl rfl plV_plain rfl rfl rfl (by decide) rfl rfl rfl rfl rfl rfl rfl rfl) rfl rfl rfl) ?_
    refine RV.step1 (OpOk.flag (ok_loadV c1 c2 c3 rfl ty_poly rfl rfl (by decide) rfl) rfl rfl rfl) ?_
    refine RV.step1 (OpOk.flag (ok_loadP ty_rat (by decide) rfl rfl (by decide) rfl) rfl rfl rfl) ?_
    refine RV.step1 (OpOk.flag (ok_call (PScale_con (shiftF p x pre) x (bdS K Kx pre.length) Kx (by omega) (by omega) (by omega)) rfl rfl (by decide) Tryz.func27 rfl rfl (.cons rfl Conv.any (.cons rfl Conv.any .nil)) rfl rfl rfl) rfl rfl rfl) ?_
    refine RV.step1 (OpOk.flag (ok_call ((PAdd_con (p.getD (p.length - 1 - k) 0 :: shiftF p x pre) (scaleR (shiftF p x pre) x) (max K (bdS K Kx pre.length)) (3 * (bdS K Kx pre.length + Kx) + 20) (by omega) (by omega) (by rw [List.length_cons]; omega) (by omega)).mono (fun _ _ _ _ h => h) (pl_le1 hnew)) rfl rfl (by decide) Tryz.func21 rfl rfl (.cons rfl ⟨rfl, pl_cons⟩ (.cons rfl Conv.any .nil)) rfl rfl rfl) rfl rfl rfl) ?_
    refine RV.step1 (step_storeV c1 c2.length loc_pl rfl sz_polyv rfl rfl rfl rfl rfl rfl) ?_
    exact RV.drawn (by kernel_rfl) rfl
   case after =>
    intro e a'' W'' he
    cases e with
    | normal =>
     obtain ⟨l', h1, h2⟩ := he
     rcases h2 with ⟨h3, _⟩ | ⟨_, h3⟩
     ·rw [h1] at h3; cases h3
     ·exact fold_next (by omega) (Nat.le_refl _) hi rfl h3
    | ret => exact he.elim
    | exit id => exact he.elim
    | goto t => exact he.elim
    | panic c => exact he.elim
    | outgrown => exact he.elim
end Vc
end Go.Proofs.YtcblbepaigdlgaaGreat

namespace Go.Proofs.YtcblbepaigdlgaaGreat
open Go.RowKit
open Go.Lib (hid)
open Dg Zn
namespace Vc
set_option maxRecDepth 100000
theorem ziV_kinds {k : IntKind} {zs : List Int} : ∀ s ∈ ziV k zs, s.kind = some none := by
 intro s hs
 obtain ⟨z, _, rfl⟩ := List.mem_map.1 hs
 rfl
theorem small_zs (zs : List Int) (h : (zs.all fun z => decide (-9223372036854775808 ≤ z) && decide (z ≤ 9223372036854775807)) = true) (i : Nat) : -9223372036854775808 ≤ zs.getD i 0 ∧ zs.getD i 0 ≤ 9223372036854775807 := by
 rcases Nat.lt_or_ge i zs.length with hl | hl
 ·have := List.all_eq_true.1 h zs[i] (List.getElem_mem hl)
  rw [Bool.and_eq_true] at this
  rw [List.getD_eq_getElem?_getD, List.getElem?_eq_getElem hl]
  exact ⟨of_decide_eq_true this.1, of_decide_eq_true this.2⟩
 ·rw [List.getD_eq_getElem?_getD, List.getElem?_eq_none hl]
  exact ⟨by decide, by decide⟩
theorem ofT (zs : List Int) (l : List Rat) (h : ofR zs = l) (hz : ∀ i, -9223372036854775808 ≤ zs.getD i 0 ∧ zs.getD i 0 ≤ 9223372036854775807) (hl : zs.length ≤ 1000000) : Con Tryz.prog 60 [ZI .i64 zs] (.one (PL l 6)) := h ▸ of6_con zs hz hl
theorem isT (p : List Rat) (K : Nat) (zs : List Int) (h : p = ofR zs) (hp : p.length ≤ 1000000) (hz : ∀ i, -9223372036854775808 ≤ zs.getD i 0 ∧ zs.getD i 0 ≤ 9223372036854775807) (hl : zs.length ≤ 1000000) : Con Tryz.prog 44 [PL p K, ZI .i64 zs] (.one (.v (.bool true))) := by
 have := is6_con p K zs hp hz hl
 rw [decide_eq_true h] at this
 exact this
theorem rfSameT {a b : Rat} (h : a = b) {j k : Nat} : Con Tryz.prog 28 [RT a j, RT b k] (.one (.v (.bool true))) := by
 have := rfSame_con a b j k
 rw [decide_eq_true h] at this
 exact this
theorem PValidT (p : List Rat) (K : Nat) (hK : K ≤ 1000000) (hp : p.length ≤ 1000000) (h : ¬ (p ≠ [] ∧ lastR p = 0)) : Con Tryz.prog 15 [PL p K] (.one (.v (.bool true))) := by
 have := PValid_con p K hK hp
 rw [decide_eq_true h] at this
 exact this
theorem PMulT (p q r : List Rat) (hq0 : 0 < q.length) (hp : p.length ≤ 100000) (hq : q.length ≤ 100000) (M : Nat) (hM : min p.length q.length ≤ M) (hb : bndS (3 * (6 + 6) + 20) M ≤ 10000000) (hs : szR (tab (mulF p q) (p.length + q.length - 1)) 6 = true) (h : mulR p q = r) : Con Tryz.prog 25 [PL p 6, PL q 6] (.one (PL r 6)) := h ▸ PMul_con p q 6 M 6 hq0 hp hq (by decide) hM hb hs
theorem lives6_con : Con (D := Dm) Tryz.prog 17 [] (.one (.v (.bool true))) := by
 refine Con.of (n := 92) Tryz.func17 rfl rfl rfl rfl rfl fun cx hfr => ?_
 refine sr rfl ?_
 refine xn ?_
 refine RV.done (sr rfl ?_)
 refine p1 (ok_litD (G := Dm.gen (lstG none (ziV .i64 [-1, 0, 1]))) (ss := ziV .i64 [-1, 0, 1]) (lstG_Lst none _) u_ints zs_i64 rfl rfl rfl ziV_kinds rfl rfl rfl bd (.cons rfl Conv.any (xb rfl rfl))) ?_
 refine xd rfl (ofT [-1, 0, 1] [-1, 0, 1] (by decide +kernel) (by intro i; exact small_zs _ (by decide) i) (by decide)) Tryz.func60 (xa rfl) hfr ?_
 refine xn ?_
 refine RV.done (sr rfl ?_)
 refine p1 (ok_litD (G := Dm.gen (lstG none (ziV .i64 [-1, 1]))) (ss := ziV .i64 [-1, 1]) (lstG_Lst none _) u_ints zs_i64 rfl rfl rfl ziV_kinds rfl rfl rfl bd (xb rfl rfl)) ?_
 refine xd rfl (ofT [-1, 1] [-1, 1] (by decide +kernel) (by intro i; exact small_zs _ (by decide) i) (by decide)) Tryz.func60 (xa rfl) hfr ?_
 refine xn ?_
 refine RV.done (sr rfl ?_)
 refine xm ?_
 refine xm ?_
 refine xd rfl (PMulT [-1, 0, 1] [-1, 1] [1, -1, -1, 1] (by decide) (by decide) (by decide) 2 (by decide) (by decide) (by decide +kernel) (by decide +kernel)) Tryz.func25 (xb rfl rfl) hfr ?_
 refine xn ?_
 refine RV.done (sr rfl ?_)
 refine xm ?_
 refine xm ?_
 refine xd rfl (PDiv_con [-1, 0, 1] [-1, 1] 6 (U := [1, 1]) (R := []) (by decide) (by decide) (by decide) (by decide +kernel)) Tryz.func35 (xb rfl rfl) hfr ?_
 refine xm ?_
 refine p1 (ok_extract rfl rfl bd rfl rfl) ?_
 refine p1 (ok_extract rfl rfl bd rfl rfl) ?_
 refine xn ?_
 refine xn ?_
 refine RV.done (sr rfl ?_)
 refine xm ?_
 refine xm ?_
 refine xd rfl (PDiv_con [-1, 1] [-1, 0, 1] 6 (U := []) (R := [-1, 1]) (by decide) (by decide) (by decide) (by decide +kernel)) Tryz.func35 (xb rfl rfl) hfr ?_
 refine xm ?_
 refine p1 (ok_extract rfl rfl bd rfl rfl) ?_
 refine p1 (ok_extract rfl rfl bd rfl rfl) ?_
 refine xn ?_
 refine xn ?_
 refine RV.done (sr rfl ?_)
 refine xm ?_
 refine p1 (ok_litD (G := Dm.gen (lstG none (ziV .i64 [1, -1, -1, 1]))) (ss := ziV .i64 [1, -1, -1, 1]) (lstG_Lst none _) u_ints zs_i64 rfl rfl rfl ziV_kinds rfl rfl rfl bd (.cons rfl Conv.any (.cons rfl Conv.any (xb rfl rfl)))) ?_
 refine xd rfl (isT [1, -1, -1, 1] 6 [1, -1, -1, 1] (by decide +kernel) (by decide +kernel) (by intro i; exact small_zs _ (by decide) i) (by decide)) Tryz.func44 (xb rfl rfl) hfr ?_
 refine xm ?_
 refine RV.step1 (OpOk.yes (ok_move (.inl rfl) rfl bd rfl) rfl rfl rfl) ?_
 refine RV.step1 (OpOk.yes (ok_litD (G := Dm.gen (lstG none (ziV .i64 [1, 1]))) (ss := ziV .i64 [1, 1]) (lstG_Lst none _) u_ints zs_i64 rfl rfl rfl ziV_kinds rfl rfl rfl bd (xb rfl rfl)) rfl rfl rfl) ?_
 refine RV.step1 (OpOk.yes (ok_call (isT [1, 1] 6 [1, 1] (by decide +kernel) (by decide +kernel) (by intro i; exact small_zs _ (by decide) i) (by decide)) rfl rfl bd Tryz.func44 rfl rfl (xb rfl rfl) rfl hfr rfl) rfl rfl rfl) ?_
 refine p1 (ok_pickT rfl rfl bd rfl rfl rfl) ?_
 refine xm ?_
 refine RV.step1 (OpOk.yes (ok_move (.inl rfl) rfl bd rfl) rfl rfl rfl) ?_
 refine RV.step1 (OpOk.yes (ok_lenL plV_length u_poly rfl rfl bd rfl) rfl rfl rfl) ?_
 refine RV.step1 (OpOk.yes (ok_eqlT rfl rfl rfl bd rfl rfl) rfl rfl rfl) ?_
 refine p1 (ok_pickT rfl rfl bd rfl rfl rfl) ?_
 refine xm ?_
 refine RV.step1 (OpOk.yes (ok_move (.inl rfl) rfl bd rfl) rfl rfl rfl) ?_
 refine RV.step1 (OpOk.yes (ok_lenL plV_length u_poly rfl rfl bd rfl) rfl rfl rfl) ?_
 refine RV.step1 (OpOk.yes (ok_eqlT rfl rfl rfl bd rfl rfl) rfl rfl rfl) ?_
 refine p1 (ok_pickT rfl rfl bd rfl rfl rfl) ?_
 refine xm ?_
 refine RV.step1 (OpOk.yes (ok_move (.inl rfl) rfl bd rfl) rfl rfl rfl) ?_
 refine RV.step1 (OpOk.yes (ok_litD (G := Dm.gen (lstG none (ziV .i64 [-1, 1]))) (ss := ziV .i64 [-1, 1]) (lstG_Lst none _) u_ints zs_i64 rfl rfl rfl ziV_kinds rfl rfl rfl bd (xb rfl rfl)) rfl rfl rfl) ?_
 refine RV.step1 (OpOk.yes (ok_call (isT [-1, 1] 6 [-1, 1] (by decide +kernel) (by decide +kernel) (by intro i; exact small_zs _ (by decide) i) (by decide)) rfl rfl bd Tryz.func44 rfl rfl (xb rfl rfl) rfl hfr rfl) rfl rfl rfl) ?_
 refine p1 (ok_pickT rfl rfl bd rfl rfl rfl) ?_
 refine xn ?_
 refine RV.done (sr rfl ?_)
 refine xm ?_
 refine xm ?_
 refine xm ?_
 refine xd rfl (PMulT [-1, 1] [-1, 1] [1, -2, 1] (by decide) (by decide) (by decide) 2 (by decide) (by decide) (by decide +kernel) (by decide +kernel)) Tryz.func25 (xb rfl rfl) hfr ?_
 refine xd rfl (PGcd_con [-1, 0, 1] [1, -2, 1] [-1, 1] 6 (by decide) (by decide) (by decide) (by decide +kernel)) Tryz.func37 (xb rfl rfl) hfr ?_
 refine p1 (ok_litD (G := Dm.gen (lstG none (ziV .i64 [-1, 1]))) (ss := ziV .i64 [-1, 1]) (lstG_Lst none _) u_ints zs_i64 rfl rfl rfl ziV_kinds rfl rfl rfl bd (xb rfl rfl)) ?_
 refine xd rfl (isT [-1, 1] 6 [-1, 1] (by decide +kernel) (by decide +kernel) (by intro i; exact small_zs _ (by decide) i) (by decide)) Tryz.func44 (xb rfl rfl) hfr ?_
 refine xm ?_
 refine RV.step1 (OpOk.yes (ok_move (.inl rfl) rfl bd rfl) rfl rfl rfl) ?_
 refine RV.step1 (OpOk.yes (ok_call (PFree_con [1, -1, -1, 1] [-1, 0, 1] 6 (by decide) (by decide) (by decide +kernel)) rfl rfl bd Tryz.func39 rfl rfl (xa rfl) rfl hfr rfl) rfl rfl rfl) ?_
 refine RV.step1 (OpOk.yes (ok_litD (G := Dm.gen (lstG none (ziV .i64 [-1, 0, 1]))) (ss := ziV .i64 [-1, 0, 1]) (lstG_Lst none _) u_ints zs_i64 rfl rfl rfl ziV_kinds rfl rfl rfl bd (.cons rfl Conv.any (xb rfl rfl))) rfl rfl rfl) ?_
 refine RV.step1 (OpOk.yes (ok_call (isT [-1, 0, 1] 6 [-1, 0, 1] (by decide +kernel) (by decide +kernel) (by intro i; exact small_zs _ (by decide) i) (by decide)) rfl rfl bd Tryz.func44 rfl rfl (xb rfl rfl) rfl hfr rfl) rfl rfl rfl) ?_
 refine p1 (ok_pickT rfl rfl bd rfl rfl rfl) ?_
 refine xm ?_
 refine RV.step1 (OpOk.yes (ok_move (.inl rfl) rfl bd rfl) rfl rfl rfl) ?_
 refine RV.step1 (OpOk.yes (ok_call (rfOf_con 1 1 (by decide) (by decide) (by decide) (by decide)) rfl rfl bd Tryz.func20 rfl rfl (xb rfl rfl) rfl hfr rfl) rfl rfl rfl) ?_
 refine RV.step1 (OpOk.yes (ok_call (PShift_con [-1, 0, 1] (Rat.divInt 1 1) 6 6 (by decide) (by decide) (by decide) (by decide) (by decide) (by decide +kernel) (by decide +kernel) (by decide)) rfl rfl bd Tryz.func33 rfl rfl (xb rfl rfl) rfl hfr rfl) rfl rfl rfl) ?_
 refine RV.step1 (OpOk.yes (ok_litD (G := Dm.gen (lstG none (ziV .i64 [0, 2, 1]))) (ss := ziV .i64 [0, 2, 1]) (lstG_Lst none _) u_ints zs_i64 rfl rfl rfl ziV_kinds rfl rfl rfl bd (.cons rfl Conv.any (xb rfl rfl))) rfl rfl rfl) ?_
 refine RV.step1 (OpOk.yes (ok_call (isT (shiftR [-1, 0, 1] (Rat.divInt 1 1)) _ [0, 2, 1] (by decide +kernel) (by decide +kernel) (by intro i; exact small_zs _ (by decide) i) (by decide)) rfl rfl bd Tryz.func44 rfl rfl (xb rfl rfl) rfl hfr rfl) rfl rfl rfl) ?_
 refine p1 (ok_pickT rfl rfl bd rfl rfl rfl) ?_
 refine xn ?_
 refine RV.done (sr rfl ?_)
 refine xm ?_
 refine xm ?_
 refine RV.step1 (OpOk.yes (ok_move (.inl rfl) rfl bd rfl) rfl rfl rfl) ?_
 refine p1 (ok_pickT rfl rfl bd rfl rfl rfl) ?_
 refine xm ?_
 refine RV.step1 (OpOk.yes (ok_move (.inl rfl) rfl bd rfl) rfl rfl rfl) ?_
 refine RV.step1 (OpOk.yes (ok_call (rfOf_con 3 1 (by decide) (by decide) (by decide) (by decide)) rfl rfl bd Tryz.func20 rfl rfl (xb rfl rfl) rfl hfr rfl) rfl rfl rfl) ?_
 refine RV.step1 (OpOk.yes (ok_call (PEval_con [-1, 0, 1] (Rat.divInt 3 1) 6 6 (by decide) (by decide) (by decide) (by decide) (by decide) (by decide +kernel) (by decide +kernel) (by decide)) rfl rfl bd Tryz.func29 rfl rfl (xb rfl rfl) rfl hfr rfl) rfl rfl rfl) ?_
 refine RV.step1 (OpOk.yes (ok_call (rfOf_con 8 1 (by decide) (by decide) (by decide) (by decide)) rfl rfl bd Tryz.func20 rfl rfl (xb rfl rfl) rfl hfr rfl) rfl rfl rfl) ?_
 refine RV.step1 (OpOk.yes (ok_call (rfSameT (by decide +kernel)) rfl rfl bd Tryz.func28 rfl rfl (xb rfl rfl) rfl hfr rfl) rfl rfl rfl) ?_
 refine p1 (ok_pickT rfl rfl bd rfl rfl rfl) ?_
 refine xm ?_
 refine RV.step1 (OpOk.yes (ok_move (.inl rfl) rfl bd rfl) rfl rfl rfl) ?_
 refine RV.step1 (OpOk.yes (ok_call (Degree_con [-1, 0, 1] 6 (by decide)) rfl rfl bd Tryz.func14 rfl rfl (xa rfl) rfl hfr rfl) rfl rfl rfl) ?_
 refine RV.step1 (OpOk.yes (ok_eqlT rfl rfl rfl bd rfl rfl) rfl rfl rfl) ?_
 refine p1 (ok_pickT rfl rfl bd rfl rfl rfl) ?_
 refine xm ?_
 refine RV.step1 (OpOk.yes (ok_move (.inl rfl) rfl bd rfl) rfl rfl rfl) ?_
 refine RV.step1 (OpOk.yes (ok_call (PValidT [-1, 0, 1] 6 (by decide) (by decide) (by decide +kernel)) rfl rfl bd Tryz.func15 rfl rfl (xa rfl) rfl hfr rfl) rfl rfl rfl) ?_
 refine p1 (ok_pickT rfl rfl bd rfl rfl rfl) ?_
 refine xn ?_
 refine RV.done ?_
 refine CV.ret ?_
 exact fin1 rfl (.inr rfl) rfl is_rfl
theorem around_105 (z : Int) : 0 ≤ aroundI z 105 ∧ aroundI z 105 < 105 := by
 unfold aroundI
 exact ⟨Int.emod_nonneg _ (by decide), Int.emod_lt_of_pos _ (by decide)⟩
def smallR (z : Int) : Rat := Rat.divInt ((aroundI z 105).tmod 15 - 7) (1 + ((aroundI z 105).tdiv 15).tmod 4)
theorem small_facts (z : Int) : (0 ≤ (aroundI z 105).tmod 15 ∧ (aroundI z 105).tmod 15 < 15) ∧ (0 ≤ (aroundI z 105).tdiv 15 ∧ (aroundI z 105).tdiv 15 ≤ 7) ∧ (0 ≤ ((aroundI z 105).tdiv 15).tmod 4 ∧ ((aroundI z 105).tdiv 15).tmod 4 < 4) := by
 obtain ⟨h1, h2⟩ := around_105 z
 generalize aroundI z 105 = m at *
 have d0 : 0 ≤ m.tdiv 15 := Int.tdiv_nonneg h1 (by decide)
 refine ⟨⟨Int.tmod_nonneg _ h1, Int.tmod_lt_of_pos _ (by decide)⟩, ⟨d0, ?_⟩, ⟨Int.tmod_nonneg _ d0, Int.tmod_lt_of_pos _ (by decide)⟩⟩
 rw [Int.tdiv_eq_ediv_of_nonneg h1]
 omega
theorem small_sz (z : Int) : szR [smallR z] 1 = true := by
 obtain ⟨⟨a1, a2⟩, _, b1, b2⟩ := small_facts z
 have h := len_divIntP (p := (aroundI z 105).tmod 15 - 7) (q := 1 + ((aroundI z 105).tdiv 15).tmod 4) (k := 1) (by rw [len_lt]; omega) (by rw [len_lt]; omega)
 exact szR_mk h.1 h.2
theorem rSmall_con (z : Int) (h1 : -9223372036854775808 ≤ z) (h2 : z ≤ 9223372036854775807) : Con (D := Dm) Tryz.prog 18 [.v (.int .i64 z)] (.one (RT (smallR z) 1)) := by
 have hf := small_facts z
 refine Con.of (n := 14) Tryz.func18 rfl rfl rfl rfl rfl fun cx hfr => ?_
 refine sr rfl ?_
 refine p2 (ok_alloc (i := 0) rfl rfl bd zero_rat rfl rfl rfl rfl) ?_
 refine RV.done (sr rfl ?_)
 refine xm ?_
 refine xd rfl (Around_con z 105 h1 h2 (by decide) (by decide)) Tryz.func11 (xb rfl rfl) hfr ?_
 refine xn ?_
 refine RV.done (sr rfl ?_)
 refine xm ?_
 refine p1 (ok_rem (by decide) rfl rfl bd rfl rfl) ?_
 refine p1 (ok_sub (c := (aroundI z 105).tmod 15 - 7) (by rw [wrapI (by omega) (by omega)]) rfl rfl bd rfl rfl) ?_
 refine xm ?_
 refine p1 (ok_quo (c := (aroundI z 105).tdiv 15) (by decide) (wrapI (by omega) (by omega)) rfl rfl bd rfl rfl) ?_
 refine p1 (ok_rem (by decide) rfl rfl bd rfl rfl) ?_
 refine p1 (ok_add (c := 1 + ((aroundI z 105).tdiv 15).tmod 4) (by rw [wrapI (by omega) (by omega)]) rfl rfl bd rfl rfl) ?_
 refine xd rfl ((rfOf_con ((aroundI z 105).tmod 15 - 7) (1 + ((aroundI z 105).tdiv 15).tmod 4) (by omega) (by omega) (by omega) (by omega)).mono (fun _ _ _ _ h => h) (rt_le1 (small_sz z))) Tryz.func20 (xb rfl rfl) hfr ?_
 refine p1 (ok_store rfl rfl rfl rfl rfl rfl rfl (ty_rat).2 rfl rfl rfl rfl) ?_
 refine RV.done ?_
 refine CV.ret ?_
 exact fin1 rfl (.inr rfl) ⟨_, _, _, _, _, rfl, rfl, rfl, ty_rat⟩ is_rfl
theorem rows_le {k : Option Nat} {l l' : List (SA Dm)} (h : All2 (fun s s' : SA Dm => ∀ L ρ w v, s.is L ρ w v → s'.is L ρ w v) l l') : ∀ L ρ w cs, Chs L ρ w (rch k l) cs → Chs L ρ w (rch k l') cs := by
 induction h with
 | nil => intro L ρ w cs h; exact h
 | cons h1 _ ih =>
  rintro L ρ w cs ⟨p, r, v, e1, e2, e3, e4⟩
  exact ⟨p, r, v, e1, e2, h1 L ρ w v e3, ih L ρ w r e4⟩
theorem zero_rtP {B : Nat} : ∀ L ρ w v, (SA.v zeroRat : SA Dm).is L ρ w v → (RT 0 B).is L ρ w v := by
 intro L ρ w v hv w' _
 obtain rfl : v = zeroRat := hv
 have h0 : (dig (0 : Int).natAbs).length ≤ B := by rw [show (0 : Int).natAbs = 0 from rfl, dig_zero]; exact Nat.zero_le _
 exact ⟨_, _, rfl, Nums.nil (by decide), Nums.nil (by decide), h0, h0⟩
theorem le_zeros {T : TypeId} {n B : Nat} {f : Nat → Nat} : (XV.row T (some 4) (List.replicate n (SA.v zeroRat)) : XV Dm).leR f (.row T (some 4) (plV (List.replicate n 0) B)) := by
 have h : All2 (fun s s' : SA Dm => ∀ L ρ w v, s.is L ρ w v → s'.is L ρ w v) (List.replicate n (SA.v zeroRat)) (plV (List.replicate n 0) B) := by
  unfold plV
  rw [List.map_replicate]
  induction n with
  | zero => exact .nil
  | succ n ih => rw [List.replicate_succ, List.replicate_succ]; exact .cons zero_rtP ih
 exact ⟨rfl, rfl, h.length_eq, fun _ => plV_ptrs, rows_le h⟩
theorem plV_set {l : List Rat} {B i : Nat} {a : Rat} : (plV l B).set i (RT a B) = plV (l.set i a) B := by simp [plV, List.map_set]
def innR (p q : List Rat) (i : Nat) : Nat → List Rat → List Rat
 | 0, l => l
 | j + 1, l => (innR p q i j l).set (i + j) ((innR p q i j l).getD (i + j) 0 + p.getD i 0 * q.getD j 0)
def outR (p q : List Rat) : Nat → List Rat
 | 0 => List.replicate (p.length + q.length - 1) 0
 | i + 1 => innR p q i q.length (outR p q i)
def rmulR (p q : List Rat) : List Rat := if p = [] ∨ q = [] then [] else trimR (outR p q p.length)
theorem innR_len {p q : List Rat} {i : Nat} : ∀ {j : Nat} {l : List Rat}, (innR p q i j l).length = l.length
 | 0, _ => rfl
 | j + 1, l => by rw [innR, List.length_set, innR_len]
theorem outR_len {p q : List Rat} : ∀ {i : Nat}, (outR p q i).length = p.length + q.length - 1
 | 0 => List.length_replicate
 | i + 1 => by rw [outR, innR_len, outR_len]
theorem sz_set {l : List Rat} {B i : Nat} {a : Rat} (hl : szR l B = true) (ha : szR [a] B = true) : szR (l.set i a) B = true := szR_all fun b hb => by
 rcases List.mem_or_eq_of_mem_set hb with hb | rfl
 ·exact szR_el hl hb
 ·exact ha
theorem sz_innR {p q : List Rat} {K J : Nat} (h1 : 1 ≤ K) (h2 : 1 ≤ J) (hp : szR p K = true) (hq : szR q J = true) {i : Nat} : ∀ {j m : Nat} {l : List Rat}, 1 ≤ m → szR l m = true → szR (innR p q i j l) (m + j * (K + J + 1)) = true
 | 0, m, l, _, hl => sz_lessL (Nat.le_add_right _ _) hl
 | j + 1, m, l, hm, hl => by
  have ih := sz_innR h1 h2 hp hq (i := i) (j := j) hm hl
  rw [innR, Nat.succ_mul]
  refine sz_set (sz_lessL (by omega) ih) (sz_less ?_ (sz_add (by omega) (by omega) (sz_getD ih (i + j)) (sz_mul h1 h2 (sz_getD hp i) (sz_getD hq j))))
  omega
theorem sz_outR {p q : List Rat} {K J : Nat} (h1 : 1 ≤ K) (h2 : 1 ≤ J) (hp : szR p K = true) (hq : szR q J = true) : ∀ {i : Nat}, szR (outR p q i) (1 + i * (q.length * (K + J + 1))) = true
 | 0 => szR_all fun a ha => by rw [List.eq_of_mem_replicate ha]; exact sz_zero
 | i + 1 => by
  rw [outR, Nat.succ_mul, ← Nat.add_assoc]
  exact sz_innR h1 h2 hp hq (by omega) (sz_outR h1 h2 hp hq)
theorem rMul0_con (p q : List Rat) (K J B : Nat) (hp : p.length ≤ 1000000) (hq : q.length ≤ 1000000) (h : p = [] ∨ q = []) : Con Tryz.prog 26 [PL p K, PL q J] (.one (PL [] B)) := by
 refine Con.of (n := 58) Tryz.func26 rfl rfl rfl rfl rfl fun cx hfr => ?_
 refine sr rfl ?_
 refine xn ?_
 refine RV.done ?_
 refine CV.seq ?_
 refine sr rfl ?_
 refine xm ?_
 refine p1 (ok_lenL plV_length u_poly rfl rfl bd rfl) ?_
 refine p1 (ok_eql rfl rfl bd rfl rfl) ?_
 refine xm ?_
 refine RV.bool (fun h0 => ?_) (fun h0 => ?_)
 ·refine xk ?_
  refine xk ?_
  refine xk ?_
  refine p1 (ok_pickT rfl rfl bd rfl rfl rfl) ?_
  refine RV.done ?_
  refine CV.yes rfl ?_
  refine sr rfl ?_
  refine xn ?_
  refine RV.done ?_
  refine CV.ret ?_
  exact fin1 rfl (.inr rfl) rfl (fun L ρ w v h => nil_pl L ρ w v h)
 ·refine RV.step1 (OpOk.yes (ok_move (.inl rfl) rfl bd rfl) rfl rfl rfl) ?_
  refine RV.step1 (OpOk.yes (ok_lenL plV_length u_poly rfl rfl bd rfl) rfl rfl rfl) ?_
  refine RV.step1 (OpOk.yes (ok_eql rfl rfl bd rfl rfl) rfl rfl rfl) ?_
  refine p1 (ok_pickF rfl rfl bd rfl rfl rfl) ?_
  refine RV.done ?_
  refine CV.cond rfl (fun hc => ?_) (fun hc => False.elim (h.elim (fun e => by rw [e] at h0; simp at h0) (fun e => by rw [e] at hc; simp at hc)))
  refine sr rfl ?_
  refine xn ?_
  refine RV.done ?_
  refine CV.ret ?_
  exact fin1 rfl (.inr rfl) rfl (fun L ρ w v h => nil_pl L ρ w v h)
section
variable (p q : List Rat) (K J B : Nat) (hp : p.length ≤ 100000) (hq : q.length ≤ 100000) (hp0 : p ≠ []) (hq0 : q ≠ []) (hK : K ≤ 150000) (hJ : J ≤ 150000) (hB : B ≤ 1000000) (hz : ∀ i j, i < p.length → j ≤ q.length → szR (innR p q i j (outR p q i)) B = true)
include hp hq hp0 hq0 hK hJ hB hz
theorem rMulN_con : Con Tryz.prog 26 [PL p K, PL q J] (.one (PL (trimR (outR p q p.length)) B)) := by
 have hpl := List.length_pos_iff.2 hp0
 have hql := List.length_pos_iff.2 hq0
 refine Con.of (n := 58) Tryz.func26 rfl rfl rfl rfl rfl fun cx hfr => ?_
 refine sr rfl ?_
 refine xn ?_
 refine RV.done ?_
 refine CV.seq ?_
 refine sr rfl ?_
 refine xm ?_
 refine p1 (ok_lenL plV_length u_poly rfl rfl bd rfl) ?_
 refine p1 (ok_eql rfl rfl bd rfl rfl) ?_
 refine xm ?_
 refine RV.bool (fun hb => False.elim (by simp at hb; exact hp0 hb)) (fun hb => ?_)
 refine RV.step1 (OpOk.yes (ok_move (.inl rfl) rfl bd rfl) rfl rfl rfl) ?_
 refine RV.step1 (OpOk.yes (ok_lenL plV_length u_poly rfl rfl bd rfl) rfl rfl rfl) ?_
 refine RV.step1 (OpOk.yes (ok_eql rfl rfl bd rfl rfl) rfl rfl rfl) ?_
 refine p1 (ok_pickF rfl rfl bd rfl rfl rfl) ?_
 refine RV.done ?_
 refine CV.cond rfl (fun hc => False.elim (by simp at hc; exact hq0 hc)) (fun hc => ?_)
 refine CV.skip ?_
 refine sr rfl ?_
 refine xm ?_
 refine p1 (ok_lenL plV_length u_poly rfl rfl bd rfl) ?_
 refine xm ?_
 refine p1 (ok_lenL plV_length u_poly rfl rfl bd rfl) ?_
 refine p1 (ok_add (c := ((p.length + q.length : Nat) : Int)) (by rw [wrapI (by omega) (by omega)]; omega) rfl rfl bd rfl rfl) ?_
 refine p1 (ok_sub (c := ((p.length + q.length - 1 : Nat) : Int)) (by rw [wrapI (by omega) (by omega)]; omega) rfl rfl bd rfl rfl) ?_
 refine p2 (ok_make (r := 22) (Nat.le_refl _) (by omega) (by omega) u_rats inf_rat rfl rfl rfl rfl bd rfl rfl rfl rfl rfl) ?_
 refine xn ?_
 refine RV.done ?_
 refine CV.seq ?_
 refine sr rfl ?_
 refine xn ?_
 refine RV.done ?_
 refine CV.block ?_
 refine CV.loop (X := {i : Nat // i ≤ p.length}) (fun i => [(.s 6, .av (.one (.v (.int .i64 (i.1 : Int))))), (.s 5, .av (.one (.sl 22 (p.length + q.length - 1)))), (.b 22, .row 30 (some 4) (plV (outR p q i.1) B)), (.s 0, .av (.one (PL p K))), (.s 1, .av (.one (PL q J)))]) (fun i => p.length - i.1) ⟨0, Nat.zero_le _⟩ (Sub.mk ⟨XV.le_rfl _, XV.le_rfl _, le_zeros, XV.le_rfl _, XV.le_rfl _, trivial⟩ rfl rfl) (fun i => ?_)
 obtain ⟨i, hi⟩ := i
 simp only
 refine CV.seq ?_
 refine sr rfl ?_
 refine xm ?_
 refine xm ?_
 refine p1 (ok_lenL plV_length u_poly rfl rfl bd rfl) ?_
 refine p1 (ok_lss rfl rfl bd rfl rfl) ?_
 refine RV.done ?_
 refine CV.cond rfl (fun hc => ?_) (fun hc => ?_)
 ·have hlt : i < p.length := (by have := of_decide_eq_true hc; omega)
  refine CV.skip ?_
  refine CV.seq ?_
  refine CV.block ?_
  refine sr rfl ?_
  refine xn ?_
  refine RV.done ?_
  refine CV.block ?_
  refine CV.loop (X := {j : Nat // j ≤ q.length}) (fun j => [(.s 7, .av (.one (.v (.int .i64 (j.1 : Int))))), (.s 6, .av (.one (.v (.int .i64 (i : Int))))), (.s 5, .av (.one (.sl 22 (p.length + q.length - 1)))), (.b 22, .row 30 (some 4) (plV (innR p q i j.1 (outR p q i)) B)), (.s 0, .av (.one (PL p K))), (.s 1, .av (.one (PL q J)))]) (fun j => q.length - j.1) ⟨0, Nat.zero_le _⟩ (Sub.mk ⟨XV.le_rfl _, XV.le_rfl _, XV.le_rfl _, XV.le_rfl _, XV.le_rfl _, XV.le_rfl _, trivial⟩ rfl rfl) (fun j => ?_)
  obtain ⟨j, hj⟩ := j
  simp only
  refine CV.seq ?_
  refine sr rfl ?_
  refine xm ?_
  refine xm ?_
  refine p1 (ok_lenL plV_length u_poly rfl rfl bd rfl) ?_
  refine p1 (ok_lss rfl rfl bd rfl rfl) ?_
  refine RV.done ?_
  refine CV.cond rfl (fun hd => ?_) (fun hd => ?_)
  ·have hlj : j < q.length := (by have := of_decide_eq_true hd; omega)
   have hlen : (innR p q i j (outR p q i)).length = p.length + q.length - 1 := (by rw [innR_len, outR_len])
   have hnew := hz i (j + 1) hlt hlj
   have hel := sz_getD hnew (i + j)
   rw [innR, List.getD_eq_getElem?_getD, List.getElem?_set_self (by omega), Option.getD_some] at hel
   refine CV.skip ?_
   refine CV.seq ?_
   refine CV.block ?_
   refine CV.region rfl (fun _ => by kernel_rfl) ?_
   refine xm ?_
   refine xm ?_
   refine xm ?_
   refine p1 (ok_add (c := ((i + j : Nat) : Int)) (by rw [wrapI (by omega) (by omega)]; omega) rfl rfl bd rfl rfl) ?_
   refine xm ?_
   refine xm ?_
   refine xm ?_
   refine p1 (ok_add (c := ((i + j : Nat) : Int)) (by rw [wrapI (by omega) (by omega)]; omega) rfl rfl bd rfl rfl) ?_
   refine p1 (ok_idxR (i := i + j) (by omega) (by rw [plV_length]; omega) u_rats sz_rat rfl rfl bd rfl rfl rfl) ?_
   refine p1 (ok_loadR (i := i + j) (plV_at (by omega)) rfl ty_rat (by show 0 < 4; decide) rfl rfl bd rfl rfl) ?_
   refine xm ?_
   refine xm ?_
   refine p1 (ok_idxL (k := some 4) (i := i) (plV_at hlt) u_poly sz_rat (by decide) rfl rfl bd rfl rfl) ?_
   refine p1 (ok_loadP ty_rat (by decide) rfl rfl bd rfl) ?_
   refine xm ?_
   refine xm ?_
   refine p1 (ok_idxL (k := some 4) (i := j) (plV_at hlj) u_poly sz_rat (by decide) rfl rfl bd rfl rfl) ?_
   refine p1 (ok_loadP ty_rat (by decide) rfl rfl bd rfl) ?_
   refine xd rfl (rfMul_con _ _ _ _ (by omega) (by omega)) Tryz.func61 (xb rfl rfl) hfr ?_
   refine xd rfl ((rfAdd_con _ _ B (3 * (K + J) + 20) (by omega) (by omega)).mono (fun _ _ _ _ h => h) (rt_le1 hel)) Tryz.func66 (xb rfl rfl) hfr ?_
   refine p1 (ok_idxR (i := i + j) (by omega) (by rw [plV_length]; omega) u_rats sz_rat rfl rfl bd rfl rfl rfl) ?_
   refine p1 (ok_storeR (i := i + j) (by rw [plV_length]; omega) rfl (by show 0 < 4; decide) rfl rfl rfl rfl rfl rfl sz_rat (.inl rfl) rfl rfl) ?_
   refine RV.drawn (by kernel_rfl) ?_
   refine CV.region rfl (fun h => nomatch h) ?_
   refine xm ?_
   refine p1 (ok_add (c := ((j + 1 : Nat) : Int)) (by rw [wrapI (by omega) (by omega)]; omega) rfl rfl bd rfl rfl) ?_
   refine xn ?_
   refine RV.done ?_
   exact ⟨⟨j + 1, hlj⟩, Sub.mk ⟨XV.le_rfl _, XV.le_rfl _, XV.le_rfl _, XV.le_row plV_set, XV.le_rfl _, XV.le_rfl _, trivial⟩ rfl rfl, by show q.length - (j + 1) < q.length - j; omega⟩
  ·refine CV.exit ?_
   have hjq : j = q.length := (by have := of_decide_eq_false hd; omega)
   subst hjq
   refine CV.region rfl (fun h => nomatch h) ?_
   refine xm ?_
   refine p1 (ok_add (c := ((i + 1 : Nat) : Int)) (by rw [wrapI (by omega) (by omega)]; omega) rfl rfl bd rfl rfl) ?_
   refine xn ?_
   refine RV.done ?_
   exact ⟨⟨i + 1, hlt⟩, Sub.mk ⟨XV.le_rfl _, XV.le_rfl _, XV.le_row rfl, XV.le_rfl _, XV.le_rfl _, trivial⟩ rfl rfl, by show p.length - (i + 1) < p.length - i; omega⟩
 ·refine CV.exit ?_
  refine CV.seq ?_
  have hip : i = p.length := (by have := of_decide_eq_false hc; omega)
  subst hip
  refine CV.freeze (r := 22) (t := 5) (G := Dm.gen (lstG (some 4) (plV (outR p q p.length) B))) (cx.bw hfr) rfl rfl (by rw [plV_length, outR_len]) rfl rfl (lstG_Lst _ _) (lstG_Lst0 _ _) ?_
  refine CV.region rfl (fun h => nomatch h) ?_
  refine xm ?_
  refine xd rfl (rTrim_con _ _ (by rw [outR_len]; omega)) Tryz.func52 (xa rfl) hfr ?_
  refine xn ?_
  refine RV.done ?_
  refine CV.ret ?_
  exact fin1 rfl (.inr rfl) rfl is_rfl
end
theorem zi_ints {zs : List Int} (hz : ∀ z ∈ zs, -9223372036854775808 ≤ z ∧ z ≤ 9223372036854775807) : ∀ L ρ w v, (ZI .i64 zs).is L ρ w v → (SA.d (Dm.ints zs)).is L ρ w v := by
 intro L ρ w v h w' hw
 obtain ⟨ao, cap, e, hle, hc⟩ := h w' hw
 rw [ziV_length] at e hle hc
 refine ⟨hz, ao, cap, e, hle.1, hle.2, fun hl => ?_⟩
 obtain ⟨b, off, e2, cs, h3, h4⟩ := hc hl
 obtain rfl := ziV_ats' h3
 refine ⟨b, off, e2, fun i hi => h4 i _ ?_⟩
 rw [List.getElem?_map, List.getElem?_eq_getElem hi, List.getD_eq_getElem?_getD, List.getElem?_eq_getElem hi]
 rfl
theorem rmulR_len (p q : List Rat) : (rmulR p q).length ≤ p.length + q.length - 1 := by
 unfold rmulR
 split
 ·exact Nat.zero_le _
 ·refine Nat.le_trans (trimR_len _) ?_
  rw [outR_len]
  exact Nat.le_refl _
theorem sz_rmulR {p q : List Rat} {K J : Nat} (h1 : 1 ≤ K) (h2 : 1 ≤ J) (hp : szR p K = true) (hq : szR q J = true) : szR (rmulR p q) (1 + p.length * (q.length * (K + J + 1))) = true := by
 unfold rmulR
 split
 ·rfl
 ·exact sz_trim (sz_outR h1 h2 hp hq)
theorem rMulP_con (p q : List Rat) (K J B : Nat) (h1 : 1 ≤ K) (h2 : 1 ≤ J) (hzp : szR p K = true) (hzq : szR q J = true) (hp : p.length ≤ 100000) (hq : q.length ≤ 100000) (hK : K ≤ 100000) (hJ : J ≤ 100000) (hB : B ≤ 100000) (hle : 1 + (p.length + 1) * (q.length * (K + J + 1)) ≤ B) : Con Tryz.prog 26 [PL p K, PL q J] (.one (PL (rmulR p q) B)) := by
 by_cases h : p = [] ∨ q = []
 ·rw [rmulR, if_pos h]
  exact rMul0_con p q K J B (by omega) (by omega) h
 ·rw [rmulR, if_neg h]
  refine rMulN_con p q K J B hp hq (fun e => h (.inl e)) (fun e => h (.inr e)) (by omega) (by omega) (by omega) fun i j hi hj => ?_
  refine sz_lessL ?_ (sz_innR h1 h2 hzp hzq (by omega) (sz_outR h1 h2 hzp hzq))
  have e1 : i * (q.length * (K + J + 1)) + q.length * (K + J + 1) ≤ (p.length + 1) * (q.length * (K + J + 1)) := by
   rw [← Nat.succ_mul]
   exact Nat.mul_le_mul_right _ (by omega)
  have e2 := Nat.mul_le_mul_right (K + J + 1) hj
  omega
theorem sz_neg {a : Rat} {k : Nat} (h : szR [a] k = true) : szR [-a] k = true := by
 obtain ⟨h1, h2⟩ := szR_one h
 refine szR_mk ?_ h2
 rw [show (-a).num = -a.num from rfl]
 exact Vc.len_neg h1
theorem sz_oneR : szR [Rat.divInt 1 1] 1 = true := by decide +kernel
theorem sz3 (a b : Int) : szR [smallR a, smallR b, Rat.divInt 1 1] 1 = true := sz_cons (small_sz a) (sz_cons (small_sz b) sz_oneR)
theorem sz2 (a : Int) : szR [-(smallR a), Rat.divInt 1 1] 1 = true := sz_cons (sz_neg (small_sz a)) sz_oneR
def facR (zs : List Int) (i n : Nat) : List Rat := if (zs.getD i 0).tmod 7 = 3 ∧ i < 4 ∧ n < 4 then [smallR ((zs.getD i 0).tdiv 7), smallR ((zs.getD i 0).tdiv 3), Rat.divInt 1 1] else [-(smallR (zs.getD i 0)), Rat.divInt 1 1]
def polyB (zs : List Int) : Nat → List Rat
 | 0 => trimR [Rat.divInt (1 + atI zs 1 5) 1]
 | m + 1 => rmulR (polyB zs m) (trimR (facR zs (m + 2) (polyB zs m).length))
def polyA (zs : List Int) : List Rat := trimR (tab (fun i => smallR (zs.getD (i + 1) 0)) (min (zs.length - 1) 5))
def polyR (zs : List Int) : List Rat := if atI zs 0 3 = 0 then polyA zs else polyB zs (min (zs.length - 2) 3)
theorem polyA_sz (zs : List Int) : szR (polyA zs) 1 = true := sz_trim (sz_tabs fun _ _ => small_sz _)
theorem facR_sz (zs : List Int) (i n : Nat) : szR (facR zs i n) 1 = true := by
 unfold facR
 split
 ·exact sz3 _ _
 ·exact sz2 _
theorem facR_len (zs : List Int) (i n : Nat) : (facR zs i n).length ≤ 3 := by
 unfold facR
 split <;> simp
def kB : Nat → Nat
 | 0 => 1
 | m + 1 => 1 + (2 * m + 2) * (3 * (kB m + 2))
theorem kB_pos : ∀ {m : Nat}, 1 ≤ kB m
 | 0 => Nat.le_refl _
 | m + 1 => by rw [kB]; omega
theorem polyB_facts (zs : List Int) : ∀ m, (polyB zs m).length ≤ 2 * m + 1 ∧ szR (polyB zs m) (kB m) = true
 | 0 => by
  refine ⟨trimR_len _, sz_trim ?_⟩
  obtain ⟨h1, h2⟩ := atI_bd zs 1 5 (by decide)
  have h := len_divIntP (p := 1 + atI zs 1 5) (q := 1) (k := 1) (by rw [len_lt]; omega) (by rw [len_lt]; decide)
  exact szR_mk h.1 h.2
 | m + 1 => by
  obtain ⟨h1, h2⟩ := polyB_facts zs m
  have hl := trimR_len (facR zs (m + 2) (polyB zs m).length)
  have hl2 := facR_len zs (m + 2) (polyB zs m).length
  have hr := rmulR_len (polyB zs m) (trimR (facR zs (m + 2) (polyB zs m).length))
  refine ⟨by rw [polyB]; omega, sz_lessL ?_ (sz_rmulR kB_pos (Nat.le_refl 1) h2 (sz_trim (facR_sz zs (m + 2) (polyB zs m).length)))⟩
  rw [kB]
  have e1 : (polyB zs m).length * ((trimR (facR zs (m + 2) (polyB zs m).length)).length * (kB m + 1 + 1)) ≤ (2 * m + 2) * (3 * (kB m + 2)) := Nat.mul_le_mul (by omega) (Nat.mul_le_mul (by omega) (Nat.le_refl _))
  omega
theorem polyStep (zs : List Int) (m : Nat) (hm : m ≤ 2) : Con Tryz.prog 26 [PL (polyB zs m) (kB m), PL (trimR (facR zs (m + 2) (polyB zs m).length)) 1] (.one (PL (polyB zs (m + 1)) (kB (m + 1)))) := by
 obtain ⟨h1, h2⟩ := polyB_facts zs m
 have hk : kB m ≤ 253 := by
  match m, hm with
  | 0, _ => decide
  | 1, _ => decide
  | 2, _ => decide
 have hl := trimR_len (facR zs (m + 2) (polyB zs m).length)
 have hl2 := facR_len zs (m + 2) (polyB zs m).length
 have e1 : ((polyB zs m).length + 1) * ((trimR (facR zs (m + 2) (polyB zs m).length)).length * (kB m + 1 + 1)) ≤ (2 * m + 2) * (3 * (kB m + 2)) := Nat.mul_le_mul (by omega) (Nat.mul_le_mul (by omega) (Nat.le_refl _))
 have e2 : (2 * m + 2) * (3 * (kB m + 2)) ≤ 6 * (3 * 255) := Nat.mul_le_mul (by omega) (by omega)
 rw [polyB]
 refine rMulP_con _ _ (kB m) 1 (kB (m + 1)) kB_pos (Nat.le_refl _) h2 (sz_trim (facR_sz zs (m + 2) (polyB zs m).length)) (by omega) (by omega) (by omega) (by decide) (by rw [kB]; omega) (by rw [kB]; omega)
theorem tdiv7 {z : Int} (h1 : -9223372036854775808 ≤ z) (h2 : z ≤ 9223372036854775807) : -9223372036854775808 ≤ z.tdiv 7 ∧ z.tdiv 7 ≤ 9223372036854775807 := by
 rcases Int.le_total 0 z with h | h
 ·rw [Int.tdiv_eq_ediv_of_nonneg h]
  omega
 ·obtain ⟨y, rfl⟩ : ∃ y, z = -y := ⟨-z, by omega⟩
  rw [Int.neg_tdiv, Int.tdiv_eq_ediv_of_nonneg (by omega)]
  omega
theorem tdiv3 {z : Int} (h1 : -9223372036854775808 ≤ z) (h2 : z ≤ 9223372036854775807) : -9223372036854775808 ≤ z.tdiv 3 ∧ z.tdiv 3 ≤ 9223372036854775807 := by
 rcases Int.le_total 0 z with h | h
 ·rw [Int.tdiv_eq_ediv_of_nonneg h]
  omega
 ·obtain ⟨y, rfl⟩ : ∃ y, z = -y := ⟨-z, by omega⟩
  rw [Int.neg_tdiv, Int.tdiv_eq_ediv_of_nonneg (by omega)]
  omega
theorem kB_le {m : Nat} (h : m ≤ 3) : kB m ≤ 5000 := by
 match m, h with
 | 0, _ => decide
 | 1, _ => decide
 | 2, _ => decide
 | 3, _ => decide
section
variable (zs : List Int) (hz : ∀ z ∈ zs, -9223372036854775808 ≤ z ∧ z ≤ 9223372036854775807)
include hz
theorem zs_at (i : Nat) : -9223372036854775808 ≤ zs.getD i 0 ∧ zs.getD i 0 ≤ 9223372036854775807 := by
 rcases Nat.lt_or_ge i zs.length with h | h
 ·rw [List.getD_eq_getElem?_getD, List.getElem?_eq_getElem h]
  exact hz _ (List.getElem_mem h)
 ·rw [List.getD_eq_getElem?_getD, List.getElem?_eq_none h]
  exact ⟨by decide, by decide⟩
theorem rPoly_con : Con Tryz.prog 10 [ZI .i64 zs] (.one (PL (polyR zs) 5000)) := by
 have h03 := atI_bd zs 0 3 (by decide)
 have h15 := atI_bd zs 1 5 (by decide)
 refine Con.of (n := 89) Tryz.func10 rfl rfl rfl rfl rfl fun cx hfr => ?_
 refine sr rfl ?_
 refine xn ?_
 refine RV.done ?_
 refine CV.seq ?_
 refine sr rfl ?_
 refine xm ?_
 refine xd rfl (At_c zs 0 3 (by decide) (by decide)) Tryz.func51 (.cons rfl ⟨rfl, zi_ints hz⟩ (xb rfl rfl)) hfr ?_
 refine p1 (ok_eql rfl rfl bd rfl rfl) ?_
 refine RV.done ?_
 refine CV.cond rfl (fun h0 => ?_) (fun h0 => ?_)
 ·have e0 : atI zs 0 3 = 0 := beq_iff_eq.1 h0
  refine sr rfl ?_
  refine xn ?_
  refine RV.done ?_
  refine CV.seq ?_
  refine CV.seq ?_
  refine CV.nilrow 3 100 30 (some 4) rfl rfl rfl rfl ?_
  refine CV.region rfl (fun h => nomatch h) ?_
  refine xn ?_
  refine RV.done ?_
  refine CV.block ?_
  refine CV.loop (X := {k : Nat // k ≤ min (zs.length - 1) 5}) (fun k => [(.s 4, .av (.one (.v (.int .i64 ((k.1 + 1 : Nat) : Int))))), (.s 3, .av (.one (.sl 100 k.1))), (.b 100, .row 30 (some 4) (ratL (fun i => smallR (zs.getD (i + 1) 0)) 1 k.1)), (.s 0, .av (.one (ZI .i64 zs)))]) (fun k => zs.length - k.1) ⟨0, Nat.zero_le _⟩ (Sub.mk ⟨XV.le_rfl _, XV.le_rfl _, XV.le_row rfl, XV.le_rfl _, trivial⟩ rfl rfl) (fun k => ?_)
  obtain ⟨k, hk⟩ := k
  simp only
  refine CV.seq ?_
  refine sr rfl ?_
  refine xm ?_
  refine xm ?_
  refine p1 (ok_lenL (ziV_length _) u_ints rfl rfl bd rfl) ?_
  refine p1 (ok_lss rfl rfl bd rfl rfl) ?_
  refine xm ?_
  refine RV.bool (fun g1 => ?_) (fun g1 => ?_)
  ·refine RV.step1 (OpOk.yes (ok_move (.inl rfl) rfl bd rfl) rfl rfl rfl) ?_
   refine RV.step1 (OpOk.yes (ok_lss rfl rfl bd rfl rfl) rfl rfl rfl) ?_
   refine p1 (ok_pickT rfl rfl bd rfl rfl rfl) ?_
   refine RV.done ?_
   refine CV.cond rfl (fun hc => ?_) (fun hc => ?_)
   ·have hlt : k + 1 < zs.length := (by have := of_decide_eq_true g1; omega)
    have hlt6 : k < 5 := (by have := of_decide_eq_true hc; omega)
    refine CV.skip ?_
    refine CV.seq ?_
    refine CV.block ?_
    refine CV.region rfl (fun h => nomatch h) ?_
    refine xm ?_
    refine xm ?_
    refine xm ?_
    refine p1 (ok_idxL (k := none) (i := k + 1) (ziV_at hlt) u_ints sz_i64 (by decide) rfl rfl bd rfl rfl) ?_
    refine p1 (ok_loadP ty_i64 (by decide) rfl rfl bd rfl) ?_
    refine xc (rSmall_con _ (zs_at zs hz (k + 1)).1 (zs_at zs hz (k + 1)).2) Tryz.func18 (xa rfl) hfr ?_
    refine p1 (ok_litD (G := Dm.gen (lstG (some 4) [_])) (lstG_Lst _ _) u_rats zs_rat rfl rfl rfl (by intro s hs; obtain rfl := List.mem_singleton.1 hs; rfl) rfl rfl rfl bd (xa rfl)) ?_
    refine RV.step3 (OpOk.plain (ok_append (r := 100) (r' := 101) (lst_elems (by decide) rfl) (by rw [ratL_length]; show (k + 1) * 64 ≤ _; omega) (by rw [ratL_length]; show k + 1 ≤ _; omega) u_rats inf_rat rfl rfl rfl (by intro x hx; obtain rfl := List.mem_singleton.1 hx; rfl) ratL_length.symm rfl rfl bd rfl rfl rfl rfl rfl rfl rfl rfl) rfl) ?_
    refine xn ?_
    refine RV.done ?_
    refine CV.region rfl (fun h => nomatch h) ?_
    refine xm ?_
    refine p1 (ok_add (c := ((k + 1 + 1 : Nat) : Int)) (by rw [wrapI (by omega) (by omega)]; omega) rfl rfl bd rfl rfl) ?_
    refine xn ?_
    refine RV.done ?_
    exact ⟨⟨k + 1, by omega⟩, Sub.mkr (fun i => if i = 100 then 101 else i) ⟨XV.le_same, XV.le_sl rfl rfl, XV.le_row (ratL_succ (f := fun i => smallR (zs.getD (i + 1) 0))), XV.le_same, trivial⟩ rfl rfl rfl rfl, by show zs.length - (k + 1) < zs.length - k; omega⟩
   ·refine CV.exit ?_
    refine CV.seq ?_
    have hk1 : k = min (zs.length - 1) 5 := (by have h2 := of_decide_eq_false hc; omega)
    subst hk1
    rw [tab_ratL]
    refine CV.freeze (r := 100) (t := 3) (G := Dm.gen (lstG (some 4) (plV (tab (fun i => smallR (zs.getD (i + 1) 0)) (min (zs.length - 1) 5)) 1))) (cx.bw hfr) rfl rfl (by rw [plV_length, tab_length]) rfl rfl (lstG_Lst _ _) (lstG_Lst0 _ _) ?_
    refine CV.region rfl (fun h => nomatch h) ?_
    refine xm ?_
    refine xd rfl ((rTrim_con _ _ (by rw [tab_length]; omega)).mono (fun _ _ _ _ h => h) (pl_le1 (B := 5000) (sz_lessL (by decide) (polyA_sz zs)))) Tryz.func52 (xa rfl) hfr ?_
    refine xn ?_
    refine RV.done ?_
    refine CV.ret ?_
    exact fin1 rfl (.inr rfl) rfl (is_of (by rw [polyR, if_pos e0]; rfl))
  ·refine xk ?_
   refine xk ?_
   refine p1 (ok_pickF rfl rfl bd rfl rfl rfl) ?_
   refine RV.done ?_
   refine CV.no rfl ?_
   refine CV.exit ?_
   refine CV.seq ?_
   have hk1 : k = min (zs.length - 1) 5 := (by have h2 := of_decide_eq_false g1; omega)
   subst hk1
   rw [tab_ratL]
   refine CV.freeze (r := 100) (t := 3) (G := Dm.gen (lstG (some 4) (plV (tab (fun i => smallR (zs.getD (i + 1) 0)) (min (zs.length - 1) 5)) 1))) (cx.bw hfr) rfl rfl (by rw [plV_length, tab_length]) rfl rfl (lstG_Lst _ _) (lstG_Lst0 _ _) ?_
   refine CV.region rfl (fun h => nomatch h) ?_
   refine xm ?_
   refine xd rfl ((rTrim_con _ _ (by rw [tab_length]; omega)).mono (fun _ _ _ _ h => h) (pl_le1 (B := 5000) (sz_lessL (by decide) (polyA_sz zs)))) Tryz.func52 (xa rfl) hfr ?_
   refine xn ?_
   refine RV.done ?_
   refine CV.ret ?_
   exact fin1 rfl (.inr rfl) rfl (is_of (by rw [polyR, if_pos e0]; rfl))
 ·have e0 : ¬ atI zs 0 3 = 0 := beq_eq_false_iff_ne.1 h0
  refine CV.skip ?_
  refine sr rfl ?_
  refine xm ?_
  refine xd rfl (At_c zs 1 5 (by decide) (by decide)) Tryz.func51 (.cons rfl ⟨rfl, zi_ints hz⟩ (xb rfl rfl)) hfr ?_
  refine p1 (ok_add (c := 1 + atI zs 1 5) (by rw [wrapI (by omega) (by omega)]) rfl rfl bd rfl rfl) ?_
  refine xd rfl (rfOf_con (1 + atI zs 1 5) 1 (by omega) (by omega) (by decide) (by decide)) Tryz.func20 (xb rfl rfl) hfr ?_
  refine p1 (ok_litD (G := Dm.gen (lstG (some 4) (plV [Rat.divInt (1 + atI zs 1 5) 1] 6))) (ss := plV [Rat.divInt (1 + atI zs 1 5) 1] 6) (lstG_Lst _ _) u_rats zs_rat rfl rfl rfl plV_kind rfl rfl rfl bd (xa rfl)) ?_
  refine xc ((rTrim_con [Rat.divInt (1 + atI zs 1 5) 1] 6 (Nat.le_of_ble_eq_true rfl)).mono (fun _ _ _ _ h => h) (pl_le1 (polyB_facts zs 0).2)) Tryz.func52 (xa rfl) hfr ?_
  refine xn ?_
  refine RV.done ?_
  refine CV.seq ?_
  refine sr rfl ?_
  refine xn ?_
  refine RV.done ?_
  refine CV.block ?_
  refine CV.loop (X := {m : Nat // m ≤ min (zs.length - 2) 3}) (fun m => [(.s 6, .av (.one (.v (.int .i64 ((m.1 + 2 : Nat) : Int))))), (.s 5, .av (.one (PL (polyB zs m.1) (kB m.1)))), (.s 0, .av (.one (ZI .i64 zs)))]) (fun m => zs.length - m.1) ⟨0, Nat.zero_le _⟩ (Sub.mk ⟨XV.le_rfl _, XV.le_rfl _, XV.le_rfl _, trivial⟩ rfl rfl) (fun m => ?_)
  obtain ⟨m, hm⟩ := m
  simp only
  refine CV.seq ?_
  refine sr rfl ?_
  refine xm ?_
  refine xm ?_
  refine p1 (ok_lenL (ziV_length _) u_ints rfl rfl bd rfl) ?_
  refine p1 (ok_lss rfl rfl bd rfl rfl) ?_
  refine xm ?_
  refine RV.bool (fun g1 => ?_) (fun g1 => ?_)
  ·refine RV.step1 (OpOk.yes (ok_move (.inl rfl) rfl bd rfl) rfl rfl rfl) ?_
   refine RV.step1 (OpOk.yes (ok_lss rfl rfl bd rfl rfl) rfl rfl rfl) ?_
   refine p1 (ok_pickT rfl rfl bd rfl rfl rfl) ?_
   refine RV.done ?_
   refine CV.cond rfl (fun hc => ?_) (fun hc => ?_)
   ·have hlt : m + 2 < zs.length := (by have := of_decide_eq_true g1; omega)
    have hm3 : m < 3 := (by have := of_decide_eq_true hc; omega)
    have hzm := zs_at zs hz (m + 2)
    have hpf := polyB_facts zs m
    have hpf1 := polyB_facts zs (m + 1)
    have hk1 := kB_le (m := m) (by omega)
    have hk2 := kB_le (m := m + 1) (by omega)
    refine CV.skip ?_
    refine CV.seq ?_
    refine CV.block ?_
    refine sr rfl ?_
    refine xm ?_
    refine xm ?_
    refine p1 (ok_idxL (k := none) (i := m + 2) (ziV_at hlt) u_ints sz_i64 (by decide) rfl rfl bd rfl rfl) ?_
    refine p1 (ok_loadP ty_i64 (by decide) rfl rfl bd rfl) ?_
    refine xc (rSmall_con _ hzm.1 hzm.2) Tryz.func18 (xa rfl) hfr ?_
    refine xc (rfNeg_con _ _) Tryz.func53 (xa rfl) hfr ?_
    refine xd rfl ((rfOf_con 1 1 (by decide) (by decide) (by decide) (by decide)).mono (fun _ _ _ _ h => h) (rt_le1 sz_oneR)) Tryz.func20 (xb rfl rfl) hfr ?_
    refine p1 (ok_litD (G := Dm.gen (lstG (some 4) (plV [-(smallR (zs.getD (m + 2) 0)), Rat.divInt 1 1] 1))) (ss := plV [-(smallR (zs.getD (m + 2) 0)), Rat.divInt 1 1] 1) (lstG_Lst _ _) u_rats zs_rat rfl rfl rfl plV_kind rfl rfl rfl bd (xb rfl rfl)) ?_
    refine xn ?_
    refine RV.done ?_
    refine CV.seq ?_
    refine sr rfl ?_
    refine xm ?_
    refine xm ?_
    refine p1 (ok_idxL (k := none) (i := m + 2) (ziV_at hlt) u_ints sz_i64 (by decide) rfl rfl bd rfl rfl) ?_
    refine p1 (ok_loadP ty_i64 (by decide) rfl rfl bd rfl) ?_
    refine p1 (ok_rem (by decide) rfl rfl bd rfl rfl) ?_
    refine p1 (ok_eql rfl rfl bd rfl rfl) ?_
    refine xm ?_
    refine RV.bool (fun n1 => ?_) (fun n1 => ?_)
    ·refine RV.step1 (OpOk.yes (ok_move (.inl rfl) rfl bd rfl) rfl rfl rfl) ?_
     refine RV.step1 (OpOk.yes (ok_lss rfl rfl bd rfl rfl) rfl rfl rfl) ?_
     refine p1 (ok_pickT rfl rfl bd rfl rfl rfl) ?_
     refine xm ?_
     refine RV.bool (fun n2 => ?_) (fun n2 => ?_)
     ·refine RV.step1 (OpOk.yes (ok_move (.inl rfl) rfl bd rfl) rfl rfl rfl) ?_
      refine RV.step1 (OpOk.yes (ok_lenL plV_length u_poly rfl rfl bd rfl) rfl rfl rfl) ?_
      refine RV.step1 (OpOk.yes (ok_lss rfl rfl bd rfl rfl) rfl rfl rfl) ?_
      refine p1 (ok_pickT rfl rfl bd rfl rfl rfl) ?_
      refine RV.done ?_
      refine CV.cond rfl (fun n3 => ?_) (fun n3 => ?_)
      ·refine CV.region rfl (fun _ => by kernel_rfl) ?_
       refine xm ?_
       refine xm ?_
       refine p1 (ok_idxL (k := none) (i := m + 2) (ziV_at hlt) u_ints sz_i64 (by decide) rfl rfl bd rfl rfl) ?_
       refine p1 (ok_loadP ty_i64 (by decide) rfl rfl bd rfl) ?_
       refine p1 (ok_quo (c := (zs.getD (m + 2) 0).tdiv 7) (by decide) (wrapI (tdiv7 hzm.1 hzm.2).1 (tdiv7 hzm.1 hzm.2).2) rfl rfl bd rfl rfl) ?_
       refine xc (rSmall_con _ (tdiv7 hzm.1 hzm.2).1 (tdiv7 hzm.1 hzm.2).2) Tryz.func18 (xa rfl) hfr ?_
       refine xm ?_
       refine xm ?_
       refine p1 (ok_idxL (k := none) (i := m + 2) (ziV_at hlt) u_ints sz_i64 (by decide) rfl rfl bd rfl rfl) ?_
       refine p1 (ok_loadP ty_i64 (by decide) rfl rfl bd rfl) ?_
       refine p1 (ok_quo (c := (zs.getD (m + 2) 0).tdiv 3) (by decide) (wrapI (tdiv3 hzm.1 hzm.2).1 (tdiv3 hzm.1 hzm.2).2) rfl rfl bd rfl rfl) ?_
       refine xc (rSmall_con _ (tdiv3 hzm.1 hzm.2).1 (tdiv3 hzm.1 hzm.2).2) Tryz.func18 (xa rfl) hfr ?_
       refine xd rfl ((rfOf_con 1 1 (by decide) (by decide) (by decide) (by decide)).mono (fun _ _ _ _ h => h) (rt_le1 sz_oneR)) Tryz.func20 (xb rfl rfl) hfr ?_
       refine p1 (ok_litD (G := Dm.gen (lstG (some 4) (plV [smallR ((zs.getD (m + 2) 0).tdiv 7), smallR ((zs.getD (m + 2) 0).tdiv 3), Rat.divInt 1 1] 1))) (ss := plV [smallR ((zs.getD (m + 2) 0).tdiv 7), smallR ((zs.getD (m + 2) 0).tdiv 3), Rat.divInt 1 1] 1) (lstG_Lst _ _) u_rats zs_rat rfl rfl rfl plV_kind rfl rfl rfl bd (.cons rfl Conv.any (xb rfl rfl))) ?_
       refine xn ?_
       refine RV.drawn (by kernel_rfl) ?_
       have hf : facR zs (m + 2) (polyB zs m).length = [smallR ((zs.getD (m + 2) 0).tdiv 7), smallR ((zs.getD (m + 2) 0).tdiv 3), Rat.divInt 1 1] := (by unfold facR; rw [if_pos ⟨beq_iff_eq.1 n1, by have := of_decide_eq_true n2; omega, by have := of_decide_eq_true n3; omega⟩])
       rw [← hf]
       refine CV.region rfl (fun h => nomatch h) ?_
       refine xm ?_
       refine xm ?_
       refine xd rfl (rTrim_con (facR zs (m + 2) (polyB zs m).length) 1 (by have := facR_len zs (m + 2) (polyB zs m).length; omega)) Tryz.func52 (xa rfl) hfr ?_
       refine xd rfl (polyStep zs m (by omega)) Tryz.func26 (xb rfl rfl) hfr ?_
       refine xn ?_
       refine RV.done ?_
       refine CV.region rfl (fun h => nomatch h) ?_
       refine xm ?_
       refine p1 (ok_add (c := ((m + 1 + 2 : Nat) : Int)) (by rw [wrapI (by omega) (by omega)]; omega) rfl rfl bd rfl rfl) ?_
       refine xn ?_
       refine RV.done ?_
       exact ⟨⟨m + 1, by omega⟩, Sub.mk ⟨XV.le_rfl _, XV.le_rfl _, XV.le_rfl _, trivial⟩ rfl rfl, by show zs.length - (m + 1) < zs.length - m; omega⟩
      ·refine CV.skip ?_
       have hf : facR zs (m + 2) (polyB zs m).length = [-(smallR (zs.getD (m + 2) 0)), Rat.divInt 1 1] := (by unfold facR; rw [if_neg (fun h => by have := of_decide_eq_false n3; omega)])
       rw [← hf]
       refine CV.region rfl (fun h => nomatch h) ?_
       refine xm ?_
       refine xm ?_
       refine xd rfl (rTrim_con (facR zs (m + 2) (polyB zs m).length) 1 (by have := facR_len zs (m + 2) (polyB zs m).length; omega)) Tryz.func52 (xa rfl) hfr ?_
       refine xd rfl (polyStep zs m (by omega)) Tryz.func26 (xb rfl rfl) hfr ?_
       refine xn ?_
       refine RV.done ?_
       refine CV.region rfl (fun h => nomatch h) ?_
       refine xm ?_
       refine p1 (ok_add (c := ((m + 1 + 2 : Nat) : Int)) (by rw [wrapI (by omega) (by omega)]; omega) rfl rfl bd rfl rfl) ?_
       refine xn ?_
       refine RV.done ?_
       exact ⟨⟨m + 1, by omega⟩, Sub.mk ⟨XV.le_rfl _, XV.le_rfl _, XV.le_rfl _, trivial⟩ rfl rfl, by show zs.length - (m + 1) < zs.length - m; omega⟩
     ·refine xk ?_
      refine xk ?_
      refine xk ?_
      refine p1 (ok_pickF rfl rfl bd rfl rfl rfl) ?_
      refine RV.done ?_
      refine CV.no rfl ?_
      refine CV.skip ?_
      have hf : facR zs (m + 2) (polyB zs m).length = [-(smallR (zs.getD (m + 2) 0)), Rat.divInt 1 1] := (by unfold facR; rw [if_neg (fun h => by have := of_decide_eq_false n2; omega)])
      rw [← hf]
      refine CV.region rfl (fun h => nomatch h) ?_
      refine xm ?_
      refine xm ?_
      refine xd rfl (rTrim_con (facR zs (m + 2) (polyB zs m).length) 1 (by have := facR_len zs (m + 2) (polyB zs m).length; omega)) Tryz.func52 (xa rfl) hfr ?_
      refine xd rfl (polyStep zs m (by omega)) Tryz.func26 (xb rfl rfl) hfr ?_
      refine xn ?_
      refine RV.done ?_
      refine CV.region rfl (fun h => nomatch h) ?_
      refine xm ?_
      refine p1 (ok_add (c := ((m + 1 + 2 : Nat) : Int)) (by rw [wrapI (by omega) (by omega)]; omega) rfl rfl bd rfl rfl) ?_
      refine xn ?_
      refine RV.done ?_
      exact ⟨⟨m + 1, by omega⟩, Sub.mk ⟨XV.le_rfl _, XV.le_rfl _, XV.le_rfl _, trivial⟩ rfl rfl, by show zs.length - (m + 1) < zs.length - m; omega⟩
    ·refine xk ?_
     refine xk ?_
     refine p1 (ok_pickF rfl rfl bd rfl rfl rfl) ?_
     refine xm ?_
     refine xk ?_
     refine xk ?_
     refine xk ?_
     refine p1 (ok_pickF rfl rfl bd rfl rfl rfl) ?_
     refine RV.done ?_
     refine CV.no rfl ?_
     refine CV.skip ?_
     have hf : facR zs (m + 2) (polyB zs m).length = [-(smallR (zs.getD (m + 2) 0)), Rat.divInt 1 1] := (by unfold facR; rw [if_neg (fun h => by rw [beq_eq_false_iff_ne] at n1; exact n1 h.1)])
     rw [← hf]
     refine CV.region rfl (fun h => nomatch h) ?_
     refine xm ?_
     refine xm ?_
     refine xd rfl (rTrim_con (facR zs (m + 2) (polyB zs m).length) 1 (by have := facR_len zs (m + 2) (polyB zs m).length; omega)) Tryz.func52 (xa rfl) hfr ?_
     refine xd rfl (polyStep zs m (by omega)) Tryz.func26 (xb rfl rfl) hfr ?_
     refine xn ?_
     refine RV.done ?_
     refine CV.region rfl (fun h => nomatch h) ?_
     refine xm ?_
     refine p1 (ok_add (c := ((m + 1 + 2 : Nat) : Int)) (by rw [wrapI (by omega) (by omega)]; omega) rfl rfl bd rfl rfl) ?_
     refine xn ?_
     refine RV.done ?_
     exact ⟨⟨m + 1, by omega⟩, Sub.mk ⟨XV.le_rfl _, XV.le_rfl _, XV.le_rfl _, trivial⟩ rfl rfl, by show zs.length - (m + 1) < zs.length - m; omega⟩
   ·refine CV.exit ?_
    refine CV.seq ?_
    have hmm : m = min (zs.length - 2) 3 := (by have h2 := of_decide_eq_false hc; omega)
    refine CV.region rfl (fun h => nomatch h) ?_
    refine xm ?_
    refine xn ?_
    refine RV.done ?_
    refine CV.ret ?_
    exact fin1 rfl (.inr rfl) rfl (by rw [polyR, if_neg e0, ← hmm]; exact pl_le1 (sz_lessL (kB_le (by omega)) (polyB_facts zs m).2))
  ·refine xk ?_
   refine xk ?_
   refine p1 (ok_pickF rfl rfl bd rfl rfl rfl) ?_
   refine RV.done ?_
   refine CV.no rfl ?_
   refine CV.exit ?_
   refine CV.seq ?_
   have hmm : m = min (zs.length - 2) 3 := (by have h2 := of_decide_eq_false g1; omega)
   refine CV.region rfl (fun h => nomatch h) ?_
   refine xm ?_
   refine xn ?_
   refine RV.done ?_
   refine CV.ret ?_
   exact fin1 rfl (.inr rfl) rfl (by rw [polyR, if_neg e0, ← hmm]; exact pl_le1 (sz_lessL (kB_le (by omega)) (polyB_facts zs m).2))
end
theorem trimR_idem (l : List Rat) : trimR (trimR l) = trimR l := by
 rcases trimR_last l with h | h
 ·rw [h]; rfl
 ·generalize trimR l = m at *
  by_cases hm : m = []
  ·rw [hm]; rfl
  ·obtain ⟨m', a, rfl⟩ : ∃ m' a, m = m' ++ [a] := ⟨m.dropLast, m.getLast hm, (List.dropLast_concat_getLast _).symm⟩
   have ha : a ≠ 0 := by simpa using h
   rw [trimR_snoc, if_neg ha]
theorem rmulR_trim (p q : List Rat) : trimR (rmulR p q) = rmulR p q := by
 unfold rmulR
 split
 ·rfl
 ·exact trimR_idem _
theorem polyR_trim (zs : List Int) : trimR (polyR zs) = polyR zs := by
 unfold polyR
 split
 ·exact trimR_idem _
 ·cases h : min (zs.length - 2) 3 with
  | zero => exact trimR_idem _
  | succ m => exact rmulR_trim _ _
theorem rfValidT (a : Rat) (k : Nat) (hk : k ≤ 10000000) : Con Tryz.prog 58 [RT a k] (.one (.v (.bool true))) := by
 have h := rfValidG_con a.num (qd a) k hk
 rw [decide_eq_true] at h
 ·exact h
 ·unfold qd
  have h1 := a.den_nz
  have h2 := a.reduced
  split
  ·exact .inl rfl
  ·rename_i hd
   refine .inr ⟨by omega, by omega, ?_⟩
   rw [Int.gcd, Int.natAbs_natCast]
   exact h2
theorem rValidP_con (p : List Rat) (K : Nat) (hK : K ≤ 1000000) (hp : p.length ≤ 1000000) : Con Tryz.prog 16 [PL p K] (.one (.v (.bool (decide (¬ (p ≠ [] ∧ lastR p = 0)))))) := by
 refine Con.of (n := 30) Tryz.func16 rfl rfl rfl rfl rfl fun cx hfr => ?_
 refine sr rfl ?_
 refine xn ?_
 refine RV.done ?_
 refine CV.seq ?_
 refine sr rfl ?_
 refine xn ?_
 refine RV.done ?_
 refine CV.block ?_
 refine CV.loop (X := {k : Nat // k ≤ p.length}) (fun k => [(.s 3, .av (.one (.v (.int .i64 (k.1 : Int))))), (.s 0, .av (.one (PL p K)))]) (fun k => p.length - k.1) ⟨0, Nat.zero_le _⟩ (Sub.mk ⟨XV.le_rfl _, XV.le_rfl _, trivial⟩ rfl rfl) (fun k => ?_)
 obtain ⟨k, hk⟩ := k
 simp only
 refine CV.seq ?_
 refine sr rfl ?_
 refine xm ?_
 refine xm ?_
 refine p1 (ok_lenL plV_length u_poly rfl rfl bd rfl) ?_
 refine p1 (ok_lss rfl rfl bd rfl rfl) ?_
 refine RV.done ?_
 refine CV.cond rfl (fun hc => ?_) (fun hc => ?_)
 ·have hlt : k < p.length := (by have := of_decide_eq_true hc; omega)
  refine CV.skip ?_
  refine CV.seq ?_
  refine CV.block ?_
  refine sr rfl ?_
  refine xm ?_
  refine xm ?_
  refine p1 (ok_idxL (k := some 4) (i := k) (plV_at hlt) u_poly sz_rat (by decide) rfl rfl bd rfl rfl) ?_
  refine p1 (ok_loadP ty_rat (by decide) rfl rfl bd rfl) ?_
  refine xd rfl (rfValidT _ _ (by omega)) Tryz.func58 (xa rfl) hfr ?_
  refine p1 (ok_not rfl rfl bd rfl) ?_
  refine RV.done ?_
  refine CV.no rfl ?_
  refine CV.skip ?_
  refine CV.region rfl (fun h => nomatch h) ?_
  refine xm ?_
  refine p1 (ok_add (c := ((k + 1 : Nat) : Int)) (by rw [wrapI (by omega) (by omega)]; omega) rfl rfl bd rfl rfl) ?_
  refine xn ?_
  refine RV.done ?_
  exact ⟨⟨k + 1, hlt⟩, Sub.mk ⟨XV.le_rfl _, XV.le_rfl _, trivial⟩ rfl rfl, by show p.length - (k + 1) < p.length - k; omega⟩
 ·refine CV.exit ?_
  refine sr rfl ?_
  refine xm ?_
  refine p1 (ok_lenL plV_length u_poly rfl rfl bd rfl) ?_
  refine p1 (ok_eql rfl rfl bd rfl rfl) ?_
  refine xm ?_
  refine RV.bool (fun h0 => ?_) (fun h0 => ?_)
  ·refine xk ?_
   refine xk ?_
   refine xk ?_
   refine xk ?_
   refine xk ?_
   refine xk ?_
   refine xk ?_
   refine xk ?_
   refine xk ?_
   refine p1 (ok_pickT rfl rfl bd rfl rfl rfl) ?_
   refine xn ?_
   refine RV.done ?_
   refine CV.ret ?_
   exact fin1 rfl (.inr rfl) rfl (is_bool (by symm; rw [decide_eq_true_eq]; rintro ⟨h1, _⟩; rw [beq_iff_eq] at h0; exact h1 (List.eq_nil_of_length_eq_zero (by omega))))
  ·have hpos : 0 < p.length := (by rw [beq_eq_false_iff_ne] at h0; omega)
   refine RV.step1 (OpOk.yes (ok_move (.inl rfl) rfl bd rfl) rfl rfl rfl) ?_
   refine RV.step1 (OpOk.yes (ok_move (.inl rfl) rfl bd rfl) rfl rfl rfl) ?_
   refine RV.step1 (OpOk.yes (ok_lenL plV_length u_poly rfl rfl bd rfl) rfl rfl rfl) ?_
   refine RV.step1 (OpOk.yes (ok_sub (c := ((p.length - 1 : Nat) : Int)) (by rw [wrapI (by omega) (by omega)]; omega) rfl rfl bd rfl rfl) rfl rfl rfl) ?_
   refine RV.step1 (OpOk.yes (ok_maxI (c := ((p.length - 1 : Nat) : Int)) (by split <;> omega) rfl rfl bd rfl rfl) rfl rfl rfl) ?_
   refine RV.step1 (OpOk.yes (ok_idxL (k := some 4) (i := p.length - 1) (plV_at (by omega)) u_poly sz_rat (by decide) rfl rfl bd rfl rfl) rfl rfl rfl) ?_
   refine RV.step1 (OpOk.yes (ok_loadP ty_rat (by decide) rfl rfl bd rfl) rfl rfl rfl) ?_
   refine RV.step1 (OpOk.yes (ok_call (rfSign_con _ _) rfl rfl bd Tryz.func59 rfl rfl (xa rfl) rfl hfr rfl) rfl rfl rfl) ?_
   refine RV.step1 (OpOk.yes (ok_neq rfl rfl bd rfl rfl) rfl rfl rfl) ?_
   refine p1 (ok_pickF rfl rfl bd rfl rfl rfl) ?_
   refine xn ?_
   refine RV.done ?_
   refine CV.ret ?_
   exact fin1 rfl (.inr rfl) rfl (is_bool (by rw [Bool.eq_iff_iff, bne_iff_ne, decide_eq_true_eq]; exact ⟨fun h1 h2 => h1 (cmp_zero.2 h2.2), fun h1 h2 => h1 ⟨List.length_pos_iff.1 hpos, cmp_zero.1 h2⟩⟩))
end Vc
end Go.Proofs.YtcblbepaigdlgaaGreat

namespace Go.Proofs.YtcblbepaigdlgaaGreat
open Go.RowKit
open Dg Zn
namespace Vc
section
variable {cx : Cx Dm} {n : Nat} {σ : St Dm} {o : Oper} {d : Nat} {x : Operand}
end
end Vc
end Go.Proofs.YtcblbepaigdlgaaGreat

namespace Go.Proofs.YtcblbepaigdlgaaGreat
open Go.RowKit
open Go.Lib (hid)
open Dg Zn
namespace Vc
def canB (p q : Int) : Bool := decide (q = 0 ∨ (0 ≤ q ∧ q ≠ 1 ∧ Int.gcd p q = 1))
section
variable (f g : Nat → Int) (K n m : Nat) (hK : K ≤ 1000000) (hn : n ≤ 1000000) (hm : m < n) (hbad : canB (f m) (g m) = false)
include hK hn hm hbad
end
theorem ints_ziP {zs : List Int} : ∀ L ρ w v, (SA.d (Dm.ints zs)).is L ρ w v → (ZI .i64 zs).is L ρ w v := by
 intro L ρ w v h w' hw
 obtain ⟨_, ao, cap, e, h1, h2, h3⟩ := h w' hw
 refine ⟨ao, cap, by rw [ziV_length]; exact e, by rw [ziV_length]; exact ⟨h1, h2⟩, fun hl => ?_⟩
 rw [ziV_length] at hl
 obtain ⟨b, off, e2, h4⟩ := h3 hl
 refine ⟨b, off, e2, _, ziV_ats, fun j u hj => ?_⟩
 obtain ⟨hj1, hj2⟩ := List.getElem?_eq_some_iff.1 hj
 rw [List.length_map] at hj1
 rw [h4 j hj1, ← hj2, List.getElem_map, List.getD_eq_getElem?_getD, List.getElem?_eq_getElem hj1]
 rfl
theorem rSamePT (p : List Rat) (K J : Nat) (hp : p.length ≤ 1000000) : Con Tryz.prog 13 [PL p K, PL p J] (.one (.v (.bool true))) := by
 have := rSameP_con p p K J hp hp
 rw [decide_eq_true rfl] at this
 exact this
section
variable (zs : List Int) (hz : ∀ z ∈ zs, -9223372036854775808 ≤ z ∧ z ≤ 9223372036854775807) (c : Int) (hc1 : -9223372036854775808 ≤ c) (hc2 : c ≤ 9223372036854775807)
include hz hc1 hc2
end
end Vc
end Go.Proofs.YtcblbepaigdlgaaGreat

namespace Go.Proofs.YtcblbepaigdlgaaGreat
open Go.RowKit
open Dg Zn
namespace Vc
def ev : List Rat → Rat → Rat
 | [], _ => 0
 | a :: l, x => a + x * ev l x
theorem trim_nil {l : List Rat} (h : trimR l = []) : ∀ k, l.getD k 0 = 0 := by
 induction l with
 | nil => intro k; rfl
 | cons a l ih =>
  rw [trimR] at h
  by_cases h1 : trimR l = []
  ·rw [if_pos h1] at h
   by_cases h0 : a = 0
   ·subst h0
    intro k
    cases k with
    | zero => rfl
    | succ k => exact ih h1 k
   ·rw [if_neg h0] at h; cases h
  ·rw [if_neg h1] at h; cases h
theorem trim_getD (l : List Rat) : ∀ k, (trimR l).getD k 0 = l.getD k 0 := by
 induction l with
 | nil => intro k; rfl
 | cons a l ih =>
  intro k
  rw [trimR]
  by_cases h1 : trimR l = []
  ·rw [if_pos h1]
   have := trim_nil h1
   cases k with
   | zero => split <;> simp_all
   | succ k => 
    have e := this k
    split
    ·simpa using e.symm
    ·simpa using e.symm
  ·rw [if_neg h1]
   cases k with
   | zero => rfl
   | succ k => exact ih k
theorem ev_zero : ∀ {l : List Rat}, (∀ k, l.getD k 0 = 0) → ∀ x, ev l x = 0
 | [], _, x => rfl
 | a :: l, h, x => by
  have h0 : a = 0 := h 0
  rw [ev, h0, ev_zero (l := l) fun k => h (k + 1)]
  grind
theorem ev_ext : ∀ {p q : List Rat}, (∀ k, p.getD k 0 = q.getD k 0) → ∀ x, ev p x = ev q x
 | [], q, h, x => (ev_zero (fun k => (h k).symm) x).symm
 | a :: p, [], h, x => ev_zero h x
 | a :: p, b :: q, h, x => by
  obtain rfl : a = b := h 0
  rw [ev, ev, ev_ext (p := p) (q := q) (fun k => h (k + 1))]
theorem ev_trim (l : List Rat) (x : Rat) : ev (trimR l) x = ev l x := ev_ext (trim_getD l) x
theorem tab_front (g : Nat → Rat) (n : Nat) : tab g (n + 1) = g 0 :: tab (fun k => g (k + 1)) n := by
 unfold tab
 rw [List.range_succ_eq_map, List.map_cons, List.map_map]
 rfl
theorem tab_get {g : Nat → Rat} {n k : Nat} : (tab g n).getD k 0 = if k < n then g k else 0 := by
 unfold tab
 rw [List.getD_eq_getElem?_getD, List.getElem?_map]
 by_cases h : k < n
 ·rw [if_pos h, List.getElem?_range h]; rfl
 ·rw [if_neg h, List.getElem?_eq_none (by rw [List.length_range]; omega)]; rfl
theorem ev_tab_succ (g : Nat → Rat) (n : Nat) (x : Rat) : ev (tab g (n + 1)) x = g 0 + x * ev (tab (fun k => g (k + 1)) n) x := by rw [tab_front, ev]
theorem ev_tab_add (f g : Nat → Rat) (x : Rat) : ∀ n, ev (tab (fun k => f k + g k) n) x = ev (tab f n) x + ev (tab g n) x := by
 intro n
 induction n generalizing f g with
 | zero => show (0 : Rat) = 0 + 0; grind
 | succ n ih => rw [ev_tab_succ, ev_tab_succ, ev_tab_succ, ih]; grind
theorem ev_tab_scale (f : Nat → Rat) (a x : Rat) : ∀ n, ev (tab (fun k => f k * a) n) x = ev (tab f n) x * a := by
 intro n
 induction n generalizing f with
 | zero => show (0 : Rat) = 0 * a; grind
 | succ n ih => rw [ev_tab_succ, ev_tab_succ, ih]; grind
theorem ev_tab (p : List Rat) {n : Nat} (h : p.length ≤ n) (x : Rat) : ev (tab (fun k => p.getD k 0) n) x = ev p x := by
 refine ev_ext (fun k => ?_) x
 rw [tab_get]
 by_cases hk : k < n
 ·rw [if_pos hk]
 ·rw [if_neg hk, getD_zero (by omega)]
theorem ev_sub (p q : List Rat) (x : Rat) : ev (subR p q) x = ev p x - ev q x := by
 have e : (fun k => p.getD k 0 - q.getD k 0) = fun k => p.getD k 0 + q.getD k 0 * (-1) := by funext k; grind
 rw [subR, ev_trim, e, ev_tab_add, ev_tab_scale, ev_tab p (Nat.le_max_left _ _), ev_tab q (Nat.le_max_right _ _)]
 grind
theorem ev_grow : ∀ {l : List Rat}, trimR l ≠ [] → ∃ e N : Rat, 0 < e ∧ ((∀ x, N ≤ x → e ≤ ev l x) ∨ (∀ x, N ≤ x → ev l x ≤ -e))
 | [], h => absurd rfl h
 | a :: l, h => by
  rw [trimR] at h
  by_cases h1 : trimR l = []
  ·rw [if_pos h1] at h
   have h0 : a ≠ 0 := fun e => h (by rw [if_pos e])
   have hz := ev_zero (trim_nil h1)
   rcases (by grind : 0 < a ∨ 0 < -a) with hp | hp
   ·exact ⟨a, 0, hp, .inl fun x _ => by rw [ev, hz]; grind⟩
   ·exact ⟨-a, 0, hp, .inr fun x _ => by rw [ev, hz]; grind⟩
  ·obtain ⟨e, N, he, hN⟩ := ev_grow h1
   obtain ⟨M, m1, m2, m3, m4⟩ : ∃ M : Rat, N ≤ M ∧ 0 ≤ M ∧ e - a ≤ M * e ∧ e + a ≤ M * e := by
    have hi : e * e⁻¹ = 1 := Rat.mul_inv_cancel e (by grind)
    have hi0 : 0 ≤ e⁻¹ := Rat.le_of_lt (Rat.inv_pos.2 he)
    have hge : ∀ y : Rat, ∃ z : Rat, y ≤ z ∧ 0 ≤ z := fun y => by
     rcases (by grind : y ≤ 0 ∨ 0 ≤ y) with q | q
     ·exact ⟨0, q, by grind⟩
     ·exact ⟨y, by grind, q⟩
    obtain ⟨z1, a1, a2⟩ := hge N
    obtain ⟨z2, b1, b2⟩ := hge (e - a)
    obtain ⟨z3, c1, c2⟩ := hge (e + a)
    refine ⟨z1 + z2 * e⁻¹ + z3 * e⁻¹, ?_, ?_, ?_, ?_⟩
    ·have := Rat.mul_nonneg b2 hi0
     have := Rat.mul_nonneg c2 hi0
     grind
    ·have := Rat.mul_nonneg b2 hi0
     have := Rat.mul_nonneg c2 hi0
     grind
    ·have := Rat.mul_nonneg a2 (Rat.le_of_lt he)
     have q : (z1 + z2 * e⁻¹ + z3 * e⁻¹) * e = z1 * e + z2 + z3 := by grind
     grind
    ·have := Rat.mul_nonneg a2 (Rat.le_of_lt he)
     have q : (z1 + z2 * e⁻¹ + z3 * e⁻¹) * e = z1 * e + z2 + z3 := by grind
     grind
   refine ⟨e, M, he, ?_⟩
   rcases hN with hN | hN
   ·refine .inl fun x hx => ?_
    have h2 := hN x (by grind)
    have h3 : M * e ≤ x * ev l x := by
     have q1 : M * e ≤ x * e := Rat.mul_le_mul_of_nonneg_right hx (Rat.le_of_lt he)
     have q2 : x * e ≤ x * ev l x := Rat.mul_le_mul_of_nonneg_left h2 (by grind)
     grind
    rw [ev]
    grind
   ·refine .inr fun x hx => ?_
    have h2 := hN x (by grind)
    have h3 : M * e ≤ x * (- ev l x) := by
     have q1 : M * e ≤ x * e := Rat.mul_le_mul_of_nonneg_right hx (Rat.le_of_lt he)
     have q2 : x * e ≤ x * (- ev l x) := Rat.mul_le_mul_of_nonneg_left (by grind) (by grind)
     grind
    rw [ev]
    grind
theorem ev_nil {l : List Rat} (h : ∀ x, ev l x = 0) : trimR l = [] := by
 rcases Decidable.em (trimR l = []) with q | q
 ·exact q
 ·obtain ⟨e, N, he, hN⟩ := ev_grow q
  rcases hN with hN | hN
  ·have h1 := hN N Rat.le_refl
   rw [h N] at h1
   grind
  ·have h1 := hN N Rat.le_refl
   rw [h N] at h1
   grind
theorem ev_coef {p q : List Rat} (h : ∀ x, ev p x = ev q x) : ∀ k, p.getD k 0 = q.getD k 0 := by
 have h1 : trimR (subR p q) = [] := ev_nil fun x => by rw [ev_sub, h x]; grind
 intro k
 have h2 := trim_nil h1 k
 rw [subR, trim_getD, tab_get] at h2
 by_cases hk : k < max p.length q.length
 ·rw [if_pos hk] at h2
  grind
 ·rw [getD_zero (by omega), getD_zero (by omega)]
/-! Products. -/
theorem sumF_add (f : Nat → Rat) (s : Nat) : ∀ c, sumF f (s + c) = sumF f s + sumF (fun i => f (s + i)) c
 | 0 => by show sumF f s = sumF f s + 0; grind
 | c + 1 => by
  show sumF f (s + c) + f (s + c) = sumF f s + (sumF (fun i => f (s + i)) c + f (s + c))
  rw [sumF_add f s c]
  grind
theorem sumF_zero {f : Nat → Rat} : ∀ {n : Nat}, (∀ i, i < n → f i = 0) → sumF f n = 0
 | 0, _ => rfl
 | n + 1, h => by
  show sumF f n + f n = 0
  rw [sumF_zero (n := n) fun i hi => h i (by omega), h n (by omega)]
  grind
theorem sumF_ext {f g : Nat → Rat} : ∀ {n : Nat}, (∀ i, i < n → f i = g i) → sumF f n = sumF g n
 | 0, _ => rfl
 | n + 1, h => by
  show sumF f n + f n = sumF g n + g n
  rw [sumF_ext (n := n) fun i hi => h i (by omega), h n (by omega)]
def cvF (p q : List Rat) (k : Nat) : Rat := sumF (fun i => p.getD i 0 * q.getD (k - i) 0) (k + 1)
theorem cv_cons (a : Rat) (p q : List Rat) (k : Nat) : cvF (a :: p) q k = q.getD k 0 * a + (if k = 0 then 0 else cvF p q (k - 1)) := by
 unfold cvF
 rw [show k + 1 = 1 + k by omega, sumF_add]
 show (0 + a * q.getD (k - 0) 0) + _ = _
 rw [Nat.sub_zero]
 cases k with
 | zero => show 0 + a * _ + 0 = _ + if 0 = 0 then 0 else _; rw [if_pos rfl]; grind
 | succ k =>
  rw [if_neg (by omega), Nat.add_sub_cancel]
  have e : sumF (fun i => (a :: p).getD (1 + i) 0 * q.getD (k + 1 - (1 + i)) 0) (k + 1) = sumF (fun i => p.getD i 0 * q.getD (k - i) 0) (k + 1) := sumF_ext fun i hi => by
   rw [show 1 + i = i + 1 by omega, List.getD_cons_succ, show k + 1 - (i + 1) = k - i by omega]
  rw [e]
  grind
theorem ev_cv (q : List Rat) (x : Rat) : ∀ (p : List Rat) (n : Nat), p.length + q.length ≤ n + 1 → 0 < q.length → ev (tab (cvF p q) n) x = ev p x * ev q x
 | [], n, h, h0 => by
  rw [ev]
  have e : ∀ k, cvF [] q k = 0 := fun k => sumF_zero fun i _ => by rw [getD_zero (Nat.zero_le _)]; grind
  rw [ev_zero (fun k => by rw [tab_get, e]; split <;> rfl)]
  grind
 | a :: p, n, h, h0 => by
  rw [List.length_cons] at h
  have e : cvF (a :: p) q = fun k => q.getD k 0 * a + (if k = 0 then 0 else cvF p q (k - 1)) := funext fun k => cv_cons a p q k
  obtain ⟨m, rfl⟩ : ∃ m, n = m + 1 := ⟨n - 1, by omega⟩
  rw [e, ev_tab_add, ev_tab_scale, ev_tab q (by omega), ev_tab_succ]
  have e2 : (fun k => if k + 1 = 0 then (0 : Rat) else cvF p q (k + 1 - 1)) = cvF p q := by
   funext k
   rw [if_neg (by omega), Nat.add_sub_cancel]
  rw [if_pos rfl, e2, ev_cv q x p m (by omega) h0, ev]
  grind
theorem rev_getD {q : List Rat} {i : Nat} (h : i < q.length) : q.reverse.getD i 0 = q.getD (q.length - 1 - i) 0 := by
 rw [List.getD_eq_getElem?_getD, List.getD_eq_getElem?_getD, List.getElem?_reverse h]
theorem drop_get {q : List Rat} {i j : Nat} : (q.drop i).getD j 0 = q.getD (i + j) 0 := by
 rw [List.getD_eq_getElem?_getD, List.getD_eq_getElem?_getD, List.getElem?_drop]
theorem mul_cv {p q : List Rat} (h0 : 0 < q.length) {k : Nat} : mulF p q k = cvF p q k := by
 unfold mulF dotR cvF
 rw [List.length_drop, List.length_drop, List.length_reverse]
 generalize hs : k - (q.length - 1) = s
 generalize ht : q.length - 1 - k = t
 have e1 : sumF (fun i => (p.drop s).getD i 0 * (q.reverse.drop t).getD i 0) (min (p.length - s) (q.length - t)) = sumF (fun i => p.getD (s + i) 0 * q.getD (k - (s + i)) 0) (min (p.length - s) (q.length - t)) := sumF_ext fun i hi => by
  rw [drop_get, drop_get, rev_getD (by omega), show q.length - 1 - (t + i) = k - (s + i) by omega]
 have e2 : sumF (fun i => p.getD (s + i) 0 * q.getD (k - (s + i)) 0) (k + 1 - s) = sumF (fun i => p.getD (s + i) 0 * q.getD (k - (s + i)) 0) (min (p.length - s) (q.length - t)) := by
  generalize hc : min (p.length - s) (q.length - t) = c
  obtain ⟨d, hd⟩ : ∃ d, k + 1 - s = c + d := ⟨k + 1 - s - c, by omega⟩
  rw [hd, sumF_add, sumF_zero (f := fun i => p.getD (s + (c + i)) 0 * q.getD (k - (s + (c + i))) 0), Rat.add_zero]
  intro i hi
  rw [getD_zero (l := p) (by omega), Rat.zero_mul]
 rw [e1, ← e2, show k + 1 = s + (k + 1 - s) by omega, sumF_add, sumF_zero (n := s), Rat.zero_add]
 ·rw [show s + (k + 1 - s) - s = k + 1 - s by omega]
 ·intro i hi
  rw [getD_zero (l := q) (by omega), Rat.mul_zero]
theorem tab_ext {f g : Nat → Rat} {n : Nat} (h : ∀ k, k < n → f k = g k) : tab f n = tab g n := List.map_congr_left fun k hk => h k (List.mem_range.1 hk)
theorem ev_mul (p q : List Rat) (x : Rat) : ev (mulR p q) x = ev p x * ev q x := by
 rw [mulR, ev_trim]
 rcases Nat.eq_zero_or_pos q.length with h | h
 ·obtain rfl := List.eq_nil_of_length_eq_zero h
  rw [ev, Rat.mul_zero]
  refine ev_zero (fun k => ?_) x
  rw [tab_get]
  split
  ·exact sumF_zero fun i hi => by
    rw [List.length_drop, List.length_drop, List.length_reverse, List.length_nil] at hi
    omega
  ·rfl
 ·rw [tab_ext fun k _ => mul_cv h, ev_cv q x p _ (by omega) h]
def pw (x : Rat) : Nat → Rat
 | 0 => 1
 | n + 1 => pw x n * x
theorem ev_set (c x : Rat) : ∀ (l : List Rat) (i : Nat), i < l.length → ev (l.set i (l.getD i 0 + c)) x = ev l x + c * pw x i
 | a :: l, 0, _ => by show a + c + x * ev l x = a + x * ev l x + c * 1; grind
 | a :: l, i + 1, h => by
  show a + x * ev (l.set i (l.getD i 0 + c)) x = a + x * ev l x + c * (pw x i * x)
  rw [ev_set c x l i (by simpa using h)]
  grind
theorem pw_add (x : Rat) (i : Nat) : ∀ j, pw x (i + j) = pw x i * pw x j
 | 0 => by show pw x i = pw x i * 1; grind
 | j + 1 => by show pw x (i + j) * x = pw x i * (pw x j * x); rw [pw_add x i j]; grind
def pwS (q : List Rat) (x : Rat) (j : Nat) : Rat := sumF (fun k => q.getD k 0 * pw x k) j
theorem sumF_front (f : Nat → Rat) (n : Nat) : sumF f (n + 1) = f 0 + sumF (fun k => f (k + 1)) n := by
 rw [show n + 1 = 1 + n by omega, sumF_add]
 show 0 + f 0 + _ = _
 rw [Rat.zero_add]
 congr 1
 exact sumF_ext fun i _ => by rw [Nat.add_comm]
theorem sumF_mul (f : Nat → Rat) (a : Rat) : ∀ n, sumF (fun k => f k * a) n = sumF f n * a
 | 0 => by show (0 : Rat) = 0 * a; grind
 | n + 1 => by show sumF (fun k => f k * a) n + f n * a = (sumF f n + f n) * a; rw [sumF_mul f a n]; grind
theorem ev_pwS (x : Rat) : ∀ (q : List Rat), pwS q x q.length = ev q x
 | [] => rfl
 | a :: q => by
  rw [pwS, List.length_cons, sumF_front, ev]
  have e : sumF (fun k => (a :: q).getD (k + 1) 0 * pw x (k + 1)) q.length = sumF (fun k => q.getD k 0 * pw x k * x) q.length := sumF_ext fun k _ => by
   show q.getD k 0 * (pw x k * x) = _
   grind
  rw [e, sumF_mul]
  have := ev_pwS x q
  unfold pwS at this
  rw [this]
  show a * 1 + _ = _
  grind
theorem ev_inn (p q : List Rat) (i : Nat) (x : Rat) : ∀ (j : Nat) (l : List Rat), i + j ≤ l.length → ev (innR p q i j l) x = ev l x + p.getD i 0 * pw x i * pwS q x j
 | 0, l, _ => by show ev l x = ev l x + _ * 0; grind
 | j + 1, l, h => by
  rw [innR, ev_set _ _ _ _ (by rw [innR_len]; omega), ev_inn p q i x j l (by omega), pw_add]
  show _ = _ + _ * (pwS q x j + q.getD j 0 * pw x j)
  grind
theorem ev_out (p q : List Rat) (x : Rat) : ∀ i, i ≤ p.length → ev (outR p q i) x = pwS p x i * ev q x
 | 0, _ => by
  rw [outR, ev_zero]
  ·show (0 : Rat) = 0 * _; grind
  ·intro k
   rw [List.getD_eq_getElem?_getD, List.getElem?_replicate]
   split <;> rfl
 | i + 1, h => by
  rw [outR, ev_inn p q i x q.length _ (by rw [outR_len]; omega), ev_out p q x i (by omega), ev_pwS]
  show _ = (pwS p x i + p.getD i 0 * pw x i) * _
  grind
theorem ev_rmul (p q : List Rat) (x : Rat) : ev (rmulR p q) x = ev p x * ev q x := by
 unfold rmulR
 split
 ·rename_i h
  rcases h with rfl | rfl
  ·rw [ev]; grind
  ·rw [ev]; grind
 ·rw [ev_trim, ev_out p q x _ (Nat.le_refl _), ev_pwS]
/-! Values, shifts. -/
/-! Derivatives. -/
theorem pow_29 {e B : Nat} (h : e ≤ 29 * B) (hB : 1 ≤ B) : 2 ^ e < 1000000000 ^ B := by
 have h1 : 2 ^ e ≤ 2 ^ (29 * B) := Nat.pow_le_pow_right (by decide) h
 rw [Nat.pow_mul] at h1
 exact Nat.lt_of_le_of_lt h1 (Nat.pow_lt_pow_left (by decide) (by omega))
theorem szR_of {l : List Rat} {e B : Nat} (hB : 1 ≤ B) (he : e ≤ 29 * B) (h : ∀ a ∈ l, a.num.natAbs ≤ 2 ^ e ∧ a.den ≤ 2 ^ e) : szR l B = true := by
 refine szR_all fun a ha => ?_
 have hp := pow_29 he hB
 obtain ⟨h1, h2⟩ := h a ha
 refine szR_mk (len_lt.2 (Nat.lt_of_le_of_lt h1 hp)) (len_lt.2 (Nat.lt_of_le_of_lt ?_ hp))
 unfold qd
 split
 ·exact Nat.zero_le _
 ·exact h2
/-! A number with few bits. -/
def Few (a : Rat) (e : Nat) : Prop := ∃ z m : Int, m ≠ 0 ∧ a * (m : Rat) = (z : Rat) ∧ z.natAbs ≤ 2 ^ e ∧ m.natAbs ≤ 2 ^ e
theorem cast_ne {m : Int} (h : m ≠ 0) : (m : Rat) ≠ 0 := fun e => h (by
 have : (m : Rat) = ((0 : Int) : Rat) := e
 exact Rat.intCast_inj.1 this)
theorem num_eq (a : Rat) : a * (a.den : Rat) = (a.num : Rat) := by
 have h := Rat.num_divInt_den a
 rw [Rat.divInt_eq_div, Rat.intCast_natCast] at h
 have hd : (a.den : Rat) ≠ 0 := fun e => a.den_nz (by
  have : ((a.den : Int) : Rat) = ((0 : Int) : Rat) := by rw [Rat.intCast_natCast]; exact e
  have := Rat.intCast_inj.1 this
  omega)
 have h2 : (a.num : Rat) / (a.den : Rat) * (a.den : Rat) = (a.num : Rat) := by
  rw [Rat.div_def, Rat.mul_assoc, Rat.inv_mul_cancel _ hd, Rat.mul_one]
 rw [h] at h2
 exact h2
theorem few_parts {a : Rat} {e : Nat} (h : Few a e) : a.num.natAbs ≤ 2 ^ e ∧ a.den ≤ 2 ^ e := by
 obtain ⟨z, m, hm, h1, h2, h3⟩ := h
 have h4 : a.num * m = z * a.den := by
  have e1 := num_eq a
  have e2 : ((a.num * m : Int) : Rat) = ((z * a.den : Int) : Rat) := by
   rw [Rat.intCast_mul, Rat.intCast_mul, ← h1, ← e1]
   rw [Rat.intCast_natCast]
   grind
  exact Rat.intCast_inj.1 e2
 have h5 : a.num.natAbs * m.natAbs = z.natAbs * a.den := by
  have := congrArg Int.natAbs h4
  rw [Int.natAbs_mul, Int.natAbs_mul, Int.natAbs_natCast] at this
  exact this
 have hc : Nat.Coprime a.num.natAbs a.den := a.reduced
 have d1 : a.den ∣ m.natAbs := by
  have : a.den ∣ a.num.natAbs * m.natAbs := ⟨z.natAbs, by rw [h5, Nat.mul_comm]⟩
  exact (Nat.Coprime.symm hc).dvd_of_dvd_mul_left this
 have d2 : a.num.natAbs ∣ z.natAbs := by
  have : a.num.natAbs ∣ z.natAbs * a.den := ⟨m.natAbs, h5.symm⟩
  exact hc.dvd_of_dvd_mul_right this
 refine ⟨?_, Nat.le_trans (Nat.le_of_dvd (by omega) d1) h3⟩
 by_cases hz : z.natAbs = 0
 ·rw [hz, Nat.zero_mul] at h5
  have h6 : m.natAbs ≠ 0 := by omega
  have : a.num.natAbs = 0 := (Nat.mul_eq_zero.1 h5).resolve_right h6
  omega
 ·exact Nat.le_trans (Nat.le_of_dvd (by omega) d2) h2
def Cm (m : Int) (p : List Rat) (e : Nat) : Prop := ∀ k, ∃ z : Int, p.getD k 0 * (m : Rat) = (z : Rat) ∧ z.natAbs ≤ 2 ^ e
def Cb (p : List Rat) (e : Nat) : Prop := ∃ m : Int, m ≠ 0 ∧ m.natAbs ≤ 2 ^ e ∧ Cm m p e
theorem pow_le {d e : Nat} (h : d ≤ e) : 2 ^ d ≤ 2 ^ e := Nat.pow_le_pow_right (by decide) h
theorem Cm.mono {m : Int} {p : List Rat} {d e : Nat} (h : Cm m p d) (hd : d ≤ e) : Cm m p e := fun k => by
 obtain ⟨z, h1, h2⟩ := h k
 exact ⟨z, h1, Nat.le_trans h2 (pow_le hd)⟩
theorem Cb.mono {p : List Rat} {d e : Nat} (h : Cb p d) (hd : d ≤ e) : Cb p e := by
 obtain ⟨m, h1, h2, h3⟩ := h
 exact ⟨m, h1, Nat.le_trans h2 (pow_le hd), h3.mono hd⟩
theorem Cb.few {p : List Rat} {e : Nat} (h : Cb p e) (k : Nat) : Few (p.getD k 0) e := by
 obtain ⟨m, h1, h2, h3⟩ := h
 obtain ⟨z, h4, h5⟩ := h3 k
 exact ⟨z, m, h1, h4, h5, h2⟩
theorem Cb.sz {p : List Rat} {e B : Nat} (h : Cb p e) (hB : 1 ≤ B) (he : e ≤ 29 * B) : szR p B = true :=
 szR_of hB he fun a ha => by
  obtain ⟨i, hi, rfl⟩ := List.getElem_of_mem ha
  have := few_parts (h.few i)
  rw [List.getD_eq_getElem?_getD, List.getElem?_eq_getElem hi] at this
  exact this
theorem Cm.ext {m : Int} {p q : List Rat} {e : Nat} (h : Cm m p e) (hq : ∀ k, q.getD k 0 = p.getD k 0) : Cm m q e := fun k => by rw [hq]; exact h k
theorem Cb.ext {p q : List Rat} {e : Nat} (h : Cb p e) (hq : ∀ k, q.getD k 0 = p.getD k 0) : Cb q e := by
 obtain ⟨m, h1, h2, h3⟩ := h
 exact ⟨m, h1, h2, h3.ext hq⟩
theorem mul_pow {a b c d : Nat} (h1 : a ≤ 2 ^ c) (h2 : b ≤ 2 ^ d) : a * b ≤ 2 ^ (c + d) := by rw [Nat.pow_add]; exact Nat.mul_le_mul h1 h2
theorem abs_mul {a b : Int} {c d : Nat} (h1 : a.natAbs ≤ 2 ^ c) (h2 : b.natAbs ≤ 2 ^ d) : (a * b).natAbs ≤ 2 ^ (c + d) := by rw [Int.natAbs_mul]; exact mul_pow h1 h2
theorem tab_gets {g : Nat → Rat} {n k : Nat} : (trimR (tab g n)).getD k 0 = if k < n then g k else 0 := by rw [trim_getD, tab_get]
theorem sumF_int {f : Nat → Rat} {M : Rat} {e : Nat} (h : ∀ i, ∃ z : Int, f i * M = (z : Rat) ∧ z.natAbs ≤ 2 ^ e) : ∀ n, ∃ z : Int, sumF f n * M = (z : Rat) ∧ z.natAbs ≤ n * 2 ^ e
 | 0 => ⟨0, by show (0 : Rat) * M = ((0 : Int) : Rat); rw [Rat.zero_mul]; rfl, Nat.zero_le _⟩
 | n + 1 => by
  obtain ⟨z, z1, z2⟩ := sumF_int h n
  obtain ⟨y, y1, y2⟩ := h n
  refine ⟨z + y, ?_, by rw [Nat.succ_mul]; omega⟩
  show (sumF f n + f n) * M = _
  rw [Rat.intCast_add, ← z1, ← y1]
  grind
theorem cv_big {p q : List Rat} {k : Nat} (h : p.length + q.length ≤ k + 1) : cvF p q k = 0 := by
 refine sumF_zero fun i _ => ?_
 rcases Nat.lt_or_ge i p.length with hi | hi
 ·rw [getD_zero (l := q) (by omega), Rat.mul_zero]
 ·rw [getD_zero hi, Rat.zero_mul]
theorem mul_coef (p q : List Rat) (k : Nat) : (mulR p q).getD k 0 = cvF p q k := by
 rw [mulR, tab_gets]
 rcases Nat.eq_zero_or_pos q.length with h | h
 ·obtain rfl := List.eq_nil_of_length_eq_zero h
  have e : cvF p [] k = 0 := sumF_zero fun i _ => by rw [getD_zero (l := []) (Nat.zero_le _), Rat.mul_zero]
  rw [e]
  split
  ·exact sumF_zero fun i hi => by
    rw [List.length_drop, List.length_drop, List.length_reverse, List.length_nil] at hi
    omega
  ·rfl
 ·split
  ·exact mul_cv h
  ·rw [cv_big (by omega)]
theorem Cb.cv {p q : List Rat} {c d t : Nat} (hp : Cb p c) (hq : Cb q d) (ht : p.length + q.length ≤ 2 ^ t) : ∃ m : Int, m ≠ 0 ∧ m.natAbs ≤ 2 ^ (c + d + t) ∧ ∀ k, ∃ z : Int, cvF p q k * (m : Rat) = (z : Rat) ∧ z.natAbs ≤ 2 ^ (c + d + t) := by
 obtain ⟨m, m1, m2, m3⟩ := hp
 obtain ⟨n, n1, n2, n3⟩ := hq
 refine ⟨m * n, Int.mul_ne_zero m1 n1, Nat.le_trans (abs_mul m2 n2) (pow_le (by omega)), fun k => ?_⟩
 rcases Nat.lt_or_ge (k + 1) (p.length + q.length) with hk | hk
 ·obtain ⟨z, z1, z2⟩ := sumF_int (f := fun i => p.getD i 0 * q.getD (k - i) 0) (M := ((m * n : Int) : Rat)) (e := c + d) (fun i => by
   obtain ⟨y, y1, y2⟩ := m3 i
   obtain ⟨z, z1, z2⟩ := n3 (k - i)
   refine ⟨y * z, ?_, abs_mul y2 z2⟩
   rw [Rat.intCast_mul, Rat.intCast_mul, ← y1, ← z1]
   grind) (k + 1)
  refine ⟨z, z1, Nat.le_trans z2 ?_⟩
  rw [Nat.pow_add 2 (c + d) t, Nat.mul_comm]
  exact Nat.mul_le_mul_left _ (by omega)
 ·rw [cv_big hk]
  exact ⟨0, by rw [Rat.zero_mul]; rfl, Nat.zero_le _⟩
theorem Cb.mul {p q : List Rat} {c d t : Nat} (hp : Cb p c) (hq : Cb q d) (ht : p.length + q.length ≤ 2 ^ t) : Cb (mulR p q) (c + d + t) := by
 obtain ⟨m, h1, h2, h3⟩ := hp.cv hq ht
 exact ⟨m, h1, h2, fun k => by rw [mul_coef]; exact h3 k⟩
theorem last_ne {p : List Rat} (hp : trimR p = p) (h0 : p ≠ []) : lastR p ≠ 0 := by
 have := trimR_last p
 rw [hp] at this
 exact this.resolve_left h0
/-! One step of a division. -/
/-! Shifted lists; the value of one step. -/
/-! Division. -/
/-! Whole numbers. -/
theorem w_cast (z : Int) : wR z = (z : Rat) := by
 rw [show wR z = Rat.divInt z 1 from rfl, Rat.divInt_eq_div, Rat.div_def]
 show (z : Rat) * (1 : Rat)⁻¹ = _
 have : (1 : Rat)⁻¹ = 1 := by decide +kernel
 rw [this, Rat.mul_one]
theorem one_cast (a : Rat) : a * ((1 : Int) : Rat) = a := Rat.mul_one a
/-! Divisors. -/
def Dv (g p : List Rat) : Prop := ∃ u : List Rat, ∀ x, ev p x = ev u x * ev g x
/-! Degrees. -/
/-! poly.Gcd. -/
/-! The reference's Gcd: the same chain with monic polynomials. -/
def rgcdC (B : Nat) : Nat → List Rat → List Rat → Option (List Rat)
 | 0, _, _ => none
 | n + 1, a, b => if 0 < b.length then (divS B a b).bind fun x => if (szR (monicR x.2) B && decide (x.2.length < b.length)) = true then rgcdC B n b (monicR x.2) else none else some a
def rgcdS (B : Nat) (p q : List Rat) : Option (List Rat) := if (szR (monicR p) B && szR (monicR q) B) = true then rgcdC B (p.length + q.length + 3) (monicR p) (monicR q) else none
end Vc
end Go.Proofs.YtcblbepaigdlgaaGreat

namespace Go.Proofs.YtcblbepaigdlgaaGreat
open Go.RowKit
open Go.Lib (hid)
open Dg Zn
namespace Vc
section
variable (p : List Rat) (K B k : Nat) (hp : p.length ≤ 100000) (hK : K ≤ 1000000) (hk : k < p.length - 1)
include hp hk hK
end
section
variable (p : List Rat) (K B : Nat) (hp : p.length ≤ 100000) (hK : K ≤ 1000000)
include hp hK
end
section
variable (p : List Rat) (K B : Nat) (hK : K ≤ 100000) (hp : p.length ≤ 1000000) (h0 : p ≠ []) (hs : szR (monicR p) B = true)
include hK hp h0 hs
end
section
variable (p : List Rat) (x : Rat) (K Kx B : Nat) (hK : K ≤ 100000) (hKx : Kx ≤ 100000) (hB : B ≤ 100000) (hp : p.length ≤ 1000000) (hs : ∀ k, k ≤ p.length → szR [pwS p x k] B = true) (hw : ∀ k, k ≤ p.length → szR [pw x k] B = true)
include hK hKx hB hp hs hw
end
section
variable (p : List Rat) (x : Rat) (K Kx B : Nat) (hK1 : 1 ≤ K) (hKx1 : 1 ≤ Kx) (hp : p.length ≤ 1000) (hB : B ≤ 300) (hK : K ≤ B) (hKx : Kx ≤ B) (hl : p.length ≤ 20) (hpz : szR p K = true) (hxz : szR [x] Kx = true) (hs : ∀ m, m ≤ p.length → szR (shiftF p x (dwn id m)) B = true)
include hK1 hKx1 hB hK hKx hl hpz hxz hs hp
end
/-! Div. -/
section
variable (p q : List Rat) (B : Nat) (U : List (Option Rat)) (R : List Rat) (hB1 : 1 ≤ B) (hB : B ≤ 100000) (hp : p.length ≤ 1000) (hq : q.length ≤ 1000) (hq0 : q ≠ []) (tp : trimR p = p) (tq : trimR q = q) (hqz : szR q B = true) (h : divC B q (p.length + 2) (List.replicate (p.length + 1 - q.length) none) p = some (U, R))
include hB1 hB hp hq hq0 tp tq hqz h
end
section
variable (p q G : List Rat) (B : Nat) (hB1 : 1 ≤ B) (hB : B ≤ 100000) (hp : p.length ≤ 1000) (hq : q.length ≤ 1000) (h : rgcdS B p q = some G)
include hB1 hB hp hq h
end
section
variable (p G U R : List Rat) (B : Nat) (hB1 : 1 ≤ B) (hB : B ≤ 100000) (hp : p.length ≤ 1000) (tp : trimR p = p) (h0 : szR (deriveR p) B = true) (h1 : rgcdS B p (deriveR p) = some G) (tG : trimR G = G) (hG : G.length ≤ 1000) (zG : szR G B = true) (h2 : divS B p G = some (U, R)) (tU : trimR U = U) (hU : U.length ≤ 1000) (hm : szR (monicR U) B = true)
include hB1 hB hp tp h0 h1 tG hG zG h2 tU hU hm
end
end Vc
end Go.Proofs.YtcblbepaigdlgaaGreat

namespace Go.Proofs.YtcblbepaigdlgaaGreat
open Go.RowKit
open Dg Zn
namespace Vc
/-! Divisors of a polynomial have short numbers: at whole numbers beyond the zeros a divisor is no greater than the polynomial, and its values there tell its coefficients. -/
/-! Whole numbers as they are. -/
/-! The reference's polynomials are small. -/
theorem small_cm (z : Int) : ∃ y : Int, smallR z * ((12 : Int) : Rat) = (y : Rat) ∧ y.natAbs ≤ 2 ^ 7 := by
 obtain ⟨⟨a1, a2⟩, _, b1, b2⟩ := small_facts z
 unfold smallR
 have ha : ((aroundI z 105).tmod 15 - 7).natAbs ≤ 8 := by omega
 generalize (aroundI z 105).tmod 15 - 7 = a at ha ⊢
 generalize ((aroundI z 105).tdiv 15).tmod 4 = b at b1 b2 ⊢
 have key : ∀ d e : Int, d * e = 12 → d ≠ 0 → e.natAbs ≤ 12 → ∃ y : Int, Rat.divInt a d * ((12 : Int) : Rat) = (y : Rat) ∧ y.natAbs ≤ 2 ^ 7 := fun d e h1 h2 h3 => by
  refine ⟨a * e, ?_, ?_⟩
  ·rw [Rat.divInt_eq_div, Rat.div_def, ← h1, Rat.intCast_mul, Rat.intCast_mul]
   have := Rat.mul_inv_cancel _ (cast_ne h2)
   grind
  ·rw [Int.natAbs_mul]
   exact Nat.le_trans (Nat.mul_le_mul ha h3) (by decide)
 rcases (by omega : b = 0 ∨ b = 1 ∨ b = 2 ∨ b = 3) with rfl | rfl | rfl | rfl
 ·exact key 1 12 rfl (by decide) (by decide)
 ·exact key 2 6 rfl (by decide) (by decide)
 ·exact key 3 4 rfl (by decide) (by decide)
 ·exact key 4 3 rfl (by decide) (by decide)
theorem cm_mem {m : Int} {p : List Rat} {e : Nat} (h : ∀ a ∈ p, ∃ y : Int, a * (m : Rat) = (y : Rat) ∧ y.natAbs ≤ 2 ^ e) : Cm m p e := fun k => by
 rcases Nat.lt_or_ge k p.length with hk | hk
 ·rw [List.getD_eq_getElem?_getD, List.getElem?_eq_getElem hk]
  exact h _ (List.getElem_mem hk)
 ·rw [getD_zero hk]
  exact ⟨0, by rw [Rat.zero_mul]; rfl, Nat.zero_le _⟩
theorem cb_trim {p : List Rat} {e : Nat} (h : Cb p e) : Cb (trimR p) e := h.ext (trim_getD p)
theorem fac_cb (zs : List Int) (i n : Nat) : Cb (trimR (facR zs i n)) 7 := by
 refine cb_trim ⟨12, by decide, by decide, cm_mem fun a ha => ?_⟩
 have h1 : ∃ y : Int, Rat.divInt 1 1 * ((12 : Int) : Rat) = (y : Rat) ∧ y.natAbs ≤ 2 ^ 7 := ⟨12, by rw [show Rat.divInt 1 1 = 1 by decide +kernel, Rat.one_mul], by decide⟩
 unfold facR at ha
 split at ha
 ·simp only [List.mem_cons, List.not_mem_nil, or_false] at ha
  rcases ha with rfl | rfl | rfl
  ·exact small_cm _
  ·exact small_cm _
  ·exact h1
 ·simp only [List.mem_cons, List.not_mem_nil, or_false] at ha
  rcases ha with rfl | rfl
  ·obtain ⟨y, y1, y2⟩ := small_cm (zs.getD i 0)
   exact ⟨-y, by rw [Rat.intCast_neg, ← y1]; grind, by rw [Int.natAbs_neg]; exact y2⟩
  ·exact h1
theorem Cb.rmul {p q : List Rat} {c d t : Nat} (hp : Cb p c) (hq : Cb q d) (ht : p.length + q.length ≤ 2 ^ t) : Cb (rmulR p q) (c + d + t) := (hp.mul hq ht).ext fun k => ev_coef (fun x => by rw [ev_rmul, ev_mul]) k
theorem polyB_cb (zs : List Int) : ∀ m, m ≤ 3 → Cb (polyB zs m) (3 + 10 * m)
 | 0, _ => by
  refine cb_trim ⟨1, by decide, by decide, cm_mem fun a ha => ?_⟩
  obtain rfl := List.mem_singleton.1 ha
  obtain ⟨h1, h2⟩ := atI_bd zs 1 5 (by decide)
  refine ⟨1 + atI zs 1 5, ?_, by omega⟩
  rw [one_cast]
  exact w_cast _
 | m + 1, h => by
  have h1 := polyB_cb zs m (by omega)
  have h2 := (polyB_facts zs m).1
  have h3 := trimR_len (facR zs (m + 2) (polyB zs m).length)
  have h4 := facR_len zs (m + 2) (polyB zs m).length
  rw [polyB]
  exact (h1.rmul (fac_cb zs (m + 2) (polyB zs m).length) (t := 3) (by omega)).mono (by omega)
theorem polyR_cb (zs : List Int) : Cb (polyR zs) 33 := by
 unfold polyR
 split
 ·refine (cb_trim ⟨12, by decide, by decide, cm_mem (e := 7) fun a ha => ?_⟩).mono (by decide)
  unfold tab at ha
  obtain ⟨k, _, rfl⟩ := List.mem_map.1 ha
  exact small_cm _
 ·exact (polyB_cb zs _ (by omega)).mono (by omega)
theorem polyR_len (zs : List Int) : (polyR zs).length ≤ 6 := by
 unfold polyR
 split
 ·refine Nat.le_trans (trimR_len _) ?_
  rw [tab_length]
  omega
 ·have h : ∀ m, m ≤ 3 → (polyB zs m).length ≤ 6 := fun m hm => by
   rcases (by omega : m ≤ 2 ∨ m = 3) with h | h
   ·have := (polyB_facts zs m).1
    omega
   ·subst h
    rw [polyB]
    have h1 := rmulR_len (polyB zs 2) (trimR (facR zs (2 + 2) (polyB zs 2).length))
    have h2 := (polyB_facts zs 2).1
    have h3 := trimR_len (facR zs (2 + 2) (polyB zs 2).length)
    have h4 : (facR zs (2 + 2) (polyB zs 2).length).length = 2 := by
     unfold facR
     rw [if_neg (by omega)]
     rfl
    omega
  exact h _ (by omega)
/-! Polynomials with the bits of their numbers and their length. -/
structure Pk (p : List Rat) (e n : Nat) : Prop where
 cb : Cb p e
 tr : trimR p = p
 len : p.length ≤ n
theorem pk_poly (zs : List Int) : Pk (polyR zs) 33 6 := ⟨polyR_cb zs, polyR_trim zs, polyR_len zs⟩
theorem Pk.sz {p : List Rat} {e n B : Nat} (h : Pk p e n) (hB : 1 ≤ B) (he : e ≤ 29 * B) : szR p B = true := h.cb.sz hB he
/-! Contracts. -/
section
variable {p q : List Rat} {c d n m : Nat}
theorem rSameW {p q : List Rat} (h : p = q) (hp : p.length ≤ 1000000) {j k : Nat} : Con Tryz.prog 13 [PL p j, PL q k] (.one (.v (.bool true))) := by
 subst h
 exact rSamePT p j k hp
theorem rPolyW (zs : List Int) (hz : ∀ z ∈ zs, -9223372036854775808 ≤ z ∧ z ≤ 9223372036854775807) : Con Tryz.prog 10 [ZI .i64 zs] (.one (PL (polyR zs) 10)) := (rPoly_con zs hz).mono (fun _ _ _ _ h => h) (pl_le1 ((pk_poly zs).sz (by decide) (by decide)))
end
end Vc
end Go.Proofs.YtcblbepaigdlgaaGreat
