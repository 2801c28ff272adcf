/-
  Contracts of gantry/integer: leading, stepsOf.
-/
import Derived.Test.YtelfpefcjchjbaaGreatDoorIntZM
import Derived.Test.YtelfpefcjchjbaaGreatDoorIntZO
namespace Go.Proofs.YtelfpefcjchjbaaGreatDoor
open Go.RowKit
open Go.Lib (hid)
open Dg
namespace Zn

theorem top3_div {ds : List Nat} {k : Nat} (hd : Dig ds) (hk : 2 ≤ k) (hl : ds.length ≤ k + 1) : top3 ds k = val ds / 1000000000 ^ (k - 2) := by
  have h1 := top_split ds k hk hl
  have h2 := take_lt hd (k - 2)
  rw [h1, Nat.add_comm, Nat.add_mul_div_right _ _ (Nat.pow_pos (by decide)), Nat.div_eq_of_lt h2, Nat.zero_add]

def RetQuo (q : Nat) (w : World) (e : Ending) (w' : World) : Prop := e = .returned (.int .i64 (q : Int)) ∧ Below w.heap.size w w'

set_option maxRecDepth 100000 in
set_option maxHeartbeats 1000000 in
theorem leadF_any (vc : Value) (c : List Nat) (ao : Option Addr) (n ac ga gb D : Nat) (w : World) (hc : Nums w vc c) (hd : Dig c) (h1 : w.cell? ⟨ga, 0, none⟩ = some (.slice ao n ac)) (h2 : w.cell? ⟨gb, 0, none⟩ = some (.int .u64 (D : Int))) (hn : 3 ≤ n) (hn2 : n ≤ 1099511627776) (hD : 2 ≤ D) (hD2 : D ≤ 1000000000) (hlt : top3 c (n - 1) < D * 1000000000000000000) :
    Calls Tryz.prog 121 #[vc, .pointer (some ⟨ga, 0, none⟩), .pointer (some ⟨gb, 0, none⟩)] w (RetQuo (top3 c (n - 1) / D) w) := by
  have HT := hid (top_any vc c (n - 1) w hc hd (by omega) (by omega))
  have hqb : top3 c (n - 1) / D < 1000000000000000000 := by
    rw [Nat.div_lt_iff_lt_mul (by omega), Nat.mul_comm]
    exact hlt
  generalize top3 c (n - 1) = N at *
  have HD := hid (Div64_any (N / 18446744073709551616) (N % 18446744073709551616) D w (by omega) (by omega) (Nat.mod_lt _ (by decide)))
  rw [show N / 18446744073709551616 * 18446744073709551616 + N % 18446744073709551616 = N by omega] at HD
  unfold RetDiv at HD
  unfold RetTop at HT
  rw [show ((n - 1 : Nat) : Int) = (n : Int) - 1 by omega] at HT
  generalize N / 18446744073709551616 = H at *
  generalize N % 18446744073709551616 = L at *
  generalize N % D = R at *
  generalize N / D = q at *
  have hki : (3 : Int) ≤ (n : Int) := by omega
  have hkb : (n : Int) ≤ 1099511627776 := by omega
  have hqi : (q : Int) < 1000000000000000000 := by omega
  clear hlt hc hd
  go_enter Tryz.func121, Tryz.ntmps121
  go_wp2_with fail
  refine HT.out.mono ?_
  rintro e w' ⟨rfl, rfl⟩
  go_wp2_with fail
  refine HD.out.mono ?_
  rintro e w' ⟨rfl, hbel⟩
  have HBL := hid hbel
  clear hbel
  go_wp2
  go_ret
  exact ⟨rfl, HBL.out⟩

/-- Behind leading. -/
def RetLead (x y : Nat) (w : World) (e : Ending) (w' : World) : Prop := e = .returned (.tuple #[.int .i64 (x : Int), .int .i64 (y : Int)]) ∧ Below w.heap.size w w'

set_option maxRecDepth 100000 in
set_option maxHeartbeats 1000000 in
theorem leading_any (va vb : Value) (a b : List Nat) (w : World) (ha : Nums w va a) (hb : Nums w vb b) (hda : Dig a) (hdb : Dig b) (hn : 3 ≤ a.length) (hn2 : a.length ≤ 1099511627776) (htop : a.getD (a.length - 1) 0 ≠ 0) (hbl : b.length ≤ a.length) (hle : val b ≤ val a) :
    Calls Tryz.prog 105 #[va, vb] w (RetLead (top3 a (a.length - 1) / (a.getD (a.length - 1) 0 + 1)) (top3 b (a.length - 1) / (a.getD (a.length - 1) 0 + 1)) w) := by
  have ha' := ha
  obtain ⟨ao, ac, rfl, a1, a2, -⟩ := ha'
  have HA := hid ha
  have HB := hid hb
  have d0 := hda.getD (a.length - 1)
  have d1 := hda.getD (a.length - 1 - 1)
  have d2 := hda.getD (a.length - 1 - 2)
  have hta : top3 a (a.length - 1) < (a.getD (a.length - 1) 0 + 1) * 1000000000000000000 := by unfold top3; omega
  have htb : top3 b (a.length - 1) ≤ top3 a (a.length - 1) := by
    rw [top3_div hda (by omega) (by omega), top3_div hdb (by omega) (by omega)]
    exact Nat.div_le_div_right hle
  have HP := hid (fun w1 (h : Nums w1 (.slice ao a.length ac) a) => place_any _ a (a.length - 1) w1 h hda (by omega))
  rw [show ((a.length - 1 : Nat) : Int) = (a.length : Int) - 1 by omega] at HP
  have HFA := hid (fun w1 ga gb (h : Nums w1 (.slice ao a.length ac) a) h1 h2 => leadF_any (.slice ao a.length ac) a ao a.length ac ga gb (a.getD (a.length - 1) 0 + 1) w1 h hda h1 h2 hn hn2 (by omega) (by omega) hta)
  have HFB := hid (fun w1 ga gb (h : Nums w1 vb b) h1 h2 => leadF_any vb b ao a.length ac ga gb (a.getD (a.length - 1) 0 + 1) w1 h hdb h1 h2 hn hn2 (by omega) (by omega) (by omega))
  generalize top3 a (a.length - 1) / (a.getD (a.length - 1) 0 + 1) = x at *
  generalize top3 b (a.length - 1) / (a.getD (a.length - 1) 0 + 1) = y at *
  generalize a.getD (a.length - 1) 0 = d at *
  have hki : (3 : Int) ≤ (a.length : Int) := by omega
  have hkb : (a.length : Int) ≤ 1099511627776 := by omega
  have hdi : (d : Int) < 1000000000 := by omega
  obtain ⟨D, hD⟩ : ∃ D, D = d + 1 := ⟨_, rfl⟩
  have HDD := hid (show (D : Int) ≤ 1000000000 ∧ 0 ≤ (D : Int) by omega)
  have HDI := hid (show (d : Int) + 1 = (D : Int) by omega)
  rw [← hD] at HFA HFB
  obtain ⟨W1, hW1⟩ : ∃ W1, W1 = w.alloc (Obj.cells #[Value.slice ao a.length ac] 22) := ⟨_, rfl⟩
  have hb1 : Below w.heap.size w W1 := by rw [hW1]; exact (Below.refl _ _).alloc (Nat.le_refl _) _
  have hs1 : W1.heap.size = w.heap.size + 1 := by rw [hW1]; simp
  have hc1 : W1.cell? ⟨w.heap.size, 0, none⟩ = some (.slice ao a.length ac) := by rw [hW1]; exact cell_of_row _ _ 0 _ _ _ (heap_alloc_new w _)
  obtain ⟨W2, hW2⟩ : ∃ W2, W2 = W1.alloc (Obj.cells #[Value.int .u64 (D : Int)] 68) := ⟨_, rfl⟩
  have hb2 : Below W1.heap.size W1 W2 := by rw [hW2]; exact (Below.refl _ _).alloc (Nat.le_refl _) _
  have hc2 : W2.cell? ⟨w.heap.size + 1, 0, none⟩ = some (.int .u64 (D : Int)) := by rw [hW2, ← hs1]; exact cell_of_row _ _ 0 _ _ _ (heap_alloc_new W1 _)
  have hc1' := keepCell hb2 hc1
  have HW1 := hid hW1
  have HW2 := hid hW2
  have HB1 := hid hb1
  have HB2 := hid hb2
  have HC1 := hid hc1'
  have HC2 := hid hc2
  have HS1 := hid hs1
  clear hta htb ha hb a2 hda hdb hD hb1 hb2 hc1' hc2 hW1 hW2 hs1
  go_enter Tryz.func105, Tryz.ntmps105
  go_wp2_with fail
  rw [← HW1.out]
  refine (HP.out _ (HA.out.keep HB1.out)).mono ?_
  rintro e w' ⟨rfl, rfl⟩
  clear hc1 htop d0 d1 d2 hle hdi
  have hwr : IntKind.u64.wrap ((d : Int) + 1) = (D : Int) := by rw [HDI.out]; exact IntWalk.u64_in _ (by have := HDD.out; omega)
  go_upto_region 3 with fail
  rw [← HW2.out, HS1.out]
  have hc1 := HC1.out
  go_wp2_with fail
  refine (HFA.out W2 w.heap.size (w.heap.size + 1) ((HA.out.keep HB1.out).keep HB2.out) HC1.out HC2.out).mono ?_
  rintro e w3 ⟨rfl, hb3⟩
  have HB3 := hid hb3
  clear hb3 hc1
  go_wp2_with fail
  refine (HFB.out w3 w.heap.size (w.heap.size + 1) (((HB.out.keep HB1.out).keep HB2.out).keep HB3.out) (keepCell HB3.out HC1.out) (keepCell HB3.out HC2.out)).mono ?_
  rintro e w4 ⟨rfl, hb4⟩
  have HB4 := hid (Pu.further (Pu.further (Pu.further HB1.out HB2.out) HB3.out) hb4)
  clear hb4
  go_wp2
  go_ret2
  exact ⟨rfl, HB4.out⟩

theorem Tryz.st_size : (Tryz.prog.info? 99).map (·.size) = some 4 := by kernel_rfl
theorem Tryz.st_struct : (Tryz.prog.underlying 99).map (fun d => match d with | .struct _ => true | _ => false) = some true := by kernel_rfl

/-- A block that holds steps. -/
def StRow (w : World) (g : Nat) (p q r s : Int) : Prop := w.heap[g]? = some (.cells #[.int .i64 p, .int .i64 q, .int .i64 r, .int .i64 s] 99 (0, 0))
theorem StRow.keep {w w' : World} {g : Nat} {p q r s : Int} (h : StRow w g p q r s) (hb : Below w.heap.size w w') : StRow w' g p q r s := heapKeep hb h
theorem StRow.cells {w : World} {g : Nat} {p q r s : Int} (h : StRow w g p q r s) : w.cell? ⟨g, 0, none⟩ = some (.int .i64 p) ∧ w.cell? ⟨g, 1, none⟩ = some (.int .i64 q) ∧ w.cell? ⟨g, 2, none⟩ = some (.int .i64 r) ∧ w.cell? ⟨g, 3, none⟩ = some (.int .i64 s) :=
  ⟨cell_of_row _ _ 0 _ _ _ h, cell_of_row _ _ 1 _ _ _ h, cell_of_row _ _ 2 _ _ _ h, cell_of_row _ _ 3 _ _ _ h⟩
theorem StRow.set {w : World} {g : Nat} {p q r s p' q' r' s' : Int} (h : StRow w g p q r s) : StRow (w.setRow g #[.int .i64 p', .int .i64 q', .int .i64 r', .int .i64 s']) g p' q' r' s' := setRow_heap _ _ _ _ _ _ h
theorem StRow.other {w : World} {g h : Nat} {p q r s : Int} {cs : Array Value} (hr : StRow w g p q r s) (hne : g ≠ h) : StRow (w.setRow h cs) g p q r s := by
  unfold StRow
  rw [setRow_other w h g cs hne]
  exact hr
theorem wpList_load_st {ops : Array Oper} {rest : List Oper} {o : Oper} {a : Act} {w : World} {Q : Exit → Act → World → Prop} (hgd : o.guard = none) (x : Operand) (ho : o.op = .load 99 x)
    (g : Nat) (p q r s : Int) (hx : a.eval x = .pointer (some ⟨g, 0, none⟩)) (hg : StRow w g p q r s)
    (h : wpList Tryz.prog ops Q rest (a.put o.dst (.agg #[.int .i64 p, .int .i64 q, .int .i64 r, .int .i64 s])) w) : wpList Tryz.prog ops Q (o :: rest) a w := by
  obtain ⟨d, hd1, hd2⟩ := struct_of Tryz.st_struct
  exact wpList_load_row hgd 99 x ho g hx 99 _ (0, 0) d hg hd1 (by cases d <;> first | rfl | cases hd2) Tryz.st_size h
theorem wpList_store_st {ops : Array Oper} {rest : List Oper} {o : Oper} {a : Act} {w : World} {Q : Exit → Act → World → Prop} (hgd : o.guard = none) (x y : Operand) (ho : o.op = .store 99 x y)
    (g : Nat) (p q r s p' q' r' s' : Int) (hx : a.eval x = .pointer (some ⟨g, 0, none⟩)) (hy : a.eval y = .agg #[.int .i64 p', .int .i64 q', .int .i64 r', .int .i64 s']) (hg : StRow w g p q r s)
    (h : wpList Tryz.prog ops Q rest (a.put o.dst undef) (w.setRow g #[.int .i64 p', .int .i64 q', .int .i64 r', .int .i64 s'])) : wpList Tryz.prog ops Q (o :: rest) a w :=
  wpList_store_row hgd 99 x y ho g _ hx hy 99 _ hg Tryz.st_size rfl (by simp [Value.oneCell']) h

/-- What steps are known of: they lead on, or there are none. -/
def Known (A B : Nat) (p q r s : Int) : Prop :=
  (-1000000000 < p ∧ p < 1000000000 ∧ -1000000000 < q ∧ q < 1000000000 ∧ -1000000000 < r ∧ r < 1000000000 ∧ -1000000000 < s ∧ s < 1000000000) ∧
  (q ≠ 0 → ∃ X Y : Nat, (X : Int) = p * (A : Int) + q * (B : Int) ∧ (Y : Int) = r * (A : Int) + s * (B : Int) ∧ Y ≤ X ∧ X ≤ A ∧ Y < B ∧ Nat.gcd X Y = Nat.gcd A B)
/-- Behind stepsOf. -/
def RetSteps (A B : Nat) (w : World) (e : Ending) (w' : World) : Prop := ∃ p q r s, e = .returned (.agg #[.int .i64 p, .int .i64 q, .int .i64 r, .int .i64 s]) ∧ Known A B p q r s ∧ Below w.heap.size w w'

/-- stepsOf's loop. -/
structure SLoop (A B : Nat) (x0 y0 M p q r s x y : Int) : Prop where
  ex : ∃ X Y : Int, Lh.T A B x0 y0 M p q r s x y X Y ∧ 0 ≤ Y ∧ Y ≤ X ∧ X ≤ A ∧ (q = 0 ∨ Y < B) ∧ Y ≤ B ∧ Int.gcd X Y = Nat.gcd A B
  bd : -1000000000 < p ∧ p < 1000000000 ∧ -1000000000 < q ∧ q < 1000000000 ∧ -1000000000 < r ∧ r < 1000000000 ∧ -1000000000 < s ∧ s < 1000000000
  x0b : x0 < 1000000000000000000
  y0b : y0 < 1000000000000000000
  xb : x < 1000000000000000000
  yb : y < 1000000000000000000

theorem SLoop.known {A B : Nat} {x0 y0 M p q r s x y : Int} (h : SLoop A B x0 y0 M p q r s x y) : Known A B p q r s := by
  refine ⟨h.bd, fun hq => ?_⟩
  obtain ⟨X, Y, hT, h1, h2, h3, h4, -, h5⟩ := h.ex
  obtain ⟨e1, e2, -⟩ := hT.eqs
  obtain ⟨X, rfl⟩ := Int.eq_ofNat_of_zero_le (show 0 ≤ X by omega)
  obtain ⟨Y, rfl⟩ := Int.eq_ofNat_of_zero_le h1
  exact ⟨X, Y, e1, e2, by omega, by omega, by omega, h5⟩
theorem SLoop.pos {A B : Nat} {x0 y0 M p q r s x y : Int} (h : SLoop A B x0 y0 M p q r s x y) : 0 ≤ x + p ∧ 0 ≤ x + q ∧ 0 ≤ y + r ∧ 0 ≤ y + s ∧ 0 ≤ x ∧ 0 ≤ y := by
  obtain ⟨X, Y, hT, -⟩ := h.ex
  obtain ⟨-, -, h1⟩ := hT.eqs
  exact h1
theorem SLoop.step {A B : Nat} {x0 y0 M p q r s x y k : Int} (h : SLoop A B x0 y0 M p q r s x y) (h1 : y + r ≠ 0) (h2 : y + s ≠ 0) (hk1 : k = (x + p) / (y + r)) (hk2 : k = (x + q) / (y + s)) :
    SLoop A B x0 y0 M r s (p - k * r) (q - k * s) y (x - k * y) ∧ 0 ≤ k ∧ 0 ≤ x - k * y ∧ x - k * y < y ∧ 0 ≤ k * y := by
  obtain ⟨X, Y, hT, a1, a2, a3, a4, a6, a5⟩ := h.ex
  obtain ⟨hT', b1, b2, b3, b5, b6, b7, b8⟩ := hT.step h1 h2 hk1 hk2 h.x0b h.y0b
  have hbd := h.bd
  obtain ⟨e1, e2, -⟩ := hT'.eqs
  refine ⟨⟨⟨Y, X - k * Y, hT', b1, Int.le_of_lt b2, by omega, .inr (by omega), by omega, by rw [Lh.gcd_step]; exact a5⟩, by omega, h.x0b, h.y0b, h.yb, by have := h.yb; omega⟩, b5, b6, b7, b8.1⟩

theorem SLoop.start {A B : Nat} {M x0 y0 : Nat} (hM : 0 < M) (hx : x0 = A / M) (hy : y0 = B / M) (hx0 : x0 < 1000000000000000000) (hBA : B ≤ A) : SLoop A B x0 y0 M 1 0 0 1 x0 y0 := by
  have e1 := Nat.div_add_mod A M
  have e2 := Nat.mod_lt A hM
  have e3 := Nat.div_add_mod B M
  have e4 := Nat.mod_lt B hM
  have hyx : y0 ≤ x0 := by rw [hx, hy]; exact Nat.div_le_div_right hBA
  rw [← hx] at e1
  rw [← hy] at e3
  have f1 : ((M * x0 : Nat) : Int) = (M : Int) * (x0 : Int) := Int.natCast_mul ..
  have f2 : ((M * y0 : Nat) : Int) = (M : Int) * (y0 : Int) := Int.natCast_mul ..
  refine ⟨⟨A, B, Lh.T.start (by omega) (by omega) (by omega) (by omega) (by omega) (by omega) (by omega), by omega, by omega, by omega, .inl rfl, by omega, rfl⟩, by omega, by omega, by omega, by omega, by omega⟩

theorem ret_steps {fn : Func} {p : Tmp} (h : fn.results = #[.cell p 99]) {tmps : Array Value} {A B : Nat} {w0 w : World} {g : Nat} {a b c d : Int} (hp : tmps.getD p undef = .pointer (some ⟨g, 0, none⟩))
    (hg : StRow w g a b c d) (hk : Known A B a b c d) (hb : Below w0.heap.size w0 w) : bodyPost Tryz.prog fn (RetSteps A B w0) .ret ⟨tmps, []⟩ w := by
  obtain ⟨dd, hd1, hd2⟩ := struct_of Tryz.st_struct
  exact bodyPost_ret (results_cell_row h _ _ g 99 _ (0, 0) dd hp hg hd1 (by cases dd <;> first | rfl | cases hd2) Tryz.st_size) rfl ⟨a, b, c, d, rfl, hk, hb⟩

set_option maxRecDepth 100000 in
set_option maxHeartbeats 4000000 in
theorem stepsOf_any (va vb : Value) (a b : List Nat) (w : World) (ha : Nums w va a) (hb : Nums w vb b) (hda : Dig a) (hdb : Dig b) (hn : 3 ≤ a.length) (hn2 : a.length ≤ 1099511627776) (htop : a.getD (a.length - 1) 0 ≠ 0) (hbl : b.length ≤ a.length) (hle : val b ≤ val a) :
    Calls Tryz.prog 88 #[va, vb] w (RetSteps (val a) (val b) w) := by
  obtain ⟨W, hW⟩ : ∃ W, W = w.alloc (Obj.cells #[.int .i64 0, .int .i64 0, .int .i64 0, .int .i64 0] 99) := ⟨_, rfl⟩
  have hbW : Below w.heap.size w W := by rw [hW]; exact (Below.refl _ _).alloc (Nat.le_refl _) _
  have hr0 : StRow W w.heap.size 0 0 0 0 := by rw [hW]; exact heap_alloc_new w _
  have HL := hid (leading_any va vb a b W (ha.keep hbW) (hb.keep hbW) hda hdb hn hn2 htop hbl hle)
  have d0 := hda.getD (a.length - 1)
  obtain ⟨D, hD⟩ : ∃ D, D = a.getD (a.length - 1) 0 + 1 := ⟨_, rfl⟩
  rw [← hD] at HL
  have hM : 0 < 1000000000 ^ (a.length - 1 - 2) * D := Nat.mul_pos (Nat.pow_pos (by decide)) (by omega)
  have hx : top3 a (a.length - 1) / D = val a / (1000000000 ^ (a.length - 1 - 2) * D) := by rw [top3_div hda (by omega) (by omega), Nat.div_div_eq_div_mul]
  have hy : top3 b (a.length - 1) / D = val b / (1000000000 ^ (a.length - 1 - 2) * D) := by rw [top3_div hdb (by omega) (by omega), Nat.div_div_eq_div_mul]
  have hx0 : top3 a (a.length - 1) / D < 1000000000000000000 := by
    have d1 := hda.getD (a.length - 1 - 1)
    have d2 := hda.getD (a.length - 1 - 2)
    rw [Nat.div_lt_iff_lt_mul (by omega), hD]
    unfold top3
    omega
  have HS := hid (SLoop.start hM hx hy hx0 hle)
  generalize top3 a (a.length - 1) / D = x0 at *
  generalize top3 b (a.length - 1) / D = y0 at *
  generalize 1000000000 ^ (a.length - 1 - 2) * D = M at *
  generalize val a = A at *
  generalize val b = B at *
  have HW := hid hW
  have HBW := hid hbW
  have HR0 := hid hr0
  clear hW hbW hr0 hx hy hM ha hb hda hdb hx0 d0 hD hle hbl htop hn hn2
  go_enter Tryz.func88, Tryz.ntmps88
  go_wp2_with fail
  rw [← HW.out]
  refine HL.out.mono ?_
  rintro e w1 ⟨rfl, hb1⟩
  have HB1 := hid (Pu.further HBW.out hb1)
  have HR1 := hid (HR0.out.keep hb1)
  clear hb1
  have hlt : w.heap.size < w1.heap.size := by
    have h := HR1.out
    unfold StRow at h
    rcases Nat.lt_or_ge w.heap.size w1.heap.size with h1 | h1
    · exact h1
    · rw [Array.getElem?_eq_none h1] at h; cases h
  go_upto_region 3 with fail
  obtain ⟨W2, hW2⟩ : ∃ W2, W2 = w1.alloc (Obj.cells #[.int .i64 1, .int .i64 0, .int .i64 0, .int .i64 1] 99) := ⟨_, rfl⟩
  have hb2 : Below w1.heap.size w1 W2 := by rw [hW2]; exact (Below.refl _ _).alloc (Nat.le_refl _) _
  have hr2 : StRow W2 w1.heap.size 1 0 0 1 := by rw [hW2]; exact heap_alloc_new w1 _
  rw [← hW2]
  have HB2 := hid (Pu.further HB1.out hb2)
  have HR2 := hid hr2
  have HR3 := hid (HR1.out.keep hb2)
  generalize w1.heap.size = h at *
  clear hW2 hb2 hr2 HR1 HB1 HL HW HBW HR0
  go_loopw [5, 6] (fun x y wr => ∃ x' y' p q r s, x = .int .i64 x' ∧ y = .int .i64 y' ∧ SLoop A B x0 y0 M p q r s x' y' ∧ StRow wr h p q r s ∧ (∃ a b c d, StRow wr w.heap.size a b c d) ∧ Below w.heap.size w wr) (fun _ y _ => (intOf y).toNat)
  case atStart => exact ⟨_, _, 1, 0, 0, 1, rfl, rfl, HS.out, HR2.out, ⟨_, _, _, _, HR3.out⟩, HB2.out⟩
  case round =>
    clear HS HR2 HR3 HB2
    obtain ⟨x, y, p, q, r, s, rfl, rfl, hs, hrow, ⟨a', b', c', d', hres⟩, hbel⟩ := hrel
    obtain ⟨n1, n2, n3, n4, n5, n6⟩ := hs.pos
    obtain ⟨p1, p2, q1, q2, r1, r2, s1, s2⟩ := hs.bd
    have xb := hs.xb
    have yb := hs.yb
    obtain ⟨c1, c2, c3, c4⟩ := hrow.cells
    have HS := hid hs
    have HROW := hid hrow
    have HRES := hid hres
    have HBEL := hid hbel
    clear hs hrow hres hbel
    obtain ⟨u1, hu1⟩ : ∃ u, x + p = u := ⟨_, rfl⟩
    obtain ⟨u2, hu2⟩ : ∃ u, y + r = u := ⟨_, rfl⟩
    obtain ⟨u3, hu3⟩ : ∃ u, x + q = u := ⟨_, rfl⟩
    obtain ⟨u4, hu4⟩ : ∃ u, y + s = u := ⟨_, rfl⟩
    rw [hu1] at n1
    rw [hu2] at n3
    rw [hu3] at n2
    rw [hu4] at n4
    have hret : ∀ tmps : Array Value, tmps.getD 4 undef = .pointer (some ⟨w.heap.size, 0, none⟩) → bodyPost Tryz.prog Tryz.f88 (RetSteps A B w) .ret ⟨tmps, []⟩ (wr.setRow w.heap.size #[.int .i64 p, .int .i64 q, .int .i64 r, .int .i64 s]) := fun tmps ht =>
      ret_steps rfl ht HRES.out.set HS.out.known (below_row HBEL.out (Nat.le_refl _) _)
    have HRET := hid hret
    clear hret
    have hbu1 : u1 ≤ 1000000001000000000 := by omega
    have hbu2 : u2 ≤ 1000000001000000000 := by omega
    have hbu3 : u3 ≤ 1000000001000000000 := by omega
    have hbu4 : u4 ≤ 1000000001000000000 := by omega
    by_cases hz2 : u2 = 0
    · have hz : (u2 == 0) = true := by rw [hz2]; rfl
      go_wp2_with (first | (with_reducible refine wpList_load_st rfl (.tmp 7) rfl h p q r s rfl HROW.out ?_) | (with_reducible refine wpList_store_st rfl (.tmp 4) (.tmp 28) rfl w.heap.size a' b' c' d' p q r s rfl rfl HRES.out ?_))
      exact HRET.out _ rfl
    · have hz : (u2 == 0) = false := by rw [beq_eq_false_iff_ne]; exact hz2
      by_cases hz4 : u4 = 0
      · have hzz : (u4 == 0) = true := by rw [hz4]; rfl
        go_wp2_with (first | (with_reducible refine wpList_load_st rfl (.tmp 7) rfl h p q r s rfl HROW.out ?_) | (with_reducible refine wpList_store_st rfl (.tmp 4) (.tmp 28) rfl w.heap.size a' b' c' d' p q r s rfl rfl HRES.out ?_))
        exact HRET.out _ rfl
      · have hzz : (u4 == 0) = false := by rw [beq_eq_false_iff_ne]; exact hz4
        obtain ⟨k, hk⟩ : ∃ k, u1 / u2 = k := ⟨_, rfl⟩
        obtain ⟨k2, hk2⟩ : ∃ k, u3 / u4 = k := ⟨_, rfl⟩
        have hk0 : 0 ≤ k := by rw [← hk]; exact Int.ediv_nonneg n1 n3
        have hk20 : 0 ≤ k2 := by rw [← hk2]; exact Int.ediv_nonneg n2 n4
        have hkb : k ≤ 1000000001000000000 := by
          rw [← hk]
          exact Int.le_trans (Int.ediv_le_self _ n1) hbu1
        have hk2b : k2 ≤ 1000000001000000000 := by
          rw [← hk2]
          exact Int.le_trans (Int.ediv_le_self _ n2) hbu3
        by_cases hkk : k = k2
        · subst hkk
          have hkne : (k != k) = false := by simp
          obtain ⟨hs', m1, m2, m3, m4⟩ := HS.out.step (k := k) (by rw [hu2]; exact hz2) (by rw [hu4]; exact hz4) (by rw [hu1, hu2]; exact hk.symm) (by rw [hu3, hu4]; exact hk2.symm)
          obtain ⟨v1, hv1⟩ : ∃ v, k * r = v := ⟨_, rfl⟩
          obtain ⟨v2, hv2⟩ : ∃ v, k * s = v := ⟨_, rfl⟩
          obtain ⟨v3, hv3⟩ : ∃ v, k * y = v := ⟨_, rfl⟩
          rw [hv1, hv2, hv3] at hs'
          have hbd := hs'.bd
          rw [hv3] at m2 m3 m4
          have b1 : -3000000000 ≤ v1 ∧ v1 ≤ 3000000000 ∧ -3000000000 ≤ v2 ∧ v2 ≤ 3000000000 := by omega
          obtain ⟨b1, b2, b3, b4⟩ := b1
          have HS' := hid hs'
          have m5 : v3 ≤ x := by omega
          have M2 := hid m2
          have M3 := hid m3
          clear hs' hbd m2 m3
          go_wp2_with (with_reducible refine wpList_store_st rfl (.tmp 7) (.tmp 68) rfl h p q r s r s (p - v1) (q - v2) rfl rfl HROW.out ?_)
          go_roundw
          case rel => exact ⟨y, x - v3, r, s, p - v1, q - v2, rfl, rfl, HS'.out, HROW.out.set, ⟨a', b', c', d', HRES.out.other (by omega)⟩, below_row HBEL.out (by omega) _⟩
          case measure => have := M2.out; have := M3.out; simp [intOf]; omega
        · have hkne : (k != k2) = true := by simp [hkk]
          go_wp2_with (first | (with_reducible refine wpList_load_st rfl (.tmp 7) rfl h p q r s rfl HROW.out ?_) | (with_reducible refine wpList_store_st rfl (.tmp 4) (.tmp 49) rfl w.heap.size a' b' c' d' p q r s rfl rfl HRES.out ?_))
          exact HRET.out _ rfl

end Zn
end Go.Proofs.YtelfpefcjchjbaaGreatDoor
