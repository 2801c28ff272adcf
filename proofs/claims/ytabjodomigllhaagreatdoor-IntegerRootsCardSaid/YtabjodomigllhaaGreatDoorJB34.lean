/-
  Digits that are made and joined; roots.
-/
import Derived.Test.YtabjodomigllhaaGreatDoorJB33
import Derived.Test.YtabjodomigllhaaGreatDoorJB24
import Derived.ArgAppend
namespace Go.Proofs.YtabjodomigllhaaGreatDoor
open Go.RowKit
open Go.Lib (hid)
open Dg Zn
namespace Vc

section
variable {cx : Cx Dm} {n : Nat} {σ : St Dm} {o : Oper} {d t : Nat} {x y : Operand}

theorem ok_makeI {m : Nat} (hm : m ≤ 17592186044416) (ho : o.op = .makeSlice 22 x y) (hd : o.dst = some d) (hn : d < n) (hx : opd σ x = .av (.one (.v (.int .i64 (m : Int))))) (hy : opd σ y = .av (.one (.v (.int .i64 (m : Int))))) :
    OpOk Tryz.prog cx n σ o (opk x ++ opk y) [(.s d, .av (.one (.d (.full (List.replicate m 0)))))] := by
  intro σ' a w Q ⟨ρ, h⟩ h1 _ K hK
  obtain ⟨i0, hi, hz0, hz1, hz2⟩ := info_parts Tryz.int_info
  have e1 : a.eval x = .int .i64 (m : Int) := h.opd ((opd_same fun q hq => h1 q (by simp [hq])).trans hx)
  have e2 : a.eval y = .int .i64 (m : Int) := h.opd ((opd_same fun q hq => h1 q (by simp [hq])).trans hy)
  have hr := run_make (P := Tryz.prog) w 22 3 i0 (.int .i64 0) Tryz.under_ints hi hz0 .i64 .i64 (m : Int) (m : Int) (by omega) (Int.le_refl _) (by rw [hz2]; omega) (by omega)
  rw [Int.toNat_natCast, hz1] at hr
  unfold Oper.wp
  simp only [execOp, ho, e1, e2, Sem.run_bind, hr, Result.andThen_ok, Sem.run_pure, Oper.upon_value]
  rw [hd]
  have hR := RowI.made w m
  have hb := (show Below w.heap.size w (w.alloc (.cells (madeCells (Value.int .i64 0).cells (m * 1)) 3)) from (Below.refl _ _).alloc (Nat.le_refl _) _)
  refine hK _ _ ⟨ρ, h.put hb hn ?_ (by intro b hb; cases hb)⟩
  intro w' hag
  have hR' : RowI w' w.heap.size (List.replicate m 0) := by
    unfold RowI at hR ⊢
    rw [← hR]
    exact hag.2 w.heap.size (by simp) (fun hL => by have := h.lofLt _ hL; omega)
  refine ⟨hR'.nums 0 m m _ (by simp) (Nat.le_refl _) (by unfold maxLen; omega) (by simp) (fun i hi => ?_), _, by rw [List.length_replicate]⟩
  simp [List.getD_eq_getElem?_getD, List.getElem?_replicate, hi]
theorem ok_oneI {c : Nat} (ho : o.op = .buildSlice 22 1 #[(0, .const (.int .i64 (c : Int)))]) (hd : o.dst = some d) (hn : d < n) : OpOk Tryz.prog cx n σ o [] [(.s d, .av (.one (.d (.dl [c]))))] := by
  have h := ok_bslice (cx := cx) (n := n) (σ := σ) (o := o) (d := d) (ty := 22) (e := 3) (m := 0) (z := .int .i64 0) (xs := [.const (.int .i64 (c : Int))]) (ss := [.v (.int .i64 (c : Int))]) (r := .dl [c]) Tryz.under_ints (by kernel_rfl) (by simp) (by simp) ho hd hn (.cons rfl Conv.any .nil)
    (by intro s hs L ρ w v hv; obtain rfl := List.mem_singleton.1 hs; rw [show v = _ from hv]; rfl)
    (by
      intro L ρ w vs hall hlt w' hag
      match vs, hall with
      | [v], ⟨hv, _⟩ =>
        have hv : v = .int .i64 (c : Int) := hv
        subst hv
        have hb : w'.heap[w.heap.size]? = some (.cells #[.int .i64 (c : Int)] 3 (0, 0)) := by
          rw [hag.2 w.heap.size (by simp) (fun hL => by have := hlt _ hL; omega)]
          exact heap_alloc_new w _
        refine Nums.mk' rfl (Nat.le_refl _) (by simp [maxLen]) (fun i hi => ?_)
        have hi0 : i = 0 := by simpa using hi
        subst hi0
        rw [cell_of_row _ _ _ _ _ _ hb]
        rfl)
  exact h
theorem ok_appendF {ds es : List Nat} (hpos : 0 < ds.length) (hpos2 : 0 < es.length) (hlen : ds.length + es.length ≤ 1099511627776) (ho : o.op = .call ⟨.builtin .append, #[x, y], #[22, 22]⟩) (hd : o.dst = some d) (hn : d < n) (hx : opd σ x = .av (.one (.d (.full ds)))) (hy : opd σ y = .av (.one (.d (.dl es)))) :
    OpOk Tryz.prog cx n σ o (opk x ++ opk y) [(.s d, .av (.one (.d (.dl (ds ++ es)))))] := by
  intro σ' a w Q ⟨ρ, h⟩ h1 _ K hK
  obtain ⟨i0, hi, hz0, hz1, hz2⟩ := info_parts Tryz.int_info
  obtain ⟨hN, ao, hvx⟩ := (h.opd ((opd_same fun q hq => h1 q (by simp [hq])).trans hx)) w (Agree.refl _ _)
  have hM := (h.opd ((opd_same fun q hq => h1 q (by simp [hq])).trans hy)) w (Agree.refl _ _)
  obtain ⟨ao1, c1, e1, -, -, g1⟩ := hN
  obtain ⟨ao2, c2, e2, -, -, g2⟩ := hM
  rw [hvx] at e1
  injection e1 with e3 e4 e5
  obtain ⟨b, off, rfl, k1⟩ := g1 hpos
  obtain ⟨b2, off2, rfl, k2⟩ := g2 hpos2
  subst e3
  have cells : ∀ (b off : Nat) (ds : List Nat), (∀ i, i < ds.length → w.cell? ⟨b, off + i, none⟩ = some (.int .i64 ((ds.getD i 0 : Nat) : Int))) → ∀ j u, (ds.map fun d : Nat => Value.int .i64 (d : Int))[j]? = some u → w.cell? ((⟨b, off, none⟩ : Addr).add j) = some u := by
    intro b off ds hc j u hj
    rw [List.getElem?_map] at hj
    cases hq : ds[j]? with
    | none => rw [hq] at hj; cases hj
    | some d =>
      rw [hq] at hj
      obtain rfl := Option.some.inj hj
      have hjl := (List.getElem?_eq_some_iff.1 hq).1
      rw [Addr.add_lit, hc j hjl, List.getD_eq_getElem?_getD, hq]
      rfl
  obtain ⟨v', w', hr, hown, hgrow⟩ := run_append_arg_grows (P := Tryz.prog) w 22 o.type 3 i0 (.int .i64 0) 1 8 Tryz.under_ints hi hz0 hz1 hz2 rfl (by decide) ⟨b, off, none⟩ ds.length ds.length (ds.map fun d : Nat => Value.int .i64 (d : Int)) (by simp) (cells b off ds k1) ⟨b2, off2, none⟩ es.length c2 (es.map fun d : Nat => Value.int .i64 (d : Int)) (by simp) (cells b2 off2 es k2) (by omega) (by unfold maxLen; omega) (by omega)
  have hb : Below w.heap.size w w' := (Below.refl _ _).grown hgrow (Nat.le_refl _) (fun k hk => by cases hk)
  have hrun : (execOp a.eval o).run Tryz.prog w = .ok (.value v') w' := by
    simp only [execOp, ho, resolve, invoke, builtin, Sem.run_bind, Sem.run_pure, Result.andThen_ok]
    rw [show (#[x, y] : Array Operand).map a.eval = #[.slice (some ⟨b, off, none⟩) ds.length ds.length, .slice (some ⟨b2, off2, none⟩) es.length c2] by simp [hvx, e2]]
    rw [hr]
    rfl
  unfold Oper.wp
  rw [hrun, Oper.upon_value, hd]
  refine hK _ _ ⟨ρ, h.put hb hn ?_ (by intro b hb; cases hb)⟩
  intro w'' hag
  have hown2 : OwnN w' w.heap.size v' (ds ++ es) := by
    unfold OwnN
    rw [List.length_append, List.map_append]
    exact hown
  obtain ⟨ao', c', q1, q2, q3, q4⟩ := hown2.nums
  refine ⟨ao', c', q1, q2, q3, fun hl => ?_⟩
  obtain ⟨g, off', q5, q6⟩ := q4 hl
  refine ⟨g, off', q5, fun i hi => ?_⟩
  have hge : w.heap.size ≤ g ∧ g < w'.heap.size := by
    have := World.ownsRow.lt hown g (by rw [q1, q5]; rfl)
    exact this
  rw [World.cell?_of_block (w := w') (hag.2 g hge.2 (fun hL => by have := h.lofLt _ hL; omega))]
  exact q6 i hi
end

theorem normal_con (b : Bool) (ds : List Nat) (k : Nat) (hds : Dig ds) (hk : len (mk b (val ds)) ≤ k) : Con Tryz.prog 96 [.v (.bool b), .d (Dm.dl ds)] (.one (.d (Dm.int (mk b (val ds)) k))) := by
  rintro L ρ w vs hlt hn hwf hall
  match vs, hall with
  | [u, v], ⟨h1, h2, _⟩ =>
    obtain rfl : u = _ := h1
    refine (normal_any b v ds w (h2 w (Agree.refl _ _)) hds).mono ?_
    rintro e w' ⟨v, rfl, h3, h4⟩
    exact ⟨v, rfl, h4, int_is (ρ := ρ) h3 hk hn hlt h4⟩

/-- What a root is, with whether it is exact. -/
def IsRoot (x r : Int) (b : Bool) : Prop := (x < 0 ∧ r = 0 ∧ b = false) ∨ (0 ≤ x ∧ 0 ≤ r ∧ r * r ≤ x ∧ x < (r + 1) * (r + 1) ∧ b = decide (r * r = x))
theorem sq_exists (n : Nat) : ∃ r : Nat, r * r ≤ n ∧ n < (r + 1) * (r + 1) := by
  induction n with
  | zero => exact ⟨0, by decide, by decide⟩
  | succ n ih =>
    obtain ⟨r, h1, h2⟩ := ih
    rcases Nat.lt_or_ge (n + 1) ((r + 1) * (r + 1)) with h | h
    · exact ⟨r, by omega, h⟩
    · refine ⟨r + 1, h, ?_⟩
      have : (r + 1 + 1) * (r + 1 + 1) = (r + 1) * (r + 1) + 2 * (r + 1) + 1 := by grind
      omega
theorem root_exists (x : Int) : ∃ r b, IsRoot x r b := by
  rcases Int.lt_or_le x 0 with h | h
  · exact ⟨0, false, .inl ⟨h, rfl, rfl⟩⟩
  · obtain ⟨r, h1, h2⟩ := sq_exists x.natAbs
    refine ⟨r, _, .inr ⟨h, by omega, ?_, ?_, rfl⟩⟩
    · have : ((r * r : Nat) : Int) ≤ x.natAbs := by exact_mod_cast h1
      rw [Int.natCast_mul] at this
      omega
    · have : (x.natAbs : Int) < (((r + 1) * (r + 1) : Nat) : Int) := by exact_mod_cast h2
      rw [Int.natCast_mul, Int.natCast_add] at this
      have e : ((1 : Nat) : Int) = 1 := rfl
      rw [e] at this
      omega
theorem sq_lt {a b : Int} (ha : 0 ≤ a) (h : a * a < b * b) (hb : 0 ≤ b) : a < b := by
  rcases Int.lt_or_le a b with h1 | h1
  · exact h1
  · exact absurd (Int.mul_le_mul h1 h1 hb ha) (by omega)
theorem root_of {x r r' : Int} (hr : 0 ≤ r) (h1 : r * r ≤ x) (h2 : x < (r + 1) * (r + 1)) (k0 : 0 ≤ r') (k1 : r' * r' ≤ x) (k2 : x < (r' + 1) * (r' + 1)) : r = r' := by
  have a := sq_lt hr (Int.lt_of_le_of_lt h1 k2) (by omega)
  have b := sq_lt k0 (Int.lt_of_le_of_lt k1 h2) (by omega)
  omega
theorem root_len {x r : Int} (hx : 0 ≤ x) (hr : 0 ≤ r) (h1 : r * r ≤ x) {k : Nat} (hk : len x ≤ k) : len r ≤ k := by
  refine Nat.le_trans (len_mono ?_) hk
  rcases Int.lt_or_le 0 r with h | h
  · have : r * 1 ≤ r * r := Int.mul_le_mul_of_nonneg_left (by omega) hr
    omega
  · omega
theorem root_top (A : Nat) : A < 1000000000 ^ ((dig A).length / 2 + 1) * 1000000000 ^ ((dig A).length / 2 + 1) := by
  have h1 : A < 1000000000 ^ (dig A).length := dig_length_le.1 (Nat.le_refl _)
  have h2 : 1000000000 ^ (dig A).length ≤ 1000000000 ^ (((dig A).length / 2 + 1) + ((dig A).length / 2 + 1)) := Nat.pow_le_pow_right (by decide) (by omega)
  rw [Nat.pow_add] at h2
  omega
theorem val_top (p : Nat) : val (List.replicate p 0 ++ [1]) = 1000000000 ^ p := by
  induction p with
  | zero => rfl
  | succ p ih =>
    rw [List.replicate_succ, List.cons_append, show val (0 :: (List.replicate p 0 ++ [1])) = 0 + 1000000000 * val (List.replicate p 0 ++ [1]) from rfl, ih, Nat.pow_succ]
    omega
theorem Dig_top (p : Nat) : Dig (List.replicate p 0 ++ [1]) := by
  intro x hx
  rcases List.mem_append.1 hx with h | h
  · rw [(List.mem_replicate.1 h).2]; decide
  · rw [List.mem_singleton.1 h]; decide
theorem len_top (p : Nat) : len ((1000000000 ^ p : Nat) : Int) ≤ p + 1 := by
  rw [len_lt, Int.natAbs_natCast]
  exact Nat.pow_lt_pow_right (by decide) (by omega)
theorem XV.le_int {T : TypeId} {z z' : Int} {k k' : Nat} (hz : z = z') (h : len z' ≤ k') : XV.le (.blk T [(some 2, .d (Dm.int z k))]) (.blk T [(some 2, .d (Dm.int z' k'))]) := by
  subst hz
  refine ⟨rfl, ?_⟩
  rintro L ρ w cs ⟨p, r, v, h1, h2, h3, h4⟩
  exact ⟨p, r, v, h1, h2, fun w' hw => ⟨(h3 w' hw).1, h⟩, h4⟩
theorem cmp_lt {x y : Int} : (decide (cmpI x y < 0) = true) ↔ x < y := by
  unfold cmpI
  split
  · simp; omega
  · split <;> simp <;> omega
theorem cmp_le {x y : Int} : (decide (cmpI x y ≤ 0) = true) ↔ x ≤ y := by
  unfold cmpI
  split
  · simp; omega
  · split <;> simp <;> omega
theorem cmp_eq {x y : Int} : (cmpI x y == 0) = decide (x = y) := by
  unfold cmpI
  split
  · simp; omega
  · split <;> simp <;> omega

end Vc
end Go.Proofs.YtabjodomigllhaaGreatDoor
