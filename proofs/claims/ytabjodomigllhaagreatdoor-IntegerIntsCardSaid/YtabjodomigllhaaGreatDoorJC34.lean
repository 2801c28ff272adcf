/-
  The reference's functions in this form; lists of lists.
-/
import Derived.Test.YtabjodomigllhaaGreatDoorJC33
import Derived.Test.YtabjodomigllhaaGreatDoorJC23
import Derived.Test.YtabjodomigllhaaGreatDoorJC25
namespace Go.Proofs.YtabjodomigllhaaGreatDoor
open Go.RowKit
open Go.Lib (hid)
open Dg Zn
namespace Vc

section
variable {cx : Cx Dm} {n : Nat} {σ : St Dm} {o : Oper} {d t : Nat} {j : Operand}

theorem LintAt.mono {w : World} {v : Value} {l : List Int} {k K : Nat} (h : LintAt w v l k) (hk : k ≤ K) : LintAt w v l K := by
  obtain ⟨ao, cap, h1, h2⟩ := h
  refine ⟨ao, cap, h1, fun hp => ?_⟩
  obtain ⟨b, off, h3, h4⟩ := h2 hp
  refine ⟨b, off, h3, fun i hi => ?_⟩
  obtain ⟨s, h5, h6, h7, h8⟩ := h4 i hi
  exact ⟨s, h5, h6, h7, Nat.le_trans h8 hk⟩
def LintsLe : List (SA Dm) → List (List Int) → Nat → Prop
  | [], [], _ => True
  | .d (.lint z k) :: ss, y :: l, K => (z = y ∧ k ≤ K) ∧ LintsLe ss l K
  | _, _, _ => False
theorem LintsLe.length : ∀ {ss : List (SA Dm)} {l : List (List Int)} {K : Nat}, LintsLe ss l K → ss.length = l.length
  | [], [], _, _ => rfl
  | .d (.lint z k) :: ss, y :: l, K, h => congrArg (· + 1) (LintsLe.length h.2)
theorem lints_one {ss : List (SA Dm)} {l : List (List Int)} {K : Nat} (h : LintsLe ss l K) : ∀ s ∈ ss, ∀ L ρ w v, s.is L ρ w v → v.cells.size = 0 + 1 := by
  induction ss generalizing l with
  | nil => intro s hs; cases hs
  | cons s ss ih =>
    match s, l, h with
    | .d (.lint z k), y :: l, h =>
      intro s hs L ρ w v hv
      rcases List.mem_cons.1 hs with e | e
      · subst e
        obtain ⟨a, c, rfl, _⟩ := hv w (Agree.refl _ _)
        rfl
      · exact ih h.2 s e L ρ w v hv
theorem lints_cells {ss : List (SA Dm)} {l : List (List Int)} {K : Nat} (h : LintsLe ss l K) {L : Nat → Prop} {ρ : Nat → Nat} {w : World} {vs : List Value} (hall : isAll L ρ w ss vs) :
    ∀ i, i < l.length → ∃ s, (vs.flatMap fun v => v.cells.toList)[i]? = some s ∧ (∀ w', Agree L w w' → LintAt w' s (l.getD i []) K) := by
  induction ss generalizing l vs with
  | nil => match l, h with | [], _ => intro i hi; cases hi
  | cons s ss ih =>
    match s, l, vs, h, hall with
    | .d (.lint z k), y :: l, v :: vs, h, hall =>
      obtain ⟨⟨rfl, hk⟩, h2⟩ := h
      have hv := hall.1
      obtain ⟨a, c, hve, _⟩ := hv w (Agree.refl _ _)
      intro i hi
      cases i with
      | zero => exact ⟨v, by rw [List.flatMap_cons, hve]; rfl, fun w' hw => LintAt.mono (hv w' hw) hk⟩
      | succ i =>
        obtain ⟨s, e1, e2⟩ := ih h2 hall.2 i (by simpa using hi)
        exact ⟨s, by rw [List.flatMap_cons, hve]; exact e1, e2⟩
theorem ok_bllint {xs : List Operand} {ss : List (SA Dm)} (l : List (List Int)) (K : Nat) (hsm : Nat.ble (ss.length * 1) 1000 = true) (hpos : Nat.blt 0 ss.length = true) (ho : o.op = .buildSlice 37 ss.length ((xs.zipIdx 0).map fun p => (p.2, p.1)).toArray) (hd : o.dst = some d) (hn : d < n) (hargs : ArgsOk σ xs ss) (hl : LintsLe ss l K) :
    OpOk Tryz.prog cx n σ o (xs.flatMap opk) [(.s d, .av (.one (.d (.llint l K))))] := by
  have hsm := Nat.le_of_ble_eq_true hsm
  have hpos : 0 < ss.length := by rw [Nat.blt_eq] at hpos; exact hpos
  refine ok_bslice (m := 0) (z := .slice none 0 0) under_llint (by kernel_rfl) (by omega) hpos ho hd hn hargs (lints_one hl) ?_
  intro L ρ w vs hall hlt w' hag
  have hlen := hl.length
  rw [hlen]
  refine ⟨_, _, rfl, fun hp => ⟨w.heap.size, 0, rfl, fun i hi => ?_⟩⟩
  obtain ⟨s, e1, e2⟩ := lints_cells hl hall i hi
  have hb : w'.heap[w.heap.size]? = some (.cells (vs.flatMap fun v => v.cells.toList).toArray 30 (0, 0)) := by
    rw [hag.2 w.heap.size (by simp) (fun hL => by have := hlt _ hL; omega)]
    exact heap_alloc_new w _
  have hag' : Agree L w w' := (Agree.below ((Below.refl _ _).alloc (Nat.le_refl _) _)).trans hag
  refine ⟨s, ?_, e2 w' hag'⟩
  rw [Nat.zero_add, cell_of_row _ _ _ _ _ _ hb]; simpa using e1

/-- The zero of an integer. -/
theorem ok_buildI (ho : o.op = .build 24 #[]) (hd : o.dst = some d) (hn : d < n) : OpOk Tryz.prog cx n σ o [] [(.s d, .av (.one (.d (.int 0 0))))] := by
  refine ok_read hd hn rfl fun σ' ρ a w h hk => ⟨.agg #[.bool false, .slice none 0 0], ?_, ?_⟩
  · have hb : Tryz.prog.built 24 (#[] : Array (Nat × Value)).toList = some #[.bool false, .slice none 0 0] := by kernel_rfl
    have hb2 := run_build w 24 #[] _ hb
    simp only [execOp, ho, Sem.run_bind]
    rw [show (#[] : Array (Nat × Operand)).map (fun p => (p.1, a.eval p.2)) = #[] by simp, hb2]
    rfl
  · intro w' _
    exact ⟨int_zero w', by show (dig 0).length ≤ 0; rw [dig_zero]; exact Nat.le_refl _⟩
end

theorem Number_con (zs : List Int) (p : Nat) (hp : p ≤ 1000000) : Con Tryz.prog 14 [.d (Dm.ints zs), .v (.int .i64 (p : Int))] (.one (.d (Dm.int (numI zs p) 7))) := by
  rintro L ρ w vs hlt hn hwf hall
  match vs, hall with
  | [v, u], ⟨h1, h2, _⟩ =>
    obtain rfl : u = _ := h2
    refine (Number_any v zs p w (h1 w (Agree.refl _ _)) hp).mono ?_
    rintro e w' ⟨v, rfl, h3, h4⟩
    exact ⟨v, rfl, h4, int_is (ρ := ρ) h3 (numI_len zs p) hn hlt h4⟩
theorem At_con (zs : List Int) (i m : Int) (hi : 0 ≤ i) (hm : 1 ≤ m) (hm2 : m ≤ 9223372036854775807) : Con Tryz.prog 94 [.d (Dm.ints zs), .v (.int .i64 i), .v (.int .i64 m)] (.one (.v (.int .i64 (atI zs i.toNat m)))) := by
  rintro L ρ w vs hlt hn hwf hall
  match vs, hall with
  | [v, u, u'], ⟨h1, h2, h3, _⟩ =>
    obtain rfl : u = _ := h2
    obtain rfl : u' = _ := h3
    refine (At_any v zs i m w (h1 w (Agree.refl _ _)) hi hm hm2).mono ?_
    rintro e w' ⟨rfl, rfl⟩
    exact ⟨_, rfl, Below.refl _ _, rfl⟩
theorem Around_con (z m : Int) (h1 : -9223372036854775808 ≤ z) (h2 : z ≤ 9223372036854775807) (hm : 1 ≤ m) (hm2 : m ≤ 9223372036854775807) : Con (D := Dm) Tryz.prog 16 [.v (.int .i64 z), .v (.int .i64 m)] (.one (.v (.int .i64 (aroundI z m)))) := by
  rintro L ρ w vs hlt hn hwf hall
  match vs, hall with
  | [u, u'], ⟨h3, h4, _⟩ =>
    obtain rfl : u = _ := h3
    obtain rfl : u' = _ := h4
    refine (Around_any z m w h1 h2 hm hm2).mono ?_
    rintro e w' ⟨rfl, rfl⟩
    exact ⟨_, rfl, Below.refl _ _, rfl⟩
theorem rOf_con (z : Int) (h1 : -9223372036854775808 ≤ z) (h2 : z ≤ 9223372036854775807) : Con Tryz.prog 17 [.v (.int .i64 z)] (.one (.d (Dm.int z 3))) :=
  con_int0 (fun w => refOf_any z w h1 h2) (by rw [len_lt]; omega)
theorem rAdd_con (x y : Int) {j k : Nat} (hj : j ≤ 1000000000) (hk : k ≤ 1000000000) : Con Tryz.prog 18 [.d (Dm.int x j), .d (Dm.int y k)] (.one (.d (Dm.int (x + y) (j + k + 1)))) :=
  con_int2 (fun vx vy w h1 h2 l1 l2 => refAdd_any vx vy x y w h1 h2 (by omega) (by omega)) fun l1 l2 => len_add l1 l2
theorem rMul_con (x y : Int) {j k : Nat} (hj : j ≤ 1000000000) (hk : k ≤ 1000000000) : Con Tryz.prog 27 [.d (Dm.int x j), .d (Dm.int y k)] (.one (.d (Dm.int (x * y) (j + k)))) :=
  con_int2 (fun vx vy w h1 h2 l1 l2 => refMul_any vx vy x y w h1 h2 (by omega) (by omega)) fun l1 l2 => len_mul l1 l2
theorem rGcd_con (x y : Int) {j k : Nat} (hj : j ≤ 1000000000) (hk : k ≤ 1000000000) : Con Tryz.prog 31 [.d (Dm.int x j), .d (Dm.int y k)] (.one (.d (Dm.int ((Int.gcd x y : Nat) : Int) (j + k)))) := by
  refine con_int2 (fun vx vy w h1 h2 l1 l2 => refGcd_any vx vy x y w h1 h2 (by omega) (by omega)) fun l1 l2 => ?_
  by_cases hx : x = 0
  · subst hx
    refine Nat.le_trans (len_mono ?_) (Nat.le_trans l2 (Nat.le_add_left ..))
    simp
  · refine Nat.le_trans (len_mono (y := x) ?_) (Nat.le_trans l1 (Nat.le_add_right ..))
    have := Nat.le_of_dvd (Int.natAbs_pos.2 hx) (Int.gcd_dvd_natAbs_left x y)
    simpa using this
theorem rCompare_con (x y : Int) {j k : Nat} : Con Tryz.prog 84 [.d (Dm.int x j), .d (Dm.int y k)] (.one (.v (.int .i64 (cmpI x y)))) :=
  con_val2 fun vx vy w h1 h2 => refCompare_any vx vy x y w h1 h2
theorem rNeg_con (x : Int) {j : Nat} : Con Tryz.prog 100 [.d (Dm.int x j)] (.one (.d (Dm.int (-x) j))) :=
  con_int1 (fun vx w h1 _ => refNeg_any vx x w h1) fun l1 => len_neg l1
theorem rSub_con (x y : Int) {j k : Nat} (hj : j ≤ 1000000000) (hk : k ≤ 1000000000) : Con Tryz.prog 19 [.d (Dm.int x j), .d (Dm.int y k)] (.one (.d (Dm.int (x - y) (j + k + 1)))) :=
  con_int2 (fun vx vy w h1 h2 l1 l2 => refSub_any vx vy x y w h1 h2 (by omega) (by omega)) fun l1 l2 => by rw [Int.sub_eq_add_neg]; exact len_add l1 (len_neg l2)
theorem rSame_con (x y : Int) {j k : Nat} : Con Tryz.prog 54 [.d (Dm.int x j), .d (Dm.int y k)] (.one (.v (.bool (decide (x = y))))) :=
  con_val2 fun vx vy w h1 h2 => Same_any vx vy x y w h1 h2
theorem same4_con (x y : Int) {j k : Nat} : Con Tryz.prog 25 [.d (Dm.int x j), .d (Dm.int y k)] (.one (.v (.bool (decide (x = y))))) :=
  con_val2 fun vx vy w h1 h2 => lawSame_any vx vy x y w h1 h2
theorem same4T_con (x : Int) {j k : Nat} : Con Tryz.prog 25 [.d (Dm.int x j), .d (Dm.int x k)] (.one (.v (.bool true))) := by
  have h := same4_con x x (j := j) (k := k)
  rwa [show decide (x = x) = true by simp] at h
theorem lives4_con : Con (D := Dm) Tryz.prog 26 [] (.one (.v (.bool true))) := by
  rintro L ρ w vs hlt hn hwf hall
  match vs, hall with
  | [], _ =>
    refine (lives_any w hwf).mono ?_
    rintro e w' ⟨rfl, h⟩
    exact ⟨_, rfl, h, rfl⟩

end Vc
end Go.Proofs.YtabjodomigllhaaGreatDoor
