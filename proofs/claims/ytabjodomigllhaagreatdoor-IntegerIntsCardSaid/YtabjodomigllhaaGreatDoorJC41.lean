/-
  IntegerInts: its parts but for the region that appends twice.
-/
import Derived.Test.YtabjodomigllhaaGreatDoorJC40
namespace Go.Proofs.YtabjodomigllhaaGreatDoor
open Go.RowKit
open Go.Lib (hid)
open Dg Zn
namespace Vc

set_option maxRecDepth 100000 in
theorem Take_con (zs : List Int) (k : Nat) (hk : k ≤ 1000000) : Con Tryz.prog 15 [.d (Dm.ints zs), .v (.int .i64 (k : Int))] (.one (.d (Dm.gen (rowG (zs.take k))))) := by
  refine Con.of (n := 14) Tryz.func15 rfl rfl rfl rfl rfl fun cx => ?_
  refine CV.seq ?_
  refine CV.region rfl (fun h => nomatch h) ?_
  refine RV.step1 (OpOk.plain (ok_move (.inr rfl) rfl (by decide) rfl) rfl) ?_
  refine RV.done ?_
  refine CV.seq ?_
  refine CV.region rfl (fun h => nomatch h) ?_
  refine RV.step1 (OpOk.plain (ok_move (.inr rfl) rfl (by decide) rfl) rfl) ?_
  refine RV.done ?_
  refine CV.seq ?_
  refine CV.region rfl (fun h => nomatch h) ?_
  refine RV.step1 (OpOk.plain (ok_move (.inl rfl) rfl (by decide) rfl) rfl) ?_
  refine RV.step1 (OpOk.plain (ok_move (.inl rfl) rfl (by decide) rfl) rfl) ?_
  refine RV.step1 (OpOk.plain (ok_move (.inl rfl) rfl (by decide) rfl) rfl) ?_
  refine RV.step1 (OpOk.plain (ok_leni rfl rfl (by decide) rfl) rfl) ?_
  refine RV.step1 (OpOk.plain (ok_move (.inl rfl) rfl (by decide) rfl) rfl) ?_
  refine RV.step1 (OpOk.plain (ok_min (c := ((min zs.length k : Nat) : Int)) (by split <;> omega) rfl rfl (by decide) rfl rfl) rfl) ?_
  refine RV.step1 (OpOk.plain (ok_sliceTo (m := min zs.length k) (Nat.min_le_left ..) rfl rfl (by decide) rfl rfl) rfl) ?_
  refine RV.step1 (OpOk.plain (ok_appendNil (by rw [List.length_take]; omega) rfl rfl (by decide) rfl rfl) rfl) ?_
  refine RV.step1 (OpOk.plain (ok_move (.inr rfl) rfl (by decide) rfl) rfl) ?_
  refine RV.done ?_
  refine CV.ret ?_
  exact fin1 rfl (.inr rfl) rfl (is_of (by rw [show zs.take (min zs.length k) = zs.take k from by rw [Nat.min_comm, ← List.take_take, List.take_of_length_le (Nat.le_refl zs.length)]]))

theorem raw_open {L : Nat → Prop} {ρ : Nat → Nat} {w : World} {b : Bool} {zs : List Int} {v : Value} (h : (SA.d (Dm.gen (rawG b zs))).is L ρ w v) : ∃ a m c, v = .agg #[.bool b, .slice a m c] ∧ ∀ w', Agree L w w' → Row .i64 w' (.slice a m c) zs := by
  obtain ⟨s, rfl, hs⟩ := h w (Agree.refl _ _)
  obtain ⟨a, m, c, rfl⟩ := row_slice hs
  refine ⟨a, m, c, rfl, fun w' hw => ?_⟩
  obtain ⟨s', e, hs'⟩ := h w' hw
  injection e with e
  have e2 : [Value.bool b, .slice a m c] = [.bool b, s'] := by simpa using congrArg Array.toList e
  injection e2 with _ e3
  injection e3 with e4
  subst e4
  exact hs'
theorem VRaw_con (b : Bool) (zs : List Int) : Con Tryz.prog 20 [.d (Dm.gen (rawG b zs))] (.one (.v (.bool (validI b zs)))) := by
  rintro L ρ w vs hlt hn hwf hall
  match vs, hall with
  | [v], ⟨h, _⟩ =>
    obtain ⟨s, rfl, hs⟩ := h w (Agree.refl _ _)
    refine (Valid_raw b s zs w hs).mono ?_
    rintro e w' ⟨rfl, h4⟩
    exact ⟨_, rfl, h4, rfl⟩
theorem rVRaw_con (b : Bool) (zs : List Int) : Con Tryz.prog 21 [.d (Dm.gen (rawG b zs))] (.one (.v (.bool (validI b zs)))) := by
  rintro L ρ w vs hlt hn hwf hall
  match vs, hall with
  | [v], ⟨h, _⟩ =>
    obtain ⟨s, rfl, hs⟩ := h w (Agree.refl _ _)
    refine (refValid_raw b s zs w hs).mono ?_
    rintro e w' ⟨rfl, h4⟩
    exact ⟨_, rfl, h4, rfl⟩
/-- Digits that are valid are some integer's. -/
theorem valid_int {b : Bool} {zs : List Int} (h : validI b zs = true) : ∃ z : Int, decide (z < 0) = b ∧ (dig z.natAbs).map Int.ofNat = zs := by
  unfold validI at h
  rw [Bool.and_eq_true, List.all_eq_true] at h
  obtain ⟨h1, h2⟩ := h
  have h1' : ∀ z ∈ zs, 0 ≤ z ∧ z < 1000000000 := fun z hz => by simpa using h1 z hz
  obtain ⟨ds, rfl, hd⟩ : ∃ ds : List Nat, ds.map Int.ofNat = zs ∧ Dig ds := by
    refine ⟨zs.map Int.toNat, ?_, fun d hd => ?_⟩
    · rw [List.map_map]
      conv => rhs; rw [← List.map_id zs]
      exact List.map_congr_left fun z hz => by
        have := h1' z hz
        show ((z.toNat : Nat) : Int) = z
        omega
    · obtain ⟨z, hz, rfl⟩ := List.mem_map.1 hd
      have := h1' z hz
      omega
  rw [List.length_map] at h2
  have hv : dig (val ds) = ds := by
    rw [dig_val hd]
    rcases List.eq_nil_or_concat ds with e | ⟨i, l, e⟩
    · rw [e]; rfl
    · rw [List.concat_eq_append] at e
      rw [e]
      refine trimN_snoc ?_ i
      rintro rfl
      rw [e] at h2
      simp at h2
  refine ⟨mk b (val ds), ?_, ?_⟩
  · unfold mk
    cases b with
    | false => simp
    | true =>
      have : val ds ≠ 0 := by
        intro e
        rw [e, dig_zero] at hv
        rw [← hv] at h2
        simp at h2
      simp
      omega
  · rw [show (mk b (val ds)).natAbs = val ds by unfold mk; cases b <;> simp, hv]
theorem is_raw {L : Nat → Prop} {ρ : Nat → Nat} {w : World} {b : Bool} {zs : List Int} {v : Value} {z : Int} (h : (SA.d (Dm.gen (rawG b zs))).is L ρ w v) (h1 : decide (z < 0) = b) (h2 : (dig z.natAbs).map Int.ofNat = zs) : IntAt w v z := by
  obtain ⟨s, rfl, hs⟩ := h w (Agree.refl _ _)
  subst h1; subst h2
  exact ⟨s, rfl, nums_of_row hs⟩
theorem SRaw_con {b : Bool} {zs : List Int} {z : Int} (h1 : decide (z < 0) = b) (h2 : (dig z.natAbs).map Int.ofNat = zs) : Con Tryz.prog 22 [.d (Dm.gen (rawG b zs))] (.tup [.v (.int .i64 (smallI z).1), .v (.bool (smallI z).2)]) := by
  rintro L ρ w vs hlt hn hwf hall
  match vs, hall with
  | [v], ⟨h, _⟩ =>
    refine (Small_any v z w (is_raw h h1 h2)).mono ?_
    rintro e w' ⟨rfl, h4⟩
    exact ⟨_, rfl, h4, [_, _], rfl, rfl, rfl, trivial⟩
theorem rSRaw_con {b : Bool} {zs : List Int} {z : Int} (h1 : decide (z < 0) = b) (h2 : (dig z.natAbs).map Int.ofNat = zs) : Con Tryz.prog 23 [.d (Dm.gen (rawG b zs))] (.tup [.v (.int .i64 (smallI z).1), .v (.bool (smallI z).2)]) := by
  rintro L ρ w vs hlt hn hwf hall
  match vs, hall with
  | [v], ⟨h, _⟩ =>
    refine (refSmall_any v z w (is_raw h h1 h2)).mono ?_
    rintro e w' ⟨rfl, h4⟩
    exact ⟨_, rfl, h4, [_, _], rfl, rfl, rfl, trivial⟩

section
variable {cx : Cx Dm} {n : Nat} {σ : St Dm} {o : Oper} {d t : Nat} {x y j : Operand}
theorem ok_iraw {l : List (Bool × List Int)} {i : Nat} (hi : i < l.length) (ho : o.op = .indexAddr 30 (.tmp t) j) (hd : o.dst = some d) (hn : d < n) (ht : σ (.s t) = .av (.one (.d (.gen (lrawG l))))) (hj : opd σ j = .av (.one (.v (.int .i64 (i : Int))))) :
    OpOk Tryz.prog cx n σ o (.s t :: opk j) [(.s d, .av (.one (.d (.gen (prawG (l.getD i (false, [])).1 (l.getD i (false, [])).2)))))] :=
  ok_index under_lint ty_int.2 ho hd hn ht hj fun w v h => by
    obtain ⟨ao, cap, rfl, h⟩ := h
    obtain ⟨b, off, rfl, h'⟩ := h (by omega)
    obtain ⟨s, h1, h2, h3⟩ := h' i hi
    exact ⟨b, off, _, _, rfl, hi, b, off + i * 2, s, rfl, by rw [Nat.mul_comm i 2]; exact h1, by rw [Nat.mul_comm i 2]; exact h2, h3⟩
theorem ok_lenraw {l : List (Bool × List Int)} (ho : o.op = .call ⟨.builtin .len, #[.tmp t], #[30]⟩) (hd : o.dst = some d) (hn : d < n) (ht : σ (.s t) = .av (.one (.d (.gen (lrawG l))))) : OpOk Tryz.prog cx n σ o [.s t] [(.s d, .av (.one (.v (.int .i64 (l.length : Int)))))] :=
  ok_lenD under_lint ho hd hn ht fun w v ⟨ao, cap, h, _⟩ => ⟨ao, cap, h⟩
theorem ok_loadraw {b : Bool} {zs : List Int} (ho : o.op = .load 24 (.tmp t)) (hd : o.dst = some d) (hn : d < n) (ht : σ (.s t) = .av (.one (.d (.gen (prawG b zs))))) : OpOk Tryz.prog cx n σ o [.s t] [(.s d, .av (.one (.d (.gen (rawG b zs)))))] := by
  refine ok_read hd hn rfl fun σ' ρ a w h hk => ?_
  have hs := h.slt t _ ((hk (.s t) (by simp)).trans ht)
  obtain ⟨g, off, s, hv, h1, h2, h3⟩ := hs w (Agree.refl _ _)
  have e1 : a.eval (.tmp t) = .pointer (some ⟨g, off, none⟩) := hv
  obtain ⟨⟨dd, hu, hdd⟩, hsz⟩ := ty_int
  refine ⟨.agg #[.bool b, s], ?_, ?_⟩
  · have hr : w.rangeAt g off [.bool b, s] := by
      intro j v hj
      rcases j with _ | _ | j
      · obtain rfl := Option.some.inj hj; exact h1
      · obtain rfl := Option.some.inj hj; exact h2
      · cases hj
    have := run_loadVar_mid w g off 24 _ dd hr hu hdd hsz
    simp only [execOp, ho, e1, Sem.run_bind, Instr.loadAt, Instr.sureAddr, Sem.run_pure, Result.andThen_ok, this]
  · intro w' hag
    obtain ⟨g', off', s', hv', h1', h2', h3'⟩ := hs w' hag
    rw [show a.tmps.getD t undef = _ from hv] at hv'
    injection hv' with e4
    injection e4 with e4
    injection e4 with e5 e6
    subst e5; subst e6
    have hs2 : s' = s := by
      have hb : Agree (Lof cx σ' ρ) w w' := hag
      have hcell := h2'
      by_cases hL : Lof cx σ' ρ g
      · exfalso
        have hag2 : Agree (Lof cx σ' ρ) w (w.setCell ⟨g, off, none⟩ .nilFunc) := by
          refine ⟨by simp [World.setCell], fun q hq hnq => ?_⟩
          exact Below.heap_setCell _ _ _ _ (fun e => hnq (by rw [show q = g from e]; exact hL))
        obtain ⟨b2, off2, s2, hv2, g1, -⟩ := hs _ hag2
        rw [show a.tmps.getD t undef = _ from hv] at hv2
        injection hv2 with e4
        injection e4 with e4
        injection e4 with e5 e6
        subst e5; subst e6
        rw [World.cell?_setCell_same w _ _ h1] at g1
        cases g1
      · have hlt : g < w.heap.size := by
          rcases Nat.lt_or_ge g w.heap.size with hb | hb
          · exact hb
          · exfalso
            simp only [World.cell?] at h1
            rw [Array.getElem?_eq_none (by omega)] at h1
            cases h1
        rw [World.cell?_of_block (w := w) (hag.2 g hlt hL)] at hcell
        exact Option.some.inj (hcell.symm.trans h2)
    subst hs2
    exact ⟨_, rfl, h3'⟩
/-- Integers, valid ones or of any digits. -/
def RawsAre : List (SA Dm) → List (Bool × List Int) → Prop
  | [], [] => True
  | .d (.int z _) :: ss, y :: l => y = (decide (z < 0), (dig z.natAbs).map Int.ofNat) ∧ RawsAre ss l
  | .d (.gen g) :: ss, y :: l => g = rawG y.1 y.2 ∧ RawsAre ss l
  | _, _ => False
theorem RawsAre.length : ∀ {ss : List (SA Dm)} {l : List (Bool × List Int)}, RawsAre ss l → ss.length = l.length
  | [], [], _ => rfl
  | .d (.int _ _) :: ss, y :: l, h => congrArg (· + 1) (RawsAre.length h.2)
  | .d (.gen _) :: ss, y :: l, h => congrArg (· + 1) (RawsAre.length h.2)
theorem raw_any {s : SA Dm} {y : Bool × List Int} {ss : List (SA Dm)} {l : List (Bool × List Int)} (h : RawsAre (s :: ss) (y :: l)) {L : Nat → Prop} {ρ : Nat → Nat} {w : World} {v : Value} (hv : s.is L ρ w v) :
    (∃ a m c, v = .agg #[.bool y.1, .slice a m c] ∧ ∀ w', Agree L w w' → Row .i64 w' (.slice a m c) y.2) ∧ RawsAre ss l := by
  match s, h with
  | .d (.int z k), h =>
    obtain ⟨rfl, h2⟩ := h
    obtain ⟨a, m, c, e, hn⟩ := dat_int hv
    exact ⟨⟨a, m, c, e, fun w' hw => row_of_nums (hn w' hw).1⟩, h2⟩
  | .d (.gen g), h =>
    obtain ⟨rfl, h2⟩ := h
    exact ⟨raw_open hv, h2⟩
theorem raws_two {ss : List (SA Dm)} {l : List (Bool × List Int)} (h : RawsAre ss l) : ∀ s ∈ ss, ∀ L ρ w v, s.is L ρ w v → v.cells.size = 1 + 1 := by
  induction ss generalizing l with
  | nil => intro s hs; cases hs
  | cons s ss ih =>
    cases l with
    | nil => exact absurd h.length (by simp)
    | cons y l =>
      intro s' hs L ρ w v hv
      rcases List.mem_cons.1 hs with e | e
      · subst e
        obtain ⟨⟨a, m, c, rfl, _⟩, _⟩ := raw_any h hv
        rfl
      · refine ih (l := l) ?_ s' e L ρ w v hv
        match s, h with
        | .d (.int z k), h => exact h.2
        | .d (.gen g), h => exact h.2
theorem raws_cells {ss : List (SA Dm)} {l : List (Bool × List Int)} (h : RawsAre ss l) {L : Nat → Prop} {ρ : Nat → Nat} {w : World} {vs : List Value} (hall : isAll L ρ w ss vs) :
    ∀ i, i < l.length → ∃ s, (vs.flatMap fun v => v.cells.toList)[2 * i]? = some (.bool (l.getD i (false, [])).1) ∧ (vs.flatMap fun v => v.cells.toList)[2 * i + 1]? = some s ∧ (∀ w', Agree L w w' → Row .i64 w' s (l.getD i (false, [])).2) := by
  induction ss generalizing l vs with
  | nil => match l, h with | [], _ => intro i hi; cases hi
  | cons s ss ih =>
    cases l with
    | nil => exact absurd h.length (by simp)
    | cons y l =>
      match vs, hall with
      | v :: vs, hall =>
        obtain ⟨⟨a, m, c, hv, hn⟩, h2⟩ := raw_any h hall.1
        intro i hi
        cases i with
        | zero =>
          refine ⟨.slice a m c, ?_, ?_, fun w' hw => hn w' hw⟩
          · rw [hv]; rfl
          · rw [hv]; rfl
        | succ i =>
          obtain ⟨s, e1, e2, e3⟩ := ih h2 hall.2 i (by simpa using hi)
          refine ⟨s, ?_, ?_, e3⟩
          · rw [List.flatMap_cons, hv, show 2 * (i + 1) = 2 * i + 2 by omega]
            exact e1
          · rw [List.flatMap_cons, hv, show 2 * (i + 1) + 1 = 2 * i + 1 + 2 by omega]
            exact e2
theorem ok_blraw {xs : List Operand} {ss : List (SA Dm)} (l : List (Bool × List Int)) (hsm : Nat.ble (ss.length * 2) 1000 = true) (hpos : Nat.blt 0 ss.length = true) (ho : o.op = .buildSlice 30 ss.length ((xs.zipIdx 0).map fun p => (p.2, p.1)).toArray) (hd : o.dst = some d) (hn : d < n) (hargs : ArgsOk σ xs ss) (hl : RawsAre ss l) :
    OpOk Tryz.prog cx n σ o (xs.flatMap opk) [(.s d, .av (.one (.d (.gen (lrawG l)))))] := by
  have hsm := Nat.le_of_ble_eq_true hsm
  have hpos : 0 < ss.length := by rw [Nat.blt_eq] at hpos; exact hpos
  refine ok_bslice (m := 1) (z := .agg #[.bool false, .slice none 0 0]) under_lint (by kernel_rfl) (by omega) hpos ho hd hn hargs (raws_two hl) ?_
  intro L ρ w vs hall hlt w' hag
  have hlen := hl.length
  rw [hlen]
  refine ⟨_, _, rfl, fun hp => ⟨w.heap.size, 0, rfl, fun i hi => ?_⟩⟩
  obtain ⟨s, e1, e2, e3⟩ := raws_cells hl hall i hi
  have hb : w'.heap[w.heap.size]? = some (.cells (vs.flatMap fun v => v.cells.toList).toArray 24 (0, 0)) := by
    rw [hag.2 w.heap.size (by simp) (fun hL => by have := hlt _ hL; omega)]
    exact heap_alloc_new w _
  have hag' : Agree L w w' := (Agree.below ((Below.refl _ _).alloc (Nat.le_refl _) _)).trans hag
  refine ⟨s, ?_, ?_, e3 w' hag'⟩
  · rw [Nat.zero_add, cell_of_row _ _ _ _ _ _ hb]; simpa using e1
  · rw [Nat.zero_add, cell_of_row _ _ _ _ _ _ hb]; simpa using e2
end

end Vc
end Go.Proofs.YtabjodomigllhaaGreatDoor
