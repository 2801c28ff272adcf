/-
  The data: integers, their digits, fractions; the contracts of package integer in this form.
-/
import Derived.Test.YtabjodomigllhaaGreatDoorJC9
import Derived.Test.YtabjodomigllhaaGreatDoorJC21
import Derived.Test.YtabjodomigllhaaGreatDoorJC16
import Derived.Test.YtabjodomigllhaaGreatDoorJC23
import Derived.Test.YtabjodomigllhaaGreatDoorJC25
namespace Go.Proofs.YtabjodomigllhaaGreatDoor
open Go.RowKit
open Go.Lib (hid)
open Dg Zn
namespace Vc

/-- Any other kind of data. -/
structure Gen where
  is : World → Value → Prop
  shape : Option Nat
  plain : Bool
  ok : ∀ w v, is w v → ∃ cs, Shaped shape v cs
  pl : plain = true → ∀ w v, is w v → ∀ c ∈ v.cells.toList, notInt c = true

inductive Dm where
  | int (z : Int) (k : Nat)
  | nums (m : Nat)
  | cell (x : Int)
  | rt (p q : Int) (k : Nat)
  | ints (zs : List Int)
  | lint (l : List Int) (k : Nat)
  | pint (z : Int) (k : Nat)
  | llint (l : List (List Int)) (k : Nat)
  | plint (l : List Int) (k : Nat)
  | dl (ds : List Nat)
  | full (ds : List Nat)
  | gen (g : Gen)

/-- Numbers, one behind the other. -/
def LintAt (w : World) (v : Value) (l : List Int) (k : Nat) : Prop :=
  ∃ ao cap, v = .slice ao l.length cap ∧ (0 < l.length → ∃ b off, ao = some ⟨b, off, none⟩ ∧ ∀ i, i < l.length → ∃ s, w.cell? ⟨b, off + 2 * i, none⟩ = some (.bool (decide (l.getD i 0 < 0))) ∧ w.cell? ⟨b, off + 2 * i + 1, none⟩ = some s ∧ Nums w s (dig (l.getD i 0).natAbs) ∧ len (l.getD i 0) ≤ k)
def Dm.at : Dm → World → Value → Prop
  | .int z k, w, v => IntAt w v z ∧ len z ≤ k
  | .nums m, w, v => Nums w v (dig m)
  | .cell x, w, v => ∃ a, v = .pointer (some a) ∧ w.cell? a = some (.int .i64 x)
  | .rt p q k, w, v => ∃ s t, v = .agg #[.bool (decide (p < 0)), s, .bool (decide (q < 0)), t] ∧ Nums w s (dig p.natAbs) ∧ Nums w t (dig q.natAbs) ∧ len p ≤ k ∧ len q ≤ k
  | .ints zs, w, v => ListI w v zs
  | .lint l k, w, v => LintAt w v l k
  | .pint z k, w, v => ∃ b off s, v = .pointer (some ⟨b, off, none⟩) ∧ w.cell? ⟨b, off, none⟩ = some (.bool (decide (z < 0))) ∧ w.cell? ⟨b, off + 1, none⟩ = some s ∧ Nums w s (dig z.natAbs) ∧ len z ≤ k
  | .llint l k, w, v => ∃ ao cap, v = .slice ao l.length cap ∧ (0 < l.length → ∃ b off, ao = some ⟨b, off, none⟩ ∧ ∀ i, i < l.length → ∃ s, w.cell? ⟨b, off + i, none⟩ = some s ∧ LintAt w s (l.getD i []) k)
  | .plint l k, w, v => ∃ b off s, v = .pointer (some ⟨b, off, none⟩) ∧ w.cell? ⟨b, off, none⟩ = some s ∧ LintAt w s l k
  | .dl ds, w, v => Nums w v ds
  | .full ds, w, v => Nums w v ds ∧ ∃ ao, v = .slice ao ds.length ds.length
  | .gen g, w, v => g.is w v
def Dm.shape : Dm → Option Nat
  | .int _ _ => some 2
  | .rt _ _ _ => some 4
  | .gen g => g.shape
  | _ => none
def Dm.plain : Dm → Bool
  | .gen g => g.plain
  | _ => true

theorem nums_slice {w : World} {v : Value} {ds : List Nat} (h : Nums w v ds) : ∃ a n c, v = .slice a n c := by
  obtain ⟨a, c, h, _⟩ := h
  exact ⟨a, _, c, h⟩

instance : Dom Dm where
  dat := Dm.at
  shape := Dm.shape
  plain := Dm.plain
  shape_ok := by
    intro x w v h
    cases x with
    | int z k =>
      obtain ⟨⟨s, rfl, hs⟩, _⟩ := h
      obtain ⟨a, n, c, rfl⟩ := nums_slice hs
      exact ⟨[_, _], rfl, rfl, by simp [Value.oneCell']⟩
    | nums m => obtain ⟨a, n, c, rfl⟩ := nums_slice h; exact ⟨_, rfl, rfl⟩
    | cell x => obtain ⟨a, rfl, _⟩ := h; exact ⟨_, rfl, rfl⟩
    | rt p q k =>
      obtain ⟨s, t, rfl, hs, ht, _⟩ := h
      obtain ⟨a, n, c, rfl⟩ := nums_slice hs
      obtain ⟨a', n', c', rfl⟩ := nums_slice ht
      exact ⟨[_, _, _, _], rfl, rfl, by simp [Value.oneCell']⟩
    | ints zs => obtain ⟨_, a, c, rfl, _⟩ := h; exact ⟨_, rfl, rfl⟩
    | lint l k => obtain ⟨a, c, rfl, _⟩ := h; exact ⟨_, rfl, rfl⟩
    | pint z k => obtain ⟨b, off, s, rfl, _⟩ := h; exact ⟨_, rfl, rfl⟩
    | llint l k => obtain ⟨a, c, rfl, _⟩ := h; exact ⟨_, rfl, rfl⟩
    | plint l k => obtain ⟨b, off, s, rfl, _⟩ := h; exact ⟨_, rfl, rfl⟩
    | dl ds => obtain ⟨a, n, c, rfl⟩ := nums_slice h; exact ⟨_, rfl, rfl⟩
    | full ds => obtain ⟨_, a, rfl⟩ := h; exact ⟨_, rfl, rfl⟩
    | gen g => exact g.ok w v h
  W := Tab
  W_keep := fun w w' hb h => Tab.keep h hb
  plain_ok := by
    intro x w v hp h
    cases x with
    | int z k =>
      obtain ⟨⟨s, rfl, hs⟩, _⟩ := h
      obtain ⟨a, n, c, rfl⟩ := nums_slice hs
      simp [Value.cells, notInt]
    | nums m => obtain ⟨a, n, c, rfl⟩ := nums_slice h; simp [Value.cells, notInt]
    | cell x => obtain ⟨a, rfl, _⟩ := h; simp [Value.cells, notInt]
    | rt p q k =>
      obtain ⟨s, t, rfl, hs, ht, _⟩ := h
      obtain ⟨a, n, c, rfl⟩ := nums_slice hs
      obtain ⟨a', n', c', rfl⟩ := nums_slice ht
      simp [Value.cells, notInt]
    | ints zs => obtain ⟨_, a, c, rfl, _⟩ := h; simp [Value.cells, notInt]
    | lint l k => obtain ⟨a, c, rfl, _⟩ := h; simp [Value.cells, notInt]
    | pint z k => obtain ⟨b, off, s, rfl, _⟩ := h; simp [Value.cells, notInt]
    | llint l k => obtain ⟨a, c, rfl, _⟩ := h; simp [Value.cells, notInt]
    | plint l k => obtain ⟨b, off, s, rfl, _⟩ := h; simp [Value.cells, notInt]
    | dl ds => obtain ⟨a, n, c, rfl⟩ := nums_slice h; simp [Value.cells, notInt]
    | full ds => obtain ⟨_, a, rfl⟩ := h; simp [Value.cells, notInt]
    | gen g => exact g.pl hp w v h

/-! Numbers are not met by what changes. -/
theorem cell_agree {L : Nat → Prop} {w w' : World} (hn : NoInt L w) (hag : Agree L w w') {a : Addr} {k : IntKind} {z : Int} (h : w.cell? a = some (.int k z)) : w'.cell? a = some (.int k z) := by
  have hb : a.block < w.heap.size := by
    rcases Nat.lt_or_ge a.block w.heap.size with hb | hb
    · exact hb
    · exfalso
      simp only [World.cell?] at h
      rw [Array.getElem?_eq_none (by omega)] at h
      cases h
  have hL : ¬ L a.block := by
    intro hL
    simp only [World.cell?] at h
    cases hq : w.heap[a.block]? with
    | none => rw [hq] at h; cases h
    | some ob =>
      rw [hq] at h
      cases ob with
      | cells cs T fr =>
        simp only at h
        split at h
        · cases h
        · have := hn a.block hL cs T fr hq (.int k z) (by
            rw [Array.mem_toList_iff]
            exact Array.mem_of_getElem? h)
          cases this
      | _ => cases h
  rw [World.cell?_of_block (w := w) (hag.2 a.block hb hL)]
  exact h
theorem nums_agree {L : Nat → Prop} {w w' : World} {v : Value} {ds : List Nat} (h : Nums w v ds) (hn : NoInt L w) (hag : Agree L w w') : Nums w' v ds := by
  obtain ⟨a, c, h1, h2, h3, h4⟩ := h
  refine ⟨a, c, h1, h2, h3, fun hl => ?_⟩
  obtain ⟨b, off, h5, h6⟩ := h4 hl
  exact ⟨b, off, h5, fun i hi => cell_agree hn hag (h6 i hi)⟩
theorem int_agree {L : Nat → Prop} {w w' : World} {v : Value} {z : Int} (h : IntAt w v z) (hn : NoInt L w) (hag : Agree L w w') : IntAt w' v z := by
  obtain ⟨s, h1, h2⟩ := h
  exact ⟨s, h1, nums_agree h2 hn hag⟩
theorem noInt_below {L : Nat → Prop} {w w' : World} (hn : NoInt L w) (hlt : ∀ b, L b → b < w.heap.size) (hb : Below w.heap.size w w') : NoInt L w' := fun b hL cs T fr h => hn b hL cs T fr (by rw [← hb.block b (hlt b hL)]; exact h)
theorem int_is {L : Nat → Prop} {ρ : Nat → Nat} {w w' : World} {v : Value} {z : Int} {k : Nat} (h : IntAt w' v z) (hk : len z ≤ k) (hn : NoInt L w) (hlt : ∀ b, L b → b < w.heap.size) (hb : Below w.heap.size w w') : (SA.d (Dm.int z k)).is L ρ w' v :=
  fun _ hag => ⟨int_agree h (noInt_below hn hlt hb) hag, hk⟩
theorem is_int {L : Nat → Prop} {ρ : Nat → Nat} {w : World} {v : Value} {z : Int} {k : Nat} (h : (SA.d (Dm.int z k)).is L ρ w v) : IntAt w v z ∧ len z ≤ k := h w (Agree.refl _ _)

variable {P : Program}
theorem con_int2 {f : FuncId} {x y z : Int} {j k m : Nat} (h : ∀ vx vy w, IntAt w vx x → IntAt w vy y → len x ≤ j → len y ≤ k → Calls P f #[vx, vy] w (RetInt w z)) (hm : len x ≤ j → len y ≤ k → len z ≤ m) : Con P f [.d (Dm.int x j), .d (Dm.int y k)] (.one (.d (Dm.int z m))) := by
  rintro L ρ w vs hlt hn hwf hall
  match vs, hall with
  | [vx, vy], ⟨h1, h2, _⟩ =>
    obtain ⟨h1, l1⟩ := is_int h1
    obtain ⟨h2, l2⟩ := is_int h2
    refine (h vx vy w h1 h2 l1 l2).mono ?_
    rintro e w' ⟨v, rfl, h3, h4⟩
    exact ⟨v, rfl, h4, int_is (ρ := ρ) h3 (hm l1 l2) hn hlt h4⟩
theorem con_int1 {f : FuncId} {x z : Int} {j m : Nat} (h : ∀ vx w, IntAt w vx x → len x ≤ j → Calls P f #[vx] w (RetInt w z)) (hm : len x ≤ j → len z ≤ m) : Con P f [.d (Dm.int x j)] (.one (.d (Dm.int z m))) := by
  rintro L ρ w vs hlt hn hwf hall
  match vs, hall with
  | [vx], ⟨h1, _⟩ =>
    obtain ⟨h1, l1⟩ := is_int h1
    refine (h vx w h1 l1).mono ?_
    rintro e w' ⟨v, rfl, h3, h4⟩
    exact ⟨v, rfl, h4, int_is (ρ := ρ) h3 (hm l1) hn hlt h4⟩
theorem con_int0 {f : FuncId} {x : Value} {z : Int} {m : Nat} (h : ∀ w, Calls P f #[x] w (RetInt w z)) (hm : len z ≤ m) : Con P f [.v x] (.one (.d (Dm.int z m))) := by
  rintro L ρ w vs hlt hn hwf hall
  match vs, hall with
  | [vx], ⟨h1, _⟩ =>
    obtain rfl : vx = x := h1
    refine (h w).mono ?_
    rintro e w' ⟨v, rfl, h3, h4⟩
    exact ⟨v, rfl, h4, int_is (ρ := ρ) h3 hm hn hlt h4⟩
theorem con_val2 {f : FuncId} {x y : Int} {j k : Nat} {r : Value} (h : ∀ vx vy w, IntAt w vx x → IntAt w vy y → Calls P f #[vx, vy] w fun e w' => e = .returned r ∧ Below w.heap.size w w') : Con P f [.d (Dm.int x j), .d (Dm.int y k)] (.one (.v r)) := by
  rintro L ρ w vs hlt hn hwf hall
  match vs, hall with
  | [vx, vy], ⟨h1, h2, _⟩ =>
    refine (h vx vy w (is_int h1).1 (is_int h2).1).mono ?_
    rintro e w' ⟨rfl, h4⟩
    exact ⟨r, rfl, h4, rfl⟩
theorem con_val1 {f : FuncId} {x : Int} {j : Nat} {r : Value} (h : ∀ vx w, IntAt w vx x → Calls P f #[vx] w fun e w' => e = .returned r ∧ Below w.heap.size w w') : Con P f [.d (Dm.int x j)] (.one (.v r)) := by
  rintro L ρ w vs hlt hn hwf hall
  match vs, hall with
  | [vx], ⟨h1, _⟩ =>
    refine (h vx w (is_int h1).1).mono ?_
    rintro e w' ⟨rfl, h4⟩
    exact ⟨r, rfl, h4, rfl⟩
theorem con_pair {f : FuncId} {x y q r : Int} {j k m : Nat} {m' : Nat} (h : ∀ vx vy w, IntAt w vx x → IntAt w vy y → len x ≤ j → len y ≤ k → Calls P f #[vx, vy] w (RetPair w q r)) (hm : len x ≤ j → len y ≤ k → len q ≤ m ∧ len r ≤ m') :
    Con P f [.d (Dm.int x j), .d (Dm.int y k)] (.tup [.d (Dm.int q m), .d (Dm.int r m')]) := by
  rintro L ρ w vs hlt hn hwf hall
  match vs, hall with
  | [vx, vy], ⟨h1, h2, _⟩ =>
    obtain ⟨h1, l1⟩ := is_int h1
    obtain ⟨h2, l2⟩ := is_int h2
    refine (h vx vy w h1 h2 l1 l2).mono ?_
    rintro e w' ⟨s, t, rfl, h3, h3', h4⟩
    exact ⟨_, rfl, h4, [s, t], rfl, int_is (ρ := ρ) h3 (hm l1 l2).1 hn hlt h4, int_is (ρ := ρ) h3' (hm l1 l2).2 hn hlt h4, trivial⟩

/-! Lengths. -/
theorem len_mono {x y : Int} (h : x.natAbs ≤ y.natAbs) : len x ≤ len y := dig_length_mono h
theorem len_lt {x : Int} {k : Nat} : len x ≤ k ↔ x.natAbs < 1000000000 ^ k := dig_length_le
theorem len_mul {x y : Int} {j k : Nat} (hx : len x ≤ j) (hy : len y ≤ k) : len (x * y) ≤ j + k := by
  rw [len_lt] at *
  rw [Int.natAbs_mul, Nat.pow_add]
  exact Nat.mul_lt_mul'' hx hy
theorem len_add {x y : Int} {j k : Nat} (hx : len x ≤ j) (hy : len y ≤ k) : len (x + y) ≤ j + k + 1 := by
  have h1 := len_lt.1 (Nat.le_trans hx (Nat.le_add_right j k))
  have h2 := len_lt.1 (Nat.le_trans hy (Nat.le_add_left k j))
  rw [len_lt, Nat.pow_succ]
  have := Int.natAbs_add_le x y
  generalize 1000000000 ^ (j + k) = M at *
  omega
theorem len_neg {x : Int} {k : Nat} (hx : len x ≤ k) : len (-x) ≤ k := by
  rw [len_lt] at *
  rwa [Int.natAbs_neg]
theorem natAbs_div_le (x y : Int) : (x / y).natAbs ≤ x.natAbs := Int.natAbs_ediv_le_natAbs x y

/-! Package integer. -/
theorem Add_con (x y : Int) {j k : Nat} (hj : j ≤ 1000000000) (hk : k ≤ 1000000000) : Con Tryz.prog 133 [.d (Dm.int x j), .d (Dm.int y k)] (.one (.d (Dm.int (x + y) (j + k + 1)))) :=
  con_int2 (fun vx vy w h1 h2 l1 l2 => Add_any vx vy x y w h1 h2 (by omega) (by omega)) fun l1 l2 => len_add l1 l2
theorem Mul_con (x y : Int) {j k : Nat} (hj : j ≤ 1000000000) (hk : k ≤ 1000000000) : Con Tryz.prog 104 [.d (Dm.int x j), .d (Dm.int y k)] (.one (.d (Dm.int (x * y) (j + k)))) :=
  con_int2 (fun vx vy w h1 h2 l1 l2 => Mul_any vx vy x y w h1 h2 (by omega) (by omega)) fun l1 l2 => len_mul l1 l2
theorem Div_con (x y : Int) {j k : Nat} (hj : j ≤ 1000000000) (hk : k ≤ 1000000000) : Con Tryz.prog 28 [.d (Dm.int x j), .d (Dm.int y k)] (.tup [.d (Dm.int (x / y) j), .d (Dm.int (if y = 0 then 0 else x % y) k)]) := by
  refine con_pair (fun vx vy w h1 h2 l1 l2 => ?_) fun l1 l2 => ⟨Nat.le_trans (len_mono (natAbs_div_le x y)) l1, ?_⟩
  · by_cases hy : y = 0
    · subst hy
      rw [if_pos rfl, Int.ediv_zero]
      exact Div_zero vx vy x w h1 h2
    · rw [if_neg hy]
      exact Div_any vx vy x y w h1 h2 hy (by omega) (by omega)
  · split
    · show (dig 0).length ≤ _; rw [dig_zero]; exact Nat.zero_le _
    · rename_i hy
      refine Nat.le_trans (len_mono ?_) l2
      have h1 := Int.emod_nonneg x hy
      have h2 := Int.emod_lt x hy
      omega
theorem Gcd_con (x y : Int) {j k : Nat} (hj : j ≤ 1000000000) (hk : k ≤ 1000000000) : Con Tryz.prog 30 [.d (Dm.int x j), .d (Dm.int y k)] (.one (.d (Dm.int ((Int.gcd x y : Nat) : Int) (j + k)))) := by
  refine con_int2 (fun vx vy w h1 h2 l1 l2 => Gcd_any vx vy x y w h1 h2 (by omega) (by omega)) fun l1 l2 => ?_
  by_cases hx : x = 0
  · subst hx
    refine Nat.le_trans (len_mono ?_) (Nat.le_trans l2 (Nat.le_add_left ..))
    simp
  · refine Nat.le_trans (len_mono (y := x) ?_) (Nat.le_trans l1 (Nat.le_add_right ..))
    have := Nat.le_of_dvd (Int.natAbs_pos.2 hx) (Int.gcd_dvd_natAbs_left x y)
    simpa using this
theorem Neg_con (x : Int) {j : Nat} : Con Tryz.prog 135 [.d (Dm.int x j)] (.one (.d (Dm.int (-x) j))) :=
  con_int1 (fun vx w h1 _ => Neg_any vx x w h1) fun l1 => len_neg l1
theorem Compare_con (x y : Int) {j k : Nat} : Con Tryz.prog 136 [.d (Dm.int x j), .d (Dm.int y k)] (.one (.v (.int .i64 (cmpI x y)))) :=
  con_val2 fun vx vy w h1 h2 => Compare_any vx vy x y w h1 h2
theorem Sign_con (x : Int) {j : Nat} : Con Tryz.prog 121 [.d (Dm.int x j)] (.one (.v (.int .i64 (cmpI x 0)))) :=
  con_val1 fun vx w h1 => Sign_any vx x w h1
theorem Of_con (n : Int) (h1 : -9223372036854775808 ≤ n) (h2 : n ≤ 9223372036854775807) : Con Tryz.prog 24 [.v (.int .i64 n)] (.one (.d (Dm.int n 3))) :=
  con_int0 (fun w => Of_any n w h1 h2) (by rw [len_lt]; omega)

/-! Types. -/
theorem ty_int : TyIs Tryz.prog 24 (some 2) := TyIs.row (by kernel_rfl) (by kernel_rfl)
theorem ty_bool : TyIs Tryz.prog 4 none := TyIs.one (by kernel_rfl) (by kernel_rfl)
theorem ty_i64 : TyIs Tryz.prog 3 none := TyIs.one (by kernel_rfl) (by kernel_rfl)
theorem ty_ints : TyIs Tryz.prog 22 none := TyIs.one (by kernel_rfl) (by kernel_rfl)
theorem ty_rat : TyIs Tryz.prog 60 (some 4) := TyIs.row (by kernel_rfl) (by kernel_rfl)
theorem fa_rat0 : FieldAt Tryz.prog 60 0 0 := FieldAt.of (sz := 1) (by kernel_rfl)
theorem fa_rat1 : FieldAt Tryz.prog 60 1 2 := FieldAt.of (sz := 1) (by kernel_rfl)
theorem fa_int0 : FieldAt Tryz.prog 24 0 0 := FieldAt.of (sz := 0) (by kernel_rfl)
theorem fa_int1 : FieldAt Tryz.prog 24 1 1 := FieldAt.of (sz := 0) (by kernel_rfl)

theorem zero_int : (Tryz.prog.info? 24).map (·.zero) = some (some (.agg #[.bool false, .slice none 0 0])) := by kernel_rfl
theorem zero_rat : (Tryz.prog.info? 60).map (·.zero) = some (some (.agg #[.bool false, .slice none 0 0, .bool false, .slice none 0 0])) := by kernel_rfl

/-! Parts. -/
theorem fld_neg {z : Int} {k : Nat} : Fld (Dm.int z k) 0 none (.v (.bool (decide (z < 0)))) := by
  rintro w cs ⟨⟨s, h, hs⟩, _⟩
  injection h with h
  have h2 : cs = [.bool (decide (z < 0)), s] := by simpa using congrArg Array.toList h
  exact ⟨[], [_], [s], _, by rw [h2]; rfl, rfl, ⟨rfl, rfl⟩, rfl⟩
theorem fld_dig {z : Int} {k : Nat} : Fld (Dm.int z k) 1 none (.d (Dm.nums z.natAbs)) := by
  rintro w cs ⟨⟨s, h, hs⟩, _⟩
  injection h with h
  have h2 : cs = [.bool (decide (z < 0)), s] := by simpa using congrArg Array.toList h
  obtain ⟨a, n, c, rfl⟩ := nums_slice hs
  exact ⟨[_], [_], [], _, by rw [h2]; rfl, rfl, ⟨rfl, rfl⟩, hs⟩
theorem rt_cells {p q : Int} {k : Nat} {w : World} {cs : List Value} (h : Dm.at (.rt p q k) w (.agg cs.toArray)) :
    ∃ a n c a' n' c', cs = [.bool (decide (p < 0)), .slice a n c, .bool (decide (q < 0)), .slice a' n' c'] ∧ Nums w (.slice a n c) (dig p.natAbs) ∧ Nums w (.slice a' n' c') (dig q.natAbs) ∧ len p ≤ k ∧ len q ≤ k := by
  obtain ⟨s, t, h, hs, ht, l1, l2⟩ := h
  injection h with h
  obtain ⟨a, n, c, rfl⟩ := nums_slice hs
  obtain ⟨a', n', c', rfl⟩ := nums_slice ht
  exact ⟨a, n, c, a', n', c', by simpa using congrArg Array.toList h, hs, ht, l1, l2⟩
theorem fld_num {p q : Int} {k : Nat} : Fld (Dm.rt p q k) 0 (some 2) (.d (Dm.int p k)) := by
  intro w cs h
  obtain ⟨a, n, c, a', n', c', rfl, hs, ht, l1, l2⟩ := rt_cells h
  exact ⟨[], [_, _], [_, _], _, rfl, rfl, ⟨rfl, rfl, by simp [Value.oneCell']⟩, ⟨_, rfl, hs⟩, l1⟩
theorem fld_den {p q : Int} {k : Nat} : Fld (Dm.rt p q k) 2 (some 2) (.d (Dm.int q k)) := by
  intro w cs h
  obtain ⟨a, n, c, a', n', c', rfl, hs, ht, l1, l2⟩ := rt_cells h
  exact ⟨[_, _], [_, _], [], _, rfl, rfl, ⟨rfl, rfl, by simp [Value.oneCell']⟩, ⟨_, rfl, ht⟩, l2⟩
theorem fld_dden {p q : Int} {k : Nat} : Fld (Dm.rt p q k) 3 none (.d (Dm.nums q.natAbs)) := by
  intro w cs h
  obtain ⟨a, n, c, a', n', c', rfl, hs, ht, l1, l2⟩ := rt_cells h
  exact ⟨[_, _, _], [_], [], _, rfl, rfl, ⟨rfl, rfl⟩, ht⟩
theorem fld_nden {p q : Int} {k : Nat} : Fld (Dm.rt p q k) 2 none (.v (.bool (decide (q < 0)))) := by
  intro w cs h
  obtain ⟨a, n, c, a', n', c', rfl, hs, ht, l1, l2⟩ := rt_cells h
  exact ⟨[_, _], [_], [_], _, rfl, rfl, ⟨rfl, rfl⟩, rfl⟩

end Vc
end Go.Proofs.YtabjodomigllhaaGreatDoor
