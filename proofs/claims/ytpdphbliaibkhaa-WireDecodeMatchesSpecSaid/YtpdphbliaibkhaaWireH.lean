/-
  Contracts of gantry/gantryref01: Same, SameInts, SameTexts, SameDigests on lists that are the same.
-/
import Derived.Test.YtpdphbliaibkhaaWireG
import Derived.ChangeKeysEq
namespace Go.Proofs.Ytpdphbliaibkhaa
open Go.RowKit
open Go.Lib (hid)
open W

/-- Behind a function that has answered yes, and only read. -/
def Yes (w : World) (e : Ending) (w' : World) : Prop := e = .returned (.bool true) ∧ ∃ n, w' = w.drewN n

theorem ByteView.view {w : World} {v : Value} {bs : List Int} (h : ByteView w v bs) : View w v 1 bs.length (bs.map (Value.int .u8)) := by
  obtain ⟨_, ao, cap, hsh, h1, h2, hc⟩ := h
  refine ⟨by simp, ao, cap, hsh, h1, h2, fun hne => ?_⟩
  obtain ⟨b, off, he, hcell⟩ := hc (List.length_pos_iff.1 hne)
  refine ⟨b, off, he, fun i x hx => ?_⟩
  rw [List.getElem?_map] at hx
  cases hi : bs[i]? with
  | none => rw [hi] at hx; simp at hx
  | some z =>
    rw [hi] at hx
    simp at hx
    subst hx
    have hlt := (List.getElem?_eq_some_iff.1 hi).1
    rw [hcell i hlt, List.getD_eq_getElem?_getD, hi]
    rfl

set_option maxHeartbeats 400000 in
theorem Same_yes (va vb : Value) (n : Nat) (zs : List Int) (w : World) (hn : zs.length = n) (ha : View w va 1 n (zs.map (Value.int .u8))) (hb : View w vb 1 n (zs.map (Value.int .u8))) :
    Calls Try.prog 13 #[va, vb] w (Yes w) := by
  obtain ⟨_, ao, cap, rfl, hlc, hcm, hca⟩ := ha
  obtain ⟨_, bo, cap', rfl, hlc', hcm', hcb⟩ := hb
  unfold maxLen at hcm hcm'
  have HA := hid hca
  have HB := hid hcb
  have HN := hid hn
  clear hca hcb hn
  go_enter Try.func13, Try.ntmps13
  go_wp2
  go_loopw [5] (fun i wr => ∃ k m : Nat, k ≤ n ∧ i = .int .i64 k ∧ wr = w.drewN m) (fun i _ => n - (intOf i).toNat)
  case atStart => exact ⟨0, 0, by omega, rfl, rfl⟩
  case round =>
    obtain ⟨k, m, hk, rfl, rfl⟩ := hrel
    by_cases hkn : k < n
    · obtain ⟨b, off, rfl, hc⟩ := HA.out (by omega)
      obtain ⟨b', off', rfl, hc'⟩ := HB.out (by omega)
      obtain ⟨z, hz⟩ : ∃ z, zs[k]? = some z := ⟨_, List.getElem?_eq_getElem (by rw [HN.out]; exact hkn)⟩
      have h1 := hc k (.int .u8 z) (by rw [List.getElem?_map, hz]; rfl)
      have h2 := hc' k (.int .u8 z) (by rw [List.getElem?_map, hz]; rfl)
      have hkI : (k : Int) < n := by omega
      have hkJ : (0 : Int) ≤ k := by omega
      clear hc hc' hz
      go_wp2
      go_quiet (fail)
      go_wp2
      go_roundw
      case rel => exact ⟨k + 1, _, by omega, by go_num, rfl⟩
      case measure => simp [intOf]; omega
    · obtain rfl : k = n := by omega
      go_wp2
      go_ret
      exact ⟨rfl, _, rfl⟩

set_option maxHeartbeats 400000 in
theorem SameInts_yes (va vb : Value) (n : Nat) (zs : List Int) (w : World) (hn : zs.length = n) (ha : View w va 1 n (zs.map (Value.int .i64))) (hb : View w vb 1 n (zs.map (Value.int .i64))) :
    Calls Try.prog 30 #[va, vb] w (Yes w) := by
  obtain ⟨_, ao, cap, rfl, hlc, hcm, hca⟩ := ha
  obtain ⟨_, bo, cap', rfl, hlc', hcm', hcb⟩ := hb
  unfold maxLen at hcm hcm'
  have HA := hid hca
  have HB := hid hcb
  have HN := hid hn
  clear hca hcb hn
  go_enter Try.func30, Try.ntmps30
  go_wp2
  go_loopw [5] (fun i wr => ∃ k m : Nat, k ≤ n ∧ i = .int .i64 k ∧ wr = w.drewN m) (fun i _ => n - (intOf i).toNat)
  case atStart => exact ⟨0, 0, by omega, rfl, rfl⟩
  case round =>
    obtain ⟨k, m, hk, rfl, rfl⟩ := hrel
    by_cases hkn : k < n
    · obtain ⟨b, off, rfl, hc⟩ := HA.out (by omega)
      obtain ⟨b', off', rfl, hc'⟩ := HB.out (by omega)
      obtain ⟨z, hz⟩ : ∃ z, zs[k]? = some z := ⟨_, List.getElem?_eq_getElem (by rw [HN.out]; exact hkn)⟩
      have h1 := hc k (.int .i64 z) (by rw [List.getElem?_map, hz]; rfl)
      have h2 := hc' k (.int .i64 z) (by rw [List.getElem?_map, hz]; rfl)
      have hkI : (k : Int) < n := by omega
      have hkJ : (0 : Int) ≤ k := by omega
      clear hc hc' hz
      go_wp2
      go_quiet (fail)
      go_wp2
      go_roundw
      case rel => exact ⟨k + 1, _, by omega, by go_num, rfl⟩
      case measure => simp [intOf]; omega
    · obtain rfl : k = n := by omega
      go_wp2
      go_ret
      exact ⟨rfl, _, rfl⟩

set_option maxHeartbeats 400000 in
theorem SameTexts_yes (va vb : Value) (n : Nat) (zs : List ByteArray) (w : World) (hn : zs.length = n) (ha : View w va 1 n (zs.map Value.string)) (hb : View w vb 1 n (zs.map Value.string)) :
    Calls Try.prog 33 #[va, vb] w (Yes w) := by
  obtain ⟨_, ao, cap, rfl, hlc, hcm, hca⟩ := ha
  obtain ⟨_, bo, cap', rfl, hlc', hcm', hcb⟩ := hb
  unfold maxLen at hcm hcm'
  have HA := hid hca
  have HB := hid hcb
  have HN := hid hn
  clear hca hcb hn
  go_enter Try.func33, Try.ntmps33
  go_wp2
  go_loopw [5] (fun i wr => ∃ k m : Nat, k ≤ n ∧ i = .int .i64 k ∧ wr = w.drewN m) (fun i _ => n - (intOf i).toNat)
  case atStart => exact ⟨0, 0, by omega, rfl, rfl⟩
  case round =>
    obtain ⟨k, m, hk, rfl, rfl⟩ := hrel
    by_cases hkn : k < n
    · obtain ⟨b, off, rfl, hc⟩ := HA.out (by omega)
      obtain ⟨b', off', rfl, hc'⟩ := HB.out (by omega)
      obtain ⟨z, hz⟩ : ∃ z, zs[k]? = some z := ⟨_, List.getElem?_eq_getElem (by rw [HN.out]; exact hkn)⟩
      have h1 := hc k (.string z) (by rw [List.getElem?_map, hz]; rfl)
      have h2 := hc' k (.string z) (by rw [List.getElem?_map, hz]; rfl)
      have hkI : (k : Int) < n := by omega
      have hkJ : (0 : Int) ≤ k := by omega
      clear hc hc' hz
      go_wp2
      go_quiet (fail)
      go_wp2
      go_roundw
      case rel => exact ⟨k + 1, _, by omega, by go_num, rfl⟩
      case measure => simp [intOf]; omega
    · obtain rfl : k = n := by omega
      go_wp2
      go_ret
      exact ⟨rfl, _, rfl⟩

theorem sixteen (l : List Int) (h : l.length = 16) : ∃ z0 z1 z2 z3 z4 z5 z6 z7 z8 z9 z10 z11 z12 z13 z14 z15, l = [z0, z1, z2, z3, z4, z5, z6, z7, z8, z9, z10, z11, z12, z13, z14, z15] :=
  match l, h with
  | [z0, z1, z2, z3, z4, z5, z6, z7, z8, z9, z10, z11, z12, z13, z14, z15], _ => ⟨z0, z1, z2, z3, z4, z5, z6, z7, z8, z9, z10, z11, z12, z13, z14, z15, rfl⟩

theorem part_byte (ds : List Int) (j : Nat) (hj : j < ds.length) (w : World) : (part 5 (ds.map (Value.int .u8)).toArray j).run Try.prog w = .ok (.int .u8 ds[j]) w := by
  have h1 : (isAgg 5).run Try.prog w = .ok false w := by kernel_rfl
  simp [part, Sem.run_bind, h1, Result.andThen_ok, hj]

theorem eqItems_self (ds : List Int) (w : World) : ∀ is : List Nat, (∀ i ∈ is, i < ds.length) → (Op.eqItems (9998 + 1) 5 1 (ds.map (Value.int .u8)).toArray (ds.map (Value.int .u8)).toArray is).run Try.prog w = .ok true w
  | [], _ => by simp [Op.eqItems]
  | i :: is, h => by
    have hi := h i (List.mem_cons_self ..)
    have ih := eqItems_self ds w is (fun x hx => h x (List.mem_cons_of_mem _ hx))
    simp only [Op.eqItems, Sem.run_bind, Nat.mul_one, part_byte ds i hi, Result.andThen_ok]
    rw [run_equalIn_int w 9998 _ _ _ _ _ Try.under5]
    simpa [Result.andThen_ok] using ih

theorem neq_dig (ds : List Int) (h : ds.length = 16) (w : World) : (binOp .neq 57 (.agg (ds.map (Value.int .u8)).toArray) (.agg (ds.map (Value.int .u8)).toArray)).run Try.prog w = .ok (.bool false) w := by
  obtain ⟨i0, hi, _, hz1, _⟩ := info_parts Try.info5
  have hc : Try.prog.cellsOf 5 = 1 := by kernel_rfl
  have e := run_equalIn_array (P := Try.prog) w 9999 (ds.map (Value.int .u8)).toArray (ds.map (Value.int .u8)).toArray Try.under57 hi
  rw [hc, eqItems_self ds w (List.range 16) (fun i hi => by rw [h]; exact List.mem_range.1 hi)] at e
  rw [run_neq_struct, e]
  rfl

set_option maxHeartbeats 400000 in
theorem SameDigests_yes (va vb : Value) (n : Nat) (ds : List (List Int)) (w : World) (hn : ds.length = n) (hd : ∀ d ∈ ds, d.length = 16) (ha : View w va 16 n (digCells ds)) (hb : View w vb 16 n (digCells ds)) :
    Calls Try.prog 36 #[va, vb] w (Yes w) := by
  obtain ⟨_, ao, cap, rfl, hlc, hcm, hca⟩ := ha
  obtain ⟨_, bo, cap', rfl, hlc', hcm', hcb⟩ := hb
  unfold maxLen at hcm hcm'
  have HA := hid hca
  have HB := hid hcb
  have HN := hid hn
  have HD := hid hd
  clear hca hcb hn hd
  go_enter Try.func36, Try.ntmps36
  go_wp2
  go_loopw [5] (fun i wr => ∃ k m : Nat, k ≤ n ∧ i = .int .i64 k ∧ wr = w.drewN m) (fun i _ => n - (intOf i).toNat)
  case atStart => exact ⟨0, 0, by omega, rfl, rfl⟩
  case round =>
    obtain ⟨k, m, hk, rfl, rfl⟩ := hrel
    by_cases hkn : k < n
    · obtain ⟨b, off, rfl, hc⟩ := HA.out (by omega)
      obtain ⟨b', off', rfl, hc'⟩ := HB.out (by omega)
      have hkd : k < ds.length := by rw [HN.out]; exact hkn
      obtain ⟨z0, z1, z2, z3, z4, z5, z6, z7, z8, z9, z10, z11, z12, z13, z14, z15, hz⟩ := sixteen ds[k] (HD.out _ (List.getElem_mem hkd))
      have hneq : ∀ W, _ := fun W => neq_dig ds[k] (HD.out _ (List.getElem_mem hkd)) W
      have hg := digCells_at HD.out k hkd
      rw [hz] at hneq hg
      simp only [List.map_cons, List.map_nil] at hneq hg
      have c0 : w.cell? ⟨b, off + k * 16, none⟩ = some (.int .u8 z0) := by simpa [Nat.add_assoc] using hc _ _ (hg 0 _ rfl)
      have e0 : w.cell? ⟨b', off' + k * 16, none⟩ = some (.int .u8 z0) := by simpa [Nat.add_assoc] using hc' _ _ (hg 0 _ rfl)
      have c1 : w.cell? ⟨b, off + k * 16 + 1, none⟩ = some (.int .u8 z1) := by simpa [Nat.add_assoc] using hc _ _ (hg 1 _ rfl)
      have e1 : w.cell? ⟨b', off' + k * 16 + 1, none⟩ = some (.int .u8 z1) := by simpa [Nat.add_assoc] using hc' _ _ (hg 1 _ rfl)
      have c2 : w.cell? ⟨b, off + k * 16 + 2, none⟩ = some (.int .u8 z2) := by simpa [Nat.add_assoc] using hc _ _ (hg 2 _ rfl)
      have e2 : w.cell? ⟨b', off' + k * 16 + 2, none⟩ = some (.int .u8 z2) := by simpa [Nat.add_assoc] using hc' _ _ (hg 2 _ rfl)
      have c3 : w.cell? ⟨b, off + k * 16 + 3, none⟩ = some (.int .u8 z3) := by simpa [Nat.add_assoc] using hc _ _ (hg 3 _ rfl)
      have e3 : w.cell? ⟨b', off' + k * 16 + 3, none⟩ = some (.int .u8 z3) := by simpa [Nat.add_assoc] using hc' _ _ (hg 3 _ rfl)
      have c4 : w.cell? ⟨b, off + k * 16 + 4, none⟩ = some (.int .u8 z4) := by simpa [Nat.add_assoc] using hc _ _ (hg 4 _ rfl)
      have e4 : w.cell? ⟨b', off' + k * 16 + 4, none⟩ = some (.int .u8 z4) := by simpa [Nat.add_assoc] using hc' _ _ (hg 4 _ rfl)
      have c5 : w.cell? ⟨b, off + k * 16 + 5, none⟩ = some (.int .u8 z5) := by simpa [Nat.add_assoc] using hc _ _ (hg 5 _ rfl)
      have e5 : w.cell? ⟨b', off' + k * 16 + 5, none⟩ = some (.int .u8 z5) := by simpa [Nat.add_assoc] using hc' _ _ (hg 5 _ rfl)
      have c6 : w.cell? ⟨b, off + k * 16 + 6, none⟩ = some (.int .u8 z6) := by simpa [Nat.add_assoc] using hc _ _ (hg 6 _ rfl)
      have e6 : w.cell? ⟨b', off' + k * 16 + 6, none⟩ = some (.int .u8 z6) := by simpa [Nat.add_assoc] using hc' _ _ (hg 6 _ rfl)
      have c7 : w.cell? ⟨b, off + k * 16 + 7, none⟩ = some (.int .u8 z7) := by simpa [Nat.add_assoc] using hc _ _ (hg 7 _ rfl)
      have e7 : w.cell? ⟨b', off' + k * 16 + 7, none⟩ = some (.int .u8 z7) := by simpa [Nat.add_assoc] using hc' _ _ (hg 7 _ rfl)
      have c8 : w.cell? ⟨b, off + k * 16 + 8, none⟩ = some (.int .u8 z8) := by simpa [Nat.add_assoc] using hc _ _ (hg 8 _ rfl)
      have e8 : w.cell? ⟨b', off' + k * 16 + 8, none⟩ = some (.int .u8 z8) := by simpa [Nat.add_assoc] using hc' _ _ (hg 8 _ rfl)
      have c9 : w.cell? ⟨b, off + k * 16 + 9, none⟩ = some (.int .u8 z9) := by simpa [Nat.add_assoc] using hc _ _ (hg 9 _ rfl)
      have e9 : w.cell? ⟨b', off' + k * 16 + 9, none⟩ = some (.int .u8 z9) := by simpa [Nat.add_assoc] using hc' _ _ (hg 9 _ rfl)
      have c10 : w.cell? ⟨b, off + k * 16 + 10, none⟩ = some (.int .u8 z10) := by simpa [Nat.add_assoc] using hc _ _ (hg 10 _ rfl)
      have e10 : w.cell? ⟨b', off' + k * 16 + 10, none⟩ = some (.int .u8 z10) := by simpa [Nat.add_assoc] using hc' _ _ (hg 10 _ rfl)
      have c11 : w.cell? ⟨b, off + k * 16 + 11, none⟩ = some (.int .u8 z11) := by simpa [Nat.add_assoc] using hc _ _ (hg 11 _ rfl)
      have e11 : w.cell? ⟨b', off' + k * 16 + 11, none⟩ = some (.int .u8 z11) := by simpa [Nat.add_assoc] using hc' _ _ (hg 11 _ rfl)
      have c12 : w.cell? ⟨b, off + k * 16 + 12, none⟩ = some (.int .u8 z12) := by simpa [Nat.add_assoc] using hc _ _ (hg 12 _ rfl)
      have e12 : w.cell? ⟨b', off' + k * 16 + 12, none⟩ = some (.int .u8 z12) := by simpa [Nat.add_assoc] using hc' _ _ (hg 12 _ rfl)
      have c13 : w.cell? ⟨b, off + k * 16 + 13, none⟩ = some (.int .u8 z13) := by simpa [Nat.add_assoc] using hc _ _ (hg 13 _ rfl)
      have e13 : w.cell? ⟨b', off' + k * 16 + 13, none⟩ = some (.int .u8 z13) := by simpa [Nat.add_assoc] using hc' _ _ (hg 13 _ rfl)
      have c14 : w.cell? ⟨b, off + k * 16 + 14, none⟩ = some (.int .u8 z14) := by simpa [Nat.add_assoc] using hc _ _ (hg 14 _ rfl)
      have e14 : w.cell? ⟨b', off' + k * 16 + 14, none⟩ = some (.int .u8 z14) := by simpa [Nat.add_assoc] using hc' _ _ (hg 14 _ rfl)
      have c15 : w.cell? ⟨b, off + k * 16 + 15, none⟩ = some (.int .u8 z15) := by simpa [Nat.add_assoc] using hc _ _ (hg 15 _ rfl)
      have e15 : w.cell? ⟨b', off' + k * 16 + 15, none⟩ = some (.int .u8 z15) := by simpa [Nat.add_assoc] using hc' _ _ (hg 15 _ rfl)
      have hkI : (k : Int) < n := by omega
      have hkJ : (0 : Int) ≤ k := by omega
      clear hc hc' hz hg
      go_wp2
      go_quiet (fail)
      go_wp2
      go_roundw
      case rel => exact ⟨k + 1, _, by omega, by go_num, rfl⟩
      case measure => simp [intOf]; omega
    · obtain rfl : k = n := by omega
      go_wp2
      go_ret
      exact ⟨rfl, _, rfl⟩


end Go.Proofs.Ytpdphbliaibkhaa
