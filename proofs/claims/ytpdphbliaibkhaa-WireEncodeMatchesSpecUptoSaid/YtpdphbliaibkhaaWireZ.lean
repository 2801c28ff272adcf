/-
  Lists of strings and of digests that came in, read as the walks of package wire take them; what the bound of the second form gives.
-/
import Derived.Test.YtpdphbliaibkhaaWireU
import Derived.Deep.Slices
import Derived.SliceStrings
namespace Go.Proofs.Ytpdphbliaibkhaa
open Go.RowKit Go.WideShapes Go.Deep Go.ChangeShapes
open W

theorem bulk_strs {H : Type} (ss : List ByteArray) : Rows.uptoBulkAll (strs (H := H) ss) = total ss + ss.length := by
  induction ss with
  | nil => rfl
  | cons s ss ih =>
    simp only [strs, List.map_cons] at ih ⊢
    simp only [Rows.uptoBulkAll, Rows.uptoBulk, ih, total, List.map_cons, List.sum_cons, List.length_cons, Array.length_toList]
    have : s.data.size = s.size := rfl
    omega

theorem bulk_len {H : Type} (l : List (DataW H)) : l.length ≤ Rows.uptoBulkAll l := by
  induction l with
  | nil => simp [Rows.uptoBulkAll]
  | cons x r ih =>
    have h1 : 1 ≤ Rows.uptoBulk x := by
      cases x with
      | lit l => cases l <;> simp [Rows.uptoBulk]
      | _ => simp [Rows.uptoBulk]
    simp only [Rows.uptoBulkAll, List.length_cons]
    omega

section
variable {H : Type} {enc : TypeId × Value → H} {w : World} {spare : Nat → Bool} {held : Bool}

theorem addr_at {w : World} {a : Addr} {v : Value} (h : w.cell? (a.add 0) = some v) : ∃ b off, a = ⟨b, off, none⟩ := by
  obtain ⟨b, off, spot⟩ := a
  have hspot : spot = none := by simpa [Addr.add] using World.cell?_spot h
  subst hspot
  exact ⟨b, off, rfl⟩

theorem texts_in {fuel : Nat} {v : Value} {x : DataW H × List MemPlace} (h : DataW.trod enc Try.prog w 0 spare held fuel 23 [v] = some x) :
    ∃ ss : List ByteArray, View w v 1 ss.length (ss.map Value.string) ∧ total ss + ss.length ≤ Rows.uptoBulk x.1 := by
  rcases open_strings Try.underlying23 Try.underlying9 (by kernel_rfl) h with ⟨hcs, hx⟩ | ⟨a, len, cap, ss, hcs, _, hl, hm, hz, hx, hc, hw⟩
  · simp at hcs
    subst hcs hx
    exact ⟨[], ⟨rfl, none, 0, rfl, Nat.le_refl _, by unfold maxLen; omega, fun h => absurd h (by simp)⟩, by simp [total]⟩
  · simp at hcs
    subst hcs hx
    have hlen : (ss.take len).length = len := by rw [List.length_take]; split at hz <;> omega
    refine ⟨ss.take len, ⟨by simp, some a, cap, by rw [hlen], by omega, hm, fun hne => ?_⟩, ?_⟩
    · have hpos : 0 < ss.length := by
        have h3 : (ss.take len).length ≤ ss.length := by simp only [List.length_take]; omega
        omega
      obtain ⟨b, off, rfl⟩ := addr_at (hc 0 hpos)
      refine ⟨b, off, rfl, fun i y hy => ?_⟩
      rw [List.getElem?_map, List.getElem?_take] at hy
      split at hy
      · cases hi : ss[i]? with
        | none => rw [hi] at hy; simp at hy
        | some z =>
          rw [hi] at hy
          simp at hy
          subst hy
          have := hc i (List.getElem?_eq_some_iff.1 hi).1
          rw [Addr.add_lit] at this
          rw [this, List.getD_eq_getElem?_getD, hi]
          rfl
      · simp at hy
    · show _ ≤ Rows.uptoBulk (.slice _ _)
      simp only [Rows.uptoBulk, bulk_strs]
      omega

theorem digest_in {fuel : Nat} {cs : List Value} {x : DataW H × List MemPlace} (h : DataW.trod enc Try.prog w 0 spare held fuel 57 cs = some x) :
    ∃ d : List Int, d.length = 16 ∧ cs = d.map (Value.int .u8) ∧ Bs d := by
  have hu : Try.prog.underlying 57 = some (.array 16 (Try.prog.elem 57)) := by kernel_rfl
  have he : Try.prog.underlying (Try.prog.elem 57) = some (.int .u8) := by kernel_rfl
  have h1 : Try.prog.cellsOf (Try.prog.elem 57) = 1 := by kernel_rfl
  have h16 : Try.prog.cellsOf 57 = 16 := by kernel_rfl
  obtain ⟨xs, m, _, _, hl, hxs, hi⟩ := DataW.trod_array hu h
  rw [h1] at hi
  rw [h16] at hl
  obtain ⟨f, hf⟩ := choose_lt (α := Int) (n := 16) (p := fun i z => cs[i]? = some (Value.int .u8 z) ∧ 0 ≤ z ∧ z ≤ 255) (fun i hlt => by
    have h2 := hi i hlt
    rw [List.getElem?_eq_getElem (by omega : i < xs.length)] at h2
    obtain ⟨z, e1, _, hw⟩ := DataW.trod_int he h2
    refine ⟨z, ?_, bounds_u8 hw⟩
    have := congrArg (fun l : List Value => l[0]?) e1
    simpa [List.getElem?_take, List.getElem?_drop] using this)
  refine ⟨(List.range 16).map f, by simp, ?_, fun z hz => ?_⟩
  · apply List.ext_getElem?
    intro i
    by_cases hlt : i < 16
    · rw [(hf i hlt).1]
      simp [List.getElem?_map, List.getElem?_range hlt]
    · rw [List.getElem?_eq_none (by omega), List.getElem?_eq_none (by simp; omega)]
  · simp only [List.mem_map, List.mem_range] at hz
    obtain ⟨i, hlt, rfl⟩ := hz
    exact (hf i hlt).2

theorem digests_in {fuel : Nat} {v : Value} {x : DataW H × List MemPlace} (h : DataW.trod enc Try.prog w 0 spare held fuel 24 [v] = some x) :
    ∃ ds : List (List Int), View w v 16 ds.length (digCells ds) ∧ (∀ d ∈ ds, d.length = 16) ∧ (∀ d ∈ ds, Bs d) ∧ ds.length ≤ Rows.uptoBulk x.1 := by
  have h16 : Try.prog.cellsOf 57 = 16 := by kernel_rfl
  rcases open_slice Try.underlying24 h with ⟨hcs, hx⟩ | ⟨a, len, cap, m, n, D, Pl, hcs, _, hl, hm, hmm, hx, hc⟩
  · simp at hcs
    subst hcs hx
    exact ⟨[], ⟨rfl, none, 0, rfl, Nat.le_refl _, by unfold maxLen; omega, fun h => absurd h (by simp)⟩, by simp, by simp, by simp⟩
  · simp at hcs
    subst hcs hx
    rw [h16] at hc
    have hle : len ≤ m := by rw [hmm]; split <;> omega
    obtain ⟨f, hf⟩ := choose_lt (α := List Int) (n := len) (p := fun i d => d.length = 16 ∧ Bs d ∧ ∀ j, j < 16 → w.cell? ((a.add (i * 16)).add j) = (d.map (Value.int .u8))[j]?) (fun i hlt => by
      obtain ⟨cs', c1, c2⟩ := hc i (by omega)
      obtain ⟨d, hd, rfl, hB⟩ := digest_in c2
      exact ⟨d, hd, hB, (World.cells?_some c1).2.2⟩)
    have hlen : ((List.range len).map f).length = len := by simp
    have hd16 : ∀ d ∈ (List.range len).map f, d.length = 16 := by
      intro d hd
      simp only [List.mem_map, List.mem_range] at hd
      obtain ⟨i, hlt, rfl⟩ := hd
      exact (hf i hlt).1
    have hdl : (digCells ((List.range len).map f)).length = len * 16 := by
      have := digs_length hd16
      simp only [digCells, List.length_flatMap, List.length_map] at this ⊢
      simpa [hlen, Nat.mul_comm] using this
    refine ⟨(List.range len).map f, ⟨by rw [hdl, hlen], some a, cap, by rw [hlen], by omega, hm, fun hne => ?_⟩, hd16, ?_, ?_⟩
    · have hpos : 0 < len := by omega
      obtain ⟨b, off, rfl⟩ : ∃ b off, a = ⟨b, off, none⟩ := by
        obtain ⟨hd, _, hcell⟩ := hf 0 hpos
        have h0 := hcell 0 (by omega)
        rw [List.getElem?_eq_getElem (by simp; omega)] at h0
        obtain ⟨b, off, spot⟩ := a
        have hspot : spot = none := by simpa [Addr.add] using World.cell?_spot h0
        subst hspot
        exact ⟨b, off, rfl⟩
      refine ⟨b, off, rfl, fun i y hy => ?_⟩
      have hi : i < len * 16 := by
        have := (List.getElem?_eq_some_iff.1 hy).1
        omega
      have hk : i / 16 < len := by omega
      obtain ⟨hd, _, hcell⟩ := hf (i / 16) hk
      have hj := hcell (i % 16) (by omega)
      have hx : ((f (i / 16)).map (Value.int .u8))[i % 16]? = some (((f (i / 16)).map (Value.int .u8))[i % 16]'(by simp; omega)) := List.getElem?_eq_getElem _
      have hat := digCells_at hd16 (i / 16) (by omega) (i % 16) (((f (i / 16)).map (Value.int .u8))[i % 16]'(by simp; omega)) (by simp only [List.getElem_map, List.getElem_range]; rw [← List.getElem_map (Value.int .u8)]; exact hx)
      rw [show i / 16 * 16 + i % 16 = i from by omega, hy] at hat
      rw [hx, ← hat] at hj
      rw [← hj, Addr.add_lit, Addr.add_lit, show off + i / 16 * 16 + i % 16 = off + i from by omega]
    · intro d hd
      simp only [List.mem_map, List.mem_range] at hd
      obtain ⟨i, hlt, rfl⟩ := hd
      exact (hf i hlt).2.1
    · rw [hlen]
      show _ ≤ Rows.uptoBulk (.slice _ _)
      have := bulk_len ((List.range len).map D)
      simp only [Rows.uptoBulk]
      simp only [List.length_map, List.length_range] at this
      omega

end

end Go.Proofs.Ytpdphbliaibkhaa
