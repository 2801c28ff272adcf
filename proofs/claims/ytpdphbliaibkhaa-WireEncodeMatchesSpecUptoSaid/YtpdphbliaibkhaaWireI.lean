/-
  Lists of integers and of bytes that came in, with their bulk.
-/
import Derived.Test.YtpdphbliaibkhaaWireZ
namespace Go.Proofs.Ytpdphbliaibkhaa
open Go.RowKit Go.WideShapes Go.Deep Go.ChangeShapes
open W

section
variable {H : Type} {enc : TypeId × Value → H} {w : World}

theorem ints_in {fuel : Nat} {v : Value} {x : DataW H × List MemPlace} (h : DataW.trod enc Try.prog w 0 (fun _ => true) true fuel 22 [v] = some x) :
    ∃ zs : List Int, View w v 1 zs.length (zs.map (Value.int .i64)) ∧ (∀ z ∈ zs, -9223372036854775808 ≤ z ∧ z ≤ 9223372036854775807) ∧ zs.length ≤ Rows.uptoBulk x.1 := by
  rcases open_ints Try.underlying22 Try.underlying3 (by kernel_rfl) h with ⟨hcs, hx⟩ | ⟨a, l, c, zs, hcs, _, hl, hm, hz, hx, hcell, hwz⟩
  · simp at hcs
    subst hcs
    obtain ⟨bs, hbl, hv, hb⟩ := ints_of_row (w := w) (a := none) (len := 0) (cap := 0) (zs := []) (.inl ⟨rfl, rfl, rfl, rfl⟩)
    exact ⟨bs, hv |> fun h => by simpa using h, hb, by omega⟩
  · simp at hcs
    subst hcs hx
    obtain ⟨bs, hbl, hv, hb⟩ := ints_of_row (w := w) (a := some a) (len := l) (cap := c) (zs := zs) (.inr ⟨_, rfl, hl, hm, by simpa using hz, hcell, hwz⟩)
    refine ⟨bs, hv, hb, ?_⟩
    show _ ≤ Rows.uptoBulk (.slice (lits .i64 (zs.take l)) (lits .i64 (zs.drop l)))
    have := bulk_len (H := H) (lits .i64 (zs.take l))
    simp only [lits, List.length_map, List.length_take] at this
    simp only [Rows.uptoBulk, lits]
    simp at hz
    omega

theorem bytes_in {fuel : Nat} {v : Value} {x : DataW H × List MemPlace} (h : DataW.trod enc Try.prog w 0 (fun _ => true) true fuel 28 [v] = some x) :
    ∃ bs : List Int, ByteView w v bs ∧ bs.length ≤ Rows.uptoBulk x.1 := by
  rcases open_ints Try.underlying28 Try.underlying5 (by kernel_rfl) h with ⟨hcs, hx⟩ | ⟨a, l, c, zs, hcs, _, hl, hm, hz, hx, hcell, hwz⟩
  · simp at hcs
    subst hcs
    obtain ⟨bs, hbl, hv⟩ := bytes_of_row (w := w) (a := none) (len := 0) (cap := 0) (zs := []) (.inl ⟨rfl, rfl, rfl, rfl⟩)
    exact ⟨bs, hv, by omega⟩
  · simp at hcs
    subst hcs hx
    obtain ⟨bs, hbl, hv⟩ := bytes_of_row (w := w) (a := some a) (len := l) (cap := c) (zs := zs) (.inr ⟨_, rfl, hl, hm, by simpa using hz, hcell, hwz⟩)
    refine ⟨bs, hv, ?_⟩
    show _ ≤ Rows.uptoBulk (.slice (lits .u8 (zs.take l)) (lits .u8 (zs.drop l)))
    have := bulk_len (H := H) (lits .u8 (zs.take l))
    simp only [lits, List.length_map, List.length_take] at this
    simp only [Rows.uptoBulk, lits]
    simp at hz
    omega

end

end Go.Proofs.Ytpdphbliaibkhaa
