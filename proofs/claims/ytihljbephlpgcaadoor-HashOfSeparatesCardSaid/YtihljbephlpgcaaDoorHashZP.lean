/-
  Two bytes that came in.
-/
import Derived.Test.YtihljbephlpgcaaDoorHashZS
namespace Go.Proofs.YtihljbephlpgcaaDoor
open Go.RowKit Go.WideShapes Go.Deep Go.ChangeShapes

theorem pair_in {H : Type} {enc : TypeId × Value → H} {w : World} {base : Nat} {spare : Nat → Bool} {held : Bool} {fuel : Nat} {v : Value} {x : DataW H × List MemPlace}
    (hv : Value.okWide Tryd.prog w .any base 48 v) (h : DataW.trod enc Tryd.prog w 0 spare held fuel 48 v.cells.toList = some x) :
    ∃ c d : Nat, c < 256 ∧ d < 256 ∧ v = .agg #[.int .u8 (c : Int), .int .u8 (d : Int)] := by
  have hu : Tryd.prog.underlying 48 = some (.array 2 5) := by kernel_rfl
  have c1 : Tryd.prog.cellsOf 5 = 1 := by kernel_rfl
  have c2 : Tryd.prog.cellsOf 48 = 2 := by kernel_rfl
  unfold Value.okWide at hv
  rw [hu] at hv
  obtain ⟨cs, rfl, hsz, _⟩ := hv
  have h' : DataW.trod enc Tryd.prog w 0 spare held fuel 48 cs.toList = some x := h
  obtain ⟨xs, m, _, _, hlen, hn, hel⟩ := DataW.trod_array hu h'
  rw [c2] at hlen
  rw [c1] at hel
  obtain ⟨l⟩ := cs
  match l, hlen with
  | [a, b], _ =>
    have e0 := hel 0 (by decide)
    have e1 := hel 1 (by decide)
    rw [List.getElem?_eq_getElem (by omega : 0 < xs.length)] at e0
    rw [List.getElem?_eq_getElem (by omega : 1 < xs.length)] at e1
    obtain ⟨p, f0, _, w0⟩ := DataW.trod_int Tryd.under_u8 e0
    obtain ⟨q, f1, _, w1⟩ := DataW.trod_int Tryd.under_u8 e1
    simp at f0 f1
    have b0 := bounds_u8 w0
    have b1 := bounds_u8 w1
    refine ⟨p.toNat, q.toNat, by omega, by omega, ?_⟩
    rw [f0, f1, Int.toNat_of_nonneg b0.1, Int.toNat_of_nonneg b1.1]

end Go.Proofs.YtihljbephlpgcaaDoor
