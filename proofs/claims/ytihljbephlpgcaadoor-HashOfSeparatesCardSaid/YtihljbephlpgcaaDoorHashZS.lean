/-
  A list of strings that came in.
-/
import Derived.Test.YtihljbephlpgcaaDoorHashRG
import Derived.Test.YtihljbephlpgcaaDoorHashRH
import Derived.OpenShut
import Derived.SliceStrings
namespace Go.Proofs.YtihljbephlpgcaaDoor
open Go.RowKit Go.WideShapes Go.Deep Go.ChangeShapes
open S

theorem addr_at {w : World} {a : Addr} {v : Value} (h : w.cell? (a.add 0) = some v) : ∃ b off, a = ⟨b, off, none⟩ := by
  obtain ⟨b, off, spot⟩ := a
  have hspot : spot = none := by simpa [Addr.add] using World.cell?_spot h
  subst hspot
  exact ⟨b, off, rfl⟩
theorem parts_in {H : Type} {enc : TypeId × Value → H} {w : World} {spare : Nat → Bool} {held : Bool} {fuel : Nat} {a : Option Addr} {len cap : Nat} {x : DataW H × List MemPlace}
    (h : DataW.trod enc Tryd.prog w 0 spare held fuel 27 [.slice a len cap] = some x) :
    ∃ ss : List ByteArray, ss.length = len ∧ len ≤ cap ∧ cap ≤ maxLen ∧ Parts w a ss := by
  rcases open_strings Tryd.underlying27 Tryd.underlying9 (by kernel_rfl) h with ⟨hcs, _⟩ | ⟨a', len', cap', ss, hcs, _, hl, hm, hz, _, hc, _⟩
  · simp at hcs
    obtain ⟨rfl, rfl, rfl⟩ := hcs
    exact ⟨[], rfl, Nat.le_refl _, by unfold maxLen; omega, fun h => absurd h (by simp)⟩
  · simp at hcs
    obtain ⟨rfl, rfl, rfl⟩ := hcs
    have hlen : (ss.take len).length = len := by rw [List.length_take]; split at hz <;> omega
    refine ⟨ss.take len, hlen, hl, hm, fun h0 => ?_⟩
    have hpos : 0 < ss.length := by
      have h3 : (ss.take len).length ≤ ss.length := by simp only [List.length_take]; omega
      omega
    obtain ⟨b, off, rfl⟩ := addr_at (hc 0 hpos)
    have h00 := hc 0 hpos
    rw [Addr.add_lit] at h00
    refine ⟨b, off, rfl, lt_of_cell h00, fun i y hy => ?_⟩
    rw [List.getElem?_take] at hy
    split at hy
    · have := hc i (List.getElem?_eq_some_iff.1 hy).1
      rw [Addr.add_lit] at this
      rw [this, List.getD_eq_getElem?_getD, hy]
      rfl
    · cases hy

end Go.Proofs.YtihljbephlpgcaaDoor
