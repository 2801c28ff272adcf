/-
  What the laid package-level variables give: the round constants, cell by cell.
-/
import Derived.Test.YthadfilandmhiaaDoorSR15
import Derived.ProofKit
import Derived.LaidMore
import Derived.OpenShut
import Derived.ShutString
import Derived.Stop.Joined
set_option linter.unusedVariables false
set_option linter.unusedSimpArgs false
set_option linter.unusedSectionVars false
namespace Go.Proofs.YthadfilandmhiaaDoor
open Go.ChangeShapes Go.WideShapes Go.ChangeAt Go.RowKit
open S
theorem own : ownKnob Tryd.prog.godebug = none := by kernel_rfl
theorem gR : Tryd.prog.globalNamed "gantry/hash.rounds" = some 1 := by kernel_rfl
theorem tR : (Tryd.prog.globals[1]?).map (·.type) = some 100 := by kernel_rfl

/-- The reference's round constants lie where it reads them. -/
def KC (w : World) : Prop := 0 < w.heap.size ∧ ∀ t, t < 64 → w.cell? ⟨0, t, none⟩ = some (.int .u32 (ks.getD t 0 : Nat))
theorem KC.below {w w' : World} (h : KC w) (hb : Below w.heap.size w w') : KC w' :=
  ⟨Nat.lt_of_lt_of_le h.1 hb.size, fun t ht => (hb.cell (p := ⟨0, t, none⟩) h.1).trans (h.2 t ht)⟩

theorem ksD {H : Type} : (.agg (ks.map fun k : Nat => DataW.lit (.int .u32 (k : Int))) : DataW H) = Rows.laid_gantry_hash_rounds := rfl
/-- An array of 64 words that reads as the constants. -/
theorem cells_of_trod {W : World} {fuel : Nat} {cs : Array Value} {p : List MemPlace}
    (h : DataW.trod (fun _ => ()) Tryd.prog W 0 (fun _ => true) false fuel 100 cs.toList = some (.agg (ks.map fun k : Nat => DataW.lit (.int .u32 (k : Int))), p)) (t : Nat) (ht : t < 64) : cs[t]? = some (.int .u32 (ks.getD t 0 : Nat)) := by
  obtain ⟨xs, m, rfl, hx, hlen, hn, hel⟩ := DataW.trod_array Tryd.under_w64 h
  have c1 : Tryd.prog.cellsOf 75 = 1 := by kernel_rfl
  have c64 : Tryd.prog.cellsOf 100 = 64 := by kernel_rfl
  have e := hel t ht
  rw [c1, Nat.mul_one] at e
  have hxt : t < xs.length := by omega
  rw [List.getElem?_eq_getElem hxt] at e
  obtain ⟨k, e1, e2, _⟩ := DataW.trod_int Tryd.under_u32 e
  have hct : t < cs.toList.length := by omega
  have e3 : cs.toList[t] = .int .u32 k := by
    have := congrArg (fun l => l[0]?) e1
    simp only [List.getElem?_take, List.getElem?_drop] at this
    exact (List.getElem?_eq_some_iff.1 (show cs.toList[t]? = some (.int .u32 k) by simpa using this)).2
  have hx1 : xs.map (·.1) = ks.map fun k : Nat => DataW.lit (.int .u32 (k : Int)) := by
    have := congrArg Prod.fst hx
    simpa using this.symm
  have e4 := congrArg (fun l => l[t]?) hx1
  have hkt : t < ks.length := ht
  simp only [List.getElem?_map, List.getElem?_eq_getElem hxt, List.getElem?_eq_getElem hkt, Option.map_some, e2, Option.some.injEq, DataW.lit.injEq, Lit.int.injEq, true_and] at e4
  rw [← Array.getElem?_toList, List.getElem?_eq_getElem hct, e3, e4]
  simp [hkt]

def laidR : List (String × DataW Unit) := [("gantry/hash.rounds", Rows.laid_gantry_hash_rounds)]
theorem var_lt {W : World} {n : String} {g : Nat} {cs : Array Value} (hg : Tryd.prog.globalNamed n = some g) (h : W.var? Tryd.prog n = some cs) : g < W.heap.size := by
  simp only [World.var?, hg, Option.bind_some] at h
  cases e : W.heap[g]? with
  | none => rw [e] at h; cases h
  | some o => exact (Array.getElem?_eq_some_iff.1 e).1

theorem KR_of {W : World} (h : laidMetH Tryd.prog laidR W) : KR W := by
  rw [MakeChecks.laidMetH_plain _ _ _ (by kernel_rfl)] at h
  obtain ⟨ps, ⟨g0, t0, cs0, f0, p0, q0, hg0, ht0, hv0, hd0, _, _⟩, _, _⟩ := h
  obtain rfl := Option.some.inj (gR.symm.trans hg0)
  obtain rfl := Option.some.inj (tR.symm.trans ht0)
  rw [← ksD] at hd0
  exact ⟨var_lt gR hv0, fun t ht => (World.var?_cell hg0 hv0 t).trans (cells_of_trod hd0 t ht)⟩

theorem met_R (os : Os) (args : Array Value) : laidMetH Tryd.prog laidR ((World.doorLaid Tryd.prog 400 os).forCall (fun _ _ => 0) ⟨#[], args, []⟩).memory :=
  laidMetH_of_parts3 (fuel := 8) (laidMet_of_run' 8 (by kernel_rfl) (by kernel_rfl)) (by kernel_rfl) (by kernel_rfl)
end Go.Proofs.YthadfilandmhiaaDoor
