/-
  Signatures: what came in, and from a contract to a law's walk.
-/
import Derived.Test.YthadfilandmhiaaDoorSB47
import Derived.Test.YthadfilandmhiaaDoorSB22
set_option linter.unusedVariables false
set_option linter.unusedSimpArgs false
set_option linter.unusedSectionVars false
namespace Go.Proofs.YthadfilandmhiaaDoor
open Go.RowKit Go.WideShapes Go.Deep Go.ChangeShapes
open Go.Lib (hid)
open Dg Zn S
namespace Vc
theorem Con.walkS {P : Program} {f : FuncId} {args : List (SA Dm)} {b : Bool} (hcon : Con P f args (.one (.v (.bool b)))) {w : World} (hW : Dom.W Dm w) {vs : List Value} (h : isAll (fun _ => False) (fun _ => (0, 0)) w args vs) : Calls P f vs.toArray w fun e w' => e = .returned (.bool b) ∧ Below w.heap.size w w' := by
  refine (hcon (fun _ => False) (fun _ => (0, 0)) w vs (fun _ h => h.elim) (fun _ h => h.elim) hW h).mono ?_
  rintro e w' ⟨v, rfl, h1, h2⟩
  exact ⟨congrArg Ending.returned h2, h1⟩
theorem text_is {w : World} (a : ByteArray) : (SA.v (str (by8 (tx a))) : SA Dm).is (fun _ => False) (fun _ => (0, 0)) w (.string a) := by
  rw [str_by8 (tx_bn a), strN_tx]
  rfl
theorem tx_le {a : ByteArray} (h : a.size ≤ maxLen) : (tx a).length ≤ 9223372036854775807 := by
  rw [tx_length]
  unfold maxLen at h
  omega
theorem u8_is {w : World} {z : Int} (h : 0 ≤ z ∧ z ≤ 255) : (SA.v (.int .u8 (z.toNat : Int)) : SA Dm).is (fun _ => False) (fun _ => (0, 0)) w (.int .u8 z) := by
  show Value.int .u8 z = .int .u8 (z.toNat : Int)
  rw [Int.toNat_of_nonneg h.1]
theorem digest_is {w : World} {l : List Nat} (hl : l.length = 16) : (DG (by8 l) : SA Dm).is (fun _ => False) (fun _ => (0, 0)) w (.agg (byC (by8 l)).toArray) := fun _ _ => ⟨by rw [by8_length, hl], rfl⟩
def natOf : Value → Nat
  | .int _ z => z.toNat
  | _ => 0
theorem digest_in {H : Type} {enc : TypeId × Value → H} {w : World} {base : Nat} {spare : Nat → Bool} {held : Bool} {fuel : Nat} {v : Value} {x : DataW H × List MemPlace}
    (hv : Value.okWide Tryd.prog w .any base 23 v) (h : DataW.trod enc Tryd.prog w 0 spare held fuel 23 v.cells.toList = some x) :
    ∃ l : List Nat, l.length = 16 ∧ Bn l ∧ v = .agg (byC (by8 l)).toArray := by
  have hu : Tryd.prog.underlying 23 = some (.array 16 5) := by kernel_rfl
  have c1 : Tryd.prog.cellsOf 5 = 1 := by kernel_rfl
  have c2 : Tryd.prog.cellsOf 23 = 16 := by kernel_rfl
  unfold Value.okWide at hv
  rw [hu] at hv
  obtain ⟨cs, rfl, hsz, _⟩ := hv
  have h' : DataW.trod enc Tryd.prog w 0 spare held fuel 23 cs.toList = some x := h
  obtain ⟨xs, m, _, _, hlen, hn, hel⟩ := DataW.trod_array hu h'
  rw [c2] at hlen
  rw [c1] at hel
  obtain ⟨l⟩ := cs
  have hlen : l.length = 16 := hlen
  have key : ∀ y ∈ l, y = .int .u8 ((natOf y : Nat) : Int) ∧ natOf y < 256 := by
    intro y hy
    obtain ⟨i, hi, rfl⟩ := List.getElem_of_mem hy
    have e := hel i (by omega)
    rw [Nat.mul_one, List.getElem?_eq_getElem (by omega : i < xs.length)] at e
    obtain ⟨p, f0, _, w0⟩ := DataW.trod_int Tryd.under_u8 e
    have b0 := bounds_u8 w0
    have e3 : l[i] = .int .u8 p := by
      have := congrArg (fun l => l[0]?) f0
      simp only [List.getElem?_take, List.getElem?_drop] at this
      exact (List.getElem?_eq_some_iff.1 (show l[i]? = some (.int .u8 p) by simpa using this)).2
    rw [e3]
    exact ⟨by rw [natOf, Int.toNat_of_nonneg b0.1], by rw [natOf]; omega⟩
  have hb : Bn (l.map natOf) := fun z hz => by
    obtain ⟨y, hy, rfl⟩ := List.mem_map.1 hz
    exact (key y hy).2
  refine ⟨l.map natOf, by rw [List.length_map, hlen], hb, ?_⟩
  rw [byC_bytesV hb, bytesV, List.map_map]
  congr 2
  exact ((List.map_congr_left (g := id) fun y hy => (key y hy).1.symm).trans (List.map_id _)).symm
theorem pairI_in {H : Type} {enc : TypeId × Value → H} {w : World} {base : Nat} {spare : Nat → Bool} {held : Bool} {fuel : Nat} {v : Value} {x : DataW H × List MemPlace}
    (hv : Value.okWide Tryd.prog w .any base 28 v) (h : DataW.trod enc Tryd.prog w 0 spare held fuel 28 v.cells.toList = some x) :
    ∃ c d : Int, (-9223372036854775808 ≤ d ∧ d ≤ 9223372036854775807) ∧ v = .agg [Value.int .i64 c, Value.int .i64 d].toArray := by
  have hu : Tryd.prog.underlying 28 = some (.array 2 3) := by kernel_rfl
  have hi : Tryd.prog.underlying 3 = some (.int .i64) := by kernel_rfl
  have c1 : Tryd.prog.cellsOf 3 = 1 := by kernel_rfl
  have c2 : Tryd.prog.cellsOf 28 = 2 := by kernel_rfl
  unfold Value.okWide at hv
  rw [hu] at hv
  obtain ⟨cs, rfl, hsz, _⟩ := hv
  have h' : DataW.trod enc Tryd.prog w 0 spare held fuel 28 cs.toList = some x := h
  obtain ⟨xs, m, _, _, hlen, hn, hel⟩ := DataW.trod_array hu h'
  rw [c2] at hlen
  rw [c1] at hel
  obtain ⟨l⟩ := cs
  match l, hlen with
  | [a, b], _ =>
    have e0 := hel 0 (by decide)
    have e1 := hel 1 (by decide)
    rw [List.getElem?_eq_getElem (by omega : 0 < xs.length)] at e0
    rw [List.getElem?_eq_getElem (by omega : 1 < xs.length)] at e1
    obtain ⟨p, f0, _, w0⟩ := DataW.trod_int hi e0
    obtain ⟨q, f1, _, w1⟩ := DataW.trod_int hi e1
    simp at f0 f1
    refine ⟨p, q, bounds_i64 w1, ?_⟩
    rw [f0, f1]
end Vc
end Go.Proofs.YthadfilandmhiaaDoor
