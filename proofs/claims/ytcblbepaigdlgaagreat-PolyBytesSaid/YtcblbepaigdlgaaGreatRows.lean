/-
  No cell of these rows narrows 'for every input' (looked for: loops, veiled, ifaces, maps, wideKeys, modest, calm, conditions, laid).
  DERIVED. THE GIVEN ROWS OF THIS SEAT. 7 by the template 'for every input the law returns true; each argument reads behind the call as it read before'; 0 by the template 'total and deterministic' (their statements: YtcblbepaigdlgaaGreatTotals.lean).
  GIVEN WITH THE SEED: the statements are not yours to turn. If you find one false, say at which input.
  Laid BY PROGRAM, IN A SANDBOX (cutbox-rows.mjs): the forced cells as the released guide's own fill.sh prints them over the translation d392c7da2e86d46e… (all of the seat's roots in one cut). By AI agents, Wed Nov 11 2026. No macro, syntax, notation, axiom, sorry.
-/
import Derived.Test.YtcblbepaigdlgaaGreatChecked
import GoSem.Claim
import GoSem.ClaimJoined
import GoSem.ClaimMapViews
import Derived.JoinedTies
import Derived.KernelRfl
namespace Go.Proofs.YtcblbepaigdlgaaGreat
/- THE CELL 'sum', in the pinned program and in every row, IS THE sha256 OF THE DUMP (.gsa) THAT YtcblbepaigdlgaaGreatProg.lean LOADS. Nothing in Lean hashes anything: it is a label: what it is worth is what the hold of that sum in a sandbox is worth. -/
noncomputable def Tryz.pinned : Pinned := { name := "ytcblbepaigdlgaagreat", sum := "d392c7da2e86d46e6e782eb2cfaf1cdf9aed7de9caf39d927c13cda75a332842", checked := Tryz.checked }
namespace Rows
def none {H : Type} : Left H := { results := [], args := [] }

/-- 'gantrylaw06.PolyMakes': WHATEVER THE INPUT: true; the input reads as it did. -/
def polyMakesSpec : ChangeSpec := { name := "polyMakes", fn := fun _ => fun
  | [d1, d2] => { results := [.lit (.bool true)], args := [d1, d2] }
  | _ => none }
def polyMakesRow : OpenClaim := { program := "ytcblbepaigdlgaagreat", sum := "d392c7da2e86d46e6e782eb2cfaf1cdf9aed7de9caf39d927c13cda75a332842", func := "gantry/gantrylaw06.PolyMakes", spec := "polyMakes", inPlace := ["math/bits.Add64"], unfollowed := true, recurses := true, named := ["math/bits.divideError", "math/bits.overflowError"], apart := false }
def PolyMakesSaid : Prop := polyMakesRow.holds Tryz.pinned (OpenSpec.ofChange polyMakesSpec)

/-- ITS FALSE NEIGHBOUR: 'it returns false'. Refute it at one input. -/
def polyMakesWrong : ChangeSpec := { name := "polyMakes", fn := fun _ => fun
  | [d1, d2] => { results := [.lit (.bool false)], args := [d1, d2] }
  | _ => none }
def PolyMakesWrongFalsely : Prop := polyMakesRow.holds Tryz.pinned (OpenSpec.ofChange polyMakesWrong)

/-- 'gantrylaw06.PolyComputes': WHATEVER THE INPUT: true; the input reads as it did. -/
def polyComputesSpec : ChangeSpec := { name := "polyComputes", fn := fun _ => fun
  | [d1, d2, d3] => { results := [.lit (.bool true)], args := [d1, d2, d3] }
  | _ => none }
def polyComputesRow : OpenClaim := { program := "ytcblbepaigdlgaagreat", sum := "d392c7da2e86d46e6e782eb2cfaf1cdf9aed7de9caf39d927c13cda75a332842", func := "gantry/gantrylaw06.PolyComputes", spec := "polyComputes", inPlace := ["math/bits.Add64"], unfollowed := true, recurses := true, named := ["math/bits.divideError", "math/bits.overflowError"], apart := false }
def PolyComputesSaid : Prop := polyComputesRow.holds Tryz.pinned (OpenSpec.ofChange polyComputesSpec)

/-- ITS FALSE NEIGHBOUR: 'it returns false'. Refute it at one input. -/
def polyComputesWrong : ChangeSpec := { name := "polyComputes", fn := fun _ => fun
  | [d1, d2, d3] => { results := [.lit (.bool false)], args := [d1, d2, d3] }
  | _ => none }
def PolyComputesWrongFalsely : Prop := polyComputesRow.holds Tryz.pinned (OpenSpec.ofChange polyComputesWrong)

/-- 'gantrylaw06.PolyDivides': WHATEVER THE INPUT: true; the input reads as it did. -/
def polyDividesSpec : ChangeSpec := { name := "polyDivides", fn := fun _ => fun
  | [d1, d2] => { results := [.lit (.bool true)], args := [d1, d2] }
  | _ => none }
def polyDividesRow : OpenClaim := { program := "ytcblbepaigdlgaagreat", sum := "d392c7da2e86d46e6e782eb2cfaf1cdf9aed7de9caf39d927c13cda75a332842", func := "gantry/gantrylaw06.PolyDivides", spec := "polyDivides", inPlace := ["math/bits.Add64"], unfollowed := true, recurses := true, named := ["math/bits.divideError", "math/bits.overflowError"], apart := false }
def PolyDividesSaid : Prop := polyDividesRow.holds Tryz.pinned (OpenSpec.ofChange polyDividesSpec)

/-- ITS FALSE NEIGHBOUR: 'it returns false'. Refute it at one input. -/
def polyDividesWrong : ChangeSpec := { name := "polyDivides", fn := fun _ => fun
  | [d1, d2] => { results := [.lit (.bool false)], args := [d1, d2] }
  | _ => none }
def PolyDividesWrongFalsely : Prop := polyDividesRow.holds Tryz.pinned (OpenSpec.ofChange polyDividesWrong)

/-- 'gantrylaw06.PolyRing': WHATEVER THE INPUT: true; the input reads as it did. -/
def polyRingSpec : ChangeSpec := { name := "polyRing", fn := fun _ => fun
  | [d1, d2, d3, d4] => { results := [.lit (.bool true)], args := [d1, d2, d3, d4] }
  | _ => none }
def polyRingRow : OpenClaim := { program := "ytcblbepaigdlgaagreat", sum := "d392c7da2e86d46e6e782eb2cfaf1cdf9aed7de9caf39d927c13cda75a332842", func := "gantry/gantrylaw06.PolyRing", spec := "polyRing", inPlace := ["math/bits.Add64"], unfollowed := true, recurses := true, named := ["math/bits.divideError", "math/bits.overflowError"], apart := false }
def PolyRingSaid : Prop := polyRingRow.holds Tryz.pinned (OpenSpec.ofChange polyRingSpec)

/-- ITS FALSE NEIGHBOUR: 'it returns false'. Refute it at one input. -/
def polyRingWrong : ChangeSpec := { name := "polyRing", fn := fun _ => fun
  | [d1, d2, d3, d4] => { results := [.lit (.bool false)], args := [d1, d2, d3, d4] }
  | _ => none }
def PolyRingWrongFalsely : Prop := polyRingRow.holds Tryz.pinned (OpenSpec.ofChange polyRingWrong)

/-- 'gantrylaw06.PolyDerives': WHATEVER THE INPUT: true; the input reads as it did. -/
def polyDerivesSpec : ChangeSpec := { name := "polyDerives", fn := fun _ => fun
  | [d1, d2, d3, d4] => { results := [.lit (.bool true)], args := [d1, d2, d3, d4] }
  | _ => none }
def polyDerivesRow : OpenClaim := { program := "ytcblbepaigdlgaagreat", sum := "d392c7da2e86d46e6e782eb2cfaf1cdf9aed7de9caf39d927c13cda75a332842", func := "gantry/gantrylaw06.PolyDerives", spec := "polyDerives", inPlace := ["math/bits.Add64"], unfollowed := true, recurses := true, named := ["math/bits.divideError", "math/bits.overflowError"], apart := false }
def PolyDerivesSaid : Prop := polyDerivesRow.holds Tryz.pinned (OpenSpec.ofChange polyDerivesSpec)

/-- ITS FALSE NEIGHBOUR: 'it returns false'. Refute it at one input. -/
def polyDerivesWrong : ChangeSpec := { name := "polyDerives", fn := fun _ => fun
  | [d1, d2, d3, d4] => { results := [.lit (.bool false)], args := [d1, d2, d3, d4] }
  | _ => none }
def PolyDerivesWrongFalsely : Prop := polyDerivesRow.holds Tryz.pinned (OpenSpec.ofChange polyDerivesWrong)

/-- 'gantrylaw06.PolyDivisors': WHATEVER THE INPUT: true; the input reads as it did. -/
def polyDivisorsSpec : ChangeSpec := { name := "polyDivisors", fn := fun _ => fun
  | [d1, d2, d3] => { results := [.lit (.bool true)], args := [d1, d2, d3] }
  | _ => none }
def polyDivisorsRow : OpenClaim := { program := "ytcblbepaigdlgaagreat", sum := "d392c7da2e86d46e6e782eb2cfaf1cdf9aed7de9caf39d927c13cda75a332842", func := "gantry/gantrylaw06.PolyDivisors", spec := "polyDivisors", inPlace := ["math/bits.Add64"], unfollowed := true, recurses := true, named := ["math/bits.divideError", "math/bits.overflowError"], apart := false }
def PolyDivisorsSaid : Prop := polyDivisorsRow.holds Tryz.pinned (OpenSpec.ofChange polyDivisorsSpec)

/-- ITS FALSE NEIGHBOUR: 'it returns false'. Refute it at one input. -/
def polyDivisorsWrong : ChangeSpec := { name := "polyDivisors", fn := fun _ => fun
  | [d1, d2, d3] => { results := [.lit (.bool false)], args := [d1, d2, d3] }
  | _ => none }
def PolyDivisorsWrongFalsely : Prop := polyDivisorsRow.holds Tryz.pinned (OpenSpec.ofChange polyDivisorsWrong)

/-- 'gantrylaw06.PolyBytes': WHATEVER THE INPUT: true; the input reads as it did. -/
def polyBytesSpec : ChangeSpec := { name := "polyBytes", fn := fun _ => fun
  | [d1, d2, d3, d4] => { results := [.lit (.bool true)], args := [d1, d2, d3, d4] }
  | _ => none }
def polyBytesRow : OpenClaim := { program := "ytcblbepaigdlgaagreat", sum := "d392c7da2e86d46e6e782eb2cfaf1cdf9aed7de9caf39d927c13cda75a332842", func := "gantry/gantrylaw06.PolyBytes", spec := "polyBytes", inPlace := ["math/bits.Add64"], unfollowed := true, recurses := true, named := ["math/bits.divideError", "math/bits.overflowError"], apart := false }
def PolyBytesSaid : Prop := polyBytesRow.holds Tryz.pinned (OpenSpec.ofChange polyBytesSpec)

/-- ITS FALSE NEIGHBOUR: 'it returns false'. Refute it at one input. -/
def polyBytesWrong : ChangeSpec := { name := "polyBytes", fn := fun _ => fun
  | [d1, d2, d3, d4] => { results := [.lit (.bool false)], args := [d1, d2, d3, d4] }
  | _ => none }
def PolyBytesWrongFalsely : Prop := polyBytesRow.holds Tryz.pinned (OpenSpec.ofChange polyBytesWrong)

/- THE SECOND FORM. 'bulk': how many values and letters a reading holds, each counted each time it is reached (what is shared counts as often as it is met; a slice's spare places count too). A statement '..UptoSaid' is the law's where the arguments, and the package variables that the reading takes, are together of bulk at most 1048576: NARROWER than '..Said'. Prove '..Said' where nothing that the law and all that it calls make is longer than what came in: it says more and counts as full. Else prove '..UptoSaid'. A law counts once. -/
mutual
def uptoBulk {H : Type} : DataW H → Nat
  | .lit (.string bytes) => bytes.length + 1
  | .lit _ => 1
  | .nil => 1
  | .ptr d => uptoBulk d + 1
  | .slice elems spare => uptoBulkAll elems + uptoBulkAll spare + 1
  | .agg parts => uptoBulkAll parts + 1
  | .iface _ d => uptoBulk d + 1
  | .map entries => uptoBulkEntries entries + 1
  | .held _ => 1
def uptoBulkAll {H : Type} : List (DataW H) → Nat
  | [] => 0
  | d :: r => uptoBulk d + uptoBulkAll r
def uptoBulkEntries {H : Type} : List (Lit × DataW H) → Nat
  | [] => 0
  | x :: r => uptoBulkEntry x + uptoBulkEntries r
def uptoBulkEntry {H : Type} : Lit × DataW H → Nat
  | (.string bytes, d) => bytes.length + uptoBulk d + 1
  | (_, d) => uptoBulk d + 1
 end
def uptoSmall : (H : Type) → List (DataW H) → Bool := fun _ ds => decide (uptoBulkAll ds ≤ 1048576)
def OpenSpec.upto (s : _root_.Go.ChangeSpec) : _root_.Go.OpenSpec := { _root_.Go.OpenSpec.ofChange s with cond := some uptoSmall }

/-- 'gantrylaw06.PolyMakes', WHERE WHAT IT READS IS OF BULK AT MOST 1048576: true; the input reads as it did. -/
def polyMakesUptoRow : OpenClaim := { program := "ytcblbepaigdlgaagreat", sum := "d392c7da2e86d46e6e782eb2cfaf1cdf9aed7de9caf39d927c13cda75a332842", func := "gantry/gantrylaw06.PolyMakes", spec := "polyMakes", inPlace := ["math/bits.Add64"], unfollowed := true, recurses := true, named := ["math/bits.divideError", "math/bits.overflowError"], apart := false, narrowed := true }
def PolyMakesUptoSaid : Prop := polyMakesUptoRow.holds Tryz.pinned (OpenSpec.upto polyMakesSpec)

/-- 'gantrylaw06.PolyComputes', WHERE WHAT IT READS IS OF BULK AT MOST 1048576: true; the input reads as it did. -/
def polyComputesUptoRow : OpenClaim := { program := "ytcblbepaigdlgaagreat", sum := "d392c7da2e86d46e6e782eb2cfaf1cdf9aed7de9caf39d927c13cda75a332842", func := "gantry/gantrylaw06.PolyComputes", spec := "polyComputes", inPlace := ["math/bits.Add64"], unfollowed := true, recurses := true, named := ["math/bits.divideError", "math/bits.overflowError"], apart := false, narrowed := true }
def PolyComputesUptoSaid : Prop := polyComputesUptoRow.holds Tryz.pinned (OpenSpec.upto polyComputesSpec)

/-- 'gantrylaw06.PolyDivides', WHERE WHAT IT READS IS OF BULK AT MOST 1048576: true; the input reads as it did. -/
def polyDividesUptoRow : OpenClaim := { program := "ytcblbepaigdlgaagreat", sum := "d392c7da2e86d46e6e782eb2cfaf1cdf9aed7de9caf39d927c13cda75a332842", func := "gantry/gantrylaw06.PolyDivides", spec := "polyDivides", inPlace := ["math/bits.Add64"], unfollowed := true, recurses := true, named := ["math/bits.divideError", "math/bits.overflowError"], apart := false, narrowed := true }
def PolyDividesUptoSaid : Prop := polyDividesUptoRow.holds Tryz.pinned (OpenSpec.upto polyDividesSpec)

/-- 'gantrylaw06.PolyRing', WHERE WHAT IT READS IS OF BULK AT MOST 1048576: true; the input reads as it did. -/
def polyRingUptoRow : OpenClaim := { program := "ytcblbepaigdlgaagreat", sum := "d392c7da2e86d46e6e782eb2cfaf1cdf9aed7de9caf39d927c13cda75a332842", func := "gantry/gantrylaw06.PolyRing", spec := "polyRing", inPlace := ["math/bits.Add64"], unfollowed := true, recurses := true, named := ["math/bits.divideError", "math/bits.overflowError"], apart := false, narrowed := true }
def PolyRingUptoSaid : Prop := polyRingUptoRow.holds Tryz.pinned (OpenSpec.upto polyRingSpec)

/-- 'gantrylaw06.PolyDerives', WHERE WHAT IT READS IS OF BULK AT MOST 1048576: true; the input reads as it did. -/
def polyDerivesUptoRow : OpenClaim := { program := "ytcblbepaigdlgaagreat", sum := "d392c7da2e86d46e6e782eb2cfaf1cdf9aed7de9caf39d927c13cda75a332842", func := "gantry/gantrylaw06.PolyDerives", spec := "polyDerives", inPlace := ["math/bits.Add64"], unfollowed := true, recurses := true, named := ["math/bits.divideError", "math/bits.overflowError"], apart := false, narrowed := true }
def PolyDerivesUptoSaid : Prop := polyDerivesUptoRow.holds Tryz.pinned (OpenSpec.upto polyDerivesSpec)

/-- 'gantrylaw06.PolyDivisors', WHERE WHAT IT READS IS OF BULK AT MOST 1048576: true; the input reads as it did. -/
def polyDivisorsUptoRow : OpenClaim := { program := "ytcblbepaigdlgaagreat", sum := "d392c7da2e86d46e6e782eb2cfaf1cdf9aed7de9caf39d927c13cda75a332842", func := "gantry/gantrylaw06.PolyDivisors", spec := "polyDivisors", inPlace := ["math/bits.Add64"], unfollowed := true, recurses := true, named := ["math/bits.divideError", "math/bits.overflowError"], apart := false, narrowed := true }
def PolyDivisorsUptoSaid : Prop := polyDivisorsUptoRow.holds Tryz.pinned (OpenSpec.upto polyDivisorsSpec)

/-- 'gantrylaw06.PolyBytes', WHERE WHAT IT READS IS OF BULK AT MOST 1048576: true; the input reads as it did. -/
def polyBytesUptoRow : OpenClaim := { program := "ytcblbepaigdlgaagreat", sum := "d392c7da2e86d46e6e782eb2cfaf1cdf9aed7de9caf39d927c13cda75a332842", func := "gantry/gantrylaw06.PolyBytes", spec := "polyBytes", inPlace := ["math/bits.Add64"], unfollowed := true, recurses := true, named := ["math/bits.divideError", "math/bits.overflowError"], apart := false, narrowed := true }
def PolyBytesUptoSaid : Prop := polyBytesUptoRow.holds Tryz.pinned (OpenSpec.upto polyBytesSpec)

end Rows
end Go.Proofs.YtcblbepaigdlgaaGreat
