/-
  DERIVED. GIVEN WITH THE SEED: THE CARDS: each row of YtelfpefcjchjbaaDoorRows.lean that lists a variable, with what it lists TIED to the program's text (the seventh form; the later family's looks); each row that meets fmt, with fmt's text TOLD by the authors' own Lean function (tested against real Go, not proved from fmt's source: count such statements apart). THE CARD IS WHAT COUNTS. Prove the row's statement (the work); the ties are given (YtelfpefcjchjbaaDoorTie.lean); close each card by the builder's one call (the guide's Derived/Test/ToyasCard.lean, 'card_holds'). Laid BY PROGRAM, IN A SANDBOX (cutbox-door.mjs). By AI agents, Wed Nov 11 2026. No macro, syntax, notation, axiom, sorry.
-/
import Derived.Test.YtelfpefcjchjbaaDoorRows
import GoSem.ClaimSeven
namespace Go.Proofs.YtelfpefcjchjbaaDoor
namespace Rows

/-- THE TIED CARD OF 'gantrylaw04.IntegerRing'. -/
def integerRingCard : Claim7 := { stood := { row := integerRingRow, standIns := [], harness := (true, "a7d49e901da803e3f6b5e114ee8d2e0420b2a141d82f77df317de6da6b8b5694"), looks := true }, kinds := [], alts := [], laidByText := true, laidKinds := [.data, .data, .data, .sentinel, .sentinel], laidTests := true, laidLooks := .later }
def IntegerRingCardSaid : Prop := Claim7.holds Tryd.pinned (.plain (OpenSpec.ofChange integerRingSpec)) integerRingCard

/-- THE TIED CARD OF 'gantrylaw04.IntegerGo'. -/
def integerGoCard : Claim7 := { stood := { row := integerGoRow, standIns := [], harness := (true, "a7d49e901da803e3f6b5e114ee8d2e0420b2a141d82f77df317de6da6b8b5694"), looks := true }, kinds := [], alts := [], laidByText := true, laidKinds := [.data, .data, .data, .sentinel, .sentinel], laidTests := true, laidLooks := .later }
def IntegerGoCardSaid : Prop := Claim7.holds Tryd.pinned (.plain (OpenSpec.ofChange integerGoSpec)) integerGoCard

/-- THE SECOND FORM's CARD OF 'gantrylaw04.IntegerRing'. -/
def integerRingUptoCard : Claim7 := { stood := { row := integerRingUptoRow, standIns := [], harness := (true, "a7d49e901da803e3f6b5e114ee8d2e0420b2a141d82f77df317de6da6b8b5694"), looks := true }, kinds := [], alts := [], laidByText := true, laidKinds := [.data, .data, .data, .sentinel, .sentinel], laidTests := true, laidLooks := .later }
def IntegerRingUptoCardSaid : Prop := Claim7.holds Tryd.pinned (.plain (OpenSpec.upto integerRingSpec)) integerRingUptoCard

/-- THE SECOND FORM's CARD OF 'gantrylaw04.IntegerGo'. -/
def integerGoUptoCard : Claim7 := { stood := { row := integerGoUptoRow, standIns := [], harness := (true, "a7d49e901da803e3f6b5e114ee8d2e0420b2a141d82f77df317de6da6b8b5694"), looks := true }, kinds := [], alts := [], laidByText := true, laidKinds := [.data, .data, .data, .sentinel, .sentinel], laidTests := true, laidLooks := .later }
def IntegerGoUptoCardSaid : Prop := Claim7.holds Tryd.pinned (.plain (OpenSpec.upto integerGoSpec)) integerGoUptoCard
end Rows
end Go.Proofs.YtelfpefcjchjbaaDoor
