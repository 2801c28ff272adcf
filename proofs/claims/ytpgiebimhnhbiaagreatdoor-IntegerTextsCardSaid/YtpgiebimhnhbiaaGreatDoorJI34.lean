/-
  Contract of math/bits.Div64.
-/
import Derived.Test.YtpgiebimhnhbiaaGreatDoorJI1
import Derived.Test.YtpgiebimhnhbiaaGreatDoorJI2
import Derived.Test.YtpgiebimhnhbiaaGreatDoorRows
import Derived.Test.YtpgiebimhnhbiaaGreatDoorJI33
import Derived.Laws.Bits64b
import Derived.Lib.ItoaNum
import Derived.Shelf.Small.Bits
import Derived.RegionTactic
set_option linter.unusedVariables false
set_option linter.unusedSimpArgs false
set_option linter.unusedSectionVars false
namespace Go.Proofs.YtpgiebimhnhbiaaGreatDoor
open Go.RowKit
open Go.Lib (hid)
namespace Zn
structure Nrm (hi lo y s u v v1 v0 l d1 d0 : Nat) : Prop where
 hv : IntKind.u64.wrap ((y : Int) * 2 ^ s) = (v : Int)
 hu : bits .or .u64 (IntKind.u64.wrap ((hi : Int) * 2 ^ s)) ((lo : Int) / 2 ^ (64 - s)) = (u : Int)
 hl : IntKind.u64.wrap ((lo : Int) * 2 ^ s) = (l : Int)
 ev1 : (v : Int) / 4294967296 = (v1 : Int)
 ev0 : bits .and .u64 (v : Int) 4294967295 = (v0 : Int)
 ed1 : (l : Int) / 4294967296 = (d1 : Int)
 ed0 : bits .and .u64 (l : Int) 4294967295 = (d0 : Int)
 vv : v = v1 * 4294967296 + v0
 v1a : 2147483648 ≤ v1
 v1b : v1 < 4294967296
 v0b : v0 < 4294967296
 d1b : d1 < 4294967296
 d0b : d0 < 4294967296
 uv : u < v
 vs : v = y * 2 ^ s
 all : (u * 4294967296 + d1) * 4294967296 + d0 = (hi * 18446744073709551616 + lo) * 2 ^ s
end Zn
end Go.Proofs.YtpgiebimhnhbiaaGreatDoor
