/-
  Package quot: isOdd, inUnits, nearest; what the remainder is.
-/
import Derived.Test.YtpmjeipdldnnbaaGreatDoorJ4
namespace Go.Proofs.YtpmjeipdldnnbaaGreatDoor
set_option linter.unusedVariables false
set_option linter.unusedSimpArgs false
open Go.RowKit
set_option linter.unusedVariables false
set_option linter.unusedSimpArgs false
namespace JC
open L NC NK DC RC SC PC
open Z (cmpv)
/-- is the nearest multiple above; how far it is -/
def ov (a b : Int) : Bool := decide (b - a % b < a % b ∨ (a % b = b - a % b ∧ a / b % 2 = 1))
def rs (a b : Int) : Int := if ov a b = true then b - a % b else a % b
end JC
end Go.Proofs.YtpmjeipdldnnbaaGreatDoor
