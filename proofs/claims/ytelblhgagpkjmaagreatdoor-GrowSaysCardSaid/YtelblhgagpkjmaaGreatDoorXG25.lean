/-
  Package grow: Turn (with a closure that tells the product of two differences).
-/
import Derived.Test.YtelblhgagpkjmaaGreatDoorXG24
import Derived.Test.YtelblhgagpkjmaaGreatDoorXG20
namespace Go.Proofs.YtelblhgagpkjmaaGreatDoor
set_option linter.unusedVariables false
set_option linter.unusedSimpArgs false
open Go.RowKit
set_option linter.unusedVariables false
set_option linter.unusedSimpArgs false
namespace XC
open L NC NK DC RC SC PC QC IC
open Z (cmpv)
end XC
end Go.Proofs.YtelblhgagpkjmaaGreatDoor
