/-
  What the comparisons of package order return, for every argument: contracts over the loaded program.
-/
import Derived.Test.YtelblhgagpkjmaaGreatDoorF7
import Derived.Test.YtelblhgagpkjmaaGreatDoorA1
namespace Go.Proofs.YtelblhgagpkjmaaGreatDoor
set_option linter.unusedVariables false
set_option linter.unusedSimpArgs false
open Go.RowKit
set_option linter.unusedVariables false
namespace AC
end AC
end Go.Proofs.YtelblhgagpkjmaaGreatDoor
