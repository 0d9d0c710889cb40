/-
  Package prod: Mul, Fma.
-/
import Derived.Test.YtpmjeipdldnnbaaGreatDoorP5
namespace Go.Proofs.YtpmjeipdldnnbaaGreatDoor
set_option linter.unusedVariables false
set_option linter.unusedSimpArgs false
open Go.RowKit
set_option linter.unusedVariables false
set_option linter.unusedSimpArgs false
namespace PC
open L NC NK DC RC SC
end PC
end Go.Proofs.YtpmjeipdldnnbaaGreatDoor
