/-
  SumOrder: the walk.
-/
import Derived.Test.YtpmpkllpaceloaaDoorUK1
namespace Go.Proofs.YtpmpkllpaceloaaDoor
set_option linter.unusedVariables false
set_option linter.unusedSimpArgs false
open Go.RowKit
set_option linter.unusedVariables false
set_option linter.unusedSimpArgs false
namespace SC
open L NC NK DC RC
end SC
end Go.Proofs.YtpmpkllpaceloaaDoor
