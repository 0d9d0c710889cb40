/-
  SumCommutes, SumSmall, SumOrder: the walks.
-/
import Derived.Test.YtpmpkllpaceloaaDoorC8
import Derived.Test.YtpmpkllpaceloaaDoorRK2
namespace Go.Proofs.YtpmpkllpaceloaaDoor
set_option linter.unusedVariables false
set_option linter.unusedSimpArgs false
open Go.RowKit
set_option linter.unusedVariables false
set_option linter.unusedSimpArgs false
namespace SC
open L NC NK DC RC
end SC
end Go.Proofs.YtpmpkllpaceloaaDoor
