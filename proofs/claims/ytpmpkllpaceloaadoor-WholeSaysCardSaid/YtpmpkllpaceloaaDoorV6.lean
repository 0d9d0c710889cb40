/-
  The reference: DyadRight of one Dyad, of two.
-/
import Derived.Test.YtpmpkllpaceloaaDoorV5
import Derived.Test.YtpmpkllpaceloaaDoorC7
namespace Go.Proofs.YtpmpkllpaceloaaDoor
set_option linter.unusedVariables false
set_option linter.unusedSimpArgs false
open Go.RowKit
set_option linter.unusedVariables false
set_option linter.unusedSimpArgs false
namespace VD
open L NC NK DC
end VD
end Go.Proofs.YtpmpkllpaceloaaDoor
