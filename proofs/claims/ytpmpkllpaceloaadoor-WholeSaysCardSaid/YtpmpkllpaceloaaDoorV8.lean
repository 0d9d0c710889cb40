/-
  The reference: is it zero in all fields?
-/
import Derived.Test.YtpmpkllpaceloaaDoorV5
namespace Go.Proofs.YtpmpkllpaceloaaDoor
set_option linter.unusedVariables false
set_option linter.unusedSimpArgs false
open Go.RowKit
set_option linter.unusedVariables false
set_option linter.unusedSimpArgs false
namespace VD
open L NC NK DC
end VD
end Go.Proofs.YtpmpkllpaceloaaDoor
