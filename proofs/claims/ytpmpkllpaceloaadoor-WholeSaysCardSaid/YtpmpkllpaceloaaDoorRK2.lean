/-
  RoundOrder, RoundSides: the walks.
-/
import Derived.Test.YtpmpkllpaceloaaDoorRK1
namespace Go.Proofs.YtpmpkllpaceloaaDoor
set_option linter.unusedVariables false
set_option linter.unusedSimpArgs false
open Go.RowKit
set_option linter.unusedVariables false
set_option linter.unusedSimpArgs false
namespace RC
open L NC NK DC
open Z (Nz Tz cmpv)
end RC
end Go.Proofs.YtpmpkllpaceloaaDoor
