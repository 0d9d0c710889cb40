/-
  DyadRing: the walk.
-/
import Derived.Test.YtpmpkllpaceloaaDoorC7
namespace Go.Proofs.YtpmpkllpaceloaaDoor
set_option linter.unusedVariables false
set_option linter.unusedSimpArgs false
open Go.RowKit
set_option linter.unusedVariables false
namespace DC
open L NC NK
open Z (Nz Tz cmpv)
end DC
end Go.Proofs.YtpmpkllpaceloaaDoor
