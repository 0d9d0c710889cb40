/-
  The document's sum of a list: the walk.
-/
import Derived.Test.YtpmjeipdldnnbaaGreatDoorK13
namespace Go.Proofs.YtpmjeipdldnnbaaGreatDoor
set_option linter.unusedVariables false
set_option linter.unusedSimpArgs false
open Go.RowKit
set_option linter.unusedVariables false
set_option linter.unusedSimpArgs false
namespace VC
open Z (Nz Tz cmpv big)
open ZC DC RC QC SC
end VC
end Go.Proofs.YtpmjeipdldnnbaaGreatDoor
