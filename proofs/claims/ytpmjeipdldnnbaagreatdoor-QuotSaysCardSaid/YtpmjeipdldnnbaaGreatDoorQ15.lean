/-
  Rounded, and To and Part: what each tells.
-/
import Derived.Test.YtpmjeipdldnnbaaGreatDoorQ14
namespace Go.Proofs.YtpmjeipdldnnbaaGreatDoor
set_option linter.unusedVariables false
set_option linter.unusedSimpArgs false
open Go.RowKit
set_option linter.unusedVariables false
set_option linter.unusedSimpArgs false
namespace QC
open Z (Nz Tz cmpv big)
open ZC DC RC
end QC
end Go.Proofs.YtpmjeipdldnnbaaGreatDoor
