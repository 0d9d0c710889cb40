/-
  The reference's rounding: what Rounded tells with a part more or less is what Part tells.
-/
import Derived.Test.YtpmpkllpaceloaaDoorC12
namespace Go.Proofs.YtpmpkllpaceloaaDoor
set_option linter.unusedVariables false
set_option linter.unusedSimpArgs false
open Go.RowKit
set_option linter.unusedVariables false
set_option linter.unusedSimpArgs false
namespace QC
open Z (Nz Tz cmpv big)
open ZC DC RC
end QC
end Go.Proofs.YtpmpkllpaceloaaDoor
