/-
  The reference: just what is to be told of a number.
-/
import Derived.Test.YtpmpkllpaceloaaDoorO1
import Derived.Test.YtpmpkllpaceloaaDoorV8
import Derived.Test.YtpmpkllpaceloaaDoorV6
namespace Go.Proofs.YtpmpkllpaceloaaDoor
set_option linter.unusedVariables false
set_option linter.unusedSimpArgs false
open Go.RowKit
set_option linter.unusedVariables false
set_option linter.unusedSimpArgs false
namespace QC
open Z (Nz Tz cmpv big)
open ZC DC
end QC
end Go.Proofs.YtpmpkllpaceloaaDoor
