/-
  Package whole: two and a half.
-/
import Derived.Test.YtpmpkllpaceloaaDoorI5
import Derived.Test.YtpmpkllpaceloaaDoorUK2
namespace Go.Proofs.YtpmpkllpaceloaaDoor
set_option linter.unusedVariables false
set_option linter.unusedSimpArgs false
open Go.RowKit
set_option linter.unusedVariables false
set_option linter.unusedSimpArgs false
namespace IC
open L NC NK DC RC SC QC
theorem fi_wt {x mode : Int} (h : fi x) (hm : 0 ≤ mode ∧ mode ≤ 4) : WT x mode = (WX x mode, lostW x, 0) := by
  have hc := cls_fi.2 h.2.2
  unfold WT
  rw [if_neg (by omega), if_neg (by omega), if_neg (by omega)]
end IC
end Go.Proofs.YtpmpkllpaceloaaDoor
