/-
  WholeOrder: the walk.
-/
import Derived.Test.YtpmpkllpaceloaaDoorI6
namespace Go.Proofs.YtpmpkllpaceloaaDoor
set_option linter.unusedVariables false
set_option linter.unusedSimpArgs false
open Go.RowKit
set_option linter.unusedVariables false
set_option linter.unusedSimpArgs false
namespace IC
open L NC NK DC RC SC QC
theorem no_wt {x mode : Int} (hm : ¬ (0 ≤ mode ∧ mode ≤ 4)) : WT x mode = (0, false, 1) ∧ IT x mode = (0, false, 1) := by
  unfold WT IT
  rw [if_pos hm, if_pos hm]
  exact ⟨rfl, rfl⟩
end IC
end Go.Proofs.YtpmpkllpaceloaaDoor
