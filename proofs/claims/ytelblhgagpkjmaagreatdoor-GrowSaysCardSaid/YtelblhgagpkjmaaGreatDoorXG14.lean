/-
  The document's own word for numbers too near 0 or too far (TooFar).
-/
import Derived.Test.YtelblhgagpkjmaaGreatDoorXR1
import Derived.Test.YtelblhgagpkjmaaGreatDoorF24
namespace Go.Proofs.YtelblhgagpkjmaaGreatDoor
set_option linter.unusedVariables false
set_option linter.unusedSimpArgs false
open Go.RowKit
set_option linter.unusedVariables false
set_option linter.unusedSimpArgs false
namespace XC
open Z (Nz Tz cmpv big)
open ZC DC RC QC SC VC PC
theorem val_sz {x : Int} (h : fi x) : ((val x).natAbs : Int) = sz x ∧ 0 ≤ sz x := by
  have u0 : 0 ≤ sz x := U_pos (by have := h.1; omega)
  have hv : val x = sgm (F.sgn x) (sz x) := val_eq h
  refine ⟨?_, u0⟩
  rw [hv]; unfold sgm; split <;> omega
noncomputable instance (x : Int) : Decidable (gFr x) := Classical.propDecidable _
end XC
end Go.Proofs.YtelblhgagpkjmaaGreatDoor
