/-
  The reference: DyadRight of one Dyad, of two.
-/
import Derived.Test.YtpmpkllpaceloaaDoorV5
import Derived.Test.YtpmpkllpaceloaaDoorC7
namespace Go.Proofs.YtpmpkllpaceloaaDoor
set_option linter.unusedVariables false
set_option linter.unusedSimpArgs false
open Go.RowKit
set_option linter.unusedVariables false
set_option linter.unusedSimpArgs false
namespace VD
open L NC NK DC
theorem idx_facts {n i : Nat} (h : n = i + 1) (hl : n ≤ 400) : ((n : Int) == 0) = false ∧ (n : Int) > 0 ∧ (n : Int) - 1 = (i : Int) ∧ IntKind.i64.wrap (i : Int) = (i : Int) ∧ (i : Int) < n ∧ (0 : Int) < n := by
  exact ⟨by rw [beq_eq_false_iff_ne]; omega, by omega, by omega, IntWalk.i64_in _ (by omega), by omega, by omega⟩
end VD
end Go.Proofs.YtpmpkllpaceloaaDoor
