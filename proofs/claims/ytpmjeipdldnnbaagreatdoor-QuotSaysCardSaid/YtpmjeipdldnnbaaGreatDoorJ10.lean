/-
  Package quot, pure: roots of squares, in order; no middles.
-/
import Derived.Test.YtpmjeipdldnnbaaGreatDoorJ8
namespace Go.Proofs.YtpmjeipdldnnbaaGreatDoor
set_option linter.unusedVariables false
set_option linter.unusedSimpArgs false
open Go.RowKit
set_option linter.unusedVariables false
set_option linter.unusedSimpArgs false
namespace JC
open L NC NK DC RC SC PC
theorem ST_e {x mode : Int} (hm : 0 ≤ mode ∧ mode ≤ 4) : (ST x mode).2.2 = 0 := by
  by_cases h : F.cls x = 1 ∨ x = 9218868437227405312
  · rw [ST_self hm h]
  · by_cases h' : F.cls x = 5 ∨ F.sgn x = true
    · rw [ST_nan hm h h']
    · rw [ST_fi hm h h']; rfl
end JC
end Go.Proofs.YtpmjeipdldnnbaaGreatDoor
