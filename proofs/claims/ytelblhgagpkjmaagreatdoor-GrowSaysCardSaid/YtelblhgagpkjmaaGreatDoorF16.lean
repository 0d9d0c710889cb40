/-
  Texts glued together for a claim: P4 P5 P6.
-/
import Derived.Test.YtelblhgagpkjmaaGreatDoorF12
import Derived.Test.YtelblhgagpkjmaaGreatDoorF8
/-
  Package prod, pure: Dot.
-/
namespace Go.Proofs.YtelblhgagpkjmaaGreatDoor
set_option linter.unusedVariables false
set_option linter.unusedSimpArgs false
open Go.RowKit
set_option linter.unusedVariables false
set_option linter.unusedSimpArgs false
namespace PC
open L NC NK DC RC SC
def ps : List Int → Int
  | x :: y :: t => S (PD x y).d + ps t
  | [_] => 0
  | [] => 0
end PC
end Go.Proofs.YtelblhgagpkjmaaGreatDoor

/-
  Package prod: checkMode, byClass, exact.
-/
namespace Go.Proofs.YtelblhgagpkjmaaGreatDoor
set_option linter.unusedVariables false
set_option linter.unusedSimpArgs false
open Go.RowKit
set_option linter.unusedVariables false
set_option linter.unusedSimpArgs false
namespace PC
open L NC NK DC RC SC
theorem top_bit {x : Int} (h0 : 0 ≤ x) (h1 : x ≤ 18446744073709551615) : x.toNat.testBit 63 = F.sgn x := by
  by_cases h : 9223372036854775808 ≤ x
  · rw [F.sgn_t h, Nat.testBit_eq_decide_div_mod_eq, decide_eq_true_iff]; omega
  · rw [F.sgn_f (by omega), Nat.testBit_eq_decide_div_mod_eq, decide_eq_false_iff_not]; omega
end PC
end Go.Proofs.YtelblhgagpkjmaaGreatDoor

/-
  Package prod: Mul, Fma.
-/
namespace Go.Proofs.YtelblhgagpkjmaaGreatDoor
set_option linter.unusedVariables false
set_option linter.unusedSimpArgs false
open Go.RowKit
set_option linter.unusedVariables false
set_option linter.unusedSimpArgs false
namespace PC
open L NC NK DC RC SC
end PC
end Go.Proofs.YtelblhgagpkjmaaGreatDoor

