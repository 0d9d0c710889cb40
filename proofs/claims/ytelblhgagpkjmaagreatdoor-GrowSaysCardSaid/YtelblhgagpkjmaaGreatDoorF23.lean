/-
  Texts glued together for a claim: X8 X9 X11.
-/
import Derived.Test.YtelblhgagpkjmaaGreatDoorF22
import Derived.Test.YtelblhgagpkjmaaGreatDoorF17
import Derived.Test.YtelblhgagpkjmaaGreatDoorF11
/-
  Package exact, pure: what the laws ask of TwoSum, FastSum, TwoProd and Split.
-/
namespace Go.Proofs.YtelblhgagpkjmaaGreatDoor
set_option linter.unusedVariables false
set_option linter.unusedSimpArgs false
open Go.RowKit
set_option linter.unusedVariables false
set_option linter.unusedSimpArgs false
namespace XC
open L NC NK DC RC SC PC QC IC
open Z (cmpv)
end XC
end Go.Proofs.YtelblhgagpkjmaaGreatDoor

/-
  Package exact, the laws' helpers: far, bothSame.
-/
namespace Go.Proofs.YtelblhgagpkjmaaGreatDoor
set_option linter.unusedVariables false
set_option linter.unusedSimpArgs false
open Go.RowKit
set_option linter.unusedVariables false
set_option linter.unusedSimpArgs false
namespace XC
open L NC NK DC RC SC PC QC IC
open Z (cmpv)
end XC
end Go.Proofs.YtelblhgagpkjmaaGreatDoor

/-
  Package exact: one, and much less (exactLives).
-/
namespace Go.Proofs.YtelblhgagpkjmaaGreatDoor
set_option linter.unusedVariables false
set_option linter.unusedSimpArgs false
open Go.RowKit
set_option linter.unusedVariables false
set_option linter.unusedSimpArgs false
namespace XC
open L NC NK DC RC SC PC QC IC
open Z (cmpv)
end XC
end Go.Proofs.YtelblhgagpkjmaaGreatDoor

