/-
  Package quot: Rem.
-/
import Derived.Test.YtpmjeipdldnnbaaGreatDoorJ6
import Derived.Test.YtpmjeipdldnnbaaGreatDoorK1
namespace Go.Proofs.YtpmjeipdldnnbaaGreatDoor
set_option linter.unusedVariables false
set_option linter.unusedSimpArgs false
open Go.RowKit
set_option linter.unusedVariables false
set_option linter.unusedSimpArgs false
namespace JC
open L NC NK DC RC SC PC
noncomputable def RM (x y : Int) : Int :=
  if F.cls x = 5 ∨ F.cls y = 5 ∨ F.cls x = 4 ∨ F.cls y = 1 then 9221120237041090560
  else if F.cls y = 4 then x
  else if rs (ab x) (ab y) = 0 then rx (F.sgn x) 0
  else rx (F.sgn x != ov (ab x) (ab y)) (tow (rs (ab x) (ab y))).1
end JC
end Go.Proofs.YtpmjeipdldnnbaaGreatDoor
