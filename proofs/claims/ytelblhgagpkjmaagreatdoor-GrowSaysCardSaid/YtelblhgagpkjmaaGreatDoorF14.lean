/-
  Texts glued together for a claim: O3 O4 I2.
-/
import Derived.Test.YtelblhgagpkjmaaGreatDoorF13
import Derived.Test.YtelblhgagpkjmaaGreatDoorF9
import Derived.Test.YtelblhgagpkjmaaGreatDoorF10
/-
  The reference: CutTo.
-/
namespace Go.Proofs.YtelblhgagpkjmaaGreatDoor
set_option linter.unusedVariables false
set_option linter.unusedSimpArgs false
open Go.RowKit
set_option linter.unusedVariables false
set_option linter.unusedSimpArgs false
namespace QC
open Z (Nz Tz cmpv big)
open ZC DC
/-- is it rounded up? -/
def ug (mode : Int) (neg : Bool) (near odd : Int) : Bool :=
  if near = 0 ∧ mode = 4 then !neg else if near = 0 ∧ mode = 0 then decide (0 < odd) else decide (mode = 1) || (decide (mode = 3) && neg) || ((decide (mode = 0) || decide (mode = 4)) && decide (0 < near))
def cutv (z1 P mode : Int) : Int := z1 / P + (if ug mode (decide (z1 < 0)) (cmpv (z1 % P + z1 % P) P) (z1 / P % 2) = true then 1 else 0)
end QC
end Go.Proofs.YtelblhgagpkjmaaGreatDoor

/-
  The reference: CutTo tells what Cut tells.
-/
namespace Go.Proofs.YtelblhgagpkjmaaGreatDoor
set_option linter.unusedVariables false
set_option linter.unusedSimpArgs false
open Go.RowKit
set_option linter.unusedVariables false
set_option linter.unusedSimpArgs false
namespace QC
open Z (Nz Tz cmpv big)
open ZC DC RC
def ct (x places : Int) : Int := mkt (-places - mkt x)
end QC
end Go.Proofs.YtelblhgagpkjmaaGreatDoor

/-
  Plain mathematics: a number to a whole one (iw), by the document's own rule: what is whole is itself; it is no farther than 1; of what is more no less comes; down and up.
-/
namespace Go.Proofs.YtelblhgagpkjmaaGreatDoor
set_option linter.unusedVariables false
set_option linter.unusedSimpArgs false
set_option linter.unusedVariables false
set_option linter.unusedSimpArgs false
namespace IC
open Z (cmpv)
open QC
/-- V over P as a whole number -/
def iw (V P mode : Int) : Int := if V % P = 0 then V / P else cutv V P mode
end IC
end Go.Proofs.YtelblhgagpkjmaaGreatDoor

