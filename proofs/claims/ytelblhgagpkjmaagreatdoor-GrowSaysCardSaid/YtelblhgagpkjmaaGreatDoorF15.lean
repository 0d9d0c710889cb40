/-
  Texts glued together for a claim: I3 I4 I13 I14.
-/
import Derived.Test.YtelblhgagpkjmaaGreatDoorF14
import Derived.Test.YtelblhgagpkjmaaGreatDoorF8
/-
  A number to a whole one, pure: what Cut at 0 places leaves is iw's; it is a number's value; the number with the sign of x (WX).
-/
namespace Go.Proofs.YtelblhgagpkjmaaGreatDoor
set_option linter.unusedVariables false
set_option linter.unusedSimpArgs false
open Go.RowKit
set_option linter.unusedVariables false
set_option linter.unusedSimpArgs false
namespace IC
open L NC NK DC RC SC QC
open Z (cmpv)
/-- the dyad that Cut leaves of a number -/
def WC (x mode : Int) : Dy := (CR (OfD x).d 0 mode).d
/-- it, as a number with the sign of x -/
noncomputable def WX (x mode : Int) : Int := if F.sgn x = true then TX (WC x mode) 0 % 9223372036854775808 + 9223372036854775808 else TX (WC x mode) 0 % 9223372036854775808
end IC
end Go.Proofs.YtelblhgagpkjmaaGreatDoor

/-
  Package whole, pure: what Round, Int, From, Is tell (WT, IT, FT, WI); the laws.
-/
namespace Go.Proofs.YtelblhgagpkjmaaGreatDoor
set_option linter.unusedVariables false
set_option linter.unusedSimpArgs false
open Go.RowKit
set_option linter.unusedVariables false
set_option linter.unusedSimpArgs false
namespace IC
open L NC NK DC RC SC QC
open Z (cmpv)
/-- x as a whole number; is something lost -/
noncomputable def wn (x mode : Int) : Int := iw (val x) (sc 1 0) mode
def lostW (x : Int) : Bool := decide (val x % sc 1 0 ≠ 0)
noncomputable def WT (x mode : Int) : Int × Bool × Int :=
  if ¬ (0 ≤ mode ∧ mode ≤ 4) then (0, false, 1) else if F.cls x = 5 then (9221120237041090560, false, 0) else if F.cls x = 4 then (x, false, 0) else (WX x mode, lostW x, 0)
noncomputable def IT (x mode : Int) : Int × Bool × Int :=
  if ¬ (0 ≤ mode ∧ mode ≤ 4) then (0, false, 1) else if F.cls x = 5 ∨ F.cls x = 4 then (0, false, 4) else
  if -9223372036854775808 ≤ wn x mode ∧ wn x mode ≤ 9223372036854775807 then (wn x mode, lostW x, 0) else (0, false, 4)
noncomputable def FT (n mode : Int) : Int × Bool × Int :=
  if ¬ (0 ≤ mode ∧ mode ≤ 4) then (0, false, 1) else (TX (fin n 0).d mode, TL (fin n 0).d mode, 0)
def WI (x : Int) : Bool := !(decide (F.cls x = 5 ∨ F.cls x = 4)) && !lostW x
end IC
end Go.Proofs.YtelblhgagpkjmaaGreatDoor

/-
  Package whole, pure, for its code: the number out of To; the exponent of what is whole; an int out of a Dyad.
-/
namespace Go.Proofs.YtelblhgagpkjmaaGreatDoor
set_option linter.unusedVariables false
set_option linter.unusedSimpArgs false
open Go.RowKit
set_option linter.unusedVariables false
set_option linter.unusedSimpArgs false
namespace IC
open L NC NK DC RC SC QC
open Z (cmpv)
end IC
end Go.Proofs.YtelblhgagpkjmaaGreatDoor

/-
  Package whole, pure: the sign's bit put to a number; an int out of limbs.
-/
namespace Go.Proofs.YtelblhgagpkjmaaGreatDoor
set_option linter.unusedVariables false
set_option linter.unusedSimpArgs false
open Go.RowKit
set_option linter.unusedVariables false
set_option linter.unusedSimpArgs false
namespace IC
open L NC NK DC RC SC QC
end IC
end Go.Proofs.YtelblhgagpkjmaaGreatDoor

