/-
  Plain mathematics for package order: the key of a number's bits, the comparison of two whole numbers, and what is the lesser and the greater one; no program in sight.
-/
import Derived.Test.YtelblhgagpkjmaaGreatDoorF7
namespace Go.Proofs.YtelblhgagpkjmaaGreatDoor.A
set_option linter.unusedVariables false
set_option linter.unusedSimpArgs false
open Go
set_option linter.unusedVariables false
set_option linter.unusedSimpArgs false
/-- the key of a number -/
def key (x : Int) : Int := if x < 9223372036854775808 then x + 9223372036854775808 else 18446744073709551615 - x
/-- -1, 0 or 1 -/
def ct (a b : Int) : Int := if a < b then -1 else if b < a then 1 else 0
/-- is it no number? -/
def nan (x : Int) : Bool := F.cls x == 5
def has (x y : Int) : Bool := !(nan x || nan y)
/-- what Total tells -/
def tot (x y : Int) : Int := ct (key x) (key y)
def mx (x y : Int) : Int := if nan x || nan y then 9221120237041090560 else if key y < key x then x else y
end Go.Proofs.YtelblhgagpkjmaaGreatDoor.A
