/-
  Package grow: its contracts, walked over the landed code (Check_g, Value_g, Sign_g, Add_g, Join_g, Turn_g): all that stands in XG21 to XG25.
-/
import Derived.Test.YtelblhgagpkjmaaGreatDoorXG25
