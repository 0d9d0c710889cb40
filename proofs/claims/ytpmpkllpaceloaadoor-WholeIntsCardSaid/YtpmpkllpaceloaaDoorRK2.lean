/-
  RoundOrder, RoundSides: the walks.
-/
import Derived.Test.YtpmpkllpaceloaaDoorRK1
namespace Go.Proofs.YtpmpkllpaceloaaDoor
set_option linter.unusedVariables false
set_option linter.unusedSimpArgs false
open Go.RowKit
set_option linter.unusedVariables false
set_option linter.unusedSimpArgs false
namespace RC
open L NC NK DC
open Z (Nz Tz cmpv)
theorem all3 {x1 x2 x3 : Int} (h : [x1, x2, x3].all (· == 0) = true) : x1 = 0 ∧ x2 = 0 ∧ x3 = 0 := by
  simpa [List.all_cons, Bool.and_eq_true] using h
theorem Rank_w {y : Int} (h : 0 ≤ y ∧ y ≤ 18446744073709551615 ∧ F.nn y) (W : World) : Calls Tryd.prog 32 #[.int .u64 y] W fun e w' => e = .returned (.tuple #[.int .i64 (F.rnk y), .int .i64 0]) ∧ W = w' := FloatC.Rank_ok y h.1 h.2.1 h.2.2 W
end RC
end Go.Proofs.YtpmpkllpaceloaaDoor
