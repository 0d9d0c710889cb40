/-
  SumOrder: the walk.
-/
import Derived.Test.YtpmpkllpaceloaaDoorUK1
namespace Go.Proofs.YtpmpkllpaceloaaDoor
set_option linter.unusedVariables false
set_option linter.unusedSimpArgs false
open Go.RowKit
set_option linter.unusedVariables false
set_option linter.unusedSimpArgs false
namespace SC
open L NC NK DC RC
/-- Rank of whatever number -/
theorem Rank_g {x : Int} (hx : 0 ≤ x ∧ x ≤ 18446744073709551615) : ∃ k e : Int, (∀ W : World, Calls Tryd.prog 32 #[.int .u64 x] W fun e' w' => e' = .returned (.tuple #[.int .i64 k, .int .i64 e]) ∧ W = w') ∧ (e = 0 → F.nn x ∧ k = F.rnk x) := by
  by_cases h : F.nn x
  · exact ⟨F.rnk x, 0, fun W => FloatC.Rank_ok x hx.1 hx.2 h W, fun _ => ⟨h, rfl⟩⟩
  · exact ⟨0, 4, fun W => FloatC.Rank_no x hx.1 hx.2 (by unfold F.nn at h; omega) W, fun h => by cases h⟩
theorem all4o {x1 x2 x3 x4 : Int} (h : [x1, x2, x3, x4].all (· == 0) = true) : x1 = 0 ∧ x2 = 0 ∧ x3 = 0 ∧ x4 = 0 := by
  simpa [List.all_cons, Bool.and_eq_true] using h
theorem all2o {x1 x2 : Int} (h : [x1, x2].all (· == 0) = true) : x1 = 0 ∧ x2 = 0 := by
  simpa [List.all_cons, Bool.and_eq_true] using h
end SC
end Go.Proofs.YtpmpkllpaceloaaDoor
