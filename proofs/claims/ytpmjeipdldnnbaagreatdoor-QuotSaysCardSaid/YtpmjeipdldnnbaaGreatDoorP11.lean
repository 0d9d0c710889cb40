/-
  The document's product and fused sum.
-/
import Derived.Test.YtpmjeipdldnnbaaGreatDoorP6
import Derived.Test.YtpmjeipdldnnbaaGreatDoorP10
import Derived.Test.YtpmjeipdldnnbaaGreatDoorV4
namespace Go.Proofs.YtpmjeipdldnnbaaGreatDoor
set_option linter.unusedVariables false
set_option linter.unusedSimpArgs false
open Go.RowKit
set_option linter.unusedVariables false
set_option linter.unusedSimpArgs false
namespace PC
open Z (Nz Tz cmpv big)
open ZC DC RC QC SC VC
theorem Minus_v (x : Int) (w : World) : Calls Tryz.prog 21 #[.int .u64 x] w fun e w' => e = .returned (.bool (F.sgn x)) ∧ w = w' := Minus_c x w
theorem IsZero_c (x : Int) (h0 : 0 ≤ x) (h1 : x ≤ 18446744073709551615) (w : World) : Calls Tryz.prog 24 #[.int .u64 x] w fun e w' => e = .returned (.bool (F.cls x == 1)) ∧ w = w' := by
  go_enter Tryz.func24, Tryz.ntmps24
  go_wp2_with (first | (go_at_call 54; (with_reducible refine (FloatR.ClassOf_c x h0 h1 _).mono ?_); rintro e w' ⟨rfl, rfl⟩))
  go_ret
  exact ⟨rfl, rfl⟩
theorem sp_b (x y : Int) : sp x y = if (F.sgn x != F.sgn y) = true then 9223372036854775808 else 0 := by
  unfold sp; cases F.sgn x <;> cases F.sgn y <;> rfl
end PC
end Go.Proofs.YtpmjeipdldnnbaaGreatDoor
