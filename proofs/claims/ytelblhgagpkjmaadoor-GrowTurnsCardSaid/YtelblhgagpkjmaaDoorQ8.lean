/-
  The reference's rounding: the value of a rank.
-/
import Derived.Test.YtelblhgagpkjmaaDoorE13
namespace Go.Proofs.YtelblhgagpkjmaaDoor
set_option linter.unusedVariables false
set_option linter.unusedSimpArgs false
open Go.RowKit
set_option linter.unusedVariables false
set_option linter.unusedSimpArgs false
namespace QC
open Z (Nz Tz cmpv big)
open ZC DC RC
/-- the value of a rank, in very small units -/
def SV (n : Int) : Int := if n < 0 then -(U (-n)) else U n
theorem RetS.mono {M T M' T' : Nat} {w w' : World} {s : Int} {e : Ending} (h : RetS M T w s e w') (hM : M ≤ M') (hT : T ≤ T') : RetS M' T' w s e w' := by
  obtain ⟨b, A, n, c, t, z, he, hz, h1, h2, h3, h4, h5⟩ := h
  exact ⟨b, A, n, c, t, z, he, hz, Nat.lt_of_lt_of_le h1 (Nat.pow_le_pow_right (by decide) hM), h2, by omega, h4, h5⟩
end QC
end Go.Proofs.YtelblhgagpkjmaaDoor
