/-
  The reference's products by what they are worth; sums of products.
-/
import Derived.Test.YtpmjeipdldnnbaaGreatDoorP4
import Derived.Test.YtpmjeipdldnnbaaGreatDoorK13
import Derived.Test.YtpmjeipdldnnbaaGreatDoorQ15
namespace Go.Proofs.YtpmjeipdldnnbaaGreatDoor
set_option linter.unusedVariables false
set_option linter.unusedSimpArgs false
open Go.RowKit
set_option linter.unusedVariables false
set_option linter.unusedSimpArgs false
namespace PC
open Z (Nz Tz cmpv big)
open ZC DC RC QC SC VC
theorem QMul_s {M T M' T' : Nat} {u v : Value} {s s' p : Int} {w : World} (h : QS M T w u s) (h' : QS M' T' w v s') (k1 : M ≤ 400000) (k2 : M' ≤ 400000) (k3 : T ≤ 10000) (k4 : T' ≤ 10000) {K : Nat} (hK : K = 60000) (hp : p * 2 ^ K = s * s') :
    Calls Tryz.prog 33 #[u, v] w (RetS (M + M') (T + T') w p) := by
  obtain ⟨a, ta, ha, a1, a2, a3, a4⟩ := h
  obtain ⟨b, tb, hb, b1, b2, b3, b4⟩ := h'
  have := QMul_c u v a b ta tb w ha hb (lt_big a1 (by omega) (by omega)) (lt_big b1 (by omega) (by omega)) (by omega) (by omega)
  refine this.mono ?_
  rintro e w' ⟨b9, A9, n9, c9, rfl, hr, hb9⟩
  have e1 := sc_mul (m := a) (n := b) (x := -ta) (y := -tb) (by omega) (by omega) hK
  rw [a4, b4, ← hp] at e1
  have e2 := K_inj e1
  refine ⟨b9, A9, n9, c9, _, _, rfl, hr, ?_, by omega, by omega, by rw [← e2]; congr 1; omega, hb9⟩
  rw [Int.natAbs_mul, Nat.pow_add]
  exact Nat.mul_lt_mul'' a1 b1
end PC
end Go.Proofs.YtpmjeipdldnnbaaGreatDoor
