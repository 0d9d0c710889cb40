/-
  Package prod, pure: products of numbers, their values; what Mul, Fma and Dot tell.
-/
import Derived.Test.YtpmjeipdldnnbaaGreatDoorK8
namespace Go.Proofs.YtpmjeipdldnnbaaGreatDoor
set_option linter.unusedVariables false
set_option linter.unusedSimpArgs false
open Go.RowKit
set_option linter.unusedVariables false
set_option linter.unusedSimpArgs false
namespace PC
open L NC NK DC RC SC
/-- what fits easily: sums of products -/
structure FitP (d : Dy) (k : Int) : Prop where
  ok : Ok d
  x : -2148 ≤ d.x
  hi : S d ≤ k * sc 1 2048
  lo : -(k * sc 1 2048) ≤ S d
/-- the product of two numbers -/
def PD (x y : Int) : Re := if F.exq x = 2047 ∨ F.exq y = 2047 then ⟨4, dz⟩ else DC.Mul (OfD x).d (OfD y).d
theorem K_inj {a b : Int} {K : Nat} (h : a * 2 ^ K = b * 2 ^ K) : a = b := Int.eq_of_mul_eq_mul_right (Int.ne_of_gt (two_pos' K)) h
/-- the sign of a product, as bits -/
def sp (x y : Int) : Int := if F.sgn x = F.sgn y then 0 else 9223372036854775808
theorem sp2 (x y : Int) : sp x y = 0 ∨ sp x y = 9223372036854775808 := by unfold sp; split <;> simp
theorem cls1 {x : Int} (h0 : 0 ≤ x) (h1 : x ≤ 18446744073709551615) : F.cls x = 1 ↔ x = 0 ∨ x = 9223372036854775808 := by
  unfold F.cls F.exq F.fra
  constructor
  · intro h; repeat (first | omega | split at h)
  · rintro (rfl | rfl) <;> decide
theorem val00 : fi 0 ∧ val 0 = 0 := by
  have f0 : fi 0 := fi_of (by omega) (by omega) (by omega)
  refine ⟨f0, ?_⟩
  rw [val_eq f0, show (0 : Int) % 9223372036854775808 = 0 by decide, U_zero]; rfl
theorem val08 : fi 9223372036854775808 ∧ val 9223372036854775808 = 0 := by
  have f0 : fi 9223372036854775808 := fi_of (by omega) (by omega) (by omega)
  refine ⟨f0, ?_⟩
  rw [val_eq f0, show (9223372036854775808 : Int) % 9223372036854775808 = 0 by decide, U_zero]; rfl
theorem val0 {x : Int} (h : fi x) : val x = 0 ↔ F.cls x = 1 := by
  rw [cls1 h.1 h.2.1]
  constructor
  · exact val_zero h
  · rintro (rfl | rfl)
    · exact val00.2
    · exact val08.2
theorem fi_cls {x : Int} (hx : 0 ≤ x ∧ x ≤ 18446744073709551615) : fi x ↔ F.cls x ≤ 3 := by
  have := F.cls_bd x
  have := cls_fi (x := x)
  constructor
  · intro h; have := this.2 h.2.2; omega
  · intro h; exact ⟨hx.1, hx.2, this.1 (by omega)⟩
end PC
end Go.Proofs.YtpmjeipdldnnbaaGreatDoor
