/-
  Texts glued together for a claim: X1 DK1 DK3 RK1 RK2 RK4 DK2 RK5 X2.
-/
import Derived.Test.YtelblhgagpkjmaaGreatDoorF1
import Derived.Test.YtelblhgagpkjmaaGreatDoorF7
import Derived.Test.YtelblhgagpkjmaaGreatDoorF8
/-
  Numbers of 53 bits, pure: the nearest ones; what a sum loses; Dekker's and Knuth's sums.
-/
namespace Go.Proofs.YtelblhgagpkjmaaGreatDoor
set_option linter.unusedVariables false
set_option linter.unusedSimpArgs false
set_option linter.unusedVariables false
set_option linter.unusedSimpArgs false
namespace XC
/-- a number of 53 bits, over the least unit -/
def Fp (n : Int) : Prop := ∃ (k : Nat) (q : Int), q ≤ 9007199254740992 ∧ -9007199254740992 ≤ q ∧ n = q * 2 ^ k
/-- s is a nearest one -/
def Nr (n s : Int) : Prop := Fp s ∧ ∀ f, Fp f → (s - n).natAbs ≤ (f - n).natAbs
theorem tp (k : Nat) : (0 : Int) < 2 ^ k := Int.pow_pos (by decide)
theorem tle {a b : Nat} (h : a ≤ b) : (2 : Int) ^ a ≤ 2 ^ b := by
  obtain ⟨c, rfl⟩ := Nat.exists_eq_add_of_le h
  rw [Int.pow_add]
  have h1 := tp a
  have h2 := tp c
  have := Int.mul_le_mul_of_nonneg_left (show (1 : Int) ≤ 2 ^ c by omega) (Int.le_of_lt h1)
  omega
theorem tsplit {a b : Nat} (h : a ≤ b) : (2 : Int) ^ b = 2 ^ (b - a) * 2 ^ a := by
  rw [← Int.pow_add]; congr 1; omega
theorem fp_mk (k : Nat) {q : Int} (h1 : q ≤ 9007199254740992) (h2 : -9007199254740992 ≤ q) : Fp (q * 2 ^ k) := ⟨k, q, h1, h2, rfl⟩
end XC
end Go.Proofs.YtelblhgagpkjmaaGreatDoor

/-
  DyadRing: the walk.
-/
namespace Go.Proofs.YtelblhgagpkjmaaGreatDoor
set_option linter.unusedVariables false
set_option linter.unusedSimpArgs false
open Go.RowKit
set_option linter.unusedVariables false
namespace DC
open L NC NK
open Z (Nz Tz cmpv)
end DC
end Go.Proofs.YtelblhgagpkjmaaGreatDoor

/-
  DyadOrder: the walk.
-/
namespace Go.Proofs.YtelblhgagpkjmaaGreatDoor
set_option linter.unusedVariables false
set_option linter.unusedSimpArgs false
open Go.RowKit
set_option linter.unusedVariables false
namespace DC
open L NC NK
open Z (Nz Tz cmpv)
/-- what the order is to say -/
structure Ord (v12 v21 v23 v13 : Int) (t : Bool) : Prop where
  w : IntKind.i64.wrap (-v21) = -v21
  a : (v12 != -v21) = false
  e : (v12 == 0) = t
  c : ¬ v12 ≤ 0 ∨ (v12 ≤ 0 ∧ ¬ v23 ≤ 0) ∨ (v12 ≤ 0 ∧ v23 ≤ 0 ∧ ¬ 0 < v13)
end DC
end Go.Proofs.YtelblhgagpkjmaaGreatDoor

/-
  RoundSame, RoundOrder: the walks.
-/
namespace Go.Proofs.YtelblhgagpkjmaaGreatDoor
set_option linter.unusedVariables false
set_option linter.unusedSimpArgs false
open Go.RowKit
set_option linter.unusedVariables false
set_option linter.unusedSimpArgs false
namespace RC
open L NC NK DC
open Z (Nz Tz cmpv)
end RC
end Go.Proofs.YtelblhgagpkjmaaGreatDoor

/-
  RoundOrder, RoundSides: the walks.
-/
namespace Go.Proofs.YtelblhgagpkjmaaGreatDoor
set_option linter.unusedVariables false
set_option linter.unusedSimpArgs false
open Go.RowKit
set_option linter.unusedVariables false
set_option linter.unusedSimpArgs false
namespace RC
open L NC NK DC
open Z (Nz Tz cmpv)
end RC
end Go.Proofs.YtelblhgagpkjmaaGreatDoor

/-
  RoundTurned: the walk.
-/
namespace Go.Proofs.YtelblhgagpkjmaaGreatDoor
set_option linter.unusedVariables false
set_option linter.unusedSimpArgs false
open Go.RowKit
set_option linter.unusedVariables false
set_option linter.unusedSimpArgs false
namespace RC
open L NC NK DC
open Z (Nz Tz cmpv)
end RC
end Go.Proofs.YtelblhgagpkjmaaGreatDoor

/-
  DyadBack: the walk.
-/
namespace Go.Proofs.YtelblhgagpkjmaaGreatDoor
set_option linter.unusedVariables false
set_option linter.unusedSimpArgs false
open Go.RowKit
set_option linter.unusedVariables false
namespace DC
open L NC NK
open Z (Nz Tz cmpv)
end DC
end Go.Proofs.YtelblhgagpkjmaaGreatDoor

/-
  RoundNear: what is asked, and the walk.
-/
namespace Go.Proofs.YtelblhgagpkjmaaGreatDoor
set_option linter.unusedVariables false
set_option linter.unusedSimpArgs false
open Go.RowKit
set_option linter.unusedVariables false
set_option linter.unusedSimpArgs false
namespace RC
open L NC NK DC
open Z (Nz Tz cmpv)
/-- without its sign -/
def ab (d : Dy) : Dy := ⟨d.er, (d.m.natAbs : Int), d.x⟩
end RC
end Go.Proofs.YtelblhgagpkjmaaGreatDoor

/-
  The nearest number, by 53 bits, pure: what is rounded is a nearest one.
-/
namespace Go.Proofs.YtelblhgagpkjmaaGreatDoor
set_option linter.unusedVariables false
set_option linter.unusedSimpArgs false
open Go.RowKit
set_option linter.unusedVariables false
set_option linter.unusedSimpArgs false
namespace XC
open L NC NK DC RC SC
/-- the least unit -/
def e0 : Int := sc 1 (-1074)
theorem e0_pos : 0 < e0 := sc_one_pos _
theorem e0_pow (k : Nat) : sc 1 ((k : Int) - 1074) = 2 ^ k * e0 := by
  unfold e0
  rw [← sc_mul1, sc_two _ _ (by omega)]
  congr 1
theorem sgm_mul' (b : Bool) (q E : Int) : sgm b (q * E) = sgm b q * E := by
  unfold sgm; cases b <;> simp [Int.neg_mul]
theorem val_fp {x : Int} (h : fi x) : ∃ n, val x = n * e0 ∧ Fp n := by
  obtain ⟨k, q, q0, q1, e⟩ := unit_ex h
  refine ⟨sgm (F.sgn x) q * 2 ^ k, ?_, fp_mk k ?_ ?_⟩
  · rw [e, e0_pow, sgm_mul', Int.mul_assoc]
  · unfold sgm; split <;> omega
  · unfold sgm; split <;> omega
end XC
end Go.Proofs.YtelblhgagpkjmaaGreatDoor

