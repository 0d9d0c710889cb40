/-
  Package prod: checkMode, byClass, exact.
-/
import Derived.Test.YtpmjeipdldnnbaaGreatDoorP4
import Derived.Test.YtpmjeipdldnnbaaGreatDoorK8
namespace Go.Proofs.YtpmjeipdldnnbaaGreatDoor
set_option linter.unusedVariables false
set_option linter.unusedSimpArgs false
open Go.RowKit
set_option linter.unusedVariables false
set_option linter.unusedSimpArgs false
namespace PC
open L NC NK DC RC SC
theorem and_top (a : Nat) : a &&& 9223372036854775808 = if a.testBit 63 = true then 9223372036854775808 else 0 := by
  have h2 : (9223372036854775808 : Nat) = 2 ^ 63 := rfl
  have h3 : Nat.testBit 9223372036854775808 63 = true := by decide
  apply Nat.eq_of_testBit_eq
  intro i
  rw [Nat.testBit_and]
  by_cases hi : i = 63
  · subst hi
    rw [h3]
    cases a.testBit 63
    · simp
    · simp [h3]
  · have : Nat.testBit 9223372036854775808 i = false := by rw [h2]; exact Nat.testBit_two_pow_of_ne (by omega)
    rw [this]
    split
    · rw [this]; simp
    · simp
theorem top_bit {x : Int} (h0 : 0 ≤ x) (h1 : x ≤ 18446744073709551615) : x.toNat.testBit 63 = F.sgn x := by
  by_cases h : 9223372036854775808 ≤ x
  · rw [F.sgn_t h, Nat.testBit_eq_decide_div_mod_eq, decide_eq_true_iff]; omega
  · rw [F.sgn_f (by omega), Nat.testBit_eq_decide_div_mod_eq, decide_eq_false_iff_not]; omega
theorem sp_bits {x y : Int} (hx : 0 ≤ x ∧ x ≤ 18446744073709551615) (hy : 0 ≤ y ∧ y ≤ 18446744073709551615) : bits .and .u64 (bits .xor .u64 x y) 9223372036854775808 = sp x y := by
  rw [u64_xor x y hx.1 (by omega) hy.1 (by omega)]
  have hl : x.toNat ^^^ y.toNat < 2 ^ 64 := Nat.xor_lt_two_pow (by omega) (by omega)
  rw [u64_and _ _ (by omega) (by omega) (by decide) (by decide)]
  rw [show (9223372036854775808 : Int).toNat = 9223372036854775808 from rfl, Int.toNat_natCast, and_top, Nat.testBit_xor, top_bit hx.1 hx.2, top_bit hy.1 hy.2]
  unfold sp
  cases F.sgn x <;> cases F.sgn y <;> rfl
end PC
end Go.Proofs.YtpmjeipdldnnbaaGreatDoor
