/-
  Plain mathematics for package order: the key of a number's bits, the comparison of two whole numbers, and what is the lesser and the greater one; no program in sight.
-/
import Derived.Test.YtlcelocjfmclkaaPure1
namespace Go.Proofs.Ytlcelocjfmclkaa.A
open Go
set_option linter.unusedVariables false
set_option linter.unusedSimpArgs false
/-- the key of a number -/
def key (x : Int) : Int := if x < 9223372036854775808 then x + 9223372036854775808 else 18446744073709551615 - x
theorem not_nat (x : Nat) (h : x < 18446744073709551616) : 18446744073709551615 ^^^ x = 18446744073709551615 - x := by
  apply Nat.eq_of_testBit_eq; intro i
  rw [show (18446744073709551615 : Nat) - x = 2 ^ 64 - (x + 1) by omega, Nat.testBit_two_pow_sub_succ (by omega : x < 2 ^ 64), Nat.testBit_xor, show (18446744073709551615 : Nat) = 2 ^ 64 - 1 from rfl, Nat.testBit_two_pow_sub_one]
  by_cases hi : i < 64
  · simp [hi]
  · rw [Nat.testBit_lt_two_pow (x := x) (by have := Nat.pow_le_pow_right (n := 2) (by omega) (show 64 ≤ i by omega); omega)]
    simp [hi]
theorem not_bits (x : Int) (h0 : 0 ≤ x) (h1 : x ≤ 18446744073709551615) : bits .xor .u64 IntKind.u64.max x = 18446744073709551615 - x := by
  rw [show IntKind.u64.max = 18446744073709551615 from rfl, u64_xor _ _ (by decide) (by decide) h0 (by omega)]
  rw [show (18446744073709551615 : Int).toNat = 18446744073709551615 from rfl, not_nat _ (by omega)]
  omega
/-- -1, 0 or 1 -/
def ct (a b : Int) : Int := if a < b then -1 else if b < a then 1 else 0
theorem key_bd (x : Int) (h0 : 0 ≤ x) (h1 : x ≤ 18446744073709551615) : 0 ≤ key x ∧ key x ≤ 18446744073709551615 := by unfold key; split <;> omega
theorem key_inj {x y : Int} (h0 : 0 ≤ x) (h1 : x ≤ 18446744073709551615) (k0 : 0 ≤ y) (k1 : y ≤ 18446744073709551615) (h : key x = key y) : x = y := by
  unfold key at h; split at h <;> split at h <;> omega
theorem ct_lt {a b : Int} (h : a < b) : ct a b = -1 := by unfold ct; rw [if_pos h]
theorem ct_gt {a b : Int} (h : b < a) : ct a b = 1 := by unfold ct; rw [if_neg (by omega), if_pos h]
theorem ct_eq {a b : Int} (h : a = b) : ct a b = 0 := by unfold ct; rw [if_neg (by omega), if_neg (by omega)]
theorem ct_3 (a b : Int) : (a < b ∧ ct a b = -1) ∨ (b < a ∧ ct a b = 1) ∨ (a = b ∧ ct a b = 0) := by
  rcases Int.lt_trichotomy a b with h | h | h
  · exact .inl ⟨h, ct_lt h⟩
  · exact .inr (.inr ⟨h, ct_eq h⟩)
  · exact .inr (.inl ⟨h, ct_gt h⟩)
theorem ct_bd (a b : Int) : -1 ≤ ct a b ∧ ct a b ≤ 1 := by rcases ct_3 a b with ⟨_, e⟩ | ⟨_, e⟩ | ⟨_, e⟩ <;> rw [e] <;> decide
theorem ct_neg (a b : Int) : -ct b a = ct a b := by
  rcases ct_3 a b with ⟨h, e⟩ | ⟨h, e⟩ | ⟨h, e⟩
  · rw [e, ct_gt h]
  · rw [e, ct_lt h]; rfl
  · rw [e, ct_eq h.symm]; rfl
/-- is it no number? -/
def nan (x : Int) : Bool := F.cls x == 5
theorem nan_iff (x : Int) : nan x = true ↔ 9218868437227405312 < x % 9223372036854775808 := by unfold nan; rw [beq_iff_eq]; exact F.cls_nan x
theorem nan_no (x : Int) : nan x = false ↔ F.nn x := by
  unfold F.nn
  rw [← Bool.not_eq_true, nan_iff]; omega
/-- what Cmp tells -/
def cmpn (x y : Int) : Int := if nan x || nan y then 0 else ct (F.rnk x) (F.rnk y)
def has (x y : Int) : Bool := !(nan x || nan y)
/-- what Total tells -/
def tot (x y : Int) : Int := ct (key x) (key y)
def mn (x y : Int) : Int := if nan x || nan y then 9221120237041090560 else if key x < key y then x else y
def mx (x y : Int) : Int := if nan x || nan y then 9221120237041090560 else if key y < key x then x else y
theorem mn_bd {x y : Int} (h0 : 0 ≤ x) (h1 : x ≤ 18446744073709551615) (k0 : 0 ≤ y) (k1 : y ≤ 18446744073709551615) : 0 ≤ mn x y ∧ mn x y ≤ 18446744073709551615 := by
  unfold mn; split; · omega
  split <;> omega
theorem mx_bd {x y : Int} (h0 : 0 ≤ x) (h1 : x ≤ 18446744073709551615) (k0 : 0 ≤ y) (k1 : y ≤ 18446744073709551615) : 0 ≤ mx x y ∧ mx x y ≤ 18446744073709551615 := by
  unfold mx; split; · omega
  split <;> omega
theorem mn_comm {x y : Int} (hx : 0 ≤ x ∧ x ≤ 18446744073709551615) (hy : 0 ≤ y ∧ y ≤ 18446744073709551615) : mn y x = mn x y := by
  unfold mn
  rw [Bool.or_comm (nan y)]
  split; · rfl
  by_cases h : key x < key y
  · rw [if_pos h, if_neg (by omega)]
  · rw [if_neg h]
    by_cases h' : key y < key x
    · rw [if_pos h']
    · rw [if_neg h']; exact key_inj hx.1 hx.2 hy.1 hy.2 (by omega)
theorem mx_comm {x y : Int} (hx : 0 ≤ x ∧ x ≤ 18446744073709551615) (hy : 0 ≤ y ∧ y ≤ 18446744073709551615) : mx y x = mx x y := by
  unfold mx
  rw [Bool.or_comm (nan y)]
  split; · rfl
  by_cases h : key x < key y
  · rw [if_pos h, if_neg (by omega)]
  · rw [if_neg h]
    by_cases h' : key y < key x
    · rw [if_pos h']
    · rw [if_neg h']; exact key_inj hx.1 hx.2 hy.1 hy.2 (by omega)
theorem nanq : nan 9221120237041090560 = true := by decide
theorem mn_assoc (x y z : Int) : mn (mn x y) z = mn x (mn y z) := by
  have hq := nanq
  unfold mn
  cases hx : nan x <;> cases hy : nan y <;> cases hz : nan z <;> simp only [hx, hy, hz, hq, Bool.or_true, Bool.true_or, Bool.or_self, Bool.or_false, Bool.false_or, if_true, Bool.false_eq_true, if_false, ite_self]
  all_goals (repeat' split) <;> simp_all <;> omega
theorem mx_assoc (x y z : Int) : mx (mx x y) z = mx x (mx y z) := by
  have hq := nanq
  unfold mx
  cases hx : nan x <;> cases hy : nan y <;> cases hz : nan z <;> simp only [hx, hy, hz, hq, Bool.or_true, Bool.true_or, Bool.or_self, Bool.or_false, Bool.false_or, if_true, Bool.false_eq_true, if_false, ite_self]
  all_goals (repeat' split) <;> simp_all <;> omega
end Go.Proofs.Ytlcelocjfmclkaa.A
