/-
  Package whole, pure: the sign's bit put to a number; an int out of limbs.
-/
import Derived.Test.YtpmpkllpaceloaaDoorI13
namespace Go.Proofs.YtpmpkllpaceloaaDoor
set_option linter.unusedVariables false
set_option linter.unusedSimpArgs false
open Go.RowKit
set_option linter.unusedVariables false
set_option linter.unusedSimpArgs false
namespace IC
open L NC NK DC RC SC QC
theorem and_top' (a : Nat) : a &&& 9223372036854775808 = if a.testBit 63 = true then 9223372036854775808 else 0 := by
  have h2 : (9223372036854775808 : Nat) = 2 ^ 63 := rfl
  have h3 : Nat.testBit 9223372036854775808 63 = true := by decide
  apply Nat.eq_of_testBit_eq
  intro i
  rw [Nat.testBit_and]
  by_cases hi : i = 63
  · subst hi
    rw [h3]
    cases a.testBit 63
    · simp
    · simp [h3]
  · have : Nat.testBit 9223372036854775808 i = false := by rw [h2]; exact Nat.testBit_two_pow_of_ne (by omega)
    rw [this]
    split
    · rw [this]; simp
    · simp
theorem top_bit' {x : Int} (h0 : 0 ≤ x) (h1 : x ≤ 18446744073709551615) : x.toNat.testBit 63 = F.sgn x := by
  by_cases h : 9223372036854775808 ≤ x
  · rw [F.sgn_t h, Nat.testBit_eq_decide_div_mod_eq, decide_eq_true_iff]; omega
  · rw [F.sgn_f (by omega), Nat.testBit_eq_decide_div_mod_eq, decide_eq_false_iff_not]; omega
theorem and_sgn {x : Int} (hx : 0 ≤ x ∧ x ≤ 18446744073709551615) : bits .and .u64 x 9223372036854775808 = if F.sgn x then 9223372036854775808 else 0 := by
  rw [u64_and x _ hx.1 (by omega) (by decide) (by decide)]
  rw [show (9223372036854775808 : Int).toNat = 9223372036854775808 from rfl, and_top', top_bit' hx.1 hx.2]
  cases F.sgn x <;> rfl
theorem or_sgn {y : Int} (hy : 0 ≤ y ∧ y ≤ 18446744073709551615) : bits .or .u64 y 9223372036854775808 = if F.sgn y then y else y + 9223372036854775808 := by
  rw [u64_or y _ hy.1 (by omega) (by decide) (by decide)]
  rw [show (9223372036854775808 : Int).toNat = 9223372036854775808 from rfl]
  by_cases h : 9223372036854775808 ≤ y
  · rw [F.sgn_t h]
    obtain ⟨k, hk⟩ : ∃ k, y.toNat = 9223372036854775808 + k := ⟨y.toNat - 9223372036854775808, by omega⟩
    have e : (9223372036854775808 ||| k) = 9223372036854775808 + k := nat_join 63 _ _ (by decide) (by omega)
    have e2 : (9223372036854775808 ||| k) ||| 9223372036854775808 = 9223372036854775808 ||| k := by
      rw [Nat.or_assoc, Nat.or_comm k, ← Nat.or_assoc, Nat.or_self]
    rw [hk, ← e, e2, e]
    simp only [if_true]; omega
  · rw [F.sgn_f (by omega), Nat.or_comm, nat_join 63 _ _ (by decide) (by omega)]
    simp; omega
theorem rs_bits {x y z : Int} (hx : 0 ≤ x ∧ x ≤ 18446744073709551615) (hy : 0 ≤ y ∧ y ≤ 18446744073709551615) (h : (y = 0 ∧ F.sgn x = true ∧ z = 9223372036854775808) ∨ (y = 0 ∧ F.sgn x = false ∧ z = 0) ∨ (z = y ∧ F.sgn y = F.sgn x)) : bits .or .u64 y (bits .and .u64 x 9223372036854775808) = z := by
  rw [and_sgn hx]
  have z0 : bits .or .u64 y 0 = y := by
    rw [u64_or y _ hy.1 (by omega) (by decide) (by decide), show (0 : Int).toNat = 0 from rfl, Nat.or_zero]; omega
  rcases h with ⟨rfl, h1, rfl⟩ | ⟨rfl, h1, rfl⟩ | ⟨rfl, h1⟩
  · rw [h1]; simp only [if_true]
    rw [or_sgn hy]; decide
  · rw [h1]; simpa using z0
  · cases h2 : F.sgn x
    · simpa using z0
    · simp only [if_true]
      rw [or_sgn hy, h1, h2]; rfl
/-- an int, if it is one -/
def tI (n : Int) : Int × Int := if -9223372036854775808 ≤ n ∧ n ≤ 9223372036854775807 then (n, 0) else (0, 4)
def topI (b : Bool) : Int := if b then 9223372036854775808 else 9223372036854775807
theorem tI_in {m s : Int} (h0 : 0 ≤ s) (hs : s ≤ topI (decide (m < 0))) (n : Int) (hn : n = sgm (decide (m < 0)) s) : tI n = (n, 0) := by
  unfold tI
  rw [if_pos]
  subst hn
  unfold topI at hs
  unfold sgm
  by_cases q : m < 0
  · rw [decide_eq_true q] at hs ⊢
    simp only [if_true] at hs ⊢
    omega
  · rw [decide_eq_false q] at hs ⊢
    simp at hs ⊢
    omega
theorem tI_out {m s : Int} (hs : topI (decide (m < 0)) < s) (n : Int) (hn : n = sgm (decide (m < 0)) s) : tI n = (0, 4) := by
  unfold tI
  rw [if_neg]
  subst hn
  unfold topI at hs
  unfold sgm
  by_cases q : m < 0
  · rw [decide_eq_true q] at hs ⊢
    simp only [if_true] at hs ⊢
    omega
  · rw [decide_eq_false q] at hs ⊢
    simp at hs ⊢
    omega
/-- the size of a whole number -/
theorem size_of {x n : Int} (hf : fi x) (hn : val x = n * sc 1 0) : ∃ s : Int, 0 ≤ s ∧ s < 4294967296 ^ 400 ∧ (OfD x).d.m.natAbs * 2 ^ (OfD x).d.x.toNat = s ∧ n = sgm (decide ((OfD x).d.m < 0)) s ∧ 0 ≤ (OfD x).d.x ∧ (OfD x).d.x ≤ 10000 := by
  obtain ⟨e0, g⟩ := of_fit hf
  obtain ⟨k1, k2⟩ := whole_x g.ok hn
  have hi := g.hi
  have lo := g.lo
  have hS : S (OfD x).d = n * sc 1 0 := hn
  rw [hS] at hi lo
  have hP := P_pos
  have hb : (OfD x).d.x ≤ 10000 := g.ok.2.2.2.2.2
  have h2 : sc 1 1024 = 2 ^ 1024 * sc 1 0 := by
    rw [← sc_mul1, sc_two 1024 0 (by omega)]
    congr 1
  have h3 : (2 : Int) ^ 1024 < 4294967296 ^ 400 := by
    rw [show (4294967296 : Int) = 2 ^ 32 by decide, ← Int.pow_mul]
    exact two_lt' (by omega)
  rw [h2, Int.one_mul] at hi lo
  have l2 : -(2 ^ 1024) * sc 1 0 ≤ n * sc 1 0 := by rw [Int.neg_mul]; exact lo
  have hi := Int.le_of_mul_le_mul_right hi hP
  have l2 := Int.le_of_mul_le_mul_right l2 hP
  generalize (OfD x).d.m = m at *
  generalize (OfD x).d.x = t at *
  have hp := two_pos' t.toNat
  generalize (2 : Int) ^ t.toNat = p at *
  generalize (2 : Int) ^ 1024 = T at *
  generalize (4294967296 : Int) ^ 400 = Q at *
  refine ⟨_, Int.mul_nonneg (by omega) (Int.le_of_lt hp), ?_, rfl, ?_, k1, hb⟩
  · rcases Int.lt_or_le m 0 with q | q
    · rw [show (m.natAbs : Int) = -m by omega, Int.neg_mul]; omega
    · rw [show (m.natAbs : Int) = m by omega]; omega
  · unfold sgm
    rcases Int.lt_or_le m 0 with q | q
    · rw [show (m.natAbs : Int) = -m by omega, decide_eq_true q, Int.neg_mul]; simp only [if_true]; omega
    · rw [show (m.natAbs : Int) = m by omega, decide_eq_false (by omega)]; simp; omega
/-- limbs of no more than 64 bits -/
theorem two_limbs {L : List Int} (hL : Lim L) (hz : Z.Nz L) (h : lv L ≤ 9223372036854775808) : L.length ≤ 2 := by
  refine len_le hL hz ?_
  have : (4294967296 : Int) ^ 2 = 18446744073709551616 := by decide
  omega
theorem limb_step {L : List Int} (hL : Lim L) (k : Nat) (hk : k < 2) (q : Int) (hq : L.getD k 0 = q) : bits .or .u64 (lv (L.take k)) (q * 2 ^ (32 * k)) = lv (L.take (k + 1)) := by
  have bq := hL.at_ k
  rw [hq] at bq
  rw [lv_take_succ, hq]
  rcases (show k = 0 ∨ k = 1 by omega) with rfl | rfl
  · simp only [List.take_zero, Nat.mul_zero, Int.pow_zero, Int.mul_one, lv]
    rw [u64_or 0 q (by omega) (by omega) bq.1 (by omega), show (0 : Int).toNat = 0 from rfl, Nat.zero_or]; omega
  · have b0 := lv_lt (hL.take 1)
    have b1 := lv_nonneg (hL.take 1)
    have l1 : (L.take 1).length ≤ 1 := by simp; omega
    have b2 : (4294967296 : Int) ^ (L.take 1).length ≤ 4294967296 ^ 1 := pow_mono l1
    rw [show (4294967296 : Int) ^ 1 = 4294967296 by decide] at b2 ⊢
    rw [show (2 : Int) ^ (32 * 1) = 4294967296 by decide]
    rw [u64_or32 _ (q * 4294967296) b1 (by omega) (by omega) (by omega) (by omega)]; omega
end IC
end Go.Proofs.YtpmpkllpaceloaaDoor
