/-
  Texts glued together for a claim: P1 P2 P3 X3 X4.
-/
import Derived.Test.YtelblhgagpkjmaaGreatDoorF11
import Derived.Test.YtelblhgagpkjmaaGreatDoorF8
/-
  Package prod, pure: products of numbers, their values; what Mul, Fma and Dot tell.
-/
namespace Go.Proofs.YtelblhgagpkjmaaGreatDoor
set_option linter.unusedVariables false
set_option linter.unusedSimpArgs false
open Go.RowKit
set_option linter.unusedVariables false
set_option linter.unusedSimpArgs false
namespace PC
open L NC NK DC RC SC
/-- what fits easily: sums of products -/
structure FitP (d : Dy) (k : Int) : Prop where
  ok : Ok d
  x : -2148 ≤ d.x
  hi : S d ≤ k * sc 1 2048
  lo : -(k * sc 1 2048) ≤ S d
/-- the product of two numbers -/
def PD (x y : Int) : Re := if F.exq x = 2047 ∨ F.exq y = 2047 then ⟨4, dz⟩ else DC.Mul (OfD x).d (OfD y).d
/-- the sign of a product, as bits -/
def sp (x y : Int) : Int := if F.sgn x = F.sgn y then 0 else 9223372036854775808
/-- what is told by classes -/
def bc (x y : Int) : Int × Bool :=
  if max (F.cls x) (F.cls y) = 5 ∨ (max (F.cls x) (F.cls y) = 4 ∧ min (F.cls x) (F.cls y) = 1) then (9221120237041090560, true)
  else if max (F.cls x) (F.cls y) = 4 then (sp x y + 9218868437227405312, true)
  else if min (F.cls x) (F.cls y) = 1 then (sp x y, true)
  else (0, false)
noncomputable def MT (x y mode : Int) : Int × Bool × Int :=
  if ¬ (0 ≤ mode ∧ mode ≤ 4) then (0, false, 1)
  else if (bc x y).2 = true then ((bc x y).1, false, 0)
  else (TX (PD x y).d mode, TL (PD x y).d mode, 0)
/-- the product and one more -/
def fd (x y z : Int) : Dy := (DC.Add (PD x y).d (OfD z).d).d
noncomputable def FT (x y z mode : Int) : Int × Bool × Int :=
  if ¬ (0 ≤ mode ∧ mode ≤ 4) then (0, false, 1)
  else if (bc x y).2 = true then AT [(bc x y).1, z] mode
  else if F.exq z = 2047 then AT [0, z] mode
  else if (fd x y z).m = 0 ∧ mode = 2 then (9223372036854775808, false, 0)
  else (TX (fd x y z) mode, TL (fd x y z) mode, 0)
theorem cls1 {x : Int} (h0 : 0 ≤ x) (h1 : x ≤ 18446744073709551615) : F.cls x = 1 ↔ x = 0 ∨ x = 9223372036854775808 := by
  unfold F.cls F.exq F.fra
  constructor
  · intro h; repeat (first | omega | split at h)
  · rintro (rfl | rfl) <;> decide
theorem val00 : fi 0 ∧ val 0 = 0 := by
  have f0 : fi 0 := fi_of (by omega) (by omega) (by omega)
  refine ⟨f0, ?_⟩
  rw [val_eq f0, show (0 : Int) % 9223372036854775808 = 0 by decide, U_zero]; rfl
theorem val08 : fi 9223372036854775808 ∧ val 9223372036854775808 = 0 := by
  have f0 : fi 9223372036854775808 := fi_of (by omega) (by omega) (by omega)
  refine ⟨f0, ?_⟩
  rw [val_eq f0, show (9223372036854775808 : Int) % 9223372036854775808 = 0 by decide, U_zero]; rfl
theorem val0 {x : Int} (h : fi x) : val x = 0 ↔ F.cls x = 1 := by
  rw [cls1 h.1 h.2.1]
  constructor
  · exact val_zero h
  · rintro (rfl | rfl)
    · exact val00.2
    · exact val08.2
end PC
end Go.Proofs.YtelblhgagpkjmaaGreatDoor

/-
  Package prod, pure: one; turned; in order; powers of two; what is exact.
-/
namespace Go.Proofs.YtelblhgagpkjmaaGreatDoor
set_option linter.unusedVariables false
set_option linter.unusedSimpArgs false
open Go.RowKit
set_option linter.unusedVariables false
set_option linter.unusedSimpArgs false
namespace PC
open L NC NK DC RC SC
theorem S_sg (d : Dy) : S d = sgm (ng d) (A d) ∧ 0 ≤ A d := by
  have a := A_abs d
  rcases Int.lt_or_le (S d) 0 with h | h
  · rw [(a.2 h).1, (a.2 h).2]; unfold sgm; simp; omega
  · rw [(a.1 h).1, (a.1 h).2]; unfold sgm; simp; omega
theorem exact_iff {d : Dy} {mode : Int} (hm : 0 ≤ mode ∧ mode ≤ 4) (h : Ok d) : TL d mode = false ↔ (fi (TX d mode) ∧ val (TX d mode) = S d) := by
  constructor
  · intro hl
    obtain ⟨r, hf, m, t, -⟩ := towA h
    rw [(TX_of h hm t).2.1] at hl
    have e1 : hf = false := by cases hf <;> simp_all
    have e2 : m = false := by cases m <;> simp_all
    have q1 := t.hh
    have q2 := t.hm
    rw [e1] at q1
    rw [e2] at q2
    have q1' := of_decide_eq_false q1.symm
    have q2' := of_decide_eq_false q2.symm
    have lo := t.lo
    have e : A d = U r := by
      rcases Classical.em (A d = U r) with h | h
      · exact h
      · exfalso; apply q2'; exact ⟨h, by omega⟩
    exact (exact_p hm h t.r0 t.r1 e).2
  · rintro ⟨f, hv⟩
    have hr := fi_mod f
    have ev := val_eq f
    have s := S_sg d
    have e : A d = U (TX d mode % 9223372036854775808) := by
      have hU := U_pos (r := TX d mode % 9223372036854775808) (by omega)
      rw [hv, s.1] at ev
      have s2 := s.2
      unfold sgm at ev
      split at ev <;> split at ev <;> omega
    exact (exact_p hm h (by omega) hr e).1
end PC
end Go.Proofs.YtelblhgagpkjmaaGreatDoor

/-
  Package prod, pure: Fma by one, by nothing more, and what is left of a product.
-/
namespace Go.Proofs.YtelblhgagpkjmaaGreatDoor
set_option linter.unusedVariables false
set_option linter.unusedSimpArgs false
open Go.RowKit
set_option linter.unusedVariables false
set_option linter.unusedSimpArgs false
namespace PC
open L NC NK DC RC SC
/-- the unit of a number -/
theorem unit_ulp {x : Int} (h : fi x) : ∃ q : Int, 0 ≤ q ∧ q < 9007199254740992 ∧ val x = sgm (F.sgn x) (sc q (F.ulp x)) := by
  have hb := F.exq_bd x
  have hf := F.fra_bd x
  have h2 := h.2.2
  have hr : x % 9223372036854775808 = F.exq x * 4503599627370496 + F.fra x := by unfold F.exq F.fra; omega
  have mb : 0 ≤ mant x ∧ mant x < 9007199254740992 := by unfold mant; split <;> omega
  obtain ⟨k, hk⟩ : ∃ k : Nat, F.ulp x + 1074 = k := ⟨(F.ulp x + 1074).toNat, by unfold F.ulp; split <;> omega⟩
  have hkq : x % 9223372036854775808 = k * 4503599627370496 + mant x ∧ (k = 0 ∨ 4503599627370496 ≤ mant x) := by
    rw [hr]
    unfold F.ulp at hk
    unfold mant
    by_cases h : 0 < F.exq x
    · rw [if_pos h]; rw [if_pos (by omega)] at hk; exact ⟨by omega, by omega⟩
    · rw [if_neg h]; rw [if_neg (by omega)] at hk; exact ⟨by omega, by omega⟩
  have eU := (U_of mb.1 mb.2 hkq.2).1
  rw [← hkq.1, show (k : Int) - 1074 = F.ulp x by omega, ← sc_mul1] at eU
  exact ⟨_, mb.1, mb.2, by rw [val_eq h, eU]⟩
theorem ulp_bd {x : Int} (h : fi x) : -1074 ≤ F.ulp x ∧ F.ulp x ≤ 971 := by
  have := F.exq_bd x
  have := h.2.2
  unfold F.ulp; split <;> omega
end PC
end Go.Proofs.YtelblhgagpkjmaaGreatDoor

/-
  Package exact, pure: what TwoSum and FastSum tell (T2, T1); nothing is lost; what is lost is no more than half of what one more counts.
-/
namespace Go.Proofs.YtelblhgagpkjmaaGreatDoor
set_option linter.unusedVariables false
set_option linter.unusedSimpArgs false
open Go.RowKit
set_option linter.unusedVariables false
set_option linter.unusedSimpArgs false
namespace XC
open L NC NK DC RC SC PC
noncomputable def ad (x y : Int) : Int := (AT [x, y] 0).1
noncomputable def sb (x y : Int) : Int := (AT [x, F.neg y] 0).1
noncomputable def T2 (x y : Int) : Int × Int × Int :=
  if F.exq x = 2047 ∨ F.exq y = 2047 then (0, 0, 4) else if F.exq (ad x y) = 2047 then (0, 0, 2) else
  (ad x y, ad (sb x (sb (ad x y) y)) (sb y (sb (ad x y) (sb (ad x y) y))), 0)
noncomputable def T1 (x y : Int) : Int × Int × Int :=
  if F.exq x = 2047 ∨ F.exq y = 2047 then (0, 0, 4) else if F.exq (ad x y) = 2047 then (0, 0, 2) else
  (ad x y, sb y (sb (ad x y) x), 0)
/-- below 2^900, over the least unit -/
@[irreducible] def LL9 : Int := 2 ^ 1974
theorem lim9 {M : Int} (hM : M = 9218868437227405311) : 400 * (LL9 * e0) ≤ U M := by
  obtain ⟨k, hk⟩ : ∃ k : Nat, k = 2045 := ⟨_, rfl⟩
  have hU := (U_of (k := k) (q := 9007199254740991) (by omega) (by omega) (by omega))
  rw [show (k : Int) * 4503599627370496 + 9007199254740991 = M by omega] at hU
  rw [hU.1, e0_pow]
  obtain ⟨a, ha⟩ : ∃ a : Nat, a = 1974 := ⟨_, rfl⟩
  have e : LL9 = 2 ^ a := by unfold LL9; rw [ha]
  rw [e]
  have h1 : (2 : Int) ^ a ≤ 2 ^ k := tle (by omega)
  have h2 := Int.mul_le_mul_of_nonneg_right h1 (Int.le_of_lt e0_pos)
  have h3 := Int.mul_nonneg (Int.le_of_lt (tp a)) (Int.le_of_lt e0_pos)
  generalize (2 : Int) ^ a * e0 = p at *
  generalize (2 : Int) ^ k * e0 = q at *
  omega
end XC
end Go.Proofs.YtelblhgagpkjmaaGreatDoor

/-
  Package exact, pure: what TwoProd tells (P2); nothing is lost of a product; with 0, times 1; alike values.
-/
namespace Go.Proofs.YtelblhgagpkjmaaGreatDoor
set_option linter.unusedVariables false
set_option linter.unusedSimpArgs false
open Go.RowKit
set_option linter.unusedVariables false
set_option linter.unusedSimpArgs false
namespace XC
open L NC NK DC RC SC PC
noncomputable def P2 (x y : Int) : Int × Int × Int :=
  if F.exq x = 2047 ∨ F.exq y = 2047 then (0, 0, 4) else if F.exq (MT x y 0).1 = 2047 then (0, 0, 2) else
  ((MT x y 0).1, (FT x y (F.neg (MT x y 0).1) 0).1, 0)
end XC
end Go.Proofs.YtelblhgagpkjmaaGreatDoor

