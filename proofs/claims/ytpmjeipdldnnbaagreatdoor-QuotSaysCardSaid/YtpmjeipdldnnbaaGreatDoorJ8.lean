/-
  Package quot, pure: quotients by itself and by 1, turned; no middles.
-/
import Derived.Test.YtpmjeipdldnnbaaGreatDoorJ7
namespace Go.Proofs.YtpmjeipdldnnbaaGreatDoor
set_option linter.unusedVariables false
set_option linter.unusedSimpArgs false
open Go.RowKit
set_option linter.unusedVariables false
set_option linter.unusedSimpArgs false
namespace JC
open L NC NK DC RC SC PC
theorem PK_pos : (0 : Int) < 2 ^ KN := two_pos' KN
theorem fi_range {x : Int} (h : fi x) : 0 ≤ x ∧ x ≤ 18446744073709551615 := ⟨h.1, h.2.1⟩
theorem ab_nn (x : Int) : 0 ≤ ab x := U_pos (by omega)
theorem DT_e {x y mode : Int} (hm : 0 ≤ mode ∧ mode ≤ 4) : (DT x y mode).2.2 = 0 := by
  cases h : (qc x y).2
  · rw [DT_fi hm h]; rfl
  · rw [DT_qc hm h]
theorem can_odd {o x : Int} (h : o % 2 = 1) : can o x := .inr h
theorem mid_eq {r : Int} (h : 0 ≤ r) : ∃ (k : Nat) (q : Int), r = k * 4503599627370496 + q ∧ 0 ≤ q ∧ q < 9007199254740992 ∧ (k = 0 ∨ 4503599627370496 ≤ q) ∧ U r + U (r + 1) = sc (2 * q + 1) (k - 1074) := by
  obtain ⟨k, q, e, q0, q1, hc⟩ := r_parts h
  obtain ⟨g1, g2⟩ := U_of q0 q1 hc
  refine ⟨k, q, e, q0, q1, hc, ?_⟩
  rw [e, g1, g2, sc_mul1 (2 * q + 1), Int.add_mul q, Int.add_mul (2 * q), Int.mul_assoc 2]
  omega
theorem root_mid {x r : Int} (fx : fi x) (vx : val x ≠ 0) (r0 : 0 ≤ r) (hr : r ≤ 9218868437227405311) : (U r + U (r + 1)) * (U r + U (r + 1)) ≠ 4 * (ab x * 2 ^ KN) := by
  obtain ⟨o1, X1, e1, a1, a2, ao, a3, a4, a5⟩ := of_parts fx vx
  obtain ⟨k, q, e, q0, q1, hc, hmid⟩ := mid_eq r0
  intro h
  rw [hmid, a5] at h
  have hm := sc_mul (m := 2 * q + 1) (n := 2 * q + 1) (x := (k : Int) - 1074) (y := (k : Int) - 1074) (by omega) (by omega) KN_eq
  rw [← hm] at h
  have h2 : 4 * (sc o1 X1 * 2 ^ KN) = sc o1 (X1 + 2) * 2 ^ KN := by
    have := sc_shift o1 X1 2 (by omega)
    rw [show X1 + ((2 : Nat) : Int) = X1 + 2 by omega] at this
    rw [← this, show o1 * 2 ^ 2 = 4 * o1 by omega, sc_mul1 (4 * o1), sc_mul1 o1, Int.mul_assoc 4 o1, Int.mul_assoc 4]
  rw [h2] at h
  have h3 := Int.eq_of_mul_eq_mul_right (Int.ne_of_gt PK_pos) h
  have od : (2 * q + 1) * (2 * q + 1) % 2 = 1 := by
    rw [Int.mul_emod, show (2 * q + 1) % 2 = 1 by omega]; rfl
  obtain ⟨i1, i2⟩ := sc_inj h3 (can_odd od) (can_odd ao) (by omega) (by omega)
  have hk : k ≠ 0 := by omega
  have hq : 4503599627370496 ≤ q := by omega
  have := Int.mul_le_mul_of_nonneg_left (show 1 ≤ 2 * q + 1 by omega) (show 0 ≤ 2 * q + 1 by omega)
  omega
end JC
end Go.Proofs.YtpmjeipdldnnbaaGreatDoor
