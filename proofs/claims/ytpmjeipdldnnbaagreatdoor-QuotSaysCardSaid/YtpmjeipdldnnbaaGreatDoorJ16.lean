/-
  The document's root, pure: what is told by the rank, its square, and the middle's.
-/
import Derived.Test.YtpmjeipdldnnbaaGreatDoorJ15
namespace Go.Proofs.YtpmjeipdldnnbaaGreatDoor
set_option linter.unusedVariables false
set_option linter.unusedSimpArgs false
open Go.RowKit
set_option linter.unusedVariables false
set_option linter.unusedSimpArgs false
namespace JC
open L NC NK DC RC SC PC QC ZC
theorem mid_sq {l : Int} (h0 : 0 ≤ l) : ∃ p, p * 2 ^ KN = (U l + U (l + 1)) * (U l + U (l + 1)) := by
  obtain ⟨k, q, -, -, -, -, e⟩ := mid_eq h0
  rw [e]
  exact ⟨_, sc_mul (m := 2 * q + 1) (n := 2 * q + 1) (x := (k : Int) - 1074) (y := (k : Int) - 1074) (by omega) (by omega) KN_eq⟩
theorem root_tells {x l mode : Int} (hx : 0 ≤ x ∧ x ≤ 18446744073709551615) (hm : 0 ≤ mode ∧ mode ≤ 4) (h : ¬ (F.cls x = 1 ∨ x = 9218868437227405312)) (h' : ¬ (F.cls x = 5 ∨ F.sgn x = true)) (hl : RR (ab x) l) :
    (W2 l = ab x → ST x mode = (l, false, 0)) ∧ (W2 l ≠ ab x → ST x mode = (if mode = 1 ∨ ((mode = 0 ∨ mode = 4) ∧ (U l + U (l + 1)) * (U l + U (l + 1)) < 4 * (ab x * 2 ^ KN)) then l + 1 else l, true, 0)) := by
  obtain ⟨fx, vx, hs⟩ := st_fi hx h h'
  have sp := ab_pos fx vx
  obtain ⟨hf, m, t⟩ := RR_tog sp hl
  have e := ST_fi (mode := mode) hm h h'
  rw [RT_of (rcut _) t] at e
  have ex := t.exact (rcut _)
  have u0 := U_pos hl.1
  have up1 := U_lt hl.1 (show l < l + 1 by omega)
  have lw : rlt (ab x * 2 ^ KN) (2 * U l) ↔ W2 l ≠ ab x := by
    have a := W2_le.1 hl.2.2.1
    have b := W2_eq (m := l) (s := ab x)
    have hp := Int.mul_pos sp PK_pos
    unfold rlt
    rw [sq4, Ne, b]
    constructor
    · rintro (k | k)
      · intro k2
        have : U l = 0 := by omega
        rw [this] at k2
        omega
      · omega
    · intro k; right; omega
  constructor
  · intro k
    have hn := ex.2 (fun h => lw.1 h k)
    have h1 : hf = false := by cases hf <;> simp_all
    have h2 : m = false := by cases m <;> simp_all
    rw [e, h1, h2, ry_none]; rfl
  · intro k
    have l2 := lw.2 k
    have hn : (hf || m) = true := by
      cases hh : (hf || m)
      · exact absurd l2 (ex.1 hh)
      · rfl
    have nm := root_mid fx vx t.r0 t.r1
    have md : 0 < U l + U (l + 1) := by omega
    have hh : hf = true ↔ (U l + U (l + 1)) * (U l + U (l + 1)) < 4 * (ab x * 2 ^ KN) := by
      rw [t.hh]
      unfold rle
      constructor
      · rintro (k | k) <;> omega
      · intro k; right; omega
    have hmm : hf = true → m = true := fun k1 => t.hm.2 ⟨l2, fun _ => .inr (hh.1 k1)⟩
    rw [e, hn]
    have er : ry false l hf m mode = if mode = 1 ∨ ((mode = 0 ∨ mode = 4) ∧ (U l + U (l + 1)) * (U l + U (l + 1)) < 4 * (ab x * 2 ^ KN)) then l + 1 else l := by
      unfold ry
      have eu : RC.up false (decide (l % 2 = 1)) hf m mode = true ↔ (mode = 1 ∨ ((mode = 0 ∨ mode = 4) ∧ hf = true)) := by
        unfold RC.up
        have k5 : mode = 0 ∨ mode = 1 ∨ mode = 2 ∨ mode = 3 ∨ mode = 4 := by omega
        cases hf
        · have : m = true := by simpa using hn
          subst this
          rcases k5 with rfl | rfl | rfl | rfl | rfl <;> simp
        · have := hmm rfl
          subst this
          rcases k5 with rfl | rfl | rfl | rfl | rfl <;> simp
      rw [hh] at eu
      by_cases k2 : mode = 1 ∨ ((mode = 0 ∨ mode = 4) ∧ (U l + U (l + 1)) * (U l + U (l + 1)) < 4 * (ab x * 2 ^ KN))
      · rw [if_pos k2, if_pos (eu.2 k2)]
      · rw [if_neg k2, if_neg (mt eu.1 k2)]
    rw [er]; rfl
theorem QShift2_s {M T : Nat} {u : Value} {s : Int} {w : World} (h : QS M T w u s) (k1 : M ≤ 400000) (k2 : T ≤ 20000) : Calls Tryz.prog 36 #[u, .int .i64 2] w (RetS (M + 2) T w (s * 4)) := by
  obtain ⟨a, ta, ha, a1, a2, a3, a4⟩ := h
  refine (QC.QShift_c u a ta 2 w ha (lt_big a1 (by omega) (by omega)) (by omega) (by omega)).mono ?_
  intro e w' hr
  have := RetV.s (E := 2) (T := T) hr a1 (by omega) (by omega) (by omega)
  have e2 : sc a (2 - ta) = s * 4 := by
    rw [← a4]
    have e3 := sc_shift a (-ta) 2 (by omega)
    rw [show -ta + ((2 : Nat) : Int) = 2 - ta by omega] at e3
    rw [← e3, RC.sc_mul1, RC.sc_mul1 a, show (2 : Int) ^ 2 = 4 by decide, Int.mul_assoc, Int.mul_assoc, Int.mul_comm 4]
  rwa [e2] at this
end JC
end Go.Proofs.YtpmjeipdldnnbaaGreatDoor
