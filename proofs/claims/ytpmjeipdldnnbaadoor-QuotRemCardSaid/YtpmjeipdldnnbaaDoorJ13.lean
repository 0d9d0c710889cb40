/-
  The document's remainder, pure; level by values.
-/
import Derived.Test.YtpmjeipdldnnbaaDoorJ11a
import Derived.Test.YtpmjeipdldnnbaaDoorQ15
import Derived.Test.YtpmjeipdldnnbaaDoorK13
namespace Go.Proofs.YtpmjeipdldnnbaaDoor
set_option linter.unusedVariables false
set_option linter.unusedSimpArgs false
open Go.RowKit
set_option linter.unusedVariables false
set_option linter.unusedSimpArgs false
namespace JC
open L NC NK DC RC SC PC QC
open Z (cmpv big)
/-- Euclid's division of numbers with signs: the nearest rest -/
theorem rem_ref {a b : Int} {sx sy : Bool} (ha : 0 ≤ a) (hb : 0 < b) :
    (if 2 * (sgm sx a % sgm sy b) > b ∨ (2 * (sgm sx a % sgm sy b) = b ∧ sgm sx a / sgm sy b % 2 > 0) then sgm sx a % sgm sy b - b else sgm sx a % sgm sy b) = sgm (sx != ov a b) (rs a b) := by
  have h0 := Int.emod_nonneg a (Int.ne_of_gt hb)
  have h1 := Int.emod_lt_of_pos a hb
  have h2 := Int.mul_ediv_add_emod a b
  have em : sgm sx a % sgm sy b = sgm sx a % b := by
    unfold sgm
    cases sy
    · rfl
    · simp [Int.emod_neg]
  have ed : sgm sx a / sgm sy b = sgm sy (sgm sx a / b) := by
    unfold sgm
    cases sy
    · rfl
    · simp [Int.ediv_neg]
  have par : sgm sy (sgm sx a / b) % 2 = sgm sx a / b % 2 := by
    unfold sgm
    cases sy
    · rfl
    · simp
  rw [em, ed, par]
  unfold rs ov
  cases sx
  · show (if 2 * (a % b) > b ∨ (2 * (a % b) = b ∧ a / b % 2 > 0) then a % b - b else a % b) = _
    generalize a % b = r at *
    generalize a / b = q at *
    by_cases k : b - r < r ∨ (r = b - r ∧ q % 2 = 1)
    · rw [if_pos (by omega), decide_eq_true k, if_pos rfl]
      show _ = sgm (false != true) _
      unfold sgm
      simp; omega
    · rw [if_neg (by omega), decide_eq_false k, if_neg (by simp)]
      try rfl
  · show (if 2 * ((-a) % b) > b ∨ (2 * ((-a) % b) = b ∧ (-a) / b % 2 > 0) then (-a) % b - b else (-a) % b) = _
    -- the rest of what is turned
    have key : ((a % b = 0 ∧ (-a) % b = 0 ∧ (-a) / b = -(a / b)) ∨ (0 < a % b ∧ (-a) % b = b - a % b ∧ (-a) / b = -(a / b) - 1)) := by
      have g0 := Int.emod_nonneg (-a) (Int.ne_of_gt hb)
      have g1 := Int.emod_lt_of_pos (-a) hb
      have g2 := Int.mul_ediv_add_emod (-a) b
      generalize (-a) % b = r' at *
      generalize (-a) / b = q' at *
      generalize a % b = r at *
      generalize a / b = q at *
      have e : b * (q + q') = -(r + r') := by rw [Int.mul_add]; omega
      rcases Int.lt_trichotomy (q + q') 0 with k | k | k
      · right
        have : q + q' = -1 := by
          rcases Int.lt_or_le (q + q') (-1) with k2 | k2
          · exfalso
            have := Int.mul_le_mul_of_nonneg_left (show q + q' ≤ -2 by omega) (Int.le_of_lt hb)
            omega
          · omega
        rw [this] at e
        omega
      · left
        rw [k] at e
        omega
      · exfalso
        have := Int.mul_le_mul_of_nonneg_left (show 1 ≤ q + q' by omega) (Int.le_of_lt hb)
        omega
    rcases key with ⟨k0, k1, k2⟩ | ⟨k0, k1, k2⟩
    · rw [k0, k1, k2, if_neg (by omega)]
      have n1 : ¬ (b - 0 < 0 ∨ ((0 : Int) = b - 0 ∧ a / b % 2 = 1)) := by omega
      rw [decide_eq_false n1, if_neg (by simp)]
      rfl
    · rw [k1, k2]
      generalize a % b = r at *
      generalize a / b = q at *
      by_cases k : b - r < r ∨ (r = b - r ∧ q % 2 = 1)
      · rw [if_neg (by omega), decide_eq_true k, if_pos rfl]
        rfl
      · rw [if_pos (by omega), decide_eq_false k, if_neg (by simp)]
        show _ = sgm (true != false) _
        unfold sgm
        simp; omega
theorem sgm_mul3 (a : Bool) (X Y : Int) : sgm a X * Y = sgm a (X * Y) := by
  unfold sgm
  cases a <;> simp [Int.neg_mul]
theorem qv_of {M T : Nat} {w : World} {v : Value} {s : Int} (h : QS M T w v s) : ∃ z t, QV w v z t ∧ z.natAbs < 2 ^ M ∧ 0 ≤ t ∧ t ≤ T ∧ sc z (-t) = s := h
/-- level, by values -/
theorem level_s {M T M' T' : Nat} {u v : Value} {s s' : Int} {w : World} (h : QS M T w u s) (h' : QS M' T' w v s') (k1 : M ≤ 400000) (k2 : M' ≤ 400000) (k3 : T ≤ 50000) (k4 : T' ≤ 50000) :
    ∃ A B t, Calls Tryd.prog 37 #[u, v] w (RetLv w A B t) ∧ A.natAbs < 2 ^ (M + T') ∧ B.natAbs < 2 ^ (M' + T) ∧ 0 ≤ t ∧ t ≤ max T T' ∧ sc A (-t) = s ∧ sc B (-t) = s' := by
  obtain ⟨a, ta, q1, b1, c1, d1, e1⟩ := h
  obtain ⟨b, tb, q2, b2, c2, d2, e2⟩ := h'
  have L := level_c u v a b ta tb w q1 q2 (lt_big b1 (by omega) (by omega)) (lt_big b2 (by omega) (by omega)) (by omega) (by omega)
  have x1 := up_lt (tb := tb) (T := T') b1 c1 d2
  have x2 := up_lt (tb := ta) (T := T) b2 c2 d1
  have y1 := up_sc (a := a) (ta := ta) (tb := tb) (by omega)
  have y2 := up_sc (a := b) (ta := tb) (tb := ta) (by omega)
  rw [show max tb ta = max ta tb by omega] at y2
  refine ⟨QC.up a ta tb, QC.up b tb ta, max ta tb, ?_, x1, x2, by omega, by omega, by rw [y1, e1], by rw [y2, e2]⟩
  unfold QC.up
  rw [show max tb ta = max ta tb by omega]
  exact L
theorem sgm_abs {s : Bool} {a A t : Int} (ha : 0 ≤ a) (h : sc A (-t) = sgm s a) : A = sgm s (A.natAbs : Int) ∧ sc (A.natAbs : Int) (-t) = a := by
  have hE := sc_one_pos (-t)
  have e : sc A (-t) = A * sc 1 (-t) := sc_mul1 _ _
  have e2 : sc (A.natAbs : Int) (-t) = (A.natAbs : Int) * sc 1 (-t) := sc_mul1 _ _
  rw [e] at h
  rw [e2]
  generalize sc 1 (-t) = E at *
  unfold sgm at *
  cases s
  · simp at h ⊢
    have hA : 0 ≤ A := by
      rcases Int.lt_or_le A 0 with k | k
      · have := Int.mul_neg_of_neg_of_pos k hE; omega
      · exact k
    have : (A.natAbs : Int) = A := by omega
    rw [← this] at h
    refine ⟨by omega, ?_⟩
    first | exact h | (rw [← h]; simp)
  · simp at h ⊢
    have hA : A ≤ 0 := by
      rcases Int.lt_or_le 0 A with k | k
      · have := Int.mul_pos k hE; omega
      · exact k
    have : A = -(A.natAbs : Int) := by omega
    refine ⟨by omega, ?_⟩
    rw [this, Int.neg_mul] at h
    have h' : (A.natAbs : Int) * E = a := by omega
    first | exact h' | simpa using h'
/-- what is left, by Euclid's division of both numbers in the same unit -/
theorem ref_parts {x y A B t : Int} (fx : fi x) (fy : fi y) (vy : val y ≠ 0) (hA : sc A (-t) = val x) (hB : sc B (-t) = val y) : B ≠ 0 ∧ 0 ≤ A % B ∧ A % B < (B.natAbs : Int) ∧
    ∃ R : Int, ((2 * (A % B) > (B.natAbs : Int) ∨ (2 * (A % B) = (B.natAbs : Int) ∧ A / B % 2 > 0)) → R = A % B - (B.natAbs : Int)) ∧ (¬ (2 * (A % B) > (B.natAbs : Int) ∨ (2 * (A % B) = (B.natAbs : Int) ∧ A / B % 2 > 0)) → R = A % B) ∧
      (R = 0 → RM x y = rx (F.sgn x) 0) ∧ (R ≠ 0 → ∃ ρ s, sc R (-t) = sgm s (U ρ) ∧ 0 < U ρ ∧ 0 ≤ ρ ∧ ρ ≤ 9218868437227405311 ∧ RM x y = rx s ρ) := by
  rw [val_ab fx] at hA
  have hB' := hB
  rw [val_ab fy] at hB
  obtain ⟨eA, sA⟩ := sgm_abs (ab_nn x) hA
  obtain ⟨eB, sB⟩ := sgm_abs (ab_nn y) hB
  have hE := sc_one_pos (-t)
  have B0 : B ≠ 0 := by
    rintro rfl
    rw [sc_zero.2 rfl] at hB'
    exact vy hB'.symm
  have bp : 0 < (B.natAbs : Int) := by omega
  have m0 := Int.emod_nonneg A B0
  have m1 := Int.emod_lt A B0
  refine ⟨B0, m0, m1, ?_⟩
  have key := rem_ref (a := (A.natAbs : Int)) (b := (B.natAbs : Int)) (sx := F.sgn x) (sy := F.sgn y) (by omega) bp
  rw [← eA, ← eB] at key
  have sc1 := ov_scale (a := (A.natAbs : Int)) (b := (B.natAbs : Int)) hE
  rw [← sc_mul1, ← sc_mul1, sA, sB] at sc1
  obtain ⟨ρ, s, e, r0, r1, eU⟩ := RM_fi fx fy vy
  have cx := (fi_cls (fi_range fx)).1 fx
  have cy := (fi_cls (fi_range fy)).1 fy
  have cy1 : F.cls y ≠ 1 := fun h => vy ((val0 fy).2 h)
  have eRM : RM x y = if rs (ab x) (ab y) = 0 then rx (F.sgn x) 0 else rx (F.sgn x != ov (ab x) (ab y)) (tow (rs (ab x) (ab y))).1 := by
    unfold RM
    rw [if_neg (by omega), if_neg (by omega)]
  obtain ⟨R, hR⟩ : ∃ R, R = sgm (F.sgn x != ov (A.natAbs : Int) (B.natAbs : Int)) (rs (A.natAbs : Int) (B.natAbs : Int)) := ⟨_, rfl⟩
  rw [← hR] at key
  refine ⟨R, fun h => by rw [if_pos h] at key; exact key.symm, fun h => by rw [if_neg h] at key; exact key.symm, fun h => ?_, fun h => ?_⟩
  · rw [eRM, if_pos]
    rw [sc1.2]
    have : rs (A.natAbs : Int) (B.natAbs : Int) = 0 := by
      rw [hR] at h
      unfold sgm at h
      split at h <;> omega
    rw [this, Int.zero_mul]
  · have hrs : rs (A.natAbs : Int) (B.natAbs : Int) ≠ 0 := fun k => by
      rw [hR, k] at h
      unfold sgm at h
      split at h <;> exact absurd rfl h
    have bd := rs_bd (a := (A.natAbs : Int)) (b := (B.natAbs : Int)) (by omega) bp
    have up : 0 < U ρ := by
      rw [eU, sc1.2]
      exact Int.mul_pos (by omega) hE
    refine ⟨ρ, F.sgn x != ov (ab x) (ab y), ?_, up, r0, r1, ?_⟩
    · rw [eU, sc1.2, sc1.1, hR, sc_mul1, sgm_mul3]
    · rw [eRM, if_neg (by rw [← eU]; omega), ← eU, tow_eq (tow_exact r0 r1)]
end JC
end Go.Proofs.YtpmjeipdldnnbaaDoor
