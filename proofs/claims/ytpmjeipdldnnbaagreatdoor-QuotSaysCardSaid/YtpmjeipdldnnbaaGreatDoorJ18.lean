/-
  The document's quotient, pure; turned in place.
-/
import Derived.Test.YtpmjeipdldnnbaaGreatDoorJ10
import Derived.Test.YtpmjeipdldnnbaaGreatDoorQ15
import Derived.Test.YtpmjeipdldnnbaaGreatDoorK13
namespace Go.Proofs.YtpmjeipdldnnbaaGreatDoor
set_option linter.unusedVariables false
set_option linter.unusedSimpArgs false
open Go.RowKit
set_option linter.unusedVariables false
set_option linter.unusedSimpArgs false
namespace JC
open Z (Nz Tz cmpv big)
open L ZC DC RC QC SC VC PC
theorem sgm_ab {s : Bool} {a A t : Int} (ha : 0 ≤ a) (h : sc A (-t) = sgm s a) : A = sgm s (A.natAbs : Int) ∧ sc (A.natAbs : Int) (-t) = a := by
  have hE := sc_one_pos (-t)
  have e : sc A (-t) = A * sc 1 (-t) := sc_mul1 _ _
  have e2 : sc (A.natAbs : Int) (-t) = (A.natAbs : Int) * sc 1 (-t) := sc_mul1 _ _
  rw [e] at h
  rw [e2]
  generalize sc 1 (-t) = E at *
  unfold sgm at *
  cases s
  · simp at h ⊢
    have hA : 0 ≤ A := by
      rcases Int.lt_or_le A 0 with k | k
      · have := Int.mul_neg_of_neg_of_pos k hE; omega
      · exact k
    have : (A.natAbs : Int) = A := by omega
    rw [← this] at h
    refine ⟨by omega, ?_⟩
    first | exact h | (rw [← h]; simp)
  · simp at h ⊢
    have hA : A ≤ 0 := by
      rcases Int.lt_or_le 0 A with k | k
      · have := Int.mul_pos k hE; omega
      · exact k
    have : A = -(A.natAbs : Int) := by omega
    refine ⟨by omega, ?_⟩
    rw [this, Int.neg_mul] at h
    have h' : (A.natAbs : Int) * E = a := by omega
    first | exact h' | simpa using h'
theorem quot_ref {x y A B t mode : Int} {E : Nat} (hE : E = 2400) (hm : 0 ≤ mode ∧ mode ≤ 4) (fx : fi x) (fy : fi y) (vx : val x ≠ 0) (vy : val y ≠ 0) (hA : sc A (-t) = val x) (hB : sc B (-t) = val y) (t0 : 0 ≤ t) (t1 : t ≤ 1100) {M : Nat} (hM : M = 3300) (bA : A.natAbs < 2 ^ M) :
    decide (A < 0) = F.sgn x ∧ decide (B < 0) = F.sgn y ∧ B ≠ 0 ∧ 0 < (B.natAbs : Int) ∧ ((A.natAbs : Int) * 2 ^ E / (B.natAbs : Int)).natAbs < 2 ^ (M + E) ∧ 0 ≤ (A.natAbs : Int) * 2 ^ E % (B.natAbs : Int) ∧ (A.natAbs : Int) * 2 ^ E % (B.natAbs : Int) < (B.natAbs : Int) ∧
    ∃ r hf m, Tow (sc ((A.natAbs : Int) * 2 ^ E / (B.natAbs : Int)) (-(E : Int))) r hf m ∧ 0 < sc ((A.natAbs : Int) * 2 ^ E / (B.natAbs : Int)) (-(E : Int)) ∧
      DT x y mode = (rx (F.sgn x != F.sgn y) (ry (F.sgn x != F.sgn y) r hf (m || decide (0 < (A.natAbs : Int) * 2 ^ E % (B.natAbs : Int))) mode), hf || (m || decide (0 < (A.natAbs : Int) * 2 ^ E % (B.natAbs : Int))), 0) := by
  rw [val_ab fx] at hA
  rw [val_ab fy] at hB
  have px := ab_pos fx vx
  have py := ab_pos fy vy
  obtain ⟨eA, sA⟩ := sgm_ab (ab_nn x) hA
  obtain ⟨eB, sB⟩ := sgm_ab (ab_nn y) hB
  have hp := sc_one_pos (-t)
  have A0 : 0 < (A.natAbs : Int) := by
    rcases Int.lt_or_le 0 (A.natAbs : Int) with k | k
    · exact k
    · have : (A.natAbs : Int) = 0 := by omega
      rw [this, sc_zero.2 rfl] at sA
      omega
  have B0 : 0 < (B.natAbs : Int) := by
    rcases Int.lt_or_le 0 (B.natAbs : Int) with k | k
    · exact k
    · have : (B.natAbs : Int) = 0 := by omega
      rw [this, sc_zero.2 rfl] at sB
      omega
  have dA : decide (A < 0) = F.sgn x := by
    rw [eA]
    unfold sgm
    cases F.sgn x
    · simp <;> omega
    · simp <;> omega
  have dB : decide (B < 0) = F.sgn y := by
    rw [eB]
    unfold sgm
    cases F.sgn y
    · simp <;> omega
    · simp <;> omega
  obtain ⟨o1, X1, -, a1, -, -, a3, -, a5⟩ := of_parts fx vx
  obtain ⟨o2, X2, -, b1, b2, -, b3, b4, b5⟩ := of_parts fy vy
  obtain ⟨a, ha⟩ : ∃ a, (A.natAbs : Int) = a := ⟨_, rfl⟩
  obtain ⟨b, hb⟩ : ∃ b, (B.natAbs : Int) = b := ⟨_, rfl⟩
  rw [ha] at sA A0 ⊢
  rw [hb] at sB B0 ⊢
  obtain ⟨L, hL⟩ : ∃ L, a * 2 ^ E = L := ⟨_, rfl⟩
  rw [hL]
  have hLp : 0 < L := by rw [← hL]; exact Int.mul_pos A0 (two_pos' E)
  have m0 := Int.emod_nonneg L (Int.ne_of_gt B0)
  have m1 := Int.emod_lt_of_pos L B0
  have md := Int.mul_ediv_add_emod L b
  obtain ⟨q, hq⟩ : ∃ q, L / b = q := ⟨_, rfl⟩
  obtain ⟨rm, hr⟩ : ∃ r, L % b = r := ⟨_, rfl⟩
  rw [hq, hr] at md
  rw [hr] at m0 m1
  rw [hq, hr]
  have eN : ab x = sc L (-(E : Int) + -t) := by
    rw [← hL, sc_shift _ _ _ (by omega), ← sA]
    congr 1; omega
  -- not too small
  have q0 : 0 < q := by
    have lx : sc 1 (-1074) ≤ ab x := by
      rw [a5]
      exact Int.le_trans (sc1_le a3 (by omega)) (sc_le.2 (by omega))
    have ly : ab y ≤ sc 1 1100 := by
      rw [b5]
      have p53 : (2 : Int) ^ 53 = 9007199254740992 := by decide
      have e53 : sc o2 X2 ≤ sc (2 ^ 53) X2 := sc_le.2 (by omega)
      rw [sc_two 53 X2 (by omega)] at e53
      exact Int.le_trans e53 (sc1_le (by omega) (by omega))
    have hLb : b ≤ L := by
      have e1 : sc L (-t) = L * sc 1 (-t) := sc_mul1 _ _
      have e2 : sc L (-t) = ab x * 2 ^ E := by
        rw [eN]
        have h := sc_shift L (-(E : Int) + -t) E (by omega)
        rw [show -(E : Int) + -t + (E : Int) = -t by omega] at h
        rw [← h, sc_mul1 (L * 2 ^ E), sc_mul1 L]
        grind
      have e3 : sc 1 1100 ≤ ab x * 2 ^ E := by
        have := sc_two E (-1074) (by omega)
        rw [sc_mul1] at this
        have k1 := Int.mul_le_mul_of_nonneg_right lx (Int.le_of_lt (two_pos' E))
        rw [Int.mul_comm, this] at k1
        exact Int.le_trans (sc1_le (by omega) (by omega)) k1
      have e4 : sc b (-t) ≤ sc L (-t) := by rw [sB, e2]; omega
      exact sc_le.1 e4
    rw [← hq]
    have := (Int.le_ediv_iff_mul_le (a := 1) (b := L) B0).2 (by omega)
    omega
  have q1 : q ≤ L := by
    have := Int.mul_le_mul_of_nonneg_right (show 1 ≤ b by omega) (Int.le_of_lt q0)
    omega
  have hLn : L.natAbs < 2 ^ (M + E) := by
    rw [← hL, Int.natAbs_mul, Int.natAbs_pow, Nat.pow_add]
    have : a.natAbs < 2 ^ M := by omega
    exact Nat.mul_lt_mul_of_pos_right this (Nat.pow_pos (by decide))
  have qn : q.natAbs < 2 ^ (M + E) := by omega
  have q400 : q < 4294967296 ^ 400 := by
    have e : (4294967296 : Int) = 2 ^ 32 := by decide
    rw [e, ← Int.pow_mul]
    have h1 : q < 2 ^ (M + E) := by
      have h2 : ((q.natAbs : Nat) : Int) < ((2 ^ (M + E) : Nat) : Int) := by exact_mod_cast qn
      rw [Int.natCast_pow] at h2
      have h3 : (q.natAbs : Int) = q := by omega
      rw [h3] at h2
      exact h2
    exact Int.lt_trans h1 (two_lt' (by omega))
  obtain ⟨r, hf, m, tw⟩ := tow_ex (z := q) (x := -(E : Int)) (by omega) q400 (by omega)
  have dl := div_le (N := ab x * 2 ^ KN) (D := ab y) (o := b) (X := -t) (L := L) (f := -(E : Int) + -t) (z := q) (e := -(E : Int)) (by omega) (by omega) rfl sB.symm (by rw [eN])
  have dl2 := div_le (N := ab x * 2 ^ KN) (D := ab y) (o := b) (X := -t) (L := L) (f := -(E : Int) + -t) (z := q + 1) (e := -(E : Int)) (by omega) (by omega) rfl sB.symm (by rw [eN])
  have tg : Tog (qle (ab x * 2 ^ KN) (ab y)) (qlt (ab x * 2 ^ KN) (ab y)) r hf (m || decide (0 < rm)) := by
    apply tog_near (qcut py) (by omega) q0 q400 (.inr (by omega)) tw
    · exact dl.1.2 (by rw [Int.mul_comm]; omega)
    · rw [two_sc]
      intro k
      have := dl2.1.1 k
      rw [Int.add_mul, Int.one_mul, Int.mul_comm q] at this
      omega
    · rw [decide_eq_true_iff, dl.2, Int.mul_comm q]
      omega
  refine ⟨dA, dB, by omega, B0, qn, m0, m1, r, hf, m, tw, ?_, ?_⟩
  · rw [sc_mul1]; exact Int.mul_pos q0 (sc_one_pos _)
  · rw [DT_fi hm ((qc_no (fi_range fx) (fi_range fy)).2 ⟨fx, fy, vx, vy⟩), RT_of (qcut py) tg]
end JC
end Go.Proofs.YtpmjeipdldnnbaaGreatDoor
