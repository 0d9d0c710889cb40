/-
  Package grow, pure: the side of three points by Dyads: nothing overflows, and the sign is right.
-/
import Derived.Test.YtelblhgagpkjmaaDoorE20
namespace Go.Proofs.YtelblhgagpkjmaaDoor
set_option linter.unusedVariables false
set_option linter.unusedSimpArgs false
open Go.RowKit
set_option linter.unusedVariables false
set_option linter.unusedSimpArgs false
namespace XC
open L NC NK DC RC SC PC QC IC
open Z (cmpv)
/-- not too far: no more than 2^400 -/
theorem near_sz {x H : Int} (fx : fi x) (h : ¬ gFr x) (hH : H = sc 1 400) : val x ≤ H ∧ -H ≤ val x := by
  obtain ⟨f2, v2, s2, c2⟩ := pow_val (p := 6408622269748215808) (k := 400) (by omega) (by omega) (by omega)
  have e2 : U 6408622269748215808 = H := by
    have := val_eq f2
    rw [s2, v2] at this
    rw [hH, this]; rfl
  have hm : 0 ≤ x % 9223372036854775808 := by omega
  have hp : 0 < H := by rw [hH]; exact sc_one_pos _
  have hU : U (x % 9223372036854775808) ≤ H := by
    unfold gFr at h
    by_cases q : x % 9223372036854775808 = 0
    · rw [q, U_zero]; omega
    · have : x % 9223372036854775808 ≤ 6408622269748215808 := by
        rcases Int.lt_or_le 6408622269748215808 (x % 9223372036854775808) with g | g
        · exact absurd ⟨q, .inr g⟩ h
        · exact g
      have := U_le hm this
      omega
  have u0 := U_pos hm
  have vv := val_eq fx
  unfold sgm at vv
  split at vv <;> omega
theorem S_neg' (d : Dy) : S (neg d) = -S d := by
  unfold S neg
  show sc (-d.m) d.x = _
  rw [sc_mul1, sc_mul1 d.m, Int.neg_mul]
/-- the difference of two that aren't too far is exact -/
theorem dif_d {x y : Int} (fx : fi x) (fy : fi y) (hx : ¬ gFr x) (hy : ¬ gFr y) : (DC.Sub (OfD x).d (OfD y).d).e = 0 ∧ Fit (DC.Sub (OfD x).d (OfD y).d).d 1 ∧ S (DC.Sub (OfD x).d (OfD y).d).d = val x - val y := by
  obtain ⟨H, hH⟩ : ∃ H, H = sc 1 400 := ⟨_, rfl⟩
  have bx := near_sz fx hx hH
  have b_y := near_sz fy hy hH
  have a := (of_fit fx).2
  have b := (of_fit fy).2
  have nb : Fit (neg (OfD y).d) 1 := ⟨neg_ok b.ok, b.x, by rw [S_neg']; have := b.lo; omega, by rw [S_neg']; have := b.hi; omega⟩
  have e : DC.Sub (OfD x).d (OfD y).d = DC.Add (OfD x).d (neg (OfD y).d) := rfl
  obtain ⟨c1, c2, c3⟩ := add_fit a nb (by omega)
  rw [← e] at c1 c2 c3
  rw [S_neg'] at c3
  have c3 : S (DC.Sub (OfD x).d (OfD y).d).d = val x - val y := by rw [c3]; show val x + -(val y) = _; omega
  have d2 := sc_two 1 400 (by omega)
  rw [sc_mul1, show (2 : Int) ^ 1 = 2 by decide, ← hH] at d2
  have d3 := sc1_le (x := 400 + ((1 : Nat) : Int)) (y := 1024) (by omega) (by omega)
  refine ⟨c1, ⟨c2.ok, c2.x, ?_, ?_⟩, c3⟩ <;> rw [c3] <;> omega
/-- the sign of the surface -/
theorem turn_p {ax ay bx b_y cx cy : Int} (hf : ∀ x ∈ [ax, ay, bx, b_y, cx, cy], fi x) (hn : ∀ x ∈ [ax, ay, bx, b_y, cx, cy], ¬ gFr x) :
    let d := fun x y => (DC.Sub (OfD x).d (OfD y).d).d
    (DC.Mul (d ax cx) (d b_y cy)).e = 0 ∧ Ok (DC.Mul (d ax cx) (d b_y cy)).d ∧ (DC.Mul (d ay cy) (d bx cx)).e = 0 ∧ Ok (DC.Mul (d ay cy) (d bx cx)).d ∧ Cmpn (DC.Mul (d ax cx) (d b_y cy)).d (DC.Mul (d ay cy) (d bx cx)).d = cmpv (gDet ax ay bx b_y cx cy) 0 := by
  intro d
  have q : ∀ x y, x ∈ [ax, ay, bx, b_y, cx, cy] → y ∈ [ax, ay, bx, b_y, cx, cy] → Fit (d x y) 1 ∧ S (d x y) = val x - val y := fun x y h1 h2 => (dif_d (hf x h1) (hf y h2) (hn x h1) (hn y h2)).2
  obtain ⟨f1, s1⟩ := q ax cx (by simp) (by simp)
  obtain ⟨f2, s2⟩ := q b_y cy (by simp) (by simp)
  obtain ⟨f3, s3⟩ := q ay cy (by simp) (by simp)
  obtain ⟨f4, s4⟩ := q bx cx (by simp) (by simp)
  obtain ⟨K, hK⟩ : ∃ K : Nat, K = 60000 := ⟨_, rfl⟩
  obtain ⟨m1, m2, m3⟩ := mul_fit f1 f2 hK
  obtain ⟨n1, n2, n3⟩ := mul_fit f3 f4 hK
  refine ⟨m1, m2.ok, n1, n2.ok, ?_⟩
  rw [cmpn_S m2.ok n2.ok]
  rw [s1, s2] at m3
  rw [s3, s4] at n3
  unfold gDet
  have h := two_pos' K
  rw [← m3, ← n3, ← Int.sub_mul]
  generalize (2 : Int) ^ K = P at *
  generalize S (DC.Mul (d ax cx) (d b_y cy)).d = u at *
  generalize S (DC.Mul (d ay cy) (d bx cx)).d = v at *
  unfold cmpv
  rcases Int.lt_trichotomy u v with g | g | g
  · have := Int.mul_neg_of_neg_of_pos (show u - v < 0 by omega) h
    rw [if_pos g, if_pos this]
  · subst g
    simp
  · have := Int.mul_pos (show 0 < u - v by omega) h
    rw [if_neg (by omega), if_pos g, if_neg (by omega), if_pos this]
end XC
end Go.Proofs.YtelblhgagpkjmaaDoor
