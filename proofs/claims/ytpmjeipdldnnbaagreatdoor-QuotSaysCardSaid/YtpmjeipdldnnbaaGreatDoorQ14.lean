/-
  The reference's rounding: what Rounded tells with a part more or less is what Part tells.
-/
import Derived.Test.YtpmjeipdldnnbaaGreatDoorK12
namespace Go.Proofs.YtpmjeipdldnnbaaGreatDoor
set_option linter.unusedVariables false
set_option linter.unusedSimpArgs false
open Go.RowKit
set_option linter.unusedVariables false
set_option linter.unusedSimpArgs false
namespace QC
open Z (Nz Tz cmpv big)
open ZC DC RC
/-- the two neighbours, one of them told -/
theorem tell_pos {lo mode K : Int} {hf : Bool} (h0 : 0 ≤ lo) (hm : 0 ≤ mode ∧ mode ≤ 4) (hK : K = if hf = true then 1 else -1) : tellv (if upR mode K (lo + 1) false = true then lo + 1 else lo) false = rx false (ry false lo hf true mode) := by
  have hK2 : K = (if hf = true then (if true = true then 1 else 0) else -1) := by rw [hK]; cases hf <;> rfl
  rw [up_pos (r := lo) (hf := hf) (m := true) hm (by simp) hK2]
  unfold ry
  by_cases hu : RC.up false (decide (lo % 2 = 1)) hf true mode = true
  · rw [if_pos hu, tellv_pos (by omega)]
  · rw [if_neg hu, tellv_pos h0]
theorem tell_neg {r mode K : Int} {hf : Bool} (h0 : 0 ≤ r) (h1 : r ≤ 9218868437227405311) (hm : 0 ≤ mode ∧ mode ≤ 4) (hK : K = if hf = true then -1 else 1) : tellv (if upR mode K (-r) true = true then -r else -(r + 1)) true = rx true (ry true r hf true mode) := by
  have hK2 : K = -(if hf = true then (if true = true then 1 else 0) else -1) := by rw [hK]; cases hf <;> rfl
  rw [up_neg (r := r) (hf := hf) (m := true) hm (by simp) hK2]
  unfold ry
  by_cases hu : RC.up true (decide (r % 2 = 1)) hf true mode = true
  · rw [hu]
    simp only [Bool.not_true, Bool.false_eq_true, if_false, if_true]
    rw [tellv_neg (by omega) (by omega), Int.neg_neg]
  · rw [show RC.up true (decide (r % 2 = 1)) hf true mode = false by simpa using hu]
    simp only [Bool.not_false, if_true, Bool.false_eq_true, if_false]
    rw [tellv_neg (by omega) (by omega), Int.neg_neg]
theorem lR_part (s l more : Int) (h : more ≠ 0) : lR s l more = true := by unfold lR; simp [h]
theorem xR_part (s l more mode : Int) (h : more ≠ 0) : xR s l more mode = tellv (rkR s (loR s l more) more mode) (negR s more) := by
  unfold xR; rw [if_neg fun h2 => h h2.2]
/-- farther from 0 -/
theorem rounded_f {s r more mode : Int} {hf m : Bool} (t : Tow (sa s) r hf m) (hm : 0 ≤ mode ∧ mode ≤ 4) (hs : s ≠ 0) (hmo : more = if s < 0 then -1 else 1) : xR s (lw s r hf m) more mode = rx (decide (s < 0)) (ry (decide (s < 0)) r hf true mode) := by
  have r0 := t.r0
  have r1 := t.r1
  have e := exact_iff t
  have g := U_lt r0 (show r < r + 1 by omega)
  rw [xR_part _ _ _ _ (by rw [hmo]; split <;> omega)]
  by_cases h : s < 0
  · rw [if_pos h] at hmo
    subst hmo
    have ea : sa s = -s := by unfold sa; rw [if_pos h]
    have hn : negR s (-1) = true := by unfold negR; rw [decide_eq_true_iff]; exact .inl h
    have hlo : loR s (lw s r hf m) (-1) = -(r + 1) := by
      unfold loR
      rw [smR_lw t]
      unfold lw
      rw [if_pos h]
      by_cases he : hf = false ∧ m = false
      · rw [if_pos he, if_pos ⟨by rw [he.1, he.2]; rfl, by omega⟩]; omega
      · rw [if_neg he, if_neg fun h2 => he (by have := h2.1; cases hf <;> cases m <;> simp_all)]
    rw [hlo, hn, decide_eq_true h]
    unfold rkR KR
    rw [hn, show -(r + 1) + 1 = -r by omega, SV_neg (show 0 ≤ r + 1 by omega), SV_neg r0]
    have k2 : cmpv (s * 2) (-(U (r + 1)) + -(U r)) = -cmpv (sa s * 2) (U r + U (r + 1)) := by
      rw [← cmpv_neg, ea]; congr 1 <;> omega
    have k3 : (if cmpv (s * 2) (-(U (r + 1)) + -(U r)) = 0 then -1 else cmpv (s * 2) (-(U (r + 1)) + -(U r))) = if hf = true then -1 else 1 := by
      rw [k2]
      by_cases he : hf = false ∧ m = false
      · have := e.1 he
        rw [he.1, show cmpv (sa s * 2) (U r + U (r + 1)) = -1 from Z.cmpv_lt (by omega)]; rfl
      · rw [near_K t he]; cases hf <;> cases m <;> simp_all
    rw [k3]
    exact tell_neg r0 r1 hm rfl
  · rw [if_neg h] at hmo
    subst hmo
    have ea : sa s = s := by unfold sa; rw [if_neg h]
    have hn : negR s 1 = false := by unfold negR; rw [decide_eq_false_iff_not]; omega
    have hlo : loR s (lw s r hf m) 1 = r := by
      unfold loR lw
      rw [if_neg fun h2 => absurd h2.2 (by omega), if_neg h]
    rw [hlo, hn, decide_eq_false h]
    unfold rkR KR
    rw [hn, SV_pos r0, SV_pos (show 0 ≤ r + 1 by omega)]
    have k3 : (if cmpv (s * 2) (U r + U (r + 1)) = 0 then 1 else cmpv (s * 2) (U r + U (r + 1))) = if hf = true then 1 else -1 := by
      rw [← ea]
      by_cases he : hf = false ∧ m = false
      · have := e.1 he
        rw [he.1, show cmpv (sa s * 2) (U r + U (r + 1)) = -1 from Z.cmpv_lt (by omega)]; rfl
      · rw [near_K t he]; cases hf <;> cases m <;> simp_all
    rw [k3]
    exact tell_pos r0 hm rfl
end QC
end Go.Proofs.YtpmjeipdldnnbaaGreatDoor
