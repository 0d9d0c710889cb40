/-
  The reference's rounding: what Rounded tells with a part more or less is what Part tells.
-/
import Derived.Test.YtpmjeipdldnnbaaDoorK12
namespace Go.Proofs.YtpmjeipdldnnbaaDoor
set_option linter.unusedVariables false
set_option linter.unusedSimpArgs false
open Go.RowKit
set_option linter.unusedVariables false
set_option linter.unusedSimpArgs false
namespace QC
open Z (Nz Tz cmpv big)
open ZC DC RC
theorem sh_tiny1 {k : Int} (h : k ≤ -1) : sh 1 k = 0 ∧ lo 1 k = true := by
  unfold sh lo
  rw [if_neg (by omega), if_neg (by omega)]
  obtain ⟨n, hn⟩ : ∃ n : Nat, (-k).toNat = n + 1 := ⟨(-k).toNat - 1, by omega⟩
  rw [hn]
  have h1 : (1 : Int) < 2 ^ (n + 1) := by
    have := two_pos' n
    rw [Int.pow_succ]; omega
  rw [Int.ediv_eq_zero_of_lt (by omega) h1, Int.emod_eq_of_lt (by omega) h1]
  exact ⟨rfl, rfl⟩
theorem tow_tiny1 {x : Int} (hx : x = -10000) : Tow (sc 1 x) 0 false true := by
  have := (tow_near (z := 1) (x := x) (b := 1) (by omega) (by decide) (by decide) (by omega) (by omega) (u := -1074) (by omega)).2
  obtain ⟨e1, e2⟩ := sh_tiny1 (k := x - -1074 + 1) (by omega)
  rw [e1, e2] at this
  exact this
theorem PX_of1 {c d : Dy} {mode r : Int} {hf m : Bool} (h : PE c d mode = 0) (t : Tow (sc (az c d) (ax c d)) r hf m) : PX c d mode = rx (bz c d) (ry (bz c d) r hf m mode) ∧ PL c d mode = (hf || m) := by
  have e := tow_eq t
  unfold PX PL YY LL
  rw [if_pos h, if_pos h, e]
  exact ⟨rfl, rfl⟩
/-- the two neighbours, one of them told -/
theorem tell_pos {lo mode K : Int} {hf : Bool} (h0 : 0 ≤ lo) (hm : 0 ≤ mode ∧ mode ≤ 4) (hK : K = if hf = true then 1 else -1) : tellv (if upR mode K (lo + 1) false = true then lo + 1 else lo) false = rx false (ry false lo hf true mode) := by
  have hK2 : K = (if hf = true then (if true = true then 1 else 0) else -1) := by rw [hK]; cases hf <;> rfl
  rw [up_pos (r := lo) (hf := hf) (m := true) hm (by simp) hK2]
  unfold ry
  by_cases hu : RC.up false (decide (lo % 2 = 1)) hf true mode = true
  · rw [if_pos hu, tellv_pos (by omega)]
  · rw [if_neg hu, tellv_pos h0]
theorem tell_neg {r mode K : Int} {hf : Bool} (h0 : 0 ≤ r) (h1 : r ≤ 9218868437227405311) (hm : 0 ≤ mode ∧ mode ≤ 4) (hK : K = if hf = true then -1 else 1) : tellv (if upR mode K (-r) true = true then -r else -(r + 1)) true = rx true (ry true r hf true mode) := by
  have hK2 : K = -(if hf = true then (if true = true then 1 else 0) else -1) := by rw [hK]; cases hf <;> rfl
  rw [up_neg (r := r) (hf := hf) (m := true) hm (by simp) hK2]
  unfold ry
  by_cases hu : RC.up true (decide (r % 2 = 1)) hf true mode = true
  · rw [hu]
    simp only [Bool.not_true, Bool.false_eq_true, if_false, if_true]
    rw [tellv_neg (by omega) (by omega), Int.neg_neg]
  · rw [show RC.up true (decide (r % 2 = 1)) hf true mode = false by simpa using hu]
    simp only [Bool.not_false, if_true, Bool.false_eq_true, if_false]
    rw [tellv_neg (by omega) (by omega), Int.neg_neg]
theorem lR_part (s l more : Int) (h : more ≠ 0) : lR s l more = true := by unfold lR; simp [h]
theorem xR_part (s l more mode : Int) (h : more ≠ 0) : xR s l more mode = tellv (rkR s (loR s l more) more mode) (negR s more) := by
  unfold xR; rw [if_neg fun h2 => h h2.2]
/-- of 0 -/
theorem rounded_z {more mode : Int} (hm : 0 ≤ mode ∧ mode ≤ 4) (hmo : more = 1 ∨ more = -1) : xR 0 (lw 0 0 false false) more mode = rx (decide (more < 0)) (ry (decide (more < 0)) 0 false true mode) := by
  have hl : lw 0 0 false false = 0 := by unfold lw; rw [if_neg (by omega)]
  have t0 : Tow (sa 0) 0 false false := by unfold sa; rw [if_neg (by omega)]; exact tow_zero
  have hsm := smR_lw t0
  rw [hl] at hsm ⊢
  have p1 : 0 < U 1 := by have := U_lt (r := 0) (s := 1) (by omega) (by omega); rwa [U_zero] at this
  rw [xR_part _ _ _ _ (by omega)]
  rcases hmo with rfl | rfl
  · have hn : negR 0 1 = false := by unfold negR; decide
    have hlo : loR 0 0 1 = 0 := by unfold loR; rw [if_neg fun h => absurd h.2 (by omega)]
    rw [hlo, hn, show decide ((1 : Int) < 0) = false by decide]
    unfold rkR KR
    rw [hn, SV_pos (show (0 : Int) ≤ 0 by omega), SV_pos (show (0 : Int) ≤ 0 + 1 by omega), U_zero, show (0 : Int) + 1 = 1 by omega]
    have k : cmpv (0 * 2) (0 + U 1) = -1 := Z.cmpv_lt (by omega)
    rw [k]
    exact tell_pos (lo := 0) (hf := false) (by omega) hm rfl
  · have hn : negR 0 (-1) = true := by unfold negR; decide
    have hlo : loR 0 0 (-1) = -(0 + 1) := by unfold loR; rw [hsm, if_pos ⟨rfl, by omega⟩]; omega
    rw [hlo, hn, show decide ((-1 : Int) < 0) = true by decide]
    unfold rkR KR
    rw [hn, show -((0 : Int) + 1) + 1 = -0 by omega, SV_neg (show (0 : Int) ≤ 0 + 1 by omega), SV_neg (show (0 : Int) ≤ 0 by omega), U_zero, show (0 : Int) + 1 = 1 by omega]
    have k : cmpv (0 * 2) (-(U 1) + -0) = 1 := Z.cmpv_gt (by omega)
    rw [k]
    exact tell_neg (r := 0) (hf := false) (by omega) (by omega) hm rfl
/-- farther from 0 -/
theorem rounded_f {s r more mode : Int} {hf m : Bool} (t : Tow (sa s) r hf m) (hm : 0 ≤ mode ∧ mode ≤ 4) (hs : s ≠ 0) (hmo : more = if s < 0 then -1 else 1) : xR s (lw s r hf m) more mode = rx (decide (s < 0)) (ry (decide (s < 0)) r hf true mode) := by
  have r0 := t.r0
  have r1 := t.r1
  have e := exact_iff t
  have g := U_lt r0 (show r < r + 1 by omega)
  rw [xR_part _ _ _ _ (by rw [hmo]; split <;> omega)]
  by_cases h : s < 0
  · rw [if_pos h] at hmo
    subst hmo
    have ea : sa s = -s := by unfold sa; rw [if_pos h]
    have hn : negR s (-1) = true := by unfold negR; rw [decide_eq_true_iff]; exact .inl h
    have hlo : loR s (lw s r hf m) (-1) = -(r + 1) := by
      unfold loR
      rw [smR_lw t]
      unfold lw
      rw [if_pos h]
      by_cases he : hf = false ∧ m = false
      · rw [if_pos he, if_pos ⟨by rw [he.1, he.2]; rfl, by omega⟩]; omega
      · rw [if_neg he, if_neg fun h2 => he (by have := h2.1; cases hf <;> cases m <;> simp_all)]
    rw [hlo, hn, decide_eq_true h]
    unfold rkR KR
    rw [hn, show -(r + 1) + 1 = -r by omega, SV_neg (show 0 ≤ r + 1 by omega), SV_neg r0]
    have k2 : cmpv (s * 2) (-(U (r + 1)) + -(U r)) = -cmpv (sa s * 2) (U r + U (r + 1)) := by
      rw [← cmpv_neg, ea]; congr 1 <;> omega
    have k3 : (if cmpv (s * 2) (-(U (r + 1)) + -(U r)) = 0 then -1 else cmpv (s * 2) (-(U (r + 1)) + -(U r))) = if hf = true then -1 else 1 := by
      rw [k2]
      by_cases he : hf = false ∧ m = false
      · have := e.1 he
        rw [he.1, show cmpv (sa s * 2) (U r + U (r + 1)) = -1 from Z.cmpv_lt (by omega)]; rfl
      · rw [near_K t he]; cases hf <;> cases m <;> simp_all
    rw [k3]
    exact tell_neg r0 r1 hm rfl
  · rw [if_neg h] at hmo
    subst hmo
    have ea : sa s = s := by unfold sa; rw [if_neg h]
    have hn : negR s 1 = false := by unfold negR; rw [decide_eq_false_iff_not]; omega
    have hlo : loR s (lw s r hf m) 1 = r := by
      unfold loR lw
      rw [if_neg fun h2 => absurd h2.2 (by omega), if_neg h]
    rw [hlo, hn, decide_eq_false h]
    unfold rkR KR
    rw [hn, SV_pos r0, SV_pos (show 0 ≤ r + 1 by omega)]
    have k3 : (if cmpv (s * 2) (U r + U (r + 1)) = 0 then 1 else cmpv (s * 2) (U r + U (r + 1))) = if hf = true then 1 else -1 := by
      rw [← ea]
      by_cases he : hf = false ∧ m = false
      · have := e.1 he
        rw [he.1, show cmpv (sa s * 2) (U r + U (r + 1)) = -1 from Z.cmpv_lt (by omega)]; rfl
      · rw [near_K t he]; cases hf <;> cases m <;> simp_all
    rw [k3]
    exact tell_pos r0 hm rfl
/-- nearer to 0 -/
theorem rounded_n {s r more mode : Int} {hf m : Bool} (t : Tow (sa s) r hf m) (hm : 0 ≤ mode ∧ mode ≤ 4) (hs : s ≠ 0) (hmo : more = if s < 0 then 1 else -1) : xR s (lw s r hf m) more mode = rx (decide (s < 0)) (ry (decide (s < 0)) (dnr r hf m) (dnh hf m) true mode) := by
  have r0 := t.r0
  have r1 := t.r1
  have e := exact_iff t
  have hp : 0 < sa s := by unfold sa; split <;> omega
  rw [xR_part _ _ _ _ (by rw [hmo]; split <;> omega)]
  by_cases he : hf = false ∧ m = false
  · have hx := e.1 he
    obtain ⟨rfl, rfl⟩ := he
    have hr : 0 < r := by
      rcases Int.lt_or_eq_of_le r0 with h | h
      · exact h
      · rw [← h, U_zero] at hx; omega
    obtain ⟨q, rfl⟩ : ∃ q, r = q + 1 := ⟨r - 1, by omega⟩
    have g := U_lt (show 0 ≤ q by omega) (show q < q + 1 by omega)
    have ed : dnr (q + 1) false false = q := by unfold dnr; rw [if_pos ⟨rfl, rfl⟩]; omega
    have eh : dnh false false = true := rfl
    rw [ed, eh]
    by_cases h : s < 0
    · rw [if_pos h] at hmo
      subst hmo
      have ea : sa s = -s := by unfold sa; rw [if_pos h]
      have hn : negR s 1 = true := by unfold negR; rw [decide_eq_true_iff]; exact .inl h
      have hlo : loR s (lw s (q + 1) false false) 1 = -(q + 1) := by
        unfold loR lw
        rw [if_neg fun h2 => absurd h2.2 (by omega), if_pos h, if_pos ⟨rfl, rfl⟩]
      rw [hlo, hn, decide_eq_true h]
      unfold rkR KR
      rw [hn, show -(q + 1) + 1 = -q by omega, SV_neg (show 0 ≤ q + 1 by omega), SV_neg (show 0 ≤ q by omega)]
      rw [show cmpv (s * 2) (-(U (q + 1)) + -(U q)) = -1 from Z.cmpv_lt (by omega)]
      exact tell_neg (r := q) (hf := true) (by omega) (by omega) hm rfl
    · rw [if_neg h] at hmo
      subst hmo
      have ea : sa s = s := by unfold sa; rw [if_neg h]
      have hn : negR s (-1) = false := by unfold negR; rw [decide_eq_false_iff_not]; omega
      have hlo : loR s (lw s (q + 1) false false) (-1) = q := by
        unfold loR
        rw [smR_lw t]
        unfold lw
        rw [if_neg h, if_pos ⟨rfl, by omega⟩]; omega
      rw [hlo, hn, decide_eq_false h]
      unfold rkR KR
      rw [hn, SV_pos (show 0 ≤ q by omega), SV_pos (show 0 ≤ q + 1 by omega)]
      rw [show cmpv (s * 2) (U q + U (q + 1)) = 1 from Z.cmpv_gt (by omega)]
      exact tell_pos (lo := q) (hf := true) (by omega) hm rfl
  · have ed : dnr r hf m = r := by unfold dnr; rw [if_neg he]
    have eh : (if hf = true then (if m = true then (1 : Int) else 0) else -1) = (if dnh hf m = true then 1 else if hf = true then 0 else -1) ∧ (dnh hf m = true → hf = true ∧ m = true) := by
      unfold dnh; cases hf <;> cases m <;> simp_all
    have nk := near_K t he
    rw [ed]
    by_cases h : s < 0
    · rw [if_pos h] at hmo
      subst hmo
      have ea : sa s = -s := by unfold sa; rw [if_pos h]
      have hn : negR s 1 = true := by unfold negR; rw [decide_eq_true_iff]; exact .inl h
      have hlo : loR s (lw s r hf m) 1 = -(r + 1) := by
        unfold loR lw
        rw [if_neg fun h2 => absurd h2.2 (by omega), if_pos h, if_neg he]
      rw [hlo, hn, decide_eq_true h]
      unfold rkR KR
      rw [hn, show -(r + 1) + 1 = -r by omega, SV_neg (show 0 ≤ r + 1 by omega), SV_neg r0]
      have k2 : cmpv (s * 2) (-(U (r + 1)) + -(U r)) = -cmpv (sa s * 2) (U r + U (r + 1)) := by
        rw [← cmpv_neg, ea]; congr 1 <;> omega
      have k3 : (if cmpv (s * 2) (-(U (r + 1)) + -(U r)) = 0 then 1 else cmpv (s * 2) (-(U (r + 1)) + -(U r))) = if dnh hf m = true then -1 else 1 := by
        rw [k2, nk]; unfold dnh; clear k2 nk eh e; cases hf <;> cases m <;> simp_all
      rw [k3]
      exact tell_neg r0 r1 hm rfl
    · rw [if_neg h] at hmo
      subst hmo
      have ea : sa s = s := by unfold sa; rw [if_neg h]
      have hn : negR s (-1) = false := by unfold negR; rw [decide_eq_false_iff_not]; omega
      have hlo : loR s (lw s r hf m) (-1) = r := by
        unfold loR
        rw [smR_lw t]
        unfold lw
        rw [if_neg h, if_neg fun h2 => he (by have := h2.1; cases hf <;> cases m <;> simp_all)]
      rw [hlo, hn, decide_eq_false h]
      unfold rkR KR
      rw [hn, SV_pos r0, SV_pos (show 0 ≤ r + 1 by omega)]
      have k3 : (if cmpv (s * 2) (U r + U (r + 1)) = 0 then -1 else cmpv (s * 2) (U r + U (r + 1))) = if dnh hf m = true then 1 else -1 := by
        rw [← ea, nk]; unfold dnh; clear nk eh e; cases hf <;> cases m <;> simp_all
      rw [k3]
      exact tell_pos r0 hm rfl
end QC
end Go.Proofs.YtpmjeipdldnnbaaDoor
