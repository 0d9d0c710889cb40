/-
  Texts glued together for a claim: Q12 Q13.
-/
import Derived.Test.YtelblhgagpkjmaaGreatDoorF19
/-
  The reference's rounding: what Rounded tells is what To and Part tell.
-/
namespace Go.Proofs.YtelblhgagpkjmaaGreatDoor
set_option linter.unusedVariables false
set_option linter.unusedSimpArgs false
open Go.RowKit
set_option linter.unusedVariables false
set_option linter.unusedSimpArgs false
namespace QC
open Z (Nz Tz cmpv big)
open ZC DC RC
theorem tellv_pos {n : Int} (h : 0 ≤ n) : tellv n false = rx false n := by
  unfold tellv rx F.num
  rw [if_neg (by simp), if_neg (by omega)]
  rfl
theorem tellv_neg {n : Int} (h : n ≤ 0) (h' : -9218868437227405312 ≤ n) : tellv n true = rx true (-n) := by
  unfold tellv rx F.num F.neg
  simp only [and_true, if_true]
  by_cases h0 : n = 0
  · subst h0; rfl
  · rw [if_neg h0, if_pos (by omega), if_pos (by omega)]; omega
theorem smR_lw {s r : Int} {hf m : Bool} (t : Tow (sa s) r hf m) : smR s (lw s r hf m) = (!hf && !m) := by
  unfold smR
  have := lw_same t
  by_cases h : hf = false ∧ m = false
  · rw [decide_eq_true (this.1 h)]
    obtain ⟨rfl, rfl⟩ := h; rfl
  · rw [decide_eq_false (fun h2 => h (this.2 h2))]
    cases hf <;> cases m <;> simp_all
theorem loR_bd {s r more : Int} {hf m : Bool} (t : Tow (sa s) r hf m) : -9218868437227405312 ≤ loR s (lw s r hf m) more := by
  have h := (lw_low t).1
  unfold loR
  split
  · rename_i h2
    have := h2.1
    unfold smR at this
    rw [decide_eq_true_iff] at this
    omega
  · exact h
/-- how twice it stands to both together -/
theorem near_K {a r : Int} {hf m : Bool} (t : Tow a r hf m) (he : ¬ (hf = false ∧ m = false)) : cmpv (a * 2) (U r + U (r + 1)) = (if hf = true then (if m = true then 1 else 0) else -1) := by
  have e := exact_iff t
  have h1 := t.hh
  have h2 := t.hm
  have hne : a ≠ U r := fun h => he (e.2 h)
  generalize U r = u0 at *
  generalize U (r + 1) = u1 at *
  rcases cmpv3 (a * 2) (u0 + u1) with ⟨k, hk⟩ | ⟨k, hk⟩ | ⟨k, hk⟩ <;> rw [k]
  · have : hf = false := by rw [h1, decide_eq_false_iff_not]; omega
    rw [this]; rfl
  · have g1 : hf = true := by rw [h1, decide_eq_true_iff]; omega
    have g2 : m = false := by rw [h2, decide_eq_false_iff_not]; omega
    rw [g1, g2]; rfl
  · have g1 : hf = true := by rw [h1, decide_eq_true_iff]; omega
    have g2 : m = true := by rw [h2, decide_eq_true_iff]; omega
    rw [g1, g2]; rfl
theorem tmod_odd (x : Int) : decide (x.tmod 2 = 0) = decide (x % 2 = 0) := by
  apply decide_eq_decide.2
  rcases td2 x with h | h <;> omega
theorem up_pos {r mode K : Int} {hf m : Bool} (hm : 0 ≤ mode ∧ mode ≤ 4) (he : ¬ (hf = false ∧ m = false)) (hK : K = (if hf = true then (if m = true then 1 else 0) else -1)) : upR mode K (r + 1) false = RC.up false (decide (r % 2 = 1)) hf m mode := by
  unfold upR RC.up
  rw [if_neg he, tmod_odd, show decide ((r + 1) % 2 = 0) = decide (r % 2 = 1) by apply decide_eq_decide.2; omega]
  generalize decide (r % 2 = 1) = o
  subst hK
  have : mode = 0 ∨ mode = 1 ∨ mode = 2 ∨ mode = 3 ∨ mode = 4 := by omega
  rcases this with rfl | rfl | rfl | rfl | rfl <;> cases hf <;> cases m <;> cases o <;> first | rfl | simp_all
theorem up_neg {r mode K : Int} {hf m : Bool} (hm : 0 ≤ mode ∧ mode ≤ 4) (he : ¬ (hf = false ∧ m = false)) (hK : K = -(if hf = true then (if m = true then 1 else 0) else -1)) : upR mode K (-r) true = !RC.up true (decide (r % 2 = 1)) hf m mode := by
  unfold upR RC.up
  rw [if_neg he, tmod_odd, show decide (-r % 2 = 0) = !decide (r % 2 = 1) by
    by_cases h : r % 2 = 1
    · rw [decide_eq_true h, decide_eq_false (by omega)]; rfl
    · rw [decide_eq_false h, decide_eq_true (by omega)]; rfl]
  generalize decide (r % 2 = 1) = o
  subst hK
  have : mode = 0 ∨ mode = 1 ∨ mode = 2 ∨ mode = 3 ∨ mode = 4 := by omega
  rcases this with rfl | rfl | rfl | rfl | rfl <;> cases hf <;> cases m <;> cases o <;> first | rfl | simp_all
end QC
end Go.Proofs.YtelblhgagpkjmaaGreatDoor

/-
  The reference's rounding: what Rounded tells is what To tells.
-/
namespace Go.Proofs.YtelblhgagpkjmaaGreatDoor
set_option linter.unusedVariables false
set_option linter.unusedSimpArgs false
open Go.RowKit
set_option linter.unusedVariables false
set_option linter.unusedSimpArgs false
namespace QC
open Z (Nz Tz cmpv big)
open ZC DC RC
theorem SV_neg {r : Int} (h : 0 ≤ r) : SV (-r) = -(U r) := by
  unfold SV
  by_cases h0 : r = 0
  · subst h0; rw [if_neg (by omega), show (-0 : Int) = 0 from rfl, U_zero]; rfl
  · rw [if_pos (by omega), Int.neg_neg]
theorem SV_pos {r : Int} (h : 0 ≤ r) : SV r = U r := by unfold SV; rw [if_neg (by omega)]
theorem cmpv_neg (x y : Int) : cmpv (-x) (-y) = -cmpv x y := by
  rcases cmpv3 x y with ⟨k, hk⟩ | ⟨k, hk⟩ | ⟨k, hk⟩ <;> rcases cmpv3 (-x) (-y) with ⟨k', hk'⟩ | ⟨k', hk'⟩ | ⟨k', hk'⟩ <;> rw [k, k'] <;> omega
theorem rounded_0 {s r mode : Int} {hf m : Bool} (t : Tow (sa s) r hf m) (hm : 0 ≤ mode ∧ mode ≤ 4) : xR s (lw s r hf m) 0 mode = rx (decide (s < 0)) (ry (decide (s < 0)) r hf m mode) ∧ lR s (lw s r hf m) 0 = (hf || m) := by
  have r0 := t.r0
  have r1 := t.r1
  have e := exact_iff t
  unfold xR lR
  rw [smR_lw t]
  by_cases he : hf = false ∧ m = false
  · have ea := e.1 he
    obtain ⟨rfl, rfl⟩ := he
    rw [if_pos ⟨rfl, rfl⟩, ry_none]
    refine ⟨?_, rfl⟩
    unfold lw
    by_cases hs : s < 0
    · rw [if_pos hs, if_pos ⟨rfl, rfl⟩, decide_eq_true hs]
      have hr : r ≠ 0 := by
        rintro rfl
        rw [U_zero] at ea
        unfold sa at ea
        rw [if_pos hs] at ea
        omega
      unfold F.num rx F.neg
      rw [if_pos (by omega), if_pos rfl, if_pos (by omega)]; omega
    · rw [if_neg hs, decide_eq_false hs]
      unfold F.num rx
      rw [if_neg (by omega)]; rfl
  · have hsm : (!hf && !m) = false := by cases hf <;> cases m <;> simp_all
    have hlo : loR s (lw s r hf m) 0 = lw s r hf m := by unfold loR; rw [if_neg (fun h => absurd h.2 (by omega))]
    have hng : negR s 0 = decide (s < 0) := by unfold negR; apply decide_eq_decide.2; omega
    rw [hsm, hlo, hng, if_neg (fun h => by cases h.1)]
    refine ⟨?_, by cases hf <;> cases m <;> simp_all⟩
    have nk := near_K t he
    unfold rkR KR
    rw [hng]
    by_cases hs : s < 0
    · have el : lw s r hf m = -(r + 1) := by unfold lw; rw [if_pos hs, if_neg he]
      have ea : sa s = -s := by unfold sa; rw [if_pos hs]
      rw [el, show -(r + 1) + 1 = -r by omega, SV_neg (show 0 ≤ r + 1 by omega), SV_neg r0, decide_eq_true hs]
      rw [ea] at nk
      have k2 : cmpv (s * 2) (-(U (r + 1)) + -(U r)) = -(if hf = true then (if m = true then 1 else 0) else -1) := by
        rw [← nk, ← cmpv_neg]
        congr 1 <;> omega
      have k3 : (if cmpv (s * 2) (-(U (r + 1)) + -(U r)) = 0 then 0 else cmpv (s * 2) (-(U (r + 1)) + -(U r))) = -(if hf = true then (if m = true then 1 else 0) else -1) := by
        rw [k2]; clear k2 nk hsm e he; cases hf <;> cases m <;> rfl
      rw [k3, up_neg hm he rfl]
      unfold ry
      by_cases hu : RC.up true (decide (r % 2 = 1)) hf m mode = true
      · rw [hu]
        simp only [Bool.not_true, Bool.false_eq_true, if_false, if_true]
        rw [tellv_neg (by omega) (by omega), Int.neg_neg]
      · rw [show RC.up true (decide (r % 2 = 1)) hf m mode = false by simpa using hu]
        simp only [Bool.not_false, if_true, Bool.false_eq_true, if_false]
        rw [tellv_neg (by omega) (by omega), Int.neg_neg]
    · have el : lw s r hf m = r := by unfold lw; rw [if_neg hs]
      have ea : sa s = s := by unfold sa; rw [if_neg hs]
      rw [el, SV_pos r0, SV_pos (show 0 ≤ r + 1 by omega), decide_eq_false hs]
      rw [ea] at nk
      have k3 : (if cmpv (s * 2) (U r + U (r + 1)) = 0 then 0 else cmpv (s * 2) (U r + U (r + 1))) = (if hf = true then (if m = true then 1 else 0) else -1) := by
        rw [nk]; clear nk hsm e he; cases hf <;> cases m <;> rfl
      rw [k3, up_pos hm he rfl]
      unfold ry
      by_cases hu : RC.up false (decide (r % 2 = 1)) hf m mode = true
      · rw [hu]
        simp only [if_true]
        rw [tellv_pos (by omega)]
      · rw [show RC.up false (decide (r % 2 = 1)) hf m mode = false by simpa using hu]
        simp only [Bool.false_eq_true, if_false]
        rw [tellv_pos (by omega)]
end QC
end Go.Proofs.YtelblhgagpkjmaaGreatDoor

