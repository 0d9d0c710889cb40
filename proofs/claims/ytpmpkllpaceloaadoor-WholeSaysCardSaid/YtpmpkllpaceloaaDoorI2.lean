/-
  Plain mathematics: a number to a whole one (iw), by the document's own rule: what is whole is itself; it is no farther than 1; of what is more no less comes; down and up.
-/
import Derived.Test.YtpmpkllpaceloaaDoorO4
namespace Go.Proofs.YtpmpkllpaceloaaDoor
set_option linter.unusedVariables false
set_option linter.unusedSimpArgs false
set_option linter.unusedVariables false
set_option linter.unusedSimpArgs false
namespace IC
open Z (cmpv)
open QC
/-- V over P as a whole number -/
def iw (V P mode : Int) : Int := if V % P = 0 then V / P else cutv V P mode
theorem iw_whole {P : Int} (hP : 0 < P) (n mode : Int) : iw (n * P) P mode = n := by
  unfold iw
  rw [if_pos (Int.mul_emod_left _ _), Int.mul_ediv_cancel _ (by omega)]
theorem iw_two (V P mode : Int) : iw V P mode = V / P ∨ (V % P ≠ 0 ∧ iw V P mode = V / P + 1) := by
  unfold iw cutv
  split
  · exact .inl rfl
  · rename_i h
    split
    · exact .inr ⟨h, rfl⟩
    · exact .inl (by omega)
theorem iw_near {V P : Int} (hP : 0 < P) (mode : Int) : -P < V - iw V P mode * P ∧ V - iw V P mode * P < P := by
  have e := Int.mul_ediv_add_emod V P
  have r0 := Int.emod_nonneg V (show P ≠ 0 by omega)
  have r1 := Int.emod_lt_of_pos V hP
  rw [Int.mul_comm] at e
  rcases iw_two V P mode with h | ⟨hr, h⟩
  · rw [h]; omega
  · rw [h, Int.add_mul, Int.one_mul]; omega
theorem cmpv_3 (a b : Int) : (cmpv a b = -1 ∧ a < b) ∨ (cmpv a b = 0 ∧ a = b) ∨ (cmpv a b = 1 ∧ b < a) := by
  unfold cmpv
  split
  · exact .inl ⟨rfl, by assumption⟩
  · split
    · exact .inr (.inr ⟨rfl, by assumption⟩)
    · exact .inr (.inl ⟨rfl, by omega⟩)
/-- which of both near ones: more left, no less comes -/
theorem ug_pos {mode near odd : Int} {neg : Bool} (h : 0 < near) (hm : mode = 0 ∨ mode = 4) : ug mode neg near odd = true := by
  have h0 : ¬ (near = 0) := by omega
  rcases hm with rfl | rfl <;> simp [ug, h0, h]
theorem ug_neg {mode near odd : Int} {neg : Bool} (h : near < 0) (hm : mode = 0 ∨ mode = 4) : ug mode neg near odd = false := by
  have h0 : ¬ (near = 0) := by omega
  have h1 : near ≤ 0 := by omega
  rcases hm with rfl | rfl <;> simp [ug, h0, h1]
theorem ug_mono {mode near near' odd : Int} {neg : Bool} (h : near ≤ near') (hn : ug mode neg near odd = true) : ug mode neg near' odd = true := by
  by_cases hm : mode = 0 ∨ mode = 4
  · rcases Int.lt_or_le near 0 with h0 | h0
    · rw [ug_neg h0 hm] at hn; simp at hn
    · rcases Int.lt_or_le 0 near' with h1 | h1
      · exact ug_pos h1 hm
      · rw [show near' = near by omega]; exact hn
  · have h0 : mode ≠ 0 := fun q => hm (.inl q)
    have h4 : mode ≠ 4 := fun q => hm (.inr q)
    simpa [ug, h0, h4] using hn
theorem cmpv_mono {a b c : Int} (h : a ≤ b) : cmpv a c ≤ cmpv b c := by
  rcases cmpv_3 a c with ⟨e, k⟩ | ⟨e, k⟩ | ⟨e, k⟩ <;> rcases cmpv_3 b c with ⟨e', k'⟩ | ⟨e', k'⟩ | ⟨e', k'⟩ <;> rw [e, e'] <;> omega
theorem iw_mono {V W P : Int} (hP : 0 < P) (h : V ≤ W) (mode : Int) : iw V P mode ≤ iw W P mode := by
  have hq : V / P ≤ W / P := Int.ediv_le_ediv hP h
  rcases Int.lt_or_eq_of_le hq with hq | hq
  · rcases iw_two V P mode with h1 | ⟨_, h1⟩ <;> rcases iw_two W P mode with h2 | ⟨_, h2⟩ <;> omega
  · have e := Int.mul_ediv_add_emod V P
    have e' := Int.mul_ediv_add_emod W P
    rw [hq] at e
    have r0 := Int.emod_nonneg V (show P ≠ 0 by omega)
    have hr : V % P ≤ W % P := by
      generalize P * (W / P) = t at e e'
      omega
    rcases iw_two V P mode with h1 | ⟨hv, h1⟩
    · rcases iw_two W P mode with h2 | ⟨_, h2⟩ <;> omega
    · have hw : W % P ≠ 0 := by omega
      have hneg : decide (V < 0) = decide (W < 0) := by
        rw [decide_eq_decide]
        constructor
        · intro hv0
          have : V / P < 0 := Int.ediv_neg_of_neg_of_pos hv0 hP
          rcases Int.lt_or_le W 0 with h0 | h0
          · exact h0
          · have := Int.ediv_nonneg h0 (Int.le_of_lt hP); omega
        · intro hw0; omega
      have hup : ug mode (decide (V < 0)) (cmpv (V % P + V % P) P) (V / P % 2) = true := by
        unfold iw cutv at h1
        rw [if_neg hv] at h1
        split at h1
        · assumption
        · omega
      have hup2 := ug_mono (cmpv_mono (c := P) (show V % P + V % P ≤ W % P + W % P by omega)) hup
      have : iw W P mode = W / P + 1 := by
        unfold iw cutv
        rw [if_neg hw, ← hneg, ← hq, if_pos hup2]
      omega
theorem iw_scale {V P C : Int} (hP : 0 < P) (hC : 0 < C) (mode : Int) : iw (V * C) (P * C) mode = iw V P mode := by
  have e1 : V * C / (P * C) = V / P := by rw [Int.mul_ediv_mul_of_pos_left _ _ hC]
  have e2 : V * C % (P * C) = V % P * C := by rw [Int.mul_comm V, Int.mul_comm P, Int.mul_emod_mul_of_pos _ _ hC, Int.mul_comm]
  have e3 : (V % P * C = 0) ↔ (V % P = 0) := by
    constructor
    · intro h; rcases Int.mul_eq_zero.1 h with h | h <;> omega
    · intro h; rw [h, Int.zero_mul]
  have e4 : decide (V * C < 0) = decide (V < 0) := by
    rw [decide_eq_decide]
    constructor
    · intro h
      rcases Int.lt_or_le V 0 with h0 | h0
      · exact h0
      · have := Int.mul_nonneg h0 (Int.le_of_lt hC); omega
    · intro h; exact Int.mul_neg_of_neg_of_pos h hC
  have e5 : cmpv (V % P * C + V % P * C) (P * C) = cmpv (V % P + V % P) P := by rw [← Int.add_mul]; exact cmpv_mul hC
  unfold iw cutv
  rw [e1, e2, e4, e5]
  by_cases h : V % P = 0
  · rw [if_pos h, if_pos (e3.2 h)]
  · rw [if_neg h, if_neg (fun q => h (e3.1 q))]
/-- what is lost, scaled -/
theorem lost_scale {V P C : Int} (hC : 0 < C) : (V * C % (P * C) = 0) ↔ (V % P = 0) := by
  rw [Int.mul_comm V, Int.mul_comm P, Int.mul_emod_mul_of_pos _ _ hC, Int.mul_comm C]
  constructor
  · intro h; rcases Int.mul_eq_zero.1 h with h | h <;> omega
  · intro h; rw [h, Int.zero_mul]
end IC
end Go.Proofs.YtpmpkllpaceloaaDoor
