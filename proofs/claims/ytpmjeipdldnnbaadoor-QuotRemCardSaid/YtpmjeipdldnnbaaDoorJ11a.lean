/-
  Package quot, pure: remainders again.
-/
import Derived.Test.YtpmjeipdldnnbaaDoorJ8
namespace Go.Proofs.YtpmjeipdldnnbaaDoor
set_option linter.unusedVariables false
set_option linter.unusedSimpArgs false
open Go.RowKit
set_option linter.unusedVariables false
set_option linter.unusedSimpArgs false
namespace JC
open L NC NK DC RC SC PC
open Z (cmpv)
theorem rx_parts {s : Bool} {r : Int} (h0 : 0 ≤ r) (h1 : r ≤ 9218868437227405312) : F.sgn (rx s r) = s ∧ rx s r % 9223372036854775808 = r := by
  unfold rx
  cases s
  · simp
    exact ⟨F.sgn_f (by omega), by omega⟩
  · simp
    unfold F.neg
    rw [if_pos (by omega)]
    exact ⟨F.sgn_t (by omega), by omega⟩
theorem ab_rx {s : Bool} {r : Int} (h0 : 0 ≤ r) (h1 : r ≤ 9218868437227405312) : ab (rx s r) = U r := by
  unfold ab
  rw [(rx_parts h0 h1).2]
theorem RM_fi {x y : Int} (fx : fi x) (fy : fi y) (vy : val y ≠ 0) : ∃ ρ s, RM x y = rx s ρ ∧ 0 ≤ ρ ∧ ρ ≤ 9218868437227405311 ∧ U ρ = rs (ab x) (ab y) := by
  obtain ⟨o1, X1, o2, X2, un, ρ, i, j, e1, e2, a1, a2, b1, b2, a3, a4, b3, b4, hu, hi, hj, i1, j1, hb, eov, ez, rs0, rs1, oz, r0, r1, eU, eS, et⟩ := rem_parts fx fy vy
  have cx := (fi_cls (fi_range fx)).1 fx
  have cy := (fi_cls (fi_range fy)).1 fy
  have cy1 : F.cls y ≠ 1 := fun h => vy ((val0 fy).2 h)
  unfold RM
  rw [if_neg (by omega), if_neg (by omega)]
  by_cases h : rs (ab x) (ab y) = 0
  · rw [if_pos h]
    exact ⟨0, _, rfl, by omega, by omega, by rw [h, U_zero]⟩
  · rw [if_neg h, et]
    exact ⟨ρ, _, rfl, r0, r1, eU⟩
theorem RM_nf {x y : Int} (hx : 0 ≤ x ∧ x ≤ 18446744073709551615) (fy : fi y) (vy : val y ≠ 0) (h : fi (RM x y)) : fi x := by
  have cy := (fi_cls (fi_range fy)).1 fy
  have cx := F.cls_bd x
  rcases Int.lt_or_le 3 (F.cls x) with k | k
  · exfalso
    unfold RM at h
    rw [if_pos (by omega)] at h
    exact h.2.2 (by decide)
  · exact (fi_cls hx).2 k
theorem RM_bd {x y : Int} (hx : 0 ≤ x ∧ x ≤ 18446744073709551615) (hy : 0 ≤ y ∧ y ≤ 18446744073709551615) : 0 ≤ RM x y ∧ RM x y ≤ 18446744073709551615 := by
  by_cases h1 : F.cls x = 5 ∨ F.cls y = 5 ∨ F.cls x = 4 ∨ F.cls y = 1
  · unfold RM; rw [if_pos h1]; exact ⟨by simp, by simp⟩
  · by_cases h2 : F.cls y = 4
    · unfold RM; rw [if_neg h1, if_pos h2]; exact hx
    · have cbx := F.cls_bd x
      have cby := F.cls_bd y
      have fx := (fi_cls hx).2 (by omega)
      have fy := (fi_cls hy).2 (by omega)
      obtain ⟨ρ, s, e, r0, r1, -⟩ := RM_fi fx fy (fun h => by have := (val0 fy).1 h; omega)
      rw [e]
      have := rx_bd (b := s) r0 (by omega)
      exact ⟨this.1, this.2.1⟩
theorem rs_small {a b : Int} (ha : 0 ≤ a) (hb : 0 < b) (h : 2 * a ≤ b) : ov a b = false ∧ rs a b = a := by
  have e1 : a % b = a := Int.emod_eq_of_lt ha (by omega)
  have e2 : a / b = 0 := Int.ediv_eq_zero_of_lt ha (by omega)
  have e3 : ov a b = false := by
    unfold ov
    rw [e1, e2, decide_eq_false_iff_not]
    omega
  refine ⟨e3, ?_⟩
  unfold rs
  rw [e3, e1]; rfl
theorem again_p {x y : Int} (fx : fi x) (fy : fi y) (vy : val y ≠ 0) : RM (RM x y) y = RM x y ∧ fi (RM x y) ∧ 2 * ab (RM x y) ≤ ab y := by
  obtain ⟨ρ, s, e, r0, r1, eU⟩ := RM_fi fx fy vy
  have hy := ab_pos fy vy
  have bd := rs_bd (ab_nn x) hy
  have ea : ab (RM x y) = U ρ := by rw [e, ab_rx r0 (by omega)]
  have fr : fi (RM x y) := by rw [e]; exact (val_rx r0 r1).1
  refine ⟨?_, fr, by rw [ea, eU]; omega⟩
  have sm := rs_small (a := ab (RM x y)) (b := ab y) (ab_nn _) hy (by rw [ea, eU]; omega)
  have cx := (fi_cls (fi_range fr)).1 fr
  have cy := (fi_cls (fi_range fy)).1 fy
  have cy1 : F.cls y ≠ 1 := fun h => vy ((val0 fy).2 h)
  have hs : F.sgn (RM x y) = s := by rw [e]; exact (rx_parts r0 (by omega)).1
  have key : RM (RM x y) y = if ab (RM x y) = 0 then rx s 0 else rx (s != false) (tow (ab (RM x y))).1 := by
    show (if F.cls (RM x y) = 5 ∨ F.cls y = 5 ∨ F.cls (RM x y) = 4 ∨ F.cls y = 1 then (9221120237041090560 : Int)
      else if F.cls y = 4 then (RM x y)
      else if rs (ab (RM x y)) (ab y) = 0 then rx (F.sgn (RM x y)) 0
      else rx (F.sgn (RM x y) != ov (ab (RM x y)) (ab y)) (tow (rs (ab (RM x y)) (ab y))).1) = _
    rw [if_neg (by omega), if_neg (by omega), sm.2, sm.1, hs]
  rw [key, ea]
  by_cases h : U ρ = 0
  · rw [if_pos h, e]
    have : ρ = 0 := U_inj r0 (by omega) (by rw [h, U_zero])
    rw [this]
  · rw [if_neg h, tow_eq (tow_exact r0 r1), e]
    cases s <;> rfl
end JC
end Go.Proofs.YtpmjeipdldnnbaaDoor
