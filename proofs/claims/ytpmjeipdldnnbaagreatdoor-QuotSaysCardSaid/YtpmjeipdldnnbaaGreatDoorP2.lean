/-
  Package prod, pure: one; turned; in order; powers of two; what is exact.
-/
import Derived.Test.YtpmjeipdldnnbaaGreatDoorP1
namespace Go.Proofs.YtpmjeipdldnnbaaGreatDoor
set_option linter.unusedVariables false
set_option linter.unusedSimpArgs false
open Go.RowKit
set_option linter.unusedVariables false
set_option linter.unusedSimpArgs false
namespace PC
open L NC NK DC RC SC
theorem S_sg (d : Dy) : S d = sgm (ng d) (A d) ∧ 0 ≤ A d := by
  have a := A_abs d
  rcases Int.lt_or_le (S d) 0 with h | h
  · rw [(a.2 h).1, (a.2 h).2]; unfold sgm; simp; omega
  · rw [(a.1 h).1, (a.1 h).2]; unfold sgm; simp; omega
theorem exact_iff {d : Dy} {mode : Int} (hm : 0 ≤ mode ∧ mode ≤ 4) (h : Ok d) : TL d mode = false ↔ (fi (TX d mode) ∧ val (TX d mode) = S d) := by
  constructor
  · intro hl
    obtain ⟨r, hf, m, t, -⟩ := towA h
    rw [(TX_of h hm t).2.1] at hl
    have e1 : hf = false := by cases hf <;> simp_all
    have e2 : m = false := by cases m <;> simp_all
    have q1 := t.hh
    have q2 := t.hm
    rw [e1] at q1
    rw [e2] at q2
    have q1' := of_decide_eq_false q1.symm
    have q2' := of_decide_eq_false q2.symm
    have lo := t.lo
    have e : A d = U r := by
      rcases Classical.em (A d = U r) with h | h
      · exact h
      · exfalso; apply q2'; exact ⟨h, by omega⟩
    exact (exact_p hm h t.r0 t.r1 e).2
  · rintro ⟨f, hv⟩
    have hr := fi_mod f
    have ev := val_eq f
    have s := S_sg d
    have e : A d = U (TX d mode % 9223372036854775808) := by
      have hU := U_pos (r := TX d mode % 9223372036854775808) (by omega)
      rw [hv, s.1] at ev
      have s2 := s.2
      unfold sgm at ev
      split at ev <;> split at ev <;> omega
    exact (exact_p hm h (by omega) hr e).1
end PC
end Go.Proofs.YtpmjeipdldnnbaaGreatDoor
