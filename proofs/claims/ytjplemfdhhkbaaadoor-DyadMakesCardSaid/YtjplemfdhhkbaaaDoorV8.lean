/-
  The reference: is it zero in all fields?
-/
import Derived.Test.YtjplemfdhhkbaaaDoorV5
namespace Go.Proofs.YtjplemfdhhkbaaaDoor
set_option linter.unusedVariables false
set_option linter.unusedSimpArgs false
open Go.RowKit
set_option linter.unusedVariables false
set_option linter.unusedSimpArgs false
namespace VD
open L NC NK DC
theorem NoDyad_c (b : Bool) (A : Option Addr) (n c : Nat) (x : Int) (w : World) : Calls Tryd.prog 20 #[.agg #[.bool b, .slice A n c, .int .i64 x]] w (DC.RetB w (.bool (decide (n = 0 ∧ x = 0 ∧ b = false)))) := by
  have D0 : Below w.heap.size w (w.alloc (.cells #[.bool b, .slice A n c, .int .i64 x] 25)) := (Below.refl _ _).alloc (Nat.le_refl _) _
  by_cases h1 : n = 0
  · subst h1
    by_cases h2 : x = 0
    · subst h2
      cases b
      all_goals (
        go_enter Tryd.func20, Tryd.ntmps20
        go_wp2
        go_ret
        exact ⟨ret_bool (by simp), D0⟩)
    · have t2 : (x == 0) = false := by simp [h2]
      rw [decide_eq_false fun h => h2 h.2.1]
      clear h2
      go_enter Tryd.func20, Tryd.ntmps20
      go_wp2
      go_ret
      exact ⟨rfl, D0⟩
  · have t1 : ((n : Int) == 0) = false := by simp [h1]
    rw [decide_eq_false fun h => h1 h.1]
    clear h1
    go_enter Tryd.func20, Tryd.ntmps20
    go_wp2
    go_ret
    exact ⟨rfl, D0⟩
/-- the Dyad that is handed back with an error -/
theorem none_iff {w : World} {b : Bool} {A : Option Addr} {n c : Nat} {x : Int} {d : Dy} (h : GV w b A n c x d) : (n = 0 ∧ x = 0 ∧ b = false) ↔ d = dz := by
  have hz := gv_zero h
  obtain ⟨h1, h2, h3, h4, h5, h6⟩ := h
  constructor
  · rintro ⟨k1, k2, k3⟩
    exact Dy.ext' h4 (hz.1 k1) (by rw [← h3]; exact k2)
  · rintro rfl
    exact ⟨hz.2 rfl, h3, by rw [h2]; rfl⟩
end VD
end Go.Proofs.YtjplemfdhhkbaaaDoor
