/-
  The reference: is it zero in all fields?
-/
import Derived.Test.YtpmpkllpaceloaaDoorV5
namespace Go.Proofs.YtpmpkllpaceloaaDoor
set_option linter.unusedVariables false
set_option linter.unusedSimpArgs false
open Go.RowKit
set_option linter.unusedVariables false
set_option linter.unusedSimpArgs false
namespace VD
open L NC NK DC
/-- the Dyad that is handed back with an error -/
theorem none_iff {w : World} {b : Bool} {A : Option Addr} {n c : Nat} {x : Int} {d : Dy} (h : GV w b A n c x d) : (n = 0 ∧ x = 0 ∧ b = false) ↔ d = dz := by
  have hz := gv_zero h
  obtain ⟨h1, h2, h3, h4, h5, h6⟩ := h
  constructor
  · rintro ⟨k1, k2, k3⟩
    exact Dy.ext' h4 (hz.1 k1) (by rw [← h3]; exact k2)
  · rintro rfl
    exact ⟨hz.2 rfl, h3, by rw [h2]; rfl⟩
end VD
end Go.Proofs.YtpmpkllpaceloaaDoor
