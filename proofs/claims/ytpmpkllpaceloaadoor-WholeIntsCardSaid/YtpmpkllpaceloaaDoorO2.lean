/-
  The reference: just what is to be told of a number.
-/
import Derived.Test.YtpmpkllpaceloaaDoorO1
import Derived.Test.YtpmpkllpaceloaaDoorV8
import Derived.Test.YtpmpkllpaceloaaDoorV6
namespace Go.Proofs.YtpmpkllpaceloaaDoor
set_option linter.unusedVariables false
set_option linter.unusedSimpArgs false
open Go.RowKit
set_option linter.unusedVariables false
set_option linter.unusedSimpArgs false
namespace QC
open Z (Nz Tz cmpv big)
open ZC DC
theorem lim_pow : (4294967296 : Int) ^ 400 = 2 ^ 12800 := by
  rw [show (4294967296 : Int) = 2 ^ 32 by decide, ← Int.pow_mul]
/-- what a number tells depends on what it's worth only -/
theorem fin_eq {m x m' x' : Int} (h : sc m x = sc m' x') (hx : -60000 ≤ x) (hx' : -60000 ≤ x') : fin m x = fin m' x' := by
  by_cases h0 : m = 0
  · subst h0
    have h1 : m' = 0 := sc_zero.1 (h ▸ sc_zero.2 rfl)
    subst h1
    rw [fin_zero, fin_zero]
  · have h1 : m' ≠ 0 := fun h2 => h0 (sc_zero.1 (h.trans (sc_zero.2 h2)))
    obtain ⟨o, e, ho⟩ := tz_spec h0
    obtain ⟨p, e', hp⟩ := tz_spec h1
    generalize tz m = k at e
    generalize tz m' = k' at e'
    subst e
    subst e'
    rw [sc_shift _ _ _ hx, sc_shift _ _ _ hx'] at h
    obtain ⟨a, b⟩ := sc_inj h (.inr ho) (.inr hp) (by omega) (by omega)
    rw [fin_shift, fin_shift, a, b]
end QC
end Go.Proofs.YtpmpkllpaceloaaDoor
