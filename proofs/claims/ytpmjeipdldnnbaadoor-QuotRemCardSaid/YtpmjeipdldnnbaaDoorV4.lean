/-
  The document's sum of a list: the walk.
-/
import Derived.Test.YtpmjeipdldnnbaaDoorK13
namespace Go.Proofs.YtpmjeipdldnnbaaDoor
set_option linter.unusedVariables false
set_option linter.unusedSimpArgs false
open Go.RowKit
set_option linter.unusedVariables false
set_option linter.unusedSimpArgs false
namespace VC
open Z (Nz Tz cmpv big)
open ZC DC RC QC SC
theorem blk3far {w : World} {g g' : Nat} {t : TypeId} {cs : Array Value} (h : Blk w g t cs) (hg : g ≠ g') (x y z : Value) : Blk (((w.setCell ⟨g', 0, none⟩ x).setCell ⟨g', 1, none⟩ y).setCell ⟨g', 2, none⟩ z) g t cs :=
  ((h.far (by simpa using hg) _).far (by simpa using hg) _).far (by simpa using hg) _
theorem SO_nan {L : List Int} (mode : Int) (h : hN L = true ∨ (hP L = true ∧ hM L = true)) : SO L mode = (9221120237041090560, false) := by
  unfold SO; rw [if_pos]; rcases h with h | ⟨h1, h2⟩
  · rw [h]; rfl
  · rw [h1, h2]; simp
theorem SO_inf {L : List Int} (mode : Int) (h : hN L = false) (h2 : ¬ (hP L = true ∧ hM L = true)) (h3 : hP L = true ∨ hM L = true) : SO L mode = (if hM L = true then 9218868437227405312 + 9223372036854775808 else 9218868437227405312, false) := by
  unfold SO; rw [h, if_neg (by simpa using h2), if_pos (by simpa using h3)]; rfl
theorem SO_sum {L : List Int} (mode : Int) (h : hN L = false ∧ hP L = false ∧ hM L = false) : SO L mode = if vs L ≠ 0 then (TX (tot L dz) mode, TL (tot L dz) mode)
  else if zc L = L.length ∧ sgc L = zc L ∧ 0 < zc L then (9223372036854775808, false)
  else if zc L = L.length ∧ sgc L = 0 then (0, false)
  else (if mode = 2 then 9223372036854775808 else 0, false) := by
  obtain ⟨a, b, c⟩ := h
  unfold SO; rw [a, b, c, if_neg (by simp), if_neg (by simp)]
end VC
end Go.Proofs.YtpmjeipdldnnbaaDoor
