/-
  SumCommutes, SumSmall, SumOrder: the walks.
-/
import Derived.Test.YtpmpkllpaceloaaDoorC8
import Derived.Test.YtpmpkllpaceloaaDoorRK2
namespace Go.Proofs.YtpmpkllpaceloaaDoor
set_option linter.unusedVariables false
set_option linter.unusedSimpArgs false
open Go.RowKit
set_option linter.unusedVariables false
set_option linter.unusedSimpArgs false
namespace SC
open L NC NK DC RC
theorem turn3 {x y mode : Int} (hx : 0 ≤ x ∧ x ≤ 18446744073709551615) (hy : 0 ≤ y ∧ y ≤ 18446744073709551615) (hm : 0 ≤ mode ∧ mode ≤ 4) :
    (F.cls (AT [x, F.neg y] mode).1 = 5 ∧ F.cls (AT [y, F.neg x] (tm mode)).1 = 5) ∨ (F.cls (AT [x, F.neg y] mode).1 = 1 ∧ F.cls (AT [y, F.neg x] (tm mode)).1 = 1) ∨ (F.cls (AT [y, F.neg x] (tm mode)).1 = F.cls (AT [x, F.neg y] mode).1 ∧ F.cls (AT [x, F.neg y] mode).1 ≠ 5 ∧ F.cls (AT [x, F.neg y] mode).1 ≠ 1 ∧ (AT [y, F.neg x] (tm mode)).1 = F.neg (AT [x, F.neg y] mode).1) := by
  rcases sub_turn hx hy hm with h | h | h
  · exact .inl h
  · exact .inr (.inl h)
  · by_cases h5 : F.cls (AT [x, F.neg y] mode).1 = 5
    · left; exact ⟨h5, by rw [h, F.cls_neg]; exact h5⟩
    · by_cases h1 : F.cls (AT [x, F.neg y] mode).1 = 1
      · right; left; exact ⟨h1, by rw [h, F.cls_neg]; exact h1⟩
      · right; right; exact ⟨by rw [h, F.cls_neg], h5, h1, h⟩
theorem AT_ok {L : List Int} {mode : Int} (hm : 0 ≤ mode ∧ mode ≤ 4) (hl : ¬ 200 < L.length) (hu : u64s L) : ∃ a b, AT L mode = (a, b, 0) := by
  have h := (AT_e hl hu).2 hm
  exact ⟨(AT L mode).1, (AT L mode).2.1, by rw [← h]⟩
theorem other_tm {mode : Int} (hm : 0 ≤ mode ∧ mode ≤ 4) : (mode = 1 ∧ tm mode = 2) ∨ (mode = 2 ∧ tm mode = 1) ∨ ((mode == 1) = false ∧ (mode == 2) = false ∧ tm mode = mode) := by
  by_cases h1 : mode = 1
  · subst h1; exact .inl ⟨rfl, rfl⟩
  · by_cases h2 : mode = 2
    · subst h2; exact .inr (.inl ⟨rfl, rfl⟩)
    · right; right
      refine ⟨by simp [h1], by simp [h2], ?_⟩
      unfold tm; rw [if_neg h1, if_neg h2]
end SC
end Go.Proofs.YtpmpkllpaceloaaDoor
