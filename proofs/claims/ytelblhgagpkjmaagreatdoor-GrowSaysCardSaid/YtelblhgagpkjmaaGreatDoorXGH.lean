/-
  Package grow: what comes in at a law: a slice of numbers; six numbers.
-/
import Derived.Test.YtelblhgagpkjmaaGreatDoorF8
namespace Go.Proofs.YtelblhgagpkjmaaGreatDoor
set_option linter.unusedVariables false
set_option linter.unusedSimpArgs false
open Go.RowKit
set_option linter.unusedVariables false
set_option linter.unusedSimpArgs false
namespace XC
open L NC NK DC RC SC
theorem row_g {w : World} {a : Option Addr} {n c : Nat} {zs : List Int}
    (h : (a = none ∧ n = 0 ∧ c = 0 ∧ zs = []) ∨ ∃ x, a = some x ∧ n ≤ c ∧ c ≤ maxLen ∧ zs.length = c ∧ (∀ i, i < zs.length → w.cell? (x.add i) = some (.int .u64 (zs.getD i 0))) ∧ ∀ n ∈ zs, (Lit.int .u64 n).wf = true) :
    Sl .u64 w (.slice a n c) (zs.take n) ∧ u64s (zs.take n) ∧ (zs.take n).length = n ∧ ((a = none ∧ n = 0 ∧ c = 0) ∨ ∃ ad, a = some ad) := by
  rcases h with ⟨rfl, rfl, rfl, rfl⟩ | ⟨x, rfl, hn, hc, hz, hcell, hwf⟩
  · exact ⟨Sl.nil _ _ _ _, (by intro x hx; simp at hx), by simp, .inl ⟨rfl, rfl, rfl⟩⟩
  · have hl : (zs.take n).length = n := by rw [List.length_take, hz]; exact Nat.min_eq_left hn
    refine ⟨⟨some x, c, by rw [hl], by rw [hl]; exact hn, ?_⟩, fun d hd => wfb_u64 (hwf d (List.mem_of_mem_take hd)), hl, .inr ⟨x, rfl⟩⟩
    by_cases h0 : n = 0
    · left; subst h0; simp
    · right
      refine ⟨x, rfl, ?_, fun j hj => ?_⟩
      · have := World.block_lt_of_cell? w _ (hcell 0 (by omega))
        rwa [block_of_add] at this
      · rw [hl] at hj
        rw [hcell j (by omega), List.getElem_take, List.getD_eq_getElem?_getD, List.getElem?_eq_getElem (by omega)]; rfl
end XC
end Go.Proofs.YtelblhgagpkjmaaGreatDoor
