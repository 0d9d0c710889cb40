/-
  A slice of limbs that came in, in my words.
-/
import Derived.Test.YtjihapnplfdmmaaDoorNMem
namespace Go.Proofs.YtjihapnplfdmmaaDoor
open Go.RowKit
set_option linter.unusedVariables false
namespace NC
open L
theorem row_sl {w : World} {a : Option Addr} {n c : Nat} {zs : List Int}
    (h : (a = none ∧ n = 0 ∧ c = 0 ∧ zs = []) ∨ ∃ x, a = some x ∧ n ≤ c ∧ c ≤ maxLen ∧ zs.length = c ∧ (∀ i, i < zs.length → w.cell? (x.add i) = some (.int .u32 (zs.getD i 0))) ∧ ∀ n ∈ zs, (Lit.int .u32 n).wf = true) :
    Sl .u32 w (.slice a n c) (zs.take n) ∧ Lim (zs.take n) ∧ (zs.take n).length ≤ 9223372036854775807 := by
  rcases h with ⟨rfl, rfl, rfl, rfl⟩ | ⟨x, rfl, hn, hc, hz, hcell, hwf⟩
  · exact ⟨Sl.nil _ _ _ _, Lim.nil, by simp⟩
  · have hl : (zs.take n).length = n := by rw [List.length_take, hz]; exact Nat.min_eq_left hn
    refine ⟨⟨some x, c, by rw [hl], by rw [hl]; exact hn, ?_⟩, fun d hd => ?_, by rw [hl]; exact Nat.le_trans hn hc⟩
    · by_cases h0 : n = 0
      · left; subst h0; simp
      · right
        refine ⟨x, rfl, ?_, fun j hj => ?_⟩
        · have := World.block_lt_of_cell? w _ (hcell 0 (by omega))
          rwa [block_of_add] at this
        · rw [hl] at hj
          rw [hcell j (by omega), List.getElem_take, List.getD_eq_getElem?_getD, List.getElem?_eq_getElem (by omega)]; rfl
    · have := wfb_u32 (hwf d (List.mem_of_mem_take hd))
      omega
end NC
end Go.Proofs.YtjihapnplfdmmaaDoor
