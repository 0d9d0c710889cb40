/-
  What the reference functions on numbers' bits return (fields, class, rank, the number of a rank), for every argument.
-/
import Derived.Test.YtlcelocjfmclkaaFloatC
namespace Go.Proofs.Ytlcelocjfmclkaa
open Go.RowKit
set_option linter.unusedVariables false
namespace FloatR
theorem Fields_c (x : Int) (h0 : 0 ≤ x) (h1 : x ≤ 18446744073709551615) (w : World) :
    Calls Try.prog 32 #[.int .u64 x] w fun e w' => e = .returned (.tuple #[.bool (F.sgn x), .int .i64 (F.exq x), .int .i64 (F.fra x)]) ∧ w = w' := by
  have e1 := Lib.hid (F.exq_ref x)
  go_enter Try.func32, Try.ntmps32
  go_wp2
  go_ret3
  rw [← e1.out]
  exact ⟨rfl, rfl⟩
theorem ClassOf_c (x : Int) (h0 : 0 ≤ x) (h1 : x ≤ 18446744073709551615) (w : World) :
    Calls Try.prog 31 #[.int .u64 x] w fun e w' => e = .returned (.int .i64 (F.cls x)) ∧ w = w' := by
  have e1 := F.exq_bd x
  have f1 := F.fra_bd x
  go_enter Try.func31, Try.ntmps31
  go_wp2_with (first | (go_at_call 32; (with_reducible refine (Fields_c x h0 h1 _).mono ?_); rintro e w' ⟨rfl, rfl⟩))
  all_goals (go_ret; refine ⟨ret_int ?_, rfl⟩; unfold F.cls; simp_all; try omega)
  all_goals (repeat (first | omega | split))
theorem RankOf_c (x : Int) (h0 : 0 ≤ x) (h1 : x ≤ 18446744073709551615) (hn : F.nn x) (w : World) :
    Calls Try.prog 18 #[.int .u64 x] w fun e w' => e = .returned (.int .i64 (F.rnk x)) ∧ w = w' := by
  have e1 := F.exq_bd x
  have f1 := F.fra_bd x
  have r1 := F.rnk_parts x h0 h1 hn
  clear hn
  obtain ⟨s, hs⟩ : ∃ s, s = F.sgn x := ⟨_, rfl⟩
  have HS := Lib.hid hs
  have fc := fun w => Fields_c x h0 h1 w
  rw [← hs] at fc r1
  have FC := Lib.hid fc
  have R1 := Lib.hid r1
  clear fc hs r1
  cases s
  all_goals
    go_enter Try.func18, Try.ntmps18
    go_wp2_with (first | (go_at_call 32; (with_reducible refine (FC.out _).mono ?_); rintro e w' ⟨rfl, rfl⟩))
    go_ret
    rw [← R1.out]
    exact ⟨rfl, rfl⟩
end FloatR
end Go.Proofs.Ytlcelocjfmclkaa
