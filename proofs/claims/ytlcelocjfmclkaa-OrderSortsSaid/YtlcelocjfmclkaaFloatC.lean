/-
  What each function of package float returns, for every argument: contracts over the loaded program.
-/
import Derived.Test.YtlcelocjfmclkaaProg
import Derived.Test.YtlcelocjfmclkaaBase
import Derived.Test.YtlcelocjfmclkaaPure1
import Derived.WalkKit
import Derived.WalkLawsBesides
import Derived.Lib.Hide
namespace Go.Proofs.Ytlcelocjfmclkaa
open Go.RowKit
set_option linter.unusedVariables false
namespace FloatC
theorem negative_c (x : Int) (h0 : 0 ≤ x) (h1 : x ≤ 18446744073709551615) (w : World) :
    Calls Try.prog 37 #[.int .u64 x] w fun e w' => e = .returned (.bool (F.sgn x)) ∧ w = w' := by
  go_enter Try.func37, Try.ntmps37
  go_wp2
  go_ret
  exact ⟨rfl, rfl⟩
theorem Neg_c (x : Int) (h0 : 0 ≤ x) (h1 : x ≤ 18446744073709551615) (w : World) :
    Calls Try.prog 20 #[.int .u64 x] w fun e w' => e = .returned (.int .u64 (F.neg x)) ∧ w = w' := by
  go_enter Try.func20, Try.ntmps20
  go_wp2
  go_ret
  exact ⟨ret_int (F.neg_bits x h0 h1), rfl⟩
theorem Abs_c (x : Int) (h0 : 0 ≤ x) (h1 : x ≤ 18446744073709551615) (w : World) :
    Calls Try.prog 36 #[.int .u64 x] w fun e w' => e = .returned (.int .u64 (F.abs x)) ∧ w = w' := by
  go_enter Try.func36, Try.ntmps36
  go_wp2
  go_ret
  exact ⟨ret_int (F.abs_bits x h0 h1), rfl⟩
theorem Parts_c (x : Int) (h0 : 0 ≤ x) (h1 : x ≤ 18446744073709551615) (w : World) :
    Calls Try.prog 33 #[.int .u64 x] w fun e w' => e = .returned (.tuple #[.bool (F.sgn x), .int .i64 (F.exq x), .int .u64 (F.fra x)]) ∧ w = w' := by
  obtain ⟨a0, a1⟩ := F.abs_bd x
  go_enter Try.func33, Try.ntmps33
  go_wp2_with (first | (go_at_call 37; (with_reducible refine (negative_c _ h0 h1 _).mono ?_); rintro e w' ⟨rfl, rfl⟩) | (go_at_call 36; (with_reducible refine (Abs_c _ h0 h1 _).mono ?_); rintro e w' ⟨rfl, rfl⟩))
  go_ret3
  exact ⟨rfl, rfl⟩
theorem Class_c (x : Int) (h0 : 0 ≤ x) (h1 : x ≤ 18446744073709551615) (w : World) :
    Calls Try.prog 21 #[.int .u64 x] w fun e w' => e = .returned (.int .i64 (F.cls x)) ∧ w = w' := by
  go_enter Try.func21, Try.ntmps21
  go_wp2_with (go_at_call 33; (with_reducible refine (Parts_c _ h0 h1 _).mono ?_); rintro e w' ⟨rfl, rfl⟩)
  all_goals (go_ret; refine ⟨ret_int ?_, rfl⟩; unfold F.cls; simp_all; try omega)
theorem Rank_ok (x : Int) (h0 : 0 ≤ x) (h1 : x ≤ 18446744073709551615) (hn : F.nn x) (w : World) :
    Calls Try.prog 25 #[.int .u64 x] w fun e w' => e = .returned (.tuple #[.int .i64 (F.rnk x), .int .i64 0]) ∧ w = w' := by
  obtain ⟨a0, a1⟩ := F.abs_bd x
  have hc : (F.cls x == 5) = false := by rw [beq_eq_false_iff_ne]; intro h; have := (F.cls_nan x).1 h; unfold F.nn at hn; omega
  by_cases hs : x < 9223372036854775808
  · have hg := F.sgn_f hs
    have he := Lib.hid (show F.abs x = F.rnk x by unfold F.abs F.rnk; unfold F.nn at hn; rw [if_pos hs]; omega)
    go_enter Try.func25, Try.ntmps25
    go_wp2_with (first | (go_at_call 21; (with_reducible refine (Class_c _ h0 h1 _).mono ?_); rintro e w' ⟨rfl, rfl⟩) | (go_at_call 37; (with_reducible refine (negative_c _ h0 h1 _).mono ?_); rintro e w' ⟨rfl, rfl⟩) | (go_at_call 36; (with_reducible refine (Abs_c _ h0 h1 _).mono ?_); rintro e w' ⟨rfl, rfl⟩))
    go_ret2
    rw [← he.out]
    exact ⟨rfl, rfl⟩
  · have hg := F.sgn_t (show 9223372036854775808 ≤ x by omega)
    have he := Lib.hid (show -F.abs x = F.rnk x by unfold F.abs F.rnk; unfold F.nn at hn; rw [if_neg hs]; omega)
    go_enter Try.func25, Try.ntmps25
    go_wp2_with (first | (go_at_call 21; (with_reducible refine (Class_c _ h0 h1 _).mono ?_); rintro e w' ⟨rfl, rfl⟩) | (go_at_call 37; (with_reducible refine (negative_c _ h0 h1 _).mono ?_); rintro e w' ⟨rfl, rfl⟩) | (go_at_call 36; (with_reducible refine (Abs_c _ h0 h1 _).mono ?_); rintro e w' ⟨rfl, rfl⟩))
    go_ret2
    rw [← he.out]
    exact ⟨rfl, rfl⟩
theorem Rank_no (x : Int) (h0 : 0 ≤ x) (h1 : x ≤ 18446744073709551615) (hn : 9218868437227405312 < x % 9223372036854775808) (w : World) :
    Calls Try.prog 25 #[.int .u64 x] w fun e w' => e = .returned (.tuple #[.int .i64 0, .int .i64 4]) ∧ w = w' := by
  have hc : (F.cls x == 5) = true := by rw [beq_iff_eq]; exact (F.cls_nan x).2 hn
  go_enter Try.func25, Try.ntmps25
  go_wp2_with (first | (go_at_call 21; (with_reducible refine (Class_c _ h0 h1 _).mono ?_); rintro e w' ⟨rfl, rfl⟩))
  go_ret2
  exact ⟨rfl, rfl⟩
end FloatC
end Go.Proofs.Ytlcelocjfmclkaa
