/-
  What the reference functions on numbers' bits return (fields, class, rank, the number of a rank), for every argument.
-/
import Derived.Test.YtkiffgadnkniaaaFloatC
namespace Go.Proofs.Ytkiffgadnkniaaa
open Go.RowKit
set_option linter.unusedVariables false
namespace FloatR
theorem Fields_c (x : Int) (h0 : 0 ≤ x) (h1 : x ≤ 18446744073709551615) (w : World) :
    Calls Try.prog 10 #[.int .u64 x] w fun e w' => e = .returned (.tuple #[.bool (F.sgn x), .int .i64 (F.exq x), .int .i64 (F.fra x)]) ∧ w = w' := by
  have e1 := Lib.hid (F.exq_ref x)
  go_enter Try.func10, Try.ntmps10
  go_wp2
  go_ret3
  rw [← e1.out]
  exact ⟨rfl, rfl⟩
theorem ClassOf_c (x : Int) (h0 : 0 ≤ x) (h1 : x ≤ 18446744073709551615) (w : World) :
    Calls Try.prog 12 #[.int .u64 x] w fun e w' => e = .returned (.int .i64 (F.cls x)) ∧ w = w' := by
  have e1 := F.exq_bd x
  have f1 := F.fra_bd x
  go_enter Try.func12, Try.ntmps12
  go_wp2_with (first | (go_at_call 10; (with_reducible refine (Fields_c x h0 h1 _).mono ?_); rintro e w' ⟨rfl, rfl⟩))
  all_goals (go_ret; refine ⟨ret_int ?_, rfl⟩; unfold F.cls; simp_all; try omega)
  all_goals (repeat (first | omega | split))
theorem RankOf_c (x : Int) (h0 : 0 ≤ x) (h1 : x ≤ 18446744073709551615) (hn : F.nn x) (w : World) :
    Calls Try.prog 23 #[.int .u64 x] w fun e w' => e = .returned (.int .i64 (F.rnk x)) ∧ w = w' := by
  have e1 := F.exq_bd x
  have f1 := F.fra_bd x
  have r1 := F.rnk_parts x h0 h1 hn
  clear hn
  obtain ⟨s, hs⟩ : ∃ s, s = F.sgn x := ⟨_, rfl⟩
  have HS := Lib.hid hs
  have fc := fun w => Fields_c x h0 h1 w
  rw [← hs] at fc r1
  have FC := Lib.hid fc
  have R1 := Lib.hid r1
  clear fc hs r1
  cases s
  all_goals
    go_enter Try.func23, Try.ntmps23
    go_wp2_with (first | (go_at_call 10; (with_reducible refine (FC.out _).mono ?_); rintro e w' ⟨rfl, rfl⟩))
    go_ret
    rw [← R1.out]
    exact ⟨rfl, rfl⟩
theorem Ranked_c (n : Int) (h0 : -9218868437227405312 ≤ n) (h1 : n ≤ 9218868437227405312) (w : World) :
    Calls Try.prog 22 #[.int .i64 n] w fun e w' => e = .returned (.int .u64 (F.num n)) ∧ w = w' := by
  have r1 := Lib.hid (show (if n < 0 then 9223372036854775808 - n else n) = F.num n from rfl)
  by_cases h : n < 0
  · go_enter Try.func22, Try.ntmps22
    go_wp2
    go_ret
    refine ⟨ret_int ?_, rfl⟩
    rw [← r1.out, if_pos h]
    try simp only [IntKind.wrap_u64]
    omega
  · go_enter Try.func22, Try.ntmps22
    go_wp2
    go_ret
    refine ⟨ret_int ?_, rfl⟩
    rw [← r1.out, if_neg (by omega)]
theorem Between_t (n a b : Int) (h0 : a ≤ n) (h1 : n ≤ b) (w : World) :
    Calls Try.prog 16 #[.int .i64 n, .int .i64 a, .int .i64 b] w fun e w' => e = .returned (.bool true) ∧ w = w' := by
  go_enter Try.func16, Try.ntmps16
  go_wp2
  go_ret
  exact ⟨rfl, rfl⟩
theorem Between_f (n a b : Int) (h : n < a ∨ b < n) (w : World) :
    Calls Try.prog 16 #[.int .i64 n, .int .i64 a, .int .i64 b] w fun e w' => e = .returned (.bool false) ∧ w = w' := by
  by_cases h0 : n < a
  · go_enter Try.func16, Try.ntmps16
    go_wp2
    go_ret
    exact ⟨rfl, rfl⟩
  · have h1 : b < n := by omega
    have h2 : a ≤ n := by omega
    clear h
    go_enter Try.func16, Try.ntmps16
    go_wp2
    go_ret
    exact ⟨ret_bool (by simp; omega), rfl⟩
end FloatR
end Go.Proofs.Ytkiffgadnkniaaa
