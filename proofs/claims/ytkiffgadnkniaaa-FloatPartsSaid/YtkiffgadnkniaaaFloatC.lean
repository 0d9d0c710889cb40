/-
  What each function of package float returns, for every argument: contracts over the loaded program.
-/
import Derived.Test.YtkiffgadnkniaaaProg
import Derived.Test.YtkiffgadnkniaaaBase
import Derived.Test.YtkiffgadnkniaaaPure1
import Derived.WalkKit
import Derived.WalkLawsBesides
import Derived.Lib.Hide
namespace Go.Proofs.Ytkiffgadnkniaaa
open Go.RowKit
set_option linter.unusedVariables false
namespace FloatC
theorem negative_c (x : Int) (h0 : 0 ≤ x) (h1 : x ≤ 18446744073709551615) (w : World) :
    Calls Try.prog 26 #[.int .u64 x] w fun e w' => e = .returned (.bool (F.sgn x)) ∧ w = w' := by
  go_enter Try.func26, Try.ntmps26
  go_wp2
  go_ret
  exact ⟨rfl, rfl⟩
theorem Neg_c (x : Int) (h0 : 0 ≤ x) (h1 : x ≤ 18446744073709551615) (w : World) :
    Calls Try.prog 13 #[.int .u64 x] w fun e w' => e = .returned (.int .u64 (F.neg x)) ∧ w = w' := by
  go_enter Try.func13, Try.ntmps13
  go_wp2
  go_ret
  exact ⟨ret_int (F.neg_bits x h0 h1), rfl⟩
theorem Abs_c (x : Int) (h0 : 0 ≤ x) (h1 : x ≤ 18446744073709551615) (w : World) :
    Calls Try.prog 14 #[.int .u64 x] w fun e w' => e = .returned (.int .u64 (F.abs x)) ∧ w = w' := by
  go_enter Try.func14, Try.ntmps14
  go_wp2
  go_ret
  exact ⟨ret_int (F.abs_bits x h0 h1), rfl⟩
theorem Parts_c (x : Int) (h0 : 0 ≤ x) (h1 : x ≤ 18446744073709551615) (w : World) :
    Calls Try.prog 9 #[.int .u64 x] w fun e w' => e = .returned (.tuple #[.bool (F.sgn x), .int .i64 (F.exq x), .int .u64 (F.fra x)]) ∧ w = w' := by
  obtain ⟨a0, a1⟩ := F.abs_bd x
  go_enter Try.func9, Try.ntmps9
  go_wp2_with (first | (go_at_call 26; (with_reducible refine (negative_c _ h0 h1 _).mono ?_); rintro e w' ⟨rfl, rfl⟩) | (go_at_call 14; (with_reducible refine (Abs_c _ h0 h1 _).mono ?_); rintro e w' ⟨rfl, rfl⟩))
  go_ret3
  exact ⟨rfl, rfl⟩
theorem Class_c (x : Int) (h0 : 0 ≤ x) (h1 : x ≤ 18446744073709551615) (w : World) :
    Calls Try.prog 11 #[.int .u64 x] w fun e w' => e = .returned (.int .i64 (F.cls x)) ∧ w = w' := by
  go_enter Try.func11, Try.ntmps11
  go_wp2_with (go_at_call 9; (with_reducible refine (Parts_c _ h0 h1 _).mono ?_); rintro e w' ⟨rfl, rfl⟩)
  all_goals (go_ret; refine ⟨ret_int ?_, rfl⟩; unfold F.cls; simp_all; try omega)
theorem Make_ok (b : Bool) (x y : Int) (h0 : 0 ≤ x) (h1 : x ≤ 2047) (h2 : 0 ≤ y) (h3 : y ≤ 4503599627370495) (w : World) :
    Calls Try.prog 15 #[.bool b, .int .i64 x, .int .u64 y] w fun e w' => e = .returned (.tuple #[.int .u64 (F.mk b x y), .int .i64 0]) ∧ w = w' := by
  have ho := Lib.hid (F.or_bits x y h0 h1 h2 h3)
  have hr : 0 ≤ bits .or .u64 (x * 4503599627370496) y ∧ bits .or .u64 (x * 4503599627370496) y ≤ 18446744073709551615 := by rw [ho.out]; omega
  obtain ⟨r0, r1⟩ := hr
  cases b
  all_goals
    go_enter Try.func15, Try.ntmps15
    go_wp2_with (go_at_call 13; (with_reducible refine (Neg_c _ r0 r1 _).mono ?_); rintro e w' ⟨rfl, rfl⟩)
    go_ret2
    rw [ho.out]
    exact ⟨rfl, rfl⟩
theorem Make_no (b : Bool) (x y : Int) (h : x < 0 ∨ 2047 < x ∨ 4503599627370495 < y) (w : World) :
    Calls Try.prog 15 #[.bool b, .int .i64 x, .int .u64 y] w fun e w' => e = .returned (.tuple #[.int .u64 0, .int .i64 1]) ∧ w = w' := by
  by_cases h1 : x < 0
  · go_enter Try.func15, Try.ntmps15
    go_wp2
    go_ret2
    exact ⟨rfl, rfl⟩
  · by_cases h2 : 2047 < x
    · go_enter Try.func15, Try.ntmps15
      go_wp2
      go_ret2
      exact ⟨rfl, rfl⟩
    · have h3 : 4503599627370496 ≤ y := by omega
      clear h
      go_enter Try.func15, Try.ntmps15
      go_wp2
      go_ret2
      exact ⟨rfl, rfl⟩
theorem Rank_ok (x : Int) (h0 : 0 ≤ x) (h1 : x ≤ 18446744073709551615) (hn : F.nn x) (w : World) :
    Calls Try.prog 17 #[.int .u64 x] w fun e w' => e = .returned (.tuple #[.int .i64 (F.rnk x), .int .i64 0]) ∧ w = w' := by
  obtain ⟨a0, a1⟩ := F.abs_bd x
  have hc : (F.cls x == 5) = false := by rw [beq_eq_false_iff_ne]; intro h; have := (F.cls_nan x).1 h; unfold F.nn at hn; omega
  by_cases hs : x < 9223372036854775808
  · have hg := F.sgn_f hs
    have he := Lib.hid (show F.abs x = F.rnk x by unfold F.abs F.rnk; unfold F.nn at hn; rw [if_pos hs]; omega)
    go_enter Try.func17, Try.ntmps17
    go_wp2_with (first | (go_at_call 11; (with_reducible refine (Class_c _ h0 h1 _).mono ?_); rintro e w' ⟨rfl, rfl⟩) | (go_at_call 26; (with_reducible refine (negative_c _ h0 h1 _).mono ?_); rintro e w' ⟨rfl, rfl⟩) | (go_at_call 14; (with_reducible refine (Abs_c _ h0 h1 _).mono ?_); rintro e w' ⟨rfl, rfl⟩))
    go_ret2
    rw [← he.out]
    exact ⟨rfl, rfl⟩
  · have hg := F.sgn_t (show 9223372036854775808 ≤ x by omega)
    have he := Lib.hid (show -F.abs x = F.rnk x by unfold F.abs F.rnk; unfold F.nn at hn; rw [if_neg hs]; omega)
    go_enter Try.func17, Try.ntmps17
    go_wp2_with (first | (go_at_call 11; (with_reducible refine (Class_c _ h0 h1 _).mono ?_); rintro e w' ⟨rfl, rfl⟩) | (go_at_call 26; (with_reducible refine (negative_c _ h0 h1 _).mono ?_); rintro e w' ⟨rfl, rfl⟩) | (go_at_call 14; (with_reducible refine (Abs_c _ h0 h1 _).mono ?_); rintro e w' ⟨rfl, rfl⟩))
    go_ret2
    rw [← he.out]
    exact ⟨rfl, rfl⟩
theorem Rank_no (x : Int) (h0 : 0 ≤ x) (h1 : x ≤ 18446744073709551615) (hn : 9218868437227405312 < x % 9223372036854775808) (w : World) :
    Calls Try.prog 17 #[.int .u64 x] w fun e w' => e = .returned (.tuple #[.int .i64 0, .int .i64 4]) ∧ w = w' := by
  have hc : (F.cls x == 5) = true := by rw [beq_iff_eq]; exact (F.cls_nan x).2 hn
  go_enter Try.func17, Try.ntmps17
  go_wp2_with (first | (go_at_call 11; (with_reducible refine (Class_c _ h0 h1 _).mono ?_); rintro e w' ⟨rfl, rfl⟩))
  go_ret2
  exact ⟨rfl, rfl⟩
theorem Of_ok (n : Int) (h0 : -9218868437227405312 ≤ n) (h1 : n ≤ 9218868437227405312) (w : World) :
    Calls Try.prog 18 #[.int .i64 n] w fun e w' => e = .returned (.tuple #[.int .u64 (F.num n), .int .i64 0]) ∧ w = w' := by
  by_cases hs : n < 0
  · have he := Lib.hid (show F.neg (-n) = F.num n by unfold F.neg F.num; rw [if_pos hs, if_pos (by omega)]; omega)
    have b0 : 0 ≤ -n := by omega
    have b1 : -n ≤ 18446744073709551615 := by omega
    go_enter Try.func18, Try.ntmps18
    go_wp2_with (go_at_call 13; (with_reducible refine (Neg_c _ (by omega) (by omega) _).mono ?_); rintro e w' ⟨rfl, rfl⟩)
    go_ret2
    rw [← he.out]
    exact ⟨rfl, rfl⟩
  · have he := Lib.hid (show n = F.num n by unfold F.num; rw [if_neg hs])
    go_enter Try.func18, Try.ntmps18
    go_wp2
    go_ret2
    rw [← he.out]
    exact ⟨rfl, rfl⟩
theorem Of_no (n : Int) (h : n < -9218868437227405312 ∨ 9218868437227405312 < n) (w : World) :
    Calls Try.prog 18 #[.int .i64 n] w fun e w' => e = .returned (.tuple #[.int .u64 0, .int .i64 1]) ∧ w = w' := by
  by_cases h1 : n < -9218868437227405312
  · go_enter Try.func18, Try.ntmps18
    go_wp2
    go_ret2
    exact ⟨rfl, rfl⟩
  · have h2 : 9218868437227405312 < n := by omega
    go_enter Try.func18, Try.ntmps18
    go_wp2
    go_ret2
    exact ⟨rfl, rfl⟩
theorem Next_c (x : Int) (h0 : 0 ≤ x) (h1 : x ≤ 18446744073709551615) (w : World) :
    Calls Try.prog 20 #[.int .u64 x] w fun e w' => e = .returned (.int .u64 (F.nxt x)) ∧ w = w' := by
  have hN := Lib.hid (F.cls_nan x)
  have hS := Lib.hid (F.sgn_iff x)
  go_enter Try.func20, Try.ntmps20
  go_wp2_with (first | (go_at_call 11; (with_reducible refine (Class_c _ h0 h1 _).mono ?_); rintro e w' ⟨rfl, rfl⟩) | (go_at_call 26; (with_reducible refine (negative_c _ h0 h1 _).mono ?_); rintro e w' ⟨rfl, rfl⟩))
  all_goals
    go_ret
    refine ⟨ret_int ?_, rfl⟩
    have hn := hN.out
    have hs := hS.out
    clear hN hS
    unfold F.nxt
    try simp only [IntKind.wrap_u64]
    simp_all
    try omega
    try (split <;> (first | omega | (split <;> omega)))
theorem Prev_c (x : Int) (h0 : 0 ≤ x) (h1 : x ≤ 18446744073709551615) (w : World) :
    Calls Try.prog 21 #[.int .u64 x] w fun e w' => e = .returned (.int .u64 (F.prv x)) ∧ w = w' := by
  have n1 := F.neg_bd x h0 h1
  have n2 := F.nxt_bd _ n1.1 n1.2
  by_cases hn : 9218868437227405312 < x % 9223372036854775808
  · have hc : (F.cls x == 5) = true := by rw [beq_iff_eq]; exact (F.cls_nan x).2 hn
    have he := Lib.hid (show 9221120237041090560 = F.prv x by unfold F.prv; rw [if_pos hn])
    clear hn
    go_enter Try.func21, Try.ntmps21
    go_wp2_with (first | (go_at_call 11; (with_reducible refine (Class_c _ h0 h1 _).mono ?_); rintro e w' ⟨rfl, rfl⟩))
    go_ret
    rw [← he.out]
    exact ⟨rfl, rfl⟩
  · have hc : (F.cls x == 5) = false := by rw [beq_eq_false_iff_ne]; intro h; have := (F.cls_nan x).1 h; omega
    have he := Lib.hid (show F.neg (F.nxt (F.neg x)) = F.prv x by unfold F.prv; rw [if_neg hn])
    clear hn
    go_enter Try.func21, Try.ntmps21
    go_wp2_with (first | (go_at_call 11; (with_reducible refine (Class_c _ h0 h1 _).mono ?_); rintro e w' ⟨rfl, rfl⟩) | (go_at_call 20; (with_reducible refine (Next_c _ n1.1 n1.2 _).mono ?_); rintro e w' ⟨rfl, rfl⟩) | (go_at_call 13; (with_reducible refine (Neg_c _ (by omega) (by omega) _).mono ?_); rintro e w' ⟨rfl, rfl⟩))
    go_ret
    rw [← he.out]
    exact ⟨rfl, rfl⟩
theorem Ulp_ok (x : Int) (h0 : 0 ≤ x) (h1 : x ≤ 18446744073709551615) (he : F.exq x ≤ 2046) (w : World) :
    Calls Try.prog 19 #[.int .u64 x] w fun e w' => e = .returned (.tuple #[.int .i64 (F.ulp x), .int .i64 0]) ∧ w = w' := by
  have hb := F.exq_bd x
  have hc : (F.exq x == 2047) = false := by rw [beq_eq_false_iff_ne]; omega
  by_cases h3 : 1 ≤ F.exq x
  · have hu := Lib.hid (show F.exq x - 1075 = F.ulp x by unfold F.ulp; rw [if_pos h3])
    go_enter Try.func19, Try.ntmps19
    go_wp2_with (first | (go_at_call 9; (with_reducible refine (Parts_c _ h0 h1 _).mono ?_); rintro e w' ⟨rfl, rfl⟩))
    go_ret2
    rw [← hu.out]
    exact ⟨rfl, rfl⟩
  · have hu := Lib.hid (show -1074 = F.ulp x by unfold F.ulp; rw [if_neg h3]; rfl)
    go_enter Try.func19, Try.ntmps19
    go_wp2_with (first | (go_at_call 9; (with_reducible refine (Parts_c _ h0 h1 _).mono ?_); rintro e w' ⟨rfl, rfl⟩))
    go_ret2
    rw [← hu.out]
    exact ⟨rfl, rfl⟩
theorem Ulp_no (x : Int) (h0 : 0 ≤ x) (h1 : x ≤ 18446744073709551615) (he : F.exq x = 2047) (w : World) :
    Calls Try.prog 19 #[.int .u64 x] w fun e w' => e = .returned (.tuple #[.int .i64 0, .int .i64 4]) ∧ w = w' := by
  have hc : (F.exq x == 2047) = true := by rw [beq_iff_eq]; omega
  clear he
  go_enter Try.func19, Try.ntmps19
  go_wp2_with (first | (go_at_call 9; (with_reducible refine (Parts_c _ h0 h1 _).mono ?_); rintro e w' ⟨rfl, rfl⟩))
  go_ret2
  exact ⟨rfl, rfl⟩
end FloatC
end Go.Proofs.Ytkiffgadnkniaaa
