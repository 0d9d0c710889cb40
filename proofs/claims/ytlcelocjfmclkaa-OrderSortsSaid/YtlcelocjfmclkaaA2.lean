/-
  What the comparisons of package order return, for every argument: contracts over the loaded program.
-/
import Derived.Test.YtlcelocjfmclkaaFloatC
import Derived.Test.YtlcelocjfmclkaaA1
namespace Go.Proofs.Ytlcelocjfmclkaa
open Go.RowKit
set_option linter.unusedVariables false
namespace AC
theorem nanI_c (x : Int) (w : World) : Calls Try.prog 38 #[.int .i64 x] w fun e w' => e = .returned (.bool false) ∧ w = w' := by
  go_enter Try.func38, Try.ntmps38
  go_wp2
  go_ret
  exact ⟨ret_bool (by simp), rfl⟩
theorem nanU_c (x : Int) (w : World) : Calls Try.prog 39 #[.int .u64 x] w fun e w' => e = .returned (.bool false) ∧ w = w' := by
  go_enter Try.func39, Try.ntmps39
  go_wp2
  go_ret
  exact ⟨ret_bool (by simp), rfl⟩
theorem cmpI_c (x y : Int) (w : World) : Calls Try.prog 26 #[.int .i64 x, .int .i64 y] w fun e w' => e = .returned (.int .i64 (A.ct x y)) ∧ w = w' := by
  rcases A.ct_3 x y with ⟨h, e⟩ | ⟨h, e⟩ | ⟨h, e⟩
  · rw [e]; clear e
    go_enter Try.func26, Try.ntmps26
    go_wp2_with (first | (go_at_call 38; (with_reducible refine (nanI_c _ _).mono ?_); rintro e w' ⟨rfl, rfl⟩))
    go_ret
    exact ⟨rfl, rfl⟩
  · rw [e]; clear e
    have h2 : ¬ x < y := by omega
    go_enter Try.func26, Try.ntmps26
    go_wp2_with (first | (go_at_call 38; (with_reducible refine (nanI_c _ _).mono ?_); rintro e w' ⟨rfl, rfl⟩))
    go_ret
    exact ⟨rfl, rfl⟩
  · rw [e]; clear e; subst h
    go_enter Try.func26, Try.ntmps26
    go_wp2_with (first | (go_at_call 38; (with_reducible refine (nanI_c _ _).mono ?_); rintro e w' ⟨rfl, rfl⟩))
    go_ret
    exact ⟨rfl, rfl⟩
theorem cmpU_c (x y : Int) (w : World) : Calls Try.prog 28 #[.int .u64 x, .int .u64 y] w fun e w' => e = .returned (.int .i64 (A.ct x y)) ∧ w = w' := by
  rcases A.ct_3 x y with ⟨h, e⟩ | ⟨h, e⟩ | ⟨h, e⟩
  · rw [e]; clear e
    go_enter Try.func28, Try.ntmps28
    go_wp2_with (first | (go_at_call 39; (with_reducible refine (nanU_c _ _).mono ?_); rintro e w' ⟨rfl, rfl⟩))
    go_ret
    exact ⟨rfl, rfl⟩
  · rw [e]; clear e
    have h2 : ¬ x < y := by omega
    go_enter Try.func28, Try.ntmps28
    go_wp2_with (first | (go_at_call 39; (with_reducible refine (nanU_c _ _).mono ?_); rintro e w' ⟨rfl, rfl⟩))
    go_ret
    exact ⟨rfl, rfl⟩
  · rw [e]; clear e; subst h
    go_enter Try.func28, Try.ntmps28
    go_wp2_with (first | (go_at_call 39; (with_reducible refine (nanU_c _ _).mono ?_); rintro e w' ⟨rfl, rfl⟩))
    go_ret
    exact ⟨rfl, rfl⟩
theorem key_c (x : Int) (h0 : 0 ≤ x) (h1 : x ≤ 18446744073709551615) (w : World) :
    Calls Try.prog 29 #[.int .u64 x] w fun e w' => e = .returned (.int .u64 (A.key x)) ∧ w = w' := by
  by_cases hs : x < 9223372036854775808
  · have hg := F.sgn_f hs
    have he := Lib.hid (show bits .or .u64 x 9223372036854775808 = A.key x by
      unfold A.key
      rw [if_pos hs, u64_or _ _ h0 (by omega) (by omega) (by omega), Nat.or_comm, nat_join 63 _ _ (by decide) (by omega)]; omega)
    go_enter Try.func29, Try.ntmps29
    go_wp2_with (first | (go_at_call 33; (with_reducible refine (FloatC.Parts_c _ h0 h1 _).mono ?_); rintro e w' ⟨rfl, rfl⟩))
    go_ret
    rw [← he.out]
    exact ⟨rfl, rfl⟩
  · have hg := F.sgn_t (show 9223372036854775808 ≤ x by omega)
    have he := Lib.hid (show bits .xor .u64 IntKind.u64.max x = A.key x by rw [A.not_bits x h0 h1]; unfold A.key; rw [if_neg hs])
    go_enter Try.func29, Try.ntmps29
    go_wp2_with (first | (go_at_call 33; (with_reducible refine (FloatC.Parts_c _ h0 h1 _).mono ?_); rintro e w' ⟨rfl, rfl⟩))
    all_goals
      go_ret
      rw [← he.out]
      exact ⟨rfl, rfl⟩
theorem Total_c (x y : Int) (h0 : 0 ≤ x) (h1 : x ≤ 18446744073709551615) (k0 : 0 ≤ y) (k1 : y ≤ 18446744073709551615) (w : World) :
    Calls Try.prog 13 #[.int .u64 x, .int .u64 y] w fun e w' => e = .returned (.int .i64 (A.tot x y)) ∧ w = w' := by
  go_enter Try.func13, Try.ntmps13
  go_wp2_with (first | (go_at_call 29; (with_reducible refine (key_c _ (by omega) (by omega) _).mono ?_); rintro e w' ⟨rfl, rfl⟩) | (go_at_call 28; (with_reducible refine (cmpU_c _ _ _).mono ?_); rintro e w' ⟨rfl, rfl⟩))
  go_ret
  exact ⟨rfl, rfl⟩
theorem anyNan_c (x y : Int) (h0 : 0 ≤ x) (h1 : x ≤ 18446744073709551615) (k0 : 0 ≤ y) (k1 : y ≤ 18446744073709551615) (b : Bool) (hb : (A.nan x || A.nan y) = b) (w : World) :
    Calls Try.prog 24 #[.int .u64 x, .int .u64 y] w fun e w' => e = .returned (.bool b) ∧ w = w' := by
  subst hb
  unfold A.nan
  cases hx : (F.cls x == 5)
  · rw [Bool.false_or]
    go_enter Try.func24, Try.ntmps24
    go_wp2_with (first | (go_at_call 21; (with_reducible refine (FloatC.Class_c _ (by omega) (by omega) _).mono ?_); rintro e w' ⟨rfl, rfl⟩))
    go_ret
    exact ⟨rfl, rfl⟩
  · rw [Bool.true_or]
    go_enter Try.func24, Try.ntmps24
    go_wp2_with (first | (go_at_call 21; (with_reducible refine (FloatC.Class_c _ (by omega) (by omega) _).mono ?_); rintro e w' ⟨rfl, rfl⟩))
    go_ret
    exact ⟨rfl, rfl⟩
theorem Cmp_c (x y : Int) (h0 : 0 ≤ x) (h1 : x ≤ 18446744073709551615) (k0 : 0 ≤ y) (k1 : y ≤ 18446744073709551615) (w : World) :
    Calls Try.prog 8 #[.int .u64 x, .int .u64 y] w fun e w' => e = .returned (.tuple #[.int .i64 (A.cmpn x y), .bool (A.has x y)]) ∧ w = w' := by
  cases hb : (A.nan x || A.nan y)
  · have hh := hb
    rw [Bool.or_eq_false_iff, A.nan_no, A.nan_no] at hh
    obtain ⟨hx, hy⟩ := hh
    rw [show A.cmpn x y = A.ct (F.rnk x) (F.rnk y) by unfold A.cmpn; rw [hb]; rfl, show A.has x y = true by unfold A.has; rw [hb]; rfl]
    have HB := Lib.hid hb
    clear hb
    go_enter Try.func8, Try.ntmps8
    go_wp2_with (first | (go_at_call 24; (with_reducible refine (anyNan_c _ _ h0 h1 k0 k1 false HB.out _).mono ?_); rintro e w' ⟨rfl, rfl⟩) | (go_at_call 25; first | ((with_reducible refine (FloatC.Rank_ok x h0 h1 hx _).mono ?_); rintro e w' ⟨rfl, rfl⟩) | ((with_reducible refine (FloatC.Rank_ok y k0 k1 hy _).mono ?_); rintro e w' ⟨rfl, rfl⟩)) | (go_at_call 26; (with_reducible refine (cmpI_c _ _ _).mono ?_); rintro e w' ⟨rfl, rfl⟩))
    go_ret2
    exact ⟨rfl, rfl⟩
  · rw [show A.cmpn x y = 0 by unfold A.cmpn; rw [hb]; rfl, show A.has x y = false by unfold A.has; rw [hb]; rfl]
    have HB := Lib.hid hb
    clear hb
    go_enter Try.func8, Try.ntmps8
    go_wp2_with (first | (go_at_call 24; (with_reducible refine (anyNan_c _ _ h0 h1 k0 k1 true HB.out _).mono ?_); rintro e w' ⟨rfl, rfl⟩))
    go_ret2
    exact ⟨rfl, rfl⟩
theorem Min_c (x y : Int) (h0 : 0 ≤ x) (h1 : x ≤ 18446744073709551615) (k0 : 0 ≤ y) (k1 : y ≤ 18446744073709551615) (w : World) :
    Calls Try.prog 9 #[.int .u64 x, .int .u64 y] w fun e w' => e = .returned (.int .u64 (A.mn x y)) ∧ w = w' := by
  cases hb : (A.nan x || A.nan y)
  · by_cases hk : A.key x < A.key y
    · rw [show A.mn x y = x by unfold A.mn; rw [hb, if_neg (by decide), if_pos hk]]
      have ht : A.tot x y = -1 := A.ct_lt hk
      have HB := Lib.hid hb
      clear hb hk
      go_enter Try.func9, Try.ntmps9
      go_wp2_with (first | (go_at_call 24; (with_reducible refine (anyNan_c _ _ h0 h1 k0 k1 false HB.out _).mono ?_); rintro e w' ⟨rfl, rfl⟩) | (go_at_call 13; (with_reducible refine (Total_c _ _ h0 h1 k0 k1 _).mono ?_); rintro e w' ⟨rfl, rfl⟩))
      go_ret
      exact ⟨rfl, rfl⟩
    · rw [show A.mn x y = y by unfold A.mn; rw [hb, if_neg (by decide), if_neg hk]]
      have ht : ¬ A.tot x y < 0 := by unfold A.tot A.ct; rw [if_neg hk]; split <;> decide
      have HB := Lib.hid hb
      clear hb hk
      go_enter Try.func9, Try.ntmps9
      go_wp2_with (first | (go_at_call 24; (with_reducible refine (anyNan_c _ _ h0 h1 k0 k1 false HB.out _).mono ?_); rintro e w' ⟨rfl, rfl⟩) | (go_at_call 13; (with_reducible refine (Total_c _ _ h0 h1 k0 k1 _).mono ?_); rintro e w' ⟨rfl, rfl⟩))
      go_ret
      exact ⟨rfl, rfl⟩
  · rw [show A.mn x y = 9221120237041090560 by unfold A.mn; rw [hb]; rfl]
    have HB := Lib.hid hb
    clear hb
    go_enter Try.func9, Try.ntmps9
    go_wp2_with (first | (go_at_call 24; (with_reducible refine (anyNan_c _ _ h0 h1 k0 k1 true HB.out _).mono ?_); rintro e w' ⟨rfl, rfl⟩))
    go_ret
    exact ⟨rfl, rfl⟩
theorem Max_c (x y : Int) (h0 : 0 ≤ x) (h1 : x ≤ 18446744073709551615) (k0 : 0 ≤ y) (k1 : y ≤ 18446744073709551615) (w : World) :
    Calls Try.prog 10 #[.int .u64 x, .int .u64 y] w fun e w' => e = .returned (.int .u64 (A.mx x y)) ∧ w = w' := by
  cases hb : (A.nan x || A.nan y)
  · by_cases hk : A.key y < A.key x
    · rw [show A.mx x y = x by unfold A.mx; rw [hb, if_neg (by decide), if_pos hk]]
      have ht : A.tot x y = 1 := A.ct_gt hk
      have HB := Lib.hid hb
      clear hb hk
      go_enter Try.func10, Try.ntmps10
      go_wp2_with (first | (go_at_call 24; (with_reducible refine (anyNan_c _ _ h0 h1 k0 k1 false HB.out _).mono ?_); rintro e w' ⟨rfl, rfl⟩) | (go_at_call 13; (with_reducible refine (Total_c _ _ h0 h1 k0 k1 _).mono ?_); rintro e w' ⟨rfl, rfl⟩))
      go_ret
      exact ⟨rfl, rfl⟩
    · rw [show A.mx x y = y by unfold A.mx; rw [hb, if_neg (by decide), if_neg hk]]
      have ht : ¬ 0 < A.tot x y := by unfold A.tot A.ct; rw [if_neg hk]; split <;> decide
      have HB := Lib.hid hb
      clear hb hk
      go_enter Try.func10, Try.ntmps10
      go_wp2_with (first | (go_at_call 24; (with_reducible refine (anyNan_c _ _ h0 h1 k0 k1 false HB.out _).mono ?_); rintro e w' ⟨rfl, rfl⟩) | (go_at_call 13; (with_reducible refine (Total_c _ _ h0 h1 k0 k1 _).mono ?_); rintro e w' ⟨rfl, rfl⟩))
      go_ret
      exact ⟨rfl, rfl⟩
  · rw [show A.mx x y = 9221120237041090560 by unfold A.mx; rw [hb]; rfl]
    have HB := Lib.hid hb
    clear hb
    go_enter Try.func10, Try.ntmps10
    go_wp2_with (first | (go_at_call 24; (with_reducible refine (anyNan_c _ _ h0 h1 k0 k1 true HB.out _).mono ?_); rintro e w' ⟨rfl, rfl⟩))
    go_ret
    exact ⟨rfl, rfl⟩
end AC
end Go.Proofs.Ytlcelocjfmclkaa
