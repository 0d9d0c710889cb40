/-
  Each law of package ulpkeep on numbers' bits returns true, for every argument.
-/
import Derived.Test.YtkiffgadnkniaaaFloatC
import Derived.Test.YtkiffgadnkniaaaOk
import Derived.Deep.QuietTactic
import Derived.BigQuiet
import Derived.Outline
namespace Go.Proofs.Ytkiffgadnkniaaa
open Go.RowKit
set_option linter.unusedVariables false
namespace FloatL
theorem lives_c (w : World) :
    Calls Try.prog 24 #[] w fun e w' => e = .returned (.bool true) ∧ w = w' := by
  have r := fun w => FloatC.Rank_ok 13830554455654793216 (by decide) (by decide) (by unfold F.nn; decide) w
  have m := fun w => FloatC.Make_ok true 1023 0 (by decide) (by decide) (by decide) (by decide) w
  have n := fun w => FloatC.Next_c 4607182418800017408 (by decide) (by decide) w
  have c := fun w => FloatC.Class_c 1 (by decide) (by decide) w
  rw [show F.rnk 13830554455654793216 = -4607182418800017408 by decide] at r
  rw [show F.mk true 1023 0 = 13830554455654793216 by decide] at m
  rw [show F.nxt 4607182418800017408 = 4607182418800017409 by decide] at n
  rw [show F.cls 1 = 2 by decide] at c
  have R := Lib.hid r
  have M := Lib.hid m
  have N := Lib.hid n
  have C := Lib.hid c
  clear r m n c
  go_enter Try.func24, Try.ntmps24
  go_wp2_with (first | (go_at_call 17; (with_reducible refine (R.out _).mono ?_); rintro e w' ⟨rfl, rfl⟩) | (go_at_call 15; (with_reducible refine (M.out _).mono ?_); rintro e w' ⟨rfl, rfl⟩) | (go_at_call 20; (with_reducible refine (N.out _).mono ?_); rintro e w' ⟨rfl, rfl⟩) | (go_at_call 11; (with_reducible refine (C.out _).mono ?_); rintro e w' ⟨rfl, rfl⟩))
  go_ret
  exact ⟨rfl, rfl⟩
theorem made (x : Int) (h0 : 0 ≤ x) (h1 : x ≤ 18446744073709551615) (w : World) :
    Calls Try.prog 5 #[.int .u64 x] w fun e w' => e = .returned (.bool true) ∧ w = w' := by
  have e1 := F.exq_bd x
  have f1 := F.fra_bd x
  have n1 := F.neg_bd x h0 h1
  have mk := fun w => FloatC.Make_ok (F.sgn x) (F.exq x) (F.fra x) e1.1 e1.2 f1.1 f1.2 w
  rw [F.mk_parts x h0 h1] at mk
  have nn := fun w => FloatC.Neg_c (F.neg x) n1.1 n1.2 w
  rw [F.neg_neg x h0 h1] at nn
  have nx := fun w => FloatC.Neg_c x h0 h1 w
  have cn := fun w => FloatC.Class_c (F.neg x) n1.1 n1.2 w
  rw [F.cls_neg x] at cn
  have cx := fun w => FloatC.Class_c x h0 h1 w
  have an := fun w => FloatC.Abs_c (F.neg x) n1.1 n1.2 w
  rw [F.abs_neg x] at an
  have ax := fun w => FloatC.Abs_c x h0 h1 w
  have hne : (F.neg x == x) = false := by rw [beq_eq_false_iff_ne]; exact F.neg_ne x
  have hne2 : (F.neg x != x) = true := by rw [bne_iff_ne]; exact F.neg_ne x
  have MK := Lib.hid mk
  have NN := Lib.hid nn
  have NX := Lib.hid nx
  have CN := Lib.hid cn
  have CX := Lib.hid cx
  have AN := Lib.hid an
  have AX := Lib.hid ax
  clear mk nn nx cn cx an ax
  go_enter Try.func5, Try.ntmps5
  go_wp2_with (first | (go_at_call 9; (with_reducible refine (FloatC.Parts_c _ h0 h1 _).mono ?_); rintro e w' ⟨rfl, rfl⟩) | (go_at_call 15; (with_reducible refine (MK.out _).mono ?_); rintro e w' ⟨rfl, rfl⟩) | (go_at_call 24; (with_reducible refine (lives_c _).mono ?_); rintro e w' ⟨rfl, rfl⟩) | (go_at_call 13; (with_reducible refine (NX.out _).mono ?_); rintro e w' ⟨rfl, rfl⟩) | (go_at_call 13; (with_reducible refine (NN.out _).mono ?_); rintro e w' ⟨rfl, rfl⟩) | (go_at_call 11; (with_reducible refine (CN.out _).mono ?_); rintro e w' ⟨rfl, rfl⟩) | (go_at_call 11; (with_reducible refine (CX.out _).mono ?_); rintro e w' ⟨rfl, rfl⟩) | (go_at_call 14; (with_reducible refine (AN.out _).mono ?_); rintro e w' ⟨rfl, rfl⟩) | (go_at_call 14; (with_reducible refine (AX.out _).mono ?_); rintro e w' ⟨rfl, rfl⟩))
  go_ret
  exact ⟨rfl, rfl⟩
theorem steps_x (x y : Int) (h0 : 0 ≤ x) (h1 : x ≤ 18446744073709551615) (g0 : 0 ≤ y) (g1 : y ≤ 18446744073709551615) (hx : ¬ F.nn x) (e4 n4 : Int)
    (hy : ∀ w, Calls Try.prog 17 #[.int .u64 y] w fun e w' => e = .returned (.tuple #[.int .i64 n4, .int .i64 e4]) ∧ w = w') (w : World) :
    Calls Try.prog 6 #[.int .u64 x, .int .u64 y] w fun e w' => e = .returned (.bool true) ∧ Grown w w' := by
  have hn : F.nxt x = 9221120237041090560 := by unfold F.nxt; rw [if_pos (by unfold F.nn at hx; omega)]
  have nx := fun w => FloatC.Next_c x h0 h1 w
  rw [hn] at nx
  have rx := fun w => FloatC.Rank_no x h0 h1 (by unfold F.nn at hx; omega) w
  have ok := fun b w hb => OkC.ok2 4 e4 false (by simp) b w hb
  have NX := Lib.hid nx
  have RX := Lib.hid rx
  have RY := Lib.hid hy
  have OK := Lib.hid ok
  clear nx rx hy hn hx ok
  go_enter Try.func6, Try.ntmps6
  go_wp2_with (first | (go_at_call 17; (with_reducible refine (RX.out _).mono ?_); rintro e w' ⟨rfl, rfl⟩) | (go_at_call 17; (with_reducible refine (RY.out _).mono ?_); rintro e w' ⟨rfl, rfl⟩) | (go_at_call 24; (with_reducible refine (lives_c _).mono ?_); rintro e w' ⟨rfl, rfl⟩) | (go_at_call 25; (with_reducible refine (OK.out _ _ (by simp)).mono ?_); rintro e w' ⟨rfl, rfl⟩) | (go_at_call 20; (with_reducible refine (NX.out _).mono ?_); rintro e w' ⟨rfl, rfl⟩))
  go_ret
  exact ⟨rfl, by repeat (first | exact Grown.refl _ | apply Grown.drew | apply Grown.alloc)⟩
theorem steps_y (x y : Int) (h0 : 0 ≤ x) (h1 : x ≤ 18446744073709551615) (g0 : 0 ≤ y) (g1 : y ≤ 18446744073709551615) (hx : F.nn x) (hy : ¬ F.nn y) (w : World) :
    Calls Try.prog 6 #[.int .u64 x, .int .u64 y] w fun e w' => e = .returned (.bool true) ∧ Grown w w' := by
  have rx := fun w => FloatC.Rank_ok x h0 h1 hx w
  have ry := fun w => FloatC.Rank_no y g0 g1 (by unfold F.nn at hy; omega) w
  have ok := fun b w hb => OkC.ok2 0 4 false (by simp) b w hb
  have RX := Lib.hid rx
  have RY := Lib.hid ry
  have OK := Lib.hid ok
  clear ry rx hy hx ok
  go_enter Try.func6, Try.ntmps6
  go_wp2_with (first | (go_at_call 17; (with_reducible refine (RX.out _).mono ?_); rintro e w' ⟨rfl, rfl⟩) | (go_at_call 17; (with_reducible refine (RY.out _).mono ?_); rintro e w' ⟨rfl, rfl⟩) | (go_at_call 24; (with_reducible refine (lives_c _).mono ?_); rintro e w' ⟨rfl, rfl⟩) | (go_at_call 25; (with_reducible refine (OK.out _ _ (by simp)).mono ?_); rintro e w' ⟨rfl, rfl⟩))
  go_ret
  exact ⟨rfl, by repeat (first | exact Grown.refl _ | apply Grown.drew | apply Grown.alloc)⟩
theorem steps_xy (x y : Int) (h0 : 0 ≤ x) (h1 : x ≤ 18446744073709551615) (g0 : 0 ≤ y) (g1 : y ≤ 18446744073709551615) (hx : F.nn x) (hy : F.nn y) (w : World) :
    Calls Try.prog 6 #[.int .u64 x, .int .u64 y] w fun e w' => e = .returned (.bool true) ∧ Grown w w' := by
  have rx := fun w => FloatC.Rank_ok x h0 h1 hx w
  have ry := fun w => FloatC.Rank_ok y g0 g1 hy w
  have nb := F.nxt_bd x h0 h1
  have nn := F.nn_nxt h0 h1 hx
  have pb := F.prv_bd _ nb.1 nb.2
  have pn := F.nn_prv nb.1 nb.2 nn
  have rn := fun w => FloatC.Rank_ok _ nb.1 nb.2 nn w
  have rp := fun w => FloatC.Rank_ok _ pb.1 pb.2 pn w
  have b1 := F.rnk_bd x h0 h1
  have b2 := F.rnk_bd y g0 g1
  have b3 : F.rnk x ≤ 9218868437227405312 := by unfold F.nn at hx; unfold F.rnk; split <;> omega
  rw [F.rnk_nxt h0 h1 hx] at rn
  have OK := Lib.hid (fun b w hb => OkC.ok2 0 0 true (by simp) b w hb)
  have RX := Lib.hid rx
  have RY := Lib.hid ry
  by_cases hi : x = 9218868437227405312
  · subst hi
    rw [if_pos rfl] at rn
    have RN := Lib.hid rn
    have RP := Lib.hid rp
    clear ry rx hy hx rn rp pn nn
    go_enter Try.func6, Try.ntmps6
    go_wp2_with (first | (go_at_call 17; (with_reducible refine (RX.out _).mono ?_); rintro e w' ⟨rfl, rfl⟩) | (go_at_call 17; (with_reducible refine (RY.out _).mono ?_); rintro e w' ⟨rfl, rfl⟩) | (go_at_call 24; (with_reducible refine (lives_c _).mono ?_); rintro e w' ⟨rfl, rfl⟩) | (go_at_call 25; (with_reducible refine (OK.out _ _ (by simp)).mono ?_); rintro e w' ⟨rfl, rfl⟩) | (go_at_call 20; (with_reducible refine (FloatC.Next_c _ h0 h1 _).mono ?_); rintro e w' ⟨rfl, rfl⟩) | (go_at_call 21; (with_reducible refine (FloatC.Prev_c _ nb.1 nb.2 _).mono ?_); rintro e w' ⟨rfl, rfl⟩) | (go_at_call 17; (with_reducible refine (RN.out _).mono ?_); rintro e w' ⟨rfl, rfl⟩) | (go_at_call 17; (with_reducible refine (RP.out _).mono ?_); rintro e w' ⟨rfl, rfl⟩))
    all_goals
      go_ret
      exact ⟨ret_bool (by first | rfl | (simp only [Bool.or_eq_true, decide_eq_true_eq]; omega)), by repeat (first | exact Grown.refl _ | apply Grown.drew | apply Grown.alloc)⟩
  · rw [if_neg hi] at rn
    have hne : F.nxt x ≠ 18442240474082181120 := by unfold F.nn at hx; unfold F.nxt; repeat (first | omega | split)
    rw [F.rnk_prv nb.1 nb.2 nn, if_neg hne, F.rnk_nxt h0 h1 hx, if_neg hi, show F.rnk x + 1 - 1 = F.rnk x by omega] at rp
    have b4 : F.rnk x ≤ 9218868437227405311 := by unfold F.nn at hx; unfold F.rnk; split <;> omega
    have hi2 : (x != 9218868437227405312) = true := by rw [bne_iff_ne]; exact hi
    have hu : (F.rnk x + 1 != F.rnk x + 1) = false := by simp
    have hu2 : (F.rnk x != F.rnk x) = false := by simp
    have RN := Lib.hid rn
    have RP := Lib.hid rp
    clear ry rx hy hx rn rp pn nn hi hne
    by_cases hm : F.rnk y ≤ F.rnk x
    · go_enter Try.func6, Try.ntmps6
      go_wp2_with (first | (go_at_call 17; (with_reducible refine (RX.out _).mono ?_); rintro e w' ⟨rfl, rfl⟩) | (go_at_call 17; (with_reducible refine (RY.out _).mono ?_); rintro e w' ⟨rfl, rfl⟩) | (go_at_call 24; (with_reducible refine (lives_c _).mono ?_); rintro e w' ⟨rfl, rfl⟩) | (go_at_call 25; (with_reducible refine (OK.out _ _ (by simp)).mono ?_); rintro e w' ⟨rfl, rfl⟩) | (go_at_call 20; (with_reducible refine (FloatC.Next_c _ h0 h1 _).mono ?_); rintro e w' ⟨rfl, rfl⟩) | (go_at_call 21; (with_reducible refine (FloatC.Prev_c _ nb.1 nb.2 _).mono ?_); rintro e w' ⟨rfl, rfl⟩) | (go_at_call 17; (with_reducible refine (RN.out _).mono ?_); rintro e w' ⟨rfl, rfl⟩) | (go_at_call 17; (with_reducible refine (RP.out _).mono ?_); rintro e w' ⟨rfl, rfl⟩))
      go_ret
      exact ⟨rfl, by repeat (first | exact Grown.refl _ | apply Grown.drew | apply Grown.alloc)⟩
    · have hm2 : F.rnk x + 1 ≤ F.rnk y := by omega
      go_enter Try.func6, Try.ntmps6
      go_wp2_with (first | (go_at_call 17; (with_reducible refine (RX.out _).mono ?_); rintro e w' ⟨rfl, rfl⟩) | (go_at_call 17; (with_reducible refine (RY.out _).mono ?_); rintro e w' ⟨rfl, rfl⟩) | (go_at_call 24; (with_reducible refine (lives_c _).mono ?_); rintro e w' ⟨rfl, rfl⟩) | (go_at_call 25; (with_reducible refine (OK.out _ _ (by simp)).mono ?_); rintro e w' ⟨rfl, rfl⟩) | (go_at_call 20; (with_reducible refine (FloatC.Next_c _ h0 h1 _).mono ?_); rintro e w' ⟨rfl, rfl⟩) | (go_at_call 21; (with_reducible refine (FloatC.Prev_c _ nb.1 nb.2 _).mono ?_); rintro e w' ⟨rfl, rfl⟩) | (go_at_call 17; (with_reducible refine (RN.out _).mono ?_); rintro e w' ⟨rfl, rfl⟩) | (go_at_call 17; (with_reducible refine (RP.out _).mono ?_); rintro e w' ⟨rfl, rfl⟩))
      go_ret
      exact ⟨rfl, by repeat (first | exact Grown.refl _ | apply Grown.drew | apply Grown.alloc)⟩
theorem turned_n (x : Int) (h0 : 0 ≤ x) (h1 : x ≤ 18446744073709551615) (hx : ¬ F.nn x) (w : World) :
    Calls Try.prog 7 #[.int .u64 x] w fun e w' => e = .returned (.bool true) ∧ Grown w w' := by
  have nb := F.neg_bd x h0 h1
  have RX := Lib.hid (fun w => FloatC.Rank_no x h0 h1 (by unfold F.nn at hx; omega) w)
  have RN := Lib.hid (fun w => FloatC.Rank_no _ nb.1 nb.2 (by unfold F.nn at hx; unfold F.neg; split <;> omega) w)
  clear hx
  go_enter Try.func7, Try.ntmps7
  go_wp2_with (first | (go_at_call 17; (with_reducible refine (RX.out _).mono ?_); rintro e w' ⟨rfl, rfl⟩) | (go_at_call 17; (with_reducible refine (RN.out _).mono ?_); rintro e w' ⟨rfl, rfl⟩) | (go_at_call 24; (with_reducible refine (lives_c _).mono ?_); rintro e w' ⟨rfl, rfl⟩) | (go_at_call 13; (with_reducible refine (FloatC.Neg_c _ h0 h1 _).mono ?_); rintro e w' ⟨rfl, rfl⟩))
  go_ret
  exact ⟨rfl, by repeat (first | exact Grown.refl _ | apply Grown.drew | apply Grown.alloc)⟩
theorem turned_y (x : Int) (h0 : 0 ≤ x) (h1 : x ≤ 18446744073709551615) (hx : F.nn x) (w : World) :
    Calls Try.prog 7 #[.int .u64 x] w fun e w' => e = .returned (.bool true) ∧ Grown w w' := by
  have nb := F.neg_bd x h0 h1
  have gb := F.nxt_bd _ nb.1 nb.2
  have gn := F.nn_nxt nb.1 nb.2 (F.nn_neg hx)
  have pb := F.prv_bd x h0 h1
  have pn := F.nn_prv h0 h1 hx
  have rn := fun w => FloatC.Rank_ok _ nb.1 nb.2 (F.nn_neg hx) w
  rw [F.rnk_neg x h0 h1] at rn
  have e1 : F.rnk (F.nxt (F.neg x)) = - F.rnk (F.prv x) := by
    have a1 := F.neg_bd x h0 h1
    have a2 := F.nxt_bd _ a1.1 a1.2
    unfold F.prv
    rw [if_neg (by unfold F.nn at hx; omega), F.rnk_neg _ a2.1 a2.2]; omega
  have ra := fun w => FloatC.Rank_ok _ gb.1 gb.2 gn w
  rw [e1] at ra
  have b1 := F.rnk_bd x h0 h1
  have b2 := F.rnk_bd _ pb.1 pb.2
  have hu : (-F.rnk x == -F.rnk x) = true := by simp
  have hu2 : (-F.rnk (F.prv x) == -F.rnk (F.prv x)) = true := by simp
  have RX := Lib.hid (fun w => FloatC.Rank_ok x h0 h1 hx w)
  have RN := Lib.hid rn
  have RA := Lib.hid ra
  have RP := Lib.hid (fun w => FloatC.Rank_ok _ pb.1 pb.2 pn w)
  have OK := Lib.hid (fun b w hb => OkC.ok3 0 0 0 true (by simp) b w hb)
  clear hx pn gn rn ra e1
  go_enter Try.func7, Try.ntmps7
  go_wp2_with (first | (go_at_call 17; (with_reducible refine (RX.out _).mono ?_); rintro e w' ⟨rfl, rfl⟩) | (go_at_call 17; (with_reducible refine (RN.out _).mono ?_); rintro e w' ⟨rfl, rfl⟩) | (go_at_call 17; (with_reducible refine (RA.out _).mono ?_); rintro e w' ⟨rfl, rfl⟩) | (go_at_call 17; (with_reducible refine (RP.out _).mono ?_); rintro e w' ⟨rfl, rfl⟩) | (go_at_call 24; (with_reducible refine (lives_c _).mono ?_); rintro e w' ⟨rfl, rfl⟩) | (go_at_call 13; (with_reducible refine (FloatC.Neg_c _ h0 h1 _).mono ?_); rintro e w' ⟨rfl, rfl⟩) | (go_at_call 20; (with_reducible refine (FloatC.Next_c _ nb.1 nb.2 _).mono ?_); rintro e w' ⟨rfl, rfl⟩) | (go_at_call 21; (with_reducible refine (FloatC.Prev_c _ h0 h1 _).mono ?_); rintro e w' ⟨rfl, rfl⟩) | (go_at_call 25; (with_reducible refine (OK.out _ _ (by simp)).mono ?_); rintro e w' ⟨rfl, rfl⟩))
  go_ret
  exact ⟨rfl, by repeat (first | exact Grown.refl _ | apply Grown.drew | apply Grown.alloc)⟩
theorem back_tail (x n : Int) (h0 : 0 ≤ x) (h1 : x ≤ 18446744073709551615) (hx : F.nn x) :
    -9218868437227405312 ≤ F.rnk x ∧ F.rnk x ≤ 9218868437227405312 ∧ ((F.num (F.rnk x) == x) = true ∨ (x == 9223372036854775808) = true ∧ (F.num (F.rnk x) == 0) = true ∧ (F.num (F.rnk x) == x) = false) := by
  unfold F.nn at hx
  refine ⟨by unfold F.rnk; split <;> omega, by unfold F.rnk; split <;> omega, ?_⟩
  by_cases h : x = 9223372036854775808
  · right; rw [h]; decide
  · left; rw [beq_iff_eq]; unfold F.num F.rnk; split <;> split <;> omega
theorem num_nn (n : Int) (h0 : -9218868437227405312 ≤ n) (h1 : n ≤ 9218868437227405312) : F.nn (F.num n) ∧ F.rnk (F.num n) = n := by
  unfold F.nn F.rnk F.num; constructor <;> (repeat (first | omega | split))
/-- the first half of FloatBack: what it comes to before it looks at x -/
theorem back (x n : Int) (h0 : 0 ≤ x) (h1 : x ≤ 18446744073709551615) (y e : Int)
    (ho : ∀ w, Calls Try.prog 18 #[.int .i64 n] w fun e' w' => e' = .returned (.tuple #[.int .u64 y, .int .i64 e]) ∧ w = w')
    (he : (e == 0) = false ∨ (e == 0) = true ∧ ∀ w, Calls Try.prog 17 #[.int .u64 y] w fun e w' => e = .returned (.tuple #[.int .i64 n, .int .i64 0]) ∧ w = w') (w : World) :
    Calls Try.prog 8 #[.int .u64 x, .int .i64 n] w fun e w' => e = .returned (.bool true) ∧ Grown w w' := by
  have n1 : (n != n) = false := by simp
  have HO := Lib.hid ho
  clear ho
  by_cases hx : F.nn x
  · have hb := back_tail x n h0 h1 hx
    obtain ⟨r0, r1, hb⟩ := hb
    have RX := Lib.hid (fun w => FloatC.Rank_ok x h0 h1 hx w)
    have OX := Lib.hid (fun w => FloatC.Of_ok _ r0 r1 w)
    clear hx
    rcases hb with hb | ⟨hb1, hb2, hb3⟩ <;> rcases he with he | ⟨he, hr⟩
    all_goals try (have HR := Lib.hid hr; clear hr)
    · go_enter Try.func8, Try.ntmps8
      go_wp2_with (first | (go_at_call 18; (with_reducible refine (HO.out _).mono ?_); rintro e w' ⟨rfl, rfl⟩) | (go_at_call 18; (with_reducible refine (OX.out _).mono ?_); rintro e w' ⟨rfl, rfl⟩) | (go_at_call 17; (with_reducible refine (RX.out _).mono ?_); rintro e w' ⟨rfl, rfl⟩) | (go_at_call 24; (with_reducible refine (lives_c _).mono ?_); rintro e w' ⟨rfl, rfl⟩))
      go_ret
      exact ⟨rfl, by repeat (first | exact Grown.refl _ | apply Grown.drew | apply Grown.alloc)⟩
    · go_enter Try.func8, Try.ntmps8
      go_wp2_with (first | (go_at_call 18; (with_reducible refine (HO.out _).mono ?_); rintro e w' ⟨rfl, rfl⟩) | (go_at_call 18; (with_reducible refine (OX.out _).mono ?_); rintro e w' ⟨rfl, rfl⟩) | (go_at_call 17; (with_reducible refine (HR.out _).mono ?_); rintro e w' ⟨rfl, rfl⟩) | (go_at_call 17; (with_reducible refine (RX.out _).mono ?_); rintro e w' ⟨rfl, rfl⟩) | (go_at_call 24; (with_reducible refine (lives_c _).mono ?_); rintro e w' ⟨rfl, rfl⟩))
      go_ret
      exact ⟨rfl, by repeat (first | exact Grown.refl _ | apply Grown.drew | apply Grown.alloc)⟩
    · go_enter Try.func8, Try.ntmps8
      go_wp2_with (first | (go_at_call 18; (with_reducible refine (HO.out _).mono ?_); rintro e w' ⟨rfl, rfl⟩) | (go_at_call 18; (with_reducible refine (OX.out _).mono ?_); rintro e w' ⟨rfl, rfl⟩) | (go_at_call 17; (with_reducible refine (RX.out _).mono ?_); rintro e w' ⟨rfl, rfl⟩) | (go_at_call 24; (with_reducible refine (lives_c _).mono ?_); rintro e w' ⟨rfl, rfl⟩))
      go_ret
      exact ⟨rfl, by repeat (first | exact Grown.refl _ | apply Grown.drew | apply Grown.alloc)⟩
    · go_enter Try.func8, Try.ntmps8
      go_wp2_with (first | (go_at_call 18; (with_reducible refine (HO.out _).mono ?_); rintro e w' ⟨rfl, rfl⟩) | (go_at_call 18; (with_reducible refine (OX.out _).mono ?_); rintro e w' ⟨rfl, rfl⟩) | (go_at_call 17; (with_reducible refine (HR.out _).mono ?_); rintro e w' ⟨rfl, rfl⟩) | (go_at_call 17; (with_reducible refine (RX.out _).mono ?_); rintro e w' ⟨rfl, rfl⟩) | (go_at_call 24; (with_reducible refine (lives_c _).mono ?_); rintro e w' ⟨rfl, rfl⟩))
      go_ret
      exact ⟨rfl, by repeat (first | exact Grown.refl _ | apply Grown.drew | apply Grown.alloc)⟩
  · have RX := Lib.hid (fun w => FloatC.Rank_no x h0 h1 (by unfold F.nn at hx; omega) w)
    clear hx
    rcases he with he | ⟨he, hr⟩
    all_goals try (have HR := Lib.hid hr; clear hr)
    · go_enter Try.func8, Try.ntmps8
      go_wp2_with (first | (go_at_call 18; (with_reducible refine (HO.out _).mono ?_); rintro e w' ⟨rfl, rfl⟩) | (go_at_call 17; (with_reducible refine (RX.out _).mono ?_); rintro e w' ⟨rfl, rfl⟩) | (go_at_call 24; (with_reducible refine (lives_c _).mono ?_); rintro e w' ⟨rfl, rfl⟩))
      go_ret
      exact ⟨rfl, by repeat (first | exact Grown.refl _ | apply Grown.drew | apply Grown.alloc)⟩
    · go_enter Try.func8, Try.ntmps8
      go_wp2_with (first | (go_at_call 18; (with_reducible refine (HO.out _).mono ?_); rintro e w' ⟨rfl, rfl⟩) | (go_at_call 17; (with_reducible refine (HR.out _).mono ?_); rintro e w' ⟨rfl, rfl⟩) | (go_at_call 17; (with_reducible refine (RX.out _).mono ?_); rintro e w' ⟨rfl, rfl⟩) | (go_at_call 24; (with_reducible refine (lives_c _).mono ?_); rintro e w' ⟨rfl, rfl⟩))
      go_ret
      exact ⟨rfl, by repeat (first | exact Grown.refl _ | apply Grown.drew | apply Grown.alloc)⟩
end FloatL
end Go.Proofs.Ytkiffgadnkniaaa
