/-
  orderLives, and the laws OrderTotal, OrderAgrees, OrderBetter of package ulpkeep, for every argument.
-/
import Derived.Test.YtlcelocjfmclkaaA2
namespace Go.Proofs.Ytlcelocjfmclkaa
open Go.RowKit
set_option linter.unusedVariables false
namespace AC
theorem lives_c (w : World) : Calls Try.prog 19 #[] w fun e w' => e = .returned (.bool true) ∧ w = w' := by
  have c1 := fun w => Cmp_c 0 9223372036854775808 (by decide) (by decide) (by decide) (by decide) w
  have c2 := fun w => Cmp_c 9221120237041090560 9221120237041090560 (by decide) (by decide) (by decide) (by decide) w
  have t1 := fun w => Total_c 9223372036854775808 0 (by decide) (by decide) (by decide) (by decide) w
  have t2 := fun w => Total_c 9218868437227405312 9221120237041090560 (by decide) (by decide) (by decide) (by decide) w
  have m1 := fun w => Min_c 0 9223372036854775808 (by decide) (by decide) (by decide) (by decide) w
  rw [show A.cmpn 0 9223372036854775808 = 0 by decide, show A.has 0 9223372036854775808 = true by decide] at c1
  rw [show A.cmpn 9221120237041090560 9221120237041090560 = 0 by decide, show A.has 9221120237041090560 9221120237041090560 = false by decide] at c2
  rw [show A.tot 9223372036854775808 0 = -1 by decide] at t1
  rw [show A.tot 9218868437227405312 9221120237041090560 = -1 by decide] at t2
  rw [show A.mn 0 9223372036854775808 = 9223372036854775808 by decide] at m1
  have C1 := Lib.hid c1
  have C2 := Lib.hid c2
  have T1 := Lib.hid t1
  have T2 := Lib.hid t2
  have M1 := Lib.hid m1
  clear c1 c2 t1 t2 m1
  go_enter Try.func19, Try.ntmps19
  go_wp2_with (first | (go_at_call 8; (with_reducible refine (C1.out _).mono ?_); rintro e w' ⟨rfl, rfl⟩) | (go_at_call 8; (with_reducible refine (C2.out _).mono ?_); rintro e w' ⟨rfl, rfl⟩) | (go_at_call 13; (with_reducible refine (T1.out _).mono ?_); rintro e w' ⟨rfl, rfl⟩) | (go_at_call 13; (with_reducible refine (T2.out _).mono ?_); rintro e w' ⟨rfl, rfl⟩) | (go_at_call 9; (with_reducible refine (M1.out _).mono ?_); rintro e w' ⟨rfl, rfl⟩))
  go_ret
  exact ⟨rfl, rfl⟩
theorem total_w (x y z a b c : Int) (h0 : 0 ≤ x) (h1 : x ≤ 18446744073709551615) (k0 : 0 ≤ y) (k1 : y ≤ 18446744073709551615) (l0 : 0 ≤ z) (l1 : z ≤ 18446744073709551615)
    (ha : A.tot x y = a) (hb : A.tot y z = b) (hc : A.tot x z = c) (r : Bool) (hr : (x == y) = r) (h3 : a = -1 ∧ r = false ∨ a = 0 ∧ r = true ∨ a = 1 ∧ r = false)
    (hp : a > 0 ∨ b > 0 ∨ c ≤ 0) (hq : a ≥ 0 ∨ b ≥ 0 ∨ c < 0) (w : World) :
    Calls Try.prog 4 #[.int .u64 x, .int .u64 y, .int .u64 z] w fun e w' => e = .returned (.bool true) ∧ Grown w w' := by
  have t1 := fun w => Total_c x y h0 h1 k0 k1 w
  have t2 := fun w => Total_c y z k0 k1 l0 l1 w
  have t3 := fun w => Total_c x z h0 h1 l0 l1 w
  have t4 := fun w => Total_c y x k0 k1 h0 h1 w
  rw [show A.tot y x = -a by rw [← ha]; unfold A.tot; rw [← A.ct_neg]] at t4
  rw [ha] at t1
  rw [hb] at t2
  rw [hc] at t3
  have T1 := Lib.hid t1
  have T2 := Lib.hid t2
  have T3 := Lib.hid t3
  have T4 := Lib.hid t4
  clear t1 t2 t3 t4 ha hb hc
  have hgb : -1 ≤ a ∧ a ≤ 1 := by omega
  obtain ⟨ga, gb⟩ := hgb
  rcases h3 with ⟨rfl, rfl⟩ | ⟨rfl, rfl⟩ | ⟨rfl, rfl⟩
  · by_cases hb0 : b < 0
    · have hc0 : c < 0 := by omega
      have hc1 : c ≤ 0 := by omega
      have hb2 : ¬ b > 0 := by omega
      have hb3 : ¬ b ≥ 0 := by omega
      clear hp hq
      go_enter Try.func4, Try.ntmps4
      go_wp2_with (first | (go_at_call 13; (with_reducible refine (T1.out _).mono ?_); rintro e w' ⟨rfl, rfl⟩) | (go_at_call 13; (with_reducible refine (T2.out _).mono ?_); rintro e w' ⟨rfl, rfl⟩) | (go_at_call 13; (with_reducible refine (T3.out _).mono ?_); rintro e w' ⟨rfl, rfl⟩) | (go_at_call 13; (with_reducible refine (T4.out _).mono ?_); rintro e w' ⟨rfl, rfl⟩) | (go_at_call 19; (with_reducible refine (lives_c _).mono ?_); rintro e w' ⟨rfl, rfl⟩))
      go_ret
      exact ⟨rfl, Grown.refl _⟩
    · have hb3 : b ≥ 0 := by omega
      by_cases hb2 : b > 0
      · clear hp hq
        go_enter Try.func4, Try.ntmps4
        go_wp2_with (first | (go_at_call 13; (with_reducible refine (T1.out _).mono ?_); rintro e w' ⟨rfl, rfl⟩) | (go_at_call 13; (with_reducible refine (T2.out _).mono ?_); rintro e w' ⟨rfl, rfl⟩) | (go_at_call 13; (with_reducible refine (T3.out _).mono ?_); rintro e w' ⟨rfl, rfl⟩) | (go_at_call 13; (with_reducible refine (T4.out _).mono ?_); rintro e w' ⟨rfl, rfl⟩) | (go_at_call 19; (with_reducible refine (lives_c _).mono ?_); rintro e w' ⟨rfl, rfl⟩))
        go_ret
        exact ⟨rfl, Grown.refl _⟩
      · have hc1 : c ≤ 0 := by omega
        clear hp hq
        go_enter Try.func4, Try.ntmps4
        go_wp2_with (first | (go_at_call 13; (with_reducible refine (T1.out _).mono ?_); rintro e w' ⟨rfl, rfl⟩) | (go_at_call 13; (with_reducible refine (T2.out _).mono ?_); rintro e w' ⟨rfl, rfl⟩) | (go_at_call 13; (with_reducible refine (T3.out _).mono ?_); rintro e w' ⟨rfl, rfl⟩) | (go_at_call 13; (with_reducible refine (T4.out _).mono ?_); rintro e w' ⟨rfl, rfl⟩) | (go_at_call 19; (with_reducible refine (lives_c _).mono ?_); rintro e w' ⟨rfl, rfl⟩))
        go_ret
        exact ⟨rfl, Grown.refl _⟩
  · by_cases hb2 : b > 0
    · clear hp hq
      go_enter Try.func4, Try.ntmps4
      go_wp2_with (first | (go_at_call 13; (with_reducible refine (T1.out _).mono ?_); rintro e w' ⟨rfl, rfl⟩) | (go_at_call 13; (with_reducible refine (T2.out _).mono ?_); rintro e w' ⟨rfl, rfl⟩) | (go_at_call 13; (with_reducible refine (T3.out _).mono ?_); rintro e w' ⟨rfl, rfl⟩) | (go_at_call 13; (with_reducible refine (T4.out _).mono ?_); rintro e w' ⟨rfl, rfl⟩) | (go_at_call 19; (with_reducible refine (lives_c _).mono ?_); rintro e w' ⟨rfl, rfl⟩))
      go_ret
      exact ⟨rfl, Grown.refl _⟩
    · have hc1 : c ≤ 0 := by omega
      clear hp hq
      go_enter Try.func4, Try.ntmps4
      go_wp2_with (first | (go_at_call 13; (with_reducible refine (T1.out _).mono ?_); rintro e w' ⟨rfl, rfl⟩) | (go_at_call 13; (with_reducible refine (T2.out _).mono ?_); rintro e w' ⟨rfl, rfl⟩) | (go_at_call 13; (with_reducible refine (T3.out _).mono ?_); rintro e w' ⟨rfl, rfl⟩) | (go_at_call 13; (with_reducible refine (T4.out _).mono ?_); rintro e w' ⟨rfl, rfl⟩) | (go_at_call 19; (with_reducible refine (lives_c _).mono ?_); rintro e w' ⟨rfl, rfl⟩))
      go_ret
      exact ⟨rfl, Grown.refl _⟩
  · clear hp hq
    go_enter Try.func4, Try.ntmps4
    go_wp2_with (first | (go_at_call 13; (with_reducible refine (T1.out _).mono ?_); rintro e w' ⟨rfl, rfl⟩) | (go_at_call 13; (with_reducible refine (T2.out _).mono ?_); rintro e w' ⟨rfl, rfl⟩) | (go_at_call 13; (with_reducible refine (T3.out _).mono ?_); rintro e w' ⟨rfl, rfl⟩) | (go_at_call 13; (with_reducible refine (T4.out _).mono ?_); rintro e w' ⟨rfl, rfl⟩) | (go_at_call 19; (with_reducible refine (lives_c _).mono ?_); rintro e w' ⟨rfl, rfl⟩))
    go_ret
    exact ⟨rfl, Grown.refl _⟩
theorem total (x y z : Int) (h0 : 0 ≤ x) (h1 : x ≤ 18446744073709551615) (k0 : 0 ≤ y) (k1 : y ≤ 18446744073709551615) (l0 : 0 ≤ z) (l1 : z ≤ 18446744073709551615) (w : World) :
    Calls Try.prog 4 #[.int .u64 x, .int .u64 y, .int .u64 z] w fun e w' => e = .returned (.bool true) ∧ Grown w w' := by
  refine total_w x y z _ _ _ h0 h1 k0 k1 l0 l1 rfl rfl rfl _ rfl ?_ ?_ ?_ w
  · rcases A.ct_3 (A.key x) (A.key y) with ⟨h, e⟩ | ⟨h, e⟩ | ⟨h, e⟩
    · exact .inl ⟨e, by rw [beq_eq_false_iff_ne]; rintro rfl; omega⟩
    · exact .inr (.inr ⟨e, by rw [beq_eq_false_iff_ne]; rintro rfl; omega⟩)
    · exact .inr (.inl ⟨e, by rw [beq_iff_eq]; exact A.key_inj h0 h1 k0 k1 h⟩)
  all_goals
    unfold A.tot
    rcases A.ct_3 (A.key x) (A.key y) with ⟨h, e⟩ | ⟨h, e⟩ | ⟨h, e⟩ <;> rcases A.ct_3 (A.key y) (A.key z) with ⟨h', e'⟩ | ⟨h', e'⟩ | ⟨h', e'⟩ <;> rcases A.ct_3 (A.key x) (A.key z) with ⟨h'', e''⟩ | ⟨h'', e''⟩ | ⟨h'', e''⟩ <;> rw [e, e', e''] <;> omega
theorem agrees_w (x y n t : Int) (b : Bool) (h0 : 0 ≤ x) (h1 : x ≤ 18446744073709551615) (k0 : 0 ≤ y) (k1 : y ≤ 18446744073709551615)
    (hn : A.cmpn x y = n) (hb : A.has x y = b) (ht : A.tot x y = t) (zx zy : Bool) (hx : (F.cls x == 1) = zx) (hy : (F.cls y == 1) = zy)
    (hm : A.cmpn (F.neg y) (F.neg x) = n) (hh : A.has (F.neg y) (F.neg x) = b) (h : b = false ∨ n = t ∨ (n == t) = false ∧ zx = true ∧ zy = true ∧ n = 0) (w : World) :
    Calls Try.prog 5 #[.int .u64 x, .int .u64 y] w fun e w' => e = .returned (.bool true) ∧ Grown w w' := by
  obtain ⟨nx0, nx1⟩ := F.neg_bd x h0 h1
  obtain ⟨ny0, ny1⟩ := F.neg_bd y k0 k1
  have c1 := fun w => Cmp_c x y h0 h1 k0 k1 w
  have c2 := fun w => Cmp_c (F.neg y) (F.neg x) ny0 ny1 nx0 nx1 w
  have t1 := fun w => Total_c x y h0 h1 k0 k1 w
  rw [hn, hb] at c1
  rw [hm, hh] at c2
  rw [ht] at t1
  have C1 := Lib.hid c1
  have C2 := Lib.hid c2
  have T1 := Lib.hid t1
  clear t1 c1 c2 ht hn hb hm hh
  rcases h with rfl | rfl | ⟨hnt, rfl, rfl, rfl⟩
  · cases zx <;> cases zy <;>
    · go_enter Try.func5, Try.ntmps5
      go_wp2_with (first | (go_at_call 13; (with_reducible refine (T1.out _).mono ?_); rintro e w' ⟨rfl, rfl⟩) | (go_at_call 8; (with_reducible refine (C1.out _).mono ?_); rintro e w' ⟨rfl, rfl⟩) | (go_at_call 8; (with_reducible refine (C2.out _).mono ?_); rintro e w' ⟨rfl, rfl⟩) | (go_at_call 19; (with_reducible refine (lives_c _).mono ?_); rintro e w' ⟨rfl, rfl⟩) | (go_at_call 20; (with_reducible refine (FloatC.Neg_c _ (by omega) (by omega) _).mono ?_); rintro e w' ⟨rfl, rfl⟩) | (go_at_call 21; (with_reducible refine (FloatC.Class_c _ (by omega) (by omega) _).mono ?_); rintro e w' ⟨rfl, rfl⟩))
      go_ret
      exact ⟨rfl, Grown.refl _⟩
  · cases b <;> cases zx <;> cases zy <;>
    · go_enter Try.func5, Try.ntmps5
      go_wp2_with (first | (go_at_call 13; (with_reducible refine (T1.out _).mono ?_); rintro e w' ⟨rfl, rfl⟩) | (go_at_call 8; (with_reducible refine (C1.out _).mono ?_); rintro e w' ⟨rfl, rfl⟩) | (go_at_call 8; (with_reducible refine (C2.out _).mono ?_); rintro e w' ⟨rfl, rfl⟩) | (go_at_call 19; (with_reducible refine (lives_c _).mono ?_); rintro e w' ⟨rfl, rfl⟩) | (go_at_call 20; (with_reducible refine (FloatC.Neg_c _ (by omega) (by omega) _).mono ?_); rintro e w' ⟨rfl, rfl⟩) | (go_at_call 21; (with_reducible refine (FloatC.Class_c _ (by omega) (by omega) _).mono ?_); rintro e w' ⟨rfl, rfl⟩))
      go_ret
      exact ⟨rfl, Grown.refl _⟩
  · cases b <;>
    · go_enter Try.func5, Try.ntmps5
      go_wp2_with (first | (go_at_call 13; (with_reducible refine (T1.out _).mono ?_); rintro e w' ⟨rfl, rfl⟩) | (go_at_call 8; (with_reducible refine (C1.out _).mono ?_); rintro e w' ⟨rfl, rfl⟩) | (go_at_call 8; (with_reducible refine (C2.out _).mono ?_); rintro e w' ⟨rfl, rfl⟩) | (go_at_call 19; (with_reducible refine (lives_c _).mono ?_); rintro e w' ⟨rfl, rfl⟩) | (go_at_call 20; (with_reducible refine (FloatC.Neg_c _ (by omega) (by omega) _).mono ?_); rintro e w' ⟨rfl, rfl⟩) | (go_at_call 21; (with_reducible refine (FloatC.Class_c _ (by omega) (by omega) _).mono ?_); rintro e w' ⟨rfl, rfl⟩))
      go_ret
      exact ⟨rfl, Grown.refl _⟩
theorem agrees (x y : Int) (h0 : 0 ≤ x) (h1 : x ≤ 18446744073709551615) (k0 : 0 ≤ y) (k1 : y ≤ 18446744073709551615) (w : World) :
    Calls Try.prog 5 #[.int .u64 x, .int .u64 y] w fun e w' => e = .returned (.bool true) ∧ Grown w w' := by
  have e1 : A.nan (F.neg x) = A.nan x := by unfold A.nan; rw [F.cls_neg]
  have e2 : A.nan (F.neg y) = A.nan y := by unfold A.nan; rw [F.cls_neg]
  have e3 : (A.nan (F.neg y) || A.nan (F.neg x)) = (A.nan x || A.nan y) := by rw [e1, e2, Bool.or_comm]
  refine agrees_w x y _ _ _ h0 h1 k0 k1 rfl rfl rfl _ _ rfl rfl ?_ ?_ ?_ w
  · unfold A.cmpn
    rw [e3, F.rnk_neg x h0 h1, F.rnk_neg y k0 k1]
    split
    · rfl
    · unfold A.ct
      by_cases a : F.rnk x < F.rnk y
      · rw [if_pos a, if_pos (by omega)]
      · rw [if_neg a, if_neg (by omega)]
        by_cases c : F.rnk y < F.rnk x
        · rw [if_pos c, if_pos (by omega)]
        · rw [if_neg c, if_neg (by omega)]
  · unfold A.has; rw [e3]
  · cases hb : (A.nan x || A.nan y)
    · have hh := hb
      rw [Bool.or_eq_false_iff, A.nan_no, A.nan_no] at hh
      obtain ⟨hx, hy⟩ := hh
      have ec : A.cmpn x y = A.ct (F.rnk x) (F.rnk y) := by unfold A.cmpn; rw [hb]; rfl
      unfold F.nn at hx hy
      rw [ec]
      unfold A.tot
      by_cases hz : F.rnk x = 0 ∧ F.rnk y = 0 ∧ x ≠ y
      · obtain ⟨z1, z2, z3⟩ := hz
        have c1 : x = 0 ∨ x = 9223372036854775808 := by unfold F.rnk at z1; split at z1 <;> omega
        have c2 : y = 0 ∨ y = 9223372036854775808 := by unfold F.rnk at z2; split at z2 <;> omega
        rw [z1, z2]
        rcases c1 with rfl | rfl <;> rcases c2 with rfl | rfl
        · exact absurd rfl z3
        · exact .inr (.inr (by decide))
        · exact .inr (.inr (by decide))
        · exact absurd rfl z3
      · right; left
        unfold A.ct A.key
        unfold F.rnk at hz ⊢
        by_cases s1 : x < 9223372036854775808 <;> by_cases s2 : y < 9223372036854775808 <;> simp only [s1, s2, if_true, if_false] at hz ⊢ <;> (repeat (first | omega | split))
    · left
      unfold A.has; rw [hb]; rfl
theorem better_w (x y z a b c d e f : Int) (hx : 0 ≤ x ∧ x ≤ 18446744073709551615) (hy : 0 ≤ y ∧ y ≤ 18446744073709551615) (hz : 0 ≤ z ∧ z ≤ 18446744073709551615)
    (ea : A.mn x y = a) (ea' : A.mn y x = a) (eb : A.mx x y = b) (eb' : A.mx y x = b) (ec : A.mn a z = c) (ed : A.mn y z = d) (ec' : A.mn x d = c) (ee : A.mx b z = e) (ef : A.mx y z = f) (ee' : A.mx x f = e)
    (h : (a == 9221120237041090560) = true ∧ (b == 9221120237041090560) = true ∨ (a == x) = true ∧ (b == y) = true ∨ (a == y) = true ∧ (b == x) = true) (w : World) :
    Calls Try.prog 6 #[.int .u64 x, .int .u64 y, .int .u64 z] w fun e w' => e = .returned (.bool true) ∧ Grown w w' := by
  have ba := A.mn_bd hx.1 hx.2 hy.1 hy.2
  have bb := A.mx_bd hx.1 hx.2 hy.1 hy.2
  have bd := A.mn_bd hy.1 hy.2 hz.1 hz.2
  have bf := A.mx_bd hy.1 hy.2 hz.1 hz.2
  rw [ea] at ba
  rw [eb] at bb
  rw [ed] at bd
  rw [ef] at bf
  have m1 := fun w => Min_c x y hx.1 hx.2 hy.1 hy.2 w
  have m2 := fun w => Min_c y x hy.1 hy.2 hx.1 hx.2 w
  have m3 := fun w => Min_c a z ba.1 ba.2 hz.1 hz.2 w
  have m4 := fun w => Min_c y z hy.1 hy.2 hz.1 hz.2 w
  have m5 := fun w => Min_c x d hx.1 hx.2 bd.1 bd.2 w
  have x1 := fun w => Max_c x y hx.1 hx.2 hy.1 hy.2 w
  have x2 := fun w => Max_c y x hy.1 hy.2 hx.1 hx.2 w
  have x3 := fun w => Max_c b z bb.1 bb.2 hz.1 hz.2 w
  have x4 := fun w => Max_c y z hy.1 hy.2 hz.1 hz.2 w
  have x5 := fun w => Max_c x f hx.1 hx.2 bf.1 bf.2 w
  rw [ea] at m1
  rw [ea'] at m2
  rw [ec] at m3
  rw [ed] at m4
  rw [ec'] at m5
  rw [eb] at x1
  rw [eb'] at x2
  rw [ee] at x3
  rw [ef] at x4
  rw [ee'] at x5
  have M1 := Lib.hid m1
  have M2 := Lib.hid m2
  have M3 := Lib.hid m3
  have M4 := Lib.hid m4
  have M5 := Lib.hid m5
  have X1 := Lib.hid x1
  have X2 := Lib.hid x2
  have X3 := Lib.hid x3
  have X4 := Lib.hid x4
  have X5 := Lib.hid x5
  clear m1 m2 m3 m4 m5 x1 x2 x3 x4 x5 ea ea' eb eb' ec ed ec' ee ef ee' ba bb bd bf hx hy hz
  have na : (a != a) = false := by simp
  have nb : (b != b) = false := by simp
  have nc : (c != c) = false := by simp
  have ne : (e != e) = false := by simp
  obtain ⟨p1, q1⟩ : ∃ p, (a == 9221120237041090560) = p := ⟨_, rfl⟩
  obtain ⟨p2, q2⟩ : ∃ p, (b == 9221120237041090560) = p := ⟨_, rfl⟩
  obtain ⟨p3, q3⟩ : ∃ p, (a == x) = p := ⟨_, rfl⟩
  obtain ⟨p4, q4⟩ : ∃ p, (b == y) = p := ⟨_, rfl⟩
  obtain ⟨p5, q5⟩ : ∃ p, (a == y) = p := ⟨_, rfl⟩
  obtain ⟨p6, q6⟩ : ∃ p, (b == x) = p := ⟨_, rfl⟩
  rw [q1, q2, q3, q4, q5, q6] at h
  rcases h with ⟨rfl, rfl⟩ | ⟨rfl, rfl⟩ | ⟨rfl, rfl⟩
  · clear q3 q4 q5 q6
    go_enter Try.func6, Try.ntmps6
    go_wp2_with (first | (go_at_call 9; (with_reducible refine (M1.out _).mono ?_); rintro e w' ⟨rfl, rfl⟩) | (go_at_call 9; (with_reducible refine (M2.out _).mono ?_); rintro e w' ⟨rfl, rfl⟩) | (go_at_call 9; (with_reducible refine (M3.out _).mono ?_); rintro e w' ⟨rfl, rfl⟩) | (go_at_call 9; (with_reducible refine (M4.out _).mono ?_); rintro e w' ⟨rfl, rfl⟩) | (go_at_call 9; (with_reducible refine (M5.out _).mono ?_); rintro e w' ⟨rfl, rfl⟩) | (go_at_call 10; (with_reducible refine (X1.out _).mono ?_); rintro e w' ⟨rfl, rfl⟩) | (go_at_call 10; (with_reducible refine (X2.out _).mono ?_); rintro e w' ⟨rfl, rfl⟩) | (go_at_call 10; (with_reducible refine (X3.out _).mono ?_); rintro e w' ⟨rfl, rfl⟩) | (go_at_call 10; (with_reducible refine (X4.out _).mono ?_); rintro e w' ⟨rfl, rfl⟩) | (go_at_call 10; (with_reducible refine (X5.out _).mono ?_); rintro e w' ⟨rfl, rfl⟩) | (go_at_call 19; (with_reducible refine (lives_c _).mono ?_); rintro e w' ⟨rfl, rfl⟩))
    go_ret
    exact ⟨rfl, Grown.refl _⟩
  · cases p1
    · clear q2 q5 q6
      go_enter Try.func6, Try.ntmps6
      go_wp2_with (first | (go_at_call 9; (with_reducible refine (M1.out _).mono ?_); rintro e w' ⟨rfl, rfl⟩) | (go_at_call 9; (with_reducible refine (M2.out _).mono ?_); rintro e w' ⟨rfl, rfl⟩) | (go_at_call 9; (with_reducible refine (M3.out _).mono ?_); rintro e w' ⟨rfl, rfl⟩) | (go_at_call 9; (with_reducible refine (M4.out _).mono ?_); rintro e w' ⟨rfl, rfl⟩) | (go_at_call 9; (with_reducible refine (M5.out _).mono ?_); rintro e w' ⟨rfl, rfl⟩) | (go_at_call 10; (with_reducible refine (X1.out _).mono ?_); rintro e w' ⟨rfl, rfl⟩) | (go_at_call 10; (with_reducible refine (X2.out _).mono ?_); rintro e w' ⟨rfl, rfl⟩) | (go_at_call 10; (with_reducible refine (X3.out _).mono ?_); rintro e w' ⟨rfl, rfl⟩) | (go_at_call 10; (with_reducible refine (X4.out _).mono ?_); rintro e w' ⟨rfl, rfl⟩) | (go_at_call 10; (with_reducible refine (X5.out _).mono ?_); rintro e w' ⟨rfl, rfl⟩) | (go_at_call 19; (with_reducible refine (lives_c _).mono ?_); rintro e w' ⟨rfl, rfl⟩))
      go_ret
      exact ⟨rfl, Grown.refl _⟩
    · cases p2
      · clear q5 q6
        go_enter Try.func6, Try.ntmps6
        go_wp2_with (first | (go_at_call 9; (with_reducible refine (M1.out _).mono ?_); rintro e w' ⟨rfl, rfl⟩) | (go_at_call 9; (with_reducible refine (M2.out _).mono ?_); rintro e w' ⟨rfl, rfl⟩) | (go_at_call 9; (with_reducible refine (M3.out _).mono ?_); rintro e w' ⟨rfl, rfl⟩) | (go_at_call 9; (with_reducible refine (M4.out _).mono ?_); rintro e w' ⟨rfl, rfl⟩) | (go_at_call 9; (with_reducible refine (M5.out _).mono ?_); rintro e w' ⟨rfl, rfl⟩) | (go_at_call 10; (with_reducible refine (X1.out _).mono ?_); rintro e w' ⟨rfl, rfl⟩) | (go_at_call 10; (with_reducible refine (X2.out _).mono ?_); rintro e w' ⟨rfl, rfl⟩) | (go_at_call 10; (with_reducible refine (X3.out _).mono ?_); rintro e w' ⟨rfl, rfl⟩) | (go_at_call 10; (with_reducible refine (X4.out _).mono ?_); rintro e w' ⟨rfl, rfl⟩) | (go_at_call 10; (with_reducible refine (X5.out _).mono ?_); rintro e w' ⟨rfl, rfl⟩) | (go_at_call 19; (with_reducible refine (lives_c _).mono ?_); rintro e w' ⟨rfl, rfl⟩))
        go_ret
        exact ⟨rfl, Grown.refl _⟩
      · clear q3 q4 q5 q6
        go_enter Try.func6, Try.ntmps6
        go_wp2_with (first | (go_at_call 9; (with_reducible refine (M1.out _).mono ?_); rintro e w' ⟨rfl, rfl⟩) | (go_at_call 9; (with_reducible refine (M2.out _).mono ?_); rintro e w' ⟨rfl, rfl⟩) | (go_at_call 9; (with_reducible refine (M3.out _).mono ?_); rintro e w' ⟨rfl, rfl⟩) | (go_at_call 9; (with_reducible refine (M4.out _).mono ?_); rintro e w' ⟨rfl, rfl⟩) | (go_at_call 9; (with_reducible refine (M5.out _).mono ?_); rintro e w' ⟨rfl, rfl⟩) | (go_at_call 10; (with_reducible refine (X1.out _).mono ?_); rintro e w' ⟨rfl, rfl⟩) | (go_at_call 10; (with_reducible refine (X2.out _).mono ?_); rintro e w' ⟨rfl, rfl⟩) | (go_at_call 10; (with_reducible refine (X3.out _).mono ?_); rintro e w' ⟨rfl, rfl⟩) | (go_at_call 10; (with_reducible refine (X4.out _).mono ?_); rintro e w' ⟨rfl, rfl⟩) | (go_at_call 10; (with_reducible refine (X5.out _).mono ?_); rintro e w' ⟨rfl, rfl⟩) | (go_at_call 19; (with_reducible refine (lives_c _).mono ?_); rintro e w' ⟨rfl, rfl⟩))
        go_ret
        exact ⟨rfl, Grown.refl _⟩
  · cases p1
    · cases p3
      · clear q2 q4
        go_enter Try.func6, Try.ntmps6
        go_wp2_with (first | (go_at_call 9; (with_reducible refine (M1.out _).mono ?_); rintro e w' ⟨rfl, rfl⟩) | (go_at_call 9; (with_reducible refine (M2.out _).mono ?_); rintro e w' ⟨rfl, rfl⟩) | (go_at_call 9; (with_reducible refine (M3.out _).mono ?_); rintro e w' ⟨rfl, rfl⟩) | (go_at_call 9; (with_reducible refine (M4.out _).mono ?_); rintro e w' ⟨rfl, rfl⟩) | (go_at_call 9; (with_reducible refine (M5.out _).mono ?_); rintro e w' ⟨rfl, rfl⟩) | (go_at_call 10; (with_reducible refine (X1.out _).mono ?_); rintro e w' ⟨rfl, rfl⟩) | (go_at_call 10; (with_reducible refine (X2.out _).mono ?_); rintro e w' ⟨rfl, rfl⟩) | (go_at_call 10; (with_reducible refine (X3.out _).mono ?_); rintro e w' ⟨rfl, rfl⟩) | (go_at_call 10; (with_reducible refine (X4.out _).mono ?_); rintro e w' ⟨rfl, rfl⟩) | (go_at_call 10; (with_reducible refine (X5.out _).mono ?_); rintro e w' ⟨rfl, rfl⟩) | (go_at_call 19; (with_reducible refine (lives_c _).mono ?_); rintro e w' ⟨rfl, rfl⟩))
        go_ret
        exact ⟨rfl, Grown.refl _⟩
      · cases p4
        · clear q2
          go_enter Try.func6, Try.ntmps6
          go_wp2_with (first | (go_at_call 9; (with_reducible refine (M1.out _).mono ?_); rintro e w' ⟨rfl, rfl⟩) | (go_at_call 9; (with_reducible refine (M2.out _).mono ?_); rintro e w' ⟨rfl, rfl⟩) | (go_at_call 9; (with_reducible refine (M3.out _).mono ?_); rintro e w' ⟨rfl, rfl⟩) | (go_at_call 9; (with_reducible refine (M4.out _).mono ?_); rintro e w' ⟨rfl, rfl⟩) | (go_at_call 9; (with_reducible refine (M5.out _).mono ?_); rintro e w' ⟨rfl, rfl⟩) | (go_at_call 10; (with_reducible refine (X1.out _).mono ?_); rintro e w' ⟨rfl, rfl⟩) | (go_at_call 10; (with_reducible refine (X2.out _).mono ?_); rintro e w' ⟨rfl, rfl⟩) | (go_at_call 10; (with_reducible refine (X3.out _).mono ?_); rintro e w' ⟨rfl, rfl⟩) | (go_at_call 10; (with_reducible refine (X4.out _).mono ?_); rintro e w' ⟨rfl, rfl⟩) | (go_at_call 10; (with_reducible refine (X5.out _).mono ?_); rintro e w' ⟨rfl, rfl⟩) | (go_at_call 19; (with_reducible refine (lives_c _).mono ?_); rintro e w' ⟨rfl, rfl⟩))
          go_ret
          exact ⟨rfl, Grown.refl _⟩
        · clear q2 q5 q6
          go_enter Try.func6, Try.ntmps6
          go_wp2_with (first | (go_at_call 9; (with_reducible refine (M1.out _).mono ?_); rintro e w' ⟨rfl, rfl⟩) | (go_at_call 9; (with_reducible refine (M2.out _).mono ?_); rintro e w' ⟨rfl, rfl⟩) | (go_at_call 9; (with_reducible refine (M3.out _).mono ?_); rintro e w' ⟨rfl, rfl⟩) | (go_at_call 9; (with_reducible refine (M4.out _).mono ?_); rintro e w' ⟨rfl, rfl⟩) | (go_at_call 9; (with_reducible refine (M5.out _).mono ?_); rintro e w' ⟨rfl, rfl⟩) | (go_at_call 10; (with_reducible refine (X1.out _).mono ?_); rintro e w' ⟨rfl, rfl⟩) | (go_at_call 10; (with_reducible refine (X2.out _).mono ?_); rintro e w' ⟨rfl, rfl⟩) | (go_at_call 10; (with_reducible refine (X3.out _).mono ?_); rintro e w' ⟨rfl, rfl⟩) | (go_at_call 10; (with_reducible refine (X4.out _).mono ?_); rintro e w' ⟨rfl, rfl⟩) | (go_at_call 10; (with_reducible refine (X5.out _).mono ?_); rintro e w' ⟨rfl, rfl⟩) | (go_at_call 19; (with_reducible refine (lives_c _).mono ?_); rintro e w' ⟨rfl, rfl⟩))
          go_ret
          exact ⟨rfl, Grown.refl _⟩
    · cases p2
      · cases p3
        · clear q4
          go_enter Try.func6, Try.ntmps6
          go_wp2_with (first | (go_at_call 9; (with_reducible refine (M1.out _).mono ?_); rintro e w' ⟨rfl, rfl⟩) | (go_at_call 9; (with_reducible refine (M2.out _).mono ?_); rintro e w' ⟨rfl, rfl⟩) | (go_at_call 9; (with_reducible refine (M3.out _).mono ?_); rintro e w' ⟨rfl, rfl⟩) | (go_at_call 9; (with_reducible refine (M4.out _).mono ?_); rintro e w' ⟨rfl, rfl⟩) | (go_at_call 9; (with_reducible refine (M5.out _).mono ?_); rintro e w' ⟨rfl, rfl⟩) | (go_at_call 10; (with_reducible refine (X1.out _).mono ?_); rintro e w' ⟨rfl, rfl⟩) | (go_at_call 10; (with_reducible refine (X2.out _).mono ?_); rintro e w' ⟨rfl, rfl⟩) | (go_at_call 10; (with_reducible refine (X3.out _).mono ?_); rintro e w' ⟨rfl, rfl⟩) | (go_at_call 10; (with_reducible refine (X4.out _).mono ?_); rintro e w' ⟨rfl, rfl⟩) | (go_at_call 10; (with_reducible refine (X5.out _).mono ?_); rintro e w' ⟨rfl, rfl⟩) | (go_at_call 19; (with_reducible refine (lives_c _).mono ?_); rintro e w' ⟨rfl, rfl⟩))
          go_ret
          exact ⟨rfl, Grown.refl _⟩
        · cases p4
          · go_enter Try.func6, Try.ntmps6
            go_wp2_with (first | (go_at_call 9; (with_reducible refine (M1.out _).mono ?_); rintro e w' ⟨rfl, rfl⟩) | (go_at_call 9; (with_reducible refine (M2.out _).mono ?_); rintro e w' ⟨rfl, rfl⟩) | (go_at_call 9; (with_reducible refine (M3.out _).mono ?_); rintro e w' ⟨rfl, rfl⟩) | (go_at_call 9; (with_reducible refine (M4.out _).mono ?_); rintro e w' ⟨rfl, rfl⟩) | (go_at_call 9; (with_reducible refine (M5.out _).mono ?_); rintro e w' ⟨rfl, rfl⟩) | (go_at_call 10; (with_reducible refine (X1.out _).mono ?_); rintro e w' ⟨rfl, rfl⟩) | (go_at_call 10; (with_reducible refine (X2.out _).mono ?_); rintro e w' ⟨rfl, rfl⟩) | (go_at_call 10; (with_reducible refine (X3.out _).mono ?_); rintro e w' ⟨rfl, rfl⟩) | (go_at_call 10; (with_reducible refine (X4.out _).mono ?_); rintro e w' ⟨rfl, rfl⟩) | (go_at_call 10; (with_reducible refine (X5.out _).mono ?_); rintro e w' ⟨rfl, rfl⟩) | (go_at_call 19; (with_reducible refine (lives_c _).mono ?_); rintro e w' ⟨rfl, rfl⟩))
            go_ret
            exact ⟨rfl, Grown.refl _⟩
          · clear q5 q6
            go_enter Try.func6, Try.ntmps6
            go_wp2_with (first | (go_at_call 9; (with_reducible refine (M1.out _).mono ?_); rintro e w' ⟨rfl, rfl⟩) | (go_at_call 9; (with_reducible refine (M2.out _).mono ?_); rintro e w' ⟨rfl, rfl⟩) | (go_at_call 9; (with_reducible refine (M3.out _).mono ?_); rintro e w' ⟨rfl, rfl⟩) | (go_at_call 9; (with_reducible refine (M4.out _).mono ?_); rintro e w' ⟨rfl, rfl⟩) | (go_at_call 9; (with_reducible refine (M5.out _).mono ?_); rintro e w' ⟨rfl, rfl⟩) | (go_at_call 10; (with_reducible refine (X1.out _).mono ?_); rintro e w' ⟨rfl, rfl⟩) | (go_at_call 10; (with_reducible refine (X2.out _).mono ?_); rintro e w' ⟨rfl, rfl⟩) | (go_at_call 10; (with_reducible refine (X3.out _).mono ?_); rintro e w' ⟨rfl, rfl⟩) | (go_at_call 10; (with_reducible refine (X4.out _).mono ?_); rintro e w' ⟨rfl, rfl⟩) | (go_at_call 10; (with_reducible refine (X5.out _).mono ?_); rintro e w' ⟨rfl, rfl⟩) | (go_at_call 19; (with_reducible refine (lives_c _).mono ?_); rintro e w' ⟨rfl, rfl⟩))
            go_ret
            exact ⟨rfl, Grown.refl _⟩
      · clear q3 q4 q5 q6
        go_enter Try.func6, Try.ntmps6
        go_wp2_with (first | (go_at_call 9; (with_reducible refine (M1.out _).mono ?_); rintro e w' ⟨rfl, rfl⟩) | (go_at_call 9; (with_reducible refine (M2.out _).mono ?_); rintro e w' ⟨rfl, rfl⟩) | (go_at_call 9; (with_reducible refine (M3.out _).mono ?_); rintro e w' ⟨rfl, rfl⟩) | (go_at_call 9; (with_reducible refine (M4.out _).mono ?_); rintro e w' ⟨rfl, rfl⟩) | (go_at_call 9; (with_reducible refine (M5.out _).mono ?_); rintro e w' ⟨rfl, rfl⟩) | (go_at_call 10; (with_reducible refine (X1.out _).mono ?_); rintro e w' ⟨rfl, rfl⟩) | (go_at_call 10; (with_reducible refine (X2.out _).mono ?_); rintro e w' ⟨rfl, rfl⟩) | (go_at_call 10; (with_reducible refine (X3.out _).mono ?_); rintro e w' ⟨rfl, rfl⟩) | (go_at_call 10; (with_reducible refine (X4.out _).mono ?_); rintro e w' ⟨rfl, rfl⟩) | (go_at_call 10; (with_reducible refine (X5.out _).mono ?_); rintro e w' ⟨rfl, rfl⟩) | (go_at_call 19; (with_reducible refine (lives_c _).mono ?_); rintro e w' ⟨rfl, rfl⟩))
        go_ret
        exact ⟨rfl, Grown.refl _⟩
theorem better (x y z : Int) (hx : 0 ≤ x ∧ x ≤ 18446744073709551615) (hy : 0 ≤ y ∧ y ≤ 18446744073709551615) (hz : 0 ≤ z ∧ z ≤ 18446744073709551615) (w : World) :
    Calls Try.prog 6 #[.int .u64 x, .int .u64 y, .int .u64 z] w fun e w' => e = .returned (.bool true) ∧ Grown w w' := by
  have e1 : A.mn y x = A.mn x y := A.mn_comm hx hy
  have e2 : A.mx y x = A.mx x y := A.mx_comm hx hy
  refine better_w x y z _ _ _ _ _ _ hx hy hz rfl e1 rfl e2 rfl rfl (A.mn_assoc x y z).symm rfl rfl (A.mx_assoc x y z).symm ?_ w
  simp only [beq_iff_eq]
  unfold A.mn A.mx
  cases hb : (A.nan x || A.nan y)
  · simp only [Bool.false_eq_true, if_false]
    by_cases h : A.key x < A.key y
    · rw [if_pos h, if_neg (by omega)]; exact .inr (.inl ⟨rfl, rfl⟩)
    · rw [if_neg h]
      by_cases h' : A.key y < A.key x
      · rw [if_pos h']; exact .inr (.inr ⟨rfl, rfl⟩)
      · have := A.key_inj hx.1 hx.2 hy.1 hy.2 (by omega)
        rw [if_neg h', this]; exact .inr (.inl ⟨rfl, rfl⟩)
  · exact .inl ⟨rfl, rfl⟩
end AC
end Go.Proofs.Ytlcelocjfmclkaa
