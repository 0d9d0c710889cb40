/-
  The laws of package ulplaw on numbers' bits (FloatParts, FloatRanks) return true, for every argument.
-/
import Derived.Test.YtkiffgadnkniaaaFloatR
namespace Go.Proofs.Ytkiffgadnkniaaa
open Go.RowKit
set_option linter.unusedVariables false
namespace FloatM
theorem parts_in (x : Int) (b : Bool) (e f : Int) (h0 : 0 ≤ x) (h1 : x ≤ 18446744073709551615) (g0 : 0 ≤ f) (g1 : f ≤ 4503599627370495) (e0 : 0 ≤ e) (e1 : e ≤ 2047) (w : World) :
    Calls Try.prog 3 #[.int .u64 x, .bool b, .int .i64 e, .int .u64 f] w fun e w' => e = .returned (.bool true) ∧ w = w' := by
  have nb := F.neg_bd x h0 h1
  have xb := F.exq_bd x
  have fb := F.fra_bd x
  have yb := F.mk_bd b e f e0 e1 g0 g1
  have fn := fun w => FloatR.Fields_c (F.neg x) nb.1 nb.2 w
  have fx := fun w => FloatR.Fields_c x h0 h1 w
  have px := fun w => FloatC.Parts_c x h0 h1 w
  have fy := fun w => FloatR.Fields_c _ yb.1 yb.2 w
  have ax := fun w => FloatC.Abs_c x h0 h1 w
  rw [F.exq_neg, F.fra_neg, F.sgn_neg x h0 h1] at fn
  rw [F.sgn_mk b e f e0 e1 g0 g1, F.exq_mk b e f e0 e1 g0 g1, F.fra_mk b e f e0 e1 g0 g1] at fy
  have FY := Lib.hid fy
  have q1 : (F.exq x != F.exq x) = false := by simp
  have q2 : (F.fra x != F.fra x) = false := by simp
  have q3 : (F.cls x != F.cls x) = false := by simp
  have q4 : (b == b) = true := by simp
  have BT := Lib.hid (fun w => FloatR.Between_t e 0 2047 e0 e1 w)
  have MK := Lib.hid (fun w => FloatC.Make_ok b e f e0 e1 g0 g1 w)
  clear fy yb
  by_cases hs : 9223372036854775808 ≤ x
  · rw [F.sgn_t hs] at fn fx px
    have ea : F.abs x = F.neg x := by unfold F.abs F.neg; split <;> omega
    have q5 : (F.neg x != x) = true := by rw [bne_iff_ne]; exact F.neg_ne x
    have q6 : (F.neg x != F.neg x) = false := by simp
    have q7 : F.neg x < 9223372036854775808 := by rw [← ea]; unfold F.abs; omega
    rw [ea] at ax
    have FN := Lib.hid fn
    have FX := Lib.hid fx
    have PX := Lib.hid px
    have AX := Lib.hid ax
    clear fn fx px ax ea
    go_enter Try.func3, Try.ntmps3
    go_wp2_with (first | (go_at_call 9; (with_reducible refine (PX.out _).mono ?_); rintro e w' ⟨rfl, rfl⟩) | (go_at_call 10; (with_reducible refine (FX.out _).mono ?_); rintro e w' ⟨rfl, rfl⟩) | (go_at_call 10; (with_reducible refine (FN.out _).mono ?_); rintro e w' ⟨rfl, rfl⟩) | (go_at_call 10; (with_reducible refine (FY.out _).mono ?_); rintro e w' ⟨rfl, rfl⟩) | (go_at_call 11; (with_reducible refine (FloatC.Class_c _ h0 h1 _).mono ?_); rintro e w' ⟨rfl, rfl⟩) | (go_at_call 12; (with_reducible refine (FloatR.ClassOf_c _ h0 h1 _).mono ?_); rintro e w' ⟨rfl, rfl⟩) | (go_at_call 13; (with_reducible refine (FloatC.Neg_c _ h0 h1 _).mono ?_); rintro e w' ⟨rfl, rfl⟩) | (go_at_call 14; (with_reducible refine (AX.out _).mono ?_); rintro e w' ⟨rfl, rfl⟩) | (go_at_call 15; (with_reducible refine (MK.out _).mono ?_); rintro e w' ⟨rfl, rfl⟩) | (go_at_call 16; (with_reducible refine (BT.out _).mono ?_); rintro e w' ⟨rfl, rfl⟩))
    go_ret
    exact ⟨rfl, rfl⟩
  · rw [F.sgn_f (by omega)] at fn fx px
    have ea : F.abs x = x := by unfold F.abs; omega
    have q5 : (x != x) = false := by simp
    have q7 : x < 9223372036854775808 := by omega
    rw [ea] at ax
    have FN := Lib.hid fn
    have FX := Lib.hid fx
    have PX := Lib.hid px
    have AX := Lib.hid ax
    clear fn fx px ax ea
    go_enter Try.func3, Try.ntmps3
    go_wp2_with (first | (go_at_call 9; (with_reducible refine (PX.out _).mono ?_); rintro e w' ⟨rfl, rfl⟩) | (go_at_call 10; (with_reducible refine (FX.out _).mono ?_); rintro e w' ⟨rfl, rfl⟩) | (go_at_call 10; (with_reducible refine (FN.out _).mono ?_); rintro e w' ⟨rfl, rfl⟩) | (go_at_call 10; (with_reducible refine (FY.out _).mono ?_); rintro e w' ⟨rfl, rfl⟩) | (go_at_call 11; (with_reducible refine (FloatC.Class_c _ h0 h1 _).mono ?_); rintro e w' ⟨rfl, rfl⟩) | (go_at_call 12; (with_reducible refine (FloatR.ClassOf_c _ h0 h1 _).mono ?_); rintro e w' ⟨rfl, rfl⟩) | (go_at_call 13; (with_reducible refine (FloatC.Neg_c _ h0 h1 _).mono ?_); rintro e w' ⟨rfl, rfl⟩) | (go_at_call 14; (with_reducible refine (AX.out _).mono ?_); rintro e w' ⟨rfl, rfl⟩) | (go_at_call 15; (with_reducible refine (MK.out _).mono ?_); rintro e w' ⟨rfl, rfl⟩) | (go_at_call 16; (with_reducible refine (BT.out _).mono ?_); rintro e w' ⟨rfl, rfl⟩))
    go_ret
    exact ⟨rfl, rfl⟩
theorem parts_out (x : Int) (b : Bool) (e f : Int) (h0 : 0 ≤ x) (h1 : x ≤ 18446744073709551615) (hef : e < 0 ∨ 2047 < e ∨ 4503599627370495 < f) (r : Bool)
    (hb : ∀ w, Calls Try.prog 16 #[.int .i64 e, .int .i64 0, .int .i64 2047] w fun e w' => e = .returned (.bool r) ∧ w = w')
    (hr : r = false ∨ r = true ∧ 4503599627370496 ≤ f) (w : World) :
    Calls Try.prog 3 #[.int .u64 x, .bool b, .int .i64 e, .int .u64 f] w fun e w' => e = .returned (.bool true) ∧ w = w' := by
  have nb := F.neg_bd x h0 h1
  have xb := F.exq_bd x
  have fb := F.fra_bd x
  have fn := fun w => FloatR.Fields_c (F.neg x) nb.1 nb.2 w
  have fx := fun w => FloatR.Fields_c x h0 h1 w
  have px := fun w => FloatC.Parts_c x h0 h1 w
  have ax := fun w => FloatC.Abs_c x h0 h1 w
  rw [F.exq_neg, F.fra_neg, F.sgn_neg x h0 h1] at fn
  have q1 : (F.exq x != F.exq x) = false := by simp
  have q2 : (F.fra x != F.fra x) = false := by simp
  have q3 : (F.cls x != F.cls x) = false := by simp
  have BT := Lib.hid hb
  have MK := Lib.hid (fun w => FloatC.Make_no b e f hef w)
  clear hb hef
  by_cases hs : 9223372036854775808 ≤ x
  · rw [F.sgn_t hs] at fn fx px
    have ea : F.abs x = F.neg x := by unfold F.abs F.neg; split <;> omega
    have q5 : (F.neg x != x) = true := by rw [bne_iff_ne]; exact F.neg_ne x
    have q6 : (F.neg x != F.neg x) = false := by simp
    have q7 : F.neg x < 9223372036854775808 := by rw [← ea]; unfold F.abs; omega
    rw [ea] at ax
    rcases hr with rfl | ⟨rfl, hr⟩
    all_goals
      have FN := Lib.hid fn
      have FX := Lib.hid fx
      have PX := Lib.hid px
      have AX := Lib.hid ax
      clear fn fx px ax ea
      go_enter Try.func3, Try.ntmps3
      go_wp2_with (first | (go_at_call 9; (with_reducible refine (PX.out _).mono ?_); rintro e w' ⟨rfl, rfl⟩) | (go_at_call 10; (with_reducible refine (FX.out _).mono ?_); rintro e w' ⟨rfl, rfl⟩) | (go_at_call 10; (with_reducible refine (FN.out _).mono ?_); rintro e w' ⟨rfl, rfl⟩) | (go_at_call 11; (with_reducible refine (FloatC.Class_c _ h0 h1 _).mono ?_); rintro e w' ⟨rfl, rfl⟩) | (go_at_call 12; (with_reducible refine (FloatR.ClassOf_c _ h0 h1 _).mono ?_); rintro e w' ⟨rfl, rfl⟩) | (go_at_call 13; (with_reducible refine (FloatC.Neg_c _ h0 h1 _).mono ?_); rintro e w' ⟨rfl, rfl⟩) | (go_at_call 14; (with_reducible refine (AX.out _).mono ?_); rintro e w' ⟨rfl, rfl⟩) | (go_at_call 15; (with_reducible refine (MK.out _).mono ?_); rintro e w' ⟨rfl, rfl⟩) | (go_at_call 16; (with_reducible refine (BT.out _).mono ?_); rintro e w' ⟨rfl, rfl⟩))
      go_ret
      exact ⟨rfl, rfl⟩
  · rw [F.sgn_f (by omega)] at fn fx px
    have ea : F.abs x = x := by unfold F.abs; omega
    have q5 : (x != x) = false := by simp
    have q7 : x < 9223372036854775808 := by omega
    rw [ea] at ax
    rcases hr with rfl | ⟨rfl, hr⟩
    all_goals
      have FN := Lib.hid fn
      have FX := Lib.hid fx
      have PX := Lib.hid px
      have AX := Lib.hid ax
      clear fn fx px ax ea
      go_enter Try.func3, Try.ntmps3
      go_wp2_with (first | (go_at_call 9; (with_reducible refine (PX.out _).mono ?_); rintro e w' ⟨rfl, rfl⟩) | (go_at_call 10; (with_reducible refine (FX.out _).mono ?_); rintro e w' ⟨rfl, rfl⟩) | (go_at_call 10; (with_reducible refine (FN.out _).mono ?_); rintro e w' ⟨rfl, rfl⟩) | (go_at_call 11; (with_reducible refine (FloatC.Class_c _ h0 h1 _).mono ?_); rintro e w' ⟨rfl, rfl⟩) | (go_at_call 12; (with_reducible refine (FloatR.ClassOf_c _ h0 h1 _).mono ?_); rintro e w' ⟨rfl, rfl⟩) | (go_at_call 13; (with_reducible refine (FloatC.Neg_c _ h0 h1 _).mono ?_); rintro e w' ⟨rfl, rfl⟩) | (go_at_call 14; (with_reducible refine (AX.out _).mono ?_); rintro e w' ⟨rfl, rfl⟩) | (go_at_call 15; (with_reducible refine (MK.out _).mono ?_); rintro e w' ⟨rfl, rfl⟩) | (go_at_call 16; (with_reducible refine (BT.out _).mono ?_); rintro e w' ⟨rfl, rfl⟩))
      go_ret
      exact ⟨rfl, rfl⟩
/-- what the walk takes of a rank that is handed in: Of, Between, Ranked -/
structure Ro (n y e : Int) (b : Bool) : Prop where
  of : ∀ w, Calls Try.prog 18 #[.int .i64 n] w fun e' w' => e' = .returned (.tuple #[.int .u64 y, .int .i64 e]) ∧ w = w'
  bt : ∀ w, Calls Try.prog 16 #[.int .i64 n, .int .i64 (-9218868437227405312), .int .i64 9218868437227405312] w fun e' w' => e' = .returned (.bool b) ∧ w = w'
  rk : b = true → ∀ w, Calls Try.prog 22 #[.int .i64 n] w fun e' w' => e' = .returned (.int .u64 y) ∧ w = w'
  way : b = true ∧ e = 0 ∨ b = false ∧ e = 1 ∧ y = 0
theorem ro_in (n : Int) (h0 : -9218868437227405312 ≤ n) (h1 : n ≤ 9218868437227405312) : Ro n (F.num n) 0 true :=
  ⟨fun w => FloatC.Of_ok n h0 h1 w, fun w => FloatR.Between_t n _ _ h0 h1 w, fun _ w => FloatR.Ranked_c n h0 h1 w, .inl ⟨rfl, rfl⟩⟩
theorem ro_out (n : Int) (h : n < -9218868437227405312 ∨ 9218868437227405312 < n) : Ro n 0 1 false :=
  ⟨fun w => FloatC.Of_no n h w, fun w => FloatR.Between_f n _ _ h w, (by intro h; cases h), .inr ⟨rfl, rfl, rfl⟩⟩
theorem ranks_nan (x n y e : Int) (b : Bool) (ro : Ro n y e b) (h0 : 0 ≤ x) (h1 : x ≤ 18446744073709551615) (hx : ¬ F.nn x) (w : World) :
    Calls Try.prog 4 #[.int .u64 x, .int .i64 n] w fun e w' => e = .returned (.bool true) ∧ w = w' := by
  have hx' : 9218868437227405312 < x % 9223372036854775808 := by unfold F.nn at hx; omega
  have hc := (F.cls_nan x).2 hx'
  have hq : F.exq x = 2047 := by unfold F.exq; omega
  have hn : F.nxt x = 9221120237041090560 := by unfold F.nxt; rw [if_pos hx']
  have hp : F.prv x = 9221120237041090560 := by unfold F.prv; rw [if_pos hx']
  have q1 : (y != y) = false := by simp
  have cx := fun w => FloatR.ClassOf_c x h0 h1 w
  have nx := fun w => FloatC.Next_c x h0 h1 w
  have px := fun w => FloatC.Prev_c x h0 h1 w
  rw [hc] at cx
  rw [hn] at nx
  rw [hp] at px
  have CX := Lib.hid cx
  have NX := Lib.hid nx
  have PX := Lib.hid px
  have RX := Lib.hid (fun w => FloatC.Rank_no x h0 h1 hx' w)
  have HU := Lib.hid (fun w => FloatC.Ulp_no x h0 h1 hq w)
  have HO := Lib.hid ro.of
  have HB := Lib.hid ro.bt
  clear cx nx px hx hc hq hn hp hx'
  rcases ro.way with ⟨rfl, rfl⟩ | ⟨rfl, rfl, rfl⟩
  · have R3 := Lib.hid (ro.rk rfl)
    clear ro
    go_enter Try.func4, Try.ntmps4
    go_wp2_with (first | (go_at_call 17; (with_reducible refine (RX.out _).mono ?_); rintro e w' ⟨rfl, rfl⟩) | (go_at_call 18; (with_reducible refine (HO.out _).mono ?_); rintro e w' ⟨rfl, rfl⟩) | (go_at_call 16; (with_reducible refine (HB.out _).mono ?_); rintro e w' ⟨rfl, rfl⟩) | (go_at_call 19; (with_reducible refine (HU.out _).mono ?_); rintro e w' ⟨rfl, rfl⟩) | (go_at_call 20; (with_reducible refine (NX.out _).mono ?_); rintro e w' ⟨rfl, rfl⟩) | (go_at_call 21; (with_reducible refine (PX.out _).mono ?_); rintro e w' ⟨rfl, rfl⟩) | (go_at_call 12; (with_reducible refine (CX.out _).mono ?_); rintro e w' ⟨rfl, rfl⟩) | (go_at_call 10; (with_reducible refine (FloatR.Fields_c _ h0 h1 _).mono ?_); rintro e w' ⟨rfl, rfl⟩) | (go_at_call 22; (with_reducible refine (R3.out _).mono ?_); rintro e w' ⟨rfl, rfl⟩))
    go_ret
    exact ⟨rfl, rfl⟩
  · clear ro
    go_enter Try.func4, Try.ntmps4
    go_wp2_with (first | (go_at_call 17; (with_reducible refine (RX.out _).mono ?_); rintro e w' ⟨rfl, rfl⟩) | (go_at_call 18; (with_reducible refine (HO.out _).mono ?_); rintro e w' ⟨rfl, rfl⟩) | (go_at_call 16; (with_reducible refine (HB.out _).mono ?_); rintro e w' ⟨rfl, rfl⟩) | (go_at_call 19; (with_reducible refine (HU.out _).mono ?_); rintro e w' ⟨rfl, rfl⟩) | (go_at_call 20; (with_reducible refine (NX.out _).mono ?_); rintro e w' ⟨rfl, rfl⟩) | (go_at_call 21; (with_reducible refine (PX.out _).mono ?_); rintro e w' ⟨rfl, rfl⟩) | (go_at_call 12; (with_reducible refine (CX.out _).mono ?_); rintro e w' ⟨rfl, rfl⟩) | (go_at_call 10; (with_reducible refine (FloatR.Fields_c _ h0 h1 _).mono ?_); rintro e w' ⟨rfl, rfl⟩))
    go_ret
    exact ⟨rfl, rfl⟩
theorem ranks_fin (x n y e : Int) (b : Bool) (ro : Ro n y e b) (h0 : 0 ≤ x) (h1 : x ≤ 18446744073709551615) (hf : x % 9223372036854775808 < 9218868437227405312) (w : World) :
    Calls Try.prog 4 #[.int .u64 x, .int .i64 n] w fun e w' => e = .returned (.bool true) ∧ w = w' := by
  obtain ⟨c3, e3⟩ := F.cls_fin x hf
  obtain ⟨k0, k1⟩ := F.rnk_fin x h0 h1 hf
  have hx : F.nn x := by unfold F.nn; omega
  have eb := F.exq_bd x
  have q0 : (F.cls x == 5) = false := by rw [beq_eq_false_iff_ne]; omega
  have q1 : (y != y) = false := by simp
  have q2 : (F.rnk x == F.rnk x) = true := by simp
  have cx := fun w => FloatR.ClassOf_c x h0 h1 w
  have nx := fun w => FloatC.Next_c x h0 h1 w
  have px := fun w => FloatC.Prev_c x h0 h1 w
  rw [F.nxt_num x h0 h1 hf] at nx
  rw [F.prv_num x h0 h1 hf] at px
  have CX := Lib.hid cx
  have PX := Lib.hid px
  have RX := Lib.hid (fun w => FloatC.Rank_ok x h0 h1 hx w)
  have KX := Lib.hid (fun w => FloatR.RankOf_c x h0 h1 hx w)
  have HO := Lib.hid ro.of
  have HB := Lib.hid ro.bt
  have hu := fun w => FloatC.Ulp_ok x h0 h1 e3 w
  have R1 := Lib.hid (fun w => FloatR.Ranked_c (F.rnk x + 1) (by omega) (by omega) w)
  have R2 := Lib.hid (fun w => FloatR.Ranked_c (F.rnk x - 1) (by omega) (by omega) w)
  have q3 : (F.num (F.rnk x + 1) == F.num (F.rnk x + 1)) = true := by simp
  have q4 : (F.num (F.rnk x - 1) == F.num (F.rnk x - 1)) = true := by simp
  clear cx px hx
  by_cases hm : F.rnk x = -1
  · have hex : ¬ 1 ≤ F.exq x := by unfold F.rnk at hm; unfold F.exq; split at hm <;> omega
    rw [if_pos hm] at nx
    have NX := Lib.hid nx
    have q5 : (F.rnk x == -1) = true := by rw [beq_iff_eq]; exact hm
    rw [show F.ulp x = -1074 by unfold F.ulp; rw [if_neg hex]; rfl] at hu
    have HU := Lib.hid hu
    clear hm nx hu hf
    rcases ro.way with ⟨rfl, rfl⟩ | ⟨rfl, rfl, rfl⟩
    · have R3 := Lib.hid (ro.rk rfl)
      clear ro
      go_enter Try.func4, Try.ntmps4
      go_wp2_with (first | (go_at_call 17; (with_reducible refine (RX.out _).mono ?_); rintro e w' ⟨rfl, rfl⟩) | (go_at_call 18; (with_reducible refine (HO.out _).mono ?_); rintro e w' ⟨rfl, rfl⟩) | (go_at_call 16; (with_reducible refine (HB.out _).mono ?_); rintro e w' ⟨rfl, rfl⟩) | (go_at_call 19; (with_reducible refine (HU.out _).mono ?_); rintro e w' ⟨rfl, rfl⟩) | (go_at_call 20; (with_reducible refine (NX.out _).mono ?_); rintro e w' ⟨rfl, rfl⟩) | (go_at_call 21; (with_reducible refine (PX.out _).mono ?_); rintro e w' ⟨rfl, rfl⟩) | (go_at_call 12; (with_reducible refine (CX.out _).mono ?_); rintro e w' ⟨rfl, rfl⟩) | (go_at_call 10; (with_reducible refine (FloatR.Fields_c _ h0 h1 _).mono ?_); rintro e w' ⟨rfl, rfl⟩) | (go_at_call 23; (with_reducible refine (KX.out _).mono ?_); rintro e w' ⟨rfl, rfl⟩) | (go_at_call 22; (with_reducible refine (R1.out _).mono ?_); rintro e w' ⟨rfl, rfl⟩) | (go_at_call 22; (with_reducible refine (R2.out _).mono ?_); rintro e w' ⟨rfl, rfl⟩) | (go_at_call 22; (with_reducible refine (R3.out _).mono ?_); rintro e w' ⟨rfl, rfl⟩))
      go_ret
      exact ⟨rfl, rfl⟩
    · clear ro
      go_enter Try.func4, Try.ntmps4
      go_wp2_with (first | (go_at_call 17; (with_reducible refine (RX.out _).mono ?_); rintro e w' ⟨rfl, rfl⟩) | (go_at_call 18; (with_reducible refine (HO.out _).mono ?_); rintro e w' ⟨rfl, rfl⟩) | (go_at_call 16; (with_reducible refine (HB.out _).mono ?_); rintro e w' ⟨rfl, rfl⟩) | (go_at_call 19; (with_reducible refine (HU.out _).mono ?_); rintro e w' ⟨rfl, rfl⟩) | (go_at_call 20; (with_reducible refine (NX.out _).mono ?_); rintro e w' ⟨rfl, rfl⟩) | (go_at_call 21; (with_reducible refine (PX.out _).mono ?_); rintro e w' ⟨rfl, rfl⟩) | (go_at_call 12; (with_reducible refine (CX.out _).mono ?_); rintro e w' ⟨rfl, rfl⟩) | (go_at_call 10; (with_reducible refine (FloatR.Fields_c _ h0 h1 _).mono ?_); rintro e w' ⟨rfl, rfl⟩) | (go_at_call 23; (with_reducible refine (KX.out _).mono ?_); rintro e w' ⟨rfl, rfl⟩) | (go_at_call 22; (with_reducible refine (R1.out _).mono ?_); rintro e w' ⟨rfl, rfl⟩) | (go_at_call 22; (with_reducible refine (R2.out _).mono ?_); rintro e w' ⟨rfl, rfl⟩))
      go_ret
      exact ⟨rfl, rfl⟩
  · rw [if_neg hm] at nx
    have NX := Lib.hid nx
    have q5 : (F.rnk x == -1) = false := by rw [beq_eq_false_iff_ne]; exact hm
    by_cases hex : 1 < F.exq x
    · rw [show F.ulp x = F.exq x - 1075 by unfold F.ulp; rw [if_pos (by omega)]] at hu
      have q6 : (F.exq x - 1075 != F.exq x - 1075) = false := by simp
      have HU := Lib.hid hu
      clear hm nx hu hf
      rcases ro.way with ⟨rfl, rfl⟩ | ⟨rfl, rfl, rfl⟩
      · have R3 := Lib.hid (ro.rk rfl)
        clear ro
        go_enter Try.func4, Try.ntmps4
        go_wp2_with (first | (go_at_call 17; (with_reducible refine (RX.out _).mono ?_); rintro e w' ⟨rfl, rfl⟩) | (go_at_call 18; (with_reducible refine (HO.out _).mono ?_); rintro e w' ⟨rfl, rfl⟩) | (go_at_call 16; (with_reducible refine (HB.out _).mono ?_); rintro e w' ⟨rfl, rfl⟩) | (go_at_call 19; (with_reducible refine (HU.out _).mono ?_); rintro e w' ⟨rfl, rfl⟩) | (go_at_call 20; (with_reducible refine (NX.out _).mono ?_); rintro e w' ⟨rfl, rfl⟩) | (go_at_call 21; (with_reducible refine (PX.out _).mono ?_); rintro e w' ⟨rfl, rfl⟩) | (go_at_call 12; (with_reducible refine (CX.out _).mono ?_); rintro e w' ⟨rfl, rfl⟩) | (go_at_call 10; (with_reducible refine (FloatR.Fields_c _ h0 h1 _).mono ?_); rintro e w' ⟨rfl, rfl⟩) | (go_at_call 23; (with_reducible refine (KX.out _).mono ?_); rintro e w' ⟨rfl, rfl⟩) | (go_at_call 22; (with_reducible refine (R1.out _).mono ?_); rintro e w' ⟨rfl, rfl⟩) | (go_at_call 22; (with_reducible refine (R2.out _).mono ?_); rintro e w' ⟨rfl, rfl⟩) | (go_at_call 22; (with_reducible refine (R3.out _).mono ?_); rintro e w' ⟨rfl, rfl⟩))
        go_ret
        exact ⟨rfl, rfl⟩
      · clear ro
        go_enter Try.func4, Try.ntmps4
        go_wp2_with (first | (go_at_call 17; (with_reducible refine (RX.out _).mono ?_); rintro e w' ⟨rfl, rfl⟩) | (go_at_call 18; (with_reducible refine (HO.out _).mono ?_); rintro e w' ⟨rfl, rfl⟩) | (go_at_call 16; (with_reducible refine (HB.out _).mono ?_); rintro e w' ⟨rfl, rfl⟩) | (go_at_call 19; (with_reducible refine (HU.out _).mono ?_); rintro e w' ⟨rfl, rfl⟩) | (go_at_call 20; (with_reducible refine (NX.out _).mono ?_); rintro e w' ⟨rfl, rfl⟩) | (go_at_call 21; (with_reducible refine (PX.out _).mono ?_); rintro e w' ⟨rfl, rfl⟩) | (go_at_call 12; (with_reducible refine (CX.out _).mono ?_); rintro e w' ⟨rfl, rfl⟩) | (go_at_call 10; (with_reducible refine (FloatR.Fields_c _ h0 h1 _).mono ?_); rintro e w' ⟨rfl, rfl⟩) | (go_at_call 23; (with_reducible refine (KX.out _).mono ?_); rintro e w' ⟨rfl, rfl⟩) | (go_at_call 22; (with_reducible refine (R1.out _).mono ?_); rintro e w' ⟨rfl, rfl⟩) | (go_at_call 22; (with_reducible refine (R2.out _).mono ?_); rintro e w' ⟨rfl, rfl⟩))
        go_ret
        exact ⟨rfl, rfl⟩
    · rw [show F.ulp x = -1074 by unfold F.ulp; split <;> omega] at hu
      have HU := Lib.hid hu
      clear hm nx hu hf
      rcases ro.way with ⟨rfl, rfl⟩ | ⟨rfl, rfl, rfl⟩
      · have R3 := Lib.hid (ro.rk rfl)
        clear ro
        go_enter Try.func4, Try.ntmps4
        go_wp2_with (first | (go_at_call 17; (with_reducible refine (RX.out _).mono ?_); rintro e w' ⟨rfl, rfl⟩) | (go_at_call 18; (with_reducible refine (HO.out _).mono ?_); rintro e w' ⟨rfl, rfl⟩) | (go_at_call 16; (with_reducible refine (HB.out _).mono ?_); rintro e w' ⟨rfl, rfl⟩) | (go_at_call 19; (with_reducible refine (HU.out _).mono ?_); rintro e w' ⟨rfl, rfl⟩) | (go_at_call 20; (with_reducible refine (NX.out _).mono ?_); rintro e w' ⟨rfl, rfl⟩) | (go_at_call 21; (with_reducible refine (PX.out _).mono ?_); rintro e w' ⟨rfl, rfl⟩) | (go_at_call 12; (with_reducible refine (CX.out _).mono ?_); rintro e w' ⟨rfl, rfl⟩) | (go_at_call 10; (with_reducible refine (FloatR.Fields_c _ h0 h1 _).mono ?_); rintro e w' ⟨rfl, rfl⟩) | (go_at_call 23; (with_reducible refine (KX.out _).mono ?_); rintro e w' ⟨rfl, rfl⟩) | (go_at_call 22; (with_reducible refine (R1.out _).mono ?_); rintro e w' ⟨rfl, rfl⟩) | (go_at_call 22; (with_reducible refine (R2.out _).mono ?_); rintro e w' ⟨rfl, rfl⟩) | (go_at_call 22; (with_reducible refine (R3.out _).mono ?_); rintro e w' ⟨rfl, rfl⟩))
        go_ret
        exact ⟨rfl, rfl⟩
      · clear ro
        go_enter Try.func4, Try.ntmps4
        go_wp2_with (first | (go_at_call 17; (with_reducible refine (RX.out _).mono ?_); rintro e w' ⟨rfl, rfl⟩) | (go_at_call 18; (with_reducible refine (HO.out _).mono ?_); rintro e w' ⟨rfl, rfl⟩) | (go_at_call 16; (with_reducible refine (HB.out _).mono ?_); rintro e w' ⟨rfl, rfl⟩) | (go_at_call 19; (with_reducible refine (HU.out _).mono ?_); rintro e w' ⟨rfl, rfl⟩) | (go_at_call 20; (with_reducible refine (NX.out _).mono ?_); rintro e w' ⟨rfl, rfl⟩) | (go_at_call 21; (with_reducible refine (PX.out _).mono ?_); rintro e w' ⟨rfl, rfl⟩) | (go_at_call 12; (with_reducible refine (CX.out _).mono ?_); rintro e w' ⟨rfl, rfl⟩) | (go_at_call 10; (with_reducible refine (FloatR.Fields_c _ h0 h1 _).mono ?_); rintro e w' ⟨rfl, rfl⟩) | (go_at_call 23; (with_reducible refine (KX.out _).mono ?_); rintro e w' ⟨rfl, rfl⟩) | (go_at_call 22; (with_reducible refine (R1.out _).mono ?_); rintro e w' ⟨rfl, rfl⟩) | (go_at_call 22; (with_reducible refine (R2.out _).mono ?_); rintro e w' ⟨rfl, rfl⟩))
        go_ret
        exact ⟨rfl, rfl⟩
theorem ranks_inf (x : Int) (hx : x = 9218868437227405312 ∨ x = 18442240474082181120) (n y e : Int) (b : Bool) (ro : Ro n y e b) (w : World) :
    Calls Try.prog 4 #[.int .u64 x, .int .i64 n] w fun e w' => e = .returned (.bool true) ∧ w = w' := by
  have q1 : (y != y) = false := by simp
  have HO := Lib.hid ro.of
  have HB := Lib.hid ro.bt
  rcases hx with rfl | rfl
  · have h0 : (0 : Int) ≤ 9218868437227405312 := by decide
    have h1 : (9218868437227405312 : Int) ≤ 18446744073709551615 := by decide
    have cx := fun w => FloatR.ClassOf_c 9218868437227405312 h0 h1 w
    rw [show F.cls 9218868437227405312 = 4 by decide] at cx
    have nx := fun w => FloatC.Next_c 9218868437227405312 h0 h1 w
    rw [show F.nxt 9218868437227405312 = 9218868437227405312 by decide] at nx
    have px := fun w => FloatC.Prev_c 9218868437227405312 h0 h1 w
    rw [show F.prv 9218868437227405312 = 9218868437227405311 by decide] at px
    have rx := fun w => FloatC.Rank_ok 9218868437227405312 h0 h1 (by unfold F.nn; decide) w
    have kx := fun w => FloatR.RankOf_c 9218868437227405312 h0 h1 (by unfold F.nn; decide) w
    rw [show F.rnk 9218868437227405312 = 9218868437227405312 by decide] at rx kx
    have r1 := fun w => FloatR.Ranked_c 9218868437227405312 (by decide) (by decide) w
    have r2 := fun w => FloatR.Ranked_c 9218868437227405311 (by decide) (by decide) w
    rw [show F.num 9218868437227405312 = 9218868437227405312 by decide] at r1
    rw [show F.num 9218868437227405311 = 9218868437227405311 by decide] at r2
    have CX := Lib.hid cx
    have NX := Lib.hid nx
    have PX := Lib.hid px
    have RX := Lib.hid rx
    have KX := Lib.hid kx
    have R1 := Lib.hid r1
    have R2 := Lib.hid r2
    have HU := Lib.hid (fun w => FloatC.Ulp_no 9218868437227405312 h0 h1 (by decide) w)
    clear cx nx px rx kx r1 r2
    rcases ro.way with ⟨rfl, rfl⟩ | ⟨rfl, rfl, rfl⟩
    · have R3 := Lib.hid (ro.rk rfl)
      clear ro
      go_enter Try.func4, Try.ntmps4
      go_wp2_with (first | (go_at_call 17; (with_reducible refine (RX.out _).mono ?_); rintro e w' ⟨rfl, rfl⟩) | (go_at_call 18; (with_reducible refine (HO.out _).mono ?_); rintro e w' ⟨rfl, rfl⟩) | (go_at_call 16; (with_reducible refine (HB.out _).mono ?_); rintro e w' ⟨rfl, rfl⟩) | (go_at_call 19; (with_reducible refine (HU.out _).mono ?_); rintro e w' ⟨rfl, rfl⟩) | (go_at_call 20; (with_reducible refine (NX.out _).mono ?_); rintro e w' ⟨rfl, rfl⟩) | (go_at_call 21; (with_reducible refine (PX.out _).mono ?_); rintro e w' ⟨rfl, rfl⟩) | (go_at_call 12; (with_reducible refine (CX.out _).mono ?_); rintro e w' ⟨rfl, rfl⟩) | (go_at_call 10; (with_reducible refine (FloatR.Fields_c _ h0 h1 _).mono ?_); rintro e w' ⟨rfl, rfl⟩) | (go_at_call 23; (with_reducible refine (KX.out _).mono ?_); rintro e w' ⟨rfl, rfl⟩) | (go_at_call 22; (with_reducible refine (R1.out _).mono ?_); rintro e w' ⟨rfl, rfl⟩) | (go_at_call 22; (with_reducible refine (R2.out _).mono ?_); rintro e w' ⟨rfl, rfl⟩) | (go_at_call 22; (with_reducible refine (R3.out _).mono ?_); rintro e w' ⟨rfl, rfl⟩))
      go_ret
      exact ⟨rfl, rfl⟩
    · clear ro
      go_enter Try.func4, Try.ntmps4
      go_wp2_with (first | (go_at_call 17; (with_reducible refine (RX.out _).mono ?_); rintro e w' ⟨rfl, rfl⟩) | (go_at_call 18; (with_reducible refine (HO.out _).mono ?_); rintro e w' ⟨rfl, rfl⟩) | (go_at_call 16; (with_reducible refine (HB.out _).mono ?_); rintro e w' ⟨rfl, rfl⟩) | (go_at_call 19; (with_reducible refine (HU.out _).mono ?_); rintro e w' ⟨rfl, rfl⟩) | (go_at_call 20; (with_reducible refine (NX.out _).mono ?_); rintro e w' ⟨rfl, rfl⟩) | (go_at_call 21; (with_reducible refine (PX.out _).mono ?_); rintro e w' ⟨rfl, rfl⟩) | (go_at_call 12; (with_reducible refine (CX.out _).mono ?_); rintro e w' ⟨rfl, rfl⟩) | (go_at_call 10; (with_reducible refine (FloatR.Fields_c _ h0 h1 _).mono ?_); rintro e w' ⟨rfl, rfl⟩) | (go_at_call 23; (with_reducible refine (KX.out _).mono ?_); rintro e w' ⟨rfl, rfl⟩) | (go_at_call 22; (with_reducible refine (R1.out _).mono ?_); rintro e w' ⟨rfl, rfl⟩) | (go_at_call 22; (with_reducible refine (R2.out _).mono ?_); rintro e w' ⟨rfl, rfl⟩))
      go_ret
      exact ⟨rfl, rfl⟩
  · have h0 : (0 : Int) ≤ 18442240474082181120 := by decide
    have h1 : (18442240474082181120 : Int) ≤ 18446744073709551615 := by decide
    have cx := fun w => FloatR.ClassOf_c 18442240474082181120 h0 h1 w
    rw [show F.cls 18442240474082181120 = 4 by decide] at cx
    have nx := fun w => FloatC.Next_c 18442240474082181120 h0 h1 w
    rw [show F.nxt 18442240474082181120 = 18442240474082181119 by decide] at nx
    have px := fun w => FloatC.Prev_c 18442240474082181120 h0 h1 w
    rw [show F.prv 18442240474082181120 = 18442240474082181120 by decide] at px
    have rx := fun w => FloatC.Rank_ok 18442240474082181120 h0 h1 (by unfold F.nn; decide) w
    have kx := fun w => FloatR.RankOf_c 18442240474082181120 h0 h1 (by unfold F.nn; decide) w
    rw [show F.rnk 18442240474082181120 = -9218868437227405312 by decide] at rx kx
    have r1 := fun w => FloatR.Ranked_c (-9218868437227405311) (by decide) (by decide) w
    have r2 := fun w => FloatR.Ranked_c (-9218868437227405312) (by decide) (by decide) w
    rw [show F.num (-9218868437227405311) = 18442240474082181119 by decide] at r1
    rw [show F.num (-9218868437227405312) = 18442240474082181120 by decide] at r2
    have CX := Lib.hid cx
    have NX := Lib.hid nx
    have PX := Lib.hid px
    have RX := Lib.hid rx
    have KX := Lib.hid kx
    have R1 := Lib.hid r1
    have R2 := Lib.hid r2
    have HU := Lib.hid (fun w => FloatC.Ulp_no 18442240474082181120 h0 h1 (by decide) w)
    clear cx nx px rx kx r1 r2
    rcases ro.way with ⟨rfl, rfl⟩ | ⟨rfl, rfl, rfl⟩
    · have R3 := Lib.hid (ro.rk rfl)
      clear ro
      go_enter Try.func4, Try.ntmps4
      go_wp2_with (first | (go_at_call 17; (with_reducible refine (RX.out _).mono ?_); rintro e w' ⟨rfl, rfl⟩) | (go_at_call 18; (with_reducible refine (HO.out _).mono ?_); rintro e w' ⟨rfl, rfl⟩) | (go_at_call 16; (with_reducible refine (HB.out _).mono ?_); rintro e w' ⟨rfl, rfl⟩) | (go_at_call 19; (with_reducible refine (HU.out _).mono ?_); rintro e w' ⟨rfl, rfl⟩) | (go_at_call 20; (with_reducible refine (NX.out _).mono ?_); rintro e w' ⟨rfl, rfl⟩) | (go_at_call 21; (with_reducible refine (PX.out _).mono ?_); rintro e w' ⟨rfl, rfl⟩) | (go_at_call 12; (with_reducible refine (CX.out _).mono ?_); rintro e w' ⟨rfl, rfl⟩) | (go_at_call 10; (with_reducible refine (FloatR.Fields_c _ h0 h1 _).mono ?_); rintro e w' ⟨rfl, rfl⟩) | (go_at_call 23; (with_reducible refine (KX.out _).mono ?_); rintro e w' ⟨rfl, rfl⟩) | (go_at_call 22; (with_reducible refine (R1.out _).mono ?_); rintro e w' ⟨rfl, rfl⟩) | (go_at_call 22; (with_reducible refine (R2.out _).mono ?_); rintro e w' ⟨rfl, rfl⟩) | (go_at_call 22; (with_reducible refine (R3.out _).mono ?_); rintro e w' ⟨rfl, rfl⟩))
      go_ret
      exact ⟨rfl, rfl⟩
    · clear ro
      go_enter Try.func4, Try.ntmps4
      go_wp2_with (first | (go_at_call 17; (with_reducible refine (RX.out _).mono ?_); rintro e w' ⟨rfl, rfl⟩) | (go_at_call 18; (with_reducible refine (HO.out _).mono ?_); rintro e w' ⟨rfl, rfl⟩) | (go_at_call 16; (with_reducible refine (HB.out _).mono ?_); rintro e w' ⟨rfl, rfl⟩) | (go_at_call 19; (with_reducible refine (HU.out _).mono ?_); rintro e w' ⟨rfl, rfl⟩) | (go_at_call 20; (with_reducible refine (NX.out _).mono ?_); rintro e w' ⟨rfl, rfl⟩) | (go_at_call 21; (with_reducible refine (PX.out _).mono ?_); rintro e w' ⟨rfl, rfl⟩) | (go_at_call 12; (with_reducible refine (CX.out _).mono ?_); rintro e w' ⟨rfl, rfl⟩) | (go_at_call 10; (with_reducible refine (FloatR.Fields_c _ h0 h1 _).mono ?_); rintro e w' ⟨rfl, rfl⟩) | (go_at_call 23; (with_reducible refine (KX.out _).mono ?_); rintro e w' ⟨rfl, rfl⟩) | (go_at_call 22; (with_reducible refine (R1.out _).mono ?_); rintro e w' ⟨rfl, rfl⟩) | (go_at_call 22; (with_reducible refine (R2.out _).mono ?_); rintro e w' ⟨rfl, rfl⟩))
      go_ret
      exact ⟨rfl, rfl⟩
end FloatM
end Go.Proofs.Ytkiffgadnkniaaa
