/-
  Texts glued together for a claim: Q6 Q7 Held3 O1 V5 V8 V6 O2.
-/
import Derived.Test.YtejglcpiihkenaaGreatDoorF3
import Derived.Test.YtejglcpiihkenaaGreatDoorF8
import Derived.Test.YtejglcpiihkenaaGreatDoorF9
import Derived.Test.YtejglcpiihkenaaGreatDoorF1
import Derived.Test.YtejglcpiihkenaaGreatDoorF7
/-
  The reference's numbers over a power of two: of a Dyad, of a number's bits.
-/
namespace Go.Proofs.YtejglcpiihkenaaGreatDoor
set_option linter.unusedVariables false
set_option linter.unusedSimpArgs false
open Go.RowKit
set_option linter.unusedVariables false
set_option linter.unusedSimpArgs false
namespace QC
open Z (Nz Tz cmpv big)
open ZC DC
theorem small_12800 {z : Int} (h0 : 0 ≤ z) (h : z < 4294967296 ^ 400) : z.natAbs < big 1000000 := by
  have h1 := pow2_big 12800 (by omega)
  rw [RC.pow_12800] at h
  generalize (2 : Int) ^ 12800 = p at *
  omega
/-- behind the box of a Dyad and the result's cell -/
theorem qdbox (w : World) (b1 : Bool) (A1 : Option Addr) (n1 c1 : Nat) (t1 : Int) :
    ∃ W0, (w.alloc (.cells #[.bool b1, .slice A1 n1 c1, .int .i64 t1] 60)).alloc (.cells #[.bool false, .slice none 0 0, .int .i64 0] 41) = W0 ∧ Below w.heap.size w W0 ∧ W0.heap.size = w.heap.size + 2 ∧
    (∀ W, Below W0.heap.size W0 W → (W.cell? ⟨w.heap.size, 0, none⟩ = some (.bool b1) ∧ W.cell? ⟨w.heap.size, 1, none⟩ = some (.slice A1 n1 c1) ∧ W.cell? ⟨w.heap.size, 2, none⟩ = some (.int .i64 t1)) ∧ Blk W (w.heap.size + 1) 41 #[.bool false, .slice none 0 0, .int .i64 0]) := by
  obtain ⟨N1, N2, NS, NB⟩ := new2 w 60 41 #[.bool b1, .slice A1 n1 c1, .int .i64 t1] #[.bool false, .slice none 0 0, .int .i64 0] 0
  rw [World.drewN_zero] at N1 N2 NS NB
  exact ⟨_, rfl, NB, NS, fun W h => ⟨⟨(N1.below h N1.lt).at_ 0 rfl, (N1.below h N1.lt).at_ 1 rfl, (N1.below h N1.lt).at_ 2 rfl⟩, N2.below h N2.lt⟩⟩
end QC
end Go.Proofs.YtejglcpiihkenaaGreatDoor

/-
  The reference's numbers over a power of two, by their value in very small units; of a number's bits.
-/
namespace Go.Proofs.YtejglcpiihkenaaGreatDoor
set_option linter.unusedVariables false
set_option linter.unusedSimpArgs false
open Go.RowKit
set_option linter.unusedVariables false
set_option linter.unusedSimpArgs false
namespace QC
open Z (Nz Tz cmpv big)
open ZC DC
theorem mk_sc (a e : Int) (he : -60000 ≤ e) : sc (mkz a e) (-(mkt e)) = sc a e := by
  unfold mkz mkt
  by_cases h : 0 ≤ e
  · rw [if_pos h, if_pos h]
    have := sc_shift a 0 e.toNat (by omega)
    rw [show (-0 : Int) = 0 from rfl, this]
    congr 1; omega
  · rw [if_neg h, if_neg h, Int.neg_neg]
/-- a number over a power of two: what it is worth; bounds -/
def QS (M T : Nat) (w : World) (v : Value) (s : Int) : Prop := ∃ z t, QV w v z t ∧ z.natAbs < 2 ^ M ∧ 0 ≤ t ∧ t ≤ T ∧ sc z (-t) = s
def RetS (M T : Nat) (w : World) (s : Int) (e : Ending) (w' : World) : Prop := ∃ b A n c t z, e = .returned (.agg #[.bool b, .slice A n c, .int .i64 t]) ∧ ZL w' b A n c z ∧ z.natAbs < 2 ^ M ∧ 0 ≤ t ∧ t ≤ T ∧ sc z (-t) = s ∧ Below w.heap.size w w'
theorem QS.below {M T : Nat} {w w' : World} {v : Value} {s : Int} (h : QS M T w v s) (hb : Below w.heap.size w w') : QS M T w' v s := by
  obtain ⟨z, t, h, k⟩ := h
  exact ⟨z, t, qv_below h hb, k⟩
theorem natAbs_mul_pow (z : Int) (k : Nat) : (z * 2 ^ k).natAbs = z.natAbs * 2 ^ k := by rw [Int.natAbs_mul, Int.natAbs_pow]; rfl
theorem up_lt {a ta tb : Int} {M T : Nat} (h : a.natAbs < 2 ^ M) (h1 : 0 ≤ ta) (h2 : tb ≤ T) : (up a ta tb).natAbs < 2 ^ (M + T) := by
  unfold up
  rw [natAbs_mul_pow, Nat.pow_add]
  have h3 : (2 : Nat) ^ (max ta tb - ta).toNat ≤ 2 ^ T := Nat.pow_le_pow_right (by decide) (by omega)
  have h4 : 0 < (2 : Nat) ^ (max ta tb - ta).toNat := Nat.pow_pos (by decide)
  exact Nat.lt_of_lt_of_le (Nat.mul_lt_mul_of_pos_right h h4) (Nat.mul_le_mul_left _ h3)
theorem up_sc {a ta tb : Int} (h : -60000 ≤ -(max ta tb)) : sc (up a ta tb) (-(max ta tb)) = sc a (-ta) := by
  unfold up
  rw [sc_shift _ _ _ h]
  congr 1; omega
theorem lt_big {x : Nat} {M N : Nat} (h : x < 2 ^ M) (hM : M ≤ N) (hN : N ≠ 0) : x < big N := by
  have := pow2_bigN M N hM hN
  rw [Int.natAbs_pow] at this
  exact Nat.lt_trans h this
theorem cmpv_sc {x y k : Int} : cmpv (sc x k) (sc y k) = cmpv x y := by
  rcases Int.lt_trichotomy x y with h | h | h
  · rw [Z.cmpv_lt h, Z.cmpv_lt (sc_lt.2 h)]
  · rw [Z.cmpv_eq h, Z.cmpv_eq (by rw [h])]
  · rw [Z.cmpv_gt h, Z.cmpv_gt (sc_lt.2 h)]
theorem QCmp_s {M T M' T' : Nat} {u v : Value} {s s' : Int} {w : World} (h : QS M T w u s) (h' : QS M' T' w v s') (k1 : M + T' ≤ 400000) (k2 : M' + T ≤ 400000) (k3 : T ≤ 50000) (k4 : T' ≤ 50000) :
    Calls Tryz.prog 37 #[u, v] w fun e w' => e = .returned (.int .i64 (cmpv s s')) ∧ Below w.heap.size w w' := by
  obtain ⟨a, ta, ha, a1, a2, a3, a4⟩ := h
  obtain ⟨b, tb, hb, b1, b2, b3, b4⟩ := h'
  have c1 := up_lt (tb := tb) a1 a2 b3
  have c2 := up_lt (tb := ta) b1 b2 a3
  have := QCmp_c u v a b ta tb w ha hb (lt_big a1 (by omega) (by omega)) (lt_big b1 (by omega) (by omega)) (by omega) (by omega) (lt_big c1 (by omega) (by omega)) (lt_big c2 (by omega) (by omega))
  have e1 := up_sc (a := a) (ta := ta) (tb := tb) (by omega)
  have e2 := up_sc (a := b) (ta := tb) (tb := ta) (by omega)
  rw [show max tb ta = max ta tb by omega] at e2
  rw [← cmpv_sc (k := -(max ta tb)), e1, e2, a4, b4] at this
  exact this
theorem QAdd_s {M T M' T' : Nat} {u v : Value} {s s' : Int} {w : World} (h : QS M T w u s) (h' : QS M' T' w v s') (k1 : M + T' ≤ 400000) (k2 : M' + T ≤ 400000) (k3 : T ≤ 50000) (k4 : T' ≤ 50000) :
    Calls Tryz.prog 36 #[u, v] w (RetS (M + T' + M' + T + 1) (T + T') w (s + s')) := by
  obtain ⟨a, ta, ha, a1, a2, a3, a4⟩ := h
  obtain ⟨b, tb, hb, b1, b2, b3, b4⟩ := h'
  have c1 := up_lt (tb := tb) a1 a2 b3
  have c2 := up_lt (tb := ta) b1 b2 a3
  have := QAdd_c u v a b ta tb w ha hb (lt_big a1 (by omega) (by omega)) (lt_big b1 (by omega) (by omega)) (by omega) (by omega) (lt_big c1 (by omega) (by omega)) (lt_big c2 (by omega) (by omega))
  have e1 := up_sc (a := a) (ta := ta) (tb := tb) (by omega)
  have e2 := up_sc (a := b) (ta := tb) (tb := ta) (by omega)
  rw [show max tb ta = max ta tb by omega] at e2
  refine this.mono ?_
  rintro e w' ⟨b9, A9, n9, c9, rfl, hr, hb9⟩
  refine ⟨b9, A9, n9, c9, _, _, rfl, hr, ?_, by omega, by omega, by rw [sc_add, e1, e2, a4, b4], hb9⟩
  have d1 : (2 : Nat) ^ (M + T') ≤ 2 ^ (M + T' + M' + T) := Nat.pow_le_pow_right (by decide) (by omega)
  have d2 : (2 : Nat) ^ (M' + T) ≤ 2 ^ (M + T' + M' + T) := Nat.pow_le_pow_right (by decide) (by omega)
  have d3 : (2 : Nat) ^ (M + T' + M' + T + 1) = 2 ^ (M + T' + M' + T) * 2 := Nat.pow_succ _ _
  omega
theorem QNeg_s {M T : Nat} {u : Value} {s : Int} {w : World} (h : QS M T w u s) (k1 : M ≤ 400000) : Calls Tryz.prog 48 #[u] w (RetS M T w (-s)) := by
  obtain ⟨a, ta, ha, a1, a2, a3, a4⟩ := h
  refine (QNeg_c u a ta w ha (lt_big a1 (by omega) (by omega))).mono ?_
  rintro e w' ⟨b9, A9, n9, c9, rfl, hr, hb9⟩
  exact ⟨b9, A9, n9, c9, _, _, rfl, hr, by rw [Int.natAbs_neg]; exact a1, a2, a3, by rw [sc_neg, a4], hb9⟩
theorem mkz_lt {a e : Int} {M : Nat} {E : Nat} (h : a.natAbs < 2 ^ M) (he : e ≤ E) : (mkz a e).natAbs < 2 ^ (M + E) := by
  unfold mkz
  rw [Nat.pow_add]
  have h4 : (0 : Nat) < 2 ^ E := Nat.pow_pos (by decide)
  by_cases h0 : 0 ≤ e
  · rw [if_pos h0, natAbs_mul_pow]
    have h3 : (2 : Nat) ^ e.toNat ≤ 2 ^ E := Nat.pow_le_pow_right (by decide) (by omega)
    have h5 : (0 : Nat) < 2 ^ e.toNat := Nat.pow_pos (by decide)
    exact Nat.lt_of_lt_of_le (Nat.mul_lt_mul_of_pos_right h h5) (Nat.mul_le_mul_left _ h3)
  · rw [if_neg h0]
    exact Nat.lt_of_lt_of_le h (Nat.le_mul_of_pos_right _ h4)
theorem mkt_bd (e : Int) (T : Nat) (h : -(T : Int) ≤ e) : 0 ≤ mkt e ∧ mkt e ≤ T := by unfold mkt; split <;> omega
theorem RetV.s {w w' : World} {a e : Int} {M E T : Nat} {en : Ending} (h : RetV w (mkz a e) (mkt e) en w') (ha : a.natAbs < 2 ^ M) (h1 : e ≤ E) (h2 : -(T : Int) ≤ e) (hT : T ≤ 60000) : RetS (M + E) T w (sc a e) en w' := by
  obtain ⟨b9, A9, n9, c9, rfl, hr, hb9⟩ := h
  have := mkt_bd e T h2
  exact ⟨b9, A9, n9, c9, _, _, rfl, hr, mkz_lt ha h1, this.1, this.2, mk_sc a e (by omega), hb9⟩
theorem QShift_s {M T : Nat} {u : Value} {s n : Int} {w : World} (h : QS M T w u s) (k1 : M ≤ 400000) (k2 : T ≤ 20000) (hn : 0 ≤ n ∧ n ≤ 1) : Calls Tryz.prog 44 #[u, .int .i64 n] w (RetS (M + 1) T w (s * 2 ^ n.toNat)) := by
  obtain ⟨a, ta, ha, a1, a2, a3, a4⟩ := h
  refine (QShift_c u a ta n w ha (lt_big a1 (by omega) (by omega)) (by omega) (by omega)).mono ?_
  intro e w' hr
  have := RetV.s (E := 1) (T := T) hr a1 (by omega) (by omega) (by omega)
  have e2 : sc a (n - ta) = s * 2 ^ n.toNat := by
    rw [← a4]
    have e3 := sc_shift a (-ta) n.toNat (by omega)
    rw [show -ta + (n.toNat : Int) = n - ta by omega] at e3
    rw [← e3, RC.sc_mul1, RC.sc_mul1 a, Int.mul_assoc, Int.mul_assoc, Int.mul_comm (2 ^ n.toNat)]
  rwa [e2] at this
theorem RetS.qs {M T : Nat} {w' : World} {s : Int} {b A n c} {t z : Int} (hr : ZL w' b A n c z) (h1 : z.natAbs < 2 ^ M) (h2 : 0 ≤ t) (h3 : t ≤ T) (h4 : sc z (-t) = s) : QS M T w' (.agg #[.bool b, .slice A n c, .int .i64 t]) s :=
  ⟨z, t, ⟨b, A, n, c, rfl, hr⟩, h1, h2, h3, h4⟩
theorem lt_cast {x k : Nat} (h : (x : Int) < 2 ^ k) : x < 2 ^ k := by
  have e : ((2 : Int) ^ k) = ((2 ^ k : Nat) : Int) := by rw [Int.natCast_pow]; rfl
  rw [e] at h
  exact Int.ofNat_lt.1 h
set_option maxRecDepth 100000 in
theorem QVal_c (x : Int) (w : World) (h0 : 0 ≤ x) (h1 : x ≤ 18446744073709551615) : Calls Tryz.prog 35 #[.int .u64 x] w (RetV w (mkz (sgm (F.sgn x) (mant x)) (F.ulp x)) (mkt (F.ulp x))) := by
  have FI : Hid (∀ W, Calls Tryz.prog 57 #[.int .u64 x] W fun e w' => e = .returned (.tuple #[.bool (F.sgn x), .int .i64 (F.exq x), .int .i64 (F.fra x)]) ∧ W = w') := fun W => FloatR.Fields_c x h0 h1 W
  have hb := F.exq_bd x
  have hf := F.fra_bd x
  have mb : 0 ≤ mant x ∧ mant x < 9007199254740992 := by unfold mant; split <;> omega
  have N1 : Hid (∀ W, Calls Tryz.prog 47 #[.int .i64 (mant x / 1000000000)] W (RetZ W (mant x / 1000000000))) := fun W => N_c _ (by omega) (by omega) W
  have N2 : Hid (∀ W, Calls Tryz.prog 47 #[.int .i64 1000000000] W (RetZ W 1000000000)) := fun W => N_c _ (by omega) (by omega) W
  have N3 : Hid (∀ W, Calls Tryz.prog 47 #[.int .i64 (mant x % 1000000000)] W (RetZ W (mant x % 1000000000))) := fun W => N_c _ (by omega) (by omega) W
  have b0 : ∀ y : Int, 0 ≤ y → y < 10000000000000000 → y.natAbs < big 1000000 := fun y h0 h1 => by
    have h2 : (2 : Nat) ^ 60 = 1152921504606846976 := by decide
    exact lt_big (M := 60) (by rw [h2]; omega) (by omega) (by omega)
  have MU : Hid (∀ (W : World) (u v : Value), ZV W u (mant x / 1000000000) → ZV W v 1000000000 → Calls Tryz.prog 59 #[u, v] W (RetZ W (mant x / 1000000000 * 1000000000))) := fun W u v h1 h2 => ZMul_c u v _ _ W h1 h2 (b0 (mant x / 1000000000) (by omega) (by omega)) (b0 1000000000 (by omega) (by omega))
  have AD : Hid (∀ (W : World) (u v : Value), ZV W u (mant x / 1000000000 * 1000000000) → ZV W v (mant x % 1000000000) → Calls Tryz.prog 60 #[u, v] W (RetZ W (mant x))) := fun W u v h1 h2 => by
    have := ZAdd_c u v _ _ W h1 h2 (b0 (mant x / 1000000000 * 1000000000) (by omega) (by omega)) (b0 (mant x % 1000000000) (by omega) (by omega))
    rwa [show mant x / 1000000000 * 1000000000 + mant x % 1000000000 = mant x by omega] at this
  have NG : Hid (∀ (W : World) (u : Value), ZV W u (mant x) → Calls Tryz.prog 61 #[u] W (RetZ0 W (-(mant x)))) := fun W u h1 => ZNeg_c u _ W h1 (b0 (mant x) (by omega) (by omega))
  have ub : -1074 ≤ F.ulp x ∧ F.ulp x ≤ 972 := by unfold F.ulp; split <;> omega
  have MK : Hid (∀ (W : World) (u : Value), ZV W u (sgm (F.sgn x) (mant x)) → Calls Tryz.prog 46 #[u, .int .i64 (F.ulp x)] W (RetV W (mkz (sgm (F.sgn x) (mant x)) (F.ulp x)) (mkt (F.ulp x)))) := fun W u hu => by
    refine QMake_c u _ (F.ulp x) W hu ?_ (by omega) (by omega)
    unfold sgm
    cases F.sgn x
    · simp; exact b0 (mant x) (by omega) (by omega)
    · simp; exact b0 (mant x) (by omega) (by omega)
  have EU : Hid (max (F.exq x) 1 - 1075 = F.ulp x) := by unfold Hid F.ulp; split <;> omega
  have EM : Hid ((0 < F.exq x ∧ F.fra x + 4503599627370496 = mant x) ∨ (¬ 0 < F.exq x ∧ F.fra x = mant x)) := by
    by_cases h : 0 < F.exq x
    · left; unfold mant; rw [if_pos h]; exact ⟨h, rfl⟩
    · right; unfold mant; rw [if_neg h]; exact ⟨h, rfl⟩
  have i1 : IntKind.i64.wrap (F.fra x + 4503599627370496) = F.fra x + 4503599627370496 := IntWalk.i64_in _ (by omega)
  have i2 : IntKind.i64.wrap (F.ulp x) = F.ulp x := IntWalk.i64_in _ (by omega)
  generalize mkz (sgm (F.sgn x) (mant x)) (F.ulp x) = r at *
  generalize mkt (F.ulp x) = T at *
  generalize mant x = m at *
  generalize F.ulp x = U at *
  generalize F.sgn x = sg at *
  generalize F.exq x = ex at *
  generalize F.fra x = fr at *
  obtain ⟨N1', N2', NS, D0⟩ : Blk (w.alloc (.cells #[.bool false, .slice none 0 0, .int .i64 0] 41)) w.heap.size 41 #[.bool false, .slice none 0 0, .int .i64 0] ∧ True ∧ (w.alloc (.cells #[.bool false, .slice none 0 0, .int .i64 0] 41)).heap.size = w.heap.size + 1 ∧ Below w.heap.size w (w.alloc (.cells #[.bool false, .slice none 0 0, .int .i64 0] 41)) := ⟨Blk.new _ _ _, trivial, by simp, (Below.refl _ _).alloc (Nat.le_refl _) _⟩
  obtain ⟨W0, hW0⟩ : ∃ W0, w.alloc (.cells #[.bool false, .slice none 0 0, .int .i64 0] 41) = W0 := ⟨_, rfl⟩
  rw [hW0] at N1' NS D0
  have KB : Hid (∀ W, Below W0.heap.size W0 W → Blk W w.heap.size 41 #[.bool false, .slice none 0 0, .int .i64 0]) := fun W hW => N1'.below hW N1'.lt
  have HW0 := Lib.hid hW0
  have D0 := Lib.hid D0
  obtain ⟨mb0, mb1⟩ := mb
  clear N1' N2' NS hW0 hb hf b0 ub h0 h1
  rcases EM.out with ⟨k1, k2⟩ | ⟨k1, k2⟩
  · have i1 := i1.trans k2
    have K2 := Lib.hid k2
    clear k2 EM
    cases sg
    · simp only [sgm, Bool.false_eq_true, if_false] at MK
      go_enter Tryz.func35, Tryz.ntmps35
      go_wp2_with (first
        | (go_at_call 57; rw [HW0.out]; (with_reducible refine (FI.out _).mono ?_); rintro e w1 ⟨rfl, rfl⟩; have D := Lib.hid (Below.refl W0.heap.size W0))
        | (go_at_call 47; (try simp only [K2.out]); (with_reducible refine (N1.out _).mono ?_); rintro e w2 ⟨_, rfl, ⟨b2, A2, n2, c2, rfl, hz2⟩, hb⟩; have hz2 := hz2.zl; have D := Lib.hid (D.out.trans (hb.mono D.out.size)); clear hb)
        | (go_at_call 47; (with_reducible refine (N2.out _).mono ?_); rintro e w3 ⟨_, rfl, ⟨b3, A3, n3, c3, rfl, hz3⟩, hb⟩; have hz2 := hz2.below hb; have hz3 := hz3.zl; have D := Lib.hid (D.out.trans (hb.mono D.out.size)); clear hb)
        | (go_at_call 59; (with_reducible refine (MU.out _ _ _ hz2.v hz3.v).mono ?_); rintro e w4 ⟨_, rfl, ⟨b4, A4, n4, c4, rfl, hz4⟩, hb⟩; have hz4 := hz4.zl; have D := Lib.hid (D.out.trans (hb.mono D.out.size)); clear hb)
        | (go_at_call 47; (try simp only [K2.out]); (with_reducible refine (N3.out _).mono ?_); rintro e w5 ⟨_, rfl, ⟨b5, A5, n5, c5, rfl, hz5⟩, hb⟩; have hz4 := hz4.below hb; have hz5 := hz5.zl; have D := Lib.hid (D.out.trans (hb.mono D.out.size)); clear hb)
        | (go_at_call 60; (with_reducible refine (AD.out _ _ _ hz4.v hz5.v).mono ?_); rintro e w6 ⟨_, rfl, ⟨b6, A6, n6, c6, rfl, hz6⟩, hb⟩; have s := hb.alloc hb.size (.cells #[.bool b6, .slice A6 n6 c6] 39); have hz := hz6.zl.alloc (.cells #[.bool b6, .slice A6 n6 c6] 39); have BZ := Blk.new w6 39 #[.bool b6, .slice A6 n6 c6]; have Z2 := (D.out.trans (hb.mono D.out.size)).size; have D := Lib.hid (D.out.trans (s.mono D.out.size)); clear hb s hz6; have eu := EU.out)
        | (go_at_call 46; (with_reducible refine (MK.out _ _ hz.v).mono ?_); rintro e w9 ⟨b9, A9, n9, c9, rfl, hr, hb4⟩; have D := Lib.hid (D.out.trans (hb4.mono D.out.size)); have R := (KB.out _ D.out); have X := Lib.hid (set3 hr (off_q hr R) (.bool b9) (.slice A9 n9 c9) (.int .i64 T)); have f0 := R.frozen 0; have f1 := R.frozen 1; have f2 := R.frozen 2; have t0 := R.at_ 0 rfl; have t1 := R.at_ 1 rfl; have t2 := R.at_ 2 rfl))
      exact bodyPost_ret (v := .agg #[.bool b9, .slice A9 n9 c9, .int .i64 T]) (by simp [results, Tryz.results35, go_sem, t0, t1, t2]) rfl
        ⟨_, _, _, _, rfl, X.out, below3q (D0.out.trans (D.out.mono D0.out.size)) (by omega) _ _ _⟩
    · simp only [sgm, if_true] at MK
      go_enter Tryz.func35, Tryz.ntmps35
      go_wp2_with (first
        | (go_at_call 57; rw [HW0.out]; (with_reducible refine (FI.out _).mono ?_); rintro e w1 ⟨rfl, rfl⟩; have D := Lib.hid (Below.refl W0.heap.size W0))
        | (go_at_call 47; (try simp only [K2.out]); (with_reducible refine (N1.out _).mono ?_); rintro e w2 ⟨_, rfl, ⟨b2, A2, n2, c2, rfl, hz2⟩, hb⟩; have hz2 := hz2.zl; have D := Lib.hid (D.out.trans (hb.mono D.out.size)); clear hb)
        | (go_at_call 47; (with_reducible refine (N2.out _).mono ?_); rintro e w3 ⟨_, rfl, ⟨b3, A3, n3, c3, rfl, hz3⟩, hb⟩; have hz2 := hz2.below hb; have hz3 := hz3.zl; have D := Lib.hid (D.out.trans (hb.mono D.out.size)); clear hb)
        | (go_at_call 59; (with_reducible refine (MU.out _ _ _ hz2.v hz3.v).mono ?_); rintro e w4 ⟨_, rfl, ⟨b4, A4, n4, c4, rfl, hz4⟩, hb⟩; have hz4 := hz4.zl; have D := Lib.hid (D.out.trans (hb.mono D.out.size)); clear hb)
        | (go_at_call 47; (try simp only [K2.out]); (with_reducible refine (N3.out _).mono ?_); rintro e w5 ⟨_, rfl, ⟨b5, A5, n5, c5, rfl, hz5⟩, hb⟩; have hz4 := hz4.below hb; have hz5 := hz5.zl; have D := Lib.hid (D.out.trans (hb.mono D.out.size)); clear hb)
        | (go_at_call 60; (with_reducible refine (AD.out _ _ _ hz4.v hz5.v).mono ?_); rintro e w6 ⟨_, rfl, ⟨b6, A6, n6, c6, rfl, hz6⟩, hb⟩; have s := hb.alloc hb.size (.cells #[.bool b6, .slice A6 n6 c6] 39); have hz := hz6.zl.alloc (.cells #[.bool b6, .slice A6 n6 c6] 39); have BZ := Blk.new w6 39 #[.bool b6, .slice A6 n6 c6]; have Z2 := (D.out.trans (hb.mono D.out.size)).size; have D := Lib.hid (D.out.trans (s.mono D.out.size)); clear hb s hz6; have eu := EU.out)
        | (go_at_call 61; (with_reducible refine (NG.out _ _ hz.v).mono ?_); rintro e w7 ⟨_, rfl, ⟨b7, A7, n7, c7, rfl, hz7⟩, hb3⟩; have BZ := BZ.below hb3 BZ.lt; have hz := ZC.ZL.box hz7 (BZ.at_ 0 rfl) (BZ.at_ 1 rfl) (.bool b7) (.slice A7 n7 c7); have D := D.out.trans (hb3.mono D.out.size); have D := Lib.hid (below_set2 D Z2 (.bool b7) (.slice A7 n7 c7)); have c0 := BZ.at_ 0 rfl; have c1 := BZ.at_ 1 rfl; have f0 := BZ.frozen 0; have f1 := BZ.frozen 1; have BS := BZ.set2 (.bool b7) (.slice A7 n7 c7); have d0 := BS.at_ 0 rfl; have d1 := BS.at_ 1 rfl)
        | (go_at_call 46; (with_reducible refine (MK.out _ _ hz.v).mono ?_); rintro e w9 ⟨b9, A9, n9, c9, rfl, hr, hb4⟩; have D := Lib.hid (D.out.trans (hb4.mono D.out.size)); have R := (KB.out _ D.out); have X := Lib.hid (set3 hr (off_q hr R) (.bool b9) (.slice A9 n9 c9) (.int .i64 T)); have f0 := R.frozen 0; have f1 := R.frozen 1; have f2 := R.frozen 2; have t0 := R.at_ 0 rfl; have t1 := R.at_ 1 rfl; have t2 := R.at_ 2 rfl))
      exact bodyPost_ret (v := .agg #[.bool b9, .slice A9 n9 c9, .int .i64 T]) (by simp [results, Tryz.results35, go_sem, t0, t1, t2]) rfl
        ⟨_, _, _, _, rfl, X.out, below3q (D0.out.trans (D.out.mono D0.out.size)) (by omega) _ _ _⟩
  · subst k2
    clear EM i1
    cases sg
    · simp only [sgm, Bool.false_eq_true, if_false] at MK
      go_enter Tryz.func35, Tryz.ntmps35
      go_wp2_with (first
        | (go_at_call 57; rw [HW0.out]; (with_reducible refine (FI.out _).mono ?_); rintro e w1 ⟨rfl, rfl⟩; have D := Lib.hid (Below.refl W0.heap.size W0))
        | (go_at_call 47; (try simp only [K2.out]); (with_reducible refine (N1.out _).mono ?_); rintro e w2 ⟨_, rfl, ⟨b2, A2, n2, c2, rfl, hz2⟩, hb⟩; have hz2 := hz2.zl; have D := Lib.hid (D.out.trans (hb.mono D.out.size)); clear hb)
        | (go_at_call 47; (with_reducible refine (N2.out _).mono ?_); rintro e w3 ⟨_, rfl, ⟨b3, A3, n3, c3, rfl, hz3⟩, hb⟩; have hz2 := hz2.below hb; have hz3 := hz3.zl; have D := Lib.hid (D.out.trans (hb.mono D.out.size)); clear hb)
        | (go_at_call 59; (with_reducible refine (MU.out _ _ _ hz2.v hz3.v).mono ?_); rintro e w4 ⟨_, rfl, ⟨b4, A4, n4, c4, rfl, hz4⟩, hb⟩; have hz4 := hz4.zl; have D := Lib.hid (D.out.trans (hb.mono D.out.size)); clear hb)
        | (go_at_call 47; (try simp only [K2.out]); (with_reducible refine (N3.out _).mono ?_); rintro e w5 ⟨_, rfl, ⟨b5, A5, n5, c5, rfl, hz5⟩, hb⟩; have hz4 := hz4.below hb; have hz5 := hz5.zl; have D := Lib.hid (D.out.trans (hb.mono D.out.size)); clear hb)
        | (go_at_call 60; (with_reducible refine (AD.out _ _ _ hz4.v hz5.v).mono ?_); rintro e w6 ⟨_, rfl, ⟨b6, A6, n6, c6, rfl, hz6⟩, hb⟩; have s := hb.alloc hb.size (.cells #[.bool b6, .slice A6 n6 c6] 39); have hz := hz6.zl.alloc (.cells #[.bool b6, .slice A6 n6 c6] 39); have BZ := Blk.new w6 39 #[.bool b6, .slice A6 n6 c6]; have Z2 := (D.out.trans (hb.mono D.out.size)).size; have D := Lib.hid (D.out.trans (s.mono D.out.size)); clear hb s hz6; have eu := EU.out)
        | (go_at_call 46; (with_reducible refine (MK.out _ _ hz.v).mono ?_); rintro e w9 ⟨b9, A9, n9, c9, rfl, hr, hb4⟩; have D := Lib.hid (D.out.trans (hb4.mono D.out.size)); have R := (KB.out _ D.out); have X := Lib.hid (set3 hr (off_q hr R) (.bool b9) (.slice A9 n9 c9) (.int .i64 T)); have f0 := R.frozen 0; have f1 := R.frozen 1; have f2 := R.frozen 2; have t0 := R.at_ 0 rfl; have t1 := R.at_ 1 rfl; have t2 := R.at_ 2 rfl))
      exact bodyPost_ret (v := .agg #[.bool b9, .slice A9 n9 c9, .int .i64 T]) (by simp [results, Tryz.results35, go_sem, t0, t1, t2]) rfl
        ⟨_, _, _, _, rfl, X.out, below3q (D0.out.trans (D.out.mono D0.out.size)) (by omega) _ _ _⟩
    · simp only [sgm, if_true] at MK
      go_enter Tryz.func35, Tryz.ntmps35
      go_wp2_with (first
        | (go_at_call 57; rw [HW0.out]; (with_reducible refine (FI.out _).mono ?_); rintro e w1 ⟨rfl, rfl⟩; have D := Lib.hid (Below.refl W0.heap.size W0))
        | (go_at_call 47; (try simp only [K2.out]); (with_reducible refine (N1.out _).mono ?_); rintro e w2 ⟨_, rfl, ⟨b2, A2, n2, c2, rfl, hz2⟩, hb⟩; have hz2 := hz2.zl; have D := Lib.hid (D.out.trans (hb.mono D.out.size)); clear hb)
        | (go_at_call 47; (with_reducible refine (N2.out _).mono ?_); rintro e w3 ⟨_, rfl, ⟨b3, A3, n3, c3, rfl, hz3⟩, hb⟩; have hz2 := hz2.below hb; have hz3 := hz3.zl; have D := Lib.hid (D.out.trans (hb.mono D.out.size)); clear hb)
        | (go_at_call 59; (with_reducible refine (MU.out _ _ _ hz2.v hz3.v).mono ?_); rintro e w4 ⟨_, rfl, ⟨b4, A4, n4, c4, rfl, hz4⟩, hb⟩; have hz4 := hz4.zl; have D := Lib.hid (D.out.trans (hb.mono D.out.size)); clear hb)
        | (go_at_call 47; (try simp only [K2.out]); (with_reducible refine (N3.out _).mono ?_); rintro e w5 ⟨_, rfl, ⟨b5, A5, n5, c5, rfl, hz5⟩, hb⟩; have hz4 := hz4.below hb; have hz5 := hz5.zl; have D := Lib.hid (D.out.trans (hb.mono D.out.size)); clear hb)
        | (go_at_call 60; (with_reducible refine (AD.out _ _ _ hz4.v hz5.v).mono ?_); rintro e w6 ⟨_, rfl, ⟨b6, A6, n6, c6, rfl, hz6⟩, hb⟩; have s := hb.alloc hb.size (.cells #[.bool b6, .slice A6 n6 c6] 39); have hz := hz6.zl.alloc (.cells #[.bool b6, .slice A6 n6 c6] 39); have BZ := Blk.new w6 39 #[.bool b6, .slice A6 n6 c6]; have Z2 := (D.out.trans (hb.mono D.out.size)).size; have D := Lib.hid (D.out.trans (s.mono D.out.size)); clear hb s hz6; have eu := EU.out)
        | (go_at_call 61; (with_reducible refine (NG.out _ _ hz.v).mono ?_); rintro e w7 ⟨_, rfl, ⟨b7, A7, n7, c7, rfl, hz7⟩, hb3⟩; have BZ := BZ.below hb3 BZ.lt; have hz := ZC.ZL.box hz7 (BZ.at_ 0 rfl) (BZ.at_ 1 rfl) (.bool b7) (.slice A7 n7 c7); have D := D.out.trans (hb3.mono D.out.size); have D := Lib.hid (below_set2 D Z2 (.bool b7) (.slice A7 n7 c7)); have c0 := BZ.at_ 0 rfl; have c1 := BZ.at_ 1 rfl; have f0 := BZ.frozen 0; have f1 := BZ.frozen 1; have BS := BZ.set2 (.bool b7) (.slice A7 n7 c7); have d0 := BS.at_ 0 rfl; have d1 := BS.at_ 1 rfl)
        | (go_at_call 46; (with_reducible refine (MK.out _ _ hz.v).mono ?_); rintro e w9 ⟨b9, A9, n9, c9, rfl, hr, hb4⟩; have D := Lib.hid (D.out.trans (hb4.mono D.out.size)); have R := (KB.out _ D.out); have X := Lib.hid (set3 hr (off_q hr R) (.bool b9) (.slice A9 n9 c9) (.int .i64 T)); have f0 := R.frozen 0; have f1 := R.frozen 1; have f2 := R.frozen 2; have t0 := R.at_ 0 rfl; have t1 := R.at_ 1 rfl; have t2 := R.at_ 2 rfl))
      exact bodyPost_ret (v := .agg #[.bool b9, .slice A9 n9 c9, .int .i64 T]) (by simp [results, Tryz.results35, go_sem, t0, t1, t2]) rfl
        ⟨_, _, _, _, rfl, X.out, below3q (D0.out.trans (D.out.mono D0.out.size)) (by omega) _ _ _⟩
end QC
end Go.Proofs.YtejglcpiihkenaaGreatDoor

/-
  A held region: one of three operations comes up.
-/
namespace Go.Proofs.YtejglcpiihkenaaGreatDoor
set_option linter.unusedVariables false
set_option linter.unusedSimpArgs false
open Go.RowKit
set_option linter.unusedVariables false
section
variable {P : Program} {ops : Array Oper} {Q : Exit → Act → World → Prop} {md : Region.Mode} {S : World → Prop} {nl : Nat}
theorem wpAnyL_three {i j k : Nat} {oi oj ok : Oper} {fuel : Nat} {listed : Array Bool} {a : Act} {w : World} (hr : Region.ready md ops listed = [i, j, k]) (hoi : ops[i]? = some oi) (hoj : ops[j]? = some oj) (hok : ops[k]? = some ok)
    (h1 : ∀ K' : Act → World → Prop, Shut (∀ a w, (i < nl → S w) → ((i < nl → S w) → wpAnyL P md ops Q S nl fuel (listed.setIfInBounds i true) a w) → K' a w) → if Region.wanted oi (yielded ops a.tmps) = true then Oper.wp P oi a w K' Q else K' (a.put oi.dst undef) w)
    (h2 : ∀ K' : Act → World → Prop, Shut (∀ a w, (j < nl → S w) → ((j < nl → S w) → wpAnyL P md ops Q S nl fuel (listed.setIfInBounds j true) a w) → K' a w) → if Region.wanted oj (yielded ops a.tmps) = true then Oper.wp P oj a w K' Q else K' (a.put oj.dst undef) w)
    (h3 : ∀ K' : Act → World → Prop, Shut (∀ a w, (k < nl → S w) → ((k < nl → S w) → wpAnyL P md ops Q S nl fuel (listed.setIfInBounds k true) a w) → K' a w) → if Region.wanted ok (yielded ops a.tmps) = true then Oper.wp P ok a w K' Q else K' (a.put ok.dst undef) w) :
    wpAnyL P md ops Q S nl (fuel + 1) listed a w := by
  refine ⟨fun h0 => (by rw [hr] at h0; cases h0), fun m hm => ?_⟩
  rw [hr] at hm
  rcases List.mem_cons.1 hm with rfl | hm
  · exact wpOp_step hoi (fun K' hK => h1 K' (fun a w hS hW => hK a w ⟨hS, hW hS⟩))
  · rcases List.mem_cons.1 hm with rfl | hm
    · exact wpOp_step hoj (fun K' hK => h2 K' (fun a w hS hW => hK a w ⟨hS, hW hS⟩))
    · obtain rfl : m = k := by simpa using hm
      exact wpOp_step hok (fun K' hK => h3 K' (fun a w hS hW => hK a w ⟨hS, hW hS⟩))
end
end Go.Proofs.YtejglcpiihkenaaGreatDoor

/-
  The reference: halvings.
-/
namespace Go.Proofs.YtejglcpiihkenaaGreatDoor
set_option linter.unusedVariables false
set_option linter.unusedSimpArgs false
open Go.RowKit
set_option linter.unusedVariables false
set_option linter.unusedSimpArgs false
namespace QC
open Z (Nz Tz cmpv big)
open ZC DC
/-- quotient and remainder, each in a block of its own -/
def QD (we wx : World) (s18 s19 : Value) (q r : Int) : Prop := ∃ g h bq Aq nq cq br Ar nr cr, s18 = .pointer (some ⟨g, 0, none⟩) ∧ s19 = .pointer (some ⟨h, 0, none⟩) ∧ we.heap.size ≤ g ∧ we.heap.size ≤ h ∧ g ≠ h ∧ Blk wx g 39 #[.bool bq, .slice Aq nq cq] ∧ Blk wx h 39 #[.bool br, .slice Ar nr cr] ∧ ZL wx bq Aq nq cq q ∧ ZL wx br Ar nr cr r ∧ Below we.heap.size we wx
theorem qd_set {we W : World} {g h : Nat} {bq br : Bool} {Aq Ar : Option Addr} {nq cq nr cr : Nat} {q r : Int} (D : Below we.heap.size we W) (hg : we.heap.size ≤ g) (hh : we.heap.size ≤ h) (hne : g ≠ h)
    (G : Blk W g 39 #[.bool false, .slice none 0 0]) (H : Blk W h 39 #[.bool false, .slice none 0 0]) (hq : ZL W bq Aq nq cq q) (hr : ZL W br Ar nr cr r) :
    QD we ((((W.setCell ⟨g, 0, none⟩ (.bool bq)).setCell ⟨g, 1, none⟩ (.slice Aq nq cq)).setCell ⟨h, 0, none⟩ (.bool br)).setCell ⟨h, 1, none⟩ (.slice Ar nr cr)) (.pointer (some ⟨g, 0, none⟩)) (.pointer (some ⟨h, 0, none⟩)) q r := by
  have G1 := G.set2 (.bool bq) (.slice Aq nq cq)
  have H1 := H.far2 (Ne.symm hne) (.bool bq) (.slice Aq nq cq)
  have q1 := ZC.ZL.box hq (G.at_ 0 rfl) (G.at_ 1 rfl) (.bool bq) (.slice Aq nq cq)
  have r1 := ZC.ZL.box hr (G.at_ 0 rfl) (G.at_ 1 rfl) (.bool bq) (.slice Aq nq cq)
  exact ⟨g, h, bq, Aq, nq, cq, br, Ar, nr, cr, rfl, rfl, hg, hh, hne, G1.far2 hne _ _, H1.set2 _ _, ZC.ZL.box q1 (H1.at_ 0 rfl) (H1.at_ 1 rfl) _ _, ZC.ZL.box r1 (H1.at_ 0 rfl) (H1.at_ 1 rfl) _ _, below_set2 (below_set2 D hg _ _) hh _ _⟩
theorem zv_below {w w' : World} {v : Value} {z : Int} (h : ZV w v z) (hb : Below w.heap.size w w') : ZV w' v z := by
  obtain ⟨b, A, n, c, e, h⟩ := h
  exact ⟨b, A, n, c, e, h.below hb⟩
/-- z is y, N times doubled -/
def Tw (z y : Int) (N : Nat) : Prop := z = y * 2 ^ N ∧ y ≠ 0
theorem Tw.step {z y : Int} {N K : Nat} (h : Tw z y N) (hr : y % 2 ^ K = 0) : Tw z (y / 2 ^ K) (N + K) := by
  obtain ⟨h1, h2⟩ := h
  have h3 : y / 2 ^ K * 2 ^ K = y := Int.ediv_mul_cancel (Int.dvd_of_emod_eq_zero hr)
  refine ⟨?_, fun h => h2 (by rw [← h3, h, Int.zero_mul])⟩
  rw [h1, Nat.add_comm, Int.pow_add, ← Int.mul_assoc, h3]
theorem natAbs_pow2 (y : Int) (N : Nat) : (y * 2 ^ N).natAbs = y.natAbs * 2 ^ N := by
  rw [Int.natAbs_mul, Int.natAbs_pow]; rfl
theorem Tw.lt {z y : Int} {N M : Nat} (h : Tw z y N) (hM : z.natAbs < 2 ^ M) : N < M := by
  obtain ⟨h1, h2⟩ := h
  rw [h1, natAbs_pow2] at hM
  have h3 : 0 < y.natAbs := Int.natAbs_pos.2 h2
  have h4 : 2 ^ N < 2 ^ M := Nat.lt_of_le_of_lt (Nat.le_mul_of_pos_left _ h3) hM
  exact (Nat.pow_lt_pow_iff_right (by decide)).1 h4
theorem Tw.big {z y : Int} {N B : Nat} (h : Tw z y N) (hB : z.natAbs < B) : y.natAbs < B := by
  obtain ⟨h1, h2⟩ := h
  rw [h1, natAbs_pow2] at hB
  exact Nat.lt_of_le_of_lt (Nat.le_mul_of_pos_right _ (Nat.two_pow_pos N)) hB
end QC
end Go.Proofs.YtejglcpiihkenaaGreatDoor

/-
  The reference: are Dyads right?
-/
namespace Go.Proofs.YtejglcpiihkenaaGreatDoor
set_option linter.unusedVariables false
set_option linter.unusedSimpArgs false
open Go.RowKit
set_option linter.unusedVariables false
set_option linter.unusedSimpArgs false
namespace VD
open L NC NK DC
/-- what DyadRight asks, case by case; what it finds -/
inductive Ask (w : World) (b : Bool) (A : Option Addr) (n c : Nat) (x : Int) (er : Int) : Prop
  | far (h : ¬ (n ≤ 400 ∧ -10000 ≤ x ∧ x ≤ 10000)) (e : er = 2)
  | zneg (h : n ≤ 400 ∧ -10000 ≤ x ∧ x ≤ 10000) (hn : n = 0) (hb : b = true) (e : er = 3)
  | zexp (h : n ≤ 400 ∧ -10000 ≤ x ∧ x ≤ 10000) (hn : n = 0) (hb : b = false) (hx : (x != 0) = true) (e : er = 3)
  | zero (h : n ≤ 400 ∧ -10000 ≤ x ∧ x ≤ 10000) (hn : n = 0) (hb : b = false) (hx : x = 0) (e : er = 0)
  | even (h : n ≤ 400 ∧ -10000 ≤ x ∧ x ≤ 10000) (i : Nat) (hn : n = i + 1) (ad : Addr) (hA : A = some ad) (hl : ad.block < w.heap.size) (u : Int) (hu : w.cell? ad = some (.int .u32 u)) (h2 : (u.tmod 2 == 0) = true) (e : er = 3)
  | nought (h : n ≤ 400 ∧ -10000 ≤ x ∧ x ≤ 10000) (i : Nat) (hn : n = i + 1) (ad : Addr) (hA : A = some ad) (hl : ad.block < w.heap.size) (u v : Int) (hu : w.cell? ad = some (.int .u32 u)) (h2 : (u.tmod 2 == 0) = false) (hv : w.cell? (ad.add i) = some (.int .u32 v)) (h3 : (v == 0) = true) (e : er = 3)
  | good (h : n ≤ 400 ∧ -10000 ≤ x ∧ x ≤ 10000) (i : Nat) (hn : n = i + 1) (ad : Addr) (hA : A = some ad) (hl : ad.block < w.heap.size) (u v : Int) (hu : w.cell? ad = some (.int .u32 u)) (h2 : (u.tmod 2 == 0) = false) (hv : w.cell? (ad.add i) = some (.int .u32 v)) (h3 : (v == 0) = false) (e : er = 0)
theorem ask {w : World} {b : Bool} {A : Option Addr} {n c : Nat} {x : Int} {d : Dy} (h : DV w (.agg #[.bool b, .slice A n c, .int .i64 x]) d) : Ask w b A n c x d.er := by
  obtain ⟨b', A', n', c', x', l, e, hs, Ll, hl, he, -, -⟩ := h
  injection e with e
  have e1 := congrArg Array.toList e
  simp only [List.cons.injEq, Value.bool.injEq, Value.slice.injEq, Value.int.injEq, and_true, true_and] at e1
  obtain ⟨rfl, ⟨rfl, rfl, rfl⟩, rfl⟩ := e1
  have hn := hs.len_.1
  rw [he]
  unfold dchk
  by_cases h1 : 400 < l.length ∨ ¬ (-10000 ≤ x ∧ x ≤ 10000)
  · rw [if_pos h1]; exact .far (by omega) rfl
  · rw [if_neg h1]
    have hb : n ≤ 400 ∧ -10000 ≤ x ∧ x ≤ 10000 := by omega
    by_cases h0 : l = []
    · have hn0 : n = 0 := by rw [hn, h0]; rfl
      have e2 : nrm b l x = (!b && decide (x = 0)) := by unfold nrm; rw [if_pos h0]
      rw [e2]
      cases b
      · by_cases hx : x = 0
        · rw [if_pos (by simp [hx])]; exact .zero hb hn0 rfl hx rfl
        · rw [if_neg (by simp [hx])]; exact .zexp hb hn0 rfl (by simp [hx]) rfl
      · rw [if_neg (by simp)]; exact .zneg hb hn0 rfl rfl
    · have hp := List.length_pos_iff.2 h0
      obtain ⟨i, hi⟩ : ∃ i, n = i + 1 := ⟨n - 1, by omega⟩
      obtain ⟨ad, c2, e3, hc2, hbl, hu⟩ := hs.at_ 0 hp
      injection e3 with e4 e5 e6
      subst e4
      obtain ⟨ad', c3, e7, hc3, hbl', hv⟩ := hs.at_ i (by omega)
      injection e7 with e8 e9 e10
      obtain rfl := Option.some.inj e8
      have hu2 : w.cell? ad = some (.int .u32 (l.getD 0 0)) := by simpa [Addr.add] using hu
      have b0 := Ll.at_ 0
      have e2 : nrm b l x = (decide (chk l = 0) && decide (lv l % 2 = 1)) := by unfold nrm; rw [if_neg h0]
      have hlast : l.getLast? = some (l.getD i 0) := by
        rw [List.getLast?_eq_getElem?, List.getD_eq_getElem?_getD, show l.length - 1 = i by omega, List.getElem?_eq_getElem (by omega)]; rfl
      rw [e2, lv_odd]
      have hc : chk l = 0 ↔ l.getD i 0 ≠ 0 := by
        unfold chk
        rw [if_neg (by omega), hlast]
        generalize l.getD i 0 = v
        by_cases h9 : v = 0
        · rw [if_pos (by rw [h9])]; simp [h9]
        · rw [if_neg (by simpa using h9)]; simp [h9]
      clear e2 hlast hu
      generalize l.getD 0 0 = u at *
      generalize l.getD i 0 = v at *
      have t2 : u.tmod 2 = u % 2 := Int.tmod_eq_emod_of_nonneg b0.1
      by_cases ho : u % 2 = 1
      · have t3 : (u.tmod 2 == 0) = false := by rw [t2, ho]; rfl
        by_cases h9 : v = 0
        · rw [if_neg (by rw [decide_eq_false fun h => hc.1 h h9]; simp)]
          exact .nought hb i hi ad rfl hbl _ _ hu2 t3 hv (by simp [h9]) rfl
        · rw [if_pos (by rw [decide_eq_true (hc.2 h9), decide_eq_true ho]; rfl)]
          exact .good hb i hi ad rfl hbl _ _ hu2 t3 hv (by simp [h9]) rfl
      · rw [if_neg (by rw [decide_eq_false ho]; simp)]
        exact .even hb i hi ad rfl hbl _ hu2 (by rw [t2, beq_iff_eq]; omega) rfl
end VD
end Go.Proofs.YtejglcpiihkenaaGreatDoor

/-
  The reference: is it zero in all fields?
-/
namespace Go.Proofs.YtejglcpiihkenaaGreatDoor
set_option linter.unusedVariables false
set_option linter.unusedSimpArgs false
open Go.RowKit
set_option linter.unusedVariables false
set_option linter.unusedSimpArgs false
namespace VD
open L NC NK DC
/-- the Dyad that is handed back with an error -/
theorem none_iff {w : World} {b : Bool} {A : Option Addr} {n c : Nat} {x : Int} {d : Dy} (h : GV w b A n c x d) : (n = 0 ∧ x = 0 ∧ b = false) ↔ d = dz := by
  have hz := gv_zero h
  obtain ⟨h1, h2, h3, h4, h5, h6⟩ := h
  constructor
  · rintro ⟨k1, k2, k3⟩
    exact Dy.ext' h4 (hz.1 k1) (by rw [← h3]; exact k2)
  · rintro rfl
    exact ⟨hz.2 rfl, h3, by rw [h2]; rfl⟩
end VD
end Go.Proofs.YtejglcpiihkenaaGreatDoor

/-
  The reference: DyadRight of one Dyad, of two.
-/
namespace Go.Proofs.YtejglcpiihkenaaGreatDoor
set_option linter.unusedVariables false
set_option linter.unusedSimpArgs false
open Go.RowKit
set_option linter.unusedVariables false
set_option linter.unusedSimpArgs false
namespace VD
open L NC NK DC
theorem idx_facts {n i : Nat} (h : n = i + 1) (hl : n ≤ 400) : ((n : Int) == 0) = false ∧ (n : Int) > 0 ∧ (n : Int) - 1 = (i : Int) ∧ IntKind.i64.wrap (i : Int) = (i : Int) ∧ (i : Int) < n ∧ (0 : Int) < n := by
  exact ⟨by rw [beq_eq_false_iff_ne]; omega, by omega, by omega, IntWalk.i64_in _ (by omega), by omega, by omega⟩
end VD
end Go.Proofs.YtejglcpiihkenaaGreatDoor

/-
  The reference: just what is to be told of a number.
-/
namespace Go.Proofs.YtejglcpiihkenaaGreatDoor
set_option linter.unusedVariables false
set_option linter.unusedSimpArgs false
open Go.RowKit
set_option linter.unusedVariables false
set_option linter.unusedSimpArgs false
namespace QC
open Z (Nz Tz cmpv big)
open ZC DC
theorem lim_pow : (4294967296 : Int) ^ 400 = 2 ^ 12800 := by
  rw [show (4294967296 : Int) = 2 ^ 32 by decide, ← Int.pow_mul]
/-- what a number tells depends on what it's worth only -/
theorem fin_eq {m x m' x' : Int} (h : sc m x = sc m' x') (hx : -60000 ≤ x) (hx' : -60000 ≤ x') : fin m x = fin m' x' := by
  by_cases h0 : m = 0
  · subst h0
    have h1 : m' = 0 := sc_zero.1 (h ▸ sc_zero.2 rfl)
    subst h1
    rw [fin_zero, fin_zero]
  · have h1 : m' ≠ 0 := fun h2 => h0 (sc_zero.1 (h.trans (sc_zero.2 h2)))
    obtain ⟨o, e, ho⟩ := tz_spec h0
    obtain ⟨p, e', hp⟩ := tz_spec h1
    generalize tz m = k at e
    generalize tz m' = k' at e'
    subst e
    subst e'
    rw [sc_shift _ _ _ hx, sc_shift _ _ _ hx'] at h
    obtain ⟨a, b⟩ := sc_inj h (.inr ho) (.inr hp) (by omega) (by omega)
    rw [fin_shift, fin_shift, a, b]
end QC
end Go.Proofs.YtejglcpiihkenaaGreatDoor

