/-
  Texts glued together for a claim: Q6 Q7 Held3 O1 V5 V8 V6 O2.
-/
import Derived.Test.YtelblhgagpkjmaaGreatDoorF3
import Derived.Test.YtelblhgagpkjmaaGreatDoorF8
import Derived.Test.YtelblhgagpkjmaaGreatDoorF9
import Derived.Test.YtelblhgagpkjmaaGreatDoorF1
import Derived.Test.YtelblhgagpkjmaaGreatDoorF7
/-
  The reference's numbers over a power of two: of a Dyad, of a number's bits.
-/
namespace Go.Proofs.YtelblhgagpkjmaaGreatDoor
set_option linter.unusedVariables false
set_option linter.unusedSimpArgs false
open Go.RowKit
set_option linter.unusedVariables false
set_option linter.unusedSimpArgs false
namespace QC
open Z (Nz Tz cmpv big)
open ZC DC
theorem small_12800 {z : Int} (h0 : 0 ≤ z) (h : z < 4294967296 ^ 400) : z.natAbs < big 1000000 := by
  have h1 := pow2_big 12800 (by omega)
  rw [RC.pow_12800] at h
  generalize (2 : Int) ^ 12800 = p at *
  omega
/-- behind the box of a Dyad and the result's cell -/
theorem qdbox (w : World) (b1 : Bool) (A1 : Option Addr) (n1 c1 : Nat) (t1 : Int) :
    ∃ W0, (w.alloc (.cells #[.bool b1, .slice A1 n1 c1, .int .i64 t1] 26)).alloc (.cells #[.bool false, .slice none 0 0, .int .i64 0] 41) = W0 ∧ Below w.heap.size w W0 ∧ W0.heap.size = w.heap.size + 2 ∧
    (∀ W, Below W0.heap.size W0 W → (W.cell? ⟨w.heap.size, 0, none⟩ = some (.bool b1) ∧ W.cell? ⟨w.heap.size, 1, none⟩ = some (.slice A1 n1 c1) ∧ W.cell? ⟨w.heap.size, 2, none⟩ = some (.int .i64 t1)) ∧ Blk W (w.heap.size + 1) 41 #[.bool false, .slice none 0 0, .int .i64 0]) := by
  obtain ⟨N1, N2, NS, NB⟩ := new2 w 26 41 #[.bool b1, .slice A1 n1 c1, .int .i64 t1] #[.bool false, .slice none 0 0, .int .i64 0] 0
  rw [World.drewN_zero] at N1 N2 NS NB
  exact ⟨_, rfl, NB, NS, fun W h => ⟨⟨(N1.below h N1.lt).at_ 0 rfl, (N1.below h N1.lt).at_ 1 rfl, (N1.below h N1.lt).at_ 2 rfl⟩, N2.below h N2.lt⟩⟩
set_option maxRecDepth 100000 in
theorem QOf_d (v : Value) (d : Dy) (w : World) (h : DV w v d) (he : d.er = 0) : Calls Tryz.prog 38 #[v] w (RetV w (mkz d.m d.x) (mkt d.x)) := by
  obtain ⟨b1, A1, n1, c1, x1, l1, rfl, -, -, -, -, g1, -⟩ := h
  have g := g1 he
  have hi := g.2.2.2.2.2
  have hs := RC.abs_small hi
  have ex := g.2.2.1
  have eb := g.2.1
  obtain ⟨l, l1', l2, l3, l4⟩ := g.1
  have hl : l.length ≤ 400 := L.len_le l2 l3 (by rw [l4]; exact hs)
  obtain ⟨W0, hW0, D0, HS, KB⟩ := qdbox w b1 A1 n1 c1 x1
  have ZM : Hid (∀ W, Below W0.heap.size W0 W → Calls Tryz.prog 62 #[.slice A1 n1 c1] W (RetZ W (d.m.natAbs : Int))) := fun W hW => by
    have := ZLimbs_c l.length (.slice A1 n1 c1) l W ((l1'.below D0).below hW) (Nat.le_refl _) (by omega) l2
    rwa [l4] at this
  have bA := small_12800 (by omega) hs
  have NG : Hid (∀ (W : World) (u : Value), ZV W u (d.m.natAbs : Int) → Calls Tryz.prog 55 #[u] W (RetZ0 W (-(d.m.natAbs : Int)))) := fun W u h1 => ZNeg_c u _ W h1 bA
  have em : d.m = if b1 = true then -(d.m.natAbs : Int) else (d.m.natAbs : Int) := by
    rw [eb]
    by_cases h : d.m < 0
    · simp [h]; omega
    · simp [h]; omega
  have MK : Hid (∀ (W : World) (u : Value), ZV W u (if b1 = true then -(d.m.natAbs : Int) else (d.m.natAbs : Int)) → Calls Tryz.prog 27 #[u, .int .i64 x1] W (RetV W (mkz d.m d.x) (mkt d.x))) := fun W u hu => by
    rw [← em] at hu
    rw [ex]
    exact QMake_c u d.m d.x W hu (by simpa using bA) (by have := hi.2.2; omega) (by have := hi.2.2; omega)
  have HW0 := Lib.hid hW0
  have D0 := Lib.hid D0
  have KB0 := KB _ (Below.refl _ _)
  have KB := Lib.hid KB
  rw [← hW0] at KB0
  obtain ⟨⟨p0, p1, p2⟩, -⟩ := KB0
  have D := Lib.hid (Below.refl W0.heap.size W0)
  generalize mkz d.m d.x = r at *
  generalize mkt d.x = T at *
  generalize (d.m.natAbs : Int) = z at *
  clear hW0 HS g1 g hi hs ex eb l1' l2 l3 l4 hl bA em he
  cases b1
  · simp only [Bool.false_eq_true, if_false] at MK
    go_enter Tryz.func38, Tryz.ntmps38
    go_wp2_with (first
      | (go_at_call 62; rw [HW0.out]; (with_reducible refine (ZM.out _ D.out).mono ?_); rintro e w2 ⟨_, rfl, ⟨b2, A2, n2, c2, rfl, hz⟩, hb⟩; have s := hb.alloc hb.size (.cells #[.bool b2, .slice A2 n2 c2] 39); have hz := hz.zl.alloc (.cells #[.bool b2, .slice A2 n2 c2] 39); have D := Lib.hid (D.out.trans (s.mono D.out.size)); clear hb s; obtain ⟨⟨p0, p1, p2⟩, -⟩ := KB.out _ D.out)
      | (go_at_call 27; (with_reducible refine (MK.out _ _ hz.v).mono ?_); rintro e w4 ⟨b3, A3, n3, c3, rfl, hr, hb3⟩; have D := Lib.hid (D.out.trans (hb3.mono D.out.size)); have R := (KB.out _ D.out).2; have X := Lib.hid (set3 hr (off_q hr R) (.bool b3) (.slice A3 n3 c3) (.int .i64 T)); have f0 := R.frozen 0; have f1 := R.frozen 1; have f2 := R.frozen 2; have t0 := R.at_ 0 rfl; have t1 := R.at_ 1 rfl; have t2 := R.at_ 2 rfl))
    exact bodyPost_ret (v := .agg #[.bool b3, .slice A3 n3 c3, .int .i64 T]) (by simp [results, Tryz.results38, go_sem, t0, t1, t2]) rfl
      ⟨_, _, _, _, rfl, X.out, below3q (D0.out.trans (D.out.mono D0.out.size)) (by omega) _ _ _⟩
  · simp only [if_true] at MK
    go_enter Tryz.func38, Tryz.ntmps38
    go_wp2_with (first
      | (go_at_call 62; rw [HW0.out]; (with_reducible refine (ZM.out _ D.out).mono ?_); rintro e w2 ⟨_, rfl, ⟨b2, A2, n2, c2, rfl, hz⟩, hb⟩; have s := hb.alloc hb.size (.cells #[.bool b2, .slice A2 n2 c2] 39); have hz := hz.zl.alloc (.cells #[.bool b2, .slice A2 n2 c2] 39); have BZ := Blk.new w2 39 #[.bool b2, .slice A2 n2 c2]; have Z2 := (D.out.trans (hb.mono D.out.size)).size; have D := Lib.hid (D.out.trans (s.mono D.out.size)); clear hb s; obtain ⟨⟨p0, p1, p2⟩, -⟩ := KB.out _ D.out)
      | (go_at_call 55; (with_reducible refine (NG.out _ _ hz.v).mono ?_); rintro e w3 ⟨_, rfl, ⟨b3, A3, n3, c3, rfl, hz3⟩, hb3⟩; have BZ := BZ.below hb3 BZ.lt; have hz := ZC.ZL.box hz3 (BZ.at_ 0 rfl) (BZ.at_ 1 rfl) (.bool b3) (.slice A3 n3 c3); have D := D.out.trans (hb3.mono D.out.size); have D := Lib.hid (below_set2 D Z2 (.bool b3) (.slice A3 n3 c3)); obtain ⟨⟨p0, p1, p2⟩, -⟩ := KB.out _ D.out; have c0 := BZ.at_ 0 rfl; have c1 := BZ.at_ 1 rfl; have f0 := BZ.frozen 0; have f1 := BZ.frozen 1; have BS := BZ.set2 (.bool b3) (.slice A3 n3 c3); have d0 := BS.at_ 0 rfl; have d1 := BS.at_ 1 rfl)
      | (go_at_call 27; (with_reducible refine (MK.out _ _ hz.v).mono ?_); rintro e w4 ⟨b4, A4, n4, c4, rfl, hr, hb4⟩; have D := Lib.hid (D.out.trans (hb4.mono D.out.size)); have R := (KB.out _ D.out).2; have X := Lib.hid (set3 hr (off_q hr R) (.bool b4) (.slice A4 n4 c4) (.int .i64 T)); have f0 := R.frozen 0; have f1 := R.frozen 1; have f2 := R.frozen 2; have t0 := R.at_ 0 rfl; have t1 := R.at_ 1 rfl; have t2 := R.at_ 2 rfl))
    exact bodyPost_ret (v := .agg #[.bool b4, .slice A4 n4 c4, .int .i64 T]) (by simp [results, Tryz.results38, go_sem, t0, t1, t2]) rfl
      ⟨_, _, _, _, rfl, X.out, below3q (D0.out.trans (D.out.mono D0.out.size)) (by omega) _ _ _⟩
end QC
end Go.Proofs.YtelblhgagpkjmaaGreatDoor

/-
  The reference's numbers over a power of two, by their value in very small units; of a number's bits.
-/
namespace Go.Proofs.YtelblhgagpkjmaaGreatDoor
set_option linter.unusedVariables false
set_option linter.unusedSimpArgs false
open Go.RowKit
set_option linter.unusedVariables false
set_option linter.unusedSimpArgs false
namespace QC
open Z (Nz Tz cmpv big)
open ZC DC
theorem mk_sc (a e : Int) (he : -60000 ≤ e) : sc (mkz a e) (-(mkt e)) = sc a e := by
  unfold mkz mkt
  by_cases h : 0 ≤ e
  · rw [if_pos h, if_pos h]
    have := sc_shift a 0 e.toNat (by omega)
    rw [show (-0 : Int) = 0 from rfl, this]
    congr 1; omega
  · rw [if_neg h, if_neg h, Int.neg_neg]
/-- a number over a power of two: what it is worth; bounds -/
def QS (M T : Nat) (w : World) (v : Value) (s : Int) : Prop := ∃ z t, QV w v z t ∧ z.natAbs < 2 ^ M ∧ 0 ≤ t ∧ t ≤ T ∧ sc z (-t) = s
def RetS (M T : Nat) (w : World) (s : Int) (e : Ending) (w' : World) : Prop := ∃ b A n c t z, e = .returned (.agg #[.bool b, .slice A n c, .int .i64 t]) ∧ ZL w' b A n c z ∧ z.natAbs < 2 ^ M ∧ 0 ≤ t ∧ t ≤ T ∧ sc z (-t) = s ∧ Below w.heap.size w w'
theorem QS.below {M T : Nat} {w w' : World} {v : Value} {s : Int} (h : QS M T w v s) (hb : Below w.heap.size w w') : QS M T w' v s := by
  obtain ⟨z, t, h, k⟩ := h
  exact ⟨z, t, qv_below h hb, k⟩
theorem natAbs_mul_pow (z : Int) (k : Nat) : (z * 2 ^ k).natAbs = z.natAbs * 2 ^ k := by rw [Int.natAbs_mul, Int.natAbs_pow]; rfl
theorem up_lt {a ta tb : Int} {M T : Nat} (h : a.natAbs < 2 ^ M) (h1 : 0 ≤ ta) (h2 : tb ≤ T) : (up a ta tb).natAbs < 2 ^ (M + T) := by
  unfold up
  rw [natAbs_mul_pow, Nat.pow_add]
  have h3 : (2 : Nat) ^ (max ta tb - ta).toNat ≤ 2 ^ T := Nat.pow_le_pow_right (by decide) (by omega)
  have h4 : 0 < (2 : Nat) ^ (max ta tb - ta).toNat := Nat.pow_pos (by decide)
  exact Nat.lt_of_lt_of_le (Nat.mul_lt_mul_of_pos_right h h4) (Nat.mul_le_mul_left _ h3)
theorem up_sc {a ta tb : Int} (h : -60000 ≤ -(max ta tb)) : sc (up a ta tb) (-(max ta tb)) = sc a (-ta) := by
  unfold up
  rw [sc_shift _ _ _ h]
  congr 1; omega
theorem lt_big {x : Nat} {M N : Nat} (h : x < 2 ^ M) (hM : M ≤ N) (hN : N ≠ 0) : x < big N := by
  have := pow2_bigN M N hM hN
  rw [Int.natAbs_pow] at this
  exact Nat.lt_trans h this
theorem cmpv_sc {x y k : Int} : cmpv (sc x k) (sc y k) = cmpv x y := by
  rcases Int.lt_trichotomy x y with h | h | h
  · rw [Z.cmpv_lt h, Z.cmpv_lt (sc_lt.2 h)]
  · rw [Z.cmpv_eq h, Z.cmpv_eq (by rw [h])]
  · rw [Z.cmpv_gt h, Z.cmpv_gt (sc_lt.2 h)]
theorem QCmp_s {M T M' T' : Nat} {u v : Value} {s s' : Int} {w : World} (h : QS M T w u s) (h' : QS M' T' w v s') (k1 : M + T' ≤ 400000) (k2 : M' + T ≤ 400000) (k3 : T ≤ 50000) (k4 : T' ≤ 50000) :
    Calls Tryz.prog 13 #[u, v] w fun e w' => e = .returned (.int .i64 (cmpv s s')) ∧ Below w.heap.size w w' := by
  obtain ⟨a, ta, ha, a1, a2, a3, a4⟩ := h
  obtain ⟨b, tb, hb, b1, b2, b3, b4⟩ := h'
  have c1 := up_lt (tb := tb) a1 a2 b3
  have c2 := up_lt (tb := ta) b1 b2 a3
  have := QCmp_c u v a b ta tb w ha hb (lt_big a1 (by omega) (by omega)) (lt_big b1 (by omega) (by omega)) (by omega) (by omega) (lt_big c1 (by omega) (by omega)) (lt_big c2 (by omega) (by omega))
  have e1 := up_sc (a := a) (ta := ta) (tb := tb) (by omega)
  have e2 := up_sc (a := b) (ta := tb) (tb := ta) (by omega)
  rw [show max tb ta = max ta tb by omega] at e2
  rw [← cmpv_sc (k := -(max ta tb)), e1, e2, a4, b4] at this
  exact this
theorem QAdd_s {M T M' T' : Nat} {u v : Value} {s s' : Int} {w : World} (h : QS M T w u s) (h' : QS M' T' w v s') (k1 : M + T' ≤ 400000) (k2 : M' + T ≤ 400000) (k3 : T ≤ 50000) (k4 : T' ≤ 50000) :
    Calls Tryz.prog 32 #[u, v] w (RetS (M + T' + M' + T + 1) (T + T') w (s + s')) := by
  obtain ⟨a, ta, ha, a1, a2, a3, a4⟩ := h
  obtain ⟨b, tb, hb, b1, b2, b3, b4⟩ := h'
  have c1 := up_lt (tb := tb) a1 a2 b3
  have c2 := up_lt (tb := ta) b1 b2 a3
  have := QAdd_c u v a b ta tb w ha hb (lt_big a1 (by omega) (by omega)) (lt_big b1 (by omega) (by omega)) (by omega) (by omega) (lt_big c1 (by omega) (by omega)) (lt_big c2 (by omega) (by omega))
  have e1 := up_sc (a := a) (ta := ta) (tb := tb) (by omega)
  have e2 := up_sc (a := b) (ta := tb) (tb := ta) (by omega)
  rw [show max tb ta = max ta tb by omega] at e2
  refine this.mono ?_
  rintro e w' ⟨b9, A9, n9, c9, rfl, hr, hb9⟩
  refine ⟨b9, A9, n9, c9, _, _, rfl, hr, ?_, by omega, by omega, by rw [sc_add, e1, e2, a4, b4], hb9⟩
  have d1 : (2 : Nat) ^ (M + T') ≤ 2 ^ (M + T' + M' + T) := Nat.pow_le_pow_right (by decide) (by omega)
  have d2 : (2 : Nat) ^ (M' + T) ≤ 2 ^ (M + T' + M' + T) := Nat.pow_le_pow_right (by decide) (by omega)
  have d3 : (2 : Nat) ^ (M + T' + M' + T + 1) = 2 ^ (M + T' + M' + T) * 2 := Nat.pow_succ _ _
  omega
theorem QNeg_s {M T : Nat} {u : Value} {s : Int} {w : World} (h : QS M T w u s) (k1 : M ≤ 400000) : Calls Tryz.prog 132 #[u] w (RetS M T w (-s)) := by
  obtain ⟨a, ta, ha, a1, a2, a3, a4⟩ := h
  refine (QNeg_c u a ta w ha (lt_big a1 (by omega) (by omega))).mono ?_
  rintro e w' ⟨b9, A9, n9, c9, rfl, hr, hb9⟩
  exact ⟨b9, A9, n9, c9, _, _, rfl, hr, by rw [Int.natAbs_neg]; exact a1, a2, a3, by rw [sc_neg, a4], hb9⟩
theorem mkz_lt {a e : Int} {M : Nat} {E : Nat} (h : a.natAbs < 2 ^ M) (he : e ≤ E) : (mkz a e).natAbs < 2 ^ (M + E) := by
  unfold mkz
  rw [Nat.pow_add]
  have h4 : (0 : Nat) < 2 ^ E := Nat.pow_pos (by decide)
  by_cases h0 : 0 ≤ e
  · rw [if_pos h0, natAbs_mul_pow]
    have h3 : (2 : Nat) ^ e.toNat ≤ 2 ^ E := Nat.pow_le_pow_right (by decide) (by omega)
    have h5 : (0 : Nat) < 2 ^ e.toNat := Nat.pow_pos (by decide)
    exact Nat.lt_of_lt_of_le (Nat.mul_lt_mul_of_pos_right h h5) (Nat.mul_le_mul_left _ h3)
  · rw [if_neg h0]
    exact Nat.lt_of_lt_of_le h (Nat.le_mul_of_pos_right _ h4)
theorem mkt_bd (e : Int) (T : Nat) (h : -(T : Int) ≤ e) : 0 ≤ mkt e ∧ mkt e ≤ T := by unfold mkt; split <;> omega
theorem RetV.s {w w' : World} {a e : Int} {M E T : Nat} {en : Ending} (h : RetV w (mkz a e) (mkt e) en w') (ha : a.natAbs < 2 ^ M) (h1 : e ≤ E) (h2 : -(T : Int) ≤ e) (hT : T ≤ 60000) : RetS (M + E) T w (sc a e) en w' := by
  obtain ⟨b9, A9, n9, c9, rfl, hr, hb9⟩ := h
  have := mkt_bd e T h2
  exact ⟨b9, A9, n9, c9, _, _, rfl, hr, mkz_lt ha h1, this.1, this.2, mk_sc a e (by omega), hb9⟩
theorem QShift_s {M T : Nat} {u : Value} {s n : Int} {w : World} (h : QS M T w u s) (k1 : M ≤ 400000) (k2 : T ≤ 20000) (hn : 0 ≤ n ∧ n ≤ 1) : Calls Tryz.prog 125 #[u, .int .i64 n] w (RetS (M + 1) T w (s * 2 ^ n.toNat)) := by
  obtain ⟨a, ta, ha, a1, a2, a3, a4⟩ := h
  refine (QShift_c u a ta n w ha (lt_big a1 (by omega) (by omega)) (by omega) (by omega)).mono ?_
  intro e w' hr
  have := RetV.s (E := 1) (T := T) hr a1 (by omega) (by omega) (by omega)
  have e2 : sc a (n - ta) = s * 2 ^ n.toNat := by
    rw [← a4]
    have e3 := sc_shift a (-ta) n.toNat (by omega)
    rw [show -ta + (n.toNat : Int) = n - ta by omega] at e3
    rw [← e3, RC.sc_mul1, RC.sc_mul1 a, Int.mul_assoc, Int.mul_assoc, Int.mul_comm (2 ^ n.toNat)]
  rwa [e2] at this
theorem RetS.qs {M T : Nat} {w' : World} {s : Int} {b A n c} {t z : Int} (hr : ZL w' b A n c z) (h1 : z.natAbs < 2 ^ M) (h2 : 0 ≤ t) (h3 : t ≤ T) (h4 : sc z (-t) = s) : QS M T w' (.agg #[.bool b, .slice A n c, .int .i64 t]) s :=
  ⟨z, t, ⟨b, A, n, c, rfl, hr⟩, h1, h2, h3, h4⟩
theorem lt_cast {x k : Nat} (h : (x : Int) < 2 ^ k) : x < 2 ^ k := by
  have e : ((2 : Int) ^ k) = ((2 ^ k : Nat) : Int) := by rw [Int.natCast_pow]; rfl
  rw [e] at h
  exact Int.ofNat_lt.1 h
theorem QOf_s (v : Value) (d : Dy) (w : World) (h : DV w v d) (he : d.er = 0) : Calls Tryz.prog 38 #[v] w (RetS 22800 10000 w (S d)) := by
  have g := h.good he
  have hi := g.2.2
  refine (QOf_d v d w h he).mono fun e w' hr => ?_
  obtain ⟨K, hK⟩ : ∃ K : Nat, K = 12800 := ⟨_, rfl⟩
  have ha : d.m.natAbs < 2 ^ K := by
    have := RC.abs_small hi
    rw [RC.pow_12800, ← hK] at this
    exact lt_cast this
  have := RetV.s (M := K) (E := 10000) (T := 10000) hr ha hi.2.2.2 (by have := hi.2.2.1; omega) (by omega)
  rwa [show K + 10000 = 22800 by omega] at this
set_option maxRecDepth 100000 in
theorem QVal_c (x : Int) (w : World) (h0 : 0 ≤ x) (h1 : x ≤ 18446744073709551615) : Calls Tryz.prog 25 #[.int .u64 x] w (RetV w (mkz (sgm (F.sgn x) (mant x)) (F.ulp x)) (mkt (F.ulp x))) := by
  have FI : Hid (∀ W, Calls Tryz.prog 52 #[.int .u64 x] W fun e w' => e = .returned (.tuple #[.bool (F.sgn x), .int .i64 (F.exq x), .int .i64 (F.fra x)]) ∧ W = w') := fun W => FloatR.Fields_c x h0 h1 W
  have hb := F.exq_bd x
  have hf := F.fra_bd x
  have mb : 0 ≤ mant x ∧ mant x < 9007199254740992 := by unfold mant; split <;> omega
  have N1 : Hid (∀ W, Calls Tryz.prog 28 #[.int .i64 (mant x / 1000000000)] W (RetZ W (mant x / 1000000000))) := fun W => N_c _ (by omega) (by omega) W
  have N2 : Hid (∀ W, Calls Tryz.prog 28 #[.int .i64 1000000000] W (RetZ W 1000000000)) := fun W => N_c _ (by omega) (by omega) W
  have N3 : Hid (∀ W, Calls Tryz.prog 28 #[.int .i64 (mant x % 1000000000)] W (RetZ W (mant x % 1000000000))) := fun W => N_c _ (by omega) (by omega) W
  have b0 : ∀ y : Int, 0 ≤ y → y < 10000000000000000 → y.natAbs < big 1000000 := fun y h0 h1 => by
    have h2 : (2 : Nat) ^ 60 = 1152921504606846976 := by decide
    exact lt_big (M := 60) (by rw [h2]; omega) (by omega) (by omega)
  have MU : Hid (∀ (W : World) (u v : Value), ZV W u (mant x / 1000000000) → ZV W v 1000000000 → Calls Tryz.prog 54 #[u, v] W (RetZ W (mant x / 1000000000 * 1000000000))) := fun W u v h1 h2 => ZMul_c u v _ _ W h1 h2 (b0 (mant x / 1000000000) (by omega) (by omega)) (b0 1000000000 (by omega) (by omega))
  have AD : Hid (∀ (W : World) (u v : Value), ZV W u (mant x / 1000000000 * 1000000000) → ZV W v (mant x % 1000000000) → Calls Tryz.prog 53 #[u, v] W (RetZ W (mant x))) := fun W u v h1 h2 => by
    have := ZAdd_c u v _ _ W h1 h2 (b0 (mant x / 1000000000 * 1000000000) (by omega) (by omega)) (b0 (mant x % 1000000000) (by omega) (by omega))
    rwa [show mant x / 1000000000 * 1000000000 + mant x % 1000000000 = mant x by omega] at this
  have NG : Hid (∀ (W : World) (u : Value), ZV W u (mant x) → Calls Tryz.prog 55 #[u] W (RetZ0 W (-(mant x)))) := fun W u h1 => ZNeg_c u _ W h1 (b0 (mant x) (by omega) (by omega))
  have ub : -1074 ≤ F.ulp x ∧ F.ulp x ≤ 972 := by unfold F.ulp; split <;> omega
  have MK : Hid (∀ (W : World) (u : Value), ZV W u (sgm (F.sgn x) (mant x)) → Calls Tryz.prog 27 #[u, .int .i64 (F.ulp x)] W (RetV W (mkz (sgm (F.sgn x) (mant x)) (F.ulp x)) (mkt (F.ulp x)))) := fun W u hu => by
    refine QMake_c u _ (F.ulp x) W hu ?_ (by omega) (by omega)
    unfold sgm
    cases F.sgn x
    · simp; exact b0 (mant x) (by omega) (by omega)
    · simp; exact b0 (mant x) (by omega) (by omega)
  have EU : Hid (max (F.exq x) 1 - 1075 = F.ulp x) := by unfold Hid F.ulp; split <;> omega
  have EM : Hid ((0 < F.exq x ∧ F.fra x + 4503599627370496 = mant x) ∨ (¬ 0 < F.exq x ∧ F.fra x = mant x)) := by
    by_cases h : 0 < F.exq x
    · left; unfold mant; rw [if_pos h]; exact ⟨h, rfl⟩
    · right; unfold mant; rw [if_neg h]; exact ⟨h, rfl⟩
  have i1 : IntKind.i64.wrap (F.fra x + 4503599627370496) = F.fra x + 4503599627370496 := IntWalk.i64_in _ (by omega)
  have i2 : IntKind.i64.wrap (F.ulp x) = F.ulp x := IntWalk.i64_in _ (by omega)
  generalize mkz (sgm (F.sgn x) (mant x)) (F.ulp x) = r at *
  generalize mkt (F.ulp x) = T at *
  generalize mant x = m at *
  generalize F.ulp x = U at *
  generalize F.sgn x = sg at *
  generalize F.exq x = ex at *
  generalize F.fra x = fr at *
  obtain ⟨N1', N2', NS, D0⟩ : Blk (w.alloc (.cells #[.bool false, .slice none 0 0, .int .i64 0] 41)) w.heap.size 41 #[.bool false, .slice none 0 0, .int .i64 0] ∧ True ∧ (w.alloc (.cells #[.bool false, .slice none 0 0, .int .i64 0] 41)).heap.size = w.heap.size + 1 ∧ Below w.heap.size w (w.alloc (.cells #[.bool false, .slice none 0 0, .int .i64 0] 41)) := ⟨Blk.new _ _ _, trivial, by simp, (Below.refl _ _).alloc (Nat.le_refl _) _⟩
  obtain ⟨W0, hW0⟩ : ∃ W0, w.alloc (.cells #[.bool false, .slice none 0 0, .int .i64 0] 41) = W0 := ⟨_, rfl⟩
  rw [hW0] at N1' NS D0
  have KB : Hid (∀ W, Below W0.heap.size W0 W → Blk W w.heap.size 41 #[.bool false, .slice none 0 0, .int .i64 0]) := fun W hW => N1'.below hW N1'.lt
  have HW0 := Lib.hid hW0
  have D0 := Lib.hid D0
  obtain ⟨mb0, mb1⟩ := mb
  clear N1' N2' NS hW0 hb hf b0 ub h0 h1
  rcases EM.out with ⟨k1, k2⟩ | ⟨k1, k2⟩
  · have i1 := i1.trans k2
    have K2 := Lib.hid k2
    clear k2 EM
    cases sg
    · simp only [sgm, Bool.false_eq_true, if_false] at MK
      go_enter Tryz.func25, Tryz.ntmps25
      go_wp2_with (first
        | (go_at_call 52; rw [HW0.out]; (with_reducible refine (FI.out _).mono ?_); rintro e w1 ⟨rfl, rfl⟩; have D := Lib.hid (Below.refl W0.heap.size W0))
        | (go_at_call 28; (try simp only [K2.out]); (with_reducible refine (N1.out _).mono ?_); rintro e w2 ⟨_, rfl, ⟨b2, A2, n2, c2, rfl, hz2⟩, hb⟩; have hz2 := hz2.zl; have D := Lib.hid (D.out.trans (hb.mono D.out.size)); clear hb)
        | (go_at_call 28; (with_reducible refine (N2.out _).mono ?_); rintro e w3 ⟨_, rfl, ⟨b3, A3, n3, c3, rfl, hz3⟩, hb⟩; have hz2 := hz2.below hb; have hz3 := hz3.zl; have D := Lib.hid (D.out.trans (hb.mono D.out.size)); clear hb)
        | (go_at_call 54; (with_reducible refine (MU.out _ _ _ hz2.v hz3.v).mono ?_); rintro e w4 ⟨_, rfl, ⟨b4, A4, n4, c4, rfl, hz4⟩, hb⟩; have hz4 := hz4.zl; have D := Lib.hid (D.out.trans (hb.mono D.out.size)); clear hb)
        | (go_at_call 28; (try simp only [K2.out]); (with_reducible refine (N3.out _).mono ?_); rintro e w5 ⟨_, rfl, ⟨b5, A5, n5, c5, rfl, hz5⟩, hb⟩; have hz4 := hz4.below hb; have hz5 := hz5.zl; have D := Lib.hid (D.out.trans (hb.mono D.out.size)); clear hb)
        | (go_at_call 53; (with_reducible refine (AD.out _ _ _ hz4.v hz5.v).mono ?_); rintro e w6 ⟨_, rfl, ⟨b6, A6, n6, c6, rfl, hz6⟩, hb⟩; have s := hb.alloc hb.size (.cells #[.bool b6, .slice A6 n6 c6] 39); have hz := hz6.zl.alloc (.cells #[.bool b6, .slice A6 n6 c6] 39); have BZ := Blk.new w6 39 #[.bool b6, .slice A6 n6 c6]; have Z2 := (D.out.trans (hb.mono D.out.size)).size; have D := Lib.hid (D.out.trans (s.mono D.out.size)); clear hb s hz6; have eu := EU.out)
        | (go_at_call 27; (with_reducible refine (MK.out _ _ hz.v).mono ?_); rintro e w9 ⟨b9, A9, n9, c9, rfl, hr, hb4⟩; have D := Lib.hid (D.out.trans (hb4.mono D.out.size)); have R := (KB.out _ D.out); have X := Lib.hid (set3 hr (off_q hr R) (.bool b9) (.slice A9 n9 c9) (.int .i64 T)); have f0 := R.frozen 0; have f1 := R.frozen 1; have f2 := R.frozen 2; have t0 := R.at_ 0 rfl; have t1 := R.at_ 1 rfl; have t2 := R.at_ 2 rfl))
      exact bodyPost_ret (v := .agg #[.bool b9, .slice A9 n9 c9, .int .i64 T]) (by simp [results, Tryz.results25, go_sem, t0, t1, t2]) rfl
        ⟨_, _, _, _, rfl, X.out, below3q (D0.out.trans (D.out.mono D0.out.size)) (by omega) _ _ _⟩
    · simp only [sgm, if_true] at MK
      go_enter Tryz.func25, Tryz.ntmps25
      go_wp2_with (first
        | (go_at_call 52; rw [HW0.out]; (with_reducible refine (FI.out _).mono ?_); rintro e w1 ⟨rfl, rfl⟩; have D := Lib.hid (Below.refl W0.heap.size W0))
        | (go_at_call 28; (try simp only [K2.out]); (with_reducible refine (N1.out _).mono ?_); rintro e w2 ⟨_, rfl, ⟨b2, A2, n2, c2, rfl, hz2⟩, hb⟩; have hz2 := hz2.zl; have D := Lib.hid (D.out.trans (hb.mono D.out.size)); clear hb)
        | (go_at_call 28; (with_reducible refine (N2.out _).mono ?_); rintro e w3 ⟨_, rfl, ⟨b3, A3, n3, c3, rfl, hz3⟩, hb⟩; have hz2 := hz2.below hb; have hz3 := hz3.zl; have D := Lib.hid (D.out.trans (hb.mono D.out.size)); clear hb)
        | (go_at_call 54; (with_reducible refine (MU.out _ _ _ hz2.v hz3.v).mono ?_); rintro e w4 ⟨_, rfl, ⟨b4, A4, n4, c4, rfl, hz4⟩, hb⟩; have hz4 := hz4.zl; have D := Lib.hid (D.out.trans (hb.mono D.out.size)); clear hb)
        | (go_at_call 28; (try simp only [K2.out]); (with_reducible refine (N3.out _).mono ?_); rintro e w5 ⟨_, rfl, ⟨b5, A5, n5, c5, rfl, hz5⟩, hb⟩; have hz4 := hz4.below hb; have hz5 := hz5.zl; have D := Lib.hid (D.out.trans (hb.mono D.out.size)); clear hb)
        | (go_at_call 53; (with_reducible refine (AD.out _ _ _ hz4.v hz5.v).mono ?_); rintro e w6 ⟨_, rfl, ⟨b6, A6, n6, c6, rfl, hz6⟩, hb⟩; have s := hb.alloc hb.size (.cells #[.bool b6, .slice A6 n6 c6] 39); have hz := hz6.zl.alloc (.cells #[.bool b6, .slice A6 n6 c6] 39); have BZ := Blk.new w6 39 #[.bool b6, .slice A6 n6 c6]; have Z2 := (D.out.trans (hb.mono D.out.size)).size; have D := Lib.hid (D.out.trans (s.mono D.out.size)); clear hb s hz6; have eu := EU.out)
        | (go_at_call 55; (with_reducible refine (NG.out _ _ hz.v).mono ?_); rintro e w7 ⟨_, rfl, ⟨b7, A7, n7, c7, rfl, hz7⟩, hb3⟩; have BZ := BZ.below hb3 BZ.lt; have hz := ZC.ZL.box hz7 (BZ.at_ 0 rfl) (BZ.at_ 1 rfl) (.bool b7) (.slice A7 n7 c7); have D := D.out.trans (hb3.mono D.out.size); have D := Lib.hid (below_set2 D Z2 (.bool b7) (.slice A7 n7 c7)); have c0 := BZ.at_ 0 rfl; have c1 := BZ.at_ 1 rfl; have f0 := BZ.frozen 0; have f1 := BZ.frozen 1; have BS := BZ.set2 (.bool b7) (.slice A7 n7 c7); have d0 := BS.at_ 0 rfl; have d1 := BS.at_ 1 rfl)
        | (go_at_call 27; (with_reducible refine (MK.out _ _ hz.v).mono ?_); rintro e w9 ⟨b9, A9, n9, c9, rfl, hr, hb4⟩; have D := Lib.hid (D.out.trans (hb4.mono D.out.size)); have R := (KB.out _ D.out); have X := Lib.hid (set3 hr (off_q hr R) (.bool b9) (.slice A9 n9 c9) (.int .i64 T)); have f0 := R.frozen 0; have f1 := R.frozen 1; have f2 := R.frozen 2; have t0 := R.at_ 0 rfl; have t1 := R.at_ 1 rfl; have t2 := R.at_ 2 rfl))
      exact bodyPost_ret (v := .agg #[.bool b9, .slice A9 n9 c9, .int .i64 T]) (by simp [results, Tryz.results25, go_sem, t0, t1, t2]) rfl
        ⟨_, _, _, _, rfl, X.out, below3q (D0.out.trans (D.out.mono D0.out.size)) (by omega) _ _ _⟩
  · subst k2
    clear EM i1
    cases sg
    · simp only [sgm, Bool.false_eq_true, if_false] at MK
      go_enter Tryz.func25, Tryz.ntmps25
      go_wp2_with (first
        | (go_at_call 52; rw [HW0.out]; (with_reducible refine (FI.out _).mono ?_); rintro e w1 ⟨rfl, rfl⟩; have D := Lib.hid (Below.refl W0.heap.size W0))
        | (go_at_call 28; (try simp only [K2.out]); (with_reducible refine (N1.out _).mono ?_); rintro e w2 ⟨_, rfl, ⟨b2, A2, n2, c2, rfl, hz2⟩, hb⟩; have hz2 := hz2.zl; have D := Lib.hid (D.out.trans (hb.mono D.out.size)); clear hb)
        | (go_at_call 28; (with_reducible refine (N2.out _).mono ?_); rintro e w3 ⟨_, rfl, ⟨b3, A3, n3, c3, rfl, hz3⟩, hb⟩; have hz2 := hz2.below hb; have hz3 := hz3.zl; have D := Lib.hid (D.out.trans (hb.mono D.out.size)); clear hb)
        | (go_at_call 54; (with_reducible refine (MU.out _ _ _ hz2.v hz3.v).mono ?_); rintro e w4 ⟨_, rfl, ⟨b4, A4, n4, c4, rfl, hz4⟩, hb⟩; have hz4 := hz4.zl; have D := Lib.hid (D.out.trans (hb.mono D.out.size)); clear hb)
        | (go_at_call 28; (try simp only [K2.out]); (with_reducible refine (N3.out _).mono ?_); rintro e w5 ⟨_, rfl, ⟨b5, A5, n5, c5, rfl, hz5⟩, hb⟩; have hz4 := hz4.below hb; have hz5 := hz5.zl; have D := Lib.hid (D.out.trans (hb.mono D.out.size)); clear hb)
        | (go_at_call 53; (with_reducible refine (AD.out _ _ _ hz4.v hz5.v).mono ?_); rintro e w6 ⟨_, rfl, ⟨b6, A6, n6, c6, rfl, hz6⟩, hb⟩; have s := hb.alloc hb.size (.cells #[.bool b6, .slice A6 n6 c6] 39); have hz := hz6.zl.alloc (.cells #[.bool b6, .slice A6 n6 c6] 39); have BZ := Blk.new w6 39 #[.bool b6, .slice A6 n6 c6]; have Z2 := (D.out.trans (hb.mono D.out.size)).size; have D := Lib.hid (D.out.trans (s.mono D.out.size)); clear hb s hz6; have eu := EU.out)
        | (go_at_call 27; (with_reducible refine (MK.out _ _ hz.v).mono ?_); rintro e w9 ⟨b9, A9, n9, c9, rfl, hr, hb4⟩; have D := Lib.hid (D.out.trans (hb4.mono D.out.size)); have R := (KB.out _ D.out); have X := Lib.hid (set3 hr (off_q hr R) (.bool b9) (.slice A9 n9 c9) (.int .i64 T)); have f0 := R.frozen 0; have f1 := R.frozen 1; have f2 := R.frozen 2; have t0 := R.at_ 0 rfl; have t1 := R.at_ 1 rfl; have t2 := R.at_ 2 rfl))
      exact bodyPost_ret (v := .agg #[.bool b9, .slice A9 n9 c9, .int .i64 T]) (by simp [results, Tryz.results25, go_sem, t0, t1, t2]) rfl
        ⟨_, _, _, _, rfl, X.out, below3q (D0.out.trans (D.out.mono D0.out.size)) (by omega) _ _ _⟩
    · simp only [sgm, if_true] at MK
      go_enter Tryz.func25, Tryz.ntmps25
      go_wp2_with (first
        | (go_at_call 52; rw [HW0.out]; (with_reducible refine (FI.out _).mono ?_); rintro e w1 ⟨rfl, rfl⟩; have D := Lib.hid (Below.refl W0.heap.size W0))
        | (go_at_call 28; (try simp only [K2.out]); (with_reducible refine (N1.out _).mono ?_); rintro e w2 ⟨_, rfl, ⟨b2, A2, n2, c2, rfl, hz2⟩, hb⟩; have hz2 := hz2.zl; have D := Lib.hid (D.out.trans (hb.mono D.out.size)); clear hb)
        | (go_at_call 28; (with_reducible refine (N2.out _).mono ?_); rintro e w3 ⟨_, rfl, ⟨b3, A3, n3, c3, rfl, hz3⟩, hb⟩; have hz2 := hz2.below hb; have hz3 := hz3.zl; have D := Lib.hid (D.out.trans (hb.mono D.out.size)); clear hb)
        | (go_at_call 54; (with_reducible refine (MU.out _ _ _ hz2.v hz3.v).mono ?_); rintro e w4 ⟨_, rfl, ⟨b4, A4, n4, c4, rfl, hz4⟩, hb⟩; have hz4 := hz4.zl; have D := Lib.hid (D.out.trans (hb.mono D.out.size)); clear hb)
        | (go_at_call 28; (try simp only [K2.out]); (with_reducible refine (N3.out _).mono ?_); rintro e w5 ⟨_, rfl, ⟨b5, A5, n5, c5, rfl, hz5⟩, hb⟩; have hz4 := hz4.below hb; have hz5 := hz5.zl; have D := Lib.hid (D.out.trans (hb.mono D.out.size)); clear hb)
        | (go_at_call 53; (with_reducible refine (AD.out _ _ _ hz4.v hz5.v).mono ?_); rintro e w6 ⟨_, rfl, ⟨b6, A6, n6, c6, rfl, hz6⟩, hb⟩; have s := hb.alloc hb.size (.cells #[.bool b6, .slice A6 n6 c6] 39); have hz := hz6.zl.alloc (.cells #[.bool b6, .slice A6 n6 c6] 39); have BZ := Blk.new w6 39 #[.bool b6, .slice A6 n6 c6]; have Z2 := (D.out.trans (hb.mono D.out.size)).size; have D := Lib.hid (D.out.trans (s.mono D.out.size)); clear hb s hz6; have eu := EU.out)
        | (go_at_call 55; (with_reducible refine (NG.out _ _ hz.v).mono ?_); rintro e w7 ⟨_, rfl, ⟨b7, A7, n7, c7, rfl, hz7⟩, hb3⟩; have BZ := BZ.below hb3 BZ.lt; have hz := ZC.ZL.box hz7 (BZ.at_ 0 rfl) (BZ.at_ 1 rfl) (.bool b7) (.slice A7 n7 c7); have D := D.out.trans (hb3.mono D.out.size); have D := Lib.hid (below_set2 D Z2 (.bool b7) (.slice A7 n7 c7)); have c0 := BZ.at_ 0 rfl; have c1 := BZ.at_ 1 rfl; have f0 := BZ.frozen 0; have f1 := BZ.frozen 1; have BS := BZ.set2 (.bool b7) (.slice A7 n7 c7); have d0 := BS.at_ 0 rfl; have d1 := BS.at_ 1 rfl)
        | (go_at_call 27; (with_reducible refine (MK.out _ _ hz.v).mono ?_); rintro e w9 ⟨b9, A9, n9, c9, rfl, hr, hb4⟩; have D := Lib.hid (D.out.trans (hb4.mono D.out.size)); have R := (KB.out _ D.out); have X := Lib.hid (set3 hr (off_q hr R) (.bool b9) (.slice A9 n9 c9) (.int .i64 T)); have f0 := R.frozen 0; have f1 := R.frozen 1; have f2 := R.frozen 2; have t0 := R.at_ 0 rfl; have t1 := R.at_ 1 rfl; have t2 := R.at_ 2 rfl))
      exact bodyPost_ret (v := .agg #[.bool b9, .slice A9 n9 c9, .int .i64 T]) (by simp [results, Tryz.results25, go_sem, t0, t1, t2]) rfl
        ⟨_, _, _, _, rfl, X.out, below3q (D0.out.trans (D.out.mono D0.out.size)) (by omega) _ _ _⟩
end QC
end Go.Proofs.YtelblhgagpkjmaaGreatDoor

/-
  A held region: one of three operations comes up.
-/
namespace Go.Proofs.YtelblhgagpkjmaaGreatDoor
set_option linter.unusedVariables false
set_option linter.unusedSimpArgs false
open Go.RowKit
set_option linter.unusedVariables false
section
variable {P : Program} {ops : Array Oper} {Q : Exit → Act → World → Prop} {md : Region.Mode} {S : World → Prop} {nl : Nat}
theorem wpAnyL_three {i j k : Nat} {oi oj ok : Oper} {fuel : Nat} {listed : Array Bool} {a : Act} {w : World} (hr : Region.ready md ops listed = [i, j, k]) (hoi : ops[i]? = some oi) (hoj : ops[j]? = some oj) (hok : ops[k]? = some ok)
    (h1 : ∀ K' : Act → World → Prop, Shut (∀ a w, (i < nl → S w) → ((i < nl → S w) → wpAnyL P md ops Q S nl fuel (listed.setIfInBounds i true) a w) → K' a w) → if Region.wanted oi (yielded ops a.tmps) = true then Oper.wp P oi a w K' Q else K' (a.put oi.dst undef) w)
    (h2 : ∀ K' : Act → World → Prop, Shut (∀ a w, (j < nl → S w) → ((j < nl → S w) → wpAnyL P md ops Q S nl fuel (listed.setIfInBounds j true) a w) → K' a w) → if Region.wanted oj (yielded ops a.tmps) = true then Oper.wp P oj a w K' Q else K' (a.put oj.dst undef) w)
    (h3 : ∀ K' : Act → World → Prop, Shut (∀ a w, (k < nl → S w) → ((k < nl → S w) → wpAnyL P md ops Q S nl fuel (listed.setIfInBounds k true) a w) → K' a w) → if Region.wanted ok (yielded ops a.tmps) = true then Oper.wp P ok a w K' Q else K' (a.put ok.dst undef) w) :
    wpAnyL P md ops Q S nl (fuel + 1) listed a w := by
  refine ⟨fun h0 => (by rw [hr] at h0; cases h0), fun m hm => ?_⟩
  rw [hr] at hm
  rcases List.mem_cons.1 hm with rfl | hm
  · exact wpOp_step hoi (fun K' hK => h1 K' (fun a w hS hW => hK a w ⟨hS, hW hS⟩))
  · rcases List.mem_cons.1 hm with rfl | hm
    · exact wpOp_step hoj (fun K' hK => h2 K' (fun a w hS hW => hK a w ⟨hS, hW hS⟩))
    · obtain rfl : m = k := by simpa using hm
      exact wpOp_step hok (fun K' hK => h3 K' (fun a w hS hW => hK a w ⟨hS, hW hS⟩))
end
end Go.Proofs.YtelblhgagpkjmaaGreatDoor

/-
  The reference: halvings.
-/
namespace Go.Proofs.YtelblhgagpkjmaaGreatDoor
set_option linter.unusedVariables false
set_option linter.unusedSimpArgs false
open Go.RowKit
set_option linter.unusedVariables false
set_option linter.unusedSimpArgs false
namespace QC
open Z (Nz Tz cmpv big)
open ZC DC
/-- quotient and remainder, each in a block of its own -/
def QD (we wx : World) (s18 s19 : Value) (q r : Int) : Prop := ∃ g h bq Aq nq cq br Ar nr cr, s18 = .pointer (some ⟨g, 0, none⟩) ∧ s19 = .pointer (some ⟨h, 0, none⟩) ∧ we.heap.size ≤ g ∧ we.heap.size ≤ h ∧ g ≠ h ∧ Blk wx g 39 #[.bool bq, .slice Aq nq cq] ∧ Blk wx h 39 #[.bool br, .slice Ar nr cr] ∧ ZL wx bq Aq nq cq q ∧ ZL wx br Ar nr cr r ∧ Below we.heap.size we wx
theorem qd_set {we W : World} {g h : Nat} {bq br : Bool} {Aq Ar : Option Addr} {nq cq nr cr : Nat} {q r : Int} (D : Below we.heap.size we W) (hg : we.heap.size ≤ g) (hh : we.heap.size ≤ h) (hne : g ≠ h)
    (G : Blk W g 39 #[.bool false, .slice none 0 0]) (H : Blk W h 39 #[.bool false, .slice none 0 0]) (hq : ZL W bq Aq nq cq q) (hr : ZL W br Ar nr cr r) :
    QD we ((((W.setCell ⟨g, 0, none⟩ (.bool bq)).setCell ⟨g, 1, none⟩ (.slice Aq nq cq)).setCell ⟨h, 0, none⟩ (.bool br)).setCell ⟨h, 1, none⟩ (.slice Ar nr cr)) (.pointer (some ⟨g, 0, none⟩)) (.pointer (some ⟨h, 0, none⟩)) q r := by
  have G1 := G.set2 (.bool bq) (.slice Aq nq cq)
  have H1 := H.far2 (Ne.symm hne) (.bool bq) (.slice Aq nq cq)
  have q1 := ZC.ZL.box hq (G.at_ 0 rfl) (G.at_ 1 rfl) (.bool bq) (.slice Aq nq cq)
  have r1 := ZC.ZL.box hr (G.at_ 0 rfl) (G.at_ 1 rfl) (.bool bq) (.slice Aq nq cq)
  exact ⟨g, h, bq, Aq, nq, cq, br, Ar, nr, cr, rfl, rfl, hg, hh, hne, G1.far2 hne _ _, H1.set2 _ _, ZC.ZL.box q1 (H1.at_ 0 rfl) (H1.at_ 1 rfl) _ _, ZC.ZL.box r1 (H1.at_ 0 rfl) (H1.at_ 1 rfl) _ _, below_set2 (below_set2 D hg _ _) hh _ _⟩
theorem zv_below {w w' : World} {v : Value} {z : Int} (h : ZV w v z) (hb : Below w.heap.size w w') : ZV w' v z := by
  obtain ⟨b, A, n, c, e, h⟩ := h
  exact ⟨b, A, n, c, e, h.below hb⟩
/-- z is y, N times doubled -/
def Tw (z y : Int) (N : Nat) : Prop := z = y * 2 ^ N ∧ y ≠ 0
theorem Tw.step {z y : Int} {N K : Nat} (h : Tw z y N) (hr : y % 2 ^ K = 0) : Tw z (y / 2 ^ K) (N + K) := by
  obtain ⟨h1, h2⟩ := h
  have h3 : y / 2 ^ K * 2 ^ K = y := Int.ediv_mul_cancel (Int.dvd_of_emod_eq_zero hr)
  refine ⟨?_, fun h => h2 (by rw [← h3, h, Int.zero_mul])⟩
  rw [h1, Nat.add_comm, Int.pow_add, ← Int.mul_assoc, h3]
theorem natAbs_pow2 (y : Int) (N : Nat) : (y * 2 ^ N).natAbs = y.natAbs * 2 ^ N := by
  rw [Int.natAbs_mul, Int.natAbs_pow]; rfl
theorem Tw.lt {z y : Int} {N M : Nat} (h : Tw z y N) (hM : z.natAbs < 2 ^ M) : N < M := by
  obtain ⟨h1, h2⟩ := h
  rw [h1, natAbs_pow2] at hM
  have h3 : 0 < y.natAbs := Int.natAbs_pos.2 h2
  have h4 : 2 ^ N < 2 ^ M := Nat.lt_of_le_of_lt (Nat.le_mul_of_pos_left _ h3) hM
  exact (Nat.pow_lt_pow_iff_right (by decide)).1 h4
theorem Tw.big {z y : Int} {N B : Nat} (h : Tw z y N) (hB : z.natAbs < B) : y.natAbs < B := by
  obtain ⟨h1, h2⟩ := h
  rw [h1, natAbs_pow2] at hB
  exact Nat.lt_of_le_of_lt (Nat.le_mul_of_pos_right _ (Nat.two_pow_pos N)) hB
set_option maxRecDepth 100000 in
set_option maxHeartbeats 16000000 in
theorem ZTwos_c (b0 : Bool) (A0 : Option Addr) (n0 c0 : Nat) (z : Int) (M : Nat) (w : World) (hv : ZL w b0 A0 n0 c0 z) (hz : z ≠ 0) (hM : z.natAbs < 2 ^ M) (hb : z.natAbs < big 900000) (hM2 : M ≤ 1000000) :
    Calls Tryz.prog 26 #[.agg #[.bool b0, .slice A0 n0 c0]] w fun e w' => ∃ (N : Nat) (y : Int) (b : Bool) (A : Option Addr) (n c : Nat), e = .returned (.tuple #[.int .i64 N, .agg #[.bool b, .slice A n c]]) ∧ ZL w' b A n c y ∧ Tw z y N ∧ N < M ∧ y % 2 ≠ 0 ∧ Below w.heap.size w w' := by
  obtain ⟨g0, hg0⟩ : ∃ g0, w.heap.size = g0 := ⟨_, rfl⟩
  have S1 := Blk.new w 39 #[.bool b0, .slice A0 n0 c0]
  have S2 := S1.alloc (.cells #[.bool false, .slice none 0 0] 39)
  have T2 := Blk.new (w.alloc (.cells #[.bool b0, .slice A0 n0 c0] 39)) 39 #[.bool false, .slice none 0 0]
  have V2 := (hv.alloc (.cells #[.bool b0, .slice A0 n0 c0] 39)).alloc (.cells #[.bool false, .slice none 0 0] 39)
  have D2 : Below w.heap.size w ((w.alloc (.cells #[.bool b0, .slice A0 n0 c0] 39)).alloc (.cells #[.bool false, .slice none 0 0] 39)) := ((Below.refl _ _).alloc (Nat.le_refl _) _).alloc (by simp) _
  have e1 : (w.alloc (.cells #[.bool b0, .slice A0 n0 c0] 39)).heap.size = w.heap.size + 1 := by simp
  rw [e1] at T2
  rw [hg0] at S2 T2 D2
  have H0 := Lib.hid (And.intro S2 (And.intro T2 (And.intro V2 D2)))
  have HZ : Hid (Tw z z 0) := ⟨by simp, hz⟩
  have HM := Lib.hid hM
  have HB := Lib.hid hb
  clear S1 S2 T2 V2 D2 e1 hv hz hM hb
  go_enter Tryz.func26, Tryz.ntmps26
  go_wp2
  try simp only [hg0]
  go_loopw [4, 5] (fun nv kv wr => ∃ (N K : Nat) (y : Int) (b : Bool) (A : Option Addr) (n c : Nat), nv = .int .i64 N ∧ kv = .int .i64 K ∧ K ≤ 4096 ∧ Hid (Tw z y N) ∧ Hid (K = 0 → y % 2 ≠ 0) ∧ Hid (Blk wr g0 39 #[.bool b, .slice A n c]) ∧ Hid (Blk wr (g0 + 1) 39 #[.bool false, .slice none 0 0]) ∧ Hid (ZL wr b A n c y) ∧ Hid (Below g0 w wr)) (fun _ kv _ => (intOf kv).toNat)
  case atStart => exact ⟨0, 4096, z, b0, A0, n0, c0, rfl, rfl, by omega, HZ, (by intro h; cases h), H0.out.1, H0.out.2.1, H0.out.2.2.1, H0.out.2.2.2⟩
  case round =>
    obtain ⟨N1, K, y1, b1', A1', n1', c1', rfl, rfl, hK, hT, hO, hB, hC, hV, hD⟩ := hrel
    by_cases hk : 0 < K
    · have hk' : (0 : Int) < K := by omega
      clear hO
      have PW : Hid (∀ W, Calls Tryz.prog 36 #[.int .i64 (K : Int)] W (RetZ W (2 ^ K))) := fun W => ZPow_c K K W (by omega) (by omega) (by omega)
      obtain ⟨P, hP⟩ : ∃ P : Int, 2 ^ K = P := ⟨_, rfl⟩
      have hP0 : P ≠ 0 := by rw [← hP]; exact Int.pow_ne_zero (by decide)
      have hPb : P.natAbs < big 900000 := by rw [← hP]; exact pow2_bigN K 900000 (by omega) (by decide)
      rw [hP] at PW
      have HP := PW
      have HPE := Lib.hid hP
      have DZ0 : Hid (∀ (y : Int) W va vb, y.natAbs < big 900000 → ZV W va y → ZV W vb P → Calls Tryz.prog 56 #[va, vb] W (RetZZ W (y / P) (y % P))) := fun y W va vb hy h1 h2 => ZDiv_c va vb _ _ W h1 h2 hy hPb hP0
      have HRB : Hid (∀ y : Int, (y % P).natAbs < big 1000000) := fun y => by
        have h1 := Int.emod_nonneg y hP0
        have h2 := Int.emod_lt_of_pos y (show 0 < P by rw [← hP]; exact Int.pow_pos (by decide))
        have h3 : P.natAbs < big 1000000 := by rw [← hP]; exact pow2_bigN K 1000000 (by omega) (by decide)
        omega
      have HQ2 : Hid (IntKind.i64.wrap ((K : Int).tdiv 2) = ((K / 2 : Nat) : Int)) := by
        have : (K : Int).tdiv 2 = ((K / 2 : Nat) : Int) := by rw [Int.tdiv_eq_ediv_of_nonneg (by omega)]; rfl
        show IntKind.i64.wrap ((K : Int).tdiv 2) = ((K / 2 : Nat) : Int)
        rw [this]; exact IntWalk.i64_in _ (by omega)
      clear PW hP hP0 hPb
      go_wp2
      go_loopw [4] (fun nv wr => ∃ (N : Nat) (y : Int) (b : Bool) (A : Option Addr) (n c : Nat), nv = .int .i64 N ∧ Hid (Tw z y N) ∧ Hid (Blk wr g0 39 #[.bool b, .slice A n c]) ∧ Hid (Blk wr (g0 + 1) 39 #[.bool false, .slice none 0 0]) ∧ Hid (ZL wr b A n c y) ∧ Hid (Below g0 w wr)) (fun nv _ => M - (intOf nv).toNat)
      case atStart => exact ⟨N1, y1, b1', A1', n1', c1', rfl, hT, hB, hC, hV, hD⟩
      case round =>
        clear hT hB hC hV hD
        obtain ⟨N, y, b, A, n, c, rfl, hT, hB, hC, hV, hD⟩ := hrel
        have hNM := hT.out.lt HM.out
        have hyb := hT.out.big HB.out
        have DZ : Hid (∀ W va vb, ZV W va y → ZV W vb P → Calls Tryz.prog 56 #[va, vb] W (RetZZ W (y / P) (y % P))) := fun W va vb => DZ0.out y W va vb hyb
        obtain ⟨we, hwe⟩ : ∃ we, we = wr := ⟨_, rfl⟩
        have D : Below we.heap.size we wr := by rw [hwe]; exact Below.refl _ _
        have HWE := Lib.hid hwe
        have KQ : Hid (∀ W, Below we.heap.size we W → W.cell? ⟨g0, 0, none⟩ = some (.bool b) ∧ W.cell? ⟨g0, 1, none⟩ = some (.slice A n c)) := fun W h => by
          rw [hwe] at h
          exact ⟨(hB.out.below h hB.out.lt).at_ 0 rfl, (hB.out.below h hB.out.lt).at_ 1 rfl⟩
        have VQ : Hid (∀ W, Below we.heap.size we W → ZV W (.agg #[.bool b, .slice A n c]) y) := fun W h => by
          rw [hwe] at h
          exact (hV.out.below h).v
        clear hyb hwe
        go_upto_region 5 with fail
        go_cut [6, 7] (fun s6 s7 wx => QD we wx s6 s7 (y / P) (y % P))
        case first =>
          have D := D.drew
          (refine wp_region_L (S := fun w' => w'.cell? ⟨g0, 0, none⟩ = some (.bool b) ∧ w'.cell? ⟨g0, 1, none⟩ = some (.slice A n c)) (nl := 1000000) (by kernel_rfl) ?_ (fun hHeld => ?_); focus (exact KQ.out _ D))
          (refine wpAnyL_take (i := 0) (oi := _) (v := ?_) rfl (by kernel_rfl) (by kernel_rfl) (by kernel_rfl) (fun _ _ _ h => h) (Or.inl ⟨by first | rfl | kernel_rfl, ?hy1⟩) (by assumption) ?rs1; (case hy1 => (intro w hSw; (try dsimp only at hSw); go_simp; first | done | with_reducible rfl)); case' rs1 => (simp only [List.getElem_toArray, List.getElem_cons_zero, List.getElem_cons_succ, Act.put, List.setIfInBounds_toArray, List.set_cons_zero, List.set_cons_succ])); (refine wpAnyL_take (i := 1) (oi := _) (v := ?_) rfl (by kernel_rfl) (by kernel_rfl) (by kernel_rfl) (fun _ _ _ h => h) (Or.inl ⟨by first | rfl | kernel_rfl, ?hy2⟩) (by assumption) ?rs2; (case hy2 => (intro w hSw; (try dsimp only at hSw); go_simp; first | done | with_reducible rfl)); case' rs2 => (simp only [List.getElem_toArray, List.getElem_cons_zero, List.getElem_cons_succ, Act.put, List.setIfInBounds_toArray, List.set_cons_zero, List.set_cons_succ])); skip
          refine wpAnyL_three (i := 2) (j := 7) (k := 8) (oi := _) (oj := _) (ok := _) (by kernel_rfl) rfl rfl rfl (fun K hK => ?_) (fun K hK => ?_) (fun K hK => ?_)
          · as_aux_lemma =>
              (clear hHeld; simp only [List.getElem_toArray, List.getElem_cons_zero, List.getElem_cons_succ]; go_simp; (go_at_call 36; (with_reducible refine (HP.out _).mono ?_); rintro e w3 ⟨_, rfl, ⟨b1, A1, n1, c1, rfl, hp0⟩, hb⟩; have hp := hp0.zl; have D := D.trans (hb.mono D.size)); refine hK.out _ _ ?_ (fun hHeld => ?_); focus (intro _; exact KQ.out _ D)); have hHeld := hHeld (by decide); clear hK K; (try simp only [Act.put, List.setIfInBounds_toArray, List.set_cons_zero, List.set_cons_succ])
              refine wpAnyL_three (i := 3) (j := 7) (k := 8) (oi := _) (oj := _) (ok := _) (by kernel_rfl) rfl rfl rfl (fun K hK => ?_) (fun K hK => ?_) (fun K hK => ?_)
              · as_aux_lemma =>
                  (clear hHeld; simp only [List.getElem_toArray, List.getElem_cons_zero, List.getElem_cons_succ]; go_simp; (go_at_call 56; (with_reducible refine (DZ.out _ _ _ (VQ.out _ D) hp.v).mono ?_); rintro e w4 ⟨_, _, rfl, ⟨bq, Aq, nq, cq, rfl, hq⟩, ⟨br', Ar, nr, cr, rfl, hr⟩, hb⟩; have D := D.trans (hb.mono D.size)); refine hK.out _ _ ?_ (fun hHeld => ?_); focus (intro _; exact KQ.out _ D)); have hHeld := hHeld (by decide); clear hK K; (try simp only [Act.put, List.setIfInBounds_toArray, List.set_cons_zero, List.set_cons_succ])
                  (refine wpAnyL_take (i := 4) (oi := _) (v := ?_) rfl (by kernel_rfl) (by kernel_rfl) (by kernel_rfl) (fun _ _ _ h => h) (Or.inl ⟨by first | rfl | kernel_rfl, ?hy3⟩) (by assumption) ?rs3; (case hy3 => (intro w hSw; (try dsimp only at hSw); go_simp; first | done | with_reducible rfl)); case' rs3 => (simp only [List.getElem_toArray, List.getElem_cons_zero, List.getElem_cons_succ, Act.put, List.setIfInBounds_toArray, List.set_cons_zero, List.set_cons_succ])); (refine wpAnyL_take (i := 5) (oi := _) (v := ?_) rfl (by kernel_rfl) (by kernel_rfl) (by kernel_rfl) (fun _ _ _ h => h) (Or.inl ⟨by first | rfl | kernel_rfl, ?hy4⟩) (by assumption) ?rs4; (case hy4 => (intro w hSw; (try dsimp only at hSw); go_simp; first | done | with_reducible rfl)); case' rs4 => (simp only [List.getElem_toArray, List.getElem_cons_zero, List.getElem_cons_succ, Act.put, List.setIfInBounds_toArray, List.set_cons_zero, List.set_cons_succ])); (refine wpAnyL_take (i := 6) (oi := _) (v := ?_) rfl (by kernel_rfl) (by kernel_rfl) (by kernel_rfl) (fun _ _ _ h => h) (Or.inl ⟨by first | rfl | kernel_rfl, ?hy5⟩) (by assumption) ?rs5; (case hy5 => (intro w hSw; (try dsimp only at hSw); go_simp; first | done | with_reducible rfl)); case' rs5 => (simp only [List.getElem_toArray, List.getElem_cons_zero, List.getElem_cons_succ, Act.put, List.setIfInBounds_toArray, List.set_cons_zero, List.set_cons_succ])); skip
                  refine wpAnyL_two (i := 7) (j := 8) (oi := _) (oj := _) (by kernel_rfl) rfl rfl (fun K hK => ?_) (fun K hK => ?_)
                  · as_aux_lemma =>
                      (clear hHeld; simp only [List.getElem_toArray, List.getElem_cons_zero, List.getElem_cons_succ]; go_simp; refine hK.out _ _ ?_ (fun hHeld => ?_); focus (intro _; exact KQ.out _ (D.alloc D.size _))); have hHeld := hHeld (by decide); clear hK K; (try simp only [Act.put, List.setIfInBounds_toArray, List.set_cons_zero, List.set_cons_succ])
                      have G' := Blk.new w4 39 #[.bool false, .slice none 0 0]
                      have Gn : we.heap.size ≤ w4.heap.size := D.size
                      have hq := (hq.alloc (.cells #[.bool false, .slice none 0 0] 39))
                      have hr := (hr.alloc (.cells #[.bool false, .slice none 0 0] 39))
                      have D1 : Below we.heap.size we (w4.alloc (.cells #[.bool false, .slice none 0 0] 39)) := D.alloc D.size (.cells #[.bool false, .slice none 0 0] 39)
                      clear D
                      have D := D1
                      clear D1
                      obtain ⟨w8, hw8⟩ : ∃ w8, w4.alloc (.cells #[.bool false, .slice none 0 0] 39) = w8 := ⟨_, rfl⟩
                      obtain ⟨Gg, hGg⟩ : ∃ Gg, w4.heap.size = Gg := ⟨_, rfl⟩
                      rw [hw8] at G' D hq hr hHeld ⊢
                      rw [hGg] at G' Gn ⊢
                      have G := G'
                      clear G' hw8 hGg
                      (refine wpAnyL_one (i := 8) (o := _) (by kernel_rfl) rfl (fun K hK => ?_); clear hHeld; simp only [List.getElem_toArray, List.getElem_cons_zero, List.getElem_cons_succ]; go_simp; refine hK.out _ _ ?_ (fun hHeld => ?_); focus (intro _; exact KQ.out _ (D.alloc D.size _))); have hHeld := hHeld (by decide); clear hK K; (try simp only [Act.put, List.setIfInBounds_toArray, List.set_cons_zero, List.set_cons_succ])
                      have H' := Blk.new w8 39 #[.bool false, .slice none 0 0]
                      have Hn : we.heap.size ≤ w8.heap.size := D.size
                      have hne : Gg ≠ w8.heap.size := Nat.ne_of_lt G.lt
                      have G := G.alloc (.cells #[.bool false, .slice none 0 0] 39)
                      have hq := (hq.alloc (.cells #[.bool false, .slice none 0 0] 39))
                      have hr := (hr.alloc (.cells #[.bool false, .slice none 0 0] 39))
                      have D1 : Below we.heap.size we (w8.alloc (.cells #[.bool false, .slice none 0 0] 39)) := D.alloc D.size (.cells #[.bool false, .slice none 0 0] 39)
                      clear D
                      have D := D1
                      clear D1
                      obtain ⟨w9, hw9⟩ : ∃ w9, w8.alloc (.cells #[.bool false, .slice none 0 0] 39) = w9 := ⟨_, rfl⟩
                      obtain ⟨Hg, hHg⟩ : ∃ Hg, w8.heap.size = Hg := ⟨_, rfl⟩
                      rw [hw9] at H' D G hq hr hHeld ⊢
                      rw [hHg] at H' Hn hne ⊢
                      have H := H'
                      clear H' hw9 hHg
                      have X := Lib.hid (qd_set D Gn Hn hne G H hq hr)
                      have D10 := below_set2 D Gn (.bool bq) (.slice Aq nq cq)
                      have D11 := below_set2 D10 Hn (.bool br') (.slice Ar nr cr)
                      have H1 := H.far2 (hne).symm (.bool bq) (.slice Aq nq cq)
                      have g0 := G.at_ 0 rfl; have g1 := G.at_ 1 rfl; have f0 := G.frozen 0; have f1 := G.frozen 1; have h0 := H1.at_ 0 rfl; have h1 := H1.at_ 1 rfl; have f2 := H1.frozen 0; have f3 := H1.frozen 1
                      have D10 := Lib.hid D10; have D11 := Lib.hid D11
                      clear G H H1 D hq hr hp
                      (refine wpAnyL_one (i := 9) (o := _) (by kernel_rfl) rfl (fun K hK => ?_); clear hHeld; simp only [List.getElem_toArray, List.getElem_cons_zero, List.getElem_cons_succ]; go_simp; refine hK.out _ _ ?_ (fun hHeld => ?_); focus (intro _; exact KQ.out _ D10.out)); have hHeld := hHeld (by decide); clear hK K; (try simp only [Act.put, List.setIfInBounds_toArray, List.set_cons_zero, List.set_cons_succ])
                      (refine wpAnyL_one (i := 10) (o := _) (by kernel_rfl) rfl (fun K hK => ?_); clear hHeld; simp only [List.getElem_toArray, List.getElem_cons_zero, List.getElem_cons_succ]; go_simp; refine hK.out _ _ ?_ (fun hHeld => ?_); focus (intro _; exact KQ.out _ D11.out)); have hHeld := hHeld (by decide); clear hK K; (try simp only [Act.put, List.setIfInBounds_toArray, List.set_cons_zero, List.set_cons_succ])
                      refine wpAnyL_done (by kernel_rfl) ?_ _
                      go_wp2
                      go_meet
                      exact X.out
                  · as_aux_lemma =>
                      (clear hHeld; simp only [List.getElem_toArray, List.getElem_cons_zero, List.getElem_cons_succ]; go_simp; refine hK.out _ _ ?_ (fun hHeld => ?_); focus (intro _; exact KQ.out _ (D.alloc D.size _))); have hHeld := hHeld (by decide); clear hK K; (try simp only [Act.put, List.setIfInBounds_toArray, List.set_cons_zero, List.set_cons_succ])
                      have H' := Blk.new w4 39 #[.bool false, .slice none 0 0]
                      have Hn : we.heap.size ≤ w4.heap.size := D.size
                      have hq := (hq.alloc (.cells #[.bool false, .slice none 0 0] 39))
                      have hr := (hr.alloc (.cells #[.bool false, .slice none 0 0] 39))
                      have D1 : Below we.heap.size we (w4.alloc (.cells #[.bool false, .slice none 0 0] 39)) := D.alloc D.size (.cells #[.bool false, .slice none 0 0] 39)
                      clear D
                      have D := D1
                      clear D1
                      obtain ⟨w9, hw9⟩ : ∃ w9, w4.alloc (.cells #[.bool false, .slice none 0 0] 39) = w9 := ⟨_, rfl⟩
                      obtain ⟨Hg, hHg⟩ : ∃ Hg, w4.heap.size = Hg := ⟨_, rfl⟩
                      rw [hw9] at H' D hq hr hHeld ⊢
                      rw [hHg] at H' Hn ⊢
                      have H := H'
                      clear H' hw9 hHg
                      (refine wpAnyL_one (i := 7) (o := _) (by kernel_rfl) rfl (fun K hK => ?_); clear hHeld; simp only [List.getElem_toArray, List.getElem_cons_zero, List.getElem_cons_succ]; go_simp; refine hK.out _ _ ?_ (fun hHeld => ?_); focus (intro _; exact KQ.out _ (D.alloc D.size _))); have hHeld := hHeld (by decide); clear hK K; (try simp only [Act.put, List.setIfInBounds_toArray, List.set_cons_zero, List.set_cons_succ])
                      have G' := Blk.new w9 39 #[.bool false, .slice none 0 0]
                      have Gn : we.heap.size ≤ w9.heap.size := D.size
                      have hne : Hg ≠ w9.heap.size := Nat.ne_of_lt H.lt
                      have H := H.alloc (.cells #[.bool false, .slice none 0 0] 39)
                      have hq := (hq.alloc (.cells #[.bool false, .slice none 0 0] 39))
                      have hr := (hr.alloc (.cells #[.bool false, .slice none 0 0] 39))
                      have D1 : Below we.heap.size we (w9.alloc (.cells #[.bool false, .slice none 0 0] 39)) := D.alloc D.size (.cells #[.bool false, .slice none 0 0] 39)
                      clear D
                      have D := D1
                      clear D1
                      obtain ⟨w8, hw8⟩ : ∃ w8, w9.alloc (.cells #[.bool false, .slice none 0 0] 39) = w8 := ⟨_, rfl⟩
                      obtain ⟨Gg, hGg⟩ : ∃ Gg, w9.heap.size = Gg := ⟨_, rfl⟩
                      rw [hw8] at G' D H hq hr hHeld ⊢
                      rw [hGg] at G' Gn hne ⊢
                      have G := G'
                      clear G' hw8 hGg
                      have X := Lib.hid (qd_set D Gn Hn hne.symm G H hq hr)
                      have D10 := below_set2 D Gn (.bool bq) (.slice Aq nq cq)
                      have D11 := below_set2 D10 Hn (.bool br') (.slice Ar nr cr)
                      have H1 := H.far2 (hne.symm).symm (.bool bq) (.slice Aq nq cq)
                      have g0 := G.at_ 0 rfl; have g1 := G.at_ 1 rfl; have f0 := G.frozen 0; have f1 := G.frozen 1; have h0 := H1.at_ 0 rfl; have h1 := H1.at_ 1 rfl; have f2 := H1.frozen 0; have f3 := H1.frozen 1
                      have D10 := Lib.hid D10; have D11 := Lib.hid D11
                      clear G H H1 D hq hr hp
                      (refine wpAnyL_one (i := 9) (o := _) (by kernel_rfl) rfl (fun K hK => ?_); clear hHeld; simp only [List.getElem_toArray, List.getElem_cons_zero, List.getElem_cons_succ]; go_simp; refine hK.out _ _ ?_ (fun hHeld => ?_); focus (intro _; exact KQ.out _ D10.out)); have hHeld := hHeld (by decide); clear hK K; (try simp only [Act.put, List.setIfInBounds_toArray, List.set_cons_zero, List.set_cons_succ])
                      (refine wpAnyL_one (i := 10) (o := _) (by kernel_rfl) rfl (fun K hK => ?_); clear hHeld; simp only [List.getElem_toArray, List.getElem_cons_zero, List.getElem_cons_succ]; go_simp; refine hK.out _ _ ?_ (fun hHeld => ?_); focus (intro _; exact KQ.out _ D11.out)); have hHeld := hHeld (by decide); clear hK K; (try simp only [Act.put, List.setIfInBounds_toArray, List.set_cons_zero, List.set_cons_succ])
                      refine wpAnyL_done (by kernel_rfl) ?_ _
                      go_wp2
                      go_meet
                      exact X.out
              · as_aux_lemma =>
                  (clear hHeld; simp only [List.getElem_toArray, List.getElem_cons_zero, List.getElem_cons_succ]; go_simp; refine hK.out _ _ ?_ (fun hHeld => ?_); focus (intro _; exact KQ.out _ (D.alloc D.size _))); have hHeld := hHeld (by decide); clear hK K; (try simp only [Act.put, List.setIfInBounds_toArray, List.set_cons_zero, List.set_cons_succ])
                  have G' := Blk.new w3 39 #[.bool false, .slice none 0 0]
                  have Gn : we.heap.size ≤ w3.heap.size := D.size
                  have hp := (hp.alloc (.cells #[.bool false, .slice none 0 0] 39))
                  have D1 : Below we.heap.size we (w3.alloc (.cells #[.bool false, .slice none 0 0] 39)) := D.alloc D.size (.cells #[.bool false, .slice none 0 0] 39)
                  clear D
                  have D := D1
                  clear D1
                  obtain ⟨w8, hw8⟩ : ∃ w8, w3.alloc (.cells #[.bool false, .slice none 0 0] 39) = w8 := ⟨_, rfl⟩
                  obtain ⟨Gg, hGg⟩ : ∃ Gg, w3.heap.size = Gg := ⟨_, rfl⟩
                  rw [hw8] at G' D hp hHeld ⊢
                  rw [hGg] at G' Gn ⊢
                  have G := G'
                  clear G' hw8 hGg
                  refine wpAnyL_two (i := 3) (j := 8) (oi := _) (oj := _) (by kernel_rfl) rfl rfl (fun K hK => ?_) (fun K hK => ?_)
                  · as_aux_lemma =>
                      (clear hHeld; simp only [List.getElem_toArray, List.getElem_cons_zero, List.getElem_cons_succ]; go_simp; (go_at_call 56; (with_reducible refine (DZ.out _ _ _ (VQ.out _ D) hp.v).mono ?_); rintro e w4 ⟨_, _, rfl, ⟨bq, Aq, nq, cq, rfl, hq⟩, ⟨br', Ar, nr, cr, rfl, hr⟩, hb⟩; have D := D.trans (hb.mono D.size); have G := G.below hb G.lt); refine hK.out _ _ ?_ (fun hHeld => ?_); focus (intro _; exact KQ.out _ D)); have hHeld := hHeld (by decide); clear hK K; (try simp only [Act.put, List.setIfInBounds_toArray, List.set_cons_zero, List.set_cons_succ])
                      (refine wpAnyL_take (i := 4) (oi := _) (v := ?_) rfl (by kernel_rfl) (by kernel_rfl) (by kernel_rfl) (fun _ _ _ h => h) (Or.inl ⟨by first | rfl | kernel_rfl, ?hy6⟩) (by assumption) ?rs6; (case hy6 => (intro w hSw; (try dsimp only at hSw); go_simp; first | done | with_reducible rfl)); case' rs6 => (simp only [List.getElem_toArray, List.getElem_cons_zero, List.getElem_cons_succ, Act.put, List.setIfInBounds_toArray, List.set_cons_zero, List.set_cons_succ])); (refine wpAnyL_take (i := 5) (oi := _) (v := ?_) rfl (by kernel_rfl) (by kernel_rfl) (by kernel_rfl) (fun _ _ _ h => h) (Or.inl ⟨by first | rfl | kernel_rfl, ?hy7⟩) (by assumption) ?rs7; (case hy7 => (intro w hSw; (try dsimp only at hSw); go_simp; first | done | with_reducible rfl)); case' rs7 => (simp only [List.getElem_toArray, List.getElem_cons_zero, List.getElem_cons_succ, Act.put, List.setIfInBounds_toArray, List.set_cons_zero, List.set_cons_succ])); (refine wpAnyL_take (i := 6) (oi := _) (v := ?_) rfl (by kernel_rfl) (by kernel_rfl) (by kernel_rfl) (fun _ _ _ h => h) (Or.inl ⟨by first | rfl | kernel_rfl, ?hy8⟩) (by assumption) ?rs8; (case hy8 => (intro w hSw; (try dsimp only at hSw); go_simp; first | done | with_reducible rfl)); case' rs8 => (simp only [List.getElem_toArray, List.getElem_cons_zero, List.getElem_cons_succ, Act.put, List.setIfInBounds_toArray, List.set_cons_zero, List.set_cons_succ])); skip
                      (refine wpAnyL_one (i := 8) (o := _) (by kernel_rfl) rfl (fun K hK => ?_); clear hHeld; simp only [List.getElem_toArray, List.getElem_cons_zero, List.getElem_cons_succ]; go_simp; refine hK.out _ _ ?_ (fun hHeld => ?_); focus (intro _; exact KQ.out _ (D.alloc D.size _))); have hHeld := hHeld (by decide); clear hK K; (try simp only [Act.put, List.setIfInBounds_toArray, List.set_cons_zero, List.set_cons_succ])
                      have H' := Blk.new w4 39 #[.bool false, .slice none 0 0]
                      have Hn : we.heap.size ≤ w4.heap.size := D.size
                      have hne : Gg ≠ w4.heap.size := Nat.ne_of_lt G.lt
                      have G := G.alloc (.cells #[.bool false, .slice none 0 0] 39)
                      have hq := (hq.alloc (.cells #[.bool false, .slice none 0 0] 39))
                      have hr := (hr.alloc (.cells #[.bool false, .slice none 0 0] 39))
                      have D1 : Below we.heap.size we (w4.alloc (.cells #[.bool false, .slice none 0 0] 39)) := D.alloc D.size (.cells #[.bool false, .slice none 0 0] 39)
                      clear D
                      have D := D1
                      clear D1
                      obtain ⟨w9, hw9⟩ : ∃ w9, w4.alloc (.cells #[.bool false, .slice none 0 0] 39) = w9 := ⟨_, rfl⟩
                      obtain ⟨Hg, hHg⟩ : ∃ Hg, w4.heap.size = Hg := ⟨_, rfl⟩
                      rw [hw9] at H' D G hq hr hHeld ⊢
                      rw [hHg] at H' Hn hne ⊢
                      have H := H'
                      clear H' hw9 hHg
                      have X := Lib.hid (qd_set D Gn Hn hne G H hq hr)
                      have D10 := below_set2 D Gn (.bool bq) (.slice Aq nq cq)
                      have D11 := below_set2 D10 Hn (.bool br') (.slice Ar nr cr)
                      have H1 := H.far2 (hne).symm (.bool bq) (.slice Aq nq cq)
                      have g0 := G.at_ 0 rfl; have g1 := G.at_ 1 rfl; have f0 := G.frozen 0; have f1 := G.frozen 1; have h0 := H1.at_ 0 rfl; have h1 := H1.at_ 1 rfl; have f2 := H1.frozen 0; have f3 := H1.frozen 1
                      have D10 := Lib.hid D10; have D11 := Lib.hid D11
                      clear G H H1 D hq hr hp
                      (refine wpAnyL_one (i := 9) (o := _) (by kernel_rfl) rfl (fun K hK => ?_); clear hHeld; simp only [List.getElem_toArray, List.getElem_cons_zero, List.getElem_cons_succ]; go_simp; refine hK.out _ _ ?_ (fun hHeld => ?_); focus (intro _; exact KQ.out _ D10.out)); have hHeld := hHeld (by decide); clear hK K; (try simp only [Act.put, List.setIfInBounds_toArray, List.set_cons_zero, List.set_cons_succ])
                      (refine wpAnyL_one (i := 10) (o := _) (by kernel_rfl) rfl (fun K hK => ?_); clear hHeld; simp only [List.getElem_toArray, List.getElem_cons_zero, List.getElem_cons_succ]; go_simp; refine hK.out _ _ ?_ (fun hHeld => ?_); focus (intro _; exact KQ.out _ D11.out)); have hHeld := hHeld (by decide); clear hK K; (try simp only [Act.put, List.setIfInBounds_toArray, List.set_cons_zero, List.set_cons_succ])
                      refine wpAnyL_done (by kernel_rfl) ?_ _
                      go_wp2
                      go_meet
                      exact X.out
                  · as_aux_lemma =>
                      (clear hHeld; simp only [List.getElem_toArray, List.getElem_cons_zero, List.getElem_cons_succ]; go_simp; refine hK.out _ _ ?_ (fun hHeld => ?_); focus (intro _; exact KQ.out _ (D.alloc D.size _))); have hHeld := hHeld (by decide); clear hK K; (try simp only [Act.put, List.setIfInBounds_toArray, List.set_cons_zero, List.set_cons_succ])
                      have H' := Blk.new w8 39 #[.bool false, .slice none 0 0]
                      have Hn : we.heap.size ≤ w8.heap.size := D.size
                      have hne : Gg ≠ w8.heap.size := Nat.ne_of_lt G.lt
                      have G := G.alloc (.cells #[.bool false, .slice none 0 0] 39)
                      have hp := (hp.alloc (.cells #[.bool false, .slice none 0 0] 39))
                      have D1 : Below we.heap.size we (w8.alloc (.cells #[.bool false, .slice none 0 0] 39)) := D.alloc D.size (.cells #[.bool false, .slice none 0 0] 39)
                      clear D
                      have D := D1
                      clear D1
                      obtain ⟨w9, hw9⟩ : ∃ w9, w8.alloc (.cells #[.bool false, .slice none 0 0] 39) = w9 := ⟨_, rfl⟩
                      obtain ⟨Hg, hHg⟩ : ∃ Hg, w8.heap.size = Hg := ⟨_, rfl⟩
                      rw [hw9] at H' D G hp hHeld ⊢
                      rw [hHg] at H' Hn hne ⊢
                      have H := H'
                      clear H' hw9 hHg
                      (refine wpAnyL_one (i := 3) (o := _) (by kernel_rfl) rfl (fun K hK => ?_); clear hHeld; simp only [List.getElem_toArray, List.getElem_cons_zero, List.getElem_cons_succ]; go_simp; (go_at_call 56; (with_reducible refine (DZ.out _ _ _ (VQ.out _ D) hp.v).mono ?_); rintro e w4 ⟨_, _, rfl, ⟨bq, Aq, nq, cq, rfl, hq⟩, ⟨br', Ar, nr, cr, rfl, hr⟩, hb⟩; have D := D.trans (hb.mono D.size); have G := G.below hb G.lt; have H := H.below hb H.lt); refine hK.out _ _ ?_ (fun hHeld => ?_); focus (intro _; exact KQ.out _ D)); have hHeld := hHeld (by decide); clear hK K; (try simp only [Act.put, List.setIfInBounds_toArray, List.set_cons_zero, List.set_cons_succ])
                      (refine wpAnyL_take (i := 4) (oi := _) (v := ?_) rfl (by kernel_rfl) (by kernel_rfl) (by kernel_rfl) (fun _ _ _ h => h) (Or.inl ⟨by first | rfl | kernel_rfl, ?hy9⟩) (by assumption) ?rs9; (case hy9 => (intro w hSw; (try dsimp only at hSw); go_simp; first | done | with_reducible rfl)); case' rs9 => (simp only [List.getElem_toArray, List.getElem_cons_zero, List.getElem_cons_succ, Act.put, List.setIfInBounds_toArray, List.set_cons_zero, List.set_cons_succ])); (refine wpAnyL_take (i := 5) (oi := _) (v := ?_) rfl (by kernel_rfl) (by kernel_rfl) (by kernel_rfl) (fun _ _ _ h => h) (Or.inl ⟨by first | rfl | kernel_rfl, ?hy10⟩) (by assumption) ?rs10; (case hy10 => (intro w hSw; (try dsimp only at hSw); go_simp; first | done | with_reducible rfl)); case' rs10 => (simp only [List.getElem_toArray, List.getElem_cons_zero, List.getElem_cons_succ, Act.put, List.setIfInBounds_toArray, List.set_cons_zero, List.set_cons_succ])); (refine wpAnyL_take (i := 6) (oi := _) (v := ?_) rfl (by kernel_rfl) (by kernel_rfl) (by kernel_rfl) (fun _ _ _ h => h) (Or.inl ⟨by first | rfl | kernel_rfl, ?hy11⟩) (by assumption) ?rs11; (case hy11 => (intro w hSw; (try dsimp only at hSw); go_simp; first | done | with_reducible rfl)); case' rs11 => (simp only [List.getElem_toArray, List.getElem_cons_zero, List.getElem_cons_succ, Act.put, List.setIfInBounds_toArray, List.set_cons_zero, List.set_cons_succ])); skip
                      have X := Lib.hid (qd_set D Gn Hn hne G H hq hr)
                      have D10 := below_set2 D Gn (.bool bq) (.slice Aq nq cq)
                      have D11 := below_set2 D10 Hn (.bool br') (.slice Ar nr cr)
                      have H1 := H.far2 (hne).symm (.bool bq) (.slice Aq nq cq)
                      have g0 := G.at_ 0 rfl; have g1 := G.at_ 1 rfl; have f0 := G.frozen 0; have f1 := G.frozen 1; have h0 := H1.at_ 0 rfl; have h1 := H1.at_ 1 rfl; have f2 := H1.frozen 0; have f3 := H1.frozen 1
                      have D10 := Lib.hid D10; have D11 := Lib.hid D11
                      clear G H H1 D hq hr hp
                      (refine wpAnyL_one (i := 9) (o := _) (by kernel_rfl) rfl (fun K hK => ?_); clear hHeld; simp only [List.getElem_toArray, List.getElem_cons_zero, List.getElem_cons_succ]; go_simp; refine hK.out _ _ ?_ (fun hHeld => ?_); focus (intro _; exact KQ.out _ D10.out)); have hHeld := hHeld (by decide); clear hK K; (try simp only [Act.put, List.setIfInBounds_toArray, List.set_cons_zero, List.set_cons_succ])
                      (refine wpAnyL_one (i := 10) (o := _) (by kernel_rfl) rfl (fun K hK => ?_); clear hHeld; simp only [List.getElem_toArray, List.getElem_cons_zero, List.getElem_cons_succ]; go_simp; refine hK.out _ _ ?_ (fun hHeld => ?_); focus (intro _; exact KQ.out _ D11.out)); have hHeld := hHeld (by decide); clear hK K; (try simp only [Act.put, List.setIfInBounds_toArray, List.set_cons_zero, List.set_cons_succ])
                      refine wpAnyL_done (by kernel_rfl) ?_ _
                      go_wp2
                      go_meet
                      exact X.out
              · as_aux_lemma =>
                  (clear hHeld; simp only [List.getElem_toArray, List.getElem_cons_zero, List.getElem_cons_succ]; go_simp; refine hK.out _ _ ?_ (fun hHeld => ?_); focus (intro _; exact KQ.out _ (D.alloc D.size _))); have hHeld := hHeld (by decide); clear hK K; (try simp only [Act.put, List.setIfInBounds_toArray, List.set_cons_zero, List.set_cons_succ])
                  have H' := Blk.new w3 39 #[.bool false, .slice none 0 0]
                  have Hn : we.heap.size ≤ w3.heap.size := D.size
                  have hp := (hp.alloc (.cells #[.bool false, .slice none 0 0] 39))
                  have D1 : Below we.heap.size we (w3.alloc (.cells #[.bool false, .slice none 0 0] 39)) := D.alloc D.size (.cells #[.bool false, .slice none 0 0] 39)
                  clear D
                  have D := D1
                  clear D1
                  obtain ⟨w9, hw9⟩ : ∃ w9, w3.alloc (.cells #[.bool false, .slice none 0 0] 39) = w9 := ⟨_, rfl⟩
                  obtain ⟨Hg, hHg⟩ : ∃ Hg, w3.heap.size = Hg := ⟨_, rfl⟩
                  rw [hw9] at H' D hp hHeld ⊢
                  rw [hHg] at H' Hn ⊢
                  have H := H'
                  clear H' hw9 hHg
                  refine wpAnyL_two (i := 3) (j := 7) (oi := _) (oj := _) (by kernel_rfl) rfl rfl (fun K hK => ?_) (fun K hK => ?_)
                  · as_aux_lemma =>
                      (clear hHeld; simp only [List.getElem_toArray, List.getElem_cons_zero, List.getElem_cons_succ]; go_simp; (go_at_call 56; (with_reducible refine (DZ.out _ _ _ (VQ.out _ D) hp.v).mono ?_); rintro e w4 ⟨_, _, rfl, ⟨bq, Aq, nq, cq, rfl, hq⟩, ⟨br', Ar, nr, cr, rfl, hr⟩, hb⟩; have D := D.trans (hb.mono D.size); have H := H.below hb H.lt); refine hK.out _ _ ?_ (fun hHeld => ?_); focus (intro _; exact KQ.out _ D)); have hHeld := hHeld (by decide); clear hK K; (try simp only [Act.put, List.setIfInBounds_toArray, List.set_cons_zero, List.set_cons_succ])
                      (refine wpAnyL_take (i := 4) (oi := _) (v := ?_) rfl (by kernel_rfl) (by kernel_rfl) (by kernel_rfl) (fun _ _ _ h => h) (Or.inl ⟨by first | rfl | kernel_rfl, ?hy12⟩) (by assumption) ?rs12; (case hy12 => (intro w hSw; (try dsimp only at hSw); go_simp; first | done | with_reducible rfl)); case' rs12 => (simp only [List.getElem_toArray, List.getElem_cons_zero, List.getElem_cons_succ, Act.put, List.setIfInBounds_toArray, List.set_cons_zero, List.set_cons_succ])); (refine wpAnyL_take (i := 5) (oi := _) (v := ?_) rfl (by kernel_rfl) (by kernel_rfl) (by kernel_rfl) (fun _ _ _ h => h) (Or.inl ⟨by first | rfl | kernel_rfl, ?hy13⟩) (by assumption) ?rs13; (case hy13 => (intro w hSw; (try dsimp only at hSw); go_simp; first | done | with_reducible rfl)); case' rs13 => (simp only [List.getElem_toArray, List.getElem_cons_zero, List.getElem_cons_succ, Act.put, List.setIfInBounds_toArray, List.set_cons_zero, List.set_cons_succ])); (refine wpAnyL_take (i := 6) (oi := _) (v := ?_) rfl (by kernel_rfl) (by kernel_rfl) (by kernel_rfl) (fun _ _ _ h => h) (Or.inl ⟨by first | rfl | kernel_rfl, ?hy14⟩) (by assumption) ?rs14; (case hy14 => (intro w hSw; (try dsimp only at hSw); go_simp; first | done | with_reducible rfl)); case' rs14 => (simp only [List.getElem_toArray, List.getElem_cons_zero, List.getElem_cons_succ, Act.put, List.setIfInBounds_toArray, List.set_cons_zero, List.set_cons_succ])); skip
                      (refine wpAnyL_one (i := 7) (o := _) (by kernel_rfl) rfl (fun K hK => ?_); clear hHeld; simp only [List.getElem_toArray, List.getElem_cons_zero, List.getElem_cons_succ]; go_simp; refine hK.out _ _ ?_ (fun hHeld => ?_); focus (intro _; exact KQ.out _ (D.alloc D.size _))); have hHeld := hHeld (by decide); clear hK K; (try simp only [Act.put, List.setIfInBounds_toArray, List.set_cons_zero, List.set_cons_succ])
                      have G' := Blk.new w4 39 #[.bool false, .slice none 0 0]
                      have Gn : we.heap.size ≤ w4.heap.size := D.size
                      have hne : Hg ≠ w4.heap.size := Nat.ne_of_lt H.lt
                      have H := H.alloc (.cells #[.bool false, .slice none 0 0] 39)
                      have hq := (hq.alloc (.cells #[.bool false, .slice none 0 0] 39))
                      have hr := (hr.alloc (.cells #[.bool false, .slice none 0 0] 39))
                      have D1 : Below we.heap.size we (w4.alloc (.cells #[.bool false, .slice none 0 0] 39)) := D.alloc D.size (.cells #[.bool false, .slice none 0 0] 39)
                      clear D
                      have D := D1
                      clear D1
                      obtain ⟨w8, hw8⟩ : ∃ w8, w4.alloc (.cells #[.bool false, .slice none 0 0] 39) = w8 := ⟨_, rfl⟩
                      obtain ⟨Gg, hGg⟩ : ∃ Gg, w4.heap.size = Gg := ⟨_, rfl⟩
                      rw [hw8] at G' D H hq hr hHeld ⊢
                      rw [hGg] at G' Gn hne ⊢
                      have G := G'
                      clear G' hw8 hGg
                      have X := Lib.hid (qd_set D Gn Hn hne.symm G H hq hr)
                      have D10 := below_set2 D Gn (.bool bq) (.slice Aq nq cq)
                      have D11 := below_set2 D10 Hn (.bool br') (.slice Ar nr cr)
                      have H1 := H.far2 (hne.symm).symm (.bool bq) (.slice Aq nq cq)
                      have g0 := G.at_ 0 rfl; have g1 := G.at_ 1 rfl; have f0 := G.frozen 0; have f1 := G.frozen 1; have h0 := H1.at_ 0 rfl; have h1 := H1.at_ 1 rfl; have f2 := H1.frozen 0; have f3 := H1.frozen 1
                      have D10 := Lib.hid D10; have D11 := Lib.hid D11
                      clear G H H1 D hq hr hp
                      (refine wpAnyL_one (i := 9) (o := _) (by kernel_rfl) rfl (fun K hK => ?_); clear hHeld; simp only [List.getElem_toArray, List.getElem_cons_zero, List.getElem_cons_succ]; go_simp; refine hK.out _ _ ?_ (fun hHeld => ?_); focus (intro _; exact KQ.out _ D10.out)); have hHeld := hHeld (by decide); clear hK K; (try simp only [Act.put, List.setIfInBounds_toArray, List.set_cons_zero, List.set_cons_succ])
                      (refine wpAnyL_one (i := 10) (o := _) (by kernel_rfl) rfl (fun K hK => ?_); clear hHeld; simp only [List.getElem_toArray, List.getElem_cons_zero, List.getElem_cons_succ]; go_simp; refine hK.out _ _ ?_ (fun hHeld => ?_); focus (intro _; exact KQ.out _ D11.out)); have hHeld := hHeld (by decide); clear hK K; (try simp only [Act.put, List.setIfInBounds_toArray, List.set_cons_zero, List.set_cons_succ])
                      refine wpAnyL_done (by kernel_rfl) ?_ _
                      go_wp2
                      go_meet
                      exact X.out
                  · as_aux_lemma =>
                      (clear hHeld; simp only [List.getElem_toArray, List.getElem_cons_zero, List.getElem_cons_succ]; go_simp; refine hK.out _ _ ?_ (fun hHeld => ?_); focus (intro _; exact KQ.out _ (D.alloc D.size _))); have hHeld := hHeld (by decide); clear hK K; (try simp only [Act.put, List.setIfInBounds_toArray, List.set_cons_zero, List.set_cons_succ])
                      have G' := Blk.new w9 39 #[.bool false, .slice none 0 0]
                      have Gn : we.heap.size ≤ w9.heap.size := D.size
                      have hne : Hg ≠ w9.heap.size := Nat.ne_of_lt H.lt
                      have H := H.alloc (.cells #[.bool false, .slice none 0 0] 39)
                      have hp := (hp.alloc (.cells #[.bool false, .slice none 0 0] 39))
                      have D1 : Below we.heap.size we (w9.alloc (.cells #[.bool false, .slice none 0 0] 39)) := D.alloc D.size (.cells #[.bool false, .slice none 0 0] 39)
                      clear D
                      have D := D1
                      clear D1
                      obtain ⟨w8, hw8⟩ : ∃ w8, w9.alloc (.cells #[.bool false, .slice none 0 0] 39) = w8 := ⟨_, rfl⟩
                      obtain ⟨Gg, hGg⟩ : ∃ Gg, w9.heap.size = Gg := ⟨_, rfl⟩
                      rw [hw8] at G' D H hp hHeld ⊢
                      rw [hGg] at G' Gn hne ⊢
                      have G := G'
                      clear G' hw8 hGg
                      (refine wpAnyL_one (i := 3) (o := _) (by kernel_rfl) rfl (fun K hK => ?_); clear hHeld; simp only [List.getElem_toArray, List.getElem_cons_zero, List.getElem_cons_succ]; go_simp; (go_at_call 56; (with_reducible refine (DZ.out _ _ _ (VQ.out _ D) hp.v).mono ?_); rintro e w4 ⟨_, _, rfl, ⟨bq, Aq, nq, cq, rfl, hq⟩, ⟨br', Ar, nr, cr, rfl, hr⟩, hb⟩; have D := D.trans (hb.mono D.size); have G := G.below hb G.lt; have H := H.below hb H.lt); refine hK.out _ _ ?_ (fun hHeld => ?_); focus (intro _; exact KQ.out _ D)); have hHeld := hHeld (by decide); clear hK K; (try simp only [Act.put, List.setIfInBounds_toArray, List.set_cons_zero, List.set_cons_succ])
                      (refine wpAnyL_take (i := 4) (oi := _) (v := ?_) rfl (by kernel_rfl) (by kernel_rfl) (by kernel_rfl) (fun _ _ _ h => h) (Or.inl ⟨by first | rfl | kernel_rfl, ?hy15⟩) (by assumption) ?rs15; (case hy15 => (intro w hSw; (try dsimp only at hSw); go_simp; first | done | with_reducible rfl)); case' rs15 => (simp only [List.getElem_toArray, List.getElem_cons_zero, List.getElem_cons_succ, Act.put, List.setIfInBounds_toArray, List.set_cons_zero, List.set_cons_succ])); (refine wpAnyL_take (i := 5) (oi := _) (v := ?_) rfl (by kernel_rfl) (by kernel_rfl) (by kernel_rfl) (fun _ _ _ h => h) (Or.inl ⟨by first | rfl | kernel_rfl, ?hy16⟩) (by assumption) ?rs16; (case hy16 => (intro w hSw; (try dsimp only at hSw); go_simp; first | done | with_reducible rfl)); case' rs16 => (simp only [List.getElem_toArray, List.getElem_cons_zero, List.getElem_cons_succ, Act.put, List.setIfInBounds_toArray, List.set_cons_zero, List.set_cons_succ])); (refine wpAnyL_take (i := 6) (oi := _) (v := ?_) rfl (by kernel_rfl) (by kernel_rfl) (by kernel_rfl) (fun _ _ _ h => h) (Or.inl ⟨by first | rfl | kernel_rfl, ?hy17⟩) (by assumption) ?rs17; (case hy17 => (intro w hSw; (try dsimp only at hSw); go_simp; first | done | with_reducible rfl)); case' rs17 => (simp only [List.getElem_toArray, List.getElem_cons_zero, List.getElem_cons_succ, Act.put, List.setIfInBounds_toArray, List.set_cons_zero, List.set_cons_succ])); skip
                      have X := Lib.hid (qd_set D Gn Hn hne.symm G H hq hr)
                      have D10 := below_set2 D Gn (.bool bq) (.slice Aq nq cq)
                      have D11 := below_set2 D10 Hn (.bool br') (.slice Ar nr cr)
                      have H1 := H.far2 (hne.symm).symm (.bool bq) (.slice Aq nq cq)
                      have g0 := G.at_ 0 rfl; have g1 := G.at_ 1 rfl; have f0 := G.frozen 0; have f1 := G.frozen 1; have h0 := H1.at_ 0 rfl; have h1 := H1.at_ 1 rfl; have f2 := H1.frozen 0; have f3 := H1.frozen 1
                      have D10 := Lib.hid D10; have D11 := Lib.hid D11
                      clear G H H1 D hq hr hp
                      (refine wpAnyL_one (i := 9) (o := _) (by kernel_rfl) rfl (fun K hK => ?_); clear hHeld; simp only [List.getElem_toArray, List.getElem_cons_zero, List.getElem_cons_succ]; go_simp; refine hK.out _ _ ?_ (fun hHeld => ?_); focus (intro _; exact KQ.out _ D10.out)); have hHeld := hHeld (by decide); clear hK K; (try simp only [Act.put, List.setIfInBounds_toArray, List.set_cons_zero, List.set_cons_succ])
                      (refine wpAnyL_one (i := 10) (o := _) (by kernel_rfl) rfl (fun K hK => ?_); clear hHeld; simp only [List.getElem_toArray, List.getElem_cons_zero, List.getElem_cons_succ]; go_simp; refine hK.out _ _ ?_ (fun hHeld => ?_); focus (intro _; exact KQ.out _ D11.out)); have hHeld := hHeld (by decide); clear hK K; (try simp only [Act.put, List.setIfInBounds_toArray, List.set_cons_zero, List.set_cons_succ])
                      refine wpAnyL_done (by kernel_rfl) ?_ _
                      go_wp2
                      go_meet
                      exact X.out
          · as_aux_lemma =>
              (clear hHeld; simp only [List.getElem_toArray, List.getElem_cons_zero, List.getElem_cons_succ]; go_simp; refine hK.out _ _ ?_ (fun hHeld => ?_); focus (intro _; exact KQ.out _ (D.alloc D.size _))); have hHeld := hHeld (by decide); clear hK K; (try simp only [Act.put, List.setIfInBounds_toArray, List.set_cons_zero, List.set_cons_succ])
              have G' := Blk.drew (Blk.new wr 39 #[.bool false, .slice none 0 0])
              have Gn : we.heap.size ≤ wr.heap.size := D.size
              have D1 : Below we.heap.size we ((wr.alloc (.cells #[.bool false, .slice none 0 0] 39)).drew) := (D.alloc D.size (.cells #[.bool false, .slice none 0 0] 39))
              clear D
              have D := D1
              clear D1
              obtain ⟨w8, hw8⟩ : ∃ w8, (wr.alloc (.cells #[.bool false, .slice none 0 0] 39)).drew = w8 := ⟨_, rfl⟩
              obtain ⟨Gg, hGg⟩ : ∃ Gg, wr.heap.size = Gg := ⟨_, rfl⟩
              rw [hw8] at G' D hHeld ⊢
              rw [hGg] at G' Gn ⊢
              have G := G'
              clear G' hw8 hGg
              refine wpAnyL_two (i := 2) (j := 8) (oi := _) (oj := _) (by kernel_rfl) rfl rfl (fun K hK => ?_) (fun K hK => ?_)
              · as_aux_lemma =>
                  (clear hHeld; simp only [List.getElem_toArray, List.getElem_cons_zero, List.getElem_cons_succ]; go_simp; (go_at_call 36; (with_reducible refine (HP.out _).mono ?_); rintro e w3 ⟨_, rfl, ⟨b1, A1, n1, c1, rfl, hp0⟩, hb⟩; have hp := hp0.zl; have D := D.trans (hb.mono D.size); have G := G.below hb G.lt); refine hK.out _ _ ?_ (fun hHeld => ?_); focus (intro _; exact KQ.out _ D)); have hHeld := hHeld (by decide); clear hK K; (try simp only [Act.put, List.setIfInBounds_toArray, List.set_cons_zero, List.set_cons_succ])
                  refine wpAnyL_two (i := 3) (j := 8) (oi := _) (oj := _) (by kernel_rfl) rfl rfl (fun K hK => ?_) (fun K hK => ?_)
                  · as_aux_lemma =>
                      (clear hHeld; simp only [List.getElem_toArray, List.getElem_cons_zero, List.getElem_cons_succ]; go_simp; (go_at_call 56; (with_reducible refine (DZ.out _ _ _ (VQ.out _ D) hp.v).mono ?_); rintro e w4 ⟨_, _, rfl, ⟨bq, Aq, nq, cq, rfl, hq⟩, ⟨br', Ar, nr, cr, rfl, hr⟩, hb⟩; have D := D.trans (hb.mono D.size); have G := G.below hb G.lt); refine hK.out _ _ ?_ (fun hHeld => ?_); focus (intro _; exact KQ.out _ D)); have hHeld := hHeld (by decide); clear hK K; (try simp only [Act.put, List.setIfInBounds_toArray, List.set_cons_zero, List.set_cons_succ])
                      (refine wpAnyL_take (i := 4) (oi := _) (v := ?_) rfl (by kernel_rfl) (by kernel_rfl) (by kernel_rfl) (fun _ _ _ h => h) (Or.inl ⟨by first | rfl | kernel_rfl, ?hy18⟩) (by assumption) ?rs18; (case hy18 => (intro w hSw; (try dsimp only at hSw); go_simp; first | done | with_reducible rfl)); case' rs18 => (simp only [List.getElem_toArray, List.getElem_cons_zero, List.getElem_cons_succ, Act.put, List.setIfInBounds_toArray, List.set_cons_zero, List.set_cons_succ])); (refine wpAnyL_take (i := 5) (oi := _) (v := ?_) rfl (by kernel_rfl) (by kernel_rfl) (by kernel_rfl) (fun _ _ _ h => h) (Or.inl ⟨by first | rfl | kernel_rfl, ?hy19⟩) (by assumption) ?rs19; (case hy19 => (intro w hSw; (try dsimp only at hSw); go_simp; first | done | with_reducible rfl)); case' rs19 => (simp only [List.getElem_toArray, List.getElem_cons_zero, List.getElem_cons_succ, Act.put, List.setIfInBounds_toArray, List.set_cons_zero, List.set_cons_succ])); (refine wpAnyL_take (i := 6) (oi := _) (v := ?_) rfl (by kernel_rfl) (by kernel_rfl) (by kernel_rfl) (fun _ _ _ h => h) (Or.inl ⟨by first | rfl | kernel_rfl, ?hy20⟩) (by assumption) ?rs20; (case hy20 => (intro w hSw; (try dsimp only at hSw); go_simp; first | done | with_reducible rfl)); case' rs20 => (simp only [List.getElem_toArray, List.getElem_cons_zero, List.getElem_cons_succ, Act.put, List.setIfInBounds_toArray, List.set_cons_zero, List.set_cons_succ])); skip
                      (refine wpAnyL_one (i := 8) (o := _) (by kernel_rfl) rfl (fun K hK => ?_); clear hHeld; simp only [List.getElem_toArray, List.getElem_cons_zero, List.getElem_cons_succ]; go_simp; refine hK.out _ _ ?_ (fun hHeld => ?_); focus (intro _; exact KQ.out _ (D.alloc D.size _))); have hHeld := hHeld (by decide); clear hK K; (try simp only [Act.put, List.setIfInBounds_toArray, List.set_cons_zero, List.set_cons_succ])
                      have H' := Blk.new w4 39 #[.bool false, .slice none 0 0]
                      have Hn : we.heap.size ≤ w4.heap.size := D.size
                      have hne : Gg ≠ w4.heap.size := Nat.ne_of_lt G.lt
                      have G := G.alloc (.cells #[.bool false, .slice none 0 0] 39)
                      have hq := (hq.alloc (.cells #[.bool false, .slice none 0 0] 39))
                      have hr := (hr.alloc (.cells #[.bool false, .slice none 0 0] 39))
                      have D1 : Below we.heap.size we (w4.alloc (.cells #[.bool false, .slice none 0 0] 39)) := D.alloc D.size (.cells #[.bool false, .slice none 0 0] 39)
                      clear D
                      have D := D1
                      clear D1
                      obtain ⟨w9, hw9⟩ : ∃ w9, w4.alloc (.cells #[.bool false, .slice none 0 0] 39) = w9 := ⟨_, rfl⟩
                      obtain ⟨Hg, hHg⟩ : ∃ Hg, w4.heap.size = Hg := ⟨_, rfl⟩
                      rw [hw9] at H' D G hq hr hHeld ⊢
                      rw [hHg] at H' Hn hne ⊢
                      have H := H'
                      clear H' hw9 hHg
                      have X := Lib.hid (qd_set D Gn Hn hne G H hq hr)
                      have D10 := below_set2 D Gn (.bool bq) (.slice Aq nq cq)
                      have D11 := below_set2 D10 Hn (.bool br') (.slice Ar nr cr)
                      have H1 := H.far2 (hne).symm (.bool bq) (.slice Aq nq cq)
                      have g0 := G.at_ 0 rfl; have g1 := G.at_ 1 rfl; have f0 := G.frozen 0; have f1 := G.frozen 1; have h0 := H1.at_ 0 rfl; have h1 := H1.at_ 1 rfl; have f2 := H1.frozen 0; have f3 := H1.frozen 1
                      have D10 := Lib.hid D10; have D11 := Lib.hid D11
                      clear G H H1 D hq hr hp
                      (refine wpAnyL_one (i := 9) (o := _) (by kernel_rfl) rfl (fun K hK => ?_); clear hHeld; simp only [List.getElem_toArray, List.getElem_cons_zero, List.getElem_cons_succ]; go_simp; refine hK.out _ _ ?_ (fun hHeld => ?_); focus (intro _; exact KQ.out _ D10.out)); have hHeld := hHeld (by decide); clear hK K; (try simp only [Act.put, List.setIfInBounds_toArray, List.set_cons_zero, List.set_cons_succ])
                      (refine wpAnyL_one (i := 10) (o := _) (by kernel_rfl) rfl (fun K hK => ?_); clear hHeld; simp only [List.getElem_toArray, List.getElem_cons_zero, List.getElem_cons_succ]; go_simp; refine hK.out _ _ ?_ (fun hHeld => ?_); focus (intro _; exact KQ.out _ D11.out)); have hHeld := hHeld (by decide); clear hK K; (try simp only [Act.put, List.setIfInBounds_toArray, List.set_cons_zero, List.set_cons_succ])
                      refine wpAnyL_done (by kernel_rfl) ?_ _
                      go_wp2
                      go_meet
                      exact X.out
                  · as_aux_lemma =>
                      (clear hHeld; simp only [List.getElem_toArray, List.getElem_cons_zero, List.getElem_cons_succ]; go_simp; refine hK.out _ _ ?_ (fun hHeld => ?_); focus (intro _; exact KQ.out _ (D.alloc D.size _))); have hHeld := hHeld (by decide); clear hK K; (try simp only [Act.put, List.setIfInBounds_toArray, List.set_cons_zero, List.set_cons_succ])
                      have H' := Blk.new w3 39 #[.bool false, .slice none 0 0]
                      have Hn : we.heap.size ≤ w3.heap.size := D.size
                      have hne : Gg ≠ w3.heap.size := Nat.ne_of_lt G.lt
                      have G := G.alloc (.cells #[.bool false, .slice none 0 0] 39)
                      have hp := (hp.alloc (.cells #[.bool false, .slice none 0 0] 39))
                      have D1 : Below we.heap.size we (w3.alloc (.cells #[.bool false, .slice none 0 0] 39)) := D.alloc D.size (.cells #[.bool false, .slice none 0 0] 39)
                      clear D
                      have D := D1
                      clear D1
                      obtain ⟨w9, hw9⟩ : ∃ w9, w3.alloc (.cells #[.bool false, .slice none 0 0] 39) = w9 := ⟨_, rfl⟩
                      obtain ⟨Hg, hHg⟩ : ∃ Hg, w3.heap.size = Hg := ⟨_, rfl⟩
                      rw [hw9] at H' D G hp hHeld ⊢
                      rw [hHg] at H' Hn hne ⊢
                      have H := H'
                      clear H' hw9 hHg
                      (refine wpAnyL_one (i := 3) (o := _) (by kernel_rfl) rfl (fun K hK => ?_); clear hHeld; simp only [List.getElem_toArray, List.getElem_cons_zero, List.getElem_cons_succ]; go_simp; (go_at_call 56; (with_reducible refine (DZ.out _ _ _ (VQ.out _ D) hp.v).mono ?_); rintro e w4 ⟨_, _, rfl, ⟨bq, Aq, nq, cq, rfl, hq⟩, ⟨br', Ar, nr, cr, rfl, hr⟩, hb⟩; have D := D.trans (hb.mono D.size); have G := G.below hb G.lt; have H := H.below hb H.lt); refine hK.out _ _ ?_ (fun hHeld => ?_); focus (intro _; exact KQ.out _ D)); have hHeld := hHeld (by decide); clear hK K; (try simp only [Act.put, List.setIfInBounds_toArray, List.set_cons_zero, List.set_cons_succ])
                      (refine wpAnyL_take (i := 4) (oi := _) (v := ?_) rfl (by kernel_rfl) (by kernel_rfl) (by kernel_rfl) (fun _ _ _ h => h) (Or.inl ⟨by first | rfl | kernel_rfl, ?hy21⟩) (by assumption) ?rs21; (case hy21 => (intro w hSw; (try dsimp only at hSw); go_simp; first | done | with_reducible rfl)); case' rs21 => (simp only [List.getElem_toArray, List.getElem_cons_zero, List.getElem_cons_succ, Act.put, List.setIfInBounds_toArray, List.set_cons_zero, List.set_cons_succ])); (refine wpAnyL_take (i := 5) (oi := _) (v := ?_) rfl (by kernel_rfl) (by kernel_rfl) (by kernel_rfl) (fun _ _ _ h => h) (Or.inl ⟨by first | rfl | kernel_rfl, ?hy22⟩) (by assumption) ?rs22; (case hy22 => (intro w hSw; (try dsimp only at hSw); go_simp; first | done | with_reducible rfl)); case' rs22 => (simp only [List.getElem_toArray, List.getElem_cons_zero, List.getElem_cons_succ, Act.put, List.setIfInBounds_toArray, List.set_cons_zero, List.set_cons_succ])); (refine wpAnyL_take (i := 6) (oi := _) (v := ?_) rfl (by kernel_rfl) (by kernel_rfl) (by kernel_rfl) (fun _ _ _ h => h) (Or.inl ⟨by first | rfl | kernel_rfl, ?hy23⟩) (by assumption) ?rs23; (case hy23 => (intro w hSw; (try dsimp only at hSw); go_simp; first | done | with_reducible rfl)); case' rs23 => (simp only [List.getElem_toArray, List.getElem_cons_zero, List.getElem_cons_succ, Act.put, List.setIfInBounds_toArray, List.set_cons_zero, List.set_cons_succ])); skip
                      have X := Lib.hid (qd_set D Gn Hn hne G H hq hr)
                      have D10 := below_set2 D Gn (.bool bq) (.slice Aq nq cq)
                      have D11 := below_set2 D10 Hn (.bool br') (.slice Ar nr cr)
                      have H1 := H.far2 (hne).symm (.bool bq) (.slice Aq nq cq)
                      have g0 := G.at_ 0 rfl; have g1 := G.at_ 1 rfl; have f0 := G.frozen 0; have f1 := G.frozen 1; have h0 := H1.at_ 0 rfl; have h1 := H1.at_ 1 rfl; have f2 := H1.frozen 0; have f3 := H1.frozen 1
                      have D10 := Lib.hid D10; have D11 := Lib.hid D11
                      clear G H H1 D hq hr hp
                      (refine wpAnyL_one (i := 9) (o := _) (by kernel_rfl) rfl (fun K hK => ?_); clear hHeld; simp only [List.getElem_toArray, List.getElem_cons_zero, List.getElem_cons_succ]; go_simp; refine hK.out _ _ ?_ (fun hHeld => ?_); focus (intro _; exact KQ.out _ D10.out)); have hHeld := hHeld (by decide); clear hK K; (try simp only [Act.put, List.setIfInBounds_toArray, List.set_cons_zero, List.set_cons_succ])
                      (refine wpAnyL_one (i := 10) (o := _) (by kernel_rfl) rfl (fun K hK => ?_); clear hHeld; simp only [List.getElem_toArray, List.getElem_cons_zero, List.getElem_cons_succ]; go_simp; refine hK.out _ _ ?_ (fun hHeld => ?_); focus (intro _; exact KQ.out _ D11.out)); have hHeld := hHeld (by decide); clear hK K; (try simp only [Act.put, List.setIfInBounds_toArray, List.set_cons_zero, List.set_cons_succ])
                      refine wpAnyL_done (by kernel_rfl) ?_ _
                      go_wp2
                      go_meet
                      exact X.out
              · as_aux_lemma =>
                  (clear hHeld; simp only [List.getElem_toArray, List.getElem_cons_zero, List.getElem_cons_succ]; go_simp; refine hK.out _ _ ?_ (fun hHeld => ?_); focus (intro _; exact KQ.out _ (D.alloc D.size _))); have hHeld := hHeld (by decide); clear hK K; (try simp only [Act.put, List.setIfInBounds_toArray, List.set_cons_zero, List.set_cons_succ])
                  have H' := Blk.new w8 39 #[.bool false, .slice none 0 0]
                  have Hn : we.heap.size ≤ w8.heap.size := D.size
                  have hne : Gg ≠ w8.heap.size := Nat.ne_of_lt G.lt
                  have G := G.alloc (.cells #[.bool false, .slice none 0 0] 39)
                  have D1 : Below we.heap.size we (w8.alloc (.cells #[.bool false, .slice none 0 0] 39)) := D.alloc D.size (.cells #[.bool false, .slice none 0 0] 39)
                  clear D
                  have D := D1
                  clear D1
                  obtain ⟨w9, hw9⟩ : ∃ w9, w8.alloc (.cells #[.bool false, .slice none 0 0] 39) = w9 := ⟨_, rfl⟩
                  obtain ⟨Hg, hHg⟩ : ∃ Hg, w8.heap.size = Hg := ⟨_, rfl⟩
                  rw [hw9] at H' D G hHeld ⊢
                  rw [hHg] at H' Hn hne ⊢
                  have H := H'
                  clear H' hw9 hHg
                  (refine wpAnyL_one (i := 2) (o := _) (by kernel_rfl) rfl (fun K hK => ?_); clear hHeld; simp only [List.getElem_toArray, List.getElem_cons_zero, List.getElem_cons_succ]; go_simp; (go_at_call 36; (with_reducible refine (HP.out _).mono ?_); rintro e w3 ⟨_, rfl, ⟨b1, A1, n1, c1, rfl, hp0⟩, hb⟩; have hp := hp0.zl; have D := D.trans (hb.mono D.size); have G := G.below hb G.lt; have H := H.below hb H.lt); refine hK.out _ _ ?_ (fun hHeld => ?_); focus (intro _; exact KQ.out _ D)); have hHeld := hHeld (by decide); clear hK K; (try simp only [Act.put, List.setIfInBounds_toArray, List.set_cons_zero, List.set_cons_succ])
                  (refine wpAnyL_one (i := 3) (o := _) (by kernel_rfl) rfl (fun K hK => ?_); clear hHeld; simp only [List.getElem_toArray, List.getElem_cons_zero, List.getElem_cons_succ]; go_simp; (go_at_call 56; (with_reducible refine (DZ.out _ _ _ (VQ.out _ D) hp.v).mono ?_); rintro e w4 ⟨_, _, rfl, ⟨bq, Aq, nq, cq, rfl, hq⟩, ⟨br', Ar, nr, cr, rfl, hr⟩, hb⟩; have D := D.trans (hb.mono D.size); have G := G.below hb G.lt; have H := H.below hb H.lt); refine hK.out _ _ ?_ (fun hHeld => ?_); focus (intro _; exact KQ.out _ D)); have hHeld := hHeld (by decide); clear hK K; (try simp only [Act.put, List.setIfInBounds_toArray, List.set_cons_zero, List.set_cons_succ])
                  (refine wpAnyL_take (i := 4) (oi := _) (v := ?_) rfl (by kernel_rfl) (by kernel_rfl) (by kernel_rfl) (fun _ _ _ h => h) (Or.inl ⟨by first | rfl | kernel_rfl, ?hy24⟩) (by assumption) ?rs24; (case hy24 => (intro w hSw; (try dsimp only at hSw); go_simp; first | done | with_reducible rfl)); case' rs24 => (simp only [List.getElem_toArray, List.getElem_cons_zero, List.getElem_cons_succ, Act.put, List.setIfInBounds_toArray, List.set_cons_zero, List.set_cons_succ])); (refine wpAnyL_take (i := 5) (oi := _) (v := ?_) rfl (by kernel_rfl) (by kernel_rfl) (by kernel_rfl) (fun _ _ _ h => h) (Or.inl ⟨by first | rfl | kernel_rfl, ?hy25⟩) (by assumption) ?rs25; (case hy25 => (intro w hSw; (try dsimp only at hSw); go_simp; first | done | with_reducible rfl)); case' rs25 => (simp only [List.getElem_toArray, List.getElem_cons_zero, List.getElem_cons_succ, Act.put, List.setIfInBounds_toArray, List.set_cons_zero, List.set_cons_succ])); (refine wpAnyL_take (i := 6) (oi := _) (v := ?_) rfl (by kernel_rfl) (by kernel_rfl) (by kernel_rfl) (fun _ _ _ h => h) (Or.inl ⟨by first | rfl | kernel_rfl, ?hy26⟩) (by assumption) ?rs26; (case hy26 => (intro w hSw; (try dsimp only at hSw); go_simp; first | done | with_reducible rfl)); case' rs26 => (simp only [List.getElem_toArray, List.getElem_cons_zero, List.getElem_cons_succ, Act.put, List.setIfInBounds_toArray, List.set_cons_zero, List.set_cons_succ])); skip
                  have X := Lib.hid (qd_set D Gn Hn hne G H hq hr)
                  have D10 := below_set2 D Gn (.bool bq) (.slice Aq nq cq)
                  have D11 := below_set2 D10 Hn (.bool br') (.slice Ar nr cr)
                  have H1 := H.far2 (hne).symm (.bool bq) (.slice Aq nq cq)
                  have g0 := G.at_ 0 rfl; have g1 := G.at_ 1 rfl; have f0 := G.frozen 0; have f1 := G.frozen 1; have h0 := H1.at_ 0 rfl; have h1 := H1.at_ 1 rfl; have f2 := H1.frozen 0; have f3 := H1.frozen 1
                  have D10 := Lib.hid D10; have D11 := Lib.hid D11
                  clear G H H1 D hq hr hp
                  (refine wpAnyL_one (i := 9) (o := _) (by kernel_rfl) rfl (fun K hK => ?_); clear hHeld; simp only [List.getElem_toArray, List.getElem_cons_zero, List.getElem_cons_succ]; go_simp; refine hK.out _ _ ?_ (fun hHeld => ?_); focus (intro _; exact KQ.out _ D10.out)); have hHeld := hHeld (by decide); clear hK K; (try simp only [Act.put, List.setIfInBounds_toArray, List.set_cons_zero, List.set_cons_succ])
                  (refine wpAnyL_one (i := 10) (o := _) (by kernel_rfl) rfl (fun K hK => ?_); clear hHeld; simp only [List.getElem_toArray, List.getElem_cons_zero, List.getElem_cons_succ]; go_simp; refine hK.out _ _ ?_ (fun hHeld => ?_); focus (intro _; exact KQ.out _ D11.out)); have hHeld := hHeld (by decide); clear hK K; (try simp only [Act.put, List.setIfInBounds_toArray, List.set_cons_zero, List.set_cons_succ])
                  refine wpAnyL_done (by kernel_rfl) ?_ _
                  go_wp2
                  go_meet
                  exact X.out
          · as_aux_lemma =>
              (clear hHeld; simp only [List.getElem_toArray, List.getElem_cons_zero, List.getElem_cons_succ]; go_simp; refine hK.out _ _ ?_ (fun hHeld => ?_); focus (intro _; exact KQ.out _ (D.alloc D.size _))); have hHeld := hHeld (by decide); clear hK K; (try simp only [Act.put, List.setIfInBounds_toArray, List.set_cons_zero, List.set_cons_succ])
              have H' := Blk.drew (Blk.new wr 39 #[.bool false, .slice none 0 0])
              have Hn : we.heap.size ≤ wr.heap.size := D.size
              have D1 : Below we.heap.size we ((wr.alloc (.cells #[.bool false, .slice none 0 0] 39)).drew) := (D.alloc D.size (.cells #[.bool false, .slice none 0 0] 39))
              clear D
              have D := D1
              clear D1
              obtain ⟨w9, hw9⟩ : ∃ w9, (wr.alloc (.cells #[.bool false, .slice none 0 0] 39)).drew = w9 := ⟨_, rfl⟩
              obtain ⟨Hg, hHg⟩ : ∃ Hg, wr.heap.size = Hg := ⟨_, rfl⟩
              rw [hw9] at H' D hHeld ⊢
              rw [hHg] at H' Hn ⊢
              have H := H'
              clear H' hw9 hHg
              refine wpAnyL_two (i := 2) (j := 7) (oi := _) (oj := _) (by kernel_rfl) rfl rfl (fun K hK => ?_) (fun K hK => ?_)
              · as_aux_lemma =>
                  (clear hHeld; simp only [List.getElem_toArray, List.getElem_cons_zero, List.getElem_cons_succ]; go_simp; (go_at_call 36; (with_reducible refine (HP.out _).mono ?_); rintro e w3 ⟨_, rfl, ⟨b1, A1, n1, c1, rfl, hp0⟩, hb⟩; have hp := hp0.zl; have D := D.trans (hb.mono D.size); have H := H.below hb H.lt); refine hK.out _ _ ?_ (fun hHeld => ?_); focus (intro _; exact KQ.out _ D)); have hHeld := hHeld (by decide); clear hK K; (try simp only [Act.put, List.setIfInBounds_toArray, List.set_cons_zero, List.set_cons_succ])
                  refine wpAnyL_two (i := 3) (j := 7) (oi := _) (oj := _) (by kernel_rfl) rfl rfl (fun K hK => ?_) (fun K hK => ?_)
                  · as_aux_lemma =>
                      (clear hHeld; simp only [List.getElem_toArray, List.getElem_cons_zero, List.getElem_cons_succ]; go_simp; (go_at_call 56; (with_reducible refine (DZ.out _ _ _ (VQ.out _ D) hp.v).mono ?_); rintro e w4 ⟨_, _, rfl, ⟨bq, Aq, nq, cq, rfl, hq⟩, ⟨br', Ar, nr, cr, rfl, hr⟩, hb⟩; have D := D.trans (hb.mono D.size); have H := H.below hb H.lt); refine hK.out _ _ ?_ (fun hHeld => ?_); focus (intro _; exact KQ.out _ D)); have hHeld := hHeld (by decide); clear hK K; (try simp only [Act.put, List.setIfInBounds_toArray, List.set_cons_zero, List.set_cons_succ])
                      (refine wpAnyL_take (i := 4) (oi := _) (v := ?_) rfl (by kernel_rfl) (by kernel_rfl) (by kernel_rfl) (fun _ _ _ h => h) (Or.inl ⟨by first | rfl | kernel_rfl, ?hy27⟩) (by assumption) ?rs27; (case hy27 => (intro w hSw; (try dsimp only at hSw); go_simp; first | done | with_reducible rfl)); case' rs27 => (simp only [List.getElem_toArray, List.getElem_cons_zero, List.getElem_cons_succ, Act.put, List.setIfInBounds_toArray, List.set_cons_zero, List.set_cons_succ])); (refine wpAnyL_take (i := 5) (oi := _) (v := ?_) rfl (by kernel_rfl) (by kernel_rfl) (by kernel_rfl) (fun _ _ _ h => h) (Or.inl ⟨by first | rfl | kernel_rfl, ?hy28⟩) (by assumption) ?rs28; (case hy28 => (intro w hSw; (try dsimp only at hSw); go_simp; first | done | with_reducible rfl)); case' rs28 => (simp only [List.getElem_toArray, List.getElem_cons_zero, List.getElem_cons_succ, Act.put, List.setIfInBounds_toArray, List.set_cons_zero, List.set_cons_succ])); (refine wpAnyL_take (i := 6) (oi := _) (v := ?_) rfl (by kernel_rfl) (by kernel_rfl) (by kernel_rfl) (fun _ _ _ h => h) (Or.inl ⟨by first | rfl | kernel_rfl, ?hy29⟩) (by assumption) ?rs29; (case hy29 => (intro w hSw; (try dsimp only at hSw); go_simp; first | done | with_reducible rfl)); case' rs29 => (simp only [List.getElem_toArray, List.getElem_cons_zero, List.getElem_cons_succ, Act.put, List.setIfInBounds_toArray, List.set_cons_zero, List.set_cons_succ])); skip
                      (refine wpAnyL_one (i := 7) (o := _) (by kernel_rfl) rfl (fun K hK => ?_); clear hHeld; simp only [List.getElem_toArray, List.getElem_cons_zero, List.getElem_cons_succ]; go_simp; refine hK.out _ _ ?_ (fun hHeld => ?_); focus (intro _; exact KQ.out _ (D.alloc D.size _))); have hHeld := hHeld (by decide); clear hK K; (try simp only [Act.put, List.setIfInBounds_toArray, List.set_cons_zero, List.set_cons_succ])
                      have G' := Blk.new w4 39 #[.bool false, .slice none 0 0]
                      have Gn : we.heap.size ≤ w4.heap.size := D.size
                      have hne : Hg ≠ w4.heap.size := Nat.ne_of_lt H.lt
                      have H := H.alloc (.cells #[.bool false, .slice none 0 0] 39)
                      have hq := (hq.alloc (.cells #[.bool false, .slice none 0 0] 39))
                      have hr := (hr.alloc (.cells #[.bool false, .slice none 0 0] 39))
                      have D1 : Below we.heap.size we (w4.alloc (.cells #[.bool false, .slice none 0 0] 39)) := D.alloc D.size (.cells #[.bool false, .slice none 0 0] 39)
                      clear D
                      have D := D1
                      clear D1
                      obtain ⟨w8, hw8⟩ : ∃ w8, w4.alloc (.cells #[.bool false, .slice none 0 0] 39) = w8 := ⟨_, rfl⟩
                      obtain ⟨Gg, hGg⟩ : ∃ Gg, w4.heap.size = Gg := ⟨_, rfl⟩
                      rw [hw8] at G' D H hq hr hHeld ⊢
                      rw [hGg] at G' Gn hne ⊢
                      have G := G'
                      clear G' hw8 hGg
                      have X := Lib.hid (qd_set D Gn Hn hne.symm G H hq hr)
                      have D10 := below_set2 D Gn (.bool bq) (.slice Aq nq cq)
                      have D11 := below_set2 D10 Hn (.bool br') (.slice Ar nr cr)
                      have H1 := H.far2 (hne.symm).symm (.bool bq) (.slice Aq nq cq)
                      have g0 := G.at_ 0 rfl; have g1 := G.at_ 1 rfl; have f0 := G.frozen 0; have f1 := G.frozen 1; have h0 := H1.at_ 0 rfl; have h1 := H1.at_ 1 rfl; have f2 := H1.frozen 0; have f3 := H1.frozen 1
                      have D10 := Lib.hid D10; have D11 := Lib.hid D11
                      clear G H H1 D hq hr hp
                      (refine wpAnyL_one (i := 9) (o := _) (by kernel_rfl) rfl (fun K hK => ?_); clear hHeld; simp only [List.getElem_toArray, List.getElem_cons_zero, List.getElem_cons_succ]; go_simp; refine hK.out _ _ ?_ (fun hHeld => ?_); focus (intro _; exact KQ.out _ D10.out)); have hHeld := hHeld (by decide); clear hK K; (try simp only [Act.put, List.setIfInBounds_toArray, List.set_cons_zero, List.set_cons_succ])
                      (refine wpAnyL_one (i := 10) (o := _) (by kernel_rfl) rfl (fun K hK => ?_); clear hHeld; simp only [List.getElem_toArray, List.getElem_cons_zero, List.getElem_cons_succ]; go_simp; refine hK.out _ _ ?_ (fun hHeld => ?_); focus (intro _; exact KQ.out _ D11.out)); have hHeld := hHeld (by decide); clear hK K; (try simp only [Act.put, List.setIfInBounds_toArray, List.set_cons_zero, List.set_cons_succ])
                      refine wpAnyL_done (by kernel_rfl) ?_ _
                      go_wp2
                      go_meet
                      exact X.out
                  · as_aux_lemma =>
                      (clear hHeld; simp only [List.getElem_toArray, List.getElem_cons_zero, List.getElem_cons_succ]; go_simp; refine hK.out _ _ ?_ (fun hHeld => ?_); focus (intro _; exact KQ.out _ (D.alloc D.size _))); have hHeld := hHeld (by decide); clear hK K; (try simp only [Act.put, List.setIfInBounds_toArray, List.set_cons_zero, List.set_cons_succ])
                      have G' := Blk.new w3 39 #[.bool false, .slice none 0 0]
                      have Gn : we.heap.size ≤ w3.heap.size := D.size
                      have hne : Hg ≠ w3.heap.size := Nat.ne_of_lt H.lt
                      have H := H.alloc (.cells #[.bool false, .slice none 0 0] 39)
                      have hp := (hp.alloc (.cells #[.bool false, .slice none 0 0] 39))
                      have D1 : Below we.heap.size we (w3.alloc (.cells #[.bool false, .slice none 0 0] 39)) := D.alloc D.size (.cells #[.bool false, .slice none 0 0] 39)
                      clear D
                      have D := D1
                      clear D1
                      obtain ⟨w8, hw8⟩ : ∃ w8, w3.alloc (.cells #[.bool false, .slice none 0 0] 39) = w8 := ⟨_, rfl⟩
                      obtain ⟨Gg, hGg⟩ : ∃ Gg, w3.heap.size = Gg := ⟨_, rfl⟩
                      rw [hw8] at G' D H hp hHeld ⊢
                      rw [hGg] at G' Gn hne ⊢
                      have G := G'
                      clear G' hw8 hGg
                      (refine wpAnyL_one (i := 3) (o := _) (by kernel_rfl) rfl (fun K hK => ?_); clear hHeld; simp only [List.getElem_toArray, List.getElem_cons_zero, List.getElem_cons_succ]; go_simp; (go_at_call 56; (with_reducible refine (DZ.out _ _ _ (VQ.out _ D) hp.v).mono ?_); rintro e w4 ⟨_, _, rfl, ⟨bq, Aq, nq, cq, rfl, hq⟩, ⟨br', Ar, nr, cr, rfl, hr⟩, hb⟩; have D := D.trans (hb.mono D.size); have G := G.below hb G.lt; have H := H.below hb H.lt); refine hK.out _ _ ?_ (fun hHeld => ?_); focus (intro _; exact KQ.out _ D)); have hHeld := hHeld (by decide); clear hK K; (try simp only [Act.put, List.setIfInBounds_toArray, List.set_cons_zero, List.set_cons_succ])
                      (refine wpAnyL_take (i := 4) (oi := _) (v := ?_) rfl (by kernel_rfl) (by kernel_rfl) (by kernel_rfl) (fun _ _ _ h => h) (Or.inl ⟨by first | rfl | kernel_rfl, ?hy30⟩) (by assumption) ?rs30; (case hy30 => (intro w hSw; (try dsimp only at hSw); go_simp; first | done | with_reducible rfl)); case' rs30 => (simp only [List.getElem_toArray, List.getElem_cons_zero, List.getElem_cons_succ, Act.put, List.setIfInBounds_toArray, List.set_cons_zero, List.set_cons_succ])); (refine wpAnyL_take (i := 5) (oi := _) (v := ?_) rfl (by kernel_rfl) (by kernel_rfl) (by kernel_rfl) (fun _ _ _ h => h) (Or.inl ⟨by first | rfl | kernel_rfl, ?hy31⟩) (by assumption) ?rs31; (case hy31 => (intro w hSw; (try dsimp only at hSw); go_simp; first | done | with_reducible rfl)); case' rs31 => (simp only [List.getElem_toArray, List.getElem_cons_zero, List.getElem_cons_succ, Act.put, List.setIfInBounds_toArray, List.set_cons_zero, List.set_cons_succ])); (refine wpAnyL_take (i := 6) (oi := _) (v := ?_) rfl (by kernel_rfl) (by kernel_rfl) (by kernel_rfl) (fun _ _ _ h => h) (Or.inl ⟨by first | rfl | kernel_rfl, ?hy32⟩) (by assumption) ?rs32; (case hy32 => (intro w hSw; (try dsimp only at hSw); go_simp; first | done | with_reducible rfl)); case' rs32 => (simp only [List.getElem_toArray, List.getElem_cons_zero, List.getElem_cons_succ, Act.put, List.setIfInBounds_toArray, List.set_cons_zero, List.set_cons_succ])); skip
                      have X := Lib.hid (qd_set D Gn Hn hne.symm G H hq hr)
                      have D10 := below_set2 D Gn (.bool bq) (.slice Aq nq cq)
                      have D11 := below_set2 D10 Hn (.bool br') (.slice Ar nr cr)
                      have H1 := H.far2 (hne.symm).symm (.bool bq) (.slice Aq nq cq)
                      have g0 := G.at_ 0 rfl; have g1 := G.at_ 1 rfl; have f0 := G.frozen 0; have f1 := G.frozen 1; have h0 := H1.at_ 0 rfl; have h1 := H1.at_ 1 rfl; have f2 := H1.frozen 0; have f3 := H1.frozen 1
                      have D10 := Lib.hid D10; have D11 := Lib.hid D11
                      clear G H H1 D hq hr hp
                      (refine wpAnyL_one (i := 9) (o := _) (by kernel_rfl) rfl (fun K hK => ?_); clear hHeld; simp only [List.getElem_toArray, List.getElem_cons_zero, List.getElem_cons_succ]; go_simp; refine hK.out _ _ ?_ (fun hHeld => ?_); focus (intro _; exact KQ.out _ D10.out)); have hHeld := hHeld (by decide); clear hK K; (try simp only [Act.put, List.setIfInBounds_toArray, List.set_cons_zero, List.set_cons_succ])
                      (refine wpAnyL_one (i := 10) (o := _) (by kernel_rfl) rfl (fun K hK => ?_); clear hHeld; simp only [List.getElem_toArray, List.getElem_cons_zero, List.getElem_cons_succ]; go_simp; refine hK.out _ _ ?_ (fun hHeld => ?_); focus (intro _; exact KQ.out _ D11.out)); have hHeld := hHeld (by decide); clear hK K; (try simp only [Act.put, List.setIfInBounds_toArray, List.set_cons_zero, List.set_cons_succ])
                      refine wpAnyL_done (by kernel_rfl) ?_ _
                      go_wp2
                      go_meet
                      exact X.out
              · as_aux_lemma =>
                  (clear hHeld; simp only [List.getElem_toArray, List.getElem_cons_zero, List.getElem_cons_succ]; go_simp; refine hK.out _ _ ?_ (fun hHeld => ?_); focus (intro _; exact KQ.out _ (D.alloc D.size _))); have hHeld := hHeld (by decide); clear hK K; (try simp only [Act.put, List.setIfInBounds_toArray, List.set_cons_zero, List.set_cons_succ])
                  have G' := Blk.new w9 39 #[.bool false, .slice none 0 0]
                  have Gn : we.heap.size ≤ w9.heap.size := D.size
                  have hne : Hg ≠ w9.heap.size := Nat.ne_of_lt H.lt
                  have H := H.alloc (.cells #[.bool false, .slice none 0 0] 39)
                  have D1 : Below we.heap.size we (w9.alloc (.cells #[.bool false, .slice none 0 0] 39)) := D.alloc D.size (.cells #[.bool false, .slice none 0 0] 39)
                  clear D
                  have D := D1
                  clear D1
                  obtain ⟨w8, hw8⟩ : ∃ w8, w9.alloc (.cells #[.bool false, .slice none 0 0] 39) = w8 := ⟨_, rfl⟩
                  obtain ⟨Gg, hGg⟩ : ∃ Gg, w9.heap.size = Gg := ⟨_, rfl⟩
                  rw [hw8] at G' D H hHeld ⊢
                  rw [hGg] at G' Gn hne ⊢
                  have G := G'
                  clear G' hw8 hGg
                  (refine wpAnyL_one (i := 2) (o := _) (by kernel_rfl) rfl (fun K hK => ?_); clear hHeld; simp only [List.getElem_toArray, List.getElem_cons_zero, List.getElem_cons_succ]; go_simp; (go_at_call 36; (with_reducible refine (HP.out _).mono ?_); rintro e w3 ⟨_, rfl, ⟨b1, A1, n1, c1, rfl, hp0⟩, hb⟩; have hp := hp0.zl; have D := D.trans (hb.mono D.size); have G := G.below hb G.lt; have H := H.below hb H.lt); refine hK.out _ _ ?_ (fun hHeld => ?_); focus (intro _; exact KQ.out _ D)); have hHeld := hHeld (by decide); clear hK K; (try simp only [Act.put, List.setIfInBounds_toArray, List.set_cons_zero, List.set_cons_succ])
                  (refine wpAnyL_one (i := 3) (o := _) (by kernel_rfl) rfl (fun K hK => ?_); clear hHeld; simp only [List.getElem_toArray, List.getElem_cons_zero, List.getElem_cons_succ]; go_simp; (go_at_call 56; (with_reducible refine (DZ.out _ _ _ (VQ.out _ D) hp.v).mono ?_); rintro e w4 ⟨_, _, rfl, ⟨bq, Aq, nq, cq, rfl, hq⟩, ⟨br', Ar, nr, cr, rfl, hr⟩, hb⟩; have D := D.trans (hb.mono D.size); have G := G.below hb G.lt; have H := H.below hb H.lt); refine hK.out _ _ ?_ (fun hHeld => ?_); focus (intro _; exact KQ.out _ D)); have hHeld := hHeld (by decide); clear hK K; (try simp only [Act.put, List.setIfInBounds_toArray, List.set_cons_zero, List.set_cons_succ])
                  (refine wpAnyL_take (i := 4) (oi := _) (v := ?_) rfl (by kernel_rfl) (by kernel_rfl) (by kernel_rfl) (fun _ _ _ h => h) (Or.inl ⟨by first | rfl | kernel_rfl, ?hy33⟩) (by assumption) ?rs33; (case hy33 => (intro w hSw; (try dsimp only at hSw); go_simp; first | done | with_reducible rfl)); case' rs33 => (simp only [List.getElem_toArray, List.getElem_cons_zero, List.getElem_cons_succ, Act.put, List.setIfInBounds_toArray, List.set_cons_zero, List.set_cons_succ])); (refine wpAnyL_take (i := 5) (oi := _) (v := ?_) rfl (by kernel_rfl) (by kernel_rfl) (by kernel_rfl) (fun _ _ _ h => h) (Or.inl ⟨by first | rfl | kernel_rfl, ?hy34⟩) (by assumption) ?rs34; (case hy34 => (intro w hSw; (try dsimp only at hSw); go_simp; first | done | with_reducible rfl)); case' rs34 => (simp only [List.getElem_toArray, List.getElem_cons_zero, List.getElem_cons_succ, Act.put, List.setIfInBounds_toArray, List.set_cons_zero, List.set_cons_succ])); (refine wpAnyL_take (i := 6) (oi := _) (v := ?_) rfl (by kernel_rfl) (by kernel_rfl) (by kernel_rfl) (fun _ _ _ h => h) (Or.inl ⟨by first | rfl | kernel_rfl, ?hy35⟩) (by assumption) ?rs35; (case hy35 => (intro w hSw; (try dsimp only at hSw); go_simp; first | done | with_reducible rfl)); case' rs35 => (simp only [List.getElem_toArray, List.getElem_cons_zero, List.getElem_cons_succ, Act.put, List.setIfInBounds_toArray, List.set_cons_zero, List.set_cons_succ])); skip
                  have X := Lib.hid (qd_set D Gn Hn hne.symm G H hq hr)
                  have D10 := below_set2 D Gn (.bool bq) (.slice Aq nq cq)
                  have D11 := below_set2 D10 Hn (.bool br') (.slice Ar nr cr)
                  have H1 := H.far2 (hne.symm).symm (.bool bq) (.slice Aq nq cq)
                  have g0 := G.at_ 0 rfl; have g1 := G.at_ 1 rfl; have f0 := G.frozen 0; have f1 := G.frozen 1; have h0 := H1.at_ 0 rfl; have h1 := H1.at_ 1 rfl; have f2 := H1.frozen 0; have f3 := H1.frozen 1
                  have D10 := Lib.hid D10; have D11 := Lib.hid D11
                  clear G H H1 D hq hr hp
                  (refine wpAnyL_one (i := 9) (o := _) (by kernel_rfl) rfl (fun K hK => ?_); clear hHeld; simp only [List.getElem_toArray, List.getElem_cons_zero, List.getElem_cons_succ]; go_simp; refine hK.out _ _ ?_ (fun hHeld => ?_); focus (intro _; exact KQ.out _ D10.out)); have hHeld := hHeld (by decide); clear hK K; (try simp only [Act.put, List.setIfInBounds_toArray, List.set_cons_zero, List.set_cons_succ])
                  (refine wpAnyL_one (i := 10) (o := _) (by kernel_rfl) rfl (fun K hK => ?_); clear hHeld; simp only [List.getElem_toArray, List.getElem_cons_zero, List.getElem_cons_succ]; go_simp; refine hK.out _ _ ?_ (fun hHeld => ?_); focus (intro _; exact KQ.out _ D11.out)); have hHeld := hHeld (by decide); clear hK K; (try simp only [Act.put, List.setIfInBounds_toArray, List.set_cons_zero, List.set_cons_succ])
                  refine wpAnyL_done (by kernel_rfl) ?_ _
                  go_wp2
                  go_meet
                  exact X.out
        case rest =>
          obtain ⟨g, h, bq, Aq, nq, cq, br, Ar, nr, cr, rfl, rfl, hg, hh, hne, G, H, hq, hr, DC⟩ := hcut
          obtain rfl := HWE.out
          have X0 := hB.out.below DC hB.out.lt
          have X1 := hC.out.below DC hC.out.lt
          have DD := hD.out.trans (DC.mono (hg0 ▸ hD.out.size))
          have lB := hB.out.lt
          have h0 := H.at_ 0 rfl; have h1 := H.at_ 1 rfl; have q0 := G.at_ 0 rfl; have q1 := G.at_ 1 rfl
          have x0 := X0.at_ 0 rfl; have x1 := X0.at_ 1 rfl; have f0 := X0.frozen 0; have f1 := X0.frozen 1
          have ln : nr ≤ 1000000 := hr.len (HRB.out y)
          rcases Nat.eq_zero_or_pos nr with rfl | hr0
          · have hst := (hr.zero).1 rfl
            rw [← HPE.out] at hst
            have T2 := Lib.hid (hT.out.step hst)
            rw [HPE.out] at T2
            have hNM2 := T2.out.lt HM.out
            have i1 : IntKind.i64.wrap ((N : Int) + (K : Int)) = ((N + K : Nat) : Int) := by rw [IntWalk.i64_in _ (by omega)]; omega
            have R : Blk ((wc.setCell ⟨g0, 0, none⟩ (.bool bq)).setCell ⟨g0, 1, none⟩ (.slice Aq nq cq)) g0 39 #[.bool bq, .slice Aq nq cq] ∧ Blk ((wc.setCell ⟨g0, 0, none⟩ (.bool bq)).setCell ⟨g0, 1, none⟩ (.slice Aq nq cq)) (g0 + 1) 39 #[.bool false, .slice none 0 0] ∧ ZL ((wc.setCell ⟨g0, 0, none⟩ (.bool bq)).setCell ⟨g0, 1, none⟩ (.slice Aq nq cq)) bq Aq nq cq (y / P) ∧ Below g0 w ((wc.setCell ⟨g0, 0, none⟩ (.bool bq)).setCell ⟨g0, 1, none⟩ (.slice Aq nq cq)) :=
              ⟨X0.set2 _ _, X1.far2 (by omega) _ _, ZC.ZL.box hq x0 x1 _ _, below_set2 DD (Nat.le_refl _) _ _⟩
            have R := Lib.hid R
            have hms : M - (N + K) < M - N := by omega
            have hms := Lib.hid hms
            clear hst D DC DD hT hB hC hV hD hq hr G X0 X1 hNM hNM2 ln
            go_wp2
            go_region
            go_roundw
            case rel => exact ⟨.int .i64 ((N : Int) + (K : Int)), _, _, _, _, _, _, _, _, _, _, _, _, _, _, _, _, _, ⟨N + K, y / P, bq, Aq, nq, cq, by go_num, T2, R.out.1, R.out.2.1, R.out.2.2.1, R.out.2.2.2.drew⟩, rfl⟩
            case measure => show M - ((N : Int) + (K : Int)).toNat < M - ((N : Int)).toNat; have := hms.out; omega
          · have hr1 : (0 : Int) < nr := by omega
            have HR := Lib.hid ((hr.zero).2 hr0)
            have i2 := HQ2.out
            have hms : K / 2 < K := by omega
            have hms := Lib.hid hms
            have X0' := Lib.hid X0
            have X1' := Lib.hid X1
            have DD' := Lib.hid DD
            have V' := Lib.hid ((hV.out.below DC))
            clear D DC DD hB hC hV hD hq hr G X0 X1 hNM hr0
            go_wp2
            go_roundw
            case rel => exact ⟨N, K / 2, y, b, A, n, c, rfl, by go_num, by omega, hT, (fun hk0 => by
              obtain rfl : K = 1 := by omega
              have e := HPE.out
              rw [show (2 : Int) ^ 1 = 2 by decide] at e
              rw [e]; exact HR.out), X0', X1', V', DD'⟩
            case measure => show (((K / 2 : Nat) : Int)).toNat < ((K : Int)).toNat; have := hms.out; omega
    · obtain rfl : K = 0 := by omega
      have lB := hB.out.lt
      have x0 := hB.out.at_ 0 rfl; have x1 := hB.out.at_ 1 rfl
      have e0 := hC.out.at_ 0 rfl; have e1 := hC.out.at_ 1 rfl; have f0 := hC.out.frozen 0; have f1 := hC.out.frozen 1
      have R : Hid (ZL ((wr.setCell ⟨g0 + 1, 0, none⟩ (.bool b1')).setCell ⟨g0 + 1, 1, none⟩ (.slice A1' n1' c1')) b1' A1' n1' c1' y1 ∧ Below g0 w ((wr.setCell ⟨g0 + 1, 0, none⟩ (.bool b1')).setCell ⟨g0 + 1, 1, none⟩ (.slice A1' n1' c1'))) :=
        ⟨ZC.ZL.box hV.out e0 e1 _ _, below_set2 hD.out (by omega) _ _⟩
      have hT1 := Lib.hid (hT.out.lt HM.out)
      have hO1 := Lib.hid (hO.out rfl)
      clear hO
      subst hg0
      go_wp2
      go_region
      go_wp2
      refine bodyPost_ret (v := .tuple #[.int .i64 N1, .agg #[.bool b1', .slice A1' n1' c1']]) (by simp [results, Tryz.results26, go_sem, e0, e1]) rfl ?_
      exact ⟨N1, y1, b1', A1', n1', c1', rfl, R.out.1, hT.out, hT1.out, hO1.out, R.out.2.drew⟩
end QC
end Go.Proofs.YtelblhgagpkjmaaGreatDoor

/-
  The reference: are Dyads right?
-/
namespace Go.Proofs.YtelblhgagpkjmaaGreatDoor
set_option linter.unusedVariables false
set_option linter.unusedSimpArgs false
open Go.RowKit
set_option linter.unusedVariables false
set_option linter.unusedSimpArgs false
namespace VD
open L NC NK DC
/-- what DyadRight asks, case by case; what it finds -/
inductive Ask (w : World) (b : Bool) (A : Option Addr) (n c : Nat) (x : Int) (er : Int) : Prop
  | far (h : ¬ (n ≤ 400 ∧ -10000 ≤ x ∧ x ≤ 10000)) (e : er = 2)
  | zneg (h : n ≤ 400 ∧ -10000 ≤ x ∧ x ≤ 10000) (hn : n = 0) (hb : b = true) (e : er = 3)
  | zexp (h : n ≤ 400 ∧ -10000 ≤ x ∧ x ≤ 10000) (hn : n = 0) (hb : b = false) (hx : (x != 0) = true) (e : er = 3)
  | zero (h : n ≤ 400 ∧ -10000 ≤ x ∧ x ≤ 10000) (hn : n = 0) (hb : b = false) (hx : x = 0) (e : er = 0)
  | even (h : n ≤ 400 ∧ -10000 ≤ x ∧ x ≤ 10000) (i : Nat) (hn : n = i + 1) (ad : Addr) (hA : A = some ad) (hl : ad.block < w.heap.size) (u : Int) (hu : w.cell? ad = some (.int .u32 u)) (h2 : (u.tmod 2 == 0) = true) (e : er = 3)
  | nought (h : n ≤ 400 ∧ -10000 ≤ x ∧ x ≤ 10000) (i : Nat) (hn : n = i + 1) (ad : Addr) (hA : A = some ad) (hl : ad.block < w.heap.size) (u v : Int) (hu : w.cell? ad = some (.int .u32 u)) (h2 : (u.tmod 2 == 0) = false) (hv : w.cell? (ad.add i) = some (.int .u32 v)) (h3 : (v == 0) = true) (e : er = 3)
  | good (h : n ≤ 400 ∧ -10000 ≤ x ∧ x ≤ 10000) (i : Nat) (hn : n = i + 1) (ad : Addr) (hA : A = some ad) (hl : ad.block < w.heap.size) (u v : Int) (hu : w.cell? ad = some (.int .u32 u)) (h2 : (u.tmod 2 == 0) = false) (hv : w.cell? (ad.add i) = some (.int .u32 v)) (h3 : (v == 0) = false) (e : er = 0)
theorem ask {w : World} {b : Bool} {A : Option Addr} {n c : Nat} {x : Int} {d : Dy} (h : DV w (.agg #[.bool b, .slice A n c, .int .i64 x]) d) : Ask w b A n c x d.er := by
  obtain ⟨b', A', n', c', x', l, e, hs, Ll, hl, he, -, -⟩ := h
  injection e with e
  have e1 := congrArg Array.toList e
  simp only [List.cons.injEq, Value.bool.injEq, Value.slice.injEq, Value.int.injEq, and_true, true_and] at e1
  obtain ⟨rfl, ⟨rfl, rfl, rfl⟩, rfl⟩ := e1
  have hn := hs.len_.1
  rw [he]
  unfold dchk
  by_cases h1 : 400 < l.length ∨ ¬ (-10000 ≤ x ∧ x ≤ 10000)
  · rw [if_pos h1]; exact .far (by omega) rfl
  · rw [if_neg h1]
    have hb : n ≤ 400 ∧ -10000 ≤ x ∧ x ≤ 10000 := by omega
    by_cases h0 : l = []
    · have hn0 : n = 0 := by rw [hn, h0]; rfl
      have e2 : nrm b l x = (!b && decide (x = 0)) := by unfold nrm; rw [if_pos h0]
      rw [e2]
      cases b
      · by_cases hx : x = 0
        · rw [if_pos (by simp [hx])]; exact .zero hb hn0 rfl hx rfl
        · rw [if_neg (by simp [hx])]; exact .zexp hb hn0 rfl (by simp [hx]) rfl
      · rw [if_neg (by simp)]; exact .zneg hb hn0 rfl rfl
    · have hp := List.length_pos_iff.2 h0
      obtain ⟨i, hi⟩ : ∃ i, n = i + 1 := ⟨n - 1, by omega⟩
      obtain ⟨ad, c2, e3, hc2, hbl, hu⟩ := hs.at_ 0 hp
      injection e3 with e4 e5 e6
      subst e4
      obtain ⟨ad', c3, e7, hc3, hbl', hv⟩ := hs.at_ i (by omega)
      injection e7 with e8 e9 e10
      obtain rfl := Option.some.inj e8
      have hu2 : w.cell? ad = some (.int .u32 (l.getD 0 0)) := by simpa [Addr.add] using hu
      have b0 := Ll.at_ 0
      have e2 : nrm b l x = (decide (chk l = 0) && decide (lv l % 2 = 1)) := by unfold nrm; rw [if_neg h0]
      have hlast : l.getLast? = some (l.getD i 0) := by
        rw [List.getLast?_eq_getElem?, List.getD_eq_getElem?_getD, show l.length - 1 = i by omega, List.getElem?_eq_getElem (by omega)]; rfl
      rw [e2, lv_odd]
      have hc : chk l = 0 ↔ l.getD i 0 ≠ 0 := by
        unfold chk
        rw [if_neg (by omega), hlast]
        generalize l.getD i 0 = v
        by_cases h9 : v = 0
        · rw [if_pos (by rw [h9])]; simp [h9]
        · rw [if_neg (by simpa using h9)]; simp [h9]
      clear e2 hlast hu
      generalize l.getD 0 0 = u at *
      generalize l.getD i 0 = v at *
      have t2 : u.tmod 2 = u % 2 := Int.tmod_eq_emod_of_nonneg b0.1
      by_cases ho : u % 2 = 1
      · have t3 : (u.tmod 2 == 0) = false := by rw [t2, ho]; rfl
        by_cases h9 : v = 0
        · rw [if_neg (by rw [decide_eq_false fun h => hc.1 h h9]; simp)]
          exact .nought hb i hi ad rfl hbl _ _ hu2 t3 hv (by simp [h9]) rfl
        · rw [if_pos (by rw [decide_eq_true (hc.2 h9), decide_eq_true ho]; rfl)]
          exact .good hb i hi ad rfl hbl _ _ hu2 t3 hv (by simp [h9]) rfl
      · rw [if_neg (by rw [decide_eq_false ho]; simp)]
        exact .even hb i hi ad rfl hbl _ hu2 (by rw [t2, beq_iff_eq]; omega) rfl
theorem DyadBounds_c (b : Bool) (A : Option Addr) (n c : Nat) (x : Int) (w : World) (hl : n ≤ 9223372036854775807) : Calls Tryz.prog 61 #[.agg #[.bool b, .slice A n c, .int .i64 x]] w (DC.RetB w (.bool (decide (n ≤ 400 ∧ -10000 ≤ x ∧ x ≤ 10000)))) := by
  have D0 : Below w.heap.size w (w.alloc (.cells #[.bool b, .slice A n c, .int .i64 x] 26)) := (Below.refl _ _).alloc (Nat.le_refl _) _
  by_cases h1 : n ≤ 400
  · have h2 : (n : Int) ≤ 400 := by omega
    by_cases h3 : -10000 ≤ x ∧ x ≤ 10000
    · rw [decide_eq_true ⟨h1, h3⟩]
      have BT : Hid (∀ W : World, Calls Tryz.prog 33 #[.int .i64 x, .int .i64 (-10000), .int .i64 10000] W fun e w' => e = .returned (.bool true) ∧ W = w') := fun W => FloatR.Between_t x _ _ h3.1 h3.2 W
      clear h1 h3
      go_enter Tryz.func61, Tryz.ntmps61
      go_wp2_with (go_at_call 33; (with_reducible refine (BT.out _).mono ?_); rintro e w1 ⟨rfl, rfl⟩)
      go_ret
      exact ⟨rfl, D0⟩
    · rw [decide_eq_false fun h => h3 h.2]
      have BT : Hid (∀ W : World, Calls Tryz.prog 33 #[.int .i64 x, .int .i64 (-10000), .int .i64 10000] W fun e w' => e = .returned (.bool false) ∧ W = w') := fun W => FloatR.Between_f x _ _ (by omega) W
      clear h1 h3
      go_enter Tryz.func61, Tryz.ntmps61
      go_wp2_with (go_at_call 33; (with_reducible refine (BT.out _).mono ?_); rintro e w1 ⟨rfl, rfl⟩)
      go_ret
      exact ⟨rfl, D0⟩
  · rw [decide_eq_false fun h => h1 h.1]
    have h2 : ¬ (n : Int) ≤ 400 := by omega
    clear h1
    go_enter Tryz.func61, Tryz.ntmps61
    go_wp2
    go_ret
    exact ⟨rfl, D0⟩
end VD
end Go.Proofs.YtelblhgagpkjmaaGreatDoor

/-
  The reference: is it zero in all fields?
-/
namespace Go.Proofs.YtelblhgagpkjmaaGreatDoor
set_option linter.unusedVariables false
set_option linter.unusedSimpArgs false
open Go.RowKit
set_option linter.unusedVariables false
set_option linter.unusedSimpArgs false
namespace VD
open L NC NK DC
theorem NoDyad_c (b : Bool) (A : Option Addr) (n c : Nat) (x : Int) (w : World) : Calls Tryz.prog 10 #[.agg #[.bool b, .slice A n c, .int .i64 x]] w (DC.RetB w (.bool (decide (n = 0 ∧ x = 0 ∧ b = false)))) := by
  have D0 : Below w.heap.size w (w.alloc (.cells #[.bool b, .slice A n c, .int .i64 x] 26)) := (Below.refl _ _).alloc (Nat.le_refl _) _
  by_cases h1 : n = 0
  · subst h1
    by_cases h2 : x = 0
    · subst h2
      cases b
      all_goals (
        go_enter Tryz.func10, Tryz.ntmps10
        go_wp2
        go_ret
        exact ⟨ret_bool (by simp), D0⟩)
    · have t2 : (x == 0) = false := by simp [h2]
      rw [decide_eq_false fun h => h2 h.2.1]
      clear h2
      go_enter Tryz.func10, Tryz.ntmps10
      go_wp2
      go_ret
      exact ⟨rfl, D0⟩
  · have t1 : ((n : Int) == 0) = false := by simp [h1]
    rw [decide_eq_false fun h => h1 h.1]
    clear h1
    go_enter Tryz.func10, Tryz.ntmps10
    go_wp2
    go_ret
    exact ⟨rfl, D0⟩
/-- the Dyad that is handed back with an error -/
theorem none_iff {w : World} {b : Bool} {A : Option Addr} {n c : Nat} {x : Int} {d : Dy} (h : GV w b A n c x d) : (n = 0 ∧ x = 0 ∧ b = false) ↔ d = dz := by
  have hz := gv_zero h
  obtain ⟨h1, h2, h3, h4, h5, h6⟩ := h
  constructor
  · rintro ⟨k1, k2, k3⟩
    exact Dy.ext' h4 (hz.1 k1) (by rw [← h3]; exact k2)
  · rintro rfl
    exact ⟨hz.2 rfl, h3, by rw [h2]; rfl⟩
end VD
end Go.Proofs.YtelblhgagpkjmaaGreatDoor

/-
  The reference: DyadRight of one Dyad, of two.
-/
namespace Go.Proofs.YtelblhgagpkjmaaGreatDoor
set_option linter.unusedVariables false
set_option linter.unusedSimpArgs false
open Go.RowKit
set_option linter.unusedVariables false
set_option linter.unusedSimpArgs false
namespace VD
open L NC NK DC
theorem idx_facts {n i : Nat} (h : n = i + 1) (hl : n ≤ 400) : ((n : Int) == 0) = false ∧ (n : Int) > 0 ∧ (n : Int) - 1 = (i : Int) ∧ IntKind.i64.wrap (i : Int) = (i : Int) ∧ (i : Int) < n ∧ (0 : Int) < n := by
  exact ⟨by rw [beq_eq_false_iff_ne]; omega, by omega, by omega, IntWalk.i64_in _ (by omega), by omega, by omega⟩
set_option maxRecDepth 100000 in
theorem DyadRight1_c (b1 : Bool) (A1 : Option Addr) (n1 c1 : Nat) (x1 : Int) (d1 : Dy) (g : Nat) (w : World) (h1 : DV w (.agg #[.bool b1, .slice A1 n1 c1, .int .i64 x1]) d1) (hg : g < w.heap.size) (k0 : w.cell? ⟨g, 0, none⟩ = some (.bool b1)) (k1 : w.cell? ⟨g, 1, none⟩ = some (.slice A1 n1 c1)) (k2 : w.cell? ⟨g, 2, none⟩ = some (.int .i64 x1)) :
    Calls Tryz.prog 37 #[.slice (some ⟨g, 0, none⟩) 1 1] w (DC.RetB w (.int .i64 d1.er)) := by
  have AS1 := ask h1
  have ln1 : n1 ≤ 9223372036854775807 := by
    obtain ⟨b', A', n', c', x', l, e, hs, Ll, hl, -, -, -⟩ := h1
    injection e with e
    have e1 := congrArg Array.toList e
    simp only [List.cons.injEq, Value.bool.injEq, Value.slice.injEq, Value.int.injEq, and_true, true_and] at e1
    obtain ⟨rfl, ⟨rfl, rfl, rfl⟩, rfl⟩ := e1
    rw [hs.len_.1]; exact hl
  have BO1 : Hid (∀ W : World, Calls Tryz.prog 61 #[.agg #[.bool b1, .slice A1 n1 c1, .int .i64 x1]] W (DC.RetB W (.bool (decide (n1 ≤ 400 ∧ -10000 ≤ x1 ∧ x1 ≤ 10000))))) := fun W => DyadBounds_c b1 A1 n1 c1 x1 W ln1
  obtain ⟨E1, hE1⟩ : ∃ E, d1.er = E := ⟨_, rfl⟩
  rw [hE1] at AS1
  have AS1 := Lib.hid AS1
  rw [hE1]
  have KC : Hid (∀ W, Below w.heap.size w W → W.cell? ⟨g, 0, none⟩ = some (.bool b1) ∧ W.cell? ⟨g, 1, none⟩ = some (.slice A1 n1 c1) ∧ W.cell? ⟨g, 2, none⟩ = some (.int .i64 x1)) := fun W hW => ⟨(hW.cell (p := ⟨g, 0, none⟩) hg).trans k0, (hW.cell (p := ⟨g, 1, none⟩) hg).trans k1, (hW.cell (p := ⟨g, 2, none⟩) hg).trans k2⟩
  clear h1 ln1 hE1 hg k0 k1 k2
  go_enter Tryz.func37, Tryz.ntmps37
  go_wp2
  go_loopw [8] (fun iv wr => (iv = .int .i64 0 ∨ (iv = .int .i64 1 ∧ Hid (E1 = 0))) ∧ Hid (Below w.heap.size w wr)) (fun iv _ => (1 - intOf iv).toNat)
  case atStart => exact ⟨.inl rfl, Below.refl _ _⟩
  case round =>
    obtain ⟨hk, hD⟩ := hrel
    obtain ⟨k0, k1, k2⟩ := KC.out _ hD.out
    rcases hk with rfl | ⟨rfl, he⟩
    · rcases AS1.out with ⟨h, e⟩ | ⟨h, hn, hb, e⟩ | ⟨h, hn, hb, hx, e⟩ | ⟨h, hn, hb, hx, e⟩ | ⟨h, i, hn, ad, hA, hlt, u, hu, h2, e⟩ | ⟨h, i, hn, ad, hA, hlt, u, v, hu, h2, hv, h3, e⟩ | ⟨h, i, hn, ad, hA, hlt, u, v, hu, h2, hv, h3, e⟩
      · rw [decide_eq_false h] at BO1
        subst e
        clear h
        go_wp2_with (go_at_call 61; (with_reducible refine (BO1.out _).mono ?_); rintro e w1 ⟨rfl, hb⟩; have D := Lib.hid (hD.out.trans (((al1 wr _).trans (hb.mono (by simp))).mono hD.out.size)); have X1 := (BX.new wr _ _ _ _ _).below hb; obtain ⟨q0, q1, q2⟩ := X1)
        go_ret
        exact ⟨rfl, D.out⟩
      · rw [decide_eq_true h] at BO1
        subst e
        subst hn
        subst hb
        clear h
        go_wp2_with (go_at_call 61; (with_reducible refine (BO1.out _).mono ?_); rintro e w1 ⟨rfl, hb⟩; have D := Lib.hid (hD.out.trans (((al1 wr _).trans (hb.mono (by simp))).mono hD.out.size)); have X1 := (BX.new wr _ _ _ _ _).below hb; obtain ⟨q0, q1, q2⟩ := X1)
        go_ret
        exact ⟨rfl, D.out⟩
      · rw [decide_eq_true h] at BO1
        subst e
        subst hn
        subst hb
        clear h
        go_wp2_with (go_at_call 61; (with_reducible refine (BO1.out _).mono ?_); rintro e w1 ⟨rfl, hb⟩; have D := Lib.hid (hD.out.trans (((al1 wr _).trans (hb.mono (by simp))).mono hD.out.size)); have X1 := (BX.new wr _ _ _ _ _).below hb; obtain ⟨q0, q1, q2⟩ := X1)
        go_ret
        exact ⟨rfl, D.out⟩
      · rw [decide_eq_true h] at BO1
        subst e
        subst hn
        subst hb
        subst hx
        clear h
        go_wp2_with (go_at_call 61; (with_reducible refine (BO1.out _).mono ?_); rintro e w1 ⟨rfl, hb⟩; have D := Lib.hid (hD.out.trans (((al1 wr _).trans (hb.mono (by simp))).mono hD.out.size)); have X1 := (BX.new wr _ _ _ _ _).below hb; obtain ⟨q0, q1, q2⟩ := X1)
        go_roundw
        case rel => exact ⟨.inr ⟨by go_num, Lib.hid (by first | trivial | rfl)⟩, D.out⟩
        case measure => simp [intOf]
      · rw [decide_eq_true h] at BO1
        subst e
        obtain ⟨f1, f2, f3, f4, f5, f6⟩ := idx_facts hn h.1
        subst hA
        clear hn h
        go_wp2_with (go_at_call 61; (with_reducible refine (BO1.out _).mono ?_); rintro e w1 ⟨rfl, hb⟩; have D := Lib.hid (hD.out.trans (((al1 wr _).trans (hb.mono (by simp))).mono hD.out.size)); have X1 := (BX.new wr _ _ _ _ _).below hb; obtain ⟨q0, q1, q2⟩ := X1; have gu := (D.out.cell (p := ad) hlt).trans hu)
        go_ret
        exact ⟨rfl, D.out⟩
      · rw [decide_eq_true h] at BO1
        subst e
        obtain ⟨f1, f2, f3, f4, f5, f6⟩ := idx_facts hn h.1
        subst hA
        clear hn h
        go_wp2_with (go_at_call 61; (with_reducible refine (BO1.out _).mono ?_); rintro e w1 ⟨rfl, hb⟩; have D := Lib.hid (hD.out.trans (((al1 wr _).trans (hb.mono (by simp))).mono hD.out.size)); have X1 := (BX.new wr _ _ _ _ _).below hb; obtain ⟨q0, q1, q2⟩ := X1; have gu := (D.out.cell (p := ad) hlt).trans hu; have gv := (D.out.cell (p := ad.add i) (by rw [block_of_add]; exact hlt)).trans hv)
        go_ret
        exact ⟨rfl, D.out⟩
      · rw [decide_eq_true h] at BO1
        subst e
        obtain ⟨f1, f2, f3, f4, f5, f6⟩ := idx_facts hn h.1
        subst hA
        clear hn h
        go_wp2_with (go_at_call 61; (with_reducible refine (BO1.out _).mono ?_); rintro e w1 ⟨rfl, hb⟩; have D := Lib.hid (hD.out.trans (((al1 wr _).trans (hb.mono (by simp))).mono hD.out.size)); have X1 := (BX.new wr _ _ _ _ _).below hb; obtain ⟨q0, q1, q2⟩ := X1; have gu := (D.out.cell (p := ad) hlt).trans hu; have gv := (D.out.cell (p := ad.add i) (by rw [block_of_add]; exact hlt)).trans hv)
        go_roundw
        case rel => exact ⟨.inr ⟨by go_num, Lib.hid (by first | trivial | rfl)⟩, D.out⟩
        case measure => simp [intOf]
    · obtain rfl := he.out
      go_wp2
      go_ret
      exact ⟨rfl, hD.out⟩
end VD
end Go.Proofs.YtelblhgagpkjmaaGreatDoor

/-
  The reference: just what is to be told of a number.
-/
namespace Go.Proofs.YtelblhgagpkjmaaGreatDoor
set_option linter.unusedVariables false
set_option linter.unusedSimpArgs false
open Go.RowKit
set_option linter.unusedVariables false
set_option linter.unusedSimpArgs false
namespace QC
open Z (Nz Tz cmpv big)
open ZC DC
theorem lim_pow : (4294967296 : Int) ^ 400 = 2 ^ 12800 := by
  rw [show (4294967296 : Int) = 2 ^ 32 by decide, ← Int.pow_mul]
/-- what a number tells depends on what it's worth only -/
theorem fin_eq {m x m' x' : Int} (h : sc m x = sc m' x') (hx : -60000 ≤ x) (hx' : -60000 ≤ x') : fin m x = fin m' x' := by
  by_cases h0 : m = 0
  · subst h0
    have h1 : m' = 0 := sc_zero.1 (h ▸ sc_zero.2 rfl)
    subst h1
    rw [fin_zero, fin_zero]
  · have h1 : m' ≠ 0 := fun h2 => h0 (sc_zero.1 (h.trans (sc_zero.2 h2)))
    obtain ⟨o, e, ho⟩ := tz_spec h0
    obtain ⟨p, e', hp⟩ := tz_spec h1
    generalize tz m = k at e
    generalize tz m' = k' at e'
    subst e
    subst e'
    rw [sc_shift _ _ _ hx, sc_shift _ _ _ hx'] at h
    obtain ⟨a, b⟩ := sc_inj h (.inr ho) (.inr hp) (by omega) (by omega)
    rw [fin_shift, fin_shift, a, b]
/-- its odd part, and how often it was doubled -/
theorem twos {z : Int} {M : Nat} (hz : z ≠ 0) (hM : z.natAbs < 2 ^ M) (hM2 : M ≤ 800000) : ∃ (N : Nat) (o : Int), z = o * 2 ^ N ∧ o % 2 = 1 ∧ N < M ∧ o.natAbs < big 900000 ∧
    (∀ W b A n c, ZL W b A n c z → Calls Tryz.prog 26 #[.agg #[.bool b, .slice A n c]] W fun e w' => ∃ b1 A1 n1 c1, e = .returned (.tuple #[.int .i64 (N : Int), .agg #[.bool b1, .slice A1 n1 c1]]) ∧ ZL w' b1 A1 n1 c1 o ∧ Below W.heap.size W w') := by
  obtain ⟨o, e, ho⟩ := tz_spec hz
  have hT : Tw z o (tz z) := ⟨e, odd_ne ho⟩
  have hb : z.natAbs < big 900000 := lt_big hM (by omega) (by decide)
  refine ⟨tz z, o, e, ho, hT.lt hM, hT.big hb, fun W b A n c hv => ?_⟩
  refine (ZTwos_c b A n c z M W hv hz hM hb (by omega)).mono ?_
  rintro e' w' ⟨N, y, b1, A1, n1, c1, rfl, h1, h2, h3, h4, h5⟩
  have hy : y % 2 = 1 := by omega
  obtain ⟨r1, r2⟩ := odd_unique (h2.1.symm.trans e) hy ho
  subst r1
  rw [← r2]
  exact ⟨_, _, _, _, rfl, h1, h5⟩

set_option maxRecDepth 100000 in
/-- zero -/
theorem told_zero (t : Int) (bq : Bool) (Aq : Option Addr) (cq : Nat) (A : Option Addr) (c : Nat) (w : World) :
    Calls Tryz.prog 12 #[.agg #[.bool false, .slice A 0 c, .int .i64 0], .int .i64 0, .agg #[.bool bq, .slice Aq 0 cq, .int .i64 t]] w (DC.RetB w (.bool true)) := by
  have D0 : Below w.heap.size w ((w.alloc (.cells #[.bool false, .slice A 0 c, .int .i64 0] 26)).alloc (.cells #[.bool bq, .slice Aq 0 cq, .int .i64 t] 41)) := ((Below.refl _ _).alloc (Nat.le_refl _) _).alloc (by simp) _
  go_enter Tryz.func12, Tryz.ntmps12
  go_wp2
  go_ret
  exact ⟨rfl, D0⟩
set_option maxRecDepth 100000 in
set_option maxHeartbeats 4000000 in
/-- a number that lies within the bounds no more -/
theorem told_over (t z o : Int) (N : Nat) (T : Nat) (bq : Bool) (Aq : Option Addr) (nq cq : Nat) (A : Option Addr) (c : Nat) (w : World) (hv : ZL w bq Aq nq cq z) (hn : 0 < nq) (ht : 0 ≤ t ∧ t ≤ T) (hT : T ≤ 50000) (hN : N < 800000) (ho : o.natAbs < big 900000)
    (TW : ∀ W b A n c, ZL W b A n c z → Calls Tryz.prog 26 #[.agg #[.bool b, .slice A n c]] W fun e w' => ∃ b1 A1 n1 c1, e = .returned (.tuple #[.int .i64 (N : Int), .agg #[.bool b1, .slice A1 n1 c1]]) ∧ ZL w' b1 A1 n1 c1 o ∧ Below W.heap.size W w')
    (hi : ¬ inb o (-t + N)) :
    Calls Tryz.prog 12 #[.agg #[.bool false, .slice A 0 c, .int .i64 0], .int .i64 2, .agg #[.bool bq, .slice Aq nq cq, .int .i64 t]] w (DC.RetB w (.bool true)) := by
  obtain ⟨W0, hW0⟩ : ∃ W0, (w.alloc (.cells #[.bool false, .slice A 0 c, .int .i64 0] 26)).alloc (.cells #[.bool bq, .slice Aq nq cq, .int .i64 t] 41) = W0 := ⟨_, rfl⟩
  have B1 := (Blk.new w 26 #[.bool false, .slice A 0 c, .int .i64 0]).alloc (.cells #[.bool bq, .slice Aq nq cq, .int .i64 t] 41)
  have B2 := Blk.new (w.alloc (.cells #[.bool false, .slice A 0 c, .int .i64 0] 26)) 41 #[.bool bq, .slice Aq nq cq, .int .i64 t]
  have V0 := (hv.alloc (.cells #[.bool false, .slice A 0 c, .int .i64 0] 26)).alloc (.cells #[.bool bq, .slice Aq nq cq, .int .i64 t] 41)
  have D0 : Below w.heap.size w ((w.alloc (.cells #[.bool false, .slice A 0 c, .int .i64 0] 26)).alloc (.cells #[.bool bq, .slice Aq nq cq, .int .i64 t] 41)) := ((Below.refl _ _).alloc (Nat.le_refl _) _).alloc (by simp) _
  have e1 : (w.alloc (.cells #[.bool false, .slice A 0 c, .int .i64 0] 26)).heap.size = w.heap.size + 1 := by simp
  rw [e1] at B2
  rw [hW0] at B1 B2 V0 D0
  have KB : Hid (∀ W, Below W0.heap.size W0 W → W.cell? ⟨w.heap.size + 1, 2, none⟩ = some (.int .i64 t)) := fun W h => (B2.below h B2.lt).at_ 2 rfl
  have TW0 := Lib.hid (TW W0 _ _ _ _ V0)
  have HW0 := Lib.hid hW0
  have D0 := Lib.hid D0
  have hn1 : ((nq : Int) == 0) = false := by rw [beq_eq_false_iff_ne]; omega
  have i1 : IntKind.i64.wrap ((N : Int) - t) = (N : Int) - t := IntWalk.i64_in _ (by omega)
  have HI := Lib.hid hi
  have HO := Lib.hid ho
  clear hv hn TW V0 B1 B2 e1 hW0 hi ho
  go_enter Tryz.func12, Tryz.ntmps12
  go_upto_region 5 with (first
    | (go_at_call 26; rw [HW0.out]; (with_reducible refine (TW0.out).mono ?_); rintro e w1 ⟨b1, A1, n1, c1, rfl, hv1, hb⟩; have D1 := Lib.hid hb; clear hb; have k2 := KB.out _ D1.out))
  have D2 : Below W0.heap.size W0 (w1.alloc (.cells #[.bool b1, .slice A1 n1 c1] 39)) := D1.out.alloc D1.out.size _
  have R1 := Blk.new w1 39 #[.bool b1, .slice A1 n1 c1]
  have v1 := Lib.hid (hv1.alloc (.cells #[.bool b1, .slice A1 n1 c1] 39))
  have k2 := KB.out _ D2
  have r0 := R1.at_ 0 rfl; have r1 := R1.at_ 1 rfl
  have D2 := Lib.hid D2
  obtain ⟨W1, hW1⟩ : ∃ W1, w1.alloc (.cells #[.bool b1, .slice A1 n1 c1] 39) = W1 := ⟨_, rfl⟩
  rw [hW1] at D2 v1 k2 r0 r1 ⊢
  have DD := Lib.hid (D0.out.trans (D2.out.mono D0.out.size))
  clear hW1 R1 hv1 D1 KB TW0 HW0
  by_cases hb : -10000 ≤ (N : Int) - t ∧ (N : Int) - t ≤ 10000
  · have BT : Hid (Calls Tryz.prog 33 #[.int .i64 ((N : Int) - t), .int .i64 (-10000), .int .i64 10000] W1 fun e w' => e = .returned (.bool true) ∧ W1 = w') := FloatR.Between_t _ _ _ hb.1 hb.2 W1
    obtain ⟨cc, hcc⟩ : ∃ cc, cmpv (o.natAbs : Int) (2 ^ 12800) = cc := ⟨_, rfl⟩
    have hc0 : cc ≥ 0 := by
      have : ¬ ((o.natAbs : Int) < 2 ^ 12800) := fun h => HI.out ⟨by rw [lim_pow]; generalize (2 : Int) ^ 12800 = P at *; omega, by rw [lim_pow]; generalize (2 : Int) ^ 12800 = P at *; omega, by omega, by omega⟩
      rw [← hcc]
      unfold cmpv
      rw [if_neg this]
      split <;> decide
    have PW : Hid (∀ W, Calls Tryz.prog 36 #[.int .i64 12800] W (RetZ W (2 ^ 12800))) := fun W => ZPow_c 12800 12800 W (by decide) (by decide) (by decide)
    have CM : Hid (∀ W va vb, ZV W va (o.natAbs : Int) → ZV W vb (2 ^ 12800) → Calls Tryz.prog 34 #[va, vb] W fun e w' => e = .returned (.int .i64 cc) ∧ Below W.heap.size W w') := fun W va vb h1 h2 => by
      rw [← hcc]
      exact ZCmp_c va vb _ _ W h1 h2 (by have := HO.out; have := big_mono (show 900000 ≤ 1000000 by decide); simp only [Int.natAbs_natCast]; omega) (pow2_bigN 12800 1000000 (by decide) (by decide))
    clear hcc hb
    go_wp2_with (first
      | (go_at_call 33; (with_reducible refine (BT.out).mono ?_); rintro e w3 ⟨rfl, rfl⟩)
      | (go_at_call 35; (with_reducible refine (ZAbs_c _ _ _ v1.out.v).mono ?_); rintro e w4 ⟨va, rfl, hva, hb4⟩; have DD := Lib.hid (DD.out.trans (hb4.mono DD.out.size)); have hva := Lib.hid hva; clear hb4)
      | (go_at_call 36; (with_reducible refine (PW.out _).mono ?_); rintro e w5 ⟨vb, rfl, ⟨b5, A5, n5, c5, rfl, hvb⟩, hb5⟩; have hva := Lib.hid (zv_below hva.out hb5); have DD := Lib.hid (DD.out.trans (hb5.mono DD.out.size)); have hvb := Lib.hid hvb.v; clear hb5)
      | (go_at_call 34; (with_reducible refine (CM.out _ _ _ hva.out hvb.out).mono ?_); rintro e w6 ⟨rfl, hb6⟩; have DD := Lib.hid (DD.out.trans (hb6.mono DD.out.size)); clear hb6))
    go_ret
    exact ⟨rfl, DD.out⟩
  · have BT : Hid (Calls Tryz.prog 33 #[.int .i64 ((N : Int) - t), .int .i64 (-10000), .int .i64 10000] W1 fun e w' => e = .returned (.bool false) ∧ W1 = w') := FloatR.Between_f _ _ _ (by omega) W1
    clear hb
    go_wp2_with (first
      | (go_at_call 33; (with_reducible refine (BT.out).mono ?_); rintro e w3 ⟨rfl, rfl⟩))
    go_ret
    exact ⟨rfl, DD.out⟩
set_option maxRecDepth 100000 in
set_option maxHeartbeats 8000000 in
/-- a number within the bounds -/
theorem told_in (t z o : Int) (N T M : Nat) (b : Bool) (A : Option Addr) (n c : Nat) (bq : Bool) (Aq : Option Addr) (nq cq : Nat) (w : World) (hG : GV w b A n c (-t + N) ⟨0, o, -t + N⟩) (hv : ZL w bq Aq nq cq z) (hn : 0 < nq) (ht : 0 ≤ t ∧ t ≤ T) (hT : T ≤ 50000) (hM : z.natAbs < 2 ^ M) (hM2 : M ≤ 340000) (hN : N < 800000) (ho : o.natAbs < big 900000) (ho1 : o % 2 = 1) (hz : z = o * 2 ^ N)
    (TW : ∀ W b A n c, ZL W b A n c z → Calls Tryz.prog 26 #[.agg #[.bool b, .slice A n c]] W fun e w' => ∃ b1 A1 n1 c1, e = .returned (.tuple #[.int .i64 (N : Int), .agg #[.bool b1, .slice A1 n1 c1]]) ∧ ZL w' b1 A1 n1 c1 o ∧ Below W.heap.size W w')
    (hi : inb o (-t + N)) :
    Calls Tryz.prog 12 #[.agg #[.bool b, .slice A n c, .int .i64 (-t + N)], .int .i64 0, .agg #[.bool bq, .slice Aq nq cq, .int .i64 t]] w (DC.RetB w (.bool true)) := by
  have hn0 : 0 < n := by
    rcases Nat.eq_zero_or_pos n with h | h
    · have := (gv_zero hG).1 h
      have : o = 0 := this
      omega
    · exact h
  have hx : -t + (N : Int) = (N : Int) - t := by omega
  rw [hx] at hG hi ⊢
  obtain ⟨X, hX⟩ : ∃ X, (N : Int) - t = X := ⟨_, rfl⟩
  have hS : sc z (-t) = S ⟨0, o, X⟩ := by
    rw [hz, sc_shift _ _ _ (by omega), hx, hX]; rfl
  have bX : -10000 ≤ X ∧ X ≤ 10000 := by rw [← hX]; exact hi.2.2
  obtain ⟨W0, hW0⟩ : ∃ W0, (w.alloc (.cells #[.bool b, .slice A n c, .int .i64 X] 26)).alloc (.cells #[.bool bq, .slice Aq nq cq, .int .i64 t] 41) = W0 := ⟨_, rfl⟩
  have B1 := (Blk.new w 26 #[.bool b, .slice A n c, .int .i64 X]).alloc (.cells #[.bool bq, .slice Aq nq cq, .int .i64 t] 41)
  have B2 := Blk.new (w.alloc (.cells #[.bool b, .slice A n c, .int .i64 X] 26)) 41 #[.bool bq, .slice Aq nq cq, .int .i64 t]
  have V0 := (hv.alloc (.cells #[.bool b, .slice A n c, .int .i64 X] 26)).alloc (.cells #[.bool bq, .slice Aq nq cq, .int .i64 t] 41)
  have D0 : Below w.heap.size w ((w.alloc (.cells #[.bool b, .slice A n c, .int .i64 X] 26)).alloc (.cells #[.bool bq, .slice Aq nq cq, .int .i64 t] 41)) := ((Below.refl _ _).alloc (Nat.le_refl _) _).alloc (by simp) _
  have e1 : (w.alloc (.cells #[.bool b, .slice A n c, .int .i64 X] 26)).heap.size = w.heap.size + 1 := by simp
  rw [e1] at B2
  rw [hX] at hG hi ⊢
  rw [hW0] at B1 B2 V0 D0
  have DV0 := hG.dv.below D0
  have KB : Hid (∀ W, Below W0.heap.size W0 W → (W.cell? ⟨w.heap.size, 0, none⟩ = some (.bool b) ∧ W.cell? ⟨w.heap.size, 1, none⟩ = some (.slice A n c) ∧ W.cell? ⟨w.heap.size, 2, none⟩ = some (.int .i64 X)) ∧ W.cell? ⟨w.heap.size + 1, 0, none⟩ = some (.bool bq) ∧ W.cell? ⟨w.heap.size + 1, 1, none⟩ = some (.slice Aq nq cq) ∧ W.cell? ⟨w.heap.size + 1, 2, none⟩ = some (.int .i64 t)) := fun W h => ⟨⟨(B1.below h B1.lt).at_ 0 rfl, (B1.below h B1.lt).at_ 1 rfl, (B1.below h B1.lt).at_ 2 rfl⟩, (B2.below h B2.lt).at_ 0 rfl, (B2.below h B2.lt).at_ 1 rfl, (B2.below h B2.lt).at_ 2 rfl⟩
  have DR : Hid (∀ W g, Below W0.heap.size W0 W → Blk W g 26 #[.bool b, .slice A n c, .int .i64 X] → Calls Tryz.prog 37 #[.slice (some ⟨g, 0, none⟩) 1 1] W (DC.RetB W (.int .i64 0))) := fun W g h h4 =>
    VD.DyadRight1_c b A n c X _ g W (DV0.below h) h4.lt (h4.at_ 0 rfl) (h4.at_ 1 rfl) (h4.at_ 2 rfl)
  have QO : Hid (∀ W, Below W0.heap.size W0 W → Calls Tryz.prog 38 #[.agg #[.bool b, .slice A n c, .int .i64 X]] W (RetS 22800 10000 W (S ⟨0, o, X⟩))) := fun W h => QOf_s _ _ W (DV0.below h) rfl
  have QC0 : Hid (∀ W u, Below W0.heap.size W0 W → QS 22800 10000 W u (S ⟨0, o, X⟩) → Calls Tryz.prog 13 #[u, .agg #[.bool bq, .slice Aq nq cq, .int .i64 t]] W fun e w' => e = .returned (.int .i64 0) ∧ Below W.heap.size W w') := fun W u h hu => by
    have h3 : QS M T W (.agg #[.bool bq, .slice Aq nq cq, .int .i64 t]) (S ⟨0, o, X⟩) := ⟨z, t, ⟨bq, Aq, nq, cq, rfl, V0.below h⟩, hM, ht.1, ht.2, hS⟩
    have h4 := QCmp_s hu h3 (by omega) (by omega) (by omega) (by omega)
    rwa [Z.cmpv_eq rfl] at h4
  have TW0 := Lib.hid (TW W0 _ _ _ _ V0)
  have HW0 := Lib.hid hW0
  have D0 := Lib.hid D0
  have hn1 : ((nq : Int) == 0) = false := by rw [beq_eq_false_iff_ne]; omega
  have hn2 : ((n : Int) == 0) = false := by rw [beq_eq_false_iff_ne]; omega
  have i1 : IntKind.i64.wrap ((N : Int) - t) = X := by rw [hX]; exact IntWalk.i64_in _ (by omega)
  have BT : Hid (∀ W, Calls Tryz.prog 33 #[.int .i64 X, .int .i64 (-10000), .int .i64 10000] W fun e w' => e = .returned (.bool true) ∧ W = w') := fun W => FloatR.Between_t _ _ _ bX.1 bX.2 W
  obtain ⟨cc, hcc⟩ : ∃ cc, cmpv (o.natAbs : Int) (2 ^ 12800) = cc := ⟨_, rfl⟩
  have hc0 : ¬ cc ≥ 0 := by
    have : (o.natAbs : Int) < 2 ^ 12800 := by
      have h1 := hi.1
      have h2 := hi.2.1
      rw [lim_pow] at h1 h2
      generalize (2 : Int) ^ 12800 = P at *
      omega
    rw [← hcc, Z.cmpv_lt this]
    decide
  have PW : Hid (∀ W, Calls Tryz.prog 36 #[.int .i64 12800] W (RetZ W (2 ^ 12800))) := fun W => ZPow_c 12800 12800 W (by decide) (by decide) (by decide)
  have CM : Hid (∀ W va vb, ZV W va (o.natAbs : Int) → ZV W vb (2 ^ 12800) → Calls Tryz.prog 34 #[va, vb] W fun e w' => e = .returned (.int .i64 cc) ∧ Below W.heap.size W w') := fun W va vb h1 h2 => by
    rw [← hcc]
    exact ZCmp_c va vb _ _ W h1 h2 (by have := big_mono (show 900000 ≤ 1000000 by decide); simp only [Int.natAbs_natCast]; omega) (pow2_bigN 12800 1000000 (by decide) (by decide))
  clear hn hn0 TW V0 B1 B2 e1 hW0 hi ho hcc hS hG hv hz hX hx DV0 bX ho1 hM
  go_enter Tryz.func12, Tryz.ntmps12
  go_upto_region 5 with (first
    | (go_at_call 26; rw [HW0.out]; (with_reducible refine (TW0.out).mono ?_); rintro e w1 ⟨b1, A1, n1, c1, rfl, hv1, hb⟩; have D1 := Lib.hid hb; clear hb; have k2 := (KB.out _ D1.out).2.2.2))
  have D2 : Below W0.heap.size W0 (w1.alloc (.cells #[.bool b1, .slice A1 n1 c1] 39)) := D1.out.alloc D1.out.size _
  have R1 := Blk.new w1 39 #[.bool b1, .slice A1 n1 c1]
  have v1 := Lib.hid (hv1.alloc (.cells #[.bool b1, .slice A1 n1 c1] 39))
  have k2 := (KB.out _ D2).2.2.2
  have r0 := R1.at_ 0 rfl; have r1 := R1.at_ 1 rfl
  have D2 := Lib.hid D2
  obtain ⟨W1, hW1⟩ : ∃ W1, w1.alloc (.cells #[.bool b1, .slice A1 n1 c1] 39) = W1 := ⟨_, rfl⟩
  rw [hW1] at D2 v1 k2 r0 r1 ⊢
  clear hW1 R1 hv1 D1 TW0 HW0
  go_upto_region 8 with (first
    | (go_at_call 33; (with_reducible refine (BT.out _).mono ?_); rintro e w3 ⟨rfl, rfl⟩)
    | (go_at_call 35; (with_reducible refine (ZAbs_c _ _ _ v1.out.v).mono ?_); rintro e w4 ⟨va, rfl, hva, hb4⟩; have D2 := Lib.hid (D2.out.trans (hb4.mono D2.out.size)); have hva := Lib.hid hva; clear hb4)
    | (go_at_call 36; (with_reducible refine (PW.out _).mono ?_); rintro e w5 ⟨vb, rfl, ⟨b5, A5, n5, c5, rfl, hvb⟩, hb5⟩; have hva := Lib.hid (zv_below hva.out hb5); have D2 := Lib.hid (D2.out.trans (hb5.mono D2.out.size)); have hvb := Lib.hid hvb.v; clear hb5)
    | (go_at_call 34; (with_reducible refine (CM.out _ _ _ hva.out hvb.out).mono ?_); rintro e w6 ⟨rfl, hb6⟩; have D2 := Lib.hid (D2.out.trans (hb6.mono D2.out.size)); clear hb6))
  have D2 := Lib.hid D2.out.drew
  (refine wp_region_L (S := fun w' => (w'.cell? ⟨w.heap.size, 0, none⟩ = some (.bool b) ∧ w'.cell? ⟨w.heap.size, 1, none⟩ = some (.slice A n c) ∧ w'.cell? ⟨w.heap.size, 2, none⟩ = some (.int .i64 X)) ∧ w'.cell? ⟨w.heap.size + 1, 0, none⟩ = some (.bool bq) ∧ w'.cell? ⟨w.heap.size + 1, 1, none⟩ = some (.slice Aq nq cq) ∧ w'.cell? ⟨w.heap.size + 1, 2, none⟩ = some (.int .i64 t)) (nl := 1000000) (by kernel_rfl) ?_ (fun hHeld => ?_); focus (exact KB.out _ D2.out))
  (refine wpAnyL_take (i := 0) (oi := _) (v := ?_) rfl (by kernel_rfl) (by kernel_rfl) (by kernel_rfl) (fun _ _ _ h => h) (Or.inl ⟨by first | rfl | kernel_rfl, ?hy36⟩) (by assumption) ?rs36; (case hy36 => (intro w hSw; (try dsimp only at hSw); go_simp; first | done | with_reducible rfl)); case' rs36 => (simp only [List.getElem_toArray, List.getElem_cons_zero, List.getElem_cons_succ, Act.put, List.setIfInBounds_toArray, List.set_cons_zero, List.set_cons_succ])); (refine wpAnyL_take (i := 1) (oi := _) (v := ?_) rfl (by kernel_rfl) (by kernel_rfl) (by kernel_rfl) (fun _ _ _ h => h) (Or.inl ⟨by first | rfl | kernel_rfl, ?hy37⟩) (by assumption) ?rs37; (case hy37 => (intro w hSw; (try dsimp only at hSw); go_simp; first | done | with_reducible rfl)); case' rs37 => (simp only [List.getElem_toArray, List.getElem_cons_zero, List.getElem_cons_succ, Act.put, List.setIfInBounds_toArray, List.set_cons_zero, List.set_cons_succ])); (refine wpAnyL_take (i := 2) (oi := _) (v := ?_) rfl (by kernel_rfl) (by kernel_rfl) (by kernel_rfl) (fun _ _ _ h => h) (Or.inl ⟨by first | rfl | kernel_rfl, ?hy38⟩) (by assumption) ?rs38; (case hy38 => (intro w hSw; (try dsimp only at hSw); go_simp; first | done | with_reducible rfl)); case' rs38 => (simp only [List.getElem_toArray, List.getElem_cons_zero, List.getElem_cons_succ, Act.put, List.setIfInBounds_toArray, List.set_cons_zero, List.set_cons_succ])); (refine wpAnyL_take (i := 3) (oi := _) (v := ?_) rfl (by kernel_rfl) (by kernel_rfl) (by kernel_rfl) (fun _ _ _ h => h) (Or.inl ⟨by first | rfl | kernel_rfl, ?hy39⟩) (by assumption) ?rs39; (case hy39 => (intro w hSw; (try dsimp only at hSw); go_simp; first | done | with_reducible rfl)); case' rs39 => (simp only [List.getElem_toArray, List.getElem_cons_zero, List.getElem_cons_succ, Act.put, List.setIfInBounds_toArray, List.set_cons_zero, List.set_cons_succ])); skip
  (refine wpAnyL_one (i := 4) (o := _) (by kernel_rfl) rfl (fun K hK => ?_); clear hHeld; simp only [List.getElem_toArray, List.getElem_cons_zero, List.getElem_cons_succ]; go_simp; refine hK.out _ _ ?_ (fun hHeld => ?_); focus (intro _; exact KB.out _ (D2.out.alloc D2.out.size _))); have hHeld := hHeld (by decide); clear hK K; (try simp only [Act.put, List.setIfInBounds_toArray, List.set_cons_zero, List.set_cons_succ])
  have G' := Blk.drew (Blk.new w6 26 #[.bool b, .slice A n c, .int .i64 X])
  have D3 := Lib.hid (show Below W0.heap.size W0 (w6.alloc (.cells #[.bool b, .slice A n c, .int .i64 X] 26)).drew from D2.out.alloc D2.out.size (.cells #[.bool b, .slice A n c, .int .i64 X] 26))
  obtain ⟨w7, hw7⟩ : ∃ w7, (w6.alloc (.cells #[.bool b, .slice A n c, .int .i64 X] 26)).drew = w7 := ⟨_, rfl⟩
  obtain ⟨g7, hg7⟩ : ∃ g7, w6.heap.size = g7 := ⟨_, rfl⟩
  rw [hw7] at G' D3 hHeld ⊢
  rw [hg7] at G' ⊢
  clear hw7 hg7 D2
  (refine wpAnyL_one (i := 5) (o := _) (by kernel_rfl) rfl (fun K hK => ?_); clear hHeld; simp only [List.getElem_toArray, List.getElem_cons_zero, List.getElem_cons_succ]; go_simp; (go_at_call 37; (with_reducible refine (DR.out w7 g7 D3.out G').mono ?_); rintro e w8 ⟨rfl, hb8⟩; have D3 := Lib.hid (D3.out.trans (hb8.mono D3.out.size)); clear hb8); refine hK.out _ _ ?_ (fun hHeld => ?_); focus (intro _; exact KB.out _ D3.out)); have hHeld := hHeld (by decide); clear hK K; (try simp only [Act.put, List.setIfInBounds_toArray, List.set_cons_zero, List.set_cons_succ])
  clear G'
  (refine wpAnyL_take (i := 6) (oi := _) (v := ?_) rfl (by kernel_rfl) (by kernel_rfl) (by kernel_rfl) (fun _ _ _ h => h) (Or.inl ⟨by first | rfl | kernel_rfl, ?hy40⟩) (by assumption) ?rs40; (case hy40 => (intro w hSw; (try dsimp only at hSw); go_simp; first | done | with_reducible rfl)); case' rs40 => (simp only [List.getElem_toArray, List.getElem_cons_zero, List.getElem_cons_succ, Act.put, List.setIfInBounds_toArray, List.set_cons_zero, List.set_cons_succ])); (refine wpAnyL_take (i := 7) (oi := _) (v := ?_) rfl (by kernel_rfl) (by kernel_rfl) (by kernel_rfl) (fun _ _ _ h => h) (Or.inl ⟨by first | rfl | kernel_rfl, ?hy41⟩) (by assumption) ?rs41; (case hy41 => (intro w hSw; (try dsimp only at hSw); go_simp; first | done | with_reducible rfl)); case' rs41 => (simp only [List.getElem_toArray, List.getElem_cons_zero, List.getElem_cons_succ, Act.put, List.setIfInBounds_toArray, List.set_cons_zero, List.set_cons_succ])); (refine wpAnyL_take (i := 8) (oi := _) (v := ?_) rfl (by kernel_rfl) (by kernel_rfl) (by kernel_rfl) (fun _ _ _ h => h) (Or.inl ⟨by first | rfl | kernel_rfl, ?hy42⟩) (by assumption) ?rs42; (case hy42 => (intro w hSw; (try dsimp only at hSw); go_simp; first | done | with_reducible rfl)); case' rs42 => (simp only [List.getElem_toArray, List.getElem_cons_zero, List.getElem_cons_succ, Act.put, List.setIfInBounds_toArray, List.set_cons_zero, List.set_cons_succ])); (refine wpAnyL_take (i := 9) (oi := _) (v := ?_) rfl (by kernel_rfl) (by kernel_rfl) (by kernel_rfl) (fun _ _ _ h => h) (Or.inl ⟨by first | rfl | kernel_rfl, ?hy43⟩) (by assumption) ?rs43; (case hy43 => (intro w hSw; (try dsimp only at hSw); go_simp; first | done | with_reducible rfl)); case' rs43 => (simp only [List.getElem_toArray, List.getElem_cons_zero, List.getElem_cons_succ, Act.put, List.setIfInBounds_toArray, List.set_cons_zero, List.set_cons_succ])); (refine wpAnyL_take (i := 11) (oi := _) (v := ?_) rfl (by kernel_rfl) (by kernel_rfl) (by kernel_rfl) (fun _ _ _ h => h) (Or.inl ⟨by first | rfl | kernel_rfl, ?hy44⟩) (by assumption) ?rs44; (case hy44 => (intro w hSw; (try dsimp only at hSw); go_simp; first | done | with_reducible rfl)); case' rs44 => (simp only [List.getElem_toArray, List.getElem_cons_zero, List.getElem_cons_succ, Act.put, List.setIfInBounds_toArray, List.set_cons_zero, List.set_cons_succ])); skip
  (refine wpAnyL_one (i := 10) (o := _) (by kernel_rfl) rfl (fun K hK => ?_); clear hHeld; simp only [List.getElem_toArray, List.getElem_cons_zero, List.getElem_cons_succ]; go_simp; (go_at_call 38; (with_reducible refine (QO.out w8 D3.out).mono ?_); rintro e w9 ⟨b9, A9, n9, c9, t9, z9, rfl, hz, y1, y2, y3, y4, hb9⟩; have D3 := Lib.hid (D3.out.trans (hb9.mono D3.out.size)); have Q9 := Lib.hid (RetS.qs hz y1 y2 y3 y4); clear hb9 hz y1 y2 y3 y4); refine hK.out _ _ ?_ (fun hHeld => ?_); focus (intro _; exact KB.out _ D3.out)); have hHeld := hHeld (by decide); clear hK K; (try simp only [Act.put, List.setIfInBounds_toArray, List.set_cons_zero, List.set_cons_succ])
  (refine wpAnyL_one (i := 12) (o := _) (by kernel_rfl) rfl (fun K hK => ?_); clear hHeld; simp only [List.getElem_toArray, List.getElem_cons_zero, List.getElem_cons_succ]; go_simp; (go_at_call 13; (with_reducible refine (QC0.out w9 _ D3.out Q9.out).mono ?_); rintro e w10 ⟨rfl, hb10⟩; have D3 := Lib.hid (D3.out.trans (hb10.mono D3.out.size)); clear hb10); refine hK.out _ _ ?_ (fun hHeld => ?_); focus (intro _; exact KB.out _ D3.out)); have hHeld := hHeld (by decide); clear hK K; (try simp only [Act.put, List.setIfInBounds_toArray, List.set_cons_zero, List.set_cons_succ])
  (refine wpAnyL_take (i := 13) (oi := _) (v := ?_) rfl (by kernel_rfl) (by kernel_rfl) (by kernel_rfl) (fun _ _ _ h => h) (Or.inl ⟨by first | rfl | kernel_rfl, ?hy45⟩) (by assumption) ?rs45; (case hy45 => (intro w hSw; (try dsimp only at hSw); go_simp; first | done | with_reducible rfl)); case' rs45 => (simp only [List.getElem_toArray, List.getElem_cons_zero, List.getElem_cons_succ, Act.put, List.setIfInBounds_toArray, List.set_cons_zero, List.set_cons_succ])); (refine wpAnyL_take (i := 14) (oi := _) (v := ?_) rfl (by kernel_rfl) (by kernel_rfl) (by kernel_rfl) (fun _ _ _ h => h) (Or.inl ⟨by first | rfl | kernel_rfl, ?hy46⟩) (by assumption) ?rs46; (case hy46 => (intro w hSw; (try dsimp only at hSw); go_simp; first | done | with_reducible rfl)); case' rs46 => (simp only [List.getElem_toArray, List.getElem_cons_zero, List.getElem_cons_succ, Act.put, List.setIfInBounds_toArray, List.set_cons_zero, List.set_cons_succ])); (refine wpAnyL_take (i := 15) (oi := _) (v := ?_) rfl (by kernel_rfl) (by kernel_rfl) (by kernel_rfl) (fun _ _ _ h => h) (Or.inl ⟨by first | rfl | kernel_rfl, ?hy47⟩) (by assumption) ?rs47; (case hy47 => (intro w hSw; (try dsimp only at hSw); go_simp; first | done | with_reducible rfl)); case' rs47 => (simp only [List.getElem_toArray, List.getElem_cons_zero, List.getElem_cons_succ, Act.put, List.setIfInBounds_toArray, List.set_cons_zero, List.set_cons_succ])); skip
  refine wpAnyL_done (by kernel_rfl) ?_ _
  go_wp2
  go_ret
  exact ⟨rfl, D0.out.trans (D3.out.mono D0.out.size)⟩
theorem ToldDyad_c (b : Bool) (A : Option Addr) (n c : Nat) (x : Int) (r : Re) (bq : Bool) (Aq : Option Addr) (nq cq : Nat) (t z : Int) (M T : Nat) (w : World) (hG : GV w b A n c x r.d) (hv : ZL w bq Aq nq cq z) (hM : z.natAbs < 2 ^ M) (ht : 0 ≤ t ∧ t ≤ T) (hM2 : M ≤ 340000) (hT : T ≤ 50000) (hr : r = fin z (-t)) :
    Calls Tryz.prog 12 #[.agg #[.bool b, .slice A n c, .int .i64 x], .int .i64 r.e, .agg #[.bool bq, .slice Aq nq cq, .int .i64 t]] w (DC.RetB w (.bool true)) := by
  have hzn := hv.zero
  by_cases hz : z = 0
  · subst hz
    rw [fin_zero] at hr
    subst hr
    obtain ⟨rfl, rfl, rfl⟩ := (VD.none_iff hG).2 rfl
    obtain rfl : nq = 0 := by
      rcases Nat.eq_zero_or_pos nq with h | h
      · exact h
      · exact absurd rfl (hzn.2 h)
    exact told_zero t bq Aq cq A c w
  · have hn : 0 < nq := by
      rcases Nat.eq_zero_or_pos nq with h | h
      · exact absurd (hzn.1 h) hz
      · exact h
    obtain ⟨N, o, e, ho, hN, hb, TW⟩ := twos hz hM (by omega)
    have hf : r = if inb o (-t + N) then ⟨0, 0, o, -t + N⟩ else ⟨2, dz⟩ := by rw [hr]; exact fin_of e ho
    by_cases hi : inb o (-t + N)
    · rw [if_pos hi] at hf
      subst hf
      have hx : x = -t + N := hG.2.2.1
      subst hx
      exact told_in t z o N T M b A n c bq Aq nq cq w hG hv hn ht hT hM hM2 (by omega) hb ho e TW hi
    · rw [if_neg hi] at hf
      subst hf
      obtain ⟨rfl, rfl, rfl⟩ := (VD.none_iff hG).2 rfl
      exact told_over t z o N T bq Aq nq cq A c w hv hn ht hT (by omega) hb TW hi
end QC
end Go.Proofs.YtelblhgagpkjmaaGreatDoor

