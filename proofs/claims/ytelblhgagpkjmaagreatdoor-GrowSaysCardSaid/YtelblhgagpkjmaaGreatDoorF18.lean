/-
  Texts glued together for a claim: Q8 Q9 Q10 V0.
-/
import Derived.Test.YtelblhgagpkjmaaGreatDoorF13
import Derived.Test.YtelblhgagpkjmaaGreatDoorF9
/-
  The reference's rounding: the value of a rank.
-/
namespace Go.Proofs.YtelblhgagpkjmaaGreatDoor
set_option linter.unusedVariables false
set_option linter.unusedSimpArgs false
open Go.RowKit
set_option linter.unusedVariables false
set_option linter.unusedSimpArgs false
namespace QC
open Z (Nz Tz cmpv big)
open ZC DC RC
/-- the value of a rank, in very small units -/
def SV (n : Int) : Int := if n < 0 then -(U (-n)) else U n
theorem mant_U {x : Int} (h0 : 0 ≤ x) (h1 : x ≤ 9218868437227405311) : sc (mant x) (F.ulp x) = U x := by
  have hb := F.exq_bd x
  have hf := F.fra_bd x
  have hr : x = F.exq x * 4503599627370496 + F.fra x := by unfold F.exq F.fra; omega
  have mb : 0 ≤ mant x ∧ mant x < 9007199254740992 := by unfold mant; split <;> omega
  obtain ⟨k, hk⟩ : ∃ k : Nat, F.ulp x + 1074 = k := ⟨(F.ulp x + 1074).toNat, by unfold F.ulp; split <;> omega⟩
  have hkq : x = k * 4503599627370496 + mant x ∧ (k = 0 ∨ 4503599627370496 ≤ mant x) := by
    unfold F.ulp at hk
    unfold mant
    by_cases h : 0 < F.exq x
    · rw [if_pos h]; rw [if_pos (by omega)] at hk; exact ⟨by omega, by omega⟩
    · rw [if_neg h]; rw [if_neg (by omega)] at hk; exact ⟨by omega, by omega⟩
  have eU := (U_of mb.1 mb.2 hkq.2).1
  rw [← hkq.1, show (k : Int) - 1074 = F.ulp x by omega] at eU
  rw [eU, sc_mul1]
theorem inf_U {x k : Int} (hx : x = 9218868437227405312) {j : Nat} (hj : j = 1024) (hk : k = 0) : sc (2 ^ j) k = U x := by
  obtain ⟨i, hi⟩ : ∃ i : Nat, i = 2045 := ⟨_, rfl⟩
  have hU := (U_of (k := i) (q := 9007199254740991) (by omega) (by omega) (by omega)).2
  rw [show (i : Int) * 4503599627370496 + 9007199254740991 + 1 = x by omega] at hU
  rw [hU, sc_two j k (by omega)]
  obtain ⟨u, hu⟩ : ∃ u : Int, (i : Int) - 1074 = u := ⟨_, rfl⟩
  rw [hu]
  have := sc_shift 1 u 53 (by omega)
  rw [show (1 : Int) * 2 ^ 53 = 9007199254740991 + 1 by decide, sc_mul1] at this
  rw [this]
  congr 1; omega
theorem RetS.mono {M T M' T' : Nat} {w w' : World} {s : Int} {e : Ending} (h : RetS M T w s e w') (hM : M ≤ M') (hT : T ≤ T') : RetS M' T' w s e w' := by
  obtain ⟨b, A, n, c, t, z, he, hz, h1, h2, h3, h4, h5⟩ := h
  exact ⟨b, A, n, c, t, z, he, hz, Nat.lt_of_lt_of_le h1 (Nat.pow_le_pow_right (by decide) hM), h2, by omega, h4, h5⟩
theorem QVal_s (x : Int) (w : World) (h0 : 0 ≤ x) (h1 : x ≤ 9218868437227405311) : Calls Tryz.prog 25 #[.int .u64 x] w (RetS 1100 1100 w (U x)) := by
  have hb := F.exq_bd x
  have hf := F.fra_bd x
  have mb : 0 ≤ mant x ∧ mant x < 9007199254740992 := by unfold mant; split <;> omega
  have ub : -1074 ≤ F.ulp x ∧ F.ulp x ≤ 972 := by unfold F.ulp; split <;> omega
  refine (QVal_c x w h0 (by omega)).mono fun e w' hr => ?_
  have hs : F.sgn x = false := (F.sgn_iff' x).2 (by omega)
  rw [hs] at hr
  have ha : (sgm false (mant x)).natAbs < 2 ^ 53 := by
    show (mant x).natAbs < 2 ^ 53
    have : (2 : Nat) ^ 53 = 9007199254740992 := by decide
    omega
  have := RetV.s (E := 972) (T := 1074) hr ha ub.2 (by omega) (by omega)
  have e1 : sc (sgm false (mant x)) (F.ulp x) = U x := mant_U h0 h1
  rw [e1] at this
  exact this.mono (by omega) (by omega)
/-- a box of three cells, written -/
theorem blk3 {w : World} {B : Nat} {T : TypeId} {u0 u1 u2 : Value} (h : Blk w B T #[u0, u1, u2]) (v0 v1 v2 : Value) : Blk (((w.setCell ⟨B, 0, none⟩ v0).setCell ⟨B, 1, none⟩ v1).setCell ⟨B, 2, none⟩ v2) B T #[v0, v1, v2] := by
  simpa using ((h.set_ 0 v0).set_ 1 v1).set_ 2 v2
set_option maxRecDepth 100000 in
theorem rankVal_s (n : Int) (w : World) (h0 : -9218868437227405312 ≤ n) (h1 : n ≤ 9218868437227405312) : Calls Tryz.prog 122 #[.int .i64 n] w (RetS 1100 1100 w (SV n)) := by
  obtain ⟨a, ha⟩ : ∃ a : Int, (if n < 0 then -n else n) = a := ⟨_, rfl⟩
  have ab : 0 ≤ a ∧ a ≤ 9218868437227405312 := by split at ha <;> omega
  obtain ⟨J, hJ⟩ : ∃ J : Nat, J = 1024 := ⟨_, rfl⟩
  have PW : Hid (∀ W : World, Calls Tryz.prog 36 #[.int .i64 1024] W (RetZ W (2 ^ J))) := fun W => by
    have := ZPow_c J (J : Int) W (by omega) (by simp) (by omega)
    rw [show ((J : Nat) : Int).toNat = J by simp, show (J : Int) = 1024 by omega] at this
    exact this
  have QV1 : Hid (a < 9218868437227405312 → ∀ W : World, Calls Tryz.prog 25 #[.int .u64 a] W (RetS 1100 1100 W (U a))) := fun h W => QVal_s a W ab.1 (by omega)
  have NG : Hid (∀ (W : World) (u : Value), QS 1100 1100 W u (U a) → Calls Tryz.prog 132 #[u] W (RetS 1100 1100 W (-(U a)))) := fun W u h => QNeg_s h (by omega)
  have eS : SV n = if n < 0 then -(U a) else U a := by
    unfold SV
    by_cases h : n < 0
    · rw [if_pos h, if_pos h, ← ha, if_pos h]
    · rw [if_neg h, if_neg h, ← ha, if_neg h]
  rw [eS]
  have N1 := Blk.new w 41 #[.bool false, .slice none 0 0, .int .i64 0]
  have D0 : Below w.heap.size w (w.alloc (.cells #[.bool false, .slice none 0 0, .int .i64 0] 41)) := (Below.refl _ _).alloc (Nat.le_refl _) _
  obtain ⟨W0, hW0⟩ : ∃ W0, w.alloc (.cells #[.bool false, .slice none 0 0, .int .i64 0] 41) = W0 := ⟨_, rfl⟩
  rw [hW0] at N1 D0
  have KB : Hid (∀ W, Below W0.heap.size W0 W → Blk W w.heap.size 41 #[.bool false, .slice none 0 0, .int .i64 0]) := fun W hW => N1.below hW N1.lt
  have EI : Hid (a = 9218868437227405312 → sc (2 ^ J) (-0) = U a) := fun h => inf_U h hJ rfl
  have PB : Hid (((2 : Int) ^ J).natAbs < 2 ^ 1100) := by
    obtain ⟨K, hK⟩ : ∃ K : Nat, K = 1100 := ⟨_, rfl⟩
    have h : ((2 : Int) ^ J).natAbs < 2 ^ K := by
      rw [Int.natAbs_pow]
      exact Nat.pow_lt_pow_right (by decide) (by omega)
    rw [hK] at h
    exact h
  have HW0 := Lib.hid hW0
  have D0 := Lib.hid D0
  have AB := Lib.hid ab
  generalize (2 : Int) ^ J = P at *
  clear hJ
  generalize U a = s at *
  clear N1 hW0 ab eS
  by_cases hn : n < 0
  · have i1 : IntKind.i64.wrap (-n) = a := by rw [if_pos hn] at ha; rw [← ha]; exact IntWalk.i64_in _ (by omega)
    rw [if_pos hn]
    by_cases hi : a < 9218868437227405312
    · have i2 : IntKind.u64.wrap a = a := IntWalk.u64_in _ (by have := AB.out; omega)
      have Q := QV1.out hi
      have Q := Lib.hid Q
      clear ha QV1 h0 h1
      go_enter Tryz.func122, Tryz.ntmps122
      go_wp2_with (first
        | (go_at_call 36; rw [HW0.out]; (with_reducible refine (PW.out _).mono ?_); rintro e w2 ⟨_, rfl, ⟨b2, A2, n2, c2, rfl, hz⟩, hb⟩; have s9 := hb.alloc hb.size (.cells #[.bool b2, .slice A2 n2 c2, .int .i64 0] 41); have B4 := Blk.new w2 41 #[.bool b2, .slice A2 n2 c2, .int .i64 0]; have G4 := hb.size; have D := Lib.hid s9; clear hb s9 hz)
        | (go_at_call 25; (with_reducible refine (Q.out _).mono ?_); rintro e w3 ⟨b3, A3, n3, c3, t3, z3, rfl, hz, k1, k2, k3, k4, hb⟩; have B4 := B4.below hb B4.lt; have hz := set3 hz (off_q hz B4) (.bool b3) (.slice A3 n3 c3) (.int .i64 t3); have f0 := B4.frozen 0; have f1 := B4.frozen 1; have f2 := B4.frozen 2; have t0 := B4.at_ 0 rfl; have t1 := B4.at_ 1 rfl; have t2 := B4.at_ 2 rfl; have BS := blk3 B4 (.bool b3) (.slice A3 n3 c3) (.int .i64 t3); have d0 := BS.at_ 0 rfl; have d1 := BS.at_ 1 rfl; have d2 := BS.at_ 2 rfl; have D := Lib.hid (below3q (w := W0) (D.out.trans (hb.mono D.out.size)) G4 (.bool b3) (.slice A3 n3 c3) (.int .i64 t3)))
        | (go_at_call 132; (with_reducible refine (NG.out _ _ (RetS.qs hz k1 k2 k3 k4)).mono ?_); rintro e w4 ⟨b4, A4, n4, c4, t4, z4, rfl, hz4, j1, j2, j3, j4, hb4⟩; have D := Lib.hid (D.out.trans (hb4.mono D.out.size)); have R := (KB.out _ D.out); have X := Lib.hid (set3 hz4 (off_q hz4 R) (.bool b4) (.slice A4 n4 c4) (.int .i64 t4)); have f0 := R.frozen 0; have f1 := R.frozen 1; have f2 := R.frozen 2; have t0 := R.at_ 0 rfl; have t1 := R.at_ 1 rfl; have t2 := R.at_ 2 rfl))
      exact bodyPost_ret (v := .agg #[.bool b4, .slice A4 n4 c4, .int .i64 t4]) (by simp [results, Tryz.results122, go_sem, t0, t1, t2]) rfl
        ⟨_, _, _, _, _, _, rfl, X.out, j1, j2, j3, j4, below3q (D0.out.trans (D.out.mono D0.out.size)) (by omega) _ _ _⟩
    · have ei := EI.out (by have := AB.out; omega)
      have EI := Lib.hid ei
      clear ha QV1 h0 h1 ei
      go_enter Tryz.func122, Tryz.ntmps122
      go_wp2_with (first
        | (go_at_call 36; rw [HW0.out]; (with_reducible refine (PW.out _).mono ?_); rintro e w2 ⟨_, rfl, ⟨b2, A2, n2, c2, rfl, hz⟩, hb⟩; have s9 := hb.alloc hb.size (.cells #[.bool b2, .slice A2 n2 c2, .int .i64 0] 41); have hz := hz.zl.alloc (.cells #[.bool b2, .slice A2 n2 c2, .int .i64 0] 41); have D := Lib.hid s9; clear hb s9)
        | (go_at_call 132; (with_reducible refine (NG.out _ _ (RetS.qs (t := 0) hz PB.out (by omega) (by omega) EI.out)).mono ?_); rintro e w4 ⟨b4, A4, n4, c4, t4, z4, rfl, hz4, j1, j2, j3, j4, hb4⟩; have D := Lib.hid (D.out.trans (hb4.mono D.out.size)); have R := (KB.out _ D.out); have X := Lib.hid (set3 hz4 (off_q hz4 R) (.bool b4) (.slice A4 n4 c4) (.int .i64 t4)); have f0 := R.frozen 0; have f1 := R.frozen 1; have f2 := R.frozen 2; have t0 := R.at_ 0 rfl; have t1 := R.at_ 1 rfl; have t2 := R.at_ 2 rfl))
      exact bodyPost_ret (v := .agg #[.bool b4, .slice A4 n4 c4, .int .i64 t4]) (by simp [results, Tryz.results122, go_sem, t0, t1, t2]) rfl
        ⟨_, _, _, _, _, _, rfl, X.out, j1, j2, j3, j4, below3q (D0.out.trans (D.out.mono D0.out.size)) (by omega) _ _ _⟩
  · rw [if_neg hn] at ha
    subst ha
    rw [if_neg hn]
    by_cases hi : n < 9218868437227405312
    · have i2 : IntKind.u64.wrap n = n := IntWalk.u64_in _ (by have := AB.out; omega)
      have Q := QV1.out hi
      have Q := Lib.hid Q
      clear QV1 h0 h1
      go_enter Tryz.func122, Tryz.ntmps122
      go_wp2_with (first
        | (go_at_call 36; rw [HW0.out]; (with_reducible refine (PW.out _).mono ?_); rintro e w2 ⟨_, rfl, ⟨b2, A2, n2, c2, rfl, hz⟩, hb⟩; have s9 := hb.alloc hb.size (.cells #[.bool b2, .slice A2 n2 c2, .int .i64 0] 41); have B4 := Blk.new w2 41 #[.bool b2, .slice A2 n2 c2, .int .i64 0]; have G4 := hb.size; have D := Lib.hid s9; clear hb s9 hz)
        | (go_at_call 25; (with_reducible refine (Q.out _).mono ?_); rintro e w3 ⟨b3, A3, n3, c3, t3, z3, rfl, hz, k1, k2, k3, k4, hb⟩; have B4 := B4.below hb B4.lt; have hz := set3 hz (off_q hz B4) (.bool b3) (.slice A3 n3 c3) (.int .i64 t3); have f0 := B4.frozen 0; have f1 := B4.frozen 1; have f2 := B4.frozen 2; have t0 := B4.at_ 0 rfl; have t1 := B4.at_ 1 rfl; have t2 := B4.at_ 2 rfl; have BS := blk3 B4 (.bool b3) (.slice A3 n3 c3) (.int .i64 t3); have d0 := BS.at_ 0 rfl; have d1 := BS.at_ 1 rfl; have d2 := BS.at_ 2 rfl; have D := Lib.hid (below3q (w := W0) (D.out.trans (hb.mono D.out.size)) G4 (.bool b3) (.slice A3 n3 c3) (.int .i64 t3)); have R := (KB.out _ D.out); have X := Lib.hid (set3 hz (off_q hz R) (.bool b3) (.slice A3 n3 c3) (.int .i64 t3)); have g0 := R.frozen 0; have g1 := R.frozen 1; have g2 := R.frozen 2; have u0 := R.at_ 0 rfl; have u1 := R.at_ 1 rfl; have u2 := R.at_ 2 rfl))
      exact bodyPost_ret (v := .agg #[.bool b3, .slice A3 n3 c3, .int .i64 t3]) (by simp [results, Tryz.results122, go_sem, u0, u1, u2]) rfl
        ⟨_, _, _, _, _, _, rfl, X.out, k1, k2, k3, k4, below3q (D0.out.trans (D.out.mono D0.out.size)) (by omega) _ _ _⟩
    · have ei := EI.out (by have := AB.out; omega)
      have EI := Lib.hid ei
      clear QV1 h0 h1 ei
      go_enter Tryz.func122, Tryz.ntmps122
      go_wp2_with (first
        | (go_at_call 36; rw [HW0.out]; (with_reducible refine (PW.out _).mono ?_); rintro e w2 ⟨_, rfl, ⟨b2, A2, n2, c2, rfl, hz⟩, hb⟩; have s9 := hb.alloc hb.size (.cells #[.bool b2, .slice A2 n2 c2, .int .i64 0] 41); have hz := hz.zl.alloc (.cells #[.bool b2, .slice A2 n2 c2, .int .i64 0] 41); have D := Lib.hid s9; have R := (KB.out _ D.out); have X := Lib.hid (set3 hz (off_q hz R) (.bool b2) (.slice A2 n2 c2) (.int .i64 0)); have g0 := R.frozen 0; have g1 := R.frozen 1; have g2 := R.frozen 2; have u0 := R.at_ 0 rfl; have u1 := R.at_ 1 rfl; have u2 := R.at_ 2 rfl; clear hb s9))
      exact bodyPost_ret (v := .agg #[.bool b2, .slice A2 n2 c2, .int .i64 0]) (by simp [results, Tryz.results122, go_sem, u0, u1, u2]) rfl
        ⟨_, _, _, _, _, _, rfl, X.out, PB.out, by omega, by omega, EI.out, below3q (D0.out.trans (D.out.mono D0.out.size)) (by omega) _ _ _⟩
end QC
end Go.Proofs.YtelblhgagpkjmaaGreatDoor

/-
  The reference's rounding: the greatest rank whose value is no more.
-/
namespace Go.Proofs.YtelblhgagpkjmaaGreatDoor
set_option linter.unusedVariables false
set_option linter.unusedSimpArgs false
open Go.RowKit
set_option linter.unusedVariables false
set_option linter.unusedSimpArgs false
namespace QC
open Z (Nz Tz cmpv big)
open ZC DC RC
theorem td2 (x : Int) : (0 ≤ x ∧ x = 2 * x.tdiv 2 + x.tmod 2 ∧ 0 ≤ x.tmod 2 ∧ x.tmod 2 ≤ 1) ∨ (x ≤ 0 ∧ x = 2 * x.tdiv 2 + x.tmod 2 ∧ -1 ≤ x.tmod 2 ∧ x.tmod 2 ≤ 0) := by
  have h1 := Int.tmod_add_mul_tdiv x 2
  rcases Int.lt_or_le x 0 with h | h
  · right
    have h2 : (-x).tmod 2 = -(x.tmod 2) := Int.neg_tmod x 2
    have h3 : 0 ≤ (-x).tmod 2 := Int.tmod_nonneg _ (by omega)
    have h4 : (-x).tmod 2 < 2 := Int.tmod_lt_of_pos _ (by omega)
    omega
  · left
    have h3 : 0 ≤ x.tmod 2 := Int.tmod_nonneg _ h
    have h4 : x.tmod 2 < 2 := Int.tmod_lt_of_pos _ (by omega)
    omega
def IN : Int := 9218868437227405312
/-- what the search tells -/
def LowR (s l : Int) : Prop := -9218868437227405312 ≤ l ∧ l < 9218868437227405312 ∧ (l = -9218868437227405312 ∨ SV l ≤ s) ∧ (l + 1 = 9218868437227405312 ∨ s < SV (l + 1))
set_option maxRecDepth 100000 in
theorem LowRank_s (u : Value) (s : Int) {M T : Nat} (w : World) (h : QS M T w u s) (hM : M ≤ 300000) (hT : T ≤ 40000) : Calls Tryz.prog 121 #[u] w fun e w' => ∃ l, e = .returned (.int .i64 l) ∧ LowR s l ∧ Below w.heap.size w w' := by
  have QS0 := Lib.hid h
  obtain ⟨z, t, ⟨b1, A1, n1, c1, rfl, hz⟩, -⟩ := h
  have N1 := Blk.new w 41 #[.bool b1, .slice A1 n1 c1, .int .i64 t]
  have D0 : Below w.heap.size w (w.alloc (.cells #[.bool b1, .slice A1 n1 c1, .int .i64 t] 41)) := (Below.refl _ _).alloc (Nat.le_refl _) _
  obtain ⟨W0, hW0⟩ : ∃ W0, w.alloc (.cells #[.bool b1, .slice A1 n1 c1, .int .i64 t] 41) = W0 := ⟨_, rfl⟩
  rw [hW0] at N1 D0
  have KB : Hid (∀ W, Below W0.heap.size W0 W → W.cell? ⟨w.heap.size, 0, none⟩ = some (.bool b1) ∧ W.cell? ⟨w.heap.size, 1, none⟩ = some (.slice A1 n1 c1) ∧ W.cell? ⟨w.heap.size, 2, none⟩ = some (.int .i64 t)) := fun W h => ⟨(N1.below h N1.lt).at_ 0 rfl, (N1.below h N1.lt).at_ 1 rfl, (N1.below h N1.lt).at_ 2 rfl⟩
  have RV : Hid (∀ (W : World) (n : Int), -9218868437227405312 ≤ n → n ≤ 9218868437227405312 → Calls Tryz.prog 122 #[.int .i64 n] W (RetS 1100 1100 W (SV n))) := fun W n h0 h1 => rankVal_s n W h0 h1
  have QC : Hid (∀ (W : World) (v : Value) (x : Int), Below W0.heap.size W0 W → QS 1100 1100 W v x → Calls Tryz.prog 13 #[v, .agg #[.bool b1, .slice A1 n1 c1, .int .i64 t]] W fun e w' => e = .returned (.int .i64 (cmpv x s)) ∧ Below W.heap.size W w') := fun W v x hW hv =>
    QCmp_s hv ((QS0.out.below D0).below hW) (by omega) (by omega) (by omega) (by omega)
  have HW0 := Lib.hid hW0
  have D0 := Lib.hid D0
  clear hz N1 hW0 hM hT
  go_enter Tryz.func121, Tryz.ntmps121
  go_wp2
  rw [HW0.out]
  go_loopw [3, 4] (fun lv hv wr => ∃ l h : Int, lv = .int .i64 l ∧ hv = .int .i64 h ∧ -9218868437227405312 ≤ l ∧ l < h ∧ h ≤ 9218868437227405312 ∧ Hid (l = -9218868437227405312 ∨ SV l ≤ s) ∧ Hid (h = 9218868437227405312 ∨ s < SV h) ∧ Hid (Below W0.heap.size W0 wr)) (fun lv hv _ => (intOf hv - intOf lv).toNat)
  case atStart => exact ⟨_, _, rfl, rfl, by omega, by omega, by omega, .inl rfl, .inl rfl, Below.refl _ _⟩
  case round =>
    obtain ⟨l, h, rfl, rfl, k1, k2, k3, hl, hh, hD⟩ := hrel
    have i1 : IntKind.i64.wrap (l + 1) = l + 1 := IntWalk.i64_in _ (by omega)
    by_cases h9 : l + 1 < h
    · obtain ⟨p0, p1, p2⟩ := KB.out _ hD.out
      have q1 := td2 l
      have q2 := td2 h
      obtain ⟨la, hla⟩ : ∃ la, l.tdiv 2 = la := ⟨_, rfl⟩
      obtain ⟨ha, hha⟩ : ∃ ha, h.tdiv 2 = ha := ⟨_, rfl⟩
      obtain ⟨lm, hlm⟩ : ∃ lm, l.tmod 2 = lm := ⟨_, rfl⟩
      obtain ⟨hm, hhm⟩ : ∃ hm, h.tmod 2 = hm := ⟨_, rfl⟩
      rw [hla, hlm] at q1
      rw [hha, hhm] at q2
      have q3 := td2 (lm + hm)
      obtain ⟨md, hmd⟩ : ∃ md, (lm + hm).tdiv 2 = md := ⟨_, rfl⟩
      rw [hmd] at q3
      generalize (lm + hm).tmod 2 = mm at q3
      have j1 : IntKind.i64.wrap la = la := IntWalk.i64_in _ (by omega)
      have j2 : IntKind.i64.wrap ha = ha := IntWalk.i64_in _ (by omega)
      have j3 : IntKind.i64.wrap (la + ha) = la + ha := IntWalk.i64_in _ (by omega)
      have j4 : IntKind.i64.wrap lm = lm := IntWalk.i64_in _ (by omega)
      have j5 : IntKind.i64.wrap hm = hm := IntWalk.i64_in _ (by omega)
      have j6 : IntKind.i64.wrap (lm + hm) = lm + hm := IntWalk.i64_in _ (by omega)
      have j7 : IntKind.i64.wrap md = md := IntWalk.i64_in _ (by omega)
      have j8 : IntKind.i64.wrap (la + ha + md) = la + ha + md := IntWalk.i64_in _ (by omega)
      have hM : Hid (l < la + ha + md ∧ la + ha + md < h) := ⟨by omega, by omega⟩
      clear q1 q2 q3
      go_upto_region 4 with fail
      obtain ⟨m, hm⟩ : ∃ m, la + ha + md = m := ⟨_, rfl⟩
      rw [hm] at hM ⊢
      clear j1 j2 j3 j4 j5 j6 j7 j8 hla hha hlm hhm hmd hm i1
      have D : Below W0.heap.size W0 wr.drew := hD.out.drew
      have m1 : -9218868437227405312 ≤ m := by have := hM.out; omega
      have m2 : m ≤ 9218868437227405312 := by have := hM.out; omega
      obtain ⟨K, hK⟩ : ∃ K, cmpv (SV m) s = K := ⟨_, rfl⟩
      have HK := Lib.hid hK
      (refine wp_region_L (S := fun w' => w'.cell? ⟨w.heap.size, 0, none⟩ = some (.bool b1) ∧ w'.cell? ⟨w.heap.size, 1, none⟩ = some (.slice A1 n1 c1) ∧ w'.cell? ⟨w.heap.size, 2, none⟩ = some (.int .i64 t)) (nl := 1000000) (by kernel_rfl) ?_ (fun hHeld => ?_); focus (exact KB.out _ D))
      (refine wpAnyL_take (i := 0) (oi := _) (v := ?_) rfl (by kernel_rfl) (by kernel_rfl) (by kernel_rfl) (fun _ _ _ h => h) (Or.inl ⟨by first | rfl | kernel_rfl, ?hy1⟩) (by assumption) ?rs1; (case hy1 => (intro w hSw; (try dsimp only at hSw); go_simp; first | done | with_reducible rfl)); case' rs1 => (simp only [List.getElem_toArray, List.getElem_cons_zero, List.getElem_cons_succ, Act.put, List.setIfInBounds_toArray, List.set_cons_zero, List.set_cons_succ])); (refine wpAnyL_take (i := 2) (oi := _) (v := ?_) rfl (by kernel_rfl) (by kernel_rfl) (by kernel_rfl) (fun _ _ _ h => h) (Or.inl ⟨by first | rfl | kernel_rfl, ?hy2⟩) (by assumption) ?rs2; (case hy2 => (intro w hSw; (try dsimp only at hSw); go_simp; first | done | with_reducible rfl)); case' rs2 => (simp only [List.getElem_toArray, List.getElem_cons_zero, List.getElem_cons_succ, Act.put, List.setIfInBounds_toArray, List.set_cons_zero, List.set_cons_succ])); skip
      (refine wpAnyL_one (i := 1) (o := _) (by kernel_rfl) rfl (fun K hK => ?_); clear hHeld; simp only [List.getElem_toArray, List.getElem_cons_zero, List.getElem_cons_succ]; go_simp; (go_at_call 122; (with_reducible refine (RV.out _ _ m1 m2).mono ?_); rintro e w2 ⟨b2, A2, n2, c2, t2, z2, rfl, hz2, y1, y2, y3, y4, hb2⟩; have D := D.trans (hb2.mono D.size)); refine hK.out _ _ ?_ (fun hHeld => ?_); focus (intro _; exact KB.out _ D)); have hHeld := hHeld (by decide); clear hK K; (try simp only [Act.put, List.setIfInBounds_toArray, List.set_cons_zero, List.set_cons_succ])
      (refine wpAnyL_one (i := 3) (o := _) (by kernel_rfl) rfl (fun K hK => ?_); clear hHeld; simp only [List.getElem_toArray, List.getElem_cons_zero, List.getElem_cons_succ]; go_simp; (go_at_call 13; (with_reducible refine (QC.out _ _ _ D (RetS.qs hz2 y1 y2 y3 y4)).mono ?_); rintro e w3 ⟨rfl, hb3⟩; have D := D.trans (hb3.mono D.size)); refine hK.out _ _ ?_ (fun hHeld => ?_); focus (intro _; exact KB.out _ D)); have hHeld := hHeld (by decide); clear hK K; (try simp only [Act.put, List.setIfInBounds_toArray, List.set_cons_zero, List.set_cons_succ])
      (refine wpAnyL_take (i := 4) (oi := _) (v := ?_) rfl (by kernel_rfl) (by kernel_rfl) (by kernel_rfl) (fun _ _ _ h => h) (Or.inl ⟨by first | rfl | kernel_rfl, ?hy3⟩) (by assumption) ?rs3; (case hy3 => (intro w hSw; (try dsimp only at hSw); go_simp; first | done | with_reducible rfl)); case' rs3 => (simp only [List.getElem_toArray, List.getElem_cons_zero, List.getElem_cons_succ, Act.put, List.setIfInBounds_toArray, List.set_cons_zero, List.set_cons_succ])); skip
      refine wpAnyL_done (by kernel_rfl) ?_ _
      rw [hK]
      have D := Lib.hid D
      clear hz2 y1 y2 y3 y4 hb2 hb3 hHeld hK p0 p1 p2
      by_cases hk : K ≤ 0
      · have HL : Hid (m = -9218868437227405312 ∨ SV m ≤ s) := .inr (by
          have := HK.out
          rcases Int.lt_trichotomy (SV m) s with h | h | h
          · omega
          · omega
          · rw [Z.cmpv_gt h] at this; omega)
        go_wp2
        exact ⟨⟨m, h, rfl, rfl, m1, hM.out.2, k3, HL.out, hh.out, D.out⟩, by have := hM.out; simp only [intOf]; omega⟩
      · have HH : Hid (m = 9218868437227405312 ∨ s < SV m) := .inr (by
          have := HK.out
          rcases Int.lt_trichotomy (SV m) s with h | h | h
          · rw [Z.cmpv_lt h] at this; omega
          · rw [Z.cmpv_eq h] at this; omega
          · exact h)
        go_wp2
        exact ⟨⟨l, m, rfl, rfl, k1, hM.out.1, m2, hl.out, HH.out, D.out⟩, by have := hM.out; simp only [intOf]; omega⟩
    · have hh' : h = l + 1 := by omega
      subst hh'
      have HL : Hid (LowR s l) := ⟨k1, by omega, hl.out, hh.out⟩
      clear h9
      go_wp2
      go_ret
      exact ⟨l, rfl, HL.out, D0.out.trans (hD.out.mono D0.out.size)⟩
end QC
end Go.Proofs.YtelblhgagpkjmaaGreatDoor

/-
  The reference's rounding: Rounded.
-/
namespace Go.Proofs.YtelblhgagpkjmaaGreatDoor
set_option linter.unusedVariables false
set_option linter.unusedSimpArgs false
open Go.RowKit
set_option linter.unusedVariables false
set_option linter.unusedSimpArgs false
namespace QC
open Z (Nz Tz cmpv big)
open ZC DC RC
theorem tell_c (n : Int) (b : Bool) (g : Nat) (w : World) (h0 : -9218868437227405312 ≤ n) (h1 : n ≤ 9218868437227405312) (hg : w.cell? ⟨g, 0, none⟩ = some (.bool b)) :
    Calls Tryz.prog 124 #[.int .i64 n, .pointer (some ⟨g, 0, none⟩)] w fun e w' => e = .returned (.tuple #[.int .u64 (if n = 0 ∧ b = true then 9223372036854775808 else F.num n), .bool true]) ∧ w = w' := by
  have RK : Hid (∀ W : World, Calls Tryz.prog 123 #[.int .i64 n] W fun e w' => e = .returned (.int .u64 (F.num n)) ∧ W = w') := fun W => FloatR.Ranked_c n h0 h1 W
  by_cases hn : n = 0
  · subst hn
    cases b
    · rw [if_neg (by simp)]
      generalize F.num 0 = y at *
      go_enter Tryz.func124, Tryz.ntmps124
      go_wp2_with (go_at_call 123; (with_reducible refine (RK.out _).mono ?_); rintro e w2 ⟨rfl, rfl⟩)
      go_ret2
      exact ⟨rfl, rfl⟩
    · rw [if_pos ⟨rfl, rfl⟩]
      go_enter Tryz.func124, Tryz.ntmps124
      go_wp2
      go_ret2
      exact ⟨rfl, rfl⟩
  · rw [if_neg (fun h => hn h.1)]
    have t1 : (n == 0) = false := by simp [hn]
    generalize F.num n = y at *
    clear hn
    go_enter Tryz.func124, Tryz.ntmps124
    go_wp2_with (go_at_call 123; (with_reducible refine (RK.out _).mono ?_); rintro e w2 ⟨rfl, rfl⟩)
    go_ret2
    exact ⟨rfl, rfl⟩
theorem SV_lt {m n : Int} (h : m < n) : SV m < SV n := by
  unfold SV
  by_cases h1 : m < 0
  · rw [if_pos h1]
    by_cases h2 : n < 0
    · rw [if_pos h2]
      have := U_lt (r := -n) (s := -m) (by omega) (by omega)
      omega
    · rw [if_neg h2]
      have a := U_lt (r := 0) (s := -m) (by omega) (by omega)
      rw [U_zero] at a
      have := U_pos (r := n) (by omega)
      omega
  · rw [if_neg h1, if_neg (by omega)]
    exact U_lt (by omega) h
theorem SV_le {m n : Int} (h : m ≤ n) : SV m ≤ SV n := by
  rcases Int.lt_or_eq_of_le h with h | rfl
  · exact Int.le_of_lt (SV_lt h)
  · exact Int.le_refl _
theorem LowR.unique {s l l' : Int} (h : LowR s l) (h' : LowR s l') : l = l' := by
  obtain ⟨a1, a2, a3, a4⟩ := h
  obtain ⟨b1, b2, b3, b4⟩ := h'
  rcases Int.lt_trichotomy l l' with h | h | h
  · have := SV_le (show l + 1 ≤ l' by omega)
    omega
  · exact h
  · have := SV_le (show l' + 1 ≤ l by omega)
    omega
/-- the one that the search finds -/
def lw (s r : Int) (hf m : Bool) : Int := if s < 0 then (if hf = false ∧ m = false then -r else -(r + 1)) else r
def sa (s : Int) : Int := if s < 0 then -s else s
theorem exact_iff {a r : Int} {hf m : Bool} (t : Tow a r hf m) : (hf = false ∧ m = false) ↔ a = U r := by
  have g := U_lt t.r0 (show r < r + 1 by omega)
  have h1 := t.hh
  have h2 := t.hm
  have lo1 := t.lo
  constructor
  · rintro ⟨rfl, rfl⟩
    have h1 : ¬ (U r + U (r + 1) ≤ 2 * a) := fun h => by rw [decide_eq_true h] at h1; cases h1
    have h2 : ¬ (a ≠ U r ∧ 2 * a ≠ U r + U (r + 1)) := fun h => by rw [decide_eq_true h] at h2; cases h2
    omega
  · intro h
    rw [h1, h2]
    exact ⟨decide_eq_false (by omega), decide_eq_false (by omega)⟩
theorem lw_low {s r : Int} {hf m : Bool} (t : Tow (sa s) r hf m) : LowR s (lw s r hf m) := by
  have e := exact_iff t
  have r0 := t.r0
  have r1 := t.r1
  have lo1 := t.lo
  have hi1 := t.hi
  unfold lw sa at *
  by_cases hs : s < 0
  · rw [if_pos hs] at *
    by_cases he : hf = false ∧ m = false
    · rw [if_pos he]
      have ea := e.1 he
      have hr : r ≠ 0 := by rintro rfl; rw [U_zero] at ea; omega
      refine ⟨by omega, by omega, .inr ?_, .inr ?_⟩
      · unfold SV; rw [if_pos (by omega), Int.neg_neg]; omega
      · have := SV_lt (show -r < -r + 1 by omega)
        have e2 : SV (-r) = -(U r) := by unfold SV; rw [if_pos (by omega), Int.neg_neg]
        omega
    · rw [if_neg he]
      have ea : -s ≠ U r := fun h => he (e.2 h)
      refine ⟨by omega, by omega, ?_, .inr ?_⟩
      · by_cases hm : r = 9218868437227405311
        · left; omega
        · right
          have := hi1 (by omega)
          unfold SV; rw [if_pos (by omega), Int.neg_neg]; omega
      · rw [show -(r + 1) + 1 = -r by omega]
        unfold SV
        by_cases h0 : r = 0
        · subst h0
          rw [U_zero] at lo1 ea
          rw [if_neg (by omega), show (-0 : Int) = 0 from rfl, U_zero]; omega
        · rw [if_pos (by omega), Int.neg_neg]; omega
  · rw [if_neg hs] at *
    refine ⟨by omega, by omega, .inr ?_, ?_⟩
    · unfold SV; rw [if_neg (by omega)]; exact lo1
    · by_cases hm : r = 9218868437227405311
      · left; omega
      · right
        unfold SV; rw [if_neg (by omega)]; exact hi1 (by omega)
/-- is it just that rank's value? -/
theorem lw_same {s r : Int} {hf m : Bool} (t : Tow (sa s) r hf m) : (hf = false ∧ m = false) ↔ (-9218868437227405312 < lw s r hf m ∧ SV (lw s r hf m) = s) := by
  have e := exact_iff t
  have r0 := t.r0
  have r1 := t.r1
  have hi1 := t.hi
  unfold lw sa at *
  by_cases hs : s < 0
  · rw [if_pos hs] at *
    by_cases he : hf = false ∧ m = false
    · rw [if_pos he]
      have ea := e.1 he
      have hr : r ≠ 0 := by rintro rfl; rw [U_zero] at ea; omega
      refine ⟨fun _ => ⟨by omega, ?_⟩, fun _ => he⟩
      unfold SV; rw [if_pos (by omega), Int.neg_neg]; omega
    · rw [if_neg he]
      refine ⟨fun h => absurd h he, fun ⟨h1, h2⟩ => ?_⟩
      exfalso
      unfold SV at h2
      rw [if_pos (by omega), Int.neg_neg] at h2
      have := hi1 (by omega)
      omega
  · rw [if_neg hs] at *
    rw [e]
    have e2 : SV r = U r := by unfold SV; rw [if_neg (by omega)]
    rw [e2]
    refine ⟨fun h => ⟨by omega, h.symm⟩, fun h => h.2.symm⟩
end QC
end Go.Proofs.YtelblhgagpkjmaaGreatDoor

/-
  Numbers over a power of two, with digits in new memory.
-/
namespace Go.Proofs.YtelblhgagpkjmaaGreatDoor
set_option linter.unusedVariables false
set_option linter.unusedSimpArgs false
open Go.RowKit
set_option linter.unusedVariables false
set_option linter.unusedSimpArgs false
namespace ZC
open Z
/-- the same slice, maybe shorter -/
def RetN (w : World) (A : Option Addr) (n c : Nat) (z : Int) (e : Ending) (w' : World) : Prop := ∃ b m, e = .returned (.agg #[.bool b, .slice A m c]) ∧ m ≤ n ∧ ZL w' b A m c z ∧ Below w.heap.size w w'
theorem ZNeg_f (b : Bool) (A : Option Addr) (n c : Nat) (a : Int) (w : World) (ha : ZL w b A n c a) (bA : a.natAbs < big 1000000) :
    Calls Tryz.prog 55 #[.agg #[.bool b, .slice A n c]] w (RetN w A n c (-a)) := by
  have lL := ha.len bA
  have ha' := (ha.alloc (.cells #[.bool b, .slice A n c] 39)).alloc (.cells #[.bool false, .slice none 0 0] 39)
  obtain ⟨hb, L, hn, hs, dL, nL, vL⟩ := ha'
  have tr := trim_c (!b) A n c L _ hs dL (by omega)
  rw [show sg (!b) (val L) = -a by rw [vL, hb]; by_cases h : a < 0 <;> simp [sg, h] <;> omega] at tr
  have TR := Lib.hid tr
  clear hs dL nL lL bA hn vL tr hb ha
  go_enter Tryz.func55, Tryz.ntmps55
  go_wp2_with (first | (go_at_call 76; (with_reducible refine (TR.out).mono ?_); rintro e w1 ⟨b1, n1, rfl, hm1, hv1, hb1⟩ ; obtain ⟨hc1, hf1⟩ := bcell hb1 ; have hz1 := hb1.size))
  have bw : Below w.heap.size w w1 := (((Below.refl _ _).alloc (Nat.le_refl _) _).alloc (by simp) _).trans (hb1.mono (by simp; omega))
  have c0 : w1.cell? ⟨w.heap.size + 1, 0, none⟩ = some (.bool false) := by rw [hb1.cell (by simp)]; simp [go_sem]
  have c1' : w1.cell? ⟨w.heap.size + 1, 1, none⟩ = some (.slice none 0 0) := by rw [hb1.cell (by simp)]; simp [go_sem]
  exact bodyPost_ret (v := .agg #[.bool b1, .slice A n1 c]) (by simp [results, Tryz.results55, go_sem, c0, c1']) rfl
    ⟨_, _, rfl, hm1, (hv1.setCell c0 (fun z h => by cases h) _).setCell (p := ⟨w.heap.size + 1, 1, none⟩) (u := .slice none 0 0) (by rw [World.cell?_setCell_other _ _ _ _ (by simp)]; exact c1') (fun z h => by cases h) _, (bw.setCell (by simp) _).setCell (by simp) _⟩
end ZC
namespace VC
open Z (Nz Tz cmpv big)
open ZC DC RC QC
def RetVF (w : World) (z t : Int) (e : Ending) (w' : World) : Prop := ∃ b A n c, e = .returned (.agg #[.bool b, .slice A n c, .int .i64 t]) ∧ ZL w' b A n c z ∧ Fr w.heap.size A n ∧ Below w.heap.size w w'
def RetQF (w : World) (B : Nat) (z t : Int) (e : Ending) (w' : World) : Prop := ∃ b A n c, e = .returned (.agg #[.bool b, .slice A n c, .int .i64 t]) ∧ ZL w' b A n c z ∧ Fr B A n ∧ Below w.heap.size w w'
def RetSF (M T : Nat) (w : World) (s : Int) (e : Ending) (w' : World) : Prop := ∃ b A n c t z, e = .returned (.agg #[.bool b, .slice A n c, .int .i64 t]) ∧ ZL w' b A n c z ∧ z.natAbs < 2 ^ M ∧ 0 ≤ t ∧ t ≤ T ∧ sc z (-t) = s ∧ Fr w.heap.size A n ∧ Below w.heap.size w w'
set_option maxRecDepth 100000 in
theorem QMake_upf (va : Value) (a : Int) (k : Nat) (w : World) (ha : ZV w va a) (bA : a.natAbs < big 1000000) (hk : k ≤ 100000) : Calls Tryz.prog 27 #[va, .int .i64 k] w (RetVF w (a * 2 ^ k) 0) := by
  obtain ⟨b, A, n, c, rfl, hv⟩ := ha
  have N := new2 w 39 41 #[.bool b, .slice A n c] #[.bool false, .slice none 0 0, .int .i64 0] 0
  obtain ⟨N1, N2, NS, D0⟩ := N
  rw [World.drewN_zero] at N1 N2 NS D0
  obtain ⟨W0, hW0⟩ : ∃ W0, (w.alloc (.cells #[.bool b, .slice A n c] 39)).alloc (.cells #[.bool false, .slice none 0 0, .int .i64 0] 41) = W0 := ⟨_, rfl⟩
  rw [hW0] at N1 N2 NS D0
  have KC : Hid (∀ W, Below W0.heap.size W0 W → W.cell? ⟨w.heap.size, 0, none⟩ = some (.bool b) ∧ W.cell? ⟨w.heap.size, 1, none⟩ = some (.slice A n c)) := fun W h => ⟨(N1.below h N1.lt).at_ 0 rfl, (N1.below h N1.lt).at_ 1 rfl⟩
  have KR : Hid (∀ W, Below W0.heap.size W0 W → Blk W (w.heap.size + 1) 41 #[.bool false, .slice none 0 0, .int .i64 0]) := fun W h => N2.below h N2.lt
  have VA : Hid (∀ W, Below W0.heap.size W0 W → ZV W (.agg #[.bool b, .slice A n c]) a) := fun W h => (((hv.below D0).below h)).v
  have PW : Hid (∀ W : World, Calls Tryz.prog 36 #[.int .i64 k] W (RetZ W (2 ^ k))) := fun W => by
    have := ZPow_c k (k : Int) W (by omega) (by simp) (by omega)
    simpa using this
  have MU : Hid (∀ (W : World) (u v : Value), ZV W u a → ZV W v (2 ^ k) → Calls Tryz.prog 54 #[u, v] W (RetZ W (a * 2 ^ k))) := fun W u v h1 h2 => ZMul_c u v _ _ W h1 h2 bA (pow2_big k (by omega))
  have HS : Hid (W0.heap.size = w.heap.size + 2) := NS
  have HW0 := Lib.hid hW0
  have D0 := Lib.hid D0
  generalize a * 2 ^ k = r at *
  generalize (2 : Int) ^ k = pk at *
  have hk0 : (0 : Int) ≤ k := by omega
  obtain ⟨K, hK⟩ : ∃ K : Int, (k : Int) = K := ⟨_, rfl⟩
  rw [hK] at PW hk0 ⊢
  clear N1 N2 NS hv bA hk hK hW0
  go_enter Tryz.func27, Tryz.ntmps27
  go_upto_region 2 with fail
  rw [HW0.out]
  have D : Below W0.heap.size W0 W0.drew := (Below.refl _ _).drew
  (refine wp_region_L (S := fun w' => w'.cell? ⟨w.heap.size, 0, none⟩ = some (.bool b) ∧ w'.cell? ⟨w.heap.size, 1, none⟩ = some (.slice A n c)) (nl := 1000000) (by kernel_rfl) ?_ (fun hHeld => ?_); focus (exact KC.out _ D))
  (refine wpAnyL_take (i := 0) (oi := _) (v := ?_) rfl (by kernel_rfl) (by kernel_rfl) (by kernel_rfl) (fun _ _ _ h => h) (Or.inl ⟨by first | rfl | kernel_rfl, ?hy4⟩) (by assumption) ?rs4; (case hy4 => (intro w hSw; (try dsimp only at hSw); go_simp; first | done | with_reducible rfl)); case' rs4 => (simp only [List.getElem_toArray, List.getElem_cons_zero, List.getElem_cons_succ, Act.put, List.setIfInBounds_toArray, List.set_cons_zero, List.set_cons_succ])); (refine wpAnyL_take (i := 1) (oi := _) (v := ?_) rfl (by kernel_rfl) (by kernel_rfl) (by kernel_rfl) (fun _ _ _ h => h) (Or.inl ⟨by first | rfl | kernel_rfl, ?hy5⟩) (by assumption) ?rs5; (case hy5 => (intro w hSw; (try dsimp only at hSw); go_simp; first | done | with_reducible rfl)); case' rs5 => (simp only [List.getElem_toArray, List.getElem_cons_zero, List.getElem_cons_succ, Act.put, List.setIfInBounds_toArray, List.set_cons_zero, List.set_cons_succ])); skip
  (refine wpAnyL_one (i := 2) (o := _) (by kernel_rfl) rfl (fun K hK => ?_); clear hHeld; simp only [List.getElem_toArray, List.getElem_cons_zero, List.getElem_cons_succ]; go_simp; (go_at_call 36; (with_reducible refine (PW.out _).mono ?_); rintro e w1 ⟨_, rfl, ⟨b1, A1, n1, c1, rfl, hp⟩, hb⟩; have D := D.trans (hb.mono D.size)); refine hK.out _ _ ?_ (fun hHeld => ?_); focus (intro _; exact KC.out _ D)); have hHeld := hHeld (by decide); clear hK K; (try simp only [Act.put, List.setIfInBounds_toArray, List.set_cons_zero, List.set_cons_succ])
  (refine wpAnyL_one (i := 3) (o := _) (by kernel_rfl) rfl (fun K hK => ?_); clear hHeld; simp only [List.getElem_toArray, List.getElem_cons_zero, List.getElem_cons_succ]; go_simp; (go_at_call 54; (with_reducible refine (MU.out _ _ _ (VA.out _ D) hp.v).mono ?_); rintro e w2 ⟨_, rfl, ⟨b2, A2, n2, c2, rfl, hr⟩, hb2⟩; have D1 := D.size; have D := D.trans (hb2.mono D.size)); refine hK.out _ _ ?_ (fun hHeld => ?_); focus (intro _; exact KC.out _ D)); have hHeld := hHeld (by decide); clear hK K; (try simp only [Act.put, List.setIfInBounds_toArray, List.set_cons_zero, List.set_cons_succ])
  (refine wpAnyL_take (i := 4) (oi := _) (v := ?_) rfl (by kernel_rfl) (by kernel_rfl) (by kernel_rfl) (fun _ _ _ h => h) (Or.inl ⟨by first | rfl | kernel_rfl, ?hy6⟩) (by assumption) ?rs6; (case hy6 => (intro w hSw; (try dsimp only at hSw); go_simp; first | done | with_reducible rfl)); case' rs6 => (simp only [List.getElem_toArray, List.getElem_cons_zero, List.getElem_cons_succ, Act.put, List.setIfInBounds_toArray, List.set_cons_zero, List.set_cons_succ])); skip
  have R := KR.out _ D
  have F9 := Lib.hid (hr.fr.mono (show w.heap.size ≤ _ by have := HS.out; omega))
  have of := off_new hr.fr (g := w.heap.size + 1) (by have := HS.out; omega)
  have f0 := R.frozen 0; have f1 := R.frozen 1; have f2 := R.frozen 2; have t0 := R.at_ 0 rfl; have t1 := R.at_ 1 rfl; have t2 := R.at_ 2 rfl
  have X := Lib.hid (set3 hr.zl of (.bool b2) (.slice A2 n2 c2) (.int .i64 0))
  have hS := KC.out _ D
  have D := Lib.hid D
  (refine wpAnyL_one (i := 5) (o := _) (by kernel_rfl) rfl (fun K hK => ?_); clear hHeld; simp only [List.getElem_toArray, List.getElem_cons_zero, List.getElem_cons_succ]; go_simp; refine hK.out _ _ ?_ (fun hHeld => ?_); focus (intro _; (obtain ⟨s0, s1⟩ := KC.out _ D.out; refine ⟨?_, ?_⟩ <;> (repeat rw [World.cell?_setCell_other _ _ _ _ (by simp)]) <;> assumption))); have hHeld := hHeld (by decide); clear hK K; (try simp only [Act.put, List.setIfInBounds_toArray, List.set_cons_zero, List.set_cons_succ])
  refine wpAnyL_done (by kernel_rfl) ?_ _
  go_wp2
  exact bodyPost_ret (v := .agg #[.bool b2, .slice A2 n2 c2, .int .i64 0]) (by simp [results, Tryz.results27, go_sem, t0, t1, t2]) rfl
    ⟨_, _, _, _, rfl, X.out, F9.out, below3q (D0.out.trans (D.out.mono D0.out.size)) (by omega) _ _ _⟩
theorem QMake_dnf (b : Bool) (A : Option Addr) (n c : Nat) (a e : Int) (B : Nat) (w : World) (hv : ZL w b A n c a) (h0 : e < 0) (h1 : -100000 ≤ e) (hf : Fr B A n) : Calls Tryz.prog 27 #[.agg #[.bool b, .slice A n c], .int .i64 e] w (RetQF w B a (-e)) := by
  have i1 : IntKind.i64.wrap (-e) = -e := IntWalk.i64_in _ (by omega)
  have h2 : ¬ 0 ≤ e := by omega
  have X := (hv.alloc (.cells #[.bool b, .slice A n c] 39)).alloc (.cells #[.bool b, .slice A n c, .int .i64 (-e)] 41)
  have D : Below w.heap.size w ((w.alloc (.cells #[.bool b, .slice A n c] 39)).alloc (.cells #[.bool b, .slice A n c, .int .i64 (-e)] 41)) := ((Below.refl _ _).alloc (Nat.le_refl _) _).alloc (by simp) _
  have X := Lib.hid X
  clear hv h0 h1
  go_enter Tryz.func27, Tryz.ntmps27
  go_wp2
  exact bodyPost_ret (v := .agg #[.bool b, .slice A n c, .int .i64 (-e)]) (by simp [results, Tryz.results27, go_sem]) rfl ⟨_, _, _, _, rfl, X.out, hf, D⟩
theorem QMake_f (b : Bool) (A : Option Addr) (n c : Nat) (a e : Int) (B : Nat) (w : World) (hv : ZL w b A n c a) (bA : a.natAbs < big 1000000) (h1 : -100000 ≤ e) (h2 : e ≤ 100000) (hf : Fr B A n) (hB : B ≤ w.heap.size) : Calls Tryz.prog 27 #[.agg #[.bool b, .slice A n c], .int .i64 e] w (RetQF w B (mkz a e) (mkt e)) := by
  unfold mkz mkt
  by_cases h0 : 0 ≤ e
  · rw [if_pos h0, if_pos h0]
    obtain ⟨k, rfl⟩ := Int.eq_ofNat_of_zero_le h0
    refine (QMake_upf _ a k w hv.v bA (by omega)).mono ?_
    rintro en w' ⟨b9, A9, n9, c9, rfl, hr, hf9, hb9⟩
    exact ⟨b9, A9, n9, c9, rfl, hr, hf9.mono hB, hb9⟩
  · rw [if_neg h0, if_neg h0]
    exact QMake_dnf b A n c a e B w hv (by omega) h1 hf
set_option maxRecDepth 100000 in
theorem QVal_f (x : Int) (w : World) (h0 : 0 ≤ x) (h1 : x ≤ 18446744073709551615) : Calls Tryz.prog 25 #[.int .u64 x] w (RetVF w (mkz (sgm (F.sgn x) (mant x)) (F.ulp x)) (mkt (F.ulp x))) := by
  have FI : Hid (∀ W, Calls Tryz.prog 52 #[.int .u64 x] W fun e w' => e = .returned (.tuple #[.bool (F.sgn x), .int .i64 (F.exq x), .int .i64 (F.fra x)]) ∧ W = w') := fun W => FloatR.Fields_c x h0 h1 W
  have hb := F.exq_bd x
  have hf := F.fra_bd x
  have mb : 0 ≤ mant x ∧ mant x < 9007199254740992 := by unfold mant; split <;> omega
  have N1 : Hid (∀ W, Calls Tryz.prog 28 #[.int .i64 (mant x / 1000000000)] W (RetZ W (mant x / 1000000000))) := fun W => N_c _ (by omega) (by omega) W
  have N2 : Hid (∀ W, Calls Tryz.prog 28 #[.int .i64 1000000000] W (RetZ W 1000000000)) := fun W => N_c _ (by omega) (by omega) W
  have N3 : Hid (∀ W, Calls Tryz.prog 28 #[.int .i64 (mant x % 1000000000)] W (RetZ W (mant x % 1000000000))) := fun W => N_c _ (by omega) (by omega) W
  have b0 : ∀ y : Int, 0 ≤ y → y < 10000000000000000 → y.natAbs < big 1000000 := fun y h0 h1 => by
    have h2 : (2 : Nat) ^ 60 = 1152921504606846976 := by decide
    exact lt_big (M := 60) (by rw [h2]; omega) (by omega) (by omega)
  have MU : Hid (∀ (W : World) (u v : Value), ZV W u (mant x / 1000000000) → ZV W v 1000000000 → Calls Tryz.prog 54 #[u, v] W (RetZ W (mant x / 1000000000 * 1000000000))) := fun W u v h1 h2 => ZMul_c u v _ _ W h1 h2 (b0 (mant x / 1000000000) (by omega) (by omega)) (b0 1000000000 (by omega) (by omega))
  have AD : Hid (∀ (W : World) (u v : Value), ZV W u (mant x / 1000000000 * 1000000000) → ZV W v (mant x % 1000000000) → Calls Tryz.prog 53 #[u, v] W (RetZ W (mant x))) := fun W u v h1 h2 => by
    have := ZAdd_c u v _ _ W h1 h2 (b0 (mant x / 1000000000 * 1000000000) (by omega) (by omega)) (b0 (mant x % 1000000000) (by omega) (by omega))
    rwa [show mant x / 1000000000 * 1000000000 + mant x % 1000000000 = mant x by omega] at this
  have NG : Hid (∀ (W : World) (b : Bool) (A : Option Addr) (n c : Nat), ZL W b A n c (mant x) → Calls Tryz.prog 55 #[.agg #[.bool b, .slice A n c]] W (RetN W A n c (-(mant x)))) := fun W b A n c h1 => ZNeg_f b A n c _ W h1 (b0 (mant x) (by omega) (by omega))
  have ub : -1074 ≤ F.ulp x ∧ F.ulp x ≤ 972 := by unfold F.ulp; split <;> omega
  have MK : Hid (∀ (W : World) (b : Bool) (A : Option Addr) (n c : Nat), ZL W b A n c (sgm (F.sgn x) (mant x)) → Fr w.heap.size A n → w.heap.size ≤ W.heap.size → Calls Tryz.prog 27 #[.agg #[.bool b, .slice A n c], .int .i64 (F.ulp x)] W (RetQF W w.heap.size (mkz (sgm (F.sgn x) (mant x)) (F.ulp x)) (mkt (F.ulp x)))) := fun W b A n c hu hf hB => by
    refine QMake_f b A n c _ (F.ulp x) w.heap.size W hu ?_ (by omega) (by omega) hf hB
    unfold sgm
    cases F.sgn x
    · simp; exact b0 (mant x) (by omega) (by omega)
    · simp; exact b0 (mant x) (by omega) (by omega)
  have EU : Hid (max (F.exq x) 1 - 1075 = F.ulp x) := by unfold Hid F.ulp; split <;> omega
  have EM : Hid ((0 < F.exq x ∧ F.fra x + 4503599627370496 = mant x) ∨ (¬ 0 < F.exq x ∧ F.fra x = mant x)) := by
    by_cases h : 0 < F.exq x
    · left; unfold mant; rw [if_pos h]; exact ⟨h, rfl⟩
    · right; unfold mant; rw [if_neg h]; exact ⟨h, rfl⟩
  have i1 : IntKind.i64.wrap (F.fra x + 4503599627370496) = F.fra x + 4503599627370496 := IntWalk.i64_in _ (by omega)
  have i2 : IntKind.i64.wrap (F.ulp x) = F.ulp x := IntWalk.i64_in _ (by omega)
  generalize mkz (sgm (F.sgn x) (mant x)) (F.ulp x) = r at *
  generalize mkt (F.ulp x) = T at *
  generalize mant x = m at *
  generalize F.ulp x = U at *
  generalize F.sgn x = sg at *
  generalize F.exq x = ex at *
  generalize F.fra x = fr at *
  obtain ⟨N1', N2', NS, D0⟩ : Blk (w.alloc (.cells #[.bool false, .slice none 0 0, .int .i64 0] 41)) w.heap.size 41 #[.bool false, .slice none 0 0, .int .i64 0] ∧ True ∧ (w.alloc (.cells #[.bool false, .slice none 0 0, .int .i64 0] 41)).heap.size = w.heap.size + 1 ∧ Below w.heap.size w (w.alloc (.cells #[.bool false, .slice none 0 0, .int .i64 0] 41)) := ⟨Blk.new _ _ _, trivial, by simp, (Below.refl _ _).alloc (Nat.le_refl _) _⟩
  obtain ⟨W0, hW0⟩ : ∃ W0, w.alloc (.cells #[.bool false, .slice none 0 0, .int .i64 0] 41) = W0 := ⟨_, rfl⟩
  rw [hW0] at N1' NS D0
  have KB : Hid (∀ W, Below W0.heap.size W0 W → Blk W w.heap.size 41 #[.bool false, .slice none 0 0, .int .i64 0]) := fun W hW => N1'.below hW N1'.lt
  have HW0 := Lib.hid hW0
  have D0 := Lib.hid D0
  obtain ⟨mb0, mb1⟩ := mb
  clear N1' N2' NS hW0 hb hf b0 ub h0 h1
  rcases EM.out with ⟨k1, k2⟩ | ⟨k1, k2⟩
  · have i1 := i1.trans k2
    have K2 := Lib.hid k2
    clear k2 EM
    cases sg
    · simp only [sgm, Bool.false_eq_true, if_false] at MK
      go_enter Tryz.func25, Tryz.ntmps25
      go_wp2_with (first
        | (go_at_call 52; rw [HW0.out]; (with_reducible refine (FI.out _).mono ?_); rintro e w1 ⟨rfl, rfl⟩; have D := Lib.hid (Below.refl W0.heap.size W0))
        | (go_at_call 28; (try simp only [K2.out]); (with_reducible refine (N1.out _).mono ?_); rintro e w2 ⟨_, rfl, ⟨b2, A2, n2, c2, rfl, hz2⟩, hb⟩; have hz2 := hz2.zl; have D := Lib.hid (D.out.trans (hb.mono D.out.size)); clear hb)
        | (go_at_call 28; (with_reducible refine (N2.out _).mono ?_); rintro e w3 ⟨_, rfl, ⟨b3, A3, n3, c3, rfl, hz3⟩, hb⟩; have hz2 := hz2.below hb; have hz3 := hz3.zl; have D := Lib.hid (D.out.trans (hb.mono D.out.size)); clear hb)
        | (go_at_call 54; (with_reducible refine (MU.out _ _ _ hz2.v hz3.v).mono ?_); rintro e w4 ⟨_, rfl, ⟨b4, A4, n4, c4, rfl, hz4⟩, hb⟩; have hz4 := hz4.zl; have D := Lib.hid (D.out.trans (hb.mono D.out.size)); clear hb)
        | (go_at_call 28; (try simp only [K2.out]); (with_reducible refine (N3.out _).mono ?_); rintro e w5 ⟨_, rfl, ⟨b5, A5, n5, c5, rfl, hz5⟩, hb⟩; have hz4 := hz4.below hb; have hz5 := hz5.zl; have D := Lib.hid (D.out.trans (hb.mono D.out.size)); clear hb)
        | (go_at_call 53; (with_reducible refine (AD.out _ _ _ hz4.v hz5.v).mono ?_); rintro e w6 ⟨_, rfl, ⟨b6, A6, n6, c6, rfl, hz6⟩, hb⟩; have F6 := Lib.hid (hz6.fr.mono (Nat.le_trans D0.out.size D.out.size)); have s := hb.alloc hb.size (.cells #[.bool b6, .slice A6 n6 c6] 39); have hz := hz6.zl.alloc (.cells #[.bool b6, .slice A6 n6 c6] 39); have BZ := Blk.new w6 39 #[.bool b6, .slice A6 n6 c6]; have Z2 := (D.out.trans (hb.mono D.out.size)).size; have D := Lib.hid (D.out.trans (s.mono D.out.size)); clear hb s hz6; have eu := EU.out)
        | (go_at_call 27; (with_reducible refine (MK.out _ _ _ _ _ hz F6.out (Nat.le_trans D0.out.size D.out.size)).mono ?_); rintro e w9 ⟨b9, A9, n9, c9, rfl, hr, F9, hb4⟩; have D := Lib.hid (D.out.trans (hb4.mono D.out.size)); have R := (KB.out _ D.out); have X := Lib.hid (set3 hr (off_q hr R) (.bool b9) (.slice A9 n9 c9) (.int .i64 T)); have f0 := R.frozen 0; have f1 := R.frozen 1; have f2 := R.frozen 2; have t0 := R.at_ 0 rfl; have t1 := R.at_ 1 rfl; have t2 := R.at_ 2 rfl))
      exact bodyPost_ret (v := .agg #[.bool b9, .slice A9 n9 c9, .int .i64 T]) (by simp [results, Tryz.results25, go_sem, t0, t1, t2]) rfl
        ⟨_, _, _, _, rfl, X.out, F9, below3q (D0.out.trans (D.out.mono D0.out.size)) (by omega) _ _ _⟩
    · simp only [sgm, if_true] at MK
      go_enter Tryz.func25, Tryz.ntmps25
      go_wp2_with (first
        | (go_at_call 52; rw [HW0.out]; (with_reducible refine (FI.out _).mono ?_); rintro e w1 ⟨rfl, rfl⟩; have D := Lib.hid (Below.refl W0.heap.size W0))
        | (go_at_call 28; (try simp only [K2.out]); (with_reducible refine (N1.out _).mono ?_); rintro e w2 ⟨_, rfl, ⟨b2, A2, n2, c2, rfl, hz2⟩, hb⟩; have hz2 := hz2.zl; have D := Lib.hid (D.out.trans (hb.mono D.out.size)); clear hb)
        | (go_at_call 28; (with_reducible refine (N2.out _).mono ?_); rintro e w3 ⟨_, rfl, ⟨b3, A3, n3, c3, rfl, hz3⟩, hb⟩; have hz2 := hz2.below hb; have hz3 := hz3.zl; have D := Lib.hid (D.out.trans (hb.mono D.out.size)); clear hb)
        | (go_at_call 54; (with_reducible refine (MU.out _ _ _ hz2.v hz3.v).mono ?_); rintro e w4 ⟨_, rfl, ⟨b4, A4, n4, c4, rfl, hz4⟩, hb⟩; have hz4 := hz4.zl; have D := Lib.hid (D.out.trans (hb.mono D.out.size)); clear hb)
        | (go_at_call 28; (try simp only [K2.out]); (with_reducible refine (N3.out _).mono ?_); rintro e w5 ⟨_, rfl, ⟨b5, A5, n5, c5, rfl, hz5⟩, hb⟩; have hz4 := hz4.below hb; have hz5 := hz5.zl; have D := Lib.hid (D.out.trans (hb.mono D.out.size)); clear hb)
        | (go_at_call 53; (with_reducible refine (AD.out _ _ _ hz4.v hz5.v).mono ?_); rintro e w6 ⟨_, rfl, ⟨b6, A6, n6, c6, rfl, hz6⟩, hb⟩; have F6 := Lib.hid (hz6.fr.mono (Nat.le_trans D0.out.size D.out.size)); have s := hb.alloc hb.size (.cells #[.bool b6, .slice A6 n6 c6] 39); have hz := hz6.zl.alloc (.cells #[.bool b6, .slice A6 n6 c6] 39); have BZ := Blk.new w6 39 #[.bool b6, .slice A6 n6 c6]; have Z2 := (D.out.trans (hb.mono D.out.size)).size; have D := Lib.hid (D.out.trans (s.mono D.out.size)); clear hb s hz6; have eu := EU.out)
        | (go_at_call 55; (with_reducible refine (NG.out _ _ _ _ _ hz).mono ?_); rintro e w7 ⟨b7, n7, rfl, hm7, hz7, hb3⟩; have F6 := Lib.hid (F6.out.shrink hm7); have BZ := BZ.below hb3 BZ.lt; have hz := ZC.ZL.box hz7 (BZ.at_ 0 rfl) (BZ.at_ 1 rfl) (.bool b7) (.slice A6 n7 c6); have D := D.out.trans (hb3.mono D.out.size); have D := Lib.hid (below_set2 D Z2 (.bool b7) (.slice A6 n7 c6)); have c0 := BZ.at_ 0 rfl; have c1 := BZ.at_ 1 rfl; have f0 := BZ.frozen 0; have f1 := BZ.frozen 1; have BS := BZ.set2 (.bool b7) (.slice A6 n7 c6); have d0 := BS.at_ 0 rfl; have d1 := BS.at_ 1 rfl)
        | (go_at_call 27; (with_reducible refine (MK.out _ _ _ _ _ hz F6.out (Nat.le_trans D0.out.size D.out.size)).mono ?_); rintro e w9 ⟨b9, A9, n9, c9, rfl, hr, F9, hb4⟩; have D := Lib.hid (D.out.trans (hb4.mono D.out.size)); have R := (KB.out _ D.out); have X := Lib.hid (set3 hr (off_q hr R) (.bool b9) (.slice A9 n9 c9) (.int .i64 T)); have f0 := R.frozen 0; have f1 := R.frozen 1; have f2 := R.frozen 2; have t0 := R.at_ 0 rfl; have t1 := R.at_ 1 rfl; have t2 := R.at_ 2 rfl))
      exact bodyPost_ret (v := .agg #[.bool b9, .slice A9 n9 c9, .int .i64 T]) (by simp [results, Tryz.results25, go_sem, t0, t1, t2]) rfl
        ⟨_, _, _, _, rfl, X.out, F9, below3q (D0.out.trans (D.out.mono D0.out.size)) (by omega) _ _ _⟩
  · subst k2
    clear EM i1
    cases sg
    · simp only [sgm, Bool.false_eq_true, if_false] at MK
      go_enter Tryz.func25, Tryz.ntmps25
      go_wp2_with (first
        | (go_at_call 52; rw [HW0.out]; (with_reducible refine (FI.out _).mono ?_); rintro e w1 ⟨rfl, rfl⟩; have D := Lib.hid (Below.refl W0.heap.size W0))
        | (go_at_call 28; (try simp only [K2.out]); (with_reducible refine (N1.out _).mono ?_); rintro e w2 ⟨_, rfl, ⟨b2, A2, n2, c2, rfl, hz2⟩, hb⟩; have hz2 := hz2.zl; have D := Lib.hid (D.out.trans (hb.mono D.out.size)); clear hb)
        | (go_at_call 28; (with_reducible refine (N2.out _).mono ?_); rintro e w3 ⟨_, rfl, ⟨b3, A3, n3, c3, rfl, hz3⟩, hb⟩; have hz2 := hz2.below hb; have hz3 := hz3.zl; have D := Lib.hid (D.out.trans (hb.mono D.out.size)); clear hb)
        | (go_at_call 54; (with_reducible refine (MU.out _ _ _ hz2.v hz3.v).mono ?_); rintro e w4 ⟨_, rfl, ⟨b4, A4, n4, c4, rfl, hz4⟩, hb⟩; have hz4 := hz4.zl; have D := Lib.hid (D.out.trans (hb.mono D.out.size)); clear hb)
        | (go_at_call 28; (try simp only [K2.out]); (with_reducible refine (N3.out _).mono ?_); rintro e w5 ⟨_, rfl, ⟨b5, A5, n5, c5, rfl, hz5⟩, hb⟩; have hz4 := hz4.below hb; have hz5 := hz5.zl; have D := Lib.hid (D.out.trans (hb.mono D.out.size)); clear hb)
        | (go_at_call 53; (with_reducible refine (AD.out _ _ _ hz4.v hz5.v).mono ?_); rintro e w6 ⟨_, rfl, ⟨b6, A6, n6, c6, rfl, hz6⟩, hb⟩; have F6 := Lib.hid (hz6.fr.mono (Nat.le_trans D0.out.size D.out.size)); have s := hb.alloc hb.size (.cells #[.bool b6, .slice A6 n6 c6] 39); have hz := hz6.zl.alloc (.cells #[.bool b6, .slice A6 n6 c6] 39); have BZ := Blk.new w6 39 #[.bool b6, .slice A6 n6 c6]; have Z2 := (D.out.trans (hb.mono D.out.size)).size; have D := Lib.hid (D.out.trans (s.mono D.out.size)); clear hb s hz6; have eu := EU.out)
        | (go_at_call 27; (with_reducible refine (MK.out _ _ _ _ _ hz F6.out (Nat.le_trans D0.out.size D.out.size)).mono ?_); rintro e w9 ⟨b9, A9, n9, c9, rfl, hr, F9, hb4⟩; have D := Lib.hid (D.out.trans (hb4.mono D.out.size)); have R := (KB.out _ D.out); have X := Lib.hid (set3 hr (off_q hr R) (.bool b9) (.slice A9 n9 c9) (.int .i64 T)); have f0 := R.frozen 0; have f1 := R.frozen 1; have f2 := R.frozen 2; have t0 := R.at_ 0 rfl; have t1 := R.at_ 1 rfl; have t2 := R.at_ 2 rfl))
      exact bodyPost_ret (v := .agg #[.bool b9, .slice A9 n9 c9, .int .i64 T]) (by simp [results, Tryz.results25, go_sem, t0, t1, t2]) rfl
        ⟨_, _, _, _, rfl, X.out, F9, below3q (D0.out.trans (D.out.mono D0.out.size)) (by omega) _ _ _⟩
    · simp only [sgm, if_true] at MK
      go_enter Tryz.func25, Tryz.ntmps25
      go_wp2_with (first
        | (go_at_call 52; rw [HW0.out]; (with_reducible refine (FI.out _).mono ?_); rintro e w1 ⟨rfl, rfl⟩; have D := Lib.hid (Below.refl W0.heap.size W0))
        | (go_at_call 28; (try simp only [K2.out]); (with_reducible refine (N1.out _).mono ?_); rintro e w2 ⟨_, rfl, ⟨b2, A2, n2, c2, rfl, hz2⟩, hb⟩; have hz2 := hz2.zl; have D := Lib.hid (D.out.trans (hb.mono D.out.size)); clear hb)
        | (go_at_call 28; (with_reducible refine (N2.out _).mono ?_); rintro e w3 ⟨_, rfl, ⟨b3, A3, n3, c3, rfl, hz3⟩, hb⟩; have hz2 := hz2.below hb; have hz3 := hz3.zl; have D := Lib.hid (D.out.trans (hb.mono D.out.size)); clear hb)
        | (go_at_call 54; (with_reducible refine (MU.out _ _ _ hz2.v hz3.v).mono ?_); rintro e w4 ⟨_, rfl, ⟨b4, A4, n4, c4, rfl, hz4⟩, hb⟩; have hz4 := hz4.zl; have D := Lib.hid (D.out.trans (hb.mono D.out.size)); clear hb)
        | (go_at_call 28; (try simp only [K2.out]); (with_reducible refine (N3.out _).mono ?_); rintro e w5 ⟨_, rfl, ⟨b5, A5, n5, c5, rfl, hz5⟩, hb⟩; have hz4 := hz4.below hb; have hz5 := hz5.zl; have D := Lib.hid (D.out.trans (hb.mono D.out.size)); clear hb)
        | (go_at_call 53; (with_reducible refine (AD.out _ _ _ hz4.v hz5.v).mono ?_); rintro e w6 ⟨_, rfl, ⟨b6, A6, n6, c6, rfl, hz6⟩, hb⟩; have F6 := Lib.hid (hz6.fr.mono (Nat.le_trans D0.out.size D.out.size)); have s := hb.alloc hb.size (.cells #[.bool b6, .slice A6 n6 c6] 39); have hz := hz6.zl.alloc (.cells #[.bool b6, .slice A6 n6 c6] 39); have BZ := Blk.new w6 39 #[.bool b6, .slice A6 n6 c6]; have Z2 := (D.out.trans (hb.mono D.out.size)).size; have D := Lib.hid (D.out.trans (s.mono D.out.size)); clear hb s hz6; have eu := EU.out)
        | (go_at_call 55; (with_reducible refine (NG.out _ _ _ _ _ hz).mono ?_); rintro e w7 ⟨b7, n7, rfl, hm7, hz7, hb3⟩; have F6 := Lib.hid (F6.out.shrink hm7); have BZ := BZ.below hb3 BZ.lt; have hz := ZC.ZL.box hz7 (BZ.at_ 0 rfl) (BZ.at_ 1 rfl) (.bool b7) (.slice A6 n7 c6); have D := D.out.trans (hb3.mono D.out.size); have D := Lib.hid (below_set2 D Z2 (.bool b7) (.slice A6 n7 c6)); have c0 := BZ.at_ 0 rfl; have c1 := BZ.at_ 1 rfl; have f0 := BZ.frozen 0; have f1 := BZ.frozen 1; have BS := BZ.set2 (.bool b7) (.slice A6 n7 c6); have d0 := BS.at_ 0 rfl; have d1 := BS.at_ 1 rfl)
        | (go_at_call 27; (with_reducible refine (MK.out _ _ _ _ _ hz F6.out (Nat.le_trans D0.out.size D.out.size)).mono ?_); rintro e w9 ⟨b9, A9, n9, c9, rfl, hr, F9, hb4⟩; have D := Lib.hid (D.out.trans (hb4.mono D.out.size)); have R := (KB.out _ D.out); have X := Lib.hid (set3 hr (off_q hr R) (.bool b9) (.slice A9 n9 c9) (.int .i64 T)); have f0 := R.frozen 0; have f1 := R.frozen 1; have f2 := R.frozen 2; have t0 := R.at_ 0 rfl; have t1 := R.at_ 1 rfl; have t2 := R.at_ 2 rfl))
      exact bodyPost_ret (v := .agg #[.bool b9, .slice A9 n9 c9, .int .i64 T]) (by simp [results, Tryz.results25, go_sem, t0, t1, t2]) rfl
        ⟨_, _, _, _, rfl, X.out, F9, below3q (D0.out.trans (D.out.mono D0.out.size)) (by omega) _ _ _⟩
end VC
end Go.Proofs.YtelblhgagpkjmaaGreatDoor

