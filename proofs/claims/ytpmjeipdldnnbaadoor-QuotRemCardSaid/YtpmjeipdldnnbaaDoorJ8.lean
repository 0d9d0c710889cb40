/-
  Package quot, pure: quotients by itself and by 1, turned; no middles.
-/
import Derived.Test.YtpmjeipdldnnbaaDoorJ7
namespace Go.Proofs.YtpmjeipdldnnbaaDoor
set_option linter.unusedVariables false
set_option linter.unusedSimpArgs false
open Go.RowKit
set_option linter.unusedVariables false
set_option linter.unusedSimpArgs false
namespace JC
open L NC NK DC RC SC PC
theorem P_sc : sc 1 0 = 2 ^ KN := by
  unfold sc
  rw [Int.one_mul]
  congr 1
  rw [KN_eq]; rfl
theorem PK_pos : (0 : Int) < 2 ^ KN := two_pos' KN
theorem ab_one : ab 4607182418800017408 = 2 ^ KN := by
  have o := one_val (O := 4607182418800017408) rfl (K := KN) KN_eq
  have v := val_ab o.1
  rw [o.2.1, o.2.2.1] at v
  exact v.symm
theorem fi_range {x : Int} (h : fi x) : 0 ≤ x ∧ x ≤ 18446744073709551615 := ⟨h.1, h.2.1⟩
theorem ab_nn (x : Int) : 0 ≤ ab x := U_pos (by omega)
theorem rx_self {x : Int} (h0 : 0 ≤ x) (h1 : x ≤ 18446744073709551615) : rx (F.sgn x) (x % 9223372036854775808) = x := by
  unfold rx
  cases hs : F.sgn x
  · have := (F.sgn_iff' x).1 hs
    simp; omega
  · have := (F.sgn_iff x).1 hs
    simp
    unfold F.neg
    rw [if_pos (by omega)]
    omega
theorem ry_none' (b : Bool) (r mode : Int) : ry b r false (false || false) mode = r := ry_none b r mode
/-- what is exact -/
theorem RT_exact {le lt : Int → Prop} (C : Cut le lt) {x : Int} (fx : fi x) (h : le (2 * ab x)) (h' : ¬ lt (2 * ab x)) (b : Bool) (mode : Int) : RT b le lt mode = (rx b (x % 9223372036854775808), false, 0) := by
  have t := tog_exact C (r := x % 9223372036854775808) (by omega) (fi_mod fx) h h'
  rw [RT_of C t, ry_none]; rfl
theorem DT_one {x mode O : Int} (hm : 0 ≤ mode ∧ mode ≤ 4) (hx : 0 ≤ x ∧ x ≤ 18446744073709551615) (hO : O = 4607182418800017408) : DT x O mode = (if F.cls x = 5 then 9221120237041090560 else x, false, 0) := by
  have o := one_val (O := O) hO (K := KN) KN_eq
  have a := F.cls_bd x
  have ci := cls_inf hx.1 hx.2
  have c1 := cls1 hx.1 hx.2
  have es : sp x O = if F.sgn x = false then 0 else 9223372036854775808 := by unfold sp; rw [o.2.2.1]
  by_cases h5 : F.cls x = 5
  · have e : qc x O = (9221120237041090560, true) := by unfold qc; rw [if_pos (.inl h5)]
    rw [DT_qc hm (by rw [e]), e, if_pos h5]
  · rw [if_neg h5]
    by_cases h4 : F.cls x = 4
    · have e : qc x O = (x, true) := by
        unfold qc
        rw [o.2.2.2, if_neg (by omega), if_neg (by omega), if_pos (by omega), es]
        rcases ci.1 h4 with rfl | rfl
        · simp [F.sgn]
        · simp [F.sgn]
      rw [DT_qc hm (by rw [e]), e]
    · by_cases h1 : F.cls x = 1
      · have e : qc x O = (x, true) := by
          unfold qc
          rw [o.2.2.2, if_neg (by omega), if_neg (by omega), if_neg (by omega), if_pos (by omega), es]
          rcases c1.1 h1 with rfl | rfl
          · simp [F.sgn]
          · simp [F.sgn]
        rw [DT_qc hm (by rw [e]), e]
      · have e : (qc x O).2 = false := by
          unfold qc
          rw [o.2.2.2, if_neg (by omega), if_neg (by omega), if_neg (by omega), if_neg (by omega)]
        have fx := ((qc_no hx ⟨o.1.1, o.1.2.1⟩).1 e).1
        have eO : ab O = 2 ^ KN := by rw [hO]; exact ab_one
        have hp := PK_pos
        rw [DT_fi hm e, eO, RT_exact (qcut hp) fx, o.2.2.1]
        · rw [show (F.sgn x != false) = F.sgn x by cases F.sgn x <;> rfl, rx_self hx.1 hx.2]
        · unfold qle; rw [Int.mul_assoc]; exact Int.le_refl _
        · unfold qlt; rw [Int.mul_assoc]; exact Int.lt_irrefl _
theorem DT_self {x mode : Int} (hm : 0 ≤ mode ∧ mode ≤ 4) (hx : 0 ≤ x ∧ x ≤ 18446744073709551615) (h : F.cls x = 2 ∨ F.cls x = 3) : DT x x mode = (4607182418800017408, false, 0) := by
  have e : (qc x x).2 = false := by
    unfold qc
    rw [if_neg (by omega), if_neg (by omega), if_neg (by omega), if_neg (by omega)]
  obtain ⟨fx, -, vx, -⟩ := (qc_no hx hx).1 e
  have hp := ab_pos fx vx
  have o := one_val (O := 4607182418800017408) rfl (K := KN) KN_eq
  rw [DT_fi hm e, RT_exact (qcut hp) o.1]
  · rw [show (F.sgn x != F.sgn x) = false by cases F.sgn x <;> rfl]; rfl
  · unfold qle; rw [ab_one, Int.mul_assoc, Int.mul_comm (ab x)]; exact Int.le_refl _
  · unfold qlt; rw [ab_one, Int.mul_assoc, Int.mul_comm (ab x)]; exact Int.lt_irrefl _
theorem up_turn {b o h m : Bool} {mode : Int} (hm : 0 ≤ mode ∧ mode ≤ 4) : up (!b) o h m (tm mode) = up b o h m mode := by
  have k : mode = 0 ∨ mode = 1 ∨ mode = 2 ∨ mode = 3 ∨ mode = 4 := by omega
  rcases k with rfl | rfl | rfl | rfl | rfl <;> cases b <;> cases o <;> cases h <;> cases m <;> decide
theorem RT_turn {le lt : Int → Prop} {b : Bool} {mode r : Int} {h m : Bool} (C : Cut le lt) (t : Tog le lt r h m) (hm : 0 ≤ mode ∧ mode ≤ 4) : RT (!b) le lt (tm mode) = (F.neg (RT b le lt mode).1, (RT b le lt mode).2.1, 0) := by
  rw [RT_of C t, RT_of C t]
  have e : ry (!b) r h m (tm mode) = ry b r h m mode := by unfold ry; rw [up_turn hm]
  rw [e]
  have k := tog_bd (b := b) (h := h) (m := m) t.r0 t.r1 mode
  refine Prod.ext ?_ rfl
  show rx (!b) _ = F.neg (rx b _)
  unfold rx
  cases b
  · simp
  · simp; rw [F.neg_neg _ k.1 (by omega)]
theorem div_tog_ex {x y : Int} (hx : 0 ≤ x ∧ x ≤ 18446744073709551615) (hy : 0 ≤ y ∧ y ≤ 18446744073709551615) (h : (qc x y).2 = false) : 0 < ab y ∧ ∃ r hf m, Tog (qle (ab x * 2 ^ KN) (ab y)) (qlt (ab x * 2 ^ KN) (ab y)) r hf m := by
  obtain ⟨fx, fy, vx, vy⟩ := (qc_no hx hy).1 h
  obtain ⟨o1, X1, e1, a1, a2, -, a3, a4, a5⟩ := of_parts fx vx
  obtain ⟨o2, X2, e2, b1, b2, -, b3, b4, b5⟩ := of_parts fy vy
  obtain ⟨L, hL⟩ : ∃ L, L = o1 * 2 ^ 128 := ⟨_, rfl⟩
  obtain ⟨q, hq⟩ : ∃ q, q = L / o2 := ⟨_, rfl⟩
  obtain ⟨rm, hr⟩ : ∃ rm, rm = L % o2 := ⟨_, rfl⟩
  have p128 : (2 : Int) ^ 128 = 340282366920938463463374607431768211456 := by decide
  have hdm := Int.mul_ediv_add_emod L o2
  have hr0 := Int.emod_nonneg L (Int.ne_of_gt b1)
  have hr1 := Int.emod_lt_of_pos L b1
  rw [← hq, ← hr, Int.mul_comm] at hdm
  rw [← hr] at hr0 hr1
  rw [p128] at hL
  have q1 : 37778931862957161709568 ≤ q := by
    rw [hq, Int.le_ediv_iff_mul_le b1]
    have := Int.mul_le_mul_of_nonneg_left (show o2 ≤ 9007199254740992 by omega) (show (0 : Int) ≤ 37778931862957161709568 by omega)
    omega
  have q2 : q ≤ L := by
    have := Int.mul_le_mul_of_nonneg_left (show 1 ≤ o2 by omega) (show 0 ≤ q by omega)
    omega
  obtain ⟨B, hB⟩ : ∃ B : Nat, B = 400 := ⟨_, rfl⟩
  have hqB : q < 2 ^ B := by
    have := pow_le400 hB (show 190 ≤ 399 by omega)
    rw [show (2 : Int) ^ 190 = 1569275433846670190958947355801916604025588861116008628224 by decide] at this
    omega
  obtain ⟨r, hf, m, t⟩ := tow_ex (z := q) (x := X1 - X2 - 128) (by omega) (lt_390 hB hqB).2 (by omega)
  have eN : ab x * 2 ^ KN = sc L (X1 - 128) * 2 ^ KN := by
    rw [a5, hL, ← p128]
    have := sc_shift o1 (X1 - 128) 128 (by omega)
    rw [this]
    congr 2; omega
  exact ⟨ab_pos fy vy, r, hf, _, div_tog (left := decide (rm ≠ 0)) (N := ab x * 2 ^ KN) (D := ab y) (o := o2) (X := X2) (L := L) (f := X1 - 128) (z := q) (e := X1 - X2 - 128) hB (by omega) (by omega) (by omega) b5 eN b1 (by omega) hqB (.inl (by omega)) (by omega) (by rw [Int.add_mul]; omega) (by apply decide_eq_decide.2; omega) t⟩
theorem RT_cls {le lt : Int → Prop} {b : Bool} {mode r : Int} {h m : Bool} (C : Cut le lt) (t : Tog le lt r h m) : 0 ≤ (RT b le lt mode).1 ∧ (RT b le lt mode).1 ≤ 18446744073709551615 ∧ F.cls (RT b le lt mode).1 ≠ 5 := by
  rw [RT_of C t]
  have k := tog_bd (b := b) (h := h) (m := m) t.r0 t.r1 mode
  have := rx_bd (b := b) k.1 k.2.1
  exact ⟨this.1, this.2.1, cls_nn.2 this.2.2.1⟩
theorem div_turn {x y mode : Int} (hm : 0 ≤ mode ∧ mode ≤ 4) (hx : 0 ≤ x ∧ x ≤ 18446744073709551615) (hy : 0 ≤ y ∧ y ≤ 18446744073709551615) :
    ∃ a b g, DT x y mode = (a, b, 0) ∧ DT (F.neg x) y (tm mode) = (g, b, 0) ∧ ((F.cls a = 5 ∧ g = 9221120237041090560) ∨ (F.cls a ≠ 5 ∧ g = F.neg a)) := by
  have hm' : 0 ≤ tm mode ∧ tm mode ≤ 4 := by unfold tm; split; omega; split <;> omega
  have hx' := F.neg_bd x hx.1 hx.2
  have eb : qc (F.neg x) y = if F.cls x = 5 ∨ F.cls y = 5 then (9221120237041090560, true) else if F.cls x = F.cls y ∧ (F.cls x = 4 ∨ F.cls x = 1) then (9221120237041090560, true)
      else if F.cls x = 4 ∨ F.cls y = 1 then (F.neg (sp x y + 9218868437227405312), true) else if F.cls x = 1 ∨ F.cls y = 4 then (F.neg (sp x y), true) else (0, false) := by
    unfold qc
    rw [F.cls_neg, sp_neg' hx, sp_neg hx]
  have e0 : qc x y = if F.cls x = 5 ∨ F.cls y = 5 then (9221120237041090560, true) else if F.cls x = F.cls y ∧ (F.cls x = 4 ∨ F.cls x = 1) then (9221120237041090560, true)
      else if F.cls x = 4 ∨ F.cls y = 1 then (sp x y + 9218868437227405312, true) else if F.cls x = 1 ∨ F.cls y = 4 then (sp x y, true) else (0, false) := rfl
  by_cases h1 : F.cls x = 5 ∨ F.cls y = 5
  · rw [if_pos h1] at eb e0
    rw [DT_qc hm (by rw [e0]), DT_qc hm' (by rw [eb]), e0, eb]
    exact ⟨_, _, _, rfl, rfl, .inl ⟨by decide, rfl⟩⟩
  rw [if_neg h1] at eb e0
  by_cases h2 : F.cls x = F.cls y ∧ (F.cls x = 4 ∨ F.cls x = 1)
  · rw [if_pos h2] at eb e0
    rw [DT_qc hm (by rw [e0]), DT_qc hm' (by rw [eb]), e0, eb]
    exact ⟨_, _, _, rfl, rfl, .inl ⟨by decide, rfl⟩⟩
  rw [if_neg h2] at eb e0
  by_cases h3 : F.cls x = 4 ∨ F.cls y = 1
  · rw [if_pos h3] at eb e0
    rw [DT_qc hm (by rw [e0]), DT_qc hm' (by rw [eb]), e0, eb]
    refine ⟨_, _, _, rfl, rfl, .inr ⟨?_, rfl⟩⟩
    rcases sp2 x y with h | h <;> rw [h] <;> decide
  rw [if_neg h3] at eb e0
  by_cases h4 : F.cls x = 1 ∨ F.cls y = 4
  · rw [if_pos h4] at eb e0
    rw [DT_qc hm (by rw [e0]), DT_qc hm' (by rw [eb]), e0, eb]
    refine ⟨_, _, _, rfl, rfl, .inr ⟨?_, rfl⟩⟩
    rcases sp2 x y with h | h <;> rw [h] <;> decide
  rw [if_neg h4] at eb e0
  have n1 : (qc x y).2 = false := by rw [e0]
  have n2 : (qc (F.neg x) y).2 = false := by rw [eb]
  obtain ⟨hD, r, hf, m, t⟩ := div_tog_ex hx hy n1
  rw [DT_fi hm n1, DT_fi hm' n2, ab_neg, F.sgn_neg x hx.1 hx.2]
  rw [show ((!F.sgn x) != F.sgn y) = !(F.sgn x != F.sgn y) by cases F.sgn x <;> cases F.sgn y <;> rfl, RT_turn (qcut hD) t hm]
  have c := RT_cls (b := F.sgn x != F.sgn y) (mode := mode) (qcut hD) t
  refine ⟨_, _, _, ?_, rfl, .inr ⟨c.2.2, rfl⟩⟩
  rfl
theorem DT_bd {x y : Int} (mode : Int) (hx : 0 ≤ x ∧ x ≤ 18446744073709551615) (hy : 0 ≤ y ∧ y ≤ 18446744073709551615) : 0 ≤ (DT x y mode).1 ∧ (DT x y mode).1 ≤ 18446744073709551615 := by
  by_cases hm : 0 ≤ mode ∧ mode ≤ 4
  · cases h : (qc x y).2
    · obtain ⟨hD, r, hf, m, t⟩ := div_tog_ex hx hy h
      rw [DT_fi hm h]
      have := RT_cls (b := F.sgn x != F.sgn y) (mode := mode) (qcut hD) t
      exact ⟨this.1, this.2.1⟩
    · rw [DT_qc hm h]; exact qc_bd x y
  · rw [DT_no hm]; exact ⟨by simp, by simp⟩
theorem DT_e {x y mode : Int} (hm : 0 ≤ mode ∧ mode ≤ 4) : (DT x y mode).2.2 = 0 := by
  cases h : (qc x y).2
  · rw [DT_fi hm h]; rfl
  · rw [DT_qc hm h]
/-- near and away differ just in the middle -/
theorem near_away {le lt : Int → Prop} {b : Bool} {r : Int} {h m : Bool} (C : Cut le lt) (t : Tog le lt r h m) (hmid : le (U r + U (r + 1)) → lt (U r + U (r + 1))) : ry b r h m 0 = ry b r h m 4 := by
  unfold ry
  have : up b (decide (r % 2 = 1)) h m 0 = up b (decide (r % 2 = 1)) h m 4 := by
    have k : h = true → m = true := fun hh => by
      have g := U_lt t.r0 (show r < r + 1 by omega)
      have l := t.hh.1 hh
      exact t.hm.2 ⟨C.b _ _ (by omega) l, hmid⟩
    unfold up
    cases h <;> cases m <;> simp at k <;> simp
  rw [this]
theorem can_odd {o x : Int} (h : o % 2 = 1) : can o x := .inr h
theorem mid_eq {r : Int} (h : 0 ≤ r) : ∃ (k : Nat) (q : Int), r = k * 4503599627370496 + q ∧ 0 ≤ q ∧ q < 9007199254740992 ∧ (k = 0 ∨ 4503599627370496 ≤ q) ∧ U r + U (r + 1) = sc (2 * q + 1) (k - 1074) := by
  obtain ⟨k, q, e, q0, q1, hc⟩ := r_parts h
  obtain ⟨g1, g2⟩ := U_of q0 q1 hc
  refine ⟨k, q, e, q0, q1, hc, ?_⟩
  rw [e, g1, g2, sc_mul1 (2 * q + 1), Int.add_mul q, Int.add_mul (2 * q), Int.mul_assoc 2]
  omega
theorem div_mid {x y r : Int} (fx : fi x) (fy : fi y) (vx : val x ≠ 0) (vy : val y ≠ 0) (r0 : 4503599627370496 ≤ r) (hr : r ≤ 9218868437227405311) : (U r + U (r + 1)) * ab y ≠ 2 * (ab x * 2 ^ KN) := by
  obtain ⟨o1, X1, e1, a1, a2, ao, a3, a4, a5⟩ := of_parts fx vx
  obtain ⟨o2, X2, e2, b1, b2, bo, b3, b4, b5⟩ := of_parts fy vy
  obtain ⟨k, q, e, q0, q1, hc, hmid⟩ := mid_eq (show 0 ≤ r by omega)
  intro h
  rw [hmid, a5, b5] at h
  have hm := sc_mul (m := 2 * q + 1) (n := o2) (x := (k : Int) - 1074) (y := X2) (by omega) (by omega) KN_eq
  rw [← hm] at h
  have h2 : 2 * (sc o1 X1 * 2 ^ KN) = sc o1 (X1 + 1) * 2 ^ KN := by
    have := sc_shift o1 X1 1 (by omega)
    rw [show X1 + ((1 : Nat) : Int) = X1 + 1 by omega] at this
    rw [← this, show o1 * 2 ^ 1 = 2 * o1 by omega, sc_mul1 (2 * o1), sc_mul1 o1, Int.mul_assoc 2 o1, Int.mul_assoc 2]
  rw [h2] at h
  have h3 := Int.eq_of_mul_eq_mul_right (Int.ne_of_gt PK_pos) h
  have hk : (k : Int) ≤ 2046 := by omega
  have od : (2 * q + 1) * o2 % 2 = 1 := by
    rw [Int.mul_emod, bo, show (2 * q + 1) % 2 = 1 by omega]; rfl
  obtain ⟨i1, -⟩ := sc_inj h3 (can_odd od) (can_odd ao) (by omega) (by omega)
  have hq : 4503599627370496 ≤ q := by omega
  have := Int.mul_le_mul_of_nonneg_left (show 1 ≤ o2 by omega) (show 0 ≤ 2 * q + 1 by omega)
  omega
theorem root_mid {x r : Int} (fx : fi x) (vx : val x ≠ 0) (r0 : 0 ≤ r) (hr : r ≤ 9218868437227405311) : (U r + U (r + 1)) * (U r + U (r + 1)) ≠ 4 * (ab x * 2 ^ KN) := by
  obtain ⟨o1, X1, e1, a1, a2, ao, a3, a4, a5⟩ := of_parts fx vx
  obtain ⟨k, q, e, q0, q1, hc, hmid⟩ := mid_eq r0
  intro h
  rw [hmid, a5] at h
  have hm := sc_mul (m := 2 * q + 1) (n := 2 * q + 1) (x := (k : Int) - 1074) (y := (k : Int) - 1074) (by omega) (by omega) KN_eq
  rw [← hm] at h
  have h2 : 4 * (sc o1 X1 * 2 ^ KN) = sc o1 (X1 + 2) * 2 ^ KN := by
    have := sc_shift o1 X1 2 (by omega)
    rw [show X1 + ((2 : Nat) : Int) = X1 + 2 by omega] at this
    rw [← this, show o1 * 2 ^ 2 = 4 * o1 by omega, sc_mul1 (4 * o1), sc_mul1 o1, Int.mul_assoc 4 o1, Int.mul_assoc 4]
  rw [h2] at h
  have h3 := Int.eq_of_mul_eq_mul_right (Int.ne_of_gt PK_pos) h
  have od : (2 * q + 1) * (2 * q + 1) % 2 = 1 := by
    rw [Int.mul_emod, show (2 * q + 1) % 2 = 1 by omega]; rfl
  obtain ⟨i1, i2⟩ := sc_inj h3 (can_odd od) (can_odd ao) (by omega) (by omega)
  have hk : k ≠ 0 := by omega
  have hq : 4503599627370496 ≤ q := by omega
  have := Int.mul_le_mul_of_nonneg_left (show 1 ≤ 2 * q + 1 by omega) (show 0 ≤ 2 * q + 1 by omega)
  omega
/-- no middle -/
theorem never_p {x y : Int} (hx : 0 ≤ x ∧ x ≤ 18446744073709551615) (hy : 0 ≤ y ∧ y ≤ 18446744073709551615) : (DT x y 0).1 = (DT x y 4).1 ∨ F.cls (DT x y 0).1 ≠ 3 ∨ F.cls (DT x y 4).1 ≠ 3 := by
  cases h : (qc x y).2
  · obtain ⟨fx, fy, vx, vy⟩ := (qc_no hx hy).1 h
    obtain ⟨hD, r, hf, m, t⟩ := div_tog_ex hx hy h
    rw [DT_fi (by omega) h, DT_fi (by omega) h, RT_of (qcut hD) t, RT_of (qcut hD) t]
    dsimp only
    by_cases hr : 4503599627370496 ≤ r
    · left
      rw [near_away (qcut hD) t]
      intro l
      have := div_mid fx fy vx vy hr t.r1
      unfold qle at l
      unfold qlt
      omega
    · generalize hb : (F.sgn x != F.sgn y) = b at *
      have k0 := tog_bd (b := b) (h := hf) (m := m) t.r0 t.r1 0
      have k4 := tog_bd (b := b) (h := hf) (m := m) t.r0 t.r1 4
      by_cases e : ry b r hf m 0 = ry b r hf m 4
      · left; rw [e]
      · right
        have small : ∀ z : Int, 0 ≤ z → z < 4503599627370496 → F.cls (rx b z) ≠ 3 := fun z z0 z1 => by
          have hc : F.cls (rx b z) = F.cls z := by
            unfold rx
            cases b
            · rfl
            · exact F.cls_neg z
          rw [hc]
          unfold F.cls F.exq
          rw [if_pos (by omega)]
          split <;> omega
        have t0 := t.r0
        rcases Int.lt_or_le (ry b r hf m 0) (ry b r hf m 4) with c | c
        · exact .inl (small _ k0.1 (by omega))
        · exact .inr (small _ k4.1 (by omega))
  · rw [DT_qc (by omega) h, DT_qc (by omega) h]; exact .inl rfl
end JC
end Go.Proofs.YtpmjeipdldnnbaaDoor
