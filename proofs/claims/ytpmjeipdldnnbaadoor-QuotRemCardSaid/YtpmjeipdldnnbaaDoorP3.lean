/-
  Package prod, pure: Fma by one, by nothing more, and what is left of a product.
-/
import Derived.Test.YtpmjeipdldnnbaaDoorP2
namespace Go.Proofs.YtpmjeipdldnnbaaDoor
set_option linter.unusedVariables false
set_option linter.unusedSimpArgs false
open Go.RowKit
set_option linter.unusedVariables false
set_option linter.unusedSimpArgs false
namespace PC
open L NC NK DC RC SC
theorem FT_no {x y z mode : Int} (h : ¬ (0 ≤ mode ∧ mode ≤ 4)) : FT x y z mode = (0, false, 1) := by unfold FT; rw [if_pos h]
theorem FT_bc {x y z mode : Int} (hm : 0 ≤ mode ∧ mode ≤ 4) (h : (bc x y).2 = true) : FT x y z mode = AT [(bc x y).1, z] mode := by
  unfold FT; rw [if_neg (by simpa using hm), if_pos h]
theorem FT_nf {x y z mode : Int} (hm : 0 ≤ mode ∧ mode ≤ 4) (h : (bc x y).2 = false) (hz : F.exq z = 2047) : FT x y z mode = AT [0, z] mode := by
  unfold FT; rw [if_neg (by simpa using hm), if_neg (by rw [h]; simp), if_pos hz]
theorem FT_fi {x y z mode : Int} (hm : 0 ≤ mode ∧ mode ≤ 4) (h : (bc x y).2 = false) (hz : F.exq z ≠ 2047) : FT x y z mode = if (fd x y z).m = 0 ∧ mode = 2 then (9223372036854775808, false, 0) else (TX (fd x y z) mode, TL (fd x y z) mode, 0) := by
  unfold FT; rw [if_neg (by simpa using hm), if_neg (by rw [h]; simp), if_neg hz]
theorem fd_p {x y z : Int} (hx : fi x) (hy : fi y) (hz : fi z) : FitP (fd x y z) 2 ∧ S (fd x y z) = S (PD x y).d + val z := by
  have a := (pd_p hx hy rfl).2.1
  have b := fitP_of (of_fit hz).2
  have c := add_fitP a b (by omega)
  exact ⟨c.2.1, c.2.2⟩
theorem TX0 {d : Dy} {mode : Int} (hm : 0 ≤ mode ∧ mode ≤ 4) (h : Ok d) (h0 : S d = 0) : TX d mode = 0 ∧ TL d mode = false := by
  have a := (A_abs d).1 (by omega)
  have t : Tow (A d) 0 false false := by rw [a.1, h0]; exact tow_zero
  obtain ⟨e1, e2, -⟩ := TX_of h hm t
  rw [e1, e2, ry_none, a.2]
  exact ⟨rfl, rfl⟩
theorem AT_nan {x z mode : Int} (hm : 0 ≤ mode ∧ mode ≤ 4) (hx : 0 ≤ x ∧ x ≤ 18446744073709551615) (hz : 0 ≤ z ∧ z ≤ 18446744073709551615) (h : F.cls x = 5) : AT [x, z] mode = (9221120237041090560, false, 0) := by
  rw [AT_wv hm (by simp) (u2 hx hz) (fun hf => (cls_fi.2 (hf x (by simp)).2.2).1 h)]
  have : hN [x, z] = true := by simp [hN, h]
  rw [this]; rfl
theorem nfi {y : Int} (hy : fi y) : F.cls y ≠ 5 ∧ (y == 9218868437227405312) = false ∧ (y == 18442240474082181120) = false := by
  have := fi_mod hy
  refine ⟨(cls_fi.2 hy.2.2).1, ?_, ?_⟩ <;> rw [beq_eq_false_iff_ne] <;> rintro rfl <;> simp at this
theorem AT_nf {x z mode : Int} (hm : 0 ≤ mode ∧ mode ≤ 4) (hx : fi x) (hz : 0 ≤ z ∧ z ≤ 18446744073709551615) (h : F.exq z = 2047) : AT [x, z] mode = ((WV (F.cls z == 5) (z == 9218868437227405312) (z == 18442240474082181120)).1, false, 0) := by
  rw [AT_wv hm (by simp) (u2 ⟨hx.1, hx.2.1⟩ hz) (fun hf => (hf z (by simp)).2.2 h)]
  have n := nfi hx
  have e1 : hN [x, z] = (F.cls z == 5) := by simp [hN, n.1]
  have e2 : hP [x, z] = (z == 9218868437227405312) := by simp [hP]; intro h; rw [h] at n; simp at n
  have e3 : hM [x, z] = (z == 18442240474082181120) := by simp [hM]; intro h; rw [h] at n; simp at n
  rw [e1, e2, e3]
theorem FT_bd {x y z : Int} (mode : Int) (hx : 0 ≤ x ∧ x ≤ 18446744073709551615) (hy : 0 ≤ y ∧ y ≤ 18446744073709551615) (hz : 0 ≤ z ∧ z ≤ 18446744073709551615) : 0 ≤ (FT x y z mode).1 ∧ (FT x y z mode).1 ≤ 18446744073709551615 := by
  by_cases hm : 0 ≤ mode ∧ mode ≤ 4
  · cases h : (bc x y).2
    · obtain ⟨f, g, -⟩ := (bc_no hx hy).1 h
      by_cases hq : F.exq z = 2047
      · rw [FT_nf hm h hq]; exact AT_bd mode (u2 (by omega) hz)
      · rw [FT_fi hm h hq]
        split
        · exact ⟨by simp, by simp⟩
        · have := TX_bd (fd x y z) mode fun _ => (fd_p f g ⟨hz.1, hz.2, hq⟩).1.ok
          exact ⟨this.1, this.2.1⟩
    · rw [FT_bc hm h]; exact AT_bd mode (u2 (bc_bd x y) hz)
  · rw [FT_no hm]; exact ⟨by simp, by simp⟩
/-- times one it is the sum -/
theorem fused_one {x z mode O : Int} (hx : 0 ≤ x ∧ x ≤ 18446744073709551615) (hz : 0 ≤ z ∧ z ≤ 18446744073709551615) (hO : O = 4607182418800017408) : FT x O z mode = AT [x, z] mode := by
  by_cases hm : 0 ≤ mode ∧ mode ≤ 4
  · obtain ⟨K, hK⟩ : ∃ K : Nat, K = 60000 := ⟨_, rfl⟩
    have o := one_val hO hK
    have e := bc_one hx hO
    cases h : (bc x O).2
    · obtain ⟨f, -, h0, -⟩ := (bc_no hx ⟨o.1.1, o.1.2.1⟩).1 h
      by_cases hq : F.exq z = 2047
      · rw [FT_nf hm h hq, AT_nf hm val00.1 hz hq, AT_nf hm f hz hq]
      · have fz : fi z := ⟨hz.1, hz.2, hq⟩
        rw [FT_fi hm h hq]
        have a := fd_p f o.1 fz
        have e1 : S (PD x O).d = val x := by rw [pd_one f hO]; rfl
        rw [e1] at a
        have t := tot_ok (f2 f fz) (by simp)
        have v : vs [x, z] = val x + val z := by simp [vs]
        have ed : fd x O z = tot [x, z] dz := S_inj a.1.ok t.1 (by rw [a.2, t.2, v])
        have af := AT_fin hm (by simp) (f2 f fz)
        by_cases h1 : vs [x, z] = 0
        · rw [af.1 h1]
          have hm0 : (fd x O z).m = 0 := by rw [S_m', a.2, ← v]; exact h1
          have k := TX0 hm a.1.ok (by rw [a.2, ← v]; exact h1)
          have hsm : ¬ sm [x, z] = true := fun h => by
            obtain ⟨c, hc⟩ := sm_iff.1 h
            have e1 := hc x (by simp)
            have e2 := hc z (by simp)
            have hv : val x + val z = 0 := by rw [← v]; exact h1
            rw [e2, ← e1] at hv
            exact h0 (by omega)
          have hz : ZR [x, z] mode = if mode = 2 then 9223372036854775808 else 0 := by
            unfold ZR; rw [if_neg (by simp), if_neg hsm]
          rw [hz, k.1, k.2]
          by_cases hm2 : mode = 2
          · rw [if_pos ⟨hm0, hm2⟩, if_pos hm2]
          · rw [if_neg (fun h => hm2 h.2), if_neg hm2]
        · rw [af.2 h1, if_neg (fun h => h1 (by rw [v, ← a.2]; exact S_m'.1 h.1)), ed]
    · rw [FT_bc hm h, e]
      rw [e] at h
      by_cases h5 : F.cls x = 5
      · rw [if_pos h5, AT_nan hm hx hz h5, AT_nan hm (by omega) hz (by decide)]
      · rw [if_neg h5] at h ⊢
        by_cases h4 : F.cls x = 4 ∨ F.cls x = 1
        · rw [if_pos h4]
        · rw [if_neg h4] at h; cases h
  · rw [FT_no hm, AT_no hm]
/-- with nothing added -/
theorem fused_zero {x y mode : Int} (hm : 0 ≤ mode ∧ mode ≤ 4) (hx : 0 ≤ x ∧ x ≤ 18446744073709551615) (hy : 0 ≤ y ∧ y ≤ 18446744073709551615) :
    ∃ n q b, FT x y 0 mode = (n, b, 0) ∧ MT x y mode = (q, b, 0) ∧ (n = q ∨ (F.cls n = 1 ∧ F.cls q = 1)) := by
  cases h : (bc x y).2
  · obtain ⟨f, g, h0, h1⟩ := (bc_no hx hy).1 h
    have a := fd_p f g val00.1
    rw [val00.2, Int.add_zero] at a
    have b := (pd_p f g rfl).2.1.ok
    have ed : fd x y 0 = (PD x y).d := S_inj a.1.ok b a.2
    rw [FT_fi hm h (by decide), MT_fi hm h, ed, if_neg (fun k => pd_ne f g h0 h1 k.1)]
    exact ⟨_, _, _, rfl, rfl, .inl rfl⟩
  · rw [FT_bc hm h, MT_bc hm h]
    have k : (bc x y).1 = 9221120237041090560 ∨ (bc x y).1 = 9218868437227405312 ∨ (bc x y).1 = 18442240474082181120 ∨ (bc x y).1 = 0 ∨ (bc x y).1 = 9223372036854775808 := by
      unfold bc
      rcases sp2 x y with h | h <;> rw [h] <;> (repeat (first | split | simp))
    rcases k with h | h | h | h | h <;> rw [h]
    · rw [AT_nan hm (by omega) (by omega) (by decide)]; exact ⟨_, _, _, rfl, rfl, .inl rfl⟩
    · rw [AT_comm (by omega) (by omega), AT_nf hm val00.1 (by omega) (by decide)]; exact ⟨_, _, _, rfl, rfl, .inl (by decide)⟩
    · rw [AT_comm (by omega) (by omega), AT_nf hm val00.1 (by omega) (by decide)]; exact ⟨_, _, _, rfl, rfl, .inl (by decide)⟩
    · have v : vs [0, 0] = 0 := by simp [vs, val00.2]
      rw [(AT_fin hm (by simp) (f2 val00.1 val00.1)).1 v]
      exact ⟨_, _, _, rfl, rfl, .inr ⟨(ZR_cls mode (f2 val00.1 val00.1) v).1, by decide⟩⟩
    · have v : vs [9223372036854775808, 0] = 0 := by simp [vs, val00.2, val08.2]
      rw [(AT_fin hm (by simp) (f2 val08.1 val00.1)).1 v]
      exact ⟨_, _, _, rfl, rfl, .inr ⟨(ZR_cls mode (f2 val08.1 val00.1) v).1, by decide⟩⟩
/-- the unit of a number -/
theorem unit_ulp {x : Int} (h : fi x) : ∃ q : Int, 0 ≤ q ∧ q < 9007199254740992 ∧ val x = sgm (F.sgn x) (sc q (F.ulp x)) := by
  have hb := F.exq_bd x
  have hf := F.fra_bd x
  have h2 := h.2.2
  have hr : x % 9223372036854775808 = F.exq x * 4503599627370496 + F.fra x := by unfold F.exq F.fra; omega
  have mb : 0 ≤ mant x ∧ mant x < 9007199254740992 := by unfold mant; split <;> omega
  obtain ⟨k, hk⟩ : ∃ k : Nat, F.ulp x + 1074 = k := ⟨(F.ulp x + 1074).toNat, by unfold F.ulp; split <;> omega⟩
  have hkq : x % 9223372036854775808 = k * 4503599627370496 + mant x ∧ (k = 0 ∨ 4503599627370496 ≤ mant x) := by
    rw [hr]
    unfold F.ulp at hk
    unfold mant
    by_cases h : 0 < F.exq x
    · rw [if_pos h]; rw [if_pos (by omega)] at hk; exact ⟨by omega, by omega⟩
    · rw [if_neg h]; rw [if_neg (by omega)] at hk; exact ⟨by omega, by omega⟩
  have eU := (U_of mb.1 mb.2 hkq.2).1
  rw [← hkq.1, show (k : Int) - 1074 = F.ulp x by omega, ← sc_mul1] at eU
  exact ⟨_, mb.1, mb.2, by rw [val_eq h, eU]⟩
theorem ulp_bd {x : Int} (h : fi x) : -1074 ≤ F.ulp x ∧ F.ulp x ≤ 971 := by
  have := F.exq_bd x
  have := h.2.2
  unfold F.ulp; split <;> omega
theorem pd_unit {x y : Int} (hx : fi x) (hy : fi y) : ∃ N : Int, 0 ≤ N ∧ N < 81129638414606681695789005144064 ∧ A (PD x y).d = N * sc 1 (F.ulp x + F.ulp y) := by
  obtain ⟨K, hK⟩ : ∃ K : Nat, K = 60000 := ⟨_, rfl⟩
  have a := pd_p hx hy hK
  obtain ⟨p, p0, p1, ep⟩ := unit_ulp hx
  obtain ⟨q, q0, q1, eq⟩ := unit_ulp hy
  have u1 := ulp_bd hx
  have u2 := ulp_bd hy
  have e := sc_mul (m := p) (n := q) (x := F.ulp x) (y := F.ulp y) (by omega) (by omega) hK
  have hN : 0 ≤ p * q := Int.mul_nonneg p0 q0
  refine ⟨p * q, hN, ?_, ?_⟩
  · have := Int.mul_le_mul_of_nonneg_right (show p ≤ 9007199254740991 by omega) q0
    omega
  · rw [← sc_mul1]
    have hz : 0 ≤ sc (p * q) (F.ulp x + F.ulp y) := by rw [sc_mul1]; exact Int.mul_nonneg hN (Int.le_of_lt (sc_one_pos _))
    have eS : S (PD x y).d = sgm (F.sgn x != F.sgn y) (sc (p * q) (F.ulp x + F.ulp y)) := by
      apply K_inj (K := K)
      rw [a.2.2, ep, eq, ← sg_xor, ← e]
      unfold sgm
      cases (F.sgn x != F.sgn y)
      · simp
      · simp [Int.neg_mul]
    have s := S_sg (PD x y).d
    have s2 := s.2
    rw [s.1] at eS
    unfold sgm at eS
    split at eS <;> split at eS <;> omega
theorem two_le' {a b : Nat} (h : a ≤ b) : (2 : Int) ^ a ≤ 2 ^ b := by
  obtain ⟨k, rfl⟩ : ∃ k, b = a + k := ⟨b - a, by omega⟩
  rw [Int.pow_add]
  have h1 := two_pos' a
  have h2 := two_pos' k
  have h3 := Int.mul_le_mul_of_nonneg_left (show (1 : Int) ≤ 2 ^ k by omega) (Int.le_of_lt h1)
  omega
/-- what is left -/
theorem left_p {d : Dy} {mode b N : Int} (hm : 0 ≤ mode ∧ mode ≤ 4) (h : Ok d) (hb : -1074 ≤ b) (hN : 0 ≤ N) (hN2 : N < 81129638414606681695789005144064) (e : A d = N * sc 1 b) (hp : F.abs (TX d mode) < 9218868437227405311) :
    fi (TX d mode) ∧ ∃ r, 0 ≤ r ∧ r ≤ 9218868437227405311 ∧ (S d - val (TX d mode) = U r ∨ S d - val (TX d mode) = -U r) := by
  obtain ⟨M, hM⟩ : ∃ M : Int, M = 9218868437227405311 := ⟨_, rfl⟩
  rw [← hM] at hp ⊢
  obtain ⟨r, hf, m, t, -⟩ := towA h
  obtain ⟨x1, x2, -⟩ := TX_of h hm t
  have kb := ry_bd (b := ng d) t mode
  obtain ⟨y, hy⟩ : ∃ y, ry (ng d) r hf m mode = y := ⟨_, rfl⟩
  rw [hy] at kb x1
  have hmod : F.abs (rx (ng d) y) = y := by
    unfold rx F.neg F.abs
    cases ng d
    · simp; omega
    · simp; rw [if_pos (by omega)]; omega
  rw [x1, hmod] at hp
  have r0 := t.r0
  have v := val_rx (b := ng d) kb.1 (show y ≤ 9218868437227405311 by omega)
  have s := S_sg d
  rw [x1]
  refine ⟨v.1, ?_⟩
  rw [v.2, s.1]
  have hlo := t.lo
  have hhi := t.hi (by omega)
  have key : ∃ r', 0 ≤ r' ∧ r' ≤ M ∧ (A d - U y = U r' ∨ A d - U y = -U r') := by
    by_cases hA : A d = U r
    · refine ⟨0, by omega, by omega, .inl ?_⟩
      have tw := tow_exact (r := r) r0 (by omega)
      rw [← hA] at tw
      obtain ⟨-, e1, e2⟩ := t.unique tw
      rw [e1, e2, ry_none] at hy
      rw [← hy, U_zero]; omega
    · obtain ⟨k, q, rfl, q0, q1, hc⟩ := r_parts r0
      obtain ⟨g1, g2⟩ := U_of q0 q1 hc
      obtain ⟨i, hi⟩ : ∃ i : Nat, (i : Int) = b + 1074 := ⟨(b + 1074).toNat, by omega⟩
      have hbi : b = i - 1074 := by omega
      subst hbi
      have hU1 : U (k * 4503599627370496 + q + 1) ≤ U M := U_le (by omega) (by omega)
      have hEp := sc_one_pos ((k : Int) - 1074)
      have hBp := sc_one_pos ((i : Int) - 1074)
      rcases Nat.lt_or_ge i k with hik | hik
      · obtain ⟨j, hj⟩ : ∃ j : Nat, k = i + j := ⟨k - i, by omega⟩
        have eE : sc 1 ((k : Int) - 1074) = 2 ^ j * sc 1 ((i : Int) - 1074) := by
          rw [← sc_mul1, sc_two _ _ (by omega)]
          congr 1; omega
        have q2 : 4503599627370496 ≤ q := by omega
        obtain ⟨B, hB⟩ : ∃ B, sc 1 ((i : Int) - 1074) = B := ⟨_, rfl⟩
        have hP := two_pos' j
        have hj2 : (2 : Int) ^ j ≤ 9007199254740992 := by
          rcases Nat.lt_or_ge 53 j with h3 | h3
          · exfalso
            have a1 : (2 : Int) ^ 54 ≤ 2 ^ j := two_le' (by omega)
            have a2 := Int.mul_le_mul_of_nonneg_left a1 (show (0 : Int) ≤ 4503599627370496 by omega)
            have a3 := Int.mul_le_mul_of_nonneg_right q2 (Int.le_of_lt hP)
            rw [g1, eE, hB, e, hB, ← Int.mul_assoc] at hlo
            rw [hB] at hBp
            have a4 := Int.le_of_mul_le_mul_right hlo hBp
            have : (4503599627370496 : Int) * 2 ^ 54 = 81129638414606681695789005144064 := by decide
            omega
          · have : (2 : Int) ^ j ≤ 2 ^ 53 := two_le' h3
            exact this
        rw [hB] at eE hBp e
        have hAr : A d ≠ q * (2 ^ j * B) := by rw [← eE, ← g1]; exact hA
        rw [g1, eE] at hlo
        rw [g2, eE] at hhi hU1
        rw [e] at hlo hhi hAr
        generalize hPj : (2 : Int) ^ j = P at *
        have f1 : q * (P * B) = (q * P) * B := by rw [Int.mul_assoc]
        have f2' : (q + 1) * (P * B) = (q * P + P) * B := by rw [← Int.mul_assoc, Int.add_mul, Int.one_mul]
        rw [f1] at hlo hAr
        rw [f2'] at hhi hU1
        have l1 := Int.le_of_mul_le_mul_right hlo hBp
        have l2 := Int.lt_of_mul_lt_mul_right hhi (Int.le_of_lt hBp)
        have l3 : N ≠ q * P := fun h => hAr (by rw [h])
        have hPB : P * B ≤ (q * P + P) * B := by
          apply Int.mul_le_mul_of_nonneg_right _ (Int.le_of_lt hBp)
          have := Int.mul_nonneg q0 (Int.le_of_lt hP)
          omega
        have fin' : ∀ n : Int, 0 ≤ n → n < P → ∃ r', 0 ≤ r' ∧ r' ≤ M ∧ n * B = U r' := fun n n0 n1 => by
          have hn := Int.mul_le_mul_of_nonneg_right (show n ≤ P by omega) (Int.le_of_lt hBp)
          exact rank_of (N := n) (q := n) (k := i) hM hB.symm rfl n0 (Int.le_refl _) (by omega) (by omega)
        rcases (show y = k * 4503599627370496 + q ∨ y = k * 4503599627370496 + q + 1 by omega) with hyy | hyy
        · rw [hyy, g1, eE, f1, e, ← Int.sub_mul]
          obtain ⟨r', a, b, c⟩ := fin' (N - q * P) (by omega) (by omega)
          exact ⟨r', a, b, .inl c⟩
        · rw [hyy, g2, eE, f2', e, ← Int.sub_mul]
          obtain ⟨r', a, b, c⟩ := fin' (q * P + P - N) (by omega) (by omega)
          refine ⟨r', a, b, .inr ?_⟩
          rw [← c, ← Int.neg_mul]; congr 1; omega
      · exfalso
        obtain ⟨j, hj⟩ : ∃ j : Nat, i = k + j := ⟨i - k, by omega⟩
        have eE : sc 1 ((i : Int) - 1074) = 2 ^ j * sc 1 ((k : Int) - 1074) := by
          rw [← sc_mul1, sc_two _ _ (by omega)]
          congr 1; omega
        rw [eE, ← Int.mul_assoc] at e
        rw [g1, e] at hlo
        rw [g2, e] at hhi
        have l1 := Int.le_of_mul_le_mul_right hlo hEp
        have l2 := Int.lt_of_mul_lt_mul_right hhi (Int.le_of_lt hEp)
        apply hA
        rw [g1, e, show N * 2 ^ j = q by omega]
  obtain ⟨r', a, b, c⟩ := key
  refine ⟨r', a, b, ?_⟩
  unfold sgm
  cases ng d
  · simp; exact c
  · simp; omega
theorem rest_p {x y mode : Int} (hm : 0 ≤ mode ∧ mode ≤ 4) (fx : fi x) (fy : fi y) (hu : -1074 ≤ F.ulp x + F.ulp y) (hp : F.abs (MT x y mode).1 < 9218868437227405311) : ∃ a, FT x y (F.neg (MT x y mode).1) mode = (a, false, 0) := by
  have hx := And.intro fx.1 fx.2.1
  have hy := And.intro fy.1 fy.2.1
  cases h : (bc x y).2
  · rw [MT_fi hm h] at hp ⊢
    dsimp only at hp ⊢
    obtain ⟨N, n0, n1, e⟩ := pd_unit fx fy
    have a := (pd_p fx fy rfl).2.1.ok
    obtain ⟨f, r, r0, r1, hr⟩ := left_p hm a hu n0 n1 e hp
    have g := fi_neg f
    rw [FT_fi hm h g.2.2]
    have b := fd_p fx fy g
    rw [val_neg f] at b
    have ab := A_abs (fd x y (F.neg (TX (PD x y).d mode)))
    have hU := U_pos r0
    have eA : A (fd x y (F.neg (TX (PD x y).d mode))) = U r := by
      rw [b.2] at ab
      rcases Int.lt_or_le (S (PD x y).d + -val (TX (PD x y).d mode)) 0 with h1 | h1
      · rw [(ab.2 h1).1]; omega
      · rw [(ab.1 h1).1]; omega
    have el := (exact_p hm b.1.ok r0 r1 eA).1
    rw [el]
    split
    · exact ⟨_, rfl⟩
    · exact ⟨_, rfl⟩
  · rw [MT_bc hm h, FT_bc hm h]
    dsimp only
    have c1 := (fi_cls hx).1 fx
    have c2 := (fi_cls hy).1 fy
    have h3 : min (F.cls x) (F.cls y) = 1 := by
      rcases Classical.em (min (F.cls x) (F.cls y) = 1) with h3 | h3
      · exact h3
      · exfalso
        unfold bc at h
        rw [if_neg (by omega), if_neg (by omega), if_neg h3] at h
        cases h
    have e : bc x y = (sp x y, true) := by
      unfold bc
      rw [if_neg (by omega), if_neg (by omega), if_pos h3]
    rw [e]
    dsimp only
    have f : fi (sp x y) ∧ val (sp x y) = 0 := by
      rcases sp2 x y with h | h <;> rw [h]
      · exact val00
      · exact val08
    rw [(AT_fin hm (by simp) (f2 f.1 (fi_neg f.1))).1 (by simp [vs, val_neg f.1, f.2])]
    exact ⟨_, rfl⟩
end PC
end Go.Proofs.YtpmjeipdldnnbaaDoor
