/-
  Package quot, pure: quotients and roots of numbers as cuts; what is told of a mantissa and what is left.
-/
import Derived.Test.YtpmjeipdldnnbaaGreatDoorJ1
import Derived.Test.YtpmjeipdldnnbaaGreatDoorK9
namespace Go.Proofs.YtpmjeipdldnnbaaGreatDoor
set_option linter.unusedVariables false
set_option linter.unusedSimpArgs false
open Go.RowKit
set_option linter.unusedVariables false
set_option linter.unusedSimpArgs false
namespace JC
open L NC NK DC RC SC PC
@[irreducible] def KN : Nat := 60000
theorem KN_eq : KN = 60000 := by unfold KN; rfl
/-- how far from 0 a number is -/
def ab (x : Int) : Int := U (x % 9223372036854775808)
theorem val_ab {x : Int} (h : fi x) : val x = sgm (F.sgn x) (ab x) := val_eq h
theorem ab_pos {x : Int} (h : fi x) (h0 : val x ≠ 0) : 0 < ab x := by
  have h1 := U_pos (r := x % 9223372036854775808) (by omega)
  have h2 := val_ab h
  unfold ab at *
  generalize U (x % 9223372036854775808) = u at *
  rcases Int.lt_or_eq_of_le h1 with h | h
  · exact h
  · subst h
    exfalso; apply h0; rw [h2]
    unfold sgm; split <;> rfl
/-- a number above 0: its odd mantissa, its exponent -/
theorem of_parts {x : Int} (h : fi x) (h0 : val x ≠ 0) : ∃ o X : Int, OfD x = ⟨0, 0, sgm (F.sgn x) o, X⟩ ∧ 0 < o ∧ o < 9007199254740992 ∧ o % 2 = 1 ∧ -1074 ≤ X ∧ X ≤ 1024 ∧ ab x = sc o X := by
  obtain ⟨e0, hf⟩ := of_fit h
  have hab := ab_pos h h0
  have hv := val_ab h
  have e : OfD x = fin (sgm (F.sgn x) (mant x)) (F.ulp x) := by unfold OfD; rw [if_neg h.2.2]
  have q0 := F.exq_bd x
  have f0 := F.fra_bd x
  have m0 : 0 ≤ mant x ∧ mant x < 9007199254740992 := by unfold mant; split <;> omega
  have u0 : -1074 ≤ F.ulp x := by unfold F.ulp; split <;> omega
  generalize mant x = M at *
  generalize F.ulp x = u at *
  have hM : M ≠ 0 := by
    rintro rfl
    apply h0
    unfold val
    rw [e, show sgm (F.sgn x) 0 = 0 by unfold sgm; split <;> rfl, fin_zero]
    exact sc_zero.2 rfl
  obtain ⟨o, o1, o2⟩ := tz_spec hM
  have eg := fin_sg (b := F.sgn x) (x := u) o1 o2
  have os := odd_small o1 (by omega)
  rw [← e] at eg
  rw [eg] at e0
  by_cases hi : inb (sgm (F.sgn x) o) (u + tz M)
  · rw [if_pos hi] at eg
    have hx := hf.x
    have hhi := hf.hi
    have hlo := hf.lo
    have hv' : val x = sc (sgm (F.sgn x) o) (u + tz M) := by unfold val; rw [eg]; rfl
    rw [eg] at hx hhi hlo
    have hS : S (Dy.mk 0 (sgm (F.sgn x) o) (u + tz M)) = sc (sgm (F.sgn x) o) (u + tz M) := rfl
    rw [hS] at hhi hlo
    have es : sc (sgm (F.sgn x) o) (u + tz M) = sgm (F.sgn x) (sc o (u + tz M)) := by unfold sgm; split; exact sc_neg _ _; rfl
    have ea : ab x = sc o (u + tz M) := by
      rw [hv', es] at hv
      unfold sgm at hv
      split at hv <;> omega
    refine ⟨o, u + tz M, eg, os.1, by omega, o2, by omega, ?_, ea⟩
    rcases Int.lt_or_le 1024 (u + tz M) with k | k
    · exfalso
      rw [es] at hhi hlo
      generalize hX : u + (tz M : Int) = X at *
      have a1 : sc 1 X ≤ sc o X := sc_le.2 (by omega)
      obtain ⟨t, ht⟩ : ∃ t : Int, t = 1024 := ⟨_, rfl⟩
      rw [← ht] at hhi hlo k
      have a2 := sc1_le (x := t + 1) (y := X) (by omega) (by omega)
      have a3 := sc_shift 1 t 1 (by omega)
      rw [show (1 : Int) * 2 ^ 1 = 2 by decide, show t + ((1 : Nat) : Int) = t + 1 by omega, sc_mul1] at a3
      have a4 := sc_one_pos t
      generalize sc 1 t = B at *
      cases hs : F.sgn x <;> rw [hs] at hhi hlo <;> unfold sgm at hhi hlo <;> simp at hhi hlo <;> omega
    · exact k
  · rw [if_neg hi] at e0; cases e0
/-- what is left: a part more, or nothing -/
def ones (b left : Bool) : Dy := if left = true then ⟨0, sgm b 1, 0⟩ else dz
theorem lt_390 {z : Int} {B : Nat} (hB : B = 400) (h : z < 2 ^ B) : z < 4294967296 ^ 390 ∧ z < 4294967296 ^ 400 := by
  have e : (4294967296 : Int) = 2 ^ 32 := by decide
  rw [e, ← Int.pow_mul, ← Int.pow_mul]
  exact ⟨Int.lt_trans h (two_lt' (by omega)), Int.lt_trans h (two_lt' (by omega))⟩
theorem fin_pos {b : Bool} {z x : Int} {B : Nat} (hB : B = 400) (h0 : 0 < z) (hz : z < 2 ^ B) (hx : -9000 ≤ x ∧ x ≤ 9000) :
    ∃ o X : Int, fin (sgm b z) x = ⟨0, 0, sgm b o, X⟩ ∧ 0 < o ∧ o ≤ z ∧ sc o X = sc z x ∧ -10000 ≤ X ∧ X ≤ 10000 ∧ Ok ⟨0, sgm b o, X⟩ := by
  obtain ⟨o, o1, o2⟩ := tz_spec (show z ≠ 0 by omega)
  have os := odd_small o1 h0
  have hk : tz z < 400 := by
    rcases Nat.lt_or_ge (tz z) 400 with h | h
    · exact h
    · exfalso
      have a1 : (2 : Int) ^ B ≤ 2 ^ tz z := two_le' (by omega)
      have a2 := Int.mul_le_mul_of_nonneg_right (show 1 ≤ o by omega) (Int.le_of_lt (two_pos' (tz z)))
      omega
  have hl := lt_390 hB (show o < 2 ^ B by omega)
  have hi : inb (sgm b o) (x + tz z) := by
    unfold inb
    have := hl.2
    generalize (4294967296 : Int) ^ 400 = c400 at *
    unfold sgm
    split <;> omega
  have e := fin_sg (b := b) (x := x) o1 o2
  rw [if_pos hi] at e
  refine ⟨o, x + tz z, e, os.1, os.2, ?_, by omega, by omega, ?_⟩
  · have := sc_shift o x (tz z) (by omega)
    rw [← o1] at this
    exact this.symm
  · have := fin_ok (sgm b z) x
    rw [e] at this
    exact this
theorem finish_p {b left : Bool} {z x mode r : Int} {hf m : Bool} {B : Nat} (hB : B = 400) (hm : 0 ≤ mode ∧ mode ≤ 4) (h0 : 0 < z) (hz : z < 2 ^ B) (hx : -9000 ≤ x ∧ x ≤ 9000) (t : Tow (sc z x) r hf m) :
    PE (fin (sgm b z) x).d (ones b left) mode = 0 ∧ PX (fin (sgm b z) x).d (ones b left) mode = rx b (ry b r hf (m || left) mode) ∧ PL (fin (sgm b z) x).d (ones b left) mode = (hf || (m || left)) := by
  obtain ⟨o, X, e, o1, o2, o3, x1, x2, hok⟩ := fin_pos (b := b) hB h0 hz hx
  rw [e]
  show PE ⟨0, sgm b o, X⟩ _ _ = 0 ∧ PX ⟨0, sgm b o, X⟩ _ _ = _ ∧ PL ⟨0, sgm b o, X⟩ _ _ = _
  have hl := lt_390 hB (show o < 2 ^ B by omega)
  have hn : ((sgm b o).natAbs : Int) = o := by unfold sgm; split <;> omega
  have hg : ng ⟨0, sgm b o, X⟩ = b := by
    unfold ng sgm
    cases b
    · simp; omega
    · simp; omega
  have e1 : isdir (ones b left) = true := by unfold ones isdir sgm; cases left <;> cases b <;> decide
  have e2 : (ones b left).er = 0 := by unfold ones; cases left <;> rfl
  have pe : PE ⟨0, sgm b o, X⟩ (ones b left) mode = 0 := by
    unfold PE
    rw [if_neg (by simp), if_neg (by simpa using e2), if_neg (by simp [hm, e1])]
    show (if 4294967296 ^ 390 ≤ ((sgm b o).natAbs : Int) then (2 : Int) else 0) = 0
    rw [hn, if_neg]
    have := hl.1
    generalize (4294967296 : Int) ^ 390 = c at *
    omega
  refine ⟨pe, ?_⟩
  rw [← o3] at t
  cases left
  · have n0 : ((ones b false).m.natAbs : Int) = 0 := rfl
    have z0 : az ⟨0, sgm b o, X⟩ (ones b false) = o := by unfold az nz; rw [if_pos n0]; exact hn
    have z1 : ax ⟨0, sgm b o, X⟩ (ones b false) = X := by unfold ax nx; rw [if_pos n0]
    have z2 : bz ⟨0, sgm b o, X⟩ (ones b false) = b := by unfold bz nb; rw [if_pos n0]; exact hg
    have t0 : Tow (sc (az ⟨0, sgm b o, X⟩ (ones b false)) (ax ⟨0, sgm b o, X⟩ (ones b false))) r hf m := by rw [z0, z1]; exact t
    have ee := tow_eq t0
    unfold PX PL YY LL
    rw [if_pos pe, if_pos pe, ee, z2, Bool.or_false]
    exact ⟨rfl, rfl⟩
  · have n1 : ((ones b true).m.natAbs : Int) = 1 := by unfold ones sgm; cases b <;> decide
    have n0 : ¬ ((ones b true).m.natAbs : Int) = 0 := by omega
    have k0 : ¬ (((Dy.mk 0 (sgm b o) X).m.natAbs : Int)) = 0 := by show ¬ ((sgm b o).natAbs : Int) = 0; omega
    have hgd : ng ⟨0, sgm b o, X⟩ = ng (ones b true) := by rw [hg]; unfold ng ones sgm; cases b <;> decide
    have z0 : az ⟨0, sgm b o, X⟩ (ones b true) = o * 18446744073709551616 + 1 := by unfold az nz; rw [if_neg n0, if_neg k0, if_pos hgd]; show ((sgm b o).natAbs : Int) * _ + 1 = _; rw [hn]
    have z1 : ax ⟨0, sgm b o, X⟩ (ones b true) = X - 64 := by unfold ax nx; rw [if_neg n0, if_neg k0]
    have z2 : bz ⟨0, sgm b o, X⟩ (ones b true) = b := by unfold bz nb; rw [if_neg n0, if_neg k0]; exact hg
    have hN := tow_nudge (z := o) (x := X) o1 hl.2 (by omega) t
    have t0 : Tow (sc (az ⟨0, sgm b o, X⟩ (ones b true)) (ax ⟨0, sgm b o, X⟩ (ones b true))) r hf true := by rw [z0, z1, nudge_val _ _ (by omega), Int.one_mul]; exact hN.1
    have ee := tow_eq t0
    unfold PX PL YY LL
    rw [if_pos pe, if_pos pe, ee, z2, Bool.or_true]
    exact ⟨rfl, rfl⟩
/-- the quotient: its whole part, and what is left -/
theorem div_le {N D o X L f z e : Int} (hz : -10000 ≤ e) (hX : -10000 ≤ X) (hf : e + X = f) (hD : D = sc o X) (hN : N = sc L f * 2 ^ KN) : (qle N D (2 * sc z e) ↔ z * o ≤ L) ∧ (qlt N D (2 * sc z e) ↔ z * o < L) := by
  have h := sc_mul (m := z) (n := o) hz hX KN_eq
  have hp := two_pos' KN
  unfold qle qlt
  rw [hD, hN, Int.mul_assoc, ← h, hf]
  have h1 := sc_le (m := z * o) (n := L) (x := f)
  have h2 := sc_lt (m := z * o) (n := L) (x := f)
  generalize sc (z * o) f = a at *
  generalize sc L f = c at *
  rw [← h1, ← h2]
  constructor
  · constructor
    · intro k
      exact Int.le_of_mul_le_mul_right (show a * 2 ^ KN ≤ c * 2 ^ KN by omega) hp
    · intro k
      have := Int.mul_le_mul_of_nonneg_right k (Int.le_of_lt hp)
      omega
  · constructor
    · intro k
      exact Int.lt_of_mul_lt_mul_right (show a * 2 ^ KN < c * 2 ^ KN by omega) (Int.le_of_lt hp)
    · intro k
      have := Int.mul_lt_mul_of_pos_right k hp
      omega
theorem two_sc (z e : Int) : 2 * sc z e + 2 * sc 1 e = 2 * sc (z + 1) e := by rw [sc_add]; omega
theorem div_tog {N D o X L f z e r : Int} {hf m left : Bool} {B : Nat} (hB : B = 400) (he : -10000 ≤ e ∧ e ≤ 10000) (hX : -10000 ≤ X) (hfe : e + X = f) (hD : D = sc o X) (hN : N = sc L f * 2 ^ KN) (ho : 0 < o) (hz0 : 0 < z) (hz1 : z < 2 ^ B)
    (hg : 18014398509481984 ≤ z ∨ e ≤ -1076) (h1 : z * o ≤ L) (h2 : L < (z + 1) * o) (hl : left = decide (z * o < L)) (t : Tow (sc z e) r hf m) : Tog (qle N D) (qlt N D) r hf (m || left) := by
  have hDp : 0 < D := by rw [hD, sc_mul1]; exact Int.mul_pos ho (sc_one_pos _)
  apply tog_near (qcut hDp) (by omega) hz0 (lt_390 hB hz1).2 hg t
  · exact (div_le he.1 hX hfe hD hN).1.2 h1
  · rw [two_sc]
    intro k
    have := (div_le he.1 hX hfe hD hN).1.1 k
    omega
  · rw [hl, decide_eq_true_iff]
    exact (div_le he.1 hX hfe hD hN).2.symm
theorem root_le {N L f z e : Int} (hz : -10000 ≤ e) (hf : e + e = f) (hN : N = sc L f * 2 ^ KN) (h0 : 0 < z) : (rle N (2 * sc z e) ↔ z * z ≤ L) ∧ (rlt N (2 * sc z e) ↔ z * z < L) := by
  have h := sc_mul (m := z) (n := z) hz hz KN_eq
  have hp := two_pos' KN
  have hs : 0 < sc z e := by rw [sc_mul1]; exact Int.mul_pos h0 (sc_one_pos _)
  have e2 : 2 * sc z e * (2 * sc z e) = 4 * (sc z e * sc z e) := by grind
  have hn : ¬ 2 * sc z e ≤ 0 := by omega
  unfold rle rlt
  rw [hN, e2, ← h, hf]
  have h1 := sc_le (m := z * z) (n := L) (x := f)
  have h2 := sc_lt (m := z * z) (n := L) (x := f)
  generalize sc (z * z) f = a at *
  generalize sc L f = c at *
  rw [← h1, ← h2]
  constructor
  · constructor
    · intro k
      have k := k.resolve_left hn
      exact Int.le_of_mul_le_mul_right (show a * 2 ^ KN ≤ c * 2 ^ KN by omega) hp
    · intro k
      have := Int.mul_le_mul_of_nonneg_right k (Int.le_of_lt hp)
      exact .inr (by omega)
  · constructor
    · intro k
      have k := k.resolve_left hn
      exact Int.lt_of_mul_lt_mul_right (show a * 2 ^ KN < c * 2 ^ KN by omega) (Int.le_of_lt hp)
    · intro k
      have := Int.mul_lt_mul_of_pos_right k hp
      exact .inr (by omega)
theorem root_tog {N L f z e r : Int} {hf m left : Bool} {B : Nat} (hB : B = 400) (he : -10000 ≤ e ∧ e ≤ 10000) (hfe : e + e = f) (hN : N = sc L f * 2 ^ KN) (hz0 : 0 < z) (hz1 : z < 2 ^ B)
    (hg : 18014398509481984 ≤ z) (h1 : z * z ≤ L) (h2 : L < (z + 1) * (z + 1)) (hl : left = decide (z * z < L)) (t : Tow (sc z e) r hf m) : Tog (rle N) (rlt N) r hf (m || left) := by
  apply tog_near (rcut N) (by omega) hz0 (lt_390 hB hz1).2 (.inl hg) t
  · exact (root_le he.1 hfe hN hz0).1.2 h1
  · rw [two_sc]
    intro k
    have := (root_le he.1 hfe hN (show 0 < z + 1 by omega)).1.1 k
    omega
  · rw [hl, decide_eq_true_iff]
    exact (root_le he.1 hfe hN hz0).2.symm
/-- what is told by classes -/
def qc (x y : Int) : Int × Bool :=
  if F.cls x = 5 ∨ F.cls y = 5 then (9221120237041090560, true)
  else if F.cls x = F.cls y ∧ (F.cls x = 4 ∨ F.cls x = 1) then (9221120237041090560, true)
  else if F.cls x = 4 ∨ F.cls y = 1 then (sp x y + 9218868437227405312, true)
  else if F.cls x = 1 ∨ F.cls y = 4 then (sp x y, true)
  else (0, false)
noncomputable def DT (x y mode : Int) : Int × Bool × Int :=
  if ¬ (0 ≤ mode ∧ mode ≤ 4) then (0, false, 1)
  else if (qc x y).2 = true then ((qc x y).1, false, 0)
  else RT (F.sgn x != F.sgn y) (qle (ab x * 2 ^ KN) (ab y)) (qlt (ab x * 2 ^ KN) (ab y)) mode
noncomputable def ST (x mode : Int) : Int × Bool × Int :=
  if ¬ (0 ≤ mode ∧ mode ≤ 4) then (0, false, 1)
  else if F.cls x = 1 ∨ x = 9218868437227405312 then (x, false, 0)
  else if F.cls x = 5 ∨ F.sgn x = true then (9221120237041090560, false, 0)
  else RT false (rle (ab x * 2 ^ KN)) (rlt (ab x * 2 ^ KN)) mode
theorem qc_no {x y : Int} (hx : 0 ≤ x ∧ x ≤ 18446744073709551615) (hy : 0 ≤ y ∧ y ≤ 18446744073709551615) : (qc x y).2 = false ↔ fi x ∧ fi y ∧ val x ≠ 0 ∧ val y ≠ 0 := by
  have a := F.cls_bd x
  have b := F.cls_bd y
  have e : (qc x y).2 = false ↔ (F.cls x ≤ 3 ∧ F.cls y ≤ 3 ∧ F.cls x ≠ 1 ∧ F.cls y ≠ 1) := by
    unfold qc
    by_cases h1 : F.cls x = 5 ∨ F.cls y = 5
    · rw [if_pos h1]; simp; omega
    · rw [if_neg h1]
      by_cases h2 : F.cls x = F.cls y ∧ (F.cls x = 4 ∨ F.cls x = 1)
      · rw [if_pos h2]; simp; omega
      · rw [if_neg h2]
        by_cases h3 : F.cls x = 4 ∨ F.cls y = 1
        · rw [if_pos h3]; simp; omega
        · rw [if_neg h3]
          by_cases h4 : F.cls x = 1 ∨ F.cls y = 4
          · rw [if_pos h4]; simp; omega
          · rw [if_neg h4]; simp; omega
  rw [e]
  constructor
  · rintro ⟨h1, h2, h3, h4⟩
    have f := (fi_cls hx).2 h1
    have g := (fi_cls hy).2 h2
    exact ⟨f, g, fun h => h3 ((val0 f).1 h), fun h => h4 ((val0 g).1 h)⟩
  · rintro ⟨f, g, h3, h4⟩
    exact ⟨(fi_cls hx).1 f, (fi_cls hy).1 g, fun h => h3 ((val0 f).2 h), fun h => h4 ((val0 g).2 h)⟩
theorem DT_no {x y mode : Int} (h : ¬ (0 ≤ mode ∧ mode ≤ 4)) : DT x y mode = (0, false, 1) := by unfold DT; rw [if_pos h]
theorem DT_qc {x y mode : Int} (hm : 0 ≤ mode ∧ mode ≤ 4) (h : (qc x y).2 = true) : DT x y mode = ((qc x y).1, false, 0) := by
  unfold DT; rw [if_neg (by simpa using hm), if_pos h]
theorem DT_fi {x y mode : Int} (hm : 0 ≤ mode ∧ mode ≤ 4) (h : (qc x y).2 = false) : DT x y mode = RT (F.sgn x != F.sgn y) (qle (ab x * 2 ^ KN) (ab y)) (qlt (ab x * 2 ^ KN) (ab y)) mode := by
  unfold DT; rw [if_neg (by simpa using hm), if_neg (by rw [h]; simp)]
theorem ST_no {x mode : Int} (h : ¬ (0 ≤ mode ∧ mode ≤ 4)) : ST x mode = (0, false, 1) := by unfold ST; rw [if_pos h]
theorem ST_self {x mode : Int} (hm : 0 ≤ mode ∧ mode ≤ 4) (h : F.cls x = 1 ∨ x = 9218868437227405312) : ST x mode = (x, false, 0) := by
  unfold ST; rw [if_neg (by simpa using hm), if_pos h]
theorem ST_nan {x mode : Int} (hm : 0 ≤ mode ∧ mode ≤ 4) (h : ¬ (F.cls x = 1 ∨ x = 9218868437227405312)) (h' : F.cls x = 5 ∨ F.sgn x = true) : ST x mode = (9221120237041090560, false, 0) := by
  unfold ST; rw [if_neg (by simpa using hm), if_neg h, if_pos h']
theorem ST_fi {x mode : Int} (hm : 0 ≤ mode ∧ mode ≤ 4) (h : ¬ (F.cls x = 1 ∨ x = 9218868437227405312)) (h' : ¬ (F.cls x = 5 ∨ F.sgn x = true)) : ST x mode = RT false (rle (ab x * 2 ^ KN)) (rlt (ab x * 2 ^ KN)) mode := by
  unfold ST; rw [if_neg (by simpa using hm), if_neg h, if_neg h']
theorem st_fi {x : Int} (hx : 0 ≤ x ∧ x ≤ 18446744073709551615) (h : ¬ (F.cls x = 1 ∨ x = 9218868437227405312)) (h' : ¬ (F.cls x = 5 ∨ F.sgn x = true)) : fi x ∧ val x ≠ 0 ∧ F.sgn x = false := by
  have a := F.cls_bd x
  have hs : F.sgn x = false := by cases k : F.sgn x; rfl; exact absurd (.inr k) h'
  have h4 : F.cls x ≠ 4 := fun k => by
    rcases (cls_inf hx.1 hx.2).1 k with rfl | rfl
    · exact h (.inr rfl)
    · exact absurd hs (by decide)
  have f := (fi_cls hx).2 (by omega)
  exact ⟨f, fun k => h (.inl ((val0 f).1 k)), hs⟩
end JC
end Go.Proofs.YtpmjeipdldnnbaaGreatDoor
