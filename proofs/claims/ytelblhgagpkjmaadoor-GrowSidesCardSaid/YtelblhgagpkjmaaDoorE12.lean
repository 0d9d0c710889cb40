/-
  Texts glued together for a claim: P1 P2 P3 X3 X4.
-/
import Derived.Test.YtelblhgagpkjmaaDoorE11
import Derived.Test.YtelblhgagpkjmaaDoorE8
/-
  Package prod, pure: products of numbers, their values; what Mul, Fma and Dot tell.
-/
namespace Go.Proofs.YtelblhgagpkjmaaDoor
set_option linter.unusedVariables false
set_option linter.unusedSimpArgs false
open Go.RowKit
set_option linter.unusedVariables false
set_option linter.unusedSimpArgs false
namespace PC
open L NC NK DC RC SC
/-- what fits easily: sums of products -/
structure FitP (d : Dy) (k : Int) : Prop where
  ok : Ok d
  x : -2148 ≤ d.x
  hi : S d ≤ k * sc 1 2048
  lo : -(k * sc 1 2048) ≤ S d
theorem big_small' {n : Nat} (h : n = 4204) : (2 : Int) ^ n < 4294967296 ^ 400 := by
  have e : (4294967296 : Int) = 2 ^ 32 := by decide
  rw [e, ← Int.pow_mul]
  exact two_lt' (by omega)
theorem inb_fitP {o x t : Int} (ht : t = 2056) (ho : o ≠ 0) (hx : -2148 ≤ x) (h1 : sc o x ≤ sc 1 t) (h2 : -(sc 1 t) ≤ sc o x) : inb o x := by
  have hp := sc_one_pos x
  have e1 : sc o x = o * sc 1 x := sc_mul1 _ _
  have hxt : x ≤ t := by
    rcases Int.lt_or_le t x with h | h
    · exfalso
      have h3 : sc 1 t < sc 1 x := by
        have h4 := sc1_le (x := t + 1) (y := x) (by omega) (by omega)
        have h5 := sc_shift 1 t 1 (by omega)
        rw [show (1 : Int) * 2 ^ 1 = 2 by decide, show t + ((1 : Nat) : Int) = t + 1 by omega, sc_mul1] at h5
        have := sc_one_pos t
        omega
      rw [e1] at h1 h2
      generalize sc 1 x = E at *
      generalize sc 1 t = B at *
      rcases Int.lt_or_le o 0 with h | h
      · have := Int.mul_le_mul_of_nonneg_right (show o ≤ -1 by omega) (Int.le_of_lt hp)
        omega
      · have := Int.mul_le_mul_of_nonneg_right (show 1 ≤ o by omega) (Int.le_of_lt hp)
        omega
    · exact h
  obtain ⟨n, hn⟩ : ∃ n : Nat, n = 4204 := ⟨_, rfl⟩
  have e2 : sc 1 t = 2 ^ n * sc 1 (-2148) := by
    rw [← sc_mul1, sc_two n _ (by omega)]
    congr 1; omega
  have e3 := sc1_le (x := -2148) (y := x) (by omega) (by omega)
  have hq := sc_one_pos (-2148)
  have hb := big_small' hn
  rw [e1, e2] at h1 h2
  have hP := two_pos' n
  have hx2 : x ≤ 2056 := by omega
  clear e2 hn ht
  have l1 : o ≤ 2 ^ n := by
    rcases Int.lt_or_le (2 ^ n) o with h | h
    · exfalso
      have a := Int.mul_le_mul_of_nonneg_right (show 2 ^ n + 1 ≤ o by omega) (Int.le_of_lt hp)
      have b := Int.mul_le_mul_of_nonneg_left e3 (Int.le_of_lt hP)
      rw [Int.add_mul, Int.one_mul] at a
      omega
    · exact h
  have l2 : -(2 ^ n) ≤ o := by
    rcases Int.lt_or_le o (-(2 ^ n)) with h | h
    · exfalso
      have a := Int.mul_le_mul_of_nonneg_right (show o ≤ -(2 ^ n) - 1 by omega) (Int.le_of_lt hp)
      have b := Int.mul_le_mul_of_nonneg_left e3 (Int.le_of_lt hP)
      rw [Int.sub_mul, Int.one_mul, Int.neg_mul] at a
      omega
    · exact h
  unfold inb
  generalize (4294967296 : Int) ^ 400 = c400 at *
  omega
theorem fin_xP {m x : Int} (h : (fin m x).e = 0) (hx : -2148 ≤ x) : -2148 ≤ (fin m x).d.x := by
  rcases fin_x h with h1 | h1
  · have := (fin_ok m x).2.1
    unfold can at this
    omega
  · omega
theorem fit_limP {j t : Int} (hj : j ≤ 256) (ht : t = 2056) : j * sc 1 2048 ≤ sc 1 t := by
  have h := sc_two 8 2048 (by omega)
  have h' : sc 1 t = 256 * sc 1 2048 := by
    rw [← sc_mul1, show (256 : Int) = 2 ^ 8 by decide, h, ht]; rfl
  rw [h']
  exact Int.mul_le_mul_of_nonneg_right hj (Int.le_of_lt (sc_one_pos _))
theorem fin_fitP {m x k : Int} (hx : -2148 ≤ x) (hk : k ≤ 256) (h1 : sc m x ≤ k * sc 1 2048) (h2 : -(k * sc 1 2048) ≤ sc m x) : (fin m x).e = 0 := by
  obtain ⟨t, ht⟩ : ∃ t : Int, t = 2056 := ⟨_, rfl⟩
  have hl := fit_limP hk ht
  by_cases h0 : m = 0
  · subst h0; rw [fin_zero]
  · obtain ⟨o, o1, o2⟩ := tz_spec h0
    rw [fin_of o1 o2]
    have e := sc_shift o x (tz m) (by omega)
    rw [← o1] at e
    rw [e] at h1 h2
    have hi := inb_fitP (o := o) (x := x + tz m) ht (odd_ne o2) (by omega) (by omega) (by omega)
    rw [if_pos hi]
theorem prod_le {a b B : Int} (hB : 0 ≤ B) (a1 : a ≤ B) (a2 : -B ≤ a) (b1 : b ≤ B) (b2 : -B ≤ b) : a * b ≤ B * B ∧ -(B * B) ≤ a * b := by
  have h : (a * b).natAbs ≤ (B * B).natAbs := by
    rw [Int.natAbs_mul, Int.natAbs_mul]
    exact Nat.mul_le_mul (by omega) (by omega)
  have : 0 ≤ B * B := Int.mul_nonneg hB hB
  omega
theorem mul_fit {a b : Dy} (ha : Fit a 1) (hb : Fit b 1) {K : Nat} (hK : K = 60000) : (DC.Mul a b).e = 0 ∧ FitP (DC.Mul a b).d 1 ∧ S (DC.Mul a b).d * 2 ^ K = S a * S b := by
  have he : ee a.er b.er = 0 := ee0.2 ⟨ha.ok.1, hb.ok.1⟩
  have x1 := ha.x
  have x2 := hb.x
  have e1 := sc_mul (m := a.m) (n := b.m) (x := a.x) (y := b.x) (by omega) (by omega) hK
  obtain ⟨u, hu⟩ : ∃ u : Int, u = 1024 := ⟨_, rfl⟩
  have e2 := sc_mul (m := 1) (n := 1) (x := u) (y := u) (by omega) (by omega) hK
  rw [Int.one_mul] at e2
  have hp := sc_one_pos u
  have h1 := ha.hi
  have h2 := ha.lo
  have h3 := hb.hi
  have h4 := hb.lo
  rw [Int.one_mul, ← hu] at h1 h2 h3 h4
  have pl := prod_le (Int.le_of_lt hp) h1 h2 h3 h4
  have hP := two_pos' K
  have l1 : sc (a.m * b.m) (a.x + b.x) ≤ sc 1 (u + u) := by
    apply Int.le_of_mul_le_mul_right _ hP
    rw [e1, e2]; exact pl.1
  have l2 : -sc 1 (u + u) ≤ sc (a.m * b.m) (a.x + b.x) := by
    apply Int.le_of_mul_le_mul_right _ hP
    rw [Int.neg_mul, e1, e2]; exact pl.2
  have eu : sc 1 (u + u) = sc 1 2048 := by congr 1; omega
  rw [eu] at l1 l2
  have e0 : (DC.Mul a b).e = 0 := by
    unfold DC.Mul
    rw [if_neg (by simpa using he)]
    exact fin_fitP (k := 1) (by omega) (by omega) (by rw [Int.one_mul]; exact l1) (by rw [Int.one_mul]; exact l2)
  have hS := (mul_ok e0 (fun _ => ha.ok) (fun _ => hb.ok) hK).2.2
  have hS' : S (DC.Mul a b).d = sc (a.m * b.m) (a.x + b.x) := by
    apply Int.eq_of_mul_eq_mul_right (Int.ne_of_gt hP)
    rw [hS, e1]; rfl
  refine ⟨e0, ⟨mul_good' a b, ?_, by rw [hS', Int.one_mul]; exact l1, by rw [hS', Int.one_mul]; exact l2⟩, hS⟩
  unfold DC.Mul at e0 ⊢
  rw [if_neg (by simpa using he)] at e0 ⊢
  exact fin_xP e0 (by omega)
/-- the product of two numbers -/
def PD (x y : Int) : Re := if F.exq x = 2047 ∨ F.exq y = 2047 then ⟨4, dz⟩ else DC.Mul (OfD x).d (OfD y).d
theorem K_inj {a b : Int} {K : Nat} (h : a * 2 ^ K = b * 2 ^ K) : a = b := Int.eq_of_mul_eq_mul_right (Int.ne_of_gt (two_pos' K)) h
theorem neg_ok {d : Dy} (h : Ok d) : Ok (neg d) := by
  obtain ⟨a, b, c⟩ := h
  refine ⟨a, ?_, ?_⟩
  · unfold can at *
    show (-d.m = 0 ∧ d.x = 0) ∨ -d.m % 2 = 1
    omega
  · unfold inb at *
    show -d.m < _ ∧ _ < -d.m ∧ -10000 ≤ d.x ∧ d.x ≤ 10000
    generalize (4294967296 : Int) ^ 400 = c400 at *
    omega
/-- the sign of a product, as bits -/
def sp (x y : Int) : Int := if F.sgn x = F.sgn y then 0 else 9223372036854775808
/-- what is told by classes -/
def bc (x y : Int) : Int × Bool :=
  if max (F.cls x) (F.cls y) = 5 ∨ (max (F.cls x) (F.cls y) = 4 ∧ min (F.cls x) (F.cls y) = 1) then (9221120237041090560, true)
  else if max (F.cls x) (F.cls y) = 4 then (sp x y + 9218868437227405312, true)
  else if min (F.cls x) (F.cls y) = 1 then (sp x y, true)
  else (0, false)
noncomputable def MT (x y mode : Int) : Int × Bool × Int :=
  if ¬ (0 ≤ mode ∧ mode ≤ 4) then (0, false, 1)
  else if (bc x y).2 = true then ((bc x y).1, false, 0)
  else (TX (PD x y).d mode, TL (PD x y).d mode, 0)
/-- the product and one more -/
def fd (x y z : Int) : Dy := (DC.Add (PD x y).d (OfD z).d).d
noncomputable def FT (x y z mode : Int) : Int × Bool × Int :=
  if ¬ (0 ≤ mode ∧ mode ≤ 4) then (0, false, 1)
  else if (bc x y).2 = true then AT [(bc x y).1, z] mode
  else if F.exq z = 2047 then AT [0, z] mode
  else if (fd x y z).m = 0 ∧ mode = 2 then (9223372036854775808, false, 0)
  else (TX (fd x y z) mode, TL (fd x y z) mode, 0)
theorem cls1 {x : Int} (h0 : 0 ≤ x) (h1 : x ≤ 18446744073709551615) : F.cls x = 1 ↔ x = 0 ∨ x = 9223372036854775808 := by
  unfold F.cls F.exq F.fra
  constructor
  · intro h; repeat (first | omega | split at h)
  · rintro (rfl | rfl) <;> decide
theorem val00 : fi 0 ∧ val 0 = 0 := by
  have f0 : fi 0 := fi_of (by omega) (by omega) (by omega)
  refine ⟨f0, ?_⟩
  rw [val_eq f0, show (0 : Int) % 9223372036854775808 = 0 by decide, U_zero]; rfl
theorem val08 : fi 9223372036854775808 ∧ val 9223372036854775808 = 0 := by
  have f0 : fi 9223372036854775808 := fi_of (by omega) (by omega) (by omega)
  refine ⟨f0, ?_⟩
  rw [val_eq f0, show (9223372036854775808 : Int) % 9223372036854775808 = 0 by decide, U_zero]; rfl
theorem val0 {x : Int} (h : fi x) : val x = 0 ↔ F.cls x = 1 := by
  rw [cls1 h.1 h.2.1]
  constructor
  · exact val_zero h
  · rintro (rfl | rfl)
    · exact val00.2
    · exact val08.2
end PC
end Go.Proofs.YtelblhgagpkjmaaDoor

/-
  Package prod, pure: one; turned; in order; powers of two; what is exact.
-/
namespace Go.Proofs.YtelblhgagpkjmaaDoor
set_option linter.unusedVariables false
set_option linter.unusedSimpArgs false
open Go.RowKit
set_option linter.unusedVariables false
set_option linter.unusedSimpArgs false
namespace PC
open L NC NK DC RC SC
/-- a power of two as a number -/
theorem pow_val {p k : Int} (hk : -1022 ≤ k) (hk' : k ≤ 1023) (hp : p = (1023 + k) * 4503599627370496) : fi p ∧ val p = sc 1 k ∧ F.sgn p = false ∧ F.cls p = 3 := by
  have fp : fi p := fi_of (by omega) (by omega) (by omega)
  obtain ⟨j, hj⟩ : ∃ j : Nat, (j : Int) = 1022 + k := ⟨(1022 + k).toNat, by omega⟩
  have u := (U_of (k := j) (q := 4503599627370496) (by omega) (by omega) (by omega)).1
  rw [show (j : Int) * 4503599627370496 + 4503599627370496 = p by omega] at u
  have hs : F.sgn p = false := F.sgn_f (by omega)
  refine ⟨fp, ?_, hs, ?_⟩
  · rw [val_eq fp, hs, show p % 9223372036854775808 = p by omega, u]
    unfold sgm
    rw [← sc_mul1, show (4503599627370496 : Int) = 2 ^ 52 by decide, sc_two 52 _ (by omega)]
    simp
    congr 1; omega
  · unfold F.cls F.exq
    rw [if_neg (by omega), if_pos (by omega)]
end PC
end Go.Proofs.YtelblhgagpkjmaaDoor

/-
  Package prod, pure: Fma by one, by nothing more, and what is left of a product.
-/
namespace Go.Proofs.YtelblhgagpkjmaaDoor
set_option linter.unusedVariables false
set_option linter.unusedSimpArgs false
open Go.RowKit
set_option linter.unusedVariables false
set_option linter.unusedSimpArgs false
namespace PC
open L NC NK DC RC SC
/-- the unit of a number -/
theorem unit_ulp {x : Int} (h : fi x) : ∃ q : Int, 0 ≤ q ∧ q < 9007199254740992 ∧ val x = sgm (F.sgn x) (sc q (F.ulp x)) := by
  have hb := F.exq_bd x
  have hf := F.fra_bd x
  have h2 := h.2.2
  have hr : x % 9223372036854775808 = F.exq x * 4503599627370496 + F.fra x := by unfold F.exq F.fra; omega
  have mb : 0 ≤ mant x ∧ mant x < 9007199254740992 := by unfold mant; split <;> omega
  obtain ⟨k, hk⟩ : ∃ k : Nat, F.ulp x + 1074 = k := ⟨(F.ulp x + 1074).toNat, by unfold F.ulp; split <;> omega⟩
  have hkq : x % 9223372036854775808 = k * 4503599627370496 + mant x ∧ (k = 0 ∨ 4503599627370496 ≤ mant x) := by
    rw [hr]
    unfold F.ulp at hk
    unfold mant
    by_cases h : 0 < F.exq x
    · rw [if_pos h]; rw [if_pos (by omega)] at hk; exact ⟨by omega, by omega⟩
    · rw [if_neg h]; rw [if_neg (by omega)] at hk; exact ⟨by omega, by omega⟩
  have eU := (U_of mb.1 mb.2 hkq.2).1
  rw [← hkq.1, show (k : Int) - 1074 = F.ulp x by omega, ← sc_mul1] at eU
  exact ⟨_, mb.1, mb.2, by rw [val_eq h, eU]⟩
theorem ulp_bd {x : Int} (h : fi x) : -1074 ≤ F.ulp x ∧ F.ulp x ≤ 971 := by
  have := F.exq_bd x
  have := h.2.2
  unfold F.ulp; split <;> omega
end PC
end Go.Proofs.YtelblhgagpkjmaaDoor

/-
  Package exact, pure: what TwoSum and FastSum tell (T2, T1); nothing is lost; what is lost is no more than half of what one more counts.
-/
namespace Go.Proofs.YtelblhgagpkjmaaDoor
set_option linter.unusedVariables false
set_option linter.unusedSimpArgs false
open Go.RowKit
set_option linter.unusedVariables false
set_option linter.unusedSimpArgs false
namespace XC
open L NC NK DC RC SC PC
noncomputable def ad (x y : Int) : Int := (AT [x, y] 0).1
noncomputable def sb (x y : Int) : Int := (AT [x, F.neg y] 0).1
noncomputable def T2 (x y : Int) : Int × Int × Int :=
  if F.exq x = 2047 ∨ F.exq y = 2047 then (0, 0, 4) else if F.exq (ad x y) = 2047 then (0, 0, 2) else
  (ad x y, ad (sb x (sb (ad x y) y)) (sb y (sb (ad x y) (sb (ad x y) y))), 0)
noncomputable def T1 (x y : Int) : Int × Int × Int :=
  if F.exq x = 2047 ∨ F.exq y = 2047 then (0, 0, 4) else if F.exq (ad x y) = 2047 then (0, 0, 2) else
  (ad x y, sb y (sb (ad x y) x), 0)
/-- below 2^900, over the least unit -/
@[irreducible] def LL9 : Int := 2 ^ 1974
theorem lim9 {M : Int} (hM : M = 9218868437227405311) : 400 * (LL9 * e0) ≤ U M := by
  obtain ⟨k, hk⟩ : ∃ k : Nat, k = 2045 := ⟨_, rfl⟩
  have hU := (U_of (k := k) (q := 9007199254740991) (by omega) (by omega) (by omega))
  rw [show (k : Int) * 4503599627370496 + 9007199254740991 = M by omega] at hU
  rw [hU.1, e0_pow]
  obtain ⟨a, ha⟩ : ∃ a : Nat, a = 1974 := ⟨_, rfl⟩
  have e : LL9 = 2 ^ a := by unfold LL9; rw [ha]
  rw [e]
  have h1 : (2 : Int) ^ a ≤ 2 ^ k := tle (by omega)
  have h2 := Int.mul_le_mul_of_nonneg_right h1 (Int.le_of_lt e0_pos)
  have h3 := Int.mul_nonneg (Int.le_of_lt (tp a)) (Int.le_of_lt e0_pos)
  generalize (2 : Int) ^ a * e0 = p at *
  generalize (2 : Int) ^ k * e0 = q at *
  omega
theorem lim9_x {x X : Int} (h : fi x) (hx : F.exq x < 1923) (e : val x = X * e0) : X ≤ LL9 ∧ -LL9 ≤ X := by
  obtain ⟨q, q0, q1, hv⟩ := unit_ulp h
  have hu : F.ulp x ≤ 847 := by unfold F.ulp; split <;> omega
  have hb := ulp_bd h
  have h1 := sc1_le hu (by omega)
  obtain ⟨a, ha⟩ : ∃ a : Nat, a = 1974 := ⟨_, rfl⟩
  have e2 : LL9 = 2 ^ a := by unfold LL9; rw [ha]
  have h2 : sc q (F.ulp x) ≤ 2 ^ a * e0 := by
    rw [← e0_pow, show (a : Int) - 1074 = 847 + ((53 : Nat) : Int) by omega, ← sc_two _ _ (by omega), sc_mul1 q, sc_mul1 (2 ^ 53)]
    rw [show (2 : Int) ^ 53 = 9007199254740992 by decide]
    have g1 := sc_one_pos (F.ulp x)
    have g2 := Int.mul_le_mul_of_nonneg_right (Int.le_of_lt q1) (Int.le_of_lt g1)
    have g3 := Int.mul_le_mul_of_nonneg_left h1 (show (0 : Int) ≤ 9007199254740992 by decide)
    omega
  have h3 : 0 ≤ sc q (F.ulp x) := by rw [sc_mul1]; exact Int.mul_nonneg q0 (Int.le_of_lt (sc_one_pos _))
  rw [← e2] at h2
  rw [e] at hv
  have c : X * e0 ≤ LL9 * e0 ∧ -LL9 * e0 ≤ X * e0 := by
    rw [hv, Int.neg_mul]
    unfold sgm
    split <;> omega
  exact ⟨Int.le_of_mul_le_mul_right c.1 e0_pos, Int.le_of_mul_le_mul_right c.2 e0_pos⟩
theorem nr_add {x y X Y L M : Int} (hM : M = 9218868437227405311) (hL : 400 * (L * e0) ≤ U M) (fx : fi x) (fy : fi y) (vx : val x = X * e0) (vy : val y = Y * e0) (h1 : X + Y ≤ 200 * L) (h2 : -(200 * L) ≤ X + Y) : fi (ad x y) ∧ ∃ N, val (ad x y) = N * e0 ∧ Nr (X + Y) N := by
  have ev : vs [x, y] = (X + Y) * e0 := by rw [Int.add_mul, ← vx, ← vy]; simp [vs]
  have a1 := Int.mul_le_mul_of_nonneg_right h1 (Int.le_of_lt e0_pos)
  have a2 := Int.mul_le_mul_of_nonneg_right h2 (Int.le_of_lt e0_pos)
  rw [Int.neg_mul, Int.mul_assoc] at a2
  rw [Int.mul_assoc] at a1
  exact (nr_AT hM (by simp) (f2 fx fy) ev (by rw [ev]; omega) (.inl rfl)).2
theorem nr_sub {x y X Y L M : Int} (hM : M = 9218868437227405311) (hL : 400 * (L * e0) ≤ U M) (fx : fi x) (fy : fi y) (vx : val x = X * e0) (vy : val y = Y * e0) (h1 : X - Y ≤ 200 * L) (h2 : -(200 * L) ≤ X - Y) : fi (sb x y) ∧ ∃ N, val (sb x y) = N * e0 ∧ Nr (X - Y) N := by
  have := nr_add hM hL fx (fi_neg fy) vx (Y := -Y) (by rw [val_neg fy, vy, Int.neg_mul]) (by omega) (by omega)
  rwa [show X + -Y = X - Y by omega] at this
theorem nr_bd {n s B : Int} (h : Nr n s) (h1 : n ≤ B) (h2 : -B ≤ n) : s ≤ 2 * B ∧ -(2 * B) ≤ s := by
  have := h.2 0 fp_zero
  omega
/-- KNUTH: nothing is lost -/
theorem two_p {x y : Int} (fx : fi x) (fy : fi y) (hx : F.exq x < 1923) (hy : F.exq y < 1923) :
    ∃ s r X Y N : Int, T2 x y = (s, r, 0) ∧ fi s ∧ fi r ∧ val x = X * e0 ∧ val y = Y * e0 ∧ val s = N * e0 ∧ val r = (X + Y - N) * e0 ∧ Nr (X + Y) N ∧ Fp X ∧ Fp Y := by
  obtain ⟨M, hM⟩ : ∃ M : Int, M = 9218868437227405311 := ⟨_, rfl⟩
  have hL := lim9 hM
  obtain ⟨X, vx, pX⟩ := val_fp fx
  obtain ⟨Y, vy, pY⟩ := val_fp fy
  have bX := lim9_x fx hx vx
  have bY := lim9_x fy hy vy
  generalize LL9 = L at *
  obtain ⟨fs, N, vN, nN⟩ := nr_add hM hL fx fy vx vy (by omega) (by omega)
  have bN := nr_bd nN (B := 2 * L) (by omega) (by omega)
  obtain ⟨fa, A', va, na⟩ := nr_sub hM hL fs fy vN vy (by omega) (by omega)
  have ba := nr_bd na (B := 5 * L) (by omega) (by omega)
  obtain ⟨fb, B', vb, nb⟩ := nr_sub hM hL fs fa vN va (by omega) (by omega)
  have bb := nr_bd nb (B := 14 * L) (by omega) (by omega)
  obtain ⟨fc, C', vc, nc⟩ := nr_sub hM hL fx fa vx va (by omega) (by omega)
  have bc := nr_bd nc (B := 11 * L) (by omega) (by omega)
  obtain ⟨fd, D', vd, nd⟩ := nr_sub hM hL fy fb vy vb (by omega) (by omega)
  have bd := nr_bd nd (B := 29 * L) (by omega) (by omega)
  obtain ⟨fr, R', vr, nr⟩ := nr_add hM hL fc fd vc vd (by omega) (by omega)
  have e := two_sum pX pY nN na nb nc nd nr
  refine ⟨_, _, X, Y, N, ?_, fs, fr, vx, vy, vN, by rw [vr, e], nN, pX, pY⟩
  unfold T2
  rw [if_neg (by rintro (q | q); exact fx.2.2 q; exact fy.2.2 q), if_neg fs.2.2]
end XC
end Go.Proofs.YtelblhgagpkjmaaDoor

/-
  Package exact, pure: what TwoProd tells (P2); nothing is lost of a product; with 0, times 1; alike values.
-/
namespace Go.Proofs.YtelblhgagpkjmaaDoor
set_option linter.unusedVariables false
set_option linter.unusedSimpArgs false
open Go.RowKit
set_option linter.unusedVariables false
set_option linter.unusedSimpArgs false
namespace XC
open L NC NK DC RC SC PC
noncomputable def P2 (x y : Int) : Int × Int × Int :=
  if F.exq x = 2047 ∨ F.exq y = 2047 then (0, 0, 4) else if F.exq (MT x y 0).1 = 2047 then (0, 0, 2) else
  ((MT x y 0).1, (FT x y (F.neg (MT x y 0).1) 0).1, 0)
/-- alike values -/
theorem num_same {x y : Int} (fx : fi x) (fy : fi y) (h : val x = val y) : x = y ∨ (F.cls x = 1 ∧ F.cls y = 1) := by
  by_cases h0 : val x = 0
  · exact .inr ⟨(val0 fx).1 h0, (val0 fy).1 (by omega)⟩
  · left
    have hx := fi_mod fx
    have hy := fi_mod fy
    have bx := fx.1; have bx' := fx.2.1
    have b_y := fy.1; have b_y' := fy.2.1
    have vx := val_eq fx
    have vy := val_eq fy
    have ux := U_pos (r := x % 9223372036854775808) (by omega)
    have uy := U_pos (r := y % 9223372036854775808) (by omega)
    have lt := fun a b : Int => U_lt (r := a) (s := b)
    have sx := F.sgn_iff x; have sx' := F.sgn_iff' x
    have sy := F.sgn_iff y; have sy' := F.sgn_iff' y
    have e1 : U (x % 9223372036854775808) = U (y % 9223372036854775808) ∧ F.sgn x = F.sgn y := by
      unfold sgm at vx vy
      cases q1 : F.sgn x <;> cases q2 : F.sgn y <;> rw [q1] at vx <;> rw [q2] at vy <;> simp at vx vy
      · exact ⟨by omega, rfl⟩
      · omega
      · omega
      · exact ⟨by omega, rfl⟩
    have e2 : x % 9223372036854775808 = y % 9223372036854775808 := by
      rcases Int.lt_trichotomy (x % 9223372036854775808) (y % 9223372036854775808) with g | g | g
      · have := U_lt (r := x % 9223372036854775808) (by omega) g; omega
      · exact g
      · have := U_lt (r := y % 9223372036854775808) (by omega) g; omega
    have e3 := e1.2
    clear vx vy e1 lt ux uy h h0
    cases q1 : F.sgn x
    · have := sx'.1 q1; have := sy'.1 (by rw [← e3]; exact q1); omega
    · have := sx.1 q1; have := sy.1 (by rw [← e3]; exact q1); omega
end XC
end Go.Proofs.YtelblhgagpkjmaaDoor

