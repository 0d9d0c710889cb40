/-
  Texts glued together for a claim: X1 DK1 DK3 RK1 RK2 RK4 DK2 RK5 X2.
-/
import Derived.Test.YtelblhgagpkjmaaDoorE1
import Derived.Test.YtelblhgagpkjmaaDoorE7
import Derived.Test.YtelblhgagpkjmaaDoorE8
/-
  Numbers of 53 bits, pure: the nearest ones; what a sum loses; Dekker's and Knuth's sums.
-/
namespace Go.Proofs.YtelblhgagpkjmaaDoor
set_option linter.unusedVariables false
set_option linter.unusedSimpArgs false
set_option linter.unusedVariables false
set_option linter.unusedSimpArgs false
namespace XC
/-- a number of 53 bits, over the least unit -/
def Fp (n : Int) : Prop := ∃ (k : Nat) (q : Int), q ≤ 9007199254740992 ∧ -9007199254740992 ≤ q ∧ n = q * 2 ^ k
/-- s is a nearest one -/
def Nr (n s : Int) : Prop := Fp s ∧ ∀ f, Fp f → (s - n).natAbs ≤ (f - n).natAbs
theorem tp (k : Nat) : (0 : Int) < 2 ^ k := Int.pow_pos (by decide)
theorem tle {a b : Nat} (h : a ≤ b) : (2 : Int) ^ a ≤ 2 ^ b := by
  obtain ⟨c, rfl⟩ := Nat.exists_eq_add_of_le h
  rw [Int.pow_add]
  have h1 := tp a
  have h2 := tp c
  have := Int.mul_le_mul_of_nonneg_left (show (1 : Int) ≤ 2 ^ c by omega) (Int.le_of_lt h1)
  omega
theorem tsplit {a b : Nat} (h : a ≤ b) : (2 : Int) ^ b = 2 ^ (b - a) * 2 ^ a := by
  rw [← Int.pow_add]; congr 1; omega
theorem fp_neg {n : Int} (h : Fp n) : Fp (-n) := by
  obtain ⟨k, q, h1, h2, rfl⟩ := h
  exact ⟨k, -q, by omega, by omega, by rw [Int.neg_mul]⟩
theorem fp_mk (k : Nat) {q : Int} (h1 : q ≤ 9007199254740992) (h2 : -9007199254740992 ≤ q) : Fp (q * 2 ^ k) := ⟨k, q, h1, h2, rfl⟩
theorem fp_small {n : Int} (h1 : n ≤ 9007199254740992) (h2 : -9007199254740992 ≤ n) : Fp n := ⟨0, n, h1, h2, by simp⟩
theorem fp_zero : Fp 0 := fp_small (by decide) (by decide)
theorem fp_abs {n : Int} (h : Fp n) : Fp (n.natAbs : Int) := by
  rcases Int.lt_or_le n 0 with q | q
  · rw [show (n.natAbs : Int) = -n by omega]; exact fp_neg h
  · rw [show (n.natAbs : Int) = n by omega]; exact h
theorem abs_mul_p (q : Int) (k : Nat) : ((q * 2 ^ k).natAbs : Int) = q.natAbs * 2 ^ k := by
  rw [Int.natAbs_mul, Int.natCast_mul]
  congr 1
/-- sizes over one unit -/
theorem le_unit {a b : Int} {k : Nat} (h : (a * 2 ^ k).natAbs ≤ (b * 2 ^ k).natAbs) : a.natAbs ≤ b.natAbs := by
  have h : ((a * 2 ^ k).natAbs : Int) ≤ ((b * 2 ^ k).natAbs : Int) := by omega
  rw [abs_mul_p, abs_mul_p] at h
  have := Int.le_of_mul_le_mul_right h (tp k)
  omega
theorem fp_le {n w : Int} {k : Nat} {p : Int} (e : n = w * 2 ^ k) (h : n.natAbs ≤ (p * 2 ^ k).natAbs) (h1 : p ≤ 9007199254740992) (h2 : -9007199254740992 ≤ p) : Fp n := by
  subst e
  have := le_unit h
  exact fp_mk k (by omega) (by omega)
theorem canon : ∀ (k : Nat) (q : Int), q < 9007199254740992 → -9007199254740992 < q → ∃ (j : Nat) (p : Int), p < 9007199254740992 ∧ -9007199254740992 < p ∧ q * 2 ^ k = p * 2 ^ j ∧ (j = 0 ∨ 4503599627370496 ≤ p ∨ p ≤ -4503599627370496) := by
  intro k
  induction k with
  | zero => intro q h1 h2; exact ⟨0, q, h1, h2, rfl, .inl rfl⟩
  | succ k ih =>
    intro q h1 h2
    by_cases h : 4503599627370496 ≤ q ∨ q ≤ -4503599627370496
    · exact ⟨k + 1, q, h1, h2, rfl, .inr h⟩
    · obtain ⟨j, p, p1, p2, e, h3⟩ := ih (q * 2) (by omega) (by omega)
      exact ⟨j, p, p1, p2, by rw [← e, Int.pow_succ, Int.mul_comm (2 ^ k) 2, Int.mul_assoc], h3⟩
theorem fp_canon {n : Int} (h : Fp n) : ∃ (j : Nat) (p : Int), p < 9007199254740992 ∧ -9007199254740992 < p ∧ n = p * 2 ^ j ∧ (j = 0 ∨ 4503599627370496 ≤ p ∨ p ≤ -4503599627370496) := by
  obtain ⟨k, q, h1, h2, rfl⟩ := h
  have hp := tp k
  rcases (show (q < 9007199254740992 ∧ -9007199254740992 < q) ∨ q = 9007199254740992 ∨ q = -9007199254740992 by omega) with h | rfl | rfl
  · exact canon k q h.1 h.2
  · exact ⟨k + 1, 4503599627370496, by decide, by decide, by rw [Int.pow_succ]; omega, .inr (.inl (by decide))⟩
  · exact ⟨k + 1, -4503599627370496, by decide, by decide, by rw [Int.pow_succ]; omega, .inr (.inr (by decide))⟩
theorem nr_exact {n s : Int} (h : Nr n s) (hn : Fp n) : s = n := by have := h.2 n hn; omega
theorem nr_ge {n s f : Int} (h : Nr n s) (hf : Fp f) (hl : f ≤ n) : f ≤ s := by have := h.2 f hf; omega
theorem nr_le {n s f : Int} (h : Nr n s) (hf : Fp f) (hl : n ≤ f) : s ≤ f := by have := h.2 f hf; omega
/-- one that is near -/
theorem near_pos (n : Nat) : ∃ f : Int, Fp f ∧ ((f - n).natAbs : Int) * 9007199254740992 ≤ n := by
  by_cases h : n ≤ 9007199254740992
  · exact ⟨n, fp_small (by omega) (by omega), by simp⟩
  · have hl1 := Nat.log2_self_le (n := n) (by omega)
    have hl2 := Nat.lt_log2_self (n := n)
    have e53 : (2 : Nat) ^ 53 = 9007199254740992 := by decide
    have h53 : 53 ≤ n.log2 := by
      rcases Nat.lt_or_ge n.log2 53 with g | g
      · have : 2 ^ (n.log2 + 1) ≤ 2 ^ 53 := Nat.pow_le_pow_right (by decide) (by omega)
        rw [e53] at this
        generalize 2 ^ (n.log2 + 1) = z at *
        omega
      · exact g
    obtain ⟨k, hk⟩ : ∃ k, n.log2 = 53 + k := ⟨n.log2 - 53, by omega⟩
    rw [hk] at hl1 hl2
    clear hk h53
    have e1 : (2 : Nat) ^ (53 + k) = 9007199254740992 * 2 ^ k := by rw [Nat.pow_add, e53]
    have e2 : (2 : Nat) ^ (53 + k + 1) = 9007199254740992 * 2 ^ k * 2 := by rw [Nat.pow_succ, e1]
    rw [e1] at hl1
    rw [e2] at hl2
    obtain ⟨u, hu⟩ : ∃ u : Nat, u = 2 ^ k := ⟨_, rfl⟩
    have u0 : 0 < u := by rw [hu]; exact Nat.pow_pos (by decide)
    rw [← hu] at hl1 hl2
    obtain ⟨q, hq⟩ : ∃ q, q = (n + u) / (2 * u) := ⟨_, rfl⟩
    have d1 := Nat.div_add_mod (n + u) (2 * u)
    have d2 := Nat.mod_lt (n + u) (show 0 < 2 * u by omega)
    rw [← hq] at d1
    have q1 : q ≤ 9007199254740992 := by
      rw [hq]
      have : (n + u) / (2 * u) < 9007199254740993 := (Nat.div_lt_iff_lt_mul (by omega)).2 (by omega)
      omega
    refine ⟨(q : Int) * 2 ^ (k + 1), fp_mk _ (by omega) (by omega), ?_⟩
    have e3 : (q : Int) * 2 ^ (k + 1) = ((2 * u * q : Nat) : Int) := by
      rw [hu, Int.pow_succ]
      push_cast
      rw [Int.mul_comm (2 ^ k) 2, Int.mul_comm]
    rw [e3]
    generalize 2 * u * q = v at *
    generalize (n + u) % (2 * u) = m at *
    omega
theorem near_ex (n : Int) : ∃ f : Int, Fp f ∧ ((f - n).natAbs : Int) * 9007199254740992 ≤ n.natAbs := by
  obtain ⟨f, h1, h2⟩ := near_pos n.natAbs
  rcases Int.lt_or_le n 0 with q | q
  · exact ⟨-f, fp_neg h1, by omega⟩
  · exact ⟨f, h1, by omega⟩
theorem nr_rel {n s : Int} (h : Nr n s) : ((s - n).natAbs : Int) * 9007199254740992 ≤ n.natAbs := by
  obtain ⟨f, h1, h2⟩ := near_ex n
  have := h.2 f h1
  omega
/-- over the same unit -/
theorem nr_unit {n s N : Int} {m : Nat} (h : Nr n s) (e : n = N * 2 ^ m) : ∃ t, s = t * 2 ^ m := by
  by_cases hN : N ≤ 9007199254740992 ∧ -9007199254740992 ≤ N
  · exact ⟨N, by rw [← e]; exact nr_exact h ⟨m, N, hN.1, hN.2, e⟩⟩
  · obtain ⟨k, q, q1, q2, hs⟩ := h.1
    rcases Nat.lt_or_ge k m with g | g
    · exfalso
      have hm := tp m
      have hk := tp k
      have h2 := tle (show k + 1 ≤ m by omega)
      rw [Int.pow_succ] at h2
      have b1 := Int.mul_le_mul_of_nonneg_right q1 (Int.le_of_lt hk)
      have b2 := Int.mul_le_mul_of_nonneg_right q2 (Int.le_of_lt hk)
      rw [← hs] at b1 b2
      rcases Int.lt_or_le 9007199254740992 N with c | c
      · have := nr_ge h (fp_mk m (q := 9007199254740992) (by decide) (by decide)) (by rw [e]; exact Int.mul_le_mul_of_nonneg_right (Int.le_of_lt c) (Int.le_of_lt hm))
        generalize (2 : Int) ^ m = a at *
        generalize (2 : Int) ^ k = b at *
        omega
      · have := nr_le h (fp_mk m (q := -9007199254740992) (by decide) (by decide)) (by rw [e]; exact Int.mul_le_mul_of_nonneg_right (by omega) (Int.le_of_lt hm))
        generalize (2 : Int) ^ m = a at *
        generalize (2 : Int) ^ k = b at *
        omega
    · exact ⟨q * 2 ^ (k - m), by rw [hs, Int.mul_assoc, ← tsplit g]⟩
/-- what a sum loses is a number -/
theorem lost_fp' {x y s : Int} {i j : Nat} {p q : Int} (ex : x = p * 2 ^ i) (ey : y = q * 2 ^ j) (p1 : p ≤ 9007199254740992) (p2 : -9007199254740992 ≤ p) (hy : Fp y) (hij : i ≤ j) (h : Nr (x + y) s) : Fp (x + y - s) := by
  have en : x + y = (p + q * 2 ^ (j - i)) * 2 ^ i := by rw [ex, ey, Int.add_mul, Int.mul_assoc, ← tsplit hij]
  obtain ⟨t, ht⟩ := nr_unit h en
  have hle := h.2 y hy
  refine fp_le (k := i) (w := p + q * 2 ^ (j - i) - t) (p := p) ?_ ?_ p1 p2
  · rw [en, ht, ← Int.sub_mul]
  · rw [← ex]; omega
theorem lost_fp {x y s : Int} (hx : Fp x) (hy : Fp y) (h : Nr (x + y) s) : Fp (x + y - s) := by
  obtain ⟨i, p, p1, p2, ex⟩ := id hx
  obtain ⟨j, q, q1, q2, ey⟩ := id hy
  rcases Nat.le_total i j with g | g
  · exact lost_fp' ex ey p1 p2 hy g h
  · have h' : Nr (y + x) s := by rwa [Int.add_comm] at h
    have := lost_fp' ey ex q1 q2 hx g h'
    rwa [Int.add_comm] at this
/-- a sum that is less than both is exact -/
theorem dif_fp' {x y : Int} {i j : Nat} {p q : Int} (ex : x = p * 2 ^ i) (ey : y = q * 2 ^ j) (p1 : p ≤ 9007199254740992) (p2 : -9007199254740992 ≤ p) (hij : i ≤ j) (h1 : (x + y).natAbs ≤ x.natAbs) : Fp (x + y) := by
  refine fp_le (k := i) (w := p + q * 2 ^ (j - i)) (p := p) ?_ ?_ p1 p2
  · rw [ex, ey, Int.add_mul, Int.mul_assoc, ← tsplit hij]
  · rw [← ex]; exact h1
theorem dif_fp {x y : Int} (hx : Fp x) (hy : Fp y) (h1 : (x + y).natAbs ≤ x.natAbs) (h2 : (x + y).natAbs ≤ y.natAbs) : Fp (x + y) := by
  obtain ⟨i, p, p1, p2, ex⟩ := id hx
  obtain ⟨j, q, q1, q2, ey⟩ := id hy
  rcases Nat.le_total i j with g | g
  · exact dif_fp' ex ey p1 p2 g h1
  · rw [Int.add_comm] at h2 ⊢
    exact dif_fp' ey ex q1 q2 g h2
/-- DEKKER: what is told, less the farther one, is a number -/
theorem fast_fp {x y s : Int} (hx : Fp x) (hy : Fp y) (hxy : y.natAbs ≤ x.natAbs) (h : Nr (x + y) s) : Fp (s - x) := by
  obtain ⟨i, p, p1, p2, ex, pc⟩ := fp_canon hx
  obtain ⟨j, q, q1, q2, ey, qc⟩ := fp_canon hy
  have hji : j ≤ i := by
    rcases Nat.lt_or_ge i j with g | g
    · exfalso
      have hy2 : ((q * 2 ^ j).natAbs : Int) ≤ ((p * 2 ^ i).natAbs : Int) := by rw [← ex, ← ey]; omega
      rw [abs_mul_p, abs_mul_p] at hy2
      have h2 := tle (show i + 1 ≤ j by omega)
      rw [Int.pow_succ] at h2
      have a1 := Int.mul_le_mul_of_nonneg_right (show (p.natAbs : Int) ≤ 9007199254740991 by omega) (Int.le_of_lt (tp i))
      have a2 := Int.mul_le_mul_of_nonneg_right (show (4503599627370496 : Int) ≤ q.natAbs by omega) (Int.le_of_lt (tp j))
      have := tp i
      generalize (2 : Int) ^ i = a at *
      generalize (2 : Int) ^ j = b at *
      omega
    · exact g
  have hp := tp j
  obtain ⟨N, hN⟩ : ∃ N, N = p * 2 ^ (i - j) + q := ⟨_, rfl⟩
  have en : x + y = N * 2 ^ j := by rw [hN, ex, ey, Int.add_mul, Int.mul_assoc, ← tsplit hji]
  obtain ⟨t, ht⟩ := nr_unit h en
  by_cases hs : N ≤ 9007199254740992 ∧ -9007199254740992 ≤ N
  · have := nr_exact h ⟨j, N, hs.1, hs.2, en⟩
    rw [this, show x + y - x = y by omega]; exact hy
  · rcases Nat.eq_or_lt_of_le hji with g | g
    · subst g
      rw [Nat.sub_self, Int.pow_zero, Int.mul_one] at hN
      obtain ⟨M, m, hM, hm, hm2⟩ : ∃ M m : Int, N = 2 * M + m ∧ -1 ≤ m ∧ m ≤ 1 := ⟨N / 2, N % 2, by omega, by omega, by omega⟩
      have hf := h.2 (M * 2 ^ (j + 1)) (fp_mk _ (by omega) (by omega))
      have e1 : M * 2 ^ (j + 1) - (x + y) = -m * 2 ^ j := by
        rw [en, hM, Int.pow_succ, Int.add_mul, Int.neg_mul, Int.mul_comm (2 ^ j) 2, ← Int.mul_assoc, Int.mul_comm M 2]; omega
      have e2 : s - (x + y) = (t - N) * 2 ^ j := by rw [en, ht, Int.sub_mul]
      rw [e1, e2] at hf
      have hf := le_unit hf
      have e3 : s - x = (t - p) * 2 ^ j := by rw [ht, ex, Int.sub_mul]
      rw [e3]
      exact fp_mk j (by omega) (by omega)
    · have hs2 : ∃ w, s = w * 2 ^ (j + 1) := by
        obtain ⟨k, z, z1, z2, ez⟩ := h.1
        rcases Nat.lt_or_ge j k with c | c
        · exact ⟨z * 2 ^ (k - (j + 1)), by rw [ez, Int.mul_assoc, ← tsplit (show j + 1 ≤ k by omega)]⟩
        · have b0 := tle c
          have b1 := Int.mul_le_mul_of_nonneg_right z1 (Int.le_of_lt (tp k))
          have b2 := Int.mul_le_mul_of_nonneg_right z2 (Int.le_of_lt (tp k))
          rw [← ez] at b1 b2
          rcases Int.lt_or_le 9007199254740992 N with d | d
          · have := nr_ge h (fp_mk j (q := 9007199254740992) (by decide) (by decide)) (by rw [en]; exact Int.mul_le_mul_of_nonneg_right (Int.le_of_lt d) (Int.le_of_lt hp))
            refine ⟨4503599627370496, ?_⟩
            rw [Int.pow_succ]
            generalize (2 : Int) ^ j = a at *
            generalize (2 : Int) ^ k = b at *
            omega
          · have := nr_le h (fp_mk j (q := -9007199254740992) (by decide) (by decide)) (by rw [en]; exact Int.mul_le_mul_of_nonneg_right (by omega) (Int.le_of_lt hp))
            refine ⟨-4503599627370496, ?_⟩
            rw [Int.pow_succ]
            generalize (2 : Int) ^ j = a at *
            generalize (2 : Int) ^ k = b at *
            omega
      obtain ⟨w, hw⟩ := hs2
      have hle := h.2 x hx
      refine fp_le (k := j + 1) (w := w - p * 2 ^ (i - (j + 1))) (p := q) ?_ ?_ (by omega) (by omega)
      · rw [hw, ex, Int.sub_mul, Int.mul_assoc, ← tsplit (show j + 1 ≤ i by omega)]
      · have e : q * 2 ^ (j + 1) = 2 * y := by rw [ey, Int.pow_succ, Int.mul_comm (2 ^ j) 2, ← Int.mul_assoc, Int.mul_comm q 2, Int.mul_assoc]
        rw [e]; omega
/-- KNUTH, MOLLER -/
theorem two_sum {x y s a b c d r : Int} (hx : Fp x) (hy : Fp y) (hs : Nr (x + y) s) (ha : Nr (s - y) a) (hb : Nr (s - a) b) (hc : Nr (x - a) c) (hd : Nr (y - b) d) (hr : Nr (c + d) r) : r = x + y - s := by
  have hl := lost_fp hx hy hs
  -- s less y is a number
  have case1 : Fp (s - y) → r = x + y - s := fun h => by
    have e1 := nr_exact ha h
    subst e1
    rw [show s - (s - y) = y by omega] at hb
    have e2 := nr_exact hb hy
    subst e2
    rw [show b - b = 0 by omega] at hd
    have e3 := nr_exact hd fp_zero
    subst e3
    rw [show x - (s - b) = x + b - s by omega] at hc
    have e4 := nr_exact hc hl
    subst e4
    rw [Int.add_zero] at hr
    exact nr_exact hr hl
  rcases Nat.le_total x.natAbs y.natAbs with g | g
  · exact case1 (fast_fp hy hx g (by rwa [Int.add_comm] at hs))
  · by_cases hsy : y.natAbs ≤ s.natAbs
    · have hny := fp_neg hy
      have ha' : Nr (s + -y) a := ha
      have f1 := fast_fp hs.1 hny (by omega) ha'
      have f1 := fp_neg f1
      rw [show -(a - s) = s - a by omega] at f1
      have e1 := nr_exact hb f1
      have f2 := lost_fp hs.1 hny ha'
      have f2 := fp_neg f2
      subst e1
      rw [show -(s + -y - a) = y - (s - a) by omega] at f2
      have e2 := nr_exact hd f2
      have r1 := nr_rel hs
      have r2 := nr_rel ha
      have f3 : Fp (x - a) := by
        have := dif_fp hx (fp_neg ha.1) (by omega) (by omega)
        exact this
      have e3 := nr_exact hc f3
      rw [e2, e3, show x - a + (y - (s - a)) = x + y - s by omega] at hr
      exact nr_exact hr hl
    · have h0 : (x + y).natAbs ≤ y.natAbs := by
        have hay := fp_abs hy
        rcases Int.lt_or_le (x + y) 0 with q | q
        · rcases Nat.le_total (x + y).natAbs y.natAbs with w | w
          · exact w
          · have := nr_le hs (fp_neg hay) (by omega)
            omega
        · rcases Nat.le_total (x + y).natAbs y.natAbs with w | w
          · exact w
          · have := nr_ge hs hay (by omega)
            omega
      have h1 := dif_fp hx hy (by omega) h0
      have e := nr_exact hs h1
      apply case1
      rw [e, show x + y - y = x by omega]; exact hx
end XC
end Go.Proofs.YtelblhgagpkjmaaDoor

/-
  DyadRing: the walk.
-/
namespace Go.Proofs.YtelblhgagpkjmaaDoor
set_option linter.unusedVariables false
set_option linter.unusedSimpArgs false
open Go.RowKit
set_option linter.unusedVariables false
namespace DC
open L NC NK
open Z (Nz Tz cmpv)
end DC
end Go.Proofs.YtelblhgagpkjmaaDoor

/-
  DyadOrder: the walk.
-/
namespace Go.Proofs.YtelblhgagpkjmaaDoor
set_option linter.unusedVariables false
set_option linter.unusedSimpArgs false
open Go.RowKit
set_option linter.unusedVariables false
namespace DC
open L NC NK
open Z (Nz Tz cmpv)
theorem cmpn_S {a b : Dy} (ha : Ok a) (hb : Ok b) : Cmpn a b = cmpv (S a) (S b) := by
  unfold Cmpn
  rw [if_neg (by rw [ha.1, hb.1]; decide)]
  have x1 := ha.2.2.2.2.1
  have x2 := hb.2.2.2.2.1
  have e1 := sc_lv2 a b (by omega)
  have e2 := sc_lv2 b a (by omega)
  rw [Int.min_comm b.x a.x] at e2
  unfold S
  rw [← e1, ← e2]
  rcases Int.lt_trichotomy (lv2 a b) (lv2 b a) with h | h | h
  · rw [Z.cmpv_lt h, Z.cmpv_lt (sc_lt.2 h)]
  · rw [Z.cmpv_eq h, Z.cmpv_eq (by rw [h])]
  · rw [Z.cmpv_gt h, Z.cmpv_gt (sc_lt.2 h)]
/-- what the order is to say -/
structure Ord (v12 v21 v23 v13 : Int) (t : Bool) : Prop where
  w : IntKind.i64.wrap (-v21) = -v21
  a : (v12 != -v21) = false
  e : (v12 == 0) = t
  c : ¬ v12 ≤ 0 ∨ (v12 ≤ 0 ∧ ¬ v23 ≤ 0) ∨ (v12 ≤ 0 ∧ v23 ≤ 0 ∧ ¬ 0 < v13)
end DC
end Go.Proofs.YtelblhgagpkjmaaDoor

/-
  RoundSame, RoundOrder: the walks.
-/
namespace Go.Proofs.YtelblhgagpkjmaaDoor
set_option linter.unusedVariables false
set_option linter.unusedSimpArgs false
open Go.RowKit
set_option linter.unusedVariables false
set_option linter.unusedSimpArgs false
namespace RC
open L NC NK DC
open Z (Nz Tz cmpv)
end RC
end Go.Proofs.YtelblhgagpkjmaaDoor

/-
  RoundOrder, RoundSides: the walks.
-/
namespace Go.Proofs.YtelblhgagpkjmaaDoor
set_option linter.unusedVariables false
set_option linter.unusedSimpArgs false
open Go.RowKit
set_option linter.unusedVariables false
set_option linter.unusedSimpArgs false
namespace RC
open L NC NK DC
open Z (Nz Tz cmpv)
end RC
end Go.Proofs.YtelblhgagpkjmaaDoor

/-
  RoundTurned: the walk.
-/
namespace Go.Proofs.YtelblhgagpkjmaaDoor
set_option linter.unusedVariables false
set_option linter.unusedSimpArgs false
open Go.RowKit
set_option linter.unusedVariables false
set_option linter.unusedSimpArgs false
namespace RC
open L NC NK DC
open Z (Nz Tz cmpv)
end RC
end Go.Proofs.YtelblhgagpkjmaaDoor

/-
  DyadBack: the walk.
-/
namespace Go.Proofs.YtelblhgagpkjmaaDoor
set_option linter.unusedVariables false
set_option linter.unusedSimpArgs false
open Go.RowKit
set_option linter.unusedVariables false
namespace DC
open L NC NK
open Z (Nz Tz cmpv)
end DC
end Go.Proofs.YtelblhgagpkjmaaDoor

/-
  RoundNear: what is asked, and the walk.
-/
namespace Go.Proofs.YtelblhgagpkjmaaDoor
set_option linter.unusedVariables false
set_option linter.unusedSimpArgs false
open Go.RowKit
set_option linter.unusedVariables false
set_option linter.unusedSimpArgs false
namespace RC
open L NC NK DC
open Z (Nz Tz cmpv)
/-- without its sign -/
def ab (d : Dy) : Dy := ⟨d.er, (d.m.natAbs : Int), d.x⟩
/-- of all that have a value the nearest -/
theorem near_u {a r s : Int} {hf m b o : Bool} {mode : Int} (t : Tow a r hf m) (hm : mode = 0 ∨ mode = 4) (hY : (if up b o hf m mode = true then r + 1 else r) ≤ 9218868437227405311) (h0 : 0 ≤ s) (h1 : s ≤ 9218868437227405311) (ho : o = decide (r % 2 = 1)) :
    (a - U (if up b o hf m mode = true then r + 1 else r) ≤ a - U s ∨ a - U (if up b o hf m mode = true then r + 1 else r) ≤ U s - a) ∧ (U (if up b o hf m mode = true then r + 1 else r) - a ≤ a - U s ∨ U (if up b o hf m mode = true then r + 1 else r) - a ≤ U s - a) ∧
    a - U (if up b o hf m mode = true then r + 1 else r) ≤ a ∧ U (if up b o hf m mode = true then r + 1 else r) - a ≤ a := by
  have g := U_lt t.r0 (show r < r + 1 by omega)
  have r0 := t.r0
  have r1 := t.r1
  have lo1 := t.lo
  have hi1 := t.hi
  have q1 := t.hh
  have q2 := t.hm
  have p0 := U_pos r0
  have ps := U_pos h0
  have c : s ≤ r → U s ≤ U r := fun h => U_le h0 h
  have c2 : r + 1 ≤ s → U (r + 1) ≤ U s := fun h => U_le (by omega) h
  have e1 : hf = true ↔ U r + U (r + 1) ≤ 2 * a := by rw [q1, decide_eq_true_iff]
  have e2 : m = true ↔ a ≠ U r ∧ 2 * a ≠ U r + U (r + 1) := by rw [q2, decide_eq_true_iff]
  clear q1 q2
  by_cases hu : up b o hf m mode = true
  · rw [if_pos hu] at hY ⊢
    have hh : hf = true := by
      unfold up at hu
      rcases hm with rfl | rfl <;> cases hf <;> cases m <;> simp_all
    have k := e1.1 hh
    have k2 := hi1 (by omega)
    rcases Int.lt_or_le r s with h | h
    · have := c2 (by omega); omega
    · have := c h; omega
  · rw [if_neg hu] at hY ⊢
    have hh : hf = false ∨ 2 * a = U r + U (r + 1) := by
      unfold up at hu
      rcases hm with rfl | rfl
      · cases hf
        · exact .inl rfl
        · right
          have : m = false := by cases m; rfl; simp at hu
          have k := e1.1 rfl
          subst this
          have k2 : ¬ (a ≠ U r ∧ 2 * a ≠ U r + U (r + 1)) := fun h => by have := e2.2 h; cases this
          omega
      · cases hf
        · exact .inl rfl
        · simp at hu
    have k : 2 * a ≤ U r + U (r + 1) := by
      rcases hh with h | h
      · have : ¬ U r + U (r + 1) ≤ 2 * a := fun h2 => by rw [e1.2 h2] at h; cases h
        omega
      · omega
    rcases Int.lt_or_le r s with h | h
    · have := c2 (by omega); omega
    · have := c h; omega
theorem rx_mod {b : Bool} {y : Int} (h0 : 0 ≤ y) (h1 : y ≤ 9218868437227405312) : rx b y % 9223372036854775808 = y ∧ F.sgn (rx b y) = b := by
  unfold rx F.neg F.sgn
  cases b
  · simp; omega
  · simp; rw [if_pos (by omega)]; omega
end RC
end Go.Proofs.YtelblhgagpkjmaaDoor

/-
  The nearest number, by 53 bits, pure: what is rounded is a nearest one.
-/
namespace Go.Proofs.YtelblhgagpkjmaaDoor
set_option linter.unusedVariables false
set_option linter.unusedSimpArgs false
open Go.RowKit
set_option linter.unusedVariables false
set_option linter.unusedSimpArgs false
namespace XC
open L NC NK DC RC SC
/-- the least unit -/
def e0 : Int := sc 1 (-1074)
theorem e0_pos : 0 < e0 := sc_one_pos _
theorem e0_pow (k : Nat) : sc 1 ((k : Int) - 1074) = 2 ^ k * e0 := by
  unfold e0
  rw [← sc_mul1, sc_two _ _ (by omega)]
  congr 1
theorem sgm_mul' (b : Bool) (q E : Int) : sgm b (q * E) = sgm b q * E := by
  unfold sgm; cases b <;> simp [Int.neg_mul]
theorem val_fp {x : Int} (h : fi x) : ∃ n, val x = n * e0 ∧ Fp n := by
  obtain ⟨k, q, q0, q1, e⟩ := unit_ex h
  refine ⟨sgm (F.sgn x) q * 2 ^ k, ?_, fp_mk k ?_ ?_⟩
  · rw [e, e0_pow, sgm_mul', Int.mul_assoc]
  · unfold sgm; split <;> omega
  · unfold sgm; split <;> omega
theorem U_rep {k : Nat} {N : Int} (h0 : 0 ≤ N) (h1 : N < 9007199254740992) : ∃ r, 0 ≤ r ∧ N * 2 ^ k * e0 = U r := by
  obtain ⟨r, r0, hr⟩ := rep k N h0 h1
  refine ⟨r, r0, ?_⟩
  unfold U
  rw [hr, sc_mul1]; rfl
theorem fp_rank {f : Int} (h : Fp f) : ∃ r, 0 ≤ r ∧ (f.natAbs : Int) * e0 = U r := by
  obtain ⟨k, q, q1, q2, e, -⟩ := fp_canon h
  obtain ⟨r, r0, hr⟩ := U_rep (k := k) (N := q.natAbs) (by omega) (by omega)
  refine ⟨r, r0, ?_⟩
  rw [e, abs_mul_p]; exact hr
theorem abs_scale {a b E : Int} (hE : 0 < E) (h : (a * E).natAbs ≤ (b * E).natAbs) : a.natAbs ≤ b.natAbs := by
  rw [Int.natAbs_mul, Int.natAbs_mul] at h
  exact Nat.le_of_mul_le_mul_right h (by omega)
theorem nr_round {d : Dy} {n mode M : Int} (hM : M = 9218868437227405311) (h : Ok d) (hS : S d = n * e0) (hb : 2 * A d ≤ U M) (hm : mode = 0 ∨ mode = 4) : fi (TX d mode) ∧ ∃ N, val (TX d mode) = N * e0 ∧ Nr n N := by
  obtain ⟨r, hf, m, t, -⟩ := towA h
  have eX := (TX_of h (mode := mode) (by omega) t).1
  have r0 := t.r0
  have r1 := t.r1
  have lo := t.lo
  have uM : 0 < U M := by
    have := U_lt (r := 0) (s := M) (by omega) (by omega)
    rwa [U_zero] at this
  have hrM : r < M := by
    rcases Int.lt_or_le r M with g | g
    · exact g
    · have : r = M := by omega
      subst this
      omega
  have ab := A_abs d
  obtain ⟨y, hy⟩ : ∃ y, y = ry (ng d) r hf m mode := ⟨_, rfl⟩
  have yb : 0 ≤ y ∧ y ≤ M := by rw [hy]; unfold ry; split <;> omega
  rw [← hy] at eX
  have xm := rx_mod (b := ng d) (y := y) yb.1 (by omega)
  have xb := TX_bd d mode fun _ => h
  rw [← eX] at xm
  have fx : fi (TX d mode) := fi_of xb.1 xb.2.1 (by rw [xm.1]; omega)
  have vx := val_eq fx
  rw [xm.1, xm.2] at vx
  refine ⟨fx, ?_⟩
  obtain ⟨N, eN, fN⟩ := val_fp fx
  refine ⟨N, eN, fN, fun f hf' => ?_⟩
  obtain ⟨ρ, ρ0, hρ⟩ := fp_rank hf'
  have key : ∀ s, 0 ≤ s → ((A d - U y ≤ A d - U s ∨ A d - U y ≤ U s - A d) ∧ (U y - A d ≤ A d - U s ∨ U y - A d ≤ U s - A d)) ∧ A d - U y ≤ A d ∧ U y - A d ≤ A d := by
    have nu := fun s h0 h1 => near_u (b := ng d) (s := s) t hm (by rw [hM] at hrM yb; rw [hy] at yb; unfold ry at yb; exact yb.2) h0 h1 rfl
    unfold ry at hy
    rw [← hy] at nu
    intro s s0
    obtain ⟨-, -, n3, n4⟩ := nu 0 (by omega) (by omega)
    rcases Int.lt_or_le M s with g | g
    · have := U_lt (r := M) (s := s) (by omega) g
      exact ⟨⟨.inr (by omega), .inr (by omega)⟩, n3, n4⟩
    · obtain ⟨n1, n2, -, -⟩ := nu s s0 (by omega)
      exact ⟨⟨n1, n2⟩, n3, n4⟩
  obtain ⟨⟨k1, k2⟩, k3, k4⟩ := key ρ ρ0
  have uy := U_pos yb.1
  have uρ := U_pos ρ0
  refine abs_scale e0_pos ?_
  rw [Int.sub_mul, Int.sub_mul, ← eN, ← hS, vx]
  have hf0 : (0 ≤ f → f * e0 = U ρ) ∧ (f < 0 → f * e0 = -U ρ) := by
    constructor
    · intro q; rw [← hρ, show (f.natAbs : Int) = f by omega]
    · intro q; rw [← hρ, show (f.natAbs : Int) = -f by omega, Int.neg_mul]; omega
  generalize U y = u at *
  generalize U ρ = v at *
  generalize A d = a at *
  clear hρ key hS eN vx lo hb uM t
  rcases Int.lt_or_le (S d) 0 with g | g
  · obtain ⟨g1, g2⟩ := ab.2 g
    rw [g2]
    unfold sgm
    simp only [if_true]
    rcases Int.lt_or_le f 0 with g3 | g3
    · rw [hf0.2 g3]; omega
    · rw [hf0.1 g3]; omega
  · obtain ⟨g1, g2⟩ := ab.1 g
    rw [g2]
    unfold sgm
    simp only [Bool.false_eq_true, if_false]
    rcases Int.lt_or_le f 0 with g3 | g3
    · rw [hf0.2 g3]; omega
    · rw [hf0.1 g3]; omega
/-- a sum of numbers -/
theorem nr_AT {L : List Int} {n mode M : Int} (hM : M = 9218868437227405311) (hl : ¬ 200 < L.length) (hf : ∀ x ∈ L, fi x) (hS : vs L = n * e0) (hb : 2 * vs L ≤ U M ∧ -(U M) ≤ 2 * vs L) (hm : mode = 0 ∨ mode = 4) :
    (AT L mode).2.2 = 0 ∧ fi (AT L mode).1 ∧ ∃ N, val (AT L mode).1 = N * e0 ∧ Nr n N := by
  have hm' : 0 ≤ mode ∧ mode ≤ 4 := by omega
  have a := AT_fin hm' hl hf
  have t := tot_ok hf hl
  by_cases h0 : vs L = 0
  · have hn : n = 0 := by
      rw [h0] at hS
      rcases Int.mul_eq_zero.1 hS.symm with q | q
      · exact q
      · have := e0_pos; omega
    subst hn
    rw [a.1 h0]
    have z : fi (ZR L mode) ∧ val (ZR L mode) = 0 := by
      rcases ZR_zero mode hf h0 with e | e
      · rw [e]
        have f0 : fi 0 := fi_of (by omega) (by omega) (by omega)
        exact ⟨f0, by rw [val_eq f0, show (0 : Int) % 9223372036854775808 = 0 by decide, U_zero]; rfl⟩
      · rw [e]
        have f0 : fi 9223372036854775808 := fi_of (by omega) (by omega) (by omega)
        exact ⟨f0, by rw [val_eq f0, show (9223372036854775808 : Int) % 9223372036854775808 = 0 by decide, U_zero]; rfl⟩
    exact ⟨rfl, z.1, 0, by rw [z.2]; simp, fp_zero, fun f _ => by simp⟩
  · rw [a.2 h0]
    have ab := A_abs (tot L dz)
    rw [t.2] at ab
    refine ⟨rfl, nr_round hM t.1 (by rw [t.2]; exact hS) ?_ hm⟩
    rcases Int.lt_or_le (vs L) 0 with g | g
    · rw [(ab.2 g).1]; omega
    · rw [(ab.1 g).1]; omega
end XC
end Go.Proofs.YtelblhgagpkjmaaDoor

