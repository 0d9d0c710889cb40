/-
  Texts glued together for a claim: X1 DK1 DK3 RK1 RK2 RK4 DK2 RK5 X2.
-/
import Derived.Test.YtejglcpiihkenaaGreatDoorF1
import Derived.Test.YtejglcpiihkenaaGreatDoorF7
import Derived.Test.YtejglcpiihkenaaGreatDoorF8
/-
  Numbers of 53 bits, pure: the nearest ones; what a sum loses; Dekker's and Knuth's sums.
-/
namespace Go.Proofs.YtejglcpiihkenaaGreatDoor
set_option linter.unusedVariables false
set_option linter.unusedSimpArgs false
set_option linter.unusedVariables false
set_option linter.unusedSimpArgs false
namespace XC
/-- a number of 53 bits, over the least unit -/
def Fp (n : Int) : Prop := ∃ (k : Nat) (q : Int), q ≤ 9007199254740992 ∧ -9007199254740992 ≤ q ∧ n = q * 2 ^ k
/-- s is a nearest one -/
def Nr (n s : Int) : Prop := Fp s ∧ ∀ f, Fp f → (s - n).natAbs ≤ (f - n).natAbs
theorem tp (k : Nat) : (0 : Int) < 2 ^ k := Int.pow_pos (by decide)
theorem tle {a b : Nat} (h : a ≤ b) : (2 : Int) ^ a ≤ 2 ^ b := by
  obtain ⟨c, rfl⟩ := Nat.exists_eq_add_of_le h
  rw [Int.pow_add]
  have h1 := tp a
  have h2 := tp c
  have := Int.mul_le_mul_of_nonneg_left (show (1 : Int) ≤ 2 ^ c by omega) (Int.le_of_lt h1)
  omega
theorem tsplit {a b : Nat} (h : a ≤ b) : (2 : Int) ^ b = 2 ^ (b - a) * 2 ^ a := by
  rw [← Int.pow_add]; congr 1; omega
theorem fp_neg {n : Int} (h : Fp n) : Fp (-n) := by
  obtain ⟨k, q, h1, h2, rfl⟩ := h
  exact ⟨k, -q, by omega, by omega, by rw [Int.neg_mul]⟩
theorem fp_mk (k : Nat) {q : Int} (h1 : q ≤ 9007199254740992) (h2 : -9007199254740992 ≤ q) : Fp (q * 2 ^ k) := ⟨k, q, h1, h2, rfl⟩
theorem fp_small {n : Int} (h1 : n ≤ 9007199254740992) (h2 : -9007199254740992 ≤ n) : Fp n := ⟨0, n, h1, h2, by simp⟩
theorem fp_zero : Fp 0 := fp_small (by decide) (by decide)
theorem fp_abs {n : Int} (h : Fp n) : Fp (n.natAbs : Int) := by
  rcases Int.lt_or_le n 0 with q | q
  · rw [show (n.natAbs : Int) = -n by omega]; exact fp_neg h
  · rw [show (n.natAbs : Int) = n by omega]; exact h
theorem abs_mul_p (q : Int) (k : Nat) : ((q * 2 ^ k).natAbs : Int) = q.natAbs * 2 ^ k := by
  rw [Int.natAbs_mul, Int.natCast_mul]
  congr 1
/-- sizes over one unit -/
theorem le_unit {a b : Int} {k : Nat} (h : (a * 2 ^ k).natAbs ≤ (b * 2 ^ k).natAbs) : a.natAbs ≤ b.natAbs := by
  have h : ((a * 2 ^ k).natAbs : Int) ≤ ((b * 2 ^ k).natAbs : Int) := by omega
  rw [abs_mul_p, abs_mul_p] at h
  have := Int.le_of_mul_le_mul_right h (tp k)
  omega
theorem fp_le {n w : Int} {k : Nat} {p : Int} (e : n = w * 2 ^ k) (h : n.natAbs ≤ (p * 2 ^ k).natAbs) (h1 : p ≤ 9007199254740992) (h2 : -9007199254740992 ≤ p) : Fp n := by
  subst e
  have := le_unit h
  exact fp_mk k (by omega) (by omega)
theorem canon : ∀ (k : Nat) (q : Int), q < 9007199254740992 → -9007199254740992 < q → ∃ (j : Nat) (p : Int), p < 9007199254740992 ∧ -9007199254740992 < p ∧ q * 2 ^ k = p * 2 ^ j ∧ (j = 0 ∨ 4503599627370496 ≤ p ∨ p ≤ -4503599627370496) := by
  intro k
  induction k with
  | zero => intro q h1 h2; exact ⟨0, q, h1, h2, rfl, .inl rfl⟩
  | succ k ih =>
    intro q h1 h2
    by_cases h : 4503599627370496 ≤ q ∨ q ≤ -4503599627370496
    · exact ⟨k + 1, q, h1, h2, rfl, .inr h⟩
    · obtain ⟨j, p, p1, p2, e, h3⟩ := ih (q * 2) (by omega) (by omega)
      exact ⟨j, p, p1, p2, by rw [← e, Int.pow_succ, Int.mul_comm (2 ^ k) 2, Int.mul_assoc], h3⟩
theorem fp_canon {n : Int} (h : Fp n) : ∃ (j : Nat) (p : Int), p < 9007199254740992 ∧ -9007199254740992 < p ∧ n = p * 2 ^ j ∧ (j = 0 ∨ 4503599627370496 ≤ p ∨ p ≤ -4503599627370496) := by
  obtain ⟨k, q, h1, h2, rfl⟩ := h
  have hp := tp k
  rcases (show (q < 9007199254740992 ∧ -9007199254740992 < q) ∨ q = 9007199254740992 ∨ q = -9007199254740992 by omega) with h | rfl | rfl
  · exact canon k q h.1 h.2
  · exact ⟨k + 1, 4503599627370496, by decide, by decide, by rw [Int.pow_succ]; omega, .inr (.inl (by decide))⟩
  · exact ⟨k + 1, -4503599627370496, by decide, by decide, by rw [Int.pow_succ]; omega, .inr (.inr (by decide))⟩
theorem nr_exact {n s : Int} (h : Nr n s) (hn : Fp n) : s = n := by have := h.2 n hn; omega
theorem nr_ge {n s f : Int} (h : Nr n s) (hf : Fp f) (hl : f ≤ n) : f ≤ s := by have := h.2 f hf; omega
theorem nr_le {n s f : Int} (h : Nr n s) (hf : Fp f) (hl : n ≤ f) : s ≤ f := by have := h.2 f hf; omega
theorem nr_neg {n s : Int} (h : Nr n s) : Nr (-n) (-s) := ⟨fp_neg h.1, fun f hf => by have := h.2 (-f) (fp_neg hf); omega⟩
/-- one that is near -/
theorem near_pos (n : Nat) : ∃ f : Int, Fp f ∧ ((f - n).natAbs : Int) * 9007199254740992 ≤ n := by
  by_cases h : n ≤ 9007199254740992
  · exact ⟨n, fp_small (by omega) (by omega), by simp⟩
  · have hl1 := Nat.log2_self_le (n := n) (by omega)
    have hl2 := Nat.lt_log2_self (n := n)
    have e53 : (2 : Nat) ^ 53 = 9007199254740992 := by decide
    have h53 : 53 ≤ n.log2 := by
      rcases Nat.lt_or_ge n.log2 53 with g | g
      · have : 2 ^ (n.log2 + 1) ≤ 2 ^ 53 := Nat.pow_le_pow_right (by decide) (by omega)
        rw [e53] at this
        generalize 2 ^ (n.log2 + 1) = z at *
        omega
      · exact g
    obtain ⟨k, hk⟩ : ∃ k, n.log2 = 53 + k := ⟨n.log2 - 53, by omega⟩
    rw [hk] at hl1 hl2
    clear hk h53
    have e1 : (2 : Nat) ^ (53 + k) = 9007199254740992 * 2 ^ k := by rw [Nat.pow_add, e53]
    have e2 : (2 : Nat) ^ (53 + k + 1) = 9007199254740992 * 2 ^ k * 2 := by rw [Nat.pow_succ, e1]
    rw [e1] at hl1
    rw [e2] at hl2
    obtain ⟨u, hu⟩ : ∃ u : Nat, u = 2 ^ k := ⟨_, rfl⟩
    have u0 : 0 < u := by rw [hu]; exact Nat.pow_pos (by decide)
    rw [← hu] at hl1 hl2
    obtain ⟨q, hq⟩ : ∃ q, q = (n + u) / (2 * u) := ⟨_, rfl⟩
    have d1 := Nat.div_add_mod (n + u) (2 * u)
    have d2 := Nat.mod_lt (n + u) (show 0 < 2 * u by omega)
    rw [← hq] at d1
    have q1 : q ≤ 9007199254740992 := by
      rw [hq]
      have : (n + u) / (2 * u) < 9007199254740993 := (Nat.div_lt_iff_lt_mul (by omega)).2 (by omega)
      omega
    refine ⟨(q : Int) * 2 ^ (k + 1), fp_mk _ (by omega) (by omega), ?_⟩
    have e3 : (q : Int) * 2 ^ (k + 1) = ((2 * u * q : Nat) : Int) := by
      rw [hu, Int.pow_succ]
      push_cast
      rw [Int.mul_comm (2 ^ k) 2, Int.mul_comm]
    rw [e3]
    generalize 2 * u * q = v at *
    generalize (n + u) % (2 * u) = m at *
    omega
theorem near_ex (n : Int) : ∃ f : Int, Fp f ∧ ((f - n).natAbs : Int) * 9007199254740992 ≤ n.natAbs := by
  obtain ⟨f, h1, h2⟩ := near_pos n.natAbs
  rcases Int.lt_or_le n 0 with q | q
  · exact ⟨-f, fp_neg h1, by omega⟩
  · exact ⟨f, h1, by omega⟩
theorem nr_rel {n s : Int} (h : Nr n s) : ((s - n).natAbs : Int) * 9007199254740992 ≤ n.natAbs := by
  obtain ⟨f, h1, h2⟩ := near_ex n
  have := h.2 f h1
  omega
/-- over the same unit -/
theorem nr_unit {n s N : Int} {m : Nat} (h : Nr n s) (e : n = N * 2 ^ m) : ∃ t, s = t * 2 ^ m := by
  by_cases hN : N ≤ 9007199254740992 ∧ -9007199254740992 ≤ N
  · exact ⟨N, by rw [← e]; exact nr_exact h ⟨m, N, hN.1, hN.2, e⟩⟩
  · obtain ⟨k, q, q1, q2, hs⟩ := h.1
    rcases Nat.lt_or_ge k m with g | g
    · exfalso
      have hm := tp m
      have hk := tp k
      have h2 := tle (show k + 1 ≤ m by omega)
      rw [Int.pow_succ] at h2
      have b1 := Int.mul_le_mul_of_nonneg_right q1 (Int.le_of_lt hk)
      have b2 := Int.mul_le_mul_of_nonneg_right q2 (Int.le_of_lt hk)
      rw [← hs] at b1 b2
      rcases Int.lt_or_le 9007199254740992 N with c | c
      · have := nr_ge h (fp_mk m (q := 9007199254740992) (by decide) (by decide)) (by rw [e]; exact Int.mul_le_mul_of_nonneg_right (Int.le_of_lt c) (Int.le_of_lt hm))
        generalize (2 : Int) ^ m = a at *
        generalize (2 : Int) ^ k = b at *
        omega
      · have := nr_le h (fp_mk m (q := -9007199254740992) (by decide) (by decide)) (by rw [e]; exact Int.mul_le_mul_of_nonneg_right (by omega) (Int.le_of_lt hm))
        generalize (2 : Int) ^ m = a at *
        generalize (2 : Int) ^ k = b at *
        omega
    · exact ⟨q * 2 ^ (k - m), by rw [hs, Int.mul_assoc, ← tsplit g]⟩
/-- what a sum loses is a number -/
theorem lost_fp' {x y s : Int} {i j : Nat} {p q : Int} (ex : x = p * 2 ^ i) (ey : y = q * 2 ^ j) (p1 : p ≤ 9007199254740992) (p2 : -9007199254740992 ≤ p) (hy : Fp y) (hij : i ≤ j) (h : Nr (x + y) s) : Fp (x + y - s) := by
  have en : x + y = (p + q * 2 ^ (j - i)) * 2 ^ i := by rw [ex, ey, Int.add_mul, Int.mul_assoc, ← tsplit hij]
  obtain ⟨t, ht⟩ := nr_unit h en
  have hle := h.2 y hy
  refine fp_le (k := i) (w := p + q * 2 ^ (j - i) - t) (p := p) ?_ ?_ p1 p2
  · rw [en, ht, ← Int.sub_mul]
  · rw [← ex]; omega
theorem lost_fp {x y s : Int} (hx : Fp x) (hy : Fp y) (h : Nr (x + y) s) : Fp (x + y - s) := by
  obtain ⟨i, p, p1, p2, ex⟩ := id hx
  obtain ⟨j, q, q1, q2, ey⟩ := id hy
  rcases Nat.le_total i j with g | g
  · exact lost_fp' ex ey p1 p2 hy g h
  · have h' : Nr (y + x) s := by rwa [Int.add_comm] at h
    have := lost_fp' ey ex q1 q2 hx g h'
    rwa [Int.add_comm] at this
/-- a sum that is less than both is exact -/
theorem dif_fp' {x y : Int} {i j : Nat} {p q : Int} (ex : x = p * 2 ^ i) (ey : y = q * 2 ^ j) (p1 : p ≤ 9007199254740992) (p2 : -9007199254740992 ≤ p) (hij : i ≤ j) (h1 : (x + y).natAbs ≤ x.natAbs) : Fp (x + y) := by
  refine fp_le (k := i) (w := p + q * 2 ^ (j - i)) (p := p) ?_ ?_ p1 p2
  · rw [ex, ey, Int.add_mul, Int.mul_assoc, ← tsplit hij]
  · rw [← ex]; exact h1
theorem dif_fp {x y : Int} (hx : Fp x) (hy : Fp y) (h1 : (x + y).natAbs ≤ x.natAbs) (h2 : (x + y).natAbs ≤ y.natAbs) : Fp (x + y) := by
  obtain ⟨i, p, p1, p2, ex⟩ := id hx
  obtain ⟨j, q, q1, q2, ey⟩ := id hy
  rcases Nat.le_total i j with g | g
  · exact dif_fp' ex ey p1 p2 g h1
  · rw [Int.add_comm] at h2 ⊢
    exact dif_fp' ey ex q1 q2 g h2
/-- DEKKER: what is told, less the farther one, is a number -/
theorem fast_fp {x y s : Int} (hx : Fp x) (hy : Fp y) (hxy : y.natAbs ≤ x.natAbs) (h : Nr (x + y) s) : Fp (s - x) := by
  obtain ⟨i, p, p1, p2, ex, pc⟩ := fp_canon hx
  obtain ⟨j, q, q1, q2, ey, qc⟩ := fp_canon hy
  have hji : j ≤ i := by
    rcases Nat.lt_or_ge i j with g | g
    · exfalso
      have hy2 : ((q * 2 ^ j).natAbs : Int) ≤ ((p * 2 ^ i).natAbs : Int) := by rw [← ex, ← ey]; omega
      rw [abs_mul_p, abs_mul_p] at hy2
      have h2 := tle (show i + 1 ≤ j by omega)
      rw [Int.pow_succ] at h2
      have a1 := Int.mul_le_mul_of_nonneg_right (show (p.natAbs : Int) ≤ 9007199254740991 by omega) (Int.le_of_lt (tp i))
      have a2 := Int.mul_le_mul_of_nonneg_right (show (4503599627370496 : Int) ≤ q.natAbs by omega) (Int.le_of_lt (tp j))
      have := tp i
      generalize (2 : Int) ^ i = a at *
      generalize (2 : Int) ^ j = b at *
      omega
    · exact g
  have hp := tp j
  obtain ⟨N, hN⟩ : ∃ N, N = p * 2 ^ (i - j) + q := ⟨_, rfl⟩
  have en : x + y = N * 2 ^ j := by rw [hN, ex, ey, Int.add_mul, Int.mul_assoc, ← tsplit hji]
  obtain ⟨t, ht⟩ := nr_unit h en
  by_cases hs : N ≤ 9007199254740992 ∧ -9007199254740992 ≤ N
  · have := nr_exact h ⟨j, N, hs.1, hs.2, en⟩
    rw [this, show x + y - x = y by omega]; exact hy
  · rcases Nat.eq_or_lt_of_le hji with g | g
    · subst g
      rw [Nat.sub_self, Int.pow_zero, Int.mul_one] at hN
      obtain ⟨M, m, hM, hm, hm2⟩ : ∃ M m : Int, N = 2 * M + m ∧ -1 ≤ m ∧ m ≤ 1 := ⟨N / 2, N % 2, by omega, by omega, by omega⟩
      have hf := h.2 (M * 2 ^ (j + 1)) (fp_mk _ (by omega) (by omega))
      have e1 : M * 2 ^ (j + 1) - (x + y) = -m * 2 ^ j := by
        rw [en, hM, Int.pow_succ, Int.add_mul, Int.neg_mul, Int.mul_comm (2 ^ j) 2, ← Int.mul_assoc, Int.mul_comm M 2]; omega
      have e2 : s - (x + y) = (t - N) * 2 ^ j := by rw [en, ht, Int.sub_mul]
      rw [e1, e2] at hf
      have hf := le_unit hf
      have e3 : s - x = (t - p) * 2 ^ j := by rw [ht, ex, Int.sub_mul]
      rw [e3]
      exact fp_mk j (by omega) (by omega)
    · have hs2 : ∃ w, s = w * 2 ^ (j + 1) := by
        obtain ⟨k, z, z1, z2, ez⟩ := h.1
        rcases Nat.lt_or_ge j k with c | c
        · exact ⟨z * 2 ^ (k - (j + 1)), by rw [ez, Int.mul_assoc, ← tsplit (show j + 1 ≤ k by omega)]⟩
        · have b0 := tle c
          have b1 := Int.mul_le_mul_of_nonneg_right z1 (Int.le_of_lt (tp k))
          have b2 := Int.mul_le_mul_of_nonneg_right z2 (Int.le_of_lt (tp k))
          rw [← ez] at b1 b2
          rcases Int.lt_or_le 9007199254740992 N with d | d
          · have := nr_ge h (fp_mk j (q := 9007199254740992) (by decide) (by decide)) (by rw [en]; exact Int.mul_le_mul_of_nonneg_right (Int.le_of_lt d) (Int.le_of_lt hp))
            refine ⟨4503599627370496, ?_⟩
            rw [Int.pow_succ]
            generalize (2 : Int) ^ j = a at *
            generalize (2 : Int) ^ k = b at *
            omega
          · have := nr_le h (fp_mk j (q := -9007199254740992) (by decide) (by decide)) (by rw [en]; exact Int.mul_le_mul_of_nonneg_right (by omega) (Int.le_of_lt hp))
            refine ⟨-4503599627370496, ?_⟩
            rw [Int.pow_succ]
            generalize (2 : Int) ^ j = a at *
            generalize (2 : Int) ^ k = b at *
            omega
      obtain ⟨w, hw⟩ := hs2
      have hle := h.2 x hx
      refine fp_le (k := j + 1) (w := w - p * 2 ^ (i - (j + 1))) (p := q) ?_ ?_ (by omega) (by omega)
      · rw [hw, ex, Int.sub_mul, Int.mul_assoc, ← tsplit (show j + 1 ≤ i by omega)]
      · have e : q * 2 ^ (j + 1) = 2 * y := by rw [ey, Int.pow_succ, Int.mul_comm (2 ^ j) 2, ← Int.mul_assoc, Int.mul_comm q 2, Int.mul_assoc]
        rw [e]; omega
/-- KNUTH, MOLLER -/
theorem two_sum {x y s a b c d r : Int} (hx : Fp x) (hy : Fp y) (hs : Nr (x + y) s) (ha : Nr (s - y) a) (hb : Nr (s - a) b) (hc : Nr (x - a) c) (hd : Nr (y - b) d) (hr : Nr (c + d) r) : r = x + y - s := by
  have hl := lost_fp hx hy hs
  -- s less y is a number
  have case1 : Fp (s - y) → r = x + y - s := fun h => by
    have e1 := nr_exact ha h
    subst e1
    rw [show s - (s - y) = y by omega] at hb
    have e2 := nr_exact hb hy
    subst e2
    rw [show b - b = 0 by omega] at hd
    have e3 := nr_exact hd fp_zero
    subst e3
    rw [show x - (s - b) = x + b - s by omega] at hc
    have e4 := nr_exact hc hl
    subst e4
    rw [Int.add_zero] at hr
    exact nr_exact hr hl
  rcases Nat.le_total x.natAbs y.natAbs with g | g
  · exact case1 (fast_fp hy hx g (by rwa [Int.add_comm] at hs))
  · by_cases hsy : y.natAbs ≤ s.natAbs
    · have hny := fp_neg hy
      have ha' : Nr (s + -y) a := ha
      have f1 := fast_fp hs.1 hny (by omega) ha'
      have f1 := fp_neg f1
      rw [show -(a - s) = s - a by omega] at f1
      have e1 := nr_exact hb f1
      have f2 := lost_fp hs.1 hny ha'
      have f2 := fp_neg f2
      subst e1
      rw [show -(s + -y - a) = y - (s - a) by omega] at f2
      have e2 := nr_exact hd f2
      have r1 := nr_rel hs
      have r2 := nr_rel ha
      have f3 : Fp (x - a) := by
        have := dif_fp hx (fp_neg ha.1) (by omega) (by omega)
        exact this
      have e3 := nr_exact hc f3
      rw [e2, e3, show x - a + (y - (s - a)) = x + y - s by omega] at hr
      exact nr_exact hr hl
    · have h0 : (x + y).natAbs ≤ y.natAbs := by
        have hay := fp_abs hy
        rcases Int.lt_or_le (x + y) 0 with q | q
        · rcases Nat.le_total (x + y).natAbs y.natAbs with w | w
          · exact w
          · have := nr_le hs (fp_neg hay) (by omega)
            omega
        · rcases Nat.le_total (x + y).natAbs y.natAbs with w | w
          · exact w
          · have := nr_ge hs hay (by omega)
            omega
      have h1 := dif_fp hx hy (by omega) h0
      have e := nr_exact hs h1
      apply case1
      rw [e, show x + y - y = x by omega]; exact hx
/-- the fast one -/
theorem fast_sum {x y s a r : Int} (hx : Fp x) (hy : Fp y) (hxy : y.natAbs ≤ x.natAbs) (hs : Nr (x + y) s) (ha : Nr (s - x) a) (hr : Nr (y - a) r) : r = x + y - s := by
  have e := nr_exact ha (fast_fp hx hy hxy hs)
  have hl := lost_fp hx hy hs
  rw [e, show y - (s - x) = x + y - s by omega] at hr
  exact nr_exact hr hl
end XC
end Go.Proofs.YtejglcpiihkenaaGreatDoor

/-
  DyadRing: the walk.
-/
namespace Go.Proofs.YtejglcpiihkenaaGreatDoor
set_option linter.unusedVariables false
set_option linter.unusedSimpArgs false
open Go.RowKit
set_option linter.unusedVariables false
namespace DC
open L NC NK
open Z (Nz Tz cmpv)
theorem all4 {x1 x2 x3 x4 : Int} (h : [x1, x2, x3, x4].all (· == 0) = true) : x1 = 0 ∧ x2 = 0 ∧ x3 = 0 ∧ x4 = 0 := by
  simpa [List.all_cons, Bool.and_eq_true] using h
theorem all5 {x1 x2 x3 x4 x5 : Int} (h : [x1, x2, x3, x4, x5].all (· == 0) = true) : x1 = 0 ∧ x2 = 0 ∧ x3 = 0 ∧ x4 = 0 ∧ x5 = 0 := by
  simpa [List.all_cons, Bool.and_eq_true] using h
theorem beq_iff {x y : Int} (h : x = 0 ↔ y = 0) : ∃ t, (x == 0) = t ∧ (y == 0) = t := by
  refine ⟨y == 0, ?_, rfl⟩
  by_cases hy : y = 0
  · simp [hy, h.2 hy]
  · have : x ≠ 0 := fun hx => hy (h.1 hx)
    rw [beq_eq_false_iff_ne.2 this, beq_eq_false_iff_ne.2 hy]
end DC
end Go.Proofs.YtejglcpiihkenaaGreatDoor

/-
  DyadOrder: the walk.
-/
namespace Go.Proofs.YtejglcpiihkenaaGreatDoor
set_option linter.unusedVariables false
set_option linter.unusedSimpArgs false
open Go.RowKit
set_option linter.unusedVariables false
namespace DC
open L NC NK
open Z (Nz Tz cmpv)
theorem cmpn_S {a b : Dy} (ha : Ok a) (hb : Ok b) : Cmpn a b = cmpv (S a) (S b) := by
  unfold Cmpn
  rw [if_neg (by rw [ha.1, hb.1]; decide)]
  have x1 := ha.2.2.2.2.1
  have x2 := hb.2.2.2.2.1
  have e1 := sc_lv2 a b (by omega)
  have e2 := sc_lv2 b a (by omega)
  rw [Int.min_comm b.x a.x] at e2
  unfold S
  rw [← e1, ← e2]
  rcases Int.lt_trichotomy (lv2 a b) (lv2 b a) with h | h | h
  · rw [Z.cmpv_lt h, Z.cmpv_lt (sc_lt.2 h)]
  · rw [Z.cmpv_eq h, Z.cmpv_eq (by rw [h])]
  · rw [Z.cmpv_gt h, Z.cmpv_gt (sc_lt.2 h)]
theorem cmpe_0 {a b : Dy} (ha : Ok a) (hb : Ok b) : Cmpe a b = 0 := by unfold Cmpe; rw [ha.1, hb.1]; rfl
theorem cmpv_3 (x y : Int) : (cmpv x y = -1 ∧ x < y) ∨ (cmpv x y = 0 ∧ x = y) ∨ (cmpv x y = 1 ∧ y < x) := by
  rcases Int.lt_trichotomy x y with h | h | h
  · exact .inl ⟨Z.cmpv_lt h, h⟩
  · exact .inr (.inl ⟨Z.cmpv_eq h, h⟩)
  · exact .inr (.inr ⟨Z.cmpv_gt h, h⟩)
/-- what the order is to say -/
structure Ord (v12 v21 v23 v13 : Int) (t : Bool) : Prop where
  w : IntKind.i64.wrap (-v21) = -v21
  a : (v12 != -v21) = false
  e : (v12 == 0) = t
  c : ¬ v12 ≤ 0 ∨ (v12 ≤ 0 ∧ ¬ v23 ≤ 0) ∨ (v12 ≤ 0 ∧ v23 ≤ 0 ∧ ¬ 0 < v13)
theorem ord_d {a b c : Dy} (ha : Ok a) (hb : Ok b) (hc : Ok c) : Ord (Cmpn a b) (Cmpn b a) (Cmpn b c) (Cmpn a c) (decide (a.m = b.m ∧ a.x = b.x)) := by
  rw [cmpn_S ha hb, cmpn_S hb ha, cmpn_S hb hc, cmpn_S ha hc]
  have he : (a.m = b.m ∧ a.x = b.x) ↔ S a = S b := by
    constructor
    · intro h; unfold S; rw [h.1, h.2]
    · intro h; rw [S_inj ha hb h]; exact ⟨rfl, rfl⟩
  have hd : decide (a.m = b.m ∧ a.x = b.x) = decide (S a = S b) := decide_eq_decide.2 he
  rw [hd]
  generalize S a = x
  generalize S b = y
  generalize S c = z
  have h1 := cmpv_3 x y
  have h2 := cmpv_3 y x
  have h3 := cmpv_3 y z
  have h4 := cmpv_3 x z
  refine ⟨IntWalk.i64_in _ (by omega), by rw [bne_eq_false_iff_eq]; omega, ?_, by omega⟩
  by_cases h : x = y
  · have : cmpv x y = 0 := by omega
    rw [this, decide_eq_true h]; rfl
  · have : cmpv x y ≠ 0 := by omega
    rw [decide_eq_false h, beq_eq_false_iff_ne.2 this]
theorem cmp_add {a b c : Dy} (ha : Ok a) (hb : Ok b) (hc : Ok c) (h1 : (Add a c).e = 0) (h2 : (Add b c).e = 0) : Cmpn (Add a c).d (Add b c).d = Cmpn a b := by
  rw [cmpn_S (add_good _ _) (add_good _ _), cmpn_S ha hb, (add_ok h1 (fun _ => ha) (fun _ => hc)).2.2, (add_ok h2 (fun _ => hb) (fun _ => hc)).2.2]
  have h1 := cmpv_3 (S a + S c) (S b + S c)
  have h2 := cmpv_3 (S a) (S b)
  omega
end DC
end Go.Proofs.YtejglcpiihkenaaGreatDoor

/-
  RoundSame, RoundOrder: the walks.
-/
namespace Go.Proofs.YtejglcpiihkenaaGreatDoor
set_option linter.unusedVariables false
set_option linter.unusedSimpArgs false
open Go.RowKit
set_option linter.unusedVariables false
set_option linter.unusedSimpArgs false
namespace RC
open L NC NK DC
open Z (Nz Tz cmpv)
end RC
end Go.Proofs.YtejglcpiihkenaaGreatDoor

/-
  RoundOrder, RoundSides: the walks.
-/
namespace Go.Proofs.YtejglcpiihkenaaGreatDoor
set_option linter.unusedVariables false
set_option linter.unusedSimpArgs false
open Go.RowKit
set_option linter.unusedVariables false
set_option linter.unusedSimpArgs false
namespace RC
open L NC NK DC
open Z (Nz Tz cmpv)
theorem all3 {x1 x2 x3 : Int} (h : [x1, x2, x3].all (· == 0) = true) : x1 = 0 ∧ x2 = 0 ∧ x3 = 0 := by
  simpa [List.all_cons, Bool.and_eq_true] using h
end RC
end Go.Proofs.YtejglcpiihkenaaGreatDoor

/-
  RoundTurned: the walk.
-/
namespace Go.Proofs.YtejglcpiihkenaaGreatDoor
set_option linter.unusedVariables false
set_option linter.unusedSimpArgs false
open Go.RowKit
set_option linter.unusedVariables false
set_option linter.unusedSimpArgs false
namespace RC
open L NC NK DC
open Z (Nz Tz cmpv)
theorem dv_gv {w : World} {b A n c x d} (h : DV w (.agg #[.bool b, .slice A n c, .int .i64 x]) d) (e : d.er = 0) : GV w b A n c x d := by
  obtain ⟨b', A', n', c', x', l, he, -, -, -, -, g, -⟩ := h
  simp only [Value.agg.injEq, Array.mk.injEq, List.cons.injEq, Value.bool.injEq, Value.slice.injEq, Value.int.injEq, and_true, true_and] at he
  obtain ⟨rfl, ⟨rfl, rfl, rfl⟩, rfl⟩ := he
  exact g e
end RC
end Go.Proofs.YtejglcpiihkenaaGreatDoor

/-
  DyadBack: the walk.
-/
namespace Go.Proofs.YtejglcpiihkenaaGreatDoor
set_option linter.unusedVariables false
set_option linter.unusedSimpArgs false
open Go.RowKit
set_option linter.unusedVariables false
namespace DC
open L NC NK
open Z (Nz Tz cmpv)
theorem sub_ok' {a b : Dy} (h : (Sub a b).e = 0) (ga : a.er = 0 → Ok a) (gb : b.er = 0 → Ok b) : a.er = 0 ∧ b.er = 0 ∧ S (Sub a b).d = S a - S b := by
  unfold Sub at h ⊢
  by_cases h0 : ee a.er b.er = 0
  · rw [if_neg (by simpa using h0)] at h ⊢
    have h1 := ee0.1 h0
    have ga := ga h1.1
    have gb := gb h1.2
    have x1 := ga.2.2.2.2.1
    have x2 := gb.2.2.2.2.1
    refine ⟨h1.1, h1.2, ?_⟩
    unfold sum at h ⊢
    unfold S
    have ex : (neg b).x = b.x := rfl
    rw [fin_sc (by omega) h, sc_add, sc_lv2 a (neg b) (by omega)]
    have := sc_lv2 (neg b) a (by omega)
    rw [Int.min_comm (neg b).x a.x] at this
    rw [this]
    show sc a.m a.x + sc (-b.m) b.x = _
    rw [sc_neg]; omega
  · rw [if_pos (by simpa using h0)] at h
    exact absurd h h0
theorem sub_good (a b : Dy) : Ok (Sub a b).d := by
  unfold Sub
  split
  · exact ok_dz
  · exact fin_ok _ _
theorem back_d {a b : Dy} (ga : a.er = 0 → Ok a) (gb : b.er = 0 → Ok b) (h1 : (Add a b).e = 0) (h2 : (Sub (Add a b).d b).e = 0) : (Sub (Add a b).d b).d = a := by
  have h := add_ok h1 ga gb
  apply S_inj (sub_good _ _) (ga h.1)
  rw [(sub_ok' h2 (fun _ => add_good _ _) gb).2.2, h.2.2]; omega
theorem none_d {a : Dy} (h : a.er = 0) : Sub a a = ⟨0, dz⟩ := by
  unfold Sub sum
  rw [if_neg (by rw [h]; decide)]
  have : lv2 a (neg a) + lv2 (neg a) a = 0 := by
    unfold lv2
    show a.m * 2 ^ (a.x - min a.x a.x).toNat + -a.m * 2 ^ (a.x - min a.x a.x).toNat = 0
    rw [Int.neg_mul]; omega
  rw [this, fin_zero]
theorem sub_er {a : Dy} (h : a.er ≠ 0) (b : Dy) : (Sub a b).e ≠ 0 ∧ (Add a b).e ≠ 0 := by
  have : ee a.er b.er ≠ 0 := fun e => h (ee0.1 e).1
  unfold Sub Add
  rw [if_pos this, if_pos this]
  exact ⟨this, this⟩
theorem shf_val {a : Dy} {n : Int} (h0 : a.er = 0) (hn : ¬ (n < -20000 ∨ 20000 < n)) : Shf a n = fin a.m (a.x + n) := by
  unfold Shf
  rw [if_neg (by simpa using h0), if_neg hn]
theorem shf_ok {a : Dy} {n : Int} (h0 : a.er = 0) (ga : Ok a) (h : (Shf a n).e = 0) : -20000 ≤ n ∧ n ≤ 20000 ∧ Shf (Shf a n).d (-n) = ⟨0, a⟩ := by
  by_cases hn : n < -20000 ∨ 20000 < n
  · unfold Shf at h
    rw [if_neg (by simpa using h0), if_pos hn] at h; cases h
  · rw [shf_val h0 hn] at h ⊢
    refine ⟨by omega, by omega, ?_⟩
    rw [shf_val (fin_good _ _).2.1 (by omega)]
    by_cases hm : a.m = 0
    · have hx : a.x = 0 := by have := ga.2.1; unfold can at this; omega
      rw [hm, fin_zero]
      show fin 0 _ = _
      rw [fin_zero]
      have : a = dz := Dy.ext' h0 hm hx
      rw [this]
    · have ho : a.m % 2 = 1 := by have := ga.2.1; unfold can at this; omega
      have e : fin a.m (a.x + n) = if inb a.m (a.x + n + (0 : Nat)) then ⟨0, 0, a.m, a.x + n + (0 : Nat)⟩ else ⟨2, dz⟩ := fin_of (k := 0) (by simp) ho
      rw [e] at h ⊢
      by_cases hi : inb a.m (a.x + n + (0 : Nat))
      · rw [if_pos hi]
        show fin a.m (a.x + n + (0 : Nat) + -n) = _
        rw [show a.x + n + ((0 : Nat) : Int) + -n = a.x by simp; omega]
        exact fin_self h0 (fun _ => ⟨ga.2.1, ga.2.2⟩)
      · rw [if_neg hi] at h; cases h
end DC
end Go.Proofs.YtejglcpiihkenaaGreatDoor

/-
  RoundNear: what is asked, and the walk.
-/
namespace Go.Proofs.YtejglcpiihkenaaGreatDoor
set_option linter.unusedVariables false
set_option linter.unusedSimpArgs false
open Go.RowKit
set_option linter.unusedVariables false
set_option linter.unusedSimpArgs false
namespace RC
open L NC NK DC
open Z (Nz Tz cmpv)
/-- without its sign -/
def ab (d : Dy) : Dy := ⟨d.er, (d.m.natAbs : Int), d.x⟩
theorem gv_ab {w : World} {b A n c x d} (h : GV w b A n c x d) : GV w false A n c x (ab d) := by
  obtain ⟨h1, hb, hx, he, hc, hi⟩ := h
  refine ⟨?_, ?_, hx, he, ?_, ?_⟩
  · show NV w _ (((d.m.natAbs : Int).natAbs : Nat) : Int)
    rw [Int.natAbs_natCast]; exact h1
  · show false = decide ((d.m.natAbs : Int) < 0)
    symm; rw [decide_eq_false_iff_not]; omega
  · unfold can at *
    show ((d.m.natAbs : Int) = 0 ∧ d.x = 0) ∨ (d.m.natAbs : Int) % 2 = 1
    omega
  · unfold inb at *
    show (d.m.natAbs : Int) < _ ∧ _ < (d.m.natAbs : Int) ∧ -10000 ≤ d.x ∧ d.x ≤ 10000
    generalize (4294967296 : Int) ^ 400 = c400 at *
    omega
theorem ab_ok {d : Dy} (h : Ok d) : Ok (ab d) := by
  obtain ⟨he, hc, hi⟩ := h
  refine ⟨he, ?_, ?_⟩
  · unfold can at *
    show ((d.m.natAbs : Int) = 0 ∧ d.x = 0) ∨ (d.m.natAbs : Int) % 2 = 1
    omega
  · unfold inb at *
    show (d.m.natAbs : Int) < _ ∧ _ < (d.m.natAbs : Int) ∧ -10000 ≤ d.x ∧ d.x ≤ 10000
    generalize (4294967296 : Int) ^ 400 = c400 at *
    omega
theorem S_ab (d : Dy) : S (ab d) = A d := rfl
/-- of all that have a value the nearest -/
theorem near_u {a r s : Int} {hf m b o : Bool} {mode : Int} (t : Tow a r hf m) (hm : mode = 0 ∨ mode = 4) (hY : (if up b o hf m mode = true then r + 1 else r) ≤ 9218868437227405311) (h0 : 0 ≤ s) (h1 : s ≤ 9218868437227405311) (ho : o = decide (r % 2 = 1)) :
    (a - U (if up b o hf m mode = true then r + 1 else r) ≤ a - U s ∨ a - U (if up b o hf m mode = true then r + 1 else r) ≤ U s - a) ∧ (U (if up b o hf m mode = true then r + 1 else r) - a ≤ a - U s ∨ U (if up b o hf m mode = true then r + 1 else r) - a ≤ U s - a) ∧
    a - U (if up b o hf m mode = true then r + 1 else r) ≤ a ∧ U (if up b o hf m mode = true then r + 1 else r) - a ≤ a := by
  have g := U_lt t.r0 (show r < r + 1 by omega)
  have r0 := t.r0
  have r1 := t.r1
  have lo1 := t.lo
  have hi1 := t.hi
  have q1 := t.hh
  have q2 := t.hm
  have p0 := U_pos r0
  have ps := U_pos h0
  have c : s ≤ r → U s ≤ U r := fun h => U_le h0 h
  have c2 : r + 1 ≤ s → U (r + 1) ≤ U s := fun h => U_le (by omega) h
  have e1 : hf = true ↔ U r + U (r + 1) ≤ 2 * a := by rw [q1, decide_eq_true_iff]
  have e2 : m = true ↔ a ≠ U r ∧ 2 * a ≠ U r + U (r + 1) := by rw [q2, decide_eq_true_iff]
  clear q1 q2
  by_cases hu : up b o hf m mode = true
  · rw [if_pos hu] at hY ⊢
    have hh : hf = true := by
      unfold up at hu
      rcases hm with rfl | rfl <;> cases hf <;> cases m <;> simp_all
    have k := e1.1 hh
    have k2 := hi1 (by omega)
    rcases Int.lt_or_le r s with h | h
    · have := c2 (by omega); omega
    · have := c h; omega
  · rw [if_neg hu] at hY ⊢
    have hh : hf = false ∨ 2 * a = U r + U (r + 1) := by
      unfold up at hu
      rcases hm with rfl | rfl
      · cases hf
        · exact .inl rfl
        · right
          have : m = false := by cases m; rfl; simp at hu
          have k := e1.1 rfl
          subst this
          have k2 : ¬ (a ≠ U r ∧ 2 * a ≠ U r + U (r + 1)) := fun h => by have := e2.2 h; cases this
          omega
      · cases hf
        · exact .inl rfl
        · simp at hu
    have k : 2 * a ≤ U r + U (r + 1) := by
      rcases hh with h | h
      · have : ¬ U r + U (r + 1) ≤ 2 * a := fun h2 => by rw [e1.2 h2] at h; cases h
        omega
      · omega
    rcases Int.lt_or_le r s with h | h
    · have := c2 (by omega); omega
    · have := c h; omega
theorem rx_mod {b : Bool} {y : Int} (h0 : 0 ≤ y) (h1 : y ≤ 9218868437227405312) : rx b y % 9223372036854775808 = y ∧ F.sgn (rx b y) = b := by
  unfold rx F.neg F.sgn
  cases b
  · simp; omega
  · simp; rw [if_pos (by omega)]; omega
theorem OfD_e {x : Int} (h : (OfD x).e = 0) : F.exq x ≠ 2047 := fun h2 => by
  unfold OfD at h; rw [if_pos h2] at h; cases h
theorem near_p {d : Dy} {mode y : Int} (hd : Ok d) (hm : mode = 0 ∨ mode = 4) (y0 : 0 ≤ y) (y1 : y ≤ 18446744073709551615) (hf : (OfD (TX d mode)).e = 0) (hg : (OfD y).e = 0)
    (hp : (Sub d (OfD (TX d mode)).d).e = 0) (hq : (Sub d (OfD y).d).e = 0) : Cmpn (ab (Sub d (OfD (TX d mode)).d).d) (ab (Sub d (OfD y).d).d) ≤ 0 := by
  rw [cmpn_S (ab_ok (sub_good _ _)) (ab_ok (sub_good _ _)), S_ab, S_ab]
  obtain ⟨r, h, m, t, -⟩ := towA hd
  have eX := (TX_of hd (mode := mode) (by omega) t).1
  have k := ry_bd (b := ng d) t mode
  have xb := TX_bd d mode fun _ => hd
  obtain ⟨-, o1, v1, s1⟩ := of_p xb.1 xb.2.1 (OfD_e hf)
  obtain ⟨-, o2, v2, s2⟩ := of_p y0 y1 (OfD_e hg)
  have a1 := (sub_ok' hp (fun _ => hd) (fun _ => o1)).2.2
  have a2 := (sub_ok' hq (fun _ => hd) (fun _ => o2)).2.2
  have xm := rx_mod (b := ng d) k.1 k.2.1
  rw [← eX] at xm
  rw [xm.1, xm.2] at v1
  rw [xm.1] at s1
  rw [v1] at a1
  rw [v2] at a2
  have p1 := A_abs (Sub d (OfD (TX d mode)).d).d
  have p2 := A_abs (Sub d (OfD y).d).d
  have p3 := A_abs d
  have n0 : 0 ≤ y % 9223372036854775808 := by omega
  have nu := near_u (b := ng d) t hm (by unfold ry at s1; exact s1) n0 s2 rfl
  unfold ry at a1
  have u0 := U_pos n0
  generalize U (if up (ng d) (decide (r % 2 = 1)) h m mode = true then r + 1 else r) = u1 at *
  generalize U (y % 9223372036854775808) = u2 at *
  generalize S (Sub d (OfD (TX d mode)).d).d = P at *
  generalize S (Sub d (OfD y).d).d = Q at *
  generalize A (Sub d (OfD (TX d mode)).d).d = AP at *
  generalize A (Sub d (OfD y).d).d = AQ at *
  generalize ng (Sub d (OfD (TX d mode)).d).d = b1 at *
  generalize ng (Sub d (OfD y).d).d = b2 at *
  have hle : AP ≤ AQ := by
    unfold sgm at a1 a2
    rcases Int.lt_or_le (S d) 0 with h1 | h1
    · obtain ⟨g1, g2⟩ := p3.2 h1
      rw [g2] at a1
      simp only [if_true] at a1
      rw [g1] at nu
      clear p3 v1 v2
      rcases Int.lt_or_le P 0 with h2 | h2
      · have k1 := (p1.2 h2).1
        rcases Int.lt_or_le Q 0 with h3 | h3
        · have k2 := (p2.2 h3).1
          cases hs : F.sgn y <;> rw [hs] at a2 <;> simp at a2 <;> omega
        · have k2 := (p2.1 h3).1
          cases hs : F.sgn y <;> rw [hs] at a2 <;> simp at a2 <;> omega
      · have k1 := (p1.1 h2).1
        rcases Int.lt_or_le Q 0 with h3 | h3
        · have k2 := (p2.2 h3).1
          cases hs : F.sgn y <;> rw [hs] at a2 <;> simp at a2 <;> omega
        · have k2 := (p2.1 h3).1
          cases hs : F.sgn y <;> rw [hs] at a2 <;> simp at a2 <;> omega
    · obtain ⟨g1, g2⟩ := p3.1 h1
      rw [g2] at a1
      simp only [Bool.false_eq_true, if_false] at a1
      rw [g1] at nu
      clear p3 v1 v2
      rcases Int.lt_or_le P 0 with h2 | h2
      · have k1 := (p1.2 h2).1
        rcases Int.lt_or_le Q 0 with h3 | h3
        · have k2 := (p2.2 h3).1
          cases hs : F.sgn y <;> rw [hs] at a2 <;> simp at a2 <;> omega
        · have k2 := (p2.1 h3).1
          cases hs : F.sgn y <;> rw [hs] at a2 <;> simp at a2 <;> omega
      · have k1 := (p1.1 h2).1
        rcases Int.lt_or_le Q 0 with h3 | h3
        · have k2 := (p2.2 h3).1
          cases hs : F.sgn y <;> rw [hs] at a2 <;> simp at a2 <;> omega
        · have k2 := (p2.1 h3).1
          cases hs : F.sgn y <;> rw [hs] at a2 <;> simp at a2 <;> omega
  have := cmpv_3 AP AQ
  omega
end RC
end Go.Proofs.YtejglcpiihkenaaGreatDoor

/-
  The nearest number, by 53 bits, pure: what is rounded is a nearest one.
-/
namespace Go.Proofs.YtejglcpiihkenaaGreatDoor
set_option linter.unusedVariables false
set_option linter.unusedSimpArgs false
open Go.RowKit
set_option linter.unusedVariables false
set_option linter.unusedSimpArgs false
namespace XC
open L NC NK DC RC SC
/-- the least unit -/
def e0 : Int := sc 1 (-1074)
theorem e0_pos : 0 < e0 := sc_one_pos _
theorem e0_pow (k : Nat) : sc 1 ((k : Int) - 1074) = 2 ^ k * e0 := by
  unfold e0
  rw [← sc_mul1, sc_two _ _ (by omega)]
  congr 1
theorem sgm_mul' (b : Bool) (q E : Int) : sgm b (q * E) = sgm b q * E := by
  unfold sgm; cases b <;> simp [Int.neg_mul]
theorem val_fp {x : Int} (h : fi x) : ∃ n, val x = n * e0 ∧ Fp n := by
  obtain ⟨k, q, q0, q1, e⟩ := unit_ex h
  refine ⟨sgm (F.sgn x) q * 2 ^ k, ?_, fp_mk k ?_ ?_⟩
  · rw [e, e0_pow, sgm_mul', Int.mul_assoc]
  · unfold sgm; split <;> omega
  · unfold sgm; split <;> omega
theorem U_rep {k : Nat} {N : Int} (h0 : 0 ≤ N) (h1 : N < 9007199254740992) : ∃ r, 0 ≤ r ∧ N * 2 ^ k * e0 = U r := by
  obtain ⟨r, r0, hr⟩ := rep k N h0 h1
  refine ⟨r, r0, ?_⟩
  unfold U
  rw [hr, sc_mul1]; rfl
theorem fp_rank {f : Int} (h : Fp f) : ∃ r, 0 ≤ r ∧ (f.natAbs : Int) * e0 = U r := by
  obtain ⟨k, q, q1, q2, e, -⟩ := fp_canon h
  obtain ⟨r, r0, hr⟩ := U_rep (k := k) (N := q.natAbs) (by omega) (by omega)
  refine ⟨r, r0, ?_⟩
  rw [e, abs_mul_p]; exact hr
theorem abs_scale {a b E : Int} (hE : 0 < E) (h : (a * E).natAbs ≤ (b * E).natAbs) : a.natAbs ≤ b.natAbs := by
  rw [Int.natAbs_mul, Int.natAbs_mul] at h
  exact Nat.le_of_mul_le_mul_right h (by omega)
theorem nr_round {d : Dy} {n mode M : Int} (hM : M = 9218868437227405311) (h : Ok d) (hS : S d = n * e0) (hb : 2 * A d ≤ U M) (hm : mode = 0 ∨ mode = 4) : fi (TX d mode) ∧ ∃ N, val (TX d mode) = N * e0 ∧ Nr n N := by
  obtain ⟨r, hf, m, t, -⟩ := towA h
  have eX := (TX_of h (mode := mode) (by omega) t).1
  have r0 := t.r0
  have r1 := t.r1
  have lo := t.lo
  have uM : 0 < U M := by
    have := U_lt (r := 0) (s := M) (by omega) (by omega)
    rwa [U_zero] at this
  have hrM : r < M := by
    rcases Int.lt_or_le r M with g | g
    · exact g
    · have : r = M := by omega
      subst this
      omega
  have ab := A_abs d
  obtain ⟨y, hy⟩ : ∃ y, y = ry (ng d) r hf m mode := ⟨_, rfl⟩
  have yb : 0 ≤ y ∧ y ≤ M := by rw [hy]; unfold ry; split <;> omega
  rw [← hy] at eX
  have xm := rx_mod (b := ng d) (y := y) yb.1 (by omega)
  have xb := TX_bd d mode fun _ => h
  rw [← eX] at xm
  have fx : fi (TX d mode) := fi_of xb.1 xb.2.1 (by rw [xm.1]; omega)
  have vx := val_eq fx
  rw [xm.1, xm.2] at vx
  refine ⟨fx, ?_⟩
  obtain ⟨N, eN, fN⟩ := val_fp fx
  refine ⟨N, eN, fN, fun f hf' => ?_⟩
  obtain ⟨ρ, ρ0, hρ⟩ := fp_rank hf'
  have key : ∀ s, 0 ≤ s → ((A d - U y ≤ A d - U s ∨ A d - U y ≤ U s - A d) ∧ (U y - A d ≤ A d - U s ∨ U y - A d ≤ U s - A d)) ∧ A d - U y ≤ A d ∧ U y - A d ≤ A d := by
    have nu := fun s h0 h1 => near_u (b := ng d) (s := s) t hm (by rw [hM] at hrM yb; rw [hy] at yb; unfold ry at yb; exact yb.2) h0 h1 rfl
    unfold ry at hy
    rw [← hy] at nu
    intro s s0
    obtain ⟨-, -, n3, n4⟩ := nu 0 (by omega) (by omega)
    rcases Int.lt_or_le M s with g | g
    · have := U_lt (r := M) (s := s) (by omega) g
      exact ⟨⟨.inr (by omega), .inr (by omega)⟩, n3, n4⟩
    · obtain ⟨n1, n2, -, -⟩ := nu s s0 (by omega)
      exact ⟨⟨n1, n2⟩, n3, n4⟩
  obtain ⟨⟨k1, k2⟩, k3, k4⟩ := key ρ ρ0
  have uy := U_pos yb.1
  have uρ := U_pos ρ0
  refine abs_scale e0_pos ?_
  rw [Int.sub_mul, Int.sub_mul, ← eN, ← hS, vx]
  have hf0 : (0 ≤ f → f * e0 = U ρ) ∧ (f < 0 → f * e0 = -U ρ) := by
    constructor
    · intro q; rw [← hρ, show (f.natAbs : Int) = f by omega]
    · intro q; rw [← hρ, show (f.natAbs : Int) = -f by omega, Int.neg_mul]; omega
  generalize U y = u at *
  generalize U ρ = v at *
  generalize A d = a at *
  clear hρ key hS eN vx lo hb uM t
  rcases Int.lt_or_le (S d) 0 with g | g
  · obtain ⟨g1, g2⟩ := ab.2 g
    rw [g2]
    unfold sgm
    simp only [if_true]
    rcases Int.lt_or_le f 0 with g3 | g3
    · rw [hf0.2 g3]; omega
    · rw [hf0.1 g3]; omega
  · obtain ⟨g1, g2⟩ := ab.1 g
    rw [g2]
    unfold sgm
    simp only [Bool.false_eq_true, if_false]
    rcases Int.lt_or_le f 0 with g3 | g3
    · rw [hf0.2 g3]; omega
    · rw [hf0.1 g3]; omega
/-- a sum of numbers -/
theorem nr_AT {L : List Int} {n mode M : Int} (hM : M = 9218868437227405311) (hl : ¬ 200 < L.length) (hf : ∀ x ∈ L, fi x) (hS : vs L = n * e0) (hb : 2 * vs L ≤ U M ∧ -(U M) ≤ 2 * vs L) (hm : mode = 0 ∨ mode = 4) :
    (AT L mode).2.2 = 0 ∧ fi (AT L mode).1 ∧ ∃ N, val (AT L mode).1 = N * e0 ∧ Nr n N := by
  have hm' : 0 ≤ mode ∧ mode ≤ 4 := by omega
  have a := AT_fin hm' hl hf
  have t := tot_ok hf hl
  by_cases h0 : vs L = 0
  · have hn : n = 0 := by
      rw [h0] at hS
      rcases Int.mul_eq_zero.1 hS.symm with q | q
      · exact q
      · have := e0_pos; omega
    subst hn
    rw [a.1 h0]
    have z : fi (ZR L mode) ∧ val (ZR L mode) = 0 := by
      rcases ZR_zero mode hf h0 with e | e
      · rw [e]
        have f0 : fi 0 := fi_of (by omega) (by omega) (by omega)
        exact ⟨f0, by rw [val_eq f0, show (0 : Int) % 9223372036854775808 = 0 by decide, U_zero]; rfl⟩
      · rw [e]
        have f0 : fi 9223372036854775808 := fi_of (by omega) (by omega) (by omega)
        exact ⟨f0, by rw [val_eq f0, show (9223372036854775808 : Int) % 9223372036854775808 = 0 by decide, U_zero]; rfl⟩
    exact ⟨rfl, z.1, 0, by rw [z.2]; simp, fp_zero, fun f _ => by simp⟩
  · rw [a.2 h0]
    have ab := A_abs (tot L dz)
    rw [t.2] at ab
    refine ⟨rfl, nr_round hM t.1 (by rw [t.2]; exact hS) ?_ hm⟩
    rcases Int.lt_or_le (vs L) 0 with g | g
    · rw [(ab.2 g).1]; omega
    · rw [(ab.1 g).1]; omega
end XC
end Go.Proofs.YtejglcpiihkenaaGreatDoor

