/-
  Plain mathematics: long division by limbs.
-/
import Derived.Test.YtjihapnplfdmmaaDoorNShP
namespace Go.Proofs.YtjihapnplfdmmaaDoor.L
open Z (Nz Tz cmpv)
/-- a guess made of the two highest limbs of the rest and the highest one of the divisor is not too small -/
theorem guess_ok {R D : List Int} {m : Nat} {g q : Int} (hR : Lim R) (hD : Lim D) (hRl : R.length = m + 2) (hDl : D.length = m + 1) (ht : 0 < D.getD m 0) (q0 : 0 ≤ q)
    (hq : q * lv D ≤ lv R) (h32 : q < 4294967296) (hg : g = min ((R.getD (m + 1) 0 * 4294967296 + R.getD m 0) / D.getD m 0) 4294967295) : q ≤ g := by
  have b1 := lv_cut R m (by omega)
  have e1 : lv (R.drop m) = R.getD m 0 + 4294967296 * R.getD (m + 1) 0 := by
    rw [lv_drop _ (by omega), lv_drop _ (by omega), List.drop_of_length_le (by omega)]; simp [lv]
  have c1 := lv_cut D m (by omega)
  have e2 : lv (D.drop m) = D.getD m 0 := by
    rw [lv_drop _ (by omega), List.drop_of_length_le (by omega)]; simp [lv]
  have h1 := lv_lt (hR.take m)
  rw [List.length_take, Nat.min_eq_left (by omega)] at h1
  have h2 := lv_nonneg (hD.take m)
  have hp := pow_pos m
  rw [e1] at b1
  rw [e2] at c1
  obtain ⟨two, htwo⟩ : ∃ t, t = R.getD (m + 1) 0 * 4294967296 + R.getD m 0 := ⟨_, rfl⟩
  rw [← htwo] at hg
  have htwo2 : R.getD m 0 + 4294967296 * R.getD (m + 1) 0 = two := by omega
  rw [htwo2] at b1
  generalize D.getD m 0 = d at *
  have h3 : 4294967296 ^ m * (q * d) < 4294967296 ^ m * (two + 1) := by
    have a1 : q * (4294967296 ^ m * d) ≤ q * lv D := Int.mul_le_mul_of_nonneg_left (by omega) q0
    have a2 : (4294967296 : Int) ^ m * (q * d) = q * (4294967296 ^ m * d) := by grind
    have a3 : (4294967296 : Int) ^ m * (two + 1) = 4294967296 ^ m * two + 4294967296 ^ m := by grind
    omega
  have h4 : q * d < two + 1 := Int.lt_of_mul_lt_mul_left h3 (Int.le_of_lt hp)
  have h5 : q ≤ two / d := by rw [Int.le_ediv_iff_mul_le ht]; omega
  omega
/-- a quotient's limb under way: the guess g, what is left of R, which reads M, and whether it is below 0 -/
structure QI (R D : List Int) (N : Nat) (g : Int) (below : Bool) (M : List Int) : Prop where
  len : M.length = N
  lim : Lim M
  g0 : 0 ≤ g
  g1 : g < 4294967296
  val : lv M = lv R - g * lv D + (if below then 4294967296 ^ N else 0)
  up : ∀ q, 0 ≤ q → q * lv D ≤ lv R → q < 4294967296 → q ≤ g ∨ lv R < (g + 1) * lv D
theorem QI.pos {R D M : List Int} {N : Nat} {g : Int} (h : QI R D N g true M) (hR : Lim R) : 0 < g := by
  have h1 := h.val
  have h2 := lv_lt h.lim
  rw [h.len] at h2
  have h3 := lv_nonneg hR
  have g0 := h.g0
  rcases Int.lt_or_eq_of_le g0 with h4 | h4
  · exact h4
  · rw [← h4] at h1; simp at h1; omega
theorem QI.step {R D M M' : List Int} {N : Nat} {g k : Int} (h : QI R D N g true M) (hR : Lim R) (hD : Lim D) (hM : M'.length = N) (lM : Lim M') (k0 : 0 ≤ k) (k1 : k ≤ 1)
    (hv : lv M' + 4294967296 ^ N * k = lv M + lv D) : QI R D N (g - 1) (k == 0) M' := by
  have h1 := h.val
  have hp := h.pos hR
  have a1 := lv_lt lM
  rw [hM] at a1
  have a2 := lv_lt h.lim
  rw [h.len] at a2
  have a3 := lv_nonneg lM
  have hD0 := lv_nonneg hD
  simp only [if_true] at h1
  have e : (g - 1) * lv D = g * lv D - lv D := by grind
  refine ⟨hM, lM, by omega, by have := h.g1; omega, ?_, fun q q0 hq q1 => ?_⟩
  · rw [e]
    rcases (by omega : k = 0 ∨ k = 1) with rfl | rfl
    · simp at hv ⊢; omega
    · simp at hv ⊢; omega
  · right
    rw [show (g - 1 + 1) * lv D = g * lv D by grind]
    omega
theorem QI.done {R D M : List Int} {N : Nat} {g : Int} (h : QI R D N g false M) (hD : 0 < lv D) (hR : Lim R) (hlt : lv R < 4294967296 * lv D) : g = lv R / lv D ∧ lv M = lv R % lv D := by
  have h1 := h.val
  simp at h1
  have h2 := lv_nonneg h.lim
  have q0 : 0 ≤ lv R / lv D := Int.ediv_nonneg (lv_nonneg hR) (Int.le_of_lt hD)
  have q1 : lv R / lv D < 4294967296 := by rw [Int.ediv_lt_iff_lt_mul hD]; exact hlt
  have e := Int.emod_add_mul_ediv (lv R) (lv D)
  have m0 := Int.emod_nonneg (lv R) (show lv D ≠ 0 by omega)
  have m1 := Int.emod_lt_of_pos (lv R) hD
  have hle : g ≤ lv R / lv D := by rw [Int.le_ediv_iff_mul_le hD]; omega
  have hge : lv R / lv D ≤ g := by
    rcases h.up _ q0 (by rw [Int.mul_comm]; omega) q1 with h3 | h3
    · exact h3
    · have : lv R / lv D < g + 1 := by rw [Int.ediv_lt_iff_lt_mul hD]; exact h3
      omega
  have eg : g = lv R / lv D := by omega
  refine ⟨eg, ?_⟩
  rw [eg] at h1
  rw [h1, Int.mul_comm]; omega
/-- dividing under way: quotient limbs from number i on are found; the rest reads P -/
structure DvI (A D : Int) (n i : Nat) (Q P : List Int) (N : Nat) : Prop where
  lenQ : Q.length = n
  limQ : Lim Q
  lenP : P.length = N
  limP : Lim P
  zero : ∀ j, j < i → Q.getD j 0 = 0
  val : A = lv Q * D + lv P
  lt : lv P < D * 4294967296 ^ i
theorem DvI.step {A D : Int} {n i m N : Nat} {Q P W : List Int} {q : Int} (h : DvI A D n (i + 1) Q P N) (hD : 0 < D) (hDm : D ≤ 4294967296 ^ m) (hi : i < n) (hN : i + m + 1 ≤ N) (hW : W.length = m + 1) (lW : Lim W)
    (hq : q = lv ((P.drop i).take (m + 1)) / D) (hw : lv W = lv ((P.drop i).take (m + 1)) % D) (q0 : 0 ≤ q) (q1 : q < 4294967296) : DvI A D n i (Q.set i q) (P.take i ++ (W ++ P.drop (i + (m + 1)))) N := by
  have hPl := h.lenP
  have e1 := lv_cut P i (by omega)
  have e2 := lv_cut (P.drop i) (m + 1) (by simp; omega)
  have hlow := lv_lt (h.limP.take i)
  rw [List.length_take, Nat.min_eq_left (by omega)] at hlow
  have hlow0 := lv_nonneg (h.limP.take i)
  have hw0 := lv_nonneg ((h.limP.drop i).take (m + 1))
  have hh0 := lv_nonneg ((h.limP.drop i).drop (m + 1))
  have hpi := pow_pos i
  have hpm := pow_pos (m + 1)
  -- the limbs above the window are noughts
  have hlt := h.lt
  have hzero : lv ((P.drop i).drop (m + 1)) = 0 := by
    rcases Int.lt_or_eq_of_le hh0 with h1 | h1
    · exfalso
      have a1 : (4294967296 : Int) ^ (m + 1) * 1 ≤ 4294967296 ^ (m + 1) * lv ((P.drop i).drop (m + 1)) := Int.mul_le_mul_of_nonneg_left (by omega) (Int.le_of_lt hpm)
      have a2 : 4294967296 ^ i * 4294967296 ^ (m + 1) ≤ 4294967296 ^ i * lv (P.drop i) := Int.mul_le_mul_of_nonneg_left (by omega) (Int.le_of_lt hpi)
      have a3 : D * 4294967296 ^ (i + 1) ≤ 4294967296 ^ m * 4294967296 ^ (i + 1) := Int.mul_le_mul_of_nonneg_right hDm (Int.le_of_lt (pow_pos _))
      have a4 : (4294967296 : Int) ^ m * 4294967296 ^ (i + 1) = 4294967296 ^ i * 4294967296 ^ (m + 1) := by rw [Int.pow_succ, Int.pow_succ]; grind
      omega
    · exact h1.symm
  rw [hzero, Int.mul_zero, Int.add_zero] at e2
  have ediv := Int.emod_add_mul_ediv (lv ((P.drop i).take (m + 1))) D
  rw [← hq, ← hw] at ediv
  have hwlt : lv W < D := by rw [hw]; exact Int.emod_lt_of_pos _ hD
  have eP : lv (P.take i ++ (W ++ P.drop (i + (m + 1)))) = lv (P.take i) + 4294967296 ^ i * lv W := by
    rw [lv_append, lv_append, List.length_take, Nat.min_eq_left (by omega), ← List.drop_drop, hzero]; simp
  refine ⟨by simp [h.lenQ], h.limQ.set _ q0 q1, by simp [hW]; omega, (h.limP.take i).app (lW.app (h.limP.drop _)), fun j hj => ?_, ?_, ?_⟩
  · rw [getD_set (by rw [h.lenQ]; exact hi), if_neg (by omega)]; exact h.zero j (by omega)
  · rw [lv_set _ _ _ (by rw [h.lenQ]; exact hi), h.zero i (by omega), eP]
    have hv := h.val
    rw [e1, e2] at hv
    rw [hv, ← ediv]; grind
  · rw [eP]
    have a1 : 4294967296 ^ i * (lv W + 1) ≤ 4294967296 ^ i * D := Int.mul_le_mul_of_nonneg_left (by omega) (Int.le_of_lt hpi)
    grind
theorem DvI.done {A D : Int} {n N : Nat} {Q P : List Int} (h : DvI A D n 0 Q P N) (hD : 0 < D) : lv Q = A / D ∧ lv P = A % D := by
  have h1 := h.val
  have h2 := h.lt
  simp at h2
  have h3 := lv_nonneg h.limP
  have e : A / D = lv Q := by
    rw [h1, Int.add_comm, Int.mul_comm, Int.add_mul_ediv_left _ _ (by omega), Int.ediv_eq_zero_of_lt h3 h2]; omega
  refine ⟨e.symm, ?_⟩
  rw [h1, Int.add_comm, Int.mul_comm, Int.add_mul_emod_self_left, Int.emod_eq_of_lt h3 h2]
/-- a window of a rest that is less than the divisor times 2^32 -/
theorem window_lt {P : List Int} {D : Int} {i m : Nat} (hP : Lim P) (hN : i + m + 1 ≤ P.length) (h : lv P < D * 4294967296 ^ (i + 1)) : lv ((P.drop i).take (m + 1)) < 4294967296 * D := by
  have e1 := lv_cut P i (by omega)
  have e2 := lv_cut (P.drop i) (m + 1) (by simp; omega)
  have hlow0 := lv_nonneg (hP.take i)
  have hh0 := lv_nonneg ((hP.drop i).drop (m + 1))
  have a1 : 0 ≤ 4294967296 ^ (m + 1) * lv ((P.drop i).drop (m + 1)) := Int.mul_nonneg (Int.le_of_lt (pow_pos _)) hh0
  have a2 : 4294967296 ^ i * lv ((P.drop i).take (m + 1)) ≤ 4294967296 ^ i * lv (P.drop i) := Int.mul_le_mul_of_nonneg_left (by omega) (Int.le_of_lt (pow_pos i))
  have a3 : (4294967296 : Int) ^ i * lv ((P.drop i).take (m + 1)) < 4294967296 ^ i * (4294967296 * D) := by
    have : D * 4294967296 ^ (i + 1) = 4294967296 ^ i * (4294967296 * D) := by rw [Int.pow_succ]; grind
    omega
  exact Int.lt_of_mul_lt_mul_left a3 (Int.le_of_lt (pow_pos i))
/-- both shifted: the same quotient, the remainder shifted -/
theorem div_shift (a b : Int) (s : Nat) (hb : 0 < b) : (a * 2 ^ s) / (b * 2 ^ s) = a / b ∧ (a * 2 ^ s) % (b * 2 ^ s) / 2 ^ s = a % b := by
  have hp := two_pos s
  refine ⟨?_, ?_⟩
  · rw [Int.mul_ediv_mul_of_pos_left _ _ hp]
  · rw [Int.mul_comm a, Int.mul_comm b, Int.mul_emod_mul_of_pos _ _ hp, Int.mul_ediv_cancel_left _ (by omega)]
/-- the length of limbs in normal form, by their value -/
theorem len_eq {L : List Int} {n : Nat} (hL : Lim L) (hn : Nz L) (h0 : 4294967296 ^ n ≤ lv L) (h1 : lv L < 4294967296 ^ (n + 1)) : L.length = n + 1 := by
  have a1 := lv_lt hL
  have hlo : n + 1 ≤ L.length := by
    rcases Nat.lt_or_ge n L.length with h | h
    · exact h
    · have := pow_mono h; omega
  have hne : L ≠ [] := by intro h; subst h; simp at hlo
  have a2 := lv_ge hL hn hne
  rcases Nat.lt_or_ge (n + 1) L.length with h | h
  · have := pow_mono (show n + 1 ≤ L.length - 1 by omega); omega
  · omega
end Go.Proofs.YtjihapnplfdmmaaDoor.L
