/-
  Plain mathematics: limbs with bits put behind them; the root, two bits at a time.
-/
import Derived.Test.YtjihapnplfdmmaaDoorNDivQ
namespace Go.Proofs.YtjihapnplfdmmaaDoor.L
open Z (Nz Tz cmpv)
theorem nz_of_ge {M : List Int} {n : Nat} (hM : Lim M) (hl : M.length = n + 1) (h : 4294967296 ^ n ≤ lv M) : Nz M := by
  intro hne h0
  have h1 := lv_split M n (by omega)
  rw [List.drop_of_length_le (by omega)] at h1
  have h2 := lv_lt (hM.take n)
  rw [List.length_take, Nat.min_eq_left (by omega)] at h2
  have h3 : M.getD n 0 = 0 := by
    rw [List.getLast_eq_getElem] at h0
    rw [List.getD_eq_getElem?_getD, List.getElem?_eq_getElem (by omega)]
    simpa [hl] using h0
  rw [h3] at h1
  simp [lv] at h1
  omega
/-- bits being put behind: so many limbs are moved up by r bits; c is carried -/
structure PuI (X : List Int) (r : Nat) (low : Int) (i : Nat) (M : List Int) (c : Int) : Prop where
  len : M.length = X.length
  lim : Lim M
  c0 : 0 ≤ c
  c1 : c < 2 ^ r
  rest : ∀ j, i ≤ j → M.getD j 0 = X.getD j 0
  sum : lv (M.take i) + 4294967296 ^ i * c = 2 ^ r * lv (X.take i) + low
theorem PuI.start {X : List Int} {r : Nat} {low : Int} (h : Lim X) (h0 : 0 ≤ low) (h1 : low < 2 ^ r) : PuI X r low 0 X low := ⟨rfl, h, h0, h1, fun _ _ => rfl, by simp [lv]⟩
theorem PuI.step {X M : List Int} {r i : Nat} {low c q : Int} (h : PuI X r low i M c) (hi : i < X.length) (hq : X.getD i 0 = q) (q0 : 0 ≤ q) (q1 : q < 4294967296) : PuI X r low (i + 1) (M.set i ((q * 2 ^ r + c) % 4294967296)) ((q * 2 ^ r + c) / 4294967296) := by
  have hp := two_pos r
  have c0 := h.c0
  have c1 := h.c1
  have q2 : 0 ≤ q * 2 ^ r := Int.mul_nonneg q0 (Int.le_of_lt hp)
  have e := Int.emod_add_mul_ediv (q * 2 ^ r + c) 4294967296
  refine ⟨by simp [h.len], h.lim.set _ (Int.emod_nonneg _ (by decide)) (Int.emod_lt_of_pos _ (by decide)), Int.ediv_nonneg (by omega) (by decide), ?_, fun j hj => ?_, ?_⟩
  · rw [Int.ediv_lt_iff_lt_mul (by decide)]
    have : (q + 1) * 2 ^ r ≤ 4294967296 * 2 ^ r := Int.mul_le_mul_of_nonneg_right (by omega) (Int.le_of_lt hp)
    grind
  · rw [getD_set (by rw [h.len]; exact hi), if_neg (by omega)]; exact h.rest j (by omega)
  · rw [lv_take_succ, lv_take_succ, getD_set (by rw [h.len]; exact hi), if_pos rfl, List.take_set_of_le (Nat.le_refl _), hq, Int.pow_succ]
    have := h.sum
    have e2 : (4294967296 : Int) ^ i * ((q * 2 ^ r + c) % 4294967296 + 4294967296 * ((q * 2 ^ r + c) / 4294967296)) = 4294967296 ^ i * (q * 2 ^ r + c) := by rw [e]
    grind
theorem PuI.done0 {X M : List Int} {r : Nat} {low : Int} (h : PuI X r low X.length M 0) (hX : Lim X) (nX : Nz X) (h0 : 0 ≤ low) : lv M = lv X * 2 ^ r + low ∧ Nz M := by
  have := h.sum
  rw [List.take_length, lv_take_all (by rw [h.len]; exact Nat.le_refl _)] at this
  have e : lv M = lv X * 2 ^ r + low := by grind
  refine ⟨e, ?_⟩
  by_cases hne : X = []
  · intro hM
    have := h.len
    rw [hne] at this
    exact absurd (List.eq_nil_of_length_eq_zero this) hM
  · have h1 := lv_ge hX nX hne
    have hp := two_pos r
    have hl := List.length_pos_iff.2 hne
    refine nz_of_ge (n := X.length - 1) h.lim (by rw [h.len]; omega) ?_
    have h2 : lv X * 1 ≤ lv X * 2 ^ r := Int.mul_le_mul_of_nonneg_left (by omega) (lv_nonneg hX)
    omega
theorem PuI.done1 {X M : List Int} {r : Nat} {low c : Int} (h : PuI X r low X.length M c) (hc : 0 < c) : lv (M ++ [c]) = lv X * 2 ^ r + low ∧ Nz (M ++ [c]) := by
  have := h.sum
  rw [List.take_length, lv_take_all (by rw [h.len]; exact Nat.le_refl _)] at this
  refine ⟨by rw [lv_append, h.len]; simp [lv]; grind, fun hne => ?_⟩
  simp; omega
/-- the root under way: k pairs of bits are left; R is the root of the others, re what is left of them -/
structure SqI (A : Int) (K k : Nat) (R tw re : Int) : Prop where
  r0 : 0 ≤ R
  eT : tw = 2 * R
  eR : re = A / 4 ^ k - R * R
  le : re ≤ 2 * R
  re0 : 0 ≤ re
  top : R = 0 → k = K
theorem SqI.start {A : Int} {K : Nat} (h0 : 0 ≤ A) (h : A < 4 ^ K) : SqI A K K 0 0 0 := ⟨by omega, by omega, by rw [Int.ediv_eq_zero_of_lt h0 h]; omega, by omega, by omega, fun _ => rfl⟩
theorem four_step (A : Int) (k : Nat) : A / 4 ^ k = 4 * (A / 4 ^ (k + 1)) + A / 4 ^ k % 4 := by
  have e := Int.emod_add_mul_ediv (A / 4 ^ k) 4
  have hp : (0 : Int) ≤ 4 ^ k := Int.le_of_lt (Int.pow_pos (by decide))
  rw [Int.pow_succ, ← Int.ediv_ediv_of_nonneg hp]
  omega
theorem SqI.less {A R tw re p : Int} {K k : Nat} (h : SqI A K (k + 1) R tw re) (hK : 4 ^ (K - 1) ≤ A) (hp : p = A / 4 ^ k % 4) (hlt : re * 4 + p < tw * 2 + 1) : SqI A K k (2 * R) (tw * 2) (re * 4 + p) ∧ 0 < R := by
  have e := four_step A k
  have h1 := h.eT
  have h2 := h.eR
  have h3 := h.r0
  have h4 := h.re0
  have p0 : 0 ≤ A / 4 ^ k % 4 := Int.emod_nonneg _ (by decide)
  have hR : 0 < R := by
    rcases Int.lt_or_eq_of_le h3 with h5 | h5
    · exact h5
    · exfalso
      have hk := h.top h5.symm
      have a1 : (1 : Int) ≤ A / 4 ^ k := by
        rw [Int.le_ediv_iff_mul_le (Int.pow_pos (by decide))]
        have : K - 1 = k := by omega
        rw [this] at hK
        omega
      rw [← h5] at h1 h2
      simp at h2
      omega
  refine ⟨⟨by omega, by omega, ?_, by omega, by omega, fun h5 => by omega⟩, hR⟩
  rw [e, h2, hp]; grind
theorem SqI.more {A R tw re p : Int} {K k : Nat} (h : SqI A K (k + 1) R tw re) (hp : p = A / 4 ^ k % 4) (hge : tw * 2 + 1 ≤ re * 4 + p) : SqI A K k (2 * R + 1) (tw * 2 + 1 + 1) (re * 4 + p - (tw * 2 + 1)) := by
  have e := four_step A k
  have h1 := h.eT
  have h2 := h.eR
  have h3 := h.r0
  have h4 := h.le
  have p1 : A / 4 ^ k % 4 < 4 := Int.emod_lt_of_pos _ (by decide)
  refine ⟨by omega, by omega, ?_, by omega, by omega, fun h5 => by omega⟩
  rw [e, h2, hp, h1]; grind
theorem SqI.done {A R tw re : Int} {K : Nat} (h : SqI A K 0 R tw re) : R * R + re = A ∧ 0 ≤ re ∧ re ≤ 2 * R ∧ 0 ≤ R := by
  have := h.eR
  simp at this
  exact ⟨by omega, h.re0, h.le, h.r0⟩
/-- a pair of bits of limbs -/
theorem pair_eq {a : List Int} (ha : Lim a) (i : Nat) (hi : i / 16 < a.length) : a.getD (i / 16) 0 / 2 ^ (i % 16 * 2) % 4 = lv a / 4 ^ i % 4 := by
  have e1 : (4 : Int) ^ i = 4294967296 ^ (i / 16) * 2 ^ (i % 16 * 2) := by
    rw [show (4 : Int) = 2 ^ 2 by decide, show (4294967296 : Int) = 2 ^ 32 by decide, ← Int.pow_mul, ← Int.pow_mul, ← Int.pow_add]
    congr 1
    omega
  rw [e1, ← Int.ediv_ediv_of_nonneg (Int.le_of_lt (pow_pos _)), ← lv_div a ha _ (by omega), lv_drop _ hi]
  generalize a.getD (i / 16) 0 = x
  generalize lv (a.drop (i / 16 + 1)) = D
  have ht : i % 16 * 2 + 2 ≤ 32 := by omega
  obtain ⟨p', _, e⟩ := two_split ht
  have hp := two_pos (i % 16 * 2)
  rw [Int.pow_add] at e
  generalize (2 : Int) ^ (i % 16 * 2) = p at *
  have : x + 4294967296 * D = x + p * (4 * p' * D) := by rw [← e]; grind
  rw [this, Int.add_mul_ediv_left _ _ (by omega), Int.mul_assoc 4, Int.add_mul_emod_self_left]
theorem and3 (x : Int) (h0 : 0 ≤ x) (h1 : x < 4294967296) : bits .and .u32 x 3 = x % 4 := by
  obtain ⟨a, rfl⟩ := Int.eq_ofNat_of_zero_le h0
  rw [show (3 : Int) = ((3 : Nat) : Int) by rfl, and_u32 a 3 (by omega) (by decide), show (3 : Nat) = 2 ^ 2 - 1 by decide, Nat.and_two_pow_sub_one_eq_mod]
  rfl
/-- the lowest limb one more, one less -/
theorem lv_set0 {L : List Int} (h : L ≠ []) (z : Int) : lv (L.set 0 z) = lv L + (z - L.getD 0 0) := by
  rw [lv_set L 0 z (List.length_pos_iff.2 h)]; simp
theorem nz_set0 {L : List Int} {z : Int} (hn : Nz L) (hz : z ≠ 0 ∨ 1 < L.length) : Nz (L.set 0 z) := by
  intro hne h0
  cases L with
  | nil => simp at hne
  | cons d r =>
    cases r with
    | nil => simp at h0 hz; exact hz h0
    | cons d2 r =>
      simp only [List.set_cons_zero, List.getLast_cons_cons] at h0
      exact hn (by simp) (by simpa [List.getLast_cons_cons] using h0)
theorem low4 {L : List Int} (h : L ≠ []) {x : Int} (e : lv L = 4 * x + 1) : L.getD 0 0 % 4 = 1 := by
  have := lv_drop (L := L) 0 (List.length_pos_iff.2 h)
  simp only [List.drop_zero] at this
  omega
end Go.Proofs.YtjihapnplfdmmaaDoor.L
