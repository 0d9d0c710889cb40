/-
  Plain mathematics: long division: what is shifted first.
-/
import Derived.Test.YtjihapnplfdmmaaDoorNDivP
namespace Go.Proofs.YtjihapnplfdmmaaDoor.L
open Z (Nz Tz cmpv)
theorem len_le {L : List Int} {n : Nat} (hL : Lim L) (hn : Nz L) (h1 : lv L < 4294967296 ^ n) : L.length ≤ n := by
  by_cases hne : L = []
  · subst hne; simp
  · have a2 := lv_ge hL hn hne
    rcases Nat.lt_or_ge n L.length with h | h
    · have := pow_mono (show n ≤ L.length - 1 by omega); omega
    · exact h
theorem top_bd {b : List Int} {m : Nat} (hb : Lim b) (hm : b.length = m + 1) : 4294967296 ^ m * b.getD m 0 ≤ lv b ∧ lv b < 4294967296 ^ m * (b.getD m 0 + 1) := by
  have h := lv_split b m (by omega)
  rw [List.drop_of_length_le (by omega)] at h
  have h1 := lv_lt (hb.take m)
  rw [List.length_take, Nat.min_eq_left (by omega)] at h1
  have h2 := lv_nonneg (hb.take m)
  simp only [lv, Int.mul_zero, Int.add_zero] at h
  rw [h]
  refine ⟨by omega, by grind⟩
/-- shifted so that its highest bit is the highest one of its limb, it has as many limbs -/
theorem norm_len {b D : List Int} {m n : Nat} (hb : Lim b) (hm : b.length = m + 1) (h0 : (2 : Int) ^ n ≤ b.getD m 0) (h1 : b.getD m 0 < 2 ^ (n + 1)) (hn : n < 32) (hD : Lim D) (nD : Nz D) (hv : lv D = lv b * 2 ^ (31 - n)) : D.length = m + 1 := by
  obtain ⟨t1, t2⟩ := top_bd hb hm
  have hp := pow_pos m
  have hs := two_pos (31 - n)
  have h2 := two_pos n
  have hb1 : 4294967296 ^ m * 1 ≤ lv b := Int.le_trans (Int.mul_le_mul_of_nonneg_left (by omega) (Int.le_of_lt hp)) t1
  have hb2 : lv b < 4294967296 ^ m * 2 ^ (n + 1) := Int.lt_of_lt_of_le t2 (Int.mul_le_mul_of_nonneg_left (by omega) (Int.le_of_lt hp))
  refine len_eq hD nD ?_ ?_
  · rw [hv]
    have : lv b * 1 ≤ lv b * 2 ^ (31 - n) := Int.mul_le_mul_of_nonneg_left (by omega) (lv_nonneg hb)
    omega
  · rw [hv]
    have e : (2 : Int) ^ (n + 1) * 2 ^ (31 - n) = 4294967296 := by rw [← Int.pow_add, show n + 1 + (31 - n) = 32 by omega]; decide
    have : lv b * 2 ^ (31 - n) < 4294967296 ^ m * 2 ^ (n + 1) * 2 ^ (31 - n) := Int.mul_lt_mul_of_pos_right hb2 hs
    rw [Int.mul_assoc, e] at this
    rw [Int.pow_succ]; exact this
theorem up_len {a A : List Int} {s la : Nat} (ha : Lim a) (hl : a.length = la) (hs : s ≤ 32) (hA : Lim A) (nA : Nz A) (hv : lv A = lv a * 2 ^ s) : A.length ≤ la + 1 := by
  refine len_le hA nA ?_
  have h1 := lv_lt ha
  rw [hl] at h1
  have h2 : (2 : Int) ^ s ≤ 4294967296 := by
    have : (2 : Int) ^ s ≤ 2 ^ 32 := by exact_mod_cast Nat.pow_le_pow_right (by decide : 0 < 2) hs
    exact this
  have h3 := two_pos s
  rw [hv, Int.pow_succ]
  have h4 : lv a * 2 ^ s ≤ lv a * 4294967296 := Int.mul_le_mul_of_nonneg_left h2 (lv_nonneg ha)
  omega
theorem dv_start {a b P : List Int} {s la m nq : Nat} (ha : Lim a) (hla : a.length = la) (hb : Lim b) (nb : Nz b) (hm : b.length = m + 1) (hnq : m + nq = la) (hP : Lim P) (hPl : P.length = la + 1) (hv : lv P = lv a * 2 ^ s) :
    DvI (lv a * 2 ^ s) (lv b * 2 ^ s) nq nq (List.replicate nq 0) P (la + 1) := by
  refine ⟨by simp, Lim.rep _, hPl, hP, fun j _ => Z.getD_rep _ _, by rw [lv_rep, hv]; omega, ?_⟩
  have h1 := lv_lt ha
  rw [hla] at h1
  have h2 := lv_ge hb nb (by intro h; subst h; simp at hm)
  rw [hm, Nat.add_sub_cancel] at h2
  have hs := two_pos s
  rw [hv]
  have e : (4294967296 : Int) ^ la = 4294967296 ^ m * 4294967296 ^ nq := by rw [← hnq, Int.pow_add]
  have h3 : 4294967296 ^ m * 4294967296 ^ nq ≤ lv b * 4294967296 ^ nq := Int.mul_le_mul_of_nonneg_right h2 (Int.le_of_lt (pow_pos nq))
  have h4 : lv a * 2 ^ s < lv b * 4294967296 ^ nq * 2 ^ s := Int.mul_lt_mul_of_pos_right (by omega) hs
  rw [show lv b * 2 ^ s * 4294967296 ^ nq = lv b * 4294967296 ^ nq * 2 ^ s by grind]
  exact h4
end Go.Proofs.YtjihapnplfdmmaaDoor.L
