/-
  Plain mathematics: limbs shifted up and down.
-/
import Derived.Test.YtjihapnplfdmmaaDoorNPure
import Derived.Test.YtjihapnplfdmmaaDoorNBits
namespace Go.Proofs.YtjihapnplfdmmaaDoor.L
open Z (Nz Tz cmpv)
theorem two_pos (r : Nat) : (0 : Int) < 2 ^ r := Int.pow_pos (by decide)
theorem two_split {r : Nat} (hr : r ≤ 32) : ∃ p' : Int, 0 < p' ∧ 2 ^ r * p' = 4294967296 :=
  ⟨2 ^ (32 - r), two_pos _, by rw [← Int.pow_add, show r + (32 - r) = 32 by omega]; decide⟩
theorem sh_low {q : Int} {r : Nat} (hr : r ≤ 32) (h0 : 0 ≤ q) (h1 : q < 4294967296) :
    0 ≤ (q * 2 ^ r) % 4294967296 ∧ (q * 2 ^ r) % 4294967296 + 2 ^ r ≤ 4294967296 ∧ (q * 2 ^ r) % 4294967296 % 2 ^ r = 0 ∧ 0 ≤ (q * 2 ^ r) / 4294967296 ∧ (q * 2 ^ r) / 4294967296 < 2 ^ r := by
  obtain ⟨p', hp', e⟩ := two_split hr
  have hp := two_pos r
  have e1 : (q * 2 ^ r) % 4294967296 = 2 ^ r * (q % p') := by
    conv => lhs; rw [← e]
    rw [Int.mul_comm q, Int.mul_emod_mul_of_pos _ _ hp]
  have h2 := Int.emod_nonneg q (show p' ≠ 0 by omega)
  have h3 := Int.emod_lt_of_pos q hp'
  have h4 : 2 ^ r * (q % p' + 1) ≤ 2 ^ r * p' := Int.mul_le_mul_of_nonneg_left (by omega) (Int.le_of_lt hp)
  have h5 : 0 ≤ 2 ^ r * (q % p') := Int.mul_nonneg (Int.le_of_lt hp) h2
  refine ⟨by omega, by rw [e1]; grind, by rw [e1]; exact Int.mul_emod_right _ _, Int.ediv_nonneg (Int.mul_nonneg h0 (Int.le_of_lt hp)) (by decide), ?_⟩
  rw [Int.ediv_lt_iff_lt_mul (by decide), Int.mul_comm]
  exact Int.mul_lt_mul_of_pos_left h1 hp
/-- shifting up under way: so many limbs of l have been put s limbs and r bits higher -/
structure ShU (l : List Int) (s r N i : Nat) (P : List Int) : Prop where
  len : P.length = N
  lim : Lim P
  val : lv P = 4294967296 ^ s * (2 ^ r * lv (l.take i))
  low : P.getD (s + i) 0 < 2 ^ r
  zero : ∀ j, s + i < j → P.getD j 0 = 0
theorem ShU.start (l : List Int) (s r N : Nat) : ShU l s r N 0 (List.replicate N 0) :=
  ⟨by simp, Lim.rep _, by rw [lv_rep]; simp [lv], by rw [Z.getD_rep]; exact two_pos r, fun j _ => Z.getD_rep _ _⟩
theorem ShU.or_ {l P : List Int} {s r N i : Nat} {q : Int} (h : ShU l s r N i P) (hr : r ≤ 32) (h0 : 0 ≤ q) (h1 : q < 4294967296) :
    bits .or .u32 (P.getD (s + i) 0) ((q * 2 ^ r) % 4294967296) = P.getD (s + i) 0 + (q * 2 ^ r) % 4294967296 := by
  obtain ⟨a1, a2, a3, _⟩ := sh_low hr h0 h1
  have := two_pos r
  exact or_low _ _ r hr (h.lim.at_ _).1 h.low a1 a3 (by omega)
theorem ShU.step {l P : List Int} {s r N i : Nat} {q : Int} (h : ShU l s r N i P) (hr : r ≤ 32) (hi : s + i + 1 < N) (hq : l.getD i 0 = q) (h0 : 0 ≤ q) (h1 : q < 4294967296) :
    ShU l s r N (i + 1) ((P.set (s + i) (P.getD (s + i) 0 + (q * 2 ^ r) % 4294967296)).set (s + i + 1) ((q * 2 ^ r) / 4294967296)) := by
  obtain ⟨a1, a2, a3, a4, a5⟩ := sh_low hr h0 h1
  have b := h.lim.at_ (s + i)
  have hlow := h.low
  have h32 : (2 : Int) ^ r ≤ 4294967296 := by omega
  have hl1 : (P.set (s + i) (P.getD (s + i) 0 + (q * 2 ^ r) % 4294967296)).length = N := by simp [h.len]
  have hP : s + i < P.length := by rw [h.len]; omega
  refine ⟨by simp [h.len], (h.lim.set _ (by omega) (by omega)).set _ a4 (by omega), ?_, ?_, fun j hj => ?_⟩
  · rw [lv_set _ _ _ (by omega), lv_set _ _ _ hP, getD_set hP, if_neg (by omega), h.zero (s + i + 1) (by omega), lv_take_succ, hq, h.val]
    have e := Int.emod_add_mul_ediv (q * 2 ^ r) 4294967296
    have e2 : (4294967296 : Int) ^ (s + i) * ((q * 2 ^ r) % 4294967296 + 4294967296 * ((q * 2 ^ r) / 4294967296)) = 4294967296 ^ (s + i) * (q * 2 ^ r) := by rw [e]
    rw [Int.pow_succ]
    rw [Int.pow_add] at e2 ⊢
    grind
  · rw [getD_set (by omega), if_pos (by omega)]; exact a5
  · rw [getD_set (by omega), if_neg (by omega), getD_set hP, if_neg (by omega)]; exact h.zero _ (by omega)
/-- shifting down under way -/
structure ShD (l : List Int) (s r N i : Nat) (P : List Int) : Prop where
  len : P.length = N
  lim : Lim P
  val : lv (P.take i) + 4294967296 ^ i * (lv (l.drop (s + i)) / 2 ^ r) = lv (l.drop s) / 2 ^ r
theorem ShD.start (l : List Int) (s r N : Nat) : ShD l s r N 0 (List.replicate N 0) := ⟨by simp, Lim.rep _, by simp [lv]⟩
theorem down_limb {r : Nat} (hr : r ≤ 32) {a a' D : Int} (h0 : 0 ≤ a) (h1 : a < 4294967296) (h2 : 0 ≤ a') (h3 : a' < 4294967296) :
    (a + 4294967296 * (a' + 4294967296 * D)) / 2 ^ r = ((a + 4294967296 * a') / 2 ^ r) % 4294967296 + 4294967296 * ((a' + 4294967296 * D) / 2 ^ r) := by
  obtain ⟨p', hp', e⟩ := two_split hr
  have hp := two_pos r
  generalize (2 : Int) ^ r = p at *
  have hpn : p ≠ 0 := by omega
  have e1 : (a + 4294967296 * a') / p = a / p + p' * a' := by
    rw [← e, Int.mul_assoc, Int.add_mul_ediv_left _ _ hpn]
  have e2 : (a + 4294967296 * (a' + 4294967296 * D)) / p = a / p + p' * (a' + 4294967296 * D) := by
    conv => lhs; rw [← e, Int.mul_assoc, Int.add_mul_ediv_left _ _ hpn]
    rw [e]
  have e3 : (a' + 4294967296 * D) / p = a' / p + p' * D := by
    rw [← e, Int.mul_assoc, Int.add_mul_ediv_left _ _ hpn]
  have e4 := Int.emod_add_mul_ediv a' p
  have v0 := Int.emod_nonneg a' hpn
  have v1 := Int.emod_lt_of_pos a' hp
  have w0 : 0 ≤ a / p := Int.ediv_nonneg h0 (Int.le_of_lt hp)
  have w1 : a / p < p' := by rw [Int.ediv_lt_iff_lt_mul hp, Int.mul_comm, e]; exact h1
  have e5 : (a + 4294967296 * a') / p % 4294967296 = a / p + p' * (a' % p) := by
    rw [e1]
    have : a / p + p' * a' = (a / p + p' * (a' % p)) + 4294967296 * (a' / p) := by rw [← e]; grind
    rw [this, Int.add_mul_emod_self_left]
    refine Int.emod_eq_of_lt (Int.add_nonneg w0 (Int.mul_nonneg (Int.le_of_lt hp') v0)) ?_
    have : p' * (a' % p + 1) ≤ p' * p := Int.mul_le_mul_of_nonneg_left (by omega) (Int.le_of_lt hp')
    rw [← e]; grind
  rw [e5, e2, e3, ← e]
  grind
theorem ShD.step {l P : List Int} {s r N i : Nat} {a a' : Int} (h : ShD l s r N i P) (hl : Lim l) (hr : r ≤ 32) (hi : i < N) (hN : N = l.length - s) (ha : l.getD (s + i) 0 = a) (ha' : l.getD (s + i + 1) 0 = a') :
    ShD l s r N (i + 1) (P.set i (((a + 4294967296 * a') / 2 ^ r) % 4294967296)) := by
  have b := hl.at_ (s + i)
  have b' := hl.at_ (s + i + 1)
  rw [ha] at b
  rw [ha'] at b'
  refine ⟨by simp [h.len], h.lim.set _ (Int.emod_nonneg _ (by decide)) (Int.emod_lt_of_pos _ (by decide)), ?_⟩
  rw [lv_take_succ, getD_set (by rw [h.len]; exact hi), if_pos rfl, List.take_set_of_le (Nat.le_refl _), ← h.val, Int.pow_succ]
  have e1 := lv_drop (L := l) (s + i) (by omega)
  have e2 : lv (l.drop (s + i + 1)) = a' + 4294967296 * lv (l.drop (s + i + 1 + 1)) := by
    rcases Nat.lt_or_ge (s + i + 1) l.length with h | h
    · rw [lv_drop _ h, ha']
    · rw [List.drop_of_length_le h, List.drop_of_length_le (by omega), ← ha', Z.getD_out h]; rfl
  rw [ha, e2] at e1
  rw [show s + (i + 1) = s + i + 1 by omega, e2, e1, down_limb hr b.1 b.2 b'.1 b'.2]
  grind
theorem lv_div (l : List Int) (hl : Lim l) (s : Nat) (hs : s ≤ l.length) : lv (l.drop s) = lv l / 4294967296 ^ s := by
  have h := lv_cut l s hs
  have h1 := lv_lt (hl.take s)
  rw [List.length_take, Nat.min_eq_left hs] at h1
  have h2 := lv_nonneg (hl.take s)
  rw [h, Int.add_mul_ediv_left _ _ (by have := pow_pos s; omega), Int.ediv_eq_zero_of_lt h2 h1]; omega
theorem pow_n (n : Nat) : (2 : Int) ^ n = 4294967296 ^ (n / 32) * 2 ^ (n % 32) := by
  rw [pow_two, ← Int.pow_add, show 32 * (n / 32) + n % 32 = n by omega]
theorem ShU.done {l P : List Int} {n N : Nat} (h : ShU l (n / 32) (n % 32) N l.length P) : lv P = lv l * 2 ^ n := by
  rw [h.val, List.take_length, pow_n n]; grind
theorem ShD.done {l P : List Int} {n N : Nat} (hl : Lim l) (hN : N = l.length - n / 32) (hs : n / 32 ≤ l.length) (h : ShD l (n / 32) (n % 32) N N P) : lv P = lv l / 2 ^ n := by
  have := h.val
  rw [lv_take_all (by rw [h.len]; exact Nat.le_refl _), List.drop_of_length_le (by omega)] at this
  rw [pow_n, ← Int.ediv_ediv_of_nonneg (Int.le_of_lt (pow_pos _)), ← lv_div l hl _ hs, ← this]
  simp [lv]
theorem down_none {l : List Int} (hl : Lim l) {n : Nat} (h : l.length ≤ n / 32) : lv l / 2 ^ n = 0 := by
  refine Int.ediv_eq_zero_of_lt (lv_nonneg hl) (Int.lt_of_lt_of_le (lv_lt hl) ?_)
  rw [pow_n]
  have h1 := pow_mono h
  have h2 : (4294967296 : Int) ^ (n / 32) * 1 ≤ 4294967296 ^ (n / 32) * 2 ^ (n % 32) := Int.mul_le_mul_of_nonneg_left (by have := two_pos (n % 32); omega) (Int.le_of_lt (pow_pos _))
  omega
end Go.Proofs.YtjihapnplfdmmaaDoor.L
