/-
  The reference: CutTo tells what Cut tells.
-/
import Derived.Test.YtpmpkllpaceloaaDoorO2
import Derived.Test.YtpmpkllpaceloaaDoorO3
import Derived.Test.YtpmpkllpaceloaaDoorR10
namespace Go.Proofs.YtpmpkllpaceloaaDoor
set_option linter.unusedVariables false
set_option linter.unusedSimpArgs false
open Go.RowKit
set_option linter.unusedVariables false
set_option linter.unusedSimpArgs false
namespace QC
open Z (Nz Tz cmpv big)
open ZC DC RC
def cz (m x places : Int) : Int := mkz (mkz m x) (-places - mkt x)
def ct (x places : Int) : Int := mkt (-places - mkt x)
theorem cut_lost {m x places : Int} (h : x < places) : ∃ k j : Nat, (k : Int) = places - x ∧ cz m x places = m * 2 ^ j ∧ (2 : Int) ^ (ct x places).toNat = 2 ^ k * 2 ^ j := by
  refine ⟨(places - x).toNat, x.toNat, by omega, ?_⟩
  unfold cz ct
  by_cases hx : 0 ≤ x
  · have e1 : mkt x = 0 := by unfold mkt; rw [if_pos hx]
    have e2 : mkz m x = m * 2 ^ x.toNat := by unfold mkz; rw [if_pos hx]
    have hp : ¬ 0 ≤ -places - 0 := by omega
    have e3 : mkt (-places - 0) = places := by unfold mkt; rw [if_neg hp]; omega
    have e4 : mkz (m * 2 ^ x.toNat) (-places - 0) = m * 2 ^ x.toNat := by unfold mkz; rw [if_neg hp]
    rw [e1, e2, e3, e4]
    refine ⟨rfl, ?_⟩
    rw [← Int.pow_add]
    congr 1; omega
  · have e1 : mkt x = -x := by unfold mkt; rw [if_neg hx]
    have e2 : mkz m x = m := by unfold mkz; rw [if_neg hx]
    have hp : ¬ 0 ≤ -places - -x := by omega
    have e3 : mkt (-places - -x) = places - x := by unfold mkt; rw [if_neg hp]; omega
    have e4 : mkz m (-places - -x) = m := by unfold mkz; rw [if_neg hp]
    rw [e1, e2, e3, e4, show x.toNat = 0 by omega]
    simp
theorem ug_up (neg odd h m : Bool) (mode near od : Int) (hm : 0 ≤ mode ∧ mode ≤ 4) (hne : ¬ (h = false ∧ m = false))
    (hn : near = if neg = true then (if h = true then (if m = true then -1 else 0) else 1) else (if h = true then (if m = true then 1 else 0) else -1))
    (ho : od = if (neg == odd) = true then 0 else 1) : ug mode neg near od = if neg = true then !(RC.up neg odd h m mode) else RC.up neg odd h m mode := by
  subst hn
  subst ho
  have hm5 : mode = 0 ∨ mode = 1 ∨ mode = 2 ∨ mode = 3 ∨ mode = 4 := by omega
  rcases hm5 with rfl | rfl | rfl | rfl | rfl <;> cases neg <;> cases odd <;> cases h <;> cases m <;> first | (exact absurd (And.intro rfl rfl) hne) | rfl
/-- a's double over 2^k, k at least 1 -/
theorem dbl (a : Int) (k : Nat) (hk : 0 < k) (ha : 0 ≤ a) : ∃ ρ, 2 * a = sh a (1 - (k : Int)) * 2 ^ k + ρ ∧ 0 ≤ ρ ∧ ρ < 2 ^ k ∧ lo a (1 - (k : Int)) = decide (ρ ≠ 0) ∧ ρ % 2 = 0 := by
  obtain ⟨i, rfl⟩ : ∃ i, k = i + 1 := ⟨k - 1, by omega⟩
  unfold sh lo
  by_cases h : 0 ≤ 1 - ((i + 1 : Nat) : Int)
  · obtain rfl : i = 0 := by omega
    rw [if_pos h, if_pos h]
    refine ⟨0, ?_, by omega, by decide, by simp, rfl⟩
    simp; omega
  · rw [if_neg h, if_neg h]
    rw [show (-(1 - ((i + 1 : Nat) : Int))).toNat = i by omega, Int.pow_succ]
    have e := Int.emod_add_mul_ediv a (2 ^ i)
    have hp := two_pos' i
    have e3 := Int.emod_nonneg a (Int.ne_of_gt hp)
    have e4 := Int.emod_lt_of_pos a hp
    generalize a % 2 ^ i = r at *
    generalize a / 2 ^ i = q at *
    generalize (2 : Int) ^ i = C at *
    refine ⟨2 * r, ?_, by omega, by omega, ?_, by omega⟩
    · rw [← e]; grind
    · apply decide_eq_decide.2; omega
theorem div_uniq {a B q r : Int} (hB : 0 < B) (h : a = q * B + r) (h0 : 0 ≤ r) (h1 : r < B) : a / B = q ∧ a % B = r := by
  subst h
  constructor
  · rw [Int.add_comm, Int.add_mul_ediv_right _ _ (by omega), Int.ediv_eq_zero_of_lt h0 h1]; omega
  · rw [Int.add_comm, Int.add_mul_emod_self_right]
    exact Int.emod_eq_of_lt h0 h1
theorem cmpv_mul {x y C : Int} (hC : 0 < C) : cmpv (x * C) (y * C) = cmpv x y := by
  rcases Int.lt_trichotomy x y with h | h | h
  · rw [Z.cmpv_lt h, Z.cmpv_lt (Int.mul_lt_mul_of_pos_right h hC)]
  · rw [Z.cmpv_eq h, Z.cmpv_eq (by rw [h])]
  · rw [Z.cmpv_gt h, Z.cmpv_gt (Int.mul_lt_mul_of_pos_right h hC)]
theorem cut_tell {d : Dy} {places mode : Int} (g : Ok d) (hm : 0 ≤ mode ∧ mode ≤ 4) (hs : ¬ (d.m = 0 ∨ places ≤ d.x)) :
    cz d.m d.x places % 2 ^ (ct d.x places).toNat ≠ 0 ∧ cutv (cz d.m d.x places) (2 ^ (ct d.x places).toNat) mode = sgm (ng d) (cq d places mode) := by
  have hx : d.x < places := by omega
  obtain ⟨k, j, hk, e1, e2⟩ := cut_lost (m := d.m) hx
  rw [e1, e2]
  have hk0 : 0 < k := by omega
  have hm0 : d.m ≠ 0 := fun h => hs (.inl h)
  have hodd : d.m % 2 = 1 := by
    rcases g.2.1 with h | h
    · exact absurd h.1 hm0
    · exact h
  have hC := two_pos' j
  have hB := two_pos' k
  obtain ⟨B', hB'⟩ : ∃ B' : Int, (2 : Int) ^ k = 2 * B' := by
    obtain ⟨i, rfl⟩ : ∃ i, k = i + 1 := ⟨k - 1, by omega⟩
    exact ⟨2 ^ i, by rw [Int.pow_succ, Int.mul_comm]⟩
  obtain ⟨ρ, h1, h2, h3, h4, -⟩ := dbl (d.m.natAbs : Int) k hk0 (by omega)
  have hkk : 1 - (k : Int) = d.x - places + 1 := by omega
  rw [hkk] at h1 h4
  unfold cq
  rw [h4]
  generalize sh (d.m.natAbs : Int) (d.x - places + 1) = s at *
  generalize (2 : Int) ^ k = B at *
  generalize (2 : Int) ^ j = C at *
  have q1 : d.m * C / (B * C) = d.m / B := Int.mul_ediv_mul_of_pos_left _ _ hC
  have r1 : d.m * C % (B * C) = d.m % B * C := by rw [Int.mul_comm d.m, Int.mul_comm B, Int.mul_emod_mul_of_pos _ _ hC, Int.mul_comm]
  have n1 : decide (d.m * C < 0) = ng d := by
    unfold ng
    apply decide_eq_decide.2
    constructor
    · intro h
      rcases Int.lt_or_le d.m 0 with h5 | h5
      · exact h5
      · have := Int.mul_nonneg h5 (Int.le_of_lt hC); omega
    · intro h; exact Int.mul_neg_of_neg_of_pos h hC
  have c1 : ∀ r : Int, cmpv (r * C + r * C) (B * C) = cmpv (2 * r) B := fun r => by
    rw [← Int.add_mul, show r + r = 2 * r by omega]; exact cmpv_mul hC
  unfold cutv
  rw [q1, r1, n1, c1]
  obtain ⟨qa, hh, hs2, hh01⟩ : ∃ qa hh, s = 2 * qa + hh ∧ (hh = 0 ∨ hh = 1) := ⟨s / 2, s % 2, by omega, by omega⟩
  rw [show s / 2 = qa by omega, show s % 2 = hh by omega]
  obtain ⟨T, hT⟩ : ∃ T, qa * B' = T := ⟨_, rfl⟩
  have eT : s * B = 4 * T + 2 * (hh * B') := by rw [hs2, hB', ← hT]; grind
  have eT2 : qa * B = 2 * T := by rw [hB', ← hT]; grind
  rw [eT] at h1
  have hB0 : 0 < B' := by omega
  -- what is left
  have key : ∃ q r, d.m / B = q ∧ d.m % B = r ∧ r ≠ 0 ∧ cmpv (2 * r) B = (if ng d = true then (if decide (hh = 1) = true then (if decide (ρ ≠ 0) = true then -1 else 0) else 1) else (if decide (hh = 1) = true then (if decide (ρ ≠ 0) = true then 1 else 0) else -1)) ∧
      q % 2 = (if (ng d == decide (qa % 2 = 1)) = true then 0 else 1) ∧ q = (if ng d = true then -qa - 1 else qa) ∧ ¬ (decide (hh = 1) = false ∧ decide (ρ ≠ 0) = false) := by
    have hne : ¬ (decide (hh = 1) = false ∧ decide (ρ ≠ 0) = false) := by
      rintro ⟨k1, k2⟩
      have k1 := of_decide_eq_false k1
      have k2 := of_decide_eq_false k2
      have : hh = 0 := by omega
      subst this
      omega
    by_cases hn : d.m < 0
    · have ha : (d.m.natAbs : Int) = -d.m := by omega
      rw [ha] at h1
      have hng : ng d = true := decide_eq_true hn
      have e5 : d.m = (-qa - 1) * B + (B - (-d.m - 2 * T)) := by rw [Int.sub_mul, Int.neg_mul, eT2]; omega
      have hr : 0 ≤ B - (-d.m - 2 * T) ∧ B - (-d.m - 2 * T) < B ∧ B - (-d.m - 2 * T) ≠ 0 := by
        rcases hh01 with rfl | rfl <;> omega
      obtain ⟨u1, u2⟩ := div_uniq hB e5 hr.1 hr.2.1
      refine ⟨_, _, u1, u2, hr.2.2, ?_, ?_, ?_, hne⟩
      · rw [hng]
        rcases hh01 with rfl | rfl
        · rw [Z.cmpv_gt (by omega)]; simp
        · by_cases hp : ρ = 0
          · rw [Z.cmpv_eq (by omega)]; simp [hp]
          · rw [Z.cmpv_lt (by omega)]; simp [hp]
      · rw [hng]
        by_cases hq : qa % 2 = 1
        · rw [decide_eq_true hq]; simp; omega
        · rw [decide_eq_false hq]; simp; omega
      · rw [hng]; simp
    · have ha : (d.m.natAbs : Int) = d.m := by omega
      rw [ha] at h1
      have hng : ng d = false := decide_eq_false hn
      have e5 : d.m = qa * B + (d.m - 2 * T) := by rw [eT2]; omega
      have hr : 0 ≤ d.m - 2 * T ∧ d.m - 2 * T < B ∧ d.m - 2 * T ≠ 0 := by
        rcases hh01 with rfl | rfl <;> omega
      obtain ⟨u1, u2⟩ := div_uniq hB e5 hr.1 hr.2.1
      refine ⟨_, _, u1, u2, hr.2.2, ?_, ?_, ?_, hne⟩
      · rw [hng]
        rcases hh01 with rfl | rfl
        · rw [Z.cmpv_lt (by omega)]; simp
        · by_cases hp : ρ = 0
          · rw [Z.cmpv_eq (by omega)]; simp [hp]
          · rw [Z.cmpv_gt (by omega)]; simp [hp]
      · rw [hng]
        by_cases hq : qa % 2 = 1
        · rw [decide_eq_true hq]; simp; omega
        · rw [decide_eq_false hq]; simp; omega
      · rw [hng]; simp
  obtain ⟨q, r, u1, u2, u3, u4, u5, u6, u7⟩ := key
  rw [u1, u2]
  refine ⟨Int.mul_ne_zero u3 (Int.ne_of_gt hC), ?_⟩
  have hu := ug_up (ng d) (decide (qa % 2 = 1)) (decide (hh = 1)) (decide (ρ ≠ 0)) mode _ _ hm u7 u4 u5
  rw [hu, u6]
  generalize RC.up (ng d) (decide (qa % 2 = 1)) (decide (hh = 1)) (decide (ρ ≠ 0)) mode = u
  cases ng d <;> cases u <;> simp [sgm] <;> omega
theorem cr_same {d : Dy} {places mode : Int} (he : d.er = 0) (hm : 0 ≤ mode ∧ mode ≤ 4) (hp : -20000 ≤ places ∧ places ≤ 20000) (hs : d.m = 0 ∨ places ≤ d.x) : CR d places mode = ⟨0, d⟩ ∧ CL d places mode = false := by
  unfold CL
  refine ⟨?_, by rw [if_pos (.inr (.inr hs))]⟩
  unfold CR
  rw [if_neg (by simpa using he), if_neg (fun h => h ⟨hm, hp⟩), if_pos hs]
theorem cr_lost {d : Dy} {places mode : Int} (he : d.er = 0) (hm : 0 ≤ mode ∧ mode ≤ 4) (hp : -20000 ≤ places ∧ places ≤ 20000) (hs : ¬ (d.m = 0 ∨ places ≤ d.x)) : CR d places mode = fin (sgm (ng d) (cq d places mode)) places ∧ CL d places mode = decide ((CR d places mode).e = 0) := by
  unfold CL
  refine ⟨?_, by rw [if_neg (fun h => by rcases h with h | h | h; exact h he; exact h ⟨hm, hp⟩; exact hs h)]⟩
  unfold CR
  rw [if_neg (by simpa using he), if_neg (fun h => h ⟨hm, hp⟩), if_neg hs]
end QC
end Go.Proofs.YtpmpkllpaceloaaDoor
