/-
  Texts glued together for a claim: O3 O4 I2.
-/
import Derived.Test.YtejglcpiihkenaaGreatDoorF13
import Derived.Test.YtejglcpiihkenaaGreatDoorF9
import Derived.Test.YtejglcpiihkenaaGreatDoorF10
/-
  The reference: CutTo.
-/
namespace Go.Proofs.YtejglcpiihkenaaGreatDoor
set_option linter.unusedVariables false
set_option linter.unusedSimpArgs false
open Go.RowKit
set_option linter.unusedVariables false
set_option linter.unusedSimpArgs false
namespace QC
open Z (Nz Tz cmpv big)
open ZC DC
/-- is it rounded up? -/
def ug (mode : Int) (neg : Bool) (near odd : Int) : Bool :=
  if near = 0 ∧ mode = 4 then !neg else if near = 0 ∧ mode = 0 then decide (0 < odd) else decide (mode = 1) || (decide (mode = 3) && neg) || ((decide (mode = 0) || decide (mode = 4)) && decide (0 < near))
def cutv (z1 P mode : Int) : Int := z1 / P + (if ug mode (decide (z1 < 0)) (cmpv (z1 % P + z1 % P) P) (z1 / P % 2) = true then 1 else 0)
/-- what CutTo tells -/
def RetCu (w : World) (q : Value) (places z1 P mode : Int) (e : Ending) (w' : World) : Prop :=
  (z1 % P = 0 → e = .returned (.tuple #[q, .bool false]) ∧ Below w.heap.size w w') ∧
  (z1 % P ≠ 0 → ∃ b A n c, e = .returned (.tuple #[.agg #[.bool b, .slice A n c, .int .i64 (mkt places)], .bool true]) ∧ ZL w' b A n c (mkz (cutv z1 P mode) places) ∧ Below w.heap.size w w')
theorem big_slt {n m : Nat} (h : n < m) : big n < big m := by unfold big; exact Nat.pow_lt_pow_right (by decide) h
theorem pow_big (k : Nat) {N : Nat} (h : k ≤ N) (hN : N ≠ 0) : ((2 : Int) ^ k).natAbs < big N := pow2_bigN k N h hN
end QC
end Go.Proofs.YtejglcpiihkenaaGreatDoor

/-
  The reference: CutTo tells what Cut tells.
-/
namespace Go.Proofs.YtejglcpiihkenaaGreatDoor
set_option linter.unusedVariables false
set_option linter.unusedSimpArgs false
open Go.RowKit
set_option linter.unusedVariables false
set_option linter.unusedSimpArgs false
namespace QC
open Z (Nz Tz cmpv big)
open ZC DC RC
def cz (m x places : Int) : Int := mkz (mkz m x) (-places - mkt x)
def ct (x places : Int) : Int := mkt (-places - mkt x)
theorem cut_same (m x places : Int) (h : m = 0 ∨ places ≤ x) : cz m x places % 2 ^ (ct x places).toNat = 0 := by
  unfold cz ct
  rcases h with rfl | h
  · have : ∀ e, mkz 0 e = 0 := fun e => by unfold mkz; split <;> simp
    rw [this, this]; simp
  · by_cases hx : 0 ≤ x
    · have e1 : mkt x = 0 := by unfold mkt; rw [if_pos hx]
      have e2 : mkz m x = m * 2 ^ x.toNat := by unfold mkz; rw [if_pos hx]
      rw [e1, e2]
      by_cases hp : 0 ≤ -places - 0
      · have e3 : mkt (-places - 0) = 0 := by unfold mkt; rw [if_pos hp]
        rw [e3]; simp [Int.emod_one]
      · have e3 : mkt (-places - 0) = places := by unfold mkt; rw [if_neg hp]; omega
        have e4 : mkz (m * 2 ^ x.toNat) (-places - 0) = m * 2 ^ x.toNat := by unfold mkz; rw [if_neg hp]
        rw [e3, e4]
        obtain ⟨j, hj⟩ : ∃ j, x.toNat = places.toNat + j := ⟨x.toNat - places.toNat, by omega⟩
        rw [hj, Int.pow_add, ← Int.mul_assoc, Int.mul_assoc m, Int.mul_comm (2 ^ places.toNat), ← Int.mul_assoc]
        exact Int.mul_emod_left _ _
    · have e1 : mkt x = -x := by unfold mkt; rw [if_neg hx]
      have e3 : mkt (-places - -x) = 0 := by unfold mkt; rw [if_pos (by omega)]
      rw [e1, e3]; simp [Int.emod_one]
theorem cut_lost {m x places : Int} (h : x < places) : ∃ k j : Nat, (k : Int) = places - x ∧ cz m x places = m * 2 ^ j ∧ (2 : Int) ^ (ct x places).toNat = 2 ^ k * 2 ^ j := by
  refine ⟨(places - x).toNat, x.toNat, by omega, ?_⟩
  unfold cz ct
  by_cases hx : 0 ≤ x
  · have e1 : mkt x = 0 := by unfold mkt; rw [if_pos hx]
    have e2 : mkz m x = m * 2 ^ x.toNat := by unfold mkz; rw [if_pos hx]
    have hp : ¬ 0 ≤ -places - 0 := by omega
    have e3 : mkt (-places - 0) = places := by unfold mkt; rw [if_neg hp]; omega
    have e4 : mkz (m * 2 ^ x.toNat) (-places - 0) = m * 2 ^ x.toNat := by unfold mkz; rw [if_neg hp]
    rw [e1, e2, e3, e4]
    refine ⟨rfl, ?_⟩
    rw [← Int.pow_add]
    congr 1; omega
  · have e1 : mkt x = -x := by unfold mkt; rw [if_neg hx]
    have e2 : mkz m x = m := by unfold mkz; rw [if_neg hx]
    have hp : ¬ 0 ≤ -places - -x := by omega
    have e3 : mkt (-places - -x) = places - x := by unfold mkt; rw [if_neg hp]; omega
    have e4 : mkz m (-places - -x) = m := by unfold mkz; rw [if_neg hp]
    rw [e1, e2, e3, e4, show x.toNat = 0 by omega]
    simp
theorem ug_up (neg odd h m : Bool) (mode near od : Int) (hm : 0 ≤ mode ∧ mode ≤ 4) (hne : ¬ (h = false ∧ m = false))
    (hn : near = if neg = true then (if h = true then (if m = true then -1 else 0) else 1) else (if h = true then (if m = true then 1 else 0) else -1))
    (ho : od = if (neg == odd) = true then 0 else 1) : ug mode neg near od = if neg = true then !(RC.up neg odd h m mode) else RC.up neg odd h m mode := by
  subst hn
  subst ho
  have hm5 : mode = 0 ∨ mode = 1 ∨ mode = 2 ∨ mode = 3 ∨ mode = 4 := by omega
  rcases hm5 with rfl | rfl | rfl | rfl | rfl <;> cases neg <;> cases odd <;> cases h <;> cases m <;> first | (exact absurd (And.intro rfl rfl) hne) | rfl
/-- a's double over 2^k, k at least 1 -/
theorem dbl (a : Int) (k : Nat) (hk : 0 < k) (ha : 0 ≤ a) : ∃ ρ, 2 * a = sh a (1 - (k : Int)) * 2 ^ k + ρ ∧ 0 ≤ ρ ∧ ρ < 2 ^ k ∧ lo a (1 - (k : Int)) = decide (ρ ≠ 0) ∧ ρ % 2 = 0 := by
  obtain ⟨i, rfl⟩ : ∃ i, k = i + 1 := ⟨k - 1, by omega⟩
  unfold sh lo
  by_cases h : 0 ≤ 1 - ((i + 1 : Nat) : Int)
  · obtain rfl : i = 0 := by omega
    rw [if_pos h, if_pos h]
    refine ⟨0, ?_, by omega, by decide, by simp, rfl⟩
    simp; omega
  · rw [if_neg h, if_neg h]
    rw [show (-(1 - ((i + 1 : Nat) : Int))).toNat = i by omega, Int.pow_succ]
    have e := Int.emod_add_mul_ediv a (2 ^ i)
    have hp := two_pos' i
    have e3 := Int.emod_nonneg a (Int.ne_of_gt hp)
    have e4 := Int.emod_lt_of_pos a hp
    generalize a % 2 ^ i = r at *
    generalize a / 2 ^ i = q at *
    generalize (2 : Int) ^ i = C at *
    refine ⟨2 * r, ?_, by omega, by omega, ?_, by omega⟩
    · rw [← e]; grind
    · apply decide_eq_decide.2; omega
theorem div_uniq {a B q r : Int} (hB : 0 < B) (h : a = q * B + r) (h0 : 0 ≤ r) (h1 : r < B) : a / B = q ∧ a % B = r := by
  subst h
  constructor
  · rw [Int.add_comm, Int.add_mul_ediv_right _ _ (by omega), Int.ediv_eq_zero_of_lt h0 h1]; omega
  · rw [Int.add_comm, Int.add_mul_emod_self_right]
    exact Int.emod_eq_of_lt h0 h1
theorem cmpv_mul {x y C : Int} (hC : 0 < C) : cmpv (x * C) (y * C) = cmpv x y := by
  rcases Int.lt_trichotomy x y with h | h | h
  · rw [Z.cmpv_lt h, Z.cmpv_lt (Int.mul_lt_mul_of_pos_right h hC)]
  · rw [Z.cmpv_eq h, Z.cmpv_eq (by rw [h])]
  · rw [Z.cmpv_gt h, Z.cmpv_gt (Int.mul_lt_mul_of_pos_right h hC)]
theorem cut_tell {d : Dy} {places mode : Int} (g : Ok d) (hm : 0 ≤ mode ∧ mode ≤ 4) (hs : ¬ (d.m = 0 ∨ places ≤ d.x)) :
    cz d.m d.x places % 2 ^ (ct d.x places).toNat ≠ 0 ∧ cutv (cz d.m d.x places) (2 ^ (ct d.x places).toNat) mode = sgm (ng d) (cq d places mode) := by
  have hx : d.x < places := by omega
  obtain ⟨k, j, hk, e1, e2⟩ := cut_lost (m := d.m) hx
  rw [e1, e2]
  have hk0 : 0 < k := by omega
  have hm0 : d.m ≠ 0 := fun h => hs (.inl h)
  have hodd : d.m % 2 = 1 := by
    rcases g.2.1 with h | h
    · exact absurd h.1 hm0
    · exact h
  have hC := two_pos' j
  have hB := two_pos' k
  obtain ⟨B', hB'⟩ : ∃ B' : Int, (2 : Int) ^ k = 2 * B' := by
    obtain ⟨i, rfl⟩ : ∃ i, k = i + 1 := ⟨k - 1, by omega⟩
    exact ⟨2 ^ i, by rw [Int.pow_succ, Int.mul_comm]⟩
  obtain ⟨ρ, h1, h2, h3, h4, -⟩ := dbl (d.m.natAbs : Int) k hk0 (by omega)
  have hkk : 1 - (k : Int) = d.x - places + 1 := by omega
  rw [hkk] at h1 h4
  unfold cq
  rw [h4]
  generalize sh (d.m.natAbs : Int) (d.x - places + 1) = s at *
  generalize (2 : Int) ^ k = B at *
  generalize (2 : Int) ^ j = C at *
  have q1 : d.m * C / (B * C) = d.m / B := Int.mul_ediv_mul_of_pos_left _ _ hC
  have r1 : d.m * C % (B * C) = d.m % B * C := by rw [Int.mul_comm d.m, Int.mul_comm B, Int.mul_emod_mul_of_pos _ _ hC, Int.mul_comm]
  have n1 : decide (d.m * C < 0) = ng d := by
    unfold ng
    apply decide_eq_decide.2
    constructor
    · intro h
      rcases Int.lt_or_le d.m 0 with h5 | h5
      · exact h5
      · have := Int.mul_nonneg h5 (Int.le_of_lt hC); omega
    · intro h; exact Int.mul_neg_of_neg_of_pos h hC
  have c1 : ∀ r : Int, cmpv (r * C + r * C) (B * C) = cmpv (2 * r) B := fun r => by
    rw [← Int.add_mul, show r + r = 2 * r by omega]; exact cmpv_mul hC
  unfold cutv
  rw [q1, r1, n1, c1]
  obtain ⟨qa, hh, hs2, hh01⟩ : ∃ qa hh, s = 2 * qa + hh ∧ (hh = 0 ∨ hh = 1) := ⟨s / 2, s % 2, by omega, by omega⟩
  rw [show s / 2 = qa by omega, show s % 2 = hh by omega]
  obtain ⟨T, hT⟩ : ∃ T, qa * B' = T := ⟨_, rfl⟩
  have eT : s * B = 4 * T + 2 * (hh * B') := by rw [hs2, hB', ← hT]; grind
  have eT2 : qa * B = 2 * T := by rw [hB', ← hT]; grind
  rw [eT] at h1
  have hB0 : 0 < B' := by omega
  -- what is left
  have key : ∃ q r, d.m / B = q ∧ d.m % B = r ∧ r ≠ 0 ∧ cmpv (2 * r) B = (if ng d = true then (if decide (hh = 1) = true then (if decide (ρ ≠ 0) = true then -1 else 0) else 1) else (if decide (hh = 1) = true then (if decide (ρ ≠ 0) = true then 1 else 0) else -1)) ∧
      q % 2 = (if (ng d == decide (qa % 2 = 1)) = true then 0 else 1) ∧ q = (if ng d = true then -qa - 1 else qa) ∧ ¬ (decide (hh = 1) = false ∧ decide (ρ ≠ 0) = false) := by
    have hne : ¬ (decide (hh = 1) = false ∧ decide (ρ ≠ 0) = false) := by
      rintro ⟨k1, k2⟩
      have k1 := of_decide_eq_false k1
      have k2 := of_decide_eq_false k2
      have : hh = 0 := by omega
      subst this
      omega
    by_cases hn : d.m < 0
    · have ha : (d.m.natAbs : Int) = -d.m := by omega
      rw [ha] at h1
      have hng : ng d = true := decide_eq_true hn
      have e5 : d.m = (-qa - 1) * B + (B - (-d.m - 2 * T)) := by rw [Int.sub_mul, Int.neg_mul, eT2]; omega
      have hr : 0 ≤ B - (-d.m - 2 * T) ∧ B - (-d.m - 2 * T) < B ∧ B - (-d.m - 2 * T) ≠ 0 := by
        rcases hh01 with rfl | rfl <;> omega
      obtain ⟨u1, u2⟩ := div_uniq hB e5 hr.1 hr.2.1
      refine ⟨_, _, u1, u2, hr.2.2, ?_, ?_, ?_, hne⟩
      · rw [hng]
        rcases hh01 with rfl | rfl
        · rw [Z.cmpv_gt (by omega)]; simp
        · by_cases hp : ρ = 0
          · rw [Z.cmpv_eq (by omega)]; simp [hp]
          · rw [Z.cmpv_lt (by omega)]; simp [hp]
      · rw [hng]
        by_cases hq : qa % 2 = 1
        · rw [decide_eq_true hq]; simp; omega
        · rw [decide_eq_false hq]; simp; omega
      · rw [hng]; simp
    · have ha : (d.m.natAbs : Int) = d.m := by omega
      rw [ha] at h1
      have hng : ng d = false := decide_eq_false hn
      have e5 : d.m = qa * B + (d.m - 2 * T) := by rw [eT2]; omega
      have hr : 0 ≤ d.m - 2 * T ∧ d.m - 2 * T < B ∧ d.m - 2 * T ≠ 0 := by
        rcases hh01 with rfl | rfl <;> omega
      obtain ⟨u1, u2⟩ := div_uniq hB e5 hr.1 hr.2.1
      refine ⟨_, _, u1, u2, hr.2.2, ?_, ?_, ?_, hne⟩
      · rw [hng]
        rcases hh01 with rfl | rfl
        · rw [Z.cmpv_lt (by omega)]; simp
        · by_cases hp : ρ = 0
          · rw [Z.cmpv_eq (by omega)]; simp [hp]
          · rw [Z.cmpv_gt (by omega)]; simp [hp]
      · rw [hng]
        by_cases hq : qa % 2 = 1
        · rw [decide_eq_true hq]; simp; omega
        · rw [decide_eq_false hq]; simp; omega
      · rw [hng]; simp
  obtain ⟨q, r, u1, u2, u3, u4, u5, u6, u7⟩ := key
  rw [u1, u2]
  refine ⟨Int.mul_ne_zero u3 (Int.ne_of_gt hC), ?_⟩
  have hu := ug_up (ng d) (decide (qa % 2 = 1)) (decide (hh = 1)) (decide (ρ ≠ 0)) mode _ _ hm u7 u4 u5
  rw [hu, u6]
  generalize RC.up (ng d) (decide (qa % 2 = 1)) (decide (hh = 1)) (decide (ρ ≠ 0)) mode = u
  cases ng d <;> cases u <;> simp [sgm] <;> omega
theorem cr_same {d : Dy} {places mode : Int} (he : d.er = 0) (hm : 0 ≤ mode ∧ mode ≤ 4) (hp : -20000 ≤ places ∧ places ≤ 20000) (hs : d.m = 0 ∨ places ≤ d.x) : CR d places mode = ⟨0, d⟩ ∧ CL d places mode = false := by
  unfold CL
  refine ⟨?_, by rw [if_pos (.inr (.inr hs))]⟩
  unfold CR
  rw [if_neg (by simpa using he), if_neg (fun h => h ⟨hm, hp⟩), if_pos hs]
theorem cr_lost {d : Dy} {places mode : Int} (he : d.er = 0) (hm : 0 ≤ mode ∧ mode ≤ 4) (hp : -20000 ≤ places ∧ places ≤ 20000) (hs : ¬ (d.m = 0 ∨ places ≤ d.x)) : CR d places mode = fin (sgm (ng d) (cq d places mode)) places ∧ CL d places mode = decide ((CR d places mode).e = 0) := by
  unfold CL
  refine ⟨?_, by rw [if_neg (fun h => by rcases h with h | h | h; exact h he; exact h ⟨hm, hp⟩; exact hs h)]⟩
  unfold CR
  rw [if_neg (by simpa using he), if_neg (fun h => h ⟨hm, hp⟩), if_neg hs]
theorem dy_3 {d : Dy} {K : Nat} (hK : K = 12800) (g : Ok d) : d.m.natAbs < 2 ^ K := by
  have h := g.2.2.1
  have h2 := g.2.2.2.1
  have e : (4294967296 : Int) ^ 400 = 2 ^ K := by rw [hK]; exact lim_pow
  rw [e] at h h2
  exact lt_cast (by generalize (2 : Int) ^ K = P at *; omega)
theorem pow_s2 {a b : Nat} (h : b = a + 1) : 2 ^ b = 2 ^ a * 2 := by subst h; exact Nat.pow_succ _ _
theorem pow_lt2 {a b : Nat} (h : a < b) : 2 ^ a < 2 ^ b := Nat.pow_lt_pow_right (by decide) h
theorem dy_lt {d : Dy} (g : Ok d) : (mkz d.m d.x).natAbs < 2 ^ 22800 := by
  have h3 := dy_3 rfl g
  have h4 := mkz_lt (E := 10000) h3 (show d.x ≤ 10000 from g.2.2.2.2.2)
  rwa [show 12800 + 10000 = 22800 from rfl] at h4
def RetCC (w : World) (r : Re) (l : Bool) (e : Ending) (w' : World) : Prop :=
  ∃ b A n c t z k, e = .returned (.tuple #[.agg #[.bool b, .slice A n c, .int .i64 t], .bool k]) ∧ ZL w' b A n c z ∧ z.natAbs < 2 ^ 70000 ∧ 0 ≤ t ∧ t ≤ 20000 ∧ r = fin z (-t) ∧ l = (k && decide (r.e = 0)) ∧ Below w.heap.size w w'
end QC
end Go.Proofs.YtejglcpiihkenaaGreatDoor

/-
  Plain mathematics: a number to a whole one (iw), by the document's own rule: what is whole is itself; it is no farther than 1; of what is more no less comes; down and up.
-/
namespace Go.Proofs.YtejglcpiihkenaaGreatDoor
set_option linter.unusedVariables false
set_option linter.unusedSimpArgs false
set_option linter.unusedVariables false
set_option linter.unusedSimpArgs false
namespace IC
open Z (cmpv)
open QC
/-- V over P as a whole number -/
def iw (V P mode : Int) : Int := if V % P = 0 then V / P else cutv V P mode
theorem iw_whole {P : Int} (hP : 0 < P) (n mode : Int) : iw (n * P) P mode = n := by
  unfold iw
  rw [if_pos (Int.mul_emod_left _ _), Int.mul_ediv_cancel _ (by omega)]
theorem iw_two (V P mode : Int) : iw V P mode = V / P ∨ (V % P ≠ 0 ∧ iw V P mode = V / P + 1) := by
  unfold iw cutv
  split
  · exact .inl rfl
  · rename_i h
    split
    · exact .inr ⟨h, rfl⟩
    · exact .inl (by omega)
theorem iw_near {V P : Int} (hP : 0 < P) (mode : Int) : -P < V - iw V P mode * P ∧ V - iw V P mode * P < P := by
  have e := Int.mul_ediv_add_emod V P
  have r0 := Int.emod_nonneg V (show P ≠ 0 by omega)
  have r1 := Int.emod_lt_of_pos V hP
  rw [Int.mul_comm] at e
  rcases iw_two V P mode with h | ⟨hr, h⟩
  · rw [h]; omega
  · rw [h, Int.add_mul, Int.one_mul]; omega
theorem cmpv_3 (a b : Int) : (cmpv a b = -1 ∧ a < b) ∨ (cmpv a b = 0 ∧ a = b) ∨ (cmpv a b = 1 ∧ b < a) := by
  unfold cmpv
  split
  · exact .inl ⟨rfl, by assumption⟩
  · split
    · exact .inr (.inr ⟨rfl, by assumption⟩)
    · exact .inr (.inl ⟨rfl, by omega⟩)
/-- which of both near ones: more left, no less comes -/
theorem ug_pos {mode near odd : Int} {neg : Bool} (h : 0 < near) (hm : mode = 0 ∨ mode = 4) : ug mode neg near odd = true := by
  have h0 : ¬ (near = 0) := by omega
  rcases hm with rfl | rfl <;> simp [ug, h0, h]
theorem ug_neg {mode near odd : Int} {neg : Bool} (h : near < 0) (hm : mode = 0 ∨ mode = 4) : ug mode neg near odd = false := by
  have h0 : ¬ (near = 0) := by omega
  have h1 : near ≤ 0 := by omega
  rcases hm with rfl | rfl <;> simp [ug, h0, h1]
theorem ug_mono {mode near near' odd : Int} {neg : Bool} (h : near ≤ near') (hn : ug mode neg near odd = true) : ug mode neg near' odd = true := by
  by_cases hm : mode = 0 ∨ mode = 4
  · rcases Int.lt_or_le near 0 with h0 | h0
    · rw [ug_neg h0 hm] at hn; simp at hn
    · rcases Int.lt_or_le 0 near' with h1 | h1
      · exact ug_pos h1 hm
      · rw [show near' = near by omega]; exact hn
  · have h0 : mode ≠ 0 := fun q => hm (.inl q)
    have h4 : mode ≠ 4 := fun q => hm (.inr q)
    simpa [ug, h0, h4] using hn
theorem cmpv_mono {a b c : Int} (h : a ≤ b) : cmpv a c ≤ cmpv b c := by
  rcases cmpv_3 a c with ⟨e, k⟩ | ⟨e, k⟩ | ⟨e, k⟩ <;> rcases cmpv_3 b c with ⟨e', k'⟩ | ⟨e', k'⟩ | ⟨e', k'⟩ <;> rw [e, e'] <;> omega
theorem iw_mono {V W P : Int} (hP : 0 < P) (h : V ≤ W) (mode : Int) : iw V P mode ≤ iw W P mode := by
  have hq : V / P ≤ W / P := Int.ediv_le_ediv hP h
  rcases Int.lt_or_eq_of_le hq with hq | hq
  · rcases iw_two V P mode with h1 | ⟨_, h1⟩ <;> rcases iw_two W P mode with h2 | ⟨_, h2⟩ <;> omega
  · have e := Int.mul_ediv_add_emod V P
    have e' := Int.mul_ediv_add_emod W P
    rw [hq] at e
    have r0 := Int.emod_nonneg V (show P ≠ 0 by omega)
    have hr : V % P ≤ W % P := by
      generalize P * (W / P) = t at e e'
      omega
    rcases iw_two V P mode with h1 | ⟨hv, h1⟩
    · rcases iw_two W P mode with h2 | ⟨_, h2⟩ <;> omega
    · have hw : W % P ≠ 0 := by omega
      have hneg : decide (V < 0) = decide (W < 0) := by
        rw [decide_eq_decide]
        constructor
        · intro hv0
          have : V / P < 0 := Int.ediv_neg_of_neg_of_pos hv0 hP
          rcases Int.lt_or_le W 0 with h0 | h0
          · exact h0
          · have := Int.ediv_nonneg h0 (Int.le_of_lt hP); omega
        · intro hw0; omega
      have hup : ug mode (decide (V < 0)) (cmpv (V % P + V % P) P) (V / P % 2) = true := by
        unfold iw cutv at h1
        rw [if_neg hv] at h1
        split at h1
        · assumption
        · omega
      have hup2 := ug_mono (cmpv_mono (c := P) (show V % P + V % P ≤ W % P + W % P by omega)) hup
      have : iw W P mode = W / P + 1 := by
        unfold iw cutv
        rw [if_neg hw, ← hneg, ← hq, if_pos hup2]
      omega
theorem iw_down {V P : Int} (hP : 0 < P) : iw V P 2 * P ≤ V := by
  have e := Int.mul_ediv_add_emod V P
  have r0 := Int.emod_nonneg V (show P ≠ 0 by omega)
  have h : iw V P 2 = V / P := by
    unfold iw cutv ug
    split
    · rfl
    · simp
  rw [h, Int.mul_comm]; omega
theorem iw_up {V P : Int} (hP : 0 < P) : V ≤ iw V P 1 * P := by
  have e := Int.mul_ediv_add_emod V P
  have r1 := Int.emod_lt_of_pos V hP
  by_cases hr : V % P = 0
  · have h : iw V P 1 = V / P := by unfold iw; rw [if_pos hr]
    rw [h, Int.mul_comm]; omega
  · have h : iw V P 1 = V / P + 1 := by
      unfold iw cutv ug
      rw [if_neg hr]; simp
    rw [h, Int.add_mul, Int.one_mul, Int.mul_comm]; omega
theorem iw_scale {V P C : Int} (hP : 0 < P) (hC : 0 < C) (mode : Int) : iw (V * C) (P * C) mode = iw V P mode := by
  have e1 : V * C / (P * C) = V / P := by rw [Int.mul_ediv_mul_of_pos_left _ _ hC]
  have e2 : V * C % (P * C) = V % P * C := by rw [Int.mul_comm V, Int.mul_comm P, Int.mul_emod_mul_of_pos _ _ hC, Int.mul_comm]
  have e3 : (V % P * C = 0) ↔ (V % P = 0) := by
    constructor
    · intro h; rcases Int.mul_eq_zero.1 h with h | h <;> omega
    · intro h; rw [h, Int.zero_mul]
  have e4 : decide (V * C < 0) = decide (V < 0) := by
    rw [decide_eq_decide]
    constructor
    · intro h
      rcases Int.lt_or_le V 0 with h0 | h0
      · exact h0
      · have := Int.mul_nonneg h0 (Int.le_of_lt hC); omega
    · intro h; exact Int.mul_neg_of_neg_of_pos h hC
  have e5 : cmpv (V % P * C + V % P * C) (P * C) = cmpv (V % P + V % P) P := by rw [← Int.add_mul]; exact cmpv_mul hC
  unfold iw cutv
  rw [e1, e2, e4, e5]
  by_cases h : V % P = 0
  · rw [if_pos h, if_pos (e3.2 h)]
  · rw [if_neg h, if_neg (fun q => h (e3.1 q))]
/-- what is lost, scaled -/
theorem lost_scale {V P C : Int} (hC : 0 < C) : (V * C % (P * C) = 0) ↔ (V % P = 0) := by
  rw [Int.mul_comm V, Int.mul_comm P, Int.mul_emod_mul_of_pos _ _ hC, Int.mul_comm C]
  constructor
  · intro h; rcases Int.mul_eq_zero.1 h with h | h <;> omega
  · intro h; rw [h, Int.zero_mul]
end IC
end Go.Proofs.YtejglcpiihkenaaGreatDoor

