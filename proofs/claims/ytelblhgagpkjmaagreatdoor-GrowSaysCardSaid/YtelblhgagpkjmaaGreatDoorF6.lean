/-
  Texts glued together for a claim: RPure N19 NK1 NK2 NK3 N20 NK4 D1 D2 NOf D3 D4.
-/
import Derived.Test.YtelblhgagpkjmaaGreatDoorF5
import Derived.Test.YtelblhgagpkjmaaGreatDoorF4
import Derived.Test.YtelblhgagpkjmaaGreatDoorF1
import Derived.Lib.TrailingZeros
import Derived.Deep.DeepCutAuto
/-
  Rounding, pure: the values of ranks, the greatest rank that is no more, what is left.
-/
namespace Go.Proofs.YtelblhgagpkjmaaGreatDoor
set_option linter.unusedVariables false
set_option linter.unusedSimpArgs false
open Go.RowKit
set_option linter.unusedVariables false
namespace RC
open L NC DC
/-- the value of a rank from 0 on, in units of 2^-1074, and the step to the next one -/
def V (r : Int) : Int := if r < 4503599627370496 then r else (r % 4503599627370496 + 4503599627370496) * 2 ^ (r / 4503599627370496 - 1).toNat
def G (r : Int) : Int := 2 ^ (r / 4503599627370496 - 1).toNat
theorem V_of {k : Nat} {q : Int} (h0 : 0 ≤ q) (h1 : q < 9007199254740992) (h2 : k = 0 ∨ 4503599627370496 ≤ q) : V (k * 4503599627370496 + q) = q * 2 ^ k ∧ G (k * 4503599627370496 + q) = 2 ^ k := by
  unfold V G
  by_cases hq : q < 4503599627370496
  · have hk : k = 0 := by omega
    subst hk
    rw [if_pos (by omega), show ((0 : Nat) * 4503599627370496 + q) / 4503599627370496 - 1 = -1 by omega]
    simp
  · rw [if_neg (by omega), show (k * 4503599627370496 + q) % 4503599627370496 + 4503599627370496 = q by omega, show ((k * 4503599627370496 + q) / 4503599627370496 - 1).toNat = k by omega]
    exact ⟨rfl, rfl⟩
/-- each rank by its unit -/
theorem r_parts {r : Int} (h : 0 ≤ r) : ∃ (k : Nat) (q : Int), r = k * 4503599627370496 + q ∧ 0 ≤ q ∧ q < 9007199254740992 ∧ (k = 0 ∨ 4503599627370496 ≤ q) := by
  by_cases h1 : r < 4503599627370496
  · exact ⟨0, r, by omega, h, by omega, .inl rfl⟩
  · refine ⟨(r / 4503599627370496 - 1).toNat, r % 4503599627370496 + 4503599627370496, ?_, by omega, by omega, .inr (by omega)⟩
    rw [Int.toNat_of_nonneg (by omega)]; omega
theorem V_step {r : Int} (h : 0 ≤ r) : V (r + 1) = V r + G r := by
  obtain ⟨k, q, rfl, h1, h2, h3⟩ := r_parts h
  obtain ⟨e1, e2⟩ := V_of h1 h2 h3
  rw [e1, e2]
  by_cases h4 : q + 1 < 9007199254740992
  · have e3 := (V_of (k := k) (q := q + 1) (by omega) h4 (by omega)).1
    rw [show (k : Int) * 4503599627370496 + q + 1 = k * 4503599627370496 + (q + 1) by omega, e3, Int.add_mul, Int.one_mul]
  · have hq : q = 9007199254740991 := by omega
    subst hq
    have e3 := (V_of (k := k + 1) (q := 4503599627370496) (by omega) (by omega) (by omega)).1
    rw [show (k : Int) * 4503599627370496 + 9007199254740991 + 1 = ((k + 1 : Nat) : Int) * 4503599627370496 + 4503599627370496 by omega, e3, Int.pow_succ]
    omega
theorem G_pos (r : Int) : 0 < G r := two_pos' _
theorem V_zero : V 0 = 0 := by unfold V; rw [if_pos (by omega)]
theorem V_pos {r : Int} (h : 0 ≤ r) : 0 ≤ V r := by
  obtain ⟨k, q, rfl, h1, h2, h3⟩ := r_parts h
  rw [(V_of h1 h2 h3).1]
  exact Int.mul_nonneg h1 (Int.le_of_lt (two_pos' k))
/-- the same, in very small units -/
def U (r : Int) : Int := sc (V r) (-1074)
def sg (r : Int) : Int := sc (G r) (-1074)
theorem sc_one_pos (x : Int) : 0 < sc 1 x := by unfold sc; rw [Int.one_mul]; exact two_pos' _
theorem sc_mul1 (m x : Int) : sc m x = m * sc 1 x := by unfold sc; rw [Int.one_mul]
theorem sg_pos (r : Int) : 0 < sg r := by unfold sg; rw [sc_mul1]; exact Int.mul_pos (G_pos r) (sc_one_pos _)
theorem U_step {r : Int} (h : 0 ≤ r) : U (r + 1) = U r + sg r := by unfold U sg; rw [V_step h, sc_add]
theorem U_zero : U 0 = 0 := by unfold U; rw [V_zero, sc_zero]
theorem U_pos {r : Int} (h : 0 ≤ r) : 0 ≤ U r := by unfold U; rw [sc_mul1]; exact Int.mul_nonneg (V_pos h) (Int.le_of_lt (sc_one_pos _))
theorem U_lt {r s : Int} (h : 0 ≤ r) (hs : r < s) : U r < U s := by
  obtain ⟨k, rfl⟩ : ∃ k : Nat, s = r + 1 + k := ⟨(s - r - 1).toNat, by omega⟩
  induction k with
  | zero => have := U_step h; have := sg_pos r; simp; omega
  | succ k ih =>
    have h1 := ih (by omega)
    have h2 := U_step (r := r + 1 + k) (by omega)
    have h3 := sg_pos (r + 1 + k)
    rw [show r + 1 + ((k + 1 : Nat) : Int) = r + 1 + k + 1 by omega]
    omega
theorem U_le {r s : Int} (h : 0 ≤ r) (hs : r ≤ s) : U r ≤ U s := by
  rcases Int.lt_or_eq_of_le hs with h1 | rfl
  · exact Int.le_of_lt (U_lt h h1)
  · exact Int.le_refl _
theorem U_of {k : Nat} {q : Int} (h0 : 0 ≤ q) (h1 : q < 9007199254740992) (h2 : k = 0 ∨ 4503599627370496 ≤ q) : U (k * 4503599627370496 + q) = q * sc 1 (k - 1074) ∧ U (k * 4503599627370496 + q + 1) = (q + 1) * sc 1 (k - 1074) := by
  obtain ⟨e1, e2⟩ := V_of h0 h1 h2
  have e3 : sc (q * 2 ^ k) (-1074) = q * sc 1 (k - 1074) := by
    rw [sc_shift _ _ _ (by omega), sc_mul1, show -1074 + (k : Int) = k - 1074 by omega]
  have e4 : sc (2 ^ k) (-1074) = sc 1 (k - 1074) := by
    have := sc_shift 1 (-1074) k (by omega)
    rw [Int.one_mul] at this
    rw [this, show -1074 + (k : Int) = k - 1074 by omega]
  have hs := U_step (r := k * 4503599627370496 + q) (by omega)
  unfold U sg at *
  rw [hs, e1, e2, e3, e4, Int.add_mul, Int.one_mul]
  exact ⟨rfl, rfl⟩
/-- the greatest rank with a value that is no more than 'a'; is half a step left; is there something left beside -/
structure Tow (a r : Int) (h m : Bool) : Prop where
  r0 : 0 ≤ r
  r1 : r ≤ 9218868437227405311
  lo : U r ≤ a
  hi : r < 9218868437227405311 → a < U (r + 1)
  hh : h = decide (U r + U (r + 1) ≤ 2 * a)
  hm : m = decide (a ≠ U r ∧ 2 * a ≠ U r + U (r + 1))
theorem Tow.unique {a r s : Int} {h m h' m' : Bool} (t : Tow a r h m) (t' : Tow a s h' m') : r = s ∧ h = h' ∧ m = m' := by
  have e : r = s := by
    obtain ⟨a1, a2, a3, a4, -, -⟩ := t
    obtain ⟨b1, b2, b3, b4, -, -⟩ := t'
    rcases Int.lt_trichotomy r s with h1 | h1 | h1
    · have c1 := U_le (r := r + 1) (s := s) (by omega) (by omega)
      have := a4 (by omega); omega
    · exact h1
    · have c1 := U_le (r := s + 1) (s := r) (by omega) (by omega)
      have := b4 (by omega); omega
  subst e
  exact ⟨rfl, t.hh.trans t'.hh.symm, t.hm.trans t'.hm.symm⟩
theorem tow_split {a e H ρ r q : Int} (r0 : 0 ≤ r) (r1 : r ≤ 9218868437227405311) (hU : U r = q * e) (hU1 : U (r + 1) = (q + 1) * e) (hq : q = H / 2) (h2 : 2 * a = H * e + ρ) (h3 : 0 ≤ ρ) (h4 : ρ < e) :
    Tow a r (decide (H % 2 = 1)) (decide (ρ ≠ 0)) := by
  obtain ⟨c, hc, hH⟩ : ∃ c : Int, (c = 0 ∨ c = 1) ∧ H = 2 * q + c := ⟨H % 2, by omega, by omega⟩
  rw [Int.add_mul, Int.one_mul] at hU1
  have e1 : H * e = 2 * (q * e) + c * e := by rw [hH, Int.add_mul, Int.mul_assoc]
  rw [e1] at h2
  rcases hc with rfl | rfl
  · rw [Int.zero_mul] at h2
    refine ⟨r0, r1, by omega, fun _ => by omega, ?_, ?_⟩ <;> (rw [hU, hU1]; apply decide_eq_decide.2; omega)
  · rw [Int.one_mul] at h2
    refine ⟨r0, r1, by omega, fun _ => by omega, ?_, ?_⟩ <;> (rw [hU, hU1]; apply decide_eq_decide.2; omega)
theorem tow_zero : Tow 0 0 false false := by
  have h := U_lt (r := 0) (s := 1) (by omega) (by omega)
  rw [U_zero] at h
  refine ⟨by omega, by omega, by rw [U_zero]; omega, fun _ => by simpa using h, ?_, ?_⟩
  · rw [U_zero]; symm; rw [decide_eq_false_iff_not]; simp; omega
  · rw [U_zero]; symm; rw [decide_eq_false_iff_not]; simp
/-- far above all -/
theorem tow_far {a t M : Int} (ht : t = 1024) (hM : M = 9218868437227405311) (h : sc 1 t ≤ a) : Tow a M true true := by
  obtain ⟨k, hk⟩ : ∃ k : Nat, k = 2045 := ⟨_, rfl⟩
  obtain ⟨u, hu⟩ : ∃ u : Int, u = (k : Int) - 1074 := ⟨_, rfl⟩
  have hU := (U_of (k := k) (q := 9007199254740991) (by omega) (by omega) (by omega))
  rw [← hu, show (k : Int) * 4503599627370496 + 9007199254740991 = M by omega] at hU
  have hp := sc_one_pos u
  have e : sc 1 t = 9007199254740992 * sc 1 u := by
    have e2 : u + ((53 : Nat) : Int) = t := by omega
    have := sc_shift 1 u 53 (by omega)
    rw [e2, show (1 : Int) * 2 ^ 53 = 9007199254740992 by decide, sc_mul1] at this
    exact this.symm
  rw [e] at h
  clear e
  generalize sc 1 u = E at *
  obtain ⟨g1, g2⟩ := hU
  obtain ⟨u0, hu0⟩ : ∃ x, U M = x := ⟨_, rfl⟩
  obtain ⟨u1, hu1⟩ : ∃ x, U (M + 1) = x := ⟨_, rfl⟩
  rw [hu0] at g1
  rw [hu1] at g2
  have k1 : u0 ≤ a := by clear hu0 hu1; omega
  have k2 : u0 + u1 ≤ 2 * a := by clear hu0 hu1; omega
  have k4 : u0 < a := by clear hu0 hu1 k1 k2; omega
  have k5 : u0 + u1 < 2 * a := by clear hu0 hu1 k1 k2; omega
  have k3 : a ≠ u0 ∧ 2 * a ≠ u0 + u1 := ⟨Int.ne_of_gt k4, Int.ne_of_gt k5⟩
  have r0 : 0 ≤ M := by rw [hM]; decide
  have r1 : M ≤ 9218868437227405311 := Int.le_of_eq hM
  have r2 : ¬ M < 9218868437227405311 := by rw [hM]; exact Int.lt_irrefl _
  refine ⟨r0, r1, by rw [hu0]; exact k1, fun h => absurd h r2, ?_, ?_⟩
  · rw [hu0, hu1]; exact (decide_eq_true k2).symm
  · rw [hu0, hu1]; exact (decide_eq_true k3).symm
/-- moved by bits: what is kept, what is lost -/
def lo (z : Int) (k : Int) : Bool := if 0 ≤ k then false else decide (z % 2 ^ (-k).toNat ≠ 0)
def sh (z : Int) (k : Int) : Int := if 0 ≤ k then z * 2 ^ k.toNat else z / 2 ^ (-k).toNat
theorem split_sc {z x u : Int} (hx : -60000 ≤ x) (hu : -60000 ≤ u) : ∃ ρ, 2 * sc z x = sh z (x - u + 1) * sc 1 u + ρ ∧ 0 ≤ ρ ∧ ρ < sc 1 u ∧ lo z (x - u + 1) = decide (ρ ≠ 0) := by
  unfold sh lo
  by_cases h : 0 ≤ x - u + 1
  · rw [if_pos h, if_pos h]
    obtain ⟨k, hk⟩ := Int.eq_ofNat_of_zero_le h
    rw [hk, Int.toNat_natCast]
    refine ⟨0, ?_, by omega, sc_one_pos u, by simp⟩
    rw [← sc_mul1, sc_shift _ _ _ hu, show u + (k : Int) = x + 1 by omega]
    have := sc_shift z x 1 hx
    rw [Int.add_zero, show x + ((1 : Nat) : Int) = x + 1 by omega] at *
    rw [← this, sc_mul1, sc_mul1 (z * 2 ^ 1)]
    rw [show z * 2 ^ 1 = 2 * z by omega, Int.mul_assoc]
  · rw [if_neg h, if_neg h]
    obtain ⟨k, hk⟩ := Int.eq_ofNat_of_zero_le (show 0 ≤ -(x - u + 1) by omega)
    rw [hk, Int.toNat_natCast]
    have hp := two_pos' k
    have e1 : sc 1 u = 2 * 2 ^ k * sc 1 x := by
      have := sc_shift 1 x (k + 1) hx
      rw [show x + ((k + 1 : Nat) : Int) = u by omega] at this
      rw [← this, sc_mul1, Int.one_mul, Int.pow_succ, Int.mul_comm (2 ^ k)]
    have e2 := Int.emod_add_mul_ediv z (2 ^ k)
    have e3 := Int.emod_nonneg z (Int.ne_of_gt hp)
    have e4 := Int.emod_lt_of_pos z hp
    have hE := sc_one_pos x
    rw [e1, sc_mul1 z x]
    generalize sc 1 x = E at *
    generalize z % 2 ^ k = m at *
    generalize z / 2 ^ k = Q at *
    generalize (2 : Int) ^ k = P at *
    have h1 : m * E < P * E := Int.mul_lt_mul_of_pos_right e4 hE
    have h0 : 0 ≤ m * E := Int.mul_nonneg e3 (Int.le_of_lt hE)
    refine ⟨2 * (m * E), ?_, by omega, ?_, ?_⟩
    · rw [← e2]; grind
    · rw [Int.mul_assoc]; omega
    · apply decide_eq_decide.2
      constructor
      · intro h2 h3
        have : m * E = 0 := by omega
        rcases Int.mul_eq_zero.1 this with h | h
        · exact h2 h
        · omega
      · intro h2 h3; rw [h3, Int.zero_mul] at h2; omega
theorem sh_pos {z : Int} (h : 0 ≤ z) (k : Int) : 0 ≤ sh z k := by
  unfold sh
  split
  · exact Int.mul_nonneg h (Int.le_of_lt (two_pos' _))
  · exact Int.ediv_nonneg h (Int.le_of_lt (two_pos' _))
/-- what has 'b' bits is so great -/
theorem sc_le {m n x : Int} : sc m x ≤ sc n x ↔ m ≤ n := by
  have := sc_lt (m := n) (n := m) (x := x)
  omega
theorem sc_two (b : Nat) (x : Int) (hx : -60000 ≤ x) : sc (2 ^ b) x = sc 1 (x + b) := by
  have := sc_shift 1 x b hx
  rwa [Int.one_mul] at this
theorem sc1_le {x y : Int} (h : x ≤ y) (hx : -60000 ≤ x) : sc 1 x ≤ sc 1 y := by
  obtain ⟨k, rfl⟩ : ∃ k : Nat, y = x + k := ⟨(y - x).toNat, by omega⟩
  rw [← sc_two k x hx, sc_le]
  have := two_pos' k
  omega
theorem tow_near {z x : Int} {b : Nat} (hx : -20000 ≤ x) (hb : z < 2 ^ b) (hb' : 2 ^ (b - 1) ≤ z) (h0 : 0 < b) (ht : b + x ≤ 1024) {u : Int} (hu : u = max (b + x - 53) (-1074)) :
    sh z (x - u + 1) < 18014398509481984 ∧ Tow (sc z x) ((u + 1074) * 4503599627370496 + sh z (x - u + 1) / 2) (decide (sh z (x - u + 1) % 2 = 1)) (lo z (x - u + 1)) := by
  obtain ⟨ρ, h1, h2, h3, h4⟩ := split_sc (z := z) (x := x) (u := u) (by omega) (by omega)
  have hz : 0 ≤ z := by have := two_pos' (b - 1); omega
  have hH := sh_pos hz (x - u + 1)
  rw [h4]
  generalize sh z (x - u + 1) = H at *
  obtain ⟨k, hk⟩ : ∃ k : Nat, u + 1074 = k := ⟨(u + 1074).toNat, by omega⟩
  have hE := sc_one_pos u
  -- above
  have u1 : sc z x < sc 1 (x + b) := by rw [← sc_two b x (by omega), sc_lt]; exact hb
  have u2 : sc 1 (x + b) ≤ 9007199254740992 * sc 1 u := by
    rw [← sc_mul1, show (9007199254740992 : Int) = 2 ^ 53 by decide, sc_two 53 u (by omega)]
    exact sc1_le (by omega) (by omega)
  have u3 : H < 18014398509481984 := by
    rcases Int.lt_or_le H 18014398509481984 with h | h
    · exact h
    · have := Int.mul_le_mul_of_nonneg_right h (Int.le_of_lt hE)
      omega
  -- below
  have d1 : u = b + x - 53 → 9007199254740992 ≤ H := fun hu' => by
    have e1 : sc 1 (x + (b - 1 : Nat)) ≤ sc z x := by rw [← sc_two _ x (by omega), sc_le]; exact hb'
    have e2 : sc 1 (x + (b - 1 : Nat)) = 4503599627370496 * sc 1 u := by
      rw [← sc_mul1, show (4503599627370496 : Int) = 2 ^ 52 by decide, sc_two 52 u (by omega)]
      congr 1; omega
    rcases Int.lt_or_le H 9007199254740992 with h | h
    · have := Int.mul_le_mul_of_nonneg_right (show H ≤ 9007199254740991 by omega) (Int.le_of_lt hE)
      omega
    · exact h
  have hc : k = 0 ∨ 4503599627370496 ≤ H / 2 := by
    by_cases h : b + x - 53 ≤ -1074
    · left; omega
    · right
      have := d1 (by omega)
      omega
  refine ⟨u3, ?_⟩
  obtain ⟨g1, g2⟩ := U_of (k := k) (q := H / 2) (by omega) (by omega) hc
  rw [show (k : Int) - 1074 = u by omega] at g1 g2
  rw [hk]
  exact tow_split (by omega) (by omega) g1 g2 rfl h1 h2 h3
/-- is it rounded away from 0 -/
def up (neg odd h m : Bool) (mode : Int) : Bool :=
  if h = false ∧ m = false then false
  else if mode = 1 then !neg else if mode = 2 then neg else if mode = 3 then false else if mode = 0 then (h && (m || odd)) else h
open Classical in
/-- it is told of the rank, the half, the rest -/
noncomputable def tow (a : Int) : Int × Bool × Bool := if h : ∃ t : Int × Bool × Bool, Tow a t.1 t.2.1 t.2.2 then h.choose else (0, false, false)
theorem tow_eq {a r : Int} {h m : Bool} (t : Tow a r h m) : tow a = (r, h, m) := by
  unfold tow
  have hx : ∃ t : Int × Bool × Bool, Tow a t.1 t.2.1 t.2.2 := ⟨(r, h, m), t⟩
  rw [dif_pos hx]
  obtain ⟨h1, h2, h3⟩ := hx.choose_spec.unique t
  exact Prod.ext h1 (Prod.ext h2 h3)
end RC
end Go.Proofs.YtelblhgagpkjmaaGreatDoor

/-
  ulpkeep.natLives.
-/
namespace Go.Proofs.YtelblhgagpkjmaaGreatDoor
set_option linter.unusedVariables false
set_option linter.unusedSimpArgs false
open Go.RowKit
set_option linter.unusedVariables false
namespace NC
open L
open Z (Nz Tz cmpv)
theorem small_400 {z : Int} (h : z < 4294967296 ^ 5) : z < 4294967296 ^ 400 := Int.lt_of_lt_of_le h (pow_mono (by decide))
theorem small_big {z : Int} (h : z < 4294967296 ^ 5) : z < big3 := Int.lt_of_lt_of_le h (pow_mono (by decide))
theorem erz0 {z : Int} (h : z < 4294967296 ^ 5) : erz z = 0 := by unfold erz; rw [if_pos (small_400 h)]
end NC
end Go.Proofs.YtelblhgagpkjmaaGreatDoor

/-
  NatDivides: the walk.
-/
namespace Go.Proofs.YtelblhgagpkjmaaGreatDoor
set_option linter.unusedVariables false
set_option linter.unusedSimpArgs false
open Go.RowKit
set_option linter.unusedVariables false
namespace NK
open L NC
open Z (Nz Tz cmpv)
theorem NV.zero {w : World} {A : Option Addr} {n c : Nat} (h : NV w (.slice A n c) 0) : n = 0 := by
  obtain ⟨L, h1, h2, h3, h4⟩ := h
  have e := lv_inj h2 Lim.nil h3 (by intro h; exact absurd rfl h) (h4.trans (show (0 : Int) = lv [] from rfl))
  have := h1.len_.1
  rw [this, e]; rfl
end NK
end Go.Proofs.YtelblhgagpkjmaaGreatDoor

/-
  NatRoots, NatRing: the walks.
-/
namespace Go.Proofs.YtelblhgagpkjmaaGreatDoor
set_option linter.unusedVariables false
set_option linter.unusedSimpArgs false
open Go.RowKit
set_option linter.unusedVariables false
namespace NK
open L NC
open Z (Nz Tz cmpv)
end NK
end Go.Proofs.YtelblhgagpkjmaaGreatDoor

/-
  NatRing: the walk.
-/
namespace Go.Proofs.YtelblhgagpkjmaaGreatDoor
set_option linter.unusedVariables false
set_option linter.unusedSimpArgs false
open Go.RowKit
set_option linter.unusedVariables false
namespace NK
open L NC
open Z (Nz Tz cmpv)
/-- the result of a sum, a product: its limbs, small enough -/
def RetG (w : World) (er z : Int) (e : Ending) (w' : World) : Prop := ∃ A n c, e = .returned (.tuple #[.slice A n c, .int .i64 er]) ∧ PV w' (.slice A n c) (erz z) z ∧ NV w' (.slice A n c) z ∧ Below w.heap.size w w'
theorem bdrew {B : Nat} {w W : World} (h : Below B w W) (k : Nat) : Below B w (W.drewN k) := ⟨h.os, h.tape, h.output, h.size, h.block⟩
end NK
end Go.Proofs.YtelblhgagpkjmaaGreatDoor

/-
  math/bits.TrailingZeros32 over its table; package nat: lowBits, Shift.
-/
namespace Go.Proofs.YtelblhgagpkjmaaGreatDoor
set_option linter.unusedVariables false
set_option linter.unusedSimpArgs false
open Go.RowKit
set_option linter.unusedVariables false
namespace NC
open L
open Z (Nz Tz cmpv)
/-- the library's table as its initialiser lays it -/
def TabD (w : World) : Prop := ∀ j, j < 32 → w.cell? ⟨0, j, none⟩ = some (.int .u8 (Lib.deBruijn32tab.getD j 0))
theorem TabD.below {w w' : World} (h : TabD w) (hb : Below w.heap.size w w') : TabD w' := fun j hj => (hb.cell (World.block_lt_of_cell? w _ (h j hj))).trans (h j hj)
theorem TabD.drewN {w : World} (h : TabD w) (k : Nat) : TabD (w.drewN k) := h
theorem tz_core (x k idx : Nat) (w : World) (hx0 : ((x : Int) == 0) = false)
    (key : bits BinOp.and IntKind.u32 (x : Int) (-(x : Int) % 4294967296) * 125613361 % 4294967296 / 134217728 = (idx : Int))
    (hi : idx < 32) (hk : k < 32) (hcell : w.cell? ⟨0, idx, none⟩ = some (.int .u8 k)) :
    Calls Tryz.prog 108 #[.int .u32 x] w fun e w' => e = .returned (.int .i64 k) ∧ w = w' := by
  go_enter Tryz.func108, Tryz.ntmps108
  go_wp2_with (simp only [key])
  go_ret
  exact ⟨rfl, rfl⟩
theorem tz_key (x a : Nat) (hx : x < 4294967296) (hx0 : x ≠ 0) (hlow : x &&& (4294967296 - x) = a) :
    bits BinOp.and IntKind.u32 (x : Int) (-(x : Int) % 4294967296) * 125613361 % 4294967296 / 134217728 = ((a * 125613361 % 4294967296 / 134217728 : Nat) : Int) := by
  have e1 : -(x : Int) % 4294967296 = ((4294967296 - x : Nat) : Int) := by omega
  rw [e1, and_u32 x _ hx (by omega), hlow]
  omega
/-- trailing noughts of a limb that is not 0: 2^t times an odd number -/
theorem tz_c (x : Int) (w : World) (h0 : 0 < x) (h1 : x < 4294967296) (hT : TabD w) :
    ∃ t : Nat, t < 32 ∧ (∃ m : Int, x = 2 ^ t * (2 * m + 1)) ∧ Calls Tryz.prog 108 #[.int .u32 x] w fun e w' => e = .returned (.int .i64 t) ∧ w = w' := by
  obtain ⟨a, rfl⟩ := Int.eq_ofNat_of_zero_le (Int.le_of_lt h0)
  have ha : a ≠ 0 := by omega
  have hlt : a < 4294967296 := by omega
  obtain ⟨hlow, hk⟩ := Lib.lowest_bit 32 a ha hlt
  obtain ⟨hi, htab⟩ := Lib.deBruijn32_at _ hk
  obtain ⟨m, hm, _⟩ := Lib.ctzFrom_spec 32 a (by omega) hlt
  refine ⟨Lib.ctz 32 a, hk, ⟨m, ?_⟩, ?_⟩
  · have hm2 : a = 2 ^ Lib.ctz 32 a * (2 * m + 1) := by
      have e : Lib.ctz 32 a = Lib.ctzFrom 32 a := by unfold Lib.ctz; rw [if_neg ha]
      rw [e]; exact hm
    have := congrArg (fun n : Nat => (n : Int)) hm2
    simp only [Int.natCast_mul, Int.natCast_pow, Int.natCast_add] at this
    exact this
  · have hcell := hT _ hi
    rw [htab] at hcell
    exact tz_core a _ _ w (by simp; omega) (tz_key a _ hlt ha hlow) hi hk hcell
theorem odd_mod (e n : Nat) (o : Int) : (2 ^ e * (2 * o + 1)) % 2 ^ n ≠ 0 ↔ e < n := by
  constructor
  · intro h
    rcases Nat.lt_or_ge e n with h1 | h1
    · exact h1
    · exfalso
      apply h
      rw [show e = n + (e - n) by omega, Int.pow_add, Int.mul_assoc]
      exact Int.mul_emod_right _ _
  · intro h h1
    have hp := two_pos e
    obtain ⟨q, hq⟩ := Int.dvd_of_emod_eq_zero h1
    rw [show n = e + (n - e - 1) + 1 by omega, Int.pow_succ, Int.pow_add] at hq
    have h2 : 2 ^ e * (2 * o + 1) = 2 ^ e * (2 * (2 ^ (n - e - 1) * q)) := by rw [hq]; grind
    have h3 := Int.eq_of_mul_eq_mul_left (by omega) h2
    omega
/-- the lowest limb that is not 0 tells where the lowest bit is -/
theorem low_spec {l : List Int} (hl : Lim l) {k t : Nat} {x m : Int} (hk : k < l.length) (hz : lv (l.take k) = 0) (hx : l.getD k 0 = x) (ht : t < 32) (hm : x = 2 ^ t * (2 * m + 1)) (n : Nat) : lv l % 2 ^ n ≠ 0 ↔ 32 * k + t < n := by
  have h := lv_split l k hk
  rw [hz, hx, hm] at h
  have e : (4294967296 : Int) = 2 ^ t * (2 * 2 ^ (31 - t)) := by
    rw [← Int.mul_assoc, Int.mul_comm (2 ^ t) 2, Int.mul_assoc, ← Int.pow_add, show t + (31 - t) = 31 by omega]; decide
  have e2 : lv l = 2 ^ (32 * k + t) * (2 * (m + 2 ^ (31 - t) * lv (l.drop (k + 1))) + 1) := by
    rw [h, pow_two, Int.pow_add]
    generalize lv (l.drop (k + 1)) = D
    have e3 : 2 ^ t * (2 * m + 1) + 4294967296 * D = 2 ^ t * (2 * (m + 2 ^ (31 - t) * D) + 1) := by
      have : 4294967296 * D = 2 ^ t * (2 * 2 ^ (31 - t)) * D := by rw [← e]
      rw [this]; grind
    rw [e3]; grind
  rw [e2]
  exact odd_mod _ _ _
theorem lowBits_c (v : Value) (l : List Int) (n : Nat) (w : World) (hs : Sl .u32 w v l) (Ll : Lim l) (hl : l.length ≤ 1000000) (hn : n ≤ 1000000) (hT : TabD w) :
    Calls Tryz.prog 110 #[v, .int .i64 n] w fun e w' => e = .returned (.bool (decide (lv l % 2 ^ n ≠ 0))) ∧ w = w' := by
  obtain ⟨A, c, rfl, hc⟩ := hs.form
  have HS := Lib.hid hs
  have LL := Lib.hid Ll
  have HT := Lib.hid hT
  obtain ⟨x, ex⟩ : ∃ x, l.length = x := ⟨_, rfl⟩
  obtain ⟨r, hr⟩ : ∃ r, r = decide (lv l % 2 ^ n ≠ 0) := ⟨_, rfl⟩
  rw [← hr]
  rw [ex] at hc hl HS ⊢
  have EX := Lib.hid ex
  have HR := Lib.hid hr
  clear hs Ll ex hr hT
  go_enter Tryz.func110, Tryz.ntmps110
  go_wp2
  go_loop [9] (fun i => ∃ k : Nat, k ≤ x ∧ i = .int .i64 k ∧ Hid (lv (l.take k) = 0)) (fun i => x - (intOf i).toNat)
  case atStart => exact ⟨0, by omega, rfl, by show lv _ = 0; simp [lv]⟩
  case round =>
    obtain ⟨k, hk, rfl, hz⟩ := hrel
    by_cases hkx : k < x
    · obtain ⟨ad, c', e, hc', hb, hcell⟩ := HS.out.at_ k (by rw [EX.out]; exact hkx)
      injection e with e1 e2 e3
      subst e1
      clear e2 e3 hc' c' hb
      obtain ⟨q, hq⟩ : ∃ q, l.getD k 0 = q := ⟨_, rfl⟩
      have bq := LL.out.at_ k
      rw [hq] at hcell bq
      by_cases h0 : q = 0
      · have h1 : (q != 0) = false := by simp [h0]
        have HZ2 : Hid (lv (l.take (k + 1)) = 0) := by show lv _ = 0; rw [lv_take_succ, hq, h0, hz.out]; simp
        clear h0 hq
        go_wp2
        go_round
        case rel => exact ⟨k + 1, by omega, by simp, HZ2.out⟩
        case measure => simp [intOf]; omega
      · have h1 : (q != 0) = true := by simp [h0]
        obtain ⟨t, ht, ⟨m, hm⟩, TZ⟩ := tz_c q w (by omega) bq.2 HT.out
        have hsp := low_spec LL.out (by rw [EX.out]; exact hkx) hz.out hq ht hm n
        have TZ := Lib.hid TZ
        have HE : Hid (r = decide ((32 * k + t : Nat) < n)) := by show _ = _; rw [HR.out]; exact decide_eq_decide.2 hsp
        clear h0 hq hm hsp
        go_wp2_with (first | (go_at_call 108; (with_reducible refine (TZ.out).mono ?_); rintro e w' ⟨rfl, rfl⟩))
        go_ret
        refine ⟨ret_bool ?_, rfl⟩
        rw [HE.out]
        apply decide_eq_decide.2
        omega
    · obtain rfl : x = k := by omega
      have HE : Hid (r = false) := by
        show _ = _
        rw [HR.out]
        have := hz.out
        rw [← EX.out, List.take_length] at this
        rw [this]
        simp
      go_wp2
      go_ret
      exact ⟨ret_bool HE.out.symm, rfl⟩
theorem ShiftDown_c (v : Value) (l : List Int) (n : Nat) (w : World) (hs : Sl .u32 w v l) (Ll : Lim l) (h : chk l = 0) (hn : n ≤ 20000) (hn0 : 0 < n) (hT : TabD w) : Calls Tryz.prog 85 #[v, .int .i64 (-(n : Int))] w (RetSh w 0 (lv l / 2 ^ n) (decide (lv l % 2 ^ n ≠ 0))) := by
  have h1 := chk_ok.1 h
  have C := Lib.hid (Check_c v l w hs (by omega))
  have S := Lib.hid (shiftDown_c v l n w hs Ll (by omega) (by omega))
  have LB : Hid (∀ W, Below w.heap.size w W → Calls Tryz.prog 110 #[v, .int .i64 n] W fun e w' => e = .returned (.bool (decide (lv l % 2 ^ n ≠ 0))) ∧ W = w') := fun W hb => lowBits_c v l n W (hs.below hb) Ll (by omega) (by omega) (hT.below hb)
  rw [h] at C
  generalize lv l / 2 ^ n = z at *
  generalize decide (lv l % 2 ^ n ≠ 0) = b at *
  have h2 : ¬ -(n : Int) < -20000 := by omega
  have h3 : ¬ (20000 : Int) < -(n : Int) := by omega
  have h4 : -(n : Int) < 0 := by omega
  clear hs Ll h h1 hT
  go_enter Tryz.func85, Tryz.ntmps85
  go_wp2_with (first | (go_at_call 78; (with_reducible refine (C.out).mono ?_); rintro e w' ⟨rfl, rfl⟩) | (go_at_call 109; (with_reducible refine (S.out).mono ?_); rintro e w2 ⟨A, m, c, rfl, hv, hb⟩) | (go_at_call 110; (with_reducible refine (LB.out _ hb).mono ?_); rintro e w' ⟨rfl, rfl⟩))
  go_ret3
  exact ⟨A, m, c, rfl, hv, hb⟩
end NC
end Go.Proofs.YtelblhgagpkjmaaGreatDoor

/-
  NatShifts: the walk.
-/
namespace Go.Proofs.YtelblhgagpkjmaaGreatDoor
set_option linter.unusedVariables false
set_option linter.unusedSimpArgs false
open Go.RowKit
set_option linter.unusedVariables false
namespace NK
open L NC
open Z (Nz Tz cmpv)
theorem two_mono {a b : Nat} (h : a ≤ b) : (2 : Int) ^ a ≤ 2 ^ b := by
  obtain ⟨d, rfl⟩ : ∃ d, b = a + d := ⟨b - a, by omega⟩
  rw [Int.pow_add]
  have h1 := two_pos a
  have h2 := two_pos d
  have := Int.mul_le_mul_of_nonneg_left (show (1 : Int) ≤ 2 ^ d by omega) (Int.le_of_lt h1)
  omega
theorem two_lt {a b : Nat} (h : (2 : Int) ^ a < 2 ^ b) : a < b := by
  rcases Nat.lt_or_ge a b with h1 | h1
  · exact h1
  · have := two_mono h1; omega
theorem shift_small {a : Int} {n : Nat} (ha : a < 4294967296 ^ 400) (h0 : 0 ≤ a) (hn : n ≤ 20001) : a * 2 ^ n < big3 := by
  have h1 : (2 : Int) ^ n ≤ 4294967296 ^ 626 := by rw [pow_two]; exact two_mono (by omega)
  have h2 : a * 2 ^ n ≤ 4294967296 ^ 400 * 4294967296 ^ 626 := Int.mul_le_mul (Int.le_of_lt ha) h1 (Int.le_of_lt (two_pos n)) (Int.le_of_lt (pow_pos _))
  rw [← Int.pow_add] at h2
  have h3 : (4294967296 : Int) ^ 1027 ≤ 4294967296 ^ 3000 := pow_mono (by decide)
  have h4 : (4294967296 : Int) ^ 1027 = 4294967296 ^ (400 + 626) * 4294967296 := Int.pow_succ _ _
  have h5 := pow_pos (400 + 626)
  unfold big3
  generalize (4294967296 : Int) ^ 3000 = c3000 at *
  generalize (4294967296 : Int) ^ 1027 = c1027 at *
  generalize (4294967296 : Int) ^ (400 + 626) = c1026 at *
  omega
theorem sh_err {u : Value} {er z n : Int} {w : World} (h : PV w u er z) (he : er ≠ 0) : Calls Tryz.prog 85 #[u, .int .i64 n] w (RetSh w er 0 false) := by
  obtain ⟨l, h1, h2, h3, h4, h5⟩ := h
  have := ShiftErr_c u l n w h1 h3 (by rw [h4]; exact he)
  rwa [h4] at this
theorem sh_far {u : Value} {z n : Int} {w : World} (h : PV w u 0 z) (hn : n < -20000 ∨ 20000 < n) : Calls Tryz.prog 85 #[u, .int .i64 n] w (RetSh w 1 0 false) := by
  obtain ⟨l, h1, h2, h3, h4, h5⟩ := h
  exact ShiftFar_c u l n w h1 h3 h4 hn
theorem sh_up {u : Value} {z : Int} {w : World} (h : PV w u 0 z) (n : Nat) (hn : n ≤ 20000) : Calls Tryz.prog 85 #[u, .int .i64 n] w (RetSh w 0 (z * 2 ^ n) false) := by
  obtain ⟨l, h1, h2, h3, h4, h5⟩ := h
  have := ShiftUp_c u l n w h1 h2 h4 hn
  rwa [h5] at this
theorem sh_down {u : Value} {z : Int} {w : World} (h : PV w u 0 z) (n : Nat) (h0 : 0 < n) (hn : n ≤ 20000) (hT : TabD w) : Calls Tryz.prog 85 #[u, .int .i64 (-(n : Int))] w (RetSh w 0 (z / 2 ^ n) (decide (z % 2 ^ n ≠ 0))) := by
  obtain ⟨l, h1, h2, h3, h4, h5⟩ := h
  have := ShiftDown_c u l n w h1 h2 h4 hn h0 hT
  rwa [h5] at this
theorem bits_p {u : Value} {er z : Int} {w : World} (h : PV w u er z) : Calls Tryz.prog 59 #[u] w (RetBits w er z) := by
  obtain ⟨l, h1, h2, h3, h4, h5⟩ := h
  have := Bits_c u l w h1 h3 h2
  rwa [h4, h5] at this
end NK
end Go.Proofs.YtelblhgagpkjmaaGreatDoor

/-
  Package dyad: the bounds, is it zero, its form, Check.
-/
namespace Go.Proofs.YtelblhgagpkjmaaGreatDoor
set_option linter.unusedVariables false
set_option linter.unusedSimpArgs false
open Go.RowKit
set_option linter.unusedVariables false
namespace DC
open L NC
open Z (Nz Tz cmpv)
theorem isExp_c (x : Int) (w : World) : Calls Tryz.prog 82 #[.int .i64 x] w (fun e w' => e = .returned (.bool (decide (-10000 ≤ x ∧ x ≤ 10000))) ∧ w = w') := by
  by_cases h1 : -10000 ≤ x
  · by_cases h2 : x ≤ 10000
    · have e : decide (-10000 ≤ x ∧ x ≤ 10000) = true := by simp [h1, h2]
      rw [e]
      clear e
      go_enter Tryz.func82, Tryz.ntmps82
      go_wp2
      go_ret
      exact ⟨ret_bool (by simp), rfl⟩
    · have e : decide (-10000 ≤ x ∧ x ≤ 10000) = false := by simp [h1, h2]
      rw [e]
      clear e
      go_enter Tryz.func82, Tryz.ntmps82
      go_wp2
      go_ret
      exact ⟨ret_bool (by simp), rfl⟩
  · have e : decide (-10000 ≤ x ∧ x ≤ 10000) = false := by simp [h1]
    rw [e]
    clear e
    go_enter Tryz.func82, Tryz.ntmps82
    go_wp2
    go_ret
    exact ⟨ret_bool (by simp), rfl⟩
/-- a plain value; the world only grew -/
def RetB (w : World) (v : Value) (e : Ending) (w' : World) : Prop := e = .returned v ∧ Below w.heap.size w w'
theorem dcell {W w1 : World} (hb : Below W.heap.size W w1) : (∀ b o, b < W.heap.size → w1.cell? ⟨b, o, none⟩ = W.cell? ⟨b, o, none⟩) ∧ (∀ b o, b < W.heap.size → w1.frozen? ⟨b, o, none⟩ = W.frozen? ⟨b, o, none⟩) :=
  ⟨fun b o h => hb.cell (p := ⟨b, o, none⟩) h, fun b o h => hb.frozen (p := ⟨b, o, none⟩) h⟩
theorem isZero_c (b : Bool) (A : Option Addr) (n c : Nat) (x : Int) (w : World) : Calls Tryz.prog 66 #[.agg #[.bool b, .slice A n c, .int .i64 x]] w (RetB w (.bool (decide (n = 0)))) := by
  go_enter Tryz.func66, Tryz.ntmps66
  go_wp2
  go_ret
  exact ⟨ret_bool (by by_cases h : n = 0 <;> simp [h]), (Below.refl _ _).alloc (Nat.le_refl _) _⟩
/-- its form: is it normal? -/
def nrm (b : Bool) (l : List Int) (x : Int) : Bool := if l = [] then !b && decide (x = 0) else decide (chk l = 0) && decide (lv l % 2 = 1)
theorem lv_odd {l : List Int} : lv l % 2 = l.getD 0 0 % 2 := by
  cases l with
  | nil => rfl
  | cons a t => unfold lv; simp only [List.getD_cons_zero]; omega
theorem isNormal_c (b : Bool) (A : Option Addr) (n c : Nat) (x : Int) (l : List Int) (w : World) (hs : Sl .u32 w (.slice A n c) l) (Ll : Lim l) (hl : l.length ≤ 9223372036854775807) :
    Calls Tryz.prog 83 #[.agg #[.bool b, .slice A n c, .int .i64 x]] w (RetB w (.bool (nrm b l x))) := by
  obtain ⟨en, hc⟩ := hs.len_
  obtain ⟨r, hr⟩ : ∃ r, nrm b l x = r := ⟨_, rfl⟩
  rw [hr]
  have IZ : Hid (∀ W, Calls Tryz.prog 66 #[.agg #[.bool b, .slice A n c, .int .i64 x]] W (RetB W (.bool (decide (n = 0))))) := fun W => isZero_c b A n c x W
  have CH : Hid (∀ W, Below w.heap.size w W → Calls Tryz.prog 78 #[.slice A n c] W (fun e w' => e = .returned (.int .i64 (chk l)) ∧ W = w')) := fun W hW => Check_c _ l W (hs.below hW) hl
  by_cases h0 : l = []
  · subst h0
    obtain rfl : n = 0 := en
    have HR : Hid (r = (!b && decide (x = 0))) := by rw [← hr]; rfl
    clear hr CH hs hl Ll
    cases b
    · go_enter Tryz.func83, Tryz.ntmps83
      go_wp2_with (first | (go_at_call 66; (with_reducible refine (IZ.out _).mono ?_); rintro e w1 ⟨rfl, hb⟩ ; obtain ⟨hc1, hf1⟩ := dcell hb))
      go_ret
      exact ⟨ret_bool (by rw [HR.out]; by_cases h : x = 0 <;> simp [h]), ((Below.refl _ _).alloc (Nat.le_refl _) _).trans (hb.mono (by simp))⟩
    · go_enter Tryz.func83, Tryz.ntmps83
      go_wp2_with (first | (go_at_call 66; (with_reducible refine (IZ.out _).mono ?_); rintro e w1 ⟨rfl, hb⟩ ; obtain ⟨hc1, hf1⟩ := dcell hb))
      go_ret
      exact ⟨ret_bool (by rw [HR.out]; rfl), ((Below.refl _ _).alloc (Nat.le_refl _) _).trans (hb.mono (by simp))⟩
  · have hn0 : n ≠ 0 := by rw [en]; intro h; exact h0 (List.length_eq_zero_iff.1 h)
    have e0 : decide (n = 0) = false := by simp [hn0]
    have HR : Hid (r = (decide (chk l = 0) && decide (lv l % 2 = 1))) := by rw [← hr]; unfold nrm; rw [if_neg h0]; rfl
    obtain ⟨q, hq⟩ : ∃ q, chk l = q := ⟨_, rfl⟩
    rw [hq] at CH HR
    obtain ⟨ad, c', e, hc', hb', hcell⟩ := hs.at_ 0 (by rw [← en]; omega)
    injection e with e1 e2 e3
    subst e1
    clear e2 e3 hc' c'
    obtain ⟨z, hz⟩ : ∃ z, l.getD 0 0 = z := ⟨_, rfl⟩
    have HO := Lib.hid (lv_odd (l := l))
    rw [hz] at hcell HO
    have bz := Ll.at_ 0
    rw [hz] at bz
    clear hr hs h0 hl Ll hz en
    rw [show ad.add 0 = ad from rfl] at hcell
    have KC : Hid (∀ W, Below w.heap.size w W → W.cell? ad = some (.int .u32 z)) := fun W hW => (hW.cell hb').trans hcell
    have D0 : Below w.heap.size w (w.alloc (.cells #[.bool b, .slice (some ad) n c, .int .i64 x] 26)) := (Below.refl _ _).alloc (Nat.le_refl _) _
    have D0 := Lib.hid D0
    have HQ := Lib.hid hq
    clear hq hcell hb'
    by_cases h1 : q = 0
    · subst h1
      go_enter Tryz.func83, Tryz.ntmps83
      go_wp2_with (first | (go_at_call 66; (with_reducible refine (IZ.out _).mono ?_); rintro e w1 ⟨rfl, hb⟩ ; obtain ⟨hc1, hf1⟩ := dcell hb; have D1 := D0.out.trans (hb.mono D0.out.size); have hca := KC.out _ D1; have D1 := Lib.hid D1) | (go_at_call 78; (with_reducible refine (CH.out _ D1.out).mono ?_); rintro e w' ⟨rfl, rfl⟩))
      go_ret
      exact ⟨ret_bool (by rw [HR.out, HO.out]; rfl), D1.out⟩
    · have h2 : (q == 0) = false := by simp [h1]
      have h3 : decide (q = 0) = false := by simp [h1]
      rw [h3] at HR
      clear h3
      go_enter Tryz.func83, Tryz.ntmps83
      go_wp2_with (first | (go_at_call 66; (with_reducible refine (IZ.out _).mono ?_); rintro e w1 ⟨rfl, hb⟩ ; obtain ⟨hc1, hf1⟩ := dcell hb; have D1 := Lib.hid (D0.out.trans (hb.mono D0.out.size))) | (go_at_call 78; (with_reducible refine (CH.out _ D1.out).mono ?_); rintro e w' ⟨rfl, rfl⟩))
      go_ret
      exact ⟨ret_bool (by rw [HR.out]; rfl), D1.out⟩
/-- what Check tells -/
def dchk (b : Bool) (l : List Int) (x : Int) : Int := if 400 < l.length ∨ ¬ (-10000 ≤ x ∧ x ≤ 10000) then 2 else if nrm b l x = true then 0 else 3
theorem Check_c (b : Bool) (A : Option Addr) (n c : Nat) (x : Int) (l : List Int) (w : World) (hs : Sl .u32 w (.slice A n c) l) (Ll : Lim l) (hl : l.length ≤ 9223372036854775807) :
    Calls Tryz.prog 65 #[.agg #[.bool b, .slice A n c, .int .i64 x]] w (RetB w (.int .i64 (dchk b l x))) := by
  obtain ⟨en, hc⟩ := hs.len_
  obtain ⟨r, hr⟩ : ∃ r, dchk b l x = r := ⟨_, rfl⟩
  rw [hr]
  have IE : Hid (∀ W, Calls Tryz.prog 82 #[.int .i64 x] W (fun e w' => e = .returned (.bool (decide (-10000 ≤ x ∧ x ≤ 10000))) ∧ W = w')) := fun W => isExp_c x W
  have IN : Hid (∀ W, Below w.heap.size w W → Calls Tryz.prog 83 #[.agg #[.bool b, .slice A n c, .int .i64 x]] W (RetB W (.bool (nrm b l x)))) := fun W hW => isNormal_c b A n c x l W (hs.below hW) Ll hl
  have D0 : Below w.heap.size w (w.alloc (.cells #[.bool b, .slice A n c, .int .i64 x] 26)) := (Below.refl _ _).alloc (Nat.le_refl _) _
  have D0 := Lib.hid D0
  have HR := Lib.hid hr
  have EN := Lib.hid en
  have hn : (n : Int) ≤ 9223372036854775807 := by omega
  clear hr hs en hl Ll hc
  by_cases h1 : (400 : Int) < n
  · go_enter Tryz.func65, Tryz.ntmps65
    go_wp2
    go_ret
    exact ⟨ret_int (by rw [← HR.out]; unfold dchk; rw [if_pos (.inl (by rw [← EN.out]; omega))]), D0.out⟩
  · by_cases h2 : -10000 ≤ x ∧ x ≤ 10000
    · have e2 : decide (-10000 ≤ x ∧ x ≤ 10000) = true := decide_eq_true h2
      rw [e2] at IE
      have H3 : Hid (r = if nrm b l x = true then 0 else 3) := by
        show _ = _
        rw [← HR.out]; unfold dchk; rw [if_neg]
        intro h; rcases h with h | h
        · rw [← EN.out] at h; omega
        · exact h h2
      clear h2 e2 HR
      generalize nrm b l x = q at *
      cases q
      · go_enter Tryz.func65, Tryz.ntmps65
        go_wp2_with (first | (go_at_call 82; (with_reducible refine (IE.out _).mono ?_); rintro e w' ⟨rfl, rfl⟩) | (go_at_call 83; (with_reducible refine (IN.out _ D0.out).mono ?_); rintro e w1 ⟨rfl, hb⟩))
        go_ret
        exact ⟨ret_int (by rw [H3.out]; rfl), D0.out.trans (hb.mono D0.out.size)⟩
      · go_enter Tryz.func65, Tryz.ntmps65
        go_wp2_with (first | (go_at_call 82; (with_reducible refine (IE.out _).mono ?_); rintro e w' ⟨rfl, rfl⟩) | (go_at_call 83; (with_reducible refine (IN.out _ D0.out).mono ?_); rintro e w1 ⟨rfl, hb⟩))
        go_ret
        exact ⟨ret_int (by rw [H3.out]; rfl), D0.out.trans (hb.mono D0.out.size)⟩
    · have e2 : decide (-10000 ≤ x ∧ x ≤ 10000) = false := decide_eq_false h2
      rw [e2] at IE
      have H2 := Lib.hid h2
      clear h2 e2
      go_enter Tryz.func65, Tryz.ntmps65
      go_wp2_with (first | (go_at_call 82; (with_reducible refine (IE.out _).mono ?_); rintro e w' ⟨rfl, rfl⟩))
      go_ret
      exact ⟨ret_int (by rw [← HR.out]; unfold dchk; rw [if_pos (.inr H2.out)]), D0.out⟩
/-- limbs whose lowest 1 lies in limb k -/
theorem low_form {l : List Int} {k t : Nat} {x m : Int} (hk : k < l.length) (hz : lv (l.take k) = 0) (hx : l.getD k 0 = x) (ht : t < 32) (hm : x = 2 ^ t * (2 * m + 1)) : ∃ o : Int, lv l = o * 2 ^ (32 * k + t) ∧ o % 2 = 1 := by
  have h := lv_split l k hk
  rw [hz, hx, hm] at h
  have e : (4294967296 : Int) = 2 ^ t * (2 * 2 ^ (31 - t)) := by
    rw [← Int.mul_assoc, Int.mul_comm (2 ^ t) 2, Int.mul_assoc, ← Int.pow_add, show t + (31 - t) = 31 by omega]; decide
  refine ⟨2 * (m + 2 ^ (31 - t) * lv (l.drop (k + 1))) + 1, ?_, by omega⟩
  rw [h, pow_two, Int.pow_add]
  generalize lv (l.drop (k + 1)) = D
  have e3 : 2 ^ t * (2 * m + 1) + 4294967296 * D = 2 ^ t * (2 * (m + 2 ^ (31 - t) * D) + 1) := by
    have : 4294967296 * D = 2 ^ t * (2 * 2 ^ (31 - t)) * D := by rw [← e]
    rw [this]; grind
  rw [e3]; grind
theorem lowZeros_c (v : Value) (l : List Int) (o : Int) (t : Nat) (w : World) (hs : Sl .u32 w v l) (Ll : Lim l) (hl : l.length ≤ 1000000) (ho : lv l = o * 2 ^ t) (hoo : o % 2 = 1) (hT : TabD w) :
    Calls Tryz.prog 84 #[v] w fun e w' => e = .returned (.int .i64 t) ∧ w = w' := by
  obtain ⟨A, c, rfl, hc⟩ := hs.form
  have HS := Lib.hid hs
  have LL := Lib.hid Ll
  have HT := Lib.hid hT
  obtain ⟨x, ex⟩ : ∃ x, l.length = x := ⟨_, rfl⟩
  have HN : Hid (lv l ≠ 0) := by
    show _ ≠ _
    rw [ho]; exact Int.mul_ne_zero (odd_ne hoo) (Int.ne_of_gt (two_pos' t))
  have HO : Hid (∀ (p : Int) (j : Nat), lv l = p * 2 ^ j → p % 2 = 1 → j = t) := fun p j h1 h2 => (odd_unique (h1.symm.trans ho) h2 hoo).2
  rw [ex] at hc hl HS ⊢
  have EX := Lib.hid ex
  obtain ⟨T, hT'⟩ : ∃ T : Int, (t : Int) = T := ⟨_, rfl⟩
  have ET := Lib.hid hT'
  rw [hT']
  clear hs Ll ex hT ho hoo hT'
  go_enter Tryz.func84, Tryz.ntmps84
  go_wp2
  go_loop [3] (fun i => ∃ k : Nat, k < x ∧ i = .int .i64 k ∧ Hid (lv (l.take k) = 0)) (fun i => x - (intOf i).toNat)
  case atStart => 
    refine ⟨0, ?_, rfl, by show lv _ = 0; simp [lv]⟩
    rcases Nat.eq_zero_or_pos x with h | h
    · exfalso
      have h1 := EX.out
      rw [h] at h1
      rw [List.length_eq_zero_iff.1 h1] at HN
      exact HN.out rfl
    · exact h
  case round =>
    obtain ⟨k, hkx, rfl, hz⟩ := hrel
    obtain ⟨ad, c', e, hc', hb, hcell⟩ := HS.out.at_ k (by rw [EX.out]; exact hkx)
    injection e with e1 e2 e3
    subst e1
    clear e2 e3 hc' c' hb
    obtain ⟨q, hq⟩ : ∃ q, l.getD k 0 = q := ⟨_, rfl⟩
    have bq := LL.out.at_ k
    rw [hq] at hcell bq
    by_cases h0 : q = 0
    · have h1 : (q == 0) = true := by simp [h0]
      have HZ2 : Hid (lv (l.take (k + 1)) = 0) := by show lv _ = 0; rw [lv_take_succ, hq, h0, hz.out]; simp
      have hk1 : k + 1 < x := by
        rcases (by omega : k + 1 < x ∨ k + 1 = x) with h | h
        · exact h
        · exfalso
          have := HZ2.out
          rw [h, ← EX.out, List.take_length] at this
          exact HN.out this
      clear h0 hq
      go_wp2
      go_round
      case rel => exact ⟨k + 1, hk1, by simp, HZ2.out⟩
      case measure => simp [intOf]; omega
    · have h1 : (q == 0) = false := by simp [h0]
      obtain ⟨t', ht, ⟨m, hm⟩, TZ⟩ := tz_c q w (by omega) bq.2 HT.out
      obtain ⟨p, hp1, hp2⟩ := low_form (by rw [EX.out]; exact hkx) hz.out hq ht hm
      have hj := HO.out p _ hp1 hp2
      have TZ := Lib.hid TZ
      have HJ := Lib.hid hj
      clear h0 hq hm hp1 hp2 hj
      go_wp2_with (first | (go_at_call 108; (with_reducible refine (TZ.out).mono ?_); rintro e w' ⟨rfl, rfl⟩))
      go_ret
      refine ⟨ret_int ?_, rfl⟩
      rw [← ET.out, ← HJ.out]
      omega
end DC
end Go.Proofs.YtelblhgagpkjmaaGreatDoor

/-
  Package dyad: finish.
-/
namespace Go.Proofs.YtelblhgagpkjmaaGreatDoor
set_option linter.unusedVariables false
set_option linter.unusedSimpArgs false
open Go.RowKit
set_option linter.unusedVariables false
namespace DC
open L NC NK
open Z (Nz Tz cmpv)
def sgm (b : Bool) (z : Int) : Int := if b then -z else z
/-- a Dyad in its form: sign, limbs, exponent -/
def GV (w : World) (b : Bool) (A : Option Addr) (n c : Nat) (x : Int) (d : Dy) : Prop :=
  NV w (.slice A n c) (d.m.natAbs : Int) ∧ b = decide (d.m < 0) ∧ x = d.x ∧ d.er = 0 ∧ can d.m d.x ∧ inb d.m d.x
/-- the result of a call: a Dyad in its form, and an error -/
def RetD (w : World) (r : Re) (e : Ending) (w' : World) : Prop :=
  ∃ b A n c x, e = .returned (.tuple #[.agg #[.bool b, .slice A n c, .int .i64 x], .int .i64 r.e]) ∧ GV w' b A n c x r.d ∧ Below w.heap.size w w'
theorem GV.zero (w : World) : GV w false none 0 0 0 dz := ⟨NV.nil _ _ _, rfl, rfl, rfl, .inl ⟨rfl, rfl⟩, by decide +kernel⟩
theorem GV.below {w w' : World} {b A n c x d} (h : GV w b A n c x d) (hb : Below w.heap.size w w') : GV w' b A n c x d := ⟨h.1.below hb, h.2⟩
theorem RetD.none {w w' : World} {er : Int} (hb : Below w.heap.size w w') : RetD w ⟨er, dz⟩ (.returned (.tuple #[.agg #[.bool false, .slice none 0 0, .int .i64 0], .int .i64 er])) w' := ⟨_, _, _, _, _, rfl, GV.zero _, hb⟩
theorem fin_sg {b : Bool} {z o x : Int} {k : Nat} (h : z = o * 2 ^ k) (ho : o % 2 = 1) : fin (sgm b z) x = if inb (sgm b o) (x + k) then ⟨0, 0, sgm b o, x + k⟩ else ⟨2, dz⟩ := by
  cases b
  · exact fin_of h ho
  · exact fin_of (m := -z) (o := -o) (by rw [Int.neg_mul, ← h]) (by omega)
theorem nv_set {w : World} {v : Value} {z : Int} {p : Addr} {u : Value} (h : NV w v z) (hu : w.cell? p = some u) (hk : ∀ z, u ≠ .int .u32 z) (x : Value) : NV (w.setCell p x) v z := by
  obtain ⟨L, h1, h2⟩ := h
  exact ⟨L, h1.setCell hu hk x, h2⟩
theorem Blk3 {w : World} {B : Nat} {T : TypeId} {u0 u1 u2 : Value} (h : Blk w B T #[u0, u1, u2]) (v0 v1 v2 : Value) :
    Blk (((w.setCell ⟨B, 0, none⟩ v0).setCell ⟨B, 1, none⟩ v1).setCell ⟨B, 2, none⟩ v2) B T #[v0, v1, v2] := by
  simpa using ((h.set_ 0 v0).set_ 1 v1).set_ 2 v2
/-- a Dyad stored in the cell of the result -/
theorem GV.set3 {w1 : World} {d : Dy} {b b0 : Bool} {A A0 : Option Addr} {n c n0 c0 : Nat} {x x0 : Int} {B : Nat} (hv : GV w1 b A n c x d)
    (hblk : Blk w1 B 26 #[.bool b0, .slice A0 n0 c0, .int .i64 x0]) (v0 v1 v2 : Value) (k0 : ∀ z, v0 ≠ .int .u32 z) (k1 : ∀ z, v1 ≠ .int .u32 z) :
    GV (((w1.setCell ⟨B, 0, none⟩ v0).setCell ⟨B, 1, none⟩ v1).setCell ⟨B, 2, none⟩ v2) b A n c x d := by
  obtain ⟨h1, h2⟩ := hv
  have s1 := nv_set h1 (hblk.at_ 0 rfl) (fun z h => by cases h) v0
  have B1 := hblk.set_ 0 v0
  have s2 := nv_set s1 (u := .slice A0 n0 c0) (B1.at_ 1 (by simp)) (fun z h => by cases h) v1
  have B2 := B1.set_ 1 v1
  exact ⟨nv_set s2 (u := .int .i64 x0) (B2.at_ 2 (by simp)) (fun z h => by cases h) v2, h2⟩
theorem below3 {w w1 : World} {B : Nat} (hb : Below w.heap.size w w1) (hB : w.heap.size ≤ B) (v0 v1 v2 : Value) : Below w.heap.size w (((w1.setCell ⟨B, 0, none⟩ v0).setCell ⟨B, 1, none⟩ v1).setCell ⟨B, 2, none⟩ v2) :=
  ((hb.setCell hB _).setCell hB _).setCell hB _
theorem sh_dn {u : Value} {z : Int} {w : World} (h : PV w u 0 z) (n : Nat) (hn : n ≤ 20000) (hT : TabD w) : ∃ b, Calls Tryz.prog 85 #[u, .int .i64 (-(n : Int))] w (RetSh w 0 (z / 2 ^ n) b) := by
  rcases Nat.eq_zero_or_pos n with rfl | h0
  · have := sh_up h 0 (by omega)
    simp only [Int.pow_zero, Int.mul_one] at this
    refine ⟨false, ?_⟩
    simpa using this
  · exact ⟨_, sh_down h n h0 hn hT⟩
theorem odd_small {o : Int} {t : Nat} {z : Int} (ho : z = o * 2 ^ t) (h0 : 0 < z) : 0 < o ∧ o ≤ z := by
  have hp := two_pos' t
  have h1 : 0 < o := by
    rcases Int.lt_or_le 0 o with h | h
    · exact h
    · have := Int.mul_nonpos_of_nonpos_of_nonneg h (Int.le_of_lt hp)
      omega
  refine ⟨h1, ?_⟩
  have := Int.mul_le_mul_of_nonneg_left (show (1 : Int) ≤ 2 ^ t by omega) (Int.le_of_lt h1)
  omega
theorem tz_small {o : Int} {t : Nat} {z : Int} (ho : z = o * 2 ^ t) (h0 : 0 < z) (hz : z < 4294967296 ^ 400) : t ≤ 12800 := by
  have h1 := odd_small ho h0
  have h2 := Int.mul_le_mul_of_nonneg_right (show (1 : Int) ≤ o by omega) (Int.le_of_lt (two_pos' t))
  have h3 : (2 : Int) ^ t < 4294967296 ^ 400 := by omega
  rw [pow_two] at h3
  have := two_lt h3
  omega
theorem finish_0 (b : Bool) (A : Option Addr) (c : Nat) (x : Int) (w : World) :
    Calls Tryz.prog 67 #[.bool b, .slice A 0 c, .int .i64 x] w (RetD w ⟨0, dz⟩) := by
  go_enter Tryz.func67, Tryz.ntmps67
  go_wp2
  exact bodyPost_ret (v := .tuple #[.agg #[.bool false, .slice none 0 0, .int .i64 0], .int .i64 0]) (by simp [results, Tryz.results67, go_sem]) rfl (RetD.none ((Below.refl _ _).alloc (Nat.le_refl _) _))
theorem finish_c (b : Bool) (A : Option Addr) (n c : Nat) (x z o : Int) (t : Nat) (w : World) (hv : NV w (.slice A n c) z) (hz : z < big3) (hx : -50000 ≤ x ∧ x ≤ 50000)
    (ho : z = o * 2 ^ t) (hoo : o % 2 = 1) (hz2 : z < 4294967296 ^ 400 ∨ z % 2 = 1) (hT : TabD w) :
    Calls Tryz.prog 67 #[.bool b, .slice A n c, .int .i64 x] w (RetD w (fin (sgm b z) x)) := by
  rw [fin_sg ho hoo]
  have hp := hv.pv hz
  obtain ⟨l, l1, l2, l3, l4⟩ := hv
  have h0 : 0 < z := by
    have h1 := lv_nonneg l2
    have h2 : z ≠ 0 := by rw [ho]; exact Int.mul_ne_zero (odd_ne hoo) (Int.ne_of_gt (two_pos' t))
    omega
  have hl3 : l.length ≤ 3000 := len_le l2 l3 (by rw [l4]; exact hz)
  have en := l1.len_.1
  have hn0 : n ≠ 0 := by
    intro h
    rw [h] at en
    have := List.length_eq_zero_iff.1 en.symm
    rw [this] at l4
    simp [lv] at l4
    omega
  have hn1 : ((n : Int) == 0) = false := by simp [hn0]
  have ws := odd_small ho h0
  obtain ⟨r0, hr0⟩ : ∃ r0 : Obj, r0 = .cells #[.bool false, .slice none 0 0, .int .i64 0] 26 := ⟨_, rfl⟩
  have D0 : Below w.heap.size w (w.alloc (.cells #[.bool false, .slice none 0 0, .int .i64 0] 26)) := (Below.refl _ _).alloc (Nat.le_refl _) _
  have LZ : Hid (∀ W, Below w.heap.size w W → Calls Tryz.prog 84 #[.slice A n c] W fun e w' => e = .returned (.int .i64 t) ∧ W = w') := fun W hW =>
    lowZeros_c _ l o t W (l1.below hW) l2 (by omega) (by rw [l4]; exact ho) hoo (hT.below hW)
  have IE : Hid (∀ W, Calls Tryz.prog 82 #[.int .i64 (x + t)] W (fun e w' => e = .returned (.bool (decide (-10000 ≤ x + t ∧ x + t ≤ 10000))) ∧ W = w')) := fun W => isExp_c (x + t) W
  have R0 := Blk.new w 26 #[.bool false, .slice none 0 0, .int .i64 0]
  have R0 := Lib.hid R0
  have D0 := Lib.hid D0
  by_cases hs : z < 4294967296 ^ 400
  · have ht := tz_small ho h0 hs
    rw [show erz z = 0 from if_pos hs] at hp
    have SH : Hid (∀ W, Below w.heap.size w W → ∃ bl, Calls Tryz.prog 85 #[.slice A n c, .int .i64 (-(t : Int))] W (RetSh W 0 o bl)) := fun W hW => by
      obtain ⟨bl, h⟩ := sh_dn (hp.below hW) t (by omega) (hT.below hW)
      rw [ho, Int.mul_ediv_cancel _ (Int.ne_of_gt (two_pos' t))] at h
      exact ⟨bl, h⟩
    have i1 : IntKind.i64.wrap (-(t : Int)) = -(t : Int) := IntWalk.i64_in _ (by omega)
    have i2 : IntKind.i64.wrap (x + t) = x + t := IntWalk.i64_in _ (by omega)
    obtain ⟨T, eT⟩ : ∃ T : Int, (t : Int) = T := ⟨_, rfl⟩
    rw [eT] at LZ SH i1 i2 IE ⊢
    have hs2 : o < 4294967296 ^ 400 := by omega
    have WS := Lib.hid ws
    have OO := Lib.hid hoo
    have S2 := Lib.hid hs2
    clear hs2 hp l1 l2 l3 l4 hs hz2 hz h0 hl3 en hn0 ht hT ho hoo eT hx hr0 ws
    by_cases hin : -10000 ≤ x + T ∧ x + T ≤ 10000
    · have hI : inb (sgm b o) (x + T) := by
        unfold inb sgm
        have a1 := WS.out
        have a2 := S2.out
        generalize (4294967296 : Int) ^ 400 = P at *
        cases b
        · exact ⟨a2, by simp; omega, hin⟩
        · exact ⟨by simp; omega, by simp; omega, hin⟩
      rw [if_pos hI]
      rw [decide_eq_true hin] at IE
      have HI := Lib.hid hI
      have HG : Hid (∀ (W : World) A' n' c', NV W (.slice A' n' c') o → GV W b A' n' c' (x + T) ⟨0, sgm b o, x + T⟩) := fun W A' n' c' h => by
        have a1 := WS.out
        refine ⟨?_, ?_, rfl, rfl, .inr ?_, HI.out⟩
        · show NV W _ ((sgm b o).natAbs : Int)
          rw [show ((sgm b o).natAbs : Int) = o by unfold sgm; cases b <;> simp <;> omega]; exact h
        · show b = decide (sgm b o < 0)
          unfold sgm; cases b <;> simp <;> omega
        · have := OO.out
          show sgm b o % 2 = 1
          unfold sgm; cases b <;> simp <;> omega
      clear hin hI
      go_enter Tryz.func67, Tryz.ntmps67
      go_wp2_with (first | (go_at_call 84; (with_reducible refine (LZ.out _ D0.out).mono ?_); rintro e w' ⟨rfl, rfl⟩) | (go_at_call 85; obtain ⟨bl, hsh⟩ := SH.out _ D0.out; (with_reducible refine hsh.mono ?_); rintro e w2 ⟨A2, n2, c2, rfl, hv2, hb2⟩; have D2 := Lib.hid (D0.out.trans (hb2.mono D0.out.size)); have R2 := R0.out.below hb2 R0.out.lt; have q0 := R2.at_ 0 rfl; have q1 := R2.at_ 1 rfl; have q2 := R2.at_ 2 rfl; have f0 := R2.frozen 0; have f1 := R2.frozen 1; have f2 := R2.frozen 2; have R2 := Lib.hid R2; have G2 := Lib.hid (HG.out _ _ _ _ hv2)) | (go_at_call 82; (with_reducible refine (IE.out _).mono ?_); rintro e w' ⟨rfl, rfl⟩))
      exact bodyPost_ret (v := .tuple #[.agg #[.bool b, .slice A2 n2 c2, .int .i64 (x + T)], .int .i64 0]) (by simp [results, Tryz.results67, go_sem, q0, q1, q2]) rfl
        ⟨_, _, _, _, _, rfl, G2.out.set3 R2.out _ _ _ (by intro z h; cases h) (by intro z h; cases h), below3 D2.out (Nat.le_refl _) _ _ _⟩
    · have hI : ¬ inb (sgm b o) (x + T) := fun h => hin ⟨h.2.2.1, h.2.2.2⟩
      rw [if_neg hI]
      rw [decide_eq_false hin] at IE
      clear hin hI
      go_enter Tryz.func67, Tryz.ntmps67
      go_wp2_with (first | (go_at_call 84; (with_reducible refine (LZ.out _ D0.out).mono ?_); rintro e w' ⟨rfl, rfl⟩) | (go_at_call 85; obtain ⟨bl, hsh⟩ := SH.out _ D0.out; (with_reducible refine hsh.mono ?_); rintro e w2 ⟨A2, n2, c2, rfl, hv2, hb2⟩; have D2 := Lib.hid (D0.out.trans (hb2.mono D0.out.size)); have R2 := R0.out.below hb2 R0.out.lt; have q0 := R2.at_ 0 rfl; have q1 := R2.at_ 1 rfl; have q2 := R2.at_ 2 rfl; have f0 := R2.frozen 0; have f1 := R2.frozen 1; have f2 := R2.frozen 2; have R2 := Lib.hid R2) | (go_at_call 82; (with_reducible refine (IE.out _).mono ?_); rintro e w' ⟨rfl, rfl⟩))
      exact bodyPost_ret (v := .tuple #[.agg #[.bool false, .slice none 0 0, .int .i64 0], .int .i64 2]) (by simp [results, Tryz.results67, go_sem, q0, q1, q2]) rfl
        (RetD.none (below3 D2.out (Nat.le_refl _) _ _ _))
  · have hodd : z % 2 = 1 := by rcases hz2 with h | h; exact absurd h hs; exact h
    obtain ⟨e1, e2⟩ := odd_unique (show z * 2 ^ 0 = o * 2 ^ t by rw [← ho]; simp) hodd hoo
    have hE : erz z = 2 := if_neg hs
    rw [hE] at hp
    have SH : Hid (∀ W, Below w.heap.size w W → Calls Tryz.prog 85 #[.slice A n c, .int .i64 0] W (RetSh W 2 0 false)) := fun W hW => sh_err (hp.below hW) (by decide)
    rw [← e2] at LZ
    have hI : ¬ inb (sgm b o) (x + t) := by
      intro h
      unfold inb sgm at h
      rw [← e1] at h
      generalize (4294967296 : Int) ^ 400 = P at *
      cases b
      · simp at h; omega
      · simp at h; omega
    rw [if_neg hI]
    have e3 : ((0 : Nat) : Int) = 0 := rfl
    rw [e3] at LZ
    clear hI hp l1 l2 l3 l4 hs hz2 hz h0 hl3 en hn0 hT ho hoo hx hr0 ws hodd e1 e2 hE IE e3
    go_enter Tryz.func67, Tryz.ntmps67
    go_wp2_with (first | (go_at_call 84; (with_reducible refine (LZ.out _ D0.out).mono ?_); rintro e w' ⟨rfl, rfl⟩) | (go_at_call 85; (with_reducible refine (SH.out _ D0.out).mono ?_); rintro e w2 ⟨A2, n2, c2, rfl, hv2, hb2⟩; have D2 := Lib.hid (D0.out.trans (hb2.mono D0.out.size)); have R2 := R0.out.below hb2 R0.out.lt; have q0 := R2.at_ 0 rfl; have q1 := R2.at_ 1 rfl; have q2 := R2.at_ 2 rfl; have f0 := R2.frozen 0; have f1 := R2.frozen 1; have f2 := R2.frozen 2; have R2 := Lib.hid R2))
    exact bodyPost_ret (v := .tuple #[.agg #[.bool false, .slice none 0 0, .int .i64 0], .int .i64 2]) (by simp [results, Tryz.results67, go_sem, q0, q1, q2]) rfl
        (RetD.none (below3 D2.out (Nat.le_refl _) _ _ _))
end DC
end Go.Proofs.YtelblhgagpkjmaaGreatDoor

/-
  Package nat: Of.
-/
namespace Go.Proofs.YtelblhgagpkjmaaGreatDoor
set_option linter.unusedVariables false
set_option linter.unusedSimpArgs false
open Go.RowKit
set_option linter.unusedVariables false
namespace NC
open L
open Z (Nz Tz cmpv)
theorem Of_c (n : Int) (w : World) (hn : 0 ≤ n ∧ n < 18446744073709551616) : Calls Tryz.prog 72 #[.int .u64 n] w (RetV w n) := by
  have hT := trim_c (some ⟨w.heap.size, 0, none⟩) 2 2 [n % 4294967296, n / 4294967296] (w.alloc (.cells #[.int .u32 (n % 4294967296), .int .u32 (n / 4294967296)] 94)) (Row.sl (L := [n % 4294967296, n / 4294967296]) (by
    have := Blk.new w 94 #[.int .u32 (n % 4294967296), .int .u32 (n / 4294967296)]
    exact this) 2 (by simp)) (by simp)
  have T := Lib.hid hT
  have hv : lv [n % 4294967296, n / 4294967296] = n := by simp [lv]; omega
  have hl : Lim [n % 4294967296, n / 4294967296] := by intro d hd; simp at hd; rcases hd with rfl | rfl <;> omega
  have HV := Lib.hid hv
  have HL := Lib.hid hl
  have HS : Hid (Sl .u32 (w.alloc (.cells #[.int .u32 (n % 4294967296), .int .u32 (n / 4294967296)] 94)) (.slice (some ⟨w.heap.size, 0, none⟩) 2 2) [n % 4294967296, n / 4294967296]) := Row.sl (L := [n % 4294967296, n / 4294967296]) (Blk.new w 94 #[.int .u32 (n % 4294967296), .int .u32 (n / 4294967296)]) 2 (by simp)
  clear hT hv hl
  go_enter Tryz.func72, Tryz.ntmps72
  go_wp2_with (first | (go_at_call 93; (with_reducible refine (T.out).mono ?_); rintro e w2 ⟨m, rfl, hm, hz, hv, rfl⟩))
  go_ret
  exact ⟨_, _, _, rfl, trimmed (L := [n % 4294967296, n / 4294967296]) HS.out hm HL.out hz hv HV.out, (Below.refl _ _).alloc (Nat.le_refl _) _⟩
end NC
end Go.Proofs.YtelblhgagpkjmaaGreatDoor

/-
  Package dyad: align, top, finishHalf.
-/
namespace Go.Proofs.YtelblhgagpkjmaaGreatDoor
set_option linter.unusedVariables false
set_option linter.unusedSimpArgs false
open Go.RowKit
set_option linter.unusedVariables false
namespace DC
open L NC NK
open Z (Nz Tz cmpv)
/-- the cells of a boxed Dyad -/
def BX (W : World) (g : Nat) (b : Bool) (A : Option Addr) (n c : Nat) (x : Int) : Prop :=
  W.cell? ⟨g, 0, none⟩ = some (.bool b) ∧ W.cell? ⟨g, 1, none⟩ = some (.slice A n c) ∧ W.cell? ⟨g, 2, none⟩ = some (.int .i64 x)
theorem BX.of {W : World} {g : Nat} {b : Bool} {A : Option Addr} {n c : Nat} {x : Int} (h : Blk W g 26 #[.bool b, .slice A n c, .int .i64 x]) : BX W g b A n c x :=
  ⟨h.at_ 0 rfl, h.at_ 1 rfl, h.at_ 2 rfl⟩
def dy (b : Bool) (A : Option Addr) (n c : Nat) (x : Int) : Value := .agg #[.bool b, .slice A n c, .int .i64 x]
/-- a number moved by bits, rounded down -/
def shq (m k : Int) : Int := if 0 ≤ k then m * 2 ^ k.toNat else m / 2 ^ (-k).toNat
theorem shq_up (m : Int) (k : Nat) : shq m k = m * 2 ^ k := by unfold shq; rw [if_pos (by omega)]; simp
theorem shq_one (m : Int) : shq m (-1) = m / 2 := by unfold shq; rw [if_neg (by omega)]; simp
theorem sh_any {u : Value} {z : Int} {w : World} (h : PV w u 0 z) (k : Int) (h1 : -20000 ≤ k) (h2 : k ≤ 20000) (hT : TabD w) : ∃ b, Calls Tryz.prog 85 #[u, .int .i64 k] w (RetSh w 0 (shq z k) b) := by
  by_cases h0 : 0 ≤ k
  · obtain ⟨n, rfl⟩ := Int.eq_ofNat_of_zero_le h0
    exact ⟨_, by rw [shq_up]; exact sh_up h n (by omega)⟩
  · obtain ⟨n, hn⟩ := Int.eq_ofNat_of_zero_le (show 0 ≤ -k by omega)
    obtain ⟨b, hb⟩ := sh_dn h n (by omega) hT
    refine ⟨b, ?_⟩
    rw [show k = -(n : Int) by omega]
    unfold shq
    rw [if_neg (by omega), show (- -(n : Int)).toNat = n by omega]
    exact hb
theorem GV.pv {w : World} {b A n c x d} (h : GV w b A n c x d) : PV w (.slice A n c) 0 (d.m.natAbs : Int) := by
  have hs : (d.m.natAbs : Int) < 4294967296 ^ 400 := by
    have h2 := h.2.2.2.2.2
    unfold inb at h2
    generalize (4294967296 : Int) ^ 400 = P at *
    omega
  have := h.1.pv (Int.lt_of_lt_of_le hs (by unfold big3; exact pow_mono (by decide)))
  rwa [show erz (d.m.natAbs : Int) = 0 from if_pos hs] at this
/-- two numbers -/
def RetA (w : World) (y z : Int) (e : Ending) (w' : World) : Prop := ∃ A n c A' n' c', e = .returned (.tuple #[.slice A n c, .slice A' n' c']) ∧ NV w' (.slice A n c) y ∧ NV w' (.slice A' n' c') z ∧ Below w.heap.size w w'
theorem align_c (b1 b2 : Bool) (A1 A2 : Option Addr) (n1 c1 n2 c2 : Nat) (x1 x2 : Int) (d1 d2 : Dy) (k : Int) (w : World) (h1 : GV w b1 A1 n1 c1 x1 d1) (h2 : GV w b2 A2 n2 c2 x2 d2)
    (k1 : -20000 ≤ d1.x - k ∧ d1.x - k ≤ 20000) (k2 : -20000 ≤ d2.x - k ∧ d2.x - k ≤ 20000) (k3 : -10000 ≤ k ∧ k ≤ 10001) (hT : TabD w) :
    Calls Tryz.prog 86 #[.agg #[.bool b1, .slice A1 n1 c1, .int .i64 x1], .agg #[.bool b2, .slice A2 n2 c2, .int .i64 x2], .int .i64 k] w (RetA w (shq d1.m.natAbs (d1.x - k)) (shq d2.m.natAbs (d2.x - k))) := by
  have e1 : x1 = d1.x := h1.2.2.1
  have e2 : x2 = d2.x := h2.2.2.1
  obtain ⟨-, -, y1, y2⟩ := h1.2.2.2.2.2
  obtain ⟨-, -, y3, y4⟩ := h2.2.2.2.2.2
  subst e1
  subst e2
  have N := new2 w 26 26 #[.bool b1, .slice A1 n1 c1, .int .i64 d1.x] #[.bool b2, .slice A2 n2 c2, .int .i64 d2.x] 0
  obtain ⟨N1, N2, NS, NB⟩ := N
  rw [World.drewN_zero] at N1 N2 NS NB
  have KB : Hid (∀ W, Below ((w.alloc (.cells #[.bool b1, .slice A1 n1 c1, .int .i64 d1.x] 26)).alloc (.cells #[.bool b2, .slice A2 n2 c2, .int .i64 d2.x] 26)).heap.size ((w.alloc (.cells #[.bool b1, .slice A1 n1 c1, .int .i64 d1.x] 26)).alloc (.cells #[.bool b2, .slice A2 n2 c2, .int .i64 d2.x] 26)) W → BX W w.heap.size b1 A1 n1 c1 d1.x ∧ BX W (w.heap.size + 1) b2 A2 n2 c2 d2.x) := fun W hW =>
    ⟨BX.of (N1.below hW N1.lt), BX.of (N2.below hW N2.lt)⟩
  have S1 : Hid (∀ W, Below w.heap.size w W → ∃ bl, Calls Tryz.prog 85 #[.slice A1 n1 c1, .int .i64 (d1.x - k)] W (RetSh W 0 (shq d1.m.natAbs (d1.x - k)) bl)) := fun W hW => sh_any (h1.pv.below hW) _ k1.1 k1.2 (hT.below hW)
  have S2 : Hid (∀ W, Below w.heap.size w W → ∃ bl, Calls Tryz.prog 85 #[.slice A2 n2 c2, .int .i64 (d2.x - k)] W (RetSh W 0 (shq d2.m.natAbs (d2.x - k)) bl)) := fun W hW => sh_any (h2.pv.below hW) _ k2.1 k2.2 (hT.below hW)
  have i1 : IntKind.i64.wrap (d1.x - k) = d1.x - k := IntWalk.i64_in _ (by omega)
  have i2 : IntKind.i64.wrap (d2.x - k) = d2.x - k := IntWalk.i64_in _ (by omega)
  have D0 := Lib.hid NB
  clear NB N1 N2 NS h1 h2 k1 k2 k3 hT y1 y2 y3 y4
  generalize shq d1.m.natAbs (d1.x - k) = z1 at *
  generalize shq d2.m.natAbs (d2.x - k) = z2 at *
  go_enter Tryz.func86, Tryz.ntmps86
  go_wp2_with (first
    | (go_at_call 85; obtain ⟨bl, hsh⟩ := S1.out _ D0.out; (with_reducible refine hsh.mono ?_); rintro e w2 ⟨A3, n3, c3, rfl, hv3, hb3⟩; obtain ⟨-, p0, p1, p2⟩ := KB.out _ hb3; have D2 := Lib.hid (D0.out.trans (hb3.mono D0.out.size)))
    | (go_at_call 85; obtain ⟨bl2, hsh⟩ := S2.out _ D2.out; (with_reducible refine hsh.mono ?_); rintro e w3 ⟨A4, n4, c4, rfl, hv4, hb4⟩))
  go_ret2
  exact ⟨_, _, _, _, _, _, rfl, hv3.below hb4, hv4, D2.out.trans (hb4.mono D2.out.size)⟩
def RetTop (w : World) (d : Dy) (e : Ending) (w' : World) : Prop :=
  ∃ k : Nat, e = .returned (.int .i64 (k + d.x)) ∧ k ≤ 12800 ∧ Hid ((d.m.natAbs : Int) < 2 ^ k ∧ (k = 0 ∨ 2 ^ (k - 1) ≤ (d.m.natAbs : Int))) ∧ Below w.heap.size w w'
theorem top_c (b : Bool) (A : Option Addr) (n c : Nat) (x : Int) (d : Dy) (w : World) (h : GV w b A n c x d) :
    Calls Tryz.prog 90 #[.agg #[.bool b, .slice A n c, .int .i64 x]] w (RetTop w d) := by
  have e1 : x = d.x := h.2.2.1
  obtain ⟨-, -, y1, y2⟩ := h.2.2.2.2.2
  subst e1
  have D0 : Below w.heap.size w (w.alloc (.cells #[.bool b, .slice A n c, .int .i64 d.x] 26)) := (Below.refl _ _).alloc (Nat.le_refl _) _
  have BT : Hid (∀ W, Below w.heap.size w W → Calls Tryz.prog 59 #[.slice A n c] W (RetBits W 0 d.m.natAbs)) := fun W hW => bits_p (h.pv.below hW)
  have D0 := Lib.hid D0
  have IB : Hid (∀ k : Nat, k ≤ 12800 → IntKind.i64.wrap ((k : Int) + d.x) = k + d.x) := fun k hk => IntWalk.i64_in _ (by omega)
  clear h y1 y2
  go_enter Tryz.func90, Tryz.ntmps90
  go_wp2_with (go_at_call 59; (with_reducible refine (BT.out _ D0.out).mono ?_); rintro e w2 ⟨k, rfl, hk, hk1, hk2, rfl⟩; have ib := IB.out k hk)
  go_ret
  exact ⟨k, rfl, hk, hk1.out (by first | trivial | rfl), D0.out⟩
/-- 2 s and 1, over 2^x -/
theorem fin_big {b : Bool} {z x : Int} (h : z % 2 = 1) (hz : ¬ z < 4294967296 ^ 400) : fin (sgm b z) x = ⟨2, dz⟩ := by
  rw [fin_sg (k := 0) (show z = z * 2 ^ 0 by simp) h, if_neg]
  intro hi
  unfold inb sgm at hi
  have hp : (0 : Int) < 4294967296 ^ 400 := pow_pos 400
  generalize (4294967296 : Int) ^ 400 = P at *
  cases b
  · simp at hi; omega
  · simp at hi; omega
theorem nv_erz {w : World} {v : Value} {s : Int} (h : NV w v s) (hs : s < big3) : 0 ≤ s := by
  obtain ⟨l, h1, h2, h3, h4⟩ := h
  rw [← h4]; exact lv_nonneg h2
theorem finish_any (b : Bool) (A : Option Addr) (n c : Nat) (x z : Int) (w : World) (hv : NV w (.slice A n c) z) (hz : z < big3) (hx : -50000 ≤ x ∧ x ≤ 50000) (hz2 : z < 4294967296 ^ 400 ∨ z % 2 = 1) (hT : TabD w) :
    Calls Tryz.prog 67 #[.bool b, .slice A n c, .int .i64 x] w (RetD w (fin (sgm b z) x)) := by
  by_cases h0 : z = 0
  · subst h0
    obtain rfl := NV.zero hv
    rw [show sgm b 0 = 0 by cases b <;> rfl, fin_zero]
    exact finish_0 b A c x w
  · obtain ⟨o, h1, h2⟩ := tz_spec h0
    exact finish_c b A n c x z o (tz z) w hv hz hx h1 h2 hz2 hT
/-- behind the allocation of the result's cell -/
theorem res0 (w : World) : ∃ W0, w.alloc (.cells #[.bool false, .slice none 0 0, .int .i64 0] 26) = W0 ∧ Below w.heap.size w W0 ∧ W0.heap.size = w.heap.size + 1 ∧
    (∀ W, Below W0.heap.size W0 W → Blk W w.heap.size 26 #[.bool false, .slice none 0 0, .int .i64 0]) :=
  ⟨_, rfl, (Below.refl _ _).alloc (Nat.le_refl _) _, by simp, fun W h => (Blk.new w _ _).below h (Blk.new w 26 #[.bool false, .slice none 0 0, .int .i64 0]).lt⟩
theorem finishHalf_c (b : Bool) (A : Option Addr) (n c : Nat) (x s : Int) (w : World) (hv : NV w (.slice A n c) s) (hs : s < big3) (hx : -50000 ≤ x ∧ x ≤ 50000) (hT : TabD w) :
    Calls Tryz.prog 88 #[.bool b, .slice A n c, .int .i64 x] w (RetD w (fin (sgm b (2 * s + 1)) x)) := by
  have s0 := nv_erz hv hs
  have hp := hv.pv hs
  obtain ⟨W0, hW0, D0, ZS, KB⟩ := res0 w
  have KB := Lib.hid KB
  have D0 := Lib.hid D0
  have SZ := Lib.hid ZS
  have HW0 := Lib.hid hW0
  by_cases h1 : s < 4294967296 ^ 400
  · rw [show erz s = 0 from if_pos h1] at hp
    have SH : Hid (∃ bl, Calls Tryz.prog 85 #[.slice A n c, .int .i64 1] W0 (RetSh W0 0 (2 * s) bl)) := by
      have := sh_up (hp.below D0.out) 1 (by omega)
      rw [show s * 2 ^ 1 = 2 * s by omega] at this
      exact ⟨_, this⟩
    have OF : Hid (∀ W, Calls Tryz.prog 72 #[.int .u64 1] W (RetV W 1)) := fun W => Of_c 1 W (by omega)
    have b3 : 2 * s < big3 := by
      have := shift_small h1 s0 (show 1 ≤ 20001 by omega)
      omega
    by_cases h2 : 2 * s < 4294967296 ^ 400
    · have AD : Hid (∀ W A1 n1 c1 A2 n2 c2, NV W (.slice A1 n1 c1) (2 * s) → NV W (.slice A2 n2 c2) 1 → Calls Tryz.prog 87 #[.slice A1 n1 c1, .slice A2 n2 c2] W (RetP W 0 (2 * s + 1))) := fun W A1 n1 c1 A2 n2 c2 g1 g2 => by
        have q1 := g1.pv b3
        rw [show erz (2 * s) = 0 from if_pos h2] at q1
        have q2 := g2.pv (small_big (by decide))
        rw [erz0 (by decide)] at q2
        exact Add_p q1 q2
      have FN : Hid (∀ W A1 n1 c1, Below W0.heap.size W0 W → NV W (.slice A1 n1 c1) (2 * s + 1) → Calls Tryz.prog 67 #[.bool b, .slice A1 n1 c1, .int .i64 x] W (RetD W (fin (sgm b (2 * s + 1)) x))) := fun W A1 n1 c1 hW g =>
        finish_any b A1 n1 c1 x _ W g (by
          have h3 : (4294967296 : Int) ^ 400 ≤ big3 := by unfold big3; exact pow_mono (by decide)
          have h4 := (big3_bds h2 (show (1 : Int) < 4294967296 ^ 400 from Int.lt_of_lt_of_le (show (1 : Int) < 4294967296 ^ 1 by decide) (pow_mono (by decide))) (by omega) (by omega)).1
          exact h4) hx (.inr (by omega)) ((hT.below D0.out).below hW)
      generalize fin (sgm b (2 * s + 1)) x = r at *
      clear hp h1 h2 b3 hv hs hx hT s0 hW0 ZS
      go_enter Tryz.func88, Tryz.ntmps88
      go_wp2_with (first
        | (go_at_call 85; rw [HW0.out]; obtain ⟨bl, hsh⟩ := SH.out; (with_reducible refine hsh.mono ?_); rintro e w2 ⟨A2, n2, c2, rfl, hv2, hb2⟩; have D2 := Lib.hid hb2)
        | (go_at_call 72; (with_reducible refine (OF.out _).mono ?_); rintro e w3 ⟨A3, n3, c3, rfl, hv3, hb3⟩; have hv2 := hv2.below hb3; have D3 := Lib.hid (D2.out.trans (hb3.mono D2.out.size)))
        | (go_at_call 87; (with_reducible refine (AD.out _ _ _ _ _ _ _ hv2 hv3).mono ?_); rintro e w4 ⟨A4, n4, c4, rfl, hp4, hv4, hb4⟩; have D4 := Lib.hid (D3.out.trans (hb4.mono D3.out.size)))
        | (go_at_call 67; (with_reducible refine (FN.out _ _ _ _ D4.out hv4).mono ?_); rintro e w5 ⟨bb, A5, n5, c5, x5, rfl, hv5, hb5⟩; have D5 := Lib.hid (D4.out.trans (hb5.mono D4.out.size)); have R2 := KB.out _ D5.out; have q0 := R2.at_ 0 rfl; have q1 := R2.at_ 1 rfl; have q2 := R2.at_ 2 rfl; have f0 := R2.frozen 0; have f1 := R2.frozen 1; have f2 := R2.frozen 2; have R2 := Lib.hid R2))
      exact bodyPost_ret (v := .tuple #[.agg #[.bool bb, .slice A5 n5 c5, .int .i64 x5], .int .i64 r.e]) (by simp [results, Tryz.results88, go_sem, q0, q1, q2]) rfl
        ⟨_, _, _, _, _, rfl, hv5.set3 R2.out _ _ _ (by intro z h; cases h) (by intro z h; cases h), below3 (D0.out.trans (D5.out.mono D0.out.size)) (Nat.le_refl _) _ _ _⟩
    · have AD : Hid (∀ W A1 n1 c1 A2 n2 c2, NV W (.slice A1 n1 c1) (2 * s) → NV W (.slice A2 n2 c2) 1 → Calls Tryz.prog 87 #[.slice A1 n1 c1, .slice A2 n2 c2] W (RetP W 2 0)) := fun W A1 n1 c1 A2 n2 c2 g1 g2 => by
        have q1 := g1.pv b3
        rw [show erz (2 * s) = 2 from if_neg h2] at q1
        have q2 := g2.pv (small_big (by decide))
        rw [erz0 (by decide)] at q2
        exact Add_p q1 q2
      rw [fin_big (by omega) (by omega)]
      clear hp h1 h2 b3 hv hs hx hT s0 hW0 ZS
      go_enter Tryz.func88, Tryz.ntmps88
      go_wp2_with (first
        | (go_at_call 85; rw [HW0.out]; obtain ⟨bl, hsh⟩ := SH.out; (with_reducible refine hsh.mono ?_); rintro e w2 ⟨A2, n2, c2, rfl, hv2, hb2⟩; have D2 := Lib.hid hb2)
        | (go_at_call 72; (with_reducible refine (OF.out _).mono ?_); rintro e w3 ⟨A3, n3, c3, rfl, hv3, hb3⟩; have hv2 := hv2.below hb3; have D3 := Lib.hid (D2.out.trans (hb3.mono D2.out.size)))
        | (go_at_call 87; (with_reducible refine (AD.out _ _ _ _ _ _ _ hv2 hv3).mono ?_); rintro e w4 ⟨A4, n4, c4, rfl, hp4, hv4, hb4⟩; have D5 := Lib.hid (D3.out.trans (hb4.mono D3.out.size)); have R2 := KB.out _ D5.out; have q0 := R2.at_ 0 rfl; have q1 := R2.at_ 1 rfl; have q2 := R2.at_ 2 rfl; have f0 := R2.frozen 0; have f1 := R2.frozen 1; have f2 := R2.frozen 2; have R2 := Lib.hid R2))
      exact bodyPost_ret (v := .tuple #[.agg #[.bool false, .slice none 0 0, .int .i64 0], .int .i64 2]) (by simp [results, Tryz.results88, go_sem, q0, q1, q2]) rfl
        (RetD.none (below3 (D0.out.trans (D5.out.mono D0.out.size)) (Nat.le_refl _) _ _ _))
  · rw [show erz s = 2 from if_neg h1] at hp
    have SH : Hid (Calls Tryz.prog 85 #[.slice A n c, .int .i64 1] W0 (RetSh W0 2 0 false)) := sh_err (hp.below D0.out) (by decide)
    rw [fin_big (by omega) (by omega)]
    clear hp h1 hv hs hx hT s0 hW0 ZS
    go_enter Tryz.func88, Tryz.ntmps88
    go_wp2_with (go_at_call 85; rw [HW0.out]; (with_reducible refine SH.out.mono ?_); rintro e w2 ⟨A2, n2, c2, rfl, hv2, hb2⟩; have D5 := Lib.hid hb2; have R2 := KB.out _ D5.out; have q0 := R2.at_ 0 rfl; have q1 := R2.at_ 1 rfl; have q2 := R2.at_ 2 rfl; have f0 := R2.frozen 0; have f1 := R2.frozen 1; have f2 := R2.frozen 2; have R2 := Lib.hid R2)
    exact bodyPost_ret (v := .tuple #[.agg #[.bool false, .slice none 0 0, .int .i64 0], .int .i64 2]) (by simp [results, Tryz.results88, go_sem, q0, q1, q2]) rfl
        (RetD.none (below3 (D0.out.trans (D5.out.mono D0.out.size)) (Nat.le_refl _) _ _ _))
end DC
end Go.Proofs.YtelblhgagpkjmaaGreatDoor

/-
  Package dyad: compareSizes.
-/
namespace Go.Proofs.YtelblhgagpkjmaaGreatDoor
set_option linter.unusedVariables false
set_option linter.unusedSimpArgs false
open Go.RowKit
set_option linter.unusedVariables false
namespace DC
open L NC NK
open Z (Nz Tz cmpv)
/-- without its sign -/
def ab (d : Dy) : Dy := ⟨d.er, d.m.natAbs, d.x⟩
/-- behind two boxes -/
theorem box2 (w : World) (b1 b2 : Bool) (A1 A2 : Option Addr) (n1 c1 n2 c2 : Nat) (x1 x2 : Int) :
    ∃ W0, (w.alloc (.cells #[.bool b1, .slice A1 n1 c1, .int .i64 x1] 26)).alloc (.cells #[.bool b2, .slice A2 n2 c2, .int .i64 x2] 26) = W0 ∧ Below w.heap.size w W0 ∧
    (∀ W, Below W0.heap.size W0 W → BX W w.heap.size b1 A1 n1 c1 x1 ∧ BX W (w.heap.size + 1) b2 A2 n2 c2 x2) := by
  obtain ⟨N1, N2, NS, NB⟩ := new2 w 26 26 #[.bool b1, .slice A1 n1 c1, .int .i64 x1] #[.bool b2, .slice A2 n2 c2, .int .i64 x2] 0
  rw [World.drewN_zero] at N1 N2 NS NB
  exact ⟨_, rfl, NB, fun W h => ⟨BX.of (N1.below h N1.lt), BX.of (N2.below h N2.lt)⟩⟩
theorem gv_zero {w : World} {b A n c x d} (h : GV w b A n c x d) : n = 0 ↔ d.m = 0 := by
  constructor
  · rintro rfl
    obtain ⟨l, h1, h2, h3, h4⟩ := h.1
    have := List.length_eq_zero_iff.1 (h1.len_.1.symm)
    rw [this] at h4
    simp [lv] at h4
    omega
  · intro e
    have h1 := h.1
    rw [e] at h1
    exact NV.zero h1
theorem tops_lt {m1 m2 : Int} {k1 k2 i j : Nat} (h1 : m1 < 2 ^ k1) (h2 : k2 = 0 ∨ 2 ^ (k2 - 1) ≤ m2) (p2 : 0 < m2) (q2 : m2 < 2 ^ k2) (hk : (k1 : Int) + i < k2 + j) : m1 * 2 ^ i < m2 * 2 ^ j := by
  have hk2 : 0 < k2 := by
    rcases Nat.eq_zero_or_pos k2 with h | h
    · rw [h] at q2; simp at q2; omega
    · exact h
  have h2 : (2 : Int) ^ (k2 - 1) ≤ m2 := by rcases h2 with h | h; omega; exact h
  have a1 := Int.mul_lt_mul_of_pos_right h1 (two_pos' i)
  have a2 := Int.mul_le_mul_of_nonneg_right h2 (Int.le_of_lt (two_pos' j))
  rw [← Int.pow_add] at a1 a2
  have a3 : (2 : Int) ^ (k1 + i) ≤ 2 ^ (k2 - 1 + j) := two_mono (by omega)
  omega
theorem tops_small {m1 : Int} {k1 k2 i j : Nat} (h1 : m1 < 2 ^ k1) (hk : (k1 : Int) + i = k2 + j) (hj : i = 0 ∨ j = 0) (b1 : k1 ≤ 12800) (b2 : k2 ≤ 12800) : m1 * 2 ^ i < 4294967296 ^ 400 := by
  have a1 := Int.mul_lt_mul_of_pos_right h1 (two_pos' i)
  rw [← Int.pow_add] at a1
  have a2 : (2 : Int) ^ (k1 + i) ≤ 2 ^ 12800 := two_mono (by omega)
  rw [pow_two]
  have e : 32 * 400 = 12800 := by decide
  rw [e]
  omega
set_option maxRecDepth 100000 in
theorem compareSizes_c (b1 b2 : Bool) (A1 A2 : Option Addr) (n1 c1 n2 c2 : Nat) (x1 x2 : Int) (d1 d2 : Dy) (w : World) (h1 : GV w b1 A1 n1 c1 x1 d1) (h2 : GV w b2 A2 n2 c2 x2 d2) (hT : TabD w) :
    Calls Tryz.prog 69 #[.agg #[.bool b1, .slice A1 n1 c1, .int .i64 x1], .agg #[.bool b2, .slice A2 n2 c2, .int .i64 x2]] w (RetB w (.int .i64 (cmpv (lv2 (ab d1) (ab d2)) (lv2 (ab d2) (ab d1))))) := by
  have z1 := gv_zero h1
  have z2 := gv_zero h2
  have e1 : x1 = d1.x := h1.2.2.1
  have e2 : x2 = d2.x := h2.2.2.1
  obtain ⟨W0, hW0, D0, KB⟩ := box2 w b1 b2 A1 A2 n1 c1 n2 c2 x1 x2
  have I1 : Hid (∀ W, Calls Tryz.prog 66 #[.agg #[.bool b1, .slice A1 n1 c1, .int .i64 x1]] W (RetB W (.bool (decide (n1 = 0))))) := fun W => isZero_c b1 A1 n1 c1 x1 W
  have I2 : Hid (∀ W, Calls Tryz.prog 66 #[.agg #[.bool b2, .slice A2 n2 c2, .int .i64 x2]] W (RetB W (.bool (decide (n2 = 0))))) := fun W => isZero_c b2 A2 n2 c2 x2 W
  have E1 := Lib.hid e1
  have E2 := Lib.hid e2
  clear e1 e2
  have KC : Hid (∀ W, Below W0.heap.size W0 W → W.cell? ⟨w.heap.size, 0, none⟩ = some (.bool b1) ∧ W.cell? ⟨w.heap.size, 1, none⟩ = some (.slice A1 n1 c1) ∧ W.cell? ⟨w.heap.size, 2, none⟩ = some (.int .i64 x1) ∧
    W.cell? ⟨w.heap.size + 1, 0, none⟩ = some (.bool b2) ∧ W.cell? ⟨w.heap.size + 1, 1, none⟩ = some (.slice A2 n2 c2) ∧ W.cell? ⟨w.heap.size + 1, 2, none⟩ = some (.int .i64 x2)) := fun W h => by
    obtain ⟨⟨p0, p1, p2⟩, q0, q1, q2⟩ := KB W h
    exact ⟨p0, p1, p2, q0, q1, q2⟩
  have KB := Lib.hid KB
  have D0 := Lib.hid D0
  have HW0 := Lib.hid hW0
  have CI : Hid (∀ x y W, Calls Tryz.prog 89 #[.int .i64 x, .int .i64 y] W (fun e w' => e = .returned (.int .i64 (cmpv x y)) ∧ W = w')) := fun x y W => cmpInt_c x y W
  obtain ⟨r, hr⟩ : ∃ r, cmpv (lv2 (ab d1) (ab d2)) (lv2 (ab d2) (ab d1)) = r := ⟨_, rfl⟩
  rw [hr]
  by_cases g1 : n1 = 0
  · have HE : Hid (cmpv (n1 : Int) n2 = r) := by
      show _ = _
      rw [← hr]
      unfold lv2 ab
      rw [z1.1 g1, g1]
      by_cases g2 : n2 = 0
      · rw [z2.1 g2, g2]; simp [cmpv]
      · have : 0 < (d2.m.natAbs : Int) * 2 ^ (d2.x - min d2.x d1.x).toNat := Int.mul_pos (by have := fun h => g2 (z2.2 h); omega) (two_pos' _)
        rw [Z.cmpv_lt (show ((0 : Nat) : Int) < n2 by omega), Z.cmpv_lt (by simpa using this)]
    have t1 : decide (n1 = 0) = true := by simp [g1]
    rw [t1] at I1
    clear h1 h2 z1 z2 hr t1 hT g1 I2 hW0
    go_enter Tryz.func69, Tryz.ntmps69
    go_wp2_with (first
      | (go_at_call 66; rw [HW0.out]; (with_reducible refine (I1.out _).mono ?_); rintro e w2 ⟨rfl, hb2⟩; obtain ⟨⟨p0, p1, p2⟩, q0, q1, q2⟩ := KB.out _ hb2)
      | (go_at_call 89; (with_reducible refine (CI.out _ _ _).mono ?_); rintro e w3 ⟨rfl, rfl⟩))
    go_ret
    exact ⟨ret_int HE.out, D0.out.trans (hb2.mono D0.out.size)⟩
  · have t1 : decide (n1 = 0) = false := by simp [g1]
    rw [t1] at I1
    by_cases g2 : n2 = 0
    · have HE : Hid (cmpv (n1 : Int) n2 = r) := by
        show _ = _
        rw [← hr]
        unfold lv2 ab
        rw [z2.1 g2, g2]
        have : 0 < (d1.m.natAbs : Int) * 2 ^ (d1.x - min d1.x d2.x).toNat := Int.mul_pos (by have := fun h => g1 (z1.2 h); omega) (two_pos' _)
        rw [Z.cmpv_gt (show ((0 : Nat) : Int) < n1 by omega), Z.cmpv_gt (by simpa using this)]
      have t2 : decide (n2 = 0) = true := by simp [g2]
      rw [t2] at I2
      clear h1 h2 z1 z2 hr t1 hT g1 t2 g2 hW0
      go_enter Tryz.func69, Tryz.ntmps69
      go_wp2_with (first
        | (go_at_call 66; rw [HW0.out]; (with_reducible refine (I1.out _).mono ?_); rintro e w2 ⟨rfl, hb2⟩; obtain ⟨⟨p0, p1, p2⟩, q0, q1, q2⟩ := KB.out _ hb2)
        | (go_at_call 66; (with_reducible refine (I2.out _).mono ?_); rintro e w3 ⟨rfl, hb3⟩; have hb2 := hb2.trans (hb3.mono hb2.size); obtain ⟨⟨p0, p1, p2⟩, q0, q1, q2⟩ := KB.out _ hb2)
        | (go_at_call 89; (with_reducible refine (CI.out _ _ _).mono ?_); rintro e w3 ⟨rfl, rfl⟩))
      go_ret
      exact ⟨ret_int HE.out, D0.out.trans (hb2.mono D0.out.size)⟩
    · have t2 : decide (n2 = 0) = false := by simp [g2]
      rw [t2] at I2
      have T1 : Hid (∀ W, Below W0.heap.size W0 W → Calls Tryz.prog 90 #[.agg #[.bool b1, .slice A1 n1 c1, .int .i64 x1]] W (RetTop W d1)) := fun W hW => top_c b1 A1 n1 c1 x1 d1 W ((h1.below D0.out).below hW)
      have T2 : Hid (∀ W, Below W0.heap.size W0 W → Calls Tryz.prog 90 #[.agg #[.bool b2, .slice A2 n2 c2, .int .i64 x2]] W (RetTop W d2)) := fun W hW => top_c b2 A2 n2 c2 x2 d2 W ((h2.below D0.out).below hW)
      clear hW0 t1 t2
      go_enter Tryz.func69, Tryz.ntmps69
      go_upto_region 3 with (first
        | (go_at_call 66; rw [HW0.out]; (with_reducible refine (I1.out _).mono ?_); rintro e w2 ⟨rfl, hb2⟩; obtain ⟨⟨p0, p1, p2⟩, q0, q1, q2⟩ := KB.out _ hb2)
        | (go_at_call 66; (with_reducible refine (I2.out _).mono ?_); rintro e w3 ⟨rfl, hb3⟩; have hb2 := hb2.trans (hb3.mono hb2.size); obtain ⟨⟨p0, p1, p2⟩, q0, q1, q2⟩ := KB.out _ hb2))
      clear p0 p1 p2 q0 q1 q2
      have D := hb2.drew
      (refine wp_region_L (S := fun w' => w'.cell? ⟨w.heap.size, 0, none⟩ = some (.bool b1) ∧ w'.cell? ⟨w.heap.size, 1, none⟩ = some (.slice A1 n1 c1) ∧ w'.cell? ⟨w.heap.size, 2, none⟩ = some (.int .i64 x1) ∧ w'.cell? ⟨w.heap.size + 1, 0, none⟩ = some (.bool b2) ∧ w'.cell? ⟨w.heap.size + 1, 1, none⟩ = some (.slice A2 n2 c2) ∧ w'.cell? ⟨w.heap.size + 1, 2, none⟩ = some (.int .i64 x2)) (nl := 1000000) (by kernel_rfl) ?_ (fun hHeld => ?_); focus (exact KC.out _ D))
      (refine wpAnyL_take (i := 0) (oi := _) (v := ?_) rfl (by kernel_rfl) (by kernel_rfl) (by kernel_rfl) (fun _ _ _ h => h) (Or.inl ⟨by first | rfl | kernel_rfl, ?hy1⟩) (by assumption) ?rs1; (case hy1 => (intro w hSw; (try dsimp only at hSw); go_simp; first | done | with_reducible rfl)); case' rs1 => (simp only [List.getElem_toArray, List.getElem_cons_zero, List.getElem_cons_succ, Act.put, List.setIfInBounds_toArray, List.set_cons_zero, List.set_cons_succ])); (refine wpAnyL_take (i := 2) (oi := _) (v := ?_) rfl (by kernel_rfl) (by kernel_rfl) (by kernel_rfl) (fun _ _ _ h => h) (Or.inl ⟨by first | rfl | kernel_rfl, ?hy2⟩) (by assumption) ?rs2; (case hy2 => (intro w hSw; (try dsimp only at hSw); go_simp; first | done | with_reducible rfl)); case' rs2 => (simp only [List.getElem_toArray, List.getElem_cons_zero, List.getElem_cons_succ, Act.put, List.setIfInBounds_toArray, List.set_cons_zero, List.set_cons_succ])); skip
      (refine wpAnyL_one (i := 1) (o := _) (by kernel_rfl) rfl (fun K hK => ?_); clear hHeld; simp only [List.getElem_toArray, List.getElem_cons_zero, List.getElem_cons_succ]; go_simp; (go_at_call 90; (with_reducible refine (T1.out _ D).mono ?_); rintro e w3 ⟨k1, rfl, hk1, hh1, hb3⟩; have D := D.trans (hb3.mono D.size)); refine hK.out _ _ ?_ (fun hHeld => ?_); focus (intro _; exact KC.out _ D)); have hHeld := hHeld (by decide); clear hK K; (try simp only [Act.put, List.setIfInBounds_toArray, List.set_cons_zero, List.set_cons_succ])
      (refine wpAnyL_one (i := 3) (o := _) (by kernel_rfl) rfl (fun K hK => ?_); clear hHeld; simp only [List.getElem_toArray, List.getElem_cons_zero, List.getElem_cons_succ]; go_simp; (go_at_call 90; (with_reducible refine (T2.out _ D).mono ?_); rintro e w4 ⟨k2, rfl, hk2, hh2, hb4⟩; have D := D.trans (hb4.mono D.size)); refine hK.out _ _ ?_ (fun hHeld => ?_); focus (intro _; exact KC.out _ D)); have hHeld := hHeld (by decide); clear hK K; (try simp only [Act.put, List.setIfInBounds_toArray, List.set_cons_zero, List.set_cons_succ])
      (refine wpAnyL_one (i := 4) (o := _) (by kernel_rfl) rfl (fun K hK => ?_); clear hHeld; simp only [List.getElem_toArray, List.getElem_cons_zero, List.getElem_cons_succ]; go_simp; (go_at_call 89; (with_reducible refine (CI.out _ _ _).mono ?_); rintro e w5 ⟨rfl, rfl⟩); refine hK.out _ _ ?_ (fun hHeld => ?_); focus (intro _; exact KC.out _ D)); have hHeld := hHeld (by decide); clear hK K; (try simp only [Act.put, List.setIfInBounds_toArray, List.set_cons_zero, List.set_cons_succ])
      (refine wpAnyL_take (i := 5) (oi := _) (v := ?_) rfl (by kernel_rfl) (by kernel_rfl) (by kernel_rfl) (fun _ _ _ h => h) (Or.inl ⟨by first | rfl | kernel_rfl, ?hy3⟩) (by assumption) ?rs3; (case hy3 => (intro w hSw; (try dsimp only at hSw); go_simp; first | done | with_reducible rfl)); case' rs3 => (simp only [List.getElem_toArray, List.getElem_cons_zero, List.getElem_cons_succ, Act.put, List.setIfInBounds_toArray, List.set_cons_zero, List.set_cons_succ])); skip
      refine wpAnyL_done (by kernel_rfl) ?_ _
      have hm1 : 0 < (d1.m.natAbs : Int) := by have := fun h => g1 (z1.2 h); omega
      have hm2 : 0 < (d2.m.natAbs : Int) := by have := fun h => g2 (z2.2 h); omega
      have ei : ∃ i : Nat, (i : Int) = d1.x - min d1.x d2.x := ⟨(d1.x - min d1.x d2.x).toNat, by omega⟩
      have ej : ∃ j : Nat, (j : Int) = d2.x - min d1.x d2.x := ⟨(d2.x - min d1.x d2.x).toNat, by omega⟩
      obtain ⟨i, ei⟩ := ei
      obtain ⟨j, ej⟩ := ej
      have HL : cmpv ((d1.m.natAbs : Int) * 2 ^ i) ((d2.m.natAbs : Int) * 2 ^ j) = r := by
        rw [← hr]
        unfold lv2 ab
        simp only
        rw [show (d1.x - min d1.x d2.x).toNat = i by omega, show (d2.x - min d2.x d1.x).toNat = j by omega]
      obtain ⟨u1, u2⟩ := hh1.out
      obtain ⟨v1, v2⟩ := hh2.out
      have HC : Hid ((cmpv (k1 + d1.x) (k2 + d2.x) = r ∧ (r != 0) = true) ∨ (cmpv (k1 + d1.x) (k2 + d2.x) = 0 ∧ (d1.m.natAbs : Int) * 2 ^ i < 4294967296 ^ 400 ∧ (d2.m.natAbs : Int) * 2 ^ j < 4294967296 ^ 400)) := by
        rcases Int.lt_trichotomy (k1 + d1.x) (k2 + d2.x) with h | h | h
        · left
          have t := tops_lt (i := i) (j := j) u1 v2 hm2 v1 (by omega)
          exact ⟨by rw [← HL, Z.cmpv_lt h, Z.cmpv_lt t], by rw [← HL, Z.cmpv_lt t]; rfl⟩
        · right
          exact ⟨Z.cmpv_eq h, tops_small (k2 := k2) (i := i) (j := j) u1 (by omega) (by omega) hk1 hk2, tops_small (k2 := k1) (i := j) (j := i) v1 (by omega) (by omega) hk2 hk1⟩
        · left
          have t := tops_lt (i := j) (j := i) v1 u2 hm1 u1 (by omega)
          exact ⟨by rw [← HL, Z.cmpv_gt h, Z.cmpv_gt t], by rw [← HL, Z.cmpv_gt t]; rfl⟩
      have AL : Hid (∀ W, Below W0.heap.size W0 W → Calls Tryz.prog 86 #[.agg #[.bool b1, .slice A1 n1 c1, .int .i64 x1], .agg #[.bool b2, .slice A2 n2 c2, .int .i64 x2], .int .i64 (min x1 x2)] W (RetA W ((d1.m.natAbs : Int) * 2 ^ i) ((d2.m.natAbs : Int) * 2 ^ j))) := fun W hW => by
        have e1 := E1.out
        have e2 := E2.out
        have y1 := h1.2.2.2.2.2.2.2
        have y2 := h2.2.2.2.2.2.2.2
        have := align_c b1 b2 A1 A2 n1 c1 n2 c2 x1 x2 d1 d2 (min x1 x2) W ((h1.below D0.out).below hW) ((h2.below D0.out).below hW) (by omega) (by omega) (by omega) ((hT.below D0.out).below hW)
        rwa [show d1.x - min x1 x2 = (i : Int) by omega, show d2.x - min x1 x2 = (j : Int) by omega, shq_up, shq_up] at this
      have HP := Lib.hid HL
      clear hm1 hm2 ei ej HL u1 u2 v1 v2 hh1 hh2 hk1 hk2 T1 T2 h1 h2 hr z1 z2 hT hb2 hb3 hb4 hHeld
      obtain ⟨⟨p0, p1, p2⟩, q0, q1, q2⟩ := KB.out _ D
      generalize (d1.m.natAbs : Int) * 2 ^ i = m1 at *
      generalize (d2.m.natAbs : Int) * 2 ^ j = m2 at *
      generalize cmpv (k1 + d1.x) (k2 + d2.x) = V at *
      rcases HC.out with ⟨hv1, hv2⟩ | ⟨hv1, hs1, hs2⟩
      · subst hv1
        clear HC
        go_wp2
        go_ret
        exact ⟨rfl, D0.out.trans (D.mono D0.out.size)⟩
      · subst hv1
        have CP : Hid (∀ W A3 n3 c3 A4 n4 c4, NV W (.slice A3 n3 c3) m1 → NV W (.slice A4 n4 c4) m2 → Calls Tryz.prog 91 #[.slice A3 n3 c3, .slice A4 n4 c4] W (NC.RetQ W (.tuple #[.int .i64 r, .int .i64 0]))) := fun W A3 n3 c3 A4 n4 c4 g1 g2 => by
          have h3 : (4294967296 : Int) ^ 400 ≤ big3 := by unfold big3; exact pow_mono (by decide)
          have q1 := g1.pv (Int.lt_of_lt_of_le hs1 h3)
          have q2 := g2.pv (Int.lt_of_lt_of_le hs2 h3)
          rw [show erz m1 = 0 from if_pos hs1] at q1
          rw [show erz m2 = 0 from if_pos hs2] at q2
          have := Cmp_p q1 q2
          rw [show ee 0 0 = 0 by decide, if_pos rfl, HP.out] at this
          exact this
        clear HC hs1 hs2
        go_wp2_with (first
          | (go_at_call 86; (with_reducible refine (AL.out _ D).mono ?_); rintro e w5 ⟨A3, n3, c3, A4, n4, c4, rfl, hv3, hv4, hb5⟩; have D := D.trans (hb5.mono D.size))
          | (go_at_call 91; (with_reducible refine (CP.out _ _ _ _ _ _ _ hv3 hv4).mono ?_); rintro e w6 ⟨rfl, k, rfl⟩))
        go_ret
        exact ⟨rfl, bdrew (D0.out.trans (D.mono D0.out.size)) k⟩
end DC
end Go.Proofs.YtelblhgagpkjmaaGreatDoor

