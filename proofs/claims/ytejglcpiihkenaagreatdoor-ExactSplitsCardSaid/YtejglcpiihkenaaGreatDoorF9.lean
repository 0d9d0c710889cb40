/-
  Texts glued together for a claim: R7 R8 R9 FloatR.
-/
import Derived.Test.YtejglcpiihkenaaGreatDoorF8
import Derived.Test.YtejglcpiihkenaaGreatDoorF7
/-
  Package round: isDirection, nudge, Part.
-/
namespace Go.Proofs.YtejglcpiihkenaaGreatDoor
set_option linter.unusedVariables false
set_option linter.unusedSimpArgs false
open Go.RowKit
set_option linter.unusedVariables false
set_option linter.unusedSimpArgs false
namespace RC
open L NC NK DC
open Z (Nz Tz cmpv)
/-- 0, 1 or -1 -/
def isdir (d : Dy) : Bool := decide (d.m = 0 ∨ (d.m.natAbs = 1 ∧ d.x = 0))
/-- nudged -/
def nz (b1 b2 : Bool) (z1 z2 : Int) : Int := if z2 = 0 then z1 else if z1 = 0 then 1 else if b1 = b2 then z1 * 18446744073709551616 + 1 else z1 * 18446744073709551616 - 1
def nx (z1 z2 x : Int) : Int := if z2 = 0 then x else if z1 = 0 then -10000 else x - 64
def nb (b1 b2 : Bool) (z1 z2 : Int) : Bool := if z2 = 0 then b1 else if z1 = 0 then b2 else b1
def RetN (w : World) (b : Bool) (z x : Int) (e : Ending) (w' : World) : Prop := ∃ A n c, e = .returned (.agg #[.bool b, .slice A n c, .int .i64 x]) ∧ PV w' (.slice A n c) 0 z ∧ Below w.heap.size w w'
theorem pv_set3 {w1 : World} {u : Value} {er z : Int} {b0 : Bool} {A0 : Option Addr} {n0 c0 : Nat} {x0 : Int} {B : Nat} (hv : PV w1 u er z)
    (hblk : Blk w1 B 60 #[.bool b0, .slice A0 n0 c0, .int .i64 x0]) (v0 v1 v2 : Value) :
    PV (((w1.setCell ⟨B, 0, none⟩ v0).setCell ⟨B, 1, none⟩ v1).setCell ⟨B, 2, none⟩ v2) u er z := by
  obtain ⟨l, h1, h2⟩ := hv
  have s1 := h1.setCell (hblk.at_ 0 rfl) (fun z h => by cases h) v0
  have B1 := hblk.set_ 0 v0
  have s2 := s1.setCell (u := .slice A0 n0 c0) (B1.at_ 1 (by simp)) (fun z h => by cases h) v1
  have B2 := B1.set_ 1 v1
  exact ⟨l, s2.setCell (u := .int .i64 x0) (B2.at_ 2 (by simp)) (fun z h => by cases h) v2, h2⟩
theorem pv_zero {w : World} {A : Option Addr} {n c : Nat} {z : Int} (h : PV w (.slice A n c) 0 z) : n = 0 ↔ z = 0 := by
  constructor
  · rintro rfl
    obtain ⟨l, l1, l2, l3, l4⟩ := h.nv
    have en := l1.len_.1
    have := List.length_eq_zero_iff.1 en.symm
    rw [this] at l4
    exact l4.symm
  · rintro rfl
    exact NV.zero h.nv
end RC
end Go.Proofs.YtejglcpiihkenaaGreatDoor

/-
  Package round: Part.
-/
namespace Go.Proofs.YtejglcpiihkenaaGreatDoor
set_option linter.unusedVariables false
set_option linter.unusedSimpArgs false
open Go.RowKit
set_option linter.unusedVariables false
set_option linter.unusedSimpArgs false
namespace RC
open L NC NK DC
open Z (Nz Tz cmpv)
def az (c d : Dy) : Int := nz (ng c) (ng d) (c.m.natAbs : Int) (d.m.natAbs : Int)
def ax (c d : Dy) : Int := nx (c.m.natAbs : Int) (d.m.natAbs : Int) c.x
def bz (c d : Dy) : Bool := nb (ng c) (ng d) (c.m.natAbs : Int) (d.m.natAbs : Int)
def PE (c d : Dy) (mode : Int) : Int := if c.er ≠ 0 then c.er else if d.er ≠ 0 then d.er else if ¬ ((0 ≤ mode ∧ mode ≤ 4) ∧ isdir d = true) then 1 else if 4294967296 ^ 390 ≤ (c.m.natAbs : Int) then 2 else 0
noncomputable def PX (c d : Dy) (mode : Int) : Int := if PE c d mode = 0 then rx (bz c d) (YY (bz c d) (sc (az c d) (ax c d)) mode) else 0
noncomputable def PL (c d : Dy) (mode : Int) : Bool := if PE c d mode = 0 then LL (sc (az c d) (ax c d)) else false
theorem limbs_390 {w : World} {A : Option Addr} {n c : Nat} {z : Int} (h : NV w (.slice A n c) z) : 390 < n ↔ 4294967296 ^ 390 ≤ z := by
  obtain ⟨l, h1, h2, h3, h4⟩ := h
  have en := h1.len_.1
  rw [en]
  constructor
  · intro h
    have hne : l ≠ [] := by rintro rfl; simp at h
    have := lv_ge h2 h3 hne
    have h5 : (4294967296 : Int) ^ 390 ≤ 4294967296 ^ (l.length - 1) := pow_mono (by omega)
    rw [← h4]; exact Int.le_trans h5 this
  · intro h
    rcases Nat.lt_or_ge 390 l.length with h5 | h5
    · exact h5
    · have a1 := lv_lt h2
      have a2 : (4294967296 : Int) ^ l.length ≤ 4294967296 ^ 390 := pow_mono h5
      rw [h4] at a1
      have := Int.lt_of_lt_of_le a1 a2
      omega
theorem nz_bd {b1 b2 : Bool} {z1 z2 : Int} (h0 : 0 ≤ z1) (h1 : z1 < 4294967296 ^ 390) (h2 : z2 = 0 ∨ z2 = 1) : 0 ≤ nz b1 b2 z1 z2 ∧ nz b1 b2 z1 z2 < 4294967296 ^ 400 := by
  have h3 : (4294967296 : Int) ^ 392 = 4294967296 ^ 390 * 18446744073709551616 := by rw [show (18446744073709551616 : Int) = 4294967296 ^ 2 by decide, ← Int.pow_add]
  have h4 : (4294967296 : Int) ^ 393 = 4294967296 ^ 392 * 4294967296 := Int.pow_succ _ _
  have h5 : (4294967296 : Int) ^ 393 ≤ 4294967296 ^ 400 := pow_mono (by decide)
  have h6 := pow_pos 390
  generalize (4294967296 : Int) ^ 400 = c400 at *
  generalize (4294967296 : Int) ^ 393 = c393 at *
  generalize (4294967296 : Int) ^ 392 = c392 at *
  generalize (4294967296 : Int) ^ 390 = c390 at *
  unfold nz
  split
  · omega
  · split
    · omega
    · split <;> omega
theorem isdir_z {d : Dy} (h : isdir d = true) : ((d.m.natAbs : Int) = 0 ∨ (d.m.natAbs : Int) = 1) := by
  unfold isdir at h
  rw [decide_eq_true_iff] at h
  omega
theorem nx_bd {z1 z2 x : Int} (h : -10000 ≤ x ∧ x ≤ 10000) : -20000 ≤ nx z1 z2 x ∧ nx z1 z2 x ≤ 20000 := by
  unfold nx; split
  · omega
  · split <;> omega
theorem tow_part {c d : Dy} (hc : Ok c) (h : isdir d = true) (hs : (c.m.natAbs : Int) < 4294967296 ^ 390) : ∃ r hf m, Tow (sc (az c d) (ax c d)) r hf m ∧ tow (sc (az c d) (ax c d)) = (r, hf, m) := by
  have k := nz_bd (b1 := ng c) (b2 := ng d) (by omega) hs (isdir_z h)
  obtain ⟨r, hf, m, t⟩ := tow_ex k.1 k.2 (nx_bd (z1 := (c.m.natAbs : Int)) (z2 := (d.m.natAbs : Int)) hc.2.2.2.2)
  exact ⟨r, hf, m, t, tow_eq t⟩
end RC
end Go.Proofs.YtejglcpiihkenaaGreatDoor

/-
  Rounding, pure: a part more, a part less.
-/
namespace Go.Proofs.YtejglcpiihkenaaGreatDoor
set_option linter.unusedVariables false
set_option linter.unusedSimpArgs false
open Go.RowKit
set_option linter.unusedVariables false
set_option linter.unusedSimpArgs false
namespace RC
open L NC NK DC
open Z (Nz Tz cmpv)
theorem split_sc2 {z x u : Int} (hx : -60000 ≤ x) (hu : -60000 ≤ u) : ∃ ρ, 2 * sc z x = sh z (x - u + 1) * sc 1 u + ρ ∧ 0 ≤ ρ ∧ ρ < sc 1 u ∧ (ρ = 0 ∨ (2 * sc 1 x ≤ ρ ∧ ρ + 2 * sc 1 x ≤ sc 1 u)) := by
  unfold sh
  by_cases h : 0 ≤ x - u + 1
  · rw [if_pos h]
    obtain ⟨k, hk⟩ := Int.eq_ofNat_of_zero_le h
    rw [hk, Int.toNat_natCast]
    refine ⟨0, ?_, by omega, sc_one_pos u, .inl rfl⟩
    rw [← sc_mul1, sc_shift _ _ _ hu, show u + (k : Int) = x + 1 by omega]
    have := sc_shift z x 1 hx
    rw [Int.add_zero, show x + ((1 : Nat) : Int) = x + 1 by omega] at *
    rw [← this, sc_mul1, sc_mul1 (z * 2 ^ 1)]
    rw [show z * 2 ^ 1 = 2 * z by omega, Int.mul_assoc]
  · rw [if_neg h]
    obtain ⟨k, hk⟩ := Int.eq_ofNat_of_zero_le (show 0 ≤ -(x - u + 1) by omega)
    rw [hk, Int.toNat_natCast]
    have hp := two_pos' k
    have e1 : sc 1 u = 2 * 2 ^ k * sc 1 x := by
      have := sc_shift 1 x (k + 1) hx
      rw [show x + ((k + 1 : Nat) : Int) = u by omega] at this
      rw [← this, sc_mul1, Int.one_mul, Int.pow_succ, Int.mul_comm (2 ^ k)]
    have e2 := Int.emod_add_mul_ediv z (2 ^ k)
    have e3 := Int.emod_nonneg z (Int.ne_of_gt hp)
    have e4 := Int.emod_lt_of_pos z hp
    have hE := sc_one_pos x
    rw [e1, sc_mul1 z x]
    generalize sc 1 x = E at *
    generalize z % 2 ^ k = m at *
    generalize z / 2 ^ k = Q at *
    generalize (2 : Int) ^ k = P at *
    have h1 : (m + 1) * E ≤ P * E := Int.mul_le_mul_of_nonneg_right (by omega) (Int.le_of_lt hE)
    have h0 : 0 ≤ m * E := Int.mul_nonneg e3 (Int.le_of_lt hE)
    rw [Int.add_mul, Int.one_mul] at h1
    refine ⟨2 * (m * E), ?_, by omega, ?_, ?_⟩
    · rw [← e2]; grind
    · rw [Int.mul_assoc]; omega
    · by_cases h2 : m = 0
      · left; rw [h2, Int.zero_mul]; rfl
      · right
        have h3 : 1 * E ≤ m * E := Int.mul_le_mul_of_nonneg_right (by omega) (Int.le_of_lt hE)
        rw [Int.mul_assoc]
        omega
theorem near_parts {z x : Int} {b : Nat} (hx : -20000 ≤ x) (hb : z < 2 ^ b) (hb' : 2 ^ (b - 1) ≤ z) (h0 : 0 < b) (ht : b + x ≤ 1024) :
    ∃ (k : Nat) (q H ρ e : Int), e = sc 1 (k - 1074) ∧ (b : Int) + x - 53 ≤ k - 1074 ∧ 0 ≤ q ∧ q < 9007199254740992 ∧ (k = 0 ∨ 4503599627370496 ≤ q) ∧ q = H / 2 ∧ 0 ≤ H ∧ 2 * sc z x = H * e + ρ ∧ 0 ≤ ρ ∧ ρ < e ∧ (ρ = 0 ∨ (2 * sc 1 x ≤ ρ ∧ ρ + 2 * sc 1 x ≤ e)) ∧
      (k : Int) * 4503599627370496 + q ≤ 9218868437227405311 ∧ U (k * 4503599627370496 + q) = q * e ∧ U (k * 4503599627370496 + q + 1) = (q + 1) * e ∧ Tow (sc z x) (k * 4503599627370496 + q) (decide (H % 2 = 1)) (decide (ρ ≠ 0)) := by
  obtain ⟨u, hu⟩ : ∃ u : Int, u = max (b + x - 53) (-1074) := ⟨_, rfl⟩
  obtain ⟨t1, t2⟩ := tow_near hx hb hb' h0 ht hu
  obtain ⟨ρ, h1, h2, h3, h4⟩ := split_sc2 (z := z) (x := x) (u := u) (by omega) (by omega)
  have hz : 0 ≤ z := by have := two_pos' (b - 1); omega
  have hH := sh_pos hz (x - u + 1)
  generalize sh z (x - u + 1) = H at *
  obtain ⟨k, hk⟩ : ∃ k : Nat, u + 1074 = k := ⟨(u + 1074).toNat, by omega⟩
  have hE := sc_one_pos u
  have d1 : u = b + x - 53 → 9007199254740992 ≤ H := fun hu' => by
    have e1 : sc 1 (x + (b - 1 : Nat)) ≤ sc z x := by rw [← sc_two _ x (by omega), sc_le]; exact hb'
    have e2 : sc 1 (x + (b - 1 : Nat)) = 4503599627370496 * sc 1 u := by
      rw [← sc_mul1, show (4503599627370496 : Int) = 2 ^ 52 by decide, sc_two 52 u (by omega)]
      congr 1; omega
    rcases Int.lt_or_le H 9007199254740992 with h | h
    · have := Int.mul_le_mul_of_nonneg_right (show H ≤ 9007199254740991 by omega) (Int.le_of_lt hE)
      omega
    · exact h
  have hc : k = 0 ∨ 4503599627370496 ≤ H / 2 := by
    by_cases h : b + x - 53 ≤ -1074
    · left; omega
    · right
      have := d1 (by omega)
      omega
  obtain ⟨g1, g2⟩ := U_of (k := k) (q := H / 2) (by omega) (by omega) hc
  rw [show (k : Int) - 1074 = u by omega] at g1 g2
  have t := tow_split (a := sc z x) (by omega) (by omega) g1 g2 rfl h1 h2 h3
  exact ⟨k, H / 2, H, ρ, sc 1 u, by rw [show (k : Int) - 1074 = u by omega], by omega, by omega, by omega, hc, rfl, hH, h1, h2, h3, h4, by omega, g1, g2, t⟩
theorem sc_half {x : Int} (hx : -50000 ≤ x) : sc 1 x = 2 * sc 1 (x - 1) := by
  have := sc_shift 1 (x - 1) 1 (by omega)
  rw [show x - 1 + ((1 : Nat) : Int) = x by omega] at this
  rw [← this, sc_mul1]
  rfl
theorem nudge_val (z x : Int) (hx : -20000 ≤ x) (t : Int) : sc (z * 18446744073709551616 + t) (x - 64) = sc z x + t * sc 1 (x - 64) := by
  rw [sc_add, ← sc_mul1 t]
  have := sc_shift z (x - 64) 64 (by omega)
  rw [show x - 64 + ((64 : Nat) : Int) = x by omega, show (2 : Int) ^ 64 = 18446744073709551616 by decide] at this
  rw [this]
/-- far above: still far above -/
theorem tow_far2 {a ε t s M : Int} (ht : t = 1024) (hs : s = 960) (hM : M = 9218868437227405311) (hε : 0 < ε) (h : sc 1 t - sc 1 s ≤ a) : Tow a M true true := by
  obtain ⟨k, hk⟩ : ∃ k : Nat, k = 2045 := ⟨_, rfl⟩
  obtain ⟨u, hu⟩ : ∃ u : Int, u = (k : Int) - 1074 := ⟨_, rfl⟩
  have hU := (U_of (k := k) (q := 9007199254740991) (by omega) (by omega) (by omega))
  rw [← hu, show (k : Int) * 4503599627370496 + 9007199254740991 = M by omega] at hU
  have e : sc 1 t = 9007199254740992 * sc 1 u := by
    have e2 : u + ((53 : Nat) : Int) = t := by omega
    have := sc_shift 1 u 53 (by omega)
    rw [e2, show (1 : Int) * 2 ^ 53 = 9007199254740992 by decide, sc_mul1] at this
    exact this.symm
  have e2 : sc 1 u = 2048 * sc 1 s := by
    have e2 : s + ((11 : Nat) : Int) = u := by omega
    have := sc_shift 1 s 11 (by omega)
    rw [e2, show (1 : Int) * 2 ^ 11 = 2048 by decide, sc_mul1] at this
    exact this.symm
  have hp := sc_one_pos s
  rw [e, e2] at h
  rw [e2] at hU
  clear e e2
  generalize sc 1 s = E at *
  obtain ⟨g1, g2⟩ := hU
  obtain ⟨u0, hu0⟩ : ∃ x, U M = x := ⟨_, rfl⟩
  obtain ⟨u1, hu1⟩ : ∃ x, U (M + 1) = x := ⟨_, rfl⟩
  rw [hu0] at g1
  rw [hu1] at g2
  have k4 : u0 < a := by clear hu0 hu1; omega
  have k5 : u0 + u1 < 2 * a := by clear hu0 hu1 k4; omega
  have k3 : a ≠ u0 ∧ 2 * a ≠ u0 + u1 := ⟨Int.ne_of_gt k4, Int.ne_of_gt k5⟩
  have r0 : 0 ≤ M := by rw [hM]; decide
  have r1 : M ≤ 9218868437227405311 := Int.le_of_eq hM
  have r2 : ¬ M < 9218868437227405311 := by rw [hM]; exact Int.lt_irrefl _
  refine ⟨r0, r1, by rw [hu0]; exact Int.le_of_lt k4, fun h => absurd h r2, ?_, ?_⟩
  · rw [hu0, hu1]; exact (decide_eq_true (Int.le_of_lt k5)).symm
  · rw [hu0, hu1]; exact (decide_eq_true k3).symm
/-- a part farther from 0, a part nearer -/
def dnr (r : Int) (hf m : Bool) : Int := if hf = false ∧ m = false then r - 1 else r
def dnh (hf m : Bool) : Bool := if m = true then hf else !hf
theorem tow_nudge {z x r : Int} {hf m : Bool} (hz : 0 < z) (hlt : z < 4294967296 ^ 400) (hx : -20000 ≤ x ∧ x ≤ 20000) (t : Tow (sc z x) r hf m) :
    Tow (sc z x + sc 1 (x - 64)) r hf true ∧ Tow (sc z x - sc 1 (x - 64)) (dnr r hf m) (dnh hf m) true := by
  obtain ⟨b, k1, k2, k3, k4⟩ := bits_ex 12800 z hz (by rw [← pow_12800]; exact hlt)
  obtain ⟨ε, hε⟩ : ∃ ε, sc 1 (x - 64) = ε := ⟨_, rfl⟩
  have hεp : 0 < ε := by rw [← hε]; exact sc_one_pos _
  have hx1 : sc 1 x = 18446744073709551616 * ε := by
    rw [← hε, ← sc_mul1, show (18446744073709551616 : Int) = 2 ^ 64 by decide, sc_two 64 _ (by omega)]
    congr 1; omega
  rw [hε]
  by_cases ht : b + x ≤ 1024
  · obtain ⟨k, q, H, ρ, e, he, hu, q0, q1, hc, hq, hH, hA, ρ0, ρ1, ρ2, hr, U0, U1, t'⟩ := near_parts (x := x) (by omega) k3 k4 k2 ht
    obtain ⟨rfl, rfl, rfl⟩ := t.unique t'
    have he2 : 1024 * ε ≤ e := by
      rw [he, ← hε, ← sc_mul1, show (1024 : Int) = 2 ^ 10 by decide, sc_two 10 _ (by omega)]
      exact sc1_le (by omega) (by omega)
    rw [hx1] at ρ2
    constructor
    · have := tow_split (a := sc z x + ε) (H := H) (ρ := ρ + 2 * ε) (by omega) hr U0 U1 hq (by omega) (by omega) (by omega)
      rwa [show decide (ρ + 2 * ε ≠ 0) = true by rw [decide_eq_true_iff]; omega] at this
    · unfold dnr dnh
      by_cases hρ : ρ = 0
      · have hm0 : decide (ρ ≠ 0) = false := by simp [hρ]
        rw [hm0]
        by_cases ho : H % 2 = 1
        · rw [show decide (H % 2 = 1) = true by simp [ho]]
          simp only [Bool.true_eq_false, false_and, if_false, Bool.false_eq_true, Bool.not_true]
          have e1 : (H - 1) * e = H * e - e := by rw [Int.sub_mul, Int.one_mul]
          have := tow_split (a := sc z x - ε) (H := H - 1) (ρ := e - 2 * ε) (by omega) hr U0 U1 (by omega) (by omega) (by omega) (by omega)
          rwa [show decide (e - 2 * ε ≠ 0) = true by rw [decide_eq_true_iff]; omega, show decide ((H - 1) % 2 = 1) = false by rw [decide_eq_false_iff_not]; omega] at this
        · rw [show decide (H % 2 = 1) = false by simp [ho]]
          simp only [and_self, if_true, Bool.false_eq_true, if_false, Bool.not_false]
          have hHe : H = 2 * q := by omega
          have ea : sc z x = q * e := by
            rw [hHe, Int.mul_assoc, hρ] at hA; omega
          have hp : 0 < sc z x := by rw [sc_mul1]; exact Int.mul_pos hz (sc_one_pos x)
          have hq1 : 1 ≤ q := by
            rcases Int.lt_or_le q 1 with h | h
            · have : q = 0 := by omega
              rw [this, Int.zero_mul] at ea; omega
            · exact h
          have hst := U_step (r := k * 4503599627370496 + q - 1) (by omega)
          rw [show (k : Int) * 4503599627370496 + q - 1 + 1 = k * 4503599627370496 + q by omega, U0] at hst
          have hsg : 4 * ε < sg (k * 4503599627370496 + q - 1) := by
            have hG : G (k * 4503599627370496 + q - 1) = 2 ^ k ∨ (1 ≤ k ∧ G (k * 4503599627370496 + q - 1) = 2 ^ (k - 1)) := by
              by_cases h1 : k = 0 ∨ 4503599627370496 ≤ q - 1
              · left
                have := (V_of (k := k) (q := q - 1) (by omega) (by omega) h1).2
                rwa [show (k : Int) * 4503599627370496 + (q - 1) = k * 4503599627370496 + q - 1 by omega] at this
              · right
                refine ⟨by omega, ?_⟩
                have := (V_of (k := k - 1) (q := 9007199254740991) (by omega) (by omega) (by omega)).2
                rwa [show ((k - 1 : Nat) : Int) * 4503599627370496 + 9007199254740991 = k * 4503599627370496 + q - 1 by omega] at this
            unfold sg
            rcases hG with h | ⟨h1, h⟩
            · rw [h, sc_two k _ (by omega), show -1074 + (k : Int) = k - 1074 by omega, ← he]; omega
            · rw [h, sc_two (k - 1) _ (by omega)]
              have h3 := sc_half (x := (k : Int) - 1074) (by omega)
              rw [← he] at h3
              rw [show -1074 + ((k - 1 : Nat) : Int) = (k : Int) - 1074 - 1 by omega]
              omega
          generalize hsgv : sg (k * 4503599627370496 + q - 1) = g at *
          have hUr : U (k * 4503599627370496 + q - 1) = q * e - g := by omega
          have hU1' : U (k * 4503599627370496 + q - 1 + 1) = q * e := by rw [show (k : Int) * 4503599627370496 + q - 1 + 1 = k * 4503599627370496 + q by omega]; exact U0
          rw [ea]
          generalize q * e = P at *
          refine ⟨by omega, by omega, by rw [hUr]; omega, fun _ => by rw [hU1']; omega, ?_, ?_⟩
          · rw [hUr, hU1']; symm; rw [decide_eq_true_iff]; omega
          · rw [hUr, hU1']; symm; rw [decide_eq_true_iff]; omega
      · have hm1 : decide (ρ ≠ 0) = true := by simp [hρ]
        rw [hm1]
        simp only [Bool.true_eq_false, and_false, if_false, if_true]
        have := tow_split (a := sc z x - ε) (H := H) (ρ := ρ - 2 * ε) (by omega) hr U0 U1 hq (by omega) (by omega) (by omega)
        rwa [show decide (ρ - 2 * ε ≠ 0) = true by rw [decide_eq_true_iff]; omega] at this
  · have e1 : sc 1 (x + (b - 1 : Nat)) ≤ sc z x := by rw [← sc_two _ x (by omega), sc_le]; exact k4
    obtain ⟨t1, ht1⟩ : ∃ t1 : Int, t1 = 1024 := ⟨_, rfl⟩
    obtain ⟨s1, hs1⟩ : ∃ s1 : Int, s1 = 960 := ⟨_, rfl⟩
    obtain ⟨M, hM⟩ : ∃ M : Int, M = 9218868437227405311 := ⟨_, rfl⟩
    have hle : sc 1 t1 ≤ sc z x := Int.le_trans (sc1_le (by omega) (by omega)) e1
    obtain ⟨rfl, rfl, rfl⟩ := t.unique (tow_far ht1 hM hle)
    have hlow : sc 1 t1 - sc 1 s1 ≤ sc z x - ε := by
      -- the part is no more than what 64 bits less count
      obtain ⟨j, hj⟩ : ∃ j : Nat, x + (b - 1 : Nat) = t1 + j := ⟨(x + (b - 1 : Nat) - t1).toNat, by omega⟩
      have e2 : ε ≤ sc 1 (s1 + j) := by rw [← hε]; exact sc1_le (by omega) (by omega)
      have e3 : sc 1 (t1 + j) = 2 ^ j * sc 1 t1 := by rw [← sc_two j t1 (by omega), sc_mul1]
      have e4 : sc 1 (s1 + j) = 2 ^ j * sc 1 s1 := by rw [← sc_two j s1 (by omega), sc_mul1]
      have e5 : sc 1 s1 ≤ sc 1 t1 := sc1_le (by omega) (by omega)
      rw [hj, e3] at e1
      rw [e4] at e2
      have h2 := two_pos' j
      have e6 : (2 ^ j - 1) * sc 1 s1 ≤ (2 ^ j - 1) * sc 1 t1 := Int.mul_le_mul_of_nonneg_left e5 (by omega)
      rw [Int.sub_mul, Int.sub_mul, Int.one_mul, Int.one_mul] at e6
      omega
    refine ⟨tow_far ht1 hM (by omega), ?_⟩
    have := tow_far2 ht1 hs1 hM hεp hlow
    exact this
end RC
end Go.Proofs.YtejglcpiihkenaaGreatDoor

/-
  What the reference functions on numbers' bits return (fields, class, rank, the number of a rank), for every argument.
-/
namespace Go.Proofs.YtejglcpiihkenaaGreatDoor
set_option linter.unusedVariables false
set_option linter.unusedSimpArgs false
open Go.RowKit
set_option linter.unusedVariables false
namespace FloatR
theorem Fields_c (x : Int) (h0 : 0 ≤ x) (h1 : x ≤ 18446744073709551615) (w : World) :
    Calls Tryz.prog 57 #[.int .u64 x] w fun e w' => e = .returned (.tuple #[.bool (F.sgn x), .int .i64 (F.exq x), .int .i64 (F.fra x)]) ∧ w = w' := by
  have e1 := Lib.hid (F.exq_ref x)
  go_enter Tryz.func57, Tryz.ntmps57
  go_wp2
  go_ret3
  rw [← e1.out]
  exact ⟨rfl, rfl⟩
theorem ClassOf_c (x : Int) (h0 : 0 ≤ x) (h1 : x ≤ 18446744073709551615) (w : World) :
    Calls Tryz.prog 27 #[.int .u64 x] w fun e w' => e = .returned (.int .i64 (F.cls x)) ∧ w = w' := by
  have e1 := F.exq_bd x
  have f1 := F.fra_bd x
  go_enter Tryz.func27, Tryz.ntmps27
  go_wp2_with (first | (go_at_call 57; (with_reducible refine (Fields_c x h0 h1 _).mono ?_); rintro e w' ⟨rfl, rfl⟩))
  all_goals (go_ret; refine ⟨ret_int ?_, rfl⟩; unfold F.cls; simp_all; try omega)
  all_goals (repeat (first | omega | split))
theorem Ranked_c (n : Int) (h0 : -9218868437227405312 ≤ n) (h1 : n ≤ 9218868437227405312) (w : World) :
    Calls Tryz.prog 42 #[.int .i64 n] w fun e w' => e = .returned (.int .u64 (F.num n)) ∧ w = w' := by
  have r1 := Lib.hid (show (if n < 0 then 9223372036854775808 - n else n) = F.num n from rfl)
  by_cases h : n < 0
  · go_enter Tryz.func42, Tryz.ntmps42
    go_wp2
    go_ret
    refine ⟨ret_int ?_, rfl⟩
    rw [← r1.out, if_pos h]
    try simp only [IntKind.wrap_u64]
    omega
  · go_enter Tryz.func42, Tryz.ntmps42
    go_wp2
    go_ret
    refine ⟨ret_int ?_, rfl⟩
    rw [← r1.out, if_neg (by omega)]
theorem Between_t (n a b : Int) (h0 : a ≤ n) (h1 : n ≤ b) (w : World) :
    Calls Tryz.prog 15 #[.int .i64 n, .int .i64 a, .int .i64 b] w fun e w' => e = .returned (.bool true) ∧ w = w' := by
  go_enter Tryz.func15, Tryz.ntmps15
  go_wp2
  go_ret
  exact ⟨rfl, rfl⟩
theorem Between_f (n a b : Int) (h : n < a ∨ b < n) (w : World) :
    Calls Tryz.prog 15 #[.int .i64 n, .int .i64 a, .int .i64 b] w fun e w' => e = .returned (.bool false) ∧ w = w' := by
  by_cases h0 : n < a
  · go_enter Tryz.func15, Tryz.ntmps15
    go_wp2
    go_ret
    exact ⟨rfl, rfl⟩
  · have h1 : b < n := by omega
    have h2 : a ≤ n := by omega
    clear h
    go_enter Tryz.func15, Tryz.ntmps15
    go_wp2
    go_ret
    exact ⟨ret_bool (by simp; omega), rfl⟩
end FloatR
end Go.Proofs.YtejglcpiihkenaaGreatDoor

