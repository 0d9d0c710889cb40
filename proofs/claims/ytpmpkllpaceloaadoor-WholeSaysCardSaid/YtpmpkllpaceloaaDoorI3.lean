/-
  A number to a whole one, pure: what Cut at 0 places leaves is iw's; it is a number's value; the number with the sign of x (WX).
-/
import Derived.Test.YtpmpkllpaceloaaDoorI2
import Derived.Test.YtpmpkllpaceloaaDoorC8
namespace Go.Proofs.YtpmpkllpaceloaaDoor
set_option linter.unusedVariables false
set_option linter.unusedSimpArgs false
open Go.RowKit
set_option linter.unusedVariables false
set_option linter.unusedSimpArgs false
namespace IC
open L NC NK DC RC SC QC
open Z (cmpv)
theorem cr_whole {d : Dy} {mode P : Int} (hP : P = sc 1 0) (g : Fit d 1) (hm : 0 ≤ mode ∧ mode ≤ 4) :
    (CR d 0 mode).e = 0 ∧ Ok (CR d 0 mode).d ∧ S (CR d 0 mode).d = iw (S d) P mode * P ∧ CL d 0 mode = decide (S d % P ≠ 0) := by
  have hP0 : 0 < P := by rw [hP]; exact sc_one_pos _
  have gx := g.x
  have gh := g.hi
  have gl := g.lo
  by_cases hs : d.m = 0 ∨ 0 ≤ d.x
  · obtain ⟨e1, e2⟩ := cr_same (mode := mode) g.ok.1 hm (by omega) hs
    have hn : ∃ n, S d = n * P := by
      rcases hs with h | h
      · exact ⟨0, by unfold S; rw [h]; simp [sc]⟩
      · refine ⟨d.m * 2 ^ d.x.toNat, ?_⟩
        unfold S
        rw [hP, ← sc_mul1, sc_shift _ _ _ (by omega)]
        congr 1; omega
    obtain ⟨n, hn⟩ := hn
    rw [e1, e2]
    refine ⟨rfl, g.ok, ?_, ?_⟩
    · show S d = _
      rw [hn, iw_whole hP0]
    · rw [hn, Int.mul_emod_left]; rfl
  · obtain ⟨e1, e2⟩ := cr_lost (mode := mode) g.ok.1 hm (by omega) hs
    obtain ⟨c1, c2⟩ := cut_tell (places := 0) g.ok hm hs
    obtain ⟨k, j, hk, f1, f2⟩ := cut_lost (m := d.m) (show d.x < 0 by omega)
    rw [f1, f2] at c1 c2
    have hPk : P = 2 ^ k * sc 1 d.x := by
      rw [hP, ← sc_mul1, sc_two k d.x (by omega)]
      congr 1; omega
    have hS : S d = d.m * sc 1 d.x := sc_mul1 _ _
    have hq := sc_one_pos d.x
    have ei : iw (S d) P mode = sgm (ng d) (cq d 0 mode) := by
      rw [hS, hPk, iw_scale (two_pos' k) hq, ← iw_scale (two_pos' k) (two_pos' j)]
      unfold iw
      rw [if_neg c1]
      exact c2
    have hne : S d % P ≠ 0 := by
      rw [hS, hPk]
      intro h
      rw [lost_scale hq] at h
      exact c1 ((lost_scale (two_pos' j)).2 h)
    have nr := iw_near hP0 (V := S d) mode
    have hNP : sc (sgm (ng d) (cq d 0 mode)) 0 = iw (S d) P mode * P := by rw [sc_mul1, ei, hP]
    have hP1 : P ≤ sc 1 1024 := by rw [hP]; exact sc1_le (by omega) (by omega)
    have e0 : (fin (sgm (ng d) (cq d 0 mode)) 0).e = 0 := fin_fit (k := 2) (by omega) (by omega) (by rw [hNP]; omega) (by rw [hNP]; omega)
    rw [e2, e1]
    refine ⟨e0, fin_ok _ _, ?_, ?_⟩
    · have := fin_sc (by omega) e0
      rw [hNP] at this
      exact this
    · rw [e0]; simp [hne]
theorem abs_mul {n P : Int} (hP : 0 < P) : (0 ≤ n → (n.natAbs : Int) * P = n * P ∧ 0 ≤ n * P) ∧ (n < 0 → (n.natAbs : Int) * P = -(n * P) ∧ n * P < 0) := by
  constructor
  · intro h
    rw [show (n.natAbs : Int) = n by omega]
    exact ⟨rfl, Int.mul_nonneg h (Int.le_of_lt hP)⟩
  · intro h
    rw [show (n.natAbs : Int) = -n by omega, Int.neg_mul]
    exact ⟨rfl, Int.mul_neg_of_neg_of_pos h hP⟩
theorem whole_rank {x mode P n : Int} (hP : P = sc 1 0) (h : fi x) (hn : n = iw (val x) P mode) : ∃ r, 0 ≤ r ∧ r ≤ 9218868437227405311 ∧ (n.natAbs : Int) * P = U r := by
  have hP0 : 0 < P := by rw [hP]; exact sc_one_pos _
  have ab := abs_mul (n := n) hP0
  obtain ⟨k, q, q0, q1, e⟩ := unit_ex h
  by_cases hd : val x % P = 0
  · have h2 := fi_mod h
    refine ⟨x % 9223372036854775808, by omega, h2, ?_⟩
    have e2 : n * P = val x := by
      rw [hn]; unfold iw; rw [if_pos hd]
      have := Int.mul_ediv_add_emod (val x) P
      rw [Int.mul_comm]; omega
    have e3 := val_eq h
    have u0 := U_pos (r := x % 9223372036854775808) (by omega)
    unfold sgm at e3
    rcases Int.lt_or_le n 0 with h3 | h3
    · have := ab.2 h3
      split at e3 <;> omega
    · have := ab.1 h3
      split at e3 <;> omega
  · obtain ⟨E, hE⟩ : ∃ E, E = sc 1 ((k : Int) - 1074) := ⟨_, rfl⟩
    have hE0 : 0 < E := by rw [hE]; exact sc_one_pos _
    rw [← hE] at e
    have hk : k < 1074 := by
      rcases Nat.lt_or_ge k 1074 with h3 | h3
      · exact h3
      · exfalso
        have e2 : E = 2 ^ (k - 1074) * P := by
          rw [hE, hP, ← sc_mul1, sc_two _ _ (by omega)]
          congr 1; omega
        apply hd
        rw [e, e2, ← Int.mul_assoc]
        unfold sgm
        split
        · rw [← Int.neg_mul]; exact Int.mul_emod_left _ _
        · exact Int.mul_emod_left _ _
    have hE2 : 2 * E ≤ P := by
      have h3 := sc1_le (x := ((k : Int) - 1074) + 1) (y := 0) (by omega) (by omega)
      have h4 := sc_two 1 ((k : Int) - 1074) (by omega)
      rw [sc_mul1, ← hE] at h4
      rw [hP]
      have h5 : (2 : Int) ^ 1 = 2 := rfl
      rw [h5] at h4
      have h6 : ((k : Int) - 1074) + ((1 : Nat) : Int) = ((k : Int) - 1074) + 1 := rfl
      rw [h6] at h4
      omega
    have hqE : q * E ≤ 9007199254740992 * E := Int.mul_le_mul_of_nonneg_right (by omega) (Int.le_of_lt hE0)
    have hqE0 : 0 ≤ q * E := Int.mul_nonneg q0 (Int.le_of_lt hE0)
    have nr := iw_near hP0 (V := val x) mode
    rw [← hn] at nr
    have hlt : (n.natAbs : Int) * P < 4503599627370497 * P := by
      unfold sgm at e
      rcases Int.lt_or_le n 0 with h3 | h3
      · have := ab.2 h3
        split at e <;> omega
      · have := ab.1 h3
        split at e <;> omega
    have hN : (n.natAbs : Int) < 4503599627370497 := Int.lt_of_mul_lt_mul_right hlt (Int.le_of_lt hP0)
    obtain ⟨M, hM⟩ : ∃ M : Int, M = 9218868437227405311 := ⟨_, rfl⟩
    have hUM : 4503599627370497 * P ≤ U M := by
      obtain ⟨j, hj⟩ : ∃ j : Nat, j = 2045 := ⟨_, rfl⟩
      have hU := (U_of (k := j) (q := 9007199254740991) (by omega) (by omega) (by omega)).1
      rw [show (j : Int) * 4503599627370496 + 9007199254740991 = M by omega] at hU
      have h3 := sc1_le (x := 0) (y := (j : Int) - 1074) (by omega) (by omega)
      rw [← hP] at h3
      rw [hU]
      omega
    obtain ⟨r, r0, r1, hr⟩ := rank_of (N := (n.natAbs : Int)) (q := 4503599627370497) (k := 1074) hM (show P = sc 1 (((1074 : Nat) : Int) - 1074) by rw [hP]; rfl) rfl (by omega) (by omega) (by omega) (by omega)
    exact ⟨r, r0, by omega, hr⟩
theorem num_ext {a b : Int} (ha : fi a) (hb : fi b) (hs : F.sgn a = F.sgn b) (hv : val a = val b) : a = b := by
  rw [val_eq ha, val_eq hb, hs] at hv
  have h1 := fi_mod ha
  have h2 := fi_mod hb
  have hu : U (a % 9223372036854775808) = U (b % 9223372036854775808) := by
    unfold sgm at hv
    split at hv <;> omega
  have e := U_inj (by omega) (by omega) hu
  have a0 := ha.1; have a1 := ha.2.1; have b0 := hb.1; have b1 := hb.2.1
  have sa := F.sgn_iff a; have sb := F.sgn_iff b
  have sa' := F.sgn_iff' a; have sb' := F.sgn_iff' b
  cases hc : F.sgn b
  · rw [hc] at hs
    have q1 := sa'.1 hs; have q2 := sb'.1 hc
    omega
  · rw [hc] at hs
    have q1 := sa.1 hs; have q2 := sb.1 hc
    omega
/-- the dyad that Cut leaves of a number -/
def WC (x mode : Int) : Dy := (CR (OfD x).d 0 mode).d
/-- it, as a number with the sign of x -/
noncomputable def WX (x mode : Int) : Int := if F.sgn x = true then TX (WC x mode) 0 % 9223372036854775808 + 9223372036854775808 else TX (WC x mode) 0 % 9223372036854775808
theorem whole_p {x mode P : Int} (hP : P = sc 1 0) (h : fi x) (hm : 0 ≤ mode ∧ mode ≤ 4) :
    (CR (OfD x).d 0 mode).e = 0 ∧ Ok (WC x mode) ∧ S (WC x mode) = iw (val x) P mode * P ∧ CL (OfD x).d 0 mode = decide (val x % P ≠ 0) ∧
    (∀ m, 0 ≤ m ∧ m ≤ 4 → TX (WC x mode) m = TX (WC x mode) 0 ∧ TL (WC x mode) m = false) ∧ fi (TX (WC x mode) 0) ∧ val (TX (WC x mode) 0) = iw (val x) P mode * P ∧
    fi (WX x mode) ∧ val (WX x mode) = iw (val x) P mode * P ∧ F.sgn (WX x mode) = F.sgn x := by
  have hP0 : 0 < P := by rw [hP]; exact sc_one_pos _
  obtain ⟨n, hn⟩ : ∃ n, n = iw (val x) P mode := ⟨_, rfl⟩
  obtain ⟨r, r0, r1, hr⟩ := whole_rank hP h hn
  obtain ⟨c1, c2, c3, c4⟩ := cr_whole hP (of_fit h).2 hm
  have ab := abs_mul (n := n) hP0
  change Ok (WC x mode) at c2
  change S (WC x mode) = iw (val x) P mode * P at c3
  change _ = decide (val x % P ≠ 0) at c4
  have hA : A (WC x mode) = U r := by
    have a := A_abs (WC x mode)
    rw [c3, ← hn] at a
    rw [← hr]
    rcases Int.lt_or_le n 0 with h3 | h3
    · rw [(ab.2 h3).1, (a.2 (ab.2 h3).2).1]
    · rw [(ab.1 h3).1, (a.1 (ab.1 h3).2).1]
  have ex := fun m (hm' : 0 ≤ m ∧ m ≤ 4) => exact_p hm' c2 r0 r1 hA
  have t := tow_exact r0 r1
  rw [← hA] at t
  have tx : ∀ m, 0 ≤ m ∧ m ≤ 4 → TX (WC x mode) m = rx (ng (WC x mode)) r := fun m hm' => by
    have := (TX_of c2 hm' t).1
    rwa [ry_none] at this
  have e0 := ex 0 (by omega)
  have t0 := tx 0 (by omega)
  have hmod : TX (WC x mode) 0 % 9223372036854775808 = r := by
    rw [t0]
    unfold rx F.neg
    cases ng (WC x mode)
    · simp; omega
    · simp; rw [if_pos (by omega)]; omega
  have hW : WX x mode = if F.sgn x = true then r + 9223372036854775808 else r := by unfold WX; rw [hmod]
  have hWb : fi (WX x mode) := by
    rw [hW]
    split
    · exact fi_of (by omega) (by omega) (by omega)
    · exact fi_of (by omega) (by omega) (by omega)
  have hWm : WX x mode % 9223372036854775808 = r := by rw [hW]; split <;> omega
  have hWs : F.sgn (WX x mode) = F.sgn x := by
    have i1 := F.sgn_iff (WX x mode)
    have i2 := F.sgn_iff' (WX x mode)
    rw [hW] at i1 i2 ⊢
    cases hc : F.sgn x
    · rw [hc] at i1 i2
      exact i2.2 (by simp; omega)
    · rw [hc] at i1 i2
      exact i1.2 (by simp; omega)
  refine ⟨c1, c2, c3, c4, fun m hm' => ⟨(tx m hm').trans t0.symm, (ex m hm').1⟩, e0.2.1, e0.2.2.trans c3, hWb, ?_, hWs⟩
  rw [val_eq hWb, hWm, hWs, ← hn]
  -- the sign
  have v0 := val_eq h
  have u0 := U_pos (r := x % 9223372036854775808) (by omega)
  have ur := U_pos r0
  have nz := iw_near hP0 (V := val x) mode
  cases hc : F.sgn x
  · rw [hc] at v0
    have hv : 0 ≤ val x := by rw [v0]; unfold sgm; simpa using u0
    have h3 : 0 ≤ n := by
      have := iw_mono hP0 hv mode
      have e := iw_whole hP0 0 mode
      rw [Int.zero_mul] at e
      omega
    unfold sgm
    simp
    rw [← hr, (ab.1 h3).1]
  · rw [hc] at v0
    have hv : val x ≤ 0 := by rw [v0]; unfold sgm; simp; exact u0
    have h3 : n ≤ 0 := by
      have := iw_mono hP0 hv mode
      have e := iw_whole hP0 0 mode
      rw [Int.zero_mul] at e
      omega
    unfold sgm
    simp
    rw [← hr]
    rcases Int.lt_or_le n 0 with h4 | h4
    · rw [(ab.2 h4).1]; omega
    · rw [show n = 0 by omega]; simp
end IC
end Go.Proofs.YtpmpkllpaceloaaDoor
