/-
  Texts glued together for a claim: I3 I4 I13 I14.
-/
import Derived.Test.YtejglcpiihkenaaGreatDoorF14
import Derived.Test.YtejglcpiihkenaaGreatDoorF8
/-
  A number to a whole one, pure: what Cut at 0 places leaves is iw's; it is a number's value; the number with the sign of x (WX).
-/
namespace Go.Proofs.YtejglcpiihkenaaGreatDoor
set_option linter.unusedVariables false
set_option linter.unusedSimpArgs false
open Go.RowKit
set_option linter.unusedVariables false
set_option linter.unusedSimpArgs false
namespace IC
open L NC NK DC RC SC QC
open Z (cmpv)
theorem cr_whole {d : Dy} {mode P : Int} (hP : P = sc 1 0) (g : Fit d 1) (hm : 0 ≤ mode ∧ mode ≤ 4) :
    (CR d 0 mode).e = 0 ∧ Ok (CR d 0 mode).d ∧ S (CR d 0 mode).d = iw (S d) P mode * P ∧ CL d 0 mode = decide (S d % P ≠ 0) := by
  have hP0 : 0 < P := by rw [hP]; exact sc_one_pos _
  have gx := g.x
  have gh := g.hi
  have gl := g.lo
  by_cases hs : d.m = 0 ∨ 0 ≤ d.x
  · obtain ⟨e1, e2⟩ := cr_same (mode := mode) g.ok.1 hm (by omega) hs
    have hn : ∃ n, S d = n * P := by
      rcases hs with h | h
      · exact ⟨0, by unfold S; rw [h]; simp [sc]⟩
      · refine ⟨d.m * 2 ^ d.x.toNat, ?_⟩
        unfold S
        rw [hP, ← sc_mul1, sc_shift _ _ _ (by omega)]
        congr 1; omega
    obtain ⟨n, hn⟩ := hn
    rw [e1, e2]
    refine ⟨rfl, g.ok, ?_, ?_⟩
    · show S d = _
      rw [hn, iw_whole hP0]
    · rw [hn, Int.mul_emod_left]; rfl
  · obtain ⟨e1, e2⟩ := cr_lost (mode := mode) g.ok.1 hm (by omega) hs
    obtain ⟨c1, c2⟩ := cut_tell (places := 0) g.ok hm hs
    obtain ⟨k, j, hk, f1, f2⟩ := cut_lost (m := d.m) (show d.x < 0 by omega)
    rw [f1, f2] at c1 c2
    have hPk : P = 2 ^ k * sc 1 d.x := by
      rw [hP, ← sc_mul1, sc_two k d.x (by omega)]
      congr 1; omega
    have hS : S d = d.m * sc 1 d.x := sc_mul1 _ _
    have hq := sc_one_pos d.x
    have ei : iw (S d) P mode = sgm (ng d) (cq d 0 mode) := by
      rw [hS, hPk, iw_scale (two_pos' k) hq, ← iw_scale (two_pos' k) (two_pos' j)]
      unfold iw
      rw [if_neg c1]
      exact c2
    have hne : S d % P ≠ 0 := by
      rw [hS, hPk]
      intro h
      rw [lost_scale hq] at h
      exact c1 ((lost_scale (two_pos' j)).2 h)
    have nr := iw_near hP0 (V := S d) mode
    have hNP : sc (sgm (ng d) (cq d 0 mode)) 0 = iw (S d) P mode * P := by rw [sc_mul1, ei, hP]
    have hP1 : P ≤ sc 1 1024 := by rw [hP]; exact sc1_le (by omega) (by omega)
    have e0 : (fin (sgm (ng d) (cq d 0 mode)) 0).e = 0 := fin_fit (k := 2) (by omega) (by omega) (by rw [hNP]; omega) (by rw [hNP]; omega)
    rw [e2, e1]
    refine ⟨e0, fin_ok _ _, ?_, ?_⟩
    · have := fin_sc (by omega) e0
      rw [hNP] at this
      exact this
    · rw [e0]; simp [hne]
theorem abs_mul {n P : Int} (hP : 0 < P) : (0 ≤ n → (n.natAbs : Int) * P = n * P ∧ 0 ≤ n * P) ∧ (n < 0 → (n.natAbs : Int) * P = -(n * P) ∧ n * P < 0) := by
  constructor
  · intro h
    rw [show (n.natAbs : Int) = n by omega]
    exact ⟨rfl, Int.mul_nonneg h (Int.le_of_lt hP)⟩
  · intro h
    rw [show (n.natAbs : Int) = -n by omega, Int.neg_mul]
    exact ⟨rfl, Int.mul_neg_of_neg_of_pos h hP⟩
theorem whole_rank {x mode P n : Int} (hP : P = sc 1 0) (h : fi x) (hn : n = iw (val x) P mode) : ∃ r, 0 ≤ r ∧ r ≤ 9218868437227405311 ∧ (n.natAbs : Int) * P = U r := by
  have hP0 : 0 < P := by rw [hP]; exact sc_one_pos _
  have ab := abs_mul (n := n) hP0
  obtain ⟨k, q, q0, q1, e⟩ := unit_ex h
  by_cases hd : val x % P = 0
  · have h2 := fi_mod h
    refine ⟨x % 9223372036854775808, by omega, h2, ?_⟩
    have e2 : n * P = val x := by
      rw [hn]; unfold iw; rw [if_pos hd]
      have := Int.mul_ediv_add_emod (val x) P
      rw [Int.mul_comm]; omega
    have e3 := val_eq h
    have u0 := U_pos (r := x % 9223372036854775808) (by omega)
    unfold sgm at e3
    rcases Int.lt_or_le n 0 with h3 | h3
    · have := ab.2 h3
      split at e3 <;> omega
    · have := ab.1 h3
      split at e3 <;> omega
  · obtain ⟨E, hE⟩ : ∃ E, E = sc 1 ((k : Int) - 1074) := ⟨_, rfl⟩
    have hE0 : 0 < E := by rw [hE]; exact sc_one_pos _
    rw [← hE] at e
    have hk : k < 1074 := by
      rcases Nat.lt_or_ge k 1074 with h3 | h3
      · exact h3
      · exfalso
        have e2 : E = 2 ^ (k - 1074) * P := by
          rw [hE, hP, ← sc_mul1, sc_two _ _ (by omega)]
          congr 1; omega
        apply hd
        rw [e, e2, ← Int.mul_assoc]
        unfold sgm
        split
        · rw [← Int.neg_mul]; exact Int.mul_emod_left _ _
        · exact Int.mul_emod_left _ _
    have hE2 : 2 * E ≤ P := by
      have h3 := sc1_le (x := ((k : Int) - 1074) + 1) (y := 0) (by omega) (by omega)
      have h4 := sc_two 1 ((k : Int) - 1074) (by omega)
      rw [sc_mul1, ← hE] at h4
      rw [hP]
      have h5 : (2 : Int) ^ 1 = 2 := rfl
      rw [h5] at h4
      have h6 : ((k : Int) - 1074) + ((1 : Nat) : Int) = ((k : Int) - 1074) + 1 := rfl
      rw [h6] at h4
      omega
    have hqE : q * E ≤ 9007199254740992 * E := Int.mul_le_mul_of_nonneg_right (by omega) (Int.le_of_lt hE0)
    have hqE0 : 0 ≤ q * E := Int.mul_nonneg q0 (Int.le_of_lt hE0)
    have nr := iw_near hP0 (V := val x) mode
    rw [← hn] at nr
    have hlt : (n.natAbs : Int) * P < 4503599627370497 * P := by
      unfold sgm at e
      rcases Int.lt_or_le n 0 with h3 | h3
      · have := ab.2 h3
        split at e <;> omega
      · have := ab.1 h3
        split at e <;> omega
    have hN : (n.natAbs : Int) < 4503599627370497 := Int.lt_of_mul_lt_mul_right hlt (Int.le_of_lt hP0)
    obtain ⟨M, hM⟩ : ∃ M : Int, M = 9218868437227405311 := ⟨_, rfl⟩
    have hUM : 4503599627370497 * P ≤ U M := by
      obtain ⟨j, hj⟩ : ∃ j : Nat, j = 2045 := ⟨_, rfl⟩
      have hU := (U_of (k := j) (q := 9007199254740991) (by omega) (by omega) (by omega)).1
      rw [show (j : Int) * 4503599627370496 + 9007199254740991 = M by omega] at hU
      have h3 := sc1_le (x := 0) (y := (j : Int) - 1074) (by omega) (by omega)
      rw [← hP] at h3
      rw [hU]
      omega
    obtain ⟨r, r0, r1, hr⟩ := rank_of (N := (n.natAbs : Int)) (q := 4503599627370497) (k := 1074) hM (show P = sc 1 (((1074 : Nat) : Int) - 1074) by rw [hP]; rfl) rfl (by omega) (by omega) (by omega) (by omega)
    exact ⟨r, r0, by omega, hr⟩
theorem num_ext {a b : Int} (ha : fi a) (hb : fi b) (hs : F.sgn a = F.sgn b) (hv : val a = val b) : a = b := by
  rw [val_eq ha, val_eq hb, hs] at hv
  have h1 := fi_mod ha
  have h2 := fi_mod hb
  have hu : U (a % 9223372036854775808) = U (b % 9223372036854775808) := by
    unfold sgm at hv
    split at hv <;> omega
  have e := U_inj (by omega) (by omega) hu
  have a0 := ha.1; have a1 := ha.2.1; have b0 := hb.1; have b1 := hb.2.1
  have sa := F.sgn_iff a; have sb := F.sgn_iff b
  have sa' := F.sgn_iff' a; have sb' := F.sgn_iff' b
  cases hc : F.sgn b
  · rw [hc] at hs
    have q1 := sa'.1 hs; have q2 := sb'.1 hc
    omega
  · rw [hc] at hs
    have q1 := sa.1 hs; have q2 := sb.1 hc
    omega
/-- the dyad that Cut leaves of a number -/
def WC (x mode : Int) : Dy := (CR (OfD x).d 0 mode).d
/-- it, as a number with the sign of x -/
noncomputable def WX (x mode : Int) : Int := if F.sgn x = true then TX (WC x mode) 0 % 9223372036854775808 + 9223372036854775808 else TX (WC x mode) 0 % 9223372036854775808
theorem whole_p {x mode P : Int} (hP : P = sc 1 0) (h : fi x) (hm : 0 ≤ mode ∧ mode ≤ 4) :
    (CR (OfD x).d 0 mode).e = 0 ∧ Ok (WC x mode) ∧ S (WC x mode) = iw (val x) P mode * P ∧ CL (OfD x).d 0 mode = decide (val x % P ≠ 0) ∧
    (∀ m, 0 ≤ m ∧ m ≤ 4 → TX (WC x mode) m = TX (WC x mode) 0 ∧ TL (WC x mode) m = false) ∧ fi (TX (WC x mode) 0) ∧ val (TX (WC x mode) 0) = iw (val x) P mode * P ∧
    fi (WX x mode) ∧ val (WX x mode) = iw (val x) P mode * P ∧ F.sgn (WX x mode) = F.sgn x := by
  have hP0 : 0 < P := by rw [hP]; exact sc_one_pos _
  obtain ⟨n, hn⟩ : ∃ n, n = iw (val x) P mode := ⟨_, rfl⟩
  obtain ⟨r, r0, r1, hr⟩ := whole_rank hP h hn
  obtain ⟨c1, c2, c3, c4⟩ := cr_whole hP (of_fit h).2 hm
  have ab := abs_mul (n := n) hP0
  change Ok (WC x mode) at c2
  change S (WC x mode) = iw (val x) P mode * P at c3
  change _ = decide (val x % P ≠ 0) at c4
  have hA : A (WC x mode) = U r := by
    have a := A_abs (WC x mode)
    rw [c3, ← hn] at a
    rw [← hr]
    rcases Int.lt_or_le n 0 with h3 | h3
    · rw [(ab.2 h3).1, (a.2 (ab.2 h3).2).1]
    · rw [(ab.1 h3).1, (a.1 (ab.1 h3).2).1]
  have ex := fun m (hm' : 0 ≤ m ∧ m ≤ 4) => exact_p hm' c2 r0 r1 hA
  have t := tow_exact r0 r1
  rw [← hA] at t
  have tx : ∀ m, 0 ≤ m ∧ m ≤ 4 → TX (WC x mode) m = rx (ng (WC x mode)) r := fun m hm' => by
    have := (TX_of c2 hm' t).1
    rwa [ry_none] at this
  have e0 := ex 0 (by omega)
  have t0 := tx 0 (by omega)
  have hmod : TX (WC x mode) 0 % 9223372036854775808 = r := by
    rw [t0]
    unfold rx F.neg
    cases ng (WC x mode)
    · simp; omega
    · simp; rw [if_pos (by omega)]; omega
  have hW : WX x mode = if F.sgn x = true then r + 9223372036854775808 else r := by unfold WX; rw [hmod]
  have hWb : fi (WX x mode) := by
    rw [hW]
    split
    · exact fi_of (by omega) (by omega) (by omega)
    · exact fi_of (by omega) (by omega) (by omega)
  have hWm : WX x mode % 9223372036854775808 = r := by rw [hW]; split <;> omega
  have hWs : F.sgn (WX x mode) = F.sgn x := by
    have i1 := F.sgn_iff (WX x mode)
    have i2 := F.sgn_iff' (WX x mode)
    rw [hW] at i1 i2 ⊢
    cases hc : F.sgn x
    · rw [hc] at i1 i2
      exact i2.2 (by simp; omega)
    · rw [hc] at i1 i2
      exact i1.2 (by simp; omega)
  refine ⟨c1, c2, c3, c4, fun m hm' => ⟨(tx m hm').trans t0.symm, (ex m hm').1⟩, e0.2.1, e0.2.2.trans c3, hWb, ?_, hWs⟩
  rw [val_eq hWb, hWm, hWs, ← hn]
  -- the sign
  have v0 := val_eq h
  have u0 := U_pos (r := x % 9223372036854775808) (by omega)
  have ur := U_pos r0
  have nz := iw_near hP0 (V := val x) mode
  cases hc : F.sgn x
  · rw [hc] at v0
    have hv : 0 ≤ val x := by rw [v0]; unfold sgm; simpa using u0
    have h3 : 0 ≤ n := by
      have := iw_mono hP0 hv mode
      have e := iw_whole hP0 0 mode
      rw [Int.zero_mul] at e
      omega
    unfold sgm
    simp
    rw [← hr, (ab.1 h3).1]
  · rw [hc] at v0
    have hv : val x ≤ 0 := by rw [v0]; unfold sgm; simp; exact u0
    have h3 : n ≤ 0 := by
      have := iw_mono hP0 hv mode
      have e := iw_whole hP0 0 mode
      rw [Int.zero_mul] at e
      omega
    unfold sgm
    simp
    rw [← hr]
    rcases Int.lt_or_le n 0 with h4 | h4
    · rw [(ab.2 h4).1]; omega
    · rw [show n = 0 by omega]; simp
end IC
end Go.Proofs.YtejglcpiihkenaaGreatDoor

/-
  Package whole, pure: what Round, Int, From, Is tell (WT, IT, FT, WI); the laws.
-/
namespace Go.Proofs.YtejglcpiihkenaaGreatDoor
set_option linter.unusedVariables false
set_option linter.unusedSimpArgs false
open Go.RowKit
set_option linter.unusedVariables false
set_option linter.unusedSimpArgs false
namespace IC
open L NC NK DC RC SC QC
open Z (cmpv)
/-- x as a whole number; is something lost -/
noncomputable def wn (x mode : Int) : Int := iw (val x) (sc 1 0) mode
def lostW (x : Int) : Bool := decide (val x % sc 1 0 ≠ 0)
noncomputable def WT (x mode : Int) : Int × Bool × Int :=
  if ¬ (0 ≤ mode ∧ mode ≤ 4) then (0, false, 1) else if F.cls x = 5 then (9221120237041090560, false, 0) else if F.cls x = 4 then (x, false, 0) else (WX x mode, lostW x, 0)
noncomputable def IT (x mode : Int) : Int × Bool × Int :=
  if ¬ (0 ≤ mode ∧ mode ≤ 4) then (0, false, 1) else if F.cls x = 5 ∨ F.cls x = 4 then (0, false, 4) else
  if -9223372036854775808 ≤ wn x mode ∧ wn x mode ≤ 9223372036854775807 then (wn x mode, lostW x, 0) else (0, false, 4)
noncomputable def FT (n mode : Int) : Int × Bool × Int :=
  if ¬ (0 ≤ mode ∧ mode ≤ 4) then (0, false, 1) else (TX (fin n 0).d mode, TL (fin n 0).d mode, 0)
def WI (x : Int) : Bool := !(decide (F.cls x = 5 ∨ F.cls x = 4)) && !lostW x
theorem P_pos : 0 < sc 1 0 := sc_one_pos 0
theorem fi_cls {x : Int} (hx : 0 ≤ x ∧ x ≤ 18446744073709551615) : fi x ↔ F.cls x ≠ 5 ∧ F.cls x ≠ 4 :=
  ⟨fun h => cls_fi.2 h.2.2, fun h => ⟨hx.1, hx.2, cls_fi.1 h⟩⟩
theorem wx_fi {x mode : Int} (h : fi x) (hm : 0 ≤ mode ∧ mode ≤ 4) : fi (WX x mode) ∧ val (WX x mode) = wn x mode * sc 1 0 ∧ F.sgn (WX x mode) = F.sgn x := by
  obtain ⟨-, -, -, -, -, -, -, h1, h2, h3⟩ := whole_p rfl h hm
  exact ⟨h1, h2, h3⟩
theorem wn_wx {x mode mode' : Int} (h : fi x) (hm : 0 ≤ mode ∧ mode ≤ 4) : wn (WX x mode) mode' = wn x mode ∧ lostW (WX x mode) = false := by
  obtain ⟨h1, h2, h3⟩ := wx_fi h hm
  constructor
  · unfold wn at *
    rw [h2, iw_whole P_pos]
  · unfold lostW
    rw [h2, Int.mul_emod_left]; rfl
theorem wx_wx {x mode : Int} (h : fi x) (hm : 0 ≤ mode ∧ mode ≤ 4) : WX (WX x mode) mode = WX x mode := by
  obtain ⟨h1, h2, h3⟩ := wx_fi h hm
  obtain ⟨g1, g2, g3⟩ := wx_fi h1 hm
  exact num_ext g1 h1 g3 (by rw [g2, h2, (wn_wx h hm).1])
theorem wx_same {x mode : Int} (h : fi x) (hm : 0 ≤ mode ∧ mode ≤ 4) : WX x mode = x ↔ lostW x = false := by
  obtain ⟨h1, h2, h3⟩ := wx_fi h hm
  constructor
  · intro e
    rw [e] at h2
    unfold lostW
    rw [h2, Int.mul_emod_left]; rfl
  · intro e
    refine num_ext h1 h h3 ?_
    unfold lostW at e
    have e := of_decide_eq_false e
    have e : val x % sc 1 0 = 0 := by omega
    rw [h2]
    unfold wn iw
    rw [if_pos e]
    have := Int.mul_ediv_add_emod (val x) (sc 1 0)
    rw [Int.mul_comm]; omega
theorem wx_near {x mode : Int} (h : fi x) (hm : 0 ≤ mode ∧ mode ≤ 4) : -sc 1 0 < val x - val (WX x mode) ∧ val x - val (WX x mode) < sc 1 0 := by
  rw [(wx_fi h hm).2.1]
  exact iw_near P_pos mode
theorem rnk_le {x y : Int} (hx : fi x) (hy : fi y) (h : val x ≤ val y) : F.rnk x ≤ F.rnk y := by
  have a := val_rnk hx
  have b := val_rnk hy
  rcases Int.lt_or_le (F.rnk x) 0 with h1 | h1 <;> rcases Int.lt_or_le (F.rnk y) 0 with h2 | h2
  · rw [a.2 h1, b.2 h2] at h
    rcases Int.lt_or_le (F.rnk y) (F.rnk x) with h3 | h3
    · have := U_lt (r := -F.rnk x) (s := -F.rnk y) (by omega) (by omega); omega
    · exact h3
  · omega
  · rw [a.1 h1, b.2 h2] at h
    have := U_pos h1
    have h4 := U_lt (r := 0) (s := -F.rnk y) (by omega) (by omega)
    rw [U_zero] at h4
    omega
  · rw [a.1 h1, b.1 h2] at h
    rcases Int.lt_or_le (F.rnk y) (F.rnk x) with h3 | h3
    · have := U_lt h2 h3; omega
    · exact h3
theorem wx_le {x y mode : Int} (hx : fi x) (hy : fi y) (hm : 0 ≤ mode ∧ mode ≤ 4) (h : F.rnk x ≤ F.rnk y) : F.rnk (WX x mode) ≤ F.rnk (WX y mode) := by
  obtain ⟨x1, x2, -⟩ := wx_fi hx hm
  obtain ⟨y1, y2, -⟩ := wx_fi hy hm
  refine rnk_le x1 y1 ?_
  rw [x2, y2]
  exact Int.mul_le_mul_of_nonneg_right (iw_mono P_pos (val_le hx hy h) mode) (Int.le_of_lt P_pos)
theorem wx_down {x : Int} (hx : fi x) : F.rnk (WX x 2) ≤ F.rnk x := by
  obtain ⟨x1, x2, -⟩ := wx_fi hx (mode := 2) (by omega)
  refine rnk_le x1 hx ?_
  rw [x2]
  exact iw_down P_pos
theorem wx_up {x : Int} (hx : fi x) : F.rnk x ≤ F.rnk (WX x 1) := by
  obtain ⟨x1, x2, -⟩ := wx_fi hx (mode := 1) (by omega)
  refine rnk_le hx x1 ?_
  rw [x2]
  exact iw_up P_pos
/-- an int, as a Dyad -/
theorem int_fin {n : Int} (hn : -9223372036854775808 ≤ n ∧ n ≤ 9223372036854775807) : (fin n 0).e = 0 ∧ Ok (fin n 0).d ∧ S (fin n 0).d = n * sc 1 0 := by
  have h1 := sc_two 63 0 (by omega)
  have h2 := sc1_le (x := 0 + ((63 : Nat) : Int)) (y := 1024) (by omega) (by omega)
  rw [← h1, sc_mul1, show (2 : Int) ^ 63 = 9223372036854775808 by decide] at h2
  have hp := P_pos
  have a := Int.mul_le_mul_of_nonneg_right (show n ≤ 9223372036854775808 by omega) (Int.le_of_lt hp)
  have b := Int.mul_le_mul_of_nonneg_right (show -9223372036854775808 ≤ n by omega) (Int.le_of_lt hp)
  have e0 : (fin n 0).e = 0 := fin_fit (k := 1) (by omega) (by omega) (by rw [sc_mul1 n 0]; omega) (by rw [sc_mul1 n 0]; omega)
  refine ⟨e0, fin_ok _ _, ?_⟩
  exact (fin_sc (by omega) e0).trans (sc_mul1 n 0)
/-- nothing is lost: the value is that -/
theorem not_lost {d : Dy} {mode : Int} (h : Ok d) (hm : 0 ≤ mode ∧ mode ≤ 4) (hl : TL d mode = false) : fi (TX d mode) ∧ val (TX d mode) = S d := by
  obtain ⟨r, hf, m, t, -⟩ := towA h
  obtain ⟨-, e2, -⟩ := TX_of h hm t
  rw [hl] at e2
  have k1 : hf = false := by cases hf <;> cases m <;> first | rfl | cases e2
  have k2 : m = false := by cases hf <;> cases m <;> first | rfl | cases e2
  subst k1
  subst k2
  have t1 := of_decide_eq_false t.hh.symm
  have t2 := of_decide_eq_false t.hm.symm
  have ea : A d = U r := by
    have t3 := t.lo
    have t4 : A d = sc (d.m.natAbs : Int) d.x := rfl
    rcases Int.lt_or_le (A d) (U r) with q | q
    · omega
    · rcases Int.lt_or_le (U r) (A d) with q2 | q2
      · exfalso
        apply t2
        refine ⟨by omega, by omega⟩
      · omega
  exact (exact_p hm h t.r0 t.r1 ea).2
theorem small_int {n mode : Int} (hn : -9007199254740992 ≤ n ∧ n ≤ 9007199254740992) (hm : 0 ≤ mode ∧ mode ≤ 4) : TL (fin n 0).d mode = false := by
  obtain ⟨e0, g, hS⟩ := int_fin (n := n) (by omega)
  have ab := abs_mul (n := n) P_pos
  have a := A_abs (fin n 0).d
  have hA : A (fin n 0).d = (n.natAbs : Int) * sc 1 0 := by
    rw [hS] at a
    rcases Int.lt_or_le n 0 with h3 | h3
    · rw [(a.2 (ab.2 h3).2).1, (ab.2 h3).1]
    · rw [(a.1 (ab.1 h3).2).1, (ab.1 h3).1]
  obtain ⟨M, hM⟩ : ∃ M : Int, M = 9218868437227405311 := ⟨_, rfl⟩
  have hP := P_pos
  have hUM : 9007199254740992 * sc 1 0 ≤ U M := by
    obtain ⟨j, hj⟩ : ∃ j : Nat, j = 2045 := ⟨_, rfl⟩
    have hU := (U_of (k := j) (q := 9007199254740991) (by omega) (by omega) (by omega)).1
    rw [show (j : Int) * 4503599627370496 + 9007199254740991 = M by omega] at hU
    have h1 := sc_two 1 0 (by omega)
    have h3 := sc1_le (x := 0 + ((1 : Nat) : Int)) (y := (j : Int) - 1074) (by omega) (by omega)
    rw [← h1, sc_mul1, show (2 : Int) ^ 1 = 2 by decide] at h3
    rw [hU]
    omega
  have hr : ∃ r, 0 ≤ r ∧ r ≤ M ∧ A (fin n 0).d = U r := by
    rw [hA]
    by_cases hb : (n.natAbs : Int) < 9007199254740992
    · have := Int.mul_le_mul_of_nonneg_right (show (n.natAbs : Int) ≤ 9007199254740992 by omega) (Int.le_of_lt hP)
      exact rank_of (N := (n.natAbs : Int)) (q := (n.natAbs : Int)) (k := 1074) hM (show sc 1 0 = sc 1 (((1074 : Nat) : Int) - 1074) from rfl) rfl (by omega) (by omega) (by omega) (by omega)
    · have hb : (n.natAbs : Int) = 9007199254740992 := by omega
      have h1 := sc_two 1 0 (by omega)
      rw [sc_mul1, show (2 : Int) ^ 1 = 2 by decide, show (0 : Int) + ((1 : Nat) : Int) = ((1075 : Nat) : Int) - 1074 by decide] at h1
      rw [hb]
      exact rank_of (N := 4503599627370496) (q := 4503599627370496) (k := 1075) hM rfl (by omega) (by omega) (by omega) (by omega) (by omega)
  obtain ⟨r, r0, r1, hr⟩ := hr
  exact (exact_p hm g r0 (by omega) hr).1
/-- an int to a number and back -/
theorem back_p {n mode : Int} (hn : -9223372036854775808 ≤ n ∧ n ≤ 9223372036854775807) (hm : 0 ≤ mode ∧ mode ≤ 4) (hl : TL (fin n 0).d mode = false) : IT (TX (fin n 0).d mode) mode = (n, false, 0) := by
  obtain ⟨e0, g, hS⟩ := int_fin hn
  obtain ⟨h1, h2⟩ := not_lost g hm hl
  rw [hS] at h2
  have hw : wn (TX (fin n 0).d mode) mode = n := by unfold wn; rw [h2, iw_whole P_pos]
  have hz : lostW (TX (fin n 0).d mode) = false := by unfold lostW; rw [h2, Int.mul_emod_left]; rfl
  have hc := cls_fi.2 h1.2.2
  unfold IT
  rw [if_neg (by omega), if_neg (by omega), hw, hz, if_pos hn]
/-- an int of a number, and of the number rounded -/
theorem it_wt {x mode : Int} (hx : 0 ≤ x ∧ x ≤ 18446744073709551615) (hm : 0 ≤ mode ∧ mode ≤ 4) :
    (WT x mode).2.2 = 0 ∧ (IT (WT x mode).1 mode).2.2 = (IT x mode).2.2 ∧ (IT (WT x mode).1 mode).1 = (IT x mode).1 ∧ ((IT x mode).2.2 = 0 → (IT (WT x mode).1 mode).2.1 = false ∧ (IT x mode).2.1 = (WT x mode).2.1) := by
  by_cases hf : fi x
  · have hc := cls_fi.2 hf.2.2
    obtain ⟨h1, h2, h3⟩ := wx_fi hf hm
    have hc1 := cls_fi.2 h1.2.2
    have e : WT x mode = (WX x mode, lostW x, 0) := by unfold WT; rw [if_neg (by omega), if_neg (by omega), if_neg (by omega)]
    rw [e]
    dsimp only
    obtain ⟨w1, w2⟩ := wn_wx (mode' := mode) hf hm
    have i1 : IT x mode = if -9223372036854775808 ≤ wn x mode ∧ wn x mode ≤ 9223372036854775807 then (wn x mode, lostW x, 0) else (0, false, 4) := by unfold IT; rw [if_neg (by omega), if_neg (by omega)]
    have i2 : IT (WX x mode) mode = if -9223372036854775808 ≤ wn x mode ∧ wn x mode ≤ 9223372036854775807 then (wn x mode, false, 0) else (0, false, 4) := by unfold IT; rw [if_neg (by omega), if_neg (by omega), w1, w2]
    rw [i1, i2]
    split
    · exact ⟨rfl, rfl, rfl, fun _ => ⟨rfl, rfl⟩⟩
    · exact ⟨rfl, rfl, rfl, fun h => by simp at h⟩
  · have hc : F.cls x = 5 ∨ F.cls x = 4 := by
      rcases Classical.em (F.cls x = 5 ∨ F.cls x = 4) with h | h
      · exact h
      · exact absurd ((fi_cls hx).2 ⟨fun q => h (.inl q), fun q => h (.inr q)⟩) hf
    have e : ∃ y, WT x mode = (y, false, 0) ∧ (F.cls y = 5 ∨ F.cls y = 4) := by
      unfold WT
      rw [if_neg (by omega)]
      by_cases h5 : F.cls x = 5
      · rw [if_pos h5]; exact ⟨_, rfl, .inl (by decide)⟩
      · rw [if_neg h5, if_pos (by omega)]; exact ⟨_, rfl, by omega⟩
    obtain ⟨y, e, hy⟩ := e
    rw [e]
    dsimp only
    have i1 : IT x mode = (0, false, 4) := by unfold IT; rw [if_neg (by omega), if_pos hc]
    have i2 : IT y mode = (0, false, 4) := by unfold IT; rw [if_neg (by omega), if_pos hy]
    rw [i1, i2]
    exact ⟨rfl, rfl, rfl, fun h => by simp at h⟩
end IC
end Go.Proofs.YtejglcpiihkenaaGreatDoor

/-
  Package whole, pure, for its code: the number out of To; the exponent of what is whole; an int out of a Dyad.
-/
namespace Go.Proofs.YtejglcpiihkenaaGreatDoor
set_option linter.unusedVariables false
set_option linter.unusedSimpArgs false
open Go.RowKit
set_option linter.unusedVariables false
set_option linter.unusedSimpArgs false
namespace IC
open L NC NK DC RC SC QC
open Z (cmpv)
/-- WX out of To -/
theorem wx_to {x mode : Int} (h : fi x) (hm : 0 ≤ mode ∧ mode ≤ 4) : WX x mode = if TX (WC x mode) mode = 0 ∧ 9223372036854775808 ≤ x then 9223372036854775808 else TX (WC x mode) mode := by
  obtain ⟨c1, c2, c3, c4, c5, f0, v0, f1, v1, s1⟩ := whole_p rfl h hm
  rw [(c5 mode hm).1]
  have sx := F.sgn_iff x
  have sx' := F.sgn_iff' x
  have i1 := F.sgn_iff (WX x mode)
  have i2 := F.sgn_iff' (WX x mode)
  have b0 := f1.1; have b1 := f1.2.1
  have d0 := f0.1; have d1 := f0.2.1
  by_cases h0 : val (WX x mode) = 0
  · have e0 : TX (WC x mode) 0 = 0 := by
      obtain ⟨g1, -⟩ := cr_whole (P := sc 1 0) rfl (of_fit h).2 hm
      have a := A_abs (WC x mode)
      have hS : S (WC x mode) = 0 := by rw [c3]; rw [v1] at h0; exact h0
      have hA := (a.1 (by omega))
      have t := tow_exact (r := 0) (by omega) (by omega)
      have hA0 : A (WC x mode) = U 0 := by rw [U_zero, hA.1, hS]
      rw [← hA0] at t
      have := (TX_of c2 (mode := 0) (by omega) t).1
      rw [ry_none, hA.2] at this
      exact this
    rw [e0]
    rcases val_zero f1 h0 with q | q
    · rw [q] at i1 i2 s1
      have hs : F.sgn 0 = false := by decide
      rw [hs] at s1
      have := sx'.1 s1.symm
      rw [if_neg (by omega), q]
    · rw [q] at s1
      have hs : F.sgn 9223372036854775808 = true := by decide
      rw [hs] at s1
      have := sx.1 s1.symm
      rw [if_pos ⟨rfl, by omega⟩, q]
  · have e1 : val (WX x mode) = val (TX (WC x mode) 0) := by rw [v1, v0]
    have e2 : WX x mode = TX (WC x mode) 0 := by
      refine num_ext f1 f0 ?_ e1
      have v3 := val_eq f1
      have v4 := val_eq f0
      have u1 := U_pos (r := WX x mode % 9223372036854775808) (by omega)
      have u2 := U_pos (r := TX (WC x mode) 0 % 9223372036854775808) (by omega)
      unfold sgm at v3 v4
      cases q1 : F.sgn (WX x mode) <;> cases q2 : F.sgn (TX (WC x mode) 0) <;> rw [q1] at v3 <;> rw [q2] at v4 <;> simp at v3 v4 <;> first | rfl | omega
    have hne : TX (WC x mode) 0 ≠ 0 := by
      intro q
      apply h0
      rw [e1, q]
      decide +kernel
    rw [if_neg (fun k => hne k.1), e2]
/-- a Dyad with a whole value has no exponent below 0 -/
theorem whole_x {d : Dy} {n : Int} (g : Ok d) (hS : S d = n * sc 1 0) : 0 ≤ d.x ∧ n = d.m * 2 ^ d.x.toNat := by
  have hx := g.2.2.2.2
  have hp := P_pos
  rcases Int.lt_or_le d.x 0 with q | q
  · exfalso
    have e1 : S d = d.m * sc 1 d.x := sc_mul1 _ _
    have e2 : sc 1 0 = 2 ^ (-d.x).toNat * sc 1 d.x := by
      rw [← sc_mul1, sc_two _ _ (by omega)]
      congr 1; omega
    rw [e1, e2, ← Int.mul_assoc] at hS
    have hm := Int.eq_of_mul_eq_mul_right (Int.ne_of_gt (sc_one_pos d.x)) hS
    have hc := g.2.1
    obtain ⟨k, hk⟩ : ∃ k, (-d.x).toNat = k + 1 := ⟨(-d.x).toNat - 1, by omega⟩
    rw [hk, Int.pow_succ, ← Int.mul_assoc] at hm
    unfold can at hc
    generalize n * 2 ^ k = y at *
    omega
  · refine ⟨q, ?_⟩
    have e1 : S d = (d.m * 2 ^ d.x.toNat) * sc 1 0 := by
      rw [← sc_mul1, sc_shift _ _ _ (by omega)]
      unfold S
      congr 1; omega
    rw [e1] at hS
    exact (Int.eq_of_mul_eq_mul_right (Int.ne_of_gt hp) hS).symm
/-- what is whole -/
theorem is_x {x : Int} (h : fi x) : (0 ≤ (OfD x).d.x) ↔ lostW x = false := by
  obtain ⟨e0, g⟩ := of_fit h
  have ev : val x = S (OfD x).d := rfl
  have hp := P_pos
  have gx := g.x
  constructor
  · intro q
    have e1 : S (OfD x).d = ((OfD x).d.m * 2 ^ (OfD x).d.x.toNat) * sc 1 0 := by
      rw [← sc_mul1, sc_shift _ _ _ (by omega)]
      unfold S
      congr 1; omega
    unfold lostW
    rw [ev, e1, Int.mul_emod_left]; rfl
  · intro q
    unfold lostW at q
    have q := of_decide_eq_false q
    have q : val x % sc 1 0 = 0 := by omega
    have e := Int.mul_ediv_add_emod (val x) (sc 1 0)
    rw [q, Int.mul_comm, Int.add_zero] at e
    exact (whole_x g.ok (by rw [← ev]; exact e.symm)).1
/-- the Dyad of the number told -/
theorem int_of {x mode : Int} (h : fi x) (hm : 0 ≤ mode ∧ mode ≤ 4) : (OfD (WX x mode)).e = 0 ∧ Ok (OfD (WX x mode)).d ∧ 0 ≤ (OfD (WX x mode)).d.x ∧ wn x mode = (OfD (WX x mode)).d.m * 2 ^ (OfD (WX x mode)).d.x.toNat := by
  obtain ⟨f1, v1, -⟩ := wx_fi h hm
  obtain ⟨e0, g⟩ := of_fit f1
  obtain ⟨k1, k2⟩ := whole_x g.ok (n := wn x mode) v1
  exact ⟨e0, g.ok, k1, k2⟩
end IC
end Go.Proofs.YtejglcpiihkenaaGreatDoor

/-
  Package whole, pure: the sign's bit put to a number; an int out of limbs.
-/
namespace Go.Proofs.YtejglcpiihkenaaGreatDoor
set_option linter.unusedVariables false
set_option linter.unusedSimpArgs false
open Go.RowKit
set_option linter.unusedVariables false
set_option linter.unusedSimpArgs false
namespace IC
open L NC NK DC RC SC QC
theorem and_top' (a : Nat) : a &&& 9223372036854775808 = if a.testBit 63 = true then 9223372036854775808 else 0 := by
  have h2 : (9223372036854775808 : Nat) = 2 ^ 63 := rfl
  have h3 : Nat.testBit 9223372036854775808 63 = true := by decide
  apply Nat.eq_of_testBit_eq
  intro i
  rw [Nat.testBit_and]
  by_cases hi : i = 63
  · subst hi
    rw [h3]
    cases a.testBit 63
    · simp
    · simp [h3]
  · have : Nat.testBit 9223372036854775808 i = false := by rw [h2]; exact Nat.testBit_two_pow_of_ne (by omega)
    rw [this]
    split
    · rw [this]; simp
    · simp
theorem top_bit' {x : Int} (h0 : 0 ≤ x) (h1 : x ≤ 18446744073709551615) : x.toNat.testBit 63 = F.sgn x := by
  by_cases h : 9223372036854775808 ≤ x
  · rw [F.sgn_t h, Nat.testBit_eq_decide_div_mod_eq, decide_eq_true_iff]; omega
  · rw [F.sgn_f (by omega), Nat.testBit_eq_decide_div_mod_eq, decide_eq_false_iff_not]; omega
theorem and_sgn {x : Int} (hx : 0 ≤ x ∧ x ≤ 18446744073709551615) : bits .and .u64 x 9223372036854775808 = if F.sgn x then 9223372036854775808 else 0 := by
  rw [u64_and x _ hx.1 (by omega) (by decide) (by decide)]
  rw [show (9223372036854775808 : Int).toNat = 9223372036854775808 from rfl, and_top', top_bit' hx.1 hx.2]
  cases F.sgn x <;> rfl
theorem or_sgn {y : Int} (hy : 0 ≤ y ∧ y ≤ 18446744073709551615) : bits .or .u64 y 9223372036854775808 = if F.sgn y then y else y + 9223372036854775808 := by
  rw [u64_or y _ hy.1 (by omega) (by decide) (by decide)]
  rw [show (9223372036854775808 : Int).toNat = 9223372036854775808 from rfl]
  by_cases h : 9223372036854775808 ≤ y
  · rw [F.sgn_t h]
    obtain ⟨k, hk⟩ : ∃ k, y.toNat = 9223372036854775808 + k := ⟨y.toNat - 9223372036854775808, by omega⟩
    have e : (9223372036854775808 ||| k) = 9223372036854775808 + k := nat_join 63 _ _ (by decide) (by omega)
    have e2 : (9223372036854775808 ||| k) ||| 9223372036854775808 = 9223372036854775808 ||| k := by
      rw [Nat.or_assoc, Nat.or_comm k, ← Nat.or_assoc, Nat.or_self]
    rw [hk, ← e, e2, e]
    simp only [if_true]; omega
  · rw [F.sgn_f (by omega), Nat.or_comm, nat_join 63 _ _ (by decide) (by omega)]
    simp; omega
theorem rs_bits {x y z : Int} (hx : 0 ≤ x ∧ x ≤ 18446744073709551615) (hy : 0 ≤ y ∧ y ≤ 18446744073709551615) (h : (y = 0 ∧ F.sgn x = true ∧ z = 9223372036854775808) ∨ (y = 0 ∧ F.sgn x = false ∧ z = 0) ∨ (z = y ∧ F.sgn y = F.sgn x)) : bits .or .u64 y (bits .and .u64 x 9223372036854775808) = z := by
  rw [and_sgn hx]
  have z0 : bits .or .u64 y 0 = y := by
    rw [u64_or y _ hy.1 (by omega) (by decide) (by decide), show (0 : Int).toNat = 0 from rfl, Nat.or_zero]; omega
  rcases h with ⟨rfl, h1, rfl⟩ | ⟨rfl, h1, rfl⟩ | ⟨rfl, h1⟩
  · rw [h1]; simp only [if_true]
    rw [or_sgn hy]; decide
  · rw [h1]; simpa using z0
  · cases h2 : F.sgn x
    · simpa using z0
    · simp only [if_true]
      rw [or_sgn hy, h1, h2]; rfl
/-- an int, if it is one -/
def tI (n : Int) : Int × Int := if -9223372036854775808 ≤ n ∧ n ≤ 9223372036854775807 then (n, 0) else (0, 4)
def topI (b : Bool) : Int := if b then 9223372036854775808 else 9223372036854775807
theorem tI_in {m s : Int} (h0 : 0 ≤ s) (hs : s ≤ topI (decide (m < 0))) (n : Int) (hn : n = sgm (decide (m < 0)) s) : tI n = (n, 0) := by
  unfold tI
  rw [if_pos]
  subst hn
  unfold topI at hs
  unfold sgm
  by_cases q : m < 0
  · rw [decide_eq_true q] at hs ⊢
    simp only [if_true] at hs ⊢
    omega
  · rw [decide_eq_false q] at hs ⊢
    simp at hs ⊢
    omega
theorem tI_out {m s : Int} (hs : topI (decide (m < 0)) < s) (n : Int) (hn : n = sgm (decide (m < 0)) s) : tI n = (0, 4) := by
  unfold tI
  rw [if_neg]
  subst hn
  unfold topI at hs
  unfold sgm
  by_cases q : m < 0
  · rw [decide_eq_true q] at hs ⊢
    simp only [if_true] at hs ⊢
    omega
  · rw [decide_eq_false q] at hs ⊢
    simp at hs ⊢
    omega
/-- the size of a whole number -/
theorem size_of {x n : Int} (hf : fi x) (hn : val x = n * sc 1 0) : ∃ s : Int, 0 ≤ s ∧ s < 4294967296 ^ 400 ∧ (OfD x).d.m.natAbs * 2 ^ (OfD x).d.x.toNat = s ∧ n = sgm (decide ((OfD x).d.m < 0)) s ∧ 0 ≤ (OfD x).d.x ∧ (OfD x).d.x ≤ 10000 := by
  obtain ⟨e0, g⟩ := of_fit hf
  obtain ⟨k1, k2⟩ := whole_x g.ok hn
  have hi := g.hi
  have lo := g.lo
  have hS : S (OfD x).d = n * sc 1 0 := hn
  rw [hS] at hi lo
  have hP := P_pos
  have hb : (OfD x).d.x ≤ 10000 := g.ok.2.2.2.2.2
  have h2 : sc 1 1024 = 2 ^ 1024 * sc 1 0 := by
    rw [← sc_mul1, sc_two 1024 0 (by omega)]
    congr 1
  have h3 : (2 : Int) ^ 1024 < 4294967296 ^ 400 := by
    rw [show (4294967296 : Int) = 2 ^ 32 by decide, ← Int.pow_mul]
    exact two_lt' (by omega)
  rw [h2, Int.one_mul] at hi lo
  have l2 : -(2 ^ 1024) * sc 1 0 ≤ n * sc 1 0 := by rw [Int.neg_mul]; exact lo
  have hi := Int.le_of_mul_le_mul_right hi hP
  have l2 := Int.le_of_mul_le_mul_right l2 hP
  generalize (OfD x).d.m = m at *
  generalize (OfD x).d.x = t at *
  have hp := two_pos' t.toNat
  generalize (2 : Int) ^ t.toNat = p at *
  generalize (2 : Int) ^ 1024 = T at *
  generalize (4294967296 : Int) ^ 400 = Q at *
  refine ⟨_, Int.mul_nonneg (by omega) (Int.le_of_lt hp), ?_, rfl, ?_, k1, hb⟩
  · rcases Int.lt_or_le m 0 with q | q
    · rw [show (m.natAbs : Int) = -m by omega, Int.neg_mul]; omega
    · rw [show (m.natAbs : Int) = m by omega]; omega
  · unfold sgm
    rcases Int.lt_or_le m 0 with q | q
    · rw [show (m.natAbs : Int) = -m by omega, decide_eq_true q, Int.neg_mul]; simp only [if_true]; omega
    · rw [show (m.natAbs : Int) = m by omega, decide_eq_false (by omega)]; simp; omega
/-- limbs of no more than 64 bits -/
theorem two_limbs {L : List Int} (hL : Lim L) (hz : Z.Nz L) (h : lv L ≤ 9223372036854775808) : L.length ≤ 2 := by
  refine len_le hL hz ?_
  have : (4294967296 : Int) ^ 2 = 18446744073709551616 := by decide
  omega
theorem limb_step {L : List Int} (hL : Lim L) (k : Nat) (hk : k < 2) (q : Int) (hq : L.getD k 0 = q) : bits .or .u64 (lv (L.take k)) (q * 2 ^ (32 * k)) = lv (L.take (k + 1)) := by
  have bq := hL.at_ k
  rw [hq] at bq
  rw [lv_take_succ, hq]
  rcases (show k = 0 ∨ k = 1 by omega) with rfl | rfl
  · simp only [List.take_zero, Nat.mul_zero, Int.pow_zero, Int.mul_one, lv]
    rw [u64_or 0 q (by omega) (by omega) bq.1 (by omega), show (0 : Int).toNat = 0 from rfl, Nat.zero_or]; omega
  · have b0 := lv_lt (hL.take 1)
    have b1 := lv_nonneg (hL.take 1)
    have l1 : (L.take 1).length ≤ 1 := by simp; omega
    have b2 : (4294967296 : Int) ^ (L.take 1).length ≤ 4294967296 ^ 1 := pow_mono l1
    rw [show (4294967296 : Int) ^ 1 = 4294967296 by decide] at b2 ⊢
    rw [show (2 : Int) ^ (32 * 1) = 4294967296 by decide]
    rw [u64_or32 _ (q * 4294967296) b1 (by omega) (by omega) (by omega) (by omega)]; omega
end IC
end Go.Proofs.YtejglcpiihkenaaGreatDoor

