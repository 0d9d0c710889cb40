/-
  Texts glued together for a claim: X5 X6 X10 X7.
-/
import Derived.Test.YtejglcpiihkenaaGreatDoorF12
import Derived.Test.YtejglcpiihkenaaGreatDoorF14
import Derived.Test.YtejglcpiihkenaaGreatDoorF16
import Derived.Test.YtejglcpiihkenaaGreatDoorF15
/-
  Package exact, pure: Split: a number cut to its highest bits, and what is left.
-/
namespace Go.Proofs.YtejglcpiihkenaaGreatDoor
set_option linter.unusedVariables false
set_option linter.unusedSimpArgs false
open Go.RowKit
set_option linter.unusedVariables false
set_option linter.unusedSimpArgs false
namespace XC
open L NC NK DC RC SC PC QC IC
open Z (cmpv)
theorem iw_3 {V P : Int} (hP : 0 < P) : (0 ≤ V → iw V P 3 = V / P) ∧ (V < 0 → iw V P 3 = -((-V) / P)) := by
  have e := Int.mul_ediv_add_emod V P
  have r0 := Int.emod_nonneg V (show P ≠ 0 by omega)
  have r1 := Int.emod_lt_of_pos V hP
  constructor
  · intro h
    unfold iw cutv
    split
    · rfl
    · have : decide (V < 0) = false := decide_eq_false (by omega)
      simp [ug, this]
  · intro h
    by_cases q : V % P = 0
    · unfold iw
      rw [if_pos q]
      rw [q] at e
      have e2 : -V = P * (-(V / P)) := by rw [Int.mul_neg]; omega
      rw [e2, Int.mul_ediv_cancel_left _ (by omega)]; omega
    · have e2 : (-V) / P = -(V / P) - 1 := by
        have : -V = (P - V % P) + P * (-(V / P) - 1) := by rw [Int.mul_sub, Int.mul_neg, Int.mul_one]; omega
        rw [this, Int.add_mul_ediv_left _ _ (show P ≠ 0 by omega), Int.ediv_eq_zero_of_lt (by omega) (by omega)]; omega
      rw [e2]
      unfold iw cutv
      rw [if_neg q]
      have : decide (V < 0) = true := decide_eq_true h
      simp [ug, this]
      omega
theorem cr_at {d : Dy} {p mode P : Int} (hp : -1200 ≤ p ∧ p ≤ 1024) (hP : P = sc 1 p) (g : Fit d 1) (hm : 0 ≤ mode ∧ mode ≤ 4) :
    (CR d p mode).e = 0 ∧ Ok (CR d p mode).d ∧ S (CR d p mode).d = iw (S d) P mode * P := by
  have hP0 : 0 < P := by rw [hP]; exact sc_one_pos _
  have gx := g.x
  have gh := g.hi
  have gl := g.lo
  by_cases hs : d.m = 0 ∨ p ≤ d.x
  · obtain ⟨e1, e2⟩ := cr_same (mode := mode) g.ok.1 hm (by omega) hs
    have hn : ∃ n, S d = n * P := by
      rcases hs with h | h
      · exact ⟨0, by unfold S; rw [h]; simp [sc]⟩
      · refine ⟨d.m * 2 ^ (d.x - p).toNat, ?_⟩
        unfold S
        rw [hP, ← sc_mul1, sc_shift _ _ _ (by omega)]
        congr 1; omega
    obtain ⟨n, hn⟩ := hn
    rw [e1]
    refine ⟨rfl, g.ok, ?_⟩
    show S d = _
    rw [hn, iw_whole hP0]
  · obtain ⟨e1, e2⟩ := cr_lost (mode := mode) g.ok.1 hm (by omega) hs
    obtain ⟨c1, c2⟩ := cut_tell (places := p) g.ok hm hs
    obtain ⟨k, j, hk, f1, f2⟩ := cut_lost (m := d.m) (show d.x < p by omega)
    rw [f1, f2] at c1 c2
    have hPk : P = 2 ^ k * sc 1 d.x := by
      rw [hP, ← sc_mul1, sc_two k d.x (by omega)]
      congr 1; omega
    have hS : S d = d.m * sc 1 d.x := sc_mul1 _ _
    have hq := sc_one_pos d.x
    have ei : iw (S d) P mode = sgm (ng d) (cq d p mode) := by
      rw [hS, hPk, iw_scale (two_pos' k) hq, ← iw_scale (two_pos' k) (two_pos' j)]
      unfold iw
      rw [if_neg c1]
      exact c2
    have nr := iw_near hP0 (V := S d) mode
    have hNP : sc (sgm (ng d) (cq d p mode)) p = iw (S d) P mode * P := by rw [sc_mul1, ei, hP]
    have hP1 : P ≤ sc 1 1024 := by rw [hP]; exact sc1_le hp.2 (by omega)
    have e0 : (fin (sgm (ng d) (cq d p mode)) p).e = 0 := fin_fit (k := 2) (by omega) (by omega) (by rw [hNP]; omega) (by rw [hNP]; omega)
    rw [e1]
    refine ⟨e0, fin_ok _ _, ?_⟩
    have := fin_sc (by omega) e0
    rw [hNP] at this
    exact this
/-- the size of a number, and its highest bit -/
def sz (x : Int) : Int := U (x % 9223372036854775808)
def topx (x : Int) : Int := (OfD x).d.x + ((OfD x).d.m.natAbs.log2 : Nat)
/-- the highest bits -/
noncomputable def hx (x p : Int) : Int := TX (CR (OfD x).d p 3).d 0
theorem trunc_e {x p P : Int} (h : fi x) (hp : -1200 ≤ p ∧ p ≤ 1024) (hP : P = sc 1 p) : S (CR (OfD x).d p 3).d = sgm (F.sgn x) (sz x / P * P) := by
  have hP0 : 0 < P := by rw [hP]; exact sc_one_pos _
  obtain ⟨c1, c2, c3⟩ := cr_at (mode := 3) hp hP (of_fit h).2 (by omega)
  have hv := val_eq h
  have hmod := fi_mod h
  have u0 : 0 ≤ sz x := U_pos (by omega)
  rw [c3]
  have i := fun V => iw_3 (V := V) hP0
  have hv : S (OfD x).d = sgm (F.sgn x) (sz x) := hv
  rw [hv]
  cases F.sgn x
  · show iw (sz x) P 3 * P = sz x / P * P
    rw [(i _).1 u0]
  · show iw (-sz x) P 3 * P = -(sz x / P * P)
    rcases Int.lt_or_le 0 (sz x) with q | q
    · rw [(i _).2 (by omega), Int.neg_neg, Int.neg_mul]
    · rw [(i _).1 (by omega), show sz x = 0 by omega]; simp
theorem trunc_p {x p P : Int} (h : fi x) (hp : -1200 ≤ p ∧ p ≤ 1024) (hP : P = sc 1 p) : (CR (OfD x).d p 3).e = 0 ∧ Ok (CR (OfD x).d p 3).d ∧ fi (hx x p) ∧ val (hx x p) = sgm (F.sgn x) (sz x / P * P) := by
  have hP0 : 0 < P := by rw [hP]; exact sc_one_pos _
  obtain ⟨c1, c2, c3⟩ := cr_at (mode := 3) hp hP (of_fit h).2 (by omega)
  have hv := val_eq h
  have hmod := fi_mod h
  have u0 : 0 ≤ sz x := U_pos (by omega)
  have e := trunc_e h hp hP
  have d0 := Int.mul_ediv_add_emod (sz x) P
  have d1 := Int.emod_nonneg (sz x) (show P ≠ 0 by omega)
  have d2 := Int.ediv_nonneg u0 (Int.le_of_lt hP0)
  have d3 := Int.mul_nonneg d2 (Int.le_of_lt hP0)
  rw [Int.mul_comm] at d0
  have hr : ∃ r, 0 ≤ r ∧ r ≤ 9218868437227405311 ∧ sz x / P * P = U r := by
    obtain ⟨q, q0, q1, eq⟩ := unit_ulp h
    have hb := ulp_bd h
    have esz : sz x = q * sc 1 (F.ulp x) := by
      rw [hv, sc_mul1] at eq
      have eq : sgm (F.sgn x) (sz x) = sgm (F.sgn x) (q * sc 1 (F.ulp x)) := eq
      unfold sgm at eq
      split at eq <;> omega
    rcases Int.lt_or_le (F.ulp x) p with g | g
    · obtain ⟨k, hk⟩ : ∃ k : Nat, p = (k : Int) - 1074 := ⟨(p + 1074).toNat, by omega⟩
      obtain ⟨t, ht⟩ : ∃ t : Nat, p = F.ulp x + (t : Int) := ⟨(p - F.ulp x).toNat, by omega⟩
      have eP : P = 2 ^ t * sc 1 (F.ulp x) := by
        rw [hP, ← sc_mul1, sc_two _ _ (by omega), ht]
      have hE := sc_one_pos (F.ulp x)
      have hle : sz x / P ≤ q := by
        rw [esz, eP, Int.mul_ediv_mul_of_pos_left _ _ hE]
        exact Int.ediv_le_self _ q0
      obtain ⟨r, r0, r1, e⟩ := rank_of (N := sz x / P) (q := q) (k := k) (E := P) (M := 9218868437227405311) rfl (by rw [hP, hk]) rfl d2 hle (by omega) (by
        have := U_le (r := x % 9223372036854775808) (s := 9218868437227405311) (by omega) (by omega)
        have hs : sz x = U (x % 9223372036854775808) := rfl
        omega)
      exact ⟨r, r0, r1, e⟩
    · refine ⟨x % 9223372036854775808, by omega, by omega, ?_⟩
      obtain ⟨t, ht⟩ : ∃ t : Nat, F.ulp x = p + (t : Int) := ⟨(F.ulp x - p).toNat, by omega⟩
      have eP : sc 1 (F.ulp x) = 2 ^ t * P := by
        rw [hP, ← sc_mul1, sc_two _ _ (by omega), ht]
      show _ = sz x
      rw [esz, eP, ← Int.mul_assoc, Int.mul_ediv_cancel _ (by omega)]
  obtain ⟨r, r0, r1, er⟩ := hr
  have ab := A_abs (CR (OfD x).d p 3).d
  have hU := U_pos r0
  have eA : A (CR (OfD x).d p 3).d = U r := by
    rw [e, er] at ab
    unfold sgm at ab
    cases q : F.sgn x <;> rw [q] at ab <;> simp at ab
    · exact (ab.1 hU).1
    · rcases Int.lt_or_le 0 (U r) with g | g
      · have := (ab.2 g).1; omega
      · have := (ab.1 (by omega)).1; omega
  obtain ⟨-, e2, e3⟩ := exact_p (mode := 0) (by omega) c2 r0 r1 eA
  exact ⟨c1, c2, e2, by unfold hx; rw [e3, e]⟩
/-- what is left -/
theorem rest_s {x p P : Int} (h : fi x) (hp : -1200 ≤ p ∧ p ≤ 1024) (hP : P = sc 1 p) (hge : P ≤ sz x) : fi (sb x (hx x p)) ∧ val (sb x (hx x p)) = val x - val (hx x p) ∧ val x - val (hx x p) = sgm (F.sgn x) (sz x % P) := by
  have hP0 : 0 < P := by rw [hP]; exact sc_one_pos _
  obtain ⟨-, -, fh, vh⟩ := trunc_p h hp hP
  have hv := val_eq h
  have hmod := fi_mod h
  have d0 := Int.mul_ediv_add_emod (sz x) P
  have d1 := Int.emod_nonneg (sz x) (show P ≠ 0 by omega)
  have d2 := Int.emod_lt_of_pos (sz x) hP0
  have d3 : P ≤ sz x / P * P := by
    have : 1 ≤ sz x / P := by
      have := Int.ediv_le_ediv hP0 hge
      rwa [Int.ediv_self (by omega)] at this
    have := Int.mul_le_mul_of_nonneg_right this (Int.le_of_lt hP0)
    rwa [Int.one_mul] at this
  rw [Int.mul_comm] at d0
  have hv : val x = sgm (F.sgn x) (sz x) := hv
  have er : val x - val (hx x p) = sgm (F.sgn x) (sz x % P) := by
    rw [hv, vh]
    unfold sgm
    split <;> omega
  refine ⟨?_, ?_, er⟩
  all_goals
    obtain ⟨X, vx, pX⟩ := val_fp h
    obtain ⟨H, vH, pH⟩ := val_fp fh
    have ev : vs [x, F.neg (hx x p)] = (X - H) * e0 := by
      rw [Int.sub_mul, ← vx, ← vH]; simp [vs, val_neg fh]; omega
    have eXH : (X - H) * e0 = sgm (F.sgn x) (sz x % P) := by rw [Int.sub_mul, ← vx, ← vH]; exact er
    have hM := U_le (r := x % 9223372036854775808) (s := 9218868437227405311) (by omega) (by omega)
    have hs : sz x = U (x % 9223372036854775808) := rfl
    obtain ⟨-, g1, N, g2, g3⟩ := nr_AT (mode := 0) (M := 9218868437227405311) rfl (by simp) (f2 h (fi_neg fh)) ev (by rw [ev, eXH]; unfold sgm; split <;> omega) (.inl rfl)
    have f3 : Fp (X - H) := by
      refine dif_fp pX (fp_neg pH) ?_ ?_
      · refine abs_scale e0_pos ?_
        rw [Int.add_mul, Int.neg_mul, ← vx, ← vH, show val x + -val (hx x p) = val x - val (hx x p) by omega, er, hv]
        unfold sgm; split <;> omega
      · refine abs_scale e0_pos ?_
        rw [Int.add_mul, Int.neg_mul, ← vx, ← vH, show val x + -val (hx x p) = val x - val (hx x p) by omega, er, vh]
        unfold sgm; split <;> omega
    have := nr_exact g3 f3
    subst this
    first
      | exact g1
      | (show val (AT [x, F.neg (hx x p)] 0).1 = _
         rw [g2, eXH, er])
end XC
end Go.Proofs.YtejglcpiihkenaaGreatDoor

/-
  Package exact, pure: products of parts are exact, if they aren't too great (VELTKAMP, DEKKER).
-/
namespace Go.Proofs.YtejglcpiihkenaaGreatDoor
set_option linter.unusedVariables false
set_option linter.unusedSimpArgs false
open Go.RowKit
set_option linter.unusedVariables false
set_option linter.unusedSimpArgs false
namespace XC
open L NC NK DC RC SC PC QC IC
open Z (cmpv)
theorem mul_over {a b N : Int} {k : Nat} (fa : fi a) (fb : fi b) (hN : 0 ≤ N) (hN2 : N ≤ 9007199254740992) (e : A (PD a b).d = N * 2 ^ k * e0) : (MT a b 0).2.1 = false ∨ F.cls (MT a b 0).1 = 4 := by
  obtain ⟨M, hM⟩ : ∃ M : Int, M = 9218868437227405311 := ⟨_, rfl⟩
  have hm : 0 ≤ (0 : Int) ∧ (0 : Int) ≤ 4 := by omega
  cases h : (bc a b).2
  · rw [MT_fi hm h]
    dsimp only
    have ok := (pd_p fa fb rfl).2.1.ok
    obtain ⟨ρ, r0, hr⟩ := fp_rank (fp_mk k hN2 (by omega))
    have hpos := Int.mul_nonneg hN (Int.le_of_lt (tp k))
    rw [show ((N * 2 ^ k).natAbs : Int) = N * 2 ^ k by omega, ← e] at hr
    rcases Int.lt_or_le M ρ with g | g
    · right
      obtain ⟨r, hf, m, t, -⟩ := towA ok
      have x1 := (TX_of ok hm t).1
      have r1 := t.r1
      have rr := t.r0
      have k1 := U_le (r := M + 1) (s := ρ) (by omega) (by omega)
      have k2 := U_lt (r := M) (s := M + 1) (by omega) (by omega)
      have er : r = M := by
        rcases Int.lt_or_le r M with q | q
        · have := t.hi (by omega)
          have := U_le (r := r + 1) (s := M) (by omega) (by omega)
          omega
        · omega
      subst er
      have hh := t.hh
      have hm' := t.hm
      rw [decide_eq_true (by omega)] at hh
      rw [decide_eq_true (by omega)] at hm'
      have ey : ry (ng (PD a b).d) r hf m 0 = r + 1 := by
        rw [hh, hm']
        unfold ry RC.up
        simp
      rw [x1, ey]
      have := rx_mod (b := ng (PD a b).d) (y := r + 1) (by omega) (by omega)
      generalize rx (ng (PD a b).d) (r + 1) = z at *
      unfold F.cls F.exq F.fra
      have h1 := this.1
      rw [hM] at h1
      repeat (first | omega | split)
    · left
      exact (exact_p hm ok r0 (by omega) hr).1
  · rw [MT_bc hm h]; exact .inl rfl
theorem pd_A {a b N N' i i' : Int} {s s' : Bool} (fa : fi a) (fb : fi b) (n0 : 0 ≤ N) (n0' : 0 ≤ N') (hi : -10000 ≤ i) (hi' : -10000 ≤ i') (va : val a = sgm s (N * sc 1 i)) (vb : val b = sgm s' (N' * sc 1 i')) : A (PD a b).d = N * N' * sc 1 (i + i') := by
  obtain ⟨K, hK⟩ : ∃ K : Nat, K = 60000 := ⟨_, rfl⟩
  have p := pd_p fa fb hK
  have e := sc_mul (m := N) (n := N') (x := i) (y := i') hi hi' hK
  have hN := Int.mul_nonneg n0 n0'
  rw [← sc_mul1] at va vb ⊢
  have hz : 0 ≤ sc (N * N') (i + i') := by rw [sc_mul1]; exact Int.mul_nonneg hN (Int.le_of_lt (sc_one_pos _))
  have eS : S (PD a b).d = sgm (s != s') (sc (N * N') (i + i')) := by
    apply K_inj (K := K)
    rw [p.2.2, va, vb, ← sg_xor, ← e]
    unfold sgm
    cases (s != s')
    · simp
    · simp [Int.neg_mul]
  have s1 := S_sg (PD a b).d
  have s2 := s1.2
  rw [s1.1] at eS
  unfold sgm at eS
  split at eS <;> split at eS <;> omega
/-- parts of 26 and of 27 bits -/
theorem parts26 {x p P : Int} (h : fi x) (hp : -1200 ≤ p ∧ p ≤ 1024) (hP : P = sc 1 p) (h1 : 33554432 * P ≤ sz x) (h2 : sz x < 67108864 * P) :
    (∃ (N : Int) (j : Nat), 0 ≤ N ∧ N < 67108864 ∧ sz x / P * P = N * sc 1 (F.ulp x + j)) ∧ ∃ K : Int, 0 ≤ K ∧ K < 134217728 ∧ sz x % P = K * sc 1 (F.ulp x) := by
  have hP0 : 0 < P := by rw [hP]; exact sc_one_pos _
  obtain ⟨q, q0, q1, eq⟩ := unit_ulp h
  have hb := ulp_bd h
  have hv := val_eq h
  have u0 : 0 ≤ sz x := U_pos (by have := h.1; omega)
  have esz : sz x = q * sc 1 (F.ulp x) := by
    rw [hv, sc_mul1] at eq
    have eq : sgm (F.sgn x) (sz x) = sgm (F.sgn x) (q * sc 1 (F.ulp x)) := eq
    have := Int.mul_nonneg q0 (Int.le_of_lt (sc_one_pos (F.ulp x)))
    unfold sgm at eq
    split at eq <;> omega
  have hE := sc_one_pos (F.ulp x)
  rcases Int.lt_or_le (F.ulp x) p with g | g
  · obtain ⟨t, ht⟩ : ∃ t : Nat, p = F.ulp x + (t : Int) := ⟨(p - F.ulp x).toNat, by omega⟩
    have eP : P = 2 ^ t * sc 1 (F.ulp x) := by
      rw [hP, ← sc_mul1, sc_two _ _ (by omega), ht]
    have ht0 := tp t
    rw [esz, eP] at h1 h2 ⊢
    rw [← Int.mul_assoc] at h1 h2
    have g1 := Int.le_of_mul_le_mul_right h1 hE
    have g2 := Int.lt_of_mul_lt_mul_right h2 (Int.le_of_lt hE)
    refine ⟨⟨q / 2 ^ t, t, Int.ediv_nonneg q0 (Int.le_of_lt ht0), ?_, ?_⟩, q % 2 ^ t, Int.emod_nonneg _ (by omega), ?_, ?_⟩
    · exact Int.ediv_lt_of_lt_mul ht0 g2
    · rw [Int.mul_ediv_mul_of_pos_left _ _ hE, ← sc_two _ _ (by omega), sc_mul1 (2 ^ t)]
    · have : (2 : Int) ^ t ≤ 134217728 := by
        rcases Nat.lt_or_ge 27 t with w | w
        · have := tle (show 28 ≤ t by omega)
          rw [show (2 : Int) ^ 28 = 268435456 by decide] at this
          omega
        · have := tle w
          rw [show (2 : Int) ^ 27 = 134217728 by decide] at this
          exact this
      have := Int.emod_lt_of_pos q ht0
      omega
    · rw [Int.mul_comm q, Int.mul_comm (2 ^ t), Int.mul_emod_mul_of_pos _ _ hE, Int.mul_comm]
  · obtain ⟨t, ht⟩ : ∃ t : Nat, F.ulp x = p + (t : Int) := ⟨(F.ulp x - p).toNat, by omega⟩
    have eP : sc 1 (F.ulp x) = 2 ^ t * P := by
      rw [hP, ← sc_mul1, sc_two _ _ (by omega), ht]
    have e1 : sz x = q * 2 ^ t * P := by rw [esz, eP, ← Int.mul_assoc]
    have e2 : sz x % P = 0 := by rw [e1, Int.mul_emod_left]
    have e3 : sz x / P * P = sz x := by rw [e1, Int.mul_ediv_cancel _ (by omega)]
    refine ⟨⟨q, 0, q0, ?_, by rw [e3, esz]; simp⟩, 0, by omega, by omega, by rw [e2]; simp⟩
    rw [e1] at h2
    have g2 := Int.lt_of_mul_lt_mul_right h2 (Int.le_of_lt hP0)
    have := tle (show 0 ≤ t by omega)
    have e4 := Int.mul_le_mul_of_nonneg_left this q0
    rw [Int.pow_zero, Int.mul_one] at e4
    omega
/-- both products of parts -/
theorem split_prod {a b N N' u v : Int} {j : Nat} {s s' : Bool} (fa : fi a) (fb : fi b) (hu : -1074 ≤ u) (hv : -1074 ≤ v) (huv : -1074 ≤ u + v) (n0 : 0 ≤ N) (n1 : N < 67108864) (n0' : 0 ≤ N') (n1' : N' < 134217728)
    (va : val a = sgm s (N * sc 1 (u + j))) {j' : Nat} (vb : val b = sgm s' (N' * sc 1 (v + j'))) : (MT a b 0).2.1 = false ∨ F.cls (MT a b 0).1 = 4 := by
  have e := pd_A fa fb n0 n0' (by omega) (by omega) va vb
  obtain ⟨k, hk⟩ : ∃ k : Nat, (k : Int) - 1074 = u + j + (v + j') := ⟨(u + j + (v + j') + 1074).toNat, by omega⟩
  rw [← hk, e0_pow, ← Int.mul_assoc] at e
  refine mul_over fa fb (Int.mul_nonneg n0 n0') ?_ e
  have := Int.mul_le_mul_of_nonneg_right (show N ≤ 67108863 by omega) n0'
  omega
end XC
end Go.Proofs.YtejglcpiihkenaaGreatDoor

/-
  Package exact, pure: the highest bit of a number; what Split tells (SPt).
-/
namespace Go.Proofs.YtejglcpiihkenaaGreatDoor
set_option linter.unusedVariables false
set_option linter.unusedSimpArgs false
open Go.RowKit
set_option linter.unusedVariables false
set_option linter.unusedSimpArgs false
namespace XC
open L NC NK DC RC SC PC QC IC
open Z (cmpv)
noncomputable def SPt (x bits : Int) : Int × Int × Int :=
  if F.exq x = 2047 then (0, 0, 4) else if ¬ (1 ≤ bits ∧ bits ≤ 52) then (0, 0, 1) else if (OfD x).d.m = 0 then (x, sb x x, 0) else (hx x (topx x + 1 - bits), sb x (hx x (topx x + 1 - bits)), 0)
theorem sz_ulp {x : Int} (h : fi x) : ∃ q : Int, 0 ≤ q ∧ q < 9007199254740992 ∧ sz x = q * sc 1 (F.ulp x) := by
  obtain ⟨q, q0, q1, eq⟩ := unit_ulp h
  refine ⟨q, q0, q1, ?_⟩
  have hv := val_eq h
  have u0 : 0 ≤ sz x := U_pos (by have := h.1; omega)
  rw [hv, sc_mul1] at eq
  have eq : sgm (F.sgn x) (sz x) = sgm (F.sgn x) (q * sc 1 (F.ulp x)) := eq
  have := Int.mul_nonneg q0 (Int.le_of_lt (sc_one_pos (F.ulp x)))
  unfold sgm at eq
  split at eq <;> omega
theorem sz_A {x : Int} (h : fi x) : sz x = ((OfD x).d.m.natAbs : Int) * sc 1 (OfD x).d.x := by
  have hv := val_eq h
  have u0 : 0 ≤ sz x := U_pos (by have := h.1; omega)
  have e1 : val x = (OfD x).d.m * sc 1 (OfD x).d.x := sc_mul1 _ _
  have hv : val x = sgm (F.sgn x) (sz x) := hv
  rw [e1] at hv
  have hp := sc_one_pos (OfD x).d.x
  generalize sc 1 (OfD x).d.x = E at *
  rcases Int.lt_or_le (OfD x).d.m 0 with q | q
  · rw [show ((OfD x).d.m.natAbs : Int) = -(OfD x).d.m by omega, Int.neg_mul]
    have := Int.mul_neg_of_neg_of_pos q hp
    unfold sgm at hv
    split at hv <;> omega
  · rw [show ((OfD x).d.m.natAbs : Int) = (OfD x).d.m by omega]
    have := Int.mul_nonneg q (Int.le_of_lt hp)
    unfold sgm at hv
    split at hv <;> omega
theorem sc1_lt {x y : Int} (h : sc 1 x < sc 1 y) (hy : -60000 ≤ y) : x < y := by
  rcases Int.lt_or_le x y with g | g
  · exact g
  · have := sc1_le g hy; omega
theorem top_p {x : Int} (h : fi x) (h0 : (OfD x).d.m ≠ 0) : sc 1 (topx x) ≤ sz x ∧ sz x < sc 1 (topx x + 1) ∧ -1074 ≤ topx x ∧ topx x ≤ 1023 := by
  have g := (of_fit h).2.x
  obtain ⟨q, q0, q1, eq⟩ := sz_ulp h
  have hb := ulp_bd h
  have e := sz_A h
  have hp := sc_one_pos (OfD x).d.x
  have n0 : (OfD x).d.m.natAbs ≠ 0 := by omega
  have l1 := Nat.log2_self_le n0
  have l2 := Nat.lt_log2_self (n := (OfD x).d.m.natAbs)
  unfold topx
  generalize (OfD x).d.m.natAbs = m at *
  generalize (OfD x).d.x = t at *
  obtain ⟨L, hL⟩ : ∃ L, L = m.log2 := ⟨_, rfl⟩
  rw [← hL] at l1 l2 ⊢
  have c1 : (2 : Int) ^ L ≤ m := by have : ((2 ^ L : Nat) : Int) ≤ m := by omega
                                    rwa [Int.natCast_pow] at this
  have c2 : (m : Int) < 2 ^ (L + 1) := by have : (m : Int) < ((2 ^ (L + 1) : Nat) : Int) := by omega
                                          rwa [Int.natCast_pow] at this
  have k1 : sc 1 (t + L) ≤ sz x := by
    rw [e, ← sc_two L t (by omega), sc_mul1]
    exact Int.mul_le_mul_of_nonneg_right c1 (Int.le_of_lt hp)
  have k2 : sz x < sc 1 (t + L + 1) := by
    rw [e, show t + (L : Int) + 1 = t + ((L + 1 : Nat) : Int) by omega, ← sc_two (L + 1) t (by omega), sc_mul1 (2 ^ (L + 1))]
    exact Int.mul_lt_mul_of_pos_right c2 hp
  have k3 : sz x < sc 1 1024 := by
    have a1 : sz x < 9007199254740992 * sc 1 (F.ulp x) := by rw [eq]; exact Int.mul_lt_mul_of_pos_right q1 (sc_one_pos _)
    have a2 : 9007199254740992 * sc 1 (F.ulp x) = sc 1 (F.ulp x + ((53 : Nat) : Int)) := by
      rw [← sc_two 53 _ (by omega), sc_mul1 (2 ^ 53)]; rfl
    have a3 := sc1_le (x := F.ulp x + ((53 : Nat) : Int)) (y := 1024) (by omega) (by omega)
    omega
  refine ⟨k1, k2, by omega, ?_⟩
  have := sc1_lt (Int.lt_of_le_of_lt k1 k3) (by omega)
  omega
theorem log_n {m n : Nat} (h1 : (m : Int) < 2 ^ n) (h2 : n = 0 ∨ (2 : Int) ^ (n - 1) ≤ m) (h0 : m ≠ 0) : (n : Int) = (m.log2 : Int) + 1 := by
  have l1 := Nat.log2_self_le h0
  have l2 := Nat.lt_log2_self (n := m)
  have e : ∀ k : Nat, ((2 ^ k : Nat) : Int) = 2 ^ k := fun k => by rw [Int.natCast_pow]; rfl
  have h1 : m < 2 ^ n := by have : (m : Int) < ((2 ^ n : Nat) : Int) := by rw [e]; exact h1
                            omega
  have hn : n ≠ 0 := fun q => by rw [q] at h1; omega
  have h2 : 2 ^ (n - 1) ≤ m := by
    rcases h2 with h2 | h2
    · exact absurd h2 hn
    · have : ((2 ^ (n - 1) : Nat) : Int) ≤ m := by rw [e]; exact h2
      omega
  have a : m.log2 < n := by
    rcases Nat.lt_or_ge m.log2 n with g | g
    · exact g
    · have := Nat.pow_le_pow_right (show 0 < 2 by decide) g; omega
  have b : n - 1 < m.log2 + 1 := by
    rcases Nat.lt_or_ge (n - 1) (m.log2 + 1) with g | g
    · exact g
    · have := Nat.pow_le_pow_right (show 0 < 2 by decide) g; omega
  omega
end XC
end Go.Proofs.YtejglcpiihkenaaGreatDoor

/-
  Package exact: its contracts. walked over the landed code.
-/
namespace Go.Proofs.YtejglcpiihkenaaGreatDoor
set_option linter.unusedVariables false
set_option linter.unusedSimpArgs false
open Go.RowKit
set_option linter.unusedVariables false
set_option linter.unusedSimpArgs false
namespace XC
open L NC NK DC RC SC PC QC IC
open Z (cmpv)
noncomputable def hx' (x bits : Int) : Int := hx x (topx x + 1 - bits)
def bits_or (y x : Int) : Int := bits .or .u64 y (bits .and .u64 x 9223372036854775808)
def T2v (t : Int × Int × Int) : Value := .tuple #[.int .u64 t.1, .int .u64 t.2.1, .int .i64 t.2.2]
theorem ad_bd {x y : Int} (hx : 0 ≤ x ∧ x ≤ 18446744073709551615) (hy : 0 ≤ y ∧ y ≤ 18446744073709551615) : 0 ≤ ad x y ∧ ad x y ≤ 18446744073709551615 := AT_bd 0 (u2 hx hy)
theorem sb_bd {x y : Int} (hx : 0 ≤ x ∧ x ≤ 18446744073709551615) (hy : 0 ≤ y ∧ y ≤ 18446744073709551615) : 0 ≤ sb x y ∧ sb x y ≤ 18446744073709551615 := AT_bd 0 (u2 hx (F.neg_bd y hy.1 hy.2))
theorem hv_iff (x : Int) : (F.cls x < 4 ↔ ¬ F.exq x = 2047) := by
  have := cls_fi (x := x)
  have := F.cls_bd x
  omega
theorem re_eq' (r : Re) (h : r.e = 0) : r = ⟨0, r.d⟩ := by cases r; cases h; rfl
theorem hasValue_c (x : Int) (w : World) (hx : 0 ≤ x ∧ x ≤ 18446744073709551615) (hT : TabD w) : Calls Tryz.prog 49 #[.int .u64 x] w (DC.RetB w (.bool (!decide (F.exq x = 2047)))) := by
  have D := Lib.hid (Below.refl w.heap.size w)
  have OF := Lib.hid (Of_d x hx.1 hx.2 w hT)
  have e : (!decide (F.exq x = 2047)) = ((OfD x).e == 0) := by
    by_cases q : F.exq x = 2047
    · rw [decide_eq_true q]
      unfold OfD
      rw [if_pos q]; rfl
    · rw [decide_eq_false q, (of_fit (show fi x from ⟨hx.1, hx.2, q⟩)).1]; rfl
  rw [e]
  generalize OfD x = r at *
  clear hx hT e
  go_enter Tryz.func49, Tryz.ntmps49
  go_wp2_with (go_at_call 38; (with_reducible refine (OF.out).mono ?_); rintro e w2 ⟨b2, A2, n2, c2, x2, rfl, hv, hb⟩; have s := hb.alloc hb.size (.cells #[.bool b2, .slice A2 n2 c2, .int .i64 x2] 60); have D := Lib.hid (D.out.trans (s.mono D.out.size)); clear hv hb s)
  go_ret
  exact ⟨rfl, D.out⟩
theorem plus_c (x y : Int) (w : World) (hx : 0 ≤ x ∧ x ≤ 18446744073709551615) (hy : 0 ≤ y ∧ y ≤ 18446744073709551615) (hT : TabD w) : Calls Tryz.prog 23 #[.int .u64 x, .int .u64 y] w (DC.RetB w (.int .u64 (ad x y))) := by
  have C := Lib.hid (Add_c x y 0 w hx hy hT)
  unfold ad
  unfold ATv at C
  generalize AT [x, y] 0 = t at *
  clear hx hy hT
  go_enter Tryz.func23, Tryz.ntmps23
  go_wp2_with (go_at_call 21; (with_reducible refine (C.out).mono ?_); rintro e w1 ⟨rfl, hb⟩; have D := Lib.hid hb; clear hb)
  go_ret
  exact ⟨rfl, D.out⟩
theorem minus_c (x y : Int) (w : World) (hx : 0 ≤ x ∧ x ≤ 18446744073709551615) (hy : 0 ≤ y ∧ y ≤ 18446744073709551615) (hT : TabD w) : Calls Tryz.prog 22 #[.int .u64 x, .int .u64 y] w (DC.RetB w (.int .u64 (sb x y))) := by
  have C := Lib.hid (Sub_c x y 0 w hx hy hT)
  unfold sb
  unfold ATv at C
  generalize AT [x, F.neg y] 0 = t at *
  clear hx hy hT
  go_enter Tryz.func22, Tryz.ntmps22
  go_wp2_with (go_at_call 51; (with_reducible refine (C.out).mono ?_); rintro e w1 ⟨rfl, hb⟩; have D := Lib.hid hb; clear hb)
  go_ret
  exact ⟨rfl, D.out⟩
/-- the error of a sum, or of a product -/
noncomputable def te (x y p : Int) : Int := if F.exq x = 2047 ∨ F.exq y = 2047 then 4 else if F.exq p = 2047 then 2 else 0
set_option maxHeartbeats 2000000 in
theorem finite_s (x y : Int) (t : Int × Bool × Int) (w : World) (hx : 0 ≤ x ∧ x ≤ 18446744073709551615) (hy : 0 ≤ y ∧ y ≤ 18446744073709551615) (bt : 0 ≤ t.1 ∧ t.1 ≤ 18446744073709551615) (hT : TabD w) (AP0 : ∀ W, Below w.heap.size w W → Calls Tryz.prog 21 #[.int .u64 x, .int .u64 y, .int .i64 0] W (DC.RetB W (ATv t))) :
    Calls Tryz.prog 20 #[.func (.func 21) #[] #[], .int .u64 x, .int .u64 y] w (DC.RetB w (.tuple #[.int .u64 (if te x y t.1 = 0 then t.1 else 0), .int .i64 (te x y t.1)])) := by
  have HT : Hid (∀ W : World, Below w.heap.size w W → TabD W) := fun W hW => hT.below hW
  have D := Lib.hid (Below.refl w.heap.size w)
  have HX : Hid (∀ W, Below w.heap.size w W → Calls Tryz.prog 49 #[.int .u64 x] W (DC.RetB W (.bool (!decide (F.exq x = 2047))))) := fun W hW => hasValue_c x W hx (HT.out W hW)
  have HY : Hid (∀ W, Below w.heap.size w W → Calls Tryz.prog 49 #[.int .u64 y] W (DC.RetB W (.bool (!decide (F.exq y = 2047))))) := fun W hW => hasValue_c y W hy (HT.out W hW)
  have HS : Hid (∀ W, Below w.heap.size w W → Calls Tryz.prog 49 #[.int .u64 t.1] W (DC.RetB W (.bool (!decide (F.exq t.1 = 2047))))) := fun W hW => hasValue_c _ W bt (HT.out W hW)
  have AP := Lib.hid AP0
  unfold ATv at AP
  obtain ⟨p, l, er⟩ := t
  dsimp only at *
  clear AP0
  by_cases h1 : F.exq x = 2047
  · rw [decide_eq_true h1] at HX
    have e4 : te x y p = 4 := by unfold te; rw [if_pos (.inl h1)]
    rw [e4]
    clear e4 h1 HS AP hT hx hy HT bt
    go_enter Tryz.func20, Tryz.ntmps20
    go_wp2_with (first | (go_at_call 49; (with_reducible refine (HX.out _ D.out).mono ?_); rintro e w1 ⟨rfl, hb⟩; have D := Lib.hid (D.out.trans (hb.mono D.out.size)); clear hb HX))
    go_ret2
    exact ⟨rfl, D.out⟩
  · by_cases h2 : F.exq y = 2047
    · rw [decide_eq_false h1] at HX
      rw [decide_eq_true h2] at HY
      have e4 : te x y p = 4 := by unfold te; rw [if_pos (.inr h2)]
      rw [e4]
      clear e4 h1 h2 HS AP hT hx hy HT bt
      go_enter Tryz.func20, Tryz.ntmps20
      go_wp2_with (first | (go_at_call 49; (with_reducible refine (HX.out _ D.out).mono ?_); rintro e w1 ⟨rfl, hb⟩; have D := Lib.hid (D.out.trans (hb.mono D.out.size)); clear hb HX) | (go_at_call 49; (with_reducible refine (HY.out _ D.out).mono ?_); rintro e w2 ⟨rfl, hb⟩; have D := Lib.hid (D.out.trans (hb.mono D.out.size)); clear hb HY))
      go_ret2
      exact ⟨rfl, D.out⟩
    · rw [decide_eq_false h1] at HX
      rw [decide_eq_false h2] at HY
      by_cases h3 : F.exq p = 2047
      · have e4 : te x y p = 2 := by unfold te; rw [if_neg (by rintro (q | q); exact h1 q; exact h2 q), if_pos h3]
        rw [e4]
        rw [decide_eq_true h3] at HS
        clear e4 h1 h2 h3 hT hx hy HT bt
        go_enter Tryz.func20, Tryz.ntmps20
        go_wp2_with (first | (go_at_call 49; (with_reducible refine (HX.out _ D.out).mono ?_); rintro e w1 ⟨rfl, hb⟩; have D := Lib.hid (D.out.trans (hb.mono D.out.size)); clear hb HX) | (go_at_call 49; (with_reducible refine (HY.out _ D.out).mono ?_); rintro e w2 ⟨rfl, hb⟩; have D := Lib.hid (D.out.trans (hb.mono D.out.size)); clear hb HY) | (go_at_call 21; (with_reducible refine (AP.out _ D.out).mono ?_); rintro e w3 ⟨rfl, hb⟩; have D := Lib.hid (D.out.trans (hb.mono D.out.size)); clear hb) | (go_at_call 49; (with_reducible refine (HS.out _ D.out).mono ?_); rintro e w4 ⟨rfl, hb⟩; have D := Lib.hid (D.out.trans (hb.mono D.out.size)); clear hb))
        go_ret2
        exact ⟨rfl, D.out⟩
      · have e4 : te x y p = 0 := by unfold te; rw [if_neg (by rintro (q | q); exact h1 q; exact h2 q), if_neg h3]
        rw [e4, if_pos rfl]
        rw [decide_eq_false h3] at HS
        clear e4 h1 h2 h3 hT hx hy HT bt
        go_enter Tryz.func20, Tryz.ntmps20
        go_wp2_with (first | (go_at_call 49; (with_reducible refine (HX.out _ D.out).mono ?_); rintro e w1 ⟨rfl, hb⟩; have D := Lib.hid (D.out.trans (hb.mono D.out.size)); clear hb HX) | (go_at_call 49; (with_reducible refine (HY.out _ D.out).mono ?_); rintro e w2 ⟨rfl, hb⟩; have D := Lib.hid (D.out.trans (hb.mono D.out.size)); clear hb HY) | (go_at_call 21; (with_reducible refine (AP.out _ D.out).mono ?_); rintro e w3 ⟨rfl, hb⟩; have D := Lib.hid (D.out.trans (hb.mono D.out.size)); clear hb) | (go_at_call 49; (with_reducible refine (HS.out _ D.out).mono ?_); rintro e w4 ⟨rfl, hb⟩; have D := Lib.hid (D.out.trans (hb.mono D.out.size)); clear hb))
        go_ret2
        exact ⟨rfl, D.out⟩
set_option maxHeartbeats 2000000 in
theorem finite_p (x y : Int) (t : Int × Bool × Int) (w : World) (hx : 0 ≤ x ∧ x ≤ 18446744073709551615) (hy : 0 ≤ y ∧ y ≤ 18446744073709551615) (bt : 0 ≤ t.1 ∧ t.1 ≤ 18446744073709551615) (hT : TabD w) (AP0 : ∀ W, Below w.heap.size w W → Calls Tryz.prog 24 #[.int .u64 x, .int .u64 y, .int .i64 0] W (DC.RetB W (ATv t))) :
    Calls Tryz.prog 20 #[.func (.func 24) #[] #[], .int .u64 x, .int .u64 y] w (DC.RetB w (.tuple #[.int .u64 (if te x y t.1 = 0 then t.1 else 0), .int .i64 (te x y t.1)])) := by
  have HT : Hid (∀ W : World, Below w.heap.size w W → TabD W) := fun W hW => hT.below hW
  have D := Lib.hid (Below.refl w.heap.size w)
  have HX : Hid (∀ W, Below w.heap.size w W → Calls Tryz.prog 49 #[.int .u64 x] W (DC.RetB W (.bool (!decide (F.exq x = 2047))))) := fun W hW => hasValue_c x W hx (HT.out W hW)
  have HY : Hid (∀ W, Below w.heap.size w W → Calls Tryz.prog 49 #[.int .u64 y] W (DC.RetB W (.bool (!decide (F.exq y = 2047))))) := fun W hW => hasValue_c y W hy (HT.out W hW)
  have HS : Hid (∀ W, Below w.heap.size w W → Calls Tryz.prog 49 #[.int .u64 t.1] W (DC.RetB W (.bool (!decide (F.exq t.1 = 2047))))) := fun W hW => hasValue_c _ W bt (HT.out W hW)
  have AP := Lib.hid AP0
  unfold ATv at AP
  obtain ⟨p, l, er⟩ := t
  dsimp only at *
  clear AP0
  by_cases h1 : F.exq x = 2047
  · rw [decide_eq_true h1] at HX
    have e4 : te x y p = 4 := by unfold te; rw [if_pos (.inl h1)]
    rw [e4]
    clear e4 h1 HS AP hT hx hy HT bt
    go_enter Tryz.func20, Tryz.ntmps20
    go_wp2_with (first | (go_at_call 49; (with_reducible refine (HX.out _ D.out).mono ?_); rintro e w1 ⟨rfl, hb⟩; have D := Lib.hid (D.out.trans (hb.mono D.out.size)); clear hb HX))
    go_ret2
    exact ⟨rfl, D.out⟩
  · by_cases h2 : F.exq y = 2047
    · rw [decide_eq_false h1] at HX
      rw [decide_eq_true h2] at HY
      have e4 : te x y p = 4 := by unfold te; rw [if_pos (.inr h2)]
      rw [e4]
      clear e4 h1 h2 HS AP hT hx hy HT bt
      go_enter Tryz.func20, Tryz.ntmps20
      go_wp2_with (first | (go_at_call 49; (with_reducible refine (HX.out _ D.out).mono ?_); rintro e w1 ⟨rfl, hb⟩; have D := Lib.hid (D.out.trans (hb.mono D.out.size)); clear hb HX) | (go_at_call 49; (with_reducible refine (HY.out _ D.out).mono ?_); rintro e w2 ⟨rfl, hb⟩; have D := Lib.hid (D.out.trans (hb.mono D.out.size)); clear hb HY))
      go_ret2
      exact ⟨rfl, D.out⟩
    · rw [decide_eq_false h1] at HX
      rw [decide_eq_false h2] at HY
      by_cases h3 : F.exq p = 2047
      · have e4 : te x y p = 2 := by unfold te; rw [if_neg (by rintro (q | q); exact h1 q; exact h2 q), if_pos h3]
        rw [e4]
        rw [decide_eq_true h3] at HS
        clear e4 h1 h2 h3 hT hx hy HT bt
        go_enter Tryz.func20, Tryz.ntmps20
        go_wp2_with (first | (go_at_call 49; (with_reducible refine (HX.out _ D.out).mono ?_); rintro e w1 ⟨rfl, hb⟩; have D := Lib.hid (D.out.trans (hb.mono D.out.size)); clear hb HX) | (go_at_call 49; (with_reducible refine (HY.out _ D.out).mono ?_); rintro e w2 ⟨rfl, hb⟩; have D := Lib.hid (D.out.trans (hb.mono D.out.size)); clear hb HY) | (go_at_call 24; (with_reducible refine (AP.out _ D.out).mono ?_); rintro e w3 ⟨rfl, hb⟩; have D := Lib.hid (D.out.trans (hb.mono D.out.size)); clear hb) | (go_at_call 49; (with_reducible refine (HS.out _ D.out).mono ?_); rintro e w4 ⟨rfl, hb⟩; have D := Lib.hid (D.out.trans (hb.mono D.out.size)); clear hb))
        go_ret2
        exact ⟨rfl, D.out⟩
      · have e4 : te x y p = 0 := by unfold te; rw [if_neg (by rintro (q | q); exact h1 q; exact h2 q), if_neg h3]
        rw [e4, if_pos rfl]
        rw [decide_eq_false h3] at HS
        clear e4 h1 h2 h3 hT hx hy HT bt
        go_enter Tryz.func20, Tryz.ntmps20
        go_wp2_with (first | (go_at_call 49; (with_reducible refine (HX.out _ D.out).mono ?_); rintro e w1 ⟨rfl, hb⟩; have D := Lib.hid (D.out.trans (hb.mono D.out.size)); clear hb HX) | (go_at_call 49; (with_reducible refine (HY.out _ D.out).mono ?_); rintro e w2 ⟨rfl, hb⟩; have D := Lib.hid (D.out.trans (hb.mono D.out.size)); clear hb HY) | (go_at_call 24; (with_reducible refine (AP.out _ D.out).mono ?_); rintro e w3 ⟨rfl, hb⟩; have D := Lib.hid (D.out.trans (hb.mono D.out.size)); clear hb) | (go_at_call 49; (with_reducible refine (HS.out _ D.out).mono ?_); rintro e w4 ⟨rfl, hb⟩; have D := Lib.hid (D.out.trans (hb.mono D.out.size)); clear hb))
        go_ret2
        exact ⟨rfl, D.out⟩
theorem TwoSum_c (x y : Int) (w : World) (hx : 0 ≤ x ∧ x ≤ 18446744073709551615) (hy : 0 ≤ y ∧ y ≤ 18446744073709551615) (hT : TabD w) : Calls Tryz.prog 5 #[.int .u64 x, .int .u64 y] w (DC.RetB w (T2v (T2 x y))) := by
  have HT : Hid (∀ W : World, Below w.heap.size w W → TabD W) := fun W hW => hT.below hW
  have D := Lib.hid (Below.refl w.heap.size w)
  have TO := Lib.hid (finite_s x y (AT [x, y] 0) w hx hy (ad_bd hx hy) hT (fun W hW => Add_c x y 0 W hx hy (hT.below hW)))
  change Hid (Calls _ _ _ _ (DC.RetB w (.tuple #[.int .u64 (if te x y (ad x y) = 0 then ad x y else 0), .int .i64 (te x y (ad x y))]))) at TO
  have ht : (te x y (ad x y) ≠ 0 ∧ T2 x y = (0, 0, te x y (ad x y))) ∨ (te x y (ad x y) = 0 ∧ T2 x y = (ad x y, ad (sb x (sb (ad x y) y)) (sb y (sb (ad x y) (sb (ad x y) y))), 0)) := by
    unfold te T2
    split
    · exact .inl ⟨by omega, rfl⟩
    · split
      · exact .inl ⟨by omega, rfl⟩
      · exact .inr ⟨rfl, rfl⟩
  rcases ht with ⟨h1, h2⟩ | ⟨h1, h2⟩
  · rw [h2]
    rw [if_neg h1] at TO
    unfold T2v
    have k : (te x y (ad x y) != 0) = true := by simpa using h1
    generalize te x y (ad x y) = e at *
    clear h1 h2 hx hy hT
    go_enter Tryz.func5, Tryz.ntmps5
    go_wp2_with (go_at_call 20; (with_reducible refine (TO.out).mono ?_); rintro e w1 ⟨rfl, hb⟩; have D := Lib.hid hb; clear hb)
    go_ret3
    exact ⟨rfl, D.out⟩
  · rw [h2]
    rw [h1, if_pos rfl] at TO
    unfold T2v
    have bs := ad_bd hx hy
    have ba := sb_bd bs hy
    have bb := sb_bd bs ba
    have bc := sb_bd hx ba
    have bd := sb_bd hy bb
    have SA : Hid (∀ W, Below w.heap.size w W → Calls Tryz.prog 22 #[.int .u64 (ad x y), .int .u64 y] W (DC.RetB W (.int .u64 (sb (ad x y) y)))) := fun W hW => minus_c _ _ W bs hy (HT.out W hW)
    have SB : Hid (∀ W, Below w.heap.size w W → Calls Tryz.prog 22 #[.int .u64 (ad x y), .int .u64 (sb (ad x y) y)] W (DC.RetB W (.int .u64 (sb (ad x y) (sb (ad x y) y))))) := fun W hW => minus_c _ _ W bs ba (HT.out W hW)
    have SC : Hid (∀ W, Below w.heap.size w W → Calls Tryz.prog 22 #[.int .u64 x, .int .u64 (sb (ad x y) y)] W (DC.RetB W (.int .u64 (sb x (sb (ad x y) y))))) := fun W hW => minus_c _ _ W hx ba (HT.out W hW)
    have SD : Hid (∀ W, Below w.heap.size w W → Calls Tryz.prog 22 #[.int .u64 y, .int .u64 (sb (ad x y) (sb (ad x y) y))] W (DC.RetB W (.int .u64 (sb y (sb (ad x y) (sb (ad x y) y)))))) := fun W hW => minus_c _ _ W hy bb (HT.out W hW)
    have SR : Hid (∀ W, Below w.heap.size w W → Calls Tryz.prog 23 #[.int .u64 (sb x (sb (ad x y) y)), .int .u64 (sb y (sb (ad x y) (sb (ad x y) y)))] W (DC.RetB W (.int .u64 (ad (sb x (sb (ad x y) y)) (sb y (sb (ad x y) (sb (ad x y) y))))))) := fun W hW => plus_c _ _ W bc bd (HT.out W hW)
    generalize ad (sb x (sb (ad x y) y)) (sb y (sb (ad x y) (sb (ad x y) y))) = r at *
    generalize sb y (sb (ad x y) (sb (ad x y) y)) = d at *
    generalize sb x (sb (ad x y) y) = c at *
    generalize sb (ad x y) (sb (ad x y) y) = b at *
    generalize sb (ad x y) y = a at *
    generalize ad x y = s at *
    clear h1 h2 hx hy hT bs ba bb bc bd
    go_enter Tryz.func5, Tryz.ntmps5
    go_wp2_with (first
      | (go_at_call 20; (with_reducible refine (TO.out).mono ?_); rintro e w1 ⟨rfl, hb⟩; have D := Lib.hid hb; clear hb)
      | (go_at_call 22; (with_reducible refine (SA.out _ D.out).mono ?_); rintro e w2 ⟨rfl, hb⟩; have D := Lib.hid (D.out.trans (hb.mono D.out.size)); clear hb)
      | (go_at_call 22; (with_reducible refine (SB.out _ D.out).mono ?_); rintro e w3 ⟨rfl, hb⟩; have D := Lib.hid (D.out.trans (hb.mono D.out.size)); clear hb)
      | (go_at_call 22; (with_reducible refine (SC.out _ D.out).mono ?_); rintro e w4 ⟨rfl, hb⟩; have D := Lib.hid (D.out.trans (hb.mono D.out.size)); clear hb)
      | (go_at_call 22; (with_reducible refine (SD.out _ D.out).mono ?_); rintro e w5 ⟨rfl, hb⟩; have D := Lib.hid (D.out.trans (hb.mono D.out.size)); clear hb)
      | (go_at_call 23; (with_reducible refine (SR.out _ D.out).mono ?_); rintro e w6 ⟨rfl, hb⟩; have D := Lib.hid (D.out.trans (hb.mono D.out.size)); clear hb))
    go_ret3
    exact ⟨rfl, D.out⟩
theorem FastSum_c (x y : Int) (w : World) (hx : 0 ≤ x ∧ x ≤ 18446744073709551615) (hy : 0 ≤ y ∧ y ≤ 18446744073709551615) (hT : TabD w) : Calls Tryz.prog 6 #[.int .u64 x, .int .u64 y] w (DC.RetB w (T2v (T1 x y))) := by
  have HT : Hid (∀ W : World, Below w.heap.size w W → TabD W) := fun W hW => hT.below hW
  have D := Lib.hid (Below.refl w.heap.size w)
  have TO := Lib.hid (finite_s x y (AT [x, y] 0) w hx hy (ad_bd hx hy) hT (fun W hW => Add_c x y 0 W hx hy (hT.below hW)))
  change Hid (Calls _ _ _ _ (DC.RetB w (.tuple #[.int .u64 (if te x y (ad x y) = 0 then ad x y else 0), .int .i64 (te x y (ad x y))]))) at TO
  have ht : (te x y (ad x y) ≠ 0 ∧ T1 x y = (0, 0, te x y (ad x y))) ∨ (te x y (ad x y) = 0 ∧ T1 x y = (ad x y, sb y (sb (ad x y) x), 0)) := by
    unfold te T1
    split
    · exact .inl ⟨by omega, rfl⟩
    · split
      · exact .inl ⟨by omega, rfl⟩
      · exact .inr ⟨rfl, rfl⟩
  rcases ht with ⟨h1, h2⟩ | ⟨h1, h2⟩
  · rw [h2]
    rw [if_neg h1] at TO
    unfold T2v
    have k : (te x y (ad x y) != 0) = true := by simpa using h1
    generalize te x y (ad x y) = e at *
    clear h1 h2 hx hy hT
    go_enter Tryz.func6, Tryz.ntmps6
    go_wp2_with (go_at_call 20; (with_reducible refine (TO.out).mono ?_); rintro e w1 ⟨rfl, hb⟩; have D := Lib.hid hb; clear hb)
    go_ret3
    exact ⟨rfl, D.out⟩
  · rw [h2]
    rw [h1, if_pos rfl] at TO
    unfold T2v
    have bs := ad_bd hx hy
    have ba := sb_bd bs hx
    have SA : Hid (∀ W, Below w.heap.size w W → Calls Tryz.prog 22 #[.int .u64 (ad x y), .int .u64 x] W (DC.RetB W (.int .u64 (sb (ad x y) x)))) := fun W hW => minus_c _ _ W bs hx (HT.out W hW)
    have SR : Hid (∀ W, Below w.heap.size w W → Calls Tryz.prog 22 #[.int .u64 y, .int .u64 (sb (ad x y) x)] W (DC.RetB W (.int .u64 (sb y (sb (ad x y) x))))) := fun W hW => minus_c _ _ W hy ba (HT.out W hW)
    generalize sb y (sb (ad x y) x) = r at *
    generalize sb (ad x y) x = a at *
    generalize ad x y = s at *
    clear h1 h2 hx hy hT bs ba
    go_enter Tryz.func6, Tryz.ntmps6
    go_wp2_with (first
      | (go_at_call 20; (with_reducible refine (TO.out).mono ?_); rintro e w1 ⟨rfl, hb⟩; have D := Lib.hid hb; clear hb)
      | (go_at_call 22; (with_reducible refine (SA.out _ D.out).mono ?_); rintro e w2 ⟨rfl, hb⟩; have D := Lib.hid (D.out.trans (hb.mono D.out.size)); clear hb)
      | (go_at_call 22; (with_reducible refine (SR.out _ D.out).mono ?_); rintro e w3 ⟨rfl, hb⟩; have D := Lib.hid (D.out.trans (hb.mono D.out.size)); clear hb))
    go_ret3
    exact ⟨rfl, D.out⟩
theorem TwoProd_c (x y : Int) (w : World) (hx : 0 ≤ x ∧ x ≤ 18446744073709551615) (hy : 0 ≤ y ∧ y ≤ 18446744073709551615) (hT : TabD w) : Calls Tryz.prog 7 #[.int .u64 x, .int .u64 y] w (DC.RetB w (T2v (P2 x y))) := by
  have HT : Hid (∀ W : World, Below w.heap.size w W → TabD W) := fun W hW => hT.below hW
  have D := Lib.hid (Below.refl w.heap.size w)
  have bp := MT_bd 0 hx hy
  have bn := F.neg_bd _ bp.1 bp.2
  have TO := Lib.hid (finite_p x y (MT x y 0) w hx hy bp hT (fun W hW => Mul_c x y 0 W hx hy (hT.below hW)))
  have NE : Hid (∀ W, Calls Tryz.prog 26 #[.int .u64 (MT x y 0).1] W fun e w' => e = .returned (.int .u64 (F.neg (MT x y 0).1)) ∧ W = w') := fun W => FloatC.Neg_c _ bp.1 bp.2 W
  have FM : Hid (∀ W, Below w.heap.size w W → Calls Tryz.prog 25 #[.int .u64 x, .int .u64 y, .int .u64 (F.neg (MT x y 0).1), .int .i64 0] W (DC.RetB W (ATv (FT x y (F.neg (MT x y 0).1) 0)))) := fun W hW => Fma_c x y _ 0 W hx hy bn (HT.out W hW)
  have ht : (te x y (MT x y 0).1 ≠ 0 ∧ P2 x y = (0, 0, te x y (MT x y 0).1)) ∨ (te x y (MT x y 0).1 = 0 ∧ P2 x y = ((MT x y 0).1, (FT x y (F.neg (MT x y 0).1) 0).1, 0)) := by
    unfold te P2
    split
    · exact .inl ⟨by omega, rfl⟩
    · split
      · exact .inl ⟨by omega, rfl⟩
      · exact .inr ⟨rfl, rfl⟩
  unfold ATv at FM
  generalize FT x y (F.neg (MT x y 0).1) 0 = r at *
  generalize MT x y 0 = t at *
  obtain ⟨p, l, e⟩ := t
  dsimp only at *
  generalize F.neg p = np at *
  rcases ht with ⟨h1, h2⟩ | ⟨h1, h2⟩
  · rw [h2]
    rw [if_neg h1] at TO
    unfold T2v
    have k : (te x y p != 0) = true := by simpa using h1
    generalize te x y p = e at *
    clear h1 h2 hx hy hT bp bn HT FM NE
    go_enter Tryz.func7, Tryz.ntmps7
    go_wp2_with (go_at_call 20; (with_reducible refine (TO.out).mono ?_); rintro e w1 ⟨rfl, hb⟩; have D := Lib.hid hb; clear hb)
    go_ret3
    exact ⟨rfl, D.out⟩
  · rw [h2]
    rw [h1, if_pos rfl] at TO
    unfold T2v
    clear h1 h2 hx hy hT bp bn HT
    go_enter Tryz.func7, Tryz.ntmps7
    go_wp2_with (first
      | (go_at_call 20; (with_reducible refine (TO.out).mono ?_); rintro e w1 ⟨rfl, hb⟩; have D := Lib.hid hb; clear hb)
      | (go_at_call 26; (with_reducible refine (NE.out _).mono ?_); rintro e w1 ⟨rfl, rfl⟩)
      | (go_at_call 25; (with_reducible refine (FM.out _ D.out).mono ?_); rintro e w1 ⟨rfl, hb⟩; have D := Lib.hid (D.out.trans (hb.mono D.out.size)); clear hb))
    go_ret3
    exact ⟨rfl, D.out⟩
/-- the highest bits, towards 0 or to the nearest: they are a number -/
theorem high_p {x bits : Int} (fx : fi x) (h0 : (OfD x).d.m ≠ 0) (hb : 1 ≤ bits ∧ bits ≤ 52) : TX (CR (OfD x).d (topx x + 1 - bits) 3).d 3 = hx' x bits ∧ F.sgn (hx' x bits) = F.sgn x := by
  obtain ⟨t1, t2, t3, t4⟩ := top_p fx h0
  obtain ⟨P, hP⟩ : ∃ P, P = sc 1 (topx x + 1 - bits) := ⟨_, rfl⟩
  have hP0 : 0 < P := by rw [hP]; exact sc_one_pos _
  obtain ⟨c1, c2, fh, vh⟩ := trunc_p (p := topx x + 1 - bits) fx (by omega) hP
  have es := trunc_e (p := topx x + 1 - bits) fx (by omega) hP
  have hle : P ≤ sz x := by
    have := sc1_le (x := topx x + 1 - bits) (y := topx x) (by omega) (by omega)
    omega
  have d3 : P ≤ sz x / P * P := by
    have : 1 ≤ sz x / P := by
      have := Int.ediv_le_ediv hP0 hle
      rwa [Int.ediv_self (by omega)] at this
    have := Int.mul_le_mul_of_nonneg_right this (Int.le_of_lt hP0)
    rwa [Int.one_mul] at this
  have ee : hx x (topx x + 1 - bits) = hx' x bits := rfl
  rw [ee] at fh vh
  generalize hx' x bits = h at *
  generalize (CR (OfD x).d (topx x + 1 - bits) 3).d = d at *
  generalize sz x / P * P = N at *
  have vv := val_eq fh
  have uu := U_pos (r := h % 9223372036854775808) (by omega)
  have hs : F.sgn h = F.sgn x := by
    rw [vh] at vv
    unfold sgm at vv
    cases q1 : F.sgn h <;> cases q2 : F.sgn x <;> rw [q1, q2] at vv <;> simp at vv <;> omega
  have ab := A_abs d
  have eA : A d = U (h % 9223372036854775808) := by
    rw [es, ← vh, vv] at ab
    unfold sgm at ab
    cases q : F.sgn h <;> rw [q] at ab <;> simp at ab
    · exact (ab.1 uu).1
    · rcases Int.lt_or_le 0 (U (h % 9223372036854775808)) with g | g
      · have := (ab.2 g).1; omega
      · have := (ab.1 (by omega)).1; omega
  obtain ⟨-, e2, e3⟩ := exact_p (mode := 3) (by omega) c2 (show 0 ≤ h % 9223372036854775808 by omega) (fi_mod fh) eA
  refine ⟨?_, hs⟩
  rcases num_same e2 fh (by rw [e3, es, vh]) with g | ⟨-, g⟩
  · exact g
  · have := (val0 fh).2 g
    rw [vh] at this
    unfold sgm at this
    split at this <;> omega
theorem high_0 {x bits : Int} (fx : fi x) (h0 : (OfD x).d.m = 0) (hb : 1 ≤ bits ∧ bits ≤ 52) : (CR (OfD x).d (0 - bits) 3).e = 0 ∧ (CR (OfD x).d (0 - bits) 3).d = (OfD x).d ∧ TX (OfD x).d 3 = 0 ∧ (OfD x).d.x = 0 ∧ (x = 0 ∨ x = 9223372036854775808) := by
  have g := (of_fit fx).2.ok
  have z0 : (OfD x).d.x = 0 := by
    rcases g.2.1 with ⟨_, q⟩ | q
    · exact q
    · rw [h0] at q; omega
  have e1 : CR (OfD x).d (0 - bits) 3 = ⟨0, (OfD x).d⟩ := by
    unfold CR
    rw [if_neg (by simpa using g.1), if_neg (fun k => k ⟨by omega, by omega, by omega⟩), if_pos (.inl h0)]
  have eS : S (OfD x).d = 0 := by unfold S; rw [h0]; simp [sc]
  have eA : A (OfD x).d = U 0 := by
    have := (A_abs (OfD x).d).1 (by omega)
    rw [U_zero]; omega
  have en : ng (OfD x).d = false := ((A_abs (OfD x).d).1 (by omega)).2
  have t := tow_exact (r := 0) (by omega) (by omega)
  rw [← eA] at t
  obtain ⟨e2, -, -⟩ := TX_of (mode := 3) g (by omega) t
  rw [ry_none, en] at e2
  refine ⟨by rw [e1], by rw [e1], e2, z0, val_zero fx eS⟩
set_option maxHeartbeats 4000000 in
theorem highest_c (b : Bool) (A : Option Addr) (n c : Nat) (y : Int) (d : Dy) (bits p : Int) (w : World) (g : GV w b A n c y d) (xb : -10000 ≤ d.x ∧ d.x ≤ 10000) (hb : 1 ≤ bits ∧ bits ≤ 52)
    (hp : ∀ n : Nat, (d.m.natAbs : Int) < 2 ^ n → (n = 0 ∨ (2 : Int) ^ (n - 1) ≤ d.m.natAbs) → d.x + n - bits = p) (c1 : (CR d p 3).e = 0) (c2 : Ok (CR d p 3).d) (hT : TabD w) :
    Calls Tryz.prog 39 #[.agg #[.bool b, .slice A n c, .int .i64 y], .int .i64 bits] w (DC.RetB w (.int .u64 (TX (CR d p 3).d 3))) := by
  have HT : Hid (∀ W : World, Below w.heap.size w W → TabD W) := fun W hW => hT.below hW
  obtain rfl := g.2.2.1
  have D := Lib.hid (al1 w (.cells #[.bool b, .slice A n c, .int .i64 d.x] 60))
  have Xa := BD.new g.dv
  have BT : Hid (∀ (W : World), Below w.heap.size w W → Calls Tryz.prog 68 #[.slice A n c] W (RetBits W 0 d.m.natAbs)) := fun W hW => bits_p (g.below hW).pv
  have LG := Lib.hid hp
  have XB := Lib.hid xb
  have HB := Lib.hid hb
  have CU : Hid (∀ (W : World) (u : Value), Below w.heap.size w W → DV W u d → Calls Tryz.prog 69 #[u, .int .i64 p, .int .i64 3] W (fun e w' => ∃ b A n c x' l, e = .returned (.tuple #[.agg #[.bool b, .slice A n c, .int .i64 x'], .bool l, .int .i64 0]) ∧ GV w' b A n c x' (CR d p 3).d ∧ Below W.heap.size W w')) := fun W u hW hu => by
    have := Cut_d u _ p 3 W hu (HT.out W hW)
    rw [re_eq' _ c1] at this
    refine this.mono ?_
    rintro e w' ⟨b, A, n, c, x', rfl, h1, h2⟩
    exact ⟨b, A, n, c, x', _, rfl, h1, h2⟩
  have TO : Hid (∀ (W : World) (u : Value), Below w.heap.size w W → DV W u (CR d p 3).d → ∃ l, Calls Tryz.prog 55 #[u, .int .i64 3] W (DC.RetB W (.tuple #[.int .u64 (TX (CR d p 3).d 3), .bool l, .int .i64 0]))) := fun W u hW hu => by
    have := To_d u _ 3 W hu (HT.out W hW)
    have e0 : TE (CR d p 3).d 3 = 0 := by unfold TE; rw [if_neg (by simpa using c2.1), if_pos (by omega)]
    rw [e0] at this
    exact ⟨_, this⟩
  generalize TX (CR d p 3).d 3 = h at *
  generalize (CR d p 3).d = d' at *
  clear hT g c1 c2 hp xb hb
  go_enter Tryz.func39, Tryz.ntmps39
  go_wp2_with (first
    | (go_at_call 68; (with_reducible refine (BT.out _ D.out).mono ?_); rintro e w3 ⟨n3, rfl, hn, hl, -, rfl⟩; obtain ⟨g1, g2⟩ := hl.out rfl; have xb := XB.out; have h2 := HB.out; have hp := LG.out n3 g1 g2; have w1 : wrap64 (d.x + n3) = d.x + n3 := (by unfold wrap64; omega); have w2' : wrap64 (d.x + n3 - bits) = p := (by rw [hp]; unfold wrap64; omega); clear g1 g2 hl xb h2 hp)
    | (go_at_call 69; (with_reducible refine (CU.out _ _ D.out Xa.dv).mono ?_); rintro e w4 ⟨b4, A4, n4, c4, x4, l4, rfl, hv, hb⟩; have s := hb.alloc hb.size (.cells #[.bool b4, .slice A4 n4 c4, .int .i64 x4] 60); have Xb := BD.new hv.dv; have D := Lib.hid (D.out.trans (s.mono D.out.size)); obtain ⟨l5, TA⟩ := TO.out _ _ D.out Xb.dv; have TA := Lib.hid TA; clear hv hb s)
    | (go_at_call 55; (with_reducible refine (TA.out).mono ?_); rintro e w5 ⟨rfl, hb⟩; have D := Lib.hid (D.out.trans (hb.mono D.out.size)); clear hb))
  go_ret
  exact ⟨rfl, D.out⟩
set_option maxHeartbeats 4000000 in
theorem Split_c (x bits : Int) (w : World) (hx : 0 ≤ x ∧ x ≤ 18446744073709551615) (hb0 : -9223372036854775808 ≤ bits ∧ bits ≤ 9223372036854775807) (hT : TabD w) : Calls Tryz.prog 14 #[.int .u64 x, .int .i64 bits] w (DC.RetB w (T2v (SPt x bits))) := by
  have HT : Hid (∀ W : World, Below w.heap.size w W → TabD W) := fun W hW => hT.below hW
  have D := Lib.hid (Below.refl w.heap.size w)
  have OF := Lib.hid (Of_d x hx.1 hx.2 w hT)
  unfold T2v
  by_cases h1 : F.exq x = 2047
  · have e : SPt x bits = (0, 0, 4) := by unfold SPt; rw [if_pos h1]
    rw [e]
    have eo : OfD x = ⟨4, dz⟩ := by unfold OfD; rw [if_pos h1]
    rw [eo] at OF
    clear e eo h1 hx hb0 hT
    go_enter Tryz.func14, Tryz.ntmps14
    go_wp2_with (go_at_call 38; (with_reducible refine (OF.out).mono ?_); rintro e w2 ⟨b2, A2, n2, c2, x2, rfl, hv, hb⟩; have s := hb.alloc hb.size (.cells #[.bool b2, .slice A2 n2 c2, .int .i64 x2] 60); have D := Lib.hid (D.out.trans (s.mono D.out.size)); clear hv hb s)
    go_ret3
    exact ⟨rfl, D.out⟩
  · have fx : fi x := ⟨hx.1, hx.2, h1⟩
    have eo := re_eq' _ (of_fit fx).1
    rw [eo] at OF
    by_cases h2 : 1 ≤ bits ∧ bits ≤ 52
    · have XB : -10000 ≤ (OfD x).d.x ∧ (OfD x).d.x ≤ 10000 := ⟨(of_fit fx).2.ok.2.2.2.2.1, (of_fit fx).2.ok.2.2.2.2.2⟩
      have l1 : ¬ bits < 1 := by omega
      have l2 : ¬ bits > 52 := by omega
      have hh : ∃ y z, SPt x bits = (z, sb x z, 0) ∧ (0 ≤ z ∧ z ≤ 18446744073709551615) ∧ bits_or y x = z ∧ (∀ (W : World) (b : Bool) (A : Option Addr) (n c : Nat) (y' : Int), Below w.heap.size w W → GV W b A n c y' (OfD x).d → Calls Tryz.prog 39 #[.agg #[.bool b, .slice A n c, .int .i64 y'], .int .i64 bits] W (DC.RetB W (.int .u64 y))) := by
        by_cases h0 : (OfD x).d.m = 0
        · obtain ⟨c1, c2, c3, c4, c5⟩ := high_0 fx h0 h2
          refine ⟨0, x, by unfold SPt; rw [if_neg h1, if_neg (fun k => k h2), if_pos h0], hx, ?_, ?_⟩
          · refine rs_bits hx (by omega) ?_
            rcases c5 with rfl | rfl
            · exact .inr (.inl ⟨rfl, by decide, rfl⟩)
            · exact .inl ⟨rfl, by decide, rfl⟩
          · intro W b A n c y' hW gv
            have := highest_c b A n c y' (OfD x).d bits (0 - bits) W gv XB h2 (fun n a1 a2 => by
              have n0 : n = 0 := by
                rcases a2 with a2 | a2
                · exact a2
                · have := two_pos' (n - 1)
                  rw [h0] at a2; simp at a2; omega
              rw [n0, c4]; omega) c1 (by rw [c2]; exact (of_fit fx).2.ok) (HT.out W hW)
            rwa [c2, c3] at this
        · obtain ⟨t1, t2, t3, t4⟩ := top_p fx h0
          obtain ⟨c1, c2, fh, -⟩ := trunc_p (p := topx x + 1 - bits) fx (by omega) rfl
          have fh : fi (hx' x bits) := fh
          obtain ⟨k1, k2⟩ := high_p fx h0 h2
          refine ⟨hx' x bits, hx' x bits, by unfold SPt hx'; rw [if_neg h1, if_neg (fun k => k h2), if_neg h0], ⟨fh.1, fh.2.1⟩, rs_bits hx ⟨fh.1, fh.2.1⟩ (.inr (.inr ⟨rfl, k2⟩)), ?_⟩
          intro W b A n c y' hW gv
          have := highest_c b A n c y' (OfD x).d bits (topx x + 1 - bits) W gv XB h2 (fun n a1 a2 => by
            have := log_n a1 a2 (by omega)
            unfold topx
            omega) c1 c2 (HT.out W hW)
          rwa [k1] at this
      obtain ⟨y, z, e, bz, hc, HI⟩ := hh
      rw [e]
      have SU : Hid (∀ W, Below w.heap.size w W → Calls Tryz.prog 22 #[.int .u64 x, .int .u64 z] W (DC.RetB W (.int .u64 (sb x z)))) := fun W hW => minus_c _ _ W hx bz (HT.out W hW)
      have HI := Lib.hid HI
      have HC := Lib.hid hc
      generalize sb x z = r at *
      generalize (OfD x).d = d at *
      clear e eo h1 hx hb0 hT fx h2 bz hc XB
      go_enter Tryz.func14, Tryz.ntmps14
      go_wp2_with (first
        | (go_at_call 38; (with_reducible refine (OF.out).mono ?_); rintro e w2 ⟨b2, A2, n2, c2, x2, rfl, hv, hb⟩; have s := hb.alloc hb.size (.cells #[.bool b2, .slice A2 n2 c2, .int .i64 x2] 60); have hv := Lib.hid (hv.below (al1 w2 (.cells #[.bool b2, .slice A2 n2 c2, .int .i64 x2] 60))); have D := Lib.hid (D.out.trans (s.mono D.out.size)); clear hb s)
        | (go_at_call 39; (with_reducible refine (HI.out _ _ _ _ _ _ D.out hv.out).mono ?_); rintro e w3 ⟨rfl, hb⟩; have D := Lib.hid (D.out.trans (hb.mono D.out.size)); have hc := HC.out; unfold bits_or at hc; clear hb)
        | (go_at_call 22; (with_reducible refine (SU.out _ D.out).mono ?_); rintro e w6 ⟨rfl, hb⟩; have D := Lib.hid (D.out.trans (hb.mono D.out.size)); clear hb))
      go_ret3
      exact ⟨rfl, D.out⟩
    · have e : SPt x bits = (0, 0, 1) := by unfold SPt; rw [if_neg h1, if_pos h2]
      rw [e]
      generalize (OfD x).d = d at *
      have hc : bits < 1 ∨ (¬ bits < 1 ∧ bits > 52) := by omega
      clear e eo h1 hx hb0 hT fx h2
      rcases hc with l1 | ⟨l1, l2⟩
      all_goals (
        go_enter Tryz.func14, Tryz.ntmps14
        go_wp2_with (go_at_call 38; (with_reducible refine (OF.out).mono ?_); rintro e w2 ⟨b2, A2, n2, c2, x2, rfl, hv, hb⟩; have s := hb.alloc hb.size (.cells #[.bool b2, .slice A2 n2 c2, .int .i64 x2] 60); have D := Lib.hid (D.out.trans (s.mono D.out.size)); clear hv hb s)
        go_ret3
        exact ⟨rfl, D.out⟩)
end XC
end Go.Proofs.YtejglcpiihkenaaGreatDoor

