/-
  Package whole, pure, for its code: the number out of To; the exponent of what is whole; an int out of a Dyad.
-/
import Derived.Test.YtpmpkllpaceloaaDoorI4
namespace Go.Proofs.YtpmpkllpaceloaaDoor
set_option linter.unusedVariables false
set_option linter.unusedSimpArgs false
open Go.RowKit
set_option linter.unusedVariables false
set_option linter.unusedSimpArgs false
namespace IC
open L NC NK DC RC SC QC
open Z (cmpv)
/-- WX out of To -/
theorem wx_to {x mode : Int} (h : fi x) (hm : 0 ≤ mode ∧ mode ≤ 4) : WX x mode = if TX (WC x mode) mode = 0 ∧ 9223372036854775808 ≤ x then 9223372036854775808 else TX (WC x mode) mode := by
  obtain ⟨c1, c2, c3, c4, c5, f0, v0, f1, v1, s1⟩ := whole_p rfl h hm
  rw [(c5 mode hm).1]
  have sx := F.sgn_iff x
  have sx' := F.sgn_iff' x
  have i1 := F.sgn_iff (WX x mode)
  have i2 := F.sgn_iff' (WX x mode)
  have b0 := f1.1; have b1 := f1.2.1
  have d0 := f0.1; have d1 := f0.2.1
  by_cases h0 : val (WX x mode) = 0
  · have e0 : TX (WC x mode) 0 = 0 := by
      obtain ⟨g1, -⟩ := cr_whole (P := sc 1 0) rfl (of_fit h).2 hm
      have a := A_abs (WC x mode)
      have hS : S (WC x mode) = 0 := by rw [c3]; rw [v1] at h0; exact h0
      have hA := (a.1 (by omega))
      have t := tow_exact (r := 0) (by omega) (by omega)
      have hA0 : A (WC x mode) = U 0 := by rw [U_zero, hA.1, hS]
      rw [← hA0] at t
      have := (TX_of c2 (mode := 0) (by omega) t).1
      rw [ry_none, hA.2] at this
      exact this
    rw [e0]
    rcases val_zero f1 h0 with q | q
    · rw [q] at i1 i2 s1
      have hs : F.sgn 0 = false := by decide
      rw [hs] at s1
      have := sx'.1 s1.symm
      rw [if_neg (by omega), q]
    · rw [q] at s1
      have hs : F.sgn 9223372036854775808 = true := by decide
      rw [hs] at s1
      have := sx.1 s1.symm
      rw [if_pos ⟨rfl, by omega⟩, q]
  · have e1 : val (WX x mode) = val (TX (WC x mode) 0) := by rw [v1, v0]
    have e2 : WX x mode = TX (WC x mode) 0 := by
      refine num_ext f1 f0 ?_ e1
      have v3 := val_eq f1
      have v4 := val_eq f0
      have u1 := U_pos (r := WX x mode % 9223372036854775808) (by omega)
      have u2 := U_pos (r := TX (WC x mode) 0 % 9223372036854775808) (by omega)
      unfold sgm at v3 v4
      cases q1 : F.sgn (WX x mode) <;> cases q2 : F.sgn (TX (WC x mode) 0) <;> rw [q1] at v3 <;> rw [q2] at v4 <;> simp at v3 v4 <;> first | rfl | omega
    have hne : TX (WC x mode) 0 ≠ 0 := by
      intro q
      apply h0
      rw [e1, q]
      decide +kernel
    rw [if_neg (fun k => hne k.1), e2]
/-- a Dyad with a whole value has no exponent below 0 -/
theorem whole_x {d : Dy} {n : Int} (g : Ok d) (hS : S d = n * sc 1 0) : 0 ≤ d.x ∧ n = d.m * 2 ^ d.x.toNat := by
  have hx := g.2.2.2.2
  have hp := P_pos
  rcases Int.lt_or_le d.x 0 with q | q
  · exfalso
    have e1 : S d = d.m * sc 1 d.x := sc_mul1 _ _
    have e2 : sc 1 0 = 2 ^ (-d.x).toNat * sc 1 d.x := by
      rw [← sc_mul1, sc_two _ _ (by omega)]
      congr 1; omega
    rw [e1, e2, ← Int.mul_assoc] at hS
    have hm := Int.eq_of_mul_eq_mul_right (Int.ne_of_gt (sc_one_pos d.x)) hS
    have hc := g.2.1
    obtain ⟨k, hk⟩ : ∃ k, (-d.x).toNat = k + 1 := ⟨(-d.x).toNat - 1, by omega⟩
    rw [hk, Int.pow_succ, ← Int.mul_assoc] at hm
    unfold can at hc
    generalize n * 2 ^ k = y at *
    omega
  · refine ⟨q, ?_⟩
    have e1 : S d = (d.m * 2 ^ d.x.toNat) * sc 1 0 := by
      rw [← sc_mul1, sc_shift _ _ _ (by omega)]
      unfold S
      congr 1; omega
    rw [e1] at hS
    exact (Int.eq_of_mul_eq_mul_right (Int.ne_of_gt hp) hS).symm
/-- what is whole -/
theorem is_x {x : Int} (h : fi x) : (0 ≤ (OfD x).d.x) ↔ lostW x = false := by
  obtain ⟨e0, g⟩ := of_fit h
  have ev : val x = S (OfD x).d := rfl
  have hp := P_pos
  have gx := g.x
  constructor
  · intro q
    have e1 : S (OfD x).d = ((OfD x).d.m * 2 ^ (OfD x).d.x.toNat) * sc 1 0 := by
      rw [← sc_mul1, sc_shift _ _ _ (by omega)]
      unfold S
      congr 1; omega
    unfold lostW
    rw [ev, e1, Int.mul_emod_left]; rfl
  · intro q
    unfold lostW at q
    have q := of_decide_eq_false q
    have q : val x % sc 1 0 = 0 := by omega
    have e := Int.mul_ediv_add_emod (val x) (sc 1 0)
    rw [q, Int.mul_comm, Int.add_zero] at e
    exact (whole_x g.ok (by rw [← ev]; exact e.symm)).1
end IC
end Go.Proofs.YtpmpkllpaceloaaDoor
