/-
  Texts glued together for a claim: Q14 Q15 P10 P11 P12.
-/
import Derived.Test.YtejglcpiihkenaaGreatDoorF19
import Derived.Test.YtejglcpiihkenaaGreatDoorF16
import Derived.Test.YtejglcpiihkenaaGreatDoorF20
import Derived.Test.YtejglcpiihkenaaGreatDoorF1
/-
  The reference's rounding: what Rounded tells with a part more or less is what Part tells.
-/
namespace Go.Proofs.YtejglcpiihkenaaGreatDoor
set_option linter.unusedVariables false
set_option linter.unusedSimpArgs false
open Go.RowKit
set_option linter.unusedVariables false
set_option linter.unusedSimpArgs false
namespace QC
open Z (Nz Tz cmpv big)
open ZC DC RC
theorem sh_tiny1 {k : Int} (h : k ≤ -1) : sh 1 k = 0 ∧ lo 1 k = true := by
  unfold sh lo
  rw [if_neg (by omega), if_neg (by omega)]
  obtain ⟨n, hn⟩ : ∃ n : Nat, (-k).toNat = n + 1 := ⟨(-k).toNat - 1, by omega⟩
  rw [hn]
  have h1 : (1 : Int) < 2 ^ (n + 1) := by
    have := two_pos' n
    rw [Int.pow_succ]; omega
  rw [Int.ediv_eq_zero_of_lt (by omega) h1, Int.emod_eq_of_lt (by omega) h1]
  exact ⟨rfl, rfl⟩
theorem tow_tiny1 {x : Int} (hx : x = -10000) : Tow (sc 1 x) 0 false true := by
  have := (tow_near (z := 1) (x := x) (b := 1) (by omega) (by decide) (by decide) (by omega) (by omega) (u := -1074) (by omega)).2
  obtain ⟨e1, e2⟩ := sh_tiny1 (k := x - -1074 + 1) (by omega)
  rw [e1, e2] at this
  exact this
theorem PX_of1 {c d : Dy} {mode r : Int} {hf m : Bool} (h : PE c d mode = 0) (t : Tow (sc (az c d) (ax c d)) r hf m) : PX c d mode = rx (bz c d) (ry (bz c d) r hf m mode) ∧ PL c d mode = (hf || m) := by
  have e := tow_eq t
  unfold PX PL YY LL
  rw [if_pos h, if_pos h, e]
  exact ⟨rfl, rfl⟩
/-- the two neighbours, one of them told -/
theorem tell_pos {lo mode K : Int} {hf : Bool} (h0 : 0 ≤ lo) (hm : 0 ≤ mode ∧ mode ≤ 4) (hK : K = if hf = true then 1 else -1) : tellv (if upR mode K (lo + 1) false = true then lo + 1 else lo) false = rx false (ry false lo hf true mode) := by
  have hK2 : K = (if hf = true then (if true = true then 1 else 0) else -1) := by rw [hK]; cases hf <;> rfl
  rw [up_pos (r := lo) (hf := hf) (m := true) hm (by simp) hK2]
  unfold ry
  by_cases hu : RC.up false (decide (lo % 2 = 1)) hf true mode = true
  · rw [if_pos hu, tellv_pos (by omega)]
  · rw [if_neg hu, tellv_pos h0]
theorem tell_neg {r mode K : Int} {hf : Bool} (h0 : 0 ≤ r) (h1 : r ≤ 9218868437227405311) (hm : 0 ≤ mode ∧ mode ≤ 4) (hK : K = if hf = true then -1 else 1) : tellv (if upR mode K (-r) true = true then -r else -(r + 1)) true = rx true (ry true r hf true mode) := by
  have hK2 : K = -(if hf = true then (if true = true then 1 else 0) else -1) := by rw [hK]; cases hf <;> rfl
  rw [up_neg (r := r) (hf := hf) (m := true) hm (by simp) hK2]
  unfold ry
  by_cases hu : RC.up true (decide (r % 2 = 1)) hf true mode = true
  · rw [hu]
    simp only [Bool.not_true, Bool.false_eq_true, if_false, if_true]
    rw [tellv_neg (by omega) (by omega), Int.neg_neg]
  · rw [show RC.up true (decide (r % 2 = 1)) hf true mode = false by simpa using hu]
    simp only [Bool.not_false, if_true, Bool.false_eq_true, if_false]
    rw [tellv_neg (by omega) (by omega), Int.neg_neg]
theorem lR_part (s l more : Int) (h : more ≠ 0) : lR s l more = true := by unfold lR; simp [h]
theorem xR_part (s l more mode : Int) (h : more ≠ 0) : xR s l more mode = tellv (rkR s (loR s l more) more mode) (negR s more) := by
  unfold xR; rw [if_neg fun h2 => h h2.2]
/-- of 0 -/
theorem rounded_z {more mode : Int} (hm : 0 ≤ mode ∧ mode ≤ 4) (hmo : more = 1 ∨ more = -1) : xR 0 (lw 0 0 false false) more mode = rx (decide (more < 0)) (ry (decide (more < 0)) 0 false true mode) := by
  have hl : lw 0 0 false false = 0 := by unfold lw; rw [if_neg (by omega)]
  have t0 : Tow (sa 0) 0 false false := by unfold sa; rw [if_neg (by omega)]; exact tow_zero
  have hsm := smR_lw t0
  rw [hl] at hsm ⊢
  have p1 : 0 < U 1 := by have := U_lt (r := 0) (s := 1) (by omega) (by omega); rwa [U_zero] at this
  rw [xR_part _ _ _ _ (by omega)]
  rcases hmo with rfl | rfl
  · have hn : negR 0 1 = false := by unfold negR; decide
    have hlo : loR 0 0 1 = 0 := by unfold loR; rw [if_neg fun h => absurd h.2 (by omega)]
    rw [hlo, hn, show decide ((1 : Int) < 0) = false by decide]
    unfold rkR KR
    rw [hn, SV_pos (show (0 : Int) ≤ 0 by omega), SV_pos (show (0 : Int) ≤ 0 + 1 by omega), U_zero, show (0 : Int) + 1 = 1 by omega]
    have k : cmpv (0 * 2) (0 + U 1) = -1 := Z.cmpv_lt (by omega)
    rw [k]
    exact tell_pos (lo := 0) (hf := false) (by omega) hm rfl
  · have hn : negR 0 (-1) = true := by unfold negR; decide
    have hlo : loR 0 0 (-1) = -(0 + 1) := by unfold loR; rw [hsm, if_pos ⟨rfl, by omega⟩]; omega
    rw [hlo, hn, show decide ((-1 : Int) < 0) = true by decide]
    unfold rkR KR
    rw [hn, show -((0 : Int) + 1) + 1 = -0 by omega, SV_neg (show (0 : Int) ≤ 0 + 1 by omega), SV_neg (show (0 : Int) ≤ 0 by omega), U_zero, show (0 : Int) + 1 = 1 by omega]
    have k : cmpv (0 * 2) (-(U 1) + -0) = 1 := Z.cmpv_gt (by omega)
    rw [k]
    exact tell_neg (r := 0) (hf := false) (by omega) (by omega) hm rfl
/-- farther from 0 -/
theorem rounded_f {s r more mode : Int} {hf m : Bool} (t : Tow (sa s) r hf m) (hm : 0 ≤ mode ∧ mode ≤ 4) (hs : s ≠ 0) (hmo : more = if s < 0 then -1 else 1) : xR s (lw s r hf m) more mode = rx (decide (s < 0)) (ry (decide (s < 0)) r hf true mode) := by
  have r0 := t.r0
  have r1 := t.r1
  have e := exact_iff t
  have g := U_lt r0 (show r < r + 1 by omega)
  rw [xR_part _ _ _ _ (by rw [hmo]; split <;> omega)]
  by_cases h : s < 0
  · rw [if_pos h] at hmo
    subst hmo
    have ea : sa s = -s := by unfold sa; rw [if_pos h]
    have hn : negR s (-1) = true := by unfold negR; rw [decide_eq_true_iff]; exact .inl h
    have hlo : loR s (lw s r hf m) (-1) = -(r + 1) := by
      unfold loR
      rw [smR_lw t]
      unfold lw
      rw [if_pos h]
      by_cases he : hf = false ∧ m = false
      · rw [if_pos he, if_pos ⟨by rw [he.1, he.2]; rfl, by omega⟩]; omega
      · rw [if_neg he, if_neg fun h2 => he (by have := h2.1; cases hf <;> cases m <;> simp_all)]
    rw [hlo, hn, decide_eq_true h]
    unfold rkR KR
    rw [hn, show -(r + 1) + 1 = -r by omega, SV_neg (show 0 ≤ r + 1 by omega), SV_neg r0]
    have k2 : cmpv (s * 2) (-(U (r + 1)) + -(U r)) = -cmpv (sa s * 2) (U r + U (r + 1)) := by
      rw [← cmpv_neg, ea]; congr 1 <;> omega
    have k3 : (if cmpv (s * 2) (-(U (r + 1)) + -(U r)) = 0 then -1 else cmpv (s * 2) (-(U (r + 1)) + -(U r))) = if hf = true then -1 else 1 := by
      rw [k2]
      by_cases he : hf = false ∧ m = false
      · have := e.1 he
        rw [he.1, show cmpv (sa s * 2) (U r + U (r + 1)) = -1 from Z.cmpv_lt (by omega)]; rfl
      · rw [near_K t he]; cases hf <;> cases m <;> simp_all
    rw [k3]
    exact tell_neg r0 r1 hm rfl
  · rw [if_neg h] at hmo
    subst hmo
    have ea : sa s = s := by unfold sa; rw [if_neg h]
    have hn : negR s 1 = false := by unfold negR; rw [decide_eq_false_iff_not]; omega
    have hlo : loR s (lw s r hf m) 1 = r := by
      unfold loR lw
      rw [if_neg fun h2 => absurd h2.2 (by omega), if_neg h]
    rw [hlo, hn, decide_eq_false h]
    unfold rkR KR
    rw [hn, SV_pos r0, SV_pos (show 0 ≤ r + 1 by omega)]
    have k3 : (if cmpv (s * 2) (U r + U (r + 1)) = 0 then 1 else cmpv (s * 2) (U r + U (r + 1))) = if hf = true then 1 else -1 := by
      rw [← ea]
      by_cases he : hf = false ∧ m = false
      · have := e.1 he
        rw [he.1, show cmpv (sa s * 2) (U r + U (r + 1)) = -1 from Z.cmpv_lt (by omega)]; rfl
      · rw [near_K t he]; cases hf <;> cases m <;> simp_all
    rw [k3]
    exact tell_pos r0 hm rfl
/-- nearer to 0 -/
theorem rounded_n {s r more mode : Int} {hf m : Bool} (t : Tow (sa s) r hf m) (hm : 0 ≤ mode ∧ mode ≤ 4) (hs : s ≠ 0) (hmo : more = if s < 0 then 1 else -1) : xR s (lw s r hf m) more mode = rx (decide (s < 0)) (ry (decide (s < 0)) (dnr r hf m) (dnh hf m) true mode) := by
  have r0 := t.r0
  have r1 := t.r1
  have e := exact_iff t
  have hp : 0 < sa s := by unfold sa; split <;> omega
  rw [xR_part _ _ _ _ (by rw [hmo]; split <;> omega)]
  by_cases he : hf = false ∧ m = false
  · have hx := e.1 he
    obtain ⟨rfl, rfl⟩ := he
    have hr : 0 < r := by
      rcases Int.lt_or_eq_of_le r0 with h | h
      · exact h
      · rw [← h, U_zero] at hx; omega
    obtain ⟨q, rfl⟩ : ∃ q, r = q + 1 := ⟨r - 1, by omega⟩
    have g := U_lt (show 0 ≤ q by omega) (show q < q + 1 by omega)
    have ed : dnr (q + 1) false false = q := by unfold dnr; rw [if_pos ⟨rfl, rfl⟩]; omega
    have eh : dnh false false = true := rfl
    rw [ed, eh]
    by_cases h : s < 0
    · rw [if_pos h] at hmo
      subst hmo
      have ea : sa s = -s := by unfold sa; rw [if_pos h]
      have hn : negR s 1 = true := by unfold negR; rw [decide_eq_true_iff]; exact .inl h
      have hlo : loR s (lw s (q + 1) false false) 1 = -(q + 1) := by
        unfold loR lw
        rw [if_neg fun h2 => absurd h2.2 (by omega), if_pos h, if_pos ⟨rfl, rfl⟩]
      rw [hlo, hn, decide_eq_true h]
      unfold rkR KR
      rw [hn, show -(q + 1) + 1 = -q by omega, SV_neg (show 0 ≤ q + 1 by omega), SV_neg (show 0 ≤ q by omega)]
      rw [show cmpv (s * 2) (-(U (q + 1)) + -(U q)) = -1 from Z.cmpv_lt (by omega)]
      exact tell_neg (r := q) (hf := true) (by omega) (by omega) hm rfl
    · rw [if_neg h] at hmo
      subst hmo
      have ea : sa s = s := by unfold sa; rw [if_neg h]
      have hn : negR s (-1) = false := by unfold negR; rw [decide_eq_false_iff_not]; omega
      have hlo : loR s (lw s (q + 1) false false) (-1) = q := by
        unfold loR
        rw [smR_lw t]
        unfold lw
        rw [if_neg h, if_pos ⟨rfl, by omega⟩]; omega
      rw [hlo, hn, decide_eq_false h]
      unfold rkR KR
      rw [hn, SV_pos (show 0 ≤ q by omega), SV_pos (show 0 ≤ q + 1 by omega)]
      rw [show cmpv (s * 2) (U q + U (q + 1)) = 1 from Z.cmpv_gt (by omega)]
      exact tell_pos (lo := q) (hf := true) (by omega) hm rfl
  · have ed : dnr r hf m = r := by unfold dnr; rw [if_neg he]
    have eh : (if hf = true then (if m = true then (1 : Int) else 0) else -1) = (if dnh hf m = true then 1 else if hf = true then 0 else -1) ∧ (dnh hf m = true → hf = true ∧ m = true) := by
      unfold dnh; cases hf <;> cases m <;> simp_all
    have nk := near_K t he
    rw [ed]
    by_cases h : s < 0
    · rw [if_pos h] at hmo
      subst hmo
      have ea : sa s = -s := by unfold sa; rw [if_pos h]
      have hn : negR s 1 = true := by unfold negR; rw [decide_eq_true_iff]; exact .inl h
      have hlo : loR s (lw s r hf m) 1 = -(r + 1) := by
        unfold loR lw
        rw [if_neg fun h2 => absurd h2.2 (by omega), if_pos h, if_neg he]
      rw [hlo, hn, decide_eq_true h]
      unfold rkR KR
      rw [hn, show -(r + 1) + 1 = -r by omega, SV_neg (show 0 ≤ r + 1 by omega), SV_neg r0]
      have k2 : cmpv (s * 2) (-(U (r + 1)) + -(U r)) = -cmpv (sa s * 2) (U r + U (r + 1)) := by
        rw [← cmpv_neg, ea]; congr 1 <;> omega
      have k3 : (if cmpv (s * 2) (-(U (r + 1)) + -(U r)) = 0 then 1 else cmpv (s * 2) (-(U (r + 1)) + -(U r))) = if dnh hf m = true then -1 else 1 := by
        rw [k2, nk]; unfold dnh; clear k2 nk eh e; cases hf <;> cases m <;> simp_all
      rw [k3]
      exact tell_neg r0 r1 hm rfl
    · rw [if_neg h] at hmo
      subst hmo
      have ea : sa s = s := by unfold sa; rw [if_neg h]
      have hn : negR s (-1) = false := by unfold negR; rw [decide_eq_false_iff_not]; omega
      have hlo : loR s (lw s r hf m) (-1) = r := by
        unfold loR
        rw [smR_lw t]
        unfold lw
        rw [if_neg h, if_neg fun h2 => he (by have := h2.1; cases hf <;> cases m <;> simp_all)]
      rw [hlo, hn, decide_eq_false h]
      unfold rkR KR
      rw [hn, SV_pos r0, SV_pos (show 0 ≤ r + 1 by omega)]
      have k3 : (if cmpv (s * 2) (U r + U (r + 1)) = 0 then -1 else cmpv (s * 2) (U r + U (r + 1))) = if dnh hf m = true then 1 else -1 := by
        rw [← ea, nk]; unfold dnh; clear nk eh e; cases hf <;> cases m <;> simp_all
      rw [k3]
      exact tell_pos r0 hm rfl
end QC
end Go.Proofs.YtejglcpiihkenaaGreatDoor

/-
  Rounded, and To and Part: what each tells.
-/
namespace Go.Proofs.YtejglcpiihkenaaGreatDoor
set_option linter.unusedVariables false
set_option linter.unusedSimpArgs false
open Go.RowKit
set_option linter.unusedVariables false
set_option linter.unusedSimpArgs false
namespace QC
open Z (Nz Tz cmpv big)
open ZC DC RC
theorem sa_A (d : Dy) : sa (S d) = A d ∧ decide (S d < 0) = ng d := by
  have ab := A_abs d
  constructor
  · unfold sa
    by_cases h0 : S d < 0
    · rw [if_pos h0]; exact (ab.2 h0).1.symm
    · rw [if_neg h0]; exact (ab.1 (by omega)).1.symm
  · by_cases h0 : S d < 0
    · rw [decide_eq_true h0]; exact (ab.2 h0).2.symm
    · rw [decide_eq_false h0]; exact (ab.1 (by omega)).2.symm
theorem part_r {c d : Dy} {mode r : Int} {hf m : Bool} (hc : Ok c) (h : PE c d mode = 0) (t : Tow (sa (S c)) r hf m) : (xR (S c) (lw (S c) r hf m) d.m mode = PX c d mode ∧ lR (S c) (lw (S c) r hf m) d.m = PL c d mode) ∧ (-1 ≤ d.m ∧ d.m ≤ 1) ∧ (0 ≤ mode ∧ mode ≤ 4) := by
  obtain ⟨es, eg⟩ := sa_A c
  have hPE := h
  unfold PE at hPE
  have hm : (0 ≤ mode ∧ mode ≤ 4) ∧ isdir d = true := by
    rcases Classical.em ((0 ≤ mode ∧ mode ≤ 4) ∧ isdir d = true) with k | k
    · exact k
    · rw [if_pos k] at hPE
      split at hPE
      · contradiction
      · split at hPE
        · contradiction
        · cases hPE
  obtain ⟨hm, hd⟩ := hm
  unfold isdir at hd
  rw [decide_eq_true_iff] at hd
  refine ⟨?_, by omega, hm⟩
  have tA := t
  rw [es] at tA
  by_cases d0 : d.m = 0
  · have n0 : (d.m.natAbs : Int) = 0 := by omega
    have z0 : az c d = (c.m.natAbs : Int) := by unfold az nz; rw [if_pos n0]
    have z1 : ax c d = c.x := by unfold ax nx; rw [if_pos n0]
    have z2 : bz c d = ng c := by unfold bz nb; rw [if_pos n0]
    have t0 : Tow (sc (az c d) (ax c d)) r hf m := by rw [z0, z1]; exact tA
    obtain ⟨q1, q2⟩ := PX_of1 h t0
    obtain ⟨k1, k2⟩ := rounded_0 t hm
    rw [q1, q2, z2, d0, k1, k2, eg]
    exact ⟨rfl, rfl⟩
  · have n1 : (d.m.natAbs : Int) = 1 := by omega
    have n0 : ¬ (d.m.natAbs : Int) = 0 := by omega
    have hlr := lR_part (S c) (lw (S c) r hf m) d.m d0
    by_cases c0 : c.m = 0
    · have k0 : (c.m.natAbs : Int) = 0 := by omega
      have s0 : S c = 0 := by unfold S; rw [c0]; exact sc_zero.2 rfl
      have z0 : az c d = 1 := by unfold az nz; rw [if_neg n0, if_pos k0]
      have z1 : ax c d = -10000 := by unfold ax nx; rw [if_neg n0, if_pos k0]
      have z2 : bz c d = ng d := by unfold bz nb; rw [if_neg n0, if_pos k0]
      have t0 : Tow (sc (az c d) (ax c d)) 0 false true := by rw [z0, z1]; exact tow_tiny1 rfl
      obtain ⟨q1, q2⟩ := PX_of1 h t0
      have ts : Tow (sa (S c)) 0 false false := by rw [s0]; unfold sa; rw [if_neg (by omega)]; exact tow_zero
      obtain ⟨rfl, rfl, rfl⟩ := t.unique ts
      rw [q1, q2, z2, hlr, s0]
      refine ⟨?_, rfl⟩
      rw [rounded_z hm (by omega)]; rfl
    · have k0 : ¬ (c.m.natAbs : Int) = 0 := by omega
      have s0 : S c ≠ 0 := fun h0 => c0 (sc_zero.1 h0)
      have hi := hc.2.2
      have hx := hi.2.2
      have hN := tow_nudge (z := (c.m.natAbs : Int)) (x := c.x) (by omega) (abs_small hi) (by omega) tA
      have z1 : ax c d = c.x - 64 := by unfold ax nx; rw [if_neg n0, if_neg k0]
      have z2 : bz c d = ng c := by unfold bz nb; rw [if_neg n0, if_neg k0]
      by_cases hg : ng c = ng d
      · have z0 : az c d = (c.m.natAbs : Int) * 18446744073709551616 + 1 := by unfold az nz; rw [if_neg n0, if_neg k0, if_pos hg]
        have t0 : Tow (sc (az c d) (ax c d)) r hf true := by rw [z0, z1, nudge_val _ _ (by omega), Int.one_mul]; exact hN.1
        obtain ⟨q1, q2⟩ := PX_of1 h t0
        have hmo : d.m = if S c < 0 then -1 else 1 := by
          rw [← eg] at hg
          unfold ng at hg
          by_cases h0 : S c < 0
          · rw [if_pos h0]; rw [decide_eq_true h0] at hg; have := of_decide_eq_true hg.symm; omega
          · rw [if_neg h0]; rw [decide_eq_false h0] at hg; have := of_decide_eq_false hg.symm; omega
        rw [q1, q2, z2, hlr, rounded_f t hm s0 hmo, eg]
        exact ⟨rfl, by simp⟩
      · have z0 : az c d = (c.m.natAbs : Int) * 18446744073709551616 - 1 := by unfold az nz; rw [if_neg n0, if_neg k0, if_neg hg]
        have t0 : Tow (sc (az c d) (ax c d)) (dnr r hf m) (dnh hf m) true := by
          have := nudge_val (c.m.natAbs : Int) c.x (by omega) (-1)
          rw [z0, z1, show (c.m.natAbs : Int) * 18446744073709551616 - 1 = (c.m.natAbs : Int) * 18446744073709551616 + -1 by omega, this, show (-1 : Int) * sc 1 (c.x - 64) = -(sc 1 (c.x - 64)) by rw [Int.neg_mul, Int.one_mul]]
          exact hN.2
        obtain ⟨q1, q2⟩ := PX_of1 h t0
        have hmo : d.m = if S c < 0 then 1 else -1 := by
          rw [← eg] at hg
          unfold ng at hg
          by_cases h0 : S c < 0
          · rw [if_pos h0]; rw [decide_eq_true h0] at hg
            by_cases h9 : d.m < 0
            · rw [decide_eq_true h9] at hg; exact absurd rfl hg
            · omega
          · rw [if_neg h0]; rw [decide_eq_false h0] at hg
            by_cases h9 : d.m < 0
            · omega
            · rw [decide_eq_false h9] at hg; exact absurd rfl hg
        rw [q1, q2, z2, hlr, rounded_n t hm s0 hmo, eg]
        exact ⟨rfl, by simp⟩
theorem Rounded_t {M T : Nat} {u : Value} {w : World} {d : Dy} {mode : Int} (h : QS M T w u (S d)) (hM : M ≤ 200000) (hT : T ≤ 20000) (hd : Ok d) (hm : 0 ≤ mode ∧ mode ≤ 4) :
    Calls Tryz.prog 17 #[u, .int .i64 0, .int .i64 mode] w fun e w' => e = .returned (.tuple #[.int .u64 (TX d mode), .bool (TL d mode)]) ∧ Below w.heap.size w w' := by
  obtain ⟨r, hf, m, t, -⟩ := towA hd
  obtain ⟨e1, e2, -⟩ := TX_of hd hm t
  obtain ⟨es, eg⟩ := sa_A d
  rw [← es] at t
  obtain ⟨k1, k2⟩ := rounded_0 t hm
  have := Rounded_w u (S d) (lw (S d) r hf m) 0 mode w h hM hT (lw_low t) (by omega) hm (loR_bd t)
  rw [k1, k2, eg] at this
  rw [e1, e2]
  exact this
theorem Rounded_p {M T : Nat} {u : Value} {w : World} {c d : Dy} {mode : Int} (h : QS M T w u (S c)) (hM : M ≤ 200000) (hT : T ≤ 20000) (hc : Ok c) (hp : PE c d mode = 0) :
    Calls Tryz.prog 17 #[u, .int .i64 d.m, .int .i64 mode] w fun e w' => e = .returned (.tuple #[.int .u64 (PX c d mode), .bool (PL c d mode)]) ∧ Below w.heap.size w w' := by
  obtain ⟨r, hf, m, t, -⟩ := towA hc
  obtain ⟨es, eg⟩ := sa_A c
  rw [← es] at t
  obtain ⟨⟨k1, k2⟩, hmo, hm⟩ := part_r hc hp t
  have := Rounded_w u (S c) (lw (S c) r hf m) d.m mode w h hM hT (lw_low t) hmo hm (loR_bd t)
  rw [k1, k2] at this
  exact this
end QC
end Go.Proofs.YtejglcpiihkenaaGreatDoor

/-
  The reference's products by what they are worth; sums of products.
-/
namespace Go.Proofs.YtejglcpiihkenaaGreatDoor
set_option linter.unusedVariables false
set_option linter.unusedSimpArgs false
open Go.RowKit
set_option linter.unusedVariables false
set_option linter.unusedSimpArgs false
namespace PC
open Z (Nz Tz cmpv big)
open ZC DC RC QC SC VC
theorem QMul_s {M T M' T' : Nat} {u v : Value} {s s' p : Int} {w : World} (h : QS M T w u s) (h' : QS M' T' w v s') (k1 : M ≤ 400000) (k2 : M' ≤ 400000) (k3 : T ≤ 10000) (k4 : T' ≤ 10000) {K : Nat} (hK : K = 60000) (hp : p * 2 ^ K = s * s') :
    Calls Tryz.prog 34 #[u, v] w (RetS (M + M') (T + T') w p) := by
  obtain ⟨a, ta, ha, a1, a2, a3, a4⟩ := h
  obtain ⟨b, tb, hb, b1, b2, b3, b4⟩ := h'
  have := QMul_c u v a b ta tb w ha hb (lt_big a1 (by omega) (by omega)) (lt_big b1 (by omega) (by omega)) (by omega) (by omega)
  refine this.mono ?_
  rintro e w' ⟨b9, A9, n9, c9, rfl, hr, hb9⟩
  have e1 := sc_mul (m := a) (n := b) (x := -ta) (y := -tb) (by omega) (by omega) hK
  rw [a4, b4, ← hp] at e1
  have e2 := K_inj e1
  refine ⟨b9, A9, n9, c9, _, _, rfl, hr, ?_, by omega, by omega, by rw [← e2]; congr 1; omega, hb9⟩
  rw [Int.natAbs_mul, Nat.pow_add]
  exact Nat.mul_lt_mul'' a1 b1
theorem QMul_pm {N M : Nat} (hN : N = 2200) (hM : M = 4400) {x y : Int} (hx : fi x) (hy : fi y) {u v : Value} {w : World} (h : QS N 1100 w u (val x)) (h' : QS N 1100 w v (val y)) : Calls Tryz.prog 34 #[u, v] w (RetS M 2200 w (S (PD x y).d)) := by
  have := QMul_s (T := 1100) (T' := 1100) h h' (by omega) (by omega) (by omega) (by omega) rfl (pd_p hx hy rfl).2.2
  exact this.mono fun e w' k => RetS.mono k (by omega) (by omega)
theorem QMul_pd {x y : Int} (hx : fi x) (hy : fi y) {u v : Value} {w : World} (h : QS 2200 1100 w u (val x)) (h' : QS 2200 1100 w v (val y)) : Calls Tryz.prog 34 #[u, v] w (RetS 4400 2200 w (S (PD x y).d)) :=
  QMul_pm rfl rfl hx hy h h'
theorem nat_limP {z t s k : Int} {M : Nat} (hM : M = 4400) (hk : k = 2056) (h0 : 0 ≤ t) (h1 : t ≤ 2200) (he : sc z (-t) = s) (hs : s ≤ sc 1 k ∧ -(sc 1 k) ≤ s) : z.natAbs < 2 ^ M := by
  obtain ⟨j, hj⟩ : ∃ j : Nat, k + t = j := ⟨(k + t).toNat, by omega⟩
  have e2 : sc 1 k = 2 ^ j * sc 1 (-t) := by
    rw [← sc_mul1, sc_two j _ (by omega)]
    congr 1; omega
  have hp := sc_one_pos (-t)
  rw [sc_mul1] at he
  rw [e2, ← he] at hs
  clear e2 he
  have hP := two_pos' j
  have l1 : z ≤ 2 ^ j := Int.le_of_mul_le_mul_right hs.1 hp
  have l2 : -(2 ^ j) ≤ z := by
    have := hs.2
    rw [← Int.neg_mul] at this
    exact Int.le_of_mul_le_mul_right this hp
  have hlt : (2 : Int) ^ j < 2 ^ M := two_lt' (by omega)
  apply lt_cast
  generalize (2 : Int) ^ M = P at *
  generalize (2 : Int) ^ j = Q at *
  omega
theorem QAdd_pm {M : Nat} (hM : M = 4400) {u v : Value} {s s' : Int} {w : World} {k : Int} (hk : k = 2056) (h : QS M 2200 w u s) (h' : QS M 2200 w v s') (hs : s + s' ≤ sc 1 k ∧ -(sc 1 k) ≤ s + s') : Calls Tryz.prog 36 #[u, v] w (RetSF M 2200 w (s + s')) := by
  obtain ⟨a, ta, ha, a1, a2, a3, a4⟩ := h
  obtain ⟨b, tb, hb, b1, b2, b3, b4⟩ := h'
  have c1 := up_lt (tb := tb) a1 a2 b3
  have c2 := up_lt (tb := ta) b1 b2 a3
  have := QAdd_f u v a b ta tb w ha hb (lt_big a1 (by omega) (by omega)) (lt_big b1 (by omega) (by omega)) (by omega) (by omega) (lt_big c1 (by omega) (by omega)) (lt_big c2 (by omega) (by omega))
  have e1 := up_sc (a := a) (ta := ta) (tb := tb) (by omega)
  have e2 := up_sc (a := b) (ta := tb) (tb := ta) (by omega)
  rw [show max tb ta = max ta tb by omega] at e2
  refine this.mono ?_
  rintro e w' ⟨b9, A9, n9, c9, rfl, hr, hfr, hb9⟩
  have es : sc (up a ta tb + up b tb ta) (-(max ta tb)) = s + s' := by rw [sc_add, e1, e2, a4, b4]
  exact ⟨b9, A9, n9, c9, _, _, rfl, hr, nat_limP hM hk (by omega) (by omega) es hs, by omega, by omega, es, hfr, hb9⟩
theorem QAdd_p {u v : Value} {s s' : Int} {w : World} {k : Int} (hk : k = 2056) (h : QS 4400 2200 w u s) (h' : QS 4400 2200 w v s') (hs : s + s' ≤ sc 1 k ∧ -(sc 1 k) ≤ s + s') : Calls Tryz.prog 36 #[u, v] w (RetSF 4400 2200 w (s + s')) := QAdd_pm rfl hk h h' hs
theorem fit_k {d : Dy} {j K : Int} (h : FitP d j) (hj : j ≤ 256) (hK : K = 2056) : S d ≤ sc 1 K ∧ -(sc 1 K) ≤ S d := by
  have := fit_limP hj hK
  have h1 := h.hi
  have h2 := h.lo
  omega
end PC
end Go.Proofs.YtejglcpiihkenaaGreatDoor

/-
  The document's product and fused sum.
-/
namespace Go.Proofs.YtejglcpiihkenaaGreatDoor
set_option linter.unusedVariables false
set_option linter.unusedSimpArgs false
open Go.RowKit
set_option linter.unusedVariables false
set_option linter.unusedSimpArgs false
namespace PC
open Z (Nz Tz cmpv big)
open ZC DC RC QC SC VC
theorem Minus_v (x : Int) (w : World) : Calls Tryz.prog 13 #[.int .u64 x] w fun e w' => e = .returned (.bool (F.sgn x)) ∧ w = w' := Minus_c x w
theorem IsZero_c (x : Int) (h0 : 0 ≤ x) (h1 : x ≤ 18446744073709551615) (w : World) : Calls Tryz.prog 16 #[.int .u64 x] w fun e w' => e = .returned (.bool (F.cls x == 1)) ∧ w = w' := by
  go_enter Tryz.func16, Tryz.ntmps16
  go_wp2_with (first | (go_at_call 27; (with_reducible refine (FloatR.ClassOf_c x h0 h1 _).mono ?_); rintro e w' ⟨rfl, rfl⟩))
  go_ret
  exact ⟨rfl, rfl⟩
theorem sp_b (x y : Int) : sp x y = if (F.sgn x != F.sgn y) = true then 9223372036854775808 else 0 := by
  unfold sp; cases F.sgn x <;> cases F.sgn y <;> rfl
/-- the kinds of two factors -/
theorem kinds2 (x y : Int) :
    ((F.cls x == 5) = true ∧ bc x y = (9221120237041090560, true)) ∨
    ((F.cls x == 5) = false ∧ (F.cls y == 5) = true ∧ bc x y = (9221120237041090560, true)) ∨
    ((F.cls x == 5) = false ∧ (F.cls y == 5) = false ∧ (F.cls x == 4) = true ∧ (F.cls y == 1) = true ∧ bc x y = (9221120237041090560, true)) ∨
    ((F.cls x == 5) = false ∧ (F.cls y == 5) = false ∧ (F.cls x == 4) = true ∧ (F.cls y == 1) = false ∧ (F.cls x == 1) = false ∧ bc x y = (sp x y + 9218868437227405312, true)) ∨
    ((F.cls x == 5) = false ∧ (F.cls y == 5) = false ∧ (F.cls x == 4) = false ∧ (F.cls x == 1) = true ∧ (F.cls y == 4) = true ∧ bc x y = (9221120237041090560, true)) ∨
    ((F.cls x == 5) = false ∧ (F.cls y == 5) = false ∧ (F.cls x == 4) = false ∧ (F.cls x == 1) = false ∧ (F.cls y == 4) = true ∧ bc x y = (sp x y + 9218868437227405312, true)) ∨
    ((F.cls x == 5) = false ∧ (F.cls y == 5) = false ∧ (F.cls x == 4) = false ∧ (F.cls y == 4) = false ∧ (F.cls x == 1) = true ∧ bc x y = (sp x y, true)) ∨
    ((F.cls x == 5) = false ∧ (F.cls y == 5) = false ∧ (F.cls x == 4) = false ∧ (F.cls y == 4) = false ∧ (F.cls x == 1) = false ∧ (F.cls y == 1) = true ∧ bc x y = (sp x y, true)) ∨
    ((F.cls x == 5) = false ∧ (F.cls y == 5) = false ∧ (F.cls x == 4) = false ∧ (F.cls y == 4) = false ∧ (F.cls x == 1) = false ∧ (F.cls y == 1) = false ∧ bc x y = (0, false)) := by
  have a := F.cls_bd x
  have b := F.cls_bd y
  unfold bc
  generalize sp x y = s
  generalize F.cls x = cx at *
  generalize F.cls y = cy at *
  have kx : cx = 1 ∨ cx = 2 ∨ cx = 3 ∨ cx = 4 ∨ cx = 5 := by omega
  have ky : cy = 1 ∨ cy = 2 ∨ cy = 3 ∨ cy = 4 ∨ cy = 5 := by omega
  clear a b
  rcases kx with rfl | rfl | rfl | rfl | rfl <;> rcases ky with rfl | rfl | rfl | rfl | rfl
  all_goals (
    first
      | (rw [if_pos (by decide)]; simp; done)
      | (rw [if_neg (by decide), if_pos (by decide)]; simp; done)
      | (rw [if_neg (by decide), if_neg (by decide), if_pos (by decide)]; simp; done)
      | (rw [if_neg (by decide), if_neg (by decide), if_neg (by decide)]; simp; done))
theorem fi_b {x : Int} (hx : 0 ≤ x ∧ x ≤ 18446744073709551615) (h5 : (F.cls x == 5) = false) (h4 : (F.cls x == 4) = false) : fi x :=
  ⟨hx.1, hx.2, cls_fi.1 ⟨beq_eq_false_iff_ne.1 h5, beq_eq_false_iff_ne.1 h4⟩⟩
set_option maxRecDepth 100000 in
set_option maxHeartbeats 8000000 in
theorem ProductOf_c (x y mode : Int) (w : World) (hx : 0 ≤ x ∧ x ≤ 18446744073709551615) (hy : 0 ≤ y ∧ y ≤ 18446744073709551615) (hm : 0 ≤ mode ∧ mode ≤ 4) :
    Calls Tryz.prog 10 #[.int .u64 x, .int .u64 y, .int .i64 mode] w fun e w' => e = .returned (.tuple #[.int .u64 (MT x y mode).1, .bool (MT x y mode).2.1]) ∧ Below w.heap.size w w' := by
  have MX : Hid (∀ W : World, Calls Tryz.prog 13 #[.int .u64 x] W fun e w' => e = .returned (.bool (F.sgn x)) ∧ W = w') := fun W => Minus_v x W
  have MY : Hid (∀ W : World, Calls Tryz.prog 13 #[.int .u64 y] W fun e w' => e = .returned (.bool (F.sgn y)) ∧ W = w') := fun W => Minus_v y W
  have NX : Hid (∀ W : World, Calls Tryz.prog 30 #[.int .u64 x] W fun e w' => e = .returned (.bool (F.cls x == 5)) ∧ W = w') := fun W => IsNan_c x hx.1 hx.2 W
  have NY : Hid (∀ W : World, Calls Tryz.prog 30 #[.int .u64 y] W fun e w' => e = .returned (.bool (F.cls y == 5)) ∧ W = w') := fun W => IsNan_c y hy.1 hy.2 W
  have IX : Hid (∀ W : World, Calls Tryz.prog 31 #[.int .u64 x] W fun e w' => e = .returned (.bool (F.cls x == 4)) ∧ W = w') := fun W => IsInf_c x hx.1 hx.2 W
  have IY : Hid (∀ W : World, Calls Tryz.prog 31 #[.int .u64 y] W fun e w' => e = .returned (.bool (F.cls y == 4)) ∧ W = w') := fun W => IsInf_c y hy.1 hy.2 W
  have ZX : Hid (∀ W : World, Calls Tryz.prog 16 #[.int .u64 x] W fun e w' => e = .returned (.bool (F.cls x == 1)) ∧ W = w') := fun W => IsZero_c x hx.1 hx.2 W
  have ZY : Hid (∀ W : World, Calls Tryz.prog 16 #[.int .u64 y] W fun e w' => e = .returned (.bool (F.cls y == 1)) ∧ W = w') := fun W => IsZero_c y hy.1 hy.2 W
  have QN : Hid (∀ W : World, Calls Tryz.prog 32 #[] W fun e w' => e = .returned (.int .u64 9221120237041090560) ∧ W = w') := fun W => QuietNan_c W
  have IB : Hid (∀ W : World, Calls Tryz.prog 33 #[] W fun e w' => e = .returned (.int .u64 9218868437227405312) ∧ W = w') := fun W => InfBits_c W
  have S1 : Hid (∀ (W : World) (b : Bool), Calls Tryz.prog 12 #[.int .u64 9218868437227405312, .bool b] W fun e w' => e = .returned (.int .u64 (if b = true then 9218868437227405312 + 9223372036854775808 else 9218868437227405312)) ∧ W = w') := fun W b => Signed_c _ b W (by omega) (by omega)
  have S0 : Hid (∀ (W : World) (b : Bool), Calls Tryz.prog 12 #[.int .u64 0, .bool b] W fun e w' => e = .returned (.int .u64 (if b = true then 0 + 9223372036854775808 else 0)) ∧ W = w') := fun W b => Signed_c _ b W (by omega) (by omega)
  have SB := Lib.hid (sp_b x y)
  obtain ⟨r, hr⟩ : ∃ r, MT x y mode = r := ⟨_, rfl⟩
  rw [hr]
  have bcr : ∀ v, bc x y = (v, true) → r = (v, false, 0) := fun v h => by rw [← hr, MT_bc hm (by rw [h]), h]
  have kk := kinds2 x y
  rcases kk with ⟨x5, hb⟩ | ⟨x5, y5, hb⟩ | ⟨x5, y5, x4, y1, hb⟩ | ⟨x5, y5, x4, y1, x1, hb⟩ | ⟨x5, y5, x4, x1, y4, hb⟩ | ⟨x5, y5, x4, x1, y4, hb⟩ | ⟨x5, y5, x4, y4, x1, hb⟩ | ⟨x5, y5, x4, y4, x1, y1, hb⟩ | ⟨x5, y5, x4, y4, x1, y1, hb⟩
  · have e := bcr _ hb
    subst e
    rw [x5] at NX
    generalize F.sgn x = sx at *
    generalize F.sgn y = sy at *
    generalize F.cls x = cx at *
    generalize F.cls y = cy at *
    generalize sp x y = s at *
    clear hr bcr hb hm hx hy x5
    go_enter Tryz.func10, Tryz.ntmps10
    go_wp2_with (first
      | (go_at_call 13; (with_reducible refine (MX.out _).mono ?_); rintro e w1 ⟨rfl, rfl⟩)
      | (go_at_call 13; (with_reducible refine (MY.out _).mono ?_); rintro e w2 ⟨rfl, rfl⟩)
      | (go_at_call 30; (with_reducible refine (NX.out _).mono ?_); rintro e w3 ⟨rfl, rfl⟩)
      | (go_at_call 30; (with_reducible refine (NY.out _).mono ?_); rintro e w4 ⟨rfl, rfl⟩)
      | (go_at_call 31; (with_reducible refine (IX.out _).mono ?_); rintro e w5 ⟨rfl, rfl⟩)
      | (go_at_call 31; (with_reducible refine (IY.out _).mono ?_); rintro e w6 ⟨rfl, rfl⟩)
      | (go_at_call 16; (with_reducible refine (ZX.out _).mono ?_); rintro e w7 ⟨rfl, rfl⟩)
      | (go_at_call 16; (with_reducible refine (ZY.out _).mono ?_); rintro e w8 ⟨rfl, rfl⟩)
      | (go_at_call 32; (with_reducible refine (QN.out _).mono ?_); rintro e w9 ⟨rfl, rfl⟩)
      | (go_at_call 33; (with_reducible refine (IB.out _).mono ?_); rintro e w10 ⟨rfl, rfl⟩)
      | (go_at_call 12; (with_reducible refine (S1.out _ _).mono ?_); rintro e w11 ⟨rfl, rfl⟩)
      | (go_at_call 12; (with_reducible refine (S0.out _ _).mono ?_); rintro e w12 ⟨rfl, rfl⟩))
    go_ret2
    exact ⟨rfl, Below.refl _ _⟩
  · have e := bcr _ hb
    subst e
    rw [x5] at NX
    rw [y5] at NY
    generalize F.sgn x = sx at *
    generalize F.sgn y = sy at *
    generalize F.cls x = cx at *
    generalize F.cls y = cy at *
    generalize sp x y = s at *
    clear hr bcr hb hm hx hy x5 y5
    go_enter Tryz.func10, Tryz.ntmps10
    go_wp2_with (first
      | (go_at_call 13; (with_reducible refine (MX.out _).mono ?_); rintro e w1 ⟨rfl, rfl⟩)
      | (go_at_call 13; (with_reducible refine (MY.out _).mono ?_); rintro e w2 ⟨rfl, rfl⟩)
      | (go_at_call 30; (with_reducible refine (NX.out _).mono ?_); rintro e w3 ⟨rfl, rfl⟩)
      | (go_at_call 30; (with_reducible refine (NY.out _).mono ?_); rintro e w4 ⟨rfl, rfl⟩)
      | (go_at_call 31; (with_reducible refine (IX.out _).mono ?_); rintro e w5 ⟨rfl, rfl⟩)
      | (go_at_call 31; (with_reducible refine (IY.out _).mono ?_); rintro e w6 ⟨rfl, rfl⟩)
      | (go_at_call 16; (with_reducible refine (ZX.out _).mono ?_); rintro e w7 ⟨rfl, rfl⟩)
      | (go_at_call 16; (with_reducible refine (ZY.out _).mono ?_); rintro e w8 ⟨rfl, rfl⟩)
      | (go_at_call 32; (with_reducible refine (QN.out _).mono ?_); rintro e w9 ⟨rfl, rfl⟩)
      | (go_at_call 33; (with_reducible refine (IB.out _).mono ?_); rintro e w10 ⟨rfl, rfl⟩)
      | (go_at_call 12; (with_reducible refine (S1.out _ _).mono ?_); rintro e w11 ⟨rfl, rfl⟩)
      | (go_at_call 12; (with_reducible refine (S0.out _ _).mono ?_); rintro e w12 ⟨rfl, rfl⟩))
    go_ret2
    exact ⟨rfl, Below.refl _ _⟩
  · have e := bcr _ hb
    subst e
    rw [x5] at NX
    rw [y5] at NY
    rw [x4] at IX
    rw [y1] at ZY
    generalize F.sgn x = sx at *
    generalize F.sgn y = sy at *
    generalize F.cls x = cx at *
    generalize F.cls y = cy at *
    generalize sp x y = s at *
    clear hr bcr hb hm hx hy x5 y5 x4 y1
    go_enter Tryz.func10, Tryz.ntmps10
    go_wp2_with (first
      | (go_at_call 13; (with_reducible refine (MX.out _).mono ?_); rintro e w1 ⟨rfl, rfl⟩)
      | (go_at_call 13; (with_reducible refine (MY.out _).mono ?_); rintro e w2 ⟨rfl, rfl⟩)
      | (go_at_call 30; (with_reducible refine (NX.out _).mono ?_); rintro e w3 ⟨rfl, rfl⟩)
      | (go_at_call 30; (with_reducible refine (NY.out _).mono ?_); rintro e w4 ⟨rfl, rfl⟩)
      | (go_at_call 31; (with_reducible refine (IX.out _).mono ?_); rintro e w5 ⟨rfl, rfl⟩)
      | (go_at_call 31; (with_reducible refine (IY.out _).mono ?_); rintro e w6 ⟨rfl, rfl⟩)
      | (go_at_call 16; (with_reducible refine (ZX.out _).mono ?_); rintro e w7 ⟨rfl, rfl⟩)
      | (go_at_call 16; (with_reducible refine (ZY.out _).mono ?_); rintro e w8 ⟨rfl, rfl⟩)
      | (go_at_call 32; (with_reducible refine (QN.out _).mono ?_); rintro e w9 ⟨rfl, rfl⟩)
      | (go_at_call 33; (with_reducible refine (IB.out _).mono ?_); rintro e w10 ⟨rfl, rfl⟩)
      | (go_at_call 12; (with_reducible refine (S1.out _ _).mono ?_); rintro e w11 ⟨rfl, rfl⟩)
      | (go_at_call 12; (with_reducible refine (S0.out _ _).mono ?_); rintro e w12 ⟨rfl, rfl⟩))
    go_ret2
    exact ⟨rfl, Below.refl _ _⟩
  · have e := bcr _ hb
    subst e
    rw [x5] at NX
    rw [y5] at NY
    rw [x4] at IX
    rw [y1] at ZY
    rw [x1] at ZX
    generalize F.sgn x = sx at *
    generalize F.sgn y = sy at *
    generalize F.cls x = cx at *
    generalize F.cls y = cy at *
    generalize sp x y = s at *
    clear hr bcr hb hm hx hy x5 y5 x4 y1 x1
    cases sx <;> cases sy
    all_goals (
      have hs := SB.out
      simp at hs
      subst hs
      clear SB
      go_enter Tryz.func10, Tryz.ntmps10
      go_wp2_with (first
        | (go_at_call 13; (with_reducible refine (MX.out _).mono ?_); rintro e w1 ⟨rfl, rfl⟩)
        | (go_at_call 13; (with_reducible refine (MY.out _).mono ?_); rintro e w2 ⟨rfl, rfl⟩)
        | (go_at_call 30; (with_reducible refine (NX.out _).mono ?_); rintro e w3 ⟨rfl, rfl⟩)
        | (go_at_call 30; (with_reducible refine (NY.out _).mono ?_); rintro e w4 ⟨rfl, rfl⟩)
        | (go_at_call 31; (with_reducible refine (IX.out _).mono ?_); rintro e w5 ⟨rfl, rfl⟩)
        | (go_at_call 31; (with_reducible refine (IY.out _).mono ?_); rintro e w6 ⟨rfl, rfl⟩)
        | (go_at_call 16; (with_reducible refine (ZX.out _).mono ?_); rintro e w7 ⟨rfl, rfl⟩)
        | (go_at_call 16; (with_reducible refine (ZY.out _).mono ?_); rintro e w8 ⟨rfl, rfl⟩)
        | (go_at_call 32; (with_reducible refine (QN.out _).mono ?_); rintro e w9 ⟨rfl, rfl⟩)
        | (go_at_call 33; (with_reducible refine (IB.out _).mono ?_); rintro e w10 ⟨rfl, rfl⟩)
        | (go_at_call 12; (with_reducible refine (S1.out _ _).mono ?_); rintro e w11 ⟨rfl, rfl⟩)
        | (go_at_call 12; (with_reducible refine (S0.out _ _).mono ?_); rintro e w12 ⟨rfl, rfl⟩))
      go_ret2
      exact ⟨rfl, Below.refl _ _⟩)
  · have e := bcr _ hb
    subst e
    rw [x5] at NX
    rw [y5] at NY
    rw [x4] at IX
    rw [x1] at ZX
    rw [y4] at IY
    generalize F.sgn x = sx at *
    generalize F.sgn y = sy at *
    generalize F.cls x = cx at *
    generalize F.cls y = cy at *
    generalize sp x y = s at *
    clear hr bcr hb hm hx hy x5 y5 x4 x1 y4
    go_enter Tryz.func10, Tryz.ntmps10
    go_wp2_with (first
      | (go_at_call 13; (with_reducible refine (MX.out _).mono ?_); rintro e w1 ⟨rfl, rfl⟩)
      | (go_at_call 13; (with_reducible refine (MY.out _).mono ?_); rintro e w2 ⟨rfl, rfl⟩)
      | (go_at_call 30; (with_reducible refine (NX.out _).mono ?_); rintro e w3 ⟨rfl, rfl⟩)
      | (go_at_call 30; (with_reducible refine (NY.out _).mono ?_); rintro e w4 ⟨rfl, rfl⟩)
      | (go_at_call 31; (with_reducible refine (IX.out _).mono ?_); rintro e w5 ⟨rfl, rfl⟩)
      | (go_at_call 31; (with_reducible refine (IY.out _).mono ?_); rintro e w6 ⟨rfl, rfl⟩)
      | (go_at_call 16; (with_reducible refine (ZX.out _).mono ?_); rintro e w7 ⟨rfl, rfl⟩)
      | (go_at_call 16; (with_reducible refine (ZY.out _).mono ?_); rintro e w8 ⟨rfl, rfl⟩)
      | (go_at_call 32; (with_reducible refine (QN.out _).mono ?_); rintro e w9 ⟨rfl, rfl⟩)
      | (go_at_call 33; (with_reducible refine (IB.out _).mono ?_); rintro e w10 ⟨rfl, rfl⟩)
      | (go_at_call 12; (with_reducible refine (S1.out _ _).mono ?_); rintro e w11 ⟨rfl, rfl⟩)
      | (go_at_call 12; (with_reducible refine (S0.out _ _).mono ?_); rintro e w12 ⟨rfl, rfl⟩))
    go_ret2
    exact ⟨rfl, Below.refl _ _⟩
  · have e := bcr _ hb
    subst e
    rw [x5] at NX
    rw [y5] at NY
    rw [x4] at IX
    rw [x1] at ZX
    rw [y4] at IY
    generalize F.sgn x = sx at *
    generalize F.sgn y = sy at *
    generalize F.cls x = cx at *
    generalize F.cls y = cy at *
    generalize sp x y = s at *
    clear hr bcr hb hm hx hy x5 y5 x4 x1 y4
    cases sx <;> cases sy
    all_goals (
      have hs := SB.out
      simp at hs
      subst hs
      clear SB
      go_enter Tryz.func10, Tryz.ntmps10
      go_wp2_with (first
        | (go_at_call 13; (with_reducible refine (MX.out _).mono ?_); rintro e w1 ⟨rfl, rfl⟩)
        | (go_at_call 13; (with_reducible refine (MY.out _).mono ?_); rintro e w2 ⟨rfl, rfl⟩)
        | (go_at_call 30; (with_reducible refine (NX.out _).mono ?_); rintro e w3 ⟨rfl, rfl⟩)
        | (go_at_call 30; (with_reducible refine (NY.out _).mono ?_); rintro e w4 ⟨rfl, rfl⟩)
        | (go_at_call 31; (with_reducible refine (IX.out _).mono ?_); rintro e w5 ⟨rfl, rfl⟩)
        | (go_at_call 31; (with_reducible refine (IY.out _).mono ?_); rintro e w6 ⟨rfl, rfl⟩)
        | (go_at_call 16; (with_reducible refine (ZX.out _).mono ?_); rintro e w7 ⟨rfl, rfl⟩)
        | (go_at_call 16; (with_reducible refine (ZY.out _).mono ?_); rintro e w8 ⟨rfl, rfl⟩)
        | (go_at_call 32; (with_reducible refine (QN.out _).mono ?_); rintro e w9 ⟨rfl, rfl⟩)
        | (go_at_call 33; (with_reducible refine (IB.out _).mono ?_); rintro e w10 ⟨rfl, rfl⟩)
        | (go_at_call 12; (with_reducible refine (S1.out _ _).mono ?_); rintro e w11 ⟨rfl, rfl⟩)
        | (go_at_call 12; (with_reducible refine (S0.out _ _).mono ?_); rintro e w12 ⟨rfl, rfl⟩))
      go_ret2
      exact ⟨rfl, Below.refl _ _⟩)
  · have e := bcr _ hb
    subst e
    rw [x5] at NX
    rw [y5] at NY
    rw [x4] at IX
    rw [y4] at IY
    rw [x1] at ZX
    generalize F.sgn x = sx at *
    generalize F.sgn y = sy at *
    generalize F.cls x = cx at *
    generalize F.cls y = cy at *
    generalize sp x y = s at *
    clear hr bcr hb hm hx hy x5 y5 x4 y4 x1
    cases sx <;> cases sy
    all_goals (
      have hs := SB.out
      simp at hs
      subst hs
      clear SB
      go_enter Tryz.func10, Tryz.ntmps10
      go_wp2_with (first
        | (go_at_call 13; (with_reducible refine (MX.out _).mono ?_); rintro e w1 ⟨rfl, rfl⟩)
        | (go_at_call 13; (with_reducible refine (MY.out _).mono ?_); rintro e w2 ⟨rfl, rfl⟩)
        | (go_at_call 30; (with_reducible refine (NX.out _).mono ?_); rintro e w3 ⟨rfl, rfl⟩)
        | (go_at_call 30; (with_reducible refine (NY.out _).mono ?_); rintro e w4 ⟨rfl, rfl⟩)
        | (go_at_call 31; (with_reducible refine (IX.out _).mono ?_); rintro e w5 ⟨rfl, rfl⟩)
        | (go_at_call 31; (with_reducible refine (IY.out _).mono ?_); rintro e w6 ⟨rfl, rfl⟩)
        | (go_at_call 16; (with_reducible refine (ZX.out _).mono ?_); rintro e w7 ⟨rfl, rfl⟩)
        | (go_at_call 16; (with_reducible refine (ZY.out _).mono ?_); rintro e w8 ⟨rfl, rfl⟩)
        | (go_at_call 32; (with_reducible refine (QN.out _).mono ?_); rintro e w9 ⟨rfl, rfl⟩)
        | (go_at_call 33; (with_reducible refine (IB.out _).mono ?_); rintro e w10 ⟨rfl, rfl⟩)
        | (go_at_call 12; (with_reducible refine (S1.out _ _).mono ?_); rintro e w11 ⟨rfl, rfl⟩)
        | (go_at_call 12; (with_reducible refine (S0.out _ _).mono ?_); rintro e w12 ⟨rfl, rfl⟩))
      go_ret2
      exact ⟨rfl, Below.refl _ _⟩)
  · have e := bcr _ hb
    subst e
    rw [x5] at NX
    rw [y5] at NY
    rw [x4] at IX
    rw [y4] at IY
    rw [x1] at ZX
    rw [y1] at ZY
    generalize F.sgn x = sx at *
    generalize F.sgn y = sy at *
    generalize F.cls x = cx at *
    generalize F.cls y = cy at *
    generalize sp x y = s at *
    clear hr bcr hb hm hx hy x5 y5 x4 y4 x1 y1
    cases sx <;> cases sy
    all_goals (
      have hs := SB.out
      simp at hs
      subst hs
      clear SB
      go_enter Tryz.func10, Tryz.ntmps10
      go_wp2_with (first
        | (go_at_call 13; (with_reducible refine (MX.out _).mono ?_); rintro e w1 ⟨rfl, rfl⟩)
        | (go_at_call 13; (with_reducible refine (MY.out _).mono ?_); rintro e w2 ⟨rfl, rfl⟩)
        | (go_at_call 30; (with_reducible refine (NX.out _).mono ?_); rintro e w3 ⟨rfl, rfl⟩)
        | (go_at_call 30; (with_reducible refine (NY.out _).mono ?_); rintro e w4 ⟨rfl, rfl⟩)
        | (go_at_call 31; (with_reducible refine (IX.out _).mono ?_); rintro e w5 ⟨rfl, rfl⟩)
        | (go_at_call 31; (with_reducible refine (IY.out _).mono ?_); rintro e w6 ⟨rfl, rfl⟩)
        | (go_at_call 16; (with_reducible refine (ZX.out _).mono ?_); rintro e w7 ⟨rfl, rfl⟩)
        | (go_at_call 16; (with_reducible refine (ZY.out _).mono ?_); rintro e w8 ⟨rfl, rfl⟩)
        | (go_at_call 32; (with_reducible refine (QN.out _).mono ?_); rintro e w9 ⟨rfl, rfl⟩)
        | (go_at_call 33; (with_reducible refine (IB.out _).mono ?_); rintro e w10 ⟨rfl, rfl⟩)
        | (go_at_call 12; (with_reducible refine (S1.out _ _).mono ?_); rintro e w11 ⟨rfl, rfl⟩)
        | (go_at_call 12; (with_reducible refine (S0.out _ _).mono ?_); rintro e w12 ⟨rfl, rfl⟩))
      go_ret2
      exact ⟨rfl, Below.refl _ _⟩)
  · have fx := fi_b hx x5 x4
    have fy := fi_b hy y5 y4
    have e : r = (TX (PD x y).d mode, TL (PD x y).d mode, 0) := by rw [← hr, MT_fi hm (by rw [hb])]
    subst e
    have QVx : Hid (∀ (W : World), Calls Tryz.prog 35 #[.int .u64 x] W (RetSF 2200 1100 W (val x))) := fun W => QVal_v x W fx
    have QVy : Hid (∀ (W : World), Calls Tryz.prog 35 #[.int .u64 y] W (RetSF 2200 1100 W (val y))) := fun W => QVal_v y W fy
    have QM : Hid (∀ (W : World) (u v : Value), QS 2200 1100 W u (val x) → QS 2200 1100 W v (val y) → Calls Tryz.prog 34 #[u, v] W (RetS 4400 2200 W (S (PD x y).d))) := fun W u v h3 h4 => QMul_pd fx fy h3 h4
    have RO : Hid (∀ (W : World) (u : Value), QS 4400 2200 W u (S (PD x y).d) → Calls Tryz.prog 17 #[u, .int .i64 0, .int .i64 mode] W fun e w' => e = .returned (.tuple #[.int .u64 (TX (PD x y).d mode), .bool (TL (PD x y).d mode)]) ∧ Below W.heap.size W w') := fun W u h => Rounded_t h (by omega) (by omega) (pd_p fx fy rfl).2.1.ok hm
    generalize TX (PD x y).d mode = tx at *
    generalize TL (PD x y).d mode = tl at *
    generalize S (PD x y).d = sd at *
    generalize val x = vx at *
    generalize val y = vy at *
    rw [x5] at NX
    rw [y5] at NY
    rw [x4] at IX
    rw [y4] at IY
    rw [x1] at ZX
    rw [y1] at ZY
    generalize F.sgn x = sx at *
    generalize F.sgn y = sy at *
    generalize F.cls x = cx at *
    generalize F.cls y = cy at *
    generalize sp x y = s at *
    clear hr bcr hb hm hx hy x5 y5 x4 y4 x1 y1 fx fy
    go_enter Tryz.func10, Tryz.ntmps10
    go_wp2_with (first
      | (go_at_call 13; (with_reducible refine (MX.out _).mono ?_); rintro e w1 ⟨rfl, rfl⟩)
      | (go_at_call 13; (with_reducible refine (MY.out _).mono ?_); rintro e w2 ⟨rfl, rfl⟩)
      | (go_at_call 30; (with_reducible refine (NX.out _).mono ?_); rintro e w3 ⟨rfl, rfl⟩)
      | (go_at_call 30; (with_reducible refine (NY.out _).mono ?_); rintro e w4 ⟨rfl, rfl⟩)
      | (go_at_call 31; (with_reducible refine (IX.out _).mono ?_); rintro e w5 ⟨rfl, rfl⟩)
      | (go_at_call 31; (with_reducible refine (IY.out _).mono ?_); rintro e w6 ⟨rfl, rfl⟩)
      | (go_at_call 16; (with_reducible refine (ZX.out _).mono ?_); rintro e w7 ⟨rfl, rfl⟩)
      | (go_at_call 16; (with_reducible refine (ZY.out _).mono ?_); rintro e w8 ⟨rfl, rfl⟩)
      | (go_at_call 32; (with_reducible refine (QN.out _).mono ?_); rintro e w9 ⟨rfl, rfl⟩)
      | (go_at_call 33; (with_reducible refine (IB.out _).mono ?_); rintro e w10 ⟨rfl, rfl⟩)
      | (go_at_call 12; (with_reducible refine (S1.out _ _).mono ?_); rintro e w11 ⟨rfl, rfl⟩)
      | (go_at_call 12; (with_reducible refine (S0.out _ _).mono ?_); rintro e w12 ⟨rfl, rfl⟩)
      | (go_at_call 35; (with_reducible refine (QVx.out _).mono ?_); rintro e w13 ⟨b1, A1, n1, c1, t1, z1, rfl, r1, r2, r3, r4, r5, r6, hb⟩; have Q1 := Lib.hid (RetS.qs r1 r2 r3 r4 r5); have D := Lib.hid hb; clear r1 r2 r3 r4 r5 r6 hb)
      | (go_at_call 35; (with_reducible refine (QVy.out _).mono ?_); rintro e w14 ⟨b2, A2, n2, c2, t2, z2, rfl, r1, r2, r3, r4, r5, r6, hb⟩; have Q1 := Lib.hid (Q1.out.below hb); have Q2 := Lib.hid (RetS.qs r1 r2 r3 r4 r5); have D := Lib.hid (D.out.trans (hb.mono D.out.size)); clear r1 r2 r3 r4 r5 r6 hb)
      | (go_at_call 34; (with_reducible refine (QM.out _ _ _ Q1.out Q2.out).mono ?_); rintro e w15 ⟨b3, A3, n3, c3, t3, z3, rfl, r1, r2, r3, r4, r5, hb⟩; have Q3 := Lib.hid (RetS.qs r1 r2 r3 r4 r5); have D := Lib.hid (D.out.trans (hb.mono D.out.size)); clear r1 r2 r3 r4 r5 hb)
      | (go_at_call 17; (with_reducible refine (RO.out _ _ Q3.out).mono ?_); rintro e w16 ⟨rfl, hb⟩; have D := Lib.hid (D.out.trans (hb.mono D.out.size)); clear hb))
    go_ret2
    exact ⟨rfl, D.out⟩
/-- what a fused sum tells, by the kinds -/
theorem SO_of {a z mode : Int} (hm : 0 ≤ mode ∧ mode ≤ 4) (ha : 0 ≤ a ∧ a ≤ 18446744073709551615) (hz : 0 ≤ z ∧ z ≤ 18446744073709551615) : AT [a, z] mode = ((SO [a, z] mode).1, (SO [a, z] mode).2, 0) := SO_AT hm (by simp) (u2 ha hz)
theorem FT_nz {x y z mode : Int} (hm : 0 ≤ mode ∧ mode ≤ 4) (hx : 0 ≤ x ∧ x ≤ 18446744073709551615) (hy : 0 ≤ y ∧ y ≤ 18446744073709551615) (hz : 0 ≤ z ∧ z ≤ 18446744073709551615) (h : F.cls z = 5) : FT x y z mode = (9221120237041090560, false, 0) := by
  cases hb : (bc x y).2
  · rw [FT_nf hm hb (by have := mt (cls_fi (x := z)).2; rcases Classical.em (F.exq z = 2047) with k | k; exact k; exact absurd h ((cls_fi (x := z)).2 k).1), AT_comm (by omega) hz, AT_nan hm hz (by omega) h]
  · rw [FT_bc hm hb, AT_comm (bc_bd x y) hz, AT_nan hm hz (bc_bd x y) h]
theorem FT_iz {x y z mode : Int} (hm : 0 ≤ mode ∧ mode ≤ 4) (hx : fi x) (hy : fi y) (hz : 0 ≤ z ∧ z ≤ 18446744073709551615) (h : F.cls z = 4) : FT x y z mode = (z, false, 0) := by
  have hq : F.exq z = 2047 := by
    rcases Classical.em (F.exq z = 2047) with k | k
    · exact k
    · exact absurd h ((cls_fi (x := z)).2 k).2
  have e : ∀ a, fi a → AT [a, z] mode = (z, false, 0) := fun a fa => by
    rw [AT_nf hm fa hz hq]
    rcases (cls_inf hz.1 hz.2).1 h with rfl | rfl <;> decide
  cases hb : (bc x y).2
  · rw [FT_nf hm hb hq, e 0 val00.1]
  · have c1 := (fi_cls ⟨hx.1, hx.2.1⟩).1 hx
    have c2 := (fi_cls ⟨hy.1, hy.2.1⟩).1 hy
    have h3 : min (F.cls x) (F.cls y) = 1 := by
      rcases Classical.em (min (F.cls x) (F.cls y) = 1) with h3 | h3
      · exact h3
      · exfalso
        unfold bc at hb
        rw [if_neg (by omega), if_neg (by omega), if_neg h3] at hb
        cases hb
    have eb : bc x y = (sp x y, true) := by
      unfold bc
      rw [if_neg (by omega), if_neg (by omega), if_pos h3]
    rw [FT_bc hm (by rw [eb]), eb]
    refine e _ ?_
    show fi (sp x y)
    rcases sp2 x y with h | h <;> rw [h]
    · exact val00.1
    · exact val08.1
/-- by the exact value -/
theorem FT_val {x y z mode : Int} (hm : 0 ≤ mode ∧ mode ≤ 4) (hx : fi x) (hy : fi y) (hz : fi z) :
    Ok (fd x y z) ∧ S (fd x y z) = S (PD x y).d + val z ∧ (S (fd x y z) ≠ 0 → FT x y z mode = (TX (fd x y z) mode, TL (fd x y z) mode, 0)) ∧
    (S (fd x y z) = 0 → S (PD x y).d = 0 → FT x y z mode = AT [sp x y, z] mode) ∧ (S (fd x y z) = 0 → S (PD x y).d ≠ 0 → FT x y z mode = (if mode = 2 then 9223372036854775808 else 0, false, 0)) := by
  obtain ⟨K, hK⟩ : ∃ K : Nat, K = 60000 := ⟨_, rfl⟩
  have f := fd_p hx hy hz
  have p := pd_p hx hy hK
  have hx' := And.intro hx.1 hx.2.1
  have hy' := And.intro hy.1 hy.2.1
  refine ⟨f.1.ok, f.2, ?_, ?_, ?_⟩
  · intro h0
    cases hb : (bc x y).2
    · rw [FT_fi hm hb hz.2.2, if_neg (fun h => h0 (S_m'.1 h.1))]
    · have c1 := (fi_cls hx').1 hx
      have c2 := (fi_cls hy').1 hy
      have h3 : min (F.cls x) (F.cls y) = 1 := by
        rcases Classical.em (min (F.cls x) (F.cls y) = 1) with h3 | h3
        · exact h3
        · exfalso
          unfold bc at hb
          rw [if_neg (by omega), if_neg (by omega), if_neg h3] at hb
          cases hb
      have eb : bc x y = (sp x y, true) := by
        unfold bc
        rw [if_neg (by omega), if_neg (by omega), if_pos h3]
      have hp0 : S (PD x y).d = 0 := by
        apply K_inj (K := K)
        rw [p.2.2, Int.zero_mul, Int.mul_eq_zero, val0 hx, val0 hy]
        omega
      have fs : fi (sp x y) ∧ val (sp x y) = 0 := by
        rcases sp2 x y with h | h <;> rw [h]
        · exact val00
        · exact val08
      have t := tot_ok (f2 fs.1 hz) (by simp)
      have v : vs [sp x y, z] = val z := by simp [vs, fs.2]
      have ev : S (fd x y z) = vs [sp x y, z] := by rw [f.2, hp0, v]; omega
      have ed : fd x y z = tot [sp x y, z] dz := S_inj f.1.ok t.1 (by rw [t.2, ev])
      rw [FT_bc hm (by rw [eb]), eb]
      show AT [sp x y, z] mode = _
      rw [(AT_fin hm (by simp) (f2 fs.1 hz)).2 (by rw [← ev]; exact h0), ed]
  · intro h0 hp
    cases hb : (bc x y).2
    · have n := (bc_no hx' hy').1 hb
      exact absurd (S_m'.2 hp) (pd_ne hx hy n.2.2.1 n.2.2.2)
    · have c1 := (fi_cls hx').1 hx
      have c2 := (fi_cls hy').1 hy
      have h3 : min (F.cls x) (F.cls y) = 1 := by
        rcases Classical.em (min (F.cls x) (F.cls y) = 1) with h3 | h3
        · exact h3
        · exfalso
          unfold bc at hb
          rw [if_neg (by omega), if_neg (by omega), if_neg h3] at hb
          cases hb
      have eb : bc x y = (sp x y, true) := by
        unfold bc
        rw [if_neg (by omega), if_neg (by omega), if_pos h3]
      rw [FT_bc hm (by rw [eb]), eb]
  · intro h0 hp
    cases hb : (bc x y).2
    · rw [FT_fi hm hb hz.2.2]
      have k := TX0 hm f.1.ok h0
      rw [k.1, k.2]
      by_cases h2 : mode = 2
      · rw [if_pos ⟨S_m'.2 h0, h2⟩, if_pos h2]
      · rw [if_neg (fun h => h2 h.2), if_neg h2]
    · exfalso
      have n : ¬ (val x ≠ 0 ∧ val y ≠ 0) := fun h => by
        have := (bc_no hx' hy').2 ⟨hx, hy, h⟩
        rw [this] at hb; cases hb
      apply hp
      apply K_inj (K := K)
      rw [p.2.2, Int.zero_mul, Int.mul_eq_zero]
      rcases Classical.em (val x = 0) with h | h
      · exact .inl h
      · right
        rcases Classical.em (val y = 0) with h' | h'
        · exact h'
        · exact absurd ⟨h, h'⟩ n
end PC
end Go.Proofs.YtejglcpiihkenaaGreatDoor

/-
  The document's fused sum.
-/
namespace Go.Proofs.YtejglcpiihkenaaGreatDoor
set_option linter.unusedVariables false
set_option linter.unusedSimpArgs false
open Go.RowKit
set_option linter.unusedVariables false
set_option linter.unusedSimpArgs false
namespace PC
open Z (Nz Tz cmpv big)
open ZC DC RC QC SC VC
theorem cmp0 (a : Int) : (cmpv a 0 = 0 ∧ a = 0) ∨ ((cmpv a 0 != 0) = true ∧ (cmpv a 0 == 0) = false ∧ a ≠ 0) := by
  rcases cmpv3 a 0 with ⟨e, h⟩ | ⟨e, h⟩ | ⟨e, h⟩
  · right; rw [e]; exact ⟨rfl, rfl, by omega⟩
  · left; exact ⟨e, h⟩
  · right; rw [e]; exact ⟨rfl, rfl, by omega⟩
set_option maxRecDepth 100000 in
set_option maxHeartbeats 8000000 in
theorem FusedOf_c (x y z mode : Int) (w : World) (hx : 0 ≤ x ∧ x ≤ 18446744073709551615) (hy : 0 ≤ y ∧ y ≤ 18446744073709551615) (hz : 0 ≤ z ∧ z ≤ 18446744073709551615) (hm : 0 ≤ mode ∧ mode ≤ 4) :
    Calls Tryz.prog 11 #[.int .u64 x, .int .u64 y, .int .u64 z, .int .i64 mode] w fun e w' => e = .returned (.tuple #[.int .u64 (FT x y z mode).1, .bool (FT x y z mode).2.1]) ∧ Below w.heap.size w w' := by
  have MX : Hid (∀ W : World, Calls Tryz.prog 13 #[.int .u64 x] W fun e w' => e = .returned (.bool (F.sgn x)) ∧ W = w') := fun W => Minus_v x W
  have MY : Hid (∀ W : World, Calls Tryz.prog 13 #[.int .u64 y] W fun e w' => e = .returned (.bool (F.sgn y)) ∧ W = w') := fun W => Minus_v y W
  have NX : Hid (∀ W : World, Calls Tryz.prog 30 #[.int .u64 x] W fun e w' => e = .returned (.bool (F.cls x == 5)) ∧ W = w') := fun W => IsNan_c x hx.1 hx.2 W
  have NY : Hid (∀ W : World, Calls Tryz.prog 30 #[.int .u64 y] W fun e w' => e = .returned (.bool (F.cls y == 5)) ∧ W = w') := fun W => IsNan_c y hy.1 hy.2 W
  have IX : Hid (∀ W : World, Calls Tryz.prog 31 #[.int .u64 x] W fun e w' => e = .returned (.bool (F.cls x == 4)) ∧ W = w') := fun W => IsInf_c x hx.1 hx.2 W
  have IY : Hid (∀ W : World, Calls Tryz.prog 31 #[.int .u64 y] W fun e w' => e = .returned (.bool (F.cls y == 4)) ∧ W = w') := fun W => IsInf_c y hy.1 hy.2 W
  have ZX : Hid (∀ W : World, Calls Tryz.prog 16 #[.int .u64 x] W fun e w' => e = .returned (.bool (F.cls x == 1)) ∧ W = w') := fun W => IsZero_c x hx.1 hx.2 W
  have ZY : Hid (∀ W : World, Calls Tryz.prog 16 #[.int .u64 y] W fun e w' => e = .returned (.bool (F.cls y == 1)) ∧ W = w') := fun W => IsZero_c y hy.1 hy.2 W
  have QN : Hid (∀ W : World, Calls Tryz.prog 32 #[] W fun e w' => e = .returned (.int .u64 9221120237041090560) ∧ W = w') := fun W => QuietNan_c W
  have IB : Hid (∀ W : World, Calls Tryz.prog 33 #[] W fun e w' => e = .returned (.int .u64 9218868437227405312) ∧ W = w') := fun W => InfBits_c W
  have S1 : Hid (∀ (W : World) (b : Bool), Calls Tryz.prog 12 #[.int .u64 9218868437227405312, .bool b] W fun e w' => e = .returned (.int .u64 (if b = true then 9218868437227405312 + 9223372036854775808 else 9218868437227405312)) ∧ W = w') := fun W b => Signed_c _ b W (by omega) (by omega)
  have S0 : Hid (∀ (W : World) (b : Bool), Calls Tryz.prog 12 #[.int .u64 0, .bool b] W fun e w' => e = .returned (.int .u64 (if b = true then 0 + 9223372036854775808 else 0)) ∧ W = w') := fun W b => Signed_c _ b W (by omega) (by omega)
  have NZ : Hid (∀ W : World, Calls Tryz.prog 30 #[.int .u64 z] W fun e w' => e = .returned (.bool (F.cls z == 5)) ∧ W = w') := fun W => IsNan_c z hz.1 hz.2 W
  have IZ : Hid (∀ W : World, Calls Tryz.prog 31 #[.int .u64 z] W fun e w' => e = .returned (.bool (F.cls z == 4)) ∧ W = w') := fun W => IsInf_c z hz.1 hz.2 W
  have SUM : ∀ a : Int, 0 ≤ a ∧ a ≤ 18446744073709551615 → ∀ W : World, Calls Tryz.prog 19 #[.slice (some ⟨W.heap.size, 0, none⟩) 2 2, .int .i64 mode] (W.alloc (.cells #[.int .u64 a, .int .u64 z] 22)) fun e w' => e = .returned (.tuple #[.int .u64 (AT [a, z] mode).1, .bool (AT [a, z] mode).2.1]) ∧ Below W.heap.size W w' := fun a ha W => by
    have D0 := al1 W (.cells #[.int .u64 a, .int .u64 z] 22)
    have hs : Sl .u64 (W.alloc (.cells #[.int .u64 a, .int .u64 z] 22)) (.slice (some ⟨W.heap.size, 0, none⟩) 2 2) [a, z] := Row.sl (k := .u64) (e := 22) (L := [a, z]) (Blk.new W 22 #[.int .u64 a, .int .u64 z]) 2 (by simp)
    have := SumOf_c _ _ _ _ mode _ hs (u2 ha hz) (by simp) hm
    rw [SO_of hm ha hz]
    refine this.mono ?_
    rintro e w' ⟨rfl, hb⟩
    exact ⟨rfl, D0.trans (hb.mono D0.size)⟩
  have SB := Lib.hid (sp_b x y)
  obtain ⟨r, hr⟩ : ∃ r, FT x y z mode = r := ⟨_, rfl⟩
  rw [hr]
  have kk := kinds2 x y
  by_cases z5 : F.cls z = 5
  · have e := FT_nz hm hx hy hz z5
    rw [hr] at e
    subst e
    rw [z5] at NZ
    have kk2 : (F.cls x == 5) = true ∨ ((F.cls x == 5) = false ∧ (F.cls y == 5) = true) ∨ ((F.cls x == 5) = false ∧ (F.cls y == 5) = false) := by
      cases F.cls x == 5 <;> cases F.cls y == 5 <;> simp
    clear kk hr SUM SB hm hx hy hz z5
    generalize F.sgn x = sx at *
    generalize F.sgn y = sy at *
    rcases kk2 with x5 | ⟨x5, y5⟩ | ⟨x5, y5⟩
    · rw [x5] at NX
      clear x5
      generalize F.cls x = cx at *
      generalize F.cls y = cy at *
      go_enter Tryz.func11, Tryz.ntmps11
      go_wp2_with (first
        | (go_at_call 13; (with_reducible refine (MX.out _).mono ?_); rintro e w1 ⟨rfl, rfl⟩)
        | (go_at_call 13; (with_reducible refine (MY.out _).mono ?_); rintro e w2 ⟨rfl, rfl⟩)
        | (go_at_call 30; (with_reducible refine (NX.out _).mono ?_); rintro e w3 ⟨rfl, rfl⟩)
        | (go_at_call 30; (with_reducible refine (NY.out _).mono ?_); rintro e w4 ⟨rfl, rfl⟩)
        | (go_at_call 30; (with_reducible refine (NZ.out _).mono ?_); rintro e w4 ⟨rfl, rfl⟩)
        | (go_at_call 31; (with_reducible refine (IX.out _).mono ?_); rintro e w5 ⟨rfl, rfl⟩)
        | (go_at_call 31; (with_reducible refine (IY.out _).mono ?_); rintro e w6 ⟨rfl, rfl⟩)
        | (go_at_call 31; (with_reducible refine (IZ.out _).mono ?_); rintro e w6 ⟨rfl, rfl⟩)
        | (go_at_call 16; (with_reducible refine (ZX.out _).mono ?_); rintro e w7 ⟨rfl, rfl⟩)
        | (go_at_call 16; (with_reducible refine (ZY.out _).mono ?_); rintro e w8 ⟨rfl, rfl⟩)
        | (go_at_call 32; (with_reducible refine (QN.out _).mono ?_); rintro e w9 ⟨rfl, rfl⟩)
        | (go_at_call 33; (with_reducible refine (IB.out _).mono ?_); rintro e w10 ⟨rfl, rfl⟩)
        | (go_at_call 12; (with_reducible refine (S1.out _ _).mono ?_); rintro e w11 ⟨rfl, rfl⟩)
        | (go_at_call 12; (with_reducible refine (S0.out _ _).mono ?_); rintro e w12 ⟨rfl, rfl⟩))
      go_ret2
      exact ⟨rfl, Below.refl _ _⟩
    · rw [x5] at NX; rw [y5] at NY
      clear x5 y5
      generalize F.cls x = cx at *
      generalize F.cls y = cy at *
      go_enter Tryz.func11, Tryz.ntmps11
      go_wp2_with (first
        | (go_at_call 13; (with_reducible refine (MX.out _).mono ?_); rintro e w1 ⟨rfl, rfl⟩)
        | (go_at_call 13; (with_reducible refine (MY.out _).mono ?_); rintro e w2 ⟨rfl, rfl⟩)
        | (go_at_call 30; (with_reducible refine (NX.out _).mono ?_); rintro e w3 ⟨rfl, rfl⟩)
        | (go_at_call 30; (with_reducible refine (NY.out _).mono ?_); rintro e w4 ⟨rfl, rfl⟩)
        | (go_at_call 30; (with_reducible refine (NZ.out _).mono ?_); rintro e w4 ⟨rfl, rfl⟩)
        | (go_at_call 31; (with_reducible refine (IX.out _).mono ?_); rintro e w5 ⟨rfl, rfl⟩)
        | (go_at_call 31; (with_reducible refine (IY.out _).mono ?_); rintro e w6 ⟨rfl, rfl⟩)
        | (go_at_call 31; (with_reducible refine (IZ.out _).mono ?_); rintro e w6 ⟨rfl, rfl⟩)
        | (go_at_call 16; (with_reducible refine (ZX.out _).mono ?_); rintro e w7 ⟨rfl, rfl⟩)
        | (go_at_call 16; (with_reducible refine (ZY.out _).mono ?_); rintro e w8 ⟨rfl, rfl⟩)
        | (go_at_call 32; (with_reducible refine (QN.out _).mono ?_); rintro e w9 ⟨rfl, rfl⟩)
        | (go_at_call 33; (with_reducible refine (IB.out _).mono ?_); rintro e w10 ⟨rfl, rfl⟩)
        | (go_at_call 12; (with_reducible refine (S1.out _ _).mono ?_); rintro e w11 ⟨rfl, rfl⟩)
        | (go_at_call 12; (with_reducible refine (S0.out _ _).mono ?_); rintro e w12 ⟨rfl, rfl⟩))
      go_ret2
      exact ⟨rfl, Below.refl _ _⟩
    · rw [x5] at NX; rw [y5] at NY
      clear x5 y5
      generalize F.cls x = cx at *
      generalize F.cls y = cy at *
      go_enter Tryz.func11, Tryz.ntmps11
      go_wp2_with (first
        | (go_at_call 13; (with_reducible refine (MX.out _).mono ?_); rintro e w1 ⟨rfl, rfl⟩)
        | (go_at_call 13; (with_reducible refine (MY.out _).mono ?_); rintro e w2 ⟨rfl, rfl⟩)
        | (go_at_call 30; (with_reducible refine (NX.out _).mono ?_); rintro e w3 ⟨rfl, rfl⟩)
        | (go_at_call 30; (with_reducible refine (NY.out _).mono ?_); rintro e w4 ⟨rfl, rfl⟩)
        | (go_at_call 30; (with_reducible refine (NZ.out _).mono ?_); rintro e w4 ⟨rfl, rfl⟩)
        | (go_at_call 31; (with_reducible refine (IX.out _).mono ?_); rintro e w5 ⟨rfl, rfl⟩)
        | (go_at_call 31; (with_reducible refine (IY.out _).mono ?_); rintro e w6 ⟨rfl, rfl⟩)
        | (go_at_call 31; (with_reducible refine (IZ.out _).mono ?_); rintro e w6 ⟨rfl, rfl⟩)
        | (go_at_call 16; (with_reducible refine (ZX.out _).mono ?_); rintro e w7 ⟨rfl, rfl⟩)
        | (go_at_call 16; (with_reducible refine (ZY.out _).mono ?_); rintro e w8 ⟨rfl, rfl⟩)
        | (go_at_call 32; (with_reducible refine (QN.out _).mono ?_); rintro e w9 ⟨rfl, rfl⟩)
        | (go_at_call 33; (with_reducible refine (IB.out _).mono ?_); rintro e w10 ⟨rfl, rfl⟩)
        | (go_at_call 12; (with_reducible refine (S1.out _ _).mono ?_); rintro e w11 ⟨rfl, rfl⟩)
        | (go_at_call 12; (with_reducible refine (S0.out _ _).mono ?_); rintro e w12 ⟨rfl, rfl⟩))
      go_ret2
      exact ⟨rfl, Below.refl _ _⟩
  · have z5' : (F.cls z == 5) = false := beq_eq_false_iff_ne.2 z5
    rw [z5'] at NZ
    clear z5'
    rcases kk with ⟨x5, hb⟩ | ⟨x5, y5, hb⟩ | ⟨x5, y5, x4, y1, hb⟩ | ⟨x5, y5, x4, y1, x1, hb⟩ | ⟨x5, y5, x4, x1, y4, hb⟩ | ⟨x5, y5, x4, x1, y4, hb⟩ | ⟨x5, y5, x4, y4, x1, hb⟩ | ⟨x5, y5, x4, y4, x1, y1, hb⟩ | ⟨x5, y5, x4, y4, x1, y1, hb⟩
    · have e : r = (9221120237041090560, false, 0) := by rw [← hr, FT_bc hm (by rw [hb]), hb]; exact AT_nan hm (by omega) hz (by decide)
      subst e
      rw [x5] at NX
      clear hr SUM SB hm hx hy hz z5 hb x5
      generalize F.sgn x = sx at *
      generalize F.sgn y = sy at *
      generalize F.cls x = cx at *
      generalize F.cls y = cy at *
      generalize F.cls z = cz at *
      go_enter Tryz.func11, Tryz.ntmps11
      go_wp2_with (first
        | (go_at_call 13; (with_reducible refine (MX.out _).mono ?_); rintro e w1 ⟨rfl, rfl⟩)
        | (go_at_call 13; (with_reducible refine (MY.out _).mono ?_); rintro e w2 ⟨rfl, rfl⟩)
        | (go_at_call 30; (with_reducible refine (NX.out _).mono ?_); rintro e w3 ⟨rfl, rfl⟩)
        | (go_at_call 30; (with_reducible refine (NY.out _).mono ?_); rintro e w4 ⟨rfl, rfl⟩)
        | (go_at_call 30; (with_reducible refine (NZ.out _).mono ?_); rintro e w4 ⟨rfl, rfl⟩)
        | (go_at_call 31; (with_reducible refine (IX.out _).mono ?_); rintro e w5 ⟨rfl, rfl⟩)
        | (go_at_call 31; (with_reducible refine (IY.out _).mono ?_); rintro e w6 ⟨rfl, rfl⟩)
        | (go_at_call 31; (with_reducible refine (IZ.out _).mono ?_); rintro e w6 ⟨rfl, rfl⟩)
        | (go_at_call 16; (with_reducible refine (ZX.out _).mono ?_); rintro e w7 ⟨rfl, rfl⟩)
        | (go_at_call 16; (with_reducible refine (ZY.out _).mono ?_); rintro e w8 ⟨rfl, rfl⟩)
        | (go_at_call 32; (with_reducible refine (QN.out _).mono ?_); rintro e w9 ⟨rfl, rfl⟩)
        | (go_at_call 33; (with_reducible refine (IB.out _).mono ?_); rintro e w10 ⟨rfl, rfl⟩)
        | (go_at_call 12; (with_reducible refine (S1.out _ _).mono ?_); rintro e w11 ⟨rfl, rfl⟩)
        | (go_at_call 12; (with_reducible refine (S0.out _ _).mono ?_); rintro e w12 ⟨rfl, rfl⟩))
      go_ret2
      exact ⟨rfl, Below.refl _ _⟩
    · have e : r = (9221120237041090560, false, 0) := by rw [← hr, FT_bc hm (by rw [hb]), hb]; exact AT_nan hm (by omega) hz (by decide)
      subst e
      rw [x5] at NX
      rw [y5] at NY
      clear hr SUM SB hm hx hy hz z5 hb x5 y5
      generalize F.sgn x = sx at *
      generalize F.sgn y = sy at *
      generalize F.cls x = cx at *
      generalize F.cls y = cy at *
      generalize F.cls z = cz at *
      go_enter Tryz.func11, Tryz.ntmps11
      go_wp2_with (first
        | (go_at_call 13; (with_reducible refine (MX.out _).mono ?_); rintro e w1 ⟨rfl, rfl⟩)
        | (go_at_call 13; (with_reducible refine (MY.out _).mono ?_); rintro e w2 ⟨rfl, rfl⟩)
        | (go_at_call 30; (with_reducible refine (NX.out _).mono ?_); rintro e w3 ⟨rfl, rfl⟩)
        | (go_at_call 30; (with_reducible refine (NY.out _).mono ?_); rintro e w4 ⟨rfl, rfl⟩)
        | (go_at_call 30; (with_reducible refine (NZ.out _).mono ?_); rintro e w4 ⟨rfl, rfl⟩)
        | (go_at_call 31; (with_reducible refine (IX.out _).mono ?_); rintro e w5 ⟨rfl, rfl⟩)
        | (go_at_call 31; (with_reducible refine (IY.out _).mono ?_); rintro e w6 ⟨rfl, rfl⟩)
        | (go_at_call 31; (with_reducible refine (IZ.out _).mono ?_); rintro e w6 ⟨rfl, rfl⟩)
        | (go_at_call 16; (with_reducible refine (ZX.out _).mono ?_); rintro e w7 ⟨rfl, rfl⟩)
        | (go_at_call 16; (with_reducible refine (ZY.out _).mono ?_); rintro e w8 ⟨rfl, rfl⟩)
        | (go_at_call 32; (with_reducible refine (QN.out _).mono ?_); rintro e w9 ⟨rfl, rfl⟩)
        | (go_at_call 33; (with_reducible refine (IB.out _).mono ?_); rintro e w10 ⟨rfl, rfl⟩)
        | (go_at_call 12; (with_reducible refine (S1.out _ _).mono ?_); rintro e w11 ⟨rfl, rfl⟩)
        | (go_at_call 12; (with_reducible refine (S0.out _ _).mono ?_); rintro e w12 ⟨rfl, rfl⟩))
      go_ret2
      exact ⟨rfl, Below.refl _ _⟩
    · have e : r = (9221120237041090560, false, 0) := by rw [← hr, FT_bc hm (by rw [hb]), hb]; exact AT_nan hm (by omega) hz (by decide)
      subst e
      rw [x5] at NX
      rw [y5] at NY
      rw [x4] at IX
      rw [y1] at ZY
      clear hr SUM SB hm hx hy hz z5 hb x5 y5 x4 y1
      generalize F.sgn x = sx at *
      generalize F.sgn y = sy at *
      generalize F.cls x = cx at *
      generalize F.cls y = cy at *
      generalize F.cls z = cz at *
      go_enter Tryz.func11, Tryz.ntmps11
      go_wp2_with (first
        | (go_at_call 13; (with_reducible refine (MX.out _).mono ?_); rintro e w1 ⟨rfl, rfl⟩)
        | (go_at_call 13; (with_reducible refine (MY.out _).mono ?_); rintro e w2 ⟨rfl, rfl⟩)
        | (go_at_call 30; (with_reducible refine (NX.out _).mono ?_); rintro e w3 ⟨rfl, rfl⟩)
        | (go_at_call 30; (with_reducible refine (NY.out _).mono ?_); rintro e w4 ⟨rfl, rfl⟩)
        | (go_at_call 30; (with_reducible refine (NZ.out _).mono ?_); rintro e w4 ⟨rfl, rfl⟩)
        | (go_at_call 31; (with_reducible refine (IX.out _).mono ?_); rintro e w5 ⟨rfl, rfl⟩)
        | (go_at_call 31; (with_reducible refine (IY.out _).mono ?_); rintro e w6 ⟨rfl, rfl⟩)
        | (go_at_call 31; (with_reducible refine (IZ.out _).mono ?_); rintro e w6 ⟨rfl, rfl⟩)
        | (go_at_call 16; (with_reducible refine (ZX.out _).mono ?_); rintro e w7 ⟨rfl, rfl⟩)
        | (go_at_call 16; (with_reducible refine (ZY.out _).mono ?_); rintro e w8 ⟨rfl, rfl⟩)
        | (go_at_call 32; (with_reducible refine (QN.out _).mono ?_); rintro e w9 ⟨rfl, rfl⟩)
        | (go_at_call 33; (with_reducible refine (IB.out _).mono ?_); rintro e w10 ⟨rfl, rfl⟩)
        | (go_at_call 12; (with_reducible refine (S1.out _ _).mono ?_); rintro e w11 ⟨rfl, rfl⟩)
        | (go_at_call 12; (with_reducible refine (S0.out _ _).mono ?_); rintro e w12 ⟨rfl, rfl⟩))
      go_ret2
      exact ⟨rfl, Below.refl _ _⟩
    · have bb := bc_bd x y
      rw [hb] at bb
      have e : r = AT [sp x y + 9218868437227405312, z] mode := by rw [← hr, FT_bc hm (by rw [hb]), hb]
      obtain ⟨v, hv⟩ : ∃ v, sp x y + 9218868437227405312 = v := ⟨_, rfl⟩
      rw [hv] at bb e
      have SU := Lib.hid (SUM v bb)
      rw [← e] at SU
      have SBV : Hid (v = if (F.sgn x != F.sgn y) = true then 18442240474082181120 else 9218868437227405312) := by show _ = _; rw [← hv, SB.out]; split <;> rfl
      rw [x5] at NX
      rw [y5] at NY
      rw [x4] at IX
      rw [y1] at ZY
      rw [x1] at ZX
      clear hr SUM e bb hv SB hm hx hy hz z5 hb x5 y5 x4 y1 x1
      generalize F.sgn x = sx at *
      generalize F.sgn y = sy at *
      generalize F.cls x = cx at *
      generalize F.cls y = cy at *
      generalize F.cls z = cz at *
      cases sx <;> cases sy
      all_goals (
        have hs := SBV.out
        simp at hs
        subst hs
        clear SBV
        go_enter Tryz.func11, Tryz.ntmps11
        go_wp2_with (first
          | (go_at_call 13; (with_reducible refine (MX.out _).mono ?_); rintro e w1 ⟨rfl, rfl⟩)
          | (go_at_call 13; (with_reducible refine (MY.out _).mono ?_); rintro e w2 ⟨rfl, rfl⟩)
          | (go_at_call 30; (with_reducible refine (NX.out _).mono ?_); rintro e w3 ⟨rfl, rfl⟩)
          | (go_at_call 30; (with_reducible refine (NY.out _).mono ?_); rintro e w4 ⟨rfl, rfl⟩)
          | (go_at_call 30; (with_reducible refine (NZ.out _).mono ?_); rintro e w4 ⟨rfl, rfl⟩)
          | (go_at_call 31; (with_reducible refine (IX.out _).mono ?_); rintro e w5 ⟨rfl, rfl⟩)
          | (go_at_call 31; (with_reducible refine (IY.out _).mono ?_); rintro e w6 ⟨rfl, rfl⟩)
          | (go_at_call 31; (with_reducible refine (IZ.out _).mono ?_); rintro e w6 ⟨rfl, rfl⟩)
          | (go_at_call 16; (with_reducible refine (ZX.out _).mono ?_); rintro e w7 ⟨rfl, rfl⟩)
          | (go_at_call 16; (with_reducible refine (ZY.out _).mono ?_); rintro e w8 ⟨rfl, rfl⟩)
          | (go_at_call 32; (with_reducible refine (QN.out _).mono ?_); rintro e w9 ⟨rfl, rfl⟩)
          | (go_at_call 33; (with_reducible refine (IB.out _).mono ?_); rintro e w10 ⟨rfl, rfl⟩)
          | (go_at_call 12; (with_reducible refine (S1.out _ _).mono ?_); rintro e w11 ⟨rfl, rfl⟩)
          | (go_at_call 12; (with_reducible refine (S0.out _ _).mono ?_); rintro e w12 ⟨rfl, rfl⟩)
          | (go_at_call 19; (with_reducible refine (SU.out _).mono ?_); rintro e w20 ⟨rfl, hb⟩; have D := Lib.hid hb; clear hb))
        go_ret2
        exact ⟨rfl, D.out⟩)
    · have e : r = (9221120237041090560, false, 0) := by rw [← hr, FT_bc hm (by rw [hb]), hb]; exact AT_nan hm (by omega) hz (by decide)
      subst e
      rw [x5] at NX
      rw [y5] at NY
      rw [x4] at IX
      rw [x1] at ZX
      rw [y4] at IY
      clear hr SUM SB hm hx hy hz z5 hb x5 y5 x4 x1 y4
      generalize F.sgn x = sx at *
      generalize F.sgn y = sy at *
      generalize F.cls x = cx at *
      generalize F.cls y = cy at *
      generalize F.cls z = cz at *
      go_enter Tryz.func11, Tryz.ntmps11
      go_wp2_with (first
        | (go_at_call 13; (with_reducible refine (MX.out _).mono ?_); rintro e w1 ⟨rfl, rfl⟩)
        | (go_at_call 13; (with_reducible refine (MY.out _).mono ?_); rintro e w2 ⟨rfl, rfl⟩)
        | (go_at_call 30; (with_reducible refine (NX.out _).mono ?_); rintro e w3 ⟨rfl, rfl⟩)
        | (go_at_call 30; (with_reducible refine (NY.out _).mono ?_); rintro e w4 ⟨rfl, rfl⟩)
        | (go_at_call 30; (with_reducible refine (NZ.out _).mono ?_); rintro e w4 ⟨rfl, rfl⟩)
        | (go_at_call 31; (with_reducible refine (IX.out _).mono ?_); rintro e w5 ⟨rfl, rfl⟩)
        | (go_at_call 31; (with_reducible refine (IY.out _).mono ?_); rintro e w6 ⟨rfl, rfl⟩)
        | (go_at_call 31; (with_reducible refine (IZ.out _).mono ?_); rintro e w6 ⟨rfl, rfl⟩)
        | (go_at_call 16; (with_reducible refine (ZX.out _).mono ?_); rintro e w7 ⟨rfl, rfl⟩)
        | (go_at_call 16; (with_reducible refine (ZY.out _).mono ?_); rintro e w8 ⟨rfl, rfl⟩)
        | (go_at_call 32; (with_reducible refine (QN.out _).mono ?_); rintro e w9 ⟨rfl, rfl⟩)
        | (go_at_call 33; (with_reducible refine (IB.out _).mono ?_); rintro e w10 ⟨rfl, rfl⟩)
        | (go_at_call 12; (with_reducible refine (S1.out _ _).mono ?_); rintro e w11 ⟨rfl, rfl⟩)
        | (go_at_call 12; (with_reducible refine (S0.out _ _).mono ?_); rintro e w12 ⟨rfl, rfl⟩))
      go_ret2
      exact ⟨rfl, Below.refl _ _⟩
    · have bb := bc_bd x y
      rw [hb] at bb
      have e : r = AT [sp x y + 9218868437227405312, z] mode := by rw [← hr, FT_bc hm (by rw [hb]), hb]
      obtain ⟨v, hv⟩ : ∃ v, sp x y + 9218868437227405312 = v := ⟨_, rfl⟩
      rw [hv] at bb e
      have SU := Lib.hid (SUM v bb)
      rw [← e] at SU
      have SBV : Hid (v = if (F.sgn x != F.sgn y) = true then 18442240474082181120 else 9218868437227405312) := by show _ = _; rw [← hv, SB.out]; split <;> rfl
      rw [x5] at NX
      rw [y5] at NY
      rw [x4] at IX
      rw [x1] at ZX
      rw [y4] at IY
      clear hr SUM e bb hv SB hm hx hy hz z5 hb x5 y5 x4 x1 y4
      generalize F.sgn x = sx at *
      generalize F.sgn y = sy at *
      generalize F.cls x = cx at *
      generalize F.cls y = cy at *
      generalize F.cls z = cz at *
      cases sx <;> cases sy
      all_goals (
        have hs := SBV.out
        simp at hs
        subst hs
        clear SBV
        go_enter Tryz.func11, Tryz.ntmps11
        go_wp2_with (first
          | (go_at_call 13; (with_reducible refine (MX.out _).mono ?_); rintro e w1 ⟨rfl, rfl⟩)
          | (go_at_call 13; (with_reducible refine (MY.out _).mono ?_); rintro e w2 ⟨rfl, rfl⟩)
          | (go_at_call 30; (with_reducible refine (NX.out _).mono ?_); rintro e w3 ⟨rfl, rfl⟩)
          | (go_at_call 30; (with_reducible refine (NY.out _).mono ?_); rintro e w4 ⟨rfl, rfl⟩)
          | (go_at_call 30; (with_reducible refine (NZ.out _).mono ?_); rintro e w4 ⟨rfl, rfl⟩)
          | (go_at_call 31; (with_reducible refine (IX.out _).mono ?_); rintro e w5 ⟨rfl, rfl⟩)
          | (go_at_call 31; (with_reducible refine (IY.out _).mono ?_); rintro e w6 ⟨rfl, rfl⟩)
          | (go_at_call 31; (with_reducible refine (IZ.out _).mono ?_); rintro e w6 ⟨rfl, rfl⟩)
          | (go_at_call 16; (with_reducible refine (ZX.out _).mono ?_); rintro e w7 ⟨rfl, rfl⟩)
          | (go_at_call 16; (with_reducible refine (ZY.out _).mono ?_); rintro e w8 ⟨rfl, rfl⟩)
          | (go_at_call 32; (with_reducible refine (QN.out _).mono ?_); rintro e w9 ⟨rfl, rfl⟩)
          | (go_at_call 33; (with_reducible refine (IB.out _).mono ?_); rintro e w10 ⟨rfl, rfl⟩)
          | (go_at_call 12; (with_reducible refine (S1.out _ _).mono ?_); rintro e w11 ⟨rfl, rfl⟩)
          | (go_at_call 12; (with_reducible refine (S0.out _ _).mono ?_); rintro e w12 ⟨rfl, rfl⟩)
          | (go_at_call 19; (with_reducible refine (SU.out _).mono ?_); rintro e w20 ⟨rfl, hb⟩; have D := Lib.hid hb; clear hb))
        go_ret2
        exact ⟨rfl, D.out⟩)
    · have fx := fi_b hx x5 x4
      have fy := fi_b hy y5 y4
      rw [x5] at NX
      rw [y5] at NY
      rw [x4] at IX
      rw [y4] at IY
      rw [x1] at ZX
      by_cases z4 : F.cls z = 4
      · have e := FT_iz hm fx fy hz z4
        rw [hr] at e
        subst e
        rw [z4] at IZ
        clear hr SUM SB hm hx hy hz z5 hb z4 fx fy x5 y5 x4 y4 x1
        generalize F.sgn x = sx at *
        generalize F.sgn y = sy at *
        generalize F.cls x = cx at *
        generalize F.cls y = cy at *
        go_enter Tryz.func11, Tryz.ntmps11
        go_wp2_with (first
          | (go_at_call 13; (with_reducible refine (MX.out _).mono ?_); rintro e w1 ⟨rfl, rfl⟩)
          | (go_at_call 13; (with_reducible refine (MY.out _).mono ?_); rintro e w2 ⟨rfl, rfl⟩)
          | (go_at_call 30; (with_reducible refine (NX.out _).mono ?_); rintro e w3 ⟨rfl, rfl⟩)
          | (go_at_call 30; (with_reducible refine (NY.out _).mono ?_); rintro e w4 ⟨rfl, rfl⟩)
          | (go_at_call 30; (with_reducible refine (NZ.out _).mono ?_); rintro e w4 ⟨rfl, rfl⟩)
          | (go_at_call 31; (with_reducible refine (IX.out _).mono ?_); rintro e w5 ⟨rfl, rfl⟩)
          | (go_at_call 31; (with_reducible refine (IY.out _).mono ?_); rintro e w6 ⟨rfl, rfl⟩)
          | (go_at_call 31; (with_reducible refine (IZ.out _).mono ?_); rintro e w6 ⟨rfl, rfl⟩)
          | (go_at_call 16; (with_reducible refine (ZX.out _).mono ?_); rintro e w7 ⟨rfl, rfl⟩)
          | (go_at_call 16; (with_reducible refine (ZY.out _).mono ?_); rintro e w8 ⟨rfl, rfl⟩)
          | (go_at_call 32; (with_reducible refine (QN.out _).mono ?_); rintro e w9 ⟨rfl, rfl⟩)
          | (go_at_call 33; (with_reducible refine (IB.out _).mono ?_); rintro e w10 ⟨rfl, rfl⟩)
          | (go_at_call 12; (with_reducible refine (S1.out _ _).mono ?_); rintro e w11 ⟨rfl, rfl⟩)
          | (go_at_call 12; (with_reducible refine (S0.out _ _).mono ?_); rintro e w12 ⟨rfl, rfl⟩))
        go_ret2
        exact ⟨rfl, Below.refl _ _⟩
      · have z4' : (F.cls z == 4) = false := beq_eq_false_iff_ne.2 z4
        rw [z4'] at IZ
        have fz : fi z := ⟨hz.1, hz.2, cls_fi.1 ⟨z5, z4⟩⟩
        have fv := FT_val (mode := mode) hm fx fy fz
        rw [hr] at fv
        obtain ⟨okf, ev, v1, v2, v3⟩ := fv
        have ff := fd_p fx fy fz
        have LIM : Hid (∀ K : Int, K = 2056 → S (PD x y).d + val z ≤ sc 1 K ∧ -(sc 1 K) ≤ S (PD x y).d + val z) := fun K hK => by rw [← ev]; exact fit_k ff.1 (by omega) hK
        have QVx : Hid (∀ (W : World), Calls Tryz.prog 35 #[.int .u64 x] W (RetSF 2200 1100 W (val x))) := fun W => QVal_v x W fx
        have QVy : Hid (∀ (W : World), Calls Tryz.prog 35 #[.int .u64 y] W (RetSF 2200 1100 W (val y))) := fun W => QVal_v y W fy
        have QVz : Hid (∀ (W : World), Calls Tryz.prog 35 #[.int .u64 z] W (RetSF 2200 1100 W (val z))) := fun W => QVal_v z W fz
        have QM : Hid (∀ (W : World) (u v : Value), QS 2200 1100 W u (val x) → QS 2200 1100 W v (val y) → Calls Tryz.prog 34 #[u, v] W (RetS 4400 2200 W (S (PD x y).d))) := fun W u v h3 h4 => QMul_pd fx fy h3 h4
        have QA : Hid (∀ (W : World) (u v : Value), QS 4400 2200 W u (S (PD x y).d) → QS 2200 1100 W v (val z) → Calls Tryz.prog 36 #[u, v] W (RetSF 4400 2200 W (S (fd x y z)))) := fun W u v h1 h2 => by rw [ev]; exact QAdd_p rfl h1 (h2.mono2 (by omega) (by omega)) (LIM.out 2056 rfl)
        have C0 : Hid (∀ (W : World) (u : Value) (s : Int), QS 4400 2200 W u s → Calls Tryz.prog 37 #[u, .agg #[.bool false, .slice none 0 0, .int .i64 0]] W fun e w' => e = .returned (.int .i64 (cmpv s 0)) ∧ Below W.heap.size W w') := fun W u s h => QCmp_s h (qs_zero W) (by omega) (by omega) (by omega) (by omega)
        have RO : Hid (∀ (W : World) (u : Value), QS 4400 2200 W u (S (fd x y z)) → Calls Tryz.prog 17 #[u, .int .i64 0, .int .i64 mode] W fun e w' => e = .returned (.tuple #[.int .u64 (TX (fd x y z) mode), .bool (TL (fd x y z) mode)]) ∧ Below W.heap.size W w') := fun W u h => Rounded_t h (by omega) (by omega) okf hm
        have SU : Hid (∀ W : World, Calls Tryz.prog 19 #[.slice (some ⟨W.heap.size, 0, none⟩) 2 2, .int .i64 mode] (W.alloc (.cells #[.int .u64 (sp x y), .int .u64 z] 22)) fun e w' => e = .returned (.tuple #[.int .u64 (AT [sp x y, z] mode).1, .bool (AT [sp x y, z] mode).2.1]) ∧ Below W.heap.size W w') := SUM _ (by rcases sp2 x y with h | h <;> rw [h] <;> omega)
        generalize TX (fd x y z) mode = tx at *
        generalize TL (fd x y z) mode = tl at *
        generalize S (fd x y z) = sf at *
        generalize AT [sp x y, z] mode = at' at *
        generalize S (PD x y).d = sd at *
        generalize val x = vx at *
        generalize val y = vy at *
        generalize val z = vz at *
        generalize sp x y = s at *
        have V1 := Lib.hid v1
        have V2 := Lib.hid v2
        have V3 := Lib.hid v3
        clear hr SUM hm hx hy hz z5 hb z4 z4' fx fy fz okf ev ff v1 v2 v3 LIM x5 y5 x4 y4 x1
        generalize F.sgn x = sx at *
        generalize F.sgn y = sy at *
        generalize F.cls x = cx at *
        generalize F.cls y = cy at *
        generalize F.cls z = cz at *
        go_enter Tryz.func11, Tryz.ntmps11
        go_upto_region 9 with (first
          | (go_at_call 13; (with_reducible refine (MX.out _).mono ?_); rintro e w1 ⟨rfl, rfl⟩)
          | (go_at_call 13; (with_reducible refine (MY.out _).mono ?_); rintro e w2 ⟨rfl, rfl⟩)
          | (go_at_call 30; (with_reducible refine (NX.out _).mono ?_); rintro e w3 ⟨rfl, rfl⟩)
          | (go_at_call 30; (with_reducible refine (NY.out _).mono ?_); rintro e w4 ⟨rfl, rfl⟩)
          | (go_at_call 30; (with_reducible refine (NZ.out _).mono ?_); rintro e w4 ⟨rfl, rfl⟩)
          | (go_at_call 31; (with_reducible refine (IX.out _).mono ?_); rintro e w5 ⟨rfl, rfl⟩)
          | (go_at_call 31; (with_reducible refine (IY.out _).mono ?_); rintro e w6 ⟨rfl, rfl⟩)
          | (go_at_call 31; (with_reducible refine (IZ.out _).mono ?_); rintro e w6 ⟨rfl, rfl⟩)
          | (go_at_call 16; (with_reducible refine (ZX.out _).mono ?_); rintro e w7 ⟨rfl, rfl⟩)
          | (go_at_call 16; (with_reducible refine (ZY.out _).mono ?_); rintro e w8 ⟨rfl, rfl⟩)
          | (go_at_call 32; (with_reducible refine (QN.out _).mono ?_); rintro e w9 ⟨rfl, rfl⟩)
          | (go_at_call 33; (with_reducible refine (IB.out _).mono ?_); rintro e w10 ⟨rfl, rfl⟩)
          | (go_at_call 12; (with_reducible refine (S1.out _ _).mono ?_); rintro e w11 ⟨rfl, rfl⟩)
          | (go_at_call 12; (with_reducible refine (S0.out _ _).mono ?_); rintro e w12 ⟨rfl, rfl⟩)
          | (go_at_call 35; (with_reducible refine (QVx.out _).mono ?_); rintro e w13 ⟨b1, A1, n1, c1, t1, z1, rfl, r1, r2, r3, r4, r5, r6, hb⟩; have Q1 := Lib.hid (RetS.qs r1 r2 r3 r4 r5); have D := Lib.hid hb; clear r1 r2 r3 r4 r5 r6 hb)
          | (go_at_call 35; (with_reducible refine (QVy.out _).mono ?_); rintro e w14 ⟨b2, A2, n2, c2, t2, z2, rfl, r1, r2, r3, r4, r5, r6, hb⟩; have Q1 := Lib.hid (Q1.out.below hb); have Q2 := Lib.hid (RetS.qs r1 r2 r3 r4 r5); have D := Lib.hid (D.out.trans (hb.mono D.out.size)); clear r1 r2 r3 r4 r5 r6 hb)
          | (go_at_call 34; (with_reducible refine (QM.out _ _ _ Q1.out Q2.out).mono ?_); rintro e w15 ⟨b3, A3, n3, c3, t3, z3, rfl, r1, r2, r3, r4, r5, hb⟩; have Q3 := Lib.hid (RetS.qs r1 r2 r3 r4 r5); have D := Lib.hid (D.out.trans (hb.mono D.out.size)); clear r1 r2 r3 r4 r5 hb))
        have DY := al1 w15 (.cells #[.bool b3, .slice A3 n3 c3, .int .i64 t3] 41)
        have Y2 := Blk.new w15 41 #[.bool b3, .slice A3 n3 c3, .int .i64 t3]
        have V9 := Q3.out.below DY
        have D3 := D.out.trans (DY.mono D.out.size)
        obtain ⟨W3, hW3⟩ : ∃ W3, w15.alloc (.cells #[.bool b3, .slice A3 n3 c3, .int .i64 t3] 41) = W3 := ⟨_, rfl⟩
        obtain ⟨g2, hg2⟩ : ∃ g2, w15.heap.size = g2 := ⟨_, rfl⟩
        rw [hW3] at DY Y2 V9 D3 ⊢
        rw [hg2] at Y2 ⊢
        have KP : Hid (∀ W, Below W3.heap.size W3 W → (W.cell? ⟨g2, 0, none⟩ = some (.bool b3) ∧ W.cell? ⟨g2, 1, none⟩ = some (.slice A3 n3 c3) ∧ W.cell? ⟨g2, 2, none⟩ = some (.int .i64 t3)) ∧ QS 4400 2200 W (.agg #[.bool b3, .slice A3 n3 c3, .int .i64 t3]) sd) := fun W hW => ⟨⟨(Y2.below hW Y2.lt).at_ 0 rfl, (Y2.below hW Y2.lt).at_ 1 rfl, (Y2.below hW Y2.lt).at_ 2 rfl⟩, V9.below hW⟩
        have D3 := Lib.hid D3
        clear hW3 hg2 DY Y2 V9 D Q1 Q2 Q3
        go_cut [12] (fun s12 wx => ∃ g b A n c t, s12 = .pointer (some ⟨g, 0, none⟩) ∧ Hid (Blk wx g 41 #[.bool b, .slice A n c, .int .i64 t] ∧ QS 4400 2200 wx (.agg #[.bool b, .slice A n c, .int .i64 t]) sf ∧ Below W3.heap.size W3 wx))
        case first =>
          have D : Below W3.heap.size W3 W3.drew := (Below.refl _ _).drew
          (refine wp_region_L (S := fun w' => w'.cell? ⟨g2, 0, none⟩ = some (.bool b3) ∧ w'.cell? ⟨g2, 1, none⟩ = some (.slice A3 n3 c3) ∧ w'.cell? ⟨g2, 2, none⟩ = some (.int .i64 t3)) (nl := 1000000) (by kernel_rfl) ?_ (fun hHeld => ?_); focus (exact (KP.out _ D).1))
          (refine wpAnyL_take (i := 0) (oi := _) (v := ?_) rfl (by kernel_rfl) (by kernel_rfl) (by kernel_rfl) (fun _ _ _ h => h) (Or.inl ⟨by first | rfl | kernel_rfl, ?hy1⟩) (by assumption) ?rs1; (case hy1 => (intro w hSw; (try dsimp only at hSw); go_simp; first | done | with_reducible rfl)); case' rs1 => (simp only [List.getElem_toArray, List.getElem_cons_zero, List.getElem_cons_succ, Act.put, List.setIfInBounds_toArray, List.set_cons_zero, List.set_cons_succ])); (refine wpAnyL_take (i := 1) (oi := _) (v := ?_) rfl (by kernel_rfl) (by kernel_rfl) (by kernel_rfl) (fun _ _ _ h => h) (Or.inl ⟨by first | rfl | kernel_rfl, ?hy2⟩) (by assumption) ?rs2; (case hy2 => (intro w hSw; (try dsimp only at hSw); go_simp; first | done | with_reducible rfl)); case' rs2 => (simp only [List.getElem_toArray, List.getElem_cons_zero, List.getElem_cons_succ, Act.put, List.setIfInBounds_toArray, List.set_cons_zero, List.set_cons_succ])); skip
          refine wpAnyL_two (i := 2) (j := 4) (oi := _) (oj := _) (by kernel_rfl) rfl rfl (fun K hK => ?_) (fun K hK => ?_)
          · (clear hHeld; simp only [List.getElem_toArray, List.getElem_cons_zero, List.getElem_cons_succ]; go_simp; (go_at_call 35; (with_reducible refine (QVz.out _).mono ?_); rintro e w4 ⟨b4, A4, n4, c4, t4, z4, rfl, r1, r2, r3, r4, r5, r6, hb⟩; have Q4 := Lib.hid (RetS.qs r1 r2 r3 r4 r5); have D := D.trans (hb.mono D.size); clear r1 r2 r3 r4 r5 r6 hb); refine hK.out _ _ ?_ (fun hHeld => ?_); focus (intro _; exact (KP.out _ D).1)); have hHeld := hHeld (by decide); clear hK K; (try simp only [Act.put, List.setIfInBounds_toArray, List.set_cons_zero, List.set_cons_succ])
            refine wpAnyL_two (i := 3) (j := 4) (oi := _) (oj := _) (by kernel_rfl) rfl rfl (fun K hK => ?_) (fun K hK => ?_)
            · (clear hHeld; simp only [List.getElem_toArray, List.getElem_cons_zero, List.getElem_cons_succ]; go_simp; (go_at_call 36; (with_reducible refine (QA.out _ _ _ (KP.out _ D).2 Q4.out).mono ?_); rintro e w5 ⟨b5, A5, n5, c5, t5, z5, rfl, r1, r2, r3, r4, r5, r6, hb5⟩; have D := D.trans (hb5.mono D.size)); refine hK.out _ _ ?_ (fun hHeld => ?_); focus (intro _; exact (KP.out _ D).1)); have hHeld := hHeld (by decide); clear hK K; (try simp only [Act.put, List.setIfInBounds_toArray, List.set_cons_zero, List.set_cons_succ])
              (refine wpAnyL_one (i := 4) (o := _) (by kernel_rfl) rfl (fun K hK => ?_); clear hHeld; simp only [List.getElem_toArray, List.getElem_cons_zero, List.getElem_cons_succ]; go_simp; refine hK.out _ _ ?_ (fun hHeld => ?_); focus (intro _; exact (KP.out _ (D.alloc D.size _)).1)); have hHeld := hHeld (by decide); clear hK K; (try simp only [Act.put, List.setIfInBounds_toArray, List.set_cons_zero, List.set_cons_succ])
              have X := Lib.hid (And.intro (Blk.new w5 41 #[.bool b5, .slice A5 n5 c5, .int .i64 t5]) (And.intro ((RetS.qs r1 r2 r3 r4 r5).below (al1 w5 (.cells #[.bool b5, .slice A5 n5 c5, .int .i64 t5] 41))) (D.alloc D.size (.cells #[.bool b5, .slice A5 n5 c5, .int .i64 t5] 41))))
              clear hHeld r1 r2 r3 r4 r5 r6 hb5 D
              (refine wpAnyL_one (i := 5) (o := _) (by kernel_rfl) rfl (fun K hK => ?_); clear hHeld; simp only [List.getElem_toArray, List.getElem_cons_zero, List.getElem_cons_succ]; go_simp; refine hK.out _ _ ?_ (fun hHeld => ?_); focus (intro _; exact (KP.out _ X.out.2.2).1)); have hHeld := hHeld (by decide); clear hK K; (try simp only [Act.put, List.setIfInBounds_toArray, List.set_cons_zero, List.set_cons_succ])
              refine wpAnyL_done (by kernel_rfl) ?_ _
              go_wp2
              go_meet
              exact ⟨_, _, _, _, _, _, rfl, X.out.1, X.out.2.1, X.out.2.2⟩
            · (clear hHeld; simp only [List.getElem_toArray, List.getElem_cons_zero, List.getElem_cons_succ]; go_simp; refine hK.out _ _ ?_ (fun hHeld => ?_); focus (intro _; exact (KP.out _ (D.alloc D.size _)).1)); have hHeld := hHeld (by decide); clear hK K; (try simp only [Act.put, List.setIfInBounds_toArray, List.set_cons_zero, List.set_cons_succ])
              have R := Blk.new w4 41 #[.bool false, .slice none 0 0, .int .i64 0]
              have Q4 := Lib.hid (Q4.out.below (al1 w4 (.cells #[.bool false, .slice none 0 0, .int .i64 0] 41)))
              have hg := D.size
              have D := D.alloc D.size (.cells #[.bool false, .slice none 0 0, .int .i64 0] 41)
              (refine wpAnyL_one (i := 3) (o := _) (by kernel_rfl) rfl (fun K hK => ?_); clear hHeld; simp only [List.getElem_toArray, List.getElem_cons_zero, List.getElem_cons_succ]; go_simp; (go_at_call 36; (with_reducible refine (QA.out _ _ _ (KP.out _ D).2 Q4.out).mono ?_); rintro e w5 ⟨b5, A5, n5, c5, t5, z5, rfl, r1, r2, r3, r4, r5, r6, hb5⟩; have hgl := R.lt; have D := D.trans (hb5.mono D.size); have R := R.below hb5 R.lt); refine hK.out _ _ ?_ (fun hHeld => ?_); focus (intro _; exact (KP.out _ D).1)); have hHeld := hHeld (by decide); clear hK K; (try simp only [Act.put, List.setIfInBounds_toArray, List.set_cons_zero, List.set_cons_succ])
              have f0 := R.frozen 0; have f1 := R.frozen 1; have f2 := R.frozen 2; have t0 := R.at_ 0 rfl; have t1 := R.at_ 1 rfl; have t2 := R.at_ 2 rfl
              have X := Lib.hid (And.intro (blk3 R (.bool b5) (.slice A5 n5 c5) (.int .i64 t5)) (And.intro (show QS 4400 2200 _ _ sf from ⟨z5, t5, ⟨b5, A5, n5, c5, rfl, QC.set3 r1 (off_new r6 hgl) (.bool b5) (.slice A5 n5 c5) (.int .i64 t5)⟩, r2, r3, r4, r5⟩) (below3q D hg (.bool b5) (.slice A5 n5 c5) (.int .i64 t5))))
              clear hHeld R r1 r2 r3 r4 r5 r6 hb5 D
              (refine wpAnyL_one (i := 5) (o := _) (by kernel_rfl) rfl (fun K hK => ?_); clear hHeld; simp only [List.getElem_toArray, List.getElem_cons_zero, List.getElem_cons_succ]; go_simp; refine hK.out _ _ ?_ (fun hHeld => ?_); focus (intro _; exact (KP.out _ X.out.2.2).1)); have hHeld := hHeld (by decide); clear hK K; (try simp only [Act.put, List.setIfInBounds_toArray, List.set_cons_zero, List.set_cons_succ])
              refine wpAnyL_done (by kernel_rfl) ?_ _
              go_wp2
              go_meet
              exact ⟨_, _, _, _, _, _, rfl, X.out.1, X.out.2.1, X.out.2.2⟩
          · (clear hHeld; simp only [List.getElem_toArray, List.getElem_cons_zero, List.getElem_cons_succ]; go_simp; refine hK.out _ _ ?_ (fun hHeld => ?_); focus (intro _; exact (KP.out _ ((Below.refl _ _).drew.alloc (Nat.le_refl _) _)).1)); have hHeld := hHeld (by decide); clear hK K; (try simp only [Act.put, List.setIfInBounds_toArray, List.set_cons_zero, List.set_cons_succ])
            have R := Blk.drew (Blk.new W3 41 #[.bool false, .slice none 0 0, .int .i64 0])
            have hg := Nat.le_refl W3.heap.size
            have D : Below W3.heap.size W3 (W3.alloc (.cells #[.bool false, .slice none 0 0, .int .i64 0] 41)).drew := ((Below.refl _ _).alloc (Nat.le_refl _) _).drew
            (refine wpAnyL_one (i := 2) (o := _) (by kernel_rfl) rfl (fun K hK => ?_); clear hHeld; simp only [List.getElem_toArray, List.getElem_cons_zero, List.getElem_cons_succ]; go_simp; (go_at_call 35; (with_reducible refine (QVz.out _).mono ?_); rintro e w4 ⟨b4, A4, n4, c4, t4, z4, rfl, r1, r2, r3, r4, r5, r6, hb⟩; have Q4 := Lib.hid (RetS.qs r1 r2 r3 r4 r5); have D := D.trans (hb.mono D.size); have R := R.below hb R.lt; clear r1 r2 r3 r4 r5 r6 hb); refine hK.out _ _ ?_ (fun hHeld => ?_); focus (intro _; exact (KP.out _ D).1)); have hHeld := hHeld (by decide); clear hK K; (try simp only [Act.put, List.setIfInBounds_toArray, List.set_cons_zero, List.set_cons_succ])
            (refine wpAnyL_one (i := 3) (o := _) (by kernel_rfl) rfl (fun K hK => ?_); clear hHeld; simp only [List.getElem_toArray, List.getElem_cons_zero, List.getElem_cons_succ]; go_simp; (go_at_call 36; (with_reducible refine (QA.out _ _ _ (KP.out _ D).2 Q4.out).mono ?_); rintro e w5 ⟨b5, A5, n5, c5, t5, z5, rfl, r1, r2, r3, r4, r5, r6, hb5⟩; have hgl := R.lt; have D := D.trans (hb5.mono D.size); have R := R.below hb5 R.lt); refine hK.out _ _ ?_ (fun hHeld => ?_); focus (intro _; exact (KP.out _ D).1)); have hHeld := hHeld (by decide); clear hK K; (try simp only [Act.put, List.setIfInBounds_toArray, List.set_cons_zero, List.set_cons_succ])
            have f0 := R.frozen 0; have f1 := R.frozen 1; have f2 := R.frozen 2; have t0 := R.at_ 0 rfl; have t1 := R.at_ 1 rfl; have t2 := R.at_ 2 rfl
            have X := Lib.hid (And.intro (blk3 R (.bool b5) (.slice A5 n5 c5) (.int .i64 t5)) (And.intro (show QS 4400 2200 _ _ sf from ⟨z5, t5, ⟨b5, A5, n5, c5, rfl, QC.set3 r1 (off_new r6 hgl) (.bool b5) (.slice A5 n5 c5) (.int .i64 t5)⟩, r2, r3, r4, r5⟩) (below3q D hg (.bool b5) (.slice A5 n5 c5) (.int .i64 t5))))
            clear hHeld R r1 r2 r3 r4 r5 r6 hb5 D
            (refine wpAnyL_one (i := 5) (o := _) (by kernel_rfl) rfl (fun K hK => ?_); clear hHeld; simp only [List.getElem_toArray, List.getElem_cons_zero, List.getElem_cons_succ]; go_simp; refine hK.out _ _ ?_ (fun hHeld => ?_); focus (intro _; exact (KP.out _ X.out.2.2).1)); have hHeld := hHeld (by decide); clear hK K; (try simp only [Act.put, List.setIfInBounds_toArray, List.set_cons_zero, List.set_cons_succ])
            refine wpAnyL_done (by kernel_rfl) ?_ _
            go_wp2
            go_meet
            exact ⟨_, _, _, _, _, _, rfl, X.out.1, X.out.2.1, X.out.2.2⟩
        case rest =>
          obtain ⟨g, b, A, n, c, t, rfl, XQ⟩ := hcut
          have q0 := XQ.out.1.at_ 0 rfl
          have q1 := XQ.out.1.at_ 1 rfl
          have q2 := XQ.out.1.at_ 2 rfl
          rcases cmp0 sf with ⟨e1, e2⟩ | ⟨e1, -, e2⟩
          · rw [e2] at e1
            rcases cmp0 sd with ⟨e3, e4⟩ | ⟨-, e3, e4⟩
            · have e := V2.out e2 e4
              subst e
              rw [e4] at e3
              subst e2
              subst e4
              clear V1 V2 V3
              cases sx <;> cases sy
              all_goals (
                have hs := SB.out
                simp at hs
                subst hs
                go_wp2_with (first
                  | (go_at_call 37; (with_reducible refine (C0.out _ _ _ XQ.out.2.1).mono ?_); rintro e w21 ⟨rfl, hb⟩; have KQ := Lib.hid (XQ.out.1.below hb XQ.out.1.lt); have q0 := KQ.out.at_ 0 rfl; have q1 := KQ.out.at_ 1 rfl; have q2 := KQ.out.at_ 2 rfl; have XQ2 := Lib.hid (XQ.out.2.1.below hb); have D := Lib.hid (XQ.out.2.2.trans (hb.mono XQ.out.2.2.size)); obtain ⟨⟨k0, k1, k2⟩, kq⟩ := KP.out _ D.out; clear hb)
                  | (go_at_call 37; (with_reducible refine (C0.out _ _ _ kq).mono ?_); rintro e w22 ⟨rfl, hb⟩; have D := Lib.hid (D.out.trans (hb.mono D.out.size)); clear hb)
                  | (go_at_call 12; (with_reducible refine (S0.out _ _).mono ?_); rintro e w24 ⟨rfl, rfl⟩)
                  | (go_at_call 19; (with_reducible refine (SU.out _).mono ?_); rintro e w25 ⟨rfl, hb⟩; have D := Lib.hid (D.out.trans (hb.mono D.out.size)); clear hb))
                go_ret2
                exact ⟨rfl, D3.out.trans (D.out.mono D3.out.size)⟩)
            · have e := V3.out e2 e4
              subst e2
              clear V1 V2 V3 e4 SU SB
              by_cases hm2 : mode = 2
              · rw [if_pos hm2] at e
                subst e
                subst hm2
                go_wp2_with (first
                  | (go_at_call 37; (with_reducible refine (C0.out _ _ _ XQ.out.2.1).mono ?_); rintro e w21 ⟨rfl, hb⟩; have KQ := Lib.hid (XQ.out.1.below hb XQ.out.1.lt); have q0 := KQ.out.at_ 0 rfl; have q1 := KQ.out.at_ 1 rfl; have q2 := KQ.out.at_ 2 rfl; have XQ2 := Lib.hid (XQ.out.2.1.below hb); have D := Lib.hid (XQ.out.2.2.trans (hb.mono XQ.out.2.2.size)); obtain ⟨⟨k0, k1, k2⟩, kq⟩ := KP.out _ D.out; clear hb)
                  | (go_at_call 37; (with_reducible refine (C0.out _ _ _ kq).mono ?_); rintro e w22 ⟨rfl, hb⟩; have D := Lib.hid (D.out.trans (hb.mono D.out.size)); clear hb)
                  | (go_at_call 12; (with_reducible refine (S0.out _ _).mono ?_); rintro e w24 ⟨rfl, rfl⟩))
                go_ret2
                exact ⟨rfl, D3.out.trans (D.out.mono D3.out.size)⟩
              · have t2 : (mode == 2) = false := by simp [hm2]
                rw [if_neg hm2] at e
                subst e
                clear hm2
                go_wp2_with (first
                  | (go_at_call 37; (with_reducible refine (C0.out _ _ _ XQ.out.2.1).mono ?_); rintro e w21 ⟨rfl, hb⟩; have KQ := Lib.hid (XQ.out.1.below hb XQ.out.1.lt); have q0 := KQ.out.at_ 0 rfl; have q1 := KQ.out.at_ 1 rfl; have q2 := KQ.out.at_ 2 rfl; have XQ2 := Lib.hid (XQ.out.2.1.below hb); have D := Lib.hid (XQ.out.2.2.trans (hb.mono XQ.out.2.2.size)); obtain ⟨⟨k0, k1, k2⟩, kq⟩ := KP.out _ D.out; clear hb)
                  | (go_at_call 37; (with_reducible refine (C0.out _ _ _ kq).mono ?_); rintro e w22 ⟨rfl, hb⟩; have D := Lib.hid (D.out.trans (hb.mono D.out.size)); clear hb)
                  | (go_at_call 12; (with_reducible refine (S0.out _ _).mono ?_); rintro e w24 ⟨rfl, rfl⟩))
                go_ret2
                exact ⟨rfl, D3.out.trans (D.out.mono D3.out.size)⟩
          · have e := V1.out e2
            subst e
            clear V1 V2 V3 e2 SU SB
            go_wp2_with (first
              | (go_at_call 37; (with_reducible refine (C0.out _ _ _ XQ.out.2.1).mono ?_); rintro e w21 ⟨rfl, hb⟩; have KQ := Lib.hid (XQ.out.1.below hb XQ.out.1.lt); have q0 := KQ.out.at_ 0 rfl; have q1 := KQ.out.at_ 1 rfl; have q2 := KQ.out.at_ 2 rfl; have XQ2 := Lib.hid (XQ.out.2.1.below hb); have D := Lib.hid (XQ.out.2.2.trans (hb.mono XQ.out.2.2.size)); obtain ⟨⟨k0, k1, k2⟩, kq⟩ := KP.out _ D.out; clear hb)
              | (go_at_call 17; (with_reducible refine (RO.out _ _ XQ2.out).mono ?_); rintro e w23 ⟨rfl, hb⟩; have D := Lib.hid (D.out.trans (hb.mono D.out.size)); clear hb))
            go_ret2
            exact ⟨rfl, D3.out.trans (D.out.mono D3.out.size)⟩
    · have fx := fi_b hx x5 x4
      have fy := fi_b hy y5 y4
      rw [x5] at NX
      rw [y5] at NY
      rw [x4] at IX
      rw [y4] at IY
      rw [x1] at ZX
      by_cases z4 : F.cls z = 4
      · have e := FT_iz hm fx fy hz z4
        rw [hr] at e
        subst e
        rw [z4] at IZ
        clear hr SUM SB hm hx hy hz z5 hb z4 fx fy x5 y5 x4 y4 x1 y1
        generalize F.sgn x = sx at *
        generalize F.sgn y = sy at *
        generalize F.cls x = cx at *
        generalize F.cls y = cy at *
        go_enter Tryz.func11, Tryz.ntmps11
        go_wp2_with (first
          | (go_at_call 13; (with_reducible refine (MX.out _).mono ?_); rintro e w1 ⟨rfl, rfl⟩)
          | (go_at_call 13; (with_reducible refine (MY.out _).mono ?_); rintro e w2 ⟨rfl, rfl⟩)
          | (go_at_call 30; (with_reducible refine (NX.out _).mono ?_); rintro e w3 ⟨rfl, rfl⟩)
          | (go_at_call 30; (with_reducible refine (NY.out _).mono ?_); rintro e w4 ⟨rfl, rfl⟩)
          | (go_at_call 30; (with_reducible refine (NZ.out _).mono ?_); rintro e w4 ⟨rfl, rfl⟩)
          | (go_at_call 31; (with_reducible refine (IX.out _).mono ?_); rintro e w5 ⟨rfl, rfl⟩)
          | (go_at_call 31; (with_reducible refine (IY.out _).mono ?_); rintro e w6 ⟨rfl, rfl⟩)
          | (go_at_call 31; (with_reducible refine (IZ.out _).mono ?_); rintro e w6 ⟨rfl, rfl⟩)
          | (go_at_call 16; (with_reducible refine (ZX.out _).mono ?_); rintro e w7 ⟨rfl, rfl⟩)
          | (go_at_call 16; (with_reducible refine (ZY.out _).mono ?_); rintro e w8 ⟨rfl, rfl⟩)
          | (go_at_call 32; (with_reducible refine (QN.out _).mono ?_); rintro e w9 ⟨rfl, rfl⟩)
          | (go_at_call 33; (with_reducible refine (IB.out _).mono ?_); rintro e w10 ⟨rfl, rfl⟩)
          | (go_at_call 12; (with_reducible refine (S1.out _ _).mono ?_); rintro e w11 ⟨rfl, rfl⟩)
          | (go_at_call 12; (with_reducible refine (S0.out _ _).mono ?_); rintro e w12 ⟨rfl, rfl⟩))
        go_ret2
        exact ⟨rfl, Below.refl _ _⟩
      · have z4' : (F.cls z == 4) = false := beq_eq_false_iff_ne.2 z4
        rw [z4'] at IZ
        have fz : fi z := ⟨hz.1, hz.2, cls_fi.1 ⟨z5, z4⟩⟩
        have fv := FT_val (mode := mode) hm fx fy fz
        rw [hr] at fv
        obtain ⟨okf, ev, v1, v2, v3⟩ := fv
        have ff := fd_p fx fy fz
        have LIM : Hid (∀ K : Int, K = 2056 → S (PD x y).d + val z ≤ sc 1 K ∧ -(sc 1 K) ≤ S (PD x y).d + val z) := fun K hK => by rw [← ev]; exact fit_k ff.1 (by omega) hK
        have QVx : Hid (∀ (W : World), Calls Tryz.prog 35 #[.int .u64 x] W (RetSF 2200 1100 W (val x))) := fun W => QVal_v x W fx
        have QVy : Hid (∀ (W : World), Calls Tryz.prog 35 #[.int .u64 y] W (RetSF 2200 1100 W (val y))) := fun W => QVal_v y W fy
        have QVz : Hid (∀ (W : World), Calls Tryz.prog 35 #[.int .u64 z] W (RetSF 2200 1100 W (val z))) := fun W => QVal_v z W fz
        have QM : Hid (∀ (W : World) (u v : Value), QS 2200 1100 W u (val x) → QS 2200 1100 W v (val y) → Calls Tryz.prog 34 #[u, v] W (RetS 4400 2200 W (S (PD x y).d))) := fun W u v h3 h4 => QMul_pd fx fy h3 h4
        have QA : Hid (∀ (W : World) (u v : Value), QS 4400 2200 W u (S (PD x y).d) → QS 2200 1100 W v (val z) → Calls Tryz.prog 36 #[u, v] W (RetSF 4400 2200 W (S (fd x y z)))) := fun W u v h1 h2 => by rw [ev]; exact QAdd_p rfl h1 (h2.mono2 (by omega) (by omega)) (LIM.out 2056 rfl)
        have C0 : Hid (∀ (W : World) (u : Value) (s : Int), QS 4400 2200 W u s → Calls Tryz.prog 37 #[u, .agg #[.bool false, .slice none 0 0, .int .i64 0]] W fun e w' => e = .returned (.int .i64 (cmpv s 0)) ∧ Below W.heap.size W w') := fun W u s h => QCmp_s h (qs_zero W) (by omega) (by omega) (by omega) (by omega)
        have RO : Hid (∀ (W : World) (u : Value), QS 4400 2200 W u (S (fd x y z)) → Calls Tryz.prog 17 #[u, .int .i64 0, .int .i64 mode] W fun e w' => e = .returned (.tuple #[.int .u64 (TX (fd x y z) mode), .bool (TL (fd x y z) mode)]) ∧ Below W.heap.size W w') := fun W u h => Rounded_t h (by omega) (by omega) okf hm
        have SU : Hid (∀ W : World, Calls Tryz.prog 19 #[.slice (some ⟨W.heap.size, 0, none⟩) 2 2, .int .i64 mode] (W.alloc (.cells #[.int .u64 (sp x y), .int .u64 z] 22)) fun e w' => e = .returned (.tuple #[.int .u64 (AT [sp x y, z] mode).1, .bool (AT [sp x y, z] mode).2.1]) ∧ Below W.heap.size W w') := SUM _ (by rcases sp2 x y with h | h <;> rw [h] <;> omega)
        generalize TX (fd x y z) mode = tx at *
        generalize TL (fd x y z) mode = tl at *
        generalize S (fd x y z) = sf at *
        generalize AT [sp x y, z] mode = at' at *
        generalize S (PD x y).d = sd at *
        generalize val x = vx at *
        generalize val y = vy at *
        generalize val z = vz at *
        generalize sp x y = s at *
        have V1 := Lib.hid v1
        have V2 := Lib.hid v2
        have V3 := Lib.hid v3
        clear hr SUM hm hx hy hz z5 hb z4 z4' fx fy fz okf ev ff v1 v2 v3 LIM x5 y5 x4 y4 x1 y1
        generalize F.sgn x = sx at *
        generalize F.sgn y = sy at *
        generalize F.cls x = cx at *
        generalize F.cls y = cy at *
        generalize F.cls z = cz at *
        go_enter Tryz.func11, Tryz.ntmps11
        go_upto_region 9 with (first
          | (go_at_call 13; (with_reducible refine (MX.out _).mono ?_); rintro e w1 ⟨rfl, rfl⟩)
          | (go_at_call 13; (with_reducible refine (MY.out _).mono ?_); rintro e w2 ⟨rfl, rfl⟩)
          | (go_at_call 30; (with_reducible refine (NX.out _).mono ?_); rintro e w3 ⟨rfl, rfl⟩)
          | (go_at_call 30; (with_reducible refine (NY.out _).mono ?_); rintro e w4 ⟨rfl, rfl⟩)
          | (go_at_call 30; (with_reducible refine (NZ.out _).mono ?_); rintro e w4 ⟨rfl, rfl⟩)
          | (go_at_call 31; (with_reducible refine (IX.out _).mono ?_); rintro e w5 ⟨rfl, rfl⟩)
          | (go_at_call 31; (with_reducible refine (IY.out _).mono ?_); rintro e w6 ⟨rfl, rfl⟩)
          | (go_at_call 31; (with_reducible refine (IZ.out _).mono ?_); rintro e w6 ⟨rfl, rfl⟩)
          | (go_at_call 16; (with_reducible refine (ZX.out _).mono ?_); rintro e w7 ⟨rfl, rfl⟩)
          | (go_at_call 16; (with_reducible refine (ZY.out _).mono ?_); rintro e w8 ⟨rfl, rfl⟩)
          | (go_at_call 32; (with_reducible refine (QN.out _).mono ?_); rintro e w9 ⟨rfl, rfl⟩)
          | (go_at_call 33; (with_reducible refine (IB.out _).mono ?_); rintro e w10 ⟨rfl, rfl⟩)
          | (go_at_call 12; (with_reducible refine (S1.out _ _).mono ?_); rintro e w11 ⟨rfl, rfl⟩)
          | (go_at_call 12; (with_reducible refine (S0.out _ _).mono ?_); rintro e w12 ⟨rfl, rfl⟩)
          | (go_at_call 35; (with_reducible refine (QVx.out _).mono ?_); rintro e w13 ⟨b1, A1, n1, c1, t1, z1, rfl, r1, r2, r3, r4, r5, r6, hb⟩; have Q1 := Lib.hid (RetS.qs r1 r2 r3 r4 r5); have D := Lib.hid hb; clear r1 r2 r3 r4 r5 r6 hb)
          | (go_at_call 35; (with_reducible refine (QVy.out _).mono ?_); rintro e w14 ⟨b2, A2, n2, c2, t2, z2, rfl, r1, r2, r3, r4, r5, r6, hb⟩; have Q1 := Lib.hid (Q1.out.below hb); have Q2 := Lib.hid (RetS.qs r1 r2 r3 r4 r5); have D := Lib.hid (D.out.trans (hb.mono D.out.size)); clear r1 r2 r3 r4 r5 r6 hb)
          | (go_at_call 34; (with_reducible refine (QM.out _ _ _ Q1.out Q2.out).mono ?_); rintro e w15 ⟨b3, A3, n3, c3, t3, z3, rfl, r1, r2, r3, r4, r5, hb⟩; have Q3 := Lib.hid (RetS.qs r1 r2 r3 r4 r5); have D := Lib.hid (D.out.trans (hb.mono D.out.size)); clear r1 r2 r3 r4 r5 hb))
        have DY := al1 w15 (.cells #[.bool b3, .slice A3 n3 c3, .int .i64 t3] 41)
        have Y2 := Blk.new w15 41 #[.bool b3, .slice A3 n3 c3, .int .i64 t3]
        have V9 := Q3.out.below DY
        have D3 := D.out.trans (DY.mono D.out.size)
        obtain ⟨W3, hW3⟩ : ∃ W3, w15.alloc (.cells #[.bool b3, .slice A3 n3 c3, .int .i64 t3] 41) = W3 := ⟨_, rfl⟩
        obtain ⟨g2, hg2⟩ : ∃ g2, w15.heap.size = g2 := ⟨_, rfl⟩
        rw [hW3] at DY Y2 V9 D3 ⊢
        rw [hg2] at Y2 ⊢
        have KP : Hid (∀ W, Below W3.heap.size W3 W → (W.cell? ⟨g2, 0, none⟩ = some (.bool b3) ∧ W.cell? ⟨g2, 1, none⟩ = some (.slice A3 n3 c3) ∧ W.cell? ⟨g2, 2, none⟩ = some (.int .i64 t3)) ∧ QS 4400 2200 W (.agg #[.bool b3, .slice A3 n3 c3, .int .i64 t3]) sd) := fun W hW => ⟨⟨(Y2.below hW Y2.lt).at_ 0 rfl, (Y2.below hW Y2.lt).at_ 1 rfl, (Y2.below hW Y2.lt).at_ 2 rfl⟩, V9.below hW⟩
        have D3 := Lib.hid D3
        clear hW3 hg2 DY Y2 V9 D Q1 Q2 Q3
        go_cut [12] (fun s12 wx => ∃ g b A n c t, s12 = .pointer (some ⟨g, 0, none⟩) ∧ Hid (Blk wx g 41 #[.bool b, .slice A n c, .int .i64 t] ∧ QS 4400 2200 wx (.agg #[.bool b, .slice A n c, .int .i64 t]) sf ∧ Below W3.heap.size W3 wx))
        case first =>
          have D : Below W3.heap.size W3 W3.drew := (Below.refl _ _).drew
          (refine wp_region_L (S := fun w' => w'.cell? ⟨g2, 0, none⟩ = some (.bool b3) ∧ w'.cell? ⟨g2, 1, none⟩ = some (.slice A3 n3 c3) ∧ w'.cell? ⟨g2, 2, none⟩ = some (.int .i64 t3)) (nl := 1000000) (by kernel_rfl) ?_ (fun hHeld => ?_); focus (exact (KP.out _ D).1))
          (refine wpAnyL_take (i := 0) (oi := _) (v := ?_) rfl (by kernel_rfl) (by kernel_rfl) (by kernel_rfl) (fun _ _ _ h => h) (Or.inl ⟨by first | rfl | kernel_rfl, ?hy3⟩) (by assumption) ?rs3; (case hy3 => (intro w hSw; (try dsimp only at hSw); go_simp; first | done | with_reducible rfl)); case' rs3 => (simp only [List.getElem_toArray, List.getElem_cons_zero, List.getElem_cons_succ, Act.put, List.setIfInBounds_toArray, List.set_cons_zero, List.set_cons_succ])); (refine wpAnyL_take (i := 1) (oi := _) (v := ?_) rfl (by kernel_rfl) (by kernel_rfl) (by kernel_rfl) (fun _ _ _ h => h) (Or.inl ⟨by first | rfl | kernel_rfl, ?hy4⟩) (by assumption) ?rs4; (case hy4 => (intro w hSw; (try dsimp only at hSw); go_simp; first | done | with_reducible rfl)); case' rs4 => (simp only [List.getElem_toArray, List.getElem_cons_zero, List.getElem_cons_succ, Act.put, List.setIfInBounds_toArray, List.set_cons_zero, List.set_cons_succ])); skip
          refine wpAnyL_two (i := 2) (j := 4) (oi := _) (oj := _) (by kernel_rfl) rfl rfl (fun K hK => ?_) (fun K hK => ?_)
          · (clear hHeld; simp only [List.getElem_toArray, List.getElem_cons_zero, List.getElem_cons_succ]; go_simp; (go_at_call 35; (with_reducible refine (QVz.out _).mono ?_); rintro e w4 ⟨b4, A4, n4, c4, t4, z4, rfl, r1, r2, r3, r4, r5, r6, hb⟩; have Q4 := Lib.hid (RetS.qs r1 r2 r3 r4 r5); have D := D.trans (hb.mono D.size); clear r1 r2 r3 r4 r5 r6 hb); refine hK.out _ _ ?_ (fun hHeld => ?_); focus (intro _; exact (KP.out _ D).1)); have hHeld := hHeld (by decide); clear hK K; (try simp only [Act.put, List.setIfInBounds_toArray, List.set_cons_zero, List.set_cons_succ])
            refine wpAnyL_two (i := 3) (j := 4) (oi := _) (oj := _) (by kernel_rfl) rfl rfl (fun K hK => ?_) (fun K hK => ?_)
            · (clear hHeld; simp only [List.getElem_toArray, List.getElem_cons_zero, List.getElem_cons_succ]; go_simp; (go_at_call 36; (with_reducible refine (QA.out _ _ _ (KP.out _ D).2 Q4.out).mono ?_); rintro e w5 ⟨b5, A5, n5, c5, t5, z5, rfl, r1, r2, r3, r4, r5, r6, hb5⟩; have D := D.trans (hb5.mono D.size)); refine hK.out _ _ ?_ (fun hHeld => ?_); focus (intro _; exact (KP.out _ D).1)); have hHeld := hHeld (by decide); clear hK K; (try simp only [Act.put, List.setIfInBounds_toArray, List.set_cons_zero, List.set_cons_succ])
              (refine wpAnyL_one (i := 4) (o := _) (by kernel_rfl) rfl (fun K hK => ?_); clear hHeld; simp only [List.getElem_toArray, List.getElem_cons_zero, List.getElem_cons_succ]; go_simp; refine hK.out _ _ ?_ (fun hHeld => ?_); focus (intro _; exact (KP.out _ (D.alloc D.size _)).1)); have hHeld := hHeld (by decide); clear hK K; (try simp only [Act.put, List.setIfInBounds_toArray, List.set_cons_zero, List.set_cons_succ])
              have X := Lib.hid (And.intro (Blk.new w5 41 #[.bool b5, .slice A5 n5 c5, .int .i64 t5]) (And.intro ((RetS.qs r1 r2 r3 r4 r5).below (al1 w5 (.cells #[.bool b5, .slice A5 n5 c5, .int .i64 t5] 41))) (D.alloc D.size (.cells #[.bool b5, .slice A5 n5 c5, .int .i64 t5] 41))))
              clear hHeld r1 r2 r3 r4 r5 r6 hb5 D
              (refine wpAnyL_one (i := 5) (o := _) (by kernel_rfl) rfl (fun K hK => ?_); clear hHeld; simp only [List.getElem_toArray, List.getElem_cons_zero, List.getElem_cons_succ]; go_simp; refine hK.out _ _ ?_ (fun hHeld => ?_); focus (intro _; exact (KP.out _ X.out.2.2).1)); have hHeld := hHeld (by decide); clear hK K; (try simp only [Act.put, List.setIfInBounds_toArray, List.set_cons_zero, List.set_cons_succ])
              refine wpAnyL_done (by kernel_rfl) ?_ _
              go_wp2
              go_meet
              exact ⟨_, _, _, _, _, _, rfl, X.out.1, X.out.2.1, X.out.2.2⟩
            · (clear hHeld; simp only [List.getElem_toArray, List.getElem_cons_zero, List.getElem_cons_succ]; go_simp; refine hK.out _ _ ?_ (fun hHeld => ?_); focus (intro _; exact (KP.out _ (D.alloc D.size _)).1)); have hHeld := hHeld (by decide); clear hK K; (try simp only [Act.put, List.setIfInBounds_toArray, List.set_cons_zero, List.set_cons_succ])
              have R := Blk.new w4 41 #[.bool false, .slice none 0 0, .int .i64 0]
              have Q4 := Lib.hid (Q4.out.below (al1 w4 (.cells #[.bool false, .slice none 0 0, .int .i64 0] 41)))
              have hg := D.size
              have D := D.alloc D.size (.cells #[.bool false, .slice none 0 0, .int .i64 0] 41)
              (refine wpAnyL_one (i := 3) (o := _) (by kernel_rfl) rfl (fun K hK => ?_); clear hHeld; simp only [List.getElem_toArray, List.getElem_cons_zero, List.getElem_cons_succ]; go_simp; (go_at_call 36; (with_reducible refine (QA.out _ _ _ (KP.out _ D).2 Q4.out).mono ?_); rintro e w5 ⟨b5, A5, n5, c5, t5, z5, rfl, r1, r2, r3, r4, r5, r6, hb5⟩; have hgl := R.lt; have D := D.trans (hb5.mono D.size); have R := R.below hb5 R.lt); refine hK.out _ _ ?_ (fun hHeld => ?_); focus (intro _; exact (KP.out _ D).1)); have hHeld := hHeld (by decide); clear hK K; (try simp only [Act.put, List.setIfInBounds_toArray, List.set_cons_zero, List.set_cons_succ])
              have f0 := R.frozen 0; have f1 := R.frozen 1; have f2 := R.frozen 2; have t0 := R.at_ 0 rfl; have t1 := R.at_ 1 rfl; have t2 := R.at_ 2 rfl
              have X := Lib.hid (And.intro (blk3 R (.bool b5) (.slice A5 n5 c5) (.int .i64 t5)) (And.intro (show QS 4400 2200 _ _ sf from ⟨z5, t5, ⟨b5, A5, n5, c5, rfl, QC.set3 r1 (off_new r6 hgl) (.bool b5) (.slice A5 n5 c5) (.int .i64 t5)⟩, r2, r3, r4, r5⟩) (below3q D hg (.bool b5) (.slice A5 n5 c5) (.int .i64 t5))))
              clear hHeld R r1 r2 r3 r4 r5 r6 hb5 D
              (refine wpAnyL_one (i := 5) (o := _) (by kernel_rfl) rfl (fun K hK => ?_); clear hHeld; simp only [List.getElem_toArray, List.getElem_cons_zero, List.getElem_cons_succ]; go_simp; refine hK.out _ _ ?_ (fun hHeld => ?_); focus (intro _; exact (KP.out _ X.out.2.2).1)); have hHeld := hHeld (by decide); clear hK K; (try simp only [Act.put, List.setIfInBounds_toArray, List.set_cons_zero, List.set_cons_succ])
              refine wpAnyL_done (by kernel_rfl) ?_ _
              go_wp2
              go_meet
              exact ⟨_, _, _, _, _, _, rfl, X.out.1, X.out.2.1, X.out.2.2⟩
          · (clear hHeld; simp only [List.getElem_toArray, List.getElem_cons_zero, List.getElem_cons_succ]; go_simp; refine hK.out _ _ ?_ (fun hHeld => ?_); focus (intro _; exact (KP.out _ ((Below.refl _ _).drew.alloc (Nat.le_refl _) _)).1)); have hHeld := hHeld (by decide); clear hK K; (try simp only [Act.put, List.setIfInBounds_toArray, List.set_cons_zero, List.set_cons_succ])
            have R := Blk.drew (Blk.new W3 41 #[.bool false, .slice none 0 0, .int .i64 0])
            have hg := Nat.le_refl W3.heap.size
            have D : Below W3.heap.size W3 (W3.alloc (.cells #[.bool false, .slice none 0 0, .int .i64 0] 41)).drew := ((Below.refl _ _).alloc (Nat.le_refl _) _).drew
            (refine wpAnyL_one (i := 2) (o := _) (by kernel_rfl) rfl (fun K hK => ?_); clear hHeld; simp only [List.getElem_toArray, List.getElem_cons_zero, List.getElem_cons_succ]; go_simp; (go_at_call 35; (with_reducible refine (QVz.out _).mono ?_); rintro e w4 ⟨b4, A4, n4, c4, t4, z4, rfl, r1, r2, r3, r4, r5, r6, hb⟩; have Q4 := Lib.hid (RetS.qs r1 r2 r3 r4 r5); have D := D.trans (hb.mono D.size); have R := R.below hb R.lt; clear r1 r2 r3 r4 r5 r6 hb); refine hK.out _ _ ?_ (fun hHeld => ?_); focus (intro _; exact (KP.out _ D).1)); have hHeld := hHeld (by decide); clear hK K; (try simp only [Act.put, List.setIfInBounds_toArray, List.set_cons_zero, List.set_cons_succ])
            (refine wpAnyL_one (i := 3) (o := _) (by kernel_rfl) rfl (fun K hK => ?_); clear hHeld; simp only [List.getElem_toArray, List.getElem_cons_zero, List.getElem_cons_succ]; go_simp; (go_at_call 36; (with_reducible refine (QA.out _ _ _ (KP.out _ D).2 Q4.out).mono ?_); rintro e w5 ⟨b5, A5, n5, c5, t5, z5, rfl, r1, r2, r3, r4, r5, r6, hb5⟩; have hgl := R.lt; have D := D.trans (hb5.mono D.size); have R := R.below hb5 R.lt); refine hK.out _ _ ?_ (fun hHeld => ?_); focus (intro _; exact (KP.out _ D).1)); have hHeld := hHeld (by decide); clear hK K; (try simp only [Act.put, List.setIfInBounds_toArray, List.set_cons_zero, List.set_cons_succ])
            have f0 := R.frozen 0; have f1 := R.frozen 1; have f2 := R.frozen 2; have t0 := R.at_ 0 rfl; have t1 := R.at_ 1 rfl; have t2 := R.at_ 2 rfl
            have X := Lib.hid (And.intro (blk3 R (.bool b5) (.slice A5 n5 c5) (.int .i64 t5)) (And.intro (show QS 4400 2200 _ _ sf from ⟨z5, t5, ⟨b5, A5, n5, c5, rfl, QC.set3 r1 (off_new r6 hgl) (.bool b5) (.slice A5 n5 c5) (.int .i64 t5)⟩, r2, r3, r4, r5⟩) (below3q D hg (.bool b5) (.slice A5 n5 c5) (.int .i64 t5))))
            clear hHeld R r1 r2 r3 r4 r5 r6 hb5 D
            (refine wpAnyL_one (i := 5) (o := _) (by kernel_rfl) rfl (fun K hK => ?_); clear hHeld; simp only [List.getElem_toArray, List.getElem_cons_zero, List.getElem_cons_succ]; go_simp; refine hK.out _ _ ?_ (fun hHeld => ?_); focus (intro _; exact (KP.out _ X.out.2.2).1)); have hHeld := hHeld (by decide); clear hK K; (try simp only [Act.put, List.setIfInBounds_toArray, List.set_cons_zero, List.set_cons_succ])
            refine wpAnyL_done (by kernel_rfl) ?_ _
            go_wp2
            go_meet
            exact ⟨_, _, _, _, _, _, rfl, X.out.1, X.out.2.1, X.out.2.2⟩
        case rest =>
          obtain ⟨g, b, A, n, c, t, rfl, XQ⟩ := hcut
          have q0 := XQ.out.1.at_ 0 rfl
          have q1 := XQ.out.1.at_ 1 rfl
          have q2 := XQ.out.1.at_ 2 rfl
          rcases cmp0 sf with ⟨e1, e2⟩ | ⟨e1, -, e2⟩
          · rw [e2] at e1
            rcases cmp0 sd with ⟨e3, e4⟩ | ⟨-, e3, e4⟩
            · have e := V2.out e2 e4
              subst e
              rw [e4] at e3
              subst e2
              subst e4
              clear V1 V2 V3
              cases sx <;> cases sy
              all_goals (
                have hs := SB.out
                simp at hs
                subst hs
                go_wp2_with (first
                  | (go_at_call 37; (with_reducible refine (C0.out _ _ _ XQ.out.2.1).mono ?_); rintro e w21 ⟨rfl, hb⟩; have KQ := Lib.hid (XQ.out.1.below hb XQ.out.1.lt); have q0 := KQ.out.at_ 0 rfl; have q1 := KQ.out.at_ 1 rfl; have q2 := KQ.out.at_ 2 rfl; have XQ2 := Lib.hid (XQ.out.2.1.below hb); have D := Lib.hid (XQ.out.2.2.trans (hb.mono XQ.out.2.2.size)); obtain ⟨⟨k0, k1, k2⟩, kq⟩ := KP.out _ D.out; clear hb)
                  | (go_at_call 37; (with_reducible refine (C0.out _ _ _ kq).mono ?_); rintro e w22 ⟨rfl, hb⟩; have D := Lib.hid (D.out.trans (hb.mono D.out.size)); clear hb)
                  | (go_at_call 12; (with_reducible refine (S0.out _ _).mono ?_); rintro e w24 ⟨rfl, rfl⟩)
                  | (go_at_call 19; (with_reducible refine (SU.out _).mono ?_); rintro e w25 ⟨rfl, hb⟩; have D := Lib.hid (D.out.trans (hb.mono D.out.size)); clear hb))
                go_ret2
                exact ⟨rfl, D3.out.trans (D.out.mono D3.out.size)⟩)
            · have e := V3.out e2 e4
              subst e2
              clear V1 V2 V3 e4 SU SB
              by_cases hm2 : mode = 2
              · rw [if_pos hm2] at e
                subst e
                subst hm2
                go_wp2_with (first
                  | (go_at_call 37; (with_reducible refine (C0.out _ _ _ XQ.out.2.1).mono ?_); rintro e w21 ⟨rfl, hb⟩; have KQ := Lib.hid (XQ.out.1.below hb XQ.out.1.lt); have q0 := KQ.out.at_ 0 rfl; have q1 := KQ.out.at_ 1 rfl; have q2 := KQ.out.at_ 2 rfl; have XQ2 := Lib.hid (XQ.out.2.1.below hb); have D := Lib.hid (XQ.out.2.2.trans (hb.mono XQ.out.2.2.size)); obtain ⟨⟨k0, k1, k2⟩, kq⟩ := KP.out _ D.out; clear hb)
                  | (go_at_call 37; (with_reducible refine (C0.out _ _ _ kq).mono ?_); rintro e w22 ⟨rfl, hb⟩; have D := Lib.hid (D.out.trans (hb.mono D.out.size)); clear hb)
                  | (go_at_call 12; (with_reducible refine (S0.out _ _).mono ?_); rintro e w24 ⟨rfl, rfl⟩))
                go_ret2
                exact ⟨rfl, D3.out.trans (D.out.mono D3.out.size)⟩
              · have t2 : (mode == 2) = false := by simp [hm2]
                rw [if_neg hm2] at e
                subst e
                clear hm2
                go_wp2_with (first
                  | (go_at_call 37; (with_reducible refine (C0.out _ _ _ XQ.out.2.1).mono ?_); rintro e w21 ⟨rfl, hb⟩; have KQ := Lib.hid (XQ.out.1.below hb XQ.out.1.lt); have q0 := KQ.out.at_ 0 rfl; have q1 := KQ.out.at_ 1 rfl; have q2 := KQ.out.at_ 2 rfl; have XQ2 := Lib.hid (XQ.out.2.1.below hb); have D := Lib.hid (XQ.out.2.2.trans (hb.mono XQ.out.2.2.size)); obtain ⟨⟨k0, k1, k2⟩, kq⟩ := KP.out _ D.out; clear hb)
                  | (go_at_call 37; (with_reducible refine (C0.out _ _ _ kq).mono ?_); rintro e w22 ⟨rfl, hb⟩; have D := Lib.hid (D.out.trans (hb.mono D.out.size)); clear hb)
                  | (go_at_call 12; (with_reducible refine (S0.out _ _).mono ?_); rintro e w24 ⟨rfl, rfl⟩))
                go_ret2
                exact ⟨rfl, D3.out.trans (D.out.mono D3.out.size)⟩
          · have e := V1.out e2
            subst e
            clear V1 V2 V3 e2 SU SB
            go_wp2_with (first
              | (go_at_call 37; (with_reducible refine (C0.out _ _ _ XQ.out.2.1).mono ?_); rintro e w21 ⟨rfl, hb⟩; have KQ := Lib.hid (XQ.out.1.below hb XQ.out.1.lt); have q0 := KQ.out.at_ 0 rfl; have q1 := KQ.out.at_ 1 rfl; have q2 := KQ.out.at_ 2 rfl; have XQ2 := Lib.hid (XQ.out.2.1.below hb); have D := Lib.hid (XQ.out.2.2.trans (hb.mono XQ.out.2.2.size)); obtain ⟨⟨k0, k1, k2⟩, kq⟩ := KP.out _ D.out; clear hb)
              | (go_at_call 17; (with_reducible refine (RO.out _ _ XQ2.out).mono ?_); rintro e w23 ⟨rfl, hb⟩; have D := Lib.hid (D.out.trans (hb.mono D.out.size)); clear hb))
            go_ret2
            exact ⟨rfl, D3.out.trans (D.out.mono D3.out.size)⟩
    · have fx := fi_b hx x5 x4
      have fy := fi_b hy y5 y4
      rw [x5] at NX
      rw [y5] at NY
      rw [x4] at IX
      rw [y4] at IY
      rw [x1] at ZX
      by_cases z4 : F.cls z = 4
      · have e := FT_iz hm fx fy hz z4
        rw [hr] at e
        subst e
        rw [z4] at IZ
        clear hr SUM SB hm hx hy hz z5 hb z4 fx fy x5 y5 x4 y4 x1 y1
        generalize F.sgn x = sx at *
        generalize F.sgn y = sy at *
        generalize F.cls x = cx at *
        generalize F.cls y = cy at *
        go_enter Tryz.func11, Tryz.ntmps11
        go_wp2_with (first
          | (go_at_call 13; (with_reducible refine (MX.out _).mono ?_); rintro e w1 ⟨rfl, rfl⟩)
          | (go_at_call 13; (with_reducible refine (MY.out _).mono ?_); rintro e w2 ⟨rfl, rfl⟩)
          | (go_at_call 30; (with_reducible refine (NX.out _).mono ?_); rintro e w3 ⟨rfl, rfl⟩)
          | (go_at_call 30; (with_reducible refine (NY.out _).mono ?_); rintro e w4 ⟨rfl, rfl⟩)
          | (go_at_call 30; (with_reducible refine (NZ.out _).mono ?_); rintro e w4 ⟨rfl, rfl⟩)
          | (go_at_call 31; (with_reducible refine (IX.out _).mono ?_); rintro e w5 ⟨rfl, rfl⟩)
          | (go_at_call 31; (with_reducible refine (IY.out _).mono ?_); rintro e w6 ⟨rfl, rfl⟩)
          | (go_at_call 31; (with_reducible refine (IZ.out _).mono ?_); rintro e w6 ⟨rfl, rfl⟩)
          | (go_at_call 16; (with_reducible refine (ZX.out _).mono ?_); rintro e w7 ⟨rfl, rfl⟩)
          | (go_at_call 16; (with_reducible refine (ZY.out _).mono ?_); rintro e w8 ⟨rfl, rfl⟩)
          | (go_at_call 32; (with_reducible refine (QN.out _).mono ?_); rintro e w9 ⟨rfl, rfl⟩)
          | (go_at_call 33; (with_reducible refine (IB.out _).mono ?_); rintro e w10 ⟨rfl, rfl⟩)
          | (go_at_call 12; (with_reducible refine (S1.out _ _).mono ?_); rintro e w11 ⟨rfl, rfl⟩)
          | (go_at_call 12; (with_reducible refine (S0.out _ _).mono ?_); rintro e w12 ⟨rfl, rfl⟩))
        go_ret2
        exact ⟨rfl, Below.refl _ _⟩
      · have z4' : (F.cls z == 4) = false := beq_eq_false_iff_ne.2 z4
        rw [z4'] at IZ
        have fz : fi z := ⟨hz.1, hz.2, cls_fi.1 ⟨z5, z4⟩⟩
        have fv := FT_val (mode := mode) hm fx fy fz
        rw [hr] at fv
        obtain ⟨okf, ev, v1, v2, v3⟩ := fv
        have ff := fd_p fx fy fz
        have LIM : Hid (∀ K : Int, K = 2056 → S (PD x y).d + val z ≤ sc 1 K ∧ -(sc 1 K) ≤ S (PD x y).d + val z) := fun K hK => by rw [← ev]; exact fit_k ff.1 (by omega) hK
        have QVx : Hid (∀ (W : World), Calls Tryz.prog 35 #[.int .u64 x] W (RetSF 2200 1100 W (val x))) := fun W => QVal_v x W fx
        have QVy : Hid (∀ (W : World), Calls Tryz.prog 35 #[.int .u64 y] W (RetSF 2200 1100 W (val y))) := fun W => QVal_v y W fy
        have QVz : Hid (∀ (W : World), Calls Tryz.prog 35 #[.int .u64 z] W (RetSF 2200 1100 W (val z))) := fun W => QVal_v z W fz
        have QM : Hid (∀ (W : World) (u v : Value), QS 2200 1100 W u (val x) → QS 2200 1100 W v (val y) → Calls Tryz.prog 34 #[u, v] W (RetS 4400 2200 W (S (PD x y).d))) := fun W u v h3 h4 => QMul_pd fx fy h3 h4
        have QA : Hid (∀ (W : World) (u v : Value), QS 4400 2200 W u (S (PD x y).d) → QS 2200 1100 W v (val z) → Calls Tryz.prog 36 #[u, v] W (RetSF 4400 2200 W (S (fd x y z)))) := fun W u v h1 h2 => by rw [ev]; exact QAdd_p rfl h1 (h2.mono2 (by omega) (by omega)) (LIM.out 2056 rfl)
        have C0 : Hid (∀ (W : World) (u : Value) (s : Int), QS 4400 2200 W u s → Calls Tryz.prog 37 #[u, .agg #[.bool false, .slice none 0 0, .int .i64 0]] W fun e w' => e = .returned (.int .i64 (cmpv s 0)) ∧ Below W.heap.size W w') := fun W u s h => QCmp_s h (qs_zero W) (by omega) (by omega) (by omega) (by omega)
        have RO : Hid (∀ (W : World) (u : Value), QS 4400 2200 W u (S (fd x y z)) → Calls Tryz.prog 17 #[u, .int .i64 0, .int .i64 mode] W fun e w' => e = .returned (.tuple #[.int .u64 (TX (fd x y z) mode), .bool (TL (fd x y z) mode)]) ∧ Below W.heap.size W w') := fun W u h => Rounded_t h (by omega) (by omega) okf hm
        have SU : Hid (∀ W : World, Calls Tryz.prog 19 #[.slice (some ⟨W.heap.size, 0, none⟩) 2 2, .int .i64 mode] (W.alloc (.cells #[.int .u64 (sp x y), .int .u64 z] 22)) fun e w' => e = .returned (.tuple #[.int .u64 (AT [sp x y, z] mode).1, .bool (AT [sp x y, z] mode).2.1]) ∧ Below W.heap.size W w') := SUM _ (by rcases sp2 x y with h | h <;> rw [h] <;> omega)
        generalize TX (fd x y z) mode = tx at *
        generalize TL (fd x y z) mode = tl at *
        generalize S (fd x y z) = sf at *
        generalize AT [sp x y, z] mode = at' at *
        generalize S (PD x y).d = sd at *
        generalize val x = vx at *
        generalize val y = vy at *
        generalize val z = vz at *
        generalize sp x y = s at *
        have V1 := Lib.hid v1
        have V2 := Lib.hid v2
        have V3 := Lib.hid v3
        clear hr SUM hm hx hy hz z5 hb z4 z4' fx fy fz okf ev ff v1 v2 v3 LIM x5 y5 x4 y4 x1 y1
        generalize F.sgn x = sx at *
        generalize F.sgn y = sy at *
        generalize F.cls x = cx at *
        generalize F.cls y = cy at *
        generalize F.cls z = cz at *
        go_enter Tryz.func11, Tryz.ntmps11
        go_upto_region 9 with (first
          | (go_at_call 13; (with_reducible refine (MX.out _).mono ?_); rintro e w1 ⟨rfl, rfl⟩)
          | (go_at_call 13; (with_reducible refine (MY.out _).mono ?_); rintro e w2 ⟨rfl, rfl⟩)
          | (go_at_call 30; (with_reducible refine (NX.out _).mono ?_); rintro e w3 ⟨rfl, rfl⟩)
          | (go_at_call 30; (with_reducible refine (NY.out _).mono ?_); rintro e w4 ⟨rfl, rfl⟩)
          | (go_at_call 30; (with_reducible refine (NZ.out _).mono ?_); rintro e w4 ⟨rfl, rfl⟩)
          | (go_at_call 31; (with_reducible refine (IX.out _).mono ?_); rintro e w5 ⟨rfl, rfl⟩)
          | (go_at_call 31; (with_reducible refine (IY.out _).mono ?_); rintro e w6 ⟨rfl, rfl⟩)
          | (go_at_call 31; (with_reducible refine (IZ.out _).mono ?_); rintro e w6 ⟨rfl, rfl⟩)
          | (go_at_call 16; (with_reducible refine (ZX.out _).mono ?_); rintro e w7 ⟨rfl, rfl⟩)
          | (go_at_call 16; (with_reducible refine (ZY.out _).mono ?_); rintro e w8 ⟨rfl, rfl⟩)
          | (go_at_call 32; (with_reducible refine (QN.out _).mono ?_); rintro e w9 ⟨rfl, rfl⟩)
          | (go_at_call 33; (with_reducible refine (IB.out _).mono ?_); rintro e w10 ⟨rfl, rfl⟩)
          | (go_at_call 12; (with_reducible refine (S1.out _ _).mono ?_); rintro e w11 ⟨rfl, rfl⟩)
          | (go_at_call 12; (with_reducible refine (S0.out _ _).mono ?_); rintro e w12 ⟨rfl, rfl⟩)
          | (go_at_call 35; (with_reducible refine (QVx.out _).mono ?_); rintro e w13 ⟨b1, A1, n1, c1, t1, z1, rfl, r1, r2, r3, r4, r5, r6, hb⟩; have Q1 := Lib.hid (RetS.qs r1 r2 r3 r4 r5); have D := Lib.hid hb; clear r1 r2 r3 r4 r5 r6 hb)
          | (go_at_call 35; (with_reducible refine (QVy.out _).mono ?_); rintro e w14 ⟨b2, A2, n2, c2, t2, z2, rfl, r1, r2, r3, r4, r5, r6, hb⟩; have Q1 := Lib.hid (Q1.out.below hb); have Q2 := Lib.hid (RetS.qs r1 r2 r3 r4 r5); have D := Lib.hid (D.out.trans (hb.mono D.out.size)); clear r1 r2 r3 r4 r5 r6 hb)
          | (go_at_call 34; (with_reducible refine (QM.out _ _ _ Q1.out Q2.out).mono ?_); rintro e w15 ⟨b3, A3, n3, c3, t3, z3, rfl, r1, r2, r3, r4, r5, hb⟩; have Q3 := Lib.hid (RetS.qs r1 r2 r3 r4 r5); have D := Lib.hid (D.out.trans (hb.mono D.out.size)); clear r1 r2 r3 r4 r5 hb))
        have DY := al1 w15 (.cells #[.bool b3, .slice A3 n3 c3, .int .i64 t3] 41)
        have Y2 := Blk.new w15 41 #[.bool b3, .slice A3 n3 c3, .int .i64 t3]
        have V9 := Q3.out.below DY
        have D3 := D.out.trans (DY.mono D.out.size)
        obtain ⟨W3, hW3⟩ : ∃ W3, w15.alloc (.cells #[.bool b3, .slice A3 n3 c3, .int .i64 t3] 41) = W3 := ⟨_, rfl⟩
        obtain ⟨g2, hg2⟩ : ∃ g2, w15.heap.size = g2 := ⟨_, rfl⟩
        rw [hW3] at DY Y2 V9 D3 ⊢
        rw [hg2] at Y2 ⊢
        have KP : Hid (∀ W, Below W3.heap.size W3 W → (W.cell? ⟨g2, 0, none⟩ = some (.bool b3) ∧ W.cell? ⟨g2, 1, none⟩ = some (.slice A3 n3 c3) ∧ W.cell? ⟨g2, 2, none⟩ = some (.int .i64 t3)) ∧ QS 4400 2200 W (.agg #[.bool b3, .slice A3 n3 c3, .int .i64 t3]) sd) := fun W hW => ⟨⟨(Y2.below hW Y2.lt).at_ 0 rfl, (Y2.below hW Y2.lt).at_ 1 rfl, (Y2.below hW Y2.lt).at_ 2 rfl⟩, V9.below hW⟩
        have D3 := Lib.hid D3
        clear hW3 hg2 DY Y2 V9 D Q1 Q2 Q3
        go_cut [12] (fun s12 wx => ∃ g b A n c t, s12 = .pointer (some ⟨g, 0, none⟩) ∧ Hid (Blk wx g 41 #[.bool b, .slice A n c, .int .i64 t] ∧ QS 4400 2200 wx (.agg #[.bool b, .slice A n c, .int .i64 t]) sf ∧ Below W3.heap.size W3 wx))
        case first =>
          have D : Below W3.heap.size W3 W3.drew := (Below.refl _ _).drew
          (refine wp_region_L (S := fun w' => w'.cell? ⟨g2, 0, none⟩ = some (.bool b3) ∧ w'.cell? ⟨g2, 1, none⟩ = some (.slice A3 n3 c3) ∧ w'.cell? ⟨g2, 2, none⟩ = some (.int .i64 t3)) (nl := 1000000) (by kernel_rfl) ?_ (fun hHeld => ?_); focus (exact (KP.out _ D).1))
          (refine wpAnyL_take (i := 0) (oi := _) (v := ?_) rfl (by kernel_rfl) (by kernel_rfl) (by kernel_rfl) (fun _ _ _ h => h) (Or.inl ⟨by first | rfl | kernel_rfl, ?hy5⟩) (by assumption) ?rs5; (case hy5 => (intro w hSw; (try dsimp only at hSw); go_simp; first | done | with_reducible rfl)); case' rs5 => (simp only [List.getElem_toArray, List.getElem_cons_zero, List.getElem_cons_succ, Act.put, List.setIfInBounds_toArray, List.set_cons_zero, List.set_cons_succ])); (refine wpAnyL_take (i := 1) (oi := _) (v := ?_) rfl (by kernel_rfl) (by kernel_rfl) (by kernel_rfl) (fun _ _ _ h => h) (Or.inl ⟨by first | rfl | kernel_rfl, ?hy6⟩) (by assumption) ?rs6; (case hy6 => (intro w hSw; (try dsimp only at hSw); go_simp; first | done | with_reducible rfl)); case' rs6 => (simp only [List.getElem_toArray, List.getElem_cons_zero, List.getElem_cons_succ, Act.put, List.setIfInBounds_toArray, List.set_cons_zero, List.set_cons_succ])); skip
          refine wpAnyL_two (i := 2) (j := 4) (oi := _) (oj := _) (by kernel_rfl) rfl rfl (fun K hK => ?_) (fun K hK => ?_)
          · (clear hHeld; simp only [List.getElem_toArray, List.getElem_cons_zero, List.getElem_cons_succ]; go_simp; (go_at_call 35; (with_reducible refine (QVz.out _).mono ?_); rintro e w4 ⟨b4, A4, n4, c4, t4, z4, rfl, r1, r2, r3, r4, r5, r6, hb⟩; have Q4 := Lib.hid (RetS.qs r1 r2 r3 r4 r5); have D := D.trans (hb.mono D.size); clear r1 r2 r3 r4 r5 r6 hb); refine hK.out _ _ ?_ (fun hHeld => ?_); focus (intro _; exact (KP.out _ D).1)); have hHeld := hHeld (by decide); clear hK K; (try simp only [Act.put, List.setIfInBounds_toArray, List.set_cons_zero, List.set_cons_succ])
            refine wpAnyL_two (i := 3) (j := 4) (oi := _) (oj := _) (by kernel_rfl) rfl rfl (fun K hK => ?_) (fun K hK => ?_)
            · (clear hHeld; simp only [List.getElem_toArray, List.getElem_cons_zero, List.getElem_cons_succ]; go_simp; (go_at_call 36; (with_reducible refine (QA.out _ _ _ (KP.out _ D).2 Q4.out).mono ?_); rintro e w5 ⟨b5, A5, n5, c5, t5, z5, rfl, r1, r2, r3, r4, r5, r6, hb5⟩; have D := D.trans (hb5.mono D.size)); refine hK.out _ _ ?_ (fun hHeld => ?_); focus (intro _; exact (KP.out _ D).1)); have hHeld := hHeld (by decide); clear hK K; (try simp only [Act.put, List.setIfInBounds_toArray, List.set_cons_zero, List.set_cons_succ])
              (refine wpAnyL_one (i := 4) (o := _) (by kernel_rfl) rfl (fun K hK => ?_); clear hHeld; simp only [List.getElem_toArray, List.getElem_cons_zero, List.getElem_cons_succ]; go_simp; refine hK.out _ _ ?_ (fun hHeld => ?_); focus (intro _; exact (KP.out _ (D.alloc D.size _)).1)); have hHeld := hHeld (by decide); clear hK K; (try simp only [Act.put, List.setIfInBounds_toArray, List.set_cons_zero, List.set_cons_succ])
              have X := Lib.hid (And.intro (Blk.new w5 41 #[.bool b5, .slice A5 n5 c5, .int .i64 t5]) (And.intro ((RetS.qs r1 r2 r3 r4 r5).below (al1 w5 (.cells #[.bool b5, .slice A5 n5 c5, .int .i64 t5] 41))) (D.alloc D.size (.cells #[.bool b5, .slice A5 n5 c5, .int .i64 t5] 41))))
              clear hHeld r1 r2 r3 r4 r5 r6 hb5 D
              (refine wpAnyL_one (i := 5) (o := _) (by kernel_rfl) rfl (fun K hK => ?_); clear hHeld; simp only [List.getElem_toArray, List.getElem_cons_zero, List.getElem_cons_succ]; go_simp; refine hK.out _ _ ?_ (fun hHeld => ?_); focus (intro _; exact (KP.out _ X.out.2.2).1)); have hHeld := hHeld (by decide); clear hK K; (try simp only [Act.put, List.setIfInBounds_toArray, List.set_cons_zero, List.set_cons_succ])
              refine wpAnyL_done (by kernel_rfl) ?_ _
              go_wp2
              go_meet
              exact ⟨_, _, _, _, _, _, rfl, X.out.1, X.out.2.1, X.out.2.2⟩
            · (clear hHeld; simp only [List.getElem_toArray, List.getElem_cons_zero, List.getElem_cons_succ]; go_simp; refine hK.out _ _ ?_ (fun hHeld => ?_); focus (intro _; exact (KP.out _ (D.alloc D.size _)).1)); have hHeld := hHeld (by decide); clear hK K; (try simp only [Act.put, List.setIfInBounds_toArray, List.set_cons_zero, List.set_cons_succ])
              have R := Blk.new w4 41 #[.bool false, .slice none 0 0, .int .i64 0]
              have Q4 := Lib.hid (Q4.out.below (al1 w4 (.cells #[.bool false, .slice none 0 0, .int .i64 0] 41)))
              have hg := D.size
              have D := D.alloc D.size (.cells #[.bool false, .slice none 0 0, .int .i64 0] 41)
              (refine wpAnyL_one (i := 3) (o := _) (by kernel_rfl) rfl (fun K hK => ?_); clear hHeld; simp only [List.getElem_toArray, List.getElem_cons_zero, List.getElem_cons_succ]; go_simp; (go_at_call 36; (with_reducible refine (QA.out _ _ _ (KP.out _ D).2 Q4.out).mono ?_); rintro e w5 ⟨b5, A5, n5, c5, t5, z5, rfl, r1, r2, r3, r4, r5, r6, hb5⟩; have hgl := R.lt; have D := D.trans (hb5.mono D.size); have R := R.below hb5 R.lt); refine hK.out _ _ ?_ (fun hHeld => ?_); focus (intro _; exact (KP.out _ D).1)); have hHeld := hHeld (by decide); clear hK K; (try simp only [Act.put, List.setIfInBounds_toArray, List.set_cons_zero, List.set_cons_succ])
              have f0 := R.frozen 0; have f1 := R.frozen 1; have f2 := R.frozen 2; have t0 := R.at_ 0 rfl; have t1 := R.at_ 1 rfl; have t2 := R.at_ 2 rfl
              have X := Lib.hid (And.intro (blk3 R (.bool b5) (.slice A5 n5 c5) (.int .i64 t5)) (And.intro (show QS 4400 2200 _ _ sf from ⟨z5, t5, ⟨b5, A5, n5, c5, rfl, QC.set3 r1 (off_new r6 hgl) (.bool b5) (.slice A5 n5 c5) (.int .i64 t5)⟩, r2, r3, r4, r5⟩) (below3q D hg (.bool b5) (.slice A5 n5 c5) (.int .i64 t5))))
              clear hHeld R r1 r2 r3 r4 r5 r6 hb5 D
              (refine wpAnyL_one (i := 5) (o := _) (by kernel_rfl) rfl (fun K hK => ?_); clear hHeld; simp only [List.getElem_toArray, List.getElem_cons_zero, List.getElem_cons_succ]; go_simp; refine hK.out _ _ ?_ (fun hHeld => ?_); focus (intro _; exact (KP.out _ X.out.2.2).1)); have hHeld := hHeld (by decide); clear hK K; (try simp only [Act.put, List.setIfInBounds_toArray, List.set_cons_zero, List.set_cons_succ])
              refine wpAnyL_done (by kernel_rfl) ?_ _
              go_wp2
              go_meet
              exact ⟨_, _, _, _, _, _, rfl, X.out.1, X.out.2.1, X.out.2.2⟩
          · (clear hHeld; simp only [List.getElem_toArray, List.getElem_cons_zero, List.getElem_cons_succ]; go_simp; refine hK.out _ _ ?_ (fun hHeld => ?_); focus (intro _; exact (KP.out _ ((Below.refl _ _).drew.alloc (Nat.le_refl _) _)).1)); have hHeld := hHeld (by decide); clear hK K; (try simp only [Act.put, List.setIfInBounds_toArray, List.set_cons_zero, List.set_cons_succ])
            have R := Blk.drew (Blk.new W3 41 #[.bool false, .slice none 0 0, .int .i64 0])
            have hg := Nat.le_refl W3.heap.size
            have D : Below W3.heap.size W3 (W3.alloc (.cells #[.bool false, .slice none 0 0, .int .i64 0] 41)).drew := ((Below.refl _ _).alloc (Nat.le_refl _) _).drew
            (refine wpAnyL_one (i := 2) (o := _) (by kernel_rfl) rfl (fun K hK => ?_); clear hHeld; simp only [List.getElem_toArray, List.getElem_cons_zero, List.getElem_cons_succ]; go_simp; (go_at_call 35; (with_reducible refine (QVz.out _).mono ?_); rintro e w4 ⟨b4, A4, n4, c4, t4, z4, rfl, r1, r2, r3, r4, r5, r6, hb⟩; have Q4 := Lib.hid (RetS.qs r1 r2 r3 r4 r5); have D := D.trans (hb.mono D.size); have R := R.below hb R.lt; clear r1 r2 r3 r4 r5 r6 hb); refine hK.out _ _ ?_ (fun hHeld => ?_); focus (intro _; exact (KP.out _ D).1)); have hHeld := hHeld (by decide); clear hK K; (try simp only [Act.put, List.setIfInBounds_toArray, List.set_cons_zero, List.set_cons_succ])
            (refine wpAnyL_one (i := 3) (o := _) (by kernel_rfl) rfl (fun K hK => ?_); clear hHeld; simp only [List.getElem_toArray, List.getElem_cons_zero, List.getElem_cons_succ]; go_simp; (go_at_call 36; (with_reducible refine (QA.out _ _ _ (KP.out _ D).2 Q4.out).mono ?_); rintro e w5 ⟨b5, A5, n5, c5, t5, z5, rfl, r1, r2, r3, r4, r5, r6, hb5⟩; have hgl := R.lt; have D := D.trans (hb5.mono D.size); have R := R.below hb5 R.lt); refine hK.out _ _ ?_ (fun hHeld => ?_); focus (intro _; exact (KP.out _ D).1)); have hHeld := hHeld (by decide); clear hK K; (try simp only [Act.put, List.setIfInBounds_toArray, List.set_cons_zero, List.set_cons_succ])
            have f0 := R.frozen 0; have f1 := R.frozen 1; have f2 := R.frozen 2; have t0 := R.at_ 0 rfl; have t1 := R.at_ 1 rfl; have t2 := R.at_ 2 rfl
            have X := Lib.hid (And.intro (blk3 R (.bool b5) (.slice A5 n5 c5) (.int .i64 t5)) (And.intro (show QS 4400 2200 _ _ sf from ⟨z5, t5, ⟨b5, A5, n5, c5, rfl, QC.set3 r1 (off_new r6 hgl) (.bool b5) (.slice A5 n5 c5) (.int .i64 t5)⟩, r2, r3, r4, r5⟩) (below3q D hg (.bool b5) (.slice A5 n5 c5) (.int .i64 t5))))
            clear hHeld R r1 r2 r3 r4 r5 r6 hb5 D
            (refine wpAnyL_one (i := 5) (o := _) (by kernel_rfl) rfl (fun K hK => ?_); clear hHeld; simp only [List.getElem_toArray, List.getElem_cons_zero, List.getElem_cons_succ]; go_simp; refine hK.out _ _ ?_ (fun hHeld => ?_); focus (intro _; exact (KP.out _ X.out.2.2).1)); have hHeld := hHeld (by decide); clear hK K; (try simp only [Act.put, List.setIfInBounds_toArray, List.set_cons_zero, List.set_cons_succ])
            refine wpAnyL_done (by kernel_rfl) ?_ _
            go_wp2
            go_meet
            exact ⟨_, _, _, _, _, _, rfl, X.out.1, X.out.2.1, X.out.2.2⟩
        case rest =>
          obtain ⟨g, b, A, n, c, t, rfl, XQ⟩ := hcut
          have q0 := XQ.out.1.at_ 0 rfl
          have q1 := XQ.out.1.at_ 1 rfl
          have q2 := XQ.out.1.at_ 2 rfl
          rcases cmp0 sf with ⟨e1, e2⟩ | ⟨e1, -, e2⟩
          · rw [e2] at e1
            rcases cmp0 sd with ⟨e3, e4⟩ | ⟨-, e3, e4⟩
            · have e := V2.out e2 e4
              subst e
              rw [e4] at e3
              subst e2
              subst e4
              clear V1 V2 V3
              cases sx <;> cases sy
              all_goals (
                have hs := SB.out
                simp at hs
                subst hs
                go_wp2_with (first
                  | (go_at_call 37; (with_reducible refine (C0.out _ _ _ XQ.out.2.1).mono ?_); rintro e w21 ⟨rfl, hb⟩; have KQ := Lib.hid (XQ.out.1.below hb XQ.out.1.lt); have q0 := KQ.out.at_ 0 rfl; have q1 := KQ.out.at_ 1 rfl; have q2 := KQ.out.at_ 2 rfl; have XQ2 := Lib.hid (XQ.out.2.1.below hb); have D := Lib.hid (XQ.out.2.2.trans (hb.mono XQ.out.2.2.size)); obtain ⟨⟨k0, k1, k2⟩, kq⟩ := KP.out _ D.out; clear hb)
                  | (go_at_call 37; (with_reducible refine (C0.out _ _ _ kq).mono ?_); rintro e w22 ⟨rfl, hb⟩; have D := Lib.hid (D.out.trans (hb.mono D.out.size)); clear hb)
                  | (go_at_call 12; (with_reducible refine (S0.out _ _).mono ?_); rintro e w24 ⟨rfl, rfl⟩)
                  | (go_at_call 19; (with_reducible refine (SU.out _).mono ?_); rintro e w25 ⟨rfl, hb⟩; have D := Lib.hid (D.out.trans (hb.mono D.out.size)); clear hb))
                go_ret2
                exact ⟨rfl, D3.out.trans (D.out.mono D3.out.size)⟩)
            · have e := V3.out e2 e4
              subst e2
              clear V1 V2 V3 e4 SU SB
              by_cases hm2 : mode = 2
              · rw [if_pos hm2] at e
                subst e
                subst hm2
                go_wp2_with (first
                  | (go_at_call 37; (with_reducible refine (C0.out _ _ _ XQ.out.2.1).mono ?_); rintro e w21 ⟨rfl, hb⟩; have KQ := Lib.hid (XQ.out.1.below hb XQ.out.1.lt); have q0 := KQ.out.at_ 0 rfl; have q1 := KQ.out.at_ 1 rfl; have q2 := KQ.out.at_ 2 rfl; have XQ2 := Lib.hid (XQ.out.2.1.below hb); have D := Lib.hid (XQ.out.2.2.trans (hb.mono XQ.out.2.2.size)); obtain ⟨⟨k0, k1, k2⟩, kq⟩ := KP.out _ D.out; clear hb)
                  | (go_at_call 37; (with_reducible refine (C0.out _ _ _ kq).mono ?_); rintro e w22 ⟨rfl, hb⟩; have D := Lib.hid (D.out.trans (hb.mono D.out.size)); clear hb)
                  | (go_at_call 12; (with_reducible refine (S0.out _ _).mono ?_); rintro e w24 ⟨rfl, rfl⟩))
                go_ret2
                exact ⟨rfl, D3.out.trans (D.out.mono D3.out.size)⟩
              · have t2 : (mode == 2) = false := by simp [hm2]
                rw [if_neg hm2] at e
                subst e
                clear hm2
                go_wp2_with (first
                  | (go_at_call 37; (with_reducible refine (C0.out _ _ _ XQ.out.2.1).mono ?_); rintro e w21 ⟨rfl, hb⟩; have KQ := Lib.hid (XQ.out.1.below hb XQ.out.1.lt); have q0 := KQ.out.at_ 0 rfl; have q1 := KQ.out.at_ 1 rfl; have q2 := KQ.out.at_ 2 rfl; have XQ2 := Lib.hid (XQ.out.2.1.below hb); have D := Lib.hid (XQ.out.2.2.trans (hb.mono XQ.out.2.2.size)); obtain ⟨⟨k0, k1, k2⟩, kq⟩ := KP.out _ D.out; clear hb)
                  | (go_at_call 37; (with_reducible refine (C0.out _ _ _ kq).mono ?_); rintro e w22 ⟨rfl, hb⟩; have D := Lib.hid (D.out.trans (hb.mono D.out.size)); clear hb)
                  | (go_at_call 12; (with_reducible refine (S0.out _ _).mono ?_); rintro e w24 ⟨rfl, rfl⟩))
                go_ret2
                exact ⟨rfl, D3.out.trans (D.out.mono D3.out.size)⟩
          · have e := V1.out e2
            subst e
            clear V1 V2 V3 e2 SU SB
            go_wp2_with (first
              | (go_at_call 37; (with_reducible refine (C0.out _ _ _ XQ.out.2.1).mono ?_); rintro e w21 ⟨rfl, hb⟩; have KQ := Lib.hid (XQ.out.1.below hb XQ.out.1.lt); have q0 := KQ.out.at_ 0 rfl; have q1 := KQ.out.at_ 1 rfl; have q2 := KQ.out.at_ 2 rfl; have XQ2 := Lib.hid (XQ.out.2.1.below hb); have D := Lib.hid (XQ.out.2.2.trans (hb.mono XQ.out.2.2.size)); obtain ⟨⟨k0, k1, k2⟩, kq⟩ := KP.out _ D.out; clear hb)
              | (go_at_call 17; (with_reducible refine (RO.out _ _ XQ2.out).mono ?_); rintro e w23 ⟨rfl, hb⟩; have D := Lib.hid (D.out.trans (hb.mono D.out.size)); clear hb))
            go_ret2
            exact ⟨rfl, D3.out.trans (D.out.mono D3.out.size)⟩
end PC
end Go.Proofs.YtejglcpiihkenaaGreatDoor

