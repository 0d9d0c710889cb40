/-
  Package whole, pure: what Round, Int, From, Is tell (WT, IT, FT, WI); the laws.
-/
import Derived.Test.YtpmpkllpaceloaaDoorI3
namespace Go.Proofs.YtpmpkllpaceloaaDoor
set_option linter.unusedVariables false
set_option linter.unusedSimpArgs false
open Go.RowKit
set_option linter.unusedVariables false
set_option linter.unusedSimpArgs false
namespace IC
open L NC NK DC RC SC QC
open Z (cmpv)
/-- x as a whole number; is something lost -/
noncomputable def wn (x mode : Int) : Int := iw (val x) (sc 1 0) mode
def lostW (x : Int) : Bool := decide (val x % sc 1 0 ≠ 0)
noncomputable def WT (x mode : Int) : Int × Bool × Int :=
  if ¬ (0 ≤ mode ∧ mode ≤ 4) then (0, false, 1) else if F.cls x = 5 then (9221120237041090560, false, 0) else if F.cls x = 4 then (x, false, 0) else (WX x mode, lostW x, 0)
noncomputable def IT (x mode : Int) : Int × Bool × Int :=
  if ¬ (0 ≤ mode ∧ mode ≤ 4) then (0, false, 1) else if F.cls x = 5 ∨ F.cls x = 4 then (0, false, 4) else
  if -9223372036854775808 ≤ wn x mode ∧ wn x mode ≤ 9223372036854775807 then (wn x mode, lostW x, 0) else (0, false, 4)
noncomputable def FT (n mode : Int) : Int × Bool × Int :=
  if ¬ (0 ≤ mode ∧ mode ≤ 4) then (0, false, 1) else (TX (fin n 0).d mode, TL (fin n 0).d mode, 0)
def WI (x : Int) : Bool := !(decide (F.cls x = 5 ∨ F.cls x = 4)) && !lostW x
theorem P_pos : 0 < sc 1 0 := sc_one_pos 0
theorem fi_cls {x : Int} (hx : 0 ≤ x ∧ x ≤ 18446744073709551615) : fi x ↔ F.cls x ≠ 5 ∧ F.cls x ≠ 4 :=
  ⟨fun h => cls_fi.2 h.2.2, fun h => ⟨hx.1, hx.2, cls_fi.1 h⟩⟩
theorem wx_fi {x mode : Int} (h : fi x) (hm : 0 ≤ mode ∧ mode ≤ 4) : fi (WX x mode) ∧ val (WX x mode) = wn x mode * sc 1 0 ∧ F.sgn (WX x mode) = F.sgn x := by
  obtain ⟨-, -, -, -, -, -, -, h1, h2, h3⟩ := whole_p rfl h hm
  exact ⟨h1, h2, h3⟩
theorem wn_wx {x mode mode' : Int} (h : fi x) (hm : 0 ≤ mode ∧ mode ≤ 4) : wn (WX x mode) mode' = wn x mode ∧ lostW (WX x mode) = false := by
  obtain ⟨h1, h2, h3⟩ := wx_fi h hm
  constructor
  · unfold wn at *
    rw [h2, iw_whole P_pos]
  · unfold lostW
    rw [h2, Int.mul_emod_left]; rfl
theorem wx_wx {x mode : Int} (h : fi x) (hm : 0 ≤ mode ∧ mode ≤ 4) : WX (WX x mode) mode = WX x mode := by
  obtain ⟨h1, h2, h3⟩ := wx_fi h hm
  obtain ⟨g1, g2, g3⟩ := wx_fi h1 hm
  exact num_ext g1 h1 g3 (by rw [g2, h2, (wn_wx h hm).1])
theorem wx_same {x mode : Int} (h : fi x) (hm : 0 ≤ mode ∧ mode ≤ 4) : WX x mode = x ↔ lostW x = false := by
  obtain ⟨h1, h2, h3⟩ := wx_fi h hm
  constructor
  · intro e
    rw [e] at h2
    unfold lostW
    rw [h2, Int.mul_emod_left]; rfl
  · intro e
    refine num_ext h1 h h3 ?_
    unfold lostW at e
    have e := of_decide_eq_false e
    have e : val x % sc 1 0 = 0 := by omega
    rw [h2]
    unfold wn iw
    rw [if_pos e]
    have := Int.mul_ediv_add_emod (val x) (sc 1 0)
    rw [Int.mul_comm]; omega
theorem wx_near {x mode : Int} (h : fi x) (hm : 0 ≤ mode ∧ mode ≤ 4) : -sc 1 0 < val x - val (WX x mode) ∧ val x - val (WX x mode) < sc 1 0 := by
  rw [(wx_fi h hm).2.1]
  exact iw_near P_pos mode
theorem rnk_le {x y : Int} (hx : fi x) (hy : fi y) (h : val x ≤ val y) : F.rnk x ≤ F.rnk y := by
  have a := val_rnk hx
  have b := val_rnk hy
  rcases Int.lt_or_le (F.rnk x) 0 with h1 | h1 <;> rcases Int.lt_or_le (F.rnk y) 0 with h2 | h2
  · rw [a.2 h1, b.2 h2] at h
    rcases Int.lt_or_le (F.rnk y) (F.rnk x) with h3 | h3
    · have := U_lt (r := -F.rnk x) (s := -F.rnk y) (by omega) (by omega); omega
    · exact h3
  · omega
  · rw [a.1 h1, b.2 h2] at h
    have := U_pos h1
    have h4 := U_lt (r := 0) (s := -F.rnk y) (by omega) (by omega)
    rw [U_zero] at h4
    omega
  · rw [a.1 h1, b.1 h2] at h
    rcases Int.lt_or_le (F.rnk y) (F.rnk x) with h3 | h3
    · have := U_lt h2 h3; omega
    · exact h3
theorem wx_le {x y mode : Int} (hx : fi x) (hy : fi y) (hm : 0 ≤ mode ∧ mode ≤ 4) (h : F.rnk x ≤ F.rnk y) : F.rnk (WX x mode) ≤ F.rnk (WX y mode) := by
  obtain ⟨x1, x2, -⟩ := wx_fi hx hm
  obtain ⟨y1, y2, -⟩ := wx_fi hy hm
  refine rnk_le x1 y1 ?_
  rw [x2, y2]
  exact Int.mul_le_mul_of_nonneg_right (iw_mono P_pos (val_le hx hy h) mode) (Int.le_of_lt P_pos)
theorem wx_down {x : Int} (hx : fi x) : F.rnk (WX x 2) ≤ F.rnk x := by
  obtain ⟨x1, x2, -⟩ := wx_fi hx (mode := 2) (by omega)
  refine rnk_le x1 hx ?_
  rw [x2]
  exact iw_down P_pos
theorem wx_up {x : Int} (hx : fi x) : F.rnk x ≤ F.rnk (WX x 1) := by
  obtain ⟨x1, x2, -⟩ := wx_fi hx (mode := 1) (by omega)
  refine rnk_le hx x1 ?_
  rw [x2]
  exact iw_up P_pos
/-- an int, as a Dyad -/
theorem int_fin {n : Int} (hn : -9223372036854775808 ≤ n ∧ n ≤ 9223372036854775807) : (fin n 0).e = 0 ∧ Ok (fin n 0).d ∧ S (fin n 0).d = n * sc 1 0 := by
  have h1 := sc_two 63 0 (by omega)
  have h2 := sc1_le (x := 0 + ((63 : Nat) : Int)) (y := 1024) (by omega) (by omega)
  rw [← h1, sc_mul1, show (2 : Int) ^ 63 = 9223372036854775808 by decide] at h2
  have hp := P_pos
  have a := Int.mul_le_mul_of_nonneg_right (show n ≤ 9223372036854775808 by omega) (Int.le_of_lt hp)
  have b := Int.mul_le_mul_of_nonneg_right (show -9223372036854775808 ≤ n by omega) (Int.le_of_lt hp)
  have e0 : (fin n 0).e = 0 := fin_fit (k := 1) (by omega) (by omega) (by rw [sc_mul1 n 0]; omega) (by rw [sc_mul1 n 0]; omega)
  refine ⟨e0, fin_ok _ _, ?_⟩
  exact (fin_sc (by omega) e0).trans (sc_mul1 n 0)
/-- nothing is lost: the value is that -/
theorem not_lost {d : Dy} {mode : Int} (h : Ok d) (hm : 0 ≤ mode ∧ mode ≤ 4) (hl : TL d mode = false) : fi (TX d mode) ∧ val (TX d mode) = S d := by
  obtain ⟨r, hf, m, t, -⟩ := towA h
  obtain ⟨-, e2, -⟩ := TX_of h hm t
  rw [hl] at e2
  have k1 : hf = false := by cases hf <;> cases m <;> first | rfl | cases e2
  have k2 : m = false := by cases hf <;> cases m <;> first | rfl | cases e2
  subst k1
  subst k2
  have t1 := of_decide_eq_false t.hh.symm
  have t2 := of_decide_eq_false t.hm.symm
  have ea : A d = U r := by
    have t3 := t.lo
    have t4 : A d = sc (d.m.natAbs : Int) d.x := rfl
    rcases Int.lt_or_le (A d) (U r) with q | q
    · omega
    · rcases Int.lt_or_le (U r) (A d) with q2 | q2
      · exfalso
        apply t2
        refine ⟨by omega, by omega⟩
      · omega
  exact (exact_p hm h t.r0 t.r1 ea).2
theorem small_int {n mode : Int} (hn : -9007199254740992 ≤ n ∧ n ≤ 9007199254740992) (hm : 0 ≤ mode ∧ mode ≤ 4) : TL (fin n 0).d mode = false := by
  obtain ⟨e0, g, hS⟩ := int_fin (n := n) (by omega)
  have ab := abs_mul (n := n) P_pos
  have a := A_abs (fin n 0).d
  have hA : A (fin n 0).d = (n.natAbs : Int) * sc 1 0 := by
    rw [hS] at a
    rcases Int.lt_or_le n 0 with h3 | h3
    · rw [(a.2 (ab.2 h3).2).1, (ab.2 h3).1]
    · rw [(a.1 (ab.1 h3).2).1, (ab.1 h3).1]
  obtain ⟨M, hM⟩ : ∃ M : Int, M = 9218868437227405311 := ⟨_, rfl⟩
  have hP := P_pos
  have hUM : 9007199254740992 * sc 1 0 ≤ U M := by
    obtain ⟨j, hj⟩ : ∃ j : Nat, j = 2045 := ⟨_, rfl⟩
    have hU := (U_of (k := j) (q := 9007199254740991) (by omega) (by omega) (by omega)).1
    rw [show (j : Int) * 4503599627370496 + 9007199254740991 = M by omega] at hU
    have h1 := sc_two 1 0 (by omega)
    have h3 := sc1_le (x := 0 + ((1 : Nat) : Int)) (y := (j : Int) - 1074) (by omega) (by omega)
    rw [← h1, sc_mul1, show (2 : Int) ^ 1 = 2 by decide] at h3
    rw [hU]
    omega
  have hr : ∃ r, 0 ≤ r ∧ r ≤ M ∧ A (fin n 0).d = U r := by
    rw [hA]
    by_cases hb : (n.natAbs : Int) < 9007199254740992
    · have := Int.mul_le_mul_of_nonneg_right (show (n.natAbs : Int) ≤ 9007199254740992 by omega) (Int.le_of_lt hP)
      exact rank_of (N := (n.natAbs : Int)) (q := (n.natAbs : Int)) (k := 1074) hM (show sc 1 0 = sc 1 (((1074 : Nat) : Int) - 1074) from rfl) rfl (by omega) (by omega) (by omega) (by omega)
    · have hb : (n.natAbs : Int) = 9007199254740992 := by omega
      have h1 := sc_two 1 0 (by omega)
      rw [sc_mul1, show (2 : Int) ^ 1 = 2 by decide, show (0 : Int) + ((1 : Nat) : Int) = ((1075 : Nat) : Int) - 1074 by decide] at h1
      rw [hb]
      exact rank_of (N := 4503599627370496) (q := 4503599627370496) (k := 1075) hM rfl (by omega) (by omega) (by omega) (by omega) (by omega)
  obtain ⟨r, r0, r1, hr⟩ := hr
  exact (exact_p hm g r0 (by omega) hr).1
/-- an int to a number and back -/
theorem back_p {n mode : Int} (hn : -9223372036854775808 ≤ n ∧ n ≤ 9223372036854775807) (hm : 0 ≤ mode ∧ mode ≤ 4) (hl : TL (fin n 0).d mode = false) : IT (TX (fin n 0).d mode) mode = (n, false, 0) := by
  obtain ⟨e0, g, hS⟩ := int_fin hn
  obtain ⟨h1, h2⟩ := not_lost g hm hl
  rw [hS] at h2
  have hw : wn (TX (fin n 0).d mode) mode = n := by unfold wn; rw [h2, iw_whole P_pos]
  have hz : lostW (TX (fin n 0).d mode) = false := by unfold lostW; rw [h2, Int.mul_emod_left]; rfl
  have hc := cls_fi.2 h1.2.2
  unfold IT
  rw [if_neg (by omega), if_neg (by omega), hw, hz, if_pos hn]
/-- an int of a number, and of the number rounded -/
theorem it_wt {x mode : Int} (hx : 0 ≤ x ∧ x ≤ 18446744073709551615) (hm : 0 ≤ mode ∧ mode ≤ 4) :
    (WT x mode).2.2 = 0 ∧ (IT (WT x mode).1 mode).2.2 = (IT x mode).2.2 ∧ (IT (WT x mode).1 mode).1 = (IT x mode).1 ∧ ((IT x mode).2.2 = 0 → (IT (WT x mode).1 mode).2.1 = false ∧ (IT x mode).2.1 = (WT x mode).2.1) := by
  by_cases hf : fi x
  · have hc := cls_fi.2 hf.2.2
    obtain ⟨h1, h2, h3⟩ := wx_fi hf hm
    have hc1 := cls_fi.2 h1.2.2
    have e : WT x mode = (WX x mode, lostW x, 0) := by unfold WT; rw [if_neg (by omega), if_neg (by omega), if_neg (by omega)]
    rw [e]
    dsimp only
    obtain ⟨w1, w2⟩ := wn_wx (mode' := mode) hf hm
    have i1 : IT x mode = if -9223372036854775808 ≤ wn x mode ∧ wn x mode ≤ 9223372036854775807 then (wn x mode, lostW x, 0) else (0, false, 4) := by unfold IT; rw [if_neg (by omega), if_neg (by omega)]
    have i2 : IT (WX x mode) mode = if -9223372036854775808 ≤ wn x mode ∧ wn x mode ≤ 9223372036854775807 then (wn x mode, false, 0) else (0, false, 4) := by unfold IT; rw [if_neg (by omega), if_neg (by omega), w1, w2]
    rw [i1, i2]
    split
    · exact ⟨rfl, rfl, rfl, fun _ => ⟨rfl, rfl⟩⟩
    · exact ⟨rfl, rfl, rfl, fun h => by simp at h⟩
  · have hc : F.cls x = 5 ∨ F.cls x = 4 := by
      rcases Classical.em (F.cls x = 5 ∨ F.cls x = 4) with h | h
      · exact h
      · exact absurd ((fi_cls hx).2 ⟨fun q => h (.inl q), fun q => h (.inr q)⟩) hf
    have e : ∃ y, WT x mode = (y, false, 0) ∧ (F.cls y = 5 ∨ F.cls y = 4) := by
      unfold WT
      rw [if_neg (by omega)]
      by_cases h5 : F.cls x = 5
      · rw [if_pos h5]; exact ⟨_, rfl, .inl (by decide)⟩
      · rw [if_neg h5, if_pos (by omega)]; exact ⟨_, rfl, by omega⟩
    obtain ⟨y, e, hy⟩ := e
    rw [e]
    dsimp only
    have i1 : IT x mode = (0, false, 4) := by unfold IT; rw [if_neg (by omega), if_pos hc]
    have i2 : IT y mode = (0, false, 4) := by unfold IT; rw [if_neg (by omega), if_pos hy]
    rw [i1, i2]
    exact ⟨rfl, rfl, rfl, fun h => by simp at h⟩
end IC
end Go.Proofs.YtpmpkllpaceloaaDoor
