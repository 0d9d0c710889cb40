/-
  Package whole, pure: what Round, Int, From, Is tell (WT, IT, FT, WI); the laws.
-/
import Derived.Test.YtpmpkllpaceloaaDoorI3
namespace Go.Proofs.YtpmpkllpaceloaaDoor
set_option linter.unusedVariables false
set_option linter.unusedSimpArgs false
open Go.RowKit
set_option linter.unusedVariables false
set_option linter.unusedSimpArgs false
namespace IC
open L NC NK DC RC SC QC
open Z (cmpv)
/-- x as a whole number; is something lost -/
noncomputable def wn (x mode : Int) : Int := iw (val x) (sc 1 0) mode
def lostW (x : Int) : Bool := decide (val x % sc 1 0 ≠ 0)
noncomputable def WT (x mode : Int) : Int × Bool × Int :=
  if ¬ (0 ≤ mode ∧ mode ≤ 4) then (0, false, 1) else if F.cls x = 5 then (9221120237041090560, false, 0) else if F.cls x = 4 then (x, false, 0) else (WX x mode, lostW x, 0)
noncomputable def IT (x mode : Int) : Int × Bool × Int :=
  if ¬ (0 ≤ mode ∧ mode ≤ 4) then (0, false, 1) else if F.cls x = 5 ∨ F.cls x = 4 then (0, false, 4) else
  if -9223372036854775808 ≤ wn x mode ∧ wn x mode ≤ 9223372036854775807 then (wn x mode, lostW x, 0) else (0, false, 4)
noncomputable def FT (n mode : Int) : Int × Bool × Int :=
  if ¬ (0 ≤ mode ∧ mode ≤ 4) then (0, false, 1) else (TX (fin n 0).d mode, TL (fin n 0).d mode, 0)
def WI (x : Int) : Bool := !(decide (F.cls x = 5 ∨ F.cls x = 4)) && !lostW x
theorem P_pos : 0 < sc 1 0 := sc_one_pos 0
theorem fi_cls {x : Int} (hx : 0 ≤ x ∧ x ≤ 18446744073709551615) : fi x ↔ F.cls x ≠ 5 ∧ F.cls x ≠ 4 :=
  ⟨fun h => cls_fi.2 h.2.2, fun h => ⟨hx.1, hx.2, cls_fi.1 h⟩⟩
theorem wx_fi {x mode : Int} (h : fi x) (hm : 0 ≤ mode ∧ mode ≤ 4) : fi (WX x mode) ∧ val (WX x mode) = wn x mode * sc 1 0 ∧ F.sgn (WX x mode) = F.sgn x := by
  obtain ⟨-, -, -, -, -, -, -, h1, h2, h3⟩ := whole_p rfl h hm
  exact ⟨h1, h2, h3⟩
theorem wn_wx {x mode mode' : Int} (h : fi x) (hm : 0 ≤ mode ∧ mode ≤ 4) : wn (WX x mode) mode' = wn x mode ∧ lostW (WX x mode) = false := by
  obtain ⟨h1, h2, h3⟩ := wx_fi h hm
  constructor
  · unfold wn at *
    rw [h2, iw_whole P_pos]
  · unfold lostW
    rw [h2, Int.mul_emod_left]; rfl
/-- an int, as a Dyad -/
theorem int_fin {n : Int} (hn : -9223372036854775808 ≤ n ∧ n ≤ 9223372036854775807) : (fin n 0).e = 0 ∧ Ok (fin n 0).d ∧ S (fin n 0).d = n * sc 1 0 := by
  have h1 := sc_two 63 0 (by omega)
  have h2 := sc1_le (x := 0 + ((63 : Nat) : Int)) (y := 1024) (by omega) (by omega)
  rw [← h1, sc_mul1, show (2 : Int) ^ 63 = 9223372036854775808 by decide] at h2
  have hp := P_pos
  have a := Int.mul_le_mul_of_nonneg_right (show n ≤ 9223372036854775808 by omega) (Int.le_of_lt hp)
  have b := Int.mul_le_mul_of_nonneg_right (show -9223372036854775808 ≤ n by omega) (Int.le_of_lt hp)
  have e0 : (fin n 0).e = 0 := fin_fit (k := 1) (by omega) (by omega) (by rw [sc_mul1 n 0]; omega) (by rw [sc_mul1 n 0]; omega)
  refine ⟨e0, fin_ok _ _, ?_⟩
  exact (fin_sc (by omega) e0).trans (sc_mul1 n 0)
/-- an int of a number, and of the number rounded -/
theorem it_wt {x mode : Int} (hx : 0 ≤ x ∧ x ≤ 18446744073709551615) (hm : 0 ≤ mode ∧ mode ≤ 4) :
    (WT x mode).2.2 = 0 ∧ (IT (WT x mode).1 mode).2.2 = (IT x mode).2.2 ∧ (IT (WT x mode).1 mode).1 = (IT x mode).1 ∧ ((IT x mode).2.2 = 0 → (IT (WT x mode).1 mode).2.1 = false ∧ (IT x mode).2.1 = (WT x mode).2.1) := by
  by_cases hf : fi x
  · have hc := cls_fi.2 hf.2.2
    obtain ⟨h1, h2, h3⟩ := wx_fi hf hm
    have hc1 := cls_fi.2 h1.2.2
    have e : WT x mode = (WX x mode, lostW x, 0) := by unfold WT; rw [if_neg (by omega), if_neg (by omega), if_neg (by omega)]
    rw [e]
    dsimp only
    obtain ⟨w1, w2⟩ := wn_wx (mode' := mode) hf hm
    have i1 : IT x mode = if -9223372036854775808 ≤ wn x mode ∧ wn x mode ≤ 9223372036854775807 then (wn x mode, lostW x, 0) else (0, false, 4) := by unfold IT; rw [if_neg (by omega), if_neg (by omega)]
    have i2 : IT (WX x mode) mode = if -9223372036854775808 ≤ wn x mode ∧ wn x mode ≤ 9223372036854775807 then (wn x mode, false, 0) else (0, false, 4) := by unfold IT; rw [if_neg (by omega), if_neg (by omega), w1, w2]
    rw [i1, i2]
    split
    · exact ⟨rfl, rfl, rfl, fun _ => ⟨rfl, rfl⟩⟩
    · exact ⟨rfl, rfl, rfl, fun h => by simp at h⟩
  · have hc : F.cls x = 5 ∨ F.cls x = 4 := by
      rcases Classical.em (F.cls x = 5 ∨ F.cls x = 4) with h | h
      · exact h
      · exact absurd ((fi_cls hx).2 ⟨fun q => h (.inl q), fun q => h (.inr q)⟩) hf
    have e : ∃ y, WT x mode = (y, false, 0) ∧ (F.cls y = 5 ∨ F.cls y = 4) := by
      unfold WT
      rw [if_neg (by omega)]
      by_cases h5 : F.cls x = 5
      · rw [if_pos h5]; exact ⟨_, rfl, .inl (by decide)⟩
      · rw [if_neg h5, if_pos (by omega)]; exact ⟨_, rfl, by omega⟩
    obtain ⟨y, e, hy⟩ := e
    rw [e]
    dsimp only
    have i1 : IT x mode = (0, false, 4) := by unfold IT; rw [if_neg (by omega), if_pos hc]
    have i2 : IT y mode = (0, false, 4) := by unfold IT; rw [if_neg (by omega), if_pos hy]
    rw [i1, i2]
    exact ⟨rfl, rfl, rfl, fun h => by simp at h⟩
end IC
end Go.Proofs.YtpmpkllpaceloaaDoor
