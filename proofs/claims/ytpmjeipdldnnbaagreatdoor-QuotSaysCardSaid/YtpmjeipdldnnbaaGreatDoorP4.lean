/-
  Package prod, pure: Dot.
-/
import Derived.Test.YtpmjeipdldnnbaaGreatDoorP3
namespace Go.Proofs.YtpmjeipdldnnbaaGreatDoor
set_option linter.unusedVariables false
set_option linter.unusedSimpArgs false
open Go.RowKit
set_option linter.unusedVariables false
set_option linter.unusedSimpArgs false
namespace PC
open L NC NK DC RC SC
/-- the sum of products, by Dyads and by values -/
def pt : List Int → Dy → Dy
  | x :: y :: t, d => pt t (DC.Add d (PD x y).d).d
  | [_], d => d
  | [], d => d
def ps : List Int → Int
  | x :: y :: t => S (PD x y).d + ps t
  | [_] => 0
  | [] => 0
/-- is there one that has no value -/
def nf (L : List Int) : Bool := L.any fun x => F.exq x == 2047
noncomputable def DT (L : List Int) (mode : Int) : Int × Bool × Int :=
  if ¬ (0 ≤ mode ∧ mode ≤ 4) then (0, false, 1)
  else if L.length % 2 ≠ 0 then (0, false, 3)
  else if 200 < L.length then (0, false, 2)
  else if nf L = true then (0, false, 4)
  else (TX (pt L dz) mode, TL (pt L dz) mode, 0)
theorem DT_no {L : List Int} {mode : Int} (h : ¬ (0 ≤ mode ∧ mode ≤ 4)) : DT L mode = (0, false, 1) := by unfold DT; rw [if_pos h]
theorem DT_fi {L : List Int} {mode : Int} (hm : 0 ≤ mode ∧ mode ≤ 4) (h : L.length % 2 = 0) (h2 : ¬ 200 < L.length) (h3 : nf L = false) : DT L mode = (TX (pt L dz) mode, TL (pt L dz) mode, 0) := by unfold DT; rw [if_neg (by simpa using hm), if_neg (by simpa using h), if_neg h2, if_neg (by rw [h3]; simp)]
end PC
end Go.Proofs.YtpmjeipdldnnbaaGreatDoor
