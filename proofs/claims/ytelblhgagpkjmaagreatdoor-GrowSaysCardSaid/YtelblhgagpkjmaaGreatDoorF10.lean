/-
  Texts glued together for a claim: R10.
-/
import Derived.Test.YtelblhgagpkjmaaGreatDoorF8
/-
  Package round: multiple, Cut.
-/
namespace Go.Proofs.YtelblhgagpkjmaaGreatDoor
set_option linter.unusedVariables false
set_option linter.unusedSimpArgs false
open Go.RowKit
set_option linter.unusedVariables false
set_option linter.unusedSimpArgs false
namespace RC
open L NC NK DC
open Z (Nz Tz cmpv)
/-- what Cut tells -/
def cq (d : Dy) (places mode : Int) : Int :=
  if up (ng d) (decide (sh (d.m.natAbs : Int) (d.x - places + 1) / 2 % 2 = 1)) (decide (sh (d.m.natAbs : Int) (d.x - places + 1) % 2 = 1)) (lo (d.m.natAbs : Int) (d.x - places + 1)) mode = true then sh (d.m.natAbs : Int) (d.x - places + 1) / 2 + 1 else sh (d.m.natAbs : Int) (d.x - places + 1) / 2
def CR (d : Dy) (places mode : Int) : Re := if d.er ≠ 0 then ⟨d.er, dz⟩ else if ¬ ((0 ≤ mode ∧ mode ≤ 4) ∧ -20000 ≤ places ∧ places ≤ 20000) then ⟨1, dz⟩ else if d.m = 0 ∨ places ≤ d.x then ⟨0, d⟩ else fin (sgm (ng d) (cq d places mode)) places
def CL (d : Dy) (places mode : Int) : Bool := if d.er ≠ 0 ∨ ¬ ((0 ≤ mode ∧ mode ≤ 4) ∧ -20000 ≤ places ∧ places ≤ 20000) ∨ d.m = 0 ∨ places ≤ d.x then false else decide ((CR d places mode).e = 0)
def RetCt (w : World) (r : Re) (l : Bool) (e : Ending) (w' : World) : Prop :=
  ∃ b A n c x, e = .returned (.tuple #[.agg #[.bool b, .slice A n c, .int .i64 x], .bool l, .int .i64 r.e]) ∧ GV w' b A n c x r.d ∧ Below w.heap.size w w'
theorem RetCt.none {w w' : World} {er : Int} (hb : Below w.heap.size w w') : RetCt w ⟨er, dz⟩ false (.returned (.tuple #[.agg #[.bool false, .slice none 0 0, .int .i64 0], .bool false, .int .i64 er])) w' := ⟨_, _, _, _, _, rfl, GV.zero _, hb⟩
end RC
end Go.Proofs.YtelblhgagpkjmaaGreatDoor

