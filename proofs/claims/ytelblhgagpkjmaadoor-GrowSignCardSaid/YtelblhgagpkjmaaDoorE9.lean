/-
  Texts glued together for a claim: R7 R8 R9 FloatR.
-/
import Derived.Test.YtelblhgagpkjmaaDoorE8
import Derived.Test.YtelblhgagpkjmaaDoorE7
/-
  Package round: isDirection, nudge, Part.
-/
namespace Go.Proofs.YtelblhgagpkjmaaDoor
set_option linter.unusedVariables false
set_option linter.unusedSimpArgs false
open Go.RowKit
set_option linter.unusedVariables false
set_option linter.unusedSimpArgs false
namespace RC
open L NC NK DC
open Z (Nz Tz cmpv)
/-- 0, 1 or -1 -/
def isdir (d : Dy) : Bool := decide (d.m = 0 ∨ (d.m.natAbs = 1 ∧ d.x = 0))
/-- nudged -/
def nz (b1 b2 : Bool) (z1 z2 : Int) : Int := if z2 = 0 then z1 else if z1 = 0 then 1 else if b1 = b2 then z1 * 18446744073709551616 + 1 else z1 * 18446744073709551616 - 1
def nx (z1 z2 x : Int) : Int := if z2 = 0 then x else if z1 = 0 then -10000 else x - 64
def nb (b1 b2 : Bool) (z1 z2 : Int) : Bool := if z2 = 0 then b1 else if z1 = 0 then b2 else b1
def RetN (w : World) (b : Bool) (z x : Int) (e : Ending) (w' : World) : Prop := ∃ A n c, e = .returned (.agg #[.bool b, .slice A n c, .int .i64 x]) ∧ PV w' (.slice A n c) 0 z ∧ Below w.heap.size w w'
end RC
end Go.Proofs.YtelblhgagpkjmaaDoor

/-
  Package round: Part.
-/
namespace Go.Proofs.YtelblhgagpkjmaaDoor
set_option linter.unusedVariables false
set_option linter.unusedSimpArgs false
open Go.RowKit
set_option linter.unusedVariables false
set_option linter.unusedSimpArgs false
namespace RC
open L NC NK DC
open Z (Nz Tz cmpv)
def az (c d : Dy) : Int := nz (ng c) (ng d) (c.m.natAbs : Int) (d.m.natAbs : Int)
def ax (c d : Dy) : Int := nx (c.m.natAbs : Int) (d.m.natAbs : Int) c.x
def bz (c d : Dy) : Bool := nb (ng c) (ng d) (c.m.natAbs : Int) (d.m.natAbs : Int)
def PE (c d : Dy) (mode : Int) : Int := if c.er ≠ 0 then c.er else if d.er ≠ 0 then d.er else if ¬ ((0 ≤ mode ∧ mode ≤ 4) ∧ isdir d = true) then 1 else if 4294967296 ^ 390 ≤ (c.m.natAbs : Int) then 2 else 0
noncomputable def PX (c d : Dy) (mode : Int) : Int := if PE c d mode = 0 then rx (bz c d) (YY (bz c d) (sc (az c d) (ax c d)) mode) else 0
end RC
end Go.Proofs.YtelblhgagpkjmaaDoor

/-
  Rounding, pure: a part more, a part less.
-/
namespace Go.Proofs.YtelblhgagpkjmaaDoor
set_option linter.unusedVariables false
set_option linter.unusedSimpArgs false
open Go.RowKit
set_option linter.unusedVariables false
set_option linter.unusedSimpArgs false
namespace RC
open L NC NK DC
open Z (Nz Tz cmpv)
end RC
end Go.Proofs.YtelblhgagpkjmaaDoor

/-
  What the reference functions on numbers' bits return (fields, class, rank, the number of a rank), for every argument.
-/
namespace Go.Proofs.YtelblhgagpkjmaaDoor
set_option linter.unusedVariables false
set_option linter.unusedSimpArgs false
open Go.RowKit
set_option linter.unusedVariables false
namespace FloatR
theorem Fields_c (x : Int) (h0 : 0 ≤ x) (h1 : x ≤ 18446744073709551615) (w : World) :
    Calls Tryd.prog 43 #[.int .u64 x] w fun e w' => e = .returned (.tuple #[.bool (F.sgn x), .int .i64 (F.exq x), .int .i64 (F.fra x)]) ∧ w = w' := by
  have e1 := Lib.hid (F.exq_ref x)
  go_enter Tryd.func43, Tryd.ntmps43
  go_wp2
  go_ret3
  rw [← e1.out]
  exact ⟨rfl, rfl⟩
theorem ClassOf_c (x : Int) (h0 : 0 ≤ x) (h1 : x ≤ 18446744073709551615) (w : World) :
    Calls Tryd.prog 36 #[.int .u64 x] w fun e w' => e = .returned (.int .i64 (F.cls x)) ∧ w = w' := by
  have e1 := F.exq_bd x
  have f1 := F.fra_bd x
  go_enter Tryd.func36, Tryd.ntmps36
  go_wp2_with (first | (go_at_call 43; (with_reducible refine (Fields_c x h0 h1 _).mono ?_); rintro e w' ⟨rfl, rfl⟩))
  all_goals (go_ret; refine ⟨ret_int ?_, rfl⟩; unfold F.cls; simp_all; try omega)
  all_goals (repeat (first | omega | split))
end FloatR
end Go.Proofs.YtelblhgagpkjmaaDoor

