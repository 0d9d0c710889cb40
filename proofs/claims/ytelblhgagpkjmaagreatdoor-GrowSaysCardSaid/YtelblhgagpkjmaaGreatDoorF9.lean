/-
  Texts glued together for a claim: R7 R8 R9 FloatR.
-/
import Derived.Test.YtelblhgagpkjmaaGreatDoorF8
import Derived.Test.YtelblhgagpkjmaaGreatDoorF7
/-
  Package round: isDirection, nudge, Part.
-/
namespace Go.Proofs.YtelblhgagpkjmaaGreatDoor
set_option linter.unusedVariables false
set_option linter.unusedSimpArgs false
open Go.RowKit
set_option linter.unusedVariables false
set_option linter.unusedSimpArgs false
namespace RC
open L NC NK DC
open Z (Nz Tz cmpv)
/-- nudged -/
def nz (b1 b2 : Bool) (z1 z2 : Int) : Int := if z2 = 0 then z1 else if z1 = 0 then 1 else if b1 = b2 then z1 * 18446744073709551616 + 1 else z1 * 18446744073709551616 - 1
def nx (z1 z2 x : Int) : Int := if z2 = 0 then x else if z1 = 0 then -10000 else x - 64
def nb (b1 b2 : Bool) (z1 z2 : Int) : Bool := if z2 = 0 then b1 else if z1 = 0 then b2 else b1
def RetN (w : World) (b : Bool) (z x : Int) (e : Ending) (w' : World) : Prop := ∃ A n c, e = .returned (.agg #[.bool b, .slice A n c, .int .i64 x]) ∧ PV w' (.slice A n c) 0 z ∧ Below w.heap.size w w'
end RC
end Go.Proofs.YtelblhgagpkjmaaGreatDoor

/-
  Package round: Part.
-/
namespace Go.Proofs.YtelblhgagpkjmaaGreatDoor
set_option linter.unusedVariables false
set_option linter.unusedSimpArgs false
open Go.RowKit
set_option linter.unusedVariables false
set_option linter.unusedSimpArgs false
namespace RC
open L NC NK DC
open Z (Nz Tz cmpv)
def ax (c d : Dy) : Int := nx (c.m.natAbs : Int) (d.m.natAbs : Int) c.x
def bz (c d : Dy) : Bool := nb (ng c) (ng d) (c.m.natAbs : Int) (d.m.natAbs : Int)
end RC
end Go.Proofs.YtelblhgagpkjmaaGreatDoor

/-
  Rounding, pure: a part more, a part less.
-/
namespace Go.Proofs.YtelblhgagpkjmaaGreatDoor
set_option linter.unusedVariables false
set_option linter.unusedSimpArgs false
open Go.RowKit
set_option linter.unusedVariables false
set_option linter.unusedSimpArgs false
namespace RC
open L NC NK DC
open Z (Nz Tz cmpv)
end RC
end Go.Proofs.YtelblhgagpkjmaaGreatDoor

/-
  What the reference functions on numbers' bits return (fields, class, rank, the number of a rank), for every argument.
-/
namespace Go.Proofs.YtelblhgagpkjmaaGreatDoor
set_option linter.unusedVariables false
set_option linter.unusedSimpArgs false
open Go.RowKit
set_option linter.unusedVariables false
namespace FloatR
theorem Fields_c (x : Int) (h0 : 0 ≤ x) (h1 : x ≤ 18446744073709551615) (w : World) :
    Calls Tryz.prog 52 #[.int .u64 x] w fun e w' => e = .returned (.tuple #[.bool (F.sgn x), .int .i64 (F.exq x), .int .i64 (F.fra x)]) ∧ w = w' := by
  have e1 := Lib.hid (F.exq_ref x)
  go_enter Tryz.func52, Tryz.ntmps52
  go_wp2
  go_ret3
  rw [← e1.out]
  exact ⟨rfl, rfl⟩
theorem ClassOf_c (x : Int) (h0 : 0 ≤ x) (h1 : x ≤ 18446744073709551615) (w : World) :
    Calls Tryz.prog 40 #[.int .u64 x] w fun e w' => e = .returned (.int .i64 (F.cls x)) ∧ w = w' := by
  have e1 := F.exq_bd x
  have f1 := F.fra_bd x
  go_enter Tryz.func40, Tryz.ntmps40
  go_wp2_with (first | (go_at_call 52; (with_reducible refine (Fields_c x h0 h1 _).mono ?_); rintro e w' ⟨rfl, rfl⟩))
  all_goals (go_ret; refine ⟨ret_int ?_, rfl⟩; unfold F.cls; simp_all; try omega)
  all_goals (repeat (first | omega | split))
theorem Ranked_c (n : Int) (h0 : -9218868437227405312 ≤ n) (h1 : n ≤ 9218868437227405312) (w : World) :
    Calls Tryz.prog 123 #[.int .i64 n] w fun e w' => e = .returned (.int .u64 (F.num n)) ∧ w = w' := by
  have r1 := Lib.hid (show (if n < 0 then 9223372036854775808 - n else n) = F.num n from rfl)
  by_cases h : n < 0
  · go_enter Tryz.func123, Tryz.ntmps123
    go_wp2
    go_ret
    refine ⟨ret_int ?_, rfl⟩
    rw [← r1.out, if_pos h]
    try simp only [IntKind.wrap_u64]
    omega
  · go_enter Tryz.func123, Tryz.ntmps123
    go_wp2
    go_ret
    refine ⟨ret_int ?_, rfl⟩
    rw [← r1.out, if_neg (by omega)]
theorem Between_t (n a b : Int) (h0 : a ≤ n) (h1 : n ≤ b) (w : World) :
    Calls Tryz.prog 33 #[.int .i64 n, .int .i64 a, .int .i64 b] w fun e w' => e = .returned (.bool true) ∧ w = w' := by
  go_enter Tryz.func33, Tryz.ntmps33
  go_wp2
  go_ret
  exact ⟨rfl, rfl⟩
theorem Between_f (n a b : Int) (h : n < a ∨ b < n) (w : World) :
    Calls Tryz.prog 33 #[.int .i64 n, .int .i64 a, .int .i64 b] w fun e w' => e = .returned (.bool false) ∧ w = w' := by
  by_cases h0 : n < a
  · go_enter Tryz.func33, Tryz.ntmps33
    go_wp2
    go_ret
    exact ⟨rfl, rfl⟩
  · have h1 : b < n := by omega
    have h2 : a ≤ n := by omega
    clear h
    go_enter Tryz.func33, Tryz.ntmps33
    go_wp2
    go_ret
    exact ⟨ret_bool (by simp; omega), rfl⟩
end FloatR
end Go.Proofs.YtelblhgagpkjmaaGreatDoor

