/-
  QuotRem: the walk.
-/
import Derived.Test.YtpmjeipdldnnbaaDoorJ14
namespace Go.Proofs.YtpmjeipdldnnbaaDoor
set_option linter.unusedVariables false
set_option linter.unusedSimpArgs false
open Go.RowKit
set_option linter.unusedVariables false
set_option linter.unusedSimpArgs false
namespace JC
open L NC NK DC RC SC PC
theorem remV_c (x y : Int) (w : World) (hx : 0 ≤ x ∧ x ≤ 18446744073709551615) (hy : 0 ≤ y ∧ y ≤ 18446744073709551615) (hT : TabD w) :
    Calls Tryd.prog 3 #[.int .u64 x, .int .u64 y] w fun e w' => e = .returned (.bool true) ∧ Below w.heap.size w w' := by
  have A1 := Lib.hid (Rem_c x y w hx hy hT)
  have A2 : Hid (∀ W : World, Calls Tryd.prog 10 #[.int .u64 x, .int .u64 y] W fun e w' => e = .returned (.int .u64 (RM x y)) ∧ Below W.heap.size W w') := fun W => RemainderOf_c x y W hx hy
  generalize RM x y = r at *
  have t : (r == r) = true := by simp
  clear hT hx hy
  go_enter Tryd.func3, Tryd.ntmps3
  go_wp2_with (first
    | (go_at_call 9; (with_reducible refine (A1.out).mono ?_); rintro e w1 ⟨rfl, hb⟩; have D := Lib.hid hb; clear hb)
    | (go_at_call 10; (with_reducible refine (A2.out _).mono ?_); rintro e w2 ⟨rfl, hb⟩; have D := Lib.hid (D.out.trans (hb.mono D.out.size)); clear hb))
  go_ret
  exact ⟨rfl, D.out⟩
end JC
end Go.Proofs.YtpmjeipdldnnbaaDoor
