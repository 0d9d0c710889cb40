/-
  RoundTurned: the walk.
-/
import Derived.Test.YtpmpkllpaceloaaDoorRK2
namespace Go.Proofs.YtpmpkllpaceloaaDoor
set_option linter.unusedVariables false
set_option linter.unusedSimpArgs false
open Go.RowKit
set_option linter.unusedVariables false
set_option linter.unusedSimpArgs false
namespace RC
open L NC NK DC
open Z (Nz Tz cmpv)
theorem dv_gv {w : World} {b A n c x d} (h : DV w (.agg #[.bool b, .slice A n c, .int .i64 x]) d) (e : d.er = 0) : GV w b A n c x d := by
  obtain ⟨b', A', n', c', x', l, he, -, -, -, -, g, -⟩ := h
  simp only [Value.agg.injEq, Array.mk.injEq, List.cons.injEq, Value.bool.injEq, Value.slice.injEq, Value.int.injEq, and_true, true_and] at he
  obtain ⟨rfl, ⟨rfl, rfl, rfl⟩, rfl⟩ := he
  exact g e
end RC
end Go.Proofs.YtpmpkllpaceloaaDoor
