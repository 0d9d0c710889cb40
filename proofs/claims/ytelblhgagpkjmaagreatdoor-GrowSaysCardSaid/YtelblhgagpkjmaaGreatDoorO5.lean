/-
  What is to be told of sums and products, by what they are worth.
-/
import Derived.Test.YtelblhgagpkjmaaGreatDoorF13
import Derived.Test.YtelblhgagpkjmaaGreatDoorF7
namespace Go.Proofs.YtelblhgagpkjmaaGreatDoor
set_option linter.unusedVariables false
set_option linter.unusedSimpArgs false
open Go.RowKit
set_option linter.unusedVariables false
set_option linter.unusedSimpArgs false
namespace QC
open Z (Nz Tz cmpv big)
open L NC NK ZC DC
theorem told_s {b : Bool} {A : Option Addr} {n c : Nat} {x : Int} {r : Re} {u : Value} {M T : Nat} {s m X : Int} {w : World} (hG : GV w b A n c x r.d) (hQ : QS M T w u s) (hM2 : M ≤ 340000) (hT : T ≤ 50000) (hr : r = fin m X) (hs : sc m X = s) (hX : -60000 ≤ X) :
    Calls Tryz.prog 12 #[.agg #[.bool b, .slice A n c, .int .i64 x], .int .i64 r.e, u] w (DC.RetB w (.bool true)) := by
  obtain ⟨z, t, ⟨bq, Aq, nq, cq, rfl, hv⟩, hM, h0, hT1, hs1⟩ := hQ
  exact ToldDyad_c b A n c x r bq Aq nq cq t z M T w hG hv hM ⟨h0, hT1⟩ hM2 hT (by rw [hr]; exact fin_eq (hs.trans hs1.symm) hX (by omega))
end QC
end Go.Proofs.YtelblhgagpkjmaaGreatDoor
