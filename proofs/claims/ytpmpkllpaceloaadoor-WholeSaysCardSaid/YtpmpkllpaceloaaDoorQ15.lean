/-
  Rounded, and To and Part: what each tells.
-/
import Derived.Test.YtpmpkllpaceloaaDoorQ14
namespace Go.Proofs.YtpmpkllpaceloaaDoor
set_option linter.unusedVariables false
set_option linter.unusedSimpArgs false
open Go.RowKit
set_option linter.unusedVariables false
set_option linter.unusedSimpArgs false
namespace QC
open Z (Nz Tz cmpv big)
open ZC DC RC
theorem sa_A (d : Dy) : sa (S d) = A d ∧ decide (S d < 0) = ng d := by
  have ab := A_abs d
  constructor
  · unfold sa
    by_cases h0 : S d < 0
    · rw [if_pos h0]; exact (ab.2 h0).1.symm
    · rw [if_neg h0]; exact (ab.1 (by omega)).1.symm
  · by_cases h0 : S d < 0
    · rw [decide_eq_true h0]; exact (ab.2 h0).2.symm
    · rw [decide_eq_false h0]; exact (ab.1 (by omega)).2.symm
theorem Rounded_t {M T : Nat} {u : Value} {w : World} {d : Dy} {mode : Int} (h : QS M T w u (S d)) (hM : M ≤ 200000) (hT : T ≤ 20000) (hd : Ok d) (hm : 0 ≤ mode ∧ mode ≤ 4) :
    Calls Tryd.prog 12 #[u, .int .i64 0, .int .i64 mode] w fun e w' => e = .returned (.tuple #[.int .u64 (TX d mode), .bool (TL d mode)]) ∧ Below w.heap.size w w' := by
  obtain ⟨r, hf, m, t, -⟩ := towA hd
  obtain ⟨e1, e2, -⟩ := TX_of hd hm t
  obtain ⟨es, eg⟩ := sa_A d
  rw [← es] at t
  obtain ⟨k1, k2⟩ := rounded_0 t hm
  have := Rounded_w u (S d) (lw (S d) r hf m) 0 mode w h hM hT (lw_low t) (by omega) hm (loR_bd t)
  rw [k1, k2, eg] at this
  rw [e1, e2]
  exact this
end QC
end Go.Proofs.YtpmpkllpaceloaaDoor
