/-
  The reference's products by what they are worth; sums of products.
-/
import Derived.Test.YtpmjeipdldnnbaaDoorP4
import Derived.Test.YtpmjeipdldnnbaaDoorK13
import Derived.Test.YtpmjeipdldnnbaaDoorQ15
namespace Go.Proofs.YtpmjeipdldnnbaaDoor
set_option linter.unusedVariables false
set_option linter.unusedSimpArgs false
open Go.RowKit
set_option linter.unusedVariables false
set_option linter.unusedSimpArgs false
namespace PC
open Z (Nz Tz cmpv big)
open ZC DC RC QC SC VC
theorem nat_limP {z t s k : Int} {M : Nat} (hM : M = 4400) (hk : k = 2056) (h0 : 0 ≤ t) (h1 : t ≤ 2200) (he : sc z (-t) = s) (hs : s ≤ sc 1 k ∧ -(sc 1 k) ≤ s) : z.natAbs < 2 ^ M := by
  obtain ⟨j, hj⟩ : ∃ j : Nat, k + t = j := ⟨(k + t).toNat, by omega⟩
  have e2 : sc 1 k = 2 ^ j * sc 1 (-t) := by
    rw [← sc_mul1, sc_two j _ (by omega)]
    congr 1; omega
  have hp := sc_one_pos (-t)
  rw [sc_mul1] at he
  rw [e2, ← he] at hs
  clear e2 he
  have hP := two_pos' j
  have l1 : z ≤ 2 ^ j := Int.le_of_mul_le_mul_right hs.1 hp
  have l2 : -(2 ^ j) ≤ z := by
    have := hs.2
    rw [← Int.neg_mul] at this
    exact Int.le_of_mul_le_mul_right this hp
  have hlt : (2 : Int) ^ j < 2 ^ M := two_lt' (by omega)
  apply lt_cast
  generalize (2 : Int) ^ M = P at *
  generalize (2 : Int) ^ j = Q at *
  omega
theorem QAdd_pm {M : Nat} (hM : M = 4400) {u v : Value} {s s' : Int} {w : World} {k : Int} (hk : k = 2056) (h : QS M 2200 w u s) (h' : QS M 2200 w v s') (hs : s + s' ≤ sc 1 k ∧ -(sc 1 k) ≤ s + s') : Calls Tryd.prog 92 #[u, v] w (RetSF M 2200 w (s + s')) := by
  obtain ⟨a, ta, ha, a1, a2, a3, a4⟩ := h
  obtain ⟨b, tb, hb, b1, b2, b3, b4⟩ := h'
  have c1 := up_lt (tb := tb) a1 a2 b3
  have c2 := up_lt (tb := ta) b1 b2 a3
  have := QAdd_f u v a b ta tb w ha hb (lt_big a1 (by omega) (by omega)) (lt_big b1 (by omega) (by omega)) (by omega) (by omega) (lt_big c1 (by omega) (by omega)) (lt_big c2 (by omega) (by omega))
  have e1 := up_sc (a := a) (ta := ta) (tb := tb) (by omega)
  have e2 := up_sc (a := b) (ta := tb) (tb := ta) (by omega)
  rw [show max tb ta = max ta tb by omega] at e2
  refine this.mono ?_
  rintro e w' ⟨b9, A9, n9, c9, rfl, hr, hfr, hb9⟩
  have es : sc (up a ta tb + up b tb ta) (-(max ta tb)) = s + s' := by rw [sc_add, e1, e2, a4, b4]
  exact ⟨b9, A9, n9, c9, _, _, rfl, hr, nat_limP hM hk (by omega) (by omega) es hs, by omega, by omega, es, hfr, hb9⟩
theorem QAdd_p {u v : Value} {s s' : Int} {w : World} {k : Int} (hk : k = 2056) (h : QS 4400 2200 w u s) (h' : QS 4400 2200 w v s') (hs : s + s' ≤ sc 1 k ∧ -(sc 1 k) ≤ s + s') : Calls Tryd.prog 92 #[u, v] w (RetSF 4400 2200 w (s + s')) := QAdd_pm rfl hk h h' hs
theorem fit_k {d : Dy} {j K : Int} (h : FitP d j) (hj : j ≤ 256) (hK : K = 2056) : S d ≤ sc 1 K ∧ -(sc 1 K) ≤ S d := by
  have := fit_limP hj hK
  have h1 := h.hi
  have h2 := h.lo
  omega
end PC
end Go.Proofs.YtpmjeipdldnnbaaDoor
