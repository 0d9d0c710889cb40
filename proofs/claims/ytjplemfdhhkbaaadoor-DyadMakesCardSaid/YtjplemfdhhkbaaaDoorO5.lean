/-
  What is to be told of sums and products, by what they are worth.
-/
import Derived.Test.YtjplemfdhhkbaaaDoorO2
import Derived.Test.YtjplemfdhhkbaaaDoorE7
namespace Go.Proofs.YtjplemfdhhkbaaaDoor
set_option linter.unusedVariables false
set_option linter.unusedSimpArgs false
open Go.RowKit
set_option linter.unusedVariables false
set_option linter.unusedSimpArgs false
namespace QC
open Z (Nz Tz cmpv big)
open L NC NK ZC DC
theorem k_inj {x y : Int} {K : Nat} (h : x * 2 ^ K = y * 2 ^ K) : x = y := Int.eq_of_mul_eq_mul_right (Int.ne_of_gt (two_pos' K)) h
theorem QMul_v {M T M' T' : Nat} {u v : Value} {s s' p : Int} {w : World} (h : QS M T w u s) (h' : QS M' T' w v s') (k1 : M ≤ 400000) (k2 : M' ≤ 400000) (k3 : T ≤ 10000) (k4 : T' ≤ 10000) {K : Nat} (hK : K = 60000) (hp : p * 2 ^ K = s * s') :
    Calls Tryd.prog 38 #[u, v] w (RetS (M + M') (T + T') w p) := by
  obtain ⟨a, ta, ha, a1, a2, a3, a4⟩ := h
  obtain ⟨b, tb, hb, b1, b2, b3, b4⟩ := h'
  have := QMul_c u v a b ta tb w ha hb (lt_big a1 (by omega) (by omega)) (lt_big b1 (by omega) (by omega)) (by omega) (by omega)
  refine this.mono ?_
  rintro e w' ⟨b9, A9, n9, c9, rfl, hr, hb9⟩
  have e1 := sc_mul (m := a) (n := b) (x := -ta) (y := -tb) (by omega) (by omega) hK
  rw [a4, b4, ← hp] at e1
  have e2 := k_inj e1
  refine ⟨b9, A9, n9, c9, _, _, rfl, hr, ?_, by omega, by omega, by rw [← e2]; congr 1; omega, hb9⟩
  rw [Int.natAbs_mul, Nat.pow_add]
  exact Nat.mul_lt_mul'' a1 b1
theorem told_s {b : Bool} {A : Option Addr} {n c : Nat} {x : Int} {r : Re} {u : Value} {M T : Nat} {s m X : Int} {w : World} (hG : GV w b A n c x r.d) (hQ : QS M T w u s) (hM2 : M ≤ 340000) (hT : T ≤ 50000) (hr : r = fin m X) (hs : sc m X = s) (hX : -60000 ≤ X) :
    Calls Tryd.prog 21 #[.agg #[.bool b, .slice A n c, .int .i64 x], .int .i64 r.e, u] w (DC.RetB w (.bool true)) := by
  obtain ⟨z, t, ⟨bq, Aq, nq, cq, rfl, hv⟩, hM, h0, hT1, hs1⟩ := hQ
  exact ToldDyad_c b A n c x r bq Aq nq cq t z M T w hG hv hM ⟨h0, hT1⟩ hM2 hT (by rw [hr]; exact fin_eq (hs.trans hs1.symm) hX (by omega))
theorem shf_sc {m x n : Int} (hx : -10000 ≤ x) (hn : -20000 ≤ n ∧ n ≤ 20000) : sc (mkz m x) (n - mkt x) = sc m (x + n) := by
  unfold mkz mkt
  by_cases h : 0 ≤ x
  · rw [if_pos h, if_pos h, sc_shift _ _ _ (by omega)]
    congr 1; omega
  · rw [if_neg h, if_neg h]
    congr 1; omega
theorem dy_3' {d : Dy} {K : Nat} (hK : K = 12800) (g : Ok d) : d.m.natAbs < 2 ^ K := by
  have h := g.2.2.1
  have h2 := g.2.2.2.1
  have e : (4294967296 : Int) ^ 400 = 2 ^ K := by rw [hK]; exact lim_pow
  rw [e] at h h2
  exact lt_cast (by generalize (2 : Int) ^ K = P at *; omega)
theorem pow_lt2' {a b : Nat} (h : a < b) : 2 ^ a < 2 ^ b := Nat.pow_lt_pow_right (by decide) h
theorem dy_lt' {d : Dy} (g : Ok d) : (mkz d.m d.x).natAbs < 2 ^ 22800 := by
  have h3 := dy_3' rfl g
  have h4 := mkz_lt (E := 10000) h3 (show d.x ≤ 10000 from g.2.2.2.2.2)
  rwa [show 12800 + 10000 = 22800 from rfl] at h4
theorem QShift_v {u : Value} {d : Dy} {n : Int} {w : World} (g : Ok d) (hn : -20000 ≤ n ∧ n ≤ 20000) (h : QV w u (mkz d.m d.x) (mkt d.x)) :
    Calls Tryd.prog 33 #[u, .int .i64 n] w (RetS 42800 30000 w (sc d.m (d.x + n))) := by
  have hx := g.2.2.2.2
  have ht := mkt_bd d.x 10000 (by omega)
  refine (QShift_c u _ _ n w h (lt_big (dy_lt' g) (by decide) (by decide)) (by omega) (by omega)).mono fun e w' k => ?_
  have := RetV.s (E := 20000) (T := 30000) k (dy_lt' g) (by omega) (by omega) (by decide)
  rwa [shf_sc (by omega) hn] at this
theorem cmp_sc {c d : Dy} (g : Ok c) (g' : Ok d) : cmpv (S c) (S d) = Cmpn c d := by
  unfold Cmpn
  have e : ee c.er d.er = 0 := by rw [g.1, g'.1]; decide
  rw [if_neg (by simpa using e)]
  have h1 := g.2.2.2.2; have h2 := g'.2.2.2.2
  have e1 := sc_lv2 c d (by omega)
  have e2 := sc_lv2 d c (by omega)
  rw [show min d.x c.x = min c.x d.x by omega] at e2
  show cmpv (sc c.m c.x) (sc d.m d.x) = _
  rw [← e1, ← e2, cmpv_sc]
theorem add_sc {c d : Dy} (g : Ok c) (g' : Ok d) : DC.Add c d = fin (lv2 c d + lv2 d c) (min c.x d.x) ∧ sc (lv2 c d + lv2 d c) (min c.x d.x) = S c + S d := by
  have e : ee c.er d.er = 0 := by rw [g.1, g'.1]; decide
  have h1 := g.2.2.2.2; have h2 := g'.2.2.2.2
  refine ⟨by unfold DC.Add; rw [if_neg (by simpa using e)]; rfl, ?_⟩
  have e1 := sc_lv2 c d (by omega)
  have e2 := sc_lv2 d c (by omega)
  rw [show min d.x c.x = min c.x d.x by omega] at e2
  rw [sc_add, e1, e2]
  rfl
theorem sub_sc {c d : Dy} (g : Ok c) (g' : Ok d) : DC.Sub c d = fin (lv2 c (DC.neg d) + lv2 (DC.neg d) c) (min c.x d.x) ∧ sc (lv2 c (DC.neg d) + lv2 (DC.neg d) c) (min c.x d.x) = S c + -S d := by
  have e : ee c.er d.er = 0 := by rw [g.1, g'.1]; decide
  have h1 := g.2.2.2.2; have h2 := g'.2.2.2.2
  refine ⟨by unfold DC.Sub; rw [if_neg (by simpa using e)]; rfl, ?_⟩
  have k1 := sc_lv2 c (DC.neg d) (show -60000 ≤ min c.x d.x by omega)
  have k2 := sc_lv2 (DC.neg d) c (show -60000 ≤ min d.x c.x by omega)
  change sc (lv2 c (DC.neg d)) (min c.x d.x) = _ at k1
  change sc (lv2 (DC.neg d) c) (min d.x c.x) = sc (-d.m) d.x at k2
  rw [show min d.x c.x = min c.x d.x by omega] at k2
  rw [sc_add, k1, k2, sc_neg]
  rfl
theorem mul_sc {c d : Dy} (g : Ok c) (g' : Ok d) : DC.Mul c d = fin (c.m * d.m) (c.x + d.x) ∧ ∀ K : Nat, K = 60000 → sc (c.m * d.m) (c.x + d.x) * 2 ^ K = S c * S d := by
  have e : ee c.er d.er = 0 := by rw [g.1, g'.1]; decide
  have h1 := g.2.2.2.2; have h2 := g'.2.2.2.2
  exact ⟨by unfold DC.Mul; rw [if_neg (by simpa using e)], fun K hK => sc_mul (by omega) (by omega) hK⟩
theorem shf_d {d : Dy} {n : Int} (g : Ok d) (hn : -20000 ≤ n ∧ n ≤ 20000) : Shf d n = fin d.m (d.x + n) := by
  unfold Shf
  rw [if_neg (by simpa using g.1), if_neg (by omega)]
end QC
end Go.Proofs.YtjplemfdhhkbaaaDoor
