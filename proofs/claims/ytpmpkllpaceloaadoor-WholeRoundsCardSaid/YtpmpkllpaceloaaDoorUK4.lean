/-
  SumSterbenz: the walk.
-/
import Derived.Test.YtpmpkllpaceloaaDoorUK3
import Derived.Test.YtpmpkllpaceloaaDoorDK2
namespace Go.Proofs.YtpmpkllpaceloaaDoor
set_option linter.unusedVariables false
set_option linter.unusedSimpArgs false
open Go.RowKit
set_option linter.unusedVariables false
set_option linter.unusedSimpArgs false
namespace SC
open L NC NK DC RC
theorem shf_1 {b : Dy} (hb : Ok b) (h : (Shf b 1).e = 0) : S (Shf b 1).d = 2 * S b := by
  have hx := hb.2.2.2.2.1
  unfold Shf at h ⊢
  rw [if_neg (by simpa using hb.1), if_neg (by omega)] at h ⊢
  unfold S
  rw [fin_sc (by omega) h]
  have := sc_shift b.m b.x 1 (by omega)
  rw [show b.x + ((1 : Nat) : Int) = b.x + 1 by omega] at this
  rw [← this, sc_mul1, sc_mul1 b.m, show b.m * 2 ^ 1 = 2 * b.m by omega, Int.mul_assoc]
theorem shf_2 {b : Dy} (hb : Ok b) (h : (Shf b (-1)).e = 0) : 2 * S (Shf b (-1)).d = S b := by
  have hx := hb.2.2.2.2.1
  unfold Shf at h ⊢
  rw [if_neg (by simpa using hb.1), if_neg (by omega)] at h ⊢
  unfold S
  rw [fin_sc (by omega) h]
  have := sc_shift b.m (b.x + -1) 1 (by omega)
  rw [show b.x + -1 + ((1 : Nat) : Int) = b.x by omega] at this
  rw [← this, sc_mul1, sc_mul1 (b.m * 2 ^ 1), show b.m * 2 ^ 1 = 2 * b.m by omega, Int.mul_assoc]
theorem cmp_le {a b : Dy} (ha : Ok a) (hb : Ok b) (h : ¬ Cmpn a b > 0) : S a ≤ S b := by
  rw [cmpn_S ha hb] at h
  rcases cmpv_3 (S a) (S b) with ⟨e, k⟩ | ⟨e, k⟩ | ⟨e, k⟩ <;> rw [e] at h <;> omega
theorem fit_neg {d : Dy} {k : Int} (h : Fit d k) : Fit (neg d) k := by
  refine ⟨⟨h.ok.1, ?_, ?_⟩, h.x, by rw [S_neg]; have := h.lo; omega, by rw [S_neg]; have := h.hi; omega⟩
  · have := h.ok.2.1
    unfold can at *
    show (-d.m = 0 ∧ d.x = 0) ∨ -d.m % 2 = 1
    omega
  · have := h.ok.2.2
    unfold inb at *
    show -d.m < _ ∧ _ < -d.m ∧ -10000 ≤ d.x ∧ d.x ≤ 10000
    generalize (4294967296 : Int) ^ 400 = c400 at *
    omega
theorem sub_fit {a b : Dy} {j k : Int} (ha : Fit a j) (hb : Fit b k) (hk : j + k ≤ 256) : (Sub a b).e = 0 ∧ Ok (Sub a b).d ∧ S (Sub a b).d = S a - S b := by
  have h := add_fit ha (fit_neg hb) hk
  have e : Sub a b = DC.Add a (neg b) := rfl
  rw [e]
  exact ⟨h.1, h.2.1.ok, by rw [h.2.2, S_neg]; omega⟩
theorem OfD_e {x : Int} (h : (OfD x).e = 0) : F.exq x ≠ 2047 := fun h2 => by
  unfold OfD at h; rw [if_pos h2] at h; cases h
theorem ster_end {x y mode : Int} (hm : 0 ≤ mode ∧ mode ≤ 4) (hx : fi x) (hy : fi y) (o : Bool) (h1 : (Shf (OfD y).d 1).e = 0) (h2 : (Shf (OfD y).d (-1)).e = 0) (hn : ng (OfD y).d = o)
    (c1 : ¬ Cmpn (if o = true then (Shf (OfD y).d 1).d else (Shf (OfD y).d (-1)).d) (OfD x).d > 0) (c2 : ¬ Cmpn (OfD x).d (if o = true then (Shf (OfD y).d (-1)).d else (Shf (OfD y).d 1).d) > 0) :
    ∃ s, AT [x, F.neg y] mode = (s, false, 0) ∧ fi s ∧ (OfD s).e = 0 ∧ (OfD s).d = (Sub (OfD x).d (OfD y).d).d ∧ Ok (OfD s).d ∧ (Sub (OfD x).d (OfD y).d).e = 0 := by
  have fx := of_fit hx
  have fy := of_fit hy
  have s1 := shf_1 fy.2.ok h1
  have s2 := shf_2 fy.2.ok h2
  have g1 := shf_good (OfD y).d 1
  have g2 := shf_good (OfD y).d (-1)
  have ab := A_abs (OfD y).d
  have cond : (0 ≤ val y ∧ val y ≤ 2 * val x ∧ val x ≤ 2 * val y) ∨ (val y ≤ 0 ∧ 2 * val y ≤ val x ∧ 2 * val x ≤ val y) := by
    unfold val
    cases o
    · left
      simp only [Bool.false_eq_true, if_false] at c1 c2
      have k1 := cmp_le g2 fx.2.ok c1
      have k2 := cmp_le fx.2.ok g1 c2
      have k3 : 0 ≤ S (OfD y).d := by
        rcases Int.lt_or_le (S (OfD y).d) 0 with h | h
        · have := (ab.2 h).2; rw [hn] at this; cases this
        · exact h
      exact ⟨k3, by omega, by omega⟩
    · right
      simp only [if_true] at c1 c2
      have k1 := cmp_le g1 fx.2.ok c1
      have k2 := cmp_le fx.2.ok g2 c2
      have k3 : S (OfD y).d ≤ 0 := by
        rcases Int.lt_or_le 0 (S (OfD y).d) with h | h
        · have := (ab.1 (by omega)).2; rw [hn] at this; cases this
        · exact h
      exact ⟨k3, by omega, by omega⟩
  obtain ⟨e1, e2, e3, e4⟩ := ster_p hm hx hy cond
  have fs := of_fit e2
  obtain ⟨q1, q2, q3⟩ := sub_fit fx.2 fy.2 (by omega)
  refine ⟨(AT [x, F.neg y] mode).1, by rw [← e1, ← e4], e2, fs.1, ?_, fs.2.ok, q1⟩
  exact S_inj fs.2.ok q2 (by rw [q3]; exact e3)
end SC
end Go.Proofs.YtpmpkllpaceloaaDoor
