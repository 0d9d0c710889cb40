/-
  DyadBack: the walk.
-/
import Derived.Test.YtpmpkllpaceloaaDoorDK1
namespace Go.Proofs.YtpmpkllpaceloaaDoor
set_option linter.unusedVariables false
set_option linter.unusedSimpArgs false
open Go.RowKit
set_option linter.unusedVariables false
namespace DC
open L NC NK
open Z (Nz Tz cmpv)
theorem sub_ok' {a b : Dy} (h : (Sub a b).e = 0) (ga : a.er = 0 → Ok a) (gb : b.er = 0 → Ok b) : a.er = 0 ∧ b.er = 0 ∧ S (Sub a b).d = S a - S b := by
  unfold Sub at h ⊢
  by_cases h0 : ee a.er b.er = 0
  · rw [if_neg (by simpa using h0)] at h ⊢
    have h1 := ee0.1 h0
    have ga := ga h1.1
    have gb := gb h1.2
    have x1 := ga.2.2.2.2.1
    have x2 := gb.2.2.2.2.1
    refine ⟨h1.1, h1.2, ?_⟩
    unfold sum at h ⊢
    unfold S
    have ex : (neg b).x = b.x := rfl
    rw [fin_sc (by omega) h, sc_add, sc_lv2 a (neg b) (by omega)]
    have := sc_lv2 (neg b) a (by omega)
    rw [Int.min_comm (neg b).x a.x] at this
    rw [this]
    show sc a.m a.x + sc (-b.m) b.x = _
    rw [sc_neg]; omega
  · rw [if_pos (by simpa using h0)] at h
    exact absurd h h0
theorem sub_good (a b : Dy) : Ok (Sub a b).d := by
  unfold Sub
  split
  · exact ok_dz
  · exact fin_ok _ _
theorem back_d {a b : Dy} (ga : a.er = 0 → Ok a) (gb : b.er = 0 → Ok b) (h1 : (Add a b).e = 0) (h2 : (Sub (Add a b).d b).e = 0) : (Sub (Add a b).d b).d = a := by
  have h := add_ok h1 ga gb
  apply S_inj (sub_good _ _) (ga h.1)
  rw [(sub_ok' h2 (fun _ => add_good _ _) gb).2.2, h.2.2]; omega
theorem none_d {a : Dy} (h : a.er = 0) : Sub a a = ⟨0, dz⟩ := by
  unfold Sub sum
  rw [if_neg (by rw [h]; decide)]
  have : lv2 a (neg a) + lv2 (neg a) a = 0 := by
    unfold lv2
    show a.m * 2 ^ (a.x - min a.x a.x).toNat + -a.m * 2 ^ (a.x - min a.x a.x).toNat = 0
    rw [Int.neg_mul]; omega
  rw [this, fin_zero]
theorem sub_er {a : Dy} (h : a.er ≠ 0) (b : Dy) : (Sub a b).e ≠ 0 ∧ (Add a b).e ≠ 0 := by
  have : ee a.er b.er ≠ 0 := fun e => h (ee0.1 e).1
  unfold Sub Add
  rw [if_pos this, if_pos this]
  exact ⟨this, this⟩
theorem shf_val {a : Dy} {n : Int} (h0 : a.er = 0) (hn : ¬ (n < -20000 ∨ 20000 < n)) : Shf a n = fin a.m (a.x + n) := by
  unfold Shf
  rw [if_neg (by simpa using h0), if_neg hn]
theorem shf_ok {a : Dy} {n : Int} (h0 : a.er = 0) (ga : Ok a) (h : (Shf a n).e = 0) : -20000 ≤ n ∧ n ≤ 20000 ∧ Shf (Shf a n).d (-n) = ⟨0, a⟩ := by
  by_cases hn : n < -20000 ∨ 20000 < n
  · unfold Shf at h
    rw [if_neg (by simpa using h0), if_pos hn] at h; cases h
  · rw [shf_val h0 hn] at h ⊢
    refine ⟨by omega, by omega, ?_⟩
    rw [shf_val (fin_good _ _).2.1 (by omega)]
    by_cases hm : a.m = 0
    · have hx : a.x = 0 := by have := ga.2.1; unfold can at this; omega
      rw [hm, fin_zero]
      show fin 0 _ = _
      rw [fin_zero]
      have : a = dz := Dy.ext' h0 hm hx
      rw [this]
    · have ho : a.m % 2 = 1 := by have := ga.2.1; unfold can at this; omega
      have e : fin a.m (a.x + n) = if inb a.m (a.x + n + (0 : Nat)) then ⟨0, 0, a.m, a.x + n + (0 : Nat)⟩ else ⟨2, dz⟩ := fin_of (k := 0) (by simp) ho
      rw [e] at h ⊢
      by_cases hi : inb a.m (a.x + n + (0 : Nat))
      · rw [if_pos hi]
        show fin a.m (a.x + n + (0 : Nat) + -n) = _
        rw [show a.x + n + ((0 : Nat) : Int) + -n = a.x by simp; omega]
        exact fin_self h0 (fun _ => ⟨ga.2.1, ga.2.2⟩)
      · rw [if_neg hi] at h; cases h
end DC
end Go.Proofs.YtpmpkllpaceloaaDoor
