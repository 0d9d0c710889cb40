/-
  DyadOrder: the walk.
-/
import Derived.Test.YtpmpkllpaceloaaDoorDK1
namespace Go.Proofs.YtpmpkllpaceloaaDoor
set_option linter.unusedVariables false
set_option linter.unusedSimpArgs false
open Go.RowKit
set_option linter.unusedVariables false
namespace DC
open L NC NK
open Z (Nz Tz cmpv)
theorem cmpn_S {a b : Dy} (ha : Ok a) (hb : Ok b) : Cmpn a b = cmpv (S a) (S b) := by
  unfold Cmpn
  rw [if_neg (by rw [ha.1, hb.1]; decide)]
  have x1 := ha.2.2.2.2.1
  have x2 := hb.2.2.2.2.1
  have e1 := sc_lv2 a b (by omega)
  have e2 := sc_lv2 b a (by omega)
  rw [Int.min_comm b.x a.x] at e2
  unfold S
  rw [← e1, ← e2]
  rcases Int.lt_trichotomy (lv2 a b) (lv2 b a) with h | h | h
  · rw [Z.cmpv_lt h, Z.cmpv_lt (sc_lt.2 h)]
  · rw [Z.cmpv_eq h, Z.cmpv_eq (by rw [h])]
  · rw [Z.cmpv_gt h, Z.cmpv_gt (sc_lt.2 h)]
theorem cmpe_0 {a b : Dy} (ha : Ok a) (hb : Ok b) : Cmpe a b = 0 := by unfold Cmpe; rw [ha.1, hb.1]; rfl
theorem cmpv_3 (x y : Int) : (cmpv x y = -1 ∧ x < y) ∨ (cmpv x y = 0 ∧ x = y) ∨ (cmpv x y = 1 ∧ y < x) := by
  rcases Int.lt_trichotomy x y with h | h | h
  · exact .inl ⟨Z.cmpv_lt h, h⟩
  · exact .inr (.inl ⟨Z.cmpv_eq h, h⟩)
  · exact .inr (.inr ⟨Z.cmpv_gt h, h⟩)
/-- what the order is to say -/
structure Ord (v12 v21 v23 v13 : Int) (t : Bool) : Prop where
  w : IntKind.i64.wrap (-v21) = -v21
  a : (v12 != -v21) = false
  e : (v12 == 0) = t
  c : ¬ v12 ≤ 0 ∨ (v12 ≤ 0 ∧ ¬ v23 ≤ 0) ∨ (v12 ≤ 0 ∧ v23 ≤ 0 ∧ ¬ 0 < v13)
theorem ord_d {a b c : Dy} (ha : Ok a) (hb : Ok b) (hc : Ok c) : Ord (Cmpn a b) (Cmpn b a) (Cmpn b c) (Cmpn a c) (decide (a.m = b.m ∧ a.x = b.x)) := by
  rw [cmpn_S ha hb, cmpn_S hb ha, cmpn_S hb hc, cmpn_S ha hc]
  have he : (a.m = b.m ∧ a.x = b.x) ↔ S a = S b := by
    constructor
    · intro h; unfold S; rw [h.1, h.2]
    · intro h; rw [S_inj ha hb h]; exact ⟨rfl, rfl⟩
  have hd : decide (a.m = b.m ∧ a.x = b.x) = decide (S a = S b) := decide_eq_decide.2 he
  rw [hd]
  generalize S a = x
  generalize S b = y
  generalize S c = z
  have h1 := cmpv_3 x y
  have h2 := cmpv_3 y x
  have h3 := cmpv_3 y z
  have h4 := cmpv_3 x z
  refine ⟨IntWalk.i64_in _ (by omega), by rw [bne_eq_false_iff_eq]; omega, ?_, by omega⟩
  by_cases h : x = y
  · have : cmpv x y = 0 := by omega
    rw [this, decide_eq_true h]; rfl
  · have : cmpv x y ≠ 0 := by omega
    rw [decide_eq_false h, beq_eq_false_iff_ne.2 this]
theorem cmp_add {a b c : Dy} (ha : Ok a) (hb : Ok b) (hc : Ok c) (h1 : (Add a c).e = 0) (h2 : (Add b c).e = 0) : Cmpn (Add a c).d (Add b c).d = Cmpn a b := by
  rw [cmpn_S (add_good _ _) (add_good _ _), cmpn_S ha hb, (add_ok h1 (fun _ => ha) (fun _ => hc)).2.2, (add_ok h2 (fun _ => hb) (fun _ => hc)).2.2]
  have h1 := cmpv_3 (S a + S c) (S b + S c)
  have h2 := cmpv_3 (S a) (S b)
  omega
end DC
end Go.Proofs.YtpmpkllpaceloaaDoor
