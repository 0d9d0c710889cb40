/-
  Plain mathematics of the long division by digits.
-/
import Derived.Test.YtjihapnplfdmmaaZMulP
namespace Go.Proofs.Ytjihapnplfdmmaa.Z
structure DivI (X : List Int) (B : Int) (n k : Nat) (Q : List Int) (R : Int) : Prop where
  len : Q.length = n
  dig : Dig Q
  sum : val (Q.drop k) * B + R = val (X.drop k)
  r0 : 0 ≤ R
  r1 : R < B
theorem Dig.rep (n : Nat) : Dig (List.replicate n 0) := by intro d hd; rw [(List.mem_replicate.1 hd).2]; omega
theorem DivI.start (X : List Int) (B : Int) (hB : 0 < B) : DivI X B X.length X.length (List.replicate X.length 0) 0 := by
  refine ⟨by simp, Dig.rep _, ?_, by omega, hB⟩
  rw [List.drop_of_length_le (by simp), List.drop_of_length_le (by simp)]; simp [val]
theorem val_drop {L : List Int} {k : Nat} (h : k < L.length) : val (L.drop k) = L.getD k 0 + 10000 * val (L.drop (k + 1)) := by
  rw [List.drop_eq_getElem_cons h, List.getD_eq_getElem?_getD, List.getElem?_eq_getElem h]; rfl
theorem DivI.digit {X : List Int} {B : Int} {n k : Nat} {Q : List Int} {R m : Int} (h : DivI X B n (k + 1) Q R) (hX : Dig X) (hm : m * B ≤ X.getD k 0 + 10000 * R) (h0 : 0 ≤ m) : m < 10000 := by
  have h1 := getD_dig hX k
  have h2 := h.r1
  by_cases h3 : m < 10000
  · exact h3
  · have h3 : 10000 ≤ m := by omega
    have h4 := Int.mul_le_mul_of_nonneg_right h3 (show 0 ≤ B by have := h.r0; omega)
    omega
theorem DivI.step {X : List Int} {B : Int} {n k : Nat} {Q : List Int} {R m : Int} (h : DivI X B n (k + 1) Q R) (hX : Dig X) (hn : n = X.length) (hk : k < n) (h0 : 0 ≤ m) (hm : m * B ≤ X.getD k 0 + 10000 * R) (hm1 : X.getD k 0 + 10000 * R < (m + 1) * B) :
    DivI X B n k (Q.set k m) (X.getD k 0 + 10000 * R - m * B) := by
  have hd := h.digit hX hm h0
  refine ⟨by simp [h.len], ?_, ?_, by omega, by grind⟩
  · intro d hd'
    rcases List.mem_or_eq_of_mem_set hd' with h1 | h1
    · exact h.dig d h1
    · subst h1; omega
  · rw [val_drop (L := X) (by omega), val_drop (L := Q.set k m) (by rw [List.length_set, h.len]; exact hk), getD_set (by rw [h.len]; exact hk), if_pos rfl, List.drop_set_of_lt (by omega)]
    have := h.sum
    grind
theorem DivI.done {X : List Int} {B : Int} {n : Nat} {Q : List Int} {R : Int} (h : DivI X B n 0 Q R) : val Q * B + R = val X := by simpa using h.sum
/-- the quotient and the remainder by Euclid, from those without signs -/
theorem euclid {a b q r : Int} (hb : b ≠ 0) (h : q * (b.natAbs : Int) + r = (a.natAbs : Int)) (h0 : 0 ≤ r) (h1 : r < (b.natAbs : Int)) :
    a / b = (if (decide (a < 0)) = (decide (b < 0)) then (if a < 0 ∧ 0 < r then q + 1 else q) else - (if a < 0 ∧ 0 < r then q + 1 else q)) ∧
    a % b = (if a < 0 ∧ 0 < r then (b.natAbs : Int) - r else r) := by
  rcases Int.lt_or_lt_of_ne hb with hb | hb
  · rw [Int.ediv_emod_unique' hb]
    rw [show ((b.natAbs : Nat) : Int) = -b by omega] at *
    by_cases ha : a < 0 <;> by_cases hr : 0 < r <;> simp only [ha, hb, hr, decide_true, decide_false, and_true, and_false, false_and, if_true, if_false, reduceCtorEq] <;> (refine ⟨?_, ?_, ?_⟩) <;> (try rw [show ((a.natAbs : Nat) : Int) = -a by omega] at h) <;> (try rw [show ((a.natAbs : Nat) : Int) = a by omega] at h) <;> grind
  · rw [Int.ediv_emod_unique hb]
    rw [show ((b.natAbs : Nat) : Int) = b by omega] at *
    have hb' : ¬ b < 0 := by omega
    by_cases ha : a < 0 <;> by_cases hr : 0 < r <;> simp only [ha, hb', hr, decide_true, decide_false, and_true, and_false, true_and, false_and, if_true, if_false, reduceCtorEq] <;> (refine ⟨?_, ?_, ?_⟩) <;> (try rw [show ((a.natAbs : Nat) : Int) = -a by omega] at h) <;> (try rw [show ((a.natAbs : Nat) : Int) = a by omega] at h) <;> grind
theorem euclid' {a b q r Bv : Int} (hb : b ≠ 0) (e : Bv = (b.natAbs : Int)) (h : q * Bv + r = (a.natAbs : Int)) (h0 : 0 ≤ r) (h1 : r < Bv) :
    a / b = (if (decide (a < 0)) = (decide (b < 0)) then (if a < 0 ∧ 0 < r then q + 1 else q) else - (if a < 0 ∧ 0 < r then q + 1 else q)) ∧
    a % b = (if a < 0 ∧ 0 < r then Bv - r else r) := by
  subst e
  exact euclid hb h h0 h1
section
variable {a b q r Bv : Int} (hb : b ≠ 0) (e : Bv = (b.natAbs : Int)) (h : q * Bv + r = (a.natAbs : Int)) (h0 : 0 ≤ r) (h1 : r < Bv)
include hb e h h0 h1
theorem eu_ff (hx : false = decide (a < 0)) (hy : false = decide (b < 0)) : a / b = q ∧ a % b = r := by
  have E := euclid' hb e h h0 h1
  have hx' := hx.symm
  simp only [decide_eq_true_eq, decide_eq_false_iff_not] at hx'
  rw [← hx, ← hy] at E
  rw [E.1, E.2]
  simp [hx']
theorem eu_ft (hx : false = decide (a < 0)) (hy : true = decide (b < 0)) : a / b = -q ∧ a % b = r := by
  have E := euclid' hb e h h0 h1
  have hx' := hx.symm
  simp only [decide_eq_true_eq, decide_eq_false_iff_not] at hx'
  rw [← hx, ← hy] at E
  rw [E.1, E.2]
  simp [hx']
theorem eu_tf1 (hx : true = decide (a < 0)) (hy : false = decide (b < 0)) (hp : 0 < r) : a / b = -(q + 1) ∧ a % b = Bv - r := by
  have E := euclid' hb e h h0 h1
  have hx' := hx.symm
  simp only [decide_eq_true_eq, decide_eq_false_iff_not] at hx'
  rw [← hx, ← hy] at E
  rw [E.1, E.2]
  simp [hp, hx']
theorem eu_tf0 (hx : true = decide (a < 0)) (hy : false = decide (b < 0)) (hp : ¬ 0 < r) : a / b = -q ∧ a % b = r := by
  have E := euclid' hb e h h0 h1
  have hx' := hx.symm
  simp only [decide_eq_true_eq, decide_eq_false_iff_not] at hx'
  rw [← hx, ← hy] at E
  rw [E.1, E.2]
  simp [hp, hx']
theorem eu_tt1 (hx : true = decide (a < 0)) (hy : true = decide (b < 0)) (hp : 0 < r) : a / b = q + 1 ∧ a % b = Bv - r := by
  have E := euclid' hb e h h0 h1
  have hx' := hx.symm
  simp only [decide_eq_true_eq, decide_eq_false_iff_not] at hx'
  rw [← hx, ← hy] at E
  rw [E.1, E.2]
  simp [hp, hx']
theorem eu_tt0 (hx : true = decide (a < 0)) (hy : true = decide (b < 0)) (hp : ¬ 0 < r) : a / b = q ∧ a % b = r := by
  have E := euclid' hb e h h0 h1
  have hx' := hx.symm
  simp only [decide_eq_true_eq, decide_eq_false_iff_not] at hx'
  rw [← hx, ← hy] at E
  rw [E.1, E.2]
  simp [hp, hx']
end
end Go.Proofs.Ytjihapnplfdmmaa.Z
