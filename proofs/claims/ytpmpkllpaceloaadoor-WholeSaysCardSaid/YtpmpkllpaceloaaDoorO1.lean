/-
  The reference: halvings.
-/
import Derived.Test.YtpmpkllpaceloaaDoorC10
import Derived.Test.YtpmpkllpaceloaaDoorHeld3
namespace Go.Proofs.YtpmpkllpaceloaaDoor
set_option linter.unusedVariables false
set_option linter.unusedSimpArgs false
open Go.RowKit
set_option linter.unusedVariables false
set_option linter.unusedSimpArgs false
namespace QC
open Z (Nz Tz cmpv big)
open ZC DC
/-- quotient and remainder, each in a block of its own -/
def QD (we wx : World) (s18 s19 : Value) (q r : Int) : Prop := ∃ g h bq Aq nq cq br Ar nr cr, s18 = .pointer (some ⟨g, 0, none⟩) ∧ s19 = .pointer (some ⟨h, 0, none⟩) ∧ we.heap.size ≤ g ∧ we.heap.size ≤ h ∧ g ≠ h ∧ Blk wx g 34 #[.bool bq, .slice Aq nq cq] ∧ Blk wx h 34 #[.bool br, .slice Ar nr cr] ∧ ZL wx bq Aq nq cq q ∧ ZL wx br Ar nr cr r ∧ Below we.heap.size we wx
theorem qd_set {we W : World} {g h : Nat} {bq br : Bool} {Aq Ar : Option Addr} {nq cq nr cr : Nat} {q r : Int} (D : Below we.heap.size we W) (hg : we.heap.size ≤ g) (hh : we.heap.size ≤ h) (hne : g ≠ h)
    (G : Blk W g 34 #[.bool false, .slice none 0 0]) (H : Blk W h 34 #[.bool false, .slice none 0 0]) (hq : ZL W bq Aq nq cq q) (hr : ZL W br Ar nr cr r) :
    QD we ((((W.setCell ⟨g, 0, none⟩ (.bool bq)).setCell ⟨g, 1, none⟩ (.slice Aq nq cq)).setCell ⟨h, 0, none⟩ (.bool br)).setCell ⟨h, 1, none⟩ (.slice Ar nr cr)) (.pointer (some ⟨g, 0, none⟩)) (.pointer (some ⟨h, 0, none⟩)) q r := by
  have G1 := G.set2 (.bool bq) (.slice Aq nq cq)
  have H1 := H.far2 (Ne.symm hne) (.bool bq) (.slice Aq nq cq)
  have q1 := ZC.ZL.box hq (G.at_ 0 rfl) (G.at_ 1 rfl) (.bool bq) (.slice Aq nq cq)
  have r1 := ZC.ZL.box hr (G.at_ 0 rfl) (G.at_ 1 rfl) (.bool bq) (.slice Aq nq cq)
  exact ⟨g, h, bq, Aq, nq, cq, br, Ar, nr, cr, rfl, rfl, hg, hh, hne, G1.far2 hne _ _, H1.set2 _ _, ZC.ZL.box q1 (H1.at_ 0 rfl) (H1.at_ 1 rfl) _ _, ZC.ZL.box r1 (H1.at_ 0 rfl) (H1.at_ 1 rfl) _ _, below_set2 (below_set2 D hg _ _) hh _ _⟩
theorem zv_below {w w' : World} {v : Value} {z : Int} (h : ZV w v z) (hb : Below w.heap.size w w') : ZV w' v z := by
  obtain ⟨b, A, n, c, e, h⟩ := h
  exact ⟨b, A, n, c, e, h.below hb⟩
/-- z is y, N times doubled -/
def Tw (z y : Int) (N : Nat) : Prop := z = y * 2 ^ N ∧ y ≠ 0
theorem Tw.step {z y : Int} {N K : Nat} (h : Tw z y N) (hr : y % 2 ^ K = 0) : Tw z (y / 2 ^ K) (N + K) := by
  obtain ⟨h1, h2⟩ := h
  have h3 : y / 2 ^ K * 2 ^ K = y := Int.ediv_mul_cancel (Int.dvd_of_emod_eq_zero hr)
  refine ⟨?_, fun h => h2 (by rw [← h3, h, Int.zero_mul])⟩
  rw [h1, Nat.add_comm, Int.pow_add, ← Int.mul_assoc, h3]
theorem natAbs_pow2 (y : Int) (N : Nat) : (y * 2 ^ N).natAbs = y.natAbs * 2 ^ N := by
  rw [Int.natAbs_mul, Int.natAbs_pow]; rfl
theorem Tw.lt {z y : Int} {N M : Nat} (h : Tw z y N) (hM : z.natAbs < 2 ^ M) : N < M := by
  obtain ⟨h1, h2⟩ := h
  rw [h1, natAbs_pow2] at hM
  have h3 : 0 < y.natAbs := Int.natAbs_pos.2 h2
  have h4 : 2 ^ N < 2 ^ M := Nat.lt_of_le_of_lt (Nat.le_mul_of_pos_left _ h3) hM
  exact (Nat.pow_lt_pow_iff_right (by decide)).1 h4
theorem Tw.big {z y : Int} {N B : Nat} (h : Tw z y N) (hB : z.natAbs < B) : y.natAbs < B := by
  obtain ⟨h1, h2⟩ := h
  rw [h1, natAbs_pow2] at hB
  exact Nat.lt_of_le_of_lt (Nat.le_mul_of_pos_right _ (Nat.two_pow_pos N)) hB
end QC
end Go.Proofs.YtpmpkllpaceloaaDoor
