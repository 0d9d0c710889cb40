/-
  Texts glued together for a claim: Z13 ZSg Q1 Q2 Q3 Q4 Q5.
-/
import Derived.Test.YtejglcpiihkenaaDoorE2
import Derived.Test.YtejglcpiihkenaaDoorE1
/-
  The reference's whole numbers: how often, and what is left (ZDiv).
-/
namespace Go.Proofs.YtejglcpiihkenaaDoor
set_option linter.unusedVariables false
set_option linter.unusedSimpArgs false
open Go.RowKit
set_option linter.unusedVariables false
theorem Sl.drew {k : IntKind} {w : World} {s : Value} {L : List Int} (h : Sl k w s L) : Sl k w.drew s L := h
namespace ZC
open Z
section
variable {w w1 wr w' : World} {g n : Nat} {xa xb vb vr : Array Value} {QL : List Int}
end
theorem Sl.one (k : IntKind) (e : TypeId) (w : World) (z : Int) : Sl k (w.alloc (.cells #[.int k z] e)) (.slice (some ⟨w.heap.size, 0, none⟩) 1 1) [z] := by
  refine ⟨_, 1, rfl, by simp, .inr ⟨_, rfl, by simp, fun j hj => ?_⟩⟩
  obtain rfl : j = 0 := by simpa using hj
  have := Blk.at_ (Blk.new w e #[.int k z]) 0 rfl
  rw [show (⟨w.heap.size, 0, none⟩ : Addr).add 0 = ⟨w.heap.size, 0, none⟩ by unfold Addr.add; simp]
  exact this
theorem ZL.box {w1 : World} {b A n c z} (hv : ZL w1 b A n c z) {B : Nat} {b0 : Bool} {A0 : Option Addr} {n0 c0 : Nat} (h0 : w1.cell? ⟨B, 0, none⟩ = some (.bool b0)) (h1 : w1.cell? ⟨B, 1, none⟩ = some (.slice A0 n0 c0)) (u v : Value) :
    ZL ((w1.setCell ⟨B, 0, none⟩ u).setCell ⟨B, 1, none⟩ v) b A n c z :=
  (hv.setCell h0 (fun z h => by cases h) _).setCell (p := ⟨B, 1, none⟩) (u := .slice A0 n0 c0) (by rw [World.cell?_setCell_other _ _ _ _ (by simp)]; exact h1) (fun z h => by cases h) _
theorem big_add (n m : Nat) : big (n + m) = big n * big m := by unfold big; rw [Nat.pow_add]
theorem big_mono {n m : Nat} (h : n ≤ m) : big n ≤ big m := by unfold big; exact Nat.pow_le_pow_right (by decide) h
theorem big3 : big 3 = 1000000000000 := by unfold big; decide
theorem mul_bnd {b : Nat} {t : Int} (hb : b < big 900000) (h0 : 0 ≤ t) (h1 : t ≤ 100000001) : (t * (b : Int)).natAbs < big 1000000 := by
  have h2 := big_add 900000 3
  have h3 := big_mono (show 900000 + 3 ≤ 1000000 by decide)
  rw [Int.natAbs_mul, Int.natAbs_natCast, big3] at *
  have h4 : t.natAbs * b ≤ 1000000000000 * b := Nat.mul_le_mul_right _ (by omega)
  have h5 : big 900000 * 1000000000000 = 1000000000000 * big 900000 := Nat.mul_comm _ _
  omega
theorem succ_bnd {t : Int} (h0 : 0 ≤ t) (h : t.natAbs < big 900000) : (t + 1).natAbs < big 1000000 := by
  have h1 := big_add 900000 1
  have h2 : big 1 = 10000 := by unfold big; rfl
  have h3 := big_mono (show 900000 + 1 ≤ 1000000 by decide)
  rw [h2] at h1
  omega
theorem ZLF.far {w : World} {B : Nat} {b A n c z} (h : ZLF w B b A n c z) {p : Addr} (hp : p.block < B) (u : Value) : ZL (w.setCell p u) b A n c z := by
  refine h.1.keep fun L hs => ?_
  obtain ⟨A', c', e, hc, hs⟩ := hs
  refine ⟨A', c', e, hc, ?_⟩
  rcases hs with rfl | ⟨ad, rfl, hb, hr⟩
  · exact .inl rfl
  · rcases h.2 with h0 | ⟨ad', e', hb'⟩
    · injection e with e1 e2
      exact .inl (List.eq_nil_of_length_eq_zero (by omega))
    · injection e with e1 e2
      rw [e'] at e1
      injection e1 with e1
      subst e1
      refine .inr ⟨_, rfl, by simpa [World.setCell] using hb, fun j hj => ?_⟩
      rw [World.cell?_setCell_far _ _ _ _ (by rw [block_of_add]; omega)]
      exact hr j hj
theorem ZL.zero {w : World} {b A n c z} (h : ZL w b A n c z) : (n = 0 → z = 0) ∧ (0 < n → z ≠ 0) := by
  obtain ⟨_, L, hn, _, hd, hz, hv⟩ := h
  constructor
  · intro h0
    obtain rfl := List.eq_nil_of_length_eq_zero (by omega : L.length = 0)
    simp [val] at hv; omega
  · intro h0
    have := val_pos hd hz (List.length_pos_iff.1 (by omega))
    omega
section
variable {w w1 wr w' : World} {g n : Nat} {xa xb vb vq vr : Array Value} {QL : List Int}
end
def RetZZ (w : World) (q r : Int) (e : Ending) (w' : World) : Prop := ∃ u v, e = .returned (.tuple #[u, v]) ∧ ZV w' u q ∧ ZV w' v r ∧ Below w.heap.size w w'
end ZC
end Go.Proofs.YtejglcpiihkenaaDoor

/-
  The reference's whole numbers: the sign.
-/
namespace Go.Proofs.YtejglcpiihkenaaDoor
set_option linter.unusedVariables false
set_option linter.unusedSimpArgs false
open Go.RowKit
set_option linter.unusedVariables false
namespace ZC
open Z
end ZC
end Go.Proofs.YtejglcpiihkenaaDoor

/-
  The reference's numbers over a power of two: QMake.
-/
namespace Go.Proofs.YtejglcpiihkenaaDoor
set_option linter.unusedVariables false
set_option linter.unusedSimpArgs false
open Go.RowKit
set_option linter.unusedVariables false
set_option linter.unusedSimpArgs false
namespace QC
open Z (Nz Tz cmpv big)
open ZC
/-- digits that lie in another block than the one written -/
def Off (g : Nat) (A : Option Addr) (n : Nat) : Prop := n = 0 ∨ ∃ ad, A = some ad ∧ ad.block ≠ g
theorem zl_far {w : World} {b A n c z} (h : ZL w b A n c z) {p : Addr} (hp : Off p.block A n) (x : Value) : ZL (w.setCell p x) b A n c z := by
  obtain ⟨hb, L, hn, ⟨A', c', e, hc, hr⟩, h2⟩ := h
  injection e with e1 e2 e3
  subst e1
  subst e3
  refine ⟨hb, L, hn, ⟨A, c, by rw [e2], hc, ?_⟩, h2⟩
  rcases hr with h0 | ⟨ad, rfl, hlt, hcell⟩
  · exact .inl h0
  · by_cases h0 : L = []
    · exact .inl h0
    · rcases hp with hp | ⟨ad', ea, hne⟩
      · exfalso; exact h0 (List.length_eq_zero_iff.1 (by rw [← hn]; exact hp))
      · injection ea with ea
        subst ea
        refine .inr ⟨ad, rfl, by simpa [World.setCell] using hlt, fun j hj => ?_⟩
        rw [World.cell?_setCell_other w p (ad.add j) x (by intro e; apply hne; rw [e, block_of_add])]
        exact hcell j hj
theorem off_old {w : World} {b A n c z} (h : ZL w b A n c z) {g : Nat} (hg : w.heap.size ≤ g) : Off g A n := by
  obtain ⟨hb, L, hn, ⟨A', c', e, hc, hr⟩, h2⟩ := h
  injection e with e1 e2 e3
  subst e1
  rcases hr with h0 | ⟨ad, rfl, hlt, hcell⟩
  · left; rw [hn, h0]; rfl
  · right; exact ⟨ad, rfl, by omega⟩
theorem off_new {B : Nat} {A : Option Addr} {n : Nat} (h : Fr B A n) {g : Nat} (hg : g < B) : Off g A n := by
  rcases h with h | ⟨ad, rfl, h⟩
  · exact .inl h
  · exact .inr ⟨ad, rfl, by omega⟩
/-- a number over 2^t in memory -/
def QV (w : World) (v : Value) (z t : Int) : Prop := ∃ b A n c, v = .agg #[.bool b, .slice A n c, .int .i64 t] ∧ ZL w b A n c z
def RetV (w : World) (z t : Int) (e : Ending) (w' : World) : Prop := ∃ b A n c, e = .returned (.agg #[.bool b, .slice A n c, .int .i64 t]) ∧ ZL w' b A n c z ∧ Below w.heap.size w w'
theorem set3 {w : World} {b A n c z} {g : Nat} (h : ZL w b A n c z) (hp : Off g A n) (v0 v1 v2 : Value) : ZL (((w.setCell ⟨g, 0, none⟩ v0).setCell ⟨g, 1, none⟩ v1).setCell ⟨g, 2, none⟩ v2) b A n c z :=
  zl_far (zl_far (zl_far h (p := ⟨g, 0, none⟩) hp v0) (p := ⟨g, 1, none⟩) hp v1) (p := ⟨g, 2, none⟩) hp v2
theorem below3q {w w1 : World} {B : Nat} (hb : Below w.heap.size w w1) (hB : w.heap.size ≤ B) (v0 v1 v2 : Value) : Below w.heap.size w (((w1.setCell ⟨B, 0, none⟩ v0).setCell ⟨B, 1, none⟩ v1).setCell ⟨B, 2, none⟩ v2) :=
  ((hb.setCell hB _).setCell hB _).setCell hB _
end QC
end Go.Proofs.YtejglcpiihkenaaDoor

/-
  The reference's numbers over a power of two: QMake, QMul, QShift.
-/
namespace Go.Proofs.YtejglcpiihkenaaDoor
set_option linter.unusedVariables false
set_option linter.unusedSimpArgs false
open Go.RowKit
set_option linter.unusedVariables false
set_option linter.unusedSimpArgs false
namespace QC
open Z (Nz Tz cmpv big)
open ZC
theorem al2 (W : World) (o : Obj) : Below W.heap.size W (W.alloc o) := (Below.refl _ _).alloc (Nat.le_refl _) _
/-- what QMake makes -/
def mkz (a e : Int) : Int := if 0 ≤ e then a * 2 ^ e.toNat else a
def mkt (e : Int) : Int := if 0 ≤ e then 0 else -e
end QC
end Go.Proofs.YtejglcpiihkenaaDoor

/-
  The reference's numbers over a power of two: level, its first steps.
-/
namespace Go.Proofs.YtejglcpiihkenaaDoor
set_option linter.unusedVariables false
set_option linter.unusedSimpArgs false
open Go.RowKit
set_option linter.unusedVariables false
set_option linter.unusedSimpArgs false
namespace QC
open Z (Nz Tz cmpv big)
open ZC
theorem big_mono {m n : Nat} (h : m ≤ n) : big m ≤ big n := by unfold big; exact Nat.pow_le_pow_right (by omega) h
theorem big_lt {a : Int} (h : a.natAbs < big 500000) : a.natAbs < big 1000000 := Nat.lt_of_lt_of_le h (big_mono (by omega))
def RetLv (w : World) (x y t : Int) (e : Ending) (w' : World) : Prop := ∃ bx Ax nx cx by' Ay ny cy, e = .returned (.tuple #[.agg #[.bool bx, .slice Ax nx cx], .agg #[.bool by', .slice Ay ny cy], .int .i64 t]) ∧ ZL w' bx Ax nx cx x ∧ ZL w' by' Ay ny cy y ∧ Below w.heap.size w w'
end QC
end Go.Proofs.YtejglcpiihkenaaDoor

/-
  The reference's numbers over a power of two: QCmp, QAdd.
-/
namespace Go.Proofs.YtejglcpiihkenaaDoor
set_option linter.unusedVariables false
set_option linter.unusedSimpArgs false
open Go.RowKit
set_option linter.unusedVariables false
set_option linter.unusedSimpArgs false
namespace QC
open Z (Nz Tz cmpv big)
open ZC
/-- both over the greater power -/
def up (a ta tb : Int) : Int := a * 2 ^ (max ta tb - ta).toNat
end QC
end Go.Proofs.YtejglcpiihkenaaDoor

/-
  The reference's numbers over a power of two: QAdd, QNeg, QAbs, QShift.
-/
namespace Go.Proofs.YtejglcpiihkenaaDoor
set_option linter.unusedVariables false
set_option linter.unusedSimpArgs false
open Go.RowKit
set_option linter.unusedVariables false
set_option linter.unusedSimpArgs false
namespace QC
open Z (Nz Tz cmpv big)
open ZC
theorem last_ne {L : List Int} (h : Nz L) (hne : L ≠ []) : L.getD (L.length - 1) 0 ≠ 0 := by
  have := h hne
  rw [List.getD_eq_getElem?_getD, List.getElem?_eq_getElem (by have := List.length_pos_iff.2 hne; omega)]
  rw [List.getLast_eq_getElem] at this
  exact this
theorem cell_q {w : World} {p : Addr} {T : TypeId} {b0 : Bool} {A0 : Option Addr} {n0 c0 : Nat} {y : Int} (hb : Blk w p.block T #[.bool b0, .slice A0 n0 c0, .int .i64 0]) (k : w.cell? p = some (.int .i64 y)) : y = 0 := by
  unfold World.cell? at k
  unfold Blk at hb
  rw [hb] at k
  simp only at k
  split at k
  · cases k
  · match hp : p.off, k with
    | 0, h => simp at h
    | 1, h => simp at h
    | 2, h => simp at h; exact h.symm
    | i + 3, h => simp at h
/-- digits don't lie in a box whose third cell is 0 -/
theorem off_q {w : World} {b A n c z} {g : Nat} {T : TypeId} {b0 : Bool} {A0 : Option Addr} {n0 c0 : Nat} (h : ZL w b A n c z) (hb : Blk w g T #[.bool b0, .slice A0 n0 c0, .int .i64 0]) : Off g A n := by
  obtain ⟨-, L, hn, ⟨A', c', e, hc, hr⟩, hd, hz, -⟩ := h
  injection e with e1 e2 e3
  subst e1
  rcases hr with h0 | ⟨ad, rfl, hlt, hcell⟩
  · left; rw [hn, h0]; rfl
  · by_cases h0 : L = []
    · left; rw [hn, h0]; rfl
    · right
      refine ⟨ad, rfl, fun hg => ?_⟩
      have hl := List.length_pos_iff.2 h0
      have k := hcell (L.length - 1) (by omega)
      have nz := last_ne hz h0
      rw [List.getD_eq_getElem?_getD, List.getElem?_eq_getElem (by omega)] at nz
      exact nz (cell_q (by rw [block_of_add, hg]; exact hb) k)
theorem zv_off {w : World} {v : Value} {z : Int} {g : Nat} {T : TypeId} {b0 : Bool} {A0 : Option Addr} {n0 c0 : Nat} (h : ZV w v z) (hb : Blk w g T #[.bool b0, .slice A0 n0 c0, .int .i64 0]) : ∃ b A n c, v = .agg #[.bool b, .slice A n c] ∧ ZL w b A n c z ∧ Off g A n := by
  obtain ⟨b, A, n, c, e, h⟩ := h
  exact ⟨b, A, n, c, e, h, off_q h hb⟩
theorem qv_below {w w' : World} {v : Value} {z t : Int} (h : QV w v z t) (hb : Below w.heap.size w w') : QV w' v z t := by
  obtain ⟨b, A, n, c, e, h⟩ := h
  exact ⟨b, A, n, c, e, h.below hb⟩
end QC
end Go.Proofs.YtejglcpiihkenaaDoor

