/-
  Words for memory: a stretch of a block of the call's own that holds limbs, written in place; a slice of limbs that lies elsewhere; a result in normal form.
-/
import Derived.Test.YtlcelocjfmclkaaNPure
import Derived.Test.YtlcelocjfmclkaaOwn
import Derived.Test.YtlcelocjfmclkaaApp
import Derived.WalkLawsBesides
import Derived.LoopTactic
import Derived.Lib.Hide
import Derived.Outline
import Derived.RegionTactic
import Derived.BigRegion
import Derived.Deep.QuietTactic
import Derived.BigQuiet
namespace Go.Proofs.Ytlcelocjfmclkaa
open Go.RowKit
set_option linter.unusedVariables false
namespace NC
open L
open Z (Nz Tz cmpv)
def RetQ (w : World) (v : Value) (e : Ending) (w' : World) : Prop := e = .returned v ∧ ∃ n, w' = w.drewN n
/-- the limbs' cells from number o on hold M -/
def Wn (cs : Array Value) (o : Nat) (M : List Int) : Prop := ∀ j, j < M.length → cs[o + j]? = some (.int .u32 (M.getD j 0))
/-- block g, the call's own, was written from o on, n limbs, which read M; nothing else was -/
structure Ed (w w' : World) (g : Nat) (cs : Array Value) (o n : Nat) (M : List Int) : Prop where
  len : M.length = n
  grown : w.grownBy w' (some g)
  blk : ∃ cs', Blk w' g 63 cs' ∧ cs'.size = cs.size ∧ Wn cs' o M ∧ ∀ i, (i < o ∨ o + n ≤ i) → cs'[i]? = cs[i]?
theorem Ed.start {w : World} {g : Nat} {cs : Array Value} {o n : Nat} {M : List Int} (hb : Blk w g 63 cs) (hM : Wn cs o M) (hn : M.length = n) : Ed w w g cs o n M :=
  ⟨hn, World.grownBy.refl _ _, cs, hb, rfl, hM, fun _ _ => rfl⟩
section
variable {w w' : World} {g : Nat} {cs : Array Value} {o n : Nat} {M : List Int}
theorem Ed.cell (h : Ed w w' g cs o n M) (j : Nat) (hj : j < n) : w'.cell? ⟨g, o + j, none⟩ = some (.int .u32 (M.getD j 0)) := by
  obtain ⟨cs', hb, _, hM, _⟩ := h.blk
  exact hb.at_ _ (hM j (by rw [h.len]; exact hj))
theorem Ed.frozen (h : Ed w w' g cs o n M) (j : Nat) : w'.frozen? ⟨g, j, none⟩ = false := by
  obtain ⟨cs', hb, _, hM, _⟩ := h.blk
  exact hb.frozen _
theorem grownBy_set {w w' : World} {g : Nat} (h : w.grownBy w' (some g)) (j : Nat) (u : Value) : w.grownBy (w'.setCell ⟨g, j, none⟩ u) (some g) :=
  ⟨h.os, h.tape, h.output, by simpa [World.setCell] using h.size, fun k hk hne => (Below.heap_setCell _ _ _ _ (by rintro rfl; exact hne rfl)).trans (h.block k hk hne)⟩
theorem Ed.set_ (h : Ed w w' g cs o n M) (j : Nat) (hj : j < n) (z : Int) : Ed w (w'.setCell ⟨g, o + j, none⟩ (.int .u32 z)) g cs o n (M.set j z) := by
  obtain ⟨cs', hb, hs, hM, hf⟩ := h.blk
  refine ⟨by simp [h.len], grownBy_set h.grown _ _, _, hb.set_ (o + j) _, by simp [hs], fun i hi => ?_, fun i hi => ?_⟩
  · rw [List.length_set] at hi
    rw [Array.getElem?_setIfInBounds, getD_set (by rw [h.len]; exact hj)]
    have hz := hM j (by rw [h.len]; exact hj)
    have hin : o + j < cs'.size := by
      rcases Nat.lt_or_ge (o + j) cs'.size with h | h
      · exact h
      · rw [Array.getElem?_eq_none h] at hz; cases hz
    by_cases e : i = j
    · subst e; simp [hin]
    · rw [if_neg (by omega), if_neg e]; exact hM i hi
  · rw [Array.getElem?_setIfInBounds, if_neg (by omega)]; exact hf i hi
theorem Ed.drew (h : Ed w w' g cs o n M) : Ed w w'.drew g cs o n M := by
  obtain ⟨a, b, cs', hb, c⟩ := h
  exact ⟨a, ⟨b.os, b.tape, b.output, b.size, b.block⟩, cs', hb, c⟩
theorem Ed.below {B : Nat} {w0 : World} (h : Ed w w' g cs o n M) (hb : Below B w0 w) (hB : B ≤ g) (hB' : B ≤ w.heap.size) : Below B w0 w' :=
  hb.grown h.grown hB' fun k hk => by injection hk with hk; omega
theorem Ed.size (h : Ed w w' g cs o n M) : w.heap.size ≤ w'.heap.size := h.grown.size
end
/-- the slice 's' holds the integers 'L'; it lies in another block than g -/
def SlA (k : IntKind) (w : World) (s : Value) (L : List Int) (g : Nat) : Prop :=
  ∃ A c, s = .slice A L.length c ∧ L.length ≤ c ∧ (L = [] ∨ ∃ ad, A = some ad ∧ ad.block < w.heap.size ∧ ad.block ≠ g ∧ ∀ (j : Nat) (h : j < L.length), w.cell? (ad.add j) = some (.int k L[j]))
theorem SlA.sl {k : IntKind} {w : World} {s : Value} {L : List Int} {g : Nat} (h : SlA k w s L g) : Sl k w s L := by
  obtain ⟨A, c, e, hc, h⟩ := h
  exact ⟨A, c, e, hc, h.imp id fun ⟨ad, e, h1, _, h2⟩ => ⟨ad, e, h1, h2⟩⟩
theorem SlA.grown {k : IntKind} {w w' : World} {s : Value} {L : List Int} {g : Nat} (h : SlA k w s L g) (hg : w.grownBy w' (some g)) : SlA k w' s L g := by
  obtain ⟨A, c, e, hc, h⟩ := h
  refine ⟨A, c, e, hc, h.imp id fun ⟨ad, e, h1, h2, h3⟩ => ⟨ad, e, Nat.lt_of_lt_of_le h1 hg.size, h2, fun j hj => ?_⟩⟩
  exact hg.cell (h3 j hj) (by rw [block_of_add]; intro e; injection e with e; exact h2 e)
theorem SlA.of {k : IntKind} {w : World} {s : Value} {L : List Int} {g : Nat} (h : Sl k w s L) (hg : ∀ A n c, s = .slice (some A) n c → 0 < n → A.block ≠ g) : SlA k w s L g := by
  obtain ⟨A, c, e, hc, h⟩ := h
  refine ⟨A, c, e, hc, ?_⟩
  by_cases hL : L = []
  · exact .inl hL
  · rcases h with h | ⟨ad, rfl, h1, h2⟩
    · exact absurd h hL
    · exact .inr ⟨ad, rfl, h1, hg _ _ _ e (List.length_pos_iff.2 hL), h2⟩
/-- a slice that lay there before the world grew from B on, with the block g one of the new ones -/
theorem SlA.old {k : IntKind} {w w' : World} {s : Value} {L : List Int} {g : Nat} (h : Sl k w s L) (hb : Below w.heap.size w w') (hg : w.heap.size ≤ g) : SlA k w' s L g := by
  obtain ⟨A, c, e, hc, h⟩ := h
  refine ⟨A, c, e, hc, h.imp id fun ⟨ad, e, h1, h2⟩ => ⟨ad, e, Nat.lt_of_lt_of_le h1 hb.size, by omega, fun j hj => (hb.cell (by rw [block_of_add]; exact h1)).trans (h2 j hj)⟩⟩
theorem SlA.at_ {k : IntKind} {w : World} {s : Value} {L : List Int} {g : Nat} (h : SlA k w s L g) (j : Nat) (hj : j < L.length) : ∃ ad c, s = .slice (some ad) L.length c ∧ L.length ≤ c ∧ w.cell? (ad.add j) = some (.int k (L.getD j 0)) := by
  obtain ⟨ad, c, h1, h2, _, h3⟩ := h.sl.at_ j hj
  exact ⟨ad, c, h1, h2, h3⟩
theorem _root_.Go.Proofs.Ytlcelocjfmclkaa.Sl.form {k : IntKind} {w : World} {s : Value} {L : List Int} (h : Sl k w s L) : ∃ A c, s = .slice A L.length c ∧ L.length ≤ c := by
  obtain ⟨A, c, e, hc, _⟩ := h
  exact ⟨A, c, e, hc⟩
theorem SlA.drew {k : IntKind} {w : World} {s : Value} {L : List Int} {g : Nat} (h : SlA k w s L g) : SlA k w.drew s L g := h
theorem Ed.undrew {w w' : World} {g : Nat} {cs : Array Value} {o n : Nat} {M : List Int} (h : Ed w.drew w' g cs o n M) : Ed w w' g cs o n M :=
  ⟨h.len, ⟨h.grown.os, h.grown.tape, h.grown.output, h.grown.size, h.grown.block⟩, h.blk⟩
theorem grownBy_trans {w w1 w2 : World} {g : Nat} (h1 : w.grownBy w1 (some g)) (h2 : w1.grownBy w2 (some g)) : w.grownBy w2 (some g) :=
  ⟨h2.os.trans h1.os, h2.tape.trans h1.tape, h2.output.trans h1.output, Nat.le_trans h1.size h2.size, fun k hk hne => (h2.block k (Nat.lt_of_lt_of_le hk h1.size) hne).trans (h1.block k hk hne)⟩
/-- written once more -/
theorem Ed.again {w w' : World} {g : Nat} {cs : Array Value} {o n : Nat} {M : List Int} (h : Ed w w' g cs o n M) : ∃ cs', Blk w' g 63 cs' ∧ Wn cs' o M ∧ ∀ w2 M', Ed w' w2 g cs' o n M' → Ed w w2 g cs o n M' := by
  obtain ⟨cs', hb, hs, hM, hf⟩ := h.blk
  refine ⟨cs', hb, hM, fun w2 M' h2 => ?_⟩
  obtain ⟨cs2, hb2, hs2, hM2, hf2⟩ := h2.blk
  exact ⟨h2.len, grownBy_trans h.grown h2.grown, cs2, hb2, hs2.trans hs, hM2, fun i hi => (hf2 i hi).trans (hf i hi)⟩
/-- a slice of limbs in normal form that tells 'z' -/
def NV (w : World) (v : Value) (z : Int) : Prop := ∃ L, Sl .u32 w v L ∧ Lim L ∧ Nz L ∧ lv L = z
theorem NV.below {w w' : World} {v : Value} {z : Int} (h : NV w v z) (hb : Below w.heap.size w w') : NV w' v z := by
  obtain ⟨L, h1, h2⟩ := h
  exact ⟨L, h1.below hb, h2⟩
/-- the cell of a fresh zeroed block -/
theorem Wn.made (n : Nat) : Wn (madeCells #[.int .u32 0] n) 0 (List.replicate n 0) := by
  intro j hj
  rw [List.length_replicate] at hj
  rw [made_row, List.getElem?_toArray, List.getElem?_map, Nat.zero_add, List.getElem?_replicate, if_pos hj, Z.getD_rep]
  rfl
end NC
end Go.Proofs.Ytlcelocjfmclkaa
