/-
  Words for a block that is a row of integers, known whole: read, written, made.
-/
import Derived.Test.YtlcelocjfmclkaaOwn
import Derived.Deep.OwnRows
namespace Go.Proofs.Ytlcelocjfmclkaa
open Go.RowKit
set_option linter.unusedVariables false
def Row (k : IntKind) (e : TypeId) (w : World) (g : Nat) (L : List Int) : Prop := Blk w g e (L.map (Value.int k)).toArray
section
variable {k : IntKind} {e : TypeId} {w w' : World} {g : Nat} {L : List Int}
theorem Row.at_ (h : Row k e w g L) (j : Nat) (hj : j < L.length) : w.cell? ⟨g, j, none⟩ = some (.int k (L.getD j 0)) := by
  refine Blk.at_ h j ?_
  rw [List.getD_eq_getElem?_getD, List.getElem?_eq_getElem hj]
  simp [hj]
theorem Row.frozen (h : Row k e w g L) (j : Nat) : w.frozen? ⟨g, j, none⟩ = false := Blk.frozen h j
theorem Row.set_ (h : Row k e w g L) (j : Nat) (z : Int) : Row k e (w.setCell ⟨g, j, none⟩ (.int k z)) g (L.set j z) := by
  have := Blk.set_ h j (.int k z)
  unfold Row
  rw [List.map_set]
  simpa using this
theorem Row.far (h : Row k e w g L) {p : Addr} (hp : g ≠ p.block) (u : Value) : Row k e (w.setCell p u) g L := Blk.far h hp u
theorem Row.alloc (h : Row k e w g L) (o : Obj) : Row k e (w.alloc o) g L := Blk.alloc h o
theorem Row.lt (h : Row k e w g L) : g < w.heap.size := Blk.lt h
theorem Row.sl (h : Row k e w g L) (c : Nat) (hc : L.length ≤ c) : Sl k w (.slice (some ⟨g, 0, none⟩) L.length c) L := by
  refine ⟨_, c, rfl, hc, .inr ⟨⟨g, 0, none⟩, rfl, h.lt, fun j hj => ?_⟩⟩
  have := h.at_ j hj
  rw [List.getD_eq_getElem?_getD, List.getElem?_eq_getElem hj] at this
  have e : (⟨g, 0, none⟩ : Addr).add j = ⟨g, j, none⟩ := by unfold Addr.add; split <;> simp_all
  rw [e]; exact this
theorem Row.after {W : World} {B : Nat} (hb : Below B W w') (h : Row k e w g L) (ew : W.heap = w.heap) (hg : g < B) : Row k e w' g L := (hb.block g hg).trans ((congrArg (fun x => x[g]?) ew).trans h)
theorem made_row (k : IntKind) (n : Nat) : madeCells #[.int k 0] n = ((List.replicate n (0 : Int)).map (Value.int k)).toArray := by
  apply Array.ext
  · simp [madeCells]
  · intro i h1 h2
    simp [madeCells, Nat.mod_one]
theorem Row.new (k : IntKind) (e : TypeId) (w : World) (n : Nat) : Row k e (w.alloc (.cells (madeCells #[.int k 0] n) e)) w.heap.size (List.replicate n 0) := by
  unfold Row; rw [← made_row]; exact Blk.new _ _ _
theorem Row.new' (k : IntKind) (e : TypeId) (w : World) (n : Nat) {g : Nat} (hg : w.heap.size = g) : Row k e (w.alloc (.cells (madeCells #[.int k 0] n) e)) g (List.replicate n 0) := hg ▸ Row.new k e w n
theorem Blk.new' (w : World) (t : TypeId) (cs : Array Value) {g : Nat} (hg : w.heap.size = g) : Blk (w.alloc (.cells cs t)) g t cs := hg ▸ Blk.new w t cs
theorem Row.drew (h : Row k e w g L) : Row k e w.drew g L := h
end
end Go.Proofs.Ytlcelocjfmclkaa
