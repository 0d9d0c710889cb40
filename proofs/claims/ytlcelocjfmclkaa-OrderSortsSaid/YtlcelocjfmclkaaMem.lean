/-
  Words for memory: a slice of one-cell integers that reads as a list, nil let in; it is kept where the world only grows. (The first block is after the kit's page of words to copy.)
-/
import Derived.Test.YtlcelocjfmclkaaBase
import Derived.Below
import Derived.Laws.OwnMore
import Derived.Deep.AppendLies
import Derived.Deep.Draws
namespace Go.Proofs.Ytlcelocjfmclkaa
open Go.RowKit
set_option linter.unusedVariables false
theorem block_of_add (a : Addr) (n : Nat) : (a.add n).block = a.block := by unfold Addr.add; split <;> rfl
theorem add_of_add (a : Addr) (i j : Nat) : (a.add i).add j = a.add (i + j) := by
  unfold Addr.add
  by_cases hi : i = 0 <;> by_cases hj : j = 0 <;> simp [hi, hj, Nat.add_assoc]

/-- the slice value 's' holds the integers 'L' of kind 'k'; its block lies in the world -/
def Sl (k : IntKind) (w : World) (s : Value) (L : List Int) : Prop :=
  ∃ A c, s = .slice A L.length c ∧ L.length ≤ c ∧ (L = [] ∨ ∃ ad, A = some ad ∧ ad.block < w.heap.size ∧ ∀ (j : Nat) (h : j < L.length), w.cell? (ad.add j) = some (.int k L[j]))
section
variable {k : IntKind} {w w' : World} {s : Value} {L : List Int}
theorem Sl.keep (h : Sl k w s L) (hs : w.heap.size ≤ w'.heap.size) (hk : ∀ p : Addr, p.block < w.heap.size → w'.cell? p = w.cell? p) : Sl k w' s L := by
  obtain ⟨A, c, e, hc, h⟩ := h
  refine ⟨A, c, e, hc, ?_⟩
  rcases h with h | ⟨ad, rfl, hb, hr⟩
  · exact .inl h
  · exact .inr ⟨ad, rfl, by omega, fun j hj => (hk _ (by rw [block_of_add]; exact hb)).trans (hr j hj)⟩
theorem Sl.below (h : Sl k w s L) (hb : Below w.heap.size w w') : Sl k w' s L := h.keep hb.size fun _ hp => hb.cell hp
theorem Sl.drewN (h : Sl k w s L) (n : Nat) : Sl k (w.drewN n) s L := h
theorem Sl.alloc (h : Sl k w s L) (o : Obj) : Sl k (w.alloc o) s L := h.keep (by simp) fun p hp => World.cell?_alloc_lt w o p hp
theorem Sl.nil (k : IntKind) (w : World) (c : Nat) (A : Option Addr) : Sl k w (.slice A 0 c) [] := ⟨A, c, rfl, by simp, .inl rfl⟩
/-- one element's cell -/
theorem Sl.at_ (h : Sl k w s L) (j : Nat) (hj : j < L.length) : ∃ ad c, s = .slice (some ad) L.length c ∧ L.length ≤ c ∧ ad.block < w.heap.size ∧ w.cell? (ad.add j) = some (.int k (L.getD j 0)) := by
  obtain ⟨A, c, e, hc, h⟩ := h
  rcases h with rfl | ⟨ad, rfl, hb, hr⟩
  · simp at hj
  · refine ⟨ad, c, e, hc, hb, ?_⟩
    rw [hr j hj, List.getD_eq_getElem?_getD, List.getElem?_eq_getElem hj]; rfl
/-- the form, for a walk: address, capacity, and each cell -/
theorem Sl.open_ (h : Sl k w s L) : ∃ A c, s = .slice A L.length c ∧ L.length ≤ c ∧ ∀ j, j < L.length → ∃ ad, A = some ad ∧ ad.block < w.heap.size ∧ w.cell? (ad.add j) = some (.int k (L.getD j 0)) := by
  obtain ⟨A, c, e, hc, h⟩ := h
  refine ⟨A, c, e, hc, fun j hj => ?_⟩
  rcases h with rfl | ⟨ad, rfl, hb, hr⟩
  · simp at hj
  · refine ⟨ad, rfl, hb, ?_⟩
    rw [hr j hj, List.getD_eq_getElem?_getD, List.getElem?_eq_getElem hj]; rfl
theorem Sl.take {A : Option Addr} {n c : Nat} (h : Sl k w (.slice A n c) L) (m : Nat) (hm : m ≤ L.length) : Sl k w (.slice A m c) (L.take m) := by
  obtain ⟨A', c', e, hc, h⟩ := h
  injection e with e1 e2 e3
  subst e1 e3
  refine ⟨A, c, by rw [List.length_take, Nat.min_eq_left hm], by rw [List.length_take]; omega, ?_⟩
  rcases h with rfl | ⟨ad, rfl, hb, hr⟩
  · left; simp
  · right
    refine ⟨ad, rfl, hb, fun j hj => ?_⟩
    rw [List.length_take] at hj
    rw [hr j (by omega), List.getElem_take]
/-- a store into a cell that holds no integer of the kind leaves it -/
theorem Sl.setCell (h : Sl k w s L) {p : Addr} {u : Value} (hu : w.cell? p = some u) (hk : ∀ z, u ≠ .int k z) (x : Value) : Sl k (w.setCell p x) s L := by
  obtain ⟨A, c, e, hc, h⟩ := h
  refine ⟨A, c, e, hc, ?_⟩
  rcases h with h | ⟨ad, rfl, hb, hr⟩
  · exact .inl h
  · refine .inr ⟨ad, rfl, by simpa [World.setCell] using hb, fun j hj => ?_⟩
    rw [World.cell?_setCell_other w p (ad.add j) x (fun e => by rw [e, hr j hj] at hu; injection hu with hu; exact hk _ hu.symm)]
    exact hr j hj
end
end Go.Proofs.Ytlcelocjfmclkaa
