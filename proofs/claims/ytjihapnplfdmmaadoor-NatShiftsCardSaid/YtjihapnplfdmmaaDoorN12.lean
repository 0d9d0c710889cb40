/-
  Package nat: squareRoot.
-/
import Derived.Test.YtjihapnplfdmmaaDoorN11
import Derived.OneCell
namespace Go.Proofs.YtjihapnplfdmmaaDoor
open Go.RowKit
set_option linter.unusedVariables false
namespace NC
open L
open Z (Nz Tz cmpv)
def Sep (v u : Value) : Prop := ∀ g, v.ownBlock = some g → u.ownBlock = some g → False
theorem Sep.symm {v u : Value} (h : Sep v u) : Sep u v := fun g h1 h2 => h g h2 h1
section
variable {w w' : World} {base : Nat} {v u u' : Value} {X : List Int}
theorem keepO (h : OwnU w base v X) (hg : w.grownBy w' u.ownBlock) (hs : Sep v u) : OwnU w' base v X := by
  refine World.ownsRow.kept h hg ?_
  cases hv : v.ownBlock with
  | none => exact .inl rfl
  | some g => exact .inr fun e => hs g hv e.symm
theorem sep_after (hs : Sep v u) (h : OwnU w base v X) (h' : u'.ownBlock = u.ownBlock ∨ ∃ g, u'.ownBlock = some g ∧ w.heap.size ≤ g) : Sep v u' := by
  intro g h1 h2
  rcases h' with h' | ⟨g', h3, h4⟩
  · exact hs g h1 (h'.symm.trans h2)
  · have := (Own.lt h g h1).2
    rw [h3] at h2
    injection h2 with h2
    omega
theorem keepS (h : OwnU w base v X) {g j : Nat} {z : Value} (hs : v.ownBlock ≠ some g) : OwnU (w.setCell ⟨g, j, none⟩ z) base v X := ownsRow_setCell_other h hs z
theorem OwnU.take {A : Option Addr} {n c m : Nat} (h : OwnU w base (.slice A n c) X) (hm : m ≤ n) (hA : A ≠ none) : OwnU w base (.slice A m c) (X.take m) := by
  have hn : n = X.length := (Own.sl h).len_.1
  have hl : (X.take m).length = m := by rw [List.length_take, ← hn]; exact Nat.min_eq_left hm
  unfold OwnU Own
  rw [hl]
  refine ⟨by rw [List.length_map, hl]; omega, ?_⟩
  rcases h.2 with ⟨e, _⟩ | ⟨g, cap, cur, e, hg, hgg, hc, hmx, hsz, htk⟩
  · injection e with e1; exact absurd e1 hA
  · injection e with e1 e2 e3
    subst e1 e3
    refine .inr ⟨g, _, cur, rfl, hg, hgg, by omega, hmx, hsz, ?_⟩
    rw [List.map_take, ← htk, List.take_take, Nat.mul_one, Nat.mul_one, Nat.min_eq_left (by omega)]
end
/-- a slice of the call's own, written in place -/
def RetOw (w : World) (base g n c : Nat) (z : Int) (e : Ending) (w' : World) : Prop :=
  ∃ M, e = .returned (.tuple #[]) ∧ w.grownBy w' (some g) ∧ Hid (OwnU w' base (.slice (some ⟨g, 0, none⟩) n c) M ∧ M.length = n ∧ Lim M ∧ lv M = z)
theorem own_of_ed {w w' : World} {base g n c : Nat} {X M : List Int} {cs : Array Value} (h : OwnU w base (.slice (some ⟨g, 0, none⟩) n c) X) (hcs : Blk w g 50 cs) (hE : Ed w w' g cs 0 n M) : OwnU w' base (.slice (some ⟨g, 0, none⟩) n c) M := by
  obtain ⟨cs', hb, hs, hM, _⟩ := hE.blk
  have hl := hE.len
  unfold OwnU Own
  rw [hl]
  refine ⟨by rw [List.length_map, hl]; omega, ?_⟩
  rcases h.2 with ⟨e, _⟩ | ⟨g2, cap, cur, e, hg, hgg, hc, hmx, hsz, htk⟩
  · cases e
  · injection e with e1 e2 e3
    injection e1 with e1
    injection e1 with e1
    subst e1 e3
    have e4 : cs = cur := by
      have := hgg.symm.trans hcs
      injection this with this
      injection this with this
      exact this.symm
    subst e4
    refine .inr ⟨g, _, cs', rfl, hg, hb, by omega, hmx, by rw [hs]; exact hsz, ?_⟩
    apply List.ext_getElem?
    intro j
    rw [List.getElem?_take, List.getElem?_map, Nat.mul_one]
    by_cases hj : j < n
    · have := hM j (by omega)
      rw [Nat.zero_add] at this
      rw [if_pos hj, Array.getElem?_toList, this, List.getD_eq_getElem?_getD, List.getElem?_eq_getElem (by omega)]; rfl
    · rw [if_neg hj, List.getElem?_eq_none (by omega)]; rfl
theorem subFrom_own (base g n c : Nat) (X m : List Int) (vb : Value) (w : World) (hO : OwnU w base (.slice (some ⟨g, 0, none⟩) n c) X) (hY : SlA .u32 w vb m g) (LX : Lim X) (Lm : Lim m) (nm : Nz m) (hle : lv m ≤ lv X) (hN : X.length ≤ 1000000000) :
    Calls Tryd.prog 54 #[.slice (some ⟨g, 0, none⟩) n c, vb] w (RetOw w base g n c (lv X - lv m)) := by
  have hn : n = X.length := (Own.sl hO).len_.1
  subst hn
  have hlen : m.length ≤ X.length := by
    rcases Nat.lt_or_ge X.length m.length with h | h
    · have := lv_len LX Lm nm h; omega
    · exact h
  have hc := (Own.sl hO).len_.2
  obtain ⟨cs, hb, hw⟩ : ∃ cs, Blk w g 50 cs ∧ Wn cs 0 X := by
    by_cases hne : X = []
    · rcases hO.2 with ⟨e, _⟩ | ⟨g2, cap, cur, e, hg, hgg, _⟩
      · cases e
      · injection e with e1 _ _
        injection e1 with e1
        injection e1 with e1
        subst e1
        exact ⟨cur, hgg, by subst hne; intro j hj; simp at hj⟩
    · obtain ⟨g2, c2, e, hH⟩ := own_head hO hne
      injection e with e1 _ _
      injection e1 with e1
      injection e1 with e1
      subst e1
      exact hH.2.2
  refine (subFrom_c g 0 X.length c cs X m vb w hb hw rfl hY LX Lm hlen hN hc hle).mono fun e w' h => ?_
  obtain ⟨M, rfl, hE, hL, hv⟩ := h
  exact ⟨M, rfl, hE.grown, own_of_ed hO hb hE, hE.len, hL, hv.out⟩
end NC
end Go.Proofs.YtjihapnplfdmmaaDoor
