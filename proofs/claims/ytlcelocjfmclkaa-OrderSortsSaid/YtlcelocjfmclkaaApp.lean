/-
  Words for memory: a list appended to a slice that has no room to spare, as one step of a region that draws its order.
-/
import Derived.Test.YtlcelocjfmclkaaRow
import Derived.Deep.Upon
import Derived.Deep.RegionLawGrows
namespace Go.Proofs.Ytlcelocjfmclkaa
open Go.RowKit
set_option linter.unusedVariables false
theorem Sl.len_ {k : IntKind} {w : World} {A : Option Addr} {n c : Nat} {L : List Int} (h : Sl k w (.slice A n c) L) : n = L.length ∧ L.length ≤ c := by
  obtain ⟨A', c', e, hc, _⟩ := h
  injection e with e1 e2 e3
  subst e3
  exact ⟨e2, hc⟩
theorem Sl.news {k : IntKind} {w : World} {ad : Addr} {n c : Nat} {L : List Int} (h : Sl k w (.slice (some ad) n c) L) : ∀ j u, (L.map (Value.int k))[j]? = some u → w.cell? (ad.add j) = some u := by
  intro j u hu
  have hj : j < L.length := by
    rcases Nat.lt_or_ge j L.length with h | h
    · exact h
    · rw [List.getElem?_eq_none (by simpa using h)] at hu; cases hu
  obtain ⟨ad', c', e, _, _, hc⟩ := h.at_ j hj
  injection e with e1 e2 e3
  injection e1 with e1
  subst e1
  rw [hc]
  rw [List.getElem?_map, List.getElem?_eq_getElem hj] at hu
  rw [List.getD_eq_getElem?_getD, List.getElem?_eq_getElem hj]
  simpa using hu
theorem step_app_list {t e : TypeId} {k : IntKind} (el : Elem t e k) {ops : Array Oper} {o : Oper} {a : Act} {w : World} {K : Act → World → Prop} {Q : Exit → Act → World → Prop} {E : Prop}
    (hg : o.guard = none) (s x : Operand) (hop : o.op = Op.call { callee := Callee.builtin Builtin.append, args := #[s, x], argTypes := #[t, t] })
    (ad : Addr) (n c : Nat) (L : List Int) (hs : a.eval s = .slice (some ad) n c) (hS : Sl k w (.slice (some ad) n c) L)
    (Ax : Option Addr) (m cx : Nat) (M : List Int) (hx : a.eval x = .slice Ax m cx) (hM : Sl k w (.slice Ax m cx) M) (hfull : M ≠ [] → c < n + m) (hlen : L.length + M.length ≤ 1000000000000)
    (h : ∀ A' n' c' w', n' = L.length + M.length → Sl k w' (.slice A' n' c') (L ++ M) → Below w.heap.size w w' → (A' = some ad ∨ ∃ g, A' = some ⟨g, 0, none⟩ ∧ w.heap.size ≤ g) → K (a.put o.dst (.slice A' n' c')) w') :
    if Region.wanted o (yielded ops a.tmps) = true then Oper.wp Try.prog o a w K Q else E := by
  obtain ⟨i, hi, h0, h1, h2⟩ := el.info
  have hn := hS.len_
  have hm := hM.len_
  by_cases hM0 : M = []
  · subst hM0
    have hw : Region.wanted o (yielded ops a.tmps) = true := by simp [Region.wanted, hg]
    rw [if_pos hw]
    have hm0 : m = 0 := by simpa using hm.1
    subst hm0
    have hsrc : Src Try.prog i.size t (.slice Ax 0 cx) 0 [] w := by
      cases Ax with
      | none => exact Src.ofNil w el.ht cx
      | some adx => exact Src.ofSlice w el.ht adx 0 cx [] (by simp) (by intro j u hu; cases hu) (by intro u hu; cases hu)
    have hrun := run_append_nothing (P := Try.prog) w t t o.type e i el.ht hi (some ad) n c (by omega) _ hsrc
    unfold Oper.wp
    simp [execOp, hop, resolve, invoke, builtin, hs, hx, hrun, Result.andThen]
    exact h _ _ _ _ (by simpa using hn.1) (by simpa using hS) (Below.refl _ _) (.inl rfl)
  · obtain ⟨adx, rfl⟩ : ∃ adx, Ax = some adx := by
      obtain ⟨ad', c', e, _⟩ := hM.at_ 0 (List.length_pos_iff.2 hM0)
      injection e with e1
      exact ⟨_, e1⟩
    refine step_append_grows hg s x t hop e i (.int k 0) 1 i.bytes el.ht hi h0 h1 rfl rfl (by decide) (some ad) n c (L.map (Value.int k)) hs (fun h => by cases h) (by simp [hn.1]) ?_
      adx m cx (M.map (Value.int k)) hx (by simp [hm.1]) hM.news ?_ (hfull hM0) (by unfold maxLen; omega) ?_ ?_
    · intro b hb
      injection hb with hb
      subst hb
      exact hS.news
    · intro u hu
      obtain ⟨z, _, rfl⟩ := List.mem_map.1 hu
      rfl
    · have : (n + m) * i.bytes ≤ (n + m) * 8 := Nat.mul_le_mul_left _ h2
      omega
    · intro v' w' hown hgr
      have hown' : Own k e w' w.heap.size v' (L ++ M) := by
        unfold Own
        rw [List.map_append, List.length_append, ← hn.1, ← hm.1]
        exact hown
      obtain ⟨A', c', rfl⟩ := hown'.form
      refine h A' _ c' w' (by simp) hown'.sl ?_ ?_
      · exact (Below.refl w.heap.size w).grown hgr (Nat.le_refl _) (fun g hg => by cases hg)
      · rcases hown'.2 with ⟨he, h0⟩ | ⟨g, cap, cur, he, hg', _⟩
        · exfalso
          have := List.length_pos_iff.2 hM0
          have e0 : (L ++ M).length = 0 := h0
          rw [List.length_append] at e0
          omega
        · injection he with h1
          exact .inr ⟨g, h1, hg'⟩
theorem wp_app_list {t e : TypeId} {k : IntKind} (el : Elem t e k) {o : Oper} {a : Act} {w : World} {K : Act → World → Prop} {Q : Exit → Act → World → Prop}
    (hg : o.guard = none) (s x : Operand) (hop : o.op = Op.call { callee := Callee.builtin Builtin.append, args := #[s, x], argTypes := #[t, t] })
    (ad : Addr) (n c : Nat) (L : List Int) (hs : a.eval s = .slice (some ad) n c) (hS : Sl k w (.slice (some ad) n c) L)
    (Ax : Option Addr) (m cx : Nat) (M : List Int) (hx : a.eval x = .slice Ax m cx) (hM : Sl k w (.slice Ax m cx) M) (hfull : M ≠ [] → c < n + m) (hlen : L.length + M.length ≤ 1000000000000)
    (h : ∀ A' n' c' w', n' = L.length + M.length → Sl k w' (.slice A' n' c') (L ++ M) → Below w.heap.size w w' → (A' = some ad ∨ ∃ g, A' = some ⟨g, 0, none⟩ ∧ w.heap.size ≤ g) → K (a.put o.dst (.slice A' n' c')) w') :
    Oper.wp Try.prog o a w K Q := by
  have := step_app_list (ops := #[]) (E := True) (Q := Q) el hg s x hop ad n c L hs hS Ax m cx M hx hM hfull hlen h
  rwa [if_pos (by simp [Region.wanted, hg])] at this
end Go.Proofs.Ytlcelocjfmclkaa
