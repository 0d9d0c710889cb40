/-
  Lists of numbers' bits: a slice of the call's own, appended to one by one, or all at once to an empty one; slices.Equal.
-/
import Derived.Test.YtelblhgagpkjmaaDoorE4
import Derived.Test.YtelblhgagpkjmaaDoorA3
namespace Go.Proofs.YtelblhgagpkjmaaDoor
set_option linter.unusedVariables false
set_option linter.unusedSimpArgs false
open Go.RowKit
set_option linter.unusedVariables false
set_option linter.unusedSimpArgs false
namespace AC
theorem el_u64 : Elem 26 22 .u64 := Elem.of Tryd.underlying26 (b := 8) (by kernel_rfl) (by decide)
abbrev OwnQ (w : World) (base : Nat) (v : Value) (X : List Int) : Prop := Own .u64 22 w base v X
theorem OwnQ.low' {w : World} {B B' : Nat} {v : Value} {X : List Int} (h : OwnQ w B v X) (hB : B' ≤ B) : OwnQ w B' v X :=
  ⟨h.1, h.2.imp id fun ⟨g, cap, cur, e, hg, r⟩ => ⟨g, cap, cur, e, Nat.le_trans hB hg, r⟩⟩
theorem wp_clone64 {w : World} {ops : Array Oper} {rest : List Oper} {o : Oper} {a : Act} {Q : Exit → Act → World → Prop} (hgd : o.guard = none) (s x : Operand)
    (hop : o.op = Op.call { callee := Callee.builtin Builtin.append, args := #[s, x], argTypes := #[26, 26] })
    (g : Nat) (hs : a.eval s = .slice (some ⟨g, 0, none⟩) 0 0) (vx : Value) (hx : a.eval x = vx) (l : List Int) (hS : Sl .u64 w vx l) (hl : l.length * 8 ≤ 140737488351232) (hg : Blk w g 22 #[])
    (h : ∀ g' c w', Hid (OwnQ w' g (.slice (some ⟨g', 0, none⟩) l.length c) l) → w.grownBy w' none → wpList Tryd.prog ops Q rest (a.put o.dst (.slice (some ⟨g', 0, none⟩) l.length c)) w') : wpList Tryd.prog ops Q (o :: rest) a w := by
  refine wpList_plain hgd fun K hK => ?_
  obtain ⟨i, hi, h0, h1, h2⟩ := el_u64.info
  obtain ⟨A, cx, rfl, hcx, hA⟩ := hS
  by_cases hM0 : l = []
  · subst hM0
    have hsrc : Src Tryd.prog i.size 26 (.slice A 0 cx) 0 [] w := by
      cases A with
      | none => exact Src.ofNil w el_u64.ht cx
      | some adx => exact Src.ofSlice w el_u64.ht adx 0 cx [] (by simp) (by intro j u hu; cases hu) (by intro u hu; cases hu)
    have hrun := run_append_nothing (P := Tryd.prog) w 26 26 o.type 22 i el_u64.ht hi (some ⟨g, 0, none⟩) 0 0 (by omega) _ hsrc
    have hx' : a.eval x = .slice A 0 cx := hx
    unfold Oper.wp
    simp [execOp, hop, resolve, invoke, builtin, hs, hx', hrun, Result.andThen]
    refine hK _ _ (h g 0 w ?_ (World.grownBy.refl _ _))
    exact ⟨rfl, .inr ⟨g, 0, #[], rfl, Nat.le_refl _, hg, Nat.le_refl _, by decide, rfl, rfl⟩⟩
  · rcases hA with h' | ⟨adx, rfl, hb1, hc1⟩
    · exact absurd h' hM0
    · have hM : Sl .u64 w (.slice (some adx) l.length cx) l := ⟨_, cx, rfl, hcx, .inr ⟨adx, rfl, hb1, hc1⟩⟩
      have hpos := List.length_pos_iff.2 hM0
      have hbytes : (0 + l.length) * i.bytes ≤ (0 + l.length) * 8 := Nat.mul_le_mul_left _ h2
      have hstep := step_append_grows (ops := #[]) (E := True) (Q := Q) (K := K) hgd s x 26 hop 22 i (.int .u64 0) 1 i.bytes el_u64.ht hi h0 h1 rfl rfl (by decide) (some ⟨g, 0, none⟩) 0 0 [] hs (fun h => by cases h) (by simp) (by intro b hb j u hu; cases hu)
        adx l.length cx (l.map (Value.int .u64)) hx (by simp) hM.news (by intro u hu; obtain ⟨z, _, rfl⟩ := List.mem_map.1 hu; rfl) (by omega) (by unfold maxLen; omega) (by omega) ?_
      · rwa [if_pos (by simp [Region.wanted, hgd])] at hstep
      · intro v' w' hown hgr
        have hown' : OwnQ w' w.heap.size v' l := by
          unfold OwnQ Own
          simpa using hown
        have hown2 := hown'.low' (Nat.le_of_lt hg.lt)
        rcases hown'.2 with ⟨_, h0⟩ | ⟨g', cap, cur, rfl, _⟩
        · exact absurd (List.eq_nil_of_length_eq_zero h0) hM0
        · exact hK _ _ (h g' cap w' hown2 hgr)
section
variable {w : World} {base g n c : Nat} {X : List Int}
theorem OwnQ.cell (h : OwnQ w base (.slice (some ⟨g, 0, none⟩) n c) X) (j : Nat) (hj : j < X.length) : w.cell? ⟨g, j, none⟩ = some (.int .u64 (X.getD j 0)) := by
  have hn : n = X.length := (Own.sl h).len_.1
  subst hn
  have := World.ownsRow.cellAt h j (by omega)
  rw [this, List.getElem?_map, List.getD_eq_getElem?_getD, List.getElem?_eq_getElem hj]; rfl
theorem OwnQ.frozen (h : OwnQ w base (.slice (some ⟨g, 0, none⟩) n c) X) (j : Nat) : w.frozen? ⟨g, j, none⟩ = false := by
  have hn : n = X.length := (Own.sl h).len_.1
  subst hn
  exact World.ownsRow.frozenAt h j
theorem OwnQ.set_ (h : OwnQ w base (.slice (some ⟨g, 0, none⟩) n c) X) (j : Nat) (z : Int) : OwnQ (w.setCell ⟨g, j, none⟩ (.int .u64 z)) base (.slice (some ⟨g, 0, none⟩) n c) (X.set j z) := by
  have hn : n = X.length := (Own.sl h).len_.1
  subst hn
  have := (World.ownsRow.stored h j (.int .u64 z)).1
  unfold OwnQ Own
  rw [List.map_set, List.length_set]
  exact this
end
def u64s (L : List Int) : Prop := ∀ x ∈ L, 0 ≤ x ∧ x ≤ 18446744073709551615
theorem appq {t e : TypeId} {k : IntKind} (el : Elem t e k) {w : World} {ops : Array Oper} {rest : List Oper} {o : Oper} {a : Act} {Q : Exit → Act → World → Prop} (hgd : o.guard = none) (s x : Operand)
    (ho : o.op = .call { callee := .builtin .append, args := #[s, x], argTypes := #[t, t] })
    {base : Nat} {v : Value} {L : List Int} (hs : a.eval s = v) (hown : Own k e w base v L) (z : Int) (hx : a.eval x = .slice (some ⟨w.heap.size, 0, none⟩) 1 1)
    (hl : (L.length + 1) * 8 ≤ 140737488355328) (hbase : base ≤ w.heap.size)
    (h : ∀ A n c w', Hid (n = L.length + 1) → Own k e w' base (.slice A n c) (L ++ [z]) → w.grownBy w' v.ownBlock → ((Value.slice A n c).ownBlock = v.ownBlock ∨ (Value.slice A n c).ownBlock = some (w.heap.size + 1)) → wpList Tryd.prog ops Q rest (a.put o.dst (.slice A n c)) w') :
    wpList Tryd.prog ops Q (o :: rest) a (w.alloc (.cells #[.int k z] e)) := by
  obtain ⟨i, hi, h0, h1, h2⟩ := el.info
  refine wpList_append_own_at (w.alloc (.cells #[.int k z] e)) hgd s x t ho base e i (.int k 0) 1 i.bytes el.ht hi h0 h1 rfl rfl (by decide) v L.length (L.map (Value.int k)) hs (hown.alloc _)
    ⟨w.heap.size, 0, none⟩ 1 1 [.int k z] hx rfl (cell_one_new _ _ _) (by intro u hu; simp at hu; subst hu; rfl) (by unfold maxLen; omega) ?_ (by simp; omega) ?_
  · have : (L.length + 1) * i.bytes ≤ (L.length + 1) * 8 := Nat.mul_le_mul_left _ h2
    omega
  · intro v' w' hown' hg _ hat
    have ho : Own k e w' base v' (L ++ [z]) := by unfold Own; simpa using hown'
    obtain ⟨A, c, rfl⟩ := ho.form
    exact h A _ c w' (show _ = _ by simp) ho ((World.grownBy_alloc w _ _).trans hg) (by simpa using hat)
end AC
end Go.Proofs.YtelblhgagpkjmaaDoor
