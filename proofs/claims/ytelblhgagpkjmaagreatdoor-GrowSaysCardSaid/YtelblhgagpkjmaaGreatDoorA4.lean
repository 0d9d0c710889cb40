/-
  Lists of numbers' bits: a slice of the call's own, appended to one by one, or all at once to an empty one; slices.Equal.
-/
import Derived.Test.YtelblhgagpkjmaaGreatDoorF4
import Derived.Test.YtelblhgagpkjmaaGreatDoorA3
namespace Go.Proofs.YtelblhgagpkjmaaGreatDoor
set_option linter.unusedVariables false
set_option linter.unusedSimpArgs false
open Go.RowKit
set_option linter.unusedVariables false
set_option linter.unusedSimpArgs false
namespace AC
theorem el_u64 : Elem 22 23 .u64 := Elem.of Tryz.underlying22 (b := 8) (by kernel_rfl) (by decide)
abbrev OwnQ (w : World) (base : Nat) (v : Value) (X : List Int) : Prop := Own .u64 23 w base v X
theorem OwnQ.low' {w : World} {B B' : Nat} {v : Value} {X : List Int} (h : OwnQ w B v X) (hB : B' ≤ B) : OwnQ w B' v X :=
  ⟨h.1, h.2.imp id fun ⟨g, cap, cur, e, hg, r⟩ => ⟨g, cap, cur, e, Nat.le_trans hB hg, r⟩⟩
theorem wp_clone64 {w : World} {ops : Array Oper} {rest : List Oper} {o : Oper} {a : Act} {Q : Exit → Act → World → Prop} (hgd : o.guard = none) (s x : Operand)
    (hop : o.op = Op.call { callee := Callee.builtin Builtin.append, args := #[s, x], argTypes := #[22, 22] })
    (g : Nat) (hs : a.eval s = .slice (some ⟨g, 0, none⟩) 0 0) (vx : Value) (hx : a.eval x = vx) (l : List Int) (hS : Sl .u64 w vx l) (hl : l.length * 8 ≤ 140737488351232) (hg : Blk w g 23 #[])
    (h : ∀ g' c w', Hid (OwnQ w' g (.slice (some ⟨g', 0, none⟩) l.length c) l) → w.grownBy w' none → wpList Tryz.prog ops Q rest (a.put o.dst (.slice (some ⟨g', 0, none⟩) l.length c)) w') : wpList Tryz.prog ops Q (o :: rest) a w := by
  refine wpList_plain hgd fun K hK => ?_
  obtain ⟨i, hi, h0, h1, h2⟩ := el_u64.info
  obtain ⟨A, cx, rfl, hcx, hA⟩ := hS
  by_cases hM0 : l = []
  · subst hM0
    have hsrc : Src Tryz.prog i.size 22 (.slice A 0 cx) 0 [] w := by
      cases A with
      | none => exact Src.ofNil w el_u64.ht cx
      | some adx => exact Src.ofSlice w el_u64.ht adx 0 cx [] (by simp) (by intro j u hu; cases hu) (by intro u hu; cases hu)
    have hrun := run_append_nothing (P := Tryz.prog) w 22 22 o.type 23 i el_u64.ht hi (some ⟨g, 0, none⟩) 0 0 (by omega) _ hsrc
    have hx' : a.eval x = .slice A 0 cx := hx
    unfold Oper.wp
    simp [execOp, hop, resolve, invoke, builtin, hs, hx', hrun, Result.andThen]
    refine hK _ _ (h g 0 w ?_ (World.grownBy.refl _ _))
    exact ⟨rfl, .inr ⟨g, 0, #[], rfl, Nat.le_refl _, hg, Nat.le_refl _, by decide, rfl, rfl⟩⟩
  · rcases hA with h' | ⟨adx, rfl, hb1, hc1⟩
    · exact absurd h' hM0
    · have hM : Sl .u64 w (.slice (some adx) l.length cx) l := ⟨_, cx, rfl, hcx, .inr ⟨adx, rfl, hb1, hc1⟩⟩
      have hpos := List.length_pos_iff.2 hM0
      have hbytes : (0 + l.length) * i.bytes ≤ (0 + l.length) * 8 := Nat.mul_le_mul_left _ h2
      have hstep := step_append_grows (ops := #[]) (E := True) (Q := Q) (K := K) hgd s x 22 hop 23 i (.int .u64 0) 1 i.bytes el_u64.ht hi h0 h1 rfl rfl (by decide) (some ⟨g, 0, none⟩) 0 0 [] hs (fun h => by cases h) (by simp) (by intro b hb j u hu; cases hu)
        adx l.length cx (l.map (Value.int .u64)) hx (by simp) hM.news (by intro u hu; obtain ⟨z, _, rfl⟩ := List.mem_map.1 hu; rfl) (by omega) (by unfold maxLen; omega) (by omega) ?_
      · rwa [if_pos (by simp [Region.wanted, hgd])] at hstep
      · intro v' w' hown hgr
        have hown' : OwnQ w' w.heap.size v' l := by
          unfold OwnQ Own
          simpa using hown
        have hown2 := hown'.low' (Nat.le_of_lt hg.lt)
        rcases hown'.2 with ⟨_, h0⟩ | ⟨g', cap, cur, rfl, _⟩
        · exact absurd (List.eq_nil_of_length_eq_zero h0) hM0
        · exact hK _ _ (h g' cap w' hown2 hgr)
section
variable {w : World} {base g n c : Nat} {X : List Int}
theorem OwnQ.cell (h : OwnQ w base (.slice (some ⟨g, 0, none⟩) n c) X) (j : Nat) (hj : j < X.length) : w.cell? ⟨g, j, none⟩ = some (.int .u64 (X.getD j 0)) := by
  have hn : n = X.length := (Own.sl h).len_.1
  subst hn
  have := World.ownsRow.cellAt h j (by omega)
  rw [this, List.getElem?_map, List.getD_eq_getElem?_getD, List.getElem?_eq_getElem hj]; rfl
theorem OwnQ.frozen (h : OwnQ w base (.slice (some ⟨g, 0, none⟩) n c) X) (j : Nat) : w.frozen? ⟨g, j, none⟩ = false := by
  have hn : n = X.length := (Own.sl h).len_.1
  subst hn
  exact World.ownsRow.frozenAt h j
theorem OwnQ.set_ (h : OwnQ w base (.slice (some ⟨g, 0, none⟩) n c) X) (j : Nat) (z : Int) : OwnQ (w.setCell ⟨g, j, none⟩ (.int .u64 z)) base (.slice (some ⟨g, 0, none⟩) n c) (X.set j z) := by
  have hn : n = X.length := (Own.sl h).len_.1
  subst hn
  have := (World.ownsRow.stored h j (.int .u64 z)).1
  unfold OwnQ Own
  rw [List.map_set, List.length_set]
  exact this
end
def u64s (L : List Int) : Prop := ∀ x ∈ L, 0 ≤ x ∧ x ≤ 18446744073709551615
theorem appq {t e : TypeId} {k : IntKind} (el : Elem t e k) {w : World} {ops : Array Oper} {rest : List Oper} {o : Oper} {a : Act} {Q : Exit → Act → World → Prop} (hgd : o.guard = none) (s x : Operand)
    (ho : o.op = .call { callee := .builtin .append, args := #[s, x], argTypes := #[t, t] })
    {base : Nat} {v : Value} {L : List Int} (hs : a.eval s = v) (hown : Own k e w base v L) (z : Int) (hx : a.eval x = .slice (some ⟨w.heap.size, 0, none⟩) 1 1)
    (hl : (L.length + 1) * 8 ≤ 140737488355328) (hbase : base ≤ w.heap.size)
    (h : ∀ A n c w', Hid (n = L.length + 1) → Own k e w' base (.slice A n c) (L ++ [z]) → w.grownBy w' v.ownBlock → ((Value.slice A n c).ownBlock = v.ownBlock ∨ (Value.slice A n c).ownBlock = some (w.heap.size + 1)) → wpList Tryz.prog ops Q rest (a.put o.dst (.slice A n c)) w') :
    wpList Tryz.prog ops Q (o :: rest) a (w.alloc (.cells #[.int k z] e)) := by
  obtain ⟨i, hi, h0, h1, h2⟩ := el.info
  refine wpList_append_own_at (w.alloc (.cells #[.int k z] e)) hgd s x t ho base e i (.int k 0) 1 i.bytes el.ht hi h0 h1 rfl rfl (by decide) v L.length (L.map (Value.int k)) hs (hown.alloc _)
    ⟨w.heap.size, 0, none⟩ 1 1 [.int k z] hx rfl (cell_one_new _ _ _) (by intro u hu; simp at hu; subst hu; rfl) (by unfold maxLen; omega) ?_ (by simp; omega) ?_
  · have : (L.length + 1) * i.bytes ≤ (L.length + 1) * 8 := Nat.mul_le_mul_left _ h2
    omega
  · intro v' w' hown' hg _ hat
    have ho : Own k e w' base v' (L ++ [z]) := by unfold Own; simpa using hown'
    obtain ⟨A, c, rfl⟩ := ho.form
    exact h A _ c w' (show _ = _ by simp) ho ((World.grownBy_alloc w _ _).trans hg) (by simpa using hat)
theorem Equal64_c (s t : Value) (L M : List Int) (w : World) (hs : Sl .u64 w s L) (ht : Sl .u64 w t M) (bL : L.length ≤ 9223372036854775807) (bM : M.length ≤ 9223372036854775807) :
    Calls Tryz.prog 16 #[s, t] w (NC.RetQ w (.bool (decide (L = M)))) := by
  obtain ⟨n, hn⟩ : ∃ n, n = L.length := ⟨_, rfl⟩
  obtain ⟨m, hm⟩ : ∃ m, m = M.length := ⟨_, rfl⟩
  obtain ⟨A, c, rfl, hc, hcL⟩ := hs.open_
  obtain ⟨B, d, rfl, hd, hcM⟩ := ht.open_
  rw [← hn] at bL hc hcL ⊢
  rw [← hm] at bM hd hcM ⊢
  obtain ⟨r, hr⟩ : ∃ r, r = decide (L = M) := ⟨_, rfl⟩
  rw [← hr]
  have HR := Lib.hid hr
  have HN := Lib.hid hn
  have HM := Lib.hid hm
  have CL := Lib.hid hcL
  have CM := Lib.hid hcM
  clear hr hn hm hcL hcM hs ht
  by_cases h0 : n = m
  · subst h0
    have e1 : ((n : Int) != (n : Int)) = false := by simp
    go_enter Tryz.func16, Tryz.ntmps16
    go_wp2
    clear e1
    go_loopw [13] (fun i wr => ∃ k : Nat, k ≤ n ∧ i = .int .i64 k ∧ (∃ q, wr = w.drewN q) ∧ Hid (L.take k = M.take k)) (fun i _ => n - (intOf i).toNat)
    case atStart => exact ⟨0, by omega, rfl, ⟨0, rfl⟩, by unfold Hid; simp⟩
    case round =>
      obtain ⟨k, hk, rfl, ⟨q, rfl⟩, hd⟩ := hrel
      by_cases hk0 : k < n
      · obtain ⟨ad, rfl, hb1, hx⟩ := CL.out k hk0
        obtain ⟨ad2, rfl, hb2, hy⟩ := CM.out k hk0
        obtain ⟨x, hX⟩ : ∃ x, L.getD k 0 = x := ⟨_, rfl⟩
        obtain ⟨y, hY⟩ : ∃ y, M.getD k 0 = y := ⟨_, rfl⟩
        rw [hX] at hx
        rw [hY] at hy
        have i1 : (k : Int) < (n : Int) := by omega
        have eL : L[k]'(by rw [← HN.out]; exact hk0) = x := by rw [← hX, List.getD_eq_getElem?_getD, List.getElem?_eq_getElem (by rw [← HN.out]; exact hk0)]; rfl
        have eM : M[k]'(by rw [← HM.out]; exact hk0) = y := by rw [← hY, List.getD_eq_getElem?_getD, List.getElem?_eq_getElem (by rw [← HM.out]; exact hk0)]; rfl
        by_cases hxy : x = y
        · have e1 : (x != y) = false := by simp [hxy]
          have HD2 : Hid (L.take (k + 1) = M.take (k + 1)) := by
            unfold Hid
            rw [List.take_succ_eq_append_getElem (by rw [← HN.out]; exact hk0), List.take_succ_eq_append_getElem (by rw [← HM.out]; exact hk0), eL, eM, hd.out, hxy]
          clear hxy eL eM hX hY hb1 hb2
          go_wp2
          go_region
          go_wp2
          exact ⟨⟨k + 1, by omega, by simp, ⟨q + 1, rfl⟩, HD2.out⟩, by simp only [intOf]; omega⟩
        · have e1 : (x != y) = true := by simp [hxy]
          have HE : r = false := by
            rw [HR.out]
            simp only [decide_eq_false_iff_not]
            intro e
            apply hxy
            rw [← eL, ← eM]
            simp only [e]
          have HE := Lib.hid HE
          clear hxy eL eM hX hY hb1 hb2
          go_wp2
          go_region
          go_wp2
          go_ret
          exact ⟨ret_bool HE.out.symm, q + 1, rfl⟩
      · obtain rfl : n = k := by omega
        have HE : r = true := by
          rw [HR.out]
          have := hd.out
          rw [HN.out, List.take_length, ← HN.out, HM.out, List.take_length] at this
          simp [this]
        have HE := Lib.hid HE
        go_wp2
        go_ret
        exact ⟨ret_bool HE.out.symm, q, rfl⟩
  · have e1 : ((n : Int) != (m : Int)) = true := by rw [bne_iff_ne]; omega
    have HE : r = false := by
      rw [HR.out]
      simp only [decide_eq_false_iff_not]
      intro e
      apply h0
      rw [HN.out, HM.out, e]
    have HE := Lib.hid HE
    clear h0
    go_enter Tryz.func16, Tryz.ntmps16
    go_wp2
    go_ret
    exact ⟨ret_bool HE.out.symm, 0, rfl⟩
end AC
end Go.Proofs.YtelblhgagpkjmaaGreatDoor
