/-
  Package nat: clone, Sub.
-/
import Derived.Test.YtjihapnplfdmmaaDoorN4
namespace Go.Proofs.YtjihapnplfdmmaaDoor
open Go.RowKit
set_option linter.unusedVariables false
namespace NC
open L
open Z (Nz Tz cmpv)
theorem el_u32 : Elem 22 50 .u32 := Elem.of Tryd.underlying22 (b := 4) (by kernel_rfl) (by decide)
/-- limbs at the head of a block of the call's own -/
def Head (w : World) (B g c : Nat) (l : List Int) : Prop := B ≤ g ∧ l.length ≤ c ∧ ∃ cs, Blk w g 50 cs ∧ Wn cs 0 l
theorem own_head {w : World} {B : Nat} {v : Value} {l : List Int} (h : Own .u32 50 w B v l) (hne : l ≠ []) : ∃ g c, v = .slice (some ⟨g, 0, none⟩) l.length c ∧ Head w B g c l := by
  rcases h.2 with ⟨_, h0⟩ | ⟨g, cap, cur, rfl, hg, hgg, hc, hm, hs, ht⟩
  · exact absurd (List.eq_nil_of_length_eq_zero h0) hne
  · refine ⟨g, cap, rfl, hg, hc, cur, hgg, fun j hj => ?_⟩
    have e := congrArg (fun x => x[j]?) ht
    simp only [Nat.mul_one, List.getElem?_map] at e
    rw [List.getElem?_take, if_pos hj, List.getElem?_eq_getElem hj] at e
    rw [Nat.zero_add, ← Array.getElem?_toList, e, List.getD_eq_getElem?_getD, List.getElem?_eq_getElem hj]; rfl
theorem wp_clone {w : World} {ops : Array Oper} {rest : List Oper} {o : Oper} {a : Act} {Q : Exit → Act → World → Prop} (hgd : o.guard = none) (s x : Operand)
    (hop : o.op = Op.call { callee := Callee.builtin Builtin.append, args := #[s, x], argTypes := #[22, 22] })
    (g : Nat) (hs : a.eval s = .slice (some ⟨g, 0, none⟩) 0 0) (vx : Value) (hx : a.eval x = vx) (l : List Int) (hS : Sl .u32 w vx l) (hl : l.length ≤ 1000000000000) (hg : Blk w g 50 #[])
    (h : ∀ g' c w', Hid (Head w' g g' c l) → w.grownBy w' none → wpList Tryd.prog ops Q rest (a.put o.dst (.slice (some ⟨g', 0, none⟩) l.length c)) w') : wpList Tryd.prog ops Q (o :: rest) a w := by
  refine wpList_plain hgd fun K hK => ?_
  obtain ⟨i, hi, h0, h1, h2⟩ := el_u32.info
  obtain ⟨A, cx, rfl, hcx, hA⟩ := hS
  by_cases hM0 : l = []
  · subst hM0
    have hsrc : Src Tryd.prog i.size 22 (.slice A 0 cx) 0 [] w := by
      cases A with
      | none => exact Src.ofNil w el_u32.ht cx
      | some adx => exact Src.ofSlice w el_u32.ht adx 0 cx [] (by simp) (by intro j u hu; cases hu) (by intro u hu; cases hu)
    have hrun := run_append_nothing (P := Tryd.prog) w 22 22 o.type 50 i el_u32.ht hi (some ⟨g, 0, none⟩) 0 0 (by omega) _ hsrc
    have hx' : a.eval x = .slice A 0 cx := hx
    unfold Oper.wp
    simp [execOp, hop, resolve, invoke, builtin, hs, hx', hrun, Result.andThen]
    exact hK _ _ (h g 0 w ⟨Nat.le_refl _, Nat.le_refl _, #[], hg, (by intro j hj; simp at hj)⟩ (World.grownBy.refl _ _))
  · rcases hA with h' | ⟨adx, rfl, hb1, hc1⟩
    · exact absurd h' hM0
    · have hM : Sl .u32 w (.slice (some adx) l.length cx) l := ⟨_, cx, rfl, hcx, .inr ⟨adx, rfl, hb1, hc1⟩⟩
      have hpos := List.length_pos_iff.2 hM0
      have hbytes : (0 + l.length) * i.bytes ≤ (0 + l.length) * 8 := Nat.mul_le_mul_left _ h2
      have hstep := step_append_grows (ops := #[]) (E := True) (Q := Q) (K := K) hgd s x 22 hop 50 i (.int .u32 0) 1 i.bytes el_u32.ht hi h0 h1 rfl rfl (by decide) (some ⟨g, 0, none⟩) 0 0 [] hs (fun h => by cases h) (by simp) (by intro b hb j u hu; cases hu)
        adx l.length cx (l.map (Value.int .u32)) hx (by simp) hM.news (by intro u hu; obtain ⟨z, _, rfl⟩ := List.mem_map.1 hu; rfl) (by omega) (by unfold maxLen; omega) (by omega) ?_
      · rwa [if_pos (by simp [Region.wanted, hgd])] at hstep
      · intro v' w' hown hgr
        have hown' : Own .u32 50 w' w.heap.size v' l := by
          unfold Own
          simpa using hown
        obtain ⟨g', c', rfl, hd⟩ := own_head hown' hM0
        refine hK _ _ (h g' c' w' ⟨Nat.le_trans (Nat.le_of_lt hg.lt) hd.1, hd.2⟩ ?_)
        exact hgr
/-- a copy, in a block of the call's own -/
def RetH (w : World) (l : List Int) (e : Ending) (w' : World) : Prop := ∃ g c, e = .returned (.slice (some ⟨g, 0, none⟩) l.length c) ∧ Hid (Head w' w.heap.size g c l) ∧ Below w.heap.size w w'
theorem clone_c (v : Value) (l : List Int) (w : World) (hs : Sl .u32 w v l) (hl : l.length ≤ 1000000000) : Calls Tryd.prog 38 #[v] w (RetH w l) := by
  obtain ⟨A, c, rfl, hc⟩ := hs.form
  have HS := Lib.hid (hs.alloc (.cells #[] 50))
  obtain ⟨n, hn⟩ : ∃ n, n = l.length := ⟨_, rfl⟩
  rw [← hn] at hc hl HS ⊢
  have HN := Lib.hid hn
  clear hs hn
  go_enter Tryd.func38, Tryd.ntmps38
  go_wp2_with (first | (at_builtin; refine wp_clone rfl (.tmp 3) (.tmp 4) rfl w.heap.size rfl _ rfl l HS.out (by have := HN.out; omega) (Blk.new _ _ _) ?_; intro g' c' w2 hH hg))
  go_ret
  exact ⟨g', c', rfl, hH, ((Below.refl _ _).alloc (Nat.le_refl _) _).grown hg (by simp) fun k hk => by cases hk⟩
/-- what Sub tells of an error -/
def errSub (l m : List Int) : Int := if chk2 l m = 0 then (if lv l < lv m then 1 else 0) else chk2 l m
end NC
end Go.Proofs.YtjihapnplfdmmaaDoor
