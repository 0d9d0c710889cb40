/-
  ProdDots: the walk.
-/
import Derived.Test.YtjplemfdhhkbaaaDoorP9
import Derived.Test.YtjplemfdhhkbaaaDoorW7
import Derived.Test.YtjplemfdhhkbaaaDoorU10
namespace Go.Proofs.YtjplemfdhhkbaaaDoor
set_option linter.unusedVariables false
set_option linter.unusedSimpArgs false
open Go.RowKit
set_option linter.unusedVariables false
set_option linter.unusedSimpArgs false
namespace PC
open L NC NK DC RC SC
/-- two numbers appended, as one step of a region that draws its order -/
theorem app2K {t e : TypeId} {k : IntKind} (el : Elem t e k) {w : World} {o : Oper} {a : Act} {K : Act → World → Prop} {Q : Exit → Act → World → Prop} (s x : Operand)
    (ho : o.op = .call { callee := .builtin .append, args := #[s, x], argTypes := #[t, t] })
    {base : Nat} {v : Value} {L : List Int} (hs : a.eval s = v) (hown : Own k e w base v L) (z1 z2 : Int) (H : Nat) (hB : Blk w H e #[.int k z1, .int k z2]) (hx : a.eval x = .slice (some ⟨H, 0, none⟩) 2 2)
    (hl : L.length ≤ 1000000000000) (hbase : base ≤ w.heap.size)
    (h : ∀ A n c w', Own k e w' base (.slice A n c) (L ++ [z1, z2]) → w.grownBy w' v.ownBlock → K (a.put o.dst (.slice A n c)) w') : Oper.wp Tryd.prog o a w K Q := by
  obtain ⟨i, hi, h0, h1, h2⟩ := el.info
  refine wp_append_own w s x t ho base e i (.int k 0) 1 i.bytes el.ht hi h0 h1 rfl rfl (by decide) v L.length (L.map (Value.int k)) hs hown
    ⟨H, 0, none⟩ 2 2 [.int k z1, .int k z2] hx rfl ?_ (by intro u hu; simp at hu; rcases hu with rfl | rfl <;> rfl) (by unfold maxLen; omega) ?_ hbase ?_
  · intro j u hu
    have hj : j < 2 := by
      rcases Nat.lt_or_ge j 2 with h | h
      · exact h
      · rw [List.getElem?_eq_none (by simpa using h)] at hu; cases hu
    have e1 : (⟨H, 0, none⟩ : Addr).add j = ⟨H, j, none⟩ := by unfold Addr.add; split <;> simp_all
    rw [e1]
    refine hB.at_ j ?_
    match j, hj with
    | 0, _ => simpa using hu
    | 1, _ => simpa using hu
  · have : (L.length + 2) * i.bytes ≤ (L.length + 2) * 8 := Nat.mul_le_mul_left _ h2
    omega
  · intro v' w' hown' hg _
    have ho : Own k e w' base v' (L ++ [z1, z2]) := by unfold Own; simpa using hown'
    obtain ⟨A, c, rfl⟩ := ho.form
    exact h A _ c w' ho hg
theorem row_q {w : World} {a : Option Addr} {n c : Nat} {zs : List Int}
    (h : (a = none ∧ n = 0 ∧ c = 0 ∧ zs = []) ∨ ∃ x, a = some x ∧ n ≤ c ∧ c ≤ maxLen ∧ zs.length = c ∧ (∀ i, i < zs.length → w.cell? (x.add i) = some (.int .u64 (zs.getD i 0))) ∧ ∀ n ∈ zs, (Lit.int .u64 n).wf = true) :
    Sl .u64 w (.slice a n c) (zs.take n) ∧ u64s (zs.take n) ∧ (zs.take n).length = n ∧ ((a = none ∧ n = 0 ∧ c = 0) ∨ ∃ ad, a = some ad) := by
  rcases h with ⟨rfl, rfl, rfl, rfl⟩ | ⟨x, rfl, hn, hc, hz, hcell, hwf⟩
  · exact ⟨Sl.nil _ _ _ _, (by intro x hx; simp at hx), by simp, .inl ⟨rfl, rfl, rfl⟩⟩
  · have hl : (zs.take n).length = n := by rw [List.length_take, hz]; exact Nat.min_eq_left hn
    refine ⟨⟨some x, c, by rw [hl], by rw [hl]; exact hn, ?_⟩, fun d hd => wfb_u64 (hwf d (List.mem_of_mem_take hd)), hl, .inr ⟨x, rfl⟩⟩
    by_cases h0 : n = 0
    · left; subst h0; simp
    · right
      refine ⟨x, rfl, ?_, fun j hj => ?_⟩
      · have := World.block_lt_of_cell? w _ (hcell 0 (by omega))
        rwa [block_of_add] at this
      · rw [hl] at hj
        rw [hcell j (by omega), List.getElem_take, List.getD_eq_getElem?_getD, List.getElem?_eq_getElem (by omega)]; rfl
theorem drop_two {L : List Int} {q : Nat} (h : q + 2 ≤ L.length) : (L.drop q).reverse = (L.drop (q + 2)).reverse ++ [L.getD (q + 1) 0, L.getD q 0] := by
  have e : L.drop q = L.getD q 0 :: L.getD (q + 1) 0 :: L.drop (q + 2) := by
    rw [List.drop_eq_getElem_cons (by omega : q < L.length), List.drop_eq_getElem_cons (by omega : q + 1 < L.length)]
    congr 1
    · rw [List.getD_eq_getElem?_getD, List.getElem?_eq_getElem (by omega : q < L.length)]; rfl
    · congr 1
      rw [List.getD_eq_getElem?_getD, List.getElem?_eq_getElem (by omega : q + 1 < L.length)]; rfl
  rw [e]; simp
set_option maxRecDepth 100000 in
set_option maxHeartbeats 8000000 in
theorem dotsP_c (A : Option Addr) (n c : Nat) (L : List Int) (mode : Int) (w : World) (hs : Sl .u64 w (.slice A n c) L) (hu : u64s L) (hl : L.length * 8 ≤ 140737488351232) (hT : TabD w) :
    Calls Tryd.prog 11 #[.slice A n c, .int .i64 mode] w fun e w' => e = .returned (.bool true) ∧ Below w.heap.size w w' := by
  have HT : Hid (∀ W : World, Below w.heap.size w W → TabD W) := fun W hW => hT.below hW
  have LV : Hid (∀ W : World, Below w.heap.size w W → Calls Tryd.prog 46 #[] W fun e w' => e = .returned (.bool true) ∧ Below W.heap.size W w') := fun W hW => livesP_c W (HT.out W hW)
  have D := Lib.hid (Below.refl w.heap.size w)
  have HS : Hid (∀ W : World, Below w.heap.size w W → Sl .u64 W (.slice A n c) L) := fun W hW => hs.below hW
  have hn := hs.len_.1
  have A1 : Hid (∀ W : World, Below w.heap.size w W → Calls Tryd.prog 41 #[.slice A n c, .int .i64 mode] W (DC.RetB W (ATv (DT L mode)))) := fun W hW => Dot_c A n c L mode W (hs.below hW) hu (by omega) (HT.out W hW)
  have A2 : Hid (∀ (W : World) (A : Option Addr) (n c : Nat), Sl .u64 W (.slice A n c) L.reverse → Below w.heap.size w W → Calls Tryd.prog 41 #[.slice A n c, .int .i64 mode] W (DC.RetB W (ATv (DT L mode)))) := fun W A n c h hW => by
    have := Dot_c A n c L.reverse mode W h (u64s_rev hu) (by rw [List.length_reverse]; omega) (HT.out W hW)
    rwa [dot_rev hu] at this
  have dc := DT_cases (L := L) (mode := mode)
  have ba := DT_bd mode hu
  have d2 : ∀ x y, L = [x, y] → (DT L mode).2.2 = 0 → ∃ p a b, MT x y mode = (p, b, 0) ∧ DT L mode = (a, b, 0) ∧ (p = a ∨ (F.cls p = 1 ∧ F.cls a = 1)) := fun x y h h2 => by
    subst h
    exact dot_two (hu x (by simp)) (hu y (by simp)) h2
  obtain ⟨r, hr⟩ : ∃ r, DT L mode = r := ⟨_, rfl⟩
  rw [hr] at A1 A2 dc ba d2
  obtain ⟨a, b, e⟩ := r
  unfold ATv at A1 A2
  dsimp only at A1 A2 dc ba d2
  have HN := Lib.hid hn
  have HU := Lib.hid hu
  have HL := Lib.hid hl
  have hn63 : (n : Int) ≤ 17592186043904 := by omega
  rcases dc with ⟨he, rfl⟩ | ⟨rfl, hm, h2, h200, hnf⟩
  · have te : (e != 0) = true := by simp [he]
    clear he d2 ba hr hn hs hu hl hT
    go_enter Tryd.func11, Tryd.ntmps11
    go_wp2_with (first
      | (go_at_call 41; (with_reducible refine (A1.out _ D.out).mono ?_); rintro e w1 ⟨rfl, hb⟩; have D := Lib.hid (D.out.trans (hb.mono D.out.size)); clear hb)
      | (go_at_call 46; (with_reducible refine (LV.out _ D.out).mono ?_); rintro e w2 ⟨rfl, hb⟩; have D := Lib.hid (D.out.trans (hb.mono D.out.size)); clear hb))
    go_ret
    exact ⟨rfl, D.out⟩
  · have CA : Hid (∀ W : World, Calls Tryd.prog 48 #[.int .u64 a] W fun e w' => e = .returned (.int .i64 (F.cls a)) ∧ W = w') := fun W => FloatC.Class_c a ba.1 ba.2 W
    have H2 : Hid (L.length % 2 = 0) := h2
    have H200 : Hid (L.length ≤ 200) := by show _ ≤ _; omega
    have HM := Lib.hid hm
    have D2 := Lib.hid d2
    have ta : (a != a) = false := by simp
    have tb : (b != b) = false := by simp
    have tb2 : (b == b) = true := by simp
    clear h200 hnf h2 hm d2 ba hr hn hs hu hl hT
    go_enter Tryd.func11, Tryd.ntmps11
    go_wp2_with (first
      | (go_at_call 41; (with_reducible refine (A1.out _ D.out).mono ?_); rintro e w1 ⟨rfl, hb⟩; have D := Lib.hid (D.out.trans (hb.mono D.out.size)); clear hb)
      | (go_at_call 46; (with_reducible refine (LV.out _ D.out).mono ?_); rintro e w2 ⟨rfl, hb⟩; have D := Lib.hid (D.out.trans (hb.mono D.out.size)); clear hb))
    have hz2 := D.out.size
    go_loopw [8, 9] (fun mv kv wr => ∃ (A' : Option Addr) (n' c' r : Nat), mv = .slice A' n' c' ∧ kv = .int .i64 ((r : Int) - 1) ∧ r ≤ n ∧ Hid (r % 2 = 0) ∧ Hid (OwnQ wr w.heap.size (.slice A' n' c') (L.drop r).reverse) ∧ Hid (Below w.heap.size w wr)) (fun _ kv _ => (intOf kv + 1).toNat)
    case atStart =>
      refine ⟨none, 0, 0, n, rfl, rfl, Nat.le_refl _, ?_, ?_, D⟩
      · show _ = _; rw [HN.out]; exact H2.out
      · show OwnQ _ _ _ _; rw [HN.out, List.drop_length]; exact Own.nil _ _ _ _
    case round =>
      obtain ⟨A', n', c', r, rfl, rfl, hrn, hev, hO, hD⟩ := hrel
      by_cases h0 : r = 0
      · subst h0
        rw [show (((0 : Nat) : Int) - 1) = -1 by rfl]
        have hQ : Hid (OwnQ wr w.heap.size (.slice A' n' c') L.reverse) := by have := hO.out; rw [List.drop_zero] at this; exact this
        have hDD := hD
        clear hO hev hrn D
        by_cases hn2 : n = 2
        · subst hn2
          obtain ⟨x, y, hxy⟩ : ∃ x y, L = [x, y] := by
            have := HN.out
            match L, this with
            | [x, y], _ => exact ⟨x, y, rfl⟩
          obtain ⟨p, a', b', hM, hab, hp⟩ := D2.out x y hxy trivial
          injection hab with q1 q2
          injection q2 with q2 _
          subst q1
          subst q2
          obtain ⟨ad, c1, e', -, -, hc0⟩ := (HS.out _ hDD.out).at_ 0 (by rw [← HN.out]; omega)
          injection e' with e1 e2 e3
          subst e1
          have hcells : Hid (∀ W, Below w.heap.size w W → W.cell? ad = some (.int .u64 x) ∧ W.cell? (ad.add 1) = some (.int .u64 y) ∧ W.cell? ⟨ad.block, ad.off + 1, none⟩ = some (.int .u64 y)) := fun W hW => by
            obtain ⟨a1, _, f1, -, -, g1⟩ := (HS.out _ hW).at_ 0 (by rw [← HN.out]; omega)
            obtain ⟨a2, _, f2, -, -, g2⟩ := (HS.out _ hW).at_ 1 (by rw [← HN.out]; omega)
            injection f1 with f1
            obtain rfl := Option.some.inj f1
            injection f2 with f2
            obtain rfl := Option.some.inj f2
            rw [hxy] at g1 g2
            exact ⟨by simpa [Addr.add] using g1, by simpa using g2, by simpa [Addr.add] using g2⟩
          have bx := HU.out x (by rw [hxy]; simp)
          have by' := HU.out y (by rw [hxy]; simp)
          have AM : Hid (∀ W : World, Below w.heap.size w W → Calls Tryd.prog 45 #[.int .u64 x, .int .u64 y, .int .i64 mode] W (DC.RetB W (.tuple #[.int .u64 p, .bool b, .int .i64 0]))) := fun W hW => by
            have := Mul_c x y mode W bx by' (HT.out W hW)
            rw [hM] at this
            exact this
          have bp := MT_bd mode bx by'
          rw [hM] at bp
          have CP : Hid (∀ W : World, Calls Tryd.prog 48 #[.int .u64 p] W fun e w' => e = .returned (.int .i64 (F.cls p)) ∧ W = w') := fun W => FloatC.Class_c p bp.1 bp.2 W
          have kp : (p == a) = true ∨ ((p == a) = false ∧ F.cls p = 1 ∧ F.cls a = 1) := by
            by_cases h : p = a
            · left; simp [h]
            · right; exact ⟨by simp [h], hp.resolve_left h⟩
          generalize F.cls p = cp at *
          generalize F.cls a = ca at *
          clear hp hM hc0 e2 e3 bx by' bp hxy
          rcases kp with k1 | ⟨k1, rfl, rfl⟩
          · go_wp2_with (first
              | (go_at_call 41; (with_reducible refine (A2.out _ _ _ _ hQ.out.sl hDD.out).mono ?_); rintro e w3 ⟨rfl, hb⟩; have D := Lib.hid (hDD.out.trans (hb.mono hDD.out.size)); clear hb))
            have D3 : Below w.heap.size w w3.drew := D.out.drew
            (refine wp_region_L (S := fun w' => w'.cell? ad = some (.int .u64 x) ∧ w'.cell? (ad.add 1) = some (.int .u64 y) ∧ w'.cell? ⟨ad.block, ad.off + 1, none⟩ = some (.int .u64 y)) (nl := 1000000) (by kernel_rfl) ?_ (fun hHeld => ?_); focus (exact hcells.out _ D3))
            (refine wpAnyL_take (i := 0) (oi := _) (v := ?_) rfl (by kernel_rfl) (by kernel_rfl) (by kernel_rfl) (fun _ _ _ h => h) (Or.inl ⟨by first | rfl | kernel_rfl, ?hy1⟩) (by assumption) ?rs1; (case hy1 => (intro w hSw; (try dsimp only at hSw); go_simp; first | done | with_reducible rfl)); case' rs1 => (simp only [List.getElem_toArray, List.getElem_cons_zero, List.getElem_cons_succ, Act.put, List.setIfInBounds_toArray, List.set_cons_zero, List.set_cons_succ])); (refine wpAnyL_take (i := 1) (oi := _) (v := ?_) rfl (by kernel_rfl) (by kernel_rfl) (by kernel_rfl) (fun _ _ _ h => h) (Or.inl ⟨by first | rfl | kernel_rfl, ?hy2⟩) (by assumption) ?rs2; (case hy2 => (intro w hSw; (try dsimp only at hSw); go_simp; first | done | with_reducible rfl)); case' rs2 => (simp only [List.getElem_toArray, List.getElem_cons_zero, List.getElem_cons_succ, Act.put, List.setIfInBounds_toArray, List.set_cons_zero, List.set_cons_succ])); (refine wpAnyL_take (i := 2) (oi := _) (v := ?_) rfl (by kernel_rfl) (by kernel_rfl) (by kernel_rfl) (fun _ _ _ h => h) (Or.inl ⟨by first | rfl | kernel_rfl, ?hy3⟩) (by assumption) ?rs3; (case hy3 => (intro w hSw; (try dsimp only at hSw); go_simp; first | done | with_reducible rfl)); case' rs3 => (simp only [List.getElem_toArray, List.getElem_cons_zero, List.getElem_cons_succ, Act.put, List.setIfInBounds_toArray, List.set_cons_zero, List.set_cons_succ])); (refine wpAnyL_take (i := 3) (oi := _) (v := ?_) rfl (by kernel_rfl) (by kernel_rfl) (by kernel_rfl) (fun _ _ _ h => h) (Or.inl ⟨by first | rfl | kernel_rfl, ?hy4⟩) (by assumption) ?rs4; (case hy4 => (intro w hSw; (try dsimp only at hSw); go_simp; first | done | with_reducible rfl)); case' rs4 => (simp only [List.getElem_toArray, List.getElem_cons_zero, List.getElem_cons_succ, Act.put, List.setIfInBounds_toArray, List.set_cons_zero, List.set_cons_succ])); (refine wpAnyL_take (i := 4) (oi := _) (v := ?_) rfl (by kernel_rfl) (by kernel_rfl) (by kernel_rfl) (fun _ _ _ h => h) (Or.inl ⟨by first | rfl | kernel_rfl, ?hy5⟩) (by assumption) ?rs5; (case hy5 => (intro w hSw; (try dsimp only at hSw); go_simp; first | done | with_reducible rfl)); case' rs5 => (simp only [List.getElem_toArray, List.getElem_cons_zero, List.getElem_cons_succ, Act.put, List.setIfInBounds_toArray, List.set_cons_zero, List.set_cons_succ])); (refine wpAnyL_take (i := 5) (oi := _) (v := ?_) rfl (by kernel_rfl) (by kernel_rfl) (by kernel_rfl) (fun _ _ _ h => h) (Or.inl ⟨by first | rfl | kernel_rfl, ?hy6⟩) (by assumption) ?rs6; (case hy6 => (intro w hSw; (try dsimp only at hSw); go_simp; first | done | with_reducible rfl)); case' rs6 => (simp only [List.getElem_toArray, List.getElem_cons_zero, List.getElem_cons_succ, Act.put, List.setIfInBounds_toArray, List.set_cons_zero, List.set_cons_succ])); (refine wpAnyL_take (i := 6) (oi := _) (v := ?_) rfl (by kernel_rfl) (by kernel_rfl) (by kernel_rfl) (fun _ _ _ h => h) (Or.inl ⟨by first | rfl | kernel_rfl, ?hy7⟩) (by assumption) ?rs7; (case hy7 => (intro w hSw; (try dsimp only at hSw); go_simp; first | done | with_reducible rfl)); case' rs7 => (simp only [List.getElem_toArray, List.getElem_cons_zero, List.getElem_cons_succ, Act.put, List.setIfInBounds_toArray, List.set_cons_zero, List.set_cons_succ])); skip
            (refine wpAnyL_one (i := 7) (o := _) (by kernel_rfl) rfl (fun K hK => ?_); clear hHeld; simp only [List.getElem_toArray, List.getElem_cons_zero, List.getElem_cons_succ]; go_simp; (go_at_call 45; (with_reducible refine (AM.out _ D3).mono ?_); rintro e w4 ⟨rfl, hb⟩; have D5 := Lib.hid (D3.trans (hb.mono D3.size)); clear hb); refine hK.out _ _ ?_ (fun hHeld => ?_); focus (intro _; exact hcells.out _ D5.out)); have hHeld := hHeld (by decide); clear hK K; (try simp only [Act.put, List.setIfInBounds_toArray, List.set_cons_zero, List.set_cons_succ])
            (refine wpAnyL_take (i := 8) (oi := _) (v := ?_) rfl (by kernel_rfl) (by kernel_rfl) (by kernel_rfl) (fun _ _ _ h => h) (Or.inl ⟨by first | rfl | kernel_rfl, ?hy8⟩) (by assumption) ?rs8; (case hy8 => (intro w hSw; (try dsimp only at hSw); go_simp; first | done | with_reducible rfl)); case' rs8 => (simp only [List.getElem_toArray, List.getElem_cons_zero, List.getElem_cons_succ, Act.put, List.setIfInBounds_toArray, List.set_cons_zero, List.set_cons_succ])); (refine wpAnyL_take (i := 9) (oi := _) (v := ?_) rfl (by kernel_rfl) (by kernel_rfl) (by kernel_rfl) (fun _ _ _ h => h) (Or.inl ⟨by first | rfl | kernel_rfl, ?hy9⟩) (by assumption) ?rs9; (case hy9 => (intro w hSw; (try dsimp only at hSw); go_simp; first | done | with_reducible rfl)); case' rs9 => (simp only [List.getElem_toArray, List.getElem_cons_zero, List.getElem_cons_succ, Act.put, List.setIfInBounds_toArray, List.set_cons_zero, List.set_cons_succ])); (refine wpAnyL_take (i := 10) (oi := _) (v := ?_) rfl (by kernel_rfl) (by kernel_rfl) (by kernel_rfl) (fun _ _ _ h => h) (Or.inl ⟨by first | rfl | kernel_rfl, ?hy10⟩) (by assumption) ?rs10; (case hy10 => (intro w hSw; (try dsimp only at hSw); go_simp; first | done | with_reducible rfl)); case' rs10 => (simp only [List.getElem_toArray, List.getElem_cons_zero, List.getElem_cons_succ, Act.put, List.setIfInBounds_toArray, List.set_cons_zero, List.set_cons_succ])); (refine wpAnyL_take (i := 11) (oi := _) (v := ?_) rfl (by kernel_rfl) (by kernel_rfl) (by kernel_rfl) (fun _ _ _ h => h) (Or.inl ⟨by first | rfl | kernel_rfl, ?hy11⟩) (by assumption) ?rs11; (case hy11 => (intro w hSw; (try dsimp only at hSw); go_simp; first | done | with_reducible rfl)); case' rs11 => (simp only [List.getElem_toArray, List.getElem_cons_zero, List.getElem_cons_succ, Act.put, List.setIfInBounds_toArray, List.set_cons_zero, List.set_cons_succ])); (refine wpAnyL_take (i := 12) (oi := _) (v := ?_) rfl (by kernel_rfl) (by kernel_rfl) (by kernel_rfl) (fun _ _ _ h => h) (Or.inl ⟨by first | rfl | kernel_rfl, ?hy12⟩) (by assumption) ?rs12; (case hy12 => (intro w hSw; (try dsimp only at hSw); go_simp; first | done | with_reducible rfl)); case' rs12 => (simp only [List.getElem_toArray, List.getElem_cons_zero, List.getElem_cons_succ, Act.put, List.setIfInBounds_toArray, List.set_cons_zero, List.set_cons_succ])); (refine wpAnyL_take (i := 13) (oi := _) (v := ?_) rfl (by kernel_rfl) (by kernel_rfl) (by kernel_rfl) (fun _ _ _ h => h) (Or.inl ⟨by first | rfl | kernel_rfl, ?hy13⟩) (by assumption) ?rs13; (case hy13 => (intro w hSw; (try dsimp only at hSw); go_simp; first | done | with_reducible rfl)); case' rs13 => (simp only [List.getElem_toArray, List.getElem_cons_zero, List.getElem_cons_succ, Act.put, List.setIfInBounds_toArray, List.set_cons_zero, List.set_cons_succ])); (refine wpAnyL_take (i := 14) (oi := _) (v := ?_) rfl (by kernel_rfl) (by kernel_rfl) (by kernel_rfl) (fun _ _ _ h => h) (Or.inl ⟨by first | rfl | kernel_rfl, ?hy14⟩) (by assumption) ?rs14; (case hy14 => (intro w hSw; (try dsimp only at hSw); go_simp; first | done | with_reducible rfl)); case' rs14 => (simp only [List.getElem_toArray, List.getElem_cons_zero, List.getElem_cons_succ, Act.put, List.setIfInBounds_toArray, List.set_cons_zero, List.set_cons_succ])); skip
            refine wpAnyL_done (by kernel_rfl) ?_ _
            clear hHeld D3
            go_wp2_with (first
              | (go_at_call 48; (with_reducible refine (CP.out _).mono ?_); rintro e w7 ⟨rfl, rfl⟩)
              | (go_at_call 48; (with_reducible refine (CA.out _).mono ?_); rintro e w8 ⟨rfl, rfl⟩))
            go_ret
            exact ⟨rfl, D5.out⟩
          · go_wp2_with (first
              | (go_at_call 41; (with_reducible refine (A2.out _ _ _ _ hQ.out.sl hDD.out).mono ?_); rintro e w3 ⟨rfl, hb⟩; have D := Lib.hid (hDD.out.trans (hb.mono hDD.out.size)); clear hb))
            have D3 : Below w.heap.size w w3.drew := D.out.drew
            (refine wp_region_L (S := fun w' => w'.cell? ad = some (.int .u64 x) ∧ w'.cell? (ad.add 1) = some (.int .u64 y) ∧ w'.cell? ⟨ad.block, ad.off + 1, none⟩ = some (.int .u64 y)) (nl := 1000000) (by kernel_rfl) ?_ (fun hHeld => ?_); focus (exact hcells.out _ D3))
            (refine wpAnyL_take (i := 0) (oi := _) (v := ?_) rfl (by kernel_rfl) (by kernel_rfl) (by kernel_rfl) (fun _ _ _ h => h) (Or.inl ⟨by first | rfl | kernel_rfl, ?hy15⟩) (by assumption) ?rs15; (case hy15 => (intro w hSw; (try dsimp only at hSw); go_simp; first | done | with_reducible rfl)); case' rs15 => (simp only [List.getElem_toArray, List.getElem_cons_zero, List.getElem_cons_succ, Act.put, List.setIfInBounds_toArray, List.set_cons_zero, List.set_cons_succ])); (refine wpAnyL_take (i := 1) (oi := _) (v := ?_) rfl (by kernel_rfl) (by kernel_rfl) (by kernel_rfl) (fun _ _ _ h => h) (Or.inl ⟨by first | rfl | kernel_rfl, ?hy16⟩) (by assumption) ?rs16; (case hy16 => (intro w hSw; (try dsimp only at hSw); go_simp; first | done | with_reducible rfl)); case' rs16 => (simp only [List.getElem_toArray, List.getElem_cons_zero, List.getElem_cons_succ, Act.put, List.setIfInBounds_toArray, List.set_cons_zero, List.set_cons_succ])); (refine wpAnyL_take (i := 2) (oi := _) (v := ?_) rfl (by kernel_rfl) (by kernel_rfl) (by kernel_rfl) (fun _ _ _ h => h) (Or.inl ⟨by first | rfl | kernel_rfl, ?hy17⟩) (by assumption) ?rs17; (case hy17 => (intro w hSw; (try dsimp only at hSw); go_simp; first | done | with_reducible rfl)); case' rs17 => (simp only [List.getElem_toArray, List.getElem_cons_zero, List.getElem_cons_succ, Act.put, List.setIfInBounds_toArray, List.set_cons_zero, List.set_cons_succ])); (refine wpAnyL_take (i := 3) (oi := _) (v := ?_) rfl (by kernel_rfl) (by kernel_rfl) (by kernel_rfl) (fun _ _ _ h => h) (Or.inl ⟨by first | rfl | kernel_rfl, ?hy18⟩) (by assumption) ?rs18; (case hy18 => (intro w hSw; (try dsimp only at hSw); go_simp; first | done | with_reducible rfl)); case' rs18 => (simp only [List.getElem_toArray, List.getElem_cons_zero, List.getElem_cons_succ, Act.put, List.setIfInBounds_toArray, List.set_cons_zero, List.set_cons_succ])); (refine wpAnyL_take (i := 4) (oi := _) (v := ?_) rfl (by kernel_rfl) (by kernel_rfl) (by kernel_rfl) (fun _ _ _ h => h) (Or.inl ⟨by first | rfl | kernel_rfl, ?hy19⟩) (by assumption) ?rs19; (case hy19 => (intro w hSw; (try dsimp only at hSw); go_simp; first | done | with_reducible rfl)); case' rs19 => (simp only [List.getElem_toArray, List.getElem_cons_zero, List.getElem_cons_succ, Act.put, List.setIfInBounds_toArray, List.set_cons_zero, List.set_cons_succ])); (refine wpAnyL_take (i := 5) (oi := _) (v := ?_) rfl (by kernel_rfl) (by kernel_rfl) (by kernel_rfl) (fun _ _ _ h => h) (Or.inl ⟨by first | rfl | kernel_rfl, ?hy20⟩) (by assumption) ?rs20; (case hy20 => (intro w hSw; (try dsimp only at hSw); go_simp; first | done | with_reducible rfl)); case' rs20 => (simp only [List.getElem_toArray, List.getElem_cons_zero, List.getElem_cons_succ, Act.put, List.setIfInBounds_toArray, List.set_cons_zero, List.set_cons_succ])); (refine wpAnyL_take (i := 6) (oi := _) (v := ?_) rfl (by kernel_rfl) (by kernel_rfl) (by kernel_rfl) (fun _ _ _ h => h) (Or.inl ⟨by first | rfl | kernel_rfl, ?hy21⟩) (by assumption) ?rs21; (case hy21 => (intro w hSw; (try dsimp only at hSw); go_simp; first | done | with_reducible rfl)); case' rs21 => (simp only [List.getElem_toArray, List.getElem_cons_zero, List.getElem_cons_succ, Act.put, List.setIfInBounds_toArray, List.set_cons_zero, List.set_cons_succ])); skip
            (refine wpAnyL_one (i := 7) (o := _) (by kernel_rfl) rfl (fun K hK => ?_); clear hHeld; simp only [List.getElem_toArray, List.getElem_cons_zero, List.getElem_cons_succ]; go_simp; (go_at_call 45; (with_reducible refine (AM.out _ D3).mono ?_); rintro e w4 ⟨rfl, hb⟩; have D5 := Lib.hid (D3.trans (hb.mono D3.size)); clear hb); refine hK.out _ _ ?_ (fun hHeld => ?_); focus (intro _; exact hcells.out _ D5.out)); have hHeld := hHeld (by decide); clear hK K; (try simp only [Act.put, List.setIfInBounds_toArray, List.set_cons_zero, List.set_cons_succ])
            (refine wpAnyL_take (i := 8) (oi := _) (v := ?_) rfl (by kernel_rfl) (by kernel_rfl) (by kernel_rfl) (fun _ _ _ h => h) (Or.inl ⟨by first | rfl | kernel_rfl, ?hy22⟩) (by assumption) ?rs22; (case hy22 => (intro w hSw; (try dsimp only at hSw); go_simp; first | done | with_reducible rfl)); case' rs22 => (simp only [List.getElem_toArray, List.getElem_cons_zero, List.getElem_cons_succ, Act.put, List.setIfInBounds_toArray, List.set_cons_zero, List.set_cons_succ])); (refine wpAnyL_take (i := 9) (oi := _) (v := ?_) rfl (by kernel_rfl) (by kernel_rfl) (by kernel_rfl) (fun _ _ _ h => h) (Or.inl ⟨by first | rfl | kernel_rfl, ?hy23⟩) (by assumption) ?rs23; (case hy23 => (intro w hSw; (try dsimp only at hSw); go_simp; first | done | with_reducible rfl)); case' rs23 => (simp only [List.getElem_toArray, List.getElem_cons_zero, List.getElem_cons_succ, Act.put, List.setIfInBounds_toArray, List.set_cons_zero, List.set_cons_succ])); (refine wpAnyL_take (i := 10) (oi := _) (v := ?_) rfl (by kernel_rfl) (by kernel_rfl) (by kernel_rfl) (fun _ _ _ h => h) (Or.inl ⟨by first | rfl | kernel_rfl, ?hy24⟩) (by assumption) ?rs24; (case hy24 => (intro w hSw; (try dsimp only at hSw); go_simp; first | done | with_reducible rfl)); case' rs24 => (simp only [List.getElem_toArray, List.getElem_cons_zero, List.getElem_cons_succ, Act.put, List.setIfInBounds_toArray, List.set_cons_zero, List.set_cons_succ])); (refine wpAnyL_take (i := 11) (oi := _) (v := ?_) rfl (by kernel_rfl) (by kernel_rfl) (by kernel_rfl) (fun _ _ _ h => h) (Or.inl ⟨by first | rfl | kernel_rfl, ?hy25⟩) (by assumption) ?rs25; (case hy25 => (intro w hSw; (try dsimp only at hSw); go_simp; first | done | with_reducible rfl)); case' rs25 => (simp only [List.getElem_toArray, List.getElem_cons_zero, List.getElem_cons_succ, Act.put, List.setIfInBounds_toArray, List.set_cons_zero, List.set_cons_succ])); (refine wpAnyL_take (i := 12) (oi := _) (v := ?_) rfl (by kernel_rfl) (by kernel_rfl) (by kernel_rfl) (fun _ _ _ h => h) (Or.inl ⟨by first | rfl | kernel_rfl, ?hy26⟩) (by assumption) ?rs26; (case hy26 => (intro w hSw; (try dsimp only at hSw); go_simp; first | done | with_reducible rfl)); case' rs26 => (simp only [List.getElem_toArray, List.getElem_cons_zero, List.getElem_cons_succ, Act.put, List.setIfInBounds_toArray, List.set_cons_zero, List.set_cons_succ])); (refine wpAnyL_take (i := 13) (oi := _) (v := ?_) rfl (by kernel_rfl) (by kernel_rfl) (by kernel_rfl) (fun _ _ _ h => h) (Or.inl ⟨by first | rfl | kernel_rfl, ?hy27⟩) (by assumption) ?rs27; (case hy27 => (intro w hSw; (try dsimp only at hSw); go_simp; first | done | with_reducible rfl)); case' rs27 => (simp only [List.getElem_toArray, List.getElem_cons_zero, List.getElem_cons_succ, Act.put, List.setIfInBounds_toArray, List.set_cons_zero, List.set_cons_succ])); (refine wpAnyL_take (i := 14) (oi := _) (v := ?_) rfl (by kernel_rfl) (by kernel_rfl) (by kernel_rfl) (fun _ _ _ h => h) (Or.inl ⟨by first | rfl | kernel_rfl, ?hy28⟩) (by assumption) ?rs28; (case hy28 => (intro w hSw; (try dsimp only at hSw); go_simp; first | done | with_reducible rfl)); case' rs28 => (simp only [List.getElem_toArray, List.getElem_cons_zero, List.getElem_cons_succ, Act.put, List.setIfInBounds_toArray, List.set_cons_zero, List.set_cons_succ])); skip
            refine wpAnyL_done (by kernel_rfl) ?_ _
            clear hHeld D3
            go_wp2_with (first
              | (go_at_call 48; (with_reducible refine (CP.out _).mono ?_); rintro e w7 ⟨rfl, rfl⟩)
              | (go_at_call 48; (with_reducible refine (CA.out _).mono ?_); rintro e w8 ⟨rfl, rfl⟩))
            go_ret
            exact ⟨rfl, D5.out⟩
        · have tn : ((n : Int) != 2) = true := by simp; omega
          clear hn2
          go_wp2_with (first
            | (go_at_call 41; (with_reducible refine (A2.out _ _ _ _ hQ.out.sl hDD.out).mono ?_); rintro e w3 ⟨rfl, hb⟩; have D := Lib.hid (hDD.out.trans (hb.mono hDD.out.size)); clear hb))
          go_ret
          exact ⟨rfl, D.out⟩
      · obtain ⟨q, rfl⟩ : ∃ q, r = q + 2 := ⟨r - 2, by have := hev.out; omega⟩
        have hN := HN.out
        obtain ⟨ad, c1, e', hc', hb', hcell⟩ := (HS.out _ hD.out).at_ (q + 1) (by omega)
        obtain ⟨ad', c'', e'', -, -, hcell'⟩ := (HS.out _ hD.out).at_ q (by omega)
        injection e' with e1 e2 e3
        injection e'' with e1' e2' e3'
        subst e1
        obtain rfl := Option.some.inj e1'
        have HD2 := Lib.hid (drop_two (L := L) (q := q) (by omega))
        have hq1 : (q : Int) + 1 < n := by omega
        have hq0 : (q : Int) < n := by omega
        have hcells : Hid (∀ W, Below w.heap.size w W → W.cell? (ad.add (q + 1)) = some (.int .u64 (L.getD (q + 1) 0)) ∧ W.cell? ⟨ad.block, ad.off + (q + 1), none⟩ = some (.int .u64 (L.getD (q + 1) 0)) ∧ W.cell? (ad.add q) = some (.int .u64 (L.getD q 0))) := fun W hW => by
          obtain ⟨a1, _, f1, -, -, g1⟩ := (HS.out _ hW).at_ (q + 1) (by omega)
          obtain ⟨a2, _, f2, -, -, g2⟩ := (HS.out _ hW).at_ q (by omega)
          injection f1 with f1
          obtain rfl := Option.some.inj f1
          injection f2 with f2
          obtain rfl := Option.some.inj f2
          exact ⟨g1, by have := g1; unfold Addr.add at this; simpa using this, g2⟩
        obtain ⟨xa, hxa⟩ : ∃ xa, L.getD (q + 1) 0 = xa := ⟨_, rfl⟩
        obtain ⟨ya, hya⟩ : ∃ ya, L.getD q 0 = ya := ⟨_, rfl⟩
        rw [hxa, hya] at hcells HD2
        have hk : (((q + 2 : Nat) : Int) - 1) = (q : Int) + 1 := by omega
        have hlen : Hid ((L.drop (q + 2)).reverse.length ≤ 1000000000000) := by show _ ≤ _; have := H200.out; simp; omega
        have D3 : Below wr.heap.size wr wr.drew := (Below.refl _ _).drew
        clear hcell hcell' hb' hc' e2 e3 e2' e3' e1' hN h0 hxa hya
        rw [hk]
        clear hk
        have hq2 : 0 ≤ (q : Int) + 1 := by omega
        have hq3 : 0 ≤ (q : Int) := by omega
        have hqw : IntKind.i64.wrap (q : Int) = (q : Int) := IntWalk.i64_in _ (by omega)
        go_wp2
        have D3 : Below w.heap.size w wr.drew := hD.out.drew
        (refine wp_region_L (S := fun w' => w'.cell? (ad.add (q + 1)) = some (.int .u64 xa) ∧ w'.cell? ⟨ad.block, ad.off + (q + 1), none⟩ = some (.int .u64 xa) ∧ w'.cell? (ad.add q) = some (.int .u64 ya)) (nl := 1000000) (by kernel_rfl) ?_ (fun hHeld => ?_); focus (exact hcells.out _ D3))
        (refine wpAnyL_take (i := 0) (oi := _) (v := ?_) rfl (by kernel_rfl) (by kernel_rfl) (by kernel_rfl) (fun _ _ _ h => h) (Or.inl ⟨by first | rfl | kernel_rfl, ?hy29⟩) (by assumption) ?rs29; (case hy29 => (intro w hSw; (try dsimp only at hSw); go_simp; first | done | with_reducible rfl)); case' rs29 => (simp only [List.getElem_toArray, List.getElem_cons_zero, List.getElem_cons_succ, Act.put, List.setIfInBounds_toArray, List.set_cons_zero, List.set_cons_succ])); (refine wpAnyL_take (i := 1) (oi := _) (v := ?_) rfl (by kernel_rfl) (by kernel_rfl) (by kernel_rfl) (fun _ _ _ h => h) (Or.inl ⟨by first | rfl | kernel_rfl, ?hy30⟩) (by assumption) ?rs30; (case hy30 => (intro w hSw; (try dsimp only at hSw); go_simp; first | done | with_reducible rfl)); case' rs30 => (simp only [List.getElem_toArray, List.getElem_cons_zero, List.getElem_cons_succ, Act.put, List.setIfInBounds_toArray, List.set_cons_zero, List.set_cons_succ])); (refine wpAnyL_take (i := 2) (oi := _) (v := ?_) rfl (by kernel_rfl) (by kernel_rfl) (by kernel_rfl) (fun _ _ _ h => h) (Or.inl ⟨by first | rfl | kernel_rfl, ?hy31⟩) (by assumption) ?rs31; (case hy31 => (intro w hSw; (try dsimp only at hSw); go_simp; first | done | with_reducible rfl)); case' rs31 => (simp only [List.getElem_toArray, List.getElem_cons_zero, List.getElem_cons_succ, Act.put, List.setIfInBounds_toArray, List.set_cons_zero, List.set_cons_succ])); (refine wpAnyL_take (i := 3) (oi := _) (v := ?_) rfl (by kernel_rfl) (by kernel_rfl) (by kernel_rfl) (fun _ _ _ h => h) (Or.inl ⟨by first | rfl | kernel_rfl, ?hy32⟩) (by assumption) ?rs32; (case hy32 => (intro w hSw; (try dsimp only at hSw); go_simp; first | done | with_reducible rfl)); case' rs32 => (simp only [List.getElem_toArray, List.getElem_cons_zero, List.getElem_cons_succ, Act.put, List.setIfInBounds_toArray, List.set_cons_zero, List.set_cons_succ])); (refine wpAnyL_take (i := 4) (oi := _) (v := ?_) rfl (by kernel_rfl) (by kernel_rfl) (by kernel_rfl) (fun _ _ _ h => h) (Or.inl ⟨by first | rfl | kernel_rfl, ?hy33⟩) (by assumption) ?rs33; (case hy33 => (intro w hSw; (try dsimp only at hSw); go_simp; first | done | with_reducible rfl)); case' rs33 => (simp only [List.getElem_toArray, List.getElem_cons_zero, List.getElem_cons_succ, Act.put, List.setIfInBounds_toArray, List.set_cons_zero, List.set_cons_succ])); (refine wpAnyL_take (i := 5) (oi := _) (v := ?_) rfl (by kernel_rfl) (by kernel_rfl) (by kernel_rfl) (fun _ _ _ h => h) (Or.inl ⟨by first | rfl | kernel_rfl, ?hy34⟩) (by assumption) ?rs34; (case hy34 => (intro w hSw; (try dsimp only at hSw); go_simp; first | done | with_reducible rfl)); case' rs34 => (simp only [List.getElem_toArray, List.getElem_cons_zero, List.getElem_cons_succ, Act.put, List.setIfInBounds_toArray, List.set_cons_zero, List.set_cons_succ])); (refine wpAnyL_take (i := 6) (oi := _) (v := ?_) rfl (by kernel_rfl) (by kernel_rfl) (by kernel_rfl) (fun _ _ _ h => h) (Or.inl ⟨by first | rfl | kernel_rfl, ?hy35⟩) (by assumption) ?rs35; (case hy35 => (intro w hSw; (try dsimp only at hSw); go_simp; first | done | with_reducible rfl)); case' rs35 => (simp only [List.getElem_toArray, List.getElem_cons_zero, List.getElem_cons_succ, Act.put, List.setIfInBounds_toArray, List.set_cons_zero, List.set_cons_succ])); (refine wpAnyL_take (i := 7) (oi := _) (v := ?_) rfl (by kernel_rfl) (by kernel_rfl) (by kernel_rfl) (fun _ _ _ h => h) (Or.inl ⟨by first | rfl | kernel_rfl, ?hy36⟩) (by assumption) ?rs36; (case hy36 => (intro w hSw; (try dsimp only at hSw); go_simp; first | done | with_reducible rfl)); case' rs36 => (simp only [List.getElem_toArray, List.getElem_cons_zero, List.getElem_cons_succ, Act.put, List.setIfInBounds_toArray, List.set_cons_zero, List.set_cons_succ])); (refine wpAnyL_take (i := 8) (oi := _) (v := ?_) rfl (by kernel_rfl) (by kernel_rfl) (by kernel_rfl) (fun _ _ _ h => h) (Or.inl ⟨by first | rfl | kernel_rfl, ?hy37⟩) (by assumption) ?rs37; (case hy37 => (intro w hSw; (try dsimp only at hSw); go_simp; first | done | with_reducible rfl)); case' rs37 => (simp only [List.getElem_toArray, List.getElem_cons_zero, List.getElem_cons_succ, Act.put, List.setIfInBounds_toArray, List.set_cons_zero, List.set_cons_succ])); (refine wpAnyL_take (i := 9) (oi := _) (v := ?_) rfl (by kernel_rfl) (by kernel_rfl) (by kernel_rfl) (fun _ _ _ h => h) (Or.inl ⟨by first | rfl | kernel_rfl, ?hy38⟩) (by assumption) ?rs38; (case hy38 => (intro w hSw; (try dsimp only at hSw); go_simp; first | done | with_reducible rfl)); case' rs38 => (simp only [List.getElem_toArray, List.getElem_cons_zero, List.getElem_cons_succ, Act.put, List.setIfInBounds_toArray, List.set_cons_zero, List.set_cons_succ])); skip
        have Q1 := Lib.hid (hO.out.alloc (.cells #[.int .u64 xa, .int .u64 ya] 22)).drew
        have B1 := Lib.hid (Blk.new wr 22 #[.int .u64 xa, .int .u64 ya]).drew
        have D4 := Lib.hid ((hD.out.alloc hD.out.size (.cells #[.int .u64 xa, .int .u64 ya] 22)).drew)
        (refine wpAnyL_one (i := 10) (o := _) (by kernel_rfl) rfl (fun K hK => ?_); clear hHeld; simp only [List.getElem_toArray, List.getElem_cons_zero, List.getElem_cons_succ]; go_simp; refine hK.out _ _ ?_ (fun hHeld => ?_); focus (intro _; exact hcells.out _ D4.out)); have hHeld := hHeld (by decide); clear hK K; (try simp only [Act.put, List.setIfInBounds_toArray, List.set_cons_zero, List.set_cons_succ])
        (refine wpAnyL_one (i := 11) (o := _) (by kernel_rfl) rfl (fun K hK => ?_); clear hHeld; simp only [List.getElem_toArray, List.getElem_cons_zero, List.getElem_cons_succ]; rw [if_pos (by rfl)]; refine app2K el_u64 _ _ (by rfl) (by rfl) Q1.out xa ya wr.heap.size B1.out (by rfl) hlen.out D4.out.size ?_; intro A2 n2 c2 w2 hO2 hg2; have D5 := D4.out.grown hg2 D4.out.size (fun k hk => (Own.lt Q1.out k hk).1); refine hK.out _ _ ?_ (fun hHeld => ?_); focus (intro _; exact hcells.out _ D5)); have hHeld := hHeld (by decide); clear hK K; (try simp only [Act.put, List.setIfInBounds_toArray, List.set_cons_zero, List.set_cons_succ])
        rw [← HD2.out] at hO2
        have Q2 := Lib.hid hO2
        have D6 := Lib.hid D5
        clear hO2 hg2 D5
        (refine wpAnyL_take (i := 12) (oi := _) (v := ?_) rfl (by kernel_rfl) (by kernel_rfl) (by kernel_rfl) (fun _ _ _ h => h) (Or.inl ⟨by first | rfl | kernel_rfl, ?hy39⟩) (by assumption) ?rs39; (case hy39 => (intro w hSw; (try dsimp only at hSw); go_simp; first | done | with_reducible rfl)); case' rs39 => (simp only [List.getElem_toArray, List.getElem_cons_zero, List.getElem_cons_succ, Act.put, List.setIfInBounds_toArray, List.set_cons_zero, List.set_cons_succ])); skip
        refine wpAnyL_done (by kernel_rfl) ?_ _
        go_wp2
        go_roundw
        case rel => exact ⟨_, _, _, q, rfl, by go_num, by omega, (show q % 2 = 0 by have := hev.out; omega), Q2.out, D6.out⟩
        case measure => simp [intOf]; omega
end PC
end Go.Proofs.YtjplemfdhhkbaaaDoor
