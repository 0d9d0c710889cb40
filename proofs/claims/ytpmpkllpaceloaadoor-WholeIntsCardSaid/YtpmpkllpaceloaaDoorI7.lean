/-
  WholeOrder: the walk.
-/
import Derived.Test.YtpmpkllpaceloaaDoorI6
namespace Go.Proofs.YtpmpkllpaceloaaDoor
set_option linter.unusedVariables false
set_option linter.unusedSimpArgs false
open Go.RowKit
set_option linter.unusedVariables false
set_option linter.unusedSimpArgs false
namespace IC
open L NC NK DC RC SC QC
theorem wt_bd {x : Int} (mode : Int) (hx : 0 ≤ x ∧ x ≤ 18446744073709551615) : 0 ≤ (WT x mode).1 ∧ (WT x mode).1 ≤ 18446744073709551615 := by
  by_cases hm : 0 ≤ mode ∧ mode ≤ 4
  · by_cases hf : fi x
    · rw [fi_wt hf hm]
      have := (wx_fi hf hm).1
      exact ⟨this.1, this.2.1⟩
    · have hc : F.cls x = 5 ∨ F.cls x = 4 := by
        rcases Classical.em (F.cls x = 5 ∨ F.cls x = 4) with h | h
        · exact h
        · exact absurd ((fi_cls hx).2 ⟨fun q => h (.inl q), fun q => h (.inr q)⟩) hf
      unfold WT
      rw [if_neg (by omega)]
      split
      · dsimp only; omega
      · rw [if_pos (by omega)]; exact hx
  · unfold WT
    rw [if_pos hm]
    dsimp only; omega
theorem wt_e {x mode : Int} (hx : 0 ≤ x ∧ x ≤ 18446744073709551615) : (WT x mode).2.2 = 0 ↔ (0 ≤ mode ∧ mode ≤ 4) := by
  by_cases hm : 0 ≤ mode ∧ mode ≤ 4
  · exact ⟨fun _ => hm, fun _ => (it_wt hx hm).1⟩
  · unfold WT
    rw [if_pos hm]
    exact ⟨fun h => by simp at h, fun h => absurd h hm⟩
theorem wt_nn {x mode : Int} (hx : 0 ≤ x ∧ x ≤ 18446744073709551615) (hm : 0 ≤ mode ∧ mode ≤ 4) (hn : F.nn x) : F.nn (WT x mode).1 ∧ ((fi x ∧ (WT x mode).1 = WX x mode ∧ fi (WX x mode)) ∨ ((x = 9218868437227405312 ∨ x = 18442240474082181120) ∧ (WT x mode).1 = x)) := by
  by_cases hf : fi x
  · obtain ⟨h1, h2, h3⟩ := wx_fi hf hm
    rw [fi_wt hf hm]
    have := cls_fi.2 h1.2.2
    exact ⟨cls_nn.1 this.1, .inl ⟨hf, rfl, h1⟩⟩
  · have h5 := cls_nn.2 hn
    have hc : F.cls x = 4 := by
      rcases Classical.em (F.cls x = 4) with h | h
      · exact h
      · exact absurd ((fi_cls hx).2 ⟨h5, h⟩) hf
    have e : (WT x mode).1 = x := by
      unfold WT
      rw [if_neg (by omega), if_neg h5, if_pos hc]
    rw [e]
    exact ⟨hn, .inr ⟨(cls_inf hx.1 hx.2).1 hc, rfl⟩⟩
theorem order_w {x y mode : Int} (hx : 0 ≤ x ∧ x ≤ 18446744073709551615) (hy : 0 ≤ y ∧ y ≤ 18446744073709551615) (hm : 0 ≤ mode ∧ mode ≤ 4) (nx : F.nn x) (ny : F.nn y) (h : F.rnk x ≤ F.rnk y) :
    F.rnk (WT x mode).1 ≤ F.rnk (WT y mode).1 ∧ (mode = 2 → F.rnk (WT x mode).1 ≤ F.rnk x) ∧ (mode = 1 → F.rnk x ≤ F.rnk (WT x mode).1) := by
  have p := rP
  have m := rM
  obtain ⟨-, a⟩ := wt_nn hx hm nx
  obtain ⟨-, b⟩ := wt_nn hy hm ny
  refine ⟨?_, ?_, ?_⟩
  · rcases a with ⟨a1, a2, a3⟩ | ⟨a1, a2⟩ <;> rcases b with ⟨b1, b2, b3⟩ | ⟨b1, b2⟩
    · rw [a2, b2]; exact wx_le a1 b1 hm h
    · rw [a2, b2]
      have k1 := rnk_fi a1
      have k2 := rnk_fi a3
      rcases b1 with b1 | b1 <;> rw [b1] at h ⊢ <;> omega
    · rw [a2, b2]
      have k1 := rnk_fi b1
      have k2 := rnk_fi b3
      rcases a1 with a1 | a1 <;> rw [a1] at h ⊢ <;> omega
    · rw [a2, b2]; exact h
  · intro e
    subst e
    rcases a with ⟨a1, a2, a3⟩ | ⟨a1, a2⟩
    · rw [a2]; exact wx_down a1
    · rw [a2]; exact Int.le_refl _
  · intro e
    subst e
    rcases a with ⟨a1, a2, a3⟩ | ⟨a1, a2⟩
    · rw [a2]; exact wx_up a1
    · rw [a2]; exact Int.le_refl _
theorem no_wt {x mode : Int} (hm : ¬ (0 ≤ mode ∧ mode ≤ 4)) : WT x mode = (0, false, 1) ∧ IT x mode = (0, false, 1) := by
  unfold WT IT
  rw [if_pos hm, if_pos hm]
  exact ⟨rfl, rfl⟩
/-- Rank of what isn't nothing -/
theorem Rank_n {x : Int} (hx : 0 ≤ x ∧ x ≤ 18446744073709551615) (h : F.nn x) (W : World) : Calls Tryd.prog 32 #[.int .u64 x] W fun e' w' => e' = .returned (.tuple #[.int .i64 (F.rnk x), .int .i64 0]) ∧ W = w' := FloatC.Rank_ok x hx.1 hx.2 h W
set_option maxRecDepth 100000 in
set_option maxHeartbeats 8000000 in
theorem order_i (x y mode : Int) (w : World) (hx : 0 ≤ x ∧ x ≤ 18446744073709551615) (hy : 0 ≤ y ∧ y ≤ 18446744073709551615) (hT : TabD w) :
    Calls Tryd.prog 5 #[.int .u64 x, .int .u64 y, .int .i64 mode] w fun e w' => e = .returned (.bool true) ∧ Below w.heap.size w w' := by
  have HT : Hid (∀ W : World, Below w.heap.size w W → TabD W) := fun W hW => hT.below hW
  have LV : Hid (∀ W : World, Below w.heap.size w W → Calls Tryd.prog 28 #[] W fun e w' => e = .returned (.bool true) ∧ Below W.heap.size W w') := fun W hW => livesI_c W (HT.out W hW)
  have A1 : Hid (∀ W : World, Below w.heap.size w W → Calls Tryd.prog 7 #[.int .u64 x, .int .i64 mode] W (DC.RetB W (ATv (WT x mode)))) := fun W hW => Round_c x mode W hx (HT.out W hW)
  have A2 : Hid (∀ W : World, Below w.heap.size w W → Calls Tryd.prog 7 #[.int .u64 y, .int .i64 mode] W (DC.RetB W (ATv (WT y mode)))) := fun W hW => Round_c y mode W hy (HT.out W hW)
  have D := Lib.hid (Below.refl w.heap.size w)
  obtain ⟨kx, ex, Rx, fx⟩ := Rank_g hx
  obtain ⟨ky, ey, Ry, fy⟩ := Rank_g hy
  have Rx := Lib.hid Rx
  have Ry := Lib.hid Ry
  have E1 := wt_e (mode := mode) hx
  have ba := wt_bd mode hx
  have bb := wt_bd mode hy
  have P1 : ex = 0 → ey = 0 → (WT x mode).2.2 = 0 → kx ≤ ky → ∃ ka kb, (∀ W : World, Calls Tryd.prog 32 #[.int .u64 (WT x mode).1] W fun e' w' => e' = .returned (.tuple #[.int .i64 ka, .int .i64 0]) ∧ W = w') ∧
      (∀ W : World, Calls Tryd.prog 32 #[.int .u64 (WT y mode).1] W fun e' w' => e' = .returned (.tuple #[.int .i64 kb, .int .i64 0]) ∧ W = w') ∧ ka ≤ kb ∧ (mode = 2 → ka ≤ kx) ∧ (mode = 1 → kx ≤ ka) := fun h1 h2 h3 h4 => by
    obtain ⟨n1, rfl⟩ := fx h1
    obtain ⟨n2, rfl⟩ := fy h2
    have hm := E1.1 h3
    obtain ⟨o1, o2, o3⟩ := order_w hx hy hm n1 n2 h4
    exact ⟨_, _, Rank_n ba (wt_nn hx hm n1).1, Rank_n bb (wt_nn hy hm n2).1, o1, o2, o3⟩
  clear fx fy E1 hT hx hy ba bb
  generalize WT x mode = ta at *
  generalize WT y mode = tb at *
  obtain ⟨a, la, e1⟩ := ta
  obtain ⟨b, lb, e2⟩ := tb
  unfold ATv at A1 A2
  dsimp only at A1 A2 P1
  obtain ⟨o, ho⟩ : ∃ o, [ex, ey, e1, e2].all (· == 0) = o := ⟨_, rfl⟩
  have O4 : Hid (∀ W : World, Calls Tryd.prog 31 #[.slice (some ⟨W.heap.size, 0, none⟩) 4 4] (W.alloc (.cells #[.int .i64 ex, .int .i64 ey, .int .i64 e1, .int .i64 e2] 23)) fun e w' => e = .returned (.bool o) ∧ W.alloc (.cells #[.int .i64 ex, .int .i64 ey, .int .i64 e1, .int .i64 e2] 23) = w') := fun W => NK.ok4 W ex ey e1 e2 o ho
  cases o
  · clear P1 ho
    go_enter Tryd.func5, Tryd.ntmps5
    go_wp2_with (first
      | (go_at_call 32; (with_reducible refine (Rx.out _).mono ?_); rintro e w1 ⟨rfl, rfl⟩)
      | (go_at_call 32; (with_reducible refine (Ry.out _).mono ?_); rintro e w2 ⟨rfl, rfl⟩)
      | (go_at_call 7; (with_reducible refine (A1.out _ D.out).mono ?_); rintro e w3 ⟨rfl, hb⟩; have D := Lib.hid (D.out.trans (hb.mono D.out.size)); clear hb)
      | (go_at_call 7; (with_reducible refine (A2.out _ D.out).mono ?_); rintro e w4 ⟨rfl, hb⟩; have D := Lib.hid (D.out.trans (hb.mono D.out.size)); clear hb)
      | (go_at_call 28; (with_reducible refine (LV.out _ D.out).mono ?_); rintro e w5 ⟨rfl, hb⟩; have D := Lib.hid (D.out.trans (hb.mono D.out.size)); clear hb)
      | (go_at_call 31; (with_reducible refine (O4.out w5).mono ?_); rintro e w6 ⟨rfl, hw⟩; have s := al1 w5 (.cells #[.int .i64 ex, .int .i64 ey, .int .i64 e1, .int .i64 e2] 23); rw [hw] at s; clear hw; have D := Lib.hid (D.out.trans (s.mono D.out.size)); clear s))
    go_ret
    exact ⟨rfl, D.out⟩
  · obtain ⟨h1, h2, h3, h4⟩ := all4o ho
    have P1 := P1 h1 h2 h3
    clear ho h1 h2 h3 h4
    by_cases hk : kx > ky
    · clear P1
      go_enter Tryd.func5, Tryd.ntmps5
      go_wp2_with (first
        | (go_at_call 32; (with_reducible refine (Rx.out _).mono ?_); rintro e w1 ⟨rfl, rfl⟩)
        | (go_at_call 32; (with_reducible refine (Ry.out _).mono ?_); rintro e w2 ⟨rfl, rfl⟩)
        | (go_at_call 7; (with_reducible refine (A1.out _ D.out).mono ?_); rintro e w3 ⟨rfl, hb⟩; have D := Lib.hid (D.out.trans (hb.mono D.out.size)); clear hb)
        | (go_at_call 7; (with_reducible refine (A2.out _ D.out).mono ?_); rintro e w4 ⟨rfl, hb⟩; have D := Lib.hid (D.out.trans (hb.mono D.out.size)); clear hb)
        | (go_at_call 28; (with_reducible refine (LV.out _ D.out).mono ?_); rintro e w5 ⟨rfl, hb⟩; have D := Lib.hid (D.out.trans (hb.mono D.out.size)); clear hb)
        | (go_at_call 31; (with_reducible refine (O4.out w5).mono ?_); rintro e w6 ⟨rfl, hw⟩; have s := al1 w5 (.cells #[.int .i64 ex, .int .i64 ey, .int .i64 e1, .int .i64 e2] 23); rw [hw] at s; clear hw; have D := Lib.hid (D.out.trans (s.mono D.out.size)); clear s))
      go_ret
      exact ⟨rfl, D.out⟩
    · obtain ⟨ka, kb, Ra, Rb, hab, h2, h1⟩ := P1 (by omega)
      have Ra := Lib.hid Ra
      have Rb := Lib.hid Rb
      have c : (mode ≠ 2 ∧ mode ≠ 1) ∨ (mode = 2 ∧ ka ≤ kx) ∨ (mode = 1 ∧ ka ≥ kx) := by
        by_cases q2 : mode = 2
        · exact .inr (.inl ⟨q2, h2 q2⟩)
        · by_cases q1 : mode = 1
          · exact .inr (.inr ⟨q1, h1 q1⟩)
          · exact .inl ⟨q2, q1⟩
      clear h1 h2
      rcases c with ⟨c, c2⟩ | ⟨rfl, c⟩ | ⟨rfl, c⟩
      all_goals (
        go_enter Tryd.func5, Tryd.ntmps5
        go_wp2_with (first
          | (go_at_call 32; (with_reducible refine (Rx.out _).mono ?_); rintro e w1 ⟨rfl, rfl⟩)
          | (go_at_call 32; (with_reducible refine (Ry.out _).mono ?_); rintro e w2 ⟨rfl, rfl⟩)
          | (go_at_call 7; (with_reducible refine (A1.out _ D.out).mono ?_); rintro e w3 ⟨rfl, hb⟩; have D := Lib.hid (D.out.trans (hb.mono D.out.size)); clear hb)
          | (go_at_call 7; (with_reducible refine (A2.out _ D.out).mono ?_); rintro e w4 ⟨rfl, hb⟩; have D := Lib.hid (D.out.trans (hb.mono D.out.size)); clear hb)
          | (go_at_call 28; (with_reducible refine (LV.out _ D.out).mono ?_); rintro e w5 ⟨rfl, hb⟩; have D := Lib.hid (D.out.trans (hb.mono D.out.size)); clear hb)
          | (go_at_call 31; (with_reducible refine (O4.out w5).mono ?_); rintro e w6 ⟨rfl, hw⟩; have s := al1 w5 (.cells #[.int .i64 ex, .int .i64 ey, .int .i64 e1, .int .i64 e2] 23); rw [hw] at s; clear hw; have D := Lib.hid (D.out.trans (s.mono D.out.size)); clear s)
          | (go_at_call 32; (with_reducible refine (Ra.out _).mono ?_); rintro e w7 ⟨rfl, rfl⟩)
          | (go_at_call 32; (with_reducible refine (Rb.out _).mono ?_); rintro e w8 ⟨rfl, rfl⟩)
          | (go_at_call 31; (with_reducible refine (ok2' w6 0 0 true rfl).mono ?_); rintro e w9 ⟨rfl, hw⟩; have s := al1 w6 (.cells #[.int .i64 0, .int .i64 0] 23); rw [hw] at s; clear hw; have D := Lib.hid (D.out.trans (s.mono D.out.size)); clear s))
        go_ret
        exact ⟨rfl, D.out⟩)
end IC
end Go.Proofs.YtpmpkllpaceloaaDoor
