/-
  WholeRounds: the walk.
-/
import Derived.Test.YtpmpkllpaceloaaDoorI7
import Derived.Test.YtpmpkllpaceloaaDoorUK4
import Derived.Test.YtpmpkllpaceloaaDoorRK6
namespace Go.Proofs.YtpmpkllpaceloaaDoor
set_option linter.unusedVariables false
set_option linter.unusedSimpArgs false
open Go.RowKit
set_option linter.unusedVariables false
set_option linter.unusedSimpArgs false
namespace IC
open L NC NK DC RC SC QC
/-- one -/
def d1 : Dy := ⟨0, 1, 0⟩
theorem d1_ok : Ok d1 := ⟨rfl, .inr (by decide), inb_small (by decide)⟩
theorem d1_dv (W : World) : DV (W.alloc (.cells #[.int .u32 1] 59)) (.agg #[.bool false, .slice (some ⟨W.heap.size, 0, none⟩) 1 1, .int .i64 0]) d1 := by
  have g : GV (W.alloc (.cells #[.int .u32 1] 59)) false (some ⟨W.heap.size, 0, none⟩) 1 1 0 d1 := by
    refine ⟨⟨[1], Row.sl (L := [1]) (Blk.new W 59 #[.int .u32 1]) 1 (by simp), by intro d hd; simp at hd; omega, by intro h; simp, ?_⟩, ?_, rfl, rfl, .inr (by decide), inb_small (by decide)⟩
    · simp [lv, d1]
    · decide
  exact g.dv
/-- what is known of both -/
theorem rounds_p {x mode : Int} (h : fi x) (hm : 0 ≤ mode ∧ mode ≤ 4) :
    ∃ y l, WT x mode = (y, l, 0) ∧ fi y ∧ (OfD x).e = 0 ∧ (OfD y).e = 0 ∧ WT y mode = (y, false, 0) ∧ (Sub (OfD x).d (OfD y).d).e = 0 ∧ Cmpn (RC.ab (Sub (OfD x).d (OfD y).d).d) d1 = -1 ∧ Cmpe (RC.ab (Sub (OfD x).d (OfD y).d).d) d1 = 0 ∧
      WI y = true ∧ WI x = !l ∧ ((y == x) = !l) := by
  obtain ⟨h1, h2, h3⟩ := wx_fi h hm
  have e2 := fi_wt h1 hm
  obtain ⟨w1, w2⟩ := wn_wx (mode' := mode) h hm
  rw [wx_wx h hm, w2] at e2
  have fx := of_fit h
  have fy := of_fit h1
  obtain ⟨s1, s2, s3⟩ := sub_fit fx.2 fy.2 (by omega)
  have nr := wx_near h hm
  have cx := cls_fi.2 h.2.2
  have cy := cls_fi.2 h1.2.2
  have hs := wx_same h hm
  refine ⟨WX x mode, lostW x, fi_wt h hm, h1, fx.1, fy.1, e2, s1, ?_, ?_, ?_, ?_, ?_⟩
  · rw [cmpn_S (ab_ok s2) d1_ok, S_ab]
    apply Z.cmpv_lt
    have a := A_abs (Sub (OfD x).d (OfD (WX x mode)).d).d
    have e1 : S d1 = sc 1 0 := rfl
    change S _ = val x - val (WX x mode) at s3
    rw [s3] at a
    rw [e1]
    rcases Int.lt_or_le (val x - val (WX x mode)) 0 with q | q
    · rw [(a.2 q).1]; omega
    · rw [(a.1 q).1]; omega
  · unfold Cmpe
    exact ee0.2 ⟨(ab_ok s2).1, rfl⟩
  · unfold WI
    rw [w2, decide_eq_false (by omega)]; rfl
  · unfold WI
    rw [decide_eq_false (by omega)]; simp
  · cases hl : lostW x
    · rw [hs.2 hl]; simp
    · have : WX x mode ≠ x := fun q => by rw [hs.1 q] at hl; cases hl
      simp [this]
theorem OfD_no {x : Int} (h : F.cls x = 5 ∨ F.cls x = 4) : ((OfD x).e == 0) = false := by
  have : F.exq x = 2047 := by
    rcases Classical.em (F.exq x = 2047) with q | q
    · exact q
    · have := cls_fi.2 q; omega
  unfold OfD
  rw [if_pos this]; rfl
/-- no value: none before, none after -/
theorem none_w {x mode : Int} (hx : 0 ≤ x ∧ x ≤ 18446744073709551615) (hf : ¬ fi x) (hm : 0 ≤ mode ∧ mode ≤ 4) : ∃ y, WT x mode = (y, false, 0) ∧ ((OfD x).e == 0) = false ∧ ((OfD y).e == 0) = false := by
  have hc : F.cls x = 5 ∨ F.cls x = 4 := by
    rcases Classical.em (F.cls x = 5 ∨ F.cls x = 4) with h | h
    · exact h
    · exact absurd ((fi_cls hx).2 ⟨fun q => h (.inl q), fun q => h (.inr q)⟩) hf
  unfold WT
  rw [if_neg (by omega)]
  by_cases h5 : F.cls x = 5
  · rw [if_pos h5]
    exact ⟨_, rfl, OfD_no hc, OfD_no (.inl (by decide))⟩
  · rw [if_neg h5, if_pos (by omega)]
    exact ⟨_, rfl, OfD_no hc, OfD_no hc⟩
set_option maxRecDepth 100000 in
set_option maxHeartbeats 16000000 in
theorem rounds_c (x mode : Int) (w : World) (hx : 0 ≤ x ∧ x ≤ 18446744073709551615) (hT : TabD w) :
    Calls Tryd.prog 4 #[.int .u64 x, .int .i64 mode] w fun e w' => e = .returned (.bool true) ∧ Below w.heap.size w w' := by
  have HT : Hid (∀ W : World, Below w.heap.size w W → TabD W) := fun W hW => hT.below hW
  have LV : Hid (∀ W : World, Below w.heap.size w W → Calls Tryd.prog 28 #[] W fun e w' => e = .returned (.bool true) ∧ Below W.heap.size W w') := fun W hW => livesI_c W (HT.out W hW)
  have A1 : Hid (∀ W : World, Below w.heap.size w W → Calls Tryd.prog 7 #[.int .u64 x, .int .i64 mode] W (DC.RetB W (ATv (WT x mode)))) := fun W hW => Round_c x mode W hx (HT.out W hW)
  have D := Lib.hid (Below.refl w.heap.size w)
  have VX : Hid (∀ W : World, Below w.heap.size w W → Calls Tryd.prog 27 #[.int .u64 x] W (RetVb W (OfD x).d ((OfD x).e == 0))) := fun W hW => value_c x W hx.1 hx.2 (HT.out W hW)
  have by_ := wt_bd mode hx
  have VY : Hid (∀ W : World, Below w.heap.size w W → Calls Tryd.prog 27 #[.int .u64 (WT x mode).1] W (RetVb W (OfD (WT x mode).1).d ((OfD (WT x mode).1).e == 0))) := fun W hW => value_c _ W by_.1 by_.2 (HT.out W hW)
  by_cases hm : 0 ≤ mode ∧ mode ≤ 4
  · by_cases hf : fi x
    · obtain ⟨y, l, hW, fy, e1, e2, hW2, s1, c1, c2, i1, i2, i3⟩ := rounds_p hf hm
      rw [hW] at A1 VY
      dsimp only at VY
      rw [e1] at VX
      rw [e2] at VY
      have A2 : Hid (∀ W : World, Below w.heap.size w W → Calls Tryd.prog 7 #[.int .u64 y, .int .i64 mode] W (DC.RetB W (ATv (y, false, 0)))) := fun W hW => by
        have := Round_c y mode W ⟨fy.1, fy.2.1⟩ (HT.out W hW)
        rwa [hW2] at this
      have SU : Hid (∀ (W : World) (u v : Value), Below w.heap.size w W → DV W u (OfD x).d → DV W v (OfD y).d → Calls Tryd.prog 29 #[u, v] W (RetD W (Sub (OfD x).d (OfD y).d))) := fun W u v hW h1 h2 => Sub_d u v _ _ W h1 h2 (HT.out W hW)
      have CM : Hid (∀ (W : World) (g : Nat) (u : Value), g = W.heap.size → Below w.heap.size w W → DV W u (RC.ab (Sub (OfD x).d (OfD y).d).d) → Calls Tryd.prog 30 #[u, .agg #[.bool false, .slice (some ⟨g, 0, none⟩) 1 1, .int .i64 0]] (W.alloc (.cells #[.int .u32 1] 59)) (DC.RetB (W.alloc (.cells #[.int .u32 1] 59)) (.tuple #[.int .i64 (-1), .int .i64 0]))) := fun W g u hg hW hu => by
        subst hg
        have := Cmp_d u _ _ d1 _ (hu.below (al1 W _)) (d1_dv W) (HT.out _ (hW.alloc hW.size _))
        rwa [c1, c2] at this
      have IY : Hid (∀ W : World, Below w.heap.size w W → Calls Tryd.prog 23 #[.int .u64 y] W (DC.RetB W (.bool true))) := fun W hW => by
        have := Is_c y W ⟨fy.1, fy.2.1⟩ (HT.out W hW)
        rwa [i1] at this
      have IX : Hid (∀ W : World, Below w.heap.size w W → Calls Tryd.prog 23 #[.int .u64 x] W (DC.RetB W (.bool (!l)))) := fun W hW => by
        have := Is_c x W hx (HT.out W hW)
        rwa [i2] at this
      have tt : ((0 : Int) == 0) = true := rfl
      rw [tt] at VX VY
      unfold ATv at A1 A2
      dsimp only at A1 A2
      clear hW hW2 fy e1 e2 c1 c2 i1 i2 hf hm hT hx by_ tt
      generalize (OfD x).d = da at *
      generalize (OfD y).d = db at *
      generalize Sub da db = r at *
      cases l
      all_goals (
        simp only [Bool.not_false, Bool.not_true] at IX i3
        go_enter Tryd.func4, Tryd.ntmps4
        go_wp2_with (first
          | (go_at_call 7; (with_reducible refine (A1.out _ D.out).mono ?_); rintro e w1 ⟨rfl, hb⟩; have D := Lib.hid (D.out.trans (hb.mono D.out.size)); clear hb)
          | (go_at_call 27; (with_reducible refine (VX.out _ D.out).mono ?_); rintro e w2 ⟨b2, A2_, n2, c2, x2, rfl, hv, hb⟩; have s := hb.alloc hb.size (.cells #[.bool b2, .slice A2_ n2 c2, .int .i64 x2] 51); have Xa := BD.new hv.dv; have D := Lib.hid (D.out.trans (s.mono D.out.size)); clear hv hb s)
          | (go_at_call 27; (with_reducible refine (VY.out _ D.out).mono ?_); rintro e w3 ⟨b3, A3_, n3, c3, x3, rfl, hv, hb⟩; have s := hb.alloc hb.size (.cells #[.bool b3, .slice A3_ n3 c3, .int .i64 x3] 51); have Xa := Xa.below s; have Xb := BD.new hv.dv; have D := Lib.hid (D.out.trans (s.mono D.out.size)); clear hv hb s)
          | (go_at_call 28; (with_reducible refine (LV.out _ D.out).mono ?_); rintro e w4 ⟨rfl, hb⟩; have Xa := Xa.below hb; have Xb := Xb.below hb; have D := Lib.hid (D.out.trans (hb.mono D.out.size)); clear hb)
          | (go_at_call 7; (with_reducible refine (A2.out _ D.out).mono ?_); rintro e w5 ⟨rfl, hb⟩; have Xa := Xa.below hb; have Xb := Xb.below hb; have D := Lib.hid (D.out.trans (hb.mono D.out.size)); clear hb; obtain ⟨a_0, a_1, a_2⟩ := Xa.bx; obtain ⟨b_0, b_1, b_2⟩ := Xb.bx)
          | (go_at_call 29; (with_reducible refine (SU.out _ _ _ D.out Xa.dv Xb.dv).mono ?_); rintro e w6 ⟨b6, A6, n6, c6, x6, rfl, hv, hb⟩; have s := hb.alloc hb.size (.cells #[.bool false, .slice A6 n6 c6, .int .i64 x6] 51); have Vp := ((gv_ab hv).below (al1 w6 (.cells #[.bool false, .slice A6 n6 c6, .int .i64 x6] 51))).dv; have D := Lib.hid (D.out.trans (s.mono D.out.size)); clear hv hb s)
          | (go_at_call 30; (with_reducible refine (CM.out _ (w6.heap.size + 1) _ (by simp) D.out Vp).mono ?_); rintro e w7 ⟨rfl, hb⟩; have s := (al1 _ (.cells #[.int .u32 1] 59)).trans (hb.mono (by simp)); have D := Lib.hid (D.out.trans (s.mono D.out.size)); clear hb s)
          | (go_at_call 31; (with_reducible refine (DC.ok3' w7).mono ?_); rintro e w8 ⟨rfl, hw⟩; have s := al1 w7 (.cells #[.int .i64 0, .int .i64 0, .int .i64 0] 23); rw [hw] at s; clear hw; have D := Lib.hid (D.out.trans (s.mono D.out.size)); clear s)
          | (go_at_call 23; (with_reducible refine (IY.out _ D.out).mono ?_); rintro e w9 ⟨rfl, hb⟩; have D := Lib.hid (D.out.trans (hb.mono D.out.size)); clear hb)
          | (go_at_call 23; (with_reducible refine (IX.out _ D.out).mono ?_); rintro e w10 ⟨rfl, hb⟩; have D := Lib.hid (D.out.trans (hb.mono D.out.size)); clear hb))
        go_ret
        exact ⟨rfl, D.out⟩)
    · obtain ⟨y, hW, e1, e2⟩ := none_w hx hf hm
      rw [hW] at A1 VY
      dsimp only at VY
      rw [e1] at VX
      rw [e2] at VY
      unfold ATv at A1
      dsimp only at A1
      clear hW e1 e2 hf hm hT hx by_
      generalize (OfD x).d = da at *
      generalize (OfD y).d = db at *
      go_enter Tryd.func4, Tryd.ntmps4
      go_wp2_with (first
        | (go_at_call 7; (with_reducible refine (A1.out _ D.out).mono ?_); rintro e w1 ⟨rfl, hb⟩; have D := Lib.hid (D.out.trans (hb.mono D.out.size)); clear hb)
        | (go_at_call 27; (with_reducible refine (VX.out _ D.out).mono ?_); rintro e w2 ⟨b2, A2_, n2, c2, x2, rfl, hv, hb⟩; have s := hb.alloc hb.size (.cells #[.bool b2, .slice A2_ n2 c2, .int .i64 x2] 51); have D := Lib.hid (D.out.trans (s.mono D.out.size)); clear hv hb s)
        | (go_at_call 27; (with_reducible refine (VY.out _ D.out).mono ?_); rintro e w3 ⟨b3, A3_, n3, c3, x3, rfl, hv, hb⟩; have s := hb.alloc hb.size (.cells #[.bool b3, .slice A3_ n3 c3, .int .i64 x3] 51); have D := Lib.hid (D.out.trans (s.mono D.out.size)); clear hv hb s)
        | (go_at_call 28; (with_reducible refine (LV.out _ D.out).mono ?_); rintro e w4 ⟨rfl, hb⟩; have D := Lib.hid (D.out.trans (hb.mono D.out.size)); clear hb)
        | (go_at_call 28; (with_reducible refine (LV.out _ D.out).mono ?_); rintro e w5 ⟨rfl, hb⟩; have D := Lib.hid (D.out.trans (hb.mono D.out.size)); clear hb))
      go_ret
      exact ⟨rfl, D.out⟩
  · rw [(no_wt hm).1] at A1 VY
    dsimp only at VY
    unfold ATv at A1
    dsimp only at A1
    clear hm hT hx by_
    generalize (OfD x).d = da at *
    generalize (OfD 0).d = db at *
    generalize ((OfD x).e == 0) = px at *
    generalize ((OfD 0).e == 0) = py at *
    go_enter Tryd.func4, Tryd.ntmps4
    go_wp2_with (first
      | (go_at_call 7; (with_reducible refine (A1.out _ D.out).mono ?_); rintro e w1 ⟨rfl, hb⟩; have D := Lib.hid (D.out.trans (hb.mono D.out.size)); clear hb)
      | (go_at_call 27; (with_reducible refine (VX.out _ D.out).mono ?_); rintro e w2 ⟨b2, A2_, n2, c2, x2, rfl, hv, hb⟩; have s := hb.alloc hb.size (.cells #[.bool b2, .slice A2_ n2 c2, .int .i64 x2] 51); have D := Lib.hid (D.out.trans (s.mono D.out.size)); clear hv hb s)
      | (go_at_call 27; (with_reducible refine (VY.out _ D.out).mono ?_); rintro e w3 ⟨b3, A3_, n3, c3, x3, rfl, hv, hb⟩; have s := hb.alloc hb.size (.cells #[.bool b3, .slice A3_ n3 c3, .int .i64 x3] 51); have D := Lib.hid (D.out.trans (s.mono D.out.size)); clear hv hb s)
      | (go_at_call 28; (with_reducible refine (LV.out _ D.out).mono ?_); rintro e w4 ⟨rfl, hb⟩; have D := Lib.hid (D.out.trans (hb.mono D.out.size)); clear hb)
      | (go_at_call 28; (with_reducible refine (LV.out _ D.out).mono ?_); rintro e w5 ⟨rfl, hb⟩; have D := Lib.hid (D.out.trans (hb.mono D.out.size)); clear hb))
    go_ret
    exact ⟨rfl, D.out⟩
end IC
end Go.Proofs.YtpmpkllpaceloaaDoor
