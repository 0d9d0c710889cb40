/-
  DyadOrder: the walk.
-/
import Derived.Test.YtnpeokgjfnobmaaDoorM5
namespace Go.Proofs.YtnpeokgjfnobmaaDoor
set_option linter.unusedVariables false
set_option linter.unusedSimpArgs false
open Go.RowKit
set_option linter.unusedVariables false
namespace DC
open L NC NK
open Z (Nz Tz cmpv)
theorem cmpn_S {a b : Dy} (ha : Ok a) (hb : Ok b) : Cmpn a b = cmpv (S a) (S b) := by
  unfold Cmpn
  rw [if_neg (by rw [ha.1, hb.1]; decide)]
  have x1 := ha.2.2.2.2.1
  have x2 := hb.2.2.2.2.1
  have e1 := sc_lv2 a b (by omega)
  have e2 := sc_lv2 b a (by omega)
  rw [Int.min_comm b.x a.x] at e2
  unfold S
  rw [← e1, ← e2]
  rcases Int.lt_trichotomy (lv2 a b) (lv2 b a) with h | h | h
  · rw [Z.cmpv_lt h, Z.cmpv_lt (sc_lt.2 h)]
  · rw [Z.cmpv_eq h, Z.cmpv_eq (by rw [h])]
  · rw [Z.cmpv_gt h, Z.cmpv_gt (sc_lt.2 h)]
theorem cmpe_0 {a b : Dy} (ha : Ok a) (hb : Ok b) : Cmpe a b = 0 := by unfold Cmpe; rw [ha.1, hb.1]; rfl
theorem cmpv_3 (x y : Int) : (cmpv x y = -1 ∧ x < y) ∨ (cmpv x y = 0 ∧ x = y) ∨ (cmpv x y = 1 ∧ y < x) := by
  rcases Int.lt_trichotomy x y with h | h | h
  · exact .inl ⟨Z.cmpv_lt h, h⟩
  · exact .inr (.inl ⟨Z.cmpv_eq h, h⟩)
  · exact .inr (.inr ⟨Z.cmpv_gt h, h⟩)
/-- what the order is to say -/
structure Ord (v12 v21 v23 v13 : Int) (t : Bool) : Prop where
  w : IntKind.i64.wrap (-v21) = -v21
  a : (v12 != -v21) = false
  e : (v12 == 0) = t
  c : ¬ v12 ≤ 0 ∨ (v12 ≤ 0 ∧ ¬ v23 ≤ 0) ∨ (v12 ≤ 0 ∧ v23 ≤ 0 ∧ ¬ 0 < v13)
theorem ord_d {a b c : Dy} (ha : Ok a) (hb : Ok b) (hc : Ok c) : Ord (Cmpn a b) (Cmpn b a) (Cmpn b c) (Cmpn a c) (decide (a.m = b.m ∧ a.x = b.x)) := by
  rw [cmpn_S ha hb, cmpn_S hb ha, cmpn_S hb hc, cmpn_S ha hc]
  have he : (a.m = b.m ∧ a.x = b.x) ↔ S a = S b := by
    constructor
    · intro h; unfold S; rw [h.1, h.2]
    · intro h; rw [S_inj ha hb h]; exact ⟨rfl, rfl⟩
  have hd : decide (a.m = b.m ∧ a.x = b.x) = decide (S a = S b) := decide_eq_decide.2 he
  rw [hd]
  generalize S a = x
  generalize S b = y
  generalize S c = z
  have h1 := cmpv_3 x y
  have h2 := cmpv_3 y x
  have h3 := cmpv_3 y z
  have h4 := cmpv_3 x z
  refine ⟨IntWalk.i64_in _ (by omega), by rw [bne_eq_false_iff_eq]; omega, ?_, by omega⟩
  by_cases h : x = y
  · have : cmpv x y = 0 := by omega
    rw [this, decide_eq_true h]; rfl
  · have : cmpv x y ≠ 0 := by omega
    rw [decide_eq_false h, beq_eq_false_iff_ne.2 this]
theorem cmp_add {a b c : Dy} (ha : Ok a) (hb : Ok b) (hc : Ok c) (h1 : (Add a c).e = 0) (h2 : (Add b c).e = 0) : Cmpn (Add a c).d (Add b c).d = Cmpn a b := by
  rw [cmpn_S (add_good _ _) (add_good _ _), cmpn_S ha hb, (add_ok h1 (fun _ => ha) (fun _ => hc)).2.2, (add_ok h2 (fun _ => hb) (fun _ => hc)).2.2]
  have h1 := cmpv_3 (S a + S c) (S b + S c)
  have h2 := cmpv_3 (S a) (S b)
  omega
set_option maxRecDepth 100000 in
set_option maxHeartbeats 16000000 in
theorem order_c (ua ub uc : Value) (d1 d2 d3 : Dy) (w : World) (h1 : DV w ua d1) (h2 : DV w ub d2) (h3 : DV w uc d3) (hT : TabD w) :
    Calls Tryd.prog 8 #[ua, ub, uc] w fun e w' => e = .returned (.bool true) ∧ Below w.heap.size w w' := by
  have H1 := h1
  have H2 := h2
  have H3 := h3
  obtain ⟨ba, Aa, na, ca, xa, la, rfl, -⟩ := H1
  obtain ⟨bb, Ab, nb, cb, xb, lb, rfl, -⟩ := H2
  obtain ⟨bc, Ac, nc, cc, xc, lc, rfl, -⟩ := H3
  obtain ⟨N1, N2, N3, NS, D0⟩ := new3 w 48 48 48 #[.bool ba, .slice Aa na ca, .int .i64 xa] #[.bool bb, .slice Ab nb cb, .int .i64 xb] #[.bool bc, .slice Ac nc cc, .int .i64 xc] 0
  rw [World.drewN_zero] at N1 N2 N3 NS D0
  obtain ⟨W0, hW0⟩ : ∃ W0, ((w.alloc (.cells #[.bool ba, .slice Aa na ca, .int .i64 xa] 48)).alloc (.cells #[.bool bb, .slice Ab nb cb, .int .i64 xb] 48)).alloc (.cells #[.bool bc, .slice Ac nc cc, .int .i64 xc] 48) = W0 := ⟨_, rfl⟩
  rw [hW0] at N1 N2 N3 D0
  have Xa : BD W0 w.heap.size ba Aa na ca xa d1 := ⟨BX.of N1, h1.below D0⟩
  have Xb : BD W0 (w.heap.size + 1) bb Ab nb cb xb d2 := ⟨BX.of N2, h2.below D0⟩
  have Xc : BD W0 (w.heap.size + 2) bc Ac nc cc xc d3 := ⟨BX.of N3, h3.below D0⟩
  have HT : Hid (∀ W : World, Below W0.heap.size W0 W → TabD W) := fun W hW => (hT.below D0).below hW
  have HW0 := Lib.hid hW0
  have D := Lib.hid (Below.refl W0.heap.size W0)
  have C1 : Hid (∀ (W : World) (u v : Value), Below W0.heap.size W0 W → DV W u d1 → DV W v d2 → Calls Tryd.prog 38 #[u, v] W (RetB W (.tuple #[.int .i64 (Cmpn d1 d2), .int .i64 (Cmpe d1 d2)]))) := fun W u v hW hu hv => Cmp_d u v _ _ W hu hv (HT.out W hW)
  have C2 : Hid (∀ (W : World) (u v : Value), Below W0.heap.size W0 W → DV W u d2 → DV W v d1 → Calls Tryd.prog 38 #[u, v] W (RetB W (.tuple #[.int .i64 (Cmpn d2 d1), .int .i64 (Cmpe d2 d1)]))) := fun W u v hW hu hv => Cmp_d u v _ _ W hu hv (HT.out W hW)
  have C3 : Hid (∀ (W : World) (u v : Value), Below W0.heap.size W0 W → DV W u d2 → DV W v d3 → Calls Tryd.prog 38 #[u, v] W (RetB W (.tuple #[.int .i64 (Cmpn d2 d3), .int .i64 (Cmpe d2 d3)]))) := fun W u v hW hu hv => Cmp_d u v _ _ W hu hv (HT.out W hW)
  have C4 : Hid (∀ (W : World) (u v : Value), Below W0.heap.size W0 W → DV W u d1 → DV W v d3 → Calls Tryd.prog 38 #[u, v] W (RetB W (.tuple #[.int .i64 (Cmpn d1 d3), .int .i64 (Cmpe d1 d3)]))) := fun W u v hW hu hv => Cmp_d u v _ _ W hu hv (HT.out W hW)
  have C5 : Hid (∀ (W : World) (u v : Value), Below W0.heap.size W0 W → DV W u d1 → DV W v d3 → Calls Tryd.prog 39 #[u, v] W (RetD W (Add d1 d3))) := fun W u v hW hu hv => Add_d u v _ _ W hu hv (HT.out W hW)
  have C6 : Hid (∀ (W : World) (u v : Value), Below W0.heap.size W0 W → DV W u d2 → DV W v d3 → Calls Tryd.prog 39 #[u, v] W (RetD W (Add d2 d3))) := fun W u v hW hu hv => Add_d u v _ _ W hu hv (HT.out W hW)
  have C7 : Hid (∀ (W : World) (u v : Value), Below W0.heap.size W0 W → DV W u (Add d1 d3).d → DV W v (Add d2 d3).d → Calls Tryd.prog 38 #[u, v] W (RetB W (.tuple #[.int .i64 (Cmpn (Add d1 d3).d (Add d2 d3).d), .int .i64 (Cmpe (Add d1 d3).d (Add d2 d3).d)]))) := fun W u v hW hu hv => Cmp_d u v _ _ W hu hv (HT.out W hW)
  have D0 := Lib.hid D0
  have G1 := fun e => h1.good e
  have G2 := fun e => h2.good e
  have G3 := fun e => h3.good e
  clear hW0 N1 N2 N3 NS hT
  have HE : (Cmpe d1 d2 = 0 ↔ Cmpe d2 d1 = 0) ∧ ([Cmpe d1 d2, Cmpe d2 d1, Cmpe d2 d3, Cmpe d1 d3].all (· == 0) = true → d1.er = 0 ∧ d2.er = 0 ∧ d3.er = 0) := by
    unfold Cmpe
    refine ⟨ee_comm0, fun h => ?_⟩
    obtain ⟨a1, a2, a3, a4⟩ := all4 h
    exact ⟨(ee0.1 a1).1, (ee0.1 a1).2, (ee0.1 a3).2⟩
  obtain ⟨t, ht1, ht2⟩ := beq_iff HE.1
  have HE2 := HE.2
  obtain ⟨o, ho⟩ : ∃ o, [Cmpe d1 d2, Cmpe d2 d1, Cmpe d2 d3, Cmpe d1 d3].all (· == 0) = o := ⟨_, rfl⟩
  cases o
  · have HO := Lib.hid ho
    clear HE HE2 ho G1 G2 G3 h1 h2 h3 C5 C6 C7
    generalize Cmpe d1 d2 = E1 at *
    generalize Cmpe d2 d1 = E2 at *
    generalize Cmpe d2 d3 = E3 at *
    generalize Cmpe d1 d3 = E4 at *
    generalize Cmpn d1 d2 = V1 at *
    generalize Cmpn d2 d1 = V2 at *
    generalize Cmpn d2 d3 = V3 at *
    generalize Cmpn d1 d3 = V4 at *
    go_enter Tryd.func8, Tryd.ntmps8
    go_wp2_with (first
      | (go_at_call 38; rw [HW0.out]; (with_reducible refine (C1.out _ _ _ D.out Xa.dv Xb.dv).mono ?_); rintro e w1 ⟨rfl, hb⟩; have Xa := Xa.below hb; have Xb := Xb.below hb; have Xc := Xc.below hb; have D := Lib.hid (D.out.trans (hb.mono D.out.size)); clear hb; obtain ⟨b_0, b_1, b_2⟩ := Xb.bx; obtain ⟨a_0, a_1, a_2⟩ := Xa.bx)
      | (go_at_call 38; (with_reducible refine (C2.out _ _ _ D.out Xb.dv Xa.dv).mono ?_); rintro e w2 ⟨rfl, hb⟩; have Xa := Xa.below hb; have Xb := Xb.below hb; have Xc := Xc.below hb; have D := Lib.hid (D.out.trans (hb.mono D.out.size)); clear hb; obtain ⟨b_0, b_1, b_2⟩ := Xb.bx; obtain ⟨c_0, c_1, c_2⟩ := Xc.bx)
      | (go_at_call 38; (with_reducible refine (C3.out _ _ _ D.out Xb.dv Xc.dv).mono ?_); rintro e w3 ⟨rfl, hb⟩; have Xa := Xa.below hb; have Xb := Xb.below hb; have Xc := Xc.below hb; have D := Lib.hid (D.out.trans (hb.mono D.out.size)); clear hb; obtain ⟨a_0, a_1, a_2⟩ := Xa.bx; obtain ⟨c_0, c_1, c_2⟩ := Xc.bx)
      | (go_at_call 38; (with_reducible refine (C4.out _ _ _ D.out Xa.dv Xc.dv).mono ?_); rintro e w4 ⟨rfl, hb⟩; have Xa := Xa.below hb; have Xb := Xb.below hb; have Xc := Xc.below hb; have D := Lib.hid (D.out.trans (hb.mono D.out.size)); clear hb)
      | (go_at_call 49; (with_reducible refine (lives_c _ (HT.out _ D.out)).mono ?_); rintro e wl ⟨rfl, hb⟩; have Xa := Xa.below hb; have Xb := Xb.below hb; have Xc := Xc.below hb; have D := Lib.hid (D.out.trans (hb.mono D.out.size)); clear hb)
      | (go_at_call 50; (with_reducible refine (ok4 wl E1 E2 E3 E4 false HO.out).mono ?_); rintro e wo ⟨rfl, hw⟩; have s := al1 wl (.cells #[.int .i64 E1, .int .i64 E2, .int .i64 E3, .int .i64 E4] 23); rw [hw] at s; clear hw; have Xa := Xa.below s; have Xb := Xb.below s; have Xc := Xc.below s; have D := Lib.hid (D.out.trans (s.mono D.out.size)); clear s)
      | (go_at_call 49; (with_reducible refine (lives_c _ (HT.out _ D.out)).mono ?_); rintro e wm ⟨rfl, hb⟩; have Xa := Xa.below hb; have Xb := Xb.below hb; have Xc := Xc.below hb; have D := Lib.hid (D.out.trans (hb.mono D.out.size)); clear hb))
    go_ret
    exact ⟨rfl, D0.out.trans (D.out.mono D0.out.size)⟩
  · obtain ⟨e1, e2, e3⟩ := HE2 ho
    have g1 := G1 e1
    have g2 := G2 e2
    have g3 := G3 e3
    have OR := ord_d g1 g2 g3
    have CA := cmp_add g1 g2 g3
    have SM : Hid (∀ (W : World) (u v : Value), DV W u d1 → DV W v d2 → Calls Tryd.prog 30 #[u, v] W (RetB W (.bool (decide (d1.m = d2.m ∧ d1.x = d2.x))))) := fun W u v hu hv => Same_d u v d1 d2 W hu hv e1 e2
    have K7 : Cmpe (Add d1 d3).d (Add d2 d3).d = 0 := cmpe_0 (add_good _ _) (add_good _ _)
    rw [K7] at C7
    have HO := Lib.hid ho
    clear HE HE2 ho G1 G2 G3 h1 h2 h3 e1 e2 e3 g1 g2 g3 K7 ht1 ht2
    generalize decide (d1.m = d2.m ∧ d1.x = d2.x) = q at *
    generalize Cmpn (Add d1 d3).d (Add d2 d3).d = V7 at *
    generalize Add d1 d3 = r5 at *
    generalize Add d2 d3 = r6 at *
    generalize Cmpe d1 d2 = E1 at *
    generalize Cmpe d2 d1 = E2 at *
    generalize Cmpe d2 d3 = E3 at *
    generalize Cmpe d1 d3 = E4 at *
    generalize Cmpn d1 d2 = V1 at *
    generalize Cmpn d2 d1 = V2 at *
    generalize Cmpn d2 d3 = V3 at *
    generalize Cmpn d1 d3 = V4 at *
    obtain ⟨i1, i2, i3, i4⟩ := OR
    obtain ⟨o2, ho2⟩ : ∃ o, [r5.e, r6.e].all (· == 0) = o := ⟨_, rfl⟩
    have HO2 := Lib.hid ho2
    cases o2
    · clear CA ho2
      rcases i4 with i4 | ⟨i4, i5⟩ | ⟨i4, i5, i6⟩
      · go_enter Tryd.func8, Tryd.ntmps8
        go_wp2_with (first
          | (go_at_call 38; rw [HW0.out]; (with_reducible refine (C1.out _ _ _ D.out Xa.dv Xb.dv).mono ?_); rintro e w1 ⟨rfl, hb⟩; have Xa := Xa.below hb; have Xb := Xb.below hb; have Xc := Xc.below hb; have D := Lib.hid (D.out.trans (hb.mono D.out.size)); clear hb; obtain ⟨b_0, b_1, b_2⟩ := Xb.bx; obtain ⟨a_0, a_1, a_2⟩ := Xa.bx)
          | (go_at_call 38; (with_reducible refine (C2.out _ _ _ D.out Xb.dv Xa.dv).mono ?_); rintro e w2 ⟨rfl, hb⟩; have Xa := Xa.below hb; have Xb := Xb.below hb; have Xc := Xc.below hb; have D := Lib.hid (D.out.trans (hb.mono D.out.size)); clear hb; obtain ⟨b_0, b_1, b_2⟩ := Xb.bx; obtain ⟨c_0, c_1, c_2⟩ := Xc.bx)
          | (go_at_call 38; (with_reducible refine (C3.out _ _ _ D.out Xb.dv Xc.dv).mono ?_); rintro e w3 ⟨rfl, hb⟩; have Xa := Xa.below hb; have Xb := Xb.below hb; have Xc := Xc.below hb; have D := Lib.hid (D.out.trans (hb.mono D.out.size)); clear hb; obtain ⟨a_0, a_1, a_2⟩ := Xa.bx; obtain ⟨c_0, c_1, c_2⟩ := Xc.bx)
          | (go_at_call 38; (with_reducible refine (C4.out _ _ _ D.out Xa.dv Xc.dv).mono ?_); rintro e w4 ⟨rfl, hb⟩; have Xa := Xa.below hb; have Xb := Xb.below hb; have Xc := Xc.below hb; have D := Lib.hid (D.out.trans (hb.mono D.out.size)); clear hb)
          | (go_at_call 49; (with_reducible refine (lives_c _ (HT.out _ D.out)).mono ?_); rintro e wl ⟨rfl, hb⟩; have Xa := Xa.below hb; have Xb := Xb.below hb; have Xc := Xc.below hb; have D := Lib.hid (D.out.trans (hb.mono D.out.size)); clear hb)
          | (go_at_call 50; (with_reducible refine (ok4 wl E1 E2 E3 E4 true HO.out).mono ?_); rintro e wo ⟨rfl, hw⟩; have s := al1 wl (.cells #[.int .i64 E1, .int .i64 E2, .int .i64 E3, .int .i64 E4] 23); rw [hw] at s; clear hw; have Xa := Xa.below s; have Xb := Xb.below s; have Xc := Xc.below s; have D := Lib.hid (D.out.trans (s.mono D.out.size)); clear s; obtain ⟨a_0, a_1, a_2⟩ := Xa.bx; obtain ⟨b_0, b_1, b_2⟩ := Xb.bx)
          | (go_at_call 30; (with_reducible refine (SM.out _ _ _ Xa.dv Xb.dv).mono ?_); rintro e ws ⟨rfl, hb⟩; have Xa := Xa.below hb; have Xb := Xb.below hb; have Xc := Xc.below hb; have D := Lib.hid (D.out.trans (hb.mono D.out.size)); clear hb; obtain ⟨a_0, a_1, a_2⟩ := Xa.bx; obtain ⟨c_0, c_1, c_2⟩ := Xc.bx)
          | (go_at_call 39; (with_reducible refine (C5.out _ _ _ D.out Xa.dv Xc.dv).mono ?_); rintro e wf ⟨bf, Af, nf, cf, xf, rfl, hv, hb⟩; have s := hb.alloc hb.size (.cells #[.bool bf, .slice Af nf cf, .int .i64 xf] 48); have Xa := Xa.below s; have Xb := Xb.below s; have Xc := Xc.below s; have Xf := BD.new hv.dv; have D := Lib.hid (D.out.trans (s.mono D.out.size)); clear hv hb s; obtain ⟨b_0, b_1, b_2⟩ := Xb.bx; obtain ⟨c_0, c_1, c_2⟩ := Xc.bx)
          | (go_at_call 39; (with_reducible refine (C6.out _ _ _ D.out Xb.dv Xc.dv).mono ?_); rintro e wg ⟨bg, Ag, ng, cg, xg, rfl, hv, hb⟩; have s := hb.alloc hb.size (.cells #[.bool bg, .slice Ag ng cg, .int .i64 xg] 48); have Xa := Xa.below s; have Xb := Xb.below s; have Xc := Xc.below s; have Xf := Xf.below s; have Xg := BD.new hv.dv; have D := Lib.hid (D.out.trans (s.mono D.out.size)); clear hv hb s; obtain ⟨f_0, f_1, f_2⟩ := Xf.bx; obtain ⟨g_0, g_1, g_2⟩ := Xg.bx)
          | (go_at_call 50; (with_reducible refine (ok2a wg (.cells #[.bool bg, .slice Ag ng cg, .int .i64 xg] 48) r5.e r6.e false HO2.out).mono ?_); rintro e wq ⟨rfl, hw⟩; have s := al1 (wg.alloc (.cells #[.bool bg, .slice Ag ng cg, .int .i64 xg] 48)) (.cells #[.int .i64 r5.e, .int .i64 r6.e] 23); rw [hw] at s; clear hw; have Xa := Xa.below s; have Xb := Xb.below s; have Xc := Xc.below s; have Xf := Xf.below s; have Xg := Xg.below s; have D := Lib.hid (D.out.trans (s.mono D.out.size)); clear s; obtain ⟨f_0, f_1, f_2⟩ := Xf.bx; obtain ⟨g_0, g_1, g_2⟩ := Xg.bx))
        go_ret
        exact ⟨rfl, D0.out.trans (D.out.mono D0.out.size)⟩
      · go_enter Tryd.func8, Tryd.ntmps8
        go_wp2_with (first
          | (go_at_call 38; rw [HW0.out]; (with_reducible refine (C1.out _ _ _ D.out Xa.dv Xb.dv).mono ?_); rintro e w1 ⟨rfl, hb⟩; have Xa := Xa.below hb; have Xb := Xb.below hb; have Xc := Xc.below hb; have D := Lib.hid (D.out.trans (hb.mono D.out.size)); clear hb; obtain ⟨b_0, b_1, b_2⟩ := Xb.bx; obtain ⟨a_0, a_1, a_2⟩ := Xa.bx)
          | (go_at_call 38; (with_reducible refine (C2.out _ _ _ D.out Xb.dv Xa.dv).mono ?_); rintro e w2 ⟨rfl, hb⟩; have Xa := Xa.below hb; have Xb := Xb.below hb; have Xc := Xc.below hb; have D := Lib.hid (D.out.trans (hb.mono D.out.size)); clear hb; obtain ⟨b_0, b_1, b_2⟩ := Xb.bx; obtain ⟨c_0, c_1, c_2⟩ := Xc.bx)
          | (go_at_call 38; (with_reducible refine (C3.out _ _ _ D.out Xb.dv Xc.dv).mono ?_); rintro e w3 ⟨rfl, hb⟩; have Xa := Xa.below hb; have Xb := Xb.below hb; have Xc := Xc.below hb; have D := Lib.hid (D.out.trans (hb.mono D.out.size)); clear hb; obtain ⟨a_0, a_1, a_2⟩ := Xa.bx; obtain ⟨c_0, c_1, c_2⟩ := Xc.bx)
          | (go_at_call 38; (with_reducible refine (C4.out _ _ _ D.out Xa.dv Xc.dv).mono ?_); rintro e w4 ⟨rfl, hb⟩; have Xa := Xa.below hb; have Xb := Xb.below hb; have Xc := Xc.below hb; have D := Lib.hid (D.out.trans (hb.mono D.out.size)); clear hb)
          | (go_at_call 49; (with_reducible refine (lives_c _ (HT.out _ D.out)).mono ?_); rintro e wl ⟨rfl, hb⟩; have Xa := Xa.below hb; have Xb := Xb.below hb; have Xc := Xc.below hb; have D := Lib.hid (D.out.trans (hb.mono D.out.size)); clear hb)
          | (go_at_call 50; (with_reducible refine (ok4 wl E1 E2 E3 E4 true HO.out).mono ?_); rintro e wo ⟨rfl, hw⟩; have s := al1 wl (.cells #[.int .i64 E1, .int .i64 E2, .int .i64 E3, .int .i64 E4] 23); rw [hw] at s; clear hw; have Xa := Xa.below s; have Xb := Xb.below s; have Xc := Xc.below s; have D := Lib.hid (D.out.trans (s.mono D.out.size)); clear s; obtain ⟨a_0, a_1, a_2⟩ := Xa.bx; obtain ⟨b_0, b_1, b_2⟩ := Xb.bx)
          | (go_at_call 30; (with_reducible refine (SM.out _ _ _ Xa.dv Xb.dv).mono ?_); rintro e ws ⟨rfl, hb⟩; have Xa := Xa.below hb; have Xb := Xb.below hb; have Xc := Xc.below hb; have D := Lib.hid (D.out.trans (hb.mono D.out.size)); clear hb; obtain ⟨a_0, a_1, a_2⟩ := Xa.bx; obtain ⟨c_0, c_1, c_2⟩ := Xc.bx)
          | (go_at_call 39; (with_reducible refine (C5.out _ _ _ D.out Xa.dv Xc.dv).mono ?_); rintro e wf ⟨bf, Af, nf, cf, xf, rfl, hv, hb⟩; have s := hb.alloc hb.size (.cells #[.bool bf, .slice Af nf cf, .int .i64 xf] 48); have Xa := Xa.below s; have Xb := Xb.below s; have Xc := Xc.below s; have Xf := BD.new hv.dv; have D := Lib.hid (D.out.trans (s.mono D.out.size)); clear hv hb s; obtain ⟨b_0, b_1, b_2⟩ := Xb.bx; obtain ⟨c_0, c_1, c_2⟩ := Xc.bx)
          | (go_at_call 39; (with_reducible refine (C6.out _ _ _ D.out Xb.dv Xc.dv).mono ?_); rintro e wg ⟨bg, Ag, ng, cg, xg, rfl, hv, hb⟩; have s := hb.alloc hb.size (.cells #[.bool bg, .slice Ag ng cg, .int .i64 xg] 48); have Xa := Xa.below s; have Xb := Xb.below s; have Xc := Xc.below s; have Xf := Xf.below s; have Xg := BD.new hv.dv; have D := Lib.hid (D.out.trans (s.mono D.out.size)); clear hv hb s; obtain ⟨f_0, f_1, f_2⟩ := Xf.bx; obtain ⟨g_0, g_1, g_2⟩ := Xg.bx)
          | (go_at_call 50; (with_reducible refine (ok2a wg (.cells #[.bool bg, .slice Ag ng cg, .int .i64 xg] 48) r5.e r6.e false HO2.out).mono ?_); rintro e wq ⟨rfl, hw⟩; have s := al1 (wg.alloc (.cells #[.bool bg, .slice Ag ng cg, .int .i64 xg] 48)) (.cells #[.int .i64 r5.e, .int .i64 r6.e] 23); rw [hw] at s; clear hw; have Xa := Xa.below s; have Xb := Xb.below s; have Xc := Xc.below s; have Xf := Xf.below s; have Xg := Xg.below s; have D := Lib.hid (D.out.trans (s.mono D.out.size)); clear s; obtain ⟨f_0, f_1, f_2⟩ := Xf.bx; obtain ⟨g_0, g_1, g_2⟩ := Xg.bx))
        go_ret
        exact ⟨rfl, D0.out.trans (D.out.mono D0.out.size)⟩
      · go_enter Tryd.func8, Tryd.ntmps8
        go_wp2_with (first
          | (go_at_call 38; rw [HW0.out]; (with_reducible refine (C1.out _ _ _ D.out Xa.dv Xb.dv).mono ?_); rintro e w1 ⟨rfl, hb⟩; have Xa := Xa.below hb; have Xb := Xb.below hb; have Xc := Xc.below hb; have D := Lib.hid (D.out.trans (hb.mono D.out.size)); clear hb; obtain ⟨b_0, b_1, b_2⟩ := Xb.bx; obtain ⟨a_0, a_1, a_2⟩ := Xa.bx)
          | (go_at_call 38; (with_reducible refine (C2.out _ _ _ D.out Xb.dv Xa.dv).mono ?_); rintro e w2 ⟨rfl, hb⟩; have Xa := Xa.below hb; have Xb := Xb.below hb; have Xc := Xc.below hb; have D := Lib.hid (D.out.trans (hb.mono D.out.size)); clear hb; obtain ⟨b_0, b_1, b_2⟩ := Xb.bx; obtain ⟨c_0, c_1, c_2⟩ := Xc.bx)
          | (go_at_call 38; (with_reducible refine (C3.out _ _ _ D.out Xb.dv Xc.dv).mono ?_); rintro e w3 ⟨rfl, hb⟩; have Xa := Xa.below hb; have Xb := Xb.below hb; have Xc := Xc.below hb; have D := Lib.hid (D.out.trans (hb.mono D.out.size)); clear hb; obtain ⟨a_0, a_1, a_2⟩ := Xa.bx; obtain ⟨c_0, c_1, c_2⟩ := Xc.bx)
          | (go_at_call 38; (with_reducible refine (C4.out _ _ _ D.out Xa.dv Xc.dv).mono ?_); rintro e w4 ⟨rfl, hb⟩; have Xa := Xa.below hb; have Xb := Xb.below hb; have Xc := Xc.below hb; have D := Lib.hid (D.out.trans (hb.mono D.out.size)); clear hb)
          | (go_at_call 49; (with_reducible refine (lives_c _ (HT.out _ D.out)).mono ?_); rintro e wl ⟨rfl, hb⟩; have Xa := Xa.below hb; have Xb := Xb.below hb; have Xc := Xc.below hb; have D := Lib.hid (D.out.trans (hb.mono D.out.size)); clear hb)
          | (go_at_call 50; (with_reducible refine (ok4 wl E1 E2 E3 E4 true HO.out).mono ?_); rintro e wo ⟨rfl, hw⟩; have s := al1 wl (.cells #[.int .i64 E1, .int .i64 E2, .int .i64 E3, .int .i64 E4] 23); rw [hw] at s; clear hw; have Xa := Xa.below s; have Xb := Xb.below s; have Xc := Xc.below s; have D := Lib.hid (D.out.trans (s.mono D.out.size)); clear s; obtain ⟨a_0, a_1, a_2⟩ := Xa.bx; obtain ⟨b_0, b_1, b_2⟩ := Xb.bx)
          | (go_at_call 30; (with_reducible refine (SM.out _ _ _ Xa.dv Xb.dv).mono ?_); rintro e ws ⟨rfl, hb⟩; have Xa := Xa.below hb; have Xb := Xb.below hb; have Xc := Xc.below hb; have D := Lib.hid (D.out.trans (hb.mono D.out.size)); clear hb; obtain ⟨a_0, a_1, a_2⟩ := Xa.bx; obtain ⟨c_0, c_1, c_2⟩ := Xc.bx)
          | (go_at_call 39; (with_reducible refine (C5.out _ _ _ D.out Xa.dv Xc.dv).mono ?_); rintro e wf ⟨bf, Af, nf, cf, xf, rfl, hv, hb⟩; have s := hb.alloc hb.size (.cells #[.bool bf, .slice Af nf cf, .int .i64 xf] 48); have Xa := Xa.below s; have Xb := Xb.below s; have Xc := Xc.below s; have Xf := BD.new hv.dv; have D := Lib.hid (D.out.trans (s.mono D.out.size)); clear hv hb s; obtain ⟨b_0, b_1, b_2⟩ := Xb.bx; obtain ⟨c_0, c_1, c_2⟩ := Xc.bx)
          | (go_at_call 39; (with_reducible refine (C6.out _ _ _ D.out Xb.dv Xc.dv).mono ?_); rintro e wg ⟨bg, Ag, ng, cg, xg, rfl, hv, hb⟩; have s := hb.alloc hb.size (.cells #[.bool bg, .slice Ag ng cg, .int .i64 xg] 48); have Xa := Xa.below s; have Xb := Xb.below s; have Xc := Xc.below s; have Xf := Xf.below s; have Xg := BD.new hv.dv; have D := Lib.hid (D.out.trans (s.mono D.out.size)); clear hv hb s; obtain ⟨f_0, f_1, f_2⟩ := Xf.bx; obtain ⟨g_0, g_1, g_2⟩ := Xg.bx)
          | (go_at_call 50; (with_reducible refine (ok2a wg (.cells #[.bool bg, .slice Ag ng cg, .int .i64 xg] 48) r5.e r6.e false HO2.out).mono ?_); rintro e wq ⟨rfl, hw⟩; have s := al1 (wg.alloc (.cells #[.bool bg, .slice Ag ng cg, .int .i64 xg] 48)) (.cells #[.int .i64 r5.e, .int .i64 r6.e] 23); rw [hw] at s; clear hw; have Xa := Xa.below s; have Xb := Xb.below s; have Xc := Xc.below s; have Xf := Xf.below s; have Xg := Xg.below s; have D := Lib.hid (D.out.trans (s.mono D.out.size)); clear s; obtain ⟨f_0, f_1, f_2⟩ := Xf.bx; obtain ⟨g_0, g_1, g_2⟩ := Xg.bx))
        go_ret
        exact ⟨rfl, D0.out.trans (D.out.mono D0.out.size)⟩
    · simp only [List.all_cons, List.all_nil, Bool.and_true, Bool.and_eq_true, beq_iff_eq] at ho2
      have hz : V7 = V1 := CA ho2.1 ho2.2
      subst hz
      clear CA ho2
      rcases i4 with i4 | ⟨i4, i5⟩ | ⟨i4, i5, i6⟩
      · go_enter Tryd.func8, Tryd.ntmps8
        go_wp2_with (first
          | (go_at_call 38; rw [HW0.out]; (with_reducible refine (C1.out _ _ _ D.out Xa.dv Xb.dv).mono ?_); rintro e w1 ⟨rfl, hb⟩; have Xa := Xa.below hb; have Xb := Xb.below hb; have Xc := Xc.below hb; have D := Lib.hid (D.out.trans (hb.mono D.out.size)); clear hb; obtain ⟨b_0, b_1, b_2⟩ := Xb.bx; obtain ⟨a_0, a_1, a_2⟩ := Xa.bx)
          | (go_at_call 38; (with_reducible refine (C2.out _ _ _ D.out Xb.dv Xa.dv).mono ?_); rintro e w2 ⟨rfl, hb⟩; have Xa := Xa.below hb; have Xb := Xb.below hb; have Xc := Xc.below hb; have D := Lib.hid (D.out.trans (hb.mono D.out.size)); clear hb; obtain ⟨b_0, b_1, b_2⟩ := Xb.bx; obtain ⟨c_0, c_1, c_2⟩ := Xc.bx)
          | (go_at_call 38; (with_reducible refine (C3.out _ _ _ D.out Xb.dv Xc.dv).mono ?_); rintro e w3 ⟨rfl, hb⟩; have Xa := Xa.below hb; have Xb := Xb.below hb; have Xc := Xc.below hb; have D := Lib.hid (D.out.trans (hb.mono D.out.size)); clear hb; obtain ⟨a_0, a_1, a_2⟩ := Xa.bx; obtain ⟨c_0, c_1, c_2⟩ := Xc.bx)
          | (go_at_call 38; (with_reducible refine (C4.out _ _ _ D.out Xa.dv Xc.dv).mono ?_); rintro e w4 ⟨rfl, hb⟩; have Xa := Xa.below hb; have Xb := Xb.below hb; have Xc := Xc.below hb; have D := Lib.hid (D.out.trans (hb.mono D.out.size)); clear hb)
          | (go_at_call 49; (with_reducible refine (lives_c _ (HT.out _ D.out)).mono ?_); rintro e wl ⟨rfl, hb⟩; have Xa := Xa.below hb; have Xb := Xb.below hb; have Xc := Xc.below hb; have D := Lib.hid (D.out.trans (hb.mono D.out.size)); clear hb)
          | (go_at_call 50; (with_reducible refine (ok4 wl E1 E2 E3 E4 true HO.out).mono ?_); rintro e wo ⟨rfl, hw⟩; have s := al1 wl (.cells #[.int .i64 E1, .int .i64 E2, .int .i64 E3, .int .i64 E4] 23); rw [hw] at s; clear hw; have Xa := Xa.below s; have Xb := Xb.below s; have Xc := Xc.below s; have D := Lib.hid (D.out.trans (s.mono D.out.size)); clear s; obtain ⟨a_0, a_1, a_2⟩ := Xa.bx; obtain ⟨b_0, b_1, b_2⟩ := Xb.bx)
          | (go_at_call 30; (with_reducible refine (SM.out _ _ _ Xa.dv Xb.dv).mono ?_); rintro e ws ⟨rfl, hb⟩; have Xa := Xa.below hb; have Xb := Xb.below hb; have Xc := Xc.below hb; have D := Lib.hid (D.out.trans (hb.mono D.out.size)); clear hb; obtain ⟨a_0, a_1, a_2⟩ := Xa.bx; obtain ⟨c_0, c_1, c_2⟩ := Xc.bx)
          | (go_at_call 39; (with_reducible refine (C5.out _ _ _ D.out Xa.dv Xc.dv).mono ?_); rintro e wf ⟨bf, Af, nf, cf, xf, rfl, hv, hb⟩; have s := hb.alloc hb.size (.cells #[.bool bf, .slice Af nf cf, .int .i64 xf] 48); have Xa := Xa.below s; have Xb := Xb.below s; have Xc := Xc.below s; have Xf := BD.new hv.dv; have D := Lib.hid (D.out.trans (s.mono D.out.size)); clear hv hb s; obtain ⟨b_0, b_1, b_2⟩ := Xb.bx; obtain ⟨c_0, c_1, c_2⟩ := Xc.bx)
          | (go_at_call 39; (with_reducible refine (C6.out _ _ _ D.out Xb.dv Xc.dv).mono ?_); rintro e wg ⟨bg, Ag, ng, cg, xg, rfl, hv, hb⟩; have s := hb.alloc hb.size (.cells #[.bool bg, .slice Ag ng cg, .int .i64 xg] 48); have Xa := Xa.below s; have Xb := Xb.below s; have Xc := Xc.below s; have Xf := Xf.below s; have Xg := BD.new hv.dv; have D := Lib.hid (D.out.trans (s.mono D.out.size)); clear hv hb s; obtain ⟨f_0, f_1, f_2⟩ := Xf.bx; obtain ⟨g_0, g_1, g_2⟩ := Xg.bx)
          | (go_at_call 50; (with_reducible refine (ok2a wg (.cells #[.bool bg, .slice Ag ng cg, .int .i64 xg] 48) r5.e r6.e true HO2.out).mono ?_); rintro e wq ⟨rfl, hw⟩; have s := al1 (wg.alloc (.cells #[.bool bg, .slice Ag ng cg, .int .i64 xg] 48)) (.cells #[.int .i64 r5.e, .int .i64 r6.e] 23); rw [hw] at s; clear hw; have Xa := Xa.below s; have Xb := Xb.below s; have Xc := Xc.below s; have Xf := Xf.below s; have Xg := Xg.below s; have D := Lib.hid (D.out.trans (s.mono D.out.size)); clear s; obtain ⟨f_0, f_1, f_2⟩ := Xf.bx; obtain ⟨g_0, g_1, g_2⟩ := Xg.bx)
          | (go_at_call 38; (with_reducible refine (C7.out _ _ _ D.out Xf.dv Xg.dv).mono ?_); rintro e wv ⟨rfl, hb⟩; have Xa := Xa.below hb; have Xb := Xb.below hb; have Xc := Xc.below hb; have Xf := Xf.below hb; have Xg := Xg.below hb; have D := Lib.hid (D.out.trans (hb.mono D.out.size)); clear hb))
        go_ret
        exact ⟨rfl, D0.out.trans (D.out.mono D0.out.size)⟩
      · go_enter Tryd.func8, Tryd.ntmps8
        go_wp2_with (first
          | (go_at_call 38; rw [HW0.out]; (with_reducible refine (C1.out _ _ _ D.out Xa.dv Xb.dv).mono ?_); rintro e w1 ⟨rfl, hb⟩; have Xa := Xa.below hb; have Xb := Xb.below hb; have Xc := Xc.below hb; have D := Lib.hid (D.out.trans (hb.mono D.out.size)); clear hb; obtain ⟨b_0, b_1, b_2⟩ := Xb.bx; obtain ⟨a_0, a_1, a_2⟩ := Xa.bx)
          | (go_at_call 38; (with_reducible refine (C2.out _ _ _ D.out Xb.dv Xa.dv).mono ?_); rintro e w2 ⟨rfl, hb⟩; have Xa := Xa.below hb; have Xb := Xb.below hb; have Xc := Xc.below hb; have D := Lib.hid (D.out.trans (hb.mono D.out.size)); clear hb; obtain ⟨b_0, b_1, b_2⟩ := Xb.bx; obtain ⟨c_0, c_1, c_2⟩ := Xc.bx)
          | (go_at_call 38; (with_reducible refine (C3.out _ _ _ D.out Xb.dv Xc.dv).mono ?_); rintro e w3 ⟨rfl, hb⟩; have Xa := Xa.below hb; have Xb := Xb.below hb; have Xc := Xc.below hb; have D := Lib.hid (D.out.trans (hb.mono D.out.size)); clear hb; obtain ⟨a_0, a_1, a_2⟩ := Xa.bx; obtain ⟨c_0, c_1, c_2⟩ := Xc.bx)
          | (go_at_call 38; (with_reducible refine (C4.out _ _ _ D.out Xa.dv Xc.dv).mono ?_); rintro e w4 ⟨rfl, hb⟩; have Xa := Xa.below hb; have Xb := Xb.below hb; have Xc := Xc.below hb; have D := Lib.hid (D.out.trans (hb.mono D.out.size)); clear hb)
          | (go_at_call 49; (with_reducible refine (lives_c _ (HT.out _ D.out)).mono ?_); rintro e wl ⟨rfl, hb⟩; have Xa := Xa.below hb; have Xb := Xb.below hb; have Xc := Xc.below hb; have D := Lib.hid (D.out.trans (hb.mono D.out.size)); clear hb)
          | (go_at_call 50; (with_reducible refine (ok4 wl E1 E2 E3 E4 true HO.out).mono ?_); rintro e wo ⟨rfl, hw⟩; have s := al1 wl (.cells #[.int .i64 E1, .int .i64 E2, .int .i64 E3, .int .i64 E4] 23); rw [hw] at s; clear hw; have Xa := Xa.below s; have Xb := Xb.below s; have Xc := Xc.below s; have D := Lib.hid (D.out.trans (s.mono D.out.size)); clear s; obtain ⟨a_0, a_1, a_2⟩ := Xa.bx; obtain ⟨b_0, b_1, b_2⟩ := Xb.bx)
          | (go_at_call 30; (with_reducible refine (SM.out _ _ _ Xa.dv Xb.dv).mono ?_); rintro e ws ⟨rfl, hb⟩; have Xa := Xa.below hb; have Xb := Xb.below hb; have Xc := Xc.below hb; have D := Lib.hid (D.out.trans (hb.mono D.out.size)); clear hb; obtain ⟨a_0, a_1, a_2⟩ := Xa.bx; obtain ⟨c_0, c_1, c_2⟩ := Xc.bx)
          | (go_at_call 39; (with_reducible refine (C5.out _ _ _ D.out Xa.dv Xc.dv).mono ?_); rintro e wf ⟨bf, Af, nf, cf, xf, rfl, hv, hb⟩; have s := hb.alloc hb.size (.cells #[.bool bf, .slice Af nf cf, .int .i64 xf] 48); have Xa := Xa.below s; have Xb := Xb.below s; have Xc := Xc.below s; have Xf := BD.new hv.dv; have D := Lib.hid (D.out.trans (s.mono D.out.size)); clear hv hb s; obtain ⟨b_0, b_1, b_2⟩ := Xb.bx; obtain ⟨c_0, c_1, c_2⟩ := Xc.bx)
          | (go_at_call 39; (with_reducible refine (C6.out _ _ _ D.out Xb.dv Xc.dv).mono ?_); rintro e wg ⟨bg, Ag, ng, cg, xg, rfl, hv, hb⟩; have s := hb.alloc hb.size (.cells #[.bool bg, .slice Ag ng cg, .int .i64 xg] 48); have Xa := Xa.below s; have Xb := Xb.below s; have Xc := Xc.below s; have Xf := Xf.below s; have Xg := BD.new hv.dv; have D := Lib.hid (D.out.trans (s.mono D.out.size)); clear hv hb s; obtain ⟨f_0, f_1, f_2⟩ := Xf.bx; obtain ⟨g_0, g_1, g_2⟩ := Xg.bx)
          | (go_at_call 50; (with_reducible refine (ok2a wg (.cells #[.bool bg, .slice Ag ng cg, .int .i64 xg] 48) r5.e r6.e true HO2.out).mono ?_); rintro e wq ⟨rfl, hw⟩; have s := al1 (wg.alloc (.cells #[.bool bg, .slice Ag ng cg, .int .i64 xg] 48)) (.cells #[.int .i64 r5.e, .int .i64 r6.e] 23); rw [hw] at s; clear hw; have Xa := Xa.below s; have Xb := Xb.below s; have Xc := Xc.below s; have Xf := Xf.below s; have Xg := Xg.below s; have D := Lib.hid (D.out.trans (s.mono D.out.size)); clear s; obtain ⟨f_0, f_1, f_2⟩ := Xf.bx; obtain ⟨g_0, g_1, g_2⟩ := Xg.bx)
          | (go_at_call 38; (with_reducible refine (C7.out _ _ _ D.out Xf.dv Xg.dv).mono ?_); rintro e wv ⟨rfl, hb⟩; have Xa := Xa.below hb; have Xb := Xb.below hb; have Xc := Xc.below hb; have Xf := Xf.below hb; have Xg := Xg.below hb; have D := Lib.hid (D.out.trans (hb.mono D.out.size)); clear hb))
        go_ret
        exact ⟨rfl, D0.out.trans (D.out.mono D0.out.size)⟩
      · go_enter Tryd.func8, Tryd.ntmps8
        go_wp2_with (first
          | (go_at_call 38; rw [HW0.out]; (with_reducible refine (C1.out _ _ _ D.out Xa.dv Xb.dv).mono ?_); rintro e w1 ⟨rfl, hb⟩; have Xa := Xa.below hb; have Xb := Xb.below hb; have Xc := Xc.below hb; have D := Lib.hid (D.out.trans (hb.mono D.out.size)); clear hb; obtain ⟨b_0, b_1, b_2⟩ := Xb.bx; obtain ⟨a_0, a_1, a_2⟩ := Xa.bx)
          | (go_at_call 38; (with_reducible refine (C2.out _ _ _ D.out Xb.dv Xa.dv).mono ?_); rintro e w2 ⟨rfl, hb⟩; have Xa := Xa.below hb; have Xb := Xb.below hb; have Xc := Xc.below hb; have D := Lib.hid (D.out.trans (hb.mono D.out.size)); clear hb; obtain ⟨b_0, b_1, b_2⟩ := Xb.bx; obtain ⟨c_0, c_1, c_2⟩ := Xc.bx)
          | (go_at_call 38; (with_reducible refine (C3.out _ _ _ D.out Xb.dv Xc.dv).mono ?_); rintro e w3 ⟨rfl, hb⟩; have Xa := Xa.below hb; have Xb := Xb.below hb; have Xc := Xc.below hb; have D := Lib.hid (D.out.trans (hb.mono D.out.size)); clear hb; obtain ⟨a_0, a_1, a_2⟩ := Xa.bx; obtain ⟨c_0, c_1, c_2⟩ := Xc.bx)
          | (go_at_call 38; (with_reducible refine (C4.out _ _ _ D.out Xa.dv Xc.dv).mono ?_); rintro e w4 ⟨rfl, hb⟩; have Xa := Xa.below hb; have Xb := Xb.below hb; have Xc := Xc.below hb; have D := Lib.hid (D.out.trans (hb.mono D.out.size)); clear hb)
          | (go_at_call 49; (with_reducible refine (lives_c _ (HT.out _ D.out)).mono ?_); rintro e wl ⟨rfl, hb⟩; have Xa := Xa.below hb; have Xb := Xb.below hb; have Xc := Xc.below hb; have D := Lib.hid (D.out.trans (hb.mono D.out.size)); clear hb)
          | (go_at_call 50; (with_reducible refine (ok4 wl E1 E2 E3 E4 true HO.out).mono ?_); rintro e wo ⟨rfl, hw⟩; have s := al1 wl (.cells #[.int .i64 E1, .int .i64 E2, .int .i64 E3, .int .i64 E4] 23); rw [hw] at s; clear hw; have Xa := Xa.below s; have Xb := Xb.below s; have Xc := Xc.below s; have D := Lib.hid (D.out.trans (s.mono D.out.size)); clear s; obtain ⟨a_0, a_1, a_2⟩ := Xa.bx; obtain ⟨b_0, b_1, b_2⟩ := Xb.bx)
          | (go_at_call 30; (with_reducible refine (SM.out _ _ _ Xa.dv Xb.dv).mono ?_); rintro e ws ⟨rfl, hb⟩; have Xa := Xa.below hb; have Xb := Xb.below hb; have Xc := Xc.below hb; have D := Lib.hid (D.out.trans (hb.mono D.out.size)); clear hb; obtain ⟨a_0, a_1, a_2⟩ := Xa.bx; obtain ⟨c_0, c_1, c_2⟩ := Xc.bx)
          | (go_at_call 39; (with_reducible refine (C5.out _ _ _ D.out Xa.dv Xc.dv).mono ?_); rintro e wf ⟨bf, Af, nf, cf, xf, rfl, hv, hb⟩; have s := hb.alloc hb.size (.cells #[.bool bf, .slice Af nf cf, .int .i64 xf] 48); have Xa := Xa.below s; have Xb := Xb.below s; have Xc := Xc.below s; have Xf := BD.new hv.dv; have D := Lib.hid (D.out.trans (s.mono D.out.size)); clear hv hb s; obtain ⟨b_0, b_1, b_2⟩ := Xb.bx; obtain ⟨c_0, c_1, c_2⟩ := Xc.bx)
          | (go_at_call 39; (with_reducible refine (C6.out _ _ _ D.out Xb.dv Xc.dv).mono ?_); rintro e wg ⟨bg, Ag, ng, cg, xg, rfl, hv, hb⟩; have s := hb.alloc hb.size (.cells #[.bool bg, .slice Ag ng cg, .int .i64 xg] 48); have Xa := Xa.below s; have Xb := Xb.below s; have Xc := Xc.below s; have Xf := Xf.below s; have Xg := BD.new hv.dv; have D := Lib.hid (D.out.trans (s.mono D.out.size)); clear hv hb s; obtain ⟨f_0, f_1, f_2⟩ := Xf.bx; obtain ⟨g_0, g_1, g_2⟩ := Xg.bx)
          | (go_at_call 50; (with_reducible refine (ok2a wg (.cells #[.bool bg, .slice Ag ng cg, .int .i64 xg] 48) r5.e r6.e true HO2.out).mono ?_); rintro e wq ⟨rfl, hw⟩; have s := al1 (wg.alloc (.cells #[.bool bg, .slice Ag ng cg, .int .i64 xg] 48)) (.cells #[.int .i64 r5.e, .int .i64 r6.e] 23); rw [hw] at s; clear hw; have Xa := Xa.below s; have Xb := Xb.below s; have Xc := Xc.below s; have Xf := Xf.below s; have Xg := Xg.below s; have D := Lib.hid (D.out.trans (s.mono D.out.size)); clear s; obtain ⟨f_0, f_1, f_2⟩ := Xf.bx; obtain ⟨g_0, g_1, g_2⟩ := Xg.bx)
          | (go_at_call 38; (with_reducible refine (C7.out _ _ _ D.out Xf.dv Xg.dv).mono ?_); rintro e wv ⟨rfl, hb⟩; have Xa := Xa.below hb; have Xb := Xb.below hb; have Xc := Xc.below hb; have Xf := Xf.below hb; have Xg := Xg.below hb; have D := Lib.hid (D.out.trans (hb.mono D.out.size)); clear hb))
        go_ret
        exact ⟨rfl, D0.out.trans (D.out.mono D0.out.size)⟩
end DC
end Go.Proofs.YtnpeokgjfnobmaaDoor
