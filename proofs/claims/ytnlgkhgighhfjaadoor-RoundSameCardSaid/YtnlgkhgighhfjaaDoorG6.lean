/-
  Texts glued together for a claim: DK3 RK1 RK2 RK9 RK10 RK7 RK8 RK4 DK2 RK5 RK6.
-/
import Derived.Test.YtnlgkhgighhfjaaDoorG5
/-
  DyadOrder: the walk.
-/
namespace Go.Proofs.YtnlgkhgighhfjaaDoor
set_option linter.unusedVariables false
set_option linter.unusedSimpArgs false
open Go.RowKit
set_option linter.unusedVariables false
namespace DC
open L NC NK
open Z (Nz Tz cmpv)
theorem cmpn_S {a b : Dy} (ha : Ok a) (hb : Ok b) : Cmpn a b = cmpv (S a) (S b) := by
  unfold Cmpn
  rw [if_neg (by rw [ha.1, hb.1]; decide)]
  have x1 := ha.2.2.2.2.1
  have x2 := hb.2.2.2.2.1
  have e1 := sc_lv2 a b (by omega)
  have e2 := sc_lv2 b a (by omega)
  rw [Int.min_comm b.x a.x] at e2
  unfold S
  rw [← e1, ← e2]
  rcases Int.lt_trichotomy (lv2 a b) (lv2 b a) with h | h | h
  · rw [Z.cmpv_lt h, Z.cmpv_lt (sc_lt.2 h)]
  · rw [Z.cmpv_eq h, Z.cmpv_eq (by rw [h])]
  · rw [Z.cmpv_gt h, Z.cmpv_gt (sc_lt.2 h)]
theorem cmpe_0 {a b : Dy} (ha : Ok a) (hb : Ok b) : Cmpe a b = 0 := by unfold Cmpe; rw [ha.1, hb.1]; rfl
theorem cmpv_3 (x y : Int) : (cmpv x y = -1 ∧ x < y) ∨ (cmpv x y = 0 ∧ x = y) ∨ (cmpv x y = 1 ∧ y < x) := by
  rcases Int.lt_trichotomy x y with h | h | h
  · exact .inl ⟨Z.cmpv_lt h, h⟩
  · exact .inr (.inl ⟨Z.cmpv_eq h, h⟩)
  · exact .inr (.inr ⟨Z.cmpv_gt h, h⟩)
/-- what the order is to say -/
structure Ord (v12 v21 v23 v13 : Int) (t : Bool) : Prop where
  w : IntKind.i64.wrap (-v21) = -v21
  a : (v12 != -v21) = false
  e : (v12 == 0) = t
  c : ¬ v12 ≤ 0 ∨ (v12 ≤ 0 ∧ ¬ v23 ≤ 0) ∨ (v12 ≤ 0 ∧ v23 ≤ 0 ∧ ¬ 0 < v13)
theorem ord_d {a b c : Dy} (ha : Ok a) (hb : Ok b) (hc : Ok c) : Ord (Cmpn a b) (Cmpn b a) (Cmpn b c) (Cmpn a c) (decide (a.m = b.m ∧ a.x = b.x)) := by
  rw [cmpn_S ha hb, cmpn_S hb ha, cmpn_S hb hc, cmpn_S ha hc]
  have he : (a.m = b.m ∧ a.x = b.x) ↔ S a = S b := by
    constructor
    · intro h; unfold S; rw [h.1, h.2]
    · intro h; rw [S_inj ha hb h]; exact ⟨rfl, rfl⟩
  have hd : decide (a.m = b.m ∧ a.x = b.x) = decide (S a = S b) := decide_eq_decide.2 he
  rw [hd]
  generalize S a = x
  generalize S b = y
  generalize S c = z
  have h1 := cmpv_3 x y
  have h2 := cmpv_3 y x
  have h3 := cmpv_3 y z
  have h4 := cmpv_3 x z
  refine ⟨IntWalk.i64_in _ (by omega), by rw [bne_eq_false_iff_eq]; omega, ?_, by omega⟩
  by_cases h : x = y
  · have : cmpv x y = 0 := by omega
    rw [this, decide_eq_true h]; rfl
  · have : cmpv x y ≠ 0 := by omega
    rw [decide_eq_false h, beq_eq_false_iff_ne.2 this]
theorem cmp_add {a b c : Dy} (ha : Ok a) (hb : Ok b) (hc : Ok c) (h1 : (Add a c).e = 0) (h2 : (Add b c).e = 0) : Cmpn (Add a c).d (Add b c).d = Cmpn a b := by
  rw [cmpn_S (add_good _ _) (add_good _ _), cmpn_S ha hb, (add_ok h1 (fun _ => ha) (fun _ => hc)).2.2, (add_ok h2 (fun _ => hb) (fun _ => hc)).2.2]
  have h1 := cmpv_3 (S a + S c) (S b + S c)
  have h2 := cmpv_3 (S a) (S b)
  omega
end DC
end Go.Proofs.YtnlgkhgighhfjaaDoor

/-
  RoundSame, RoundOrder: the walks.
-/
namespace Go.Proofs.YtnlgkhgighhfjaaDoor
set_option linter.unusedVariables false
set_option linter.unusedSimpArgs false
open Go.RowKit
set_option linter.unusedVariables false
set_option linter.unusedSimpArgs false
namespace RC
open L NC NK DC
open Z (Nz Tz cmpv)
set_option maxRecDepth 100000 in
theorem same_c (x mode : Int) (w : World) (h0 : 0 ≤ x) (h1 : x ≤ 18446744073709551615) (hT : TabD w) :
    Calls Tryd.prog 7 #[.int .u64 x, .int .i64 mode] w fun e w' => e = .returned (.bool true) ∧ Below w.heap.size w w' := by
  have OF : Hid (Calls Tryd.prog 14 #[.int .u64 x] w (RetD w (OfD x))) := Of_d x h0 h1 w hT
  have LV : Hid (∀ W : World, Below w.heap.size w W → Calls Tryd.prog 45 #[] W fun e w' => e = .returned (.bool true) ∧ Below W.heap.size W w') := fun W hW => lives_c W (hT.below hW)
  have TO : Hid (∀ (W : World) (v : Value), Below w.heap.size w W → DV W v (OfD x).d → Calls Tryd.prog 40 #[v, .int .i64 mode] W (DC.RetB W (.tuple #[.int .u64 (TX (OfD x).d mode), .bool (TL (OfD x).d mode), .int .i64 (TE (OfD x).d mode)]))) := fun W v hW hv => To_d v _ mode W hv (hT.below hW)
  by_cases he : F.exq x = 2047
  · have e1 : (OfD x).e = 4 := by unfold OfD; rw [if_pos he]
    generalize OfD x = r at *
    obtain ⟨re, rd⟩ := r
    simp only at e1
    subst e1
    clear h0 h1 he hT
    go_enter Tryd.func7, Tryd.ntmps7
    go_wp2_with (first
      | (go_at_call 14; (with_reducible refine (OF.out).mono ?_); rintro e w2 ⟨b2, A2, n2, c2, x2, rfl, hv, hb⟩; have s := hb.alloc hb.size (.cells #[.bool b2, .slice A2 n2 c2, .int .i64 x2] 25); have D := Lib.hid s; clear hv hb s)
      | (go_at_call 45; (with_reducible refine (LV.out _ D.out).mono ?_); rintro e w3 ⟨rfl, hb⟩; have D := Lib.hid (D.out.trans (hb.mono D.out.size)); clear hb))
    go_ret
    exact ⟨rfl, D.out⟩
  · have e1 := (of_p h0 h1 he).1
    by_cases hm : 0 ≤ mode ∧ mode ≤ 4
    · obtain ⟨q1, q2, q3⟩ := same_p h0 h1 he hm
      rw [q1, q2] at TO
      have hm1 : ¬ mode < 0 := by omega
      have hm2 : ¬ mode > 4 := by omega
      generalize TX (OfD x).d mode = y at *
      generalize OfD x = r at *
      obtain ⟨re, rd⟩ := r
      simp only at e1
      subst e1
      clear h0 h1 he hT q1 q2 hm
      rcases q3 with q3 | ⟨q3, rfl, rfl⟩
      · go_enter Tryd.func7, Tryd.ntmps7
        go_wp2_with (first
          | (go_at_call 14; (with_reducible refine (OF.out).mono ?_); rintro e w2 ⟨b2, A2, n2, c2, x2, rfl, hv, hb⟩; have s := hb.alloc hb.size (.cells #[.bool b2, .slice A2 n2 c2, .int .i64 x2] 25); have X := BD.new hv.dv; have D := Lib.hid s; clear hv hb s)
          | (go_at_call 45; (with_reducible refine (LV.out _ D.out).mono ?_); rintro e w3 ⟨rfl, hb⟩; have X := X.below hb; have D := Lib.hid (D.out.trans (hb.mono D.out.size)); clear hb; obtain ⟨p0, p1, p2⟩ := X.bx)
          | (go_at_call 40; (with_reducible refine (TO.out _ _ D.out X.dv).mono ?_); rintro e w4 ⟨rfl, hb⟩; have D := Lib.hid (D.out.trans (hb.mono D.out.size)); clear hb))
        go_ret
        exact ⟨rfl, D.out⟩
      · go_enter Tryd.func7, Tryd.ntmps7
        go_wp2_with (first
          | (go_at_call 14; (with_reducible refine (OF.out).mono ?_); rintro e w2 ⟨b2, A2, n2, c2, x2, rfl, hv, hb⟩; have s := hb.alloc hb.size (.cells #[.bool b2, .slice A2 n2 c2, .int .i64 x2] 25); have X := BD.new hv.dv; have D := Lib.hid s; clear hv hb s)
          | (go_at_call 45; (with_reducible refine (LV.out _ D.out).mono ?_); rintro e w3 ⟨rfl, hb⟩; have X := X.below hb; have D := Lib.hid (D.out.trans (hb.mono D.out.size)); clear hb; obtain ⟨p0, p1, p2⟩ := X.bx)
          | (go_at_call 40; (with_reducible refine (TO.out _ _ D.out X.dv).mono ?_); rintro e w4 ⟨rfl, hb⟩; have D := Lib.hid (D.out.trans (hb.mono D.out.size)); clear hb))
        go_ret
        exact ⟨rfl, D.out⟩
    · generalize OfD x = r at *
      obtain ⟨re, rd⟩ := r
      simp only at e1
      subst e1
      clear h0 h1 he hT TO
      by_cases hm1 : mode < 0
      · clear hm
        go_enter Tryd.func7, Tryd.ntmps7
        go_wp2_with (first
          | (go_at_call 14; (with_reducible refine (OF.out).mono ?_); rintro e w2 ⟨b2, A2, n2, c2, x2, rfl, hv, hb⟩; have s := hb.alloc hb.size (.cells #[.bool b2, .slice A2 n2 c2, .int .i64 x2] 25); have D := Lib.hid s; clear hv hb s)
          | (go_at_call 45; (with_reducible refine (LV.out _ D.out).mono ?_); rintro e w3 ⟨rfl, hb⟩; have D := Lib.hid (D.out.trans (hb.mono D.out.size)); clear hb))
        go_ret
        exact ⟨rfl, D.out⟩
      · have hm2 : mode > 4 := by omega
        clear hm
        go_enter Tryd.func7, Tryd.ntmps7
        go_wp2_with (first
          | (go_at_call 14; (with_reducible refine (OF.out).mono ?_); rintro e w2 ⟨b2, A2, n2, c2, x2, rfl, hv, hb⟩; have s := hb.alloc hb.size (.cells #[.bool b2, .slice A2 n2 c2, .int .i64 x2] 25); have D := Lib.hid s; clear hv hb s)
          | (go_at_call 45; (with_reducible refine (LV.out _ D.out).mono ?_); rintro e w3 ⟨rfl, hb⟩; have D := Lib.hid (D.out.trans (hb.mono D.out.size)); clear hb))
        go_ret
        exact ⟨rfl, D.out⟩
end RC
end Go.Proofs.YtnlgkhgighhfjaaDoor

/-
  RoundOrder, RoundSides: the walks.
-/
namespace Go.Proofs.YtnlgkhgighhfjaaDoor
set_option linter.unusedVariables false
set_option linter.unusedSimpArgs false
open Go.RowKit
set_option linter.unusedVariables false
set_option linter.unusedSimpArgs false
namespace RC
open L NC NK DC
open Z (Nz Tz cmpv)
theorem all3 {x1 x2 x3 : Int} (h : [x1, x2, x3].all (· == 0) = true) : x1 = 0 ∧ x2 = 0 ∧ x3 = 0 := by
  simpa [List.all_cons, Bool.and_eq_true] using h
theorem Rank_w {y : Int} (h : 0 ≤ y ∧ y ≤ 18446744073709551615 ∧ F.nn y) (W : World) : Calls Tryd.prog 47 #[.int .u64 y] W fun e w' => e = .returned (.tuple #[.int .i64 (F.rnk y), .int .i64 0]) ∧ W = w' := FloatC.Rank_ok y h.1 h.2.1 h.2.2 W
set_option maxRecDepth 100000 in
set_option maxHeartbeats 8000000 in
theorem order_c (ua ub : Value) (d1 d2 : Dy) (mode : Int) (w : World) (h1 : DV w ua d1) (h2 : DV w ub d2) (hT : TabD w) :
    Calls Tryd.prog 8 #[ua, ub, .int .i64 mode] w fun e w' => e = .returned (.bool true) ∧ Below w.heap.size w w' := by
  have H1 := h1
  have H2 := h2
  obtain ⟨ba, Aa, na, ca, xa, la, rfl, -⟩ := H1
  obtain ⟨bb, Ab, nb, cb, xb, lb, rfl, -⟩ := H2
  obtain ⟨N1, N2, NS, D0⟩ := new2 w 25 25 #[.bool ba, .slice Aa na ca, .int .i64 xa] #[.bool bb, .slice Ab nb cb, .int .i64 xb] 0
  rw [World.drewN_zero] at N1 N2 NS D0
  obtain ⟨W0, hW0⟩ : ∃ W0, (w.alloc (.cells #[.bool ba, .slice Aa na ca, .int .i64 xa] 25)).alloc (.cells #[.bool bb, .slice Ab nb cb, .int .i64 xb] 25) = W0 := ⟨_, rfl⟩
  rw [hW0] at N1 N2 D0
  have Xa : BD W0 w.heap.size ba Aa na ca xa d1 := ⟨BX.of N1, h1.below D0⟩
  have Xb : BD W0 (w.heap.size + 1) bb Ab nb cb xb d2 := ⟨BX.of N2, h2.below D0⟩
  have HT : Hid (∀ W : World, Below W0.heap.size W0 W → TabD W) := fun W hW => (hT.below D0).below hW
  have HW0 := Lib.hid hW0
  have D := Lib.hid (Below.refl W0.heap.size W0)
  have T1 : Hid (∀ (W : World) (u : Value), Below W0.heap.size W0 W → DV W u d1 → Calls Tryd.prog 40 #[u, .int .i64 mode] W (DC.RetB W (.tuple #[.int .u64 (TX d1 mode), .bool (TL d1 mode), .int .i64 (TE d1 mode)]))) := fun W u hW hu => To_d u _ mode W hu (HT.out W hW)
  have T2 : Hid (∀ (W : World) (u : Value), Below W0.heap.size W0 W → DV W u d2 → Calls Tryd.prog 40 #[u, .int .i64 mode] W (DC.RetB W (.tuple #[.int .u64 (TX d2 mode), .bool (TL d2 mode), .int .i64 (TE d2 mode)]))) := fun W u hW hu => To_d u _ mode W hu (HT.out W hW)
  have C1 : Hid (∀ (W : World) (u v : Value), Below W0.heap.size W0 W → DV W u d1 → DV W v d2 → Calls Tryd.prog 29 #[u, v] W (DC.RetB W (.tuple #[.int .i64 (Cmpn d1 d2), .int .i64 (Cmpe d1 d2)]))) := fun W u v hW hu hv => Cmp_d u v _ _ W hu hv (HT.out W hW)
  have LV : Hid (∀ W : World, Below W0.heap.size W0 W → Calls Tryd.prog 45 #[] W fun e w' => e = .returned (.bool true) ∧ Below W.heap.size W w') := fun W hW => lives_c W (HT.out W hW)
  have R1 : Hid (∀ W : World, Calls Tryd.prog 47 #[.int .u64 (TX d1 mode)] W fun e w' => e = .returned (.tuple #[.int .i64 (F.rnk (TX d1 mode)), .int .i64 0]) ∧ W = w') := fun W => Rank_w (TX_bd d1 mode fun e => h1.good e) W
  have R2 : Hid (∀ W : World, Calls Tryd.prog 47 #[.int .u64 (TX d2 mode)] W fun e w' => e = .returned (.tuple #[.int .i64 (F.rnk (TX d2 mode)), .int .i64 0]) ∧ W = w') := fun W => Rank_w (TX_bd d2 mode fun e => h2.good e) W
  have D0 := Lib.hid D0
  have G1 := fun e => h1.good e
  have G2 := fun e => h2.good e
  clear hW0 N1 N2 NS hT
  have HE : [TE d1 mode, TE d2 mode, Cmpe d1 d2].all (· == 0) = true → (Cmpn d1 d2 = -1 ∧ F.rnk (TX d1 mode) ≤ F.rnk (TX d2 mode)) ∨ (Cmpn d1 d2 = 0 ∧ F.rnk (TX d1 mode) ≤ F.rnk (TX d2 mode) ∧ F.rnk (TX d1 mode) ≥ F.rnk (TX d2 mode)) ∨ (Cmpn d1 d2 = 1 ∧ F.rnk (TX d1 mode) ≥ F.rnk (TX d2 mode)) := fun h => by
    obtain ⟨a1, a2, a3⟩ := all3 h
    have k1 := TE_0 a1
    have g1 := G1 k1.1
    have g2 := G2 (TE_0 a2).1
    rw [cmpn_S g1 g2]
    rcases cmpv_3 (S d1) (S d2) with ⟨a, b⟩ | ⟨a, b⟩ | ⟨a, b⟩
    · exact .inl ⟨a, order_p g1 g2 k1.2 (by omega)⟩
    · exact .inr (.inl ⟨a, order_p g1 g2 k1.2 (by omega), order_p g2 g1 k1.2 (by omega)⟩)
    · exact .inr (.inr ⟨a, order_p g2 g1 k1.2 (by omega)⟩)
  obtain ⟨o, ho⟩ : ∃ o, [TE d1 mode, TE d2 mode, Cmpe d1 d2].all (· == 0) = o := ⟨_, rfl⟩
  rw [ho] at HE
  have HO := Lib.hid ho
  clear ho G1 G2 h1 h2
  generalize TE d1 mode = E1 at *
  generalize TE d2 mode = E2 at *
  generalize Cmpe d1 d2 = E3 at *
  generalize Cmpn d1 d2 = K at *
  generalize F.rnk (TX d1 mode) = n1 at *
  generalize F.rnk (TX d2 mode) = n2 at *
  generalize TX d1 mode = y1 at *
  generalize TX d2 mode = y2 at *
  generalize TL d1 mode = l1 at *
  generalize TL d2 mode = l2 at *
  cases o
  · clear HE
    go_enter Tryd.func8, Tryd.ntmps8
    go_wp2_with (first
      | (go_at_call 40; rw [HW0.out]; (with_reducible refine (T1.out _ _ D.out Xa.dv).mono ?_); rintro e w1 ⟨rfl, hb⟩; have Xa := Xa.below hb; have Xb := Xb.below hb; have D := Lib.hid (D.out.trans (hb.mono D.out.size)); clear hb; obtain ⟨b_0, b_1, b_2⟩ := Xb.bx)
      | (go_at_call 40; (with_reducible refine (T2.out _ _ D.out Xb.dv).mono ?_); rintro e w2 ⟨rfl, hb⟩; have Xa := Xa.below hb; have Xb := Xb.below hb; have D := Lib.hid (D.out.trans (hb.mono D.out.size)); clear hb; obtain ⟨a_0, a_1, a_2⟩ := Xa.bx; obtain ⟨b_0, b_1, b_2⟩ := Xb.bx)
      | (go_at_call 29; (with_reducible refine (C1.out _ _ _ D.out Xa.dv Xb.dv).mono ?_); rintro e w3 ⟨rfl, hb⟩; have D := Lib.hid (D.out.trans (hb.mono D.out.size)); clear hb)
      | (go_at_call 45; (with_reducible refine (LV.out _ D.out).mono ?_); rintro e wl ⟨rfl, hb⟩; have D := Lib.hid (D.out.trans (hb.mono D.out.size)); clear hb)
      | (go_at_call 46; (with_reducible refine (DC.ok3 wl E1 E2 E3 false HO.out).mono ?_); rintro e wo ⟨rfl, hw⟩; have s := al1 wl (.cells #[.int .i64 E1, .int .i64 E2, .int .i64 E3] 26); rw [hw] at s; clear hw; have D := Lib.hid (D.out.trans (s.mono D.out.size)); clear s)
      | (go_at_call 45; (with_reducible refine (LV.out _ D.out).mono ?_); rintro e wm ⟨rfl, hb⟩; have D := Lib.hid (D.out.trans (hb.mono D.out.size)); clear hb))
    go_ret
    exact ⟨rfl, D0.out.trans (D.out.mono D0.out.size)⟩
  · have HE := HE rfl
    rcases HE with ⟨rfl, hk⟩ | ⟨rfl, hk, hk2⟩ | ⟨rfl, hk⟩
    all_goals (
      go_enter Tryd.func8, Tryd.ntmps8
      go_wp2_with (first
        | (go_at_call 40; rw [HW0.out]; (with_reducible refine (T1.out _ _ D.out Xa.dv).mono ?_); rintro e w1 ⟨rfl, hb⟩; have Xa := Xa.below hb; have Xb := Xb.below hb; have D := Lib.hid (D.out.trans (hb.mono D.out.size)); clear hb; obtain ⟨b_0, b_1, b_2⟩ := Xb.bx)
        | (go_at_call 40; (with_reducible refine (T2.out _ _ D.out Xb.dv).mono ?_); rintro e w2 ⟨rfl, hb⟩; have Xa := Xa.below hb; have Xb := Xb.below hb; have D := Lib.hid (D.out.trans (hb.mono D.out.size)); clear hb; obtain ⟨a_0, a_1, a_2⟩ := Xa.bx; obtain ⟨b_0, b_1, b_2⟩ := Xb.bx)
        | (go_at_call 29; (with_reducible refine (C1.out _ _ _ D.out Xa.dv Xb.dv).mono ?_); rintro e w3 ⟨rfl, hb⟩; have D := Lib.hid (D.out.trans (hb.mono D.out.size)); clear hb)
        | (go_at_call 45; (with_reducible refine (LV.out _ D.out).mono ?_); rintro e wl ⟨rfl, hb⟩; have D := Lib.hid (D.out.trans (hb.mono D.out.size)); clear hb)
        | (go_at_call 46; (with_reducible refine (DC.ok3 wl E1 E2 E3 true HO.out).mono ?_); rintro e wo ⟨rfl, hw⟩; have s := al1 wl (.cells #[.int .i64 E1, .int .i64 E2, .int .i64 E3] 26); rw [hw] at s; clear hw; have D := Lib.hid (D.out.trans (s.mono D.out.size)); clear s)
        | (go_at_call 47; (with_reducible refine (R1.out _).mono ?_); rintro e w7 ⟨rfl, rfl⟩)
        | (go_at_call 47; (with_reducible refine (R2.out _).mono ?_); rintro e w8 ⟨rfl, rfl⟩)
        | (go_at_call 46; (with_reducible refine (ok2' wo 0 0 true rfl).mono ?_); rintro e wp ⟨rfl, hw⟩; have s := al1 wo (.cells #[.int .i64 0, .int .i64 0] 26); rw [hw] at s; clear hw; have D := Lib.hid (D.out.trans (s.mono D.out.size)); clear s))
      go_ret
      exact ⟨rfl, D0.out.trans (D.out.mono D0.out.size)⟩)
end RC
end Go.Proofs.YtnlgkhgighhfjaaDoor

/-
  RoundCutTwice: what is asked, and the walk.
-/
namespace Go.Proofs.YtnlgkhgighhfjaaDoor
set_option linter.unusedVariables false
set_option linter.unusedSimpArgs false
open Go.RowKit
set_option linter.unusedVariables false
set_option linter.unusedSimpArgs false
namespace RC
open L NC NK DC
open Z (Nz Tz cmpv)
theorem CR_good (d : Dy) (places mode : Int) (h : d.er = 0 → Ok d) : Ok (CR d places mode).d := by
  unfold CR
  by_cases he : d.er = 0
  · rw [if_neg (by simpa using he)]
    split
    · exact ok_dz
    · split
      · exact h he
      · exact fin_ok _ _
  · rw [if_pos he]; exact ok_dz
theorem CR_0 {d : Dy} {places mode : Int} (h : (CR d places mode).e = 0) : d.er = 0 ∧ (0 ≤ mode ∧ mode ≤ 4) ∧ (-20000 ≤ places ∧ places ≤ 20000) := by
  unfold CR at h
  by_cases he : d.er = 0
  · rw [if_neg (by simpa using he)] at h
    by_cases ha : (0 ≤ mode ∧ mode ≤ 4) ∧ -20000 ≤ places ∧ places ≤ 20000
    · exact ⟨he, ha.1, ha.2⟩
    · rw [if_pos ha] at h; cases h
  · rw [if_pos he] at h; exact absurd h he
theorem CR_same {d : Dy} {places mode : Int} (he : d.er = 0) (hm : 0 ≤ mode ∧ mode ≤ 4) (hp : -20000 ≤ places ∧ places ≤ 20000) (hs : d.m = 0 ∨ places ≤ d.x) : CR d places mode = ⟨0, d⟩ ∧ CL d places mode = false := by
  unfold CL
  refine ⟨?_, by rw [if_pos (.inr (.inr hs))]⟩
  unfold CR
  rw [if_neg (by simpa using he), if_neg (fun h => h ⟨hm, hp⟩), if_pos hs]
theorem CR_lost {d : Dy} {places mode : Int} (he : d.er = 0) (hm : 0 ≤ mode ∧ mode ≤ 4) (hp : -20000 ≤ places ∧ places ≤ 20000) (hs : ¬ (d.m = 0 ∨ places ≤ d.x)) : CR d places mode = fin (sgm (ng d) (cq d places mode)) places ∧ CL d places mode = decide ((CR d places mode).e = 0) := by
  unfold CL
  refine ⟨?_, by rw [if_neg (fun h => by rcases h with h | h | h; exact h he; exact h ⟨hm, hp⟩; exact hs h)]⟩
  unfold CR
  rw [if_neg (by simpa using he), if_neg (fun h => h ⟨hm, hp⟩), if_neg hs]
theorem fin_x {m x : Int} (h : (fin m x).e = 0) : (fin m x).d.m = 0 ∨ x ≤ (fin m x).d.x := by
  by_cases h0 : m = 0
  · left; subst h0; rw [fin_zero]; rfl
  · right
    obtain ⟨o, h1, h2⟩ := tz_spec h0
    rw [fin_of h1 h2] at h ⊢
    by_cases hi : inb o (x + tz m)
    · rw [if_pos hi]; show x ≤ x + tz m; omega
    · rw [if_neg hi] at h; cases h
theorem twice_p {d : Dy} (hd : d.er = 0 → Ok d) {places mode fewer : Int} (h : (CR d places mode).e = 0) (hf : -20000 ≤ fewer ∧ fewer ≤ places) : CR (CR d places mode).d fewer mode = ⟨0, (CR d places mode).d⟩ ∧ CL (CR d places mode).d fewer mode = false := by
  obtain ⟨he, hm, hp⟩ := CR_0 h
  refine CR_same (CR_good d places mode hd).1 hm (by omega) ?_
  by_cases hs : d.m = 0 ∨ places ≤ d.x
  · rw [(CR_same he hm hp hs).1]
    show d.m = 0 ∨ fewer ≤ d.x
    omega
  · rw [(CR_lost he hm hp hs).1] at h ⊢
    have := fin_x h
    omega
theorem sides_cut {d : Dy} (hd : Ok d) {places : Int} (hp : -20000 ≤ places ∧ places ≤ 20000) (hs : ¬ (d.m = 0 ∨ places ≤ d.x)) :
    ((fin (sgm (ng d) (cq d places 2)) places).e = 0 → S (fin (sgm (ng d) (cq d places 2)) places).d ≤ S d) ∧ ((fin (sgm (ng d) (cq d places 1)) places).e = 0 → S d ≤ S (fin (sgm (ng d) (cq d places 1)) places).d) := by
  have hx := hd.2.2.2.2
  obtain ⟨ρ, h1, h2, h3, h4⟩ := split_sc (z := (d.m.natAbs : Int)) (x := d.x) (u := places) (by omega) (by omega)
  have aa := A_abs d
  have eA : A d = sc (d.m.natAbs : Int) d.x := rfl
  rw [← eA] at h1
  have hE := sc_one_pos places
  have hS : S d = sgm (ng d) (A d) := by
    rcases Int.lt_or_le (S d) 0 with h | h
    · obtain ⟨a, b⟩ := aa.2 h; rw [a, b]; unfold sgm; simp
    · obtain ⟨a, b⟩ := aa.1 h; rw [a, b]; unfold sgm; simp
  have key : ∀ mode, (fin (sgm (ng d) (cq d places mode)) places).e = 0 → S (fin (sgm (ng d) (cq d places mode)) places).d = sgm (ng d) (cq d places mode * sc 1 places) := fun mode h => by
    unfold S
    rw [fin_sc (by omega) h]
    unfold sgm
    cases ng d
    · simp; exact sc_mul1 _ _
    · simp; rw [sc_neg, sc_mul1]
  constructor
  · intro h
    rw [key 2 h, hS]
    unfold cq
    rw [h4]
    generalize sh (d.m.natAbs : Int) (d.x - places + 1) = H at *
    generalize sc 1 places = E at *
    generalize A d = a at *
    clear key aa eA hS h hd hs
    obtain ⟨c, hc, hH⟩ : ∃ c : Int, (c = 0 ∨ c = 1) ∧ H = 2 * (H / 2) + c := ⟨H % 2, by omega, by omega⟩
    obtain ⟨q, hq⟩ : ∃ q, H / 2 = q := ⟨_, rfl⟩
    rw [hq] at hH ⊢
    have e1 : H * E = 2 * (q * E) + c * E := by rw [hH, Int.add_mul, Int.mul_assoc]
    rw [e1] at h1
    have e2 : (q + 1) * E = q * E + E := by rw [Int.add_mul, Int.one_mul]
    rcases hc with rfl | rfl
    · rw [Int.zero_mul] at h1
      rw [show decide (H % 2 = 1) = false by rw [decide_eq_false_iff_not]; omega]
      by_cases hr : ρ = 0
      · rw [show decide (ρ ≠ 0) = false by simp [hr], up_none]
        unfold sgm; cases ng d <;> simp <;> omega
      · rw [show decide (ρ ≠ 0) = true by simp [hr]]
        unfold sgm up; cases ng d <;> simp <;> omega
    · rw [Int.one_mul] at h1
      rw [show decide (H % 2 = 1) = true by rw [decide_eq_true_iff]; omega]
      unfold sgm up; cases ng d <;> simp <;> omega
  · intro h
    rw [key 1 h, hS]
    unfold cq
    rw [h4]
    generalize sh (d.m.natAbs : Int) (d.x - places + 1) = H at *
    generalize sc 1 places = E at *
    generalize A d = a at *
    clear key aa eA hS h hd hs
    obtain ⟨c, hc, hH⟩ : ∃ c : Int, (c = 0 ∨ c = 1) ∧ H = 2 * (H / 2) + c := ⟨H % 2, by omega, by omega⟩
    obtain ⟨q, hq⟩ : ∃ q, H / 2 = q := ⟨_, rfl⟩
    rw [hq] at hH ⊢
    have e1 : H * E = 2 * (q * E) + c * E := by rw [hH, Int.add_mul, Int.mul_assoc]
    rw [e1] at h1
    have e2 : (q + 1) * E = q * E + E := by rw [Int.add_mul, Int.one_mul]
    rcases hc with rfl | rfl
    · rw [Int.zero_mul] at h1
      rw [show decide (H % 2 = 1) = false by rw [decide_eq_false_iff_not]; omega]
      by_cases hr : ρ = 0
      · rw [show decide (ρ ≠ 0) = false by simp [hr], up_none]
        unfold sgm; cases ng d <;> simp <;> omega
      · rw [show decide (ρ ≠ 0) = true by simp [hr]]
        unfold sgm up; cases ng d <;> simp <;> omega
    · rw [Int.one_mul] at h1
      rw [show decide (H % 2 = 1) = true by rw [decide_eq_true_iff]; omega]
      unfold sgm up; cases ng d <;> simp <;> omega
theorem cut_p {d : Dy} (hd : d.er = 0 → Ok d) {places mode : Int} (h : (CR d places mode).e = 0) (h2 : (CR d places 2).e = 0) (h1 : (CR d places 1).e = 0) :
    CL d places 2 = CL d places mode ∧ CL d places 1 = CL d places mode ∧ Cmpe (CR d places 2).d d = 0 ∧ Cmpe d (CR d places 1).d = 0 ∧ Cmpn (CR d places 2).d d ≤ 0 ∧ Cmpn d (CR d places 1).d ≤ 0 ∧ (CL d places mode = true ∨ (CL d places mode = false ∧ Cmpn (CR d places 2).d d = 0 ∧ Cmpn d (CR d places 1).d = 0)) := by
  obtain ⟨he, hm, hp⟩ := CR_0 h
  have g := hd he
  have g2 := CR_good d places 2 hd
  have g1 := CR_good d places 1 hd
  rw [cmpe_0 g2 g, cmpe_0 g g1, cmpn_S g2 g, cmpn_S g g1]
  by_cases hs : d.m = 0 ∨ places ≤ d.x
  · obtain ⟨a1, b1⟩ := CR_same (mode := 2) he (by omega) hp hs
    obtain ⟨a2, b2⟩ := CR_same (mode := 1) he (by omega) hp hs
    obtain ⟨-, b3⟩ := CR_same (mode := mode) he hm hp hs
    rw [a1, a2, b1, b2, b3]
    dsimp only
    have := cmpv_3 (S d) (S d)
    refine ⟨rfl, rfl, rfl, rfl, ?_, ?_, .inr ⟨rfl, ?_, ?_⟩⟩ <;> omega
  · obtain ⟨a1, b1⟩ := CR_lost (mode := 2) he (by omega) hp hs
    obtain ⟨a2, b2⟩ := CR_lost (mode := 1) he (by omega) hp hs
    obtain ⟨-, b3⟩ := CR_lost (mode := mode) he hm hp hs
    rw [b1, b2, b3, decide_eq_true h, decide_eq_true h2, decide_eq_true h1]
    obtain ⟨k2, k1⟩ := sides_cut g hp hs
    rw [a1] at h2 ⊢
    rw [a2] at h1 ⊢
    have k2 := k2 h2
    have k1 := k1 h1
    have c2 := cmpv_3 (S (fin (sgm (ng d) (cq d places 2)) places).d) (S d)
    have c1 := cmpv_3 (S d) (S (fin (sgm (ng d) (cq d places 1)) places).d)
    refine ⟨rfl, rfl, rfl, rfl, ?_, ?_, .inl rfl⟩ <;> omega
end RC
end Go.Proofs.YtnlgkhgighhfjaaDoor

/-
  RoundCutTwice: the walk.
-/
namespace Go.Proofs.YtnlgkhgighhfjaaDoor
set_option linter.unusedVariables false
set_option linter.unusedSimpArgs false
open Go.RowKit
set_option linter.unusedVariables false
set_option linter.unusedSimpArgs false
namespace RC
open L NC NK DC
open Z (Nz Tz cmpv)
theorem all2' {x1 x2 : Int} (h : [x1, x2].all (· == 0) = true) : x1 = 0 ∧ x2 = 0 := by
  simpa [List.all_cons, Bool.and_eq_true] using h
set_option maxRecDepth 100000 in
set_option maxHeartbeats 16000000 in
theorem twice_c (ua : Value) (d : Dy) (places fewer mode : Int) (w : World) (h1 : DV w ua d) (hT : TabD w) :
    Calls Tryd.prog 13 #[ua, .int .i64 places, .int .i64 fewer, .int .i64 mode] w fun e w' => e = .returned (.bool true) ∧ Below w.heap.size w w' := by
  have H1 := h1
  obtain ⟨ba, Aa, na, ca, xa, la, rfl, -⟩ := H1
  have D0 := al1 w (.cells #[.bool ba, .slice Aa na ca, .int .i64 xa] 25)
  have X0 := BX.new w ba Aa na ca xa
  obtain ⟨W0, hW0⟩ : ∃ W0, w.alloc (.cells #[.bool ba, .slice Aa na ca, .int .i64 xa] 25) = W0 := ⟨_, rfl⟩
  rw [hW0] at D0 X0
  have Xa : BD W0 w.heap.size ba Aa na ca xa d := ⟨X0, h1.below D0⟩
  have HT : Hid (∀ W : World, Below W0.heap.size W0 W → TabD W) := fun W hW => (hT.below D0).below hW
  have HW0 := Lib.hid hW0
  have D := Lib.hid (Below.refl W0.heap.size W0)
  have T1 : Hid (∀ (W : World) (u : Value), Below W0.heap.size W0 W → DV W u d → Calls Tryd.prog 43 #[u, .int .i64 places, .int .i64 mode] W (RetCt W (CR d places mode) (CL d places mode))) := fun W u hW hu => Cut_d u d places mode W hu (HT.out W hW)
  have LV : Hid (∀ W : World, Below W0.heap.size W0 W → Calls Tryd.prog 45 #[] W fun e w' => e = .returned (.bool true) ∧ Below W.heap.size W w') := fun W hW => lives_c W (HT.out W hW)
  have G1 := fun e => h1.good e
  have hc : ((CR d places mode).e != 0) = true ∨ (((CR d places mode).e != 0) = false ∧ fewer < -20000) ∨ (((CR d places mode).e != 0) = false ∧ ¬ fewer < -20000 ∧ fewer > places) ∨ ((CR d places mode).e = 0 ∧ ¬ fewer < -20000 ∧ ¬ fewer > places) := by
    by_cases h : (CR d places mode).e = 0
    · have e : ((CR d places mode).e != 0) = false := by simp [h]
      by_cases h2 : fewer < -20000
      · exact .inr (.inl ⟨e, h2⟩)
      · by_cases h3 : fewer > places
        · exact .inr (.inr (.inl ⟨e, h2, h3⟩))
        · exact .inr (.inr (.inr ⟨h, h2, h3⟩))
    · exact .inl (by simp [h])
  rcases hc with hc | ⟨hc, hc2⟩ | ⟨hc, hc2, hc3⟩ | ⟨hc, hc2, hc3⟩
  case inr.inr.inr =>
    obtain ⟨q1, q2⟩ := twice_p (fewer := fewer) G1 hc ⟨by omega, by omega⟩
    have T2 : Hid (∀ (W : World) (u : Value), Below W0.heap.size W0 W → DV W u (CR d places mode).d → Calls Tryd.prog 43 #[u, .int .i64 fewer, .int .i64 mode] W (RetCt W ⟨0, (CR d places mode).d⟩ false)) := fun W u hW hu => by
      have := Cut_d u _ fewer mode W hu (HT.out W hW)
      rwa [q1, q2] at this
    have T3 : Hid (∀ (W : World) (u : Value), Below W0.heap.size W0 W → DV W u d → Calls Tryd.prog 43 #[u, .int .i64 places, .int .i64 2] W (RetCt W (CR d places 2) (CL d places 2))) := fun W u hW hu => Cut_d u d places 2 W hu (HT.out W hW)
    have T4 : Hid (∀ (W : World) (u : Value), Below W0.heap.size W0 W → DV W u d → Calls Tryd.prog 43 #[u, .int .i64 places, .int .i64 1] W (RetCt W (CR d places 1) (CL d places 1))) := fun W u hW hu => Cut_d u d places 1 W hu (HT.out W hW)
    have C1 : Hid (∀ (W : World) (u v : Value), Below W0.heap.size W0 W → DV W u (CR d places 2).d → DV W v d → Calls Tryd.prog 29 #[u, v] W (DC.RetB W (.tuple #[.int .i64 (Cmpn (CR d places 2).d d), .int .i64 (Cmpe (CR d places 2).d d)]))) := fun W u v hW hu hv => Cmp_d u v _ _ W hu hv (HT.out W hW)
    have C2 : Hid (∀ (W : World) (u v : Value), Below W0.heap.size W0 W → DV W u d → DV W v (CR d places 1).d → Calls Tryd.prog 29 #[u, v] W (DC.RetB W (.tuple #[.int .i64 (Cmpn d (CR d places 1).d), .int .i64 (Cmpe d (CR d places 1).d)]))) := fun W u v hW hu hv => Cmp_d u v _ _ W hu hv (HT.out W hW)
    have hfin : [(CR d places 2).e, (CR d places 1).e].all (· == 0) = true → CL d places 2 = CL d places mode ∧ CL d places 1 = CL d places mode ∧ Cmpe (CR d places 2).d d = 0 ∧ Cmpe d (CR d places 1).d = 0 ∧ Cmpn (CR d places 2).d d ≤ 0 ∧ Cmpn d (CR d places 1).d ≤ 0 ∧ (CL d places mode = true ∨ (CL d places mode = false ∧ Cmpn (CR d places 2).d d = 0 ∧ Cmpn d (CR d places 1).d = 0)) := fun h => by
      obtain ⟨a, b⟩ := all2' h
      exact cut_p G1 hc a b
    have GX := CR_good d places mode G1
    have D0 := Lib.hid D0
    generalize Cmpn (CR d places 2).d d = K1 at *
    generalize Cmpe (CR d places 2).d d = E1 at *
    generalize Cmpn d (CR d places 1).d = K2 at *
    generalize Cmpe d (CR d places 1).d = E2 at *
    generalize CR d places mode = r at *
    obtain ⟨re, rd⟩ := r
    simp only at hc
    subst hc
    have GX := Lib.hid GX
    generalize CR d places 2 = r2 at *
    generalize CR d places 1 = r1 at *
    generalize CL d places mode = Lo at *
    generalize CL d places 2 = L2 at *
    generalize CL d places 1 = L1 at *
    obtain ⟨o, ho⟩ : ∃ o, [r2.e, r1.e].all (· == 0) = o := ⟨_, rfl⟩
    rw [ho] at hfin
    have HO := Lib.hid ho
    clear ho G1 h1 hW0 X0 hT q1 q2
    cases o
    · clear hfin C1 C2
      go_enter Tryd.func13, Tryd.ntmps13
      go_wp2_with (first
        | (go_at_call 43; rw [HW0.out]; (with_reducible refine (T1.out _ _ D.out Xa.dv).mono ?_); rintro e w1 ⟨b1, A1, n1, c1, x1, rfl, hv, hb⟩; have s := hb.alloc hb.size (.cells #[.bool b1, .slice A1 n1 c1, .int .i64 x1] 25); have Xa := Xa.below s; have Xx := BD.new hv.dv; have D := Lib.hid (D.out.trans (s.mono D.out.size)); clear hv hb s)
        | (go_at_call 45; (with_reducible refine (LV.out _ D.out).mono ?_); rintro e wl ⟨rfl, hb⟩; have Xa := Xa.below hb; have Xx := Xx.below hb; have D := Lib.hid (D.out.trans (hb.mono D.out.size)); clear hb; obtain ⟨x_0, x_1, x_2⟩ := Xx.bx)
        | (go_at_call 43; (with_reducible refine (T2.out _ _ D.out Xx.dv).mono ?_); rintro e w2 ⟨b2, A2, n2, c2, x2, rfl, hv, hb⟩; have s := hb.alloc hb.size (.cells #[.bool b2, .slice A2 n2 c2, .int .i64 x2] 25); have Xa := Xa.below s; have Xx := Xx.below s; have Xy := BD.new hv.dv; have D := Lib.hid (D.out.trans (s.mono D.out.size)); clear hv hb s; obtain ⟨x_0, x_1, x_2⟩ := Xx.bx)
        | (go_at_call 18; (with_reducible refine (same_true Xx.dv Xy.dv rfl GX.out).mono ?_); rintro e w3 ⟨rfl, hb⟩; have Xa := Xa.below hb; have D := Lib.hid (D.out.trans (hb.mono D.out.size)); clear hb; obtain ⟨a_0, a_1, a_2⟩ := Xa.bx)
        | (go_at_call 43; (with_reducible refine (T3.out _ _ D.out Xa.dv).mono ?_); rintro e w4 ⟨b4, A4, n4, c4, x4, rfl, hv, hb⟩; have s := hb.alloc hb.size (.cells #[.bool b4, .slice A4 n4 c4, .int .i64 x4] 25); have Xa := Xa.below s; have D := Lib.hid (D.out.trans (s.mono D.out.size)); clear hv hb s; obtain ⟨a_0, a_1, a_2⟩ := Xa.bx)
        | (go_at_call 43; (with_reducible refine (T4.out _ _ D.out Xa.dv).mono ?_); rintro e w5 ⟨b5, A5, n5, c5, x5, rfl, hv, hb⟩; have s := hb.alloc hb.size (.cells #[.bool b5, .slice A5 n5 c5, .int .i64 x5] 25); have D := Lib.hid (D.out.trans (s.mono D.out.size)); clear hv hb s)
        | (go_at_call 46; (with_reducible refine (DC.ok2a w5 _ r2.e r1.e false HO.out).mono ?_); rintro e wo ⟨rfl, hw⟩; have s := al1 (w5.alloc (.cells #[.bool b5, .slice A5 n5 c5, .int .i64 x5] 25)) (.cells #[.int .i64 r2.e, .int .i64 r1.e] 26); rw [hw] at s; clear hw; have D := Lib.hid (D.out.trans (s.mono D.out.size)); clear s))
      go_ret
      exact ⟨rfl, D0.out.trans (D.out.mono D0.out.size)⟩
    · obtain ⟨f1, f2, f3, f4, f5, f6, f7⟩ := hfin rfl
      clear hfin
      subst f1
      subst f2
      subst f3
      subst f4
      rcases f7 with rfl | ⟨rfl, rfl, rfl⟩
      all_goals (
        go_enter Tryd.func13, Tryd.ntmps13
        go_wp2_with (first
          | (go_at_call 43; rw [HW0.out]; (with_reducible refine (T1.out _ _ D.out Xa.dv).mono ?_); rintro e w1 ⟨b1, A1, n1, c1, x1, rfl, hv, hb⟩; have s := hb.alloc hb.size (.cells #[.bool b1, .slice A1 n1 c1, .int .i64 x1] 25); have Xa := Xa.below s; have Xx := BD.new hv.dv; have D := Lib.hid (D.out.trans (s.mono D.out.size)); clear hv hb s)
          | (go_at_call 45; (with_reducible refine (LV.out _ D.out).mono ?_); rintro e wl ⟨rfl, hb⟩; have Xa := Xa.below hb; have Xx := Xx.below hb; have D := Lib.hid (D.out.trans (hb.mono D.out.size)); clear hb; obtain ⟨x_0, x_1, x_2⟩ := Xx.bx)
          | (go_at_call 43; (with_reducible refine (T2.out _ _ D.out Xx.dv).mono ?_); rintro e w2 ⟨b2, A2, n2, c2, x2, rfl, hv, hb⟩; have s := hb.alloc hb.size (.cells #[.bool b2, .slice A2 n2 c2, .int .i64 x2] 25); have Xa := Xa.below s; have Xx := Xx.below s; have Xy := BD.new hv.dv; have D := Lib.hid (D.out.trans (s.mono D.out.size)); clear hv hb s; obtain ⟨x_0, x_1, x_2⟩ := Xx.bx)
          | (go_at_call 18; (with_reducible refine (same_true Xx.dv Xy.dv rfl GX.out).mono ?_); rintro e w3 ⟨rfl, hb⟩; have Xa := Xa.below hb; have D := Lib.hid (D.out.trans (hb.mono D.out.size)); clear hb; obtain ⟨a_0, a_1, a_2⟩ := Xa.bx)
          | (go_at_call 43; (with_reducible refine (T3.out _ _ D.out Xa.dv).mono ?_); rintro e w4 ⟨b4, A4, n4, c4, x4, rfl, hv, hb⟩; have s := hb.alloc hb.size (.cells #[.bool b4, .slice A4 n4 c4, .int .i64 x4] 25); have Xa := Xa.below s; have Xl := BD.new hv.dv; have D := Lib.hid (D.out.trans (s.mono D.out.size)); clear hv hb s; obtain ⟨a_0, a_1, a_2⟩ := Xa.bx)
          | (go_at_call 43; (with_reducible refine (T4.out _ _ D.out Xa.dv).mono ?_); rintro e w5 ⟨b5, A5, n5, c5, x5, rfl, hv, hb⟩; have s := hb.alloc hb.size (.cells #[.bool b5, .slice A5 n5 c5, .int .i64 x5] 25); have Xa := Xa.below s; have Xl := Xl.below s; have Xh := BD.new hv.dv; have D := Lib.hid (D.out.trans (s.mono D.out.size)); clear hv hb s)
          | (go_at_call 46; (with_reducible refine (DC.ok2a w5 _ r2.e r1.e true HO.out).mono ?_); rintro e wo ⟨rfl, hw⟩; have s := al1 (w5.alloc (.cells #[.bool b5, .slice A5 n5 c5, .int .i64 x5] 25)) (.cells #[.int .i64 r2.e, .int .i64 r1.e] 26); rw [hw] at s; clear hw; have Xa := Xa.below s; have Xl := Xl.below s; have Xh := Xh.below s; have D := Lib.hid (D.out.trans (s.mono D.out.size)); clear s; obtain ⟨a_0, a_1, a_2⟩ := Xa.bx; obtain ⟨l_0, l_1, l_2⟩ := Xl.bx)
          | (go_at_call 29; (with_reducible refine (C1.out _ _ _ D.out Xl.dv Xa.dv).mono ?_); rintro e w6 ⟨rfl, hb⟩; have Xa := Xa.below hb; have Xh := Xh.below hb; have D := Lib.hid (D.out.trans (hb.mono D.out.size)); clear hb; obtain ⟨a_0, a_1, a_2⟩ := Xa.bx; obtain ⟨h_0, h_1, h_2⟩ := Xh.bx)
          | (go_at_call 29; (with_reducible refine (C2.out _ _ _ D.out Xa.dv Xh.dv).mono ?_); rintro e w7 ⟨rfl, hb⟩; have D := Lib.hid (D.out.trans (hb.mono D.out.size)); clear hb)
          | (go_at_call 46; (with_reducible refine (ok2' w7 0 0 true rfl).mono ?_); rintro e wp ⟨rfl, hw⟩; have s := al1 w7 (.cells #[.int .i64 0, .int .i64 0] 26); rw [hw] at s; clear hw; have D := Lib.hid (D.out.trans (s.mono D.out.size)); clear s))
        go_ret
        exact ⟨rfl, D0.out.trans (D.out.mono D0.out.size)⟩)
  all_goals (
    have D0 := Lib.hid D0
    generalize CR d places mode = r at *
    generalize CL d places mode = Lo at *
    clear G1 h1 hW0 X0 hT
    go_enter Tryd.func13, Tryd.ntmps13
    go_wp2_with (first
      | (go_at_call 43; rw [HW0.out]; (with_reducible refine (T1.out _ _ D.out Xa.dv).mono ?_); rintro e w1 ⟨b1, A1, n1, c1, x1, rfl, hv, hb⟩; have s := hb.alloc hb.size (.cells #[.bool b1, .slice A1 n1 c1, .int .i64 x1] 25); have D := Lib.hid (D.out.trans (s.mono D.out.size)); clear hv hb s)
      | (go_at_call 45; (with_reducible refine (LV.out _ D.out).mono ?_); rintro e wl ⟨rfl, hb⟩; have D := Lib.hid (D.out.trans (hb.mono D.out.size)); clear hb))
    go_ret
    exact ⟨rfl, D0.out.trans (D.out.mono D0.out.size)⟩)
end RC
end Go.Proofs.YtnlgkhgighhfjaaDoor

/-
  RoundParts: what is asked, and the walk.
-/
namespace Go.Proofs.YtnlgkhgighhfjaaDoor
set_option linter.unusedVariables false
set_option linter.unusedSimpArgs false
open Go.RowKit
set_option linter.unusedVariables false
set_option linter.unusedSimpArgs false
namespace RC
open L NC NK DC
open Z (Nz Tz cmpv)
def p1 : Dy := ⟨0, 1, 0⟩
def m1 : Dy := ⟨0, -1, 0⟩
theorem PE_0 {c d : Dy} {mode : Int} (h : PE c d mode = 0) : c.er = 0 ∧ (0 ≤ mode ∧ mode ≤ 4) ∧ (c.m.natAbs : Int) < 4294967296 ^ 390 := by
  unfold PE at h
  by_cases h0 : c.er = 0
  · rw [if_neg (by simpa using h0)] at h
    by_cases h1 : d.er = 0
    · rw [if_neg (by simpa using h1)] at h
      by_cases h2 : (0 ≤ mode ∧ mode ≤ 4) ∧ isdir d = true
      · rw [if_neg (fun h9 => h9 h2)] at h
        by_cases h3 : 4294967296 ^ 390 ≤ (c.m.natAbs : Int)
        · rw [if_pos h3] at h; cases h
        · exact ⟨h0, h2.1, by omega⟩
      · rw [if_pos h2] at h; cases h
    · rw [if_pos h1] at h; exact absurd h h1
  · rw [if_pos h0] at h; exact absurd h h0
theorem sh_tiny {k : Int} (h : k ≤ -1) : sh 1 k = 0 ∧ lo 1 k = true := by
  unfold sh lo
  rw [if_neg (by omega), if_neg (by omega)]
  obtain ⟨n, hn⟩ : ∃ n : Nat, (-k).toNat = n + 1 := ⟨(-k).toNat - 1, by omega⟩
  rw [hn]
  have h1 : (1 : Int) < 2 ^ (n + 1) := by
    have := two_pos' n
    rw [Int.pow_succ]; omega
  rw [Int.ediv_eq_zero_of_lt (by omega) h1, Int.emod_eq_of_lt (by omega) h1]
  exact ⟨rfl, rfl⟩
theorem tow_tiny {x : Int} (hx : x = -10000) : Tow (sc 1 x) 0 false true := by
  have := (tow_near (z := 1) (x := x) (b := 1) (by omega) (by decide) (by decide) (by omega) (by omega) (u := -1074) (by omega)).2
  obtain ⟨e1, e2⟩ := sh_tiny (k := x - -1074 + 1) (by omega)
  rw [e1, e2] at this
  exact this
theorem PX_of {c d : Dy} {mode r : Int} {hf m : Bool} (h : PE c d mode = 0) (t : Tow (sc (az c d) (ax c d)) r hf m) : PX c d mode = rx (bz c d) (ry (bz c d) r hf m mode) ∧ PL c d mode = (hf || m) := by
  have e := tow_eq t
  unfold PX PL YY LL
  rw [if_pos h, if_pos h, e]
  exact ⟨rfl, rfl⟩
theorem parts_p {c : Dy} (hc : Ok c) {mode : Int} (e0 : PE c dz mode = 0) (e1 : PE c p1 mode = 0) (e2 : PE c m1 mode = 0) :
    PX c dz mode = TX c mode ∧ PL c dz mode = TL c mode ∧ PL c p1 mode = true ∧ PL c m1 mode = true ∧ F.rnk (PX c m1 mode) ≤ F.rnk (TX c mode) ∧ F.rnk (TX c mode) ≤ F.rnk (PX c p1 mode) ∧ F.rnk (PX c p1 mode) - F.rnk (PX c m1 mode) ≤ 2 := by
  obtain ⟨-, hm, hs⟩ := PE_0 e0
  obtain ⟨r, hf, m, t, et⟩ := towA hc
  obtain ⟨x1, l1, -⟩ := TX_of hc hm t
  have k := ry_bd (b := ng c) t mode
  have z0 : az c dz = (c.m.natAbs : Int) := by unfold az nz; rw [if_pos (show ((dz.m.natAbs : Nat) : Int) = 0 from rfl)]
  have z1 : ax c dz = c.x := by unfold ax nx; rw [if_pos (show ((dz.m.natAbs : Nat) : Int) = 0 from rfl)]
  have z2 : bz c dz = ng c := by unfold bz nb; rw [if_pos (show ((dz.m.natAbs : Nat) : Int) = 0 from rfl)]
  have t0 : Tow (sc (az c dz) (ax c dz)) r hf m := by rw [z0, z1]; exact t
  obtain ⟨q1, q2⟩ := PX_of e0 t0
  rw [z2] at q1
  refine ⟨by rw [q1, x1], by rw [q2, l1], ?_⟩
  rw [x1, (rx_bd k.1 k.2.1).2.2.2]
  have one1 : (p1.m.natAbs : Int) = 1 := rfl
  have one2 : (m1.m.natAbs : Int) = 1 := rfl
  have g1 : ng p1 = false := rfl
  have g2 : ng m1 = true := rfl
  by_cases h0 : (c.m.natAbs : Int) = 0
  · have a1 : az c p1 = 1 := by unfold az nz; rw [if_neg (by decide), if_pos h0]
    have a2 : az c m1 = 1 := by unfold az nz; rw [if_neg (by decide), if_pos h0]
    have b1 : ax c p1 = -10000 := by unfold ax nx; rw [if_neg (by decide), if_pos h0]
    have b2 : ax c m1 = -10000 := by unfold ax nx; rw [if_neg (by decide), if_pos h0]
    have c1 : bz c p1 = false := by unfold bz nb; rw [if_neg (by decide), if_pos h0]; rfl
    have c2 : bz c m1 = true := by unfold bz nb; rw [if_neg (by decide), if_pos h0]; rfl
    have t1 : Tow (sc (az c p1) (ax c p1)) 0 false true := by rw [a1]; exact tow_tiny b1
    have t2 : Tow (sc (az c m1) (ax c m1)) 0 false true := by rw [a2]; exact tow_tiny b2
    obtain ⟨u1, v1⟩ := PX_of e1 t1
    obtain ⟨u2, v2⟩ := PX_of e2 t2
    rw [c1] at u1
    rw [c2] at u2
    have k1 := ry_bd (b := false) t1 mode
    have k2 := ry_bd (b := true) t2 mode
    rw [u1, u2, v1, v2, (rx_bd k1.1 k1.2.1).2.2.2, (rx_bd k2.1 k2.2.1).2.2.2]
    have hA : A c = 0 := by unfold A; rw [h0]; exact sc_zero.2 rfl
    rw [hA] at t
    obtain ⟨rfl, rfl, rfl⟩ := t.unique tow_zero
    rw [ry_none]
    refine ⟨rfl, rfl, ?_⟩
    cases ng c <;> simp <;> omega
  · have hz : 0 < (c.m.natAbs : Int) := by omega
    have hx := hc.2.2.2.2
    obtain ⟨tU, tD⟩ := tow_nudge (x := c.x) hz (abs_small hc.2.2) (by omega) t
    have b1 : ax c p1 = c.x - 64 := by unfold ax nx; rw [if_neg (by decide), if_neg h0]
    have b2 : ax c m1 = c.x - 64 := by unfold ax nx; rw [if_neg (by decide), if_neg h0]
    have c1 : bz c p1 = ng c := by unfold bz nb; rw [if_neg (by decide), if_neg h0]
    have c2 : bz c m1 = ng c := by unfold bz nb; rw [if_neg (by decide), if_neg h0]
    have nu := nudge_val (c.m.natAbs : Int) c.x (by omega) 1
    have nd := nudge_val (c.m.natAbs : Int) c.x (by omega) (-1)
    rw [Int.one_mul] at nu
    rw [Int.neg_mul, Int.one_mul] at nd
    have hr' : r - 1 ≤ dnr r hf m := by unfold dnr; split <;> omega
    have hεp := sc_one_pos (c.x - 64)
    have kU := ry_bd (b := ng c) tU mode
    have kD := ry_bd (b := ng c) tD mode
    have mU := ry_mono (b := ng c) t tU (show sc (c.m.natAbs : Int) c.x ≤ sc (c.m.natAbs : Int) c.x + sc 1 (c.x - 64) by omega) mode
    have mD := ry_mono (b := ng c) tD t (show sc (c.m.natAbs : Int) c.x - sc 1 (c.x - 64) ≤ sc (c.m.natAbs : Int) c.x by omega) mode
    cases hb : ng c
    · have a1 : az c p1 = (c.m.natAbs : Int) * 18446744073709551616 + 1 := by unfold az nz; rw [if_neg (by decide), if_neg h0, hb, if_pos (show false = ng p1 from rfl)]
      have a2 : az c m1 = (c.m.natAbs : Int) * 18446744073709551616 + -1 := by unfold az nz; rw [if_neg (by decide), if_neg h0, hb, if_neg (by decide)]; rfl
      have t1 : Tow (sc (az c p1) (ax c p1)) r hf true := by rw [a1, b1, nu]; exact tU
      have t2 : Tow (sc (az c m1) (ax c m1)) (dnr r hf m) (dnh hf m) true := by rw [a2, b2, nd]; exact tD
      obtain ⟨u1, v1⟩ := PX_of e1 t1
      obtain ⟨u2, v2⟩ := PX_of e2 t2
      rw [c1, hb] at u1
      rw [c2, hb] at u2
      rw [hb] at kU kD mU mD
      rw [u1, u2, v1, v2, (rx_bd kU.1 kU.2.1).2.2.2, (rx_bd kD.1 kD.2.1).2.2.2]
      refine ⟨by simp, by simp, ?_⟩
      simp only [Bool.false_eq_true, if_false]
      omega
    · have a1 : az c p1 = (c.m.natAbs : Int) * 18446744073709551616 + -1 := by unfold az nz; rw [if_neg (by decide), if_neg h0, hb, if_neg (by decide)]; rfl
      have a2 : az c m1 = (c.m.natAbs : Int) * 18446744073709551616 + 1 := by unfold az nz; rw [if_neg (by decide), if_neg h0, hb, if_pos (show true = ng m1 from rfl)]
      have t1 : Tow (sc (az c p1) (ax c p1)) (dnr r hf m) (dnh hf m) true := by rw [a1, b1, nd]; exact tD
      have t2 : Tow (sc (az c m1) (ax c m1)) r hf true := by rw [a2, b2, nu]; exact tU
      obtain ⟨u1, v1⟩ := PX_of e1 t1
      obtain ⟨u2, v2⟩ := PX_of e2 t2
      rw [c1, hb] at u1
      rw [c2, hb] at u2
      rw [hb] at kU kD mU mD
      rw [u1, u2, v1, v2, (rx_bd kU.1 kU.2.1).2.2.2, (rx_bd kD.1 kD.2.1).2.2.2]
      refine ⟨by simp, by simp, ?_⟩
      simp only [if_true]
      omega
theorem PX_bd (c d : Dy) (mode : Int) (hc : c.er = 0 → Ok c) (hd : isdir d = true) : 0 ≤ PX c d mode ∧ PX c d mode ≤ 18446744073709551615 ∧ F.nn (PX c d mode) := by
  by_cases h : PE c d mode = 0
  · obtain ⟨a, b, hs⟩ := PE_0 h
    obtain ⟨r, hf, m, t, -⟩ := tow_part (hc a) hd hs
    have k := ry_bd (b := bz c d) t mode
    rw [(PX_of h t).1]
    have := rx_bd (b := bz c d) k.1 k.2.1
    exact ⟨this.1, this.2.1, this.2.2.1⟩
  · unfold PX
    rw [if_neg h]
    exact ⟨by omega, by omega, by unfold F.nn; omega⟩
theorem one_dv (W : World) (b : Bool) : DV (W.alloc (.cells #[.int .u32 1] 34)) (.agg #[.bool b, .slice (some ⟨W.heap.size, 0, none⟩) 1 1, .int .i64 0]) (if b = true then m1 else p1) := by
  have hb : inb 1 0 ∧ inb (-1) 0 := ⟨inb_small (by omega), inb_small (by omega)⟩
  have g : GV (W.alloc (.cells #[.int .u32 1] 34)) b (some ⟨W.heap.size, 0, none⟩) 1 1 0 (if b = true then m1 else p1) := by
    refine ⟨⟨[1], Row.sl (L := [1]) (Blk.new W 34 #[.int .u32 1]) 1 (by simp), by intro d hd; simp at hd; omega, by intro h; simp, ?_⟩, ?_, ?_, ?_, ?_, ?_⟩
    · cases b <;> simp [lv, p1, m1]
    · cases b <;> simp [p1, m1]
    · cases b <;> rfl
    · cases b <;> rfl
    · cases b
      · exact .inr (by decide)
      · exact .inr (by decide)
    · cases b
      · exact hb.1
      · exact hb.2
  exact g.dv
theorem zero_dv (W : World) : DV W (.agg #[.bool false, .slice none 0 0, .int .i64 0]) dz := (GV.zero W).dv
theorem ok4' (W : World) (x1 x2 x3 x4 : Int) (o : Bool) (ho : [x1, x2, x3, x4].all (· == 0) = o) : Calls Tryd.prog 46 #[.slice (some ⟨W.heap.size, 0, none⟩) 4 4] (W.alloc (.cells #[.int .i64 x1, .int .i64 x2, .int .i64 x3, .int .i64 x4] 26)) fun e w' => e = .returned (.bool o) ∧ W.alloc (.cells #[.int .i64 x1, .int .i64 x2, .int .i64 x3, .int .i64 x4] 26) = w' := by
  have h1 := ok_lit W [x1, x2, x3, x4] (by simp)
  rw [ho] at h1
  exact h1
end RC
end Go.Proofs.YtnlgkhgighhfjaaDoor

/-
  RoundParts: the walk.
-/
namespace Go.Proofs.YtnlgkhgighhfjaaDoor
set_option linter.unusedVariables false
set_option linter.unusedSimpArgs false
open Go.RowKit
set_option linter.unusedVariables false
set_option linter.unusedSimpArgs false
namespace RC
open L NC NK DC
open Z (Nz Tz cmpv)
theorem all4' {x1 x2 x3 x4 : Int} (h : [x1, x2, x3, x4].all (· == 0) = true) : x1 = 0 ∧ x2 = 0 ∧ x3 = 0 ∧ x4 = 0 := by
  simpa [List.all_cons, Bool.and_eq_true] using h
set_option maxRecDepth 100000 in
set_option maxHeartbeats 16000000 in
theorem parts_c (ua : Value) (d : Dy) (mode : Int) (w : World) (h1 : DV w ua d) (hT : TabD w) :
    Calls Tryd.prog 12 #[ua, .int .i64 mode] w fun e w' => e = .returned (.bool true) ∧ Below w.heap.size w w' := by
  have H1 := h1
  obtain ⟨ba, Aa, na, ca, xa, la, rfl, -⟩ := H1
  have D0 := al1 w (.cells #[.bool ba, .slice Aa na ca, .int .i64 xa] 25)
  have X0 := BX.new w ba Aa na ca xa
  obtain ⟨W0, hW0⟩ : ∃ W0, w.alloc (.cells #[.bool ba, .slice Aa na ca, .int .i64 xa] 25) = W0 := ⟨_, rfl⟩
  rw [hW0] at D0 X0
  have Xa : BD W0 w.heap.size ba Aa na ca xa d := ⟨X0, h1.below D0⟩
  have HT : Hid (∀ W : World, Below W0.heap.size W0 W → TabD W) := fun W hW => (hT.below D0).below hW
  have HW0 := Lib.hid hW0
  have D := Lib.hid (Below.refl W0.heap.size W0)
  have T1 : Hid (∀ (W : World) (u : Value), Below W0.heap.size W0 W → DV W u d → Calls Tryd.prog 40 #[u, .int .i64 mode] W (DC.RetB W (.tuple #[.int .u64 (TX d mode), .bool (TL d mode), .int .i64 (TE d mode)]))) := fun W u hW hu => To_d u _ mode W hu (HT.out W hW)
  have P0 : Hid (∀ (W : World) (u : Value), Below W0.heap.size W0 W → DV W u d → Calls Tryd.prog 41 #[u, .agg #[.bool false, .slice none 0 0, .int .i64 0], .int .i64 mode] W (DC.RetB W (.tuple #[.int .u64 (PX d dz mode), .bool (PL d dz mode), .int .i64 (PE d dz mode)]))) := fun W u hW hu => Part_d u _ d dz mode W hu (zero_dv W) (HT.out W hW)
  have Q1 : Hid (∀ (W : World) (u : Value), Below W0.heap.size W0 W → DV W u d → Calls Tryd.prog 41 #[u, .agg #[.bool false, .slice (some ⟨W.heap.size, 0, none⟩) 1 1, .int .i64 0], .int .i64 mode] (W.alloc (.cells #[.int .u32 1] 34)) (DC.RetB (W.alloc (.cells #[.int .u32 1] 34)) (.tuple #[.int .u64 (PX d p1 mode), .bool (PL d p1 mode), .int .i64 (PE d p1 mode)]))) := fun W u hW hu =>
    Part_d u _ d p1 mode _ (hu.below (al1 W _)) (one_dv W false) (HT.out _ (hW.alloc hW.size _))
  have Q2 : Hid (∀ (W : World) (u : Value), Below W0.heap.size W0 W → DV W u d → Calls Tryd.prog 41 #[u, .agg #[.bool true, .slice (some ⟨W.heap.size, 0, none⟩) 1 1, .int .i64 0], .int .i64 mode] (W.alloc (.cells #[.int .u32 1] 34)) (DC.RetB (W.alloc (.cells #[.int .u32 1] 34)) (.tuple #[.int .u64 (PX d m1 mode), .bool (PL d m1 mode), .int .i64 (PE d m1 mode)]))) := fun W u hW hu =>
    Part_d u _ d m1 mode _ (hu.below (al1 W _)) (one_dv W true) (HT.out _ (hW.alloc hW.size _))
  have LV : Hid (∀ W : World, Below W0.heap.size W0 W → Calls Tryd.prog 45 #[] W fun e w' => e = .returned (.bool true) ∧ Below W.heap.size W w') := fun W hW => lives_c W (HT.out W hW)
  have B1 := TX_bd d mode fun e => h1.good e
  have B2 := PX_bd d p1 mode (fun e => h1.good e) (by decide)
  have B3 := PX_bd d m1 mode (fun e => h1.good e) (by decide)
  have R1 : Hid (∀ W : World, Calls Tryd.prog 47 #[.int .u64 (TX d mode)] W fun e w' => e = .returned (.tuple #[.int .i64 (F.rnk (TX d mode)), .int .i64 0]) ∧ W = w') := fun W => Rank_w B1 W
  have R2 : Hid (∀ W : World, Calls Tryd.prog 47 #[.int .u64 (PX d p1 mode)] W fun e w' => e = .returned (.tuple #[.int .i64 (F.rnk (PX d p1 mode)), .int .i64 0]) ∧ W = w') := fun W => Rank_w B2 W
  have R3 : Hid (∀ W : World, Calls Tryd.prog 47 #[.int .u64 (PX d m1 mode)] W fun e w' => e = .returned (.tuple #[.int .i64 (F.rnk (PX d m1 mode)), .int .i64 0]) ∧ W = w') := fun W => Rank_w B3 W
  have D0 := Lib.hid D0
  have G1 := fun e => h1.good e
  have hfin : [TE d mode, PE d dz mode, PE d p1 mode, PE d m1 mode].all (· == 0) = true → PX d dz mode = TX d mode ∧ PL d dz mode = TL d mode ∧ PL d p1 mode = true ∧ PL d m1 mode = true ∧ F.rnk (PX d m1 mode) ≤ F.rnk (TX d mode) ∧ F.rnk (TX d mode) ≤ F.rnk (PX d p1 mode) ∧ F.rnk (PX d p1 mode) - F.rnk (PX d m1 mode) ≤ 2 := fun h => by
    obtain ⟨a1, a2, a3, a4⟩ := all4' h
    exact parts_p (G1 (TE_0 a1).1) a2 a3 a4
  obtain ⟨o, ho⟩ : ∃ o, [TE d mode, PE d dz mode, PE d p1 mode, PE d m1 mode].all (· == 0) = o := ⟨_, rfl⟩
  rw [ho] at hfin
  have HO := Lib.hid ho
  clear ho G1 h1 hW0 X0 hT B1 B2 B3
  generalize TE d mode = E1 at *
  generalize PE d dz mode = E2 at *
  generalize PE d p1 mode = E3 at *
  generalize PE d m1 mode = E4 at *
  cases o
  · clear hfin
    go_enter Tryd.func12, Tryd.ntmps12
    go_wp2_with (first
      | (go_at_call 40; rw [HW0.out]; (with_reducible refine (T1.out _ _ D.out Xa.dv).mono ?_); rintro e w1 ⟨rfl, hb⟩; have Xa := Xa.below hb; have D := Lib.hid (D.out.trans (hb.mono D.out.size)); clear hb; obtain ⟨a_0, a_1, a_2⟩ := Xa.bx)
      | (go_at_call 41; (with_reducible refine (P0.out _ _ D.out Xa.dv).mono ?_); rintro e w2 ⟨rfl, hb⟩; have Xa := Xa.below hb; have D := Lib.hid (D.out.trans (hb.mono D.out.size)); clear hb; obtain ⟨a_0, a_1, a_2⟩ := Xa.bx)
      | (go_at_call 41; (with_reducible refine (Q1.out w2 _ D.out Xa.dv).mono ?_); rintro e w3 ⟨rfl, hb⟩; have s := (al1 w2 (.cells #[.int .u32 1] 34)).trans (hb.mono (by simp)); have Xa := Xa.below s; have D := Lib.hid (D.out.trans (s.mono D.out.size)); clear hb s; obtain ⟨a_0, a_1, a_2⟩ := Xa.bx)
      | (go_at_call 41; (with_reducible refine (Q2.out w3 _ D.out Xa.dv).mono ?_); rintro e w4 ⟨rfl, hb⟩; have s := (al1 w3 (.cells #[.int .u32 1] 34)).trans (hb.mono (by simp)); have Xa := Xa.below s; have D := Lib.hid (D.out.trans (s.mono D.out.size)); clear hb s)
      | (go_at_call 45; (with_reducible refine (LV.out _ D.out).mono ?_); rintro e wl ⟨rfl, hb⟩; have D := Lib.hid (D.out.trans (hb.mono D.out.size)); clear hb)
      | (go_at_call 46; (with_reducible refine (ok4' wl E1 E2 E3 E4 false HO.out).mono ?_); rintro e wo ⟨rfl, hw⟩; have s := al1 wl (.cells #[.int .i64 E1, .int .i64 E2, .int .i64 E3, .int .i64 E4] 26); rw [hw] at s; clear hw; have D := Lib.hid (D.out.trans (s.mono D.out.size)); clear s)
      | (go_at_call 45; (with_reducible refine (LV.out _ D.out).mono ?_); rintro e wm ⟨rfl, hb⟩; have D := Lib.hid (D.out.trans (hb.mono D.out.size)); clear hb))
    go_ret
    exact ⟨rfl, D0.out.trans (D.out.mono D0.out.size)⟩
  · obtain ⟨f1, f2, f3, f4, f5, f6, f7⟩ := hfin rfl
    rw [f1, f2] at P0
    rw [f3] at Q1
    rw [f4] at Q2
    clear hfin f1 f2 f3 f4
    generalize F.rnk (TX d mode) = n2 at *
    generalize F.rnk (PX d p1 mode) = n3 at *
    generalize F.rnk (PX d m1 mode) = n1 at *
    generalize TX d mode = y2 at *
    generalize PX d p1 mode = y3 at *
    generalize PX d m1 mode = y1 at *
    generalize TL d mode = Lo at *
    have i1 : IntKind.i64.wrap (n3 - n1) = n3 - n1 := IntWalk.i64_in _ (by omega)
    go_enter Tryd.func12, Tryd.ntmps12
    go_wp2_with (first
      | (go_at_call 40; rw [HW0.out]; (with_reducible refine (T1.out _ _ D.out Xa.dv).mono ?_); rintro e w1 ⟨rfl, hb⟩; have Xa := Xa.below hb; have D := Lib.hid (D.out.trans (hb.mono D.out.size)); clear hb; obtain ⟨a_0, a_1, a_2⟩ := Xa.bx)
      | (go_at_call 41; (with_reducible refine (P0.out _ _ D.out Xa.dv).mono ?_); rintro e w2 ⟨rfl, hb⟩; have Xa := Xa.below hb; have D := Lib.hid (D.out.trans (hb.mono D.out.size)); clear hb; obtain ⟨a_0, a_1, a_2⟩ := Xa.bx)
      | (go_at_call 41; (with_reducible refine (Q1.out w2 _ D.out Xa.dv).mono ?_); rintro e w3 ⟨rfl, hb⟩; have s := (al1 w2 (.cells #[.int .u32 1] 34)).trans (hb.mono (by simp)); have Xa := Xa.below s; have D := Lib.hid (D.out.trans (s.mono D.out.size)); clear hb s; obtain ⟨a_0, a_1, a_2⟩ := Xa.bx)
      | (go_at_call 41; (with_reducible refine (Q2.out w3 _ D.out Xa.dv).mono ?_); rintro e w4 ⟨rfl, hb⟩; have s := (al1 w3 (.cells #[.int .u32 1] 34)).trans (hb.mono (by simp)); have Xa := Xa.below s; have D := Lib.hid (D.out.trans (s.mono D.out.size)); clear hb s)
      | (go_at_call 45; (with_reducible refine (LV.out _ D.out).mono ?_); rintro e wl ⟨rfl, hb⟩; have D := Lib.hid (D.out.trans (hb.mono D.out.size)); clear hb)
      | (go_at_call 46; (with_reducible refine (ok4' wl E1 E2 E3 E4 true HO.out).mono ?_); rintro e wo ⟨rfl, hw⟩; have s := al1 wl (.cells #[.int .i64 E1, .int .i64 E2, .int .i64 E3, .int .i64 E4] 26); rw [hw] at s; clear hw; have D := Lib.hid (D.out.trans (s.mono D.out.size)); clear s)
      | (go_at_call 47; (with_reducible refine (R3.out _).mono ?_); rintro e w7 ⟨rfl, rfl⟩)
      | (go_at_call 47; (with_reducible refine (R1.out _).mono ?_); rintro e w8 ⟨rfl, rfl⟩)
      | (go_at_call 47; (with_reducible refine (R2.out _).mono ?_); rintro e w9 ⟨rfl, rfl⟩)
      | (go_at_call 46; (with_reducible refine (DC.ok3 wo 0 0 0 true rfl).mono ?_); rintro e wp ⟨rfl, hw⟩; have s := al1 wo (.cells #[.int .i64 0, .int .i64 0, .int .i64 0] 26); rw [hw] at s; clear hw; have D := Lib.hid (D.out.trans (s.mono D.out.size)); clear s))
    go_ret
    exact ⟨rfl, D0.out.trans (D.out.mono D0.out.size)⟩
end RC
end Go.Proofs.YtnlgkhgighhfjaaDoor

/-
  RoundTurned: the walk.
-/
namespace Go.Proofs.YtnlgkhgighhfjaaDoor
set_option linter.unusedVariables false
set_option linter.unusedSimpArgs false
open Go.RowKit
set_option linter.unusedVariables false
set_option linter.unusedSimpArgs false
namespace RC
open L NC NK DC
open Z (Nz Tz cmpv)
theorem dv_gv {w : World} {b A n c x d} (h : DV w (.agg #[.bool b, .slice A n c, .int .i64 x]) d) (e : d.er = 0) : GV w b A n c x d := by
  obtain ⟨b', A', n', c', x', l, he, -, -, -, -, g, -⟩ := h
  simp only [Value.agg.injEq, Array.mk.injEq, List.cons.injEq, Value.bool.injEq, Value.slice.injEq, Value.int.injEq, and_true, true_and] at he
  obtain ⟨rfl, ⟨rfl, rfl, rfl⟩, rfl⟩ := he
  exact g e
set_option maxRecDepth 100000 in
set_option maxHeartbeats 16000000 in
theorem turned_c (ua : Value) (d : Dy) (mode : Int) (w : World) (h1 : DV w ua d) (hT : TabD w) :
    Calls Tryd.prog 11 #[ua, .int .i64 mode] w fun e w' => e = .returned (.bool true) ∧ Below w.heap.size w w' := by
  have H1 := h1
  obtain ⟨ba, Aa, na, ca, xa, la, rfl, -⟩ := H1
  have D0 := al1 w (.cells #[.bool ba, .slice Aa na ca, .int .i64 xa] 25)
  have X0 := BX.new w ba Aa na ca xa
  obtain ⟨W0, hW0⟩ : ∃ W0, w.alloc (.cells #[.bool ba, .slice Aa na ca, .int .i64 xa] 25) = W0 := ⟨_, rfl⟩
  rw [hW0] at D0 X0
  have Xa : BD W0 w.heap.size ba Aa na ca xa d := ⟨X0, h1.below D0⟩
  have HT : Hid (∀ W : World, Below W0.heap.size W0 W → TabD W) := fun W hW => (hT.below D0).below hW
  have HW0 := Lib.hid hW0
  have D := Lib.hid (Below.refl W0.heap.size W0)
  have T1 : Hid (∀ (W : World) (u : Value), Below W0.heap.size W0 W → DV W u d → Calls Tryd.prog 40 #[u, .int .i64 mode] W (DC.RetB W (.tuple #[.int .u64 (TX d mode), .bool (TL d mode), .int .i64 (TE d mode)]))) := fun W u hW hu => To_d u _ mode W hu (HT.out W hW)
  have LV : Hid (∀ W : World, Below W0.heap.size W0 W → Calls Tryd.prog 45 #[] W fun e w' => e = .returned (.bool true) ∧ Below W.heap.size W w') := fun W hW => lives_c W (HT.out W hW)
  have B1 := TX_bd d mode fun e => h1.good e
  have NG : Hid (∀ W : World, Calls Tryd.prog 48 #[.int .u64 (TX d mode)] W fun e w' => e = .returned (.int .u64 (F.neg (TX d mode))) ∧ W = w') := fun W => FloatC.Neg_c _ B1.1 B1.2.1 W
  have D0 := Lib.hid D0
  have G1 := fun e => h1.good e
  have GG : Hid (d.er = 0 → ∀ W, Below W0.heap.size W0 W → GV W ba Aa na ca xa d) := fun e W hW => ((dv_gv h1 e).below D0.out).below hW
  clear hW0 X0 hT B1 h1
  by_cases h0 : TE d mode = 0
  · have k := TE_0 h0
    rw [h0] at T1
    by_cases hn : na = 0
    · have hn1 : ((na : Int) == 0) = true := by simp [hn]
      generalize TX d mode = y at *
      generalize TL d mode = Lo at *
      clear GG G1 NG h0 k hn
      go_enter Tryd.func11, Tryd.ntmps11
      go_wp2_with (first
        | (go_at_call 40; rw [HW0.out]; (with_reducible refine (T1.out _ _ D.out Xa.dv).mono ?_); rintro e w1 ⟨rfl, hb⟩; have Xa := Xa.below hb; have D := Lib.hid (D.out.trans (hb.mono D.out.size)); clear hb)
        | (go_at_call 45; (with_reducible refine (LV.out _ D.out).mono ?_); rintro e wl ⟨rfl, hb⟩; have Xa := Xa.below hb; have D := Lib.hid (D.out.trans (hb.mono D.out.size)); clear hb; obtain ⟨a_0, a_1, a_2⟩ := Xa.bx))
      go_ret
      exact ⟨rfl, D0.out.trans (D.out.mono D0.out.size)⟩
    · have hn1 : ((na : Int) == 0) = false := by simp [hn]
      have hm0 : d.m ≠ 0 := fun hm => hn ((gv_zero (GG.out k.1 _ (Below.refl _ _))).2 hm)
      obtain ⟨k1, k2, k3, k4⟩ := turned_p (G1 k.1) hm0 k.2
      have T2 : Hid (∀ (W : World) (u : Value), Below W0.heap.size W0 W → DV W u (neg d) → Calls Tryd.prog 40 #[u, .int .i64 (tm mode)] W (DC.RetB W (.tuple #[.int .u64 (F.neg (TX d mode)), .bool (TL d mode), .int .i64 0]))) := fun W u hW hu => by
        have := To_d u _ (tm mode) W hu (HT.out W hW)
        rwa [k2, k3, k4] at this
      have GN : Hid (∀ W, Below W0.heap.size W0 W → DV W (.agg #[.bool (!ba), .slice Aa na ca, .int .i64 xa]) (neg d)) := fun W hW =>
        (gv_neg (GG.out k.1 W hW) (by simp [hn])).dv
      generalize TX d mode = y at *
      generalize F.neg y = y2 at *
      generalize TL d mode = Lo at *
      have hm3 : (mode = 1 ∧ tm mode = 2) ∨ ((mode == 1) = false ∧ mode = 2 ∧ tm mode = 1) ∨ ((mode == 1) = false ∧ (mode == 2) = false ∧ tm mode = mode) := by
        unfold tm
        by_cases m1 : mode = 1
        · exact .inl ⟨m1, by rw [if_pos m1]⟩
        · by_cases m2 : mode = 2
          · exact .inr (.inl ⟨by simp [m1], m2, by rw [if_neg m1, if_pos m2]⟩)
          · exact .inr (.inr ⟨by simp [m1], by simp [m2], by rw [if_neg m1, if_neg m2]⟩)
      clear GG G1 h0 k hn hm0 k1 k2 k3 k4
      rcases hm3 with ⟨rfl, hm⟩ | ⟨m1, rfl, hm⟩ | ⟨m1, m2, hm⟩ <;> rw [hm] at T2 <;> clear hm
      all_goals (
        go_enter Tryd.func11, Tryd.ntmps11
        go_wp2_with (first
          | (go_at_call 40; rw [HW0.out]; (with_reducible refine (T1.out _ _ D.out Xa.dv).mono ?_); rintro e w1 ⟨rfl, hb⟩; have Xa := Xa.below hb; have D := Lib.hid (D.out.trans (hb.mono D.out.size)); clear hb)
          | (go_at_call 45; (with_reducible refine (LV.out _ D.out).mono ?_); rintro e wl ⟨rfl, hb⟩; have Xa := Xa.below hb; have D := Lib.hid (D.out.trans (hb.mono D.out.size)); clear hb; obtain ⟨a_0, a_1, a_2⟩ := Xa.bx; have D := Lib.hid (D.out.alloc D.out.size (.cells #[.bool (!ba), .slice Aa na ca, .int .i64 xa] 25)))
          | (go_at_call 40; (with_reducible refine (T2.out _ _ D.out (GN.out _ D.out)).mono ?_); rintro e w2 ⟨rfl, hb⟩; have D := Lib.hid (D.out.trans (hb.mono D.out.size)); clear hb)
          | (go_at_call 48; (with_reducible refine (NG.out _).mono ?_); rintro e w7 ⟨rfl, rfl⟩))
        go_ret
        exact ⟨by simp, D0.out.trans (D.out.mono D0.out.size)⟩)
  · have hz : (TE d mode != 0) = true := by simp [h0]
    generalize TX d mode = y at *
    generalize TL d mode = Lo at *
    generalize TE d mode = E at *
    clear GG G1 NG h0
    go_enter Tryd.func11, Tryd.ntmps11
    go_wp2_with (first
      | (go_at_call 40; rw [HW0.out]; (with_reducible refine (T1.out _ _ D.out Xa.dv).mono ?_); rintro e w1 ⟨rfl, hb⟩; have Xa := Xa.below hb; have D := Lib.hid (D.out.trans (hb.mono D.out.size)); clear hb)
      | (go_at_call 45; (with_reducible refine (LV.out _ D.out).mono ?_); rintro e wl ⟨rfl, hb⟩; have Xa := Xa.below hb; have D := Lib.hid (D.out.trans (hb.mono D.out.size)); clear hb))
    go_ret
    exact ⟨rfl, D0.out.trans (D.out.mono D0.out.size)⟩
end RC
end Go.Proofs.YtnlgkhgighhfjaaDoor

/-
  DyadBack: the walk.
-/
namespace Go.Proofs.YtnlgkhgighhfjaaDoor
set_option linter.unusedVariables false
set_option linter.unusedSimpArgs false
open Go.RowKit
set_option linter.unusedVariables false
namespace DC
open L NC NK
open Z (Nz Tz cmpv)
theorem sub_ok' {a b : Dy} (h : (Sub a b).e = 0) (ga : a.er = 0 → Ok a) (gb : b.er = 0 → Ok b) : a.er = 0 ∧ b.er = 0 ∧ S (Sub a b).d = S a - S b := by
  unfold Sub at h ⊢
  by_cases h0 : ee a.er b.er = 0
  · rw [if_neg (by simpa using h0)] at h ⊢
    have h1 := ee0.1 h0
    have ga := ga h1.1
    have gb := gb h1.2
    have x1 := ga.2.2.2.2.1
    have x2 := gb.2.2.2.2.1
    refine ⟨h1.1, h1.2, ?_⟩
    unfold sum at h ⊢
    unfold S
    have ex : (neg b).x = b.x := rfl
    rw [fin_sc (by omega) h, sc_add, sc_lv2 a (neg b) (by omega)]
    have := sc_lv2 (neg b) a (by omega)
    rw [Int.min_comm (neg b).x a.x] at this
    rw [this]
    show sc a.m a.x + sc (-b.m) b.x = _
    rw [sc_neg]; omega
  · rw [if_pos (by simpa using h0)] at h
    exact absurd h h0
theorem sub_good (a b : Dy) : Ok (Sub a b).d := by
  unfold Sub
  split
  · exact ok_dz
  · exact fin_ok _ _
theorem back_d {a b : Dy} (ga : a.er = 0 → Ok a) (gb : b.er = 0 → Ok b) (h1 : (Add a b).e = 0) (h2 : (Sub (Add a b).d b).e = 0) : (Sub (Add a b).d b).d = a := by
  have h := add_ok h1 ga gb
  apply S_inj (sub_good _ _) (ga h.1)
  rw [(sub_ok' h2 (fun _ => add_good _ _) gb).2.2, h.2.2]; omega
theorem none_d {a : Dy} (h : a.er = 0) : Sub a a = ⟨0, dz⟩ := by
  unfold Sub sum
  rw [if_neg (by rw [h]; decide)]
  have : lv2 a (neg a) + lv2 (neg a) a = 0 := by
    unfold lv2
    show a.m * 2 ^ (a.x - min a.x a.x).toNat + -a.m * 2 ^ (a.x - min a.x a.x).toNat = 0
    rw [Int.neg_mul]; omega
  rw [this, fin_zero]
theorem sub_er {a : Dy} (h : a.er ≠ 0) (b : Dy) : (Sub a b).e ≠ 0 ∧ (Add a b).e ≠ 0 := by
  have : ee a.er b.er ≠ 0 := fun e => h (ee0.1 e).1
  unfold Sub Add
  rw [if_pos this, if_pos this]
  exact ⟨this, this⟩
theorem shf_val {a : Dy} {n : Int} (h0 : a.er = 0) (hn : ¬ (n < -20000 ∨ 20000 < n)) : Shf a n = fin a.m (a.x + n) := by
  unfold Shf
  rw [if_neg (by simpa using h0), if_neg hn]
theorem shf_ok {a : Dy} {n : Int} (h0 : a.er = 0) (ga : Ok a) (h : (Shf a n).e = 0) : -20000 ≤ n ∧ n ≤ 20000 ∧ Shf (Shf a n).d (-n) = ⟨0, a⟩ := by
  by_cases hn : n < -20000 ∨ 20000 < n
  · unfold Shf at h
    rw [if_neg (by simpa using h0), if_pos hn] at h; cases h
  · rw [shf_val h0 hn] at h ⊢
    refine ⟨by omega, by omega, ?_⟩
    rw [shf_val (fin_good _ _).2.1 (by omega)]
    by_cases hm : a.m = 0
    · have hx : a.x = 0 := by have := ga.2.1; unfold can at this; omega
      rw [hm, fin_zero]
      show fin 0 _ = _
      rw [fin_zero]
      have : a = dz := Dy.ext' h0 hm hx
      rw [this]
    · have ho : a.m % 2 = 1 := by have := ga.2.1; unfold can at this; omega
      have e : fin a.m (a.x + n) = if inb a.m (a.x + n + (0 : Nat)) then ⟨0, 0, a.m, a.x + n + (0 : Nat)⟩ else ⟨2, dz⟩ := fin_of (k := 0) (by simp) ho
      rw [e] at h ⊢
      by_cases hi : inb a.m (a.x + n + (0 : Nat))
      · rw [if_pos hi]
        show fin a.m (a.x + n + (0 : Nat) + -n) = _
        rw [show a.x + n + ((0 : Nat) : Int) + -n = a.x by simp; omega]
        exact fin_self h0 (fun _ => ⟨ga.2.1, ga.2.2⟩)
      · rw [if_neg hi] at h; cases h
end DC
end Go.Proofs.YtnlgkhgighhfjaaDoor

/-
  RoundNear: what is asked, and the walk.
-/
namespace Go.Proofs.YtnlgkhgighhfjaaDoor
set_option linter.unusedVariables false
set_option linter.unusedSimpArgs false
open Go.RowKit
set_option linter.unusedVariables false
set_option linter.unusedSimpArgs false
namespace RC
open L NC NK DC
open Z (Nz Tz cmpv)
/-- without its sign -/
def ab (d : Dy) : Dy := ⟨d.er, (d.m.natAbs : Int), d.x⟩
theorem gv_ab {w : World} {b A n c x d} (h : GV w b A n c x d) : GV w false A n c x (ab d) := by
  obtain ⟨h1, hb, hx, he, hc, hi⟩ := h
  refine ⟨?_, ?_, hx, he, ?_, ?_⟩
  · show NV w _ (((d.m.natAbs : Int).natAbs : Nat) : Int)
    rw [Int.natAbs_natCast]; exact h1
  · show false = decide ((d.m.natAbs : Int) < 0)
    symm; rw [decide_eq_false_iff_not]; omega
  · unfold can at *
    show ((d.m.natAbs : Int) = 0 ∧ d.x = 0) ∨ (d.m.natAbs : Int) % 2 = 1
    omega
  · unfold inb at *
    show (d.m.natAbs : Int) < _ ∧ _ < (d.m.natAbs : Int) ∧ -10000 ≤ d.x ∧ d.x ≤ 10000
    generalize (4294967296 : Int) ^ 400 = c400 at *
    omega
theorem ab_ok {d : Dy} (h : Ok d) : Ok (ab d) := by
  obtain ⟨he, hc, hi⟩ := h
  refine ⟨he, ?_, ?_⟩
  · unfold can at *
    show ((d.m.natAbs : Int) = 0 ∧ d.x = 0) ∨ (d.m.natAbs : Int) % 2 = 1
    omega
  · unfold inb at *
    show (d.m.natAbs : Int) < _ ∧ _ < (d.m.natAbs : Int) ∧ -10000 ≤ d.x ∧ d.x ≤ 10000
    generalize (4294967296 : Int) ^ 400 = c400 at *
    omega
theorem S_ab (d : Dy) : S (ab d) = A d := rfl
/-- of all that have a value the nearest -/
theorem near_u {a r s : Int} {hf m b o : Bool} {mode : Int} (t : Tow a r hf m) (hm : mode = 0 ∨ mode = 4) (hY : (if up b o hf m mode = true then r + 1 else r) ≤ 9218868437227405311) (h0 : 0 ≤ s) (h1 : s ≤ 9218868437227405311) (ho : o = decide (r % 2 = 1)) :
    (a - U (if up b o hf m mode = true then r + 1 else r) ≤ a - U s ∨ a - U (if up b o hf m mode = true then r + 1 else r) ≤ U s - a) ∧ (U (if up b o hf m mode = true then r + 1 else r) - a ≤ a - U s ∨ U (if up b o hf m mode = true then r + 1 else r) - a ≤ U s - a) ∧
    a - U (if up b o hf m mode = true then r + 1 else r) ≤ a ∧ U (if up b o hf m mode = true then r + 1 else r) - a ≤ a := by
  have g := U_lt t.r0 (show r < r + 1 by omega)
  have r0 := t.r0
  have r1 := t.r1
  have lo1 := t.lo
  have hi1 := t.hi
  have q1 := t.hh
  have q2 := t.hm
  have p0 := U_pos r0
  have ps := U_pos h0
  have c : s ≤ r → U s ≤ U r := fun h => U_le h0 h
  have c2 : r + 1 ≤ s → U (r + 1) ≤ U s := fun h => U_le (by omega) h
  have e1 : hf = true ↔ U r + U (r + 1) ≤ 2 * a := by rw [q1, decide_eq_true_iff]
  have e2 : m = true ↔ a ≠ U r ∧ 2 * a ≠ U r + U (r + 1) := by rw [q2, decide_eq_true_iff]
  clear q1 q2
  by_cases hu : up b o hf m mode = true
  · rw [if_pos hu] at hY ⊢
    have hh : hf = true := by
      unfold up at hu
      rcases hm with rfl | rfl <;> cases hf <;> cases m <;> simp_all
    have k := e1.1 hh
    have k2 := hi1 (by omega)
    rcases Int.lt_or_le r s with h | h
    · have := c2 (by omega); omega
    · have := c h; omega
  · rw [if_neg hu] at hY ⊢
    have hh : hf = false ∨ 2 * a = U r + U (r + 1) := by
      unfold up at hu
      rcases hm with rfl | rfl
      · cases hf
        · exact .inl rfl
        · right
          have : m = false := by cases m; rfl; simp at hu
          have k := e1.1 rfl
          subst this
          have k2 : ¬ (a ≠ U r ∧ 2 * a ≠ U r + U (r + 1)) := fun h => by have := e2.2 h; cases this
          omega
      · cases hf
        · exact .inl rfl
        · simp at hu
    have k : 2 * a ≤ U r + U (r + 1) := by
      rcases hh with h | h
      · have : ¬ U r + U (r + 1) ≤ 2 * a := fun h2 => by rw [e1.2 h2] at h; cases h
        omega
      · omega
    rcases Int.lt_or_le r s with h | h
    · have := c2 (by omega); omega
    · have := c h; omega
theorem rx_mod {b : Bool} {y : Int} (h0 : 0 ≤ y) (h1 : y ≤ 9218868437227405312) : rx b y % 9223372036854775808 = y ∧ F.sgn (rx b y) = b := by
  unfold rx F.neg F.sgn
  cases b
  · simp; omega
  · simp; rw [if_pos (by omega)]; omega
theorem OfD_e {x : Int} (h : (OfD x).e = 0) : F.exq x ≠ 2047 := fun h2 => by
  unfold OfD at h; rw [if_pos h2] at h; cases h
theorem near_p {d : Dy} {mode y : Int} (hd : Ok d) (hm : mode = 0 ∨ mode = 4) (y0 : 0 ≤ y) (y1 : y ≤ 18446744073709551615) (hf : (OfD (TX d mode)).e = 0) (hg : (OfD y).e = 0)
    (hp : (Sub d (OfD (TX d mode)).d).e = 0) (hq : (Sub d (OfD y).d).e = 0) : Cmpn (ab (Sub d (OfD (TX d mode)).d).d) (ab (Sub d (OfD y).d).d) ≤ 0 := by
  rw [cmpn_S (ab_ok (sub_good _ _)) (ab_ok (sub_good _ _)), S_ab, S_ab]
  obtain ⟨r, h, m, t, -⟩ := towA hd
  have eX := (TX_of hd (mode := mode) (by omega) t).1
  have k := ry_bd (b := ng d) t mode
  have xb := TX_bd d mode fun _ => hd
  obtain ⟨-, o1, v1, s1⟩ := of_p xb.1 xb.2.1 (OfD_e hf)
  obtain ⟨-, o2, v2, s2⟩ := of_p y0 y1 (OfD_e hg)
  have a1 := (sub_ok' hp (fun _ => hd) (fun _ => o1)).2.2
  have a2 := (sub_ok' hq (fun _ => hd) (fun _ => o2)).2.2
  have xm := rx_mod (b := ng d) k.1 k.2.1
  rw [← eX] at xm
  rw [xm.1, xm.2] at v1
  rw [xm.1] at s1
  rw [v1] at a1
  rw [v2] at a2
  have p1 := A_abs (Sub d (OfD (TX d mode)).d).d
  have p2 := A_abs (Sub d (OfD y).d).d
  have p3 := A_abs d
  have n0 : 0 ≤ y % 9223372036854775808 := by omega
  have nu := near_u (b := ng d) t hm (by unfold ry at s1; exact s1) n0 s2 rfl
  unfold ry at a1
  have u0 := U_pos n0
  generalize U (if up (ng d) (decide (r % 2 = 1)) h m mode = true then r + 1 else r) = u1 at *
  generalize U (y % 9223372036854775808) = u2 at *
  generalize S (Sub d (OfD (TX d mode)).d).d = P at *
  generalize S (Sub d (OfD y).d).d = Q at *
  generalize A (Sub d (OfD (TX d mode)).d).d = AP at *
  generalize A (Sub d (OfD y).d).d = AQ at *
  generalize ng (Sub d (OfD (TX d mode)).d).d = b1 at *
  generalize ng (Sub d (OfD y).d).d = b2 at *
  have hle : AP ≤ AQ := by
    unfold sgm at a1 a2
    rcases Int.lt_or_le (S d) 0 with h1 | h1
    · obtain ⟨g1, g2⟩ := p3.2 h1
      rw [g2] at a1
      simp only [if_true] at a1
      rw [g1] at nu
      clear p3 v1 v2
      rcases Int.lt_or_le P 0 with h2 | h2
      · have k1 := (p1.2 h2).1
        rcases Int.lt_or_le Q 0 with h3 | h3
        · have k2 := (p2.2 h3).1
          cases hs : F.sgn y <;> rw [hs] at a2 <;> simp at a2 <;> omega
        · have k2 := (p2.1 h3).1
          cases hs : F.sgn y <;> rw [hs] at a2 <;> simp at a2 <;> omega
      · have k1 := (p1.1 h2).1
        rcases Int.lt_or_le Q 0 with h3 | h3
        · have k2 := (p2.2 h3).1
          cases hs : F.sgn y <;> rw [hs] at a2 <;> simp at a2 <;> omega
        · have k2 := (p2.1 h3).1
          cases hs : F.sgn y <;> rw [hs] at a2 <;> simp at a2 <;> omega
    · obtain ⟨g1, g2⟩ := p3.1 h1
      rw [g2] at a1
      simp only [Bool.false_eq_true, if_false] at a1
      rw [g1] at nu
      clear p3 v1 v2
      rcases Int.lt_or_le P 0 with h2 | h2
      · have k1 := (p1.2 h2).1
        rcases Int.lt_or_le Q 0 with h3 | h3
        · have k2 := (p2.2 h3).1
          cases hs : F.sgn y <;> rw [hs] at a2 <;> simp at a2 <;> omega
        · have k2 := (p2.1 h3).1
          cases hs : F.sgn y <;> rw [hs] at a2 <;> simp at a2 <;> omega
      · have k1 := (p1.1 h2).1
        rcases Int.lt_or_le Q 0 with h3 | h3
        · have k2 := (p2.2 h3).1
          cases hs : F.sgn y <;> rw [hs] at a2 <;> simp at a2 <;> omega
        · have k2 := (p2.1 h3).1
          cases hs : F.sgn y <;> rw [hs] at a2 <;> simp at a2 <;> omega
  have := cmpv_3 AP AQ
  omega
end RC
end Go.Proofs.YtnlgkhgighhfjaaDoor

/-
  RoundNear: the walk.
-/
namespace Go.Proofs.YtnlgkhgighhfjaaDoor
set_option linter.unusedVariables false
set_option linter.unusedSimpArgs false
open Go.RowKit
set_option linter.unusedVariables false
set_option linter.unusedSimpArgs false
namespace RC
open L NC NK DC
open Z (Nz Tz cmpv)
theorem two_set {W0 W : World} {gp gq : Nat} {bp bq : Bool} {Ap Aq : Option Addr} {np cp nq cq : Nat} {xp xq : Int} {dp dq : Dy} (hne : gp ≠ gq) (Xp : BX W gp bp Ap np cp xp) (Xq : BX W gq bq Aq nq cq xq) (Gp : GV W bp Ap np cp xp dp) (Gq : GV W bq Aq nq cq xq dq)
    (D : Below W0.heap.size W0 W) (hp : W0.heap.size ≤ gp) (hq : W0.heap.size ≤ gq) :
    BX ((W.setCell ⟨gp, 0, none⟩ (.bool false)).setCell ⟨gq, 0, none⟩ (.bool false)) gp false Ap np cp xp ∧ BX ((W.setCell ⟨gp, 0, none⟩ (.bool false)).setCell ⟨gq, 0, none⟩ (.bool false)) gq false Aq nq cq xq ∧
    DV ((W.setCell ⟨gp, 0, none⟩ (.bool false)).setCell ⟨gq, 0, none⟩ (.bool false)) (.agg #[.bool false, .slice Ap np cp, .int .i64 xp]) (ab dp) ∧ DV ((W.setCell ⟨gp, 0, none⟩ (.bool false)).setCell ⟨gq, 0, none⟩ (.bool false)) (.agg #[.bool false, .slice Aq nq cq, .int .i64 xq]) (ab dq) ∧
    Below W0.heap.size W0 ((W.setCell ⟨gp, 0, none⟩ (.bool false)).setCell ⟨gq, 0, none⟩ (.bool false)) := by
  obtain ⟨p0, p1, p2⟩ := Xp
  obtain ⟨q0, q1, q2⟩ := Xq
  have q0' : (W.setCell ⟨gp, 0, none⟩ (.bool false)).cell? ⟨gq, 0, none⟩ = some (.bool bq) := by rw [World.cell?_setCell_other _ _ _ _ (by intro h; have h9 := congrArg Addr.block h; simp only at h9; omega)]; exact q0
  have gset : ∀ {b A n c x d}, GV W b A n c x d → GV ((W.setCell ⟨gp, 0, none⟩ (.bool false)).setCell ⟨gq, 0, none⟩ (.bool false)) b A n c x d := fun h =>
    ⟨nv_set (nv_set h.1 p0 (fun z h => by cases h) _) q0' (fun z h => by cases h) _, h.2⟩
  refine ⟨⟨?_, ?_, ?_⟩, ⟨?_, ?_, ?_⟩, (gv_ab (gset Gp)).dv, (gv_ab (gset Gq)).dv, (D.setCell hp _).setCell hq _⟩
  · rw [World.cell?_setCell_other _ _ _ _ (by intro h; have h9 := congrArg Addr.block h; simp only at h9; omega)]; exact World.cell?_setCell_same' _ _ _ (by rw [p0]; rfl)
  · rw [World.cell?_setCell_other _ _ _ _ (by simp), World.cell?_setCell_other _ _ _ _ (by simp)]; exact p1
  · rw [World.cell?_setCell_other _ _ _ _ (by simp), World.cell?_setCell_other _ _ _ _ (by simp)]; exact p2
  · exact World.cell?_setCell_same' _ _ _ (by rw [q0']; rfl)
  · rw [World.cell?_setCell_other _ _ _ _ (by simp), World.cell?_setCell_other _ _ _ _ (by simp)]; exact q1
  · rw [World.cell?_setCell_other _ _ _ _ (by simp), World.cell?_setCell_other _ _ _ _ (by simp)]; exact q2
set_option maxRecDepth 100000 in
set_option maxHeartbeats 16000000 in
theorem near_c (ua : Value) (d : Dy) (y : Int) (aw : Bool) (w : World) (h1 : DV w ua d) (y0 : 0 ≤ y) (y1 : y ≤ 18446744073709551615) (hT : TabD w) :
    Calls Tryd.prog 10 #[ua, .int .u64 y, .bool aw] w fun e w' => e = .returned (.bool true) ∧ Below w.heap.size w w' := by
  have H1 := h1
  obtain ⟨ba, Aa, na, ca, xa, la, rfl, -⟩ := H1
  have D0 := al1 w (.cells #[.bool ba, .slice Aa na ca, .int .i64 xa] 25)
  have X0 := BX.new w ba Aa na ca xa
  obtain ⟨W0, hW0⟩ : ∃ W0, w.alloc (.cells #[.bool ba, .slice Aa na ca, .int .i64 xa] 25) = W0 := ⟨_, rfl⟩
  rw [hW0] at D0 X0
  have Xa : BD W0 w.heap.size ba Aa na ca xa d := ⟨X0, h1.below D0⟩
  have HT : Hid (∀ W : World, Below W0.heap.size W0 W → TabD W) := fun W hW => (hT.below D0).below hW
  have HW0 := Lib.hid hW0
  have D := Lib.hid (Below.refl W0.heap.size W0)
  obtain ⟨mode, hm⟩ : ∃ mode : Int, mode = if aw = true then 4 else 0 := ⟨_, rfl⟩
  have hm2 : mode = 0 ∨ mode = 4 := by cases aw <;> simp at hm <;> omega
  have T1 : Hid (∀ (W : World) (u : Value), Below W0.heap.size W0 W → DV W u d → Calls Tryd.prog 40 #[u, .int .i64 mode] W (DC.RetB W (.tuple #[.int .u64 (TX d mode), .bool (TL d mode), .int .i64 d.er]))) := fun W u hW hu => by
    have := To_d u _ mode W hu (HT.out W hW)
    have e : TE d mode = d.er := by
      have hm9 : 0 ≤ mode ∧ mode ≤ 4 := by omega
      unfold TE
      rw [if_pos hm9]
      split
      · rfl
      · omega
    rwa [e] at this
  have LV : Hid (∀ W : World, Below W0.heap.size W0 W → Calls Tryd.prog 45 #[] W fun e w' => e = .returned (.bool true) ∧ Below W.heap.size W w') := fun W hW => lives_c W (HT.out W hW)
  have B1 := TX_bd d mode fun e => h1.good e
  have G1 := fun e => h1.good e
  have hfin : [d.er, (OfD (TX d mode)).e, (OfD y).e].all (· == 0) = true → [(Sub d (OfD (TX d mode)).d).e, (Sub d (OfD y).d).e, Cmpe (ab (Sub d (OfD (TX d mode)).d).d) (ab (Sub d (OfD y).d).d)].all (· == 0) = true →
      Cmpn (ab (Sub d (OfD (TX d mode)).d).d) (ab (Sub d (OfD y).d).d) ≤ 0 := fun k1 k2 => by
    obtain ⟨a1, a2, a3⟩ := all3 k1
    obtain ⟨b1, b2, b3⟩ := all3 k2
    exact near_p (G1 a1) hm2 y0 y1 a2 a3 b1 b2
  generalize TX d mode = x at *
  generalize TL d mode = Lo at *
  have O1 : Hid (∀ W : World, Below W0.heap.size W0 W → Calls Tryd.prog 14 #[.int .u64 x] W (RetD W (OfD x))) := fun W hW => Of_d x B1.1 B1.2.1 W (HT.out W hW)
  have O2 : Hid (∀ W : World, Below W0.heap.size W0 W → Calls Tryd.prog 14 #[.int .u64 y] W (RetD W (OfD y))) := fun W hW => Of_d y y0 y1 W (HT.out W hW)
  have S1 : Hid (∀ (W : World) (u v : Value), Below W0.heap.size W0 W → DV W u d → DV W v (OfD x).d → Calls Tryd.prog 31 #[u, v] W (RetD W (Sub d (OfD x).d))) := fun W u v hW hu hv => Sub_d u v _ _ W hu hv (HT.out W hW)
  have S2 : Hid (∀ (W : World) (u v : Value), Below W0.heap.size W0 W → DV W u d → DV W v (OfD y).d → Calls Tryd.prog 31 #[u, v] W (RetD W (Sub d (OfD y).d))) := fun W u v hW hu hv => Sub_d u v _ _ W hu hv (HT.out W hW)
  have C1 : Hid (∀ (W : World) (u v : Value), Below W0.heap.size W0 W → DV W u (ab (Sub d (OfD x).d).d) → DV W v (ab (Sub d (OfD y).d).d) → Calls Tryd.prog 29 #[u, v] W (DC.RetB W (.tuple #[.int .i64 (Cmpn (ab (Sub d (OfD x).d).d) (ab (Sub d (OfD y).d).d)), .int .i64 (Cmpe (ab (Sub d (OfD x).d).d) (ab (Sub d (OfD y).d).d))]))) := fun W u v hW hu hv => Cmp_d u v _ _ W hu hv (HT.out W hW)
  have D0 := Lib.hid D0
  obtain ⟨o, ho⟩ : ∃ o, [d.er, (OfD x).e, (OfD y).e].all (· == 0) = o := ⟨_, rfl⟩
  rw [ho] at hfin
  have HO := Lib.hid ho
  generalize Cmpn (ab (Sub d (OfD x).d).d) (ab (Sub d (OfD y).d).d) = K at *
  generalize Cmpe (ab (Sub d (OfD x).d).d) (ab (Sub d (OfD y).d).d) = E9 at *
  generalize Sub d (OfD x).d = p at *
  generalize Sub d (OfD y).d = q at *
  generalize OfD x = r1 at *
  generalize OfD y = r2 at *
  generalize d.er = E at *
  clear hW0 X0 hT B1 h1 G1 hm2 ho y0 y1
  cases o
  · clear hfin
    cases aw <;> simp only [if_true, Bool.false_eq_true, if_false] at hm <;> subst hm
    all_goals (
      go_enter Tryd.func10, Tryd.ntmps10
      go_wp2_with (first
        | (go_at_call 40; rw [HW0.out]; (with_reducible refine (T1.out _ _ D.out Xa.dv).mono ?_); rintro e w1 ⟨rfl, hb⟩; have D := Lib.hid (D.out.trans (hb.mono D.out.size)); clear hb)
        | (go_at_call 14; (with_reducible refine (O1.out _ D.out).mono ?_); rintro e w2 ⟨b2, A2, n2, c2, x2, rfl, hv, hb⟩; have s := hb.alloc hb.size (.cells #[.bool b2, .slice A2 n2 c2, .int .i64 x2] 25); have D := Lib.hid (D.out.trans (s.mono D.out.size)); clear hv hb s)
        | (go_at_call 14; (with_reducible refine (O2.out _ D.out).mono ?_); rintro e w3 ⟨b3, A3, n3, c3, x3, rfl, hv, hb⟩; have s := hb.alloc hb.size (.cells #[.bool b3, .slice A3 n3 c3, .int .i64 x3] 25); have D := Lib.hid (D.out.trans (s.mono D.out.size)); clear hv hb s)
        | (go_at_call 45; (with_reducible refine (LV.out _ D.out).mono ?_); rintro e wl ⟨rfl, hb⟩; have D := Lib.hid (D.out.trans (hb.mono D.out.size)); clear hb)
        | (go_at_call 46; (with_reducible refine (DC.ok3 wl E r1.e r2.e false HO.out).mono ?_); rintro e wo ⟨rfl, hw⟩; have s := al1 wl (.cells #[.int .i64 E, .int .i64 r1.e, .int .i64 r2.e] 26); rw [hw] at s; clear hw; have D := Lib.hid (D.out.trans (s.mono D.out.size)); clear s)
        | (go_at_call 45; (with_reducible refine (LV.out _ D.out).mono ?_); rintro e wm ⟨rfl, hb⟩; have D := Lib.hid (D.out.trans (hb.mono D.out.size)); clear hb))
      go_ret
      exact ⟨rfl, D0.out.trans (D.out.mono D0.out.size)⟩)
  · have hfin := hfin rfl
    obtain ⟨o2, ho2⟩ : ∃ o, [p.e, q.e, E9].all (· == 0) = o := ⟨_, rfl⟩
    rw [ho2] at hfin
    have HO2 := Lib.hid ho2
    clear ho2
    have hf3 : o2 = false ∨ (o2 = true ∧ K ≤ 0) := by
      cases o2
      · exact .inl rfl
      · exact .inr ⟨rfl, hfin rfl⟩
    clear hfin
    rcases hf3 with rfl | ⟨rfl, hk⟩ <;> (cases aw <;> simp only [if_true, Bool.false_eq_true, if_false] at hm <;> subst hm)
    all_goals (
      go_enter Tryd.func10, Tryd.ntmps10
      go_wp2_with (first
        | (go_at_call 40; rw [HW0.out]; (with_reducible refine (T1.out _ _ D.out Xa.dv).mono ?_); rintro e w1 ⟨rfl, hb⟩; have Xa := Xa.below hb; have D := Lib.hid (D.out.trans (hb.mono D.out.size)); clear hb)
        | (go_at_call 14; (with_reducible refine (O1.out _ D.out).mono ?_); rintro e w2 ⟨b2, A2, n2, c2, x2, rfl, hv, hb⟩; have s := hb.alloc hb.size (.cells #[.bool b2, .slice A2 n2 c2, .int .i64 x2] 25); have Xa := Xa.below s; have Xb := BD.new hv.dv; have D := Lib.hid (D.out.trans (s.mono D.out.size)); clear hv hb s)
        | (go_at_call 14; (with_reducible refine (O2.out _ D.out).mono ?_); rintro e w3 ⟨b3, A3, n3, c3, x3, rfl, hv, hb⟩; have s := hb.alloc hb.size (.cells #[.bool b3, .slice A3 n3 c3, .int .i64 x3] 25); have Xa := Xa.below s; have Xb := Xb.below s; have Xc := BD.new hv.dv; have D := Lib.hid (D.out.trans (s.mono D.out.size)); clear hv hb s)
        | (go_at_call 45; (with_reducible refine (LV.out _ D.out).mono ?_); rintro e wl ⟨rfl, hb⟩; have Xa := Xa.below hb; have Xb := Xb.below hb; have Xc := Xc.below hb; have D := Lib.hid (D.out.trans (hb.mono D.out.size)); clear hb)
        | (go_at_call 46; (with_reducible refine (DC.ok3 wl E r1.e r2.e true HO.out).mono ?_); rintro e wo ⟨rfl, hw⟩; have s := al1 wl (.cells #[.int .i64 E, .int .i64 r1.e, .int .i64 r2.e] 26); rw [hw] at s; clear hw; have Xa := Xa.below s; have Xb := Xb.below s; have Xc := Xc.below s; have D := Lib.hid (D.out.trans (s.mono D.out.size)); clear s; obtain ⟨a_0, a_1, a_2⟩ := Xa.bx; obtain ⟨b_0, b_1, b_2⟩ := Xb.bx)
        | (go_at_call 31; (with_reducible refine (S1.out _ _ _ D.out Xa.dv Xb.dv).mono ?_); rintro e w4 ⟨b4, A4, n4, c4, x4, rfl, hv, hb⟩; have s := hb.alloc hb.size (.cells #[.bool b4, .slice A4 n4 c4, .int .i64 x4] 25); have Xa := Xa.below s; have Xc := Xc.below s; have Xp := BD.new hv.dv; have Kp := Blk.new w4 25 #[.bool b4, .slice A4 n4 c4, .int .i64 x4]; have Z4 := (D.out.trans (hb.mono D.out.size)).size; have Gp := hv.below (al1 w4 (.cells #[.bool b4, .slice A4 n4 c4, .int .i64 x4] 25)); have D := Lib.hid (D.out.trans (s.mono D.out.size)); clear hv hb s; obtain ⟨a_0, a_1, a_2⟩ := Xa.bx; obtain ⟨c_0, c_1, c_2⟩ := Xc.bx)
        | (go_at_call 31; (with_reducible refine (S2.out _ _ _ D.out Xa.dv Xc.dv).mono ?_); rintro e w5 ⟨b5, A5, n5, c5, x5, rfl, hv, hb⟩; have s := hb.alloc hb.size (.cells #[.bool b5, .slice A5 n5 c5, .int .i64 x5] 25); have Xp := Xp.below s; have Kp := Kp.below s Kp.lt; have Kq := Blk.new w5 25 #[.bool b5, .slice A5 n5 c5, .int .i64 x5]; have Gp := Gp.below s; have Xq := BD.new hv.dv; have Z5 := (D.out.trans (hb.mono D.out.size)).size; have Zn : w4.heap.size ≠ w5.heap.size := (by have := hb.size; simp at this; omega); have Gq := hv.below (al1 w5 (.cells #[.bool b5, .slice A5 n5 c5, .int .i64 x5] 25)); have D := Lib.hid (D.out.trans (s.mono D.out.size)); clear hv hb s; obtain ⟨⟨e_0, e_1, e_2⟩, ⟨f_0, f_1, f_2⟩, Vp, Vq, D2⟩ := two_set Zn Xp.bx Xq.bx Gp Gq D.out Z4 Z5; have D := Lib.hid D2; clear D2; obtain ⟨a_0, a_1, a_2⟩ := Xp.bx; obtain ⟨c_0, c_1, c_2⟩ := Xq.bx; have g_0 := Kp.frozen 0; have h_0 := Kq.frozen 0)
        | (go_at_call 29; (with_reducible refine (C1.out _ _ _ D.out Vp Vq).mono ?_); rintro e w6 ⟨rfl, hb⟩; have D := Lib.hid (D.out.trans (hb.mono D.out.size)); clear hb)
        | (go_at_call 46; (with_reducible refine (DC.ok3 w6 p.e q.e E9 _ HO2.out).mono ?_); rintro e wp ⟨rfl, hw⟩; have s := al1 w6 (.cells #[.int .i64 p.e, .int .i64 q.e, .int .i64 E9] 26); rw [hw] at s; clear hw; have D := Lib.hid (D.out.trans (s.mono D.out.size)); clear s))
      go_ret
      exact ⟨rfl, D0.out.trans (D.out.mono D0.out.size)⟩)
end RC
end Go.Proofs.YtnlgkhgighhfjaaDoor

