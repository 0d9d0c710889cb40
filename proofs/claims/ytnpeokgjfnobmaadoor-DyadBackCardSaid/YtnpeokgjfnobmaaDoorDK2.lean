/-
  DyadBack: the walk.
-/
import Derived.Test.YtnpeokgjfnobmaaDoorM5
namespace Go.Proofs.YtnpeokgjfnobmaaDoor
set_option linter.unusedVariables false
set_option linter.unusedSimpArgs false
open Go.RowKit
set_option linter.unusedVariables false
namespace DC
open L NC NK
open Z (Nz Tz cmpv)
theorem sub_ok' {a b : Dy} (h : (Sub a b).e = 0) (ga : a.er = 0 → Ok a) (gb : b.er = 0 → Ok b) : a.er = 0 ∧ b.er = 0 ∧ S (Sub a b).d = S a - S b := by
  unfold Sub at h ⊢
  by_cases h0 : ee a.er b.er = 0
  · rw [if_neg (by simpa using h0)] at h ⊢
    have h1 := ee0.1 h0
    have ga := ga h1.1
    have gb := gb h1.2
    have x1 := ga.2.2.2.2.1
    have x2 := gb.2.2.2.2.1
    refine ⟨h1.1, h1.2, ?_⟩
    unfold sum at h ⊢
    unfold S
    have ex : (neg b).x = b.x := rfl
    rw [fin_sc (by omega) h, sc_add, sc_lv2 a (neg b) (by omega)]
    have := sc_lv2 (neg b) a (by omega)
    rw [Int.min_comm (neg b).x a.x] at this
    rw [this]
    show sc a.m a.x + sc (-b.m) b.x = _
    rw [sc_neg]; omega
  · rw [if_pos (by simpa using h0)] at h
    exact absurd h h0
theorem sub_good (a b : Dy) : Ok (Sub a b).d := by
  unfold Sub
  split
  · exact ok_dz
  · exact fin_ok _ _
theorem back_d {a b : Dy} (ga : a.er = 0 → Ok a) (gb : b.er = 0 → Ok b) (h1 : (Add a b).e = 0) (h2 : (Sub (Add a b).d b).e = 0) : (Sub (Add a b).d b).d = a := by
  have h := add_ok h1 ga gb
  apply S_inj (sub_good _ _) (ga h.1)
  rw [(sub_ok' h2 (fun _ => add_good _ _) gb).2.2, h.2.2]; omega
theorem none_d {a : Dy} (h : a.er = 0) : Sub a a = ⟨0, dz⟩ := by
  unfold Sub sum
  rw [if_neg (by rw [h]; decide)]
  have : lv2 a (neg a) + lv2 (neg a) a = 0 := by
    unfold lv2
    show a.m * 2 ^ (a.x - min a.x a.x).toNat + -a.m * 2 ^ (a.x - min a.x a.x).toNat = 0
    rw [Int.neg_mul]; omega
  rw [this, fin_zero]
theorem sub_er {a : Dy} (h : a.er ≠ 0) (b : Dy) : (Sub a b).e ≠ 0 ∧ (Add a b).e ≠ 0 := by
  have : ee a.er b.er ≠ 0 := fun e => h (ee0.1 e).1
  unfold Sub Add
  rw [if_pos this, if_pos this]
  exact ⟨this, this⟩
theorem shf_val {a : Dy} {n : Int} (h0 : a.er = 0) (hn : ¬ (n < -20000 ∨ 20000 < n)) : Shf a n = fin a.m (a.x + n) := by
  unfold Shf
  rw [if_neg (by simpa using h0), if_neg hn]
theorem shf_ok {a : Dy} {n : Int} (h0 : a.er = 0) (ga : Ok a) (h : (Shf a n).e = 0) : -20000 ≤ n ∧ n ≤ 20000 ∧ Shf (Shf a n).d (-n) = ⟨0, a⟩ := by
  by_cases hn : n < -20000 ∨ 20000 < n
  · unfold Shf at h
    rw [if_neg (by simpa using h0), if_pos hn] at h; cases h
  · rw [shf_val h0 hn] at h ⊢
    refine ⟨by omega, by omega, ?_⟩
    rw [shf_val (fin_good _ _).2.1 (by omega)]
    by_cases hm : a.m = 0
    · have hx : a.x = 0 := by have := ga.2.1; unfold can at this; omega
      rw [hm, fin_zero]
      show fin 0 _ = _
      rw [fin_zero]
      have : a = dz := Dy.ext' h0 hm hx
      rw [this]
    · have ho : a.m % 2 = 1 := by have := ga.2.1; unfold can at this; omega
      have e : fin a.m (a.x + n) = if inb a.m (a.x + n + (0 : Nat)) then ⟨0, 0, a.m, a.x + n + (0 : Nat)⟩ else ⟨2, dz⟩ := fin_of (k := 0) (by simp) ho
      rw [e] at h ⊢
      by_cases hi : inb a.m (a.x + n + (0 : Nat))
      · rw [if_pos hi]
        show fin a.m (a.x + n + (0 : Nat) + -n) = _
        rw [show a.x + n + ((0 : Nat) : Int) + -n = a.x by simp; omega]
        exact fin_self h0 (fun _ => ⟨ga.2.1, ga.2.2⟩)
      · rw [if_neg hi] at h; cases h
set_option maxRecDepth 100000 in
set_option maxHeartbeats 16000000 in
theorem back_c (ua ub : Value) (d1 d2 : Dy) (n : Int) (w : World) (h1 : DV w ua d1) (h2 : DV w ub d2) (hT : TabD w) :
    Calls Tryd.prog 7 #[ua, ub, .int .i64 n] w fun e w' => e = .returned (.bool true) ∧ Below w.heap.size w w' := by
  have H1 := h1
  have H2 := h2
  obtain ⟨ba, Aa, na, ca, xa, la, rfl, -⟩ := H1
  obtain ⟨bb, Ab, nb, cb, xb, lb, rfl, -⟩ := H2
  obtain ⟨N1, N2, NS, D0⟩ := new2 w 48 48 #[.bool ba, .slice Aa na ca, .int .i64 xa] #[.bool bb, .slice Ab nb cb, .int .i64 xb] 0
  rw [World.drewN_zero] at N1 N2 NS D0
  obtain ⟨W0, hW0⟩ : ∃ W0, (w.alloc (.cells #[.bool ba, .slice Aa na ca, .int .i64 xa] 48)).alloc (.cells #[.bool bb, .slice Ab nb cb, .int .i64 xb] 48) = W0 := ⟨_, rfl⟩
  rw [hW0] at N1 N2 D0
  have Xa : BD W0 w.heap.size ba Aa na ca xa d1 := ⟨BX.of N1, h1.below D0⟩
  have Xb : BD W0 (w.heap.size + 1) bb Ab nb cb xb d2 := ⟨BX.of N2, h2.below D0⟩
  have HT : Hid (∀ W : World, Below W0.heap.size W0 W → TabD W) := fun W hW => (hT.below D0).below hW
  have HW0 := Lib.hid hW0
  have D := Lib.hid (Below.refl W0.heap.size W0)
  have C1 : Hid (∀ (W : World) (u v : Value), Below W0.heap.size W0 W → DV W u d1 → DV W v d2 → Calls Tryd.prog 39 #[u, v] W (RetD W (Add d1 d2))) := fun W u v hW hu hv => Add_d u v _ _ W hu hv (HT.out W hW)
  have C2 : Hid (∀ (W : World) (u v : Value), Below W0.heap.size W0 W → DV W u (Add d1 d2).d → DV W v d2 → Calls Tryd.prog 40 #[u, v] W (RetD W (Sub (Add d1 d2).d d2))) := fun W u v hW hu hv => Sub_d u v _ _ W hu hv (HT.out W hW)
  have C3 : Hid (∀ (W : World) (u v : Value), Below W0.heap.size W0 W → DV W u d1 → DV W v d1 → Calls Tryd.prog 40 #[u, v] W (RetD W (Sub d1 d1))) := fun W u v hW hu hv => Sub_d u v _ _ W hu hv (HT.out W hW)
  have SH : Hid (∀ (W : World) (u : Value), Below W0.heap.size W0 W → DV W u d1 → Calls Tryd.prog 42 #[u, .int .i64 n] W (RetD W (Shf d1 n))) := fun W u hW hu => Shift_d u d1 n W hu (HT.out W hW)
  have SB : Hid (∀ (W : World) (u : Value), Below W0.heap.size W0 W → DV W u (Shf d1 n).d → Calls Tryd.prog 42 #[u, .int .i64 (-n)] W (RetD W (Shf (Shf d1 n).d (-n)))) := fun W u hW hu => Shift_d u _ (-n) W hu (HT.out W hW)
  have D0 := Lib.hid D0
  have G1 := fun e => h1.good e
  have G2 := fun e => h2.good e
  clear hW0 N1 N2 NS hT
  by_cases h0 : d1.er = 0
  · have F1 := back_d (b := d2) G1 G2
    have K3 := none_d h0
    have F2 := shf_ok (n := n) h0 (G1 h0)
    have g1 := G1 h0
    rw [K3] at C3
    have CH : Hid (∀ (W : World) (u : Value), DV W u d1 → Calls Tryd.prog 28 #[u] W (RetB W (.int .i64 0))) := fun W u hu => by
      have := Check_d u d1 W hu
      rwa [h0] at this
    have FS := Lib.hid F2
    have K2 := sub_good (Add d1 d2).d d2
    generalize Sub (Add d1 d2).d d2 = r2 at *
    generalize Add d1 d2 = r1 at *
    obtain ⟨o1, ho1⟩ : ∃ o, [r1.e, r2.e].all (· == 0) = o := ⟨_, rfl⟩
    have P1 : Hid (o1 = true → r2.d = d1) := fun h => by
      rw [h] at ho1
      simp only [List.all_cons, List.all_nil, Bool.and_true, Bool.and_eq_true, beq_iff_eq] at ho1
      exact F1 ho1.1 ho1.2
    have HO1 := Lib.hid ho1
    have K2 := Lib.hid K2
    have K1 := Lib.hid g1
    clear ho1 F1 F2 K3 h0 G1 G2 h1 h2 g1
    by_cases hs : (Shf d1 n).e = 0
    · obtain ⟨n1, n2, n3⟩ := FS.out hs
      rw [n3] at SB
      have i1 : IntKind.i64.wrap (-n) = -n := IntWalk.i64_in _ (by omega)
      clear n3 n1 n2 FS
      generalize Shf d1 n = r3 at *
      obtain ⟨q3, hq3⟩ : ∃ q, r3.e = q := ⟨_, rfl⟩
      have h3 : (r3.e != 0) = false := by simp [hs]
      clear hs hq3
      cases o1
      · go_enter Tryd.func7, Tryd.ntmps7
        go_wp2_with (first
          | (go_at_call 39; rw [HW0.out]; (with_reducible refine (C1.out _ _ _ D.out Xa.dv Xb.dv).mono ?_); rintro e wd ⟨bd, Ad, nd, cd, xd, rfl, hv, hb⟩; have s := hb.alloc hb.size (.cells #[.bool bd, .slice Ad nd cd, .int .i64 xd] 48); have Xa := Xa.below s; have Xb := Xb.below s; have Xd := BD.new hv.dv; have D := Lib.hid (D.out.trans (s.mono D.out.size)); clear hv hb s; obtain ⟨d_0, d_1, d_2⟩ := Xd.bx; obtain ⟨b_0, b_1, b_2⟩ := Xb.bx)
          | (go_at_call 40; (with_reducible refine (C2.out _ _ _ D.out Xd.dv Xb.dv).mono ?_); rintro e wf ⟨bf, Af, nf, cf, xf, rfl, hv, hb⟩; have s := hb.alloc hb.size (.cells #[.bool bf, .slice Af nf cf, .int .i64 xf] 48); have Xa := Xa.below s; have Xb := Xb.below s; have Xd := Xd.below s; have Xf := BD.new hv.dv; have D := Lib.hid (D.out.trans (s.mono D.out.size)); clear hv hb s; obtain ⟨a_0, a_1, a_2⟩ := Xa.bx)
          | (go_at_call 40; (with_reducible refine (C3.out _ _ _ D.out Xa.dv Xa.dv).mono ?_); rintro e wg ⟨bg, Ag, ng, cg, xg, rfl, hv, hb⟩; have s := hb.alloc hb.size (.cells #[.bool bg, .slice Ag ng cg, .int .i64 xg] 48); have Xa := Xa.below s; have Xb := Xb.below s; have Xf := Xf.below s; have Xg := BD.new hv.dv; obtain rfl : ng = 0 := (gv_zero hv).2 rfl; have D := Lib.hid (D.out.trans (s.mono D.out.size)); clear hv hb s; obtain ⟨a_0, a_1, a_2⟩ := Xa.bx)
          | (go_at_call 49; (with_reducible refine (lives_c _ (HT.out _ D.out)).mono ?_); rintro e wl ⟨rfl, hb⟩; have Xa := Xa.below hb; have Xb := Xb.below hb; have Xf := Xf.below hb; have Xg := Xg.below hb; have D := Lib.hid (D.out.trans (hb.mono D.out.size)); clear hb; obtain ⟨a_0, a_1, a_2⟩ := Xa.bx)
          | (go_at_call 28; (with_reducible refine (CH.out _ _ Xa.dv).mono ?_); rintro e wc ⟨rfl, hb⟩; have Xa := Xa.below hb; have Xb := Xb.below hb; have Xf := Xf.below hb; have Xg := Xg.below hb; have D := Lib.hid (D.out.trans (hb.mono D.out.size)); clear hb; obtain ⟨f_0, f_1, f_2⟩ := Xf.bx; obtain ⟨a_0, a_1, a_2⟩ := Xa.bx; obtain ⟨g_0, g_1, g_2⟩ := Xg.bx)
          | (go_at_call 50; (with_reducible refine (ok2 wc r1.e r2.e false HO1.out).mono ?_); rintro e wo ⟨rfl, hw⟩; have s := al1 wc (.cells #[.int .i64 r1.e, .int .i64 r2.e] 23); rw [hw] at s; clear hw; have Xa := Xa.below s; have Xb := Xb.below s; have Xf := Xf.below s; have Xg := Xg.below s; have D := Lib.hid (D.out.trans (s.mono D.out.size)); clear s; obtain ⟨g_0, g_1, g_2⟩ := Xg.bx; obtain ⟨a_0, a_1, a_2⟩ := Xa.bx)
          | (go_at_call 42; (with_reducible refine (SH.out _ _ D.out Xa.dv).mono ?_); rintro e wh ⟨bh, Ah, nh, ch, xh, rfl, hv, hb⟩; have s := hb.alloc hb.size (.cells #[.bool bh, .slice Ah nh ch, .int .i64 xh] 48); have Xa := Xa.below s; have Xb := Xb.below s; have Xf := Xf.below s; have Xg := Xg.below s; have Xh := BD.new hv.dv; have D := Lib.hid (D.out.trans (s.mono D.out.size)); clear hv hb s; obtain ⟨h_0, h_1, h_2⟩ := Xh.bx)
          | (go_at_call 42; (with_reducible refine (SB.out _ _ D.out Xh.dv).mono ?_); rintro e wi ⟨bi, Ai, ni, ci, xi, rfl, hv, hb⟩; have s := hb.alloc hb.size (.cells #[.bool bi, .slice Ai ni ci, .int .i64 xi] 48); have Xa := Xa.below s; have Xb := Xb.below s; have Xf := Xf.below s; have Xg := Xg.below s; have Xh := Xh.below s; have Xi := BD.new hv.dv; have D := Lib.hid (D.out.trans (s.mono D.out.size)); clear hv hb s; obtain ⟨i_0, i_1, i_2⟩ := Xi.bx; obtain ⟨a_0, a_1, a_2⟩ := Xa.bx)
          | (go_at_call 30; (with_reducible refine (same_true Xi.dv Xa.dv rfl K1.out).mono ?_); rintro e wu ⟨rfl, hb⟩; have Xa := Xa.below hb; have Xb := Xb.below hb; have Xf := Xf.below hb; have Xg := Xg.below hb; have Xh := Xh.below hb; have Xi := Xi.below hb; have D := Lib.hid (D.out.trans (hb.mono D.out.size)); clear hb))
        go_ret
        exact ⟨rfl, D0.out.trans (D.out.mono D0.out.size)⟩
      · go_enter Tryd.func7, Tryd.ntmps7
        go_wp2_with (first
          | (go_at_call 39; rw [HW0.out]; (with_reducible refine (C1.out _ _ _ D.out Xa.dv Xb.dv).mono ?_); rintro e wd ⟨bd, Ad, nd, cd, xd, rfl, hv, hb⟩; have s := hb.alloc hb.size (.cells #[.bool bd, .slice Ad nd cd, .int .i64 xd] 48); have Xa := Xa.below s; have Xb := Xb.below s; have Xd := BD.new hv.dv; have D := Lib.hid (D.out.trans (s.mono D.out.size)); clear hv hb s; obtain ⟨d_0, d_1, d_2⟩ := Xd.bx; obtain ⟨b_0, b_1, b_2⟩ := Xb.bx)
          | (go_at_call 40; (with_reducible refine (C2.out _ _ _ D.out Xd.dv Xb.dv).mono ?_); rintro e wf ⟨bf, Af, nf, cf, xf, rfl, hv, hb⟩; have s := hb.alloc hb.size (.cells #[.bool bf, .slice Af nf cf, .int .i64 xf] 48); have Xa := Xa.below s; have Xb := Xb.below s; have Xd := Xd.below s; have Xf := BD.new hv.dv; have D := Lib.hid (D.out.trans (s.mono D.out.size)); clear hv hb s; obtain ⟨a_0, a_1, a_2⟩ := Xa.bx)
          | (go_at_call 40; (with_reducible refine (C3.out _ _ _ D.out Xa.dv Xa.dv).mono ?_); rintro e wg ⟨bg, Ag, ng, cg, xg, rfl, hv, hb⟩; have s := hb.alloc hb.size (.cells #[.bool bg, .slice Ag ng cg, .int .i64 xg] 48); have Xa := Xa.below s; have Xb := Xb.below s; have Xf := Xf.below s; have Xg := BD.new hv.dv; obtain rfl : ng = 0 := (gv_zero hv).2 rfl; have D := Lib.hid (D.out.trans (s.mono D.out.size)); clear hv hb s; obtain ⟨a_0, a_1, a_2⟩ := Xa.bx)
          | (go_at_call 49; (with_reducible refine (lives_c _ (HT.out _ D.out)).mono ?_); rintro e wl ⟨rfl, hb⟩; have Xa := Xa.below hb; have Xb := Xb.below hb; have Xf := Xf.below hb; have Xg := Xg.below hb; have D := Lib.hid (D.out.trans (hb.mono D.out.size)); clear hb; obtain ⟨a_0, a_1, a_2⟩ := Xa.bx)
          | (go_at_call 28; (with_reducible refine (CH.out _ _ Xa.dv).mono ?_); rintro e wc ⟨rfl, hb⟩; have Xa := Xa.below hb; have Xb := Xb.below hb; have Xf := Xf.below hb; have Xg := Xg.below hb; have D := Lib.hid (D.out.trans (hb.mono D.out.size)); clear hb; obtain ⟨f_0, f_1, f_2⟩ := Xf.bx; obtain ⟨a_0, a_1, a_2⟩ := Xa.bx; obtain ⟨g_0, g_1, g_2⟩ := Xg.bx)
          | (go_at_call 50; (with_reducible refine (ok2 wc r1.e r2.e true HO1.out).mono ?_); rintro e wo ⟨rfl, hw⟩; have s := al1 wc (.cells #[.int .i64 r1.e, .int .i64 r2.e] 23); rw [hw] at s; clear hw; have Xa := Xa.below s; have Xb := Xb.below s; have Xf := Xf.below s; have Xg := Xg.below s; have D := Lib.hid (D.out.trans (s.mono D.out.size)); clear s; obtain ⟨f_0, f_1, f_2⟩ := Xf.bx; obtain ⟨a_0, a_1, a_2⟩ := Xa.bx; obtain ⟨g_0, g_1, g_2⟩ := Xg.bx)
          | (go_at_call 30; (with_reducible refine (same_true Xf.dv Xa.dv (P1.out (by first | trivial | rfl)) K2.out).mono ?_); rintro e wt ⟨rfl, hb⟩; have Xa := Xa.below hb; have Xb := Xb.below hb; have Xf := Xf.below hb; have Xg := Xg.below hb; have D := Lib.hid (D.out.trans (hb.mono D.out.size)); clear hb; obtain ⟨g_0, g_1, g_2⟩ := Xg.bx; obtain ⟨a_0, a_1, a_2⟩ := Xa.bx)
          | (go_at_call 42; (with_reducible refine (SH.out _ _ D.out Xa.dv).mono ?_); rintro e wh ⟨bh, Ah, nh, ch, xh, rfl, hv, hb⟩; have s := hb.alloc hb.size (.cells #[.bool bh, .slice Ah nh ch, .int .i64 xh] 48); have Xa := Xa.below s; have Xb := Xb.below s; have Xg := Xg.below s; have Xh := BD.new hv.dv; have D := Lib.hid (D.out.trans (s.mono D.out.size)); clear hv hb s; obtain ⟨h_0, h_1, h_2⟩ := Xh.bx)
          | (go_at_call 42; (with_reducible refine (SB.out _ _ D.out Xh.dv).mono ?_); rintro e wi ⟨bi, Ai, ni, ci, xi, rfl, hv, hb⟩; have s := hb.alloc hb.size (.cells #[.bool bi, .slice Ai ni ci, .int .i64 xi] 48); have Xa := Xa.below s; have Xb := Xb.below s; have Xg := Xg.below s; have Xh := Xh.below s; have Xi := BD.new hv.dv; have D := Lib.hid (D.out.trans (s.mono D.out.size)); clear hv hb s; obtain ⟨i_0, i_1, i_2⟩ := Xi.bx; obtain ⟨a_0, a_1, a_2⟩ := Xa.bx)
          | (go_at_call 30; (with_reducible refine (same_true Xi.dv Xa.dv rfl K1.out).mono ?_); rintro e wu ⟨rfl, hb⟩; have Xa := Xa.below hb; have Xb := Xb.below hb; have Xg := Xg.below hb; have Xh := Xh.below hb; have Xi := Xi.below hb; have D := Lib.hid (D.out.trans (hb.mono D.out.size)); clear hb))
        go_ret
        exact ⟨rfl, D0.out.trans (D.out.mono D0.out.size)⟩
    · have h3 : ((Shf d1 n).e != 0) = true := by simp [hs]
      clear hs FS SB
      generalize Shf d1 n = r3 at *
      cases o1
      · go_enter Tryd.func7, Tryd.ntmps7
        go_wp2_with (first
          | (go_at_call 39; rw [HW0.out]; (with_reducible refine (C1.out _ _ _ D.out Xa.dv Xb.dv).mono ?_); rintro e wd ⟨bd, Ad, nd, cd, xd, rfl, hv, hb⟩; have s := hb.alloc hb.size (.cells #[.bool bd, .slice Ad nd cd, .int .i64 xd] 48); have Xa := Xa.below s; have Xb := Xb.below s; have Xd := BD.new hv.dv; have D := Lib.hid (D.out.trans (s.mono D.out.size)); clear hv hb s; obtain ⟨d_0, d_1, d_2⟩ := Xd.bx; obtain ⟨b_0, b_1, b_2⟩ := Xb.bx)
          | (go_at_call 40; (with_reducible refine (C2.out _ _ _ D.out Xd.dv Xb.dv).mono ?_); rintro e wf ⟨bf, Af, nf, cf, xf, rfl, hv, hb⟩; have s := hb.alloc hb.size (.cells #[.bool bf, .slice Af nf cf, .int .i64 xf] 48); have Xa := Xa.below s; have Xb := Xb.below s; have Xd := Xd.below s; have Xf := BD.new hv.dv; have D := Lib.hid (D.out.trans (s.mono D.out.size)); clear hv hb s; obtain ⟨a_0, a_1, a_2⟩ := Xa.bx)
          | (go_at_call 40; (with_reducible refine (C3.out _ _ _ D.out Xa.dv Xa.dv).mono ?_); rintro e wg ⟨bg, Ag, ng, cg, xg, rfl, hv, hb⟩; have s := hb.alloc hb.size (.cells #[.bool bg, .slice Ag ng cg, .int .i64 xg] 48); have Xa := Xa.below s; have Xb := Xb.below s; have Xf := Xf.below s; have Xg := BD.new hv.dv; obtain rfl : ng = 0 := (gv_zero hv).2 rfl; have D := Lib.hid (D.out.trans (s.mono D.out.size)); clear hv hb s; obtain ⟨a_0, a_1, a_2⟩ := Xa.bx)
          | (go_at_call 49; (with_reducible refine (lives_c _ (HT.out _ D.out)).mono ?_); rintro e wl ⟨rfl, hb⟩; have Xa := Xa.below hb; have Xb := Xb.below hb; have Xf := Xf.below hb; have Xg := Xg.below hb; have D := Lib.hid (D.out.trans (hb.mono D.out.size)); clear hb; obtain ⟨a_0, a_1, a_2⟩ := Xa.bx)
          | (go_at_call 28; (with_reducible refine (CH.out _ _ Xa.dv).mono ?_); rintro e wc ⟨rfl, hb⟩; have Xa := Xa.below hb; have Xb := Xb.below hb; have Xf := Xf.below hb; have Xg := Xg.below hb; have D := Lib.hid (D.out.trans (hb.mono D.out.size)); clear hb; obtain ⟨f_0, f_1, f_2⟩ := Xf.bx; obtain ⟨a_0, a_1, a_2⟩ := Xa.bx; obtain ⟨g_0, g_1, g_2⟩ := Xg.bx)
          | (go_at_call 50; (with_reducible refine (ok2 wc r1.e r2.e false HO1.out).mono ?_); rintro e wo ⟨rfl, hw⟩; have s := al1 wc (.cells #[.int .i64 r1.e, .int .i64 r2.e] 23); rw [hw] at s; clear hw; have Xa := Xa.below s; have Xb := Xb.below s; have Xf := Xf.below s; have Xg := Xg.below s; have D := Lib.hid (D.out.trans (s.mono D.out.size)); clear s; obtain ⟨g_0, g_1, g_2⟩ := Xg.bx; obtain ⟨a_0, a_1, a_2⟩ := Xa.bx)
          | (go_at_call 42; (with_reducible refine (SH.out _ _ D.out Xa.dv).mono ?_); rintro e wh ⟨bh, Ah, nh, ch, xh, rfl, hv, hb⟩; have s := hb.alloc hb.size (.cells #[.bool bh, .slice Ah nh ch, .int .i64 xh] 48); have Xa := Xa.below s; have Xb := Xb.below s; have Xf := Xf.below s; have Xg := Xg.below s; have Xh := BD.new hv.dv; have D := Lib.hid (D.out.trans (s.mono D.out.size)); clear hv hb s; obtain ⟨h_0, h_1, h_2⟩ := Xh.bx))
        go_ret
        exact ⟨rfl, D0.out.trans (D.out.mono D0.out.size)⟩
      · go_enter Tryd.func7, Tryd.ntmps7
        go_wp2_with (first
          | (go_at_call 39; rw [HW0.out]; (with_reducible refine (C1.out _ _ _ D.out Xa.dv Xb.dv).mono ?_); rintro e wd ⟨bd, Ad, nd, cd, xd, rfl, hv, hb⟩; have s := hb.alloc hb.size (.cells #[.bool bd, .slice Ad nd cd, .int .i64 xd] 48); have Xa := Xa.below s; have Xb := Xb.below s; have Xd := BD.new hv.dv; have D := Lib.hid (D.out.trans (s.mono D.out.size)); clear hv hb s; obtain ⟨d_0, d_1, d_2⟩ := Xd.bx; obtain ⟨b_0, b_1, b_2⟩ := Xb.bx)
          | (go_at_call 40; (with_reducible refine (C2.out _ _ _ D.out Xd.dv Xb.dv).mono ?_); rintro e wf ⟨bf, Af, nf, cf, xf, rfl, hv, hb⟩; have s := hb.alloc hb.size (.cells #[.bool bf, .slice Af nf cf, .int .i64 xf] 48); have Xa := Xa.below s; have Xb := Xb.below s; have Xd := Xd.below s; have Xf := BD.new hv.dv; have D := Lib.hid (D.out.trans (s.mono D.out.size)); clear hv hb s; obtain ⟨a_0, a_1, a_2⟩ := Xa.bx)
          | (go_at_call 40; (with_reducible refine (C3.out _ _ _ D.out Xa.dv Xa.dv).mono ?_); rintro e wg ⟨bg, Ag, ng, cg, xg, rfl, hv, hb⟩; have s := hb.alloc hb.size (.cells #[.bool bg, .slice Ag ng cg, .int .i64 xg] 48); have Xa := Xa.below s; have Xb := Xb.below s; have Xf := Xf.below s; have Xg := BD.new hv.dv; obtain rfl : ng = 0 := (gv_zero hv).2 rfl; have D := Lib.hid (D.out.trans (s.mono D.out.size)); clear hv hb s; obtain ⟨a_0, a_1, a_2⟩ := Xa.bx)
          | (go_at_call 49; (with_reducible refine (lives_c _ (HT.out _ D.out)).mono ?_); rintro e wl ⟨rfl, hb⟩; have Xa := Xa.below hb; have Xb := Xb.below hb; have Xf := Xf.below hb; have Xg := Xg.below hb; have D := Lib.hid (D.out.trans (hb.mono D.out.size)); clear hb; obtain ⟨a_0, a_1, a_2⟩ := Xa.bx)
          | (go_at_call 28; (with_reducible refine (CH.out _ _ Xa.dv).mono ?_); rintro e wc ⟨rfl, hb⟩; have Xa := Xa.below hb; have Xb := Xb.below hb; have Xf := Xf.below hb; have Xg := Xg.below hb; have D := Lib.hid (D.out.trans (hb.mono D.out.size)); clear hb; obtain ⟨f_0, f_1, f_2⟩ := Xf.bx; obtain ⟨a_0, a_1, a_2⟩ := Xa.bx; obtain ⟨g_0, g_1, g_2⟩ := Xg.bx)
          | (go_at_call 50; (with_reducible refine (ok2 wc r1.e r2.e true HO1.out).mono ?_); rintro e wo ⟨rfl, hw⟩; have s := al1 wc (.cells #[.int .i64 r1.e, .int .i64 r2.e] 23); rw [hw] at s; clear hw; have Xa := Xa.below s; have Xb := Xb.below s; have Xf := Xf.below s; have Xg := Xg.below s; have D := Lib.hid (D.out.trans (s.mono D.out.size)); clear s; obtain ⟨f_0, f_1, f_2⟩ := Xf.bx; obtain ⟨a_0, a_1, a_2⟩ := Xa.bx; obtain ⟨g_0, g_1, g_2⟩ := Xg.bx)
          | (go_at_call 30; (with_reducible refine (same_true Xf.dv Xa.dv (P1.out (by first | trivial | rfl)) K2.out).mono ?_); rintro e wt ⟨rfl, hb⟩; have Xa := Xa.below hb; have Xb := Xb.below hb; have Xf := Xf.below hb; have Xg := Xg.below hb; have D := Lib.hid (D.out.trans (hb.mono D.out.size)); clear hb; obtain ⟨g_0, g_1, g_2⟩ := Xg.bx; obtain ⟨a_0, a_1, a_2⟩ := Xa.bx)
          | (go_at_call 42; (with_reducible refine (SH.out _ _ D.out Xa.dv).mono ?_); rintro e wh ⟨bh, Ah, nh, ch, xh, rfl, hv, hb⟩; have s := hb.alloc hb.size (.cells #[.bool bh, .slice Ah nh ch, .int .i64 xh] 48); have Xa := Xa.below s; have Xb := Xb.below s; have Xg := Xg.below s; have Xh := BD.new hv.dv; have D := Lib.hid (D.out.trans (s.mono D.out.size)); clear hv hb s; obtain ⟨h_0, h_1, h_2⟩ := Xh.bx))
        go_ret
        exact ⟨rfl, D0.out.trans (D.out.mono D0.out.size)⟩
  · have hc : (d1.er != 0) = true := by simp [h0]
    have e1 := sub_er h0 d1
    have e2 := sub_er h0 d2
    have CH : Hid (∀ (W : World) (u : Value), DV W u d1 → Calls Tryd.prog 28 #[u] W (RetB W (.int .i64 d1.er))) := fun W u hu => Check_d u d1 W hu
    have t1 : ((Add d1 d2).e != 0) = true := by simp [e2.2]
    have t2 : ((Sub d1 d1).e != 0) = true := by simp [e1.1]
    generalize Sub (Add d1 d2).d d2 = r2 at *
    generalize Add d1 d2 = r1 at *
    generalize Sub d1 d1 = r3 at *
    clear h0 e1 e2 G1 G2 h1 h2 SH SB
    go_enter Tryd.func7, Tryd.ntmps7
    go_wp2_with (first
      | (go_at_call 39; rw [HW0.out]; (with_reducible refine (C1.out _ _ _ D.out Xa.dv Xb.dv).mono ?_); rintro e wd ⟨bd, Ad, nd, cd, xd, rfl, hv, hb⟩; have s := hb.alloc hb.size (.cells #[.bool bd, .slice Ad nd cd, .int .i64 xd] 48); have Xa := Xa.below s; have Xb := Xb.below s; have Xd := BD.new hv.dv; have D := Lib.hid (D.out.trans (s.mono D.out.size)); clear hv hb s; obtain ⟨d_0, d_1, d_2⟩ := Xd.bx; obtain ⟨b_0, b_1, b_2⟩ := Xb.bx)
      | (go_at_call 40; (with_reducible refine (C2.out _ _ _ D.out Xd.dv Xb.dv).mono ?_); rintro e wf ⟨bf, Af, nf, cf, xf, rfl, hv, hb⟩; have s := hb.alloc hb.size (.cells #[.bool bf, .slice Af nf cf, .int .i64 xf] 48); have Xa := Xa.below s; have Xb := Xb.below s; have Xd := Xd.below s; have Xf := BD.new hv.dv; have D := Lib.hid (D.out.trans (s.mono D.out.size)); clear hv hb s; obtain ⟨a_0, a_1, a_2⟩ := Xa.bx)
      | (go_at_call 40; (with_reducible refine (C3.out _ _ _ D.out Xa.dv Xa.dv).mono ?_); rintro e wg ⟨bg, Ag, ng, cg, xg, rfl, hv, hb⟩; have s := hb.alloc hb.size (.cells #[.bool bg, .slice Ag ng cg, .int .i64 xg] 48); have Xa := Xa.below s; have Xb := Xb.below s; have Xf := Xf.below s; have Xg := BD.new hv.dv; have D := Lib.hid (D.out.trans (s.mono D.out.size)); clear hv hb s; obtain ⟨a_0, a_1, a_2⟩ := Xa.bx)
      | (go_at_call 49; (with_reducible refine (lives_c _ (HT.out _ D.out)).mono ?_); rintro e wl ⟨rfl, hb⟩; have Xa := Xa.below hb; have Xb := Xb.below hb; have Xf := Xf.below hb; have Xg := Xg.below hb; have D := Lib.hid (D.out.trans (hb.mono D.out.size)); clear hb; obtain ⟨a_0, a_1, a_2⟩ := Xa.bx)
      | (go_at_call 28; (with_reducible refine (CH.out _ _ Xa.dv).mono ?_); rintro e wc ⟨rfl, hb⟩; have Xa := Xa.below hb; have Xb := Xb.below hb; have Xf := Xf.below hb; have Xg := Xg.below hb; have D := Lib.hid (D.out.trans (hb.mono D.out.size)); clear hb)
      | (go_at_call 49; (with_reducible refine (lives_c _ (HT.out _ D.out)).mono ?_); rintro e wm ⟨rfl, hb⟩; have Xa := Xa.below hb; have Xb := Xb.below hb; have Xf := Xf.below hb; have Xg := Xg.below hb; have D := Lib.hid (D.out.trans (hb.mono D.out.size)); clear hb))
    go_ret
    exact ⟨rfl, D0.out.trans (D.out.mono D0.out.size)⟩
end DC
end Go.Proofs.YtnpeokgjfnobmaaDoor
