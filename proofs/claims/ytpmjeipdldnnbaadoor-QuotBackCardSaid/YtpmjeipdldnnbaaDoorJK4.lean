/-
  QuotBack: the walk.
-/
import Derived.Test.YtpmjeipdldnnbaaDoorH7
import Derived.Test.YtpmjeipdldnnbaaDoorH8
namespace Go.Proofs.YtpmjeipdldnnbaaDoor
set_option linter.unusedVariables false
set_option linter.unusedSimpArgs false
open Go.RowKit
set_option linter.unusedVariables false
set_option linter.unusedSimpArgs false
namespace JC
open L NC NK DC RC SC PC
set_option maxRecDepth 100000 in
set_option maxHeartbeats 8000000 in
theorem back_c (x y mode : Int) (w : World) (hx : 0 ≤ x ∧ x ≤ 18446744073709551615) (hy : 0 ≤ y ∧ y ≤ 18446744073709551615) (hT : TabD w) :
    Calls Tryd.prog 5 #[.int .u64 x, .int .u64 y, .int .i64 mode] w fun e w' => e = .returned (.bool true) ∧ Below w.heap.size w w' := by
  have HT : Hid (∀ W : World, Below w.heap.size w W → TabD W) := fun W hW => hT.below hW
  have LV : Hid (∀ W : World, Below w.heap.size w W → Calls Tryd.prog 12 #[] W fun e w' => e = .returned (.bool true) ∧ Below W.heap.size W w') := fun W hW => livesJ_c W (HT.out W hW)
  have D := Lib.hid (Below.refl w.heap.size w)
  have bq := DT_bd mode hx hy
  obtain ⟨q, hq⟩ : ∃ q, (DT x y mode).1 = q := ⟨_, rfl⟩
  obtain ⟨lo, hlo⟩ : ∃ l, (DT x y mode).2.1 = l := ⟨_, rfl⟩
  obtain ⟨er, her⟩ : ∃ e, (DT x y mode).2.2 = e := ⟨_, rfl⟩
  rw [hq] at bq
  have A1 : Hid (∀ W : World, Below w.heap.size w W → Calls Tryd.prog 11 #[.int .u64 x, .int .u64 y, .int .i64 mode] W (DC.RetB W (.tuple #[.int .u64 q, .bool lo, .int .i64 er]))) := fun W hW => by
    have := Div_c x y mode W hx hy (HT.out W hW)
    unfold ATv at this
    rwa [hq, hlo, her] at this
  have VX : Hid (∀ W : World, Below w.heap.size w W → Calls Tryd.prog 16 #[.int .u64 x] W (RetVb W (OfD x).d ((OfD x).e == 0))) := fun W hW => value_c x W hx.1 hx.2 (HT.out W hW)
  have VY : Hid (∀ W : World, Below w.heap.size w W → Calls Tryd.prog 16 #[.int .u64 y] W (RetVb W (OfD y).d ((OfD y).e == 0))) := fun W hW => value_c y W hy.1 hy.2 (HT.out W hW)
  have VQ : Hid (∀ W : World, Below w.heap.size w W → Calls Tryd.prog 16 #[.int .u64 q] W (RetVb W (OfD q).d ((OfD q).e == 0))) := fun W hW => value_c q W bq.1 bq.2 (HT.out W hW)
  have ofi : ∀ a : Int, 0 ≤ a ∧ a ≤ 18446744073709551615 → (fi a ∧ ((OfD a).e == 0) = true) ∨ ((OfD a).e == 0) = false := fun a ha => by
    by_cases h : F.exq a = 2047
    · right; unfold OfD; rw [if_pos h]; rfl
    · left; exact ⟨⟨ha.1, ha.2, h⟩, by rw [(of_fit ⟨ha.1, ha.2, h⟩).1]; rfl⟩
  have gz : val y = 0 → fi y → Hid (∀ (W : World) (b : Bool) (A : Option Addr) (n c : Nat) (x' : Int), GV W b A n c x' (OfD y).d → 0 = n) := fun h0 _ W b A n c x' g => ((pv_zero g.pv).2 (by have : (OfD y).d.m = 0 := sc_zero.1 h0; rw [this]; rfl)).symm
  have gn : val y ≠ 0 → fi y → Hid (∀ (W : World) (b : Bool) (A : Option Addr) (n c : Nat) (x' : Int), GV W b A n c x' (OfD y).d → ¬ n = 0) := fun h0 _ W b A n c x' g h => h0 (by
    have h9 := (pv_zero g.pv).1 h
    have : (OfD y).d.m = 0 := by omega
    exact sc_zero.2 this)
  by_cases hm : er = 0
  · have hm' : 0 ≤ mode ∧ mode ≤ 4 := by
      rcases Classical.em (0 ≤ mode ∧ mode ≤ 4) with h | h
      · exact h
      · rw [DT_no h] at her; rw [← her] at hm; cases hm
    subst hm
    rcases ofi x hx with ⟨fx, ex⟩ | ex
    · rcases ofi y hy with ⟨fy, ey⟩ | ey
      · rcases ofi q bq with ⟨fq, eq⟩ | eq
        · by_cases vy : val y = 0
          · have gz := gz vy fy
            rw [ex] at VX
            rw [ey] at VY
            rw [eq] at VQ
            clear gn ofi hq hlo her fx fy fq ex ey eq vy hT hx hy hm' bq
            generalize (OfD x).d = dx at *
            generalize (OfD y).d = dy' at *
            generalize (OfD q).d = dq at *
            go_enter Tryd.func5, Tryd.ntmps5
            go_wp2_with (first
              | (go_at_call 11; (with_reducible refine (A1.out _ D.out).mono ?_); rintro e w1 ⟨rfl, hb⟩; have D := Lib.hid (D.out.trans (hb.mono D.out.size)); clear hb)
              | (go_at_call 16; (with_reducible refine (VX.out _ D.out).mono ?_); rintro e w2 ⟨ba, Aa, na, ca, xa, rfl, hv, hb⟩; have s := hb.alloc hb.size (.cells #[.bool ba, .slice Aa na ca, .int .i64 xa] 35); have Xa := BD.new hv.dv; have D := Lib.hid (D.out.trans (s.mono D.out.size)); clear hv hb s; obtain ⟨a_0, a_1, a_2⟩ := Xa.bx)
              | (go_at_call 16; (with_reducible refine (VY.out _ D.out).mono ?_); rintro e w3 ⟨bb, Ab, nb, cb, xb, rfl, hv, hb⟩; obtain rfl := gz.out _ _ _ _ _ _ hv; have s := hb.alloc hb.size (.cells #[.bool bb, .slice Ab 0 cb, .int .i64 xb] 35); have Xb := BD.new hv.dv; have Xa := Xa.below s; have D := Lib.hid (D.out.trans (s.mono D.out.size)); clear hv hb s; obtain ⟨a_0, a_1, a_2⟩ := Xa.bx; obtain ⟨b_0, b_1, b_2⟩ := Xb.bx)
              | (go_at_call 16; (with_reducible refine (VQ.out _ D.out).mono ?_); rintro e w4 ⟨bc, Ac, nc, cc, xc, rfl, hv, hb⟩; have s := hb.alloc hb.size (.cells #[.bool bc, .slice Ac nc cc, .int .i64 xc] 35); have Xc := BD.new hv.dv; have Xa := Xa.below s; have Xb := Xb.below s; have D := Lib.hid (D.out.trans (s.mono D.out.size)); clear hv hb s; obtain ⟨a_0, a_1, a_2⟩ := Xa.bx; obtain ⟨b_0, b_1, b_2⟩ := Xb.bx; obtain ⟨c_0, c_1, c_2⟩ := Xc.bx)
              | (go_at_call 12; (with_reducible refine (LV.out _ D.out).mono ?_); rintro e w5 ⟨rfl, hb⟩; have Xa := Xa.below hb; have Xb := Xb.below hb; have Xc := Xc.below hb; have D := Lib.hid (D.out.trans (hb.mono D.out.size)); clear hb; obtain ⟨a_0, a_1, a_2⟩ := Xa.bx; obtain ⟨b_0, b_1, b_2⟩ := Xb.bx; obtain ⟨c_0, c_1, c_2⟩ := Xc.bx))
            go_ret
            exact ⟨rfl, D.out⟩
          · have gn := gn vy fy
            have l := left_S fx fy fq
            have ll := left_lost hm' fx fy vy hq fq
            rw [hlo] at ll
            have gl : Hid (∀ (W : World) (b : Bool) (A : Option Addr) (n c : Nat) (x' : Int), GV W b A n c x' (LD x y q).d → (n = 0 ↔ lo = false)) := fun W b A n c x' g => by
              rw [pv_zero g.pv, ll]
              constructor
              · intro h
                have : (LD x y q).d.m = 0 := by omega
                exact sc_zero.2 this
              · intro h
                have : (LD x y q).d.m = 0 := sc_zero.1 h
                rw [this]; rfl
            have MU : Hid (∀ (W : World) (u v : Value), DV W u (OfD y).d → DV W v (OfD q).d → Below w.heap.size w W → Calls Tryd.prog 17 #[u, v] W (RetD W ⟨0, (PD y q).d⟩)) := fun W u v h1 h2 hW => by
              have := Mul_d u v _ _ W h1 h2 (HT.out W hW)
              have e : PD y q = DC.Mul (OfD y).d (OfD q).d := by unfold PD; rw [if_neg (by have := fy.2.2; have := fq.2.2; omega)]
              rw [← e] at this
              rwa [show PD y q = ⟨0, (PD y q).d⟩ by rw [← l.1]] at this
            have SU : Hid (∀ (W : World) (u v : Value), DV W u (OfD x).d → DV W v (PD y q).d → Below w.heap.size w W → Calls Tryd.prog 18 #[u, v] W (RetD W ⟨0, (LD x y q).d⟩)) := fun W u v h1 h2 hW => by
              have := Sub_d u v _ _ W h1 h2 (HT.out W hW)
              have e : DC.Sub (OfD x).d (PD y q).d = LD x y q := rfl
              rw [e] at this
              rwa [show LD x y q = ⟨0, (LD x y q).d⟩ by rw [← l.2.1]] at this
            have exq : ∀ a : Int, fi a → F.exq a ≤ 2046 := fun a h => by have := F.exq_bd a; have := h.2.2; omega
            have UX : Hid (∀ W : World, Calls Tryd.prog 19 #[.int .u64 x] W fun e w' => e = .returned (.tuple #[.int .i64 (F.ulp x), .int .i64 0]) ∧ W = w') := fun W => FloatC.Ulp_ok x hx.1 hx.2 (exq x fx) W
            have UY : Hid (∀ W : World, Calls Tryd.prog 19 #[.int .u64 y] W fun e w' => e = .returned (.tuple #[.int .i64 (F.ulp y), .int .i64 0]) ∧ W = w') := fun W => FloatC.Ulp_ok y hy.1 hy.2 (exq y fy) W
            have UQ : Hid (∀ W : World, Calls Tryd.prog 19 #[.int .u64 q] W fun e w' => e = .returned (.tuple #[.int .i64 (F.ulp q), .int .i64 0]) ∧ W = w') := fun W => FloatC.Ulp_ok q bq.1 bq.2 (exq q fq) W
            have CQ : Hid (∀ W : World, Calls Tryd.prog 13 #[.int .u64 q] W fun e w' => e = .returned (.int .i64 (F.cls q)) ∧ W = w') := fun W => FloatC.Class_c q bq.1 bq.2 W
            have NQ : Hid (∀ W : World, Calls Tryd.prog 14 #[.int .u64 q] W fun e w' => e = .returned (.int .u64 (F.neg q)) ∧ W = w') := fun W => FloatC.Neg_c q bq.1 bq.2 W
            have AQ : Hid (∀ W : World, Calls Tryd.prog 20 #[.int .u64 q] W fun e w' => e = .returned (.int .u64 (F.abs q)) ∧ W = w') := fun W => FloatC.Abs_c q bq.1 bq.2 W
            have bu1 := ulp_bd fx
            have bu2 := ulp_bd fy
            have bu3 := ulp_bd fq
            have bn := F.neg_bd q bq.1 bq.2
            have kk : min (F.ulp x) (F.ulp q + F.ulp y) < -1074 ∨ (¬ min (F.ulp x) (F.ulp q + F.ulp y) < -1074 ∧ (F.cls q != 3) = true) ∨ (¬ min (F.ulp x) (F.ulp q + F.ulp y) < -1074 ∧ (F.cls q != 3) = false ∧ (F.abs q == 9218868437227405311) = true) ∨
                (¬ min (F.ulp x) (F.ulp q + F.ulp y) < -1074 ∧ (F.cls q != 3) = false ∧ (F.abs q == 9218868437227405311) = false ∧ ∃ rr, FT (F.neg q) y x 0 = (rr, false, 0) ∧ fi rr ∧ OfD rr = ⟨0, (LD x y q).d⟩) := by
              by_cases h1 : min (F.ulp x) (F.ulp q + F.ulp y) < -1074
              · exact .inl h1
              · by_cases h2 : F.cls q = 3
                · by_cases h3 : F.abs q = 9218868437227405311
                  · exact .inr (.inr (.inl ⟨h1, by simp [h2], by simp [h3]⟩))
                  · exact .inr (.inr (.inr ⟨h1, by simp [h2], by simp [h3], back_p hm' fx fy vy hq fq h2 h3 (by omega)⟩))
                · exact .inr (.inl ⟨h1, by simp [h2]⟩)
            have FM : Hid (∀ W : World, ∀ rr, FT (F.neg q) y x 0 = (rr, false, 0) → Below w.heap.size w W → Calls Tryd.prog 21 #[.int .u64 (F.neg q), .int .u64 y, .int .u64 x, .int .i64 0] W (DC.RetB W (.tuple #[.int .u64 rr, .bool false, .int .i64 0]))) := fun W rr h hW => by
              have := Fma_c (F.neg q) y x 0 W bn hy hx (HT.out W hW)
              rw [h] at this
              exact this
            have okl := l.2.2.1
            have O2 : Hid (∀ W : World, Calls Tryd.prog 15 #[.slice (some ⟨W.heap.size, 0, none⟩) 2 2] (W.alloc (.cells #[.int .i64 0, .int .i64 0] 25)) fun e w' => e = .returned (.bool true) ∧ W.alloc (.cells #[.int .i64 0, .int .i64 0] 25) = w') := fun W => okn W [0, 0] true (by simp) rfl
            have O3 : Hid (∀ W : World, Calls Tryd.prog 15 #[.slice (some ⟨W.heap.size, 0, none⟩) 3 3] (W.alloc (.cells #[.int .i64 0, .int .i64 0, .int .i64 0] 25)) fun e w' => e = .returned (.bool true) ∧ W.alloc (.cells #[.int .i64 0, .int .i64 0, .int .i64 0] 25) = w') := fun W => okn W [0, 0, 0] true (by simp) rfl
            have VR : Hid (∀ rr, fi rr → OfD rr = ⟨0, (LD x y q).d⟩ → ∀ W : World, Below w.heap.size w W → Calls Tryd.prog 16 #[.int .u64 rr] W (RetVb W (LD x y q).d true)) := fun rr h1 h2 W hW => by
              have := value_c rr W h1.1 h1.2.1 (HT.out W hW)
              rw [h2] at this
              exact this
            have SM : Hid (∀ (W : World) (u v : Value), DV W u (LD x y q).d → DV W v (LD x y q).d → Below w.heap.size w W → Calls Tryd.prog 22 #[u, v] W (DC.RetB W (.bool true))) := fun W u v h1 h2 _ => same_true h1 h2 rfl okl
            rw [ex] at VX
            rw [ey] at VY
            rw [eq] at VQ
            clear gz ofi hq hlo her fx fy fq ex ey eq vy hT hx hy hm' bq exq l ll bn okl
            generalize (OfD x).d = dx at *
            generalize (OfD y).d = dy' at *
            generalize (OfD q).d = dq at *
            generalize (PD y q).d = dp at *
            generalize (LD x y q).d = dl at *
            generalize F.cls q = cq at *
            generalize F.abs q = aq at *
            generalize F.neg q = nq at *
            generalize F.ulp x = ux at *
            generalize F.ulp y = uy at *
            generalize F.ulp q = uq at *
            obtain ⟨mn, hmn⟩ : ∃ m, min ux (uq + uy) = m := ⟨_, rfl⟩
            rw [hmn] at kk
            cases lo
            · have gm : Hid (∀ (W : World) (b : Bool) (A : Option Addr) (n c : Nat) (x' : Int), GV W b A n c x' dl → 0 = n) := fun W b A n c x' g => ((gl.out W b A n c x' g).2 rfl).symm
              clear gl
              rcases kk with k1 | ⟨k1, k2⟩ | ⟨k1, k2, k3⟩ | ⟨k1, k2, k3, rr, r1, r2, r3⟩
              · go_enter Tryd.func5, Tryd.ntmps5
                go_wp2_with (first
                  | (go_at_call 11; (with_reducible refine (A1.out _ D.out).mono ?_); rintro e w1 ⟨rfl, hb⟩; have D := Lib.hid (D.out.trans (hb.mono D.out.size)); clear hb)
                  | (go_at_call 16; (with_reducible refine (VX.out _ D.out).mono ?_); rintro e w2 ⟨ba, Aa, na, ca, xa, rfl, hv, hb⟩; have s := hb.alloc hb.size (.cells #[.bool ba, .slice Aa na ca, .int .i64 xa] 35); have Xa := BD.new hv.dv; have D := Lib.hid (D.out.trans (s.mono D.out.size)); clear hv hb s; obtain ⟨a_0, a_1, a_2⟩ := Xa.bx)
                  | (go_at_call 16; (with_reducible refine (VY.out _ D.out).mono ?_); rintro e w3 ⟨bb, Ab, nb, cb, xb, rfl, hv, hb⟩; have gn1 := gn.out _ _ _ _ _ _ hv; have s := hb.alloc hb.size (.cells #[.bool bb, .slice Ab nb cb, .int .i64 xb] 35); have Xb := BD.new hv.dv; have Xa := Xa.below s; have D := Lib.hid (D.out.trans (s.mono D.out.size)); clear hv hb s; obtain ⟨a_0, a_1, a_2⟩ := Xa.bx; obtain ⟨b_0, b_1, b_2⟩ := Xb.bx)
                  | (go_at_call 16; (with_reducible refine (VQ.out _ D.out).mono ?_); rintro e w4 ⟨bc, Ac, nc, cc, xc, rfl, hv, hb⟩; have s := hb.alloc hb.size (.cells #[.bool bc, .slice Ac nc cc, .int .i64 xc] 35); have Xc := BD.new hv.dv; have Xa := Xa.below s; have Xb := Xb.below s; have D := Lib.hid (D.out.trans (s.mono D.out.size)); clear hv hb s; obtain ⟨a_0, a_1, a_2⟩ := Xa.bx; obtain ⟨b_0, b_1, b_2⟩ := Xb.bx; obtain ⟨c_0, c_1, c_2⟩ := Xc.bx)
                  | (go_at_call 12; (with_reducible refine (LV.out _ D.out).mono ?_); rintro e w5 ⟨rfl, hb⟩; have Xa := Xa.below hb; have Xb := Xb.below hb; have Xc := Xc.below hb; have D := Lib.hid (D.out.trans (hb.mono D.out.size)); clear hb; obtain ⟨a_0, a_1, a_2⟩ := Xa.bx; obtain ⟨b_0, b_1, b_2⟩ := Xb.bx; obtain ⟨c_0, c_1, c_2⟩ := Xc.bx)
                  | (go_at_call 17; (with_reducible refine (MU.out _ _ _ Xb.dv Xc.dv D.out).mono ?_); rintro e w6 ⟨bp, Ap, np, cp, xp, rfl, hv, hb⟩; have s := hb.alloc hb.size (.cells #[.bool bp, .slice Ap np cp, .int .i64 xp] 35); have Xp := BD.new hv.dv; have Xa := Xa.below s; have D := Lib.hid (D.out.trans (s.mono D.out.size)); clear hv hb s; obtain ⟨a_0, a_1, a_2⟩ := Xa.bx; obtain ⟨p_0, p_1, p_2⟩ := Xp.bx)
                  | (go_at_call 18; (with_reducible refine (SU.out _ _ _ Xa.dv Xp.dv D.out).mono ?_); rintro e w7 ⟨bl, Al, nl, cl, xl, rfl, hv, hb⟩; obtain rfl : 0 = nl := gm.out _ _ _ _ _ _ hv; have s := hb.alloc hb.size (.cells #[.bool bl, .slice Al 0 cl, .int .i64 xl] 35); have Xl := BD.new hv.dv; have D := Lib.hid (D.out.trans (s.mono D.out.size)); clear hv hb s; obtain ⟨l_0, l_1, l_2⟩ := Xl.bx)
                  | (go_at_call 15; have o2 := O2.out (w7.alloc (.cells #[.bool bl, .slice Al 0 cl, .int .i64 xl] 35)); simp only [World.size_alloc] at o2; (with_reducible refine o2.mono ?_); rintro e w8 ⟨rfl, hw⟩; have s := al1 (w7.alloc (.cells #[.bool bl, .slice Al 0 cl, .int .i64 xl] 35)) (.cells #[.int .i64 0, .int .i64 0] 25); rw [hw] at s; clear hw; have Xl := Xl.below s; have D := Lib.hid (D.out.trans (s.mono D.out.size)); clear s; obtain ⟨l_0, l_1, l_2⟩ := Xl.bx)
                  | (go_at_call 19; (with_reducible refine (UX.out _).mono ?_); rintro e v1 ⟨rfl, rfl⟩)
                  | (go_at_call 19; (with_reducible refine (UQ.out _).mono ?_); rintro e v2 ⟨rfl, rfl⟩)
                  | (go_at_call 19; (with_reducible refine (UY.out _).mono ?_); rintro e v3 ⟨rfl, rfl⟩)
                  | (go_at_call 15; (with_reducible refine (O3.out w8).mono ?_); rintro e w9 ⟨rfl, hw⟩; have s := al1 w8 (.cells #[.int .i64 0, .int .i64 0, .int .i64 0] 25); rw [hw] at s; clear hw; have Xl := Xl.below s; have D := Lib.hid (D.out.trans (s.mono D.out.size)); clear s; obtain ⟨l_0, l_1, l_2⟩ := Xl.bx)
                  | (go_at_call 13; (with_reducible refine (CQ.out _).mono ?_); rintro e v4 ⟨rfl, rfl⟩)
                  | (go_at_call 20; (with_reducible refine (AQ.out _).mono ?_); rintro e v5 ⟨rfl, rfl⟩)
                  | (go_at_call 14; (with_reducible refine (NQ.out _).mono ?_); rintro e v6 ⟨rfl, rfl⟩))
                go_ret
                exact ⟨rfl, D.out⟩
              · go_enter Tryd.func5, Tryd.ntmps5
                go_wp2_with (first
                  | (go_at_call 11; (with_reducible refine (A1.out _ D.out).mono ?_); rintro e w1 ⟨rfl, hb⟩; have D := Lib.hid (D.out.trans (hb.mono D.out.size)); clear hb)
                  | (go_at_call 16; (with_reducible refine (VX.out _ D.out).mono ?_); rintro e w2 ⟨ba, Aa, na, ca, xa, rfl, hv, hb⟩; have s := hb.alloc hb.size (.cells #[.bool ba, .slice Aa na ca, .int .i64 xa] 35); have Xa := BD.new hv.dv; have D := Lib.hid (D.out.trans (s.mono D.out.size)); clear hv hb s; obtain ⟨a_0, a_1, a_2⟩ := Xa.bx)
                  | (go_at_call 16; (with_reducible refine (VY.out _ D.out).mono ?_); rintro e w3 ⟨bb, Ab, nb, cb, xb, rfl, hv, hb⟩; have gn1 := gn.out _ _ _ _ _ _ hv; have s := hb.alloc hb.size (.cells #[.bool bb, .slice Ab nb cb, .int .i64 xb] 35); have Xb := BD.new hv.dv; have Xa := Xa.below s; have D := Lib.hid (D.out.trans (s.mono D.out.size)); clear hv hb s; obtain ⟨a_0, a_1, a_2⟩ := Xa.bx; obtain ⟨b_0, b_1, b_2⟩ := Xb.bx)
                  | (go_at_call 16; (with_reducible refine (VQ.out _ D.out).mono ?_); rintro e w4 ⟨bc, Ac, nc, cc, xc, rfl, hv, hb⟩; have s := hb.alloc hb.size (.cells #[.bool bc, .slice Ac nc cc, .int .i64 xc] 35); have Xc := BD.new hv.dv; have Xa := Xa.below s; have Xb := Xb.below s; have D := Lib.hid (D.out.trans (s.mono D.out.size)); clear hv hb s; obtain ⟨a_0, a_1, a_2⟩ := Xa.bx; obtain ⟨b_0, b_1, b_2⟩ := Xb.bx; obtain ⟨c_0, c_1, c_2⟩ := Xc.bx)
                  | (go_at_call 12; (with_reducible refine (LV.out _ D.out).mono ?_); rintro e w5 ⟨rfl, hb⟩; have Xa := Xa.below hb; have Xb := Xb.below hb; have Xc := Xc.below hb; have D := Lib.hid (D.out.trans (hb.mono D.out.size)); clear hb; obtain ⟨a_0, a_1, a_2⟩ := Xa.bx; obtain ⟨b_0, b_1, b_2⟩ := Xb.bx; obtain ⟨c_0, c_1, c_2⟩ := Xc.bx)
                  | (go_at_call 17; (with_reducible refine (MU.out _ _ _ Xb.dv Xc.dv D.out).mono ?_); rintro e w6 ⟨bp, Ap, np, cp, xp, rfl, hv, hb⟩; have s := hb.alloc hb.size (.cells #[.bool bp, .slice Ap np cp, .int .i64 xp] 35); have Xp := BD.new hv.dv; have Xa := Xa.below s; have D := Lib.hid (D.out.trans (s.mono D.out.size)); clear hv hb s; obtain ⟨a_0, a_1, a_2⟩ := Xa.bx; obtain ⟨p_0, p_1, p_2⟩ := Xp.bx)
                  | (go_at_call 18; (with_reducible refine (SU.out _ _ _ Xa.dv Xp.dv D.out).mono ?_); rintro e w7 ⟨bl, Al, nl, cl, xl, rfl, hv, hb⟩; obtain rfl : 0 = nl := gm.out _ _ _ _ _ _ hv; have s := hb.alloc hb.size (.cells #[.bool bl, .slice Al 0 cl, .int .i64 xl] 35); have Xl := BD.new hv.dv; have D := Lib.hid (D.out.trans (s.mono D.out.size)); clear hv hb s; obtain ⟨l_0, l_1, l_2⟩ := Xl.bx)
                  | (go_at_call 15; have o2 := O2.out (w7.alloc (.cells #[.bool bl, .slice Al 0 cl, .int .i64 xl] 35)); simp only [World.size_alloc] at o2; (with_reducible refine o2.mono ?_); rintro e w8 ⟨rfl, hw⟩; have s := al1 (w7.alloc (.cells #[.bool bl, .slice Al 0 cl, .int .i64 xl] 35)) (.cells #[.int .i64 0, .int .i64 0] 25); rw [hw] at s; clear hw; have Xl := Xl.below s; have D := Lib.hid (D.out.trans (s.mono D.out.size)); clear s; obtain ⟨l_0, l_1, l_2⟩ := Xl.bx)
                  | (go_at_call 19; (with_reducible refine (UX.out _).mono ?_); rintro e v1 ⟨rfl, rfl⟩)
                  | (go_at_call 19; (with_reducible refine (UQ.out _).mono ?_); rintro e v2 ⟨rfl, rfl⟩)
                  | (go_at_call 19; (with_reducible refine (UY.out _).mono ?_); rintro e v3 ⟨rfl, rfl⟩)
                  | (go_at_call 15; (with_reducible refine (O3.out w8).mono ?_); rintro e w9 ⟨rfl, hw⟩; have s := al1 w8 (.cells #[.int .i64 0, .int .i64 0, .int .i64 0] 25); rw [hw] at s; clear hw; have Xl := Xl.below s; have D := Lib.hid (D.out.trans (s.mono D.out.size)); clear s; obtain ⟨l_0, l_1, l_2⟩ := Xl.bx)
                  | (go_at_call 13; (with_reducible refine (CQ.out _).mono ?_); rintro e v4 ⟨rfl, rfl⟩)
                  | (go_at_call 20; (with_reducible refine (AQ.out _).mono ?_); rintro e v5 ⟨rfl, rfl⟩)
                  | (go_at_call 14; (with_reducible refine (NQ.out _).mono ?_); rintro e v6 ⟨rfl, rfl⟩))
                go_ret
                exact ⟨rfl, D.out⟩
              · go_enter Tryd.func5, Tryd.ntmps5
                go_wp2_with (first
                  | (go_at_call 11; (with_reducible refine (A1.out _ D.out).mono ?_); rintro e w1 ⟨rfl, hb⟩; have D := Lib.hid (D.out.trans (hb.mono D.out.size)); clear hb)
                  | (go_at_call 16; (with_reducible refine (VX.out _ D.out).mono ?_); rintro e w2 ⟨ba, Aa, na, ca, xa, rfl, hv, hb⟩; have s := hb.alloc hb.size (.cells #[.bool ba, .slice Aa na ca, .int .i64 xa] 35); have Xa := BD.new hv.dv; have D := Lib.hid (D.out.trans (s.mono D.out.size)); clear hv hb s; obtain ⟨a_0, a_1, a_2⟩ := Xa.bx)
                  | (go_at_call 16; (with_reducible refine (VY.out _ D.out).mono ?_); rintro e w3 ⟨bb, Ab, nb, cb, xb, rfl, hv, hb⟩; have gn1 := gn.out _ _ _ _ _ _ hv; have s := hb.alloc hb.size (.cells #[.bool bb, .slice Ab nb cb, .int .i64 xb] 35); have Xb := BD.new hv.dv; have Xa := Xa.below s; have D := Lib.hid (D.out.trans (s.mono D.out.size)); clear hv hb s; obtain ⟨a_0, a_1, a_2⟩ := Xa.bx; obtain ⟨b_0, b_1, b_2⟩ := Xb.bx)
                  | (go_at_call 16; (with_reducible refine (VQ.out _ D.out).mono ?_); rintro e w4 ⟨bc, Ac, nc, cc, xc, rfl, hv, hb⟩; have s := hb.alloc hb.size (.cells #[.bool bc, .slice Ac nc cc, .int .i64 xc] 35); have Xc := BD.new hv.dv; have Xa := Xa.below s; have Xb := Xb.below s; have D := Lib.hid (D.out.trans (s.mono D.out.size)); clear hv hb s; obtain ⟨a_0, a_1, a_2⟩ := Xa.bx; obtain ⟨b_0, b_1, b_2⟩ := Xb.bx; obtain ⟨c_0, c_1, c_2⟩ := Xc.bx)
                  | (go_at_call 12; (with_reducible refine (LV.out _ D.out).mono ?_); rintro e w5 ⟨rfl, hb⟩; have Xa := Xa.below hb; have Xb := Xb.below hb; have Xc := Xc.below hb; have D := Lib.hid (D.out.trans (hb.mono D.out.size)); clear hb; obtain ⟨a_0, a_1, a_2⟩ := Xa.bx; obtain ⟨b_0, b_1, b_2⟩ := Xb.bx; obtain ⟨c_0, c_1, c_2⟩ := Xc.bx)
                  | (go_at_call 17; (with_reducible refine (MU.out _ _ _ Xb.dv Xc.dv D.out).mono ?_); rintro e w6 ⟨bp, Ap, np, cp, xp, rfl, hv, hb⟩; have s := hb.alloc hb.size (.cells #[.bool bp, .slice Ap np cp, .int .i64 xp] 35); have Xp := BD.new hv.dv; have Xa := Xa.below s; have D := Lib.hid (D.out.trans (s.mono D.out.size)); clear hv hb s; obtain ⟨a_0, a_1, a_2⟩ := Xa.bx; obtain ⟨p_0, p_1, p_2⟩ := Xp.bx)
                  | (go_at_call 18; (with_reducible refine (SU.out _ _ _ Xa.dv Xp.dv D.out).mono ?_); rintro e w7 ⟨bl, Al, nl, cl, xl, rfl, hv, hb⟩; obtain rfl : 0 = nl := gm.out _ _ _ _ _ _ hv; have s := hb.alloc hb.size (.cells #[.bool bl, .slice Al 0 cl, .int .i64 xl] 35); have Xl := BD.new hv.dv; have D := Lib.hid (D.out.trans (s.mono D.out.size)); clear hv hb s; obtain ⟨l_0, l_1, l_2⟩ := Xl.bx)
                  | (go_at_call 15; have o2 := O2.out (w7.alloc (.cells #[.bool bl, .slice Al 0 cl, .int .i64 xl] 35)); simp only [World.size_alloc] at o2; (with_reducible refine o2.mono ?_); rintro e w8 ⟨rfl, hw⟩; have s := al1 (w7.alloc (.cells #[.bool bl, .slice Al 0 cl, .int .i64 xl] 35)) (.cells #[.int .i64 0, .int .i64 0] 25); rw [hw] at s; clear hw; have Xl := Xl.below s; have D := Lib.hid (D.out.trans (s.mono D.out.size)); clear s; obtain ⟨l_0, l_1, l_2⟩ := Xl.bx)
                  | (go_at_call 19; (with_reducible refine (UX.out _).mono ?_); rintro e v1 ⟨rfl, rfl⟩)
                  | (go_at_call 19; (with_reducible refine (UQ.out _).mono ?_); rintro e v2 ⟨rfl, rfl⟩)
                  | (go_at_call 19; (with_reducible refine (UY.out _).mono ?_); rintro e v3 ⟨rfl, rfl⟩)
                  | (go_at_call 15; (with_reducible refine (O3.out w8).mono ?_); rintro e w9 ⟨rfl, hw⟩; have s := al1 w8 (.cells #[.int .i64 0, .int .i64 0, .int .i64 0] 25); rw [hw] at s; clear hw; have Xl := Xl.below s; have D := Lib.hid (D.out.trans (s.mono D.out.size)); clear s; obtain ⟨l_0, l_1, l_2⟩ := Xl.bx)
                  | (go_at_call 13; (with_reducible refine (CQ.out _).mono ?_); rintro e v4 ⟨rfl, rfl⟩)
                  | (go_at_call 20; (with_reducible refine (AQ.out _).mono ?_); rintro e v5 ⟨rfl, rfl⟩)
                  | (go_at_call 14; (with_reducible refine (NQ.out _).mono ?_); rintro e v6 ⟨rfl, rfl⟩))
                go_ret
                exact ⟨rfl, D.out⟩
              · have VR := Lib.hid (VR.out rr r2 r3)
                have FM : Hid (∀ W : World, Below w.heap.size w W → Calls Tryd.prog 21 #[.int .u64 nq, .int .u64 y, .int .u64 x, .int .i64 0] W (DC.RetB W (.tuple #[.int .u64 rr, .bool false, .int .i64 0]))) := fun W hW => FM.out W rr r1 hW
                clear r1 r2 r3
                go_enter Tryd.func5, Tryd.ntmps5
                go_wp2_with (first
                  | (go_at_call 11; (with_reducible refine (A1.out _ D.out).mono ?_); rintro e w1 ⟨rfl, hb⟩; have D := Lib.hid (D.out.trans (hb.mono D.out.size)); clear hb)
                  | (go_at_call 16; (with_reducible refine (VX.out _ D.out).mono ?_); rintro e w2 ⟨ba, Aa, na, ca, xa, rfl, hv, hb⟩; have s := hb.alloc hb.size (.cells #[.bool ba, .slice Aa na ca, .int .i64 xa] 35); have Xa := BD.new hv.dv; have D := Lib.hid (D.out.trans (s.mono D.out.size)); clear hv hb s; obtain ⟨a_0, a_1, a_2⟩ := Xa.bx)
                  | (go_at_call 16; (with_reducible refine (VY.out _ D.out).mono ?_); rintro e w3 ⟨bb, Ab, nb, cb, xb, rfl, hv, hb⟩; have gn1 := gn.out _ _ _ _ _ _ hv; have s := hb.alloc hb.size (.cells #[.bool bb, .slice Ab nb cb, .int .i64 xb] 35); have Xb := BD.new hv.dv; have Xa := Xa.below s; have D := Lib.hid (D.out.trans (s.mono D.out.size)); clear hv hb s; obtain ⟨a_0, a_1, a_2⟩ := Xa.bx; obtain ⟨b_0, b_1, b_2⟩ := Xb.bx)
                  | (go_at_call 16; (with_reducible refine (VQ.out _ D.out).mono ?_); rintro e w4 ⟨bc, Ac, nc, cc, xc, rfl, hv, hb⟩; have s := hb.alloc hb.size (.cells #[.bool bc, .slice Ac nc cc, .int .i64 xc] 35); have Xc := BD.new hv.dv; have Xa := Xa.below s; have Xb := Xb.below s; have D := Lib.hid (D.out.trans (s.mono D.out.size)); clear hv hb s; obtain ⟨a_0, a_1, a_2⟩ := Xa.bx; obtain ⟨b_0, b_1, b_2⟩ := Xb.bx; obtain ⟨c_0, c_1, c_2⟩ := Xc.bx)
                  | (go_at_call 12; (with_reducible refine (LV.out _ D.out).mono ?_); rintro e w5 ⟨rfl, hb⟩; have Xa := Xa.below hb; have Xb := Xb.below hb; have Xc := Xc.below hb; have D := Lib.hid (D.out.trans (hb.mono D.out.size)); clear hb; obtain ⟨a_0, a_1, a_2⟩ := Xa.bx; obtain ⟨b_0, b_1, b_2⟩ := Xb.bx; obtain ⟨c_0, c_1, c_2⟩ := Xc.bx)
                  | (go_at_call 17; (with_reducible refine (MU.out _ _ _ Xb.dv Xc.dv D.out).mono ?_); rintro e w6 ⟨bp, Ap, np, cp, xp, rfl, hv, hb⟩; have s := hb.alloc hb.size (.cells #[.bool bp, .slice Ap np cp, .int .i64 xp] 35); have Xp := BD.new hv.dv; have Xa := Xa.below s; have D := Lib.hid (D.out.trans (s.mono D.out.size)); clear hv hb s; obtain ⟨a_0, a_1, a_2⟩ := Xa.bx; obtain ⟨p_0, p_1, p_2⟩ := Xp.bx)
                  | (go_at_call 18; (with_reducible refine (SU.out _ _ _ Xa.dv Xp.dv D.out).mono ?_); rintro e w7 ⟨bl, Al, nl, cl, xl, rfl, hv, hb⟩; obtain rfl : 0 = nl := gm.out _ _ _ _ _ _ hv; have s := hb.alloc hb.size (.cells #[.bool bl, .slice Al 0 cl, .int .i64 xl] 35); have Xl := BD.new hv.dv; have D := Lib.hid (D.out.trans (s.mono D.out.size)); clear hv hb s; obtain ⟨l_0, l_1, l_2⟩ := Xl.bx)
                  | (go_at_call 15; have o2 := O2.out (w7.alloc (.cells #[.bool bl, .slice Al 0 cl, .int .i64 xl] 35)); simp only [World.size_alloc] at o2; (with_reducible refine o2.mono ?_); rintro e w8 ⟨rfl, hw⟩; have s := al1 (w7.alloc (.cells #[.bool bl, .slice Al 0 cl, .int .i64 xl] 35)) (.cells #[.int .i64 0, .int .i64 0] 25); rw [hw] at s; clear hw; have Xl := Xl.below s; have D := Lib.hid (D.out.trans (s.mono D.out.size)); clear s; obtain ⟨l_0, l_1, l_2⟩ := Xl.bx)
                  | (go_at_call 19; (with_reducible refine (UX.out _).mono ?_); rintro e v1 ⟨rfl, rfl⟩)
                  | (go_at_call 19; (with_reducible refine (UQ.out _).mono ?_); rintro e v2 ⟨rfl, rfl⟩)
                  | (go_at_call 19; (with_reducible refine (UY.out _).mono ?_); rintro e v3 ⟨rfl, rfl⟩)
                  | (go_at_call 15; (with_reducible refine (O3.out w8).mono ?_); rintro e w9 ⟨rfl, hw⟩; have s := al1 w8 (.cells #[.int .i64 0, .int .i64 0, .int .i64 0] 25); rw [hw] at s; clear hw; have Xl := Xl.below s; have D := Lib.hid (D.out.trans (s.mono D.out.size)); clear s; obtain ⟨l_0, l_1, l_2⟩ := Xl.bx)
                  | (go_at_call 13; (with_reducible refine (CQ.out _).mono ?_); rintro e v4 ⟨rfl, rfl⟩)
                  | (go_at_call 20; (with_reducible refine (AQ.out _).mono ?_); rintro e v5 ⟨rfl, rfl⟩)
                  | (go_at_call 14; (with_reducible refine (NQ.out _).mono ?_); rintro e v6 ⟨rfl, rfl⟩)
                  | (go_at_call 21; (with_reducible refine (FM.out _ D.out).mono ?_); rintro e w10 ⟨rfl, hb⟩; have Xl := Xl.below hb; have D := Lib.hid (D.out.trans (hb.mono D.out.size)); clear hb; obtain ⟨l_0, l_1, l_2⟩ := Xl.bx)
                  | (go_at_call 16; (with_reducible refine (VR.out _ D.out).mono ?_); rintro e w11 ⟨bs, As, ns, cs, xs, rfl, hv, hb⟩; have s := hb.alloc hb.size (.cells #[.bool bs, .slice As ns cs, .int .i64 xs] 35); have Xs := BD.new hv.dv; have Xl := Xl.below s; have D := Lib.hid (D.out.trans (s.mono D.out.size)); clear hv hb s; obtain ⟨l_0, l_1, l_2⟩ := Xl.bx; obtain ⟨s_0, s_1, s_2⟩ := Xs.bx)
                  | (go_at_call 22; (with_reducible refine (SM.out _ _ _ Xs.dv Xl.dv D.out).mono ?_); rintro e w12 ⟨rfl, hb⟩; have D := Lib.hid (D.out.trans (hb.mono D.out.size)); clear hb))
                go_ret
                exact ⟨rfl, D.out⟩
            · have gm : Hid (∀ (W : World) (b : Bool) (A : Option Addr) (n c : Nat) (x' : Int), GV W b A n c x' dl → ¬ n = 0) := fun W b A n c x' g h => by have := (gl.out W b A n c x' g).1 h; cases this
              clear gl
              rcases kk with k1 | ⟨k1, k2⟩ | ⟨k1, k2, k3⟩ | ⟨k1, k2, k3, rr, r1, r2, r3⟩
              · go_enter Tryd.func5, Tryd.ntmps5
                go_wp2_with (first
                  | (go_at_call 11; (with_reducible refine (A1.out _ D.out).mono ?_); rintro e w1 ⟨rfl, hb⟩; have D := Lib.hid (D.out.trans (hb.mono D.out.size)); clear hb)
                  | (go_at_call 16; (with_reducible refine (VX.out _ D.out).mono ?_); rintro e w2 ⟨ba, Aa, na, ca, xa, rfl, hv, hb⟩; have s := hb.alloc hb.size (.cells #[.bool ba, .slice Aa na ca, .int .i64 xa] 35); have Xa := BD.new hv.dv; have D := Lib.hid (D.out.trans (s.mono D.out.size)); clear hv hb s; obtain ⟨a_0, a_1, a_2⟩ := Xa.bx)
                  | (go_at_call 16; (with_reducible refine (VY.out _ D.out).mono ?_); rintro e w3 ⟨bb, Ab, nb, cb, xb, rfl, hv, hb⟩; have gn1 := gn.out _ _ _ _ _ _ hv; have s := hb.alloc hb.size (.cells #[.bool bb, .slice Ab nb cb, .int .i64 xb] 35); have Xb := BD.new hv.dv; have Xa := Xa.below s; have D := Lib.hid (D.out.trans (s.mono D.out.size)); clear hv hb s; obtain ⟨a_0, a_1, a_2⟩ := Xa.bx; obtain ⟨b_0, b_1, b_2⟩ := Xb.bx)
                  | (go_at_call 16; (with_reducible refine (VQ.out _ D.out).mono ?_); rintro e w4 ⟨bc, Ac, nc, cc, xc, rfl, hv, hb⟩; have s := hb.alloc hb.size (.cells #[.bool bc, .slice Ac nc cc, .int .i64 xc] 35); have Xc := BD.new hv.dv; have Xa := Xa.below s; have Xb := Xb.below s; have D := Lib.hid (D.out.trans (s.mono D.out.size)); clear hv hb s; obtain ⟨a_0, a_1, a_2⟩ := Xa.bx; obtain ⟨b_0, b_1, b_2⟩ := Xb.bx; obtain ⟨c_0, c_1, c_2⟩ := Xc.bx)
                  | (go_at_call 12; (with_reducible refine (LV.out _ D.out).mono ?_); rintro e w5 ⟨rfl, hb⟩; have Xa := Xa.below hb; have Xb := Xb.below hb; have Xc := Xc.below hb; have D := Lib.hid (D.out.trans (hb.mono D.out.size)); clear hb; obtain ⟨a_0, a_1, a_2⟩ := Xa.bx; obtain ⟨b_0, b_1, b_2⟩ := Xb.bx; obtain ⟨c_0, c_1, c_2⟩ := Xc.bx)
                  | (go_at_call 17; (with_reducible refine (MU.out _ _ _ Xb.dv Xc.dv D.out).mono ?_); rintro e w6 ⟨bp, Ap, np, cp, xp, rfl, hv, hb⟩; have s := hb.alloc hb.size (.cells #[.bool bp, .slice Ap np cp, .int .i64 xp] 35); have Xp := BD.new hv.dv; have Xa := Xa.below s; have D := Lib.hid (D.out.trans (s.mono D.out.size)); clear hv hb s; obtain ⟨a_0, a_1, a_2⟩ := Xa.bx; obtain ⟨p_0, p_1, p_2⟩ := Xp.bx)
                  | (go_at_call 18; (with_reducible refine (SU.out _ _ _ Xa.dv Xp.dv D.out).mono ?_); rintro e w7 ⟨bl, Al, nl, cl, xl, rfl, hv, hb⟩; have gl1 : ¬ nl = 0 := gm.out _ _ _ _ _ _ hv; have s := hb.alloc hb.size (.cells #[.bool bl, .slice Al nl cl, .int .i64 xl] 35); have Xl := BD.new hv.dv; have D := Lib.hid (D.out.trans (s.mono D.out.size)); clear hv hb s; obtain ⟨l_0, l_1, l_2⟩ := Xl.bx)
                  | (go_at_call 15; have o2 := O2.out (w7.alloc (.cells #[.bool bl, .slice Al nl cl, .int .i64 xl] 35)); simp only [World.size_alloc] at o2; (with_reducible refine o2.mono ?_); rintro e w8 ⟨rfl, hw⟩; have s := al1 (w7.alloc (.cells #[.bool bl, .slice Al nl cl, .int .i64 xl] 35)) (.cells #[.int .i64 0, .int .i64 0] 25); rw [hw] at s; clear hw; have Xl := Xl.below s; have D := Lib.hid (D.out.trans (s.mono D.out.size)); clear s; obtain ⟨l_0, l_1, l_2⟩ := Xl.bx)
                  | (go_at_call 19; (with_reducible refine (UX.out _).mono ?_); rintro e v1 ⟨rfl, rfl⟩)
                  | (go_at_call 19; (with_reducible refine (UQ.out _).mono ?_); rintro e v2 ⟨rfl, rfl⟩)
                  | (go_at_call 19; (with_reducible refine (UY.out _).mono ?_); rintro e v3 ⟨rfl, rfl⟩)
                  | (go_at_call 15; (with_reducible refine (O3.out w8).mono ?_); rintro e w9 ⟨rfl, hw⟩; have s := al1 w8 (.cells #[.int .i64 0, .int .i64 0, .int .i64 0] 25); rw [hw] at s; clear hw; have Xl := Xl.below s; have D := Lib.hid (D.out.trans (s.mono D.out.size)); clear s; obtain ⟨l_0, l_1, l_2⟩ := Xl.bx)
                  | (go_at_call 13; (with_reducible refine (CQ.out _).mono ?_); rintro e v4 ⟨rfl, rfl⟩)
                  | (go_at_call 20; (with_reducible refine (AQ.out _).mono ?_); rintro e v5 ⟨rfl, rfl⟩)
                  | (go_at_call 14; (with_reducible refine (NQ.out _).mono ?_); rintro e v6 ⟨rfl, rfl⟩))
                go_ret
                exact ⟨rfl, D.out⟩
              · go_enter Tryd.func5, Tryd.ntmps5
                go_wp2_with (first
                  | (go_at_call 11; (with_reducible refine (A1.out _ D.out).mono ?_); rintro e w1 ⟨rfl, hb⟩; have D := Lib.hid (D.out.trans (hb.mono D.out.size)); clear hb)
                  | (go_at_call 16; (with_reducible refine (VX.out _ D.out).mono ?_); rintro e w2 ⟨ba, Aa, na, ca, xa, rfl, hv, hb⟩; have s := hb.alloc hb.size (.cells #[.bool ba, .slice Aa na ca, .int .i64 xa] 35); have Xa := BD.new hv.dv; have D := Lib.hid (D.out.trans (s.mono D.out.size)); clear hv hb s; obtain ⟨a_0, a_1, a_2⟩ := Xa.bx)
                  | (go_at_call 16; (with_reducible refine (VY.out _ D.out).mono ?_); rintro e w3 ⟨bb, Ab, nb, cb, xb, rfl, hv, hb⟩; have gn1 := gn.out _ _ _ _ _ _ hv; have s := hb.alloc hb.size (.cells #[.bool bb, .slice Ab nb cb, .int .i64 xb] 35); have Xb := BD.new hv.dv; have Xa := Xa.below s; have D := Lib.hid (D.out.trans (s.mono D.out.size)); clear hv hb s; obtain ⟨a_0, a_1, a_2⟩ := Xa.bx; obtain ⟨b_0, b_1, b_2⟩ := Xb.bx)
                  | (go_at_call 16; (with_reducible refine (VQ.out _ D.out).mono ?_); rintro e w4 ⟨bc, Ac, nc, cc, xc, rfl, hv, hb⟩; have s := hb.alloc hb.size (.cells #[.bool bc, .slice Ac nc cc, .int .i64 xc] 35); have Xc := BD.new hv.dv; have Xa := Xa.below s; have Xb := Xb.below s; have D := Lib.hid (D.out.trans (s.mono D.out.size)); clear hv hb s; obtain ⟨a_0, a_1, a_2⟩ := Xa.bx; obtain ⟨b_0, b_1, b_2⟩ := Xb.bx; obtain ⟨c_0, c_1, c_2⟩ := Xc.bx)
                  | (go_at_call 12; (with_reducible refine (LV.out _ D.out).mono ?_); rintro e w5 ⟨rfl, hb⟩; have Xa := Xa.below hb; have Xb := Xb.below hb; have Xc := Xc.below hb; have D := Lib.hid (D.out.trans (hb.mono D.out.size)); clear hb; obtain ⟨a_0, a_1, a_2⟩ := Xa.bx; obtain ⟨b_0, b_1, b_2⟩ := Xb.bx; obtain ⟨c_0, c_1, c_2⟩ := Xc.bx)
                  | (go_at_call 17; (with_reducible refine (MU.out _ _ _ Xb.dv Xc.dv D.out).mono ?_); rintro e w6 ⟨bp, Ap, np, cp, xp, rfl, hv, hb⟩; have s := hb.alloc hb.size (.cells #[.bool bp, .slice Ap np cp, .int .i64 xp] 35); have Xp := BD.new hv.dv; have Xa := Xa.below s; have D := Lib.hid (D.out.trans (s.mono D.out.size)); clear hv hb s; obtain ⟨a_0, a_1, a_2⟩ := Xa.bx; obtain ⟨p_0, p_1, p_2⟩ := Xp.bx)
                  | (go_at_call 18; (with_reducible refine (SU.out _ _ _ Xa.dv Xp.dv D.out).mono ?_); rintro e w7 ⟨bl, Al, nl, cl, xl, rfl, hv, hb⟩; have gl1 : ¬ nl = 0 := gm.out _ _ _ _ _ _ hv; have s := hb.alloc hb.size (.cells #[.bool bl, .slice Al nl cl, .int .i64 xl] 35); have Xl := BD.new hv.dv; have D := Lib.hid (D.out.trans (s.mono D.out.size)); clear hv hb s; obtain ⟨l_0, l_1, l_2⟩ := Xl.bx)
                  | (go_at_call 15; have o2 := O2.out (w7.alloc (.cells #[.bool bl, .slice Al nl cl, .int .i64 xl] 35)); simp only [World.size_alloc] at o2; (with_reducible refine o2.mono ?_); rintro e w8 ⟨rfl, hw⟩; have s := al1 (w7.alloc (.cells #[.bool bl, .slice Al nl cl, .int .i64 xl] 35)) (.cells #[.int .i64 0, .int .i64 0] 25); rw [hw] at s; clear hw; have Xl := Xl.below s; have D := Lib.hid (D.out.trans (s.mono D.out.size)); clear s; obtain ⟨l_0, l_1, l_2⟩ := Xl.bx)
                  | (go_at_call 19; (with_reducible refine (UX.out _).mono ?_); rintro e v1 ⟨rfl, rfl⟩)
                  | (go_at_call 19; (with_reducible refine (UQ.out _).mono ?_); rintro e v2 ⟨rfl, rfl⟩)
                  | (go_at_call 19; (with_reducible refine (UY.out _).mono ?_); rintro e v3 ⟨rfl, rfl⟩)
                  | (go_at_call 15; (with_reducible refine (O3.out w8).mono ?_); rintro e w9 ⟨rfl, hw⟩; have s := al1 w8 (.cells #[.int .i64 0, .int .i64 0, .int .i64 0] 25); rw [hw] at s; clear hw; have Xl := Xl.below s; have D := Lib.hid (D.out.trans (s.mono D.out.size)); clear s; obtain ⟨l_0, l_1, l_2⟩ := Xl.bx)
                  | (go_at_call 13; (with_reducible refine (CQ.out _).mono ?_); rintro e v4 ⟨rfl, rfl⟩)
                  | (go_at_call 20; (with_reducible refine (AQ.out _).mono ?_); rintro e v5 ⟨rfl, rfl⟩)
                  | (go_at_call 14; (with_reducible refine (NQ.out _).mono ?_); rintro e v6 ⟨rfl, rfl⟩))
                go_ret
                exact ⟨rfl, D.out⟩
              · go_enter Tryd.func5, Tryd.ntmps5
                go_wp2_with (first
                  | (go_at_call 11; (with_reducible refine (A1.out _ D.out).mono ?_); rintro e w1 ⟨rfl, hb⟩; have D := Lib.hid (D.out.trans (hb.mono D.out.size)); clear hb)
                  | (go_at_call 16; (with_reducible refine (VX.out _ D.out).mono ?_); rintro e w2 ⟨ba, Aa, na, ca, xa, rfl, hv, hb⟩; have s := hb.alloc hb.size (.cells #[.bool ba, .slice Aa na ca, .int .i64 xa] 35); have Xa := BD.new hv.dv; have D := Lib.hid (D.out.trans (s.mono D.out.size)); clear hv hb s; obtain ⟨a_0, a_1, a_2⟩ := Xa.bx)
                  | (go_at_call 16; (with_reducible refine (VY.out _ D.out).mono ?_); rintro e w3 ⟨bb, Ab, nb, cb, xb, rfl, hv, hb⟩; have gn1 := gn.out _ _ _ _ _ _ hv; have s := hb.alloc hb.size (.cells #[.bool bb, .slice Ab nb cb, .int .i64 xb] 35); have Xb := BD.new hv.dv; have Xa := Xa.below s; have D := Lib.hid (D.out.trans (s.mono D.out.size)); clear hv hb s; obtain ⟨a_0, a_1, a_2⟩ := Xa.bx; obtain ⟨b_0, b_1, b_2⟩ := Xb.bx)
                  | (go_at_call 16; (with_reducible refine (VQ.out _ D.out).mono ?_); rintro e w4 ⟨bc, Ac, nc, cc, xc, rfl, hv, hb⟩; have s := hb.alloc hb.size (.cells #[.bool bc, .slice Ac nc cc, .int .i64 xc] 35); have Xc := BD.new hv.dv; have Xa := Xa.below s; have Xb := Xb.below s; have D := Lib.hid (D.out.trans (s.mono D.out.size)); clear hv hb s; obtain ⟨a_0, a_1, a_2⟩ := Xa.bx; obtain ⟨b_0, b_1, b_2⟩ := Xb.bx; obtain ⟨c_0, c_1, c_2⟩ := Xc.bx)
                  | (go_at_call 12; (with_reducible refine (LV.out _ D.out).mono ?_); rintro e w5 ⟨rfl, hb⟩; have Xa := Xa.below hb; have Xb := Xb.below hb; have Xc := Xc.below hb; have D := Lib.hid (D.out.trans (hb.mono D.out.size)); clear hb; obtain ⟨a_0, a_1, a_2⟩ := Xa.bx; obtain ⟨b_0, b_1, b_2⟩ := Xb.bx; obtain ⟨c_0, c_1, c_2⟩ := Xc.bx)
                  | (go_at_call 17; (with_reducible refine (MU.out _ _ _ Xb.dv Xc.dv D.out).mono ?_); rintro e w6 ⟨bp, Ap, np, cp, xp, rfl, hv, hb⟩; have s := hb.alloc hb.size (.cells #[.bool bp, .slice Ap np cp, .int .i64 xp] 35); have Xp := BD.new hv.dv; have Xa := Xa.below s; have D := Lib.hid (D.out.trans (s.mono D.out.size)); clear hv hb s; obtain ⟨a_0, a_1, a_2⟩ := Xa.bx; obtain ⟨p_0, p_1, p_2⟩ := Xp.bx)
                  | (go_at_call 18; (with_reducible refine (SU.out _ _ _ Xa.dv Xp.dv D.out).mono ?_); rintro e w7 ⟨bl, Al, nl, cl, xl, rfl, hv, hb⟩; have gl1 : ¬ nl = 0 := gm.out _ _ _ _ _ _ hv; have s := hb.alloc hb.size (.cells #[.bool bl, .slice Al nl cl, .int .i64 xl] 35); have Xl := BD.new hv.dv; have D := Lib.hid (D.out.trans (s.mono D.out.size)); clear hv hb s; obtain ⟨l_0, l_1, l_2⟩ := Xl.bx)
                  | (go_at_call 15; have o2 := O2.out (w7.alloc (.cells #[.bool bl, .slice Al nl cl, .int .i64 xl] 35)); simp only [World.size_alloc] at o2; (with_reducible refine o2.mono ?_); rintro e w8 ⟨rfl, hw⟩; have s := al1 (w7.alloc (.cells #[.bool bl, .slice Al nl cl, .int .i64 xl] 35)) (.cells #[.int .i64 0, .int .i64 0] 25); rw [hw] at s; clear hw; have Xl := Xl.below s; have D := Lib.hid (D.out.trans (s.mono D.out.size)); clear s; obtain ⟨l_0, l_1, l_2⟩ := Xl.bx)
                  | (go_at_call 19; (with_reducible refine (UX.out _).mono ?_); rintro e v1 ⟨rfl, rfl⟩)
                  | (go_at_call 19; (with_reducible refine (UQ.out _).mono ?_); rintro e v2 ⟨rfl, rfl⟩)
                  | (go_at_call 19; (with_reducible refine (UY.out _).mono ?_); rintro e v3 ⟨rfl, rfl⟩)
                  | (go_at_call 15; (with_reducible refine (O3.out w8).mono ?_); rintro e w9 ⟨rfl, hw⟩; have s := al1 w8 (.cells #[.int .i64 0, .int .i64 0, .int .i64 0] 25); rw [hw] at s; clear hw; have Xl := Xl.below s; have D := Lib.hid (D.out.trans (s.mono D.out.size)); clear s; obtain ⟨l_0, l_1, l_2⟩ := Xl.bx)
                  | (go_at_call 13; (with_reducible refine (CQ.out _).mono ?_); rintro e v4 ⟨rfl, rfl⟩)
                  | (go_at_call 20; (with_reducible refine (AQ.out _).mono ?_); rintro e v5 ⟨rfl, rfl⟩)
                  | (go_at_call 14; (with_reducible refine (NQ.out _).mono ?_); rintro e v6 ⟨rfl, rfl⟩))
                go_ret
                exact ⟨rfl, D.out⟩
              · have VR := Lib.hid (VR.out rr r2 r3)
                have FM : Hid (∀ W : World, Below w.heap.size w W → Calls Tryd.prog 21 #[.int .u64 nq, .int .u64 y, .int .u64 x, .int .i64 0] W (DC.RetB W (.tuple #[.int .u64 rr, .bool false, .int .i64 0]))) := fun W hW => FM.out W rr r1 hW
                clear r1 r2 r3
                go_enter Tryd.func5, Tryd.ntmps5
                go_wp2_with (first
                  | (go_at_call 11; (with_reducible refine (A1.out _ D.out).mono ?_); rintro e w1 ⟨rfl, hb⟩; have D := Lib.hid (D.out.trans (hb.mono D.out.size)); clear hb)
                  | (go_at_call 16; (with_reducible refine (VX.out _ D.out).mono ?_); rintro e w2 ⟨ba, Aa, na, ca, xa, rfl, hv, hb⟩; have s := hb.alloc hb.size (.cells #[.bool ba, .slice Aa na ca, .int .i64 xa] 35); have Xa := BD.new hv.dv; have D := Lib.hid (D.out.trans (s.mono D.out.size)); clear hv hb s; obtain ⟨a_0, a_1, a_2⟩ := Xa.bx)
                  | (go_at_call 16; (with_reducible refine (VY.out _ D.out).mono ?_); rintro e w3 ⟨bb, Ab, nb, cb, xb, rfl, hv, hb⟩; have gn1 := gn.out _ _ _ _ _ _ hv; have s := hb.alloc hb.size (.cells #[.bool bb, .slice Ab nb cb, .int .i64 xb] 35); have Xb := BD.new hv.dv; have Xa := Xa.below s; have D := Lib.hid (D.out.trans (s.mono D.out.size)); clear hv hb s; obtain ⟨a_0, a_1, a_2⟩ := Xa.bx; obtain ⟨b_0, b_1, b_2⟩ := Xb.bx)
                  | (go_at_call 16; (with_reducible refine (VQ.out _ D.out).mono ?_); rintro e w4 ⟨bc, Ac, nc, cc, xc, rfl, hv, hb⟩; have s := hb.alloc hb.size (.cells #[.bool bc, .slice Ac nc cc, .int .i64 xc] 35); have Xc := BD.new hv.dv; have Xa := Xa.below s; have Xb := Xb.below s; have D := Lib.hid (D.out.trans (s.mono D.out.size)); clear hv hb s; obtain ⟨a_0, a_1, a_2⟩ := Xa.bx; obtain ⟨b_0, b_1, b_2⟩ := Xb.bx; obtain ⟨c_0, c_1, c_2⟩ := Xc.bx)
                  | (go_at_call 12; (with_reducible refine (LV.out _ D.out).mono ?_); rintro e w5 ⟨rfl, hb⟩; have Xa := Xa.below hb; have Xb := Xb.below hb; have Xc := Xc.below hb; have D := Lib.hid (D.out.trans (hb.mono D.out.size)); clear hb; obtain ⟨a_0, a_1, a_2⟩ := Xa.bx; obtain ⟨b_0, b_1, b_2⟩ := Xb.bx; obtain ⟨c_0, c_1, c_2⟩ := Xc.bx)
                  | (go_at_call 17; (with_reducible refine (MU.out _ _ _ Xb.dv Xc.dv D.out).mono ?_); rintro e w6 ⟨bp, Ap, np, cp, xp, rfl, hv, hb⟩; have s := hb.alloc hb.size (.cells #[.bool bp, .slice Ap np cp, .int .i64 xp] 35); have Xp := BD.new hv.dv; have Xa := Xa.below s; have D := Lib.hid (D.out.trans (s.mono D.out.size)); clear hv hb s; obtain ⟨a_0, a_1, a_2⟩ := Xa.bx; obtain ⟨p_0, p_1, p_2⟩ := Xp.bx)
                  | (go_at_call 18; (with_reducible refine (SU.out _ _ _ Xa.dv Xp.dv D.out).mono ?_); rintro e w7 ⟨bl, Al, nl, cl, xl, rfl, hv, hb⟩; have gl1 : ¬ nl = 0 := gm.out _ _ _ _ _ _ hv; have s := hb.alloc hb.size (.cells #[.bool bl, .slice Al nl cl, .int .i64 xl] 35); have Xl := BD.new hv.dv; have D := Lib.hid (D.out.trans (s.mono D.out.size)); clear hv hb s; obtain ⟨l_0, l_1, l_2⟩ := Xl.bx)
                  | (go_at_call 15; have o2 := O2.out (w7.alloc (.cells #[.bool bl, .slice Al nl cl, .int .i64 xl] 35)); simp only [World.size_alloc] at o2; (with_reducible refine o2.mono ?_); rintro e w8 ⟨rfl, hw⟩; have s := al1 (w7.alloc (.cells #[.bool bl, .slice Al nl cl, .int .i64 xl] 35)) (.cells #[.int .i64 0, .int .i64 0] 25); rw [hw] at s; clear hw; have Xl := Xl.below s; have D := Lib.hid (D.out.trans (s.mono D.out.size)); clear s; obtain ⟨l_0, l_1, l_2⟩ := Xl.bx)
                  | (go_at_call 19; (with_reducible refine (UX.out _).mono ?_); rintro e v1 ⟨rfl, rfl⟩)
                  | (go_at_call 19; (with_reducible refine (UQ.out _).mono ?_); rintro e v2 ⟨rfl, rfl⟩)
                  | (go_at_call 19; (with_reducible refine (UY.out _).mono ?_); rintro e v3 ⟨rfl, rfl⟩)
                  | (go_at_call 15; (with_reducible refine (O3.out w8).mono ?_); rintro e w9 ⟨rfl, hw⟩; have s := al1 w8 (.cells #[.int .i64 0, .int .i64 0, .int .i64 0] 25); rw [hw] at s; clear hw; have Xl := Xl.below s; have D := Lib.hid (D.out.trans (s.mono D.out.size)); clear s; obtain ⟨l_0, l_1, l_2⟩ := Xl.bx)
                  | (go_at_call 13; (with_reducible refine (CQ.out _).mono ?_); rintro e v4 ⟨rfl, rfl⟩)
                  | (go_at_call 20; (with_reducible refine (AQ.out _).mono ?_); rintro e v5 ⟨rfl, rfl⟩)
                  | (go_at_call 14; (with_reducible refine (NQ.out _).mono ?_); rintro e v6 ⟨rfl, rfl⟩)
                  | (go_at_call 21; (with_reducible refine (FM.out _ D.out).mono ?_); rintro e w10 ⟨rfl, hb⟩; have Xl := Xl.below hb; have D := Lib.hid (D.out.trans (hb.mono D.out.size)); clear hb; obtain ⟨l_0, l_1, l_2⟩ := Xl.bx)
                  | (go_at_call 16; (with_reducible refine (VR.out _ D.out).mono ?_); rintro e w11 ⟨bs, As, ns, cs, xs, rfl, hv, hb⟩; have s := hb.alloc hb.size (.cells #[.bool bs, .slice As ns cs, .int .i64 xs] 35); have Xs := BD.new hv.dv; have Xl := Xl.below s; have D := Lib.hid (D.out.trans (s.mono D.out.size)); clear hv hb s; obtain ⟨l_0, l_1, l_2⟩ := Xl.bx; obtain ⟨s_0, s_1, s_2⟩ := Xs.bx)
                  | (go_at_call 22; (with_reducible refine (SM.out _ _ _ Xs.dv Xl.dv D.out).mono ?_); rintro e w12 ⟨rfl, hb⟩; have D := Lib.hid (D.out.trans (hb.mono D.out.size)); clear hb))
                go_ret
                exact ⟨rfl, D.out⟩
        · rw [ex] at VX
          rw [ey] at VY
          rw [eq] at VQ
          clear gz gn ofi hq hlo her fx fy ex ey eq hT hx hy hm' bq
          generalize (OfD x).d = dx at *
          generalize (OfD y).d = dy' at *
          generalize (OfD q).d = dq at *
          go_enter Tryd.func5, Tryd.ntmps5
          go_wp2_with (first
            | (go_at_call 11; (with_reducible refine (A1.out _ D.out).mono ?_); rintro e w1 ⟨rfl, hb⟩; have D := Lib.hid (D.out.trans (hb.mono D.out.size)); clear hb)
            | (go_at_call 16; (with_reducible refine (VX.out _ D.out).mono ?_); rintro e w2 ⟨ba, Aa, na, ca, xa, rfl, hv, hb⟩; have s := hb.alloc hb.size (.cells #[.bool ba, .slice Aa na ca, .int .i64 xa] 35); have Xa := BD.new hv.dv; have D := Lib.hid (D.out.trans (s.mono D.out.size)); clear hv hb s; obtain ⟨a_0, a_1, a_2⟩ := Xa.bx)
            | (go_at_call 16; (with_reducible refine (VY.out _ D.out).mono ?_); rintro e w3 ⟨bb, Ab, nb, cb, xb, rfl, hv, hb⟩; have s := hb.alloc hb.size (.cells #[.bool bb, .slice Ab nb cb, .int .i64 xb] 35); have Xb := BD.new hv.dv; have Xa := Xa.below s; have D := Lib.hid (D.out.trans (s.mono D.out.size)); clear hv hb s; obtain ⟨a_0, a_1, a_2⟩ := Xa.bx; obtain ⟨b_0, b_1, b_2⟩ := Xb.bx)
            | (go_at_call 16; (with_reducible refine (VQ.out _ D.out).mono ?_); rintro e w4 ⟨bc, Ac, nc, cc, xc, rfl, hv, hb⟩; have s := hb.alloc hb.size (.cells #[.bool bc, .slice Ac nc cc, .int .i64 xc] 35); have Xc := BD.new hv.dv; have Xa := Xa.below s; have Xb := Xb.below s; have D := Lib.hid (D.out.trans (s.mono D.out.size)); clear hv hb s; obtain ⟨a_0, a_1, a_2⟩ := Xa.bx; obtain ⟨b_0, b_1, b_2⟩ := Xb.bx; obtain ⟨c_0, c_1, c_2⟩ := Xc.bx)
            | (go_at_call 12; (with_reducible refine (LV.out _ D.out).mono ?_); rintro e w5 ⟨rfl, hb⟩; have Xa := Xa.below hb; have Xb := Xb.below hb; have Xc := Xc.below hb; have D := Lib.hid (D.out.trans (hb.mono D.out.size)); clear hb; obtain ⟨a_0, a_1, a_2⟩ := Xa.bx; obtain ⟨b_0, b_1, b_2⟩ := Xb.bx; obtain ⟨c_0, c_1, c_2⟩ := Xc.bx))
          go_ret
          exact ⟨rfl, D.out⟩
      · rw [ex] at VX
        rw [ey] at VY
        generalize ((OfD q).e == 0) = oq at *
        clear gz gn ofi hq hlo her fx ex ey hT hx hy hm' bq
        generalize (OfD x).d = dx at *
        generalize (OfD y).d = dy' at *
        generalize (OfD q).d = dq at *
        go_enter Tryd.func5, Tryd.ntmps5
        go_wp2_with (first
          | (go_at_call 11; (with_reducible refine (A1.out _ D.out).mono ?_); rintro e w1 ⟨rfl, hb⟩; have D := Lib.hid (D.out.trans (hb.mono D.out.size)); clear hb)
          | (go_at_call 16; (with_reducible refine (VX.out _ D.out).mono ?_); rintro e w2 ⟨ba, Aa, na, ca, xa, rfl, hv, hb⟩; have s := hb.alloc hb.size (.cells #[.bool ba, .slice Aa na ca, .int .i64 xa] 35); have Xa := BD.new hv.dv; have D := Lib.hid (D.out.trans (s.mono D.out.size)); clear hv hb s; obtain ⟨a_0, a_1, a_2⟩ := Xa.bx)
          | (go_at_call 16; (with_reducible refine (VY.out _ D.out).mono ?_); rintro e w3 ⟨bb, Ab, nb, cb, xb, rfl, hv, hb⟩; have s := hb.alloc hb.size (.cells #[.bool bb, .slice Ab nb cb, .int .i64 xb] 35); have Xb := BD.new hv.dv; have Xa := Xa.below s; have D := Lib.hid (D.out.trans (s.mono D.out.size)); clear hv hb s; obtain ⟨a_0, a_1, a_2⟩ := Xa.bx; obtain ⟨b_0, b_1, b_2⟩ := Xb.bx)
          | (go_at_call 16; (with_reducible refine (VQ.out _ D.out).mono ?_); rintro e w4 ⟨bc, Ac, nc, cc, xc, rfl, hv, hb⟩; have s := hb.alloc hb.size (.cells #[.bool bc, .slice Ac nc cc, .int .i64 xc] 35); have Xc := BD.new hv.dv; have Xa := Xa.below s; have Xb := Xb.below s; have D := Lib.hid (D.out.trans (s.mono D.out.size)); clear hv hb s; obtain ⟨a_0, a_1, a_2⟩ := Xa.bx; obtain ⟨b_0, b_1, b_2⟩ := Xb.bx; obtain ⟨c_0, c_1, c_2⟩ := Xc.bx)
          | (go_at_call 12; (with_reducible refine (LV.out _ D.out).mono ?_); rintro e w5 ⟨rfl, hb⟩; have Xa := Xa.below hb; have Xb := Xb.below hb; have Xc := Xc.below hb; have D := Lib.hid (D.out.trans (hb.mono D.out.size)); clear hb; obtain ⟨a_0, a_1, a_2⟩ := Xa.bx; obtain ⟨b_0, b_1, b_2⟩ := Xb.bx; obtain ⟨c_0, c_1, c_2⟩ := Xc.bx))
        go_ret
        exact ⟨rfl, D.out⟩
    · rw [ex] at VX
      generalize ((OfD y).e == 0) = oy at *
      generalize ((OfD q).e == 0) = oq at *
      clear gz gn ofi hq hlo her ex hT hx hy hm' bq
      generalize (OfD x).d = dx at *
      generalize (OfD y).d = dy' at *
      generalize (OfD q).d = dq at *
      go_enter Tryd.func5, Tryd.ntmps5
      go_wp2_with (first
        | (go_at_call 11; (with_reducible refine (A1.out _ D.out).mono ?_); rintro e w1 ⟨rfl, hb⟩; have D := Lib.hid (D.out.trans (hb.mono D.out.size)); clear hb)
        | (go_at_call 16; (with_reducible refine (VX.out _ D.out).mono ?_); rintro e w2 ⟨ba, Aa, na, ca, xa, rfl, hv, hb⟩; have s := hb.alloc hb.size (.cells #[.bool ba, .slice Aa na ca, .int .i64 xa] 35); have Xa := BD.new hv.dv; have D := Lib.hid (D.out.trans (s.mono D.out.size)); clear hv hb s; obtain ⟨a_0, a_1, a_2⟩ := Xa.bx)
        | (go_at_call 16; (with_reducible refine (VY.out _ D.out).mono ?_); rintro e w3 ⟨bb, Ab, nb, cb, xb, rfl, hv, hb⟩; have s := hb.alloc hb.size (.cells #[.bool bb, .slice Ab nb cb, .int .i64 xb] 35); have Xb := BD.new hv.dv; have Xa := Xa.below s; have D := Lib.hid (D.out.trans (s.mono D.out.size)); clear hv hb s; obtain ⟨a_0, a_1, a_2⟩ := Xa.bx; obtain ⟨b_0, b_1, b_2⟩ := Xb.bx)
        | (go_at_call 16; (with_reducible refine (VQ.out _ D.out).mono ?_); rintro e w4 ⟨bc, Ac, nc, cc, xc, rfl, hv, hb⟩; have s := hb.alloc hb.size (.cells #[.bool bc, .slice Ac nc cc, .int .i64 xc] 35); have Xc := BD.new hv.dv; have Xa := Xa.below s; have Xb := Xb.below s; have D := Lib.hid (D.out.trans (s.mono D.out.size)); clear hv hb s; obtain ⟨a_0, a_1, a_2⟩ := Xa.bx; obtain ⟨b_0, b_1, b_2⟩ := Xb.bx; obtain ⟨c_0, c_1, c_2⟩ := Xc.bx)
        | (go_at_call 12; (with_reducible refine (LV.out _ D.out).mono ?_); rintro e w5 ⟨rfl, hb⟩; have Xa := Xa.below hb; have Xb := Xb.below hb; have Xc := Xc.below hb; have D := Lib.hid (D.out.trans (hb.mono D.out.size)); clear hb; obtain ⟨a_0, a_1, a_2⟩ := Xa.bx; obtain ⟨b_0, b_1, b_2⟩ := Xb.bx; obtain ⟨c_0, c_1, c_2⟩ := Xc.bx))
      go_ret
      exact ⟨rfl, D.out⟩
  · have te : (er != 0) = true := by simp [hm]
    generalize ((OfD x).e == 0) = ox at *
    generalize ((OfD y).e == 0) = oy at *
    generalize ((OfD q).e == 0) = oq at *
    clear gz gn ofi hq hlo her hm hT hx hy bq
    generalize (OfD x).d = dx at *
    generalize (OfD y).d = dy' at *
    generalize (OfD q).d = dq at *
    go_enter Tryd.func5, Tryd.ntmps5
    go_wp2_with (first
      | (go_at_call 11; (with_reducible refine (A1.out _ D.out).mono ?_); rintro e w1 ⟨rfl, hb⟩; have D := Lib.hid (D.out.trans (hb.mono D.out.size)); clear hb)
      | (go_at_call 16; (with_reducible refine (VX.out _ D.out).mono ?_); rintro e w2 ⟨ba, Aa, na, ca, xa, rfl, hv, hb⟩; have s := hb.alloc hb.size (.cells #[.bool ba, .slice Aa na ca, .int .i64 xa] 35); have Xa := BD.new hv.dv; have D := Lib.hid (D.out.trans (s.mono D.out.size)); clear hv hb s; obtain ⟨a_0, a_1, a_2⟩ := Xa.bx)
      | (go_at_call 16; (with_reducible refine (VY.out _ D.out).mono ?_); rintro e w3 ⟨bb, Ab, nb, cb, xb, rfl, hv, hb⟩; have s := hb.alloc hb.size (.cells #[.bool bb, .slice Ab nb cb, .int .i64 xb] 35); have Xb := BD.new hv.dv; have Xa := Xa.below s; have D := Lib.hid (D.out.trans (s.mono D.out.size)); clear hv hb s; obtain ⟨a_0, a_1, a_2⟩ := Xa.bx; obtain ⟨b_0, b_1, b_2⟩ := Xb.bx)
      | (go_at_call 16; (with_reducible refine (VQ.out _ D.out).mono ?_); rintro e w4 ⟨bc, Ac, nc, cc, xc, rfl, hv, hb⟩; have s := hb.alloc hb.size (.cells #[.bool bc, .slice Ac nc cc, .int .i64 xc] 35); have Xc := BD.new hv.dv; have Xa := Xa.below s; have Xb := Xb.below s; have D := Lib.hid (D.out.trans (s.mono D.out.size)); clear hv hb s; obtain ⟨a_0, a_1, a_2⟩ := Xa.bx; obtain ⟨b_0, b_1, b_2⟩ := Xb.bx; obtain ⟨c_0, c_1, c_2⟩ := Xc.bx)
      | (go_at_call 12; (with_reducible refine (LV.out _ D.out).mono ?_); rintro e w5 ⟨rfl, hb⟩; have Xa := Xa.below hb; have Xb := Xb.below hb; have Xc := Xc.below hb; have D := Lib.hid (D.out.trans (hb.mono D.out.size)); clear hb; obtain ⟨a_0, a_1, a_2⟩ := Xa.bx; obtain ⟨b_0, b_1, b_2⟩ := Xb.bx; obtain ⟨c_0, c_1, c_2⟩ := Xc.bx))
    go_ret
    exact ⟨rfl, D.out⟩
end JC
end Go.Proofs.YtpmjeipdldnnbaaDoor
