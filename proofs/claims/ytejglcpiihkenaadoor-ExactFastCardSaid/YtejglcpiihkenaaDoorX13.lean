/-
  ExactFast: the walk.
-/
import Derived.Test.YtejglcpiihkenaaDoorE19
namespace Go.Proofs.YtejglcpiihkenaaDoor
set_option linter.unusedVariables false
set_option linter.unusedSimpArgs false
open Go.RowKit
set_option linter.unusedVariables false
set_option linter.unusedSimpArgs false
namespace XC
open L NC NK DC RC SC PC QC IC
open Z (cmpv)
theorem T1_bd {x y : Int} (hx : 0 ≤ x ∧ x ≤ 18446744073709551615) (hy : 0 ≤ y ∧ y ≤ 18446744073709551615) : (0 ≤ (T1 x y).1 ∧ (T1 x y).1 ≤ 18446744073709551615) ∧ (0 ≤ (T1 x y).2.1 ∧ (T1 x y).2.1 ≤ 18446744073709551615) := by
  have bs := ad_bd hx hy
  have ba := sb_bd bs hx
  have br := sb_bd hy ba
  unfold T1
  split
  · exact ⟨⟨by decide, by decide⟩, by decide, by decide⟩
  · split
    · exact ⟨⟨by decide, by decide⟩, by decide, by decide⟩
    · exact ⟨bs, br⟩
set_option maxRecDepth 100000 in
set_option maxHeartbeats 16000000 in
theorem fastX_c (x y : Int) (w : World) (hx : 0 ≤ x ∧ x ≤ 18446744073709551615) (hy : 0 ≤ y ∧ y ≤ 18446744073709551615) (hT : TabD w) :
    Calls Tryd.prog 4 #[.int .u64 x, .int .u64 y] w fun e w' => e = .returned (.bool true) ∧ Below w.heap.size w w' := by
  have HT : Hid (∀ W : World, Below w.heap.size w W → TabD W) := fun W hW => hT.below hW
  have D := Lib.hid (Below.refl w.heap.size w)
  have LIV : Hid (∀ W : World, Below w.heap.size w W → Calls Tryd.prog 10 #[] W fun e w' => e = .returned (.bool true) ∧ Below W.heap.size W w') := fun W hW => livesX_c W (HT.out W hW)
  have TS : Hid (∀ W, Below w.heap.size w W → Calls Tryd.prog 16 #[.int .u64 x, .int .u64 y] W (DC.RetB W (T2v (T1 x y)))) := fun W hW => FastSum_c x y W hx hy (HT.out W hW)
  have T2S : Hid (∀ W, Below w.heap.size w W → Calls Tryd.prog 8 #[.int .u64 x, .int .u64 y] W (DC.RetB W (T2v (T2 x y)))) := fun W hW => TwoSum_c x y W hx hy (HT.out W hW)
  have AX : Hid (∀ W : World, Calls Tryd.prog 17 #[.int .u64 x] W fun e w' => e = .returned (.int .u64 (F.abs x)) ∧ W = w') := fun W => FloatC.Abs_c x hx.1 hx.2 W
  have AY : Hid (∀ W : World, Calls Tryd.prog 17 #[.int .u64 y] W fun e w' => e = .returned (.int .u64 (F.abs y)) ∧ W = w') := fun W => FloatC.Abs_c y hy.1 hy.2 W
  have VX : Hid (∀ W : World, Below w.heap.size w W → Calls Tryd.prog 9 #[.int .u64 x] W (RetVb W (OfD x).d ((OfD x).e == 0))) := fun W hW => value_c x W hx.1 hx.2 (HT.out W hW)
  have VY : Hid (∀ W : World, Below w.heap.size w W → Calls Tryd.prog 9 #[.int .u64 y] W (RetVb W (OfD y).d ((OfD y).e == 0))) := fun W hW => value_c y W hy.1 hy.2 (HT.out W hW)
  by_cases he : (T1 x y).2.2 = 0
  · obtain ⟨fx, fy⟩ := T1_ok hx hy he
    have tt : ((0 : Int) == 0) = true := rfl
    rw [(of_fit fx).1, tt] at VX
    rw [(of_fit fy).1, tt] at VY
    by_cases ha : F.abs x < F.abs y
    · have e : ∃ s r, T1 x y = (s, r, 0) := ⟨_, _, by rw [← he]⟩
      obtain ⟨s, r, e⟩ := e
      rw [e] at TS
      generalize F.abs x = ax at *
      generalize F.abs y = ay at *
      generalize (OfD x).d = da at *
      generalize (OfD y).d = db at *
      unfold T2v at TS
      dsimp only at TS
      clear e fx fy he hx hy hT tt T2S
      go_enter Tryd.func4, Tryd.ntmps4
      go_wp2_with (first
        | (go_at_call 16; (with_reducible refine (TS.out _ D.out).mono ?_); rintro e w1 ⟨rfl, hb⟩; have D := Lib.hid (D.out.trans (hb.mono D.out.size)); clear hb)
        | (go_at_call 9; (with_reducible refine (VX.out _ D.out).mono ?_); rintro e w2 ⟨ba, Aa, na, ca, xa, rfl, hv, hb⟩; have s := hb.alloc hb.size (.cells #[.bool ba, .slice Aa na ca, .int .i64 xa] 28); have Xa := BD.new hv.dv; have D := Lib.hid (D.out.trans (s.mono D.out.size)); clear hv hb s)
        | (go_at_call 9; (with_reducible refine (VY.out _ D.out).mono ?_); rintro e w3 ⟨bb, Ab, nb, cb, xb, rfl, hv, hb⟩; have s := hb.alloc hb.size (.cells #[.bool bb, .slice Ab nb cb, .int .i64 xb] 28); have Xb := BD.new hv.dv; have D := Lib.hid (D.out.trans (s.mono D.out.size)); clear hv hb s)
        | (go_at_call 10; (with_reducible refine (LIV.out _ D.out).mono ?_); rintro e w4 ⟨rfl, hb⟩; have D := Lib.hid (D.out.trans (hb.mono D.out.size)); clear hb)
        | (go_at_call 17; (with_reducible refine (AX.out _).mono ?_); rintro e w5 ⟨rfl, rfl⟩)
        | (go_at_call 17; (with_reducible refine (AY.out _).mono ?_); rintro e w6 ⟨rfl, rfl⟩))
      go_ret
      exact ⟨rfl, D.out⟩
    · obtain ⟨fb, hfb⟩ : ∃ fb, fara [x, y] = fb := ⟨_, rfl⟩
      have FR : Hid (∀ W : World, Calls Tryd.prog 11 #[.slice (some ⟨W.heap.size, 0, none⟩) 2 2] (W.alloc (.cells #[.int .u64 x, .int .u64 y] 22)) fun e w' => e = .returned (.bool fb) ∧ W.alloc (.cells #[.int .u64 x, .int .u64 y] 22) = w') := fun W => far2 W x y hx hy fb hfb
      cases fb
      · rw [fara2, Bool.or_eq_false_iff, decide_eq_false_iff_not, decide_eq_false_iff_not] at hfb
        obtain ⟨s, r, q, e, e', fs, fr, qr, b1, b2, b3, b4⟩ := fast_law fx fy (by omega) (by omega) (by omega)
        rw [e] at TS
        rw [e'] at T2S
        have VS : Hid (∀ W : World, Below w.heap.size w W → Calls Tryd.prog 9 #[.int .u64 s] W (RetVb W (OfD s).d true)) := fun W hW => by
          have := value_c s W fs.1 fs.2.1 (HT.out W hW)
          rwa [(of_fit fs).1, tt] at this
        have VR : Hid (∀ W : World, Below w.heap.size w W → Calls Tryd.prog 9 #[.int .u64 r] W (RetVb W (OfD r).d true)) := fun W hW => by
          have := value_c r W fr.1 fr.2.1 (HT.out W hW)
          rwa [(of_fit fr).1, tt] at this
        have BS : Hid (∀ (W : World) (ua ub uc ud : Value), Below w.heap.size w W → DV W ua (OfD x).d → DV W ub (OfD y).d → DV W uc (OfD s).d → DV W ud (OfD r).d → Calls Tryd.prog 12 #[ua, ub, uc, ud] W fun e w' => e = .returned (.bool true) ∧ Below W.heap.size W w') := fun W ua ub uc ud hW h1 h2 h3 h4 => bothSame_c _ _ _ _ _ _ _ _ W h1 h2 h3 h4 (HT.out W hW) b1 b2 b3 b4
        have bq : 0 ≤ q ∧ q ≤ 18446744073709551615 := by
          have := (T2_bd hx hy).2
          rw [e'] at this
          exact this
        have KQ : Hid (∀ W : World, Calls Tryd.prog 18 #[.int .u64 q] W fun e w' => e = .returned (.int .i64 (F.cls q)) ∧ W = w') := fun W => FloatC.Class_c q bq.1 bq.2 W
        have KR : Hid (∀ W : World, Calls Tryd.prog 18 #[.int .u64 r] W fun e w' => e = .returned (.int .i64 (F.cls r)) ∧ W = w') := fun W => FloatC.Class_c r fr.1 fr.2.1 W
        have qr : q = r ∨ ((q == r) = false ∧ F.cls q = 1 ∧ F.cls r = 1) := by
          by_cases h : q = r
          · exact .inl h
          · exact .inr ⟨by simp [h], qr.resolve_left h⟩
        unfold T2v at TS T2S
        dsimp only at TS T2S
        generalize F.cls q = cq at *
        generalize F.cls r = cr at *
        generalize F.abs x = ax at *
        generalize F.abs y = ay at *
        generalize (OfD x).d = da at *
        generalize (OfD y).d = db at *
        generalize (OfD s).d = dc at *
        generalize (OfD r).d = dd at *
        clear e e' fs fr b1 b2 b3 b4 hfb fx fy he hx hy hT tt bq
        rcases qr with rfl | ⟨q1, rfl, rfl⟩
        all_goals (
          go_enter Tryd.func4, Tryd.ntmps4
          go_wp2_with (first
            | (go_at_call 16; (with_reducible refine (TS.out _ D.out).mono ?_); rintro e w1 ⟨rfl, hb⟩; have D := Lib.hid (D.out.trans (hb.mono D.out.size)); clear hb)
            | (go_at_call 9; (with_reducible refine (VX.out _ D.out).mono ?_); rintro e w2 ⟨ba, Aa, na, ca, xa, rfl, hv, hb⟩; have s := hb.alloc hb.size (.cells #[.bool ba, .slice Aa na ca, .int .i64 xa] 28); have Xa := BD.new hv.dv; have D := Lib.hid (D.out.trans (s.mono D.out.size)); clear hv hb s)
            | (go_at_call 9; (with_reducible refine (VY.out _ D.out).mono ?_); rintro e w3 ⟨bb, Ab, nb, cb, xb, rfl, hv, hb⟩; have s := hb.alloc hb.size (.cells #[.bool bb, .slice Ab nb cb, .int .i64 xb] 28); have Xa := Xa.below s; have Xb := BD.new hv.dv; have D := Lib.hid (D.out.trans (s.mono D.out.size)); clear hv hb s)
            | (go_at_call 10; (with_reducible refine (LIV.out _ D.out).mono ?_); rintro e w4 ⟨rfl, hb⟩; have Xa := Xa.below hb; have Xb := Xb.below hb; have D := Lib.hid (D.out.trans (hb.mono D.out.size)); clear hb)
            | (go_at_call 17; (with_reducible refine (AX.out _).mono ?_); rintro e w5 ⟨rfl, rfl⟩)
            | (go_at_call 17; (with_reducible refine (AY.out _).mono ?_); rintro e w6 ⟨rfl, rfl⟩)
            | (go_at_call 11; (with_reducible refine (FR.out w4).mono ?_); rintro e w7 ⟨rfl, hw⟩; have s := al1 w4 (.cells #[.int .u64 x, .int .u64 y] 22); rw [hw] at s; clear hw; have Xa := Xa.below s; have Xb := Xb.below s; have D := Lib.hid (D.out.trans (s.mono D.out.size)); clear s)
            | (go_at_call 9; (with_reducible refine (VS.out _ D.out).mono ?_); rintro e w8 ⟨bc, Ac, nc, cc, xc, rfl, hv, hb⟩; have s := hb.alloc hb.size (.cells #[.bool bc, .slice Ac nc cc, .int .i64 xc] 28); have Xa := Xa.below s; have Xb := Xb.below s; have Xc := BD.new hv.dv; have D := Lib.hid (D.out.trans (s.mono D.out.size)); clear hv hb s)
            | (go_at_call 9; (with_reducible refine (VR.out _ D.out).mono ?_); rintro e w9 ⟨bd, Ad, nd, cd, xd, rfl, hv, hb⟩; have s := hb.alloc hb.size (.cells #[.bool bd, .slice Ad nd cd, .int .i64 xd] 28); have Xa := Xa.below s; have Xb := Xb.below s; have Xc := Xc.below s; have Xd := BD.new hv.dv; have D := Lib.hid (D.out.trans (s.mono D.out.size)); clear hv hb s)
            | (go_at_call 8; (with_reducible refine (T2S.out _ D.out).mono ?_); rintro e w10 ⟨rfl, hb⟩; have Xa := Xa.below hb; have Xb := Xb.below hb; have Xc := Xc.below hb; have Xd := Xd.below hb; have D := Lib.hid (D.out.trans (hb.mono D.out.size)); clear hb; obtain ⟨a_0, a_1, a_2⟩ := Xa.bx; obtain ⟨b_0, b_1, b_2⟩ := Xb.bx; obtain ⟨c_0, c_1, c_2⟩ := Xc.bx; obtain ⟨d_0, d_1, d_2⟩ := Xd.bx)
            | (go_at_call 12; (with_reducible refine (BS.out _ _ _ _ _ D.out Xa.dv Xb.dv Xc.dv Xd.dv).mono ?_); rintro e w11 ⟨rfl, hb⟩; have Xa := Xa.below hb; have Xb := Xb.below hb; have Xc := Xc.below hb; have Xd := Xd.below hb; have D := Lib.hid (D.out.trans (hb.mono D.out.size)); clear hb)
            | (go_at_call 18; (with_reducible refine (KQ.out _).mono ?_); rintro e w12 ⟨rfl, rfl⟩)
            | (go_at_call 18; (with_reducible refine (KR.out _).mono ?_); rintro e w13 ⟨rfl, rfl⟩))
          go_ret
          exact ⟨rfl, D.out⟩)
      · have e : ∃ s r, T1 x y = (s, r, 0) := ⟨_, _, by rw [← he]⟩
        obtain ⟨s, r, e⟩ := e
        rw [e] at TS
        generalize F.abs x = ax at *
        generalize F.abs y = ay at *
        generalize (OfD x).d = da at *
        generalize (OfD y).d = db at *
        unfold T2v at TS
        dsimp only at TS
        clear e fx fy he hx hy hT tt T2S hfb
        go_enter Tryd.func4, Tryd.ntmps4
        go_wp2_with (first
          | (go_at_call 16; (with_reducible refine (TS.out _ D.out).mono ?_); rintro e w1 ⟨rfl, hb⟩; have D := Lib.hid (D.out.trans (hb.mono D.out.size)); clear hb)
          | (go_at_call 9; (with_reducible refine (VX.out _ D.out).mono ?_); rintro e w2 ⟨ba, Aa, na, ca, xa, rfl, hv, hb⟩; have s := hb.alloc hb.size (.cells #[.bool ba, .slice Aa na ca, .int .i64 xa] 28); have Xa := BD.new hv.dv; have D := Lib.hid (D.out.trans (s.mono D.out.size)); clear hv hb s)
          | (go_at_call 9; (with_reducible refine (VY.out _ D.out).mono ?_); rintro e w3 ⟨bb, Ab, nb, cb, xb, rfl, hv, hb⟩; have s := hb.alloc hb.size (.cells #[.bool bb, .slice Ab nb cb, .int .i64 xb] 28); have Xb := BD.new hv.dv; have D := Lib.hid (D.out.trans (s.mono D.out.size)); clear hv hb s)
          | (go_at_call 10; (with_reducible refine (LIV.out _ D.out).mono ?_); rintro e w4 ⟨rfl, hb⟩; have D := Lib.hid (D.out.trans (hb.mono D.out.size)); clear hb)
          | (go_at_call 17; (with_reducible refine (AX.out _).mono ?_); rintro e w5 ⟨rfl, rfl⟩)
          | (go_at_call 17; (with_reducible refine (AY.out _).mono ?_); rintro e w6 ⟨rfl, rfl⟩)
          | (go_at_call 11; (with_reducible refine (FR.out w4).mono ?_); rintro e w7 ⟨rfl, hw⟩; have s := al1 w4 (.cells #[.int .u64 x, .int .u64 y] 22); rw [hw] at s; clear hw; have D := Lib.hid (D.out.trans (s.mono D.out.size)); clear s))
        go_ret
        exact ⟨rfl, D.out⟩
  · have e := T1_err he
    generalize (T1 x y).2.2 = er at *
    rw [e] at TS
    have k : (er != 0) = true := by simpa using he
    generalize ((OfD x).e == 0) = px at *
    generalize ((OfD y).e == 0) = py at *
    generalize (OfD x).d = da at *
    generalize (OfD y).d = db at *
    unfold T2v at TS
    dsimp only at TS
    clear e he hx hy hT T2S AX AY
    go_enter Tryd.func4, Tryd.ntmps4
    go_wp2_with (first
      | (go_at_call 16; (with_reducible refine (TS.out _ D.out).mono ?_); rintro e w1 ⟨rfl, hb⟩; have D := Lib.hid (D.out.trans (hb.mono D.out.size)); clear hb)
      | (go_at_call 9; (with_reducible refine (VX.out _ D.out).mono ?_); rintro e w2 ⟨ba, Aa, na, ca, xa, rfl, hv, hb⟩; have s := hb.alloc hb.size (.cells #[.bool ba, .slice Aa na ca, .int .i64 xa] 28); have Xa := BD.new hv.dv; have D := Lib.hid (D.out.trans (s.mono D.out.size)); clear hv hb s)
      | (go_at_call 9; (with_reducible refine (VY.out _ D.out).mono ?_); rintro e w3 ⟨bb, Ab, nb, cb, xb, rfl, hv, hb⟩; have s := hb.alloc hb.size (.cells #[.bool bb, .slice Ab nb cb, .int .i64 xb] 28); have Xb := BD.new hv.dv; have D := Lib.hid (D.out.trans (s.mono D.out.size)); clear hv hb s)
      | (go_at_call 10; (with_reducible refine (LIV.out _ D.out).mono ?_); rintro e w4 ⟨rfl, hb⟩; have D := Lib.hid (D.out.trans (hb.mono D.out.size)); clear hb))
    go_ret
    exact ⟨rfl, D.out⟩
end XC
end Go.Proofs.YtejglcpiihkenaaDoor
