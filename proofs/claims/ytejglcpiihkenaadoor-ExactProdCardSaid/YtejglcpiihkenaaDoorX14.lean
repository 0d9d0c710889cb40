/-
  ExactProd: the walk.
-/
import Derived.Test.YtejglcpiihkenaaDoorE19
namespace Go.Proofs.YtejglcpiihkenaaDoor
set_option linter.unusedVariables false
set_option linter.unusedSimpArgs false
open Go.RowKit
set_option linter.unusedVariables false
set_option linter.unusedSimpArgs false
namespace XC
open L NC NK DC RC SC PC QC IC
open Z (cmpv)
theorem dz_dv (W : World) : DV W (.agg #[.bool false, .slice none 0 0, .int .i64 0]) dz := (GV.zero W).dv
set_option maxRecDepth 100000 in
set_option maxHeartbeats 16000000 in
theorem prodX_c (x y : Int) (w : World) (hx : 0 ≤ x ∧ x ≤ 18446744073709551615) (hy : 0 ≤ y ∧ y ≤ 18446744073709551615) (hT : TabD w) :
    Calls Tryd.prog 5 #[.int .u64 x, .int .u64 y] w fun e w' => e = .returned (.bool true) ∧ Below w.heap.size w w' := by
  have HT : Hid (∀ W : World, Below w.heap.size w W → TabD W) := fun W hW => hT.below hW
  have D := Lib.hid (Below.refl w.heap.size w)
  have LIV : Hid (∀ W : World, Below w.heap.size w W → Calls Tryd.prog 10 #[] W fun e w' => e = .returned (.bool true) ∧ Below W.heap.size W w') := fun W hW => livesX_c W (HT.out W hW)
  have TS : Hid (∀ W, Below w.heap.size w W → Calls Tryd.prog 19 #[.int .u64 x, .int .u64 y] W (DC.RetB W (T2v (P2 x y)))) := fun W hW => TwoProd_c x y W hx hy (HT.out W hW)
  have VX : Hid (∀ W : World, Below w.heap.size w W → Calls Tryd.prog 9 #[.int .u64 x] W (RetVb W (OfD x).d ((OfD x).e == 0))) := fun W hW => value_c x W hx.1 hx.2 (HT.out W hW)
  have VY : Hid (∀ W : World, Below w.heap.size w W → Calls Tryd.prog 9 #[.int .u64 y] W (RetVb W (OfD y).d ((OfD y).e == 0))) := fun W hW => value_c y W hy.1 hy.2 (HT.out W hW)
  by_cases he : (P2 x y).2.2 = 0
  · obtain ⟨fx, fy, -⟩ := P2_ok hx hy he
    have tt : ((0 : Int) == 0) = true := rfl
    rw [(of_fit fx).1, tt] at VX
    rw [(of_fit fy).1, tt] at VY
    have UX : Hid (∀ W : World, Calls Tryd.prog 13 #[.int .u64 x] W fun e w' => e = .returned (.tuple #[.int .i64 (F.ulp x), .int .i64 0]) ∧ W = w') := fun W => FloatC.Ulp_ok x fx.1 fx.2.1 (by have := F.exq_bd x; have := fx.2.2; omega) W
    have UY : Hid (∀ W : World, Calls Tryd.prog 13 #[.int .u64 y] W fun e w' => e = .returned (.tuple #[.int .i64 (F.ulp y), .int .i64 0]) ∧ W = w') := fun W => FloatC.Ulp_ok y fy.1 fy.2.1 (by have := F.exq_bd y; have := fy.2.2; omega) W
    have ux := ulp_bd fx
    have uy := ulp_bd fy
    have O2 : Hid (∀ W : World, Calls Tryd.prog 15 #[.slice (some ⟨W.heap.size, 0, none⟩) 2 2] (W.alloc (.cells #[.int .i64 0, .int .i64 0] 23)) fun e w' => e = .returned (.bool true) ∧ W.alloc (.cells #[.int .i64 0, .int .i64 0] 23) = w') := fun W => RC.ok2' W 0 0 true rfl
    have wu : wrap64 (F.ulp x + F.ulp y) = F.ulp x + F.ulp y := by unfold wrap64; omega
    by_cases hu : F.ulp x + F.ulp y < -1074
    · have e : ∃ s r, P2 x y = (s, r, 0) := ⟨_, _, by rw [← he]⟩
      obtain ⟨s, r, e⟩ := e
      rw [e] at TS
      generalize F.ulp x = u at *
      generalize F.ulp y = v at *
      generalize (OfD x).d = da at *
      generalize (OfD y).d = db at *
      unfold T2v at TS
      dsimp only at TS
      clear e fx fy he hx hy hT tt ux uy
      go_enter Tryd.func5, Tryd.ntmps5
      go_wp2_with (first
        | (go_at_call 19; (with_reducible refine (TS.out _ D.out).mono ?_); rintro e w1 ⟨rfl, hb⟩; have D := Lib.hid (D.out.trans (hb.mono D.out.size)); clear hb)
        | (go_at_call 9; (with_reducible refine (VX.out _ D.out).mono ?_); rintro e w2 ⟨ba, Aa, na, ca, xa, rfl, hv, hb⟩; have s := hb.alloc hb.size (.cells #[.bool ba, .slice Aa na ca, .int .i64 xa] 28); have Xa := BD.new hv.dv; have D := Lib.hid (D.out.trans (s.mono D.out.size)); clear hv hb s)
        | (go_at_call 9; (with_reducible refine (VY.out _ D.out).mono ?_); rintro e w3 ⟨bb, Ab, nb, cb, xb, rfl, hv, hb⟩; have s := hb.alloc hb.size (.cells #[.bool bb, .slice Ab nb cb, .int .i64 xb] 28); have Xb := BD.new hv.dv; have D := Lib.hid (D.out.trans (s.mono D.out.size)); clear hv hb s)
        | (go_at_call 10; (with_reducible refine (LIV.out _ D.out).mono ?_); rintro e w4 ⟨rfl, hb⟩; have D := Lib.hid (D.out.trans (hb.mono D.out.size)); clear hb)
        | (go_at_call 13; (with_reducible refine (UX.out _).mono ?_); rintro e w5 ⟨rfl, rfl⟩)
        | (go_at_call 13; (with_reducible refine (UY.out _).mono ?_); rintro e w6 ⟨rfl, rfl⟩)
        | (go_at_call 15; (with_reducible refine (O2.out w4).mono ?_); rintro e w7 ⟨rfl, hw⟩; have s := al1 w4 (.cells #[.int .i64 0, .int .i64 0] 23); rw [hw] at s; clear hw; have D := Lib.hid (D.out.trans (s.mono D.out.size)); clear s))
      go_ret
      exact ⟨rfl, D.out⟩
    · obtain ⟨p, r, e, fp, fr, m1, b1, b2, b3, b4⟩ := prod_law he hx hy (by omega)
      rw [e] at TS
      have VP : Hid (∀ W : World, Below w.heap.size w W → Calls Tryd.prog 9 #[.int .u64 p] W (RetVb W (OfD p).d true)) := fun W hW => by
        have := value_c p W fp.1 fp.2.1 (HT.out W hW)
        rwa [(of_fit fp).1, tt] at this
      have VR : Hid (∀ W : World, Below w.heap.size w W → Calls Tryd.prog 9 #[.int .u64 r] W (RetVb W (OfD r).d true)) := fun W hW => by
        have := value_c r W fr.1 fr.2.1 (HT.out W hW)
        rwa [(of_fit fr).1, tt] at this
      have MU : Hid (∀ (W : World) (u v : Value), Below w.heap.size w W → DV W u (OfD x).d → DV W v (OfD y).d → Calls Tryd.prog 20 #[u, v] W (RetD W ⟨0, (DC.Mul (OfD x).d (OfD y).d).d⟩)) := fun W u v hW h1 h2 => by
        have := Mul_d u v _ _ W h1 h2 (HT.out W hW)
        rwa [re_eq' _ m1] at this
      have BS : Hid (∀ (W : World) (ua uc ud : Value), Below w.heap.size w W → DV W ua (DC.Mul (OfD x).d (OfD y).d).d → DV W uc (OfD p).d → DV W ud (OfD r).d → Calls Tryd.prog 12 #[ua, .agg #[.bool false, .slice none 0 0, .int .i64 0], uc, ud] W fun e w' => e = .returned (.bool true) ∧ Below W.heap.size W w') := fun W ua uc ud hW h1 h3 h4 => bothSame_c _ _ _ _ _ _ _ _ W h1 (dz_dv W) h3 h4 (HT.out W hW) b1 b2 b3 (by rw [b3]; exact b4)
      unfold T2v at TS
      dsimp only at TS
      generalize F.ulp x = u at *
      generalize F.ulp y = v at *
      generalize (DC.Mul (OfD x).d (OfD y).d).d = dm at *
      generalize (OfD x).d = da at *
      generalize (OfD y).d = db at *
      generalize (OfD p).d = dc at *
      generalize (OfD r).d = dd at *
      clear e fp fr m1 b1 b2 b3 b4 fx fy he hx hy hT tt ux uy
      go_enter Tryd.func5, Tryd.ntmps5
      go_wp2_with (first
        | (go_at_call 19; (with_reducible refine (TS.out _ D.out).mono ?_); rintro e w1 ⟨rfl, hb⟩; have D := Lib.hid (D.out.trans (hb.mono D.out.size)); clear hb)
        | (go_at_call 9; (with_reducible refine (VX.out _ D.out).mono ?_); rintro e w2 ⟨ba, Aa, na, ca, xa, rfl, hv, hb⟩; have s := hb.alloc hb.size (.cells #[.bool ba, .slice Aa na ca, .int .i64 xa] 28); have Xa := BD.new hv.dv; have D := Lib.hid (D.out.trans (s.mono D.out.size)); clear hv hb s)
        | (go_at_call 9; (with_reducible refine (VY.out _ D.out).mono ?_); rintro e w3 ⟨bb, Ab, nb, cb, xb, rfl, hv, hb⟩; have s := hb.alloc hb.size (.cells #[.bool bb, .slice Ab nb cb, .int .i64 xb] 28); have Xa := Xa.below s; have Xb := BD.new hv.dv; have D := Lib.hid (D.out.trans (s.mono D.out.size)); clear hv hb s)
        | (go_at_call 10; (with_reducible refine (LIV.out _ D.out).mono ?_); rintro e w4 ⟨rfl, hb⟩; have Xa := Xa.below hb; have Xb := Xb.below hb; have D := Lib.hid (D.out.trans (hb.mono D.out.size)); clear hb)
        | (go_at_call 13; (with_reducible refine (UX.out _).mono ?_); rintro e w5 ⟨rfl, rfl⟩)
        | (go_at_call 13; (with_reducible refine (UY.out _).mono ?_); rintro e w6 ⟨rfl, rfl⟩)
        | (go_at_call 15; (with_reducible refine (O2.out w4).mono ?_); rintro e w7 ⟨rfl, hw⟩; have s := al1 w4 (.cells #[.int .i64 0, .int .i64 0] 23); rw [hw] at s; clear hw; have Xa := Xa.below s; have Xb := Xb.below s; have D := Lib.hid (D.out.trans (s.mono D.out.size)); clear s)
        | (go_at_call 9; (with_reducible refine (VP.out _ D.out).mono ?_); rintro e w8 ⟨bc, Ac, nc, cc, xc, rfl, hv, hb⟩; have s := hb.alloc hb.size (.cells #[.bool bc, .slice Ac nc cc, .int .i64 xc] 28); have Xa := Xa.below s; have Xb := Xb.below s; have Xc := BD.new hv.dv; have D := Lib.hid (D.out.trans (s.mono D.out.size)); clear hv hb s)
        | (go_at_call 9; (with_reducible refine (VR.out _ D.out).mono ?_); rintro e w9 ⟨bd, Ad, nd, cd, xd, rfl, hv, hb⟩; have s := hb.alloc hb.size (.cells #[.bool bd, .slice Ad nd cd, .int .i64 xd] 28); have Xa := Xa.below s; have Xb := Xb.below s; have Xc := Xc.below s; have Xd := BD.new hv.dv; have D := Lib.hid (D.out.trans (s.mono D.out.size)); clear hv hb s; obtain ⟨a_0, a_1, a_2⟩ := Xa.bx; obtain ⟨b_0, b_1, b_2⟩ := Xb.bx)
        | (go_at_call 20; (with_reducible refine (MU.out _ _ _ D.out Xa.dv Xb.dv).mono ?_); rintro e w10 ⟨bm, Am, nm, cm, xm, rfl, hv, hb⟩; have s := hb.alloc hb.size (.cells #[.bool bm, .slice Am nm cm, .int .i64 xm] 28); have Xa := Xa.below s; have Xb := Xb.below s; have Xc := Xc.below s; have Xd := Xd.below s; have Xm := BD.new hv.dv; have D := Lib.hid (D.out.trans (s.mono D.out.size)); clear hv hb s; obtain ⟨c_0, c_1, c_2⟩ := Xc.bx; obtain ⟨d_0, d_1, d_2⟩ := Xd.bx)
        | (go_at_call 12; (with_reducible refine (BS.out _ _ _ _ D.out Xm.dv Xc.dv Xd.dv).mono ?_); rintro e w11 ⟨rfl, hb⟩; have Xa := Xa.below hb; have Xb := Xb.below hb; have Xc := Xc.below hb; have Xd := Xd.below hb; have Xm := Xm.below hb; have D := Lib.hid (D.out.trans (hb.mono D.out.size)); clear hb))
      go_ret
      exact ⟨rfl, D.out⟩
  · have e := P2_err he
    generalize (P2 x y).2.2 = er at *
    rw [e] at TS
    have k : (er != 0) = true := by simpa using he
    generalize ((OfD x).e == 0) = px at *
    generalize ((OfD y).e == 0) = py at *
    generalize (OfD x).d = da at *
    generalize (OfD y).d = db at *
    unfold T2v at TS
    dsimp only at TS
    clear e he hx hy hT
    go_enter Tryd.func5, Tryd.ntmps5
    go_wp2_with (first
      | (go_at_call 19; (with_reducible refine (TS.out _ D.out).mono ?_); rintro e w1 ⟨rfl, hb⟩; have D := Lib.hid (D.out.trans (hb.mono D.out.size)); clear hb)
      | (go_at_call 9; (with_reducible refine (VX.out _ D.out).mono ?_); rintro e w2 ⟨ba, Aa, na, ca, xa, rfl, hv, hb⟩; have s := hb.alloc hb.size (.cells #[.bool ba, .slice Aa na ca, .int .i64 xa] 28); have Xa := BD.new hv.dv; have D := Lib.hid (D.out.trans (s.mono D.out.size)); clear hv hb s)
      | (go_at_call 9; (with_reducible refine (VY.out _ D.out).mono ?_); rintro e w3 ⟨bb, Ab, nb, cb, xb, rfl, hv, hb⟩; have s := hb.alloc hb.size (.cells #[.bool bb, .slice Ab nb cb, .int .i64 xb] 28); have Xb := BD.new hv.dv; have D := Lib.hid (D.out.trans (s.mono D.out.size)); clear hv hb s)
      | (go_at_call 10; (with_reducible refine (LIV.out _ D.out).mono ?_); rintro e w4 ⟨rfl, hb⟩; have D := Lib.hid (D.out.trans (hb.mono D.out.size)); clear hb))
    go_ret
    exact ⟨rfl, D.out⟩
end XC
end Go.Proofs.YtejglcpiihkenaaDoor
