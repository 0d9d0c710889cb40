/-
  ExactSplit: the walk.
-/
import Derived.Test.YtejglcpiihkenaaDoorX14
namespace Go.Proofs.YtejglcpiihkenaaDoor
set_option linter.unusedVariables false
set_option linter.unusedSimpArgs false
open Go.RowKit
set_option linter.unusedVariables false
set_option linter.unusedSimpArgs false
namespace XC
open L NC NK DC RC SC PC QC IC
open Z (cmpv)
theorem val_sz {x : Int} (h : fi x) : val x = sgm (F.sgn x) (sz x) := val_eq h
/-- both parts -/
theorem split_law {x : Int} (fx : fi x) : ∃ h l, SPt x 26 = (h, l, 0) ∧ fi h ∧ fi l ∧ val x = val h + val l ∧ (∃ (N : Int) (j : Nat) (s : Bool), 0 ≤ N ∧ N < 67108864 ∧ val h = sgm s (N * sc 1 (F.ulp x + j))) ∧ (∃ (K : Int) (s : Bool), 0 ≤ K ∧ K < 134217728 ∧ val l = sgm s (K * sc 1 (F.ulp x + (0 : Nat)))) := by
  by_cases hm : (OfD x).d.m = 0
  · have v0 : val x = 0 := S_m.1 hm
    obtain ⟨fl, vl⟩ := sb_exact fx fx val00.1 (by rw [val00.2]; omega)
    rw [val00.2] at vl
    refine ⟨x, sb x x, ?_, fx, fl, by rw [vl]; omega, ⟨0, 0, false, by omega, by omega, by rw [v0]; simp [sgm]⟩, ⟨0, false, by omega, by omega, by rw [vl]; simp [sgm]⟩⟩
    unfold SPt
    rw [if_neg fx.2.2, if_neg (fun k => k (by omega)), if_pos hm]
  · obtain ⟨t1, t2, t3, t4⟩ := top_p fx hm
    obtain ⟨p, hp⟩ : ∃ p, p = topx x + 1 - 26 := ⟨_, rfl⟩
    obtain ⟨P, hP⟩ : ∃ P, P = sc 1 p := ⟨_, rfl⟩
    have e1 : sc 1 (topx x) = 33554432 * P := by
      have := sc_two 25 p (by omega)
      rw [sc_mul1, ← hP, show p + ((25 : Nat) : Int) = topx x by omega] at this
      rw [← this]; rfl
    have e2 : sc 1 (topx x + 1) = 67108864 * P := by
      have := sc_two 26 p (by omega)
      rw [sc_mul1, ← hP, show p + ((26 : Nat) : Int) = topx x + 1 by omega] at this
      rw [← this]; rfl
    have P0 : 0 < P := by rw [hP]; exact sc_one_pos _
    obtain ⟨-, -, fh, vh⟩ := trunc_p fx (p := p) (by omega) hP
    obtain ⟨r1, r2, r3⟩ := rest_s fx (p := p) (by omega) hP (by omega)
    obtain ⟨⟨N, j, n0, n1, eN⟩, K, k0, k1, eK⟩ := parts26 fx (p := p) (by omega) hP (by omega) (by omega)
    refine ⟨hx x p, sb x (hx x p), ?_, fh, r1, by rw [r2]; omega, ⟨N, j, F.sgn x, n0, n1, by rw [vh, eN]⟩, ⟨K, F.sgn x, k0, k1, by rw [r2, r3, eK]; simp⟩⟩
    unfold SPt
    rw [if_neg fx.2.2, if_neg (fun k => k (by omega)), if_neg hm, ← hp]
theorem MT_ok' {x y mode : Int} (hm : 0 ≤ mode ∧ mode ≤ 4) : ∃ a : Int × Bool, MT x y mode = (a.1, a.2, 0) := by
  obtain ⟨a, b, h⟩ := MT_ok (x := x) (y := y) hm
  exact ⟨(a, b), h⟩
theorem ok1x (W : World) (x1 : Int) (o : Bool) (ho : [x1].all (· == 0) = o) : Calls Tryd.prog 15 #[.slice (some ⟨W.heap.size, 0, none⟩) 1 1] (W.alloc (.cells #[.int .i64 x1] 23)) fun e w' => e = .returned (.bool o) ∧ W.alloc (.cells #[.int .i64 x1] 23) = w' := by
  have h1 := ok_lit W [x1] (by simp)
  rw [ho] at h1
  exact h1
set_option maxRecDepth 100000 in
set_option maxHeartbeats 16000000 in
theorem splitX_c (x y : Int) (w : World) (hx : 0 ≤ x ∧ x ≤ 18446744073709551615) (hy : 0 ≤ y ∧ y ≤ 18446744073709551615) (hT : TabD w) :
    Calls Tryd.prog 6 #[.int .u64 x, .int .u64 y] w fun e w' => e = .returned (.bool true) ∧ Below w.heap.size w w' := by
  have HT : Hid (∀ W : World, Below w.heap.size w W → TabD W) := fun W hW => hT.below hW
  have D := Lib.hid (Below.refl w.heap.size w)
  have LIV : Hid (∀ W : World, Below w.heap.size w W → Calls Tryd.prog 10 #[] W fun e w' => e = .returned (.bool true) ∧ Below W.heap.size W w') := fun W hW => livesX_c W (HT.out W hW)
  have SX : Hid (∀ W, Below w.heap.size w W → Calls Tryd.prog 21 #[.int .u64 x, .int .i64 26] W (DC.RetB W (T2v (SPt x 26)))) := fun W hW => Split_c x 26 W hx (by omega) (HT.out W hW)
  have SY : Hid (∀ W, Below w.heap.size w W → Calls Tryd.prog 21 #[.int .u64 y, .int .i64 26] W (DC.RetB W (T2v (SPt y 26)))) := fun W hW => Split_c y 26 W hy (by omega) (HT.out W hW)
  have VX : Hid (∀ W : World, Below w.heap.size w W → Calls Tryd.prog 9 #[.int .u64 x] W (RetVb W (OfD x).d ((OfD x).e == 0))) := fun W hW => value_c x W hx.1 hx.2 (HT.out W hW)
  have VZ : Hid (∀ W : World, Below w.heap.size w W → Calls Tryd.prog 9 #[.int .u64 0] W (RetVb W (OfD 0).d ((OfD 0).e == 0))) := fun W hW => value_c 0 W (by omega) (by omega) (HT.out W hW)
  have O2 : Hid (∀ (W : World) (a b : Int) (o : Bool), [a, b].all (· == 0) = o → Calls Tryd.prog 15 #[.slice (some ⟨W.heap.size, 0, none⟩) 2 2] (W.alloc (.cells #[.int .i64 a, .int .i64 b] 23)) fun e w' => e = .returned (.bool o) ∧ W.alloc (.cells #[.int .i64 a, .int .i64 b] 23) = w') := fun W a b o h => RC.ok2' W a b o h
  have tt : ((0 : Int) == 0) = true := rfl
  by_cases hfx : F.exq x = 2047
  · have e1 : SPt x 26 = (0, 0, 4) := by unfold SPt; rw [if_pos hfx]
    obtain ⟨sy, hsy⟩ : ∃ t, SPt y 26 = t := ⟨_, rfl⟩
    obtain ⟨m, n, f⟩ := sy
    rw [e1] at SX
    rw [hsy] at SY
    have OE := fun W => O2.out W 4 f false rfl
    have OE := Lib.hid OE
    have O1 : Hid (∀ W : World, Calls Tryd.prog 15 #[.slice (some ⟨W.heap.size, 0, none⟩) 1 1] (W.alloc (.cells #[.int .i64 4] 23)) fun e w' => e = .returned (.bool false) ∧ W.alloc (.cells #[.int .i64 4] 23) = w') := fun W => ok1x W 4 false rfl
    generalize ((OfD x).e == 0) = px at *
    generalize ((OfD 0).e == 0) = pz at *
    generalize (OfD x).d = da at *
    generalize (OfD 0).d = dc at *
    unfold T2v at SX SY
    dsimp only at SX SY
    clear e1 hsy hfx hx hy hT O2 tt
    go_enter Tryd.func6, Tryd.ntmps6
    go_wp2_with (first
      | (go_at_call 21; (with_reducible refine (SX.out _ D.out).mono ?_); rintro e w1 ⟨rfl, hb⟩; have D := Lib.hid (D.out.trans (hb.mono D.out.size)); clear hb)
      | (go_at_call 21; (with_reducible refine (SY.out _ D.out).mono ?_); rintro e w2 ⟨rfl, hb⟩; have D := Lib.hid (D.out.trans (hb.mono D.out.size)); clear hb)
      | (go_at_call 9; (with_reducible refine (VX.out _ D.out).mono ?_); rintro e w3 ⟨ba, Aa, na, ca, xa, rfl, hv, hb⟩; have s := hb.alloc hb.size (.cells #[.bool ba, .slice Aa na ca, .int .i64 xa] 28); have Xa := BD.new hv.dv; have D := Lib.hid (D.out.trans (s.mono D.out.size)); clear hv hb s)
      | (go_at_call 9; (with_reducible refine (VZ.out _ D.out).mono ?_); rintro e w4 ⟨bb, Ab, nb, cb, xb, rfl, hv, hb⟩; have s := hb.alloc hb.size (.cells #[.bool bb, .slice Ab nb cb, .int .i64 xb] 28); have Xb := BD.new hv.dv; have D := Lib.hid (D.out.trans (s.mono D.out.size)); clear hv hb s)
      | (go_at_call 10; (with_reducible refine (LIV.out _ D.out).mono ?_); rintro e w5 ⟨rfl, hb⟩; have D := Lib.hid (D.out.trans (hb.mono D.out.size)); clear hb)
      | (go_at_call 15; (with_reducible refine (OE.out w5).mono ?_); rintro e w6 ⟨rfl, hw⟩; have s := al1 w5 (.cells #[.int .i64 4, .int .i64 f] 23); rw [hw] at s; clear hw; have D := Lib.hid (D.out.trans (s.mono D.out.size)); clear s)
      | (go_at_call 15; (with_reducible refine (O1.out w5).mono ?_); rintro e w7 ⟨rfl, hw⟩; have s := al1 w5 (.cells #[.int .i64 4] 23); rw [hw] at s; clear hw; have D := Lib.hid (D.out.trans (s.mono D.out.size)); clear s))
    go_ret
    exact ⟨rfl, D.out⟩
  · have fx : fi x := ⟨hx.1, hx.2, hfx⟩
    obtain ⟨h, l, e1, fh, fl, ev, ⟨N, j, s1, n0, n1, vN⟩, -⟩ := split_law fx
    rw [e1] at SX
    rw [(of_fit fx).1, tt] at VX
    have VH : Hid (∀ W : World, Below w.heap.size w W → Calls Tryd.prog 9 #[.int .u64 h] W (RetVb W (OfD h).d true)) := fun W hW => by
      have := value_c h W fh.1 fh.2.1 (HT.out W hW)
      rwa [(of_fit fh).1, tt] at this
    have VL : Hid (∀ W : World, Below w.heap.size w W → Calls Tryd.prog 9 #[.int .u64 l] W (RetVb W (OfD l).d true)) := fun W hW => by
      have := value_c l W fl.1 fl.2.1 (HT.out W hW)
      rwa [(of_fit fl).1, tt] at this
    by_cases hfy : F.exq y = 2047
    · have e2 : SPt y 26 = (0, 0, 4) := by unfold SPt; rw [if_pos hfy]
      rw [e2] at SY
      have OE := fun W => O2.out W 0 4 false rfl
      have OE := Lib.hid OE
      have O1 : Hid (∀ W : World, Calls Tryd.prog 15 #[.slice (some ⟨W.heap.size, 0, none⟩) 1 1] (W.alloc (.cells #[.int .i64 0] 23)) fun e w' => e = .returned (.bool true) ∧ W.alloc (.cells #[.int .i64 0] 23) = w') := fun W => ok1x W 0 true rfl
      generalize (OfD x).d = da at *
      generalize (OfD h).d = dc at *
      generalize (OfD l).d = dd at *
      unfold T2v at SX SY
      dsimp only at SX SY
      clear e1 e2 fx fh fl ev n0 n1 vN hfx hfy hx hy hT O2 tt VZ
      go_enter Tryd.func6, Tryd.ntmps6
      go_wp2_with (first
        | (go_at_call 21; (with_reducible refine (SX.out _ D.out).mono ?_); rintro e w1 ⟨rfl, hb⟩; have D := Lib.hid (D.out.trans (hb.mono D.out.size)); clear hb)
        | (go_at_call 21; (with_reducible refine (SY.out _ D.out).mono ?_); rintro e w2 ⟨rfl, hb⟩; have D := Lib.hid (D.out.trans (hb.mono D.out.size)); clear hb)
        | (go_at_call 9; (with_reducible refine (VX.out _ D.out).mono ?_); rintro e w3 ⟨ba, Aa, na, ca, xa, rfl, hv, hb⟩; have s := hb.alloc hb.size (.cells #[.bool ba, .slice Aa na ca, .int .i64 xa] 28); have Xa := BD.new hv.dv; have D := Lib.hid (D.out.trans (s.mono D.out.size)); clear hv hb s)
        | (go_at_call 9; (with_reducible refine (VH.out _ D.out).mono ?_); rintro e w4 ⟨bb, Ab, nb, cb, xb, rfl, hv, hb⟩; have s := hb.alloc hb.size (.cells #[.bool bb, .slice Ab nb cb, .int .i64 xb] 28); have Xb := BD.new hv.dv; have D := Lib.hid (D.out.trans (s.mono D.out.size)); clear hv hb s)
        | (go_at_call 9; (with_reducible refine (VL.out _ D.out).mono ?_); rintro e w5 ⟨bc, Ac, nc, cc, xc, rfl, hv, hb⟩; have s := hb.alloc hb.size (.cells #[.bool bc, .slice Ac nc cc, .int .i64 xc] 28); have Xc := BD.new hv.dv; have D := Lib.hid (D.out.trans (s.mono D.out.size)); clear hv hb s)
        | (go_at_call 10; (with_reducible refine (LIV.out _ D.out).mono ?_); rintro e w6 ⟨rfl, hb⟩; have D := Lib.hid (D.out.trans (hb.mono D.out.size)); clear hb)
        | (go_at_call 15; (with_reducible refine (OE.out w6).mono ?_); rintro e w7 ⟨rfl, hw⟩; have s := al1 w6 (.cells #[.int .i64 0, .int .i64 4] 23); rw [hw] at s; clear hw; have D := Lib.hid (D.out.trans (s.mono D.out.size)); clear s)
        | (go_at_call 15; (with_reducible refine (O1.out w6).mono ?_); rintro e w8 ⟨rfl, hw⟩; have s := al1 w6 (.cells #[.int .i64 0] 23); rw [hw] at s; clear hw; have D := Lib.hid (D.out.trans (s.mono D.out.size)); clear s))
      go_ret
      exact ⟨rfl, D.out⟩
    · have fy : fi y := ⟨hy.1, hy.2, hfy⟩
      obtain ⟨m, n, e2, fm, fn, ev2, ⟨N', j', s1', n0', n1', vN'⟩, ⟨K, s2, k0, k1, vK⟩⟩ := split_law fy
      rw [e2] at SY
      have OE := fun W => O2.out W 0 0 true rfl
      have OE := Lib.hid OE
      obtain ⟨b1, b2, b3, b4⟩ := both_p (of_fit fx).2 fit0 (of_fit fh).2 (of_fit fl).2 (show val x + S dz = val h + val l by rw [show S dz = 0 from sc_zero.2 rfl, ← ev]; omega)
      have BS : Hid (∀ (W : World) (ua uc ud : Value), Below w.heap.size w W → DV W ua (OfD x).d → DV W uc (OfD h).d → DV W ud (OfD l).d → Calls Tryd.prog 12 #[ua, .agg #[.bool false, .slice none 0 0, .int .i64 0], uc, ud] W fun e w' => e = .returned (.bool true) ∧ Below W.heap.size W w') := fun W ua uc ud hW h1 h3 h4 => bothSame_c _ _ _ _ _ _ _ _ W h1 (dz_dv W) h3 h4 (HT.out W hW) b1 b2 b3 b4
      have UX : Hid (∀ W : World, Calls Tryd.prog 13 #[.int .u64 x] W fun e w' => e = .returned (.tuple #[.int .i64 (F.ulp x), .int .i64 0]) ∧ W = w') := fun W => FloatC.Ulp_ok x fx.1 fx.2.1 (by have := F.exq_bd x; have := fx.2.2; omega) W
      have UY : Hid (∀ W : World, Calls Tryd.prog 13 #[.int .u64 y] W fun e w' => e = .returned (.tuple #[.int .i64 (F.ulp y), .int .i64 0]) ∧ W = w') := fun W => FloatC.Ulp_ok y fy.1 fy.2.1 (by have := F.exq_bd y; have := fy.2.2; omega) W
      have ux := ulp_bd fx
      have uy := ulp_bd fy
      have wu : wrap64 (F.ulp x + F.ulp y) = F.ulp x + F.ulp y := by unfold wrap64; omega
      by_cases hu : F.ulp x + F.ulp y < -1074
      · generalize F.ulp x = u at *
        generalize F.ulp y = v at *
        generalize (OfD x).d = da at *
        generalize (OfD h).d = dc at *
        generalize (OfD l).d = dd at *
        unfold T2v at SX SY
        dsimp only at SX SY
        clear e1 e2 fx fh fl ev n0 n1 vN hfx hfy hx hy hT O2 tt VZ fy fm fn ev2 n0' n1' vN' k0 k1 vK b1 b2 b3 b4 ux uy
        go_enter Tryd.func6, Tryd.ntmps6
        go_wp2_with (first
          | (go_at_call 21; (with_reducible refine (SX.out _ D.out).mono ?_); rintro e w1 ⟨rfl, hb⟩; have D := Lib.hid (D.out.trans (hb.mono D.out.size)); clear hb)
          | (go_at_call 21; (with_reducible refine (SY.out _ D.out).mono ?_); rintro e w2 ⟨rfl, hb⟩; have D := Lib.hid (D.out.trans (hb.mono D.out.size)); clear hb)
          | (go_at_call 9; (with_reducible refine (VX.out _ D.out).mono ?_); rintro e w3 ⟨ba, Aa, na, ca, xa, rfl, hv, hb⟩; have s := hb.alloc hb.size (.cells #[.bool ba, .slice Aa na ca, .int .i64 xa] 28); have Xa := BD.new hv.dv; have D := Lib.hid (D.out.trans (s.mono D.out.size)); clear hv hb s)
          | (go_at_call 9; (with_reducible refine (VH.out _ D.out).mono ?_); rintro e w4 ⟨bb, Ab, nb, cb, xb, rfl, hv, hb⟩; have s := hb.alloc hb.size (.cells #[.bool bb, .slice Ab nb cb, .int .i64 xb] 28); have Xa := Xa.below s; have Xb := BD.new hv.dv; have D := Lib.hid (D.out.trans (s.mono D.out.size)); clear hv hb s)
          | (go_at_call 9; (with_reducible refine (VL.out _ D.out).mono ?_); rintro e w5 ⟨bc, Ac, nc, cc, xc, rfl, hv, hb⟩; have s := hb.alloc hb.size (.cells #[.bool bc, .slice Ac nc cc, .int .i64 xc] 28); have Xa := Xa.below s; have Xb := Xb.below s; have Xc := BD.new hv.dv; have D := Lib.hid (D.out.trans (s.mono D.out.size)); clear hv hb s)
          | (go_at_call 10; (with_reducible refine (LIV.out _ D.out).mono ?_); rintro e w6 ⟨rfl, hb⟩; have Xa := Xa.below hb; have Xb := Xb.below hb; have Xc := Xc.below hb; have D := Lib.hid (D.out.trans (hb.mono D.out.size)); clear hb)
          | (go_at_call 15; (with_reducible refine (OE.out w6).mono ?_); rintro e w7 ⟨rfl, hw⟩; have s := al1 w6 (.cells #[.int .i64 0, .int .i64 0] 23); rw [hw] at s; clear hw; have Xa := Xa.below s; have Xb := Xb.below s; have Xc := Xc.below s; have D := Lib.hid (D.out.trans (s.mono D.out.size)); clear s; obtain ⟨a_0, a_1, a_2⟩ := Xa.bx; obtain ⟨b_0, b_1, b_2⟩ := Xb.bx; obtain ⟨c_0, c_1, c_2⟩ := Xc.bx)
          | (go_at_call 12; (with_reducible refine (BS.out _ _ _ _ D.out Xa.dv Xb.dv Xc.dv).mono ?_); rintro e w8 ⟨rfl, hb⟩; have Xa := Xa.below hb; have Xb := Xb.below hb; have Xc := Xc.below hb; have D := Lib.hid (D.out.trans (hb.mono D.out.size)); clear hb)
          | (go_at_call 13; (with_reducible refine (UX.out _).mono ?_); rintro e w9 ⟨rfl, rfl⟩)
          | (go_at_call 13; (with_reducible refine (UY.out _).mono ?_); rintro e w10 ⟨rfl, rfl⟩)
          | (go_at_call 15; (with_reducible refine (OE.out w8).mono ?_); rintro e w11 ⟨rfl, hw⟩; have s := al1 w8 (.cells #[.int .i64 0, .int .i64 0] 23); rw [hw] at s; clear hw; have D := Lib.hid (D.out.trans (s.mono D.out.size)); clear s))
        go_ret
        exact ⟨rfl, D.out⟩
      · have p1 := split_prod (j := j) (j' := j') (N := N) (N' := N') fh fm ux.1 uy.1 (by omega) n0 n1 n0' (by omega) vN vN'
        have p2 := split_prod (j := j) (j' := 0) (N := N) (N' := K) fh fn ux.1 uy.1 (by omega) n0 n1 k0 k1 vN vK
        have bp := MT_bd 0 ⟨fh.1, fh.2.1⟩ ⟨fm.1, fm.2.1⟩
        have bq := MT_bd 0 ⟨fh.1, fh.2.1⟩ ⟨fn.1, fn.2.1⟩
        have M1 : Hid (∀ W, Below w.heap.size w W → Calls Tryd.prog 22 #[.int .u64 h, .int .u64 m, .int .i64 0] W (DC.RetB W (ATv (MT h m 0)))) := fun W hW => Mul_c h m 0 W ⟨fh.1, fh.2.1⟩ ⟨fm.1, fm.2.1⟩ (HT.out W hW)
        have M2 : Hid (∀ W, Below w.heap.size w W → Calls Tryd.prog 22 #[.int .u64 h, .int .u64 n, .int .i64 0] W (DC.RetB W (ATv (MT h n 0)))) := fun W hW => Mul_c h n 0 W ⟨fh.1, fh.2.1⟩ ⟨fn.1, fn.2.1⟩ (HT.out W hW)
        have KP : Hid (∀ W : World, Calls Tryd.prog 18 #[.int .u64 (MT h m 0).1] W fun e w' => e = .returned (.int .i64 (F.cls (MT h m 0).1)) ∧ W = w') := fun W => FloatC.Class_c _ bp.1 bp.2 W
        have KQ : Hid (∀ W : World, Calls Tryd.prog 18 #[.int .u64 (MT h n 0).1] W fun e w' => e = .returned (.int .i64 (F.cls (MT h n 0).1)) ∧ W = w') := fun W => FloatC.Class_c _ bq.1 bq.2 W
        obtain ⟨a1, g1⟩ := MT_ok' (x := h) (y := m) (show 0 ≤ (0 : Int) ∧ (0 : Int) ≤ 4 by omega)
        obtain ⟨a2, g2⟩ := MT_ok' (x := h) (y := n) (show 0 ≤ (0 : Int) ∧ (0 : Int) ≤ 4 by omega)
        generalize MT h m 0 = r1 at *
        generalize MT h n 0 = r2 at *
        subst g1 g2
        obtain ⟨z1, o1⟩ := a1
        obtain ⟨z2, o2⟩ := a2
        unfold ATv at M1 M2
        dsimp only at M1 M2 KP KQ p1 p2
        generalize F.cls z1 = c1 at *
        generalize F.cls z2 = c2 at *
        generalize F.ulp x = u at *
        generalize F.ulp y = v at *
        generalize (OfD x).d = da at *
        generalize (OfD h).d = dc at *
        generalize (OfD l).d = dd at *
        unfold T2v at SX SY
        dsimp only at SX SY
        clear e1 e2 fx fh fl ev n0 n1 vN hfx hfy hx hy hT O2 tt VZ fy fm fn ev2 n0' n1' vN' k0 k1 vK b1 b2 b3 b4 ux uy bp bq
        have p1 : o1 = false ∨ (o1 = true ∧ c1 = 4) := by cases o1; exact .inl rfl; exact .inr ⟨rfl, p1.resolve_left (by decide)⟩
        have p2 : o2 = false ∨ (o2 = true ∧ c2 = 4) := by cases o2; exact .inl rfl; exact .inr ⟨rfl, p2.resolve_left (by decide)⟩
        rcases p1 with rfl | ⟨rfl, rfl⟩ <;> rcases p2 with rfl | ⟨rfl, rfl⟩
        all_goals (
          go_enter Tryd.func6, Tryd.ntmps6
          go_wp2_with (first
            | (go_at_call 21; (with_reducible refine (SX.out _ D.out).mono ?_); rintro e w1 ⟨rfl, hb⟩; have D := Lib.hid (D.out.trans (hb.mono D.out.size)); clear hb)
            | (go_at_call 21; (with_reducible refine (SY.out _ D.out).mono ?_); rintro e w2 ⟨rfl, hb⟩; have D := Lib.hid (D.out.trans (hb.mono D.out.size)); clear hb)
            | (go_at_call 9; (with_reducible refine (VX.out _ D.out).mono ?_); rintro e w3 ⟨ba, Aa, na, ca, xa, rfl, hv, hb⟩; have s := hb.alloc hb.size (.cells #[.bool ba, .slice Aa na ca, .int .i64 xa] 28); have Xa := BD.new hv.dv; have D := Lib.hid (D.out.trans (s.mono D.out.size)); clear hv hb s)
            | (go_at_call 9; (with_reducible refine (VH.out _ D.out).mono ?_); rintro e w4 ⟨bb, Ab, nb, cb, xb, rfl, hv, hb⟩; have s := hb.alloc hb.size (.cells #[.bool bb, .slice Ab nb cb, .int .i64 xb] 28); have Xa := Xa.below s; have Xb := BD.new hv.dv; have D := Lib.hid (D.out.trans (s.mono D.out.size)); clear hv hb s)
            | (go_at_call 9; (with_reducible refine (VL.out _ D.out).mono ?_); rintro e w5 ⟨bc, Ac, nc, cc, xc, rfl, hv, hb⟩; have s := hb.alloc hb.size (.cells #[.bool bc, .slice Ac nc cc, .int .i64 xc] 28); have Xa := Xa.below s; have Xb := Xb.below s; have Xc := BD.new hv.dv; have D := Lib.hid (D.out.trans (s.mono D.out.size)); clear hv hb s)
            | (go_at_call 10; (with_reducible refine (LIV.out _ D.out).mono ?_); rintro e w6 ⟨rfl, hb⟩; have Xa := Xa.below hb; have Xb := Xb.below hb; have Xc := Xc.below hb; have D := Lib.hid (D.out.trans (hb.mono D.out.size)); clear hb)
            | (go_at_call 15; (with_reducible refine (OE.out w6).mono ?_); rintro e w7 ⟨rfl, hw⟩; have s := al1 w6 (.cells #[.int .i64 0, .int .i64 0] 23); rw [hw] at s; clear hw; have Xa := Xa.below s; have Xb := Xb.below s; have Xc := Xc.below s; have D := Lib.hid (D.out.trans (s.mono D.out.size)); clear s; obtain ⟨a_0, a_1, a_2⟩ := Xa.bx; obtain ⟨b_0, b_1, b_2⟩ := Xb.bx; obtain ⟨c_0, c_1, c_2⟩ := Xc.bx)
            | (go_at_call 12; (with_reducible refine (BS.out _ _ _ _ D.out Xa.dv Xb.dv Xc.dv).mono ?_); rintro e w8 ⟨rfl, hb⟩; have Xa := Xa.below hb; have Xb := Xb.below hb; have Xc := Xc.below hb; have D := Lib.hid (D.out.trans (hb.mono D.out.size)); clear hb)
            | (go_at_call 13; (with_reducible refine (UX.out _).mono ?_); rintro e w9 ⟨rfl, rfl⟩)
            | (go_at_call 13; (with_reducible refine (UY.out _).mono ?_); rintro e w10 ⟨rfl, rfl⟩)
            | (go_at_call 15; (with_reducible refine (OE.out w8).mono ?_); rintro e w11 ⟨rfl, hw⟩; have s := al1 w8 (.cells #[.int .i64 0, .int .i64 0] 23); rw [hw] at s; clear hw; have D := Lib.hid (D.out.trans (s.mono D.out.size)); clear s)
            | (go_at_call 22; (with_reducible refine (M1.out _ D.out).mono ?_); rintro e w12 ⟨rfl, hb⟩; have D := Lib.hid (D.out.trans (hb.mono D.out.size)); clear hb)
            | (go_at_call 22; (with_reducible refine (M2.out _ D.out).mono ?_); rintro e w13 ⟨rfl, hb⟩; have D := Lib.hid (D.out.trans (hb.mono D.out.size)); clear hb)
            | (go_at_call 15; (with_reducible refine (OE.out w13).mono ?_); rintro e w14 ⟨rfl, hw⟩; have s := al1 w13 (.cells #[.int .i64 0, .int .i64 0] 23); rw [hw] at s; clear hw; have D := Lib.hid (D.out.trans (s.mono D.out.size)); clear s)
            | (go_at_call 18; (with_reducible refine (KP.out _).mono ?_); rintro e w15 ⟨rfl, rfl⟩)
            | (go_at_call 18; (with_reducible refine (KQ.out _).mono ?_); rintro e w16 ⟨rfl, rfl⟩))
          go_ret
          exact ⟨rfl, D.out⟩)
end XC
end Go.Proofs.YtejglcpiihkenaaDoor
