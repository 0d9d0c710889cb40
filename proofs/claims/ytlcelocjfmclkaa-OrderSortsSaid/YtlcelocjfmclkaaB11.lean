/-
  The library's slices.Sort of []uint64, walked: pdqsort.
-/
import Derived.Test.YtlcelocjfmclkaaB4
import Derived.Test.YtlcelocjfmclkaaB3
import Derived.Test.YtlcelocjfmclkaaB5
import Derived.Test.YtlcelocjfmclkaaB6
import Derived.Test.YtlcelocjfmclkaaB7
import Derived.Test.YtlcelocjfmclkaaB8
import Derived.Test.YtlcelocjfmclkaaB9
import Derived.Test.YtlcelocjfmclkaaB10
namespace Go.Proofs.Ytlcelocjfmclkaa
open Go.RowKit
set_option linter.unusedVariables false
set_option linter.unusedSimpArgs false
namespace BC
open Go.Sort Go.Lib
/-- what pdqsort's call does -/
abbrev PdqC (g o c : Nat) (w0 : World) (n a b lim : Nat) (d : Array Int) (w : World) : Prop :=
  Calls Try.prog 34 #[.slice (some ⟨g, o, none⟩) n c, .int .i64 a, .int .i64 b, .int .i64 lim] w fun e w' => e = .returned (.tuple #[]) ∧ Sq w0 g o (pdq ltInt d a b lim true true) w'
set_option maxRecDepth 1000000 in
set_option maxHeartbeats 32000000 in
theorem pdq_step (g o c n N : Nat) (d0 : Array Int) (w0 : World) (R : Rq w0 g o d0) (hn0 : d0.size = n) (hsz : n < 4611686018427387904)
    (ih : ∀ (a b lim : Nat) (d : Array Int) (w : World), b - a < N → d.size = n → Sq w0 g o d w → a ≤ b → b ≤ n → lim < 4611686018427387904 → Go.Sort.Below ltInt a b d → PdqC g o c w0 n a b lim d w)
    (a b lim0 : Nat) (d : Array Int) (w : World) (hN : b - a < N + 1) (hd : d.size = n) (S : Sq w0 g o d w) (hab : a ≤ b) (hb : b ≤ n) (hlim : lim0 < 4611686018427387904) (hB : Go.Sort.Below ltInt a b d) : PdqC g o c w0 n a b lim0 d w := by
  unfold PdqC
  have HR := Lib.hid R
  have S0 := Lib.hid S
  have IH := Lib.hid ih
  have B0 := Lib.hid hB
  obtain ⟨T, hT⟩ : ∃ T, T = pdq ltInt d a b lim0 true true := ⟨_, rfl⟩
  have HT := Lib.hid hT
  rw [← hT]
  clear R S ih hB hT
  go_enter Try.func34, Try.ntmps34
  go_wp2
  go_loopw [1, 2, 3, 8, 9] (fun s1 s2 s3 s8 s9 wr => ∃ (x y lim : Nat) (wb wp : Bool) (dk : Array Int), s1 = .int .i64 x ∧ s2 = .int .i64 y ∧ s3 = .int .i64 lim ∧ s8 = .bool wb ∧ s9 = .bool wp ∧
    x ≤ y ∧ y ≤ n ∧ y - x ≤ b - a ∧ lim < 4611686018427387904 ∧ dk.size = n ∧ Hid (Sq w0 g o dk wr) ∧ Hid (Go.Sort.Below ltInt x y dk) ∧ Hid (pdq ltInt dk x y lim wb wp = T)) (fun s1 s2 _ _ _ _ => (Go.Proofs.intOf s2 - Go.Proofs.intOf s1).toNat)
  case atStart => exact ⟨a, b, lim0, true, true, d, rfl, rfl, rfl, rfl, rfl, hab, hb, Nat.le_refl _, hlim, hd, S0, B0, HT.out.symm⟩
  case round =>
    obtain ⟨x, y, lim, wb, wp, dk, rfl, rfl, rfl, rfl, rfl, hxy, hyn, hyx, hlm, hsk, SK, BK, HO⟩ := hrel
    obtain ⟨L, hL⟩ : ∃ L, L = y - x := ⟨_, rfl⟩
    have z1 : (y : Int) - (x : Int) = (L : Int) := by omega
    have v1 : IntKind.i64.wrap (L : Int) = L := by rw [IntKind.wrap_i64]; omega
    have HL := Lib.hid hL
    have HYX : Hid (y - x ≤ b - a ∧ b - a < N + 1) := ⟨hyx, hN⟩
    by_cases h12 : L ≤ 12
    · have h12z : (L : Int) ≤ 12 := by omega
      have IN := Lib.hid (insertion_c g o c x y d0 dk w0 wr HR.out (by omega) SK.out hxy (by omega) (by omega))
      rw [hsk] at IN
      have e : T = insertionSort ltInt dk x y := by rw [← HO.out]; exact pdq_small (by omega)
      have HE := Lib.hid e
      clear e hL hyx
      go_wp2_with (go_at_call 41; (with_reducible refine IN.out.mono ?_); rintro e w2 ⟨rfl, S2⟩; have S2 := Lib.hid S2)
      ((try simp only [Exit.inBlock, Exit.then]); refine bodyPost_ret (results_none rfl _ _ _) rfl ?_)
      exact ⟨rfl, by rw [HE.out]; exact S2.out⟩
    · have h12z : ¬ (L : Int) ≤ 12 := by omega
      by_cases hl0 : lim = 0
      · subst hl0
        have HP := Lib.hid (heap_c g o c x y d0 dk w0 wr HR.out (by omega) SK.out (by omega) (by omega) (by omega))
        rw [hsk] at HP
        have e : T = heapSort ltInt dk x y := by rw [← HO.out]; exact pdq_heap (by omega) rfl
        have HE := Lib.hid e
        clear e hL hyx
        go_wp2_with (go_at_call 42; (with_reducible refine HP.out.mono ?_); rintro e w2 ⟨rfl, S2⟩; have S2 := Lib.hid S2)
        ((try simp only [Exit.inBlock, Exit.then]); refine bodyPost_ret (results_none rfl _ _ _) rfl ?_)
        exact ⟨rfl, by rw [HE.out]; exact S2.out⟩
      · have hl0z : ((lim : Int) == 0) = false := by rw [beq_eq_false_iff_ne]; omega
        have hl1 : Hid (lim ≠ 0) := hl0
        obtain ⟨d1, lm, cp, ch, d2, pv, ht, d3, pt, hA, hZ⟩ := round_all dk x y lim wb wp (by omega) hl0 (by omega) BK.out
        have HA := Lib.hid hA
        have HZ := Lib.hid hZ
        have hab12 : x + 12 < y := by omega
        clear hA hZ hl0 hL hyx
        go_upto_if 35 with fail
        go_cut [3] (fun s3 wx => s3 = .int .i64 lm ∧ Hid (Sq w0 g o d1 wx))
        case first =>
          cases wb
          · have BR := Lib.hid (break_c g o c x y d0 dk w0 wr HR.out (by omega) SK.out hab12 (by omega) (by omega))
            rw [hsk, ← (HA.out.br0 rfl).1] at BR
            have z2 : (lim : Int) - 1 = (lm : Int) := by have := (HA.out.br0 rfl).2; have := hl1.out; omega
            have v2 : IntKind.i64.wrap (lm : Int) = lm := by have := HA.out.lb; rw [IntKind.wrap_i64]; omega
            go_wp2_with (go_at_call 43; (with_reducible refine BR.out.mono ?_); rintro e w2 ⟨rfl, S2⟩; have S2 := Lib.hid S2)
            go_meet
            exact ⟨rfl, S2⟩
          · have S2 : Hid (Sq w0 g o d1 wr) := by rw [(HA.out.br1 rfl).1]; exact SK
            have e2 := (HA.out.br1 rfl).2
            go_wp2
            go_meet
            exact ⟨by rw [e2], S2⟩
        case rest =>
          obtain ⟨rfl, S1⟩ := hcut
          have PV := Lib.hid (pivot_c g o c x y d0 d1 w0 wc HR.out (by have := HA.out.s1; omega) S1.out hab12 (by have := HA.out.s1; omega) (by have := HA.out.s1; omega))
          rw [HA.out.s1.trans hsk, HA.out.cho] at PV
          go_upto_if 50 with (go_at_call 44; (with_reducible refine PV.out.mono ?_); rintro e w2 ⟨rfl, S2⟩; have S2 := Lib.hid S2)
          go_cut [11, 12] (fun s11 s12 wx => s11 = .int .i64 pv ∧ s12 = .int .i64 (hintCode ht) ∧ Hid (Sq w0 g o d2 wx))
          case first =>
            by_cases hd2 : ch = .decreasing
            · obtain ⟨f1, f2, f3⟩ := HA.out.dec hd2
              have RV := Lib.hid (reverse_c g o c x y d0 d1 w0 w2 HR.out (by have := HA.out.s1; omega) S2.out (by omega) (by have := HA.out.s1; omega) (by have := HA.out.s1; omega))
              rw [HA.out.s1.trans hsk, ← f1] at RV
              have hc2 : hintCode ch = 2 := by rw [hd2]; rfl
              obtain ⟨y1, hy1⟩ : ∃ y1, y1 = y - 1 := ⟨_, rfl⟩
              obtain ⟨cd, hcd⟩ : ∃ cd, cd = cp - x := ⟨_, rfl⟩
              have cb := HA.out.cb
              have z3 : (y : Int) - 1 = (y1 : Int) := by omega
              have z4 : (cp : Int) - (x : Int) = (cd : Int) := by omega
              have z5 : (y1 : Int) - (cd : Int) = (pv : Int) := by omega
              have v3 : IntKind.i64.wrap (y1 : Int) = y1 := by rw [IntKind.wrap_i64]; omega
              have v4 : IntKind.i64.wrap (cd : Int) = cd := by rw [IntKind.wrap_i64]; omega
              have v5 : IntKind.i64.wrap (pv : Int) = pv := by rw [IntKind.wrap_i64]; omega
              have HT3 : Hid (hintCode ht = 1) := by unfold Hid; rw [f3]; rfl
              clear f1 f2 f3 hd2 hy1 hcd cb
              go_wp2_with (go_at_call 45; (with_reducible refine RV.out.mono ?_); rintro e w3 ⟨rfl, S3⟩; have S3 := Lib.hid S3)
              go_meet
              exact ⟨rfl, by rw [HT3.out], S3⟩
            · obtain ⟨f1, f2, f3⟩ := HA.out.inc hd2
              have hc2 : (hintCode ch == 2) = false := by
                rw [beq_eq_false_iff_ne]
                intro h
                exact hd2 (hintCode_two h)
              clear hd2
              subst f1 f2 f3
              go_wp2
              go_meet
              exact ⟨rfl, rfl, S2⟩
          case rest =>
            obtain ⟨rfl, rfl, S3⟩ := hcut
            clear PV S2 S1
            obtain ⟨q, hq⟩ : ∃ q, (wb && wp && decide (ht = .increasing)) = q := ⟨_, rfl⟩
            have HQ := Lib.hid hq
            clear hq
            go_upto_region 15 with fail
            go_cut [68] (fun s68 wx => s68 = .bool q ∧ Hid (Sq w0 g o d2 wx))
            case first =>
              have HI : Hid ((hintCode ht == 1) = decide (ht = .increasing)) := by cases ht <;> rfl
              cases wb
              · go_wp2
                go_meet
                exact ⟨by rw [← HQ.out]; rfl, S3⟩
              · cases wp
                · go_wp2
                  go_meet
                  exact ⟨by rw [← HQ.out]; rfl, S3⟩
                · go_wp2
                  go_meet
                  exact ⟨by rw [← HQ.out, HI.out]; rfl, S3⟩
            case rest =>
              obtain ⟨rfl, S4⟩ := hcut
              clear S3
              have PI := Lib.hid (partial_c g o c x y d0 d2 w0 wc HR.out (by have := HA.out.s2; omega) S4.out (by omega) (by have := HA.out.s2; omega) (by have := HA.out.s2; omega))
              rw [HA.out.s2.trans hsk] at PI
              go_upto_if 68 with fail
              go_cut [72] (fun s72 wx => Hid (Sq w0 g o d3 wx ∧ pt = false))
              case first =>
                cases q
                · obtain ⟨f1, f2⟩ := HA.out.pi0 HQ.out
                  have SS : Hid (Sq w0 g o d3 wc ∧ pt = false) := by rw [f1]; exact ⟨S4.out, f2⟩
                  clear f1 f2
                  go_wp2
                  go_meet
                  exact SS
                · have f1 := HA.out.pi1 HQ.out
                  rw [f1] at PI
                  have HD := Lib.hid (HZ.out.done)
                  clear f1
                  cases pt
                  · go_wp2_with (go_at_call 46; (with_reducible refine PI.out.mono ?_); rintro e w5 ⟨rfl, S5⟩; have S5 := Lib.hid S5)
                    go_meet
                    exact ⟨S5.out, by first | trivial | rfl⟩
                  · have e : T = d3 := by rw [← HO.out]; exact HD.out rfl
                    have HE := Lib.hid e
                    clear e
                    go_wp2_with (go_at_call 46; (with_reducible refine PI.out.mono ?_); rintro e w5 ⟨rfl, S5⟩; have S5 := Lib.hid S5)
                    ((try simp only [Exit.inBlock, Exit.then]); refine bodyPost_ret (results_none rfl _ _ _) rfl ?_)
                    exact ⟨rfl, by rw [HE.out]; exact S5.out⟩
              case rest =>
                have S5 : Hid (Sq w0 g o d3 wc) := hcut.out.1
                have HPT : Hid (pt = false) := hcut.out.2
                clear hcut S4 PI
                obtain ⟨q2, hq2⟩ : ∃ q2, decide (0 < x ∧ ltInt d3[x - 1]! d3[pv]! = false) = q2 := ⟨_, rfl⟩
                have HQ2 := Lib.hid hq2
                clear hq2
                go_upto_region 17 with fail
                go_cut [87] (fun s87 wx => s87 = .bool q2 ∧ Hid (Sq w0 g o d3 wx))
                case first =>
                  obtain ⟨G, hG⟩ : ∃ G : Nat → Int, ∀ t, G t = d3[t]! := ⟨fun t => d3[t]!, fun _ => rfl⟩
                  have HG := Lib.hid hG
                  have HS : Hid (d0.size = n ∧ d3.size = n) := ⟨hn0, HA.out.s3.trans hsk⟩
                  obtain ⟨hc, hf⟩ := Sq.cells S5.out HR.out HG.out HS.out
                  clear hG
                  by_cases hx0 : 0 < x
                  · have hx0z : (0 : Int) < (x : Int) := by omega
                    obtain ⟨xm, hxm⟩ : ∃ xm, xm = x - 1 := ⟨_, rfl⟩
                    have t1 : (x : Int) - 1 = (xm : Int) := by omega
                    have t2 : IntKind.i64.wrap (xm : Int) = xm := by rw [IntKind.wrap_i64]; omega
                    have t3 : xm < n := by omega
                    have t4 : pv < n := by have := HA.out.pb; omega
                    have HXM := Lib.hid hxm
                    clear hxm
                    cases hl : ltInt (G xm) (G pv)
                    · have e : q2 = true := by rw [← HQ2.out, decide_eq_true_eq]; exact ⟨hx0, by rw [← HXM.out, ← HG.out, ← HG.out]; exact hl⟩
                      have HE := Lib.hid e
                      clear e
                      (go_quiet (first | (go_at_call 47; refine Calls.quiet_of_same (Less_c _ _ _)))); have Sx := Lib.hid (Sq.drewN_ S5.out nq); clear hc hf; generalize wc.drewN nq = w5 at Sx ⊢; clear nq; obtain ⟨hc, hf⟩ := Sq.cells Sx.out HR.out HG.out HS.out
                      go_wp2
                      go_meet
                      exact ⟨by rw [HE.out], Sx⟩
                    · have e : q2 = false := by rw [← HQ2.out, decide_eq_false_iff_not]; intro h; rw [← HXM.out, ← HG.out, ← HG.out, hl] at h; cases h.2
                      have HE := Lib.hid e
                      clear e
                      (go_quiet (first | (go_at_call 47; refine Calls.quiet_of_same (Less_c _ _ _)))); have Sx := Lib.hid (Sq.drewN_ S5.out nq); clear hc hf; generalize wc.drewN nq = w5 at Sx ⊢; clear nq; obtain ⟨hc, hf⟩ := Sq.cells Sx.out HR.out HG.out HS.out
                      go_wp2
                      go_meet
                      exact ⟨by rw [HE.out], Sx⟩
                  · have hx0z : ¬ (0 : Int) < (x : Int) := by omega
                    have e : q2 = false := by rw [← HQ2.out, decide_eq_false_iff_not]; intro h; exact hx0 h.1
                    have HE := Lib.hid e
                    clear e
                    (go_quiet (first | (go_at_call 47; refine Calls.quiet_of_same (Less_c _ _ _)))); have Sx := Lib.hid (Sq.drewN_ S5.out nq); clear hc hf; generalize wc.drewN nq = w5 at Sx ⊢; clear nq; obtain ⟨hc, hf⟩ := Sq.cells Sx.out HR.out HG.out HS.out
                    go_wp2
                    go_meet
                    exact ⟨by rw [HE.out], Sx⟩
                case rest =>
                  obtain ⟨rfl, S6⟩ := hcut
                  clear S5
                  have hs3 := HA.out.s3.trans hsk
                  have hpb := HA.out.pb
                  have hlb := HA.out.lb
                  cases q2
                  · have hq := HQ2.out
                    rw [decide_eq_false_iff_not] at hq
                    obtain ⟨mid, ap, d4, hx, g1, g2, g3, hle, hri⟩ := HZ.out.part HPT.out hq
                    have PT := Lib.hid (part_c g o c x y pv d0 d3 w0 wc HR.out (by omega) S6.out hpb.1 hpb.2 (by omega) (by omega))
                    rw [hs3, hx] at PT
                    have g6 : d4.size = n := g3.trans hsk
                    obtain ⟨lf, hlf⟩ : ∃ lf, lf = mid - x := ⟨_, rfl⟩
                    obtain ⟨rt, hrt⟩ : ∃ rt, rt = y - mid := ⟨_, rfl⟩
                    obtain ⟨th, hth⟩ : ∃ th, th = L / 8 := ⟨_, rfl⟩
                    obtain ⟨m1, hm1⟩ : ∃ m1, m1 = mid + 1 := ⟨_, rfl⟩
                    have t1 : (mid : Int) - (x : Int) = (lf : Int) := by omega
                    have t2 : (y : Int) - (mid : Int) = (rt : Int) := by omega
                    have t3 : ((L : Int)).tdiv 8 = (th : Int) := by rw [Int.tdiv_eq_ediv_of_nonneg (by omega)]; omega
                    have t4 : (L : Int) / 8 = (th : Int) := by omega
                    have t5 : (mid : Int) + 1 = (m1 : Int) := by omega
                    have u1 : IntKind.i64.wrap (lf : Int) = lf := by rw [IntKind.wrap_i64]; omega
                    have u2 : IntKind.i64.wrap (rt : Int) = rt := by rw [IntKind.wrap_i64]; omega
                    have u3 : IntKind.i64.wrap (th : Int) = th := by rw [IntKind.wrap_i64]; omega
                    have u4 : IntKind.i64.wrap (m1 : Int) = m1 := by rw [IntKind.wrap_i64]; omega
                    have TL : Hid (th = (y - x) / 8) := by unfold Hid; rw [hth, HL.out]
                    have HM1 := Lib.hid hm1
                    by_cases hlr : lf < rt
                    · have hlrz : (lf : Int) < (rt : Int) := by omega
                      obtain ⟨d5, k1, k2, k3, k4, k5⟩ := hle (by omega)
                      have PC : Hid (∀ W, Sq w0 g o d4 W → Calls Try.prog 34 #[.slice (some ⟨g, o, none⟩) n c, .int .i64 x, .int .i64 mid, .int .i64 lm] W fun e w' => e = .returned (.tuple #[]) ∧ Sq w0 g o d5 w') := fun W hW => by
                        have := IH.out x mid lm d4 W (by have := HYX.out; omega) g6 hW g1 (by omega) (by omega) k2
                        unfold PdqC at this
                        rw [k1] at this
                        exact this
                      have HE : Hid (pdq ltInt d5 m1 y lm (decide (mid - x ≥ (y - x) / 8)) ap = T) := by unfold Hid; rw [hm1, ← k5]; exact HO.out
                      have HW : Hid (decide (th ≤ lf) = decide (mid - x ≥ (y - x) / 8)) := by
                        unfold Hid; rw [← TL.out, ← hlf]
                      have k6 : d5.size = n := k3.trans hsk
                      have K4 : Hid (Go.Sort.Below ltInt m1 y d5) := by unfold Hid; rw [hm1]; exact k4
                      have m1y : m1 ≤ y ∧ x < m1 := by omega
                      clear hq hx g3 hle hri k1 k2 k3 k4 k5 hlf hrt hth hm1
                      go_wp2_with (first
                        | (go_at_call 49; (with_reducible refine PT.out.mono ?_); rintro e w7 ⟨rfl, S7⟩; have S7 := Lib.hid S7)
                        | (go_at_call 34; (with_reducible refine (PC.out _ S7.out).mono ?_); rintro e w8 ⟨rfl, S8⟩; have S8 := Lib.hid S8))
                      exact ⟨⟨m1, y, lm, _, ap, d5, rfl, rfl, rfl, congrArg Value.bool HW.out, rfl, m1y.1, hyn, by have := HYX.out; omega, by omega, k6, S8, K4, HE⟩, by simp [Go.Proofs.intOf] <;> omega⟩
                    · have hlrz : ¬ (lf : Int) < (rt : Int) := by omega
                      obtain ⟨d5, k1, k2, k3, k4, k5⟩ := hri (by omega)
                      have PC : Hid (∀ W, Sq w0 g o d4 W → Calls Try.prog 34 #[.slice (some ⟨g, o, none⟩) n c, .int .i64 m1, .int .i64 y, .int .i64 lm] W fun e w' => e = .returned (.tuple #[]) ∧ Sq w0 g o d5 w') := fun W hW => by
                        have := IH.out (mid + 1) y lm d4 W (by have := HYX.out; omega) g6 hW (by omega) (by omega) (by omega) k2
                        unfold PdqC at this
                        rw [k1, ← hm1] at this
                        exact this
                      have HE : Hid (pdq ltInt d5 x mid lm (decide (y - mid ≥ (y - x) / 8)) ap = T) := by unfold Hid; rw [← k5]; exact HO.out
                      have HW : Hid (decide (th ≤ rt) = decide (y - mid ≥ (y - x) / 8)) := by
                        unfold Hid; rw [← TL.out, ← hrt]
                      have k6 : d5.size = n := k3.trans hsk
                      have K4 := Lib.hid k4
                      clear hq hx g3 hle hri k1 k2 k3 k4 k5 hlf hrt hth hm1
                      go_wp2_with (first
                        | (go_at_call 49; (with_reducible refine PT.out.mono ?_); rintro e w7 ⟨rfl, S7⟩; have S7 := Lib.hid S7)
                        | (go_at_call 34; (with_reducible refine (PC.out _ S7.out).mono ?_); rintro e w8 ⟨rfl, S8⟩; have S8 := Lib.hid S8))
                      exact ⟨⟨x, mid, lm, _, ap, d5, rfl, rfl, rfl, congrArg Value.bool HW.out, rfl, g1, by omega, by have := HYX.out; omega, by omega, k6, S8, K4, HE⟩, by simp [Go.Proofs.intOf] <;> omega⟩
                  · have hq := HQ2.out
                    rw [decide_eq_true_eq] at hq
                    obtain ⟨mid, d4, hx, g1, g2, g3, g4, g5⟩ := HZ.out.eq HPT.out hq
                    have PE := Lib.hid (parteq_c g o c x y pv d0 d3 w0 wc HR.out (by omega) S6.out hpb.1 hpb.2 (by omega) (by omega))
                    rw [hs3, hx] at PE
                    have HE : Hid (pdq ltInt d4 mid y lm wb wp = T) := by unfold Hid; rw [← g5]; exact HO.out
                    have g6 : d4.size = n := g3.trans hsk
                    have G4 := Lib.hid g4
                    clear hq hx g3 g4 g5
                    go_wp2_with (go_at_call 48; (with_reducible refine PE.out.mono ?_); rintro e w7 ⟨rfl, S7⟩; have S7 := Lib.hid S7)
                    exact ⟨⟨mid, y, lm, wb, wp, d4, rfl, rfl, rfl, rfl, rfl, g2, hyn, by have := HYX.out; omega, by omega, g6, S7, G4, HE⟩, by simp [Go.Proofs.intOf] <;> omega⟩
theorem pdq_c (g o c n : Nat) (d0 : Array Int) (w0 : World) (R : Rq w0 g o d0) (hn0 : d0.size = n) (hsz : n < 4611686018427387904) :
    ∀ (N a b lim : Nat) (d : Array Int) (w : World), b - a < N → d.size = n → Sq w0 g o d w → a ≤ b → b ≤ n → lim < 4611686018427387904 → Go.Sort.Below ltInt a b d → PdqC g o c w0 n a b lim d w
  | 0, _, _, _, _, _, h => absurd h (Nat.not_lt_zero _)
  | N + 1, a, b, lim, d, w, h => fun hd S hab hb hlim hB => pdq_step g o c n N d0 w0 R hn0 hsz (pdq_c g o c n d0 w0 R hn0 hsz N) a b lim d w h hd S hab hb hlim hB
end BC
end Go.Proofs.Ytlcelocjfmclkaa
