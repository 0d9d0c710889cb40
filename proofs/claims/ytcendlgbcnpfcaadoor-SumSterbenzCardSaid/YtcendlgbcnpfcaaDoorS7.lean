/-
  Texts glued together for a claim: UK4.
-/
import Derived.Test.YtcendlgbcnpfcaaDoorS6
/-
  SumSterbenz: the walk.
-/
namespace Go.Proofs.YtcendlgbcnpfcaaDoor
set_option linter.unusedVariables false
set_option linter.unusedSimpArgs false
open Go.RowKit
set_option linter.unusedVariables false
set_option linter.unusedSimpArgs false
namespace SC
open L NC NK DC RC
theorem shf_1 {b : Dy} (hb : Ok b) (h : (Shf b 1).e = 0) : S (Shf b 1).d = 2 * S b := by
  have hx := hb.2.2.2.2.1
  unfold Shf at h ⊢
  rw [if_neg (by simpa using hb.1), if_neg (by omega)] at h ⊢
  unfold S
  rw [fin_sc (by omega) h]
  have := sc_shift b.m b.x 1 (by omega)
  rw [show b.x + ((1 : Nat) : Int) = b.x + 1 by omega] at this
  rw [← this, sc_mul1, sc_mul1 b.m, show b.m * 2 ^ 1 = 2 * b.m by omega, Int.mul_assoc]
theorem shf_2 {b : Dy} (hb : Ok b) (h : (Shf b (-1)).e = 0) : 2 * S (Shf b (-1)).d = S b := by
  have hx := hb.2.2.2.2.1
  unfold Shf at h ⊢
  rw [if_neg (by simpa using hb.1), if_neg (by omega)] at h ⊢
  unfold S
  rw [fin_sc (by omega) h]
  have := sc_shift b.m (b.x + -1) 1 (by omega)
  rw [show b.x + -1 + ((1 : Nat) : Int) = b.x by omega] at this
  rw [← this, sc_mul1, sc_mul1 (b.m * 2 ^ 1), show b.m * 2 ^ 1 = 2 * b.m by omega, Int.mul_assoc]
theorem cmp_le {a b : Dy} (ha : Ok a) (hb : Ok b) (h : ¬ Cmpn a b > 0) : S a ≤ S b := by
  rw [cmpn_S ha hb] at h
  rcases cmpv_3 (S a) (S b) with ⟨e, k⟩ | ⟨e, k⟩ | ⟨e, k⟩ <;> rw [e] at h <;> omega
theorem fit_neg {d : Dy} {k : Int} (h : Fit d k) : Fit (neg d) k := by
  refine ⟨⟨h.ok.1, ?_, ?_⟩, h.x, by rw [S_neg]; have := h.lo; omega, by rw [S_neg]; have := h.hi; omega⟩
  · have := h.ok.2.1
    unfold can at *
    show (-d.m = 0 ∧ d.x = 0) ∨ -d.m % 2 = 1
    omega
  · have := h.ok.2.2
    unfold inb at *
    show -d.m < _ ∧ _ < -d.m ∧ -10000 ≤ d.x ∧ d.x ≤ 10000
    generalize (4294967296 : Int) ^ 400 = c400 at *
    omega
theorem sub_fit {a b : Dy} {j k : Int} (ha : Fit a j) (hb : Fit b k) (hk : j + k ≤ 256) : (Sub a b).e = 0 ∧ Ok (Sub a b).d ∧ S (Sub a b).d = S a - S b := by
  have h := add_fit ha (fit_neg hb) hk
  have e : Sub a b = DC.Add a (neg b) := rfl
  rw [e]
  exact ⟨h.1, h.2.1.ok, by rw [h.2.2, S_neg]; omega⟩
theorem OfD_e {x : Int} (h : (OfD x).e = 0) : F.exq x ≠ 2047 := fun h2 => by
  unfold OfD at h; rw [if_pos h2] at h; cases h
theorem ster_end {x y mode : Int} (hm : 0 ≤ mode ∧ mode ≤ 4) (hx : fi x) (hy : fi y) (o : Bool) (h1 : (Shf (OfD y).d 1).e = 0) (h2 : (Shf (OfD y).d (-1)).e = 0) (hn : ng (OfD y).d = o)
    (c1 : ¬ Cmpn (if o = true then (Shf (OfD y).d 1).d else (Shf (OfD y).d (-1)).d) (OfD x).d > 0) (c2 : ¬ Cmpn (OfD x).d (if o = true then (Shf (OfD y).d (-1)).d else (Shf (OfD y).d 1).d) > 0) :
    ∃ s, AT [x, F.neg y] mode = (s, false, 0) ∧ fi s ∧ (OfD s).e = 0 ∧ (OfD s).d = (Sub (OfD x).d (OfD y).d).d ∧ Ok (OfD s).d ∧ (Sub (OfD x).d (OfD y).d).e = 0 := by
  have fx := of_fit hx
  have fy := of_fit hy
  have s1 := shf_1 fy.2.ok h1
  have s2 := shf_2 fy.2.ok h2
  have g1 := shf_good (OfD y).d 1
  have g2 := shf_good (OfD y).d (-1)
  have ab := A_abs (OfD y).d
  have cond : (0 ≤ val y ∧ val y ≤ 2 * val x ∧ val x ≤ 2 * val y) ∨ (val y ≤ 0 ∧ 2 * val y ≤ val x ∧ 2 * val x ≤ val y) := by
    unfold val
    cases o
    · left
      simp only [Bool.false_eq_true, if_false] at c1 c2
      have k1 := cmp_le g2 fx.2.ok c1
      have k2 := cmp_le fx.2.ok g1 c2
      have k3 : 0 ≤ S (OfD y).d := by
        rcases Int.lt_or_le (S (OfD y).d) 0 with h | h
        · have := (ab.2 h).2; rw [hn] at this; cases this
        · exact h
      exact ⟨k3, by omega, by omega⟩
    · right
      simp only [if_true] at c1 c2
      have k1 := cmp_le g1 fx.2.ok c1
      have k2 := cmp_le fx.2.ok g2 c2
      have k3 : S (OfD y).d ≤ 0 := by
        rcases Int.lt_or_le 0 (S (OfD y).d) with h | h
        · have := (ab.1 (by omega)).2; rw [hn] at this; cases this
        · exact h
      exact ⟨k3, by omega, by omega⟩
  obtain ⟨e1, e2, e3, e4⟩ := ster_p hm hx hy cond
  have fs := of_fit e2
  obtain ⟨q1, q2, q3⟩ := sub_fit fx.2 fy.2 (by omega)
  refine ⟨(AT [x, F.neg y] mode).1, by rw [← e1, ← e4], e2, fs.1, ?_, fs.2.ok, q1⟩
  exact S_inj fs.2.ok q2 (by rw [q3]; exact e3)
set_option maxRecDepth 100000 in
set_option maxHeartbeats 16000000 in
theorem ster_c (x y mode : Int) (w : World) (hx : 0 ≤ x ∧ x ≤ 18446744073709551615) (hy : 0 ≤ y ∧ y ≤ 18446744073709551615) (hT : TabD w) :
    Calls Tryd.prog 10 #[.int .u64 x, .int .u64 y, .int .i64 mode] w fun e w' => e = .returned (.bool true) ∧ Below w.heap.size w w' := by
  have HT : Hid (∀ W : World, Below w.heap.size w W → TabD W) := fun W hW => hT.below hW
  have LV : Hid (∀ W : World, Below w.heap.size w W → Calls Tryd.prog 55 #[] W fun e w' => e = .returned (.bool true) ∧ Below W.heap.size W w') := fun W hW => lives_c W (HT.out W hW)
  have D := Lib.hid (Below.refl w.heap.size w)
  have VX : Hid (∀ W : World, Below w.heap.size w W → Calls Tryd.prog 59 #[.int .u64 x] W (RetVb W (OfD x).d ((OfD x).e == 0))) := fun W hW => value_c x W hx.1 hx.2 (HT.out W hW)
  have VY : Hid (∀ W : World, Below w.heap.size w W → Calls Tryd.prog 59 #[.int .u64 y] W (RetVb W (OfD y).d ((OfD y).e == 0))) := fun W hW => value_c y W hy.1 hy.2 (HT.out W hW)
  obtain ⟨px, hpx⟩ : ∃ p, ((OfD x).e == 0) = p := ⟨_, rfl⟩
  obtain ⟨py, hpy⟩ : ∃ p, ((OfD y).e == 0) = p := ⟨_, rfl⟩
  rw [hpx] at VX
  rw [hpy] at VY
  by_cases hgo : (px = true ∧ py = true) ∧ 0 ≤ mode ∧ mode ≤ 4
  · obtain ⟨⟨rfl, rfl⟩, hm⟩ := hgo
    have fx : fi x := ⟨hx.1, hx.2, OfD_e (by simpa using hpx)⟩
    have fy : fi y := ⟨hy.1, hy.2, OfD_e (by simpa using hpy)⟩
    have SE := fun (o : Bool) => ster_end hm fx fy o
    have oa := (of_fit fx).2.ok
    have ob := (of_fit fy).2.ok
    have h1 := hm.1
    have h2 := hm.2
    have l1 : ¬ mode < 0 := by omega
    have l2 : ¬ mode > 4 := by omega
    have SS : Hid (∀ (W : World) (s : Int), AT [x, F.neg y] mode = (s, false, 0) → Below w.heap.size w W → Calls Tryd.prog 46 #[.int .u64 x, .int .u64 y, .int .i64 mode] W (DC.RetB W (.tuple #[.int .u64 s, .bool false, .int .i64 0]))) := fun W s ht hW => by
      have := Sub_c x y mode W hx hy (HT.out W hW)
      rwa [ht] at this
    have VS : Hid (∀ (W : World) (s : Int), fi s → (OfD s).e = 0 → Below w.heap.size w W → Calls Tryd.prog 59 #[.int .u64 s] W (RetVb W (OfD s).d true)) := fun W s hs he hW => by
      have := value_c s W hs.1 hs.2.1 (HT.out W hW)
      rwa [show ((OfD s).e == 0) = true by rw [he]; rfl] at this
    have SH : Hid (∀ (W : World) (u : Value) (d : Dy) (n : Int), DV W u d → Below w.heap.size w W → Calls Tryd.prog 33 #[u, .int .i64 n] W (RetD W (Shf d n))) := fun W u d n hu hW => Shift_d u d n W hu (HT.out W hW)
    have CM : Hid (∀ (W : World) (u v : Value) (d1 d2 : Dy), DV W u d1 → DV W v d2 → Below w.heap.size w W → Calls Tryd.prog 29 #[u, v] W (DC.RetB W (.tuple #[.int .i64 (Cmpn d1 d2), .int .i64 (Cmpe d1 d2)]))) := fun W u v d1 d2 h1 h2 hW => Cmp_d u v d1 d2 W h1 h2 (HT.out W hW)
    have SU : Hid (∀ (W : World) (u v : Value) (d1 d2 : Dy), DV W u d1 → DV W v d2 → Below w.heap.size w W → Calls Tryd.prog 31 #[u, v] W (RetD W (Sub d1 d2))) := fun W u v d1 d2 h1 h2 hW => Sub_d u v d1 d2 W h1 h2 (HT.out W hW)
    have O4 : Hid (∀ (W : World) (a b c d : Int) (o : Bool), [a, b, c, d].all (· == 0) = o → Calls Tryd.prog 56 #[.slice (some ⟨W.heap.size, 0, none⟩) 4 4] (W.alloc (.cells #[.int .i64 a, .int .i64 b, .int .i64 c, .int .i64 d] 26)) fun e w' => e = .returned (.bool o) ∧ W.alloc (.cells #[.int .i64 a, .int .i64 b, .int .i64 c, .int .i64 d] 26) = w') := fun W a b c d o ho => NK.ok4 W a b c d o ho
    have O2 : Hid (∀ (W : World) (ob : Obj), Calls Tryd.prog 56 #[.slice (some ⟨W.heap.size + 1, 0, none⟩) 2 2] ((W.alloc ob).alloc (.cells #[.int .i64 0, .int .i64 0] 26)) fun e w' => e = .returned (.bool true) ∧ (W.alloc ob).alloc (.cells #[.int .i64 0, .int .i64 0] 26) = w') := fun W ob => by
      have := ok2' (W.alloc ob) 0 0 true rfl
      rwa [show (W.alloc ob).heap.size = W.heap.size + 1 by simp] at this
    have GN : Hid (∀ (W : World) (b : Bool) (A : Option Addr) (n c : Nat) (z : Int), GV W b A n c z (OfD y).d → b = ng (OfD y).d) := fun W b A n c z g => g.2.1
    obtain ⟨o, ho⟩ : ∃ o, ng (OfD y).d = o := ⟨_, rfl⟩
    rw [ho] at GN
    have SE := fun k1 k2 => SE o k1 k2 ho
    clear hpx hpy fx fy hx hy hT hm ho
    generalize (OfD x).d = da at *
    generalize (OfD y).d = db at *
    cases o
    · simp only [Bool.false_eq_true, if_false] at SE
      obtain ⟨k, hk⟩ : ∃ k, [(Shf db 1).e, (Shf db (-1)).e, Cmpe (Shf db (-1)).d da, Cmpe da (Shf db 1).d].all (· == 0) = k := ⟨_, rfl⟩
      have HO := Lib.hid hk
      have hc : k = false ∨ (k = true ∧ Cmpn (Shf db (-1)).d da > 0) ∨ (k = true ∧ ¬ Cmpn (Shf db (-1)).d da > 0 ∧ Cmpn da (Shf db 1).d > 0) ∨ (k = true ∧ ¬ Cmpn (Shf db (-1)).d da > 0 ∧ ¬ Cmpn da (Shf db 1).d > 0) := by
        cases k
        · exact .inl rfl
        · by_cases h1 : Cmpn (Shf db (-1)).d da > 0
          · exact .inr (.inl ⟨rfl, h1⟩)
          · by_cases h2 : Cmpn da (Shf db 1).d > 0
            · exact .inr (.inr (.inl ⟨rfl, h1, h2⟩))
            · exact .inr (.inr (.inr ⟨rfl, h1, h2⟩))
      have SE := Lib.hid SE
      have OA := Lib.hid oa
      have OB := Lib.hid ob
      clear oa ob
      rcases hc with rfl | ⟨rfl, c1⟩ | ⟨rfl, c1, c2⟩ | ⟨rfl, c1, c2⟩
      · clear SE hk
        go_enter Tryd.func10, Tryd.ntmps10
        go_wp2_with (first
          | (go_at_call 59; (with_reducible refine (VX.out _ D.out).mono ?_); rintro e w1 ⟨ba, Aa, na, ca, xa, rfl, hv, hb⟩; have s := hb.alloc hb.size (.cells #[.bool ba, .slice Aa na ca, .int .i64 xa] 25); have Ka := Blk.new w1 25 #[.bool ba, .slice Aa na ca, .int .i64 xa]; have Va := hv.below (al1 w1 (.cells #[.bool ba, .slice Aa na ca, .int .i64 xa] 25)); have D := Lib.hid (D.out.trans (s.mono D.out.size)); clear hv hb s; have Ka := Lib.hid Ka; have Va := Lib.hid Va)
          | (go_at_call 59; (with_reducible refine (VY.out _ D.out).mono ?_); rintro e w2 ⟨bb, Ab, nb, cb, xb, rfl, hv, hb⟩; obtain rfl := GN.out _ _ _ _ _ _ hv; have s := hb.alloc hb.size (.cells #[.bool false, .slice Ab nb cb, .int .i64 xb] 25); have nab : Hid (w1.heap.size < w2.heap.size) := (by have := hb.size; simp at this; show _ < _; omega); have Ka := Lib.hid (Ka.out.below s Ka.out.lt); have Va := Lib.hid (Va.out.below s); have Kb := Lib.hid (Blk.new w2 25 #[.bool false, .slice Ab nb cb, .int .i64 xb]); have Vb := Lib.hid (hv.below (al1 w2 (.cells #[.bool false, .slice Ab nb cb, .int .i64 xb] 25))); have D := Lib.hid (D.out.trans (s.mono D.out.size)); clear hv hb s)
          | (go_at_call 55; (with_reducible refine (LV.out _ D.out).mono ?_); rintro e w3 ⟨rfl, hb⟩; have Ka := Lib.hid (Ka.out.below hb Ka.out.lt); have Kb := Lib.hid (Kb.out.below hb Kb.out.lt); have Va := Lib.hid (Va.out.below hb); have Vb := Lib.hid (Vb.out.below hb); have nb3 : Hid (w2.heap.size < w3.heap.size) := (by have := hb.size; simp at this; show _ < _; omega); have D := Lib.hid (D.out.trans (hb.mono D.out.size)); clear hb; have kb0 := (Kb.out).at_ 0 rfl; have kb1 := (Kb.out).at_ 1 rfl; have kb2 := (Kb.out).at_ 2 rfl)
          | (go_at_call 33; (with_reducible refine (SH.out _ _ _ 1 Vb.out.dv D.out).mono ?_); rintro e w4 ⟨bp, Ap, np, cp, xp, rfl, hv, hb⟩; have s := hb.alloc hb.size (.cells #[.bool bp, .slice Ap np cp, .int .i64 xp] 25); have Ka := Lib.hid (Ka.out.below s Ka.out.lt); have Kb := Lib.hid (Kb.out.below s Kb.out.lt); have Va := Lib.hid (Va.out.below s); have Vb := Lib.hid (Vb.out.below s); have Kp := Lib.hid (Blk.new w4 25 #[.bool bp, .slice Ap np cp, .int .i64 xp]); have Vp := Lib.hid (hv.below (al1 w4 (.cells #[.bool bp, .slice Ap np cp, .int .i64 xp] 25))); have hp := Lib.hid (D.out.trans (hb.mono D.out.size)).size; have nbp : Hid (w3.heap.size ≤ w4.heap.size) := hb.size; have D := Lib.hid (D.out.trans (s.mono D.out.size)); clear hv hb s; have kb0 := (Kb.out).at_ 0 rfl; have kb1 := (Kb.out).at_ 1 rfl; have kb2 := (Kb.out).at_ 2 rfl)
          | (go_at_call 33; (with_reducible refine (SH.out _ _ _ (-1) Vb.out.dv D.out).mono ?_); rintro e w5 ⟨bq, Aq, nq, cq, xq, rfl, hv, hb⟩; have s := hb.alloc hb.size (.cells #[.bool bq, .slice Aq nq cq, .int .i64 xq] 25); have hq := (D.out.trans (hb.mono D.out.size)).size; have npq : w4.heap.size < w5.heap.size := (by have := hb.size; simp at this; omega); have n1 := nab.out; have n2 := nb3.out; have n3 := nbp.out; have Fo : Four w (w5.alloc (.cells #[.bool bq, .slice Aq nq cq, .int .i64 xq] 25)) w1.heap.size w2.heap.size w4.heap.size w5.heap.size ba Aa na ca xa false Ab nb cb xb bp Ap np cp xp bq Aq nq cq xq da db (Shf db 1).d (Shf db (-1)).d := ⟨Ka.out.below s Ka.out.lt, Kb.out.below s Kb.out.lt, Kp.out.below s Kp.out.lt, Blk.new w5 _ _, Va.out.below s, Vb.out.below s, Vp.out.below s, hv.below (al1 w5 _), D.out.trans (s.mono D.out.size), hp.out, hq, by omega, by omega, by omega, by omega, by omega⟩; clear hv hb s Ka Kb Kp Va Vb Vp hq npq n1 n2 n3; have kb0 := (Fo.kb).at_ 0 rfl; have kb1 := (Fo.kb).at_ 1 rfl; have kb2 := (Fo.kb).at_ 2 rfl; have ka0 := (Fo.ka).at_ 0 rfl; have ka1 := (Fo.ka).at_ 1 rfl; have ka2 := (Fo.ka).at_ 2 rfl; have kp0 := (Fo.kp).at_ 0 rfl; have kp1 := (Fo.kp).at_ 1 rfl; have kp2 := (Fo.kp).at_ 2 rfl; have kq0 := (Fo.kq).at_ 0 rfl; have kq1 := (Fo.kq).at_ 1 rfl; have kq2 := (Fo.kq).at_ 2 rfl; have D := Lib.hid Fo.D; have Fo := Lib.hid Fo)
          | (go_at_call 29; (with_reducible refine (CM.out _ _ _ _ _ Fo.out.vq.dv Fo.out.va.dv D.out).mono ?_); rintro e w6 ⟨rfl, hb⟩; have Fo := Lib.hid (Fo.out.below hb); have D := Lib.hid Fo.out.D; clear hb; have ka0 := (Fo.out.ka).at_ 0 rfl; have ka1 := (Fo.out.ka).at_ 1 rfl; have ka2 := (Fo.out.ka).at_ 2 rfl; have kp0 := (Fo.out.kp).at_ 0 rfl; have kp1 := (Fo.out.kp).at_ 1 rfl; have kp2 := (Fo.out.kp).at_ 2 rfl)
          | (go_at_call 29; (with_reducible refine (CM.out _ _ _ _ _ Fo.out.va.dv Fo.out.vp.dv D.out).mono ?_); rintro e w7 ⟨rfl, hb⟩; have Fo := Lib.hid (Fo.out.below hb); have D := Lib.hid Fo.out.D; clear hb)
          | (go_at_call 56; (with_reducible refine (O4.out w7 (Shf db 1).e (Shf db (-1)).e (Cmpe (Shf db (-1)).d da) (Cmpe da (Shf db 1).d) _ HO.out).mono ?_); rintro e w8 ⟨rfl, hw⟩; have s := al1 w7 (.cells #[.int .i64 (Shf db 1).e, .int .i64 (Shf db (-1)).e, .int .i64 (Cmpe (Shf db (-1)).d da), .int .i64 (Cmpe da (Shf db 1).d)] 26); rw [hw] at s; clear hw; have Fo := Lib.hid (Fo.out.below s); have D := Lib.hid Fo.out.D; clear s))
        go_ret
        exact ⟨rfl, D.out⟩
      · clear SE hk
        go_enter Tryd.func10, Tryd.ntmps10
        go_wp2_with (first
          | (go_at_call 59; (with_reducible refine (VX.out _ D.out).mono ?_); rintro e w1 ⟨ba, Aa, na, ca, xa, rfl, hv, hb⟩; have s := hb.alloc hb.size (.cells #[.bool ba, .slice Aa na ca, .int .i64 xa] 25); have Ka := Blk.new w1 25 #[.bool ba, .slice Aa na ca, .int .i64 xa]; have Va := hv.below (al1 w1 (.cells #[.bool ba, .slice Aa na ca, .int .i64 xa] 25)); have D := Lib.hid (D.out.trans (s.mono D.out.size)); clear hv hb s; have Ka := Lib.hid Ka; have Va := Lib.hid Va)
          | (go_at_call 59; (with_reducible refine (VY.out _ D.out).mono ?_); rintro e w2 ⟨bb, Ab, nb, cb, xb, rfl, hv, hb⟩; obtain rfl := GN.out _ _ _ _ _ _ hv; have s := hb.alloc hb.size (.cells #[.bool false, .slice Ab nb cb, .int .i64 xb] 25); have nab : Hid (w1.heap.size < w2.heap.size) := (by have := hb.size; simp at this; show _ < _; omega); have Ka := Lib.hid (Ka.out.below s Ka.out.lt); have Va := Lib.hid (Va.out.below s); have Kb := Lib.hid (Blk.new w2 25 #[.bool false, .slice Ab nb cb, .int .i64 xb]); have Vb := Lib.hid (hv.below (al1 w2 (.cells #[.bool false, .slice Ab nb cb, .int .i64 xb] 25))); have D := Lib.hid (D.out.trans (s.mono D.out.size)); clear hv hb s)
          | (go_at_call 55; (with_reducible refine (LV.out _ D.out).mono ?_); rintro e w3 ⟨rfl, hb⟩; have Ka := Lib.hid (Ka.out.below hb Ka.out.lt); have Kb := Lib.hid (Kb.out.below hb Kb.out.lt); have Va := Lib.hid (Va.out.below hb); have Vb := Lib.hid (Vb.out.below hb); have nb3 : Hid (w2.heap.size < w3.heap.size) := (by have := hb.size; simp at this; show _ < _; omega); have D := Lib.hid (D.out.trans (hb.mono D.out.size)); clear hb; have kb0 := (Kb.out).at_ 0 rfl; have kb1 := (Kb.out).at_ 1 rfl; have kb2 := (Kb.out).at_ 2 rfl)
          | (go_at_call 33; (with_reducible refine (SH.out _ _ _ 1 Vb.out.dv D.out).mono ?_); rintro e w4 ⟨bp, Ap, np, cp, xp, rfl, hv, hb⟩; have s := hb.alloc hb.size (.cells #[.bool bp, .slice Ap np cp, .int .i64 xp] 25); have Ka := Lib.hid (Ka.out.below s Ka.out.lt); have Kb := Lib.hid (Kb.out.below s Kb.out.lt); have Va := Lib.hid (Va.out.below s); have Vb := Lib.hid (Vb.out.below s); have Kp := Lib.hid (Blk.new w4 25 #[.bool bp, .slice Ap np cp, .int .i64 xp]); have Vp := Lib.hid (hv.below (al1 w4 (.cells #[.bool bp, .slice Ap np cp, .int .i64 xp] 25))); have hp := Lib.hid (D.out.trans (hb.mono D.out.size)).size; have nbp : Hid (w3.heap.size ≤ w4.heap.size) := hb.size; have D := Lib.hid (D.out.trans (s.mono D.out.size)); clear hv hb s; have kb0 := (Kb.out).at_ 0 rfl; have kb1 := (Kb.out).at_ 1 rfl; have kb2 := (Kb.out).at_ 2 rfl)
          | (go_at_call 33; (with_reducible refine (SH.out _ _ _ (-1) Vb.out.dv D.out).mono ?_); rintro e w5 ⟨bq, Aq, nq, cq, xq, rfl, hv, hb⟩; have s := hb.alloc hb.size (.cells #[.bool bq, .slice Aq nq cq, .int .i64 xq] 25); have hq := (D.out.trans (hb.mono D.out.size)).size; have npq : w4.heap.size < w5.heap.size := (by have := hb.size; simp at this; omega); have n1 := nab.out; have n2 := nb3.out; have n3 := nbp.out; have Fo : Four w (w5.alloc (.cells #[.bool bq, .slice Aq nq cq, .int .i64 xq] 25)) w1.heap.size w2.heap.size w4.heap.size w5.heap.size ba Aa na ca xa false Ab nb cb xb bp Ap np cp xp bq Aq nq cq xq da db (Shf db 1).d (Shf db (-1)).d := ⟨Ka.out.below s Ka.out.lt, Kb.out.below s Kb.out.lt, Kp.out.below s Kp.out.lt, Blk.new w5 _ _, Va.out.below s, Vb.out.below s, Vp.out.below s, hv.below (al1 w5 _), D.out.trans (s.mono D.out.size), hp.out, hq, by omega, by omega, by omega, by omega, by omega⟩; clear hv hb s Ka Kb Kp Va Vb Vp hq npq n1 n2 n3; have kb0 := (Fo.kb).at_ 0 rfl; have kb1 := (Fo.kb).at_ 1 rfl; have kb2 := (Fo.kb).at_ 2 rfl; have ka0 := (Fo.ka).at_ 0 rfl; have ka1 := (Fo.ka).at_ 1 rfl; have ka2 := (Fo.ka).at_ 2 rfl; have kp0 := (Fo.kp).at_ 0 rfl; have kp1 := (Fo.kp).at_ 1 rfl; have kp2 := (Fo.kp).at_ 2 rfl; have kq0 := (Fo.kq).at_ 0 rfl; have kq1 := (Fo.kq).at_ 1 rfl; have kq2 := (Fo.kq).at_ 2 rfl; have D := Lib.hid Fo.D; have Fo := Lib.hid Fo)
          | (go_at_call 29; (with_reducible refine (CM.out _ _ _ _ _ Fo.out.vq.dv Fo.out.va.dv D.out).mono ?_); rintro e w6 ⟨rfl, hb⟩; have Fo := Lib.hid (Fo.out.below hb); have D := Lib.hid Fo.out.D; clear hb; have ka0 := (Fo.out.ka).at_ 0 rfl; have ka1 := (Fo.out.ka).at_ 1 rfl; have ka2 := (Fo.out.ka).at_ 2 rfl; have kp0 := (Fo.out.kp).at_ 0 rfl; have kp1 := (Fo.out.kp).at_ 1 rfl; have kp2 := (Fo.out.kp).at_ 2 rfl)
          | (go_at_call 29; (with_reducible refine (CM.out _ _ _ _ _ Fo.out.va.dv Fo.out.vp.dv D.out).mono ?_); rintro e w7 ⟨rfl, hb⟩; have Fo := Lib.hid (Fo.out.below hb); have D := Lib.hid Fo.out.D; clear hb)
          | (go_at_call 56; (with_reducible refine (O4.out w7 (Shf db 1).e (Shf db (-1)).e (Cmpe (Shf db (-1)).d da) (Cmpe da (Shf db 1).d) _ HO.out).mono ?_); rintro e w8 ⟨rfl, hw⟩; have s := al1 w7 (.cells #[.int .i64 (Shf db 1).e, .int .i64 (Shf db (-1)).e, .int .i64 (Cmpe (Shf db (-1)).d da), .int .i64 (Cmpe da (Shf db 1).d)] 26); rw [hw] at s; clear hw; have Fo := Lib.hid (Fo.out.below s); have D := Lib.hid Fo.out.D; clear s))
        go_ret
        exact ⟨rfl, D.out⟩
      · clear SE hk
        go_enter Tryd.func10, Tryd.ntmps10
        go_wp2_with (first
          | (go_at_call 59; (with_reducible refine (VX.out _ D.out).mono ?_); rintro e w1 ⟨ba, Aa, na, ca, xa, rfl, hv, hb⟩; have s := hb.alloc hb.size (.cells #[.bool ba, .slice Aa na ca, .int .i64 xa] 25); have Ka := Blk.new w1 25 #[.bool ba, .slice Aa na ca, .int .i64 xa]; have Va := hv.below (al1 w1 (.cells #[.bool ba, .slice Aa na ca, .int .i64 xa] 25)); have D := Lib.hid (D.out.trans (s.mono D.out.size)); clear hv hb s; have Ka := Lib.hid Ka; have Va := Lib.hid Va)
          | (go_at_call 59; (with_reducible refine (VY.out _ D.out).mono ?_); rintro e w2 ⟨bb, Ab, nb, cb, xb, rfl, hv, hb⟩; obtain rfl := GN.out _ _ _ _ _ _ hv; have s := hb.alloc hb.size (.cells #[.bool false, .slice Ab nb cb, .int .i64 xb] 25); have nab : Hid (w1.heap.size < w2.heap.size) := (by have := hb.size; simp at this; show _ < _; omega); have Ka := Lib.hid (Ka.out.below s Ka.out.lt); have Va := Lib.hid (Va.out.below s); have Kb := Lib.hid (Blk.new w2 25 #[.bool false, .slice Ab nb cb, .int .i64 xb]); have Vb := Lib.hid (hv.below (al1 w2 (.cells #[.bool false, .slice Ab nb cb, .int .i64 xb] 25))); have D := Lib.hid (D.out.trans (s.mono D.out.size)); clear hv hb s)
          | (go_at_call 55; (with_reducible refine (LV.out _ D.out).mono ?_); rintro e w3 ⟨rfl, hb⟩; have Ka := Lib.hid (Ka.out.below hb Ka.out.lt); have Kb := Lib.hid (Kb.out.below hb Kb.out.lt); have Va := Lib.hid (Va.out.below hb); have Vb := Lib.hid (Vb.out.below hb); have nb3 : Hid (w2.heap.size < w3.heap.size) := (by have := hb.size; simp at this; show _ < _; omega); have D := Lib.hid (D.out.trans (hb.mono D.out.size)); clear hb; have kb0 := (Kb.out).at_ 0 rfl; have kb1 := (Kb.out).at_ 1 rfl; have kb2 := (Kb.out).at_ 2 rfl)
          | (go_at_call 33; (with_reducible refine (SH.out _ _ _ 1 Vb.out.dv D.out).mono ?_); rintro e w4 ⟨bp, Ap, np, cp, xp, rfl, hv, hb⟩; have s := hb.alloc hb.size (.cells #[.bool bp, .slice Ap np cp, .int .i64 xp] 25); have Ka := Lib.hid (Ka.out.below s Ka.out.lt); have Kb := Lib.hid (Kb.out.below s Kb.out.lt); have Va := Lib.hid (Va.out.below s); have Vb := Lib.hid (Vb.out.below s); have Kp := Lib.hid (Blk.new w4 25 #[.bool bp, .slice Ap np cp, .int .i64 xp]); have Vp := Lib.hid (hv.below (al1 w4 (.cells #[.bool bp, .slice Ap np cp, .int .i64 xp] 25))); have hp := Lib.hid (D.out.trans (hb.mono D.out.size)).size; have nbp : Hid (w3.heap.size ≤ w4.heap.size) := hb.size; have D := Lib.hid (D.out.trans (s.mono D.out.size)); clear hv hb s; have kb0 := (Kb.out).at_ 0 rfl; have kb1 := (Kb.out).at_ 1 rfl; have kb2 := (Kb.out).at_ 2 rfl)
          | (go_at_call 33; (with_reducible refine (SH.out _ _ _ (-1) Vb.out.dv D.out).mono ?_); rintro e w5 ⟨bq, Aq, nq, cq, xq, rfl, hv, hb⟩; have s := hb.alloc hb.size (.cells #[.bool bq, .slice Aq nq cq, .int .i64 xq] 25); have hq := (D.out.trans (hb.mono D.out.size)).size; have npq : w4.heap.size < w5.heap.size := (by have := hb.size; simp at this; omega); have n1 := nab.out; have n2 := nb3.out; have n3 := nbp.out; have Fo : Four w (w5.alloc (.cells #[.bool bq, .slice Aq nq cq, .int .i64 xq] 25)) w1.heap.size w2.heap.size w4.heap.size w5.heap.size ba Aa na ca xa false Ab nb cb xb bp Ap np cp xp bq Aq nq cq xq da db (Shf db 1).d (Shf db (-1)).d := ⟨Ka.out.below s Ka.out.lt, Kb.out.below s Kb.out.lt, Kp.out.below s Kp.out.lt, Blk.new w5 _ _, Va.out.below s, Vb.out.below s, Vp.out.below s, hv.below (al1 w5 _), D.out.trans (s.mono D.out.size), hp.out, hq, by omega, by omega, by omega, by omega, by omega⟩; clear hv hb s Ka Kb Kp Va Vb Vp hq npq n1 n2 n3; have kb0 := (Fo.kb).at_ 0 rfl; have kb1 := (Fo.kb).at_ 1 rfl; have kb2 := (Fo.kb).at_ 2 rfl; have ka0 := (Fo.ka).at_ 0 rfl; have ka1 := (Fo.ka).at_ 1 rfl; have ka2 := (Fo.ka).at_ 2 rfl; have kp0 := (Fo.kp).at_ 0 rfl; have kp1 := (Fo.kp).at_ 1 rfl; have kp2 := (Fo.kp).at_ 2 rfl; have kq0 := (Fo.kq).at_ 0 rfl; have kq1 := (Fo.kq).at_ 1 rfl; have kq2 := (Fo.kq).at_ 2 rfl; have D := Lib.hid Fo.D; have Fo := Lib.hid Fo)
          | (go_at_call 29; (with_reducible refine (CM.out _ _ _ _ _ Fo.out.vq.dv Fo.out.va.dv D.out).mono ?_); rintro e w6 ⟨rfl, hb⟩; have Fo := Lib.hid (Fo.out.below hb); have D := Lib.hid Fo.out.D; clear hb; have ka0 := (Fo.out.ka).at_ 0 rfl; have ka1 := (Fo.out.ka).at_ 1 rfl; have ka2 := (Fo.out.ka).at_ 2 rfl; have kp0 := (Fo.out.kp).at_ 0 rfl; have kp1 := (Fo.out.kp).at_ 1 rfl; have kp2 := (Fo.out.kp).at_ 2 rfl)
          | (go_at_call 29; (with_reducible refine (CM.out _ _ _ _ _ Fo.out.va.dv Fo.out.vp.dv D.out).mono ?_); rintro e w7 ⟨rfl, hb⟩; have Fo := Lib.hid (Fo.out.below hb); have D := Lib.hid Fo.out.D; clear hb)
          | (go_at_call 56; (with_reducible refine (O4.out w7 (Shf db 1).e (Shf db (-1)).e (Cmpe (Shf db (-1)).d da) (Cmpe da (Shf db 1).d) _ HO.out).mono ?_); rintro e w8 ⟨rfl, hw⟩; have s := al1 w7 (.cells #[.int .i64 (Shf db 1).e, .int .i64 (Shf db (-1)).e, .int .i64 (Cmpe (Shf db (-1)).d da), .int .i64 (Cmpe da (Shf db 1).d)] 26); rw [hw] at s; clear hw; have Fo := Lib.hid (Fo.out.below s); have D := Lib.hid Fo.out.D; clear s))
        go_ret
        exact ⟨rfl, D.out⟩
      · obtain ⟨e1, e2, e3, e4⟩ := all4o hk
        obtain ⟨sv, ha, hf, he, hd, hok, hs⟩ := SE.out e1 e2 c1 c2
        have EA := Lib.hid ha
        have FS := Lib.hid hf
        have ES := Lib.hid he
        have ED := Lib.hid hs
        have SM : Hid (∀ (W : World) (u v : Value), DV W u (OfD sv).d → DV W v (Sub da db).d → Calls Tryd.prog 18 #[u, v] W (DC.RetB W (.bool true))) := fun W u v h1 h2 => same_true h1 h2 hd hok
        clear SE hk e1 e2 e3 e4 ha hf he hd hok hs
        go_enter Tryd.func10, Tryd.ntmps10
        go_wp2_with (first
          | (go_at_call 59; (with_reducible refine (VX.out _ D.out).mono ?_); rintro e w1 ⟨ba, Aa, na, ca, xa, rfl, hv, hb⟩; have s := hb.alloc hb.size (.cells #[.bool ba, .slice Aa na ca, .int .i64 xa] 25); have Ka := Blk.new w1 25 #[.bool ba, .slice Aa na ca, .int .i64 xa]; have Va := hv.below (al1 w1 (.cells #[.bool ba, .slice Aa na ca, .int .i64 xa] 25)); have D := Lib.hid (D.out.trans (s.mono D.out.size)); clear hv hb s; have Ka := Lib.hid Ka; have Va := Lib.hid Va)
          | (go_at_call 59; (with_reducible refine (VY.out _ D.out).mono ?_); rintro e w2 ⟨bb, Ab, nb, cb, xb, rfl, hv, hb⟩; obtain rfl := GN.out _ _ _ _ _ _ hv; have s := hb.alloc hb.size (.cells #[.bool false, .slice Ab nb cb, .int .i64 xb] 25); have nab : Hid (w1.heap.size < w2.heap.size) := (by have := hb.size; simp at this; show _ < _; omega); have Ka := Lib.hid (Ka.out.below s Ka.out.lt); have Va := Lib.hid (Va.out.below s); have Kb := Lib.hid (Blk.new w2 25 #[.bool false, .slice Ab nb cb, .int .i64 xb]); have Vb := Lib.hid (hv.below (al1 w2 (.cells #[.bool false, .slice Ab nb cb, .int .i64 xb] 25))); have D := Lib.hid (D.out.trans (s.mono D.out.size)); clear hv hb s)
          | (go_at_call 55; (with_reducible refine (LV.out _ D.out).mono ?_); rintro e w3 ⟨rfl, hb⟩; have Ka := Lib.hid (Ka.out.below hb Ka.out.lt); have Kb := Lib.hid (Kb.out.below hb Kb.out.lt); have Va := Lib.hid (Va.out.below hb); have Vb := Lib.hid (Vb.out.below hb); have nb3 : Hid (w2.heap.size < w3.heap.size) := (by have := hb.size; simp at this; show _ < _; omega); have D := Lib.hid (D.out.trans (hb.mono D.out.size)); clear hb; have kb0 := (Kb.out).at_ 0 rfl; have kb1 := (Kb.out).at_ 1 rfl; have kb2 := (Kb.out).at_ 2 rfl)
          | (go_at_call 33; (with_reducible refine (SH.out _ _ _ 1 Vb.out.dv D.out).mono ?_); rintro e w4 ⟨bp, Ap, np, cp, xp, rfl, hv, hb⟩; have s := hb.alloc hb.size (.cells #[.bool bp, .slice Ap np cp, .int .i64 xp] 25); have Ka := Lib.hid (Ka.out.below s Ka.out.lt); have Kb := Lib.hid (Kb.out.below s Kb.out.lt); have Va := Lib.hid (Va.out.below s); have Vb := Lib.hid (Vb.out.below s); have Kp := Lib.hid (Blk.new w4 25 #[.bool bp, .slice Ap np cp, .int .i64 xp]); have Vp := Lib.hid (hv.below (al1 w4 (.cells #[.bool bp, .slice Ap np cp, .int .i64 xp] 25))); have hp := Lib.hid (D.out.trans (hb.mono D.out.size)).size; have nbp : Hid (w3.heap.size ≤ w4.heap.size) := hb.size; have D := Lib.hid (D.out.trans (s.mono D.out.size)); clear hv hb s; have kb0 := (Kb.out).at_ 0 rfl; have kb1 := (Kb.out).at_ 1 rfl; have kb2 := (Kb.out).at_ 2 rfl)
          | (go_at_call 33; (with_reducible refine (SH.out _ _ _ (-1) Vb.out.dv D.out).mono ?_); rintro e w5 ⟨bq, Aq, nq, cq, xq, rfl, hv, hb⟩; have s := hb.alloc hb.size (.cells #[.bool bq, .slice Aq nq cq, .int .i64 xq] 25); have hq := (D.out.trans (hb.mono D.out.size)).size; have npq : w4.heap.size < w5.heap.size := (by have := hb.size; simp at this; omega); have n1 := nab.out; have n2 := nb3.out; have n3 := nbp.out; have Fo : Four w (w5.alloc (.cells #[.bool bq, .slice Aq nq cq, .int .i64 xq] 25)) w1.heap.size w2.heap.size w4.heap.size w5.heap.size ba Aa na ca xa false Ab nb cb xb bp Ap np cp xp bq Aq nq cq xq da db (Shf db 1).d (Shf db (-1)).d := ⟨Ka.out.below s Ka.out.lt, Kb.out.below s Kb.out.lt, Kp.out.below s Kp.out.lt, Blk.new w5 _ _, Va.out.below s, Vb.out.below s, Vp.out.below s, hv.below (al1 w5 _), D.out.trans (s.mono D.out.size), hp.out, hq, by omega, by omega, by omega, by omega, by omega⟩; clear hv hb s Ka Kb Kp Va Vb Vp hq npq n1 n2 n3; have kb0 := (Fo.kb).at_ 0 rfl; have kb1 := (Fo.kb).at_ 1 rfl; have kb2 := (Fo.kb).at_ 2 rfl; have ka0 := (Fo.ka).at_ 0 rfl; have ka1 := (Fo.ka).at_ 1 rfl; have ka2 := (Fo.ka).at_ 2 rfl; have kp0 := (Fo.kp).at_ 0 rfl; have kp1 := (Fo.kp).at_ 1 rfl; have kp2 := (Fo.kp).at_ 2 rfl; have kq0 := (Fo.kq).at_ 0 rfl; have kq1 := (Fo.kq).at_ 1 rfl; have kq2 := (Fo.kq).at_ 2 rfl; have D := Lib.hid Fo.D; have Fo := Lib.hid Fo)
          | (go_at_call 29; (with_reducible refine (CM.out _ _ _ _ _ Fo.out.vq.dv Fo.out.va.dv D.out).mono ?_); rintro e w6 ⟨rfl, hb⟩; have Fo := Lib.hid (Fo.out.below hb); have D := Lib.hid Fo.out.D; clear hb; have ka0 := (Fo.out.ka).at_ 0 rfl; have ka1 := (Fo.out.ka).at_ 1 rfl; have ka2 := (Fo.out.ka).at_ 2 rfl; have kp0 := (Fo.out.kp).at_ 0 rfl; have kp1 := (Fo.out.kp).at_ 1 rfl; have kp2 := (Fo.out.kp).at_ 2 rfl)
          | (go_at_call 29; (with_reducible refine (CM.out _ _ _ _ _ Fo.out.va.dv Fo.out.vp.dv D.out).mono ?_); rintro e w7 ⟨rfl, hb⟩; have Fo := Lib.hid (Fo.out.below hb); have D := Lib.hid Fo.out.D; clear hb)
          | (go_at_call 56; (with_reducible refine (O4.out w7 (Shf db 1).e (Shf db (-1)).e (Cmpe (Shf db (-1)).d da) (Cmpe da (Shf db 1).d) _ HO.out).mono ?_); rintro e w8 ⟨rfl, hw⟩; have s := al1 w7 (.cells #[.int .i64 (Shf db 1).e, .int .i64 (Shf db (-1)).e, .int .i64 (Cmpe (Shf db (-1)).d da), .int .i64 (Cmpe da (Shf db 1).d)] 26); rw [hw] at s; clear hw; have Fo := Lib.hid (Fo.out.below s); have D := Lib.hid Fo.out.D; clear s)
          | (go_at_call 46; (with_reducible refine (SS.out _ _ EA.out D.out).mono ?_); rintro e w9 ⟨rfl, hb⟩; have Fo := Lib.hid (Fo.out.below hb); have D := Lib.hid Fo.out.D; clear hb)
          | (go_at_call 59; (with_reducible refine (VS.out _ _ FS.out ES.out D.out).mono ?_); rintro e w10 ⟨bs, As, ns, cs, xs, rfl, hv, hb⟩; have t := hb.alloc hb.size (.cells #[.bool bs, .slice As ns cs, .int .i64 xs] 25); have Fo := Lib.hid (Fo.out.below t); have Ks := Lib.hid (Blk.new w10 25 #[.bool bs, .slice As ns cs, .int .i64 xs]); have Vs := Lib.hid (hv.below (al1 w10 (.cells #[.bool bs, .slice As ns cs, .int .i64 xs] 25))); have D := Lib.hid Fo.out.D; clear hv hb t; have ka0 := (Fo.out.ka).at_ 0 rfl; have ka1 := (Fo.out.ka).at_ 1 rfl; have ka2 := (Fo.out.ka).at_ 2 rfl; have kb0 := (Fo.out.kb).at_ 0 rfl; have kb1 := (Fo.out.kb).at_ 1 rfl; have kb2 := (Fo.out.kb).at_ 2 rfl)
          | (go_at_call 31; (with_reducible refine (SU.out _ _ _ _ _ Fo.out.va.dv Fo.out.vb.dv D.out).mono ?_); rintro e w11 ⟨bt, At, nt, ct, xt, rfl, hv, hb⟩; have t := hb.alloc hb.size (.cells #[.bool bt, .slice At nt ct, .int .i64 xt] 25); have Ks := Lib.hid (Ks.out.below t Ks.out.lt); have Vs := Lib.hid (Vs.out.below t); have Kt := Lib.hid (Blk.new w11 25 #[.bool bt, .slice At nt ct, .int .i64 xt]); have Vt := Lib.hid (hv.below (al1 w11 (.cells #[.bool bt, .slice At nt ct, .int .i64 xt] 25))); have D := Lib.hid (D.out.trans (t.mono D.out.size)); clear hv hb t Fo)
          | (go_at_call 56; (try rw [ED.out]); (with_reducible refine (O2.out w11 (.cells #[.bool bt, .slice At nt ct, .int .i64 xt] 25)).mono ?_); rintro e w12 ⟨rfl, hw⟩; have t := al1 (w11.alloc (.cells #[.bool bt, .slice At nt ct, .int .i64 xt] 25)) (.cells #[.int .i64 0, .int .i64 0] 26); rw [hw] at t; clear hw; have Ks := Lib.hid (Ks.out.below t Ks.out.lt); have Vs := Lib.hid (Vs.out.below t); have Kt := Lib.hid (Kt.out.below t Kt.out.lt); have Vt := Lib.hid (Vt.out.below t); have D := Lib.hid (D.out.trans (t.mono D.out.size)); clear t; have ks0 := (Ks.out).at_ 0 rfl; have ks1 := (Ks.out).at_ 1 rfl; have ks2 := (Ks.out).at_ 2 rfl; have kt0 := (Kt.out).at_ 0 rfl; have kt1 := (Kt.out).at_ 1 rfl; have kt2 := (Kt.out).at_ 2 rfl)
          | (go_at_call 18; (with_reducible refine (SM.out _ _ _ Vs.out.dv Vt.out.dv).mono ?_); rintro e w13 ⟨rfl, hb⟩; have D := Lib.hid (D.out.trans (hb.mono D.out.size)); clear hb))
        go_ret
        exact ⟨rfl, D.out⟩
    · simp only [if_true] at SE
      obtain ⟨k, hk⟩ : ∃ k, [(Shf db 1).e, (Shf db (-1)).e, Cmpe (Shf db 1).d da, Cmpe da (Shf db (-1)).d].all (· == 0) = k := ⟨_, rfl⟩
      have HO := Lib.hid hk
      have hc : k = false ∨ (k = true ∧ Cmpn (Shf db 1).d da > 0) ∨ (k = true ∧ ¬ Cmpn (Shf db 1).d da > 0 ∧ Cmpn da (Shf db (-1)).d > 0) ∨ (k = true ∧ ¬ Cmpn (Shf db 1).d da > 0 ∧ ¬ Cmpn da (Shf db (-1)).d > 0) := by
        cases k
        · exact .inl rfl
        · by_cases h1 : Cmpn (Shf db 1).d da > 0
          · exact .inr (.inl ⟨rfl, h1⟩)
          · by_cases h2 : Cmpn da (Shf db (-1)).d > 0
            · exact .inr (.inr (.inl ⟨rfl, h1, h2⟩))
            · exact .inr (.inr (.inr ⟨rfl, h1, h2⟩))
      have SE := Lib.hid SE
      have OA := Lib.hid oa
      have OB := Lib.hid ob
      clear oa ob
      rcases hc with rfl | ⟨rfl, c1⟩ | ⟨rfl, c1, c2⟩ | ⟨rfl, c1, c2⟩
      · clear SE hk
        go_enter Tryd.func10, Tryd.ntmps10
        go_upto_region 9 with (first
          | (go_at_call 59; (with_reducible refine (VX.out _ D.out).mono ?_); rintro e w1 ⟨ba, Aa, na, ca, xa, rfl, hv, hb⟩; have s := hb.alloc hb.size (.cells #[.bool ba, .slice Aa na ca, .int .i64 xa] 25); have Ka := Blk.new w1 25 #[.bool ba, .slice Aa na ca, .int .i64 xa]; have Va := hv.below (al1 w1 (.cells #[.bool ba, .slice Aa na ca, .int .i64 xa] 25)); have D := Lib.hid (D.out.trans (s.mono D.out.size)); clear hv hb s; have Ka := Lib.hid Ka; have Va := Lib.hid Va)
          | (go_at_call 59; (with_reducible refine (VY.out _ D.out).mono ?_); rintro e w2 ⟨bb, Ab, nb, cb, xb, rfl, hv, hb⟩; obtain rfl := GN.out _ _ _ _ _ _ hv; have s := hb.alloc hb.size (.cells #[.bool true, .slice Ab nb cb, .int .i64 xb] 25); have nab : Hid (w1.heap.size < w2.heap.size) := (by have := hb.size; simp at this; show _ < _; omega); have Ka := Lib.hid (Ka.out.below s Ka.out.lt); have Va := Lib.hid (Va.out.below s); have Kb := Lib.hid (Blk.new w2 25 #[.bool true, .slice Ab nb cb, .int .i64 xb]); have Vb := Lib.hid (hv.below (al1 w2 (.cells #[.bool true, .slice Ab nb cb, .int .i64 xb] 25))); have D := Lib.hid (D.out.trans (s.mono D.out.size)); clear hv hb s)
          | (go_at_call 55; (with_reducible refine (LV.out _ D.out).mono ?_); rintro e w3 ⟨rfl, hb⟩; have Ka := Lib.hid (Ka.out.below hb Ka.out.lt); have Kb := Lib.hid (Kb.out.below hb Kb.out.lt); have Va := Lib.hid (Va.out.below hb); have Vb := Lib.hid (Vb.out.below hb); have nb3 : Hid (w2.heap.size < w3.heap.size) := (by have := hb.size; simp at this; show _ < _; omega); have D := Lib.hid (D.out.trans (hb.mono D.out.size)); clear hb; have kb0 := (Kb.out).at_ 0 rfl; have kb1 := (Kb.out).at_ 1 rfl; have kb2 := (Kb.out).at_ 2 rfl)
          | (go_at_call 33; (with_reducible refine (SH.out _ _ _ 1 Vb.out.dv D.out).mono ?_); rintro e w4 ⟨bp, Ap, np, cp, xp, rfl, hv, hb⟩; have s := hb.alloc hb.size (.cells #[.bool bp, .slice Ap np cp, .int .i64 xp] 25); have Ka := Lib.hid (Ka.out.below s Ka.out.lt); have Kb := Lib.hid (Kb.out.below s Kb.out.lt); have Va := Lib.hid (Va.out.below s); have Vb := Lib.hid (Vb.out.below s); have Kp := Lib.hid (Blk.new w4 25 #[.bool bp, .slice Ap np cp, .int .i64 xp]); have Vp := Lib.hid (hv.below (al1 w4 (.cells #[.bool bp, .slice Ap np cp, .int .i64 xp] 25))); have hp := Lib.hid (D.out.trans (hb.mono D.out.size)).size; have nbp : Hid (w3.heap.size ≤ w4.heap.size) := hb.size; have D := Lib.hid (D.out.trans (s.mono D.out.size)); clear hv hb s; have kb0 := (Kb.out).at_ 0 rfl; have kb1 := (Kb.out).at_ 1 rfl; have kb2 := (Kb.out).at_ 2 rfl)
          | (go_at_call 33; (with_reducible refine (SH.out _ _ _ (-1) Vb.out.dv D.out).mono ?_); rintro e w5 ⟨bq, Aq, nq, cq, xq, rfl, hv, hb⟩; have s := hb.alloc hb.size (.cells #[.bool bq, .slice Aq nq cq, .int .i64 xq] 25); have hq := (D.out.trans (hb.mono D.out.size)).size; have npq : w4.heap.size < w5.heap.size := (by have := hb.size; simp at this; omega); have n1 := nab.out; have n2 := nb3.out; have n3 := nbp.out; have Fo : Four w (w5.alloc (.cells #[.bool bq, .slice Aq nq cq, .int .i64 xq] 25)) w1.heap.size w2.heap.size w4.heap.size w5.heap.size ba Aa na ca xa true Ab nb cb xb bp Ap np cp xp bq Aq nq cq xq da db (Shf db 1).d (Shf db (-1)).d := ⟨Ka.out.below s Ka.out.lt, Kb.out.below s Kb.out.lt, Kp.out.below s Kp.out.lt, Blk.new w5 _ _, Va.out.below s, Vb.out.below s, Vp.out.below s, hv.below (al1 w5 _), D.out.trans (s.mono D.out.size), hp.out, hq, by omega, by omega, by omega, by omega, by omega⟩; clear hv hb s Ka Kb Kp Va Vb Vp hq npq n1 n2 n3; have kb0 := (Fo.kb).at_ 0 rfl; have kb1 := (Fo.kb).at_ 1 rfl; have kb2 := (Fo.kb).at_ 2 rfl; have kp0 := (Fo.kp).at_ 0 rfl; have kp1 := (Fo.kp).at_ 1 rfl; have kp2 := (Fo.kp).at_ 2 rfl; have kq0 := (Fo.kq).at_ 0 rfl; have kq1 := (Fo.kq).at_ 1 rfl; have kq2 := (Fo.kq).at_ 2 rfl; have fp0 := (Fo.kp).frozen 0; have fp1 := (Fo.kp).frozen 1; have fp2 := (Fo.kp).frozen 2; have fq0 := (Fo.kq).frozen 0; have fq1 := (Fo.kq).frozen 1; have fq2 := (Fo.kq).frozen 2; have zn := Fo.pq; have zm := Fo.pq.symm; have D := Lib.hid Fo.D; have Fo := Lib.hid Fo))
        have Fs := Fo.out.swap
        generalize hW9 : ((((((w5.alloc (.cells #[.bool bq, .slice Aq nq cq, .int .i64 xq] 25)).setCell ⟨w4.heap.size, 0, none⟩ (.bool bq)).setCell ⟨w4.heap.size, 1, none⟩ (.slice Aq nq cq)).setCell ⟨w4.heap.size, 2, none⟩ (.int .i64 xq)).setCell ⟨w5.heap.size, 0, none⟩ (.bool bp)).setCell ⟨w5.heap.size, 1, none⟩ (.slice Ap np cp)).setCell ⟨w5.heap.size, 2, none⟩ (.int .i64 xp) = W9 at Fs ⊢
        clear hW9 Fo zn zm kb0 kb1 kb2 kp0 kp1 kp2 kq0 kq1 kq2 fp0 fp1 fp2 fq0 fq1 fq2
        have D := Lib.hid Fs.D
        have Fo := Lib.hid Fs
        clear Fs
        have la0 := (Fo.out.ka).at_ 0 rfl
        have la1 := (Fo.out.ka).at_ 1 rfl
        have la2 := (Fo.out.ka).at_ 2 rfl
        have lp0 := (Fo.out.kp).at_ 0 rfl
        have lp1 := (Fo.out.kp).at_ 1 rfl
        have lp2 := (Fo.out.kp).at_ 2 rfl
        have lq0 := (Fo.out.kq).at_ 0 rfl
        have lq1 := (Fo.out.kq).at_ 1 rfl
        have lq2 := (Fo.out.kq).at_ 2 rfl
        go_wp2_with (first
          | (go_at_call 29; (with_reducible refine (CM.out _ _ _ _ _ Fo.out.vq.dv Fo.out.va.dv D.out).mono ?_); rintro e w6 ⟨rfl, hb⟩; have Fo := Lib.hid (Fo.out.below hb); have D := Lib.hid Fo.out.D; clear hb; have ka0 := (Fo.out.ka).at_ 0 rfl; have ka1 := (Fo.out.ka).at_ 1 rfl; have ka2 := (Fo.out.ka).at_ 2 rfl; have kp0 := (Fo.out.kp).at_ 0 rfl; have kp1 := (Fo.out.kp).at_ 1 rfl; have kp2 := (Fo.out.kp).at_ 2 rfl)
          | (go_at_call 29; (with_reducible refine (CM.out _ _ _ _ _ Fo.out.va.dv Fo.out.vp.dv D.out).mono ?_); rintro e w7 ⟨rfl, hb⟩; have Fo := Lib.hid (Fo.out.below hb); have D := Lib.hid Fo.out.D; clear hb)
          | (go_at_call 56; (with_reducible refine (O4.out w7 (Shf db 1).e (Shf db (-1)).e (Cmpe (Shf db 1).d da) (Cmpe da (Shf db (-1)).d) _ HO.out).mono ?_); rintro e w8 ⟨rfl, hw⟩; have s := al1 w7 (.cells #[.int .i64 (Shf db 1).e, .int .i64 (Shf db (-1)).e, .int .i64 (Cmpe (Shf db 1).d da), .int .i64 (Cmpe da (Shf db (-1)).d)] 26); rw [hw] at s; clear hw; have Fo := Lib.hid (Fo.out.below s); have D := Lib.hid Fo.out.D; clear s))
        go_ret
        exact ⟨rfl, D.out⟩
      · clear SE hk
        go_enter Tryd.func10, Tryd.ntmps10
        go_upto_region 9 with (first
          | (go_at_call 59; (with_reducible refine (VX.out _ D.out).mono ?_); rintro e w1 ⟨ba, Aa, na, ca, xa, rfl, hv, hb⟩; have s := hb.alloc hb.size (.cells #[.bool ba, .slice Aa na ca, .int .i64 xa] 25); have Ka := Blk.new w1 25 #[.bool ba, .slice Aa na ca, .int .i64 xa]; have Va := hv.below (al1 w1 (.cells #[.bool ba, .slice Aa na ca, .int .i64 xa] 25)); have D := Lib.hid (D.out.trans (s.mono D.out.size)); clear hv hb s; have Ka := Lib.hid Ka; have Va := Lib.hid Va)
          | (go_at_call 59; (with_reducible refine (VY.out _ D.out).mono ?_); rintro e w2 ⟨bb, Ab, nb, cb, xb, rfl, hv, hb⟩; obtain rfl := GN.out _ _ _ _ _ _ hv; have s := hb.alloc hb.size (.cells #[.bool true, .slice Ab nb cb, .int .i64 xb] 25); have nab : Hid (w1.heap.size < w2.heap.size) := (by have := hb.size; simp at this; show _ < _; omega); have Ka := Lib.hid (Ka.out.below s Ka.out.lt); have Va := Lib.hid (Va.out.below s); have Kb := Lib.hid (Blk.new w2 25 #[.bool true, .slice Ab nb cb, .int .i64 xb]); have Vb := Lib.hid (hv.below (al1 w2 (.cells #[.bool true, .slice Ab nb cb, .int .i64 xb] 25))); have D := Lib.hid (D.out.trans (s.mono D.out.size)); clear hv hb s)
          | (go_at_call 55; (with_reducible refine (LV.out _ D.out).mono ?_); rintro e w3 ⟨rfl, hb⟩; have Ka := Lib.hid (Ka.out.below hb Ka.out.lt); have Kb := Lib.hid (Kb.out.below hb Kb.out.lt); have Va := Lib.hid (Va.out.below hb); have Vb := Lib.hid (Vb.out.below hb); have nb3 : Hid (w2.heap.size < w3.heap.size) := (by have := hb.size; simp at this; show _ < _; omega); have D := Lib.hid (D.out.trans (hb.mono D.out.size)); clear hb; have kb0 := (Kb.out).at_ 0 rfl; have kb1 := (Kb.out).at_ 1 rfl; have kb2 := (Kb.out).at_ 2 rfl)
          | (go_at_call 33; (with_reducible refine (SH.out _ _ _ 1 Vb.out.dv D.out).mono ?_); rintro e w4 ⟨bp, Ap, np, cp, xp, rfl, hv, hb⟩; have s := hb.alloc hb.size (.cells #[.bool bp, .slice Ap np cp, .int .i64 xp] 25); have Ka := Lib.hid (Ka.out.below s Ka.out.lt); have Kb := Lib.hid (Kb.out.below s Kb.out.lt); have Va := Lib.hid (Va.out.below s); have Vb := Lib.hid (Vb.out.below s); have Kp := Lib.hid (Blk.new w4 25 #[.bool bp, .slice Ap np cp, .int .i64 xp]); have Vp := Lib.hid (hv.below (al1 w4 (.cells #[.bool bp, .slice Ap np cp, .int .i64 xp] 25))); have hp := Lib.hid (D.out.trans (hb.mono D.out.size)).size; have nbp : Hid (w3.heap.size ≤ w4.heap.size) := hb.size; have D := Lib.hid (D.out.trans (s.mono D.out.size)); clear hv hb s; have kb0 := (Kb.out).at_ 0 rfl; have kb1 := (Kb.out).at_ 1 rfl; have kb2 := (Kb.out).at_ 2 rfl)
          | (go_at_call 33; (with_reducible refine (SH.out _ _ _ (-1) Vb.out.dv D.out).mono ?_); rintro e w5 ⟨bq, Aq, nq, cq, xq, rfl, hv, hb⟩; have s := hb.alloc hb.size (.cells #[.bool bq, .slice Aq nq cq, .int .i64 xq] 25); have hq := (D.out.trans (hb.mono D.out.size)).size; have npq : w4.heap.size < w5.heap.size := (by have := hb.size; simp at this; omega); have n1 := nab.out; have n2 := nb3.out; have n3 := nbp.out; have Fo : Four w (w5.alloc (.cells #[.bool bq, .slice Aq nq cq, .int .i64 xq] 25)) w1.heap.size w2.heap.size w4.heap.size w5.heap.size ba Aa na ca xa true Ab nb cb xb bp Ap np cp xp bq Aq nq cq xq da db (Shf db 1).d (Shf db (-1)).d := ⟨Ka.out.below s Ka.out.lt, Kb.out.below s Kb.out.lt, Kp.out.below s Kp.out.lt, Blk.new w5 _ _, Va.out.below s, Vb.out.below s, Vp.out.below s, hv.below (al1 w5 _), D.out.trans (s.mono D.out.size), hp.out, hq, by omega, by omega, by omega, by omega, by omega⟩; clear hv hb s Ka Kb Kp Va Vb Vp hq npq n1 n2 n3; have kb0 := (Fo.kb).at_ 0 rfl; have kb1 := (Fo.kb).at_ 1 rfl; have kb2 := (Fo.kb).at_ 2 rfl; have kp0 := (Fo.kp).at_ 0 rfl; have kp1 := (Fo.kp).at_ 1 rfl; have kp2 := (Fo.kp).at_ 2 rfl; have kq0 := (Fo.kq).at_ 0 rfl; have kq1 := (Fo.kq).at_ 1 rfl; have kq2 := (Fo.kq).at_ 2 rfl; have fp0 := (Fo.kp).frozen 0; have fp1 := (Fo.kp).frozen 1; have fp2 := (Fo.kp).frozen 2; have fq0 := (Fo.kq).frozen 0; have fq1 := (Fo.kq).frozen 1; have fq2 := (Fo.kq).frozen 2; have zn := Fo.pq; have zm := Fo.pq.symm; have D := Lib.hid Fo.D; have Fo := Lib.hid Fo))
        have Fs := Fo.out.swap
        generalize hW9 : ((((((w5.alloc (.cells #[.bool bq, .slice Aq nq cq, .int .i64 xq] 25)).setCell ⟨w4.heap.size, 0, none⟩ (.bool bq)).setCell ⟨w4.heap.size, 1, none⟩ (.slice Aq nq cq)).setCell ⟨w4.heap.size, 2, none⟩ (.int .i64 xq)).setCell ⟨w5.heap.size, 0, none⟩ (.bool bp)).setCell ⟨w5.heap.size, 1, none⟩ (.slice Ap np cp)).setCell ⟨w5.heap.size, 2, none⟩ (.int .i64 xp) = W9 at Fs ⊢
        clear hW9 Fo zn zm kb0 kb1 kb2 kp0 kp1 kp2 kq0 kq1 kq2 fp0 fp1 fp2 fq0 fq1 fq2
        have D := Lib.hid Fs.D
        have Fo := Lib.hid Fs
        clear Fs
        have la0 := (Fo.out.ka).at_ 0 rfl
        have la1 := (Fo.out.ka).at_ 1 rfl
        have la2 := (Fo.out.ka).at_ 2 rfl
        have lp0 := (Fo.out.kp).at_ 0 rfl
        have lp1 := (Fo.out.kp).at_ 1 rfl
        have lp2 := (Fo.out.kp).at_ 2 rfl
        have lq0 := (Fo.out.kq).at_ 0 rfl
        have lq1 := (Fo.out.kq).at_ 1 rfl
        have lq2 := (Fo.out.kq).at_ 2 rfl
        go_wp2_with (first
          | (go_at_call 29; (with_reducible refine (CM.out _ _ _ _ _ Fo.out.vq.dv Fo.out.va.dv D.out).mono ?_); rintro e w6 ⟨rfl, hb⟩; have Fo := Lib.hid (Fo.out.below hb); have D := Lib.hid Fo.out.D; clear hb; have ka0 := (Fo.out.ka).at_ 0 rfl; have ka1 := (Fo.out.ka).at_ 1 rfl; have ka2 := (Fo.out.ka).at_ 2 rfl; have kp0 := (Fo.out.kp).at_ 0 rfl; have kp1 := (Fo.out.kp).at_ 1 rfl; have kp2 := (Fo.out.kp).at_ 2 rfl)
          | (go_at_call 29; (with_reducible refine (CM.out _ _ _ _ _ Fo.out.va.dv Fo.out.vp.dv D.out).mono ?_); rintro e w7 ⟨rfl, hb⟩; have Fo := Lib.hid (Fo.out.below hb); have D := Lib.hid Fo.out.D; clear hb)
          | (go_at_call 56; (with_reducible refine (O4.out w7 (Shf db 1).e (Shf db (-1)).e (Cmpe (Shf db 1).d da) (Cmpe da (Shf db (-1)).d) _ HO.out).mono ?_); rintro e w8 ⟨rfl, hw⟩; have s := al1 w7 (.cells #[.int .i64 (Shf db 1).e, .int .i64 (Shf db (-1)).e, .int .i64 (Cmpe (Shf db 1).d da), .int .i64 (Cmpe da (Shf db (-1)).d)] 26); rw [hw] at s; clear hw; have Fo := Lib.hid (Fo.out.below s); have D := Lib.hid Fo.out.D; clear s))
        go_ret
        exact ⟨rfl, D.out⟩
      · clear SE hk
        go_enter Tryd.func10, Tryd.ntmps10
        go_upto_region 9 with (first
          | (go_at_call 59; (with_reducible refine (VX.out _ D.out).mono ?_); rintro e w1 ⟨ba, Aa, na, ca, xa, rfl, hv, hb⟩; have s := hb.alloc hb.size (.cells #[.bool ba, .slice Aa na ca, .int .i64 xa] 25); have Ka := Blk.new w1 25 #[.bool ba, .slice Aa na ca, .int .i64 xa]; have Va := hv.below (al1 w1 (.cells #[.bool ba, .slice Aa na ca, .int .i64 xa] 25)); have D := Lib.hid (D.out.trans (s.mono D.out.size)); clear hv hb s; have Ka := Lib.hid Ka; have Va := Lib.hid Va)
          | (go_at_call 59; (with_reducible refine (VY.out _ D.out).mono ?_); rintro e w2 ⟨bb, Ab, nb, cb, xb, rfl, hv, hb⟩; obtain rfl := GN.out _ _ _ _ _ _ hv; have s := hb.alloc hb.size (.cells #[.bool true, .slice Ab nb cb, .int .i64 xb] 25); have nab : Hid (w1.heap.size < w2.heap.size) := (by have := hb.size; simp at this; show _ < _; omega); have Ka := Lib.hid (Ka.out.below s Ka.out.lt); have Va := Lib.hid (Va.out.below s); have Kb := Lib.hid (Blk.new w2 25 #[.bool true, .slice Ab nb cb, .int .i64 xb]); have Vb := Lib.hid (hv.below (al1 w2 (.cells #[.bool true, .slice Ab nb cb, .int .i64 xb] 25))); have D := Lib.hid (D.out.trans (s.mono D.out.size)); clear hv hb s)
          | (go_at_call 55; (with_reducible refine (LV.out _ D.out).mono ?_); rintro e w3 ⟨rfl, hb⟩; have Ka := Lib.hid (Ka.out.below hb Ka.out.lt); have Kb := Lib.hid (Kb.out.below hb Kb.out.lt); have Va := Lib.hid (Va.out.below hb); have Vb := Lib.hid (Vb.out.below hb); have nb3 : Hid (w2.heap.size < w3.heap.size) := (by have := hb.size; simp at this; show _ < _; omega); have D := Lib.hid (D.out.trans (hb.mono D.out.size)); clear hb; have kb0 := (Kb.out).at_ 0 rfl; have kb1 := (Kb.out).at_ 1 rfl; have kb2 := (Kb.out).at_ 2 rfl)
          | (go_at_call 33; (with_reducible refine (SH.out _ _ _ 1 Vb.out.dv D.out).mono ?_); rintro e w4 ⟨bp, Ap, np, cp, xp, rfl, hv, hb⟩; have s := hb.alloc hb.size (.cells #[.bool bp, .slice Ap np cp, .int .i64 xp] 25); have Ka := Lib.hid (Ka.out.below s Ka.out.lt); have Kb := Lib.hid (Kb.out.below s Kb.out.lt); have Va := Lib.hid (Va.out.below s); have Vb := Lib.hid (Vb.out.below s); have Kp := Lib.hid (Blk.new w4 25 #[.bool bp, .slice Ap np cp, .int .i64 xp]); have Vp := Lib.hid (hv.below (al1 w4 (.cells #[.bool bp, .slice Ap np cp, .int .i64 xp] 25))); have hp := Lib.hid (D.out.trans (hb.mono D.out.size)).size; have nbp : Hid (w3.heap.size ≤ w4.heap.size) := hb.size; have D := Lib.hid (D.out.trans (s.mono D.out.size)); clear hv hb s; have kb0 := (Kb.out).at_ 0 rfl; have kb1 := (Kb.out).at_ 1 rfl; have kb2 := (Kb.out).at_ 2 rfl)
          | (go_at_call 33; (with_reducible refine (SH.out _ _ _ (-1) Vb.out.dv D.out).mono ?_); rintro e w5 ⟨bq, Aq, nq, cq, xq, rfl, hv, hb⟩; have s := hb.alloc hb.size (.cells #[.bool bq, .slice Aq nq cq, .int .i64 xq] 25); have hq := (D.out.trans (hb.mono D.out.size)).size; have npq : w4.heap.size < w5.heap.size := (by have := hb.size; simp at this; omega); have n1 := nab.out; have n2 := nb3.out; have n3 := nbp.out; have Fo : Four w (w5.alloc (.cells #[.bool bq, .slice Aq nq cq, .int .i64 xq] 25)) w1.heap.size w2.heap.size w4.heap.size w5.heap.size ba Aa na ca xa true Ab nb cb xb bp Ap np cp xp bq Aq nq cq xq da db (Shf db 1).d (Shf db (-1)).d := ⟨Ka.out.below s Ka.out.lt, Kb.out.below s Kb.out.lt, Kp.out.below s Kp.out.lt, Blk.new w5 _ _, Va.out.below s, Vb.out.below s, Vp.out.below s, hv.below (al1 w5 _), D.out.trans (s.mono D.out.size), hp.out, hq, by omega, by omega, by omega, by omega, by omega⟩; clear hv hb s Ka Kb Kp Va Vb Vp hq npq n1 n2 n3; have kb0 := (Fo.kb).at_ 0 rfl; have kb1 := (Fo.kb).at_ 1 rfl; have kb2 := (Fo.kb).at_ 2 rfl; have kp0 := (Fo.kp).at_ 0 rfl; have kp1 := (Fo.kp).at_ 1 rfl; have kp2 := (Fo.kp).at_ 2 rfl; have kq0 := (Fo.kq).at_ 0 rfl; have kq1 := (Fo.kq).at_ 1 rfl; have kq2 := (Fo.kq).at_ 2 rfl; have fp0 := (Fo.kp).frozen 0; have fp1 := (Fo.kp).frozen 1; have fp2 := (Fo.kp).frozen 2; have fq0 := (Fo.kq).frozen 0; have fq1 := (Fo.kq).frozen 1; have fq2 := (Fo.kq).frozen 2; have zn := Fo.pq; have zm := Fo.pq.symm; have D := Lib.hid Fo.D; have Fo := Lib.hid Fo))
        have Fs := Fo.out.swap
        generalize hW9 : ((((((w5.alloc (.cells #[.bool bq, .slice Aq nq cq, .int .i64 xq] 25)).setCell ⟨w4.heap.size, 0, none⟩ (.bool bq)).setCell ⟨w4.heap.size, 1, none⟩ (.slice Aq nq cq)).setCell ⟨w4.heap.size, 2, none⟩ (.int .i64 xq)).setCell ⟨w5.heap.size, 0, none⟩ (.bool bp)).setCell ⟨w5.heap.size, 1, none⟩ (.slice Ap np cp)).setCell ⟨w5.heap.size, 2, none⟩ (.int .i64 xp) = W9 at Fs ⊢
        clear hW9 Fo zn zm kb0 kb1 kb2 kp0 kp1 kp2 kq0 kq1 kq2 fp0 fp1 fp2 fq0 fq1 fq2
        have D := Lib.hid Fs.D
        have Fo := Lib.hid Fs
        clear Fs
        have la0 := (Fo.out.ka).at_ 0 rfl
        have la1 := (Fo.out.ka).at_ 1 rfl
        have la2 := (Fo.out.ka).at_ 2 rfl
        have lp0 := (Fo.out.kp).at_ 0 rfl
        have lp1 := (Fo.out.kp).at_ 1 rfl
        have lp2 := (Fo.out.kp).at_ 2 rfl
        have lq0 := (Fo.out.kq).at_ 0 rfl
        have lq1 := (Fo.out.kq).at_ 1 rfl
        have lq2 := (Fo.out.kq).at_ 2 rfl
        go_wp2_with (first
          | (go_at_call 29; (with_reducible refine (CM.out _ _ _ _ _ Fo.out.vq.dv Fo.out.va.dv D.out).mono ?_); rintro e w6 ⟨rfl, hb⟩; have Fo := Lib.hid (Fo.out.below hb); have D := Lib.hid Fo.out.D; clear hb; have ka0 := (Fo.out.ka).at_ 0 rfl; have ka1 := (Fo.out.ka).at_ 1 rfl; have ka2 := (Fo.out.ka).at_ 2 rfl; have kp0 := (Fo.out.kp).at_ 0 rfl; have kp1 := (Fo.out.kp).at_ 1 rfl; have kp2 := (Fo.out.kp).at_ 2 rfl)
          | (go_at_call 29; (with_reducible refine (CM.out _ _ _ _ _ Fo.out.va.dv Fo.out.vp.dv D.out).mono ?_); rintro e w7 ⟨rfl, hb⟩; have Fo := Lib.hid (Fo.out.below hb); have D := Lib.hid Fo.out.D; clear hb)
          | (go_at_call 56; (with_reducible refine (O4.out w7 (Shf db 1).e (Shf db (-1)).e (Cmpe (Shf db 1).d da) (Cmpe da (Shf db (-1)).d) _ HO.out).mono ?_); rintro e w8 ⟨rfl, hw⟩; have s := al1 w7 (.cells #[.int .i64 (Shf db 1).e, .int .i64 (Shf db (-1)).e, .int .i64 (Cmpe (Shf db 1).d da), .int .i64 (Cmpe da (Shf db (-1)).d)] 26); rw [hw] at s; clear hw; have Fo := Lib.hid (Fo.out.below s); have D := Lib.hid Fo.out.D; clear s))
        go_ret
        exact ⟨rfl, D.out⟩
      · obtain ⟨e1, e2, e3, e4⟩ := all4o hk
        obtain ⟨sv, ha, hf, he, hd, hok, hs⟩ := SE.out e1 e2 c1 c2
        have EA := Lib.hid ha
        have FS := Lib.hid hf
        have ES := Lib.hid he
        have ED := Lib.hid hs
        have SM : Hid (∀ (W : World) (u v : Value), DV W u (OfD sv).d → DV W v (Sub da db).d → Calls Tryd.prog 18 #[u, v] W (DC.RetB W (.bool true))) := fun W u v h1 h2 => same_true h1 h2 hd hok
        clear SE hk e1 e2 e3 e4 ha hf he hd hok hs
        go_enter Tryd.func10, Tryd.ntmps10
        go_upto_region 9 with (first
          | (go_at_call 59; (with_reducible refine (VX.out _ D.out).mono ?_); rintro e w1 ⟨ba, Aa, na, ca, xa, rfl, hv, hb⟩; have s := hb.alloc hb.size (.cells #[.bool ba, .slice Aa na ca, .int .i64 xa] 25); have Ka := Blk.new w1 25 #[.bool ba, .slice Aa na ca, .int .i64 xa]; have Va := hv.below (al1 w1 (.cells #[.bool ba, .slice Aa na ca, .int .i64 xa] 25)); have D := Lib.hid (D.out.trans (s.mono D.out.size)); clear hv hb s; have Ka := Lib.hid Ka; have Va := Lib.hid Va)
          | (go_at_call 59; (with_reducible refine (VY.out _ D.out).mono ?_); rintro e w2 ⟨bb, Ab, nb, cb, xb, rfl, hv, hb⟩; obtain rfl := GN.out _ _ _ _ _ _ hv; have s := hb.alloc hb.size (.cells #[.bool true, .slice Ab nb cb, .int .i64 xb] 25); have nab : Hid (w1.heap.size < w2.heap.size) := (by have := hb.size; simp at this; show _ < _; omega); have Ka := Lib.hid (Ka.out.below s Ka.out.lt); have Va := Lib.hid (Va.out.below s); have Kb := Lib.hid (Blk.new w2 25 #[.bool true, .slice Ab nb cb, .int .i64 xb]); have Vb := Lib.hid (hv.below (al1 w2 (.cells #[.bool true, .slice Ab nb cb, .int .i64 xb] 25))); have D := Lib.hid (D.out.trans (s.mono D.out.size)); clear hv hb s)
          | (go_at_call 55; (with_reducible refine (LV.out _ D.out).mono ?_); rintro e w3 ⟨rfl, hb⟩; have Ka := Lib.hid (Ka.out.below hb Ka.out.lt); have Kb := Lib.hid (Kb.out.below hb Kb.out.lt); have Va := Lib.hid (Va.out.below hb); have Vb := Lib.hid (Vb.out.below hb); have nb3 : Hid (w2.heap.size < w3.heap.size) := (by have := hb.size; simp at this; show _ < _; omega); have D := Lib.hid (D.out.trans (hb.mono D.out.size)); clear hb; have kb0 := (Kb.out).at_ 0 rfl; have kb1 := (Kb.out).at_ 1 rfl; have kb2 := (Kb.out).at_ 2 rfl)
          | (go_at_call 33; (with_reducible refine (SH.out _ _ _ 1 Vb.out.dv D.out).mono ?_); rintro e w4 ⟨bp, Ap, np, cp, xp, rfl, hv, hb⟩; have s := hb.alloc hb.size (.cells #[.bool bp, .slice Ap np cp, .int .i64 xp] 25); have Ka := Lib.hid (Ka.out.below s Ka.out.lt); have Kb := Lib.hid (Kb.out.below s Kb.out.lt); have Va := Lib.hid (Va.out.below s); have Vb := Lib.hid (Vb.out.below s); have Kp := Lib.hid (Blk.new w4 25 #[.bool bp, .slice Ap np cp, .int .i64 xp]); have Vp := Lib.hid (hv.below (al1 w4 (.cells #[.bool bp, .slice Ap np cp, .int .i64 xp] 25))); have hp := Lib.hid (D.out.trans (hb.mono D.out.size)).size; have nbp : Hid (w3.heap.size ≤ w4.heap.size) := hb.size; have D := Lib.hid (D.out.trans (s.mono D.out.size)); clear hv hb s; have kb0 := (Kb.out).at_ 0 rfl; have kb1 := (Kb.out).at_ 1 rfl; have kb2 := (Kb.out).at_ 2 rfl)
          | (go_at_call 33; (with_reducible refine (SH.out _ _ _ (-1) Vb.out.dv D.out).mono ?_); rintro e w5 ⟨bq, Aq, nq, cq, xq, rfl, hv, hb⟩; have s := hb.alloc hb.size (.cells #[.bool bq, .slice Aq nq cq, .int .i64 xq] 25); have hq := (D.out.trans (hb.mono D.out.size)).size; have npq : w4.heap.size < w5.heap.size := (by have := hb.size; simp at this; omega); have n1 := nab.out; have n2 := nb3.out; have n3 := nbp.out; have Fo : Four w (w5.alloc (.cells #[.bool bq, .slice Aq nq cq, .int .i64 xq] 25)) w1.heap.size w2.heap.size w4.heap.size w5.heap.size ba Aa na ca xa true Ab nb cb xb bp Ap np cp xp bq Aq nq cq xq da db (Shf db 1).d (Shf db (-1)).d := ⟨Ka.out.below s Ka.out.lt, Kb.out.below s Kb.out.lt, Kp.out.below s Kp.out.lt, Blk.new w5 _ _, Va.out.below s, Vb.out.below s, Vp.out.below s, hv.below (al1 w5 _), D.out.trans (s.mono D.out.size), hp.out, hq, by omega, by omega, by omega, by omega, by omega⟩; clear hv hb s Ka Kb Kp Va Vb Vp hq npq n1 n2 n3; have kb0 := (Fo.kb).at_ 0 rfl; have kb1 := (Fo.kb).at_ 1 rfl; have kb2 := (Fo.kb).at_ 2 rfl; have kp0 := (Fo.kp).at_ 0 rfl; have kp1 := (Fo.kp).at_ 1 rfl; have kp2 := (Fo.kp).at_ 2 rfl; have kq0 := (Fo.kq).at_ 0 rfl; have kq1 := (Fo.kq).at_ 1 rfl; have kq2 := (Fo.kq).at_ 2 rfl; have fp0 := (Fo.kp).frozen 0; have fp1 := (Fo.kp).frozen 1; have fp2 := (Fo.kp).frozen 2; have fq0 := (Fo.kq).frozen 0; have fq1 := (Fo.kq).frozen 1; have fq2 := (Fo.kq).frozen 2; have zn := Fo.pq; have zm := Fo.pq.symm; have D := Lib.hid Fo.D; have Fo := Lib.hid Fo))
        have Fs := Fo.out.swap
        generalize hW9 : ((((((w5.alloc (.cells #[.bool bq, .slice Aq nq cq, .int .i64 xq] 25)).setCell ⟨w4.heap.size, 0, none⟩ (.bool bq)).setCell ⟨w4.heap.size, 1, none⟩ (.slice Aq nq cq)).setCell ⟨w4.heap.size, 2, none⟩ (.int .i64 xq)).setCell ⟨w5.heap.size, 0, none⟩ (.bool bp)).setCell ⟨w5.heap.size, 1, none⟩ (.slice Ap np cp)).setCell ⟨w5.heap.size, 2, none⟩ (.int .i64 xp) = W9 at Fs ⊢
        clear hW9 Fo zn zm kb0 kb1 kb2 kp0 kp1 kp2 kq0 kq1 kq2 fp0 fp1 fp2 fq0 fq1 fq2
        have D := Lib.hid Fs.D
        have Fo := Lib.hid Fs
        clear Fs
        have la0 := (Fo.out.ka).at_ 0 rfl
        have la1 := (Fo.out.ka).at_ 1 rfl
        have la2 := (Fo.out.ka).at_ 2 rfl
        have lp0 := (Fo.out.kp).at_ 0 rfl
        have lp1 := (Fo.out.kp).at_ 1 rfl
        have lp2 := (Fo.out.kp).at_ 2 rfl
        have lq0 := (Fo.out.kq).at_ 0 rfl
        have lq1 := (Fo.out.kq).at_ 1 rfl
        have lq2 := (Fo.out.kq).at_ 2 rfl
        go_wp2_with (first
          | (go_at_call 29; (with_reducible refine (CM.out _ _ _ _ _ Fo.out.vq.dv Fo.out.va.dv D.out).mono ?_); rintro e w6 ⟨rfl, hb⟩; have Fo := Lib.hid (Fo.out.below hb); have D := Lib.hid Fo.out.D; clear hb; have ka0 := (Fo.out.ka).at_ 0 rfl; have ka1 := (Fo.out.ka).at_ 1 rfl; have ka2 := (Fo.out.ka).at_ 2 rfl; have kp0 := (Fo.out.kp).at_ 0 rfl; have kp1 := (Fo.out.kp).at_ 1 rfl; have kp2 := (Fo.out.kp).at_ 2 rfl)
          | (go_at_call 29; (with_reducible refine (CM.out _ _ _ _ _ Fo.out.va.dv Fo.out.vp.dv D.out).mono ?_); rintro e w7 ⟨rfl, hb⟩; have Fo := Lib.hid (Fo.out.below hb); have D := Lib.hid Fo.out.D; clear hb)
          | (go_at_call 56; (with_reducible refine (O4.out w7 (Shf db 1).e (Shf db (-1)).e (Cmpe (Shf db 1).d da) (Cmpe da (Shf db (-1)).d) _ HO.out).mono ?_); rintro e w8 ⟨rfl, hw⟩; have s := al1 w7 (.cells #[.int .i64 (Shf db 1).e, .int .i64 (Shf db (-1)).e, .int .i64 (Cmpe (Shf db 1).d da), .int .i64 (Cmpe da (Shf db (-1)).d)] 26); rw [hw] at s; clear hw; have Fo := Lib.hid (Fo.out.below s); have D := Lib.hid Fo.out.D; clear s)
          | (go_at_call 46; (with_reducible refine (SS.out _ _ EA.out D.out).mono ?_); rintro e w9 ⟨rfl, hb⟩; have Fo := Lib.hid (Fo.out.below hb); have D := Lib.hid Fo.out.D; clear hb)
          | (go_at_call 59; (with_reducible refine (VS.out _ _ FS.out ES.out D.out).mono ?_); rintro e w10 ⟨bs, As, ns, cs, xs, rfl, hv, hb⟩; have t := hb.alloc hb.size (.cells #[.bool bs, .slice As ns cs, .int .i64 xs] 25); have Fo := Lib.hid (Fo.out.below t); have Ks := Lib.hid (Blk.new w10 25 #[.bool bs, .slice As ns cs, .int .i64 xs]); have Vs := Lib.hid (hv.below (al1 w10 (.cells #[.bool bs, .slice As ns cs, .int .i64 xs] 25))); have D := Lib.hid Fo.out.D; clear hv hb t; have ka0 := (Fo.out.ka).at_ 0 rfl; have ka1 := (Fo.out.ka).at_ 1 rfl; have ka2 := (Fo.out.ka).at_ 2 rfl; have kb0 := (Fo.out.kb).at_ 0 rfl; have kb1 := (Fo.out.kb).at_ 1 rfl; have kb2 := (Fo.out.kb).at_ 2 rfl)
          | (go_at_call 31; (with_reducible refine (SU.out _ _ _ _ _ Fo.out.va.dv Fo.out.vb.dv D.out).mono ?_); rintro e w11 ⟨bt, At, nt, ct, xt, rfl, hv, hb⟩; have t := hb.alloc hb.size (.cells #[.bool bt, .slice At nt ct, .int .i64 xt] 25); have Ks := Lib.hid (Ks.out.below t Ks.out.lt); have Vs := Lib.hid (Vs.out.below t); have Kt := Lib.hid (Blk.new w11 25 #[.bool bt, .slice At nt ct, .int .i64 xt]); have Vt := Lib.hid (hv.below (al1 w11 (.cells #[.bool bt, .slice At nt ct, .int .i64 xt] 25))); have D := Lib.hid (D.out.trans (t.mono D.out.size)); clear hv hb t Fo)
          | (go_at_call 56; (try rw [ED.out]); (with_reducible refine (O2.out w11 (.cells #[.bool bt, .slice At nt ct, .int .i64 xt] 25)).mono ?_); rintro e w12 ⟨rfl, hw⟩; have t := al1 (w11.alloc (.cells #[.bool bt, .slice At nt ct, .int .i64 xt] 25)) (.cells #[.int .i64 0, .int .i64 0] 26); rw [hw] at t; clear hw; have Ks := Lib.hid (Ks.out.below t Ks.out.lt); have Vs := Lib.hid (Vs.out.below t); have Kt := Lib.hid (Kt.out.below t Kt.out.lt); have Vt := Lib.hid (Vt.out.below t); have D := Lib.hid (D.out.trans (t.mono D.out.size)); clear t; have ks0 := (Ks.out).at_ 0 rfl; have ks1 := (Ks.out).at_ 1 rfl; have ks2 := (Ks.out).at_ 2 rfl; have kt0 := (Kt.out).at_ 0 rfl; have kt1 := (Kt.out).at_ 1 rfl; have kt2 := (Kt.out).at_ 2 rfl)
          | (go_at_call 18; (with_reducible refine (SM.out _ _ _ Vs.out.dv Vt.out.dv).mono ?_); rintro e w13 ⟨rfl, hb⟩; have D := Lib.hid (D.out.trans (hb.mono D.out.size)); clear hb))
        go_ret
        exact ⟨rfl, D.out⟩
  · have hno : px = false ∨ (px = true ∧ py = false) ∨ (px = true ∧ py = true ∧ mode < 0) ∨ (px = true ∧ py = true ∧ ¬ mode < 0 ∧ mode > 4) := by
      cases px
      · exact .inl rfl
      · cases py
        · exact .inr (.inl ⟨rfl, rfl⟩)
        · by_cases h : mode < 0
          · exact .inr (.inr (.inl ⟨rfl, rfl, h⟩))
          · refine .inr (.inr (.inr ⟨rfl, rfl, h, ?_⟩))
            rcases Int.lt_or_le 4 mode with h4 | h4
            · exact h4
            · exact absurd ⟨⟨rfl, rfl⟩, by omega, h4⟩ hgo
    clear hgo hpx hpy hT hx hy
    generalize (OfD x).d = da at *
    generalize (OfD y).d = db at *
    rcases hno with rfl | ⟨rfl, rfl⟩ | ⟨rfl, rfl, h⟩ | ⟨rfl, rfl, h, h4⟩
    all_goals (
      go_enter Tryd.func10, Tryd.ntmps10
      go_wp2_with (first
        | (go_at_call 59; (with_reducible refine (VX.out _ D.out).mono ?_); rintro e w1 ⟨ba, Aa, na, ca, xa, rfl, hv, hb⟩; have s := hb.alloc hb.size (.cells #[.bool ba, .slice Aa na ca, .int .i64 xa] 25); have D := Lib.hid (D.out.trans (s.mono D.out.size)); clear hv hb s)
        | (go_at_call 59; (with_reducible refine (VY.out _ D.out).mono ?_); rintro e w2 ⟨bb, Ab, nb, cb, xb, rfl, hv, hb⟩; have s := hb.alloc hb.size (.cells #[.bool bb, .slice Ab nb cb, .int .i64 xb] 25); have D := Lib.hid (D.out.trans (s.mono D.out.size)); clear hv hb s)
        | (go_at_call 55; (with_reducible refine (LV.out _ D.out).mono ?_); rintro e w3 ⟨rfl, hb⟩; have D := Lib.hid (D.out.trans (hb.mono D.out.size)); clear hb))
      go_ret
      exact ⟨rfl, D.out⟩)
end SC
end Go.Proofs.YtcendlgbcnpfcaaDoor

