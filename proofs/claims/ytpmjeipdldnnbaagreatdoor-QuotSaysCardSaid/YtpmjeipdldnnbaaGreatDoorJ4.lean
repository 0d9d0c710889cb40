/-
  Package quot: Div, Sqrt.
-/
import Derived.Test.YtpmjeipdldnnbaaGreatDoorJ3
import Derived.Test.YtpmjeipdldnnbaaGreatDoorK8
namespace Go.Proofs.YtpmjeipdldnnbaaGreatDoor
set_option linter.unusedVariables false
set_option linter.unusedSimpArgs false
open Go.RowKit
set_option linter.unusedVariables false
set_option linter.unusedSimpArgs false
namespace JC
open L NC NK DC RC SC PC
theorem gv_of {w : World} {b s : Bool} {A : Option Addr} {n c : Nat} {x o X : Int} (h : GV w b A n c x ⟨0, sgm s o, X⟩) (h0 : 0 < o) : s = b ∧ X = x ∧ PV w (.slice A n c) 0 o := by
  have p := h.pv
  have hn : (((Dy.mk 0 (sgm s o) X).m).natAbs : Int) = o := by show ((sgm s o).natAbs : Int) = o; unfold sgm; split <;> omega
  rw [hn] at p
  refine ⟨?_, h.2.2.1.symm, p⟩
  rw [h.2.1]
  show s = decide (sgm s o < 0)
  unfold sgm
  cases s
  · simp; omega
  · simp; omega
theorem pv0 {w : World} {v : Value} {z : Int} {B : Nat} (hB : B = 400) (h : NV w v z) (h0 : 0 ≤ z) (hz : z < 2 ^ B) : PV w v 0 z := by
  have l1 := (lt_390 hB hz).2
  have hp := h.pv (big3_bds l1 l1 h0 h0).2.2.1
  have e1 : erz z = 0 := by unfold erz; rw [if_pos l1]
  rwa [e1] at hp
theorem pow_le400 {a B : Nat} (hB : B = 400) (h : a ≤ 399) : (2 : Int) ^ a < 2 ^ B := two_lt' (by omega)
/-- what the division of mantissas tells -/
theorem div_parts {x y mode : Int} (hm : 0 ≤ mode ∧ mode ≤ 4) (hx : 0 ≤ x ∧ x ≤ 18446744073709551615) (hy : 0 ≤ y ∧ y ≤ 18446744073709551615) (h : (qc x y).2 = false) :
    ∃ (o1 X1 o2 X2 L q rm r : Int) (hf m : Bool), OfD x = ⟨0, 0, sgm (F.sgn x) o1, X1⟩ ∧ OfD y = ⟨0, 0, sgm (F.sgn y) o2, X2⟩ ∧ 0 < o1 ∧ 0 < o2 ∧ -1074 ≤ X1 ∧ X1 ≤ 1024 ∧ -1074 ≤ X2 ∧ X2 ≤ 1024 ∧ L = o1 * 2 ^ 128 ∧ q = L / o2 ∧ rm = L % o2 ∧ 0 ≤ L ∧ L < 2 ^ 190 ∧ 0 < q ∧ q < 2 ^ 190 ∧
      Tow (sc q (X1 - X2 - 128)) r hf m ∧ DT x y mode = (rx (F.sgn x != F.sgn y) (ry (F.sgn x != F.sgn y) r hf (m || decide (rm ≠ 0)) mode), hf || (m || decide (rm ≠ 0)), 0) := by
  obtain ⟨fx, fy, vx, vy⟩ := (qc_no hx hy).1 h
  obtain ⟨o1, X1, e1, a1, a2, -, a3, a4, a5⟩ := of_parts fx vx
  obtain ⟨o2, X2, e2, b1, b2, -, b3, b4, b5⟩ := of_parts fy vy
  obtain ⟨L, hL⟩ : ∃ L, L = o1 * 2 ^ 128 := ⟨_, rfl⟩
  obtain ⟨q, hq⟩ : ∃ q, q = L / o2 := ⟨_, rfl⟩
  obtain ⟨rm, hr⟩ : ∃ rm, rm = L % o2 := ⟨_, rfl⟩
  have p128 : (2 : Int) ^ 128 = 340282366920938463463374607431768211456 := by decide
  have p190 : (2 : Int) ^ 190 = 1569275433846670190958947355801916604025588861116008628224 := by decide
  have hdm := Int.mul_ediv_add_emod L o2
  have hr0 := Int.emod_nonneg L (Int.ne_of_gt b1)
  have hr1 := Int.emod_lt_of_pos L b1
  rw [← hq, ← hr, Int.mul_comm] at hdm
  rw [← hr] at hr0 hr1
  rw [p128] at hL
  have q1 : 37778931862957161709568 ≤ q := by
    rw [hq, Int.le_ediv_iff_mul_le b1]
    have := Int.mul_le_mul_of_nonneg_left (show o2 ≤ 9007199254740992 by omega) (show (0 : Int) ≤ 37778931862957161709568 by omega)
    omega
  have q2 : q ≤ L := by
    have := Int.mul_le_mul_of_nonneg_left (show 1 ≤ o2 by omega) (show 0 ≤ q by omega)
    omega
  obtain ⟨B, hB⟩ : ∃ B : Nat, B = 400 := ⟨_, rfl⟩
  have hqB : q < 2 ^ B := by
    have := pow_le400 hB (show 190 ≤ 399 by omega)
    rw [p190] at this
    omega
  obtain ⟨r, hf, m, t⟩ := tow_ex (z := q) (x := X1 - X2 - 128) (by omega) (lt_390 hB hqB).2 (by omega)
  refine ⟨o1, X1, o2, X2, L, q, rm, r, hf, m, e1, e2, a1, b1, a3, a4, b3, b4, by rw [p128]; exact hL, hq, hr, by omega, by rw [p190]; omega, by omega, by rw [p190]; omega, t, ?_⟩
  rw [DT_fi hm h]
  have hD : 0 < ab y := ab_pos fy vy
  have eN : ab x * 2 ^ KN = sc L (X1 - 128) * 2 ^ KN := by
    rw [a5, hL, ← p128]
    have := sc_shift o1 (X1 - 128) 128 (by omega)
    rw [this]
    congr 2; omega
  have tg := div_tog (left := decide (rm ≠ 0)) (N := ab x * 2 ^ KN) (D := ab y) (o := o2) (X := X2) (L := L) (f := X1 - 128) (z := q) (e := X1 - X2 - 128) hB (by omega) (by omega) (by omega) b5 eN b1 (by omega) hqB (.inl (by omega)) (by omega) (by rw [Int.add_mul]; omega) (by apply decide_eq_decide.2; omega) t
  rw [RT_of (qcut hD) tg]
set_option maxRecDepth 100000 in
set_option maxHeartbeats 8000000 in
theorem Div_c (x y mode : Int) (w : World) (hx : 0 ≤ x ∧ x ≤ 18446744073709551615) (hy : 0 ≤ y ∧ y ≤ 18446744073709551615) (hT : TabD w) :
    Calls Tryz.prog 4 #[.int .u64 x, .int .u64 y, .int .i64 mode] w (DC.RetB w (ATv (DT x y mode))) := by
  have CM := Lib.hid (checkModeQ_c mode w hT)
  have BC : Hid (∀ W : World, Calls Tryz.prog 12 #[.int .u64 x, .int .u64 y] W fun e w' => e = .returned (.tuple #[.int .u64 (qc x y).1, .bool (qc x y).2]) ∧ W = w') := fun W => byClassQ_c x y W hx hy
  unfold ATv
  by_cases hm : 0 ≤ mode ∧ mode ≤ 4
  · rw [if_pos hm] at CM
    cases h : (qc x y).2
    · obtain ⟨B, hB⟩ : ∃ B : Nat, B = 400 := ⟨_, rfl⟩
      obtain ⟨o1, X1, o2, X2, L, q, rm, r, hf, m, e1, e2, a1, b1, a3, a4, b3, b4, hL, hq, hr, l0, l1, q0, q1, t, hD⟩ := div_parts hm hx hy h
      have O1 : Hid (∀ W, Below w.heap.size w W → Calls Tryz.prog 13 #[.int .u64 x] W (RetD W ⟨0, 0, sgm (F.sgn x) o1, X1⟩)) := fun W hW => by rw [← e1]; exact Of_d x hx.1 hx.2 W (hT.below hW)
      have O2 : Hid (∀ W, Below w.heap.size w W → Calls Tryz.prog 13 #[.int .u64 y] W (RetD W ⟨0, 0, sgm (F.sgn y) o2, X2⟩)) := fun W hW => by rw [← e2]; exact Of_d y hy.1 hy.2 W (hT.below hW)
      have g1 : Hid (∀ (W : World) (b : Bool) (A : Option Addr) (n c : Nat) (x' : Int), GV W b A n c x' ⟨0, sgm (F.sgn x) o1, X1⟩ → F.sgn x = b ∧ X1 = x' ∧ PV W (.slice A n c) 0 o1) := fun W b A n c x' g => gv_of g a1
      have g2 : Hid (∀ (W : World) (b : Bool) (A : Option Addr) (n c : Nat) (x' : Int), GV W b A n c x' ⟨0, sgm (F.sgn y) o2, X2⟩ → F.sgn y = b ∧ X2 = x' ∧ PV W (.slice A n c) 0 o2) := fun W b A n c x' g => gv_of g b1
      have SH : Hid (∀ (W : World) (v : Value), PV W v 0 o1 → Calls Tryz.prog 14 #[v, .int .i64 128] W (RetSh W 0 L false)) := fun W v hv => by rw [hL]; exact sh_up hv 128 (by omega)
      have lB : L < 2 ^ B := Int.lt_trans l1 (pow_le400 hB (by omega))
      have qB : q < 2 ^ B := Int.lt_trans q1 (pow_le400 hB (by omega))
      have PL : Hid (∀ (W : World) (v : Value), NV W v L → PV W v 0 L) := fun W v h => pv0 hB h l0 lB
      have PQ : Hid (∀ (W : World) (v : Value), NV W v q → PV W v 0 q) := fun W v h => pv0 hB h (by omega) qB
      have rB : 0 ≤ rm ∧ rm < 2 ^ B := by
        have x1 := Int.emod_nonneg L (Int.ne_of_gt b1)
        have x2 := Int.emod_lt_of_pos L b1
        have x3 : o2 ≤ 9007199254740992 := by
          obtain ⟨o', X', e', -, k, -⟩ := of_parts ((qc_no hx hy).1 h).2.1 ((qc_no hx hy).1 h).2.2.2
          rw [e2] at e'
          have e'' := congrArg (fun r : Re => r.d.m) e'
          have : sgm (F.sgn y) o2 = sgm (F.sgn y) o' := e''
          unfold sgm at this
          split at this <;> omega
        have := pow_le400 hB (show 60 ≤ 399 by omega)
        rw [show (2 : Int) ^ 60 = 1152921504606846976 by decide] at this
        omega
      have ZR : Hid (∀ (W : World) (A : Option Addr) (n c : Nat), NV W (.slice A n c) rm → (n = 0 ↔ rm = 0)) := fun W A n c h => pv_zero (pv0 hB h rB.1 rB.2)
      have DI : Hid (∀ (W : World) (u v : Value), PV W u 0 L → PV W v 0 o2 → Calls Tryz.prog 15 #[u, v] W (RetDP W 0 q rm)) := fun W u v h1 h2 => by
        have := Div_p h1 h2
        have e0 : ed 0 0 o2 = 0 := by unfold ed ee; rw [if_neg (by simp), if_neg (by omega)]
        rw [e0, if_pos rfl, if_pos rfl, ← hq, ← hr] at this
        exact this
      have FI : Hid (∀ (W : World) (A : Option Addr) (n c : Nat), PV W (.slice A n c) 0 q → Below w.heap.size w W → Calls Tryz.prog 16 #[.bool (!(F.sgn x == F.sgn y)), .slice A n c, .int .i64 (X1 - X2 - 128), .bool (decide (rm ≠ 0)), .int .i64 mode] W (DC.RetB W (.tuple #[.int .u64 (DT x y mode).1, .bool (DT x y mode).2.1, .int .i64 (DT x y mode).2.2]))) := fun W A n c hv hW => by
        rw [hD]
        exact finishQ_c _ _ A n c q _ mode r hf m W hB hm q0 qB (by omega) t hv (hT.below hW)
      rw [h] at BC
      generalize DT x y mode = dt at *
      obtain ⟨d1, d2, d3⟩ := dt
      dsimp only at FI ⊢
      generalize (qc x y).1 = v1 at *
      generalize F.sgn x = s1 at *
      generalize F.sgn y = s2 at *
      clear hT hx hy hm h e1 e2 t hD hq hr hL lB qB rB l0 l1 q0 q1 a1 b1
      rcases Classical.em (rm = 0) with h0 | h0
      · have e0 : decide (rm ≠ 0) = false := by simp [h0]
        rw [e0] at FI
        have ZR : Hid (∀ (W : World) (A : Option Addr) (n c : Nat), NV W (.slice A n c) rm → 0 = n) := fun W A n c h => ((ZR.out W A n c h).2 h0).symm
        clear e0 h0
        go_enter Tryz.func4, Tryz.ntmps4
        go_wp2_with (first
          | (go_at_call 11; (with_reducible refine (CM.out).mono ?_); rintro e w1 ⟨rfl, hb⟩; have D := Lib.hid hb; clear hb)
          | (go_at_call 12; (with_reducible refine (BC.out _).mono ?_); rintro e w2 ⟨rfl, rfl⟩)
          | (go_at_call 13; (with_reducible refine (O1.out _ D.out).mono ?_); rintro e w3 ⟨b3, A3, n3, c3, x3, rfl, hv, hb⟩; obtain ⟨rfl, rfl, p1⟩ := g1.out _ _ _ _ _ _ hv; have s := hb.alloc hb.size (.cells #[.bool s1, .slice A3 n3 c3, .int .i64 X1] 37); have N1 := Blk.new w3 37 #[.bool s1, .slice A3 n3 c3, .int .i64 X1]; have p1 := p1.below (al1 w3 (.cells #[.bool s1, .slice A3 n3 c3, .int .i64 X1] 37)); have D := Lib.hid (D.out.trans (s.mono D.out.size)); clear hv hb s)
          | (go_at_call 13; (with_reducible refine (O2.out _ D.out).mono ?_); rintro e w4 ⟨b4, A4, n4, c4, x4, rfl, hv, hb⟩; obtain ⟨rfl, rfl, p2⟩ := g2.out _ _ _ _ _ _ hv; have s := hb.alloc hb.size (.cells #[.bool s2, .slice A4 n4 c4, .int .i64 X2] 37); have N1 := N1.below s N1.lt; have p1 := p1.below s; have N2 := Blk.new w4 37 #[.bool s2, .slice A4 n4 c4, .int .i64 X2]; have p2 := p2.below (al1 w4 (.cells #[.bool s2, .slice A4 n4 c4, .int .i64 X2] 37)); have D := Lib.hid (D.out.trans (s.mono D.out.size)); clear hv hb s; have a0 := N1.at_ 0 rfl; have a1 := N1.at_ 1 rfl; have a2 := N1.at_ 2 rfl; have b0 := N2.at_ 0 rfl; have b1 := N2.at_ 1 rfl; have b2 := N2.at_ 2 rfl)
          | (go_at_call 14; (with_reducible refine (SH.out _ _ p1).mono ?_); rintro e w5 ⟨A5, n5, c5, rfl, nl, hb⟩; have pl := PL.out _ _ nl; have N1 := N1.below hb N1.lt; have N2 := N2.below hb N2.lt; have p2 := p2.below hb; have D := Lib.hid (D.out.trans (hb.mono D.out.size)); clear hb; have a0 := N1.at_ 0 rfl; have a1 := N1.at_ 1 rfl; have a2 := N1.at_ 2 rfl; have b0 := N2.at_ 0 rfl; have b1 := N2.at_ 1 rfl; have b2 := N2.at_ 2 rfl)
          | (go_at_call 15; (with_reducible refine (DI.out _ _ _ pl p2).mono ?_); rintro e w6 ⟨A6, n6, c6, A7, n7, c7, rfl, -, -, nq, nr, hb⟩; have pq := PQ.out _ _ nq; obtain rfl := ZR.out _ _ _ _ nr; have N1 := N1.below hb N1.lt; have N2 := N2.below hb N2.lt; have D := Lib.hid (D.out.trans (hb.mono D.out.size)); clear hb; have a0 := N1.at_ 0 rfl; have a1 := N1.at_ 1 rfl; have a2 := N1.at_ 2 rfl; have b0 := N2.at_ 0 rfl; have b1 := N2.at_ 1 rfl; have b2 := N2.at_ 2 rfl)
          | (go_at_call 16; (with_reducible refine (FI.out _ _ _ _ pq D.out).mono ?_); rintro e w7 ⟨rfl, hb⟩; have D := Lib.hid (D.out.trans (hb.mono D.out.size)); clear hb))
        go_ret3
        exact ⟨rfl, D.out⟩
      · have e0 : decide (rm ≠ 0) = true := by simp [h0]
        rw [e0] at FI
        have ZR : Hid (∀ (W : World) (A : Option Addr) (n c : Nat), NV W (.slice A n c) rm → decide (0 < n) = true) := fun W A n c h => by
          have := (ZR.out W A n c h)
          have : n ≠ 0 := fun k => h0 (this.1 k)
          exact decide_eq_true (by omega)
        clear e0 h0
        go_enter Tryz.func4, Tryz.ntmps4
        go_wp2_with (first
          | (go_at_call 11; (with_reducible refine (CM.out).mono ?_); rintro e w1 ⟨rfl, hb⟩; have D := Lib.hid hb; clear hb)
          | (go_at_call 12; (with_reducible refine (BC.out _).mono ?_); rintro e w2 ⟨rfl, rfl⟩)
          | (go_at_call 13; (with_reducible refine (O1.out _ D.out).mono ?_); rintro e w3 ⟨b3, A3, n3, c3, x3, rfl, hv, hb⟩; obtain ⟨rfl, rfl, p1⟩ := g1.out _ _ _ _ _ _ hv; have s := hb.alloc hb.size (.cells #[.bool s1, .slice A3 n3 c3, .int .i64 X1] 37); have N1 := Blk.new w3 37 #[.bool s1, .slice A3 n3 c3, .int .i64 X1]; have p1 := p1.below (al1 w3 (.cells #[.bool s1, .slice A3 n3 c3, .int .i64 X1] 37)); have D := Lib.hid (D.out.trans (s.mono D.out.size)); clear hv hb s)
          | (go_at_call 13; (with_reducible refine (O2.out _ D.out).mono ?_); rintro e w4 ⟨b4, A4, n4, c4, x4, rfl, hv, hb⟩; obtain ⟨rfl, rfl, p2⟩ := g2.out _ _ _ _ _ _ hv; have s := hb.alloc hb.size (.cells #[.bool s2, .slice A4 n4 c4, .int .i64 X2] 37); have N1 := N1.below s N1.lt; have p1 := p1.below s; have N2 := Blk.new w4 37 #[.bool s2, .slice A4 n4 c4, .int .i64 X2]; have p2 := p2.below (al1 w4 (.cells #[.bool s2, .slice A4 n4 c4, .int .i64 X2] 37)); have D := Lib.hid (D.out.trans (s.mono D.out.size)); clear hv hb s; have a0 := N1.at_ 0 rfl; have a1 := N1.at_ 1 rfl; have a2 := N1.at_ 2 rfl; have b0 := N2.at_ 0 rfl; have b1 := N2.at_ 1 rfl; have b2 := N2.at_ 2 rfl)
          | (go_at_call 14; (with_reducible refine (SH.out _ _ p1).mono ?_); rintro e w5 ⟨A5, n5, c5, rfl, nl, hb⟩; have pl := PL.out _ _ nl; have N1 := N1.below hb N1.lt; have N2 := N2.below hb N2.lt; have p2 := p2.below hb; have D := Lib.hid (D.out.trans (hb.mono D.out.size)); clear hb; have a0 := N1.at_ 0 rfl; have a1 := N1.at_ 1 rfl; have a2 := N1.at_ 2 rfl; have b0 := N2.at_ 0 rfl; have b1 := N2.at_ 1 rfl; have b2 := N2.at_ 2 rfl)
          | (go_at_call 15; (with_reducible refine (DI.out _ _ _ pl p2).mono ?_); rintro e w6 ⟨A6, n6, c6, A7, n7, c7, rfl, -, -, nq, nr, hb⟩; have pq := PQ.out _ _ nq; have tn := ZR.out _ _ _ _ nr; have N1 := N1.below hb N1.lt; have N2 := N2.below hb N2.lt; have D := Lib.hid (D.out.trans (hb.mono D.out.size)); clear hb; have a0 := N1.at_ 0 rfl; have a1 := N1.at_ 1 rfl; have a2 := N1.at_ 2 rfl; have b0 := N2.at_ 0 rfl; have b1 := N2.at_ 1 rfl; have b2 := N2.at_ 2 rfl)
          | (go_at_call 16; (try rw [tn]); (with_reducible refine (FI.out _ _ _ _ pq D.out).mono ?_); rintro e w7 ⟨rfl, hb⟩; have D := Lib.hid (D.out.trans (hb.mono D.out.size)); clear hb))
        go_ret3
        exact ⟨rfl, D.out⟩
    · rw [DT_qc hm h]
      rw [h] at BC
      generalize (qc x y).1 = v1 at *
      clear hT hx hy hm h
      go_enter Tryz.func4, Tryz.ntmps4
      go_wp2_with (first
        | (go_at_call 11; (with_reducible refine (CM.out).mono ?_); rintro e w1 ⟨rfl, hb⟩; have D := Lib.hid hb; clear hb)
        | (go_at_call 12; (with_reducible refine (BC.out _).mono ?_); rintro e w2 ⟨rfl, rfl⟩))
      go_ret3
      exact ⟨rfl, D.out⟩
  · rw [if_neg hm] at CM
    rw [DT_no hm]
    clear hT hx hy hm BC
    go_enter Tryz.func4, Tryz.ntmps4
    go_wp2_with (first
      | (go_at_call 11; (with_reducible refine (CM.out).mono ?_); rintro e w1 ⟨rfl, hb⟩; have D := Lib.hid hb; clear hb))
    go_ret3
    exact ⟨rfl, D.out⟩
end JC
end Go.Proofs.YtpmjeipdldnnbaaGreatDoor
