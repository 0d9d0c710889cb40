/-
  Package quot: Sqrt.
-/
import Derived.Test.YtpmjeipdldnnbaaGreatDoorJ4
namespace Go.Proofs.YtpmjeipdldnnbaaGreatDoor
set_option linter.unusedVariables false
set_option linter.unusedSimpArgs false
open Go.RowKit
set_option linter.unusedVariables false
set_option linter.unusedSimpArgs false
namespace JC
open L NC NK DC RC SC PC
theorem sqrt_parts {x mode : Int} (hm : 0 ≤ mode ∧ mode ≤ 4) (hx : 0 ≤ x ∧ x ≤ 18446744073709551615) (h : ¬ (F.cls x = 1 ∨ x = 9218868437227405312)) (h' : ¬ (F.cls x = 5 ∨ F.sgn x = true)) :
    ∃ (o X p e L : Int) (n : Nat), OfD x = ⟨0, 0, sgm false o, X⟩ ∧ 0 < o ∧ -1074 ≤ X ∧ X ≤ 1024 ∧ X % 2 = p ∧ (p = 0 ∨ p = 1) ∧ (n : Int) = 128 + p ∧ (X - (128 + p)).tdiv 2 = e ∧ -1000 ≤ e ∧ e ≤ 1000 ∧ L = o * 2 ^ n ∧ 0 ≤ L ∧ L < 2 ^ 190 ∧
      ∀ R : Int, 0 ≤ R → R * R ≤ L → L < (R + 1) * (R + 1) → 0 < R ∧ R < 2 ^ 190 ∧ ∃ (r : Int) (hf m : Bool), Tow (sc R e) r hf m ∧ ST x mode = (rx false (ry false r hf (m || decide (R * R ≠ L)) mode), hf || (m || decide (R * R ≠ L)), 0) := by
  obtain ⟨fx, vx, hs⟩ := st_fi hx h h'
  obtain ⟨o, X, e1, a1, a2, -, a3, a4, a5⟩ := of_parts fx vx
  rw [hs] at e1
  obtain ⟨p, hp⟩ : ∃ p, X % 2 = p := ⟨_, rfl⟩
  have p01 : p = 0 ∨ p = 1 := by omega
  obtain ⟨n, hn⟩ : ∃ n : Nat, (n : Int) = 128 + p := ⟨(128 + p).toNat, by omega⟩
  obtain ⟨e, he⟩ : ∃ e, (X - (128 + p)).tdiv 2 = e := ⟨_, rfl⟩
  have e2 : e + e = X - (128 + p) := by
    have := Int.mul_tdiv_add_tmod (X - (128 + p)) 2
    have hz : (X - (128 + p)).tmod 2 = 0 := by
      have : (2 : Int) ∣ X - (128 + p) := by omega
      exact Int.tmod_eq_zero_of_dvd this
    omega
  have p128 : (2 : Int) ^ 128 = 340282366920938463463374607431768211456 := by decide
  have p190 : (2 : Int) ^ 190 = 1569275433846670190958947355801916604025588861116008628224 := by decide
  have pn : 340282366920938463463374607431768211456 ≤ (2 : Int) ^ n ∧ (2 : Int) ^ n ≤ 680564733841876926926749214863536422912 := by
    rcases p01 with rfl | rfl
    · rw [show n = 128 by omega]; decide
    · rw [show n = 129 by omega]; decide
  obtain ⟨L, hL⟩ : ∃ L, L = o * 2 ^ n := ⟨_, rfl⟩
  have l1 := Int.mul_le_mul_of_nonneg_right (show 1 ≤ o by omega) (show 0 ≤ (2 : Int) ^ n by omega)
  have l2 := Int.mul_le_mul_of_nonneg_left pn.2 (show 0 ≤ o by omega)
  rw [← hL] at l1 l2
  refine ⟨o, X, p, e, L, n, e1, a1, a3, a4, hp, p01, hn, he, by omega, by omega, hL, by omega, by rw [p190]; omega, fun R r0 r1 r2 => ?_⟩
  have r3 : 18446744073709551615 ≤ R := by
    rcases Int.lt_or_le R 18446744073709551615 with k | k
    · exfalso
      have := Int.mul_le_mul (show R + 1 ≤ 18446744073709551615 by omega) (show R + 1 ≤ 18446744073709551615 by omega) (by omega) (by omega)
      omega
    · exact k
  have r4 : R ≤ L := by
    have := Int.mul_le_mul_of_nonneg_left (show 1 ≤ R by omega) r0
    omega
  obtain ⟨B, hB⟩ : ∃ B : Nat, B = 400 := ⟨_, rfl⟩
  have hqB : R < 2 ^ B := by
    have := pow_le400 hB (show 190 ≤ 399 by omega)
    rw [p190] at this
    omega
  obtain ⟨r, hf, m, t⟩ := tow_ex (z := R) (x := e) (by omega) (lt_390 hB hqB).2 (by omega)
  refine ⟨by omega, by rw [p190]; omega, r, hf, m, t, ?_⟩
  rw [ST_fi hm h h']
  have eN : ab x * 2 ^ KN = sc L (X - (128 + p)) * 2 ^ KN := by
    rw [a5, hL]
    have := sc_shift o (X - (128 + p)) n (by omega)
    rw [this]
    congr 2; omega
  have tg := root_tog (left := decide (R * R ≠ L)) (N := ab x * 2 ^ KN) (L := L) (f := X - (128 + p)) (z := R) (e := e) hB (by omega) e2 eN (by omega) hqB (by omega) r1 r2 (by apply decide_eq_decide.2; omega) t
  rw [RT_of (rcut _) tg]
set_option maxRecDepth 100000 in
set_option maxHeartbeats 8000000 in
theorem Sqrt_c (x mode : Int) (w : World) (hx : 0 ≤ x ∧ x ≤ 18446744073709551615) (hT : TabD w) :
    Calls Tryz.prog 5 #[.int .u64 x, .int .i64 mode] w (DC.RetB w (ATv (ST x mode))) := by
  have CM := Lib.hid (checkModeQ_c mode w hT)
  have CX : Hid (∀ W : World, Calls Tryz.prog 17 #[.int .u64 x] W fun e w' => e = .returned (.int .i64 (F.cls x)) ∧ W = w') := fun W => FloatC.Class_c x hx.1 hx.2 W
  have AX : Hid (∀ W : World, Calls Tryz.prog 18 #[.int .u64 x] W fun e w' => e = .returned (.int .u64 (F.abs x)) ∧ W = w') := fun W => FloatC.Abs_c x hx.1 hx.2 W
  unfold ATv
  by_cases hm : 0 ≤ mode ∧ mode ≤ 4
  · rw [if_pos hm] at CM
    by_cases h : F.cls x = 1 ∨ x = 9218868437227405312
    · rw [ST_self hm h]
      have k : (F.cls x = 1) ∨ (F.cls x = 4 ∧ x = 9218868437227405312) := by
        rcases h with h | rfl
        · exact .inl h
        · exact .inr ⟨by decide, rfl⟩
      clear h hx hT hm
      rcases k with k | ⟨k, rfl⟩
      all_goals (
        rw [k] at CX
        clear k
        go_enter Tryz.func5, Tryz.ntmps5
        go_wp2_with (first
          | (go_at_call 11; (with_reducible refine (CM.out).mono ?_); rintro e w1 ⟨rfl, hb⟩; have D := Lib.hid hb; clear hb)
          | (go_at_call 17; (with_reducible refine (CX.out _).mono ?_); rintro e w2 ⟨rfl, rfl⟩)
          | (go_at_call 18; (with_reducible refine (AX.out _).mono ?_); rintro e w2 ⟨rfl, rfl⟩))
        go_ret3
        exact ⟨rfl, D.out⟩)
    · have t1 : (F.cls x == 1) = false := by simp; exact fun k => h (.inl k)
      have t2 : (x == 9218868437227405312) = false := by simp; exact fun k => h (.inr k)
      by_cases h' : F.cls x = 5 ∨ F.sgn x = true
      · rw [ST_nan hm h h']
        have k : (F.cls x == 5) = true ∨ ((F.cls x == 5) = false ∧ (F.abs x != x) = true) := by
          by_cases k : F.cls x = 5
          · exact .inl (by simp [k])
          · refine .inr ⟨by simp [k], ?_⟩
            have := h'.resolve_left k
            rw [F.sgn_iff] at this
            unfold F.abs
            simp
            omega
        clear h h' hx hT hm
        generalize F.cls x = cx at *
        generalize F.abs x = ax at *
        rcases k with k | ⟨k, k2⟩
        all_goals (
          go_enter Tryz.func5, Tryz.ntmps5
          go_wp2_with (first
            | (go_at_call 11; (with_reducible refine (CM.out).mono ?_); rintro e w1 ⟨rfl, hb⟩; have D := Lib.hid hb; clear hb)
            | (go_at_call 17; (with_reducible refine (CX.out _).mono ?_); rintro e w2 ⟨rfl, rfl⟩)
            | (go_at_call 18; (with_reducible refine (AX.out _).mono ?_); rintro e w2 ⟨rfl, rfl⟩))
          go_ret3
          exact ⟨rfl, D.out⟩)
      · obtain ⟨o, X, p, e, L, n, e1, a1, a3, a4, hp, p01, hn, he, x1, x2, hL, l0, l1, key⟩ := sqrt_parts hm hx h h'
        obtain ⟨B, hB⟩ : ∃ B : Nat, B = 400 := ⟨_, rfl⟩
        have k5 : (F.cls x == 5) = false := by simp; exact fun k => h' (.inl k)
        have k6 : (F.abs x != x) = false := by
          have : F.sgn x = false := by cases k : F.sgn x; rfl; exact absurd (.inr k) h'
          rw [F.sgn_iff'] at this
          unfold F.abs
          simp
          omega
        have O1 : Hid (∀ W, Below w.heap.size w W → Calls Tryz.prog 13 #[.int .u64 x] W (RetD W ⟨0, 0, sgm false o, X⟩)) := fun W hW => by rw [← e1]; exact Of_d x hx.1 hx.2 W (hT.below hW)
        have g1 : Hid (∀ (W : World) (b : Bool) (A : Option Addr) (n c : Nat) (x' : Int), GV W b A n c x' ⟨0, sgm false o, X⟩ → false = b ∧ X = x' ∧ PV W (.slice A n c) 0 o) := fun W b A n c x' g => gv_of g a1
        have lB : L < 2 ^ B := Int.lt_trans l1 (pow_le400 hB (by omega))
        have SH : Hid (∀ (W : World) (v : Value), PV W v 0 o → Calls Tryz.prog 14 #[v, .int .i64 (128 + p)] W (RetSh W 0 L false)) := fun W v hv => by rw [hL, ← hn]; exact sh_up hv n (by omega)
        have PL : Hid (∀ (W : World) (v : Value), NV W v L → PV W v 0 L) := fun W v h => pv0 hB h l0 lB
        have RO : Hid (∀ (W : World) (v : Value), PV W v 0 L → Calls Tryz.prog 19 #[v] W (RetRP W 0 L)) := fun W v h => Root_p h
        have FI : Hid (∀ (W : World) (A : Option Addr) (n c : Nat) (R : Int) (b : Bool), NV W (.slice A n c) R → Hid (0 = 0 → R * R ≤ L ∧ L < (R + 1) * (R + 1) ∧ 0 ≤ R ∧ b = decide (R * R ≠ L)) → Below w.heap.size w W → Calls Tryz.prog 16 #[.bool false, .slice A n c, .int .i64 e, .bool b, .int .i64 mode] W (DC.RetB W (.tuple #[.int .u64 (ST x mode).1, .bool (ST x mode).2.1, .int .i64 (ST x mode).2.2]))) := fun W A n c R b hv hR hW => by
          obtain ⟨r1, r2, r0, rfl⟩ := hR.out rfl
          obtain ⟨q0, q1, r, hf, m, t, hD⟩ := key R r0 r1 r2
          have qB := Int.lt_trans q1 (pow_le400 hB (by omega))
          rw [hD]
          exact finishQ_c _ _ A n c R _ mode r hf m W hB hm q0 qB (by omega) t (pv0 hB hv r0 qB) (hT.below hW)
        have BA := i64_and1 X
        rw [hp] at BA
        generalize ST x mode = dt at *
        obtain ⟨d1, d2, d3⟩ := dt
        dsimp only at FI ⊢
        generalize F.cls x = cx at *
        generalize F.abs x = ax at *
        clear hT hx hm h h' e1 hL lB l0 l1 a1 key hp hn
        rcases p01 with rfl | rfl
        all_goals (
          simp only [Int.add_zero, show (128 : Int) + 1 = 129 from rfl] at SH he
          go_enter Tryz.func5, Tryz.ntmps5
          go_wp2_with (first
            | (go_at_call 11; (with_reducible refine (CM.out).mono ?_); rintro e w1 ⟨rfl, hb⟩; have D := Lib.hid hb; clear hb)
            | (go_at_call 17; (with_reducible refine (CX.out _).mono ?_); rintro e w2 ⟨rfl, rfl⟩)
            | (go_at_call 18; (with_reducible refine (AX.out _).mono ?_); rintro e w2 ⟨rfl, rfl⟩)
            | (go_at_call 13; (with_reducible refine (O1.out _ D.out).mono ?_); rintro e w3 ⟨b3, A3, n3, c3, x3, rfl, hv, hb⟩; obtain ⟨rfl, rfl, p1⟩ := g1.out _ _ _ _ _ _ hv; have s := hb.alloc hb.size (.cells #[.bool false, .slice A3 n3 c3, .int .i64 X] 37); have N1 := Blk.new w3 37 #[.bool false, .slice A3 n3 c3, .int .i64 X]; have p1 := p1.below (al1 w3 (.cells #[.bool false, .slice A3 n3 c3, .int .i64 X] 37)); have D := Lib.hid (D.out.trans (s.mono D.out.size)); clear hv hb s; have a0 := N1.at_ 0 rfl; have a1 := N1.at_ 1 rfl; have a2 := N1.at_ 2 rfl)
            | (go_at_call 14; (with_reducible refine (SH.out _ _ p1).mono ?_); rintro e w5 ⟨A5, n5, c5, rfl, nl, hb⟩; have pl := PL.out _ _ nl; have N1 := N1.below hb N1.lt; have D := Lib.hid (D.out.trans (hb.mono D.out.size)); clear hb; have a0 := N1.at_ 0 rfl; have a1 := N1.at_ 1 rfl; have a2 := N1.at_ 2 rfl)
            | (go_at_call 19; (with_reducible refine (RO.out _ _ pl).mono ?_); rintro e w6 ⟨A6, n6, c6, b6, R, rfl, nr, hb, hR, -⟩; have N1 := N1.below hb N1.lt; have D := Lib.hid (D.out.trans (hb.mono D.out.size)); clear hb; have a0 := N1.at_ 0 rfl; have a1 := N1.at_ 1 rfl; have a2 := N1.at_ 2 rfl)
            | (go_at_call 16; (with_reducible refine (FI.out _ _ _ _ _ _ nr hR D.out).mono ?_); rintro e w7 ⟨rfl, hb⟩; have D := Lib.hid (D.out.trans (hb.mono D.out.size)); clear hb))
          go_ret3
          exact ⟨rfl, D.out⟩)
  · rw [if_neg hm] at CM
    rw [ST_no hm]
    clear hT hx hm
    go_enter Tryz.func5, Tryz.ntmps5
    go_wp2_with (first
      | (go_at_call 11; (with_reducible refine (CM.out).mono ?_); rintro e w1 ⟨rfl, hb⟩; have D := Lib.hid hb; clear hb))
    go_ret3
    exact ⟨rfl, D.out⟩
end JC
end Go.Proofs.YtpmjeipdldnnbaaGreatDoor
