/-
  The document's remainder.
-/
import Derived.Test.YtpmjeipdldnnbaaDoorJ13
import Derived.Test.YtpmjeipdldnnbaaDoorP11
import Derived.Test.YtpmjeipdldnnbaaDoorO1
import Derived.Test.YtpmjeipdldnnbaaDoorHeld3
namespace Go.Proofs.YtpmjeipdldnnbaaDoor
set_option linter.unusedVariables false
set_option linter.unusedSimpArgs false
open Go.RowKit
set_option linter.unusedVariables false
set_option linter.unusedSimpArgs false
namespace JC
open Z (Nz Tz cmpv big)
open ZC DC RC QC SC VC PC
set_option maxRecDepth 100000 in
set_option maxHeartbeats 16000000 in
theorem RemainderOf_c (x y : Int) (w : World) (hx : 0 ≤ x ∧ x ≤ 18446744073709551615) (hy : 0 ≤ y ∧ y ≤ 18446744073709551615) :
    Calls Tryd.prog 10 #[.int .u64 x, .int .u64 y] w fun e w' => e = .returned (.int .u64 (RM x y)) ∧ Below w.heap.size w w' := by
  have MX : Hid (∀ W : World, Calls Tryd.prog 47 #[.int .u64 x] W fun e w' => e = .returned (.bool (F.sgn x)) ∧ W = w') := fun W => Minus_v x W
  have NX : Hid (∀ W : World, Calls Tryd.prog 33 #[.int .u64 x] W fun e w' => e = .returned (.bool (F.cls x == 5)) ∧ W = w') := fun W => IsNan_c x hx.1 hx.2 W
  have NY : Hid (∀ W : World, Calls Tryd.prog 33 #[.int .u64 y] W fun e w' => e = .returned (.bool (F.cls y == 5)) ∧ W = w') := fun W => IsNan_c y hy.1 hy.2 W
  have IX : Hid (∀ W : World, Calls Tryd.prog 34 #[.int .u64 x] W fun e w' => e = .returned (.bool (F.cls x == 4)) ∧ W = w') := fun W => IsInf_c x hx.1 hx.2 W
  have IY : Hid (∀ W : World, Calls Tryd.prog 34 #[.int .u64 y] W fun e w' => e = .returned (.bool (F.cls y == 4)) ∧ W = w') := fun W => IsInf_c y hy.1 hy.2 W
  have ZY : Hid (∀ W : World, Calls Tryd.prog 35 #[.int .u64 y] W fun e w' => e = .returned (.bool (F.cls y == 1)) ∧ W = w') := fun W => IsZero_c y hy.1 hy.2 W
  have QN : Hid (∀ W : World, Calls Tryd.prog 36 #[] W fun e w' => e = .returned (.int .u64 9221120237041090560) ∧ W = w') := fun W => QuietNan_c W
  by_cases h1 : F.cls x = 5 ∨ F.cls y = 5 ∨ F.cls x = 4 ∨ F.cls y = 1
  · have eR : RM x y = 9221120237041090560 := by unfold RM; rw [if_pos h1]
    rw [eR]
    have k : (F.cls x == 5) = true ∨ ((F.cls x == 5) = false ∧ (F.cls y == 5) = true) ∨ ((F.cls x == 5) = false ∧ (F.cls y == 5) = false ∧ (F.cls x == 4) = true) ∨ ((F.cls x == 5) = false ∧ (F.cls y == 5) = false ∧ (F.cls x == 4) = false ∧ (F.cls y == 1) = true) := by
      simp only [beq_iff_eq, beq_eq_false_iff_ne]; omega
    clear h1 hx hy eR
    generalize (F.cls x == 5) = x5 at *
    generalize (F.cls y == 5) = y5 at *
    generalize (F.cls x == 4) = x4 at *
    generalize (F.cls y == 1) = y1 at *
    rcases k with rfl | ⟨rfl, rfl⟩ | ⟨rfl, rfl, rfl⟩ | ⟨rfl, rfl, rfl, rfl⟩
    all_goals (
      go_enter Tryd.func10, Tryd.ntmps10
      go_wp2_with (first
        | (go_at_call 33; (with_reducible refine (NX.out _).mono ?_); rintro e v1 ⟨rfl, rfl⟩)
        | (go_at_call 33; (with_reducible refine (NY.out _).mono ?_); rintro e v2 ⟨rfl, rfl⟩)
        | (go_at_call 34; (with_reducible refine (IX.out _).mono ?_); rintro e v3 ⟨rfl, rfl⟩)
        | (go_at_call 34; (with_reducible refine (IY.out _).mono ?_); rintro e v4 ⟨rfl, rfl⟩)
        | (go_at_call 35; (with_reducible refine (ZY.out _).mono ?_); rintro e v5 ⟨rfl, rfl⟩)
        | (go_at_call 36; (with_reducible refine (QN.out _).mono ?_); rintro e v6 ⟨rfl, rfl⟩))
      go_ret
      exact ⟨rfl, Below.refl _ _⟩)
  · have k1 : (F.cls x == 5) = false := by simp only [beq_eq_false_iff_ne]; omega
    have k2 : (F.cls y == 5) = false := by simp only [beq_eq_false_iff_ne]; omega
    have k3 : (F.cls x == 4) = false := by simp only [beq_eq_false_iff_ne]; omega
    have k4 : (F.cls y == 1) = false := by simp only [beq_eq_false_iff_ne]; omega
    rw [k1] at NX
    rw [k2] at NY
    rw [k3] at IX
    rw [k4] at ZY
    by_cases h2 : F.cls y = 4
    · have eR : RM x y = x := by unfold RM; rw [if_neg h1, if_pos h2]
      rw [eR]
      rw [show (F.cls y == 4) = true by simp [h2]] at IY
      clear h1 hx hy h2 eR k1 k2 k3 k4
      go_enter Tryd.func10, Tryd.ntmps10
      go_wp2_with (first
        | (go_at_call 33; (with_reducible refine (NX.out _).mono ?_); rintro e v1 ⟨rfl, rfl⟩)
        | (go_at_call 33; (with_reducible refine (NY.out _).mono ?_); rintro e v2 ⟨rfl, rfl⟩)
        | (go_at_call 34; (with_reducible refine (IX.out _).mono ?_); rintro e v3 ⟨rfl, rfl⟩)
        | (go_at_call 34; (with_reducible refine (IY.out _).mono ?_); rintro e v4 ⟨rfl, rfl⟩)
        | (go_at_call 35; (with_reducible refine (ZY.out _).mono ?_); rintro e v5 ⟨rfl, rfl⟩)
        | (go_at_call 36; (with_reducible refine (QN.out _).mono ?_); rintro e v6 ⟨rfl, rfl⟩))
      go_ret
      exact ⟨rfl, Below.refl _ _⟩
    · rw [show (F.cls y == 4) = false by simp [h2]] at IY
      have cbx := F.cls_bd x
      have cby := F.cls_bd y
      have fx := (fi_cls hx).2 (by omega)
      have fy := (fi_cls hy).2 (by omega)
      have vy : val y ≠ 0 := fun h => by have := (val0 fy).1 h; omega
      obtain ⟨M0, hM0⟩ : ∃ M0 : Nat, M0 = 2200 := ⟨_, rfl⟩
      obtain ⟨T0, hT0⟩ : ∃ T0 : Nat, T0 = 1100 := ⟨_, rfl⟩
      have QVx : Hid (∀ (W : World), Calls Tryd.prog 38 #[.int .u64 x] W (RetSF M0 T0 W (val x))) := fun W => by rw [hM0, hT0]; exact QVal_v x W fx
      have QVy : Hid (∀ (W : World), Calls Tryd.prog 38 #[.int .u64 y] W (RetSF M0 T0 W (val y))) := fun W => by rw [hM0, hT0]; exact QVal_v y W fy
      have LVc : Hid (∀ (W : World) (u v : Value), QS M0 T0 W u (val x) → QS M0 T0 W v (val y) → ∃ A B t, Calls Tryd.prog 37 #[u, v] W (RetLv W A B t) ∧ A.natAbs < 2 ^ (M0 + T0) ∧ B.natAbs < 2 ^ (M0 + T0) ∧ 0 ≤ t ∧ t ≤ max T0 T0 ∧ sc A (-t) = val x ∧ sc B (-t) = val y) := fun W u v h h' => level_s h h' (by omega) (by omega) (by omega) (by omega)
      have RP := fun (A B t : Int) (h : sc A (-t) = val x) (h' : sc B (-t) = val y) => ref_parts fx fy vy h h'
      have DZ0 : Hid (∀ (W : World) (u v : Value) (A B t : Int), A.natAbs < 2 ^ (M0 + T0) → B.natAbs < 2 ^ (M0 + T0) → sc A (-t) = val x → sc B (-t) = val y → ZV W u A → ZV W v B → Calls Tryd.prog 39 #[u, v] W (RetZZ W (A / B) (A % B))) := fun W u v A B t h1 h2 h3 h4 h5 h6 => ZDiv_c u v A B W h5 h6 (lt_big h1 (by omega) (by decide)) (lt_big h2 (by omega) (by decide)) (RP A B t h3 h4).1
      have SG0 : Hid (∀ (W : World) (b : Bool), Calls Tryd.prog 46 #[.int .u64 0, .bool b] W fun e w' => e = .returned (.int .u64 (rx b 0)) ∧ W = w') := fun W b => by
        have := Signed_c 0 b W (by omega) (by omega)
        rw [show (if b = true then (0 : Int) + 9223372036854775808 else 0) = rx b 0 by cases b <;> rfl] at this
        exact this
      have RO : ∀ (s R t : Int), RM x y = s → (R ≠ 0 → ∃ ρ sg, sc R (-t) = sgm sg (U ρ) ∧ 0 < U ρ ∧ 0 ≤ ρ ∧ ρ ≤ 9218868437227405311 ∧ RM x y = rx sg ρ) → R ≠ 0 → ∃ l, ∀ (W : World) (u : Value), QS (M0 + T0) T0 W u (sc R (-t)) → Calls Tryd.prog 48 #[u, .int .i64 0, .int .i64 0] W fun e w' => e = .returned (.tuple #[.int .u64 s, .bool l]) ∧ Below W.heap.size W w' := fun s R t hs h h0 => by
        obtain ⟨ρ, sg, e1, e2, r0, r1, e3⟩ := h h0
        have tw := tow_exact r0 r1
        have es : sa (sc R (-t)) = U ρ := by
          rw [e1]
          unfold sa sgm
          cases sg
          · simp; omega
          · simp; omega
        have ed : decide (sc R (-t) < 0) = sg := by
          rw [e1]
          unfold sgm
          cases sg
          · simp; omega
          · simp; omega
        rw [← es] at tw
        obtain ⟨k1, k2⟩ := rounded_0 (mode := 0) tw (by omega)
        rw [ed, ry_none, ← e3, hs] at k1
        exact ⟨_, fun W u hq => by
          have := Rounded_w u (sc R (-t)) _ 0 0 W hq (by omega) (by omega) (lw_low tw) (by omega) (by omega) (loR_bd tw)
          rw [k1] at this
          exact this⟩
      obtain ⟨rm, hrm⟩ : ∃ r, RM x y = r := ⟨_, rfl⟩
      rw [hrm] at RP RO ⊢
      have RP := Lib.hid RP
      have RO := Lib.hid RO
      have BG : Hid (∀ z : Int, z.natAbs < 2 ^ (M0 + T0) → z.natAbs < big 900000 ∧ z.natAbs < big 400000) := fun z h => ⟨lt_big h (by omega) (by decide), lt_big h (by omega) (by decide)⟩
      have HT0 := Lib.hid hT0
      generalize val x = vx at *
      generalize val y = vy' at *
      generalize F.sgn x = sx at *
      clear h1 h2 hx hy cbx cby fx fy vy k1 k2 k3 k4 hM0 hT0
      go_enter Tryd.func10, Tryd.ntmps10
      go_upto_region 7 with (first
        | (go_at_call 33; (with_reducible refine (NX.out _).mono ?_); rintro e v1 ⟨rfl, rfl⟩)
        | (go_at_call 33; (with_reducible refine (NY.out _).mono ?_); rintro e v2 ⟨rfl, rfl⟩)
        | (go_at_call 34; (with_reducible refine (IX.out _).mono ?_); rintro e v3 ⟨rfl, rfl⟩)
        | (go_at_call 34; (with_reducible refine (IY.out _).mono ?_); rintro e v4 ⟨rfl, rfl⟩)
        | (go_at_call 35; (with_reducible refine (ZY.out _).mono ?_); rintro e v5 ⟨rfl, rfl⟩)
        | (go_at_call 36; (with_reducible refine (QN.out _).mono ?_); rintro e v6 ⟨rfl, rfl⟩)
        | (go_at_call 38; (with_reducible refine (QVx.out _).mono ?_); rintro e w1 ⟨b1, A1, n1, c1, t1, z1, rfl, r1, r2, r3, r4, r5, r6, hb⟩; have Q1 := Lib.hid (RetS.qs r1 r2 r3 r4 r5); have D := Lib.hid hb; clear r1 r2 r3 r4 r5 r6 hb)
        | (go_at_call 38; (with_reducible refine (QVy.out _).mono ?_); rintro e w2 ⟨b2, A2, n2, c2, t2, z2, rfl, r1, r2, r3, r4, r5, r6, hb⟩; have Q1 := Lib.hid (Q1.out.below hb); have Q2 := Lib.hid (RetS.qs r1 r2 r3 r4 r5); have D := Lib.hid (D.out.trans (hb.mono D.out.size)); clear r1 r2 r3 r4 r5 r6 hb)
        | (go_at_call 37; obtain ⟨A, B, t, hlv, a1, a2, a3, a4, a5, a6⟩ := LVc.out _ _ _ Q1.out Q2.out; (with_reducible refine hlv.mono ?_); clear hlv; rintro e w3 ⟨ba, Aa, na, ca, bb, Ab, nb, cb, rfl, hA, hB, hb⟩; obtain ⟨N1, N2, NS, D0⟩ := new2 w3 57 57 #[.bool ba, .slice Aa na ca] #[.bool bb, .slice Ab nb cb] 0; rw [World.drewN_zero] at N1 N2 NS D0; have hA := hA.below D0; have hB := hB.below D0; have D := Lib.hid (D.out.trans ((hb.trans (D0.mono hb.size)).mono D.out.size)); have n1_0 := N1.at_ 0 rfl; have n1_1 := N1.at_ 1 rfl; have n2_0 := N2.at_ 0 rfl; have n2_1 := N2.at_ 1 rfl; clear Q1 Q2 NS D0 hb)
        | (go_at_call 39; (with_reducible refine (DZ0.out _ _ _ _ _ _ a1 a2 a5 a6 hA.v hB.v).mono ?_); rintro e w4 ⟨_, _, rfl, ⟨bq, Aq, nq, cq, rfl, hq⟩, ⟨br, Ar, nr, cr, rfl, hr⟩, hb⟩; obtain ⟨N3, N4, NS, D0⟩ := new2 w4 57 57 #[.bool bq, .slice Aq nq cq] #[.bool br, .slice Ar nr cr] 0; rw [World.drewN_zero] at N3 N4 NS D0; have hB := (hB.below hb).below D0; have hq := hq.below D0; have hr := hr.below D0; have N2 := (N2.below hb N2.lt).below D0 (N2.below hb N2.lt).lt; have SZ4 := Lib.hid (D.out.trans (hb.mono D.out.size)).size; have D := Lib.hid (D.out.trans ((hb.trans (D0.mono hb.size)).mono D.out.size)); clear hA N1 n1_0 n1_1 n2_0 n2_1 NS D0 hb))
      obtain ⟨WA, hWA⟩ : ∃ WA, (w4.alloc (.cells #[.bool bq, .slice Aq nq cq] 57)).alloc (.cells #[.bool br, .slice Ar nr cr] 57) = WA := ⟨_, rfl⟩
      obtain ⟨g3, hg3⟩ : ∃ g, w4.heap.size = g := ⟨_, rfl⟩
      obtain ⟨g2, hg2⟩ : ∃ g, w3.heap.size + 1 = g := ⟨_, rfl⟩
      rw [hWA] at N2 N3 N4 hB hq hr D ⊢
      rw [hg3] at N3 N4 ⊢
      have SZ4 := SZ4.out
      rw [hg3] at SZ4
      rw [hg2] at N2 ⊢
      clear hWA hg3 hg2 QVx QVy LVc DZ0 NX NY IX IY ZY QN
      obtain ⟨B0, m0, m1, R, hR1, hR2, hR3, hR4⟩ := RP.out A B t a5 a6
      have bB := (BG.out B a2)
      have qb : (A / B).natAbs < big 900000 := by
        have := Int.natAbs_ediv_le_natAbs A B
        have := (BG.out A a1).1
        omega
      obtain ⟨Bn, hBn⟩ : ∃ Bn, (B.natAbs : Int) = Bn := ⟨_, rfl⟩
      obtain ⟨q, hqe⟩ : ∃ q, A / B = q := ⟨_, rfl⟩
      obtain ⟨r, hre⟩ : ∃ r, A % B = r := ⟨_, rfl⟩
      obtain ⟨od, hod⟩ : ∃ od, q % 2 = od := ⟨_, rfl⟩
      obtain ⟨cc, hcc⟩ : ∃ cc, cmpv (r + r) Bn = cc := ⟨_, rfl⟩
      rw [hBn, hre] at m1 hR1 hR2
      rw [hqe, hod] at hR1 hR2
      rw [hqe] at hq qb
      rw [hre] at hr m0
      have od2 : od = 0 ∨ od = 1 := by omega
      have hbb : big 400000 + big 400000 ≤ big 1000000 := by
        have e1 : big 400000 ≤ big 500000 := QC.big_mono (by decide)
        have e2 : big 500000 + big 500000 ≤ big 1000000 := by
          rw [show (1000000 : Nat) = 500000 + 500000 by decide, big_add]
          have : 2 ≤ big 500000 := Nat.le_trans (show 2 ≤ big 3 by rw [big3]; decide) (QC.big_mono (by decide))
          have := Nat.mul_le_mul_right (big 500000) this
          omega
        omega
      have AD : Hid (∀ (W : World) (u v : Value), ZV W u r → ZV W v r → Calls Tryd.prog 41 #[u, v] W (RetZ W (r + r))) := fun W u v h1 h2 => ZAdd_c u v r r W h1 h2 (by omega) (by omega)
      have AB : Hid (∀ (W : World) (v : Value), ZV W v B → Calls Tryd.prog 42 #[v] W (RetZ0 W Bn)) := fun W v h => by
        rw [← hBn]
        exact ZAbs_c v B W h
      have CM : Hid (∀ (W : World) (u v : Value), ZV W u (r + r) → ZV W v Bn → Calls Tryd.prog 40 #[u, v] W fun e w' => e = .returned (.int .i64 cc) ∧ Below W.heap.size W w') := fun W u v h1 h2 => by
        rw [← hcc]
        exact ZCmp_c u v _ _ W h1 h2 (by omega) (by omega)
      have NN : Hid (∀ W, Calls Tryd.prog 43 #[.int .i64 2] W (RetZ W 2)) := fun W => N_c 2 (by decide) (by decide) W
      have DZ2 : Hid (∀ W va vb, ZV W va q → ZV W vb 2 → Calls Tryd.prog 39 #[va, vb] W (RetZZ W (q / 2) od)) := fun W va vb h1 h2 => by
        rw [← hod]
        exact ZDiv_c va vb _ _ W h1 h2 qb (Nat.lt_of_lt_of_le (show (2 : Int).natAbs < big 3 by rw [big3]; decide) (QC.big_mono (by decide))) (by decide)
      have SO : Hid (∀ W va, ZV W va od → Calls Tryd.prog 44 #[va] W fun e w' => e = .returned (.int .i64 od) ∧ Below W.heap.size W w') := fun W va h => by
        have h1 := ZSign_c va _ W h (Nat.lt_of_lt_of_le (show od.natAbs < big 3 by rw [big3]; omega) (QC.big_mono (by decide)))
        have h2 : cmpv od 0 = od := by rcases od2 with h | h <;> subst h <;> decide
        rwa [h2] at h1
      have SU : Hid (∀ (W : World) (u v : Value), ZV W u r → ZV W v Bn → Calls Tryd.prog 45 #[u, v] W (RetZ W (r - Bn))) := fun W u v h1 h2 => ZSub_c u v r Bn W h1 h2 (by omega) (by omega)
      have Rb : R.natAbs ≤ B.natAbs := by
        by_cases k : 2 * r > Bn ∨ 2 * r = Bn ∧ od > 0
        · have := hR1 k; omega
        · have := hR2 k; omega
      have SR : Hid (∀ W va, ZV W va R → Calls Tryd.prog 44 #[va] W fun e w' => e = .returned (.int .i64 (cmpv R 0)) ∧ Below W.heap.size W w') := fun W va h => ZSign_c va _ W h (by omega)
      have sR : (R = 0 ∧ cmpv R 0 = 0 ∧ rm = rx sx 0) ∨ ((cmpv R 0 == 0) = false ∧ ∃ l, ∀ (W : World) (b : Bool) (A : Option Addr) (n c : Nat), ZL W b A n c R → Calls Tryd.prog 48 #[.agg #[.bool b, .slice A n c, .int .i64 t], .int .i64 0, .int .i64 0] W fun e w' => e = .returned (.tuple #[.int .u64 rm, .bool l]) ∧ Below W.heap.size W w') := by
        by_cases k : R = 0
        · exact .inl ⟨k, by rw [k]; decide, hR3 k⟩
        · right
          refine ⟨?_, ?_⟩
          · rcases Int.lt_or_le R 0 with h | h
            · rw [Z.cmpv_lt h]; decide
            · rw [Z.cmpv_gt (show 0 < R by omega)]; decide
          · obtain ⟨l, hl⟩ := RO.out rm R t rfl hR4 k
            exact ⟨l, fun W b A n c hz => hl W _ (RetS.qs hz (Nat.lt_of_le_of_lt Rb a2) a3 (by have h9 := a4; rw [Nat.max_self] at h9; exact h9) rfl)⟩
      have kk : (R = r - Bn ∧ cc = 1) ∨ (R = r - Bn ∧ cc = 0 ∧ od = 1) ∨ (R = r ∧ cc = 0 ∧ od = 0) ∨ (R = r ∧ cc = -1) := by
        rcases Int.lt_trichotomy (r + r) Bn with h | h | h
        · rw [Z.cmpv_lt h] at hcc
          exact .inr (.inr (.inr ⟨hR2 (by omega), hcc.symm⟩))
        · rw [Z.cmpv_eq h] at hcc
          rcases od2 with k | k
          · exact .inr (.inr (.inl ⟨hR2 (by omega), hcc.symm, k⟩))
          · exact .inr (.inl ⟨hR1 (by omega), hcc.symm, k⟩)
        · rw [Z.cmpv_gt h] at hcc
          exact .inl ⟨hR1 (by omega), hcc.symm⟩
      have HG4 : Hid (w.heap.size ≤ g3 + 1) := Nat.le_succ_of_le SZ4
      obtain ⟨we, hwe⟩ : ∃ we, we = WA := ⟨_, rfl⟩
      have KB : Hid (∀ W, Below we.heap.size we W → ((W.cell? ⟨g3 + 1, 0, none⟩ = some (.bool br) ∧ W.cell? ⟨g3 + 1, 1, none⟩ = some (.slice Ar nr cr)) ∧ (W.cell? ⟨g2, 0, none⟩ = some (.bool bb) ∧ W.cell? ⟨g2, 1, none⟩ = some (.slice Ab nb cb)) ∧ (W.cell? ⟨g3, 0, none⟩ = some (.bool bq) ∧ W.cell? ⟨g3, 1, none⟩ = some (.slice Aq nq cq))) ∧ Below w.heap.size w W) := fun W h => by
        rw [hwe] at h
        have h2 := N2.below h N2.lt
        have h3 := N3.below h N3.lt
        have h4 := N4.below h N4.lt
        exact ⟨⟨⟨h4.at_ 0 rfl, h4.at_ 1 rfl⟩, ⟨h2.at_ 0 rfl, h2.at_ 1 rfl⟩, ⟨h3.at_ 0 rfl, h3.at_ 1 rfl⟩⟩, D.out.trans (h.mono D.out.size)⟩
      have FG : Hid (∀ W, Below we.heap.size we W → Blk W (g3 + 1) 57 #[.bool br, .slice Ar nr cr]) := fun W h => by
        rw [hwe] at h
        exact N4.below h N4.lt
      have VR : Hid (∀ W, Below we.heap.size we W → ZL W br Ar nr cr r) := fun W h => by
        rw [hwe] at h
        exact hr.below h
      have VB : Hid (∀ W, Below we.heap.size we W → ZV W (.agg #[.bool bb, .slice Ab nb cb]) B) := fun W h => by
        rw [hwe] at h
        exact (hB.below h).v
      have VQ0 : Hid (∀ W, Below we.heap.size we W → ZV W (.agg #[.bool bq, .slice Aq nq cq]) q) := fun W h => by
        rw [hwe] at h
        exact (hq.below h).v
      have D : Hid (Below we.heap.size we WA.drew) := by rw [hwe]; exact (Below.refl _ _).drew
      clear hwe N2 N3 N4 hr hB hq B0 m0 m1 hR1 hR2 hR3 hR4 bB qb hBn hqe hre hod hcc hbb Rb a1 a2 a3 a4 a5 a6 RP RO BG HT0
      (refine wp_region_L (S := fun w' => (w'.cell? ⟨g3 + 1, 0, none⟩ = some (.bool br) ∧ w'.cell? ⟨g3 + 1, 1, none⟩ = some (.slice Ar nr cr)) ∧ (w'.cell? ⟨g2, 0, none⟩ = some (.bool bb) ∧ w'.cell? ⟨g2, 1, none⟩ = some (.slice Ab nb cb)) ∧ (w'.cell? ⟨g3, 0, none⟩ = some (.bool bq) ∧ w'.cell? ⟨g3, 1, none⟩ = some (.slice Aq nq cq))) (nl := 1000000) (by kernel_rfl) ?_ (fun hHeld => ?_); focus (exact (KB.out _ D.out).1))
      (refine wpAnyL_take (i := 0) (oi := _) (v := ?_) rfl (by kernel_rfl) (by kernel_rfl) (by kernel_rfl) (fun _ _ _ h => h) (Or.inl ⟨by first | rfl | kernel_rfl, ?hy1⟩) (by assumption) ?rs1; (case hy1 => (intro w hSw; (try dsimp only at hSw); go_simp; first | done | with_reducible rfl)); case' rs1 => (simp only [List.getElem_toArray, List.getElem_cons_zero, List.getElem_cons_succ, Act.put, List.setIfInBounds_toArray, List.set_cons_zero, List.set_cons_succ])); (refine wpAnyL_take (i := 1) (oi := _) (v := ?_) rfl (by kernel_rfl) (by kernel_rfl) (by kernel_rfl) (fun _ _ _ h => h) (Or.inl ⟨by first | rfl | kernel_rfl, ?hy2⟩) (by assumption) ?rs2; (case hy2 => (intro w hSw; (try dsimp only at hSw); go_simp; first | done | with_reducible rfl)); case' rs2 => (simp only [List.getElem_toArray, List.getElem_cons_zero, List.getElem_cons_succ, Act.put, List.setIfInBounds_toArray, List.set_cons_zero, List.set_cons_succ])); (refine wpAnyL_take (i := 3) (oi := _) (v := ?_) rfl (by kernel_rfl) (by kernel_rfl) (by kernel_rfl) (fun _ _ _ h => h) (Or.inl ⟨by first | rfl | kernel_rfl, ?hy3⟩) (by assumption) ?rs3; (case hy3 => (intro w hSw; (try dsimp only at hSw); go_simp; first | done | with_reducible rfl)); case' rs3 => (simp only [List.getElem_toArray, List.getElem_cons_zero, List.getElem_cons_succ, Act.put, List.setIfInBounds_toArray, List.set_cons_zero, List.set_cons_succ])); skip
      (refine wpAnyL_one (i := 2) (o := _) (by kernel_rfl) rfl (fun K hK => ?_); clear hHeld; simp only [List.getElem_toArray, List.getElem_cons_zero, List.getElem_cons_succ]; go_simp; (go_at_call 41; (with_reducible refine (AD.out _ _ _ (VR.out _ D.out).v (VR.out _ D.out).v).mono ?_); rintro e w6 ⟨_, rfl, ⟨b6, A6, n6, c6, rfl, h6⟩, hb6⟩; have h6 := Lib.hid h6.v; have D := Lib.hid (D.out.trans (hb6.mono D.out.size)); clear hb6); refine hK.out _ _ ?_ (fun hHeld => ?_); focus (intro _; exact (KB.out _ D.out).1)); have hHeld := hHeld (by decide); clear hK K; (try simp only [Act.put, List.setIfInBounds_toArray, List.set_cons_zero, List.set_cons_succ])
      (refine wpAnyL_one (i := 4) (o := _) (by kernel_rfl) rfl (fun K hK => ?_); clear hHeld; simp only [List.getElem_toArray, List.getElem_cons_zero, List.getElem_cons_succ]; go_simp; (go_at_call 42; (with_reducible refine (AB.out _ _ (VB.out _ D.out)).mono ?_); rintro e w7 ⟨_, rfl, h7, hb7⟩; obtain ⟨b7, A7, n7, c7, rfl, h7⟩ := h7; have h6 := Lib.hid (zv_below h6.out hb7); have h7 := Lib.hid h7.v; have D := Lib.hid (D.out.trans (hb7.mono D.out.size)); clear hb7); refine hK.out _ _ ?_ (fun hHeld => ?_); focus (intro _; exact (KB.out _ D.out).1)); have hHeld := hHeld (by decide); clear hK K; (try simp only [Act.put, List.setIfInBounds_toArray, List.set_cons_zero, List.set_cons_succ])
      (refine wpAnyL_one (i := 5) (o := _) (by kernel_rfl) rfl (fun K hK => ?_); clear hHeld; simp only [List.getElem_toArray, List.getElem_cons_zero, List.getElem_cons_succ]; go_simp; (go_at_call 40; (with_reducible refine (CM.out _ _ _ h6.out h7.out).mono ?_); rintro e wk ⟨rfl, hb8⟩; have D := Lib.hid (D.out.trans (hb8.mono D.out.size)); clear hb8 h6 h7); refine hK.out _ _ ?_ (fun hHeld => ?_); focus (intro _; exact (KB.out _ D.out).1)); have hHeld := hHeld (by decide); clear hK K; (try simp only [Act.put, List.setIfInBounds_toArray, List.set_cons_zero, List.set_cons_succ])
      (refine wpAnyL_take (i := 6) (oi := _) (v := ?_) rfl (by kernel_rfl) (by kernel_rfl) (by kernel_rfl) (fun _ _ _ h => h) (Or.inl ⟨by first | rfl | kernel_rfl, ?hy4⟩) (by assumption) ?rs4; (case hy4 => (intro w hSw; (try dsimp only at hSw); go_simp; first | done | with_reducible rfl)); case' rs4 => (simp only [List.getElem_toArray, List.getElem_cons_zero, List.getElem_cons_succ, Act.put, List.setIfInBounds_toArray, List.set_cons_zero, List.set_cons_succ])); skip
      refine wpAnyL_done (by kernel_rfl) ?_ _
      go_upto_region 8 with fail
      obtain ⟨wf, hwf⟩ : ∃ wf, wf = wk := ⟨_, rfl⟩
      have KB3 : Hid (∀ W, Below wf.heap.size wf W → Below we.heap.size we W) := fun W hb => by
        rw [hwf] at hb
        exact D.out.trans (hb.mono D.out.size)
      have D5 : Below wf.heap.size wf wk := by rw [hwf]; exact Below.refl _ _
      clear hwf D AD CM
      go_cut [11, 12] (fun s11 s12 wx => QD wf wx s11 s12 (q / 2) od)
      case first =>
        have KQ : Hid (∀ W, Below wf.heap.size wf W → W.cell? ⟨g3, 0, none⟩ = some (.bool bq) ∧ W.cell? ⟨g3, 1, none⟩ = some (.slice Aq nq cq)) := fun W h => (KB.out W (KB3.out W h)).1.2.2
        have HP := NN
        have DZ := DZ2
        have VQ : Hid (∀ W, Below wf.heap.size wf W → ZV W (.agg #[.bool bq, .slice Aq nq cq]) q) := fun W h => VQ0.out W (KB3.out W h)
        clear KB KB3 VQ0 VR VB NN DZ2 SO SU SR FG AB MX SG0 sR kk HG4 od2
        have D := D5.drew
        (refine wp_region_L (S := fun w' => w'.cell? ⟨g3, 0, none⟩ = some (.bool bq) ∧ w'.cell? ⟨g3, 1, none⟩ = some (.slice Aq nq cq)) (nl := 1000000) (by kernel_rfl) ?_ (fun hHeld => ?_); focus (exact KQ.out _ D))
        (refine wpAnyL_take (i := 0) (oi := _) (v := ?_) rfl (by kernel_rfl) (by kernel_rfl) (by kernel_rfl) (fun _ _ _ h => h) (Or.inl ⟨by first | rfl | kernel_rfl, ?hy5⟩) (by assumption) ?rs5; (case hy5 => (intro w hSw; (try dsimp only at hSw); go_simp; first | done | with_reducible rfl)); case' rs5 => (simp only [List.getElem_toArray, List.getElem_cons_zero, List.getElem_cons_succ, Act.put, List.setIfInBounds_toArray, List.set_cons_zero, List.set_cons_succ])); skip
        refine wpAnyL_three (i := 1) (j := 6) (k := 7) (oi := _) (oj := _) (ok := _) (by kernel_rfl) rfl rfl rfl (fun K hK => ?_) (fun K hK => ?_) (fun K hK => ?_)
        · as_aux_lemma =>
            (clear hHeld; simp only [List.getElem_toArray, List.getElem_cons_zero, List.getElem_cons_succ]; go_simp; (go_at_call 43; (with_reducible refine (HP.out _).mono ?_); rintro e w3 ⟨_, rfl, ⟨b1, A1, n1, c1, rfl, hp0⟩, hb⟩; have hp := hp0.zl; have D := D.trans (hb.mono D.size)); refine hK.out _ _ ?_ (fun hHeld => ?_); focus (intro _; exact KQ.out _ D)); have hHeld := hHeld (by decide); clear hK K; (try simp only [Act.put, List.setIfInBounds_toArray, List.set_cons_zero, List.set_cons_succ])
            refine wpAnyL_three (i := 2) (j := 6) (k := 7) (oi := _) (oj := _) (ok := _) (by kernel_rfl) rfl rfl rfl (fun K hK => ?_) (fun K hK => ?_) (fun K hK => ?_)
            · as_aux_lemma =>
                (clear hHeld; simp only [List.getElem_toArray, List.getElem_cons_zero, List.getElem_cons_succ]; go_simp; (go_at_call 39; (with_reducible refine (DZ.out _ _ _ (VQ.out _ D) hp.v).mono ?_); rintro e w4 ⟨_, _, rfl, ⟨bq, Aq, nq, cq, rfl, hq⟩, ⟨br', Ar, nr, cr, rfl, hr⟩, hb⟩; have D := D.trans (hb.mono D.size)); refine hK.out _ _ ?_ (fun hHeld => ?_); focus (intro _; exact KQ.out _ D)); have hHeld := hHeld (by decide); clear hK K; (try simp only [Act.put, List.setIfInBounds_toArray, List.set_cons_zero, List.set_cons_succ])
                (refine wpAnyL_take (i := 3) (oi := _) (v := ?_) rfl (by kernel_rfl) (by kernel_rfl) (by kernel_rfl) (fun _ _ _ h => h) (Or.inl ⟨by first | rfl | kernel_rfl, ?hy6⟩) (by assumption) ?rs6; (case hy6 => (intro w hSw; (try dsimp only at hSw); go_simp; first | done | with_reducible rfl)); case' rs6 => (simp only [List.getElem_toArray, List.getElem_cons_zero, List.getElem_cons_succ, Act.put, List.setIfInBounds_toArray, List.set_cons_zero, List.set_cons_succ])); (refine wpAnyL_take (i := 4) (oi := _) (v := ?_) rfl (by kernel_rfl) (by kernel_rfl) (by kernel_rfl) (fun _ _ _ h => h) (Or.inl ⟨by first | rfl | kernel_rfl, ?hy7⟩) (by assumption) ?rs7; (case hy7 => (intro w hSw; (try dsimp only at hSw); go_simp; first | done | with_reducible rfl)); case' rs7 => (simp only [List.getElem_toArray, List.getElem_cons_zero, List.getElem_cons_succ, Act.put, List.setIfInBounds_toArray, List.set_cons_zero, List.set_cons_succ])); (refine wpAnyL_take (i := 5) (oi := _) (v := ?_) rfl (by kernel_rfl) (by kernel_rfl) (by kernel_rfl) (fun _ _ _ h => h) (Or.inl ⟨by first | rfl | kernel_rfl, ?hy8⟩) (by assumption) ?rs8; (case hy8 => (intro w hSw; (try dsimp only at hSw); go_simp; first | done | with_reducible rfl)); case' rs8 => (simp only [List.getElem_toArray, List.getElem_cons_zero, List.getElem_cons_succ, Act.put, List.setIfInBounds_toArray, List.set_cons_zero, List.set_cons_succ])); skip
                refine wpAnyL_two (i := 6) (j := 7) (oi := _) (oj := _) (by kernel_rfl) rfl rfl (fun K hK => ?_) (fun K hK => ?_)
                · as_aux_lemma =>
                    (clear hHeld; simp only [List.getElem_toArray, List.getElem_cons_zero, List.getElem_cons_succ]; go_simp; refine hK.out _ _ ?_ (fun hHeld => ?_); focus (intro _; exact KQ.out _ (D.alloc D.size _))); have hHeld := hHeld (by decide); clear hK K; (try simp only [Act.put, List.setIfInBounds_toArray, List.set_cons_zero, List.set_cons_succ])
                    have G' := Blk.new w4 57 #[.bool false, .slice none 0 0]
                    have Gn : wf.heap.size ≤ w4.heap.size := D.size
                    have hq := (hq.alloc (.cells #[.bool false, .slice none 0 0] 57))
                    have hr := (hr.alloc (.cells #[.bool false, .slice none 0 0] 57))
                    have D1 : Below wf.heap.size wf (w4.alloc (.cells #[.bool false, .slice none 0 0] 57)) := D.alloc D.size (.cells #[.bool false, .slice none 0 0] 57)
                    clear D
                    have D := D1
                    clear D1
                    obtain ⟨w8, hw8⟩ : ∃ w8, w4.alloc (.cells #[.bool false, .slice none 0 0] 57) = w8 := ⟨_, rfl⟩
                    obtain ⟨Gg, hGg⟩ : ∃ Gg, w4.heap.size = Gg := ⟨_, rfl⟩
                    rw [hw8] at G' D hq hr hHeld ⊢
                    rw [hGg] at G' Gn ⊢
                    have G := G'
                    clear G' hw8 hGg
                    (refine wpAnyL_one (i := 7) (o := _) (by kernel_rfl) rfl (fun K hK => ?_); clear hHeld; simp only [List.getElem_toArray, List.getElem_cons_zero, List.getElem_cons_succ]; go_simp; refine hK.out _ _ ?_ (fun hHeld => ?_); focus (intro _; exact KQ.out _ (D.alloc D.size _))); have hHeld := hHeld (by decide); clear hK K; (try simp only [Act.put, List.setIfInBounds_toArray, List.set_cons_zero, List.set_cons_succ])
                    have H' := Blk.new w8 57 #[.bool false, .slice none 0 0]
                    have Hn : wf.heap.size ≤ w8.heap.size := D.size
                    have hne : Gg ≠ w8.heap.size := Nat.ne_of_lt G.lt
                    have G := G.alloc (.cells #[.bool false, .slice none 0 0] 57)
                    have hq := (hq.alloc (.cells #[.bool false, .slice none 0 0] 57))
                    have hr := (hr.alloc (.cells #[.bool false, .slice none 0 0] 57))
                    have D1 : Below wf.heap.size wf (w8.alloc (.cells #[.bool false, .slice none 0 0] 57)) := D.alloc D.size (.cells #[.bool false, .slice none 0 0] 57)
                    clear D
                    have D := D1
                    clear D1
                    obtain ⟨w9, hw9⟩ : ∃ w9, w8.alloc (.cells #[.bool false, .slice none 0 0] 57) = w9 := ⟨_, rfl⟩
                    obtain ⟨Hg, hHg⟩ : ∃ Hg, w8.heap.size = Hg := ⟨_, rfl⟩
                    rw [hw9] at H' D G hq hr hHeld ⊢
                    rw [hHg] at H' Hn hne ⊢
                    have H := H'
                    clear H' hw9 hHg
                    have X := Lib.hid (qd_set D Gn Hn hne G H hq hr)
                    have D10 := below_set2 D Gn (.bool bq) (.slice Aq nq cq)
                    have D11 := below_set2 D10 Hn (.bool br') (.slice Ar nr cr)
                    have H1 := H.far2 (hne).symm (.bool bq) (.slice Aq nq cq)
                    have g0 := G.at_ 0 rfl; have g1 := G.at_ 1 rfl; have f0 := G.frozen 0; have f1 := G.frozen 1; have h0 := H1.at_ 0 rfl; have h1 := H1.at_ 1 rfl; have f2 := H1.frozen 0; have f3 := H1.frozen 1
                    have D10 := Lib.hid D10; have D11 := Lib.hid D11
                    clear G H H1 D hq hr hp
                    (refine wpAnyL_one (i := 8) (o := _) (by kernel_rfl) rfl (fun K hK => ?_); clear hHeld; simp only [List.getElem_toArray, List.getElem_cons_zero, List.getElem_cons_succ]; go_simp; refine hK.out _ _ ?_ (fun hHeld => ?_); focus (intro _; exact KQ.out _ D10.out)); have hHeld := hHeld (by decide); clear hK K; (try simp only [Act.put, List.setIfInBounds_toArray, List.set_cons_zero, List.set_cons_succ])
                    (refine wpAnyL_one (i := 9) (o := _) (by kernel_rfl) rfl (fun K hK => ?_); clear hHeld; simp only [List.getElem_toArray, List.getElem_cons_zero, List.getElem_cons_succ]; go_simp; refine hK.out _ _ ?_ (fun hHeld => ?_); focus (intro _; exact KQ.out _ D11.out)); have hHeld := hHeld (by decide); clear hK K; (try simp only [Act.put, List.setIfInBounds_toArray, List.set_cons_zero, List.set_cons_succ])
                    refine wpAnyL_done (by kernel_rfl) ?_ _
                    go_wp2
                    go_meet
                    exact X.out
                · as_aux_lemma =>
                    (clear hHeld; simp only [List.getElem_toArray, List.getElem_cons_zero, List.getElem_cons_succ]; go_simp; refine hK.out _ _ ?_ (fun hHeld => ?_); focus (intro _; exact KQ.out _ (D.alloc D.size _))); have hHeld := hHeld (by decide); clear hK K; (try simp only [Act.put, List.setIfInBounds_toArray, List.set_cons_zero, List.set_cons_succ])
                    have H' := Blk.new w4 57 #[.bool false, .slice none 0 0]
                    have Hn : wf.heap.size ≤ w4.heap.size := D.size
                    have hq := (hq.alloc (.cells #[.bool false, .slice none 0 0] 57))
                    have hr := (hr.alloc (.cells #[.bool false, .slice none 0 0] 57))
                    have D1 : Below wf.heap.size wf (w4.alloc (.cells #[.bool false, .slice none 0 0] 57)) := D.alloc D.size (.cells #[.bool false, .slice none 0 0] 57)
                    clear D
                    have D := D1
                    clear D1
                    obtain ⟨w9, hw9⟩ : ∃ w9, w4.alloc (.cells #[.bool false, .slice none 0 0] 57) = w9 := ⟨_, rfl⟩
                    obtain ⟨Hg, hHg⟩ : ∃ Hg, w4.heap.size = Hg := ⟨_, rfl⟩
                    rw [hw9] at H' D hq hr hHeld ⊢
                    rw [hHg] at H' Hn ⊢
                    have H := H'
                    clear H' hw9 hHg
                    (refine wpAnyL_one (i := 6) (o := _) (by kernel_rfl) rfl (fun K hK => ?_); clear hHeld; simp only [List.getElem_toArray, List.getElem_cons_zero, List.getElem_cons_succ]; go_simp; refine hK.out _ _ ?_ (fun hHeld => ?_); focus (intro _; exact KQ.out _ (D.alloc D.size _))); have hHeld := hHeld (by decide); clear hK K; (try simp only [Act.put, List.setIfInBounds_toArray, List.set_cons_zero, List.set_cons_succ])
                    have G' := Blk.new w9 57 #[.bool false, .slice none 0 0]
                    have Gn : wf.heap.size ≤ w9.heap.size := D.size
                    have hne : Hg ≠ w9.heap.size := Nat.ne_of_lt H.lt
                    have H := H.alloc (.cells #[.bool false, .slice none 0 0] 57)
                    have hq := (hq.alloc (.cells #[.bool false, .slice none 0 0] 57))
                    have hr := (hr.alloc (.cells #[.bool false, .slice none 0 0] 57))
                    have D1 : Below wf.heap.size wf (w9.alloc (.cells #[.bool false, .slice none 0 0] 57)) := D.alloc D.size (.cells #[.bool false, .slice none 0 0] 57)
                    clear D
                    have D := D1
                    clear D1
                    obtain ⟨w8, hw8⟩ : ∃ w8, w9.alloc (.cells #[.bool false, .slice none 0 0] 57) = w8 := ⟨_, rfl⟩
                    obtain ⟨Gg, hGg⟩ : ∃ Gg, w9.heap.size = Gg := ⟨_, rfl⟩
                    rw [hw8] at G' D H hq hr hHeld ⊢
                    rw [hGg] at G' Gn hne ⊢
                    have G := G'
                    clear G' hw8 hGg
                    have X := Lib.hid (qd_set D Gn Hn hne.symm G H hq hr)
                    have D10 := below_set2 D Gn (.bool bq) (.slice Aq nq cq)
                    have D11 := below_set2 D10 Hn (.bool br') (.slice Ar nr cr)
                    have H1 := H.far2 (hne.symm).symm (.bool bq) (.slice Aq nq cq)
                    have g0 := G.at_ 0 rfl; have g1 := G.at_ 1 rfl; have f0 := G.frozen 0; have f1 := G.frozen 1; have h0 := H1.at_ 0 rfl; have h1 := H1.at_ 1 rfl; have f2 := H1.frozen 0; have f3 := H1.frozen 1
                    have D10 := Lib.hid D10; have D11 := Lib.hid D11
                    clear G H H1 D hq hr hp
                    (refine wpAnyL_one (i := 8) (o := _) (by kernel_rfl) rfl (fun K hK => ?_); clear hHeld; simp only [List.getElem_toArray, List.getElem_cons_zero, List.getElem_cons_succ]; go_simp; refine hK.out _ _ ?_ (fun hHeld => ?_); focus (intro _; exact KQ.out _ D10.out)); have hHeld := hHeld (by decide); clear hK K; (try simp only [Act.put, List.setIfInBounds_toArray, List.set_cons_zero, List.set_cons_succ])
                    (refine wpAnyL_one (i := 9) (o := _) (by kernel_rfl) rfl (fun K hK => ?_); clear hHeld; simp only [List.getElem_toArray, List.getElem_cons_zero, List.getElem_cons_succ]; go_simp; refine hK.out _ _ ?_ (fun hHeld => ?_); focus (intro _; exact KQ.out _ D11.out)); have hHeld := hHeld (by decide); clear hK K; (try simp only [Act.put, List.setIfInBounds_toArray, List.set_cons_zero, List.set_cons_succ])
                    refine wpAnyL_done (by kernel_rfl) ?_ _
                    go_wp2
                    go_meet
                    exact X.out
            · as_aux_lemma =>
                (clear hHeld; simp only [List.getElem_toArray, List.getElem_cons_zero, List.getElem_cons_succ]; go_simp; refine hK.out _ _ ?_ (fun hHeld => ?_); focus (intro _; exact KQ.out _ (D.alloc D.size _))); have hHeld := hHeld (by decide); clear hK K; (try simp only [Act.put, List.setIfInBounds_toArray, List.set_cons_zero, List.set_cons_succ])
                have G' := Blk.new w3 57 #[.bool false, .slice none 0 0]
                have Gn : wf.heap.size ≤ w3.heap.size := D.size
                have hp := (hp.alloc (.cells #[.bool false, .slice none 0 0] 57))
                have D1 : Below wf.heap.size wf (w3.alloc (.cells #[.bool false, .slice none 0 0] 57)) := D.alloc D.size (.cells #[.bool false, .slice none 0 0] 57)
                clear D
                have D := D1
                clear D1
                obtain ⟨w8, hw8⟩ : ∃ w8, w3.alloc (.cells #[.bool false, .slice none 0 0] 57) = w8 := ⟨_, rfl⟩
                obtain ⟨Gg, hGg⟩ : ∃ Gg, w3.heap.size = Gg := ⟨_, rfl⟩
                rw [hw8] at G' D hp hHeld ⊢
                rw [hGg] at G' Gn ⊢
                have G := G'
                clear G' hw8 hGg
                refine wpAnyL_two (i := 2) (j := 7) (oi := _) (oj := _) (by kernel_rfl) rfl rfl (fun K hK => ?_) (fun K hK => ?_)
                · as_aux_lemma =>
                    (clear hHeld; simp only [List.getElem_toArray, List.getElem_cons_zero, List.getElem_cons_succ]; go_simp; (go_at_call 39; (with_reducible refine (DZ.out _ _ _ (VQ.out _ D) hp.v).mono ?_); rintro e w4 ⟨_, _, rfl, ⟨bq, Aq, nq, cq, rfl, hq⟩, ⟨br', Ar, nr, cr, rfl, hr⟩, hb⟩; have D := D.trans (hb.mono D.size); have G := G.below hb G.lt); refine hK.out _ _ ?_ (fun hHeld => ?_); focus (intro _; exact KQ.out _ D)); have hHeld := hHeld (by decide); clear hK K; (try simp only [Act.put, List.setIfInBounds_toArray, List.set_cons_zero, List.set_cons_succ])
                    (refine wpAnyL_take (i := 3) (oi := _) (v := ?_) rfl (by kernel_rfl) (by kernel_rfl) (by kernel_rfl) (fun _ _ _ h => h) (Or.inl ⟨by first | rfl | kernel_rfl, ?hy9⟩) (by assumption) ?rs9; (case hy9 => (intro w hSw; (try dsimp only at hSw); go_simp; first | done | with_reducible rfl)); case' rs9 => (simp only [List.getElem_toArray, List.getElem_cons_zero, List.getElem_cons_succ, Act.put, List.setIfInBounds_toArray, List.set_cons_zero, List.set_cons_succ])); (refine wpAnyL_take (i := 4) (oi := _) (v := ?_) rfl (by kernel_rfl) (by kernel_rfl) (by kernel_rfl) (fun _ _ _ h => h) (Or.inl ⟨by first | rfl | kernel_rfl, ?hy10⟩) (by assumption) ?rs10; (case hy10 => (intro w hSw; (try dsimp only at hSw); go_simp; first | done | with_reducible rfl)); case' rs10 => (simp only [List.getElem_toArray, List.getElem_cons_zero, List.getElem_cons_succ, Act.put, List.setIfInBounds_toArray, List.set_cons_zero, List.set_cons_succ])); (refine wpAnyL_take (i := 5) (oi := _) (v := ?_) rfl (by kernel_rfl) (by kernel_rfl) (by kernel_rfl) (fun _ _ _ h => h) (Or.inl ⟨by first | rfl | kernel_rfl, ?hy11⟩) (by assumption) ?rs11; (case hy11 => (intro w hSw; (try dsimp only at hSw); go_simp; first | done | with_reducible rfl)); case' rs11 => (simp only [List.getElem_toArray, List.getElem_cons_zero, List.getElem_cons_succ, Act.put, List.setIfInBounds_toArray, List.set_cons_zero, List.set_cons_succ])); skip
                    (refine wpAnyL_one (i := 7) (o := _) (by kernel_rfl) rfl (fun K hK => ?_); clear hHeld; simp only [List.getElem_toArray, List.getElem_cons_zero, List.getElem_cons_succ]; go_simp; refine hK.out _ _ ?_ (fun hHeld => ?_); focus (intro _; exact KQ.out _ (D.alloc D.size _))); have hHeld := hHeld (by decide); clear hK K; (try simp only [Act.put, List.setIfInBounds_toArray, List.set_cons_zero, List.set_cons_succ])
                    have H' := Blk.new w4 57 #[.bool false, .slice none 0 0]
                    have Hn : wf.heap.size ≤ w4.heap.size := D.size
                    have hne : Gg ≠ w4.heap.size := Nat.ne_of_lt G.lt
                    have G := G.alloc (.cells #[.bool false, .slice none 0 0] 57)
                    have hq := (hq.alloc (.cells #[.bool false, .slice none 0 0] 57))
                    have hr := (hr.alloc (.cells #[.bool false, .slice none 0 0] 57))
                    have D1 : Below wf.heap.size wf (w4.alloc (.cells #[.bool false, .slice none 0 0] 57)) := D.alloc D.size (.cells #[.bool false, .slice none 0 0] 57)
                    clear D
                    have D := D1
                    clear D1
                    obtain ⟨w9, hw9⟩ : ∃ w9, w4.alloc (.cells #[.bool false, .slice none 0 0] 57) = w9 := ⟨_, rfl⟩
                    obtain ⟨Hg, hHg⟩ : ∃ Hg, w4.heap.size = Hg := ⟨_, rfl⟩
                    rw [hw9] at H' D G hq hr hHeld ⊢
                    rw [hHg] at H' Hn hne ⊢
                    have H := H'
                    clear H' hw9 hHg
                    have X := Lib.hid (qd_set D Gn Hn hne G H hq hr)
                    have D10 := below_set2 D Gn (.bool bq) (.slice Aq nq cq)
                    have D11 := below_set2 D10 Hn (.bool br') (.slice Ar nr cr)
                    have H1 := H.far2 (hne).symm (.bool bq) (.slice Aq nq cq)
                    have g0 := G.at_ 0 rfl; have g1 := G.at_ 1 rfl; have f0 := G.frozen 0; have f1 := G.frozen 1; have h0 := H1.at_ 0 rfl; have h1 := H1.at_ 1 rfl; have f2 := H1.frozen 0; have f3 := H1.frozen 1
                    have D10 := Lib.hid D10; have D11 := Lib.hid D11
                    clear G H H1 D hq hr hp
                    (refine wpAnyL_one (i := 8) (o := _) (by kernel_rfl) rfl (fun K hK => ?_); clear hHeld; simp only [List.getElem_toArray, List.getElem_cons_zero, List.getElem_cons_succ]; go_simp; refine hK.out _ _ ?_ (fun hHeld => ?_); focus (intro _; exact KQ.out _ D10.out)); have hHeld := hHeld (by decide); clear hK K; (try simp only [Act.put, List.setIfInBounds_toArray, List.set_cons_zero, List.set_cons_succ])
                    (refine wpAnyL_one (i := 9) (o := _) (by kernel_rfl) rfl (fun K hK => ?_); clear hHeld; simp only [List.getElem_toArray, List.getElem_cons_zero, List.getElem_cons_succ]; go_simp; refine hK.out _ _ ?_ (fun hHeld => ?_); focus (intro _; exact KQ.out _ D11.out)); have hHeld := hHeld (by decide); clear hK K; (try simp only [Act.put, List.setIfInBounds_toArray, List.set_cons_zero, List.set_cons_succ])
                    refine wpAnyL_done (by kernel_rfl) ?_ _
                    go_wp2
                    go_meet
                    exact X.out
                · as_aux_lemma =>
                    (clear hHeld; simp only [List.getElem_toArray, List.getElem_cons_zero, List.getElem_cons_succ]; go_simp; refine hK.out _ _ ?_ (fun hHeld => ?_); focus (intro _; exact KQ.out _ (D.alloc D.size _))); have hHeld := hHeld (by decide); clear hK K; (try simp only [Act.put, List.setIfInBounds_toArray, List.set_cons_zero, List.set_cons_succ])
                    have H' := Blk.new w8 57 #[.bool false, .slice none 0 0]
                    have Hn : wf.heap.size ≤ w8.heap.size := D.size
                    have hne : Gg ≠ w8.heap.size := Nat.ne_of_lt G.lt
                    have G := G.alloc (.cells #[.bool false, .slice none 0 0] 57)
                    have hp := (hp.alloc (.cells #[.bool false, .slice none 0 0] 57))
                    have D1 : Below wf.heap.size wf (w8.alloc (.cells #[.bool false, .slice none 0 0] 57)) := D.alloc D.size (.cells #[.bool false, .slice none 0 0] 57)
                    clear D
                    have D := D1
                    clear D1
                    obtain ⟨w9, hw9⟩ : ∃ w9, w8.alloc (.cells #[.bool false, .slice none 0 0] 57) = w9 := ⟨_, rfl⟩
                    obtain ⟨Hg, hHg⟩ : ∃ Hg, w8.heap.size = Hg := ⟨_, rfl⟩
                    rw [hw9] at H' D G hp hHeld ⊢
                    rw [hHg] at H' Hn hne ⊢
                    have H := H'
                    clear H' hw9 hHg
                    (refine wpAnyL_one (i := 2) (o := _) (by kernel_rfl) rfl (fun K hK => ?_); clear hHeld; simp only [List.getElem_toArray, List.getElem_cons_zero, List.getElem_cons_succ]; go_simp; (go_at_call 39; (with_reducible refine (DZ.out _ _ _ (VQ.out _ D) hp.v).mono ?_); rintro e w4 ⟨_, _, rfl, ⟨bq, Aq, nq, cq, rfl, hq⟩, ⟨br', Ar, nr, cr, rfl, hr⟩, hb⟩; have D := D.trans (hb.mono D.size); have G := G.below hb G.lt; have H := H.below hb H.lt); refine hK.out _ _ ?_ (fun hHeld => ?_); focus (intro _; exact KQ.out _ D)); have hHeld := hHeld (by decide); clear hK K; (try simp only [Act.put, List.setIfInBounds_toArray, List.set_cons_zero, List.set_cons_succ])
                    (refine wpAnyL_take (i := 3) (oi := _) (v := ?_) rfl (by kernel_rfl) (by kernel_rfl) (by kernel_rfl) (fun _ _ _ h => h) (Or.inl ⟨by first | rfl | kernel_rfl, ?hy12⟩) (by assumption) ?rs12; (case hy12 => (intro w hSw; (try dsimp only at hSw); go_simp; first | done | with_reducible rfl)); case' rs12 => (simp only [List.getElem_toArray, List.getElem_cons_zero, List.getElem_cons_succ, Act.put, List.setIfInBounds_toArray, List.set_cons_zero, List.set_cons_succ])); (refine wpAnyL_take (i := 4) (oi := _) (v := ?_) rfl (by kernel_rfl) (by kernel_rfl) (by kernel_rfl) (fun _ _ _ h => h) (Or.inl ⟨by first | rfl | kernel_rfl, ?hy13⟩) (by assumption) ?rs13; (case hy13 => (intro w hSw; (try dsimp only at hSw); go_simp; first | done | with_reducible rfl)); case' rs13 => (simp only [List.getElem_toArray, List.getElem_cons_zero, List.getElem_cons_succ, Act.put, List.setIfInBounds_toArray, List.set_cons_zero, List.set_cons_succ])); (refine wpAnyL_take (i := 5) (oi := _) (v := ?_) rfl (by kernel_rfl) (by kernel_rfl) (by kernel_rfl) (fun _ _ _ h => h) (Or.inl ⟨by first | rfl | kernel_rfl, ?hy14⟩) (by assumption) ?rs14; (case hy14 => (intro w hSw; (try dsimp only at hSw); go_simp; first | done | with_reducible rfl)); case' rs14 => (simp only [List.getElem_toArray, List.getElem_cons_zero, List.getElem_cons_succ, Act.put, List.setIfInBounds_toArray, List.set_cons_zero, List.set_cons_succ])); skip
                    have X := Lib.hid (qd_set D Gn Hn hne G H hq hr)
                    have D10 := below_set2 D Gn (.bool bq) (.slice Aq nq cq)
                    have D11 := below_set2 D10 Hn (.bool br') (.slice Ar nr cr)
                    have H1 := H.far2 (hne).symm (.bool bq) (.slice Aq nq cq)
                    have g0 := G.at_ 0 rfl; have g1 := G.at_ 1 rfl; have f0 := G.frozen 0; have f1 := G.frozen 1; have h0 := H1.at_ 0 rfl; have h1 := H1.at_ 1 rfl; have f2 := H1.frozen 0; have f3 := H1.frozen 1
                    have D10 := Lib.hid D10; have D11 := Lib.hid D11
                    clear G H H1 D hq hr hp
                    (refine wpAnyL_one (i := 8) (o := _) (by kernel_rfl) rfl (fun K hK => ?_); clear hHeld; simp only [List.getElem_toArray, List.getElem_cons_zero, List.getElem_cons_succ]; go_simp; refine hK.out _ _ ?_ (fun hHeld => ?_); focus (intro _; exact KQ.out _ D10.out)); have hHeld := hHeld (by decide); clear hK K; (try simp only [Act.put, List.setIfInBounds_toArray, List.set_cons_zero, List.set_cons_succ])
                    (refine wpAnyL_one (i := 9) (o := _) (by kernel_rfl) rfl (fun K hK => ?_); clear hHeld; simp only [List.getElem_toArray, List.getElem_cons_zero, List.getElem_cons_succ]; go_simp; refine hK.out _ _ ?_ (fun hHeld => ?_); focus (intro _; exact KQ.out _ D11.out)); have hHeld := hHeld (by decide); clear hK K; (try simp only [Act.put, List.setIfInBounds_toArray, List.set_cons_zero, List.set_cons_succ])
                    refine wpAnyL_done (by kernel_rfl) ?_ _
                    go_wp2
                    go_meet
                    exact X.out
            · as_aux_lemma =>
                (clear hHeld; simp only [List.getElem_toArray, List.getElem_cons_zero, List.getElem_cons_succ]; go_simp; refine hK.out _ _ ?_ (fun hHeld => ?_); focus (intro _; exact KQ.out _ (D.alloc D.size _))); have hHeld := hHeld (by decide); clear hK K; (try simp only [Act.put, List.setIfInBounds_toArray, List.set_cons_zero, List.set_cons_succ])
                have H' := Blk.new w3 57 #[.bool false, .slice none 0 0]
                have Hn : wf.heap.size ≤ w3.heap.size := D.size
                have hp := (hp.alloc (.cells #[.bool false, .slice none 0 0] 57))
                have D1 : Below wf.heap.size wf (w3.alloc (.cells #[.bool false, .slice none 0 0] 57)) := D.alloc D.size (.cells #[.bool false, .slice none 0 0] 57)
                clear D
                have D := D1
                clear D1
                obtain ⟨w9, hw9⟩ : ∃ w9, w3.alloc (.cells #[.bool false, .slice none 0 0] 57) = w9 := ⟨_, rfl⟩
                obtain ⟨Hg, hHg⟩ : ∃ Hg, w3.heap.size = Hg := ⟨_, rfl⟩
                rw [hw9] at H' D hp hHeld ⊢
                rw [hHg] at H' Hn ⊢
                have H := H'
                clear H' hw9 hHg
                refine wpAnyL_two (i := 2) (j := 6) (oi := _) (oj := _) (by kernel_rfl) rfl rfl (fun K hK => ?_) (fun K hK => ?_)
                · as_aux_lemma =>
                    (clear hHeld; simp only [List.getElem_toArray, List.getElem_cons_zero, List.getElem_cons_succ]; go_simp; (go_at_call 39; (with_reducible refine (DZ.out _ _ _ (VQ.out _ D) hp.v).mono ?_); rintro e w4 ⟨_, _, rfl, ⟨bq, Aq, nq, cq, rfl, hq⟩, ⟨br', Ar, nr, cr, rfl, hr⟩, hb⟩; have D := D.trans (hb.mono D.size); have H := H.below hb H.lt); refine hK.out _ _ ?_ (fun hHeld => ?_); focus (intro _; exact KQ.out _ D)); have hHeld := hHeld (by decide); clear hK K; (try simp only [Act.put, List.setIfInBounds_toArray, List.set_cons_zero, List.set_cons_succ])
                    (refine wpAnyL_take (i := 3) (oi := _) (v := ?_) rfl (by kernel_rfl) (by kernel_rfl) (by kernel_rfl) (fun _ _ _ h => h) (Or.inl ⟨by first | rfl | kernel_rfl, ?hy15⟩) (by assumption) ?rs15; (case hy15 => (intro w hSw; (try dsimp only at hSw); go_simp; first | done | with_reducible rfl)); case' rs15 => (simp only [List.getElem_toArray, List.getElem_cons_zero, List.getElem_cons_succ, Act.put, List.setIfInBounds_toArray, List.set_cons_zero, List.set_cons_succ])); (refine wpAnyL_take (i := 4) (oi := _) (v := ?_) rfl (by kernel_rfl) (by kernel_rfl) (by kernel_rfl) (fun _ _ _ h => h) (Or.inl ⟨by first | rfl | kernel_rfl, ?hy16⟩) (by assumption) ?rs16; (case hy16 => (intro w hSw; (try dsimp only at hSw); go_simp; first | done | with_reducible rfl)); case' rs16 => (simp only [List.getElem_toArray, List.getElem_cons_zero, List.getElem_cons_succ, Act.put, List.setIfInBounds_toArray, List.set_cons_zero, List.set_cons_succ])); (refine wpAnyL_take (i := 5) (oi := _) (v := ?_) rfl (by kernel_rfl) (by kernel_rfl) (by kernel_rfl) (fun _ _ _ h => h) (Or.inl ⟨by first | rfl | kernel_rfl, ?hy17⟩) (by assumption) ?rs17; (case hy17 => (intro w hSw; (try dsimp only at hSw); go_simp; first | done | with_reducible rfl)); case' rs17 => (simp only [List.getElem_toArray, List.getElem_cons_zero, List.getElem_cons_succ, Act.put, List.setIfInBounds_toArray, List.set_cons_zero, List.set_cons_succ])); skip
                    (refine wpAnyL_one (i := 6) (o := _) (by kernel_rfl) rfl (fun K hK => ?_); clear hHeld; simp only [List.getElem_toArray, List.getElem_cons_zero, List.getElem_cons_succ]; go_simp; refine hK.out _ _ ?_ (fun hHeld => ?_); focus (intro _; exact KQ.out _ (D.alloc D.size _))); have hHeld := hHeld (by decide); clear hK K; (try simp only [Act.put, List.setIfInBounds_toArray, List.set_cons_zero, List.set_cons_succ])
                    have G' := Blk.new w4 57 #[.bool false, .slice none 0 0]
                    have Gn : wf.heap.size ≤ w4.heap.size := D.size
                    have hne : Hg ≠ w4.heap.size := Nat.ne_of_lt H.lt
                    have H := H.alloc (.cells #[.bool false, .slice none 0 0] 57)
                    have hq := (hq.alloc (.cells #[.bool false, .slice none 0 0] 57))
                    have hr := (hr.alloc (.cells #[.bool false, .slice none 0 0] 57))
                    have D1 : Below wf.heap.size wf (w4.alloc (.cells #[.bool false, .slice none 0 0] 57)) := D.alloc D.size (.cells #[.bool false, .slice none 0 0] 57)
                    clear D
                    have D := D1
                    clear D1
                    obtain ⟨w8, hw8⟩ : ∃ w8, w4.alloc (.cells #[.bool false, .slice none 0 0] 57) = w8 := ⟨_, rfl⟩
                    obtain ⟨Gg, hGg⟩ : ∃ Gg, w4.heap.size = Gg := ⟨_, rfl⟩
                    rw [hw8] at G' D H hq hr hHeld ⊢
                    rw [hGg] at G' Gn hne ⊢
                    have G := G'
                    clear G' hw8 hGg
                    have X := Lib.hid (qd_set D Gn Hn hne.symm G H hq hr)
                    have D10 := below_set2 D Gn (.bool bq) (.slice Aq nq cq)
                    have D11 := below_set2 D10 Hn (.bool br') (.slice Ar nr cr)
                    have H1 := H.far2 (hne.symm).symm (.bool bq) (.slice Aq nq cq)
                    have g0 := G.at_ 0 rfl; have g1 := G.at_ 1 rfl; have f0 := G.frozen 0; have f1 := G.frozen 1; have h0 := H1.at_ 0 rfl; have h1 := H1.at_ 1 rfl; have f2 := H1.frozen 0; have f3 := H1.frozen 1
                    have D10 := Lib.hid D10; have D11 := Lib.hid D11
                    clear G H H1 D hq hr hp
                    (refine wpAnyL_one (i := 8) (o := _) (by kernel_rfl) rfl (fun K hK => ?_); clear hHeld; simp only [List.getElem_toArray, List.getElem_cons_zero, List.getElem_cons_succ]; go_simp; refine hK.out _ _ ?_ (fun hHeld => ?_); focus (intro _; exact KQ.out _ D10.out)); have hHeld := hHeld (by decide); clear hK K; (try simp only [Act.put, List.setIfInBounds_toArray, List.set_cons_zero, List.set_cons_succ])
                    (refine wpAnyL_one (i := 9) (o := _) (by kernel_rfl) rfl (fun K hK => ?_); clear hHeld; simp only [List.getElem_toArray, List.getElem_cons_zero, List.getElem_cons_succ]; go_simp; refine hK.out _ _ ?_ (fun hHeld => ?_); focus (intro _; exact KQ.out _ D11.out)); have hHeld := hHeld (by decide); clear hK K; (try simp only [Act.put, List.setIfInBounds_toArray, List.set_cons_zero, List.set_cons_succ])
                    refine wpAnyL_done (by kernel_rfl) ?_ _
                    go_wp2
                    go_meet
                    exact X.out
                · as_aux_lemma =>
                    (clear hHeld; simp only [List.getElem_toArray, List.getElem_cons_zero, List.getElem_cons_succ]; go_simp; refine hK.out _ _ ?_ (fun hHeld => ?_); focus (intro _; exact KQ.out _ (D.alloc D.size _))); have hHeld := hHeld (by decide); clear hK K; (try simp only [Act.put, List.setIfInBounds_toArray, List.set_cons_zero, List.set_cons_succ])
                    have G' := Blk.new w9 57 #[.bool false, .slice none 0 0]
                    have Gn : wf.heap.size ≤ w9.heap.size := D.size
                    have hne : Hg ≠ w9.heap.size := Nat.ne_of_lt H.lt
                    have H := H.alloc (.cells #[.bool false, .slice none 0 0] 57)
                    have hp := (hp.alloc (.cells #[.bool false, .slice none 0 0] 57))
                    have D1 : Below wf.heap.size wf (w9.alloc (.cells #[.bool false, .slice none 0 0] 57)) := D.alloc D.size (.cells #[.bool false, .slice none 0 0] 57)
                    clear D
                    have D := D1
                    clear D1
                    obtain ⟨w8, hw8⟩ : ∃ w8, w9.alloc (.cells #[.bool false, .slice none 0 0] 57) = w8 := ⟨_, rfl⟩
                    obtain ⟨Gg, hGg⟩ : ∃ Gg, w9.heap.size = Gg := ⟨_, rfl⟩
                    rw [hw8] at G' D H hp hHeld ⊢
                    rw [hGg] at G' Gn hne ⊢
                    have G := G'
                    clear G' hw8 hGg
                    (refine wpAnyL_one (i := 2) (o := _) (by kernel_rfl) rfl (fun K hK => ?_); clear hHeld; simp only [List.getElem_toArray, List.getElem_cons_zero, List.getElem_cons_succ]; go_simp; (go_at_call 39; (with_reducible refine (DZ.out _ _ _ (VQ.out _ D) hp.v).mono ?_); rintro e w4 ⟨_, _, rfl, ⟨bq, Aq, nq, cq, rfl, hq⟩, ⟨br', Ar, nr, cr, rfl, hr⟩, hb⟩; have D := D.trans (hb.mono D.size); have G := G.below hb G.lt; have H := H.below hb H.lt); refine hK.out _ _ ?_ (fun hHeld => ?_); focus (intro _; exact KQ.out _ D)); have hHeld := hHeld (by decide); clear hK K; (try simp only [Act.put, List.setIfInBounds_toArray, List.set_cons_zero, List.set_cons_succ])
                    (refine wpAnyL_take (i := 3) (oi := _) (v := ?_) rfl (by kernel_rfl) (by kernel_rfl) (by kernel_rfl) (fun _ _ _ h => h) (Or.inl ⟨by first | rfl | kernel_rfl, ?hy18⟩) (by assumption) ?rs18; (case hy18 => (intro w hSw; (try dsimp only at hSw); go_simp; first | done | with_reducible rfl)); case' rs18 => (simp only [List.getElem_toArray, List.getElem_cons_zero, List.getElem_cons_succ, Act.put, List.setIfInBounds_toArray, List.set_cons_zero, List.set_cons_succ])); (refine wpAnyL_take (i := 4) (oi := _) (v := ?_) rfl (by kernel_rfl) (by kernel_rfl) (by kernel_rfl) (fun _ _ _ h => h) (Or.inl ⟨by first | rfl | kernel_rfl, ?hy19⟩) (by assumption) ?rs19; (case hy19 => (intro w hSw; (try dsimp only at hSw); go_simp; first | done | with_reducible rfl)); case' rs19 => (simp only [List.getElem_toArray, List.getElem_cons_zero, List.getElem_cons_succ, Act.put, List.setIfInBounds_toArray, List.set_cons_zero, List.set_cons_succ])); (refine wpAnyL_take (i := 5) (oi := _) (v := ?_) rfl (by kernel_rfl) (by kernel_rfl) (by kernel_rfl) (fun _ _ _ h => h) (Or.inl ⟨by first | rfl | kernel_rfl, ?hy20⟩) (by assumption) ?rs20; (case hy20 => (intro w hSw; (try dsimp only at hSw); go_simp; first | done | with_reducible rfl)); case' rs20 => (simp only [List.getElem_toArray, List.getElem_cons_zero, List.getElem_cons_succ, Act.put, List.setIfInBounds_toArray, List.set_cons_zero, List.set_cons_succ])); skip
                    have X := Lib.hid (qd_set D Gn Hn hne.symm G H hq hr)
                    have D10 := below_set2 D Gn (.bool bq) (.slice Aq nq cq)
                    have D11 := below_set2 D10 Hn (.bool br') (.slice Ar nr cr)
                    have H1 := H.far2 (hne.symm).symm (.bool bq) (.slice Aq nq cq)
                    have g0 := G.at_ 0 rfl; have g1 := G.at_ 1 rfl; have f0 := G.frozen 0; have f1 := G.frozen 1; have h0 := H1.at_ 0 rfl; have h1 := H1.at_ 1 rfl; have f2 := H1.frozen 0; have f3 := H1.frozen 1
                    have D10 := Lib.hid D10; have D11 := Lib.hid D11
                    clear G H H1 D hq hr hp
                    (refine wpAnyL_one (i := 8) (o := _) (by kernel_rfl) rfl (fun K hK => ?_); clear hHeld; simp only [List.getElem_toArray, List.getElem_cons_zero, List.getElem_cons_succ]; go_simp; refine hK.out _ _ ?_ (fun hHeld => ?_); focus (intro _; exact KQ.out _ D10.out)); have hHeld := hHeld (by decide); clear hK K; (try simp only [Act.put, List.setIfInBounds_toArray, List.set_cons_zero, List.set_cons_succ])
                    (refine wpAnyL_one (i := 9) (o := _) (by kernel_rfl) rfl (fun K hK => ?_); clear hHeld; simp only [List.getElem_toArray, List.getElem_cons_zero, List.getElem_cons_succ]; go_simp; refine hK.out _ _ ?_ (fun hHeld => ?_); focus (intro _; exact KQ.out _ D11.out)); have hHeld := hHeld (by decide); clear hK K; (try simp only [Act.put, List.setIfInBounds_toArray, List.set_cons_zero, List.set_cons_succ])
                    refine wpAnyL_done (by kernel_rfl) ?_ _
                    go_wp2
                    go_meet
                    exact X.out
        · as_aux_lemma =>
            (clear hHeld; simp only [List.getElem_toArray, List.getElem_cons_zero, List.getElem_cons_succ]; go_simp; refine hK.out _ _ ?_ (fun hHeld => ?_); focus (intro _; exact KQ.out _ (D.alloc D.size _))); have hHeld := hHeld (by decide); clear hK K; (try simp only [Act.put, List.setIfInBounds_toArray, List.set_cons_zero, List.set_cons_succ])
            have G' := Blk.drew (Blk.new wk 57 #[.bool false, .slice none 0 0])
            have Gn : wf.heap.size ≤ wk.heap.size := D.size
            have D1 : Below wf.heap.size wf ((wk.alloc (.cells #[.bool false, .slice none 0 0] 57)).drew) := (D.alloc D.size (.cells #[.bool false, .slice none 0 0] 57))
            clear D
            have D := D1
            clear D1
            obtain ⟨w8, hw8⟩ : ∃ w8, (wk.alloc (.cells #[.bool false, .slice none 0 0] 57)).drew = w8 := ⟨_, rfl⟩
            obtain ⟨Gg, hGg⟩ : ∃ Gg, wk.heap.size = Gg := ⟨_, rfl⟩
            rw [hw8] at G' D hHeld ⊢
            rw [hGg] at G' Gn ⊢
            have G := G'
            clear G' hw8 hGg
            refine wpAnyL_two (i := 1) (j := 7) (oi := _) (oj := _) (by kernel_rfl) rfl rfl (fun K hK => ?_) (fun K hK => ?_)
            · as_aux_lemma =>
                (clear hHeld; simp only [List.getElem_toArray, List.getElem_cons_zero, List.getElem_cons_succ]; go_simp; (go_at_call 43; (with_reducible refine (HP.out _).mono ?_); rintro e w3 ⟨_, rfl, ⟨b1, A1, n1, c1, rfl, hp0⟩, hb⟩; have hp := hp0.zl; have D := D.trans (hb.mono D.size); have G := G.below hb G.lt); refine hK.out _ _ ?_ (fun hHeld => ?_); focus (intro _; exact KQ.out _ D)); have hHeld := hHeld (by decide); clear hK K; (try simp only [Act.put, List.setIfInBounds_toArray, List.set_cons_zero, List.set_cons_succ])
                refine wpAnyL_two (i := 2) (j := 7) (oi := _) (oj := _) (by kernel_rfl) rfl rfl (fun K hK => ?_) (fun K hK => ?_)
                · as_aux_lemma =>
                    (clear hHeld; simp only [List.getElem_toArray, List.getElem_cons_zero, List.getElem_cons_succ]; go_simp; (go_at_call 39; (with_reducible refine (DZ.out _ _ _ (VQ.out _ D) hp.v).mono ?_); rintro e w4 ⟨_, _, rfl, ⟨bq, Aq, nq, cq, rfl, hq⟩, ⟨br', Ar, nr, cr, rfl, hr⟩, hb⟩; have D := D.trans (hb.mono D.size); have G := G.below hb G.lt); refine hK.out _ _ ?_ (fun hHeld => ?_); focus (intro _; exact KQ.out _ D)); have hHeld := hHeld (by decide); clear hK K; (try simp only [Act.put, List.setIfInBounds_toArray, List.set_cons_zero, List.set_cons_succ])
                    (refine wpAnyL_take (i := 3) (oi := _) (v := ?_) rfl (by kernel_rfl) (by kernel_rfl) (by kernel_rfl) (fun _ _ _ h => h) (Or.inl ⟨by first | rfl | kernel_rfl, ?hy21⟩) (by assumption) ?rs21; (case hy21 => (intro w hSw; (try dsimp only at hSw); go_simp; first | done | with_reducible rfl)); case' rs21 => (simp only [List.getElem_toArray, List.getElem_cons_zero, List.getElem_cons_succ, Act.put, List.setIfInBounds_toArray, List.set_cons_zero, List.set_cons_succ])); (refine wpAnyL_take (i := 4) (oi := _) (v := ?_) rfl (by kernel_rfl) (by kernel_rfl) (by kernel_rfl) (fun _ _ _ h => h) (Or.inl ⟨by first | rfl | kernel_rfl, ?hy22⟩) (by assumption) ?rs22; (case hy22 => (intro w hSw; (try dsimp only at hSw); go_simp; first | done | with_reducible rfl)); case' rs22 => (simp only [List.getElem_toArray, List.getElem_cons_zero, List.getElem_cons_succ, Act.put, List.setIfInBounds_toArray, List.set_cons_zero, List.set_cons_succ])); (refine wpAnyL_take (i := 5) (oi := _) (v := ?_) rfl (by kernel_rfl) (by kernel_rfl) (by kernel_rfl) (fun _ _ _ h => h) (Or.inl ⟨by first | rfl | kernel_rfl, ?hy23⟩) (by assumption) ?rs23; (case hy23 => (intro w hSw; (try dsimp only at hSw); go_simp; first | done | with_reducible rfl)); case' rs23 => (simp only [List.getElem_toArray, List.getElem_cons_zero, List.getElem_cons_succ, Act.put, List.setIfInBounds_toArray, List.set_cons_zero, List.set_cons_succ])); skip
                    (refine wpAnyL_one (i := 7) (o := _) (by kernel_rfl) rfl (fun K hK => ?_); clear hHeld; simp only [List.getElem_toArray, List.getElem_cons_zero, List.getElem_cons_succ]; go_simp; refine hK.out _ _ ?_ (fun hHeld => ?_); focus (intro _; exact KQ.out _ (D.alloc D.size _))); have hHeld := hHeld (by decide); clear hK K; (try simp only [Act.put, List.setIfInBounds_toArray, List.set_cons_zero, List.set_cons_succ])
                    have H' := Blk.new w4 57 #[.bool false, .slice none 0 0]
                    have Hn : wf.heap.size ≤ w4.heap.size := D.size
                    have hne : Gg ≠ w4.heap.size := Nat.ne_of_lt G.lt
                    have G := G.alloc (.cells #[.bool false, .slice none 0 0] 57)
                    have hq := (hq.alloc (.cells #[.bool false, .slice none 0 0] 57))
                    have hr := (hr.alloc (.cells #[.bool false, .slice none 0 0] 57))
                    have D1 : Below wf.heap.size wf (w4.alloc (.cells #[.bool false, .slice none 0 0] 57)) := D.alloc D.size (.cells #[.bool false, .slice none 0 0] 57)
                    clear D
                    have D := D1
                    clear D1
                    obtain ⟨w9, hw9⟩ : ∃ w9, w4.alloc (.cells #[.bool false, .slice none 0 0] 57) = w9 := ⟨_, rfl⟩
                    obtain ⟨Hg, hHg⟩ : ∃ Hg, w4.heap.size = Hg := ⟨_, rfl⟩
                    rw [hw9] at H' D G hq hr hHeld ⊢
                    rw [hHg] at H' Hn hne ⊢
                    have H := H'
                    clear H' hw9 hHg
                    have X := Lib.hid (qd_set D Gn Hn hne G H hq hr)
                    have D10 := below_set2 D Gn (.bool bq) (.slice Aq nq cq)
                    have D11 := below_set2 D10 Hn (.bool br') (.slice Ar nr cr)
                    have H1 := H.far2 (hne).symm (.bool bq) (.slice Aq nq cq)
                    have g0 := G.at_ 0 rfl; have g1 := G.at_ 1 rfl; have f0 := G.frozen 0; have f1 := G.frozen 1; have h0 := H1.at_ 0 rfl; have h1 := H1.at_ 1 rfl; have f2 := H1.frozen 0; have f3 := H1.frozen 1
                    have D10 := Lib.hid D10; have D11 := Lib.hid D11
                    clear G H H1 D hq hr hp
                    (refine wpAnyL_one (i := 8) (o := _) (by kernel_rfl) rfl (fun K hK => ?_); clear hHeld; simp only [List.getElem_toArray, List.getElem_cons_zero, List.getElem_cons_succ]; go_simp; refine hK.out _ _ ?_ (fun hHeld => ?_); focus (intro _; exact KQ.out _ D10.out)); have hHeld := hHeld (by decide); clear hK K; (try simp only [Act.put, List.setIfInBounds_toArray, List.set_cons_zero, List.set_cons_succ])
                    (refine wpAnyL_one (i := 9) (o := _) (by kernel_rfl) rfl (fun K hK => ?_); clear hHeld; simp only [List.getElem_toArray, List.getElem_cons_zero, List.getElem_cons_succ]; go_simp; refine hK.out _ _ ?_ (fun hHeld => ?_); focus (intro _; exact KQ.out _ D11.out)); have hHeld := hHeld (by decide); clear hK K; (try simp only [Act.put, List.setIfInBounds_toArray, List.set_cons_zero, List.set_cons_succ])
                    refine wpAnyL_done (by kernel_rfl) ?_ _
                    go_wp2
                    go_meet
                    exact X.out
                · as_aux_lemma =>
                    (clear hHeld; simp only [List.getElem_toArray, List.getElem_cons_zero, List.getElem_cons_succ]; go_simp; refine hK.out _ _ ?_ (fun hHeld => ?_); focus (intro _; exact KQ.out _ (D.alloc D.size _))); have hHeld := hHeld (by decide); clear hK K; (try simp only [Act.put, List.setIfInBounds_toArray, List.set_cons_zero, List.set_cons_succ])
                    have H' := Blk.new w3 57 #[.bool false, .slice none 0 0]
                    have Hn : wf.heap.size ≤ w3.heap.size := D.size
                    have hne : Gg ≠ w3.heap.size := Nat.ne_of_lt G.lt
                    have G := G.alloc (.cells #[.bool false, .slice none 0 0] 57)
                    have hp := (hp.alloc (.cells #[.bool false, .slice none 0 0] 57))
                    have D1 : Below wf.heap.size wf (w3.alloc (.cells #[.bool false, .slice none 0 0] 57)) := D.alloc D.size (.cells #[.bool false, .slice none 0 0] 57)
                    clear D
                    have D := D1
                    clear D1
                    obtain ⟨w9, hw9⟩ : ∃ w9, w3.alloc (.cells #[.bool false, .slice none 0 0] 57) = w9 := ⟨_, rfl⟩
                    obtain ⟨Hg, hHg⟩ : ∃ Hg, w3.heap.size = Hg := ⟨_, rfl⟩
                    rw [hw9] at H' D G hp hHeld ⊢
                    rw [hHg] at H' Hn hne ⊢
                    have H := H'
                    clear H' hw9 hHg
                    (refine wpAnyL_one (i := 2) (o := _) (by kernel_rfl) rfl (fun K hK => ?_); clear hHeld; simp only [List.getElem_toArray, List.getElem_cons_zero, List.getElem_cons_succ]; go_simp; (go_at_call 39; (with_reducible refine (DZ.out _ _ _ (VQ.out _ D) hp.v).mono ?_); rintro e w4 ⟨_, _, rfl, ⟨bq, Aq, nq, cq, rfl, hq⟩, ⟨br', Ar, nr, cr, rfl, hr⟩, hb⟩; have D := D.trans (hb.mono D.size); have G := G.below hb G.lt; have H := H.below hb H.lt); refine hK.out _ _ ?_ (fun hHeld => ?_); focus (intro _; exact KQ.out _ D)); have hHeld := hHeld (by decide); clear hK K; (try simp only [Act.put, List.setIfInBounds_toArray, List.set_cons_zero, List.set_cons_succ])
                    (refine wpAnyL_take (i := 3) (oi := _) (v := ?_) rfl (by kernel_rfl) (by kernel_rfl) (by kernel_rfl) (fun _ _ _ h => h) (Or.inl ⟨by first | rfl | kernel_rfl, ?hy24⟩) (by assumption) ?rs24; (case hy24 => (intro w hSw; (try dsimp only at hSw); go_simp; first | done | with_reducible rfl)); case' rs24 => (simp only [List.getElem_toArray, List.getElem_cons_zero, List.getElem_cons_succ, Act.put, List.setIfInBounds_toArray, List.set_cons_zero, List.set_cons_succ])); (refine wpAnyL_take (i := 4) (oi := _) (v := ?_) rfl (by kernel_rfl) (by kernel_rfl) (by kernel_rfl) (fun _ _ _ h => h) (Or.inl ⟨by first | rfl | kernel_rfl, ?hy25⟩) (by assumption) ?rs25; (case hy25 => (intro w hSw; (try dsimp only at hSw); go_simp; first | done | with_reducible rfl)); case' rs25 => (simp only [List.getElem_toArray, List.getElem_cons_zero, List.getElem_cons_succ, Act.put, List.setIfInBounds_toArray, List.set_cons_zero, List.set_cons_succ])); (refine wpAnyL_take (i := 5) (oi := _) (v := ?_) rfl (by kernel_rfl) (by kernel_rfl) (by kernel_rfl) (fun _ _ _ h => h) (Or.inl ⟨by first | rfl | kernel_rfl, ?hy26⟩) (by assumption) ?rs26; (case hy26 => (intro w hSw; (try dsimp only at hSw); go_simp; first | done | with_reducible rfl)); case' rs26 => (simp only [List.getElem_toArray, List.getElem_cons_zero, List.getElem_cons_succ, Act.put, List.setIfInBounds_toArray, List.set_cons_zero, List.set_cons_succ])); skip
                    have X := Lib.hid (qd_set D Gn Hn hne G H hq hr)
                    have D10 := below_set2 D Gn (.bool bq) (.slice Aq nq cq)
                    have D11 := below_set2 D10 Hn (.bool br') (.slice Ar nr cr)
                    have H1 := H.far2 (hne).symm (.bool bq) (.slice Aq nq cq)
                    have g0 := G.at_ 0 rfl; have g1 := G.at_ 1 rfl; have f0 := G.frozen 0; have f1 := G.frozen 1; have h0 := H1.at_ 0 rfl; have h1 := H1.at_ 1 rfl; have f2 := H1.frozen 0; have f3 := H1.frozen 1
                    have D10 := Lib.hid D10; have D11 := Lib.hid D11
                    clear G H H1 D hq hr hp
                    (refine wpAnyL_one (i := 8) (o := _) (by kernel_rfl) rfl (fun K hK => ?_); clear hHeld; simp only [List.getElem_toArray, List.getElem_cons_zero, List.getElem_cons_succ]; go_simp; refine hK.out _ _ ?_ (fun hHeld => ?_); focus (intro _; exact KQ.out _ D10.out)); have hHeld := hHeld (by decide); clear hK K; (try simp only [Act.put, List.setIfInBounds_toArray, List.set_cons_zero, List.set_cons_succ])
                    (refine wpAnyL_one (i := 9) (o := _) (by kernel_rfl) rfl (fun K hK => ?_); clear hHeld; simp only [List.getElem_toArray, List.getElem_cons_zero, List.getElem_cons_succ]; go_simp; refine hK.out _ _ ?_ (fun hHeld => ?_); focus (intro _; exact KQ.out _ D11.out)); have hHeld := hHeld (by decide); clear hK K; (try simp only [Act.put, List.setIfInBounds_toArray, List.set_cons_zero, List.set_cons_succ])
                    refine wpAnyL_done (by kernel_rfl) ?_ _
                    go_wp2
                    go_meet
                    exact X.out
            · as_aux_lemma =>
                (clear hHeld; simp only [List.getElem_toArray, List.getElem_cons_zero, List.getElem_cons_succ]; go_simp; refine hK.out _ _ ?_ (fun hHeld => ?_); focus (intro _; exact KQ.out _ (D.alloc D.size _))); have hHeld := hHeld (by decide); clear hK K; (try simp only [Act.put, List.setIfInBounds_toArray, List.set_cons_zero, List.set_cons_succ])
                have H' := Blk.new w8 57 #[.bool false, .slice none 0 0]
                have Hn : wf.heap.size ≤ w8.heap.size := D.size
                have hne : Gg ≠ w8.heap.size := Nat.ne_of_lt G.lt
                have G := G.alloc (.cells #[.bool false, .slice none 0 0] 57)
                have D1 : Below wf.heap.size wf (w8.alloc (.cells #[.bool false, .slice none 0 0] 57)) := D.alloc D.size (.cells #[.bool false, .slice none 0 0] 57)
                clear D
                have D := D1
                clear D1
                obtain ⟨w9, hw9⟩ : ∃ w9, w8.alloc (.cells #[.bool false, .slice none 0 0] 57) = w9 := ⟨_, rfl⟩
                obtain ⟨Hg, hHg⟩ : ∃ Hg, w8.heap.size = Hg := ⟨_, rfl⟩
                rw [hw9] at H' D G hHeld ⊢
                rw [hHg] at H' Hn hne ⊢
                have H := H'
                clear H' hw9 hHg
                (refine wpAnyL_one (i := 1) (o := _) (by kernel_rfl) rfl (fun K hK => ?_); clear hHeld; simp only [List.getElem_toArray, List.getElem_cons_zero, List.getElem_cons_succ]; go_simp; (go_at_call 43; (with_reducible refine (HP.out _).mono ?_); rintro e w3 ⟨_, rfl, ⟨b1, A1, n1, c1, rfl, hp0⟩, hb⟩; have hp := hp0.zl; have D := D.trans (hb.mono D.size); have G := G.below hb G.lt; have H := H.below hb H.lt); refine hK.out _ _ ?_ (fun hHeld => ?_); focus (intro _; exact KQ.out _ D)); have hHeld := hHeld (by decide); clear hK K; (try simp only [Act.put, List.setIfInBounds_toArray, List.set_cons_zero, List.set_cons_succ])
                (refine wpAnyL_one (i := 2) (o := _) (by kernel_rfl) rfl (fun K hK => ?_); clear hHeld; simp only [List.getElem_toArray, List.getElem_cons_zero, List.getElem_cons_succ]; go_simp; (go_at_call 39; (with_reducible refine (DZ.out _ _ _ (VQ.out _ D) hp.v).mono ?_); rintro e w4 ⟨_, _, rfl, ⟨bq, Aq, nq, cq, rfl, hq⟩, ⟨br', Ar, nr, cr, rfl, hr⟩, hb⟩; have D := D.trans (hb.mono D.size); have G := G.below hb G.lt; have H := H.below hb H.lt); refine hK.out _ _ ?_ (fun hHeld => ?_); focus (intro _; exact KQ.out _ D)); have hHeld := hHeld (by decide); clear hK K; (try simp only [Act.put, List.setIfInBounds_toArray, List.set_cons_zero, List.set_cons_succ])
                (refine wpAnyL_take (i := 3) (oi := _) (v := ?_) rfl (by kernel_rfl) (by kernel_rfl) (by kernel_rfl) (fun _ _ _ h => h) (Or.inl ⟨by first | rfl | kernel_rfl, ?hy27⟩) (by assumption) ?rs27; (case hy27 => (intro w hSw; (try dsimp only at hSw); go_simp; first | done | with_reducible rfl)); case' rs27 => (simp only [List.getElem_toArray, List.getElem_cons_zero, List.getElem_cons_succ, Act.put, List.setIfInBounds_toArray, List.set_cons_zero, List.set_cons_succ])); (refine wpAnyL_take (i := 4) (oi := _) (v := ?_) rfl (by kernel_rfl) (by kernel_rfl) (by kernel_rfl) (fun _ _ _ h => h) (Or.inl ⟨by first | rfl | kernel_rfl, ?hy28⟩) (by assumption) ?rs28; (case hy28 => (intro w hSw; (try dsimp only at hSw); go_simp; first | done | with_reducible rfl)); case' rs28 => (simp only [List.getElem_toArray, List.getElem_cons_zero, List.getElem_cons_succ, Act.put, List.setIfInBounds_toArray, List.set_cons_zero, List.set_cons_succ])); (refine wpAnyL_take (i := 5) (oi := _) (v := ?_) rfl (by kernel_rfl) (by kernel_rfl) (by kernel_rfl) (fun _ _ _ h => h) (Or.inl ⟨by first | rfl | kernel_rfl, ?hy29⟩) (by assumption) ?rs29; (case hy29 => (intro w hSw; (try dsimp only at hSw); go_simp; first | done | with_reducible rfl)); case' rs29 => (simp only [List.getElem_toArray, List.getElem_cons_zero, List.getElem_cons_succ, Act.put, List.setIfInBounds_toArray, List.set_cons_zero, List.set_cons_succ])); skip
                have X := Lib.hid (qd_set D Gn Hn hne G H hq hr)
                have D10 := below_set2 D Gn (.bool bq) (.slice Aq nq cq)
                have D11 := below_set2 D10 Hn (.bool br') (.slice Ar nr cr)
                have H1 := H.far2 (hne).symm (.bool bq) (.slice Aq nq cq)
                have g0 := G.at_ 0 rfl; have g1 := G.at_ 1 rfl; have f0 := G.frozen 0; have f1 := G.frozen 1; have h0 := H1.at_ 0 rfl; have h1 := H1.at_ 1 rfl; have f2 := H1.frozen 0; have f3 := H1.frozen 1
                have D10 := Lib.hid D10; have D11 := Lib.hid D11
                clear G H H1 D hq hr hp
                (refine wpAnyL_one (i := 8) (o := _) (by kernel_rfl) rfl (fun K hK => ?_); clear hHeld; simp only [List.getElem_toArray, List.getElem_cons_zero, List.getElem_cons_succ]; go_simp; refine hK.out _ _ ?_ (fun hHeld => ?_); focus (intro _; exact KQ.out _ D10.out)); have hHeld := hHeld (by decide); clear hK K; (try simp only [Act.put, List.setIfInBounds_toArray, List.set_cons_zero, List.set_cons_succ])
                (refine wpAnyL_one (i := 9) (o := _) (by kernel_rfl) rfl (fun K hK => ?_); clear hHeld; simp only [List.getElem_toArray, List.getElem_cons_zero, List.getElem_cons_succ]; go_simp; refine hK.out _ _ ?_ (fun hHeld => ?_); focus (intro _; exact KQ.out _ D11.out)); have hHeld := hHeld (by decide); clear hK K; (try simp only [Act.put, List.setIfInBounds_toArray, List.set_cons_zero, List.set_cons_succ])
                refine wpAnyL_done (by kernel_rfl) ?_ _
                go_wp2
                go_meet
                exact X.out
        · as_aux_lemma =>
            (clear hHeld; simp only [List.getElem_toArray, List.getElem_cons_zero, List.getElem_cons_succ]; go_simp; refine hK.out _ _ ?_ (fun hHeld => ?_); focus (intro _; exact KQ.out _ (D.alloc D.size _))); have hHeld := hHeld (by decide); clear hK K; (try simp only [Act.put, List.setIfInBounds_toArray, List.set_cons_zero, List.set_cons_succ])
            have H' := Blk.drew (Blk.new wk 57 #[.bool false, .slice none 0 0])
            have Hn : wf.heap.size ≤ wk.heap.size := D.size
            have D1 : Below wf.heap.size wf ((wk.alloc (.cells #[.bool false, .slice none 0 0] 57)).drew) := (D.alloc D.size (.cells #[.bool false, .slice none 0 0] 57))
            clear D
            have D := D1
            clear D1
            obtain ⟨w9, hw9⟩ : ∃ w9, (wk.alloc (.cells #[.bool false, .slice none 0 0] 57)).drew = w9 := ⟨_, rfl⟩
            obtain ⟨Hg, hHg⟩ : ∃ Hg, wk.heap.size = Hg := ⟨_, rfl⟩
            rw [hw9] at H' D hHeld ⊢
            rw [hHg] at H' Hn ⊢
            have H := H'
            clear H' hw9 hHg
            refine wpAnyL_two (i := 1) (j := 6) (oi := _) (oj := _) (by kernel_rfl) rfl rfl (fun K hK => ?_) (fun K hK => ?_)
            · as_aux_lemma =>
                (clear hHeld; simp only [List.getElem_toArray, List.getElem_cons_zero, List.getElem_cons_succ]; go_simp; (go_at_call 43; (with_reducible refine (HP.out _).mono ?_); rintro e w3 ⟨_, rfl, ⟨b1, A1, n1, c1, rfl, hp0⟩, hb⟩; have hp := hp0.zl; have D := D.trans (hb.mono D.size); have H := H.below hb H.lt); refine hK.out _ _ ?_ (fun hHeld => ?_); focus (intro _; exact KQ.out _ D)); have hHeld := hHeld (by decide); clear hK K; (try simp only [Act.put, List.setIfInBounds_toArray, List.set_cons_zero, List.set_cons_succ])
                refine wpAnyL_two (i := 2) (j := 6) (oi := _) (oj := _) (by kernel_rfl) rfl rfl (fun K hK => ?_) (fun K hK => ?_)
                · as_aux_lemma =>
                    (clear hHeld; simp only [List.getElem_toArray, List.getElem_cons_zero, List.getElem_cons_succ]; go_simp; (go_at_call 39; (with_reducible refine (DZ.out _ _ _ (VQ.out _ D) hp.v).mono ?_); rintro e w4 ⟨_, _, rfl, ⟨bq, Aq, nq, cq, rfl, hq⟩, ⟨br', Ar, nr, cr, rfl, hr⟩, hb⟩; have D := D.trans (hb.mono D.size); have H := H.below hb H.lt); refine hK.out _ _ ?_ (fun hHeld => ?_); focus (intro _; exact KQ.out _ D)); have hHeld := hHeld (by decide); clear hK K; (try simp only [Act.put, List.setIfInBounds_toArray, List.set_cons_zero, List.set_cons_succ])
                    (refine wpAnyL_take (i := 3) (oi := _) (v := ?_) rfl (by kernel_rfl) (by kernel_rfl) (by kernel_rfl) (fun _ _ _ h => h) (Or.inl ⟨by first | rfl | kernel_rfl, ?hy30⟩) (by assumption) ?rs30; (case hy30 => (intro w hSw; (try dsimp only at hSw); go_simp; first | done | with_reducible rfl)); case' rs30 => (simp only [List.getElem_toArray, List.getElem_cons_zero, List.getElem_cons_succ, Act.put, List.setIfInBounds_toArray, List.set_cons_zero, List.set_cons_succ])); (refine wpAnyL_take (i := 4) (oi := _) (v := ?_) rfl (by kernel_rfl) (by kernel_rfl) (by kernel_rfl) (fun _ _ _ h => h) (Or.inl ⟨by first | rfl | kernel_rfl, ?hy31⟩) (by assumption) ?rs31; (case hy31 => (intro w hSw; (try dsimp only at hSw); go_simp; first | done | with_reducible rfl)); case' rs31 => (simp only [List.getElem_toArray, List.getElem_cons_zero, List.getElem_cons_succ, Act.put, List.setIfInBounds_toArray, List.set_cons_zero, List.set_cons_succ])); (refine wpAnyL_take (i := 5) (oi := _) (v := ?_) rfl (by kernel_rfl) (by kernel_rfl) (by kernel_rfl) (fun _ _ _ h => h) (Or.inl ⟨by first | rfl | kernel_rfl, ?hy32⟩) (by assumption) ?rs32; (case hy32 => (intro w hSw; (try dsimp only at hSw); go_simp; first | done | with_reducible rfl)); case' rs32 => (simp only [List.getElem_toArray, List.getElem_cons_zero, List.getElem_cons_succ, Act.put, List.setIfInBounds_toArray, List.set_cons_zero, List.set_cons_succ])); skip
                    (refine wpAnyL_one (i := 6) (o := _) (by kernel_rfl) rfl (fun K hK => ?_); clear hHeld; simp only [List.getElem_toArray, List.getElem_cons_zero, List.getElem_cons_succ]; go_simp; refine hK.out _ _ ?_ (fun hHeld => ?_); focus (intro _; exact KQ.out _ (D.alloc D.size _))); have hHeld := hHeld (by decide); clear hK K; (try simp only [Act.put, List.setIfInBounds_toArray, List.set_cons_zero, List.set_cons_succ])
                    have G' := Blk.new w4 57 #[.bool false, .slice none 0 0]
                    have Gn : wf.heap.size ≤ w4.heap.size := D.size
                    have hne : Hg ≠ w4.heap.size := Nat.ne_of_lt H.lt
                    have H := H.alloc (.cells #[.bool false, .slice none 0 0] 57)
                    have hq := (hq.alloc (.cells #[.bool false, .slice none 0 0] 57))
                    have hr := (hr.alloc (.cells #[.bool false, .slice none 0 0] 57))
                    have D1 : Below wf.heap.size wf (w4.alloc (.cells #[.bool false, .slice none 0 0] 57)) := D.alloc D.size (.cells #[.bool false, .slice none 0 0] 57)
                    clear D
                    have D := D1
                    clear D1
                    obtain ⟨w8, hw8⟩ : ∃ w8, w4.alloc (.cells #[.bool false, .slice none 0 0] 57) = w8 := ⟨_, rfl⟩
                    obtain ⟨Gg, hGg⟩ : ∃ Gg, w4.heap.size = Gg := ⟨_, rfl⟩
                    rw [hw8] at G' D H hq hr hHeld ⊢
                    rw [hGg] at G' Gn hne ⊢
                    have G := G'
                    clear G' hw8 hGg
                    have X := Lib.hid (qd_set D Gn Hn hne.symm G H hq hr)
                    have D10 := below_set2 D Gn (.bool bq) (.slice Aq nq cq)
                    have D11 := below_set2 D10 Hn (.bool br') (.slice Ar nr cr)
                    have H1 := H.far2 (hne.symm).symm (.bool bq) (.slice Aq nq cq)
                    have g0 := G.at_ 0 rfl; have g1 := G.at_ 1 rfl; have f0 := G.frozen 0; have f1 := G.frozen 1; have h0 := H1.at_ 0 rfl; have h1 := H1.at_ 1 rfl; have f2 := H1.frozen 0; have f3 := H1.frozen 1
                    have D10 := Lib.hid D10; have D11 := Lib.hid D11
                    clear G H H1 D hq hr hp
                    (refine wpAnyL_one (i := 8) (o := _) (by kernel_rfl) rfl (fun K hK => ?_); clear hHeld; simp only [List.getElem_toArray, List.getElem_cons_zero, List.getElem_cons_succ]; go_simp; refine hK.out _ _ ?_ (fun hHeld => ?_); focus (intro _; exact KQ.out _ D10.out)); have hHeld := hHeld (by decide); clear hK K; (try simp only [Act.put, List.setIfInBounds_toArray, List.set_cons_zero, List.set_cons_succ])
                    (refine wpAnyL_one (i := 9) (o := _) (by kernel_rfl) rfl (fun K hK => ?_); clear hHeld; simp only [List.getElem_toArray, List.getElem_cons_zero, List.getElem_cons_succ]; go_simp; refine hK.out _ _ ?_ (fun hHeld => ?_); focus (intro _; exact KQ.out _ D11.out)); have hHeld := hHeld (by decide); clear hK K; (try simp only [Act.put, List.setIfInBounds_toArray, List.set_cons_zero, List.set_cons_succ])
                    refine wpAnyL_done (by kernel_rfl) ?_ _
                    go_wp2
                    go_meet
                    exact X.out
                · as_aux_lemma =>
                    (clear hHeld; simp only [List.getElem_toArray, List.getElem_cons_zero, List.getElem_cons_succ]; go_simp; refine hK.out _ _ ?_ (fun hHeld => ?_); focus (intro _; exact KQ.out _ (D.alloc D.size _))); have hHeld := hHeld (by decide); clear hK K; (try simp only [Act.put, List.setIfInBounds_toArray, List.set_cons_zero, List.set_cons_succ])
                    have G' := Blk.new w3 57 #[.bool false, .slice none 0 0]
                    have Gn : wf.heap.size ≤ w3.heap.size := D.size
                    have hne : Hg ≠ w3.heap.size := Nat.ne_of_lt H.lt
                    have H := H.alloc (.cells #[.bool false, .slice none 0 0] 57)
                    have hp := (hp.alloc (.cells #[.bool false, .slice none 0 0] 57))
                    have D1 : Below wf.heap.size wf (w3.alloc (.cells #[.bool false, .slice none 0 0] 57)) := D.alloc D.size (.cells #[.bool false, .slice none 0 0] 57)
                    clear D
                    have D := D1
                    clear D1
                    obtain ⟨w8, hw8⟩ : ∃ w8, w3.alloc (.cells #[.bool false, .slice none 0 0] 57) = w8 := ⟨_, rfl⟩
                    obtain ⟨Gg, hGg⟩ : ∃ Gg, w3.heap.size = Gg := ⟨_, rfl⟩
                    rw [hw8] at G' D H hp hHeld ⊢
                    rw [hGg] at G' Gn hne ⊢
                    have G := G'
                    clear G' hw8 hGg
                    (refine wpAnyL_one (i := 2) (o := _) (by kernel_rfl) rfl (fun K hK => ?_); clear hHeld; simp only [List.getElem_toArray, List.getElem_cons_zero, List.getElem_cons_succ]; go_simp; (go_at_call 39; (with_reducible refine (DZ.out _ _ _ (VQ.out _ D) hp.v).mono ?_); rintro e w4 ⟨_, _, rfl, ⟨bq, Aq, nq, cq, rfl, hq⟩, ⟨br', Ar, nr, cr, rfl, hr⟩, hb⟩; have D := D.trans (hb.mono D.size); have G := G.below hb G.lt; have H := H.below hb H.lt); refine hK.out _ _ ?_ (fun hHeld => ?_); focus (intro _; exact KQ.out _ D)); have hHeld := hHeld (by decide); clear hK K; (try simp only [Act.put, List.setIfInBounds_toArray, List.set_cons_zero, List.set_cons_succ])
                    (refine wpAnyL_take (i := 3) (oi := _) (v := ?_) rfl (by kernel_rfl) (by kernel_rfl) (by kernel_rfl) (fun _ _ _ h => h) (Or.inl ⟨by first | rfl | kernel_rfl, ?hy33⟩) (by assumption) ?rs33; (case hy33 => (intro w hSw; (try dsimp only at hSw); go_simp; first | done | with_reducible rfl)); case' rs33 => (simp only [List.getElem_toArray, List.getElem_cons_zero, List.getElem_cons_succ, Act.put, List.setIfInBounds_toArray, List.set_cons_zero, List.set_cons_succ])); (refine wpAnyL_take (i := 4) (oi := _) (v := ?_) rfl (by kernel_rfl) (by kernel_rfl) (by kernel_rfl) (fun _ _ _ h => h) (Or.inl ⟨by first | rfl | kernel_rfl, ?hy34⟩) (by assumption) ?rs34; (case hy34 => (intro w hSw; (try dsimp only at hSw); go_simp; first | done | with_reducible rfl)); case' rs34 => (simp only [List.getElem_toArray, List.getElem_cons_zero, List.getElem_cons_succ, Act.put, List.setIfInBounds_toArray, List.set_cons_zero, List.set_cons_succ])); (refine wpAnyL_take (i := 5) (oi := _) (v := ?_) rfl (by kernel_rfl) (by kernel_rfl) (by kernel_rfl) (fun _ _ _ h => h) (Or.inl ⟨by first | rfl | kernel_rfl, ?hy35⟩) (by assumption) ?rs35; (case hy35 => (intro w hSw; (try dsimp only at hSw); go_simp; first | done | with_reducible rfl)); case' rs35 => (simp only [List.getElem_toArray, List.getElem_cons_zero, List.getElem_cons_succ, Act.put, List.setIfInBounds_toArray, List.set_cons_zero, List.set_cons_succ])); skip
                    have X := Lib.hid (qd_set D Gn Hn hne.symm G H hq hr)
                    have D10 := below_set2 D Gn (.bool bq) (.slice Aq nq cq)
                    have D11 := below_set2 D10 Hn (.bool br') (.slice Ar nr cr)
                    have H1 := H.far2 (hne.symm).symm (.bool bq) (.slice Aq nq cq)
                    have g0 := G.at_ 0 rfl; have g1 := G.at_ 1 rfl; have f0 := G.frozen 0; have f1 := G.frozen 1; have h0 := H1.at_ 0 rfl; have h1 := H1.at_ 1 rfl; have f2 := H1.frozen 0; have f3 := H1.frozen 1
                    have D10 := Lib.hid D10; have D11 := Lib.hid D11
                    clear G H H1 D hq hr hp
                    (refine wpAnyL_one (i := 8) (o := _) (by kernel_rfl) rfl (fun K hK => ?_); clear hHeld; simp only [List.getElem_toArray, List.getElem_cons_zero, List.getElem_cons_succ]; go_simp; refine hK.out _ _ ?_ (fun hHeld => ?_); focus (intro _; exact KQ.out _ D10.out)); have hHeld := hHeld (by decide); clear hK K; (try simp only [Act.put, List.setIfInBounds_toArray, List.set_cons_zero, List.set_cons_succ])
                    (refine wpAnyL_one (i := 9) (o := _) (by kernel_rfl) rfl (fun K hK => ?_); clear hHeld; simp only [List.getElem_toArray, List.getElem_cons_zero, List.getElem_cons_succ]; go_simp; refine hK.out _ _ ?_ (fun hHeld => ?_); focus (intro _; exact KQ.out _ D11.out)); have hHeld := hHeld (by decide); clear hK K; (try simp only [Act.put, List.setIfInBounds_toArray, List.set_cons_zero, List.set_cons_succ])
                    refine wpAnyL_done (by kernel_rfl) ?_ _
                    go_wp2
                    go_meet
                    exact X.out
            · as_aux_lemma =>
                (clear hHeld; simp only [List.getElem_toArray, List.getElem_cons_zero, List.getElem_cons_succ]; go_simp; refine hK.out _ _ ?_ (fun hHeld => ?_); focus (intro _; exact KQ.out _ (D.alloc D.size _))); have hHeld := hHeld (by decide); clear hK K; (try simp only [Act.put, List.setIfInBounds_toArray, List.set_cons_zero, List.set_cons_succ])
                have G' := Blk.new w9 57 #[.bool false, .slice none 0 0]
                have Gn : wf.heap.size ≤ w9.heap.size := D.size
                have hne : Hg ≠ w9.heap.size := Nat.ne_of_lt H.lt
                have H := H.alloc (.cells #[.bool false, .slice none 0 0] 57)
                have D1 : Below wf.heap.size wf (w9.alloc (.cells #[.bool false, .slice none 0 0] 57)) := D.alloc D.size (.cells #[.bool false, .slice none 0 0] 57)
                clear D
                have D := D1
                clear D1
                obtain ⟨w8, hw8⟩ : ∃ w8, w9.alloc (.cells #[.bool false, .slice none 0 0] 57) = w8 := ⟨_, rfl⟩
                obtain ⟨Gg, hGg⟩ : ∃ Gg, w9.heap.size = Gg := ⟨_, rfl⟩
                rw [hw8] at G' D H hHeld ⊢
                rw [hGg] at G' Gn hne ⊢
                have G := G'
                clear G' hw8 hGg
                (refine wpAnyL_one (i := 1) (o := _) (by kernel_rfl) rfl (fun K hK => ?_); clear hHeld; simp only [List.getElem_toArray, List.getElem_cons_zero, List.getElem_cons_succ]; go_simp; (go_at_call 43; (with_reducible refine (HP.out _).mono ?_); rintro e w3 ⟨_, rfl, ⟨b1, A1, n1, c1, rfl, hp0⟩, hb⟩; have hp := hp0.zl; have D := D.trans (hb.mono D.size); have G := G.below hb G.lt; have H := H.below hb H.lt); refine hK.out _ _ ?_ (fun hHeld => ?_); focus (intro _; exact KQ.out _ D)); have hHeld := hHeld (by decide); clear hK K; (try simp only [Act.put, List.setIfInBounds_toArray, List.set_cons_zero, List.set_cons_succ])
                (refine wpAnyL_one (i := 2) (o := _) (by kernel_rfl) rfl (fun K hK => ?_); clear hHeld; simp only [List.getElem_toArray, List.getElem_cons_zero, List.getElem_cons_succ]; go_simp; (go_at_call 39; (with_reducible refine (DZ.out _ _ _ (VQ.out _ D) hp.v).mono ?_); rintro e w4 ⟨_, _, rfl, ⟨bq, Aq, nq, cq, rfl, hq⟩, ⟨br', Ar, nr, cr, rfl, hr⟩, hb⟩; have D := D.trans (hb.mono D.size); have G := G.below hb G.lt; have H := H.below hb H.lt); refine hK.out _ _ ?_ (fun hHeld => ?_); focus (intro _; exact KQ.out _ D)); have hHeld := hHeld (by decide); clear hK K; (try simp only [Act.put, List.setIfInBounds_toArray, List.set_cons_zero, List.set_cons_succ])
                (refine wpAnyL_take (i := 3) (oi := _) (v := ?_) rfl (by kernel_rfl) (by kernel_rfl) (by kernel_rfl) (fun _ _ _ h => h) (Or.inl ⟨by first | rfl | kernel_rfl, ?hy36⟩) (by assumption) ?rs36; (case hy36 => (intro w hSw; (try dsimp only at hSw); go_simp; first | done | with_reducible rfl)); case' rs36 => (simp only [List.getElem_toArray, List.getElem_cons_zero, List.getElem_cons_succ, Act.put, List.setIfInBounds_toArray, List.set_cons_zero, List.set_cons_succ])); (refine wpAnyL_take (i := 4) (oi := _) (v := ?_) rfl (by kernel_rfl) (by kernel_rfl) (by kernel_rfl) (fun _ _ _ h => h) (Or.inl ⟨by first | rfl | kernel_rfl, ?hy37⟩) (by assumption) ?rs37; (case hy37 => (intro w hSw; (try dsimp only at hSw); go_simp; first | done | with_reducible rfl)); case' rs37 => (simp only [List.getElem_toArray, List.getElem_cons_zero, List.getElem_cons_succ, Act.put, List.setIfInBounds_toArray, List.set_cons_zero, List.set_cons_succ])); (refine wpAnyL_take (i := 5) (oi := _) (v := ?_) rfl (by kernel_rfl) (by kernel_rfl) (by kernel_rfl) (fun _ _ _ h => h) (Or.inl ⟨by first | rfl | kernel_rfl, ?hy38⟩) (by assumption) ?rs38; (case hy38 => (intro w hSw; (try dsimp only at hSw); go_simp; first | done | with_reducible rfl)); case' rs38 => (simp only [List.getElem_toArray, List.getElem_cons_zero, List.getElem_cons_succ, Act.put, List.setIfInBounds_toArray, List.set_cons_zero, List.set_cons_succ])); skip
                have X := Lib.hid (qd_set D Gn Hn hne.symm G H hq hr)
                have D10 := below_set2 D Gn (.bool bq) (.slice Aq nq cq)
                have D11 := below_set2 D10 Hn (.bool br') (.slice Ar nr cr)
                have H1 := H.far2 (hne.symm).symm (.bool bq) (.slice Aq nq cq)
                have g0 := G.at_ 0 rfl; have g1 := G.at_ 1 rfl; have f0 := G.frozen 0; have f1 := G.frozen 1; have h0 := H1.at_ 0 rfl; have h1 := H1.at_ 1 rfl; have f2 := H1.frozen 0; have f3 := H1.frozen 1
                have D10 := Lib.hid D10; have D11 := Lib.hid D11
                clear G H H1 D hq hr hp
                (refine wpAnyL_one (i := 8) (o := _) (by kernel_rfl) rfl (fun K hK => ?_); clear hHeld; simp only [List.getElem_toArray, List.getElem_cons_zero, List.getElem_cons_succ]; go_simp; refine hK.out _ _ ?_ (fun hHeld => ?_); focus (intro _; exact KQ.out _ D10.out)); have hHeld := hHeld (by decide); clear hK K; (try simp only [Act.put, List.setIfInBounds_toArray, List.set_cons_zero, List.set_cons_succ])
                (refine wpAnyL_one (i := 9) (o := _) (by kernel_rfl) rfl (fun K hK => ?_); clear hHeld; simp only [List.getElem_toArray, List.getElem_cons_zero, List.getElem_cons_succ]; go_simp; refine hK.out _ _ ?_ (fun hHeld => ?_); focus (intro _; exact KQ.out _ D11.out)); have hHeld := hHeld (by decide); clear hK K; (try simp only [Act.put, List.setIfInBounds_toArray, List.set_cons_zero, List.set_cons_succ])
                refine wpAnyL_done (by kernel_rfl) ?_ _
                go_wp2
                go_meet
                exact X.out
      case rest =>
        obtain ⟨g5, h5, bq2, Aq2, nq2, cq2, br2, Ar2, nr2, cr2, rfl, rfl, hg5, hh5, hne5, G5, H5, hq5, hr5, DC5⟩ := hcut
        obtain ⟨wg, hwg⟩ : ∃ wg, wg = wc := ⟨_, rfl⟩
        have KB4 : Hid (∀ W, Below wg.heap.size wg W → (W.cell? ⟨h5, 0, none⟩ = some (.bool br2) ∧ W.cell? ⟨h5, 1, none⟩ = some (.slice Ar2 nr2 cr2)) ∧ Below we.heap.size we W) := fun W hb => by
          rw [hwg] at hb
          have h3 := H5.below hb H5.lt
          exact ⟨⟨h3.at_ 0 rfl, h3.at_ 1 rfl⟩, KB3.out _ (DC5.trans (hb.mono DC5.size))⟩
        have VO : Hid (∀ W, Below wg.heap.size wg W → ZV W (.agg #[.bool br2, .slice Ar2 nr2 cr2]) od) := fun W hb => by
          rw [hwg] at hb
          exact (hr5.below hb).v
        have D : Hid (Below wg.heap.size wg wc) := by rw [hwg]; exact Below.refl _ _
        clear hwg hg5 hh5 hne5 G5 H5 hq5 hr5 DC5 KB3 D5 NN DZ2 VQ0
        obtain ⟨k0, k1⟩ := (KB4.out _ D.out).1
        obtain ⟨⟨c0, c1'⟩, -, -⟩ := (KB.out _ (KB4.out _ D.out).2).1
        rcases kk with ⟨rfl, rfl⟩ | ⟨rfl, rfl, rfl⟩ | ⟨rfl, rfl, rfl⟩ | ⟨rfl, rfl⟩
        · as_aux_lemma =>
            go_upto_region 10 with (first
              | (go_at_call 44; (with_reducible refine (SO.out _ _ (VO.out _ D.out)).mono ?_); rintro e w5 ⟨rfl, hb5⟩; have D := Lib.hid (D.out.trans (hb5.mono D.out.size)); obtain ⟨⟨c0, c1'⟩, -, -⟩ := (KB.out _ (KB4.out _ D.out).2).1; clear hb5))
            have D := Lib.hid D.out.drew
            clear c0 c1' k0 k1
            (refine wp_region_L (S := fun w' => (w'.cell? ⟨g3 + 1, 0, none⟩ = some (.bool br) ∧ w'.cell? ⟨g3 + 1, 1, none⟩ = some (.slice Ar nr cr)) ∧ (w'.cell? ⟨g2, 0, none⟩ = some (.bool bb) ∧ w'.cell? ⟨g2, 1, none⟩ = some (.slice Ab nb cb))) (nl := 4) (by kernel_rfl) ?_ (fun hHeld => ?_); focus (have hh := (KB.out _ (KB4.out _ D.out).2).1; exact ⟨hh.1, hh.2.1⟩))
            (refine wpAnyL_take (i := 0) (oi := _) (v := ?_) rfl (by kernel_rfl) (by kernel_rfl) (by kernel_rfl) (fun _ _ _ h => h) (Or.inl ⟨by first | rfl | kernel_rfl, ?hy39⟩) (by assumption) ?rs39; (case hy39 => (intro w hSw; (try dsimp only at hSw); go_simp; first | done | with_reducible rfl)); case' rs39 => (simp only [List.getElem_toArray, List.getElem_cons_zero, List.getElem_cons_succ, Act.put, List.setIfInBounds_toArray, List.set_cons_zero, List.set_cons_succ])); (refine wpAnyL_take (i := 1) (oi := _) (v := ?_) rfl (by kernel_rfl) (by kernel_rfl) (by kernel_rfl) (fun _ _ _ h => h) (Or.inl ⟨by first | rfl | kernel_rfl, ?hy40⟩) (by assumption) ?rs40; (case hy40 => (intro w hSw; (try dsimp only at hSw); go_simp; first | done | with_reducible rfl)); case' rs40 => (simp only [List.getElem_toArray, List.getElem_cons_zero, List.getElem_cons_succ, Act.put, List.setIfInBounds_toArray, List.set_cons_zero, List.set_cons_succ])); skip
            (refine wpAnyL_one (i := 2) (o := _) (by kernel_rfl) rfl (fun K hK => ?_); clear hHeld; simp only [List.getElem_toArray, List.getElem_cons_zero, List.getElem_cons_succ]; go_simp; (go_at_call 42; (with_reducible refine (AB.out _ _ (VB.out _ (KB4.out _ D.out).2)).mono ?_); rintro e w7 ⟨_, rfl, h7, hb7⟩; obtain ⟨b7, A7, n7, c7, rfl, h7⟩ := h7; have h7 := Lib.hid h7.v; have D := Lib.hid (D.out.trans (hb7.mono D.out.size)); clear hb7); refine hK.out _ _ ?_ (fun hHeld => ?_); focus (intro _; have hh := (KB.out _ (KB4.out _ D.out).2).1; exact ⟨hh.1, hh.2.1⟩)); have hHeld := hHeld (by decide); clear hK K; (try simp only [Act.put, List.setIfInBounds_toArray, List.set_cons_zero, List.set_cons_succ])
            (refine wpAnyL_one (i := 3) (o := _) (by kernel_rfl) rfl (fun K hK => ?_); clear hHeld; simp only [List.getElem_toArray, List.getElem_cons_zero, List.getElem_cons_succ]; go_simp; (go_at_call 45; (with_reducible refine (SU.out _ _ _ (VR.out _ (KB4.out _ D.out).2).v h7.out).mono ?_); rintro e w8 ⟨_, rfl, ⟨b8, A8, n8, c8, rfl, h8⟩, hb8⟩; have D := Lib.hid (D.out.trans (hb8.mono D.out.size)); clear hb8 h7); refine hK.out _ _ ?_ (fun hHeld => ?_); focus (intro _; have hh := (KB.out _ (KB4.out _ D.out).2).1; exact ⟨hh.1, hh.2.1⟩)); have hHeld := hHeld (by decide); clear hK K; (try simp only [Act.put, List.setIfInBounds_toArray, List.set_cons_zero, List.set_cons_succ])
            have Bg := FG.out _ (KB4.out _ D.out).2
            have c0 := Bg.at_ 0 rfl; have c1' := Bg.at_ 1 rfl; have f0 := Bg.frozen 0; have f1 := Bg.frozen 1
            have DS := below_set2 (KB.out _ (KB4.out _ D.out).2).2 HG4.out (.bool b8) (.slice A8 n8 c8)
            have VS := ZL.box h8.zl c0 c1' (.bool b8) (.slice A8 n8 c8)
            have GS := Bg.set2 (.bool b8) (.slice A8 n8 c8)
            have DS := Lib.hid DS; have VS := Lib.hid VS; have GS := Lib.hid GS
            clear Bg h8
            (refine wpAnyL_one (i := 4) (o := _) (by kernel_rfl) rfl (fun K hK => ?_); clear hHeld; simp only [List.getElem_toArray, List.getElem_cons_zero, List.getElem_cons_succ]; go_simp; refine hK.out _ _ ?_ (fun hHeld => ?_); focus (intro h; exact absurd h (by decide))); clear hK K; (try simp only [Act.put, List.setIfInBounds_toArray, List.set_cons_zero, List.set_cons_succ])
            refine wpAnyL_done (by kernel_rfl) ?_ _
            go_upto_region 11 with fail
            clear c0 c1' f0 f1
            obtain ⟨wS, hwS⟩ : ∃ wS, (w8.setCell ⟨g3 + 1, 0, none⟩ (.bool b8)).setCell ⟨g3 + 1, 1, none⟩ (.slice A8 n8 c8) = wS := ⟨_, rfl⟩
            rw [hwS] at DS VS GS ⊢
            have s0 := GS.out.at_ 0 rfl; have s1 := GS.out.at_ 1 rfl
            clear hwS D
            rcases sR with ⟨hR0, hs, rfl⟩ | ⟨hs, l, hl⟩
            · rw [hs] at SR
              clear hR0 hs
              go_wp2_with (first
                | (go_at_call 44; (with_reducible refine (SR.out _ _ VS.out.v).mono ?_); rintro e w9 ⟨rfl, hb9⟩; have DS := Lib.hid (DS.out.trans (hb9.mono DS.out.size)); clear hb9)
                | (go_at_call 47; (with_reducible refine (MX.out _).mono ?_); rintro e w11 ⟨rfl, rfl⟩)
                | (go_at_call 46; (with_reducible refine (SG0.out _ _).mono ?_); rintro e w10 ⟨rfl, rfl⟩))
              go_ret
              exact ⟨rfl, DS.out⟩
            · have RD := Lib.hid hl
              clear hl
              go_wp2_with (first
                | (go_at_call 44; (with_reducible refine (SR.out _ _ VS.out.v).mono ?_); rintro e w9 ⟨rfl, hb9⟩; have DS := Lib.hid (DS.out.trans (hb9.mono DS.out.size)); have VS := Lib.hid (VS.out.below hb9); have GS := Lib.hid (GS.out.below hb9 GS.out.lt); have s0 := GS.out.at_ 0 rfl; have s1 := GS.out.at_ 1 rfl; clear hb9)
                | (go_at_call 48; (with_reducible refine (RD.out _ _ _ _ _ VS.out).mono ?_); rintro e w10 ⟨rfl, hb9⟩; have DS := Lib.hid (DS.out.trans (hb9.mono DS.out.size)); clear hb9))
              go_ret
              exact ⟨rfl, DS.out⟩
        · as_aux_lemma =>
            go_upto_region 10 with (first
              | (go_at_call 44; (with_reducible refine (SO.out _ _ (VO.out _ D.out)).mono ?_); rintro e w5 ⟨rfl, hb5⟩; have D := Lib.hid (D.out.trans (hb5.mono D.out.size)); obtain ⟨⟨c0, c1'⟩, -, -⟩ := (KB.out _ (KB4.out _ D.out).2).1; clear hb5))
            have D := Lib.hid D.out.drew
            clear c0 c1' k0 k1
            (refine wp_region_L (S := fun w' => (w'.cell? ⟨g3 + 1, 0, none⟩ = some (.bool br) ∧ w'.cell? ⟨g3 + 1, 1, none⟩ = some (.slice Ar nr cr)) ∧ (w'.cell? ⟨g2, 0, none⟩ = some (.bool bb) ∧ w'.cell? ⟨g2, 1, none⟩ = some (.slice Ab nb cb))) (nl := 4) (by kernel_rfl) ?_ (fun hHeld => ?_); focus (have hh := (KB.out _ (KB4.out _ D.out).2).1; exact ⟨hh.1, hh.2.1⟩))
            (refine wpAnyL_take (i := 0) (oi := _) (v := ?_) rfl (by kernel_rfl) (by kernel_rfl) (by kernel_rfl) (fun _ _ _ h => h) (Or.inl ⟨by first | rfl | kernel_rfl, ?hy41⟩) (by assumption) ?rs41; (case hy41 => (intro w hSw; (try dsimp only at hSw); go_simp; first | done | with_reducible rfl)); case' rs41 => (simp only [List.getElem_toArray, List.getElem_cons_zero, List.getElem_cons_succ, Act.put, List.setIfInBounds_toArray, List.set_cons_zero, List.set_cons_succ])); (refine wpAnyL_take (i := 1) (oi := _) (v := ?_) rfl (by kernel_rfl) (by kernel_rfl) (by kernel_rfl) (fun _ _ _ h => h) (Or.inl ⟨by first | rfl | kernel_rfl, ?hy42⟩) (by assumption) ?rs42; (case hy42 => (intro w hSw; (try dsimp only at hSw); go_simp; first | done | with_reducible rfl)); case' rs42 => (simp only [List.getElem_toArray, List.getElem_cons_zero, List.getElem_cons_succ, Act.put, List.setIfInBounds_toArray, List.set_cons_zero, List.set_cons_succ])); skip
            (refine wpAnyL_one (i := 2) (o := _) (by kernel_rfl) rfl (fun K hK => ?_); clear hHeld; simp only [List.getElem_toArray, List.getElem_cons_zero, List.getElem_cons_succ]; go_simp; (go_at_call 42; (with_reducible refine (AB.out _ _ (VB.out _ (KB4.out _ D.out).2)).mono ?_); rintro e w7 ⟨_, rfl, h7, hb7⟩; obtain ⟨b7, A7, n7, c7, rfl, h7⟩ := h7; have h7 := Lib.hid h7.v; have D := Lib.hid (D.out.trans (hb7.mono D.out.size)); clear hb7); refine hK.out _ _ ?_ (fun hHeld => ?_); focus (intro _; have hh := (KB.out _ (KB4.out _ D.out).2).1; exact ⟨hh.1, hh.2.1⟩)); have hHeld := hHeld (by decide); clear hK K; (try simp only [Act.put, List.setIfInBounds_toArray, List.set_cons_zero, List.set_cons_succ])
            (refine wpAnyL_one (i := 3) (o := _) (by kernel_rfl) rfl (fun K hK => ?_); clear hHeld; simp only [List.getElem_toArray, List.getElem_cons_zero, List.getElem_cons_succ]; go_simp; (go_at_call 45; (with_reducible refine (SU.out _ _ _ (VR.out _ (KB4.out _ D.out).2).v h7.out).mono ?_); rintro e w8 ⟨_, rfl, ⟨b8, A8, n8, c8, rfl, h8⟩, hb8⟩; have D := Lib.hid (D.out.trans (hb8.mono D.out.size)); clear hb8 h7); refine hK.out _ _ ?_ (fun hHeld => ?_); focus (intro _; have hh := (KB.out _ (KB4.out _ D.out).2).1; exact ⟨hh.1, hh.2.1⟩)); have hHeld := hHeld (by decide); clear hK K; (try simp only [Act.put, List.setIfInBounds_toArray, List.set_cons_zero, List.set_cons_succ])
            have Bg := FG.out _ (KB4.out _ D.out).2
            have c0 := Bg.at_ 0 rfl; have c1' := Bg.at_ 1 rfl; have f0 := Bg.frozen 0; have f1 := Bg.frozen 1
            have DS := below_set2 (KB.out _ (KB4.out _ D.out).2).2 HG4.out (.bool b8) (.slice A8 n8 c8)
            have VS := ZL.box h8.zl c0 c1' (.bool b8) (.slice A8 n8 c8)
            have GS := Bg.set2 (.bool b8) (.slice A8 n8 c8)
            have DS := Lib.hid DS; have VS := Lib.hid VS; have GS := Lib.hid GS
            clear Bg h8
            (refine wpAnyL_one (i := 4) (o := _) (by kernel_rfl) rfl (fun K hK => ?_); clear hHeld; simp only [List.getElem_toArray, List.getElem_cons_zero, List.getElem_cons_succ]; go_simp; refine hK.out _ _ ?_ (fun hHeld => ?_); focus (intro h; exact absurd h (by decide))); clear hK K; (try simp only [Act.put, List.setIfInBounds_toArray, List.set_cons_zero, List.set_cons_succ])
            refine wpAnyL_done (by kernel_rfl) ?_ _
            go_upto_region 11 with fail
            clear c0 c1' f0 f1
            obtain ⟨wS, hwS⟩ : ∃ wS, (w8.setCell ⟨g3 + 1, 0, none⟩ (.bool b8)).setCell ⟨g3 + 1, 1, none⟩ (.slice A8 n8 c8) = wS := ⟨_, rfl⟩
            rw [hwS] at DS VS GS ⊢
            have s0 := GS.out.at_ 0 rfl; have s1 := GS.out.at_ 1 rfl
            clear hwS D
            rcases sR with ⟨hR0, hs, rfl⟩ | ⟨hs, l, hl⟩
            · rw [hs] at SR
              clear hR0 hs
              go_wp2_with (first
                | (go_at_call 44; (with_reducible refine (SR.out _ _ VS.out.v).mono ?_); rintro e w9 ⟨rfl, hb9⟩; have DS := Lib.hid (DS.out.trans (hb9.mono DS.out.size)); clear hb9)
                | (go_at_call 47; (with_reducible refine (MX.out _).mono ?_); rintro e w11 ⟨rfl, rfl⟩)
                | (go_at_call 46; (with_reducible refine (SG0.out _ _).mono ?_); rintro e w10 ⟨rfl, rfl⟩))
              go_ret
              exact ⟨rfl, DS.out⟩
            · have RD := Lib.hid hl
              clear hl
              go_wp2_with (first
                | (go_at_call 44; (with_reducible refine (SR.out _ _ VS.out.v).mono ?_); rintro e w9 ⟨rfl, hb9⟩; have DS := Lib.hid (DS.out.trans (hb9.mono DS.out.size)); have VS := Lib.hid (VS.out.below hb9); have GS := Lib.hid (GS.out.below hb9 GS.out.lt); have s0 := GS.out.at_ 0 rfl; have s1 := GS.out.at_ 1 rfl; clear hb9)
                | (go_at_call 48; (with_reducible refine (RD.out _ _ _ _ _ VS.out).mono ?_); rintro e w10 ⟨rfl, hb9⟩; have DS := Lib.hid (DS.out.trans (hb9.mono DS.out.size)); clear hb9))
              go_ret
              exact ⟨rfl, DS.out⟩
        · as_aux_lemma =>
            rcases sR with ⟨hR0, hs, rfl⟩ | ⟨hs, l, hl⟩
            · rw [hs] at SR
              clear hR0 hs
              go_wp2_with (first
                | (go_at_call 44; (with_reducible refine (SO.out _ _ (VO.out _ D.out)).mono ?_); rintro e w5 ⟨rfl, hb5⟩; have D := Lib.hid (D.out.trans (hb5.mono D.out.size)); obtain ⟨⟨c0, c1'⟩, -, -⟩ := (KB.out _ (KB4.out _ D.out).2).1; clear hb5)
                | (go_at_call 44; (with_reducible refine (SR.out _ _ (VR.out _ (KB4.out _ D.out).2).v).mono ?_); rintro e w9 ⟨rfl, hb9⟩; have D := Lib.hid (D.out.trans (hb9.mono D.out.size)); obtain ⟨⟨c0, c1'⟩, -, -⟩ := (KB.out _ (KB4.out _ D.out).2).1; clear hb9)
                | (go_at_call 47; (with_reducible refine (MX.out _).mono ?_); rintro e w11 ⟨rfl, rfl⟩)
                | (go_at_call 46; (with_reducible refine (SG0.out _ _).mono ?_); rintro e w10 ⟨rfl, rfl⟩))
              go_ret
              exact ⟨rfl, (KB.out _ (KB4.out _ D.out).2).2⟩
            · have RD := Lib.hid hl
              clear hl
              go_wp2_with (first
                | (go_at_call 44; (with_reducible refine (SO.out _ _ (VO.out _ D.out)).mono ?_); rintro e w5 ⟨rfl, hb5⟩; have D := Lib.hid (D.out.trans (hb5.mono D.out.size)); obtain ⟨⟨c0, c1'⟩, -, -⟩ := (KB.out _ (KB4.out _ D.out).2).1; clear hb5)
                | (go_at_call 44; (with_reducible refine (SR.out _ _ (VR.out _ (KB4.out _ D.out).2).v).mono ?_); rintro e w9 ⟨rfl, hb9⟩; have D := Lib.hid (D.out.trans (hb9.mono D.out.size)); obtain ⟨⟨c0, c1'⟩, -, -⟩ := (KB.out _ (KB4.out _ D.out).2).1; clear hb9)
                | (go_at_call 48; (with_reducible refine (RD.out _ _ _ _ _ (VR.out _ (KB4.out _ D.out).2)).mono ?_); rintro e w10 ⟨rfl, hb9⟩; have D := Lib.hid (D.out.trans (hb9.mono D.out.size)); clear hb9))
              go_ret
              exact ⟨rfl, (KB.out _ (KB4.out _ D.out).2).2⟩
        · as_aux_lemma =>
            rcases sR with ⟨hR0, hs, rfl⟩ | ⟨hs, l, hl⟩
            · rw [hs] at SR
              clear hR0 hs
              go_wp2_with (first
                | (go_at_call 44; (with_reducible refine (SO.out _ _ (VO.out _ D.out)).mono ?_); rintro e w5 ⟨rfl, hb5⟩; have D := Lib.hid (D.out.trans (hb5.mono D.out.size)); obtain ⟨⟨c0, c1'⟩, -, -⟩ := (KB.out _ (KB4.out _ D.out).2).1; clear hb5)
                | (go_at_call 44; (with_reducible refine (SR.out _ _ (VR.out _ (KB4.out _ D.out).2).v).mono ?_); rintro e w9 ⟨rfl, hb9⟩; have D := Lib.hid (D.out.trans (hb9.mono D.out.size)); obtain ⟨⟨c0, c1'⟩, -, -⟩ := (KB.out _ (KB4.out _ D.out).2).1; clear hb9)
                | (go_at_call 47; (with_reducible refine (MX.out _).mono ?_); rintro e w11 ⟨rfl, rfl⟩)
                | (go_at_call 46; (with_reducible refine (SG0.out _ _).mono ?_); rintro e w10 ⟨rfl, rfl⟩))
              go_ret
              exact ⟨rfl, (KB.out _ (KB4.out _ D.out).2).2⟩
            · have RD := Lib.hid hl
              clear hl
              go_wp2_with (first
                | (go_at_call 44; (with_reducible refine (SO.out _ _ (VO.out _ D.out)).mono ?_); rintro e w5 ⟨rfl, hb5⟩; have D := Lib.hid (D.out.trans (hb5.mono D.out.size)); obtain ⟨⟨c0, c1'⟩, -, -⟩ := (KB.out _ (KB4.out _ D.out).2).1; clear hb5)
                | (go_at_call 44; (with_reducible refine (SR.out _ _ (VR.out _ (KB4.out _ D.out).2).v).mono ?_); rintro e w9 ⟨rfl, hb9⟩; have D := Lib.hid (D.out.trans (hb9.mono D.out.size)); obtain ⟨⟨c0, c1'⟩, -, -⟩ := (KB.out _ (KB4.out _ D.out).2).1; clear hb9)
                | (go_at_call 48; (with_reducible refine (RD.out _ _ _ _ _ (VR.out _ (KB4.out _ D.out).2)).mono ?_); rintro e w10 ⟨rfl, hb9⟩; have D := Lib.hid (D.out.trans (hb9.mono D.out.size)); clear hb9))
              go_ret
              exact ⟨rfl, (KB.out _ (KB4.out _ D.out).2).2⟩
end JC
end Go.Proofs.YtpmjeipdldnnbaaDoor
