/-
  The document's root.
-/
import Derived.Test.YtpmjeipdldnnbaaGreatDoorJ16
import Derived.Test.YtpmjeipdldnnbaaGreatDoorJ5
import Derived.Test.YtpmjeipdldnnbaaGreatDoorP11
import Derived.Test.YtpmjeipdldnnbaaGreatDoorHeld3
namespace Go.Proofs.YtpmjeipdldnnbaaGreatDoor
set_option linter.unusedVariables false
set_option linter.unusedSimpArgs false
open Go.RowKit
set_option linter.unusedVariables false
set_option linter.unusedSimpArgs false
namespace JC
open Z (Nz Tz cmpv big)
open ZC DC RC QC SC VC PC
theorem num_pos {n : Int} (h : 0 ≤ n) : F.num n = n := by unfold F.num; rw [if_neg (by omega)]
set_option maxRecDepth 100000 in
set_option maxHeartbeats 16000000 in
theorem RootOf_c (x mode : Int) (w : World) (hx : 0 ≤ x ∧ x ≤ 18446744073709551615) (hm : 0 ≤ mode ∧ mode ≤ 4) :
    Calls Tryz.prog 10 #[.int .u64 x, .int .i64 mode] w fun e w' => e = .returned (.tuple #[.int .u64 (ST x mode).1, .bool (ST x mode).2.1]) ∧ Below w.heap.size w w' := by
  have MX : Hid (∀ W : World, Calls Tryz.prog 21 #[.int .u64 x] W fun e w' => e = .returned (.bool (F.sgn x)) ∧ W = w') := fun W => Minus_v x W
  have NX : Hid (∀ W : World, Calls Tryz.prog 22 #[.int .u64 x] W fun e w' => e = .returned (.bool (F.cls x == 5)) ∧ W = w') := fun W => IsNan_c x hx.1 hx.2 W
  have IX : Hid (∀ W : World, Calls Tryz.prog 23 #[.int .u64 x] W fun e w' => e = .returned (.bool (F.cls x == 4)) ∧ W = w') := fun W => IsInf_c x hx.1 hx.2 W
  have ZX : Hid (∀ W : World, Calls Tryz.prog 24 #[.int .u64 x] W fun e w' => e = .returned (.bool (F.cls x == 1)) ∧ W = w') := fun W => IsZero_c x hx.1 hx.2 W
  have QN : Hid (∀ W : World, Calls Tryz.prog 25 #[] W fun e w' => e = .returned (.int .u64 9221120237041090560) ∧ W = w') := fun W => QuietNan_c W
  have ci := cls_inf hx.1 hx.2
  by_cases h : F.cls x = 1 ∨ x = 9218868437227405312
  · rw [ST_self hm h]
    have k : ((F.cls x == 5) = false ∧ (F.cls x == 1) = true ∧ F.sgn x = false) ∨ ((F.cls x == 5) = false ∧ (F.cls x == 1) = true ∧ F.sgn x = true) ∨ ((F.cls x == 5) = false ∧ (F.cls x == 1) = false ∧ F.sgn x = false ∧ (F.cls x == 4) = true) := by
      rcases h with h | h
      · cases hs : F.sgn x
        · exact .inl ⟨by rw [h]; decide, by rw [h]; decide, rfl⟩
        · exact .inr (.inl ⟨by rw [h]; decide, by rw [h]; decide, rfl⟩)
      · rw [h]; exact .inr (.inr ⟨by decide, by decide, by decide, by decide⟩)
    clear h ci hx hm
    generalize (F.cls x == 5) = n5 at *
    generalize (F.cls x == 1) = n1 at *
    generalize (F.cls x == 4) = n4 at *
    generalize F.sgn x = sg at *
    rcases k with ⟨rfl, rfl, rfl⟩ | ⟨rfl, rfl, rfl⟩ | ⟨rfl, rfl, rfl, rfl⟩
    all_goals (
      go_enter Tryz.func10, Tryz.ntmps10
      go_wp2_with (first
        | (go_at_call 22; (with_reducible refine (NX.out _).mono ?_); rintro e v1 ⟨rfl, rfl⟩)
        | (go_at_call 21; (with_reducible refine (MX.out _).mono ?_); rintro e v2 ⟨rfl, rfl⟩)
        | (go_at_call 24; (with_reducible refine (ZX.out _).mono ?_); rintro e v3 ⟨rfl, rfl⟩)
        | (go_at_call 23; (with_reducible refine (IX.out _).mono ?_); rintro e v4 ⟨rfl, rfl⟩)
        | (go_at_call 25; (with_reducible refine (QN.out _).mono ?_); rintro e v5 ⟨rfl, rfl⟩))
      go_ret2
      exact ⟨rfl, Below.refl _ _⟩)
  · by_cases h' : F.cls x = 5 ∨ F.sgn x = true
    · rw [ST_nan hm h h']
      have k : ((F.cls x == 5) = true) ∨ ((F.cls x == 5) = false ∧ (F.cls x == 1) = false ∧ F.sgn x = true) := by
        by_cases h5 : F.cls x = 5
        · exact .inl (by simp [h5])
        · exact .inr ⟨by simp [h5], by simp; exact fun k => h (.inl k), h'.resolve_left h5⟩
      clear h h' ci hx hm
      generalize (F.cls x == 5) = n5 at *
      generalize (F.cls x == 1) = n1 at *
      generalize (F.cls x == 4) = n4 at *
      generalize F.sgn x = sg at *
      rcases k with rfl | ⟨rfl, rfl, rfl⟩
      all_goals (
        go_enter Tryz.func10, Tryz.ntmps10
        go_wp2_with (first
          | (go_at_call 22; (with_reducible refine (NX.out _).mono ?_); rintro e v1 ⟨rfl, rfl⟩)
          | (go_at_call 21; (with_reducible refine (MX.out _).mono ?_); rintro e v2 ⟨rfl, rfl⟩)
          | (go_at_call 24; (with_reducible refine (ZX.out _).mono ?_); rintro e v3 ⟨rfl, rfl⟩)
          | (go_at_call 23; (with_reducible refine (IX.out _).mono ?_); rintro e v4 ⟨rfl, rfl⟩)
          | (go_at_call 25; (with_reducible refine (QN.out _).mono ?_); rintro e v5 ⟨rfl, rfl⟩))
        go_ret2
        exact ⟨rfl, Below.refl _ _⟩)
    · obtain ⟨fx, vx, hs⟩ := st_fi hx h h'
      rw [hs] at MX
      rw [show (F.cls x == 5) = false by simp; exact fun k => h' (.inl k)] at NX
      rw [show (F.cls x == 1) = false by simp; exact fun k => h (.inl k)] at ZX
      rw [show (F.cls x == 4) = false by
        simp
        intro k
        rcases ci.1 k with rfl | rfl
        · exact h (.inr rfl)
        · exact absurd hs (by decide)] at IX
      obtain ⟨M0, hM0⟩ : ∃ M0 : Nat, M0 = 2200 := ⟨_, rfl⟩
      obtain ⟨T0, hT0⟩ : ∃ T0 : Nat, T0 = 1100 := ⟨_, rfl⟩
      have ev : val x = ab x := by rw [val_ab fx, hs]; rfl
      have sp := ab_pos fx vx
      have QVx : Hid (∀ (W : World), Calls Tryz.prog 29 #[.int .u64 x] W (RetSF M0 T0 W (ab x))) := fun W => by rw [hM0, hT0, ← ev]; exact QVal_v x W fx
      have KT := fun l hl => root_tells (mode := mode) (l := l) hx hm h h' hl
      obtain ⟨r1, hr1⟩ : ∃ r, (ST x mode).1 = r := ⟨_, rfl⟩
      obtain ⟨r2, hr2⟩ : ∃ r, (ST x mode).2.1 = r := ⟨_, rfl⟩
      rw [hr1, hr2]
      have KT : Hid (∀ l, RR (ab x) l → (W2 l = ab x → r1 = l ∧ r2 = false) ∧ (W2 l ≠ ab x → r1 = (if mode = 1 ∨ ((mode = 0 ∨ mode = 4) ∧ (U l + U (l + 1)) * (U l + U (l + 1)) < 4 * (ab x * 2 ^ KN)) then l + 1 else l) ∧ r2 = true)) := fun l hl => by
        refine ⟨fun k => ?_, fun k => ?_⟩
        · rw [(KT l hl).1 k] at hr1 hr2
          exact ⟨hr1.symm, hr2.symm⟩
        · rw [(KT l hl).2 k] at hr1 hr2
          exact ⟨hr1.symm, hr2.symm⟩
      clear hr1 hr2
      generalize ab x = s at *
      have RK : Hid (∀ (W : World) (u : Value), QS M0 T0 W u s → Calls Tryz.prog 30 #[u] W fun e w' => ∃ l, e = .returned (.int .i64 l) ∧ RR s l ∧ Below W.heap.size W w') := fun W u hu => RootRank_s u s W hu (by omega) (by omega) sp
      obtain ⟨M1, hM1⟩ : ∃ M1 : Nat, M1 = 1100 := ⟨_, rfl⟩
      have RV : Hid (∀ (W : World) (n : Int), 0 ≤ n → n ≤ 9218868437227405312 → Calls Tryz.prog 31 #[.int .i64 n] W (RetS M1 M1 W (U n))) := fun W n h0 h1 => by rw [hM1, ← SV_pos h0]; exact rankVal_s n W (by omega) h1
      have QM : Hid (∀ (W : World) (v : Value) (m : Int), 0 ≤ m → QS M1 M1 W v (U m) → Calls Tryz.prog 33 #[v, v] W (RetS (M1 + M1) (M1 + M1) W (W2 m))) := fun W v m h0 hv => QMul_s hv hv (by omega) (by omega) (by omega) (by omega) KN_eq (by rw [W2_mul])
      have QC1 : Hid (∀ (W : World) (u v : Value) (a : Int), QS (M1 + M1) (M1 + M1) W u a → QS M0 T0 W v s → Calls Tryz.prog 32 #[u, v] W fun e w' => e = .returned (.int .i64 (cmpv a s)) ∧ Below W.heap.size W w') := fun W u v a h1 h2 => QCmp_s h1 h2 (by omega) (by omega) (by omega) (by omega)
      obtain ⟨M9, hM9⟩ : ∃ M9 : Nat, M9 = M1 + M1 + M1 + M1 + 1 := ⟨_, rfl⟩
      have QA : Hid (∀ (W : World) (u v : Value) (a b : Int), QS M1 M1 W u a → QS M1 M1 W v b → Calls Tryz.prog 35 #[u, v] W (RetS M9 (M1 + M1) W (a + b))) := fun W u v a b h1 h2 => by rw [hM9]; exact QAdd_s h1 h2 (by omega) (by omega) (by omega) (by omega)
      have QM2 : Hid (∀ (W : World) (v : Value) (a p : Int), p * 2 ^ KN = a * a → QS M9 (M1 + M1) W v a → Calls Tryz.prog 33 #[v, v] W (RetS (M9 + M9) (M1 + M1 + (M1 + M1)) W p)) := fun W v a p h0 hv => QMul_s hv hv (by omega) (by omega) (by omega) (by omega) KN_eq h0
      have QH : Hid (∀ (W : World) (v : Value), QS M0 T0 W v s → Calls Tryz.prog 36 #[v, .int .i64 2] W (RetS (M0 + 2) T0 W (s * 4))) := fun W v hv => QShift2_s hv (by omega) (by omega)
      have QC2 : Hid (∀ (W : World) (u v : Value) (a b : Int), QS (M0 + 2) T0 W u a → QS (M9 + M9) (M1 + M1 + (M1 + M1)) W v b → Calls Tryz.prog 32 #[u, v] W fun e w' => e = .returned (.int .i64 (cmpv a b)) ∧ Below W.heap.size W w') := fun W u v a b h1 h2 => QCmp_s h1 h2 (by omega) (by omega) (by omega) (by omega)
      have RD : Hid (∀ (W : World) (n : Int), 0 ≤ n → n ≤ 9218868437227405312 → Calls Tryz.prog 34 #[.int .i64 n] W fun e w' => e = .returned (.int .u64 n) ∧ W = w') := fun W n h0 h1 => by
        have := FloatR.Ranked_c n (by omega) h1 W
        rwa [num_pos h0] at this
      have k5 : mode = 0 ∨ mode = 1 ∨ mode = 2 ∨ mode = 3 ∨ mode = 4 := by omega
      clear hM0 hT0 hM1 hM9 h h' ci hx hm fx vx hs ev sp
      go_enter Tryz.func10, Tryz.ntmps10
      go_upto_region 8 with (first
        | (go_at_call 22; (with_reducible refine (NX.out _).mono ?_); rintro e v1 ⟨rfl, rfl⟩)
        | (go_at_call 21; (with_reducible refine (MX.out _).mono ?_); rintro e v2 ⟨rfl, rfl⟩)
        | (go_at_call 24; (with_reducible refine (ZX.out _).mono ?_); rintro e v3 ⟨rfl, rfl⟩)
        | (go_at_call 23; (with_reducible refine (IX.out _).mono ?_); rintro e v4 ⟨rfl, rfl⟩)
        | (go_at_call 25; (with_reducible refine (QN.out _).mono ?_); rintro e v5 ⟨rfl, rfl⟩)
        | (go_at_call 29; (with_reducible refine (QVx.out _).mono ?_); rintro e w1 ⟨b1, A1, n1, c1, t1, z1, rfl, y1, y2, y3, y4, y5, y6, hb⟩; have N1 := Blk.new w1 57 #[.bool b1, .slice A1 n1 c1, .int .i64 t1]; have al := al1 w1 (.cells #[.bool b1, .slice A1 n1 c1, .int .i64 t1] 57); have Q1 := Lib.hid ((RetS.qs y1 y2 y3 y4 y5).below al); have D := Lib.hid (hb.trans (al.mono hb.size)); clear y1 y2 y3 y4 y5 y6 hb al; have a0 := N1.at_ 0 rfl; have a1 := N1.at_ 1 rfl; have a2 := N1.at_ 2 rfl)
        | (go_at_call 30; (with_reducible refine (RK.out _ _ Q1.out).mono ?_); rintro e w2 ⟨l, rfl, hl, hb⟩; have N1 := N1.below hb N1.lt; have Q1 := Lib.hid (Q1.out.below hb); have D := Lib.hid (D.out.trans (hb.mono D.out.size)); have l0 : 0 ≤ l := hl.1; have l1 : l ≤ 9218868437227405312 := (by have := hl.2.1; omega); have l2 : l + 1 ≤ 9218868437227405312 := (by have := hl.2.1; omega); have hl := Lib.hid hl; clear hb)
        | (go_at_call 31; (with_reducible refine (RV.out _ _ l0 l1).mono ?_); rintro e w3 ⟨b3, A3, n3, c3, t3, z3, rfl, y1, y2, y3, y4, y5, hb⟩; have N3 := Blk.new w3 57 #[.bool b3, .slice A3 n3 c3, .int .i64 t3]; have al := al1 w3 (.cells #[.bool b3, .slice A3 n3 c3, .int .i64 t3] 57); have Q3 := Lib.hid ((RetS.qs y1 y2 y3 y4 y5).below al); have N1 := (N1.below hb N1.lt).below al (N1.below hb N1.lt).lt; have Q1 := Lib.hid ((Q1.out.below hb).below al); have D := Lib.hid (D.out.trans ((hb.trans (al.mono hb.size)).mono D.out.size)); clear y1 y2 y3 y4 y5 hb al))
      obtain ⟨WA, hWA⟩ : ∃ WA, w3.alloc (.cells #[.bool b3, .slice A3 n3 c3, .int .i64 t3] 57) = WA := ⟨_, rfl⟩
      obtain ⟨g1, hg1⟩ : ∃ g, w1.heap.size = g := ⟨_, rfl⟩
      obtain ⟨g3, hg3⟩ : ∃ g, w3.heap.size = g := ⟨_, rfl⟩
      rw [hWA] at N1 N3 Q1 Q3 D ⊢
      rw [hg1] at N1 ⊢
      rw [hg3] at N3 ⊢
      obtain ⟨we, hwe⟩ : ∃ we, we = WA := ⟨_, rfl⟩
      have KB : Hid (∀ W, Below we.heap.size we W → ((W.cell? ⟨g1, 0, none⟩ = some (.bool b1) ∧ W.cell? ⟨g1, 1, none⟩ = some (.slice A1 n1 c1) ∧ W.cell? ⟨g1, 2, none⟩ = some (.int .i64 t1)) ∧ (W.cell? ⟨g3, 0, none⟩ = some (.bool b3) ∧ W.cell? ⟨g3, 1, none⟩ = some (.slice A3 n3 c3) ∧ W.cell? ⟨g3, 2, none⟩ = some (.int .i64 t3))) ∧ Below w.heap.size w W) := fun W h => by
        rw [hwe] at h
        have h2 := N1.below h N1.lt
        have h3 := N3.below h N3.lt
        exact ⟨⟨⟨h2.at_ 0 rfl, h2.at_ 1 rfl, h2.at_ 2 rfl⟩, ⟨h3.at_ 0 rfl, h3.at_ 1 rfl, h3.at_ 2 rfl⟩⟩, D.out.trans (h.mono D.out.size)⟩
      have VX : Hid (∀ W, Below we.heap.size we W → QS M0 T0 W (.agg #[.bool b1, .slice A1 n1 c1, .int .i64 t1]) s) := fun W h => by
        rw [hwe] at h
        exact Q1.out.below h
      have VV : Hid (∀ W, Below we.heap.size we W → QS M1 M1 W (.agg #[.bool b3, .slice A3 n3 c3, .int .i64 t3]) (U l)) := fun W h => by
        rw [hwe] at h
        exact Q3.out.below h
      have D : Hid (Below we.heap.size we WA.drew) := by rw [hwe]; exact (Below.refl _ _).drew
      obtain ⟨kw, hkw⟩ : ∃ k, cmpv (W2 l) s = k := ⟨_, rfl⟩
      have HKW := Lib.hid hkw
      clear hwe hWA hg1 hg3 N1 N3 Q1 Q3 a0 a1 a2 QVx RK MX NX IX ZX QN
      (refine wp_region_L (S := fun w' => (w'.cell? ⟨g1, 0, none⟩ = some (.bool b1) ∧ w'.cell? ⟨g1, 1, none⟩ = some (.slice A1 n1 c1) ∧ w'.cell? ⟨g1, 2, none⟩ = some (.int .i64 t1)) ∧ (w'.cell? ⟨g3, 0, none⟩ = some (.bool b3) ∧ w'.cell? ⟨g3, 1, none⟩ = some (.slice A3 n3 c3) ∧ w'.cell? ⟨g3, 2, none⟩ = some (.int .i64 t3))) (nl := 1000000) (by kernel_rfl) ?_ (fun hHeld => ?_); focus (exact (KB.out _ D.out).1))
      (refine wpAnyL_take (i := 0) (oi := _) (v := ?_) rfl (by kernel_rfl) (by kernel_rfl) (by kernel_rfl) (fun _ _ _ h => h) (Or.inl ⟨by first | rfl | kernel_rfl, ?hy1⟩) (by assumption) ?rs1; (case hy1 => (intro w hSw; (try dsimp only at hSw); go_simp; first | done | with_reducible rfl)); case' rs1 => (simp only [List.getElem_toArray, List.getElem_cons_zero, List.getElem_cons_succ, Act.put, List.setIfInBounds_toArray, List.set_cons_zero, List.set_cons_succ])); (refine wpAnyL_take (i := 1) (oi := _) (v := ?_) rfl (by kernel_rfl) (by kernel_rfl) (by kernel_rfl) (fun _ _ _ h => h) (Or.inl ⟨by first | rfl | kernel_rfl, ?hy2⟩) (by assumption) ?rs2; (case hy2 => (intro w hSw; (try dsimp only at hSw); go_simp; first | done | with_reducible rfl)); case' rs2 => (simp only [List.getElem_toArray, List.getElem_cons_zero, List.getElem_cons_succ, Act.put, List.setIfInBounds_toArray, List.set_cons_zero, List.set_cons_succ])); (refine wpAnyL_take (i := 3) (oi := _) (v := ?_) rfl (by kernel_rfl) (by kernel_rfl) (by kernel_rfl) (fun _ _ _ h => h) (Or.inl ⟨by first | rfl | kernel_rfl, ?hy3⟩) (by assumption) ?rs3; (case hy3 => (intro w hSw; (try dsimp only at hSw); go_simp; first | done | with_reducible rfl)); case' rs3 => (simp only [List.getElem_toArray, List.getElem_cons_zero, List.getElem_cons_succ, Act.put, List.setIfInBounds_toArray, List.set_cons_zero, List.set_cons_succ])); skip
      (refine wpAnyL_one (i := 2) (o := _) (by kernel_rfl) rfl (fun K hK => ?_); clear hHeld; simp only [List.getElem_toArray, List.getElem_cons_zero, List.getElem_cons_succ]; go_simp; (go_at_call 33; (with_reducible refine (QM.out _ _ _ l0 (VV.out _ D.out)).mono ?_); rintro e w4 ⟨b4, A4, n4, c4, t4, z4, rfl, hz4, y1, y2, y3, y4, hb4⟩; have D := Lib.hid (D.out.trans (hb4.mono D.out.size))); refine hK.out _ _ ?_ (fun hHeld => ?_); focus (intro _; exact (KB.out _ D.out).1)); have hHeld := hHeld (by decide); clear hK K; (try simp only [Act.put, List.setIfInBounds_toArray, List.set_cons_zero, List.set_cons_succ])
      (refine wpAnyL_one (i := 4) (o := _) (by kernel_rfl) rfl (fun K hK => ?_); clear hHeld; simp only [List.getElem_toArray, List.getElem_cons_zero, List.getElem_cons_succ]; go_simp; (go_at_call 32; (with_reducible refine (QC1.out _ _ _ _ (RetS.qs hz4 y1 y2 y3 y4) (VX.out _ D.out)).mono ?_); rintro e wk ⟨rfl, hb5⟩; have D := Lib.hid (D.out.trans (hb5.mono D.out.size))); refine hK.out _ _ ?_ (fun hHeld => ?_); focus (intro _; exact (KB.out _ D.out).1)); have hHeld := hHeld (by decide); clear hK K; (try simp only [Act.put, List.setIfInBounds_toArray, List.set_cons_zero, List.set_cons_succ])
      (refine wpAnyL_take (i := 5) (oi := _) (v := ?_) rfl (by kernel_rfl) (by kernel_rfl) (by kernel_rfl) (fun _ _ _ h => h) (Or.inl ⟨by first | rfl | kernel_rfl, ?hy4⟩) (by assumption) ?rs4; (case hy4 => (intro w hSw; (try dsimp only at hSw); go_simp; first | done | with_reducible rfl)); case' rs4 => (simp only [List.getElem_toArray, List.getElem_cons_zero, List.getElem_cons_succ, Act.put, List.setIfInBounds_toArray, List.set_cons_zero, List.set_cons_succ])); skip
      refine wpAnyL_done (by kernel_rfl) ?_ _
      rw [hkw]
      clear hz4 y1 y2 y3 y4 hb4 hb5 hHeld hkw QM QC1
      by_cases e9 : W2 l = s
      · obtain rfl : kw = 0 := by rw [← HKW.out]; exact Z.cmpv_eq e9
        obtain ⟨rfl, rfl⟩ := (KT.out l hl.out).1 e9
        clear e9 KT HKW RV QA QM2 QH QC2 VX VV hl k5
        go_wp2_with (first
          | (go_at_call 34; (with_reducible refine (RD.out _ _ l0 l1).mono ?_); rintro e w6 ⟨rfl, rfl⟩))
        go_ret2
        exact ⟨rfl, (KB.out _ D.out).2⟩
      · have tk : (kw == 0) = false := by
          have := HKW.out
          rcases Int.lt_trichotomy (W2 l) s with h | h | h
          · rw [Z.cmpv_lt h] at this; rw [← this]; decide
          · exact absurd h e9
          · rw [Z.cmpv_gt h] at this; rw [← this]; decide
        obtain ⟨hr1, rfl⟩ := (KT.out l hl.out).2 e9
        have lp : 0 ≤ l + 1 := by omega
        have i1 : IntKind.i64.wrap (l + 1) = l + 1 := IntWalk.i64_in _ (by omega)
        obtain ⟨p2, hp2⟩ := mid_sq l0
        have hp := PK_pos
        obtain ⟨k2, hk2⟩ : ∃ k, cmpv (s * 4) p2 = k := ⟨_, rfl⟩
        have k3 : (k2 > 0 ∧ (U l + U (l + 1)) * (U l + U (l + 1)) < 4 * (s * 2 ^ KN)) ∨ (¬ k2 > 0 ∧ ¬ (U l + U (l + 1)) * (U l + U (l + 1)) < 4 * (s * 2 ^ KN)) := by
          rw [← hp2, ← Int.mul_assoc, Int.mul_lt_mul_right hp, Int.mul_comm 4]
          rcases Int.lt_trichotomy (s * 4) p2 with h | h | h
          · rw [Z.cmpv_lt h] at hk2; exact .inr ⟨by omega, by omega⟩
          · rw [Z.cmpv_eq h] at hk2; exact .inr ⟨by omega, by omega⟩
          · rw [Z.cmpv_gt h] at hk2; exact .inl ⟨by omega, by omega⟩
        have QM3 : Hid (∀ (W : World) (v : Value), QS M9 (M1 + M1) W v (U l + U (l + 1)) → Calls Tryz.prog 33 #[v, v] W (RetS (M9 + M9) (M1 + M1 + (M1 + M1)) W p2)) := fun W v hv => QM2.out W v _ _ hp2 hv
        have QC3 : Hid (∀ (W : World) (u v : Value), QS (M0 + 2) T0 W u (s * 4) → QS (M9 + M9) (M1 + M1 + (M1 + M1)) W v p2 → Calls Tryz.prog 32 #[u, v] W fun e w' => e = .returned (.int .i64 k2) ∧ Below W.heap.size W w') := fun W u v h1 h2 => by
          rw [← hk2]
          exact QC2.out W u v _ _ h1 h2
        have HR1 := Lib.hid hr1
        clear hr1 e9 KT HKW QM2 QC2 hk2 hp2 hp hl
        go_upto_region 10 with fail
        obtain ⟨wf, hwf⟩ : ∃ wf, wf = wk := ⟨_, rfl⟩
        have KB3 : Hid (∀ W, Below wf.heap.size wf W → Below we.heap.size we W) := fun W hb => by
          rw [hwf] at hb
          exact D.out.trans (hb.mono D.out.size)
        have D5 : Below wf.heap.size wf wk := by rw [hwf]; exact Below.refl _ _
        clear hwf D
        go_cut [9] (fun s9 wx => ∃ g b A n c t', s9 = .pointer (some ⟨g, 0, none⟩) ∧ Hid (Blk wx g 57 #[.bool b, .slice A n c, .int .i64 t'] ∧ QS M9 (M1 + M1) wx (.agg #[.bool b, .slice A n c, .int .i64 t']) (U l + U (l + 1)) ∧ Below wf.heap.size wf wx))
        case first =>
          have KQ : Hid (∀ w', Below wf.heap.size wf w' → w'.cell? ⟨g3, 0, none⟩ = some (.bool b3) ∧ w'.cell? ⟨g3, 1, none⟩ = some (.slice A3 n3 c3) ∧ w'.cell? ⟨g3, 2, none⟩ = some (.int .i64 t3)) := fun W h => (KB.out W (KB3.out W h)).1.2
          clear KB QH VX QM3 QC3 RD HR1 k3 k5
          have D := D5.drew
          (refine wp_region_L (S := fun w' => w'.cell? ⟨g3, 0, none⟩ = some (.bool b3) ∧ w'.cell? ⟨g3, 1, none⟩ = some (.slice A3 n3 c3) ∧ w'.cell? ⟨g3, 2, none⟩ = some (.int .i64 t3)) (nl := 1000000) (by kernel_rfl) ?_ (fun hHeld => ?_); focus (exact KQ.out _ D))
          (refine wpAnyL_take (i := 0) (oi := _) (v := ?_) rfl (by kernel_rfl) (by kernel_rfl) (by kernel_rfl) (fun _ _ _ h => h) (Or.inl ⟨by first | rfl | kernel_rfl, ?hy5⟩) (by assumption) ?rs5; (case hy5 => (intro w hSw; (try dsimp only at hSw); go_simp; first | done | with_reducible rfl)); case' rs5 => (simp only [List.getElem_toArray, List.getElem_cons_zero, List.getElem_cons_succ, Act.put, List.setIfInBounds_toArray, List.set_cons_zero, List.set_cons_succ])); (refine wpAnyL_take (i := 1) (oi := _) (v := ?_) rfl (by kernel_rfl) (by kernel_rfl) (by kernel_rfl) (fun _ _ _ h => h) (Or.inl ⟨by first | rfl | kernel_rfl, ?hy6⟩) (by assumption) ?rs6; (case hy6 => (intro w hSw; (try dsimp only at hSw); go_simp; first | done | with_reducible rfl)); case' rs6 => (simp only [List.getElem_toArray, List.getElem_cons_zero, List.getElem_cons_succ, Act.put, List.setIfInBounds_toArray, List.set_cons_zero, List.set_cons_succ])); (refine wpAnyL_take (i := 2) (oi := _) (v := ?_) rfl (by kernel_rfl) (by kernel_rfl) (by kernel_rfl) (fun _ _ _ h => h) (Or.inl ⟨by first | rfl | kernel_rfl, ?hy7⟩) (by assumption) ?rs7; (case hy7 => (intro w hSw; (try dsimp only at hSw); go_simp; first | done | with_reducible rfl)); case' rs7 => (simp only [List.getElem_toArray, List.getElem_cons_zero, List.getElem_cons_succ, Act.put, List.setIfInBounds_toArray, List.set_cons_zero, List.set_cons_succ])); skip
          refine wpAnyL_two (i := 3) (j := 5) (oi := _) (oj := _) (by kernel_rfl) rfl rfl (fun K hK => ?_) (fun K hK => ?_)
          · as_aux_lemma =>
              (clear hHeld; simp only [List.getElem_toArray, List.getElem_cons_zero, List.getElem_cons_succ]; go_simp; (go_at_call 31; (with_reducible refine (RV.out _ _ lp l2).mono ?_); rintro e w4 ⟨b4, A4, n4, c4, t4, z4, rfl, hz4, y1, y2, y3, y4, hb⟩; have D := D.trans (hb.mono D.size); clear hb); refine hK.out _ _ ?_ (fun hHeld => ?_); focus (intro _; exact KQ.out _ D)); have hHeld := hHeld (by decide); clear hK K; (try simp only [Act.put, List.setIfInBounds_toArray, List.set_cons_zero, List.set_cons_succ])
              refine wpAnyL_two (i := 4) (j := 5) (oi := _) (oj := _) (by kernel_rfl) rfl rfl (fun K hK => ?_) (fun K hK => ?_)
              · as_aux_lemma =>
                  (clear hHeld; simp only [List.getElem_toArray, List.getElem_cons_zero, List.getElem_cons_succ]; go_simp; (go_at_call 35; (with_reducible refine (QA.out _ _ _ _ _ (VV.out _ (KB3.out _ D)) (RetS.qs hz4 y1 y2 y3 y4)).mono ?_); rintro e w5 ⟨b5, A5, n5, c5, t5, z5, rfl, hz5, x1, x2, x3, x4, hb⟩; have D := D.trans (hb.mono D.size); clear hb hz4 y1 y2 y3 y4); refine hK.out _ _ ?_ (fun hHeld => ?_); focus (intro _; exact KQ.out _ D)); have hHeld := hHeld (by decide); clear hK K; (try simp only [Act.put, List.setIfInBounds_toArray, List.set_cons_zero, List.set_cons_succ])
                  (refine wpAnyL_one (i := 5) (o := _) (by kernel_rfl) rfl (fun K hK => ?_); clear hHeld; simp only [List.getElem_toArray, List.getElem_cons_zero, List.getElem_cons_succ]; go_simp; refine hK.out _ _ ?_ (fun hHeld => ?_); focus (intro _; exact KQ.out _ (D.alloc D.size _))); have hHeld := hHeld (by decide); clear hK K; (try simp only [Act.put, List.setIfInBounds_toArray, List.set_cons_zero, List.set_cons_succ])
                  have G' := Blk.new w5 57 #[.bool false, .slice none 0 0, .int .i64 0]
                  have Gn : wf.heap.size ≤ w5.heap.size := D.size
                  have hz5 := hz5.alloc (.cells #[.bool false, .slice none 0 0, .int .i64 0] 57)
                  have D1 : Below wf.heap.size wf (w5.alloc (.cells #[.bool false, .slice none 0 0, .int .i64 0] 57)) := D.alloc D.size (.cells #[.bool false, .slice none 0 0, .int .i64 0] 57)
                  clear D
                  have D := D1
                  clear D1
                  obtain ⟨w8, hw8⟩ : ∃ w8, w5.alloc (.cells #[.bool false, .slice none 0 0, .int .i64 0] 57) = w8 := ⟨_, rfl⟩
                  obtain ⟨gg, hgg⟩ : ∃ gg, w5.heap.size = gg := ⟨_, rfl⟩
                  rw [hw8] at G' D hz5 hHeld ⊢
                  rw [hgg] at G' Gn ⊢
                  have G := G'
                  clear G' hw8 hgg
                  have hz6 := QC.set3 hz5 (QC.off_q hz5 G) (.bool b5) (.slice A5 n5 c5) (.int .i64 t5)
                  have G6 := DC.Blk3 G (.bool b5) (.slice A5 n5 c5) (.int .i64 t5)
                  have D6 := ((D.setCell (p := ⟨gg, 0, none⟩) Gn (.bool b5)).setCell (p := ⟨gg, 1, none⟩) Gn (.slice A5 n5 c5)).setCell (p := ⟨gg, 2, none⟩) Gn (.int .i64 t5)
                  have g0 := G.at_ 0 rfl; have g1' := G.at_ 1 rfl; have g2 := G.at_ 2 rfl; have f0 := G.frozen 0; have f1 := G.frozen 1; have f2 := G.frozen 2
                  have X := Lib.hid (And.intro G6 (And.intro (RetS.qs hz6 x1 x2 x3 x4) D6))
                  clear G hz5 hz6 G6 D x1 x2 x3 x4
                  (refine wpAnyL_one (i := 6) (o := _) (by kernel_rfl) rfl (fun K hK => ?_); clear hHeld; simp only [List.getElem_toArray, List.getElem_cons_zero, List.getElem_cons_succ]; go_simp; refine hK.out _ _ ?_ (fun hHeld => ?_); focus (intro _; exact KQ.out _ D6)); have hHeld := hHeld (by decide); clear hK K; (try simp only [Act.put, List.setIfInBounds_toArray, List.set_cons_zero, List.set_cons_succ])
                  refine wpAnyL_done (by kernel_rfl) ?_ _
                  go_wp2
                  go_meet
                  exact ⟨_, _, _, _, _, _, rfl, X⟩
              · as_aux_lemma =>
                  (clear hHeld; simp only [List.getElem_toArray, List.getElem_cons_zero, List.getElem_cons_succ]; go_simp; refine hK.out _ _ ?_ (fun hHeld => ?_); focus (intro _; exact KQ.out _ (D.alloc D.size _))); have hHeld := hHeld (by decide); clear hK K; (try simp only [Act.put, List.setIfInBounds_toArray, List.set_cons_zero, List.set_cons_succ])
                  have G' := Blk.new w4 57 #[.bool false, .slice none 0 0, .int .i64 0]
                  have Gn : wf.heap.size ≤ w4.heap.size := D.size
                  have hz4 := hz4.alloc (.cells #[.bool false, .slice none 0 0, .int .i64 0] 57)
                  have D1 : Below wf.heap.size wf (w4.alloc (.cells #[.bool false, .slice none 0 0, .int .i64 0] 57)) := D.alloc D.size (.cells #[.bool false, .slice none 0 0, .int .i64 0] 57)
                  clear D
                  have D := D1
                  clear D1
                  obtain ⟨w8, hw8⟩ : ∃ w8, w4.alloc (.cells #[.bool false, .slice none 0 0, .int .i64 0] 57) = w8 := ⟨_, rfl⟩
                  obtain ⟨gg, hgg⟩ : ∃ gg, w4.heap.size = gg := ⟨_, rfl⟩
                  rw [hw8] at G' D hz4 hHeld ⊢
                  rw [hgg] at G' Gn ⊢
                  have G := G'
                  clear G' hw8 hgg
                  (refine wpAnyL_one (i := 4) (o := _) (by kernel_rfl) rfl (fun K hK => ?_); clear hHeld; simp only [List.getElem_toArray, List.getElem_cons_zero, List.getElem_cons_succ]; go_simp; (go_at_call 35; (with_reducible refine (QA.out _ _ _ _ _ (VV.out _ (KB3.out _ D)) (RetS.qs hz4 y1 y2 y3 y4)).mono ?_); rintro e w5 ⟨b5, A5, n5, c5, t5, z5, rfl, hz5, x1, x2, x3, x4, hb⟩; have D := D.trans (hb.mono D.size); have G := G.below hb G.lt; clear hb hz4 y1 y2 y3 y4); refine hK.out _ _ ?_ (fun hHeld => ?_); focus (intro _; exact KQ.out _ D)); have hHeld := hHeld (by decide); clear hK K; (try simp only [Act.put, List.setIfInBounds_toArray, List.set_cons_zero, List.set_cons_succ])
                  have hz6 := QC.set3 hz5 (QC.off_q hz5 G) (.bool b5) (.slice A5 n5 c5) (.int .i64 t5)
                  have G6 := DC.Blk3 G (.bool b5) (.slice A5 n5 c5) (.int .i64 t5)
                  have D6 := ((D.setCell (p := ⟨gg, 0, none⟩) Gn (.bool b5)).setCell (p := ⟨gg, 1, none⟩) Gn (.slice A5 n5 c5)).setCell (p := ⟨gg, 2, none⟩) Gn (.int .i64 t5)
                  have g0 := G.at_ 0 rfl; have g1' := G.at_ 1 rfl; have g2 := G.at_ 2 rfl; have f0 := G.frozen 0; have f1 := G.frozen 1; have f2 := G.frozen 2
                  have X := Lib.hid (And.intro G6 (And.intro (RetS.qs hz6 x1 x2 x3 x4) D6))
                  clear G hz5 hz6 G6 D x1 x2 x3 x4
                  (refine wpAnyL_one (i := 6) (o := _) (by kernel_rfl) rfl (fun K hK => ?_); clear hHeld; simp only [List.getElem_toArray, List.getElem_cons_zero, List.getElem_cons_succ]; go_simp; refine hK.out _ _ ?_ (fun hHeld => ?_); focus (intro _; exact KQ.out _ D6)); have hHeld := hHeld (by decide); clear hK K; (try simp only [Act.put, List.setIfInBounds_toArray, List.set_cons_zero, List.set_cons_succ])
                  refine wpAnyL_done (by kernel_rfl) ?_ _
                  go_wp2
                  go_meet
                  exact ⟨_, _, _, _, _, _, rfl, X⟩
          · as_aux_lemma =>
              (clear hHeld; simp only [List.getElem_toArray, List.getElem_cons_zero, List.getElem_cons_succ]; go_simp; refine hK.out _ _ ?_ (fun hHeld => ?_); focus (intro _; exact KQ.out _ (D.alloc D.size _))); have hHeld := hHeld (by decide); clear hK K; (try simp only [Act.put, List.setIfInBounds_toArray, List.set_cons_zero, List.set_cons_succ])
              have G' := Blk.drew (Blk.new wk 57 #[.bool false, .slice none 0 0, .int .i64 0])
              have Gn : wf.heap.size ≤ wk.heap.size := D.size
              have D1 : Below wf.heap.size wf ((wk.alloc (.cells #[.bool false, .slice none 0 0, .int .i64 0] 57)).drew) := D.alloc D.size (.cells #[.bool false, .slice none 0 0, .int .i64 0] 57)
              clear D
              have D := D1
              clear D1
              obtain ⟨w8, hw8⟩ : ∃ w8, (wk.alloc (.cells #[.bool false, .slice none 0 0, .int .i64 0] 57)).drew = w8 := ⟨_, rfl⟩
              obtain ⟨gg, hgg⟩ : ∃ gg, wk.heap.size = gg := ⟨_, rfl⟩
              rw [hw8] at G' D  hHeld ⊢
              rw [hgg] at G' Gn ⊢
              have G := G'
              clear G' hw8 hgg
              (refine wpAnyL_one (i := 3) (o := _) (by kernel_rfl) rfl (fun K hK => ?_); clear hHeld; simp only [List.getElem_toArray, List.getElem_cons_zero, List.getElem_cons_succ]; go_simp; (go_at_call 31; (with_reducible refine (RV.out _ _ lp l2).mono ?_); rintro e w4 ⟨b4, A4, n4, c4, t4, z4, rfl, hz4, y1, y2, y3, y4, hb⟩; have D := D.trans (hb.mono D.size); have G := G.below hb G.lt; clear hb); refine hK.out _ _ ?_ (fun hHeld => ?_); focus (intro _; exact KQ.out _ D)); have hHeld := hHeld (by decide); clear hK K; (try simp only [Act.put, List.setIfInBounds_toArray, List.set_cons_zero, List.set_cons_succ])
              (refine wpAnyL_one (i := 4) (o := _) (by kernel_rfl) rfl (fun K hK => ?_); clear hHeld; simp only [List.getElem_toArray, List.getElem_cons_zero, List.getElem_cons_succ]; go_simp; (go_at_call 35; (with_reducible refine (QA.out _ _ _ _ _ (VV.out _ (KB3.out _ D)) (RetS.qs hz4 y1 y2 y3 y4)).mono ?_); rintro e w5 ⟨b5, A5, n5, c5, t5, z5, rfl, hz5, x1, x2, x3, x4, hb⟩; have D := D.trans (hb.mono D.size); have G := G.below hb G.lt; clear hb hz4 y1 y2 y3 y4); refine hK.out _ _ ?_ (fun hHeld => ?_); focus (intro _; exact KQ.out _ D)); have hHeld := hHeld (by decide); clear hK K; (try simp only [Act.put, List.setIfInBounds_toArray, List.set_cons_zero, List.set_cons_succ])
              have hz6 := QC.set3 hz5 (QC.off_q hz5 G) (.bool b5) (.slice A5 n5 c5) (.int .i64 t5)
              have G6 := DC.Blk3 G (.bool b5) (.slice A5 n5 c5) (.int .i64 t5)
              have D6 := ((D.setCell (p := ⟨gg, 0, none⟩) Gn (.bool b5)).setCell (p := ⟨gg, 1, none⟩) Gn (.slice A5 n5 c5)).setCell (p := ⟨gg, 2, none⟩) Gn (.int .i64 t5)
              have g0 := G.at_ 0 rfl; have g1' := G.at_ 1 rfl; have g2 := G.at_ 2 rfl; have f0 := G.frozen 0; have f1 := G.frozen 1; have f2 := G.frozen 2
              have X := Lib.hid (And.intro G6 (And.intro (RetS.qs hz6 x1 x2 x3 x4) D6))
              clear G hz5 hz6 G6 D x1 x2 x3 x4
              (refine wpAnyL_one (i := 6) (o := _) (by kernel_rfl) rfl (fun K hK => ?_); clear hHeld; simp only [List.getElem_toArray, List.getElem_cons_zero, List.getElem_cons_succ]; go_simp; refine hK.out _ _ ?_ (fun hHeld => ?_); focus (intro _; exact KQ.out _ D6)); have hHeld := hHeld (by decide); clear hK K; (try simp only [Act.put, List.setIfInBounds_toArray, List.set_cons_zero, List.set_cons_succ])
              refine wpAnyL_done (by kernel_rfl) ?_ _
              go_wp2
              go_meet
              exact ⟨_, _, _, _, _, _, rfl, X⟩
        case rest =>
          obtain ⟨g9, b9, A9, n9, c9, t9, rfl, hX⟩ := hcut
          obtain ⟨N9, Q9, D9⟩ := hX.out
          obtain ⟨wg, hwg⟩ : ∃ wg, wg = wc := ⟨_, rfl⟩
          have KB5 : Hid (∀ w', Below wg.heap.size wg w' → (w'.cell? ⟨g1, 0, none⟩ = some (.bool b1) ∧ w'.cell? ⟨g1, 1, none⟩ = some (.slice A1 n1 c1) ∧ w'.cell? ⟨g1, 2, none⟩ = some (.int .i64 t1)) ∧ (w'.cell? ⟨g9, 0, none⟩ = some (.bool b9) ∧ w'.cell? ⟨g9, 1, none⟩ = some (.slice A9 n9 c9) ∧ w'.cell? ⟨g9, 2, none⟩ = some (.int .i64 t9))) := fun W hb => by
            rw [hwg] at hb
            have h3 := N9.below hb N9.lt
            exact ⟨(KB.out W (KB3.out W (D9.trans (hb.mono D9.size)))).1.1, h3.at_ 0 rfl, h3.at_ 1 rfl, h3.at_ 2 rfl⟩
          have KW : Hid (∀ W, Below wg.heap.size wg W → Below w.heap.size w W) := fun W hb => by
            rw [hwg] at hb
            exact (KB.out W (KB3.out W (D9.trans (hb.mono D9.size)))).2
          have VX9 : Hid (∀ W, Below wg.heap.size wg W → QS M0 T0 W (.agg #[.bool b1, .slice A1 n1 c1, .int .i64 t1]) s) := fun W hb => by
            rw [hwg] at hb
            exact VX.out W (KB3.out W (D9.trans (hb.mono D9.size)))
          have V9 : Hid (∀ W, Below wg.heap.size wg W → QS M9 (M1 + M1) W (.agg #[.bool b9, .slice A9 n9 c9, .int .i64 t9]) (U l + U (l + 1))) := fun W hb => by
            rw [hwg] at hb
            exact Q9.below hb
          have D : Hid (Below wg.heap.size wg wc.drew) := by rw [hwg]; exact (Below.refl _ _).drew
          clear hwg hX N9 Q9 D9 KB KB3 D5 VX VV QA RV
          go_upto_region 11 with fail
          rcases k5 with rfl | rfl | rfl | rfl | rfl
          · as_aux_lemma =>
              (refine wp_region_L (S := fun w' => (w'.cell? ⟨g1, 0, none⟩ = some (.bool b1) ∧ w'.cell? ⟨g1, 1, none⟩ = some (.slice A1 n1 c1) ∧ w'.cell? ⟨g1, 2, none⟩ = some (.int .i64 t1)) ∧ (w'.cell? ⟨g9, 0, none⟩ = some (.bool b9) ∧ w'.cell? ⟨g9, 1, none⟩ = some (.slice A9 n9 c9) ∧ w'.cell? ⟨g9, 2, none⟩ = some (.int .i64 t9))) (nl := 1000000) (by kernel_rfl) ?_ (fun hHeld => ?_); focus (exact KB5.out _ D.out))
              (refine wpAnyL_take (i := 0) (oi := _) (v := ?_) rfl (by kernel_rfl) (by kernel_rfl) (by kernel_rfl) (fun _ _ _ h => h) (Or.inl ⟨by first | rfl | kernel_rfl, ?hy8⟩) (by assumption) ?rs8; (case hy8 => (intro w hSw; (try dsimp only at hSw); go_simp; first | done | with_reducible rfl)); case' rs8 => (simp only [List.getElem_toArray, List.getElem_cons_zero, List.getElem_cons_succ, Act.put, List.setIfInBounds_toArray, List.set_cons_zero, List.set_cons_succ])); (refine wpAnyL_take (i := 1) (oi := _) (v := ?_) rfl (by kernel_rfl) (by kernel_rfl) (by kernel_rfl) (fun _ _ _ h => h) (Or.inl ⟨by first | rfl | kernel_rfl, ?hy9⟩) (by assumption) ?rs9; (case hy9 => (intro w hSw; (try dsimp only at hSw); go_simp; first | done | with_reducible rfl)); case' rs9 => (simp only [List.getElem_toArray, List.getElem_cons_zero, List.getElem_cons_succ, Act.put, List.setIfInBounds_toArray, List.set_cons_zero, List.set_cons_succ])); (refine wpAnyL_take (i := 2) (oi := _) (v := ?_) rfl (by kernel_rfl) (by kernel_rfl) (by kernel_rfl) (fun _ _ _ h => h) (Or.inl ⟨by first | rfl | kernel_rfl, ?hy10⟩) (by assumption) ?rs10; (case hy10 => (intro w hSw; (try dsimp only at hSw); go_simp; first | done | with_reducible rfl)); case' rs10 => (simp only [List.getElem_toArray, List.getElem_cons_zero, List.getElem_cons_succ, Act.put, List.setIfInBounds_toArray, List.set_cons_zero, List.set_cons_succ])); (refine wpAnyL_take (i := 3) (oi := _) (v := ?_) rfl (by kernel_rfl) (by kernel_rfl) (by kernel_rfl) (fun _ _ _ h => h) (Or.inl ⟨by first | rfl | kernel_rfl, ?hy11⟩) (by assumption) ?rs11; (case hy11 => (intro w hSw; (try dsimp only at hSw); go_simp; first | done | with_reducible rfl)); case' rs11 => (simp only [List.getElem_toArray, List.getElem_cons_zero, List.getElem_cons_succ, Act.put, List.setIfInBounds_toArray, List.set_cons_zero, List.set_cons_succ])); (refine wpAnyL_take (i := 4) (oi := _) (v := ?_) rfl (by kernel_rfl) (by kernel_rfl) (by kernel_rfl) (fun _ _ _ h => h) (Or.inl ⟨by first | rfl | kernel_rfl, ?hy12⟩) (by assumption) ?rs12; (case hy12 => (intro w hSw; (try dsimp only at hSw); go_simp; first | done | with_reducible rfl)); case' rs12 => (simp only [List.getElem_toArray, List.getElem_cons_zero, List.getElem_cons_succ, Act.put, List.setIfInBounds_toArray, List.set_cons_zero, List.set_cons_succ])); (refine wpAnyL_take (i := 5) (oi := _) (v := ?_) rfl (by kernel_rfl) (by kernel_rfl) (by kernel_rfl) (fun _ _ _ h => h) (Or.inl ⟨by first | rfl | kernel_rfl, ?hy13⟩) (by assumption) ?rs13; (case hy13 => (intro w hSw; (try dsimp only at hSw); go_simp; first | done | with_reducible rfl)); case' rs13 => (simp only [List.getElem_toArray, List.getElem_cons_zero, List.getElem_cons_succ, Act.put, List.setIfInBounds_toArray, List.set_cons_zero, List.set_cons_succ])); (refine wpAnyL_take (i := 6) (oi := _) (v := undef) rfl (by kernel_rfl) (by kernel_rfl) (by kernel_rfl) (fun _ _ _ h => h) (Or.inr ⟨by first | rfl | kernel_rfl, rfl⟩) (by assumption) ?rs14; case' rs14 => (simp only [List.getElem_toArray, List.getElem_cons_zero, List.getElem_cons_succ, Act.put, List.setIfInBounds_toArray, List.set_cons_zero, List.set_cons_succ])); (refine wpAnyL_take (i := 7) (oi := _) (v := undef) rfl (by kernel_rfl) (by kernel_rfl) (by kernel_rfl) (fun _ _ _ h => h) (Or.inr ⟨by first | rfl | kernel_rfl, rfl⟩) (by assumption) ?rs15; case' rs15 => (simp only [List.getElem_toArray, List.getElem_cons_zero, List.getElem_cons_succ, Act.put, List.setIfInBounds_toArray, List.set_cons_zero, List.set_cons_succ])); (refine wpAnyL_take (i := 8) (oi := _) (v := ?_) rfl (by kernel_rfl) (by kernel_rfl) (by kernel_rfl) (fun _ _ _ h => h) (Or.inl ⟨by first | rfl | kernel_rfl, ?hy16⟩) (by assumption) ?rs16; (case hy16 => (intro w hSw; (try dsimp only at hSw); go_simp; first | done | with_reducible rfl)); case' rs16 => (simp only [List.getElem_toArray, List.getElem_cons_zero, List.getElem_cons_succ, Act.put, List.setIfInBounds_toArray, List.set_cons_zero, List.set_cons_succ])); (refine wpAnyL_take (i := 9) (oi := _) (v := ?_) rfl (by kernel_rfl) (by kernel_rfl) (by kernel_rfl) (fun _ _ _ h => h) (Or.inl ⟨by first | rfl | kernel_rfl, ?hy17⟩) (by assumption) ?rs17; (case hy17 => (intro w hSw; (try dsimp only at hSw); go_simp; first | done | with_reducible rfl)); case' rs17 => (simp only [List.getElem_toArray, List.getElem_cons_zero, List.getElem_cons_succ, Act.put, List.setIfInBounds_toArray, List.set_cons_zero, List.set_cons_succ])); skip
              (refine wpAnyL_take (i := 10) (oi := _) (v := ?_) rfl (by kernel_rfl) (by kernel_rfl) (by kernel_rfl) (fun _ _ _ h => h) (Or.inl ⟨by first | rfl | kernel_rfl, ?hy18⟩) (by assumption) ?rs18; (case hy18 => (intro w hSw; (try dsimp only at hSw); go_simp; first | done | with_reducible rfl)); case' rs18 => (simp only [List.getElem_toArray, List.getElem_cons_zero, List.getElem_cons_succ, Act.put, List.setIfInBounds_toArray, List.set_cons_zero, List.set_cons_succ])); (refine wpAnyL_take (i := 12) (oi := _) (v := ?_) rfl (by kernel_rfl) (by kernel_rfl) (by kernel_rfl) (fun _ _ _ h => h) (Or.inl ⟨by first | rfl | kernel_rfl, ?hy19⟩) (by assumption) ?rs19; (case hy19 => (intro w hSw; (try dsimp only at hSw); go_simp; first | done | with_reducible rfl)); case' rs19 => (simp only [List.getElem_toArray, List.getElem_cons_zero, List.getElem_cons_succ, Act.put, List.setIfInBounds_toArray, List.set_cons_zero, List.set_cons_succ])); (refine wpAnyL_take (i := 13) (oi := _) (v := ?_) rfl (by kernel_rfl) (by kernel_rfl) (by kernel_rfl) (fun _ _ _ h => h) (Or.inl ⟨by first | rfl | kernel_rfl, ?hy20⟩) (by assumption) ?rs20; (case hy20 => (intro w hSw; (try dsimp only at hSw); go_simp; first | done | with_reducible rfl)); case' rs20 => (simp only [List.getElem_toArray, List.getElem_cons_zero, List.getElem_cons_succ, Act.put, List.setIfInBounds_toArray, List.set_cons_zero, List.set_cons_succ])); skip
              (refine wpAnyL_one (i := 11) (o := _) (by kernel_rfl) rfl (fun K hK => ?_); clear hHeld; simp only [List.getElem_toArray, List.getElem_cons_zero, List.getElem_cons_succ]; go_simp; (go_at_call 36; (with_reducible refine (QH.out _ _ (VX9.out _ D.out)).mono ?_); rintro e w5 ⟨b5, A5, n5, c5, t5, z5, rfl, hz5, x1, x2, x3, x4, hb⟩; have QQ := Lib.hid (RetS.qs hz5 x1 x2 x3 x4); have D := Lib.hid (D.out.trans (hb.mono D.out.size)); clear hb hz5 x1 x2 x3 x4); refine hK.out _ _ ?_ (fun hHeld => ?_); focus (intro _; exact KB5.out _ D.out)); have hHeld := hHeld (by decide); clear hK K; (try simp only [Act.put, List.setIfInBounds_toArray, List.set_cons_zero, List.set_cons_succ])
              (refine wpAnyL_one (i := 14) (o := _) (by kernel_rfl) rfl (fun K hK => ?_); clear hHeld; simp only [List.getElem_toArray, List.getElem_cons_zero, List.getElem_cons_succ]; go_simp; (go_at_call 33; (with_reducible refine (QM3.out _ _ (V9.out _ D.out)).mono ?_); rintro e w6 ⟨b6, A6, n6, c6, t6, z6, rfl, hz6, x1, x2, x3, x4, hb⟩; have QQ := Lib.hid (QQ.out.below hb); have Q6 := Lib.hid (RetS.qs hz6 x1 x2 x3 x4); have D := Lib.hid (D.out.trans (hb.mono D.out.size)); clear hb hz6 x1 x2 x3 x4); refine hK.out _ _ ?_ (fun hHeld => ?_); focus (intro _; exact KB5.out _ D.out)); have hHeld := hHeld (by decide); clear hK K; (try simp only [Act.put, List.setIfInBounds_toArray, List.set_cons_zero, List.set_cons_succ])
              (refine wpAnyL_one (i := 15) (o := _) (by kernel_rfl) rfl (fun K hK => ?_); clear hHeld; simp only [List.getElem_toArray, List.getElem_cons_zero, List.getElem_cons_succ]; go_simp; (go_at_call 32; (with_reducible refine (QC3.out _ _ _ QQ.out Q6.out).mono ?_); rintro e w7 ⟨rfl, hb⟩; have D := Lib.hid (D.out.trans (hb.mono D.out.size)); clear hb QQ Q6); refine hK.out _ _ ?_ (fun hHeld => ?_); focus (intro _; exact KB5.out _ D.out)); have hHeld := hHeld (by decide); clear hK K; (try simp only [Act.put, List.setIfInBounds_toArray, List.set_cons_zero, List.set_cons_succ])
              (refine wpAnyL_take (i := 16) (oi := _) (v := ?_) rfl (by kernel_rfl) (by kernel_rfl) (by kernel_rfl) (fun _ _ _ h => h) (Or.inl ⟨by first | rfl | kernel_rfl, ?hy21⟩) (by assumption) ?rs21; (case hy21 => (intro w hSw; (try dsimp only at hSw); go_simp; first | done | with_reducible rfl)); case' rs21 => (simp only [List.getElem_toArray, List.getElem_cons_zero, List.getElem_cons_succ, Act.put, List.setIfInBounds_toArray, List.set_cons_zero, List.set_cons_succ])); (refine wpAnyL_take (i := 17) (oi := _) (v := ?_) rfl (by kernel_rfl) (by kernel_rfl) (by kernel_rfl) (fun _ _ _ h => h) (Or.inl ⟨by first | rfl | kernel_rfl, ?hy22⟩) (by assumption) ?rs22; (case hy22 => (intro w hSw; (try dsimp only at hSw); go_simp; first | done | with_reducible rfl)); case' rs22 => (simp only [List.getElem_toArray, List.getElem_cons_zero, List.getElem_cons_succ, Act.put, List.setIfInBounds_toArray, List.set_cons_zero, List.set_cons_succ])); (refine wpAnyL_take (i := 18) (oi := _) (v := ?_) rfl (by kernel_rfl) (by kernel_rfl) (by kernel_rfl) (fun _ _ _ h => h) (Or.inl ⟨by first | rfl | kernel_rfl, ?hy23⟩) (by assumption) ?rs23; (case hy23 => (intro w hSw; (try dsimp only at hSw); go_simp; first | done | with_reducible rfl)); case' rs23 => (simp only [List.getElem_toArray, List.getElem_cons_zero, List.getElem_cons_succ, Act.put, List.setIfInBounds_toArray, List.set_cons_zero, List.set_cons_succ])); skip
              refine wpAnyL_done (by kernel_rfl) ?_ _
              clear hHeld
              rcases k3 with ⟨k4, k6⟩ | ⟨k4, k6⟩
              · have hr1 := HR1.out
                rw [if_pos (.inr ⟨by omega, k6⟩)] at hr1
                subst hr1
                clear k6 KB5 VX9 V9 QH QM3 QC3
                clear HR1
                go_wp2_with (first
                  | (go_at_call 34; (with_reducible refine (RD.out _ _ lp l2).mono ?_); rintro e w9 ⟨rfl, rfl⟩))
                go_ret2
                exact ⟨rfl, KW.out _ D.out⟩
              · have hr1 := HR1.out
                rw [if_neg (by intro h; rcases h with h | h; omega; exact k6 h.2)] at hr1
                subst hr1
                clear k6 KB5 VX9 V9 QH QM3 QC3
                clear HR1
                go_wp2_with (first
                  | (go_at_call 34; (with_reducible refine (RD.out _ _ l0 l1).mono ?_); rintro e w9 ⟨rfl, rfl⟩))
                go_ret2
                exact ⟨rfl, KW.out _ D.out⟩
          · as_aux_lemma =>
              (refine wp_region_L (S := fun w' => (w'.cell? ⟨g1, 0, none⟩ = some (.bool b1) ∧ w'.cell? ⟨g1, 1, none⟩ = some (.slice A1 n1 c1) ∧ w'.cell? ⟨g1, 2, none⟩ = some (.int .i64 t1)) ∧ (w'.cell? ⟨g9, 0, none⟩ = some (.bool b9) ∧ w'.cell? ⟨g9, 1, none⟩ = some (.slice A9 n9 c9) ∧ w'.cell? ⟨g9, 2, none⟩ = some (.int .i64 t9))) (nl := 1000000) (by kernel_rfl) ?_ (fun hHeld => ?_); focus (exact KB5.out _ D.out))
              (refine wpAnyL_take (i := 0) (oi := _) (v := ?_) rfl (by kernel_rfl) (by kernel_rfl) (by kernel_rfl) (fun _ _ _ h => h) (Or.inl ⟨by first | rfl | kernel_rfl, ?hy24⟩) (by assumption) ?rs24; (case hy24 => (intro w hSw; (try dsimp only at hSw); go_simp; first | done | with_reducible rfl)); case' rs24 => (simp only [List.getElem_toArray, List.getElem_cons_zero, List.getElem_cons_succ, Act.put, List.setIfInBounds_toArray, List.set_cons_zero, List.set_cons_succ])); (refine wpAnyL_take (i := 1) (oi := _) (v := ?_) rfl (by kernel_rfl) (by kernel_rfl) (by kernel_rfl) (fun _ _ _ h => h) (Or.inl ⟨by first | rfl | kernel_rfl, ?hy25⟩) (by assumption) ?rs25; (case hy25 => (intro w hSw; (try dsimp only at hSw); go_simp; first | done | with_reducible rfl)); case' rs25 => (simp only [List.getElem_toArray, List.getElem_cons_zero, List.getElem_cons_succ, Act.put, List.setIfInBounds_toArray, List.set_cons_zero, List.set_cons_succ])); (refine wpAnyL_take (i := 2) (oi := _) (v := ?_) rfl (by kernel_rfl) (by kernel_rfl) (by kernel_rfl) (fun _ _ _ h => h) (Or.inl ⟨by first | rfl | kernel_rfl, ?hy26⟩) (by assumption) ?rs26; (case hy26 => (intro w hSw; (try dsimp only at hSw); go_simp; first | done | with_reducible rfl)); case' rs26 => (simp only [List.getElem_toArray, List.getElem_cons_zero, List.getElem_cons_succ, Act.put, List.setIfInBounds_toArray, List.set_cons_zero, List.set_cons_succ])); (refine wpAnyL_take (i := 3) (oi := _) (v := undef) rfl (by kernel_rfl) (by kernel_rfl) (by kernel_rfl) (fun _ _ _ h => h) (Or.inr ⟨by first | rfl | kernel_rfl, rfl⟩) (by assumption) ?rs27; case' rs27 => (simp only [List.getElem_toArray, List.getElem_cons_zero, List.getElem_cons_succ, Act.put, List.setIfInBounds_toArray, List.set_cons_zero, List.set_cons_succ])); (refine wpAnyL_take (i := 4) (oi := _) (v := undef) rfl (by kernel_rfl) (by kernel_rfl) (by kernel_rfl) (fun _ _ _ h => h) (Or.inr ⟨by first | rfl | kernel_rfl, rfl⟩) (by assumption) ?rs28; case' rs28 => (simp only [List.getElem_toArray, List.getElem_cons_zero, List.getElem_cons_succ, Act.put, List.setIfInBounds_toArray, List.set_cons_zero, List.set_cons_succ])); (refine wpAnyL_take (i := 5) (oi := _) (v := undef) rfl (by kernel_rfl) (by kernel_rfl) (by kernel_rfl) (fun _ _ _ h => h) (Or.inr ⟨by first | rfl | kernel_rfl, rfl⟩) (by assumption) ?rs29; case' rs29 => (simp only [List.getElem_toArray, List.getElem_cons_zero, List.getElem_cons_succ, Act.put, List.setIfInBounds_toArray, List.set_cons_zero, List.set_cons_succ])); (refine wpAnyL_take (i := 6) (oi := _) (v := undef) rfl (by kernel_rfl) (by kernel_rfl) (by kernel_rfl) (fun _ _ _ h => h) (Or.inr ⟨by first | rfl | kernel_rfl, rfl⟩) (by assumption) ?rs30; case' rs30 => (simp only [List.getElem_toArray, List.getElem_cons_zero, List.getElem_cons_succ, Act.put, List.setIfInBounds_toArray, List.set_cons_zero, List.set_cons_succ])); (refine wpAnyL_take (i := 7) (oi := _) (v := undef) rfl (by kernel_rfl) (by kernel_rfl) (by kernel_rfl) (fun _ _ _ h => h) (Or.inr ⟨by first | rfl | kernel_rfl, rfl⟩) (by assumption) ?rs31; case' rs31 => (simp only [List.getElem_toArray, List.getElem_cons_zero, List.getElem_cons_succ, Act.put, List.setIfInBounds_toArray, List.set_cons_zero, List.set_cons_succ])); (refine wpAnyL_take (i := 8) (oi := _) (v := undef) rfl (by kernel_rfl) (by kernel_rfl) (by kernel_rfl) (fun _ _ _ h => h) (Or.inr ⟨by first | rfl | kernel_rfl, rfl⟩) (by assumption) ?rs32; case' rs32 => (simp only [List.getElem_toArray, List.getElem_cons_zero, List.getElem_cons_succ, Act.put, List.setIfInBounds_toArray, List.set_cons_zero, List.set_cons_succ])); (refine wpAnyL_take (i := 9) (oi := _) (v := undef) rfl (by kernel_rfl) (by kernel_rfl) (by kernel_rfl) (fun _ _ _ h => h) (Or.inr ⟨by first | rfl | kernel_rfl, rfl⟩) (by assumption) ?rs33; case' rs33 => (simp only [List.getElem_toArray, List.getElem_cons_zero, List.getElem_cons_succ, Act.put, List.setIfInBounds_toArray, List.set_cons_zero, List.set_cons_succ])); (refine wpAnyL_take (i := 10) (oi := _) (v := undef) rfl (by kernel_rfl) (by kernel_rfl) (by kernel_rfl) (fun _ _ _ h => h) (Or.inr ⟨by first | rfl | kernel_rfl, rfl⟩) (by assumption) ?rs34; case' rs34 => (simp only [List.getElem_toArray, List.getElem_cons_zero, List.getElem_cons_succ, Act.put, List.setIfInBounds_toArray, List.set_cons_zero, List.set_cons_succ])); (refine wpAnyL_take (i := 11) (oi := _) (v := undef) rfl (by kernel_rfl) (by kernel_rfl) (by kernel_rfl) (fun _ _ _ h => h) (Or.inr ⟨by first | rfl | kernel_rfl, rfl⟩) (by assumption) ?rs35; case' rs35 => (simp only [List.getElem_toArray, List.getElem_cons_zero, List.getElem_cons_succ, Act.put, List.setIfInBounds_toArray, List.set_cons_zero, List.set_cons_succ])); (refine wpAnyL_take (i := 12) (oi := _) (v := undef) rfl (by kernel_rfl) (by kernel_rfl) (by kernel_rfl) (fun _ _ _ h => h) (Or.inr ⟨by first | rfl | kernel_rfl, rfl⟩) (by assumption) ?rs36; case' rs36 => (simp only [List.getElem_toArray, List.getElem_cons_zero, List.getElem_cons_succ, Act.put, List.setIfInBounds_toArray, List.set_cons_zero, List.set_cons_succ])); (refine wpAnyL_take (i := 13) (oi := _) (v := undef) rfl (by kernel_rfl) (by kernel_rfl) (by kernel_rfl) (fun _ _ _ h => h) (Or.inr ⟨by first | rfl | kernel_rfl, rfl⟩) (by assumption) ?rs37; case' rs37 => (simp only [List.getElem_toArray, List.getElem_cons_zero, List.getElem_cons_succ, Act.put, List.setIfInBounds_toArray, List.set_cons_zero, List.set_cons_succ])); (refine wpAnyL_take (i := 14) (oi := _) (v := undef) rfl (by kernel_rfl) (by kernel_rfl) (by kernel_rfl) (fun _ _ _ h => h) (Or.inr ⟨by first | rfl | kernel_rfl, rfl⟩) (by assumption) ?rs38; case' rs38 => (simp only [List.getElem_toArray, List.getElem_cons_zero, List.getElem_cons_succ, Act.put, List.setIfInBounds_toArray, List.set_cons_zero, List.set_cons_succ])); (refine wpAnyL_take (i := 15) (oi := _) (v := undef) rfl (by kernel_rfl) (by kernel_rfl) (by kernel_rfl) (fun _ _ _ h => h) (Or.inr ⟨by first | rfl | kernel_rfl, rfl⟩) (by assumption) ?rs39; case' rs39 => (simp only [List.getElem_toArray, List.getElem_cons_zero, List.getElem_cons_succ, Act.put, List.setIfInBounds_toArray, List.set_cons_zero, List.set_cons_succ])); (refine wpAnyL_take (i := 16) (oi := _) (v := undef) rfl (by kernel_rfl) (by kernel_rfl) (by kernel_rfl) (fun _ _ _ h => h) (Or.inr ⟨by first | rfl | kernel_rfl, rfl⟩) (by assumption) ?rs40; case' rs40 => (simp only [List.getElem_toArray, List.getElem_cons_zero, List.getElem_cons_succ, Act.put, List.setIfInBounds_toArray, List.set_cons_zero, List.set_cons_succ])); (refine wpAnyL_take (i := 17) (oi := _) (v := undef) rfl (by kernel_rfl) (by kernel_rfl) (by kernel_rfl) (fun _ _ _ h => h) (Or.inr ⟨by first | rfl | kernel_rfl, rfl⟩) (by assumption) ?rs41; case' rs41 => (simp only [List.getElem_toArray, List.getElem_cons_zero, List.getElem_cons_succ, Act.put, List.setIfInBounds_toArray, List.set_cons_zero, List.set_cons_succ])); (refine wpAnyL_take (i := 18) (oi := _) (v := ?_) rfl (by kernel_rfl) (by kernel_rfl) (by kernel_rfl) (fun _ _ _ h => h) (Or.inl ⟨by first | rfl | kernel_rfl, ?hy42⟩) (by assumption) ?rs42; (case hy42 => (intro w hSw; (try dsimp only at hSw); go_simp; first | done | with_reducible rfl)); case' rs42 => (simp only [List.getElem_toArray, List.getElem_cons_zero, List.getElem_cons_succ, Act.put, List.setIfInBounds_toArray, List.set_cons_zero, List.set_cons_succ])); skip
              refine wpAnyL_done (by kernel_rfl) ?_ _
              have hr1 := HR1.out
              rw [if_pos (.inl rfl)] at hr1
              subst hr1
              clear hHeld k3 KB5 VX9 V9 QH QM3 QC3
              clear HR1
              go_wp2_with (first
                | (go_at_call 34; (with_reducible refine (RD.out _ _ lp l2).mono ?_); rintro e w9 ⟨rfl, rfl⟩))
              go_ret2
              exact ⟨rfl, KW.out _ D.out⟩
          · as_aux_lemma =>
              (refine wp_region_L (S := fun w' => (w'.cell? ⟨g1, 0, none⟩ = some (.bool b1) ∧ w'.cell? ⟨g1, 1, none⟩ = some (.slice A1 n1 c1) ∧ w'.cell? ⟨g1, 2, none⟩ = some (.int .i64 t1)) ∧ (w'.cell? ⟨g9, 0, none⟩ = some (.bool b9) ∧ w'.cell? ⟨g9, 1, none⟩ = some (.slice A9 n9 c9) ∧ w'.cell? ⟨g9, 2, none⟩ = some (.int .i64 t9))) (nl := 1000000) (by kernel_rfl) ?_ (fun hHeld => ?_); focus (exact KB5.out _ D.out))
              (refine wpAnyL_take (i := 0) (oi := _) (v := ?_) rfl (by kernel_rfl) (by kernel_rfl) (by kernel_rfl) (fun _ _ _ h => h) (Or.inl ⟨by first | rfl | kernel_rfl, ?hy43⟩) (by assumption) ?rs43; (case hy43 => (intro w hSw; (try dsimp only at hSw); go_simp; first | done | with_reducible rfl)); case' rs43 => (simp only [List.getElem_toArray, List.getElem_cons_zero, List.getElem_cons_succ, Act.put, List.setIfInBounds_toArray, List.set_cons_zero, List.set_cons_succ])); (refine wpAnyL_take (i := 1) (oi := _) (v := ?_) rfl (by kernel_rfl) (by kernel_rfl) (by kernel_rfl) (fun _ _ _ h => h) (Or.inl ⟨by first | rfl | kernel_rfl, ?hy44⟩) (by assumption) ?rs44; (case hy44 => (intro w hSw; (try dsimp only at hSw); go_simp; first | done | with_reducible rfl)); case' rs44 => (simp only [List.getElem_toArray, List.getElem_cons_zero, List.getElem_cons_succ, Act.put, List.setIfInBounds_toArray, List.set_cons_zero, List.set_cons_succ])); (refine wpAnyL_take (i := 2) (oi := _) (v := ?_) rfl (by kernel_rfl) (by kernel_rfl) (by kernel_rfl) (fun _ _ _ h => h) (Or.inl ⟨by first | rfl | kernel_rfl, ?hy45⟩) (by assumption) ?rs45; (case hy45 => (intro w hSw; (try dsimp only at hSw); go_simp; first | done | with_reducible rfl)); case' rs45 => (simp only [List.getElem_toArray, List.getElem_cons_zero, List.getElem_cons_succ, Act.put, List.setIfInBounds_toArray, List.set_cons_zero, List.set_cons_succ])); (refine wpAnyL_take (i := 3) (oi := _) (v := ?_) rfl (by kernel_rfl) (by kernel_rfl) (by kernel_rfl) (fun _ _ _ h => h) (Or.inl ⟨by first | rfl | kernel_rfl, ?hy46⟩) (by assumption) ?rs46; (case hy46 => (intro w hSw; (try dsimp only at hSw); go_simp; first | done | with_reducible rfl)); case' rs46 => (simp only [List.getElem_toArray, List.getElem_cons_zero, List.getElem_cons_succ, Act.put, List.setIfInBounds_toArray, List.set_cons_zero, List.set_cons_succ])); (refine wpAnyL_take (i := 4) (oi := _) (v := ?_) rfl (by kernel_rfl) (by kernel_rfl) (by kernel_rfl) (fun _ _ _ h => h) (Or.inl ⟨by first | rfl | kernel_rfl, ?hy47⟩) (by assumption) ?rs47; (case hy47 => (intro w hSw; (try dsimp only at hSw); go_simp; first | done | with_reducible rfl)); case' rs47 => (simp only [List.getElem_toArray, List.getElem_cons_zero, List.getElem_cons_succ, Act.put, List.setIfInBounds_toArray, List.set_cons_zero, List.set_cons_succ])); (refine wpAnyL_take (i := 5) (oi := _) (v := ?_) rfl (by kernel_rfl) (by kernel_rfl) (by kernel_rfl) (fun _ _ _ h => h) (Or.inl ⟨by first | rfl | kernel_rfl, ?hy48⟩) (by assumption) ?rs48; (case hy48 => (intro w hSw; (try dsimp only at hSw); go_simp; first | done | with_reducible rfl)); case' rs48 => (simp only [List.getElem_toArray, List.getElem_cons_zero, List.getElem_cons_succ, Act.put, List.setIfInBounds_toArray, List.set_cons_zero, List.set_cons_succ])); (refine wpAnyL_take (i := 6) (oi := _) (v := ?_) rfl (by kernel_rfl) (by kernel_rfl) (by kernel_rfl) (fun _ _ _ h => h) (Or.inl ⟨by first | rfl | kernel_rfl, ?hy49⟩) (by assumption) ?rs49; (case hy49 => (intro w hSw; (try dsimp only at hSw); go_simp; first | done | with_reducible rfl)); case' rs49 => (simp only [List.getElem_toArray, List.getElem_cons_zero, List.getElem_cons_succ, Act.put, List.setIfInBounds_toArray, List.set_cons_zero, List.set_cons_succ])); (refine wpAnyL_take (i := 7) (oi := _) (v := ?_) rfl (by kernel_rfl) (by kernel_rfl) (by kernel_rfl) (fun _ _ _ h => h) (Or.inl ⟨by first | rfl | kernel_rfl, ?hy50⟩) (by assumption) ?rs50; (case hy50 => (intro w hSw; (try dsimp only at hSw); go_simp; first | done | with_reducible rfl)); case' rs50 => (simp only [List.getElem_toArray, List.getElem_cons_zero, List.getElem_cons_succ, Act.put, List.setIfInBounds_toArray, List.set_cons_zero, List.set_cons_succ])); (refine wpAnyL_take (i := 8) (oi := _) (v := ?_) rfl (by kernel_rfl) (by kernel_rfl) (by kernel_rfl) (fun _ _ _ h => h) (Or.inl ⟨by first | rfl | kernel_rfl, ?hy51⟩) (by assumption) ?rs51; (case hy51 => (intro w hSw; (try dsimp only at hSw); go_simp; first | done | with_reducible rfl)); case' rs51 => (simp only [List.getElem_toArray, List.getElem_cons_zero, List.getElem_cons_succ, Act.put, List.setIfInBounds_toArray, List.set_cons_zero, List.set_cons_succ])); (refine wpAnyL_take (i := 9) (oi := _) (v := ?_) rfl (by kernel_rfl) (by kernel_rfl) (by kernel_rfl) (fun _ _ _ h => h) (Or.inl ⟨by first | rfl | kernel_rfl, ?hy52⟩) (by assumption) ?rs52; (case hy52 => (intro w hSw; (try dsimp only at hSw); go_simp; first | done | with_reducible rfl)); case' rs52 => (simp only [List.getElem_toArray, List.getElem_cons_zero, List.getElem_cons_succ, Act.put, List.setIfInBounds_toArray, List.set_cons_zero, List.set_cons_succ])); (refine wpAnyL_take (i := 10) (oi := _) (v := undef) rfl (by kernel_rfl) (by kernel_rfl) (by kernel_rfl) (fun _ _ _ h => h) (Or.inr ⟨by first | rfl | kernel_rfl, rfl⟩) (by assumption) ?rs53; case' rs53 => (simp only [List.getElem_toArray, List.getElem_cons_zero, List.getElem_cons_succ, Act.put, List.setIfInBounds_toArray, List.set_cons_zero, List.set_cons_succ])); (refine wpAnyL_take (i := 11) (oi := _) (v := undef) rfl (by kernel_rfl) (by kernel_rfl) (by kernel_rfl) (fun _ _ _ h => h) (Or.inr ⟨by first | rfl | kernel_rfl, rfl⟩) (by assumption) ?rs54; case' rs54 => (simp only [List.getElem_toArray, List.getElem_cons_zero, List.getElem_cons_succ, Act.put, List.setIfInBounds_toArray, List.set_cons_zero, List.set_cons_succ])); (refine wpAnyL_take (i := 12) (oi := _) (v := undef) rfl (by kernel_rfl) (by kernel_rfl) (by kernel_rfl) (fun _ _ _ h => h) (Or.inr ⟨by first | rfl | kernel_rfl, rfl⟩) (by assumption) ?rs55; case' rs55 => (simp only [List.getElem_toArray, List.getElem_cons_zero, List.getElem_cons_succ, Act.put, List.setIfInBounds_toArray, List.set_cons_zero, List.set_cons_succ])); (refine wpAnyL_take (i := 13) (oi := _) (v := undef) rfl (by kernel_rfl) (by kernel_rfl) (by kernel_rfl) (fun _ _ _ h => h) (Or.inr ⟨by first | rfl | kernel_rfl, rfl⟩) (by assumption) ?rs56; case' rs56 => (simp only [List.getElem_toArray, List.getElem_cons_zero, List.getElem_cons_succ, Act.put, List.setIfInBounds_toArray, List.set_cons_zero, List.set_cons_succ])); (refine wpAnyL_take (i := 14) (oi := _) (v := undef) rfl (by kernel_rfl) (by kernel_rfl) (by kernel_rfl) (fun _ _ _ h => h) (Or.inr ⟨by first | rfl | kernel_rfl, rfl⟩) (by assumption) ?rs57; case' rs57 => (simp only [List.getElem_toArray, List.getElem_cons_zero, List.getElem_cons_succ, Act.put, List.setIfInBounds_toArray, List.set_cons_zero, List.set_cons_succ])); (refine wpAnyL_take (i := 15) (oi := _) (v := undef) rfl (by kernel_rfl) (by kernel_rfl) (by kernel_rfl) (fun _ _ _ h => h) (Or.inr ⟨by first | rfl | kernel_rfl, rfl⟩) (by assumption) ?rs58; case' rs58 => (simp only [List.getElem_toArray, List.getElem_cons_zero, List.getElem_cons_succ, Act.put, List.setIfInBounds_toArray, List.set_cons_zero, List.set_cons_succ])); (refine wpAnyL_take (i := 16) (oi := _) (v := undef) rfl (by kernel_rfl) (by kernel_rfl) (by kernel_rfl) (fun _ _ _ h => h) (Or.inr ⟨by first | rfl | kernel_rfl, rfl⟩) (by assumption) ?rs59; case' rs59 => (simp only [List.getElem_toArray, List.getElem_cons_zero, List.getElem_cons_succ, Act.put, List.setIfInBounds_toArray, List.set_cons_zero, List.set_cons_succ])); (refine wpAnyL_take (i := 17) (oi := _) (v := ?_) rfl (by kernel_rfl) (by kernel_rfl) (by kernel_rfl) (fun _ _ _ h => h) (Or.inl ⟨by first | rfl | kernel_rfl, ?hy60⟩) (by assumption) ?rs60; (case hy60 => (intro w hSw; (try dsimp only at hSw); go_simp; first | done | with_reducible rfl)); case' rs60 => (simp only [List.getElem_toArray, List.getElem_cons_zero, List.getElem_cons_succ, Act.put, List.setIfInBounds_toArray, List.set_cons_zero, List.set_cons_succ])); (refine wpAnyL_take (i := 18) (oi := _) (v := ?_) rfl (by kernel_rfl) (by kernel_rfl) (by kernel_rfl) (fun _ _ _ h => h) (Or.inl ⟨by first | rfl | kernel_rfl, ?hy61⟩) (by assumption) ?rs61; (case hy61 => (intro w hSw; (try dsimp only at hSw); go_simp; first | done | with_reducible rfl)); case' rs61 => (simp only [List.getElem_toArray, List.getElem_cons_zero, List.getElem_cons_succ, Act.put, List.setIfInBounds_toArray, List.set_cons_zero, List.set_cons_succ])); skip
              refine wpAnyL_done (by kernel_rfl) ?_ _
              have hr1 := HR1.out
              rw [if_neg (by omega)] at hr1
              subst hr1
              clear hHeld k3 KB5 VX9 V9 QH QM3 QC3
              clear HR1
              go_wp2_with (first
                | (go_at_call 34; (with_reducible refine (RD.out _ _ l0 l1).mono ?_); rintro e w9 ⟨rfl, rfl⟩))
              go_ret2
              exact ⟨rfl, KW.out _ D.out⟩
          · as_aux_lemma =>
              (refine wp_region_L (S := fun w' => (w'.cell? ⟨g1, 0, none⟩ = some (.bool b1) ∧ w'.cell? ⟨g1, 1, none⟩ = some (.slice A1 n1 c1) ∧ w'.cell? ⟨g1, 2, none⟩ = some (.int .i64 t1)) ∧ (w'.cell? ⟨g9, 0, none⟩ = some (.bool b9) ∧ w'.cell? ⟨g9, 1, none⟩ = some (.slice A9 n9 c9) ∧ w'.cell? ⟨g9, 2, none⟩ = some (.int .i64 t9))) (nl := 1000000) (by kernel_rfl) ?_ (fun hHeld => ?_); focus (exact KB5.out _ D.out))
              (refine wpAnyL_take (i := 0) (oi := _) (v := ?_) rfl (by kernel_rfl) (by kernel_rfl) (by kernel_rfl) (fun _ _ _ h => h) (Or.inl ⟨by first | rfl | kernel_rfl, ?hy62⟩) (by assumption) ?rs62; (case hy62 => (intro w hSw; (try dsimp only at hSw); go_simp; first | done | with_reducible rfl)); case' rs62 => (simp only [List.getElem_toArray, List.getElem_cons_zero, List.getElem_cons_succ, Act.put, List.setIfInBounds_toArray, List.set_cons_zero, List.set_cons_succ])); (refine wpAnyL_take (i := 1) (oi := _) (v := ?_) rfl (by kernel_rfl) (by kernel_rfl) (by kernel_rfl) (fun _ _ _ h => h) (Or.inl ⟨by first | rfl | kernel_rfl, ?hy63⟩) (by assumption) ?rs63; (case hy63 => (intro w hSw; (try dsimp only at hSw); go_simp; first | done | with_reducible rfl)); case' rs63 => (simp only [List.getElem_toArray, List.getElem_cons_zero, List.getElem_cons_succ, Act.put, List.setIfInBounds_toArray, List.set_cons_zero, List.set_cons_succ])); (refine wpAnyL_take (i := 2) (oi := _) (v := ?_) rfl (by kernel_rfl) (by kernel_rfl) (by kernel_rfl) (fun _ _ _ h => h) (Or.inl ⟨by first | rfl | kernel_rfl, ?hy64⟩) (by assumption) ?rs64; (case hy64 => (intro w hSw; (try dsimp only at hSw); go_simp; first | done | with_reducible rfl)); case' rs64 => (simp only [List.getElem_toArray, List.getElem_cons_zero, List.getElem_cons_succ, Act.put, List.setIfInBounds_toArray, List.set_cons_zero, List.set_cons_succ])); (refine wpAnyL_take (i := 3) (oi := _) (v := ?_) rfl (by kernel_rfl) (by kernel_rfl) (by kernel_rfl) (fun _ _ _ h => h) (Or.inl ⟨by first | rfl | kernel_rfl, ?hy65⟩) (by assumption) ?rs65; (case hy65 => (intro w hSw; (try dsimp only at hSw); go_simp; first | done | with_reducible rfl)); case' rs65 => (simp only [List.getElem_toArray, List.getElem_cons_zero, List.getElem_cons_succ, Act.put, List.setIfInBounds_toArray, List.set_cons_zero, List.set_cons_succ])); (refine wpAnyL_take (i := 4) (oi := _) (v := ?_) rfl (by kernel_rfl) (by kernel_rfl) (by kernel_rfl) (fun _ _ _ h => h) (Or.inl ⟨by first | rfl | kernel_rfl, ?hy66⟩) (by assumption) ?rs66; (case hy66 => (intro w hSw; (try dsimp only at hSw); go_simp; first | done | with_reducible rfl)); case' rs66 => (simp only [List.getElem_toArray, List.getElem_cons_zero, List.getElem_cons_succ, Act.put, List.setIfInBounds_toArray, List.set_cons_zero, List.set_cons_succ])); (refine wpAnyL_take (i := 5) (oi := _) (v := ?_) rfl (by kernel_rfl) (by kernel_rfl) (by kernel_rfl) (fun _ _ _ h => h) (Or.inl ⟨by first | rfl | kernel_rfl, ?hy67⟩) (by assumption) ?rs67; (case hy67 => (intro w hSw; (try dsimp only at hSw); go_simp; first | done | with_reducible rfl)); case' rs67 => (simp only [List.getElem_toArray, List.getElem_cons_zero, List.getElem_cons_succ, Act.put, List.setIfInBounds_toArray, List.set_cons_zero, List.set_cons_succ])); (refine wpAnyL_take (i := 6) (oi := _) (v := ?_) rfl (by kernel_rfl) (by kernel_rfl) (by kernel_rfl) (fun _ _ _ h => h) (Or.inl ⟨by first | rfl | kernel_rfl, ?hy68⟩) (by assumption) ?rs68; (case hy68 => (intro w hSw; (try dsimp only at hSw); go_simp; first | done | with_reducible rfl)); case' rs68 => (simp only [List.getElem_toArray, List.getElem_cons_zero, List.getElem_cons_succ, Act.put, List.setIfInBounds_toArray, List.set_cons_zero, List.set_cons_succ])); (refine wpAnyL_take (i := 7) (oi := _) (v := ?_) rfl (by kernel_rfl) (by kernel_rfl) (by kernel_rfl) (fun _ _ _ h => h) (Or.inl ⟨by first | rfl | kernel_rfl, ?hy69⟩) (by assumption) ?rs69; (case hy69 => (intro w hSw; (try dsimp only at hSw); go_simp; first | done | with_reducible rfl)); case' rs69 => (simp only [List.getElem_toArray, List.getElem_cons_zero, List.getElem_cons_succ, Act.put, List.setIfInBounds_toArray, List.set_cons_zero, List.set_cons_succ])); (refine wpAnyL_take (i := 8) (oi := _) (v := ?_) rfl (by kernel_rfl) (by kernel_rfl) (by kernel_rfl) (fun _ _ _ h => h) (Or.inl ⟨by first | rfl | kernel_rfl, ?hy70⟩) (by assumption) ?rs70; (case hy70 => (intro w hSw; (try dsimp only at hSw); go_simp; first | done | with_reducible rfl)); case' rs70 => (simp only [List.getElem_toArray, List.getElem_cons_zero, List.getElem_cons_succ, Act.put, List.setIfInBounds_toArray, List.set_cons_zero, List.set_cons_succ])); (refine wpAnyL_take (i := 9) (oi := _) (v := ?_) rfl (by kernel_rfl) (by kernel_rfl) (by kernel_rfl) (fun _ _ _ h => h) (Or.inl ⟨by first | rfl | kernel_rfl, ?hy71⟩) (by assumption) ?rs71; (case hy71 => (intro w hSw; (try dsimp only at hSw); go_simp; first | done | with_reducible rfl)); case' rs71 => (simp only [List.getElem_toArray, List.getElem_cons_zero, List.getElem_cons_succ, Act.put, List.setIfInBounds_toArray, List.set_cons_zero, List.set_cons_succ])); (refine wpAnyL_take (i := 10) (oi := _) (v := undef) rfl (by kernel_rfl) (by kernel_rfl) (by kernel_rfl) (fun _ _ _ h => h) (Or.inr ⟨by first | rfl | kernel_rfl, rfl⟩) (by assumption) ?rs72; case' rs72 => (simp only [List.getElem_toArray, List.getElem_cons_zero, List.getElem_cons_succ, Act.put, List.setIfInBounds_toArray, List.set_cons_zero, List.set_cons_succ])); (refine wpAnyL_take (i := 11) (oi := _) (v := undef) rfl (by kernel_rfl) (by kernel_rfl) (by kernel_rfl) (fun _ _ _ h => h) (Or.inr ⟨by first | rfl | kernel_rfl, rfl⟩) (by assumption) ?rs73; case' rs73 => (simp only [List.getElem_toArray, List.getElem_cons_zero, List.getElem_cons_succ, Act.put, List.setIfInBounds_toArray, List.set_cons_zero, List.set_cons_succ])); (refine wpAnyL_take (i := 12) (oi := _) (v := undef) rfl (by kernel_rfl) (by kernel_rfl) (by kernel_rfl) (fun _ _ _ h => h) (Or.inr ⟨by first | rfl | kernel_rfl, rfl⟩) (by assumption) ?rs74; case' rs74 => (simp only [List.getElem_toArray, List.getElem_cons_zero, List.getElem_cons_succ, Act.put, List.setIfInBounds_toArray, List.set_cons_zero, List.set_cons_succ])); (refine wpAnyL_take (i := 13) (oi := _) (v := undef) rfl (by kernel_rfl) (by kernel_rfl) (by kernel_rfl) (fun _ _ _ h => h) (Or.inr ⟨by first | rfl | kernel_rfl, rfl⟩) (by assumption) ?rs75; case' rs75 => (simp only [List.getElem_toArray, List.getElem_cons_zero, List.getElem_cons_succ, Act.put, List.setIfInBounds_toArray, List.set_cons_zero, List.set_cons_succ])); (refine wpAnyL_take (i := 14) (oi := _) (v := undef) rfl (by kernel_rfl) (by kernel_rfl) (by kernel_rfl) (fun _ _ _ h => h) (Or.inr ⟨by first | rfl | kernel_rfl, rfl⟩) (by assumption) ?rs76; case' rs76 => (simp only [List.getElem_toArray, List.getElem_cons_zero, List.getElem_cons_succ, Act.put, List.setIfInBounds_toArray, List.set_cons_zero, List.set_cons_succ])); (refine wpAnyL_take (i := 15) (oi := _) (v := undef) rfl (by kernel_rfl) (by kernel_rfl) (by kernel_rfl) (fun _ _ _ h => h) (Or.inr ⟨by first | rfl | kernel_rfl, rfl⟩) (by assumption) ?rs77; case' rs77 => (simp only [List.getElem_toArray, List.getElem_cons_zero, List.getElem_cons_succ, Act.put, List.setIfInBounds_toArray, List.set_cons_zero, List.set_cons_succ])); (refine wpAnyL_take (i := 16) (oi := _) (v := undef) rfl (by kernel_rfl) (by kernel_rfl) (by kernel_rfl) (fun _ _ _ h => h) (Or.inr ⟨by first | rfl | kernel_rfl, rfl⟩) (by assumption) ?rs78; case' rs78 => (simp only [List.getElem_toArray, List.getElem_cons_zero, List.getElem_cons_succ, Act.put, List.setIfInBounds_toArray, List.set_cons_zero, List.set_cons_succ])); (refine wpAnyL_take (i := 17) (oi := _) (v := ?_) rfl (by kernel_rfl) (by kernel_rfl) (by kernel_rfl) (fun _ _ _ h => h) (Or.inl ⟨by first | rfl | kernel_rfl, ?hy79⟩) (by assumption) ?rs79; (case hy79 => (intro w hSw; (try dsimp only at hSw); go_simp; first | done | with_reducible rfl)); case' rs79 => (simp only [List.getElem_toArray, List.getElem_cons_zero, List.getElem_cons_succ, Act.put, List.setIfInBounds_toArray, List.set_cons_zero, List.set_cons_succ])); (refine wpAnyL_take (i := 18) (oi := _) (v := ?_) rfl (by kernel_rfl) (by kernel_rfl) (by kernel_rfl) (fun _ _ _ h => h) (Or.inl ⟨by first | rfl | kernel_rfl, ?hy80⟩) (by assumption) ?rs80; (case hy80 => (intro w hSw; (try dsimp only at hSw); go_simp; first | done | with_reducible rfl)); case' rs80 => (simp only [List.getElem_toArray, List.getElem_cons_zero, List.getElem_cons_succ, Act.put, List.setIfInBounds_toArray, List.set_cons_zero, List.set_cons_succ])); skip
              refine wpAnyL_done (by kernel_rfl) ?_ _
              have hr1 := HR1.out
              rw [if_neg (by omega)] at hr1
              subst hr1
              clear hHeld k3 KB5 VX9 V9 QH QM3 QC3
              clear HR1
              go_wp2_with (first
                | (go_at_call 34; (with_reducible refine (RD.out _ _ l0 l1).mono ?_); rintro e w9 ⟨rfl, rfl⟩))
              go_ret2
              exact ⟨rfl, KW.out _ D.out⟩
          · as_aux_lemma =>
              (refine wp_region_L (S := fun w' => (w'.cell? ⟨g1, 0, none⟩ = some (.bool b1) ∧ w'.cell? ⟨g1, 1, none⟩ = some (.slice A1 n1 c1) ∧ w'.cell? ⟨g1, 2, none⟩ = some (.int .i64 t1)) ∧ (w'.cell? ⟨g9, 0, none⟩ = some (.bool b9) ∧ w'.cell? ⟨g9, 1, none⟩ = some (.slice A9 n9 c9) ∧ w'.cell? ⟨g9, 2, none⟩ = some (.int .i64 t9))) (nl := 1000000) (by kernel_rfl) ?_ (fun hHeld => ?_); focus (exact KB5.out _ D.out))
              (refine wpAnyL_take (i := 0) (oi := _) (v := ?_) rfl (by kernel_rfl) (by kernel_rfl) (by kernel_rfl) (fun _ _ _ h => h) (Or.inl ⟨by first | rfl | kernel_rfl, ?hy81⟩) (by assumption) ?rs81; (case hy81 => (intro w hSw; (try dsimp only at hSw); go_simp; first | done | with_reducible rfl)); case' rs81 => (simp only [List.getElem_toArray, List.getElem_cons_zero, List.getElem_cons_succ, Act.put, List.setIfInBounds_toArray, List.set_cons_zero, List.set_cons_succ])); (refine wpAnyL_take (i := 1) (oi := _) (v := ?_) rfl (by kernel_rfl) (by kernel_rfl) (by kernel_rfl) (fun _ _ _ h => h) (Or.inl ⟨by first | rfl | kernel_rfl, ?hy82⟩) (by assumption) ?rs82; (case hy82 => (intro w hSw; (try dsimp only at hSw); go_simp; first | done | with_reducible rfl)); case' rs82 => (simp only [List.getElem_toArray, List.getElem_cons_zero, List.getElem_cons_succ, Act.put, List.setIfInBounds_toArray, List.set_cons_zero, List.set_cons_succ])); (refine wpAnyL_take (i := 2) (oi := _) (v := ?_) rfl (by kernel_rfl) (by kernel_rfl) (by kernel_rfl) (fun _ _ _ h => h) (Or.inl ⟨by first | rfl | kernel_rfl, ?hy83⟩) (by assumption) ?rs83; (case hy83 => (intro w hSw; (try dsimp only at hSw); go_simp; first | done | with_reducible rfl)); case' rs83 => (simp only [List.getElem_toArray, List.getElem_cons_zero, List.getElem_cons_succ, Act.put, List.setIfInBounds_toArray, List.set_cons_zero, List.set_cons_succ])); (refine wpAnyL_take (i := 3) (oi := _) (v := ?_) rfl (by kernel_rfl) (by kernel_rfl) (by kernel_rfl) (fun _ _ _ h => h) (Or.inl ⟨by first | rfl | kernel_rfl, ?hy84⟩) (by assumption) ?rs84; (case hy84 => (intro w hSw; (try dsimp only at hSw); go_simp; first | done | with_reducible rfl)); case' rs84 => (simp only [List.getElem_toArray, List.getElem_cons_zero, List.getElem_cons_succ, Act.put, List.setIfInBounds_toArray, List.set_cons_zero, List.set_cons_succ])); (refine wpAnyL_take (i := 4) (oi := _) (v := ?_) rfl (by kernel_rfl) (by kernel_rfl) (by kernel_rfl) (fun _ _ _ h => h) (Or.inl ⟨by first | rfl | kernel_rfl, ?hy85⟩) (by assumption) ?rs85; (case hy85 => (intro w hSw; (try dsimp only at hSw); go_simp; first | done | with_reducible rfl)); case' rs85 => (simp only [List.getElem_toArray, List.getElem_cons_zero, List.getElem_cons_succ, Act.put, List.setIfInBounds_toArray, List.set_cons_zero, List.set_cons_succ])); (refine wpAnyL_take (i := 5) (oi := _) (v := ?_) rfl (by kernel_rfl) (by kernel_rfl) (by kernel_rfl) (fun _ _ _ h => h) (Or.inl ⟨by first | rfl | kernel_rfl, ?hy86⟩) (by assumption) ?rs86; (case hy86 => (intro w hSw; (try dsimp only at hSw); go_simp; first | done | with_reducible rfl)); case' rs86 => (simp only [List.getElem_toArray, List.getElem_cons_zero, List.getElem_cons_succ, Act.put, List.setIfInBounds_toArray, List.set_cons_zero, List.set_cons_succ])); (refine wpAnyL_take (i := 6) (oi := _) (v := ?_) rfl (by kernel_rfl) (by kernel_rfl) (by kernel_rfl) (fun _ _ _ h => h) (Or.inl ⟨by first | rfl | kernel_rfl, ?hy87⟩) (by assumption) ?rs87; (case hy87 => (intro w hSw; (try dsimp only at hSw); go_simp; first | done | with_reducible rfl)); case' rs87 => (simp only [List.getElem_toArray, List.getElem_cons_zero, List.getElem_cons_succ, Act.put, List.setIfInBounds_toArray, List.set_cons_zero, List.set_cons_succ])); (refine wpAnyL_take (i := 7) (oi := _) (v := ?_) rfl (by kernel_rfl) (by kernel_rfl) (by kernel_rfl) (fun _ _ _ h => h) (Or.inl ⟨by first | rfl | kernel_rfl, ?hy88⟩) (by assumption) ?rs88; (case hy88 => (intro w hSw; (try dsimp only at hSw); go_simp; first | done | with_reducible rfl)); case' rs88 => (simp only [List.getElem_toArray, List.getElem_cons_zero, List.getElem_cons_succ, Act.put, List.setIfInBounds_toArray, List.set_cons_zero, List.set_cons_succ])); (refine wpAnyL_take (i := 8) (oi := _) (v := ?_) rfl (by kernel_rfl) (by kernel_rfl) (by kernel_rfl) (fun _ _ _ h => h) (Or.inl ⟨by first | rfl | kernel_rfl, ?hy89⟩) (by assumption) ?rs89; (case hy89 => (intro w hSw; (try dsimp only at hSw); go_simp; first | done | with_reducible rfl)); case' rs89 => (simp only [List.getElem_toArray, List.getElem_cons_zero, List.getElem_cons_succ, Act.put, List.setIfInBounds_toArray, List.set_cons_zero, List.set_cons_succ])); (refine wpAnyL_take (i := 9) (oi := _) (v := ?_) rfl (by kernel_rfl) (by kernel_rfl) (by kernel_rfl) (fun _ _ _ h => h) (Or.inl ⟨by first | rfl | kernel_rfl, ?hy90⟩) (by assumption) ?rs90; (case hy90 => (intro w hSw; (try dsimp only at hSw); go_simp; first | done | with_reducible rfl)); case' rs90 => (simp only [List.getElem_toArray, List.getElem_cons_zero, List.getElem_cons_succ, Act.put, List.setIfInBounds_toArray, List.set_cons_zero, List.set_cons_succ])); skip
              (refine wpAnyL_take (i := 10) (oi := _) (v := ?_) rfl (by kernel_rfl) (by kernel_rfl) (by kernel_rfl) (fun _ _ _ h => h) (Or.inl ⟨by first | rfl | kernel_rfl, ?hy91⟩) (by assumption) ?rs91; (case hy91 => (intro w hSw; (try dsimp only at hSw); go_simp; first | done | with_reducible rfl)); case' rs91 => (simp only [List.getElem_toArray, List.getElem_cons_zero, List.getElem_cons_succ, Act.put, List.setIfInBounds_toArray, List.set_cons_zero, List.set_cons_succ])); (refine wpAnyL_take (i := 12) (oi := _) (v := ?_) rfl (by kernel_rfl) (by kernel_rfl) (by kernel_rfl) (fun _ _ _ h => h) (Or.inl ⟨by first | rfl | kernel_rfl, ?hy92⟩) (by assumption) ?rs92; (case hy92 => (intro w hSw; (try dsimp only at hSw); go_simp; first | done | with_reducible rfl)); case' rs92 => (simp only [List.getElem_toArray, List.getElem_cons_zero, List.getElem_cons_succ, Act.put, List.setIfInBounds_toArray, List.set_cons_zero, List.set_cons_succ])); (refine wpAnyL_take (i := 13) (oi := _) (v := ?_) rfl (by kernel_rfl) (by kernel_rfl) (by kernel_rfl) (fun _ _ _ h => h) (Or.inl ⟨by first | rfl | kernel_rfl, ?hy93⟩) (by assumption) ?rs93; (case hy93 => (intro w hSw; (try dsimp only at hSw); go_simp; first | done | with_reducible rfl)); case' rs93 => (simp only [List.getElem_toArray, List.getElem_cons_zero, List.getElem_cons_succ, Act.put, List.setIfInBounds_toArray, List.set_cons_zero, List.set_cons_succ])); skip
              (refine wpAnyL_one (i := 11) (o := _) (by kernel_rfl) rfl (fun K hK => ?_); clear hHeld; simp only [List.getElem_toArray, List.getElem_cons_zero, List.getElem_cons_succ]; go_simp; (go_at_call 36; (with_reducible refine (QH.out _ _ (VX9.out _ D.out)).mono ?_); rintro e w5 ⟨b5, A5, n5, c5, t5, z5, rfl, hz5, x1, x2, x3, x4, hb⟩; have QQ := Lib.hid (RetS.qs hz5 x1 x2 x3 x4); have D := Lib.hid (D.out.trans (hb.mono D.out.size)); clear hb hz5 x1 x2 x3 x4); refine hK.out _ _ ?_ (fun hHeld => ?_); focus (intro _; exact KB5.out _ D.out)); have hHeld := hHeld (by decide); clear hK K; (try simp only [Act.put, List.setIfInBounds_toArray, List.set_cons_zero, List.set_cons_succ])
              (refine wpAnyL_one (i := 14) (o := _) (by kernel_rfl) rfl (fun K hK => ?_); clear hHeld; simp only [List.getElem_toArray, List.getElem_cons_zero, List.getElem_cons_succ]; go_simp; (go_at_call 33; (with_reducible refine (QM3.out _ _ (V9.out _ D.out)).mono ?_); rintro e w6 ⟨b6, A6, n6, c6, t6, z6, rfl, hz6, x1, x2, x3, x4, hb⟩; have QQ := Lib.hid (QQ.out.below hb); have Q6 := Lib.hid (RetS.qs hz6 x1 x2 x3 x4); have D := Lib.hid (D.out.trans (hb.mono D.out.size)); clear hb hz6 x1 x2 x3 x4); refine hK.out _ _ ?_ (fun hHeld => ?_); focus (intro _; exact KB5.out _ D.out)); have hHeld := hHeld (by decide); clear hK K; (try simp only [Act.put, List.setIfInBounds_toArray, List.set_cons_zero, List.set_cons_succ])
              (refine wpAnyL_one (i := 15) (o := _) (by kernel_rfl) rfl (fun K hK => ?_); clear hHeld; simp only [List.getElem_toArray, List.getElem_cons_zero, List.getElem_cons_succ]; go_simp; (go_at_call 32; (with_reducible refine (QC3.out _ _ _ QQ.out Q6.out).mono ?_); rintro e w7 ⟨rfl, hb⟩; have D := Lib.hid (D.out.trans (hb.mono D.out.size)); clear hb QQ Q6); refine hK.out _ _ ?_ (fun hHeld => ?_); focus (intro _; exact KB5.out _ D.out)); have hHeld := hHeld (by decide); clear hK K; (try simp only [Act.put, List.setIfInBounds_toArray, List.set_cons_zero, List.set_cons_succ])
              (refine wpAnyL_take (i := 16) (oi := _) (v := ?_) rfl (by kernel_rfl) (by kernel_rfl) (by kernel_rfl) (fun _ _ _ h => h) (Or.inl ⟨by first | rfl | kernel_rfl, ?hy94⟩) (by assumption) ?rs94; (case hy94 => (intro w hSw; (try dsimp only at hSw); go_simp; first | done | with_reducible rfl)); case' rs94 => (simp only [List.getElem_toArray, List.getElem_cons_zero, List.getElem_cons_succ, Act.put, List.setIfInBounds_toArray, List.set_cons_zero, List.set_cons_succ])); (refine wpAnyL_take (i := 17) (oi := _) (v := ?_) rfl (by kernel_rfl) (by kernel_rfl) (by kernel_rfl) (fun _ _ _ h => h) (Or.inl ⟨by first | rfl | kernel_rfl, ?hy95⟩) (by assumption) ?rs95; (case hy95 => (intro w hSw; (try dsimp only at hSw); go_simp; first | done | with_reducible rfl)); case' rs95 => (simp only [List.getElem_toArray, List.getElem_cons_zero, List.getElem_cons_succ, Act.put, List.setIfInBounds_toArray, List.set_cons_zero, List.set_cons_succ])); (refine wpAnyL_take (i := 18) (oi := _) (v := ?_) rfl (by kernel_rfl) (by kernel_rfl) (by kernel_rfl) (fun _ _ _ h => h) (Or.inl ⟨by first | rfl | kernel_rfl, ?hy96⟩) (by assumption) ?rs96; (case hy96 => (intro w hSw; (try dsimp only at hSw); go_simp; first | done | with_reducible rfl)); case' rs96 => (simp only [List.getElem_toArray, List.getElem_cons_zero, List.getElem_cons_succ, Act.put, List.setIfInBounds_toArray, List.set_cons_zero, List.set_cons_succ])); skip
              refine wpAnyL_done (by kernel_rfl) ?_ _
              clear hHeld
              rcases k3 with ⟨k4, k6⟩ | ⟨k4, k6⟩
              · have hr1 := HR1.out
                rw [if_pos (.inr ⟨by omega, k6⟩)] at hr1
                subst hr1
                clear k6 KB5 VX9 V9 QH QM3 QC3
                clear HR1
                go_wp2_with (first
                  | (go_at_call 34; (with_reducible refine (RD.out _ _ lp l2).mono ?_); rintro e w9 ⟨rfl, rfl⟩))
                go_ret2
                exact ⟨rfl, KW.out _ D.out⟩
              · have hr1 := HR1.out
                rw [if_neg (by intro h; rcases h with h | h; omega; exact k6 h.2)] at hr1
                subst hr1
                clear k6 KB5 VX9 V9 QH QM3 QC3
                clear HR1
                go_wp2_with (first
                  | (go_at_call 34; (with_reducible refine (RD.out _ _ l0 l1).mono ?_); rintro e w9 ⟨rfl, rfl⟩))
                go_ret2
                exact ⟨rfl, KW.out _ D.out⟩
end JC
end Go.Proofs.YtpmjeipdldnnbaaGreatDoor
