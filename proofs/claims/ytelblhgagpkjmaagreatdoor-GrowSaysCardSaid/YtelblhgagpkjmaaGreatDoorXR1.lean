/-
  The reference's numbers over a power of two, small facts, without the search for a rank.
-/
import Derived.Test.YtelblhgagpkjmaaGreatDoorF18
import Derived.Test.YtelblhgagpkjmaaGreatDoorF13
import Derived.Test.YtelblhgagpkjmaaGreatDoorF12
import Derived.Test.YtelblhgagpkjmaaGreatDoorF9
namespace Go.Proofs.YtelblhgagpkjmaaGreatDoor
set_option linter.unusedVariables false
set_option linter.unusedSimpArgs false
open Go.RowKit
set_option linter.unusedVariables false
set_option linter.unusedSimpArgs false
namespace GC
open Z (Nz Tz cmpv big)
open ZC DC RC QC SC VC PC
theorem QVal_m {M : Nat} (hM : M = 2200) (x : Int) (w : World) (h : fi x) : Calls Tryz.prog 25 #[.int .u64 x] w (RetSF M 1100 w (val x)) := by
  have hb := F.exq_bd x
  have hf := F.fra_bd x
  have mb : 0 ≤ mant x ∧ mant x < 9007199254740992 := by unfold mant; split <;> omega
  have ub : -1074 ≤ F.ulp x ∧ F.ulp x ≤ 972 := by unfold F.ulp; split <;> omega
  have e1 := (of_p h.1 h.2.1 h.2.2).1
  have e : val x = sc (sgm (F.sgn x) (mant x)) (F.ulp x) := by
    unfold val S
    unfold OfD at e1 ⊢
    rw [if_neg h.2.2] at e1 ⊢
    exact fin_sc (by omega) e1
  rw [e]
  have ha : (sgm (F.sgn x) (mant x)).natAbs < 2 ^ 53 := by
    have h2 : (2 : Nat) ^ 53 = 9007199254740992 := by decide
    unfold sgm
    rw [h2]
    split <;> omega
  refine (QVal_f x w h.1 h.2.1).mono fun en w' hr => ?_
  obtain ⟨b9, A9, n9, c9, rfl, hr, hf9, hb9⟩ := hr
  have := mkt_bd (F.ulp x) 1074 (by omega)
  have hz := mkz_lt (M := 53) (E := 972) (e := F.ulp x) ha (by omega)
  obtain ⟨J, hJ⟩ : ∃ J : Nat, J = 53 + 972 := ⟨_, rfl⟩
  rw [← hJ] at hz
  have hlt : (2 : Nat) ^ J ≤ 2 ^ M := Nat.pow_le_pow_right (by decide) (by omega)
  exact ⟨b9, A9, n9, c9, _, _, rfl, hr, Nat.lt_of_lt_of_le hz hlt, this.1, by omega, mk_sc _ _ (by omega), hf9, hb9⟩
theorem QAbs_c (va : Value) (a ta : Int) (w : World) (ha : QV w va a ta) :
    Calls Tryz.prog 29 #[va] w (RetV w (a.natAbs : Int) ta) := by
  obtain ⟨b1, A1, n1, c1, rfl, hv1⟩ := ha
  obtain ⟨W0, hW0, D0, HS, KB⟩ := qbox1 w b1 A1 n1 c1 ta
  have VA : Hid (∀ W, Below W0.heap.size W0 W → ZV W (.agg #[.bool b1, .slice A1 n1 c1]) a) := fun W h => (((hv1.below D0).below h)).v
  have NG : Hid (∀ (W : World) (u : Value), ZV W u a → Calls Tryz.prog 35 #[u] W (RetZ0 W (a.natAbs : Int))) := fun W u h1 => ZAbs_c u _ W h1
  have HW0 := Lib.hid hW0
  have D0 := Lib.hid D0
  have KB := Lib.hid KB
  generalize (a.natAbs : Int) = r at *
  clear hv1 hW0 HS
  go_enter Tryz.func29, Tryz.ntmps29
  go_upto_region 1 with fail
  rw [HW0.out]
  have D : Below W0.heap.size W0 W0.drew := (Below.refl _ _).drew
  (refine wp_region_L (S := fun w' => w'.cell? ⟨w.heap.size, 0, none⟩ = some (.bool b1) ∧ w'.cell? ⟨w.heap.size, 1, none⟩ = some (.slice A1 n1 c1) ∧ w'.cell? ⟨w.heap.size, 2, none⟩ = some (.int .i64 ta)) (nl := 1000000) (by kernel_rfl) ?_ (fun hHeld => ?_); focus (exact (KB.out _ D).1))
  (refine wpAnyL_take (i := 0) (oi := _) (v := ?_) rfl (by kernel_rfl) (by kernel_rfl) (by kernel_rfl) (fun _ _ _ h => h) (Or.inl ⟨by first | rfl | kernel_rfl, ?hy1⟩) (by assumption) ?rs1; (case hy1 => (intro w hSw; (try dsimp only at hSw); go_simp; first | done | with_reducible rfl)); case' rs1 => (simp only [List.getElem_toArray, List.getElem_cons_zero, List.getElem_cons_succ, Act.put, List.setIfInBounds_toArray, List.set_cons_zero, List.set_cons_succ])); (refine wpAnyL_take (i := 1) (oi := _) (v := ?_) rfl (by kernel_rfl) (by kernel_rfl) (by kernel_rfl) (fun _ _ _ h => h) (Or.inl ⟨by first | rfl | kernel_rfl, ?hy2⟩) (by assumption) ?rs2; (case hy2 => (intro w hSw; (try dsimp only at hSw); go_simp; first | done | with_reducible rfl)); case' rs2 => (simp only [List.getElem_toArray, List.getElem_cons_zero, List.getElem_cons_succ, Act.put, List.setIfInBounds_toArray, List.set_cons_zero, List.set_cons_succ])); (refine wpAnyL_take (i := 3) (oi := _) (v := ?_) rfl (by kernel_rfl) (by kernel_rfl) (by kernel_rfl) (fun _ _ _ h => h) (Or.inl ⟨by first | rfl | kernel_rfl, ?hy3⟩) (by assumption) ?rs3; (case hy3 => (intro w hSw; (try dsimp only at hSw); go_simp; first | done | with_reducible rfl)); case' rs3 => (simp only [List.getElem_toArray, List.getElem_cons_zero, List.getElem_cons_succ, Act.put, List.setIfInBounds_toArray, List.set_cons_zero, List.set_cons_succ])); (refine wpAnyL_take (i := 4) (oi := _) (v := ?_) rfl (by kernel_rfl) (by kernel_rfl) (by kernel_rfl) (fun _ _ _ h => h) (Or.inl ⟨by first | rfl | kernel_rfl, ?hy4⟩) (by assumption) ?rs4; (case hy4 => (intro w hSw; (try dsimp only at hSw); go_simp; first | done | with_reducible rfl)); case' rs4 => (simp only [List.getElem_toArray, List.getElem_cons_zero, List.getElem_cons_succ, Act.put, List.setIfInBounds_toArray, List.set_cons_zero, List.set_cons_succ])); skip
  (refine wpAnyL_one (i := 2) (o := _) (by kernel_rfl) rfl (fun K hK => ?_); clear hHeld; simp only [List.getElem_toArray, List.getElem_cons_zero, List.getElem_cons_succ]; go_simp; (go_at_call 35; (with_reducible refine (NG.out _ _ (VA.out _ D)).mono ?_); rintro e w2 ⟨_, rfl, hr, hb2⟩; have D1 := D.size; have D := D.trans (hb2.mono D.size); obtain ⟨b3, A3, n3, c3, rfl, hr⟩ := hr; have of := off_q hr (KB.out _ D).2); refine hK.out _ _ ?_ (fun hHeld => ?_); focus (intro _; exact (KB.out _ D).1)); have hHeld := hHeld (by decide); clear hK K; (try simp only [Act.put, List.setIfInBounds_toArray, List.set_cons_zero, List.set_cons_succ])
  (refine wpAnyL_take (i := 5) (oi := _) (v := ?_) rfl (by kernel_rfl) (by kernel_rfl) (by kernel_rfl) (fun _ _ _ h => h) (Or.inl ⟨by first | rfl | kernel_rfl, ?hy5⟩) (by assumption) ?rs5; (case hy5 => (intro w hSw; (try dsimp only at hSw); go_simp; first | done | with_reducible rfl)); case' rs5 => (simp only [List.getElem_toArray, List.getElem_cons_zero, List.getElem_cons_succ, Act.put, List.setIfInBounds_toArray, List.set_cons_zero, List.set_cons_succ])); skip
  have R := (KB.out _ D).2
  have f0 := R.frozen 0; have f1 := R.frozen 1; have f2 := R.frozen 2; have t0 := R.at_ 0 rfl; have t1 := R.at_ 1 rfl; have t2 := R.at_ 2 rfl
  have X := Lib.hid (set3 hr of (.bool b3) (.slice A3 n3 c3) (.int .i64 ta))
  have D := Lib.hid D
  (refine wpAnyL_one (i := 6) (o := _) (by kernel_rfl) rfl (fun K hK => ?_); clear hHeld; simp only [List.getElem_toArray, List.getElem_cons_zero, List.getElem_cons_succ]; go_simp; refine hK.out _ _ ?_ (fun hHeld => ?_); focus (intro _; (obtain ⟨s0, s1, s2⟩ := (KB.out _ D.out).1; refine ⟨?_, ?_, ?_⟩ <;> (repeat rw [World.cell?_setCell_other _ _ _ _ (by simp)]) <;> assumption))); have hHeld := hHeld (by decide); clear hK K; (try simp only [Act.put, List.setIfInBounds_toArray, List.set_cons_zero, List.set_cons_succ])
  refine wpAnyL_done (by kernel_rfl) ?_ _
  go_wp2
  exact bodyPost_ret (v := .agg #[.bool b3, .slice A3 n3 c3, .int .i64 ta]) (by simp [results, Tryz.results29, go_sem, t0, t1, t2]) rfl
    ⟨_, _, _, _, rfl, X.out, below3q (D0.out.trans (D.out.mono D0.out.size)) (by omega) _ _ _⟩
theorem QAbs_s {M T : Nat} {u : Value} {s : Int} {w : World} (h : QS M T w u s) : Calls Tryz.prog 29 #[u] w (RetS M T w (s.natAbs : Int)) := by
  obtain ⟨a, ta, ha, a1, a2, a3, a4⟩ := h
  refine (QAbs_c u a ta w ha).mono ?_
  rintro e w' ⟨b9, A9, n9, c9, rfl, hr, hb9⟩
  refine ⟨b9, A9, n9, c9, _, _, rfl, hr, by rw [Int.natAbs_natCast]; exact a1, a2, a3, ?_, hb9⟩
  have hp := sc_one_pos (-ta)
  rw [sc_mul1] at a4 ⊢
  rw [← a4, Int.natAbs_mul, Int.natCast_mul, show ((sc 1 (-ta)).natAbs : Int) = sc 1 (-ta) by omega]
/-- a power of two, made -/
theorem QPow_s {M : Nat} (hM : M = 2400) (v : Value) (k : Int) (w : World) (hv : ZV w v 1) (h0 : -1200 ≤ k) (h1 : k ≤ 1032) : Calls Tryz.prog 27 #[v, .int .i64 k] w (RetS M 1200 w (sc 1 k)) := by
  refine (QMake_c v 1 k w hv (lt_big (M := 1) (N := 1000000) (by decide) (by omega) (by omega)) (by omega) (by omega)).mono fun e w' hr => ?_
  obtain ⟨J, hJ⟩ : ∃ J : Nat, J = 1032 := ⟨_, rfl⟩
  obtain ⟨b, A, n, c, t, z, e1, e2, e3, e4, e5, e6, e7⟩ := RetV.s (M := 1) (E := J) (T := 1200) hr (by decide) (by omega) (by omega) (by omega)
  refine ⟨b, A, n, c, t, z, e1, e2, Nat.lt_of_lt_of_le e3 (Nat.pow_le_pow_right (by decide) (by omega)), e4, e5, e6, e7⟩
theorem hv_iff (x : Int) : (F.cls x < 4 ↔ ¬ F.exq x = 2047) := by
  have := cls_fi (x := x)
  have := F.cls_bd x
  omega
theorem HasVal_c (x : Int) (w : World) (hx : 0 ≤ x ∧ x ≤ 18446744073709551615) : Calls Tryz.prog 14 #[.int .u64 x] w (fun e w' => e = .returned (.bool (!decide (F.exq x = 2047))) ∧ w = w') := by
  have KL := Lib.hid (FloatR.ClassOf_c x hx.1 hx.2 w)
  have h := hv_iff x
  have e : (!decide (F.exq x = 2047)) = decide (F.cls x < 4) := by
    by_cases q : F.exq x = 2047
    · rw [decide_eq_true q, decide_eq_false (fun k => h.1 k q)]; rfl
    · rw [decide_eq_false q, decide_eq_true (h.2 q)]; rfl
  rw [e]
  generalize F.cls x = k at *
  clear hx h e
  go_enter Tryz.func14, Tryz.ntmps14
  go_wp2_with (go_at_call 40; (with_reducible refine (KL.out).mono ?_); rintro e w1 ⟨rfl, rfl⟩)
  go_ret
  exact ⟨rfl, rfl⟩
theorem IsZero_c (x : Int) (h0 : 0 ≤ x) (h1 : x ≤ 18446744073709551615) (w : World) : Calls Tryz.prog 24 #[.int .u64 x] w fun e w' => e = .returned (.bool (F.cls x == 1)) ∧ w = w' := by
  go_enter Tryz.func24, Tryz.ntmps24
  go_wp2_with (first | (go_at_call 40; (with_reducible refine (FloatR.ClassOf_c x h0 h1 _).mono ?_); rintro e w' ⟨rfl, rfl⟩))
  go_ret
  exact ⟨rfl, rfl⟩
end GC
end Go.Proofs.YtelblhgagpkjmaaGreatDoor
