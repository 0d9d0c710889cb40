/-
  The document's root, pure, and the search for its rank.
-/
import Derived.Test.YtpmjeipdldnnbaaGreatDoorJ10
import Derived.Test.YtpmjeipdldnnbaaGreatDoorQ15
import Derived.Test.YtpmjeipdldnnbaaGreatDoorP10
import Derived.Test.YtpmjeipdldnnbaaGreatDoorK1
namespace Go.Proofs.YtpmjeipdldnnbaaGreatDoor
set_option linter.unusedVariables false
set_option linter.unusedSimpArgs false
open Go.RowKit
set_option linter.unusedVariables false
set_option linter.unusedSimpArgs false
namespace JC
open Z (Nz Tz cmpv big)
open L ZC DC RC QC SC PC
/-- a rank's value, times itself -/
def W2 (m : Int) : Int := sc (V m * V m) (-2148)
theorem W2_mul (m : Int) : W2 m * 2 ^ KN = U m * U m := by
  have := sc_mul (m := V m) (n := V m) (x := -1074) (y := -1074) (by omega) (by omega) KN_eq
  unfold W2 U
  rw [← this]
  rfl
theorem W2_le {m s : Int} : W2 m ≤ s ↔ U m * U m ≤ s * 2 ^ KN := by
  rw [← W2_mul]
  constructor
  · intro h; exact Int.mul_le_mul_of_nonneg_right h (Int.le_of_lt PK_pos)
  · intro h; exact Int.le_of_mul_le_mul_right h PK_pos
theorem W2_eq {m s : Int} : W2 m = s ↔ U m * U m = s * 2 ^ KN := by
  rw [← W2_mul]
  constructor
  · intro h; rw [h]
  · intro h; exact Int.eq_of_mul_eq_mul_right (Int.ne_of_gt PK_pos) h
def RR (s l : Int) : Prop := 0 ≤ l ∧ l < 9218868437227405312 ∧ W2 l ≤ s ∧ (l + 1 = 9218868437227405312 ∨ s < W2 (l + 1))
theorem sq4 (u : Int) : 2 * u * (2 * u) = 4 * (u * u) := by grind
theorem RR_tog {s l : Int} (hs : 0 < s) (h : RR s l) : ∃ hf m, Tog (rle (s * 2 ^ KN)) (rlt (s * 2 ^ KN)) l hf m := by
  obtain ⟨h0, h1, h2, h3⟩ := h
  have a := W2_le.1 h2
  refine ⟨@decide (rle (s * 2 ^ KN) (U l + U (l + 1))) (Classical.propDecidable _), @decide (rlt (s * 2 ^ KN) (2 * U l) ∧ (rle (s * 2 ^ KN) (U l + U (l + 1)) → rlt (s * 2 ^ KN) (U l + U (l + 1)))) (Classical.propDecidable _), h0, by omega, ?_, ?_, ?_, ?_⟩
  · right; rw [sq4]; omega
  · intro hl k
    rcases h3 with h3 | h3
    · omega
    · have b := mt W2_le.2 (show ¬ W2 (l + 1) ≤ s by omega)
      have up := U_lt h0 (show l < l + 1 by omega)
      have u0 := U_pos h0
      rcases k with k | k
      · omega
      · rw [sq4] at k; omega
  · exact @decide_eq_true_iff _ (Classical.propDecidable _)
  · exact @decide_eq_true_iff _ (Classical.propDecidable _)
set_option maxRecDepth 100000 in
set_option maxHeartbeats 8000000 in
theorem RootRank_s (u : Value) (s : Int) {M T : Nat} (w : World) (h : QS M T w u s) (hM : M ≤ 300000) (hT : T ≤ 10000) (hs : 0 < s) : Calls Tryz.prog 30 #[u] w fun e w' => ∃ l, e = .returned (.int .i64 l) ∧ RR s l ∧ Below w.heap.size w w' := by
  have QS0 := Lib.hid h
  obtain ⟨z, t, ⟨b1, A1, n1, c1, rfl, hz⟩, -⟩ := h
  have N1 := Blk.new w 57 #[.bool b1, .slice A1 n1 c1, .int .i64 t]
  have D0 : Below w.heap.size w (w.alloc (.cells #[.bool b1, .slice A1 n1 c1, .int .i64 t] 57)) := (Below.refl _ _).alloc (Nat.le_refl _) _
  obtain ⟨W0, hW0⟩ : ∃ W0, w.alloc (.cells #[.bool b1, .slice A1 n1 c1, .int .i64 t] 57) = W0 := ⟨_, rfl⟩
  rw [hW0] at N1 D0
  have KB : Hid (∀ W, Below W0.heap.size W0 W → W.cell? ⟨w.heap.size, 0, none⟩ = some (.bool b1) ∧ W.cell? ⟨w.heap.size, 1, none⟩ = some (.slice A1 n1 c1) ∧ W.cell? ⟨w.heap.size, 2, none⟩ = some (.int .i64 t)) := fun W h => ⟨(N1.below h N1.lt).at_ 0 rfl, (N1.below h N1.lt).at_ 1 rfl, (N1.below h N1.lt).at_ 2 rfl⟩
  obtain ⟨M1, hM1⟩ : ∃ M1 : Nat, M1 = 1100 := ⟨_, rfl⟩
  have RV : Hid (∀ (W : World) (n : Int), -9218868437227405312 ≤ n → n ≤ 9218868437227405312 → Calls Tryz.prog 31 #[.int .i64 n] W (RetS M1 M1 W (SV n))) := fun W n h0 h1 => by rw [hM1]; exact rankVal_s n W h0 h1
  have QM : Hid (∀ (W : World) (v : Value) (x : Int), 0 ≤ x → QS M1 M1 W v (SV x) → Calls Tryz.prog 33 #[v, v] W (RetS (M1 + M1) (M1 + M1) W (W2 x))) := fun W v x h0 hv => QMul_s hv hv (by omega) (by omega) (by omega) (by omega) KN_eq (by rw [W2_mul, SV_pos h0])
  have QC : Hid (∀ (W : World) (v : Value) (x : Int), Below W0.heap.size W0 W → QS (M1 + M1) (M1 + M1) W v x → Calls Tryz.prog 32 #[v, .agg #[.bool b1, .slice A1 n1 c1, .int .i64 t]] W fun e w' => e = .returned (.int .i64 (cmpv x s)) ∧ Below W.heap.size W w') := fun W v x hW hv =>
    QCmp_s hv ((QS0.out.below D0).below hW) (by omega) (by omega) (by omega) (by omega)
  have HW0 := Lib.hid hW0
  have D0 := Lib.hid D0
  have z0 : Hid (W2 0 ≤ s) := by
    have : W2 0 = 0 := by unfold W2; rw [V_zero]; exact sc_zero.2 (by decide)
    show W2 0 ≤ s
    omega
  clear hz N1 hW0 hM hT hM1
  go_enter Tryz.func30, Tryz.ntmps30
  go_wp2
  rw [HW0.out]
  go_loopw [3, 4] (fun lv hv wr => ∃ l h : Int, lv = .int .i64 l ∧ hv = .int .i64 h ∧ 0 ≤ l ∧ l < h ∧ h ≤ 9218868437227405312 ∧ Hid (W2 l ≤ s) ∧ Hid (h = 9218868437227405312 ∨ s < W2 h) ∧ Hid (Below W0.heap.size W0 wr)) (fun lv hv _ => (intOf hv - intOf lv).toNat)
  case atStart => exact ⟨_, _, rfl, rfl, by omega, by omega, by omega, z0, .inl rfl, Below.refl _ _⟩
  case round =>
    obtain ⟨l, h, rfl, rfl, k1, k2, k3, hl, hh, hD⟩ := hrel
    clear z0
    have i1 : IntKind.i64.wrap (h - l) = h - l := IntWalk.i64_in _ (by omega)
    by_cases h9 : h - l > 1
    · obtain ⟨ha, hha⟩ : ∃ ha, (h - l).tdiv 2 = ha := ⟨_, rfl⟩
      have q2 := td2 (h - l)
      rw [hha] at q2
      generalize (h - l).tmod 2 = mm at q2
      have j2 : IntKind.i64.wrap ha = ha := IntWalk.i64_in _ (by omega)
      have j3 : IntKind.i64.wrap (l + ha) = l + ha := IntWalk.i64_in _ (by omega)
      have hM : Hid (l < l + ha ∧ l + ha < h) := ⟨by omega, by omega⟩
      clear q2
      go_upto_region 4 with fail
      obtain ⟨m, hm⟩ : ∃ m, l + ha = m := ⟨_, rfl⟩
      rw [hm] at hM ⊢
      clear j2 j3 hha hm i1
      have m0 : 0 ≤ m := by have := hM.out; omega
      have m1 : -9218868437227405312 ≤ m := by omega
      have m2 : m ≤ 9218868437227405312 := by have := hM.out; omega
      go_upto_region 5 with (first
        | (go_at_call 31; (with_reducible refine (RV.out _ _ m1 m2).mono ?_); rintro e w2 ⟨b2, A2, n2, c2, t2, z2, rfl, hz2, y1, y2, y3, y4, hb2⟩; have N2 := Blk.new w2 57 #[.bool b2, .slice A2 n2 c2, .int .i64 t2]; have al := al1 w2 (.cells #[.bool b2, .slice A2 n2 c2, .int .i64 t2] 57); have Q2 := Lib.hid ((RetS.qs hz2 y1 y2 y3 y4).below al); have D := hD.out.trans ((hb2.trans (al.mono hb2.size)).mono hD.out.size); clear hz2 y1 y2 y3 y4 hb2 al))
      obtain ⟨K, hK⟩ : ∃ K, cmpv (W2 m) s = K := ⟨_, rfl⟩
      have HK := Lib.hid hK
      obtain ⟨we, hwe⟩ : ∃ we, we = w2.alloc (.cells #[.bool b2, .slice A2 n2 c2, .int .i64 t2] 57) := ⟨_, rfl⟩
      have KC : Hid (∀ W, Below we.heap.size we W → (W.cell? ⟨w.heap.size, 0, none⟩ = some (.bool b1) ∧ W.cell? ⟨w.heap.size, 1, none⟩ = some (.slice A1 n1 c1) ∧ W.cell? ⟨w.heap.size, 2, none⟩ = some (.int .i64 t)) ∧ (W.cell? ⟨w2.heap.size, 0, none⟩ = some (.bool b2) ∧ W.cell? ⟨w2.heap.size, 1, none⟩ = some (.slice A2 n2 c2) ∧ W.cell? ⟨w2.heap.size, 2, none⟩ = some (.int .i64 t2))) := fun W h => by
        rw [hwe] at h
        have h2 := N2.below h N2.lt
        exact ⟨KB.out W (D.trans (h.mono D.size)), h2.at_ 0 rfl, h2.at_ 1 rfl, h2.at_ 2 rfl⟩
      have KD : Hid (∀ W, Below we.heap.size we W → Below W0.heap.size W0 W) := fun W h => by
        rw [hwe] at h
        exact D.trans (h.mono D.size)
      have VM : Hid (∀ W, Below we.heap.size we W → QS M1 M1 W (.agg #[.bool b2, .slice A2 n2 c2, .int .i64 t2]) (SV m)) := fun W h => by
        rw [hwe] at h
        exact Q2.out.below h
      have D : Below we.heap.size we (w2.alloc (.cells #[.bool b2, .slice A2 n2 c2, .int .i64 t2] 57)).drew := by rw [hwe]; exact (Below.refl _ _).drew
      clear hwe N2 Q2 KB
      (refine wp_region_L (S := fun w' => (w'.cell? ⟨w.heap.size, 0, none⟩ = some (.bool b1) ∧ w'.cell? ⟨w.heap.size, 1, none⟩ = some (.slice A1 n1 c1) ∧ w'.cell? ⟨w.heap.size, 2, none⟩ = some (.int .i64 t)) ∧ (w'.cell? ⟨w2.heap.size, 0, none⟩ = some (.bool b2) ∧ w'.cell? ⟨w2.heap.size, 1, none⟩ = some (.slice A2 n2 c2) ∧ w'.cell? ⟨w2.heap.size, 2, none⟩ = some (.int .i64 t2))) (nl := 1000000) (by kernel_rfl) ?_ (fun hHeld => ?_); focus (exact KC.out _ D))
      (refine wpAnyL_take (i := 0) (oi := _) (v := ?_) rfl (by kernel_rfl) (by kernel_rfl) (by kernel_rfl) (fun _ _ _ h => h) (Or.inl ⟨by first | rfl | kernel_rfl, ?hy1⟩) (by assumption) ?rs1; (case hy1 => (intro w hSw; (try dsimp only at hSw); go_simp; first | done | with_reducible rfl)); case' rs1 => (simp only [List.getElem_toArray, List.getElem_cons_zero, List.getElem_cons_succ, Act.put, List.setIfInBounds_toArray, List.set_cons_zero, List.set_cons_succ])); (refine wpAnyL_take (i := 1) (oi := _) (v := ?_) rfl (by kernel_rfl) (by kernel_rfl) (by kernel_rfl) (fun _ _ _ h => h) (Or.inl ⟨by first | rfl | kernel_rfl, ?hy2⟩) (by assumption) ?rs2; (case hy2 => (intro w hSw; (try dsimp only at hSw); go_simp; first | done | with_reducible rfl)); case' rs2 => (simp only [List.getElem_toArray, List.getElem_cons_zero, List.getElem_cons_succ, Act.put, List.setIfInBounds_toArray, List.set_cons_zero, List.set_cons_succ])); (refine wpAnyL_take (i := 3) (oi := _) (v := ?_) rfl (by kernel_rfl) (by kernel_rfl) (by kernel_rfl) (fun _ _ _ h => h) (Or.inl ⟨by first | rfl | kernel_rfl, ?hy3⟩) (by assumption) ?rs3; (case hy3 => (intro w hSw; (try dsimp only at hSw); go_simp; first | done | with_reducible rfl)); case' rs3 => (simp only [List.getElem_toArray, List.getElem_cons_zero, List.getElem_cons_succ, Act.put, List.setIfInBounds_toArray, List.set_cons_zero, List.set_cons_succ])); skip
      (refine wpAnyL_one (i := 2) (o := _) (by kernel_rfl) rfl (fun K hK => ?_); clear hHeld; simp only [List.getElem_toArray, List.getElem_cons_zero, List.getElem_cons_succ]; go_simp; (go_at_call 33; (with_reducible refine (QM.out _ _ _ m0 (VM.out _ D)).mono ?_); rintro e w3 ⟨b3, A3, n3, c3, t3, z3, rfl, hz3, y1, y2, y3, y4, hb3⟩; have D := D.trans (hb3.mono D.size)); refine hK.out _ _ ?_ (fun hHeld => ?_); focus (intro _; exact KC.out _ D)); have hHeld := hHeld (by decide); clear hK K; (try simp only [Act.put, List.setIfInBounds_toArray, List.set_cons_zero, List.set_cons_succ])
      (refine wpAnyL_one (i := 4) (o := _) (by kernel_rfl) rfl (fun K hK => ?_); clear hHeld; simp only [List.getElem_toArray, List.getElem_cons_zero, List.getElem_cons_succ]; go_simp; (go_at_call 32; (with_reducible refine (QC.out _ _ _ (KD.out _ D) (RetS.qs hz3 y1 y2 y3 y4)).mono ?_); rintro e w4 ⟨rfl, hb4⟩; have D := D.trans (hb4.mono D.size)); refine hK.out _ _ ?_ (fun hHeld => ?_); focus (intro _; exact KC.out _ D)); have hHeld := hHeld (by decide); clear hK K; (try simp only [Act.put, List.setIfInBounds_toArray, List.set_cons_zero, List.set_cons_succ])
      (refine wpAnyL_take (i := 5) (oi := _) (v := ?_) rfl (by kernel_rfl) (by kernel_rfl) (by kernel_rfl) (fun _ _ _ h => h) (Or.inl ⟨by first | rfl | kernel_rfl, ?hy4⟩) (by assumption) ?rs4; (case hy4 => (intro w hSw; (try dsimp only at hSw); go_simp; first | done | with_reducible rfl)); case' rs4 => (simp only [List.getElem_toArray, List.getElem_cons_zero, List.getElem_cons_succ, Act.put, List.setIfInBounds_toArray, List.set_cons_zero, List.set_cons_succ])); skip
      refine wpAnyL_done (by kernel_rfl) ?_ _
      rw [hK]
      have D := Lib.hid (KD.out _ D)
      clear hz3 y1 y2 y3 y4 hb3 hb4 hHeld hK VM KC KD
      by_cases hk : K ≤ 0
      · have HL : Hid (W2 m ≤ s) := by
          have := HK.out
          show W2 m ≤ s
          rcases Int.lt_trichotomy (W2 m) s with h | h | h
          · omega
          · omega
          · rw [Z.cmpv_gt h] at this; omega
        go_wp2
        exact ⟨⟨m, h, rfl, rfl, m0, hM.out.2, k3, HL, hh, D⟩, by have := hM.out; simp only [intOf]; omega⟩
      · have HH : Hid (m = 9218868437227405312 ∨ s < W2 m) := .inr (by
          have := HK.out
          rcases Int.lt_trichotomy (W2 m) s with h | h | h
          · rw [Z.cmpv_lt h] at this; omega
          · rw [Z.cmpv_eq h] at this; omega
          · exact h)
        go_wp2
        exact ⟨⟨l, m, rfl, rfl, k1, hM.out.1, m2, hl, HH, D⟩, by have := hM.out; simp only [intOf]; omega⟩
    · have hh' : h = l + 1 := by omega
      subst hh'
      have HL : Hid (RR s l) := ⟨k1, by omega, hl.out, hh.out⟩
      clear h9
      go_wp2
      go_ret
      exact ⟨l, rfl, HL.out, D0.out.trans (hD.out.mono D0.out.size)⟩
end JC
end Go.Proofs.YtpmjeipdldnnbaaGreatDoor
