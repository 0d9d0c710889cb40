/-
  Numbers over a power of two, with digits in new memory.
-/
import Derived.Test.YtelblhgagpkjmaaDoorQ8
namespace Go.Proofs.YtelblhgagpkjmaaDoor
set_option linter.unusedVariables false
set_option linter.unusedSimpArgs false
open Go.RowKit
set_option linter.unusedVariables false
set_option linter.unusedSimpArgs false
namespace ZC
open Z
/-- the same slice, maybe shorter -/
def RetN (w : World) (A : Option Addr) (n c : Nat) (z : Int) (e : Ending) (w' : World) : Prop := ∃ b m, e = .returned (.agg #[.bool b, .slice A m c]) ∧ m ≤ n ∧ ZL w' b A m c z ∧ Below w.heap.size w w'
theorem ZNeg_f (b : Bool) (A : Option Addr) (n c : Nat) (a : Int) (w : World) (ha : ZL w b A n c a) (bA : a.natAbs < big 1000000) :
    Calls Tryd.prog 45 #[.agg #[.bool b, .slice A n c]] w (RetN w A n c (-a)) := by
  have lL := ha.len bA
  have ha' := (ha.alloc (.cells #[.bool b, .slice A n c] 30)).alloc (.cells #[.bool false, .slice none 0 0] 30)
  obtain ⟨hb, L, hn, hs, dL, nL, vL⟩ := ha'
  have tr := trim_c (!b) A n c L _ hs dL (by omega)
  rw [show sg (!b) (val L) = -a by rw [vL, hb]; by_cases h : a < 0 <;> simp [sg, h] <;> omega] at tr
  have TR := Lib.hid tr
  clear hs dL nL lL bA hn vL tr hb ha
  go_enter Tryd.func45, Tryd.ntmps45
  go_wp2_with (first | (go_at_call 66; (with_reducible refine (TR.out).mono ?_); rintro e w1 ⟨b1, n1, rfl, hm1, hv1, hb1⟩ ; obtain ⟨hc1, hf1⟩ := bcell hb1 ; have hz1 := hb1.size))
  have bw : Below w.heap.size w w1 := (((Below.refl _ _).alloc (Nat.le_refl _) _).alloc (by simp) _).trans (hb1.mono (by simp; omega))
  have c0 : w1.cell? ⟨w.heap.size + 1, 0, none⟩ = some (.bool false) := by rw [hb1.cell (by simp)]; simp [go_sem]
  have c1' : w1.cell? ⟨w.heap.size + 1, 1, none⟩ = some (.slice none 0 0) := by rw [hb1.cell (by simp)]; simp [go_sem]
  exact bodyPost_ret (v := .agg #[.bool b1, .slice A n1 c]) (by simp [results, Tryd.results45, go_sem, c0, c1']) rfl
    ⟨_, _, rfl, hm1, (hv1.setCell c0 (fun z h => by cases h) _).setCell (p := ⟨w.heap.size + 1, 1, none⟩) (u := .slice none 0 0) (by rw [World.cell?_setCell_other _ _ _ _ (by simp)]; exact c1') (fun z h => by cases h) _, (bw.setCell (by simp) _).setCell (by simp) _⟩
end ZC
namespace VC
open Z (Nz Tz cmpv big)
open ZC DC RC QC
def RetVF (w : World) (z t : Int) (e : Ending) (w' : World) : Prop := ∃ b A n c, e = .returned (.agg #[.bool b, .slice A n c, .int .i64 t]) ∧ ZL w' b A n c z ∧ Fr w.heap.size A n ∧ Below w.heap.size w w'
def RetQF (w : World) (B : Nat) (z t : Int) (e : Ending) (w' : World) : Prop := ∃ b A n c, e = .returned (.agg #[.bool b, .slice A n c, .int .i64 t]) ∧ ZL w' b A n c z ∧ Fr B A n ∧ Below w.heap.size w w'
def RetSF (M T : Nat) (w : World) (s : Int) (e : Ending) (w' : World) : Prop := ∃ b A n c t z, e = .returned (.agg #[.bool b, .slice A n c, .int .i64 t]) ∧ ZL w' b A n c z ∧ z.natAbs < 2 ^ M ∧ 0 ≤ t ∧ t ≤ T ∧ sc z (-t) = s ∧ Fr w.heap.size A n ∧ Below w.heap.size w w'
set_option maxRecDepth 100000 in
theorem QMake_upf (va : Value) (a : Int) (k : Nat) (w : World) (ha : ZV w va a) (bA : a.natAbs < big 1000000) (hk : k ≤ 100000) : Calls Tryd.prog 39 #[va, .int .i64 k] w (RetVF w (a * 2 ^ k) 0) := by
  obtain ⟨b, A, n, c, rfl, hv⟩ := ha
  have N := new2 w 30 32 #[.bool b, .slice A n c] #[.bool false, .slice none 0 0, .int .i64 0] 0
  obtain ⟨N1, N2, NS, D0⟩ := N
  rw [World.drewN_zero] at N1 N2 NS D0
  obtain ⟨W0, hW0⟩ : ∃ W0, (w.alloc (.cells #[.bool b, .slice A n c] 30)).alloc (.cells #[.bool false, .slice none 0 0, .int .i64 0] 32) = W0 := ⟨_, rfl⟩
  rw [hW0] at N1 N2 NS D0
  have KC : Hid (∀ W, Below W0.heap.size W0 W → W.cell? ⟨w.heap.size, 0, none⟩ = some (.bool b) ∧ W.cell? ⟨w.heap.size, 1, none⟩ = some (.slice A n c)) := fun W h => ⟨(N1.below h N1.lt).at_ 0 rfl, (N1.below h N1.lt).at_ 1 rfl⟩
  have KR : Hid (∀ W, Below W0.heap.size W0 W → Blk W (w.heap.size + 1) 32 #[.bool false, .slice none 0 0, .int .i64 0]) := fun W h => N2.below h N2.lt
  have VA : Hid (∀ W, Below W0.heap.size W0 W → ZV W (.agg #[.bool b, .slice A n c]) a) := fun W h => (((hv.below D0).below h)).v
  have PW : Hid (∀ W : World, Calls Tryd.prog 64 #[.int .i64 k] W (RetZ W (2 ^ k))) := fun W => by
    have := ZPow_c k (k : Int) W (by omega) (by simp) (by omega)
    simpa using this
  have MU : Hid (∀ (W : World) (u v : Value), ZV W u a → ZV W v (2 ^ k) → Calls Tryd.prog 44 #[u, v] W (RetZ W (a * 2 ^ k))) := fun W u v h1 h2 => ZMul_c u v _ _ W h1 h2 bA (pow2_big k (by omega))
  have HS : Hid (W0.heap.size = w.heap.size + 2) := NS
  have HW0 := Lib.hid hW0
  have D0 := Lib.hid D0
  generalize a * 2 ^ k = r at *
  generalize (2 : Int) ^ k = pk at *
  have hk0 : (0 : Int) ≤ k := by omega
  obtain ⟨K, hK⟩ : ∃ K : Int, (k : Int) = K := ⟨_, rfl⟩
  rw [hK] at PW hk0 ⊢
  clear N1 N2 NS hv bA hk hK hW0
  go_enter Tryd.func39, Tryd.ntmps39
  go_upto_region 2 with fail
  rw [HW0.out]
  have D : Below W0.heap.size W0 W0.drew := (Below.refl _ _).drew
  (refine wp_region_L (S := fun w' => w'.cell? ⟨w.heap.size, 0, none⟩ = some (.bool b) ∧ w'.cell? ⟨w.heap.size, 1, none⟩ = some (.slice A n c)) (nl := 1000000) (by kernel_rfl) ?_ (fun hHeld => ?_); focus (exact KC.out _ D))
  (refine wpAnyL_take (i := 0) (oi := _) (v := ?_) rfl (by kernel_rfl) (by kernel_rfl) (by kernel_rfl) (fun _ _ _ h => h) (Or.inl ⟨by first | rfl | kernel_rfl, ?hy1⟩) (by assumption) ?rs1; (case hy1 => (intro w hSw; (try dsimp only at hSw); go_simp; first | done | with_reducible rfl)); case' rs1 => (simp only [List.getElem_toArray, List.getElem_cons_zero, List.getElem_cons_succ, Act.put, List.setIfInBounds_toArray, List.set_cons_zero, List.set_cons_succ])); (refine wpAnyL_take (i := 1) (oi := _) (v := ?_) rfl (by kernel_rfl) (by kernel_rfl) (by kernel_rfl) (fun _ _ _ h => h) (Or.inl ⟨by first | rfl | kernel_rfl, ?hy2⟩) (by assumption) ?rs2; (case hy2 => (intro w hSw; (try dsimp only at hSw); go_simp; first | done | with_reducible rfl)); case' rs2 => (simp only [List.getElem_toArray, List.getElem_cons_zero, List.getElem_cons_succ, Act.put, List.setIfInBounds_toArray, List.set_cons_zero, List.set_cons_succ])); skip
  (refine wpAnyL_one (i := 2) (o := _) (by kernel_rfl) rfl (fun K hK => ?_); clear hHeld; simp only [List.getElem_toArray, List.getElem_cons_zero, List.getElem_cons_succ]; go_simp; (go_at_call 64; (with_reducible refine (PW.out _).mono ?_); rintro e w1 ⟨_, rfl, ⟨b1, A1, n1, c1, rfl, hp⟩, hb⟩; have D := D.trans (hb.mono D.size)); refine hK.out _ _ ?_ (fun hHeld => ?_); focus (intro _; exact KC.out _ D)); have hHeld := hHeld (by decide); clear hK K; (try simp only [Act.put, List.setIfInBounds_toArray, List.set_cons_zero, List.set_cons_succ])
  (refine wpAnyL_one (i := 3) (o := _) (by kernel_rfl) rfl (fun K hK => ?_); clear hHeld; simp only [List.getElem_toArray, List.getElem_cons_zero, List.getElem_cons_succ]; go_simp; (go_at_call 44; (with_reducible refine (MU.out _ _ _ (VA.out _ D) hp.v).mono ?_); rintro e w2 ⟨_, rfl, ⟨b2, A2, n2, c2, rfl, hr⟩, hb2⟩; have D1 := D.size; have D := D.trans (hb2.mono D.size)); refine hK.out _ _ ?_ (fun hHeld => ?_); focus (intro _; exact KC.out _ D)); have hHeld := hHeld (by decide); clear hK K; (try simp only [Act.put, List.setIfInBounds_toArray, List.set_cons_zero, List.set_cons_succ])
  (refine wpAnyL_take (i := 4) (oi := _) (v := ?_) rfl (by kernel_rfl) (by kernel_rfl) (by kernel_rfl) (fun _ _ _ h => h) (Or.inl ⟨by first | rfl | kernel_rfl, ?hy3⟩) (by assumption) ?rs3; (case hy3 => (intro w hSw; (try dsimp only at hSw); go_simp; first | done | with_reducible rfl)); case' rs3 => (simp only [List.getElem_toArray, List.getElem_cons_zero, List.getElem_cons_succ, Act.put, List.setIfInBounds_toArray, List.set_cons_zero, List.set_cons_succ])); skip
  have R := KR.out _ D
  have F9 := Lib.hid (hr.fr.mono (show w.heap.size ≤ _ by have := HS.out; omega))
  have of := off_new hr.fr (g := w.heap.size + 1) (by have := HS.out; omega)
  have f0 := R.frozen 0; have f1 := R.frozen 1; have f2 := R.frozen 2; have t0 := R.at_ 0 rfl; have t1 := R.at_ 1 rfl; have t2 := R.at_ 2 rfl
  have X := Lib.hid (set3 hr.zl of (.bool b2) (.slice A2 n2 c2) (.int .i64 0))
  have hS := KC.out _ D
  have D := Lib.hid D
  (refine wpAnyL_one (i := 5) (o := _) (by kernel_rfl) rfl (fun K hK => ?_); clear hHeld; simp only [List.getElem_toArray, List.getElem_cons_zero, List.getElem_cons_succ]; go_simp; refine hK.out _ _ ?_ (fun hHeld => ?_); focus (intro _; (obtain ⟨s0, s1⟩ := KC.out _ D.out; refine ⟨?_, ?_⟩ <;> (repeat rw [World.cell?_setCell_other _ _ _ _ (by simp)]) <;> assumption))); have hHeld := hHeld (by decide); clear hK K; (try simp only [Act.put, List.setIfInBounds_toArray, List.set_cons_zero, List.set_cons_succ])
  refine wpAnyL_done (by kernel_rfl) ?_ _
  go_wp2
  exact bodyPost_ret (v := .agg #[.bool b2, .slice A2 n2 c2, .int .i64 0]) (by simp [results, Tryd.results39, go_sem, t0, t1, t2]) rfl
    ⟨_, _, _, _, rfl, X.out, F9.out, below3q (D0.out.trans (D.out.mono D0.out.size)) (by omega) _ _ _⟩
theorem QMake_dnf (b : Bool) (A : Option Addr) (n c : Nat) (a e : Int) (B : Nat) (w : World) (hv : ZL w b A n c a) (h0 : e < 0) (h1 : -100000 ≤ e) (hf : Fr B A n) : Calls Tryd.prog 39 #[.agg #[.bool b, .slice A n c], .int .i64 e] w (RetQF w B a (-e)) := by
  have i1 : IntKind.i64.wrap (-e) = -e := IntWalk.i64_in _ (by omega)
  have h2 : ¬ 0 ≤ e := by omega
  have X := (hv.alloc (.cells #[.bool b, .slice A n c] 30)).alloc (.cells #[.bool b, .slice A n c, .int .i64 (-e)] 32)
  have D : Below w.heap.size w ((w.alloc (.cells #[.bool b, .slice A n c] 30)).alloc (.cells #[.bool b, .slice A n c, .int .i64 (-e)] 32)) := ((Below.refl _ _).alloc (Nat.le_refl _) _).alloc (by simp) _
  have X := Lib.hid X
  clear hv h0 h1
  go_enter Tryd.func39, Tryd.ntmps39
  go_wp2
  exact bodyPost_ret (v := .agg #[.bool b, .slice A n c, .int .i64 (-e)]) (by simp [results, Tryd.results39, go_sem]) rfl ⟨_, _, _, _, rfl, X.out, hf, D⟩
theorem QMake_f (b : Bool) (A : Option Addr) (n c : Nat) (a e : Int) (B : Nat) (w : World) (hv : ZL w b A n c a) (bA : a.natAbs < big 1000000) (h1 : -100000 ≤ e) (h2 : e ≤ 100000) (hf : Fr B A n) (hB : B ≤ w.heap.size) : Calls Tryd.prog 39 #[.agg #[.bool b, .slice A n c], .int .i64 e] w (RetQF w B (mkz a e) (mkt e)) := by
  unfold mkz mkt
  by_cases h0 : 0 ≤ e
  · rw [if_pos h0, if_pos h0]
    obtain ⟨k, rfl⟩ := Int.eq_ofNat_of_zero_le h0
    refine (QMake_upf _ a k w hv.v bA (by omega)).mono ?_
    rintro en w' ⟨b9, A9, n9, c9, rfl, hr, hf9, hb9⟩
    exact ⟨b9, A9, n9, c9, rfl, hr, hf9.mono hB, hb9⟩
  · rw [if_neg h0, if_neg h0]
    exact QMake_dnf b A n c a e B w hv (by omega) h1 hf
set_option maxRecDepth 100000 in
theorem QVal_f (x : Int) (w : World) (h0 : 0 ≤ x) (h1 : x ≤ 18446744073709551615) : Calls Tryd.prog 13 #[.int .u64 x] w (RetVF w (mkz (sgm (F.sgn x) (mant x)) (F.ulp x)) (mkt (F.ulp x))) := by
  have FI : Hid (∀ W, Calls Tryd.prog 43 #[.int .u64 x] W fun e w' => e = .returned (.tuple #[.bool (F.sgn x), .int .i64 (F.exq x), .int .i64 (F.fra x)]) ∧ W = w') := fun W => FloatR.Fields_c x h0 h1 W
  have hb := F.exq_bd x
  have hf := F.fra_bd x
  have mb : 0 ≤ mant x ∧ mant x < 9007199254740992 := by unfold mant; split <;> omega
  have N1 : Hid (∀ W, Calls Tryd.prog 40 #[.int .i64 (mant x / 1000000000)] W (RetZ W (mant x / 1000000000))) := fun W => N_c _ (by omega) (by omega) W
  have N2 : Hid (∀ W, Calls Tryd.prog 40 #[.int .i64 1000000000] W (RetZ W 1000000000)) := fun W => N_c _ (by omega) (by omega) W
  have N3 : Hid (∀ W, Calls Tryd.prog 40 #[.int .i64 (mant x % 1000000000)] W (RetZ W (mant x % 1000000000))) := fun W => N_c _ (by omega) (by omega) W
  have b0 : ∀ y : Int, 0 ≤ y → y < 10000000000000000 → y.natAbs < big 1000000 := fun y h0 h1 => by
    have h2 : (2 : Nat) ^ 60 = 1152921504606846976 := by decide
    exact lt_big (M := 60) (by rw [h2]; omega) (by omega) (by omega)
  have MU : Hid (∀ (W : World) (u v : Value), ZV W u (mant x / 1000000000) → ZV W v 1000000000 → Calls Tryd.prog 44 #[u, v] W (RetZ W (mant x / 1000000000 * 1000000000))) := fun W u v h1 h2 => ZMul_c u v _ _ W h1 h2 (b0 (mant x / 1000000000) (by omega) (by omega)) (b0 1000000000 (by omega) (by omega))
  have AD : Hid (∀ (W : World) (u v : Value), ZV W u (mant x / 1000000000 * 1000000000) → ZV W v (mant x % 1000000000) → Calls Tryd.prog 42 #[u, v] W (RetZ W (mant x))) := fun W u v h1 h2 => by
    have := ZAdd_c u v _ _ W h1 h2 (b0 (mant x / 1000000000 * 1000000000) (by omega) (by omega)) (b0 (mant x % 1000000000) (by omega) (by omega))
    rwa [show mant x / 1000000000 * 1000000000 + mant x % 1000000000 = mant x by omega] at this
  have NG : Hid (∀ (W : World) (b : Bool) (A : Option Addr) (n c : Nat), ZL W b A n c (mant x) → Calls Tryd.prog 45 #[.agg #[.bool b, .slice A n c]] W (RetN W A n c (-(mant x)))) := fun W b A n c h1 => ZNeg_f b A n c _ W h1 (b0 (mant x) (by omega) (by omega))
  have ub : -1074 ≤ F.ulp x ∧ F.ulp x ≤ 972 := by unfold F.ulp; split <;> omega
  have MK : Hid (∀ (W : World) (b : Bool) (A : Option Addr) (n c : Nat), ZL W b A n c (sgm (F.sgn x) (mant x)) → Fr w.heap.size A n → w.heap.size ≤ W.heap.size → Calls Tryd.prog 39 #[.agg #[.bool b, .slice A n c], .int .i64 (F.ulp x)] W (RetQF W w.heap.size (mkz (sgm (F.sgn x) (mant x)) (F.ulp x)) (mkt (F.ulp x)))) := fun W b A n c hu hf hB => by
    refine QMake_f b A n c _ (F.ulp x) w.heap.size W hu ?_ (by omega) (by omega) hf hB
    unfold sgm
    cases F.sgn x
    · simp; exact b0 (mant x) (by omega) (by omega)
    · simp; exact b0 (mant x) (by omega) (by omega)
  have EU : Hid (max (F.exq x) 1 - 1075 = F.ulp x) := by unfold Hid F.ulp; split <;> omega
  have EM : Hid ((0 < F.exq x ∧ F.fra x + 4503599627370496 = mant x) ∨ (¬ 0 < F.exq x ∧ F.fra x = mant x)) := by
    by_cases h : 0 < F.exq x
    · left; unfold mant; rw [if_pos h]; exact ⟨h, rfl⟩
    · right; unfold mant; rw [if_neg h]; exact ⟨h, rfl⟩
  have i1 : IntKind.i64.wrap (F.fra x + 4503599627370496) = F.fra x + 4503599627370496 := IntWalk.i64_in _ (by omega)
  have i2 : IntKind.i64.wrap (F.ulp x) = F.ulp x := IntWalk.i64_in _ (by omega)
  generalize mkz (sgm (F.sgn x) (mant x)) (F.ulp x) = r at *
  generalize mkt (F.ulp x) = T at *
  generalize mant x = m at *
  generalize F.ulp x = U at *
  generalize F.sgn x = sg at *
  generalize F.exq x = ex at *
  generalize F.fra x = fr at *
  obtain ⟨N1', N2', NS, D0⟩ : Blk (w.alloc (.cells #[.bool false, .slice none 0 0, .int .i64 0] 32)) w.heap.size 32 #[.bool false, .slice none 0 0, .int .i64 0] ∧ True ∧ (w.alloc (.cells #[.bool false, .slice none 0 0, .int .i64 0] 32)).heap.size = w.heap.size + 1 ∧ Below w.heap.size w (w.alloc (.cells #[.bool false, .slice none 0 0, .int .i64 0] 32)) := ⟨Blk.new _ _ _, trivial, by simp, (Below.refl _ _).alloc (Nat.le_refl _) _⟩
  obtain ⟨W0, hW0⟩ : ∃ W0, w.alloc (.cells #[.bool false, .slice none 0 0, .int .i64 0] 32) = W0 := ⟨_, rfl⟩
  rw [hW0] at N1' NS D0
  have KB : Hid (∀ W, Below W0.heap.size W0 W → Blk W w.heap.size 32 #[.bool false, .slice none 0 0, .int .i64 0]) := fun W hW => N1'.below hW N1'.lt
  have HW0 := Lib.hid hW0
  have D0 := Lib.hid D0
  obtain ⟨mb0, mb1⟩ := mb
  clear N1' N2' NS hW0 hb hf b0 ub h0 h1
  rcases EM.out with ⟨k1, k2⟩ | ⟨k1, k2⟩
  · have i1 := i1.trans k2
    have K2 := Lib.hid k2
    clear k2 EM
    cases sg
    · simp only [sgm, Bool.false_eq_true, if_false] at MK
      go_enter Tryd.func13, Tryd.ntmps13
      go_wp2_with (first
        | (go_at_call 43; rw [HW0.out]; (with_reducible refine (FI.out _).mono ?_); rintro e w1 ⟨rfl, rfl⟩; have D := Lib.hid (Below.refl W0.heap.size W0))
        | (go_at_call 40; (try simp only [K2.out]); (with_reducible refine (N1.out _).mono ?_); rintro e w2 ⟨_, rfl, ⟨b2, A2, n2, c2, rfl, hz2⟩, hb⟩; have hz2 := hz2.zl; have D := Lib.hid (D.out.trans (hb.mono D.out.size)); clear hb)
        | (go_at_call 40; (with_reducible refine (N2.out _).mono ?_); rintro e w3 ⟨_, rfl, ⟨b3, A3, n3, c3, rfl, hz3⟩, hb⟩; have hz2 := hz2.below hb; have hz3 := hz3.zl; have D := Lib.hid (D.out.trans (hb.mono D.out.size)); clear hb)
        | (go_at_call 44; (with_reducible refine (MU.out _ _ _ hz2.v hz3.v).mono ?_); rintro e w4 ⟨_, rfl, ⟨b4, A4, n4, c4, rfl, hz4⟩, hb⟩; have hz4 := hz4.zl; have D := Lib.hid (D.out.trans (hb.mono D.out.size)); clear hb)
        | (go_at_call 40; (try simp only [K2.out]); (with_reducible refine (N3.out _).mono ?_); rintro e w5 ⟨_, rfl, ⟨b5, A5, n5, c5, rfl, hz5⟩, hb⟩; have hz4 := hz4.below hb; have hz5 := hz5.zl; have D := Lib.hid (D.out.trans (hb.mono D.out.size)); clear hb)
        | (go_at_call 42; (with_reducible refine (AD.out _ _ _ hz4.v hz5.v).mono ?_); rintro e w6 ⟨_, rfl, ⟨b6, A6, n6, c6, rfl, hz6⟩, hb⟩; have F6 := Lib.hid (hz6.fr.mono (Nat.le_trans D0.out.size D.out.size)); have s := hb.alloc hb.size (.cells #[.bool b6, .slice A6 n6 c6] 30); have hz := hz6.zl.alloc (.cells #[.bool b6, .slice A6 n6 c6] 30); have BZ := Blk.new w6 30 #[.bool b6, .slice A6 n6 c6]; have Z2 := (D.out.trans (hb.mono D.out.size)).size; have D := Lib.hid (D.out.trans (s.mono D.out.size)); clear hb s hz6; have eu := EU.out)
        | (go_at_call 39; (with_reducible refine (MK.out _ _ _ _ _ hz F6.out (Nat.le_trans D0.out.size D.out.size)).mono ?_); rintro e w9 ⟨b9, A9, n9, c9, rfl, hr, F9, hb4⟩; have D := Lib.hid (D.out.trans (hb4.mono D.out.size)); have R := (KB.out _ D.out); have X := Lib.hid (set3 hr (off_q hr R) (.bool b9) (.slice A9 n9 c9) (.int .i64 T)); have f0 := R.frozen 0; have f1 := R.frozen 1; have f2 := R.frozen 2; have t0 := R.at_ 0 rfl; have t1 := R.at_ 1 rfl; have t2 := R.at_ 2 rfl))
      exact bodyPost_ret (v := .agg #[.bool b9, .slice A9 n9 c9, .int .i64 T]) (by simp [results, Tryd.results13, go_sem, t0, t1, t2]) rfl
        ⟨_, _, _, _, rfl, X.out, F9, below3q (D0.out.trans (D.out.mono D0.out.size)) (by omega) _ _ _⟩
    · simp only [sgm, if_true] at MK
      go_enter Tryd.func13, Tryd.ntmps13
      go_wp2_with (first
        | (go_at_call 43; rw [HW0.out]; (with_reducible refine (FI.out _).mono ?_); rintro e w1 ⟨rfl, rfl⟩; have D := Lib.hid (Below.refl W0.heap.size W0))
        | (go_at_call 40; (try simp only [K2.out]); (with_reducible refine (N1.out _).mono ?_); rintro e w2 ⟨_, rfl, ⟨b2, A2, n2, c2, rfl, hz2⟩, hb⟩; have hz2 := hz2.zl; have D := Lib.hid (D.out.trans (hb.mono D.out.size)); clear hb)
        | (go_at_call 40; (with_reducible refine (N2.out _).mono ?_); rintro e w3 ⟨_, rfl, ⟨b3, A3, n3, c3, rfl, hz3⟩, hb⟩; have hz2 := hz2.below hb; have hz3 := hz3.zl; have D := Lib.hid (D.out.trans (hb.mono D.out.size)); clear hb)
        | (go_at_call 44; (with_reducible refine (MU.out _ _ _ hz2.v hz3.v).mono ?_); rintro e w4 ⟨_, rfl, ⟨b4, A4, n4, c4, rfl, hz4⟩, hb⟩; have hz4 := hz4.zl; have D := Lib.hid (D.out.trans (hb.mono D.out.size)); clear hb)
        | (go_at_call 40; (try simp only [K2.out]); (with_reducible refine (N3.out _).mono ?_); rintro e w5 ⟨_, rfl, ⟨b5, A5, n5, c5, rfl, hz5⟩, hb⟩; have hz4 := hz4.below hb; have hz5 := hz5.zl; have D := Lib.hid (D.out.trans (hb.mono D.out.size)); clear hb)
        | (go_at_call 42; (with_reducible refine (AD.out _ _ _ hz4.v hz5.v).mono ?_); rintro e w6 ⟨_, rfl, ⟨b6, A6, n6, c6, rfl, hz6⟩, hb⟩; have F6 := Lib.hid (hz6.fr.mono (Nat.le_trans D0.out.size D.out.size)); have s := hb.alloc hb.size (.cells #[.bool b6, .slice A6 n6 c6] 30); have hz := hz6.zl.alloc (.cells #[.bool b6, .slice A6 n6 c6] 30); have BZ := Blk.new w6 30 #[.bool b6, .slice A6 n6 c6]; have Z2 := (D.out.trans (hb.mono D.out.size)).size; have D := Lib.hid (D.out.trans (s.mono D.out.size)); clear hb s hz6; have eu := EU.out)
        | (go_at_call 45; (with_reducible refine (NG.out _ _ _ _ _ hz).mono ?_); rintro e w7 ⟨b7, n7, rfl, hm7, hz7, hb3⟩; have F6 := Lib.hid (F6.out.shrink hm7); have BZ := BZ.below hb3 BZ.lt; have hz := ZC.ZL.box hz7 (BZ.at_ 0 rfl) (BZ.at_ 1 rfl) (.bool b7) (.slice A6 n7 c6); have D := D.out.trans (hb3.mono D.out.size); have D := Lib.hid (below_set2 D Z2 (.bool b7) (.slice A6 n7 c6)); have c0 := BZ.at_ 0 rfl; have c1 := BZ.at_ 1 rfl; have f0 := BZ.frozen 0; have f1 := BZ.frozen 1; have BS := BZ.set2 (.bool b7) (.slice A6 n7 c6); have d0 := BS.at_ 0 rfl; have d1 := BS.at_ 1 rfl)
        | (go_at_call 39; (with_reducible refine (MK.out _ _ _ _ _ hz F6.out (Nat.le_trans D0.out.size D.out.size)).mono ?_); rintro e w9 ⟨b9, A9, n9, c9, rfl, hr, F9, hb4⟩; have D := Lib.hid (D.out.trans (hb4.mono D.out.size)); have R := (KB.out _ D.out); have X := Lib.hid (set3 hr (off_q hr R) (.bool b9) (.slice A9 n9 c9) (.int .i64 T)); have f0 := R.frozen 0; have f1 := R.frozen 1; have f2 := R.frozen 2; have t0 := R.at_ 0 rfl; have t1 := R.at_ 1 rfl; have t2 := R.at_ 2 rfl))
      exact bodyPost_ret (v := .agg #[.bool b9, .slice A9 n9 c9, .int .i64 T]) (by simp [results, Tryd.results13, go_sem, t0, t1, t2]) rfl
        ⟨_, _, _, _, rfl, X.out, F9, below3q (D0.out.trans (D.out.mono D0.out.size)) (by omega) _ _ _⟩
  · subst k2
    clear EM i1
    cases sg
    · simp only [sgm, Bool.false_eq_true, if_false] at MK
      go_enter Tryd.func13, Tryd.ntmps13
      go_wp2_with (first
        | (go_at_call 43; rw [HW0.out]; (with_reducible refine (FI.out _).mono ?_); rintro e w1 ⟨rfl, rfl⟩; have D := Lib.hid (Below.refl W0.heap.size W0))
        | (go_at_call 40; (try simp only [K2.out]); (with_reducible refine (N1.out _).mono ?_); rintro e w2 ⟨_, rfl, ⟨b2, A2, n2, c2, rfl, hz2⟩, hb⟩; have hz2 := hz2.zl; have D := Lib.hid (D.out.trans (hb.mono D.out.size)); clear hb)
        | (go_at_call 40; (with_reducible refine (N2.out _).mono ?_); rintro e w3 ⟨_, rfl, ⟨b3, A3, n3, c3, rfl, hz3⟩, hb⟩; have hz2 := hz2.below hb; have hz3 := hz3.zl; have D := Lib.hid (D.out.trans (hb.mono D.out.size)); clear hb)
        | (go_at_call 44; (with_reducible refine (MU.out _ _ _ hz2.v hz3.v).mono ?_); rintro e w4 ⟨_, rfl, ⟨b4, A4, n4, c4, rfl, hz4⟩, hb⟩; have hz4 := hz4.zl; have D := Lib.hid (D.out.trans (hb.mono D.out.size)); clear hb)
        | (go_at_call 40; (try simp only [K2.out]); (with_reducible refine (N3.out _).mono ?_); rintro e w5 ⟨_, rfl, ⟨b5, A5, n5, c5, rfl, hz5⟩, hb⟩; have hz4 := hz4.below hb; have hz5 := hz5.zl; have D := Lib.hid (D.out.trans (hb.mono D.out.size)); clear hb)
        | (go_at_call 42; (with_reducible refine (AD.out _ _ _ hz4.v hz5.v).mono ?_); rintro e w6 ⟨_, rfl, ⟨b6, A6, n6, c6, rfl, hz6⟩, hb⟩; have F6 := Lib.hid (hz6.fr.mono (Nat.le_trans D0.out.size D.out.size)); have s := hb.alloc hb.size (.cells #[.bool b6, .slice A6 n6 c6] 30); have hz := hz6.zl.alloc (.cells #[.bool b6, .slice A6 n6 c6] 30); have BZ := Blk.new w6 30 #[.bool b6, .slice A6 n6 c6]; have Z2 := (D.out.trans (hb.mono D.out.size)).size; have D := Lib.hid (D.out.trans (s.mono D.out.size)); clear hb s hz6; have eu := EU.out)
        | (go_at_call 39; (with_reducible refine (MK.out _ _ _ _ _ hz F6.out (Nat.le_trans D0.out.size D.out.size)).mono ?_); rintro e w9 ⟨b9, A9, n9, c9, rfl, hr, F9, hb4⟩; have D := Lib.hid (D.out.trans (hb4.mono D.out.size)); have R := (KB.out _ D.out); have X := Lib.hid (set3 hr (off_q hr R) (.bool b9) (.slice A9 n9 c9) (.int .i64 T)); have f0 := R.frozen 0; have f1 := R.frozen 1; have f2 := R.frozen 2; have t0 := R.at_ 0 rfl; have t1 := R.at_ 1 rfl; have t2 := R.at_ 2 rfl))
      exact bodyPost_ret (v := .agg #[.bool b9, .slice A9 n9 c9, .int .i64 T]) (by simp [results, Tryd.results13, go_sem, t0, t1, t2]) rfl
        ⟨_, _, _, _, rfl, X.out, F9, below3q (D0.out.trans (D.out.mono D0.out.size)) (by omega) _ _ _⟩
    · simp only [sgm, if_true] at MK
      go_enter Tryd.func13, Tryd.ntmps13
      go_wp2_with (first
        | (go_at_call 43; rw [HW0.out]; (with_reducible refine (FI.out _).mono ?_); rintro e w1 ⟨rfl, rfl⟩; have D := Lib.hid (Below.refl W0.heap.size W0))
        | (go_at_call 40; (try simp only [K2.out]); (with_reducible refine (N1.out _).mono ?_); rintro e w2 ⟨_, rfl, ⟨b2, A2, n2, c2, rfl, hz2⟩, hb⟩; have hz2 := hz2.zl; have D := Lib.hid (D.out.trans (hb.mono D.out.size)); clear hb)
        | (go_at_call 40; (with_reducible refine (N2.out _).mono ?_); rintro e w3 ⟨_, rfl, ⟨b3, A3, n3, c3, rfl, hz3⟩, hb⟩; have hz2 := hz2.below hb; have hz3 := hz3.zl; have D := Lib.hid (D.out.trans (hb.mono D.out.size)); clear hb)
        | (go_at_call 44; (with_reducible refine (MU.out _ _ _ hz2.v hz3.v).mono ?_); rintro e w4 ⟨_, rfl, ⟨b4, A4, n4, c4, rfl, hz4⟩, hb⟩; have hz4 := hz4.zl; have D := Lib.hid (D.out.trans (hb.mono D.out.size)); clear hb)
        | (go_at_call 40; (try simp only [K2.out]); (with_reducible refine (N3.out _).mono ?_); rintro e w5 ⟨_, rfl, ⟨b5, A5, n5, c5, rfl, hz5⟩, hb⟩; have hz4 := hz4.below hb; have hz5 := hz5.zl; have D := Lib.hid (D.out.trans (hb.mono D.out.size)); clear hb)
        | (go_at_call 42; (with_reducible refine (AD.out _ _ _ hz4.v hz5.v).mono ?_); rintro e w6 ⟨_, rfl, ⟨b6, A6, n6, c6, rfl, hz6⟩, hb⟩; have F6 := Lib.hid (hz6.fr.mono (Nat.le_trans D0.out.size D.out.size)); have s := hb.alloc hb.size (.cells #[.bool b6, .slice A6 n6 c6] 30); have hz := hz6.zl.alloc (.cells #[.bool b6, .slice A6 n6 c6] 30); have BZ := Blk.new w6 30 #[.bool b6, .slice A6 n6 c6]; have Z2 := (D.out.trans (hb.mono D.out.size)).size; have D := Lib.hid (D.out.trans (s.mono D.out.size)); clear hb s hz6; have eu := EU.out)
        | (go_at_call 45; (with_reducible refine (NG.out _ _ _ _ _ hz).mono ?_); rintro e w7 ⟨b7, n7, rfl, hm7, hz7, hb3⟩; have F6 := Lib.hid (F6.out.shrink hm7); have BZ := BZ.below hb3 BZ.lt; have hz := ZC.ZL.box hz7 (BZ.at_ 0 rfl) (BZ.at_ 1 rfl) (.bool b7) (.slice A6 n7 c6); have D := D.out.trans (hb3.mono D.out.size); have D := Lib.hid (below_set2 D Z2 (.bool b7) (.slice A6 n7 c6)); have c0 := BZ.at_ 0 rfl; have c1 := BZ.at_ 1 rfl; have f0 := BZ.frozen 0; have f1 := BZ.frozen 1; have BS := BZ.set2 (.bool b7) (.slice A6 n7 c6); have d0 := BS.at_ 0 rfl; have d1 := BS.at_ 1 rfl)
        | (go_at_call 39; (with_reducible refine (MK.out _ _ _ _ _ hz F6.out (Nat.le_trans D0.out.size D.out.size)).mono ?_); rintro e w9 ⟨b9, A9, n9, c9, rfl, hr, F9, hb4⟩; have D := Lib.hid (D.out.trans (hb4.mono D.out.size)); have R := (KB.out _ D.out); have X := Lib.hid (set3 hr (off_q hr R) (.bool b9) (.slice A9 n9 c9) (.int .i64 T)); have f0 := R.frozen 0; have f1 := R.frozen 1; have f2 := R.frozen 2; have t0 := R.at_ 0 rfl; have t1 := R.at_ 1 rfl; have t2 := R.at_ 2 rfl))
      exact bodyPost_ret (v := .agg #[.bool b9, .slice A9 n9 c9, .int .i64 T]) (by simp [results, Tryd.results13, go_sem, t0, t1, t2]) rfl
        ⟨_, _, _, _, rfl, X.out, F9, below3q (D0.out.trans (D.out.mono D0.out.size)) (by omega) _ _ _⟩
end VC
end Go.Proofs.YtelblhgagpkjmaaDoor
