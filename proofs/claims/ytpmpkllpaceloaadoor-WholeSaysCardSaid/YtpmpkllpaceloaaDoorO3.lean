/-
  The reference: CutTo.
-/
import Derived.Test.YtpmpkllpaceloaaDoorO1
import Derived.Test.YtpmpkllpaceloaaDoorC9
namespace Go.Proofs.YtpmpkllpaceloaaDoor
set_option linter.unusedVariables false
set_option linter.unusedSimpArgs false
open Go.RowKit
set_option linter.unusedVariables false
set_option linter.unusedSimpArgs false
namespace QC
open Z (Nz Tz cmpv big)
open ZC DC
/-- is it rounded up? -/
def ug (mode : Int) (neg : Bool) (near odd : Int) : Bool :=
  if near = 0 ∧ mode = 4 then !neg else if near = 0 ∧ mode = 0 then decide (0 < odd) else decide (mode = 1) || (decide (mode = 3) && neg) || ((decide (mode = 0) || decide (mode = 4)) && decide (0 < near))
def cutv (z1 P mode : Int) : Int := z1 / P + (if ug mode (decide (z1 < 0)) (cmpv (z1 % P + z1 % P) P) (z1 / P % 2) = true then 1 else 0)
/-- what CutTo tells -/
def RetCu (w : World) (q : Value) (places z1 P mode : Int) (e : Ending) (w' : World) : Prop :=
  (z1 % P = 0 → e = .returned (.tuple #[q, .bool false]) ∧ Below w.heap.size w w') ∧
  (z1 % P ≠ 0 → ∃ b A n c, e = .returned (.tuple #[.agg #[.bool b, .slice A n c, .int .i64 (mkt places)], .bool true]) ∧ ZL w' b A n c (mkz (cutv z1 P mode) places) ∧ Below w.heap.size w w')
theorem big_slt {n m : Nat} (h : n < m) : big n < big m := by unfold big; exact Nat.pow_lt_pow_right (by decide) h
theorem pow_big (k : Nat) {N : Nat} (h : k ≤ N) (hN : N ≠ 0) : ((2 : Int) ^ k).natAbs < big N := pow2_bigN k N h hN
set_option maxRecDepth 100000 in
set_option maxHeartbeats 40000000 in
theorem CutTo_c (b : Bool) (A : Option Addr) (n c : Nat) (z t places mode z1 t1 P : Int) (w : World) (hv : ZL w b A n c z) (hz : z.natAbs < 2 ^ 22800) (ht : 0 ≤ t ∧ t ≤ 10000) (hp : -20000 ≤ places ∧ places ≤ 20000) (hm : 0 ≤ mode ∧ mode ≤ 4)
    (ez : z1 = mkz z (-places - t)) (et : t1 = mkt (-places - t)) (eP : P = 2 ^ t1.toNat) :
    Calls Tryd.prog 50 #[.agg #[.bool b, .slice A n c, .int .i64 t], .int .i64 places, .int .i64 mode] w (RetCu w (.agg #[.bool b, .slice A n c, .int .i64 t]) places z1 P mode) := by
  have ht1 : 0 ≤ t1 ∧ t1 ≤ 30000 := by rw [et]; exact mkt_bd _ 30000 (by omega)
  have hz1 : z1.natAbs < big 900000 := by rw [ez]; exact lt_big (mkz_lt (E := 20000) hz (by omega)) (by decide) (by decide)
  have hP0 : 0 < P := by rw [eP]; exact Int.pow_pos (by decide)
  have hPb : P.natAbs < big 900000 := by rw [eP]; exact pow_big _ (by omega) (by decide)
  have hPb1 : P.natAbs < big 1000000 := by rw [eP]; exact pow_big _ (by omega) (by decide)
  have hPb2 : P.natAbs < big 500000 := by rw [eP]; exact pow_big _ (by omega) (by decide)
  obtain ⟨lw, hlw⟩ : ∃ lw, z1 / P = lw := ⟨_, rfl⟩
  obtain ⟨lf, hlf⟩ : ∃ lf, z1 % P = lf := ⟨_, rfl⟩
  have hlf0 : 0 ≤ lf := by rw [← hlf]; exact Int.emod_nonneg _ (by omega)
  have hlf1 : lf < P := by rw [← hlf]; exact Int.emod_lt_of_pos _ hP0
  have hlwb : lw.natAbs < big 900000 := by
    rw [← hlw]
    refine Nat.lt_of_le_of_lt (Int.natAbs_ediv_le_natAbs z1 P) hz1
  have hb9 : big 900000 ≤ big 1000000 := big_mono (by decide)
  have hb91 : big 900000 + 1 ≤ big 1000000 := by
    have : big 900000 < big 1000000 := big_slt (by decide)
    omega
  obtain ⟨W0, hW0, D0, HS, KB⟩ := qbox1 w b A n c t
  have QSh : Hid (Calls Tryd.prog 45 #[.agg #[.bool b, .slice A n c, .int .i64 t], .int .i64 (-places)] W0 (RetV W0 z1 t1)) := by
    rw [ez, et]
    exact QShift_c _ z t (-places) W0 ⟨b, A, n, c, rfl, hv.below D0⟩ (lt_big hz (by decide) (by decide)) (by omega) (by omega)
  have PW : Hid (∀ W, Calls Tryd.prog 48 #[.int .i64 t1] W (RetZ W P)) := fun W => by
    rw [eP]
    exact ZPow_c t1.toNat t1 W ht1.1 (Nat.le_refl _) (by omega)
  have DZ0 : Hid (∀ W va vb, ZV W va z1 → ZV W vb P → Calls Tryd.prog 52 #[va, vb] W (RetZZ W lw lf)) := fun W va vb h1 h2 => by
    rw [← hlw, ← hlf]
    exact ZDiv_c va vb _ _ W h1 h2 hz1 hPb (by omega)
  have SG : Hid (∀ W va, ZV W va lf → Calls Tryd.prog 83 #[va] W fun e w' => e = .returned (.int .i64 (cmpv lf 0)) ∧ Below W.heap.size W w') := fun W va h => ZSign_c va _ W h (by omega)
  have AD : Hid (∀ W va, ZV W va lf → Calls Tryd.prog 80 #[va, va] W (RetZ W (lf + lf))) := fun W va h => ZAdd_c va va _ _ W h h (by omega) (by omega)
  obtain ⟨nr, hnr⟩ : ∃ nr, cmpv (lf + lf) P = nr := ⟨_, rfl⟩
  have hnr3 : nr = 1 ∨ nr = 0 ∨ nr = -1 := by
    rw [← hnr]
    rcases Int.lt_trichotomy (lf + lf) P with h | h | h
    · exact .inr (.inr (Z.cmpv_lt h))
    · exact .inr (.inl (Z.cmpv_eq h))
    · exact .inl (Z.cmpv_gt h)
  have CM : Hid (∀ W va vb, ZV W va (lf + lf) → ZV W vb P → Calls Tryd.prog 25 #[va, vb] W fun e w' => e = .returned (.int .i64 nr) ∧ Below W.heap.size W w') := fun W va vb h1 h2 => by
    rw [← hnr]
    have hbb : big 500000 + big 500000 ≤ big 1000000 := by
      rw [show (1000000 : Nat) = 500000 + 500000 by decide, big_add]
      have : 2 ≤ big 500000 := Nat.le_trans (show 2 ≤ big 3 by rw [big3]; decide) (big_mono (by decide))
      have := Nat.mul_le_mul_right (big 500000) this
      omega
    exact ZCmp_c va vb _ _ W h1 h2 (by omega) (by omega)
  have N2 : Hid (∀ W, Calls Tryd.prog 26 #[.int .i64 2] W (RetZ W 2)) := fun W => N_c 2 (by decide) (by decide) W
  have N1 : Hid (∀ W, Calls Tryd.prog 26 #[.int .i64 1] W (RetZ W 1)) := fun W => N_c 1 (by decide) (by decide) W
  obtain ⟨od, hod⟩ : ∃ od, lw % 2 = od := ⟨_, rfl⟩
  have hod2 : od = 0 ∨ od = 1 := by omega
  have DZ2 : Hid (∀ W va vb, ZV W va lw → ZV W vb 2 → Calls Tryd.prog 52 #[va, vb] W (RetZZ W (lw / 2) od)) := fun W va vb h1 h2 => by
    rw [← hod]
    exact ZDiv_c va vb _ _ W h1 h2 hlwb (Nat.lt_of_lt_of_le (show (2 : Int).natAbs < big 3 by rw [big3]; decide) (big_mono (by decide))) (by decide)
  have SO : Hid (∀ W va, ZV W va od → Calls Tryd.prog 83 #[va] W fun e w' => e = .returned (.int .i64 od) ∧ Below W.heap.size W w') := fun W va h => by
    have h1 := ZSign_c va _ W h (Nat.lt_of_lt_of_le (show od.natAbs < big 3 by rw [big3]; omega) (big_mono (by decide)))
    have h2 : cmpv od 0 = od := by rcases hod2 with h | h <;> subst h <;> decide
    rwa [h2] at h1
  have AD1 : Hid (∀ W va vb, ZV W va lw → ZV W vb 1 → Calls Tryd.prog 80 #[va, vb] W (RetZ W (lw + 1))) := fun W va vb h1 h2 => ZAdd_c va vb _ _ W h1 h2 (by omega) (Nat.lt_of_lt_of_le (show (1 : Int).natAbs < big 3 by rw [big3]; decide) (big_mono (by decide)))
  have QM0 : Hid (∀ W va, ZV W va lw → Calls Tryd.prog 13 #[va, .int .i64 places] W (RetV W (mkz lw places) (mkt places))) := fun W va h => QMake_c va _ places W h (by omega) (by omega) (by omega)
  have QM1 : Hid (∀ W va, ZV W va (lw + 1) → Calls Tryd.prog 13 #[va, .int .i64 places] W (RetV W (mkz (lw + 1) places) (mkt places))) := fun W va h => QMake_c va _ places W h (by omega) (by omega) (by omega)
  have hU : Hid (cutv z1 P mode = lw + (if ug mode (decide (z1 < 0)) nr od = true then 1 else 0)) := by
    show cutv z1 P mode = _
    unfold cutv
    rw [hlw, hlf, hnr, hod]
  have i5 : IntKind.i64.wrap (-places) = -places := IntWalk.i64_in _ (by omega)
  have hsg : lf = 0 ∧ cmpv lf 0 = 0 ∨ lf ≠ 0 ∧ cmpv lf 0 = 1 := by
    rcases Int.lt_or_le 0 lf with h | h
    · exact .inr ⟨by omega, Z.cmpv_gt h⟩
    · exact .inl ⟨by omega, Z.cmpv_eq (by omega)⟩
  have HW0 := Lib.hid hW0
  have D0 := Lib.hid D0
  have HS := Lib.hid HS
  have KB0 := KB _ (Below.refl _ _)
  have KB := Lib.hid KB
  have HLF := Lib.hid hlf
  rw [← hW0] at KB0
  obtain ⟨⟨p0, p1, p2⟩, -⟩ := KB0
  clear hv hz ez et eP ht1 hz1 hP0 hPb hPb1 hPb2 hlw hlf hlf0 hlf1 hlwb hb9 hb91 hW0 hnr hod
  unfold RetCu
  rw [HLF.out]
  go_enter Tryd.func50, Tryd.ntmps50
  go_upto_region 2 with (first
    | (go_at_call 45; rw [HW0.out]; (with_reducible refine (QSh.out).mono ?_); rintro e w1 ⟨b1, A1, n1, c1, rfl, hr1, hb1⟩; have D1 := Lib.hid hb1; have hr1 := Lib.hid hr1; clear hb1))
  have X1 := Blk.new w1 36 #[.bool b1, .slice A1 n1 c1, .int .i64 t1]
  have V1 := hr1.out.alloc (.cells #[.bool b1, .slice A1 n1 c1, .int .i64 t1] 36)
  have D2 : Below W0.heap.size W0 (w1.alloc (.cells #[.bool b1, .slice A1 n1 c1, .int .i64 t1] 36)) := D1.out.alloc D1.out.size _
  obtain ⟨W1, hW1⟩ : ∃ W1, w1.alloc (.cells #[.bool b1, .slice A1 n1 c1, .int .i64 t1] 36) = W1 := ⟨_, rfl⟩
  obtain ⟨g8, hg8⟩ : ∃ g8, w1.heap.size = g8 := ⟨_, rfl⟩
  rw [hW1] at X1 V1 D2 ⊢
  rw [hg8] at X1 ⊢
  clear hW1 hg8 D1 hr1 QSh HW0 p0 p1 p2
  obtain ⟨we, hwe⟩ : ∃ we, we = W1 := ⟨_, rfl⟩
  have D : Below we.heap.size we W1 := by rw [hwe]; exact Below.refl _ _
  have KB1 : Hid (∀ W, Below we.heap.size we W → (W.cell? ⟨g8, 0, none⟩ = some (.bool b1) ∧ W.cell? ⟨g8, 1, none⟩ = some (.slice A1 n1 c1) ∧ W.cell? ⟨g8, 2, none⟩ = some (.int .i64 t1)) ∧ (W.cell? ⟨w.heap.size, 0, none⟩ = some (.bool b) ∧ W.cell? ⟨w.heap.size, 1, none⟩ = some (.slice A n c) ∧ W.cell? ⟨w.heap.size, 2, none⟩ = some (.int .i64 t)) ∧ Blk W (w.heap.size + 1) 36 #[.bool false, .slice none 0 0, .int .i64 0] ∧ Below w.heap.size w W) := fun W h => by
    rw [hwe] at h
    have h2 := KB.out W (D2.trans (h.mono D2.size))
    have h3 := X1.below h X1.lt
    exact ⟨⟨h3.at_ 0 rfl, h3.at_ 1 rfl, h3.at_ 2 rfl⟩, h2.1, h2.2, D0.out.trans ((D2.trans (h.mono D2.size)).mono D0.out.size)⟩
  have VQ1 : Hid (∀ W, Below we.heap.size we W → ZV W (.agg #[.bool b1, .slice A1 n1 c1]) z1) := fun W h => by
    rw [hwe] at h
    exact (V1.below h).v
  have HB1 : Hid (b1 = decide (z1 < 0)) := V1.1
  have HG8 : Hid (g8 < we.heap.size) := by rw [hwe]; exact X1.lt
  clear hwe X1 V1 D2 D0 HS KB
  go_cut [9, 10] (fun s9 s10 wx => QD we wx s9 s10 lw lf)
  case first =>
    have KQ : Hid (∀ W, Below we.heap.size we W → W.cell? ⟨g8, 0, none⟩ = some (.bool b1) ∧ W.cell? ⟨g8, 1, none⟩ = some (.slice A1 n1 c1) ∧ W.cell? ⟨g8, 2, none⟩ = some (.int .i64 t1)) := fun W h => (KB1.out W h).1
    have HP := PW
    have DZ := DZ0
    have VQ := VQ1
    clear KB1 VQ1 PW DZ0 SG AD CM N2 N1 DZ2 SO AD1 QM0 QM1 hU hsg hnr3 hod2
    have D := D.drew
    (refine wp_region_L (S := fun w' => w'.cell? ⟨g8, 0, none⟩ = some (.bool b1) ∧ w'.cell? ⟨g8, 1, none⟩ = some (.slice A1 n1 c1) ∧ w'.cell? ⟨g8, 2, none⟩ = some (.int .i64 t1)) (nl := 1000000) (by kernel_rfl) ?_ (fun hHeld => ?_); focus (exact KQ.out _ D))
    (refine wpAnyL_take (i := 0) (oi := _) (v := ?_) rfl (by kernel_rfl) (by kernel_rfl) (by kernel_rfl) (fun _ _ _ h => h) (Or.inl ⟨by first | rfl | kernel_rfl, ?hy1⟩) (by assumption) ?rs1; (case hy1 => (intro w hSw; (try dsimp only at hSw); go_simp; first | done | with_reducible rfl)); case' rs1 => (simp only [List.getElem_toArray, List.getElem_cons_zero, List.getElem_cons_succ, Act.put, List.setIfInBounds_toArray, List.set_cons_zero, List.set_cons_succ])); (refine wpAnyL_take (i := 1) (oi := _) (v := ?_) rfl (by kernel_rfl) (by kernel_rfl) (by kernel_rfl) (fun _ _ _ h => h) (Or.inl ⟨by first | rfl | kernel_rfl, ?hy2⟩) (by assumption) ?rs2; (case hy2 => (intro w hSw; (try dsimp only at hSw); go_simp; first | done | with_reducible rfl)); case' rs2 => (simp only [List.getElem_toArray, List.getElem_cons_zero, List.getElem_cons_succ, Act.put, List.setIfInBounds_toArray, List.set_cons_zero, List.set_cons_succ])); (refine wpAnyL_take (i := 2) (oi := _) (v := ?_) rfl (by kernel_rfl) (by kernel_rfl) (by kernel_rfl) (fun _ _ _ h => h) (Or.inl ⟨by first | rfl | kernel_rfl, ?hy3⟩) (by assumption) ?rs3; (case hy3 => (intro w hSw; (try dsimp only at hSw); go_simp; first | done | with_reducible rfl)); case' rs3 => (simp only [List.getElem_toArray, List.getElem_cons_zero, List.getElem_cons_succ, Act.put, List.setIfInBounds_toArray, List.set_cons_zero, List.set_cons_succ])); (refine wpAnyL_take (i := 3) (oi := _) (v := ?_) rfl (by kernel_rfl) (by kernel_rfl) (by kernel_rfl) (fun _ _ _ h => h) (Or.inl ⟨by first | rfl | kernel_rfl, ?hy4⟩) (by assumption) ?rs4; (case hy4 => (intro w hSw; (try dsimp only at hSw); go_simp; first | done | with_reducible rfl)); case' rs4 => (simp only [List.getElem_toArray, List.getElem_cons_zero, List.getElem_cons_succ, Act.put, List.setIfInBounds_toArray, List.set_cons_zero, List.set_cons_succ])); skip
    refine wpAnyL_three (i := 4) (j := 9) (k := 10) (oi := _) (oj := _) (ok := _) (by kernel_rfl) rfl rfl rfl (fun K hK => ?_) (fun K hK => ?_) (fun K hK => ?_)
    · as_aux_lemma =>
        (clear hHeld; simp only [List.getElem_toArray, List.getElem_cons_zero, List.getElem_cons_succ]; go_simp; (go_at_call 48; (with_reducible refine (HP.out _).mono ?_); rintro e w3 ⟨_, rfl, ⟨b1, A1, n1, c1, rfl, hp0⟩, hb⟩; have hp := hp0.zl; have D := D.trans (hb.mono D.size)); refine hK.out _ _ ?_ (fun hHeld => ?_); focus (intro _; exact KQ.out _ D)); have hHeld := hHeld (by decide); clear hK K; (try simp only [Act.put, List.setIfInBounds_toArray, List.set_cons_zero, List.set_cons_succ])
        refine wpAnyL_three (i := 5) (j := 9) (k := 10) (oi := _) (oj := _) (ok := _) (by kernel_rfl) rfl rfl rfl (fun K hK => ?_) (fun K hK => ?_) (fun K hK => ?_)
        · as_aux_lemma =>
            (clear hHeld; simp only [List.getElem_toArray, List.getElem_cons_zero, List.getElem_cons_succ]; go_simp; (go_at_call 52; (with_reducible refine (DZ.out _ _ _ (VQ.out _ D) hp.v).mono ?_); rintro e w4 ⟨_, _, rfl, ⟨bq, Aq, nq, cq, rfl, hq⟩, ⟨br', Ar, nr, cr, rfl, hr⟩, hb⟩; have D := D.trans (hb.mono D.size)); refine hK.out _ _ ?_ (fun hHeld => ?_); focus (intro _; exact KQ.out _ D)); have hHeld := hHeld (by decide); clear hK K; (try simp only [Act.put, List.setIfInBounds_toArray, List.set_cons_zero, List.set_cons_succ])
            (refine wpAnyL_take (i := 6) (oi := _) (v := ?_) rfl (by kernel_rfl) (by kernel_rfl) (by kernel_rfl) (fun _ _ _ h => h) (Or.inl ⟨by first | rfl | kernel_rfl, ?hy5⟩) (by assumption) ?rs5; (case hy5 => (intro w hSw; (try dsimp only at hSw); go_simp; first | done | with_reducible rfl)); case' rs5 => (simp only [List.getElem_toArray, List.getElem_cons_zero, List.getElem_cons_succ, Act.put, List.setIfInBounds_toArray, List.set_cons_zero, List.set_cons_succ])); (refine wpAnyL_take (i := 7) (oi := _) (v := ?_) rfl (by kernel_rfl) (by kernel_rfl) (by kernel_rfl) (fun _ _ _ h => h) (Or.inl ⟨by first | rfl | kernel_rfl, ?hy6⟩) (by assumption) ?rs6; (case hy6 => (intro w hSw; (try dsimp only at hSw); go_simp; first | done | with_reducible rfl)); case' rs6 => (simp only [List.getElem_toArray, List.getElem_cons_zero, List.getElem_cons_succ, Act.put, List.setIfInBounds_toArray, List.set_cons_zero, List.set_cons_succ])); (refine wpAnyL_take (i := 8) (oi := _) (v := ?_) rfl (by kernel_rfl) (by kernel_rfl) (by kernel_rfl) (fun _ _ _ h => h) (Or.inl ⟨by first | rfl | kernel_rfl, ?hy7⟩) (by assumption) ?rs7; (case hy7 => (intro w hSw; (try dsimp only at hSw); go_simp; first | done | with_reducible rfl)); case' rs7 => (simp only [List.getElem_toArray, List.getElem_cons_zero, List.getElem_cons_succ, Act.put, List.setIfInBounds_toArray, List.set_cons_zero, List.set_cons_succ])); skip
            refine wpAnyL_two (i := 9) (j := 10) (oi := _) (oj := _) (by kernel_rfl) rfl rfl (fun K hK => ?_) (fun K hK => ?_)
            · as_aux_lemma =>
                (clear hHeld; simp only [List.getElem_toArray, List.getElem_cons_zero, List.getElem_cons_succ]; go_simp; refine hK.out _ _ ?_ (fun hHeld => ?_); focus (intro _; exact KQ.out _ (D.alloc D.size _))); have hHeld := hHeld (by decide); clear hK K; (try simp only [Act.put, List.setIfInBounds_toArray, List.set_cons_zero, List.set_cons_succ])
                have G' := Blk.new w4 34 #[.bool false, .slice none 0 0]
                have Gn : we.heap.size ≤ w4.heap.size := D.size
                have hq := (hq.alloc (.cells #[.bool false, .slice none 0 0] 34))
                have hr := (hr.alloc (.cells #[.bool false, .slice none 0 0] 34))
                have D1 : Below we.heap.size we (w4.alloc (.cells #[.bool false, .slice none 0 0] 34)) := D.alloc D.size (.cells #[.bool false, .slice none 0 0] 34)
                clear D
                have D := D1
                clear D1
                obtain ⟨w8, hw8⟩ : ∃ w8, w4.alloc (.cells #[.bool false, .slice none 0 0] 34) = w8 := ⟨_, rfl⟩
                obtain ⟨Gg, hGg⟩ : ∃ Gg, w4.heap.size = Gg := ⟨_, rfl⟩
                rw [hw8] at G' D hq hr hHeld ⊢
                rw [hGg] at G' Gn ⊢
                have G := G'
                clear G' hw8 hGg
                (refine wpAnyL_one (i := 10) (o := _) (by kernel_rfl) rfl (fun K hK => ?_); clear hHeld; simp only [List.getElem_toArray, List.getElem_cons_zero, List.getElem_cons_succ]; go_simp; refine hK.out _ _ ?_ (fun hHeld => ?_); focus (intro _; exact KQ.out _ (D.alloc D.size _))); have hHeld := hHeld (by decide); clear hK K; (try simp only [Act.put, List.setIfInBounds_toArray, List.set_cons_zero, List.set_cons_succ])
                have H' := Blk.new w8 34 #[.bool false, .slice none 0 0]
                have Hn : we.heap.size ≤ w8.heap.size := D.size
                have hne : Gg ≠ w8.heap.size := Nat.ne_of_lt G.lt
                have G := G.alloc (.cells #[.bool false, .slice none 0 0] 34)
                have hq := (hq.alloc (.cells #[.bool false, .slice none 0 0] 34))
                have hr := (hr.alloc (.cells #[.bool false, .slice none 0 0] 34))
                have D1 : Below we.heap.size we (w8.alloc (.cells #[.bool false, .slice none 0 0] 34)) := D.alloc D.size (.cells #[.bool false, .slice none 0 0] 34)
                clear D
                have D := D1
                clear D1
                obtain ⟨w9, hw9⟩ : ∃ w9, w8.alloc (.cells #[.bool false, .slice none 0 0] 34) = w9 := ⟨_, rfl⟩
                obtain ⟨Hg, hHg⟩ : ∃ Hg, w8.heap.size = Hg := ⟨_, rfl⟩
                rw [hw9] at H' D G hq hr hHeld ⊢
                rw [hHg] at H' Hn hne ⊢
                have H := H'
                clear H' hw9 hHg
                have X := Lib.hid (qd_set D Gn Hn hne G H hq hr)
                have D10 := below_set2 D Gn (.bool bq) (.slice Aq nq cq)
                have D11 := below_set2 D10 Hn (.bool br') (.slice Ar nr cr)
                have H1 := H.far2 (hne).symm (.bool bq) (.slice Aq nq cq)
                have g0 := G.at_ 0 rfl; have g1 := G.at_ 1 rfl; have f0 := G.frozen 0; have f1 := G.frozen 1; have h0 := H1.at_ 0 rfl; have h1 := H1.at_ 1 rfl; have f2 := H1.frozen 0; have f3 := H1.frozen 1
                have D10 := Lib.hid D10; have D11 := Lib.hid D11
                clear G H H1 D hq hr hp
                (refine wpAnyL_one (i := 11) (o := _) (by kernel_rfl) rfl (fun K hK => ?_); clear hHeld; simp only [List.getElem_toArray, List.getElem_cons_zero, List.getElem_cons_succ]; go_simp; refine hK.out _ _ ?_ (fun hHeld => ?_); focus (intro _; exact KQ.out _ D10.out)); have hHeld := hHeld (by decide); clear hK K; (try simp only [Act.put, List.setIfInBounds_toArray, List.set_cons_zero, List.set_cons_succ])
                (refine wpAnyL_one (i := 12) (o := _) (by kernel_rfl) rfl (fun K hK => ?_); clear hHeld; simp only [List.getElem_toArray, List.getElem_cons_zero, List.getElem_cons_succ]; go_simp; refine hK.out _ _ ?_ (fun hHeld => ?_); focus (intro _; exact KQ.out _ D11.out)); have hHeld := hHeld (by decide); clear hK K; (try simp only [Act.put, List.setIfInBounds_toArray, List.set_cons_zero, List.set_cons_succ])
                refine wpAnyL_done (by kernel_rfl) ?_ _
                go_wp2
                go_meet
                exact X.out
            · as_aux_lemma =>
                (clear hHeld; simp only [List.getElem_toArray, List.getElem_cons_zero, List.getElem_cons_succ]; go_simp; refine hK.out _ _ ?_ (fun hHeld => ?_); focus (intro _; exact KQ.out _ (D.alloc D.size _))); have hHeld := hHeld (by decide); clear hK K; (try simp only [Act.put, List.setIfInBounds_toArray, List.set_cons_zero, List.set_cons_succ])
                have H' := Blk.new w4 34 #[.bool false, .slice none 0 0]
                have Hn : we.heap.size ≤ w4.heap.size := D.size
                have hq := (hq.alloc (.cells #[.bool false, .slice none 0 0] 34))
                have hr := (hr.alloc (.cells #[.bool false, .slice none 0 0] 34))
                have D1 : Below we.heap.size we (w4.alloc (.cells #[.bool false, .slice none 0 0] 34)) := D.alloc D.size (.cells #[.bool false, .slice none 0 0] 34)
                clear D
                have D := D1
                clear D1
                obtain ⟨w9, hw9⟩ : ∃ w9, w4.alloc (.cells #[.bool false, .slice none 0 0] 34) = w9 := ⟨_, rfl⟩
                obtain ⟨Hg, hHg⟩ : ∃ Hg, w4.heap.size = Hg := ⟨_, rfl⟩
                rw [hw9] at H' D hq hr hHeld ⊢
                rw [hHg] at H' Hn ⊢
                have H := H'
                clear H' hw9 hHg
                (refine wpAnyL_one (i := 9) (o := _) (by kernel_rfl) rfl (fun K hK => ?_); clear hHeld; simp only [List.getElem_toArray, List.getElem_cons_zero, List.getElem_cons_succ]; go_simp; refine hK.out _ _ ?_ (fun hHeld => ?_); focus (intro _; exact KQ.out _ (D.alloc D.size _))); have hHeld := hHeld (by decide); clear hK K; (try simp only [Act.put, List.setIfInBounds_toArray, List.set_cons_zero, List.set_cons_succ])
                have G' := Blk.new w9 34 #[.bool false, .slice none 0 0]
                have Gn : we.heap.size ≤ w9.heap.size := D.size
                have hne : Hg ≠ w9.heap.size := Nat.ne_of_lt H.lt
                have H := H.alloc (.cells #[.bool false, .slice none 0 0] 34)
                have hq := (hq.alloc (.cells #[.bool false, .slice none 0 0] 34))
                have hr := (hr.alloc (.cells #[.bool false, .slice none 0 0] 34))
                have D1 : Below we.heap.size we (w9.alloc (.cells #[.bool false, .slice none 0 0] 34)) := D.alloc D.size (.cells #[.bool false, .slice none 0 0] 34)
                clear D
                have D := D1
                clear D1
                obtain ⟨w8, hw8⟩ : ∃ w8, w9.alloc (.cells #[.bool false, .slice none 0 0] 34) = w8 := ⟨_, rfl⟩
                obtain ⟨Gg, hGg⟩ : ∃ Gg, w9.heap.size = Gg := ⟨_, rfl⟩
                rw [hw8] at G' D H hq hr hHeld ⊢
                rw [hGg] at G' Gn hne ⊢
                have G := G'
                clear G' hw8 hGg
                have X := Lib.hid (qd_set D Gn Hn hne.symm G H hq hr)
                have D10 := below_set2 D Gn (.bool bq) (.slice Aq nq cq)
                have D11 := below_set2 D10 Hn (.bool br') (.slice Ar nr cr)
                have H1 := H.far2 (hne.symm).symm (.bool bq) (.slice Aq nq cq)
                have g0 := G.at_ 0 rfl; have g1 := G.at_ 1 rfl; have f0 := G.frozen 0; have f1 := G.frozen 1; have h0 := H1.at_ 0 rfl; have h1 := H1.at_ 1 rfl; have f2 := H1.frozen 0; have f3 := H1.frozen 1
                have D10 := Lib.hid D10; have D11 := Lib.hid D11
                clear G H H1 D hq hr hp
                (refine wpAnyL_one (i := 11) (o := _) (by kernel_rfl) rfl (fun K hK => ?_); clear hHeld; simp only [List.getElem_toArray, List.getElem_cons_zero, List.getElem_cons_succ]; go_simp; refine hK.out _ _ ?_ (fun hHeld => ?_); focus (intro _; exact KQ.out _ D10.out)); have hHeld := hHeld (by decide); clear hK K; (try simp only [Act.put, List.setIfInBounds_toArray, List.set_cons_zero, List.set_cons_succ])
                (refine wpAnyL_one (i := 12) (o := _) (by kernel_rfl) rfl (fun K hK => ?_); clear hHeld; simp only [List.getElem_toArray, List.getElem_cons_zero, List.getElem_cons_succ]; go_simp; refine hK.out _ _ ?_ (fun hHeld => ?_); focus (intro _; exact KQ.out _ D11.out)); have hHeld := hHeld (by decide); clear hK K; (try simp only [Act.put, List.setIfInBounds_toArray, List.set_cons_zero, List.set_cons_succ])
                refine wpAnyL_done (by kernel_rfl) ?_ _
                go_wp2
                go_meet
                exact X.out
        · as_aux_lemma =>
            (clear hHeld; simp only [List.getElem_toArray, List.getElem_cons_zero, List.getElem_cons_succ]; go_simp; refine hK.out _ _ ?_ (fun hHeld => ?_); focus (intro _; exact KQ.out _ (D.alloc D.size _))); have hHeld := hHeld (by decide); clear hK K; (try simp only [Act.put, List.setIfInBounds_toArray, List.set_cons_zero, List.set_cons_succ])
            have G' := Blk.new w3 34 #[.bool false, .slice none 0 0]
            have Gn : we.heap.size ≤ w3.heap.size := D.size
            have hp := (hp.alloc (.cells #[.bool false, .slice none 0 0] 34))
            have D1 : Below we.heap.size we (w3.alloc (.cells #[.bool false, .slice none 0 0] 34)) := D.alloc D.size (.cells #[.bool false, .slice none 0 0] 34)
            clear D
            have D := D1
            clear D1
            obtain ⟨w8, hw8⟩ : ∃ w8, w3.alloc (.cells #[.bool false, .slice none 0 0] 34) = w8 := ⟨_, rfl⟩
            obtain ⟨Gg, hGg⟩ : ∃ Gg, w3.heap.size = Gg := ⟨_, rfl⟩
            rw [hw8] at G' D hp hHeld ⊢
            rw [hGg] at G' Gn ⊢
            have G := G'
            clear G' hw8 hGg
            refine wpAnyL_two (i := 5) (j := 10) (oi := _) (oj := _) (by kernel_rfl) rfl rfl (fun K hK => ?_) (fun K hK => ?_)
            · as_aux_lemma =>
                (clear hHeld; simp only [List.getElem_toArray, List.getElem_cons_zero, List.getElem_cons_succ]; go_simp; (go_at_call 52; (with_reducible refine (DZ.out _ _ _ (VQ.out _ D) hp.v).mono ?_); rintro e w4 ⟨_, _, rfl, ⟨bq, Aq, nq, cq, rfl, hq⟩, ⟨br', Ar, nr, cr, rfl, hr⟩, hb⟩; have D := D.trans (hb.mono D.size); have G := G.below hb G.lt); refine hK.out _ _ ?_ (fun hHeld => ?_); focus (intro _; exact KQ.out _ D)); have hHeld := hHeld (by decide); clear hK K; (try simp only [Act.put, List.setIfInBounds_toArray, List.set_cons_zero, List.set_cons_succ])
                (refine wpAnyL_take (i := 6) (oi := _) (v := ?_) rfl (by kernel_rfl) (by kernel_rfl) (by kernel_rfl) (fun _ _ _ h => h) (Or.inl ⟨by first | rfl | kernel_rfl, ?hy8⟩) (by assumption) ?rs8; (case hy8 => (intro w hSw; (try dsimp only at hSw); go_simp; first | done | with_reducible rfl)); case' rs8 => (simp only [List.getElem_toArray, List.getElem_cons_zero, List.getElem_cons_succ, Act.put, List.setIfInBounds_toArray, List.set_cons_zero, List.set_cons_succ])); (refine wpAnyL_take (i := 7) (oi := _) (v := ?_) rfl (by kernel_rfl) (by kernel_rfl) (by kernel_rfl) (fun _ _ _ h => h) (Or.inl ⟨by first | rfl | kernel_rfl, ?hy9⟩) (by assumption) ?rs9; (case hy9 => (intro w hSw; (try dsimp only at hSw); go_simp; first | done | with_reducible rfl)); case' rs9 => (simp only [List.getElem_toArray, List.getElem_cons_zero, List.getElem_cons_succ, Act.put, List.setIfInBounds_toArray, List.set_cons_zero, List.set_cons_succ])); (refine wpAnyL_take (i := 8) (oi := _) (v := ?_) rfl (by kernel_rfl) (by kernel_rfl) (by kernel_rfl) (fun _ _ _ h => h) (Or.inl ⟨by first | rfl | kernel_rfl, ?hy10⟩) (by assumption) ?rs10; (case hy10 => (intro w hSw; (try dsimp only at hSw); go_simp; first | done | with_reducible rfl)); case' rs10 => (simp only [List.getElem_toArray, List.getElem_cons_zero, List.getElem_cons_succ, Act.put, List.setIfInBounds_toArray, List.set_cons_zero, List.set_cons_succ])); skip
                (refine wpAnyL_one (i := 10) (o := _) (by kernel_rfl) rfl (fun K hK => ?_); clear hHeld; simp only [List.getElem_toArray, List.getElem_cons_zero, List.getElem_cons_succ]; go_simp; refine hK.out _ _ ?_ (fun hHeld => ?_); focus (intro _; exact KQ.out _ (D.alloc D.size _))); have hHeld := hHeld (by decide); clear hK K; (try simp only [Act.put, List.setIfInBounds_toArray, List.set_cons_zero, List.set_cons_succ])
                have H' := Blk.new w4 34 #[.bool false, .slice none 0 0]
                have Hn : we.heap.size ≤ w4.heap.size := D.size
                have hne : Gg ≠ w4.heap.size := Nat.ne_of_lt G.lt
                have G := G.alloc (.cells #[.bool false, .slice none 0 0] 34)
                have hq := (hq.alloc (.cells #[.bool false, .slice none 0 0] 34))
                have hr := (hr.alloc (.cells #[.bool false, .slice none 0 0] 34))
                have D1 : Below we.heap.size we (w4.alloc (.cells #[.bool false, .slice none 0 0] 34)) := D.alloc D.size (.cells #[.bool false, .slice none 0 0] 34)
                clear D
                have D := D1
                clear D1
                obtain ⟨w9, hw9⟩ : ∃ w9, w4.alloc (.cells #[.bool false, .slice none 0 0] 34) = w9 := ⟨_, rfl⟩
                obtain ⟨Hg, hHg⟩ : ∃ Hg, w4.heap.size = Hg := ⟨_, rfl⟩
                rw [hw9] at H' D G hq hr hHeld ⊢
                rw [hHg] at H' Hn hne ⊢
                have H := H'
                clear H' hw9 hHg
                have X := Lib.hid (qd_set D Gn Hn hne G H hq hr)
                have D10 := below_set2 D Gn (.bool bq) (.slice Aq nq cq)
                have D11 := below_set2 D10 Hn (.bool br') (.slice Ar nr cr)
                have H1 := H.far2 (hne).symm (.bool bq) (.slice Aq nq cq)
                have g0 := G.at_ 0 rfl; have g1 := G.at_ 1 rfl; have f0 := G.frozen 0; have f1 := G.frozen 1; have h0 := H1.at_ 0 rfl; have h1 := H1.at_ 1 rfl; have f2 := H1.frozen 0; have f3 := H1.frozen 1
                have D10 := Lib.hid D10; have D11 := Lib.hid D11
                clear G H H1 D hq hr hp
                (refine wpAnyL_one (i := 11) (o := _) (by kernel_rfl) rfl (fun K hK => ?_); clear hHeld; simp only [List.getElem_toArray, List.getElem_cons_zero, List.getElem_cons_succ]; go_simp; refine hK.out _ _ ?_ (fun hHeld => ?_); focus (intro _; exact KQ.out _ D10.out)); have hHeld := hHeld (by decide); clear hK K; (try simp only [Act.put, List.setIfInBounds_toArray, List.set_cons_zero, List.set_cons_succ])
                (refine wpAnyL_one (i := 12) (o := _) (by kernel_rfl) rfl (fun K hK => ?_); clear hHeld; simp only [List.getElem_toArray, List.getElem_cons_zero, List.getElem_cons_succ]; go_simp; refine hK.out _ _ ?_ (fun hHeld => ?_); focus (intro _; exact KQ.out _ D11.out)); have hHeld := hHeld (by decide); clear hK K; (try simp only [Act.put, List.setIfInBounds_toArray, List.set_cons_zero, List.set_cons_succ])
                refine wpAnyL_done (by kernel_rfl) ?_ _
                go_wp2
                go_meet
                exact X.out
            · as_aux_lemma =>
                (clear hHeld; simp only [List.getElem_toArray, List.getElem_cons_zero, List.getElem_cons_succ]; go_simp; refine hK.out _ _ ?_ (fun hHeld => ?_); focus (intro _; exact KQ.out _ (D.alloc D.size _))); have hHeld := hHeld (by decide); clear hK K; (try simp only [Act.put, List.setIfInBounds_toArray, List.set_cons_zero, List.set_cons_succ])
                have H' := Blk.new w8 34 #[.bool false, .slice none 0 0]
                have Hn : we.heap.size ≤ w8.heap.size := D.size
                have hne : Gg ≠ w8.heap.size := Nat.ne_of_lt G.lt
                have G := G.alloc (.cells #[.bool false, .slice none 0 0] 34)
                have hp := (hp.alloc (.cells #[.bool false, .slice none 0 0] 34))
                have D1 : Below we.heap.size we (w8.alloc (.cells #[.bool false, .slice none 0 0] 34)) := D.alloc D.size (.cells #[.bool false, .slice none 0 0] 34)
                clear D
                have D := D1
                clear D1
                obtain ⟨w9, hw9⟩ : ∃ w9, w8.alloc (.cells #[.bool false, .slice none 0 0] 34) = w9 := ⟨_, rfl⟩
                obtain ⟨Hg, hHg⟩ : ∃ Hg, w8.heap.size = Hg := ⟨_, rfl⟩
                rw [hw9] at H' D G hp hHeld ⊢
                rw [hHg] at H' Hn hne ⊢
                have H := H'
                clear H' hw9 hHg
                (refine wpAnyL_one (i := 5) (o := _) (by kernel_rfl) rfl (fun K hK => ?_); clear hHeld; simp only [List.getElem_toArray, List.getElem_cons_zero, List.getElem_cons_succ]; go_simp; (go_at_call 52; (with_reducible refine (DZ.out _ _ _ (VQ.out _ D) hp.v).mono ?_); rintro e w4 ⟨_, _, rfl, ⟨bq, Aq, nq, cq, rfl, hq⟩, ⟨br', Ar, nr, cr, rfl, hr⟩, hb⟩; have D := D.trans (hb.mono D.size); have G := G.below hb G.lt; have H := H.below hb H.lt); refine hK.out _ _ ?_ (fun hHeld => ?_); focus (intro _; exact KQ.out _ D)); have hHeld := hHeld (by decide); clear hK K; (try simp only [Act.put, List.setIfInBounds_toArray, List.set_cons_zero, List.set_cons_succ])
                (refine wpAnyL_take (i := 6) (oi := _) (v := ?_) rfl (by kernel_rfl) (by kernel_rfl) (by kernel_rfl) (fun _ _ _ h => h) (Or.inl ⟨by first | rfl | kernel_rfl, ?hy11⟩) (by assumption) ?rs11; (case hy11 => (intro w hSw; (try dsimp only at hSw); go_simp; first | done | with_reducible rfl)); case' rs11 => (simp only [List.getElem_toArray, List.getElem_cons_zero, List.getElem_cons_succ, Act.put, List.setIfInBounds_toArray, List.set_cons_zero, List.set_cons_succ])); (refine wpAnyL_take (i := 7) (oi := _) (v := ?_) rfl (by kernel_rfl) (by kernel_rfl) (by kernel_rfl) (fun _ _ _ h => h) (Or.inl ⟨by first | rfl | kernel_rfl, ?hy12⟩) (by assumption) ?rs12; (case hy12 => (intro w hSw; (try dsimp only at hSw); go_simp; first | done | with_reducible rfl)); case' rs12 => (simp only [List.getElem_toArray, List.getElem_cons_zero, List.getElem_cons_succ, Act.put, List.setIfInBounds_toArray, List.set_cons_zero, List.set_cons_succ])); (refine wpAnyL_take (i := 8) (oi := _) (v := ?_) rfl (by kernel_rfl) (by kernel_rfl) (by kernel_rfl) (fun _ _ _ h => h) (Or.inl ⟨by first | rfl | kernel_rfl, ?hy13⟩) (by assumption) ?rs13; (case hy13 => (intro w hSw; (try dsimp only at hSw); go_simp; first | done | with_reducible rfl)); case' rs13 => (simp only [List.getElem_toArray, List.getElem_cons_zero, List.getElem_cons_succ, Act.put, List.setIfInBounds_toArray, List.set_cons_zero, List.set_cons_succ])); skip
                have X := Lib.hid (qd_set D Gn Hn hne G H hq hr)
                have D10 := below_set2 D Gn (.bool bq) (.slice Aq nq cq)
                have D11 := below_set2 D10 Hn (.bool br') (.slice Ar nr cr)
                have H1 := H.far2 (hne).symm (.bool bq) (.slice Aq nq cq)
                have g0 := G.at_ 0 rfl; have g1 := G.at_ 1 rfl; have f0 := G.frozen 0; have f1 := G.frozen 1; have h0 := H1.at_ 0 rfl; have h1 := H1.at_ 1 rfl; have f2 := H1.frozen 0; have f3 := H1.frozen 1
                have D10 := Lib.hid D10; have D11 := Lib.hid D11
                clear G H H1 D hq hr hp
                (refine wpAnyL_one (i := 11) (o := _) (by kernel_rfl) rfl (fun K hK => ?_); clear hHeld; simp only [List.getElem_toArray, List.getElem_cons_zero, List.getElem_cons_succ]; go_simp; refine hK.out _ _ ?_ (fun hHeld => ?_); focus (intro _; exact KQ.out _ D10.out)); have hHeld := hHeld (by decide); clear hK K; (try simp only [Act.put, List.setIfInBounds_toArray, List.set_cons_zero, List.set_cons_succ])
                (refine wpAnyL_one (i := 12) (o := _) (by kernel_rfl) rfl (fun K hK => ?_); clear hHeld; simp only [List.getElem_toArray, List.getElem_cons_zero, List.getElem_cons_succ]; go_simp; refine hK.out _ _ ?_ (fun hHeld => ?_); focus (intro _; exact KQ.out _ D11.out)); have hHeld := hHeld (by decide); clear hK K; (try simp only [Act.put, List.setIfInBounds_toArray, List.set_cons_zero, List.set_cons_succ])
                refine wpAnyL_done (by kernel_rfl) ?_ _
                go_wp2
                go_meet
                exact X.out
        · as_aux_lemma =>
            (clear hHeld; simp only [List.getElem_toArray, List.getElem_cons_zero, List.getElem_cons_succ]; go_simp; refine hK.out _ _ ?_ (fun hHeld => ?_); focus (intro _; exact KQ.out _ (D.alloc D.size _))); have hHeld := hHeld (by decide); clear hK K; (try simp only [Act.put, List.setIfInBounds_toArray, List.set_cons_zero, List.set_cons_succ])
            have H' := Blk.new w3 34 #[.bool false, .slice none 0 0]
            have Hn : we.heap.size ≤ w3.heap.size := D.size
            have hp := (hp.alloc (.cells #[.bool false, .slice none 0 0] 34))
            have D1 : Below we.heap.size we (w3.alloc (.cells #[.bool false, .slice none 0 0] 34)) := D.alloc D.size (.cells #[.bool false, .slice none 0 0] 34)
            clear D
            have D := D1
            clear D1
            obtain ⟨w9, hw9⟩ : ∃ w9, w3.alloc (.cells #[.bool false, .slice none 0 0] 34) = w9 := ⟨_, rfl⟩
            obtain ⟨Hg, hHg⟩ : ∃ Hg, w3.heap.size = Hg := ⟨_, rfl⟩
            rw [hw9] at H' D hp hHeld ⊢
            rw [hHg] at H' Hn ⊢
            have H := H'
            clear H' hw9 hHg
            refine wpAnyL_two (i := 5) (j := 9) (oi := _) (oj := _) (by kernel_rfl) rfl rfl (fun K hK => ?_) (fun K hK => ?_)
            · as_aux_lemma =>
                (clear hHeld; simp only [List.getElem_toArray, List.getElem_cons_zero, List.getElem_cons_succ]; go_simp; (go_at_call 52; (with_reducible refine (DZ.out _ _ _ (VQ.out _ D) hp.v).mono ?_); rintro e w4 ⟨_, _, rfl, ⟨bq, Aq, nq, cq, rfl, hq⟩, ⟨br', Ar, nr, cr, rfl, hr⟩, hb⟩; have D := D.trans (hb.mono D.size); have H := H.below hb H.lt); refine hK.out _ _ ?_ (fun hHeld => ?_); focus (intro _; exact KQ.out _ D)); have hHeld := hHeld (by decide); clear hK K; (try simp only [Act.put, List.setIfInBounds_toArray, List.set_cons_zero, List.set_cons_succ])
                (refine wpAnyL_take (i := 6) (oi := _) (v := ?_) rfl (by kernel_rfl) (by kernel_rfl) (by kernel_rfl) (fun _ _ _ h => h) (Or.inl ⟨by first | rfl | kernel_rfl, ?hy14⟩) (by assumption) ?rs14; (case hy14 => (intro w hSw; (try dsimp only at hSw); go_simp; first | done | with_reducible rfl)); case' rs14 => (simp only [List.getElem_toArray, List.getElem_cons_zero, List.getElem_cons_succ, Act.put, List.setIfInBounds_toArray, List.set_cons_zero, List.set_cons_succ])); (refine wpAnyL_take (i := 7) (oi := _) (v := ?_) rfl (by kernel_rfl) (by kernel_rfl) (by kernel_rfl) (fun _ _ _ h => h) (Or.inl ⟨by first | rfl | kernel_rfl, ?hy15⟩) (by assumption) ?rs15; (case hy15 => (intro w hSw; (try dsimp only at hSw); go_simp; first | done | with_reducible rfl)); case' rs15 => (simp only [List.getElem_toArray, List.getElem_cons_zero, List.getElem_cons_succ, Act.put, List.setIfInBounds_toArray, List.set_cons_zero, List.set_cons_succ])); (refine wpAnyL_take (i := 8) (oi := _) (v := ?_) rfl (by kernel_rfl) (by kernel_rfl) (by kernel_rfl) (fun _ _ _ h => h) (Or.inl ⟨by first | rfl | kernel_rfl, ?hy16⟩) (by assumption) ?rs16; (case hy16 => (intro w hSw; (try dsimp only at hSw); go_simp; first | done | with_reducible rfl)); case' rs16 => (simp only [List.getElem_toArray, List.getElem_cons_zero, List.getElem_cons_succ, Act.put, List.setIfInBounds_toArray, List.set_cons_zero, List.set_cons_succ])); skip
                (refine wpAnyL_one (i := 9) (o := _) (by kernel_rfl) rfl (fun K hK => ?_); clear hHeld; simp only [List.getElem_toArray, List.getElem_cons_zero, List.getElem_cons_succ]; go_simp; refine hK.out _ _ ?_ (fun hHeld => ?_); focus (intro _; exact KQ.out _ (D.alloc D.size _))); have hHeld := hHeld (by decide); clear hK K; (try simp only [Act.put, List.setIfInBounds_toArray, List.set_cons_zero, List.set_cons_succ])
                have G' := Blk.new w4 34 #[.bool false, .slice none 0 0]
                have Gn : we.heap.size ≤ w4.heap.size := D.size
                have hne : Hg ≠ w4.heap.size := Nat.ne_of_lt H.lt
                have H := H.alloc (.cells #[.bool false, .slice none 0 0] 34)
                have hq := (hq.alloc (.cells #[.bool false, .slice none 0 0] 34))
                have hr := (hr.alloc (.cells #[.bool false, .slice none 0 0] 34))
                have D1 : Below we.heap.size we (w4.alloc (.cells #[.bool false, .slice none 0 0] 34)) := D.alloc D.size (.cells #[.bool false, .slice none 0 0] 34)
                clear D
                have D := D1
                clear D1
                obtain ⟨w8, hw8⟩ : ∃ w8, w4.alloc (.cells #[.bool false, .slice none 0 0] 34) = w8 := ⟨_, rfl⟩
                obtain ⟨Gg, hGg⟩ : ∃ Gg, w4.heap.size = Gg := ⟨_, rfl⟩
                rw [hw8] at G' D H hq hr hHeld ⊢
                rw [hGg] at G' Gn hne ⊢
                have G := G'
                clear G' hw8 hGg
                have X := Lib.hid (qd_set D Gn Hn hne.symm G H hq hr)
                have D10 := below_set2 D Gn (.bool bq) (.slice Aq nq cq)
                have D11 := below_set2 D10 Hn (.bool br') (.slice Ar nr cr)
                have H1 := H.far2 (hne.symm).symm (.bool bq) (.slice Aq nq cq)
                have g0 := G.at_ 0 rfl; have g1 := G.at_ 1 rfl; have f0 := G.frozen 0; have f1 := G.frozen 1; have h0 := H1.at_ 0 rfl; have h1 := H1.at_ 1 rfl; have f2 := H1.frozen 0; have f3 := H1.frozen 1
                have D10 := Lib.hid D10; have D11 := Lib.hid D11
                clear G H H1 D hq hr hp
                (refine wpAnyL_one (i := 11) (o := _) (by kernel_rfl) rfl (fun K hK => ?_); clear hHeld; simp only [List.getElem_toArray, List.getElem_cons_zero, List.getElem_cons_succ]; go_simp; refine hK.out _ _ ?_ (fun hHeld => ?_); focus (intro _; exact KQ.out _ D10.out)); have hHeld := hHeld (by decide); clear hK K; (try simp only [Act.put, List.setIfInBounds_toArray, List.set_cons_zero, List.set_cons_succ])
                (refine wpAnyL_one (i := 12) (o := _) (by kernel_rfl) rfl (fun K hK => ?_); clear hHeld; simp only [List.getElem_toArray, List.getElem_cons_zero, List.getElem_cons_succ]; go_simp; refine hK.out _ _ ?_ (fun hHeld => ?_); focus (intro _; exact KQ.out _ D11.out)); have hHeld := hHeld (by decide); clear hK K; (try simp only [Act.put, List.setIfInBounds_toArray, List.set_cons_zero, List.set_cons_succ])
                refine wpAnyL_done (by kernel_rfl) ?_ _
                go_wp2
                go_meet
                exact X.out
            · as_aux_lemma =>
                (clear hHeld; simp only [List.getElem_toArray, List.getElem_cons_zero, List.getElem_cons_succ]; go_simp; refine hK.out _ _ ?_ (fun hHeld => ?_); focus (intro _; exact KQ.out _ (D.alloc D.size _))); have hHeld := hHeld (by decide); clear hK K; (try simp only [Act.put, List.setIfInBounds_toArray, List.set_cons_zero, List.set_cons_succ])
                have G' := Blk.new w9 34 #[.bool false, .slice none 0 0]
                have Gn : we.heap.size ≤ w9.heap.size := D.size
                have hne : Hg ≠ w9.heap.size := Nat.ne_of_lt H.lt
                have H := H.alloc (.cells #[.bool false, .slice none 0 0] 34)
                have hp := (hp.alloc (.cells #[.bool false, .slice none 0 0] 34))
                have D1 : Below we.heap.size we (w9.alloc (.cells #[.bool false, .slice none 0 0] 34)) := D.alloc D.size (.cells #[.bool false, .slice none 0 0] 34)
                clear D
                have D := D1
                clear D1
                obtain ⟨w8, hw8⟩ : ∃ w8, w9.alloc (.cells #[.bool false, .slice none 0 0] 34) = w8 := ⟨_, rfl⟩
                obtain ⟨Gg, hGg⟩ : ∃ Gg, w9.heap.size = Gg := ⟨_, rfl⟩
                rw [hw8] at G' D H hp hHeld ⊢
                rw [hGg] at G' Gn hne ⊢
                have G := G'
                clear G' hw8 hGg
                (refine wpAnyL_one (i := 5) (o := _) (by kernel_rfl) rfl (fun K hK => ?_); clear hHeld; simp only [List.getElem_toArray, List.getElem_cons_zero, List.getElem_cons_succ]; go_simp; (go_at_call 52; (with_reducible refine (DZ.out _ _ _ (VQ.out _ D) hp.v).mono ?_); rintro e w4 ⟨_, _, rfl, ⟨bq, Aq, nq, cq, rfl, hq⟩, ⟨br', Ar, nr, cr, rfl, hr⟩, hb⟩; have D := D.trans (hb.mono D.size); have G := G.below hb G.lt; have H := H.below hb H.lt); refine hK.out _ _ ?_ (fun hHeld => ?_); focus (intro _; exact KQ.out _ D)); have hHeld := hHeld (by decide); clear hK K; (try simp only [Act.put, List.setIfInBounds_toArray, List.set_cons_zero, List.set_cons_succ])
                (refine wpAnyL_take (i := 6) (oi := _) (v := ?_) rfl (by kernel_rfl) (by kernel_rfl) (by kernel_rfl) (fun _ _ _ h => h) (Or.inl ⟨by first | rfl | kernel_rfl, ?hy17⟩) (by assumption) ?rs17; (case hy17 => (intro w hSw; (try dsimp only at hSw); go_simp; first | done | with_reducible rfl)); case' rs17 => (simp only [List.getElem_toArray, List.getElem_cons_zero, List.getElem_cons_succ, Act.put, List.setIfInBounds_toArray, List.set_cons_zero, List.set_cons_succ])); (refine wpAnyL_take (i := 7) (oi := _) (v := ?_) rfl (by kernel_rfl) (by kernel_rfl) (by kernel_rfl) (fun _ _ _ h => h) (Or.inl ⟨by first | rfl | kernel_rfl, ?hy18⟩) (by assumption) ?rs18; (case hy18 => (intro w hSw; (try dsimp only at hSw); go_simp; first | done | with_reducible rfl)); case' rs18 => (simp only [List.getElem_toArray, List.getElem_cons_zero, List.getElem_cons_succ, Act.put, List.setIfInBounds_toArray, List.set_cons_zero, List.set_cons_succ])); (refine wpAnyL_take (i := 8) (oi := _) (v := ?_) rfl (by kernel_rfl) (by kernel_rfl) (by kernel_rfl) (fun _ _ _ h => h) (Or.inl ⟨by first | rfl | kernel_rfl, ?hy19⟩) (by assumption) ?rs19; (case hy19 => (intro w hSw; (try dsimp only at hSw); go_simp; first | done | with_reducible rfl)); case' rs19 => (simp only [List.getElem_toArray, List.getElem_cons_zero, List.getElem_cons_succ, Act.put, List.setIfInBounds_toArray, List.set_cons_zero, List.set_cons_succ])); skip
                have X := Lib.hid (qd_set D Gn Hn hne.symm G H hq hr)
                have D10 := below_set2 D Gn (.bool bq) (.slice Aq nq cq)
                have D11 := below_set2 D10 Hn (.bool br') (.slice Ar nr cr)
                have H1 := H.far2 (hne.symm).symm (.bool bq) (.slice Aq nq cq)
                have g0 := G.at_ 0 rfl; have g1 := G.at_ 1 rfl; have f0 := G.frozen 0; have f1 := G.frozen 1; have h0 := H1.at_ 0 rfl; have h1 := H1.at_ 1 rfl; have f2 := H1.frozen 0; have f3 := H1.frozen 1
                have D10 := Lib.hid D10; have D11 := Lib.hid D11
                clear G H H1 D hq hr hp
                (refine wpAnyL_one (i := 11) (o := _) (by kernel_rfl) rfl (fun K hK => ?_); clear hHeld; simp only [List.getElem_toArray, List.getElem_cons_zero, List.getElem_cons_succ]; go_simp; refine hK.out _ _ ?_ (fun hHeld => ?_); focus (intro _; exact KQ.out _ D10.out)); have hHeld := hHeld (by decide); clear hK K; (try simp only [Act.put, List.setIfInBounds_toArray, List.set_cons_zero, List.set_cons_succ])
                (refine wpAnyL_one (i := 12) (o := _) (by kernel_rfl) rfl (fun K hK => ?_); clear hHeld; simp only [List.getElem_toArray, List.getElem_cons_zero, List.getElem_cons_succ]; go_simp; refine hK.out _ _ ?_ (fun hHeld => ?_); focus (intro _; exact KQ.out _ D11.out)); have hHeld := hHeld (by decide); clear hK K; (try simp only [Act.put, List.setIfInBounds_toArray, List.set_cons_zero, List.set_cons_succ])
                refine wpAnyL_done (by kernel_rfl) ?_ _
                go_wp2
                go_meet
                exact X.out
    · as_aux_lemma =>
        (clear hHeld; simp only [List.getElem_toArray, List.getElem_cons_zero, List.getElem_cons_succ]; go_simp; refine hK.out _ _ ?_ (fun hHeld => ?_); focus (intro _; exact KQ.out _ (D.alloc D.size _))); have hHeld := hHeld (by decide); clear hK K; (try simp only [Act.put, List.setIfInBounds_toArray, List.set_cons_zero, List.set_cons_succ])
        have G' := Blk.drew (Blk.new W1 34 #[.bool false, .slice none 0 0])
        have Gn : we.heap.size ≤ W1.heap.size := D.size
        have D1 : Below we.heap.size we ((W1.alloc (.cells #[.bool false, .slice none 0 0] 34)).drew) := (D.alloc D.size (.cells #[.bool false, .slice none 0 0] 34))
        clear D
        have D := D1
        clear D1
        obtain ⟨w8, hw8⟩ : ∃ w8, (W1.alloc (.cells #[.bool false, .slice none 0 0] 34)).drew = w8 := ⟨_, rfl⟩
        obtain ⟨Gg, hGg⟩ : ∃ Gg, W1.heap.size = Gg := ⟨_, rfl⟩
        rw [hw8] at G' D hHeld ⊢
        rw [hGg] at G' Gn ⊢
        have G := G'
        clear G' hw8 hGg
        refine wpAnyL_two (i := 4) (j := 10) (oi := _) (oj := _) (by kernel_rfl) rfl rfl (fun K hK => ?_) (fun K hK => ?_)
        · as_aux_lemma =>
            (clear hHeld; simp only [List.getElem_toArray, List.getElem_cons_zero, List.getElem_cons_succ]; go_simp; (go_at_call 48; (with_reducible refine (HP.out _).mono ?_); rintro e w3 ⟨_, rfl, ⟨b1, A1, n1, c1, rfl, hp0⟩, hb⟩; have hp := hp0.zl; have D := D.trans (hb.mono D.size); have G := G.below hb G.lt); refine hK.out _ _ ?_ (fun hHeld => ?_); focus (intro _; exact KQ.out _ D)); have hHeld := hHeld (by decide); clear hK K; (try simp only [Act.put, List.setIfInBounds_toArray, List.set_cons_zero, List.set_cons_succ])
            refine wpAnyL_two (i := 5) (j := 10) (oi := _) (oj := _) (by kernel_rfl) rfl rfl (fun K hK => ?_) (fun K hK => ?_)
            · as_aux_lemma =>
                (clear hHeld; simp only [List.getElem_toArray, List.getElem_cons_zero, List.getElem_cons_succ]; go_simp; (go_at_call 52; (with_reducible refine (DZ.out _ _ _ (VQ.out _ D) hp.v).mono ?_); rintro e w4 ⟨_, _, rfl, ⟨bq, Aq, nq, cq, rfl, hq⟩, ⟨br', Ar, nr, cr, rfl, hr⟩, hb⟩; have D := D.trans (hb.mono D.size); have G := G.below hb G.lt); refine hK.out _ _ ?_ (fun hHeld => ?_); focus (intro _; exact KQ.out _ D)); have hHeld := hHeld (by decide); clear hK K; (try simp only [Act.put, List.setIfInBounds_toArray, List.set_cons_zero, List.set_cons_succ])
                (refine wpAnyL_take (i := 6) (oi := _) (v := ?_) rfl (by kernel_rfl) (by kernel_rfl) (by kernel_rfl) (fun _ _ _ h => h) (Or.inl ⟨by first | rfl | kernel_rfl, ?hy20⟩) (by assumption) ?rs20; (case hy20 => (intro w hSw; (try dsimp only at hSw); go_simp; first | done | with_reducible rfl)); case' rs20 => (simp only [List.getElem_toArray, List.getElem_cons_zero, List.getElem_cons_succ, Act.put, List.setIfInBounds_toArray, List.set_cons_zero, List.set_cons_succ])); (refine wpAnyL_take (i := 7) (oi := _) (v := ?_) rfl (by kernel_rfl) (by kernel_rfl) (by kernel_rfl) (fun _ _ _ h => h) (Or.inl ⟨by first | rfl | kernel_rfl, ?hy21⟩) (by assumption) ?rs21; (case hy21 => (intro w hSw; (try dsimp only at hSw); go_simp; first | done | with_reducible rfl)); case' rs21 => (simp only [List.getElem_toArray, List.getElem_cons_zero, List.getElem_cons_succ, Act.put, List.setIfInBounds_toArray, List.set_cons_zero, List.set_cons_succ])); (refine wpAnyL_take (i := 8) (oi := _) (v := ?_) rfl (by kernel_rfl) (by kernel_rfl) (by kernel_rfl) (fun _ _ _ h => h) (Or.inl ⟨by first | rfl | kernel_rfl, ?hy22⟩) (by assumption) ?rs22; (case hy22 => (intro w hSw; (try dsimp only at hSw); go_simp; first | done | with_reducible rfl)); case' rs22 => (simp only [List.getElem_toArray, List.getElem_cons_zero, List.getElem_cons_succ, Act.put, List.setIfInBounds_toArray, List.set_cons_zero, List.set_cons_succ])); skip
                (refine wpAnyL_one (i := 10) (o := _) (by kernel_rfl) rfl (fun K hK => ?_); clear hHeld; simp only [List.getElem_toArray, List.getElem_cons_zero, List.getElem_cons_succ]; go_simp; refine hK.out _ _ ?_ (fun hHeld => ?_); focus (intro _; exact KQ.out _ (D.alloc D.size _))); have hHeld := hHeld (by decide); clear hK K; (try simp only [Act.put, List.setIfInBounds_toArray, List.set_cons_zero, List.set_cons_succ])
                have H' := Blk.new w4 34 #[.bool false, .slice none 0 0]
                have Hn : we.heap.size ≤ w4.heap.size := D.size
                have hne : Gg ≠ w4.heap.size := Nat.ne_of_lt G.lt
                have G := G.alloc (.cells #[.bool false, .slice none 0 0] 34)
                have hq := (hq.alloc (.cells #[.bool false, .slice none 0 0] 34))
                have hr := (hr.alloc (.cells #[.bool false, .slice none 0 0] 34))
                have D1 : Below we.heap.size we (w4.alloc (.cells #[.bool false, .slice none 0 0] 34)) := D.alloc D.size (.cells #[.bool false, .slice none 0 0] 34)
                clear D
                have D := D1
                clear D1
                obtain ⟨w9, hw9⟩ : ∃ w9, w4.alloc (.cells #[.bool false, .slice none 0 0] 34) = w9 := ⟨_, rfl⟩
                obtain ⟨Hg, hHg⟩ : ∃ Hg, w4.heap.size = Hg := ⟨_, rfl⟩
                rw [hw9] at H' D G hq hr hHeld ⊢
                rw [hHg] at H' Hn hne ⊢
                have H := H'
                clear H' hw9 hHg
                have X := Lib.hid (qd_set D Gn Hn hne G H hq hr)
                have D10 := below_set2 D Gn (.bool bq) (.slice Aq nq cq)
                have D11 := below_set2 D10 Hn (.bool br') (.slice Ar nr cr)
                have H1 := H.far2 (hne).symm (.bool bq) (.slice Aq nq cq)
                have g0 := G.at_ 0 rfl; have g1 := G.at_ 1 rfl; have f0 := G.frozen 0; have f1 := G.frozen 1; have h0 := H1.at_ 0 rfl; have h1 := H1.at_ 1 rfl; have f2 := H1.frozen 0; have f3 := H1.frozen 1
                have D10 := Lib.hid D10; have D11 := Lib.hid D11
                clear G H H1 D hq hr hp
                (refine wpAnyL_one (i := 11) (o := _) (by kernel_rfl) rfl (fun K hK => ?_); clear hHeld; simp only [List.getElem_toArray, List.getElem_cons_zero, List.getElem_cons_succ]; go_simp; refine hK.out _ _ ?_ (fun hHeld => ?_); focus (intro _; exact KQ.out _ D10.out)); have hHeld := hHeld (by decide); clear hK K; (try simp only [Act.put, List.setIfInBounds_toArray, List.set_cons_zero, List.set_cons_succ])
                (refine wpAnyL_one (i := 12) (o := _) (by kernel_rfl) rfl (fun K hK => ?_); clear hHeld; simp only [List.getElem_toArray, List.getElem_cons_zero, List.getElem_cons_succ]; go_simp; refine hK.out _ _ ?_ (fun hHeld => ?_); focus (intro _; exact KQ.out _ D11.out)); have hHeld := hHeld (by decide); clear hK K; (try simp only [Act.put, List.setIfInBounds_toArray, List.set_cons_zero, List.set_cons_succ])
                refine wpAnyL_done (by kernel_rfl) ?_ _
                go_wp2
                go_meet
                exact X.out
            · as_aux_lemma =>
                (clear hHeld; simp only [List.getElem_toArray, List.getElem_cons_zero, List.getElem_cons_succ]; go_simp; refine hK.out _ _ ?_ (fun hHeld => ?_); focus (intro _; exact KQ.out _ (D.alloc D.size _))); have hHeld := hHeld (by decide); clear hK K; (try simp only [Act.put, List.setIfInBounds_toArray, List.set_cons_zero, List.set_cons_succ])
                have H' := Blk.new w3 34 #[.bool false, .slice none 0 0]
                have Hn : we.heap.size ≤ w3.heap.size := D.size
                have hne : Gg ≠ w3.heap.size := Nat.ne_of_lt G.lt
                have G := G.alloc (.cells #[.bool false, .slice none 0 0] 34)
                have hp := (hp.alloc (.cells #[.bool false, .slice none 0 0] 34))
                have D1 : Below we.heap.size we (w3.alloc (.cells #[.bool false, .slice none 0 0] 34)) := D.alloc D.size (.cells #[.bool false, .slice none 0 0] 34)
                clear D
                have D := D1
                clear D1
                obtain ⟨w9, hw9⟩ : ∃ w9, w3.alloc (.cells #[.bool false, .slice none 0 0] 34) = w9 := ⟨_, rfl⟩
                obtain ⟨Hg, hHg⟩ : ∃ Hg, w3.heap.size = Hg := ⟨_, rfl⟩
                rw [hw9] at H' D G hp hHeld ⊢
                rw [hHg] at H' Hn hne ⊢
                have H := H'
                clear H' hw9 hHg
                (refine wpAnyL_one (i := 5) (o := _) (by kernel_rfl) rfl (fun K hK => ?_); clear hHeld; simp only [List.getElem_toArray, List.getElem_cons_zero, List.getElem_cons_succ]; go_simp; (go_at_call 52; (with_reducible refine (DZ.out _ _ _ (VQ.out _ D) hp.v).mono ?_); rintro e w4 ⟨_, _, rfl, ⟨bq, Aq, nq, cq, rfl, hq⟩, ⟨br', Ar, nr, cr, rfl, hr⟩, hb⟩; have D := D.trans (hb.mono D.size); have G := G.below hb G.lt; have H := H.below hb H.lt); refine hK.out _ _ ?_ (fun hHeld => ?_); focus (intro _; exact KQ.out _ D)); have hHeld := hHeld (by decide); clear hK K; (try simp only [Act.put, List.setIfInBounds_toArray, List.set_cons_zero, List.set_cons_succ])
                (refine wpAnyL_take (i := 6) (oi := _) (v := ?_) rfl (by kernel_rfl) (by kernel_rfl) (by kernel_rfl) (fun _ _ _ h => h) (Or.inl ⟨by first | rfl | kernel_rfl, ?hy23⟩) (by assumption) ?rs23; (case hy23 => (intro w hSw; (try dsimp only at hSw); go_simp; first | done | with_reducible rfl)); case' rs23 => (simp only [List.getElem_toArray, List.getElem_cons_zero, List.getElem_cons_succ, Act.put, List.setIfInBounds_toArray, List.set_cons_zero, List.set_cons_succ])); (refine wpAnyL_take (i := 7) (oi := _) (v := ?_) rfl (by kernel_rfl) (by kernel_rfl) (by kernel_rfl) (fun _ _ _ h => h) (Or.inl ⟨by first | rfl | kernel_rfl, ?hy24⟩) (by assumption) ?rs24; (case hy24 => (intro w hSw; (try dsimp only at hSw); go_simp; first | done | with_reducible rfl)); case' rs24 => (simp only [List.getElem_toArray, List.getElem_cons_zero, List.getElem_cons_succ, Act.put, List.setIfInBounds_toArray, List.set_cons_zero, List.set_cons_succ])); (refine wpAnyL_take (i := 8) (oi := _) (v := ?_) rfl (by kernel_rfl) (by kernel_rfl) (by kernel_rfl) (fun _ _ _ h => h) (Or.inl ⟨by first | rfl | kernel_rfl, ?hy25⟩) (by assumption) ?rs25; (case hy25 => (intro w hSw; (try dsimp only at hSw); go_simp; first | done | with_reducible rfl)); case' rs25 => (simp only [List.getElem_toArray, List.getElem_cons_zero, List.getElem_cons_succ, Act.put, List.setIfInBounds_toArray, List.set_cons_zero, List.set_cons_succ])); skip
                have X := Lib.hid (qd_set D Gn Hn hne G H hq hr)
                have D10 := below_set2 D Gn (.bool bq) (.slice Aq nq cq)
                have D11 := below_set2 D10 Hn (.bool br') (.slice Ar nr cr)
                have H1 := H.far2 (hne).symm (.bool bq) (.slice Aq nq cq)
                have g0 := G.at_ 0 rfl; have g1 := G.at_ 1 rfl; have f0 := G.frozen 0; have f1 := G.frozen 1; have h0 := H1.at_ 0 rfl; have h1 := H1.at_ 1 rfl; have f2 := H1.frozen 0; have f3 := H1.frozen 1
                have D10 := Lib.hid D10; have D11 := Lib.hid D11
                clear G H H1 D hq hr hp
                (refine wpAnyL_one (i := 11) (o := _) (by kernel_rfl) rfl (fun K hK => ?_); clear hHeld; simp only [List.getElem_toArray, List.getElem_cons_zero, List.getElem_cons_succ]; go_simp; refine hK.out _ _ ?_ (fun hHeld => ?_); focus (intro _; exact KQ.out _ D10.out)); have hHeld := hHeld (by decide); clear hK K; (try simp only [Act.put, List.setIfInBounds_toArray, List.set_cons_zero, List.set_cons_succ])
                (refine wpAnyL_one (i := 12) (o := _) (by kernel_rfl) rfl (fun K hK => ?_); clear hHeld; simp only [List.getElem_toArray, List.getElem_cons_zero, List.getElem_cons_succ]; go_simp; refine hK.out _ _ ?_ (fun hHeld => ?_); focus (intro _; exact KQ.out _ D11.out)); have hHeld := hHeld (by decide); clear hK K; (try simp only [Act.put, List.setIfInBounds_toArray, List.set_cons_zero, List.set_cons_succ])
                refine wpAnyL_done (by kernel_rfl) ?_ _
                go_wp2
                go_meet
                exact X.out
        · as_aux_lemma =>
            (clear hHeld; simp only [List.getElem_toArray, List.getElem_cons_zero, List.getElem_cons_succ]; go_simp; refine hK.out _ _ ?_ (fun hHeld => ?_); focus (intro _; exact KQ.out _ (D.alloc D.size _))); have hHeld := hHeld (by decide); clear hK K; (try simp only [Act.put, List.setIfInBounds_toArray, List.set_cons_zero, List.set_cons_succ])
            have H' := Blk.new w8 34 #[.bool false, .slice none 0 0]
            have Hn : we.heap.size ≤ w8.heap.size := D.size
            have hne : Gg ≠ w8.heap.size := Nat.ne_of_lt G.lt
            have G := G.alloc (.cells #[.bool false, .slice none 0 0] 34)
            have D1 : Below we.heap.size we (w8.alloc (.cells #[.bool false, .slice none 0 0] 34)) := D.alloc D.size (.cells #[.bool false, .slice none 0 0] 34)
            clear D
            have D := D1
            clear D1
            obtain ⟨w9, hw9⟩ : ∃ w9, w8.alloc (.cells #[.bool false, .slice none 0 0] 34) = w9 := ⟨_, rfl⟩
            obtain ⟨Hg, hHg⟩ : ∃ Hg, w8.heap.size = Hg := ⟨_, rfl⟩
            rw [hw9] at H' D G hHeld ⊢
            rw [hHg] at H' Hn hne ⊢
            have H := H'
            clear H' hw9 hHg
            (refine wpAnyL_one (i := 4) (o := _) (by kernel_rfl) rfl (fun K hK => ?_); clear hHeld; simp only [List.getElem_toArray, List.getElem_cons_zero, List.getElem_cons_succ]; go_simp; (go_at_call 48; (with_reducible refine (HP.out _).mono ?_); rintro e w3 ⟨_, rfl, ⟨b1, A1, n1, c1, rfl, hp0⟩, hb⟩; have hp := hp0.zl; have D := D.trans (hb.mono D.size); have G := G.below hb G.lt; have H := H.below hb H.lt); refine hK.out _ _ ?_ (fun hHeld => ?_); focus (intro _; exact KQ.out _ D)); have hHeld := hHeld (by decide); clear hK K; (try simp only [Act.put, List.setIfInBounds_toArray, List.set_cons_zero, List.set_cons_succ])
            (refine wpAnyL_one (i := 5) (o := _) (by kernel_rfl) rfl (fun K hK => ?_); clear hHeld; simp only [List.getElem_toArray, List.getElem_cons_zero, List.getElem_cons_succ]; go_simp; (go_at_call 52; (with_reducible refine (DZ.out _ _ _ (VQ.out _ D) hp.v).mono ?_); rintro e w4 ⟨_, _, rfl, ⟨bq, Aq, nq, cq, rfl, hq⟩, ⟨br', Ar, nr, cr, rfl, hr⟩, hb⟩; have D := D.trans (hb.mono D.size); have G := G.below hb G.lt; have H := H.below hb H.lt); refine hK.out _ _ ?_ (fun hHeld => ?_); focus (intro _; exact KQ.out _ D)); have hHeld := hHeld (by decide); clear hK K; (try simp only [Act.put, List.setIfInBounds_toArray, List.set_cons_zero, List.set_cons_succ])
            (refine wpAnyL_take (i := 6) (oi := _) (v := ?_) rfl (by kernel_rfl) (by kernel_rfl) (by kernel_rfl) (fun _ _ _ h => h) (Or.inl ⟨by first | rfl | kernel_rfl, ?hy26⟩) (by assumption) ?rs26; (case hy26 => (intro w hSw; (try dsimp only at hSw); go_simp; first | done | with_reducible rfl)); case' rs26 => (simp only [List.getElem_toArray, List.getElem_cons_zero, List.getElem_cons_succ, Act.put, List.setIfInBounds_toArray, List.set_cons_zero, List.set_cons_succ])); (refine wpAnyL_take (i := 7) (oi := _) (v := ?_) rfl (by kernel_rfl) (by kernel_rfl) (by kernel_rfl) (fun _ _ _ h => h) (Or.inl ⟨by first | rfl | kernel_rfl, ?hy27⟩) (by assumption) ?rs27; (case hy27 => (intro w hSw; (try dsimp only at hSw); go_simp; first | done | with_reducible rfl)); case' rs27 => (simp only [List.getElem_toArray, List.getElem_cons_zero, List.getElem_cons_succ, Act.put, List.setIfInBounds_toArray, List.set_cons_zero, List.set_cons_succ])); (refine wpAnyL_take (i := 8) (oi := _) (v := ?_) rfl (by kernel_rfl) (by kernel_rfl) (by kernel_rfl) (fun _ _ _ h => h) (Or.inl ⟨by first | rfl | kernel_rfl, ?hy28⟩) (by assumption) ?rs28; (case hy28 => (intro w hSw; (try dsimp only at hSw); go_simp; first | done | with_reducible rfl)); case' rs28 => (simp only [List.getElem_toArray, List.getElem_cons_zero, List.getElem_cons_succ, Act.put, List.setIfInBounds_toArray, List.set_cons_zero, List.set_cons_succ])); skip
            have X := Lib.hid (qd_set D Gn Hn hne G H hq hr)
            have D10 := below_set2 D Gn (.bool bq) (.slice Aq nq cq)
            have D11 := below_set2 D10 Hn (.bool br') (.slice Ar nr cr)
            have H1 := H.far2 (hne).symm (.bool bq) (.slice Aq nq cq)
            have g0 := G.at_ 0 rfl; have g1 := G.at_ 1 rfl; have f0 := G.frozen 0; have f1 := G.frozen 1; have h0 := H1.at_ 0 rfl; have h1 := H1.at_ 1 rfl; have f2 := H1.frozen 0; have f3 := H1.frozen 1
            have D10 := Lib.hid D10; have D11 := Lib.hid D11
            clear G H H1 D hq hr hp
            (refine wpAnyL_one (i := 11) (o := _) (by kernel_rfl) rfl (fun K hK => ?_); clear hHeld; simp only [List.getElem_toArray, List.getElem_cons_zero, List.getElem_cons_succ]; go_simp; refine hK.out _ _ ?_ (fun hHeld => ?_); focus (intro _; exact KQ.out _ D10.out)); have hHeld := hHeld (by decide); clear hK K; (try simp only [Act.put, List.setIfInBounds_toArray, List.set_cons_zero, List.set_cons_succ])
            (refine wpAnyL_one (i := 12) (o := _) (by kernel_rfl) rfl (fun K hK => ?_); clear hHeld; simp only [List.getElem_toArray, List.getElem_cons_zero, List.getElem_cons_succ]; go_simp; refine hK.out _ _ ?_ (fun hHeld => ?_); focus (intro _; exact KQ.out _ D11.out)); have hHeld := hHeld (by decide); clear hK K; (try simp only [Act.put, List.setIfInBounds_toArray, List.set_cons_zero, List.set_cons_succ])
            refine wpAnyL_done (by kernel_rfl) ?_ _
            go_wp2
            go_meet
            exact X.out
    · as_aux_lemma =>
        (clear hHeld; simp only [List.getElem_toArray, List.getElem_cons_zero, List.getElem_cons_succ]; go_simp; refine hK.out _ _ ?_ (fun hHeld => ?_); focus (intro _; exact KQ.out _ (D.alloc D.size _))); have hHeld := hHeld (by decide); clear hK K; (try simp only [Act.put, List.setIfInBounds_toArray, List.set_cons_zero, List.set_cons_succ])
        have H' := Blk.drew (Blk.new W1 34 #[.bool false, .slice none 0 0])
        have Hn : we.heap.size ≤ W1.heap.size := D.size
        have D1 : Below we.heap.size we ((W1.alloc (.cells #[.bool false, .slice none 0 0] 34)).drew) := (D.alloc D.size (.cells #[.bool false, .slice none 0 0] 34))
        clear D
        have D := D1
        clear D1
        obtain ⟨w9, hw9⟩ : ∃ w9, (W1.alloc (.cells #[.bool false, .slice none 0 0] 34)).drew = w9 := ⟨_, rfl⟩
        obtain ⟨Hg, hHg⟩ : ∃ Hg, W1.heap.size = Hg := ⟨_, rfl⟩
        rw [hw9] at H' D hHeld ⊢
        rw [hHg] at H' Hn ⊢
        have H := H'
        clear H' hw9 hHg
        refine wpAnyL_two (i := 4) (j := 9) (oi := _) (oj := _) (by kernel_rfl) rfl rfl (fun K hK => ?_) (fun K hK => ?_)
        · as_aux_lemma =>
            (clear hHeld; simp only [List.getElem_toArray, List.getElem_cons_zero, List.getElem_cons_succ]; go_simp; (go_at_call 48; (with_reducible refine (HP.out _).mono ?_); rintro e w3 ⟨_, rfl, ⟨b1, A1, n1, c1, rfl, hp0⟩, hb⟩; have hp := hp0.zl; have D := D.trans (hb.mono D.size); have H := H.below hb H.lt); refine hK.out _ _ ?_ (fun hHeld => ?_); focus (intro _; exact KQ.out _ D)); have hHeld := hHeld (by decide); clear hK K; (try simp only [Act.put, List.setIfInBounds_toArray, List.set_cons_zero, List.set_cons_succ])
            refine wpAnyL_two (i := 5) (j := 9) (oi := _) (oj := _) (by kernel_rfl) rfl rfl (fun K hK => ?_) (fun K hK => ?_)
            · as_aux_lemma =>
                (clear hHeld; simp only [List.getElem_toArray, List.getElem_cons_zero, List.getElem_cons_succ]; go_simp; (go_at_call 52; (with_reducible refine (DZ.out _ _ _ (VQ.out _ D) hp.v).mono ?_); rintro e w4 ⟨_, _, rfl, ⟨bq, Aq, nq, cq, rfl, hq⟩, ⟨br', Ar, nr, cr, rfl, hr⟩, hb⟩; have D := D.trans (hb.mono D.size); have H := H.below hb H.lt); refine hK.out _ _ ?_ (fun hHeld => ?_); focus (intro _; exact KQ.out _ D)); have hHeld := hHeld (by decide); clear hK K; (try simp only [Act.put, List.setIfInBounds_toArray, List.set_cons_zero, List.set_cons_succ])
                (refine wpAnyL_take (i := 6) (oi := _) (v := ?_) rfl (by kernel_rfl) (by kernel_rfl) (by kernel_rfl) (fun _ _ _ h => h) (Or.inl ⟨by first | rfl | kernel_rfl, ?hy29⟩) (by assumption) ?rs29; (case hy29 => (intro w hSw; (try dsimp only at hSw); go_simp; first | done | with_reducible rfl)); case' rs29 => (simp only [List.getElem_toArray, List.getElem_cons_zero, List.getElem_cons_succ, Act.put, List.setIfInBounds_toArray, List.set_cons_zero, List.set_cons_succ])); (refine wpAnyL_take (i := 7) (oi := _) (v := ?_) rfl (by kernel_rfl) (by kernel_rfl) (by kernel_rfl) (fun _ _ _ h => h) (Or.inl ⟨by first | rfl | kernel_rfl, ?hy30⟩) (by assumption) ?rs30; (case hy30 => (intro w hSw; (try dsimp only at hSw); go_simp; first | done | with_reducible rfl)); case' rs30 => (simp only [List.getElem_toArray, List.getElem_cons_zero, List.getElem_cons_succ, Act.put, List.setIfInBounds_toArray, List.set_cons_zero, List.set_cons_succ])); (refine wpAnyL_take (i := 8) (oi := _) (v := ?_) rfl (by kernel_rfl) (by kernel_rfl) (by kernel_rfl) (fun _ _ _ h => h) (Or.inl ⟨by first | rfl | kernel_rfl, ?hy31⟩) (by assumption) ?rs31; (case hy31 => (intro w hSw; (try dsimp only at hSw); go_simp; first | done | with_reducible rfl)); case' rs31 => (simp only [List.getElem_toArray, List.getElem_cons_zero, List.getElem_cons_succ, Act.put, List.setIfInBounds_toArray, List.set_cons_zero, List.set_cons_succ])); skip
                (refine wpAnyL_one (i := 9) (o := _) (by kernel_rfl) rfl (fun K hK => ?_); clear hHeld; simp only [List.getElem_toArray, List.getElem_cons_zero, List.getElem_cons_succ]; go_simp; refine hK.out _ _ ?_ (fun hHeld => ?_); focus (intro _; exact KQ.out _ (D.alloc D.size _))); have hHeld := hHeld (by decide); clear hK K; (try simp only [Act.put, List.setIfInBounds_toArray, List.set_cons_zero, List.set_cons_succ])
                have G' := Blk.new w4 34 #[.bool false, .slice none 0 0]
                have Gn : we.heap.size ≤ w4.heap.size := D.size
                have hne : Hg ≠ w4.heap.size := Nat.ne_of_lt H.lt
                have H := H.alloc (.cells #[.bool false, .slice none 0 0] 34)
                have hq := (hq.alloc (.cells #[.bool false, .slice none 0 0] 34))
                have hr := (hr.alloc (.cells #[.bool false, .slice none 0 0] 34))
                have D1 : Below we.heap.size we (w4.alloc (.cells #[.bool false, .slice none 0 0] 34)) := D.alloc D.size (.cells #[.bool false, .slice none 0 0] 34)
                clear D
                have D := D1
                clear D1
                obtain ⟨w8, hw8⟩ : ∃ w8, w4.alloc (.cells #[.bool false, .slice none 0 0] 34) = w8 := ⟨_, rfl⟩
                obtain ⟨Gg, hGg⟩ : ∃ Gg, w4.heap.size = Gg := ⟨_, rfl⟩
                rw [hw8] at G' D H hq hr hHeld ⊢
                rw [hGg] at G' Gn hne ⊢
                have G := G'
                clear G' hw8 hGg
                have X := Lib.hid (qd_set D Gn Hn hne.symm G H hq hr)
                have D10 := below_set2 D Gn (.bool bq) (.slice Aq nq cq)
                have D11 := below_set2 D10 Hn (.bool br') (.slice Ar nr cr)
                have H1 := H.far2 (hne.symm).symm (.bool bq) (.slice Aq nq cq)
                have g0 := G.at_ 0 rfl; have g1 := G.at_ 1 rfl; have f0 := G.frozen 0; have f1 := G.frozen 1; have h0 := H1.at_ 0 rfl; have h1 := H1.at_ 1 rfl; have f2 := H1.frozen 0; have f3 := H1.frozen 1
                have D10 := Lib.hid D10; have D11 := Lib.hid D11
                clear G H H1 D hq hr hp
                (refine wpAnyL_one (i := 11) (o := _) (by kernel_rfl) rfl (fun K hK => ?_); clear hHeld; simp only [List.getElem_toArray, List.getElem_cons_zero, List.getElem_cons_succ]; go_simp; refine hK.out _ _ ?_ (fun hHeld => ?_); focus (intro _; exact KQ.out _ D10.out)); have hHeld := hHeld (by decide); clear hK K; (try simp only [Act.put, List.setIfInBounds_toArray, List.set_cons_zero, List.set_cons_succ])
                (refine wpAnyL_one (i := 12) (o := _) (by kernel_rfl) rfl (fun K hK => ?_); clear hHeld; simp only [List.getElem_toArray, List.getElem_cons_zero, List.getElem_cons_succ]; go_simp; refine hK.out _ _ ?_ (fun hHeld => ?_); focus (intro _; exact KQ.out _ D11.out)); have hHeld := hHeld (by decide); clear hK K; (try simp only [Act.put, List.setIfInBounds_toArray, List.set_cons_zero, List.set_cons_succ])
                refine wpAnyL_done (by kernel_rfl) ?_ _
                go_wp2
                go_meet
                exact X.out
            · as_aux_lemma =>
                (clear hHeld; simp only [List.getElem_toArray, List.getElem_cons_zero, List.getElem_cons_succ]; go_simp; refine hK.out _ _ ?_ (fun hHeld => ?_); focus (intro _; exact KQ.out _ (D.alloc D.size _))); have hHeld := hHeld (by decide); clear hK K; (try simp only [Act.put, List.setIfInBounds_toArray, List.set_cons_zero, List.set_cons_succ])
                have G' := Blk.new w3 34 #[.bool false, .slice none 0 0]
                have Gn : we.heap.size ≤ w3.heap.size := D.size
                have hne : Hg ≠ w3.heap.size := Nat.ne_of_lt H.lt
                have H := H.alloc (.cells #[.bool false, .slice none 0 0] 34)
                have hp := (hp.alloc (.cells #[.bool false, .slice none 0 0] 34))
                have D1 : Below we.heap.size we (w3.alloc (.cells #[.bool false, .slice none 0 0] 34)) := D.alloc D.size (.cells #[.bool false, .slice none 0 0] 34)
                clear D
                have D := D1
                clear D1
                obtain ⟨w8, hw8⟩ : ∃ w8, w3.alloc (.cells #[.bool false, .slice none 0 0] 34) = w8 := ⟨_, rfl⟩
                obtain ⟨Gg, hGg⟩ : ∃ Gg, w3.heap.size = Gg := ⟨_, rfl⟩
                rw [hw8] at G' D H hp hHeld ⊢
                rw [hGg] at G' Gn hne ⊢
                have G := G'
                clear G' hw8 hGg
                (refine wpAnyL_one (i := 5) (o := _) (by kernel_rfl) rfl (fun K hK => ?_); clear hHeld; simp only [List.getElem_toArray, List.getElem_cons_zero, List.getElem_cons_succ]; go_simp; (go_at_call 52; (with_reducible refine (DZ.out _ _ _ (VQ.out _ D) hp.v).mono ?_); rintro e w4 ⟨_, _, rfl, ⟨bq, Aq, nq, cq, rfl, hq⟩, ⟨br', Ar, nr, cr, rfl, hr⟩, hb⟩; have D := D.trans (hb.mono D.size); have G := G.below hb G.lt; have H := H.below hb H.lt); refine hK.out _ _ ?_ (fun hHeld => ?_); focus (intro _; exact KQ.out _ D)); have hHeld := hHeld (by decide); clear hK K; (try simp only [Act.put, List.setIfInBounds_toArray, List.set_cons_zero, List.set_cons_succ])
                (refine wpAnyL_take (i := 6) (oi := _) (v := ?_) rfl (by kernel_rfl) (by kernel_rfl) (by kernel_rfl) (fun _ _ _ h => h) (Or.inl ⟨by first | rfl | kernel_rfl, ?hy32⟩) (by assumption) ?rs32; (case hy32 => (intro w hSw; (try dsimp only at hSw); go_simp; first | done | with_reducible rfl)); case' rs32 => (simp only [List.getElem_toArray, List.getElem_cons_zero, List.getElem_cons_succ, Act.put, List.setIfInBounds_toArray, List.set_cons_zero, List.set_cons_succ])); (refine wpAnyL_take (i := 7) (oi := _) (v := ?_) rfl (by kernel_rfl) (by kernel_rfl) (by kernel_rfl) (fun _ _ _ h => h) (Or.inl ⟨by first | rfl | kernel_rfl, ?hy33⟩) (by assumption) ?rs33; (case hy33 => (intro w hSw; (try dsimp only at hSw); go_simp; first | done | with_reducible rfl)); case' rs33 => (simp only [List.getElem_toArray, List.getElem_cons_zero, List.getElem_cons_succ, Act.put, List.setIfInBounds_toArray, List.set_cons_zero, List.set_cons_succ])); (refine wpAnyL_take (i := 8) (oi := _) (v := ?_) rfl (by kernel_rfl) (by kernel_rfl) (by kernel_rfl) (fun _ _ _ h => h) (Or.inl ⟨by first | rfl | kernel_rfl, ?hy34⟩) (by assumption) ?rs34; (case hy34 => (intro w hSw; (try dsimp only at hSw); go_simp; first | done | with_reducible rfl)); case' rs34 => (simp only [List.getElem_toArray, List.getElem_cons_zero, List.getElem_cons_succ, Act.put, List.setIfInBounds_toArray, List.set_cons_zero, List.set_cons_succ])); skip
                have X := Lib.hid (qd_set D Gn Hn hne.symm G H hq hr)
                have D10 := below_set2 D Gn (.bool bq) (.slice Aq nq cq)
                have D11 := below_set2 D10 Hn (.bool br') (.slice Ar nr cr)
                have H1 := H.far2 (hne.symm).symm (.bool bq) (.slice Aq nq cq)
                have g0 := G.at_ 0 rfl; have g1 := G.at_ 1 rfl; have f0 := G.frozen 0; have f1 := G.frozen 1; have h0 := H1.at_ 0 rfl; have h1 := H1.at_ 1 rfl; have f2 := H1.frozen 0; have f3 := H1.frozen 1
                have D10 := Lib.hid D10; have D11 := Lib.hid D11
                clear G H H1 D hq hr hp
                (refine wpAnyL_one (i := 11) (o := _) (by kernel_rfl) rfl (fun K hK => ?_); clear hHeld; simp only [List.getElem_toArray, List.getElem_cons_zero, List.getElem_cons_succ]; go_simp; refine hK.out _ _ ?_ (fun hHeld => ?_); focus (intro _; exact KQ.out _ D10.out)); have hHeld := hHeld (by decide); clear hK K; (try simp only [Act.put, List.setIfInBounds_toArray, List.set_cons_zero, List.set_cons_succ])
                (refine wpAnyL_one (i := 12) (o := _) (by kernel_rfl) rfl (fun K hK => ?_); clear hHeld; simp only [List.getElem_toArray, List.getElem_cons_zero, List.getElem_cons_succ]; go_simp; refine hK.out _ _ ?_ (fun hHeld => ?_); focus (intro _; exact KQ.out _ D11.out)); have hHeld := hHeld (by decide); clear hK K; (try simp only [Act.put, List.setIfInBounds_toArray, List.set_cons_zero, List.set_cons_succ])
                refine wpAnyL_done (by kernel_rfl) ?_ _
                go_wp2
                go_meet
                exact X.out
        · as_aux_lemma =>
            (clear hHeld; simp only [List.getElem_toArray, List.getElem_cons_zero, List.getElem_cons_succ]; go_simp; refine hK.out _ _ ?_ (fun hHeld => ?_); focus (intro _; exact KQ.out _ (D.alloc D.size _))); have hHeld := hHeld (by decide); clear hK K; (try simp only [Act.put, List.setIfInBounds_toArray, List.set_cons_zero, List.set_cons_succ])
            have G' := Blk.new w9 34 #[.bool false, .slice none 0 0]
            have Gn : we.heap.size ≤ w9.heap.size := D.size
            have hne : Hg ≠ w9.heap.size := Nat.ne_of_lt H.lt
            have H := H.alloc (.cells #[.bool false, .slice none 0 0] 34)
            have D1 : Below we.heap.size we (w9.alloc (.cells #[.bool false, .slice none 0 0] 34)) := D.alloc D.size (.cells #[.bool false, .slice none 0 0] 34)
            clear D
            have D := D1
            clear D1
            obtain ⟨w8, hw8⟩ : ∃ w8, w9.alloc (.cells #[.bool false, .slice none 0 0] 34) = w8 := ⟨_, rfl⟩
            obtain ⟨Gg, hGg⟩ : ∃ Gg, w9.heap.size = Gg := ⟨_, rfl⟩
            rw [hw8] at G' D H hHeld ⊢
            rw [hGg] at G' Gn hne ⊢
            have G := G'
            clear G' hw8 hGg
            (refine wpAnyL_one (i := 4) (o := _) (by kernel_rfl) rfl (fun K hK => ?_); clear hHeld; simp only [List.getElem_toArray, List.getElem_cons_zero, List.getElem_cons_succ]; go_simp; (go_at_call 48; (with_reducible refine (HP.out _).mono ?_); rintro e w3 ⟨_, rfl, ⟨b1, A1, n1, c1, rfl, hp0⟩, hb⟩; have hp := hp0.zl; have D := D.trans (hb.mono D.size); have G := G.below hb G.lt; have H := H.below hb H.lt); refine hK.out _ _ ?_ (fun hHeld => ?_); focus (intro _; exact KQ.out _ D)); have hHeld := hHeld (by decide); clear hK K; (try simp only [Act.put, List.setIfInBounds_toArray, List.set_cons_zero, List.set_cons_succ])
            (refine wpAnyL_one (i := 5) (o := _) (by kernel_rfl) rfl (fun K hK => ?_); clear hHeld; simp only [List.getElem_toArray, List.getElem_cons_zero, List.getElem_cons_succ]; go_simp; (go_at_call 52; (with_reducible refine (DZ.out _ _ _ (VQ.out _ D) hp.v).mono ?_); rintro e w4 ⟨_, _, rfl, ⟨bq, Aq, nq, cq, rfl, hq⟩, ⟨br', Ar, nr, cr, rfl, hr⟩, hb⟩; have D := D.trans (hb.mono D.size); have G := G.below hb G.lt; have H := H.below hb H.lt); refine hK.out _ _ ?_ (fun hHeld => ?_); focus (intro _; exact KQ.out _ D)); have hHeld := hHeld (by decide); clear hK K; (try simp only [Act.put, List.setIfInBounds_toArray, List.set_cons_zero, List.set_cons_succ])
            (refine wpAnyL_take (i := 6) (oi := _) (v := ?_) rfl (by kernel_rfl) (by kernel_rfl) (by kernel_rfl) (fun _ _ _ h => h) (Or.inl ⟨by first | rfl | kernel_rfl, ?hy35⟩) (by assumption) ?rs35; (case hy35 => (intro w hSw; (try dsimp only at hSw); go_simp; first | done | with_reducible rfl)); case' rs35 => (simp only [List.getElem_toArray, List.getElem_cons_zero, List.getElem_cons_succ, Act.put, List.setIfInBounds_toArray, List.set_cons_zero, List.set_cons_succ])); (refine wpAnyL_take (i := 7) (oi := _) (v := ?_) rfl (by kernel_rfl) (by kernel_rfl) (by kernel_rfl) (fun _ _ _ h => h) (Or.inl ⟨by first | rfl | kernel_rfl, ?hy36⟩) (by assumption) ?rs36; (case hy36 => (intro w hSw; (try dsimp only at hSw); go_simp; first | done | with_reducible rfl)); case' rs36 => (simp only [List.getElem_toArray, List.getElem_cons_zero, List.getElem_cons_succ, Act.put, List.setIfInBounds_toArray, List.set_cons_zero, List.set_cons_succ])); (refine wpAnyL_take (i := 8) (oi := _) (v := ?_) rfl (by kernel_rfl) (by kernel_rfl) (by kernel_rfl) (fun _ _ _ h => h) (Or.inl ⟨by first | rfl | kernel_rfl, ?hy37⟩) (by assumption) ?rs37; (case hy37 => (intro w hSw; (try dsimp only at hSw); go_simp; first | done | with_reducible rfl)); case' rs37 => (simp only [List.getElem_toArray, List.getElem_cons_zero, List.getElem_cons_succ, Act.put, List.setIfInBounds_toArray, List.set_cons_zero, List.set_cons_succ])); skip
            have X := Lib.hid (qd_set D Gn Hn hne.symm G H hq hr)
            have D10 := below_set2 D Gn (.bool bq) (.slice Aq nq cq)
            have D11 := below_set2 D10 Hn (.bool br') (.slice Ar nr cr)
            have H1 := H.far2 (hne.symm).symm (.bool bq) (.slice Aq nq cq)
            have g0 := G.at_ 0 rfl; have g1 := G.at_ 1 rfl; have f0 := G.frozen 0; have f1 := G.frozen 1; have h0 := H1.at_ 0 rfl; have h1 := H1.at_ 1 rfl; have f2 := H1.frozen 0; have f3 := H1.frozen 1
            have D10 := Lib.hid D10; have D11 := Lib.hid D11
            clear G H H1 D hq hr hp
            (refine wpAnyL_one (i := 11) (o := _) (by kernel_rfl) rfl (fun K hK => ?_); clear hHeld; simp only [List.getElem_toArray, List.getElem_cons_zero, List.getElem_cons_succ]; go_simp; refine hK.out _ _ ?_ (fun hHeld => ?_); focus (intro _; exact KQ.out _ D10.out)); have hHeld := hHeld (by decide); clear hK K; (try simp only [Act.put, List.setIfInBounds_toArray, List.set_cons_zero, List.set_cons_succ])
            (refine wpAnyL_one (i := 12) (o := _) (by kernel_rfl) rfl (fun K hK => ?_); clear hHeld; simp only [List.getElem_toArray, List.getElem_cons_zero, List.getElem_cons_succ]; go_simp; refine hK.out _ _ ?_ (fun hHeld => ?_); focus (intro _; exact KQ.out _ D11.out)); have hHeld := hHeld (by decide); clear hK K; (try simp only [Act.put, List.setIfInBounds_toArray, List.set_cons_zero, List.set_cons_succ])
            refine wpAnyL_done (by kernel_rfl) ?_ _
            go_wp2
            go_meet
            exact X.out
  case rest =>
    obtain ⟨g, h, bq, Aq, nq, cq, br, Ar, nr', cr, rfl, rfl, hg, hh, hne, G, H, hq, hr, DC⟩ := hcut
    clear D
    obtain ⟨wd, hwd⟩ : ∃ wd, wd = wc := ⟨_, rfl⟩
    have KB2 : Hid (∀ W, Below wd.heap.size wd W → ((W.cell? ⟨g, 0, none⟩ = some (.bool bq) ∧ W.cell? ⟨g, 1, none⟩ = some (.slice Aq nq cq)) ∧ (W.cell? ⟨h, 0, none⟩ = some (.bool br) ∧ W.cell? ⟨h, 1, none⟩ = some (.slice Ar nr' cr)) ∧ W.cell? ⟨g8, 2, none⟩ = some (.int .i64 t1)) ∧ Below we.heap.size we W) := fun W hb => by
      rw [hwd] at hb
      have h1 := DC.trans (hb.mono DC.size)
      have h2 := G.below hb G.lt
      have h3 := H.below hb H.lt
      exact ⟨⟨⟨h2.at_ 0 rfl, h2.at_ 1 rfl⟩, ⟨h3.at_ 0 rfl, h3.at_ 1 rfl⟩, (KB1.out W h1).1.2.2⟩, h1⟩
    have VL : Hid (∀ W, Below wd.heap.size wd W → ZV W (.agg #[.bool bq, .slice Aq nq cq]) lw) := fun W hb => by
      rw [hwd] at hb
      exact (hq.below hb).v
    have VF : Hid (∀ W, Below wd.heap.size wd W → ZV W (.agg #[.bool br, .slice Ar nr' cr]) lf) := fun W hb => by
      rw [hwd] at hb
      exact (hr.below hb).v
    have FG : Hid (∀ W, Below wd.heap.size wd W → Blk W g 34 #[.bool bq, .slice Aq nq cq]) := fun W hb => by
      rw [hwd] at hb
      exact G.below hb G.lt
    have D : Hid (Below wd.heap.size wd wc) := by rw [hwd]; exact Below.refl _ _
    have DC0 := Lib.hid DC
    clear hwd G H hq hr DC
    obtain ⟨⟨⟨c0, c1'⟩, ⟨c2, c3⟩, c4⟩, D3⟩ := KB2.out _ D.out
    obtain ⟨⟨e0, e1, e2⟩, ⟨q0, q1, q2⟩, R0, -⟩ := KB1.out _ D3
    have HgE := Lib.hid hg
    clear hg hh D3
    rcases hsg with ⟨hl, hs0⟩ | ⟨hl, hs0⟩
    · rw [hs0] at SG
      have r0 := R0.at_ 0 rfl; have r1 := R0.at_ 1 rfl; have r2 := R0.at_ 2 rfl; have f0 := R0.frozen 0; have f1 := R0.frozen 1; have f2 := R0.frozen 2
      have HL := Lib.hid hl
      clear hl hs0 R0 VL PW DZ0 AD CM N2 N1 DZ2 SO AD1 QM0 QM1 hU hnr3 hod2 FG
      go_wp2_with (first
        | (go_at_call 83; (with_reducible refine (SG.out _ _ (VF.out _ D.out)).mono ?_); rintro e w5 ⟨rfl, hb5⟩; have D := Lib.hid (D.out.trans (hb5.mono D.out.size)); obtain ⟨⟨⟨c0, c1'⟩, ⟨c2, c3⟩, c4⟩, D3⟩ := KB2.out _ D.out; obtain ⟨⟨e0, e1, e2⟩, ⟨q0, q1, q2⟩, R0, D4⟩ := KB1.out _ D3; have r0 := R0.at_ 0 rfl; have r1 := R0.at_ 1 rfl; have r2 := R0.at_ 2 rfl; have f0 := R0.frozen 0; have f1 := R0.frozen 1; have f2 := R0.frozen 2; have D4 := Lib.hid D4; clear D3 R0 hb5))
      refine bodyPost_ret (v := .tuple #[.agg #[.bool b, .slice A n c, .int .i64 t], .bool false]) (by simp [results, Tryd.results50, go_sem, r0, r1, r2]) rfl ?_
      exact ⟨fun _ => ⟨rfl, below3q D4.out (by omega) _ _ _⟩, fun h => absurd HL.out h⟩
    · rw [hs0] at SG
      have HL := Lib.hid hl
      clear hl hs0 R0 e1 e2 q0 q1 q2
      go_upto_region 6 with (first
        | (go_at_call 83; (with_reducible refine (SG.out _ _ (VF.out _ D.out)).mono ?_); rintro e w5 ⟨rfl, hb5⟩; have D := Lib.hid (D.out.trans (hb5.mono D.out.size)); obtain ⟨⟨⟨c0, c1'⟩, ⟨c2, c3⟩, c4⟩, D3⟩ := KB2.out _ D.out; obtain ⟨⟨e0, e1, e2⟩, -⟩ := KB1.out _ D3; clear D3 hb5))
      have D := Lib.hid D.out.drew
      clear c0 c1' c2 c3 c4 e0 e1 e2 SG
      (refine wp_region_L (S := fun w' => (w'.cell? ⟨g, 0, none⟩ = some (.bool bq) ∧ w'.cell? ⟨g, 1, none⟩ = some (.slice Aq nq cq)) ∧ (w'.cell? ⟨h, 0, none⟩ = some (.bool br) ∧ w'.cell? ⟨h, 1, none⟩ = some (.slice Ar nr' cr)) ∧ w'.cell? ⟨g8, 2, none⟩ = some (.int .i64 t1)) (nl := 1000000) (by kernel_rfl) ?_ (fun hHeld => ?_); focus (exact (KB2.out _ D.out).1))
      (refine wpAnyL_take (i := 0) (oi := _) (v := ?_) rfl (by kernel_rfl) (by kernel_rfl) (by kernel_rfl) (fun _ _ _ h => h) (Or.inl ⟨by first | rfl | kernel_rfl, ?hy38⟩) (by assumption) ?rs38; (case hy38 => (intro w hSw; (try dsimp only at hSw); go_simp; first | done | with_reducible rfl)); case' rs38 => (simp only [List.getElem_toArray, List.getElem_cons_zero, List.getElem_cons_succ, Act.put, List.setIfInBounds_toArray, List.set_cons_zero, List.set_cons_succ])); (refine wpAnyL_take (i := 1) (oi := _) (v := ?_) rfl (by kernel_rfl) (by kernel_rfl) (by kernel_rfl) (fun _ _ _ h => h) (Or.inl ⟨by first | rfl | kernel_rfl, ?hy39⟩) (by assumption) ?rs39; (case hy39 => (intro w hSw; (try dsimp only at hSw); go_simp; first | done | with_reducible rfl)); case' rs39 => (simp only [List.getElem_toArray, List.getElem_cons_zero, List.getElem_cons_succ, Act.put, List.setIfInBounds_toArray, List.set_cons_zero, List.set_cons_succ])); (refine wpAnyL_take (i := 3) (oi := _) (v := ?_) rfl (by kernel_rfl) (by kernel_rfl) (by kernel_rfl) (fun _ _ _ h => h) (Or.inl ⟨by first | rfl | kernel_rfl, ?hy40⟩) (by assumption) ?rs40; (case hy40 => (intro w hSw; (try dsimp only at hSw); go_simp; first | done | with_reducible rfl)); case' rs40 => (simp only [List.getElem_toArray, List.getElem_cons_zero, List.getElem_cons_succ, Act.put, List.setIfInBounds_toArray, List.set_cons_zero, List.set_cons_succ])); (refine wpAnyL_take (i := 4) (oi := _) (v := ?_) rfl (by kernel_rfl) (by kernel_rfl) (by kernel_rfl) (fun _ _ _ h => h) (Or.inl ⟨by first | rfl | kernel_rfl, ?hy41⟩) (by assumption) ?rs41; (case hy41 => (intro w hSw; (try dsimp only at hSw); go_simp; first | done | with_reducible rfl)); case' rs41 => (simp only [List.getElem_toArray, List.getElem_cons_zero, List.getElem_cons_succ, Act.put, List.setIfInBounds_toArray, List.set_cons_zero, List.set_cons_succ])); skip
      (refine wpAnyL_one (i := 2) (o := _) (by kernel_rfl) rfl (fun K hK => ?_); clear hHeld; simp only [List.getElem_toArray, List.getElem_cons_zero, List.getElem_cons_succ]; go_simp; (go_at_call 80; (with_reducible refine (AD.out _ _ (VF.out _ D.out)).mono ?_); rintro e w6 ⟨_, rfl, ⟨b6, A6, n6, c6, rfl, h6⟩, hb6⟩; have h6 := Lib.hid h6.v; have D := Lib.hid (D.out.trans (hb6.mono D.out.size)); clear hb6); refine hK.out _ _ ?_ (fun hHeld => ?_); focus (intro _; exact (KB2.out _ D.out).1)); have hHeld := hHeld (by decide); clear hK K; (try simp only [Act.put, List.setIfInBounds_toArray, List.set_cons_zero, List.set_cons_succ])
      (refine wpAnyL_one (i := 5) (o := _) (by kernel_rfl) rfl (fun K hK => ?_); clear hHeld; simp only [List.getElem_toArray, List.getElem_cons_zero, List.getElem_cons_succ]; go_simp; (go_at_call 48; (with_reducible refine (PW.out _).mono ?_); rintro e w7 ⟨_, rfl, ⟨b7, A7, n7, c7, rfl, h7⟩, hb7⟩; have h6 := Lib.hid (zv_below h6.out hb7); have h7 := Lib.hid h7.v; have D := Lib.hid (D.out.trans (hb7.mono D.out.size)); clear hb7); refine hK.out _ _ ?_ (fun hHeld => ?_); focus (intro _; exact (KB2.out _ D.out).1)); have hHeld := hHeld (by decide); clear hK K; (try simp only [Act.put, List.setIfInBounds_toArray, List.set_cons_zero, List.set_cons_succ])
      (refine wpAnyL_one (i := 6) (o := _) (by kernel_rfl) rfl (fun K hK => ?_); clear hHeld; simp only [List.getElem_toArray, List.getElem_cons_zero, List.getElem_cons_succ]; go_simp; (go_at_call 25; (with_reducible refine (CM.out _ _ _ h6.out h7.out).mono ?_); rintro e wk ⟨rfl, hb8⟩; have D := Lib.hid (D.out.trans (hb8.mono D.out.size)); clear hb8 h6 h7); refine hK.out _ _ ?_ (fun hHeld => ?_); focus (intro _; exact (KB2.out _ D.out).1)); have hHeld := hHeld (by decide); clear hK K; (try simp only [Act.put, List.setIfInBounds_toArray, List.set_cons_zero, List.set_cons_succ])
      (refine wpAnyL_take (i := 7) (oi := _) (v := ?_) rfl (by kernel_rfl) (by kernel_rfl) (by kernel_rfl) (fun _ _ _ h => h) (Or.inl ⟨by first | rfl | kernel_rfl, ?hy42⟩) (by assumption) ?rs42; (case hy42 => (intro w hSw; (try dsimp only at hSw); go_simp; first | done | with_reducible rfl)); case' rs42 => (simp only [List.getElem_toArray, List.getElem_cons_zero, List.getElem_cons_succ, Act.put, List.setIfInBounds_toArray, List.set_cons_zero, List.set_cons_succ])); skip
      refine wpAnyL_done (by kernel_rfl) ?_ _
      go_upto_region 7 with fail
      obtain ⟨wf, hwf⟩ : ∃ wf, wf = wk := ⟨_, rfl⟩
      have KB3 : Hid (∀ W, Below wf.heap.size wf W → Below wd.heap.size wd W) := fun W hb => by
        rw [hwf] at hb
        exact D.out.trans (hb.mono D.out.size)
      have HGf : Hid (g < wf.heap.size) := by rw [hwf]; exact ((FG.out _ D.out).lt)
      have D5 : Below wf.heap.size wf wk := by rw [hwf]; exact Below.refl _ _
      clear hwf D AD PW CM
      go_cut [13, 14] (fun s13 s14 wx => QD wf wx s13 s14 (lw / 2) od)
      case first =>
        have KQ : Hid (∀ W, Below wf.heap.size wf W → W.cell? ⟨g, 0, none⟩ = some (.bool bq) ∧ W.cell? ⟨g, 1, none⟩ = some (.slice Aq nq cq)) := fun W h => (KB2.out W (KB3.out W h)).1.1
        have HP := N2
        have DZ := DZ2
        have VQ : Hid (∀ W, Below wf.heap.size wf W → ZV W (.agg #[.bool bq, .slice Aq nq cq]) lw) := fun W h => VL.out W (KB3.out W h)
        clear KB1 KB2 KB3 VQ1 VL VF DZ0 N2 N1 DZ2 SO AD1 QM0 QM1 hU hnr3 hod2 FG
        have D := D5.drew
        (refine wp_region_L (S := fun w' => w'.cell? ⟨g, 0, none⟩ = some (.bool bq) ∧ w'.cell? ⟨g, 1, none⟩ = some (.slice Aq nq cq)) (nl := 1000000) (by kernel_rfl) ?_ (fun hHeld => ?_); focus (exact KQ.out _ D))
        (refine wpAnyL_take (i := 0) (oi := _) (v := ?_) rfl (by kernel_rfl) (by kernel_rfl) (by kernel_rfl) (fun _ _ _ h => h) (Or.inl ⟨by first | rfl | kernel_rfl, ?hy43⟩) (by assumption) ?rs43; (case hy43 => (intro w hSw; (try dsimp only at hSw); go_simp; first | done | with_reducible rfl)); case' rs43 => (simp only [List.getElem_toArray, List.getElem_cons_zero, List.getElem_cons_succ, Act.put, List.setIfInBounds_toArray, List.set_cons_zero, List.set_cons_succ])); skip
        refine wpAnyL_three (i := 1) (j := 6) (k := 7) (oi := _) (oj := _) (ok := _) (by kernel_rfl) rfl rfl rfl (fun K hK => ?_) (fun K hK => ?_) (fun K hK => ?_)
        · as_aux_lemma =>
            (clear hHeld; simp only [List.getElem_toArray, List.getElem_cons_zero, List.getElem_cons_succ]; go_simp; (go_at_call 26; (with_reducible refine (HP.out _).mono ?_); rintro e w3 ⟨_, rfl, ⟨b1, A1, n1, c1, rfl, hp0⟩, hb⟩; have hp := hp0.zl; have D := D.trans (hb.mono D.size)); refine hK.out _ _ ?_ (fun hHeld => ?_); focus (intro _; exact KQ.out _ D)); have hHeld := hHeld (by decide); clear hK K; (try simp only [Act.put, List.setIfInBounds_toArray, List.set_cons_zero, List.set_cons_succ])
            refine wpAnyL_three (i := 2) (j := 6) (k := 7) (oi := _) (oj := _) (ok := _) (by kernel_rfl) rfl rfl rfl (fun K hK => ?_) (fun K hK => ?_) (fun K hK => ?_)
            · as_aux_lemma =>
                (clear hHeld; simp only [List.getElem_toArray, List.getElem_cons_zero, List.getElem_cons_succ]; go_simp; (go_at_call 52; (with_reducible refine (DZ.out _ _ _ (VQ.out _ D) hp.v).mono ?_); rintro e w4 ⟨_, _, rfl, ⟨bq, Aq, nq, cq, rfl, hq⟩, ⟨br', Ar, nr, cr, rfl, hr⟩, hb⟩; have D := D.trans (hb.mono D.size)); refine hK.out _ _ ?_ (fun hHeld => ?_); focus (intro _; exact KQ.out _ D)); have hHeld := hHeld (by decide); clear hK K; (try simp only [Act.put, List.setIfInBounds_toArray, List.set_cons_zero, List.set_cons_succ])
                (refine wpAnyL_take (i := 3) (oi := _) (v := ?_) rfl (by kernel_rfl) (by kernel_rfl) (by kernel_rfl) (fun _ _ _ h => h) (Or.inl ⟨by first | rfl | kernel_rfl, ?hy44⟩) (by assumption) ?rs44; (case hy44 => (intro w hSw; (try dsimp only at hSw); go_simp; first | done | with_reducible rfl)); case' rs44 => (simp only [List.getElem_toArray, List.getElem_cons_zero, List.getElem_cons_succ, Act.put, List.setIfInBounds_toArray, List.set_cons_zero, List.set_cons_succ])); (refine wpAnyL_take (i := 4) (oi := _) (v := ?_) rfl (by kernel_rfl) (by kernel_rfl) (by kernel_rfl) (fun _ _ _ h => h) (Or.inl ⟨by first | rfl | kernel_rfl, ?hy45⟩) (by assumption) ?rs45; (case hy45 => (intro w hSw; (try dsimp only at hSw); go_simp; first | done | with_reducible rfl)); case' rs45 => (simp only [List.getElem_toArray, List.getElem_cons_zero, List.getElem_cons_succ, Act.put, List.setIfInBounds_toArray, List.set_cons_zero, List.set_cons_succ])); (refine wpAnyL_take (i := 5) (oi := _) (v := ?_) rfl (by kernel_rfl) (by kernel_rfl) (by kernel_rfl) (fun _ _ _ h => h) (Or.inl ⟨by first | rfl | kernel_rfl, ?hy46⟩) (by assumption) ?rs46; (case hy46 => (intro w hSw; (try dsimp only at hSw); go_simp; first | done | with_reducible rfl)); case' rs46 => (simp only [List.getElem_toArray, List.getElem_cons_zero, List.getElem_cons_succ, Act.put, List.setIfInBounds_toArray, List.set_cons_zero, List.set_cons_succ])); skip
                refine wpAnyL_two (i := 6) (j := 7) (oi := _) (oj := _) (by kernel_rfl) rfl rfl (fun K hK => ?_) (fun K hK => ?_)
                · as_aux_lemma =>
                    (clear hHeld; simp only [List.getElem_toArray, List.getElem_cons_zero, List.getElem_cons_succ]; go_simp; refine hK.out _ _ ?_ (fun hHeld => ?_); focus (intro _; exact KQ.out _ (D.alloc D.size _))); have hHeld := hHeld (by decide); clear hK K; (try simp only [Act.put, List.setIfInBounds_toArray, List.set_cons_zero, List.set_cons_succ])
                    have G' := Blk.new w4 34 #[.bool false, .slice none 0 0]
                    have Gn : wf.heap.size ≤ w4.heap.size := D.size
                    have hq := (hq.alloc (.cells #[.bool false, .slice none 0 0] 34))
                    have hr := (hr.alloc (.cells #[.bool false, .slice none 0 0] 34))
                    have D1 : Below wf.heap.size wf (w4.alloc (.cells #[.bool false, .slice none 0 0] 34)) := D.alloc D.size (.cells #[.bool false, .slice none 0 0] 34)
                    clear D
                    have D := D1
                    clear D1
                    obtain ⟨w8, hw8⟩ : ∃ w8, w4.alloc (.cells #[.bool false, .slice none 0 0] 34) = w8 := ⟨_, rfl⟩
                    obtain ⟨Gg, hGg⟩ : ∃ Gg, w4.heap.size = Gg := ⟨_, rfl⟩
                    rw [hw8] at G' D hq hr hHeld ⊢
                    rw [hGg] at G' Gn ⊢
                    have G := G'
                    clear G' hw8 hGg
                    (refine wpAnyL_one (i := 7) (o := _) (by kernel_rfl) rfl (fun K hK => ?_); clear hHeld; simp only [List.getElem_toArray, List.getElem_cons_zero, List.getElem_cons_succ]; go_simp; refine hK.out _ _ ?_ (fun hHeld => ?_); focus (intro _; exact KQ.out _ (D.alloc D.size _))); have hHeld := hHeld (by decide); clear hK K; (try simp only [Act.put, List.setIfInBounds_toArray, List.set_cons_zero, List.set_cons_succ])
                    have H' := Blk.new w8 34 #[.bool false, .slice none 0 0]
                    have Hn : wf.heap.size ≤ w8.heap.size := D.size
                    have hne : Gg ≠ w8.heap.size := Nat.ne_of_lt G.lt
                    have G := G.alloc (.cells #[.bool false, .slice none 0 0] 34)
                    have hq := (hq.alloc (.cells #[.bool false, .slice none 0 0] 34))
                    have hr := (hr.alloc (.cells #[.bool false, .slice none 0 0] 34))
                    have D1 : Below wf.heap.size wf (w8.alloc (.cells #[.bool false, .slice none 0 0] 34)) := D.alloc D.size (.cells #[.bool false, .slice none 0 0] 34)
                    clear D
                    have D := D1
                    clear D1
                    obtain ⟨w9, hw9⟩ : ∃ w9, w8.alloc (.cells #[.bool false, .slice none 0 0] 34) = w9 := ⟨_, rfl⟩
                    obtain ⟨Hg, hHg⟩ : ∃ Hg, w8.heap.size = Hg := ⟨_, rfl⟩
                    rw [hw9] at H' D G hq hr hHeld ⊢
                    rw [hHg] at H' Hn hne ⊢
                    have H := H'
                    clear H' hw9 hHg
                    have X := Lib.hid (qd_set D Gn Hn hne G H hq hr)
                    have D10 := below_set2 D Gn (.bool bq) (.slice Aq nq cq)
                    have D11 := below_set2 D10 Hn (.bool br') (.slice Ar nr cr)
                    have H1 := H.far2 (hne).symm (.bool bq) (.slice Aq nq cq)
                    have g0 := G.at_ 0 rfl; have g1 := G.at_ 1 rfl; have f0 := G.frozen 0; have f1 := G.frozen 1; have h0 := H1.at_ 0 rfl; have h1 := H1.at_ 1 rfl; have f2 := H1.frozen 0; have f3 := H1.frozen 1
                    have D10 := Lib.hid D10; have D11 := Lib.hid D11
                    clear G H H1 D hq hr hp
                    (refine wpAnyL_one (i := 8) (o := _) (by kernel_rfl) rfl (fun K hK => ?_); clear hHeld; simp only [List.getElem_toArray, List.getElem_cons_zero, List.getElem_cons_succ]; go_simp; refine hK.out _ _ ?_ (fun hHeld => ?_); focus (intro _; exact KQ.out _ D10.out)); have hHeld := hHeld (by decide); clear hK K; (try simp only [Act.put, List.setIfInBounds_toArray, List.set_cons_zero, List.set_cons_succ])
                    (refine wpAnyL_one (i := 9) (o := _) (by kernel_rfl) rfl (fun K hK => ?_); clear hHeld; simp only [List.getElem_toArray, List.getElem_cons_zero, List.getElem_cons_succ]; go_simp; refine hK.out _ _ ?_ (fun hHeld => ?_); focus (intro _; exact KQ.out _ D11.out)); have hHeld := hHeld (by decide); clear hK K; (try simp only [Act.put, List.setIfInBounds_toArray, List.set_cons_zero, List.set_cons_succ])
                    refine wpAnyL_done (by kernel_rfl) ?_ _
                    go_wp2
                    go_meet
                    exact X.out
                · as_aux_lemma =>
                    (clear hHeld; simp only [List.getElem_toArray, List.getElem_cons_zero, List.getElem_cons_succ]; go_simp; refine hK.out _ _ ?_ (fun hHeld => ?_); focus (intro _; exact KQ.out _ (D.alloc D.size _))); have hHeld := hHeld (by decide); clear hK K; (try simp only [Act.put, List.setIfInBounds_toArray, List.set_cons_zero, List.set_cons_succ])
                    have H' := Blk.new w4 34 #[.bool false, .slice none 0 0]
                    have Hn : wf.heap.size ≤ w4.heap.size := D.size
                    have hq := (hq.alloc (.cells #[.bool false, .slice none 0 0] 34))
                    have hr := (hr.alloc (.cells #[.bool false, .slice none 0 0] 34))
                    have D1 : Below wf.heap.size wf (w4.alloc (.cells #[.bool false, .slice none 0 0] 34)) := D.alloc D.size (.cells #[.bool false, .slice none 0 0] 34)
                    clear D
                    have D := D1
                    clear D1
                    obtain ⟨w9, hw9⟩ : ∃ w9, w4.alloc (.cells #[.bool false, .slice none 0 0] 34) = w9 := ⟨_, rfl⟩
                    obtain ⟨Hg, hHg⟩ : ∃ Hg, w4.heap.size = Hg := ⟨_, rfl⟩
                    rw [hw9] at H' D hq hr hHeld ⊢
                    rw [hHg] at H' Hn ⊢
                    have H := H'
                    clear H' hw9 hHg
                    (refine wpAnyL_one (i := 6) (o := _) (by kernel_rfl) rfl (fun K hK => ?_); clear hHeld; simp only [List.getElem_toArray, List.getElem_cons_zero, List.getElem_cons_succ]; go_simp; refine hK.out _ _ ?_ (fun hHeld => ?_); focus (intro _; exact KQ.out _ (D.alloc D.size _))); have hHeld := hHeld (by decide); clear hK K; (try simp only [Act.put, List.setIfInBounds_toArray, List.set_cons_zero, List.set_cons_succ])
                    have G' := Blk.new w9 34 #[.bool false, .slice none 0 0]
                    have Gn : wf.heap.size ≤ w9.heap.size := D.size
                    have hne : Hg ≠ w9.heap.size := Nat.ne_of_lt H.lt
                    have H := H.alloc (.cells #[.bool false, .slice none 0 0] 34)
                    have hq := (hq.alloc (.cells #[.bool false, .slice none 0 0] 34))
                    have hr := (hr.alloc (.cells #[.bool false, .slice none 0 0] 34))
                    have D1 : Below wf.heap.size wf (w9.alloc (.cells #[.bool false, .slice none 0 0] 34)) := D.alloc D.size (.cells #[.bool false, .slice none 0 0] 34)
                    clear D
                    have D := D1
                    clear D1
                    obtain ⟨w8, hw8⟩ : ∃ w8, w9.alloc (.cells #[.bool false, .slice none 0 0] 34) = w8 := ⟨_, rfl⟩
                    obtain ⟨Gg, hGg⟩ : ∃ Gg, w9.heap.size = Gg := ⟨_, rfl⟩
                    rw [hw8] at G' D H hq hr hHeld ⊢
                    rw [hGg] at G' Gn hne ⊢
                    have G := G'
                    clear G' hw8 hGg
                    have X := Lib.hid (qd_set D Gn Hn hne.symm G H hq hr)
                    have D10 := below_set2 D Gn (.bool bq) (.slice Aq nq cq)
                    have D11 := below_set2 D10 Hn (.bool br') (.slice Ar nr cr)
                    have H1 := H.far2 (hne.symm).symm (.bool bq) (.slice Aq nq cq)
                    have g0 := G.at_ 0 rfl; have g1 := G.at_ 1 rfl; have f0 := G.frozen 0; have f1 := G.frozen 1; have h0 := H1.at_ 0 rfl; have h1 := H1.at_ 1 rfl; have f2 := H1.frozen 0; have f3 := H1.frozen 1
                    have D10 := Lib.hid D10; have D11 := Lib.hid D11
                    clear G H H1 D hq hr hp
                    (refine wpAnyL_one (i := 8) (o := _) (by kernel_rfl) rfl (fun K hK => ?_); clear hHeld; simp only [List.getElem_toArray, List.getElem_cons_zero, List.getElem_cons_succ]; go_simp; refine hK.out _ _ ?_ (fun hHeld => ?_); focus (intro _; exact KQ.out _ D10.out)); have hHeld := hHeld (by decide); clear hK K; (try simp only [Act.put, List.setIfInBounds_toArray, List.set_cons_zero, List.set_cons_succ])
                    (refine wpAnyL_one (i := 9) (o := _) (by kernel_rfl) rfl (fun K hK => ?_); clear hHeld; simp only [List.getElem_toArray, List.getElem_cons_zero, List.getElem_cons_succ]; go_simp; refine hK.out _ _ ?_ (fun hHeld => ?_); focus (intro _; exact KQ.out _ D11.out)); have hHeld := hHeld (by decide); clear hK K; (try simp only [Act.put, List.setIfInBounds_toArray, List.set_cons_zero, List.set_cons_succ])
                    refine wpAnyL_done (by kernel_rfl) ?_ _
                    go_wp2
                    go_meet
                    exact X.out
            · as_aux_lemma =>
                (clear hHeld; simp only [List.getElem_toArray, List.getElem_cons_zero, List.getElem_cons_succ]; go_simp; refine hK.out _ _ ?_ (fun hHeld => ?_); focus (intro _; exact KQ.out _ (D.alloc D.size _))); have hHeld := hHeld (by decide); clear hK K; (try simp only [Act.put, List.setIfInBounds_toArray, List.set_cons_zero, List.set_cons_succ])
                have G' := Blk.new w3 34 #[.bool false, .slice none 0 0]
                have Gn : wf.heap.size ≤ w3.heap.size := D.size
                have hp := (hp.alloc (.cells #[.bool false, .slice none 0 0] 34))
                have D1 : Below wf.heap.size wf (w3.alloc (.cells #[.bool false, .slice none 0 0] 34)) := D.alloc D.size (.cells #[.bool false, .slice none 0 0] 34)
                clear D
                have D := D1
                clear D1
                obtain ⟨w8, hw8⟩ : ∃ w8, w3.alloc (.cells #[.bool false, .slice none 0 0] 34) = w8 := ⟨_, rfl⟩
                obtain ⟨Gg, hGg⟩ : ∃ Gg, w3.heap.size = Gg := ⟨_, rfl⟩
                rw [hw8] at G' D hp hHeld ⊢
                rw [hGg] at G' Gn ⊢
                have G := G'
                clear G' hw8 hGg
                refine wpAnyL_two (i := 2) (j := 7) (oi := _) (oj := _) (by kernel_rfl) rfl rfl (fun K hK => ?_) (fun K hK => ?_)
                · as_aux_lemma =>
                    (clear hHeld; simp only [List.getElem_toArray, List.getElem_cons_zero, List.getElem_cons_succ]; go_simp; (go_at_call 52; (with_reducible refine (DZ.out _ _ _ (VQ.out _ D) hp.v).mono ?_); rintro e w4 ⟨_, _, rfl, ⟨bq, Aq, nq, cq, rfl, hq⟩, ⟨br', Ar, nr, cr, rfl, hr⟩, hb⟩; have D := D.trans (hb.mono D.size); have G := G.below hb G.lt); refine hK.out _ _ ?_ (fun hHeld => ?_); focus (intro _; exact KQ.out _ D)); have hHeld := hHeld (by decide); clear hK K; (try simp only [Act.put, List.setIfInBounds_toArray, List.set_cons_zero, List.set_cons_succ])
                    (refine wpAnyL_take (i := 3) (oi := _) (v := ?_) rfl (by kernel_rfl) (by kernel_rfl) (by kernel_rfl) (fun _ _ _ h => h) (Or.inl ⟨by first | rfl | kernel_rfl, ?hy47⟩) (by assumption) ?rs47; (case hy47 => (intro w hSw; (try dsimp only at hSw); go_simp; first | done | with_reducible rfl)); case' rs47 => (simp only [List.getElem_toArray, List.getElem_cons_zero, List.getElem_cons_succ, Act.put, List.setIfInBounds_toArray, List.set_cons_zero, List.set_cons_succ])); (refine wpAnyL_take (i := 4) (oi := _) (v := ?_) rfl (by kernel_rfl) (by kernel_rfl) (by kernel_rfl) (fun _ _ _ h => h) (Or.inl ⟨by first | rfl | kernel_rfl, ?hy48⟩) (by assumption) ?rs48; (case hy48 => (intro w hSw; (try dsimp only at hSw); go_simp; first | done | with_reducible rfl)); case' rs48 => (simp only [List.getElem_toArray, List.getElem_cons_zero, List.getElem_cons_succ, Act.put, List.setIfInBounds_toArray, List.set_cons_zero, List.set_cons_succ])); (refine wpAnyL_take (i := 5) (oi := _) (v := ?_) rfl (by kernel_rfl) (by kernel_rfl) (by kernel_rfl) (fun _ _ _ h => h) (Or.inl ⟨by first | rfl | kernel_rfl, ?hy49⟩) (by assumption) ?rs49; (case hy49 => (intro w hSw; (try dsimp only at hSw); go_simp; first | done | with_reducible rfl)); case' rs49 => (simp only [List.getElem_toArray, List.getElem_cons_zero, List.getElem_cons_succ, Act.put, List.setIfInBounds_toArray, List.set_cons_zero, List.set_cons_succ])); skip
                    (refine wpAnyL_one (i := 7) (o := _) (by kernel_rfl) rfl (fun K hK => ?_); clear hHeld; simp only [List.getElem_toArray, List.getElem_cons_zero, List.getElem_cons_succ]; go_simp; refine hK.out _ _ ?_ (fun hHeld => ?_); focus (intro _; exact KQ.out _ (D.alloc D.size _))); have hHeld := hHeld (by decide); clear hK K; (try simp only [Act.put, List.setIfInBounds_toArray, List.set_cons_zero, List.set_cons_succ])
                    have H' := Blk.new w4 34 #[.bool false, .slice none 0 0]
                    have Hn : wf.heap.size ≤ w4.heap.size := D.size
                    have hne : Gg ≠ w4.heap.size := Nat.ne_of_lt G.lt
                    have G := G.alloc (.cells #[.bool false, .slice none 0 0] 34)
                    have hq := (hq.alloc (.cells #[.bool false, .slice none 0 0] 34))
                    have hr := (hr.alloc (.cells #[.bool false, .slice none 0 0] 34))
                    have D1 : Below wf.heap.size wf (w4.alloc (.cells #[.bool false, .slice none 0 0] 34)) := D.alloc D.size (.cells #[.bool false, .slice none 0 0] 34)
                    clear D
                    have D := D1
                    clear D1
                    obtain ⟨w9, hw9⟩ : ∃ w9, w4.alloc (.cells #[.bool false, .slice none 0 0] 34) = w9 := ⟨_, rfl⟩
                    obtain ⟨Hg, hHg⟩ : ∃ Hg, w4.heap.size = Hg := ⟨_, rfl⟩
                    rw [hw9] at H' D G hq hr hHeld ⊢
                    rw [hHg] at H' Hn hne ⊢
                    have H := H'
                    clear H' hw9 hHg
                    have X := Lib.hid (qd_set D Gn Hn hne G H hq hr)
                    have D10 := below_set2 D Gn (.bool bq) (.slice Aq nq cq)
                    have D11 := below_set2 D10 Hn (.bool br') (.slice Ar nr cr)
                    have H1 := H.far2 (hne).symm (.bool bq) (.slice Aq nq cq)
                    have g0 := G.at_ 0 rfl; have g1 := G.at_ 1 rfl; have f0 := G.frozen 0; have f1 := G.frozen 1; have h0 := H1.at_ 0 rfl; have h1 := H1.at_ 1 rfl; have f2 := H1.frozen 0; have f3 := H1.frozen 1
                    have D10 := Lib.hid D10; have D11 := Lib.hid D11
                    clear G H H1 D hq hr hp
                    (refine wpAnyL_one (i := 8) (o := _) (by kernel_rfl) rfl (fun K hK => ?_); clear hHeld; simp only [List.getElem_toArray, List.getElem_cons_zero, List.getElem_cons_succ]; go_simp; refine hK.out _ _ ?_ (fun hHeld => ?_); focus (intro _; exact KQ.out _ D10.out)); have hHeld := hHeld (by decide); clear hK K; (try simp only [Act.put, List.setIfInBounds_toArray, List.set_cons_zero, List.set_cons_succ])
                    (refine wpAnyL_one (i := 9) (o := _) (by kernel_rfl) rfl (fun K hK => ?_); clear hHeld; simp only [List.getElem_toArray, List.getElem_cons_zero, List.getElem_cons_succ]; go_simp; refine hK.out _ _ ?_ (fun hHeld => ?_); focus (intro _; exact KQ.out _ D11.out)); have hHeld := hHeld (by decide); clear hK K; (try simp only [Act.put, List.setIfInBounds_toArray, List.set_cons_zero, List.set_cons_succ])
                    refine wpAnyL_done (by kernel_rfl) ?_ _
                    go_wp2
                    go_meet
                    exact X.out
                · as_aux_lemma =>
                    (clear hHeld; simp only [List.getElem_toArray, List.getElem_cons_zero, List.getElem_cons_succ]; go_simp; refine hK.out _ _ ?_ (fun hHeld => ?_); focus (intro _; exact KQ.out _ (D.alloc D.size _))); have hHeld := hHeld (by decide); clear hK K; (try simp only [Act.put, List.setIfInBounds_toArray, List.set_cons_zero, List.set_cons_succ])
                    have H' := Blk.new w8 34 #[.bool false, .slice none 0 0]
                    have Hn : wf.heap.size ≤ w8.heap.size := D.size
                    have hne : Gg ≠ w8.heap.size := Nat.ne_of_lt G.lt
                    have G := G.alloc (.cells #[.bool false, .slice none 0 0] 34)
                    have hp := (hp.alloc (.cells #[.bool false, .slice none 0 0] 34))
                    have D1 : Below wf.heap.size wf (w8.alloc (.cells #[.bool false, .slice none 0 0] 34)) := D.alloc D.size (.cells #[.bool false, .slice none 0 0] 34)
                    clear D
                    have D := D1
                    clear D1
                    obtain ⟨w9, hw9⟩ : ∃ w9, w8.alloc (.cells #[.bool false, .slice none 0 0] 34) = w9 := ⟨_, rfl⟩
                    obtain ⟨Hg, hHg⟩ : ∃ Hg, w8.heap.size = Hg := ⟨_, rfl⟩
                    rw [hw9] at H' D G hp hHeld ⊢
                    rw [hHg] at H' Hn hne ⊢
                    have H := H'
                    clear H' hw9 hHg
                    (refine wpAnyL_one (i := 2) (o := _) (by kernel_rfl) rfl (fun K hK => ?_); clear hHeld; simp only [List.getElem_toArray, List.getElem_cons_zero, List.getElem_cons_succ]; go_simp; (go_at_call 52; (with_reducible refine (DZ.out _ _ _ (VQ.out _ D) hp.v).mono ?_); rintro e w4 ⟨_, _, rfl, ⟨bq, Aq, nq, cq, rfl, hq⟩, ⟨br', Ar, nr, cr, rfl, hr⟩, hb⟩; have D := D.trans (hb.mono D.size); have G := G.below hb G.lt; have H := H.below hb H.lt); refine hK.out _ _ ?_ (fun hHeld => ?_); focus (intro _; exact KQ.out _ D)); have hHeld := hHeld (by decide); clear hK K; (try simp only [Act.put, List.setIfInBounds_toArray, List.set_cons_zero, List.set_cons_succ])
                    (refine wpAnyL_take (i := 3) (oi := _) (v := ?_) rfl (by kernel_rfl) (by kernel_rfl) (by kernel_rfl) (fun _ _ _ h => h) (Or.inl ⟨by first | rfl | kernel_rfl, ?hy50⟩) (by assumption) ?rs50; (case hy50 => (intro w hSw; (try dsimp only at hSw); go_simp; first | done | with_reducible rfl)); case' rs50 => (simp only [List.getElem_toArray, List.getElem_cons_zero, List.getElem_cons_succ, Act.put, List.setIfInBounds_toArray, List.set_cons_zero, List.set_cons_succ])); (refine wpAnyL_take (i := 4) (oi := _) (v := ?_) rfl (by kernel_rfl) (by kernel_rfl) (by kernel_rfl) (fun _ _ _ h => h) (Or.inl ⟨by first | rfl | kernel_rfl, ?hy51⟩) (by assumption) ?rs51; (case hy51 => (intro w hSw; (try dsimp only at hSw); go_simp; first | done | with_reducible rfl)); case' rs51 => (simp only [List.getElem_toArray, List.getElem_cons_zero, List.getElem_cons_succ, Act.put, List.setIfInBounds_toArray, List.set_cons_zero, List.set_cons_succ])); (refine wpAnyL_take (i := 5) (oi := _) (v := ?_) rfl (by kernel_rfl) (by kernel_rfl) (by kernel_rfl) (fun _ _ _ h => h) (Or.inl ⟨by first | rfl | kernel_rfl, ?hy52⟩) (by assumption) ?rs52; (case hy52 => (intro w hSw; (try dsimp only at hSw); go_simp; first | done | with_reducible rfl)); case' rs52 => (simp only [List.getElem_toArray, List.getElem_cons_zero, List.getElem_cons_succ, Act.put, List.setIfInBounds_toArray, List.set_cons_zero, List.set_cons_succ])); skip
                    have X := Lib.hid (qd_set D Gn Hn hne G H hq hr)
                    have D10 := below_set2 D Gn (.bool bq) (.slice Aq nq cq)
                    have D11 := below_set2 D10 Hn (.bool br') (.slice Ar nr cr)
                    have H1 := H.far2 (hne).symm (.bool bq) (.slice Aq nq cq)
                    have g0 := G.at_ 0 rfl; have g1 := G.at_ 1 rfl; have f0 := G.frozen 0; have f1 := G.frozen 1; have h0 := H1.at_ 0 rfl; have h1 := H1.at_ 1 rfl; have f2 := H1.frozen 0; have f3 := H1.frozen 1
                    have D10 := Lib.hid D10; have D11 := Lib.hid D11
                    clear G H H1 D hq hr hp
                    (refine wpAnyL_one (i := 8) (o := _) (by kernel_rfl) rfl (fun K hK => ?_); clear hHeld; simp only [List.getElem_toArray, List.getElem_cons_zero, List.getElem_cons_succ]; go_simp; refine hK.out _ _ ?_ (fun hHeld => ?_); focus (intro _; exact KQ.out _ D10.out)); have hHeld := hHeld (by decide); clear hK K; (try simp only [Act.put, List.setIfInBounds_toArray, List.set_cons_zero, List.set_cons_succ])
                    (refine wpAnyL_one (i := 9) (o := _) (by kernel_rfl) rfl (fun K hK => ?_); clear hHeld; simp only [List.getElem_toArray, List.getElem_cons_zero, List.getElem_cons_succ]; go_simp; refine hK.out _ _ ?_ (fun hHeld => ?_); focus (intro _; exact KQ.out _ D11.out)); have hHeld := hHeld (by decide); clear hK K; (try simp only [Act.put, List.setIfInBounds_toArray, List.set_cons_zero, List.set_cons_succ])
                    refine wpAnyL_done (by kernel_rfl) ?_ _
                    go_wp2
                    go_meet
                    exact X.out
            · as_aux_lemma =>
                (clear hHeld; simp only [List.getElem_toArray, List.getElem_cons_zero, List.getElem_cons_succ]; go_simp; refine hK.out _ _ ?_ (fun hHeld => ?_); focus (intro _; exact KQ.out _ (D.alloc D.size _))); have hHeld := hHeld (by decide); clear hK K; (try simp only [Act.put, List.setIfInBounds_toArray, List.set_cons_zero, List.set_cons_succ])
                have H' := Blk.new w3 34 #[.bool false, .slice none 0 0]
                have Hn : wf.heap.size ≤ w3.heap.size := D.size
                have hp := (hp.alloc (.cells #[.bool false, .slice none 0 0] 34))
                have D1 : Below wf.heap.size wf (w3.alloc (.cells #[.bool false, .slice none 0 0] 34)) := D.alloc D.size (.cells #[.bool false, .slice none 0 0] 34)
                clear D
                have D := D1
                clear D1
                obtain ⟨w9, hw9⟩ : ∃ w9, w3.alloc (.cells #[.bool false, .slice none 0 0] 34) = w9 := ⟨_, rfl⟩
                obtain ⟨Hg, hHg⟩ : ∃ Hg, w3.heap.size = Hg := ⟨_, rfl⟩
                rw [hw9] at H' D hp hHeld ⊢
                rw [hHg] at H' Hn ⊢
                have H := H'
                clear H' hw9 hHg
                refine wpAnyL_two (i := 2) (j := 6) (oi := _) (oj := _) (by kernel_rfl) rfl rfl (fun K hK => ?_) (fun K hK => ?_)
                · as_aux_lemma =>
                    (clear hHeld; simp only [List.getElem_toArray, List.getElem_cons_zero, List.getElem_cons_succ]; go_simp; (go_at_call 52; (with_reducible refine (DZ.out _ _ _ (VQ.out _ D) hp.v).mono ?_); rintro e w4 ⟨_, _, rfl, ⟨bq, Aq, nq, cq, rfl, hq⟩, ⟨br', Ar, nr, cr, rfl, hr⟩, hb⟩; have D := D.trans (hb.mono D.size); have H := H.below hb H.lt); refine hK.out _ _ ?_ (fun hHeld => ?_); focus (intro _; exact KQ.out _ D)); have hHeld := hHeld (by decide); clear hK K; (try simp only [Act.put, List.setIfInBounds_toArray, List.set_cons_zero, List.set_cons_succ])
                    (refine wpAnyL_take (i := 3) (oi := _) (v := ?_) rfl (by kernel_rfl) (by kernel_rfl) (by kernel_rfl) (fun _ _ _ h => h) (Or.inl ⟨by first | rfl | kernel_rfl, ?hy53⟩) (by assumption) ?rs53; (case hy53 => (intro w hSw; (try dsimp only at hSw); go_simp; first | done | with_reducible rfl)); case' rs53 => (simp only [List.getElem_toArray, List.getElem_cons_zero, List.getElem_cons_succ, Act.put, List.setIfInBounds_toArray, List.set_cons_zero, List.set_cons_succ])); (refine wpAnyL_take (i := 4) (oi := _) (v := ?_) rfl (by kernel_rfl) (by kernel_rfl) (by kernel_rfl) (fun _ _ _ h => h) (Or.inl ⟨by first | rfl | kernel_rfl, ?hy54⟩) (by assumption) ?rs54; (case hy54 => (intro w hSw; (try dsimp only at hSw); go_simp; first | done | with_reducible rfl)); case' rs54 => (simp only [List.getElem_toArray, List.getElem_cons_zero, List.getElem_cons_succ, Act.put, List.setIfInBounds_toArray, List.set_cons_zero, List.set_cons_succ])); (refine wpAnyL_take (i := 5) (oi := _) (v := ?_) rfl (by kernel_rfl) (by kernel_rfl) (by kernel_rfl) (fun _ _ _ h => h) (Or.inl ⟨by first | rfl | kernel_rfl, ?hy55⟩) (by assumption) ?rs55; (case hy55 => (intro w hSw; (try dsimp only at hSw); go_simp; first | done | with_reducible rfl)); case' rs55 => (simp only [List.getElem_toArray, List.getElem_cons_zero, List.getElem_cons_succ, Act.put, List.setIfInBounds_toArray, List.set_cons_zero, List.set_cons_succ])); skip
                    (refine wpAnyL_one (i := 6) (o := _) (by kernel_rfl) rfl (fun K hK => ?_); clear hHeld; simp only [List.getElem_toArray, List.getElem_cons_zero, List.getElem_cons_succ]; go_simp; refine hK.out _ _ ?_ (fun hHeld => ?_); focus (intro _; exact KQ.out _ (D.alloc D.size _))); have hHeld := hHeld (by decide); clear hK K; (try simp only [Act.put, List.setIfInBounds_toArray, List.set_cons_zero, List.set_cons_succ])
                    have G' := Blk.new w4 34 #[.bool false, .slice none 0 0]
                    have Gn : wf.heap.size ≤ w4.heap.size := D.size
                    have hne : Hg ≠ w4.heap.size := Nat.ne_of_lt H.lt
                    have H := H.alloc (.cells #[.bool false, .slice none 0 0] 34)
                    have hq := (hq.alloc (.cells #[.bool false, .slice none 0 0] 34))
                    have hr := (hr.alloc (.cells #[.bool false, .slice none 0 0] 34))
                    have D1 : Below wf.heap.size wf (w4.alloc (.cells #[.bool false, .slice none 0 0] 34)) := D.alloc D.size (.cells #[.bool false, .slice none 0 0] 34)
                    clear D
                    have D := D1
                    clear D1
                    obtain ⟨w8, hw8⟩ : ∃ w8, w4.alloc (.cells #[.bool false, .slice none 0 0] 34) = w8 := ⟨_, rfl⟩
                    obtain ⟨Gg, hGg⟩ : ∃ Gg, w4.heap.size = Gg := ⟨_, rfl⟩
                    rw [hw8] at G' D H hq hr hHeld ⊢
                    rw [hGg] at G' Gn hne ⊢
                    have G := G'
                    clear G' hw8 hGg
                    have X := Lib.hid (qd_set D Gn Hn hne.symm G H hq hr)
                    have D10 := below_set2 D Gn (.bool bq) (.slice Aq nq cq)
                    have D11 := below_set2 D10 Hn (.bool br') (.slice Ar nr cr)
                    have H1 := H.far2 (hne.symm).symm (.bool bq) (.slice Aq nq cq)
                    have g0 := G.at_ 0 rfl; have g1 := G.at_ 1 rfl; have f0 := G.frozen 0; have f1 := G.frozen 1; have h0 := H1.at_ 0 rfl; have h1 := H1.at_ 1 rfl; have f2 := H1.frozen 0; have f3 := H1.frozen 1
                    have D10 := Lib.hid D10; have D11 := Lib.hid D11
                    clear G H H1 D hq hr hp
                    (refine wpAnyL_one (i := 8) (o := _) (by kernel_rfl) rfl (fun K hK => ?_); clear hHeld; simp only [List.getElem_toArray, List.getElem_cons_zero, List.getElem_cons_succ]; go_simp; refine hK.out _ _ ?_ (fun hHeld => ?_); focus (intro _; exact KQ.out _ D10.out)); have hHeld := hHeld (by decide); clear hK K; (try simp only [Act.put, List.setIfInBounds_toArray, List.set_cons_zero, List.set_cons_succ])
                    (refine wpAnyL_one (i := 9) (o := _) (by kernel_rfl) rfl (fun K hK => ?_); clear hHeld; simp only [List.getElem_toArray, List.getElem_cons_zero, List.getElem_cons_succ]; go_simp; refine hK.out _ _ ?_ (fun hHeld => ?_); focus (intro _; exact KQ.out _ D11.out)); have hHeld := hHeld (by decide); clear hK K; (try simp only [Act.put, List.setIfInBounds_toArray, List.set_cons_zero, List.set_cons_succ])
                    refine wpAnyL_done (by kernel_rfl) ?_ _
                    go_wp2
                    go_meet
                    exact X.out
                · as_aux_lemma =>
                    (clear hHeld; simp only [List.getElem_toArray, List.getElem_cons_zero, List.getElem_cons_succ]; go_simp; refine hK.out _ _ ?_ (fun hHeld => ?_); focus (intro _; exact KQ.out _ (D.alloc D.size _))); have hHeld := hHeld (by decide); clear hK K; (try simp only [Act.put, List.setIfInBounds_toArray, List.set_cons_zero, List.set_cons_succ])
                    have G' := Blk.new w9 34 #[.bool false, .slice none 0 0]
                    have Gn : wf.heap.size ≤ w9.heap.size := D.size
                    have hne : Hg ≠ w9.heap.size := Nat.ne_of_lt H.lt
                    have H := H.alloc (.cells #[.bool false, .slice none 0 0] 34)
                    have hp := (hp.alloc (.cells #[.bool false, .slice none 0 0] 34))
                    have D1 : Below wf.heap.size wf (w9.alloc (.cells #[.bool false, .slice none 0 0] 34)) := D.alloc D.size (.cells #[.bool false, .slice none 0 0] 34)
                    clear D
                    have D := D1
                    clear D1
                    obtain ⟨w8, hw8⟩ : ∃ w8, w9.alloc (.cells #[.bool false, .slice none 0 0] 34) = w8 := ⟨_, rfl⟩
                    obtain ⟨Gg, hGg⟩ : ∃ Gg, w9.heap.size = Gg := ⟨_, rfl⟩
                    rw [hw8] at G' D H hp hHeld ⊢
                    rw [hGg] at G' Gn hne ⊢
                    have G := G'
                    clear G' hw8 hGg
                    (refine wpAnyL_one (i := 2) (o := _) (by kernel_rfl) rfl (fun K hK => ?_); clear hHeld; simp only [List.getElem_toArray, List.getElem_cons_zero, List.getElem_cons_succ]; go_simp; (go_at_call 52; (with_reducible refine (DZ.out _ _ _ (VQ.out _ D) hp.v).mono ?_); rintro e w4 ⟨_, _, rfl, ⟨bq, Aq, nq, cq, rfl, hq⟩, ⟨br', Ar, nr, cr, rfl, hr⟩, hb⟩; have D := D.trans (hb.mono D.size); have G := G.below hb G.lt; have H := H.below hb H.lt); refine hK.out _ _ ?_ (fun hHeld => ?_); focus (intro _; exact KQ.out _ D)); have hHeld := hHeld (by decide); clear hK K; (try simp only [Act.put, List.setIfInBounds_toArray, List.set_cons_zero, List.set_cons_succ])
                    (refine wpAnyL_take (i := 3) (oi := _) (v := ?_) rfl (by kernel_rfl) (by kernel_rfl) (by kernel_rfl) (fun _ _ _ h => h) (Or.inl ⟨by first | rfl | kernel_rfl, ?hy56⟩) (by assumption) ?rs56; (case hy56 => (intro w hSw; (try dsimp only at hSw); go_simp; first | done | with_reducible rfl)); case' rs56 => (simp only [List.getElem_toArray, List.getElem_cons_zero, List.getElem_cons_succ, Act.put, List.setIfInBounds_toArray, List.set_cons_zero, List.set_cons_succ])); (refine wpAnyL_take (i := 4) (oi := _) (v := ?_) rfl (by kernel_rfl) (by kernel_rfl) (by kernel_rfl) (fun _ _ _ h => h) (Or.inl ⟨by first | rfl | kernel_rfl, ?hy57⟩) (by assumption) ?rs57; (case hy57 => (intro w hSw; (try dsimp only at hSw); go_simp; first | done | with_reducible rfl)); case' rs57 => (simp only [List.getElem_toArray, List.getElem_cons_zero, List.getElem_cons_succ, Act.put, List.setIfInBounds_toArray, List.set_cons_zero, List.set_cons_succ])); (refine wpAnyL_take (i := 5) (oi := _) (v := ?_) rfl (by kernel_rfl) (by kernel_rfl) (by kernel_rfl) (fun _ _ _ h => h) (Or.inl ⟨by first | rfl | kernel_rfl, ?hy58⟩) (by assumption) ?rs58; (case hy58 => (intro w hSw; (try dsimp only at hSw); go_simp; first | done | with_reducible rfl)); case' rs58 => (simp only [List.getElem_toArray, List.getElem_cons_zero, List.getElem_cons_succ, Act.put, List.setIfInBounds_toArray, List.set_cons_zero, List.set_cons_succ])); skip
                    have X := Lib.hid (qd_set D Gn Hn hne.symm G H hq hr)
                    have D10 := below_set2 D Gn (.bool bq) (.slice Aq nq cq)
                    have D11 := below_set2 D10 Hn (.bool br') (.slice Ar nr cr)
                    have H1 := H.far2 (hne.symm).symm (.bool bq) (.slice Aq nq cq)
                    have g0 := G.at_ 0 rfl; have g1 := G.at_ 1 rfl; have f0 := G.frozen 0; have f1 := G.frozen 1; have h0 := H1.at_ 0 rfl; have h1 := H1.at_ 1 rfl; have f2 := H1.frozen 0; have f3 := H1.frozen 1
                    have D10 := Lib.hid D10; have D11 := Lib.hid D11
                    clear G H H1 D hq hr hp
                    (refine wpAnyL_one (i := 8) (o := _) (by kernel_rfl) rfl (fun K hK => ?_); clear hHeld; simp only [List.getElem_toArray, List.getElem_cons_zero, List.getElem_cons_succ]; go_simp; refine hK.out _ _ ?_ (fun hHeld => ?_); focus (intro _; exact KQ.out _ D10.out)); have hHeld := hHeld (by decide); clear hK K; (try simp only [Act.put, List.setIfInBounds_toArray, List.set_cons_zero, List.set_cons_succ])
                    (refine wpAnyL_one (i := 9) (o := _) (by kernel_rfl) rfl (fun K hK => ?_); clear hHeld; simp only [List.getElem_toArray, List.getElem_cons_zero, List.getElem_cons_succ]; go_simp; refine hK.out _ _ ?_ (fun hHeld => ?_); focus (intro _; exact KQ.out _ D11.out)); have hHeld := hHeld (by decide); clear hK K; (try simp only [Act.put, List.setIfInBounds_toArray, List.set_cons_zero, List.set_cons_succ])
                    refine wpAnyL_done (by kernel_rfl) ?_ _
                    go_wp2
                    go_meet
                    exact X.out
        · as_aux_lemma =>
            (clear hHeld; simp only [List.getElem_toArray, List.getElem_cons_zero, List.getElem_cons_succ]; go_simp; refine hK.out _ _ ?_ (fun hHeld => ?_); focus (intro _; exact KQ.out _ (D.alloc D.size _))); have hHeld := hHeld (by decide); clear hK K; (try simp only [Act.put, List.setIfInBounds_toArray, List.set_cons_zero, List.set_cons_succ])
            have G' := Blk.drew (Blk.new wk 34 #[.bool false, .slice none 0 0])
            have Gn : wf.heap.size ≤ wk.heap.size := D.size
            have D1 : Below wf.heap.size wf ((wk.alloc (.cells #[.bool false, .slice none 0 0] 34)).drew) := (D.alloc D.size (.cells #[.bool false, .slice none 0 0] 34))
            clear D
            have D := D1
            clear D1
            obtain ⟨w8, hw8⟩ : ∃ w8, (wk.alloc (.cells #[.bool false, .slice none 0 0] 34)).drew = w8 := ⟨_, rfl⟩
            obtain ⟨Gg, hGg⟩ : ∃ Gg, wk.heap.size = Gg := ⟨_, rfl⟩
            rw [hw8] at G' D hHeld ⊢
            rw [hGg] at G' Gn ⊢
            have G := G'
            clear G' hw8 hGg
            refine wpAnyL_two (i := 1) (j := 7) (oi := _) (oj := _) (by kernel_rfl) rfl rfl (fun K hK => ?_) (fun K hK => ?_)
            · as_aux_lemma =>
                (clear hHeld; simp only [List.getElem_toArray, List.getElem_cons_zero, List.getElem_cons_succ]; go_simp; (go_at_call 26; (with_reducible refine (HP.out _).mono ?_); rintro e w3 ⟨_, rfl, ⟨b1, A1, n1, c1, rfl, hp0⟩, hb⟩; have hp := hp0.zl; have D := D.trans (hb.mono D.size); have G := G.below hb G.lt); refine hK.out _ _ ?_ (fun hHeld => ?_); focus (intro _; exact KQ.out _ D)); have hHeld := hHeld (by decide); clear hK K; (try simp only [Act.put, List.setIfInBounds_toArray, List.set_cons_zero, List.set_cons_succ])
                refine wpAnyL_two (i := 2) (j := 7) (oi := _) (oj := _) (by kernel_rfl) rfl rfl (fun K hK => ?_) (fun K hK => ?_)
                · as_aux_lemma =>
                    (clear hHeld; simp only [List.getElem_toArray, List.getElem_cons_zero, List.getElem_cons_succ]; go_simp; (go_at_call 52; (with_reducible refine (DZ.out _ _ _ (VQ.out _ D) hp.v).mono ?_); rintro e w4 ⟨_, _, rfl, ⟨bq, Aq, nq, cq, rfl, hq⟩, ⟨br', Ar, nr, cr, rfl, hr⟩, hb⟩; have D := D.trans (hb.mono D.size); have G := G.below hb G.lt); refine hK.out _ _ ?_ (fun hHeld => ?_); focus (intro _; exact KQ.out _ D)); have hHeld := hHeld (by decide); clear hK K; (try simp only [Act.put, List.setIfInBounds_toArray, List.set_cons_zero, List.set_cons_succ])
                    (refine wpAnyL_take (i := 3) (oi := _) (v := ?_) rfl (by kernel_rfl) (by kernel_rfl) (by kernel_rfl) (fun _ _ _ h => h) (Or.inl ⟨by first | rfl | kernel_rfl, ?hy59⟩) (by assumption) ?rs59; (case hy59 => (intro w hSw; (try dsimp only at hSw); go_simp; first | done | with_reducible rfl)); case' rs59 => (simp only [List.getElem_toArray, List.getElem_cons_zero, List.getElem_cons_succ, Act.put, List.setIfInBounds_toArray, List.set_cons_zero, List.set_cons_succ])); (refine wpAnyL_take (i := 4) (oi := _) (v := ?_) rfl (by kernel_rfl) (by kernel_rfl) (by kernel_rfl) (fun _ _ _ h => h) (Or.inl ⟨by first | rfl | kernel_rfl, ?hy60⟩) (by assumption) ?rs60; (case hy60 => (intro w hSw; (try dsimp only at hSw); go_simp; first | done | with_reducible rfl)); case' rs60 => (simp only [List.getElem_toArray, List.getElem_cons_zero, List.getElem_cons_succ, Act.put, List.setIfInBounds_toArray, List.set_cons_zero, List.set_cons_succ])); (refine wpAnyL_take (i := 5) (oi := _) (v := ?_) rfl (by kernel_rfl) (by kernel_rfl) (by kernel_rfl) (fun _ _ _ h => h) (Or.inl ⟨by first | rfl | kernel_rfl, ?hy61⟩) (by assumption) ?rs61; (case hy61 => (intro w hSw; (try dsimp only at hSw); go_simp; first | done | with_reducible rfl)); case' rs61 => (simp only [List.getElem_toArray, List.getElem_cons_zero, List.getElem_cons_succ, Act.put, List.setIfInBounds_toArray, List.set_cons_zero, List.set_cons_succ])); skip
                    (refine wpAnyL_one (i := 7) (o := _) (by kernel_rfl) rfl (fun K hK => ?_); clear hHeld; simp only [List.getElem_toArray, List.getElem_cons_zero, List.getElem_cons_succ]; go_simp; refine hK.out _ _ ?_ (fun hHeld => ?_); focus (intro _; exact KQ.out _ (D.alloc D.size _))); have hHeld := hHeld (by decide); clear hK K; (try simp only [Act.put, List.setIfInBounds_toArray, List.set_cons_zero, List.set_cons_succ])
                    have H' := Blk.new w4 34 #[.bool false, .slice none 0 0]
                    have Hn : wf.heap.size ≤ w4.heap.size := D.size
                    have hne : Gg ≠ w4.heap.size := Nat.ne_of_lt G.lt
                    have G := G.alloc (.cells #[.bool false, .slice none 0 0] 34)
                    have hq := (hq.alloc (.cells #[.bool false, .slice none 0 0] 34))
                    have hr := (hr.alloc (.cells #[.bool false, .slice none 0 0] 34))
                    have D1 : Below wf.heap.size wf (w4.alloc (.cells #[.bool false, .slice none 0 0] 34)) := D.alloc D.size (.cells #[.bool false, .slice none 0 0] 34)
                    clear D
                    have D := D1
                    clear D1
                    obtain ⟨w9, hw9⟩ : ∃ w9, w4.alloc (.cells #[.bool false, .slice none 0 0] 34) = w9 := ⟨_, rfl⟩
                    obtain ⟨Hg, hHg⟩ : ∃ Hg, w4.heap.size = Hg := ⟨_, rfl⟩
                    rw [hw9] at H' D G hq hr hHeld ⊢
                    rw [hHg] at H' Hn hne ⊢
                    have H := H'
                    clear H' hw9 hHg
                    have X := Lib.hid (qd_set D Gn Hn hne G H hq hr)
                    have D10 := below_set2 D Gn (.bool bq) (.slice Aq nq cq)
                    have D11 := below_set2 D10 Hn (.bool br') (.slice Ar nr cr)
                    have H1 := H.far2 (hne).symm (.bool bq) (.slice Aq nq cq)
                    have g0 := G.at_ 0 rfl; have g1 := G.at_ 1 rfl; have f0 := G.frozen 0; have f1 := G.frozen 1; have h0 := H1.at_ 0 rfl; have h1 := H1.at_ 1 rfl; have f2 := H1.frozen 0; have f3 := H1.frozen 1
                    have D10 := Lib.hid D10; have D11 := Lib.hid D11
                    clear G H H1 D hq hr hp
                    (refine wpAnyL_one (i := 8) (o := _) (by kernel_rfl) rfl (fun K hK => ?_); clear hHeld; simp only [List.getElem_toArray, List.getElem_cons_zero, List.getElem_cons_succ]; go_simp; refine hK.out _ _ ?_ (fun hHeld => ?_); focus (intro _; exact KQ.out _ D10.out)); have hHeld := hHeld (by decide); clear hK K; (try simp only [Act.put, List.setIfInBounds_toArray, List.set_cons_zero, List.set_cons_succ])
                    (refine wpAnyL_one (i := 9) (o := _) (by kernel_rfl) rfl (fun K hK => ?_); clear hHeld; simp only [List.getElem_toArray, List.getElem_cons_zero, List.getElem_cons_succ]; go_simp; refine hK.out _ _ ?_ (fun hHeld => ?_); focus (intro _; exact KQ.out _ D11.out)); have hHeld := hHeld (by decide); clear hK K; (try simp only [Act.put, List.setIfInBounds_toArray, List.set_cons_zero, List.set_cons_succ])
                    refine wpAnyL_done (by kernel_rfl) ?_ _
                    go_wp2
                    go_meet
                    exact X.out
                · as_aux_lemma =>
                    (clear hHeld; simp only [List.getElem_toArray, List.getElem_cons_zero, List.getElem_cons_succ]; go_simp; refine hK.out _ _ ?_ (fun hHeld => ?_); focus (intro _; exact KQ.out _ (D.alloc D.size _))); have hHeld := hHeld (by decide); clear hK K; (try simp only [Act.put, List.setIfInBounds_toArray, List.set_cons_zero, List.set_cons_succ])
                    have H' := Blk.new w3 34 #[.bool false, .slice none 0 0]
                    have Hn : wf.heap.size ≤ w3.heap.size := D.size
                    have hne : Gg ≠ w3.heap.size := Nat.ne_of_lt G.lt
                    have G := G.alloc (.cells #[.bool false, .slice none 0 0] 34)
                    have hp := (hp.alloc (.cells #[.bool false, .slice none 0 0] 34))
                    have D1 : Below wf.heap.size wf (w3.alloc (.cells #[.bool false, .slice none 0 0] 34)) := D.alloc D.size (.cells #[.bool false, .slice none 0 0] 34)
                    clear D
                    have D := D1
                    clear D1
                    obtain ⟨w9, hw9⟩ : ∃ w9, w3.alloc (.cells #[.bool false, .slice none 0 0] 34) = w9 := ⟨_, rfl⟩
                    obtain ⟨Hg, hHg⟩ : ∃ Hg, w3.heap.size = Hg := ⟨_, rfl⟩
                    rw [hw9] at H' D G hp hHeld ⊢
                    rw [hHg] at H' Hn hne ⊢
                    have H := H'
                    clear H' hw9 hHg
                    (refine wpAnyL_one (i := 2) (o := _) (by kernel_rfl) rfl (fun K hK => ?_); clear hHeld; simp only [List.getElem_toArray, List.getElem_cons_zero, List.getElem_cons_succ]; go_simp; (go_at_call 52; (with_reducible refine (DZ.out _ _ _ (VQ.out _ D) hp.v).mono ?_); rintro e w4 ⟨_, _, rfl, ⟨bq, Aq, nq, cq, rfl, hq⟩, ⟨br', Ar, nr, cr, rfl, hr⟩, hb⟩; have D := D.trans (hb.mono D.size); have G := G.below hb G.lt; have H := H.below hb H.lt); refine hK.out _ _ ?_ (fun hHeld => ?_); focus (intro _; exact KQ.out _ D)); have hHeld := hHeld (by decide); clear hK K; (try simp only [Act.put, List.setIfInBounds_toArray, List.set_cons_zero, List.set_cons_succ])
                    (refine wpAnyL_take (i := 3) (oi := _) (v := ?_) rfl (by kernel_rfl) (by kernel_rfl) (by kernel_rfl) (fun _ _ _ h => h) (Or.inl ⟨by first | rfl | kernel_rfl, ?hy62⟩) (by assumption) ?rs62; (case hy62 => (intro w hSw; (try dsimp only at hSw); go_simp; first | done | with_reducible rfl)); case' rs62 => (simp only [List.getElem_toArray, List.getElem_cons_zero, List.getElem_cons_succ, Act.put, List.setIfInBounds_toArray, List.set_cons_zero, List.set_cons_succ])); (refine wpAnyL_take (i := 4) (oi := _) (v := ?_) rfl (by kernel_rfl) (by kernel_rfl) (by kernel_rfl) (fun _ _ _ h => h) (Or.inl ⟨by first | rfl | kernel_rfl, ?hy63⟩) (by assumption) ?rs63; (case hy63 => (intro w hSw; (try dsimp only at hSw); go_simp; first | done | with_reducible rfl)); case' rs63 => (simp only [List.getElem_toArray, List.getElem_cons_zero, List.getElem_cons_succ, Act.put, List.setIfInBounds_toArray, List.set_cons_zero, List.set_cons_succ])); (refine wpAnyL_take (i := 5) (oi := _) (v := ?_) rfl (by kernel_rfl) (by kernel_rfl) (by kernel_rfl) (fun _ _ _ h => h) (Or.inl ⟨by first | rfl | kernel_rfl, ?hy64⟩) (by assumption) ?rs64; (case hy64 => (intro w hSw; (try dsimp only at hSw); go_simp; first | done | with_reducible rfl)); case' rs64 => (simp only [List.getElem_toArray, List.getElem_cons_zero, List.getElem_cons_succ, Act.put, List.setIfInBounds_toArray, List.set_cons_zero, List.set_cons_succ])); skip
                    have X := Lib.hid (qd_set D Gn Hn hne G H hq hr)
                    have D10 := below_set2 D Gn (.bool bq) (.slice Aq nq cq)
                    have D11 := below_set2 D10 Hn (.bool br') (.slice Ar nr cr)
                    have H1 := H.far2 (hne).symm (.bool bq) (.slice Aq nq cq)
                    have g0 := G.at_ 0 rfl; have g1 := G.at_ 1 rfl; have f0 := G.frozen 0; have f1 := G.frozen 1; have h0 := H1.at_ 0 rfl; have h1 := H1.at_ 1 rfl; have f2 := H1.frozen 0; have f3 := H1.frozen 1
                    have D10 := Lib.hid D10; have D11 := Lib.hid D11
                    clear G H H1 D hq hr hp
                    (refine wpAnyL_one (i := 8) (o := _) (by kernel_rfl) rfl (fun K hK => ?_); clear hHeld; simp only [List.getElem_toArray, List.getElem_cons_zero, List.getElem_cons_succ]; go_simp; refine hK.out _ _ ?_ (fun hHeld => ?_); focus (intro _; exact KQ.out _ D10.out)); have hHeld := hHeld (by decide); clear hK K; (try simp only [Act.put, List.setIfInBounds_toArray, List.set_cons_zero, List.set_cons_succ])
                    (refine wpAnyL_one (i := 9) (o := _) (by kernel_rfl) rfl (fun K hK => ?_); clear hHeld; simp only [List.getElem_toArray, List.getElem_cons_zero, List.getElem_cons_succ]; go_simp; refine hK.out _ _ ?_ (fun hHeld => ?_); focus (intro _; exact KQ.out _ D11.out)); have hHeld := hHeld (by decide); clear hK K; (try simp only [Act.put, List.setIfInBounds_toArray, List.set_cons_zero, List.set_cons_succ])
                    refine wpAnyL_done (by kernel_rfl) ?_ _
                    go_wp2
                    go_meet
                    exact X.out
            · as_aux_lemma =>
                (clear hHeld; simp only [List.getElem_toArray, List.getElem_cons_zero, List.getElem_cons_succ]; go_simp; refine hK.out _ _ ?_ (fun hHeld => ?_); focus (intro _; exact KQ.out _ (D.alloc D.size _))); have hHeld := hHeld (by decide); clear hK K; (try simp only [Act.put, List.setIfInBounds_toArray, List.set_cons_zero, List.set_cons_succ])
                have H' := Blk.new w8 34 #[.bool false, .slice none 0 0]
                have Hn : wf.heap.size ≤ w8.heap.size := D.size
                have hne : Gg ≠ w8.heap.size := Nat.ne_of_lt G.lt
                have G := G.alloc (.cells #[.bool false, .slice none 0 0] 34)
                have D1 : Below wf.heap.size wf (w8.alloc (.cells #[.bool false, .slice none 0 0] 34)) := D.alloc D.size (.cells #[.bool false, .slice none 0 0] 34)
                clear D
                have D := D1
                clear D1
                obtain ⟨w9, hw9⟩ : ∃ w9, w8.alloc (.cells #[.bool false, .slice none 0 0] 34) = w9 := ⟨_, rfl⟩
                obtain ⟨Hg, hHg⟩ : ∃ Hg, w8.heap.size = Hg := ⟨_, rfl⟩
                rw [hw9] at H' D G hHeld ⊢
                rw [hHg] at H' Hn hne ⊢
                have H := H'
                clear H' hw9 hHg
                (refine wpAnyL_one (i := 1) (o := _) (by kernel_rfl) rfl (fun K hK => ?_); clear hHeld; simp only [List.getElem_toArray, List.getElem_cons_zero, List.getElem_cons_succ]; go_simp; (go_at_call 26; (with_reducible refine (HP.out _).mono ?_); rintro e w3 ⟨_, rfl, ⟨b1, A1, n1, c1, rfl, hp0⟩, hb⟩; have hp := hp0.zl; have D := D.trans (hb.mono D.size); have G := G.below hb G.lt; have H := H.below hb H.lt); refine hK.out _ _ ?_ (fun hHeld => ?_); focus (intro _; exact KQ.out _ D)); have hHeld := hHeld (by decide); clear hK K; (try simp only [Act.put, List.setIfInBounds_toArray, List.set_cons_zero, List.set_cons_succ])
                (refine wpAnyL_one (i := 2) (o := _) (by kernel_rfl) rfl (fun K hK => ?_); clear hHeld; simp only [List.getElem_toArray, List.getElem_cons_zero, List.getElem_cons_succ]; go_simp; (go_at_call 52; (with_reducible refine (DZ.out _ _ _ (VQ.out _ D) hp.v).mono ?_); rintro e w4 ⟨_, _, rfl, ⟨bq, Aq, nq, cq, rfl, hq⟩, ⟨br', Ar, nr, cr, rfl, hr⟩, hb⟩; have D := D.trans (hb.mono D.size); have G := G.below hb G.lt; have H := H.below hb H.lt); refine hK.out _ _ ?_ (fun hHeld => ?_); focus (intro _; exact KQ.out _ D)); have hHeld := hHeld (by decide); clear hK K; (try simp only [Act.put, List.setIfInBounds_toArray, List.set_cons_zero, List.set_cons_succ])
                (refine wpAnyL_take (i := 3) (oi := _) (v := ?_) rfl (by kernel_rfl) (by kernel_rfl) (by kernel_rfl) (fun _ _ _ h => h) (Or.inl ⟨by first | rfl | kernel_rfl, ?hy65⟩) (by assumption) ?rs65; (case hy65 => (intro w hSw; (try dsimp only at hSw); go_simp; first | done | with_reducible rfl)); case' rs65 => (simp only [List.getElem_toArray, List.getElem_cons_zero, List.getElem_cons_succ, Act.put, List.setIfInBounds_toArray, List.set_cons_zero, List.set_cons_succ])); (refine wpAnyL_take (i := 4) (oi := _) (v := ?_) rfl (by kernel_rfl) (by kernel_rfl) (by kernel_rfl) (fun _ _ _ h => h) (Or.inl ⟨by first | rfl | kernel_rfl, ?hy66⟩) (by assumption) ?rs66; (case hy66 => (intro w hSw; (try dsimp only at hSw); go_simp; first | done | with_reducible rfl)); case' rs66 => (simp only [List.getElem_toArray, List.getElem_cons_zero, List.getElem_cons_succ, Act.put, List.setIfInBounds_toArray, List.set_cons_zero, List.set_cons_succ])); (refine wpAnyL_take (i := 5) (oi := _) (v := ?_) rfl (by kernel_rfl) (by kernel_rfl) (by kernel_rfl) (fun _ _ _ h => h) (Or.inl ⟨by first | rfl | kernel_rfl, ?hy67⟩) (by assumption) ?rs67; (case hy67 => (intro w hSw; (try dsimp only at hSw); go_simp; first | done | with_reducible rfl)); case' rs67 => (simp only [List.getElem_toArray, List.getElem_cons_zero, List.getElem_cons_succ, Act.put, List.setIfInBounds_toArray, List.set_cons_zero, List.set_cons_succ])); skip
                have X := Lib.hid (qd_set D Gn Hn hne G H hq hr)
                have D10 := below_set2 D Gn (.bool bq) (.slice Aq nq cq)
                have D11 := below_set2 D10 Hn (.bool br') (.slice Ar nr cr)
                have H1 := H.far2 (hne).symm (.bool bq) (.slice Aq nq cq)
                have g0 := G.at_ 0 rfl; have g1 := G.at_ 1 rfl; have f0 := G.frozen 0; have f1 := G.frozen 1; have h0 := H1.at_ 0 rfl; have h1 := H1.at_ 1 rfl; have f2 := H1.frozen 0; have f3 := H1.frozen 1
                have D10 := Lib.hid D10; have D11 := Lib.hid D11
                clear G H H1 D hq hr hp
                (refine wpAnyL_one (i := 8) (o := _) (by kernel_rfl) rfl (fun K hK => ?_); clear hHeld; simp only [List.getElem_toArray, List.getElem_cons_zero, List.getElem_cons_succ]; go_simp; refine hK.out _ _ ?_ (fun hHeld => ?_); focus (intro _; exact KQ.out _ D10.out)); have hHeld := hHeld (by decide); clear hK K; (try simp only [Act.put, List.setIfInBounds_toArray, List.set_cons_zero, List.set_cons_succ])
                (refine wpAnyL_one (i := 9) (o := _) (by kernel_rfl) rfl (fun K hK => ?_); clear hHeld; simp only [List.getElem_toArray, List.getElem_cons_zero, List.getElem_cons_succ]; go_simp; refine hK.out _ _ ?_ (fun hHeld => ?_); focus (intro _; exact KQ.out _ D11.out)); have hHeld := hHeld (by decide); clear hK K; (try simp only [Act.put, List.setIfInBounds_toArray, List.set_cons_zero, List.set_cons_succ])
                refine wpAnyL_done (by kernel_rfl) ?_ _
                go_wp2
                go_meet
                exact X.out
        · as_aux_lemma =>
            (clear hHeld; simp only [List.getElem_toArray, List.getElem_cons_zero, List.getElem_cons_succ]; go_simp; refine hK.out _ _ ?_ (fun hHeld => ?_); focus (intro _; exact KQ.out _ (D.alloc D.size _))); have hHeld := hHeld (by decide); clear hK K; (try simp only [Act.put, List.setIfInBounds_toArray, List.set_cons_zero, List.set_cons_succ])
            have H' := Blk.drew (Blk.new wk 34 #[.bool false, .slice none 0 0])
            have Hn : wf.heap.size ≤ wk.heap.size := D.size
            have D1 : Below wf.heap.size wf ((wk.alloc (.cells #[.bool false, .slice none 0 0] 34)).drew) := (D.alloc D.size (.cells #[.bool false, .slice none 0 0] 34))
            clear D
            have D := D1
            clear D1
            obtain ⟨w9, hw9⟩ : ∃ w9, (wk.alloc (.cells #[.bool false, .slice none 0 0] 34)).drew = w9 := ⟨_, rfl⟩
            obtain ⟨Hg, hHg⟩ : ∃ Hg, wk.heap.size = Hg := ⟨_, rfl⟩
            rw [hw9] at H' D hHeld ⊢
            rw [hHg] at H' Hn ⊢
            have H := H'
            clear H' hw9 hHg
            refine wpAnyL_two (i := 1) (j := 6) (oi := _) (oj := _) (by kernel_rfl) rfl rfl (fun K hK => ?_) (fun K hK => ?_)
            · as_aux_lemma =>
                (clear hHeld; simp only [List.getElem_toArray, List.getElem_cons_zero, List.getElem_cons_succ]; go_simp; (go_at_call 26; (with_reducible refine (HP.out _).mono ?_); rintro e w3 ⟨_, rfl, ⟨b1, A1, n1, c1, rfl, hp0⟩, hb⟩; have hp := hp0.zl; have D := D.trans (hb.mono D.size); have H := H.below hb H.lt); refine hK.out _ _ ?_ (fun hHeld => ?_); focus (intro _; exact KQ.out _ D)); have hHeld := hHeld (by decide); clear hK K; (try simp only [Act.put, List.setIfInBounds_toArray, List.set_cons_zero, List.set_cons_succ])
                refine wpAnyL_two (i := 2) (j := 6) (oi := _) (oj := _) (by kernel_rfl) rfl rfl (fun K hK => ?_) (fun K hK => ?_)
                · as_aux_lemma =>
                    (clear hHeld; simp only [List.getElem_toArray, List.getElem_cons_zero, List.getElem_cons_succ]; go_simp; (go_at_call 52; (with_reducible refine (DZ.out _ _ _ (VQ.out _ D) hp.v).mono ?_); rintro e w4 ⟨_, _, rfl, ⟨bq, Aq, nq, cq, rfl, hq⟩, ⟨br', Ar, nr, cr, rfl, hr⟩, hb⟩; have D := D.trans (hb.mono D.size); have H := H.below hb H.lt); refine hK.out _ _ ?_ (fun hHeld => ?_); focus (intro _; exact KQ.out _ D)); have hHeld := hHeld (by decide); clear hK K; (try simp only [Act.put, List.setIfInBounds_toArray, List.set_cons_zero, List.set_cons_succ])
                    (refine wpAnyL_take (i := 3) (oi := _) (v := ?_) rfl (by kernel_rfl) (by kernel_rfl) (by kernel_rfl) (fun _ _ _ h => h) (Or.inl ⟨by first | rfl | kernel_rfl, ?hy68⟩) (by assumption) ?rs68; (case hy68 => (intro w hSw; (try dsimp only at hSw); go_simp; first | done | with_reducible rfl)); case' rs68 => (simp only [List.getElem_toArray, List.getElem_cons_zero, List.getElem_cons_succ, Act.put, List.setIfInBounds_toArray, List.set_cons_zero, List.set_cons_succ])); (refine wpAnyL_take (i := 4) (oi := _) (v := ?_) rfl (by kernel_rfl) (by kernel_rfl) (by kernel_rfl) (fun _ _ _ h => h) (Or.inl ⟨by first | rfl | kernel_rfl, ?hy69⟩) (by assumption) ?rs69; (case hy69 => (intro w hSw; (try dsimp only at hSw); go_simp; first | done | with_reducible rfl)); case' rs69 => (simp only [List.getElem_toArray, List.getElem_cons_zero, List.getElem_cons_succ, Act.put, List.setIfInBounds_toArray, List.set_cons_zero, List.set_cons_succ])); (refine wpAnyL_take (i := 5) (oi := _) (v := ?_) rfl (by kernel_rfl) (by kernel_rfl) (by kernel_rfl) (fun _ _ _ h => h) (Or.inl ⟨by first | rfl | kernel_rfl, ?hy70⟩) (by assumption) ?rs70; (case hy70 => (intro w hSw; (try dsimp only at hSw); go_simp; first | done | with_reducible rfl)); case' rs70 => (simp only [List.getElem_toArray, List.getElem_cons_zero, List.getElem_cons_succ, Act.put, List.setIfInBounds_toArray, List.set_cons_zero, List.set_cons_succ])); skip
                    (refine wpAnyL_one (i := 6) (o := _) (by kernel_rfl) rfl (fun K hK => ?_); clear hHeld; simp only [List.getElem_toArray, List.getElem_cons_zero, List.getElem_cons_succ]; go_simp; refine hK.out _ _ ?_ (fun hHeld => ?_); focus (intro _; exact KQ.out _ (D.alloc D.size _))); have hHeld := hHeld (by decide); clear hK K; (try simp only [Act.put, List.setIfInBounds_toArray, List.set_cons_zero, List.set_cons_succ])
                    have G' := Blk.new w4 34 #[.bool false, .slice none 0 0]
                    have Gn : wf.heap.size ≤ w4.heap.size := D.size
                    have hne : Hg ≠ w4.heap.size := Nat.ne_of_lt H.lt
                    have H := H.alloc (.cells #[.bool false, .slice none 0 0] 34)
                    have hq := (hq.alloc (.cells #[.bool false, .slice none 0 0] 34))
                    have hr := (hr.alloc (.cells #[.bool false, .slice none 0 0] 34))
                    have D1 : Below wf.heap.size wf (w4.alloc (.cells #[.bool false, .slice none 0 0] 34)) := D.alloc D.size (.cells #[.bool false, .slice none 0 0] 34)
                    clear D
                    have D := D1
                    clear D1
                    obtain ⟨w8, hw8⟩ : ∃ w8, w4.alloc (.cells #[.bool false, .slice none 0 0] 34) = w8 := ⟨_, rfl⟩
                    obtain ⟨Gg, hGg⟩ : ∃ Gg, w4.heap.size = Gg := ⟨_, rfl⟩
                    rw [hw8] at G' D H hq hr hHeld ⊢
                    rw [hGg] at G' Gn hne ⊢
                    have G := G'
                    clear G' hw8 hGg
                    have X := Lib.hid (qd_set D Gn Hn hne.symm G H hq hr)
                    have D10 := below_set2 D Gn (.bool bq) (.slice Aq nq cq)
                    have D11 := below_set2 D10 Hn (.bool br') (.slice Ar nr cr)
                    have H1 := H.far2 (hne.symm).symm (.bool bq) (.slice Aq nq cq)
                    have g0 := G.at_ 0 rfl; have g1 := G.at_ 1 rfl; have f0 := G.frozen 0; have f1 := G.frozen 1; have h0 := H1.at_ 0 rfl; have h1 := H1.at_ 1 rfl; have f2 := H1.frozen 0; have f3 := H1.frozen 1
                    have D10 := Lib.hid D10; have D11 := Lib.hid D11
                    clear G H H1 D hq hr hp
                    (refine wpAnyL_one (i := 8) (o := _) (by kernel_rfl) rfl (fun K hK => ?_); clear hHeld; simp only [List.getElem_toArray, List.getElem_cons_zero, List.getElem_cons_succ]; go_simp; refine hK.out _ _ ?_ (fun hHeld => ?_); focus (intro _; exact KQ.out _ D10.out)); have hHeld := hHeld (by decide); clear hK K; (try simp only [Act.put, List.setIfInBounds_toArray, List.set_cons_zero, List.set_cons_succ])
                    (refine wpAnyL_one (i := 9) (o := _) (by kernel_rfl) rfl (fun K hK => ?_); clear hHeld; simp only [List.getElem_toArray, List.getElem_cons_zero, List.getElem_cons_succ]; go_simp; refine hK.out _ _ ?_ (fun hHeld => ?_); focus (intro _; exact KQ.out _ D11.out)); have hHeld := hHeld (by decide); clear hK K; (try simp only [Act.put, List.setIfInBounds_toArray, List.set_cons_zero, List.set_cons_succ])
                    refine wpAnyL_done (by kernel_rfl) ?_ _
                    go_wp2
                    go_meet
                    exact X.out
                · as_aux_lemma =>
                    (clear hHeld; simp only [List.getElem_toArray, List.getElem_cons_zero, List.getElem_cons_succ]; go_simp; refine hK.out _ _ ?_ (fun hHeld => ?_); focus (intro _; exact KQ.out _ (D.alloc D.size _))); have hHeld := hHeld (by decide); clear hK K; (try simp only [Act.put, List.setIfInBounds_toArray, List.set_cons_zero, List.set_cons_succ])
                    have G' := Blk.new w3 34 #[.bool false, .slice none 0 0]
                    have Gn : wf.heap.size ≤ w3.heap.size := D.size
                    have hne : Hg ≠ w3.heap.size := Nat.ne_of_lt H.lt
                    have H := H.alloc (.cells #[.bool false, .slice none 0 0] 34)
                    have hp := (hp.alloc (.cells #[.bool false, .slice none 0 0] 34))
                    have D1 : Below wf.heap.size wf (w3.alloc (.cells #[.bool false, .slice none 0 0] 34)) := D.alloc D.size (.cells #[.bool false, .slice none 0 0] 34)
                    clear D
                    have D := D1
                    clear D1
                    obtain ⟨w8, hw8⟩ : ∃ w8, w3.alloc (.cells #[.bool false, .slice none 0 0] 34) = w8 := ⟨_, rfl⟩
                    obtain ⟨Gg, hGg⟩ : ∃ Gg, w3.heap.size = Gg := ⟨_, rfl⟩
                    rw [hw8] at G' D H hp hHeld ⊢
                    rw [hGg] at G' Gn hne ⊢
                    have G := G'
                    clear G' hw8 hGg
                    (refine wpAnyL_one (i := 2) (o := _) (by kernel_rfl) rfl (fun K hK => ?_); clear hHeld; simp only [List.getElem_toArray, List.getElem_cons_zero, List.getElem_cons_succ]; go_simp; (go_at_call 52; (with_reducible refine (DZ.out _ _ _ (VQ.out _ D) hp.v).mono ?_); rintro e w4 ⟨_, _, rfl, ⟨bq, Aq, nq, cq, rfl, hq⟩, ⟨br', Ar, nr, cr, rfl, hr⟩, hb⟩; have D := D.trans (hb.mono D.size); have G := G.below hb G.lt; have H := H.below hb H.lt); refine hK.out _ _ ?_ (fun hHeld => ?_); focus (intro _; exact KQ.out _ D)); have hHeld := hHeld (by decide); clear hK K; (try simp only [Act.put, List.setIfInBounds_toArray, List.set_cons_zero, List.set_cons_succ])
                    (refine wpAnyL_take (i := 3) (oi := _) (v := ?_) rfl (by kernel_rfl) (by kernel_rfl) (by kernel_rfl) (fun _ _ _ h => h) (Or.inl ⟨by first | rfl | kernel_rfl, ?hy71⟩) (by assumption) ?rs71; (case hy71 => (intro w hSw; (try dsimp only at hSw); go_simp; first | done | with_reducible rfl)); case' rs71 => (simp only [List.getElem_toArray, List.getElem_cons_zero, List.getElem_cons_succ, Act.put, List.setIfInBounds_toArray, List.set_cons_zero, List.set_cons_succ])); (refine wpAnyL_take (i := 4) (oi := _) (v := ?_) rfl (by kernel_rfl) (by kernel_rfl) (by kernel_rfl) (fun _ _ _ h => h) (Or.inl ⟨by first | rfl | kernel_rfl, ?hy72⟩) (by assumption) ?rs72; (case hy72 => (intro w hSw; (try dsimp only at hSw); go_simp; first | done | with_reducible rfl)); case' rs72 => (simp only [List.getElem_toArray, List.getElem_cons_zero, List.getElem_cons_succ, Act.put, List.setIfInBounds_toArray, List.set_cons_zero, List.set_cons_succ])); (refine wpAnyL_take (i := 5) (oi := _) (v := ?_) rfl (by kernel_rfl) (by kernel_rfl) (by kernel_rfl) (fun _ _ _ h => h) (Or.inl ⟨by first | rfl | kernel_rfl, ?hy73⟩) (by assumption) ?rs73; (case hy73 => (intro w hSw; (try dsimp only at hSw); go_simp; first | done | with_reducible rfl)); case' rs73 => (simp only [List.getElem_toArray, List.getElem_cons_zero, List.getElem_cons_succ, Act.put, List.setIfInBounds_toArray, List.set_cons_zero, List.set_cons_succ])); skip
                    have X := Lib.hid (qd_set D Gn Hn hne.symm G H hq hr)
                    have D10 := below_set2 D Gn (.bool bq) (.slice Aq nq cq)
                    have D11 := below_set2 D10 Hn (.bool br') (.slice Ar nr cr)
                    have H1 := H.far2 (hne.symm).symm (.bool bq) (.slice Aq nq cq)
                    have g0 := G.at_ 0 rfl; have g1 := G.at_ 1 rfl; have f0 := G.frozen 0; have f1 := G.frozen 1; have h0 := H1.at_ 0 rfl; have h1 := H1.at_ 1 rfl; have f2 := H1.frozen 0; have f3 := H1.frozen 1
                    have D10 := Lib.hid D10; have D11 := Lib.hid D11
                    clear G H H1 D hq hr hp
                    (refine wpAnyL_one (i := 8) (o := _) (by kernel_rfl) rfl (fun K hK => ?_); clear hHeld; simp only [List.getElem_toArray, List.getElem_cons_zero, List.getElem_cons_succ]; go_simp; refine hK.out _ _ ?_ (fun hHeld => ?_); focus (intro _; exact KQ.out _ D10.out)); have hHeld := hHeld (by decide); clear hK K; (try simp only [Act.put, List.setIfInBounds_toArray, List.set_cons_zero, List.set_cons_succ])
                    (refine wpAnyL_one (i := 9) (o := _) (by kernel_rfl) rfl (fun K hK => ?_); clear hHeld; simp only [List.getElem_toArray, List.getElem_cons_zero, List.getElem_cons_succ]; go_simp; refine hK.out _ _ ?_ (fun hHeld => ?_); focus (intro _; exact KQ.out _ D11.out)); have hHeld := hHeld (by decide); clear hK K; (try simp only [Act.put, List.setIfInBounds_toArray, List.set_cons_zero, List.set_cons_succ])
                    refine wpAnyL_done (by kernel_rfl) ?_ _
                    go_wp2
                    go_meet
                    exact X.out
            · as_aux_lemma =>
                (clear hHeld; simp only [List.getElem_toArray, List.getElem_cons_zero, List.getElem_cons_succ]; go_simp; refine hK.out _ _ ?_ (fun hHeld => ?_); focus (intro _; exact KQ.out _ (D.alloc D.size _))); have hHeld := hHeld (by decide); clear hK K; (try simp only [Act.put, List.setIfInBounds_toArray, List.set_cons_zero, List.set_cons_succ])
                have G' := Blk.new w9 34 #[.bool false, .slice none 0 0]
                have Gn : wf.heap.size ≤ w9.heap.size := D.size
                have hne : Hg ≠ w9.heap.size := Nat.ne_of_lt H.lt
                have H := H.alloc (.cells #[.bool false, .slice none 0 0] 34)
                have D1 : Below wf.heap.size wf (w9.alloc (.cells #[.bool false, .slice none 0 0] 34)) := D.alloc D.size (.cells #[.bool false, .slice none 0 0] 34)
                clear D
                have D := D1
                clear D1
                obtain ⟨w8, hw8⟩ : ∃ w8, w9.alloc (.cells #[.bool false, .slice none 0 0] 34) = w8 := ⟨_, rfl⟩
                obtain ⟨Gg, hGg⟩ : ∃ Gg, w9.heap.size = Gg := ⟨_, rfl⟩
                rw [hw8] at G' D H hHeld ⊢
                rw [hGg] at G' Gn hne ⊢
                have G := G'
                clear G' hw8 hGg
                (refine wpAnyL_one (i := 1) (o := _) (by kernel_rfl) rfl (fun K hK => ?_); clear hHeld; simp only [List.getElem_toArray, List.getElem_cons_zero, List.getElem_cons_succ]; go_simp; (go_at_call 26; (with_reducible refine (HP.out _).mono ?_); rintro e w3 ⟨_, rfl, ⟨b1, A1, n1, c1, rfl, hp0⟩, hb⟩; have hp := hp0.zl; have D := D.trans (hb.mono D.size); have G := G.below hb G.lt; have H := H.below hb H.lt); refine hK.out _ _ ?_ (fun hHeld => ?_); focus (intro _; exact KQ.out _ D)); have hHeld := hHeld (by decide); clear hK K; (try simp only [Act.put, List.setIfInBounds_toArray, List.set_cons_zero, List.set_cons_succ])
                (refine wpAnyL_one (i := 2) (o := _) (by kernel_rfl) rfl (fun K hK => ?_); clear hHeld; simp only [List.getElem_toArray, List.getElem_cons_zero, List.getElem_cons_succ]; go_simp; (go_at_call 52; (with_reducible refine (DZ.out _ _ _ (VQ.out _ D) hp.v).mono ?_); rintro e w4 ⟨_, _, rfl, ⟨bq, Aq, nq, cq, rfl, hq⟩, ⟨br', Ar, nr, cr, rfl, hr⟩, hb⟩; have D := D.trans (hb.mono D.size); have G := G.below hb G.lt; have H := H.below hb H.lt); refine hK.out _ _ ?_ (fun hHeld => ?_); focus (intro _; exact KQ.out _ D)); have hHeld := hHeld (by decide); clear hK K; (try simp only [Act.put, List.setIfInBounds_toArray, List.set_cons_zero, List.set_cons_succ])
                (refine wpAnyL_take (i := 3) (oi := _) (v := ?_) rfl (by kernel_rfl) (by kernel_rfl) (by kernel_rfl) (fun _ _ _ h => h) (Or.inl ⟨by first | rfl | kernel_rfl, ?hy74⟩) (by assumption) ?rs74; (case hy74 => (intro w hSw; (try dsimp only at hSw); go_simp; first | done | with_reducible rfl)); case' rs74 => (simp only [List.getElem_toArray, List.getElem_cons_zero, List.getElem_cons_succ, Act.put, List.setIfInBounds_toArray, List.set_cons_zero, List.set_cons_succ])); (refine wpAnyL_take (i := 4) (oi := _) (v := ?_) rfl (by kernel_rfl) (by kernel_rfl) (by kernel_rfl) (fun _ _ _ h => h) (Or.inl ⟨by first | rfl | kernel_rfl, ?hy75⟩) (by assumption) ?rs75; (case hy75 => (intro w hSw; (try dsimp only at hSw); go_simp; first | done | with_reducible rfl)); case' rs75 => (simp only [List.getElem_toArray, List.getElem_cons_zero, List.getElem_cons_succ, Act.put, List.setIfInBounds_toArray, List.set_cons_zero, List.set_cons_succ])); (refine wpAnyL_take (i := 5) (oi := _) (v := ?_) rfl (by kernel_rfl) (by kernel_rfl) (by kernel_rfl) (fun _ _ _ h => h) (Or.inl ⟨by first | rfl | kernel_rfl, ?hy76⟩) (by assumption) ?rs76; (case hy76 => (intro w hSw; (try dsimp only at hSw); go_simp; first | done | with_reducible rfl)); case' rs76 => (simp only [List.getElem_toArray, List.getElem_cons_zero, List.getElem_cons_succ, Act.put, List.setIfInBounds_toArray, List.set_cons_zero, List.set_cons_succ])); skip
                have X := Lib.hid (qd_set D Gn Hn hne.symm G H hq hr)
                have D10 := below_set2 D Gn (.bool bq) (.slice Aq nq cq)
                have D11 := below_set2 D10 Hn (.bool br') (.slice Ar nr cr)
                have H1 := H.far2 (hne.symm).symm (.bool bq) (.slice Aq nq cq)
                have g0 := G.at_ 0 rfl; have g1 := G.at_ 1 rfl; have f0 := G.frozen 0; have f1 := G.frozen 1; have h0 := H1.at_ 0 rfl; have h1 := H1.at_ 1 rfl; have f2 := H1.frozen 0; have f3 := H1.frozen 1
                have D10 := Lib.hid D10; have D11 := Lib.hid D11
                clear G H H1 D hq hr hp
                (refine wpAnyL_one (i := 8) (o := _) (by kernel_rfl) rfl (fun K hK => ?_); clear hHeld; simp only [List.getElem_toArray, List.getElem_cons_zero, List.getElem_cons_succ]; go_simp; refine hK.out _ _ ?_ (fun hHeld => ?_); focus (intro _; exact KQ.out _ D10.out)); have hHeld := hHeld (by decide); clear hK K; (try simp only [Act.put, List.setIfInBounds_toArray, List.set_cons_zero, List.set_cons_succ])
                (refine wpAnyL_one (i := 9) (o := _) (by kernel_rfl) rfl (fun K hK => ?_); clear hHeld; simp only [List.getElem_toArray, List.getElem_cons_zero, List.getElem_cons_succ]; go_simp; refine hK.out _ _ ?_ (fun hHeld => ?_); focus (intro _; exact KQ.out _ D11.out)); have hHeld := hHeld (by decide); clear hK K; (try simp only [Act.put, List.setIfInBounds_toArray, List.set_cons_zero, List.set_cons_succ])
                refine wpAnyL_done (by kernel_rfl) ?_ _
                go_wp2
                go_meet
                exact X.out
      case rest =>
        obtain ⟨g2, h2, bq2, Aq2, nq2, cq2, br2, Ar2, nr2, cr2, rfl, rfl, hg2, hh2, hne2, G2, H2, hq2, hr2, DC2⟩ := hcut
        have D := Lib.hid (KB3.out _ DC2)
        obtain ⟨wg, hwg⟩ : ∃ wg, wg = wc := ⟨_, rfl⟩
        have KB4 : Hid (∀ W, Below wg.heap.size wg W → (W.cell? ⟨h2, 0, none⟩ = some (.bool br2) ∧ W.cell? ⟨h2, 1, none⟩ = some (.slice Ar2 nr2 cr2)) ∧ Below wd.heap.size wd W) := fun W hb => by
          rw [hwg] at hb
          have h3 := H2.below hb H2.lt
          exact ⟨⟨h3.at_ 0 rfl, h3.at_ 1 rfl⟩, D.out.trans (hb.mono D.out.size)⟩
        have VO : Hid (∀ W, Below wg.heap.size wg W → ZV W (.agg #[.bool br2, .slice Ar2 nr2 cr2]) od) := fun W hb => by
          rw [hwg] at hb
          exact (hr2.below hb).v
        have D : Hid (Below wg.heap.size wg wc) := by rw [hwg]; exact Below.refl _ _
        clear hwg G2 H2 hq2 hr2 DC2 hg2 hh2 hne2 D5 HGf KB3 DZ0 DZ2 N2 VQ1 VF
        have hm5 : mode = 0 ∨ mode = 1 ∨ mode = 2 ∨ mode = 3 ∨ mode = 4 := by omega
        obtain ⟨k0, k1⟩ := (KB4.out _ D.out).1
        obtain ⟨c0, c1'⟩ := (KB2.out _ (KB4.out _ D.out).2).1.1
        clear hm
        rcases hm5 with rfl | rfl | rfl | rfl | rfl
        · rcases hnr3 with rfl | rfl | rfl
          · as_aux_lemma =>
              have hV := Lib.hid (show cutv z1 P 0 = lw + 1 by
                have h := hU.out
                rw [← HB1.out] at h
                rw [h]
                simp [ug])
              clear hU HB1
              go_upto_region 14 with (first
                | (go_at_call 83; (with_reducible refine (SO.out _ _ (VO.out _ D.out)).mono ?_); rintro e w5 ⟨rfl, hb5⟩; have D := Lib.hid (D.out.trans (hb5.mono D.out.size)); obtain ⟨c0, c1'⟩ := (KB2.out _ (KB4.out _ D.out).2).1.1; clear hb5))
              have D := Lib.hid D.out.drew
              clear c0 c1' k0 k1
              (refine wp_region_L (S := fun w' => w'.cell? ⟨g, 0, none⟩ = some (.bool bq) ∧ w'.cell? ⟨g, 1, none⟩ = some (.slice Aq nq cq)) (nl := 3) (by kernel_rfl) ?_ (fun hHeld => ?_); focus (exact (KB2.out _ (KB4.out _ D.out).2).1.1))
              (refine wpAnyL_take (i := 0) (oi := _) (v := ?_) rfl (by kernel_rfl) (by kernel_rfl) (by kernel_rfl) (fun _ _ _ h => h) (Or.inl ⟨by first | rfl | kernel_rfl, ?hy77⟩) (by assumption) ?rs77; (case hy77 => (intro w hSw; (try dsimp only at hSw); go_simp; first | done | with_reducible rfl)); case' rs77 => (simp only [List.getElem_toArray, List.getElem_cons_zero, List.getElem_cons_succ, Act.put, List.setIfInBounds_toArray, List.set_cons_zero, List.set_cons_succ])); skip
              (refine wpAnyL_one (i := 1) (o := _) (by kernel_rfl) rfl (fun K hK => ?_); clear hHeld; simp only [List.getElem_toArray, List.getElem_cons_zero, List.getElem_cons_succ]; go_simp; (go_at_call 26; (with_reducible refine (N1.out _).mono ?_); rintro e w7 ⟨_, rfl, ⟨b7, A7, n7, c7, rfl, h7⟩, hb7⟩; have h7 := Lib.hid h7.v; have D := Lib.hid (D.out.trans (hb7.mono D.out.size)); clear hb7); refine hK.out _ _ ?_ (fun hHeld => ?_); focus (intro _; exact (KB2.out _ (KB4.out _ D.out).2).1.1)); have hHeld := hHeld (by decide); clear hK K; (try simp only [Act.put, List.setIfInBounds_toArray, List.set_cons_zero, List.set_cons_succ])
              (refine wpAnyL_one (i := 2) (o := _) (by kernel_rfl) rfl (fun K hK => ?_); clear hHeld; simp only [List.getElem_toArray, List.getElem_cons_zero, List.getElem_cons_succ]; go_simp; (go_at_call 80; (with_reducible refine (AD1.out _ _ _ (VL.out _ (KB4.out _ D.out).2) h7.out).mono ?_); rintro e w8 ⟨_, rfl, ⟨b8, A8, n8, c8, rfl, h8⟩, hb8⟩; have D := Lib.hid (D.out.trans (hb8.mono D.out.size)); clear hb8 h7); refine hK.out _ _ ?_ (fun hHeld => ?_); focus (intro _; exact (KB2.out _ (KB4.out _ D.out).2).1.1)); have hHeld := hHeld (by decide); clear hK K; (try simp only [Act.put, List.setIfInBounds_toArray, List.set_cons_zero, List.set_cons_succ])
              have Bg := FG.out _ (KB4.out _ D.out).2
              have c0 := Bg.at_ 0 rfl; have c1' := Bg.at_ 1 rfl; have f0 := Bg.frozen 0; have f1 := Bg.frozen 1
              have DS := below_set2 (KB2.out _ (KB4.out _ D.out).2).2 HgE.out (.bool b8) (.slice A8 n8 c8)
              have VS := ZL.box h8.zl c0 c1' (.bool b8) (.slice A8 n8 c8)
              have GS := Bg.set2 (.bool b8) (.slice A8 n8 c8)
              have DS := Lib.hid DS; have VS := Lib.hid VS; have GS := Lib.hid GS
              clear Bg h8
              (refine wpAnyL_one (i := 3) (o := _) (by kernel_rfl) rfl (fun K hK => ?_); clear hHeld; simp only [List.getElem_toArray, List.getElem_cons_zero, List.getElem_cons_succ]; go_simp; refine hK.out _ _ ?_ (fun hHeld => ?_); focus (intro h; exact absurd h (by decide))); clear hK K; (try simp only [Act.put, List.setIfInBounds_toArray, List.set_cons_zero, List.set_cons_succ])
              refine wpAnyL_done (by kernel_rfl) ?_ _
              go_upto_region 15 with fail
              clear c0 c1' f0 f1
              obtain ⟨wS, hwS⟩ : ∃ wS, (w8.setCell ⟨g, 0, none⟩ (.bool b8)).setCell ⟨g, 1, none⟩ (.slice A8 n8 c8) = wS := ⟨_, rfl⟩
              rw [hwS] at DS VS GS ⊢
              have c0 := GS.out.at_ 0 rfl; have c1' := GS.out.at_ 1 rfl
              clear hwS D GS
              go_wp2_with (first
                | (go_at_call 13; (with_reducible refine (QM1.out _ _ (VS.out.v)).mono ?_); rintro e w9 ⟨b9, A9, n9, c9, rfl, h9, hb9⟩; have D9 := (DS.out.trans (hb9.mono DS.out.size)); obtain ⟨-, -, R0, D4⟩ := KB1.out _ D9; have r0 := R0.at_ 0 rfl; have r1 := R0.at_ 1 rfl; have r2 := R0.at_ 2 rfl; have f0 := R0.frozen 0; have f1 := R0.frozen 1; have f2 := R0.frozen 2; have X := Lib.hid (set3 h9 (off_q h9 R0) (.bool b9) (.slice A9 n9 c9) (.int .i64 (mkt places))); have D4 := Lib.hid D4; clear D9 R0 hb9 h9))
              refine bodyPost_ret (v := .tuple #[.agg #[.bool b9, .slice A9 n9 c9, .int .i64 (mkt places)], .bool true]) (by simp [results, Tryd.results50, go_sem, r0, r1, r2]) rfl ?_
              exact ⟨fun h => absurd h HL.out, fun _ => ⟨b9, A9, n9, c9, rfl, by rw [hV.out]; exact X.out, below3q D4.out (by omega) _ _ _⟩⟩
          · rcases hod2 with rfl | rfl
            · as_aux_lemma =>
                have hV := Lib.hid (show cutv z1 P 0 = lw by
                  have h := hU.out
                  rw [← HB1.out] at h
                  rw [h]
                  simp [ug])
                clear hU HB1
                go_wp2_with (first
                  | (go_at_call 83; (with_reducible refine (SO.out _ _ (VO.out _ D.out)).mono ?_); rintro e w5 ⟨rfl, hb5⟩; have D := Lib.hid (D.out.trans (hb5.mono D.out.size)); obtain ⟨c0, c1'⟩ := (KB2.out _ (KB4.out _ D.out).2).1.1; clear hb5)
                  | (go_at_call 13; (with_reducible refine (QM0.out _ _ (VL.out _ (KB4.out _ D.out).2)).mono ?_); rintro e w9 ⟨b9, A9, n9, c9, rfl, h9, hb9⟩; have D9 := ((KB2.out _ (KB4.out _ D.out).2).2.trans (hb9.mono (KB2.out _ (KB4.out _ D.out).2).2.size)); obtain ⟨-, -, R0, D4⟩ := KB1.out _ D9; have r0 := R0.at_ 0 rfl; have r1 := R0.at_ 1 rfl; have r2 := R0.at_ 2 rfl; have f0 := R0.frozen 0; have f1 := R0.frozen 1; have f2 := R0.frozen 2; have X := Lib.hid (set3 h9 (off_q h9 R0) (.bool b9) (.slice A9 n9 c9) (.int .i64 (mkt places))); have D4 := Lib.hid D4; clear D9 R0 hb9 h9))
                refine bodyPost_ret (v := .tuple #[.agg #[.bool b9, .slice A9 n9 c9, .int .i64 (mkt places)], .bool true]) (by simp [results, Tryd.results50, go_sem, r0, r1, r2]) rfl ?_
                exact ⟨fun h => absurd h HL.out, fun _ => ⟨b9, A9, n9, c9, rfl, by rw [hV.out]; exact X.out, below3q D4.out (by omega) _ _ _⟩⟩
            · as_aux_lemma =>
                have hV := Lib.hid (show cutv z1 P 0 = lw + 1 by
                  have h := hU.out
                  rw [← HB1.out] at h
                  rw [h]
                  simp [ug])
                clear hU HB1
                go_upto_region 14 with (first
                  | (go_at_call 83; (with_reducible refine (SO.out _ _ (VO.out _ D.out)).mono ?_); rintro e w5 ⟨rfl, hb5⟩; have D := Lib.hid (D.out.trans (hb5.mono D.out.size)); obtain ⟨c0, c1'⟩ := (KB2.out _ (KB4.out _ D.out).2).1.1; clear hb5))
                have D := Lib.hid D.out.drew
                clear c0 c1' k0 k1
                (refine wp_region_L (S := fun w' => w'.cell? ⟨g, 0, none⟩ = some (.bool bq) ∧ w'.cell? ⟨g, 1, none⟩ = some (.slice Aq nq cq)) (nl := 3) (by kernel_rfl) ?_ (fun hHeld => ?_); focus (exact (KB2.out _ (KB4.out _ D.out).2).1.1))
                (refine wpAnyL_take (i := 0) (oi := _) (v := ?_) rfl (by kernel_rfl) (by kernel_rfl) (by kernel_rfl) (fun _ _ _ h => h) (Or.inl ⟨by first | rfl | kernel_rfl, ?hy78⟩) (by assumption) ?rs78; (case hy78 => (intro w hSw; (try dsimp only at hSw); go_simp; first | done | with_reducible rfl)); case' rs78 => (simp only [List.getElem_toArray, List.getElem_cons_zero, List.getElem_cons_succ, Act.put, List.setIfInBounds_toArray, List.set_cons_zero, List.set_cons_succ])); skip
                (refine wpAnyL_one (i := 1) (o := _) (by kernel_rfl) rfl (fun K hK => ?_); clear hHeld; simp only [List.getElem_toArray, List.getElem_cons_zero, List.getElem_cons_succ]; go_simp; (go_at_call 26; (with_reducible refine (N1.out _).mono ?_); rintro e w7 ⟨_, rfl, ⟨b7, A7, n7, c7, rfl, h7⟩, hb7⟩; have h7 := Lib.hid h7.v; have D := Lib.hid (D.out.trans (hb7.mono D.out.size)); clear hb7); refine hK.out _ _ ?_ (fun hHeld => ?_); focus (intro _; exact (KB2.out _ (KB4.out _ D.out).2).1.1)); have hHeld := hHeld (by decide); clear hK K; (try simp only [Act.put, List.setIfInBounds_toArray, List.set_cons_zero, List.set_cons_succ])
                (refine wpAnyL_one (i := 2) (o := _) (by kernel_rfl) rfl (fun K hK => ?_); clear hHeld; simp only [List.getElem_toArray, List.getElem_cons_zero, List.getElem_cons_succ]; go_simp; (go_at_call 80; (with_reducible refine (AD1.out _ _ _ (VL.out _ (KB4.out _ D.out).2) h7.out).mono ?_); rintro e w8 ⟨_, rfl, ⟨b8, A8, n8, c8, rfl, h8⟩, hb8⟩; have D := Lib.hid (D.out.trans (hb8.mono D.out.size)); clear hb8 h7); refine hK.out _ _ ?_ (fun hHeld => ?_); focus (intro _; exact (KB2.out _ (KB4.out _ D.out).2).1.1)); have hHeld := hHeld (by decide); clear hK K; (try simp only [Act.put, List.setIfInBounds_toArray, List.set_cons_zero, List.set_cons_succ])
                have Bg := FG.out _ (KB4.out _ D.out).2
                have c0 := Bg.at_ 0 rfl; have c1' := Bg.at_ 1 rfl; have f0 := Bg.frozen 0; have f1 := Bg.frozen 1
                have DS := below_set2 (KB2.out _ (KB4.out _ D.out).2).2 HgE.out (.bool b8) (.slice A8 n8 c8)
                have VS := ZL.box h8.zl c0 c1' (.bool b8) (.slice A8 n8 c8)
                have GS := Bg.set2 (.bool b8) (.slice A8 n8 c8)
                have DS := Lib.hid DS; have VS := Lib.hid VS; have GS := Lib.hid GS
                clear Bg h8
                (refine wpAnyL_one (i := 3) (o := _) (by kernel_rfl) rfl (fun K hK => ?_); clear hHeld; simp only [List.getElem_toArray, List.getElem_cons_zero, List.getElem_cons_succ]; go_simp; refine hK.out _ _ ?_ (fun hHeld => ?_); focus (intro h; exact absurd h (by decide))); clear hK K; (try simp only [Act.put, List.setIfInBounds_toArray, List.set_cons_zero, List.set_cons_succ])
                refine wpAnyL_done (by kernel_rfl) ?_ _
                go_upto_region 15 with fail
                clear c0 c1' f0 f1
                obtain ⟨wS, hwS⟩ : ∃ wS, (w8.setCell ⟨g, 0, none⟩ (.bool b8)).setCell ⟨g, 1, none⟩ (.slice A8 n8 c8) = wS := ⟨_, rfl⟩
                rw [hwS] at DS VS GS ⊢
                have c0 := GS.out.at_ 0 rfl; have c1' := GS.out.at_ 1 rfl
                clear hwS D GS
                go_wp2_with (first
                  | (go_at_call 13; (with_reducible refine (QM1.out _ _ (VS.out.v)).mono ?_); rintro e w9 ⟨b9, A9, n9, c9, rfl, h9, hb9⟩; have D9 := (DS.out.trans (hb9.mono DS.out.size)); obtain ⟨-, -, R0, D4⟩ := KB1.out _ D9; have r0 := R0.at_ 0 rfl; have r1 := R0.at_ 1 rfl; have r2 := R0.at_ 2 rfl; have f0 := R0.frozen 0; have f1 := R0.frozen 1; have f2 := R0.frozen 2; have X := Lib.hid (set3 h9 (off_q h9 R0) (.bool b9) (.slice A9 n9 c9) (.int .i64 (mkt places))); have D4 := Lib.hid D4; clear D9 R0 hb9 h9))
                refine bodyPost_ret (v := .tuple #[.agg #[.bool b9, .slice A9 n9 c9, .int .i64 (mkt places)], .bool true]) (by simp [results, Tryd.results50, go_sem, r0, r1, r2]) rfl ?_
                exact ⟨fun h => absurd h HL.out, fun _ => ⟨b9, A9, n9, c9, rfl, by rw [hV.out]; exact X.out, below3q D4.out (by omega) _ _ _⟩⟩
          · as_aux_lemma =>
              have hV := Lib.hid (show cutv z1 P 0 = lw by
                have h := hU.out
                rw [← HB1.out] at h
                rw [h]
                simp [ug])
              clear hU HB1
              go_wp2_with (first
                | (go_at_call 83; (with_reducible refine (SO.out _ _ (VO.out _ D.out)).mono ?_); rintro e w5 ⟨rfl, hb5⟩; have D := Lib.hid (D.out.trans (hb5.mono D.out.size)); obtain ⟨c0, c1'⟩ := (KB2.out _ (KB4.out _ D.out).2).1.1; clear hb5)
                | (go_at_call 13; (with_reducible refine (QM0.out _ _ (VL.out _ (KB4.out _ D.out).2)).mono ?_); rintro e w9 ⟨b9, A9, n9, c9, rfl, h9, hb9⟩; have D9 := ((KB2.out _ (KB4.out _ D.out).2).2.trans (hb9.mono (KB2.out _ (KB4.out _ D.out).2).2.size)); obtain ⟨-, -, R0, D4⟩ := KB1.out _ D9; have r0 := R0.at_ 0 rfl; have r1 := R0.at_ 1 rfl; have r2 := R0.at_ 2 rfl; have f0 := R0.frozen 0; have f1 := R0.frozen 1; have f2 := R0.frozen 2; have X := Lib.hid (set3 h9 (off_q h9 R0) (.bool b9) (.slice A9 n9 c9) (.int .i64 (mkt places))); have D4 := Lib.hid D4; clear D9 R0 hb9 h9))
              refine bodyPost_ret (v := .tuple #[.agg #[.bool b9, .slice A9 n9 c9, .int .i64 (mkt places)], .bool true]) (by simp [results, Tryd.results50, go_sem, r0, r1, r2]) rfl ?_
              exact ⟨fun h => absurd h HL.out, fun _ => ⟨b9, A9, n9, c9, rfl, by rw [hV.out]; exact X.out, below3q D4.out (by omega) _ _ _⟩⟩
        · rcases hnr3 with rfl | rfl | rfl
          · as_aux_lemma =>
              have hV := Lib.hid (show cutv z1 P 1 = lw + 1 by
                have h := hU.out
                rw [← HB1.out] at h
                rw [h]
                simp [ug])
              clear hU HB1
              go_upto_region 14 with (first
                | (go_at_call 83; (with_reducible refine (SO.out _ _ (VO.out _ D.out)).mono ?_); rintro e w5 ⟨rfl, hb5⟩; have D := Lib.hid (D.out.trans (hb5.mono D.out.size)); obtain ⟨c0, c1'⟩ := (KB2.out _ (KB4.out _ D.out).2).1.1; clear hb5))
              have D := Lib.hid D.out.drew
              clear c0 c1' k0 k1
              (refine wp_region_L (S := fun w' => w'.cell? ⟨g, 0, none⟩ = some (.bool bq) ∧ w'.cell? ⟨g, 1, none⟩ = some (.slice Aq nq cq)) (nl := 3) (by kernel_rfl) ?_ (fun hHeld => ?_); focus (exact (KB2.out _ (KB4.out _ D.out).2).1.1))
              (refine wpAnyL_take (i := 0) (oi := _) (v := ?_) rfl (by kernel_rfl) (by kernel_rfl) (by kernel_rfl) (fun _ _ _ h => h) (Or.inl ⟨by first | rfl | kernel_rfl, ?hy79⟩) (by assumption) ?rs79; (case hy79 => (intro w hSw; (try dsimp only at hSw); go_simp; first | done | with_reducible rfl)); case' rs79 => (simp only [List.getElem_toArray, List.getElem_cons_zero, List.getElem_cons_succ, Act.put, List.setIfInBounds_toArray, List.set_cons_zero, List.set_cons_succ])); skip
              (refine wpAnyL_one (i := 1) (o := _) (by kernel_rfl) rfl (fun K hK => ?_); clear hHeld; simp only [List.getElem_toArray, List.getElem_cons_zero, List.getElem_cons_succ]; go_simp; (go_at_call 26; (with_reducible refine (N1.out _).mono ?_); rintro e w7 ⟨_, rfl, ⟨b7, A7, n7, c7, rfl, h7⟩, hb7⟩; have h7 := Lib.hid h7.v; have D := Lib.hid (D.out.trans (hb7.mono D.out.size)); clear hb7); refine hK.out _ _ ?_ (fun hHeld => ?_); focus (intro _; exact (KB2.out _ (KB4.out _ D.out).2).1.1)); have hHeld := hHeld (by decide); clear hK K; (try simp only [Act.put, List.setIfInBounds_toArray, List.set_cons_zero, List.set_cons_succ])
              (refine wpAnyL_one (i := 2) (o := _) (by kernel_rfl) rfl (fun K hK => ?_); clear hHeld; simp only [List.getElem_toArray, List.getElem_cons_zero, List.getElem_cons_succ]; go_simp; (go_at_call 80; (with_reducible refine (AD1.out _ _ _ (VL.out _ (KB4.out _ D.out).2) h7.out).mono ?_); rintro e w8 ⟨_, rfl, ⟨b8, A8, n8, c8, rfl, h8⟩, hb8⟩; have D := Lib.hid (D.out.trans (hb8.mono D.out.size)); clear hb8 h7); refine hK.out _ _ ?_ (fun hHeld => ?_); focus (intro _; exact (KB2.out _ (KB4.out _ D.out).2).1.1)); have hHeld := hHeld (by decide); clear hK K; (try simp only [Act.put, List.setIfInBounds_toArray, List.set_cons_zero, List.set_cons_succ])
              have Bg := FG.out _ (KB4.out _ D.out).2
              have c0 := Bg.at_ 0 rfl; have c1' := Bg.at_ 1 rfl; have f0 := Bg.frozen 0; have f1 := Bg.frozen 1
              have DS := below_set2 (KB2.out _ (KB4.out _ D.out).2).2 HgE.out (.bool b8) (.slice A8 n8 c8)
              have VS := ZL.box h8.zl c0 c1' (.bool b8) (.slice A8 n8 c8)
              have GS := Bg.set2 (.bool b8) (.slice A8 n8 c8)
              have DS := Lib.hid DS; have VS := Lib.hid VS; have GS := Lib.hid GS
              clear Bg h8
              (refine wpAnyL_one (i := 3) (o := _) (by kernel_rfl) rfl (fun K hK => ?_); clear hHeld; simp only [List.getElem_toArray, List.getElem_cons_zero, List.getElem_cons_succ]; go_simp; refine hK.out _ _ ?_ (fun hHeld => ?_); focus (intro h; exact absurd h (by decide))); clear hK K; (try simp only [Act.put, List.setIfInBounds_toArray, List.set_cons_zero, List.set_cons_succ])
              refine wpAnyL_done (by kernel_rfl) ?_ _
              go_upto_region 15 with fail
              clear c0 c1' f0 f1
              obtain ⟨wS, hwS⟩ : ∃ wS, (w8.setCell ⟨g, 0, none⟩ (.bool b8)).setCell ⟨g, 1, none⟩ (.slice A8 n8 c8) = wS := ⟨_, rfl⟩
              rw [hwS] at DS VS GS ⊢
              have c0 := GS.out.at_ 0 rfl; have c1' := GS.out.at_ 1 rfl
              clear hwS D GS
              go_wp2_with (first
                | (go_at_call 13; (with_reducible refine (QM1.out _ _ (VS.out.v)).mono ?_); rintro e w9 ⟨b9, A9, n9, c9, rfl, h9, hb9⟩; have D9 := (DS.out.trans (hb9.mono DS.out.size)); obtain ⟨-, -, R0, D4⟩ := KB1.out _ D9; have r0 := R0.at_ 0 rfl; have r1 := R0.at_ 1 rfl; have r2 := R0.at_ 2 rfl; have f0 := R0.frozen 0; have f1 := R0.frozen 1; have f2 := R0.frozen 2; have X := Lib.hid (set3 h9 (off_q h9 R0) (.bool b9) (.slice A9 n9 c9) (.int .i64 (mkt places))); have D4 := Lib.hid D4; clear D9 R0 hb9 h9))
              refine bodyPost_ret (v := .tuple #[.agg #[.bool b9, .slice A9 n9 c9, .int .i64 (mkt places)], .bool true]) (by simp [results, Tryd.results50, go_sem, r0, r1, r2]) rfl ?_
              exact ⟨fun h => absurd h HL.out, fun _ => ⟨b9, A9, n9, c9, rfl, by rw [hV.out]; exact X.out, below3q D4.out (by omega) _ _ _⟩⟩
          · as_aux_lemma =>
              have hV := Lib.hid (show cutv z1 P 1 = lw + 1 by
                have h := hU.out
                rw [← HB1.out] at h
                rw [h]
                simp [ug])
              clear hU HB1
              go_upto_region 14 with (first
                | (go_at_call 83; (with_reducible refine (SO.out _ _ (VO.out _ D.out)).mono ?_); rintro e w5 ⟨rfl, hb5⟩; have D := Lib.hid (D.out.trans (hb5.mono D.out.size)); obtain ⟨c0, c1'⟩ := (KB2.out _ (KB4.out _ D.out).2).1.1; clear hb5))
              have D := Lib.hid D.out.drew
              clear c0 c1' k0 k1
              (refine wp_region_L (S := fun w' => w'.cell? ⟨g, 0, none⟩ = some (.bool bq) ∧ w'.cell? ⟨g, 1, none⟩ = some (.slice Aq nq cq)) (nl := 3) (by kernel_rfl) ?_ (fun hHeld => ?_); focus (exact (KB2.out _ (KB4.out _ D.out).2).1.1))
              (refine wpAnyL_take (i := 0) (oi := _) (v := ?_) rfl (by kernel_rfl) (by kernel_rfl) (by kernel_rfl) (fun _ _ _ h => h) (Or.inl ⟨by first | rfl | kernel_rfl, ?hy80⟩) (by assumption) ?rs80; (case hy80 => (intro w hSw; (try dsimp only at hSw); go_simp; first | done | with_reducible rfl)); case' rs80 => (simp only [List.getElem_toArray, List.getElem_cons_zero, List.getElem_cons_succ, Act.put, List.setIfInBounds_toArray, List.set_cons_zero, List.set_cons_succ])); skip
              (refine wpAnyL_one (i := 1) (o := _) (by kernel_rfl) rfl (fun K hK => ?_); clear hHeld; simp only [List.getElem_toArray, List.getElem_cons_zero, List.getElem_cons_succ]; go_simp; (go_at_call 26; (with_reducible refine (N1.out _).mono ?_); rintro e w7 ⟨_, rfl, ⟨b7, A7, n7, c7, rfl, h7⟩, hb7⟩; have h7 := Lib.hid h7.v; have D := Lib.hid (D.out.trans (hb7.mono D.out.size)); clear hb7); refine hK.out _ _ ?_ (fun hHeld => ?_); focus (intro _; exact (KB2.out _ (KB4.out _ D.out).2).1.1)); have hHeld := hHeld (by decide); clear hK K; (try simp only [Act.put, List.setIfInBounds_toArray, List.set_cons_zero, List.set_cons_succ])
              (refine wpAnyL_one (i := 2) (o := _) (by kernel_rfl) rfl (fun K hK => ?_); clear hHeld; simp only [List.getElem_toArray, List.getElem_cons_zero, List.getElem_cons_succ]; go_simp; (go_at_call 80; (with_reducible refine (AD1.out _ _ _ (VL.out _ (KB4.out _ D.out).2) h7.out).mono ?_); rintro e w8 ⟨_, rfl, ⟨b8, A8, n8, c8, rfl, h8⟩, hb8⟩; have D := Lib.hid (D.out.trans (hb8.mono D.out.size)); clear hb8 h7); refine hK.out _ _ ?_ (fun hHeld => ?_); focus (intro _; exact (KB2.out _ (KB4.out _ D.out).2).1.1)); have hHeld := hHeld (by decide); clear hK K; (try simp only [Act.put, List.setIfInBounds_toArray, List.set_cons_zero, List.set_cons_succ])
              have Bg := FG.out _ (KB4.out _ D.out).2
              have c0 := Bg.at_ 0 rfl; have c1' := Bg.at_ 1 rfl; have f0 := Bg.frozen 0; have f1 := Bg.frozen 1
              have DS := below_set2 (KB2.out _ (KB4.out _ D.out).2).2 HgE.out (.bool b8) (.slice A8 n8 c8)
              have VS := ZL.box h8.zl c0 c1' (.bool b8) (.slice A8 n8 c8)
              have GS := Bg.set2 (.bool b8) (.slice A8 n8 c8)
              have DS := Lib.hid DS; have VS := Lib.hid VS; have GS := Lib.hid GS
              clear Bg h8
              (refine wpAnyL_one (i := 3) (o := _) (by kernel_rfl) rfl (fun K hK => ?_); clear hHeld; simp only [List.getElem_toArray, List.getElem_cons_zero, List.getElem_cons_succ]; go_simp; refine hK.out _ _ ?_ (fun hHeld => ?_); focus (intro h; exact absurd h (by decide))); clear hK K; (try simp only [Act.put, List.setIfInBounds_toArray, List.set_cons_zero, List.set_cons_succ])
              refine wpAnyL_done (by kernel_rfl) ?_ _
              go_upto_region 15 with fail
              clear c0 c1' f0 f1
              obtain ⟨wS, hwS⟩ : ∃ wS, (w8.setCell ⟨g, 0, none⟩ (.bool b8)).setCell ⟨g, 1, none⟩ (.slice A8 n8 c8) = wS := ⟨_, rfl⟩
              rw [hwS] at DS VS GS ⊢
              have c0 := GS.out.at_ 0 rfl; have c1' := GS.out.at_ 1 rfl
              clear hwS D GS
              go_wp2_with (first
                | (go_at_call 13; (with_reducible refine (QM1.out _ _ (VS.out.v)).mono ?_); rintro e w9 ⟨b9, A9, n9, c9, rfl, h9, hb9⟩; have D9 := (DS.out.trans (hb9.mono DS.out.size)); obtain ⟨-, -, R0, D4⟩ := KB1.out _ D9; have r0 := R0.at_ 0 rfl; have r1 := R0.at_ 1 rfl; have r2 := R0.at_ 2 rfl; have f0 := R0.frozen 0; have f1 := R0.frozen 1; have f2 := R0.frozen 2; have X := Lib.hid (set3 h9 (off_q h9 R0) (.bool b9) (.slice A9 n9 c9) (.int .i64 (mkt places))); have D4 := Lib.hid D4; clear D9 R0 hb9 h9))
              refine bodyPost_ret (v := .tuple #[.agg #[.bool b9, .slice A9 n9 c9, .int .i64 (mkt places)], .bool true]) (by simp [results, Tryd.results50, go_sem, r0, r1, r2]) rfl ?_
              exact ⟨fun h => absurd h HL.out, fun _ => ⟨b9, A9, n9, c9, rfl, by rw [hV.out]; exact X.out, below3q D4.out (by omega) _ _ _⟩⟩
          · as_aux_lemma =>
              have hV := Lib.hid (show cutv z1 P 1 = lw + 1 by
                have h := hU.out
                rw [← HB1.out] at h
                rw [h]
                simp [ug])
              clear hU HB1
              go_upto_region 14 with (first
                | (go_at_call 83; (with_reducible refine (SO.out _ _ (VO.out _ D.out)).mono ?_); rintro e w5 ⟨rfl, hb5⟩; have D := Lib.hid (D.out.trans (hb5.mono D.out.size)); obtain ⟨c0, c1'⟩ := (KB2.out _ (KB4.out _ D.out).2).1.1; clear hb5))
              have D := Lib.hid D.out.drew
              clear c0 c1' k0 k1
              (refine wp_region_L (S := fun w' => w'.cell? ⟨g, 0, none⟩ = some (.bool bq) ∧ w'.cell? ⟨g, 1, none⟩ = some (.slice Aq nq cq)) (nl := 3) (by kernel_rfl) ?_ (fun hHeld => ?_); focus (exact (KB2.out _ (KB4.out _ D.out).2).1.1))
              (refine wpAnyL_take (i := 0) (oi := _) (v := ?_) rfl (by kernel_rfl) (by kernel_rfl) (by kernel_rfl) (fun _ _ _ h => h) (Or.inl ⟨by first | rfl | kernel_rfl, ?hy81⟩) (by assumption) ?rs81; (case hy81 => (intro w hSw; (try dsimp only at hSw); go_simp; first | done | with_reducible rfl)); case' rs81 => (simp only [List.getElem_toArray, List.getElem_cons_zero, List.getElem_cons_succ, Act.put, List.setIfInBounds_toArray, List.set_cons_zero, List.set_cons_succ])); skip
              (refine wpAnyL_one (i := 1) (o := _) (by kernel_rfl) rfl (fun K hK => ?_); clear hHeld; simp only [List.getElem_toArray, List.getElem_cons_zero, List.getElem_cons_succ]; go_simp; (go_at_call 26; (with_reducible refine (N1.out _).mono ?_); rintro e w7 ⟨_, rfl, ⟨b7, A7, n7, c7, rfl, h7⟩, hb7⟩; have h7 := Lib.hid h7.v; have D := Lib.hid (D.out.trans (hb7.mono D.out.size)); clear hb7); refine hK.out _ _ ?_ (fun hHeld => ?_); focus (intro _; exact (KB2.out _ (KB4.out _ D.out).2).1.1)); have hHeld := hHeld (by decide); clear hK K; (try simp only [Act.put, List.setIfInBounds_toArray, List.set_cons_zero, List.set_cons_succ])
              (refine wpAnyL_one (i := 2) (o := _) (by kernel_rfl) rfl (fun K hK => ?_); clear hHeld; simp only [List.getElem_toArray, List.getElem_cons_zero, List.getElem_cons_succ]; go_simp; (go_at_call 80; (with_reducible refine (AD1.out _ _ _ (VL.out _ (KB4.out _ D.out).2) h7.out).mono ?_); rintro e w8 ⟨_, rfl, ⟨b8, A8, n8, c8, rfl, h8⟩, hb8⟩; have D := Lib.hid (D.out.trans (hb8.mono D.out.size)); clear hb8 h7); refine hK.out _ _ ?_ (fun hHeld => ?_); focus (intro _; exact (KB2.out _ (KB4.out _ D.out).2).1.1)); have hHeld := hHeld (by decide); clear hK K; (try simp only [Act.put, List.setIfInBounds_toArray, List.set_cons_zero, List.set_cons_succ])
              have Bg := FG.out _ (KB4.out _ D.out).2
              have c0 := Bg.at_ 0 rfl; have c1' := Bg.at_ 1 rfl; have f0 := Bg.frozen 0; have f1 := Bg.frozen 1
              have DS := below_set2 (KB2.out _ (KB4.out _ D.out).2).2 HgE.out (.bool b8) (.slice A8 n8 c8)
              have VS := ZL.box h8.zl c0 c1' (.bool b8) (.slice A8 n8 c8)
              have GS := Bg.set2 (.bool b8) (.slice A8 n8 c8)
              have DS := Lib.hid DS; have VS := Lib.hid VS; have GS := Lib.hid GS
              clear Bg h8
              (refine wpAnyL_one (i := 3) (o := _) (by kernel_rfl) rfl (fun K hK => ?_); clear hHeld; simp only [List.getElem_toArray, List.getElem_cons_zero, List.getElem_cons_succ]; go_simp; refine hK.out _ _ ?_ (fun hHeld => ?_); focus (intro h; exact absurd h (by decide))); clear hK K; (try simp only [Act.put, List.setIfInBounds_toArray, List.set_cons_zero, List.set_cons_succ])
              refine wpAnyL_done (by kernel_rfl) ?_ _
              go_upto_region 15 with fail
              clear c0 c1' f0 f1
              obtain ⟨wS, hwS⟩ : ∃ wS, (w8.setCell ⟨g, 0, none⟩ (.bool b8)).setCell ⟨g, 1, none⟩ (.slice A8 n8 c8) = wS := ⟨_, rfl⟩
              rw [hwS] at DS VS GS ⊢
              have c0 := GS.out.at_ 0 rfl; have c1' := GS.out.at_ 1 rfl
              clear hwS D GS
              go_wp2_with (first
                | (go_at_call 13; (with_reducible refine (QM1.out _ _ (VS.out.v)).mono ?_); rintro e w9 ⟨b9, A9, n9, c9, rfl, h9, hb9⟩; have D9 := (DS.out.trans (hb9.mono DS.out.size)); obtain ⟨-, -, R0, D4⟩ := KB1.out _ D9; have r0 := R0.at_ 0 rfl; have r1 := R0.at_ 1 rfl; have r2 := R0.at_ 2 rfl; have f0 := R0.frozen 0; have f1 := R0.frozen 1; have f2 := R0.frozen 2; have X := Lib.hid (set3 h9 (off_q h9 R0) (.bool b9) (.slice A9 n9 c9) (.int .i64 (mkt places))); have D4 := Lib.hid D4; clear D9 R0 hb9 h9))
              refine bodyPost_ret (v := .tuple #[.agg #[.bool b9, .slice A9 n9 c9, .int .i64 (mkt places)], .bool true]) (by simp [results, Tryd.results50, go_sem, r0, r1, r2]) rfl ?_
              exact ⟨fun h => absurd h HL.out, fun _ => ⟨b9, A9, n9, c9, rfl, by rw [hV.out]; exact X.out, below3q D4.out (by omega) _ _ _⟩⟩
        · rcases hnr3 with rfl | rfl | rfl
          · as_aux_lemma =>
              have hV := Lib.hid (show cutv z1 P 2 = lw by
                have h := hU.out
                rw [← HB1.out] at h
                rw [h]
                simp [ug])
              clear hU HB1
              go_wp2_with (first
                | (go_at_call 83; (with_reducible refine (SO.out _ _ (VO.out _ D.out)).mono ?_); rintro e w5 ⟨rfl, hb5⟩; have D := Lib.hid (D.out.trans (hb5.mono D.out.size)); obtain ⟨c0, c1'⟩ := (KB2.out _ (KB4.out _ D.out).2).1.1; clear hb5)
                | (go_at_call 13; (with_reducible refine (QM0.out _ _ (VL.out _ (KB4.out _ D.out).2)).mono ?_); rintro e w9 ⟨b9, A9, n9, c9, rfl, h9, hb9⟩; have D9 := ((KB2.out _ (KB4.out _ D.out).2).2.trans (hb9.mono (KB2.out _ (KB4.out _ D.out).2).2.size)); obtain ⟨-, -, R0, D4⟩ := KB1.out _ D9; have r0 := R0.at_ 0 rfl; have r1 := R0.at_ 1 rfl; have r2 := R0.at_ 2 rfl; have f0 := R0.frozen 0; have f1 := R0.frozen 1; have f2 := R0.frozen 2; have X := Lib.hid (set3 h9 (off_q h9 R0) (.bool b9) (.slice A9 n9 c9) (.int .i64 (mkt places))); have D4 := Lib.hid D4; clear D9 R0 hb9 h9))
              refine bodyPost_ret (v := .tuple #[.agg #[.bool b9, .slice A9 n9 c9, .int .i64 (mkt places)], .bool true]) (by simp [results, Tryd.results50, go_sem, r0, r1, r2]) rfl ?_
              exact ⟨fun h => absurd h HL.out, fun _ => ⟨b9, A9, n9, c9, rfl, by rw [hV.out]; exact X.out, below3q D4.out (by omega) _ _ _⟩⟩
          · as_aux_lemma =>
              have hV := Lib.hid (show cutv z1 P 2 = lw by
                have h := hU.out
                rw [← HB1.out] at h
                rw [h]
                simp [ug])
              clear hU HB1
              go_wp2_with (first
                | (go_at_call 83; (with_reducible refine (SO.out _ _ (VO.out _ D.out)).mono ?_); rintro e w5 ⟨rfl, hb5⟩; have D := Lib.hid (D.out.trans (hb5.mono D.out.size)); obtain ⟨c0, c1'⟩ := (KB2.out _ (KB4.out _ D.out).2).1.1; clear hb5)
                | (go_at_call 13; (with_reducible refine (QM0.out _ _ (VL.out _ (KB4.out _ D.out).2)).mono ?_); rintro e w9 ⟨b9, A9, n9, c9, rfl, h9, hb9⟩; have D9 := ((KB2.out _ (KB4.out _ D.out).2).2.trans (hb9.mono (KB2.out _ (KB4.out _ D.out).2).2.size)); obtain ⟨-, -, R0, D4⟩ := KB1.out _ D9; have r0 := R0.at_ 0 rfl; have r1 := R0.at_ 1 rfl; have r2 := R0.at_ 2 rfl; have f0 := R0.frozen 0; have f1 := R0.frozen 1; have f2 := R0.frozen 2; have X := Lib.hid (set3 h9 (off_q h9 R0) (.bool b9) (.slice A9 n9 c9) (.int .i64 (mkt places))); have D4 := Lib.hid D4; clear D9 R0 hb9 h9))
              refine bodyPost_ret (v := .tuple #[.agg #[.bool b9, .slice A9 n9 c9, .int .i64 (mkt places)], .bool true]) (by simp [results, Tryd.results50, go_sem, r0, r1, r2]) rfl ?_
              exact ⟨fun h => absurd h HL.out, fun _ => ⟨b9, A9, n9, c9, rfl, by rw [hV.out]; exact X.out, below3q D4.out (by omega) _ _ _⟩⟩
          · as_aux_lemma =>
              have hV := Lib.hid (show cutv z1 P 2 = lw by
                have h := hU.out
                rw [← HB1.out] at h
                rw [h]
                simp [ug])
              clear hU HB1
              go_wp2_with (first
                | (go_at_call 83; (with_reducible refine (SO.out _ _ (VO.out _ D.out)).mono ?_); rintro e w5 ⟨rfl, hb5⟩; have D := Lib.hid (D.out.trans (hb5.mono D.out.size)); obtain ⟨c0, c1'⟩ := (KB2.out _ (KB4.out _ D.out).2).1.1; clear hb5)
                | (go_at_call 13; (with_reducible refine (QM0.out _ _ (VL.out _ (KB4.out _ D.out).2)).mono ?_); rintro e w9 ⟨b9, A9, n9, c9, rfl, h9, hb9⟩; have D9 := ((KB2.out _ (KB4.out _ D.out).2).2.trans (hb9.mono (KB2.out _ (KB4.out _ D.out).2).2.size)); obtain ⟨-, -, R0, D4⟩ := KB1.out _ D9; have r0 := R0.at_ 0 rfl; have r1 := R0.at_ 1 rfl; have r2 := R0.at_ 2 rfl; have f0 := R0.frozen 0; have f1 := R0.frozen 1; have f2 := R0.frozen 2; have X := Lib.hid (set3 h9 (off_q h9 R0) (.bool b9) (.slice A9 n9 c9) (.int .i64 (mkt places))); have D4 := Lib.hid D4; clear D9 R0 hb9 h9))
              refine bodyPost_ret (v := .tuple #[.agg #[.bool b9, .slice A9 n9 c9, .int .i64 (mkt places)], .bool true]) (by simp [results, Tryd.results50, go_sem, r0, r1, r2]) rfl ?_
              exact ⟨fun h => absurd h HL.out, fun _ => ⟨b9, A9, n9, c9, rfl, by rw [hV.out]; exact X.out, below3q D4.out (by omega) _ _ _⟩⟩
        · rcases hnr3 with rfl | rfl | rfl
          · cases b1
            · as_aux_lemma =>
                have hV := Lib.hid (show cutv z1 P 3 = lw by
                  have h := hU.out
                  rw [← HB1.out] at h
                  rw [h]
                  simp [ug])
                clear hU HB1
                go_wp2_with (first
                  | (go_at_call 83; (with_reducible refine (SO.out _ _ (VO.out _ D.out)).mono ?_); rintro e w5 ⟨rfl, hb5⟩; have D := Lib.hid (D.out.trans (hb5.mono D.out.size)); obtain ⟨c0, c1'⟩ := (KB2.out _ (KB4.out _ D.out).2).1.1; clear hb5)
                  | (go_at_call 13; (with_reducible refine (QM0.out _ _ (VL.out _ (KB4.out _ D.out).2)).mono ?_); rintro e w9 ⟨b9, A9, n9, c9, rfl, h9, hb9⟩; have D9 := ((KB2.out _ (KB4.out _ D.out).2).2.trans (hb9.mono (KB2.out _ (KB4.out _ D.out).2).2.size)); obtain ⟨-, -, R0, D4⟩ := KB1.out _ D9; have r0 := R0.at_ 0 rfl; have r1 := R0.at_ 1 rfl; have r2 := R0.at_ 2 rfl; have f0 := R0.frozen 0; have f1 := R0.frozen 1; have f2 := R0.frozen 2; have X := Lib.hid (set3 h9 (off_q h9 R0) (.bool b9) (.slice A9 n9 c9) (.int .i64 (mkt places))); have D4 := Lib.hid D4; clear D9 R0 hb9 h9))
                refine bodyPost_ret (v := .tuple #[.agg #[.bool b9, .slice A9 n9 c9, .int .i64 (mkt places)], .bool true]) (by simp [results, Tryd.results50, go_sem, r0, r1, r2]) rfl ?_
                exact ⟨fun h => absurd h HL.out, fun _ => ⟨b9, A9, n9, c9, rfl, by rw [hV.out]; exact X.out, below3q D4.out (by omega) _ _ _⟩⟩
            · as_aux_lemma =>
                have hV := Lib.hid (show cutv z1 P 3 = lw + 1 by
                  have h := hU.out
                  rw [← HB1.out] at h
                  rw [h]
                  simp [ug])
                clear hU HB1
                go_upto_region 14 with (first
                  | (go_at_call 83; (with_reducible refine (SO.out _ _ (VO.out _ D.out)).mono ?_); rintro e w5 ⟨rfl, hb5⟩; have D := Lib.hid (D.out.trans (hb5.mono D.out.size)); obtain ⟨c0, c1'⟩ := (KB2.out _ (KB4.out _ D.out).2).1.1; clear hb5))
                have D := Lib.hid D.out.drew
                clear c0 c1' k0 k1
                (refine wp_region_L (S := fun w' => w'.cell? ⟨g, 0, none⟩ = some (.bool bq) ∧ w'.cell? ⟨g, 1, none⟩ = some (.slice Aq nq cq)) (nl := 3) (by kernel_rfl) ?_ (fun hHeld => ?_); focus (exact (KB2.out _ (KB4.out _ D.out).2).1.1))
                (refine wpAnyL_take (i := 0) (oi := _) (v := ?_) rfl (by kernel_rfl) (by kernel_rfl) (by kernel_rfl) (fun _ _ _ h => h) (Or.inl ⟨by first | rfl | kernel_rfl, ?hy82⟩) (by assumption) ?rs82; (case hy82 => (intro w hSw; (try dsimp only at hSw); go_simp; first | done | with_reducible rfl)); case' rs82 => (simp only [List.getElem_toArray, List.getElem_cons_zero, List.getElem_cons_succ, Act.put, List.setIfInBounds_toArray, List.set_cons_zero, List.set_cons_succ])); skip
                (refine wpAnyL_one (i := 1) (o := _) (by kernel_rfl) rfl (fun K hK => ?_); clear hHeld; simp only [List.getElem_toArray, List.getElem_cons_zero, List.getElem_cons_succ]; go_simp; (go_at_call 26; (with_reducible refine (N1.out _).mono ?_); rintro e w7 ⟨_, rfl, ⟨b7, A7, n7, c7, rfl, h7⟩, hb7⟩; have h7 := Lib.hid h7.v; have D := Lib.hid (D.out.trans (hb7.mono D.out.size)); clear hb7); refine hK.out _ _ ?_ (fun hHeld => ?_); focus (intro _; exact (KB2.out _ (KB4.out _ D.out).2).1.1)); have hHeld := hHeld (by decide); clear hK K; (try simp only [Act.put, List.setIfInBounds_toArray, List.set_cons_zero, List.set_cons_succ])
                (refine wpAnyL_one (i := 2) (o := _) (by kernel_rfl) rfl (fun K hK => ?_); clear hHeld; simp only [List.getElem_toArray, List.getElem_cons_zero, List.getElem_cons_succ]; go_simp; (go_at_call 80; (with_reducible refine (AD1.out _ _ _ (VL.out _ (KB4.out _ D.out).2) h7.out).mono ?_); rintro e w8 ⟨_, rfl, ⟨b8, A8, n8, c8, rfl, h8⟩, hb8⟩; have D := Lib.hid (D.out.trans (hb8.mono D.out.size)); clear hb8 h7); refine hK.out _ _ ?_ (fun hHeld => ?_); focus (intro _; exact (KB2.out _ (KB4.out _ D.out).2).1.1)); have hHeld := hHeld (by decide); clear hK K; (try simp only [Act.put, List.setIfInBounds_toArray, List.set_cons_zero, List.set_cons_succ])
                have Bg := FG.out _ (KB4.out _ D.out).2
                have c0 := Bg.at_ 0 rfl; have c1' := Bg.at_ 1 rfl; have f0 := Bg.frozen 0; have f1 := Bg.frozen 1
                have DS := below_set2 (KB2.out _ (KB4.out _ D.out).2).2 HgE.out (.bool b8) (.slice A8 n8 c8)
                have VS := ZL.box h8.zl c0 c1' (.bool b8) (.slice A8 n8 c8)
                have GS := Bg.set2 (.bool b8) (.slice A8 n8 c8)
                have DS := Lib.hid DS; have VS := Lib.hid VS; have GS := Lib.hid GS
                clear Bg h8
                (refine wpAnyL_one (i := 3) (o := _) (by kernel_rfl) rfl (fun K hK => ?_); clear hHeld; simp only [List.getElem_toArray, List.getElem_cons_zero, List.getElem_cons_succ]; go_simp; refine hK.out _ _ ?_ (fun hHeld => ?_); focus (intro h; exact absurd h (by decide))); clear hK K; (try simp only [Act.put, List.setIfInBounds_toArray, List.set_cons_zero, List.set_cons_succ])
                refine wpAnyL_done (by kernel_rfl) ?_ _
                go_upto_region 15 with fail
                clear c0 c1' f0 f1
                obtain ⟨wS, hwS⟩ : ∃ wS, (w8.setCell ⟨g, 0, none⟩ (.bool b8)).setCell ⟨g, 1, none⟩ (.slice A8 n8 c8) = wS := ⟨_, rfl⟩
                rw [hwS] at DS VS GS ⊢
                have c0 := GS.out.at_ 0 rfl; have c1' := GS.out.at_ 1 rfl
                clear hwS D GS
                go_wp2_with (first
                  | (go_at_call 13; (with_reducible refine (QM1.out _ _ (VS.out.v)).mono ?_); rintro e w9 ⟨b9, A9, n9, c9, rfl, h9, hb9⟩; have D9 := (DS.out.trans (hb9.mono DS.out.size)); obtain ⟨-, -, R0, D4⟩ := KB1.out _ D9; have r0 := R0.at_ 0 rfl; have r1 := R0.at_ 1 rfl; have r2 := R0.at_ 2 rfl; have f0 := R0.frozen 0; have f1 := R0.frozen 1; have f2 := R0.frozen 2; have X := Lib.hid (set3 h9 (off_q h9 R0) (.bool b9) (.slice A9 n9 c9) (.int .i64 (mkt places))); have D4 := Lib.hid D4; clear D9 R0 hb9 h9))
                refine bodyPost_ret (v := .tuple #[.agg #[.bool b9, .slice A9 n9 c9, .int .i64 (mkt places)], .bool true]) (by simp [results, Tryd.results50, go_sem, r0, r1, r2]) rfl ?_
                exact ⟨fun h => absurd h HL.out, fun _ => ⟨b9, A9, n9, c9, rfl, by rw [hV.out]; exact X.out, below3q D4.out (by omega) _ _ _⟩⟩
          · cases b1
            · as_aux_lemma =>
                have hV := Lib.hid (show cutv z1 P 3 = lw by
                  have h := hU.out
                  rw [← HB1.out] at h
                  rw [h]
                  simp [ug])
                clear hU HB1
                go_wp2_with (first
                  | (go_at_call 83; (with_reducible refine (SO.out _ _ (VO.out _ D.out)).mono ?_); rintro e w5 ⟨rfl, hb5⟩; have D := Lib.hid (D.out.trans (hb5.mono D.out.size)); obtain ⟨c0, c1'⟩ := (KB2.out _ (KB4.out _ D.out).2).1.1; clear hb5)
                  | (go_at_call 13; (with_reducible refine (QM0.out _ _ (VL.out _ (KB4.out _ D.out).2)).mono ?_); rintro e w9 ⟨b9, A9, n9, c9, rfl, h9, hb9⟩; have D9 := ((KB2.out _ (KB4.out _ D.out).2).2.trans (hb9.mono (KB2.out _ (KB4.out _ D.out).2).2.size)); obtain ⟨-, -, R0, D4⟩ := KB1.out _ D9; have r0 := R0.at_ 0 rfl; have r1 := R0.at_ 1 rfl; have r2 := R0.at_ 2 rfl; have f0 := R0.frozen 0; have f1 := R0.frozen 1; have f2 := R0.frozen 2; have X := Lib.hid (set3 h9 (off_q h9 R0) (.bool b9) (.slice A9 n9 c9) (.int .i64 (mkt places))); have D4 := Lib.hid D4; clear D9 R0 hb9 h9))
                refine bodyPost_ret (v := .tuple #[.agg #[.bool b9, .slice A9 n9 c9, .int .i64 (mkt places)], .bool true]) (by simp [results, Tryd.results50, go_sem, r0, r1, r2]) rfl ?_
                exact ⟨fun h => absurd h HL.out, fun _ => ⟨b9, A9, n9, c9, rfl, by rw [hV.out]; exact X.out, below3q D4.out (by omega) _ _ _⟩⟩
            · as_aux_lemma =>
                have hV := Lib.hid (show cutv z1 P 3 = lw + 1 by
                  have h := hU.out
                  rw [← HB1.out] at h
                  rw [h]
                  simp [ug])
                clear hU HB1
                go_upto_region 14 with (first
                  | (go_at_call 83; (with_reducible refine (SO.out _ _ (VO.out _ D.out)).mono ?_); rintro e w5 ⟨rfl, hb5⟩; have D := Lib.hid (D.out.trans (hb5.mono D.out.size)); obtain ⟨c0, c1'⟩ := (KB2.out _ (KB4.out _ D.out).2).1.1; clear hb5))
                have D := Lib.hid D.out.drew
                clear c0 c1' k0 k1
                (refine wp_region_L (S := fun w' => w'.cell? ⟨g, 0, none⟩ = some (.bool bq) ∧ w'.cell? ⟨g, 1, none⟩ = some (.slice Aq nq cq)) (nl := 3) (by kernel_rfl) ?_ (fun hHeld => ?_); focus (exact (KB2.out _ (KB4.out _ D.out).2).1.1))
                (refine wpAnyL_take (i := 0) (oi := _) (v := ?_) rfl (by kernel_rfl) (by kernel_rfl) (by kernel_rfl) (fun _ _ _ h => h) (Or.inl ⟨by first | rfl | kernel_rfl, ?hy83⟩) (by assumption) ?rs83; (case hy83 => (intro w hSw; (try dsimp only at hSw); go_simp; first | done | with_reducible rfl)); case' rs83 => (simp only [List.getElem_toArray, List.getElem_cons_zero, List.getElem_cons_succ, Act.put, List.setIfInBounds_toArray, List.set_cons_zero, List.set_cons_succ])); skip
                (refine wpAnyL_one (i := 1) (o := _) (by kernel_rfl) rfl (fun K hK => ?_); clear hHeld; simp only [List.getElem_toArray, List.getElem_cons_zero, List.getElem_cons_succ]; go_simp; (go_at_call 26; (with_reducible refine (N1.out _).mono ?_); rintro e w7 ⟨_, rfl, ⟨b7, A7, n7, c7, rfl, h7⟩, hb7⟩; have h7 := Lib.hid h7.v; have D := Lib.hid (D.out.trans (hb7.mono D.out.size)); clear hb7); refine hK.out _ _ ?_ (fun hHeld => ?_); focus (intro _; exact (KB2.out _ (KB4.out _ D.out).2).1.1)); have hHeld := hHeld (by decide); clear hK K; (try simp only [Act.put, List.setIfInBounds_toArray, List.set_cons_zero, List.set_cons_succ])
                (refine wpAnyL_one (i := 2) (o := _) (by kernel_rfl) rfl (fun K hK => ?_); clear hHeld; simp only [List.getElem_toArray, List.getElem_cons_zero, List.getElem_cons_succ]; go_simp; (go_at_call 80; (with_reducible refine (AD1.out _ _ _ (VL.out _ (KB4.out _ D.out).2) h7.out).mono ?_); rintro e w8 ⟨_, rfl, ⟨b8, A8, n8, c8, rfl, h8⟩, hb8⟩; have D := Lib.hid (D.out.trans (hb8.mono D.out.size)); clear hb8 h7); refine hK.out _ _ ?_ (fun hHeld => ?_); focus (intro _; exact (KB2.out _ (KB4.out _ D.out).2).1.1)); have hHeld := hHeld (by decide); clear hK K; (try simp only [Act.put, List.setIfInBounds_toArray, List.set_cons_zero, List.set_cons_succ])
                have Bg := FG.out _ (KB4.out _ D.out).2
                have c0 := Bg.at_ 0 rfl; have c1' := Bg.at_ 1 rfl; have f0 := Bg.frozen 0; have f1 := Bg.frozen 1
                have DS := below_set2 (KB2.out _ (KB4.out _ D.out).2).2 HgE.out (.bool b8) (.slice A8 n8 c8)
                have VS := ZL.box h8.zl c0 c1' (.bool b8) (.slice A8 n8 c8)
                have GS := Bg.set2 (.bool b8) (.slice A8 n8 c8)
                have DS := Lib.hid DS; have VS := Lib.hid VS; have GS := Lib.hid GS
                clear Bg h8
                (refine wpAnyL_one (i := 3) (o := _) (by kernel_rfl) rfl (fun K hK => ?_); clear hHeld; simp only [List.getElem_toArray, List.getElem_cons_zero, List.getElem_cons_succ]; go_simp; refine hK.out _ _ ?_ (fun hHeld => ?_); focus (intro h; exact absurd h (by decide))); clear hK K; (try simp only [Act.put, List.setIfInBounds_toArray, List.set_cons_zero, List.set_cons_succ])
                refine wpAnyL_done (by kernel_rfl) ?_ _
                go_upto_region 15 with fail
                clear c0 c1' f0 f1
                obtain ⟨wS, hwS⟩ : ∃ wS, (w8.setCell ⟨g, 0, none⟩ (.bool b8)).setCell ⟨g, 1, none⟩ (.slice A8 n8 c8) = wS := ⟨_, rfl⟩
                rw [hwS] at DS VS GS ⊢
                have c0 := GS.out.at_ 0 rfl; have c1' := GS.out.at_ 1 rfl
                clear hwS D GS
                go_wp2_with (first
                  | (go_at_call 13; (with_reducible refine (QM1.out _ _ (VS.out.v)).mono ?_); rintro e w9 ⟨b9, A9, n9, c9, rfl, h9, hb9⟩; have D9 := (DS.out.trans (hb9.mono DS.out.size)); obtain ⟨-, -, R0, D4⟩ := KB1.out _ D9; have r0 := R0.at_ 0 rfl; have r1 := R0.at_ 1 rfl; have r2 := R0.at_ 2 rfl; have f0 := R0.frozen 0; have f1 := R0.frozen 1; have f2 := R0.frozen 2; have X := Lib.hid (set3 h9 (off_q h9 R0) (.bool b9) (.slice A9 n9 c9) (.int .i64 (mkt places))); have D4 := Lib.hid D4; clear D9 R0 hb9 h9))
                refine bodyPost_ret (v := .tuple #[.agg #[.bool b9, .slice A9 n9 c9, .int .i64 (mkt places)], .bool true]) (by simp [results, Tryd.results50, go_sem, r0, r1, r2]) rfl ?_
                exact ⟨fun h => absurd h HL.out, fun _ => ⟨b9, A9, n9, c9, rfl, by rw [hV.out]; exact X.out, below3q D4.out (by omega) _ _ _⟩⟩
          · cases b1
            · as_aux_lemma =>
                have hV := Lib.hid (show cutv z1 P 3 = lw by
                  have h := hU.out
                  rw [← HB1.out] at h
                  rw [h]
                  simp [ug])
                clear hU HB1
                go_wp2_with (first
                  | (go_at_call 83; (with_reducible refine (SO.out _ _ (VO.out _ D.out)).mono ?_); rintro e w5 ⟨rfl, hb5⟩; have D := Lib.hid (D.out.trans (hb5.mono D.out.size)); obtain ⟨c0, c1'⟩ := (KB2.out _ (KB4.out _ D.out).2).1.1; clear hb5)
                  | (go_at_call 13; (with_reducible refine (QM0.out _ _ (VL.out _ (KB4.out _ D.out).2)).mono ?_); rintro e w9 ⟨b9, A9, n9, c9, rfl, h9, hb9⟩; have D9 := ((KB2.out _ (KB4.out _ D.out).2).2.trans (hb9.mono (KB2.out _ (KB4.out _ D.out).2).2.size)); obtain ⟨-, -, R0, D4⟩ := KB1.out _ D9; have r0 := R0.at_ 0 rfl; have r1 := R0.at_ 1 rfl; have r2 := R0.at_ 2 rfl; have f0 := R0.frozen 0; have f1 := R0.frozen 1; have f2 := R0.frozen 2; have X := Lib.hid (set3 h9 (off_q h9 R0) (.bool b9) (.slice A9 n9 c9) (.int .i64 (mkt places))); have D4 := Lib.hid D4; clear D9 R0 hb9 h9))
                refine bodyPost_ret (v := .tuple #[.agg #[.bool b9, .slice A9 n9 c9, .int .i64 (mkt places)], .bool true]) (by simp [results, Tryd.results50, go_sem, r0, r1, r2]) rfl ?_
                exact ⟨fun h => absurd h HL.out, fun _ => ⟨b9, A9, n9, c9, rfl, by rw [hV.out]; exact X.out, below3q D4.out (by omega) _ _ _⟩⟩
            · as_aux_lemma =>
                have hV := Lib.hid (show cutv z1 P 3 = lw + 1 by
                  have h := hU.out
                  rw [← HB1.out] at h
                  rw [h]
                  simp [ug])
                clear hU HB1
                go_upto_region 14 with (first
                  | (go_at_call 83; (with_reducible refine (SO.out _ _ (VO.out _ D.out)).mono ?_); rintro e w5 ⟨rfl, hb5⟩; have D := Lib.hid (D.out.trans (hb5.mono D.out.size)); obtain ⟨c0, c1'⟩ := (KB2.out _ (KB4.out _ D.out).2).1.1; clear hb5))
                have D := Lib.hid D.out.drew
                clear c0 c1' k0 k1
                (refine wp_region_L (S := fun w' => w'.cell? ⟨g, 0, none⟩ = some (.bool bq) ∧ w'.cell? ⟨g, 1, none⟩ = some (.slice Aq nq cq)) (nl := 3) (by kernel_rfl) ?_ (fun hHeld => ?_); focus (exact (KB2.out _ (KB4.out _ D.out).2).1.1))
                (refine wpAnyL_take (i := 0) (oi := _) (v := ?_) rfl (by kernel_rfl) (by kernel_rfl) (by kernel_rfl) (fun _ _ _ h => h) (Or.inl ⟨by first | rfl | kernel_rfl, ?hy84⟩) (by assumption) ?rs84; (case hy84 => (intro w hSw; (try dsimp only at hSw); go_simp; first | done | with_reducible rfl)); case' rs84 => (simp only [List.getElem_toArray, List.getElem_cons_zero, List.getElem_cons_succ, Act.put, List.setIfInBounds_toArray, List.set_cons_zero, List.set_cons_succ])); skip
                (refine wpAnyL_one (i := 1) (o := _) (by kernel_rfl) rfl (fun K hK => ?_); clear hHeld; simp only [List.getElem_toArray, List.getElem_cons_zero, List.getElem_cons_succ]; go_simp; (go_at_call 26; (with_reducible refine (N1.out _).mono ?_); rintro e w7 ⟨_, rfl, ⟨b7, A7, n7, c7, rfl, h7⟩, hb7⟩; have h7 := Lib.hid h7.v; have D := Lib.hid (D.out.trans (hb7.mono D.out.size)); clear hb7); refine hK.out _ _ ?_ (fun hHeld => ?_); focus (intro _; exact (KB2.out _ (KB4.out _ D.out).2).1.1)); have hHeld := hHeld (by decide); clear hK K; (try simp only [Act.put, List.setIfInBounds_toArray, List.set_cons_zero, List.set_cons_succ])
                (refine wpAnyL_one (i := 2) (o := _) (by kernel_rfl) rfl (fun K hK => ?_); clear hHeld; simp only [List.getElem_toArray, List.getElem_cons_zero, List.getElem_cons_succ]; go_simp; (go_at_call 80; (with_reducible refine (AD1.out _ _ _ (VL.out _ (KB4.out _ D.out).2) h7.out).mono ?_); rintro e w8 ⟨_, rfl, ⟨b8, A8, n8, c8, rfl, h8⟩, hb8⟩; have D := Lib.hid (D.out.trans (hb8.mono D.out.size)); clear hb8 h7); refine hK.out _ _ ?_ (fun hHeld => ?_); focus (intro _; exact (KB2.out _ (KB4.out _ D.out).2).1.1)); have hHeld := hHeld (by decide); clear hK K; (try simp only [Act.put, List.setIfInBounds_toArray, List.set_cons_zero, List.set_cons_succ])
                have Bg := FG.out _ (KB4.out _ D.out).2
                have c0 := Bg.at_ 0 rfl; have c1' := Bg.at_ 1 rfl; have f0 := Bg.frozen 0; have f1 := Bg.frozen 1
                have DS := below_set2 (KB2.out _ (KB4.out _ D.out).2).2 HgE.out (.bool b8) (.slice A8 n8 c8)
                have VS := ZL.box h8.zl c0 c1' (.bool b8) (.slice A8 n8 c8)
                have GS := Bg.set2 (.bool b8) (.slice A8 n8 c8)
                have DS := Lib.hid DS; have VS := Lib.hid VS; have GS := Lib.hid GS
                clear Bg h8
                (refine wpAnyL_one (i := 3) (o := _) (by kernel_rfl) rfl (fun K hK => ?_); clear hHeld; simp only [List.getElem_toArray, List.getElem_cons_zero, List.getElem_cons_succ]; go_simp; refine hK.out _ _ ?_ (fun hHeld => ?_); focus (intro h; exact absurd h (by decide))); clear hK K; (try simp only [Act.put, List.setIfInBounds_toArray, List.set_cons_zero, List.set_cons_succ])
                refine wpAnyL_done (by kernel_rfl) ?_ _
                go_upto_region 15 with fail
                clear c0 c1' f0 f1
                obtain ⟨wS, hwS⟩ : ∃ wS, (w8.setCell ⟨g, 0, none⟩ (.bool b8)).setCell ⟨g, 1, none⟩ (.slice A8 n8 c8) = wS := ⟨_, rfl⟩
                rw [hwS] at DS VS GS ⊢
                have c0 := GS.out.at_ 0 rfl; have c1' := GS.out.at_ 1 rfl
                clear hwS D GS
                go_wp2_with (first
                  | (go_at_call 13; (with_reducible refine (QM1.out _ _ (VS.out.v)).mono ?_); rintro e w9 ⟨b9, A9, n9, c9, rfl, h9, hb9⟩; have D9 := (DS.out.trans (hb9.mono DS.out.size)); obtain ⟨-, -, R0, D4⟩ := KB1.out _ D9; have r0 := R0.at_ 0 rfl; have r1 := R0.at_ 1 rfl; have r2 := R0.at_ 2 rfl; have f0 := R0.frozen 0; have f1 := R0.frozen 1; have f2 := R0.frozen 2; have X := Lib.hid (set3 h9 (off_q h9 R0) (.bool b9) (.slice A9 n9 c9) (.int .i64 (mkt places))); have D4 := Lib.hid D4; clear D9 R0 hb9 h9))
                refine bodyPost_ret (v := .tuple #[.agg #[.bool b9, .slice A9 n9 c9, .int .i64 (mkt places)], .bool true]) (by simp [results, Tryd.results50, go_sem, r0, r1, r2]) rfl ?_
                exact ⟨fun h => absurd h HL.out, fun _ => ⟨b9, A9, n9, c9, rfl, by rw [hV.out]; exact X.out, below3q D4.out (by omega) _ _ _⟩⟩
        · rcases hnr3 with rfl | rfl | rfl
          · as_aux_lemma =>
              have hV := Lib.hid (show cutv z1 P 4 = lw + 1 by
                have h := hU.out
                rw [← HB1.out] at h
                rw [h]
                simp [ug])
              clear hU HB1
              go_upto_region 14 with (first
                | (go_at_call 83; (with_reducible refine (SO.out _ _ (VO.out _ D.out)).mono ?_); rintro e w5 ⟨rfl, hb5⟩; have D := Lib.hid (D.out.trans (hb5.mono D.out.size)); obtain ⟨c0, c1'⟩ := (KB2.out _ (KB4.out _ D.out).2).1.1; clear hb5))
              have D := Lib.hid D.out.drew
              clear c0 c1' k0 k1
              (refine wp_region_L (S := fun w' => w'.cell? ⟨g, 0, none⟩ = some (.bool bq) ∧ w'.cell? ⟨g, 1, none⟩ = some (.slice Aq nq cq)) (nl := 3) (by kernel_rfl) ?_ (fun hHeld => ?_); focus (exact (KB2.out _ (KB4.out _ D.out).2).1.1))
              (refine wpAnyL_take (i := 0) (oi := _) (v := ?_) rfl (by kernel_rfl) (by kernel_rfl) (by kernel_rfl) (fun _ _ _ h => h) (Or.inl ⟨by first | rfl | kernel_rfl, ?hy85⟩) (by assumption) ?rs85; (case hy85 => (intro w hSw; (try dsimp only at hSw); go_simp; first | done | with_reducible rfl)); case' rs85 => (simp only [List.getElem_toArray, List.getElem_cons_zero, List.getElem_cons_succ, Act.put, List.setIfInBounds_toArray, List.set_cons_zero, List.set_cons_succ])); skip
              (refine wpAnyL_one (i := 1) (o := _) (by kernel_rfl) rfl (fun K hK => ?_); clear hHeld; simp only [List.getElem_toArray, List.getElem_cons_zero, List.getElem_cons_succ]; go_simp; (go_at_call 26; (with_reducible refine (N1.out _).mono ?_); rintro e w7 ⟨_, rfl, ⟨b7, A7, n7, c7, rfl, h7⟩, hb7⟩; have h7 := Lib.hid h7.v; have D := Lib.hid (D.out.trans (hb7.mono D.out.size)); clear hb7); refine hK.out _ _ ?_ (fun hHeld => ?_); focus (intro _; exact (KB2.out _ (KB4.out _ D.out).2).1.1)); have hHeld := hHeld (by decide); clear hK K; (try simp only [Act.put, List.setIfInBounds_toArray, List.set_cons_zero, List.set_cons_succ])
              (refine wpAnyL_one (i := 2) (o := _) (by kernel_rfl) rfl (fun K hK => ?_); clear hHeld; simp only [List.getElem_toArray, List.getElem_cons_zero, List.getElem_cons_succ]; go_simp; (go_at_call 80; (with_reducible refine (AD1.out _ _ _ (VL.out _ (KB4.out _ D.out).2) h7.out).mono ?_); rintro e w8 ⟨_, rfl, ⟨b8, A8, n8, c8, rfl, h8⟩, hb8⟩; have D := Lib.hid (D.out.trans (hb8.mono D.out.size)); clear hb8 h7); refine hK.out _ _ ?_ (fun hHeld => ?_); focus (intro _; exact (KB2.out _ (KB4.out _ D.out).2).1.1)); have hHeld := hHeld (by decide); clear hK K; (try simp only [Act.put, List.setIfInBounds_toArray, List.set_cons_zero, List.set_cons_succ])
              have Bg := FG.out _ (KB4.out _ D.out).2
              have c0 := Bg.at_ 0 rfl; have c1' := Bg.at_ 1 rfl; have f0 := Bg.frozen 0; have f1 := Bg.frozen 1
              have DS := below_set2 (KB2.out _ (KB4.out _ D.out).2).2 HgE.out (.bool b8) (.slice A8 n8 c8)
              have VS := ZL.box h8.zl c0 c1' (.bool b8) (.slice A8 n8 c8)
              have GS := Bg.set2 (.bool b8) (.slice A8 n8 c8)
              have DS := Lib.hid DS; have VS := Lib.hid VS; have GS := Lib.hid GS
              clear Bg h8
              (refine wpAnyL_one (i := 3) (o := _) (by kernel_rfl) rfl (fun K hK => ?_); clear hHeld; simp only [List.getElem_toArray, List.getElem_cons_zero, List.getElem_cons_succ]; go_simp; refine hK.out _ _ ?_ (fun hHeld => ?_); focus (intro h; exact absurd h (by decide))); clear hK K; (try simp only [Act.put, List.setIfInBounds_toArray, List.set_cons_zero, List.set_cons_succ])
              refine wpAnyL_done (by kernel_rfl) ?_ _
              go_upto_region 15 with fail
              clear c0 c1' f0 f1
              obtain ⟨wS, hwS⟩ : ∃ wS, (w8.setCell ⟨g, 0, none⟩ (.bool b8)).setCell ⟨g, 1, none⟩ (.slice A8 n8 c8) = wS := ⟨_, rfl⟩
              rw [hwS] at DS VS GS ⊢
              have c0 := GS.out.at_ 0 rfl; have c1' := GS.out.at_ 1 rfl
              clear hwS D GS
              go_wp2_with (first
                | (go_at_call 13; (with_reducible refine (QM1.out _ _ (VS.out.v)).mono ?_); rintro e w9 ⟨b9, A9, n9, c9, rfl, h9, hb9⟩; have D9 := (DS.out.trans (hb9.mono DS.out.size)); obtain ⟨-, -, R0, D4⟩ := KB1.out _ D9; have r0 := R0.at_ 0 rfl; have r1 := R0.at_ 1 rfl; have r2 := R0.at_ 2 rfl; have f0 := R0.frozen 0; have f1 := R0.frozen 1; have f2 := R0.frozen 2; have X := Lib.hid (set3 h9 (off_q h9 R0) (.bool b9) (.slice A9 n9 c9) (.int .i64 (mkt places))); have D4 := Lib.hid D4; clear D9 R0 hb9 h9))
              refine bodyPost_ret (v := .tuple #[.agg #[.bool b9, .slice A9 n9 c9, .int .i64 (mkt places)], .bool true]) (by simp [results, Tryd.results50, go_sem, r0, r1, r2]) rfl ?_
              exact ⟨fun h => absurd h HL.out, fun _ => ⟨b9, A9, n9, c9, rfl, by rw [hV.out]; exact X.out, below3q D4.out (by omega) _ _ _⟩⟩
          · cases b1
            · as_aux_lemma =>
                have hV := Lib.hid (show cutv z1 P 4 = lw + 1 by
                  have h := hU.out
                  rw [← HB1.out] at h
                  rw [h]
                  simp [ug])
                clear hU HB1
                go_upto_region 14 with (first
                  | (go_at_call 83; (with_reducible refine (SO.out _ _ (VO.out _ D.out)).mono ?_); rintro e w5 ⟨rfl, hb5⟩; have D := Lib.hid (D.out.trans (hb5.mono D.out.size)); obtain ⟨c0, c1'⟩ := (KB2.out _ (KB4.out _ D.out).2).1.1; clear hb5))
                have D := Lib.hid D.out.drew
                clear c0 c1' k0 k1
                (refine wp_region_L (S := fun w' => w'.cell? ⟨g, 0, none⟩ = some (.bool bq) ∧ w'.cell? ⟨g, 1, none⟩ = some (.slice Aq nq cq)) (nl := 3) (by kernel_rfl) ?_ (fun hHeld => ?_); focus (exact (KB2.out _ (KB4.out _ D.out).2).1.1))
                (refine wpAnyL_take (i := 0) (oi := _) (v := ?_) rfl (by kernel_rfl) (by kernel_rfl) (by kernel_rfl) (fun _ _ _ h => h) (Or.inl ⟨by first | rfl | kernel_rfl, ?hy86⟩) (by assumption) ?rs86; (case hy86 => (intro w hSw; (try dsimp only at hSw); go_simp; first | done | with_reducible rfl)); case' rs86 => (simp only [List.getElem_toArray, List.getElem_cons_zero, List.getElem_cons_succ, Act.put, List.setIfInBounds_toArray, List.set_cons_zero, List.set_cons_succ])); skip
                (refine wpAnyL_one (i := 1) (o := _) (by kernel_rfl) rfl (fun K hK => ?_); clear hHeld; simp only [List.getElem_toArray, List.getElem_cons_zero, List.getElem_cons_succ]; go_simp; (go_at_call 26; (with_reducible refine (N1.out _).mono ?_); rintro e w7 ⟨_, rfl, ⟨b7, A7, n7, c7, rfl, h7⟩, hb7⟩; have h7 := Lib.hid h7.v; have D := Lib.hid (D.out.trans (hb7.mono D.out.size)); clear hb7); refine hK.out _ _ ?_ (fun hHeld => ?_); focus (intro _; exact (KB2.out _ (KB4.out _ D.out).2).1.1)); have hHeld := hHeld (by decide); clear hK K; (try simp only [Act.put, List.setIfInBounds_toArray, List.set_cons_zero, List.set_cons_succ])
                (refine wpAnyL_one (i := 2) (o := _) (by kernel_rfl) rfl (fun K hK => ?_); clear hHeld; simp only [List.getElem_toArray, List.getElem_cons_zero, List.getElem_cons_succ]; go_simp; (go_at_call 80; (with_reducible refine (AD1.out _ _ _ (VL.out _ (KB4.out _ D.out).2) h7.out).mono ?_); rintro e w8 ⟨_, rfl, ⟨b8, A8, n8, c8, rfl, h8⟩, hb8⟩; have D := Lib.hid (D.out.trans (hb8.mono D.out.size)); clear hb8 h7); refine hK.out _ _ ?_ (fun hHeld => ?_); focus (intro _; exact (KB2.out _ (KB4.out _ D.out).2).1.1)); have hHeld := hHeld (by decide); clear hK K; (try simp only [Act.put, List.setIfInBounds_toArray, List.set_cons_zero, List.set_cons_succ])
                have Bg := FG.out _ (KB4.out _ D.out).2
                have c0 := Bg.at_ 0 rfl; have c1' := Bg.at_ 1 rfl; have f0 := Bg.frozen 0; have f1 := Bg.frozen 1
                have DS := below_set2 (KB2.out _ (KB4.out _ D.out).2).2 HgE.out (.bool b8) (.slice A8 n8 c8)
                have VS := ZL.box h8.zl c0 c1' (.bool b8) (.slice A8 n8 c8)
                have GS := Bg.set2 (.bool b8) (.slice A8 n8 c8)
                have DS := Lib.hid DS; have VS := Lib.hid VS; have GS := Lib.hid GS
                clear Bg h8
                (refine wpAnyL_one (i := 3) (o := _) (by kernel_rfl) rfl (fun K hK => ?_); clear hHeld; simp only [List.getElem_toArray, List.getElem_cons_zero, List.getElem_cons_succ]; go_simp; refine hK.out _ _ ?_ (fun hHeld => ?_); focus (intro h; exact absurd h (by decide))); clear hK K; (try simp only [Act.put, List.setIfInBounds_toArray, List.set_cons_zero, List.set_cons_succ])
                refine wpAnyL_done (by kernel_rfl) ?_ _
                go_upto_region 15 with fail
                clear c0 c1' f0 f1
                obtain ⟨wS, hwS⟩ : ∃ wS, (w8.setCell ⟨g, 0, none⟩ (.bool b8)).setCell ⟨g, 1, none⟩ (.slice A8 n8 c8) = wS := ⟨_, rfl⟩
                rw [hwS] at DS VS GS ⊢
                have c0 := GS.out.at_ 0 rfl; have c1' := GS.out.at_ 1 rfl
                clear hwS D GS
                go_wp2_with (first
                  | (go_at_call 13; (with_reducible refine (QM1.out _ _ (VS.out.v)).mono ?_); rintro e w9 ⟨b9, A9, n9, c9, rfl, h9, hb9⟩; have D9 := (DS.out.trans (hb9.mono DS.out.size)); obtain ⟨-, -, R0, D4⟩ := KB1.out _ D9; have r0 := R0.at_ 0 rfl; have r1 := R0.at_ 1 rfl; have r2 := R0.at_ 2 rfl; have f0 := R0.frozen 0; have f1 := R0.frozen 1; have f2 := R0.frozen 2; have X := Lib.hid (set3 h9 (off_q h9 R0) (.bool b9) (.slice A9 n9 c9) (.int .i64 (mkt places))); have D4 := Lib.hid D4; clear D9 R0 hb9 h9))
                refine bodyPost_ret (v := .tuple #[.agg #[.bool b9, .slice A9 n9 c9, .int .i64 (mkt places)], .bool true]) (by simp [results, Tryd.results50, go_sem, r0, r1, r2]) rfl ?_
                exact ⟨fun h => absurd h HL.out, fun _ => ⟨b9, A9, n9, c9, rfl, by rw [hV.out]; exact X.out, below3q D4.out (by omega) _ _ _⟩⟩
            · as_aux_lemma =>
                have hV := Lib.hid (show cutv z1 P 4 = lw by
                  have h := hU.out
                  rw [← HB1.out] at h
                  rw [h]
                  simp [ug])
                clear hU HB1
                go_wp2_with (first
                  | (go_at_call 83; (with_reducible refine (SO.out _ _ (VO.out _ D.out)).mono ?_); rintro e w5 ⟨rfl, hb5⟩; have D := Lib.hid (D.out.trans (hb5.mono D.out.size)); obtain ⟨c0, c1'⟩ := (KB2.out _ (KB4.out _ D.out).2).1.1; clear hb5)
                  | (go_at_call 13; (with_reducible refine (QM0.out _ _ (VL.out _ (KB4.out _ D.out).2)).mono ?_); rintro e w9 ⟨b9, A9, n9, c9, rfl, h9, hb9⟩; have D9 := ((KB2.out _ (KB4.out _ D.out).2).2.trans (hb9.mono (KB2.out _ (KB4.out _ D.out).2).2.size)); obtain ⟨-, -, R0, D4⟩ := KB1.out _ D9; have r0 := R0.at_ 0 rfl; have r1 := R0.at_ 1 rfl; have r2 := R0.at_ 2 rfl; have f0 := R0.frozen 0; have f1 := R0.frozen 1; have f2 := R0.frozen 2; have X := Lib.hid (set3 h9 (off_q h9 R0) (.bool b9) (.slice A9 n9 c9) (.int .i64 (mkt places))); have D4 := Lib.hid D4; clear D9 R0 hb9 h9))
                refine bodyPost_ret (v := .tuple #[.agg #[.bool b9, .slice A9 n9 c9, .int .i64 (mkt places)], .bool true]) (by simp [results, Tryd.results50, go_sem, r0, r1, r2]) rfl ?_
                exact ⟨fun h => absurd h HL.out, fun _ => ⟨b9, A9, n9, c9, rfl, by rw [hV.out]; exact X.out, below3q D4.out (by omega) _ _ _⟩⟩
          · as_aux_lemma =>
              have hV := Lib.hid (show cutv z1 P 4 = lw by
                have h := hU.out
                rw [← HB1.out] at h
                rw [h]
                simp [ug])
              clear hU HB1
              go_wp2_with (first
                | (go_at_call 83; (with_reducible refine (SO.out _ _ (VO.out _ D.out)).mono ?_); rintro e w5 ⟨rfl, hb5⟩; have D := Lib.hid (D.out.trans (hb5.mono D.out.size)); obtain ⟨c0, c1'⟩ := (KB2.out _ (KB4.out _ D.out).2).1.1; clear hb5)
                | (go_at_call 13; (with_reducible refine (QM0.out _ _ (VL.out _ (KB4.out _ D.out).2)).mono ?_); rintro e w9 ⟨b9, A9, n9, c9, rfl, h9, hb9⟩; have D9 := ((KB2.out _ (KB4.out _ D.out).2).2.trans (hb9.mono (KB2.out _ (KB4.out _ D.out).2).2.size)); obtain ⟨-, -, R0, D4⟩ := KB1.out _ D9; have r0 := R0.at_ 0 rfl; have r1 := R0.at_ 1 rfl; have r2 := R0.at_ 2 rfl; have f0 := R0.frozen 0; have f1 := R0.frozen 1; have f2 := R0.frozen 2; have X := Lib.hid (set3 h9 (off_q h9 R0) (.bool b9) (.slice A9 n9 c9) (.int .i64 (mkt places))); have D4 := Lib.hid D4; clear D9 R0 hb9 h9))
              refine bodyPost_ret (v := .tuple #[.agg #[.bool b9, .slice A9 n9 c9, .int .i64 (mkt places)], .bool true]) (by simp [results, Tryd.results50, go_sem, r0, r1, r2]) rfl ?_
              exact ⟨fun h => absurd h HL.out, fun _ => ⟨b9, A9, n9, c9, rfl, by rw [hV.out]; exact X.out, below3q D4.out (by omega) _ _ _⟩⟩
end QC
end Go.Proofs.YtpmpkllpaceloaaDoor
