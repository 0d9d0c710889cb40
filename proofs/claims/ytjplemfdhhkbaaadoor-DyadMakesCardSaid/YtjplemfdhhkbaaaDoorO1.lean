/-
  The reference: halvings.
-/
import Derived.Test.YtjplemfdhhkbaaaDoorE10
import Derived.Test.YtjplemfdhhkbaaaDoorHeld3
namespace Go.Proofs.YtjplemfdhhkbaaaDoor
set_option linter.unusedVariables false
set_option linter.unusedSimpArgs false
open Go.RowKit
set_option linter.unusedVariables false
set_option linter.unusedSimpArgs false
namespace QC
open Z (Nz Tz cmpv big)
open ZC DC
/-- quotient and remainder, each in a block of its own -/
def QD (we wx : World) (s18 s19 : Value) (q r : Int) : Prop := ∃ g h bq Aq nq cq br Ar nr cr, s18 = .pointer (some ⟨g, 0, none⟩) ∧ s19 = .pointer (some ⟨h, 0, none⟩) ∧ we.heap.size ≤ g ∧ we.heap.size ≤ h ∧ g ≠ h ∧ Blk wx g 40 #[.bool bq, .slice Aq nq cq] ∧ Blk wx h 40 #[.bool br, .slice Ar nr cr] ∧ ZL wx bq Aq nq cq q ∧ ZL wx br Ar nr cr r ∧ Below we.heap.size we wx
theorem qd_set {we W : World} {g h : Nat} {bq br : Bool} {Aq Ar : Option Addr} {nq cq nr cr : Nat} {q r : Int} (D : Below we.heap.size we W) (hg : we.heap.size ≤ g) (hh : we.heap.size ≤ h) (hne : g ≠ h)
    (G : Blk W g 40 #[.bool false, .slice none 0 0]) (H : Blk W h 40 #[.bool false, .slice none 0 0]) (hq : ZL W bq Aq nq cq q) (hr : ZL W br Ar nr cr r) :
    QD we ((((W.setCell ⟨g, 0, none⟩ (.bool bq)).setCell ⟨g, 1, none⟩ (.slice Aq nq cq)).setCell ⟨h, 0, none⟩ (.bool br)).setCell ⟨h, 1, none⟩ (.slice Ar nr cr)) (.pointer (some ⟨g, 0, none⟩)) (.pointer (some ⟨h, 0, none⟩)) q r := by
  have G1 := G.set2 (.bool bq) (.slice Aq nq cq)
  have H1 := H.far2 (Ne.symm hne) (.bool bq) (.slice Aq nq cq)
  have q1 := ZC.ZL.box hq (G.at_ 0 rfl) (G.at_ 1 rfl) (.bool bq) (.slice Aq nq cq)
  have r1 := ZC.ZL.box hr (G.at_ 0 rfl) (G.at_ 1 rfl) (.bool bq) (.slice Aq nq cq)
  exact ⟨g, h, bq, Aq, nq, cq, br, Ar, nr, cr, rfl, rfl, hg, hh, hne, G1.far2 hne _ _, H1.set2 _ _, ZC.ZL.box q1 (H1.at_ 0 rfl) (H1.at_ 1 rfl) _ _, ZC.ZL.box r1 (H1.at_ 0 rfl) (H1.at_ 1 rfl) _ _, below_set2 (below_set2 D hg _ _) hh _ _⟩
theorem zv_below {w w' : World} {v : Value} {z : Int} (h : ZV w v z) (hb : Below w.heap.size w w') : ZV w' v z := by
  obtain ⟨b, A, n, c, e, h⟩ := h
  exact ⟨b, A, n, c, e, h.below hb⟩
/-- z is y, N times doubled -/
def Tw (z y : Int) (N : Nat) : Prop := z = y * 2 ^ N ∧ y ≠ 0
theorem Tw.step {z y : Int} {N K : Nat} (h : Tw z y N) (hr : y % 2 ^ K = 0) : Tw z (y / 2 ^ K) (N + K) := by
  obtain ⟨h1, h2⟩ := h
  have h3 : y / 2 ^ K * 2 ^ K = y := Int.ediv_mul_cancel (Int.dvd_of_emod_eq_zero hr)
  refine ⟨?_, fun h => h2 (by rw [← h3, h, Int.zero_mul])⟩
  rw [h1, Nat.add_comm, Int.pow_add, ← Int.mul_assoc, h3]
theorem natAbs_pow2 (y : Int) (N : Nat) : (y * 2 ^ N).natAbs = y.natAbs * 2 ^ N := by
  rw [Int.natAbs_mul, Int.natAbs_pow]; rfl
theorem Tw.lt {z y : Int} {N M : Nat} (h : Tw z y N) (hM : z.natAbs < 2 ^ M) : N < M := by
  obtain ⟨h1, h2⟩ := h
  rw [h1, natAbs_pow2] at hM
  have h3 : 0 < y.natAbs := Int.natAbs_pos.2 h2
  have h4 : 2 ^ N < 2 ^ M := Nat.lt_of_le_of_lt (Nat.le_mul_of_pos_left _ h3) hM
  exact (Nat.pow_lt_pow_iff_right (by decide)).1 h4
theorem Tw.big {z y : Int} {N B : Nat} (h : Tw z y N) (hB : z.natAbs < B) : y.natAbs < B := by
  obtain ⟨h1, h2⟩ := h
  rw [h1, natAbs_pow2] at hB
  exact Nat.lt_of_le_of_lt (Nat.le_mul_of_pos_right _ (Nat.two_pow_pos N)) hB
set_option maxRecDepth 100000 in
set_option maxHeartbeats 16000000 in
theorem ZTwos_c (b0 : Bool) (A0 : Option Addr) (n0 c0 : Nat) (z : Int) (M : Nat) (w : World) (hv : ZL w b0 A0 n0 c0 z) (hz : z ≠ 0) (hM : z.natAbs < 2 ^ M) (hb : z.natAbs < big 900000) (hM2 : M ≤ 1000000) :
    Calls Tryd.prog 65 #[.agg #[.bool b0, .slice A0 n0 c0]] w fun e w' => ∃ (N : Nat) (y : Int) (b : Bool) (A : Option Addr) (n c : Nat), e = .returned (.tuple #[.int .i64 N, .agg #[.bool b, .slice A n c]]) ∧ ZL w' b A n c y ∧ Tw z y N ∧ N < M ∧ y % 2 ≠ 0 ∧ Below w.heap.size w w' := by
  obtain ⟨g0, hg0⟩ : ∃ g0, w.heap.size = g0 := ⟨_, rfl⟩
  have S1 := Blk.new w 40 #[.bool b0, .slice A0 n0 c0]
  have S2 := S1.alloc (.cells #[.bool false, .slice none 0 0] 40)
  have T2 := Blk.new (w.alloc (.cells #[.bool b0, .slice A0 n0 c0] 40)) 40 #[.bool false, .slice none 0 0]
  have V2 := (hv.alloc (.cells #[.bool b0, .slice A0 n0 c0] 40)).alloc (.cells #[.bool false, .slice none 0 0] 40)
  have D2 : Below w.heap.size w ((w.alloc (.cells #[.bool b0, .slice A0 n0 c0] 40)).alloc (.cells #[.bool false, .slice none 0 0] 40)) := ((Below.refl _ _).alloc (Nat.le_refl _) _).alloc (by simp) _
  have e1 : (w.alloc (.cells #[.bool b0, .slice A0 n0 c0] 40)).heap.size = w.heap.size + 1 := by simp
  rw [e1] at T2
  rw [hg0] at S2 T2 D2
  have H0 := Lib.hid (And.intro S2 (And.intro T2 (And.intro V2 D2)))
  have HZ : Hid (Tw z z 0) := ⟨by simp, hz⟩
  have HM := Lib.hid hM
  have HB := Lib.hid hb
  clear S1 S2 T2 V2 D2 e1 hv hz hM hb
  go_enter Tryd.func65, Tryd.ntmps65
  go_wp2
  try simp only [hg0]
  go_loopw [4, 5] (fun nv kv wr => ∃ (N K : Nat) (y : Int) (b : Bool) (A : Option Addr) (n c : Nat), nv = .int .i64 N ∧ kv = .int .i64 K ∧ K ≤ 4096 ∧ Hid (Tw z y N) ∧ Hid (K = 0 → y % 2 ≠ 0) ∧ Hid (Blk wr g0 40 #[.bool b, .slice A n c]) ∧ Hid (Blk wr (g0 + 1) 40 #[.bool false, .slice none 0 0]) ∧ Hid (ZL wr b A n c y) ∧ Hid (Below g0 w wr)) (fun _ kv _ => (intOf kv).toNat)
  case atStart => exact ⟨0, 4096, z, b0, A0, n0, c0, rfl, rfl, by omega, HZ, (by intro h; cases h), H0.out.1, H0.out.2.1, H0.out.2.2.1, H0.out.2.2.2⟩
  case round =>
    obtain ⟨N1, K, y1, b1', A1', n1', c1', rfl, rfl, hK, hT, hO, hB, hC, hV, hD⟩ := hrel
    by_cases hk : 0 < K
    · have hk' : (0 : Int) < K := by omega
      clear hO
      have PW : Hid (∀ W, Calls Tryd.prog 68 #[.int .i64 (K : Int)] W (RetZ W (2 ^ K))) := fun W => ZPow_c K K W (by omega) (by omega) (by omega)
      obtain ⟨P, hP⟩ : ∃ P : Int, 2 ^ K = P := ⟨_, rfl⟩
      have hP0 : P ≠ 0 := by rw [← hP]; exact Int.pow_ne_zero (by decide)
      have hPb : P.natAbs < big 900000 := by rw [← hP]; exact pow2_bigN K 900000 (by omega) (by decide)
      rw [hP] at PW
      have HP := PW
      have HPE := Lib.hid hP
      have DZ0 : Hid (∀ (y : Int) W va vb, y.natAbs < big 900000 → ZV W va y → ZV W vb P → Calls Tryd.prog 86 #[va, vb] W (RetZZ W (y / P) (y % P))) := fun y W va vb hy h1 h2 => ZDiv_c va vb _ _ W h1 h2 hy hPb hP0
      have HRB : Hid (∀ y : Int, (y % P).natAbs < big 1000000) := fun y => by
        have h1 := Int.emod_nonneg y hP0
        have h2 := Int.emod_lt_of_pos y (show 0 < P by rw [← hP]; exact Int.pow_pos (by decide))
        have h3 : P.natAbs < big 1000000 := by rw [← hP]; exact pow2_bigN K 1000000 (by omega) (by decide)
        omega
      have HQ2 : Hid (IntKind.i64.wrap ((K : Int).tdiv 2) = ((K / 2 : Nat) : Int)) := by
        have : (K : Int).tdiv 2 = ((K / 2 : Nat) : Int) := by rw [Int.tdiv_eq_ediv_of_nonneg (by omega)]; rfl
        show IntKind.i64.wrap ((K : Int).tdiv 2) = ((K / 2 : Nat) : Int)
        rw [this]; exact IntWalk.i64_in _ (by omega)
      clear PW hP hP0 hPb
      go_wp2
      go_loopw [4] (fun nv wr => ∃ (N : Nat) (y : Int) (b : Bool) (A : Option Addr) (n c : Nat), nv = .int .i64 N ∧ Hid (Tw z y N) ∧ Hid (Blk wr g0 40 #[.bool b, .slice A n c]) ∧ Hid (Blk wr (g0 + 1) 40 #[.bool false, .slice none 0 0]) ∧ Hid (ZL wr b A n c y) ∧ Hid (Below g0 w wr)) (fun nv _ => M - (intOf nv).toNat)
      case atStart => exact ⟨N1, y1, b1', A1', n1', c1', rfl, hT, hB, hC, hV, hD⟩
      case round =>
        clear hT hB hC hV hD
        obtain ⟨N, y, b, A, n, c, rfl, hT, hB, hC, hV, hD⟩ := hrel
        have hNM := hT.out.lt HM.out
        have hyb := hT.out.big HB.out
        have DZ : Hid (∀ W va vb, ZV W va y → ZV W vb P → Calls Tryd.prog 86 #[va, vb] W (RetZZ W (y / P) (y % P))) := fun W va vb => DZ0.out y W va vb hyb
        obtain ⟨we, hwe⟩ : ∃ we, we = wr := ⟨_, rfl⟩
        have D : Below we.heap.size we wr := by rw [hwe]; exact Below.refl _ _
        have HWE := Lib.hid hwe
        have KQ : Hid (∀ W, Below we.heap.size we W → W.cell? ⟨g0, 0, none⟩ = some (.bool b) ∧ W.cell? ⟨g0, 1, none⟩ = some (.slice A n c)) := fun W h => by
          rw [hwe] at h
          exact ⟨(hB.out.below h hB.out.lt).at_ 0 rfl, (hB.out.below h hB.out.lt).at_ 1 rfl⟩
        have VQ : Hid (∀ W, Below we.heap.size we W → ZV W (.agg #[.bool b, .slice A n c]) y) := fun W h => by
          rw [hwe] at h
          exact (hV.out.below h).v
        clear hyb hwe
        go_upto_region 5 with fail
        go_cut [6, 7] (fun s6 s7 wx => QD we wx s6 s7 (y / P) (y % P))
        case first =>
          have D := D.drew
          (refine wp_region_L (S := fun w' => w'.cell? ⟨g0, 0, none⟩ = some (.bool b) ∧ w'.cell? ⟨g0, 1, none⟩ = some (.slice A n c)) (nl := 1000000) (by kernel_rfl) ?_ (fun hHeld => ?_); focus (exact KQ.out _ D))
          (refine wpAnyL_take (i := 0) (oi := _) (v := ?_) rfl (by kernel_rfl) (by kernel_rfl) (by kernel_rfl) (fun _ _ _ h => h) (Or.inl ⟨by first | rfl | kernel_rfl, ?hy1⟩) (by assumption) ?rs1; (case hy1 => (intro w hSw; (try dsimp only at hSw); go_simp; first | done | with_reducible rfl)); case' rs1 => (simp only [List.getElem_toArray, List.getElem_cons_zero, List.getElem_cons_succ, Act.put, List.setIfInBounds_toArray, List.set_cons_zero, List.set_cons_succ])); (refine wpAnyL_take (i := 1) (oi := _) (v := ?_) rfl (by kernel_rfl) (by kernel_rfl) (by kernel_rfl) (fun _ _ _ h => h) (Or.inl ⟨by first | rfl | kernel_rfl, ?hy2⟩) (by assumption) ?rs2; (case hy2 => (intro w hSw; (try dsimp only at hSw); go_simp; first | done | with_reducible rfl)); case' rs2 => (simp only [List.getElem_toArray, List.getElem_cons_zero, List.getElem_cons_succ, Act.put, List.setIfInBounds_toArray, List.set_cons_zero, List.set_cons_succ])); skip
          refine wpAnyL_three (i := 2) (j := 7) (k := 8) (oi := _) (oj := _) (ok := _) (by kernel_rfl) rfl rfl rfl (fun K hK => ?_) (fun K hK => ?_) (fun K hK => ?_)
          · as_aux_lemma =>
              (clear hHeld; simp only [List.getElem_toArray, List.getElem_cons_zero, List.getElem_cons_succ]; go_simp; (go_at_call 68; (with_reducible refine (HP.out _).mono ?_); rintro e w3 ⟨_, rfl, ⟨b1, A1, n1, c1, rfl, hp0⟩, hb⟩; have hp := hp0.zl; have D := D.trans (hb.mono D.size)); refine hK.out _ _ ?_ (fun hHeld => ?_); focus (intro _; exact KQ.out _ D)); have hHeld := hHeld (by decide); clear hK K; (try simp only [Act.put, List.setIfInBounds_toArray, List.set_cons_zero, List.set_cons_succ])
              refine wpAnyL_three (i := 3) (j := 7) (k := 8) (oi := _) (oj := _) (ok := _) (by kernel_rfl) rfl rfl rfl (fun K hK => ?_) (fun K hK => ?_) (fun K hK => ?_)
              · as_aux_lemma =>
                  (clear hHeld; simp only [List.getElem_toArray, List.getElem_cons_zero, List.getElem_cons_succ]; go_simp; (go_at_call 86; (with_reducible refine (DZ.out _ _ _ (VQ.out _ D) hp.v).mono ?_); rintro e w4 ⟨_, _, rfl, ⟨bq, Aq, nq, cq, rfl, hq⟩, ⟨br', Ar, nr, cr, rfl, hr⟩, hb⟩; have D := D.trans (hb.mono D.size)); refine hK.out _ _ ?_ (fun hHeld => ?_); focus (intro _; exact KQ.out _ D)); have hHeld := hHeld (by decide); clear hK K; (try simp only [Act.put, List.setIfInBounds_toArray, List.set_cons_zero, List.set_cons_succ])
                  (refine wpAnyL_take (i := 4) (oi := _) (v := ?_) rfl (by kernel_rfl) (by kernel_rfl) (by kernel_rfl) (fun _ _ _ h => h) (Or.inl ⟨by first | rfl | kernel_rfl, ?hy3⟩) (by assumption) ?rs3; (case hy3 => (intro w hSw; (try dsimp only at hSw); go_simp; first | done | with_reducible rfl)); case' rs3 => (simp only [List.getElem_toArray, List.getElem_cons_zero, List.getElem_cons_succ, Act.put, List.setIfInBounds_toArray, List.set_cons_zero, List.set_cons_succ])); (refine wpAnyL_take (i := 5) (oi := _) (v := ?_) rfl (by kernel_rfl) (by kernel_rfl) (by kernel_rfl) (fun _ _ _ h => h) (Or.inl ⟨by first | rfl | kernel_rfl, ?hy4⟩) (by assumption) ?rs4; (case hy4 => (intro w hSw; (try dsimp only at hSw); go_simp; first | done | with_reducible rfl)); case' rs4 => (simp only [List.getElem_toArray, List.getElem_cons_zero, List.getElem_cons_succ, Act.put, List.setIfInBounds_toArray, List.set_cons_zero, List.set_cons_succ])); (refine wpAnyL_take (i := 6) (oi := _) (v := ?_) rfl (by kernel_rfl) (by kernel_rfl) (by kernel_rfl) (fun _ _ _ h => h) (Or.inl ⟨by first | rfl | kernel_rfl, ?hy5⟩) (by assumption) ?rs5; (case hy5 => (intro w hSw; (try dsimp only at hSw); go_simp; first | done | with_reducible rfl)); case' rs5 => (simp only [List.getElem_toArray, List.getElem_cons_zero, List.getElem_cons_succ, Act.put, List.setIfInBounds_toArray, List.set_cons_zero, List.set_cons_succ])); skip
                  refine wpAnyL_two (i := 7) (j := 8) (oi := _) (oj := _) (by kernel_rfl) rfl rfl (fun K hK => ?_) (fun K hK => ?_)
                  · as_aux_lemma =>
                      (clear hHeld; simp only [List.getElem_toArray, List.getElem_cons_zero, List.getElem_cons_succ]; go_simp; refine hK.out _ _ ?_ (fun hHeld => ?_); focus (intro _; exact KQ.out _ (D.alloc D.size _))); have hHeld := hHeld (by decide); clear hK K; (try simp only [Act.put, List.setIfInBounds_toArray, List.set_cons_zero, List.set_cons_succ])
                      have G' := Blk.new w4 40 #[.bool false, .slice none 0 0]
                      have Gn : we.heap.size ≤ w4.heap.size := D.size
                      have hq := (hq.alloc (.cells #[.bool false, .slice none 0 0] 40))
                      have hr := (hr.alloc (.cells #[.bool false, .slice none 0 0] 40))
                      have D1 : Below we.heap.size we (w4.alloc (.cells #[.bool false, .slice none 0 0] 40)) := D.alloc D.size (.cells #[.bool false, .slice none 0 0] 40)
                      clear D
                      have D := D1
                      clear D1
                      obtain ⟨w8, hw8⟩ : ∃ w8, w4.alloc (.cells #[.bool false, .slice none 0 0] 40) = w8 := ⟨_, rfl⟩
                      obtain ⟨Gg, hGg⟩ : ∃ Gg, w4.heap.size = Gg := ⟨_, rfl⟩
                      rw [hw8] at G' D hq hr hHeld ⊢
                      rw [hGg] at G' Gn ⊢
                      have G := G'
                      clear G' hw8 hGg
                      (refine wpAnyL_one (i := 8) (o := _) (by kernel_rfl) rfl (fun K hK => ?_); clear hHeld; simp only [List.getElem_toArray, List.getElem_cons_zero, List.getElem_cons_succ]; go_simp; refine hK.out _ _ ?_ (fun hHeld => ?_); focus (intro _; exact KQ.out _ (D.alloc D.size _))); have hHeld := hHeld (by decide); clear hK K; (try simp only [Act.put, List.setIfInBounds_toArray, List.set_cons_zero, List.set_cons_succ])
                      have H' := Blk.new w8 40 #[.bool false, .slice none 0 0]
                      have Hn : we.heap.size ≤ w8.heap.size := D.size
                      have hne : Gg ≠ w8.heap.size := Nat.ne_of_lt G.lt
                      have G := G.alloc (.cells #[.bool false, .slice none 0 0] 40)
                      have hq := (hq.alloc (.cells #[.bool false, .slice none 0 0] 40))
                      have hr := (hr.alloc (.cells #[.bool false, .slice none 0 0] 40))
                      have D1 : Below we.heap.size we (w8.alloc (.cells #[.bool false, .slice none 0 0] 40)) := D.alloc D.size (.cells #[.bool false, .slice none 0 0] 40)
                      clear D
                      have D := D1
                      clear D1
                      obtain ⟨w9, hw9⟩ : ∃ w9, w8.alloc (.cells #[.bool false, .slice none 0 0] 40) = w9 := ⟨_, rfl⟩
                      obtain ⟨Hg, hHg⟩ : ∃ Hg, w8.heap.size = Hg := ⟨_, rfl⟩
                      rw [hw9] at H' D G hq hr hHeld ⊢
                      rw [hHg] at H' Hn hne ⊢
                      have H := H'
                      clear H' hw9 hHg
                      have X := Lib.hid (qd_set D Gn Hn hne G H hq hr)
                      have D10 := below_set2 D Gn (.bool bq) (.slice Aq nq cq)
                      have D11 := below_set2 D10 Hn (.bool br') (.slice Ar nr cr)
                      have H1 := H.far2 (hne).symm (.bool bq) (.slice Aq nq cq)
                      have g0 := G.at_ 0 rfl; have g1 := G.at_ 1 rfl; have f0 := G.frozen 0; have f1 := G.frozen 1; have h0 := H1.at_ 0 rfl; have h1 := H1.at_ 1 rfl; have f2 := H1.frozen 0; have f3 := H1.frozen 1
                      have D10 := Lib.hid D10; have D11 := Lib.hid D11
                      clear G H H1 D hq hr hp
                      (refine wpAnyL_one (i := 9) (o := _) (by kernel_rfl) rfl (fun K hK => ?_); clear hHeld; simp only [List.getElem_toArray, List.getElem_cons_zero, List.getElem_cons_succ]; go_simp; refine hK.out _ _ ?_ (fun hHeld => ?_); focus (intro _; exact KQ.out _ D10.out)); have hHeld := hHeld (by decide); clear hK K; (try simp only [Act.put, List.setIfInBounds_toArray, List.set_cons_zero, List.set_cons_succ])
                      (refine wpAnyL_one (i := 10) (o := _) (by kernel_rfl) rfl (fun K hK => ?_); clear hHeld; simp only [List.getElem_toArray, List.getElem_cons_zero, List.getElem_cons_succ]; go_simp; refine hK.out _ _ ?_ (fun hHeld => ?_); focus (intro _; exact KQ.out _ D11.out)); have hHeld := hHeld (by decide); clear hK K; (try simp only [Act.put, List.setIfInBounds_toArray, List.set_cons_zero, List.set_cons_succ])
                      refine wpAnyL_done (by kernel_rfl) ?_ _
                      go_wp2
                      go_meet
                      exact X.out
                  · as_aux_lemma =>
                      (clear hHeld; simp only [List.getElem_toArray, List.getElem_cons_zero, List.getElem_cons_succ]; go_simp; refine hK.out _ _ ?_ (fun hHeld => ?_); focus (intro _; exact KQ.out _ (D.alloc D.size _))); have hHeld := hHeld (by decide); clear hK K; (try simp only [Act.put, List.setIfInBounds_toArray, List.set_cons_zero, List.set_cons_succ])
                      have H' := Blk.new w4 40 #[.bool false, .slice none 0 0]
                      have Hn : we.heap.size ≤ w4.heap.size := D.size
                      have hq := (hq.alloc (.cells #[.bool false, .slice none 0 0] 40))
                      have hr := (hr.alloc (.cells #[.bool false, .slice none 0 0] 40))
                      have D1 : Below we.heap.size we (w4.alloc (.cells #[.bool false, .slice none 0 0] 40)) := D.alloc D.size (.cells #[.bool false, .slice none 0 0] 40)
                      clear D
                      have D := D1
                      clear D1
                      obtain ⟨w9, hw9⟩ : ∃ w9, w4.alloc (.cells #[.bool false, .slice none 0 0] 40) = w9 := ⟨_, rfl⟩
                      obtain ⟨Hg, hHg⟩ : ∃ Hg, w4.heap.size = Hg := ⟨_, rfl⟩
                      rw [hw9] at H' D hq hr hHeld ⊢
                      rw [hHg] at H' Hn ⊢
                      have H := H'
                      clear H' hw9 hHg
                      (refine wpAnyL_one (i := 7) (o := _) (by kernel_rfl) rfl (fun K hK => ?_); clear hHeld; simp only [List.getElem_toArray, List.getElem_cons_zero, List.getElem_cons_succ]; go_simp; refine hK.out _ _ ?_ (fun hHeld => ?_); focus (intro _; exact KQ.out _ (D.alloc D.size _))); have hHeld := hHeld (by decide); clear hK K; (try simp only [Act.put, List.setIfInBounds_toArray, List.set_cons_zero, List.set_cons_succ])
                      have G' := Blk.new w9 40 #[.bool false, .slice none 0 0]
                      have Gn : we.heap.size ≤ w9.heap.size := D.size
                      have hne : Hg ≠ w9.heap.size := Nat.ne_of_lt H.lt
                      have H := H.alloc (.cells #[.bool false, .slice none 0 0] 40)
                      have hq := (hq.alloc (.cells #[.bool false, .slice none 0 0] 40))
                      have hr := (hr.alloc (.cells #[.bool false, .slice none 0 0] 40))
                      have D1 : Below we.heap.size we (w9.alloc (.cells #[.bool false, .slice none 0 0] 40)) := D.alloc D.size (.cells #[.bool false, .slice none 0 0] 40)
                      clear D
                      have D := D1
                      clear D1
                      obtain ⟨w8, hw8⟩ : ∃ w8, w9.alloc (.cells #[.bool false, .slice none 0 0] 40) = w8 := ⟨_, rfl⟩
                      obtain ⟨Gg, hGg⟩ : ∃ Gg, w9.heap.size = Gg := ⟨_, rfl⟩
                      rw [hw8] at G' D H hq hr hHeld ⊢
                      rw [hGg] at G' Gn hne ⊢
                      have G := G'
                      clear G' hw8 hGg
                      have X := Lib.hid (qd_set D Gn Hn hne.symm G H hq hr)
                      have D10 := below_set2 D Gn (.bool bq) (.slice Aq nq cq)
                      have D11 := below_set2 D10 Hn (.bool br') (.slice Ar nr cr)
                      have H1 := H.far2 (hne.symm).symm (.bool bq) (.slice Aq nq cq)
                      have g0 := G.at_ 0 rfl; have g1 := G.at_ 1 rfl; have f0 := G.frozen 0; have f1 := G.frozen 1; have h0 := H1.at_ 0 rfl; have h1 := H1.at_ 1 rfl; have f2 := H1.frozen 0; have f3 := H1.frozen 1
                      have D10 := Lib.hid D10; have D11 := Lib.hid D11
                      clear G H H1 D hq hr hp
                      (refine wpAnyL_one (i := 9) (o := _) (by kernel_rfl) rfl (fun K hK => ?_); clear hHeld; simp only [List.getElem_toArray, List.getElem_cons_zero, List.getElem_cons_succ]; go_simp; refine hK.out _ _ ?_ (fun hHeld => ?_); focus (intro _; exact KQ.out _ D10.out)); have hHeld := hHeld (by decide); clear hK K; (try simp only [Act.put, List.setIfInBounds_toArray, List.set_cons_zero, List.set_cons_succ])
                      (refine wpAnyL_one (i := 10) (o := _) (by kernel_rfl) rfl (fun K hK => ?_); clear hHeld; simp only [List.getElem_toArray, List.getElem_cons_zero, List.getElem_cons_succ]; go_simp; refine hK.out _ _ ?_ (fun hHeld => ?_); focus (intro _; exact KQ.out _ D11.out)); have hHeld := hHeld (by decide); clear hK K; (try simp only [Act.put, List.setIfInBounds_toArray, List.set_cons_zero, List.set_cons_succ])
                      refine wpAnyL_done (by kernel_rfl) ?_ _
                      go_wp2
                      go_meet
                      exact X.out
              · as_aux_lemma =>
                  (clear hHeld; simp only [List.getElem_toArray, List.getElem_cons_zero, List.getElem_cons_succ]; go_simp; refine hK.out _ _ ?_ (fun hHeld => ?_); focus (intro _; exact KQ.out _ (D.alloc D.size _))); have hHeld := hHeld (by decide); clear hK K; (try simp only [Act.put, List.setIfInBounds_toArray, List.set_cons_zero, List.set_cons_succ])
                  have G' := Blk.new w3 40 #[.bool false, .slice none 0 0]
                  have Gn : we.heap.size ≤ w3.heap.size := D.size
                  have hp := (hp.alloc (.cells #[.bool false, .slice none 0 0] 40))
                  have D1 : Below we.heap.size we (w3.alloc (.cells #[.bool false, .slice none 0 0] 40)) := D.alloc D.size (.cells #[.bool false, .slice none 0 0] 40)
                  clear D
                  have D := D1
                  clear D1
                  obtain ⟨w8, hw8⟩ : ∃ w8, w3.alloc (.cells #[.bool false, .slice none 0 0] 40) = w8 := ⟨_, rfl⟩
                  obtain ⟨Gg, hGg⟩ : ∃ Gg, w3.heap.size = Gg := ⟨_, rfl⟩
                  rw [hw8] at G' D hp hHeld ⊢
                  rw [hGg] at G' Gn ⊢
                  have G := G'
                  clear G' hw8 hGg
                  refine wpAnyL_two (i := 3) (j := 8) (oi := _) (oj := _) (by kernel_rfl) rfl rfl (fun K hK => ?_) (fun K hK => ?_)
                  · as_aux_lemma =>
                      (clear hHeld; simp only [List.getElem_toArray, List.getElem_cons_zero, List.getElem_cons_succ]; go_simp; (go_at_call 86; (with_reducible refine (DZ.out _ _ _ (VQ.out _ D) hp.v).mono ?_); rintro e w4 ⟨_, _, rfl, ⟨bq, Aq, nq, cq, rfl, hq⟩, ⟨br', Ar, nr, cr, rfl, hr⟩, hb⟩; have D := D.trans (hb.mono D.size); have G := G.below hb G.lt); refine hK.out _ _ ?_ (fun hHeld => ?_); focus (intro _; exact KQ.out _ D)); have hHeld := hHeld (by decide); clear hK K; (try simp only [Act.put, List.setIfInBounds_toArray, List.set_cons_zero, List.set_cons_succ])
                      (refine wpAnyL_take (i := 4) (oi := _) (v := ?_) rfl (by kernel_rfl) (by kernel_rfl) (by kernel_rfl) (fun _ _ _ h => h) (Or.inl ⟨by first | rfl | kernel_rfl, ?hy6⟩) (by assumption) ?rs6; (case hy6 => (intro w hSw; (try dsimp only at hSw); go_simp; first | done | with_reducible rfl)); case' rs6 => (simp only [List.getElem_toArray, List.getElem_cons_zero, List.getElem_cons_succ, Act.put, List.setIfInBounds_toArray, List.set_cons_zero, List.set_cons_succ])); (refine wpAnyL_take (i := 5) (oi := _) (v := ?_) rfl (by kernel_rfl) (by kernel_rfl) (by kernel_rfl) (fun _ _ _ h => h) (Or.inl ⟨by first | rfl | kernel_rfl, ?hy7⟩) (by assumption) ?rs7; (case hy7 => (intro w hSw; (try dsimp only at hSw); go_simp; first | done | with_reducible rfl)); case' rs7 => (simp only [List.getElem_toArray, List.getElem_cons_zero, List.getElem_cons_succ, Act.put, List.setIfInBounds_toArray, List.set_cons_zero, List.set_cons_succ])); (refine wpAnyL_take (i := 6) (oi := _) (v := ?_) rfl (by kernel_rfl) (by kernel_rfl) (by kernel_rfl) (fun _ _ _ h => h) (Or.inl ⟨by first | rfl | kernel_rfl, ?hy8⟩) (by assumption) ?rs8; (case hy8 => (intro w hSw; (try dsimp only at hSw); go_simp; first | done | with_reducible rfl)); case' rs8 => (simp only [List.getElem_toArray, List.getElem_cons_zero, List.getElem_cons_succ, Act.put, List.setIfInBounds_toArray, List.set_cons_zero, List.set_cons_succ])); skip
                      (refine wpAnyL_one (i := 8) (o := _) (by kernel_rfl) rfl (fun K hK => ?_); clear hHeld; simp only [List.getElem_toArray, List.getElem_cons_zero, List.getElem_cons_succ]; go_simp; refine hK.out _ _ ?_ (fun hHeld => ?_); focus (intro _; exact KQ.out _ (D.alloc D.size _))); have hHeld := hHeld (by decide); clear hK K; (try simp only [Act.put, List.setIfInBounds_toArray, List.set_cons_zero, List.set_cons_succ])
                      have H' := Blk.new w4 40 #[.bool false, .slice none 0 0]
                      have Hn : we.heap.size ≤ w4.heap.size := D.size
                      have hne : Gg ≠ w4.heap.size := Nat.ne_of_lt G.lt
                      have G := G.alloc (.cells #[.bool false, .slice none 0 0] 40)
                      have hq := (hq.alloc (.cells #[.bool false, .slice none 0 0] 40))
                      have hr := (hr.alloc (.cells #[.bool false, .slice none 0 0] 40))
                      have D1 : Below we.heap.size we (w4.alloc (.cells #[.bool false, .slice none 0 0] 40)) := D.alloc D.size (.cells #[.bool false, .slice none 0 0] 40)
                      clear D
                      have D := D1
                      clear D1
                      obtain ⟨w9, hw9⟩ : ∃ w9, w4.alloc (.cells #[.bool false, .slice none 0 0] 40) = w9 := ⟨_, rfl⟩
                      obtain ⟨Hg, hHg⟩ : ∃ Hg, w4.heap.size = Hg := ⟨_, rfl⟩
                      rw [hw9] at H' D G hq hr hHeld ⊢
                      rw [hHg] at H' Hn hne ⊢
                      have H := H'
                      clear H' hw9 hHg
                      have X := Lib.hid (qd_set D Gn Hn hne G H hq hr)
                      have D10 := below_set2 D Gn (.bool bq) (.slice Aq nq cq)
                      have D11 := below_set2 D10 Hn (.bool br') (.slice Ar nr cr)
                      have H1 := H.far2 (hne).symm (.bool bq) (.slice Aq nq cq)
                      have g0 := G.at_ 0 rfl; have g1 := G.at_ 1 rfl; have f0 := G.frozen 0; have f1 := G.frozen 1; have h0 := H1.at_ 0 rfl; have h1 := H1.at_ 1 rfl; have f2 := H1.frozen 0; have f3 := H1.frozen 1
                      have D10 := Lib.hid D10; have D11 := Lib.hid D11
                      clear G H H1 D hq hr hp
                      (refine wpAnyL_one (i := 9) (o := _) (by kernel_rfl) rfl (fun K hK => ?_); clear hHeld; simp only [List.getElem_toArray, List.getElem_cons_zero, List.getElem_cons_succ]; go_simp; refine hK.out _ _ ?_ (fun hHeld => ?_); focus (intro _; exact KQ.out _ D10.out)); have hHeld := hHeld (by decide); clear hK K; (try simp only [Act.put, List.setIfInBounds_toArray, List.set_cons_zero, List.set_cons_succ])
                      (refine wpAnyL_one (i := 10) (o := _) (by kernel_rfl) rfl (fun K hK => ?_); clear hHeld; simp only [List.getElem_toArray, List.getElem_cons_zero, List.getElem_cons_succ]; go_simp; refine hK.out _ _ ?_ (fun hHeld => ?_); focus (intro _; exact KQ.out _ D11.out)); have hHeld := hHeld (by decide); clear hK K; (try simp only [Act.put, List.setIfInBounds_toArray, List.set_cons_zero, List.set_cons_succ])
                      refine wpAnyL_done (by kernel_rfl) ?_ _
                      go_wp2
                      go_meet
                      exact X.out
                  · as_aux_lemma =>
                      (clear hHeld; simp only [List.getElem_toArray, List.getElem_cons_zero, List.getElem_cons_succ]; go_simp; refine hK.out _ _ ?_ (fun hHeld => ?_); focus (intro _; exact KQ.out _ (D.alloc D.size _))); have hHeld := hHeld (by decide); clear hK K; (try simp only [Act.put, List.setIfInBounds_toArray, List.set_cons_zero, List.set_cons_succ])
                      have H' := Blk.new w8 40 #[.bool false, .slice none 0 0]
                      have Hn : we.heap.size ≤ w8.heap.size := D.size
                      have hne : Gg ≠ w8.heap.size := Nat.ne_of_lt G.lt
                      have G := G.alloc (.cells #[.bool false, .slice none 0 0] 40)
                      have hp := (hp.alloc (.cells #[.bool false, .slice none 0 0] 40))
                      have D1 : Below we.heap.size we (w8.alloc (.cells #[.bool false, .slice none 0 0] 40)) := D.alloc D.size (.cells #[.bool false, .slice none 0 0] 40)
                      clear D
                      have D := D1
                      clear D1
                      obtain ⟨w9, hw9⟩ : ∃ w9, w8.alloc (.cells #[.bool false, .slice none 0 0] 40) = w9 := ⟨_, rfl⟩
                      obtain ⟨Hg, hHg⟩ : ∃ Hg, w8.heap.size = Hg := ⟨_, rfl⟩
                      rw [hw9] at H' D G hp hHeld ⊢
                      rw [hHg] at H' Hn hne ⊢
                      have H := H'
                      clear H' hw9 hHg
                      (refine wpAnyL_one (i := 3) (o := _) (by kernel_rfl) rfl (fun K hK => ?_); clear hHeld; simp only [List.getElem_toArray, List.getElem_cons_zero, List.getElem_cons_succ]; go_simp; (go_at_call 86; (with_reducible refine (DZ.out _ _ _ (VQ.out _ D) hp.v).mono ?_); rintro e w4 ⟨_, _, rfl, ⟨bq, Aq, nq, cq, rfl, hq⟩, ⟨br', Ar, nr, cr, rfl, hr⟩, hb⟩; have D := D.trans (hb.mono D.size); have G := G.below hb G.lt; have H := H.below hb H.lt); refine hK.out _ _ ?_ (fun hHeld => ?_); focus (intro _; exact KQ.out _ D)); have hHeld := hHeld (by decide); clear hK K; (try simp only [Act.put, List.setIfInBounds_toArray, List.set_cons_zero, List.set_cons_succ])
                      (refine wpAnyL_take (i := 4) (oi := _) (v := ?_) rfl (by kernel_rfl) (by kernel_rfl) (by kernel_rfl) (fun _ _ _ h => h) (Or.inl ⟨by first | rfl | kernel_rfl, ?hy9⟩) (by assumption) ?rs9; (case hy9 => (intro w hSw; (try dsimp only at hSw); go_simp; first | done | with_reducible rfl)); case' rs9 => (simp only [List.getElem_toArray, List.getElem_cons_zero, List.getElem_cons_succ, Act.put, List.setIfInBounds_toArray, List.set_cons_zero, List.set_cons_succ])); (refine wpAnyL_take (i := 5) (oi := _) (v := ?_) rfl (by kernel_rfl) (by kernel_rfl) (by kernel_rfl) (fun _ _ _ h => h) (Or.inl ⟨by first | rfl | kernel_rfl, ?hy10⟩) (by assumption) ?rs10; (case hy10 => (intro w hSw; (try dsimp only at hSw); go_simp; first | done | with_reducible rfl)); case' rs10 => (simp only [List.getElem_toArray, List.getElem_cons_zero, List.getElem_cons_succ, Act.put, List.setIfInBounds_toArray, List.set_cons_zero, List.set_cons_succ])); (refine wpAnyL_take (i := 6) (oi := _) (v := ?_) rfl (by kernel_rfl) (by kernel_rfl) (by kernel_rfl) (fun _ _ _ h => h) (Or.inl ⟨by first | rfl | kernel_rfl, ?hy11⟩) (by assumption) ?rs11; (case hy11 => (intro w hSw; (try dsimp only at hSw); go_simp; first | done | with_reducible rfl)); case' rs11 => (simp only [List.getElem_toArray, List.getElem_cons_zero, List.getElem_cons_succ, Act.put, List.setIfInBounds_toArray, List.set_cons_zero, List.set_cons_succ])); skip
                      have X := Lib.hid (qd_set D Gn Hn hne G H hq hr)
                      have D10 := below_set2 D Gn (.bool bq) (.slice Aq nq cq)
                      have D11 := below_set2 D10 Hn (.bool br') (.slice Ar nr cr)
                      have H1 := H.far2 (hne).symm (.bool bq) (.slice Aq nq cq)
                      have g0 := G.at_ 0 rfl; have g1 := G.at_ 1 rfl; have f0 := G.frozen 0; have f1 := G.frozen 1; have h0 := H1.at_ 0 rfl; have h1 := H1.at_ 1 rfl; have f2 := H1.frozen 0; have f3 := H1.frozen 1
                      have D10 := Lib.hid D10; have D11 := Lib.hid D11
                      clear G H H1 D hq hr hp
                      (refine wpAnyL_one (i := 9) (o := _) (by kernel_rfl) rfl (fun K hK => ?_); clear hHeld; simp only [List.getElem_toArray, List.getElem_cons_zero, List.getElem_cons_succ]; go_simp; refine hK.out _ _ ?_ (fun hHeld => ?_); focus (intro _; exact KQ.out _ D10.out)); have hHeld := hHeld (by decide); clear hK K; (try simp only [Act.put, List.setIfInBounds_toArray, List.set_cons_zero, List.set_cons_succ])
                      (refine wpAnyL_one (i := 10) (o := _) (by kernel_rfl) rfl (fun K hK => ?_); clear hHeld; simp only [List.getElem_toArray, List.getElem_cons_zero, List.getElem_cons_succ]; go_simp; refine hK.out _ _ ?_ (fun hHeld => ?_); focus (intro _; exact KQ.out _ D11.out)); have hHeld := hHeld (by decide); clear hK K; (try simp only [Act.put, List.setIfInBounds_toArray, List.set_cons_zero, List.set_cons_succ])
                      refine wpAnyL_done (by kernel_rfl) ?_ _
                      go_wp2
                      go_meet
                      exact X.out
              · as_aux_lemma =>
                  (clear hHeld; simp only [List.getElem_toArray, List.getElem_cons_zero, List.getElem_cons_succ]; go_simp; refine hK.out _ _ ?_ (fun hHeld => ?_); focus (intro _; exact KQ.out _ (D.alloc D.size _))); have hHeld := hHeld (by decide); clear hK K; (try simp only [Act.put, List.setIfInBounds_toArray, List.set_cons_zero, List.set_cons_succ])
                  have H' := Blk.new w3 40 #[.bool false, .slice none 0 0]
                  have Hn : we.heap.size ≤ w3.heap.size := D.size
                  have hp := (hp.alloc (.cells #[.bool false, .slice none 0 0] 40))
                  have D1 : Below we.heap.size we (w3.alloc (.cells #[.bool false, .slice none 0 0] 40)) := D.alloc D.size (.cells #[.bool false, .slice none 0 0] 40)
                  clear D
                  have D := D1
                  clear D1
                  obtain ⟨w9, hw9⟩ : ∃ w9, w3.alloc (.cells #[.bool false, .slice none 0 0] 40) = w9 := ⟨_, rfl⟩
                  obtain ⟨Hg, hHg⟩ : ∃ Hg, w3.heap.size = Hg := ⟨_, rfl⟩
                  rw [hw9] at H' D hp hHeld ⊢
                  rw [hHg] at H' Hn ⊢
                  have H := H'
                  clear H' hw9 hHg
                  refine wpAnyL_two (i := 3) (j := 7) (oi := _) (oj := _) (by kernel_rfl) rfl rfl (fun K hK => ?_) (fun K hK => ?_)
                  · as_aux_lemma =>
                      (clear hHeld; simp only [List.getElem_toArray, List.getElem_cons_zero, List.getElem_cons_succ]; go_simp; (go_at_call 86; (with_reducible refine (DZ.out _ _ _ (VQ.out _ D) hp.v).mono ?_); rintro e w4 ⟨_, _, rfl, ⟨bq, Aq, nq, cq, rfl, hq⟩, ⟨br', Ar, nr, cr, rfl, hr⟩, hb⟩; have D := D.trans (hb.mono D.size); have H := H.below hb H.lt); refine hK.out _ _ ?_ (fun hHeld => ?_); focus (intro _; exact KQ.out _ D)); have hHeld := hHeld (by decide); clear hK K; (try simp only [Act.put, List.setIfInBounds_toArray, List.set_cons_zero, List.set_cons_succ])
                      (refine wpAnyL_take (i := 4) (oi := _) (v := ?_) rfl (by kernel_rfl) (by kernel_rfl) (by kernel_rfl) (fun _ _ _ h => h) (Or.inl ⟨by first | rfl | kernel_rfl, ?hy12⟩) (by assumption) ?rs12; (case hy12 => (intro w hSw; (try dsimp only at hSw); go_simp; first | done | with_reducible rfl)); case' rs12 => (simp only [List.getElem_toArray, List.getElem_cons_zero, List.getElem_cons_succ, Act.put, List.setIfInBounds_toArray, List.set_cons_zero, List.set_cons_succ])); (refine wpAnyL_take (i := 5) (oi := _) (v := ?_) rfl (by kernel_rfl) (by kernel_rfl) (by kernel_rfl) (fun _ _ _ h => h) (Or.inl ⟨by first | rfl | kernel_rfl, ?hy13⟩) (by assumption) ?rs13; (case hy13 => (intro w hSw; (try dsimp only at hSw); go_simp; first | done | with_reducible rfl)); case' rs13 => (simp only [List.getElem_toArray, List.getElem_cons_zero, List.getElem_cons_succ, Act.put, List.setIfInBounds_toArray, List.set_cons_zero, List.set_cons_succ])); (refine wpAnyL_take (i := 6) (oi := _) (v := ?_) rfl (by kernel_rfl) (by kernel_rfl) (by kernel_rfl) (fun _ _ _ h => h) (Or.inl ⟨by first | rfl | kernel_rfl, ?hy14⟩) (by assumption) ?rs14; (case hy14 => (intro w hSw; (try dsimp only at hSw); go_simp; first | done | with_reducible rfl)); case' rs14 => (simp only [List.getElem_toArray, List.getElem_cons_zero, List.getElem_cons_succ, Act.put, List.setIfInBounds_toArray, List.set_cons_zero, List.set_cons_succ])); skip
                      (refine wpAnyL_one (i := 7) (o := _) (by kernel_rfl) rfl (fun K hK => ?_); clear hHeld; simp only [List.getElem_toArray, List.getElem_cons_zero, List.getElem_cons_succ]; go_simp; refine hK.out _ _ ?_ (fun hHeld => ?_); focus (intro _; exact KQ.out _ (D.alloc D.size _))); have hHeld := hHeld (by decide); clear hK K; (try simp only [Act.put, List.setIfInBounds_toArray, List.set_cons_zero, List.set_cons_succ])
                      have G' := Blk.new w4 40 #[.bool false, .slice none 0 0]
                      have Gn : we.heap.size ≤ w4.heap.size := D.size
                      have hne : Hg ≠ w4.heap.size := Nat.ne_of_lt H.lt
                      have H := H.alloc (.cells #[.bool false, .slice none 0 0] 40)
                      have hq := (hq.alloc (.cells #[.bool false, .slice none 0 0] 40))
                      have hr := (hr.alloc (.cells #[.bool false, .slice none 0 0] 40))
                      have D1 : Below we.heap.size we (w4.alloc (.cells #[.bool false, .slice none 0 0] 40)) := D.alloc D.size (.cells #[.bool false, .slice none 0 0] 40)
                      clear D
                      have D := D1
                      clear D1
                      obtain ⟨w8, hw8⟩ : ∃ w8, w4.alloc (.cells #[.bool false, .slice none 0 0] 40) = w8 := ⟨_, rfl⟩
                      obtain ⟨Gg, hGg⟩ : ∃ Gg, w4.heap.size = Gg := ⟨_, rfl⟩
                      rw [hw8] at G' D H hq hr hHeld ⊢
                      rw [hGg] at G' Gn hne ⊢
                      have G := G'
                      clear G' hw8 hGg
                      have X := Lib.hid (qd_set D Gn Hn hne.symm G H hq hr)
                      have D10 := below_set2 D Gn (.bool bq) (.slice Aq nq cq)
                      have D11 := below_set2 D10 Hn (.bool br') (.slice Ar nr cr)
                      have H1 := H.far2 (hne.symm).symm (.bool bq) (.slice Aq nq cq)
                      have g0 := G.at_ 0 rfl; have g1 := G.at_ 1 rfl; have f0 := G.frozen 0; have f1 := G.frozen 1; have h0 := H1.at_ 0 rfl; have h1 := H1.at_ 1 rfl; have f2 := H1.frozen 0; have f3 := H1.frozen 1
                      have D10 := Lib.hid D10; have D11 := Lib.hid D11
                      clear G H H1 D hq hr hp
                      (refine wpAnyL_one (i := 9) (o := _) (by kernel_rfl) rfl (fun K hK => ?_); clear hHeld; simp only [List.getElem_toArray, List.getElem_cons_zero, List.getElem_cons_succ]; go_simp; refine hK.out _ _ ?_ (fun hHeld => ?_); focus (intro _; exact KQ.out _ D10.out)); have hHeld := hHeld (by decide); clear hK K; (try simp only [Act.put, List.setIfInBounds_toArray, List.set_cons_zero, List.set_cons_succ])
                      (refine wpAnyL_one (i := 10) (o := _) (by kernel_rfl) rfl (fun K hK => ?_); clear hHeld; simp only [List.getElem_toArray, List.getElem_cons_zero, List.getElem_cons_succ]; go_simp; refine hK.out _ _ ?_ (fun hHeld => ?_); focus (intro _; exact KQ.out _ D11.out)); have hHeld := hHeld (by decide); clear hK K; (try simp only [Act.put, List.setIfInBounds_toArray, List.set_cons_zero, List.set_cons_succ])
                      refine wpAnyL_done (by kernel_rfl) ?_ _
                      go_wp2
                      go_meet
                      exact X.out
                  · as_aux_lemma =>
                      (clear hHeld; simp only [List.getElem_toArray, List.getElem_cons_zero, List.getElem_cons_succ]; go_simp; refine hK.out _ _ ?_ (fun hHeld => ?_); focus (intro _; exact KQ.out _ (D.alloc D.size _))); have hHeld := hHeld (by decide); clear hK K; (try simp only [Act.put, List.setIfInBounds_toArray, List.set_cons_zero, List.set_cons_succ])
                      have G' := Blk.new w9 40 #[.bool false, .slice none 0 0]
                      have Gn : we.heap.size ≤ w9.heap.size := D.size
                      have hne : Hg ≠ w9.heap.size := Nat.ne_of_lt H.lt
                      have H := H.alloc (.cells #[.bool false, .slice none 0 0] 40)
                      have hp := (hp.alloc (.cells #[.bool false, .slice none 0 0] 40))
                      have D1 : Below we.heap.size we (w9.alloc (.cells #[.bool false, .slice none 0 0] 40)) := D.alloc D.size (.cells #[.bool false, .slice none 0 0] 40)
                      clear D
                      have D := D1
                      clear D1
                      obtain ⟨w8, hw8⟩ : ∃ w8, w9.alloc (.cells #[.bool false, .slice none 0 0] 40) = w8 := ⟨_, rfl⟩
                      obtain ⟨Gg, hGg⟩ : ∃ Gg, w9.heap.size = Gg := ⟨_, rfl⟩
                      rw [hw8] at G' D H hp hHeld ⊢
                      rw [hGg] at G' Gn hne ⊢
                      have G := G'
                      clear G' hw8 hGg
                      (refine wpAnyL_one (i := 3) (o := _) (by kernel_rfl) rfl (fun K hK => ?_); clear hHeld; simp only [List.getElem_toArray, List.getElem_cons_zero, List.getElem_cons_succ]; go_simp; (go_at_call 86; (with_reducible refine (DZ.out _ _ _ (VQ.out _ D) hp.v).mono ?_); rintro e w4 ⟨_, _, rfl, ⟨bq, Aq, nq, cq, rfl, hq⟩, ⟨br', Ar, nr, cr, rfl, hr⟩, hb⟩; have D := D.trans (hb.mono D.size); have G := G.below hb G.lt; have H := H.below hb H.lt); refine hK.out _ _ ?_ (fun hHeld => ?_); focus (intro _; exact KQ.out _ D)); have hHeld := hHeld (by decide); clear hK K; (try simp only [Act.put, List.setIfInBounds_toArray, List.set_cons_zero, List.set_cons_succ])
                      (refine wpAnyL_take (i := 4) (oi := _) (v := ?_) rfl (by kernel_rfl) (by kernel_rfl) (by kernel_rfl) (fun _ _ _ h => h) (Or.inl ⟨by first | rfl | kernel_rfl, ?hy15⟩) (by assumption) ?rs15; (case hy15 => (intro w hSw; (try dsimp only at hSw); go_simp; first | done | with_reducible rfl)); case' rs15 => (simp only [List.getElem_toArray, List.getElem_cons_zero, List.getElem_cons_succ, Act.put, List.setIfInBounds_toArray, List.set_cons_zero, List.set_cons_succ])); (refine wpAnyL_take (i := 5) (oi := _) (v := ?_) rfl (by kernel_rfl) (by kernel_rfl) (by kernel_rfl) (fun _ _ _ h => h) (Or.inl ⟨by first | rfl | kernel_rfl, ?hy16⟩) (by assumption) ?rs16; (case hy16 => (intro w hSw; (try dsimp only at hSw); go_simp; first | done | with_reducible rfl)); case' rs16 => (simp only [List.getElem_toArray, List.getElem_cons_zero, List.getElem_cons_succ, Act.put, List.setIfInBounds_toArray, List.set_cons_zero, List.set_cons_succ])); (refine wpAnyL_take (i := 6) (oi := _) (v := ?_) rfl (by kernel_rfl) (by kernel_rfl) (by kernel_rfl) (fun _ _ _ h => h) (Or.inl ⟨by first | rfl | kernel_rfl, ?hy17⟩) (by assumption) ?rs17; (case hy17 => (intro w hSw; (try dsimp only at hSw); go_simp; first | done | with_reducible rfl)); case' rs17 => (simp only [List.getElem_toArray, List.getElem_cons_zero, List.getElem_cons_succ, Act.put, List.setIfInBounds_toArray, List.set_cons_zero, List.set_cons_succ])); skip
                      have X := Lib.hid (qd_set D Gn Hn hne.symm G H hq hr)
                      have D10 := below_set2 D Gn (.bool bq) (.slice Aq nq cq)
                      have D11 := below_set2 D10 Hn (.bool br') (.slice Ar nr cr)
                      have H1 := H.far2 (hne.symm).symm (.bool bq) (.slice Aq nq cq)
                      have g0 := G.at_ 0 rfl; have g1 := G.at_ 1 rfl; have f0 := G.frozen 0; have f1 := G.frozen 1; have h0 := H1.at_ 0 rfl; have h1 := H1.at_ 1 rfl; have f2 := H1.frozen 0; have f3 := H1.frozen 1
                      have D10 := Lib.hid D10; have D11 := Lib.hid D11
                      clear G H H1 D hq hr hp
                      (refine wpAnyL_one (i := 9) (o := _) (by kernel_rfl) rfl (fun K hK => ?_); clear hHeld; simp only [List.getElem_toArray, List.getElem_cons_zero, List.getElem_cons_succ]; go_simp; refine hK.out _ _ ?_ (fun hHeld => ?_); focus (intro _; exact KQ.out _ D10.out)); have hHeld := hHeld (by decide); clear hK K; (try simp only [Act.put, List.setIfInBounds_toArray, List.set_cons_zero, List.set_cons_succ])
                      (refine wpAnyL_one (i := 10) (o := _) (by kernel_rfl) rfl (fun K hK => ?_); clear hHeld; simp only [List.getElem_toArray, List.getElem_cons_zero, List.getElem_cons_succ]; go_simp; refine hK.out _ _ ?_ (fun hHeld => ?_); focus (intro _; exact KQ.out _ D11.out)); have hHeld := hHeld (by decide); clear hK K; (try simp only [Act.put, List.setIfInBounds_toArray, List.set_cons_zero, List.set_cons_succ])
                      refine wpAnyL_done (by kernel_rfl) ?_ _
                      go_wp2
                      go_meet
                      exact X.out
          · as_aux_lemma =>
              (clear hHeld; simp only [List.getElem_toArray, List.getElem_cons_zero, List.getElem_cons_succ]; go_simp; refine hK.out _ _ ?_ (fun hHeld => ?_); focus (intro _; exact KQ.out _ (D.alloc D.size _))); have hHeld := hHeld (by decide); clear hK K; (try simp only [Act.put, List.setIfInBounds_toArray, List.set_cons_zero, List.set_cons_succ])
              have G' := Blk.drew (Blk.new wr 40 #[.bool false, .slice none 0 0])
              have Gn : we.heap.size ≤ wr.heap.size := D.size
              have D1 : Below we.heap.size we ((wr.alloc (.cells #[.bool false, .slice none 0 0] 40)).drew) := (D.alloc D.size (.cells #[.bool false, .slice none 0 0] 40))
              clear D
              have D := D1
              clear D1
              obtain ⟨w8, hw8⟩ : ∃ w8, (wr.alloc (.cells #[.bool false, .slice none 0 0] 40)).drew = w8 := ⟨_, rfl⟩
              obtain ⟨Gg, hGg⟩ : ∃ Gg, wr.heap.size = Gg := ⟨_, rfl⟩
              rw [hw8] at G' D hHeld ⊢
              rw [hGg] at G' Gn ⊢
              have G := G'
              clear G' hw8 hGg
              refine wpAnyL_two (i := 2) (j := 8) (oi := _) (oj := _) (by kernel_rfl) rfl rfl (fun K hK => ?_) (fun K hK => ?_)
              · as_aux_lemma =>
                  (clear hHeld; simp only [List.getElem_toArray, List.getElem_cons_zero, List.getElem_cons_succ]; go_simp; (go_at_call 68; (with_reducible refine (HP.out _).mono ?_); rintro e w3 ⟨_, rfl, ⟨b1, A1, n1, c1, rfl, hp0⟩, hb⟩; have hp := hp0.zl; have D := D.trans (hb.mono D.size); have G := G.below hb G.lt); refine hK.out _ _ ?_ (fun hHeld => ?_); focus (intro _; exact KQ.out _ D)); have hHeld := hHeld (by decide); clear hK K; (try simp only [Act.put, List.setIfInBounds_toArray, List.set_cons_zero, List.set_cons_succ])
                  refine wpAnyL_two (i := 3) (j := 8) (oi := _) (oj := _) (by kernel_rfl) rfl rfl (fun K hK => ?_) (fun K hK => ?_)
                  · as_aux_lemma =>
                      (clear hHeld; simp only [List.getElem_toArray, List.getElem_cons_zero, List.getElem_cons_succ]; go_simp; (go_at_call 86; (with_reducible refine (DZ.out _ _ _ (VQ.out _ D) hp.v).mono ?_); rintro e w4 ⟨_, _, rfl, ⟨bq, Aq, nq, cq, rfl, hq⟩, ⟨br', Ar, nr, cr, rfl, hr⟩, hb⟩; have D := D.trans (hb.mono D.size); have G := G.below hb G.lt); refine hK.out _ _ ?_ (fun hHeld => ?_); focus (intro _; exact KQ.out _ D)); have hHeld := hHeld (by decide); clear hK K; (try simp only [Act.put, List.setIfInBounds_toArray, List.set_cons_zero, List.set_cons_succ])
                      (refine wpAnyL_take (i := 4) (oi := _) (v := ?_) rfl (by kernel_rfl) (by kernel_rfl) (by kernel_rfl) (fun _ _ _ h => h) (Or.inl ⟨by first | rfl | kernel_rfl, ?hy18⟩) (by assumption) ?rs18; (case hy18 => (intro w hSw; (try dsimp only at hSw); go_simp; first | done | with_reducible rfl)); case' rs18 => (simp only [List.getElem_toArray, List.getElem_cons_zero, List.getElem_cons_succ, Act.put, List.setIfInBounds_toArray, List.set_cons_zero, List.set_cons_succ])); (refine wpAnyL_take (i := 5) (oi := _) (v := ?_) rfl (by kernel_rfl) (by kernel_rfl) (by kernel_rfl) (fun _ _ _ h => h) (Or.inl ⟨by first | rfl | kernel_rfl, ?hy19⟩) (by assumption) ?rs19; (case hy19 => (intro w hSw; (try dsimp only at hSw); go_simp; first | done | with_reducible rfl)); case' rs19 => (simp only [List.getElem_toArray, List.getElem_cons_zero, List.getElem_cons_succ, Act.put, List.setIfInBounds_toArray, List.set_cons_zero, List.set_cons_succ])); (refine wpAnyL_take (i := 6) (oi := _) (v := ?_) rfl (by kernel_rfl) (by kernel_rfl) (by kernel_rfl) (fun _ _ _ h => h) (Or.inl ⟨by first | rfl | kernel_rfl, ?hy20⟩) (by assumption) ?rs20; (case hy20 => (intro w hSw; (try dsimp only at hSw); go_simp; first | done | with_reducible rfl)); case' rs20 => (simp only [List.getElem_toArray, List.getElem_cons_zero, List.getElem_cons_succ, Act.put, List.setIfInBounds_toArray, List.set_cons_zero, List.set_cons_succ])); skip
                      (refine wpAnyL_one (i := 8) (o := _) (by kernel_rfl) rfl (fun K hK => ?_); clear hHeld; simp only [List.getElem_toArray, List.getElem_cons_zero, List.getElem_cons_succ]; go_simp; refine hK.out _ _ ?_ (fun hHeld => ?_); focus (intro _; exact KQ.out _ (D.alloc D.size _))); have hHeld := hHeld (by decide); clear hK K; (try simp only [Act.put, List.setIfInBounds_toArray, List.set_cons_zero, List.set_cons_succ])
                      have H' := Blk.new w4 40 #[.bool false, .slice none 0 0]
                      have Hn : we.heap.size ≤ w4.heap.size := D.size
                      have hne : Gg ≠ w4.heap.size := Nat.ne_of_lt G.lt
                      have G := G.alloc (.cells #[.bool false, .slice none 0 0] 40)
                      have hq := (hq.alloc (.cells #[.bool false, .slice none 0 0] 40))
                      have hr := (hr.alloc (.cells #[.bool false, .slice none 0 0] 40))
                      have D1 : Below we.heap.size we (w4.alloc (.cells #[.bool false, .slice none 0 0] 40)) := D.alloc D.size (.cells #[.bool false, .slice none 0 0] 40)
                      clear D
                      have D := D1
                      clear D1
                      obtain ⟨w9, hw9⟩ : ∃ w9, w4.alloc (.cells #[.bool false, .slice none 0 0] 40) = w9 := ⟨_, rfl⟩
                      obtain ⟨Hg, hHg⟩ : ∃ Hg, w4.heap.size = Hg := ⟨_, rfl⟩
                      rw [hw9] at H' D G hq hr hHeld ⊢
                      rw [hHg] at H' Hn hne ⊢
                      have H := H'
                      clear H' hw9 hHg
                      have X := Lib.hid (qd_set D Gn Hn hne G H hq hr)
                      have D10 := below_set2 D Gn (.bool bq) (.slice Aq nq cq)
                      have D11 := below_set2 D10 Hn (.bool br') (.slice Ar nr cr)
                      have H1 := H.far2 (hne).symm (.bool bq) (.slice Aq nq cq)
                      have g0 := G.at_ 0 rfl; have g1 := G.at_ 1 rfl; have f0 := G.frozen 0; have f1 := G.frozen 1; have h0 := H1.at_ 0 rfl; have h1 := H1.at_ 1 rfl; have f2 := H1.frozen 0; have f3 := H1.frozen 1
                      have D10 := Lib.hid D10; have D11 := Lib.hid D11
                      clear G H H1 D hq hr hp
                      (refine wpAnyL_one (i := 9) (o := _) (by kernel_rfl) rfl (fun K hK => ?_); clear hHeld; simp only [List.getElem_toArray, List.getElem_cons_zero, List.getElem_cons_succ]; go_simp; refine hK.out _ _ ?_ (fun hHeld => ?_); focus (intro _; exact KQ.out _ D10.out)); have hHeld := hHeld (by decide); clear hK K; (try simp only [Act.put, List.setIfInBounds_toArray, List.set_cons_zero, List.set_cons_succ])
                      (refine wpAnyL_one (i := 10) (o := _) (by kernel_rfl) rfl (fun K hK => ?_); clear hHeld; simp only [List.getElem_toArray, List.getElem_cons_zero, List.getElem_cons_succ]; go_simp; refine hK.out _ _ ?_ (fun hHeld => ?_); focus (intro _; exact KQ.out _ D11.out)); have hHeld := hHeld (by decide); clear hK K; (try simp only [Act.put, List.setIfInBounds_toArray, List.set_cons_zero, List.set_cons_succ])
                      refine wpAnyL_done (by kernel_rfl) ?_ _
                      go_wp2
                      go_meet
                      exact X.out
                  · as_aux_lemma =>
                      (clear hHeld; simp only [List.getElem_toArray, List.getElem_cons_zero, List.getElem_cons_succ]; go_simp; refine hK.out _ _ ?_ (fun hHeld => ?_); focus (intro _; exact KQ.out _ (D.alloc D.size _))); have hHeld := hHeld (by decide); clear hK K; (try simp only [Act.put, List.setIfInBounds_toArray, List.set_cons_zero, List.set_cons_succ])
                      have H' := Blk.new w3 40 #[.bool false, .slice none 0 0]
                      have Hn : we.heap.size ≤ w3.heap.size := D.size
                      have hne : Gg ≠ w3.heap.size := Nat.ne_of_lt G.lt
                      have G := G.alloc (.cells #[.bool false, .slice none 0 0] 40)
                      have hp := (hp.alloc (.cells #[.bool false, .slice none 0 0] 40))
                      have D1 : Below we.heap.size we (w3.alloc (.cells #[.bool false, .slice none 0 0] 40)) := D.alloc D.size (.cells #[.bool false, .slice none 0 0] 40)
                      clear D
                      have D := D1
                      clear D1
                      obtain ⟨w9, hw9⟩ : ∃ w9, w3.alloc (.cells #[.bool false, .slice none 0 0] 40) = w9 := ⟨_, rfl⟩
                      obtain ⟨Hg, hHg⟩ : ∃ Hg, w3.heap.size = Hg := ⟨_, rfl⟩
                      rw [hw9] at H' D G hp hHeld ⊢
                      rw [hHg] at H' Hn hne ⊢
                      have H := H'
                      clear H' hw9 hHg
                      (refine wpAnyL_one (i := 3) (o := _) (by kernel_rfl) rfl (fun K hK => ?_); clear hHeld; simp only [List.getElem_toArray, List.getElem_cons_zero, List.getElem_cons_succ]; go_simp; (go_at_call 86; (with_reducible refine (DZ.out _ _ _ (VQ.out _ D) hp.v).mono ?_); rintro e w4 ⟨_, _, rfl, ⟨bq, Aq, nq, cq, rfl, hq⟩, ⟨br', Ar, nr, cr, rfl, hr⟩, hb⟩; have D := D.trans (hb.mono D.size); have G := G.below hb G.lt; have H := H.below hb H.lt); refine hK.out _ _ ?_ (fun hHeld => ?_); focus (intro _; exact KQ.out _ D)); have hHeld := hHeld (by decide); clear hK K; (try simp only [Act.put, List.setIfInBounds_toArray, List.set_cons_zero, List.set_cons_succ])
                      (refine wpAnyL_take (i := 4) (oi := _) (v := ?_) rfl (by kernel_rfl) (by kernel_rfl) (by kernel_rfl) (fun _ _ _ h => h) (Or.inl ⟨by first | rfl | kernel_rfl, ?hy21⟩) (by assumption) ?rs21; (case hy21 => (intro w hSw; (try dsimp only at hSw); go_simp; first | done | with_reducible rfl)); case' rs21 => (simp only [List.getElem_toArray, List.getElem_cons_zero, List.getElem_cons_succ, Act.put, List.setIfInBounds_toArray, List.set_cons_zero, List.set_cons_succ])); (refine wpAnyL_take (i := 5) (oi := _) (v := ?_) rfl (by kernel_rfl) (by kernel_rfl) (by kernel_rfl) (fun _ _ _ h => h) (Or.inl ⟨by first | rfl | kernel_rfl, ?hy22⟩) (by assumption) ?rs22; (case hy22 => (intro w hSw; (try dsimp only at hSw); go_simp; first | done | with_reducible rfl)); case' rs22 => (simp only [List.getElem_toArray, List.getElem_cons_zero, List.getElem_cons_succ, Act.put, List.setIfInBounds_toArray, List.set_cons_zero, List.set_cons_succ])); (refine wpAnyL_take (i := 6) (oi := _) (v := ?_) rfl (by kernel_rfl) (by kernel_rfl) (by kernel_rfl) (fun _ _ _ h => h) (Or.inl ⟨by first | rfl | kernel_rfl, ?hy23⟩) (by assumption) ?rs23; (case hy23 => (intro w hSw; (try dsimp only at hSw); go_simp; first | done | with_reducible rfl)); case' rs23 => (simp only [List.getElem_toArray, List.getElem_cons_zero, List.getElem_cons_succ, Act.put, List.setIfInBounds_toArray, List.set_cons_zero, List.set_cons_succ])); skip
                      have X := Lib.hid (qd_set D Gn Hn hne G H hq hr)
                      have D10 := below_set2 D Gn (.bool bq) (.slice Aq nq cq)
                      have D11 := below_set2 D10 Hn (.bool br') (.slice Ar nr cr)
                      have H1 := H.far2 (hne).symm (.bool bq) (.slice Aq nq cq)
                      have g0 := G.at_ 0 rfl; have g1 := G.at_ 1 rfl; have f0 := G.frozen 0; have f1 := G.frozen 1; have h0 := H1.at_ 0 rfl; have h1 := H1.at_ 1 rfl; have f2 := H1.frozen 0; have f3 := H1.frozen 1
                      have D10 := Lib.hid D10; have D11 := Lib.hid D11
                      clear G H H1 D hq hr hp
                      (refine wpAnyL_one (i := 9) (o := _) (by kernel_rfl) rfl (fun K hK => ?_); clear hHeld; simp only [List.getElem_toArray, List.getElem_cons_zero, List.getElem_cons_succ]; go_simp; refine hK.out _ _ ?_ (fun hHeld => ?_); focus (intro _; exact KQ.out _ D10.out)); have hHeld := hHeld (by decide); clear hK K; (try simp only [Act.put, List.setIfInBounds_toArray, List.set_cons_zero, List.set_cons_succ])
                      (refine wpAnyL_one (i := 10) (o := _) (by kernel_rfl) rfl (fun K hK => ?_); clear hHeld; simp only [List.getElem_toArray, List.getElem_cons_zero, List.getElem_cons_succ]; go_simp; refine hK.out _ _ ?_ (fun hHeld => ?_); focus (intro _; exact KQ.out _ D11.out)); have hHeld := hHeld (by decide); clear hK K; (try simp only [Act.put, List.setIfInBounds_toArray, List.set_cons_zero, List.set_cons_succ])
                      refine wpAnyL_done (by kernel_rfl) ?_ _
                      go_wp2
                      go_meet
                      exact X.out
              · as_aux_lemma =>
                  (clear hHeld; simp only [List.getElem_toArray, List.getElem_cons_zero, List.getElem_cons_succ]; go_simp; refine hK.out _ _ ?_ (fun hHeld => ?_); focus (intro _; exact KQ.out _ (D.alloc D.size _))); have hHeld := hHeld (by decide); clear hK K; (try simp only [Act.put, List.setIfInBounds_toArray, List.set_cons_zero, List.set_cons_succ])
                  have H' := Blk.new w8 40 #[.bool false, .slice none 0 0]
                  have Hn : we.heap.size ≤ w8.heap.size := D.size
                  have hne : Gg ≠ w8.heap.size := Nat.ne_of_lt G.lt
                  have G := G.alloc (.cells #[.bool false, .slice none 0 0] 40)
                  have D1 : Below we.heap.size we (w8.alloc (.cells #[.bool false, .slice none 0 0] 40)) := D.alloc D.size (.cells #[.bool false, .slice none 0 0] 40)
                  clear D
                  have D := D1
                  clear D1
                  obtain ⟨w9, hw9⟩ : ∃ w9, w8.alloc (.cells #[.bool false, .slice none 0 0] 40) = w9 := ⟨_, rfl⟩
                  obtain ⟨Hg, hHg⟩ : ∃ Hg, w8.heap.size = Hg := ⟨_, rfl⟩
                  rw [hw9] at H' D G hHeld ⊢
                  rw [hHg] at H' Hn hne ⊢
                  have H := H'
                  clear H' hw9 hHg
                  (refine wpAnyL_one (i := 2) (o := _) (by kernel_rfl) rfl (fun K hK => ?_); clear hHeld; simp only [List.getElem_toArray, List.getElem_cons_zero, List.getElem_cons_succ]; go_simp; (go_at_call 68; (with_reducible refine (HP.out _).mono ?_); rintro e w3 ⟨_, rfl, ⟨b1, A1, n1, c1, rfl, hp0⟩, hb⟩; have hp := hp0.zl; have D := D.trans (hb.mono D.size); have G := G.below hb G.lt; have H := H.below hb H.lt); refine hK.out _ _ ?_ (fun hHeld => ?_); focus (intro _; exact KQ.out _ D)); have hHeld := hHeld (by decide); clear hK K; (try simp only [Act.put, List.setIfInBounds_toArray, List.set_cons_zero, List.set_cons_succ])
                  (refine wpAnyL_one (i := 3) (o := _) (by kernel_rfl) rfl (fun K hK => ?_); clear hHeld; simp only [List.getElem_toArray, List.getElem_cons_zero, List.getElem_cons_succ]; go_simp; (go_at_call 86; (with_reducible refine (DZ.out _ _ _ (VQ.out _ D) hp.v).mono ?_); rintro e w4 ⟨_, _, rfl, ⟨bq, Aq, nq, cq, rfl, hq⟩, ⟨br', Ar, nr, cr, rfl, hr⟩, hb⟩; have D := D.trans (hb.mono D.size); have G := G.below hb G.lt; have H := H.below hb H.lt); refine hK.out _ _ ?_ (fun hHeld => ?_); focus (intro _; exact KQ.out _ D)); have hHeld := hHeld (by decide); clear hK K; (try simp only [Act.put, List.setIfInBounds_toArray, List.set_cons_zero, List.set_cons_succ])
                  (refine wpAnyL_take (i := 4) (oi := _) (v := ?_) rfl (by kernel_rfl) (by kernel_rfl) (by kernel_rfl) (fun _ _ _ h => h) (Or.inl ⟨by first | rfl | kernel_rfl, ?hy24⟩) (by assumption) ?rs24; (case hy24 => (intro w hSw; (try dsimp only at hSw); go_simp; first | done | with_reducible rfl)); case' rs24 => (simp only [List.getElem_toArray, List.getElem_cons_zero, List.getElem_cons_succ, Act.put, List.setIfInBounds_toArray, List.set_cons_zero, List.set_cons_succ])); (refine wpAnyL_take (i := 5) (oi := _) (v := ?_) rfl (by kernel_rfl) (by kernel_rfl) (by kernel_rfl) (fun _ _ _ h => h) (Or.inl ⟨by first | rfl | kernel_rfl, ?hy25⟩) (by assumption) ?rs25; (case hy25 => (intro w hSw; (try dsimp only at hSw); go_simp; first | done | with_reducible rfl)); case' rs25 => (simp only [List.getElem_toArray, List.getElem_cons_zero, List.getElem_cons_succ, Act.put, List.setIfInBounds_toArray, List.set_cons_zero, List.set_cons_succ])); (refine wpAnyL_take (i := 6) (oi := _) (v := ?_) rfl (by kernel_rfl) (by kernel_rfl) (by kernel_rfl) (fun _ _ _ h => h) (Or.inl ⟨by first | rfl | kernel_rfl, ?hy26⟩) (by assumption) ?rs26; (case hy26 => (intro w hSw; (try dsimp only at hSw); go_simp; first | done | with_reducible rfl)); case' rs26 => (simp only [List.getElem_toArray, List.getElem_cons_zero, List.getElem_cons_succ, Act.put, List.setIfInBounds_toArray, List.set_cons_zero, List.set_cons_succ])); skip
                  have X := Lib.hid (qd_set D Gn Hn hne G H hq hr)
                  have D10 := below_set2 D Gn (.bool bq) (.slice Aq nq cq)
                  have D11 := below_set2 D10 Hn (.bool br') (.slice Ar nr cr)
                  have H1 := H.far2 (hne).symm (.bool bq) (.slice Aq nq cq)
                  have g0 := G.at_ 0 rfl; have g1 := G.at_ 1 rfl; have f0 := G.frozen 0; have f1 := G.frozen 1; have h0 := H1.at_ 0 rfl; have h1 := H1.at_ 1 rfl; have f2 := H1.frozen 0; have f3 := H1.frozen 1
                  have D10 := Lib.hid D10; have D11 := Lib.hid D11
                  clear G H H1 D hq hr hp
                  (refine wpAnyL_one (i := 9) (o := _) (by kernel_rfl) rfl (fun K hK => ?_); clear hHeld; simp only [List.getElem_toArray, List.getElem_cons_zero, List.getElem_cons_succ]; go_simp; refine hK.out _ _ ?_ (fun hHeld => ?_); focus (intro _; exact KQ.out _ D10.out)); have hHeld := hHeld (by decide); clear hK K; (try simp only [Act.put, List.setIfInBounds_toArray, List.set_cons_zero, List.set_cons_succ])
                  (refine wpAnyL_one (i := 10) (o := _) (by kernel_rfl) rfl (fun K hK => ?_); clear hHeld; simp only [List.getElem_toArray, List.getElem_cons_zero, List.getElem_cons_succ]; go_simp; refine hK.out _ _ ?_ (fun hHeld => ?_); focus (intro _; exact KQ.out _ D11.out)); have hHeld := hHeld (by decide); clear hK K; (try simp only [Act.put, List.setIfInBounds_toArray, List.set_cons_zero, List.set_cons_succ])
                  refine wpAnyL_done (by kernel_rfl) ?_ _
                  go_wp2
                  go_meet
                  exact X.out
          · as_aux_lemma =>
              (clear hHeld; simp only [List.getElem_toArray, List.getElem_cons_zero, List.getElem_cons_succ]; go_simp; refine hK.out _ _ ?_ (fun hHeld => ?_); focus (intro _; exact KQ.out _ (D.alloc D.size _))); have hHeld := hHeld (by decide); clear hK K; (try simp only [Act.put, List.setIfInBounds_toArray, List.set_cons_zero, List.set_cons_succ])
              have H' := Blk.drew (Blk.new wr 40 #[.bool false, .slice none 0 0])
              have Hn : we.heap.size ≤ wr.heap.size := D.size
              have D1 : Below we.heap.size we ((wr.alloc (.cells #[.bool false, .slice none 0 0] 40)).drew) := (D.alloc D.size (.cells #[.bool false, .slice none 0 0] 40))
              clear D
              have D := D1
              clear D1
              obtain ⟨w9, hw9⟩ : ∃ w9, (wr.alloc (.cells #[.bool false, .slice none 0 0] 40)).drew = w9 := ⟨_, rfl⟩
              obtain ⟨Hg, hHg⟩ : ∃ Hg, wr.heap.size = Hg := ⟨_, rfl⟩
              rw [hw9] at H' D hHeld ⊢
              rw [hHg] at H' Hn ⊢
              have H := H'
              clear H' hw9 hHg
              refine wpAnyL_two (i := 2) (j := 7) (oi := _) (oj := _) (by kernel_rfl) rfl rfl (fun K hK => ?_) (fun K hK => ?_)
              · as_aux_lemma =>
                  (clear hHeld; simp only [List.getElem_toArray, List.getElem_cons_zero, List.getElem_cons_succ]; go_simp; (go_at_call 68; (with_reducible refine (HP.out _).mono ?_); rintro e w3 ⟨_, rfl, ⟨b1, A1, n1, c1, rfl, hp0⟩, hb⟩; have hp := hp0.zl; have D := D.trans (hb.mono D.size); have H := H.below hb H.lt); refine hK.out _ _ ?_ (fun hHeld => ?_); focus (intro _; exact KQ.out _ D)); have hHeld := hHeld (by decide); clear hK K; (try simp only [Act.put, List.setIfInBounds_toArray, List.set_cons_zero, List.set_cons_succ])
                  refine wpAnyL_two (i := 3) (j := 7) (oi := _) (oj := _) (by kernel_rfl) rfl rfl (fun K hK => ?_) (fun K hK => ?_)
                  · as_aux_lemma =>
                      (clear hHeld; simp only [List.getElem_toArray, List.getElem_cons_zero, List.getElem_cons_succ]; go_simp; (go_at_call 86; (with_reducible refine (DZ.out _ _ _ (VQ.out _ D) hp.v).mono ?_); rintro e w4 ⟨_, _, rfl, ⟨bq, Aq, nq, cq, rfl, hq⟩, ⟨br', Ar, nr, cr, rfl, hr⟩, hb⟩; have D := D.trans (hb.mono D.size); have H := H.below hb H.lt); refine hK.out _ _ ?_ (fun hHeld => ?_); focus (intro _; exact KQ.out _ D)); have hHeld := hHeld (by decide); clear hK K; (try simp only [Act.put, List.setIfInBounds_toArray, List.set_cons_zero, List.set_cons_succ])
                      (refine wpAnyL_take (i := 4) (oi := _) (v := ?_) rfl (by kernel_rfl) (by kernel_rfl) (by kernel_rfl) (fun _ _ _ h => h) (Or.inl ⟨by first | rfl | kernel_rfl, ?hy27⟩) (by assumption) ?rs27; (case hy27 => (intro w hSw; (try dsimp only at hSw); go_simp; first | done | with_reducible rfl)); case' rs27 => (simp only [List.getElem_toArray, List.getElem_cons_zero, List.getElem_cons_succ, Act.put, List.setIfInBounds_toArray, List.set_cons_zero, List.set_cons_succ])); (refine wpAnyL_take (i := 5) (oi := _) (v := ?_) rfl (by kernel_rfl) (by kernel_rfl) (by kernel_rfl) (fun _ _ _ h => h) (Or.inl ⟨by first | rfl | kernel_rfl, ?hy28⟩) (by assumption) ?rs28; (case hy28 => (intro w hSw; (try dsimp only at hSw); go_simp; first | done | with_reducible rfl)); case' rs28 => (simp only [List.getElem_toArray, List.getElem_cons_zero, List.getElem_cons_succ, Act.put, List.setIfInBounds_toArray, List.set_cons_zero, List.set_cons_succ])); (refine wpAnyL_take (i := 6) (oi := _) (v := ?_) rfl (by kernel_rfl) (by kernel_rfl) (by kernel_rfl) (fun _ _ _ h => h) (Or.inl ⟨by first | rfl | kernel_rfl, ?hy29⟩) (by assumption) ?rs29; (case hy29 => (intro w hSw; (try dsimp only at hSw); go_simp; first | done | with_reducible rfl)); case' rs29 => (simp only [List.getElem_toArray, List.getElem_cons_zero, List.getElem_cons_succ, Act.put, List.setIfInBounds_toArray, List.set_cons_zero, List.set_cons_succ])); skip
                      (refine wpAnyL_one (i := 7) (o := _) (by kernel_rfl) rfl (fun K hK => ?_); clear hHeld; simp only [List.getElem_toArray, List.getElem_cons_zero, List.getElem_cons_succ]; go_simp; refine hK.out _ _ ?_ (fun hHeld => ?_); focus (intro _; exact KQ.out _ (D.alloc D.size _))); have hHeld := hHeld (by decide); clear hK K; (try simp only [Act.put, List.setIfInBounds_toArray, List.set_cons_zero, List.set_cons_succ])
                      have G' := Blk.new w4 40 #[.bool false, .slice none 0 0]
                      have Gn : we.heap.size ≤ w4.heap.size := D.size
                      have hne : Hg ≠ w4.heap.size := Nat.ne_of_lt H.lt
                      have H := H.alloc (.cells #[.bool false, .slice none 0 0] 40)
                      have hq := (hq.alloc (.cells #[.bool false, .slice none 0 0] 40))
                      have hr := (hr.alloc (.cells #[.bool false, .slice none 0 0] 40))
                      have D1 : Below we.heap.size we (w4.alloc (.cells #[.bool false, .slice none 0 0] 40)) := D.alloc D.size (.cells #[.bool false, .slice none 0 0] 40)
                      clear D
                      have D := D1
                      clear D1
                      obtain ⟨w8, hw8⟩ : ∃ w8, w4.alloc (.cells #[.bool false, .slice none 0 0] 40) = w8 := ⟨_, rfl⟩
                      obtain ⟨Gg, hGg⟩ : ∃ Gg, w4.heap.size = Gg := ⟨_, rfl⟩
                      rw [hw8] at G' D H hq hr hHeld ⊢
                      rw [hGg] at G' Gn hne ⊢
                      have G := G'
                      clear G' hw8 hGg
                      have X := Lib.hid (qd_set D Gn Hn hne.symm G H hq hr)
                      have D10 := below_set2 D Gn (.bool bq) (.slice Aq nq cq)
                      have D11 := below_set2 D10 Hn (.bool br') (.slice Ar nr cr)
                      have H1 := H.far2 (hne.symm).symm (.bool bq) (.slice Aq nq cq)
                      have g0 := G.at_ 0 rfl; have g1 := G.at_ 1 rfl; have f0 := G.frozen 0; have f1 := G.frozen 1; have h0 := H1.at_ 0 rfl; have h1 := H1.at_ 1 rfl; have f2 := H1.frozen 0; have f3 := H1.frozen 1
                      have D10 := Lib.hid D10; have D11 := Lib.hid D11
                      clear G H H1 D hq hr hp
                      (refine wpAnyL_one (i := 9) (o := _) (by kernel_rfl) rfl (fun K hK => ?_); clear hHeld; simp only [List.getElem_toArray, List.getElem_cons_zero, List.getElem_cons_succ]; go_simp; refine hK.out _ _ ?_ (fun hHeld => ?_); focus (intro _; exact KQ.out _ D10.out)); have hHeld := hHeld (by decide); clear hK K; (try simp only [Act.put, List.setIfInBounds_toArray, List.set_cons_zero, List.set_cons_succ])
                      (refine wpAnyL_one (i := 10) (o := _) (by kernel_rfl) rfl (fun K hK => ?_); clear hHeld; simp only [List.getElem_toArray, List.getElem_cons_zero, List.getElem_cons_succ]; go_simp; refine hK.out _ _ ?_ (fun hHeld => ?_); focus (intro _; exact KQ.out _ D11.out)); have hHeld := hHeld (by decide); clear hK K; (try simp only [Act.put, List.setIfInBounds_toArray, List.set_cons_zero, List.set_cons_succ])
                      refine wpAnyL_done (by kernel_rfl) ?_ _
                      go_wp2
                      go_meet
                      exact X.out
                  · as_aux_lemma =>
                      (clear hHeld; simp only [List.getElem_toArray, List.getElem_cons_zero, List.getElem_cons_succ]; go_simp; refine hK.out _ _ ?_ (fun hHeld => ?_); focus (intro _; exact KQ.out _ (D.alloc D.size _))); have hHeld := hHeld (by decide); clear hK K; (try simp only [Act.put, List.setIfInBounds_toArray, List.set_cons_zero, List.set_cons_succ])
                      have G' := Blk.new w3 40 #[.bool false, .slice none 0 0]
                      have Gn : we.heap.size ≤ w3.heap.size := D.size
                      have hne : Hg ≠ w3.heap.size := Nat.ne_of_lt H.lt
                      have H := H.alloc (.cells #[.bool false, .slice none 0 0] 40)
                      have hp := (hp.alloc (.cells #[.bool false, .slice none 0 0] 40))
                      have D1 : Below we.heap.size we (w3.alloc (.cells #[.bool false, .slice none 0 0] 40)) := D.alloc D.size (.cells #[.bool false, .slice none 0 0] 40)
                      clear D
                      have D := D1
                      clear D1
                      obtain ⟨w8, hw8⟩ : ∃ w8, w3.alloc (.cells #[.bool false, .slice none 0 0] 40) = w8 := ⟨_, rfl⟩
                      obtain ⟨Gg, hGg⟩ : ∃ Gg, w3.heap.size = Gg := ⟨_, rfl⟩
                      rw [hw8] at G' D H hp hHeld ⊢
                      rw [hGg] at G' Gn hne ⊢
                      have G := G'
                      clear G' hw8 hGg
                      (refine wpAnyL_one (i := 3) (o := _) (by kernel_rfl) rfl (fun K hK => ?_); clear hHeld; simp only [List.getElem_toArray, List.getElem_cons_zero, List.getElem_cons_succ]; go_simp; (go_at_call 86; (with_reducible refine (DZ.out _ _ _ (VQ.out _ D) hp.v).mono ?_); rintro e w4 ⟨_, _, rfl, ⟨bq, Aq, nq, cq, rfl, hq⟩, ⟨br', Ar, nr, cr, rfl, hr⟩, hb⟩; have D := D.trans (hb.mono D.size); have G := G.below hb G.lt; have H := H.below hb H.lt); refine hK.out _ _ ?_ (fun hHeld => ?_); focus (intro _; exact KQ.out _ D)); have hHeld := hHeld (by decide); clear hK K; (try simp only [Act.put, List.setIfInBounds_toArray, List.set_cons_zero, List.set_cons_succ])
                      (refine wpAnyL_take (i := 4) (oi := _) (v := ?_) rfl (by kernel_rfl) (by kernel_rfl) (by kernel_rfl) (fun _ _ _ h => h) (Or.inl ⟨by first | rfl | kernel_rfl, ?hy30⟩) (by assumption) ?rs30; (case hy30 => (intro w hSw; (try dsimp only at hSw); go_simp; first | done | with_reducible rfl)); case' rs30 => (simp only [List.getElem_toArray, List.getElem_cons_zero, List.getElem_cons_succ, Act.put, List.setIfInBounds_toArray, List.set_cons_zero, List.set_cons_succ])); (refine wpAnyL_take (i := 5) (oi := _) (v := ?_) rfl (by kernel_rfl) (by kernel_rfl) (by kernel_rfl) (fun _ _ _ h => h) (Or.inl ⟨by first | rfl | kernel_rfl, ?hy31⟩) (by assumption) ?rs31; (case hy31 => (intro w hSw; (try dsimp only at hSw); go_simp; first | done | with_reducible rfl)); case' rs31 => (simp only [List.getElem_toArray, List.getElem_cons_zero, List.getElem_cons_succ, Act.put, List.setIfInBounds_toArray, List.set_cons_zero, List.set_cons_succ])); (refine wpAnyL_take (i := 6) (oi := _) (v := ?_) rfl (by kernel_rfl) (by kernel_rfl) (by kernel_rfl) (fun _ _ _ h => h) (Or.inl ⟨by first | rfl | kernel_rfl, ?hy32⟩) (by assumption) ?rs32; (case hy32 => (intro w hSw; (try dsimp only at hSw); go_simp; first | done | with_reducible rfl)); case' rs32 => (simp only [List.getElem_toArray, List.getElem_cons_zero, List.getElem_cons_succ, Act.put, List.setIfInBounds_toArray, List.set_cons_zero, List.set_cons_succ])); skip
                      have X := Lib.hid (qd_set D Gn Hn hne.symm G H hq hr)
                      have D10 := below_set2 D Gn (.bool bq) (.slice Aq nq cq)
                      have D11 := below_set2 D10 Hn (.bool br') (.slice Ar nr cr)
                      have H1 := H.far2 (hne.symm).symm (.bool bq) (.slice Aq nq cq)
                      have g0 := G.at_ 0 rfl; have g1 := G.at_ 1 rfl; have f0 := G.frozen 0; have f1 := G.frozen 1; have h0 := H1.at_ 0 rfl; have h1 := H1.at_ 1 rfl; have f2 := H1.frozen 0; have f3 := H1.frozen 1
                      have D10 := Lib.hid D10; have D11 := Lib.hid D11
                      clear G H H1 D hq hr hp
                      (refine wpAnyL_one (i := 9) (o := _) (by kernel_rfl) rfl (fun K hK => ?_); clear hHeld; simp only [List.getElem_toArray, List.getElem_cons_zero, List.getElem_cons_succ]; go_simp; refine hK.out _ _ ?_ (fun hHeld => ?_); focus (intro _; exact KQ.out _ D10.out)); have hHeld := hHeld (by decide); clear hK K; (try simp only [Act.put, List.setIfInBounds_toArray, List.set_cons_zero, List.set_cons_succ])
                      (refine wpAnyL_one (i := 10) (o := _) (by kernel_rfl) rfl (fun K hK => ?_); clear hHeld; simp only [List.getElem_toArray, List.getElem_cons_zero, List.getElem_cons_succ]; go_simp; refine hK.out _ _ ?_ (fun hHeld => ?_); focus (intro _; exact KQ.out _ D11.out)); have hHeld := hHeld (by decide); clear hK K; (try simp only [Act.put, List.setIfInBounds_toArray, List.set_cons_zero, List.set_cons_succ])
                      refine wpAnyL_done (by kernel_rfl) ?_ _
                      go_wp2
                      go_meet
                      exact X.out
              · as_aux_lemma =>
                  (clear hHeld; simp only [List.getElem_toArray, List.getElem_cons_zero, List.getElem_cons_succ]; go_simp; refine hK.out _ _ ?_ (fun hHeld => ?_); focus (intro _; exact KQ.out _ (D.alloc D.size _))); have hHeld := hHeld (by decide); clear hK K; (try simp only [Act.put, List.setIfInBounds_toArray, List.set_cons_zero, List.set_cons_succ])
                  have G' := Blk.new w9 40 #[.bool false, .slice none 0 0]
                  have Gn : we.heap.size ≤ w9.heap.size := D.size
                  have hne : Hg ≠ w9.heap.size := Nat.ne_of_lt H.lt
                  have H := H.alloc (.cells #[.bool false, .slice none 0 0] 40)
                  have D1 : Below we.heap.size we (w9.alloc (.cells #[.bool false, .slice none 0 0] 40)) := D.alloc D.size (.cells #[.bool false, .slice none 0 0] 40)
                  clear D
                  have D := D1
                  clear D1
                  obtain ⟨w8, hw8⟩ : ∃ w8, w9.alloc (.cells #[.bool false, .slice none 0 0] 40) = w8 := ⟨_, rfl⟩
                  obtain ⟨Gg, hGg⟩ : ∃ Gg, w9.heap.size = Gg := ⟨_, rfl⟩
                  rw [hw8] at G' D H hHeld ⊢
                  rw [hGg] at G' Gn hne ⊢
                  have G := G'
                  clear G' hw8 hGg
                  (refine wpAnyL_one (i := 2) (o := _) (by kernel_rfl) rfl (fun K hK => ?_); clear hHeld; simp only [List.getElem_toArray, List.getElem_cons_zero, List.getElem_cons_succ]; go_simp; (go_at_call 68; (with_reducible refine (HP.out _).mono ?_); rintro e w3 ⟨_, rfl, ⟨b1, A1, n1, c1, rfl, hp0⟩, hb⟩; have hp := hp0.zl; have D := D.trans (hb.mono D.size); have G := G.below hb G.lt; have H := H.below hb H.lt); refine hK.out _ _ ?_ (fun hHeld => ?_); focus (intro _; exact KQ.out _ D)); have hHeld := hHeld (by decide); clear hK K; (try simp only [Act.put, List.setIfInBounds_toArray, List.set_cons_zero, List.set_cons_succ])
                  (refine wpAnyL_one (i := 3) (o := _) (by kernel_rfl) rfl (fun K hK => ?_); clear hHeld; simp only [List.getElem_toArray, List.getElem_cons_zero, List.getElem_cons_succ]; go_simp; (go_at_call 86; (with_reducible refine (DZ.out _ _ _ (VQ.out _ D) hp.v).mono ?_); rintro e w4 ⟨_, _, rfl, ⟨bq, Aq, nq, cq, rfl, hq⟩, ⟨br', Ar, nr, cr, rfl, hr⟩, hb⟩; have D := D.trans (hb.mono D.size); have G := G.below hb G.lt; have H := H.below hb H.lt); refine hK.out _ _ ?_ (fun hHeld => ?_); focus (intro _; exact KQ.out _ D)); have hHeld := hHeld (by decide); clear hK K; (try simp only [Act.put, List.setIfInBounds_toArray, List.set_cons_zero, List.set_cons_succ])
                  (refine wpAnyL_take (i := 4) (oi := _) (v := ?_) rfl (by kernel_rfl) (by kernel_rfl) (by kernel_rfl) (fun _ _ _ h => h) (Or.inl ⟨by first | rfl | kernel_rfl, ?hy33⟩) (by assumption) ?rs33; (case hy33 => (intro w hSw; (try dsimp only at hSw); go_simp; first | done | with_reducible rfl)); case' rs33 => (simp only [List.getElem_toArray, List.getElem_cons_zero, List.getElem_cons_succ, Act.put, List.setIfInBounds_toArray, List.set_cons_zero, List.set_cons_succ])); (refine wpAnyL_take (i := 5) (oi := _) (v := ?_) rfl (by kernel_rfl) (by kernel_rfl) (by kernel_rfl) (fun _ _ _ h => h) (Or.inl ⟨by first | rfl | kernel_rfl, ?hy34⟩) (by assumption) ?rs34; (case hy34 => (intro w hSw; (try dsimp only at hSw); go_simp; first | done | with_reducible rfl)); case' rs34 => (simp only [List.getElem_toArray, List.getElem_cons_zero, List.getElem_cons_succ, Act.put, List.setIfInBounds_toArray, List.set_cons_zero, List.set_cons_succ])); (refine wpAnyL_take (i := 6) (oi := _) (v := ?_) rfl (by kernel_rfl) (by kernel_rfl) (by kernel_rfl) (fun _ _ _ h => h) (Or.inl ⟨by first | rfl | kernel_rfl, ?hy35⟩) (by assumption) ?rs35; (case hy35 => (intro w hSw; (try dsimp only at hSw); go_simp; first | done | with_reducible rfl)); case' rs35 => (simp only [List.getElem_toArray, List.getElem_cons_zero, List.getElem_cons_succ, Act.put, List.setIfInBounds_toArray, List.set_cons_zero, List.set_cons_succ])); skip
                  have X := Lib.hid (qd_set D Gn Hn hne.symm G H hq hr)
                  have D10 := below_set2 D Gn (.bool bq) (.slice Aq nq cq)
                  have D11 := below_set2 D10 Hn (.bool br') (.slice Ar nr cr)
                  have H1 := H.far2 (hne.symm).symm (.bool bq) (.slice Aq nq cq)
                  have g0 := G.at_ 0 rfl; have g1 := G.at_ 1 rfl; have f0 := G.frozen 0; have f1 := G.frozen 1; have h0 := H1.at_ 0 rfl; have h1 := H1.at_ 1 rfl; have f2 := H1.frozen 0; have f3 := H1.frozen 1
                  have D10 := Lib.hid D10; have D11 := Lib.hid D11
                  clear G H H1 D hq hr hp
                  (refine wpAnyL_one (i := 9) (o := _) (by kernel_rfl) rfl (fun K hK => ?_); clear hHeld; simp only [List.getElem_toArray, List.getElem_cons_zero, List.getElem_cons_succ]; go_simp; refine hK.out _ _ ?_ (fun hHeld => ?_); focus (intro _; exact KQ.out _ D10.out)); have hHeld := hHeld (by decide); clear hK K; (try simp only [Act.put, List.setIfInBounds_toArray, List.set_cons_zero, List.set_cons_succ])
                  (refine wpAnyL_one (i := 10) (o := _) (by kernel_rfl) rfl (fun K hK => ?_); clear hHeld; simp only [List.getElem_toArray, List.getElem_cons_zero, List.getElem_cons_succ]; go_simp; refine hK.out _ _ ?_ (fun hHeld => ?_); focus (intro _; exact KQ.out _ D11.out)); have hHeld := hHeld (by decide); clear hK K; (try simp only [Act.put, List.setIfInBounds_toArray, List.set_cons_zero, List.set_cons_succ])
                  refine wpAnyL_done (by kernel_rfl) ?_ _
                  go_wp2
                  go_meet
                  exact X.out
        case rest =>
          obtain ⟨g, h, bq, Aq, nq, cq, br, Ar, nr, cr, rfl, rfl, hg, hh, hne, G, H, hq, hr, DC⟩ := hcut
          obtain rfl := HWE.out
          have X0 := hB.out.below DC hB.out.lt
          have X1 := hC.out.below DC hC.out.lt
          have DD := hD.out.trans (DC.mono (hg0 ▸ hD.out.size))
          have lB := hB.out.lt
          have h0 := H.at_ 0 rfl; have h1 := H.at_ 1 rfl; have q0 := G.at_ 0 rfl; have q1 := G.at_ 1 rfl
          have x0 := X0.at_ 0 rfl; have x1 := X0.at_ 1 rfl; have f0 := X0.frozen 0; have f1 := X0.frozen 1
          have ln : nr ≤ 1000000 := hr.len (HRB.out y)
          rcases Nat.eq_zero_or_pos nr with rfl | hr0
          · have hst := (hr.zero).1 rfl
            rw [← HPE.out] at hst
            have T2 := Lib.hid (hT.out.step hst)
            rw [HPE.out] at T2
            have hNM2 := T2.out.lt HM.out
            have i1 : IntKind.i64.wrap ((N : Int) + (K : Int)) = ((N + K : Nat) : Int) := by rw [IntWalk.i64_in _ (by omega)]; omega
            have R : Blk ((wc.setCell ⟨g0, 0, none⟩ (.bool bq)).setCell ⟨g0, 1, none⟩ (.slice Aq nq cq)) g0 40 #[.bool bq, .slice Aq nq cq] ∧ Blk ((wc.setCell ⟨g0, 0, none⟩ (.bool bq)).setCell ⟨g0, 1, none⟩ (.slice Aq nq cq)) (g0 + 1) 40 #[.bool false, .slice none 0 0] ∧ ZL ((wc.setCell ⟨g0, 0, none⟩ (.bool bq)).setCell ⟨g0, 1, none⟩ (.slice Aq nq cq)) bq Aq nq cq (y / P) ∧ Below g0 w ((wc.setCell ⟨g0, 0, none⟩ (.bool bq)).setCell ⟨g0, 1, none⟩ (.slice Aq nq cq)) :=
              ⟨X0.set2 _ _, X1.far2 (by omega) _ _, ZC.ZL.box hq x0 x1 _ _, below_set2 DD (Nat.le_refl _) _ _⟩
            have R := Lib.hid R
            have hms : M - (N + K) < M - N := by omega
            have hms := Lib.hid hms
            clear hst D DC DD hT hB hC hV hD hq hr G X0 X1 hNM hNM2 ln
            go_wp2
            go_region
            go_roundw
            case rel => exact ⟨.int .i64 ((N : Int) + (K : Int)), _, _, _, _, _, _, _, _, _, _, _, _, _, _, _, _, _, ⟨N + K, y / P, bq, Aq, nq, cq, by go_num, T2, R.out.1, R.out.2.1, R.out.2.2.1, R.out.2.2.2.drew⟩, rfl⟩
            case measure => show M - ((N : Int) + (K : Int)).toNat < M - ((N : Int)).toNat; have := hms.out; omega
          · have hr1 : (0 : Int) < nr := by omega
            have HR := Lib.hid ((hr.zero).2 hr0)
            have i2 := HQ2.out
            have hms : K / 2 < K := by omega
            have hms := Lib.hid hms
            have X0' := Lib.hid X0
            have X1' := Lib.hid X1
            have DD' := Lib.hid DD
            have V' := Lib.hid ((hV.out.below DC))
            clear D DC DD hB hC hV hD hq hr G X0 X1 hNM hr0
            go_wp2
            go_roundw
            case rel => exact ⟨N, K / 2, y, b, A, n, c, rfl, by go_num, by omega, hT, (fun hk0 => by
              obtain rfl : K = 1 := by omega
              have e := HPE.out
              rw [show (2 : Int) ^ 1 = 2 by decide] at e
              rw [e]; exact HR.out), X0', X1', V', DD'⟩
            case measure => show (((K / 2 : Nat) : Int)).toNat < ((K : Int)).toNat; have := hms.out; omega
    · obtain rfl : K = 0 := by omega
      have lB := hB.out.lt
      have x0 := hB.out.at_ 0 rfl; have x1 := hB.out.at_ 1 rfl
      have e0 := hC.out.at_ 0 rfl; have e1 := hC.out.at_ 1 rfl; have f0 := hC.out.frozen 0; have f1 := hC.out.frozen 1
      have R : Hid (ZL ((wr.setCell ⟨g0 + 1, 0, none⟩ (.bool b1')).setCell ⟨g0 + 1, 1, none⟩ (.slice A1' n1' c1')) b1' A1' n1' c1' y1 ∧ Below g0 w ((wr.setCell ⟨g0 + 1, 0, none⟩ (.bool b1')).setCell ⟨g0 + 1, 1, none⟩ (.slice A1' n1' c1'))) :=
        ⟨ZC.ZL.box hV.out e0 e1 _ _, below_set2 hD.out (by omega) _ _⟩
      have hT1 := Lib.hid (hT.out.lt HM.out)
      have hO1 := Lib.hid (hO.out rfl)
      clear hO
      subst hg0
      go_wp2
      go_region
      go_wp2
      refine bodyPost_ret (v := .tuple #[.int .i64 N1, .agg #[.bool b1', .slice A1' n1' c1']]) (by simp [results, Tryd.results65, go_sem, e0, e1]) rfl ?_
      exact ⟨N1, y1, b1', A1', n1', c1', rfl, R.out.1, hT.out, hT1.out, hO1.out, R.out.2.drew⟩
end QC
end Go.Proofs.YtjplemfdhhkbaaaDoor
