/-
  The reference: a number's value to a whole number (CutWhole); any int (ZOfInt).
-/
import Derived.Test.YtpmpkllpaceloaaDoorO3
import Derived.Test.YtpmpkllpaceloaaDoorC10
import Derived.Test.YtpmpkllpaceloaaDoorO1
namespace Go.Proofs.YtpmpkllpaceloaaDoor
set_option linter.unusedVariables false
set_option linter.unusedSimpArgs false
open Go.RowKit
set_option linter.unusedVariables false
set_option linter.unusedSimpArgs false
namespace QC
open Z (Nz Tz cmpv big)
open ZC DC
/-- a number's value as a whole number over a power of two -/
def vz (x : Int) : Int := mkz (sgm (F.sgn x) (mant x)) (F.ulp x)
def vt (x : Int) : Int := mkt (F.ulp x)
/-- what CutWhole tells -/
def cwN (x mode : Int) : Int := if vz x % 2 ^ (vt x).toNat = 0 then vz x / 2 ^ (vt x).toNat else cutv (vz x) (2 ^ (vt x).toNat) mode
def cwL (x : Int) : Bool := decide (vz x % 2 ^ (vt x).toNat ≠ 0)
def RetW (w : World) (N : Int) (l : Bool) (e : Ending) (w' : World) : Prop := ∃ b A n c, e = .returned (.tuple #[.agg #[.bool b, .slice A n c], .bool l]) ∧ ZL w' b A n c N ∧ Below w.heap.size w w'
theorem lt_two {x a b : Nat} (h : x < 2 ^ a) (hab : a ≤ b) : x < 2 ^ b := Nat.lt_of_lt_of_le h (Nat.pow_le_pow_right (by decide) hab)
theorem vz_lt (x : Int) (h0 : 0 ≤ x) (h1 : x ≤ 18446744073709551615) : (vz x).natAbs < 2 ^ 1100 := by
  have hu : F.ulp x ≤ (1000 : Nat) := by
    have := F.exq_bd x
    unfold F.ulp; split <;> omega
  have hm : (sgm (F.sgn x) (mant x)).natAbs < 2 ^ 60 := by
    have h2 : 0 ≤ mant x ∧ mant x < 9007199254740992 := by
      have h3 := F.fra_bd x
      unfold mant; split <;> omega
    have h3 : (2 : Nat) ^ 60 = 1152921504606846976 := rfl
    rw [h3]
    unfold sgm; split <;> omega
  have := mkz_lt hm hu
  have h := lt_two (a := 60 + 1000) (b := 1100) this (by decide)
  exact h
theorem vt_bd (x : Int) : 0 ≤ vt x ∧ vt x ≤ 1074 := by
  have := F.exq_bd x
  unfold vt mkt F.ulp
  split <;> split <;> omega
theorem pow_lt3 {a b : Nat} (h : a < b) : (2 : Nat) ^ a < 2 ^ b := Nat.pow_lt_pow_right (by decide) h
set_option maxRecDepth 100000 in
set_option maxHeartbeats 40000000 in
theorem CutWhole_c (x mode : Int) (w : World) (h0 : 0 ≤ x) (h1 : x ≤ 18446744073709551615) (hm : 0 ≤ mode ∧ mode ≤ 4) : Calls Tryd.prog 19 #[.int .u64 x, .int .i64 mode] w (RetW w (cwN x mode) (cwL x)) := by
  have hz := vz_lt x h0 h1
  have ht := vt_bd x
  obtain ⟨z, ez⟩ : ∃ z, z = vz x := ⟨_, rfl⟩
  obtain ⟨t, et⟩ : ∃ t, t = vt x := ⟨_, rfl⟩
  obtain ⟨P, eP⟩ : ∃ P : Int, P = 2 ^ t.toNat := ⟨_, rfl⟩
  have QV : Hid (∀ W, Calls Tryd.prog 51 #[.int .u64 x] W (RetV W z t)) := fun W => by
    rw [ez, et]; exact QVal_c x W h0 h1
  have eN : cwN x mode = if z % P = 0 then z / P else cutv z P mode := by unfold cwN; rw [eP, ez, et]
  have eL : cwL x = decide (z % P ≠ 0) := by unfold cwL; rw [eP, ez, et]
  have hP0 : 0 < P := by rw [eP]; exact Int.pow_pos (by decide)
  rw [← ez] at hz
  rw [← et] at ht
  have hz2 := lt_two (a := 1100) (b := 22800) hz (by decide)
  have ez0 : z = mkz z (-0 - t) := by
    unfold mkz
    split
    · rename_i h
      have h2 : (-0 - t).toNat = 0 := by omega
      rw [h2]; simp
    · rfl
  have et0 : t = mkt (-0 - t) := by
    unfold mkt
    split <;> omega
  have CT : Hid (∀ W b A n c, ZL W b A n c z → Calls Tryd.prog 50 #[.agg #[.bool b, .slice A n c, .int .i64 t], .int .i64 0, .int .i64 mode] W (RetCu W (.agg #[.bool b, .slice A n c, .int .i64 t]) 0 z P mode)) := fun W b A n c hv =>
    CutTo_c b A n c z t 0 mode z t P W hv hz2 ⟨ht.1, by omega⟩ (by decide) hm ez0 et0 eP
  -- CutTo's answer, both ways as one
  obtain ⟨N, hN⟩ : ∃ N, N = cwN x mode := ⟨_, rfl⟩
  obtain ⟨l, hl⟩ : ∃ l, l = cwL x := ⟨_, rfl⟩
  have hcv : (cutv z P mode).natAbs < big 800000 := by
    have h4 := Int.natAbs_ediv_le_natAbs z P
    have h5 : z.natAbs < big 700000 := lt_big hz (by decide) (by decide)
    have h6 : big 700000 < big 800000 := big_slt (by decide)
    unfold cutv
    split <;> omega
  have CU : Hid (∀ W b A n c, ZL W b A n c z → Calls Tryd.prog 50 #[.agg #[.bool b, .slice A n c, .int .i64 t], .int .i64 0, .int .i64 mode] W fun e w' => ∃ (b : Bool) (A : Option Addr) (n c : Nat) (zq tq r : Int), e = .returned (.tuple #[.agg #[.bool b, .slice A n c, .int .i64 tq], .bool l]) ∧
      ZL w' b A n c zq ∧ zq.natAbs < big 900000 ∧ (0 ≤ tq ∧ tq ≤ 10000) ∧ Hid (zq / 2 ^ tq.toNat = N ∧ zq % 2 ^ tq.toNat = r) ∧ Below W.heap.size W w') := fun W b A n c hv => by
    refine (CT.out W b A n c hv).mono ?_
    rintro e w' ⟨q0, q1⟩
    by_cases hr : z % P = 0
    · obtain ⟨rfl, hb⟩ := q0 hr
      refine ⟨b, A, n, c, z, t, z % P, ?_, hv.below hb, lt_big hz (by decide) (by decide), ⟨ht.1, by omega⟩, ⟨?_, by rw [eP]⟩, hb⟩
      · rw [hl, eL]; simp [hr]
      · rw [hN, eN, if_pos hr, eP]
    · obtain ⟨b', A', n', c', rfl, hv', hb⟩ := q1 hr
      have e1 : mkz (cutv z P mode) 0 = cutv z P mode := by unfold mkz; rw [if_pos (by decide)]; simp
      have e2 : mkt 0 = 0 := rfl
      rw [e1] at hv'
      refine ⟨b', A', n', c', cutv z P mode, 0, 0, ?_, hv', Nat.lt_trans hcv (big_slt (by decide)), ⟨by omega, by omega⟩, ⟨?_, ?_⟩, hb⟩
      · rw [hl, eL, e2]; simp [hr]
      · rw [hN, eN, if_neg hr]; simp
      · simp
  rw [← hN, ← hl]
  have R0 := Blk.new w 34 #[.bool false, .slice none 0 0]
  have D0 : Below w.heap.size w (w.alloc (.cells #[.bool false, .slice none 0 0] 34)) := (Below.refl _ _).alloc (Nat.le_refl _) _
  obtain ⟨W0, hW0⟩ : ∃ W0, w.alloc (.cells #[.bool false, .slice none 0 0] 34) = W0 := ⟨_, rfl⟩
  rw [hW0] at R0 D0
  have HW0 := Lib.hid hW0
  have R0 := Lib.hid R0
  have D0 := Lib.hid D0
  clear CT ez0 et0 hz hz2 hm hN hl hcv eN eL hP0 ez et eP hW0 ht h0 h1
  go_enter Tryd.func19, Tryd.ntmps19
  go_upto_region 2 with (first
    | (go_at_call 51; rw [HW0.out]; (with_reducible refine (QV.out _).mono ?_); rintro e w1 ⟨b1, A1, n1, c1, rfl, hr1, hb1⟩; have D1 := Lib.hid hb1; have hr1 := Lib.hid hr1; clear hb1)
    | (go_at_call 50; (with_reducible refine (CU.out _ _ _ _ _ hr1.out).mono ?_); rintro e w2 ⟨b2, A2, n2, c2, zq, tq, rr, rfl, hv2, hzb, htq, hNN, hb2⟩; have D2 := Lib.hid (D1.out.trans (hb2.mono D1.out.size)); have hv2 := Lib.hid hv2; have hzb := Lib.hid hzb; have htq := Lib.hid htq; clear hb2 hr1 D1))
  have X1 := Blk.new w2 36 #[.bool b2, .slice A2 n2 c2, .int .i64 tq]
  have V1 := hv2.out.alloc (.cells #[.bool b2, .slice A2 n2 c2, .int .i64 tq] 36)
  have D3 : Below W0.heap.size W0 (w2.alloc (.cells #[.bool b2, .slice A2 n2 c2, .int .i64 tq] 36)) := D2.out.alloc D2.out.size _
  obtain ⟨W1, hW1⟩ : ∃ W1, w2.alloc (.cells #[.bool b2, .slice A2 n2 c2, .int .i64 tq] 36) = W1 := ⟨_, rfl⟩
  obtain ⟨g8, hg8⟩ : ∃ g8, w2.heap.size = g8 := ⟨_, rfl⟩
  rw [hW1] at X1 V1 D3 ⊢
  rw [hg8] at X1 ⊢
  clear hW1 hg8 D2 hv2 HW0 QV CU
  obtain ⟨P2, hP2⟩ : ∃ P2 : Int, P2 = 2 ^ tq.toNat := ⟨_, rfl⟩
  have PW : Hid (∀ W, Calls Tryd.prog 48 #[.int .i64 tq] W (RetZ W P2)) := fun W => by
    rw [hP2]; exact ZPow_c tq.toNat tq W htq.out.1 (Nat.le_refl _) (by have := htq.out.2; omega)
  have DZ0 : Hid (∀ W va vb, ZV W va zq → ZV W vb P2 → Calls Tryd.prog 52 #[va, vb] W (RetZZ W N rr)) := fun W va vb q1 q2 => by
    rw [← hNN.out.1, ← hNN.out.2, ← hP2]
    refine ZDiv_c va vb _ _ W q1 q2 hzb.out ?_ ?_
    · rw [hP2]; exact pow_big _ (by have := htq.out.2; omega) (by decide)
    · rw [hP2]; exact Int.pow_ne_zero (by decide)
  clear hP2 hNN hzb htq
  obtain ⟨we, hwe⟩ : ∃ we, we = W1 := ⟨_, rfl⟩
  have D : Below we.heap.size we W1 := by rw [hwe]; exact Below.refl _ _
  have KB1 : Hid (∀ W, Below we.heap.size we W → (W.cell? ⟨g8, 0, none⟩ = some (.bool b2) ∧ W.cell? ⟨g8, 1, none⟩ = some (.slice A2 n2 c2) ∧ W.cell? ⟨g8, 2, none⟩ = some (.int .i64 tq)) ∧ Blk W w.heap.size 34 #[.bool false, .slice none 0 0] ∧ Below w.heap.size w W) := fun W h => by
    rw [hwe] at h
    have q1 := D3.trans (h.mono D3.size)
    have q2 := X1.below h X1.lt
    exact ⟨⟨q2.at_ 0 rfl, q2.at_ 1 rfl, q2.at_ 2 rfl⟩, R0.out.below q1 R0.out.lt, D0.out.trans (q1.mono D0.out.size)⟩
  have VQ1 : Hid (∀ W, Below we.heap.size we W → ZV W (.agg #[.bool b2, .slice A2 n2 c2]) zq) := fun W h => by
    rw [hwe] at h
    exact (V1.below h).v
  clear hwe X1 V1 D3 D0 R0
  go_cut [8, 9] (fun s9 s10 wx => QD we wx s9 s10 N rr)
  case first =>
    have KQ : Hid (∀ W, Below we.heap.size we W → W.cell? ⟨g8, 0, none⟩ = some (.bool b2) ∧ W.cell? ⟨g8, 1, none⟩ = some (.slice A2 n2 c2) ∧ W.cell? ⟨g8, 2, none⟩ = some (.int .i64 tq)) := fun W h => (KB1.out W h).1
    have HP := PW
    have DZ := DZ0
    have VQ := VQ1
    clear KB1 VQ1 PW DZ0
    have D := D.drew
    (refine wp_region_L (S := fun w' => w'.cell? ⟨g8, 0, none⟩ = some (.bool b2) ∧ w'.cell? ⟨g8, 1, none⟩ = some (.slice A2 n2 c2) ∧ w'.cell? ⟨g8, 2, none⟩ = some (.int .i64 tq)) (nl := 1000000) (by kernel_rfl) ?_ (fun hHeld => ?_); focus (exact KQ.out _ D))
    (refine wpAnyL_take (i := 0) (oi := _) (v := ?_) rfl (by kernel_rfl) (by kernel_rfl) (by kernel_rfl) (fun _ _ _ h => h) (Or.inl ⟨by first | rfl | kernel_rfl, ?hy1⟩) (by assumption) ?rs1; (case hy1 => (intro w hSw; (try dsimp only at hSw); go_simp; first | done | with_reducible rfl)); case' rs1 => (simp only [List.getElem_toArray, List.getElem_cons_zero, List.getElem_cons_succ, Act.put, List.setIfInBounds_toArray, List.set_cons_zero, List.set_cons_succ])); (refine wpAnyL_take (i := 1) (oi := _) (v := ?_) rfl (by kernel_rfl) (by kernel_rfl) (by kernel_rfl) (fun _ _ _ h => h) (Or.inl ⟨by first | rfl | kernel_rfl, ?hy2⟩) (by assumption) ?rs2; (case hy2 => (intro w hSw; (try dsimp only at hSw); go_simp; first | done | with_reducible rfl)); case' rs2 => (simp only [List.getElem_toArray, List.getElem_cons_zero, List.getElem_cons_succ, Act.put, List.setIfInBounds_toArray, List.set_cons_zero, List.set_cons_succ])); (refine wpAnyL_take (i := 2) (oi := _) (v := ?_) rfl (by kernel_rfl) (by kernel_rfl) (by kernel_rfl) (fun _ _ _ h => h) (Or.inl ⟨by first | rfl | kernel_rfl, ?hy3⟩) (by assumption) ?rs3; (case hy3 => (intro w hSw; (try dsimp only at hSw); go_simp; first | done | with_reducible rfl)); case' rs3 => (simp only [List.getElem_toArray, List.getElem_cons_zero, List.getElem_cons_succ, Act.put, List.setIfInBounds_toArray, List.set_cons_zero, List.set_cons_succ])); (refine wpAnyL_take (i := 3) (oi := _) (v := ?_) rfl (by kernel_rfl) (by kernel_rfl) (by kernel_rfl) (fun _ _ _ h => h) (Or.inl ⟨by first | rfl | kernel_rfl, ?hy4⟩) (by assumption) ?rs4; (case hy4 => (intro w hSw; (try dsimp only at hSw); go_simp; first | done | with_reducible rfl)); case' rs4 => (simp only [List.getElem_toArray, List.getElem_cons_zero, List.getElem_cons_succ, Act.put, List.setIfInBounds_toArray, List.set_cons_zero, List.set_cons_succ])); skip
    refine wpAnyL_three (i := 4) (j := 9) (k := 10) (oi := _) (oj := _) (ok := _) (by kernel_rfl) rfl rfl rfl (fun K hK => ?_) (fun K hK => ?_) (fun K hK => ?_)
    · as_aux_lemma =>
        (clear hHeld; simp only [List.getElem_toArray, List.getElem_cons_zero, List.getElem_cons_succ]; go_simp; (go_at_call 48; (with_reducible refine (HP.out _).mono ?_); rintro e w3 ⟨_, rfl, ⟨b1, A1, n1, c1, rfl, hp0⟩, hb⟩; have hp := hp0.zl; have D := D.trans (hb.mono D.size)); refine hK.out _ _ ?_ (fun hHeld => ?_); focus (intro _; exact KQ.out _ D)); have hHeld := hHeld (by decide); clear hK K; (try simp only [Act.put, List.setIfInBounds_toArray, List.set_cons_zero, List.set_cons_succ])
        refine wpAnyL_three (i := 5) (j := 9) (k := 10) (oi := _) (oj := _) (ok := _) (by kernel_rfl) rfl rfl rfl (fun K hK => ?_) (fun K hK => ?_) (fun K hK => ?_)
        · as_aux_lemma =>
            (clear hHeld; simp only [List.getElem_toArray, List.getElem_cons_zero, List.getElem_cons_succ]; go_simp; (go_at_call 52; (with_reducible refine (DZ.out _ _ _ (VQ.out _ D) hp.v).mono ?_); rintro e w4 ⟨_, _, rfl, ⟨bq, Aq, nq, cq, rfl, hq⟩, ⟨br', Ar, nr, cr, rfl, hr⟩, hb⟩; have D := D.trans (hb.mono D.size)); refine hK.out _ _ ?_ (fun hHeld => ?_); focus (intro _; exact KQ.out _ D)); have hHeld := hHeld (by decide); clear hK K; (try simp only [Act.put, List.setIfInBounds_toArray, List.set_cons_zero, List.set_cons_succ])
            (refine wpAnyL_take (i := 6) (oi := _) (v := ?_) rfl (by kernel_rfl) (by kernel_rfl) (by kernel_rfl) (fun _ _ _ h => h) (Or.inl ⟨by first | rfl | kernel_rfl, ?hy5⟩) (by assumption) ?rs5; (case hy5 => (intro w hSw; (try dsimp only at hSw); go_simp; first | done | with_reducible rfl)); case' rs5 => (simp only [List.getElem_toArray, List.getElem_cons_zero, List.getElem_cons_succ, Act.put, List.setIfInBounds_toArray, List.set_cons_zero, List.set_cons_succ])); (refine wpAnyL_take (i := 7) (oi := _) (v := ?_) rfl (by kernel_rfl) (by kernel_rfl) (by kernel_rfl) (fun _ _ _ h => h) (Or.inl ⟨by first | rfl | kernel_rfl, ?hy6⟩) (by assumption) ?rs6; (case hy6 => (intro w hSw; (try dsimp only at hSw); go_simp; first | done | with_reducible rfl)); case' rs6 => (simp only [List.getElem_toArray, List.getElem_cons_zero, List.getElem_cons_succ, Act.put, List.setIfInBounds_toArray, List.set_cons_zero, List.set_cons_succ])); (refine wpAnyL_take (i := 8) (oi := _) (v := ?_) rfl (by kernel_rfl) (by kernel_rfl) (by kernel_rfl) (fun _ _ _ h => h) (Or.inl ⟨by first | rfl | kernel_rfl, ?hy7⟩) (by assumption) ?rs7; (case hy7 => (intro w hSw; (try dsimp only at hSw); go_simp; first | done | with_reducible rfl)); case' rs7 => (simp only [List.getElem_toArray, List.getElem_cons_zero, List.getElem_cons_succ, Act.put, List.setIfInBounds_toArray, List.set_cons_zero, List.set_cons_succ])); skip
            refine wpAnyL_two (i := 9) (j := 10) (oi := _) (oj := _) (by kernel_rfl) rfl rfl (fun K hK => ?_) (fun K hK => ?_)
            · as_aux_lemma =>
                (clear hHeld; simp only [List.getElem_toArray, List.getElem_cons_zero, List.getElem_cons_succ]; go_simp; refine hK.out _ _ ?_ (fun hHeld => ?_); focus (intro _; exact KQ.out _ (D.alloc D.size _))); have hHeld := hHeld (by decide); clear hK K; (try simp only [Act.put, List.setIfInBounds_toArray, List.set_cons_zero, List.set_cons_succ])
                have G' := Blk.new w4 34 #[.bool false, .slice none 0 0]
                have Gn : we.heap.size ≤ w4.heap.size := D.size
                have hq := (hq.alloc (.cells #[.bool false, .slice none 0 0] 34))
                have hr := (hr.alloc (.cells #[.bool false, .slice none 0 0] 34))
                have D1 : Below we.heap.size we (w4.alloc (.cells #[.bool false, .slice none 0 0] 34)) := D.alloc D.size (.cells #[.bool false, .slice none 0 0] 34)
                clear D
                have D := D1
                clear D1
                obtain ⟨w8, hw8⟩ : ∃ w8, w4.alloc (.cells #[.bool false, .slice none 0 0] 34) = w8 := ⟨_, rfl⟩
                obtain ⟨Gg, hGg⟩ : ∃ Gg, w4.heap.size = Gg := ⟨_, rfl⟩
                rw [hw8] at G' D hq hr hHeld ⊢
                rw [hGg] at G' Gn ⊢
                have G := G'
                clear G' hw8 hGg
                (refine wpAnyL_one (i := 10) (o := _) (by kernel_rfl) rfl (fun K hK => ?_); clear hHeld; simp only [List.getElem_toArray, List.getElem_cons_zero, List.getElem_cons_succ]; go_simp; refine hK.out _ _ ?_ (fun hHeld => ?_); focus (intro _; exact KQ.out _ (D.alloc D.size _))); have hHeld := hHeld (by decide); clear hK K; (try simp only [Act.put, List.setIfInBounds_toArray, List.set_cons_zero, List.set_cons_succ])
                have H' := Blk.new w8 34 #[.bool false, .slice none 0 0]
                have Hn : we.heap.size ≤ w8.heap.size := D.size
                have hne : Gg ≠ w8.heap.size := Nat.ne_of_lt G.lt
                have G := G.alloc (.cells #[.bool false, .slice none 0 0] 34)
                have hq := (hq.alloc (.cells #[.bool false, .slice none 0 0] 34))
                have hr := (hr.alloc (.cells #[.bool false, .slice none 0 0] 34))
                have D1 : Below we.heap.size we (w8.alloc (.cells #[.bool false, .slice none 0 0] 34)) := D.alloc D.size (.cells #[.bool false, .slice none 0 0] 34)
                clear D
                have D := D1
                clear D1
                obtain ⟨w9, hw9⟩ : ∃ w9, w8.alloc (.cells #[.bool false, .slice none 0 0] 34) = w9 := ⟨_, rfl⟩
                obtain ⟨Hg, hHg⟩ : ∃ Hg, w8.heap.size = Hg := ⟨_, rfl⟩
                rw [hw9] at H' D G hq hr hHeld ⊢
                rw [hHg] at H' Hn hne ⊢
                have H := H'
                clear H' hw9 hHg
                have X := Lib.hid (qd_set D Gn Hn hne G H hq hr)
                have D10 := below_set2 D Gn (.bool bq) (.slice Aq nq cq)
                have D11 := below_set2 D10 Hn (.bool br') (.slice Ar nr cr)
                have H1 := H.far2 (hne).symm (.bool bq) (.slice Aq nq cq)
                have g0 := G.at_ 0 rfl; have g1 := G.at_ 1 rfl; have f0 := G.frozen 0; have f1 := G.frozen 1; have h0 := H1.at_ 0 rfl; have h1 := H1.at_ 1 rfl; have f2 := H1.frozen 0; have f3 := H1.frozen 1
                have D10 := Lib.hid D10; have D11 := Lib.hid D11
                clear G H H1 D hq hr hp
                (refine wpAnyL_one (i := 11) (o := _) (by kernel_rfl) rfl (fun K hK => ?_); clear hHeld; simp only [List.getElem_toArray, List.getElem_cons_zero, List.getElem_cons_succ]; go_simp; refine hK.out _ _ ?_ (fun hHeld => ?_); focus (intro _; exact KQ.out _ D10.out)); have hHeld := hHeld (by decide); clear hK K; (try simp only [Act.put, List.setIfInBounds_toArray, List.set_cons_zero, List.set_cons_succ])
                (refine wpAnyL_one (i := 12) (o := _) (by kernel_rfl) rfl (fun K hK => ?_); clear hHeld; simp only [List.getElem_toArray, List.getElem_cons_zero, List.getElem_cons_succ]; go_simp; refine hK.out _ _ ?_ (fun hHeld => ?_); focus (intro _; exact KQ.out _ D11.out)); have hHeld := hHeld (by decide); clear hK K; (try simp only [Act.put, List.setIfInBounds_toArray, List.set_cons_zero, List.set_cons_succ])
                refine wpAnyL_done (by kernel_rfl) ?_ _
                go_wp2
                go_meet
                exact X.out
            · as_aux_lemma =>
                (clear hHeld; simp only [List.getElem_toArray, List.getElem_cons_zero, List.getElem_cons_succ]; go_simp; refine hK.out _ _ ?_ (fun hHeld => ?_); focus (intro _; exact KQ.out _ (D.alloc D.size _))); have hHeld := hHeld (by decide); clear hK K; (try simp only [Act.put, List.setIfInBounds_toArray, List.set_cons_zero, List.set_cons_succ])
                have H' := Blk.new w4 34 #[.bool false, .slice none 0 0]
                have Hn : we.heap.size ≤ w4.heap.size := D.size
                have hq := (hq.alloc (.cells #[.bool false, .slice none 0 0] 34))
                have hr := (hr.alloc (.cells #[.bool false, .slice none 0 0] 34))
                have D1 : Below we.heap.size we (w4.alloc (.cells #[.bool false, .slice none 0 0] 34)) := D.alloc D.size (.cells #[.bool false, .slice none 0 0] 34)
                clear D
                have D := D1
                clear D1
                obtain ⟨w9, hw9⟩ : ∃ w9, w4.alloc (.cells #[.bool false, .slice none 0 0] 34) = w9 := ⟨_, rfl⟩
                obtain ⟨Hg, hHg⟩ : ∃ Hg, w4.heap.size = Hg := ⟨_, rfl⟩
                rw [hw9] at H' D hq hr hHeld ⊢
                rw [hHg] at H' Hn ⊢
                have H := H'
                clear H' hw9 hHg
                (refine wpAnyL_one (i := 9) (o := _) (by kernel_rfl) rfl (fun K hK => ?_); clear hHeld; simp only [List.getElem_toArray, List.getElem_cons_zero, List.getElem_cons_succ]; go_simp; refine hK.out _ _ ?_ (fun hHeld => ?_); focus (intro _; exact KQ.out _ (D.alloc D.size _))); have hHeld := hHeld (by decide); clear hK K; (try simp only [Act.put, List.setIfInBounds_toArray, List.set_cons_zero, List.set_cons_succ])
                have G' := Blk.new w9 34 #[.bool false, .slice none 0 0]
                have Gn : we.heap.size ≤ w9.heap.size := D.size
                have hne : Hg ≠ w9.heap.size := Nat.ne_of_lt H.lt
                have H := H.alloc (.cells #[.bool false, .slice none 0 0] 34)
                have hq := (hq.alloc (.cells #[.bool false, .slice none 0 0] 34))
                have hr := (hr.alloc (.cells #[.bool false, .slice none 0 0] 34))
                have D1 : Below we.heap.size we (w9.alloc (.cells #[.bool false, .slice none 0 0] 34)) := D.alloc D.size (.cells #[.bool false, .slice none 0 0] 34)
                clear D
                have D := D1
                clear D1
                obtain ⟨w8, hw8⟩ : ∃ w8, w9.alloc (.cells #[.bool false, .slice none 0 0] 34) = w8 := ⟨_, rfl⟩
                obtain ⟨Gg, hGg⟩ : ∃ Gg, w9.heap.size = Gg := ⟨_, rfl⟩
                rw [hw8] at G' D H hq hr hHeld ⊢
                rw [hGg] at G' Gn hne ⊢
                have G := G'
                clear G' hw8 hGg
                have X := Lib.hid (qd_set D Gn Hn hne.symm G H hq hr)
                have D10 := below_set2 D Gn (.bool bq) (.slice Aq nq cq)
                have D11 := below_set2 D10 Hn (.bool br') (.slice Ar nr cr)
                have H1 := H.far2 (hne.symm).symm (.bool bq) (.slice Aq nq cq)
                have g0 := G.at_ 0 rfl; have g1 := G.at_ 1 rfl; have f0 := G.frozen 0; have f1 := G.frozen 1; have h0 := H1.at_ 0 rfl; have h1 := H1.at_ 1 rfl; have f2 := H1.frozen 0; have f3 := H1.frozen 1
                have D10 := Lib.hid D10; have D11 := Lib.hid D11
                clear G H H1 D hq hr hp
                (refine wpAnyL_one (i := 11) (o := _) (by kernel_rfl) rfl (fun K hK => ?_); clear hHeld; simp only [List.getElem_toArray, List.getElem_cons_zero, List.getElem_cons_succ]; go_simp; refine hK.out _ _ ?_ (fun hHeld => ?_); focus (intro _; exact KQ.out _ D10.out)); have hHeld := hHeld (by decide); clear hK K; (try simp only [Act.put, List.setIfInBounds_toArray, List.set_cons_zero, List.set_cons_succ])
                (refine wpAnyL_one (i := 12) (o := _) (by kernel_rfl) rfl (fun K hK => ?_); clear hHeld; simp only [List.getElem_toArray, List.getElem_cons_zero, List.getElem_cons_succ]; go_simp; refine hK.out _ _ ?_ (fun hHeld => ?_); focus (intro _; exact KQ.out _ D11.out)); have hHeld := hHeld (by decide); clear hK K; (try simp only [Act.put, List.setIfInBounds_toArray, List.set_cons_zero, List.set_cons_succ])
                refine wpAnyL_done (by kernel_rfl) ?_ _
                go_wp2
                go_meet
                exact X.out
        · as_aux_lemma =>
            (clear hHeld; simp only [List.getElem_toArray, List.getElem_cons_zero, List.getElem_cons_succ]; go_simp; refine hK.out _ _ ?_ (fun hHeld => ?_); focus (intro _; exact KQ.out _ (D.alloc D.size _))); have hHeld := hHeld (by decide); clear hK K; (try simp only [Act.put, List.setIfInBounds_toArray, List.set_cons_zero, List.set_cons_succ])
            have G' := Blk.new w3 34 #[.bool false, .slice none 0 0]
            have Gn : we.heap.size ≤ w3.heap.size := D.size
            have hp := (hp.alloc (.cells #[.bool false, .slice none 0 0] 34))
            have D1 : Below we.heap.size we (w3.alloc (.cells #[.bool false, .slice none 0 0] 34)) := D.alloc D.size (.cells #[.bool false, .slice none 0 0] 34)
            clear D
            have D := D1
            clear D1
            obtain ⟨w8, hw8⟩ : ∃ w8, w3.alloc (.cells #[.bool false, .slice none 0 0] 34) = w8 := ⟨_, rfl⟩
            obtain ⟨Gg, hGg⟩ : ∃ Gg, w3.heap.size = Gg := ⟨_, rfl⟩
            rw [hw8] at G' D hp hHeld ⊢
            rw [hGg] at G' Gn ⊢
            have G := G'
            clear G' hw8 hGg
            refine wpAnyL_two (i := 5) (j := 10) (oi := _) (oj := _) (by kernel_rfl) rfl rfl (fun K hK => ?_) (fun K hK => ?_)
            · as_aux_lemma =>
                (clear hHeld; simp only [List.getElem_toArray, List.getElem_cons_zero, List.getElem_cons_succ]; go_simp; (go_at_call 52; (with_reducible refine (DZ.out _ _ _ (VQ.out _ D) hp.v).mono ?_); rintro e w4 ⟨_, _, rfl, ⟨bq, Aq, nq, cq, rfl, hq⟩, ⟨br', Ar, nr, cr, rfl, hr⟩, hb⟩; have D := D.trans (hb.mono D.size); have G := G.below hb G.lt); refine hK.out _ _ ?_ (fun hHeld => ?_); focus (intro _; exact KQ.out _ D)); have hHeld := hHeld (by decide); clear hK K; (try simp only [Act.put, List.setIfInBounds_toArray, List.set_cons_zero, List.set_cons_succ])
                (refine wpAnyL_take (i := 6) (oi := _) (v := ?_) rfl (by kernel_rfl) (by kernel_rfl) (by kernel_rfl) (fun _ _ _ h => h) (Or.inl ⟨by first | rfl | kernel_rfl, ?hy8⟩) (by assumption) ?rs8; (case hy8 => (intro w hSw; (try dsimp only at hSw); go_simp; first | done | with_reducible rfl)); case' rs8 => (simp only [List.getElem_toArray, List.getElem_cons_zero, List.getElem_cons_succ, Act.put, List.setIfInBounds_toArray, List.set_cons_zero, List.set_cons_succ])); (refine wpAnyL_take (i := 7) (oi := _) (v := ?_) rfl (by kernel_rfl) (by kernel_rfl) (by kernel_rfl) (fun _ _ _ h => h) (Or.inl ⟨by first | rfl | kernel_rfl, ?hy9⟩) (by assumption) ?rs9; (case hy9 => (intro w hSw; (try dsimp only at hSw); go_simp; first | done | with_reducible rfl)); case' rs9 => (simp only [List.getElem_toArray, List.getElem_cons_zero, List.getElem_cons_succ, Act.put, List.setIfInBounds_toArray, List.set_cons_zero, List.set_cons_succ])); (refine wpAnyL_take (i := 8) (oi := _) (v := ?_) rfl (by kernel_rfl) (by kernel_rfl) (by kernel_rfl) (fun _ _ _ h => h) (Or.inl ⟨by first | rfl | kernel_rfl, ?hy10⟩) (by assumption) ?rs10; (case hy10 => (intro w hSw; (try dsimp only at hSw); go_simp; first | done | with_reducible rfl)); case' rs10 => (simp only [List.getElem_toArray, List.getElem_cons_zero, List.getElem_cons_succ, Act.put, List.setIfInBounds_toArray, List.set_cons_zero, List.set_cons_succ])); skip
                (refine wpAnyL_one (i := 10) (o := _) (by kernel_rfl) rfl (fun K hK => ?_); clear hHeld; simp only [List.getElem_toArray, List.getElem_cons_zero, List.getElem_cons_succ]; go_simp; refine hK.out _ _ ?_ (fun hHeld => ?_); focus (intro _; exact KQ.out _ (D.alloc D.size _))); have hHeld := hHeld (by decide); clear hK K; (try simp only [Act.put, List.setIfInBounds_toArray, List.set_cons_zero, List.set_cons_succ])
                have H' := Blk.new w4 34 #[.bool false, .slice none 0 0]
                have Hn : we.heap.size ≤ w4.heap.size := D.size
                have hne : Gg ≠ w4.heap.size := Nat.ne_of_lt G.lt
                have G := G.alloc (.cells #[.bool false, .slice none 0 0] 34)
                have hq := (hq.alloc (.cells #[.bool false, .slice none 0 0] 34))
                have hr := (hr.alloc (.cells #[.bool false, .slice none 0 0] 34))
                have D1 : Below we.heap.size we (w4.alloc (.cells #[.bool false, .slice none 0 0] 34)) := D.alloc D.size (.cells #[.bool false, .slice none 0 0] 34)
                clear D
                have D := D1
                clear D1
                obtain ⟨w9, hw9⟩ : ∃ w9, w4.alloc (.cells #[.bool false, .slice none 0 0] 34) = w9 := ⟨_, rfl⟩
                obtain ⟨Hg, hHg⟩ : ∃ Hg, w4.heap.size = Hg := ⟨_, rfl⟩
                rw [hw9] at H' D G hq hr hHeld ⊢
                rw [hHg] at H' Hn hne ⊢
                have H := H'
                clear H' hw9 hHg
                have X := Lib.hid (qd_set D Gn Hn hne G H hq hr)
                have D10 := below_set2 D Gn (.bool bq) (.slice Aq nq cq)
                have D11 := below_set2 D10 Hn (.bool br') (.slice Ar nr cr)
                have H1 := H.far2 (hne).symm (.bool bq) (.slice Aq nq cq)
                have g0 := G.at_ 0 rfl; have g1 := G.at_ 1 rfl; have f0 := G.frozen 0; have f1 := G.frozen 1; have h0 := H1.at_ 0 rfl; have h1 := H1.at_ 1 rfl; have f2 := H1.frozen 0; have f3 := H1.frozen 1
                have D10 := Lib.hid D10; have D11 := Lib.hid D11
                clear G H H1 D hq hr hp
                (refine wpAnyL_one (i := 11) (o := _) (by kernel_rfl) rfl (fun K hK => ?_); clear hHeld; simp only [List.getElem_toArray, List.getElem_cons_zero, List.getElem_cons_succ]; go_simp; refine hK.out _ _ ?_ (fun hHeld => ?_); focus (intro _; exact KQ.out _ D10.out)); have hHeld := hHeld (by decide); clear hK K; (try simp only [Act.put, List.setIfInBounds_toArray, List.set_cons_zero, List.set_cons_succ])
                (refine wpAnyL_one (i := 12) (o := _) (by kernel_rfl) rfl (fun K hK => ?_); clear hHeld; simp only [List.getElem_toArray, List.getElem_cons_zero, List.getElem_cons_succ]; go_simp; refine hK.out _ _ ?_ (fun hHeld => ?_); focus (intro _; exact KQ.out _ D11.out)); have hHeld := hHeld (by decide); clear hK K; (try simp only [Act.put, List.setIfInBounds_toArray, List.set_cons_zero, List.set_cons_succ])
                refine wpAnyL_done (by kernel_rfl) ?_ _
                go_wp2
                go_meet
                exact X.out
            · as_aux_lemma =>
                (clear hHeld; simp only [List.getElem_toArray, List.getElem_cons_zero, List.getElem_cons_succ]; go_simp; refine hK.out _ _ ?_ (fun hHeld => ?_); focus (intro _; exact KQ.out _ (D.alloc D.size _))); have hHeld := hHeld (by decide); clear hK K; (try simp only [Act.put, List.setIfInBounds_toArray, List.set_cons_zero, List.set_cons_succ])
                have H' := Blk.new w8 34 #[.bool false, .slice none 0 0]
                have Hn : we.heap.size ≤ w8.heap.size := D.size
                have hne : Gg ≠ w8.heap.size := Nat.ne_of_lt G.lt
                have G := G.alloc (.cells #[.bool false, .slice none 0 0] 34)
                have hp := (hp.alloc (.cells #[.bool false, .slice none 0 0] 34))
                have D1 : Below we.heap.size we (w8.alloc (.cells #[.bool false, .slice none 0 0] 34)) := D.alloc D.size (.cells #[.bool false, .slice none 0 0] 34)
                clear D
                have D := D1
                clear D1
                obtain ⟨w9, hw9⟩ : ∃ w9, w8.alloc (.cells #[.bool false, .slice none 0 0] 34) = w9 := ⟨_, rfl⟩
                obtain ⟨Hg, hHg⟩ : ∃ Hg, w8.heap.size = Hg := ⟨_, rfl⟩
                rw [hw9] at H' D G hp hHeld ⊢
                rw [hHg] at H' Hn hne ⊢
                have H := H'
                clear H' hw9 hHg
                (refine wpAnyL_one (i := 5) (o := _) (by kernel_rfl) rfl (fun K hK => ?_); clear hHeld; simp only [List.getElem_toArray, List.getElem_cons_zero, List.getElem_cons_succ]; go_simp; (go_at_call 52; (with_reducible refine (DZ.out _ _ _ (VQ.out _ D) hp.v).mono ?_); rintro e w4 ⟨_, _, rfl, ⟨bq, Aq, nq, cq, rfl, hq⟩, ⟨br', Ar, nr, cr, rfl, hr⟩, hb⟩; have D := D.trans (hb.mono D.size); have G := G.below hb G.lt; have H := H.below hb H.lt); refine hK.out _ _ ?_ (fun hHeld => ?_); focus (intro _; exact KQ.out _ D)); have hHeld := hHeld (by decide); clear hK K; (try simp only [Act.put, List.setIfInBounds_toArray, List.set_cons_zero, List.set_cons_succ])
                (refine wpAnyL_take (i := 6) (oi := _) (v := ?_) rfl (by kernel_rfl) (by kernel_rfl) (by kernel_rfl) (fun _ _ _ h => h) (Or.inl ⟨by first | rfl | kernel_rfl, ?hy11⟩) (by assumption) ?rs11; (case hy11 => (intro w hSw; (try dsimp only at hSw); go_simp; first | done | with_reducible rfl)); case' rs11 => (simp only [List.getElem_toArray, List.getElem_cons_zero, List.getElem_cons_succ, Act.put, List.setIfInBounds_toArray, List.set_cons_zero, List.set_cons_succ])); (refine wpAnyL_take (i := 7) (oi := _) (v := ?_) rfl (by kernel_rfl) (by kernel_rfl) (by kernel_rfl) (fun _ _ _ h => h) (Or.inl ⟨by first | rfl | kernel_rfl, ?hy12⟩) (by assumption) ?rs12; (case hy12 => (intro w hSw; (try dsimp only at hSw); go_simp; first | done | with_reducible rfl)); case' rs12 => (simp only [List.getElem_toArray, List.getElem_cons_zero, List.getElem_cons_succ, Act.put, List.setIfInBounds_toArray, List.set_cons_zero, List.set_cons_succ])); (refine wpAnyL_take (i := 8) (oi := _) (v := ?_) rfl (by kernel_rfl) (by kernel_rfl) (by kernel_rfl) (fun _ _ _ h => h) (Or.inl ⟨by first | rfl | kernel_rfl, ?hy13⟩) (by assumption) ?rs13; (case hy13 => (intro w hSw; (try dsimp only at hSw); go_simp; first | done | with_reducible rfl)); case' rs13 => (simp only [List.getElem_toArray, List.getElem_cons_zero, List.getElem_cons_succ, Act.put, List.setIfInBounds_toArray, List.set_cons_zero, List.set_cons_succ])); skip
                have X := Lib.hid (qd_set D Gn Hn hne G H hq hr)
                have D10 := below_set2 D Gn (.bool bq) (.slice Aq nq cq)
                have D11 := below_set2 D10 Hn (.bool br') (.slice Ar nr cr)
                have H1 := H.far2 (hne).symm (.bool bq) (.slice Aq nq cq)
                have g0 := G.at_ 0 rfl; have g1 := G.at_ 1 rfl; have f0 := G.frozen 0; have f1 := G.frozen 1; have h0 := H1.at_ 0 rfl; have h1 := H1.at_ 1 rfl; have f2 := H1.frozen 0; have f3 := H1.frozen 1
                have D10 := Lib.hid D10; have D11 := Lib.hid D11
                clear G H H1 D hq hr hp
                (refine wpAnyL_one (i := 11) (o := _) (by kernel_rfl) rfl (fun K hK => ?_); clear hHeld; simp only [List.getElem_toArray, List.getElem_cons_zero, List.getElem_cons_succ]; go_simp; refine hK.out _ _ ?_ (fun hHeld => ?_); focus (intro _; exact KQ.out _ D10.out)); have hHeld := hHeld (by decide); clear hK K; (try simp only [Act.put, List.setIfInBounds_toArray, List.set_cons_zero, List.set_cons_succ])
                (refine wpAnyL_one (i := 12) (o := _) (by kernel_rfl) rfl (fun K hK => ?_); clear hHeld; simp only [List.getElem_toArray, List.getElem_cons_zero, List.getElem_cons_succ]; go_simp; refine hK.out _ _ ?_ (fun hHeld => ?_); focus (intro _; exact KQ.out _ D11.out)); have hHeld := hHeld (by decide); clear hK K; (try simp only [Act.put, List.setIfInBounds_toArray, List.set_cons_zero, List.set_cons_succ])
                refine wpAnyL_done (by kernel_rfl) ?_ _
                go_wp2
                go_meet
                exact X.out
        · as_aux_lemma =>
            (clear hHeld; simp only [List.getElem_toArray, List.getElem_cons_zero, List.getElem_cons_succ]; go_simp; refine hK.out _ _ ?_ (fun hHeld => ?_); focus (intro _; exact KQ.out _ (D.alloc D.size _))); have hHeld := hHeld (by decide); clear hK K; (try simp only [Act.put, List.setIfInBounds_toArray, List.set_cons_zero, List.set_cons_succ])
            have H' := Blk.new w3 34 #[.bool false, .slice none 0 0]
            have Hn : we.heap.size ≤ w3.heap.size := D.size
            have hp := (hp.alloc (.cells #[.bool false, .slice none 0 0] 34))
            have D1 : Below we.heap.size we (w3.alloc (.cells #[.bool false, .slice none 0 0] 34)) := D.alloc D.size (.cells #[.bool false, .slice none 0 0] 34)
            clear D
            have D := D1
            clear D1
            obtain ⟨w9, hw9⟩ : ∃ w9, w3.alloc (.cells #[.bool false, .slice none 0 0] 34) = w9 := ⟨_, rfl⟩
            obtain ⟨Hg, hHg⟩ : ∃ Hg, w3.heap.size = Hg := ⟨_, rfl⟩
            rw [hw9] at H' D hp hHeld ⊢
            rw [hHg] at H' Hn ⊢
            have H := H'
            clear H' hw9 hHg
            refine wpAnyL_two (i := 5) (j := 9) (oi := _) (oj := _) (by kernel_rfl) rfl rfl (fun K hK => ?_) (fun K hK => ?_)
            · as_aux_lemma =>
                (clear hHeld; simp only [List.getElem_toArray, List.getElem_cons_zero, List.getElem_cons_succ]; go_simp; (go_at_call 52; (with_reducible refine (DZ.out _ _ _ (VQ.out _ D) hp.v).mono ?_); rintro e w4 ⟨_, _, rfl, ⟨bq, Aq, nq, cq, rfl, hq⟩, ⟨br', Ar, nr, cr, rfl, hr⟩, hb⟩; have D := D.trans (hb.mono D.size); have H := H.below hb H.lt); refine hK.out _ _ ?_ (fun hHeld => ?_); focus (intro _; exact KQ.out _ D)); have hHeld := hHeld (by decide); clear hK K; (try simp only [Act.put, List.setIfInBounds_toArray, List.set_cons_zero, List.set_cons_succ])
                (refine wpAnyL_take (i := 6) (oi := _) (v := ?_) rfl (by kernel_rfl) (by kernel_rfl) (by kernel_rfl) (fun _ _ _ h => h) (Or.inl ⟨by first | rfl | kernel_rfl, ?hy14⟩) (by assumption) ?rs14; (case hy14 => (intro w hSw; (try dsimp only at hSw); go_simp; first | done | with_reducible rfl)); case' rs14 => (simp only [List.getElem_toArray, List.getElem_cons_zero, List.getElem_cons_succ, Act.put, List.setIfInBounds_toArray, List.set_cons_zero, List.set_cons_succ])); (refine wpAnyL_take (i := 7) (oi := _) (v := ?_) rfl (by kernel_rfl) (by kernel_rfl) (by kernel_rfl) (fun _ _ _ h => h) (Or.inl ⟨by first | rfl | kernel_rfl, ?hy15⟩) (by assumption) ?rs15; (case hy15 => (intro w hSw; (try dsimp only at hSw); go_simp; first | done | with_reducible rfl)); case' rs15 => (simp only [List.getElem_toArray, List.getElem_cons_zero, List.getElem_cons_succ, Act.put, List.setIfInBounds_toArray, List.set_cons_zero, List.set_cons_succ])); (refine wpAnyL_take (i := 8) (oi := _) (v := ?_) rfl (by kernel_rfl) (by kernel_rfl) (by kernel_rfl) (fun _ _ _ h => h) (Or.inl ⟨by first | rfl | kernel_rfl, ?hy16⟩) (by assumption) ?rs16; (case hy16 => (intro w hSw; (try dsimp only at hSw); go_simp; first | done | with_reducible rfl)); case' rs16 => (simp only [List.getElem_toArray, List.getElem_cons_zero, List.getElem_cons_succ, Act.put, List.setIfInBounds_toArray, List.set_cons_zero, List.set_cons_succ])); skip
                (refine wpAnyL_one (i := 9) (o := _) (by kernel_rfl) rfl (fun K hK => ?_); clear hHeld; simp only [List.getElem_toArray, List.getElem_cons_zero, List.getElem_cons_succ]; go_simp; refine hK.out _ _ ?_ (fun hHeld => ?_); focus (intro _; exact KQ.out _ (D.alloc D.size _))); have hHeld := hHeld (by decide); clear hK K; (try simp only [Act.put, List.setIfInBounds_toArray, List.set_cons_zero, List.set_cons_succ])
                have G' := Blk.new w4 34 #[.bool false, .slice none 0 0]
                have Gn : we.heap.size ≤ w4.heap.size := D.size
                have hne : Hg ≠ w4.heap.size := Nat.ne_of_lt H.lt
                have H := H.alloc (.cells #[.bool false, .slice none 0 0] 34)
                have hq := (hq.alloc (.cells #[.bool false, .slice none 0 0] 34))
                have hr := (hr.alloc (.cells #[.bool false, .slice none 0 0] 34))
                have D1 : Below we.heap.size we (w4.alloc (.cells #[.bool false, .slice none 0 0] 34)) := D.alloc D.size (.cells #[.bool false, .slice none 0 0] 34)
                clear D
                have D := D1
                clear D1
                obtain ⟨w8, hw8⟩ : ∃ w8, w4.alloc (.cells #[.bool false, .slice none 0 0] 34) = w8 := ⟨_, rfl⟩
                obtain ⟨Gg, hGg⟩ : ∃ Gg, w4.heap.size = Gg := ⟨_, rfl⟩
                rw [hw8] at G' D H hq hr hHeld ⊢
                rw [hGg] at G' Gn hne ⊢
                have G := G'
                clear G' hw8 hGg
                have X := Lib.hid (qd_set D Gn Hn hne.symm G H hq hr)
                have D10 := below_set2 D Gn (.bool bq) (.slice Aq nq cq)
                have D11 := below_set2 D10 Hn (.bool br') (.slice Ar nr cr)
                have H1 := H.far2 (hne.symm).symm (.bool bq) (.slice Aq nq cq)
                have g0 := G.at_ 0 rfl; have g1 := G.at_ 1 rfl; have f0 := G.frozen 0; have f1 := G.frozen 1; have h0 := H1.at_ 0 rfl; have h1 := H1.at_ 1 rfl; have f2 := H1.frozen 0; have f3 := H1.frozen 1
                have D10 := Lib.hid D10; have D11 := Lib.hid D11
                clear G H H1 D hq hr hp
                (refine wpAnyL_one (i := 11) (o := _) (by kernel_rfl) rfl (fun K hK => ?_); clear hHeld; simp only [List.getElem_toArray, List.getElem_cons_zero, List.getElem_cons_succ]; go_simp; refine hK.out _ _ ?_ (fun hHeld => ?_); focus (intro _; exact KQ.out _ D10.out)); have hHeld := hHeld (by decide); clear hK K; (try simp only [Act.put, List.setIfInBounds_toArray, List.set_cons_zero, List.set_cons_succ])
                (refine wpAnyL_one (i := 12) (o := _) (by kernel_rfl) rfl (fun K hK => ?_); clear hHeld; simp only [List.getElem_toArray, List.getElem_cons_zero, List.getElem_cons_succ]; go_simp; refine hK.out _ _ ?_ (fun hHeld => ?_); focus (intro _; exact KQ.out _ D11.out)); have hHeld := hHeld (by decide); clear hK K; (try simp only [Act.put, List.setIfInBounds_toArray, List.set_cons_zero, List.set_cons_succ])
                refine wpAnyL_done (by kernel_rfl) ?_ _
                go_wp2
                go_meet
                exact X.out
            · as_aux_lemma =>
                (clear hHeld; simp only [List.getElem_toArray, List.getElem_cons_zero, List.getElem_cons_succ]; go_simp; refine hK.out _ _ ?_ (fun hHeld => ?_); focus (intro _; exact KQ.out _ (D.alloc D.size _))); have hHeld := hHeld (by decide); clear hK K; (try simp only [Act.put, List.setIfInBounds_toArray, List.set_cons_zero, List.set_cons_succ])
                have G' := Blk.new w9 34 #[.bool false, .slice none 0 0]
                have Gn : we.heap.size ≤ w9.heap.size := D.size
                have hne : Hg ≠ w9.heap.size := Nat.ne_of_lt H.lt
                have H := H.alloc (.cells #[.bool false, .slice none 0 0] 34)
                have hp := (hp.alloc (.cells #[.bool false, .slice none 0 0] 34))
                have D1 : Below we.heap.size we (w9.alloc (.cells #[.bool false, .slice none 0 0] 34)) := D.alloc D.size (.cells #[.bool false, .slice none 0 0] 34)
                clear D
                have D := D1
                clear D1
                obtain ⟨w8, hw8⟩ : ∃ w8, w9.alloc (.cells #[.bool false, .slice none 0 0] 34) = w8 := ⟨_, rfl⟩
                obtain ⟨Gg, hGg⟩ : ∃ Gg, w9.heap.size = Gg := ⟨_, rfl⟩
                rw [hw8] at G' D H hp hHeld ⊢
                rw [hGg] at G' Gn hne ⊢
                have G := G'
                clear G' hw8 hGg
                (refine wpAnyL_one (i := 5) (o := _) (by kernel_rfl) rfl (fun K hK => ?_); clear hHeld; simp only [List.getElem_toArray, List.getElem_cons_zero, List.getElem_cons_succ]; go_simp; (go_at_call 52; (with_reducible refine (DZ.out _ _ _ (VQ.out _ D) hp.v).mono ?_); rintro e w4 ⟨_, _, rfl, ⟨bq, Aq, nq, cq, rfl, hq⟩, ⟨br', Ar, nr, cr, rfl, hr⟩, hb⟩; have D := D.trans (hb.mono D.size); have G := G.below hb G.lt; have H := H.below hb H.lt); refine hK.out _ _ ?_ (fun hHeld => ?_); focus (intro _; exact KQ.out _ D)); have hHeld := hHeld (by decide); clear hK K; (try simp only [Act.put, List.setIfInBounds_toArray, List.set_cons_zero, List.set_cons_succ])
                (refine wpAnyL_take (i := 6) (oi := _) (v := ?_) rfl (by kernel_rfl) (by kernel_rfl) (by kernel_rfl) (fun _ _ _ h => h) (Or.inl ⟨by first | rfl | kernel_rfl, ?hy17⟩) (by assumption) ?rs17; (case hy17 => (intro w hSw; (try dsimp only at hSw); go_simp; first | done | with_reducible rfl)); case' rs17 => (simp only [List.getElem_toArray, List.getElem_cons_zero, List.getElem_cons_succ, Act.put, List.setIfInBounds_toArray, List.set_cons_zero, List.set_cons_succ])); (refine wpAnyL_take (i := 7) (oi := _) (v := ?_) rfl (by kernel_rfl) (by kernel_rfl) (by kernel_rfl) (fun _ _ _ h => h) (Or.inl ⟨by first | rfl | kernel_rfl, ?hy18⟩) (by assumption) ?rs18; (case hy18 => (intro w hSw; (try dsimp only at hSw); go_simp; first | done | with_reducible rfl)); case' rs18 => (simp only [List.getElem_toArray, List.getElem_cons_zero, List.getElem_cons_succ, Act.put, List.setIfInBounds_toArray, List.set_cons_zero, List.set_cons_succ])); (refine wpAnyL_take (i := 8) (oi := _) (v := ?_) rfl (by kernel_rfl) (by kernel_rfl) (by kernel_rfl) (fun _ _ _ h => h) (Or.inl ⟨by first | rfl | kernel_rfl, ?hy19⟩) (by assumption) ?rs19; (case hy19 => (intro w hSw; (try dsimp only at hSw); go_simp; first | done | with_reducible rfl)); case' rs19 => (simp only [List.getElem_toArray, List.getElem_cons_zero, List.getElem_cons_succ, Act.put, List.setIfInBounds_toArray, List.set_cons_zero, List.set_cons_succ])); skip
                have X := Lib.hid (qd_set D Gn Hn hne.symm G H hq hr)
                have D10 := below_set2 D Gn (.bool bq) (.slice Aq nq cq)
                have D11 := below_set2 D10 Hn (.bool br') (.slice Ar nr cr)
                have H1 := H.far2 (hne.symm).symm (.bool bq) (.slice Aq nq cq)
                have g0 := G.at_ 0 rfl; have g1 := G.at_ 1 rfl; have f0 := G.frozen 0; have f1 := G.frozen 1; have h0 := H1.at_ 0 rfl; have h1 := H1.at_ 1 rfl; have f2 := H1.frozen 0; have f3 := H1.frozen 1
                have D10 := Lib.hid D10; have D11 := Lib.hid D11
                clear G H H1 D hq hr hp
                (refine wpAnyL_one (i := 11) (o := _) (by kernel_rfl) rfl (fun K hK => ?_); clear hHeld; simp only [List.getElem_toArray, List.getElem_cons_zero, List.getElem_cons_succ]; go_simp; refine hK.out _ _ ?_ (fun hHeld => ?_); focus (intro _; exact KQ.out _ D10.out)); have hHeld := hHeld (by decide); clear hK K; (try simp only [Act.put, List.setIfInBounds_toArray, List.set_cons_zero, List.set_cons_succ])
                (refine wpAnyL_one (i := 12) (o := _) (by kernel_rfl) rfl (fun K hK => ?_); clear hHeld; simp only [List.getElem_toArray, List.getElem_cons_zero, List.getElem_cons_succ]; go_simp; refine hK.out _ _ ?_ (fun hHeld => ?_); focus (intro _; exact KQ.out _ D11.out)); have hHeld := hHeld (by decide); clear hK K; (try simp only [Act.put, List.setIfInBounds_toArray, List.set_cons_zero, List.set_cons_succ])
                refine wpAnyL_done (by kernel_rfl) ?_ _
                go_wp2
                go_meet
                exact X.out
    · as_aux_lemma =>
        (clear hHeld; simp only [List.getElem_toArray, List.getElem_cons_zero, List.getElem_cons_succ]; go_simp; refine hK.out _ _ ?_ (fun hHeld => ?_); focus (intro _; exact KQ.out _ (D.alloc D.size _))); have hHeld := hHeld (by decide); clear hK K; (try simp only [Act.put, List.setIfInBounds_toArray, List.set_cons_zero, List.set_cons_succ])
        have G' := Blk.drew (Blk.new W1 34 #[.bool false, .slice none 0 0])
        have Gn : we.heap.size ≤ W1.heap.size := D.size
        have D1 : Below we.heap.size we ((W1.alloc (.cells #[.bool false, .slice none 0 0] 34)).drew) := (D.alloc D.size (.cells #[.bool false, .slice none 0 0] 34))
        clear D
        have D := D1
        clear D1
        obtain ⟨w8, hw8⟩ : ∃ w8, (W1.alloc (.cells #[.bool false, .slice none 0 0] 34)).drew = w8 := ⟨_, rfl⟩
        obtain ⟨Gg, hGg⟩ : ∃ Gg, W1.heap.size = Gg := ⟨_, rfl⟩
        rw [hw8] at G' D hHeld ⊢
        rw [hGg] at G' Gn ⊢
        have G := G'
        clear G' hw8 hGg
        refine wpAnyL_two (i := 4) (j := 10) (oi := _) (oj := _) (by kernel_rfl) rfl rfl (fun K hK => ?_) (fun K hK => ?_)
        · as_aux_lemma =>
            (clear hHeld; simp only [List.getElem_toArray, List.getElem_cons_zero, List.getElem_cons_succ]; go_simp; (go_at_call 48; (with_reducible refine (HP.out _).mono ?_); rintro e w3 ⟨_, rfl, ⟨b1, A1, n1, c1, rfl, hp0⟩, hb⟩; have hp := hp0.zl; have D := D.trans (hb.mono D.size); have G := G.below hb G.lt); refine hK.out _ _ ?_ (fun hHeld => ?_); focus (intro _; exact KQ.out _ D)); have hHeld := hHeld (by decide); clear hK K; (try simp only [Act.put, List.setIfInBounds_toArray, List.set_cons_zero, List.set_cons_succ])
            refine wpAnyL_two (i := 5) (j := 10) (oi := _) (oj := _) (by kernel_rfl) rfl rfl (fun K hK => ?_) (fun K hK => ?_)
            · as_aux_lemma =>
                (clear hHeld; simp only [List.getElem_toArray, List.getElem_cons_zero, List.getElem_cons_succ]; go_simp; (go_at_call 52; (with_reducible refine (DZ.out _ _ _ (VQ.out _ D) hp.v).mono ?_); rintro e w4 ⟨_, _, rfl, ⟨bq, Aq, nq, cq, rfl, hq⟩, ⟨br', Ar, nr, cr, rfl, hr⟩, hb⟩; have D := D.trans (hb.mono D.size); have G := G.below hb G.lt); refine hK.out _ _ ?_ (fun hHeld => ?_); focus (intro _; exact KQ.out _ D)); have hHeld := hHeld (by decide); clear hK K; (try simp only [Act.put, List.setIfInBounds_toArray, List.set_cons_zero, List.set_cons_succ])
                (refine wpAnyL_take (i := 6) (oi := _) (v := ?_) rfl (by kernel_rfl) (by kernel_rfl) (by kernel_rfl) (fun _ _ _ h => h) (Or.inl ⟨by first | rfl | kernel_rfl, ?hy20⟩) (by assumption) ?rs20; (case hy20 => (intro w hSw; (try dsimp only at hSw); go_simp; first | done | with_reducible rfl)); case' rs20 => (simp only [List.getElem_toArray, List.getElem_cons_zero, List.getElem_cons_succ, Act.put, List.setIfInBounds_toArray, List.set_cons_zero, List.set_cons_succ])); (refine wpAnyL_take (i := 7) (oi := _) (v := ?_) rfl (by kernel_rfl) (by kernel_rfl) (by kernel_rfl) (fun _ _ _ h => h) (Or.inl ⟨by first | rfl | kernel_rfl, ?hy21⟩) (by assumption) ?rs21; (case hy21 => (intro w hSw; (try dsimp only at hSw); go_simp; first | done | with_reducible rfl)); case' rs21 => (simp only [List.getElem_toArray, List.getElem_cons_zero, List.getElem_cons_succ, Act.put, List.setIfInBounds_toArray, List.set_cons_zero, List.set_cons_succ])); (refine wpAnyL_take (i := 8) (oi := _) (v := ?_) rfl (by kernel_rfl) (by kernel_rfl) (by kernel_rfl) (fun _ _ _ h => h) (Or.inl ⟨by first | rfl | kernel_rfl, ?hy22⟩) (by assumption) ?rs22; (case hy22 => (intro w hSw; (try dsimp only at hSw); go_simp; first | done | with_reducible rfl)); case' rs22 => (simp only [List.getElem_toArray, List.getElem_cons_zero, List.getElem_cons_succ, Act.put, List.setIfInBounds_toArray, List.set_cons_zero, List.set_cons_succ])); skip
                (refine wpAnyL_one (i := 10) (o := _) (by kernel_rfl) rfl (fun K hK => ?_); clear hHeld; simp only [List.getElem_toArray, List.getElem_cons_zero, List.getElem_cons_succ]; go_simp; refine hK.out _ _ ?_ (fun hHeld => ?_); focus (intro _; exact KQ.out _ (D.alloc D.size _))); have hHeld := hHeld (by decide); clear hK K; (try simp only [Act.put, List.setIfInBounds_toArray, List.set_cons_zero, List.set_cons_succ])
                have H' := Blk.new w4 34 #[.bool false, .slice none 0 0]
                have Hn : we.heap.size ≤ w4.heap.size := D.size
                have hne : Gg ≠ w4.heap.size := Nat.ne_of_lt G.lt
                have G := G.alloc (.cells #[.bool false, .slice none 0 0] 34)
                have hq := (hq.alloc (.cells #[.bool false, .slice none 0 0] 34))
                have hr := (hr.alloc (.cells #[.bool false, .slice none 0 0] 34))
                have D1 : Below we.heap.size we (w4.alloc (.cells #[.bool false, .slice none 0 0] 34)) := D.alloc D.size (.cells #[.bool false, .slice none 0 0] 34)
                clear D
                have D := D1
                clear D1
                obtain ⟨w9, hw9⟩ : ∃ w9, w4.alloc (.cells #[.bool false, .slice none 0 0] 34) = w9 := ⟨_, rfl⟩
                obtain ⟨Hg, hHg⟩ : ∃ Hg, w4.heap.size = Hg := ⟨_, rfl⟩
                rw [hw9] at H' D G hq hr hHeld ⊢
                rw [hHg] at H' Hn hne ⊢
                have H := H'
                clear H' hw9 hHg
                have X := Lib.hid (qd_set D Gn Hn hne G H hq hr)
                have D10 := below_set2 D Gn (.bool bq) (.slice Aq nq cq)
                have D11 := below_set2 D10 Hn (.bool br') (.slice Ar nr cr)
                have H1 := H.far2 (hne).symm (.bool bq) (.slice Aq nq cq)
                have g0 := G.at_ 0 rfl; have g1 := G.at_ 1 rfl; have f0 := G.frozen 0; have f1 := G.frozen 1; have h0 := H1.at_ 0 rfl; have h1 := H1.at_ 1 rfl; have f2 := H1.frozen 0; have f3 := H1.frozen 1
                have D10 := Lib.hid D10; have D11 := Lib.hid D11
                clear G H H1 D hq hr hp
                (refine wpAnyL_one (i := 11) (o := _) (by kernel_rfl) rfl (fun K hK => ?_); clear hHeld; simp only [List.getElem_toArray, List.getElem_cons_zero, List.getElem_cons_succ]; go_simp; refine hK.out _ _ ?_ (fun hHeld => ?_); focus (intro _; exact KQ.out _ D10.out)); have hHeld := hHeld (by decide); clear hK K; (try simp only [Act.put, List.setIfInBounds_toArray, List.set_cons_zero, List.set_cons_succ])
                (refine wpAnyL_one (i := 12) (o := _) (by kernel_rfl) rfl (fun K hK => ?_); clear hHeld; simp only [List.getElem_toArray, List.getElem_cons_zero, List.getElem_cons_succ]; go_simp; refine hK.out _ _ ?_ (fun hHeld => ?_); focus (intro _; exact KQ.out _ D11.out)); have hHeld := hHeld (by decide); clear hK K; (try simp only [Act.put, List.setIfInBounds_toArray, List.set_cons_zero, List.set_cons_succ])
                refine wpAnyL_done (by kernel_rfl) ?_ _
                go_wp2
                go_meet
                exact X.out
            · as_aux_lemma =>
                (clear hHeld; simp only [List.getElem_toArray, List.getElem_cons_zero, List.getElem_cons_succ]; go_simp; refine hK.out _ _ ?_ (fun hHeld => ?_); focus (intro _; exact KQ.out _ (D.alloc D.size _))); have hHeld := hHeld (by decide); clear hK K; (try simp only [Act.put, List.setIfInBounds_toArray, List.set_cons_zero, List.set_cons_succ])
                have H' := Blk.new w3 34 #[.bool false, .slice none 0 0]
                have Hn : we.heap.size ≤ w3.heap.size := D.size
                have hne : Gg ≠ w3.heap.size := Nat.ne_of_lt G.lt
                have G := G.alloc (.cells #[.bool false, .slice none 0 0] 34)
                have hp := (hp.alloc (.cells #[.bool false, .slice none 0 0] 34))
                have D1 : Below we.heap.size we (w3.alloc (.cells #[.bool false, .slice none 0 0] 34)) := D.alloc D.size (.cells #[.bool false, .slice none 0 0] 34)
                clear D
                have D := D1
                clear D1
                obtain ⟨w9, hw9⟩ : ∃ w9, w3.alloc (.cells #[.bool false, .slice none 0 0] 34) = w9 := ⟨_, rfl⟩
                obtain ⟨Hg, hHg⟩ : ∃ Hg, w3.heap.size = Hg := ⟨_, rfl⟩
                rw [hw9] at H' D G hp hHeld ⊢
                rw [hHg] at H' Hn hne ⊢
                have H := H'
                clear H' hw9 hHg
                (refine wpAnyL_one (i := 5) (o := _) (by kernel_rfl) rfl (fun K hK => ?_); clear hHeld; simp only [List.getElem_toArray, List.getElem_cons_zero, List.getElem_cons_succ]; go_simp; (go_at_call 52; (with_reducible refine (DZ.out _ _ _ (VQ.out _ D) hp.v).mono ?_); rintro e w4 ⟨_, _, rfl, ⟨bq, Aq, nq, cq, rfl, hq⟩, ⟨br', Ar, nr, cr, rfl, hr⟩, hb⟩; have D := D.trans (hb.mono D.size); have G := G.below hb G.lt; have H := H.below hb H.lt); refine hK.out _ _ ?_ (fun hHeld => ?_); focus (intro _; exact KQ.out _ D)); have hHeld := hHeld (by decide); clear hK K; (try simp only [Act.put, List.setIfInBounds_toArray, List.set_cons_zero, List.set_cons_succ])
                (refine wpAnyL_take (i := 6) (oi := _) (v := ?_) rfl (by kernel_rfl) (by kernel_rfl) (by kernel_rfl) (fun _ _ _ h => h) (Or.inl ⟨by first | rfl | kernel_rfl, ?hy23⟩) (by assumption) ?rs23; (case hy23 => (intro w hSw; (try dsimp only at hSw); go_simp; first | done | with_reducible rfl)); case' rs23 => (simp only [List.getElem_toArray, List.getElem_cons_zero, List.getElem_cons_succ, Act.put, List.setIfInBounds_toArray, List.set_cons_zero, List.set_cons_succ])); (refine wpAnyL_take (i := 7) (oi := _) (v := ?_) rfl (by kernel_rfl) (by kernel_rfl) (by kernel_rfl) (fun _ _ _ h => h) (Or.inl ⟨by first | rfl | kernel_rfl, ?hy24⟩) (by assumption) ?rs24; (case hy24 => (intro w hSw; (try dsimp only at hSw); go_simp; first | done | with_reducible rfl)); case' rs24 => (simp only [List.getElem_toArray, List.getElem_cons_zero, List.getElem_cons_succ, Act.put, List.setIfInBounds_toArray, List.set_cons_zero, List.set_cons_succ])); (refine wpAnyL_take (i := 8) (oi := _) (v := ?_) rfl (by kernel_rfl) (by kernel_rfl) (by kernel_rfl) (fun _ _ _ h => h) (Or.inl ⟨by first | rfl | kernel_rfl, ?hy25⟩) (by assumption) ?rs25; (case hy25 => (intro w hSw; (try dsimp only at hSw); go_simp; first | done | with_reducible rfl)); case' rs25 => (simp only [List.getElem_toArray, List.getElem_cons_zero, List.getElem_cons_succ, Act.put, List.setIfInBounds_toArray, List.set_cons_zero, List.set_cons_succ])); skip
                have X := Lib.hid (qd_set D Gn Hn hne G H hq hr)
                have D10 := below_set2 D Gn (.bool bq) (.slice Aq nq cq)
                have D11 := below_set2 D10 Hn (.bool br') (.slice Ar nr cr)
                have H1 := H.far2 (hne).symm (.bool bq) (.slice Aq nq cq)
                have g0 := G.at_ 0 rfl; have g1 := G.at_ 1 rfl; have f0 := G.frozen 0; have f1 := G.frozen 1; have h0 := H1.at_ 0 rfl; have h1 := H1.at_ 1 rfl; have f2 := H1.frozen 0; have f3 := H1.frozen 1
                have D10 := Lib.hid D10; have D11 := Lib.hid D11
                clear G H H1 D hq hr hp
                (refine wpAnyL_one (i := 11) (o := _) (by kernel_rfl) rfl (fun K hK => ?_); clear hHeld; simp only [List.getElem_toArray, List.getElem_cons_zero, List.getElem_cons_succ]; go_simp; refine hK.out _ _ ?_ (fun hHeld => ?_); focus (intro _; exact KQ.out _ D10.out)); have hHeld := hHeld (by decide); clear hK K; (try simp only [Act.put, List.setIfInBounds_toArray, List.set_cons_zero, List.set_cons_succ])
                (refine wpAnyL_one (i := 12) (o := _) (by kernel_rfl) rfl (fun K hK => ?_); clear hHeld; simp only [List.getElem_toArray, List.getElem_cons_zero, List.getElem_cons_succ]; go_simp; refine hK.out _ _ ?_ (fun hHeld => ?_); focus (intro _; exact KQ.out _ D11.out)); have hHeld := hHeld (by decide); clear hK K; (try simp only [Act.put, List.setIfInBounds_toArray, List.set_cons_zero, List.set_cons_succ])
                refine wpAnyL_done (by kernel_rfl) ?_ _
                go_wp2
                go_meet
                exact X.out
        · as_aux_lemma =>
            (clear hHeld; simp only [List.getElem_toArray, List.getElem_cons_zero, List.getElem_cons_succ]; go_simp; refine hK.out _ _ ?_ (fun hHeld => ?_); focus (intro _; exact KQ.out _ (D.alloc D.size _))); have hHeld := hHeld (by decide); clear hK K; (try simp only [Act.put, List.setIfInBounds_toArray, List.set_cons_zero, List.set_cons_succ])
            have H' := Blk.new w8 34 #[.bool false, .slice none 0 0]
            have Hn : we.heap.size ≤ w8.heap.size := D.size
            have hne : Gg ≠ w8.heap.size := Nat.ne_of_lt G.lt
            have G := G.alloc (.cells #[.bool false, .slice none 0 0] 34)
            have D1 : Below we.heap.size we (w8.alloc (.cells #[.bool false, .slice none 0 0] 34)) := D.alloc D.size (.cells #[.bool false, .slice none 0 0] 34)
            clear D
            have D := D1
            clear D1
            obtain ⟨w9, hw9⟩ : ∃ w9, w8.alloc (.cells #[.bool false, .slice none 0 0] 34) = w9 := ⟨_, rfl⟩
            obtain ⟨Hg, hHg⟩ : ∃ Hg, w8.heap.size = Hg := ⟨_, rfl⟩
            rw [hw9] at H' D G hHeld ⊢
            rw [hHg] at H' Hn hne ⊢
            have H := H'
            clear H' hw9 hHg
            (refine wpAnyL_one (i := 4) (o := _) (by kernel_rfl) rfl (fun K hK => ?_); clear hHeld; simp only [List.getElem_toArray, List.getElem_cons_zero, List.getElem_cons_succ]; go_simp; (go_at_call 48; (with_reducible refine (HP.out _).mono ?_); rintro e w3 ⟨_, rfl, ⟨b1, A1, n1, c1, rfl, hp0⟩, hb⟩; have hp := hp0.zl; have D := D.trans (hb.mono D.size); have G := G.below hb G.lt; have H := H.below hb H.lt); refine hK.out _ _ ?_ (fun hHeld => ?_); focus (intro _; exact KQ.out _ D)); have hHeld := hHeld (by decide); clear hK K; (try simp only [Act.put, List.setIfInBounds_toArray, List.set_cons_zero, List.set_cons_succ])
            (refine wpAnyL_one (i := 5) (o := _) (by kernel_rfl) rfl (fun K hK => ?_); clear hHeld; simp only [List.getElem_toArray, List.getElem_cons_zero, List.getElem_cons_succ]; go_simp; (go_at_call 52; (with_reducible refine (DZ.out _ _ _ (VQ.out _ D) hp.v).mono ?_); rintro e w4 ⟨_, _, rfl, ⟨bq, Aq, nq, cq, rfl, hq⟩, ⟨br', Ar, nr, cr, rfl, hr⟩, hb⟩; have D := D.trans (hb.mono D.size); have G := G.below hb G.lt; have H := H.below hb H.lt); refine hK.out _ _ ?_ (fun hHeld => ?_); focus (intro _; exact KQ.out _ D)); have hHeld := hHeld (by decide); clear hK K; (try simp only [Act.put, List.setIfInBounds_toArray, List.set_cons_zero, List.set_cons_succ])
            (refine wpAnyL_take (i := 6) (oi := _) (v := ?_) rfl (by kernel_rfl) (by kernel_rfl) (by kernel_rfl) (fun _ _ _ h => h) (Or.inl ⟨by first | rfl | kernel_rfl, ?hy26⟩) (by assumption) ?rs26; (case hy26 => (intro w hSw; (try dsimp only at hSw); go_simp; first | done | with_reducible rfl)); case' rs26 => (simp only [List.getElem_toArray, List.getElem_cons_zero, List.getElem_cons_succ, Act.put, List.setIfInBounds_toArray, List.set_cons_zero, List.set_cons_succ])); (refine wpAnyL_take (i := 7) (oi := _) (v := ?_) rfl (by kernel_rfl) (by kernel_rfl) (by kernel_rfl) (fun _ _ _ h => h) (Or.inl ⟨by first | rfl | kernel_rfl, ?hy27⟩) (by assumption) ?rs27; (case hy27 => (intro w hSw; (try dsimp only at hSw); go_simp; first | done | with_reducible rfl)); case' rs27 => (simp only [List.getElem_toArray, List.getElem_cons_zero, List.getElem_cons_succ, Act.put, List.setIfInBounds_toArray, List.set_cons_zero, List.set_cons_succ])); (refine wpAnyL_take (i := 8) (oi := _) (v := ?_) rfl (by kernel_rfl) (by kernel_rfl) (by kernel_rfl) (fun _ _ _ h => h) (Or.inl ⟨by first | rfl | kernel_rfl, ?hy28⟩) (by assumption) ?rs28; (case hy28 => (intro w hSw; (try dsimp only at hSw); go_simp; first | done | with_reducible rfl)); case' rs28 => (simp only [List.getElem_toArray, List.getElem_cons_zero, List.getElem_cons_succ, Act.put, List.setIfInBounds_toArray, List.set_cons_zero, List.set_cons_succ])); skip
            have X := Lib.hid (qd_set D Gn Hn hne G H hq hr)
            have D10 := below_set2 D Gn (.bool bq) (.slice Aq nq cq)
            have D11 := below_set2 D10 Hn (.bool br') (.slice Ar nr cr)
            have H1 := H.far2 (hne).symm (.bool bq) (.slice Aq nq cq)
            have g0 := G.at_ 0 rfl; have g1 := G.at_ 1 rfl; have f0 := G.frozen 0; have f1 := G.frozen 1; have h0 := H1.at_ 0 rfl; have h1 := H1.at_ 1 rfl; have f2 := H1.frozen 0; have f3 := H1.frozen 1
            have D10 := Lib.hid D10; have D11 := Lib.hid D11
            clear G H H1 D hq hr hp
            (refine wpAnyL_one (i := 11) (o := _) (by kernel_rfl) rfl (fun K hK => ?_); clear hHeld; simp only [List.getElem_toArray, List.getElem_cons_zero, List.getElem_cons_succ]; go_simp; refine hK.out _ _ ?_ (fun hHeld => ?_); focus (intro _; exact KQ.out _ D10.out)); have hHeld := hHeld (by decide); clear hK K; (try simp only [Act.put, List.setIfInBounds_toArray, List.set_cons_zero, List.set_cons_succ])
            (refine wpAnyL_one (i := 12) (o := _) (by kernel_rfl) rfl (fun K hK => ?_); clear hHeld; simp only [List.getElem_toArray, List.getElem_cons_zero, List.getElem_cons_succ]; go_simp; refine hK.out _ _ ?_ (fun hHeld => ?_); focus (intro _; exact KQ.out _ D11.out)); have hHeld := hHeld (by decide); clear hK K; (try simp only [Act.put, List.setIfInBounds_toArray, List.set_cons_zero, List.set_cons_succ])
            refine wpAnyL_done (by kernel_rfl) ?_ _
            go_wp2
            go_meet
            exact X.out
    · as_aux_lemma =>
        (clear hHeld; simp only [List.getElem_toArray, List.getElem_cons_zero, List.getElem_cons_succ]; go_simp; refine hK.out _ _ ?_ (fun hHeld => ?_); focus (intro _; exact KQ.out _ (D.alloc D.size _))); have hHeld := hHeld (by decide); clear hK K; (try simp only [Act.put, List.setIfInBounds_toArray, List.set_cons_zero, List.set_cons_succ])
        have H' := Blk.drew (Blk.new W1 34 #[.bool false, .slice none 0 0])
        have Hn : we.heap.size ≤ W1.heap.size := D.size
        have D1 : Below we.heap.size we ((W1.alloc (.cells #[.bool false, .slice none 0 0] 34)).drew) := (D.alloc D.size (.cells #[.bool false, .slice none 0 0] 34))
        clear D
        have D := D1
        clear D1
        obtain ⟨w9, hw9⟩ : ∃ w9, (W1.alloc (.cells #[.bool false, .slice none 0 0] 34)).drew = w9 := ⟨_, rfl⟩
        obtain ⟨Hg, hHg⟩ : ∃ Hg, W1.heap.size = Hg := ⟨_, rfl⟩
        rw [hw9] at H' D hHeld ⊢
        rw [hHg] at H' Hn ⊢
        have H := H'
        clear H' hw9 hHg
        refine wpAnyL_two (i := 4) (j := 9) (oi := _) (oj := _) (by kernel_rfl) rfl rfl (fun K hK => ?_) (fun K hK => ?_)
        · as_aux_lemma =>
            (clear hHeld; simp only [List.getElem_toArray, List.getElem_cons_zero, List.getElem_cons_succ]; go_simp; (go_at_call 48; (with_reducible refine (HP.out _).mono ?_); rintro e w3 ⟨_, rfl, ⟨b1, A1, n1, c1, rfl, hp0⟩, hb⟩; have hp := hp0.zl; have D := D.trans (hb.mono D.size); have H := H.below hb H.lt); refine hK.out _ _ ?_ (fun hHeld => ?_); focus (intro _; exact KQ.out _ D)); have hHeld := hHeld (by decide); clear hK K; (try simp only [Act.put, List.setIfInBounds_toArray, List.set_cons_zero, List.set_cons_succ])
            refine wpAnyL_two (i := 5) (j := 9) (oi := _) (oj := _) (by kernel_rfl) rfl rfl (fun K hK => ?_) (fun K hK => ?_)
            · as_aux_lemma =>
                (clear hHeld; simp only [List.getElem_toArray, List.getElem_cons_zero, List.getElem_cons_succ]; go_simp; (go_at_call 52; (with_reducible refine (DZ.out _ _ _ (VQ.out _ D) hp.v).mono ?_); rintro e w4 ⟨_, _, rfl, ⟨bq, Aq, nq, cq, rfl, hq⟩, ⟨br', Ar, nr, cr, rfl, hr⟩, hb⟩; have D := D.trans (hb.mono D.size); have H := H.below hb H.lt); refine hK.out _ _ ?_ (fun hHeld => ?_); focus (intro _; exact KQ.out _ D)); have hHeld := hHeld (by decide); clear hK K; (try simp only [Act.put, List.setIfInBounds_toArray, List.set_cons_zero, List.set_cons_succ])
                (refine wpAnyL_take (i := 6) (oi := _) (v := ?_) rfl (by kernel_rfl) (by kernel_rfl) (by kernel_rfl) (fun _ _ _ h => h) (Or.inl ⟨by first | rfl | kernel_rfl, ?hy29⟩) (by assumption) ?rs29; (case hy29 => (intro w hSw; (try dsimp only at hSw); go_simp; first | done | with_reducible rfl)); case' rs29 => (simp only [List.getElem_toArray, List.getElem_cons_zero, List.getElem_cons_succ, Act.put, List.setIfInBounds_toArray, List.set_cons_zero, List.set_cons_succ])); (refine wpAnyL_take (i := 7) (oi := _) (v := ?_) rfl (by kernel_rfl) (by kernel_rfl) (by kernel_rfl) (fun _ _ _ h => h) (Or.inl ⟨by first | rfl | kernel_rfl, ?hy30⟩) (by assumption) ?rs30; (case hy30 => (intro w hSw; (try dsimp only at hSw); go_simp; first | done | with_reducible rfl)); case' rs30 => (simp only [List.getElem_toArray, List.getElem_cons_zero, List.getElem_cons_succ, Act.put, List.setIfInBounds_toArray, List.set_cons_zero, List.set_cons_succ])); (refine wpAnyL_take (i := 8) (oi := _) (v := ?_) rfl (by kernel_rfl) (by kernel_rfl) (by kernel_rfl) (fun _ _ _ h => h) (Or.inl ⟨by first | rfl | kernel_rfl, ?hy31⟩) (by assumption) ?rs31; (case hy31 => (intro w hSw; (try dsimp only at hSw); go_simp; first | done | with_reducible rfl)); case' rs31 => (simp only [List.getElem_toArray, List.getElem_cons_zero, List.getElem_cons_succ, Act.put, List.setIfInBounds_toArray, List.set_cons_zero, List.set_cons_succ])); skip
                (refine wpAnyL_one (i := 9) (o := _) (by kernel_rfl) rfl (fun K hK => ?_); clear hHeld; simp only [List.getElem_toArray, List.getElem_cons_zero, List.getElem_cons_succ]; go_simp; refine hK.out _ _ ?_ (fun hHeld => ?_); focus (intro _; exact KQ.out _ (D.alloc D.size _))); have hHeld := hHeld (by decide); clear hK K; (try simp only [Act.put, List.setIfInBounds_toArray, List.set_cons_zero, List.set_cons_succ])
                have G' := Blk.new w4 34 #[.bool false, .slice none 0 0]
                have Gn : we.heap.size ≤ w4.heap.size := D.size
                have hne : Hg ≠ w4.heap.size := Nat.ne_of_lt H.lt
                have H := H.alloc (.cells #[.bool false, .slice none 0 0] 34)
                have hq := (hq.alloc (.cells #[.bool false, .slice none 0 0] 34))
                have hr := (hr.alloc (.cells #[.bool false, .slice none 0 0] 34))
                have D1 : Below we.heap.size we (w4.alloc (.cells #[.bool false, .slice none 0 0] 34)) := D.alloc D.size (.cells #[.bool false, .slice none 0 0] 34)
                clear D
                have D := D1
                clear D1
                obtain ⟨w8, hw8⟩ : ∃ w8, w4.alloc (.cells #[.bool false, .slice none 0 0] 34) = w8 := ⟨_, rfl⟩
                obtain ⟨Gg, hGg⟩ : ∃ Gg, w4.heap.size = Gg := ⟨_, rfl⟩
                rw [hw8] at G' D H hq hr hHeld ⊢
                rw [hGg] at G' Gn hne ⊢
                have G := G'
                clear G' hw8 hGg
                have X := Lib.hid (qd_set D Gn Hn hne.symm G H hq hr)
                have D10 := below_set2 D Gn (.bool bq) (.slice Aq nq cq)
                have D11 := below_set2 D10 Hn (.bool br') (.slice Ar nr cr)
                have H1 := H.far2 (hne.symm).symm (.bool bq) (.slice Aq nq cq)
                have g0 := G.at_ 0 rfl; have g1 := G.at_ 1 rfl; have f0 := G.frozen 0; have f1 := G.frozen 1; have h0 := H1.at_ 0 rfl; have h1 := H1.at_ 1 rfl; have f2 := H1.frozen 0; have f3 := H1.frozen 1
                have D10 := Lib.hid D10; have D11 := Lib.hid D11
                clear G H H1 D hq hr hp
                (refine wpAnyL_one (i := 11) (o := _) (by kernel_rfl) rfl (fun K hK => ?_); clear hHeld; simp only [List.getElem_toArray, List.getElem_cons_zero, List.getElem_cons_succ]; go_simp; refine hK.out _ _ ?_ (fun hHeld => ?_); focus (intro _; exact KQ.out _ D10.out)); have hHeld := hHeld (by decide); clear hK K; (try simp only [Act.put, List.setIfInBounds_toArray, List.set_cons_zero, List.set_cons_succ])
                (refine wpAnyL_one (i := 12) (o := _) (by kernel_rfl) rfl (fun K hK => ?_); clear hHeld; simp only [List.getElem_toArray, List.getElem_cons_zero, List.getElem_cons_succ]; go_simp; refine hK.out _ _ ?_ (fun hHeld => ?_); focus (intro _; exact KQ.out _ D11.out)); have hHeld := hHeld (by decide); clear hK K; (try simp only [Act.put, List.setIfInBounds_toArray, List.set_cons_zero, List.set_cons_succ])
                refine wpAnyL_done (by kernel_rfl) ?_ _
                go_wp2
                go_meet
                exact X.out
            · as_aux_lemma =>
                (clear hHeld; simp only [List.getElem_toArray, List.getElem_cons_zero, List.getElem_cons_succ]; go_simp; refine hK.out _ _ ?_ (fun hHeld => ?_); focus (intro _; exact KQ.out _ (D.alloc D.size _))); have hHeld := hHeld (by decide); clear hK K; (try simp only [Act.put, List.setIfInBounds_toArray, List.set_cons_zero, List.set_cons_succ])
                have G' := Blk.new w3 34 #[.bool false, .slice none 0 0]
                have Gn : we.heap.size ≤ w3.heap.size := D.size
                have hne : Hg ≠ w3.heap.size := Nat.ne_of_lt H.lt
                have H := H.alloc (.cells #[.bool false, .slice none 0 0] 34)
                have hp := (hp.alloc (.cells #[.bool false, .slice none 0 0] 34))
                have D1 : Below we.heap.size we (w3.alloc (.cells #[.bool false, .slice none 0 0] 34)) := D.alloc D.size (.cells #[.bool false, .slice none 0 0] 34)
                clear D
                have D := D1
                clear D1
                obtain ⟨w8, hw8⟩ : ∃ w8, w3.alloc (.cells #[.bool false, .slice none 0 0] 34) = w8 := ⟨_, rfl⟩
                obtain ⟨Gg, hGg⟩ : ∃ Gg, w3.heap.size = Gg := ⟨_, rfl⟩
                rw [hw8] at G' D H hp hHeld ⊢
                rw [hGg] at G' Gn hne ⊢
                have G := G'
                clear G' hw8 hGg
                (refine wpAnyL_one (i := 5) (o := _) (by kernel_rfl) rfl (fun K hK => ?_); clear hHeld; simp only [List.getElem_toArray, List.getElem_cons_zero, List.getElem_cons_succ]; go_simp; (go_at_call 52; (with_reducible refine (DZ.out _ _ _ (VQ.out _ D) hp.v).mono ?_); rintro e w4 ⟨_, _, rfl, ⟨bq, Aq, nq, cq, rfl, hq⟩, ⟨br', Ar, nr, cr, rfl, hr⟩, hb⟩; have D := D.trans (hb.mono D.size); have G := G.below hb G.lt; have H := H.below hb H.lt); refine hK.out _ _ ?_ (fun hHeld => ?_); focus (intro _; exact KQ.out _ D)); have hHeld := hHeld (by decide); clear hK K; (try simp only [Act.put, List.setIfInBounds_toArray, List.set_cons_zero, List.set_cons_succ])
                (refine wpAnyL_take (i := 6) (oi := _) (v := ?_) rfl (by kernel_rfl) (by kernel_rfl) (by kernel_rfl) (fun _ _ _ h => h) (Or.inl ⟨by first | rfl | kernel_rfl, ?hy32⟩) (by assumption) ?rs32; (case hy32 => (intro w hSw; (try dsimp only at hSw); go_simp; first | done | with_reducible rfl)); case' rs32 => (simp only [List.getElem_toArray, List.getElem_cons_zero, List.getElem_cons_succ, Act.put, List.setIfInBounds_toArray, List.set_cons_zero, List.set_cons_succ])); (refine wpAnyL_take (i := 7) (oi := _) (v := ?_) rfl (by kernel_rfl) (by kernel_rfl) (by kernel_rfl) (fun _ _ _ h => h) (Or.inl ⟨by first | rfl | kernel_rfl, ?hy33⟩) (by assumption) ?rs33; (case hy33 => (intro w hSw; (try dsimp only at hSw); go_simp; first | done | with_reducible rfl)); case' rs33 => (simp only [List.getElem_toArray, List.getElem_cons_zero, List.getElem_cons_succ, Act.put, List.setIfInBounds_toArray, List.set_cons_zero, List.set_cons_succ])); (refine wpAnyL_take (i := 8) (oi := _) (v := ?_) rfl (by kernel_rfl) (by kernel_rfl) (by kernel_rfl) (fun _ _ _ h => h) (Or.inl ⟨by first | rfl | kernel_rfl, ?hy34⟩) (by assumption) ?rs34; (case hy34 => (intro w hSw; (try dsimp only at hSw); go_simp; first | done | with_reducible rfl)); case' rs34 => (simp only [List.getElem_toArray, List.getElem_cons_zero, List.getElem_cons_succ, Act.put, List.setIfInBounds_toArray, List.set_cons_zero, List.set_cons_succ])); skip
                have X := Lib.hid (qd_set D Gn Hn hne.symm G H hq hr)
                have D10 := below_set2 D Gn (.bool bq) (.slice Aq nq cq)
                have D11 := below_set2 D10 Hn (.bool br') (.slice Ar nr cr)
                have H1 := H.far2 (hne.symm).symm (.bool bq) (.slice Aq nq cq)
                have g0 := G.at_ 0 rfl; have g1 := G.at_ 1 rfl; have f0 := G.frozen 0; have f1 := G.frozen 1; have h0 := H1.at_ 0 rfl; have h1 := H1.at_ 1 rfl; have f2 := H1.frozen 0; have f3 := H1.frozen 1
                have D10 := Lib.hid D10; have D11 := Lib.hid D11
                clear G H H1 D hq hr hp
                (refine wpAnyL_one (i := 11) (o := _) (by kernel_rfl) rfl (fun K hK => ?_); clear hHeld; simp only [List.getElem_toArray, List.getElem_cons_zero, List.getElem_cons_succ]; go_simp; refine hK.out _ _ ?_ (fun hHeld => ?_); focus (intro _; exact KQ.out _ D10.out)); have hHeld := hHeld (by decide); clear hK K; (try simp only [Act.put, List.setIfInBounds_toArray, List.set_cons_zero, List.set_cons_succ])
                (refine wpAnyL_one (i := 12) (o := _) (by kernel_rfl) rfl (fun K hK => ?_); clear hHeld; simp only [List.getElem_toArray, List.getElem_cons_zero, List.getElem_cons_succ]; go_simp; refine hK.out _ _ ?_ (fun hHeld => ?_); focus (intro _; exact KQ.out _ D11.out)); have hHeld := hHeld (by decide); clear hK K; (try simp only [Act.put, List.setIfInBounds_toArray, List.set_cons_zero, List.set_cons_succ])
                refine wpAnyL_done (by kernel_rfl) ?_ _
                go_wp2
                go_meet
                exact X.out
        · as_aux_lemma =>
            (clear hHeld; simp only [List.getElem_toArray, List.getElem_cons_zero, List.getElem_cons_succ]; go_simp; refine hK.out _ _ ?_ (fun hHeld => ?_); focus (intro _; exact KQ.out _ (D.alloc D.size _))); have hHeld := hHeld (by decide); clear hK K; (try simp only [Act.put, List.setIfInBounds_toArray, List.set_cons_zero, List.set_cons_succ])
            have G' := Blk.new w9 34 #[.bool false, .slice none 0 0]
            have Gn : we.heap.size ≤ w9.heap.size := D.size
            have hne : Hg ≠ w9.heap.size := Nat.ne_of_lt H.lt
            have H := H.alloc (.cells #[.bool false, .slice none 0 0] 34)
            have D1 : Below we.heap.size we (w9.alloc (.cells #[.bool false, .slice none 0 0] 34)) := D.alloc D.size (.cells #[.bool false, .slice none 0 0] 34)
            clear D
            have D := D1
            clear D1
            obtain ⟨w8, hw8⟩ : ∃ w8, w9.alloc (.cells #[.bool false, .slice none 0 0] 34) = w8 := ⟨_, rfl⟩
            obtain ⟨Gg, hGg⟩ : ∃ Gg, w9.heap.size = Gg := ⟨_, rfl⟩
            rw [hw8] at G' D H hHeld ⊢
            rw [hGg] at G' Gn hne ⊢
            have G := G'
            clear G' hw8 hGg
            (refine wpAnyL_one (i := 4) (o := _) (by kernel_rfl) rfl (fun K hK => ?_); clear hHeld; simp only [List.getElem_toArray, List.getElem_cons_zero, List.getElem_cons_succ]; go_simp; (go_at_call 48; (with_reducible refine (HP.out _).mono ?_); rintro e w3 ⟨_, rfl, ⟨b1, A1, n1, c1, rfl, hp0⟩, hb⟩; have hp := hp0.zl; have D := D.trans (hb.mono D.size); have G := G.below hb G.lt; have H := H.below hb H.lt); refine hK.out _ _ ?_ (fun hHeld => ?_); focus (intro _; exact KQ.out _ D)); have hHeld := hHeld (by decide); clear hK K; (try simp only [Act.put, List.setIfInBounds_toArray, List.set_cons_zero, List.set_cons_succ])
            (refine wpAnyL_one (i := 5) (o := _) (by kernel_rfl) rfl (fun K hK => ?_); clear hHeld; simp only [List.getElem_toArray, List.getElem_cons_zero, List.getElem_cons_succ]; go_simp; (go_at_call 52; (with_reducible refine (DZ.out _ _ _ (VQ.out _ D) hp.v).mono ?_); rintro e w4 ⟨_, _, rfl, ⟨bq, Aq, nq, cq, rfl, hq⟩, ⟨br', Ar, nr, cr, rfl, hr⟩, hb⟩; have D := D.trans (hb.mono D.size); have G := G.below hb G.lt; have H := H.below hb H.lt); refine hK.out _ _ ?_ (fun hHeld => ?_); focus (intro _; exact KQ.out _ D)); have hHeld := hHeld (by decide); clear hK K; (try simp only [Act.put, List.setIfInBounds_toArray, List.set_cons_zero, List.set_cons_succ])
            (refine wpAnyL_take (i := 6) (oi := _) (v := ?_) rfl (by kernel_rfl) (by kernel_rfl) (by kernel_rfl) (fun _ _ _ h => h) (Or.inl ⟨by first | rfl | kernel_rfl, ?hy35⟩) (by assumption) ?rs35; (case hy35 => (intro w hSw; (try dsimp only at hSw); go_simp; first | done | with_reducible rfl)); case' rs35 => (simp only [List.getElem_toArray, List.getElem_cons_zero, List.getElem_cons_succ, Act.put, List.setIfInBounds_toArray, List.set_cons_zero, List.set_cons_succ])); (refine wpAnyL_take (i := 7) (oi := _) (v := ?_) rfl (by kernel_rfl) (by kernel_rfl) (by kernel_rfl) (fun _ _ _ h => h) (Or.inl ⟨by first | rfl | kernel_rfl, ?hy36⟩) (by assumption) ?rs36; (case hy36 => (intro w hSw; (try dsimp only at hSw); go_simp; first | done | with_reducible rfl)); case' rs36 => (simp only [List.getElem_toArray, List.getElem_cons_zero, List.getElem_cons_succ, Act.put, List.setIfInBounds_toArray, List.set_cons_zero, List.set_cons_succ])); (refine wpAnyL_take (i := 8) (oi := _) (v := ?_) rfl (by kernel_rfl) (by kernel_rfl) (by kernel_rfl) (fun _ _ _ h => h) (Or.inl ⟨by first | rfl | kernel_rfl, ?hy37⟩) (by assumption) ?rs37; (case hy37 => (intro w hSw; (try dsimp only at hSw); go_simp; first | done | with_reducible rfl)); case' rs37 => (simp only [List.getElem_toArray, List.getElem_cons_zero, List.getElem_cons_succ, Act.put, List.setIfInBounds_toArray, List.set_cons_zero, List.set_cons_succ])); skip
            have X := Lib.hid (qd_set D Gn Hn hne.symm G H hq hr)
            have D10 := below_set2 D Gn (.bool bq) (.slice Aq nq cq)
            have D11 := below_set2 D10 Hn (.bool br') (.slice Ar nr cr)
            have H1 := H.far2 (hne.symm).symm (.bool bq) (.slice Aq nq cq)
            have g0 := G.at_ 0 rfl; have g1 := G.at_ 1 rfl; have f0 := G.frozen 0; have f1 := G.frozen 1; have h0 := H1.at_ 0 rfl; have h1 := H1.at_ 1 rfl; have f2 := H1.frozen 0; have f3 := H1.frozen 1
            have D10 := Lib.hid D10; have D11 := Lib.hid D11
            clear G H H1 D hq hr hp
            (refine wpAnyL_one (i := 11) (o := _) (by kernel_rfl) rfl (fun K hK => ?_); clear hHeld; simp only [List.getElem_toArray, List.getElem_cons_zero, List.getElem_cons_succ]; go_simp; refine hK.out _ _ ?_ (fun hHeld => ?_); focus (intro _; exact KQ.out _ D10.out)); have hHeld := hHeld (by decide); clear hK K; (try simp only [Act.put, List.setIfInBounds_toArray, List.set_cons_zero, List.set_cons_succ])
            (refine wpAnyL_one (i := 12) (o := _) (by kernel_rfl) rfl (fun K hK => ?_); clear hHeld; simp only [List.getElem_toArray, List.getElem_cons_zero, List.getElem_cons_succ]; go_simp; refine hK.out _ _ ?_ (fun hHeld => ?_); focus (intro _; exact KQ.out _ D11.out)); have hHeld := hHeld (by decide); clear hK K; (try simp only [Act.put, List.setIfInBounds_toArray, List.set_cons_zero, List.set_cons_succ])
            refine wpAnyL_done (by kernel_rfl) ?_ _
            go_wp2
            go_meet
            exact X.out
  case rest =>
    obtain ⟨g, h, bq, Aq, nq, cq, br, Ar, nr', cr, rfl, rfl, hg, hh, hne, G, H, hq, hr, DC⟩ := hcut
    clear D
    have q0 := G.at_ 0 rfl
    have q1 := G.at_ 1 rfl
    obtain ⟨-, RR, DD⟩ := KB1.out _ DC
    have r0 := RR.at_ 0 rfl; have r1 := RR.at_ 1 rfl; have f0 := RR.frozen 0; have f1 := RR.frozen 1
    have E2 := Lib.hid (RR.set2 (.bool bq) (.slice Aq nq cq))
    have ZZ := Lib.hid (ZC.ZL.box hq (RR.at_ 0 rfl) (RR.at_ 1 rfl) (.bool bq) (.slice Aq nq cq))
    have DD2 := Lib.hid (below_set2 DD (Nat.le_refl _) (.bool bq) (.slice Aq nq cq))
    clear G H hr hq DC RR DD PW DZ0 KB1 VQ1 hg hh hne
    go_wp2
    have c0 := E2.out.at_ 0 rfl
    have c1 := E2.out.at_ 1 rfl
    refine bodyPost_ret (v := .tuple #[.agg #[.bool bq, .slice Aq nq cq], .bool l]) (by simp [results, Tryd.results19, go_sem, c0, c1]) rfl ?_
    exact ⟨_, _, _, _, rfl, ZZ.out, DD2.out⟩
end QC
end Go.Proofs.YtpmpkllpaceloaaDoor
