/-
  The document's own word for expansions: PartsRight.
-/
import Derived.Test.YtelblhgagpkjmaaGreatDoorXG14
import Derived.Test.YtelblhgagpkjmaaGreatDoorXG8
namespace Go.Proofs.YtelblhgagpkjmaaGreatDoor
set_option linter.unusedVariables false
set_option linter.unusedSimpArgs false
open Go.RowKit
set_option linter.unusedVariables false
set_option linter.unusedSimpArgs false
namespace XC
open Z (Nz Tz cmpv big)
open ZC DC RC QC SC VC PC
theorem low_exp {z y t : Int} {N : Nat} {x : Int} (fx : fi x) (hs : sc z (-t) = val x) (ht : 0 ≤ t ∧ t ≤ 1100) (hT : Tw z y N) (hy : y % 2 ≠ 0) : (N : Int) - t = lowx x := by
  obtain ⟨h1, -⟩ := hT
  have e : sc z (-t) = sc y (N - t) := by
    rw [h1, sc_shift y (-t) N (by omega)]
    congr 1; omega
  have g := (of_fit fx).2
  have hv : val x = sc (OfD x).d.m (OfD x).d.x := rfl
  have := sc_inj (e.symm.trans (hs.trans hv)) (.inr (by omega)) g.ok.2.1 (by omega) (by have := g.x; omega)
  exact this.2
/-- one number of an expansion -/
def pAt (L : List Int) (k : Nat) : Prop := (OfD (L.getD k 0)).d.m ≠ 0 ∧ ∀ j, j + 1 = k → topx (L.getD j 0) < lowx (L.getD k 0)
theorem gCk_3 {L : List Int} {k : Nat} (hl : L.length ≤ 60) (hf : ∀ x ∈ L, fi x) (hk : k < L.length) (h : ¬ pAt L k) : gCk L = 3 := by
  unfold gCk
  rw [if_neg (by omega), if_neg (fun ⟨x, hx, q⟩ => (hf x hx).2.2 q), if_neg]
  intro hX
  have := isX_at.1 hX k hk
  exact h ⟨this.2.1, this.2.2⟩
theorem gCk_all {L : List Int} (hl : L.length ≤ 60) (hf : ∀ x ∈ L, fi x) (h : ∀ k, k < L.length → pAt L k) : gCk L = 0 := by
  refine gCk_0.2 ⟨hl, isX_at.2 fun k hk => ⟨?_, (h k hk).1, (h k hk).2⟩⟩
  rw [List.getD_eq_getElem?_getD, List.getElem?_eq_getElem hk]
  exact hf _ (List.getElem_mem _)
theorem gCk_4 {L : List Int} (hl : L.length ≤ 60) (h : ∃ x ∈ L, F.exq x = 2047) : gCk L = 4 := by
  unfold gCk
  rw [if_neg (by omega), if_pos h]
theorem qres_set {M T : Nat} {W : World} {g : Nat} {b A n c} {t s : Int} (h : QS M T W (.agg #[.bool b, .slice A n c, .int .i64 t]) s) (R : Blk W g 41 #[.bool false, .slice none 0 0, .int .i64 0]) :
    QS M T (((W.setCell ⟨g, 0, none⟩ (.bool b)).setCell ⟨g, 1, none⟩ (.slice A n c)).setCell ⟨g, 2, none⟩ (.int .i64 t)) (.agg #[.bool b, .slice A n c, .int .i64 t]) s := by
  obtain ⟨z, t', ⟨b', A', n', c', e, hz⟩, k1, k2, k3, k4⟩ := h
  injection e with e
  simp at e
  obtain ⟨rfl, ⟨rfl, rfl, rfl⟩, rfl⟩ := e
  exact ⟨z, t, ⟨b, A, n, c, rfl, set3 hz (off_q hz R) _ _ _⟩, k1, k2, k3, k4⟩
set_option maxRecDepth 100000 in
set_option maxHeartbeats 16000000 in
theorem PartsRight_c {M : Nat} (hM : M = 2400) (A0 : Option Addr) (n c : Nat) (L : List Int) (w : World) (hs : Sl .u64 w (.slice A0 n c) L) (hu : u64s L) (hl : L.length ≤ 9223372036854775807) :
    Calls Tryz.prog 8 #[.slice A0 n c] w (DC.RetB w (.int .i64 (gCk L))) := by
  have hn := sl_len hs
  have D0 := Lib.hid (Below.refl w.heap.size w)
  obtain ⟨r, hr⟩ : ∃ r, r = gCk L := ⟨_, rfl⟩
  rw [← hr]
  by_cases hl6 : 60 < n
  · have e : r = 2 := by rw [hr]; unfold gCk; rw [if_pos (by omega)]
    subst e
    have h6 : (n : Int) > 60 := by omega
    clear hr hs hu hn hl6 hM
    go_enter Tryz.func8, Tryz.ntmps8
    go_wp2
    go_ret
    exact ⟨rfl, D0.out⟩
  · have h6 : ¬ (n : Int) > 60 := by omega
    have HS : Hid (∀ W : World, Below w.heap.size w W → Sl .u64 W (.slice A0 n c) L) := fun W h => hs.below h
    have HU := Lib.hid hu
    have HN := Lib.hid hn
    have H6 : Hid (L.length ≤ 60) := (show _ ≤ _ by omega)
    have HR := Lib.hid hr
    have HV : Hid (∀ (W : World) (x : Int), x ∈ L → Calls Tryz.prog 14 #[.int .u64 x] W (fun e w' => e = .returned (.bool (!decide (F.exq x = 2047))) ∧ W = w')) := fun W x hx => GC.HasVal_c x W (hu x hx)
    have IZ : Hid (∀ (W : World) (x : Int), x ∈ L → Calls Tryz.prog 24 #[.int .u64 x] W fun e w' => e = .returned (.bool (F.cls x == 1)) ∧ W = w') := fun W x hx => GC.IsZero_c x (hu x hx).1 (hu x hx).2 W
    have QV : Hid (∀ (W : World) (x : Int), fi x → Calls Tryz.prog 25 #[.int .u64 x] W (RetSF 2200 1100 W (val x))) := fun W x h => GC.QVal_m rfl x W h
    have QB : Hid (∀ (W : World) (u : Value) (x : Int), fi x → QS 2200 1100 W u (val x) → Calls Tryz.prog 29 #[u] W (RetS 2200 1100 W (sz x))) := fun W u x hx h => by
      have := GC.QAbs_s h
      rwa [(val_sz hx).1] at this
    have NN : Hid (∀ W, Calls Tryz.prog 28 #[.int .i64 1] W (RetZ W 1)) := fun W => N_c 1 (by omega) (by omega) W
    have QP : Hid (∀ (W : World) (v : Value) (k : Int), ZV W v 1 → -1200 ≤ k → k ≤ 1032 → Calls Tryz.prog 27 #[v, .int .i64 k] W (RetS M 1200 W (sc 1 k))) := fun W v k h h0 h1 => GC.QPow_s hM v k W h h0 h1
    have CQ : Hid (∀ (W : World) (u v : Value) (s s' : Int), QS 2200 1100 W u s → QS M 1200 W v s' → Calls Tryz.prog 13 #[u, v] W fun e w' => e = .returned (.int .i64 (cmpv s s')) ∧ Below W.heap.size W w') := fun W u v s s' h h' => QCmp_s h h' (by omega) (by omega) (by omega) (by omega)
    clear hr hs hu hn hl hM hl6
    go_enter Tryz.func8, Tryz.ntmps8
    go_wp2
    go_loop [16] (fun i => ∃ k : Nat, k ≤ n ∧ i = .int .i64 k ∧ Hid (∀ x ∈ L.take k, ¬ F.exq x = 2047)) (fun i => n - (intOf i).toNat)
    case atStart => exact ⟨0, by omega, rfl, by show ∀ _, _; simp⟩
    case round =>
      obtain ⟨k, hk, rfl, hz⟩ := hrel
      by_cases hkx : k < n
      · obtain ⟨ad, c', e, hc', hb, hcell⟩ := (HS.out _ D0.out).at_ k (by rw [← HN.out]; exact hkx)
        injection e with e1 e2 e3
        subst e1
        clear e2 e3 hc' c' hb
        obtain ⟨q, hq⟩ : ∃ q, L.getD k 0 = q := ⟨_, rfl⟩
        have hg : L[k]? = some q := by rw [← hq, List.getD_eq_getElem?_getD, List.getElem?_eq_getElem (by rw [← HN.out]; exact hkx)]; rfl
        have hm : q ∈ L := List.mem_of_getElem? hg
        have HQ := Lib.hid (HV.out w q hm)
        rw [hq] at hcell
        clear hq
        by_cases h0 : F.exq q = 2047
        · have e4 : r = 4 := by rw [HR.out]; exact gCk_4 H6.out ⟨q, hm, h0⟩
          rw [decide_eq_true h0] at HQ
          subst e4
          clear h0 hg hm
          go_wp2_with (go_at_call 14; (with_reducible refine (HQ.out).mono ?_); rintro e w2 ⟨rfl, rfl⟩)
          go_ret
          exact ⟨rfl, D0.out⟩
        · rw [decide_eq_false h0] at HQ
          have HZ2 : Hid (∀ x ∈ L.take (k + 1), ¬ F.exq x = 2047) := by
            show ∀ _, _
            intro x hx
            rw [List.take_add_one, hg] at hx
            rcases List.mem_append.1 hx with hx | hx
            · exact hz.out x hx
            · simp at hx; subst hx; exact h0
          clear h0 hg hm
          go_wp2_with (go_at_call 14; (with_reducible refine (HQ.out).mono ?_); rintro e w2 ⟨rfl, rfl⟩)
          go_round
          case rel => exact ⟨k + 1, by omega, by simp, HZ2.out⟩
          case measure => simp [intOf]; omega
      · obtain rfl : n = k := by omega
        have F1 : Hid (∀ x ∈ L, fi x) := fun x hx => ⟨(HU.out x hx).1, (HU.out x hx).2, hz.out x (by rw [List.take_of_length_le (by rw [← HN.out]; omega)]; exact hx)⟩
        clear hz hkx hk
        go_wp2
        go_loopw [26] (fun iv wr => ∃ k : Nat, k ≤ n ∧ iv = .int .i64 k ∧ Hid (∀ j, j < k → pAt L j) ∧ Hid (Below w.heap.size w wr)) (fun iv _ => n - (intOf iv).toNat)
        case atStart => exact ⟨0, by omega, rfl, fun j hj => by omega, D0.out⟩
        case round =>
          obtain ⟨k, hk, rfl, hP, hD⟩ := hrel
          by_cases hkn : k < n
          · have hkL : k < L.length := by rw [← HN.out]; exact hkn
            obtain ⟨ad, c', e, hc', hb, hcell⟩ := (HS.out _ hD.out).at_ k hkL
            injection e with e1 e2 e3
            subst e1
            clear e2 e3 hc' c' hb
            obtain ⟨x, hx⟩ : ∃ x, L.getD k 0 = x := ⟨_, rfl⟩
            have hg : L[k]? = some x := by rw [← hx, List.getD_eq_getElem?_getD, List.getElem?_eq_getElem hkL]; rfl
            have hm : x ∈ L := List.mem_of_getElem? hg
            have fx := F1.out x hm
            have IZ1 : Hid (∀ W : World, Calls Tryz.prog 24 #[.int .u64 x] W fun e w' => e = .returned (.bool (F.cls x == 1)) ∧ W = w') := fun W => IZ.out W x hm
            have cm := cls_m fx
            rw [hx] at hcell
            have HX := Lib.hid hx
            have FX := Lib.hid fx
            have HKL := Lib.hid hkL
            by_cases h0 : F.cls x = 1
            · have e3 : r = 3 := by rw [HR.out]; exact gCk_3 H6.out F1.out hkL fun q => by rw [pAt, hx] at q; exact q.1 (cm.1 h0)
              rw [show (F.cls x == 1) = true by simp [h0]] at IZ1
              subst e3
              clear h0 cm hg hm hx fx hkL
              go_wp2_with (go_at_call 24; (with_reducible refine (IZ1.out _).mono ?_); rintro e w2 ⟨rfl, rfl⟩)
              go_ret
              exact ⟨rfl, hD.out⟩
            · rw [show (F.cls x == 1) = false by simp [h0]] at IZ1
              have M0 : Hid ((OfD x).d.m ≠ 0) := fun q => h0 (cm.2 q)
              clear h0 cm hg hm hx fx hkL
              by_cases k0 : k = 0
              · have kz : ¬ ((k : Int) > 0) := by omega
                have HP1 : Hid (∀ j, j < k + 1 → pAt L j) := fun j hj => by
                  obtain rfl : j = k := by omega
                  exact ⟨by rw [HX.out]; exact M0.out, fun i hi => by omega⟩
                clear k0
                go_wp2_with (go_at_call 24; (with_reducible refine (IZ1.out _).mono ?_); rintro e w2 ⟨rfl, rfl⟩)
                exact ⟨⟨k + 1, by omega, by simp, HP1.out, hD.out⟩, by simp only [intOf]; omega⟩
              · obtain ⟨j, hj⟩ : ∃ j, k = j + 1 := ⟨k - 1, by omega⟩
                have HJ := Lib.hid hj
                clear k0
                have hjL : j < L.length := by have := HKL.out; omega
                have CJ : Hid (∀ W : World, Below w.heap.size w W → W.cell? (ad.add j) = some (.int .u64 (L.getD j 0))) := fun W h => by
                  obtain ⟨ad', c', e, _, _, h'⟩ := (HS.out W h).at_ j hjL
                  injection e with e1 e2 e3
                  cases e1
                  exact h'
                obtain ⟨y, hy⟩ : ∃ y, L.getD j 0 = y := ⟨_, rfl⟩
                rw [hy] at CJ
                have fy := F1.out y (by rw [← hy, List.getD_eq_getElem?_getD, List.getElem?_eq_getElem hjL]; exact List.getElem_mem _)
                have hmy := (hP.out j (by omega)).1
                rw [hy] at hmy
                have sl := sz_low fy FX.out hmy
                have kp : ((k : Int) > 0) := by omega
                have jw : wrap64 ((k : Int) - 1) = (j : Int) := by unfold wrap64; omega
                have jw2 : IntKind.i64.wrap ((k : Int) - 1) = (j : Int) := by rw [show (k : Int) - 1 = j by omega]; exact IntWalk.i64_in _ (by have := H6.out; omega)
                obtain ⟨lw, hlw⟩ : ∃ lw, lw = lowx x := ⟨_, rfl⟩
                have bl := (of_fit FX.out).2.x
                have tp := top_p FX.out M0.out
                have bl2 : -1200 ≤ lw ∧ lw ≤ 1032 := by
                  rw [hlw]
                  unfold topx at tp
                  unfold lowx
                  omega
                have FY := Lib.hid fy
                have SL := Lib.hid sl
                have HY := Lib.hid hy
                have HLW := Lib.hid hlw
                have BL := Lib.hid bl2
                have kb1 := bl2.1
                have kb2 := bl2.2
                have jn : (j : Int) < (n : Int) := by omega
                clear hy fy hmy sl hlw bl tp bl2 hjL hj
                have ZT : Hid (∀ (W : World) (b : Bool) (A : Option Addr) (n c : Nat) (z : Int), ZL W b A n c z → z ≠ 0 → z.natAbs < 2 ^ 2200 → Calls Tryz.prog 26 #[.agg #[.bool b, .slice A n c]] W fun e w' => ∃ (N : Nat) (y : Int) (b : Bool) (A : Option Addr) (n c : Nat), e = .returned (.tuple #[.int .i64 N, .agg #[.bool b, .slice A n c]]) ∧ ZL w' b A n c y ∧ Tw z y N ∧ N < 2200 ∧ y % 2 ≠ 0 ∧ Below W.heap.size W w') := fun W b A n c z h1 h2 h3 => ZTwos_c b A n c z 2200 W h1 h2 h3 (lt_big h3 (by omega) (by omega)) (by omega)
                go_upto_region 17 with (first
                  | (go_at_call 24; (with_reducible refine (IZ1.out _).mono ?_); rintro e w0 ⟨rfl, rfl⟩)
                  | (go_at_call 25; (with_reducible refine (QV.out _ _ FX.out).mono ?_); rintro e w1 ⟨b1, A1, n1, c1, t1, z1, rfl, hz, k1, k2, k3, k4, hf, hb⟩; have zn : z1 ≠ 0 := (fun q => M0.out (S_m.2 (k4.symm.trans (by rw [q]; exact sc_zero.2 rfl)))); have K1 := Lib.hid (And.intro zn (And.intro k1 (And.intro k2 (And.intro k3 k4)))); have Nv := Lib.hid (Blk.new w1 41 #[.bool b1, .slice A1 n1 c1, .int .i64 t1]); have hz1 := Lib.hid (hz.alloc (.cells #[.bool b1, .slice A1 n1 c1, .int .i64 t1] 41)); have s := hb.alloc hb.size (.cells #[.bool b1, .slice A1 n1 c1, .int .i64 t1] 41); have D := Lib.hid (hD.out.trans (s.mono hD.out.size)); clear hz k1 k2 k3 k4 hf hb zn s)
                  | (go_at_call 26; (with_reducible refine (ZT.out _ _ _ _ _ _ hz1.out K1.out.1 K1.out.2.1).mono ?_); rintro e w2 ⟨N, y2, b2, A2, n2, c2, rfl, hz2, hT2, hN2, hy2, hb⟩; have Nv := Lib.hid (Nv.out.below hb Nv.out.lt); have D := Lib.hid (D.out.trans (hb.mono D.out.size)); have ex := Lib.hid (low_exp FX.out K1.out.2.2.2.2 ⟨K1.out.2.2.1, K1.out.2.2.2.1⟩ hT2 hy2); have bN := Lib.hid hN2; clear hz2 hT2 hN2 hy2 hb hz1))
                have Nv := Nv.out.alloc (.cells #[.bool b2, .slice A2 n2 c2] 39)
                have D3 := D.out.alloc D.out.size (.cells #[.bool b2, .slice A2 n2 c2] 39)
                obtain ⟨W3, hW3⟩ : ∃ W3, w2.alloc (.cells #[.bool b2, .slice A2 n2 c2] 39) = W3 := ⟨_, rfl⟩
                rw [hW3] at Nv D3 ⊢
                obtain ⟨gv, hgv⟩ : ∃ gv, gv = w1.heap.size := ⟨_, rfl⟩
                rw [← hgv] at Nv ⊢
                have D3 := Lib.hid D3
                have KV : Hid (∀ W, Below W3.heap.size W3 W → W.cell? ⟨gv, 2, none⟩ = some (.int .i64 t1)) := fun W h => (Nv.below h Nv.lt).at_ 2 rfl
                have ex1 : (N : Int) - t1 = lw := by rw [HLW.out]; exact ex.out
                have j1 : wrap64 ((N : Int) - t1) = lw := by rw [ex1]; unfold wrap64; omega
                have j2 : IntKind.i64.wrap ((N : Int) - t1) = lw := by rw [ex1]; exact IntWalk.i64_in _ (by omega)
                clear Nv hW3 hgv ex ex1 bN D K1
                have D : Below W3.heap.size W3 W3.drew := (Below.refl _ _).drew
                (refine wp_region_L (S := fun w' => w'.cell? ⟨gv, 2, none⟩ = some (.int .i64 t1)) (nl := 1000000) (by kernel_rfl) ?_ (fun hHeld => ?_); focus (exact KV.out _ D))
                (refine wpAnyL_take (i := 1) (oi := _) (v := ?_) rfl (by kernel_rfl) (by kernel_rfl) (by kernel_rfl) (fun _ _ _ h => h) (Or.inl ⟨by first | rfl | kernel_rfl, ?hy1⟩) (by assumption) ?rs1; (case hy1 => (intro w hSw; (try dsimp only at hSw); go_simp; first | done | with_reducible rfl)); case' rs1 => (simp only [List.getElem_toArray, List.getElem_cons_zero, List.getElem_cons_succ, Act.put, List.setIfInBounds_toArray, List.set_cons_zero, List.set_cons_succ])); (refine wpAnyL_take (i := 2) (oi := _) (v := ?_) rfl (by kernel_rfl) (by kernel_rfl) (by kernel_rfl) (fun _ _ _ h => h) (Or.inl ⟨by first | rfl | kernel_rfl, ?hy2⟩) (by assumption) ?rs2; (case hy2 => (intro w hSw; (try dsimp only at hSw); go_simp; first | done | with_reducible rfl)); case' rs2 => (simp only [List.getElem_toArray, List.getElem_cons_zero, List.getElem_cons_succ, Act.put, List.setIfInBounds_toArray, List.set_cons_zero, List.set_cons_succ])); (refine wpAnyL_take (i := 3) (oi := _) (v := ?_) rfl (by kernel_rfl) (by kernel_rfl) (by kernel_rfl) (fun _ _ _ h => h) (Or.inl ⟨by first | rfl | kernel_rfl, ?hy3⟩) (by assumption) ?rs3; (case hy3 => (intro w hSw; (try dsimp only at hSw); go_simp; first | done | with_reducible rfl)); case' rs3 => (simp only [List.getElem_toArray, List.getElem_cons_zero, List.getElem_cons_succ, Act.put, List.setIfInBounds_toArray, List.set_cons_zero, List.set_cons_succ])); (refine wpAnyL_take (i := 4) (oi := _) (v := ?_) rfl (by kernel_rfl) (by kernel_rfl) (by kernel_rfl) (fun _ _ _ h => h) (Or.inl ⟨by first | rfl | kernel_rfl, ?hy4⟩) (by assumption) ?rs4; (case hy4 => (intro w hSw; (try dsimp only at hSw); go_simp; first | done | with_reducible rfl)); case' rs4 => (simp only [List.getElem_toArray, List.getElem_cons_zero, List.getElem_cons_succ, Act.put, List.setIfInBounds_toArray, List.set_cons_zero, List.set_cons_succ])); skip
                refine wpAnyL_two (i := 0) (j := 6) (oi := _) (oj := _) (by kernel_rfl) rfl rfl (fun K hK => ?_) (fun K hK => ?_)
                · (clear hHeld; simp only [List.getElem_toArray, List.getElem_cons_zero, List.getElem_cons_succ]; go_simp; (go_at_call 28; (with_reducible refine (NN.out _).mono ?_); rintro e v1 ⟨_, rfl, ⟨q1, Q1, m1, d1, rfl, h1⟩, hb1⟩; have D := D.trans (hb1.mono D.size); have hv := h1.1); refine hK.out _ _ ?_ (fun hHeld => ?_); focus (intro _; exact KV.out _ D)); have hHeld := hHeld (by decide); clear hK K; (try simp only [Act.put, List.setIfInBounds_toArray, List.set_cons_zero, List.set_cons_succ])
                  refine wpAnyL_two (i := 5) (j := 6) (oi := _) (oj := _) (by kernel_rfl) rfl rfl (fun K hK => ?_) (fun K hK => ?_)
                  · skip
                    (clear hHeld; simp only [List.getElem_toArray, List.getElem_cons_zero, List.getElem_cons_succ]; go_simp; (try rw [j1]); (try rw [j2]); (go_at_call 27; (with_reducible refine (QP.out _ _ _ hv.v kb1 kb2).mono ?_); rintro e v2 ⟨b3, A3, n3, c3, t3, z3, rfl, hz3, y1, y2, y3, y4, hb2⟩; have D := D.trans (hb2.mono D.size); have QR := RetS.qs hz3 y1 y2 y3 y4); refine hK.out _ _ ?_ (fun hHeld => ?_); focus (intro _; exact KV.out _ D)); have hHeld := hHeld (by decide); clear hK K; (try simp only [Act.put, List.setIfInBounds_toArray, List.set_cons_zero, List.set_cons_succ])
                    (refine wpAnyL_one (i := 6) (o := _) (by kernel_rfl) rfl (fun K hK => ?_); clear hHeld; simp only [List.getElem_toArray, List.getElem_cons_zero, List.getElem_cons_succ]; go_simp; refine hK.out _ _ ?_ (fun hHeld => ?_); focus (intro _; exact KV.out _ (D.alloc D.size _))); have hHeld := hHeld (by decide); clear hK K; (try simp only [Act.put, List.setIfInBounds_toArray, List.set_cons_zero, List.set_cons_succ])
                    have X := Lib.hid (And.intro (Blk.new v2 41 #[.bool b3, .slice A3 n3 c3, .int .i64 t3]) (And.intro (QR.below (al2 v2 (.cells #[.bool b3, .slice A3 n3 c3, .int .i64 t3] 41))) (D.alloc D.size (.cells #[.bool b3, .slice A3 n3 c3, .int .i64 t3] 41))))
                    clear QR
                    (refine wpAnyL_one (i := 7) (o := _) (by kernel_rfl) rfl (fun K hK => ?_); clear hHeld; simp only [List.getElem_toArray, List.getElem_cons_zero, List.getElem_cons_succ]; go_simp; refine hK.out _ _ ?_ (fun hHeld => ?_); focus (intro _; exact KV.out _ X.out.2.2)); have hHeld := hHeld (by decide); clear hK K; (try simp only [Act.put, List.setIfInBounds_toArray, List.set_cons_zero, List.set_cons_succ])
                    refine wpAnyL_done (by kernel_rfl) ?_ _
                    obtain ⟨Wx, hWx⟩ : ∃ Wx, v2.alloc (.cells #[.bool b3, .slice A3 n3 c3, .int .i64 t3] 41) = Wx := ⟨_, rfl⟩
                    rw [hWx] at X ⊢
                    obtain ⟨XB, XQ, XD⟩ := X.out
                    clear X
                    obtain ⟨gl, hgl⟩ : ∃ gl, gl = v2.heap.size := ⟨_, rfl⟩
                    rw [← hgl] at XB ⊢
                    have X := Lib.hid (And.intro XB (And.intro XQ XD))
                    clear XB XQ XD
                    clear hWx hgl
                    have KK : Hid (∀ W, Below Wx.heap.size Wx W → ((W.cell? ⟨gl, 0, none⟩ = some (.bool b3) ∧ W.cell? ⟨gl, 1, none⟩ = some (.slice A3 n3 c3) ∧ W.cell? ⟨gl, 2, none⟩ = some (.int .i64 t3)) ∧ W.cell? (ad.add j) = some (.int .u64 y)) ∧ QS M 1200 W (.agg #[.bool b3, .slice A3 n3 c3, .int .i64 t3]) (sc 1 lw)) := fun W h => ⟨⟨⟨(X.out.1.below h X.out.1.lt).at_ 0 rfl, (X.out.1.below h X.out.1.lt).at_ 1 rfl, (X.out.1.below h X.out.1.lt).at_ 2 rfl⟩, CJ.out W (D3.out.trans ((X.out.2.2.trans (h.mono X.out.2.2.size)).mono D3.out.size))⟩, X.out.2.1.below h⟩
                    have DX := Lib.hid (D3.out.trans (X.out.2.2.mono D3.out.size))
                    clear X
                    have cj := (KK.out _ (Below.refl _ _)).1.2
                    go_upto_region 18 with fail
                    have D : Below Wx.heap.size Wx Wx.drew := (Below.refl _ _).drew
                    clear cj
                    (refine wp_region_L (S := fun w' => (w'.cell? ⟨gl, 0, none⟩ = some (.bool b3) ∧ w'.cell? ⟨gl, 1, none⟩ = some (.slice A3 n3 c3) ∧ w'.cell? ⟨gl, 2, none⟩ = some (.int .i64 t3)) ∧ w'.cell? (ad.add j) = some (.int .u64 y)) (nl := 1000000) (by kernel_rfl) ?_ (fun hHeld => ?_); focus (exact (KK.out _ D).1))
                    (refine wpAnyL_take (i := 0) (oi := _) (v := ?_) rfl (by kernel_rfl) (by kernel_rfl) (by kernel_rfl) (fun _ _ _ h => h) (Or.inl ⟨by first | rfl | kernel_rfl, ?hy5⟩) (by assumption) ?rs5; (case hy5 => (intro w hSw; (try dsimp only at hSw); go_simp; first | done | with_reducible rfl)); case' rs5 => (simp only [List.getElem_toArray, List.getElem_cons_zero, List.getElem_cons_succ, Act.put, List.setIfInBounds_toArray, List.set_cons_zero, List.set_cons_succ])); (refine wpAnyL_take (i := 1) (oi := _) (v := ?_) rfl (by kernel_rfl) (by kernel_rfl) (by kernel_rfl) (fun _ _ _ h => h) (Or.inl ⟨by first | rfl | kernel_rfl, ?hy6⟩) (by assumption) ?rs6; (case hy6 => (intro w hSw; (try dsimp only at hSw); go_simp; first | done | with_reducible rfl)); case' rs6 => (simp only [List.getElem_toArray, List.getElem_cons_zero, List.getElem_cons_succ, Act.put, List.setIfInBounds_toArray, List.set_cons_zero, List.set_cons_succ])); (refine wpAnyL_take (i := 2) (oi := _) (v := ?_) rfl (by kernel_rfl) (by kernel_rfl) (by kernel_rfl) (fun _ _ _ h => h) (Or.inl ⟨by first | rfl | kernel_rfl, ?hy7⟩) (by assumption) ?rs7; (case hy7 => (intro w hSw; (try dsimp only at hSw); go_simp; first | done | with_reducible rfl)); case' rs7 => (simp only [List.getElem_toArray, List.getElem_cons_zero, List.getElem_cons_succ, Act.put, List.setIfInBounds_toArray, List.set_cons_zero, List.set_cons_succ])); (refine wpAnyL_take (i := 3) (oi := _) (v := ?_) rfl (by kernel_rfl) (by kernel_rfl) (by kernel_rfl) (fun _ _ _ h => h) (Or.inl ⟨by first | rfl | kernel_rfl, ?hy8⟩) (by assumption) ?rs8; (case hy8 => (intro w hSw; (try dsimp only at hSw); go_simp; first | done | with_reducible rfl)); case' rs8 => (simp only [List.getElem_toArray, List.getElem_cons_zero, List.getElem_cons_succ, Act.put, List.setIfInBounds_toArray, List.set_cons_zero, List.set_cons_succ])); (refine wpAnyL_take (i := 4) (oi := _) (v := ?_) rfl (by kernel_rfl) (by kernel_rfl) (by kernel_rfl) (fun _ _ _ h => h) (Or.inl ⟨by first | rfl | kernel_rfl, ?hy9⟩) (by assumption) ?rs9; (case hy9 => (intro w hSw; (try dsimp only at hSw); go_simp; first | done | with_reducible rfl)); case' rs9 => (simp only [List.getElem_toArray, List.getElem_cons_zero, List.getElem_cons_succ, Act.put, List.setIfInBounds_toArray, List.set_cons_zero, List.set_cons_succ])); (refine wpAnyL_take (i := 7) (oi := _) (v := ?_) rfl (by kernel_rfl) (by kernel_rfl) (by kernel_rfl) (fun _ _ _ h => h) (Or.inl ⟨by first | rfl | kernel_rfl, ?hy10⟩) (by assumption) ?rs10; (case hy10 => (intro w hSw; (try dsimp only at hSw); go_simp; first | done | with_reducible rfl)); case' rs10 => (simp only [List.getElem_toArray, List.getElem_cons_zero, List.getElem_cons_succ, Act.put, List.setIfInBounds_toArray, List.set_cons_zero, List.set_cons_succ])); skip
                    (refine wpAnyL_one (i := 5) (o := _) (by kernel_rfl) rfl (fun K hK => ?_); clear hHeld; simp only [List.getElem_toArray, List.getElem_cons_zero, List.getElem_cons_succ]; go_simp; (go_at_call 25; (with_reducible refine (QV.out _ _ FY.out).mono ?_); rintro e v3 ⟨b4, A4, n4, c4, t4, z4, rfl, hz4, k1, k2, k3, k4, hf, hb⟩; have D := D.trans (hb.mono D.size); have QY := RetS.qs hz4 k1 k2 k3 k4; clear hz4 k1 k2 k3 k4 hf hb); refine hK.out _ _ ?_ (fun hHeld => ?_); focus (intro _; exact (KK.out _ D).1)); have hHeld := hHeld (by decide); clear hK K; (try simp only [Act.put, List.setIfInBounds_toArray, List.set_cons_zero, List.set_cons_succ])
                    (refine wpAnyL_one (i := 6) (o := _) (by kernel_rfl) rfl (fun K hK => ?_); clear hHeld; simp only [List.getElem_toArray, List.getElem_cons_zero, List.getElem_cons_succ]; go_simp; (go_at_call 29; (with_reducible refine (QB.out _ _ _ FY.out QY).mono ?_); rintro e v4 ⟨b5, A5, n5, c5, t5, z5, rfl, hz5, k1, k2, k3, k4, hb⟩; have D := D.trans (hb.mono D.size); have QZ := RetS.qs hz5 k1 k2 k3 k4; clear hz5 k1 k2 k3 k4 hb QY); refine hK.out _ _ ?_ (fun hHeld => ?_); focus (intro _; exact (KK.out _ D).1)); have hHeld := hHeld (by decide); clear hK K; (try simp only [Act.put, List.setIfInBounds_toArray, List.set_cons_zero, List.set_cons_succ])
                    (refine wpAnyL_one (i := 8) (o := _) (by kernel_rfl) rfl (fun K hK => ?_); clear hHeld; simp only [List.getElem_toArray, List.getElem_cons_zero, List.getElem_cons_succ]; go_simp; (go_at_call 13; (with_reducible refine (CQ.out _ _ _ _ _ QZ (KK.out _ D).2).mono ?_); rintro e v5 ⟨rfl, hb⟩; have D := D.trans (hb.mono D.size); clear hb QZ); refine hK.out _ _ ?_ (fun hHeld => ?_); focus (intro _; exact (KK.out _ D).1)); have hHeld := hHeld (by decide); clear hK K; (try simp only [Act.put, List.setIfInBounds_toArray, List.set_cons_zero, List.set_cons_succ])
                    (refine wpAnyL_take (i := 9) (oi := _) (v := ?_) rfl (by kernel_rfl) (by kernel_rfl) (by kernel_rfl) (fun _ _ _ h => h) (Or.inl ⟨by first | rfl | kernel_rfl, ?hy11⟩) (by assumption) ?rs11; (case hy11 => (intro w hSw; (try dsimp only at hSw); go_simp; first | done | with_reducible rfl)); case' rs11 => (simp only [List.getElem_toArray, List.getElem_cons_zero, List.getElem_cons_succ, Act.put, List.setIfInBounds_toArray, List.set_cons_zero, List.set_cons_succ])); skip
                    refine wpAnyL_done (by kernel_rfl) ?_ _
                    have D := Lib.hid (DX.out.trans (D.mono DX.out.size))
                    obtain ⟨K, hK⟩ : ∃ K, cmpv (sz y) (sc 1 lw) = K := ⟨_, rfl⟩
                    rw [hK]
                    have HK := Lib.hid hK
                    clear hHeld hK KK DX
                    by_cases hk : K ≥ 0
                    · have e3 : r = 3 := by
                        rw [HR.out]
                        refine gCk_3 H6.out F1.out HKL.out fun q => ?_
                        have q1 := q.2 j HJ.out.symm
                        rw [HX.out, HY.out] at q1
                        have q2 := SL.out.2 q1
                        rw [← HLW.out] at q2
                        have q3 := HK.out
                        rw [Z.cmpv_lt q2] at q3
                        omega
                      subst e3
                      clear HK
                      go_wp2
                      go_ret
                      exact ⟨rfl, D.out⟩
                    · have HP1 : Hid (∀ i, i < k + 1 → pAt L i) := fun i hi => by
                        rcases Nat.lt_or_ge i k with q | q
                        · exact hP.out i q
                        · obtain rfl : i = k := by omega
                          refine ⟨by rw [HX.out]; exact M0.out, fun m hm => ?_⟩
                          obtain rfl : m = j := by have := HJ.out; omega
                          rw [HX.out, HY.out]
                          refine SL.out.1 ?_
                          rw [← HLW.out]
                          have q3 := HK.out
                          rcases Int.lt_trichotomy (sz y) (sc 1 lw) with h | h | h
                          · exact h
                          · rw [Z.cmpv_eq h] at q3; omega
                          · rw [Z.cmpv_gt h] at q3; omega
                      clear HK
                      go_wp2
                      exact ⟨⟨k + 1, by omega, by simp, HP1.out, D.out⟩, by simp only [intOf]; omega⟩
                  · skip
                    (clear hHeld; simp only [List.getElem_toArray, List.getElem_cons_zero, List.getElem_cons_succ]; go_simp; refine hK.out _ _ ?_ (fun hHeld => ?_); focus (intro _; exact KV.out _ (D.alloc D.size _))); have hHeld := hHeld (by decide); clear hK K; (try simp only [Act.put, List.setIfInBounds_toArray, List.set_cons_zero, List.set_cons_succ])
                    have R := Blk.new v1 41 #[.bool false, .slice none 0 0, .int .i64 0]
                    have hg := D.size
                    have D := D.alloc D.size (.cells #[.bool false, .slice none 0 0, .int .i64 0] 41)
                    have hv := hv.alloc (.cells #[.bool false, .slice none 0 0, .int .i64 0] 41)
                    (refine wpAnyL_one (i := 5) (o := _) (by kernel_rfl) rfl (fun K hK => ?_); clear hHeld; simp only [List.getElem_toArray, List.getElem_cons_zero, List.getElem_cons_succ]; go_simp; (try rw [j1]); (try rw [j2]); (go_at_call 27; (with_reducible refine (QP.out _ _ _ hv.v kb1 kb2).mono ?_); rintro e v2 ⟨b3, A3, n3, c3, t3, z3, rfl, hz3, y1, y2, y3, y4, hb2⟩; have D := D.trans (hb2.mono D.size); have QR := RetS.qs hz3 y1 y2 y3 y4; have R := R.below hb2 R.lt); refine hK.out _ _ ?_ (fun hHeld => ?_); focus (intro _; exact KV.out _ D)); have hHeld := hHeld (by decide); clear hK K; (try simp only [Act.put, List.setIfInBounds_toArray, List.set_cons_zero, List.set_cons_succ])
                    have t0 := R.at_ 0 rfl; have t1' := R.at_ 1 rfl; have t2' := R.at_ 2 rfl; have f0 := R.frozen 0; have f1 := R.frozen 1; have f2 := R.frozen 2
                    have X := Lib.hid (And.intro (blk3 R (.bool b3) (.slice A3 n3 c3) (.int .i64 t3)) (And.intro (qres_set QR R) (below3q D hg (.bool b3) (.slice A3 n3 c3) (.int .i64 t3))))
                    clear R QR
                    (refine wpAnyL_one (i := 7) (o := _) (by kernel_rfl) rfl (fun K hK => ?_); clear hHeld; simp only [List.getElem_toArray, List.getElem_cons_zero, List.getElem_cons_succ]; go_simp; refine hK.out _ _ ?_ (fun hHeld => ?_); focus (intro _; exact KV.out _ X.out.2.2)); have hHeld := hHeld (by decide); clear hK K; (try simp only [Act.put, List.setIfInBounds_toArray, List.set_cons_zero, List.set_cons_succ])
                    refine wpAnyL_done (by kernel_rfl) ?_ _
                    clear t0 t1' t2' f0 f1 f2
                    obtain ⟨Wx, hWx⟩ : ∃ Wx, ((v2.setCell ⟨v1.heap.size, 0, none⟩ (.bool b3)).setCell ⟨v1.heap.size, 1, none⟩ (.slice A3 n3 c3)).setCell ⟨v1.heap.size, 2, none⟩ (.int .i64 t3) = Wx := ⟨_, rfl⟩
                    rw [hWx] at X ⊢
                    obtain ⟨XB, XQ, XD⟩ := X.out
                    clear X
                    obtain ⟨gl, hgl⟩ : ∃ gl, gl = v1.heap.size := ⟨_, rfl⟩
                    rw [← hgl] at XB ⊢
                    have X := Lib.hid (And.intro XB (And.intro XQ XD))
                    clear XB XQ XD
                    clear hWx hgl
                    have KK : Hid (∀ W, Below Wx.heap.size Wx W → ((W.cell? ⟨gl, 0, none⟩ = some (.bool b3) ∧ W.cell? ⟨gl, 1, none⟩ = some (.slice A3 n3 c3) ∧ W.cell? ⟨gl, 2, none⟩ = some (.int .i64 t3)) ∧ W.cell? (ad.add j) = some (.int .u64 y)) ∧ QS M 1200 W (.agg #[.bool b3, .slice A3 n3 c3, .int .i64 t3]) (sc 1 lw)) := fun W h => ⟨⟨⟨(X.out.1.below h X.out.1.lt).at_ 0 rfl, (X.out.1.below h X.out.1.lt).at_ 1 rfl, (X.out.1.below h X.out.1.lt).at_ 2 rfl⟩, CJ.out W (D3.out.trans ((X.out.2.2.trans (h.mono X.out.2.2.size)).mono D3.out.size))⟩, X.out.2.1.below h⟩
                    have DX := Lib.hid (D3.out.trans (X.out.2.2.mono D3.out.size))
                    clear X
                    have cj := (KK.out _ (Below.refl _ _)).1.2
                    go_upto_region 18 with fail
                    have D : Below Wx.heap.size Wx Wx.drew := (Below.refl _ _).drew
                    clear cj
                    (refine wp_region_L (S := fun w' => (w'.cell? ⟨gl, 0, none⟩ = some (.bool b3) ∧ w'.cell? ⟨gl, 1, none⟩ = some (.slice A3 n3 c3) ∧ w'.cell? ⟨gl, 2, none⟩ = some (.int .i64 t3)) ∧ w'.cell? (ad.add j) = some (.int .u64 y)) (nl := 1000000) (by kernel_rfl) ?_ (fun hHeld => ?_); focus (exact (KK.out _ D).1))
                    (refine wpAnyL_take (i := 0) (oi := _) (v := ?_) rfl (by kernel_rfl) (by kernel_rfl) (by kernel_rfl) (fun _ _ _ h => h) (Or.inl ⟨by first | rfl | kernel_rfl, ?hy12⟩) (by assumption) ?rs12; (case hy12 => (intro w hSw; (try dsimp only at hSw); go_simp; first | done | with_reducible rfl)); case' rs12 => (simp only [List.getElem_toArray, List.getElem_cons_zero, List.getElem_cons_succ, Act.put, List.setIfInBounds_toArray, List.set_cons_zero, List.set_cons_succ])); (refine wpAnyL_take (i := 1) (oi := _) (v := ?_) rfl (by kernel_rfl) (by kernel_rfl) (by kernel_rfl) (fun _ _ _ h => h) (Or.inl ⟨by first | rfl | kernel_rfl, ?hy13⟩) (by assumption) ?rs13; (case hy13 => (intro w hSw; (try dsimp only at hSw); go_simp; first | done | with_reducible rfl)); case' rs13 => (simp only [List.getElem_toArray, List.getElem_cons_zero, List.getElem_cons_succ, Act.put, List.setIfInBounds_toArray, List.set_cons_zero, List.set_cons_succ])); (refine wpAnyL_take (i := 2) (oi := _) (v := ?_) rfl (by kernel_rfl) (by kernel_rfl) (by kernel_rfl) (fun _ _ _ h => h) (Or.inl ⟨by first | rfl | kernel_rfl, ?hy14⟩) (by assumption) ?rs14; (case hy14 => (intro w hSw; (try dsimp only at hSw); go_simp; first | done | with_reducible rfl)); case' rs14 => (simp only [List.getElem_toArray, List.getElem_cons_zero, List.getElem_cons_succ, Act.put, List.setIfInBounds_toArray, List.set_cons_zero, List.set_cons_succ])); (refine wpAnyL_take (i := 3) (oi := _) (v := ?_) rfl (by kernel_rfl) (by kernel_rfl) (by kernel_rfl) (fun _ _ _ h => h) (Or.inl ⟨by first | rfl | kernel_rfl, ?hy15⟩) (by assumption) ?rs15; (case hy15 => (intro w hSw; (try dsimp only at hSw); go_simp; first | done | with_reducible rfl)); case' rs15 => (simp only [List.getElem_toArray, List.getElem_cons_zero, List.getElem_cons_succ, Act.put, List.setIfInBounds_toArray, List.set_cons_zero, List.set_cons_succ])); (refine wpAnyL_take (i := 4) (oi := _) (v := ?_) rfl (by kernel_rfl) (by kernel_rfl) (by kernel_rfl) (fun _ _ _ h => h) (Or.inl ⟨by first | rfl | kernel_rfl, ?hy16⟩) (by assumption) ?rs16; (case hy16 => (intro w hSw; (try dsimp only at hSw); go_simp; first | done | with_reducible rfl)); case' rs16 => (simp only [List.getElem_toArray, List.getElem_cons_zero, List.getElem_cons_succ, Act.put, List.setIfInBounds_toArray, List.set_cons_zero, List.set_cons_succ])); (refine wpAnyL_take (i := 7) (oi := _) (v := ?_) rfl (by kernel_rfl) (by kernel_rfl) (by kernel_rfl) (fun _ _ _ h => h) (Or.inl ⟨by first | rfl | kernel_rfl, ?hy17⟩) (by assumption) ?rs17; (case hy17 => (intro w hSw; (try dsimp only at hSw); go_simp; first | done | with_reducible rfl)); case' rs17 => (simp only [List.getElem_toArray, List.getElem_cons_zero, List.getElem_cons_succ, Act.put, List.setIfInBounds_toArray, List.set_cons_zero, List.set_cons_succ])); skip
                    (refine wpAnyL_one (i := 5) (o := _) (by kernel_rfl) rfl (fun K hK => ?_); clear hHeld; simp only [List.getElem_toArray, List.getElem_cons_zero, List.getElem_cons_succ]; go_simp; (go_at_call 25; (with_reducible refine (QV.out _ _ FY.out).mono ?_); rintro e v3 ⟨b4, A4, n4, c4, t4, z4, rfl, hz4, k1, k2, k3, k4, hf, hb⟩; have D := D.trans (hb.mono D.size); have QY := RetS.qs hz4 k1 k2 k3 k4; clear hz4 k1 k2 k3 k4 hf hb); refine hK.out _ _ ?_ (fun hHeld => ?_); focus (intro _; exact (KK.out _ D).1)); have hHeld := hHeld (by decide); clear hK K; (try simp only [Act.put, List.setIfInBounds_toArray, List.set_cons_zero, List.set_cons_succ])
                    (refine wpAnyL_one (i := 6) (o := _) (by kernel_rfl) rfl (fun K hK => ?_); clear hHeld; simp only [List.getElem_toArray, List.getElem_cons_zero, List.getElem_cons_succ]; go_simp; (go_at_call 29; (with_reducible refine (QB.out _ _ _ FY.out QY).mono ?_); rintro e v4 ⟨b5, A5, n5, c5, t5, z5, rfl, hz5, k1, k2, k3, k4, hb⟩; have D := D.trans (hb.mono D.size); have QZ := RetS.qs hz5 k1 k2 k3 k4; clear hz5 k1 k2 k3 k4 hb QY); refine hK.out _ _ ?_ (fun hHeld => ?_); focus (intro _; exact (KK.out _ D).1)); have hHeld := hHeld (by decide); clear hK K; (try simp only [Act.put, List.setIfInBounds_toArray, List.set_cons_zero, List.set_cons_succ])
                    (refine wpAnyL_one (i := 8) (o := _) (by kernel_rfl) rfl (fun K hK => ?_); clear hHeld; simp only [List.getElem_toArray, List.getElem_cons_zero, List.getElem_cons_succ]; go_simp; (go_at_call 13; (with_reducible refine (CQ.out _ _ _ _ _ QZ (KK.out _ D).2).mono ?_); rintro e v5 ⟨rfl, hb⟩; have D := D.trans (hb.mono D.size); clear hb QZ); refine hK.out _ _ ?_ (fun hHeld => ?_); focus (intro _; exact (KK.out _ D).1)); have hHeld := hHeld (by decide); clear hK K; (try simp only [Act.put, List.setIfInBounds_toArray, List.set_cons_zero, List.set_cons_succ])
                    (refine wpAnyL_take (i := 9) (oi := _) (v := ?_) rfl (by kernel_rfl) (by kernel_rfl) (by kernel_rfl) (fun _ _ _ h => h) (Or.inl ⟨by first | rfl | kernel_rfl, ?hy18⟩) (by assumption) ?rs18; (case hy18 => (intro w hSw; (try dsimp only at hSw); go_simp; first | done | with_reducible rfl)); case' rs18 => (simp only [List.getElem_toArray, List.getElem_cons_zero, List.getElem_cons_succ, Act.put, List.setIfInBounds_toArray, List.set_cons_zero, List.set_cons_succ])); skip
                    refine wpAnyL_done (by kernel_rfl) ?_ _
                    have D := Lib.hid (DX.out.trans (D.mono DX.out.size))
                    obtain ⟨K, hK⟩ : ∃ K, cmpv (sz y) (sc 1 lw) = K := ⟨_, rfl⟩
                    rw [hK]
                    have HK := Lib.hid hK
                    clear hHeld hK KK DX
                    by_cases hk : K ≥ 0
                    · have e3 : r = 3 := by
                        rw [HR.out]
                        refine gCk_3 H6.out F1.out HKL.out fun q => ?_
                        have q1 := q.2 j HJ.out.symm
                        rw [HX.out, HY.out] at q1
                        have q2 := SL.out.2 q1
                        rw [← HLW.out] at q2
                        have q3 := HK.out
                        rw [Z.cmpv_lt q2] at q3
                        omega
                      subst e3
                      clear HK
                      go_wp2
                      go_ret
                      exact ⟨rfl, D.out⟩
                    · have HP1 : Hid (∀ i, i < k + 1 → pAt L i) := fun i hi => by
                        rcases Nat.lt_or_ge i k with q | q
                        · exact hP.out i q
                        · obtain rfl : i = k := by omega
                          refine ⟨by rw [HX.out]; exact M0.out, fun m hm => ?_⟩
                          obtain rfl : m = j := by have := HJ.out; omega
                          rw [HX.out, HY.out]
                          refine SL.out.1 ?_
                          rw [← HLW.out]
                          have q3 := HK.out
                          rcases Int.lt_trichotomy (sz y) (sc 1 lw) with h | h | h
                          · exact h
                          · rw [Z.cmpv_eq h] at q3; omega
                          · rw [Z.cmpv_gt h] at q3; omega
                      clear HK
                      go_wp2
                      exact ⟨⟨k + 1, by omega, by simp, HP1.out, D.out⟩, by simp only [intOf]; omega⟩
                · skip
                  (clear hHeld; simp only [List.getElem_toArray, List.getElem_cons_zero, List.getElem_cons_succ]; go_simp; refine hK.out _ _ ?_ (fun hHeld => ?_); focus (intro _; exact KV.out _ (D.alloc (Nat.le_refl _) _))); have hHeld := hHeld (by decide); clear hK K; (try simp only [Act.put, List.setIfInBounds_toArray, List.set_cons_zero, List.set_cons_succ])
                  have R : Blk (W3.alloc (.cells #[.bool false, .slice none 0 0, .int .i64 0] 41)).drew W3.heap.size 41 #[.bool false, .slice none 0 0, .int .i64 0] := Blk.new W3 41 #[.bool false, .slice none 0 0, .int .i64 0]
                  have hg := Nat.le_refl W3.heap.size
                  have D : Below W3.heap.size W3 (W3.alloc (.cells #[.bool false, .slice none 0 0, .int .i64 0] 41)).drew := ((Below.refl _ _).alloc (Nat.le_refl _) (.cells #[.bool false, .slice none 0 0, .int .i64 0] 41)).drew
                  (refine wpAnyL_one (i := 0) (o := _) (by kernel_rfl) rfl (fun K hK => ?_); clear hHeld; simp only [List.getElem_toArray, List.getElem_cons_zero, List.getElem_cons_succ]; go_simp; (go_at_call 28; (with_reducible refine (NN.out _).mono ?_); rintro e v1 ⟨_, rfl, ⟨q1, Q1, m1, d1, rfl, h1⟩, hb1⟩; have D := D.trans (hb1.mono D.size); have hv := h1.1; have R := R.below hb1 R.lt); refine hK.out _ _ ?_ (fun hHeld => ?_); focus (intro _; exact KV.out _ D)); have hHeld := hHeld (by decide); clear hK K; (try simp only [Act.put, List.setIfInBounds_toArray, List.set_cons_zero, List.set_cons_succ])
                  (refine wpAnyL_one (i := 5) (o := _) (by kernel_rfl) rfl (fun K hK => ?_); clear hHeld; simp only [List.getElem_toArray, List.getElem_cons_zero, List.getElem_cons_succ]; go_simp; (try rw [j1]); (try rw [j2]); (go_at_call 27; (with_reducible refine (QP.out _ _ _ hv.v kb1 kb2).mono ?_); rintro e v2 ⟨b3, A3, n3, c3, t3, z3, rfl, hz3, y1, y2, y3, y4, hb2⟩; have D := D.trans (hb2.mono D.size); have QR := RetS.qs hz3 y1 y2 y3 y4; have R := R.below hb2 R.lt); refine hK.out _ _ ?_ (fun hHeld => ?_); focus (intro _; exact KV.out _ D)); have hHeld := hHeld (by decide); clear hK K; (try simp only [Act.put, List.setIfInBounds_toArray, List.set_cons_zero, List.set_cons_succ])
                  have t0 := R.at_ 0 rfl; have t1' := R.at_ 1 rfl; have t2' := R.at_ 2 rfl; have f0 := R.frozen 0; have f1 := R.frozen 1; have f2 := R.frozen 2
                  have X := Lib.hid (And.intro (blk3 R (.bool b3) (.slice A3 n3 c3) (.int .i64 t3)) (And.intro (qres_set QR R) (below3q D hg (.bool b3) (.slice A3 n3 c3) (.int .i64 t3))))
                  clear R QR
                  (refine wpAnyL_one (i := 7) (o := _) (by kernel_rfl) rfl (fun K hK => ?_); clear hHeld; simp only [List.getElem_toArray, List.getElem_cons_zero, List.getElem_cons_succ]; go_simp; refine hK.out _ _ ?_ (fun hHeld => ?_); focus (intro _; exact KV.out _ X.out.2.2)); have hHeld := hHeld (by decide); clear hK K; (try simp only [Act.put, List.setIfInBounds_toArray, List.set_cons_zero, List.set_cons_succ])
                  refine wpAnyL_done (by kernel_rfl) ?_ _
                  clear t0 t1' t2' f0 f1 f2
                  obtain ⟨Wx, hWx⟩ : ∃ Wx, ((v2.setCell ⟨W3.heap.size, 0, none⟩ (.bool b3)).setCell ⟨W3.heap.size, 1, none⟩ (.slice A3 n3 c3)).setCell ⟨W3.heap.size, 2, none⟩ (.int .i64 t3) = Wx := ⟨_, rfl⟩
                  rw [hWx] at X ⊢
                  obtain ⟨XB, XQ, XD⟩ := X.out
                  clear X
                  obtain ⟨gl, hgl⟩ : ∃ gl, gl = W3.heap.size := ⟨_, rfl⟩
                  rw [← hgl] at XB ⊢
                  have X := Lib.hid (And.intro XB (And.intro XQ XD))
                  clear XB XQ XD
                  clear hWx hgl
                  have KK : Hid (∀ W, Below Wx.heap.size Wx W → ((W.cell? ⟨gl, 0, none⟩ = some (.bool b3) ∧ W.cell? ⟨gl, 1, none⟩ = some (.slice A3 n3 c3) ∧ W.cell? ⟨gl, 2, none⟩ = some (.int .i64 t3)) ∧ W.cell? (ad.add j) = some (.int .u64 y)) ∧ QS M 1200 W (.agg #[.bool b3, .slice A3 n3 c3, .int .i64 t3]) (sc 1 lw)) := fun W h => ⟨⟨⟨(X.out.1.below h X.out.1.lt).at_ 0 rfl, (X.out.1.below h X.out.1.lt).at_ 1 rfl, (X.out.1.below h X.out.1.lt).at_ 2 rfl⟩, CJ.out W (D3.out.trans ((X.out.2.2.trans (h.mono X.out.2.2.size)).mono D3.out.size))⟩, X.out.2.1.below h⟩
                  have DX := Lib.hid (D3.out.trans (X.out.2.2.mono D3.out.size))
                  clear X
                  have cj := (KK.out _ (Below.refl _ _)).1.2
                  go_upto_region 18 with fail
                  have D : Below Wx.heap.size Wx Wx.drew := (Below.refl _ _).drew
                  clear cj
                  (refine wp_region_L (S := fun w' => (w'.cell? ⟨gl, 0, none⟩ = some (.bool b3) ∧ w'.cell? ⟨gl, 1, none⟩ = some (.slice A3 n3 c3) ∧ w'.cell? ⟨gl, 2, none⟩ = some (.int .i64 t3)) ∧ w'.cell? (ad.add j) = some (.int .u64 y)) (nl := 1000000) (by kernel_rfl) ?_ (fun hHeld => ?_); focus (exact (KK.out _ D).1))
                  (refine wpAnyL_take (i := 0) (oi := _) (v := ?_) rfl (by kernel_rfl) (by kernel_rfl) (by kernel_rfl) (fun _ _ _ h => h) (Or.inl ⟨by first | rfl | kernel_rfl, ?hy19⟩) (by assumption) ?rs19; (case hy19 => (intro w hSw; (try dsimp only at hSw); go_simp; first | done | with_reducible rfl)); case' rs19 => (simp only [List.getElem_toArray, List.getElem_cons_zero, List.getElem_cons_succ, Act.put, List.setIfInBounds_toArray, List.set_cons_zero, List.set_cons_succ])); (refine wpAnyL_take (i := 1) (oi := _) (v := ?_) rfl (by kernel_rfl) (by kernel_rfl) (by kernel_rfl) (fun _ _ _ h => h) (Or.inl ⟨by first | rfl | kernel_rfl, ?hy20⟩) (by assumption) ?rs20; (case hy20 => (intro w hSw; (try dsimp only at hSw); go_simp; first | done | with_reducible rfl)); case' rs20 => (simp only [List.getElem_toArray, List.getElem_cons_zero, List.getElem_cons_succ, Act.put, List.setIfInBounds_toArray, List.set_cons_zero, List.set_cons_succ])); (refine wpAnyL_take (i := 2) (oi := _) (v := ?_) rfl (by kernel_rfl) (by kernel_rfl) (by kernel_rfl) (fun _ _ _ h => h) (Or.inl ⟨by first | rfl | kernel_rfl, ?hy21⟩) (by assumption) ?rs21; (case hy21 => (intro w hSw; (try dsimp only at hSw); go_simp; first | done | with_reducible rfl)); case' rs21 => (simp only [List.getElem_toArray, List.getElem_cons_zero, List.getElem_cons_succ, Act.put, List.setIfInBounds_toArray, List.set_cons_zero, List.set_cons_succ])); (refine wpAnyL_take (i := 3) (oi := _) (v := ?_) rfl (by kernel_rfl) (by kernel_rfl) (by kernel_rfl) (fun _ _ _ h => h) (Or.inl ⟨by first | rfl | kernel_rfl, ?hy22⟩) (by assumption) ?rs22; (case hy22 => (intro w hSw; (try dsimp only at hSw); go_simp; first | done | with_reducible rfl)); case' rs22 => (simp only [List.getElem_toArray, List.getElem_cons_zero, List.getElem_cons_succ, Act.put, List.setIfInBounds_toArray, List.set_cons_zero, List.set_cons_succ])); (refine wpAnyL_take (i := 4) (oi := _) (v := ?_) rfl (by kernel_rfl) (by kernel_rfl) (by kernel_rfl) (fun _ _ _ h => h) (Or.inl ⟨by first | rfl | kernel_rfl, ?hy23⟩) (by assumption) ?rs23; (case hy23 => (intro w hSw; (try dsimp only at hSw); go_simp; first | done | with_reducible rfl)); case' rs23 => (simp only [List.getElem_toArray, List.getElem_cons_zero, List.getElem_cons_succ, Act.put, List.setIfInBounds_toArray, List.set_cons_zero, List.set_cons_succ])); (refine wpAnyL_take (i := 7) (oi := _) (v := ?_) rfl (by kernel_rfl) (by kernel_rfl) (by kernel_rfl) (fun _ _ _ h => h) (Or.inl ⟨by first | rfl | kernel_rfl, ?hy24⟩) (by assumption) ?rs24; (case hy24 => (intro w hSw; (try dsimp only at hSw); go_simp; first | done | with_reducible rfl)); case' rs24 => (simp only [List.getElem_toArray, List.getElem_cons_zero, List.getElem_cons_succ, Act.put, List.setIfInBounds_toArray, List.set_cons_zero, List.set_cons_succ])); skip
                  (refine wpAnyL_one (i := 5) (o := _) (by kernel_rfl) rfl (fun K hK => ?_); clear hHeld; simp only [List.getElem_toArray, List.getElem_cons_zero, List.getElem_cons_succ]; go_simp; (go_at_call 25; (with_reducible refine (QV.out _ _ FY.out).mono ?_); rintro e v3 ⟨b4, A4, n4, c4, t4, z4, rfl, hz4, k1, k2, k3, k4, hf, hb⟩; have D := D.trans (hb.mono D.size); have QY := RetS.qs hz4 k1 k2 k3 k4; clear hz4 k1 k2 k3 k4 hf hb); refine hK.out _ _ ?_ (fun hHeld => ?_); focus (intro _; exact (KK.out _ D).1)); have hHeld := hHeld (by decide); clear hK K; (try simp only [Act.put, List.setIfInBounds_toArray, List.set_cons_zero, List.set_cons_succ])
                  (refine wpAnyL_one (i := 6) (o := _) (by kernel_rfl) rfl (fun K hK => ?_); clear hHeld; simp only [List.getElem_toArray, List.getElem_cons_zero, List.getElem_cons_succ]; go_simp; (go_at_call 29; (with_reducible refine (QB.out _ _ _ FY.out QY).mono ?_); rintro e v4 ⟨b5, A5, n5, c5, t5, z5, rfl, hz5, k1, k2, k3, k4, hb⟩; have D := D.trans (hb.mono D.size); have QZ := RetS.qs hz5 k1 k2 k3 k4; clear hz5 k1 k2 k3 k4 hb QY); refine hK.out _ _ ?_ (fun hHeld => ?_); focus (intro _; exact (KK.out _ D).1)); have hHeld := hHeld (by decide); clear hK K; (try simp only [Act.put, List.setIfInBounds_toArray, List.set_cons_zero, List.set_cons_succ])
                  (refine wpAnyL_one (i := 8) (o := _) (by kernel_rfl) rfl (fun K hK => ?_); clear hHeld; simp only [List.getElem_toArray, List.getElem_cons_zero, List.getElem_cons_succ]; go_simp; (go_at_call 13; (with_reducible refine (CQ.out _ _ _ _ _ QZ (KK.out _ D).2).mono ?_); rintro e v5 ⟨rfl, hb⟩; have D := D.trans (hb.mono D.size); clear hb QZ); refine hK.out _ _ ?_ (fun hHeld => ?_); focus (intro _; exact (KK.out _ D).1)); have hHeld := hHeld (by decide); clear hK K; (try simp only [Act.put, List.setIfInBounds_toArray, List.set_cons_zero, List.set_cons_succ])
                  (refine wpAnyL_take (i := 9) (oi := _) (v := ?_) rfl (by kernel_rfl) (by kernel_rfl) (by kernel_rfl) (fun _ _ _ h => h) (Or.inl ⟨by first | rfl | kernel_rfl, ?hy25⟩) (by assumption) ?rs25; (case hy25 => (intro w hSw; (try dsimp only at hSw); go_simp; first | done | with_reducible rfl)); case' rs25 => (simp only [List.getElem_toArray, List.getElem_cons_zero, List.getElem_cons_succ, Act.put, List.setIfInBounds_toArray, List.set_cons_zero, List.set_cons_succ])); skip
                  refine wpAnyL_done (by kernel_rfl) ?_ _
                  have D := Lib.hid (DX.out.trans (D.mono DX.out.size))
                  obtain ⟨K, hK⟩ : ∃ K, cmpv (sz y) (sc 1 lw) = K := ⟨_, rfl⟩
                  rw [hK]
                  have HK := Lib.hid hK
                  clear hHeld hK KK DX
                  by_cases hk : K ≥ 0
                  · have e3 : r = 3 := by
                      rw [HR.out]
                      refine gCk_3 H6.out F1.out HKL.out fun q => ?_
                      have q1 := q.2 j HJ.out.symm
                      rw [HX.out, HY.out] at q1
                      have q2 := SL.out.2 q1
                      rw [← HLW.out] at q2
                      have q3 := HK.out
                      rw [Z.cmpv_lt q2] at q3
                      omega
                    subst e3
                    clear HK
                    go_wp2
                    go_ret
                    exact ⟨rfl, D.out⟩
                  · have HP1 : Hid (∀ i, i < k + 1 → pAt L i) := fun i hi => by
                      rcases Nat.lt_or_ge i k with q | q
                      · exact hP.out i q
                      · obtain rfl : i = k := by omega
                        refine ⟨by rw [HX.out]; exact M0.out, fun m hm => ?_⟩
                        obtain rfl : m = j := by have := HJ.out; omega
                        rw [HX.out, HY.out]
                        refine SL.out.1 ?_
                        rw [← HLW.out]
                        have q3 := HK.out
                        rcases Int.lt_trichotomy (sz y) (sc 1 lw) with h | h | h
                        · exact h
                        · rw [Z.cmpv_eq h] at q3; omega
                        · rw [Z.cmpv_gt h] at q3; omega
                    clear HK
                    go_wp2
                    exact ⟨⟨k + 1, by omega, by simp, HP1.out, D.out⟩, by simp only [intOf]; omega⟩
          · obtain rfl : n = k := by omega
            have e0 : r = 0 := by rw [HR.out]; exact gCk_all H6.out F1.out fun j hj => hP.out j (by rw [HN.out]; exact hj)
            subst e0
            go_wp2
            go_ret
            exact ⟨rfl, hD.out⟩
end XC
end Go.Proofs.YtelblhgagpkjmaaGreatDoor
