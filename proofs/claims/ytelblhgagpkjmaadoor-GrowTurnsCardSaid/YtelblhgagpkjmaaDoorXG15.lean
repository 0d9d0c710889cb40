/-
  GrowTurns: the walk.
-/
import Derived.Test.YtelblhgagpkjmaaDoorXG14
import Derived.Test.YtelblhgagpkjmaaDoorXG8
namespace Go.Proofs.YtelblhgagpkjmaaDoor
set_option linter.unusedVariables false
set_option linter.unusedSimpArgs false
open Go.RowKit
set_option linter.unusedVariables false
set_option linter.unusedSimpArgs false
namespace XC
open Z (Nz Tz cmpv big)
open ZC DC RC QC SC VC PC
theorem sl_new6 (W : World) (a b c d e f : Int) : Sl .u64 (W.alloc (.cells #[.int .u64 a, .int .u64 b, .int .u64 c, .int .u64 d, .int .u64 e, .int .u64 f] 22)) (.slice (some ⟨W.heap.size, 0, none⟩) 6 6) [a, b, c, d, e, f] := Row.sl (L := [a, b, c, d, e, f]) (Blk.new W 22 #[.int .u64 a, .int .u64 b, .int .u64 c, .int .u64 d, .int .u64 e, .int .u64 f]) _ (by simp)
/-- the difference of two -/
theorem less_c {M : Nat} (hM : M = 6700) (x y : Int) (w : World) (fx : fi x) (fy : fi y) : Calls Tryd.prog 11 #[.int .u64 x, .int .u64 y] w (RetS M 2200 w (val x - val y)) := by
  have N0 := Blk.new w 32 #[.bool false, .slice none 0 0, .int .i64 0]
  have D0 : Below w.heap.size w (w.alloc (.cells #[.bool false, .slice none 0 0, .int .i64 0] 32)) := al2 w _
  obtain ⟨W0, hW0⟩ : ∃ W0, w.alloc (.cells #[.bool false, .slice none 0 0, .int .i64 0] 32) = W0 := ⟨_, rfl⟩
  rw [hW0] at N0 D0
  have KR : Hid (∀ W, Below W0.heap.size W0 W → Blk W w.heap.size 32 #[.bool false, .slice none 0 0, .int .i64 0]) := fun W h => N0.below h N0.lt
  have QX : Hid (∀ W, Calls Tryd.prog 13 #[.int .u64 x] W (RetSF 2200 1100 W (val x))) := fun W => GC.QVal_m rfl x W fx
  have QY : Hid (∀ W, Calls Tryd.prog 13 #[.int .u64 y] W (RetSF 2200 1100 W (val y))) := fun W => GC.QVal_m rfl y W fy
  have QN : Hid (∀ (W : World) (u : Value), QS 2200 1100 W u (val y) → Calls Tryd.prog 14 #[u] W (RetS 2200 1100 W (-(val y)))) := fun W u h => QNeg_s h (by omega)
  have QA : Hid (∀ (W : World) (u v : Value), QS 2200 1100 W u (val x) → QS 2200 1100 W v (-(val y)) → Calls Tryd.prog 12 #[u, v] W (RetS M 2200 W (val x - val y))) := fun W u v h h' => by
    have := QAdd_s h h' (by omega) (by omega) (by omega) (by omega)
    rw [← Int.sub_eq_add_neg] at this
    exact this.mono fun e w' k => RetS.mono k (by omega) (by omega)
  have HW0 := Lib.hid hW0
  have D0 := Lib.hid D0
  have D := Lib.hid (Below.refl W0.heap.size W0)
  generalize val x - val y = d at *
  generalize val x = vx at *
  generalize val y = vy at *
  clear hM fx fy hW0 N0
  go_enter Tryd.func11, Tryd.ntmps11
  go_wp2_with (first
    | (go_at_call 13; rw [HW0.out]; (with_reducible refine (QX.out _).mono ?_); rintro e w1 ⟨b1, A1, n1, c1, t1, z1, rfl, hz, k1, k2, k3, k4, hf, hb⟩; have Q1 := Lib.hid (RetS.qs hz k1 k2 k3 k4); have D := Lib.hid hb; clear hz k1 k2 k3 k4 hf hb)
    | (go_at_call 13; (with_reducible refine (QY.out _).mono ?_); rintro e w2 ⟨b2, A2, n2, c2, t2, z2, rfl, hz, k1, k2, k3, k4, hf, hb⟩; have Q1 := Lib.hid (Q1.out.below hb); have Q2 := Lib.hid (RetS.qs hz k1 k2 k3 k4); have D := Lib.hid (D.out.trans (hb.mono D.out.size)); clear hz k1 k2 k3 k4 hf hb)
    | (go_at_call 14; (with_reducible refine (QN.out _ _ Q2.out).mono ?_); rintro e w3 ⟨b3, A3, n3, c3, t3, z3, rfl, hz, k1, k2, k3, k4, hb⟩; have Q1 := Lib.hid (Q1.out.below hb); have Q3 := Lib.hid (RetS.qs hz k1 k2 k3 k4); have D := Lib.hid (D.out.trans (hb.mono D.out.size)); clear hz k1 k2 k3 k4 hb)
    | (go_at_call 12; (with_reducible refine (QA.out _ _ _ Q1.out Q3.out).mono ?_); rintro e w4 ⟨b4, A4, n4, c4, t4, z4, rfl, hz, k1, k2, k3, k4, hb⟩; have D := Lib.hid (D.out.trans (hb.mono D.out.size)); have R := KR.out _ D.out; have X := Lib.hid (set3 hz (off_q hz R) (.bool b4) (.slice A4 n4 c4) (.int .i64 t4)); have kk := Lib.hid (And.intro k1 (And.intro k2 (And.intro k3 k4))); have f0 := R.frozen 0; have f1 := R.frozen 1; have f2 := R.frozen 2; have t0 := R.at_ 0 rfl; have t1' := R.at_ 1 rfl; have t2' := R.at_ 2 rfl; clear hz k1 k2 k3 k4 hb R))
  exact bodyPost_ret (v := .agg #[.bool b4, .slice A4 n4 c4, .int .i64 t4]) (by simp [results, Tryd.results11, go_sem, t0, t1', t2']) rfl
    ⟨_, _, _, _, _, _, rfl, X.out, kk.out.1, kk.out.2.1, kk.out.2.2.1, kk.out.2.2.2, below3q (D0.out.trans (D.out.mono D0.out.size)) (by omega) _ _ _⟩
theorem any_take {L : List Int} {k : Nat} (f : Int → Bool) (hk : k < L.length) : (L.take (k + 1)).any f = ((L.take k).any f || f (L.getD k 0)) := by
  rw [List.take_add_one, List.any_append, List.getElem?_eq_getElem hk]
  have : L.getD k 0 = L[k] := by rw [List.getD_eq_getElem?_getD, List.getElem?_eq_getElem hk]; rfl
  rw [this]
  simp
theorem det_cmp {p q a b c d : Int} {K : Nat} (hp : p * 2 ^ K = a * b) (hq : q * 2 ^ K = c * d) : cmpv p q = cmpv (a * b - c * d) 0 := by
  have h := two_pos' K
  rw [← hp, ← hq, ← Int.sub_mul]
  generalize (2 : Int) ^ K = P at *
  unfold cmpv
  rcases Int.lt_trichotomy p q with g | g | g
  · have := Int.mul_neg_of_neg_of_pos (show p - q < 0 by omega) h
    rw [if_pos g, if_pos this]
  · subst g
    simp
  · have := Int.mul_pos (show 0 < p - q by omega) h
    rw [if_neg (by omega), if_pos g, if_neg (by omega), if_pos this]
set_option maxRecDepth 100000 in
set_option maxHeartbeats 16000000 in
theorem turnsX_c {M : Nat} (hM : M = 6700) (ax ay bx b_y cx cy : Int) (w : World) (hu : u64s [ax, ay, bx, b_y, cx, cy]) (hT : NC.TabD w) :
    Calls Tryd.prog 3 #[.int .u64 ax, .int .u64 ay, .int .u64 bx, .int .u64 b_y, .int .u64 cx, .int .u64 cy] w fun e w' => e = .returned (.bool true) ∧ Below w.heap.size w w' := by
  have TU := Lib.hid (Turn_g ax ay bx b_y cx cy w hu hT)
  have D := Lib.hid (Below.refl w.heap.size w)
  obtain ⟨L, hL⟩ : ∃ L, L = [ax, ay, bx, b_y, cx, cy] := ⟨_, rfl⟩
  have hl6 : L.length = 6 := by rw [hL]; rfl
  rw [← hL] at hu
  have HU := Lib.hid hu
  have HV : Hid (∀ (W : World) (x : Int), x ∈ L → Calls Tryd.prog 9 #[.int .u64 x] W (fun e w' => e = .returned (.bool (!decide (F.exq x = 2047))) ∧ W = w')) := fun W x hx => GC.HasVal_c x W (hu x hx)
  have TF : Hid (∀ (W : World) (x : Int), fi x → Calls Tryd.prog 10 #[.int .u64 x] W (DC.RetB W (.bool (decide (gFr x))))) := fun W x hx => TooFar_c rfl x W hx
  obtain ⟨b1, hb1⟩ : ∃ b1, b1 = L.any fun x => decide (F.exq x = 2047) := ⟨_, rfl⟩
  obtain ⟨b2, hb2⟩ : ∃ b2, b2 = L.any fun x => decide (gFr x) := ⟨_, rfl⟩
  have i1 : b1 = true ↔ ∃ x ∈ L, F.exq x = 2047 := by rw [hb1, List.any_eq_true]; simp
  have i2 : b2 = true ↔ ∃ x ∈ L, gFr x := by rw [hb2, List.any_eq_true]; simp
  have ff : Hid (b1 = false → ∀ x ∈ L, fi x) := fun q x hx => ⟨(hu x hx).1, (hu x hx).2, fun k => by rw [i1.2 ⟨x, hx, k⟩] at q; cases q⟩
  obtain ⟨t, ht⟩ : ∃ t, t = gTu ax ay bx b_y cx cy := ⟨_, rfl⟩
  rw [← ht] at TU
  have KT : Hid ((b1 = true → t = (0, 4)) ∧ (b1 = false → b2 = true → t = (0, 2)) ∧ (b1 = false → b2 = false → t = (cmpv (gDet ax ay bx b_y cx cy) 0, 0))) := by
    show _ ∧ _
    unfold gTu at ht
    rw [← hL] at ht
    refine ⟨fun q => ?_, fun q q2 => ?_, fun q q2 => ?_⟩
    · rw [if_pos (i1.1 q)] at ht; exact ht
    · rw [if_neg (fun k => by rw [i1.2 k] at q; cases q), if_pos (i2.1 q2)] at ht; exact ht
    · rw [if_neg (fun k => by rw [i1.2 k] at q; cases q), if_neg (fun k => by rw [i2.2 k] at q2; cases q2)] at ht; exact ht
  obtain ⟨n1, er⟩ := t
  dsimp only at TU
  have HB1 := Lib.hid hb1
  have HB2 := Lib.hid hb2
  have HL := Lib.hid hL
  have HL6 := Lib.hid hl6
  have M0 := Lib.hid hM
  clear i1 i2 ht hb1 hb2 hL hl6 hu hT hM
  go_enter Tryd.func3, Tryd.ntmps3
  go_wp2_with (go_at_call 8; (with_reducible refine (TU.out).mono ?_); rintro e w1 ⟨rfl, hb⟩; have D := Lib.hid hb; clear hb)
  have A1 := al1 w1 (.cells #[.int .u64 ax, .int .u64 ay, .int .u64 bx, .int .u64 b_y, .int .u64 cx, .int .u64 cy] 22)
  have S1 := sl_new6 w1 ax ay bx b_y cx cy
  obtain ⟨W1, hW1⟩ : ∃ W1, w1.alloc (.cells #[.int .u64 ax, .int .u64 ay, .int .u64 bx, .int .u64 b_y, .int .u64 cx, .int .u64 cy] 22) = W1 := ⟨_, rfl⟩
  obtain ⟨ga, hga⟩ : ∃ ga : Addr, ga = ⟨w1.heap.size, 0, none⟩ := ⟨_, rfl⟩
  rw [hW1, ← hga] at S1
  rw [hW1] at A1
  rw [hW1, ← hga]
  rw [← HL.out] at S1
  have HS1 := Lib.hid S1
  have D1 := Lib.hid (D.out.trans (A1.mono D.out.size))
  clear S1 A1 hW1 hga D
  go_loop [39, 15] (fun i s => ∃ (k : Nat) (b : Bool), k ≤ 6 ∧ i = .int .i64 k ∧ s = .int .i64 (if b then 4 else 0) ∧ Hid (b = (L.take k).any fun x => decide (F.exq x = 2047))) (fun i _ => 6 - (intOf i).toNat)
  case atStart => exact ⟨0, false, by omega, rfl, rfl, by show _ = _; simp⟩
  case round =>
    obtain ⟨k, b, hk, rfl, rfl, hz⟩ := hrel
    by_cases hkx : k < 6
    · obtain ⟨ad, c', e, hc', hb, hcell⟩ := HS1.out.at_ k (by rw [HL6.out]; exact hkx)
      injection e with e1 e2 e3
      injection e1 with e1
      subst e1
      clear e2 e3 hc' c' hb
      have ht := any_take (L := L) (k := k) (fun x => decide (F.exq x = 2047)) (by rw [HL6.out]; exact hkx)
      obtain ⟨q, hq⟩ : ∃ q, L.getD k 0 = q := ⟨_, rfl⟩
      have hm : q ∈ L := by
        rw [← hq, List.getD_eq_getElem?_getD, List.getElem?_eq_getElem (by rw [HL6.out]; exact hkx)]
        exact List.getElem_mem _
      have HQ := Lib.hid (HV.out W1 q hm)
      rw [hq] at hcell ht
      rw [← hz.out] at ht
      clear hq hm
      by_cases h0 : F.exq q = 2047
      · rw [decide_eq_true h0] at HQ ht
        have HT := Lib.hid ht
        clear h0 ht
        cases b
        all_goals (
          go_wp2_with (go_at_call 9; (with_reducible refine (HQ.out).mono ?_); rintro e w2 ⟨rfl, rfl⟩)
          go_round
          case rel => exact ⟨k + 1, true, by omega, by simp, rfl, by show _ = _; rw [HT.out]; rfl⟩
          case measure => simp [intOf]; omega)
      · rw [decide_eq_false h0] at HQ ht
        have HT := Lib.hid ht
        clear h0 ht
        cases b
        · go_wp2_with (go_at_call 9; (with_reducible refine (HQ.out).mono ?_); rintro e w2 ⟨rfl, rfl⟩)
          go_round
          case rel => exact ⟨k + 1, false, by omega, by simp, rfl, by show _ = _; rw [HT.out]; rfl⟩
          case measure => simp [intOf]; omega
        · go_wp2_with (go_at_call 9; (with_reducible refine (HQ.out).mono ?_); rintro e w2 ⟨rfl, rfl⟩)
          go_round
          case rel => exact ⟨k + 1, true, by omega, by simp, rfl, by show _ = _; rw [HT.out]; rfl⟩
          case measure => simp [intOf]; omega
    · obtain rfl : k = 6 := by omega
      have eb : b = b1 := by rw [HB1.out, hz.out, List.take_of_length_le (by rw [HL6.out]; omega)]
      subst eb
      clear hz hk hkx
      cases b
      · have F1 := Lib.hid (ff.out rfl)
        go_wp2
        have A2 := al1 W1 (.cells #[.int .u64 ax, .int .u64 ay, .int .u64 bx, .int .u64 b_y, .int .u64 cx, .int .u64 cy] 22)
        have S2 := sl_new6 W1 ax ay bx b_y cx cy
        obtain ⟨W2, hW2⟩ : ∃ W2, W1.alloc (.cells #[.int .u64 ax, .int .u64 ay, .int .u64 bx, .int .u64 b_y, .int .u64 cx, .int .u64 cy] 22) = W2 := ⟨_, rfl⟩
        obtain ⟨gb, hgb⟩ : ∃ gb : Addr, gb = ⟨W1.heap.size, 0, none⟩ := ⟨_, rfl⟩
        rw [hW2, ← hgb] at S2
        rw [hW2] at A2
        rw [hW2, ← hgb]
        rw [← HL.out] at S2
        have HS2 : Hid (∀ W : World, Below W2.heap.size W2 W → Sl .u64 W (.slice (some gb) 6 6) L) := fun W h => S2.below h
        have D2 := Lib.hid (D1.out.trans (A2.mono D1.out.size))
        clear S2 A2 hW2 hgb
        go_loopw [57, 15] (fun i s wr => ∃ (k : Nat) (b : Bool), k ≤ 6 ∧ i = .int .i64 k ∧ s = .int .i64 (if b then 2 else 0) ∧ Hid (b = (L.take k).any fun x => decide (gFr x)) ∧ Hid (Below W2.heap.size W2 wr)) (fun i _ _ => 6 - (intOf i).toNat)
        case atStart => exact ⟨0, false, by omega, rfl, rfl, by show _ = _; simp, Below.refl _ _⟩
        case round =>
          obtain ⟨k, b, hk, rfl, rfl, hz, hD⟩ := hrel
          by_cases hkx : k < 6
          · obtain ⟨ad, c', e, hc', hb, hcell⟩ := (HS2.out _ hD.out).at_ k (by rw [HL6.out]; exact hkx)
            injection e with e1 e2 e3
            injection e1 with e1
            subst e1
            clear e2 e3 hc' c' hb
            have ht := any_take (L := L) (k := k) (fun x => decide (gFr x)) (by rw [HL6.out]; exact hkx)
            obtain ⟨q, hq⟩ : ∃ q, L.getD k 0 = q := ⟨_, rfl⟩
            have hm : q ∈ L := by
              rw [← hq, List.getD_eq_getElem?_getD, List.getElem?_eq_getElem (by rw [HL6.out]; exact hkx)]
              exact List.getElem_mem _
            have HQ := Lib.hid (TF.out wr q (F1.out q hm))
            rw [hq] at hcell ht
            rw [← hz.out] at ht
            clear hq hm
            generalize decide (gFr q) = o at *
            have HT := Lib.hid ht
            clear ht
            cases o <;> cases b
            all_goals (
              go_wp2_with (go_at_call 10; (with_reducible refine (HQ.out).mono ?_); rintro e w2 ⟨rfl, hb⟩; have hD := Lib.hid (hD.out.trans (hb.mono hD.out.size)); clear hb)
              first
                | exact ⟨⟨k + 1, true, by omega, by simp, rfl, by show _ = _; rw [HT.out]; rfl, hD.out⟩, by simp only [intOf]; omega⟩
                | exact ⟨⟨k + 1, false, by omega, by simp, rfl, by show _ = _; rw [HT.out]; rfl, hD.out⟩, by simp only [intOf]; omega⟩)
          · obtain rfl : k = 6 := by omega
            have eb : b = b2 := by rw [HB2.out, hz.out, List.take_of_length_le (by rw [HL6.out]; omega)]
            subst eb
            clear hz hk hkx
            have D2 := Lib.hid (D2.out.trans (hD.out.mono D2.out.size))
            cases b
            · have k1 := KT.out.2.2 (by first | trivial | rfl) (by first | trivial | rfl)
              injection k1 with k1 k2
              have fx : ∀ x ∈ [ax, ay, bx, b_y, cx, cy], fi x := by rw [← HL.out]; exact F1.out
              have f1 := fx ax (by simp); have f2 := fx ay (by simp); have f3 := fx bx (by simp); have f4 := fx b_y (by simp); have f5 := fx cx (by simp); have f6 := fx cy (by simp)
              have LS1 : Hid (∀ W : World, Calls Tryd.prog 11 #[.int .u64 ax, .int .u64 cx] W (RetS M 2200 W (val ax - val cx))) := fun W => less_c M0.out ax cx W f1 f5
              have LS2 : Hid (∀ W : World, Calls Tryd.prog 11 #[.int .u64 b_y, .int .u64 cy] W (RetS M 2200 W (val b_y - val cy))) := fun W => less_c M0.out b_y cy W f4 f6
              have LS3 : Hid (∀ W : World, Calls Tryd.prog 11 #[.int .u64 ay, .int .u64 cy] W (RetS M 2200 W (val ay - val cy))) := fun W => less_c M0.out ay cy W f2 f6
              have LS4 : Hid (∀ W : World, Calls Tryd.prog 11 #[.int .u64 bx, .int .u64 cx] W (RetS M 2200 W (val bx - val cx))) := fun W => less_c M0.out bx cx W f3 f5
              unfold gDet at k1
              obtain ⟨s1, hs1⟩ : ∃ s, s = val ax - val cx := ⟨_, rfl⟩
              obtain ⟨s2, hs2⟩ : ∃ s, s = val b_y - val cy := ⟨_, rfl⟩
              obtain ⟨s3, hs3⟩ : ∃ s, s = val ay - val cy := ⟨_, rfl⟩
              obtain ⟨s4, hs4⟩ : ∃ s, s = val bx - val cx := ⟨_, rfl⟩
              rw [← hs1] at LS1 k1
              rw [← hs2] at LS2 k1
              rw [← hs3] at LS3 k1
              rw [← hs4] at LS4 k1
              obtain ⟨K, hK⟩ : ∃ K : Nat, K = 60000 := ⟨_, rfl⟩
              have m0 := M0.out
              have PX : Hid (∀ (W : World) (u v : Value) (s s' : Int), QS M 2200 W u s → QS M 2200 W v s' → ∃ p, p * 2 ^ K = s * s') := fun W u v s s' h h' => GC.QMul_x h h' (by omega) (by omega) (by omega) (by omega) hK
              have QM : Hid (∀ (W : World) (u v : Value) (s s' p : Int), QS M 2200 W u s → QS M 2200 W v s' → p * 2 ^ K = s * s' → Calls Tryd.prog 16 #[u, v] W (RetS (M + M) (2200 + 2200) W p)) := fun W u v s s' p h h' hp => GC.QMul_s h h' (by omega) (by omega) (by omega) (by omega) hK hp
              have CQ : Hid (∀ (W : World) (u v : Value) (s s' : Int), QS (M + M) (2200 + 2200) W u s → QS (M + M) (2200 + 2200) W v s' → Calls Tryd.prog 15 #[u, v] W fun e w' => e = .returned (.int .i64 (cmpv s s')) ∧ Below W.heap.size W w') := fun W u v s s' h h' => QCmp_s h h' (by omega) (by omega) (by omega) (by omega)
              have DC9 : Hid (∀ p q : Int, p * 2 ^ K = s1 * s2 → q * 2 ^ K = s3 * s4 → cmpv p q = n1) := fun p q hp hq => by rw [k1]; exact det_cmp hp hq
              subst k2
              clear k1 fx f1 f2 f3 f4 f5 f6 hs1 hs2 hs3 hs4 hK m0 hD
              go_wp2_with (first
                | (go_at_call 11; (with_reducible refine (LS1.out _).mono ?_); rintro e u1 ⟨b1, A1, n1, c1, t1, z1, rfl, hz, k1, k2, k3, k4, hb⟩; have Q1 := Lib.hid (RetS.qs hz k1 k2 k3 k4); have D2 := Lib.hid (D2.out.trans (hb.mono D2.out.size)); clear hz k1 k2 k3 k4 hb LS1)
                | (go_at_call 11; (with_reducible refine (LS2.out _).mono ?_); rintro e u2 ⟨b2, A2, n2, c2, t2, z2, rfl, hz, k1, k2, k3, k4, hb⟩; have Q1 := Lib.hid (Q1.out.below hb); have Q2 := Lib.hid (RetS.qs hz k1 k2 k3 k4); have D2 := Lib.hid (D2.out.trans (hb.mono D2.out.size)); clear hz k1 k2 k3 k4 hb LS2)
                | (go_at_call 16; obtain ⟨p5, hp5⟩ := PX.out _ _ _ _ _ Q1.out Q2.out; (with_reducible refine (QM.out _ _ _ _ _ p5 Q1.out Q2.out hp5).mono ?_); rintro e v5 ⟨b5, A5, n5, c5, t5, z5, rfl, hz, k1, k2, k3, k4, hb⟩; have Q5 := Lib.hid (RetS.qs hz k1 k2 k3 k4); have HP5 := Lib.hid hp5; have D2 := Lib.hid (D2.out.trans (hb.mono D2.out.size)); clear hz k1 k2 k3 k4 hb hp5 Q1 Q2)
                | (go_at_call 11; (with_reducible refine (LS3.out _).mono ?_); rintro e u3 ⟨b3, A3, n3, c3, t3, z3, rfl, hz, k1, k2, k3, k4, hb⟩; have Q5 := Lib.hid (Q5.out.below hb); have Q3 := Lib.hid (RetS.qs hz k1 k2 k3 k4); have D2 := Lib.hid (D2.out.trans (hb.mono D2.out.size)); clear hz k1 k2 k3 k4 hb LS3)
                | (go_at_call 11; (with_reducible refine (LS4.out _).mono ?_); rintro e u4 ⟨b4, A4, n4, c4, t4, z4, rfl, hz, k1, k2, k3, k4, hb⟩; have Q5 := Lib.hid (Q5.out.below hb); have Q3 := Lib.hid (Q3.out.below hb); have Q4 := Lib.hid (RetS.qs hz k1 k2 k3 k4); have D2 := Lib.hid (D2.out.trans (hb.mono D2.out.size)); clear hz k1 k2 k3 k4 hb LS4)
                | (go_at_call 16; obtain ⟨p6, hp6⟩ := PX.out _ _ _ _ _ Q3.out Q4.out; (with_reducible refine (QM.out _ _ _ _ _ p6 Q3.out Q4.out hp6).mono ?_); rintro e v6 ⟨b6, A6, n6, c6, t6, z6, rfl, hz, k1, k2, k3, k4, hb⟩; have Q5 := Lib.hid (Q5.out.below hb); have Q6 := Lib.hid (RetS.qs hz k1 k2 k3 k4); have HP6 := Lib.hid hp6; have D2 := Lib.hid (D2.out.trans (hb.mono D2.out.size)); clear hz k1 k2 k3 k4 hb hp6 Q3 Q4)
                | (go_at_call 15; (with_reducible refine (CQ.out _ _ _ _ _ Q5.out Q6.out).mono ?_); rintro e u7 ⟨rfl, hb⟩; rw [DC9.out _ _ HP5.out HP6.out]; have D2 := Lib.hid (D2.out.trans (hb.mono D2.out.size)); clear hb))
              go_ret
              exact ⟨rfl, D2.out⟩
            · have k1 := KT.out.2.1 (by first | trivial | rfl) (by first | trivial | rfl)
              injection k1 with k1 k2
              subst k1 k2
              go_wp2
              go_ret
              exact ⟨rfl, D2.out⟩
      · have k1 := KT.out.1 rfl
        injection k1 with k1 k2
        subst k1 k2
        go_wp2
        go_ret
        exact ⟨rfl, D1.out⟩
end XC
end Go.Proofs.YtelblhgagpkjmaaDoor
