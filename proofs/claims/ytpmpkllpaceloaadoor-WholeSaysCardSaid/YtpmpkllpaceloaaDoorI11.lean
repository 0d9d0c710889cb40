/-
  WholeSays: what it asks of the reference (its closures), told.
-/
import Derived.Test.YtpmpkllpaceloaaDoorI10
namespace Go.Proofs.YtpmpkllpaceloaaDoor
set_option linter.unusedVariables false
set_option linter.unusedSimpArgs false
open Go.RowKit
set_option linter.unusedVariables false
set_option linter.unusedSimpArgs false
namespace IC
open Z (Nz Tz cmpv big)
open L NC NK DC RC SC QC ZC VC
theorem told_badI (mode : Int) (F : Value) (w : World) (hm : mode < 0 ∨ 4 < mode) : Calls Tryd.prog 10 #[.int .u64 0, .bool false, .int .i64 1, .int .i64 mode, F] w fun e w' => e = .returned (.bool true) ∧ w = w' := by
  have BT := Lib.hid (FloatR.Between_f mode 0 4 hm w)
  clear hm
  go_enter Tryd.func10, Tryd.ntmps10
  go_wp2_with (go_at_call 24; (with_reducible refine (BT.out).mono ?_); rintro e w1 ⟨rfl, rfl⟩)
  go_ret
  exact ⟨rfl, rfl⟩
theorem mk0 (z : Int) : mkz z 0 = z ∧ mkt 0 = 0 := by
  unfold mkz mkt
  rw [if_pos (by decide), if_pos (by decide)]
  simp
/-- a whole number as a Q -/
theorem QMake_0 {va : Value} {z : Int} {w : World} (h : ZV w va z) (hb : z.natAbs < big 1000000) : Calls Tryd.prog 13 #[va, .int .i64 0] w (RetV w z 0) := by
  have := QMake_c va z 0 w h hb (by omega) (by omega)
  rwa [(mk0 z).1, (mk0 z).2] at this
/-- rounded: a whole number -/
theorem Rounded_0 {b : Bool} {A : Option Addr} {n c : Nat} {z mode : Int} {w : World} {M : Nat} (h : ZL w b A n c z) (hz : z.natAbs < 2 ^ M) (hM : M ≤ 200000) (g : Ok (fin z 0).d) (hS : S (fin z 0).d = sc z 0) (hm : 0 ≤ mode ∧ mode ≤ 4) :
    Calls Tryd.prog 12 #[.agg #[.bool b, .slice A n c, .int .i64 0], .int .i64 0, .int .i64 mode] w fun e w' => e = .returned (.tuple #[.int .u64 (TX (fin z 0).d mode), .bool (TL (fin z 0).d mode)]) ∧ Below w.heap.size w w' :=
  Rounded_t (M := M) (T := 1) (RetS.qs h hz (by omega) (by omega) (by rw [hS]; rfl)) hM (by omega) g hm
set_option maxRecDepth 100000 in
theorem cloI1 (n mode : Int) (g i : Nat) (w : World) (hn : -9223372036854775808 ≤ n ∧ n ≤ 9223372036854775807) (hm : 0 ≤ mode ∧ mode ≤ 4)
    (c0 : w.cell? ⟨g, 0, none⟩ = some (.int .i64 n)) (c1 : w.cell? ⟨i, 0, none⟩ = some (.int .i64 mode)) :
    Calls Tryd.prog 11 #[.pointer (some ⟨g, 0, none⟩), .pointer (some ⟨i, 0, none⟩)] w fun e w' => e = .returned (.tuple #[.int .u64 (FT n mode).1, .bool (FT n mode).2.1]) ∧ Below w.heap.size w w' := by
  obtain ⟨e0, hg, hS⟩ := int_fin hn
  have eF : (FT n mode).1 = TX (fin n 0).d mode ∧ (FT n mode).2.1 = TL (fin n 0).d mode := by unfold FT; rw [if_neg (by omega)]; exact ⟨rfl, rfl⟩
  have hz : n.natAbs < 2 ^ 64 := by
    have : (2 : Nat) ^ 64 = 18446744073709551616 := by decide
    omega
  have KB : Hid (∀ W, Below w.heap.size w W → W.cell? ⟨g, 0, none⟩ = some (.int .i64 n) ∧ W.cell? ⟨i, 0, none⟩ = some (.int .i64 mode)) := fun W h => ⟨(h.cell (p := ⟨g, 0, none⟩) (World.block_lt_of_cell? w _ c0)).trans c0, (h.cell (p := ⟨i, 0, none⟩) (World.block_lt_of_cell? w _ c1)).trans c1⟩
  have ZO : Hid (∀ W, Calls Tryd.prog 14 #[.int .i64 n] W (RetZ W n)) := fun W => ZOfInt_c n W hn.1 hn.2
  have QM : Hid (∀ W va, ZV W va n → Calls Tryd.prog 13 #[va, .int .i64 0] W (RetV W n 0)) := fun W va h => QMake_0 h (lt_big hz (by decide) (by decide))
  have RD : Hid (∀ W b A n' c, ZL W b A n' c n → Calls Tryd.prog 12 #[.agg #[.bool b, .slice A n' c, .int .i64 0], .int .i64 0, .int .i64 mode] W fun e w' => e = .returned (.tuple #[.int .u64 (TX (fin n 0).d mode), .bool (TL (fin n 0).d mode)]) ∧ Below W.heap.size W w') := fun W b A n' c h => Rounded_0 h hz (by decide) hg (by rw [hS]; exact (sc_mul1 n 0).symm) hm
  rw [eF.1, eF.2]
  generalize TX (fin n 0).d mode = x at *
  generalize TL (fin n 0).d mode = l at *
  clear e0 hg hS eF hz hn hm c0 c1
  go_enter Tryd.func11, Tryd.ntmps11
  go_upto_region 1 with fail
  have D : Below w.heap.size w w.drew := (Below.refl _ _).drew
  (refine wp_region_L (S := fun w' => w'.cell? ⟨g, 0, none⟩ = some (.int .i64 n) ∧ w'.cell? ⟨i, 0, none⟩ = some (.int .i64 mode)) (nl := 1000000) (by kernel_rfl) ?_ (fun hHeld => ?_); focus (exact KB.out _ D))
  (refine wpAnyL_take (i := 0) (oi := _) (v := ?_) rfl (by kernel_rfl) (by kernel_rfl) (by kernel_rfl) (fun _ _ _ h => h) (Or.inl ⟨by first | rfl | kernel_rfl, ?hy1⟩) (by assumption) ?rs1; (case hy1 => (intro w hSw; (try dsimp only at hSw); go_simp; first | done | with_reducible rfl)); case' rs1 => (simp only [List.getElem_toArray, List.getElem_cons_zero, List.getElem_cons_succ, Act.put, List.setIfInBounds_toArray, List.set_cons_zero, List.set_cons_succ])); (refine wpAnyL_take (i := 3) (oi := _) (v := ?_) rfl (by kernel_rfl) (by kernel_rfl) (by kernel_rfl) (fun _ _ _ h => h) (Or.inl ⟨by first | rfl | kernel_rfl, ?hy2⟩) (by assumption) ?rs2; (case hy2 => (intro w hSw; (try dsimp only at hSw); go_simp; first | done | with_reducible rfl)); case' rs2 => (simp only [List.getElem_toArray, List.getElem_cons_zero, List.getElem_cons_succ, Act.put, List.setIfInBounds_toArray, List.set_cons_zero, List.set_cons_succ])); skip
  (refine wpAnyL_one (i := 1) (o := _) (by kernel_rfl) rfl (fun K hK => ?_); clear hHeld; simp only [List.getElem_toArray, List.getElem_cons_zero, List.getElem_cons_succ]; go_simp; (go_at_call 14; (with_reducible refine (ZO.out _).mono ?_); rintro e w1 ⟨_, rfl, ⟨b1, A1, n1, c1, rfl, h1⟩, hb⟩; have D := D.trans (hb.mono D.size)); refine hK.out _ _ ?_ (fun hHeld => ?_); focus (intro _; exact KB.out _ D)); have hHeld := hHeld (by decide); clear hK K; (try simp only [Act.put, List.setIfInBounds_toArray, List.set_cons_zero, List.set_cons_succ])
  (refine wpAnyL_one (i := 2) (o := _) (by kernel_rfl) rfl (fun K hK => ?_); clear hHeld; simp only [List.getElem_toArray, List.getElem_cons_zero, List.getElem_cons_succ]; go_simp; (go_at_call 13; (with_reducible refine (QM.out _ _ h1.v).mono ?_); rintro e w2 ⟨b2, A2, n2, c2, rfl, h2, hb⟩; have D := D.trans (hb.mono D.size)); refine hK.out _ _ ?_ (fun hHeld => ?_); focus (intro _; exact KB.out _ D)); have hHeld := hHeld (by decide); clear hK K; (try simp only [Act.put, List.setIfInBounds_toArray, List.set_cons_zero, List.set_cons_succ])
  (refine wpAnyL_one (i := 4) (o := _) (by kernel_rfl) rfl (fun K hK => ?_); clear hHeld; simp only [List.getElem_toArray, List.getElem_cons_zero, List.getElem_cons_succ]; go_simp; (go_at_call 12; (with_reducible refine (RD.out _ _ _ _ _ h2).mono ?_); rintro e w3 ⟨rfl, hb⟩; have D := D.trans (hb.mono D.size)); refine hK.out _ _ ?_ (fun hHeld => ?_); focus (intro _; exact KB.out _ D)); have hHeld := hHeld (by decide); clear hK K; (try simp only [Act.put, List.setIfInBounds_toArray, List.set_cons_zero, List.set_cons_succ])
  (refine wpAnyL_take (i := 5) (oi := _) (v := ?_) rfl (by kernel_rfl) (by kernel_rfl) (by kernel_rfl) (fun _ _ _ h => h) (Or.inl ⟨by first | rfl | kernel_rfl, ?hy3⟩) (by assumption) ?rs3; (case hy3 => (intro w hSw; (try dsimp only at hSw); go_simp; first | done | with_reducible rfl)); case' rs3 => (simp only [List.getElem_toArray, List.getElem_cons_zero, List.getElem_cons_succ, Act.put, List.setIfInBounds_toArray, List.set_cons_zero, List.set_cons_succ])); (refine wpAnyL_take (i := 6) (oi := _) (v := ?_) rfl (by kernel_rfl) (by kernel_rfl) (by kernel_rfl) (fun _ _ _ h => h) (Or.inl ⟨by first | rfl | kernel_rfl, ?hy4⟩) (by assumption) ?rs4; (case hy4 => (intro w hSw; (try dsimp only at hSw); go_simp; first | done | with_reducible rfl)); case' rs4 => (simp only [List.getElem_toArray, List.getElem_cons_zero, List.getElem_cons_succ, Act.put, List.setIfInBounds_toArray, List.set_cons_zero, List.set_cons_succ])); (refine wpAnyL_take (i := 7) (oi := _) (v := ?_) rfl (by kernel_rfl) (by kernel_rfl) (by kernel_rfl) (fun _ _ _ h => h) (Or.inl ⟨by first | rfl | kernel_rfl, ?hy5⟩) (by assumption) ?rs5; (case hy5 => (intro w hSw; (try dsimp only at hSw); go_simp; first | done | with_reducible rfl)); case' rs5 => (simp only [List.getElem_toArray, List.getElem_cons_zero, List.getElem_cons_succ, Act.put, List.setIfInBounds_toArray, List.set_cons_zero, List.set_cons_succ])); (refine wpAnyL_take (i := 8) (oi := _) (v := ?_) rfl (by kernel_rfl) (by kernel_rfl) (by kernel_rfl) (fun _ _ _ h => h) (Or.inl ⟨by first | rfl | kernel_rfl, ?hy6⟩) (by assumption) ?rs6; (case hy6 => (intro w hSw; (try dsimp only at hSw); go_simp; first | done | with_reducible rfl)); case' rs6 => (simp only [List.getElem_toArray, List.getElem_cons_zero, List.getElem_cons_succ, Act.put, List.setIfInBounds_toArray, List.set_cons_zero, List.set_cons_succ])); skip
  refine wpAnyL_done (by kernel_rfl) ?_ _
  have D := Lib.hid D
  go_wp2
  go_ret2
  exact ⟨rfl, D.out⟩
theorem wn_lt {x mode : Int} (h : fi x) (hm : 0 ≤ mode ∧ mode ≤ 4) : (wn x mode).natAbs < 2 ^ 1100 := by
  obtain ⟨r, r0, r1, hr⟩ := whole_rank (mode := mode) rfl h rfl
  have um := U_max rfl
  have ul := U_le r0 r1
  have hp := P_pos
  obtain ⟨k, hk⟩ : ∃ k : Nat, k = 1024 := ⟨_, rfl⟩
  have e := sc_two k 0 (by omega)
  rw [sc_mul1] at e
  have e2 : sc 1 (0 + (k : Int)) = sc 1 1024 := by rw [hk]; rfl
  rw [e2] at e
  rw [← e] at um
  have hle : ((wn x mode).natAbs : Int) * sc 1 0 ≤ 2 ^ k * sc 1 0 := by
    unfold wn
    rw [hr]
    exact Int.le_trans ul um
  have h3 : ((wn x mode).natAbs : Int) ≤ 2 ^ k := Int.le_of_mul_le_mul_right hle hp
  have h4 : (2 : Int) ^ k = ((2 ^ k : Nat) : Int) := by rw [Int.natCast_pow]; rfl
  rw [h4] at h3
  have h5 := pow_lt3 (a := k) (b := 1100) (by omega)
  generalize (2 : Nat) ^ k = X at *
  generalize (2 : Nat) ^ 1100 = Y at *
  omega
set_option maxRecDepth 100000 in
theorem cloI2 (x mode : Int) (g i : Nat) (w : World) (hx : 0 ≤ x ∧ x ≤ 18446744073709551615) (hm : 0 ≤ mode ∧ mode ≤ 4)
    (c0 : w.cell? ⟨g, 0, none⟩ = some (.int .u64 x)) (c1 : w.cell? ⟨i, 0, none⟩ = some (.int .i64 mode)) :
    Calls Tryd.prog 15 #[.pointer (some ⟨g, 0, none⟩), .pointer (some ⟨i, 0, none⟩)] w fun e w' => e = .returned (.tuple #[.int .u64 (WT x mode).1, .bool (WT x mode).2.1]) ∧ Below w.heap.size w w' := by
  have KB : Hid (∀ W, Below w.heap.size w W → W.cell? ⟨g, 0, none⟩ = some (.int .u64 x) ∧ W.cell? ⟨i, 0, none⟩ = some (.int .i64 mode)) := fun W h => ⟨(h.cell (p := ⟨g, 0, none⟩) (World.block_lt_of_cell? w _ c0)).trans c0, (h.cell (p := ⟨i, 0, none⟩) (World.block_lt_of_cell? w _ c1)).trans c1⟩
  have IN : Hid (∀ W, Calls Tryd.prog 16 #[.int .u64 x] W fun e w' => e = .returned (.bool (F.cls x == 5)) ∧ W = w') := fun W => IsNan_c x hx.1 hx.2 W
  have II : Hid (∀ W, Calls Tryd.prog 18 #[.int .u64 x] W fun e w' => e = .returned (.bool (F.cls x == 4)) ∧ W = w') := fun W => IsInf_c x hx.1 hx.2 W
  have QN : Hid (∀ W, Calls Tryd.prog 17 #[] W fun e w' => e = .returned (.int .u64 9221120237041090560) ∧ W = w') := fun W => QuietNan_c W
  have D := Lib.hid (Below.refl w.heap.size w)
  by_cases h5 : F.cls x = 5
  · have e : (WT x mode).1 = 9221120237041090560 ∧ (WT x mode).2.1 = false := by unfold WT; rw [if_neg (by omega), if_pos h5]; exact ⟨rfl, rfl⟩
    rw [e.1, e.2]
    have tn : (F.cls x == 5) = true := by rw [h5]; rfl
    rw [tn] at IN
    clear e hx hm h5 tn
    go_enter Tryd.func15, Tryd.ntmps15
    go_wp2_with (first
      | (go_at_call 16; (with_reducible refine (IN.out _).mono ?_); rintro e w1 ⟨rfl, rfl⟩)
      | (go_at_call 17; (with_reducible refine (QN.out _).mono ?_); rintro e w2 ⟨rfl, rfl⟩))
    go_ret2
    exact ⟨rfl, D.out⟩
  · have tn : (F.cls x == 5) = false := by simp [h5]
    rw [tn] at IN
    by_cases h4 : F.cls x = 4
    · have e : (WT x mode).1 = x ∧ (WT x mode).2.1 = false := by unfold WT; rw [if_neg (by omega), if_neg h5, if_pos h4]; exact ⟨rfl, rfl⟩
      rw [e.1, e.2]
      have ti : (F.cls x == 4) = true := by rw [h4]; rfl
      rw [ti] at II
      clear e hx hm h5 tn h4 ti
      go_enter Tryd.func15, Tryd.ntmps15
      go_wp2_with (first
        | (go_at_call 16; (with_reducible refine (IN.out _).mono ?_); rintro e w1 ⟨rfl, rfl⟩)
        | (go_at_call 18; (with_reducible refine (II.out _).mono ?_); rintro e w2 ⟨rfl, rfl⟩))
      go_ret2
      exact ⟨rfl, D.out⟩
    · have ti : (F.cls x == 4) = false := by simp [h4]
      rw [ti] at II
      have hf : fi x := (fi_cls hx).2 ⟨h5, h4⟩
      have e := fi_wt hf hm
      obtain ⟨k1, k2⟩ := cwN_wn mode hf
      obtain ⟨q1, q2, q3⟩ := abs_fin hf hm rfl
      have q4 := wx_signed hf hm
      have hb := wn_lt hf hm
      have hb2 : ((wn x mode).natAbs : Int).natAbs < 2 ^ 1100 := by rw [Int.natAbs_natCast]; exact hb
      have CW : Hid (∀ W, Calls Tryd.prog 19 #[.int .u64 x, .int .i64 mode] W (RetW W (wn x mode) (lostW x))) := fun W => by
        have := CutWhole_c x mode W hx.1 hx.2 hm
        rwa [k1, k2] at this
      have ZA : Hid (∀ W va, ZV W va (wn x mode) → Calls Tryd.prog 20 #[va] W (RetZ0 W ((wn x mode).natAbs : Int))) := fun W va h => ZAbs_c va _ W h
      have QM : Hid (∀ W va, ZV W va ((wn x mode).natAbs : Int) → Calls Tryd.prog 13 #[va, .int .i64 0] W (RetV W ((wn x mode).natAbs : Int) 0)) := fun W va h => QMake_0 h (lt_big hb2 (by decide) (by decide))
      have RD : Hid (∀ W b A n' c, ZL W b A n' c ((wn x mode).natAbs : Int) → Calls Tryd.prog 12 #[.agg #[.bool b, .slice A n' c, .int .i64 0], .int .i64 0, .int .i64 0] W fun e w' => e = .returned (.tuple #[.int .u64 (TX (fin ((wn x mode).natAbs : Int) 0).d 0), .bool (TL (fin ((wn x mode).natAbs : Int) 0).d 0)]) ∧ Below W.heap.size W w') := fun W b A n' c h => Rounded_0 h hb2 (by decide) q1 q2 (by omega)
      rw [q3] at RD
      have SG : Hid (∀ W, Calls Tryd.prog 21 #[.int .u64 (WX x mode % 9223372036854775808), .bool (decide (9223372036854775808 ≤ x))] W fun e w' => e = .returned (.int .u64 (WX x mode)) ∧ W = w') := fun W => by
        have := Signed_c (WX x mode % 9223372036854775808) (decide (9223372036854775808 ≤ x)) W (by omega) (by omega)
        rwa [← q4] at this
      have MI : Hid (∀ W, Calls Tryd.prog 22 #[.int .u64 x] W fun e w' => e = .returned (.bool (decide (9223372036854775808 ≤ x))) ∧ W = w') := fun W => Minus_c x W
      rw [e]
      dsimp only
      generalize WX x mode % 9223372036854775808 = bits at *
      generalize TL (fin ((wn x mode).natAbs : Int) 0).d 0 = l2 at *
      generalize ((wn x mode).natAbs : Int) = n at *
      generalize wn x mode = z at *
      generalize lostW x = l at *
      generalize WX x mode = y at *
      generalize decide (9223372036854775808 ≤ x) = neg at *
      clear e hx hm h5 tn h4 ti hf k1 k2 q1 q2 q3 q4 hb hb2
      go_enter Tryd.func15, Tryd.ntmps15
      go_wp2_with (first
        | (go_at_call 16; (with_reducible refine (IN.out _).mono ?_); rintro e w1 ⟨rfl, rfl⟩)
        | (go_at_call 18; (with_reducible refine (II.out _).mono ?_); rintro e w2 ⟨rfl, rfl⟩)
        | (go_at_call 19; (with_reducible refine (CW.out _).mono ?_); rintro e w3 ⟨b3, A3, n3, c3, rfl, hv, hb⟩; have s := hb.alloc hb.size (.cells #[.bool b3, .slice A3 n3 c3] 34); have hv := hv.alloc (.cells #[.bool b3, .slice A3 n3 c3] 34); have D := Lib.hid (D.out.trans (s.mono D.out.size)); obtain ⟨k0, k1⟩ := KB.out _ D.out; clear hb s)
        | (go_at_call 20; (with_reducible refine (ZA.out _ _ hv.v).mono ?_); rintro e w4 ⟨v4, rfl, ⟨b4, A4, n4, c4, rfl, hv4⟩, hb⟩; have D := Lib.hid (D.out.trans (hb.mono D.out.size)); obtain ⟨k0, k1⟩ := KB.out _ D.out; clear hb)
        | (go_at_call 13; (with_reducible refine (QM.out _ _ hv4.v).mono ?_); rintro e w5 ⟨b5, A5, n5, c5, rfl, hv5, hb⟩; have D := Lib.hid (D.out.trans (hb.mono D.out.size)); obtain ⟨k0, k1⟩ := KB.out _ D.out; clear hb)
        | (go_at_call 12; (with_reducible refine (RD.out _ _ _ _ _ hv5).mono ?_); rintro e w6 ⟨rfl, hb⟩; have D := Lib.hid (D.out.trans (hb.mono D.out.size)); obtain ⟨k0, k1⟩ := KB.out _ D.out; clear hb)
        | (go_at_call 22; (with_reducible refine (MI.out _).mono ?_); rintro e w7 ⟨rfl, rfl⟩)
        | (go_at_call 21; (with_reducible refine (SG.out _).mono ?_); rintro e w8 ⟨rfl, rfl⟩))
      go_ret2
      exact ⟨rfl, D.out⟩
end IC
end Go.Proofs.YtpmpkllpaceloaaDoor
