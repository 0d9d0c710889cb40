/-
  WholeSays: the walk.
-/
import Derived.Test.YtpmpkllpaceloaaDoorI11
namespace Go.Proofs.YtpmpkllpaceloaaDoor
set_option linter.unusedVariables false
set_option linter.unusedSimpArgs false
open Go.RowKit
set_option linter.unusedVariables false
set_option linter.unusedSimpArgs false
namespace IC
open Z (Nz Tz cmpv big)
open L NC NK DC RC SC QC ZC VC
theorem toldI1 (x mode : Int) (l : Bool) (g i : Nat) (w : World) (hm : 0 ≤ mode ∧ mode ≤ 4)
    (CL : Calls Tryd.prog 11 #[.pointer (some ⟨g, 0, none⟩), .pointer (some ⟨i, 0, none⟩)] w fun e w' => e = .returned (.tuple #[.int .u64 x, .bool l]) ∧ Below w.heap.size w w') :
    Calls Tryd.prog 10 #[.int .u64 x, .bool l, .int .i64 0, .int .i64 mode, .func (.func 11) #[] #[.pointer (some ⟨g, 0, none⟩), .pointer (some ⟨i, 0, none⟩)]] w fun e w' => e = .returned (.bool true) ∧ Below w.heap.size w w' := by
  have BT := Lib.hid (FloatR.Between_t mode 0 4 hm.1 hm.2 w)
  have CL := Lib.hid CL
  have tx : (x == x) = true := by simp
  have tl : (l == l) = true := by simp
  clear hm
  go_enter Tryd.func10, Tryd.ntmps10
  go_wp2_with (first
    | (go_at_call 24; (with_reducible refine (BT.out).mono ?_); rintro e w1 ⟨rfl, rfl⟩)
    | (go_at_call 11; (with_reducible refine (CL.out).mono ?_); rintro e w2 ⟨rfl, hb⟩; have hb := Lib.hid hb))
  go_ret
  exact ⟨rfl, hb.out⟩
theorem toldI2 (x mode : Int) (l : Bool) (g i : Nat) (w : World) (hm : 0 ≤ mode ∧ mode ≤ 4)
    (CL : Calls Tryd.prog 15 #[.pointer (some ⟨g, 0, none⟩), .pointer (some ⟨i, 0, none⟩)] w fun e w' => e = .returned (.tuple #[.int .u64 x, .bool l]) ∧ Below w.heap.size w w') :
    Calls Tryd.prog 10 #[.int .u64 x, .bool l, .int .i64 0, .int .i64 mode, .func (.func 15) #[] #[.pointer (some ⟨g, 0, none⟩), .pointer (some ⟨i, 0, none⟩)]] w fun e w' => e = .returned (.bool true) ∧ Below w.heap.size w w' := by
  have BT := Lib.hid (FloatR.Between_t mode 0 4 hm.1 hm.2 w)
  have CL := Lib.hid CL
  have tx : (x == x) = true := by simp
  have tl : (l == l) = true := by simp
  clear hm
  go_enter Tryd.func10, Tryd.ntmps10
  go_wp2_with (first
    | (go_at_call 24; (with_reducible refine (BT.out).mono ?_); rintro e w1 ⟨rfl, rfl⟩)
    | (go_at_call 15; (with_reducible refine (CL.out).mono ?_); rintro e w2 ⟨rfl, hb⟩; have hb := Lib.hid hb))
  go_ret
  exact ⟨rfl, hb.out⟩
set_option maxRecDepth 100000 in
set_option maxHeartbeats 16000000 in
theorem saysI_c (x n mode : Int) (w : World) (hx : 0 ≤ x ∧ x ≤ 18446744073709551615) (hn : -9223372036854775808 ≤ n ∧ n ≤ 9223372036854775807) (hT : NC.TabD w) :
    Calls Tryd.prog 3 #[.int .u64 x, .int .i64 n, .int .i64 mode] w fun e w' => e = .returned (.bool true) ∧ Below w.heap.size w w' := by
  obtain ⟨W0, hW0⟩ : ∃ W0, ((w.alloc (.cells #[.int .u64 x] 22)).alloc (.cells #[.int .i64 n] 3)).alloc (.cells #[.int .i64 mode] 3) = W0 := ⟨_, rfl⟩
  have N1 : Blk W0 w.heap.size 22 #[.int .u64 x] := by rw [← hW0]; exact ((Blk.new w _ _).alloc _).alloc _
  have N2 : Blk W0 (w.heap.size + 1) 3 #[.int .i64 n] := by rw [← hW0]; exact (Blk.new' (w.alloc (.cells #[.int .u64 x] 22)) _ _ (by simp)).alloc _
  have N4 : Blk W0 (w.heap.size + 2) 3 #[.int .i64 mode] := by rw [← hW0]; exact Blk.new' _ _ _ (by simp)
  have D0 : Below w.heap.size w W0 := by rw [← hW0]; exact ((al1 w _).trans ((al1 _ _).mono (by simp))).trans ((al1 _ _).mono (by simp; omega))
  have KB : Hid (∀ W, Below W0.heap.size W0 W → W.cell? ⟨w.heap.size, 0, none⟩ = some (.int .u64 x) ∧ W.cell? ⟨w.heap.size + 1, 0, none⟩ = some (.int .i64 n) ∧ W.cell? ⟨w.heap.size + 2, 0, none⟩ = some (.int .i64 mode)) := fun W h => ⟨(N1.below h N1.lt).at_ 0 rfl, (N2.below h N2.lt).at_ 0 rfl, (N4.below h N4.lt).at_ 0 rfl⟩
  have A1 : Hid (Calls Tryd.prog 7 #[.int .u64 x, .int .i64 mode] W0 (DC.RetB W0 (ATv (WT x mode)))) := Round_c x mode W0 hx (hT.below D0)
  have A2 : Hid (∀ W, Below W0.heap.size W0 W → Calls Tryd.prog 8 #[.int .u64 x, .int .i64 mode] W (DC.RetB W (ItV (IT x mode)))) := fun W hW => Int_c x mode W hx ((hT.below D0).below hW)
  have A3 : Hid (∀ W, Below W0.heap.size W0 W → Calls Tryd.prog 9 #[.int .i64 n, .int .i64 mode] W (DC.RetB W (ATv (FT n mode)))) := fun W hW => From_c n mode W hn ((hT.below D0).below hW)
  have IS : Hid (∀ W, Below W0.heap.size W0 W → Calls Tryd.prog 23 #[.int .u64 x] W (DC.RetB W (.bool (WI x)))) := fun W hW => Is_c x W hx ((hT.below D0).below hW)
  have T1 : Hid (∀ (W : World), Below W0.heap.size W0 W → Calls Tryd.prog 10 #[.int .u64 (FT n mode).1, .bool (FT n mode).2.1, .int .i64 (FT n mode).2.2, .int .i64 mode, .func (.func 11) #[] #[.pointer (some ⟨w.heap.size + 1, 0, none⟩), .pointer (some ⟨w.heap.size + 2, 0, none⟩)]] W fun e w' => e = .returned (.bool true) ∧ Below W.heap.size W w') := fun W hW => by
    by_cases hm : 0 ≤ mode ∧ mode ≤ 4
    · have := toldI1 (FT n mode).1 mode (FT n mode).2.1 _ _ W hm (cloI1 n mode _ _ W hn hm (KB.out W hW).2.1 (KB.out W hW).2.2)
      rw [show (FT n mode).2.2 = 0 by unfold FT; rw [if_neg (by omega)]]
      exact this
    · rw [show FT n mode = (0, false, 1) by unfold FT; rw [if_pos hm]]
      exact (told_badI mode _ W (by omega)).mono fun e w' ⟨h1, h2⟩ => ⟨h1, h2 ▸ Below.refl _ _⟩
  have T2 : Hid (∀ (W : World), Below W0.heap.size W0 W → Calls Tryd.prog 10 #[.int .u64 (WT x mode).1, .bool (WT x mode).2.1, .int .i64 (WT x mode).2.2, .int .i64 mode, .func (.func 15) #[] #[.pointer (some ⟨w.heap.size, 0, none⟩), .pointer (some ⟨w.heap.size + 2, 0, none⟩)]] W fun e w' => e = .returned (.bool true) ∧ Below W.heap.size W w') := fun W hW => by
    by_cases hm : 0 ≤ mode ∧ mode ≤ 4
    · have := toldI2 (WT x mode).1 mode (WT x mode).2.1 _ _ W hm (cloI2 x mode _ _ W hx hm (KB.out W hW).1 (KB.out W hW).2.2)
      rw [(it_wt hx hm).1]
      exact this
    · rw [(no_wt hm).1]
      exact (told_badI mode _ W (by omega)).mono fun e w' ⟨h1, h2⟩ => ⟨h1, h2 ▸ Below.refl _ _⟩
  have IN : Hid (∀ W, Calls Tryd.prog 16 #[.int .u64 x] W fun e w' => e = .returned (.bool (F.cls x == 5)) ∧ W = w') := fun W => IsNan_c x hx.1 hx.2 W
  have II : Hid (∀ W, Calls Tryd.prog 18 #[.int .u64 x] W fun e w' => e = .returned (.bool (F.cls x == 4)) ∧ W = w') := fun W => IsInf_c x hx.1 hx.2 W
  have CW : fi x → ∀ m, 0 ≤ m ∧ m ≤ 4 → ∀ W, Calls Tryd.prog 19 #[.int .u64 x, .int .i64 m] W (RetW W (wn x m) (lostW x)) := fun hf m hm W => by
    have := CutWhole_c x m W hx.1 hx.2 hm
    rwa [(cwN_wn m hf).1, (cwN_wn m hf).2] at this
  have BT : Hid (∀ W, Calls Tryd.prog 24 #[.int .i64 mode, .int .i64 0, .int .i64 4] W fun e w' => e = .returned (.bool (decide (0 ≤ mode ∧ mode ≤ 4))) ∧ W = w') := fun W => by
    by_cases hm : 0 ≤ mode ∧ mode ≤ 4
    · rw [decide_eq_true hm]; exact FloatR.Between_t mode 0 4 hm.1 hm.2 W
    · rw [decide_eq_false hm]; exact FloatR.Between_f mode 0 4 (by omega) W
  have HW0 := Lib.hid hW0
  have D0 := Lib.hid D0
  -- what is told, case by case
  have key : ∃ kt : Bool × Int, kt = (decide (0 ≤ mode ∧ mode ≤ 4), F.cls x) := ⟨_, rfl⟩
  clear key
  have ks : (¬ fi x ∧ (F.cls x = 5 ∨ F.cls x = 4) ∧ WI x = false) ∨ (fi x ∧ (F.cls x == 5) = false ∧ (F.cls x == 4) = false ∧ WI x = !(lostW x)) := by
    by_cases hf : fi x
    · have hc := cls_fi.2 hf.2.2
      right
      refine ⟨hf, by simp [hc.1], by simp [hc.2], ?_⟩
      unfold WI
      rw [decide_eq_false (by omega)]; simp
    · left
      have hc : F.cls x = 5 ∨ F.cls x = 4 := by
        rcases Classical.em (F.cls x = 5 ∨ F.cls x = 4) with h | h
        · exact h
        · exact absurd ((fi_cls hx).2 ⟨fun q => h (.inl q), fun q => h (.inr q)⟩) hf
      refine ⟨hf, hc, ?_⟩
      unfold WI
      rw [decide_eq_true hc]; rfl
  have ke : IT x mode = if ¬ (0 ≤ mode ∧ mode ≤ 4) then (0, false, 1) else if F.cls x = 5 ∨ F.cls x = 4 then (0, false, 4) else if -9223372036854775808 ≤ wn x mode ∧ wn x mode ≤ 9223372036854775807 then (wn x mode, lostW x, 0) else (0, false, 4) := rfl
  unfold ATv at A1 A3
  unfold ItV at A2
  generalize WT x mode = ta at *
  generalize FT n mode = tb at *
  obtain ⟨a1, a2, a3⟩ := ta
  obtain ⟨f1, f2, f3⟩ := tb
  dsimp only at A1 A3 T1 T2
  clear hn hT hW0 N1 N2 N4
  rcases ks with ⟨hf, hc, hw⟩ | ⟨hf, c5, c4, hw⟩
  · rw [hw] at IS
    have ke2 : ∃ e : Int, IT x mode = (0, false, e) ∧ ((0 ≤ mode ∧ mode ≤ 4) ∧ e = 4 ∨ ¬ (0 ≤ mode ∧ mode ≤ 4) ∧ e = 1) := by
      by_cases hm : 0 ≤ mode ∧ mode ≤ 4
      · exact ⟨4, by rw [ke, if_neg (by omega), if_pos hc], .inl ⟨hm, rfl⟩⟩
      · exact ⟨1, by rw [ke, if_pos hm], .inr ⟨hm, rfl⟩⟩
    obtain ⟨e9, ke2, hm⟩ := ke2
    rw [ke2] at A2
    dsimp only at A2
    clear ke ke2 CW hf hw hx
    rcases hc with hc | hc
    all_goals (
      rw [hc] at IN II
      clear hc
      simp only [show ((5 : Int) == 5) = true from rfl, show ((4 : Int) == 5) = false from rfl, show ((4 : Int) == 4) = true from rfl] at IN II
      rcases hm with ⟨hm, rfl⟩ | ⟨hm, rfl⟩
      · rw [decide_eq_true hm] at BT
        clear hm
        go_enter Tryd.func3, Tryd.ntmps3
        go_wp2_with (first
          | (go_at_call 7; rw [HW0.out]; (with_reducible refine (A1.out).mono ?_); rintro e w1 ⟨rfl, hb⟩; have D := Lib.hid (hb); clear hb; obtain ⟨k0, k1, k2⟩ := KB.out _ D.out)
          | (go_at_call 8; (with_reducible refine (A2.out _ D.out).mono ?_); rintro e w2 ⟨rfl, hb⟩; have D := Lib.hid (D.out.trans (hb.mono D.out.size)); clear hb; obtain ⟨k0, k1, k2⟩ := KB.out _ D.out)
          | (go_at_call 9; (with_reducible refine (A3.out _ D.out).mono ?_); rintro e w3 ⟨rfl, hb⟩; have D := Lib.hid (D.out.trans (hb.mono D.out.size)); clear hb; obtain ⟨k0, k1, k2⟩ := KB.out _ D.out)
          | (go_at_call 10; (with_reducible refine (T1.out _ D.out).mono ?_); rintro e w4 ⟨rfl, hb⟩; have D := Lib.hid (D.out.trans (hb.mono D.out.size)); clear hb; obtain ⟨k0, k1, k2⟩ := KB.out _ D.out)
          | (go_at_call 10; (with_reducible refine (T2.out _ D.out).mono ?_); rintro e w5 ⟨rfl, hb⟩; have D := Lib.hid (D.out.trans (hb.mono D.out.size)); clear hb; obtain ⟨k0, k1, k2⟩ := KB.out _ D.out)
          | (go_at_call 16; (with_reducible refine (IN.out _).mono ?_); rintro e w6 ⟨rfl, rfl⟩)
          | (go_at_call 18; (with_reducible refine (II.out _).mono ?_); rintro e w7 ⟨rfl, rfl⟩)
          | (go_at_call 23; (with_reducible refine (IS.out _ D.out).mono ?_); rintro e w8 ⟨rfl, hb⟩; have D := Lib.hid (D.out.trans (hb.mono D.out.size)); clear hb; obtain ⟨k0, k1, k2⟩ := KB.out _ D.out)
          | (go_at_call 24; (with_reducible refine (BT.out _).mono ?_); rintro e w9 ⟨rfl, rfl⟩))
        go_ret
        exact ⟨rfl, D0.out.trans (D.out.mono D0.out.size)⟩
      · rw [decide_eq_false hm] at BT
        clear hm
        go_enter Tryd.func3, Tryd.ntmps3
        go_wp2_with (first
          | (go_at_call 7; rw [HW0.out]; (with_reducible refine (A1.out).mono ?_); rintro e w1 ⟨rfl, hb⟩; have D := Lib.hid (hb); clear hb; obtain ⟨k0, k1, k2⟩ := KB.out _ D.out)
          | (go_at_call 8; (with_reducible refine (A2.out _ D.out).mono ?_); rintro e w2 ⟨rfl, hb⟩; have D := Lib.hid (D.out.trans (hb.mono D.out.size)); clear hb; obtain ⟨k0, k1, k2⟩ := KB.out _ D.out)
          | (go_at_call 9; (with_reducible refine (A3.out _ D.out).mono ?_); rintro e w3 ⟨rfl, hb⟩; have D := Lib.hid (D.out.trans (hb.mono D.out.size)); clear hb; obtain ⟨k0, k1, k2⟩ := KB.out _ D.out)
          | (go_at_call 10; (with_reducible refine (T1.out _ D.out).mono ?_); rintro e w4 ⟨rfl, hb⟩; have D := Lib.hid (D.out.trans (hb.mono D.out.size)); clear hb; obtain ⟨k0, k1, k2⟩ := KB.out _ D.out)
          | (go_at_call 10; (with_reducible refine (T2.out _ D.out).mono ?_); rintro e w5 ⟨rfl, hb⟩; have D := Lib.hid (D.out.trans (hb.mono D.out.size)); clear hb; obtain ⟨k0, k1, k2⟩ := KB.out _ D.out)
          | (go_at_call 16; (with_reducible refine (IN.out _).mono ?_); rintro e w6 ⟨rfl, rfl⟩)
          | (go_at_call 18; (with_reducible refine (II.out _).mono ?_); rintro e w7 ⟨rfl, rfl⟩)
          | (go_at_call 23; (with_reducible refine (IS.out _ D.out).mono ?_); rintro e w8 ⟨rfl, hb⟩; have D := Lib.hid (D.out.trans (hb.mono D.out.size)); clear hb; obtain ⟨k0, k1, k2⟩ := KB.out _ D.out)
          | (go_at_call 24; (with_reducible refine (BT.out _).mono ?_); rintro e w9 ⟨rfl, rfl⟩))
        go_ret
        exact ⟨rfl, D0.out.trans (D.out.mono D0.out.size)⟩)
  · rw [c5] at IN
    rw [c4] at II
    rw [hw] at IS
    have hcl : ¬ (F.cls x = 5 ∨ F.cls x = 4) := by
      intro h
      rcases h with h | h
      · rw [h] at c5; cases c5
      · rw [h] at c4; cases c4
    have C3 := Lib.hid (CW hf 3 (by omega))
    have tl : ((!lostW x) != (!lostW x)) = false := by simp
    by_cases hm : 0 ≤ mode ∧ mode ≤ 4
    · rw [if_neg (by omega), if_neg hcl] at ke
      rw [decide_eq_true hm] at BT
      have CM := Lib.hid (CW hf mode hm)
      have hb := wn_lt hf hm
      generalize wn x mode = z at *
      generalize wn x 3 = z3 at *
      generalize lostW x = l at *
      have hz : z.natAbs < big 1000000 := lt_big hb (by decide) (by decide)
      have NN : Hid (∀ W, Calls Tryd.prog 26 #[.int .i64 (-9223372036854775808)] W (RetZ W (-9223372036854775808))) := fun W => N_c _ (by omega) (by omega) W
      have NP : Hid (∀ W, Calls Tryd.prog 26 #[.int .i64 9223372036854775807] W (RetZ W 9223372036854775807)) := fun W => N_c _ (by omega) (by omega) W
      have b1 : (-9223372036854775808 : Int).natAbs < big 1000000 := lt_big (M := 64) (by decide) (by decide) (by decide)
      have b2 : (9223372036854775807 : Int).natAbs < big 1000000 := lt_big (M := 64) (by decide) (by decide) (by decide)
      have ZN : ∀ W va vb, ZV W va z → ZV W vb (-9223372036854775808) → Calls Tryd.prog 25 #[va, vb] W fun e w' => e = .returned (.int .i64 (cmpv z (-9223372036854775808))) ∧ Below W.heap.size W w' := fun W va vb h1 h2 => ZCmp_c va vb _ _ W h1 h2 hz b1
      have ZP : ∀ W va vb, ZV W va z → ZV W vb 9223372036854775807 → Calls Tryd.prog 25 #[va, vb] W fun e w' => e = .returned (.int .i64 (cmpv z 9223372036854775807)) ∧ Below W.heap.size W w' := fun W va vb h1 h2 => ZCmp_c va vb _ _ W h1 h2 hz b2
      clear CW hf hw hx hm c5 c4 hcl hb b1 b2
      by_cases q1 : z < -9223372036854775808
      · rw [if_neg (by omega)] at ke
        rw [ke] at A2
        dsimp only at A2
        rw [Z.cmpv_lt q1] at ZN
        have ZN := Lib.hid ZN
        clear ke q1 ZP NP hz
        go_enter Tryd.func3, Tryd.ntmps3
        go_upto_region 20 with (first
          | (go_at_call 7; rw [HW0.out]; (with_reducible refine (A1.out).mono ?_); rintro e w1 ⟨rfl, hb⟩; have D := Lib.hid (hb); clear hb; obtain ⟨k0, k1, k2⟩ := KB.out _ D.out)
          | (go_at_call 8; (with_reducible refine (A2.out _ D.out).mono ?_); rintro e w2 ⟨rfl, hb⟩; have D := Lib.hid (D.out.trans (hb.mono D.out.size)); clear hb; obtain ⟨k0, k1, k2⟩ := KB.out _ D.out)
          | (go_at_call 9; (with_reducible refine (A3.out _ D.out).mono ?_); rintro e w3 ⟨rfl, hb⟩; have D := Lib.hid (D.out.trans (hb.mono D.out.size)); clear hb; obtain ⟨k0, k1, k2⟩ := KB.out _ D.out)
          | (go_at_call 10; (with_reducible refine (T1.out _ D.out).mono ?_); rintro e w4 ⟨rfl, hb⟩; have D := Lib.hid (D.out.trans (hb.mono D.out.size)); clear hb; obtain ⟨k0, k1, k2⟩ := KB.out _ D.out)
          | (go_at_call 10; (with_reducible refine (T2.out _ D.out).mono ?_); rintro e w5 ⟨rfl, hb⟩; have D := Lib.hid (D.out.trans (hb.mono D.out.size)); clear hb; obtain ⟨k0, k1, k2⟩ := KB.out _ D.out)
          | (go_at_call 16; (with_reducible refine (IN.out _).mono ?_); rintro e w6 ⟨rfl, rfl⟩)
          | (go_at_call 18; (with_reducible refine (II.out _).mono ?_); rintro e w7 ⟨rfl, rfl⟩)
          | (go_at_call 19; (with_reducible refine (C3.out _).mono ?_); rintro e w8 ⟨b8, A8, n8, c8, rfl, hv, hb⟩; have s := hb.alloc hb.size (.cells #[.bool b8, .slice A8 n8 c8] 34); have D := Lib.hid (D.out.trans (s.mono D.out.size)); clear hb s; obtain ⟨k0, k1, k2⟩ := KB.out _ D.out)
          | (go_at_call 23; (with_reducible refine (IS.out _ D.out).mono ?_); rintro e w9 ⟨rfl, hb⟩; have D := Lib.hid (D.out.trans (hb.mono D.out.size)); clear hb; obtain ⟨k0, k1, k2⟩ := KB.out _ D.out)
          | (go_at_call 24; (with_reducible refine (BT.out _).mono ?_); rintro e w10 ⟨rfl, rfl⟩)
          | (go_at_call 19; (with_reducible refine (CM.out _).mono ?_); rintro e w11 ⟨bz, Az, nz, cz, rfl, hv, hb⟩; have D := Lib.hid (D.out.trans (hb.mono D.out.size)); clear hb))
        have X1 := Blk.new w11 34 #[.bool bz, .slice Az nz cz]
        have V1 := hv.alloc (.cells #[.bool bz, .slice Az nz cz] 34)
        have D3 : Below W0.heap.size W0 (w11.alloc (.cells #[.bool bz, .slice Az nz cz] 34)) := D.out.alloc D.out.size _
        obtain ⟨W1, hW1⟩ : ∃ W1, w11.alloc (.cells #[.bool bz, .slice Az nz cz] 34) = W1 := ⟨_, rfl⟩
        obtain ⟨g8, hg8⟩ : ∃ g8, w11.heap.size = g8 := ⟨_, rfl⟩
        rw [hW1] at X1 V1 D3 ⊢
        rw [hg8] at X1 ⊢
        have KZ : Hid (∀ W, Below W1.heap.size W1 W → W.cell? ⟨g8, 0, none⟩ = some (.bool bz) ∧ W.cell? ⟨g8, 1, none⟩ = some (.slice Az nz cz)) := fun W h => ⟨(X1.below h X1.lt).at_ 0 rfl, (X1.below h X1.lt).at_ 1 rfl⟩
        have VZ : Hid (∀ W, Below W1.heap.size W1 W → ZV W (.agg #[.bool bz, .slice Az nz cz]) z) := fun W h => (V1.below h).v
        have D3 := Lib.hid D3
        clear hW1 hg8 D hv X1 V1
        have D : Below W1.heap.size W1 W1.drew := (Below.refl _ _).drew
        (refine wp_region_L (S := fun w' => w'.cell? ⟨g8, 0, none⟩ = some (.bool bz) ∧ w'.cell? ⟨g8, 1, none⟩ = some (.slice Az nz cz)) (nl := 1000000) (by kernel_rfl) ?_ (fun hHeld => ?_); focus (exact KZ.out _ D))
        (refine wpAnyL_take (i := 0) (oi := _) (v := ?_) rfl (by kernel_rfl) (by kernel_rfl) (by kernel_rfl) (fun _ _ _ h => h) (Or.inl ⟨by first | rfl | kernel_rfl, ?hy1⟩) (by assumption) ?rs1; (case hy1 => (intro w hSw; (try dsimp only at hSw); go_simp; first | done | with_reducible rfl)); case' rs1 => (simp only [List.getElem_toArray, List.getElem_cons_zero, List.getElem_cons_succ, Act.put, List.setIfInBounds_toArray, List.set_cons_zero, List.set_cons_succ])); skip
        (refine wpAnyL_one (i := 1) (o := _) (by kernel_rfl) rfl (fun K hK => ?_); clear hHeld; simp only [List.getElem_toArray, List.getElem_cons_zero, List.getElem_cons_succ]; go_simp; (go_at_call 26; (with_reducible refine (NN.out _).mono ?_); rintro e v1 ⟨_, rfl, ⟨q1, Q1, m1, d1, rfl, h1⟩, hb1⟩; have D := D.trans (hb1.mono D.size)); refine hK.out _ _ ?_ (fun hHeld => ?_); focus (intro _; exact KZ.out _ D)); have hHeld := hHeld (by decide); clear hK K; (try simp only [Act.put, List.setIfInBounds_toArray, List.set_cons_zero, List.set_cons_succ])
        (refine wpAnyL_one (i := 2) (o := _) (by kernel_rfl) rfl (fun K hK => ?_); clear hHeld; simp only [List.getElem_toArray, List.getElem_cons_zero, List.getElem_cons_succ]; go_simp; (go_at_call 25; (with_reducible refine (ZN.out _ _ _ (VZ.out _ D) h1.v).mono ?_); rintro e v2 ⟨rfl, hb2⟩; have D := D.trans (hb2.mono D.size)); refine hK.out _ _ ?_ (fun hHeld => ?_); focus (intro _; exact KZ.out _ D)); have hHeld := hHeld (by decide); clear hK K; (try simp only [Act.put, List.setIfInBounds_toArray, List.set_cons_zero, List.set_cons_succ])
        (refine wpAnyL_take (i := 3) (oi := _) (v := ?_) rfl (by kernel_rfl) (by kernel_rfl) (by kernel_rfl) (fun _ _ _ h => h) (Or.inl ⟨by first | rfl | kernel_rfl, ?hy2⟩) (by assumption) ?rs2; (case hy2 => (intro w hSw; (try dsimp only at hSw); go_simp; first | done | with_reducible rfl)); case' rs2 => (simp only [List.getElem_toArray, List.getElem_cons_zero, List.getElem_cons_succ, Act.put, List.setIfInBounds_toArray, List.set_cons_zero, List.set_cons_succ])); (refine wpAnyL_take (i := 4) (oi := _) (v := ?_) rfl (by kernel_rfl) (by kernel_rfl) (by kernel_rfl) (fun _ _ _ h => h) (Or.inl ⟨by first | rfl | kernel_rfl, ?hy3⟩) (by assumption) ?rs3; (case hy3 => (intro w hSw; (try dsimp only at hSw); go_simp; first | done | with_reducible rfl)); case' rs3 => (simp only [List.getElem_toArray, List.getElem_cons_zero, List.getElem_cons_succ, Act.put, List.setIfInBounds_toArray, List.set_cons_zero, List.set_cons_succ])); (refine wpAnyL_take (i := 5) (oi := _) (v := undef) rfl (by kernel_rfl) (by kernel_rfl) (by kernel_rfl) (fun _ _ _ h => h) (Or.inr ⟨by first | rfl | kernel_rfl, rfl⟩) (by assumption) ?rs4; case' rs4 => (simp only [List.getElem_toArray, List.getElem_cons_zero, List.getElem_cons_succ, Act.put, List.setIfInBounds_toArray, List.set_cons_zero, List.set_cons_succ])); (refine wpAnyL_take (i := 6) (oi := _) (v := undef) rfl (by kernel_rfl) (by kernel_rfl) (by kernel_rfl) (fun _ _ _ h => h) (Or.inr ⟨by first | rfl | kernel_rfl, rfl⟩) (by assumption) ?rs5; case' rs5 => (simp only [List.getElem_toArray, List.getElem_cons_zero, List.getElem_cons_succ, Act.put, List.setIfInBounds_toArray, List.set_cons_zero, List.set_cons_succ])); (refine wpAnyL_take (i := 7) (oi := _) (v := undef) rfl (by kernel_rfl) (by kernel_rfl) (by kernel_rfl) (fun _ _ _ h => h) (Or.inr ⟨by first | rfl | kernel_rfl, rfl⟩) (by assumption) ?rs6; case' rs6 => (simp only [List.getElem_toArray, List.getElem_cons_zero, List.getElem_cons_succ, Act.put, List.setIfInBounds_toArray, List.set_cons_zero, List.set_cons_succ])); (refine wpAnyL_take (i := 8) (oi := _) (v := undef) rfl (by kernel_rfl) (by kernel_rfl) (by kernel_rfl) (fun _ _ _ h => h) (Or.inr ⟨by first | rfl | kernel_rfl, rfl⟩) (by assumption) ?rs7; case' rs7 => (simp only [List.getElem_toArray, List.getElem_cons_zero, List.getElem_cons_succ, Act.put, List.setIfInBounds_toArray, List.set_cons_zero, List.set_cons_succ])); (refine wpAnyL_take (i := 9) (oi := _) (v := ?_) rfl (by kernel_rfl) (by kernel_rfl) (by kernel_rfl) (fun _ _ _ h => h) (Or.inl ⟨by first | rfl | kernel_rfl, ?hy8⟩) (by assumption) ?rs8; (case hy8 => (intro w hSw; (try dsimp only at hSw); go_simp; first | done | with_reducible rfl)); case' rs8 => (simp only [List.getElem_toArray, List.getElem_cons_zero, List.getElem_cons_succ, Act.put, List.setIfInBounds_toArray, List.set_cons_zero, List.set_cons_succ])); skip
        refine wpAnyL_done (by kernel_rfl) ?_ _
        have D := Lib.hid D
        go_wp2
        go_ret
        exact ⟨rfl, D0.out.trans ((D3.out.trans (D.out.mono D3.out.size)).mono D0.out.size)⟩
      · by_cases q2 : 9223372036854775807 < z
        · rw [if_neg (by omega)] at ke
          rw [ke] at A2
          dsimp only at A2
          rw [Z.cmpv_gt (by omega)] at ZN
          rw [Z.cmpv_gt q2] at ZP
          have ZN := Lib.hid ZN
          have ZP := Lib.hid ZP
          clear ke q1 q2 hz
          go_enter Tryd.func3, Tryd.ntmps3
          go_upto_region 20 with (first
            | (go_at_call 7; rw [HW0.out]; (with_reducible refine (A1.out).mono ?_); rintro e w1 ⟨rfl, hb⟩; have D := Lib.hid (hb); clear hb; obtain ⟨k0, k1, k2⟩ := KB.out _ D.out)
            | (go_at_call 8; (with_reducible refine (A2.out _ D.out).mono ?_); rintro e w2 ⟨rfl, hb⟩; have D := Lib.hid (D.out.trans (hb.mono D.out.size)); clear hb; obtain ⟨k0, k1, k2⟩ := KB.out _ D.out)
            | (go_at_call 9; (with_reducible refine (A3.out _ D.out).mono ?_); rintro e w3 ⟨rfl, hb⟩; have D := Lib.hid (D.out.trans (hb.mono D.out.size)); clear hb; obtain ⟨k0, k1, k2⟩ := KB.out _ D.out)
            | (go_at_call 10; (with_reducible refine (T1.out _ D.out).mono ?_); rintro e w4 ⟨rfl, hb⟩; have D := Lib.hid (D.out.trans (hb.mono D.out.size)); clear hb; obtain ⟨k0, k1, k2⟩ := KB.out _ D.out)
            | (go_at_call 10; (with_reducible refine (T2.out _ D.out).mono ?_); rintro e w5 ⟨rfl, hb⟩; have D := Lib.hid (D.out.trans (hb.mono D.out.size)); clear hb; obtain ⟨k0, k1, k2⟩ := KB.out _ D.out)
            | (go_at_call 16; (with_reducible refine (IN.out _).mono ?_); rintro e w6 ⟨rfl, rfl⟩)
            | (go_at_call 18; (with_reducible refine (II.out _).mono ?_); rintro e w7 ⟨rfl, rfl⟩)
            | (go_at_call 19; (with_reducible refine (C3.out _).mono ?_); rintro e w8 ⟨b8, A8, n8, c8, rfl, hv, hb⟩; have s := hb.alloc hb.size (.cells #[.bool b8, .slice A8 n8 c8] 34); have D := Lib.hid (D.out.trans (s.mono D.out.size)); clear hb s; obtain ⟨k0, k1, k2⟩ := KB.out _ D.out)
            | (go_at_call 23; (with_reducible refine (IS.out _ D.out).mono ?_); rintro e w9 ⟨rfl, hb⟩; have D := Lib.hid (D.out.trans (hb.mono D.out.size)); clear hb; obtain ⟨k0, k1, k2⟩ := KB.out _ D.out)
            | (go_at_call 24; (with_reducible refine (BT.out _).mono ?_); rintro e w10 ⟨rfl, rfl⟩)
            | (go_at_call 19; (with_reducible refine (CM.out _).mono ?_); rintro e w11 ⟨bz, Az, nz, cz, rfl, hv, hb⟩; have D := Lib.hid (D.out.trans (hb.mono D.out.size)); clear hb))
          have X1 := Blk.new w11 34 #[.bool bz, .slice Az nz cz]
          have V1 := hv.alloc (.cells #[.bool bz, .slice Az nz cz] 34)
          have D3 : Below W0.heap.size W0 (w11.alloc (.cells #[.bool bz, .slice Az nz cz] 34)) := D.out.alloc D.out.size _
          obtain ⟨W1, hW1⟩ : ∃ W1, w11.alloc (.cells #[.bool bz, .slice Az nz cz] 34) = W1 := ⟨_, rfl⟩
          obtain ⟨g8, hg8⟩ : ∃ g8, w11.heap.size = g8 := ⟨_, rfl⟩
          rw [hW1] at X1 V1 D3 ⊢
          rw [hg8] at X1 ⊢
          have KZ : Hid (∀ W, Below W1.heap.size W1 W → W.cell? ⟨g8, 0, none⟩ = some (.bool bz) ∧ W.cell? ⟨g8, 1, none⟩ = some (.slice Az nz cz)) := fun W h => ⟨(X1.below h X1.lt).at_ 0 rfl, (X1.below h X1.lt).at_ 1 rfl⟩
          have VZ : Hid (∀ W, Below W1.heap.size W1 W → ZV W (.agg #[.bool bz, .slice Az nz cz]) z) := fun W h => (V1.below h).v
          have D3 := Lib.hid D3
          clear hW1 hg8 D hv X1 V1
          have D : Below W1.heap.size W1 W1.drew := (Below.refl _ _).drew
          (refine wp_region_L (S := fun w' => w'.cell? ⟨g8, 0, none⟩ = some (.bool bz) ∧ w'.cell? ⟨g8, 1, none⟩ = some (.slice Az nz cz)) (nl := 1000000) (by kernel_rfl) ?_ (fun hHeld => ?_); focus (exact KZ.out _ D))
          (refine wpAnyL_take (i := 0) (oi := _) (v := ?_) rfl (by kernel_rfl) (by kernel_rfl) (by kernel_rfl) (fun _ _ _ h => h) (Or.inl ⟨by first | rfl | kernel_rfl, ?hy9⟩) (by assumption) ?rs9; (case hy9 => (intro w hSw; (try dsimp only at hSw); go_simp; first | done | with_reducible rfl)); case' rs9 => (simp only [List.getElem_toArray, List.getElem_cons_zero, List.getElem_cons_succ, Act.put, List.setIfInBounds_toArray, List.set_cons_zero, List.set_cons_succ])); skip
          (refine wpAnyL_one (i := 1) (o := _) (by kernel_rfl) rfl (fun K hK => ?_); clear hHeld; simp only [List.getElem_toArray, List.getElem_cons_zero, List.getElem_cons_succ]; go_simp; (go_at_call 26; (with_reducible refine (NN.out _).mono ?_); rintro e v1 ⟨_, rfl, ⟨q1, Q1, m1, d1, rfl, h1⟩, hb1⟩; have D := D.trans (hb1.mono D.size)); refine hK.out _ _ ?_ (fun hHeld => ?_); focus (intro _; exact KZ.out _ D)); have hHeld := hHeld (by decide); clear hK K; (try simp only [Act.put, List.setIfInBounds_toArray, List.set_cons_zero, List.set_cons_succ])
          (refine wpAnyL_one (i := 2) (o := _) (by kernel_rfl) rfl (fun K hK => ?_); clear hHeld; simp only [List.getElem_toArray, List.getElem_cons_zero, List.getElem_cons_succ]; go_simp; (go_at_call 25; (with_reducible refine (ZN.out _ _ _ (VZ.out _ D) h1.v).mono ?_); rintro e v2 ⟨rfl, hb2⟩; have D := D.trans (hb2.mono D.size)); refine hK.out _ _ ?_ (fun hHeld => ?_); focus (intro _; exact KZ.out _ D)); have hHeld := hHeld (by decide); clear hK K; (try simp only [Act.put, List.setIfInBounds_toArray, List.set_cons_zero, List.set_cons_succ])
          (refine wpAnyL_take (i := 3) (oi := _) (v := ?_) rfl (by kernel_rfl) (by kernel_rfl) (by kernel_rfl) (fun _ _ _ h => h) (Or.inl ⟨by first | rfl | kernel_rfl, ?hy10⟩) (by assumption) ?rs10; (case hy10 => (intro w hSw; (try dsimp only at hSw); go_simp; first | done | with_reducible rfl)); case' rs10 => (simp only [List.getElem_toArray, List.getElem_cons_zero, List.getElem_cons_succ, Act.put, List.setIfInBounds_toArray, List.set_cons_zero, List.set_cons_succ])); (refine wpAnyL_take (i := 4) (oi := _) (v := ?_) rfl (by kernel_rfl) (by kernel_rfl) (by kernel_rfl) (fun _ _ _ h => h) (Or.inl ⟨by first | rfl | kernel_rfl, ?hy11⟩) (by assumption) ?rs11; (case hy11 => (intro w hSw; (try dsimp only at hSw); go_simp; first | done | with_reducible rfl)); case' rs11 => (simp only [List.getElem_toArray, List.getElem_cons_zero, List.getElem_cons_succ, Act.put, List.setIfInBounds_toArray, List.set_cons_zero, List.set_cons_succ])); (refine wpAnyL_take (i := 5) (oi := _) (v := ?_) rfl (by kernel_rfl) (by kernel_rfl) (by kernel_rfl) (fun _ _ _ h => h) (Or.inl ⟨by first | rfl | kernel_rfl, ?hy12⟩) (by assumption) ?rs12; (case hy12 => (intro w hSw; (try dsimp only at hSw); go_simp; first | done | with_reducible rfl)); case' rs12 => (simp only [List.getElem_toArray, List.getElem_cons_zero, List.getElem_cons_succ, Act.put, List.setIfInBounds_toArray, List.set_cons_zero, List.set_cons_succ])); skip
          (refine wpAnyL_one (i := 6) (o := _) (by kernel_rfl) rfl (fun K hK => ?_); clear hHeld; simp only [List.getElem_toArray, List.getElem_cons_zero, List.getElem_cons_succ]; go_simp; (go_at_call 26; (with_reducible refine (NP.out _).mono ?_); rintro e v3 ⟨_, rfl, ⟨q3, Q3, m3, d3, rfl, h3⟩, hb3⟩; have D := D.trans (hb3.mono D.size)); refine hK.out _ _ ?_ (fun hHeld => ?_); focus (intro _; exact KZ.out _ D)); have hHeld := hHeld (by decide); clear hK K; (try simp only [Act.put, List.setIfInBounds_toArray, List.set_cons_zero, List.set_cons_succ])
          (refine wpAnyL_one (i := 7) (o := _) (by kernel_rfl) rfl (fun K hK => ?_); clear hHeld; simp only [List.getElem_toArray, List.getElem_cons_zero, List.getElem_cons_succ]; go_simp; (go_at_call 25; (with_reducible refine (ZP.out _ _ _ (VZ.out _ D) h3.v).mono ?_); rintro e v4 ⟨rfl, hb4⟩; have D := D.trans (hb4.mono D.size)); refine hK.out _ _ ?_ (fun hHeld => ?_); focus (intro _; exact KZ.out _ D)); have hHeld := hHeld (by decide); clear hK K; (try simp only [Act.put, List.setIfInBounds_toArray, List.set_cons_zero, List.set_cons_succ])
          (refine wpAnyL_take (i := 8) (oi := _) (v := ?_) rfl (by kernel_rfl) (by kernel_rfl) (by kernel_rfl) (fun _ _ _ h => h) (Or.inl ⟨by first | rfl | kernel_rfl, ?hy13⟩) (by assumption) ?rs13; (case hy13 => (intro w hSw; (try dsimp only at hSw); go_simp; first | done | with_reducible rfl)); case' rs13 => (simp only [List.getElem_toArray, List.getElem_cons_zero, List.getElem_cons_succ, Act.put, List.setIfInBounds_toArray, List.set_cons_zero, List.set_cons_succ])); (refine wpAnyL_take (i := 9) (oi := _) (v := ?_) rfl (by kernel_rfl) (by kernel_rfl) (by kernel_rfl) (fun _ _ _ h => h) (Or.inl ⟨by first | rfl | kernel_rfl, ?hy14⟩) (by assumption) ?rs14; (case hy14 => (intro w hSw; (try dsimp only at hSw); go_simp; first | done | with_reducible rfl)); case' rs14 => (simp only [List.getElem_toArray, List.getElem_cons_zero, List.getElem_cons_succ, Act.put, List.setIfInBounds_toArray, List.set_cons_zero, List.set_cons_succ])); skip
          refine wpAnyL_done (by kernel_rfl) ?_ _
          have D := Lib.hid D
          go_wp2
          go_ret
          exact ⟨rfl, D0.out.trans ((D3.out.trans (D.out.mono D3.out.size)).mono D0.out.size)⟩
        · rw [if_pos (by omega)] at ke
          rw [ke] at A2
          dsimp only at A2
          have ZO : Hid (∀ W, Calls Tryd.prog 14 #[.int .i64 z] W (RetZ W z)) := fun W => ZOfInt_c z W (by omega) (by omega)
          have ZZ : Hid (∀ W va vb, ZV W va z → ZV W vb z → Calls Tryd.prog 25 #[va, vb] W fun e w' => e = .returned (.int .i64 0) ∧ Below W.heap.size W w') := fun W va vb h1 h2 => by
            have := ZCmp_c va vb _ _ W h1 h2 hz hz
            rwa [Z.cmpv_eq rfl] at this
          have ll : (l == l) = true := by simp
          have hc3 : (cmpv z (-9223372036854775808) = 0 ∧ cmpv z 9223372036854775807 = -1) ∨ (cmpv z (-9223372036854775808) = 1 ∧ cmpv z 9223372036854775807 = -1) ∨ (cmpv z (-9223372036854775808) = 1 ∧ cmpv z 9223372036854775807 = 0) := by
            by_cases h1 : z = -9223372036854775808
            · exact .inl ⟨Z.cmpv_eq h1, Z.cmpv_lt (by omega)⟩
            · by_cases h2 : z = 9223372036854775807
              · exact .inr (.inr ⟨Z.cmpv_gt (by omega), Z.cmpv_eq h2⟩)
              · exact .inr (.inl ⟨Z.cmpv_gt (by omega), Z.cmpv_lt (by omega)⟩)
          clear ke q1 q2 hz
          rcases hc3 with ⟨hc1, hc2⟩ | ⟨hc1, hc2⟩ | ⟨hc1, hc2⟩
          · rw [hc1] at ZN
            rw [hc2] at ZP
            have ZN := Lib.hid ZN
            have ZP := Lib.hid ZP
            clear hc1 hc2
            go_enter Tryd.func3, Tryd.ntmps3
            go_upto_region 20 with (first
              | (go_at_call 7; rw [HW0.out]; (with_reducible refine (A1.out).mono ?_); rintro e w1 ⟨rfl, hb⟩; have D := Lib.hid (hb); clear hb; obtain ⟨k0, k1, k2⟩ := KB.out _ D.out)
              | (go_at_call 8; (with_reducible refine (A2.out _ D.out).mono ?_); rintro e w2 ⟨rfl, hb⟩; have D := Lib.hid (D.out.trans (hb.mono D.out.size)); clear hb; obtain ⟨k0, k1, k2⟩ := KB.out _ D.out)
              | (go_at_call 9; (with_reducible refine (A3.out _ D.out).mono ?_); rintro e w3 ⟨rfl, hb⟩; have D := Lib.hid (D.out.trans (hb.mono D.out.size)); clear hb; obtain ⟨k0, k1, k2⟩ := KB.out _ D.out)
              | (go_at_call 10; (with_reducible refine (T1.out _ D.out).mono ?_); rintro e w4 ⟨rfl, hb⟩; have D := Lib.hid (D.out.trans (hb.mono D.out.size)); clear hb; obtain ⟨k0, k1, k2⟩ := KB.out _ D.out)
              | (go_at_call 10; (with_reducible refine (T2.out _ D.out).mono ?_); rintro e w5 ⟨rfl, hb⟩; have D := Lib.hid (D.out.trans (hb.mono D.out.size)); clear hb; obtain ⟨k0, k1, k2⟩ := KB.out _ D.out)
              | (go_at_call 16; (with_reducible refine (IN.out _).mono ?_); rintro e w6 ⟨rfl, rfl⟩)
              | (go_at_call 18; (with_reducible refine (II.out _).mono ?_); rintro e w7 ⟨rfl, rfl⟩)
              | (go_at_call 19; (with_reducible refine (C3.out _).mono ?_); rintro e w8 ⟨b8, A8, n8, c8, rfl, hv, hb⟩; have s := hb.alloc hb.size (.cells #[.bool b8, .slice A8 n8 c8] 34); have D := Lib.hid (D.out.trans (s.mono D.out.size)); clear hb s; obtain ⟨k0, k1, k2⟩ := KB.out _ D.out)
              | (go_at_call 23; (with_reducible refine (IS.out _ D.out).mono ?_); rintro e w9 ⟨rfl, hb⟩; have D := Lib.hid (D.out.trans (hb.mono D.out.size)); clear hb; obtain ⟨k0, k1, k2⟩ := KB.out _ D.out)
              | (go_at_call 24; (with_reducible refine (BT.out _).mono ?_); rintro e w10 ⟨rfl, rfl⟩)
              | (go_at_call 19; (with_reducible refine (CM.out _).mono ?_); rintro e w11 ⟨bz, Az, nz, cz, rfl, hv, hb⟩; have D := Lib.hid (D.out.trans (hb.mono D.out.size)); clear hb))
            have X1 := Blk.new w11 34 #[.bool bz, .slice Az nz cz]
            have V1 := hv.alloc (.cells #[.bool bz, .slice Az nz cz] 34)
            have D3 : Below W0.heap.size W0 (w11.alloc (.cells #[.bool bz, .slice Az nz cz] 34)) := D.out.alloc D.out.size _
            obtain ⟨W1, hW1⟩ : ∃ W1, w11.alloc (.cells #[.bool bz, .slice Az nz cz] 34) = W1 := ⟨_, rfl⟩
            obtain ⟨g8, hg8⟩ : ∃ g8, w11.heap.size = g8 := ⟨_, rfl⟩
            rw [hW1] at X1 V1 D3 ⊢
            rw [hg8] at X1 ⊢
            have KZ : Hid (∀ W, Below W1.heap.size W1 W → W.cell? ⟨g8, 0, none⟩ = some (.bool bz) ∧ W.cell? ⟨g8, 1, none⟩ = some (.slice Az nz cz)) := fun W h => ⟨(X1.below h X1.lt).at_ 0 rfl, (X1.below h X1.lt).at_ 1 rfl⟩
            have VZ : Hid (∀ W, Below W1.heap.size W1 W → ZV W (.agg #[.bool bz, .slice Az nz cz]) z) := fun W h => (V1.below h).v
            have D3 := Lib.hid D3
            clear hW1 hg8 D hv X1 V1
            have D : Below W1.heap.size W1 W1.drew := (Below.refl _ _).drew
            (refine wp_region_L (S := fun w' => w'.cell? ⟨g8, 0, none⟩ = some (.bool bz) ∧ w'.cell? ⟨g8, 1, none⟩ = some (.slice Az nz cz)) (nl := 1000000) (by kernel_rfl) ?_ (fun hHeld => ?_); focus (exact KZ.out _ D))
            (refine wpAnyL_take (i := 0) (oi := _) (v := ?_) rfl (by kernel_rfl) (by kernel_rfl) (by kernel_rfl) (fun _ _ _ h => h) (Or.inl ⟨by first | rfl | kernel_rfl, ?hy15⟩) (by assumption) ?rs15; (case hy15 => (intro w hSw; (try dsimp only at hSw); go_simp; first | done | with_reducible rfl)); case' rs15 => (simp only [List.getElem_toArray, List.getElem_cons_zero, List.getElem_cons_succ, Act.put, List.setIfInBounds_toArray, List.set_cons_zero, List.set_cons_succ])); skip
            (refine wpAnyL_one (i := 1) (o := _) (by kernel_rfl) rfl (fun K hK => ?_); clear hHeld; simp only [List.getElem_toArray, List.getElem_cons_zero, List.getElem_cons_succ]; go_simp; (go_at_call 26; (with_reducible refine (NN.out _).mono ?_); rintro e v1 ⟨_, rfl, ⟨q1, Q1, m1, d1, rfl, h1⟩, hb1⟩; have D := D.trans (hb1.mono D.size)); refine hK.out _ _ ?_ (fun hHeld => ?_); focus (intro _; exact KZ.out _ D)); have hHeld := hHeld (by decide); clear hK K; (try simp only [Act.put, List.setIfInBounds_toArray, List.set_cons_zero, List.set_cons_succ])
            (refine wpAnyL_one (i := 2) (o := _) (by kernel_rfl) rfl (fun K hK => ?_); clear hHeld; simp only [List.getElem_toArray, List.getElem_cons_zero, List.getElem_cons_succ]; go_simp; (go_at_call 25; (with_reducible refine (ZN.out _ _ _ (VZ.out _ D) h1.v).mono ?_); rintro e v2 ⟨rfl, hb2⟩; have D := D.trans (hb2.mono D.size)); refine hK.out _ _ ?_ (fun hHeld => ?_); focus (intro _; exact KZ.out _ D)); have hHeld := hHeld (by decide); clear hK K; (try simp only [Act.put, List.setIfInBounds_toArray, List.set_cons_zero, List.set_cons_succ])
            (refine wpAnyL_take (i := 3) (oi := _) (v := ?_) rfl (by kernel_rfl) (by kernel_rfl) (by kernel_rfl) (fun _ _ _ h => h) (Or.inl ⟨by first | rfl | kernel_rfl, ?hy16⟩) (by assumption) ?rs16; (case hy16 => (intro w hSw; (try dsimp only at hSw); go_simp; first | done | with_reducible rfl)); case' rs16 => (simp only [List.getElem_toArray, List.getElem_cons_zero, List.getElem_cons_succ, Act.put, List.setIfInBounds_toArray, List.set_cons_zero, List.set_cons_succ])); (refine wpAnyL_take (i := 4) (oi := _) (v := ?_) rfl (by kernel_rfl) (by kernel_rfl) (by kernel_rfl) (fun _ _ _ h => h) (Or.inl ⟨by first | rfl | kernel_rfl, ?hy17⟩) (by assumption) ?rs17; (case hy17 => (intro w hSw; (try dsimp only at hSw); go_simp; first | done | with_reducible rfl)); case' rs17 => (simp only [List.getElem_toArray, List.getElem_cons_zero, List.getElem_cons_succ, Act.put, List.setIfInBounds_toArray, List.set_cons_zero, List.set_cons_succ])); (refine wpAnyL_take (i := 5) (oi := _) (v := ?_) rfl (by kernel_rfl) (by kernel_rfl) (by kernel_rfl) (fun _ _ _ h => h) (Or.inl ⟨by first | rfl | kernel_rfl, ?hy18⟩) (by assumption) ?rs18; (case hy18 => (intro w hSw; (try dsimp only at hSw); go_simp; first | done | with_reducible rfl)); case' rs18 => (simp only [List.getElem_toArray, List.getElem_cons_zero, List.getElem_cons_succ, Act.put, List.setIfInBounds_toArray, List.set_cons_zero, List.set_cons_succ])); skip
            (refine wpAnyL_one (i := 6) (o := _) (by kernel_rfl) rfl (fun K hK => ?_); clear hHeld; simp only [List.getElem_toArray, List.getElem_cons_zero, List.getElem_cons_succ]; go_simp; (go_at_call 26; (with_reducible refine (NP.out _).mono ?_); rintro e v3 ⟨_, rfl, ⟨q3, Q3, m3, d3, rfl, h3⟩, hb3⟩; have D := D.trans (hb3.mono D.size)); refine hK.out _ _ ?_ (fun hHeld => ?_); focus (intro _; exact KZ.out _ D)); have hHeld := hHeld (by decide); clear hK K; (try simp only [Act.put, List.setIfInBounds_toArray, List.set_cons_zero, List.set_cons_succ])
            (refine wpAnyL_one (i := 7) (o := _) (by kernel_rfl) rfl (fun K hK => ?_); clear hHeld; simp only [List.getElem_toArray, List.getElem_cons_zero, List.getElem_cons_succ]; go_simp; (go_at_call 25; (with_reducible refine (ZP.out _ _ _ (VZ.out _ D) h3.v).mono ?_); rintro e v4 ⟨rfl, hb4⟩; have D := D.trans (hb4.mono D.size)); refine hK.out _ _ ?_ (fun hHeld => ?_); focus (intro _; exact KZ.out _ D)); have hHeld := hHeld (by decide); clear hK K; (try simp only [Act.put, List.setIfInBounds_toArray, List.set_cons_zero, List.set_cons_succ])
            (refine wpAnyL_take (i := 8) (oi := _) (v := ?_) rfl (by kernel_rfl) (by kernel_rfl) (by kernel_rfl) (fun _ _ _ h => h) (Or.inl ⟨by first | rfl | kernel_rfl, ?hy19⟩) (by assumption) ?rs19; (case hy19 => (intro w hSw; (try dsimp only at hSw); go_simp; first | done | with_reducible rfl)); case' rs19 => (simp only [List.getElem_toArray, List.getElem_cons_zero, List.getElem_cons_succ, Act.put, List.setIfInBounds_toArray, List.set_cons_zero, List.set_cons_succ])); (refine wpAnyL_take (i := 9) (oi := _) (v := ?_) rfl (by kernel_rfl) (by kernel_rfl) (by kernel_rfl) (fun _ _ _ h => h) (Or.inl ⟨by first | rfl | kernel_rfl, ?hy20⟩) (by assumption) ?rs20; (case hy20 => (intro w hSw; (try dsimp only at hSw); go_simp; first | done | with_reducible rfl)); case' rs20 => (simp only [List.getElem_toArray, List.getElem_cons_zero, List.getElem_cons_succ, Act.put, List.setIfInBounds_toArray, List.set_cons_zero, List.set_cons_succ])); skip
            refine wpAnyL_done (by kernel_rfl) ?_ _
            go_upto_region 22 with fail
            have D := D.drew
            (refine wp_region_L (S := fun w' => w'.cell? ⟨g8, 0, none⟩ = some (.bool bz) ∧ w'.cell? ⟨g8, 1, none⟩ = some (.slice Az nz cz)) (nl := 1000000) (by kernel_rfl) ?_ (fun hHeld => ?_); focus (exact KZ.out _ D))
            (refine wpAnyL_take (i := 0) (oi := _) (v := ?_) rfl (by kernel_rfl) (by kernel_rfl) (by kernel_rfl) (fun _ _ _ h => h) (Or.inl ⟨by first | rfl | kernel_rfl, ?hy21⟩) (by assumption) ?rs21; (case hy21 => (intro w hSw; (try dsimp only at hSw); go_simp; first | done | with_reducible rfl)); case' rs21 => (simp only [List.getElem_toArray, List.getElem_cons_zero, List.getElem_cons_succ, Act.put, List.setIfInBounds_toArray, List.set_cons_zero, List.set_cons_succ])); (refine wpAnyL_take (i := 2) (oi := _) (v := ?_) rfl (by kernel_rfl) (by kernel_rfl) (by kernel_rfl) (fun _ _ _ h => h) (Or.inl ⟨by first | rfl | kernel_rfl, ?hy22⟩) (by assumption) ?rs22; (case hy22 => (intro w hSw; (try dsimp only at hSw); go_simp; first | done | with_reducible rfl)); case' rs22 => (simp only [List.getElem_toArray, List.getElem_cons_zero, List.getElem_cons_succ, Act.put, List.setIfInBounds_toArray, List.set_cons_zero, List.set_cons_succ])); skip
            (refine wpAnyL_one (i := 1) (o := _) (by kernel_rfl) rfl (fun K hK => ?_); clear hHeld; simp only [List.getElem_toArray, List.getElem_cons_zero, List.getElem_cons_succ]; go_simp; (go_at_call 14; (with_reducible refine (ZO.out _).mono ?_); rintro e v5 ⟨_, rfl, ⟨q5, Q5, m5, d5, rfl, h5⟩, hb5⟩; have D := D.trans (hb5.mono D.size)); refine hK.out _ _ ?_ (fun hHeld => ?_); focus (intro _; exact KZ.out _ D)); have hHeld := hHeld (by decide); clear hK K; (try simp only [Act.put, List.setIfInBounds_toArray, List.set_cons_zero, List.set_cons_succ])
            (refine wpAnyL_one (i := 3) (o := _) (by kernel_rfl) rfl (fun K hK => ?_); clear hHeld; simp only [List.getElem_toArray, List.getElem_cons_zero, List.getElem_cons_succ]; go_simp; (go_at_call 25; (with_reducible refine (ZZ.out _ _ _ h5.v (VZ.out _ D)).mono ?_); rintro e v6 ⟨rfl, hb6⟩; have D := D.trans (hb6.mono D.size)); refine hK.out _ _ ?_ (fun hHeld => ?_); focus (intro _; exact KZ.out _ D)); have hHeld := hHeld (by decide); clear hK K; (try simp only [Act.put, List.setIfInBounds_toArray, List.set_cons_zero, List.set_cons_succ])
            (refine wpAnyL_take (i := 4) (oi := _) (v := ?_) rfl (by kernel_rfl) (by kernel_rfl) (by kernel_rfl) (fun _ _ _ h => h) (Or.inl ⟨by first | rfl | kernel_rfl, ?hy23⟩) (by assumption) ?rs23; (case hy23 => (intro w hSw; (try dsimp only at hSw); go_simp; first | done | with_reducible rfl)); case' rs23 => (simp only [List.getElem_toArray, List.getElem_cons_zero, List.getElem_cons_succ, Act.put, List.setIfInBounds_toArray, List.set_cons_zero, List.set_cons_succ])); (refine wpAnyL_take (i := 5) (oi := _) (v := ?_) rfl (by kernel_rfl) (by kernel_rfl) (by kernel_rfl) (fun _ _ _ h => h) (Or.inl ⟨by first | rfl | kernel_rfl, ?hy24⟩) (by assumption) ?rs24; (case hy24 => (intro w hSw; (try dsimp only at hSw); go_simp; first | done | with_reducible rfl)); case' rs24 => (simp only [List.getElem_toArray, List.getElem_cons_zero, List.getElem_cons_succ, Act.put, List.setIfInBounds_toArray, List.set_cons_zero, List.set_cons_succ])); (refine wpAnyL_take (i := 6) (oi := _) (v := ?_) rfl (by kernel_rfl) (by kernel_rfl) (by kernel_rfl) (fun _ _ _ h => h) (Or.inl ⟨by first | rfl | kernel_rfl, ?hy25⟩) (by assumption) ?rs25; (case hy25 => (intro w hSw; (try dsimp only at hSw); go_simp; first | done | with_reducible rfl)); case' rs25 => (simp only [List.getElem_toArray, List.getElem_cons_zero, List.getElem_cons_succ, Act.put, List.setIfInBounds_toArray, List.set_cons_zero, List.set_cons_succ])); (refine wpAnyL_take (i := 7) (oi := _) (v := ?_) rfl (by kernel_rfl) (by kernel_rfl) (by kernel_rfl) (fun _ _ _ h => h) (Or.inl ⟨by first | rfl | kernel_rfl, ?hy26⟩) (by assumption) ?rs26; (case hy26 => (intro w hSw; (try dsimp only at hSw); go_simp; first | done | with_reducible rfl)); case' rs26 => (simp only [List.getElem_toArray, List.getElem_cons_zero, List.getElem_cons_succ, Act.put, List.setIfInBounds_toArray, List.set_cons_zero, List.set_cons_succ])); (refine wpAnyL_take (i := 8) (oi := _) (v := ?_) rfl (by kernel_rfl) (by kernel_rfl) (by kernel_rfl) (fun _ _ _ h => h) (Or.inl ⟨by first | rfl | kernel_rfl, ?hy27⟩) (by assumption) ?rs27; (case hy27 => (intro w hSw; (try dsimp only at hSw); go_simp; first | done | with_reducible rfl)); case' rs27 => (simp only [List.getElem_toArray, List.getElem_cons_zero, List.getElem_cons_succ, Act.put, List.setIfInBounds_toArray, List.set_cons_zero, List.set_cons_succ])); (refine wpAnyL_take (i := 9) (oi := _) (v := ?_) rfl (by kernel_rfl) (by kernel_rfl) (by kernel_rfl) (fun _ _ _ h => h) (Or.inl ⟨by first | rfl | kernel_rfl, ?hy28⟩) (by assumption) ?rs28; (case hy28 => (intro w hSw; (try dsimp only at hSw); go_simp; first | done | with_reducible rfl)); case' rs28 => (simp only [List.getElem_toArray, List.getElem_cons_zero, List.getElem_cons_succ, Act.put, List.setIfInBounds_toArray, List.set_cons_zero, List.set_cons_succ])); (refine wpAnyL_take (i := 10) (oi := _) (v := ?_) rfl (by kernel_rfl) (by kernel_rfl) (by kernel_rfl) (fun _ _ _ h => h) (Or.inl ⟨by first | rfl | kernel_rfl, ?hy29⟩) (by assumption) ?rs29; (case hy29 => (intro w hSw; (try dsimp only at hSw); go_simp; first | done | with_reducible rfl)); case' rs29 => (simp only [List.getElem_toArray, List.getElem_cons_zero, List.getElem_cons_succ, Act.put, List.setIfInBounds_toArray, List.set_cons_zero, List.set_cons_succ])); (refine wpAnyL_take (i := 11) (oi := _) (v := ?_) rfl (by kernel_rfl) (by kernel_rfl) (by kernel_rfl) (fun _ _ _ h => h) (Or.inl ⟨by first | rfl | kernel_rfl, ?hy30⟩) (by assumption) ?rs30; (case hy30 => (intro w hSw; (try dsimp only at hSw); go_simp; first | done | with_reducible rfl)); case' rs30 => (simp only [List.getElem_toArray, List.getElem_cons_zero, List.getElem_cons_succ, Act.put, List.setIfInBounds_toArray, List.set_cons_zero, List.set_cons_succ])); (refine wpAnyL_take (i := 12) (oi := _) (v := ?_) rfl (by kernel_rfl) (by kernel_rfl) (by kernel_rfl) (fun _ _ _ h => h) (Or.inl ⟨by first | rfl | kernel_rfl, ?hy31⟩) (by assumption) ?rs31; (case hy31 => (intro w hSw; (try dsimp only at hSw); go_simp; first | done | with_reducible rfl)); case' rs31 => (simp only [List.getElem_toArray, List.getElem_cons_zero, List.getElem_cons_succ, Act.put, List.setIfInBounds_toArray, List.set_cons_zero, List.set_cons_succ])); (refine wpAnyL_take (i := 13) (oi := _) (v := ?_) rfl (by kernel_rfl) (by kernel_rfl) (by kernel_rfl) (fun _ _ _ h => h) (Or.inl ⟨by first | rfl | kernel_rfl, ?hy32⟩) (by assumption) ?rs32; (case hy32 => (intro w hSw; (try dsimp only at hSw); go_simp; first | done | with_reducible rfl)); case' rs32 => (simp only [List.getElem_toArray, List.getElem_cons_zero, List.getElem_cons_succ, Act.put, List.setIfInBounds_toArray, List.set_cons_zero, List.set_cons_succ])); (refine wpAnyL_take (i := 14) (oi := _) (v := ?_) rfl (by kernel_rfl) (by kernel_rfl) (by kernel_rfl) (fun _ _ _ h => h) (Or.inl ⟨by first | rfl | kernel_rfl, ?hy33⟩) (by assumption) ?rs33; (case hy33 => (intro w hSw; (try dsimp only at hSw); go_simp; first | done | with_reducible rfl)); case' rs33 => (simp only [List.getElem_toArray, List.getElem_cons_zero, List.getElem_cons_succ, Act.put, List.setIfInBounds_toArray, List.set_cons_zero, List.set_cons_succ])); skip
            refine wpAnyL_done (by kernel_rfl) ?_ _
            have D := Lib.hid D
            go_wp2
            go_ret
            exact ⟨rfl, D0.out.trans ((D3.out.trans (D.out.mono D3.out.size)).mono D0.out.size)⟩
          · rw [hc1] at ZN
            rw [hc2] at ZP
            have ZN := Lib.hid ZN
            have ZP := Lib.hid ZP
            clear hc1 hc2
            go_enter Tryd.func3, Tryd.ntmps3
            go_upto_region 20 with (first
              | (go_at_call 7; rw [HW0.out]; (with_reducible refine (A1.out).mono ?_); rintro e w1 ⟨rfl, hb⟩; have D := Lib.hid (hb); clear hb; obtain ⟨k0, k1, k2⟩ := KB.out _ D.out)
              | (go_at_call 8; (with_reducible refine (A2.out _ D.out).mono ?_); rintro e w2 ⟨rfl, hb⟩; have D := Lib.hid (D.out.trans (hb.mono D.out.size)); clear hb; obtain ⟨k0, k1, k2⟩ := KB.out _ D.out)
              | (go_at_call 9; (with_reducible refine (A3.out _ D.out).mono ?_); rintro e w3 ⟨rfl, hb⟩; have D := Lib.hid (D.out.trans (hb.mono D.out.size)); clear hb; obtain ⟨k0, k1, k2⟩ := KB.out _ D.out)
              | (go_at_call 10; (with_reducible refine (T1.out _ D.out).mono ?_); rintro e w4 ⟨rfl, hb⟩; have D := Lib.hid (D.out.trans (hb.mono D.out.size)); clear hb; obtain ⟨k0, k1, k2⟩ := KB.out _ D.out)
              | (go_at_call 10; (with_reducible refine (T2.out _ D.out).mono ?_); rintro e w5 ⟨rfl, hb⟩; have D := Lib.hid (D.out.trans (hb.mono D.out.size)); clear hb; obtain ⟨k0, k1, k2⟩ := KB.out _ D.out)
              | (go_at_call 16; (with_reducible refine (IN.out _).mono ?_); rintro e w6 ⟨rfl, rfl⟩)
              | (go_at_call 18; (with_reducible refine (II.out _).mono ?_); rintro e w7 ⟨rfl, rfl⟩)
              | (go_at_call 19; (with_reducible refine (C3.out _).mono ?_); rintro e w8 ⟨b8, A8, n8, c8, rfl, hv, hb⟩; have s := hb.alloc hb.size (.cells #[.bool b8, .slice A8 n8 c8] 34); have D := Lib.hid (D.out.trans (s.mono D.out.size)); clear hb s; obtain ⟨k0, k1, k2⟩ := KB.out _ D.out)
              | (go_at_call 23; (with_reducible refine (IS.out _ D.out).mono ?_); rintro e w9 ⟨rfl, hb⟩; have D := Lib.hid (D.out.trans (hb.mono D.out.size)); clear hb; obtain ⟨k0, k1, k2⟩ := KB.out _ D.out)
              | (go_at_call 24; (with_reducible refine (BT.out _).mono ?_); rintro e w10 ⟨rfl, rfl⟩)
              | (go_at_call 19; (with_reducible refine (CM.out _).mono ?_); rintro e w11 ⟨bz, Az, nz, cz, rfl, hv, hb⟩; have D := Lib.hid (D.out.trans (hb.mono D.out.size)); clear hb))
            have X1 := Blk.new w11 34 #[.bool bz, .slice Az nz cz]
            have V1 := hv.alloc (.cells #[.bool bz, .slice Az nz cz] 34)
            have D3 : Below W0.heap.size W0 (w11.alloc (.cells #[.bool bz, .slice Az nz cz] 34)) := D.out.alloc D.out.size _
            obtain ⟨W1, hW1⟩ : ∃ W1, w11.alloc (.cells #[.bool bz, .slice Az nz cz] 34) = W1 := ⟨_, rfl⟩
            obtain ⟨g8, hg8⟩ : ∃ g8, w11.heap.size = g8 := ⟨_, rfl⟩
            rw [hW1] at X1 V1 D3 ⊢
            rw [hg8] at X1 ⊢
            have KZ : Hid (∀ W, Below W1.heap.size W1 W → W.cell? ⟨g8, 0, none⟩ = some (.bool bz) ∧ W.cell? ⟨g8, 1, none⟩ = some (.slice Az nz cz)) := fun W h => ⟨(X1.below h X1.lt).at_ 0 rfl, (X1.below h X1.lt).at_ 1 rfl⟩
            have VZ : Hid (∀ W, Below W1.heap.size W1 W → ZV W (.agg #[.bool bz, .slice Az nz cz]) z) := fun W h => (V1.below h).v
            have D3 := Lib.hid D3
            clear hW1 hg8 D hv X1 V1
            have D : Below W1.heap.size W1 W1.drew := (Below.refl _ _).drew
            (refine wp_region_L (S := fun w' => w'.cell? ⟨g8, 0, none⟩ = some (.bool bz) ∧ w'.cell? ⟨g8, 1, none⟩ = some (.slice Az nz cz)) (nl := 1000000) (by kernel_rfl) ?_ (fun hHeld => ?_); focus (exact KZ.out _ D))
            (refine wpAnyL_take (i := 0) (oi := _) (v := ?_) rfl (by kernel_rfl) (by kernel_rfl) (by kernel_rfl) (fun _ _ _ h => h) (Or.inl ⟨by first | rfl | kernel_rfl, ?hy34⟩) (by assumption) ?rs34; (case hy34 => (intro w hSw; (try dsimp only at hSw); go_simp; first | done | with_reducible rfl)); case' rs34 => (simp only [List.getElem_toArray, List.getElem_cons_zero, List.getElem_cons_succ, Act.put, List.setIfInBounds_toArray, List.set_cons_zero, List.set_cons_succ])); skip
            (refine wpAnyL_one (i := 1) (o := _) (by kernel_rfl) rfl (fun K hK => ?_); clear hHeld; simp only [List.getElem_toArray, List.getElem_cons_zero, List.getElem_cons_succ]; go_simp; (go_at_call 26; (with_reducible refine (NN.out _).mono ?_); rintro e v1 ⟨_, rfl, ⟨q1, Q1, m1, d1, rfl, h1⟩, hb1⟩; have D := D.trans (hb1.mono D.size)); refine hK.out _ _ ?_ (fun hHeld => ?_); focus (intro _; exact KZ.out _ D)); have hHeld := hHeld (by decide); clear hK K; (try simp only [Act.put, List.setIfInBounds_toArray, List.set_cons_zero, List.set_cons_succ])
            (refine wpAnyL_one (i := 2) (o := _) (by kernel_rfl) rfl (fun K hK => ?_); clear hHeld; simp only [List.getElem_toArray, List.getElem_cons_zero, List.getElem_cons_succ]; go_simp; (go_at_call 25; (with_reducible refine (ZN.out _ _ _ (VZ.out _ D) h1.v).mono ?_); rintro e v2 ⟨rfl, hb2⟩; have D := D.trans (hb2.mono D.size)); refine hK.out _ _ ?_ (fun hHeld => ?_); focus (intro _; exact KZ.out _ D)); have hHeld := hHeld (by decide); clear hK K; (try simp only [Act.put, List.setIfInBounds_toArray, List.set_cons_zero, List.set_cons_succ])
            (refine wpAnyL_take (i := 3) (oi := _) (v := ?_) rfl (by kernel_rfl) (by kernel_rfl) (by kernel_rfl) (fun _ _ _ h => h) (Or.inl ⟨by first | rfl | kernel_rfl, ?hy35⟩) (by assumption) ?rs35; (case hy35 => (intro w hSw; (try dsimp only at hSw); go_simp; first | done | with_reducible rfl)); case' rs35 => (simp only [List.getElem_toArray, List.getElem_cons_zero, List.getElem_cons_succ, Act.put, List.setIfInBounds_toArray, List.set_cons_zero, List.set_cons_succ])); (refine wpAnyL_take (i := 4) (oi := _) (v := ?_) rfl (by kernel_rfl) (by kernel_rfl) (by kernel_rfl) (fun _ _ _ h => h) (Or.inl ⟨by first | rfl | kernel_rfl, ?hy36⟩) (by assumption) ?rs36; (case hy36 => (intro w hSw; (try dsimp only at hSw); go_simp; first | done | with_reducible rfl)); case' rs36 => (simp only [List.getElem_toArray, List.getElem_cons_zero, List.getElem_cons_succ, Act.put, List.setIfInBounds_toArray, List.set_cons_zero, List.set_cons_succ])); (refine wpAnyL_take (i := 5) (oi := _) (v := ?_) rfl (by kernel_rfl) (by kernel_rfl) (by kernel_rfl) (fun _ _ _ h => h) (Or.inl ⟨by first | rfl | kernel_rfl, ?hy37⟩) (by assumption) ?rs37; (case hy37 => (intro w hSw; (try dsimp only at hSw); go_simp; first | done | with_reducible rfl)); case' rs37 => (simp only [List.getElem_toArray, List.getElem_cons_zero, List.getElem_cons_succ, Act.put, List.setIfInBounds_toArray, List.set_cons_zero, List.set_cons_succ])); skip
            (refine wpAnyL_one (i := 6) (o := _) (by kernel_rfl) rfl (fun K hK => ?_); clear hHeld; simp only [List.getElem_toArray, List.getElem_cons_zero, List.getElem_cons_succ]; go_simp; (go_at_call 26; (with_reducible refine (NP.out _).mono ?_); rintro e v3 ⟨_, rfl, ⟨q3, Q3, m3, d3, rfl, h3⟩, hb3⟩; have D := D.trans (hb3.mono D.size)); refine hK.out _ _ ?_ (fun hHeld => ?_); focus (intro _; exact KZ.out _ D)); have hHeld := hHeld (by decide); clear hK K; (try simp only [Act.put, List.setIfInBounds_toArray, List.set_cons_zero, List.set_cons_succ])
            (refine wpAnyL_one (i := 7) (o := _) (by kernel_rfl) rfl (fun K hK => ?_); clear hHeld; simp only [List.getElem_toArray, List.getElem_cons_zero, List.getElem_cons_succ]; go_simp; (go_at_call 25; (with_reducible refine (ZP.out _ _ _ (VZ.out _ D) h3.v).mono ?_); rintro e v4 ⟨rfl, hb4⟩; have D := D.trans (hb4.mono D.size)); refine hK.out _ _ ?_ (fun hHeld => ?_); focus (intro _; exact KZ.out _ D)); have hHeld := hHeld (by decide); clear hK K; (try simp only [Act.put, List.setIfInBounds_toArray, List.set_cons_zero, List.set_cons_succ])
            (refine wpAnyL_take (i := 8) (oi := _) (v := ?_) rfl (by kernel_rfl) (by kernel_rfl) (by kernel_rfl) (fun _ _ _ h => h) (Or.inl ⟨by first | rfl | kernel_rfl, ?hy38⟩) (by assumption) ?rs38; (case hy38 => (intro w hSw; (try dsimp only at hSw); go_simp; first | done | with_reducible rfl)); case' rs38 => (simp only [List.getElem_toArray, List.getElem_cons_zero, List.getElem_cons_succ, Act.put, List.setIfInBounds_toArray, List.set_cons_zero, List.set_cons_succ])); (refine wpAnyL_take (i := 9) (oi := _) (v := ?_) rfl (by kernel_rfl) (by kernel_rfl) (by kernel_rfl) (fun _ _ _ h => h) (Or.inl ⟨by first | rfl | kernel_rfl, ?hy39⟩) (by assumption) ?rs39; (case hy39 => (intro w hSw; (try dsimp only at hSw); go_simp; first | done | with_reducible rfl)); case' rs39 => (simp only [List.getElem_toArray, List.getElem_cons_zero, List.getElem_cons_succ, Act.put, List.setIfInBounds_toArray, List.set_cons_zero, List.set_cons_succ])); skip
            refine wpAnyL_done (by kernel_rfl) ?_ _
            go_upto_region 22 with fail
            have D := D.drew
            (refine wp_region_L (S := fun w' => w'.cell? ⟨g8, 0, none⟩ = some (.bool bz) ∧ w'.cell? ⟨g8, 1, none⟩ = some (.slice Az nz cz)) (nl := 1000000) (by kernel_rfl) ?_ (fun hHeld => ?_); focus (exact KZ.out _ D))
            (refine wpAnyL_take (i := 0) (oi := _) (v := ?_) rfl (by kernel_rfl) (by kernel_rfl) (by kernel_rfl) (fun _ _ _ h => h) (Or.inl ⟨by first | rfl | kernel_rfl, ?hy40⟩) (by assumption) ?rs40; (case hy40 => (intro w hSw; (try dsimp only at hSw); go_simp; first | done | with_reducible rfl)); case' rs40 => (simp only [List.getElem_toArray, List.getElem_cons_zero, List.getElem_cons_succ, Act.put, List.setIfInBounds_toArray, List.set_cons_zero, List.set_cons_succ])); (refine wpAnyL_take (i := 2) (oi := _) (v := ?_) rfl (by kernel_rfl) (by kernel_rfl) (by kernel_rfl) (fun _ _ _ h => h) (Or.inl ⟨by first | rfl | kernel_rfl, ?hy41⟩) (by assumption) ?rs41; (case hy41 => (intro w hSw; (try dsimp only at hSw); go_simp; first | done | with_reducible rfl)); case' rs41 => (simp only [List.getElem_toArray, List.getElem_cons_zero, List.getElem_cons_succ, Act.put, List.setIfInBounds_toArray, List.set_cons_zero, List.set_cons_succ])); skip
            (refine wpAnyL_one (i := 1) (o := _) (by kernel_rfl) rfl (fun K hK => ?_); clear hHeld; simp only [List.getElem_toArray, List.getElem_cons_zero, List.getElem_cons_succ]; go_simp; (go_at_call 14; (with_reducible refine (ZO.out _).mono ?_); rintro e v5 ⟨_, rfl, ⟨q5, Q5, m5, d5, rfl, h5⟩, hb5⟩; have D := D.trans (hb5.mono D.size)); refine hK.out _ _ ?_ (fun hHeld => ?_); focus (intro _; exact KZ.out _ D)); have hHeld := hHeld (by decide); clear hK K; (try simp only [Act.put, List.setIfInBounds_toArray, List.set_cons_zero, List.set_cons_succ])
            (refine wpAnyL_one (i := 3) (o := _) (by kernel_rfl) rfl (fun K hK => ?_); clear hHeld; simp only [List.getElem_toArray, List.getElem_cons_zero, List.getElem_cons_succ]; go_simp; (go_at_call 25; (with_reducible refine (ZZ.out _ _ _ h5.v (VZ.out _ D)).mono ?_); rintro e v6 ⟨rfl, hb6⟩; have D := D.trans (hb6.mono D.size)); refine hK.out _ _ ?_ (fun hHeld => ?_); focus (intro _; exact KZ.out _ D)); have hHeld := hHeld (by decide); clear hK K; (try simp only [Act.put, List.setIfInBounds_toArray, List.set_cons_zero, List.set_cons_succ])
            (refine wpAnyL_take (i := 4) (oi := _) (v := ?_) rfl (by kernel_rfl) (by kernel_rfl) (by kernel_rfl) (fun _ _ _ h => h) (Or.inl ⟨by first | rfl | kernel_rfl, ?hy42⟩) (by assumption) ?rs42; (case hy42 => (intro w hSw; (try dsimp only at hSw); go_simp; first | done | with_reducible rfl)); case' rs42 => (simp only [List.getElem_toArray, List.getElem_cons_zero, List.getElem_cons_succ, Act.put, List.setIfInBounds_toArray, List.set_cons_zero, List.set_cons_succ])); (refine wpAnyL_take (i := 5) (oi := _) (v := ?_) rfl (by kernel_rfl) (by kernel_rfl) (by kernel_rfl) (fun _ _ _ h => h) (Or.inl ⟨by first | rfl | kernel_rfl, ?hy43⟩) (by assumption) ?rs43; (case hy43 => (intro w hSw; (try dsimp only at hSw); go_simp; first | done | with_reducible rfl)); case' rs43 => (simp only [List.getElem_toArray, List.getElem_cons_zero, List.getElem_cons_succ, Act.put, List.setIfInBounds_toArray, List.set_cons_zero, List.set_cons_succ])); (refine wpAnyL_take (i := 6) (oi := _) (v := ?_) rfl (by kernel_rfl) (by kernel_rfl) (by kernel_rfl) (fun _ _ _ h => h) (Or.inl ⟨by first | rfl | kernel_rfl, ?hy44⟩) (by assumption) ?rs44; (case hy44 => (intro w hSw; (try dsimp only at hSw); go_simp; first | done | with_reducible rfl)); case' rs44 => (simp only [List.getElem_toArray, List.getElem_cons_zero, List.getElem_cons_succ, Act.put, List.setIfInBounds_toArray, List.set_cons_zero, List.set_cons_succ])); (refine wpAnyL_take (i := 7) (oi := _) (v := ?_) rfl (by kernel_rfl) (by kernel_rfl) (by kernel_rfl) (fun _ _ _ h => h) (Or.inl ⟨by first | rfl | kernel_rfl, ?hy45⟩) (by assumption) ?rs45; (case hy45 => (intro w hSw; (try dsimp only at hSw); go_simp; first | done | with_reducible rfl)); case' rs45 => (simp only [List.getElem_toArray, List.getElem_cons_zero, List.getElem_cons_succ, Act.put, List.setIfInBounds_toArray, List.set_cons_zero, List.set_cons_succ])); (refine wpAnyL_take (i := 8) (oi := _) (v := ?_) rfl (by kernel_rfl) (by kernel_rfl) (by kernel_rfl) (fun _ _ _ h => h) (Or.inl ⟨by first | rfl | kernel_rfl, ?hy46⟩) (by assumption) ?rs46; (case hy46 => (intro w hSw; (try dsimp only at hSw); go_simp; first | done | with_reducible rfl)); case' rs46 => (simp only [List.getElem_toArray, List.getElem_cons_zero, List.getElem_cons_succ, Act.put, List.setIfInBounds_toArray, List.set_cons_zero, List.set_cons_succ])); (refine wpAnyL_take (i := 9) (oi := _) (v := ?_) rfl (by kernel_rfl) (by kernel_rfl) (by kernel_rfl) (fun _ _ _ h => h) (Or.inl ⟨by first | rfl | kernel_rfl, ?hy47⟩) (by assumption) ?rs47; (case hy47 => (intro w hSw; (try dsimp only at hSw); go_simp; first | done | with_reducible rfl)); case' rs47 => (simp only [List.getElem_toArray, List.getElem_cons_zero, List.getElem_cons_succ, Act.put, List.setIfInBounds_toArray, List.set_cons_zero, List.set_cons_succ])); (refine wpAnyL_take (i := 10) (oi := _) (v := ?_) rfl (by kernel_rfl) (by kernel_rfl) (by kernel_rfl) (fun _ _ _ h => h) (Or.inl ⟨by first | rfl | kernel_rfl, ?hy48⟩) (by assumption) ?rs48; (case hy48 => (intro w hSw; (try dsimp only at hSw); go_simp; first | done | with_reducible rfl)); case' rs48 => (simp only [List.getElem_toArray, List.getElem_cons_zero, List.getElem_cons_succ, Act.put, List.setIfInBounds_toArray, List.set_cons_zero, List.set_cons_succ])); (refine wpAnyL_take (i := 11) (oi := _) (v := ?_) rfl (by kernel_rfl) (by kernel_rfl) (by kernel_rfl) (fun _ _ _ h => h) (Or.inl ⟨by first | rfl | kernel_rfl, ?hy49⟩) (by assumption) ?rs49; (case hy49 => (intro w hSw; (try dsimp only at hSw); go_simp; first | done | with_reducible rfl)); case' rs49 => (simp only [List.getElem_toArray, List.getElem_cons_zero, List.getElem_cons_succ, Act.put, List.setIfInBounds_toArray, List.set_cons_zero, List.set_cons_succ])); (refine wpAnyL_take (i := 12) (oi := _) (v := ?_) rfl (by kernel_rfl) (by kernel_rfl) (by kernel_rfl) (fun _ _ _ h => h) (Or.inl ⟨by first | rfl | kernel_rfl, ?hy50⟩) (by assumption) ?rs50; (case hy50 => (intro w hSw; (try dsimp only at hSw); go_simp; first | done | with_reducible rfl)); case' rs50 => (simp only [List.getElem_toArray, List.getElem_cons_zero, List.getElem_cons_succ, Act.put, List.setIfInBounds_toArray, List.set_cons_zero, List.set_cons_succ])); (refine wpAnyL_take (i := 13) (oi := _) (v := ?_) rfl (by kernel_rfl) (by kernel_rfl) (by kernel_rfl) (fun _ _ _ h => h) (Or.inl ⟨by first | rfl | kernel_rfl, ?hy51⟩) (by assumption) ?rs51; (case hy51 => (intro w hSw; (try dsimp only at hSw); go_simp; first | done | with_reducible rfl)); case' rs51 => (simp only [List.getElem_toArray, List.getElem_cons_zero, List.getElem_cons_succ, Act.put, List.setIfInBounds_toArray, List.set_cons_zero, List.set_cons_succ])); (refine wpAnyL_take (i := 14) (oi := _) (v := ?_) rfl (by kernel_rfl) (by kernel_rfl) (by kernel_rfl) (fun _ _ _ h => h) (Or.inl ⟨by first | rfl | kernel_rfl, ?hy52⟩) (by assumption) ?rs52; (case hy52 => (intro w hSw; (try dsimp only at hSw); go_simp; first | done | with_reducible rfl)); case' rs52 => (simp only [List.getElem_toArray, List.getElem_cons_zero, List.getElem_cons_succ, Act.put, List.setIfInBounds_toArray, List.set_cons_zero, List.set_cons_succ])); skip
            refine wpAnyL_done (by kernel_rfl) ?_ _
            have D := Lib.hid D
            go_wp2
            go_ret
            exact ⟨rfl, D0.out.trans ((D3.out.trans (D.out.mono D3.out.size)).mono D0.out.size)⟩
          · rw [hc1] at ZN
            rw [hc2] at ZP
            have ZN := Lib.hid ZN
            have ZP := Lib.hid ZP
            clear hc1 hc2
            go_enter Tryd.func3, Tryd.ntmps3
            go_upto_region 20 with (first
              | (go_at_call 7; rw [HW0.out]; (with_reducible refine (A1.out).mono ?_); rintro e w1 ⟨rfl, hb⟩; have D := Lib.hid (hb); clear hb; obtain ⟨k0, k1, k2⟩ := KB.out _ D.out)
              | (go_at_call 8; (with_reducible refine (A2.out _ D.out).mono ?_); rintro e w2 ⟨rfl, hb⟩; have D := Lib.hid (D.out.trans (hb.mono D.out.size)); clear hb; obtain ⟨k0, k1, k2⟩ := KB.out _ D.out)
              | (go_at_call 9; (with_reducible refine (A3.out _ D.out).mono ?_); rintro e w3 ⟨rfl, hb⟩; have D := Lib.hid (D.out.trans (hb.mono D.out.size)); clear hb; obtain ⟨k0, k1, k2⟩ := KB.out _ D.out)
              | (go_at_call 10; (with_reducible refine (T1.out _ D.out).mono ?_); rintro e w4 ⟨rfl, hb⟩; have D := Lib.hid (D.out.trans (hb.mono D.out.size)); clear hb; obtain ⟨k0, k1, k2⟩ := KB.out _ D.out)
              | (go_at_call 10; (with_reducible refine (T2.out _ D.out).mono ?_); rintro e w5 ⟨rfl, hb⟩; have D := Lib.hid (D.out.trans (hb.mono D.out.size)); clear hb; obtain ⟨k0, k1, k2⟩ := KB.out _ D.out)
              | (go_at_call 16; (with_reducible refine (IN.out _).mono ?_); rintro e w6 ⟨rfl, rfl⟩)
              | (go_at_call 18; (with_reducible refine (II.out _).mono ?_); rintro e w7 ⟨rfl, rfl⟩)
              | (go_at_call 19; (with_reducible refine (C3.out _).mono ?_); rintro e w8 ⟨b8, A8, n8, c8, rfl, hv, hb⟩; have s := hb.alloc hb.size (.cells #[.bool b8, .slice A8 n8 c8] 34); have D := Lib.hid (D.out.trans (s.mono D.out.size)); clear hb s; obtain ⟨k0, k1, k2⟩ := KB.out _ D.out)
              | (go_at_call 23; (with_reducible refine (IS.out _ D.out).mono ?_); rintro e w9 ⟨rfl, hb⟩; have D := Lib.hid (D.out.trans (hb.mono D.out.size)); clear hb; obtain ⟨k0, k1, k2⟩ := KB.out _ D.out)
              | (go_at_call 24; (with_reducible refine (BT.out _).mono ?_); rintro e w10 ⟨rfl, rfl⟩)
              | (go_at_call 19; (with_reducible refine (CM.out _).mono ?_); rintro e w11 ⟨bz, Az, nz, cz, rfl, hv, hb⟩; have D := Lib.hid (D.out.trans (hb.mono D.out.size)); clear hb))
            have X1 := Blk.new w11 34 #[.bool bz, .slice Az nz cz]
            have V1 := hv.alloc (.cells #[.bool bz, .slice Az nz cz] 34)
            have D3 : Below W0.heap.size W0 (w11.alloc (.cells #[.bool bz, .slice Az nz cz] 34)) := D.out.alloc D.out.size _
            obtain ⟨W1, hW1⟩ : ∃ W1, w11.alloc (.cells #[.bool bz, .slice Az nz cz] 34) = W1 := ⟨_, rfl⟩
            obtain ⟨g8, hg8⟩ : ∃ g8, w11.heap.size = g8 := ⟨_, rfl⟩
            rw [hW1] at X1 V1 D3 ⊢
            rw [hg8] at X1 ⊢
            have KZ : Hid (∀ W, Below W1.heap.size W1 W → W.cell? ⟨g8, 0, none⟩ = some (.bool bz) ∧ W.cell? ⟨g8, 1, none⟩ = some (.slice Az nz cz)) := fun W h => ⟨(X1.below h X1.lt).at_ 0 rfl, (X1.below h X1.lt).at_ 1 rfl⟩
            have VZ : Hid (∀ W, Below W1.heap.size W1 W → ZV W (.agg #[.bool bz, .slice Az nz cz]) z) := fun W h => (V1.below h).v
            have D3 := Lib.hid D3
            clear hW1 hg8 D hv X1 V1
            have D : Below W1.heap.size W1 W1.drew := (Below.refl _ _).drew
            (refine wp_region_L (S := fun w' => w'.cell? ⟨g8, 0, none⟩ = some (.bool bz) ∧ w'.cell? ⟨g8, 1, none⟩ = some (.slice Az nz cz)) (nl := 1000000) (by kernel_rfl) ?_ (fun hHeld => ?_); focus (exact KZ.out _ D))
            (refine wpAnyL_take (i := 0) (oi := _) (v := ?_) rfl (by kernel_rfl) (by kernel_rfl) (by kernel_rfl) (fun _ _ _ h => h) (Or.inl ⟨by first | rfl | kernel_rfl, ?hy53⟩) (by assumption) ?rs53; (case hy53 => (intro w hSw; (try dsimp only at hSw); go_simp; first | done | with_reducible rfl)); case' rs53 => (simp only [List.getElem_toArray, List.getElem_cons_zero, List.getElem_cons_succ, Act.put, List.setIfInBounds_toArray, List.set_cons_zero, List.set_cons_succ])); skip
            (refine wpAnyL_one (i := 1) (o := _) (by kernel_rfl) rfl (fun K hK => ?_); clear hHeld; simp only [List.getElem_toArray, List.getElem_cons_zero, List.getElem_cons_succ]; go_simp; (go_at_call 26; (with_reducible refine (NN.out _).mono ?_); rintro e v1 ⟨_, rfl, ⟨q1, Q1, m1, d1, rfl, h1⟩, hb1⟩; have D := D.trans (hb1.mono D.size)); refine hK.out _ _ ?_ (fun hHeld => ?_); focus (intro _; exact KZ.out _ D)); have hHeld := hHeld (by decide); clear hK K; (try simp only [Act.put, List.setIfInBounds_toArray, List.set_cons_zero, List.set_cons_succ])
            (refine wpAnyL_one (i := 2) (o := _) (by kernel_rfl) rfl (fun K hK => ?_); clear hHeld; simp only [List.getElem_toArray, List.getElem_cons_zero, List.getElem_cons_succ]; go_simp; (go_at_call 25; (with_reducible refine (ZN.out _ _ _ (VZ.out _ D) h1.v).mono ?_); rintro e v2 ⟨rfl, hb2⟩; have D := D.trans (hb2.mono D.size)); refine hK.out _ _ ?_ (fun hHeld => ?_); focus (intro _; exact KZ.out _ D)); have hHeld := hHeld (by decide); clear hK K; (try simp only [Act.put, List.setIfInBounds_toArray, List.set_cons_zero, List.set_cons_succ])
            (refine wpAnyL_take (i := 3) (oi := _) (v := ?_) rfl (by kernel_rfl) (by kernel_rfl) (by kernel_rfl) (fun _ _ _ h => h) (Or.inl ⟨by first | rfl | kernel_rfl, ?hy54⟩) (by assumption) ?rs54; (case hy54 => (intro w hSw; (try dsimp only at hSw); go_simp; first | done | with_reducible rfl)); case' rs54 => (simp only [List.getElem_toArray, List.getElem_cons_zero, List.getElem_cons_succ, Act.put, List.setIfInBounds_toArray, List.set_cons_zero, List.set_cons_succ])); (refine wpAnyL_take (i := 4) (oi := _) (v := ?_) rfl (by kernel_rfl) (by kernel_rfl) (by kernel_rfl) (fun _ _ _ h => h) (Or.inl ⟨by first | rfl | kernel_rfl, ?hy55⟩) (by assumption) ?rs55; (case hy55 => (intro w hSw; (try dsimp only at hSw); go_simp; first | done | with_reducible rfl)); case' rs55 => (simp only [List.getElem_toArray, List.getElem_cons_zero, List.getElem_cons_succ, Act.put, List.setIfInBounds_toArray, List.set_cons_zero, List.set_cons_succ])); (refine wpAnyL_take (i := 5) (oi := _) (v := ?_) rfl (by kernel_rfl) (by kernel_rfl) (by kernel_rfl) (fun _ _ _ h => h) (Or.inl ⟨by first | rfl | kernel_rfl, ?hy56⟩) (by assumption) ?rs56; (case hy56 => (intro w hSw; (try dsimp only at hSw); go_simp; first | done | with_reducible rfl)); case' rs56 => (simp only [List.getElem_toArray, List.getElem_cons_zero, List.getElem_cons_succ, Act.put, List.setIfInBounds_toArray, List.set_cons_zero, List.set_cons_succ])); skip
            (refine wpAnyL_one (i := 6) (o := _) (by kernel_rfl) rfl (fun K hK => ?_); clear hHeld; simp only [List.getElem_toArray, List.getElem_cons_zero, List.getElem_cons_succ]; go_simp; (go_at_call 26; (with_reducible refine (NP.out _).mono ?_); rintro e v3 ⟨_, rfl, ⟨q3, Q3, m3, d3, rfl, h3⟩, hb3⟩; have D := D.trans (hb3.mono D.size)); refine hK.out _ _ ?_ (fun hHeld => ?_); focus (intro _; exact KZ.out _ D)); have hHeld := hHeld (by decide); clear hK K; (try simp only [Act.put, List.setIfInBounds_toArray, List.set_cons_zero, List.set_cons_succ])
            (refine wpAnyL_one (i := 7) (o := _) (by kernel_rfl) rfl (fun K hK => ?_); clear hHeld; simp only [List.getElem_toArray, List.getElem_cons_zero, List.getElem_cons_succ]; go_simp; (go_at_call 25; (with_reducible refine (ZP.out _ _ _ (VZ.out _ D) h3.v).mono ?_); rintro e v4 ⟨rfl, hb4⟩; have D := D.trans (hb4.mono D.size)); refine hK.out _ _ ?_ (fun hHeld => ?_); focus (intro _; exact KZ.out _ D)); have hHeld := hHeld (by decide); clear hK K; (try simp only [Act.put, List.setIfInBounds_toArray, List.set_cons_zero, List.set_cons_succ])
            (refine wpAnyL_take (i := 8) (oi := _) (v := ?_) rfl (by kernel_rfl) (by kernel_rfl) (by kernel_rfl) (fun _ _ _ h => h) (Or.inl ⟨by first | rfl | kernel_rfl, ?hy57⟩) (by assumption) ?rs57; (case hy57 => (intro w hSw; (try dsimp only at hSw); go_simp; first | done | with_reducible rfl)); case' rs57 => (simp only [List.getElem_toArray, List.getElem_cons_zero, List.getElem_cons_succ, Act.put, List.setIfInBounds_toArray, List.set_cons_zero, List.set_cons_succ])); (refine wpAnyL_take (i := 9) (oi := _) (v := ?_) rfl (by kernel_rfl) (by kernel_rfl) (by kernel_rfl) (fun _ _ _ h => h) (Or.inl ⟨by first | rfl | kernel_rfl, ?hy58⟩) (by assumption) ?rs58; (case hy58 => (intro w hSw; (try dsimp only at hSw); go_simp; first | done | with_reducible rfl)); case' rs58 => (simp only [List.getElem_toArray, List.getElem_cons_zero, List.getElem_cons_succ, Act.put, List.setIfInBounds_toArray, List.set_cons_zero, List.set_cons_succ])); skip
            refine wpAnyL_done (by kernel_rfl) ?_ _
            go_upto_region 22 with fail
            have D := D.drew
            (refine wp_region_L (S := fun w' => w'.cell? ⟨g8, 0, none⟩ = some (.bool bz) ∧ w'.cell? ⟨g8, 1, none⟩ = some (.slice Az nz cz)) (nl := 1000000) (by kernel_rfl) ?_ (fun hHeld => ?_); focus (exact KZ.out _ D))
            (refine wpAnyL_take (i := 0) (oi := _) (v := ?_) rfl (by kernel_rfl) (by kernel_rfl) (by kernel_rfl) (fun _ _ _ h => h) (Or.inl ⟨by first | rfl | kernel_rfl, ?hy59⟩) (by assumption) ?rs59; (case hy59 => (intro w hSw; (try dsimp only at hSw); go_simp; first | done | with_reducible rfl)); case' rs59 => (simp only [List.getElem_toArray, List.getElem_cons_zero, List.getElem_cons_succ, Act.put, List.setIfInBounds_toArray, List.set_cons_zero, List.set_cons_succ])); (refine wpAnyL_take (i := 2) (oi := _) (v := ?_) rfl (by kernel_rfl) (by kernel_rfl) (by kernel_rfl) (fun _ _ _ h => h) (Or.inl ⟨by first | rfl | kernel_rfl, ?hy60⟩) (by assumption) ?rs60; (case hy60 => (intro w hSw; (try dsimp only at hSw); go_simp; first | done | with_reducible rfl)); case' rs60 => (simp only [List.getElem_toArray, List.getElem_cons_zero, List.getElem_cons_succ, Act.put, List.setIfInBounds_toArray, List.set_cons_zero, List.set_cons_succ])); skip
            (refine wpAnyL_one (i := 1) (o := _) (by kernel_rfl) rfl (fun K hK => ?_); clear hHeld; simp only [List.getElem_toArray, List.getElem_cons_zero, List.getElem_cons_succ]; go_simp; (go_at_call 14; (with_reducible refine (ZO.out _).mono ?_); rintro e v5 ⟨_, rfl, ⟨q5, Q5, m5, d5, rfl, h5⟩, hb5⟩; have D := D.trans (hb5.mono D.size)); refine hK.out _ _ ?_ (fun hHeld => ?_); focus (intro _; exact KZ.out _ D)); have hHeld := hHeld (by decide); clear hK K; (try simp only [Act.put, List.setIfInBounds_toArray, List.set_cons_zero, List.set_cons_succ])
            (refine wpAnyL_one (i := 3) (o := _) (by kernel_rfl) rfl (fun K hK => ?_); clear hHeld; simp only [List.getElem_toArray, List.getElem_cons_zero, List.getElem_cons_succ]; go_simp; (go_at_call 25; (with_reducible refine (ZZ.out _ _ _ h5.v (VZ.out _ D)).mono ?_); rintro e v6 ⟨rfl, hb6⟩; have D := D.trans (hb6.mono D.size)); refine hK.out _ _ ?_ (fun hHeld => ?_); focus (intro _; exact KZ.out _ D)); have hHeld := hHeld (by decide); clear hK K; (try simp only [Act.put, List.setIfInBounds_toArray, List.set_cons_zero, List.set_cons_succ])
            (refine wpAnyL_take (i := 4) (oi := _) (v := ?_) rfl (by kernel_rfl) (by kernel_rfl) (by kernel_rfl) (fun _ _ _ h => h) (Or.inl ⟨by first | rfl | kernel_rfl, ?hy61⟩) (by assumption) ?rs61; (case hy61 => (intro w hSw; (try dsimp only at hSw); go_simp; first | done | with_reducible rfl)); case' rs61 => (simp only [List.getElem_toArray, List.getElem_cons_zero, List.getElem_cons_succ, Act.put, List.setIfInBounds_toArray, List.set_cons_zero, List.set_cons_succ])); (refine wpAnyL_take (i := 5) (oi := _) (v := ?_) rfl (by kernel_rfl) (by kernel_rfl) (by kernel_rfl) (fun _ _ _ h => h) (Or.inl ⟨by first | rfl | kernel_rfl, ?hy62⟩) (by assumption) ?rs62; (case hy62 => (intro w hSw; (try dsimp only at hSw); go_simp; first | done | with_reducible rfl)); case' rs62 => (simp only [List.getElem_toArray, List.getElem_cons_zero, List.getElem_cons_succ, Act.put, List.setIfInBounds_toArray, List.set_cons_zero, List.set_cons_succ])); (refine wpAnyL_take (i := 6) (oi := _) (v := ?_) rfl (by kernel_rfl) (by kernel_rfl) (by kernel_rfl) (fun _ _ _ h => h) (Or.inl ⟨by first | rfl | kernel_rfl, ?hy63⟩) (by assumption) ?rs63; (case hy63 => (intro w hSw; (try dsimp only at hSw); go_simp; first | done | with_reducible rfl)); case' rs63 => (simp only [List.getElem_toArray, List.getElem_cons_zero, List.getElem_cons_succ, Act.put, List.setIfInBounds_toArray, List.set_cons_zero, List.set_cons_succ])); (refine wpAnyL_take (i := 7) (oi := _) (v := ?_) rfl (by kernel_rfl) (by kernel_rfl) (by kernel_rfl) (fun _ _ _ h => h) (Or.inl ⟨by first | rfl | kernel_rfl, ?hy64⟩) (by assumption) ?rs64; (case hy64 => (intro w hSw; (try dsimp only at hSw); go_simp; first | done | with_reducible rfl)); case' rs64 => (simp only [List.getElem_toArray, List.getElem_cons_zero, List.getElem_cons_succ, Act.put, List.setIfInBounds_toArray, List.set_cons_zero, List.set_cons_succ])); (refine wpAnyL_take (i := 8) (oi := _) (v := ?_) rfl (by kernel_rfl) (by kernel_rfl) (by kernel_rfl) (fun _ _ _ h => h) (Or.inl ⟨by first | rfl | kernel_rfl, ?hy65⟩) (by assumption) ?rs65; (case hy65 => (intro w hSw; (try dsimp only at hSw); go_simp; first | done | with_reducible rfl)); case' rs65 => (simp only [List.getElem_toArray, List.getElem_cons_zero, List.getElem_cons_succ, Act.put, List.setIfInBounds_toArray, List.set_cons_zero, List.set_cons_succ])); (refine wpAnyL_take (i := 9) (oi := _) (v := ?_) rfl (by kernel_rfl) (by kernel_rfl) (by kernel_rfl) (fun _ _ _ h => h) (Or.inl ⟨by first | rfl | kernel_rfl, ?hy66⟩) (by assumption) ?rs66; (case hy66 => (intro w hSw; (try dsimp only at hSw); go_simp; first | done | with_reducible rfl)); case' rs66 => (simp only [List.getElem_toArray, List.getElem_cons_zero, List.getElem_cons_succ, Act.put, List.setIfInBounds_toArray, List.set_cons_zero, List.set_cons_succ])); (refine wpAnyL_take (i := 10) (oi := _) (v := ?_) rfl (by kernel_rfl) (by kernel_rfl) (by kernel_rfl) (fun _ _ _ h => h) (Or.inl ⟨by first | rfl | kernel_rfl, ?hy67⟩) (by assumption) ?rs67; (case hy67 => (intro w hSw; (try dsimp only at hSw); go_simp; first | done | with_reducible rfl)); case' rs67 => (simp only [List.getElem_toArray, List.getElem_cons_zero, List.getElem_cons_succ, Act.put, List.setIfInBounds_toArray, List.set_cons_zero, List.set_cons_succ])); (refine wpAnyL_take (i := 11) (oi := _) (v := ?_) rfl (by kernel_rfl) (by kernel_rfl) (by kernel_rfl) (fun _ _ _ h => h) (Or.inl ⟨by first | rfl | kernel_rfl, ?hy68⟩) (by assumption) ?rs68; (case hy68 => (intro w hSw; (try dsimp only at hSw); go_simp; first | done | with_reducible rfl)); case' rs68 => (simp only [List.getElem_toArray, List.getElem_cons_zero, List.getElem_cons_succ, Act.put, List.setIfInBounds_toArray, List.set_cons_zero, List.set_cons_succ])); (refine wpAnyL_take (i := 12) (oi := _) (v := ?_) rfl (by kernel_rfl) (by kernel_rfl) (by kernel_rfl) (fun _ _ _ h => h) (Or.inl ⟨by first | rfl | kernel_rfl, ?hy69⟩) (by assumption) ?rs69; (case hy69 => (intro w hSw; (try dsimp only at hSw); go_simp; first | done | with_reducible rfl)); case' rs69 => (simp only [List.getElem_toArray, List.getElem_cons_zero, List.getElem_cons_succ, Act.put, List.setIfInBounds_toArray, List.set_cons_zero, List.set_cons_succ])); (refine wpAnyL_take (i := 13) (oi := _) (v := ?_) rfl (by kernel_rfl) (by kernel_rfl) (by kernel_rfl) (fun _ _ _ h => h) (Or.inl ⟨by first | rfl | kernel_rfl, ?hy70⟩) (by assumption) ?rs70; (case hy70 => (intro w hSw; (try dsimp only at hSw); go_simp; first | done | with_reducible rfl)); case' rs70 => (simp only [List.getElem_toArray, List.getElem_cons_zero, List.getElem_cons_succ, Act.put, List.setIfInBounds_toArray, List.set_cons_zero, List.set_cons_succ])); (refine wpAnyL_take (i := 14) (oi := _) (v := ?_) rfl (by kernel_rfl) (by kernel_rfl) (by kernel_rfl) (fun _ _ _ h => h) (Or.inl ⟨by first | rfl | kernel_rfl, ?hy71⟩) (by assumption) ?rs71; (case hy71 => (intro w hSw; (try dsimp only at hSw); go_simp; first | done | with_reducible rfl)); case' rs71 => (simp only [List.getElem_toArray, List.getElem_cons_zero, List.getElem_cons_succ, Act.put, List.setIfInBounds_toArray, List.set_cons_zero, List.set_cons_succ])); skip
            refine wpAnyL_done (by kernel_rfl) ?_ _
            have D := Lib.hid D
            go_wp2
            go_ret
            exact ⟨rfl, D0.out.trans ((D3.out.trans (D.out.mono D3.out.size)).mono D0.out.size)⟩
    · rw [if_pos hm] at ke
      rw [ke] at A2
      rw [decide_eq_false hm] at BT
      dsimp only at A2
      generalize wn x 3 = z3 at *
      generalize lostW x = l at *
      clear CW hf hw hx hm c5 c4 hcl ke
      go_enter Tryd.func3, Tryd.ntmps3
      go_wp2_with (first
        | (go_at_call 7; rw [HW0.out]; (with_reducible refine (A1.out).mono ?_); rintro e w1 ⟨rfl, hb⟩; have D := Lib.hid (hb); clear hb; obtain ⟨k0, k1, k2⟩ := KB.out _ D.out)
        | (go_at_call 8; (with_reducible refine (A2.out _ D.out).mono ?_); rintro e w2 ⟨rfl, hb⟩; have D := Lib.hid (D.out.trans (hb.mono D.out.size)); clear hb; obtain ⟨k0, k1, k2⟩ := KB.out _ D.out)
        | (go_at_call 9; (with_reducible refine (A3.out _ D.out).mono ?_); rintro e w3 ⟨rfl, hb⟩; have D := Lib.hid (D.out.trans (hb.mono D.out.size)); clear hb; obtain ⟨k0, k1, k2⟩ := KB.out _ D.out)
        | (go_at_call 10; (with_reducible refine (T1.out _ D.out).mono ?_); rintro e w4 ⟨rfl, hb⟩; have D := Lib.hid (D.out.trans (hb.mono D.out.size)); clear hb; obtain ⟨k0, k1, k2⟩ := KB.out _ D.out)
        | (go_at_call 10; (with_reducible refine (T2.out _ D.out).mono ?_); rintro e w5 ⟨rfl, hb⟩; have D := Lib.hid (D.out.trans (hb.mono D.out.size)); clear hb; obtain ⟨k0, k1, k2⟩ := KB.out _ D.out)
        | (go_at_call 16; (with_reducible refine (IN.out _).mono ?_); rintro e w6 ⟨rfl, rfl⟩)
        | (go_at_call 18; (with_reducible refine (II.out _).mono ?_); rintro e w7 ⟨rfl, rfl⟩)
        | (go_at_call 19; (with_reducible refine (C3.out _).mono ?_); rintro e w8 ⟨b8, A8, n8, c8, rfl, hv, hb⟩; have s := hb.alloc hb.size (.cells #[.bool b8, .slice A8 n8 c8] 34); have D := Lib.hid (D.out.trans (s.mono D.out.size)); clear hb s; obtain ⟨k0, k1, k2⟩ := KB.out _ D.out)
        | (go_at_call 23; (with_reducible refine (IS.out _ D.out).mono ?_); rintro e w9 ⟨rfl, hb⟩; have D := Lib.hid (D.out.trans (hb.mono D.out.size)); clear hb; obtain ⟨k0, k1, k2⟩ := KB.out _ D.out)
        | (go_at_call 24; (with_reducible refine (BT.out _).mono ?_); rintro e w10 ⟨rfl, rfl⟩))
      go_ret
      exact ⟨rfl, D0.out.trans (D.out.mono D0.out.size)⟩
end IC
end Go.Proofs.YtpmpkllpaceloaaDoor
