/-
  Texts glued together for a claim: VK2.
-/
import Derived.Test.YtcendlgbcnpfcaaDoorY14
import Derived.Test.YtcendlgbcnpfcaaDoorY1
/-
  SumSays: the walk.
-/
namespace Go.Proofs.YtcendlgbcnpfcaaDoor
set_option linter.unusedVariables false
set_option linter.unusedSimpArgs false
open Go.RowKit
set_option linter.unusedVariables false
set_option linter.unusedSimpArgs false
namespace VC
open Z (Nz Tz cmpv big)
open ZC DC RC QC SC
theorem clo1_c (x y mode : Int) (g h i : Nat) (w : World) (hx : 0 ≤ x ∧ x ≤ 18446744073709551615) (hy : 0 ≤ y ∧ y ≤ 18446744073709551615) (hm : 0 ≤ mode ∧ mode ≤ 4)
    (c0 : w.cell? ⟨g, 0, none⟩ = some (.int .u64 x)) (c1 : w.cell? ⟨h, 0, none⟩ = some (.int .u64 y)) (c2 : w.cell? ⟨i, 0, none⟩ = some (.int .i64 mode)) (hi : i < w.heap.size) :
    Calls Tryd.prog 50 #[.pointer (some ⟨g, 0, none⟩), .pointer (some ⟨h, 0, none⟩), .pointer (some ⟨i, 0, none⟩)] w fun e w' => e = .returned (.tuple #[.int .u64 (SO [x, y] mode).1, .bool (SO [x, y] mode).2]) ∧ Below w.heap.size w w' := by
  have D0 := al1 w (.cells #[.int .u64 x, .int .u64 y] 22)
  have hs : Sl .u64 (w.alloc (.cells #[.int .u64 x, .int .u64 y] 22)) (.slice (some ⟨w.heap.size, 0, none⟩) 2 2) [x, y] := Row.sl (k := .u64) (e := 22) (L := [x, y]) (Blk.new w 22 #[.int .u64 x, .int .u64 y]) 2 (by simp)
  have c3 : (w.alloc (.cells #[.int .u64 x, .int .u64 y] 22)).cell? ⟨i, 0, none⟩ = some (.int .i64 mode) := (D0.cell (p := ⟨i, 0, none⟩) hi).trans c2
  have SC1 := Lib.hid (SumOf_c _ _ _ _ mode _ hs (u2 hx hy) (by simp) hm)
  obtain ⟨t, ht⟩ : ∃ t, SO [x, y] mode = t := ⟨_, rfl⟩
  rw [ht] at SC1 ⊢
  obtain ⟨z, l⟩ := t
  dsimp only at SC1 ⊢
  have D0 := Lib.hid D0
  clear ht hs hx hy hm
  go_enter Tryd.func50, Tryd.ntmps50
  go_wp2_with (go_at_call 51; (with_reducible refine (SC1.out).mono ?_); rintro e w1 ⟨rfl, hb⟩; have hb := Lib.hid (D0.out.trans (hb.mono D0.out.size)))
  go_ret2
  exact ⟨rfl, hb.out⟩
theorem toldS1_c (x mode : Int) (l : Bool) (g h i : Nat) (w : World) (hm : 0 ≤ mode ∧ mode ≤ 4)
    (CL : Calls Tryd.prog 50 #[.pointer (some ⟨g, 0, none⟩), .pointer (some ⟨h, 0, none⟩), .pointer (some ⟨i, 0, none⟩)] w fun e w' => e = .returned (.tuple #[.int .u64 x, .bool l]) ∧ Below w.heap.size w w') :
    Calls Tryd.prog 49 #[.int .u64 x, .bool l, .int .i64 0, .int .i64 mode, .func (.func 50) #[] #[.pointer (some ⟨g, 0, none⟩), .pointer (some ⟨h, 0, none⟩), .pointer (some ⟨i, 0, none⟩)]] w fun e w' => e = .returned (.bool true) ∧ Below w.heap.size w w' := by
  have BT := Lib.hid (FloatR.Between_t mode 0 4 hm.1 hm.2 w)
  have CL := Lib.hid CL
  have tx : (x == x) = true := by simp
  have tl : (l == l) = true := by simp
  clear hm
  go_enter Tryd.func49, Tryd.ntmps49
  go_wp2_with (first
    | (go_at_call 25; (with_reducible refine (BT.out).mono ?_); rintro e w1 ⟨rfl, rfl⟩)
    | (go_at_call 50; (with_reducible refine (CL.out).mono ?_); rintro e w2 ⟨rfl, hb⟩; have hb := Lib.hid hb))
  go_ret
  exact ⟨rfl, hb.out⟩
theorem clo2_c (x y mode : Int) (g h i : Nat) (w : World) (hx : 0 ≤ x ∧ x ≤ 18446744073709551615) (hy : 0 ≤ y ∧ y ≤ 18446744073709551615) (hm : 0 ≤ mode ∧ mode ≤ 4)
    (c0 : w.cell? ⟨g, 0, none⟩ = some (.int .u64 x)) (c1 : w.cell? ⟨h, 0, none⟩ = some (.int .u64 y)) (c2 : w.cell? ⟨i, 0, none⟩ = some (.int .i64 mode)) (hi : i < w.heap.size) :
    Calls Tryd.prog 52 #[.pointer (some ⟨g, 0, none⟩), .pointer (some ⟨h, 0, none⟩), .pointer (some ⟨i, 0, none⟩)] w fun e w' => e = .returned (.tuple #[.int .u64 (SO [x, y] mode).1, .bool (SO [x, y] mode).2]) ∧ Below w.heap.size w w' := by
  have D0 := al1 w (.cells #[.int .u64 x, .int .u64 y] 22)
  have hs : Sl .u64 (w.alloc (.cells #[.int .u64 x, .int .u64 y] 22)) (.slice (some ⟨w.heap.size, 0, none⟩) 2 2) [x, y] := Row.sl (k := .u64) (e := 22) (L := [x, y]) (Blk.new w 22 #[.int .u64 x, .int .u64 y]) 2 (by simp)
  have c3 : (w.alloc (.cells #[.int .u64 x, .int .u64 y] 22)).cell? ⟨i, 0, none⟩ = some (.int .i64 mode) := (D0.cell (p := ⟨i, 0, none⟩) hi).trans c2
  have SC1 := Lib.hid (SumOf_c _ _ _ _ mode _ hs (u2 hx hy) (by simp) hm)
  obtain ⟨t, ht⟩ : ∃ t, SO [x, y] mode = t := ⟨_, rfl⟩
  rw [ht] at SC1 ⊢
  obtain ⟨z, l⟩ := t
  dsimp only at SC1 ⊢
  have D0 := Lib.hid D0
  clear ht hs hx hy hm
  go_enter Tryd.func52, Tryd.ntmps52
  go_wp2_with (go_at_call 51; (with_reducible refine (SC1.out).mono ?_); rintro e w1 ⟨rfl, hb⟩; have hb := Lib.hid (D0.out.trans (hb.mono D0.out.size)))
  go_ret2
  exact ⟨rfl, hb.out⟩
theorem toldS2_c (x mode : Int) (l : Bool) (g h i : Nat) (w : World) (hm : 0 ≤ mode ∧ mode ≤ 4)
    (CL : Calls Tryd.prog 52 #[.pointer (some ⟨g, 0, none⟩), .pointer (some ⟨h, 0, none⟩), .pointer (some ⟨i, 0, none⟩)] w fun e w' => e = .returned (.tuple #[.int .u64 x, .bool l]) ∧ Below w.heap.size w w') :
    Calls Tryd.prog 49 #[.int .u64 x, .bool l, .int .i64 0, .int .i64 mode, .func (.func 52) #[] #[.pointer (some ⟨g, 0, none⟩), .pointer (some ⟨h, 0, none⟩), .pointer (some ⟨i, 0, none⟩)]] w fun e w' => e = .returned (.bool true) ∧ Below w.heap.size w w' := by
  have BT := Lib.hid (FloatR.Between_t mode 0 4 hm.1 hm.2 w)
  have CL := Lib.hid CL
  have tx : (x == x) = true := by simp
  have tl : (l == l) = true := by simp
  clear hm
  go_enter Tryd.func49, Tryd.ntmps49
  go_wp2_with (first
    | (go_at_call 25; (with_reducible refine (BT.out).mono ?_); rintro e w1 ⟨rfl, rfl⟩)
    | (go_at_call 52; (with_reducible refine (CL.out).mono ?_); rintro e w2 ⟨rfl, hb⟩; have hb := Lib.hid hb))
  go_ret
  exact ⟨rfl, hb.out⟩
set_option maxRecDepth 100000 in
set_option maxHeartbeats 8000000 in
theorem says_c (x y mode : Int) (w : World) (hx : 0 ≤ x ∧ x ≤ 18446744073709551615) (hy : 0 ≤ y ∧ y ≤ 18446744073709551615) (hT : NC.TabD w) :
    Calls Tryd.prog 7 #[.int .u64 x, .int .u64 y, .int .i64 mode] w fun e w' => e = .returned (.bool true) ∧ Below w.heap.size w w' := by
  obtain ⟨N1, N2, N3, NS, D0⟩ := new3 w 22 22 3 #[.int .u64 x] #[.int .u64 y] #[.int .i64 mode] 0
  rw [World.drewN_zero] at N1 N2 N3 NS D0
  obtain ⟨W0, hW0⟩ : ∃ W0, ((w.alloc (.cells #[.int .u64 x] 22)).alloc (.cells #[.int .u64 y] 22)).alloc (.cells #[.int .i64 mode] 3) = W0 := ⟨_, rfl⟩
  rw [hW0] at N1 N2 N3 NS D0
  have KB : Hid (∀ W, Below W0.heap.size W0 W → W.cell? ⟨w.heap.size, 0, none⟩ = some (.int .u64 x) ∧ W.cell? ⟨w.heap.size + 1, 0, none⟩ = some (.int .u64 y) ∧ W.cell? ⟨w.heap.size + 2, 0, none⟩ = some (.int .i64 mode)) := fun W h => ⟨(N1.below h N1.lt).at_ 0 rfl, (N2.below h N2.lt).at_ 0 rfl, (N3.below h N3.lt).at_ 0 rfl⟩
  have HLT : Hid (∀ W, Below W0.heap.size W0 W → w.heap.size + 2 < W.heap.size) := fun W h => Nat.lt_of_lt_of_le N3.lt h.size
  have nb := F.neg_bd y hy.1 hy.2
  have A1 : Hid (Calls Tryd.prog 45 #[.int .u64 x, .int .u64 y, .int .i64 mode] W0 (DC.RetB W0 (ATv (AT [x, y] mode)))) := Add_c x y mode W0 hx hy (hT.below D0)
  have S1 : Hid (∀ W, Below W0.heap.size W0 W → Calls Tryd.prog 46 #[.int .u64 x, .int .u64 y, .int .i64 mode] W (DC.RetB W (ATv (AT [x, F.neg y] mode)))) := fun W hW => Sub_c x y mode W hx hy ((hT.below D0).below hW)
  have MI : Hid (∀ W : World, Calls Tryd.prog 48 #[.int .u64 y] W fun e w' => e = .returned (.bool (decide (9223372036854775808 ≤ y))) ∧ Below W.heap.size W w') := fun W => (Minus_c y W).mono fun e w' ⟨h1, h2⟩ => ⟨h1, h2 ▸ Below.refl _ _⟩
  obtain ⟨ym, hym⟩ : ∃ ym, y.tmod 9223372036854775808 = ym := ⟨_, rfl⟩
  have hym2 : ym = y % 9223372036854775808 := by rw [← hym]; exact Int.tmod_eq_emod_of_nonneg hy.1
  have SG : Hid (∀ W : World, Calls Tryd.prog 47 #[.int .u64 ym, .bool (!decide (9223372036854775808 ≤ y))] W fun e w' => e = .returned (.int .u64 (F.neg y)) ∧ Below W.heap.size W w') := fun W => by
    have h := Signed_c ym (!decide (9223372036854775808 ≤ y)) W (by omega) (by omega)
    have e : (if (!decide (9223372036854775808 ≤ y)) = true then ym + 9223372036854775808 else ym) = F.neg y := by
      unfold F.neg
      by_cases h9 : 9223372036854775808 ≤ y
      · rw [decide_eq_true h9, if_neg (by simp), if_neg (by omega)]; omega
      · rw [decide_eq_false h9, if_pos (by simp), if_pos (by omega)]; omega
    rw [e] at h
    exact h.mono fun e w' ⟨h1, h2⟩ => ⟨h1, h2 ▸ Below.refl _ _⟩
  have i1 : IntKind.u64.wrap ym = ym := IntWalk.u64_in _ (by omega)
  obtain ⟨bm, hbm⟩ : ∃ bm, decide (9223372036854775808 ≤ y) = bm := ⟨_, rfl⟩
  rw [hbm] at MI SG
  have TE1 : Hid (∃ t1 : Int × Bool × Int, AT [x, y] mode = t1 ∧ ∀ (W : World), Below W0.heap.size W0 W → Calls Tryd.prog 49 #[.int .u64 t1.1, .bool t1.2.1, .int .i64 t1.2.2, .int .i64 mode, .func (.func 50) #[] #[.pointer (some ⟨w.heap.size, 0, none⟩), .pointer (some ⟨w.heap.size + 1, 0, none⟩), .pointer (some ⟨w.heap.size + 2, 0, none⟩)]] W fun e w' => e = .returned (.bool true) ∧ Below W.heap.size W w') := by
    by_cases hm : 0 ≤ mode ∧ mode ≤ 4
    · refine ⟨_, SO_AT hm (by simp) (u2 hx hy), fun W hW => ?_⟩
      exact toldS1_c _ mode _ _ _ _ W hm (clo1_c x y mode _ _ _ W hx hy hm (KB.out W hW).1 (KB.out W hW).2.1 (KB.out W hW).2.2 (HLT.out W hW))
    · refine ⟨_, AT_no hm, fun W hW => ?_⟩
      exact (told_bad mode _ W (by omega)).mono fun e w' ⟨h1, h2⟩ => ⟨h1, h2 ▸ Below.refl _ _⟩
  have TE2 : Hid (∃ t2 : Int × Bool × Int, AT [x, F.neg y] mode = t2 ∧ ∀ (W : World) (g : Nat), Below W0.heap.size W0 W → W.cell? ⟨g, 0, none⟩ = some (.int .u64 (F.neg y)) → Calls Tryd.prog 49 #[.int .u64 t2.1, .bool t2.2.1, .int .i64 t2.2.2, .int .i64 mode, .func (.func 52) #[] #[.pointer (some ⟨w.heap.size, 0, none⟩), .pointer (some ⟨g, 0, none⟩), .pointer (some ⟨w.heap.size + 2, 0, none⟩)]] W fun e w' => e = .returned (.bool true) ∧ Below W.heap.size W w') := by
    by_cases hm : 0 ≤ mode ∧ mode ≤ 4
    · refine ⟨_, SO_AT hm (by simp) (u2 hx nb), fun W g hW hg => ?_⟩
      exact toldS2_c _ mode _ _ _ _ W hm (clo2_c x (F.neg y) mode _ _ _ W hx nb hm (KB.out W hW).1 hg (KB.out W hW).2.2 (HLT.out W hW))
    · refine ⟨_, AT_no hm, fun W g hW hg => ?_⟩
      exact (told_bad mode _ W (by omega)).mono fun e w' ⟨h1, h2⟩ => ⟨h1, h2 ▸ Below.refl _ _⟩
  obtain ⟨⟨a1, a2, a3⟩, ea, TA⟩ := TE1.out
  obtain ⟨⟨s1, s2, s3⟩, es, TS⟩ := TE2.out
  rw [ea] at A1
  rw [es] at S1
  unfold ATv at A1 S1
  dsimp only at A1 S1 TA TS
  have TA := Lib.hid TA
  have TS := Lib.hid TS
  have HW0 := Lib.hid hW0
  have D0 := Lib.hid D0
  generalize F.neg y = ny at *
  clear TE1 TE2 ea es hx hy hT hW0 N1 N2 N3 NS nb hym2 hbm HLT
  go_enter Tryd.func7, Tryd.ntmps7
  go_upto_region 3 with (first
    | (go_at_call 45; rw [HW0.out]; (with_reducible refine (A1.out).mono ?_); rintro e w1 ⟨rfl, hb⟩; have D := Lib.hid hb; clear hb; obtain ⟨k0, k1, k2⟩ := KB.out _ D.out)
    | (go_at_call 46; (with_reducible refine (S1.out _ D.out).mono ?_); rintro e w2 ⟨rfl, hb⟩; have D := Lib.hid (D.out.trans (hb.mono D.out.size)); clear hb; obtain ⟨k0, k1, k2⟩ := KB.out _ D.out))
  go_cut [13] (fun s13 wx => ∃ g, s13 = .pointer (some ⟨g, 0, none⟩) ∧ Hid (g < wx.heap.size ∧ wx.cell? ⟨g, 0, none⟩ = some (.int .u64 ny)) ∧ Hid (Below W0.heap.size W0 wx))
  case first =>
    have D : Below W0.heap.size W0 w2.drew := D.out.drew
    (refine wp_region_L (S := fun w' => w'.cell? ⟨w.heap.size + 1, 0, none⟩ = some (.int .u64 y)) (nl := 1000000) (by kernel_rfl) ?_ (fun hHeld => ?_); focus (exact (KB.out _ D).2.1))
    (refine wpAnyL_take (i := 0) (oi := _) (v := ?_) rfl (by kernel_rfl) (by kernel_rfl) (by kernel_rfl) (fun _ _ _ h => h) (Or.inl ⟨by first | rfl | kernel_rfl, ?hy1⟩) (by assumption) ?rs1; (case hy1 => (intro w hSw; (try dsimp only at hSw); go_simp; first | done | with_reducible rfl)); case' rs1 => (simp only [List.getElem_toArray, List.getElem_cons_zero, List.getElem_cons_succ, Act.put, List.setIfInBounds_toArray, List.set_cons_zero, List.set_cons_succ])); (refine wpAnyL_take (i := 1) (oi := _) (v := ?_) rfl (by kernel_rfl) (by kernel_rfl) (by kernel_rfl) (fun _ _ _ h => h) (Or.inl ⟨by first | rfl | kernel_rfl, ?hy2⟩) (by assumption) ?rs2; (case hy2 => (intro w hSw; (try dsimp only at hSw); go_simp; first | done | with_reducible rfl)); case' rs2 => (simp only [List.getElem_toArray, List.getElem_cons_zero, List.getElem_cons_succ, Act.put, List.setIfInBounds_toArray, List.set_cons_zero, List.set_cons_succ])); (refine wpAnyL_take (i := 2) (oi := _) (v := ?_) rfl (by kernel_rfl) (by kernel_rfl) (by kernel_rfl) (fun _ _ _ h => h) (Or.inl ⟨by first | rfl | kernel_rfl, ?hy3⟩) (by assumption) ?rs3; (case hy3 => (intro w hSw; (try dsimp only at hSw); go_simp; first | done | with_reducible rfl)); case' rs3 => (simp only [List.getElem_toArray, List.getElem_cons_zero, List.getElem_cons_succ, Act.put, List.setIfInBounds_toArray, List.set_cons_zero, List.set_cons_succ])); skip
    refine wpAnyL_two (i := 3) (j := 6) (oi := _) (oj := _) (by kernel_rfl) rfl rfl (fun K hK => ?_) (fun K hK => ?_)
    · (clear hHeld; simp only [List.getElem_toArray, List.getElem_cons_zero, List.getElem_cons_succ]; go_simp; (go_at_call 48; (with_reducible refine (MI.out _).mono ?_); rintro e w4 ⟨rfl, hb4⟩; have D := D.trans (hb4.mono D.size)); refine hK.out _ _ ?_ (fun hHeld => ?_); focus (intro _; exact (KB.out _ D).2.1)); have hHeld := hHeld (by decide); clear hK K; (try simp only [Act.put, List.setIfInBounds_toArray, List.set_cons_zero, List.set_cons_succ])
      (refine wpAnyL_take (i := 4) (oi := _) (v := ?_) rfl (by kernel_rfl) (by kernel_rfl) (by kernel_rfl) (fun _ _ _ h => h) (Or.inl ⟨by first | rfl | kernel_rfl, ?hy4⟩) (by assumption) ?rs4; (case hy4 => (intro w hSw; (try dsimp only at hSw); go_simp; first | done | with_reducible rfl)); case' rs4 => (simp only [List.getElem_toArray, List.getElem_cons_zero, List.getElem_cons_succ, Act.put, List.setIfInBounds_toArray, List.set_cons_zero, List.set_cons_succ])); skip
      refine wpAnyL_two (i := 5) (j := 6) (oi := _) (oj := _) (by kernel_rfl) rfl rfl (fun K hK => ?_) (fun K hK => ?_)
      · (clear hHeld; simp only [List.getElem_toArray, List.getElem_cons_zero, List.getElem_cons_succ]; go_simp; (go_at_call 47; (with_reducible refine (SG.out _).mono ?_); rintro e w5 ⟨rfl, hb5⟩; have D := D.trans (hb5.mono D.size)); refine hK.out _ _ ?_ (fun hHeld => ?_); focus (intro _; exact (KB.out _ D).2.1)); have hHeld := hHeld (by decide); clear hK K; (try simp only [Act.put, List.setIfInBounds_toArray, List.set_cons_zero, List.set_cons_succ])
        (refine wpAnyL_one (i := 6) (o := _) (by kernel_rfl) rfl (fun K hK => ?_); clear hHeld; simp only [List.getElem_toArray, List.getElem_cons_zero, List.getElem_cons_succ]; go_simp; refine hK.out _ _ ?_ (fun hHeld => ?_); focus (intro _; exact (KB.out _ (D.alloc D.size _)).2.1)); have hHeld := hHeld (by decide); clear hK K; (try simp only [Act.put, List.setIfInBounds_toArray, List.set_cons_zero, List.set_cons_succ])
        have X := Lib.hid (And.intro (Blk.new w5 22 #[.int .u64 ny]) (D.alloc D.size (.cells #[.int .u64 ny] 22)))
        (refine wpAnyL_one (i := 7) (o := _) (by kernel_rfl) rfl (fun K hK => ?_); clear hHeld; simp only [List.getElem_toArray, List.getElem_cons_zero, List.getElem_cons_succ]; go_simp; refine hK.out _ _ ?_ (fun hHeld => ?_); focus (intro _; exact (KB.out _ X.out.2).2.1)); have hHeld := hHeld (by decide); clear hK K; (try simp only [Act.put, List.setIfInBounds_toArray, List.set_cons_zero, List.set_cons_succ])
        refine wpAnyL_done (by kernel_rfl) ?_ _
        go_wp2
        go_meet
        exact ⟨_, rfl, ⟨X.out.1.lt, X.out.1.at_ 0 rfl⟩, X.out.2⟩
      · (clear hHeld; simp only [List.getElem_toArray, List.getElem_cons_zero, List.getElem_cons_succ]; go_simp; refine hK.out _ _ ?_ (fun hHeld => ?_); focus (intro _; exact (KB.out _ (D.alloc D.size _)).2.1)); have hHeld := hHeld (by decide); clear hK K; (try simp only [Act.put, List.setIfInBounds_toArray, List.set_cons_zero, List.set_cons_succ])
        have R := Blk.new w4 22 #[.int .u64 0]
        have hg := D.size
        have D := D.alloc D.size (.cells #[.int .u64 0] 22)
        (refine wpAnyL_one (i := 5) (o := _) (by kernel_rfl) rfl (fun K hK => ?_); clear hHeld; simp only [List.getElem_toArray, List.getElem_cons_zero, List.getElem_cons_succ]; go_simp; (go_at_call 47; (with_reducible refine (SG.out _).mono ?_); rintro e w5 ⟨rfl, hb5⟩; have D := D.trans (hb5.mono D.size); have R := R.below hb5 R.lt); refine hK.out _ _ ?_ (fun hHeld => ?_); focus (intro _; exact (KB.out _ D).2.1)); have hHeld := hHeld (by decide); clear hK K; (try simp only [Act.put, List.setIfInBounds_toArray, List.set_cons_zero, List.set_cons_succ])
        have hgg : Hid (W0.heap.size ≤ w4.heap.size) := hg
        have r0 := R.at_ 0 rfl
        have q0 := R.frozen 0
        have X := Lib.hid (And.intro (show Blk (w5.setCell ⟨w4.heap.size, 0, none⟩ (.int .u64 ny)) w4.heap.size 22 #[.int .u64 ny] by simpa using R.set_ 0 (.int .u64 ny)) (D.setCell (show W0.heap.size ≤ (⟨w4.heap.size, 0, none⟩ : Addr).block from hgg.out) (.int .u64 ny)))
        (refine wpAnyL_one (i := 7) (o := _) (by kernel_rfl) rfl (fun K hK => ?_); clear hHeld; simp only [List.getElem_toArray, List.getElem_cons_zero, List.getElem_cons_succ]; go_simp; refine hK.out _ _ ?_ (fun hHeld => ?_); focus (intro _; exact (KB.out _ X.out.2).2.1)); have hHeld := hHeld (by decide); clear hK K; (try simp only [Act.put, List.setIfInBounds_toArray, List.set_cons_zero, List.set_cons_succ])
        refine wpAnyL_done (by kernel_rfl) ?_ _
        go_wp2
        go_meet
        exact ⟨_, rfl, ⟨X.out.1.lt, X.out.1.at_ 0 rfl⟩, X.out.2⟩
    · (clear hHeld; simp only [List.getElem_toArray, List.getElem_cons_zero, List.getElem_cons_succ]; go_simp; refine hK.out _ _ ?_ (fun hHeld => ?_); focus (intro _; exact (KB.out _ (D.alloc D.size _)).2.1)); have hHeld := hHeld (by decide); clear hK K; (try simp only [Act.put, List.setIfInBounds_toArray, List.set_cons_zero, List.set_cons_succ])
      have R : Blk (w2.drew.alloc (.cells #[.int .u64 0] 22)) w2.heap.size 22 #[.int .u64 0] := Blk.new w2.drew _ _
      have hg := D.size
      have D := D.alloc D.size (.cells #[.int .u64 0] 22)
      (refine wpAnyL_one (i := 3) (o := _) (by kernel_rfl) rfl (fun K hK => ?_); clear hHeld; simp only [List.getElem_toArray, List.getElem_cons_zero, List.getElem_cons_succ]; go_simp; (go_at_call 48; (with_reducible refine (MI.out _).mono ?_); rintro e w4 ⟨rfl, hb4⟩; have D := D.trans (hb4.mono D.size); have R := R.below hb4 R.lt); refine hK.out _ _ ?_ (fun hHeld => ?_); focus (intro _; exact (KB.out _ D).2.1)); have hHeld := hHeld (by decide); clear hK K; (try simp only [Act.put, List.setIfInBounds_toArray, List.set_cons_zero, List.set_cons_succ])
      (refine wpAnyL_take (i := 4) (oi := _) (v := ?_) rfl (by kernel_rfl) (by kernel_rfl) (by kernel_rfl) (fun _ _ _ h => h) (Or.inl ⟨by first | rfl | kernel_rfl, ?hy5⟩) (by assumption) ?rs5; (case hy5 => (intro w hSw; (try dsimp only at hSw); go_simp; first | done | with_reducible rfl)); case' rs5 => (simp only [List.getElem_toArray, List.getElem_cons_zero, List.getElem_cons_succ, Act.put, List.setIfInBounds_toArray, List.set_cons_zero, List.set_cons_succ])); skip
      (refine wpAnyL_one (i := 5) (o := _) (by kernel_rfl) rfl (fun K hK => ?_); clear hHeld; simp only [List.getElem_toArray, List.getElem_cons_zero, List.getElem_cons_succ]; go_simp; (go_at_call 47; (with_reducible refine (SG.out _).mono ?_); rintro e w5 ⟨rfl, hb5⟩; have D := D.trans (hb5.mono D.size); have R := R.below hb5 R.lt); refine hK.out _ _ ?_ (fun hHeld => ?_); focus (intro _; exact (KB.out _ D).2.1)); have hHeld := hHeld (by decide); clear hK K; (try simp only [Act.put, List.setIfInBounds_toArray, List.set_cons_zero, List.set_cons_succ])
      have hgg : Hid (W0.heap.size ≤ w2.heap.size) := hg
      have r0 := R.at_ 0 rfl
      have q0 := R.frozen 0
      have X := Lib.hid (And.intro (show Blk (w5.setCell ⟨w2.heap.size, 0, none⟩ (.int .u64 ny)) w2.heap.size 22 #[.int .u64 ny] by simpa using R.set_ 0 (.int .u64 ny)) (D.setCell (show W0.heap.size ≤ (⟨w2.heap.size, 0, none⟩ : Addr).block from hgg.out) (.int .u64 ny)))
      (refine wpAnyL_one (i := 7) (o := _) (by kernel_rfl) rfl (fun K hK => ?_); clear hHeld; simp only [List.getElem_toArray, List.getElem_cons_zero, List.getElem_cons_succ]; go_simp; refine hK.out _ _ ?_ (fun hHeld => ?_); focus (intro _; exact (KB.out _ X.out.2).2.1)); have hHeld := hHeld (by decide); clear hK K; (try simp only [Act.put, List.setIfInBounds_toArray, List.set_cons_zero, List.set_cons_succ])
      refine wpAnyL_done (by kernel_rfl) ?_ _
      go_wp2
      go_meet
      exact ⟨_, rfl, ⟨X.out.1.lt, X.out.1.at_ 0 rfl⟩, X.out.2⟩
  case rest =>
    obtain ⟨g, rfl, hg, hD⟩ := hcut
    have D := hD
    clear hD
    obtain ⟨hg1, hg2⟩ := hg.out
    have GN : Hid (∀ W, Below wc.heap.size wc W → W.cell? ⟨g, 0, none⟩ = some (.int .u64 ny)) := fun W hW => (hW.cell (p := ⟨g, 0, none⟩) hg1).trans hg2
    obtain ⟨k0, k1, k2⟩ := KB.out _ D.out
    clear hg hg1
    go_wp2_with (first
      | (go_at_call 49; (with_reducible refine (TA.out _ D.out).mono ?_); rintro e w6 ⟨rfl, hb⟩; have gn := GN.out _ hb; have D := Lib.hid (D.out.trans (hb.mono D.out.size)); obtain ⟨k0, k1, k2⟩ := KB.out _ D.out; clear hb)
      | (go_at_call 49; (with_reducible refine (TS.out _ g D.out gn).mono ?_); rintro e w7 ⟨rfl, hb⟩; have D := Lib.hid (D.out.trans (hb.mono D.out.size)); clear hb))
    go_ret
    exact ⟨rfl, D0.out.trans (D.out.mono D0.out.size)⟩
end VC
end Go.Proofs.YtcendlgbcnpfcaaDoor

