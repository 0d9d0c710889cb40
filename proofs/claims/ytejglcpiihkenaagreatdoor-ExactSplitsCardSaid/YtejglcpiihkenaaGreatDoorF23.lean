/-
  Texts glued together for a claim: X17 X18 X19.
-/
import Derived.Test.YtejglcpiihkenaaGreatDoorF21
import Derived.Test.YtejglcpiihkenaaGreatDoorF22
import Derived.Test.YtejglcpiihkenaaGreatDoorF20
/-
  ExactSays: the document's parts of a sum, and the walk.
-/
namespace Go.Proofs.YtejglcpiihkenaaGreatDoor
set_option linter.unusedVariables false
set_option linter.unusedSimpArgs false
open Go.RowKit
set_option linter.unusedVariables false
set_option linter.unusedSimpArgs false
namespace XC
open Z (Nz Tz cmpv big)
open ZC DC RC QC SC VC PC
theorem HasVal_c (x : Int) (w : World) (hx : 0 ≤ x ∧ x ≤ 18446744073709551615) : Calls Tryz.prog 8 #[.int .u64 x] w (fun e w' => e = .returned (.bool (!decide (F.exq x = 2047))) ∧ w = w') := by
  have KL := Lib.hid (FloatR.ClassOf_c x hx.1 hx.2 w)
  have h := hv_iff x
  have e : (!decide (F.exq x = 2047)) = decide (F.cls x < 4) := by
    by_cases q : F.exq x = 2047
    · rw [decide_eq_true q, decide_eq_false (fun k => h.1 k q)]; rfl
    · rw [decide_eq_false q, decide_eq_true (h.2 q)]; rfl
  rw [e]
  generalize F.cls x = k at *
  clear hx h e
  go_enter Tryz.func8, Tryz.ntmps8
  go_wp2_with (go_at_call 27; (with_reducible refine (KL.out).mono ?_); rintro e w1 ⟨rfl, rfl⟩)
  go_ret
  exact ⟨rfl, rfl⟩
theorem neg_signed {x : Int} (hx : 0 ≤ x ∧ x ≤ 18446744073709551615) : (if (!F.sgn x) = true then x % 9223372036854775808 + 9223372036854775808 else x % 9223372036854775808) = F.neg x := by
  unfold F.neg F.sgn
  by_cases h : 9223372036854775808 ≤ x
  · have h2 : ¬ x < 9223372036854775808 := by omega
    simp [h, h2]; omega
  · have h2 : x < 9223372036854775808 := by omega
    simp [h, h2]; omega
theorem Signed_v (x : Int) (w : World) (hx : 0 ≤ x ∧ x ≤ 18446744073709551615) : Calls Tryz.prog 12 #[.int .u64 (x % 9223372036854775808), .bool (!F.sgn x)] w fun e w' => e = .returned (.int .u64 (F.neg x)) ∧ w = w' := by
  have := Signed_c (x % 9223372036854775808) (!F.sgn x) w (by omega) (by omega)
  rwa [neg_signed hx] at this
theorem turnedBits_c (x : Int) (w : World) (hx : 0 ≤ x ∧ x ≤ 18446744073709551615) : Calls Tryz.prog 58 #[.int .u64 x] w fun e w' => e = .returned (.int .u64 (F.neg x)) ∧ w = w' := by
  have MI : Hid (∀ W : World, Calls Tryz.prog 13 #[.int .u64 x] W fun e w' => e = .returned (.bool (F.sgn x)) ∧ W = w') := fun W => Minus_v x W
  have SG : Hid (∀ W : World, Calls Tryz.prog 12 #[.int .u64 (x % 9223372036854775808), .bool (!F.sgn x)] W fun e w' => e = .returned (.int .u64 (F.neg x)) ∧ W = w') := fun W => Signed_v x W hx
  have hm : x.tmod 9223372036854775808 = x % 9223372036854775808 := Int.tmod_eq_emod_of_nonneg hx.1
  generalize F.neg x = n at *
  generalize F.sgn x = s at *
  have b : 0 ≤ x % 9223372036854775808 ∧ x % 9223372036854775808 < 9223372036854775808 := by omega
  obtain ⟨m, hm2⟩ : ∃ m, x % 9223372036854775808 = m := ⟨_, rfl⟩
  rw [hm2] at SG hm b
  clear hx
  go_enter Tryz.func58, Tryz.ntmps58
  go_wp2_with (first
    | (go_at_call 13; (with_reducible refine (MI.out _).mono ?_); rintro e w1 ⟨rfl, rfl⟩)
    | (go_at_call 12; (with_reducible refine (SG.out _).mono ?_); rintro e w1 ⟨rfl, rfl⟩))
  go_ret
  exact ⟨rfl, rfl⟩
theorem nearSum_c (x y : Int) (w : World) (hx : 0 ≤ x ∧ x ≤ 18446744073709551615) (hy : 0 ≤ y ∧ y ≤ 18446744073709551615) : Calls Tryz.prog 28 #[.int .u64 x, .int .u64 y] w (DC.RetB w (.int .u64 (ad x y))) := by
  have D0 := al1 w (.cells #[.int .u64 x, .int .u64 y] 22)
  have hs : Sl .u64 (w.alloc (.cells #[.int .u64 x, .int .u64 y] 22)) (.slice (some ⟨w.heap.size, 0, none⟩) 2 2) [x, y] := Row.sl (L := [x, y]) (Blk.new w 22 #[.int .u64 x, .int .u64 y]) 2 (by simp)
  have SO := Lib.hid (SumOf_c _ 2 2 [x, y] 0 _ hs (u2 hx hy) (by simp) (by omega))
  have e : (VC.SO [x, y] 0).1 = ad x y := by
    unfold ad
    rw [SO_AT (by omega) (by simp) (u2 hx hy)]
  rw [← e]
  generalize VC.SO [x, y] 0 = t at *
  have D0 := Lib.hid D0
  clear hs e hx hy
  go_enter Tryz.func28, Tryz.ntmps28
  go_wp2_with (go_at_call 19; (with_reducible refine (SO.out).mono ?_); rintro e w1 ⟨rfl, hb⟩; have D := Lib.hid (D0.out.trans (hb.mono D0.out.size)); clear hb)
  go_ret
  exact ⟨rfl, D.out⟩
theorem nearLess_c (x y : Int) (w : World) (hx : 0 ≤ x ∧ x ≤ 18446744073709551615) (hy : 0 ≤ y ∧ y ≤ 18446744073709551615) : Calls Tryz.prog 29 #[.int .u64 x, .int .u64 y] w (DC.RetB w (.int .u64 (sb x y))) := by
  have TB := Lib.hid (turnedBits_c y w hy)
  have NS := Lib.hid (nearSum_c x (F.neg y) w hx (F.neg_bd y hy.1 hy.2))
  have e : ad x (F.neg y) = sb x y := rfl
  rw [e] at NS
  generalize sb x y = r at *
  generalize F.neg y = n at *
  clear hx hy e
  go_enter Tryz.func29, Tryz.ntmps29
  go_wp2_with (first
    | (go_at_call 58; (with_reducible refine (TB.out).mono ?_); rintro e w1 ⟨rfl, rfl⟩)
    | (go_at_call 28; (with_reducible refine (NS.out).mono ?_); rintro e w1 ⟨rfl, hb⟩; have D := Lib.hid hb; clear hb))
  go_ret
  exact ⟨rfl, D.out⟩
theorem SumParts_c (x y : Int) (w : World) (hx : 0 ≤ x ∧ x ≤ 18446744073709551615) (hy : 0 ≤ y ∧ y ≤ 18446744073709551615) : Calls Tryz.prog 9 #[.int .u64 x, .int .u64 y] w (DC.RetB w (.tuple #[.int .u64 (ad x y), .int .u64 (ad (sb x (sb (ad x y) y)) (sb y (sb (ad x y) (sb (ad x y) y)))), .int .u64 (sb y (sb (ad x y) x))])) := by
  have D := Lib.hid (Below.refl w.heap.size w)
  have bs := ad_bd hx hy
  have ba := sb_bd bs hy
  have bb := sb_bd bs ba
  have bc := sb_bd hx ba
  have bd := sb_bd hy bb
  have bf := sb_bd bs hx
  have S0 : Hid (∀ W, Calls Tryz.prog 28 #[.int .u64 x, .int .u64 y] W (DC.RetB W (.int .u64 (ad x y)))) := fun W => nearSum_c _ _ W hx hy
  have SA : Hid (∀ W, Calls Tryz.prog 29 #[.int .u64 (ad x y), .int .u64 y] W (DC.RetB W (.int .u64 (sb (ad x y) y)))) := fun W => nearLess_c _ _ W bs hy
  have SB : Hid (∀ W, Calls Tryz.prog 29 #[.int .u64 (ad x y), .int .u64 (sb (ad x y) y)] W (DC.RetB W (.int .u64 (sb (ad x y) (sb (ad x y) y))))) := fun W => nearLess_c _ _ W bs ba
  have SC' : Hid (∀ W, Calls Tryz.prog 29 #[.int .u64 x, .int .u64 (sb (ad x y) y)] W (DC.RetB W (.int .u64 (sb x (sb (ad x y) y))))) := fun W => nearLess_c _ _ W hx ba
  have SD : Hid (∀ W, Calls Tryz.prog 29 #[.int .u64 y, .int .u64 (sb (ad x y) (sb (ad x y) y))] W (DC.RetB W (.int .u64 (sb y (sb (ad x y) (sb (ad x y) y)))))) := fun W => nearLess_c _ _ W hy bb
  have SR : Hid (∀ W, Calls Tryz.prog 28 #[.int .u64 (sb x (sb (ad x y) y)), .int .u64 (sb y (sb (ad x y) (sb (ad x y) y)))] W (DC.RetB W (.int .u64 (ad (sb x (sb (ad x y) y)) (sb y (sb (ad x y) (sb (ad x y) y))))))) := fun W => nearSum_c _ _ W bc bd
  have SE : Hid (∀ W, Calls Tryz.prog 29 #[.int .u64 (ad x y), .int .u64 x] W (DC.RetB W (.int .u64 (sb (ad x y) x)))) := fun W => nearLess_c _ _ W bs hx
  have SF : Hid (∀ W, Calls Tryz.prog 29 #[.int .u64 y, .int .u64 (sb (ad x y) x)] W (DC.RetB W (.int .u64 (sb y (sb (ad x y) x))))) := fun W => nearLess_c _ _ W hy bf
  generalize ad (sb x (sb (ad x y) y)) (sb y (sb (ad x y) (sb (ad x y) y))) = r at *
  generalize sb y (sb (ad x y) (sb (ad x y) y)) = d at *
  generalize sb x (sb (ad x y) y) = c at *
  generalize sb (ad x y) (sb (ad x y) y) = b at *
  generalize sb (ad x y) y = a at *
  generalize sb y (sb (ad x y) x) = f at *
  generalize sb (ad x y) x = g at *
  generalize ad x y = s at *
  clear hx hy bs ba bb bc bd bf
  go_enter Tryz.func9, Tryz.ntmps9
  go_wp2_with (first
    | (go_at_call 28; (with_reducible refine (S0.out _).mono ?_); rintro e w1 ⟨rfl, hb⟩; have D := Lib.hid (D.out.trans (hb.mono D.out.size)); clear hb)
    | (go_at_call 29; (with_reducible refine (SA.out _).mono ?_); rintro e w2 ⟨rfl, hb⟩; have D := Lib.hid (D.out.trans (hb.mono D.out.size)); clear hb)
    | (go_at_call 29; (with_reducible refine (SB.out _).mono ?_); rintro e w3 ⟨rfl, hb⟩; have D := Lib.hid (D.out.trans (hb.mono D.out.size)); clear hb)
    | (go_at_call 29; (with_reducible refine (SC'.out _).mono ?_); rintro e w4 ⟨rfl, hb⟩; have D := Lib.hid (D.out.trans (hb.mono D.out.size)); clear hb)
    | (go_at_call 29; (with_reducible refine (SD.out _).mono ?_); rintro e w5 ⟨rfl, hb⟩; have D := Lib.hid (D.out.trans (hb.mono D.out.size)); clear hb)
    | (go_at_call 28; (with_reducible refine (SR.out _).mono ?_); rintro e w6 ⟨rfl, hb⟩; have D := Lib.hid (D.out.trans (hb.mono D.out.size)); clear hb)
    | (go_at_call 29; (with_reducible refine (SE.out _).mono ?_); rintro e w7 ⟨rfl, hb⟩; have D := Lib.hid (D.out.trans (hb.mono D.out.size)); clear hb)
    | (go_at_call 29; (with_reducible refine (SF.out _).mono ?_); rintro e w8 ⟨rfl, hb⟩; have D := Lib.hid (D.out.trans (hb.mono D.out.size)); clear hb))
  go_ret3
  exact ⟨rfl, D.out⟩
set_option maxRecDepth 100000 in
set_option maxHeartbeats 16000000 in
theorem saysX_c (x y : Int) (w : World) (hx : 0 ≤ x ∧ x ≤ 18446744073709551615) (hy : 0 ≤ y ∧ y ≤ 18446744073709551615) (hT : NC.TabD w) :
    Calls Tryz.prog 3 #[.int .u64 x, .int .u64 y] w fun e w' => e = .returned (.bool true) ∧ Below w.heap.size w w' := by
  have HT : Hid (∀ W : World, Below w.heap.size w W → NC.TabD W) := fun W hW => hT.below hW
  have D := Lib.hid (Below.refl w.heap.size w)
  have A1 : Hid (∀ W, Below w.heap.size w W → Calls Tryz.prog 5 #[.int .u64 x, .int .u64 y] W (DC.RetB W (T2v (T2 x y)))) := fun W hW => TwoSum_c x y W hx hy (HT.out W hW)
  have A2 : Hid (∀ W, Below w.heap.size w W → Calls Tryz.prog 6 #[.int .u64 x, .int .u64 y] W (DC.RetB W (T2v (T1 x y)))) := fun W hW => FastSum_c x y W hx hy (HT.out W hW)
  have A3 : Hid (∀ W, Below w.heap.size w W → Calls Tryz.prog 7 #[.int .u64 x, .int .u64 y] W (DC.RetB W (T2v (P2 x y)))) := fun W hW => TwoProd_c x y W hx hy (HT.out W hW)
  have bs := ad_bd hx hy
  have bm := MT_bd 0 hx hy
  have bn := F.neg_bd _ bm.1 bm.2
  have HX : Hid (∀ W, Calls Tryz.prog 8 #[.int .u64 x] W (fun e w' => e = .returned (.bool (!decide (F.exq x = 2047))) ∧ W = w')) := fun W => HasVal_c x W hx
  have HY : Hid (∀ W, Calls Tryz.prog 8 #[.int .u64 y] W (fun e w' => e = .returned (.bool (!decide (F.exq y = 2047))) ∧ W = w')) := fun W => HasVal_c y W hy
  have HS : Hid (∀ W, Calls Tryz.prog 8 #[.int .u64 (ad x y)] W (fun e w' => e = .returned (.bool (!decide (F.exq (ad x y) = 2047))) ∧ W = w')) := fun W => HasVal_c _ W bs
  have HM : Hid (∀ W, Calls Tryz.prog 8 #[.int .u64 (MT x y 0).1] W (fun e w' => e = .returned (.bool (!decide (F.exq (MT x y 0).1 = 2047))) ∧ W = w')) := fun W => HasVal_c _ W bm
  have SP : Hid (∀ W, Calls Tryz.prog 9 #[.int .u64 x, .int .u64 y] W (DC.RetB W (.tuple #[.int .u64 (ad x y), .int .u64 (ad (sb x (sb (ad x y) y)) (sb y (sb (ad x y) (sb (ad x y) y)))), .int .u64 (sb y (sb (ad x y) x))]))) := fun W => SumParts_c x y W hx hy
  have PO : Hid (∀ W, Calls Tryz.prog 10 #[.int .u64 x, .int .u64 y, .int .i64 0] W fun e w' => e = .returned (.tuple #[.int .u64 (MT x y 0).1, .bool (MT x y 0).2.1]) ∧ Below W.heap.size W w') := fun W => ProductOf_c x y 0 W hx hy (by omega)
  have MI : Hid (∀ W : World, Calls Tryz.prog 13 #[.int .u64 (MT x y 0).1] W fun e w' => e = .returned (.bool (F.sgn (MT x y 0).1)) ∧ W = w') := fun W => Minus_v _ W
  have SG : Hid (∀ W : World, Calls Tryz.prog 12 #[.int .u64 ((MT x y 0).1 % 9223372036854775808), .bool (!F.sgn (MT x y 0).1)] W fun e w' => e = .returned (.int .u64 (F.neg (MT x y 0).1)) ∧ W = w') := fun W => Signed_v _ W bm
  have FO : Hid (∀ W, Calls Tryz.prog 11 #[.int .u64 x, .int .u64 y, .int .u64 (F.neg (MT x y 0).1), .int .i64 0] W fun e w' => e = .returned (.tuple #[.int .u64 (FT x y (F.neg (MT x y 0).1) 0).1, .bool (FT x y (F.neg (MT x y 0).1) 0).2.1]) ∧ Below W.heap.size W w') := fun W => FusedOf_c x y _ 0 W hx hy bn (by omega)
  have tm : (MT x y 0).1.tmod 9223372036854775808 = (MT x y 0).1 % 9223372036854775808 := Int.tmod_eq_emod_of_nonneg bm.1
  unfold T2v at A1 A2 A3
  unfold T2 at A1
  unfold T1 at A2
  unfold P2 at A3
  generalize ad (sb x (sb (ad x y) y)) (sb y (sb (ad x y) (sb (ad x y) y))) = r at *
  generalize sb y (sb (ad x y) x) = f at *
  generalize ad x y = s at *
  generalize FT x y (F.neg (MT x y 0).1) 0 = ft at *
  generalize F.neg (MT x y 0).1 = nm at *
  generalize MT x y 0 = t at *
  obtain ⟨m, lm, em⟩ := t
  dsimp only at *
  generalize F.sgn m = sm at *
  have bm2 : 0 ≤ m % 9223372036854775808 ∧ m % 9223372036854775808 < 9223372036854775808 := by omega
  generalize m % 9223372036854775808 = mm at *
  by_cases h1 : F.exq x = 2047
  · rw [if_pos (.inl h1)] at A1 A2 A3
    rw [decide_eq_true h1] at HX
    clear HY HS HM SP PO MI SG FO tm bs bm bn bm2 h1 hx hy hT HT
    go_enter Tryz.func3, Tryz.ntmps3
    go_wp2_with (first
      | (go_at_call 5; (with_reducible refine (A1.out _ D.out).mono ?_); rintro e w1 ⟨rfl, hb⟩; have D := Lib.hid (D.out.trans (hb.mono D.out.size)); clear hb)
      | (go_at_call 6; (with_reducible refine (A2.out _ D.out).mono ?_); rintro e w2 ⟨rfl, hb⟩; have D := Lib.hid (D.out.trans (hb.mono D.out.size)); clear hb)
      | (go_at_call 7; (with_reducible refine (A3.out _ D.out).mono ?_); rintro e w3 ⟨rfl, hb⟩; have D := Lib.hid (D.out.trans (hb.mono D.out.size)); clear hb)
      | (go_at_call 8; (with_reducible refine (HX.out _).mono ?_); rintro e w4 ⟨rfl, rfl⟩))
    go_ret
    exact ⟨rfl, D.out⟩
  · by_cases h2 : F.exq y = 2047
    · rw [if_pos (.inr h2)] at A1 A2 A3
      rw [decide_eq_false h1] at HX
      rw [decide_eq_true h2] at HY
      clear HS HM SP PO MI SG FO tm bs bm bn bm2 h1 h2 hx hy hT HT
      go_enter Tryz.func3, Tryz.ntmps3
      go_wp2_with (first
        | (go_at_call 5; (with_reducible refine (A1.out _ D.out).mono ?_); rintro e w1 ⟨rfl, hb⟩; have D := Lib.hid (D.out.trans (hb.mono D.out.size)); clear hb)
        | (go_at_call 6; (with_reducible refine (A2.out _ D.out).mono ?_); rintro e w2 ⟨rfl, hb⟩; have D := Lib.hid (D.out.trans (hb.mono D.out.size)); clear hb)
        | (go_at_call 7; (with_reducible refine (A3.out _ D.out).mono ?_); rintro e w3 ⟨rfl, hb⟩; have D := Lib.hid (D.out.trans (hb.mono D.out.size)); clear hb)
        | (go_at_call 8; (with_reducible refine (HX.out _).mono ?_); rintro e w4 ⟨rfl, rfl⟩)
        | (go_at_call 8; (with_reducible refine (HY.out _).mono ?_); rintro e w5 ⟨rfl, rfl⟩))
      go_ret
      exact ⟨rfl, D.out⟩
    · have h3 : ¬ (F.exq x = 2047 ∨ F.exq y = 2047) := by rintro (q | q); exact h1 q; exact h2 q
      rw [if_neg h3] at A1 A2 A3
      rw [decide_eq_false h1] at HX
      rw [decide_eq_false h2] at HY
      by_cases h4 : F.exq s = 2047 <;> by_cases h5 : F.exq m = 2047
      · rw [if_pos h4] at A1 A2
        rw [if_pos h5] at A3
        rw [decide_eq_true h4] at HS
        rw [decide_eq_true h5] at HM
        clear MI SG FO tm bs bm bn bm2 h1 h2 h3 h4 h5 hx hy hT HT
        go_enter Tryz.func3, Tryz.ntmps3
        go_wp2_with (first
          | (go_at_call 5; (with_reducible refine (A1.out _ D.out).mono ?_); rintro e w1 ⟨rfl, hb⟩; have D := Lib.hid (D.out.trans (hb.mono D.out.size)); clear hb)
          | (go_at_call 6; (with_reducible refine (A2.out _ D.out).mono ?_); rintro e w2 ⟨rfl, hb⟩; have D := Lib.hid (D.out.trans (hb.mono D.out.size)); clear hb)
          | (go_at_call 7; (with_reducible refine (A3.out _ D.out).mono ?_); rintro e w3 ⟨rfl, hb⟩; have D := Lib.hid (D.out.trans (hb.mono D.out.size)); clear hb)
          | (go_at_call 8; (with_reducible refine (HX.out _).mono ?_); rintro e w4 ⟨rfl, rfl⟩)
          | (go_at_call 8; (with_reducible refine (HY.out _).mono ?_); rintro e w5 ⟨rfl, rfl⟩)
          | (go_at_call 9; (with_reducible refine (SP.out _).mono ?_); rintro e w6 ⟨rfl, hb⟩; have D := Lib.hid (D.out.trans (hb.mono D.out.size)); clear hb)
          | (go_at_call 8; (with_reducible refine (HS.out _).mono ?_); rintro e w7 ⟨rfl, rfl⟩)
          | (go_at_call 10; (with_reducible refine (PO.out _).mono ?_); rintro e w8 ⟨rfl, hb⟩; have D := Lib.hid (D.out.trans (hb.mono D.out.size)); clear hb)
          | (go_at_call 8; (with_reducible refine (HM.out _).mono ?_); rintro e w9 ⟨rfl, rfl⟩))
        go_ret
        exact ⟨rfl, D.out⟩
      · rw [if_pos h4] at A1 A2
        rw [if_neg h5] at A3
        rw [decide_eq_true h4] at HS
        rw [decide_eq_false h5] at HM
        clear bs bm bn h1 h2 h3 h4 h5 hx hy hT HT
        go_enter Tryz.func3, Tryz.ntmps3
        go_wp2_with (first
          | (go_at_call 5; (with_reducible refine (A1.out _ D.out).mono ?_); rintro e w1 ⟨rfl, hb⟩; have D := Lib.hid (D.out.trans (hb.mono D.out.size)); clear hb)
          | (go_at_call 6; (with_reducible refine (A2.out _ D.out).mono ?_); rintro e w2 ⟨rfl, hb⟩; have D := Lib.hid (D.out.trans (hb.mono D.out.size)); clear hb)
          | (go_at_call 7; (with_reducible refine (A3.out _ D.out).mono ?_); rintro e w3 ⟨rfl, hb⟩; have D := Lib.hid (D.out.trans (hb.mono D.out.size)); clear hb)
          | (go_at_call 8; (with_reducible refine (HX.out _).mono ?_); rintro e w4 ⟨rfl, rfl⟩)
          | (go_at_call 8; (with_reducible refine (HY.out _).mono ?_); rintro e w5 ⟨rfl, rfl⟩)
          | (go_at_call 9; (with_reducible refine (SP.out _).mono ?_); rintro e w6 ⟨rfl, hb⟩; have D := Lib.hid (D.out.trans (hb.mono D.out.size)); clear hb)
          | (go_at_call 8; (with_reducible refine (HS.out _).mono ?_); rintro e w7 ⟨rfl, rfl⟩)
          | (go_at_call 10; (with_reducible refine (PO.out _).mono ?_); rintro e w8 ⟨rfl, hb⟩; have D := Lib.hid (D.out.trans (hb.mono D.out.size)); clear hb)
          | (go_at_call 8; (with_reducible refine (HM.out _).mono ?_); rintro e w9 ⟨rfl, rfl⟩)
          | (go_at_call 13; (with_reducible refine (MI.out _).mono ?_); rintro e w10 ⟨rfl, rfl⟩)
          | (go_at_call 12; (with_reducible refine (SG.out _).mono ?_); rintro e w11 ⟨rfl, rfl⟩)
          | (go_at_call 11; (with_reducible refine (FO.out _).mono ?_); rintro e w12 ⟨rfl, hb⟩; have D := Lib.hid (D.out.trans (hb.mono D.out.size)); clear hb))
        go_ret
        exact ⟨rfl, D.out⟩
      · rw [if_neg h4] at A1 A2
        rw [if_pos h5] at A3
        rw [decide_eq_false h4] at HS
        rw [decide_eq_true h5] at HM
        clear MI SG FO tm bs bm bn bm2 h1 h2 h3 h4 h5 hx hy hT HT
        go_enter Tryz.func3, Tryz.ntmps3
        go_wp2_with (first
          | (go_at_call 5; (with_reducible refine (A1.out _ D.out).mono ?_); rintro e w1 ⟨rfl, hb⟩; have D := Lib.hid (D.out.trans (hb.mono D.out.size)); clear hb)
          | (go_at_call 6; (with_reducible refine (A2.out _ D.out).mono ?_); rintro e w2 ⟨rfl, hb⟩; have D := Lib.hid (D.out.trans (hb.mono D.out.size)); clear hb)
          | (go_at_call 7; (with_reducible refine (A3.out _ D.out).mono ?_); rintro e w3 ⟨rfl, hb⟩; have D := Lib.hid (D.out.trans (hb.mono D.out.size)); clear hb)
          | (go_at_call 8; (with_reducible refine (HX.out _).mono ?_); rintro e w4 ⟨rfl, rfl⟩)
          | (go_at_call 8; (with_reducible refine (HY.out _).mono ?_); rintro e w5 ⟨rfl, rfl⟩)
          | (go_at_call 9; (with_reducible refine (SP.out _).mono ?_); rintro e w6 ⟨rfl, hb⟩; have D := Lib.hid (D.out.trans (hb.mono D.out.size)); clear hb)
          | (go_at_call 8; (with_reducible refine (HS.out _).mono ?_); rintro e w7 ⟨rfl, rfl⟩)
          | (go_at_call 10; (with_reducible refine (PO.out _).mono ?_); rintro e w8 ⟨rfl, hb⟩; have D := Lib.hid (D.out.trans (hb.mono D.out.size)); clear hb)
          | (go_at_call 8; (with_reducible refine (HM.out _).mono ?_); rintro e w9 ⟨rfl, rfl⟩))
        go_ret
        exact ⟨rfl, D.out⟩
      · rw [if_neg h4] at A1 A2
        rw [if_neg h5] at A3
        rw [decide_eq_false h4] at HS
        rw [decide_eq_false h5] at HM
        clear bs bm bn h1 h2 h3 h4 h5 hx hy hT HT
        go_enter Tryz.func3, Tryz.ntmps3
        go_wp2_with (first
          | (go_at_call 5; (with_reducible refine (A1.out _ D.out).mono ?_); rintro e w1 ⟨rfl, hb⟩; have D := Lib.hid (D.out.trans (hb.mono D.out.size)); clear hb)
          | (go_at_call 6; (with_reducible refine (A2.out _ D.out).mono ?_); rintro e w2 ⟨rfl, hb⟩; have D := Lib.hid (D.out.trans (hb.mono D.out.size)); clear hb)
          | (go_at_call 7; (with_reducible refine (A3.out _ D.out).mono ?_); rintro e w3 ⟨rfl, hb⟩; have D := Lib.hid (D.out.trans (hb.mono D.out.size)); clear hb)
          | (go_at_call 8; (with_reducible refine (HX.out _).mono ?_); rintro e w4 ⟨rfl, rfl⟩)
          | (go_at_call 8; (with_reducible refine (HY.out _).mono ?_); rintro e w5 ⟨rfl, rfl⟩)
          | (go_at_call 9; (with_reducible refine (SP.out _).mono ?_); rintro e w6 ⟨rfl, hb⟩; have D := Lib.hid (D.out.trans (hb.mono D.out.size)); clear hb)
          | (go_at_call 8; (with_reducible refine (HS.out _).mono ?_); rintro e w7 ⟨rfl, rfl⟩)
          | (go_at_call 10; (with_reducible refine (PO.out _).mono ?_); rintro e w8 ⟨rfl, hb⟩; have D := Lib.hid (D.out.trans (hb.mono D.out.size)); clear hb)
          | (go_at_call 8; (with_reducible refine (HM.out _).mono ?_); rintro e w9 ⟨rfl, rfl⟩)
          | (go_at_call 13; (with_reducible refine (MI.out _).mono ?_); rintro e w10 ⟨rfl, rfl⟩)
          | (go_at_call 12; (with_reducible refine (SG.out _).mono ?_); rintro e w11 ⟨rfl, rfl⟩)
          | (go_at_call 11; (with_reducible refine (FO.out _).mono ?_); rintro e w12 ⟨rfl, hb⟩; have D := Lib.hid (D.out.trans (hb.mono D.out.size)); clear hb))
        go_ret
        exact ⟨rfl, D.out⟩
end XC
end Go.Proofs.YtejglcpiihkenaaGreatDoor

/-
  The document's highest bits of a number: powers of two put together (HighBits).
-/
namespace Go.Proofs.YtejglcpiihkenaaGreatDoor
set_option linter.unusedVariables false
set_option linter.unusedSimpArgs false
open Go.RowKit
set_option linter.unusedVariables false
set_option linter.unusedSimpArgs false
namespace XC
open Z (Nz Tz cmpv big)
open ZC DC RC QC SC VC PC
theorem QAbs_c (va : Value) (a ta : Int) (w : World) (ha : QV w va a ta) :
    Calls Tryz.prog 45 #[va] w (RetV w (a.natAbs : Int) ta) := by
  obtain ⟨b1, A1, n1, c1, rfl, hv1⟩ := ha
  obtain ⟨W0, hW0, D0, HS, KB⟩ := qbox1 w b1 A1 n1 c1 ta
  have VA : Hid (∀ W, Below W0.heap.size W0 W → ZV W (.agg #[.bool b1, .slice A1 n1 c1]) a) := fun W h => (((hv1.below D0).below h)).v
  have NG : Hid (∀ (W : World) (u : Value), ZV W u a → Calls Tryz.prog 71 #[u] W (RetZ0 W (a.natAbs : Int))) := fun W u h1 => ZAbs_c u _ W h1
  have HW0 := Lib.hid hW0
  have D0 := Lib.hid D0
  have KB := Lib.hid KB
  generalize (a.natAbs : Int) = r at *
  clear hv1 hW0 HS
  go_enter Tryz.func45, Tryz.ntmps45
  go_upto_region 1 with fail
  rw [HW0.out]
  have D : Below W0.heap.size W0 W0.drew := (Below.refl _ _).drew
  (refine wp_region_L (S := fun w' => w'.cell? ⟨w.heap.size, 0, none⟩ = some (.bool b1) ∧ w'.cell? ⟨w.heap.size, 1, none⟩ = some (.slice A1 n1 c1) ∧ w'.cell? ⟨w.heap.size, 2, none⟩ = some (.int .i64 ta)) (nl := 1000000) (by kernel_rfl) ?_ (fun hHeld => ?_); focus (exact (KB.out _ D).1))
  (refine wpAnyL_take (i := 0) (oi := _) (v := ?_) rfl (by kernel_rfl) (by kernel_rfl) (by kernel_rfl) (fun _ _ _ h => h) (Or.inl ⟨by first | rfl | kernel_rfl, ?hy1⟩) (by assumption) ?rs1; (case hy1 => (intro w hSw; (try dsimp only at hSw); go_simp; first | done | with_reducible rfl)); case' rs1 => (simp only [List.getElem_toArray, List.getElem_cons_zero, List.getElem_cons_succ, Act.put, List.setIfInBounds_toArray, List.set_cons_zero, List.set_cons_succ])); (refine wpAnyL_take (i := 1) (oi := _) (v := ?_) rfl (by kernel_rfl) (by kernel_rfl) (by kernel_rfl) (fun _ _ _ h => h) (Or.inl ⟨by first | rfl | kernel_rfl, ?hy2⟩) (by assumption) ?rs2; (case hy2 => (intro w hSw; (try dsimp only at hSw); go_simp; first | done | with_reducible rfl)); case' rs2 => (simp only [List.getElem_toArray, List.getElem_cons_zero, List.getElem_cons_succ, Act.put, List.setIfInBounds_toArray, List.set_cons_zero, List.set_cons_succ])); (refine wpAnyL_take (i := 3) (oi := _) (v := ?_) rfl (by kernel_rfl) (by kernel_rfl) (by kernel_rfl) (fun _ _ _ h => h) (Or.inl ⟨by first | rfl | kernel_rfl, ?hy3⟩) (by assumption) ?rs3; (case hy3 => (intro w hSw; (try dsimp only at hSw); go_simp; first | done | with_reducible rfl)); case' rs3 => (simp only [List.getElem_toArray, List.getElem_cons_zero, List.getElem_cons_succ, Act.put, List.setIfInBounds_toArray, List.set_cons_zero, List.set_cons_succ])); (refine wpAnyL_take (i := 4) (oi := _) (v := ?_) rfl (by kernel_rfl) (by kernel_rfl) (by kernel_rfl) (fun _ _ _ h => h) (Or.inl ⟨by first | rfl | kernel_rfl, ?hy4⟩) (by assumption) ?rs4; (case hy4 => (intro w hSw; (try dsimp only at hSw); go_simp; first | done | with_reducible rfl)); case' rs4 => (simp only [List.getElem_toArray, List.getElem_cons_zero, List.getElem_cons_succ, Act.put, List.setIfInBounds_toArray, List.set_cons_zero, List.set_cons_succ])); skip
  (refine wpAnyL_one (i := 2) (o := _) (by kernel_rfl) rfl (fun K hK => ?_); clear hHeld; simp only [List.getElem_toArray, List.getElem_cons_zero, List.getElem_cons_succ]; go_simp; (go_at_call 71; (with_reducible refine (NG.out _ _ (VA.out _ D)).mono ?_); rintro e w2 ⟨_, rfl, hr, hb2⟩; have D1 := D.size; have D := D.trans (hb2.mono D.size); obtain ⟨b3, A3, n3, c3, rfl, hr⟩ := hr; have of := off_q hr (KB.out _ D).2); refine hK.out _ _ ?_ (fun hHeld => ?_); focus (intro _; exact (KB.out _ D).1)); have hHeld := hHeld (by decide); clear hK K; (try simp only [Act.put, List.setIfInBounds_toArray, List.set_cons_zero, List.set_cons_succ])
  (refine wpAnyL_take (i := 5) (oi := _) (v := ?_) rfl (by kernel_rfl) (by kernel_rfl) (by kernel_rfl) (fun _ _ _ h => h) (Or.inl ⟨by first | rfl | kernel_rfl, ?hy5⟩) (by assumption) ?rs5; (case hy5 => (intro w hSw; (try dsimp only at hSw); go_simp; first | done | with_reducible rfl)); case' rs5 => (simp only [List.getElem_toArray, List.getElem_cons_zero, List.getElem_cons_succ, Act.put, List.setIfInBounds_toArray, List.set_cons_zero, List.set_cons_succ])); skip
  have R := (KB.out _ D).2
  have f0 := R.frozen 0; have f1 := R.frozen 1; have f2 := R.frozen 2; have t0 := R.at_ 0 rfl; have t1 := R.at_ 1 rfl; have t2 := R.at_ 2 rfl
  have X := Lib.hid (set3 hr of (.bool b3) (.slice A3 n3 c3) (.int .i64 ta))
  have D := Lib.hid D
  (refine wpAnyL_one (i := 6) (o := _) (by kernel_rfl) rfl (fun K hK => ?_); clear hHeld; simp only [List.getElem_toArray, List.getElem_cons_zero, List.getElem_cons_succ]; go_simp; refine hK.out _ _ ?_ (fun hHeld => ?_); focus (intro _; (obtain ⟨s0, s1, s2⟩ := (KB.out _ D.out).1; refine ⟨?_, ?_, ?_⟩ <;> (repeat rw [World.cell?_setCell_other _ _ _ _ (by simp)]) <;> assumption))); have hHeld := hHeld (by decide); clear hK K; (try simp only [Act.put, List.setIfInBounds_toArray, List.set_cons_zero, List.set_cons_succ])
  refine wpAnyL_done (by kernel_rfl) ?_ _
  go_wp2
  exact bodyPost_ret (v := .agg #[.bool b3, .slice A3 n3 c3, .int .i64 ta]) (by simp [results, Tryz.results45, go_sem, t0, t1, t2]) rfl
    ⟨_, _, _, _, rfl, X.out, below3q (D0.out.trans (D.out.mono D0.out.size)) (by omega) _ _ _⟩
theorem QAbs_s {M T : Nat} {u : Value} {s : Int} {w : World} (h : QS M T w u s) : Calls Tryz.prog 45 #[u] w (RetS M T w (s.natAbs : Int)) := by
  obtain ⟨a, ta, ha, a1, a2, a3, a4⟩ := h
  refine (QAbs_c u a ta w ha).mono ?_
  rintro e w' ⟨b9, A9, n9, c9, rfl, hr, hb9⟩
  refine ⟨b9, A9, n9, c9, _, _, rfl, hr, by rw [Int.natAbs_natCast]; exact a1, a2, a3, ?_, hb9⟩
  have hp := sc_one_pos (-ta)
  rw [sc_mul1] at a4 ⊢
  rw [← a4, Int.natAbs_mul, Int.natCast_mul, show ((sc 1 (-ta)).natAbs : Int) = sc 1 (-ta) by omega]
/-- a power of two, made -/
theorem QPow_s {M : Nat} (hM : M = 2400) (v : Value) (k : Int) (w : World) (hv : ZV w v 1) (h0 : -1200 ≤ k) (h1 : k ≤ 1032) : Calls Tryz.prog 46 #[v, .int .i64 k] w (RetS M 1200 w (sc 1 k)) := by
  refine (QMake_c v 1 k w hv (lt_big (M := 1) (N := 1000000) (by decide) (by omega) (by omega)) (by omega) (by omega)).mono fun e w' hr => ?_
  obtain ⟨J, hJ⟩ : ∃ J : Nat, J = 1032 := ⟨_, rfl⟩
  obtain ⟨b, A, n, c, t, z, e1, e2, e3, e4, e5, e6, e7⟩ := RetV.s (M := 1) (E := J) (T := 1200) hr (by decide) (by omega) (by omega) (by omega)
  refine ⟨b, A, n, c, t, z, e1, e2, Nat.lt_of_lt_of_le e3 (Nat.pow_le_pow_right (by decide) (by omega)), e4, e5, e6, e7⟩
theorem nat_lim2 {z t s k : Int} {M : Nat} (hM : M = 2400) (hk : k = 1032) (h0 : 0 ≤ t) (h1 : t ≤ 1200) (he : sc z (-t) = s) (hs : s ≤ sc 1 k ∧ -(sc 1 k) ≤ s) : z.natAbs < 2 ^ M := by
  obtain ⟨j, hj⟩ : ∃ j : Nat, k + t = j := ⟨(k + t).toNat, by omega⟩
  have e2 : sc 1 k = 2 ^ j * sc 1 (-t) := by
    rw [← sc_mul1, sc_two j _ (by omega)]
    congr 1; omega
  have hp := sc_one_pos (-t)
  rw [sc_mul1] at he
  rw [e2, ← he] at hs
  clear e2 he
  have hP := two_pos' j
  have l1 : z ≤ 2 ^ j := Int.le_of_mul_le_mul_right hs.1 hp
  have l2 : -(2 ^ j) ≤ z := by
    have := hs.2
    rw [← Int.neg_mul] at this
    exact Int.le_of_mul_le_mul_right this hp
  have hlt : (2 : Int) ^ j < 2 ^ M := two_lt' (by omega)
  apply lt_cast
  generalize (2 : Int) ^ M = P at *
  generalize (2 : Int) ^ j = Q at *
  omega
theorem QAdd_2 {M : Nat} (hM : M = 2400) {u v : Value} {s s' : Int} {w : World} {k : Int} (hk : k = 1032) (h : QS M 1200 w u s) (h' : QS M 1200 w v s') (hs : s + s' ≤ sc 1 k ∧ -(sc 1 k) ≤ s + s') : Calls Tryz.prog 36 #[u, v] w (RetSF M 1200 w (s + s')) := by
  obtain ⟨a, ta, ha, a1, a2, a3, a4⟩ := h
  obtain ⟨b, tb, hb, b1, b2, b3, b4⟩ := h'
  have c1 := up_lt (tb := tb) a1 a2 b3
  have c2 := up_lt (tb := ta) b1 b2 a3
  have := QAdd_f u v a b ta tb w ha hb (lt_big a1 (by omega) (by omega)) (lt_big b1 (by omega) (by omega)) (by omega) (by omega) (lt_big c1 (by omega) (by omega)) (lt_big c2 (by omega) (by omega))
  have e1 := up_sc (a := a) (ta := ta) (tb := tb) (by omega)
  have e2 := up_sc (a := b) (ta := tb) (tb := ta) (by omega)
  rw [show max tb ta = max ta tb by omega] at e2
  refine this.mono ?_
  rintro e w' ⟨b9, A9, n9, c9, rfl, hr, hfr, hb9⟩
  have es : sc (up a ta tb + up b tb ta) (-(max ta tb)) = s + s' := by rw [sc_add, e1, e2, a4, b4]
  exact ⟨b9, A9, n9, c9, _, _, rfl, hr, nat_lim2 hM hk (by omega) (by omega) es hs, by omega, by omega, es, hfr, hb9⟩
/-- the sum so far, boxed -/
structure SJ (M : Nat) (w W : World) (b : Bool) (A : Option Addr) (n c : Nat) (t s : Int) : Prop where
  k : Blk W w.heap.size 41 #[.bool b, .slice A n c, .int .i64 t]
  q : QS M 1200 W (.agg #[.bool b, .slice A n c, .int .i64 t]) s
  b : Below w.heap.size w W
theorem SJ.below {M : Nat} {w W W' : World} {b A n c t s} (h : SJ M w W b A n c t s) (hb : Below W.heap.size W W') : SJ M w W' b A n c t s := ⟨h.k.below hb h.k.lt, h.q.below hb, h.b.trans (hb.mono h.b.size)⟩
theorem SJ.set {M : Nat} {w W V : World} {b A n c t s b' A' n' c'} {t' z' s' : Int} (h : SJ M w W b A n c t s) (hV : Below V.heap.size V W) (hg : w.heap.size < V.heap.size) (hz : ZL W b' A' n' c' z') (k1 : z'.natAbs < 2 ^ M) (k2 : 0 ≤ t') (k3 : t' ≤ 1200) (k4 : sc z' (-t') = s') (hf : Fr V.heap.size A' n') :
    SJ M w (((W.setCell ⟨w.heap.size, 0, none⟩ (.bool b')).setCell ⟨w.heap.size, 1, none⟩ (.slice A' n' c')).setCell ⟨w.heap.size, 2, none⟩ (.int .i64 t')) b' A' n' c' t' s' :=
  ⟨blk3 h.k _ _ _, ⟨z', t', ⟨b', A', n', c', rfl, QC.set3 hz (off_new hf hg) _ _ _⟩, k1, k2, k3, k4⟩, below3q h.b (Nat.le_refl _) _ _ _⟩
/-- one more bit -/
theorem bit_step {q P : Int} (hP : 0 < P) : (q / (2 * P) * (2 * P) + P ≤ q → q / P * P = q / (2 * P) * (2 * P) + P) ∧ (¬ q / (2 * P) * (2 * P) + P ≤ q → q / P * P = q / (2 * P) * (2 * P)) := by
  have e1 := Int.mul_ediv_add_emod q P
  have r0 := Int.emod_nonneg q (show P ≠ 0 by omega)
  have r1 := Int.emod_lt_of_pos q hP
  have e2 := Int.mul_ediv_add_emod q (2 * P)
  have s0 := Int.emod_nonneg q (show 2 * P ≠ 0 by omega)
  have s1 := Int.emod_lt_of_pos q (show 0 < 2 * P by omega)
  obtain ⟨A, hA⟩ : ∃ A, A = q / P := ⟨_, rfl⟩
  obtain ⟨B, hB⟩ : ∃ B, B = q / (2 * P) := ⟨_, rfl⟩
  rw [← hA] at e1 ⊢
  rw [← hB] at e2 ⊢
  have k1 : B * (2 * P) = 2 * B * P := by rw [← Int.mul_assoc, Int.mul_comm B 2]
  have k2 : 2 * P * B = 2 * B * P := by rw [Int.mul_comm, k1]
  rw [k1]
  rw [k2] at e2
  rw [Int.mul_comm] at e1
  have hAB : A = 2 * B ∨ A = 2 * B + 1 := by
    have a1 : 2 * B * P < (A + 1) * P := by rw [Int.add_mul, Int.one_mul]; omega
    have a2 : A * P < (2 * B + 2) * P := by rw [Int.add_mul]; omega
    have a1 := Int.lt_of_mul_lt_mul_right a1 (Int.le_of_lt hP)
    have a2 := Int.lt_of_mul_lt_mul_right a2 (Int.le_of_lt hP)
    omega
  rcases hAB with h | h
  · rw [h] at e1 ⊢
    exact ⟨fun k => by omega, fun _ => rfl⟩
  · rw [h, Int.add_mul, Int.one_mul] at e1 ⊢
    exact ⟨fun _ => rfl, fun k => by omega⟩
end XC
end Go.Proofs.YtejglcpiihkenaaGreatDoor

/-
  The document's highest bits of a number: the walk.
-/
namespace Go.Proofs.YtejglcpiihkenaaGreatDoor
set_option linter.unusedVariables false
set_option linter.unusedSimpArgs false
open Go.RowKit
set_option linter.unusedVariables false
set_option linter.unusedSimpArgs false
namespace XC
open Z (Nz Tz cmpv big)
open ZC DC RC QC SC VC PC
/-- a number's size cut to whole times 2^j -/
def hbs (x j : Int) : Int := sz x / sc 1 j * sc 1 j
theorem hbs_top {x : Int} (h0 : 0 ≤ sz x) {j : Int} (h : sz x < sc 1 j) : hbs x j = 0 := by
  unfold hbs; rw [Int.ediv_eq_zero_of_lt h0 h, Int.zero_mul]
theorem hbs_le {x : Int} (h0 : 0 ≤ sz x) (j : Int) : 0 ≤ hbs x j ∧ hbs x j ≤ sz x := by
  have hp := sc_one_pos j
  have e := Int.mul_ediv_add_emod (sz x) (sc 1 j)
  have r := Int.emod_nonneg (sz x) (show sc 1 j ≠ 0 by omega)
  have d := Int.mul_nonneg (Int.ediv_nonneg h0 (Int.le_of_lt hp)) (Int.le_of_lt hp)
  rw [Int.mul_comm] at e
  unfold hbs
  omega
theorem hbs_step {x j : Int} (hj : -2000 ≤ j) : (hbs x (j + 1) + sc 1 j ≤ sz x → hbs x j = hbs x (j + 1) + sc 1 j) ∧ (¬ hbs x (j + 1) + sc 1 j ≤ sz x → hbs x j = hbs x (j + 1)) := by
  have hp := sc_one_pos j
  have e : sc 1 (j + 1) = 2 * sc 1 j := by
    have := sc_two 1 j (by omega)
    rw [sc_mul1, show j + ((1 : Nat) : Int) = j + 1 by omega] at this
    rw [← this]; rfl
  unfold hbs
  rw [e]
  exact bit_step hp
def RetHb (M : Nat) (w : World) (s : Int) (e : Ending) (w' : World) : Prop := ∃ b A n c t, e = .returned (.agg #[.bool b, .slice A n c, .int .i64 t]) ∧ QS M 1200 w' (.agg #[.bool b, .slice A n c, .int .i64 t]) s ∧ Below w.heap.size w w'
theorem res_set {M : Nat} {W : World} {g : Nat} {b A n c} {t s : Int} (h : QS M 1200 W (.agg #[.bool b, .slice A n c, .int .i64 t]) s) (R : Blk W g 41 #[.bool false, .slice none 0 0, .int .i64 0]) :
    QS M 1200 (((W.setCell ⟨g, 0, none⟩ (.bool b)).setCell ⟨g, 1, none⟩ (.slice A n c)).setCell ⟨g, 2, none⟩ (.int .i64 t)) (.agg #[.bool b, .slice A n c, .int .i64 t]) s := by
  obtain ⟨z, t', ⟨b', A', n', c', e, hz⟩, k1, k2, k3, k4⟩ := h
  injection e with e
  simp at e
  obtain ⟨rfl, ⟨rfl, rfl, rfl⟩, rfl⟩ := e
  exact ⟨z, t, ⟨b, A, n, c, rfl, set3 hz (off_q hz R) _ _ _⟩, k1, k2, k3, k4⟩
set_option maxRecDepth 100000 in
set_option maxHeartbeats 16000000 in
theorem HighBits_c {M : Nat} (hM : M = 2400) (x bits : Int) (w : World) (fx : fi x) (hm : (OfD x).d.m ≠ 0) (hb : 1 ≤ bits ∧ bits ≤ 52) :
    Calls Tryz.prog 18 #[.int .u64 x, .int .i64 bits] w (RetHb M w (sgm (F.sgn x) (hbs x (topx x + 1 - bits)))) := by
  obtain ⟨t1, t2, t3, t4⟩ := top_p fx hm
  have sz0 : 0 ≤ sz x := U_pos (by have := fx.1; omega)
  have hv : (val x).natAbs = sz x := by
    have : val x = sgm (F.sgn x) (sz x) := val_eq fx
    rw [this]; unfold sgm; split <;> omega
  have sm : sz x ≤ sc 1 1024 := by
    have := sc1_le (x := topx x + 1) (y := 1024) (by omega) (by omega)
    omega
  have NR := Blk.new w 41 #[.bool false, .slice none 0 0, .int .i64 0]
  have D0 : Below w.heap.size w (w.alloc (.cells #[.bool false, .slice none 0 0, .int .i64 0] 41)) := al2 w _
  obtain ⟨W0, hW0⟩ : ∃ W0, w.alloc (.cells #[.bool false, .slice none 0 0, .int .i64 0] 41) = W0 := ⟨_, rfl⟩
  rw [hW0] at NR D0
  have KR : Hid (∀ W, Below W0.heap.size W0 W → Blk W w.heap.size 41 #[.bool false, .slice none 0 0, .int .i64 0]) := fun W h => NR.below h NR.lt
  have g0 : w.heap.size < W0.heap.size := by rw [← hW0]; simp
  have QVc : Hid (∀ W, Calls Tryz.prog 35 #[.int .u64 x] W (RetSF 2200 1100 W (val x))) := fun W => QVal_v x W fx
  have QAc : Hid (∀ (W : World) (u : Value), QS 2200 1100 W u (val x) → Calls Tryz.prog 45 #[u] W (RetS 2200 1100 W (sz x))) := fun W u h => by
    have := QAbs_s h
    rwa [hv] at this
  have NN : Hid (∀ W, Calls Tryz.prog 47 #[.int .i64 1] W (RetZ W 1)) := fun W => N_c 1 (by omega) (by omega) W
  have QP : Hid (∀ (W : World) (v : Value) (k : Int), ZV W v 1 → -1200 ≤ k → k ≤ 1032 → Calls Tryz.prog 46 #[v, .int .i64 k] W (RetS M 1200 W (sc 1 k))) := fun W v k h h0 h1 => QPow_s hM v k W h h0 h1
  have CQ : Hid (∀ (W : World) (u v : Value) (s s' : Int), QS M 1200 W u s → QS M 1200 W v s' → Calls Tryz.prog 37 #[u, v] W fun e w' => e = .returned (.int .i64 (cmpv s s')) ∧ Below W.heap.size W w') := fun W u v s s' h h' => QCmp_s h h' (by omega) (by omega) (by omega) (by omega)
  have QA : Hid (∀ (W : World) (u v : Value) (s s' : Int), QS M 1200 W u s → QS M 1200 W v s' → (∀ K : Int, K = 1032 → s + s' ≤ sc 1 K ∧ -(sc 1 K) ≤ s + s') → Calls Tryz.prog 36 #[u, v] W (RetSF M 1200 W (s + s'))) := fun W u v s s' h1 h2 h3 => QAdd_2 hM rfl h1 h2 (h3 1032 rfl)
  have QN : Hid (∀ (W : World) (u : Value) (s : Int), QS M 1200 W u s → Calls Tryz.prog 48 #[u] W (RetS M 1200 W (-s))) := fun W u s h => QNeg_s h (by omega)
  have MI : Hid (∀ W : World, Calls Tryz.prog 13 #[.int .u64 x] W fun e w' => e = .returned (.bool (F.sgn x)) ∧ W = w') := fun W => Minus_v x W
  have M2 : Hid (2200 ≤ M) := by show 2200 ≤ M; omega
  have HZ := Lib.hid (hbs_le sz0)
  have HT : Hid (hbs x (topx x + 1) = 0) := hbs_top sz0 t2
  have HS : Hid (∀ j : Int, -2000 ≤ j → (hbs x (j + 1) + sc 1 j ≤ sz x → hbs x j = hbs x (j + 1) + sc 1 j) ∧ (¬ hbs x (j + 1) + sc 1 j ≤ sz x → hbs x j = hbs x (j + 1))) := fun j hj => hbs_step hj
  have T1 := Lib.hid t1
  have T2' : Hid (∀ k, topx x + 1 ≤ k → sz x < sc 1 k) := fun k hk => by
    have := sc1_le (x := topx x + 1) (y := k) hk (by omega); omega
  have MX : Hid (∀ j K : Int, j ≤ 1023 → K = 1032 → -2000 ≤ j → hbs x (j + 1) + sc 1 j ≤ sc 1 K ∧ -(sc 1 K) ≤ hbs x (j + 1) + sc 1 j) := fun j K h1 h2 h3 => by
    have a := hbs_le sz0 (j + 1)
    have b := sc_one_pos j
    have c := sc1_le (x := j) (y := 1024) (by omega) (by omega)
    have d := sc_two 1 1024 (by omega)
    rw [sc_mul1, show (2 : Int) ^ 1 = 2 by decide] at d
    have e := sc1_le (x := 1024 + ((1 : Nat) : Int)) (y := K) (by omega) (by omega)
    omega
  have qz : Hid (∀ W : World, QS M 1200 W (.agg #[.bool false, .slice none 0 0, .int .i64 0]) 0) := fun W => (qs_zero W).mono2 (by omega) (by omega)
  have HW0 := Lib.hid hW0
  have D0 := Lib.hid D0
  obtain ⟨q, hq⟩ : ∃ q, q = sz x := ⟨_, rfl⟩
  obtain ⟨tp, htp⟩ : ∃ tp, tp = topx x := ⟨_, rfl⟩
  rw [← hq] at QAc T1 T2' HS HZ
  rw [← htp] at T1 T2' HT ⊢
  rw [← htp] at t3 t4
  generalize val x = vx at *
  obtain ⟨sg, hsg⟩ : ∃ sg, sg = F.sgn x := ⟨_, rfl⟩
  rw [← hsg] at MI ⊢
  have hb1 := hb.1
  have hb2 := hb.2
  clear hM t1 t2 sm hv sz0 NR hW0 fx hm hq htp hsg hb
  go_enter Tryz.func18, Tryz.ntmps18
  go_wp2_with (first
    | (go_at_call 35; rw [HW0.out]; (with_reducible refine (QVc.out _).mono ?_); rintro e w1 ⟨b1, A1, n1, c1, t1, z1, rfl, hz, k1, k2, k3, k4, hf, hb⟩; have QX := Lib.hid (RetS.qs hz k1 k2 k3 k4); have D := Lib.hid hb; clear hz k1 k2 k3 k4 hf hb)
    | (go_at_call 45; (with_reducible refine (QAc.out _ _ QX.out).mono ?_); rintro e w2 ⟨b2, A2, n2, c2, t2, z2, rfl, hz, k1, k2, k3, k4, hb⟩; have QY := Lib.hid ((RetS.qs hz k1 k2 k3 k4).mono2 (M' := M) (T' := 1200) M2.out (by omega)); have D := Lib.hid (D.out.trans (hb.mono D.out.size)); clear hz k1 k2 k3 k4 hb QX))
  have Nq := Blk.new w2 41 #[.bool b2, .slice A2 n2 c2, .int .i64 t2]
  have aq := al2 w2 (.cells #[.bool b2, .slice A2 n2 c2, .int .i64 t2] 41)
  obtain ⟨W1, hW1⟩ : ∃ W1, w2.alloc (.cells #[.bool b2, .slice A2 n2 c2, .int .i64 t2] 41) = W1 := ⟨_, rfl⟩
  rw [hW1] at Nq aq ⊢
  obtain ⟨gq, hgq⟩ : ∃ gq, gq = w2.heap.size := ⟨_, rfl⟩
  rw [← hgq] at Nq ⊢
  have QB := QY.out.below aq
  have D1 := Lib.hid (D.out.trans (aq.mono D.out.size))
  have KQ : Hid (∀ W, Below W1.heap.size W1 W → (W.cell? ⟨gq, 0, none⟩ = some (.bool b2) ∧ W.cell? ⟨gq, 1, none⟩ = some (.slice A2 n2 c2) ∧ W.cell? ⟨gq, 2, none⟩ = some (.int .i64 t2)) ∧ QS M 1200 W (.agg #[.bool b2, .slice A2 n2 c2, .int .i64 t2]) q) := fun W h => ⟨⟨(Nq.below h Nq.lt).at_ 0 rfl, (Nq.below h Nq.lt).at_ 1 rfl, (Nq.below h Nq.lt).at_ 2 rfl⟩, QB.below h⟩
  clear QVc QAc QY D hW1 hgq aq QB Nq
  go_loopw [6] (fun kv wr => ∃ k : Int, kv = .int .i64 k ∧ tp ≤ k ∧ k ≤ 1024 ∧ Hid (q < sc 1 (k + 1)) ∧ Hid (Below W1.heap.size W1 wr)) (fun kv _ => (intOf kv - tp).toNat)
  case atStart => exact ⟨1024, rfl, by omega, by omega, T2'.out _ (by omega), Below.refl _ _⟩
  case round =>
    obtain ⟨k, rfl, k1, k2, hs, hD⟩ := hrel
    obtain ⟨p0, p1, p2⟩ := (KQ.out _ hD.out).1
    go_upto_region 3 with fail
    have D : Below W1.heap.size W1 wr.drew := hD.out.drew
    obtain ⟨K, hK⟩ : ∃ K, cmpv (sc 1 k) q = K := ⟨_, rfl⟩
    have HK := Lib.hid hK
    have kb1 : -1200 ≤ k := by omega
    have kb2 : k ≤ 1032 := by omega
    (refine wp_region_L (S := fun w' => w'.cell? ⟨gq, 0, none⟩ = some (.bool b2) ∧ w'.cell? ⟨gq, 1, none⟩ = some (.slice A2 n2 c2) ∧ w'.cell? ⟨gq, 2, none⟩ = some (.int .i64 t2)) (nl := 1000000) (by kernel_rfl) ?_ (fun hHeld => ?_); focus (exact (KQ.out _ D).1))
    (refine wpAnyL_take (i := 1) (oi := _) (v := ?_) rfl (by kernel_rfl) (by kernel_rfl) (by kernel_rfl) (fun _ _ _ h => h) (Or.inl ⟨by first | rfl | kernel_rfl, ?hy6⟩) (by assumption) ?rs6; (case hy6 => (intro w hSw; (try dsimp only at hSw); go_simp; first | done | with_reducible rfl)); case' rs6 => (simp only [List.getElem_toArray, List.getElem_cons_zero, List.getElem_cons_succ, Act.put, List.setIfInBounds_toArray, List.set_cons_zero, List.set_cons_succ])); (refine wpAnyL_take (i := 3) (oi := _) (v := ?_) rfl (by kernel_rfl) (by kernel_rfl) (by kernel_rfl) (fun _ _ _ h => h) (Or.inl ⟨by first | rfl | kernel_rfl, ?hy7⟩) (by assumption) ?rs7; (case hy7 => (intro w hSw; (try dsimp only at hSw); go_simp; first | done | with_reducible rfl)); case' rs7 => (simp only [List.getElem_toArray, List.getElem_cons_zero, List.getElem_cons_succ, Act.put, List.setIfInBounds_toArray, List.set_cons_zero, List.set_cons_succ])); skip
    (refine wpAnyL_one (i := 0) (o := _) (by kernel_rfl) rfl (fun K hK => ?_); clear hHeld; simp only [List.getElem_toArray, List.getElem_cons_zero, List.getElem_cons_succ]; go_simp; (go_at_call 47; (with_reducible refine (NN.out _).mono ?_); rintro e v1 ⟨_, rfl, ⟨q1, Q1, m1, d1, rfl, h1⟩, hb1⟩; have D := D.trans (hb1.mono D.size)); refine hK.out _ _ ?_ (fun hHeld => ?_); focus (intro _; exact (KQ.out _ D).1)); have hHeld := hHeld (by decide); clear hK K; (try simp only [Act.put, List.setIfInBounds_toArray, List.set_cons_zero, List.set_cons_succ])
    (refine wpAnyL_one (i := 2) (o := _) (by kernel_rfl) rfl (fun K hK => ?_); clear hHeld; simp only [List.getElem_toArray, List.getElem_cons_zero, List.getElem_cons_succ]; go_simp; (go_at_call 46; (with_reducible refine (QP.out _ _ _ h1.v kb1 kb2).mono ?_); rintro e v2 ⟨b3, A3, n3, c3, t3, z3, rfl, hz3, y1, y2, y3, y4, hb2⟩; have D := D.trans (hb2.mono D.size)); refine hK.out _ _ ?_ (fun hHeld => ?_); focus (intro _; exact (KQ.out _ D).1)); have hHeld := hHeld (by decide); clear hK K; (try simp only [Act.put, List.setIfInBounds_toArray, List.set_cons_zero, List.set_cons_succ])
    (refine wpAnyL_one (i := 4) (o := _) (by kernel_rfl) rfl (fun K hK => ?_); clear hHeld; simp only [List.getElem_toArray, List.getElem_cons_zero, List.getElem_cons_succ]; go_simp; (go_at_call 37; (with_reducible refine (CQ.out _ _ _ _ _ (RetS.qs hz3 y1 y2 y3 y4) (KQ.out _ D).2).mono ?_); rintro e v3 ⟨rfl, hb3⟩; have D := D.trans (hb3.mono D.size)); refine hK.out _ _ ?_ (fun hHeld => ?_); focus (intro _; exact (KQ.out _ D).1)); have hHeld := hHeld (by decide); clear hK K; (try simp only [Act.put, List.setIfInBounds_toArray, List.set_cons_zero, List.set_cons_succ])
    (refine wpAnyL_take (i := 5) (oi := _) (v := ?_) rfl (by kernel_rfl) (by kernel_rfl) (by kernel_rfl) (fun _ _ _ h => h) (Or.inl ⟨by first | rfl | kernel_rfl, ?hy8⟩) (by assumption) ?rs8; (case hy8 => (intro w hSw; (try dsimp only at hSw); go_simp; first | done | with_reducible rfl)); case' rs8 => (simp only [List.getElem_toArray, List.getElem_cons_zero, List.getElem_cons_succ, Act.put, List.setIfInBounds_toArray, List.set_cons_zero, List.set_cons_succ])); skip
    refine wpAnyL_done (by kernel_rfl) ?_ _
    rw [hK]
    have D := Lib.hid D
    clear h1 hz3 y1 y2 y3 y4 hHeld hK p0 p1 p2 hb1 hb2 hb3
    by_cases hk : K > 0
    · have hk2 : Hid (q < sc 1 k) := by
        show q < sc 1 k
        have := HK.out
        rcases Int.lt_trichotomy (sc 1 k) q with h | h | h
        · rw [Z.cmpv_lt h] at this; omega
        · rw [Z.cmpv_eq h] at this; omega
        · exact h
      have hk3 : tp ≤ k - 1 := by
        have := sc1_lt (Int.lt_of_le_of_lt T1.out hk2.out) (by omega)
        omega
      have j1 : wrap64 (k - 1) = k - 1 := by unfold wrap64; omega
      have j2 : IntKind.i64.wrap (k - 1) = k - 1 := IntWalk.i64_in _ (by omega)
      go_wp2
      exact ⟨⟨k - 1, rfl, hk3, by omega, by rw [show k - 1 + 1 = k by omega]; exact hk2.out, D.out⟩, by simp only [intOf]; omega⟩
    · have hk4 : tp = k := by
        have h1 : sc 1 k ≤ q := by
          have := HK.out
          rcases Int.lt_trichotomy (sc 1 k) q with h | h | h
          · omega
          · omega
          · rw [Z.cmpv_gt h] at this; omega
        have h2 := T2'.out (tp + 1) (by omega)
        have := sc1_lt (Int.lt_of_le_of_lt h1 h2) (by omega)
        omega
      subst hk4
      clear HK hs
      go_wp2
      have Ns := Blk.new v3 41 #[.bool false, .slice none 0 0, .int .i64 0]
      have asx := al2 v3 (.cells #[.bool false, .slice none 0 0, .int .i64 0] 41)
      obtain ⟨W2, hW2⟩ : ∃ W2, v3.alloc (.cells #[.bool false, .slice none 0 0, .int .i64 0] 41) = W2 := ⟨_, rfl⟩
      rw [hW2] at Ns asx ⊢
      have E0 : Hid (SJ M v3 W2 false none 0 0 0 (hbs x (tp + 1 - ((0 : Nat) : Int)))) := ⟨Ns, by rw [show tp + 1 - ((0 : Nat) : Int) = tp + 1 by omega, HT.out]; exact qz.out W2, asx⟩
      have V1 := Lib.hid (D1.out.trans (D.out.mono D1.out.size))
      have gv : Hid (w.heap.size < v3.heap.size) := Nat.lt_of_lt_of_le g0 V1.out.size
      have D3 := D
      clear Ns asx hW2 hD D
      go_loopw [23] (fun iv wr => ∃ (i : Nat) (bs : Bool) (As : Option Addr) (ns cs : Nat) (ts : Int), iv = .int .i64 i ∧ (i : Int) ≤ bits ∧ Hid (SJ M v3 wr bs As ns cs ts (hbs x (tp + 1 - i)))) (fun iv _ => (bits - intOf iv).toNat)
      case atStart => exact ⟨0, _, _, _, _, _, rfl, by omega, E0.out⟩
      case round =>
        obtain ⟨i, bs, As, ns, cs, ts, rfl, hi, hE⟩ := hrel
        by_cases hib : (i : Int) < bits
        · have j1 : wrap64 (tp - i) = tp - i := by unfold wrap64; omega
          have j2 : IntKind.i64.wrap (tp - i) = tp - i := IntWalk.i64_in _ (by omega)
          have j3 : wrap64 ((i : Int) + 1) = (i : Int) + 1 := by unfold wrap64; omega
          have kb1 : -1200 ≤ tp - i := by omega
          have kb2 : tp - i ≤ 1032 := by omega
          go_upto_region 10 with (first
            | (go_at_call 47; (with_reducible refine (NN.out _).mono ?_); rintro e v4 ⟨_, rfl, ⟨q1, Q1, m1, d1, rfl, h1⟩, hb1⟩; have E1 := Lib.hid (hE.out.below hb1); have H1 := Lib.hid h1.v; clear h1 hb1)
            | (go_at_call 46; (with_reducible refine (QP.out _ _ _ H1.out kb1 kb2).mono ?_); rintro e v5 ⟨b3, A3, n3, c3, t3, z3, rfl, hz3, y1, y2, y3, y4, hb2⟩; have E2 := Lib.hid (E1.out.below hb2); have QR := Lib.hid (RetS.qs hz3 y1 y2 y3 y4); clear hz3 y1 y2 y3 y4 hb2))
          have Np := Blk.new v5 41 #[.bool b3, .slice A3 n3 c3, .int .i64 t3]
          have ap := al2 v5 (.cells #[.bool b3, .slice A3 n3 c3, .int .i64 t3] 41)
          obtain ⟨W3, hW3⟩ : ∃ W3, v5.alloc (.cells #[.bool b3, .slice A3 n3 c3, .int .i64 t3] 41) = W3 := ⟨_, rfl⟩
          rw [hW3] at Np ap ⊢
          have E3 := E2.out.below ap
          have QR3 := QR.out.below ap
          obtain ⟨gp, hgp⟩ : ∃ gp, gp = v5.heap.size := ⟨_, rfl⟩
          rw [← hgp] at Np ⊢
          have KK : Hid (∀ W, Below W3.heap.size W3 W → ((W.cell? ⟨v3.heap.size, 0, none⟩ = some (.bool bs) ∧ W.cell? ⟨v3.heap.size, 1, none⟩ = some (.slice As ns cs) ∧ W.cell? ⟨v3.heap.size, 2, none⟩ = some (.int .i64 ts)) ∧ (W.cell? ⟨gp, 0, none⟩ = some (.bool b3) ∧ W.cell? ⟨gp, 1, none⟩ = some (.slice A3 n3 c3) ∧ W.cell? ⟨gp, 2, none⟩ = some (.int .i64 t3)) ∧ (W.cell? ⟨gq, 0, none⟩ = some (.bool b2) ∧ W.cell? ⟨gq, 1, none⟩ = some (.slice A2 n2 c2) ∧ W.cell? ⟨gq, 2, none⟩ = some (.int .i64 t2))) ∧ SJ M v3 W bs As ns cs ts (hbs x (tp + 1 - i)) ∧ QS M 1200 W (.agg #[.bool b3, .slice A3 n3 c3, .int .i64 t3]) (sc 1 (tp - i)) ∧ QS M 1200 W (.agg #[.bool b2, .slice A2 n2 c2, .int .i64 t2]) q) := fun W h => by
            have a := E3.below h
            have b := Np.below h Np.lt
            have c := KQ.out W (D3.out.trans (a.b.mono D3.out.size))
            exact ⟨⟨⟨a.k.at_ 0 rfl, a.k.at_ 1 rfl, a.k.at_ 2 rfl⟩, ⟨b.at_ 0 rfl, b.at_ 1 rfl, b.at_ 2 rfl⟩, c.1⟩, a, QR3.below h, c.2⟩
          have MB := fun K hK => MX.out (tp - i) K (by omega) hK (by omega)
          rw [show tp - (i : Int) + 1 = tp + 1 - i by omega] at MB
          have MB := Lib.hid MB
          have HB := HS.out (tp - i) (by omega)
          rw [show tp - (i : Int) + 1 = tp + 1 - i by omega] at HB
          have HB := Lib.hid HB
          clear Np ap hW3 E3 QR3 hgp E2 E1 H1 QR hE
          have D : Below W3.heap.size W3 W3.drew := (Below.refl _ _).drew
          obtain ⟨K, hK⟩ : ∃ K, cmpv (hbs x (tp + 1 - i) + sc 1 (tp - i)) q = K := ⟨_, rfl⟩
          have HK := Lib.hid hK
          (refine wp_region_L (S := fun w' => (w'.cell? ⟨v3.heap.size, 0, none⟩ = some (.bool bs) ∧ w'.cell? ⟨v3.heap.size, 1, none⟩ = some (.slice As ns cs) ∧ w'.cell? ⟨v3.heap.size, 2, none⟩ = some (.int .i64 ts)) ∧ (w'.cell? ⟨gp, 0, none⟩ = some (.bool b3) ∧ w'.cell? ⟨gp, 1, none⟩ = some (.slice A3 n3 c3) ∧ w'.cell? ⟨gp, 2, none⟩ = some (.int .i64 t3)) ∧ (w'.cell? ⟨gq, 0, none⟩ = some (.bool b2) ∧ w'.cell? ⟨gq, 1, none⟩ = some (.slice A2 n2 c2) ∧ w'.cell? ⟨gq, 2, none⟩ = some (.int .i64 t2))) (nl := 1000000) (by kernel_rfl) ?_ (fun hHeld => ?_); focus (exact (KK.out _ D).1))
          (refine wpAnyL_take (i := 0) (oi := _) (v := ?_) rfl (by kernel_rfl) (by kernel_rfl) (by kernel_rfl) (fun _ _ _ h => h) (Or.inl ⟨by first | rfl | kernel_rfl, ?hy9⟩) (by assumption) ?rs9; (case hy9 => (intro w hSw; (try dsimp only at hSw); go_simp; first | done | with_reducible rfl)); case' rs9 => (simp only [List.getElem_toArray, List.getElem_cons_zero, List.getElem_cons_succ, Act.put, List.setIfInBounds_toArray, List.set_cons_zero, List.set_cons_succ])); (refine wpAnyL_take (i := 1) (oi := _) (v := ?_) rfl (by kernel_rfl) (by kernel_rfl) (by kernel_rfl) (fun _ _ _ h => h) (Or.inl ⟨by first | rfl | kernel_rfl, ?hy10⟩) (by assumption) ?rs10; (case hy10 => (intro w hSw; (try dsimp only at hSw); go_simp; first | done | with_reducible rfl)); case' rs10 => (simp only [List.getElem_toArray, List.getElem_cons_zero, List.getElem_cons_succ, Act.put, List.setIfInBounds_toArray, List.set_cons_zero, List.set_cons_succ])); (refine wpAnyL_take (i := 3) (oi := _) (v := ?_) rfl (by kernel_rfl) (by kernel_rfl) (by kernel_rfl) (fun _ _ _ h => h) (Or.inl ⟨by first | rfl | kernel_rfl, ?hy11⟩) (by assumption) ?rs11; (case hy11 => (intro w hSw; (try dsimp only at hSw); go_simp; first | done | with_reducible rfl)); case' rs11 => (simp only [List.getElem_toArray, List.getElem_cons_zero, List.getElem_cons_succ, Act.put, List.setIfInBounds_toArray, List.set_cons_zero, List.set_cons_succ])); skip
          (refine wpAnyL_one (i := 2) (o := _) (by kernel_rfl) rfl (fun K hK => ?_); clear hHeld; simp only [List.getElem_toArray, List.getElem_cons_zero, List.getElem_cons_succ]; go_simp; (go_at_call 36; (with_reducible refine (QA.out _ _ _ _ _ (KK.out _ D).2.1.q (KK.out _ D).2.2.1 MB.out).mono ?_); rintro e v6 ⟨b4, A4, n4, c4, t4, z4, rfl, hz4, y1, y2, y3, y4, hfr, hb4⟩; have D := D.trans (hb4.mono D.size)); refine hK.out _ _ ?_ (fun hHeld => ?_); focus (intro _; exact (KK.out _ D).1)); have hHeld := hHeld (by decide); clear hK K; (try simp only [Act.put, List.setIfInBounds_toArray, List.set_cons_zero, List.set_cons_succ])
          (refine wpAnyL_one (i := 4) (o := _) (by kernel_rfl) rfl (fun K hK => ?_); clear hHeld; simp only [List.getElem_toArray, List.getElem_cons_zero, List.getElem_cons_succ]; go_simp; (go_at_call 37; (with_reducible refine (CQ.out _ _ _ _ _ (RetS.qs hz4 y1 y2 y3 y4) (KK.out _ D).2.2.2).mono ?_); rintro e v7 ⟨rfl, hb5⟩; have D := D.trans (hb5.mono D.size)); refine hK.out _ _ ?_ (fun hHeld => ?_); focus (intro _; exact (KK.out _ D).1)); have hHeld := hHeld (by decide); clear hK K; (try simp only [Act.put, List.setIfInBounds_toArray, List.set_cons_zero, List.set_cons_succ])
          (refine wpAnyL_take (i := 5) (oi := _) (v := ?_) rfl (by kernel_rfl) (by kernel_rfl) (by kernel_rfl) (fun _ _ _ h => h) (Or.inl ⟨by first | rfl | kernel_rfl, ?hy12⟩) (by assumption) ?rs12; (case hy12 => (intro w hSw; (try dsimp only at hSw); go_simp; first | done | with_reducible rfl)); case' rs12 => (simp only [List.getElem_toArray, List.getElem_cons_zero, List.getElem_cons_succ, Act.put, List.setIfInBounds_toArray, List.set_cons_zero, List.set_cons_succ])); skip
          refine wpAnyL_done (by kernel_rfl) ?_ _
          rw [hK]
          have D := Lib.hid D
          clear hz4 y1 y2 y3 y4 hfr hb4 hb5 hHeld hK
          by_cases hk : K ≤ 0
          · have he : Hid (hbs x (tp + 1 - i) + sc 1 (tp - i) = hbs x (tp + 1 - ((i + 1 : Nat) : Int))) := by
              show _ = _
              have h1 := HK.out
              have h2 := HB.out.1 (by
                rcases Int.lt_trichotomy (hbs x (tp + 1 - i) + sc 1 (tp - i)) q with h | h | h
                · omega
                · omega
                · rw [Z.cmpv_gt h] at h1; omega)
              rw [← h2]; congr 1; omega
            obtain ⟨⟨p0, p1, p2⟩, ⟨r0, r1, r2⟩, -⟩ := (KK.out _ D.out).1
            have E4 := Lib.hid (KK.out _ D.out).2.1
            have Q4 := Lib.hid (KK.out _ D.out).2.2.1
            have gl : Hid (v3.heap.size < v7.heap.size) := E4.out.k.lt
            clear HK HB
            go_wp2_with (go_at_call 36; (with_reducible refine (QA.out _ _ _ _ _ E4.out.q Q4.out MB.out).mono ?_); rintro e v8 ⟨b4, A4, n4, c4, t4, z4, rfl, hz4, y1, y2, y3, y4, hfr, hb4⟩; have E5 := E4.out.below hb4; have s0 := E5.k.at_ 0 rfl; have s1 := E5.k.at_ 1 rfl; have s2 := E5.k.at_ 2 rfl; have f0 := E5.k.frozen 0; have f1 := E5.k.frozen 1; have f2 := E5.k.frozen 2; have E6 := E5.set hb4 gl.out hz4 y1 y2 y3 y4 hfr; rw [he.out] at E6; have E6 := Lib.hid E6; clear E5 hz4 y1 y2 y3 y4 hfr hb4)
            exact ⟨⟨i + 1, _, _, _, _, _, by simp, by omega, E6.out⟩, by simp only [intOf]; omega⟩
          · have he : Hid (hbs x (tp + 1 - i) = hbs x (tp + 1 - ((i + 1 : Nat) : Int))) := by
              show _ = _
              have h1 := HK.out
              have h2 := HB.out.2 (by
                rcases Int.lt_trichotomy (hbs x (tp + 1 - i) + sc 1 (tp - i)) q with h | h | h
                · rw [Z.cmpv_lt h] at h1; omega
                · rw [Z.cmpv_eq h] at h1; omega
                · omega)
              rw [← h2]; congr 1; omega
            have E4 := (KK.out _ D.out).2.1
            rw [he.out] at E4
            have E4 := Lib.hid E4
            clear HK HB
            go_wp2
            exact ⟨⟨i + 1, _, _, _, _, _, by simp, by omega, E4.out⟩, by simp only [intOf]; omega⟩
        · have hbi : bits = i := by omega
          have DW := Lib.hid (V1.out.trans (hE.out.b.mono V1.out.size))
          have R := KR.out _ DW.out
          have Dw := Lib.hid (D0.out.trans (DW.out.mono D0.out.size))
          obtain ⟨p0, p1, p2⟩ : wr.cell? ⟨v3.heap.size, 0, none⟩ = some (.bool bs) ∧ wr.cell? ⟨v3.heap.size, 1, none⟩ = some (.slice As ns cs) ∧ wr.cell? ⟨v3.heap.size, 2, none⟩ = some (.int .i64 ts) := ⟨hE.out.k.at_ 0 rfl, hE.out.k.at_ 1 rfl, hE.out.k.at_ 2 rfl⟩
          have QE := Lib.hid hE.out.q
          cases sg
          · have t0 := R.at_ 0 rfl
            have t1 := R.at_ 1 rfl
            have t2' := R.at_ 2 rfl
            have f0 := R.frozen 0
            have f1 := R.frozen 1
            have f2 := R.frozen 2
            have X := Lib.hid (res_set QE.out R)
            have HBI := Lib.hid hbi
            clear hbi hi
            go_wp2_with (go_at_call 13; (with_reducible refine (MI.out _).mono ?_); rintro e v9 ⟨rfl, rfl⟩)
            refine bodyPost_ret (v := .agg #[.bool bs, .slice As ns cs, .int .i64 ts]) (by simp [results, Tryz.results18, go_sem, t0, t1, t2']) rfl ⟨_, _, _, _, _, rfl, ?_, below3q Dw.out (Nat.le_refl _) _ _ _⟩
            rw [HBI.out]
            exact X.out
          · have HBI := Lib.hid hbi
            have R := Lib.hid R
            clear hbi hi
            go_wp2_with (first
              | (go_at_call 13; (with_reducible refine (MI.out _).mono ?_); rintro e v9 ⟨rfl, rfl⟩)
              | (go_at_call 48; (with_reducible refine (QN.out _ _ _ QE.out).mono ?_); rintro e v10 ⟨b4, A4, n4, c4, t4, z4, rfl, hz4, y1, y2, y3, y4, hb4⟩; have R2 := KR.out _ (DW.out.trans (hb4.mono DW.out.size)); have X := Lib.hid (res_set (RetS.qs hz4 y1 y2 y3 y4) R2); have t0 := R2.at_ 0 rfl; have t1 := R2.at_ 1 rfl; have t2' := R2.at_ 2 rfl; have f0 := R2.frozen 0; have f1 := R2.frozen 1; have f2 := R2.frozen 2; have Dx := Lib.hid (Dw.out.trans (hb4.mono Dw.out.size)); clear hz4 y1 y2 y3 y4 hb4 R2))
            refine bodyPost_ret (v := .agg #[.bool b4, .slice A4 n4 c4, .int .i64 t4]) (by simp [results, Tryz.results18, go_sem, t0, t1, t2']) rfl ⟨_, _, _, _, _, rfl, ?_, below3q Dx.out (Nat.le_refl _) _ _ _⟩
            rw [HBI.out]
            exact X.out
end XC
end Go.Proofs.YtejglcpiihkenaaGreatDoor

