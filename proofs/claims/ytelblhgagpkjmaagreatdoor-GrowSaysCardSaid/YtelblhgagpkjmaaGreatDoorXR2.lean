/-
  The document's parts of a sum of two (SumParts), without its products.
-/
import Derived.Test.YtelblhgagpkjmaaGreatDoorXR1
import Derived.Test.YtelblhgagpkjmaaGreatDoorF22
import Derived.Test.YtelblhgagpkjmaaGreatDoorF21
namespace Go.Proofs.YtelblhgagpkjmaaGreatDoor
set_option linter.unusedVariables false
set_option linter.unusedSimpArgs false
open Go.RowKit
set_option linter.unusedVariables false
set_option linter.unusedSimpArgs false
namespace GC
open Z (Nz Tz cmpv big)
open ZC DC RC QC SC VC PC XC
theorem Minus_v (x : Int) (w : World) : Calls Tryz.prog 103 #[.int .u64 x] w fun e w' => e = .returned (.bool (F.sgn x)) ∧ w = w' := VC.Minus_c x w
theorem neg_signed {x : Int} (hx : 0 ≤ x ∧ x ≤ 18446744073709551615) : (if (!F.sgn x) = true then x % 9223372036854775808 + 9223372036854775808 else x % 9223372036854775808) = F.neg x := by
  unfold F.neg F.sgn
  by_cases h : 9223372036854775808 ≤ x
  · have h2 : ¬ x < 9223372036854775808 := by omega
    simp [h, h2]; omega
  · have h2 : x < 9223372036854775808 := by omega
    simp [h, h2]; omega
theorem Signed_v (x : Int) (w : World) (hx : 0 ≤ x ∧ x ≤ 18446744073709551615) : Calls Tryz.prog 105 #[.int .u64 (x % 9223372036854775808), .bool (!F.sgn x)] w fun e w' => e = .returned (.int .u64 (F.neg x)) ∧ w = w' := by
  have := Signed_c (x % 9223372036854775808) (!F.sgn x) w (by omega) (by omega)
  rwa [neg_signed hx] at this
theorem turnedBits_c (x : Int) (w : World) (hx : 0 ≤ x ∧ x ≤ 18446744073709551615) : Calls Tryz.prog 81 #[.int .u64 x] w fun e w' => e = .returned (.int .u64 (F.neg x)) ∧ w = w' := by
  have MI : Hid (∀ W : World, Calls Tryz.prog 103 #[.int .u64 x] W fun e w' => e = .returned (.bool (F.sgn x)) ∧ W = w') := fun W => Minus_v x W
  have SG : Hid (∀ W : World, Calls Tryz.prog 105 #[.int .u64 (x % 9223372036854775808), .bool (!F.sgn x)] W fun e w' => e = .returned (.int .u64 (F.neg x)) ∧ W = w') := fun W => Signed_v x W hx
  have hm : x.tmod 9223372036854775808 = x % 9223372036854775808 := Int.tmod_eq_emod_of_nonneg hx.1
  generalize F.neg x = n at *
  generalize F.sgn x = s at *
  have b : 0 ≤ x % 9223372036854775808 ∧ x % 9223372036854775808 < 9223372036854775808 := by omega
  obtain ⟨m, hm2⟩ : ∃ m, x % 9223372036854775808 = m := ⟨_, rfl⟩
  rw [hm2] at SG hm b
  clear hx
  go_enter Tryz.func81, Tryz.ntmps81
  go_wp2_with (first
    | (go_at_call 103; (with_reducible refine (MI.out _).mono ?_); rintro e w1 ⟨rfl, rfl⟩)
    | (go_at_call 105; (with_reducible refine (SG.out _).mono ?_); rintro e w1 ⟨rfl, rfl⟩))
  go_ret
  exact ⟨rfl, rfl⟩
theorem nearSum_c (x y : Int) (w : World) (hx : 0 ≤ x ∧ x ≤ 18446744073709551615) (hy : 0 ≤ y ∧ y ≤ 18446744073709551615) : Calls Tryz.prog 63 #[.int .u64 x, .int .u64 y] w (DC.RetB w (.int .u64 (ad x y))) := by
  have D0 := al1 w (.cells #[.int .u64 x, .int .u64 y] 23)
  have hs : Sl .u64 (w.alloc (.cells #[.int .u64 x, .int .u64 y] 23)) (.slice (some ⟨w.heap.size, 0, none⟩) 2 2) [x, y] := Row.sl (L := [x, y]) (Blk.new w 23 #[.int .u64 x, .int .u64 y]) 2 (by simp)
  have SO := Lib.hid (SumOf_c _ 2 2 [x, y] 0 _ hs (u2 hx hy) (by simp) (by omega))
  have e : (VC.SO [x, y] 0).1 = ad x y := by
    unfold ad
    rw [SO_AT (by omega) (by simp) (u2 hx hy)]
  rw [← e]
  generalize VC.SO [x, y] 0 = t at *
  have D0 := Lib.hid D0
  clear hs e hx hy
  go_enter Tryz.func63, Tryz.ntmps63
  go_wp2_with (go_at_call 80; (with_reducible refine (SO.out).mono ?_); rintro e w1 ⟨rfl, hb⟩; have D := Lib.hid (D0.out.trans (hb.mono D0.out.size)); clear hb)
  go_ret
  exact ⟨rfl, D.out⟩
theorem nearLess_c (x y : Int) (w : World) (hx : 0 ≤ x ∧ x ≤ 18446744073709551615) (hy : 0 ≤ y ∧ y ≤ 18446744073709551615) : Calls Tryz.prog 64 #[.int .u64 x, .int .u64 y] w (DC.RetB w (.int .u64 (sb x y))) := by
  have TB := Lib.hid (turnedBits_c y w hy)
  have NS := Lib.hid (nearSum_c x (F.neg y) w hx (F.neg_bd y hy.1 hy.2))
  have e : ad x (F.neg y) = sb x y := rfl
  rw [e] at NS
  generalize sb x y = r at *
  generalize F.neg y = n at *
  clear hx hy e
  go_enter Tryz.func64, Tryz.ntmps64
  go_wp2_with (first
    | (go_at_call 81; (with_reducible refine (TB.out).mono ?_); rintro e w1 ⟨rfl, rfl⟩)
    | (go_at_call 63; (with_reducible refine (NS.out).mono ?_); rintro e w1 ⟨rfl, hb⟩; have D := Lib.hid hb; clear hb))
  go_ret
  exact ⟨rfl, D.out⟩
theorem SumParts_c (x y : Int) (w : World) (hx : 0 ≤ x ∧ x ≤ 18446744073709551615) (hy : 0 ≤ y ∧ y ≤ 18446744073709551615) : Calls Tryz.prog 41 #[.int .u64 x, .int .u64 y] w (DC.RetB w (.tuple #[.int .u64 (ad x y), .int .u64 (ad (sb x (sb (ad x y) y)) (sb y (sb (ad x y) (sb (ad x y) y)))), .int .u64 (sb y (sb (ad x y) x))])) := by
  have D := Lib.hid (Below.refl w.heap.size w)
  have bs := ad_bd hx hy
  have ba := sb_bd bs hy
  have bb := sb_bd bs ba
  have bc := sb_bd hx ba
  have bd := sb_bd hy bb
  have bf := sb_bd bs hx
  have S0 : Hid (∀ W, Calls Tryz.prog 63 #[.int .u64 x, .int .u64 y] W (DC.RetB W (.int .u64 (ad x y)))) := fun W => nearSum_c _ _ W hx hy
  have SA : Hid (∀ W, Calls Tryz.prog 64 #[.int .u64 (ad x y), .int .u64 y] W (DC.RetB W (.int .u64 (sb (ad x y) y)))) := fun W => nearLess_c _ _ W bs hy
  have SB : Hid (∀ W, Calls Tryz.prog 64 #[.int .u64 (ad x y), .int .u64 (sb (ad x y) y)] W (DC.RetB W (.int .u64 (sb (ad x y) (sb (ad x y) y))))) := fun W => nearLess_c _ _ W bs ba
  have SC' : Hid (∀ W, Calls Tryz.prog 64 #[.int .u64 x, .int .u64 (sb (ad x y) y)] W (DC.RetB W (.int .u64 (sb x (sb (ad x y) y))))) := fun W => nearLess_c _ _ W hx ba
  have SD : Hid (∀ W, Calls Tryz.prog 64 #[.int .u64 y, .int .u64 (sb (ad x y) (sb (ad x y) y))] W (DC.RetB W (.int .u64 (sb y (sb (ad x y) (sb (ad x y) y)))))) := fun W => nearLess_c _ _ W hy bb
  have SR : Hid (∀ W, Calls Tryz.prog 63 #[.int .u64 (sb x (sb (ad x y) y)), .int .u64 (sb y (sb (ad x y) (sb (ad x y) y)))] W (DC.RetB W (.int .u64 (ad (sb x (sb (ad x y) y)) (sb y (sb (ad x y) (sb (ad x y) y))))))) := fun W => nearSum_c _ _ W bc bd
  have SE : Hid (∀ W, Calls Tryz.prog 64 #[.int .u64 (ad x y), .int .u64 x] W (DC.RetB W (.int .u64 (sb (ad x y) x)))) := fun W => nearLess_c _ _ W bs hx
  have SF : Hid (∀ W, Calls Tryz.prog 64 #[.int .u64 y, .int .u64 (sb (ad x y) x)] W (DC.RetB W (.int .u64 (sb y (sb (ad x y) x))))) := fun W => nearLess_c _ _ W hy bf
  generalize ad (sb x (sb (ad x y) y)) (sb y (sb (ad x y) (sb (ad x y) y))) = r at *
  generalize sb y (sb (ad x y) (sb (ad x y) y)) = d at *
  generalize sb x (sb (ad x y) y) = c at *
  generalize sb (ad x y) (sb (ad x y) y) = b at *
  generalize sb (ad x y) y = a at *
  generalize sb y (sb (ad x y) x) = f at *
  generalize sb (ad x y) x = g at *
  generalize ad x y = s at *
  clear hx hy bs ba bb bc bd bf
  go_enter Tryz.func41, Tryz.ntmps41
  go_wp2_with (first
    | (go_at_call 63; (with_reducible refine (S0.out _).mono ?_); rintro e w1 ⟨rfl, hb⟩; have D := Lib.hid (D.out.trans (hb.mono D.out.size)); clear hb)
    | (go_at_call 64; (with_reducible refine (SA.out _).mono ?_); rintro e w2 ⟨rfl, hb⟩; have D := Lib.hid (D.out.trans (hb.mono D.out.size)); clear hb)
    | (go_at_call 64; (with_reducible refine (SB.out _).mono ?_); rintro e w3 ⟨rfl, hb⟩; have D := Lib.hid (D.out.trans (hb.mono D.out.size)); clear hb)
    | (go_at_call 64; (with_reducible refine (SC'.out _).mono ?_); rintro e w4 ⟨rfl, hb⟩; have D := Lib.hid (D.out.trans (hb.mono D.out.size)); clear hb)
    | (go_at_call 64; (with_reducible refine (SD.out _).mono ?_); rintro e w5 ⟨rfl, hb⟩; have D := Lib.hid (D.out.trans (hb.mono D.out.size)); clear hb)
    | (go_at_call 63; (with_reducible refine (SR.out _).mono ?_); rintro e w6 ⟨rfl, hb⟩; have D := Lib.hid (D.out.trans (hb.mono D.out.size)); clear hb)
    | (go_at_call 64; (with_reducible refine (SE.out _).mono ?_); rintro e w7 ⟨rfl, hb⟩; have D := Lib.hid (D.out.trans (hb.mono D.out.size)); clear hb)
    | (go_at_call 64; (with_reducible refine (SF.out _).mono ?_); rintro e w8 ⟨rfl, hb⟩; have D := Lib.hid (D.out.trans (hb.mono D.out.size)); clear hb))
  go_ret3
  exact ⟨rfl, D.out⟩
end GC
end Go.Proofs.YtelblhgagpkjmaaGreatDoor
