/-
  ExactSplits: the walk.
-/
import Derived.Test.YtejglcpiihkenaaGreatDoorF23
import Derived.Test.YtejglcpiihkenaaGreatDoorF22
namespace Go.Proofs.YtejglcpiihkenaaGreatDoor
set_option linter.unusedVariables false
set_option linter.unusedSimpArgs false
open Go.RowKit
set_option linter.unusedVariables false
set_option linter.unusedSimpArgs false
namespace XC
open Z (Nz Tz cmpv big)
open ZC DC RC QC SC VC PC
theorem SumOf2_c (x y : Int) (w : World) (hx : 0 ≤ x ∧ x ≤ 18446744073709551615) (hy : 0 ≤ y ∧ y ≤ 18446744073709551615) : Calls Tryz.prog 19 #[.slice (some ⟨w.heap.size, 0, none⟩) 2 2, .int .i64 0] (w.alloc (.cells #[.int .u64 x, .int .u64 y] 22)) fun e w' => ∃ l, e = .returned (.tuple #[.int .u64 (ad x y), .bool l]) ∧ Below w.heap.size w w' := by
  have D0 := al1 w (.cells #[.int .u64 x, .int .u64 y] 22)
  have hs : Sl .u64 (w.alloc (.cells #[.int .u64 x, .int .u64 y] 22)) (.slice (some ⟨w.heap.size, 0, none⟩) 2 2) [x, y] := Row.sl (L := [x, y]) (Blk.new w 22 #[.int .u64 x, .int .u64 y]) 2 (by simp)
  have e : (VC.SO [x, y] 0).1 = ad x y := by
    unfold ad
    rw [SO_AT (by omega) (by simp) (u2 hx hy)]
  refine (SumOf_c _ 2 2 [x, y] 0 _ hs (u2 hx hy) (by simp) (by omega)).mono ?_
  rintro en w' ⟨rfl, hb⟩
  exact ⟨_, by rw [e], D0.trans (hb.mono D0.size)⟩
set_option maxRecDepth 100000 in
set_option maxHeartbeats 16000000 in
theorem splitsX_c (x bits : Int) (w : World) (hx : 0 ≤ x ∧ x ≤ 18446744073709551615) (hb : -9223372036854775808 ≤ bits ∧ bits ≤ 9223372036854775807) (hT : NC.TabD w) :
    Calls Tryz.prog 4 #[.int .u64 x, .int .i64 bits] w fun e w' => e = .returned (.bool true) ∧ Below w.heap.size w w' := by
  have D := Lib.hid (Below.refl w.heap.size w)
  have SP := Lib.hid (Split_c x bits w hx hb hT)
  have HX : Hid (∀ W, Calls Tryz.prog 8 #[.int .u64 x] W (fun e w' => e = .returned (.bool (!decide (F.exq x = 2047))) ∧ W = w')) := fun W => HasVal_c x W hx
  by_cases h1 : F.exq x = 2047
  · have e : SPt x bits = (0, 0, 4) := by unfold SPt; rw [if_pos h1]
    rw [e] at SP
    rw [decide_eq_true h1] at HX
    unfold T2v at SP
    dsimp only at SP
    clear e h1 hx hb hT
    go_enter Tryz.func4, Tryz.ntmps4
    go_wp2_with (first
      | (go_at_call 14; (with_reducible refine (SP.out).mono ?_); rintro e w1 ⟨rfl, hb⟩; have D := Lib.hid (D.out.trans (hb.mono D.out.size)); clear hb)
      | (go_at_call 8; (with_reducible refine (HX.out _).mono ?_); rintro e w2 ⟨rfl, rfl⟩))
    go_ret
    exact ⟨rfl, D.out⟩
  · have fx : fi x := ⟨hx.1, hx.2, h1⟩
    rw [decide_eq_false h1] at HX
    by_cases h2 : 1 ≤ bits ∧ bits ≤ 52
    · have BT : Hid (∀ W, Calls Tryz.prog 15 #[.int .i64 bits, .int .i64 1, .int .i64 52] W fun e w' => e = .returned (.bool true) ∧ W = w') := fun W => FloatR.Between_t bits 1 52 h2.1 h2.2 W
      have IZ : Hid (∀ W, Calls Tryz.prog 16 #[.int .u64 x] W fun e w' => e = .returned (.bool (F.cls x == 1)) ∧ W = w') := fun W => IsZero_c x hx.1 hx.2 W
      obtain ⟨h, hh⟩ : ∃ h, h = (if (OfD x).d.m = 0 then x else hx' x bits) := ⟨_, rfl⟩
      have e : SPt x bits = (h, sb x h, 0) := by
        rw [hh]
        unfold SPt hx'
        rw [if_neg h1, if_neg (fun k => k h2)]
        split <;> rfl
      have fh : 0 ≤ h ∧ h ≤ 18446744073709551615 := by
        rw [hh]
        by_cases h0 : (OfD x).d.m = 0
        · rw [if_pos h0]; exact hx
        · rw [if_neg h0]
          obtain ⟨t1, t2, t3, t4⟩ := top_p fx h0
          obtain ⟨-, -, k, -⟩ := trunc_p (p := topx x + 1 - bits) fx (by omega) rfl
          exact ⟨k.1, k.2.1⟩
      have MI : Hid (∀ W : World, Calls Tryz.prog 13 #[.int .u64 h] W fun e w' => e = .returned (.bool (F.sgn h)) ∧ W = w') := fun W => Minus_v _ W
      have SG : Hid (∀ W : World, Calls Tryz.prog 12 #[.int .u64 (h % 9223372036854775808), .bool (!F.sgn h)] W fun e w' => e = .returned (.int .u64 (F.neg h)) ∧ W = w') := fun W => Signed_v _ W fh
      have SO : Hid (∀ W : World, Calls Tryz.prog 19 #[.slice (some ⟨W.heap.size, 0, none⟩) 2 2, .int .i64 0] (W.alloc (.cells #[.int .u64 x, .int .u64 (F.neg h)] 22)) fun e w' => ∃ l, e = .returned (.tuple #[.int .u64 (sb x h), .bool l]) ∧ Below W.heap.size W w') := fun W => SumOf2_c x (F.neg h) W hx (F.neg_bd _ fh.1 fh.2)
      have tm : h.tmod 9223372036854775808 = h % 9223372036854775808 := Int.tmod_eq_emod_of_nonneg fh.1
      have bm2 : 0 ≤ h % 9223372036854775808 ∧ h % 9223372036854775808 < 9223372036854775808 := by omega
      rw [e] at SP
      unfold T2v at SP
      dsimp only at SP
      by_cases h0 : (OfD x).d.m = 0
      · have hz : (F.cls x == 1) = true := by
          have := (val0 fx).1 (S_m.1 h0)
          simp [this]
        rw [hz] at IZ
        rw [if_pos h0] at hh
        subst hh
        generalize F.sgn h = sm at *
        generalize F.neg h = nh at *
        generalize sb h h = r at *
        generalize h % 9223372036854775808 = mm at *
        clear e h1 hx hb hT fh fx h2 h0 hz
        go_enter Tryz.func4, Tryz.ntmps4
        go_wp2_with (first
          | (go_at_call 14; (with_reducible refine (SP.out).mono ?_); rintro e w1 ⟨rfl, hb⟩; have D := Lib.hid (D.out.trans (hb.mono D.out.size)); clear hb)
          | (go_at_call 8; (with_reducible refine (HX.out _).mono ?_); rintro e w2 ⟨rfl, rfl⟩)
          | (go_at_call 15; (with_reducible refine (BT.out _).mono ?_); rintro e w3 ⟨rfl, rfl⟩)
          | (go_at_call 16; (with_reducible refine (IZ.out _).mono ?_); rintro e w4 ⟨rfl, rfl⟩)
          | (go_at_call 13; (with_reducible refine (MI.out _).mono ?_); rintro e w5 ⟨rfl, rfl⟩)
          | (go_at_call 12; (with_reducible refine (SG.out _).mono ?_); rintro e w6 ⟨rfl, rfl⟩)
          | (go_at_call 19; (with_reducible refine (SO.out _).mono ?_); rintro e w7 ⟨l, rfl, hb⟩; have D := Lib.hid (D.out.trans (hb.mono D.out.size)); clear hb))
        go_ret
        exact ⟨rfl, D.out⟩
      · have hz : (F.cls x == 1) = false := by
          have : F.cls x ≠ 1 := fun k => h0 (S_m.2 ((val0 fx).2 k))
          simp [this]
        rw [hz] at IZ
        rw [if_neg h0] at hh
        obtain ⟨t1, t2, t3, t4⟩ := top_p fx h0
        obtain ⟨-, c2, -, -⟩ := trunc_p (p := topx x + 1 - bits) fx (by omega) rfl
        have te := trunc_e (p := topx x + 1 - bits) fx (by omega) rfl
        obtain ⟨M, hM⟩ : ∃ M : Nat, M = 2400 := ⟨_, rfl⟩
        have HB : Hid (∀ W, Calls Tryz.prog 18 #[.int .u64 x, .int .i64 bits] W (RetHb M W (S (CR (OfD x).d (topx x + 1 - bits) 3).d))) := fun W => by
          rw [te]
          exact HighBits_c hM x bits W fx h0 h2
        have RO : Hid (∀ (W : World) (u : Value), QS M 1200 W u (S (CR (OfD x).d (topx x + 1 - bits) 3).d) → Calls Tryz.prog 17 #[u, .int .i64 0, .int .i64 0] W fun e w' => ∃ l, e = .returned (.tuple #[.int .u64 h, .bool l]) ∧ Below W.heap.size W w') := fun W u hq => by
          refine (Rounded_t hq (by omega) (by omega) c2 (mode := 0) (by omega)).mono ?_
          rintro en w' ⟨rfl, hb⟩
          exact ⟨_, by rw [hh]; rfl, hb⟩
        generalize S (CR (OfD x).d (topx x + 1 - bits) 3).d = s at *
        generalize F.sgn h = sm at *
        generalize F.neg h = nh at *
        generalize sb x h = r at *
        generalize h % 9223372036854775808 = mm at *
        clear e h1 hx hb hT fh fx h2 h0 hz hh t1 t2 t3 t4 c2 te hM
        go_enter Tryz.func4, Tryz.ntmps4
        go_wp2_with (first
          | (go_at_call 14; (with_reducible refine (SP.out).mono ?_); rintro e w1 ⟨rfl, hb⟩; have D := Lib.hid (D.out.trans (hb.mono D.out.size)); clear hb)
          | (go_at_call 8; (with_reducible refine (HX.out _).mono ?_); rintro e w2 ⟨rfl, rfl⟩)
          | (go_at_call 15; (with_reducible refine (BT.out _).mono ?_); rintro e w3 ⟨rfl, rfl⟩)
          | (go_at_call 16; (with_reducible refine (IZ.out _).mono ?_); rintro e w4 ⟨rfl, rfl⟩)
          | (go_at_call 18; (with_reducible refine (HB.out _).mono ?_); rintro e w8 ⟨b8, A8, n8, c8, t8, rfl, hq, hb⟩; have Q8 := Lib.hid hq; have D := Lib.hid (D.out.trans (hb.mono D.out.size)); clear hb hq)
          | (go_at_call 17; (with_reducible refine (RO.out _ _ Q8.out).mono ?_); rintro e w9 ⟨l9, rfl, hb⟩; have D := Lib.hid (D.out.trans (hb.mono D.out.size)); clear hb)
          | (go_at_call 13; (with_reducible refine (MI.out _).mono ?_); rintro e w5 ⟨rfl, rfl⟩)
          | (go_at_call 12; (with_reducible refine (SG.out _).mono ?_); rintro e w6 ⟨rfl, rfl⟩)
          | (go_at_call 19; (with_reducible refine (SO.out _).mono ?_); rintro e w7 ⟨l, rfl, hb⟩; have D := Lib.hid (D.out.trans (hb.mono D.out.size)); clear hb))
        go_ret
        exact ⟨rfl, D.out⟩
    · have BF : Hid (∀ W, Calls Tryz.prog 15 #[.int .i64 bits, .int .i64 1, .int .i64 52] W fun e w' => e = .returned (.bool false) ∧ W = w') := fun W => FloatR.Between_f bits 1 52 (by omega) W
      have e : SPt x bits = (0, 0, 1) := by unfold SPt; rw [if_neg h1, if_pos h2]
      rw [e] at SP
      unfold T2v at SP
      dsimp only at SP
      clear e h1 hx hb hT fx h2
      go_enter Tryz.func4, Tryz.ntmps4
      go_wp2_with (first
        | (go_at_call 14; (with_reducible refine (SP.out).mono ?_); rintro e w1 ⟨rfl, hb⟩; have D := Lib.hid (D.out.trans (hb.mono D.out.size)); clear hb)
        | (go_at_call 8; (with_reducible refine (HX.out _).mono ?_); rintro e w2 ⟨rfl, rfl⟩)
        | (go_at_call 15; (with_reducible refine (BF.out _).mono ?_); rintro e w3 ⟨rfl, rfl⟩))
      go_ret
      exact ⟨rfl, D.out⟩
end XC
end Go.Proofs.YtejglcpiihkenaaGreatDoor
