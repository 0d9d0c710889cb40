/-
  ExactZero: the walk.
-/
import Derived.Test.YtejglcpiihkenaaDoorE19
namespace Go.Proofs.YtejglcpiihkenaaDoor
set_option linter.unusedVariables false
set_option linter.unusedSimpArgs false
open Go.RowKit
set_option linter.unusedVariables false
set_option linter.unusedSimpArgs false
namespace XC
open L NC NK DC RC SC PC QC IC
open Z (cmpv)
set_option maxRecDepth 100000 in
set_option maxHeartbeats 16000000 in
theorem zeroX_c (x : Int) (w : World) (hx : 0 ≤ x ∧ x ≤ 18446744073709551615) (hT : TabD w) :
    Calls Tryd.prog 7 #[.int .u64 x] w fun e w' => e = .returned (.bool true) ∧ Below w.heap.size w w' := by
  have HT : Hid (∀ W : World, Below w.heap.size w W → TabD W) := fun W hW => hT.below hW
  have D := Lib.hid (Below.refl w.heap.size w)
  have LIV : Hid (∀ W : World, Below w.heap.size w W → Calls Tryd.prog 10 #[] W fun e w' => e = .returned (.bool true) ∧ Below W.heap.size W w') := fun W hW => livesX_c W (HT.out W hW)
  have TS : Hid (∀ W, Below w.heap.size w W → Calls Tryd.prog 8 #[.int .u64 x, .int .u64 0] W (DC.RetB W (T2v (T2 x 0)))) := fun W hW => TwoSum_c x 0 W hx (by omega) (HT.out W hW)
  have TP : Hid (∀ W, Below w.heap.size w W → Calls Tryd.prog 19 #[.int .u64 x, .int .u64 4607182418800017408] W (DC.RetB W (T2v (P2 x 4607182418800017408)))) := fun W hW => TwoProd_c x _ W hx (by omega) (HT.out W hW)
  by_cases hf : F.exq x = 2047
  · have e1 : T2 x 0 = (0, 0, 4) := by unfold T2; rw [if_pos (.inl hf)]
    have e2 : P2 x 4607182418800017408 = (0, 0, 4) := by unfold P2; rw [if_pos (.inl hf)]
    rw [e1] at TS
    rw [e2] at TP
    have O2 : Hid (∀ W : World, Calls Tryd.prog 15 #[.slice (some ⟨W.heap.size, 0, none⟩) 2 2] (W.alloc (.cells #[.int .i64 4, .int .i64 4] 23)) fun e w' => e = .returned (.bool false) ∧ W.alloc (.cells #[.int .i64 4, .int .i64 4] 23) = w') := fun W => RC.ok2' W 4 4 false rfl
    unfold T2v at TS TP
    dsimp only at TS TP
    clear e1 e2 hf hx hT
    go_enter Tryd.func7, Tryd.ntmps7
    go_wp2_with (first
      | (go_at_call 8; (with_reducible refine (TS.out _ D.out).mono ?_); rintro e w1 ⟨rfl, hb⟩; have D := Lib.hid (D.out.trans (hb.mono D.out.size)); clear hb)
      | (go_at_call 19; (with_reducible refine (TP.out _ D.out).mono ?_); rintro e w2 ⟨rfl, hb⟩; have D := Lib.hid (D.out.trans (hb.mono D.out.size)); clear hb)
      | (go_at_call 10; (with_reducible refine (LIV.out _ D.out).mono ?_); rintro e w3 ⟨rfl, hb⟩; have D := Lib.hid (D.out.trans (hb.mono D.out.size)); clear hb)
      | (go_at_call 15; (with_reducible refine (O2.out w3).mono ?_); rintro e w4 ⟨rfl, hw⟩; have s := al1 w3 (.cells #[.int .i64 4, .int .i64 4] 23); rw [hw] at s; clear hw; have D := Lib.hid (D.out.trans (s.mono D.out.size)); clear s))
    go_ret
    exact ⟨rfl, D.out⟩
  · have fx : fi x := ⟨hx.1, hx.2, hf⟩
    obtain ⟨s, r, e1, hs, hr⟩ := zero_sum fx
    obtain ⟨q, e2, hq⟩ := zero_prod fx rfl
    have b1 := T2_bd hx (show 0 ≤ (0 : Int) ∧ (0 : Int) ≤ 18446744073709551615 by omega)
    rw [e1] at TS b1
    rw [e2] at TP
    have bq : 0 ≤ q ∧ q ≤ 18446744073709551615 := by
      have bp := MT_bd 0 hx (show 0 ≤ (4607182418800017408 : Int) ∧ (4607182418800017408 : Int) ≤ 18446744073709551615 by omega)
      have bf := FT_bd (z := F.neg (MT x 4607182418800017408 0).1) 0 hx (show 0 ≤ (4607182418800017408 : Int) ∧ (4607182418800017408 : Int) ≤ 18446744073709551615 by omega) (F.neg_bd _ bp.1 bp.2)
      unfold P2 at e2
      split at e2
      · have := congrArg (fun t => t.2.1) e2; simp at this; omega
      · split at e2
        · have := congrArg (fun t => t.2.1) e2; simp at this; omega
        · have := congrArg (fun t => t.2.1) e2; simp at this; rw [← this]; exact bf
    have O2 : Hid (∀ W : World, Calls Tryd.prog 15 #[.slice (some ⟨W.heap.size, 0, none⟩) 2 2] (W.alloc (.cells #[.int .i64 0, .int .i64 0] 23)) fun e w' => e = .returned (.bool true) ∧ W.alloc (.cells #[.int .i64 0, .int .i64 0] 23) = w') := fun W => RC.ok2' W 0 0 true rfl
    have KR : Hid (∀ W : World, Calls Tryd.prog 18 #[.int .u64 r] W fun e w' => e = .returned (.int .i64 1) ∧ W = w') := fun W => by
      have := FloatC.Class_c r b1.2.1 b1.2.2 W
      rwa [hr] at this
    have KQ : Hid (∀ W : World, Calls Tryd.prog 18 #[.int .u64 q] W fun e w' => e = .returned (.int .i64 1) ∧ W = w') := fun W => by
      have := FloatC.Class_c q bq.1 bq.2 W
      rwa [hq] at this
    have hs : s = x ∨ ((s == x) = false ∧ x = 9223372036854775808) := by
      by_cases h : s = x
      · exact .inl h
      · exact .inr ⟨by simp [h], hs.resolve_left h⟩
    have sx : (x == x) = true := by simp
    unfold T2v at TS TP
    dsimp only at TS TP
    clear e1 e2 hf hx hT fx hr hq b1 bq
    rcases hs with rfl | ⟨h1, rfl⟩
    all_goals (
      go_enter Tryd.func7, Tryd.ntmps7
      go_wp2_with (first
        | (go_at_call 8; (with_reducible refine (TS.out _ D.out).mono ?_); rintro e w1 ⟨rfl, hb⟩; have D := Lib.hid (D.out.trans (hb.mono D.out.size)); clear hb)
        | (go_at_call 19; (with_reducible refine (TP.out _ D.out).mono ?_); rintro e w2 ⟨rfl, hb⟩; have D := Lib.hid (D.out.trans (hb.mono D.out.size)); clear hb)
        | (go_at_call 10; (with_reducible refine (LIV.out _ D.out).mono ?_); rintro e w3 ⟨rfl, hb⟩; have D := Lib.hid (D.out.trans (hb.mono D.out.size)); clear hb)
        | (go_at_call 15; (with_reducible refine (O2.out w3).mono ?_); rintro e w4 ⟨rfl, hw⟩; have s := al1 w3 (.cells #[.int .i64 0, .int .i64 0] 23); rw [hw] at s; clear hw; have D := Lib.hid (D.out.trans (s.mono D.out.size)); clear s)
        | (go_at_call 18; (with_reducible refine (KR.out _).mono ?_); rintro e w5 ⟨rfl, rfl⟩)
        | (go_at_call 18; (with_reducible refine (KQ.out _).mono ?_); rintro e w6 ⟨rfl, rfl⟩))
      go_ret
      exact ⟨rfl, D.out⟩)
end XC
end Go.Proofs.YtejglcpiihkenaaDoor
