/-
  GrowSides: the walk.
-/
import Derived.Test.YtelblhgagpkjmaaDoorXG9
namespace Go.Proofs.YtelblhgagpkjmaaDoor
set_option linter.unusedVariables false
set_option linter.unusedSimpArgs false
open Go.RowKit
set_option linter.unusedVariables false
set_option linter.unusedSimpArgs false
namespace XC
open L NC NK DC RC SC PC QC IC
open Z (cmpv)
set_option maxRecDepth 100000 in
set_option maxHeartbeats 16000000 in
theorem sidesG_c (ax ay bx b_y cx cy : Int) (w : World) (hu : u64s [ax, ay, bx, b_y, cx, cy]) (hT : TabD w) :
    Calls Tryd.prog 7 #[.int .u64 ax, .int .u64 ay, .int .u64 bx, .int .u64 b_y, .int .u64 cx, .int .u64 cy] w fun e w' => e = .returned (.bool true) ∧ Below w.heap.size w w' := by
  have HT : Hid (∀ W : World, Below w.heap.size w W → TabD W) := fun W hW => hT.below hW
  have D := Lib.hid (Below.refl w.heap.size w)
  have LIV : Hid (∀ W : World, Below w.heap.size w W → Calls Tryd.prog 20 #[] W fun e w' => e = .returned (.bool true) ∧ Below W.heap.size W w') := fun W hW => livesG_c W (HT.out W hW)
  obtain ⟨u1, u2, u3, u4, u5, u6⟩ : (0 ≤ ax ∧ ax ≤ 18446744073709551615) ∧ (0 ≤ ay ∧ ay ≤ 18446744073709551615) ∧ (0 ≤ bx ∧ bx ≤ 18446744073709551615) ∧ (0 ≤ b_y ∧ b_y ≤ 18446744073709551615) ∧ (0 ≤ cx ∧ cx ≤ 18446744073709551615) ∧ (0 ≤ cy ∧ cy ≤ 18446744073709551615) := ⟨hu _ (by simp), hu _ (by simp), hu _ (by simp), hu _ (by simp), hu _ (by simp), hu _ (by simp)⟩
  have v1 := F.neg_bd ax u1.1 u1.2
  have v2 := F.neg_bd ay u2.1 u2.2
  have v3 := F.neg_bd bx u3.1 u3.2
  have v4 := F.neg_bd b_y u4.1 u4.2
  have v5 := F.neg_bd cx u5.1 u5.2
  have v6 := F.neg_bd cy u6.1 u6.2
  have T1 : Hid (∀ W : World, Below w.heap.size w W → Calls Tryd.prog 8 #[.int .u64 ax, .int .u64 ay, .int .u64 bx, .int .u64 b_y, .int .u64 cx, .int .u64 cy] W (DC.RetB W (.tuple #[.int .i64 (gTu ax ay bx b_y cx cy).1, .int .i64 (gTu ax ay bx b_y cx cy).2]))) := fun W hW => Turn_g ax ay bx b_y cx cy W (by intro z hz; simp at hz; grind) (HT.out W hW)
  have T2' : Hid (∀ W : World, Below w.heap.size w W → Calls Tryd.prog 8 #[.int .u64 bx, .int .u64 b_y, .int .u64 ax, .int .u64 ay, .int .u64 cx, .int .u64 cy] W (DC.RetB W (.tuple #[.int .i64 (gTu bx b_y ax ay cx cy).1, .int .i64 (gTu bx b_y ax ay cx cy).2]))) := fun W hW => Turn_g bx b_y ax ay cx cy W (by intro z hz; simp at hz; grind) (HT.out W hW)
  have T3 : Hid (∀ W : World, Below w.heap.size w W → Calls Tryd.prog 8 #[.int .u64 bx, .int .u64 b_y, .int .u64 cx, .int .u64 cy, .int .u64 ax, .int .u64 ay] W (DC.RetB W (.tuple #[.int .i64 (gTu bx b_y cx cy ax ay).1, .int .i64 (gTu bx b_y cx cy ax ay).2]))) := fun W hW => Turn_g bx b_y cx cy ax ay W (by intro z hz; simp at hz; grind) (HT.out W hW)
  have T4 : Hid (∀ W : World, Below w.heap.size w W → Calls Tryd.prog 8 #[.int .u64 ax, .int .u64 ay, .int .u64 ax, .int .u64 ay, .int .u64 cx, .int .u64 cy] W (DC.RetB W (.tuple #[.int .i64 (gTu ax ay ax ay cx cy).1, .int .i64 (gTu ax ay ax ay cx cy).2]))) := fun W hW => Turn_g ax ay ax ay cx cy W (by intro z hz; simp at hz; grind) (HT.out W hW)
  have T5 : Hid (∀ W : World, Below w.heap.size w W → Calls Tryd.prog 8 #[.int .u64 (F.neg ax), .int .u64 (F.neg ay), .int .u64 (F.neg bx), .int .u64 (F.neg b_y), .int .u64 (F.neg cx), .int .u64 (F.neg cy)] W (DC.RetB W (.tuple #[.int .i64 (gTu (F.neg ax) (F.neg ay) (F.neg bx) (F.neg b_y) (F.neg cx) (F.neg cy)).1, .int .i64 (gTu (F.neg ax) (F.neg ay) (F.neg bx) (F.neg b_y) (F.neg cx) (F.neg cy)).2]))) := fun W hW => Turn_g (F.neg ax) (F.neg ay) (F.neg bx) (F.neg b_y) (F.neg cx) (F.neg cy) W (by intro z hz; simp at hz; grind) (HT.out W hW)
  have N1 : Hid (∀ W : World, Calls Tryd.prog 28 #[.int .u64 ax] W fun e w' => e = .returned (.int .u64 (F.neg ax)) ∧ W = w') := fun W => FloatC.Neg_c ax u1.1 u1.2 W
  have N2 : Hid (∀ W : World, Calls Tryd.prog 28 #[.int .u64 ay] W fun e w' => e = .returned (.int .u64 (F.neg ay)) ∧ W = w') := fun W => FloatC.Neg_c ay u2.1 u2.2 W
  have N3 : Hid (∀ W : World, Calls Tryd.prog 28 #[.int .u64 bx] W fun e w' => e = .returned (.int .u64 (F.neg bx)) ∧ W = w') := fun W => FloatC.Neg_c bx u3.1 u3.2 W
  have N4 : Hid (∀ W : World, Calls Tryd.prog 28 #[.int .u64 b_y] W fun e w' => e = .returned (.int .u64 (F.neg b_y)) ∧ W = w') := fun W => FloatC.Neg_c b_y u4.1 u4.2 W
  have N5 : Hid (∀ W : World, Calls Tryd.prog 28 #[.int .u64 cx] W fun e w' => e = .returned (.int .u64 (F.neg cx)) ∧ W = w') := fun W => FloatC.Neg_c cx u5.1 u5.2 W
  have N6 : Hid (∀ W : World, Calls Tryd.prog 28 #[.int .u64 cy] W fun e w' => e = .returned (.int .u64 (F.neg cy)) ∧ W = w') := fun W => FloatC.Neg_c cy u6.1 u6.2 W
  obtain ⟨s1, s2⟩ := gsides hu
  by_cases h : (gTu ax ay bx b_y cx cy).2 = 0
  · obtain ⟨n, hn, e1, e2, e3, e4, e5⟩ := s2 h
    rw [e1] at T1
    rw [e2] at T2'
    rw [e3] at T3
    rw [e4] at T4
    rw [e5] at T5
    have O4 : Hid (∀ W : World, Calls Tryd.prog 22 #[.slice (some ⟨W.heap.size, 0, none⟩) 4 4] (W.alloc (.cells #[.int .i64 0, .int .i64 0, .int .i64 0, .int .i64 0] 23)) fun e w' => e = .returned (.bool true) ∧ W.alloc (.cells #[.int .i64 0, .int .i64 0, .int .i64 0, .int .i64 0] 23) = w') := fun W => okn W [0, 0, 0, 0] (by simp) rfl
    generalize F.neg ax = nax at *
    generalize F.neg ay = nay at *
    generalize F.neg bx = nbx at *
    generalize F.neg b_y = nb_y at *
    generalize F.neg cx = ncx at *
    generalize F.neg cy = ncy at *
    clear s1 s2 h e1 e2 e3 e4 e5 hu u1 u2 u3 u4 u5 u6 v1 v2 v3 v4 v5 v6 hT
    rcases hn with rfl | rfl | rfl
    all_goals (
      go_enter Tryd.func7, Tryd.ntmps7
      go_wp2_with (first
        | (go_at_call 8; (with_reducible refine (T1.out _ D.out).mono ?_); rintro e w1 ⟨rfl, hb⟩; have D := Lib.hid (D.out.trans (hb.mono D.out.size)); clear hb)
        | (go_at_call 8; (with_reducible refine (T2'.out _ D.out).mono ?_); rintro e w2 ⟨rfl, hb⟩; have D := Lib.hid (D.out.trans (hb.mono D.out.size)); clear hb)
        | (go_at_call 8; (with_reducible refine (T3.out _ D.out).mono ?_); rintro e w3 ⟨rfl, hb⟩; have D := Lib.hid (D.out.trans (hb.mono D.out.size)); clear hb)
        | (go_at_call 8; (with_reducible refine (T4.out _ D.out).mono ?_); rintro e w4 ⟨rfl, hb⟩; have D := Lib.hid (D.out.trans (hb.mono D.out.size)); clear hb)
        | (go_at_call 20; (with_reducible refine (LIV.out _ D.out).mono ?_); rintro e w5 ⟨rfl, hb⟩; have D := Lib.hid (D.out.trans (hb.mono D.out.size)); clear hb)
        | (go_at_call 28; (with_reducible refine (N1.out _).mono ?_); rintro e w6 ⟨rfl, rfl⟩)
        | (go_at_call 28; (with_reducible refine (N2.out _).mono ?_); rintro e w7 ⟨rfl, rfl⟩)
        | (go_at_call 28; (with_reducible refine (N3.out _).mono ?_); rintro e w8 ⟨rfl, rfl⟩)
        | (go_at_call 28; (with_reducible refine (N4.out _).mono ?_); rintro e w9 ⟨rfl, rfl⟩)
        | (go_at_call 28; (with_reducible refine (N5.out _).mono ?_); rintro e w10 ⟨rfl, rfl⟩)
        | (go_at_call 28; (with_reducible refine (N6.out _).mono ?_); rintro e w11 ⟨rfl, rfl⟩)
        | (go_at_call 8; (with_reducible refine (T5.out _ D.out).mono ?_); rintro e w12 ⟨rfl, hb⟩; have D := Lib.hid (D.out.trans (hb.mono D.out.size)); clear hb)
        | (go_at_call 22; (with_reducible refine (O4.out w12).mono ?_); rintro e w13 ⟨rfl, hw⟩; have s := al1 w12 (.cells #[.int .i64 0, .int .i64 0, .int .i64 0, .int .i64 0] 23); rw [hw] at s; clear hw; have D := Lib.hid (D.out.trans (s.mono D.out.size)); clear s))
      go_ret
      exact ⟨rfl, D.out⟩)
  · obtain ⟨q1, q2⟩ := s1 h
    rw [q1] at T2'
    rw [q2] at T3
    have k : ((gTu ax ay bx b_y cx cy).2 != 0) = true := by simpa using h
    generalize (gTu ax ay bx b_y cx cy).2 = er at *
    generalize (gTu ax ay bx b_y cx cy).1 = n1 at *
    generalize (gTu bx b_y ax ay cx cy).1 = n2 at *
    generalize (gTu bx b_y cx cy ax ay).1 = n3 at *
    generalize gTu ax ay ax ay cx cy = r4 at *
    clear s1 s2 h q1 q2 hu u1 u2 u3 u4 u5 u6 v1 v2 v3 v4 v5 v6 hT T5 N1 N2 N3 N4 N5 N6
    go_enter Tryd.func7, Tryd.ntmps7
    go_wp2_with (first
      | (go_at_call 8; (with_reducible refine (T1.out _ D.out).mono ?_); rintro e w1 ⟨rfl, hb⟩; have D := Lib.hid (D.out.trans (hb.mono D.out.size)); clear hb)
      | (go_at_call 8; (with_reducible refine (T2'.out _ D.out).mono ?_); rintro e w2 ⟨rfl, hb⟩; have D := Lib.hid (D.out.trans (hb.mono D.out.size)); clear hb)
      | (go_at_call 8; (with_reducible refine (T3.out _ D.out).mono ?_); rintro e w3 ⟨rfl, hb⟩; have D := Lib.hid (D.out.trans (hb.mono D.out.size)); clear hb)
      | (go_at_call 8; (with_reducible refine (T4.out _ D.out).mono ?_); rintro e w4 ⟨rfl, hb⟩; have D := Lib.hid (D.out.trans (hb.mono D.out.size)); clear hb)
      | (go_at_call 20; (with_reducible refine (LIV.out _ D.out).mono ?_); rintro e w5 ⟨rfl, hb⟩; have D := Lib.hid (D.out.trans (hb.mono D.out.size)); clear hb))
    go_ret
    exact ⟨rfl, D.out⟩
end XC
end Go.Proofs.YtelblhgagpkjmaaDoor
