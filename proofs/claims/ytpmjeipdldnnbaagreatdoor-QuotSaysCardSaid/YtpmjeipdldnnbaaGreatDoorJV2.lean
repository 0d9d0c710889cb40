/-
  QuotSays: the walk.
-/
import Derived.Test.YtpmjeipdldnnbaaGreatDoorJ20
import Derived.Test.YtpmjeipdldnnbaaGreatDoorJ17
namespace Go.Proofs.YtpmjeipdldnnbaaGreatDoor
set_option linter.unusedVariables false
set_option linter.unusedSimpArgs false
open Go.RowKit
set_option linter.unusedVariables false
set_option linter.unusedSimpArgs false
namespace JC
open Z (Nz Tz cmpv big)
open ZC DC RC QC SC VC PC
theorem told_badJ (mode : Int) (F : Value) (w : World) (hm : mode < 0 ∨ 4 < mode) : Calls Tryz.prog 6 #[.int .u64 0, .bool false, .int .i64 1, .int .i64 mode, F] w fun e w' => e = .returned (.bool true) ∧ w = w' := by
  have BT := Lib.hid (FloatR.Between_f mode 0 4 hm w)
  clear hm
  go_enter Tryz.func6, Tryz.ntmps6
  go_wp2_with (go_at_call 20; (with_reducible refine (BT.out).mono ?_); rintro e w1 ⟨rfl, rfl⟩)
  go_ret
  exact ⟨rfl, rfl⟩
theorem cloJ1 (x y mode : Int) (g h i : Nat) (w : World) (hx : 0 ≤ x ∧ x ≤ 18446744073709551615) (hy : 0 ≤ y ∧ y ≤ 18446744073709551615) (hm : 0 ≤ mode ∧ mode ≤ 4)
    (c0 : w.cell? ⟨g, 0, none⟩ = some (.int .u64 x)) (c1 : w.cell? ⟨h, 0, none⟩ = some (.int .u64 y)) (c2 : w.cell? ⟨i, 0, none⟩ = some (.int .i64 mode)) :
    Calls Tryz.prog 7 #[.pointer (some ⟨g, 0, none⟩), .pointer (some ⟨h, 0, none⟩), .pointer (some ⟨i, 0, none⟩)] w fun e w' => e = .returned (.tuple #[.int .u64 (DT x y mode).1, .bool (DT x y mode).2.1]) ∧ Below w.heap.size w w' := by
  have SC1 := Lib.hid (QuotientOf_c x y mode w hx hy hm)
  obtain ⟨t, ht⟩ : ∃ t, DT x y mode = t := ⟨_, rfl⟩
  rw [ht] at SC1 ⊢
  obtain ⟨z, l, e⟩ := t
  dsimp only at SC1 ⊢
  clear ht hx hy hm
  go_enter Tryz.func7, Tryz.ntmps7
  go_wp2_with (go_at_call 8; (with_reducible refine (SC1.out).mono ?_); rintro e w1 ⟨rfl, hb⟩; have hb := Lib.hid hb)
  go_ret2
  exact ⟨rfl, hb.out⟩
theorem cloJ2 (x mode : Int) (g i : Nat) (w : World) (hx : 0 ≤ x ∧ x ≤ 18446744073709551615) (hm : 0 ≤ mode ∧ mode ≤ 4)
    (c0 : w.cell? ⟨g, 0, none⟩ = some (.int .u64 x)) (c2 : w.cell? ⟨i, 0, none⟩ = some (.int .i64 mode)) :
    Calls Tryz.prog 9 #[.pointer (some ⟨g, 0, none⟩), .pointer (some ⟨i, 0, none⟩)] w fun e w' => e = .returned (.tuple #[.int .u64 (ST x mode).1, .bool (ST x mode).2.1]) ∧ Below w.heap.size w w' := by
  have SC1 := Lib.hid (RootOf_c x mode w hx hm)
  obtain ⟨t, ht⟩ : ∃ t, ST x mode = t := ⟨_, rfl⟩
  rw [ht] at SC1 ⊢
  obtain ⟨v, l, e⟩ := t
  dsimp only at SC1 ⊢
  clear ht hx hm
  go_enter Tryz.func9, Tryz.ntmps9
  go_wp2_with (go_at_call 10; (with_reducible refine (SC1.out).mono ?_); rintro e w1 ⟨rfl, hb⟩; have hb := Lib.hid hb)
  go_ret2
  exact ⟨rfl, hb.out⟩
theorem toldJ1 (x mode : Int) (l : Bool) (g h i : Nat) (w : World) (hm : 0 ≤ mode ∧ mode ≤ 4)
    (CL : Calls Tryz.prog 7 #[.pointer (some ⟨g, 0, none⟩), .pointer (some ⟨h, 0, none⟩), .pointer (some ⟨i, 0, none⟩)] w fun e w' => e = .returned (.tuple #[.int .u64 x, .bool l]) ∧ Below w.heap.size w w') :
    Calls Tryz.prog 6 #[.int .u64 x, .bool l, .int .i64 0, .int .i64 mode, .func (.func 7) #[] #[.pointer (some ⟨g, 0, none⟩), .pointer (some ⟨h, 0, none⟩), .pointer (some ⟨i, 0, none⟩)]] w fun e w' => e = .returned (.bool true) ∧ Below w.heap.size w w' := by
  have BT := Lib.hid (FloatR.Between_t mode 0 4 hm.1 hm.2 w)
  have CL := Lib.hid CL
  have tx : (x == x) = true := by simp
  have tl : (l == l) = true := by simp
  clear hm
  go_enter Tryz.func6, Tryz.ntmps6
  go_wp2_with (first
    | (go_at_call 20; (with_reducible refine (BT.out).mono ?_); rintro e w1 ⟨rfl, rfl⟩)
    | (go_at_call 7; (with_reducible refine (CL.out).mono ?_); rintro e w2 ⟨rfl, hb⟩; have hb := Lib.hid hb))
  go_ret
  exact ⟨rfl, hb.out⟩
theorem toldJ2 (x mode : Int) (l : Bool) (g i : Nat) (w : World) (hm : 0 ≤ mode ∧ mode ≤ 4)
    (CL : Calls Tryz.prog 9 #[.pointer (some ⟨g, 0, none⟩), .pointer (some ⟨i, 0, none⟩)] w fun e w' => e = .returned (.tuple #[.int .u64 x, .bool l]) ∧ Below w.heap.size w w') :
    Calls Tryz.prog 6 #[.int .u64 x, .bool l, .int .i64 0, .int .i64 mode, .func (.func 9) #[] #[.pointer (some ⟨g, 0, none⟩), .pointer (some ⟨i, 0, none⟩)]] w fun e w' => e = .returned (.bool true) ∧ Below w.heap.size w w' := by
  have BT := Lib.hid (FloatR.Between_t mode 0 4 hm.1 hm.2 w)
  have CL := Lib.hid CL
  have tx : (x == x) = true := by simp
  have tl : (l == l) = true := by simp
  clear hm
  go_enter Tryz.func6, Tryz.ntmps6
  go_wp2_with (first
    | (go_at_call 20; (with_reducible refine (BT.out).mono ?_); rintro e w1 ⟨rfl, rfl⟩)
    | (go_at_call 9; (with_reducible refine (CL.out).mono ?_); rintro e w2 ⟨rfl, hb⟩; have hb := Lib.hid hb))
  go_ret
  exact ⟨rfl, hb.out⟩
set_option maxRecDepth 100000 in
set_option maxHeartbeats 8000000 in
theorem saysJ_c (x y mode : Int) (w : World) (hx : 0 ≤ x ∧ x ≤ 18446744073709551615) (hy : 0 ≤ y ∧ y ≤ 18446744073709551615) (hT : NC.TabD w) :
    Calls Tryz.prog 3 #[.int .u64 x, .int .u64 y, .int .i64 mode] w fun e w' => e = .returned (.bool true) ∧ Below w.heap.size w w' := by
  obtain ⟨W0, hW0⟩ : ∃ W0, ((w.alloc (.cells #[.int .u64 x] 22)).alloc (.cells #[.int .u64 y] 22)).alloc (.cells #[.int .i64 mode] 3) = W0 := ⟨_, rfl⟩
  have N1 : Blk W0 w.heap.size 22 #[.int .u64 x] := by rw [← hW0]; exact ((Blk.new w _ _).alloc _).alloc _
  have N2 : Blk W0 (w.heap.size + 1) 22 #[.int .u64 y] := by rw [← hW0]; exact (Blk.new' (w.alloc (.cells #[.int .u64 x] 22)) _ _ (by simp)).alloc _
  have N4 : Blk W0 (w.heap.size + 2) 3 #[.int .i64 mode] := by rw [← hW0]; exact Blk.new' _ _ _ (by simp)
  have D0 : Below w.heap.size w W0 := by rw [← hW0]; exact ((al1 w _).trans ((al1 _ _).mono (by simp))).trans ((al1 _ _).mono (by simp; omega))
  have KB : Hid (∀ W, Below W0.heap.size W0 W → W.cell? ⟨w.heap.size, 0, none⟩ = some (.int .u64 x) ∧ W.cell? ⟨w.heap.size + 1, 0, none⟩ = some (.int .u64 y) ∧ W.cell? ⟨w.heap.size + 2, 0, none⟩ = some (.int .i64 mode)) := fun W h => ⟨(N1.below h N1.lt).at_ 0 rfl, (N2.below h N2.lt).at_ 0 rfl, (N4.below h N4.lt).at_ 0 rfl⟩
  have A1 : Hid (Calls Tryz.prog 4 #[.int .u64 x, .int .u64 y, .int .i64 mode] W0 (DC.RetB W0 (ATv (DT x y mode)))) := Div_c x y mode W0 hx hy (hT.below D0)
  have A2 : Hid (∀ W, Below W0.heap.size W0 W → Calls Tryz.prog 5 #[.int .u64 x, .int .i64 mode] W (DC.RetB W (ATv (ST x mode)))) := fun W hW => Sqrt_c x mode W hx ((hT.below D0).below hW)
  have T1 : Hid (∀ (W : World), Below W0.heap.size W0 W → Calls Tryz.prog 6 #[.int .u64 (DT x y mode).1, .bool (DT x y mode).2.1, .int .i64 (DT x y mode).2.2, .int .i64 mode, .func (.func 7) #[] #[.pointer (some ⟨w.heap.size, 0, none⟩), .pointer (some ⟨w.heap.size + 1, 0, none⟩), .pointer (some ⟨w.heap.size + 2, 0, none⟩)]] W fun e w' => e = .returned (.bool true) ∧ Below W.heap.size W w') := fun W hW => by
    by_cases hm : 0 ≤ mode ∧ mode ≤ 4
    · have := toldJ1 (DT x y mode).1 mode (DT x y mode).2.1 _ _ _ W hm (cloJ1 x y mode _ _ _ W hx hy hm (KB.out W hW).1 (KB.out W hW).2.1 (KB.out W hW).2.2)
      rw [DT_e hm]
      exact this
    · rw [DT_no hm]
      exact (told_badJ mode _ W (by omega)).mono fun e w' ⟨h1, h2⟩ => ⟨h1, h2 ▸ Below.refl _ _⟩
  have T2 : Hid (∀ (W : World), Below W0.heap.size W0 W → Calls Tryz.prog 6 #[.int .u64 (ST x mode).1, .bool (ST x mode).2.1, .int .i64 (ST x mode).2.2, .int .i64 mode, .func (.func 9) #[] #[.pointer (some ⟨w.heap.size, 0, none⟩), .pointer (some ⟨w.heap.size + 2, 0, none⟩)]] W fun e w' => e = .returned (.bool true) ∧ Below W.heap.size W w') := fun W hW => by
    by_cases hm : 0 ≤ mode ∧ mode ≤ 4
    · have := toldJ2 (ST x mode).1 mode (ST x mode).2.1 _ _ W hm (cloJ2 x mode _ _ W hx hm (KB.out W hW).1 (KB.out W hW).2.2)
      rw [ST_e hm]
      exact this
    · rw [ST_no hm]
      exact (told_badJ mode _ W (by omega)).mono fun e w' ⟨h1, h2⟩ => ⟨h1, h2 ▸ Below.refl _ _⟩
  unfold ATv at A1 A2
  generalize DT x y mode = ta at *
  generalize ST x mode = tb at *
  obtain ⟨a1, a2, a3⟩ := ta
  obtain ⟨s1, s2, s3⟩ := tb
  dsimp only at A1 A2 T1 T2
  have HW0 := Lib.hid hW0
  have D0 := Lib.hid D0
  clear hx hy hT hW0 N1 N2 N4
  go_enter Tryz.func3, Tryz.ntmps3
  go_wp2_with (first
    | (go_at_call 4; rw [HW0.out]; (with_reducible refine (A1.out).mono ?_); rintro e w1 ⟨rfl, hb⟩; have D := Lib.hid hb; clear hb; obtain ⟨k0, k1, k2⟩ := KB.out _ D.out)
    | (go_at_call 5; (with_reducible refine (A2.out _ D.out).mono ?_); rintro e w2 ⟨rfl, hb⟩; have D := Lib.hid (D.out.trans (hb.mono D.out.size)); clear hb; obtain ⟨k0, k1, k2⟩ := KB.out _ D.out)
    | (go_at_call 6; (with_reducible refine (T1.out _ D.out).mono ?_); rintro e w3 ⟨rfl, hb⟩; have D := Lib.hid (D.out.trans (hb.mono D.out.size)); clear hb; obtain ⟨k0, k1, k2⟩ := KB.out _ D.out)
    | (go_at_call 6; (with_reducible refine (T2.out _ D.out).mono ?_); rintro e w4 ⟨rfl, hb⟩; have D := Lib.hid (D.out.trans (hb.mono D.out.size)); clear hb; obtain ⟨k0, k1, k2⟩ := KB.out _ D.out))
  go_ret
  exact ⟨rfl, D0.out.trans (D.out.mono D0.out.size)⟩
end JC
end Go.Proofs.YtpmjeipdldnnbaaGreatDoor
