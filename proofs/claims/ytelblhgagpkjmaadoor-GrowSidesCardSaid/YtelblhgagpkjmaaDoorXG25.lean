/-
  Package grow: Turn (with a closure that tells the product of two differences).
-/
import Derived.Test.YtelblhgagpkjmaaDoorXG24
import Derived.Test.YtelblhgagpkjmaaDoorXG20
namespace Go.Proofs.YtelblhgagpkjmaaDoor
set_option linter.unusedVariables false
set_option linter.unusedSimpArgs false
open Go.RowKit
set_option linter.unusedVariables false
set_option linter.unusedSimpArgs false
namespace XC
open L NC NK DC RC SC PC QC IC
open Z (cmpv)
theorem sl_six (W : World) (a b c d e f : Int) : Sl .u64 (W.alloc (.cells #[.int .u64 a, .int .u64 b, .int .u64 c, .int .u64 d, .int .u64 e, .int .u64 f] 22)) (.slice (some ⟨W.heap.size, 0, none⟩) 6 6) [a, b, c, d, e, f] := Row.sl (Blk.new W 22 ([a, b, c, d, e, f].map (Value.int .u64)).toArray) _ (by simp)
set_option maxRecDepth 100000 in
set_option maxHeartbeats 4000000 in
theorem product_g (x x0 y y0 : Int) (w : World) (hx : 0 ≤ x ∧ x ≤ 18446744073709551615) (hx0 : 0 ≤ x0 ∧ x0 ≤ 18446744073709551615) (hy : 0 ≤ y ∧ y ≤ 18446744073709551615) (hy0 : 0 ≤ y0 ∧ y0 ≤ 18446744073709551615) (hT : TabD w) :
    Calls Tryd.prog 32 #[.int .u64 x, .int .u64 x0, .int .u64 y, .int .u64 y0] w (RetG w (DC.Mul (DC.Sub (OfD x).d (OfD x0).d).d (DC.Sub (OfD y).d (OfD y0).d).d).d) := by
  obtain ⟨W0, hW0, D0, ZS, KB⟩ := res0 w
  have VX := Lib.hid (value_g x W0 hx (hT.below D0))
  have VX0 : Hid (∀ W : World, Below W0.heap.size W0 W → Calls Tryd.prog 34 #[.int .u64 x0] W (RetG W (OfD x0).d)) := fun W h => value_g x0 W hx0 ((hT.below D0).below h)
  have VY : Hid (∀ W : World, Below W0.heap.size W0 W → Calls Tryd.prog 34 #[.int .u64 y] W (RetG W (OfD y).d)) := fun W h => value_g y W hy ((hT.below D0).below h)
  have VY0 : Hid (∀ W : World, Below W0.heap.size W0 W → Calls Tryd.prog 34 #[.int .u64 y0] W (RetG W (OfD y0).d)) := fun W h => value_g y0 W hy0 ((hT.below D0).below h)
  have SB : Hid (∀ (W : World) (u v : Value) (d1 d2 : Dy), DV W u d1 → DV W v d2 → Below W0.heap.size W0 W → Calls Tryd.prog 33 #[u, v] W (RetD W (DC.Sub d1 d2))) := fun W u v d1 d2 h1 h2 hW => Sub_d u v d1 d2 W h1 h2 ((hT.below D0).below hW)
  have ML : Hid (∀ (W : World) (u v : Value) (d1 d2 : Dy), DV W u d1 → DV W v d2 → Below W0.heap.size W0 W → Calls Tryd.prog 35 #[u, v] W (RetD W (DC.Mul d1 d2))) := fun W u v d1 d2 h1 h2 hW => Mul_d u v d1 d2 W h1 h2 ((hT.below D0).below hW)
  have KB := Lib.hid KB
  have D0 := Lib.hid D0
  have HW0 := Lib.hid hW0
  generalize (OfD x).d = d1 at *
  generalize (OfD x0).d = d2 at *
  generalize (OfD y).d = d4 at *
  generalize (OfD y0).d = d5 at *
  clear hW0 hT hx hx0 hy hy0
  go_enter Tryd.func32, Tryd.ntmps32
  go_wp2_with (first
    | (go_at_call 34; rw [HW0.out]; (with_reducible refine (VX.out).mono ?_); rintro e v1 ⟨b1, A1, n1, c1, t1, rfl, g1, hb⟩; have G1 := Lib.hid g1; have D := Lib.hid hb; clear g1 hb VX)
    | (go_at_call 34; (with_reducible refine (VX0.out _ D.out).mono ?_); rintro e v2 ⟨b2, A2, n2, c2, t2, rfl, g2, hb⟩; have G1 := Lib.hid (G1.out.below hb); have G2 := Lib.hid g2; have D := Lib.hid (D.out.trans (hb.mono D.out.size)); clear g2 hb VX0)
    | (go_at_call 33; (with_reducible refine (SB.out _ _ _ _ _ G1.out.dv G2.out.dv D.out).mono ?_); rintro e v3 ⟨b3, A3, n3, c3, t3, rfl, g3, hb⟩; have s := hb.alloc hb.size (.cells #[.bool b3, .slice A3 n3 c3, .int .i64 t3] 43); have X3 := Lib.hid (BD.new g3.dv); have D := Lib.hid (D.out.trans (s.mono D.out.size)); clear g3 hb s G1 G2)
    | (go_at_call 34; (with_reducible refine (VY.out _ D.out).mono ?_); rintro e v4 ⟨b4, A4, n4, c4, t4, rfl, g4, hb⟩; have X3 := Lib.hid (X3.out.below hb); have G4 := Lib.hid g4; have D := Lib.hid (D.out.trans (hb.mono D.out.size)); clear g4 hb VY)
    | (go_at_call 34; (with_reducible refine (VY0.out _ D.out).mono ?_); rintro e v5 ⟨b5, A5, n5, c5, t5, rfl, g5, hb⟩; have X3 := Lib.hid (X3.out.below hb); have G4 := Lib.hid (G4.out.below hb); have G5 := Lib.hid g5; have D := Lib.hid (D.out.trans (hb.mono D.out.size)); clear g5 hb VY0)
    | (go_at_call 33; (with_reducible refine (SB.out _ _ _ _ _ G4.out.dv G5.out.dv D.out).mono ?_); rintro e v6 ⟨b6, A6, n6, c6, t6, rfl, g6, hb⟩; have s := hb.alloc hb.size (.cells #[.bool b6, .slice A6 n6 c6, .int .i64 t6] 43); have X6 := Lib.hid (BD.new g6.dv); have X3 := Lib.hid (X3.out.below s); have D := Lib.hid (D.out.trans (s.mono D.out.size)); clear g6 hb s G4 G5; obtain ⟨a_0, a_1, a_2⟩ := X3.out.bx; obtain ⟨b_0, b_1, b_2⟩ := X6.out.bx)
    | (go_at_call 35; (with_reducible refine (ML.out _ _ _ _ _ X3.out.dv X6.out.dv D.out).mono ?_); rintro e v7 ⟨b7, A7, n7, c7, t7, rfl, g7, hb⟩; have s := hb.alloc hb.size (.cells #[.bool b7, .slice A7 n7 c7, .int .i64 t7] 43); have HV := Lib.hid (g7.below (al1 v7 (.cells #[.bool b7, .slice A7 n7 c7, .int .i64 t7] 43))); have D := Lib.hid (D.out.trans (s.mono D.out.size)); have R2 := KB.out _ D.out; have z0 := R2.at_ 0 rfl; have z1 := R2.at_ 1 rfl; have z2 := R2.at_ 2 rfl; have f0 := R2.frozen 0; have f1 := R2.frozen 1; have f2 := R2.frozen 2; have R2 := Lib.hid R2; clear g7 hb s))
  exact bodyPost_ret (v := .agg #[.bool b7, .slice A7 n7 c7, .int .i64 t7]) (by simp [results, Tryd.results32, go_sem, z0, z1, z2]) rfl
    ⟨_, _, _, _, _, rfl, HV.out.set3 R2.out _ _ _ (by intro z h; cases h) (by intro z h; cases h), DC.below3 (D0.out.trans (D.out.mono D0.out.size)) (by omega) _ _ _⟩
set_option maxRecDepth 100000 in
set_option maxHeartbeats 4000000 in
theorem Turn_g (ax ay bx b_y cx cy : Int) (w : World) (hu : u64s [ax, ay, bx, b_y, cx, cy]) (hT : TabD w) :
    Calls Tryd.prog 8 #[.int .u64 ax, .int .u64 ay, .int .u64 bx, .int .u64 b_y, .int .u64 cx, .int .u64 cy] w (DC.RetB w (.tuple #[.int .i64 (gTu ax ay bx b_y cx cy).1, .int .i64 (gTu ax ay bx b_y cx cy).2])) := by
  have s6 := sl_six w ax ay bx b_y cx cy
  have D0 := al1 w (.cells #[.int .u64 ax, .int .u64 ay, .int .u64 bx, .int .u64 b_y, .int .u64 cx, .int .u64 cy] 22)
  obtain ⟨W0, hW0⟩ : ∃ W0, w.alloc (.cells #[.int .u64 ax, .int .u64 ay, .int .u64 bx, .int .u64 b_y, .int .u64 cx, .int .u64 cy] 22) = W0 := ⟨_, rfl⟩
  rw [hW0] at s6 D0
  have l60 : [ax, ay, bx, b_y, cx, cy].length ≤ 60 := by simp
  have T0 := hT.below D0
  obtain ⟨L, hL⟩ : ∃ L, L = [ax, ay, bx, b_y, cx, cy] := ⟨_, rfl⟩
  rw [← hL] at s6 hu l60
  obtain ⟨R1, hR1⟩ : ∃ R, (L.any fun x => decide (F.exq x = 2047)) = R := ⟨_, rfl⟩
  have C1 := Lib.hid (Contains_lv _ 6 6 L (fun x => decide (F.exq x = 2047)) R1 W0 s6 l60 hR1 fun W x hW hx => lacksValue_g x W (hu x hx) (T0.below hW))
  have HW0 := Lib.hid hW0
  have HD0 := Lib.hid D0
  cases R1
  · have hn : ∀ x ∈ L, ¬ F.exq x = 2047 := fun x hx => by have := (List.any_eq_false.1 hR1) x hx; simpa using this
    have hf : ∀ x ∈ L, fi x := fun x hx => ⟨(hu x hx).1, (hu x hx).2, hn x hx⟩
    obtain ⟨R2, hR2⟩ : ∃ R, (L.any fun x => open Classical in decide (gFr x)) = R := ⟨_, rfl⟩
    have C2 : Hid (∀ W : World, Below W0.heap.size W0 W → Calls Tryd.prog 29 #[.slice (some ⟨w.heap.size, 0, none⟩) 6 6, .func (.func 31) #[] #[]] W (DC.RetB W (.bool R2))) := fun W hW => Contains_fr _ 6 6 L _ R2 W (s6.below hW) l60 hR2 fun W' x hW' hx => isFar_g x _ W' (hu x hx) (hf x hx) (by simp)
    have er : ¬ ∃ x ∈ [ax, ay, bx, b_y, cx, cy], F.exq x = 2047 := by rw [← hL]; rintro ⟨x, hx, h⟩; exact hn x hx h
    cases R2
    · have hg : ∀ x ∈ L, ¬ gFr x := fun x hx => by have := (List.any_eq_false.1 hR2) x hx; simpa using this
      have er2 : ¬ ∃ x ∈ [ax, ay, bx, b_y, cx, cy], gFr x := by rw [← hL]; rintro ⟨x, hx, h⟩; exact hg x hx h
      have e : gTu ax ay bx b_y cx cy = (cmpv (gDet ax ay bx b_y cx cy) 0, 0) := by unfold gTu; rw [if_neg er, if_neg er2]
      rw [e]
      rw [hL] at hf hg hu
      obtain ⟨m1, o1, m2, o2, hc⟩ := turn_p hf hg
      dsimp only at m1 o1 m2 o2 hc
      have P1 : Hid (∀ W : World, Below W0.heap.size W0 W → Calls Tryd.prog 32 #[.int .u64 ax, .int .u64 cx, .int .u64 b_y, .int .u64 cy] W (RetG W (DC.Mul (DC.Sub (OfD ax).d (OfD cx).d).d (DC.Sub (OfD b_y).d (OfD cy).d).d).d)) := fun W h => product_g ax cx b_y cy W (hu _ (by simp)) (hu _ (by simp)) (hu _ (by simp)) (hu _ (by simp)) (T0.below h)
      have P2 : Hid (∀ W : World, Below W0.heap.size W0 W → Calls Tryd.prog 32 #[.int .u64 ay, .int .u64 cy, .int .u64 bx, .int .u64 cx] W (RetG W (DC.Mul (DC.Sub (OfD ay).d (OfD cy).d).d (DC.Sub (OfD bx).d (OfD cx).d).d).d)) := fun W h => product_g ay cy bx cx W (hu _ (by simp)) (hu _ (by simp)) (hu _ (by simp)) (hu _ (by simp)) (T0.below h)
      have CM : Hid (∀ (W : World) (u v : Value) (d1 d2 : Dy), DV W u d1 → DV W v d2 → Below W0.heap.size W0 W → Calls Tryd.prog 27 #[u, v] W (DC.RetB W (.tuple #[.int .i64 (Cmpn d1 d2), .int .i64 (Cmpe d1 d2)]))) := fun W u v d1 d2 h1 h2 hW => Cmp_d u v d1 d2 W h1 h2 (T0.below hW)
      rw [← hc]
      generalize (DC.Mul (DC.Sub (OfD ax).d (OfD cx).d).d (DC.Sub (OfD b_y).d (OfD cy).d).d).d = p1 at *
      generalize (DC.Mul (DC.Sub (OfD ay).d (OfD cy).d).d (DC.Sub (OfD bx).d (OfD cx).d).d).d = p2 at *
      clear e er er2 hf hg hu m1 o1 m2 o2 hc hT T0 s6 D0 hW0 l60 hR1 hR2 hn hL
      go_enter Tryd.func8, Tryd.ntmps8
      go_wp2_with (first
        | (go_at_call 29; rw [HW0.out]; (with_reducible refine (C1.out).mono ?_); rintro e w1 ⟨rfl, hb⟩; have D := Lib.hid hb; clear hb C1)
        | (go_at_call 29; (with_reducible refine (C2.out _ D.out).mono ?_); rintro e w2 ⟨rfl, hb⟩; have D := Lib.hid (D.out.trans (hb.mono D.out.size)); clear hb C2)
        | (go_at_call 32; (with_reducible refine (P1.out _ D.out).mono ?_); rintro e w3 ⟨b3, A3, n3, c3, t3, rfl, g3, hb⟩; have G3 := Lib.hid g3; have D := Lib.hid (D.out.trans (hb.mono D.out.size)); clear hb g3 P1)
        | (go_at_call 32; (with_reducible refine (P2.out _ D.out).mono ?_); rintro e w4 ⟨b4, A4, n4, c4, t4, rfl, g4, hb⟩; have G3 := Lib.hid (G3.out.below hb); have G4 := Lib.hid g4; have D := Lib.hid (D.out.trans (hb.mono D.out.size)); clear hb g4 P2)
        | (go_at_call 27; (with_reducible refine (CM.out _ _ _ _ _ G3.out.dv G4.out.dv D.out).mono ?_); rintro e w5 ⟨rfl, hb⟩; have D := Lib.hid (D.out.trans (hb.mono D.out.size)); clear hb))
      go_ret2
      exact ⟨rfl, HD0.out.trans (D.out.mono HD0.out.size)⟩
    · have er2 : ∃ x ∈ [ax, ay, bx, b_y, cx, cy], gFr x := by
        rw [← hL]
        obtain ⟨x, hx, h⟩ := List.any_eq_true.1 hR2
        exact ⟨x, hx, by simpa using h⟩
      have e : gTu ax ay bx b_y cx cy = (0, 2) := by unfold gTu; rw [if_neg er, if_pos er2]
      rw [e]
      clear e er er2 hf hu hT T0 s6 D0 hW0 l60 hR1 hR2 hn hL
      go_enter Tryd.func8, Tryd.ntmps8
      go_wp2_with (first
        | (go_at_call 29; rw [HW0.out]; (with_reducible refine (C1.out).mono ?_); rintro e w1 ⟨rfl, hb⟩; have D := Lib.hid hb; clear hb C1)
        | (go_at_call 29; (with_reducible refine (C2.out _ D.out).mono ?_); rintro e w2 ⟨rfl, hb⟩; have D := Lib.hid (D.out.trans (hb.mono D.out.size)); clear hb C2))
      go_ret2
      exact ⟨rfl, HD0.out.trans (D.out.mono HD0.out.size)⟩
  · have er : ∃ x ∈ [ax, ay, bx, b_y, cx, cy], F.exq x = 2047 := by
      rw [← hL]
      obtain ⟨x, hx, h⟩ := List.any_eq_true.1 hR1
      exact ⟨x, hx, by simpa using h⟩
    have e : gTu ax ay bx b_y cx cy = (0, 4) := by unfold gTu; rw [if_pos er]
    rw [e]
    clear e er hu hT T0 s6 D0 hW0 l60 hR1 hL
    go_enter Tryd.func8, Tryd.ntmps8
    go_wp2_with (go_at_call 29; rw [HW0.out]; (with_reducible refine (C1.out).mono ?_); rintro e w1 ⟨rfl, hb⟩; have D := Lib.hid hb; clear hb C1)
    go_ret2
    exact ⟨rfl, HD0.out.trans (D.out.mono HD0.out.size)⟩
end XC
end Go.Proofs.YtelblhgagpkjmaaDoor
