/-
  QuotRest: the walk.
-/
import Derived.Test.YtpmjeipdldnnbaaDoorH7
import Derived.Test.YtpmjeipdldnnbaaDoorH8
namespace Go.Proofs.YtpmjeipdldnnbaaDoor
set_option linter.unusedVariables false
set_option linter.unusedSimpArgs false
open Go.RowKit
set_option linter.unusedVariables false
set_option linter.unusedSimpArgs false
namespace JC
open L NC NK DC RC SC PC
set_option maxRecDepth 100000 in
set_option maxHeartbeats 8000000 in
theorem rest_c (x y : Int) (w : World) (hx : 0 ≤ x ∧ x ≤ 18446744073709551615) (hy : 0 ≤ y ∧ y ≤ 18446744073709551615) (hT : TabD w) :
    Calls Tryd.prog 8 #[.int .u64 x, .int .u64 y] w fun e w' => e = .returned (.bool true) ∧ Below w.heap.size w w' := by
  have HT : Hid (∀ W : World, Below w.heap.size w W → TabD W) := fun W hW => hT.below hW
  have LV : Hid (∀ W : World, Below w.heap.size w W → Calls Tryd.prog 12 #[] W fun e w' => e = .returned (.bool true) ∧ Below W.heap.size W w') := fun W hW => livesJ_c W (HT.out W hW)
  have D := Lib.hid (Below.refl w.heap.size w)
  have br := RM_bd hx hy
  have A1 : Hid (∀ W : World, Below w.heap.size w W → Calls Tryd.prog 9 #[.int .u64 x, .int .u64 y] W (DC.RetB W (.int .u64 (RM x y)))) := fun W hW => Rem_c x y W hx hy (HT.out W hW)
  have VR : Hid (∀ W : World, Below w.heap.size w W → Calls Tryd.prog 16 #[.int .u64 (RM x y)] W (RetVb W (OfD (RM x y)).d ((OfD (RM x y)).e == 0))) := fun W hW => value_c _ W br.1 br.2 (HT.out W hW)
  have VY : Hid (∀ W : World, Below w.heap.size w W → Calls Tryd.prog 16 #[.int .u64 y] W (RetVb W (OfD y).d ((OfD y).e == 0))) := fun W hW => value_c y W hy.1 hy.2 (HT.out W hW)
  by_cases ei : fi (RM x y)
  · have ti : ((OfD (RM x y)).e == 0) = true := by rw [(of_fit ei).1]; rfl
    rw [ti] at VR
    by_cases ej : fi y
    · have tj : ((OfD y).e == 0) = true := by rw [(of_fit ej).1]; rfl
      rw [tj] at VY
      by_cases h0 : val y = 0
      · have gz : Hid (∀ (W : World) (b : Bool) (A : Option Addr) (n c : Nat) (x' : Int), GV W b A n c x' (OfD y).d → 0 = n) := fun W b A n c x' g => (pv_zero g.pv).2 (by have : (OfD y).d.m = 0 := sc_zero.1 h0; rw [this]; rfl) |>.symm
        generalize RM x y = r at *
        generalize (OfD r).d = dr at *
        generalize (OfD y).d = dy' at *
        clear ei ej h0 ti tj hT hx hy br
        go_enter Tryd.func8, Tryd.ntmps8
        go_wp2_with (first
          | (go_at_call 9; (with_reducible refine (A1.out _ D.out).mono ?_); rintro e w1 ⟨rfl, hb⟩; have D := Lib.hid (D.out.trans (hb.mono D.out.size)); clear hb)
          | (go_at_call 16; (with_reducible refine (VR.out _ D.out).mono ?_); rintro e w2 ⟨b2, A2, n2, c2, x2, rfl, hv, hb⟩; have s := hb.alloc hb.size (.cells #[.bool b2, .slice A2 n2 c2, .int .i64 x2] 35); have N1 := Blk.new w2 35 #[.bool b2, .slice A2 n2 c2, .int .i64 x2]; have G1 := hv.below (al1 w2 (.cells #[.bool b2, .slice A2 n2 c2, .int .i64 x2] 35)); have D := Lib.hid (D.out.trans (s.mono D.out.size)); clear hv hb s)
          | (go_at_call 16; (with_reducible refine (VY.out _ D.out).mono ?_); rintro e w3 ⟨b3, A3, n3, c3, x3, rfl, hv, hb⟩; obtain rfl := gz.out _ _ _ _ _ _ hv; have s := hb.alloc hb.size (.cells #[.bool b3, .slice A3 0 c3, .int .i64 x3] 35); have N1 := N1.below s N1.lt; have G1 := G1.below s; have N2 := Blk.new w3 35 #[.bool b3, .slice A3 0 c3, .int .i64 x3]; have G2 := hv.below (al1 w3 (.cells #[.bool b3, .slice A3 0 c3, .int .i64 x3] 35)); have D := Lib.hid (D.out.trans (s.mono D.out.size)); clear hv hb s; have a0 := N1.at_ 0 rfl; have a1 := N1.at_ 1 rfl; have a2 := N1.at_ 2 rfl; have b0 := N2.at_ 0 rfl; have b1 := N2.at_ 1 rfl; have b2_ := N2.at_ 2 rfl)
          | (go_at_call 12; (with_reducible refine (LV.out _ D.out).mono ?_); rintro e w4 ⟨rfl, hb⟩; have N1 := N1.below hb N1.lt; have G1 := G1.below hb; have N2 := N2.below hb N2.lt; have G2 := G2.below hb; have a0 := N1.at_ 0 rfl; have a1 := N1.at_ 1 rfl; have a2 := N1.at_ 2 rfl; have b0 := N2.at_ 0 rfl; have b1 := N2.at_ 1 rfl; have b2_ := N2.at_ 2 rfl; have D := Lib.hid (D.out.trans (hb.mono D.out.size)); clear hb))
        go_ret
        exact ⟨rfl, D.out⟩
      · have fx := RM_nf hx ej h0 ei
        obtain ⟨ag, fr, hle⟩ := again_p fx ej h0
        obtain ⟨q1, q2, q3⟩ := twice_p fr ej hle
        have np := none_p (H := 4613937818241073152) rfl ej h0
        have bm := MT_bd 0 hy (show (0 : Int) ≤ 4613937818241073152 ∧ (4613937818241073152 : Int) ≤ 18446744073709551615 by omega)
        obtain ⟨p, lo, hM⟩ := MT_ok (x := y) (y := 4613937818241073152) (mode := 0) (by omega)
        rw [hM] at np bm
        dsimp only at np bm
        have bn := RM_bd bm hy
        have gz : Hid (∀ (W : World) (b : Bool) (A : Option Addr) (n c : Nat) (x' : Int), GV W b A n c x' (OfD y).d → ¬ n = 0) := fun W b A n c x' g h => h0 (by
          have h9 := (pv_zero g.pv).1 h
          have : (OfD y).d.m = 0 := by omega
          exact sc_zero.2 this)
        have SH : Hid (∀ (W : World) (v : Value), DV W v (OfD (RM x y)).d → Below w.heap.size w W → Calls Tryd.prog 26 #[v, .int .i64 1] W (RetD W ⟨0, (Shf (OfD (RM x y)).d 1).d⟩)) := fun W v hv hW => by
          have := Shift_d v _ 1 W hv (HT.out W hW)
          rwa [show Shf (OfD (RM x y)).d 1 = ⟨0, (Shf (OfD (RM x y)).d 1).d⟩ by rw [← q1]] at this
        have CP : Hid (∀ (W : World) (u v : Value), DV W u (nab (Shf (OfD (RM x y)).d 1).d) → DV W v (nab (OfD y).d) → Below w.heap.size w W → Calls Tryd.prog 27 #[u, v] W (DC.RetB W (.tuple #[.int .i64 (Cmpn (nab (Shf (OfD (RM x y)).d 1).d) (nab (OfD y).d)), .int .i64 0]))) := fun W u v h1 h2 hW => by
          have := Cmp_d u v _ _ W h1 h2 (HT.out W hW)
          rwa [q2] at this
        have AG : Hid (∀ W : World, Below w.heap.size w W → Calls Tryd.prog 9 #[.int .u64 (RM x y), .int .u64 y] W (DC.RetB W (.int .u64 (RM x y)))) := fun W hW => by
          have := Rem_c (RM x y) y W br hy (HT.out W hW)
          rwa [ag] at this
        have AM : Hid (∀ W : World, Below w.heap.size w W → Calls Tryd.prog 23 #[.int .u64 y, .int .u64 4613937818241073152, .int .i64 0] W (DC.RetB W (.tuple #[.int .u64 p, .bool lo, .int .i64 0]))) := fun W hW => by
          have := Mul_c y 4613937818241073152 0 W hy (by omega) (HT.out W hW)
          rw [hM] at this
          exact this
        have AN : Hid (∀ W : World, Below w.heap.size w W → Calls Tryd.prog 9 #[.int .u64 p, .int .u64 y] W (DC.RetB W (.int .u64 (RM p y)))) := fun W hW => Rem_c p y W bm hy (HT.out W hW)
        have CP5 : Hid (∀ W : World, Calls Tryd.prog 13 #[.int .u64 p] W fun e w' => e = .returned (.int .i64 (F.cls p)) ∧ W = w') := fun W => FloatC.Class_c p bm.1 bm.2 W
        have CN : Hid (∀ W : World, Calls Tryd.prog 13 #[.int .u64 (RM p y)] W fun e w' => e = .returned (.int .i64 (F.cls (RM p y))) ∧ W = w') := fun W => FloatC.Class_c _ bn.1 bn.2 W
        have kk : lo = true ∨ (lo = false ∧ F.cls p ≥ 4) ∨ (lo = false ∧ ¬ F.cls p ≥ 4 ∧ F.cls (RM p y) = 1) := by
          cases lo
          · by_cases h : F.cls p ≥ 4
            · exact .inr (.inl ⟨rfl, h⟩)
            · exact .inr (.inr ⟨rfl, h, np rfl (by omega)⟩)
          · exact .inl rfl
        have q3 : Cmpn (nab (Shf (OfD (RM x y)).d 1).d) (nab (OfD y).d) ≤ 0 := by omega
        have O3 : Hid (∀ W : World, Calls Tryd.prog 15 #[.slice (some ⟨W.heap.size, 0, none⟩) 3 3] (W.alloc (.cells #[.int .i64 0, .int .i64 0, .int .i64 0] 25)) fun e w' => e = .returned (.bool true) ∧ W.alloc (.cells #[.int .i64 0, .int .i64 0, .int .i64 0] 25) = w') := fun W => okn W [0, 0, 0] true (by simp) rfl
        generalize hr : RM x y = r at *
        generalize (Shf (OfD r).d 1).d = ds at *
        generalize Cmpn (nab ds) (nab (OfD y).d) = nn at *
        generalize (OfD r).d = dr at *
        generalize (OfD y).d = dy' at *
        generalize RM p y = no at *
        generalize F.cls p = cp at *
        generalize F.cls no = cn at *
        have tr : (r == r) = true := by simp
        clear ei ej h0 ti tj hT hx hy br fx ag fr hle q1 q2 np bm hM bn hr
        rcases kk with rfl | ⟨rfl, k1⟩ | ⟨rfl, k1, rfl⟩
        all_goals (
          go_enter Tryd.func8, Tryd.ntmps8
          go_wp2_with (first
            | (go_at_call 9; (with_reducible refine (A1.out _ D.out).mono ?_); rintro e w1 ⟨rfl, hb⟩; have D := Lib.hid (D.out.trans (hb.mono D.out.size)); clear hb)
            | (go_at_call 16; (with_reducible refine (VR.out _ D.out).mono ?_); rintro e w2 ⟨b2, A2, n2, c2, x2, rfl, hv, hb⟩; have s := hb.alloc hb.size (.cells #[.bool b2, .slice A2 n2 c2, .int .i64 x2] 35); have N1 := Blk.new w2 35 #[.bool b2, .slice A2 n2 c2, .int .i64 x2]; have G1 := hv.below (al1 w2 (.cells #[.bool b2, .slice A2 n2 c2, .int .i64 x2] 35)); have D := Lib.hid (D.out.trans (s.mono D.out.size)); clear hv hb s)
            | (go_at_call 16; (with_reducible refine (VY.out _ D.out).mono ?_); rintro e w3 ⟨b3, A3, n3, c3, x3, rfl, hv, hb⟩; have gz1 := gz.out _ _ _ _ _ _ hv; have SZW := Lib.hid (D.out.trans (hb.mono D.out.size)).size; have s := hb.alloc hb.size (.cells #[.bool b3, .slice A3 n3 c3, .int .i64 x3] 35); have N1 := N1.below s N1.lt; have G1 := G1.below s; have N2 := Blk.new w3 35 #[.bool b3, .slice A3 n3 c3, .int .i64 x3]; have G2 := hv.below (al1 w3 (.cells #[.bool b3, .slice A3 n3 c3, .int .i64 x3] 35)); have D := Lib.hid (D.out.trans (s.mono D.out.size)); clear hv hb s; have a0 := N1.at_ 0 rfl; have a1 := N1.at_ 1 rfl; have a2 := N1.at_ 2 rfl; have b0 := N2.at_ 0 rfl; have b1 := N2.at_ 1 rfl; have b2_ := N2.at_ 2 rfl)
            | (go_at_call 12; (with_reducible refine (LV.out _ D.out).mono ?_); rintro e w4 ⟨rfl, hb⟩; have N1 := N1.below hb N1.lt; have G1 := G1.below hb; have N2 := N2.below hb N2.lt; have G2 := G2.below hb; have a0 := N1.at_ 0 rfl; have a1 := N1.at_ 1 rfl; have a2 := N1.at_ 2 rfl; have b0 := N2.at_ 0 rfl; have b1 := N2.at_ 1 rfl; have b2_ := N2.at_ 2 rfl; have D := Lib.hid (D.out.trans (hb.mono D.out.size)); clear hb)
            | (go_at_call 26; (with_reducible refine (SH.out _ _ G1.dv D.out).mono ?_); rintro e w5 ⟨b5, A5, n5, c5, x5, rfl, hv, hb⟩; have N2 := N2.below hb N2.lt; have G2 := G2.below hb; have SZ : w3.heap.size ≠ w5.heap.size := (by have := N2.lt; omega); have D5 := D.out.trans (hb.mono D.out.size); have al := al1 w5 (.cells #[.bool false, .slice A5 n5 c5, .int .i64 x5] 35); have N3 := Blk.new w5 35 #[.bool false, .slice A5 n5 c5, .int .i64 x5]; have N4 := N2.below al N2.lt; have f2 := N4.frozen 0; have G3 := gv_nab (hv.below al); have G4 := gv_nab (G2.below al); have q0 := N4.at_ 0 rfl; have N6 := N4.set_ 0 (.bool false); have N7 := N3.far (p := ⟨w3.heap.size, 0, none⟩) SZ.symm (.bool false); have G5 := gv_set G3 q0 (by intro z h; cases h) (.bool false); have G6 := gv_set G4 q0 (by intro z h; cases h) (.bool false); have D := Lib.hid ((D5.trans (al.mono D5.size)).setCell (p := ⟨w3.heap.size, 0, none⟩) SZW.out (.bool false)); have a0 := N7.at_ 0 rfl; have a1 := N7.at_ 1 rfl; have a2 := N7.at_ 2 rfl; have b0 := N6.at_ 0 rfl; have b1 := N6.at_ 1 rfl; have b2_ := N6.at_ 2 rfl; clear hb al)
            | (go_at_call 27; (with_reducible refine (CP.out _ _ _ G5.dv G6.dv D.out).mono ?_); rintro e w6 ⟨rfl, hb⟩; have D := Lib.hid (D.out.trans (hb.mono D.out.size)); clear hb)
            | (go_at_call 9; (with_reducible refine (AG.out _ D.out).mono ?_); rintro e w7 ⟨rfl, hb⟩; have D := Lib.hid (D.out.trans (hb.mono D.out.size)); clear hb)
            | (go_at_call 23; (with_reducible refine (AM.out _ D.out).mono ?_); rintro e w8 ⟨rfl, hb⟩; have D := Lib.hid (D.out.trans (hb.mono D.out.size)); clear hb)
            | (go_at_call 9; (with_reducible refine (AN.out _ D.out).mono ?_); rintro e w9 ⟨rfl, hb⟩; have D := Lib.hid (D.out.trans (hb.mono D.out.size)); clear hb)
            | (go_at_call 15; (with_reducible refine (O3.out w9).mono ?_); rintro e w10 ⟨rfl, hw⟩; have s := al1 w9 (.cells #[.int .i64 0, .int .i64 0, .int .i64 0] 25); rw [hw] at s; clear hw; have D := Lib.hid (D.out.trans (s.mono D.out.size)); clear s)
            | (go_at_call 13; (with_reducible refine (CP5.out _).mono ?_); rintro e v1 ⟨rfl, rfl⟩)
            | (go_at_call 13; (with_reducible refine (CN.out _).mono ?_); rintro e v2 ⟨rfl, rfl⟩))
          go_ret
          exact ⟨rfl, D.out⟩)
    · have tj : ((OfD y).e == 0) = false := by
        have : F.exq y = 2047 := by
          rcases Classical.em (F.exq y = 2047) with h | h
          · exact h
          · exact absurd ⟨hy.1, hy.2, h⟩ ej
        unfold OfD; rw [if_pos this]; rfl
      rw [tj] at VY
      generalize RM x y = r at *
      generalize (OfD r).d = dr at *
      generalize (OfD y).d = dy' at *
      clear ei ej ti tj hT hx hy br
      go_enter Tryd.func8, Tryd.ntmps8
      go_wp2_with (first
        | (go_at_call 9; (with_reducible refine (A1.out _ D.out).mono ?_); rintro e w1 ⟨rfl, hb⟩; have D := Lib.hid (D.out.trans (hb.mono D.out.size)); clear hb)
        | (go_at_call 16; (with_reducible refine (VR.out _ D.out).mono ?_); rintro e w2 ⟨b2, A2, n2, c2, x2, rfl, hv, hb⟩; have s := hb.alloc hb.size (.cells #[.bool b2, .slice A2 n2 c2, .int .i64 x2] 35); have N1 := Blk.new w2 35 #[.bool b2, .slice A2 n2 c2, .int .i64 x2]; have G1 := hv.below (al1 w2 (.cells #[.bool b2, .slice A2 n2 c2, .int .i64 x2] 35)); have D := Lib.hid (D.out.trans (s.mono D.out.size)); clear hv hb s)
        | (go_at_call 16; (with_reducible refine (VY.out _ D.out).mono ?_); rintro e w3 ⟨b3, A3, n3, c3, x3, rfl, hv, hb⟩; skip; have s := hb.alloc hb.size (.cells #[.bool b3, .slice A3 n3 c3, .int .i64 x3] 35); have N1 := N1.below s N1.lt; have G1 := G1.below s; have N2 := Blk.new w3 35 #[.bool b3, .slice A3 n3 c3, .int .i64 x3]; have G2 := hv.below (al1 w3 (.cells #[.bool b3, .slice A3 n3 c3, .int .i64 x3] 35)); have D := Lib.hid (D.out.trans (s.mono D.out.size)); clear hv hb s; have a0 := N1.at_ 0 rfl; have a1 := N1.at_ 1 rfl; have a2 := N1.at_ 2 rfl; have b0 := N2.at_ 0 rfl; have b1 := N2.at_ 1 rfl; have b2_ := N2.at_ 2 rfl)
        | (go_at_call 12; (with_reducible refine (LV.out _ D.out).mono ?_); rintro e w4 ⟨rfl, hb⟩; have N1 := N1.below hb N1.lt; have G1 := G1.below hb; have N2 := N2.below hb N2.lt; have G2 := G2.below hb; have a0 := N1.at_ 0 rfl; have a1 := N1.at_ 1 rfl; have a2 := N1.at_ 2 rfl; have b0 := N2.at_ 0 rfl; have b1 := N2.at_ 1 rfl; have b2_ := N2.at_ 2 rfl; have D := Lib.hid (D.out.trans (hb.mono D.out.size)); clear hb))
      go_ret
      exact ⟨rfl, D.out⟩
  · have ti : ((OfD (RM x y)).e == 0) = false := by
      have : F.exq (RM x y) = 2047 := by
        rcases Classical.em (F.exq (RM x y) = 2047) with h | h
        · exact h
        · exact absurd ⟨br.1, br.2, h⟩ ei
      unfold OfD; rw [if_pos this]; rfl
    rw [ti] at VR
    generalize ((OfD y).e == 0) = oy at *
    generalize RM x y = r at *
    generalize (OfD r).d = dr at *
    generalize (OfD y).d = dy' at *
    clear ei ti hT hx hy br
    go_enter Tryd.func8, Tryd.ntmps8
    go_wp2_with (first
      | (go_at_call 9; (with_reducible refine (A1.out _ D.out).mono ?_); rintro e w1 ⟨rfl, hb⟩; have D := Lib.hid (D.out.trans (hb.mono D.out.size)); clear hb)
      | (go_at_call 16; (with_reducible refine (VR.out _ D.out).mono ?_); rintro e w2 ⟨b2, A2, n2, c2, x2, rfl, hv, hb⟩; have s := hb.alloc hb.size (.cells #[.bool b2, .slice A2 n2 c2, .int .i64 x2] 35); have N1 := Blk.new w2 35 #[.bool b2, .slice A2 n2 c2, .int .i64 x2]; have G1 := hv.below (al1 w2 (.cells #[.bool b2, .slice A2 n2 c2, .int .i64 x2] 35)); have D := Lib.hid (D.out.trans (s.mono D.out.size)); clear hv hb s)
      | (go_at_call 16; (with_reducible refine (VY.out _ D.out).mono ?_); rintro e w3 ⟨b3, A3, n3, c3, x3, rfl, hv, hb⟩; skip; have s := hb.alloc hb.size (.cells #[.bool b3, .slice A3 n3 c3, .int .i64 x3] 35); have N1 := N1.below s N1.lt; have G1 := G1.below s; have N2 := Blk.new w3 35 #[.bool b3, .slice A3 n3 c3, .int .i64 x3]; have G2 := hv.below (al1 w3 (.cells #[.bool b3, .slice A3 n3 c3, .int .i64 x3] 35)); have D := Lib.hid (D.out.trans (s.mono D.out.size)); clear hv hb s; have a0 := N1.at_ 0 rfl; have a1 := N1.at_ 1 rfl; have a2 := N1.at_ 2 rfl; have b0 := N2.at_ 0 rfl; have b1 := N2.at_ 1 rfl; have b2_ := N2.at_ 2 rfl)
      | (go_at_call 12; (with_reducible refine (LV.out _ D.out).mono ?_); rintro e w4 ⟨rfl, hb⟩; have N1 := N1.below hb N1.lt; have G1 := G1.below hb; have N2 := N2.below hb N2.lt; have G2 := G2.below hb; have a0 := N1.at_ 0 rfl; have a1 := N1.at_ 1 rfl; have a2 := N1.at_ 2 rfl; have b0 := N2.at_ 0 rfl; have b1 := N2.at_ 1 rfl; have b2_ := N2.at_ 2 rfl; have D := Lib.hid (D.out.trans (hb.mono D.out.size)); clear hb))
    go_ret
    exact ⟨rfl, D.out⟩
end JC
end Go.Proofs.YtpmjeipdldnnbaaDoor
