/-
  RoundCuts: the walk.
-/
import Derived.Test.YtjplemfdhhkbaaaDoorO4
namespace Go.Proofs.YtjplemfdhhkbaaaDoor
set_option linter.unusedVariables false
set_option linter.unusedSimpArgs false
open Go.RowKit
set_option linter.unusedVariables false
set_option linter.unusedSimpArgs false
namespace QC
open Z (Nz Tz cmpv big)
open ZC DC RC
set_option maxRecDepth 100000 in
set_option maxHeartbeats 8000000 in
/-- Cut hands back an error -/
theorem cuts_err (b : Bool) (A : Option Addr) (n c : Nat) (x : Int) (d : Dy) (E places mode : Int) (w : World) (h1 : DV w (.agg #[.bool b, .slice A n c, .int .i64 x]) d) (hT : NC.TabD w)
    (hr : CR d places mode = ⟨E, dz⟩) (hl : CL d places mode = false) (hE : (d.er ≠ 0 ∧ E = d.er) ∨ (d.er = 0 ∧ E = 1 ∧ ((mode < 0 ∨ 4 < mode) ∨ (0 ≤ mode ∧ mode ≤ 4 ∧ (places < -20000 ∨ 20000 < places))))) :
    Calls Tryd.prog 5 #[.agg #[.bool b, .slice A n c, .int .i64 x], .int .i64 places, .int .i64 mode] w fun e w' => e = .returned (.bool true) ∧ Below w.heap.size w w' := by
  have D0 := al1 w (.cells #[.bool b, .slice A n c, .int .i64 x] 25)
  have X0 := Blk.new w 25 #[.bool b, .slice A n c, .int .i64 x]
  obtain ⟨W0, hW0⟩ : ∃ W0, w.alloc (.cells #[.bool b, .slice A n c, .int .i64 x] 25) = W0 := ⟨_, rfl⟩
  rw [hW0] at D0 X0
  have V0 := h1.below D0
  have CU : Hid (Calls Tryd.prog 39 #[.agg #[.bool b, .slice A n c, .int .i64 x], .int .i64 places, .int .i64 mode] W0 (RetCt W0 ⟨E, dz⟩ false)) := by
    have := Cut_d _ d places mode W0 V0 (hT.below D0)
    rwa [hr, hl] at this
  have KB : Hid (∀ W, Below W0.heap.size W0 W → W.cell? ⟨w.heap.size, 0, none⟩ = some (.bool b) ∧ W.cell? ⟨w.heap.size, 1, none⟩ = some (.slice A n c) ∧ W.cell? ⟨w.heap.size, 2, none⟩ = some (.int .i64 x)) := fun W h => ⟨(X0.below h X0.lt).at_ 0 rfl, (X0.below h X0.lt).at_ 1 rfl, (X0.below h X0.lt).at_ 2 rfl⟩
  obtain ⟨E1, hE1⟩ : ∃ E1, d.er = E1 := ⟨_, rfl⟩
  have DR : Hid (∀ W, Below W0.heap.size W0 W → Calls Tryd.prog 16 #[.slice (some ⟨W.heap.size, 0, none⟩) 1 1] (W.alloc (.cells #[.bool b, .slice A n c, .int .i64 x] 25)) (DC.RetB (W.alloc (.cells #[.bool b, .slice A n c, .int .i64 x] 25)) (.int .i64 E1))) := fun W h => by
    rw [← hE1]
    have h4 := Blk.new W 25 #[.bool b, .slice A n c, .int .i64 x]
    exact VD.DyadRight1_c b A n c x d _ _ ((V0.below h).below (al1 W _)) h4.lt (h4.at_ 0 rfl) (h4.at_ 1 rfl) (h4.at_ 2 rfl)
  rw [hE1] at hE
  have HW0 := Lib.hid hW0
  have D0 := Lib.hid D0
  clear h1 hT hr hl X0 hW0 V0 hE1
  go_enter Tryd.func5, Tryd.ntmps5
  go_upto_region 2 with (first
    | (go_at_call 39; rw [HW0.out]; (with_reducible refine (CU.out).mono ?_); rintro e w1 ⟨b5, A5, n5, c5, x5, rfl, g5, hb⟩; have D1 := Lib.hid hb; clear hb))
  obtain ⟨rfl, rfl, rfl⟩ := (VD.none_iff g5).2 rfl
  have D2 : Below W0.heap.size W0 (w1.alloc (.cells #[.bool false, .slice A5 0 c5, .int .i64 0] 25)) := D1.out.alloc D1.out.size _
  have X2 := Blk.new w1 25 #[.bool false, .slice A5 0 c5, .int .i64 0]
  obtain ⟨W2, hW2⟩ : ∃ W2, w1.alloc (.cells #[.bool false, .slice A5 0 c5, .int .i64 0] 25) = W2 := ⟨_, rfl⟩
  obtain ⟨g7, hg7⟩ : ∃ g7, w1.heap.size = g7 := ⟨_, rfl⟩
  rw [hW2] at X2 D2 ⊢
  rw [hg7] at X2 ⊢
  have KC : Hid (∀ W, Below W2.heap.size W2 W → W.cell? ⟨g7, 0, none⟩ = some (.bool false) ∧ W.cell? ⟨g7, 1, none⟩ = some (.slice A5 0 c5) ∧ W.cell? ⟨g7, 2, none⟩ = some (.int .i64 0)) := fun W h => ⟨(X2.below h X2.lt).at_ 0 rfl, (X2.below h X2.lt).at_ 1 rfl, (X2.below h X2.lt).at_ 2 rfl⟩
  have NO : Hid (∀ W, Calls Tryd.prog 20 #[.agg #[.bool false, .slice A5 0 c5, .int .i64 0]] W (DC.RetB W (.bool true))) := fun W => by
    have := VD.NoDyad_c false A5 0 c5 0 W
    rwa [decide_eq_true (by exact ⟨rfl, rfl, rfl⟩)] at this
  obtain ⟨q0, q1, q2⟩ := KB.out _ D2
  have D2 := Lib.hid D2
  have D := Lib.hid (Below.refl W2.heap.size W2)
  clear hW2 hg7 X2 g5 D1 HW0 CU
  have hb3 : ∀ W o, Below W.heap.size W (W.alloc o) := fun W o => al1 W o
  rcases hE with ⟨h0, rfl⟩ | ⟨rfl, rfl, hm | ⟨hm1, hm2, hp⟩⟩
  · have t1 : (E == 0) = false := by simp [h0]
    have t2 : (E != 0) = true := by simp [h0]
    clear h0
    go_wp2_with (first
      | (go_at_call 16; (with_reducible refine (DR.out W2 D2.out).mono ?_); rintro e w3 ⟨rfl, hb⟩; have D := Lib.hid ((hb3 W2 _).trans (hb.mono (hb3 W2 _).size)); clear hb; obtain ⟨s0, s1, s2⟩ := KC.out _ D.out)
      | (go_at_call 20; (with_reducible refine (NO.out _).mono ?_); rintro e w4 ⟨rfl, hb⟩; have D := Lib.hid (D.out.trans (hb.mono D.out.size)); clear hb))
    go_ret
    exact ⟨by first | rfl | simp, D0.out.trans ((D2.out.trans (D.out.mono D2.out.size)).mono D0.out.size)⟩
  · have BF : Hid (∀ W, Calls Tryd.prog 24 #[.int .i64 mode, .int .i64 0, .int .i64 4] W fun e w' => e = .returned (.bool false) ∧ W = w') := fun W => FloatR.Between_f _ _ _ hm W
    clear hm
    go_wp2_with (first
      | (go_at_call 16; (with_reducible refine (DR.out W2 D2.out).mono ?_); rintro e w3 ⟨rfl, hb⟩; have D := Lib.hid ((hb3 W2 _).trans (hb.mono (hb3 W2 _).size)); clear hb; obtain ⟨s0, s1, s2⟩ := KC.out _ D.out)
      | (go_at_call 24; (with_reducible refine (BF.out _).mono ?_); rintro e w5 ⟨rfl, rfl⟩)
      | (go_at_call 20; (with_reducible refine (NO.out _).mono ?_); rintro e w4 ⟨rfl, hb⟩; have D := Lib.hid (D.out.trans (hb.mono D.out.size)); clear hb))
    go_ret
    exact ⟨by first | rfl | simp, D0.out.trans ((D2.out.trans (D.out.mono D2.out.size)).mono D0.out.size)⟩
  · have BT : Hid (∀ W, Calls Tryd.prog 24 #[.int .i64 mode, .int .i64 0, .int .i64 4] W fun e w' => e = .returned (.bool true) ∧ W = w') := fun W => FloatR.Between_t _ _ _ hm1 hm2 W
    have BF : Hid (∀ W, Calls Tryd.prog 24 #[.int .i64 places, .int .i64 (-20000), .int .i64 20000] W fun e w' => e = .returned (.bool false) ∧ W = w') := fun W => FloatR.Between_f _ _ _ hp W
    clear hm1 hm2 hp
    go_wp2_with (first
      | (go_at_call 16; (with_reducible refine (DR.out W2 D2.out).mono ?_); rintro e w3 ⟨rfl, hb⟩; have D := Lib.hid ((hb3 W2 _).trans (hb.mono (hb3 W2 _).size)); clear hb; obtain ⟨s0, s1, s2⟩ := KC.out _ D.out)
      | (go_at_call 24; (with_reducible refine (BT.out _).mono ?_); rintro e w5 ⟨rfl, rfl⟩)
      | (go_at_call 24; (with_reducible refine (BF.out _).mono ?_); rintro e w6 ⟨rfl, rfl⟩)
      | (go_at_call 20; (with_reducible refine (NO.out _).mono ?_); rintro e w4 ⟨rfl, hb⟩; have D := Lib.hid (D.out.trans (hb.mono D.out.size)); clear hb))
    go_ret
    exact ⟨by first | rfl | simp, D0.out.trans ((D2.out.trans (D.out.mono D2.out.size)).mono D0.out.size)⟩
set_option maxRecDepth 100000 in
set_option maxHeartbeats 8000000 in
/-- all is right -/
theorem cuts_ok (b : Bool) (A : Option Addr) (n c : Nat) (x : Int) (d : Dy) (places mode : Int) (w : World) (h1 : DV w (.agg #[.bool b, .slice A n c, .int .i64 x]) d) (hT : NC.TabD w) (he : d.er = 0) (hm : 0 ≤ mode ∧ mode ≤ 4) (hp : -20000 ≤ places ∧ places ≤ 20000) :
    Calls Tryd.prog 5 #[.agg #[.bool b, .slice A n c, .int .i64 x], .int .i64 places, .int .i64 mode] w fun e w' => e = .returned (.bool true) ∧ Below w.heap.size w w' := by
  have g := h1.good he
  have D0 := al1 w (.cells #[.bool b, .slice A n c, .int .i64 x] 25)
  have X0 := Blk.new w 25 #[.bool b, .slice A n c, .int .i64 x]
  obtain ⟨W0, hW0⟩ : ∃ W0, w.alloc (.cells #[.bool b, .slice A n c, .int .i64 x] 25) = W0 := ⟨_, rfl⟩
  rw [hW0] at D0 X0
  have V0 := h1.below D0
  obtain ⟨r, hr⟩ : ∃ r, CR d places mode = r := ⟨_, rfl⟩
  obtain ⟨l, hl⟩ : ∃ l, CL d places mode = l := ⟨_, rfl⟩
  have CU : Hid (Calls Tryd.prog 39 #[.agg #[.bool b, .slice A n c, .int .i64 x], .int .i64 places, .int .i64 mode] W0 (RetCt W0 r l)) := by
    have := Cut_d _ d places mode W0 V0 (hT.below D0)
    rwa [hr, hl] at this
  have KB : Hid (∀ W, Below W0.heap.size W0 W → W.cell? ⟨w.heap.size, 0, none⟩ = some (.bool b) ∧ W.cell? ⟨w.heap.size, 1, none⟩ = some (.slice A n c) ∧ W.cell? ⟨w.heap.size, 2, none⟩ = some (.int .i64 x)) := fun W h => ⟨(X0.below h X0.lt).at_ 0 rfl, (X0.below h X0.lt).at_ 1 rfl, (X0.below h X0.lt).at_ 2 rfl⟩
  have DR : Hid (∀ W, Below W0.heap.size W0 W → Calls Tryd.prog 16 #[.slice (some ⟨W.heap.size, 0, none⟩) 1 1] (W.alloc (.cells #[.bool b, .slice A n c, .int .i64 x] 25)) (DC.RetB (W.alloc (.cells #[.bool b, .slice A n c, .int .i64 x] 25)) (.int .i64 0))) := fun W h => by
    rw [← he]
    have h4 := Blk.new W 25 #[.bool b, .slice A n c, .int .i64 x]
    exact VD.DyadRight1_c b A n c x d _ _ ((V0.below h).below (al1 W _)) h4.lt (h4.at_ 0 rfl) (h4.at_ 1 rfl) (h4.at_ 2 rfl)
  have QO : Hid (∀ W, Below W0.heap.size W0 W → Calls Tryd.prog 34 #[.agg #[.bool b, .slice A n c, .int .i64 x]] W (RetV W (mkz d.m d.x) (mkt d.x))) := fun W h => QOf_d _ d W (V0.below h) he
  have CT : Hid (∀ W b A n c, ZL W b A n c (mkz d.m d.x) → Calls Tryd.prog 40 #[.agg #[.bool b, .slice A n c, .int .i64 (mkt d.x)], .int .i64 places, .int .i64 mode] W (RetCC W r l)) := fun W b A n c h => by
    have := CutTo_d b A n c d places mode W h g hm hp
    rwa [hr, hl] at this
  have TD : Hid (∀ W b5 A5 n5 c5 x5 b6 A6 n6 c6 t6 z6, GV W b5 A5 n5 c5 x5 r.d → ZL W b6 A6 n6 c6 z6 → Hid (z6.natAbs < 2 ^ 70000 ∧ 0 ≤ t6 ∧ t6 ≤ 20000 ∧ r = fin z6 (-t6)) → Calls Tryd.prog 21 #[.agg #[.bool b5, .slice A5 n5 c5, .int .i64 x5], .int .i64 r.e, .agg #[.bool b6, .slice A6 n6 c6, .int .i64 t6]] W (DC.RetB W (.bool true))) := fun W b5 A5 n5 c5 x5 b6 A6 n6 c6 t6 z6 k1 k2 k3 =>
    ToldDyad_c b5 A5 n5 c5 x5 r b6 A6 n6 c6 t6 z6 70000 20000 W k1 k2 k3.out.1 ⟨k3.out.2.1, k3.out.2.2.1⟩ (by decide) (by decide) k3.out.2.2.2
  have BT : Hid (∀ W, Calls Tryd.prog 24 #[.int .i64 mode, .int .i64 0, .int .i64 4] W fun e w' => e = .returned (.bool true) ∧ W = w') := fun W => FloatR.Between_t _ _ _ hm.1 hm.2 W
  have BP : Hid (∀ W, Calls Tryd.prog 24 #[.int .i64 places, .int .i64 (-20000), .int .i64 20000] W fun e w' => e = .returned (.bool true) ∧ W = w') := fun W => FloatR.Between_t _ _ _ hp.1 hp.2 W
  have HW0 := Lib.hid hW0
  have D0 := Lib.hid D0
  generalize mkt d.x = T at *
  clear h1 hT X0 hW0 V0 hr hl he hm hp g
  go_enter Tryd.func5, Tryd.ntmps5
  go_upto_region 2 with (first
    | (go_at_call 39; rw [HW0.out]; (with_reducible refine (CU.out).mono ?_); rintro e w1 ⟨b5, A5, n5, c5, x5, rfl, g5, hb⟩; have D1 := Lib.hid hb; clear hb))
  have D2 : Below W0.heap.size W0 (w1.alloc (.cells #[.bool b5, .slice A5 n5 c5, .int .i64 x5] 25)) := D1.out.alloc D1.out.size _
  have X2 := Blk.new w1 25 #[.bool b5, .slice A5 n5 c5, .int .i64 x5]
  have G2 := g5.below (al1 w1 (.cells #[.bool b5, .slice A5 n5 c5, .int .i64 x5] 25))
  obtain ⟨W2, hW2⟩ : ∃ W2, w1.alloc (.cells #[.bool b5, .slice A5 n5 c5, .int .i64 x5] 25) = W2 := ⟨_, rfl⟩
  obtain ⟨g7, hg7⟩ : ∃ g7, w1.heap.size = g7 := ⟨_, rfl⟩
  rw [hW2] at X2 D2 G2 ⊢
  rw [hg7] at X2 ⊢
  have KC : Hid (∀ W, Below W2.heap.size W2 W → (W.cell? ⟨g7, 0, none⟩ = some (.bool b5) ∧ W.cell? ⟨g7, 1, none⟩ = some (.slice A5 n5 c5) ∧ W.cell? ⟨g7, 2, none⟩ = some (.int .i64 x5)) ∧ (W.cell? ⟨w.heap.size, 0, none⟩ = some (.bool b) ∧ W.cell? ⟨w.heap.size, 1, none⟩ = some (.slice A n c) ∧ W.cell? ⟨w.heap.size, 2, none⟩ = some (.int .i64 x)) ∧ GV W b5 A5 n5 c5 x5 r.d ∧ Below W0.heap.size W0 W) := fun W h => ⟨⟨(X2.below h X2.lt).at_ 0 rfl, (X2.below h X2.lt).at_ 1 rfl, (X2.below h X2.lt).at_ 2 rfl⟩, KB.out W (D2.trans (h.mono D2.size)), G2.below h, D2.trans (h.mono D2.size)⟩
  obtain ⟨q0, q1, q2⟩ := KB.out _ D2
  have D2 := Lib.hid D2
  have D := Lib.hid (Below.refl W2.heap.size W2)
  clear hW2 hg7 X2 g5 D1 HW0 CU G2 KB
  have hb3 : ∀ W o, Below W.heap.size W (W.alloc o) := fun W o => al1 W o
  go_upto_region 8 with (first
    | (go_at_call 16; (with_reducible refine (DR.out W2 D2.out).mono ?_); rintro e w3 ⟨rfl, hb⟩; have D := Lib.hid ((hb3 W2 _).trans (hb.mono (hb3 W2 _).size)); clear hb; obtain ⟨⟨s0, s1, s2⟩, ⟨q0, q1, q2⟩, -, -⟩ := KC.out _ D.out)
    | (go_at_call 24; (with_reducible refine (BT.out _).mono ?_); rintro e w5 ⟨rfl, rfl⟩)
    | (go_at_call 24; (with_reducible refine (BP.out _).mono ?_); rintro e w6 ⟨rfl, rfl⟩)
    | (go_at_call 34; (with_reducible refine (QO.out _ (KC.out _ D.out).2.2.2).mono ?_); rintro e w7 ⟨b7, A7, n7, c7, rfl, h7, hb⟩; have D := Lib.hid (D.out.trans (hb.mono D.out.size)); have h7 := Lib.hid h7; clear hb)
    | (go_at_call 40; (with_reducible refine (CT.out _ _ _ _ _ h7.out).mono ?_); rintro e w8 ⟨b8, A8, n8, c8, t8, z8, k8, rfl, h8, i1, i2, i3, i4, i5, hb⟩; have D := Lib.hid (D.out.trans (hb.mono D.out.size)); have h8 := Lib.hid h8; have I8 := Lib.hid (And.intro i1 (And.intro i2 (And.intro i3 i4))); have I9 := Lib.hid i5; clear hb i1 i2 i3 i4 i5 h7))
  have D8 := Lib.hid (D.out.trans ((hb3 w8 (.cells #[.bool b8, .slice A8 n8 c8, .int .i64 t8] 42)).mono D.out.size))
  have X8 := Blk.new w8 42 #[.bool b8, .slice A8 n8 c8, .int .i64 t8]
  have V8 := Lib.hid (h8.out.alloc (.cells #[.bool b8, .slice A8 n8 c8, .int .i64 t8] 42))
  obtain ⟨W8, hW8⟩ : ∃ W8, w8.alloc (.cells #[.bool b8, .slice A8 n8 c8, .int .i64 t8] 42) = W8 := ⟨_, rfl⟩
  obtain ⟨g9, hg9⟩ : ∃ g9, w8.heap.size = g9 := ⟨_, rfl⟩
  rw [hW8] at D8 X8 V8 ⊢
  rw [hg9] at X8 ⊢
  have TD0 := Lib.hid (TD.out W8 _ _ _ _ _ _ _ _ _ _ _ (KC.out _ D8.out).2.2.1 V8.out I8)
  obtain ⟨⟨s0, s1, s2⟩, -⟩ := KC.out _ D8.out
  have u0 := X8.at_ 0 rfl; have u1 := X8.at_ 1 rfl; have u2 := X8.at_ 2 rfl
  have J9 := I9.out
  generalize r.e = e9 at *
  clear hW8 hg9 X8 V8 I8 I9 h8 TD CT QO DR KC BT BP D q0 q1 q2
  cases k8
  · obtain rfl : l = false := J9
    go_wp2_with (first
      | (go_at_call 21; (with_reducible refine (TD0.out).mono ?_); rintro e w9 ⟨rfl, hb⟩; have D := Lib.hid (D8.out.trans (hb.mono D8.out.size)); clear hb))
    go_ret
    exact ⟨by first | rfl | simp, D0.out.trans ((D2.out.trans (D.out.mono D2.out.size)).mono D0.out.size)⟩
  · by_cases h9 : e9 = 0
    · subst h9
      obtain rfl : l = true := by rw [J9]; rfl
      clear J9
      go_wp2_with (first
        | (go_at_call 21; (with_reducible refine (TD0.out).mono ?_); rintro e w9 ⟨rfl, hb⟩; have D := Lib.hid (D8.out.trans (hb.mono D8.out.size)); clear hb))
      go_ret
      exact ⟨by first | rfl | simp, D0.out.trans ((D2.out.trans (D.out.mono D2.out.size)).mono D0.out.size)⟩
    · obtain rfl : l = false := by rw [J9, decide_eq_false h9]; rfl
      have t1 : (e9 == 0) = false := by simp [h9]
      clear J9 h9
      go_wp2_with (first
        | (go_at_call 21; (with_reducible refine (TD0.out).mono ?_); rintro e w9 ⟨rfl, hb⟩; have D := Lib.hid (D8.out.trans (hb.mono D8.out.size)); clear hb))
      go_ret
      exact ⟨by first | rfl | simp, D0.out.trans ((D2.out.trans (D.out.mono D2.out.size)).mono D0.out.size)⟩
theorem cuts_c (u : Value) (d : Dy) (places mode : Int) (w : World) (h1 : DV w u d) (hT : NC.TabD w) :
    Calls Tryd.prog 5 #[u, .int .i64 places, .int .i64 mode] w fun e w' => e = .returned (.bool true) ∧ Below w.heap.size w w' := by
  have H1 := h1
  obtain ⟨b, A, n, c, x, l, rfl, -⟩ := H1
  by_cases he : d.er = 0
  · by_cases hm : 0 ≤ mode ∧ mode ≤ 4
    · by_cases hp : -20000 ≤ places ∧ places ≤ 20000
      · exact cuts_ok b A n c x d places mode w h1 hT he hm hp
      · refine cuts_err b A n c x d 1 places mode w h1 hT ?_ ?_ (.inr ⟨he, rfl, .inr ⟨hm.1, hm.2, by omega⟩⟩)
        · unfold CR; rw [if_neg (by simpa using he), if_pos (fun h => hp h.2)]
        · unfold CL; rw [if_pos (.inr (.inl (fun h => hp h.2)))]
    · refine cuts_err b A n c x d 1 places mode w h1 hT ?_ ?_ (.inr ⟨he, rfl, .inl (by omega)⟩)
      · unfold CR; rw [if_neg (by simpa using he), if_pos (fun h => hm h.1)]
      · unfold CL; rw [if_pos (.inr (.inl (fun h => hm h.1)))]
  · refine cuts_err b A n c x d d.er places mode w h1 hT ?_ ?_ (.inl ⟨he, rfl⟩)
    · unfold CR; rw [if_pos he]
    · unfold CL; rw [if_pos (.inl he)]
end QC
end Go.Proofs.YtjplemfdhhkbaaaDoor
