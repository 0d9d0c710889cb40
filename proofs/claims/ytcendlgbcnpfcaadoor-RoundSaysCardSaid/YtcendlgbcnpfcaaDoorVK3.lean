/-
  RoundSays: the walk.
-/
import Derived.Test.YtcendlgbcnpfcaaDoorV7
namespace Go.Proofs.YtcendlgbcnpfcaaDoor
set_option linter.unusedVariables false
set_option linter.unusedSimpArgs false
open Go.RowKit
set_option linter.unusedVariables false
set_option linter.unusedSimpArgs false
namespace VD
open Z (Nz Tz cmpv big)
open ZC DC RC QC
set_option maxRecDepth 100000 in
set_option maxHeartbeats 40000000 in
theorem says_c (ua ub : Value) (c d : Dy) (mode : Int) (w : World) (h1 : DV w ua c) (h2 : DV w ub d) (hT : NC.TabD w) :
    Calls Tryd.prog 5 #[ua, ub, .int .i64 mode] w fun e w' => e = .returned (.bool true) ∧ Below w.heap.size w w' := by
  have H1 := h1
  have H2 := h2
  obtain ⟨b1, A1, n1, c1, x1, l1, rfl, -⟩ := H1
  obtain ⟨b2, A2, n2, c2, x2, l2, rfl, -⟩ := H2
  obtain ⟨N1, N2, NS, D0⟩ := new2 w 25 25 #[.bool b1, .slice A1 n1 c1, .int .i64 x1] #[.bool b2, .slice A2 n2 c2, .int .i64 x2] 0
  rw [World.drewN_zero] at N1 N2 NS D0
  obtain ⟨W0, hW0⟩ : ∃ W0, (w.alloc (.cells #[.bool b1, .slice A1 n1 c1, .int .i64 x1] 25)).alloc (.cells #[.bool b2, .slice A2 n2 c2, .int .i64 x2] 25) = W0 := ⟨_, rfl⟩
  rw [hW0] at N1 N2 D0
  have Xa : BD W0 w.heap.size b1 A1 n1 c1 x1 c := ⟨BX.of N1, h1.below D0⟩
  have Xb : BD W0 (w.heap.size + 1) b2 A2 n2 c2 x2 d := ⟨BX.of N2, h2.below D0⟩
  have HT : Hid (∀ W : World, Below W0.heap.size W0 W → NC.TabD W) := fun W hW => (hT.below D0).below hW
  have HW0 := Lib.hid hW0
  have D := Lib.hid (Below.refl W0.heap.size W0)
  have TO : Hid (∀ (W : World) (u : Value), Below W0.heap.size W0 W → DV W u c → Calls Tryd.prog 40 #[u, .int .i64 mode] W (DC.RetB W (.tuple #[.int .u64 (TX c mode), .bool (TL c mode), .int .i64 (TE c mode)]))) := fun W u hW hu => To_d u _ mode W hu (HT.out W hW)
  have PA : Hid (∀ (W : World) (u v : Value), Below W0.heap.size W0 W → DV W u c → DV W v d → Calls Tryd.prog 41 #[u, v, .int .i64 mode] W (DC.RetB W (.tuple #[.int .u64 (PX c d mode), .bool (PL c d mode), .int .i64 (PE c d mode)]))) := fun W u v hW hu hv => Part_d u v c d mode W hu hv (HT.out W hW)
  have DR1 : Hid (∀ W : World, Below W0.heap.size W0 W → Calls Tryd.prog 17 #[.slice (some ⟨W.heap.size, 0, none⟩) 1 1] (W.alloc (.cells #[.bool b1, .slice A1 n1 c1, .int .i64 x1] 25)) (DC.RetB (W.alloc (.cells #[.bool b1, .slice A1 n1 c1, .int .i64 x1] 25)) (.int .i64 c.er))) := fun W hW => by
    have K := Blk.new W 25 #[.bool b1, .slice A1 n1 c1, .int .i64 x1]
    exact DyadRight1_c b1 A1 n1 c1 x1 c W.heap.size _ (((h1.below D0).below hW).below (al1 W _)) (by simp) (K.at_ 0 rfl) (K.at_ 1 rfl) (K.at_ 2 rfl)
  have DR2 : Hid (∀ W : World, Below W0.heap.size W0 W → Calls Tryd.prog 17 #[.slice (some ⟨W.heap.size, 0, none⟩) 2 2] (W.alloc (.cells #[.bool b1, .slice A1 n1 c1, .int .i64 x1, .bool b2, .slice A2 n2 c2, .int .i64 x2] 25)) (DC.RetB (W.alloc (.cells #[.bool b1, .slice A1 n1 c1, .int .i64 x1, .bool b2, .slice A2 n2 c2, .int .i64 x2] 25)) (.int .i64 (if c.er ≠ 0 then c.er else d.er)))) := fun W hW => by
    have K := Blk.new W 25 #[.bool b1, .slice A1 n1 c1, .int .i64 x1, .bool b2, .slice A2 n2 c2, .int .i64 x2]
    exact DyadRight2_c b1 A1 n1 c1 x1 c b2 A2 n2 c2 x2 d W.heap.size _ (((h1.below D0).below hW).below (al1 W _)) (((h2.below D0).below hW).below (al1 W _)) (by simp) (K.at_ 0 rfl) (K.at_ 1 rfl) (K.at_ 2 rfl) (K.at_ 3 rfl) (K.at_ 4 rfl) (K.at_ 5 rfl)
  have QO : Hid (c.er = 0 → ∀ (W : World) (u : Value), Below W0.heap.size W0 W → DV W u c → Calls Tryd.prog 35 #[u] W (RetS 22800 10000 W (S c))) := fun h0 W u hW hu => QOf_s u c W hu h0
  have OKc : c.er = 0 → Ok c := fun h0 => h1.good h0
  have LM : c.er = 0 → (390 < n1 ↔ 4294967296 ^ 390 ≤ (c.m.natAbs : Int)) := fun h0 => by
    obtain ⟨b', A', n', c', x', l, e, -, -, -, -, hg, -⟩ := h1
    injection e with e
    have e1 := congrArg Array.toList e
    simp only [List.cons.injEq, Value.bool.injEq, Value.slice.injEq, Value.int.injEq, and_true, true_and] at e1
    obtain ⟨rfl, ⟨rfl, rfl, rfl⟩, rfl⟩ := e1
    exact limbs_390 (hg h0).1
  have KD := kind (h2.below D0)
  have tx : (TX c mode != TX c mode) = false := by simp
  have tl : (TL c mode != TL c mode) = false := by simp
  have tpx : (PX c d mode == PX c d mode) = true := by simp
  have tpl : (PL c d mode == PL c d mode) = true := by simp
  have D0 := Lib.hid D0
  obtain ⟨PU, KU, ones⟩ : ∃ PU : World → Prop, Hid (∀ W, Below W0.heap.size W0 W → PU W) ∧ (((n2 = 0 ∧ (d.er = 0 → d.m = 0 ∧ isdir d = true ∧ b2 = false)) ∨ (((n2 : Int) == 1) = false ∧ (n2 : Int) > 0 ∧ (d.er = 0 → isdir d = false))) ∨ ∃ ad u, A2 = some ad ∧ n2 = 1 ∧ (PU = fun W => W.cell? ad = some (.int .u32 u)) ∧ (((u == 1) = false ∧ (d.er = 0 → isdir d = false)) ∨ (u = 1 ∧ (x2 == 0) = false ∧ (d.er = 0 → isdir d = false)) ∨ (u = 1 ∧ x2 = 0 ∧ (d.er = 0 → d.m = (if b2 = true then -1 else 1) ∧ isdir d = true)))) := by
    rcases KD with ⟨hn, hd⟩ | ⟨hn, hd⟩ | ⟨hn, ad, hA, hl, u, hu, h9, hd⟩ | ⟨hn, ad, hA, hl, hu, h9, hd⟩ | ⟨hn, ad, hA, hl, hu, h9, hd⟩
    · exact ⟨fun _ => True, fun _ _ => trivial, .inl (.inl ⟨hn, hd⟩)⟩
    · exact ⟨fun _ => True, fun _ _ => trivial, .inl (.inr ⟨by rw [beq_eq_false_iff_ne]; omega, by omega, hd⟩)⟩
    · exact ⟨_, fun W hW => (hW.cell (p := ad) hl).trans hu, .inr ⟨ad, u, hA, hn, rfl, .inl ⟨h9, hd⟩⟩⟩
    · exact ⟨_, fun W hW => (hW.cell (p := ad) hl).trans hu, .inr ⟨ad, 1, hA, hn, rfl, .inr (.inl ⟨rfl, h9, hd⟩)⟩⟩
    · exact ⟨_, fun W hW => (hW.cell (p := ad) hl).trans hu, .inr ⟨ad, 1, hA, hn, rfl, .inr (.inr ⟨rfl, h9, hd⟩)⟩⟩
  clear hW0 N1 N2 NS hT h1 h2 KD
  by_cases e1 : c.er = 0
  · have OK := OKc e1
    have QO : Hid (∀ (W : World) (u : Value), Below W0.heap.size W0 W → DV W u c → Calls Tryd.prog 35 #[u] W (RetS 22800 10000 W (S c))) := QO.out e1
    have LM := LM e1
    have d2 : (if c.er ≠ 0 then c.er else d.er) = d.er := if_neg (fun h => h e1)
    rw [d2] at DR2
    rw [e1] at DR1
    by_cases hm : 0 ≤ mode ∧ mode ≤ 4
    · have BT : Hid (∀ W : World, Calls Tryd.prog 25 #[.int .i64 mode, .int .i64 0, .int .i64 4] W fun e w' => e = .returned (.bool true) ∧ W = w') := fun W => FloatR.Between_t mode 0 4 hm.1 hm.2 W
      have te : TE c mode = 0 := by unfold TE; rw [if_neg (fun h => h e1), if_pos hm]
      rw [te] at TO
      have RT : Hid (∀ (W : World) (u : Value), QS 22800 10000 W u (S c) → Calls Tryd.prog 42 #[u, .int .i64 0, .int .i64 mode] W fun e w' => e = .returned (.tuple #[.int .u64 (TX c mode), .bool (TL c mode)]) ∧ Below W.heap.size W w') := fun W u h => Rounded_t h (by omega) (by omega) OK hm
      by_cases e2 : d.er = 0
      · rw [e2] at DR2
        have RPx : PE c d mode = 0 → Hid (∀ (W : World) (u : Value), QS 22800 10000 W u (S c) → Calls Tryd.prog 42 #[u, .int .i64 d.m, .int .i64 mode] W fun e w' => e = .returned (.tuple #[.int .u64 (PX c d mode), .bool (PL c d mode)]) ∧ Below W.heap.size W w') := fun hp => fun W u h => Rounded_p h (by omega) (by omega) OK hp
        have pe : PE c d mode = if isdir d = true then (if 390 < n1 then 2 else 0) else 1 := by
          unfold PE
          rw [if_neg (fun h => h e1), if_neg (fun h => h e2)]
          by_cases hi : isdir d = true
          · rw [if_neg (fun h => h ⟨hm, hi⟩), if_pos hi]
            by_cases h9 : 390 < n1
            · rw [if_pos (LM.1 h9), if_pos h9]
            · rw [if_neg (fun h => h9 (LM.2 h)), if_neg h9]
          · rw [if_pos (fun h => hi h.2), if_neg hi]
        have p0 : PE c d mode ≠ 0 → PX c d mode = 0 ∧ PL c d mode = false := fun h => by unfold PX PL; rw [if_neg h, if_neg h]; exact ⟨rfl, rfl⟩
        clear OKc LM OK hm d2 te e1
        rcases ones with (⟨rfl, hd⟩ | ⟨k1, k2, hd⟩) | ⟨ad, u, rfl, rfl, rfl, ⟨k1, hd⟩ | ⟨rfl, k1, hd⟩ | ⟨rfl, rfl, hd⟩⟩
        · obtain ⟨hd1, hd2, hb2⟩ := hd e2
          subst hb2
          by_cases h9 : 390 < n1
          · rw [if_pos hd2, if_pos h9] at pe
            rw [pe, (p0 (by rw [pe]; decide)).1, (p0 (by rw [pe]; decide)).2] at PA
            have h8 : (n1 : Int) > 390 := by omega
            clear RPx pe p0 hd hd1 hd2 h9 tpx tpl
            go_enter Tryd.func5, Tryd.ntmps5
            go_wp2_with (first
              | (go_at_call 40; rw [HW0.out]; (with_reducible refine (TO.out _ _ D.out Xa.dv).mono ?_); rintro e w1 ⟨rfl, hb⟩; have Xa := Xa.below hb; have Xb := Xb.below hb; have D := Lib.hid (D.out.trans (hb.mono D.out.size)); clear hb; obtain ⟨a_0, a_1, a_2⟩ := Xa.bx; obtain ⟨b_0, b_1, b_2⟩ := Xb.bx; have gu := KU.out _ D.out)
              | (go_at_call 41; (with_reducible refine (PA.out _ _ _ D.out Xa.dv Xb.dv).mono ?_); rintro e w2 ⟨rfl, hb⟩; have Xa := Xa.below hb; have Xb := Xb.below hb; have D := Lib.hid (D.out.trans (hb.mono D.out.size)); clear hb; obtain ⟨a_0, a_1, a_2⟩ := Xa.bx; obtain ⟨b_0, b_1, b_2⟩ := Xb.bx; have gu := KU.out _ D.out)
              | (go_at_call 17; (with_reducible refine (DR1.out w2 D.out).mono ?_); rintro e w3 ⟨rfl, hb⟩; have hb := (al1 w2 _).trans (hb.mono (by simp)); have Xa := Xa.below hb; have Xb := Xb.below hb; have D := Lib.hid (D.out.trans (hb.mono D.out.size)); clear hb; obtain ⟨a_0, a_1, a_2⟩ := Xa.bx; obtain ⟨b_0, b_1, b_2⟩ := Xb.bx; have gu := KU.out _ D.out)
              | (go_at_call 25; (with_reducible refine (BT.out _).mono ?_); rintro e w4 ⟨rfl, rfl⟩)
              | (go_at_call 35; (with_reducible refine (QO.out _ _ D.out Xa.dv).mono ?_); rintro e w5 ⟨b5, A5, n5, c5, t5, z5, rfl, hz, y1, y2, y3, y4, hb⟩; have Xa := Xa.below hb; have Xb := Xb.below hb; have Q5 := Lib.hid (RetS.qs hz y1 y2 y3 y4); have D := Lib.hid (D.out.trans (hb.mono D.out.size)); clear hb hz y1 y2 y3 y4; obtain ⟨a_0, a_1, a_2⟩ := Xa.bx; obtain ⟨b_0, b_1, b_2⟩ := Xb.bx; have gu := KU.out _ D.out)
              | (go_at_call 42; (with_reducible refine (RT.out _ _ Q5.out).mono ?_); rintro e w6 ⟨rfl, hb⟩; have Xa := Xa.below hb; have Xb := Xb.below hb; have D := Lib.hid (D.out.trans (hb.mono D.out.size)); clear hb Q5 RT; obtain ⟨a_0, a_1, a_2⟩ := Xa.bx; obtain ⟨b_0, b_1, b_2⟩ := Xb.bx; have gu := KU.out _ D.out)
              | (go_at_call 17; (with_reducible refine (DR2.out w6 D.out).mono ?_); rintro e w7 ⟨rfl, hb⟩; have hb := (al1 w6 _).trans (hb.mono (by simp)); have Xa := Xa.below hb; have Xb := Xb.below hb; have D := Lib.hid (D.out.trans (hb.mono D.out.size)); clear hb; obtain ⟨a_0, a_1, a_2⟩ := Xa.bx; obtain ⟨b_0, b_1, b_2⟩ := Xb.bx; have gu := KU.out _ D.out))
            go_ret
            exact ⟨rfl, D0.out.trans (D.out.mono D0.out.size)⟩
          · rw [if_pos hd2, if_neg h9] at pe
            have RP := RPx pe
            rw [hd1] at RP
            rw [pe] at PA
            have h8 : ¬ (n1 : Int) > 390 := by omega
            clear RPx pe p0 hd hd1 hd2 h9
            go_enter Tryd.func5, Tryd.ntmps5
            go_wp2_with (first
              | (go_at_call 40; rw [HW0.out]; (with_reducible refine (TO.out _ _ D.out Xa.dv).mono ?_); rintro e w1 ⟨rfl, hb⟩; have Xa := Xa.below hb; have Xb := Xb.below hb; have D := Lib.hid (D.out.trans (hb.mono D.out.size)); clear hb; obtain ⟨a_0, a_1, a_2⟩ := Xa.bx; obtain ⟨b_0, b_1, b_2⟩ := Xb.bx; have gu := KU.out _ D.out)
              | (go_at_call 41; (with_reducible refine (PA.out _ _ _ D.out Xa.dv Xb.dv).mono ?_); rintro e w2 ⟨rfl, hb⟩; have Xa := Xa.below hb; have Xb := Xb.below hb; have D := Lib.hid (D.out.trans (hb.mono D.out.size)); clear hb; obtain ⟨a_0, a_1, a_2⟩ := Xa.bx; obtain ⟨b_0, b_1, b_2⟩ := Xb.bx; have gu := KU.out _ D.out)
              | (go_at_call 17; (with_reducible refine (DR1.out w2 D.out).mono ?_); rintro e w3 ⟨rfl, hb⟩; have hb := (al1 w2 _).trans (hb.mono (by simp)); have Xa := Xa.below hb; have Xb := Xb.below hb; have D := Lib.hid (D.out.trans (hb.mono D.out.size)); clear hb; obtain ⟨a_0, a_1, a_2⟩ := Xa.bx; obtain ⟨b_0, b_1, b_2⟩ := Xb.bx; have gu := KU.out _ D.out)
              | (go_at_call 25; (with_reducible refine (BT.out _).mono ?_); rintro e w4 ⟨rfl, rfl⟩)
              | (go_at_call 35; (with_reducible refine (QO.out _ _ D.out Xa.dv).mono ?_); rintro e w5 ⟨b5, A5, n5, c5, t5, z5, rfl, hz, y1, y2, y3, y4, hb⟩; have Xa := Xa.below hb; have Xb := Xb.below hb; have Q5 := Lib.hid (RetS.qs hz y1 y2 y3 y4); have D := Lib.hid (D.out.trans (hb.mono D.out.size)); clear hb hz y1 y2 y3 y4; obtain ⟨a_0, a_1, a_2⟩ := Xa.bx; obtain ⟨b_0, b_1, b_2⟩ := Xb.bx; have gu := KU.out _ D.out)
              | (go_at_call 42; (with_reducible refine (RT.out _ _ Q5.out).mono ?_); rintro e w6 ⟨rfl, hb⟩; have Xa := Xa.below hb; have Xb := Xb.below hb; have D := Lib.hid (D.out.trans (hb.mono D.out.size)); clear hb Q5 RT; obtain ⟨a_0, a_1, a_2⟩ := Xa.bx; obtain ⟨b_0, b_1, b_2⟩ := Xb.bx; have gu := KU.out _ D.out)
              | (go_at_call 17; (with_reducible refine (DR2.out w6 D.out).mono ?_); rintro e w7 ⟨rfl, hb⟩; have hb := (al1 w6 _).trans (hb.mono (by simp)); have Xa := Xa.below hb; have Xb := Xb.below hb; have D := Lib.hid (D.out.trans (hb.mono D.out.size)); clear hb; obtain ⟨a_0, a_1, a_2⟩ := Xa.bx; obtain ⟨b_0, b_1, b_2⟩ := Xb.bx; have gu := KU.out _ D.out)
              | (go_at_call 42; (with_reducible refine (RP.out _ _ Q5.out).mono ?_); rintro e w9 ⟨rfl, hb⟩; have D := Lib.hid (D.out.trans (hb.mono D.out.size)); clear hb))
            go_ret
            exact ⟨rfl, D0.out.trans (D.out.mono D0.out.size)⟩
        · rw [if_neg (by rw [hd e2]; decide)] at pe
          rw [pe, (p0 (by rw [pe]; decide)).1, (p0 (by rw [pe]; decide)).2] at PA
          clear RPx pe p0 hd tpx tpl
          go_enter Tryd.func5, Tryd.ntmps5
          go_wp2_with (first
            | (go_at_call 40; rw [HW0.out]; (with_reducible refine (TO.out _ _ D.out Xa.dv).mono ?_); rintro e w1 ⟨rfl, hb⟩; have Xa := Xa.below hb; have Xb := Xb.below hb; have D := Lib.hid (D.out.trans (hb.mono D.out.size)); clear hb; obtain ⟨a_0, a_1, a_2⟩ := Xa.bx; obtain ⟨b_0, b_1, b_2⟩ := Xb.bx; have gu := KU.out _ D.out)
            | (go_at_call 41; (with_reducible refine (PA.out _ _ _ D.out Xa.dv Xb.dv).mono ?_); rintro e w2 ⟨rfl, hb⟩; have Xa := Xa.below hb; have Xb := Xb.below hb; have D := Lib.hid (D.out.trans (hb.mono D.out.size)); clear hb; obtain ⟨a_0, a_1, a_2⟩ := Xa.bx; obtain ⟨b_0, b_1, b_2⟩ := Xb.bx; have gu := KU.out _ D.out)
            | (go_at_call 17; (with_reducible refine (DR1.out w2 D.out).mono ?_); rintro e w3 ⟨rfl, hb⟩; have hb := (al1 w2 _).trans (hb.mono (by simp)); have Xa := Xa.below hb; have Xb := Xb.below hb; have D := Lib.hid (D.out.trans (hb.mono D.out.size)); clear hb; obtain ⟨a_0, a_1, a_2⟩ := Xa.bx; obtain ⟨b_0, b_1, b_2⟩ := Xb.bx; have gu := KU.out _ D.out)
            | (go_at_call 25; (with_reducible refine (BT.out _).mono ?_); rintro e w4 ⟨rfl, rfl⟩)
            | (go_at_call 35; (with_reducible refine (QO.out _ _ D.out Xa.dv).mono ?_); rintro e w5 ⟨b5, A5, n5, c5, t5, z5, rfl, hz, y1, y2, y3, y4, hb⟩; have Xa := Xa.below hb; have Xb := Xb.below hb; have Q5 := Lib.hid (RetS.qs hz y1 y2 y3 y4); have D := Lib.hid (D.out.trans (hb.mono D.out.size)); clear hb hz y1 y2 y3 y4; obtain ⟨a_0, a_1, a_2⟩ := Xa.bx; obtain ⟨b_0, b_1, b_2⟩ := Xb.bx; have gu := KU.out _ D.out)
            | (go_at_call 42; (with_reducible refine (RT.out _ _ Q5.out).mono ?_); rintro e w6 ⟨rfl, hb⟩; have Xa := Xa.below hb; have Xb := Xb.below hb; have D := Lib.hid (D.out.trans (hb.mono D.out.size)); clear hb Q5 RT; obtain ⟨a_0, a_1, a_2⟩ := Xa.bx; obtain ⟨b_0, b_1, b_2⟩ := Xb.bx; have gu := KU.out _ D.out)
            | (go_at_call 17; (with_reducible refine (DR2.out w6 D.out).mono ?_); rintro e w7 ⟨rfl, hb⟩; have hb := (al1 w6 _).trans (hb.mono (by simp)); have Xa := Xa.below hb; have Xb := Xb.below hb; have D := Lib.hid (D.out.trans (hb.mono D.out.size)); clear hb; obtain ⟨a_0, a_1, a_2⟩ := Xa.bx; obtain ⟨b_0, b_1, b_2⟩ := Xb.bx; have gu := KU.out _ D.out))
          go_ret
          exact ⟨rfl, D0.out.trans (D.out.mono D0.out.size)⟩
        · rw [if_neg (by rw [hd e2]; decide)] at pe
          rw [pe, (p0 (by rw [pe]; decide)).1, (p0 (by rw [pe]; decide)).2] at PA
          clear RPx pe p0 hd tpx tpl
          go_enter Tryd.func5, Tryd.ntmps5
          go_wp2_with (first
            | (go_at_call 40; rw [HW0.out]; (with_reducible refine (TO.out _ _ D.out Xa.dv).mono ?_); rintro e w1 ⟨rfl, hb⟩; have Xa := Xa.below hb; have Xb := Xb.below hb; have D := Lib.hid (D.out.trans (hb.mono D.out.size)); clear hb; obtain ⟨a_0, a_1, a_2⟩ := Xa.bx; obtain ⟨b_0, b_1, b_2⟩ := Xb.bx; have gu := KU.out _ D.out)
            | (go_at_call 41; (with_reducible refine (PA.out _ _ _ D.out Xa.dv Xb.dv).mono ?_); rintro e w2 ⟨rfl, hb⟩; have Xa := Xa.below hb; have Xb := Xb.below hb; have D := Lib.hid (D.out.trans (hb.mono D.out.size)); clear hb; obtain ⟨a_0, a_1, a_2⟩ := Xa.bx; obtain ⟨b_0, b_1, b_2⟩ := Xb.bx; have gu := KU.out _ D.out)
            | (go_at_call 17; (with_reducible refine (DR1.out w2 D.out).mono ?_); rintro e w3 ⟨rfl, hb⟩; have hb := (al1 w2 _).trans (hb.mono (by simp)); have Xa := Xa.below hb; have Xb := Xb.below hb; have D := Lib.hid (D.out.trans (hb.mono D.out.size)); clear hb; obtain ⟨a_0, a_1, a_2⟩ := Xa.bx; obtain ⟨b_0, b_1, b_2⟩ := Xb.bx; have gu := KU.out _ D.out)
            | (go_at_call 25; (with_reducible refine (BT.out _).mono ?_); rintro e w4 ⟨rfl, rfl⟩)
            | (go_at_call 35; (with_reducible refine (QO.out _ _ D.out Xa.dv).mono ?_); rintro e w5 ⟨b5, A5, n5, c5, t5, z5, rfl, hz, y1, y2, y3, y4, hb⟩; have Xa := Xa.below hb; have Xb := Xb.below hb; have Q5 := Lib.hid (RetS.qs hz y1 y2 y3 y4); have D := Lib.hid (D.out.trans (hb.mono D.out.size)); clear hb hz y1 y2 y3 y4; obtain ⟨a_0, a_1, a_2⟩ := Xa.bx; obtain ⟨b_0, b_1, b_2⟩ := Xb.bx; have gu := KU.out _ D.out)
            | (go_at_call 42; (with_reducible refine (RT.out _ _ Q5.out).mono ?_); rintro e w6 ⟨rfl, hb⟩; have Xa := Xa.below hb; have Xb := Xb.below hb; have D := Lib.hid (D.out.trans (hb.mono D.out.size)); clear hb Q5 RT; obtain ⟨a_0, a_1, a_2⟩ := Xa.bx; obtain ⟨b_0, b_1, b_2⟩ := Xb.bx; have gu := KU.out _ D.out)
            | (go_at_call 17; (with_reducible refine (DR2.out w6 D.out).mono ?_); rintro e w7 ⟨rfl, hb⟩; have hb := (al1 w6 _).trans (hb.mono (by simp)); have Xa := Xa.below hb; have Xb := Xb.below hb; have D := Lib.hid (D.out.trans (hb.mono D.out.size)); clear hb; obtain ⟨a_0, a_1, a_2⟩ := Xa.bx; obtain ⟨b_0, b_1, b_2⟩ := Xb.bx; have gu := KU.out _ D.out))
          go_ret
          exact ⟨rfl, D0.out.trans (D.out.mono D0.out.size)⟩
        · rw [if_neg (by rw [hd e2]; decide)] at pe
          rw [pe, (p0 (by rw [pe]; decide)).1, (p0 (by rw [pe]; decide)).2] at PA
          clear RPx pe p0 hd tpx tpl
          go_enter Tryd.func5, Tryd.ntmps5
          go_wp2_with (first
            | (go_at_call 40; rw [HW0.out]; (with_reducible refine (TO.out _ _ D.out Xa.dv).mono ?_); rintro e w1 ⟨rfl, hb⟩; have Xa := Xa.below hb; have Xb := Xb.below hb; have D := Lib.hid (D.out.trans (hb.mono D.out.size)); clear hb; obtain ⟨a_0, a_1, a_2⟩ := Xa.bx; obtain ⟨b_0, b_1, b_2⟩ := Xb.bx; have gu := KU.out _ D.out)
            | (go_at_call 41; (with_reducible refine (PA.out _ _ _ D.out Xa.dv Xb.dv).mono ?_); rintro e w2 ⟨rfl, hb⟩; have Xa := Xa.below hb; have Xb := Xb.below hb; have D := Lib.hid (D.out.trans (hb.mono D.out.size)); clear hb; obtain ⟨a_0, a_1, a_2⟩ := Xa.bx; obtain ⟨b_0, b_1, b_2⟩ := Xb.bx; have gu := KU.out _ D.out)
            | (go_at_call 17; (with_reducible refine (DR1.out w2 D.out).mono ?_); rintro e w3 ⟨rfl, hb⟩; have hb := (al1 w2 _).trans (hb.mono (by simp)); have Xa := Xa.below hb; have Xb := Xb.below hb; have D := Lib.hid (D.out.trans (hb.mono D.out.size)); clear hb; obtain ⟨a_0, a_1, a_2⟩ := Xa.bx; obtain ⟨b_0, b_1, b_2⟩ := Xb.bx; have gu := KU.out _ D.out)
            | (go_at_call 25; (with_reducible refine (BT.out _).mono ?_); rintro e w4 ⟨rfl, rfl⟩)
            | (go_at_call 35; (with_reducible refine (QO.out _ _ D.out Xa.dv).mono ?_); rintro e w5 ⟨b5, A5, n5, c5, t5, z5, rfl, hz, y1, y2, y3, y4, hb⟩; have Xa := Xa.below hb; have Xb := Xb.below hb; have Q5 := Lib.hid (RetS.qs hz y1 y2 y3 y4); have D := Lib.hid (D.out.trans (hb.mono D.out.size)); clear hb hz y1 y2 y3 y4; obtain ⟨a_0, a_1, a_2⟩ := Xa.bx; obtain ⟨b_0, b_1, b_2⟩ := Xb.bx; have gu := KU.out _ D.out)
            | (go_at_call 42; (with_reducible refine (RT.out _ _ Q5.out).mono ?_); rintro e w6 ⟨rfl, hb⟩; have Xa := Xa.below hb; have Xb := Xb.below hb; have D := Lib.hid (D.out.trans (hb.mono D.out.size)); clear hb Q5 RT; obtain ⟨a_0, a_1, a_2⟩ := Xa.bx; obtain ⟨b_0, b_1, b_2⟩ := Xb.bx; have gu := KU.out _ D.out)
            | (go_at_call 17; (with_reducible refine (DR2.out w6 D.out).mono ?_); rintro e w7 ⟨rfl, hb⟩; have hb := (al1 w6 _).trans (hb.mono (by simp)); have Xa := Xa.below hb; have Xb := Xb.below hb; have D := Lib.hid (D.out.trans (hb.mono D.out.size)); clear hb; obtain ⟨a_0, a_1, a_2⟩ := Xa.bx; obtain ⟨b_0, b_1, b_2⟩ := Xb.bx; have gu := KU.out _ D.out))
          go_ret
          exact ⟨rfl, D0.out.trans (D.out.mono D0.out.size)⟩
        · obtain ⟨hd1, hd2⟩ := hd e2
          by_cases h9 : 390 < n1
          · rw [if_pos hd2, if_pos h9] at pe
            rw [pe, (p0 (by rw [pe]; decide)).1, (p0 (by rw [pe]; decide)).2] at PA
            have h8 : (n1 : Int) > 390 := by omega
            clear RPx pe p0 hd hd1 hd2 h9 tpx tpl
            go_enter Tryd.func5, Tryd.ntmps5
            go_wp2_with (first
              | (go_at_call 40; rw [HW0.out]; (with_reducible refine (TO.out _ _ D.out Xa.dv).mono ?_); rintro e w1 ⟨rfl, hb⟩; have Xa := Xa.below hb; have Xb := Xb.below hb; have D := Lib.hid (D.out.trans (hb.mono D.out.size)); clear hb; obtain ⟨a_0, a_1, a_2⟩ := Xa.bx; obtain ⟨b_0, b_1, b_2⟩ := Xb.bx; have gu := KU.out _ D.out)
              | (go_at_call 41; (with_reducible refine (PA.out _ _ _ D.out Xa.dv Xb.dv).mono ?_); rintro e w2 ⟨rfl, hb⟩; have Xa := Xa.below hb; have Xb := Xb.below hb; have D := Lib.hid (D.out.trans (hb.mono D.out.size)); clear hb; obtain ⟨a_0, a_1, a_2⟩ := Xa.bx; obtain ⟨b_0, b_1, b_2⟩ := Xb.bx; have gu := KU.out _ D.out)
              | (go_at_call 17; (with_reducible refine (DR1.out w2 D.out).mono ?_); rintro e w3 ⟨rfl, hb⟩; have hb := (al1 w2 _).trans (hb.mono (by simp)); have Xa := Xa.below hb; have Xb := Xb.below hb; have D := Lib.hid (D.out.trans (hb.mono D.out.size)); clear hb; obtain ⟨a_0, a_1, a_2⟩ := Xa.bx; obtain ⟨b_0, b_1, b_2⟩ := Xb.bx; have gu := KU.out _ D.out)
              | (go_at_call 25; (with_reducible refine (BT.out _).mono ?_); rintro e w4 ⟨rfl, rfl⟩)
              | (go_at_call 35; (with_reducible refine (QO.out _ _ D.out Xa.dv).mono ?_); rintro e w5 ⟨b5, A5, n5, c5, t5, z5, rfl, hz, y1, y2, y3, y4, hb⟩; have Xa := Xa.below hb; have Xb := Xb.below hb; have Q5 := Lib.hid (RetS.qs hz y1 y2 y3 y4); have D := Lib.hid (D.out.trans (hb.mono D.out.size)); clear hb hz y1 y2 y3 y4; obtain ⟨a_0, a_1, a_2⟩ := Xa.bx; obtain ⟨b_0, b_1, b_2⟩ := Xb.bx; have gu := KU.out _ D.out)
              | (go_at_call 42; (with_reducible refine (RT.out _ _ Q5.out).mono ?_); rintro e w6 ⟨rfl, hb⟩; have Xa := Xa.below hb; have Xb := Xb.below hb; have D := Lib.hid (D.out.trans (hb.mono D.out.size)); clear hb Q5 RT; obtain ⟨a_0, a_1, a_2⟩ := Xa.bx; obtain ⟨b_0, b_1, b_2⟩ := Xb.bx; have gu := KU.out _ D.out)
              | (go_at_call 17; (with_reducible refine (DR2.out w6 D.out).mono ?_); rintro e w7 ⟨rfl, hb⟩; have hb := (al1 w6 _).trans (hb.mono (by simp)); have Xa := Xa.below hb; have Xb := Xb.below hb; have D := Lib.hid (D.out.trans (hb.mono D.out.size)); clear hb; obtain ⟨a_0, a_1, a_2⟩ := Xa.bx; obtain ⟨b_0, b_1, b_2⟩ := Xb.bx; have gu := KU.out _ D.out))
            go_ret
            exact ⟨rfl, D0.out.trans (D.out.mono D0.out.size)⟩
          · rw [if_pos hd2, if_neg h9] at pe
            have RP := RPx pe
            rw [hd1] at RP
            rw [pe] at PA
            have h8 : ¬ (n1 : Int) > 390 := by omega
            clear RPx pe p0 hd hd1 hd2 h9
            cases b2 <;> simp only [if_true, Bool.false_eq_true, if_false] at RP
            all_goals (
              go_enter Tryd.func5, Tryd.ntmps5
              go_wp2_with (first
                | (go_at_call 40; rw [HW0.out]; (with_reducible refine (TO.out _ _ D.out Xa.dv).mono ?_); rintro e w1 ⟨rfl, hb⟩; have Xa := Xa.below hb; have Xb := Xb.below hb; have D := Lib.hid (D.out.trans (hb.mono D.out.size)); clear hb; obtain ⟨a_0, a_1, a_2⟩ := Xa.bx; obtain ⟨b_0, b_1, b_2⟩ := Xb.bx; have gu := KU.out _ D.out)
                | (go_at_call 41; (with_reducible refine (PA.out _ _ _ D.out Xa.dv Xb.dv).mono ?_); rintro e w2 ⟨rfl, hb⟩; have Xa := Xa.below hb; have Xb := Xb.below hb; have D := Lib.hid (D.out.trans (hb.mono D.out.size)); clear hb; obtain ⟨a_0, a_1, a_2⟩ := Xa.bx; obtain ⟨b_0, b_1, b_2⟩ := Xb.bx; have gu := KU.out _ D.out)
                | (go_at_call 17; (with_reducible refine (DR1.out w2 D.out).mono ?_); rintro e w3 ⟨rfl, hb⟩; have hb := (al1 w2 _).trans (hb.mono (by simp)); have Xa := Xa.below hb; have Xb := Xb.below hb; have D := Lib.hid (D.out.trans (hb.mono D.out.size)); clear hb; obtain ⟨a_0, a_1, a_2⟩ := Xa.bx; obtain ⟨b_0, b_1, b_2⟩ := Xb.bx; have gu := KU.out _ D.out)
                | (go_at_call 25; (with_reducible refine (BT.out _).mono ?_); rintro e w4 ⟨rfl, rfl⟩)
                | (go_at_call 35; (with_reducible refine (QO.out _ _ D.out Xa.dv).mono ?_); rintro e w5 ⟨b5, A5, n5, c5, t5, z5, rfl, hz, y1, y2, y3, y4, hb⟩; have Xa := Xa.below hb; have Xb := Xb.below hb; have Q5 := Lib.hid (RetS.qs hz y1 y2 y3 y4); have D := Lib.hid (D.out.trans (hb.mono D.out.size)); clear hb hz y1 y2 y3 y4; obtain ⟨a_0, a_1, a_2⟩ := Xa.bx; obtain ⟨b_0, b_1, b_2⟩ := Xb.bx; have gu := KU.out _ D.out)
                | (go_at_call 42; (with_reducible refine (RT.out _ _ Q5.out).mono ?_); rintro e w6 ⟨rfl, hb⟩; have Xa := Xa.below hb; have Xb := Xb.below hb; have D := Lib.hid (D.out.trans (hb.mono D.out.size)); clear hb Q5 RT; obtain ⟨a_0, a_1, a_2⟩ := Xa.bx; obtain ⟨b_0, b_1, b_2⟩ := Xb.bx; have gu := KU.out _ D.out)
                | (go_at_call 17; (with_reducible refine (DR2.out w6 D.out).mono ?_); rintro e w7 ⟨rfl, hb⟩; have hb := (al1 w6 _).trans (hb.mono (by simp)); have Xa := Xa.below hb; have Xb := Xb.below hb; have D := Lib.hid (D.out.trans (hb.mono D.out.size)); clear hb; obtain ⟨a_0, a_1, a_2⟩ := Xa.bx; obtain ⟨b_0, b_1, b_2⟩ := Xb.bx; have gu := KU.out _ D.out)
                | (go_at_call 42; (with_reducible refine (RP.out _ _ Q5.out).mono ?_); rintro e w9 ⟨rfl, hb⟩; have D := Lib.hid (D.out.trans (hb.mono D.out.size)); clear hb))
              go_ret
              exact ⟨rfl, D0.out.trans (D.out.mono D0.out.size)⟩)
      · have pe : PE c d mode = d.er := by unfold PE; rw [if_neg (fun h => h e1), if_pos e2]
        have t2 : (d.er != 0) = true := by simp [e2]
        have p0 : PX c d mode = 0 ∧ PL c d mode = false := by unfold PX PL; rw [if_neg (by rw [pe]; exact e2), if_neg (by rw [pe]; exact e2)]; exact ⟨rfl, rfl⟩
        rw [pe, p0.1, p0.2] at PA
        have t3 : (d.er == d.er) = true := by simp
        generalize d.er = E2 at *
        clear OKc LM OK hm d2 te e1 e2 pe p0 tpx tpl
        rcases ones with (⟨rfl, hd⟩ | ⟨k1, k2, hd⟩) | ⟨ad, u, rfl, rfl, rfl, ⟨k1, hd⟩ | ⟨rfl, k1, hd⟩ | ⟨rfl, rfl, hd⟩⟩
        all_goals (
          clear hd
          go_enter Tryd.func5, Tryd.ntmps5
          go_wp2_with (first
            | (go_at_call 40; rw [HW0.out]; (with_reducible refine (TO.out _ _ D.out Xa.dv).mono ?_); rintro e w1 ⟨rfl, hb⟩; have Xa := Xa.below hb; have Xb := Xb.below hb; have D := Lib.hid (D.out.trans (hb.mono D.out.size)); clear hb; obtain ⟨a_0, a_1, a_2⟩ := Xa.bx; obtain ⟨b_0, b_1, b_2⟩ := Xb.bx; have gu := KU.out _ D.out)
            | (go_at_call 41; (with_reducible refine (PA.out _ _ _ D.out Xa.dv Xb.dv).mono ?_); rintro e w2 ⟨rfl, hb⟩; have Xa := Xa.below hb; have Xb := Xb.below hb; have D := Lib.hid (D.out.trans (hb.mono D.out.size)); clear hb; obtain ⟨a_0, a_1, a_2⟩ := Xa.bx; obtain ⟨b_0, b_1, b_2⟩ := Xb.bx; have gu := KU.out _ D.out)
            | (go_at_call 17; (with_reducible refine (DR1.out w2 D.out).mono ?_); rintro e w3 ⟨rfl, hb⟩; have hb := (al1 w2 _).trans (hb.mono (by simp)); have Xa := Xa.below hb; have Xb := Xb.below hb; have D := Lib.hid (D.out.trans (hb.mono D.out.size)); clear hb; obtain ⟨a_0, a_1, a_2⟩ := Xa.bx; obtain ⟨b_0, b_1, b_2⟩ := Xb.bx; have gu := KU.out _ D.out)
            | (go_at_call 25; (with_reducible refine (BT.out _).mono ?_); rintro e w4 ⟨rfl, rfl⟩)
            | (go_at_call 35; (with_reducible refine (QO.out _ _ D.out Xa.dv).mono ?_); rintro e w5 ⟨b5, A5, n5, c5, t5, z5, rfl, hz, y1, y2, y3, y4, hb⟩; have Xa := Xa.below hb; have Xb := Xb.below hb; have Q5 := Lib.hid (RetS.qs hz y1 y2 y3 y4); have D := Lib.hid (D.out.trans (hb.mono D.out.size)); clear hb hz y1 y2 y3 y4; obtain ⟨a_0, a_1, a_2⟩ := Xa.bx; obtain ⟨b_0, b_1, b_2⟩ := Xb.bx; have gu := KU.out _ D.out)
            | (go_at_call 42; (with_reducible refine (RT.out _ _ Q5.out).mono ?_); rintro e w6 ⟨rfl, hb⟩; have Xa := Xa.below hb; have Xb := Xb.below hb; have D := Lib.hid (D.out.trans (hb.mono D.out.size)); clear hb Q5 RT; obtain ⟨a_0, a_1, a_2⟩ := Xa.bx; obtain ⟨b_0, b_1, b_2⟩ := Xb.bx; have gu := KU.out _ D.out)
            | (go_at_call 17; (with_reducible refine (DR2.out w6 D.out).mono ?_); rintro e w7 ⟨rfl, hb⟩; have hb := (al1 w6 _).trans (hb.mono (by simp)); have Xa := Xa.below hb; have Xb := Xb.below hb; have D := Lib.hid (D.out.trans (hb.mono D.out.size)); clear hb; obtain ⟨a_0, a_1, a_2⟩ := Xa.bx; obtain ⟨b_0, b_1, b_2⟩ := Xb.bx; have gu := KU.out _ D.out))
          go_ret
          exact ⟨rfl, D0.out.trans (D.out.mono D0.out.size)⟩)
    · have BT : Hid (∀ W : World, Calls Tryd.prog 25 #[.int .i64 mode, .int .i64 0, .int .i64 4] W fun e w' => e = .returned (.bool false) ∧ W = w') := fun W => FloatR.Between_f mode 0 4 (by omega) W
      have te : TE c mode = 1 ∧ TX c mode = 0 ∧ TL c mode = false := by
        unfold TE TX TL; rw [if_neg (fun h => h e1), if_neg hm, if_neg (fun h => hm h.2), if_neg (fun h => hm h.2)]; exact ⟨rfl, rfl, rfl⟩
      rw [te.1, te.2.1, te.2.2] at TO
      have pe : PE c d mode = (if d.er ≠ 0 then d.er else 1) := by
        unfold PE; rw [if_neg (fun h => h e1)]
        by_cases e2 : d.er ≠ 0
        · rw [if_pos e2, if_pos e2]
        · rw [if_neg e2, if_neg e2, if_pos (fun h => hm h.1)]
      have pn : PE c d mode ≠ 0 := by rw [pe]; split <;> omega
      have p0 : PX c d mode = 0 ∧ PL c d mode = false := by unfold PX PL; rw [if_neg pn, if_neg pn]; exact ⟨rfl, rfl⟩
      rw [pe, p0.1, p0.2] at PA
      have es : (d.er = 0) ∨ ((d.er != 0) = true ∧ (d.er == d.er) = true) := by
        by_cases e2 : d.er = 0
        · exact .inl e2
        · exact .inr ⟨by simp [e2], by simp⟩
      have PA0 : d.er = 0 → (if d.er ≠ 0 then d.er else 1) = 1 := fun h => if_neg (fun h9 => h9 h)
      have PA1 : (d.er != 0) = true → (if d.er ≠ 0 then d.er else 1) = d.er := fun h => if_pos (by simpa using h)
      clear OKc LM OK hm d2 te e1 pe p0 pn tpx tpl tx tl QO
      rcases es with e2 | ⟨t2, t3⟩
      · rw [PA0 e2] at PA
        rw [e2] at DR2
        clear PA0 PA1 e2
        rcases ones with (⟨rfl, hd⟩ | ⟨k1, k2, hd⟩) | ⟨ad, u, rfl, rfl, rfl, ⟨k1, hd⟩ | ⟨rfl, k1, hd⟩ | ⟨rfl, rfl, hd⟩⟩
        all_goals (
          clear hd
          go_enter Tryd.func5, Tryd.ntmps5
          go_wp2_with (first
            | (go_at_call 40; rw [HW0.out]; (with_reducible refine (TO.out _ _ D.out Xa.dv).mono ?_); rintro e w1 ⟨rfl, hb⟩; have Xa := Xa.below hb; have Xb := Xb.below hb; have D := Lib.hid (D.out.trans (hb.mono D.out.size)); clear hb; obtain ⟨a_0, a_1, a_2⟩ := Xa.bx; obtain ⟨b_0, b_1, b_2⟩ := Xb.bx; have gu := KU.out _ D.out)
            | (go_at_call 41; (with_reducible refine (PA.out _ _ _ D.out Xa.dv Xb.dv).mono ?_); rintro e w2 ⟨rfl, hb⟩; have Xa := Xa.below hb; have Xb := Xb.below hb; have D := Lib.hid (D.out.trans (hb.mono D.out.size)); clear hb; obtain ⟨a_0, a_1, a_2⟩ := Xa.bx; obtain ⟨b_0, b_1, b_2⟩ := Xb.bx; have gu := KU.out _ D.out)
            | (go_at_call 17; (with_reducible refine (DR1.out w2 D.out).mono ?_); rintro e w3 ⟨rfl, hb⟩; have hb := (al1 w2 _).trans (hb.mono (by simp)); have Xa := Xa.below hb; have Xb := Xb.below hb; have D := Lib.hid (D.out.trans (hb.mono D.out.size)); clear hb; obtain ⟨a_0, a_1, a_2⟩ := Xa.bx; obtain ⟨b_0, b_1, b_2⟩ := Xb.bx; have gu := KU.out _ D.out)
            | (go_at_call 25; (with_reducible refine (BT.out _).mono ?_); rintro e w4 ⟨rfl, rfl⟩)
            | (go_at_call 17; (with_reducible refine (DR2.out w3 D.out).mono ?_); rintro e w7 ⟨rfl, hb⟩; have hb := (al1 w3 _).trans (hb.mono (by simp)); have Xa := Xa.below hb; have Xb := Xb.below hb; have D := Lib.hid (D.out.trans (hb.mono D.out.size)); clear hb; obtain ⟨a_0, a_1, a_2⟩ := Xa.bx; obtain ⟨b_0, b_1, b_2⟩ := Xb.bx; have gu := KU.out _ D.out))
          go_ret
          exact ⟨rfl, D0.out.trans (D.out.mono D0.out.size)⟩)
      · rw [PA1 t2] at PA
        clear PA0 PA1
        generalize d.er = E2 at *
        rcases ones with (⟨rfl, hd⟩ | ⟨k1, k2, hd⟩) | ⟨ad, u, rfl, rfl, rfl, ⟨k1, hd⟩ | ⟨rfl, k1, hd⟩ | ⟨rfl, rfl, hd⟩⟩
        all_goals (
          clear hd
          go_enter Tryd.func5, Tryd.ntmps5
          go_wp2_with (first
            | (go_at_call 40; rw [HW0.out]; (with_reducible refine (TO.out _ _ D.out Xa.dv).mono ?_); rintro e w1 ⟨rfl, hb⟩; have Xa := Xa.below hb; have Xb := Xb.below hb; have D := Lib.hid (D.out.trans (hb.mono D.out.size)); clear hb; obtain ⟨a_0, a_1, a_2⟩ := Xa.bx; obtain ⟨b_0, b_1, b_2⟩ := Xb.bx; have gu := KU.out _ D.out)
            | (go_at_call 41; (with_reducible refine (PA.out _ _ _ D.out Xa.dv Xb.dv).mono ?_); rintro e w2 ⟨rfl, hb⟩; have Xa := Xa.below hb; have Xb := Xb.below hb; have D := Lib.hid (D.out.trans (hb.mono D.out.size)); clear hb; obtain ⟨a_0, a_1, a_2⟩ := Xa.bx; obtain ⟨b_0, b_1, b_2⟩ := Xb.bx; have gu := KU.out _ D.out)
            | (go_at_call 17; (with_reducible refine (DR1.out w2 D.out).mono ?_); rintro e w3 ⟨rfl, hb⟩; have hb := (al1 w2 _).trans (hb.mono (by simp)); have Xa := Xa.below hb; have Xb := Xb.below hb; have D := Lib.hid (D.out.trans (hb.mono D.out.size)); clear hb; obtain ⟨a_0, a_1, a_2⟩ := Xa.bx; obtain ⟨b_0, b_1, b_2⟩ := Xb.bx; have gu := KU.out _ D.out)
            | (go_at_call 25; (with_reducible refine (BT.out _).mono ?_); rintro e w4 ⟨rfl, rfl⟩)
            | (go_at_call 17; (with_reducible refine (DR2.out w3 D.out).mono ?_); rintro e w7 ⟨rfl, hb⟩; have hb := (al1 w3 _).trans (hb.mono (by simp)); have Xa := Xa.below hb; have Xb := Xb.below hb; have D := Lib.hid (D.out.trans (hb.mono D.out.size)); clear hb; obtain ⟨a_0, a_1, a_2⟩ := Xa.bx; obtain ⟨b_0, b_1, b_2⟩ := Xb.bx; have gu := KU.out _ D.out))
          go_ret
          exact ⟨rfl, D0.out.trans (D.out.mono D0.out.size)⟩)
  · have t1 : (c.er == 0) = false := by simp [e1]
    have t2 : (c.er != 0) = true := by simp [e1]
    have t3 : (c.er != c.er) = false := by simp
    have t4 : (c.er == c.er) = true := by simp
    have te : TE c mode = c.er ∧ TX c mode = 0 ∧ TL c mode = false := by
      unfold TE TX TL; rw [if_pos e1, if_neg (fun h => e1 h.1), if_neg (fun h => e1 h.1)]; exact ⟨rfl, rfl, rfl⟩
    have pe : PE c d mode = c.er := by unfold PE; rw [if_pos e1]
    have pn : PE c d mode ≠ 0 := by rw [pe]; exact e1
    have p0 : PX c d mode = 0 ∧ PL c d mode = false := by unfold PX PL; rw [if_neg pn, if_neg pn]; exact ⟨rfl, rfl⟩
    have d2 : (if c.er ≠ 0 then c.er else d.er) = c.er := if_pos e1
    rw [te.1, te.2.1, te.2.2] at TO
    rw [pe, p0.1, p0.2] at PA
    rw [d2] at DR2
    clear OKc LM QO te pe pn p0 d2 e1 tpx tpl tx tl
    generalize c.er = E1 at *
    rcases ones with (⟨rfl, hd⟩ | ⟨k1, k2, hd⟩) | ⟨ad, u, rfl, rfl, rfl, ⟨k1, hd⟩ | ⟨rfl, k1, hd⟩ | ⟨rfl, rfl, hd⟩⟩
    all_goals (
      clear hd
      go_enter Tryd.func5, Tryd.ntmps5
      go_wp2_with (first
        | (go_at_call 40; rw [HW0.out]; (with_reducible refine (TO.out _ _ D.out Xa.dv).mono ?_); rintro e w1 ⟨rfl, hb⟩; have Xa := Xa.below hb; have Xb := Xb.below hb; have D := Lib.hid (D.out.trans (hb.mono D.out.size)); clear hb; obtain ⟨a_0, a_1, a_2⟩ := Xa.bx; obtain ⟨b_0, b_1, b_2⟩ := Xb.bx; have gu := KU.out _ D.out)
        | (go_at_call 41; (with_reducible refine (PA.out _ _ _ D.out Xa.dv Xb.dv).mono ?_); rintro e w2 ⟨rfl, hb⟩; have Xa := Xa.below hb; have Xb := Xb.below hb; have D := Lib.hid (D.out.trans (hb.mono D.out.size)); clear hb; obtain ⟨a_0, a_1, a_2⟩ := Xa.bx; obtain ⟨b_0, b_1, b_2⟩ := Xb.bx; have gu := KU.out _ D.out)
        | (go_at_call 17; (with_reducible refine (DR1.out w2 D.out).mono ?_); rintro e w3 ⟨rfl, hb⟩; have hb := (al1 w2 _).trans (hb.mono (by simp)); have Xa := Xa.below hb; have Xb := Xb.below hb; have D := Lib.hid (D.out.trans (hb.mono D.out.size)); clear hb; obtain ⟨a_0, a_1, a_2⟩ := Xa.bx; obtain ⟨b_0, b_1, b_2⟩ := Xb.bx; have gu := KU.out _ D.out)
        | (go_at_call 17; (with_reducible refine (DR2.out w3 D.out).mono ?_); rintro e w7 ⟨rfl, hb⟩; have hb := (al1 w3 _).trans (hb.mono (by simp)); have Xa := Xa.below hb; have Xb := Xb.below hb; have D := Lib.hid (D.out.trans (hb.mono D.out.size)); clear hb; obtain ⟨a_0, a_1, a_2⟩ := Xa.bx; obtain ⟨b_0, b_1, b_2⟩ := Xb.bx; have gu := KU.out _ D.out))
      go_ret
      exact ⟨rfl, D0.out.trans (D.out.mono D0.out.size)⟩)
end VD
end Go.Proofs.YtcendlgbcnpfcaaDoor
