/-
  GrowSign: the walk.
-/
import Derived.Test.YtelblhgagpkjmaaDoorXG9
namespace Go.Proofs.YtelblhgagpkjmaaDoor
set_option linter.unusedVariables false
set_option linter.unusedSimpArgs false
open Go.RowKit
set_option linter.unusedVariables false
set_option linter.unusedSimpArgs false
namespace XC
open L NC NK DC RC SC PC QC IC
open Z (cmpv)
set_option maxRecDepth 100000 in
set_option maxHeartbeats 16000000 in
theorem signX_c (A : Option Addr) (n c : Nat) (L : List Int) (w : World) (hs : Sl .u64 w (.slice A n c) L) (hu : u64s L) (hl : L.length ≤ 9223372036854775807) (hT : TabD w) :
    Calls Tryd.prog 6 #[.slice A n c] w fun e w' => e = .returned (.bool true) ∧ Below w.heap.size w w' := by
  have HT : Hid (∀ W : World, Below w.heap.size w W → TabD W) := fun W hW => hT.below hW
  have D := Lib.hid (Below.refl w.heap.size w)
  have LIV : Hid (∀ W : World, Below w.heap.size w W → Calls Tryd.prog 20 #[] W fun e w' => e = .returned (.bool true) ∧ Below W.heap.size W w') := fun W hW => livesG_c W (HT.out W hW)
  have SN : Hid (∀ W : World, Below w.heap.size w W → Calls Tryd.prog 26 #[.slice A n c] W (DC.RetB W (.tuple #[.int .i64 (gSn L).1, .int .i64 (gSn L).2]))) := fun W hW => Sign_g A n c L W (hs.below hW) hu hl (HT.out W hW)
  have VA : Hid (∀ W : World, Below w.heap.size w W → Calls Tryd.prog 18 #[.slice A n c] W (DC.RetD W (gVa L))) := fun W hW => Value_g A n c L W (hs.below hW) hu hl (HT.out W hW)
  have en : n = L.length := sl_len hs
  by_cases h : gCk L = 0
  · obtain ⟨e1, e2⟩ := gsign h
    obtain ⟨v1, v2, v3⟩ := gVa_ok h
    rw [e1] at SN
    rw [re_eq' _ v1] at VA
    have CM : Hid (∀ (W : World) (u v : Value), Below w.heap.size w W → DV W u (gVa L).d → DV W v dz → Calls Tryd.prog 27 #[u, v] W (DC.RetB W (.tuple #[.int .i64 (cmpv (vs L) 0), .int .i64 0]))) := fun W u v hW hu' hv' => by
      have := Cmp_d u v _ dz W hu' hv' (HT.out W hW)
      have z0 : S dz = 0 := sc_zero.2 rfl
      rw [cmpn_S v2 ok_dz, v3, z0] at this
      have e0 : Cmpe (gVa L).d dz = 0 := ee0.2 ⟨v2.1, rfl⟩
      rwa [e0] at this
    have hb : (cmpv (vs L) 0 = 0 ∧ n = 0) ∨ (¬ cmpv (vs L) 0 = 0 ∧ ¬ n = 0) := by
      rcases Classical.em (L = []) with q | q
      · exact .inl ⟨e2.2 q, by rw [en, q]; rfl⟩
      · exact .inr ⟨fun k => q (e2.1 k), fun k => q (by rw [en] at k; exact List.length_eq_zero_iff.1 k)⟩
    have O2 : Hid (∀ W : World, Calls Tryd.prog 22 #[.slice (some ⟨W.heap.size, 0, none⟩) 2 2] (W.alloc (.cells #[.int .i64 0, .int .i64 0] 23)) fun e w' => e = .returned (.bool true) ∧ W.alloc (.cells #[.int .i64 0, .int .i64 0] 23) = w') := fun W => okn W [0, 0] (by simp) rfl
    generalize cmpv (vs L) 0 = k at *
    generalize (gVa L).d = d at *
    clear e1 e2 v1 v2 v3 h hs hu hl hT en
    dsimp only at SN VA
    have ZD : Hid (∀ W : World, DV W (.agg #[.bool false, .slice none 0 0, .int .i64 0]) dz) := fun W => (GV.zero W).dv
    rcases hb with ⟨rfl, rfl⟩ | ⟨hk, hn⟩
    · go_enter Tryd.func6, Tryd.ntmps6
      go_wp2_with (first
        | (go_at_call 26; (with_reducible refine (SN.out _ D.out).mono ?_); rintro e w1 ⟨rfl, hb⟩; have D := Lib.hid (D.out.trans (hb.mono D.out.size)); clear hb)
        | (go_at_call 18; (with_reducible refine (VA.out _ D.out).mono ?_); rintro e w2 ⟨bv, Av, nv, cv, xv, rfl, hv, hb⟩; have s := hb.alloc hb.size (.cells #[.bool bv, .slice Av nv cv, .int .i64 xv] 43); have Xv := BD.new hv.dv; have D := Lib.hid (D.out.trans (s.mono D.out.size)); clear hv hb s)
        | (go_at_call 20; (with_reducible refine (LIV.out _ D.out).mono ?_); rintro e w3 ⟨rfl, hb⟩; have Xv := Xv.below hb; have D := Lib.hid (D.out.trans (hb.mono D.out.size)); clear hb; obtain ⟨v_0, v_1, v_2⟩ := Xv.bx)
        | (go_at_call 27; (with_reducible refine (CM.out _ _ _ D.out Xv.dv (ZD.out _)).mono ?_); rintro e w4 ⟨rfl, hb⟩; have Xv := Xv.below hb; have D := Lib.hid (D.out.trans (hb.mono D.out.size)); clear hb)
        | (go_at_call 22; (with_reducible refine (O2.out w4).mono ?_); rintro e w5 ⟨rfl, hw⟩; have s := al1 w4 (.cells #[.int .i64 0, .int .i64 0] 23); rw [hw] at s; clear hw; have Xv := Xv.below s; have D := Lib.hid (D.out.trans (s.mono D.out.size)); clear s))
      go_ret
      exact ⟨rfl, D.out⟩
    · go_enter Tryd.func6, Tryd.ntmps6
      go_wp2_with (first
        | (go_at_call 26; (with_reducible refine (SN.out _ D.out).mono ?_); rintro e w1 ⟨rfl, hb⟩; have D := Lib.hid (D.out.trans (hb.mono D.out.size)); clear hb)
        | (go_at_call 18; (with_reducible refine (VA.out _ D.out).mono ?_); rintro e w2 ⟨bv, Av, nv, cv, xv, rfl, hv, hb⟩; have s := hb.alloc hb.size (.cells #[.bool bv, .slice Av nv cv, .int .i64 xv] 43); have Xv := BD.new hv.dv; have D := Lib.hid (D.out.trans (s.mono D.out.size)); clear hv hb s)
        | (go_at_call 20; (with_reducible refine (LIV.out _ D.out).mono ?_); rintro e w3 ⟨rfl, hb⟩; have Xv := Xv.below hb; have D := Lib.hid (D.out.trans (hb.mono D.out.size)); clear hb; obtain ⟨v_0, v_1, v_2⟩ := Xv.bx)
        | (go_at_call 27; (with_reducible refine (CM.out _ _ _ D.out Xv.dv (ZD.out _)).mono ?_); rintro e w4 ⟨rfl, hb⟩; have Xv := Xv.below hb; have D := Lib.hid (D.out.trans (hb.mono D.out.size)); clear hb)
        | (go_at_call 22; (with_reducible refine (O2.out w4).mono ?_); rintro e w5 ⟨rfl, hw⟩; have s := al1 w4 (.cells #[.int .i64 0, .int .i64 0] 23); rw [hw] at s; clear hw; have Xv := Xv.below s; have D := Lib.hid (D.out.trans (s.mono D.out.size)); clear s))
      go_ret
      exact ⟨by rw [show (k == 0) = false by simpa using hk, show ((n : Int) == 0) = false by simp; omega]; rfl, D.out⟩
  · have e1 : gSn L = (0, gCk L) := by unfold gSn; rw [if_neg h]
    have e2 : gVa L = ⟨gCk L, dz⟩ := by unfold gVa; rw [if_neg h]
    rw [e1] at SN
    rw [e2] at VA
    have k : (gCk L != 0) = true := by simpa using h
    generalize gCk L = er at *
    clear e1 e2 h hs hu hl hT en
    dsimp only at SN VA
    go_enter Tryd.func6, Tryd.ntmps6
    go_wp2_with (first
      | (go_at_call 26; (with_reducible refine (SN.out _ D.out).mono ?_); rintro e w1 ⟨rfl, hb⟩; have D := Lib.hid (D.out.trans (hb.mono D.out.size)); clear hb)
      | (go_at_call 18; (with_reducible refine (VA.out _ D.out).mono ?_); rintro e w2 ⟨bv, Av, nv, cv, xv, rfl, hv, hb⟩; have s := hb.alloc hb.size (.cells #[.bool bv, .slice Av nv cv, .int .i64 xv] 43); have Xv := BD.new hv.dv; have D := Lib.hid (D.out.trans (s.mono D.out.size)); clear hv hb s)
      | (go_at_call 20; (with_reducible refine (LIV.out _ D.out).mono ?_); rintro e w3 ⟨rfl, hb⟩; have Xv := Xv.below hb; have D := Lib.hid (D.out.trans (hb.mono D.out.size)); clear hb))
    go_ret
    exact ⟨rfl, D.out⟩
end XC
end Go.Proofs.YtelblhgagpkjmaaDoor
