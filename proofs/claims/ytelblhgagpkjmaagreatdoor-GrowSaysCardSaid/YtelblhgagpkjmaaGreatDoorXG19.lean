/-
  GrowSays: the walk.
-/
import Derived.Test.YtelblhgagpkjmaaGreatDoorXG17
import Derived.Test.YtelblhgagpkjmaaGreatDoorXG18
import Derived.Test.YtelblhgagpkjmaaGreatDoorO5
import Derived.Test.YtelblhgagpkjmaaGreatDoorF13
namespace Go.Proofs.YtelblhgagpkjmaaGreatDoor
set_option linter.unusedVariables false
set_option linter.unusedSimpArgs false
open Go.RowKit
set_option linter.unusedVariables false
set_option linter.unusedSimpArgs false
namespace XC
open Z (Nz Tz cmpv big)
open ZC DC RC QC SC VC PC
theorem gJe_cons {O : List Int} {y : Int} {t : List Int} : gJe O (y :: t) = if (gAd O y).1 = 0 then gJe (gAd O y).2 t else ((gAd O y).1, []) := by rw [gJe]
theorem gAd_er {L : List Int} {x : Int} (h : gCk L ≠ 0) : gAd L x = (gCk L, []) := by unfold gAd; rw [if_neg h]
theorem gAd_no {L : List Int} {x : Int} (h : gCk L = 0) (fx : fi x) (hA : AG x L = none) : gAd L x = (2, []) := by unfold gAd; rw [if_pos h, if_neg fx.2.2, hA]
theorem gAd_ok {L H : List Int} {x : Int} (h : gCk L = 0) (fx : fi x) (hA : AG x L = some H) : gAd L x = (0, H) := by unfold gAd; rw [if_pos h, if_neg fx.2.2, hA]
theorem equal_g (s t : Value) (L : List Int) (w : World) (hs : Sl .u64 w s L) (ht : Sl .u64 w t L) (bL : L.length ≤ 9223372036854775807) : Calls Tryz.prog 16 #[s, t] w (DC.RetB w (.bool true)) := by
  refine (AC.Equal64_c s t L L w hs ht bL bL).mono ?_
  rintro e w' ⟨rfl, n, rfl⟩
  have h := Below.refl w.heap.size w
  exact ⟨by simp, ⟨h.os, h.tape, h.output, h.size, h.block⟩⟩
set_option maxRecDepth 100000 in
set_option maxHeartbeats 32000000 in
theorem saysG_c (A : Option Addr) (n c : Nat) (B : Option Addr) (m d : Nat) (La Lb : List Int) (x : Int) (w : World) (hs : Sl .u64 w (.slice A n c) La) (hs' : Sl .u64 w (.slice B m d) Lb) (hu : u64s La) (hu' : u64s Lb) (hl : La.length ≤ 9223372036854775807) (hl' : Lb.length ≤ 9223372036854775807) (hx : 0 ≤ x ∧ x ≤ 18446744073709551615) (hT : NC.TabD w) :
    Calls Tryz.prog 3 #[.slice A n c, .slice B m d, .int .u64 x] w fun e w' => e = .returned (.bool true) ∧ Below w.heap.size w w' := by
  have HT : Hid (∀ W : World, Below w.heap.size w W → NC.TabD W) := fun W hW => hT.below hW
  have D := Lib.hid (Below.refl w.heap.size w)
  have VA : Hid (∀ W : World, Below w.heap.size w W → Calls Tryz.prog 4 #[.slice A n c] W (DC.RetD W (gVa La))) := fun W hW => Value_g A n c La W (hs.below hW) hu hl (HT.out W hW)
  have SN : Hid (∀ W : World, Below w.heap.size w W → Calls Tryz.prog 5 #[.slice A n c] W (DC.RetB W (.tuple #[.int .i64 (gSn La).1, .int .i64 (gSn La).2]))) := fun W hW => Sign_g A n c La W (hs.below hW) hu hl (HT.out W hW)
  have AD : Hid (∀ W : World, Below w.heap.size w W → Calls Tryz.prog 6 #[.slice A n c, .int .u64 x] W (RetL W (gAd La x).1 (gAd La x).2)) := fun W hW => Add_g A n c La x W (hs.below hW) hu hl hx (HT.out W hW)
  have JO : Hid (∀ W : World, Below w.heap.size w W → Calls Tryz.prog 7 #[.slice A n c, .slice B m d] W (RetL W (gJo La Lb).1 (gJo La Lb).2)) := fun W hW => Join_g A n c B m d La Lb W (hs.below hW) (hs'.below hW) hu hu' hl hl' (HT.out W hW)
  have CK : Hid (∀ W : World, Below w.heap.size w W → Calls Tryz.prog 9 #[.slice A n c] W (DC.RetB W (.int .i64 (gCk La)))) := fun W hW => Check_g A n c La W (hs.below hW) hu hl (HT.out W hW)
  have PA : Hid (∀ W : World, Below w.heap.size w W → Calls Tryz.prog 8 #[.slice A n c] W (DC.RetB W (.int .i64 (gCk La)))) := fun W hW => PartsRight_c rfl A n c La W (hs.below hW) hu hl
  have PB : Hid (∀ W : World, Below w.heap.size w W → Calls Tryz.prog 8 #[.slice B m d] W (DC.RetB W (.int .i64 (gCk Lb)))) := fun W hW => PartsRight_c rfl B m d Lb W (hs'.below hW) hu' hl'
  have NO : Hid (∀ (W : World) (b : Bool) (A : Option Addr) (n c : Nat) (x : Int), GV W b A n c x dz → Calls Tryz.prog 10 #[.agg #[.bool b, .slice A n c, .int .i64 x]] W (DC.RetB W (.bool true))) := fun W b A n c x h => by
    have := VD.NoDyad_c b A n c x W
    rwa [decide_eq_true ((VD.none_iff h).2 rfl)] at this
  by_cases k : gCk La = 0
  · have eJ : gJo La Lb = if gCk Lb = 0 then gJe La Lb else (gCk Lb, []) := by unfold gJo; rw [if_pos k]
    obtain ⟨l6, iX⟩ := gCk_0.1 k
    obtain ⟨v1, v2, v3⟩ := gVa_ok k
    obtain ⟨sg, -⟩ := gsign k
    rw [sg] at SN
    rw [re_eq' _ v1] at VA
    rw [k] at CK PA
    have fa := gCk_fi k
    have SA : Hid (∀ W : World, Below w.heap.size w W → Calls Tryz.prog 11 #[.slice A n c] W (RetS 2200 1100 W (vs La))) := fun W hW => SumAll_c rfl A n c La W (hs.below hW) fa l6
    have TD : Hid (∀ (W : World) (b : Bool) (A : Option Addr) (n c : Nat) (x : Int) (u : Value), GV W b A n c x (gVa La).d → QS 2200 1100 W u (vs La) → Calls Tryz.prog 12 #[.agg #[.bool b, .slice A n c, .int .i64 x], .int .i64 0, u] W (DC.RetB W (.bool true))) := fun W b A n c x u h1 h2 => told_s (r := ⟨0, (gVa La).d⟩) h1 h2 (by omega) (by omega) (fin_self v2.1 fun _ => ⟨v2.2.1, v2.2.2⟩).symm (v3 : sc (gVa La).d.m (gVa La).d.x = vs La) (by have := v2.2.2.2.2.1; omega)
    have CQ : Hid (∀ (W : World) (u : Value), QS 2200 1100 W u (vs La) → Calls Tryz.prog 13 #[u, .agg #[.bool false, .slice none 0 0, .int .i64 0]] W fun e w' => e = .returned (.int .i64 (cmpv (vs La) 0)) ∧ Below W.heap.size W w') := fun W u h => QCmp_s h (qs_zero W) (by omega) (by omega) (by omega) (by omega)
    have HV : Hid (∀ W : World, Calls Tryz.prog 14 #[.int .u64 x] W (fun e w' => e = .returned (.bool (!decide (F.exq x = 2047))) ∧ W = w')) := fun W => GC.HasVal_c x W hx
    have EQ : Hid (∀ (W : World) (s t : Value) (L : List Int), Sl .u64 W s L → Sl .u64 W t L → L.length ≤ 9223372036854775807 → Calls Tryz.prog 16 #[s, t] W (DC.RetB W (.bool true))) := fun W s t L h1 h2 h3 => equal_g s t L W h1 h2 h3
    have GX : Hid (∀ (W : World), fi x → Below w.heap.size w W → Calls Tryz.prog 15 #[.slice A n c, .int .u64 x] W (RetLb W (AG x La).isSome ((AG x La).getD []))) := fun W fx hW => Grown_c A n c La x W (hs.below hW) fa fx (by omega)
    have GO : Hid (∀ (W : World) (A : Option Addr) (n c : Nat) (O : List Int) (y : Int), Sl .u64 W (.slice A n c) O → gCk O = 0 → fi y → Calls Tryz.prog 15 #[.slice A n c, .int .u64 y] W (RetLb W (AG y O).isSome ((AG y O).getD []))) := fun W A n c O y h1 h2 h3 => Grown_c A n c O y W h1 (gCk_fi h2) h3 (by have := (gCk_0.1 h2).1; omega)
    have PO : Hid (∀ (W : World) (A : Option Addr) (n c : Nat) (O : List Int), Sl .u64 W (.slice A n c) O → u64s O → O.length ≤ 1000 → Calls Tryz.prog 8 #[.slice A n c] W (DC.RetB W (.int .i64 (gCk O)))) := fun W A n c O h1 h2 h3 => PartsRight_c rfl A n c O W h1 h2 (by omega)
    have SB : Hid (∀ W : World, Below w.heap.size w W → Sl .u64 W (.slice B m d) Lb) := fun W h => hs'.below h
    have SAa : Hid (∀ W : World, Below w.heap.size w W → Sl .u64 W (.slice A n c) La) := fun W h => hs.below h
    have HU := Lib.hid hu
    have HM : Hid (m = Lb.length) := sl_len hs'
    have HN : Hid (n = La.length ∧ La.length ≤ 60) := ⟨sl_len hs, l6⟩
    have UB := Lib.hid hu'
    have ubA := Lib.hid (gAd_bd hu hx)
    have ubJ := Lib.hid (gJo_bd hu hu')
    generalize (gVa La).d = dv at *
    generalize cmpv (vs La) 0 = sn at *
    obtain ⟨sv, hsv⟩ : ∃ sv, sv = vs La := ⟨_, rfl⟩
    rw [← hsv] at SA TD CQ
    have K0 := Lib.hid k
    dsimp only at SN
    clear v1 v2 v3 sg hsv iX l6 fa hT hs hs' hl hl'
    obtain ⟨tj, htj⟩ : ∃ t, t = gJo La Lb := ⟨_, rfl⟩
    rw [← htj] at JO ubJ eJ
    clear htj
    obtain ⟨ej, J⟩ := tj
    dsimp only at JO
    have kb : (gCk Lb ≠ 0 ∧ ej = gCk Lb ∧ J = []) ∨ (gCk Lb = 0 ∧ (ej, J) = gJe La Lb) := by
      by_cases q : gCk Lb = 0
      · rw [if_pos q] at eJ; exact .inr ⟨q, eJ⟩
      · rw [if_neg q] at eJ
        injection eJ with q1 q2
        exact .inl ⟨q, q1, q2⟩
    clear eJ
    rcases kb with ⟨kb, rfl, rfl⟩ | ⟨kb, hJ⟩
    · have kk : (gCk Lb != 0) = true := by simpa using kb
      generalize gCk Lb = eb at *
      clear kb ubJ
      by_cases hv : F.exq x = 2047
      · have ea : gAd La x = (4, []) := by unfold gAd; rw [if_pos K0.out, if_pos hv]
        rw [ea] at AD
        rw [decide_eq_true hv] at HV
        clear ea hv GX hx ubA
        go_enter Tryz.func3, Tryz.ntmps3
        go_wp2_with (first
          | (go_at_call 4; (with_reducible refine (VA.out _ D.out).mono ?_); rintro e w1 ⟨bv, Av, nv, cv, xv, rfl, hv, hb⟩; have s := hb.alloc hb.size (.cells #[.bool bv, .slice Av nv cv, .int .i64 xv] 26); have Xv := Lib.hid (BX.new w1 bv Av nv cv xv); have Gv := Lib.hid (hv.below (al1 w1 (.cells #[.bool bv, .slice Av nv cv, .int .i64 xv] 26))); have D := Lib.hid (D.out.trans (s.mono D.out.size)); clear hv hb s)
          | (go_at_call 5; (with_reducible refine (SN.out _ D.out).mono ?_); rintro e w2 ⟨rfl, hb⟩; have Xv := Lib.hid (Xv.out.below hb); have Gv := Lib.hid (Gv.out.below hb); have D := Lib.hid (D.out.trans (hb.mono D.out.size)); clear hb)
          | (go_at_call 6; (with_reducible refine (AD.out _ D.out).mono ?_); rintro e w3 ⟨Al, nl, cl, rfl, hnl, Sl', hb⟩; have Xv := Lib.hid (Xv.out.below hb); have Gv := Lib.hid (Gv.out.below hb); have D := Lib.hid (D.out.trans (hb.mono D.out.size)); clear hb; obtain rfl : nl = 0 := hnl.out; clear Sl' hnl)
          | (go_at_call 7; (with_reducible refine (JO.out _ D.out).mono ?_); rintro e w4 ⟨Aj, nj, cj, rfl, hnj, Sj, hb⟩; have Xv := Lib.hid (Xv.out.below hb); have Gv := Lib.hid (Gv.out.below hb); have D := Lib.hid (D.out.trans (hb.mono D.out.size)); clear hb; obtain rfl : nj = 0 := hnj.out; clear Sj hnj)
          | (go_at_call 8; (with_reducible refine (PA.out _ D.out).mono ?_); rintro e w5 ⟨rfl, hb⟩; have Xv := Lib.hid (Xv.out.below hb); have Gv := Lib.hid (Gv.out.below hb); have D := Lib.hid (D.out.trans (hb.mono D.out.size)); clear hb PA)
          | (go_at_call 9; (with_reducible refine (CK.out _ D.out).mono ?_); rintro e w6 ⟨rfl, hb⟩; have Xv := Lib.hid (Xv.out.below hb); have Gv := Lib.hid (Gv.out.below hb); have D := Lib.hid (D.out.trans (hb.mono D.out.size)); obtain ⟨v_0, v_1, v_2⟩ := Xv.out; clear hb CK)
          | (go_at_call 11; (with_reducible refine (SA.out _ D.out).mono ?_); rintro e w7 ⟨bq, Aq, nq, cq, tq, zq, rfl, hz, k1, k2, k3, k4, hb⟩; have s := hb.alloc hb.size (.cells #[.bool bq, .slice Aq nq cq, .int .i64 tq] 41); have Xv := Lib.hid (Xv.out.below s); have Gv := Lib.hid (Gv.out.below s); have Xq := Lib.hid (Blk.new w7 41 #[.bool bq, .slice Aq nq cq, .int .i64 tq]); have Qq := Lib.hid ((RetS.qs hz k1 k2 k3 k4).below (al2 w7 (.cells #[.bool bq, .slice Aq nq cq, .int .i64 tq] 41))); have D := Lib.hid (D.out.trans (s.mono D.out.size)); obtain ⟨v_0, v_1, v_2⟩ := Xv.out; clear hz k1 k2 k3 k4 hb s SA)
          | (go_at_call 12; (with_reducible refine (TD.out _ _ _ _ _ _ _ Gv.out Qq.out).mono ?_); rintro e w8 ⟨rfl, hb⟩; have Qq := Lib.hid (Qq.out.below hb); have Xq := Lib.hid (Xq.out.below hb Xq.out.lt); have D := Lib.hid (D.out.trans (hb.mono D.out.size)); have q_0 := Xq.out.at_ 0 rfl; have q_1 := Xq.out.at_ 1 rfl; have q_2 := Xq.out.at_ 2 rfl; clear hb TD Gv Xv)
          | (go_at_call 13; (with_reducible refine (CQ.out _ _ Qq.out).mono ?_); rintro e w9 ⟨rfl, hb⟩; have D := Lib.hid (D.out.trans (hb.mono D.out.size)); clear hb CQ Qq Xq)
          | (go_at_call 14; (with_reducible refine (HV.out _).mono ?_); rintro e w10 ⟨rfl, rfl⟩; clear HV)
          | (go_at_call 8; (with_reducible refine (PB.out _ D.out).mono ?_); rintro e wb ⟨rfl, hb⟩; have D := Lib.hid (D.out.trans (hb.mono D.out.size)); clear hb PB))
        go_ret
        exact ⟨rfl, D.out⟩
      · have fx : fi x := ⟨hx.1, hx.2, hv⟩
        rw [decide_eq_false hv] at HV
        have GX : Hid (∀ (W : World), Below w.heap.size w W → Calls Tryz.prog 15 #[.slice A n c, .int .u64 x] W (RetLb W (AG x La).isSome ((AG x La).getD []))) := fun W hW => GX.out W fx hW
        cases hA : AG x La with
        | none =>
          rw [hA] at GX
          rw [gAd_no K0.out fx hA] at AD
          obtain ⟨H, hH⟩ : ∃ H : List Int, H = [] := ⟨_, rfl⟩
          have HH : Hid (H.length ≤ 9223372036854775807) := (show _ ≤ _ by rw [hH]; simp)
          change Hid (∀ W : World, Below w.heap.size w W → Calls Tryz.prog 15 #[.slice A n c, .int .u64 x] W (RetLb W false [])) at GX
          dsimp only at AD
          rw [← hH] at GX AD
          clear hA fx hv hx ubA hH
          go_enter Tryz.func3, Tryz.ntmps3
          go_wp2_with (first
            | (go_at_call 4; (with_reducible refine (VA.out _ D.out).mono ?_); rintro e w1 ⟨bv, Av, nv, cv, xv, rfl, hv, hb⟩; have s := hb.alloc hb.size (.cells #[.bool bv, .slice Av nv cv, .int .i64 xv] 26); have Xv := Lib.hid (BX.new w1 bv Av nv cv xv); have Gv := Lib.hid (hv.below (al1 w1 (.cells #[.bool bv, .slice Av nv cv, .int .i64 xv] 26))); have D := Lib.hid (D.out.trans (s.mono D.out.size)); clear hv hb s)
            | (go_at_call 5; (with_reducible refine (SN.out _ D.out).mono ?_); rintro e w2 ⟨rfl, hb⟩; have Xv := Lib.hid (Xv.out.below hb); have Gv := Lib.hid (Gv.out.below hb); have D := Lib.hid (D.out.trans (hb.mono D.out.size)); clear hb)
            | (go_at_call 6; (with_reducible refine (AD.out _ D.out).mono ?_); rintro e w3 ⟨Al, nl, cl, rfl, hnl, Sl', hb⟩; have Xv := Lib.hid (Xv.out.below hb); have Gv := Lib.hid (Gv.out.below hb); have D := Lib.hid (D.out.trans (hb.mono D.out.size)); clear hb)
            | (go_at_call 7; (with_reducible refine (JO.out _ D.out).mono ?_); rintro e w4 ⟨Aj, nj, cj, rfl, hnj, Sj, hb⟩; have Xv := Lib.hid (Xv.out.below hb); have Gv := Lib.hid (Gv.out.below hb); have Sl' := Lib.hid (Sl'.out.below hb); have D := Lib.hid (D.out.trans (hb.mono D.out.size)); clear hb; obtain rfl : nj = 0 := hnj.out; clear Sj hnj)
            | (go_at_call 8; (with_reducible refine (PA.out _ D.out).mono ?_); rintro e w5 ⟨rfl, hb⟩; have Xv := Lib.hid (Xv.out.below hb); have Gv := Lib.hid (Gv.out.below hb); have Sl' := Lib.hid (Sl'.out.below hb); have D := Lib.hid (D.out.trans (hb.mono D.out.size)); clear hb PA)
            | (go_at_call 9; (with_reducible refine (CK.out _ D.out).mono ?_); rintro e w6 ⟨rfl, hb⟩; have Xv := Lib.hid (Xv.out.below hb); have Gv := Lib.hid (Gv.out.below hb); have Sl' := Lib.hid (Sl'.out.below hb); have D := Lib.hid (D.out.trans (hb.mono D.out.size)); obtain ⟨v_0, v_1, v_2⟩ := Xv.out; clear hb CK)
            | (go_at_call 11; (with_reducible refine (SA.out _ D.out).mono ?_); rintro e w7 ⟨bq, Aq, nq, cq, tq, zq, rfl, hz, k1, k2, k3, k4, hb⟩; have s := hb.alloc hb.size (.cells #[.bool bq, .slice Aq nq cq, .int .i64 tq] 41); have Xv := Lib.hid (Xv.out.below s); have Gv := Lib.hid (Gv.out.below s); have Sl' := Lib.hid (Sl'.out.below s); have Xq := Lib.hid (Blk.new w7 41 #[.bool bq, .slice Aq nq cq, .int .i64 tq]); have Qq := Lib.hid ((RetS.qs hz k1 k2 k3 k4).below (al2 w7 (.cells #[.bool bq, .slice Aq nq cq, .int .i64 tq] 41))); have D := Lib.hid (D.out.trans (s.mono D.out.size)); obtain ⟨v_0, v_1, v_2⟩ := Xv.out; clear hz k1 k2 k3 k4 hb s SA)
            | (go_at_call 12; (with_reducible refine (TD.out _ _ _ _ _ _ _ Gv.out Qq.out).mono ?_); rintro e w8 ⟨rfl, hb⟩; have Sl' := Lib.hid (Sl'.out.below hb); have Qq := Lib.hid (Qq.out.below hb); have Xq := Lib.hid (Xq.out.below hb Xq.out.lt); have D := Lib.hid (D.out.trans (hb.mono D.out.size)); have q_0 := Xq.out.at_ 0 rfl; have q_1 := Xq.out.at_ 1 rfl; have q_2 := Xq.out.at_ 2 rfl; clear hb TD Gv Xv)
            | (go_at_call 13; (with_reducible refine (CQ.out _ _ Qq.out).mono ?_); rintro e w9 ⟨rfl, hb⟩; have Sl' := Lib.hid (Sl'.out.below hb); have D := Lib.hid (D.out.trans (hb.mono D.out.size)); clear hb CQ Qq Xq)
            | (go_at_call 14; (with_reducible refine (HV.out _).mono ?_); rintro e w10 ⟨rfl, rfl⟩; clear HV)
            | (go_at_call 15; (with_reducible refine (GX.out _ D.out).mono ?_); rintro e w11 ⟨Ag, ng, cg, rfl, hng, Sg, hb⟩; have Sl' := Lib.hid (Sl'.out.below hb); have D := Lib.hid (D.out.trans (hb.mono D.out.size)); clear hb GX)
            | (go_at_call 16; (with_reducible refine (EQ.out _ _ _ H Sl'.out Sg.out HH.out).mono ?_); rintro e w12 ⟨rfl, hb⟩; have D := Lib.hid (D.out.trans (hb.mono D.out.size)); clear hb Sl' Sg)
            | (go_at_call 8; (with_reducible refine (PB.out _ D.out).mono ?_); rintro e wb ⟨rfl, hb⟩; have D := Lib.hid (D.out.trans (hb.mono D.out.size)); clear hb PB))
          go_ret
          exact ⟨rfl, D.out⟩
        | some H =>
          rw [hA] at GX
          rw [gAd_ok K0.out fx hA] at AD ubA
          have HH : Hid (H.length ≤ 9223372036854775807) := (show _ ≤ _ by have := ubA.out.2; dsimp only at this; omega)
          change Hid (∀ W : World, Below w.heap.size w W → Calls Tryz.prog 15 #[.slice A n c, .int .u64 x] W (RetLb W true H)) at GX
          dsimp only at AD
          clear hA fx hv hx ubA
          go_enter Tryz.func3, Tryz.ntmps3
          go_wp2_with (first
            | (go_at_call 4; (with_reducible refine (VA.out _ D.out).mono ?_); rintro e w1 ⟨bv, Av, nv, cv, xv, rfl, hv, hb⟩; have s := hb.alloc hb.size (.cells #[.bool bv, .slice Av nv cv, .int .i64 xv] 26); have Xv := Lib.hid (BX.new w1 bv Av nv cv xv); have Gv := Lib.hid (hv.below (al1 w1 (.cells #[.bool bv, .slice Av nv cv, .int .i64 xv] 26))); have D := Lib.hid (D.out.trans (s.mono D.out.size)); clear hv hb s)
            | (go_at_call 5; (with_reducible refine (SN.out _ D.out).mono ?_); rintro e w2 ⟨rfl, hb⟩; have Xv := Lib.hid (Xv.out.below hb); have Gv := Lib.hid (Gv.out.below hb); have D := Lib.hid (D.out.trans (hb.mono D.out.size)); clear hb)
            | (go_at_call 6; (with_reducible refine (AD.out _ D.out).mono ?_); rintro e w3 ⟨Al, nl, cl, rfl, hnl, Sl', hb⟩; have Xv := Lib.hid (Xv.out.below hb); have Gv := Lib.hid (Gv.out.below hb); have D := Lib.hid (D.out.trans (hb.mono D.out.size)); clear hb)
            | (go_at_call 7; (with_reducible refine (JO.out _ D.out).mono ?_); rintro e w4 ⟨Aj, nj, cj, rfl, hnj, Sj, hb⟩; have Xv := Lib.hid (Xv.out.below hb); have Gv := Lib.hid (Gv.out.below hb); have Sl' := Lib.hid (Sl'.out.below hb); have D := Lib.hid (D.out.trans (hb.mono D.out.size)); clear hb; obtain rfl : nj = 0 := hnj.out; clear Sj hnj)
            | (go_at_call 8; (with_reducible refine (PA.out _ D.out).mono ?_); rintro e w5 ⟨rfl, hb⟩; have Xv := Lib.hid (Xv.out.below hb); have Gv := Lib.hid (Gv.out.below hb); have Sl' := Lib.hid (Sl'.out.below hb); have D := Lib.hid (D.out.trans (hb.mono D.out.size)); clear hb PA)
            | (go_at_call 9; (with_reducible refine (CK.out _ D.out).mono ?_); rintro e w6 ⟨rfl, hb⟩; have Xv := Lib.hid (Xv.out.below hb); have Gv := Lib.hid (Gv.out.below hb); have Sl' := Lib.hid (Sl'.out.below hb); have D := Lib.hid (D.out.trans (hb.mono D.out.size)); obtain ⟨v_0, v_1, v_2⟩ := Xv.out; clear hb CK)
            | (go_at_call 11; (with_reducible refine (SA.out _ D.out).mono ?_); rintro e w7 ⟨bq, Aq, nq, cq, tq, zq, rfl, hz, k1, k2, k3, k4, hb⟩; have s := hb.alloc hb.size (.cells #[.bool bq, .slice Aq nq cq, .int .i64 tq] 41); have Xv := Lib.hid (Xv.out.below s); have Gv := Lib.hid (Gv.out.below s); have Sl' := Lib.hid (Sl'.out.below s); have Xq := Lib.hid (Blk.new w7 41 #[.bool bq, .slice Aq nq cq, .int .i64 tq]); have Qq := Lib.hid ((RetS.qs hz k1 k2 k3 k4).below (al2 w7 (.cells #[.bool bq, .slice Aq nq cq, .int .i64 tq] 41))); have D := Lib.hid (D.out.trans (s.mono D.out.size)); obtain ⟨v_0, v_1, v_2⟩ := Xv.out; clear hz k1 k2 k3 k4 hb s SA)
            | (go_at_call 12; (with_reducible refine (TD.out _ _ _ _ _ _ _ Gv.out Qq.out).mono ?_); rintro e w8 ⟨rfl, hb⟩; have Sl' := Lib.hid (Sl'.out.below hb); have Qq := Lib.hid (Qq.out.below hb); have Xq := Lib.hid (Xq.out.below hb Xq.out.lt); have D := Lib.hid (D.out.trans (hb.mono D.out.size)); have q_0 := Xq.out.at_ 0 rfl; have q_1 := Xq.out.at_ 1 rfl; have q_2 := Xq.out.at_ 2 rfl; clear hb TD Gv Xv)
            | (go_at_call 13; (with_reducible refine (CQ.out _ _ Qq.out).mono ?_); rintro e w9 ⟨rfl, hb⟩; have Sl' := Lib.hid (Sl'.out.below hb); have D := Lib.hid (D.out.trans (hb.mono D.out.size)); clear hb CQ Qq Xq)
            | (go_at_call 14; (with_reducible refine (HV.out _).mono ?_); rintro e w10 ⟨rfl, rfl⟩; clear HV)
            | (go_at_call 15; (with_reducible refine (GX.out _ D.out).mono ?_); rintro e w11 ⟨Ag, ng, cg, rfl, hng, Sg, hb⟩; have Sl' := Lib.hid (Sl'.out.below hb); have D := Lib.hid (D.out.trans (hb.mono D.out.size)); clear hb GX)
            | (go_at_call 16; (with_reducible refine (EQ.out _ _ _ H Sl'.out Sg.out HH.out).mono ?_); rintro e w12 ⟨rfl, hb⟩; have D := Lib.hid (D.out.trans (hb.mono D.out.size)); clear hb Sl' Sg)
            | (go_at_call 8; (with_reducible refine (PB.out _ D.out).mono ?_); rintro e wb ⟨rfl, hb⟩; have D := Lib.hid (D.out.trans (hb.mono D.out.size)); clear hb PB))
          go_ret
          exact ⟨rfl, D.out⟩
    · rw [kb] at PB
      have HJ := Lib.hid hJ
      have FB := Lib.hid (gCk_fi kb)
      have m60 : m ≤ 60 := by have := (gCk_0.1 kb).1; have := HM.out; omega
      clear hJ kb
      by_cases hv : F.exq x = 2047
      · have ea : gAd La x = (4, []) := by unfold gAd; rw [if_pos K0.out, if_pos hv]
        rw [ea] at AD
        rw [decide_eq_true hv] at HV
        clear ea hv GX hx ubA
        go_enter Tryz.func3, Tryz.ntmps3
        go_wp2_with (first
          | (go_at_call 4; (with_reducible refine (VA.out _ D.out).mono ?_); rintro e w1 ⟨bv, Av, nv, cv, xv, rfl, hv, hb⟩; have s := hb.alloc hb.size (.cells #[.bool bv, .slice Av nv cv, .int .i64 xv] 26); have Xv := Lib.hid (BX.new w1 bv Av nv cv xv); have Gv := Lib.hid (hv.below (al1 w1 (.cells #[.bool bv, .slice Av nv cv, .int .i64 xv] 26))); have D := Lib.hid (D.out.trans (s.mono D.out.size)); clear hv hb s)
          | (go_at_call 5; (with_reducible refine (SN.out _ D.out).mono ?_); rintro e w2 ⟨rfl, hb⟩; have Xv := Lib.hid (Xv.out.below hb); have Gv := Lib.hid (Gv.out.below hb); have D := Lib.hid (D.out.trans (hb.mono D.out.size)); clear hb)
          | (go_at_call 6; (with_reducible refine (AD.out _ D.out).mono ?_); rintro e w3 ⟨Al, nl, cl, rfl, hnl, Sl', hb⟩; have Xv := Lib.hid (Xv.out.below hb); have Gv := Lib.hid (Gv.out.below hb); have D := Lib.hid (D.out.trans (hb.mono D.out.size)); clear hb; obtain rfl : nl = 0 := hnl.out; clear Sl' hnl)
          | (go_at_call 7; (with_reducible refine (JO.out _ D.out).mono ?_); rintro e w4 ⟨Aj, nj, cj, rfl, hnj, Sj, hb⟩; have Xv := Lib.hid (Xv.out.below hb); have Gv := Lib.hid (Gv.out.below hb); have D := Lib.hid (D.out.trans (hb.mono D.out.size)); clear hb)
          | (go_at_call 8; (with_reducible refine (PA.out _ D.out).mono ?_); rintro e w5 ⟨rfl, hb⟩; have Xv := Lib.hid (Xv.out.below hb); have Gv := Lib.hid (Gv.out.below hb); have Sj := Lib.hid (Sj.out.below hb); have D := Lib.hid (D.out.trans (hb.mono D.out.size)); clear hb PA)
          | (go_at_call 9; (with_reducible refine (CK.out _ D.out).mono ?_); rintro e w6 ⟨rfl, hb⟩; have Xv := Lib.hid (Xv.out.below hb); have Gv := Lib.hid (Gv.out.below hb); have Sj := Lib.hid (Sj.out.below hb); have D := Lib.hid (D.out.trans (hb.mono D.out.size)); obtain ⟨v_0, v_1, v_2⟩ := Xv.out; clear hb CK)
          | (go_at_call 11; (with_reducible refine (SA.out _ D.out).mono ?_); rintro e w7 ⟨bq, Aq, nq, cq, tq, zq, rfl, hz, k1, k2, k3, k4, hb⟩; have s := hb.alloc hb.size (.cells #[.bool bq, .slice Aq nq cq, .int .i64 tq] 41); have Xv := Lib.hid (Xv.out.below s); have Gv := Lib.hid (Gv.out.below s); have Sj := Lib.hid (Sj.out.below s); have Xq := Lib.hid (Blk.new w7 41 #[.bool bq, .slice Aq nq cq, .int .i64 tq]); have Qq := Lib.hid ((RetS.qs hz k1 k2 k3 k4).below (al2 w7 (.cells #[.bool bq, .slice Aq nq cq, .int .i64 tq] 41))); have D := Lib.hid (D.out.trans (s.mono D.out.size)); obtain ⟨v_0, v_1, v_2⟩ := Xv.out; clear hz k1 k2 k3 k4 hb s SA)
          | (go_at_call 12; (with_reducible refine (TD.out _ _ _ _ _ _ _ Gv.out Qq.out).mono ?_); rintro e w8 ⟨rfl, hb⟩; have Sj := Lib.hid (Sj.out.below hb); have Qq := Lib.hid (Qq.out.below hb); have Xq := Lib.hid (Xq.out.below hb Xq.out.lt); have D := Lib.hid (D.out.trans (hb.mono D.out.size)); have q_0 := Xq.out.at_ 0 rfl; have q_1 := Xq.out.at_ 1 rfl; have q_2 := Xq.out.at_ 2 rfl; clear hb TD Gv Xv)
          | (go_at_call 13; (with_reducible refine (CQ.out _ _ Qq.out).mono ?_); rintro e w9 ⟨rfl, hb⟩; have Sj := Lib.hid (Sj.out.below hb); have D := Lib.hid (D.out.trans (hb.mono D.out.size)); clear hb CQ Qq Xq)
          | (go_at_call 14; (with_reducible refine (HV.out _).mono ?_); rintro e w10 ⟨rfl, rfl⟩; clear HV)
          | (go_at_call 8; (with_reducible refine (PB.out _ D.out).mono ?_); rintro e wb ⟨rfl, hb⟩; have Sj := Lib.hid (Sj.out.below hb); have D := Lib.hid (D.out.trans (hb.mono D.out.size)); clear hb PB))
        have DB := D
        have SJ9 : Hid (∀ W : World, Below wb.heap.size wb W → Sl .u64 W (.slice Aj nj cj) J) := fun W h => Sj.out.below h
        clear Sj D
        go_loopw [159, 20] (fun iv ov wr => ∃ (k : Nat) (A1 : Option Addr) (n1 c1 : Nat) (O : List Int), iv = .int .i64 k ∧ k ≤ m ∧ ov = .slice A1 n1 c1 ∧ Hid (Sl .u64 wr (.slice A1 n1 c1) O) ∧ Hid (u64s O ∧ O.length ≤ 100) ∧ Hid ((ej, J) = gJe O (Lb.drop k)) ∧ Hid (Below wb.heap.size wb wr)) (fun iv _ _ => m - (intOf iv).toNat)
        case atStart => exact ⟨0, _, _, _, La, rfl, by omega, rfl, SAa.out _ DB.out, ⟨HU.out, (show _ ≤ _ by have := HN.out.2; omega)⟩, HJ.out, Below.refl _ _⟩
        case round =>
          obtain ⟨k, A1, n1, c1, O, rfl, hk, rfl, hS, hO, hJ, hD⟩ := hrel
          by_cases hkm : k < m
          · have hkL : k < Lb.length := by have := HM.out; omega
            obtain ⟨ad, c', e, hc', hb, hcell⟩ := (SB.out _ (DB.out.trans (hD.out.mono DB.out.size))).at_ k hkL
            injection e with e1 e2 e3
            subst e1
            clear e2 e3 hc' c' hb
            have hd := drop_cons' hkL
            obtain ⟨y, hy⟩ : ∃ y, Lb.getD k 0 = y := ⟨_, rfl⟩
            have hm : y ∈ Lb := by rw [← hy, List.getD_eq_getElem?_getD, List.getElem?_eq_getElem hkL]; exact List.getElem_mem _
            rw [hy] at hcell hd
            have hJ' := hJ.out
            rw [hd, gJe_cons] at hJ'
            have fy := FB.out y hm
            have FY := Lib.hid fy
            have UO := Lib.hid (gAd_bd hO.out.1 (⟨fy.1, fy.2.1⟩ : 0 ≤ y ∧ y ≤ 18446744073709551615))
            have PO1 := Lib.hid (PO.out wr A1 n1 c1 O hS.out hO.out.1 (by have := hO.out.2; omega))
            clear hy hm hd hkL
            by_cases kO : gCk O = 0
            · have GO1 : Hid (∀ (W : World), Below wr.heap.size wr W → Calls Tryz.prog 15 #[.slice A1 n1 c1, .int .u64 y] W (RetLb W (AG y O).isSome ((AG y O).getD []))) := fun W hW => GO.out W A1 n1 c1 O y (hS.out.below hW) kO fy
              rw [kO] at PO1
              cases hA : AG y O with
              | none =>
                rw [gAd_no kO fy hA, if_neg (by simp)] at hJ'
                injection hJ' with j1 j2
                subst j1 j2
                rw [hA] at GO1
                obtain rfl : nj = 0 := hnj.out
                clear kO fy hA UO
                go_wp2_with (first
                  | (go_at_call 8; (with_reducible refine (PO1.out).mono ?_); rintro e u1 ⟨rfl, hb⟩; have D1 := Lib.hid hb; clear hb)
                  | (go_at_call 15; (with_reducible refine (GO1.out _ D1.out).mono ?_); rintro e u2 ⟨Ag, ng, cg, rfl, hng, Sg, hb⟩; have D2 := Lib.hid (hD.out.trans ((D1.out.trans (hb.mono D1.out.size)).mono hD.out.size)); clear hb))
                go_ret
                exact ⟨rfl, DB.out.trans (D2.out.mono DB.out.size)⟩
              | some H2 =>
                rw [gAd_ok kO fy hA, if_pos rfl] at hJ'
                rw [gAd_ok kO fy hA] at UO
                rw [hA] at GO1
                have HJ2 := Lib.hid hJ'
                clear kO fy hA hJ'
                go_wp2_with (first
                  | (go_at_call 8; (with_reducible refine (PO1.out).mono ?_); rintro e u1 ⟨rfl, hb⟩; have D1 := Lib.hid hb; clear hb)
                  | (go_at_call 15; (with_reducible refine (GO1.out _ D1.out).mono ?_); rintro e u2 ⟨Ag, ng, cg, rfl, hng, Sg, hb⟩; have D2 := Lib.hid (hD.out.trans ((D1.out.trans (hb.mono D1.out.size)).mono hD.out.size)); clear hb))
                exact ⟨⟨k + 1, _, _, _, H2, by simp, by omega, rfl, Sg.out, ⟨UO.out.1, (show _ ≤ _ by have := UO.out.2; first | omega | (dsimp only at this; omega))⟩, HJ2.out, D2.out⟩, by simp only [intOf]; omega⟩
            · rw [gAd_er kO, if_neg kO] at hJ'
              injection hJ' with j1 j2
              obtain rfl : J = [] := j2
              obtain rfl : nj = 0 := hnj.out
              have j1 : ej = gCk O := j1
              rw [← j1] at PO1 kO
              have kk : (ej != 0) = true := by simpa using kO
              clear kO fy UO j1 hJ
              go_wp2_with (go_at_call 8; (with_reducible refine (PO1.out).mono ?_); rintro e u1 ⟨rfl, hb⟩; have D2 := Lib.hid (hD.out.trans (hb.mono hD.out.size)); clear hb)
              go_ret
              exact ⟨rfl, DB.out.trans (D2.out.mono DB.out.size)⟩
          · obtain rfl : m = k := by omega
            have hJ' := hJ.out
            rw [List.drop_of_length_le (by have := HM.out; omega), gJe] at hJ'
            have hn1 := sl_len hS.out
            have DE := Lib.hid (DB.out.trans (hD.out.mono DB.out.size))
            by_cases h6 : 60 < O.length
            · rw [if_pos h6] at hJ'
              injection hJ' with j1 j2
              obtain rfl : J = [] := j2
              obtain rfl : nj = 0 := hnj.out
              subst j1
              have h7 : (n1 : Int) > 60 := by omega
              clear h6 hn1 hJ
              go_wp2
              go_ret
              exact ⟨rfl, DE.out⟩
            · rw [if_neg h6] at hJ'
              injection hJ' with j1 j2
              subst j1
              subst j2
              have h7 : ¬ (n1 : Int) > 60 := by omega
              have EQ1 := Lib.hid (EQ.out wr _ _ J (SJ9.out _ hD.out) hS.out (by have := hO.out.2; omega))
              clear h6 hn1 hJ
              go_wp2_with (go_at_call 16; (with_reducible refine (EQ1.out).mono ?_); rintro e u1 ⟨rfl, hb⟩; have DE := Lib.hid (DE.out.trans (hb.mono DE.out.size)); clear hb)
              go_ret
              exact ⟨rfl, DE.out⟩
      · have fx : fi x := ⟨hx.1, hx.2, hv⟩
        rw [decide_eq_false hv] at HV
        have GX : Hid (∀ (W : World), Below w.heap.size w W → Calls Tryz.prog 15 #[.slice A n c, .int .u64 x] W (RetLb W (AG x La).isSome ((AG x La).getD []))) := fun W hW => GX.out W fx hW
        cases hA : AG x La with
        | none =>
          rw [hA] at GX
          rw [gAd_no K0.out fx hA] at AD
          obtain ⟨H, hH⟩ : ∃ H : List Int, H = [] := ⟨_, rfl⟩
          have HH : Hid (H.length ≤ 9223372036854775807) := (show _ ≤ _ by rw [hH]; simp)
          change Hid (∀ W : World, Below w.heap.size w W → Calls Tryz.prog 15 #[.slice A n c, .int .u64 x] W (RetLb W false [])) at GX
          dsimp only at AD
          rw [← hH] at GX AD
          clear hA fx hv hx ubA hH
          go_enter Tryz.func3, Tryz.ntmps3
          go_wp2_with (first
            | (go_at_call 4; (with_reducible refine (VA.out _ D.out).mono ?_); rintro e w1 ⟨bv, Av, nv, cv, xv, rfl, hv, hb⟩; have s := hb.alloc hb.size (.cells #[.bool bv, .slice Av nv cv, .int .i64 xv] 26); have Xv := Lib.hid (BX.new w1 bv Av nv cv xv); have Gv := Lib.hid (hv.below (al1 w1 (.cells #[.bool bv, .slice Av nv cv, .int .i64 xv] 26))); have D := Lib.hid (D.out.trans (s.mono D.out.size)); clear hv hb s)
            | (go_at_call 5; (with_reducible refine (SN.out _ D.out).mono ?_); rintro e w2 ⟨rfl, hb⟩; have Xv := Lib.hid (Xv.out.below hb); have Gv := Lib.hid (Gv.out.below hb); have D := Lib.hid (D.out.trans (hb.mono D.out.size)); clear hb)
            | (go_at_call 6; (with_reducible refine (AD.out _ D.out).mono ?_); rintro e w3 ⟨Al, nl, cl, rfl, hnl, Sl', hb⟩; have Xv := Lib.hid (Xv.out.below hb); have Gv := Lib.hid (Gv.out.below hb); have D := Lib.hid (D.out.trans (hb.mono D.out.size)); clear hb)
            | (go_at_call 7; (with_reducible refine (JO.out _ D.out).mono ?_); rintro e w4 ⟨Aj, nj, cj, rfl, hnj, Sj, hb⟩; have Xv := Lib.hid (Xv.out.below hb); have Gv := Lib.hid (Gv.out.below hb); have Sl' := Lib.hid (Sl'.out.below hb); have D := Lib.hid (D.out.trans (hb.mono D.out.size)); clear hb)
            | (go_at_call 8; (with_reducible refine (PA.out _ D.out).mono ?_); rintro e w5 ⟨rfl, hb⟩; have Xv := Lib.hid (Xv.out.below hb); have Gv := Lib.hid (Gv.out.below hb); have Sl' := Lib.hid (Sl'.out.below hb); have Sj := Lib.hid (Sj.out.below hb); have D := Lib.hid (D.out.trans (hb.mono D.out.size)); clear hb PA)
            | (go_at_call 9; (with_reducible refine (CK.out _ D.out).mono ?_); rintro e w6 ⟨rfl, hb⟩; have Xv := Lib.hid (Xv.out.below hb); have Gv := Lib.hid (Gv.out.below hb); have Sl' := Lib.hid (Sl'.out.below hb); have Sj := Lib.hid (Sj.out.below hb); have D := Lib.hid (D.out.trans (hb.mono D.out.size)); obtain ⟨v_0, v_1, v_2⟩ := Xv.out; clear hb CK)
            | (go_at_call 11; (with_reducible refine (SA.out _ D.out).mono ?_); rintro e w7 ⟨bq, Aq, nq, cq, tq, zq, rfl, hz, k1, k2, k3, k4, hb⟩; have s := hb.alloc hb.size (.cells #[.bool bq, .slice Aq nq cq, .int .i64 tq] 41); have Xv := Lib.hid (Xv.out.below s); have Gv := Lib.hid (Gv.out.below s); have Sl' := Lib.hid (Sl'.out.below s); have Sj := Lib.hid (Sj.out.below s); have Xq := Lib.hid (Blk.new w7 41 #[.bool bq, .slice Aq nq cq, .int .i64 tq]); have Qq := Lib.hid ((RetS.qs hz k1 k2 k3 k4).below (al2 w7 (.cells #[.bool bq, .slice Aq nq cq, .int .i64 tq] 41))); have D := Lib.hid (D.out.trans (s.mono D.out.size)); obtain ⟨v_0, v_1, v_2⟩ := Xv.out; clear hz k1 k2 k3 k4 hb s SA)
            | (go_at_call 12; (with_reducible refine (TD.out _ _ _ _ _ _ _ Gv.out Qq.out).mono ?_); rintro e w8 ⟨rfl, hb⟩; have Sl' := Lib.hid (Sl'.out.below hb); have Sj := Lib.hid (Sj.out.below hb); have Qq := Lib.hid (Qq.out.below hb); have Xq := Lib.hid (Xq.out.below hb Xq.out.lt); have D := Lib.hid (D.out.trans (hb.mono D.out.size)); have q_0 := Xq.out.at_ 0 rfl; have q_1 := Xq.out.at_ 1 rfl; have q_2 := Xq.out.at_ 2 rfl; clear hb TD Gv Xv)
            | (go_at_call 13; (with_reducible refine (CQ.out _ _ Qq.out).mono ?_); rintro e w9 ⟨rfl, hb⟩; have Sl' := Lib.hid (Sl'.out.below hb); have Sj := Lib.hid (Sj.out.below hb); have D := Lib.hid (D.out.trans (hb.mono D.out.size)); clear hb CQ Qq Xq)
            | (go_at_call 14; (with_reducible refine (HV.out _).mono ?_); rintro e w10 ⟨rfl, rfl⟩; clear HV)
            | (go_at_call 15; (with_reducible refine (GX.out _ D.out).mono ?_); rintro e w11 ⟨Ag, ng, cg, rfl, hng, Sg, hb⟩; have Sl' := Lib.hid (Sl'.out.below hb); have Sj := Lib.hid (Sj.out.below hb); have D := Lib.hid (D.out.trans (hb.mono D.out.size)); clear hb GX)
            | (go_at_call 16; (with_reducible refine (EQ.out _ _ _ H Sl'.out Sg.out HH.out).mono ?_); rintro e w12 ⟨rfl, hb⟩; have Sj := Lib.hid (Sj.out.below hb); have D := Lib.hid (D.out.trans (hb.mono D.out.size)); clear hb Sl' Sg)
            | (go_at_call 8; (with_reducible refine (PB.out _ D.out).mono ?_); rintro e wb ⟨rfl, hb⟩; have Sj := Lib.hid (Sj.out.below hb); have D := Lib.hid (D.out.trans (hb.mono D.out.size)); clear hb PB))
          have DB := D
          have SJ9 : Hid (∀ W : World, Below wb.heap.size wb W → Sl .u64 W (.slice Aj nj cj) J) := fun W h => Sj.out.below h
          clear Sj D
          go_loopw [159, 20] (fun iv ov wr => ∃ (k : Nat) (A1 : Option Addr) (n1 c1 : Nat) (O : List Int), iv = .int .i64 k ∧ k ≤ m ∧ ov = .slice A1 n1 c1 ∧ Hid (Sl .u64 wr (.slice A1 n1 c1) O) ∧ Hid (u64s O ∧ O.length ≤ 100) ∧ Hid ((ej, J) = gJe O (Lb.drop k)) ∧ Hid (Below wb.heap.size wb wr)) (fun iv _ _ => m - (intOf iv).toNat)
          case atStart => exact ⟨0, _, _, _, La, rfl, by omega, rfl, SAa.out _ DB.out, ⟨HU.out, (show _ ≤ _ by have := HN.out.2; omega)⟩, HJ.out, Below.refl _ _⟩
          case round =>
            obtain ⟨k, A1, n1, c1, O, rfl, hk, rfl, hS, hO, hJ, hD⟩ := hrel
            by_cases hkm : k < m
            · have hkL : k < Lb.length := by have := HM.out; omega
              obtain ⟨ad, c', e, hc', hb, hcell⟩ := (SB.out _ (DB.out.trans (hD.out.mono DB.out.size))).at_ k hkL
              injection e with e1 e2 e3
              subst e1
              clear e2 e3 hc' c' hb
              have hd := drop_cons' hkL
              obtain ⟨y, hy⟩ : ∃ y, Lb.getD k 0 = y := ⟨_, rfl⟩
              have hm : y ∈ Lb := by rw [← hy, List.getD_eq_getElem?_getD, List.getElem?_eq_getElem hkL]; exact List.getElem_mem _
              rw [hy] at hcell hd
              have hJ' := hJ.out
              rw [hd, gJe_cons] at hJ'
              have fy := FB.out y hm
              have FY := Lib.hid fy
              have UO := Lib.hid (gAd_bd hO.out.1 (⟨fy.1, fy.2.1⟩ : 0 ≤ y ∧ y ≤ 18446744073709551615))
              have PO1 := Lib.hid (PO.out wr A1 n1 c1 O hS.out hO.out.1 (by have := hO.out.2; omega))
              clear hy hm hd hkL
              by_cases kO : gCk O = 0
              · have GO1 : Hid (∀ (W : World), Below wr.heap.size wr W → Calls Tryz.prog 15 #[.slice A1 n1 c1, .int .u64 y] W (RetLb W (AG y O).isSome ((AG y O).getD []))) := fun W hW => GO.out W A1 n1 c1 O y (hS.out.below hW) kO fy
                rw [kO] at PO1
                cases hA : AG y O with
                | none =>
                  rw [gAd_no kO fy hA, if_neg (by simp)] at hJ'
                  injection hJ' with j1 j2
                  subst j1 j2
                  rw [hA] at GO1
                  obtain rfl : nj = 0 := hnj.out
                  clear kO fy hA UO
                  go_wp2_with (first
                    | (go_at_call 8; (with_reducible refine (PO1.out).mono ?_); rintro e u1 ⟨rfl, hb⟩; have D1 := Lib.hid hb; clear hb)
                    | (go_at_call 15; (with_reducible refine (GO1.out _ D1.out).mono ?_); rintro e u2 ⟨Ag, ng, cg, rfl, hng, Sg, hb⟩; have D2 := Lib.hid (hD.out.trans ((D1.out.trans (hb.mono D1.out.size)).mono hD.out.size)); clear hb))
                  go_ret
                  exact ⟨rfl, DB.out.trans (D2.out.mono DB.out.size)⟩
                | some H2 =>
                  rw [gAd_ok kO fy hA, if_pos rfl] at hJ'
                  rw [gAd_ok kO fy hA] at UO
                  rw [hA] at GO1
                  have HJ2 := Lib.hid hJ'
                  clear kO fy hA hJ'
                  go_wp2_with (first
                    | (go_at_call 8; (with_reducible refine (PO1.out).mono ?_); rintro e u1 ⟨rfl, hb⟩; have D1 := Lib.hid hb; clear hb)
                    | (go_at_call 15; (with_reducible refine (GO1.out _ D1.out).mono ?_); rintro e u2 ⟨Ag, ng, cg, rfl, hng, Sg, hb⟩; have D2 := Lib.hid (hD.out.trans ((D1.out.trans (hb.mono D1.out.size)).mono hD.out.size)); clear hb))
                  exact ⟨⟨k + 1, _, _, _, H2, by simp, by omega, rfl, Sg.out, ⟨UO.out.1, (show _ ≤ _ by have := UO.out.2; first | omega | (dsimp only at this; omega))⟩, HJ2.out, D2.out⟩, by simp only [intOf]; omega⟩
              · rw [gAd_er kO, if_neg kO] at hJ'
                injection hJ' with j1 j2
                obtain rfl : J = [] := j2
                obtain rfl : nj = 0 := hnj.out
                have j1 : ej = gCk O := j1
                rw [← j1] at PO1 kO
                have kk : (ej != 0) = true := by simpa using kO
                clear kO fy UO j1 hJ
                go_wp2_with (go_at_call 8; (with_reducible refine (PO1.out).mono ?_); rintro e u1 ⟨rfl, hb⟩; have D2 := Lib.hid (hD.out.trans (hb.mono hD.out.size)); clear hb)
                go_ret
                exact ⟨rfl, DB.out.trans (D2.out.mono DB.out.size)⟩
            · obtain rfl : m = k := by omega
              have hJ' := hJ.out
              rw [List.drop_of_length_le (by have := HM.out; omega), gJe] at hJ'
              have hn1 := sl_len hS.out
              have DE := Lib.hid (DB.out.trans (hD.out.mono DB.out.size))
              by_cases h6 : 60 < O.length
              · rw [if_pos h6] at hJ'
                injection hJ' with j1 j2
                obtain rfl : J = [] := j2
                obtain rfl : nj = 0 := hnj.out
                subst j1
                have h7 : (n1 : Int) > 60 := by omega
                clear h6 hn1 hJ
                go_wp2
                go_ret
                exact ⟨rfl, DE.out⟩
              · rw [if_neg h6] at hJ'
                injection hJ' with j1 j2
                subst j1
                subst j2
                have h7 : ¬ (n1 : Int) > 60 := by omega
                have EQ1 := Lib.hid (EQ.out wr _ _ J (SJ9.out _ hD.out) hS.out (by have := hO.out.2; omega))
                clear h6 hn1 hJ
                go_wp2_with (go_at_call 16; (with_reducible refine (EQ1.out).mono ?_); rintro e u1 ⟨rfl, hb⟩; have DE := Lib.hid (DE.out.trans (hb.mono DE.out.size)); clear hb)
                go_ret
                exact ⟨rfl, DE.out⟩
        | some H =>
          rw [hA] at GX
          rw [gAd_ok K0.out fx hA] at AD ubA
          have HH : Hid (H.length ≤ 9223372036854775807) := (show _ ≤ _ by have := ubA.out.2; dsimp only at this; omega)
          change Hid (∀ W : World, Below w.heap.size w W → Calls Tryz.prog 15 #[.slice A n c, .int .u64 x] W (RetLb W true H)) at GX
          dsimp only at AD
          clear hA fx hv hx ubA
          go_enter Tryz.func3, Tryz.ntmps3
          go_wp2_with (first
            | (go_at_call 4; (with_reducible refine (VA.out _ D.out).mono ?_); rintro e w1 ⟨bv, Av, nv, cv, xv, rfl, hv, hb⟩; have s := hb.alloc hb.size (.cells #[.bool bv, .slice Av nv cv, .int .i64 xv] 26); have Xv := Lib.hid (BX.new w1 bv Av nv cv xv); have Gv := Lib.hid (hv.below (al1 w1 (.cells #[.bool bv, .slice Av nv cv, .int .i64 xv] 26))); have D := Lib.hid (D.out.trans (s.mono D.out.size)); clear hv hb s)
            | (go_at_call 5; (with_reducible refine (SN.out _ D.out).mono ?_); rintro e w2 ⟨rfl, hb⟩; have Xv := Lib.hid (Xv.out.below hb); have Gv := Lib.hid (Gv.out.below hb); have D := Lib.hid (D.out.trans (hb.mono D.out.size)); clear hb)
            | (go_at_call 6; (with_reducible refine (AD.out _ D.out).mono ?_); rintro e w3 ⟨Al, nl, cl, rfl, hnl, Sl', hb⟩; have Xv := Lib.hid (Xv.out.below hb); have Gv := Lib.hid (Gv.out.below hb); have D := Lib.hid (D.out.trans (hb.mono D.out.size)); clear hb)
            | (go_at_call 7; (with_reducible refine (JO.out _ D.out).mono ?_); rintro e w4 ⟨Aj, nj, cj, rfl, hnj, Sj, hb⟩; have Xv := Lib.hid (Xv.out.below hb); have Gv := Lib.hid (Gv.out.below hb); have Sl' := Lib.hid (Sl'.out.below hb); have D := Lib.hid (D.out.trans (hb.mono D.out.size)); clear hb)
            | (go_at_call 8; (with_reducible refine (PA.out _ D.out).mono ?_); rintro e w5 ⟨rfl, hb⟩; have Xv := Lib.hid (Xv.out.below hb); have Gv := Lib.hid (Gv.out.below hb); have Sl' := Lib.hid (Sl'.out.below hb); have Sj := Lib.hid (Sj.out.below hb); have D := Lib.hid (D.out.trans (hb.mono D.out.size)); clear hb PA)
            | (go_at_call 9; (with_reducible refine (CK.out _ D.out).mono ?_); rintro e w6 ⟨rfl, hb⟩; have Xv := Lib.hid (Xv.out.below hb); have Gv := Lib.hid (Gv.out.below hb); have Sl' := Lib.hid (Sl'.out.below hb); have Sj := Lib.hid (Sj.out.below hb); have D := Lib.hid (D.out.trans (hb.mono D.out.size)); obtain ⟨v_0, v_1, v_2⟩ := Xv.out; clear hb CK)
            | (go_at_call 11; (with_reducible refine (SA.out _ D.out).mono ?_); rintro e w7 ⟨bq, Aq, nq, cq, tq, zq, rfl, hz, k1, k2, k3, k4, hb⟩; have s := hb.alloc hb.size (.cells #[.bool bq, .slice Aq nq cq, .int .i64 tq] 41); have Xv := Lib.hid (Xv.out.below s); have Gv := Lib.hid (Gv.out.below s); have Sl' := Lib.hid (Sl'.out.below s); have Sj := Lib.hid (Sj.out.below s); have Xq := Lib.hid (Blk.new w7 41 #[.bool bq, .slice Aq nq cq, .int .i64 tq]); have Qq := Lib.hid ((RetS.qs hz k1 k2 k3 k4).below (al2 w7 (.cells #[.bool bq, .slice Aq nq cq, .int .i64 tq] 41))); have D := Lib.hid (D.out.trans (s.mono D.out.size)); obtain ⟨v_0, v_1, v_2⟩ := Xv.out; clear hz k1 k2 k3 k4 hb s SA)
            | (go_at_call 12; (with_reducible refine (TD.out _ _ _ _ _ _ _ Gv.out Qq.out).mono ?_); rintro e w8 ⟨rfl, hb⟩; have Sl' := Lib.hid (Sl'.out.below hb); have Sj := Lib.hid (Sj.out.below hb); have Qq := Lib.hid (Qq.out.below hb); have Xq := Lib.hid (Xq.out.below hb Xq.out.lt); have D := Lib.hid (D.out.trans (hb.mono D.out.size)); have q_0 := Xq.out.at_ 0 rfl; have q_1 := Xq.out.at_ 1 rfl; have q_2 := Xq.out.at_ 2 rfl; clear hb TD Gv Xv)
            | (go_at_call 13; (with_reducible refine (CQ.out _ _ Qq.out).mono ?_); rintro e w9 ⟨rfl, hb⟩; have Sl' := Lib.hid (Sl'.out.below hb); have Sj := Lib.hid (Sj.out.below hb); have D := Lib.hid (D.out.trans (hb.mono D.out.size)); clear hb CQ Qq Xq)
            | (go_at_call 14; (with_reducible refine (HV.out _).mono ?_); rintro e w10 ⟨rfl, rfl⟩; clear HV)
            | (go_at_call 15; (with_reducible refine (GX.out _ D.out).mono ?_); rintro e w11 ⟨Ag, ng, cg, rfl, hng, Sg, hb⟩; have Sl' := Lib.hid (Sl'.out.below hb); have Sj := Lib.hid (Sj.out.below hb); have D := Lib.hid (D.out.trans (hb.mono D.out.size)); clear hb GX)
            | (go_at_call 16; (with_reducible refine (EQ.out _ _ _ H Sl'.out Sg.out HH.out).mono ?_); rintro e w12 ⟨rfl, hb⟩; have Sj := Lib.hid (Sj.out.below hb); have D := Lib.hid (D.out.trans (hb.mono D.out.size)); clear hb Sl' Sg)
            | (go_at_call 8; (with_reducible refine (PB.out _ D.out).mono ?_); rintro e wb ⟨rfl, hb⟩; have Sj := Lib.hid (Sj.out.below hb); have D := Lib.hid (D.out.trans (hb.mono D.out.size)); clear hb PB))
          have DB := D
          have SJ9 : Hid (∀ W : World, Below wb.heap.size wb W → Sl .u64 W (.slice Aj nj cj) J) := fun W h => Sj.out.below h
          clear Sj D
          go_loopw [159, 20] (fun iv ov wr => ∃ (k : Nat) (A1 : Option Addr) (n1 c1 : Nat) (O : List Int), iv = .int .i64 k ∧ k ≤ m ∧ ov = .slice A1 n1 c1 ∧ Hid (Sl .u64 wr (.slice A1 n1 c1) O) ∧ Hid (u64s O ∧ O.length ≤ 100) ∧ Hid ((ej, J) = gJe O (Lb.drop k)) ∧ Hid (Below wb.heap.size wb wr)) (fun iv _ _ => m - (intOf iv).toNat)
          case atStart => exact ⟨0, _, _, _, La, rfl, by omega, rfl, SAa.out _ DB.out, ⟨HU.out, (show _ ≤ _ by have := HN.out.2; omega)⟩, HJ.out, Below.refl _ _⟩
          case round =>
            obtain ⟨k, A1, n1, c1, O, rfl, hk, rfl, hS, hO, hJ, hD⟩ := hrel
            by_cases hkm : k < m
            · have hkL : k < Lb.length := by have := HM.out; omega
              obtain ⟨ad, c', e, hc', hb, hcell⟩ := (SB.out _ (DB.out.trans (hD.out.mono DB.out.size))).at_ k hkL
              injection e with e1 e2 e3
              subst e1
              clear e2 e3 hc' c' hb
              have hd := drop_cons' hkL
              obtain ⟨y, hy⟩ : ∃ y, Lb.getD k 0 = y := ⟨_, rfl⟩
              have hm : y ∈ Lb := by rw [← hy, List.getD_eq_getElem?_getD, List.getElem?_eq_getElem hkL]; exact List.getElem_mem _
              rw [hy] at hcell hd
              have hJ' := hJ.out
              rw [hd, gJe_cons] at hJ'
              have fy := FB.out y hm
              have FY := Lib.hid fy
              have UO := Lib.hid (gAd_bd hO.out.1 (⟨fy.1, fy.2.1⟩ : 0 ≤ y ∧ y ≤ 18446744073709551615))
              have PO1 := Lib.hid (PO.out wr A1 n1 c1 O hS.out hO.out.1 (by have := hO.out.2; omega))
              clear hy hm hd hkL
              by_cases kO : gCk O = 0
              · have GO1 : Hid (∀ (W : World), Below wr.heap.size wr W → Calls Tryz.prog 15 #[.slice A1 n1 c1, .int .u64 y] W (RetLb W (AG y O).isSome ((AG y O).getD []))) := fun W hW => GO.out W A1 n1 c1 O y (hS.out.below hW) kO fy
                rw [kO] at PO1
                cases hA : AG y O with
                | none =>
                  rw [gAd_no kO fy hA, if_neg (by simp)] at hJ'
                  injection hJ' with j1 j2
                  subst j1 j2
                  rw [hA] at GO1
                  obtain rfl : nj = 0 := hnj.out
                  clear kO fy hA UO
                  go_wp2_with (first
                    | (go_at_call 8; (with_reducible refine (PO1.out).mono ?_); rintro e u1 ⟨rfl, hb⟩; have D1 := Lib.hid hb; clear hb)
                    | (go_at_call 15; (with_reducible refine (GO1.out _ D1.out).mono ?_); rintro e u2 ⟨Ag, ng, cg, rfl, hng, Sg, hb⟩; have D2 := Lib.hid (hD.out.trans ((D1.out.trans (hb.mono D1.out.size)).mono hD.out.size)); clear hb))
                  go_ret
                  exact ⟨rfl, DB.out.trans (D2.out.mono DB.out.size)⟩
                | some H2 =>
                  rw [gAd_ok kO fy hA, if_pos rfl] at hJ'
                  rw [gAd_ok kO fy hA] at UO
                  rw [hA] at GO1
                  have HJ2 := Lib.hid hJ'
                  clear kO fy hA hJ'
                  go_wp2_with (first
                    | (go_at_call 8; (with_reducible refine (PO1.out).mono ?_); rintro e u1 ⟨rfl, hb⟩; have D1 := Lib.hid hb; clear hb)
                    | (go_at_call 15; (with_reducible refine (GO1.out _ D1.out).mono ?_); rintro e u2 ⟨Ag, ng, cg, rfl, hng, Sg, hb⟩; have D2 := Lib.hid (hD.out.trans ((D1.out.trans (hb.mono D1.out.size)).mono hD.out.size)); clear hb))
                  exact ⟨⟨k + 1, _, _, _, H2, by simp, by omega, rfl, Sg.out, ⟨UO.out.1, (show _ ≤ _ by have := UO.out.2; first | omega | (dsimp only at this; omega))⟩, HJ2.out, D2.out⟩, by simp only [intOf]; omega⟩
              · rw [gAd_er kO, if_neg kO] at hJ'
                injection hJ' with j1 j2
                obtain rfl : J = [] := j2
                obtain rfl : nj = 0 := hnj.out
                have j1 : ej = gCk O := j1
                rw [← j1] at PO1 kO
                have kk : (ej != 0) = true := by simpa using kO
                clear kO fy UO j1 hJ
                go_wp2_with (go_at_call 8; (with_reducible refine (PO1.out).mono ?_); rintro e u1 ⟨rfl, hb⟩; have D2 := Lib.hid (hD.out.trans (hb.mono hD.out.size)); clear hb)
                go_ret
                exact ⟨rfl, DB.out.trans (D2.out.mono DB.out.size)⟩
            · obtain rfl : m = k := by omega
              have hJ' := hJ.out
              rw [List.drop_of_length_le (by have := HM.out; omega), gJe] at hJ'
              have hn1 := sl_len hS.out
              have DE := Lib.hid (DB.out.trans (hD.out.mono DB.out.size))
              by_cases h6 : 60 < O.length
              · rw [if_pos h6] at hJ'
                injection hJ' with j1 j2
                obtain rfl : J = [] := j2
                obtain rfl : nj = 0 := hnj.out
                subst j1
                have h7 : (n1 : Int) > 60 := by omega
                clear h6 hn1 hJ
                go_wp2
                go_ret
                exact ⟨rfl, DE.out⟩
              · rw [if_neg h6] at hJ'
                injection hJ' with j1 j2
                subst j1
                subst j2
                have h7 : ¬ (n1 : Int) > 60 := by omega
                have EQ1 := Lib.hid (EQ.out wr _ _ J (SJ9.out _ hD.out) hS.out (by have := hO.out.2; omega))
                clear h6 hn1 hJ
                go_wp2_with (go_at_call 16; (with_reducible refine (EQ1.out).mono ?_); rintro e u1 ⟨rfl, hb⟩; have DE := Lib.hid (DE.out.trans (hb.mono DE.out.size)); clear hb)
                go_ret
                exact ⟨rfl, DE.out⟩
  · have e1 : gSn La = (0, gCk La) := by unfold gSn; rw [if_neg k]
    have e2 : gVa La = ⟨gCk La, dz⟩ := by unfold gVa; rw [if_neg k]
    have e3 : gAd La x = (gCk La, []) := gAd_er k
    have e4 : gJo La Lb = (gCk La, []) := by unfold gJo; rw [if_neg k]
    rw [e1] at SN
    rw [e2] at VA
    rw [e3] at AD
    rw [e4] at JO
    have kk : (gCk La != 0) = true := by simpa using k
    generalize gCk La = er at *
    dsimp only at SN VA AD JO
    clear e1 e2 e3 e4 k hs hs' hu hu' hl hl' hx hT PB
    go_enter Tryz.func3, Tryz.ntmps3
    go_wp2_with (first
      | (go_at_call 4; (with_reducible refine (VA.out _ D.out).mono ?_); rintro e w1 ⟨bv, Av, nv, cv, xv, rfl, hv, hb⟩; have s := hb.alloc hb.size (.cells #[.bool bv, .slice Av nv cv, .int .i64 xv] 26); have Xv := Lib.hid (BX.new w1 bv Av nv cv xv); have Gv := Lib.hid (hv.below (al1 w1 (.cells #[.bool bv, .slice Av nv cv, .int .i64 xv] 26))); have D := Lib.hid (D.out.trans (s.mono D.out.size)); clear hv hb s)
      | (go_at_call 5; (with_reducible refine (SN.out _ D.out).mono ?_); rintro e w2 ⟨rfl, hb⟩; have Xv := Lib.hid (Xv.out.below hb); have Gv := Lib.hid (Gv.out.below hb); have D := Lib.hid (D.out.trans (hb.mono D.out.size)); clear hb)
      | (go_at_call 6; (with_reducible refine (AD.out _ D.out).mono ?_); rintro e w3 ⟨Al, nl, cl, rfl, hnl, Sl', hb⟩; have Xv := Lib.hid (Xv.out.below hb); have Gv := Lib.hid (Gv.out.below hb); have D := Lib.hid (D.out.trans (hb.mono D.out.size)); clear hb; obtain rfl : nl = 0 := hnl.out; clear Sl' hnl)
      | (go_at_call 7; (with_reducible refine (JO.out _ D.out).mono ?_); rintro e w4 ⟨Aj, nj, cj, rfl, hnj, Sj, hb⟩; have Xv := Lib.hid (Xv.out.below hb); have Gv := Lib.hid (Gv.out.below hb); have D := Lib.hid (D.out.trans (hb.mono D.out.size)); clear hb; obtain rfl : nj = 0 := hnj.out; clear Sj hnj)
      | (go_at_call 8; (with_reducible refine (PA.out _ D.out).mono ?_); rintro e w5 ⟨rfl, hb⟩; have Xv := Lib.hid (Xv.out.below hb); have Gv := Lib.hid (Gv.out.below hb); have D := Lib.hid (D.out.trans (hb.mono D.out.size)); clear hb PA)
      | (go_at_call 9; (with_reducible refine (CK.out _ D.out).mono ?_); rintro e w6 ⟨rfl, hb⟩; have Xv := Lib.hid (Xv.out.below hb); have Gv := Lib.hid (Gv.out.below hb); have D := Lib.hid (D.out.trans (hb.mono D.out.size)); obtain ⟨v_0, v_1, v_2⟩ := Xv.out; clear hb CK)
      | (go_at_call 10; (with_reducible refine (NO.out _ _ _ _ _ _ Gv.out).mono ?_); rintro e w7 ⟨rfl, hb⟩; have D := Lib.hid (D.out.trans (hb.mono D.out.size)); clear hb))
    go_ret
    exact ⟨rfl, D.out⟩
end XC
end Go.Proofs.YtelblhgagpkjmaaGreatDoor
