/-
  GrowExact: the walk.
-/
import Derived.Test.YtelblhgagpkjmaaDoorXG10
namespace Go.Proofs.YtelblhgagpkjmaaDoor
set_option linter.unusedVariables false
set_option linter.unusedSimpArgs false
open Go.RowKit
set_option linter.unusedVariables false
set_option linter.unusedSimpArgs false
namespace XC
open L NC NK DC RC SC PC QC IC
open Z (cmpv)
theorem far1 (W : World) (x : Int) (hx : 0 ≤ x ∧ x ≤ 18446744073709551615) (o : Bool) (ho : fara [x] = o) :
    Calls Tryd.prog 21 #[.slice (some ⟨W.heap.size, 0, none⟩) 1 1] (W.alloc (.cells #[.int .u64 x] 22)) fun e w' => e = .returned (.bool o) ∧ W.alloc (.cells #[.int .u64 x] 22) = w' := by
  rw [← ho]
  exact far_c _ [x] _ (sl_new W [x]) (by intro z hz; simp at hz; omega) (by simp)
theorem fara_f {L : List Int} : fara L = false ↔ ∀ y ∈ L, F.exq y < 1923 := by
  unfold fara
  rw [List.any_eq_false]
  constructor
  · intro h y hy; have := h y hy; simp at this; omega
  · intro h y hy; have := h y hy; simp; omega
theorem fit_up {d : Dy} {j k : Int} (h : Fit d j) (hk : j ≤ k) : Fit d k := by
  have := Int.mul_le_mul_of_nonneg_right hk (Int.le_of_lt (sc_one_pos 1024))
  exact ⟨h.ok, h.x, by have := h.hi; omega, by have := h.lo; omega⟩
theorem fit_tot {L : List Int} (h : gCk L = 0) : (gVa L).e = 0 ∧ Fit (gVa L).d 60 ∧ S (gVa L).d = vs L := by
  obtain ⟨h1, h2⟩ := gCk_0.1 h
  have := tot_fit L dz 0 (isX_fi h2) fit_zero (by omega)
  have e : gVa L = ⟨0, tot L dz⟩ := by unfold gVa; rw [if_pos h]
  rw [e]
  refine ⟨rfl, fit_up this.1 (by omega), (gVa_ok h).2.2 ▸ by rw [e]⟩
theorem gboth_p {a b c : Dy} (fa : Fit a 60) (fb : Fit b 60) (fc : Fit c 60) (h : S c = S a + S b) : (DC.Add a b).e = 0 ∧ (DC.Add c dz).e = 0 ∧ (DC.Add a b).d = (DC.Add c dz).d ∧ Ok (DC.Add a b).d := by
  obtain ⟨a1, a2, a3⟩ := add_fit fa fb (by omega)
  obtain ⟨b1, b2, b3⟩ := add_fit fc fit_zero (by omega)
  have z0 : S dz = 0 := sc_zero.2 rfl
  exact ⟨a1, b1, S_inj a2.ok b2.ok (by omega), a2.ok⟩
set_option maxRecDepth 100000 in
set_option maxHeartbeats 16000000 in
theorem exactG_c (A : Option Addr) (n c : Nat) (L : List Int) (x : Int) (w : World) (hs : Sl .u64 w (.slice A n c) L) (hu : u64s L) (hl : L.length ≤ 9223372036854775807) (hx : 0 ≤ x ∧ x ≤ 18446744073709551615) (hT : TabD w) :
    Calls Tryd.prog 4 #[.slice A n c, .int .u64 x] w fun e w' => e = .returned (.bool true) ∧ Below w.heap.size w w' := by
  have HT : Hid (∀ W : World, Below w.heap.size w W → TabD W) := fun W hW => hT.below hW
  have D := Lib.hid (Below.refl w.heap.size w)
  have LIV : Hid (∀ W : World, Below w.heap.size w W → Calls Tryd.prog 20 #[] W fun e w' => e = .returned (.bool true) ∧ Below W.heap.size W w') := fun W hW => livesG_c W (HT.out W hW)
  have AD : Hid (∀ W : World, Below w.heap.size w W → Calls Tryd.prog 17 #[.slice A n c, .int .u64 x] W (RetL W (gAd L x).1 (gAd L x).2)) := fun W hW => Add_g A n c L x W (hs.below hW) hu hl hx (HT.out W hW)
  have VA : Hid (∀ W : World, Below w.heap.size w W → Calls Tryd.prog 18 #[.slice A n c] W (DC.RetD W (gVa L))) := fun W hW => Value_g A n c L W (hs.below hW) hu hl (HT.out W hW)
  have VX : Hid (∀ W : World, Below w.heap.size w W → Calls Tryd.prog 19 #[.int .u64 x] W (RetVb W (OfD x).d ((OfD x).e == 0))) := fun W hW => value_c x W hx.1 hx.2 (HT.out W hW)
  have en : n = L.length := sl_len hs
  have ub := gAd_bd hu hx
  have ZD : Hid (∀ W : World, DV W (.agg #[.bool false, .slice none 0 0, .int .i64 0]) dz) := fun W => (GV.zero W).dv
  by_cases h : (gAd L x).1 = 0
  · obtain ⟨k, fx, g⟩ := gexact h hx
    obtain ⟨a1, a2, a3⟩ := fit_tot k
    have tt : ((0 : Int) == 0) = true := rfl
    rw [(of_fit fx).1, tt] at VX
    rw [re_eq' _ a1] at VA
    rw [h] at AD
    obtain ⟨f1, hf1⟩ : ∃ f1, fara [x] = f1 := ⟨_, rfl⟩
    obtain ⟨f2, hf2⟩ : ∃ f2, fara L = f2 := ⟨_, rfl⟩
    have FX : Hid (∀ W : World, Calls Tryd.prog 21 #[.slice (some ⟨W.heap.size, 0, none⟩) 1 1] (W.alloc (.cells #[.int .u64 x] 22)) fun e w' => e = .returned (.bool f1) ∧ W.alloc (.cells #[.int .u64 x] 22) = w') := fun W => far1 W x hx f1 hf1
    have FL : Hid (∀ W : World, Below w.heap.size w W → Calls Tryd.prog 21 #[.slice A n c] W fun e w' => e = .returned (.bool f2) ∧ W = w') := fun W hW => by
      rw [← hf2]
      exact far_c _ L W (hs.below hW) hu (by have := (gCk_0.1 k).1; omega)
    have fin : (f1 = true ∨ f2 = true) ∨ (f1 = false ∧ f2 = false ∧ (gAd L x).2.length ≤ L.length + 1 ∧ (60 < (gAd L x).2.length → gCk (gAd L x).2 = 2 ∧ (gAd L x).2.length = L.length + 1) ∧ ((gAd L x).2.length ≤ 60 → gCk (gAd L x).2 = 0 ∧ vs (gAd L x).2 = val x + vs L)) := by
      cases f1
      · cases f2
        · right
          refine ⟨rfl, rfl, g ⟨fara_f.1 hf1 x (by simp), fara_f.1 hf2⟩⟩
        · exact .inl (.inr rfl)
      · exact .inl (.inl rfl)
    clear g hf1 hf2
    obtain ⟨M, hM⟩ : ∃ M, M = (gAd L x).2 := ⟨_, rfl⟩
    rw [← hM] at fin AD ub
    rcases fin with hf | ⟨rfl, rfl, l1, l2, l3⟩
    · have hf : f1 = true ∨ (f1 = false ∧ f2 = true) := by
        rcases hf with q | q
        · exact .inl q
        · cases f1
          · exact .inr ⟨rfl, q⟩
          · exact .inl rfl
      generalize (gVa L).d = da at *
      generalize (OfD x).d = db at *
      clear h k fx a1 a2 a3 hM ub en hs hu hl hx hT
      rcases hf with rfl | ⟨rfl, rfl⟩
      · clear FL
        go_enter Tryd.func4, Tryd.ntmps4
        go_wp2_with (first
          | (go_at_call 17; (with_reducible refine (AD.out _ D.out).mono ?_); rintro e w1 ⟨Am, nm, cm, rfl, hn, Sm, hb⟩; have D := Lib.hid (D.out.trans (hb.mono D.out.size)); clear hb)
          | (go_at_call 18; (with_reducible refine (VA.out _ D.out).mono ?_); rintro e w2 ⟨ba, Aa, na, ca, xa, rfl, hv, hb⟩; have s := hb.alloc hb.size (.cells #[.bool ba, .slice Aa na ca, .int .i64 xa] 43); have Sm := Lib.hid (Sm.out.below s); have Xa := BD.new hv.dv; have D := Lib.hid (D.out.trans (s.mono D.out.size)); clear hv hb s)
          | (go_at_call 19; (with_reducible refine (VX.out _ D.out).mono ?_); rintro e w3 ⟨bb, Ab, nb, cb, xb, rfl, hv, hb⟩; have s := hb.alloc hb.size (.cells #[.bool bb, .slice Ab nb cb, .int .i64 xb] 43); have Xa := Xa.below s; have Sm := Lib.hid (Sm.out.below s); have Xb := BD.new hv.dv; have D := Lib.hid (D.out.trans (s.mono D.out.size)); clear hv hb s)
          | (go_at_call 20; (with_reducible refine (LIV.out _ D.out).mono ?_); rintro e w4 ⟨rfl, hb⟩; have Xa := Xa.below hb; have Xb := Xb.below hb; have Sm := Lib.hid (Sm.out.below hb); have D := Lib.hid (D.out.trans (hb.mono D.out.size)); clear hb)
          | (go_at_call 21; (with_reducible refine (FX.out w4).mono ?_); rintro e w5 ⟨rfl, hw⟩; have s := al1 w4 (.cells #[.int .u64 x] 22); rw [hw] at s; clear hw; have Xa := Xa.below s; have Xb := Xb.below s; have Sm := Lib.hid (Sm.out.below s); have D := Lib.hid (D.out.trans (s.mono D.out.size)); clear s)
          | (go_at_call 21; (with_reducible refine (FL.out _ D.out).mono ?_); rintro e w6 ⟨rfl, rfl⟩))
        go_ret
        exact ⟨rfl, D.out⟩
      · go_enter Tryd.func4, Tryd.ntmps4
        go_wp2_with (first
          | (go_at_call 17; (with_reducible refine (AD.out _ D.out).mono ?_); rintro e w1 ⟨Am, nm, cm, rfl, hn, Sm, hb⟩; have D := Lib.hid (D.out.trans (hb.mono D.out.size)); clear hb)
          | (go_at_call 18; (with_reducible refine (VA.out _ D.out).mono ?_); rintro e w2 ⟨ba, Aa, na, ca, xa, rfl, hv, hb⟩; have s := hb.alloc hb.size (.cells #[.bool ba, .slice Aa na ca, .int .i64 xa] 43); have Sm := Lib.hid (Sm.out.below s); have Xa := BD.new hv.dv; have D := Lib.hid (D.out.trans (s.mono D.out.size)); clear hv hb s)
          | (go_at_call 19; (with_reducible refine (VX.out _ D.out).mono ?_); rintro e w3 ⟨bb, Ab, nb, cb, xb, rfl, hv, hb⟩; have s := hb.alloc hb.size (.cells #[.bool bb, .slice Ab nb cb, .int .i64 xb] 43); have Xa := Xa.below s; have Sm := Lib.hid (Sm.out.below s); have Xb := BD.new hv.dv; have D := Lib.hid (D.out.trans (s.mono D.out.size)); clear hv hb s)
          | (go_at_call 20; (with_reducible refine (LIV.out _ D.out).mono ?_); rintro e w4 ⟨rfl, hb⟩; have Xa := Xa.below hb; have Xb := Xb.below hb; have Sm := Lib.hid (Sm.out.below hb); have D := Lib.hid (D.out.trans (hb.mono D.out.size)); clear hb)
          | (go_at_call 21; (with_reducible refine (FX.out w4).mono ?_); rintro e w5 ⟨rfl, hw⟩; have s := al1 w4 (.cells #[.int .u64 x] 22); rw [hw] at s; clear hw; have Xa := Xa.below s; have Xb := Xb.below s; have Sm := Lib.hid (Sm.out.below s); have D := Lib.hid (D.out.trans (s.mono D.out.size)); clear s)
          | (go_at_call 21; (with_reducible refine (FL.out _ D.out).mono ?_); rintro e w6 ⟨rfl, rfl⟩))
        go_ret
        exact ⟨rfl, D.out⟩
    · have VM : Hid (∀ (W : World) (A : Option Addr) (n c : Nat), Below w.heap.size w W → Sl .u64 W (.slice A n c) M → Calls Tryd.prog 18 #[.slice A n c] W (DC.RetD W (gVa M))) := fun W A n c hW hs' => Value_g A n c M W hs' ub.1 (by omega) (HT.out W hW)
      by_cases hm : 60 < M.length
      · obtain ⟨m1, m2⟩ := l2 hm
        have eM : gVa M = ⟨2, dz⟩ := by unfold gVa; rw [if_neg (by omega), m1]
        rw [eM] at VM
        have HM1 : Hid ((M.length : Int) > 60) := (show (M.length : Int) > 60 by omega)
        have HM2 : Hid (M.length = n + 1) := (show M.length = n + 1 by omega)
        have l48 : Hid (n ≤ 60) := (show n ≤ 60 by have := (gCk_0.1 k).1; omega)
        generalize (gVa L).d = da at *
        generalize (OfD x).d = db at *
        clear h k fx a1 a2 a3 hM ub en hs hu hl hx hT l1 l2 l3 m1 m2 eM hm
        go_enter Tryd.func4, Tryd.ntmps4
        go_wp2_with (first
          | (go_at_call 17; (with_reducible refine (AD.out _ D.out).mono ?_); rintro e w1 ⟨Am, nm, cm, rfl, hn, Sm, hb⟩; have D := Lib.hid (D.out.trans (hb.mono D.out.size)); clear hb; have hn1 : (nm : Int) > 60 := (by have := hn.out; have := HM1.out; omega); have hn2 : Hid ((nm : Int) = (n : Int) + 1) := (by show _ = _; have := hn.out; have := HM2.out; omega); have hw1 : wrap64 ((n : Int) + 1) = (n : Int) + 1 := (by have := l48.out; unfold wrap64; omega); clear hn)
          | (go_at_call 18; (with_reducible refine (VA.out _ D.out).mono ?_); rintro e w2 ⟨ba, Aa, na, ca, xa, rfl, hv, hb⟩; have s := hb.alloc hb.size (.cells #[.bool ba, .slice Aa na ca, .int .i64 xa] 43); have Sm := Lib.hid (Sm.out.below s); have Xa := BD.new hv.dv; have D := Lib.hid (D.out.trans (s.mono D.out.size)); clear hv hb s)
          | (go_at_call 19; (with_reducible refine (VX.out _ D.out).mono ?_); rintro e w3 ⟨bb, Ab, nb, cb, xb, rfl, hv, hb⟩; have s := hb.alloc hb.size (.cells #[.bool bb, .slice Ab nb cb, .int .i64 xb] 43); have Xa := Xa.below s; have Sm := Lib.hid (Sm.out.below s); have Xb := BD.new hv.dv; have D := Lib.hid (D.out.trans (s.mono D.out.size)); clear hv hb s)
          | (go_at_call 20; (with_reducible refine (LIV.out _ D.out).mono ?_); rintro e w4 ⟨rfl, hb⟩; have Xa := Xa.below hb; have Xb := Xb.below hb; have Sm := Lib.hid (Sm.out.below hb); have D := Lib.hid (D.out.trans (hb.mono D.out.size)); clear hb)
          | (go_at_call 21; (with_reducible refine (FX.out w4).mono ?_); rintro e w5 ⟨rfl, hw⟩; have s := al1 w4 (.cells #[.int .u64 x] 22); rw [hw] at s; clear hw; have Xa := Xa.below s; have Xb := Xb.below s; have Sm := Lib.hid (Sm.out.below s); have D := Lib.hid (D.out.trans (s.mono D.out.size)); clear s)
          | (go_at_call 21; (with_reducible refine (FL.out _ D.out).mono ?_); rintro e w6 ⟨rfl, rfl⟩)
          | (go_at_call 18; (with_reducible refine (VM.out _ _ _ _ D.out Sm.out).mono ?_); rintro e w7 ⟨bd, Ad, nd, cd, xd, rfl, hv, hb⟩; have s := hb.alloc hb.size (.cells #[.bool bd, .slice Ad nd cd, .int .i64 xd] 43); have Xa := Xa.below s; have Xb := Xb.below s; have Sm := Lib.hid (Sm.out.below s); have Xd := BD.new hv.dv; have D := Lib.hid (D.out.trans (s.mono D.out.size)); clear hv hb s))
        go_ret
        exact ⟨by first | rfl | (rw [show ((nm : Int) == (n : Int) + 1) = true by simpa using hn2.out]; rfl), D.out⟩
      · obtain ⟨m1, m2⟩ := l3 (by omega)
        obtain ⟨c1, c2, c3⟩ := fit_tot m1
        rw [re_eq' _ c1] at VM
        obtain ⟨b1, b2, b3, b4⟩ := gboth_p a2 (fit_up (of_fit fx).2 (by omega)) c2 (by rw [c3, m2, a3]; show val x + vs L = vs L + val x; omega)
        have BS : Hid (∀ (W : World) (ua ub uc ud : Value), Below w.heap.size w W → DV W ua (gVa L).d → DV W ub (OfD x).d → DV W uc (gVa M).d → DV W ud dz → Calls Tryd.prog 23 #[ua, ub, uc, ud] W fun e w' => e = .returned (.bool true) ∧ Below W.heap.size W w') := fun W ua ub uc ud hW h1 h2 h3 h4 => bothSame_c _ _ _ _ _ _ _ _ W h1 h2 h3 h4 (HT.out W hW) b1 b2 b3 b4
        have O2 : Hid (∀ (W : World) (ob : Obj), Calls Tryd.prog 22 #[.slice (some ⟨W.heap.size + 1, 0, none⟩) 2 2] ((W.alloc ob).alloc (.cells #[.int .i64 0, .int .i64 0] 23)) fun e w' => e = .returned (.bool true) ∧ (W.alloc ob).alloc (.cells #[.int .i64 0, .int .i64 0] 23) = w') := fun W ob => by
          have := okn (W.alloc ob) [0, 0] (by simp) (o := true) (by simp)
          rw [show (W.alloc ob).heap.size = W.heap.size + 1 by simp] at this
          exact this
        have HM1 : Hid (¬ (M.length : Int) > 60) := (show ¬ (M.length : Int) > 60 by omega)
        have HM2 : Hid (M.length ≤ n + 1) := (show M.length ≤ n + 1 by omega)
        have l48 : Hid (n ≤ 60) := (show n ≤ 60 by have := (gCk_0.1 k).1; omega)
        generalize (gVa M).d = dc at *
        generalize (gVa L).d = da at *
        generalize (OfD x).d = db at *
        clear h k fx a1 a2 a3 hM ub en hs hu hl hx hT l1 l2 l3 m1 m2 hm b1 b2 b3 b4 c1 c2 c3
        go_enter Tryd.func4, Tryd.ntmps4
        go_wp2_with (first
          | (go_at_call 17; (with_reducible refine (AD.out _ D.out).mono ?_); rintro e w1 ⟨Am, nm, cm, rfl, hn, Sm, hb⟩; have D := Lib.hid (D.out.trans (hb.mono D.out.size)); clear hb; have hn1 : ¬ (nm : Int) > 60 := (by have := hn.out; have := HM1.out; omega); have hn2 : (nm : Int) ≤ (n : Int) + 1 := (by have := hn.out; have := HM2.out; omega); have hw1 : wrap64 ((n : Int) + 1) = (n : Int) + 1 := (by have := l48.out; unfold wrap64; omega); clear hn)
          | (go_at_call 18; (with_reducible refine (VA.out _ D.out).mono ?_); rintro e w2 ⟨ba, Aa, na, ca, xa, rfl, hv, hb⟩; have s := hb.alloc hb.size (.cells #[.bool ba, .slice Aa na ca, .int .i64 xa] 43); have Sm := Lib.hid (Sm.out.below s); have Xa := BD.new hv.dv; have D := Lib.hid (D.out.trans (s.mono D.out.size)); clear hv hb s)
          | (go_at_call 19; (with_reducible refine (VX.out _ D.out).mono ?_); rintro e w3 ⟨bb, Ab, nb, cb, xb, rfl, hv, hb⟩; have s := hb.alloc hb.size (.cells #[.bool bb, .slice Ab nb cb, .int .i64 xb] 43); have Xa := Xa.below s; have Sm := Lib.hid (Sm.out.below s); have Xb := BD.new hv.dv; have D := Lib.hid (D.out.trans (s.mono D.out.size)); clear hv hb s)
          | (go_at_call 20; (with_reducible refine (LIV.out _ D.out).mono ?_); rintro e w4 ⟨rfl, hb⟩; have Xa := Xa.below hb; have Xb := Xb.below hb; have Sm := Lib.hid (Sm.out.below hb); have D := Lib.hid (D.out.trans (hb.mono D.out.size)); clear hb)
          | (go_at_call 21; (with_reducible refine (FX.out w4).mono ?_); rintro e w5 ⟨rfl, hw⟩; have s := al1 w4 (.cells #[.int .u64 x] 22); rw [hw] at s; clear hw; have Xa := Xa.below s; have Xb := Xb.below s; have Sm := Lib.hid (Sm.out.below s); have D := Lib.hid (D.out.trans (s.mono D.out.size)); clear s)
          | (go_at_call 21; (with_reducible refine (FL.out _ D.out).mono ?_); rintro e w6 ⟨rfl, rfl⟩)
          | (go_at_call 18; (with_reducible refine (VM.out _ _ _ _ D.out Sm.out).mono ?_); rintro e w7 ⟨bd, Ad, nd, cd, xd, rfl, hv, hb⟩; have s := hb.alloc hb.size (.cells #[.bool bd, .slice Ad nd cd, .int .i64 xd] 43); have Xa := Xa.below s; have Xb := Xb.below s; have Sm := Lib.hid (Sm.out.below s); have Xd := BD.new hv.dv; have D := Lib.hid (D.out.trans (s.mono D.out.size)); clear hv hb s; obtain ⟨a_0, a_1, a_2⟩ := Xa.bx; obtain ⟨b_0, b_1, b_2⟩ := Xb.bx; obtain ⟨d_0, d_1, d_2⟩ := Xd.bx)
          | (go_at_call 22; (with_reducible refine (O2.out w7 (.cells #[.bool bd, .slice Ad nd cd, .int .i64 xd] 43)).mono ?_); rintro e w8 ⟨rfl, hw⟩; have s := al1 (w7.alloc (.cells #[.bool bd, .slice Ad nd cd, .int .i64 xd] 43)) (.cells #[.int .i64 0, .int .i64 0] 23); rw [hw] at s; clear hw; have Xa := Xa.below s; have Xb := Xb.below s; have Xd := Xd.below s; have Sm := Lib.hid (Sm.out.below s); have D := Lib.hid (D.out.trans (s.mono D.out.size)); clear s; obtain ⟨a_0, a_1, a_2⟩ := Xa.bx; obtain ⟨b_0, b_1, b_2⟩ := Xb.bx; obtain ⟨d_0, d_1, d_2⟩ := Xd.bx)
          | (go_at_call 23; (with_reducible refine (BS.out _ _ _ _ _ D.out Xa.dv Xb.dv Xd.dv (ZD.out _)).mono ?_); rintro e w9 ⟨rfl, hb⟩; have Xa := Xa.below hb; have Xb := Xb.below hb; have Xd := Xd.below hb; have Sm := Lib.hid (Sm.out.below hb); have D := Lib.hid (D.out.trans (hb.mono D.out.size)); clear hb))
        go_ret
        exact ⟨rfl, D.out⟩
  · have e0 : (gAd L x).2 = [] := by
      unfold gAd at h ⊢
      split at h
      · split at h
        · rename_i q1 q2; rw [if_pos q1, if_pos q2]
        · rename_i q1 q2
          rw [if_pos q1, if_neg q2]
          cases hA : AG x L with
          | none => rfl
          | some H => rw [hA] at h; exact absurd rfl h
      · rename_i q1; rw [if_neg q1]
    rw [e0] at AD
    have k : ((gAd L x).1 != 0) = true := by simpa using h
    generalize (gAd L x).1 = er at *
    generalize ((OfD x).e == 0) = px at *
    generalize gVa L = ra at *
    generalize (OfD x).d = db at *
    clear e0 h ub en hs hu hl hx hT
    go_enter Tryd.func4, Tryd.ntmps4
    go_wp2_with (first
      | (go_at_call 17; (with_reducible refine (AD.out _ D.out).mono ?_); rintro e w1 ⟨Am, nm, cm, rfl, hn, Sm, hb⟩; have D := Lib.hid (D.out.trans (hb.mono D.out.size)); clear hb; obtain rfl := hn.out)
      | (go_at_call 18; (with_reducible refine (VA.out _ D.out).mono ?_); rintro e w2 ⟨ba, Aa, na, ca, xa, rfl, hv, hb⟩; have s := hb.alloc hb.size (.cells #[.bool ba, .slice Aa na ca, .int .i64 xa] 43); have Sm := Lib.hid (Sm.out.below s); have Xa := BD.new hv.dv; have D := Lib.hid (D.out.trans (s.mono D.out.size)); clear hv hb s)
      | (go_at_call 19; (with_reducible refine (VX.out _ D.out).mono ?_); rintro e w3 ⟨bb, Ab, nb, cb, xb, rfl, hv, hb⟩; have s := hb.alloc hb.size (.cells #[.bool bb, .slice Ab nb cb, .int .i64 xb] 43); have Xa := Xa.below s; have Sm := Lib.hid (Sm.out.below s); have Xb := BD.new hv.dv; have D := Lib.hid (D.out.trans (s.mono D.out.size)); clear hv hb s)
      | (go_at_call 20; (with_reducible refine (LIV.out _ D.out).mono ?_); rintro e w4 ⟨rfl, hb⟩; have Xa := Xa.below hb; have Xb := Xb.below hb; have Sm := Lib.hid (Sm.out.below hb); have D := Lib.hid (D.out.trans (hb.mono D.out.size)); clear hb))
    go_ret
    exact ⟨rfl, D.out⟩
end XC
end Go.Proofs.YtelblhgagpkjmaaDoor
