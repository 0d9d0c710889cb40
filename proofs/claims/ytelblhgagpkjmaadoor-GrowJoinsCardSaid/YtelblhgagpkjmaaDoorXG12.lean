/-
  GrowJoins: the walk.
-/
import Derived.Test.YtelblhgagpkjmaaDoorXG11
namespace Go.Proofs.YtelblhgagpkjmaaDoor
set_option linter.unusedVariables false
set_option linter.unusedSimpArgs false
open Go.RowKit
set_option linter.unusedVariables false
set_option linter.unusedSimpArgs false
namespace XC
open L NC NK DC RC SC PC QC IC
open Z (cmpv)
theorem gJo_nil {a b : List Int} (h : (gJo a b).1 ≠ 0) : (gJo a b).2 = [] := by
  have key : ∀ {b a : List Int}, (gJe a b).1 ≠ 0 → (gJe a b).2 = [] := by
    intro b
    induction b with
    | nil =>
      intro a h
      unfold gJe at h ⊢
      split at h
      · rename_i q; rw [if_pos q]
      · exact absurd rfl h
    | cons x b ih =>
      intro a h
      unfold gJe at h ⊢
      split at h
      · rename_i q; rw [if_pos q]; exact ih h
      · rename_i q; rw [if_neg q]
  unfold gJo at h ⊢
  split at h
  · rename_i q1
    rw [if_pos q1]
    split at h
    · rename_i q2; rw [if_pos q2]; exact key h
    · rename_i q2; rw [if_neg q2]
  · rename_i q1; rw [if_neg q1]
set_option maxRecDepth 100000 in
set_option maxHeartbeats 16000000 in
theorem joinsG_c (A : Option Addr) (n c : Nat) (B : Option Addr) (m d : Nat) (L M : List Int) (w : World) (hs : Sl .u64 w (.slice A n c) L) (hs' : Sl .u64 w (.slice B m d) M) (hu : u64s L) (hu' : u64s M) (hl : L.length ≤ 9223372036854775807) (hl' : M.length ≤ 9223372036854775807) (hT : TabD w) :
    Calls Tryd.prog 5 #[.slice A n c, .slice B m d] w fun e w' => e = .returned (.bool true) ∧ Below w.heap.size w w' := by
  have HT : Hid (∀ W : World, Below w.heap.size w W → TabD W) := fun W hW => hT.below hW
  have D := Lib.hid (Below.refl w.heap.size w)
  have LIV : Hid (∀ W : World, Below w.heap.size w W → Calls Tryd.prog 20 #[] W fun e w' => e = .returned (.bool true) ∧ Below W.heap.size W w') := fun W hW => livesG_c W (HT.out W hW)
  have JO : Hid (∀ W : World, Below w.heap.size w W → Calls Tryd.prog 24 #[.slice A n c, .slice B m d] W (RetL W (gJo L M).1 (gJo L M).2)) := fun W hW => Join_g A n c B m d L M W (hs.below hW) (hs'.below hW) hu hu' hl hl' (HT.out W hW)
  have JP : Hid (∀ W : World, Below w.heap.size w W → Calls Tryd.prog 24 #[.slice B m d, .slice A n c] W (RetL W (gJo M L).1 (gJo M L).2)) := fun W hW => Join_g B m d A n c M L W (hs'.below hW) (hs.below hW) hu' hu hl' hl (HT.out W hW)
  have VA : Hid (∀ W : World, Below w.heap.size w W → Calls Tryd.prog 18 #[.slice A n c] W (DC.RetD W (gVa L))) := fun W hW => Value_g A n c L W (hs.below hW) hu hl (HT.out W hW)
  have VB : Hid (∀ W : World, Below w.heap.size w W → Calls Tryd.prog 18 #[.slice B m d] W (DC.RetD W (gVa M))) := fun W hW => Value_g B m d M W (hs'.below hW) hu' hl' (HT.out W hW)
  have ZD : Hid (∀ W : World, DV W (.agg #[.bool false, .slice none 0 0, .int .i64 0]) dz) := fun W => (GV.zero W).dv
  have ub := gJo_bd hu hu'
  have uc := gJo_bd hu' hu
  by_cases h : (gJo L M).1 = 0
  · obtain ⟨k, k', g⟩ := gjoins h
    obtain ⟨a1, a2, a3⟩ := fit_tot k
    obtain ⟨b1, b2, b3⟩ := fit_tot k'
    rw [re_eq' _ a1] at VA
    rw [re_eq' _ b1] at VB
    rw [h] at JO
    obtain ⟨f1, hf1⟩ : ∃ f1, fara L = f1 := ⟨_, rfl⟩
    obtain ⟨f2, hf2⟩ : ∃ f2, fara M = f2 := ⟨_, rfl⟩
    have FA : Hid (∀ W : World, Below w.heap.size w W → Calls Tryd.prog 21 #[.slice A n c] W fun e w' => e = .returned (.bool f1) ∧ W = w') := fun W hW => by
      rw [← hf1]
      exact far_c _ L W (hs.below hW) hu (by have := (gCk_0.1 k).1; omega)
    have FB : Hid (∀ W : World, Below w.heap.size w W → Calls Tryd.prog 21 #[.slice B m d] W fun e w' => e = .returned (.bool f2) ∧ W = w') := fun W hW => by
      rw [← hf2]
      exact far_c _ M W (hs'.below hW) hu' (by have := (gCk_0.1 k').1; omega)
    by_cases ff : f1 = true ∨ f2 = true
    · have hf : f1 = true ∨ (f1 = false ∧ f2 = true) := by
        rcases ff with q | q
        · exact .inl q
        · cases f1
          · exact .inr ⟨rfl, q⟩
          · exact .inl rfl
      generalize (gVa L).d = da at *
      generalize (gVa M).d = db at *
      generalize (gJo L M).2 = J at *
      clear h k k' g a1 a2 a3 b1 b2 b3 ub uc hs hs' hu hu' hl hl' hT ff hf1 hf2
      rcases hf with rfl | ⟨rfl, rfl⟩
      all_goals (
        go_enter Tryd.func5, Tryd.ntmps5
        go_wp2_with (first
          | (go_at_call 24; (with_reducible refine (JO.out _ D.out).mono ?_); rintro e w1 ⟨Al, nl, cl, rfl, hn, SL, hb⟩; have D := Lib.hid (D.out.trans (hb.mono D.out.size)); clear hb)
          | (go_at_call 18; (with_reducible refine (VA.out _ D.out).mono ?_); rintro e w2 ⟨ba, Aa, na, ca, xa, rfl, hv, hb⟩; have s := hb.alloc hb.size (.cells #[.bool ba, .slice Aa na ca, .int .i64 xa] 43); have SL := Lib.hid (SL.out.below s); have Xa := BD.new hv.dv; have D := Lib.hid (D.out.trans (s.mono D.out.size)); clear hv hb s)
          | (go_at_call 18; (with_reducible refine (VB.out _ D.out).mono ?_); rintro e w3 ⟨bb, Ab, nb, cb, xb, rfl, hv, hb⟩; have s := hb.alloc hb.size (.cells #[.bool bb, .slice Ab nb cb, .int .i64 xb] 43); have Xa := Xa.below s; have SL := Lib.hid (SL.out.below s); have Xb := BD.new hv.dv; have D := Lib.hid (D.out.trans (s.mono D.out.size)); clear hv hb s)
          | (go_at_call 20; (with_reducible refine (LIV.out _ D.out).mono ?_); rintro e w4 ⟨rfl, hb⟩; have Xa := Xa.below hb; have Xb := Xb.below hb; have SL := Lib.hid (SL.out.below hb); have D := Lib.hid (D.out.trans (hb.mono D.out.size)); clear hb)
          | (go_at_call 21; (with_reducible refine (FA.out _ D.out).mono ?_); rintro e w5 ⟨rfl, rfl⟩)
          | (go_at_call 21; (with_reducible refine (FB.out _ D.out).mono ?_); rintro e w6 ⟨rfl, rfl⟩))
        go_ret
        exact ⟨rfl, D.out⟩)
    · obtain rfl : f1 = false := by cases f1; rfl; exact absurd (.inl rfl) ff
      obtain rfl : f2 = false := by cases f2; rfl; exact absurd (.inr rfl) ff
      obtain ⟨m1, m2⟩ := g (fara_f.1 hf1) (fara_f.1 hf2)
      obtain ⟨c1, c2, c3⟩ := fit_tot m1
      obtain ⟨J, hJ⟩ : ∃ J, J = (gJo L M).2 := ⟨_, rfl⟩
      obtain ⟨K, hK⟩ : ∃ K, K = (gJo M L).2 := ⟨_, rfl⟩
      rw [← hJ] at JO ub m1 m2 c1 c2 c3
      rw [← hK] at JP uc
      have VJ : Hid (∀ (W : World) (A : Option Addr) (n c : Nat), Below w.heap.size w W → Sl .u64 W (.slice A n c) J → Calls Tryd.prog 18 #[.slice A n c] W (DC.RetD W ⟨0, (gVa J).d⟩)) := fun W A n c hW hs' => by
        rw [← re_eq' _ c1]
        exact Value_g A n c J W hs' ub.1 (by omega) (HT.out W hW)
      have VK : Hid (∀ (W : World) (A : Option Addr) (n c : Nat), Below w.heap.size w W → Sl .u64 W (.slice A n c) K → Calls Tryd.prog 18 #[.slice A n c] W (DC.RetD W (gVa K))) := fun W A n c hW hs' => Value_g A n c K W hs' uc.1 (by omega) (HT.out W hW)
      obtain ⟨d1, d2, d3, d4⟩ := gboth_p a2 b2 c2 (by rw [c3, m2, a3, b3])
      have BS : Hid (∀ (W : World) (ua ub uc ud : Value), Below w.heap.size w W → DV W ua (gVa L).d → DV W ub (gVa M).d → DV W uc (gVa J).d → DV W ud dz → Calls Tryd.prog 23 #[ua, ub, uc, ud] W fun e w' => e = .returned (.bool true) ∧ Below W.heap.size W w') := fun W ua ub uc ud hW h1 h2 h3 h4 => bothSame_c _ _ _ _ _ _ _ _ W h1 h2 h3 h4 (HT.out W hW) d1 d2 d3 d4
      have O3 : Hid (∀ (W : World) (ob : Obj), Calls Tryd.prog 22 #[.slice (some ⟨W.heap.size + 1, 0, none⟩) 3 3] ((W.alloc ob).alloc (.cells #[.int .i64 0, .int .i64 0, .int .i64 0] 23)) fun e w' => e = .returned (.bool true) ∧ (W.alloc ob).alloc (.cells #[.int .i64 0, .int .i64 0, .int .i64 0] 23) = w') := fun W ob => by
          have := okn (W.alloc ob) [0, 0, 0] (by simp) (o := true) (by simp)
          rw [show (W.alloc ob).heap.size = W.heap.size + 1 by simp] at this
          exact this
      have O1 : Hid (∀ (W : World) (ob : Obj) (er : Int), Calls Tryd.prog 22 #[.slice (some ⟨W.heap.size + 1, 0, none⟩) 1 1] ((W.alloc ob).alloc (.cells #[.int .i64 er] 23)) fun e w' => e = .returned (.bool (er == 0)) ∧ (W.alloc ob).alloc (.cells #[.int .i64 er] 23) = w') := fun W ob er => by
        have := okn (W.alloc ob) [er] (by simp) (o := (er == 0)) (by simp)
        rw [show (W.alloc ob).heap.size = W.heap.size + 1 by simp] at this
        exact this
      by_cases h2 : (gJo M L).1 = 0
      · obtain ⟨-, -, g2⟩ := gjoins h2
        obtain ⟨n1, n2⟩ := g2 (fara_f.1 hf2) (fara_f.1 hf1)
        rw [← hK] at n1 n2
        obtain ⟨e1, e2, e3⟩ := fit_tot n1
        have eKJ : (gVa K).d = (gVa J).d := S_inj e2.ok c2.ok (by rw [e3, c3, n2, m2]; omega)
        rw [re_eq' _ e1, eKJ] at VK
        rw [h2] at JP
        have SM : Hid (∀ (W : World) (u v : Value), Below w.heap.size w W → DV W u (gVa J).d → DV W v (gVa J).d → Calls Tryd.prog 25 #[u, v] W (DC.RetB W (.bool true))) := fun W u v hW h1 h2 => same_true h1 h2 rfl c2.ok
        have O1 : Hid (∀ (W : World) (ob : Obj), Calls Tryd.prog 22 #[.slice (some ⟨W.heap.size + 1, 0, none⟩) 1 1] ((W.alloc ob).alloc (.cells #[.int .i64 0] 23)) fun e w' => e = .returned (.bool true) ∧ (W.alloc ob).alloc (.cells #[.int .i64 0] 23) = w') := fun W ob => O1.out W ob 0
        generalize (gVa J).d = dj at *
        generalize (gVa L).d = da at *
        generalize (gVa M).d = db at *
        clear h k k' g a1 a2 a3 b1 b2 b3 ub uc hs hs' hu hu' hl hl' hT ff hf1 hf2 m1 m2 c1 c2 c3 d1 d2 d3 d4 hJ hK g2 n1 n2 e1 e2 e3 eKJ h2
        go_enter Tryd.func5, Tryd.ntmps5
        go_wp2_with (first
          | (go_at_call 24; (with_reducible refine (JO.out _ D.out).mono ?_); rintro e w1 ⟨Al, nl, cl, rfl, hn, SL, hb⟩; have D := Lib.hid (D.out.trans (hb.mono D.out.size)); clear hb)
          | (go_at_call 18; (with_reducible refine (VA.out _ D.out).mono ?_); rintro e w2 ⟨ba, Aa, na, ca, xa, rfl, hv, hb⟩; have s := hb.alloc hb.size (.cells #[.bool ba, .slice Aa na ca, .int .i64 xa] 43); have SL := Lib.hid (SL.out.below s); have Xa := BD.new hv.dv; have D := Lib.hid (D.out.trans (s.mono D.out.size)); clear hv hb s)
          | (go_at_call 18; (with_reducible refine (VB.out _ D.out).mono ?_); rintro e w3 ⟨bb, Ab, nb, cb, xb, rfl, hv, hb⟩; have s := hb.alloc hb.size (.cells #[.bool bb, .slice Ab nb cb, .int .i64 xb] 43); have Xa := Xa.below s; have SL := Lib.hid (SL.out.below s); have Xb := BD.new hv.dv; have D := Lib.hid (D.out.trans (s.mono D.out.size)); clear hv hb s)
          | (go_at_call 20; (with_reducible refine (LIV.out _ D.out).mono ?_); rintro e w4 ⟨rfl, hb⟩; have Xa := Xa.below hb; have Xb := Xb.below hb; have SL := Lib.hid (SL.out.below hb); have D := Lib.hid (D.out.trans (hb.mono D.out.size)); clear hb)
          | (go_at_call 21; (with_reducible refine (FA.out _ D.out).mono ?_); rintro e w5 ⟨rfl, rfl⟩)
          | (go_at_call 21; (with_reducible refine (FB.out _ D.out).mono ?_); rintro e w6 ⟨rfl, rfl⟩)
          | (go_at_call 18; (with_reducible refine (VJ.out _ _ _ _ D.out SL.out).mono ?_); rintro e w7 ⟨bz, Az, nz, cz, xz, rfl, hv, hb⟩; have s := hb.alloc hb.size (.cells #[.bool bz, .slice Az nz cz, .int .i64 xz] 43); have Xa := Xa.below s; have Xb := Xb.below s; have SL := Lib.hid (SL.out.below s); have Xz := BD.new hv.dv; have D := Lib.hid (D.out.trans (s.mono D.out.size)); clear hv hb s)
          | (go_at_call 22; (with_reducible refine (O3.out w7 (.cells #[.bool bz, .slice Az nz cz, .int .i64 xz] 43)).mono ?_); rintro e w8 ⟨rfl, hw⟩; have s := al1 (w7.alloc (.cells #[.bool bz, .slice Az nz cz, .int .i64 xz] 43)) (.cells #[.int .i64 0, .int .i64 0, .int .i64 0] 23); rw [hw] at s; clear hw; have Xa := Xa.below s; have Xb := Xb.below s; have Xz := Xz.below s; have SL := Lib.hid (SL.out.below s); have D := Lib.hid (D.out.trans (s.mono D.out.size)); clear s; obtain ⟨a_0, a_1, a_2⟩ := Xa.bx; obtain ⟨b_0, b_1, b_2⟩ := Xb.bx; obtain ⟨z_0, z_1, z_2⟩ := Xz.bx)
          | (go_at_call 23; (with_reducible refine (BS.out _ _ _ _ _ D.out Xa.dv Xb.dv Xz.dv (ZD.out _)).mono ?_); rintro e w9 ⟨rfl, hb⟩; have Xa := Xa.below hb; have Xb := Xb.below hb; have Xz := Xz.below hb; have SL := Lib.hid (SL.out.below hb); have D := Lib.hid (D.out.trans (hb.mono D.out.size)); clear hb)
          | (go_at_call 24; (with_reducible refine (JP.out _ D.out).mono ?_); rintro e w10 ⟨Am, nm, cm, rfl, hn, Sm, hb⟩; have Xa := Xa.below hb; have Xb := Xb.below hb; have Xz := Xz.below hb; have SL := Lib.hid (SL.out.below hb); have D := Lib.hid (D.out.trans (hb.mono D.out.size)); clear hb)
          | (go_at_call 18; (with_reducible refine (VK.out _ _ _ _ D.out Sm.out).mono ?_); rintro e w11 ⟨bw, Aw, nw, cw, xw, rfl, hv, hb⟩; have s := hb.alloc hb.size (.cells #[.bool bw, .slice Aw nw cw, .int .i64 xw] 43); have Xa := Xa.below s; have Xb := Xb.below s; have Xz := Xz.below s; have SL := Lib.hid (SL.out.below s); have Sm := Lib.hid (Sm.out.below s); have Xw := BD.new hv.dv; have D := Lib.hid (D.out.trans (s.mono D.out.size)); clear hv hb s)
          | (go_at_call 22; (with_reducible refine (O1.out w11 (.cells #[.bool bw, .slice Aw nw cw, .int .i64 xw] 43)).mono ?_); rintro e w12 ⟨rfl, hw⟩; have s := al1 (w11.alloc (.cells #[.bool bw, .slice Aw nw cw, .int .i64 xw] 43)) (.cells #[.int .i64 0] 23); rw [hw] at s; clear hw; have Xa := Xa.below s; have Xb := Xb.below s; have Xz := Xz.below s; have Xw := Xw.below s; have SL := Lib.hid (SL.out.below s); have Sm := Lib.hid (Sm.out.below s); have D := Lib.hid (D.out.trans (s.mono D.out.size)); clear s; obtain ⟨z_0, z_1, z_2⟩ := Xz.bx; obtain ⟨w_0, w_1, w_2⟩ := Xw.bx)
          | (go_at_call 25; (with_reducible refine (SM.out _ _ _ D.out Xw.dv Xz.dv).mono ?_); rintro e w13 ⟨rfl, hb⟩; have Xa := Xa.below hb; have Xb := Xb.below hb; have Xz := Xz.below hb; have Xw := Xw.below hb; have SL := Lib.hid (SL.out.below hb); have Sm := Lib.hid (Sm.out.below hb); have D := Lib.hid (D.out.trans (hb.mono D.out.size)); clear hb))
        go_ret
        exact ⟨rfl, D.out⟩
      · have hk : (((gJo M L).1 == 0) = false) := by simpa using h2
        have O1 : Hid (∀ (W : World) (ob : Obj), Calls Tryd.prog 22 #[.slice (some ⟨W.heap.size + 1, 0, none⟩) 1 1] ((W.alloc ob).alloc (.cells #[.int .i64 (gJo M L).1] 23)) fun e w' => e = .returned (.bool false) ∧ (W.alloc ob).alloc (.cells #[.int .i64 (gJo M L).1] 23) = w') := fun W ob => by
          have := O1.out W ob (gJo M L).1
          rwa [hk] at this
        generalize (gJo M L).1 = er at *
        generalize gVa K = rk at *
        generalize (gVa J).d = dj at *
        generalize (gVa L).d = da at *
        generalize (gVa M).d = db at *
        clear h k k' g a1 a2 a3 b1 b2 b3 ub uc hs hs' hu hu' hl hl' hT ff hf1 hf2 m1 m2 c1 c2 c3 d1 d2 d3 d4 hJ hK h2 hk
        go_enter Tryd.func5, Tryd.ntmps5
        go_wp2_with (first
          | (go_at_call 24; (with_reducible refine (JO.out _ D.out).mono ?_); rintro e w1 ⟨Al, nl, cl, rfl, hn, SL, hb⟩; have D := Lib.hid (D.out.trans (hb.mono D.out.size)); clear hb)
          | (go_at_call 18; (with_reducible refine (VA.out _ D.out).mono ?_); rintro e w2 ⟨ba, Aa, na, ca, xa, rfl, hv, hb⟩; have s := hb.alloc hb.size (.cells #[.bool ba, .slice Aa na ca, .int .i64 xa] 43); have SL := Lib.hid (SL.out.below s); have Xa := BD.new hv.dv; have D := Lib.hid (D.out.trans (s.mono D.out.size)); clear hv hb s)
          | (go_at_call 18; (with_reducible refine (VB.out _ D.out).mono ?_); rintro e w3 ⟨bb, Ab, nb, cb, xb, rfl, hv, hb⟩; have s := hb.alloc hb.size (.cells #[.bool bb, .slice Ab nb cb, .int .i64 xb] 43); have Xa := Xa.below s; have SL := Lib.hid (SL.out.below s); have Xb := BD.new hv.dv; have D := Lib.hid (D.out.trans (s.mono D.out.size)); clear hv hb s)
          | (go_at_call 20; (with_reducible refine (LIV.out _ D.out).mono ?_); rintro e w4 ⟨rfl, hb⟩; have Xa := Xa.below hb; have Xb := Xb.below hb; have SL := Lib.hid (SL.out.below hb); have D := Lib.hid (D.out.trans (hb.mono D.out.size)); clear hb)
          | (go_at_call 21; (with_reducible refine (FA.out _ D.out).mono ?_); rintro e w5 ⟨rfl, rfl⟩)
          | (go_at_call 21; (with_reducible refine (FB.out _ D.out).mono ?_); rintro e w6 ⟨rfl, rfl⟩)
          | (go_at_call 18; (with_reducible refine (VJ.out _ _ _ _ D.out SL.out).mono ?_); rintro e w7 ⟨bz, Az, nz, cz, xz, rfl, hv, hb⟩; have s := hb.alloc hb.size (.cells #[.bool bz, .slice Az nz cz, .int .i64 xz] 43); have Xa := Xa.below s; have Xb := Xb.below s; have SL := Lib.hid (SL.out.below s); have Xz := BD.new hv.dv; have D := Lib.hid (D.out.trans (s.mono D.out.size)); clear hv hb s)
          | (go_at_call 22; (with_reducible refine (O3.out w7 (.cells #[.bool bz, .slice Az nz cz, .int .i64 xz] 43)).mono ?_); rintro e w8 ⟨rfl, hw⟩; have s := al1 (w7.alloc (.cells #[.bool bz, .slice Az nz cz, .int .i64 xz] 43)) (.cells #[.int .i64 0, .int .i64 0, .int .i64 0] 23); rw [hw] at s; clear hw; have Xa := Xa.below s; have Xb := Xb.below s; have Xz := Xz.below s; have SL := Lib.hid (SL.out.below s); have D := Lib.hid (D.out.trans (s.mono D.out.size)); clear s; obtain ⟨a_0, a_1, a_2⟩ := Xa.bx; obtain ⟨b_0, b_1, b_2⟩ := Xb.bx; obtain ⟨z_0, z_1, z_2⟩ := Xz.bx)
          | (go_at_call 23; (with_reducible refine (BS.out _ _ _ _ _ D.out Xa.dv Xb.dv Xz.dv (ZD.out _)).mono ?_); rintro e w9 ⟨rfl, hb⟩; have Xa := Xa.below hb; have Xb := Xb.below hb; have Xz := Xz.below hb; have SL := Lib.hid (SL.out.below hb); have D := Lib.hid (D.out.trans (hb.mono D.out.size)); clear hb)
          | (go_at_call 24; (with_reducible refine (JP.out _ D.out).mono ?_); rintro e w10 ⟨Am, nm, cm, rfl, hn, Sm, hb⟩; have Xa := Xa.below hb; have Xb := Xb.below hb; have Xz := Xz.below hb; have SL := Lib.hid (SL.out.below hb); have D := Lib.hid (D.out.trans (hb.mono D.out.size)); clear hb)
          | (go_at_call 18; (with_reducible refine (VK.out _ _ _ _ D.out Sm.out).mono ?_); rintro e w11 ⟨bw, Aw, nw, cw, xw, rfl, hv, hb⟩; have s := hb.alloc hb.size (.cells #[.bool bw, .slice Aw nw cw, .int .i64 xw] 43); have Xa := Xa.below s; have Xb := Xb.below s; have Xz := Xz.below s; have SL := Lib.hid (SL.out.below s); have Sm := Lib.hid (Sm.out.below s); have Xw := BD.new hv.dv; have D := Lib.hid (D.out.trans (s.mono D.out.size)); clear hv hb s)
          | (go_at_call 22; (with_reducible refine (O1.out w11 (.cells #[.bool bw, .slice Aw nw cw, .int .i64 xw] 43)).mono ?_); rintro e w12 ⟨rfl, hw⟩; have s := al1 (w11.alloc (.cells #[.bool bw, .slice Aw nw cw, .int .i64 xw] 43)) (.cells #[.int .i64 er] 23); rw [hw] at s; clear hw; have Xa := Xa.below s; have Xb := Xb.below s; have Xz := Xz.below s; have Xw := Xw.below s; have SL := Lib.hid (SL.out.below s); have Sm := Lib.hid (Sm.out.below s); have D := Lib.hid (D.out.trans (s.mono D.out.size)); clear s))
        go_ret
        exact ⟨rfl, D.out⟩
  · rw [gJo_nil h] at JO
    have k : ((gJo L M).1 != 0) = true := by simpa using h
    generalize (gJo L M).1 = er at *
    generalize gVa L = ra at *
    generalize gVa M = rb at *
    clear h ub uc hs hs' hu hu' hl hl' hT
    go_enter Tryd.func5, Tryd.ntmps5
    go_wp2_with (first
      | (go_at_call 24; (with_reducible refine (JO.out _ D.out).mono ?_); rintro e w1 ⟨Al, nl, cl, rfl, hn, SL, hb⟩; have D := Lib.hid (D.out.trans (hb.mono D.out.size)); clear hb; obtain rfl := hn.out)
      | (go_at_call 18; (with_reducible refine (VA.out _ D.out).mono ?_); rintro e w2 ⟨ba, Aa, na, ca, xa, rfl, hv, hb⟩; have s := hb.alloc hb.size (.cells #[.bool ba, .slice Aa na ca, .int .i64 xa] 43); have SL := Lib.hid (SL.out.below s); have Xa := BD.new hv.dv; have D := Lib.hid (D.out.trans (s.mono D.out.size)); clear hv hb s)
      | (go_at_call 18; (with_reducible refine (VB.out _ D.out).mono ?_); rintro e w3 ⟨bb, Ab, nb, cb, xb, rfl, hv, hb⟩; have s := hb.alloc hb.size (.cells #[.bool bb, .slice Ab nb cb, .int .i64 xb] 43); have Xa := Xa.below s; have SL := Lib.hid (SL.out.below s); have Xb := BD.new hv.dv; have D := Lib.hid (D.out.trans (s.mono D.out.size)); clear hv hb s)
      | (go_at_call 20; (with_reducible refine (LIV.out _ D.out).mono ?_); rintro e w4 ⟨rfl, hb⟩; have Xa := Xa.below hb; have Xb := Xb.below hb; have SL := Lib.hid (SL.out.below hb); have D := Lib.hid (D.out.trans (hb.mono D.out.size)); clear hb))
    go_ret
    exact ⟨rfl, D.out⟩
end XC
end Go.Proofs.YtelblhgagpkjmaaDoor
