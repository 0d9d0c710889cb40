/-
  NatRoots, NatRing: the walks.
-/
import Derived.Test.YtjihapnplfdmmaaDoorNK1
namespace Go.Proofs.YtjihapnplfdmmaaDoor
open Go.RowKit
set_option linter.unusedVariables false
namespace NK
open L NC
open Z (Nz Tz cmpv)
theorem root_eq {R A z : Int} (h1 : R * R ≤ z) (h2 : z < (R + 1) * (R + 1)) (h3 : 0 ≤ R) (h4 : A * A ≤ z) (h5 : z < (A + 1) * (A + 1)) (h6 : 0 ≤ A) : R = A := by
  rcases Int.lt_or_le R A with h | h
  · have := Int.mul_le_mul (show R + 1 ≤ A by omega) (show R + 1 ≤ A by omega) (by omega) h6
    omega
  · rcases Int.lt_or_le A R with h' | h'
    · have := Int.mul_le_mul (show A + 1 ≤ R by omega) (show A + 1 ≤ R by omega) (by omega) h3
      omega
    · omega
theorem ok2_no (W : World) (x y : Int) (h : x ≠ 0 ∨ y ≠ 0) : Calls Tryd.prog 27 #[.slice (some ⟨W.heap.size, 0, none⟩) 2 2] (W.alloc (.cells #[.int .i64 x, .int .i64 y] 23)) fun e w' => e = .returned (.bool false) ∧ W.alloc (.cells #[.int .i64 x, .int .i64 y] 23) = w' := by
  have h1 := ok_lit W [x, y] (by simp)
  have e : ([x, y].all (· == 0)) = false := by
    rcases h with h | h <;> simp [h]
  rw [e] at h1
  exact h1
theorem ok2_yes (W : World) : Calls Tryd.prog 27 #[.slice (some ⟨W.heap.size, 0, none⟩) 2 2] (W.alloc (.cells #[.int .i64 0, .int .i64 0] 23)) fun e w' => e = .returned (.bool true) ∧ W.alloc (.cells #[.int .i64 0, .int .i64 0] 23) = w' := ok_lit W [0, 0] (by simp)
theorem one_pv (W : World) : PV (W.alloc (.cells #[.int .u32 1] 50)) (.slice (some ⟨W.heap.size, 0, none⟩) 1 1) 0 1 :=
  ⟨[1], Row.sl (L := [1]) (Blk.new W 50 #[.int .u32 1]) 1 (by simp), by intro d hd; simp at hd; omega, by simp, by decide, by simp [lv]⟩
set_option maxRecDepth 100000 in
set_option maxHeartbeats 4000000 in
theorem roots_c (u : Value) (e1 a : Int) (w : World) (hu : PV w u e1 a) (fu : ∃ A n c, u = .slice A n c) :
    Calls Tryd.prog 7 #[u] w fun e w' => e = .returned (.bool true) ∧ Below w.heap.size w w' := by
  obtain ⟨A, n, c, rfl⟩ := fu
  have LV := Lib.hid lives_c
  have M := Mul_p hu hu
  by_cases h : e1 = 0
  · subst h
    have sa := hu.small
    have a4 := sa.2 rfl
    have hb := big3_bds a4 a4 sa.1 sa.1
    have e0 : ee 0 0 = 0 := rfl
    rw [e0, if_pos rfl] at M
    have hsq0 : 0 ≤ a * a := Int.mul_nonneg sa.1 sa.1
    by_cases hp : erz (a * a) = 0
    · have hp4 : a * a < 4294967296 ^ 400 := by
        unfold erz at hp
        by_cases h : a * a < 4294967296 ^ 400
        · exact h
        · rw [if_neg h] at hp; cases hp
      have RT : Hid (∀ R b, (R * R ≤ a * a ∧ a * a < (R + 1) * (R + 1) ∧ 0 ≤ R ∧ b = decide (R * R ≠ a * a)) → R = a ∧ b = false) := fun R b h => by
        have e := root_eq h.1 h.2.1 h.2.2.1 (Int.le_refl _) (by have := sa.1; grind) sa.1
        exact ⟨e, by rw [h.2.2.2, e]; simp⟩
      have HU : Hid (∀ W, Below w.heap.size w W → PV W (.slice A n c) 0 a) := fun W h => hu.below h
      have ha3 : a < big3 := hb.2.2.1
      have AD : Hid (∀ W s t, PV W s 0 (a * a) → PV W t 0 1 → Calls Tryd.prog 24 #[s, t] W (RetP W 0 (a * a + 1))) := fun W s t h1 h2 => Add_0 h1 h2
      by_cases hq : erz (a * a + 1) = 0
      · by_cases ha : a = 0
        · have hn : n = 0 := NV.zero (by have := hu.nv; rwa [ha] at this)
          have HP := Lib.hid hp
          have HQ := Lib.hid hq
          subst hn
          generalize a * a = p at *
          have M := Lib.hid M
          clear hp hq hp4 hsq0 hb a4 sa e0 hu ha
          go_enter Tryd.func7, Tryd.ntmps7
          go_wp2_with (first
            | (go_at_call 28; (with_reducible refine (M.out).mono ?_); rintro e w1 ⟨A1, n1, c1, rfl, hp1, hv1, b1⟩; rw [HP.out] at hp1)
            | (go_at_call 10; (with_reducible refine (Root_p hp1).mono ?_); rintro e w2 ⟨A2, n2, c2, bb, R, rfl, hv2, b2, hr1, hr2⟩; obtain ⟨hR, hbb⟩ := RT.out R bb (hr1.out rfl); subst hbb; subst hR; have B2 := b1.trans (b2.mono b1.size); have P2 := hp1.below b2)
            | (go_at_call 25; (with_reducible refine (LV.out w2).mono ?_); rintro e w3 ⟨rfl, b3⟩; have B3 := B2.trans (b3.mono B2.size); have P3 := P2.below b3; have V3 := hv2.below b3)
            | (go_at_call 27; (with_reducible refine (ok2_yes _).mono ?_); rintro e w4 ⟨rfl, hw4⟩; have b4 : Below w3.heap.size w3 w4 := (by rw [← hw4]; exact lit_below _ _); clear hw4; have B4 := B3.trans (b4.mono B3.size); have P4 := P3.below b4; have V4 := V3.below b4)
            | (go_at_call 24; (with_reducible refine (AD.out _ _ _ (P4.below (lit_below _ _)) (one_pv w4)).mono ?_); rintro e w5 ⟨A5, n5, c5, rfl, hp5, hv5, b5'⟩; have b5 : Below w4.heap.size w4 w5 := (lit_below _ _).trans (b5'.mono (by simp)); rw [HQ.out] at hp5; have B5 := B4.trans (b5.mono B4.size); have V5 := V4.below b5)
            | (go_at_call 10; (with_reducible refine (Root_p hp5).mono ?_); rintro e w6 ⟨A6, n6, c6, bc, R6, rfl, hv6, b6, hs1, hs2⟩; have B6 := B5.trans (b6.mono B5.size); have V6 := V5.below b6)
            | (go_at_call 26; (with_reducible refine (Equal_0 V6 (HU.out _ B6).nv ha3).mono ?_); rintro e w7 ⟨rfl, k7, hw7⟩; have b7 : Below w6.heap.size w6 w7 := (by rw [hw7]; exact ⟨rfl, rfl, rfl, Nat.le_refl _, fun _ _ => rfl⟩); clear hw7; have B7 := B6.trans (b7.mono B6.size))
            | (go_at_call 27; (with_reducible refine (ok2_yes _).mono ?_); rintro e w8 ⟨rfl, hw8⟩; have b8 : Below w7.heap.size w7 w8 := (by rw [← hw8]; exact lit_below _ _); clear hw8; have B8 := B7.trans (b8.mono B7.size)))
          go_ret
          exact ⟨rfl, B8⟩
        · have hn : n ≠ 0 := by
            intro e
            obtain ⟨L, h1, h2, h3, h4⟩ := hu.nv
            have h5 := h1.len_.1
            rw [e] at h5
            have := List.eq_nil_of_length_eq_zero h5.symm
            rw [this] at h4
            exact ha h4.symm
          have en : ((n : Int) == 0) = false := by simp; omega
          have RT2 : Hid (∀ R b, (R * R ≤ a * a + 1 ∧ a * a + 1 < (R + 1) * (R + 1) ∧ 0 ≤ R ∧ b = decide (R * R ≠ a * a + 1)) → R = a ∧ b = true) := fun R b h => by
            have e := root_eq h.1 h.2.1 h.2.2.1 (by omega) (by have := sa.1; grind) sa.1
            exact ⟨e, by rw [h.2.2.2, e]; simp; omega⟩
          have HP := Lib.hid hp
          have HQ := Lib.hid hq
          generalize a * a = p at *
          have M := Lib.hid M
          clear hp hq hp4 hsq0 hb a4 sa e0 hu ha hn
          go_enter Tryd.func7, Tryd.ntmps7
          go_wp2_with (first
            | (go_at_call 28; (with_reducible refine (M.out).mono ?_); rintro e w1 ⟨A1, n1, c1, rfl, hp1, hv1, b1⟩; rw [HP.out] at hp1)
            | (go_at_call 10; (with_reducible refine (Root_p hp1).mono ?_); rintro e w2 ⟨A2, n2, c2, bb, R, rfl, hv2, b2, hr1, hr2⟩; obtain ⟨hR, hbb⟩ := RT.out R bb (hr1.out rfl); subst hbb; subst hR; have B2 := b1.trans (b2.mono b1.size); have P2 := hp1.below b2)
            | (go_at_call 25; (with_reducible refine (LV.out w2).mono ?_); rintro e w3 ⟨rfl, b3⟩; have B3 := B2.trans (b3.mono B2.size); have P3 := P2.below b3; have V3 := hv2.below b3)
            | (go_at_call 27; (with_reducible refine (ok2_yes _).mono ?_); rintro e w4 ⟨rfl, hw4⟩; have b4 : Below w3.heap.size w3 w4 := (by rw [← hw4]; exact lit_below _ _); clear hw4; have B4 := B3.trans (b4.mono B3.size); have P4 := P3.below b4; have V4 := V3.below b4)
            | (go_at_call 24; (with_reducible refine (AD.out _ _ _ (P4.below (lit_below _ _)) (one_pv w4)).mono ?_); rintro e w5 ⟨A5, n5, c5, rfl, hp5, hv5, b5'⟩; have b5 : Below w4.heap.size w4 w5 := (lit_below _ _).trans (b5'.mono (by simp)); rw [HQ.out] at hp5; have B5 := B4.trans (b5.mono B4.size); have V5 := V4.below b5)
            | (go_at_call 10; (with_reducible refine (Root_p hp5).mono ?_); rintro e w6 ⟨A6, n6, c6, bc, R6, rfl, hv6, b6, hs1, hs2⟩; obtain ⟨hR6, hbc⟩ := RT2.out R6 bc (hs1.out rfl); subst hbc; subst hR6; have B6 := B5.trans (b6.mono B5.size); have V6 := V5.below b6)
            | (go_at_call 26; (with_reducible refine (Equal_0 V6 (HU.out _ B6).nv ha3).mono ?_); rintro e w7 ⟨rfl, k7, hw7⟩; have b7 : Below w6.heap.size w6 w7 := (by rw [hw7]; exact ⟨rfl, rfl, rfl, Nat.le_refl _, fun _ _ => rfl⟩); clear hw7; have B7 := B6.trans (b7.mono B6.size))
            | (go_at_call 27; (with_reducible refine (ok2_yes _).mono ?_); rintro e w8 ⟨rfl, hw8⟩; have b8 : Below w7.heap.size w7 w8 := (by rw [← hw8]; exact lit_below _ _); clear hw8; have B8 := B7.trans (b8.mono B7.size); have V8 := (hv6.below b7).below b8)
            | (go_at_call 26; (with_reducible refine (Equal_0 V8 (HU.out _ B8).nv ha3).mono ?_); rintro e w9 ⟨rfl, k9, rfl⟩))
          go_ret
          exact ⟨rfl, B8.os, B8.tape, B8.output, B8.size, B8.block⟩
      · obtain ⟨Q, hQ⟩ : ∃ Q, erz (a * a + 1) = Q := ⟨_, rfl⟩
        rw [hQ] at hq
        have HP := Lib.hid hp
        have HQ := Lib.hid hQ
        have HNQ := Lib.hid hq
        have eQ : (Q == 0) = false := by simp [hq]
        generalize a * a = p at *
        have M := Lib.hid M
        clear hp hq hQ hp4 hsq0 hb a4 sa e0 hu
        go_enter Tryd.func7, Tryd.ntmps7
        go_wp2_with (first
          | (go_at_call 28; (with_reducible refine (M.out).mono ?_); rintro e w1 ⟨A1, n1, c1, rfl, hp1, hv1, b1⟩; rw [HP.out] at hp1)
          | (go_at_call 10; (with_reducible refine (Root_p hp1).mono ?_); rintro e w2 ⟨A2, n2, c2, bb, R, rfl, hv2, b2, hr1, hr2⟩; obtain ⟨hR, hbb⟩ := RT.out R bb (hr1.out rfl); subst hbb; subst hR; have B2 := b1.trans (b2.mono b1.size); have P2 := hp1.below b2)
          | (go_at_call 25; (with_reducible refine (LV.out w2).mono ?_); rintro e w3 ⟨rfl, b3⟩; have B3 := B2.trans (b3.mono B2.size); have P3 := P2.below b3; have V3 := hv2.below b3)
          | (go_at_call 27; (with_reducible refine (ok2_yes _).mono ?_); rintro e w4 ⟨rfl, hw4⟩; have b4 : Below w3.heap.size w3 w4 := (by rw [← hw4]; exact lit_below _ _); clear hw4; have B4 := B3.trans (b4.mono B3.size); have P4 := P3.below b4; have V4 := V3.below b4)
          | (go_at_call 24; (with_reducible refine (AD.out _ _ _ (P4.below (lit_below _ _)) (one_pv w4)).mono ?_); rintro e w5 ⟨A5, n5, c5, rfl, hp5, hv5, b5'⟩; have b5 : Below w4.heap.size w4 w5 := (lit_below _ _).trans (b5'.mono (by simp)); rw [HQ.out] at hp5; have B5 := B4.trans (b5.mono B4.size); have V5 := V4.below b5)
          | (go_at_call 10; (with_reducible refine (Root_p hp5).mono ?_); rintro e w6 ⟨A6, n6, c6, bc, R6, rfl, hv6, b6, hs1, hs2⟩; have B6 := B5.trans (b6.mono B5.size); have V6 := V5.below b6)
          | (go_at_call 26; (with_reducible refine (Equal_0 V6 (HU.out _ B6).nv ha3).mono ?_); rintro e w7 ⟨rfl, k7, hw7⟩; have b7 : Below w6.heap.size w6 w7 := (by rw [hw7]; exact ⟨rfl, rfl, rfl, Nat.le_refl _, fun _ _ => rfl⟩); clear hw7; have B7 := B6.trans (b7.mono B6.size))
          | (go_at_call 27; (with_reducible refine (ok2_no _ 0 Q (.inr HNQ.out)).mono ?_); rintro e w8 ⟨rfl, hw8⟩; have b8 : Below w7.heap.size w7 w8 := (by rw [← hw8]; exact lit_below _ _); clear hw8; have B8 := B7.trans (b8.mono B7.size)))
        go_ret
        exact ⟨rfl, B8⟩
    · obtain ⟨F, hF⟩ : ∃ F, erz (a * a) = F := ⟨_, rfl⟩
      rw [hF] at hp
      have HF := Lib.hid hF
      have HNF := Lib.hid hp
      generalize a * a = p at *
      have M := Lib.hid M
      clear hp hF hsq0 hb a4 sa e0 hu
      go_enter Tryd.func7, Tryd.ntmps7
      go_wp2_with (first
        | (go_at_call 28; (with_reducible refine (M.out).mono ?_); rintro e w1 ⟨A1, n1, c1, rfl, hp1, hv1, b1⟩; rw [HF.out] at hp1)
        | (go_at_call 10; (with_reducible refine (Root_p hp1).mono ?_); rintro e w2 ⟨A2, n2, c2, bb, R, rfl, hv2, b2, hr1, hr2⟩; have B2 := b1.trans (b2.mono b1.size))
        | (go_at_call 25; (with_reducible refine (LV.out w2).mono ?_); rintro e w3 ⟨rfl, b3⟩; have B3 := B2.trans (b3.mono B2.size))
        | (go_at_call 27; (with_reducible refine (ok2_no _ 0 F (.inr HNF.out)).mono ?_); rintro e w4 ⟨rfl, hw4⟩; have b4 : Below w3.heap.size w3 w4 := (by rw [← hw4]; exact lit_below _ _); clear hw4; have B4 := B3.trans (b4.mono B3.size))
        | (go_at_call 25; (with_reducible refine (LV.out w4).mono ?_); rintro e w5 ⟨rfl, b5⟩; have B5 := B4.trans (b5.mono B4.size)))
      go_ret
      exact ⟨rfl, B5⟩
  · have e0 : ee e1 e1 = e1 := by unfold ee; rw [if_pos h]
    rw [e0, if_neg h] at M
    have HNF := Lib.hid h
    have M := Lib.hid M
    clear h e0 hu
    go_enter Tryd.func7, Tryd.ntmps7
    go_wp2_with (first
      | (go_at_call 28; (with_reducible refine (M.out).mono ?_); rintro e w1 ⟨A1, n1, c1, rfl, hp1, hv1, b1⟩)
      | (go_at_call 10; (with_reducible refine (Root_p hp1).mono ?_); rintro e w2 ⟨A2, n2, c2, bb, R, rfl, hv2, b2, hr1, hr2⟩; have B2 := b1.trans (b2.mono b1.size))
      | (go_at_call 25; (with_reducible refine (LV.out w2).mono ?_); rintro e w3 ⟨rfl, b3⟩; have B3 := B2.trans (b3.mono B2.size))
      | (go_at_call 27; (with_reducible refine (ok2_no _ e1 _ (.inl HNF.out)).mono ?_); rintro e w4 ⟨rfl, hw4⟩; have b4 : Below w3.heap.size w3 w4 := (by rw [← hw4]; exact lit_below _ _); clear hw4; have B4 := B3.trans (b4.mono B3.size))
      | (go_at_call 25; (with_reducible refine (LV.out w4).mono ?_); rintro e w5 ⟨rfl, b5⟩; have B5 := B4.trans (b5.mono B4.size)))
    go_ret
    exact ⟨rfl, B5⟩
end NK
end Go.Proofs.YtjihapnplfdmmaaDoor
