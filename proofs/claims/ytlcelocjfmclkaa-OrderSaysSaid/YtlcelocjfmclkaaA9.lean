/-
  OrderSays: the walk.
-/
import Derived.Test.YtlcelocjfmclkaaA8
namespace Go.Proofs.Ytlcelocjfmclkaa
open Go.RowKit
set_option linter.unusedVariables false
set_option linter.unusedSimpArgs false
namespace AC
/-- what the law meets, case by case: told (n, is), the lesser, the greater, above, unlike, Total, no number, ranks -/
def Met (x y n t a b lo hi : Int) (is ab ne bx by_ : Bool) : Prop :=
  (bx = true ∧ n = 0 ∧ is = false ∧ lo = 9221120237041090560 ∧ hi = 9221120237041090560 ∧ ((ab = true ∧ t = 1) ∨ (ab = false ∧ ne = true ∧ t = -1) ∨ (ab = false ∧ ne = false ∧ t = 0))) ∨
  (bx = false ∧ by_ = true ∧ n = 0 ∧ is = false ∧ lo = 9221120237041090560 ∧ hi = 9221120237041090560 ∧ ((ab = true ∧ t = 1) ∨ (ab = false ∧ ne = true ∧ t = -1) ∨ (ab = false ∧ ne = false ∧ t = 0))) ∨
  (bx = false ∧ by_ = false ∧ is = true ∧ ((a < b ∧ n = -1 ∧ ab = false ∧ ne = true ∧ t = -1 ∧ lo = x ∧ hi = y) ∨ (b < a ∧ ¬ a < b ∧ n = 1 ∧ ab = true ∧ t = 1 ∧ lo = y ∧ hi = x) ∨
    (¬ a < b ∧ ¬ b < a ∧ n = 0 ∧ ((ab = true ∧ t = 1 ∧ lo = y ∧ hi = x) ∨ (ab = false ∧ ne = true ∧ t = -1 ∧ lo = x ∧ hi = y) ∨ (ab = false ∧ ne = false ∧ t = 0 ∧ lo = x ∧ hi = y)))))
theorem met (x y : Int) (hx : 0 ≤ x ∧ x ≤ 18446744073709551615) (hy : 0 ≤ y ∧ y ≤ 18446744073709551615) :
    Met x y (A.cmpn x y) (A.tot x y) (F.rnk x) (F.rnk y) (A.mn x y) (A.mx x y) (A.has x y) (decide (A.key y < A.key x)) (x != y) (A.nan x) (A.nan y) := by
  have ho : ((decide (A.key y < A.key x)) = true ∧ A.tot x y = 1) ∨ ((decide (A.key y < A.key x)) = false ∧ (x != y) = true ∧ A.tot x y = -1) ∨ ((decide (A.key y < A.key x)) = false ∧ (x != y) = false ∧ A.tot x y = 0) := by
    unfold A.tot
    rcases A.ct_3 (A.key x) (A.key y) with ⟨h, e⟩ | ⟨h, e⟩ | ⟨h, e⟩
    · exact .inr (.inl ⟨by simp; omega, by rw [bne_iff_ne]; rintro rfl; omega, e⟩)
    · exact .inl ⟨by simp [h], e⟩
    · exact .inr (.inr ⟨by simp; omega, by have := A.key_inj hx.1 hx.2 hy.1 hy.2 h; simp [this], e⟩)
  unfold Met
  cases bx : A.nan x
  · cases by_ : A.nan y
    · right; right
      have hnn : (A.nan x || A.nan y) = false := by rw [bx, by_]; rfl
      have e1 : A.cmpn x y = A.ct (F.rnk x) (F.rnk y) := by unfold A.cmpn; rw [hnn]; rfl
      have e2 : A.has x y = true := by unfold A.has; rw [hnn]; rfl
      have e3 : A.mn x y = if A.key x < A.key y then x else y := by unfold A.mn; rw [hnn]; rfl
      have e4 : A.mx x y = if A.key y < A.key x then x else y := by unfold A.mx; rw [hnn]; rfl
      refine ⟨rfl, rfl, e2, ?_⟩
      rw [e1, e3, e4]
      rw [A.nan_no] at bx by_
      have hr : (F.rnk x < F.rnk y → A.key x < A.key y) ∧ (F.rnk y < F.rnk x → A.key y < A.key x) := by
        unfold F.nn at bx by_
        unfold F.rnk A.key
        refine ⟨fun h => ?_, fun h => ?_⟩ <;> revert h <;> (repeat' split) <;> omega
      rcases A.ct_3 (F.rnk x) (F.rnk y) with ⟨h, e⟩ | ⟨h, e⟩ | ⟨h, e⟩
      · left
        have hk := hr.1 h
        refine ⟨h, e, by simp; omega, by rw [bne_iff_ne]; rintro rfl; omega, ?_, by rw [if_pos hk], by rw [if_neg (by omega)]⟩
        exact A.ct_lt hk
      · right; left
        have hk := hr.2 h
        exact ⟨h, by omega, e, by simp [hk], A.ct_gt hk, by rw [if_neg (by omega)], by rw [if_pos hk]⟩
      · right; right
        refine ⟨by omega, by omega, e, ?_⟩
        rcases ho with ⟨p, q⟩ | ⟨p, q, r⟩ | ⟨p, q, r⟩
        · rw [decide_eq_true_eq] at p
          exact .inl ⟨by simp [p], q, by rw [if_neg (by omega)], by rw [if_pos p]⟩
        · have p' := p
          rw [decide_eq_false_iff_not] at p'
          have hk : A.key x < A.key y := by
            rw [bne_iff_ne] at q
            have : A.key x ≠ A.key y := fun e => q (A.key_inj hx.1 hx.2 hy.1 hy.2 e)
            omega
          exact .inr (.inl ⟨p, q, r, by rw [if_pos hk], by rw [if_neg p']⟩)
        · have p' := p
          rw [decide_eq_false_iff_not] at p'
          have hxy : x = y := by simpa using q
          subst hxy
          exact .inr (.inr ⟨p, q, r, by rw [if_neg p'], by rw [if_neg p']⟩)
    · right; left
      have hnn : (A.nan x || A.nan y) = true := by rw [bx, by_]; rfl
      exact ⟨rfl, rfl, by unfold A.cmpn; rw [hnn]; rfl, by unfold A.has; rw [hnn]; rfl, by unfold A.mn; rw [hnn]; rfl, by unfold A.mx; rw [hnn]; rfl, ho⟩
  · left
    have hnn : (A.nan x || A.nan y) = true := by rw [bx]; rfl
    exact ⟨rfl, by unfold A.cmpn; rw [hnn]; rfl, by unfold A.has; rw [hnn]; rfl, by unfold A.mn; rw [hnn]; rfl, by unfold A.mx; rw [hnn]; rfl, ho⟩
set_option maxRecDepth 100000 in
set_option maxHeartbeats 16000000 in
theorem says_w (x y n t a b lo hi : Int) (is ab ne bx by_ : Bool) (A0 : Option Addr) (m c : Nat) (L : List Int) (w : World) (hx : 0 ≤ x ∧ x ≤ 18446744073709551615) (hy : 0 ≤ y ∧ y ≤ 18446744073709551615)
    (hs : Sl .u64 w (.slice A0 m c) L) (hu : u64s L) (hl : L.length * 8 ≤ 140737488351232)
    (h1 : A.cmpn x y = n) (h2 : A.has x y = is) (h3 : A.mn x y = lo) (h4 : A.mx x y = hi) (h5 : decide (A.key y < A.key x) = ab) (h6 : A.tot x y = t) (h7 : (x != y) = ne) (h8 : A.nan x = bx) (h9 : A.nan y = by_)
    (ra : F.rnk x = a) (rb : F.rnk y = b) (hm : Met x y n t a b lo hi is ab ne bx by_) :
    Calls Try.prog 3 #[.int .u64 x, .int .u64 y, .slice A0 m c] w fun e w' => e = .returned (.bool true) ∧ Below w.heap.size w w' := by
  have cm := fun w => Cmp_c x y hx.1 hx.2 hy.1 hy.2 w
  have mn := fun w => Min_c x y hx.1 hx.2 hy.1 hy.2 w
  have mx := fun w => Max_c x y hx.1 hx.2 hy.1 hy.2 w
  have tt := fun w => Total_c x y hx.1 hx.2 hy.1 hy.2 w
  have ix := fun w => IsNan_c x hx.1 hx.2 w
  have iy := fun w => IsNan_c y hy.1 hy.2 w
  have AB := Lib.hid (fun w => Above_c x y hx.1 hx.2 hy.1 hy.2 ab h5 w)
  rw [h1, h2] at cm
  rw [h3] at mn
  rw [h4] at mx
  rw [h6] at tt
  have RX : Hid (bx = false → ∀ w, Calls Try.prog 18 #[.int .u64 x] w fun e w' => e = .returned (.int .i64 a) ∧ w = w') := fun hb w => by
    rw [← ra]; exact FloatR.RankOf_c x hx.1 hx.2 ((A.nan_no x).1 (h8.trans hb)) w
  have RY : Hid (by_ = false → ∀ w, Calls Try.prog 18 #[.int .u64 y] w fun e w' => e = .returned (.int .i64 b) ∧ w = w') := fun hb w => by
    rw [← rb]; exact FloatR.RankOf_c y hy.1 hy.2 ((A.nan_no y).1 (h9.trans hb)) w
  rw [h8] at ix
  rw [h9] at iy
  have CM := Lib.hid cm
  have MN := Lib.hid mn
  have MX := Lib.hid mx
  have TT := Lib.hid tt
  have IX := Lib.hid ix
  have IY := Lib.hid iy
  have hn := hs.len_.1
  have HS : Hid (∀ W : World, Below w.heap.size w W → Sl .u64 W (.slice A0 m c) L) := fun W hW => hs.below hW
  have CL : Hid (∀ W : World, Below w.heap.size w W → ∀ j, j < m → ∃ ad, A0 = some ad ∧ W.cell? (ad.add j) = some (.int .u64 (L.getD j 0))) := fun W hW j hj => by
    obtain ⟨A', c', e, _, h⟩ := (hs.below hW).open_
    injection e with e1 e2 e3
    subst e1
    obtain ⟨ad, h1, _, h2⟩ := h j (by omega)
    exact ⟨ad, h1, h2⟩
  have HU := Lib.hid hu
  have HN := Lib.hid hn
  have HL := Lib.hid hl
  have hm63 : (m : Int) ≤ 9223372036854775807 := by omega
  have HI : Hid (∀ k, k ≤ m → (A.insAll (L.take k)).length = k ∧ u64s (A.insAll (L.take k))) := fun k hk => by
    refine ⟨by rw [insAll_len, List.length_take]; omega, fun z hz => ?_⟩
    exact hu z (List.mem_of_mem_take ((A.insAll_ok (L.take k)).2.mem_iff.1 hz))
  have HB : Hid (m = L.length ∧ m * 8 ≤ 140737488351232) := ⟨hn, by omega⟩
  have D0 := Lib.hid (Below.refl w.heap.size w)
  clear cm mn mx tt ix iy h1 h2 h3 h4 h5 h6 h8 h9 ra rb hx hy hs hu hn hl
  unfold Met at hm
  rcases hm with ⟨rfl, rfl, rfl, rfl, rfl, ⟨rfl, rfl⟩ | ⟨rfl, rfl, rfl⟩ | ⟨rfl, rfl, rfl⟩⟩ | ⟨rfl, rfl, rfl, rfl, rfl, rfl, ⟨rfl, rfl⟩ | ⟨rfl, rfl, rfl⟩ | ⟨rfl, rfl, rfl⟩⟩ | ⟨rfl, rfl, rfl, ⟨q1, rfl, rfl, rfl, rfl, rfl, rfl⟩ | ⟨q1, q2, rfl, rfl, rfl, rfl, rfl⟩ | ⟨q1, q2, rfl, ⟨rfl, rfl, rfl, rfl⟩ | ⟨rfl, rfl, rfl, rfl, rfl⟩ | ⟨rfl, rfl, rfl, rfl, rfl⟩⟩⟩
  all_goals
    go_enter Try.func3, Try.ntmps3
    go_wp2_with (first | (go_at_call 8; (with_reducible refine (CM.out _).mono ?_); rintro e w' ⟨rfl, rfl⟩) | (go_at_call 9; (with_reducible refine (MN.out _).mono ?_); rintro e w' ⟨rfl, rfl⟩) | (go_at_call 10; (with_reducible refine (MX.out _).mono ?_); rintro e w' ⟨rfl, rfl⟩) | (go_at_call 11; (with_reducible refine (AB.out _).mono ?_); rintro e w' ⟨rfl, rfl⟩))
    go_loopw [12, 42] (fun sv iv wr => ∃ (k : Nat) (A1 : Option Addr) (n1 c1 : Nat), iv = .int .i64 k ∧ k ≤ m ∧ sv = .slice A1 n1 c1 ∧ Hid (OwnQ wr w.heap.size (.slice A1 n1 c1) (A.insAll (L.take k))) ∧ Hid (Below w.heap.size w wr)) (fun _ iv _ => m - (intOf iv).toNat)
    case atStart => exact ⟨0, none, 0, 0, rfl, by omega, rfl, Own.nil _ _ _ _, D0.out⟩
    case round =>
      obtain ⟨k, A1, n1, c1, rfl, hk, rfl, hO, hD⟩ := hrel
      by_cases hkm : k < m
      · obtain ⟨ad, rfl, hcell⟩ := CL.out wr hD.out k hkm
        obtain ⟨z, hz⟩ : ∃ z, L.getD k 0 = z := ⟨_, rfl⟩
        rw [hz] at hcell
        have hst := A.insAll_snoc L k (by rw [← HN.out]; exact hkm) z hz
        have hzb : 0 ≤ z ∧ z ≤ 18446744073709551615 := by
          rw [← hz, List.getD_eq_getElem?_getD, List.getElem?_eq_getElem (by rw [← HN.out]; exact hkm)]
          exact HU.out _ (List.getElem_mem _)
        have i1 : (k : Int) < (m : Int) := by omega
        have IC := Lib.hid (Inserted_c A1 n1 c1 (A.insAll (L.take k)) z wr (Own.sl hO.out) (HI.out k hk).2 hzb (by have := HB.out.2; rw [(HI.out k hk).1]; omega))
        rw [← hst] at IC
        clear hz hst hzb
        go_wp2_with (first | (go_at_call 12; (with_reducible refine IC.out.mono ?_); rintro e w2 ⟨A2, c2, rfl, hO2, hD2⟩; have Q2 := Lib.hid (hO2.low' hD.out.size); have E2 := Lib.hid (hD.out.trans (hD2.mono hD.out.size)); clear hO2 hD2))
        exact ⟨⟨k + 1, _, _, _, by simp, by omega, rfl, Q2.out, E2.out⟩, by simp only [intOf]; omega⟩
      · obtain rfl : m = k := by omega
        have hO2 := hO.out
        rw [HN.out, List.take_length] at hO2
        have HO := Lib.hid hO2
        have SO := Lib.hid (Sort_c A0 m c L wr (HS.out wr hD.out) HU.out HL.out)
        clear hO2 hO
        go_wp2_with (first | (go_at_call 13; (with_reducible refine (TT.out _).mono ?_); rintro e w' ⟨rfl, rfl⟩) | (go_at_call 16; (with_reducible refine (IX.out _).mono ?_); rintro e w' ⟨rfl, rfl⟩) | (go_at_call 16; (with_reducible refine (IY.out _).mono ?_); rintro e w' ⟨rfl, rfl⟩) | (go_at_call 17; (with_reducible refine (Quiet_c _).mono ?_); rintro e w' ⟨rfl, rfl⟩) | (go_at_call 18; (with_reducible refine (RX.out (by first | trivial | rfl) _).mono ?_); rintro e w' ⟨rfl, rfl⟩) | (go_at_call 18; (with_reducible refine (RY.out (by first | trivial | rfl) _).mono ?_); rintro e w' ⟨rfl, rfl⟩) | (go_at_call 15; (with_reducible refine SO.out.mono ?_); rintro e w2 ⟨A2, c2, rfl, hO2, hD2⟩; have EQ := Lib.hid (Equal64_c _ _ _ _ _ (Own.sl hO2) ((Own.sl HO.out).below hD2) (by have := HB.out; have := insAll_len L; omega) (by have := HB.out; have := insAll_len L; omega)); have E2 := Lib.hid (hD.out.trans (hD2.mono hD.out.size)); rw [show decide (A.insAll L = A.insAll L) = true by simp] at EQ; clear hO2 hD2) | (go_at_call 14; (with_reducible refine EQ.out.mono ?_); rintro e w3 ⟨rfl, q, rfl⟩))
        go_ret
        exact ⟨rfl, ⟨E2.out.os, E2.out.tape, E2.out.output, E2.out.size, E2.out.block⟩⟩
theorem says_c (x y : Int) (A0 : Option Addr) (m c : Nat) (L : List Int) (w : World) (hx : 0 ≤ x ∧ x ≤ 18446744073709551615) (hy : 0 ≤ y ∧ y ≤ 18446744073709551615)
    (hs : Sl .u64 w (.slice A0 m c) L) (hu : u64s L) (hl : L.length * 8 ≤ 140737488351232) :
    Calls Try.prog 3 #[.int .u64 x, .int .u64 y, .slice A0 m c] w fun e w' => e = .returned (.bool true) ∧ Below w.heap.size w w' :=
  says_w x y _ _ _ _ _ _ _ _ _ _ _ A0 m c L w hx hy hs hu hl rfl rfl rfl rfl rfl rfl rfl rfl rfl rfl rfl (met x y hx hy)
end AC
end Go.Proofs.Ytlcelocjfmclkaa
