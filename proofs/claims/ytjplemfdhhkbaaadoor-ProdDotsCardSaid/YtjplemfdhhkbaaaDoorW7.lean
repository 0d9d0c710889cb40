/-
  Texts glued together for a claim: RK2 UK1 UK2 PK1 UK3 PK4 PK3 PK2.
-/
import Derived.Test.YtjplemfdhhkbaaaDoorW6
/-
  RoundOrder, RoundSides: the walks.
-/
namespace Go.Proofs.YtjplemfdhhkbaaaDoor
set_option linter.unusedVariables false
set_option linter.unusedSimpArgs false
open Go.RowKit
set_option linter.unusedVariables false
set_option linter.unusedSimpArgs false
namespace RC
open L NC NK DC
open Z (Nz Tz cmpv)
theorem all3 {x1 x2 x3 : Int} (h : [x1, x2, x3].all (· == 0) = true) : x1 = 0 ∧ x2 = 0 ∧ x3 = 0 := by
  simpa [List.all_cons, Bool.and_eq_true] using h
theorem Rank_w {y : Int} (h : 0 ≤ y ∧ y ≤ 18446744073709551615 ∧ F.nn y) (W : World) : Calls Tryd.prog 54 #[.int .u64 y] W fun e w' => e = .returned (.tuple #[.int .i64 (F.rnk y), .int .i64 0]) ∧ W = w' := FloatC.Rank_ok y h.1 h.2.1 h.2.2 W
end RC
end Go.Proofs.YtjplemfdhhkbaaaDoor

/-
  SumCommutes, SumSmall, SumOrder: the walks.
-/
namespace Go.Proofs.YtjplemfdhhkbaaaDoor
set_option linter.unusedVariables false
set_option linter.unusedSimpArgs false
open Go.RowKit
set_option linter.unusedVariables false
set_option linter.unusedSimpArgs false
namespace SC
open L NC NK DC RC
theorem turn3 {x y mode : Int} (hx : 0 ≤ x ∧ x ≤ 18446744073709551615) (hy : 0 ≤ y ∧ y ≤ 18446744073709551615) (hm : 0 ≤ mode ∧ mode ≤ 4) :
    (F.cls (AT [x, F.neg y] mode).1 = 5 ∧ F.cls (AT [y, F.neg x] (tm mode)).1 = 5) ∨ (F.cls (AT [x, F.neg y] mode).1 = 1 ∧ F.cls (AT [y, F.neg x] (tm mode)).1 = 1) ∨ (F.cls (AT [y, F.neg x] (tm mode)).1 = F.cls (AT [x, F.neg y] mode).1 ∧ F.cls (AT [x, F.neg y] mode).1 ≠ 5 ∧ F.cls (AT [x, F.neg y] mode).1 ≠ 1 ∧ (AT [y, F.neg x] (tm mode)).1 = F.neg (AT [x, F.neg y] mode).1) := by
  rcases sub_turn hx hy hm with h | h | h
  · exact .inl h
  · exact .inr (.inl h)
  · by_cases h5 : F.cls (AT [x, F.neg y] mode).1 = 5
    · left; exact ⟨h5, by rw [h, F.cls_neg]; exact h5⟩
    · by_cases h1 : F.cls (AT [x, F.neg y] mode).1 = 1
      · right; left; exact ⟨h1, by rw [h, F.cls_neg]; exact h1⟩
      · right; right; exact ⟨by rw [h, F.cls_neg], h5, h1, h⟩
theorem AT_ok {L : List Int} {mode : Int} (hm : 0 ≤ mode ∧ mode ≤ 4) (hl : ¬ 200 < L.length) (hu : u64s L) : ∃ a b, AT L mode = (a, b, 0) := by
  have h := (AT_e hl hu).2 hm
  exact ⟨(AT L mode).1, (AT L mode).2.1, by rw [← h]⟩
theorem other_tm {mode : Int} (hm : 0 ≤ mode ∧ mode ≤ 4) : (mode = 1 ∧ tm mode = 2) ∨ (mode = 2 ∧ tm mode = 1) ∨ ((mode == 1) = false ∧ (mode == 2) = false ∧ tm mode = mode) := by
  by_cases h1 : mode = 1
  · subst h1; exact .inl ⟨rfl, rfl⟩
  · by_cases h2 : mode = 2
    · subst h2; exact .inr (.inl ⟨rfl, rfl⟩)
    · right; right
      refine ⟨by simp [h1], by simp [h2], ?_⟩
      unfold tm; rw [if_neg h1, if_neg h2]
end SC
end Go.Proofs.YtjplemfdhhkbaaaDoor

/-
  SumOrder: the walk.
-/
namespace Go.Proofs.YtjplemfdhhkbaaaDoor
set_option linter.unusedVariables false
set_option linter.unusedSimpArgs false
open Go.RowKit
set_option linter.unusedVariables false
set_option linter.unusedSimpArgs false
namespace SC
open L NC NK DC RC
/-- Rank of whatever number -/
theorem Rank_g {x : Int} (hx : 0 ≤ x ∧ x ≤ 18446744073709551615) : ∃ k e : Int, (∀ W : World, Calls Tryd.prog 54 #[.int .u64 x] W fun e' w' => e' = .returned (.tuple #[.int .i64 k, .int .i64 e]) ∧ W = w') ∧ (e = 0 → F.nn x ∧ k = F.rnk x) := by
  by_cases h : F.nn x
  · exact ⟨F.rnk x, 0, fun W => FloatC.Rank_ok x hx.1 hx.2 h W, fun _ => ⟨h, rfl⟩⟩
  · exact ⟨0, 4, fun W => FloatC.Rank_no x hx.1 hx.2 (by unfold F.nn at h; omega) W, fun h => by cases h⟩
theorem all4o {x1 x2 x3 x4 : Int} (h : [x1, x2, x3, x4].all (· == 0) = true) : x1 = 0 ∧ x2 = 0 ∧ x3 = 0 ∧ x4 = 0 := by
  simpa [List.all_cons, Bool.and_eq_true] using h
theorem all2o {x1 x2 : Int} (h : [x1, x2].all (· == 0) = true) : x1 = 0 ∧ x2 = 0 := by
  simpa [List.all_cons, Bool.and_eq_true] using h
end SC
end Go.Proofs.YtjplemfdhhkbaaaDoor

/-
  ProdCommutes, ProdOrder: the walks.
-/
namespace Go.Proofs.YtjplemfdhhkbaaaDoor
set_option linter.unusedVariables false
set_option linter.unusedSimpArgs false
open Go.RowKit
set_option linter.unusedVariables false
set_option linter.unusedSimpArgs false
namespace PC
open L NC NK DC RC SC
theorem okn (W : World) (L : List Int) (o : Bool) (h0 : L.length < 1000) (ho : L.all (· == 0) = o) : Calls Tryd.prog 49 #[.slice (some ⟨W.heap.size, 0, none⟩) L.length L.length] (W.alloc (.cells (L.map fun x => Value.int .i64 x).toArray 26)) fun e w' => e = .returned (.bool o) ∧ W.alloc (.cells (L.map fun x => Value.int .i64 x).toArray 26) = w' := by
  have h1 := ok_lit W L (by omega)
  rw [ho] at h1
  exact h1
set_option maxRecDepth 100000 in
set_option maxHeartbeats 8000000 in
theorem commutes_c (x y mode : Int) (w : World) (hx : 0 ≤ x ∧ x ≤ 18446744073709551615) (hy : 0 ≤ y ∧ y ≤ 18446744073709551615) (hT : TabD w) :
    Calls Tryd.prog 7 #[.int .u64 x, .int .u64 y, .int .i64 mode] w fun e w' => e = .returned (.bool true) ∧ Below w.heap.size w w' := by
  have HT : Hid (∀ W : World, Below w.heap.size w W → TabD W) := fun W hW => hT.below hW
  have LV : Hid (∀ W : World, Below w.heap.size w W → Calls Tryd.prog 46 #[] W fun e w' => e = .returned (.bool true) ∧ Below W.heap.size W w') := fun W hW => livesP_c W (HT.out W hW)
  have D := Lib.hid (Below.refl w.heap.size w)
  have A1 : Hid (∀ W : World, Below w.heap.size w W → Calls Tryd.prog 45 #[.int .u64 x, .int .u64 y, .int .i64 mode] W (DC.RetB W (ATv (MT x y mode)))) := fun W hW => Mul_c x y mode W hx hy (HT.out W hW)
  have A2 : Hid (∀ W : World, Below w.heap.size w W → Calls Tryd.prog 45 #[.int .u64 y, .int .u64 x, .int .i64 mode] W (DC.RetB W (ATv (MT x y mode)))) := fun W hW => by
    have := Mul_c y x mode W hy hx (HT.out W hW)
    rwa [MT_comm hy hx] at this
  by_cases hm : 0 ≤ mode ∧ mode ≤ 4
  · obtain ⟨a, b, g, hM, hN, hc⟩ := mul_turn hm hx hy
    have hO := MT_one (O := 4607182418800017408) hm hx rfl
    have ba := MT_bd mode hx hy
    have hn := F.neg_bd x hx.1 hx.2
    rw [hM] at A1 A2 ba
    dsimp only at ba
    have S1 : Hid (∀ W : World, Below w.heap.size w W → Calls Tryd.prog 45 #[.int .u64 (F.neg x), .int .u64 y, .int .i64 (tm mode)] W (DC.RetB W (ATv (g, b, 0)))) := fun W hW => by
      have := Mul_c (F.neg x) y (tm mode) W hn hy (HT.out W hW)
      rwa [hN] at this
    have S2 : Hid (∀ W : World, Below w.heap.size w W → Calls Tryd.prog 45 #[.int .u64 x, .int .u64 4607182418800017408, .int .i64 mode] W (DC.RetB W (ATv (if F.cls x = 5 then 9221120237041090560 else x, false, 0)))) := fun W hW => by
      have := Mul_c x 4607182418800017408 mode W hx (by omega) (HT.out W hW)
      rwa [hO] at this
    have NX : Hid (∀ W : World, Calls Tryd.prog 47 #[.int .u64 x] W fun e w' => e = .returned (.int .u64 (F.neg x)) ∧ W = w') := fun W => FloatC.Neg_c x hx.1 hx.2 W
    have NA : Hid (∀ W : World, Calls Tryd.prog 47 #[.int .u64 a] W fun e w' => e = .returned (.int .u64 (F.neg a)) ∧ W = w') := fun W => FloatC.Neg_c a ba.1 ba.2 W
    have CA : Hid (∀ W : World, Calls Tryd.prog 48 #[.int .u64 a] W fun e w' => e = .returned (.int .i64 (F.cls a)) ∧ W = w') := fun W => FloatC.Class_c a ba.1 ba.2 W
    have CX : Hid (∀ W : World, Calls Tryd.prog 48 #[.int .u64 x] W fun e w' => e = .returned (.int .i64 (F.cls x)) ∧ W = w') := fun W => FloatC.Class_c x hx.1 hx.2 W
    unfold ATv at A1 A2 S1 S2
    dsimp only at A1 A2 S1 S2
    have om := other_tm hm
    have ta : (a != a) = false := by simp
    have tb : (b != b) = false := by simp
    have tb2 : (b == b) = true := by simp
    have tx : (x == x) = true := by simp
    have kx : (F.cls x = 5 ∧ ((9221120237041090560 : Int) == x) = true) ∨ (F.cls x = 5 ∧ ((9221120237041090560 : Int) == x) = false) ∨ F.cls x ≠ 5 := by
      by_cases h : F.cls x = 5
      · cases h2 : ((9221120237041090560 : Int) == x)
        · exact .inr (.inl ⟨h, rfl⟩)
        · exact .inl ⟨h, rfl⟩
      · exact .inr (.inr h)
    have kc : (F.cls a = 5 ∧ g = 9221120237041090560) ∨ ((F.cls a == 5) = false ∧ g = F.neg a) := by
      rcases hc with h | h
      · exact .inl h
      · exact .inr ⟨by simpa using h.1, h.2⟩
    have tn : (F.neg a == F.neg a) = true := by simp
    clear hM hN hO hc hm hT hx hy ba hn
    generalize tm mode = mo at *
    generalize F.cls a = ca at *
    generalize F.cls x = cx at *
    generalize F.neg a = na at *
    generalize F.neg x = nx at *
    have O2 : Hid (∀ W : World, Calls Tryd.prog 49 #[.slice (some ⟨W.heap.size, 0, none⟩) 2 2] (W.alloc (.cells #[.int .i64 0, .int .i64 0] 26)) fun e w' => e = .returned (.bool true) ∧ W.alloc (.cells #[.int .i64 0, .int .i64 0] 26) = w') := fun W => okn W [0, 0] true (by simp) rfl
    rcases kx with ⟨rfl, k1⟩ | ⟨rfl, k1⟩ | k1
    · rw [if_pos rfl] at S2
      rcases kc with ⟨rfl, rfl⟩ | ⟨k2, rfl⟩
      all_goals (
        rcases om with ⟨rfl, rfl⟩ | ⟨rfl, rfl⟩ | ⟨m1, m2, rfl⟩
        all_goals (
          go_enter Tryd.func7, Tryd.ntmps7
          go_wp2_with (first
            | (go_at_call 45; (with_reducible refine (A1.out _ D.out).mono ?_); rintro e w1 ⟨rfl, hb⟩; have D := Lib.hid (D.out.trans (hb.mono D.out.size)); clear hb)
            | (go_at_call 45; (with_reducible refine (A2.out _ D.out).mono ?_); rintro e w2 ⟨rfl, hb⟩; have D := Lib.hid (D.out.trans (hb.mono D.out.size)); clear hb)
            | (go_at_call 46; (with_reducible refine (LV.out _ D.out).mono ?_); rintro e w3 ⟨rfl, hb⟩; have D := Lib.hid (D.out.trans (hb.mono D.out.size)); clear hb)
            | (go_at_call 45; (with_reducible refine (S1.out _ D.out).mono ?_); rintro e w4 ⟨rfl, hb⟩; have D := Lib.hid (D.out.trans (hb.mono D.out.size)); clear hb)
            | (go_at_call 45; (with_reducible refine (S2.out _ D.out).mono ?_); rintro e w5 ⟨rfl, hb⟩; have D := Lib.hid (D.out.trans (hb.mono D.out.size)); clear hb)
            | (go_at_call 49; (with_reducible refine (O2.out w5).mono ?_); rintro e w6 ⟨rfl, hw⟩; have s := al1 w5 (.cells #[.int .i64 0, .int .i64 0] 26); rw [hw] at s; clear hw; have D := Lib.hid (D.out.trans (s.mono D.out.size)); clear s)
            | (go_at_call 47; (with_reducible refine (NX.out _).mono ?_); rintro e w7 ⟨rfl, rfl⟩)
            | (go_at_call 48; (with_reducible refine (CA.out _).mono ?_); rintro e w8 ⟨rfl, rfl⟩)
            | (go_at_call 47; (with_reducible refine (NA.out _).mono ?_); rintro e w9 ⟨rfl, rfl⟩)
            | (go_at_call 48; (with_reducible refine (CX.out _).mono ?_); rintro e w10 ⟨rfl, rfl⟩))
          go_ret
          exact ⟨rfl, D.out⟩))
    · rw [if_pos rfl] at S2
      rcases kc with ⟨rfl, rfl⟩ | ⟨k2, rfl⟩
      all_goals (
        rcases om with ⟨rfl, rfl⟩ | ⟨rfl, rfl⟩ | ⟨m1, m2, rfl⟩
        all_goals (
          go_enter Tryd.func7, Tryd.ntmps7
          go_wp2_with (first
            | (go_at_call 45; (with_reducible refine (A1.out _ D.out).mono ?_); rintro e w1 ⟨rfl, hb⟩; have D := Lib.hid (D.out.trans (hb.mono D.out.size)); clear hb)
            | (go_at_call 45; (with_reducible refine (A2.out _ D.out).mono ?_); rintro e w2 ⟨rfl, hb⟩; have D := Lib.hid (D.out.trans (hb.mono D.out.size)); clear hb)
            | (go_at_call 46; (with_reducible refine (LV.out _ D.out).mono ?_); rintro e w3 ⟨rfl, hb⟩; have D := Lib.hid (D.out.trans (hb.mono D.out.size)); clear hb)
            | (go_at_call 45; (with_reducible refine (S1.out _ D.out).mono ?_); rintro e w4 ⟨rfl, hb⟩; have D := Lib.hid (D.out.trans (hb.mono D.out.size)); clear hb)
            | (go_at_call 45; (with_reducible refine (S2.out _ D.out).mono ?_); rintro e w5 ⟨rfl, hb⟩; have D := Lib.hid (D.out.trans (hb.mono D.out.size)); clear hb)
            | (go_at_call 49; (with_reducible refine (O2.out w5).mono ?_); rintro e w6 ⟨rfl, hw⟩; have s := al1 w5 (.cells #[.int .i64 0, .int .i64 0] 26); rw [hw] at s; clear hw; have D := Lib.hid (D.out.trans (s.mono D.out.size)); clear s)
            | (go_at_call 47; (with_reducible refine (NX.out _).mono ?_); rintro e w7 ⟨rfl, rfl⟩)
            | (go_at_call 48; (with_reducible refine (CA.out _).mono ?_); rintro e w8 ⟨rfl, rfl⟩)
            | (go_at_call 47; (with_reducible refine (NA.out _).mono ?_); rintro e w9 ⟨rfl, rfl⟩)
            | (go_at_call 48; (with_reducible refine (CX.out _).mono ?_); rintro e w10 ⟨rfl, rfl⟩))
          go_ret
          exact ⟨rfl, D.out⟩))
    · rw [if_neg k1] at S2
      rcases kc with ⟨rfl, rfl⟩ | ⟨k2, rfl⟩
      all_goals (
        rcases om with ⟨rfl, rfl⟩ | ⟨rfl, rfl⟩ | ⟨m1, m2, rfl⟩
        all_goals (
          go_enter Tryd.func7, Tryd.ntmps7
          go_wp2_with (first
            | (go_at_call 45; (with_reducible refine (A1.out _ D.out).mono ?_); rintro e w1 ⟨rfl, hb⟩; have D := Lib.hid (D.out.trans (hb.mono D.out.size)); clear hb)
            | (go_at_call 45; (with_reducible refine (A2.out _ D.out).mono ?_); rintro e w2 ⟨rfl, hb⟩; have D := Lib.hid (D.out.trans (hb.mono D.out.size)); clear hb)
            | (go_at_call 46; (with_reducible refine (LV.out _ D.out).mono ?_); rintro e w3 ⟨rfl, hb⟩; have D := Lib.hid (D.out.trans (hb.mono D.out.size)); clear hb)
            | (go_at_call 45; (with_reducible refine (S1.out _ D.out).mono ?_); rintro e w4 ⟨rfl, hb⟩; have D := Lib.hid (D.out.trans (hb.mono D.out.size)); clear hb)
            | (go_at_call 45; (with_reducible refine (S2.out _ D.out).mono ?_); rintro e w5 ⟨rfl, hb⟩; have D := Lib.hid (D.out.trans (hb.mono D.out.size)); clear hb)
            | (go_at_call 49; (with_reducible refine (O2.out w5).mono ?_); rintro e w6 ⟨rfl, hw⟩; have s := al1 w5 (.cells #[.int .i64 0, .int .i64 0] 26); rw [hw] at s; clear hw; have D := Lib.hid (D.out.trans (s.mono D.out.size)); clear s)
            | (go_at_call 47; (with_reducible refine (NX.out _).mono ?_); rintro e w7 ⟨rfl, rfl⟩)
            | (go_at_call 48; (with_reducible refine (CA.out _).mono ?_); rintro e w8 ⟨rfl, rfl⟩)
            | (go_at_call 47; (with_reducible refine (NA.out _).mono ?_); rintro e w9 ⟨rfl, rfl⟩)
            | (go_at_call 48; (with_reducible refine (CX.out _).mono ?_); rintro e w10 ⟨rfl, rfl⟩))
          go_ret
          exact ⟨rfl, D.out⟩))
  · rw [MT_no hm] at A1 A2
    unfold ATv at A1 A2
    clear hm hT hx hy
    go_enter Tryd.func7, Tryd.ntmps7
    go_wp2_with (first
      | (go_at_call 45; (with_reducible refine (A1.out _ D.out).mono ?_); rintro e w1 ⟨rfl, hb⟩; have D := Lib.hid (D.out.trans (hb.mono D.out.size)); clear hb)
      | (go_at_call 45; (with_reducible refine (A2.out _ D.out).mono ?_); rintro e w2 ⟨rfl, hb⟩; have D := Lib.hid (D.out.trans (hb.mono D.out.size)); clear hb)
      | (go_at_call 46; (with_reducible refine (LV.out _ D.out).mono ?_); rintro e w3 ⟨rfl, hb⟩; have D := Lib.hid (D.out.trans (hb.mono D.out.size)); clear hb))
    go_ret
    exact ⟨rfl, D.out⟩
set_option maxRecDepth 100000 in
set_option maxHeartbeats 8000000 in
theorem orderP_c (x y z mode : Int) (w : World) (hx : 0 ≤ x ∧ x ≤ 18446744073709551615) (hy : 0 ≤ y ∧ y ≤ 18446744073709551615) (hz : 0 ≤ z ∧ z ≤ 18446744073709551615) (hT : TabD w) :
    Calls Tryd.prog 9 #[.int .u64 x, .int .u64 y, .int .u64 z, .int .i64 mode] w fun e w' => e = .returned (.bool true) ∧ Below w.heap.size w w' := by
  have HT : Hid (∀ W : World, Below w.heap.size w W → TabD W) := fun W hW => hT.below hW
  have LV : Hid (∀ W : World, Below w.heap.size w W → Calls Tryd.prog 46 #[] W fun e w' => e = .returned (.bool true) ∧ Below W.heap.size W w') := fun W hW => livesP_c W (HT.out W hW)
  have D := Lib.hid (Below.refl w.heap.size w)
  have A1 : Hid (∀ W : World, Below w.heap.size w W → Calls Tryd.prog 45 #[.int .u64 x, .int .u64 z, .int .i64 mode] W (DC.RetB W (ATv (MT x z mode)))) := fun W hW => Mul_c x z mode W hx hz (HT.out W hW)
  have A2 : Hid (∀ W : World, Below w.heap.size w W → Calls Tryd.prog 45 #[.int .u64 y, .int .u64 z, .int .i64 mode] W (DC.RetB W (ATv (MT y z mode)))) := fun W hW => Mul_c y z mode W hy hz (HT.out W hW)
  obtain ⟨kx, ex, Rx, fx⟩ := Rank_g hx
  obtain ⟨ky, ey, Ry, fy⟩ := Rank_g hy
  obtain ⟨kz, ez, Rz, fz⟩ := Rank_g hz
  obtain ⟨ka, ea, Ra, fa⟩ := Rank_g (MT_bd mode hx hz)
  obtain ⟨kb, eb, Rb, fb⟩ := Rank_g (MT_bd mode hy hz)
  have Rx := Lib.hid Rx
  have Ry := Lib.hid Ry
  have Rz := Lib.hid Rz
  have Ra := Lib.hid Ra
  have Rb := Lib.hid Rb
  have E1 : (MT x z mode).2.2 = 0 → 0 ≤ mode ∧ mode ≤ 4 := fun h => by
    rcases Classical.em (0 ≤ mode ∧ mode ≤ 4) with h1 | h1
    · exact h1
    · rw [MT_no h1] at h; cases h
  have P1 : ex = 0 → ey = 0 → ez = 0 → (MT x z mode).2.2 = 0 → kx ≤ ky → 0 ≤ kz → ea = 0 → eb = 0 → ka ≤ kb := fun h1 h2 h2' h3 h4 h4' h5 h6 => by
    obtain ⟨n1, rfl⟩ := fx h1
    obtain ⟨n2, rfl⟩ := fy h2
    obtain ⟨n5, rfl⟩ := fz h2'
    obtain ⟨n3, rfl⟩ := fa h5
    obtain ⟨n4, rfl⟩ := fb h6
    exact order_mul (E1 h3) hx hy hz n1 n2 n5 h4 h4' n3 n4
  clear fx fy fz fa fb E1 hT hx hy hz
  generalize MT x z mode = ta at *
  generalize MT y z mode = tb at *
  obtain ⟨a, la, e1⟩ := ta
  obtain ⟨b, lb, e2⟩ := tb
  unfold ATv at A1 A2
  dsimp only at A1 A2 P1 Ra Rb
  obtain ⟨o, ho⟩ : ∃ o, [ex, ey, ez, e1, e2].all (· == 0) = o := ⟨_, rfl⟩
  have O5 : Hid (∀ W : World, Calls Tryd.prog 49 #[.slice (some ⟨W.heap.size, 0, none⟩) 5 5] (W.alloc (.cells #[.int .i64 ex, .int .i64 ey, .int .i64 ez, .int .i64 e1, .int .i64 e2] 26)) fun e w' => e = .returned (.bool o) ∧ W.alloc (.cells #[.int .i64 ex, .int .i64 ey, .int .i64 ez, .int .i64 e1, .int .i64 e2] 26) = w') := fun W => okn W [ex, ey, ez, e1, e2] o (by simp) ho
  cases o
  · clear P1 ho
    go_enter Tryd.func9, Tryd.ntmps9
    go_wp2_with (first
      | (go_at_call 54; (with_reducible refine (Rx.out _).mono ?_); rintro e w1 ⟨rfl, rfl⟩)
      | (go_at_call 54; (with_reducible refine (Ry.out _).mono ?_); rintro e w2 ⟨rfl, rfl⟩)
      | (go_at_call 54; (with_reducible refine (Rz.out _).mono ?_); rintro e w3 ⟨rfl, rfl⟩)
      | (go_at_call 45; (with_reducible refine (A1.out _ D.out).mono ?_); rintro e w4 ⟨rfl, hb⟩; have D := Lib.hid (D.out.trans (hb.mono D.out.size)); clear hb)
      | (go_at_call 45; (with_reducible refine (A2.out _ D.out).mono ?_); rintro e w5 ⟨rfl, hb⟩; have D := Lib.hid (D.out.trans (hb.mono D.out.size)); clear hb)
      | (go_at_call 46; (with_reducible refine (LV.out _ D.out).mono ?_); rintro e w6 ⟨rfl, hb⟩; have D := Lib.hid (D.out.trans (hb.mono D.out.size)); clear hb)
      | (go_at_call 49; (with_reducible refine (O5.out w6).mono ?_); rintro e w7 ⟨rfl, hw⟩; have s := al1 w6 (.cells #[.int .i64 ex, .int .i64 ey, .int .i64 ez, .int .i64 e1, .int .i64 e2] 26); rw [hw] at s; clear hw; have D := Lib.hid (D.out.trans (s.mono D.out.size)); clear s))
    go_ret
    exact ⟨rfl, D.out⟩
  · have h9 : ex = 0 ∧ ey = 0 ∧ ez = 0 ∧ e1 = 0 ∧ e2 = 0 := by simpa [List.all_cons, Bool.and_eq_true] using ho
    have P1 := P1 h9.1 h9.2.1 h9.2.2.1 h9.2.2.2.1
    clear ho h9
    by_cases hk : kx > ky
    · clear P1
      go_enter Tryd.func9, Tryd.ntmps9
      go_wp2_with (first
        | (go_at_call 54; (with_reducible refine (Rx.out _).mono ?_); rintro e w1 ⟨rfl, rfl⟩)
        | (go_at_call 54; (with_reducible refine (Ry.out _).mono ?_); rintro e w2 ⟨rfl, rfl⟩)
        | (go_at_call 54; (with_reducible refine (Rz.out _).mono ?_); rintro e w3 ⟨rfl, rfl⟩)
        | (go_at_call 45; (with_reducible refine (A1.out _ D.out).mono ?_); rintro e w4 ⟨rfl, hb⟩; have D := Lib.hid (D.out.trans (hb.mono D.out.size)); clear hb)
        | (go_at_call 45; (with_reducible refine (A2.out _ D.out).mono ?_); rintro e w5 ⟨rfl, hb⟩; have D := Lib.hid (D.out.trans (hb.mono D.out.size)); clear hb)
        | (go_at_call 46; (with_reducible refine (LV.out _ D.out).mono ?_); rintro e w6 ⟨rfl, hb⟩; have D := Lib.hid (D.out.trans (hb.mono D.out.size)); clear hb)
        | (go_at_call 49; (with_reducible refine (O5.out w6).mono ?_); rintro e w7 ⟨rfl, hw⟩; have s := al1 w6 (.cells #[.int .i64 ex, .int .i64 ey, .int .i64 ez, .int .i64 e1, .int .i64 e2] 26); rw [hw] at s; clear hw; have D := Lib.hid (D.out.trans (s.mono D.out.size)); clear s))
      go_ret
      exact ⟨rfl, D.out⟩
    · by_cases hz : kz < 0
      · clear P1
        go_enter Tryd.func9, Tryd.ntmps9
        go_wp2_with (first
          | (go_at_call 54; (with_reducible refine (Rx.out _).mono ?_); rintro e w1 ⟨rfl, rfl⟩)
          | (go_at_call 54; (with_reducible refine (Ry.out _).mono ?_); rintro e w2 ⟨rfl, rfl⟩)
          | (go_at_call 54; (with_reducible refine (Rz.out _).mono ?_); rintro e w3 ⟨rfl, rfl⟩)
          | (go_at_call 45; (with_reducible refine (A1.out _ D.out).mono ?_); rintro e w4 ⟨rfl, hb⟩; have D := Lib.hid (D.out.trans (hb.mono D.out.size)); clear hb)
          | (go_at_call 45; (with_reducible refine (A2.out _ D.out).mono ?_); rintro e w5 ⟨rfl, hb⟩; have D := Lib.hid (D.out.trans (hb.mono D.out.size)); clear hb)
          | (go_at_call 46; (with_reducible refine (LV.out _ D.out).mono ?_); rintro e w6 ⟨rfl, hb⟩; have D := Lib.hid (D.out.trans (hb.mono D.out.size)); clear hb)
          | (go_at_call 49; (with_reducible refine (O5.out w6).mono ?_); rintro e w7 ⟨rfl, hw⟩; have s := al1 w6 (.cells #[.int .i64 ex, .int .i64 ey, .int .i64 ez, .int .i64 e1, .int .i64 e2] 26); rw [hw] at s; clear hw; have D := Lib.hid (D.out.trans (s.mono D.out.size)); clear s))
        go_ret
        exact ⟨rfl, D.out⟩
      · have P1 := P1 (by omega) (by omega)
        obtain ⟨o2, ho2⟩ : ∃ o, [ea, eb].all (· == 0) = o := ⟨_, rfl⟩
        have O2 : Hid (∀ W : World, Calls Tryd.prog 49 #[.slice (some ⟨W.heap.size, 0, none⟩) 2 2] (W.alloc (.cells #[.int .i64 ea, .int .i64 eb] 26)) fun e w' => e = .returned (.bool o2) ∧ W.alloc (.cells #[.int .i64 ea, .int .i64 eb] 26) = w') := fun W => okn W [ea, eb] o2 (by simp) ho2
        have c2 : o2 = false ∨ (o2 = true ∧ ka ≤ kb) := by
          cases o2
          · exact .inl rfl
          · right
            obtain ⟨h1, h2⟩ := all2o ho2
            exact ⟨rfl, P1 h1 h2⟩
        clear P1 ho2
        rcases c2 with rfl | ⟨rfl, c2⟩
        all_goals (
          go_enter Tryd.func9, Tryd.ntmps9
          go_wp2_with (first
            | (go_at_call 54; (with_reducible refine (Rx.out _).mono ?_); rintro e w1 ⟨rfl, rfl⟩)
            | (go_at_call 54; (with_reducible refine (Ry.out _).mono ?_); rintro e w2 ⟨rfl, rfl⟩)
            | (go_at_call 54; (with_reducible refine (Rz.out _).mono ?_); rintro e w3 ⟨rfl, rfl⟩)
            | (go_at_call 45; (with_reducible refine (A1.out _ D.out).mono ?_); rintro e w4 ⟨rfl, hb⟩; have D := Lib.hid (D.out.trans (hb.mono D.out.size)); clear hb)
            | (go_at_call 45; (with_reducible refine (A2.out _ D.out).mono ?_); rintro e w5 ⟨rfl, hb⟩; have D := Lib.hid (D.out.trans (hb.mono D.out.size)); clear hb)
            | (go_at_call 46; (with_reducible refine (LV.out _ D.out).mono ?_); rintro e w6 ⟨rfl, hb⟩; have D := Lib.hid (D.out.trans (hb.mono D.out.size)); clear hb)
            | (go_at_call 49; (with_reducible refine (O5.out w6).mono ?_); rintro e w7 ⟨rfl, hw⟩; have s := al1 w6 (.cells #[.int .i64 ex, .int .i64 ey, .int .i64 ez, .int .i64 e1, .int .i64 e2] 26); rw [hw] at s; clear hw; have D := Lib.hid (D.out.trans (s.mono D.out.size)); clear s)
            | (go_at_call 54; (with_reducible refine (Ra.out _).mono ?_); rintro e w8 ⟨rfl, rfl⟩)
            | (go_at_call 54; (with_reducible refine (Rb.out _).mono ?_); rintro e w9 ⟨rfl, rfl⟩)
            | (go_at_call 49; (with_reducible refine (O2.out w7).mono ?_); rintro e w10 ⟨rfl, hw⟩; have s := al1 w7 (.cells #[.int .i64 ea, .int .i64 eb] 26); rw [hw] at s; clear hw; have D := Lib.hid (D.out.trans (s.mono D.out.size)); clear s))
          go_ret
          exact ⟨rfl, D.out⟩)
end PC
end Go.Proofs.YtjplemfdhhkbaaaDoor

/-
  SumSterbenz: value; four boxed Dyads.
-/
namespace Go.Proofs.YtjplemfdhhkbaaaDoor
set_option linter.unusedVariables false
set_option linter.unusedSimpArgs false
open Go.RowKit
set_option linter.unusedVariables false
set_option linter.unusedSimpArgs false
namespace SC
open L NC NK DC RC
/-- value: a Dyad in its form, and if there is one -/
def RetVb (w : World) (d : Dy) (o : Bool) (e : Ending) (w' : World) : Prop := ∃ b A n c x, e = .returned (.tuple #[.agg #[.bool b, .slice A n c, .int .i64 x], .bool o]) ∧ GV w' b A n c x d ∧ Below w.heap.size w w'
theorem value_c (x : Int) (w : World) (h0 : 0 ≤ x) (h1 : x ≤ 18446744073709551615) (hT : TabD w) : Calls Tryd.prog 57 #[.int .u64 x] w (RetVb w (OfD x).d ((OfD x).e == 0)) := by
  obtain ⟨W0, hW0, D0, ZS, KB⟩ := res0 w
  have OF := Lib.hid (Of_d x h0 h1 W0 (hT.below D0))
  have KB := Lib.hid KB
  have D0 := Lib.hid D0
  have HW0 := Lib.hid hW0
  generalize OfD x = r at *
  clear hW0 h0 h1 hT
  go_enter Tryd.func57, Tryd.ntmps57
  go_wp2_with (first
    | (go_at_call 13; rw [HW0.out]; (with_reducible refine (OF.out).mono ?_); rintro e w5 ⟨b5, A5, n5, c5, x5, rfl, hv5, hb0⟩; have s := hb0.alloc hb0.size (.cells #[.bool b5, .slice A5 n5 c5, .int .i64 x5] 25); have D := Lib.hid s; obtain ⟨p0, p1, p2⟩ := BX.new w5 b5 A5 n5 c5 x5; have hv6 := hv5.below (al1 w5 (.cells #[.bool b5, .slice A5 n5 c5, .int .i64 x5] 25)); have R2 := KB.out _ D.out; have t0 := R2.at_ 0 rfl; have t1 := R2.at_ 1 rfl; have t2 := R2.at_ 2 rfl; have f0 := R2.frozen 0; have f1 := R2.frozen 1; have f2 := R2.frozen 2; have R2 := Lib.hid R2))
  exact bodyPost_ret (v := .tuple #[.agg #[.bool b5, .slice A5 n5 c5, .int .i64 x5], .bool (r.e == 0)]) (by simp [results, Tryd.results57, go_sem, t0, t1, t2]) rfl
    ⟨_, _, _, _, _, rfl, hv6.set3 R2.out _ _ _ (by intro z h; cases h) (by intro z h; cases h), below3 (D0.out.trans (D.out.mono D0.out.size)) (by omega) _ _ _⟩
def dc (b : Bool) (A : Option Addr) (n c : Nat) (x : Int) : Array Value := #[.bool b, .slice A n c, .int .i64 x]
/-- four boxes -/
structure Four (W0 W : World) (ga gb gp gq : Nat) (ba : Bool) (Aa : Option Addr) (na ca : Nat) (xa : Int) (bb : Bool) (Ab : Option Addr) (nb cb : Nat) (xb : Int) (bp : Bool) (Ap : Option Addr) (np cp : Nat) (xp : Int) (bq : Bool) (Aq : Option Addr) (nq cq : Nat) (xq : Int) (da db dp dq : Dy) : Prop where
  ka : Blk W ga 25 #[.bool ba, .slice Aa na ca, .int .i64 xa]
  kb : Blk W gb 25 #[.bool bb, .slice Ab nb cb, .int .i64 xb]
  kp : Blk W gp 25 #[.bool bp, .slice Ap np cp, .int .i64 xp]
  kq : Blk W gq 25 #[.bool bq, .slice Aq nq cq, .int .i64 xq]
  va : GV W ba Aa na ca xa da
  vb : GV W bb Ab nb cb xb db
  vp : GV W bp Ap np cp xp dp
  vq : GV W bq Aq nq cq xq dq
  D : Below W0.heap.size W0 W
  hp : W0.heap.size ≤ gp
  hq : W0.heap.size ≤ gq
  ap : ga ≠ gp
  aq : ga ≠ gq
  bp' : gb ≠ gp
  bq' : gb ≠ gq
  pq : gp ≠ gq
theorem Four.below {W0 W W' : World} {ga gb gp gq : Nat} {ba : Bool} {Aa : Option Addr} {na ca : Nat} {xa : Int} {bb : Bool} {Ab : Option Addr} {nb cb : Nat} {xb : Int} {bp : Bool} {Ap : Option Addr} {np cp : Nat} {xp : Int} {bq : Bool} {Aq : Option Addr} {nq cq : Nat} {xq : Int} {da db dp dq : Dy} (h : Four W0 W ga gb gp gq ba Aa na ca xa bb Ab nb cb xb bp Ap np cp xp bq Aq nq cq xq  da db dp dq) (hb : Below W.heap.size W W') : Four W0 W' ga gb gp gq ba Aa na ca xa bb Ab nb cb xb bp Ap np cp xp bq Aq nq cq xq  da db dp dq :=
  ⟨h.ka.below hb h.ka.lt, h.kb.below hb h.kb.lt, h.kp.below hb h.kp.lt, h.kq.below hb h.kq.lt, h.va.below hb, h.vb.below hb, h.vp.below hb, h.vq.below hb, h.D.trans (hb.mono h.D.size), h.hp, h.hq, h.ap, h.aq, h.bp', h.bq', h.pq⟩
theorem Blk.far3 {w : World} {g g' : Nat} {t : TypeId} {cs : Array Value} (h : Blk w g t cs) (hg : g ≠ g') (x y z : Value) : Blk (((w.setCell ⟨g', 0, none⟩ x).setCell ⟨g', 1, none⟩ y).setCell ⟨g', 2, none⟩ z) g t cs :=
  ((h.far (by simpa using hg) _).far (by simpa using hg) _).far (by simpa using hg) _
/-- both last ones exchanged -/
theorem Four.swap {W0 W : World} {ga gb gp gq : Nat} {ba : Bool} {Aa : Option Addr} {na ca : Nat} {xa : Int} {bb : Bool} {Ab : Option Addr} {nb cb : Nat} {xb : Int} {bp : Bool} {Ap : Option Addr} {np cp : Nat} {xp : Int} {bq : Bool} {Aq : Option Addr} {nq cq : Nat} {xq : Int} {da db dp dq : Dy} (h : Four W0 W ga gb gp gq ba Aa na ca xa bb Ab nb cb xb bp Ap np cp xp bq Aq nq cq xq  da db dp dq) :
    Four W0 ((((((W.setCell ⟨gp, 0, none⟩ (.bool bq)).setCell ⟨gp, 1, none⟩ (.slice Aq nq cq)).setCell ⟨gp, 2, none⟩ (.int .i64 xq)).setCell ⟨gq, 0, none⟩ (.bool bp)).setCell ⟨gq, 1, none⟩ (.slice Ap np cp)).setCell ⟨gq, 2, none⟩ (.int .i64 xp)) ga gb gp gq ba Aa na ca xa bb Ab nb cb xb bq Aq nq cq xq bp Ap np cp xp  da db dq dp := by
  have kq1 := Blk.far3 h.kq h.pq.symm (.bool bq) (.slice Aq nq cq) (.int .i64 xq)
  have set1 : ∀ {b A n c x d}, GV W b A n c x d → GV (((W.setCell ⟨gp, 0, none⟩ (.bool bq)).setCell ⟨gp, 1, none⟩ (.slice Aq nq cq)).setCell ⟨gp, 2, none⟩ (.int .i64 xq)) b A n c x d := fun g => g.set3 h.kp _ _ _ (by intro z h; cases h) (by intro z h; cases h)
  have set2 : ∀ {b A n c x d}, GV W b A n c x d → GV ((((((W.setCell ⟨gp, 0, none⟩ (.bool bq)).setCell ⟨gp, 1, none⟩ (.slice Aq nq cq)).setCell ⟨gp, 2, none⟩ (.int .i64 xq)).setCell ⟨gq, 0, none⟩ (.bool bp)).setCell ⟨gq, 1, none⟩ (.slice Ap np cp)).setCell ⟨gq, 2, none⟩ (.int .i64 xp)) b A n c x d := fun g => (set1 g).set3 kq1 _ _ _ (by intro z h; cases h) (by intro z h; cases h)
  exact ⟨Blk.far3 (Blk.far3 h.ka h.ap _ _ _) h.aq _ _ _, Blk.far3 (Blk.far3 h.kb h.bp' _ _ _) h.bq' _ _ _, Blk.far3 (Blk3 h.kp _ _ _) h.pq _ _ _, Blk3 kq1 _ _ _,
    set2 h.va, set2 h.vb, set2 h.vq, set2 h.vp, below3 (below3 h.D h.hp _ _ _) h.hq _ _ _, h.hp, h.hq, h.ap, h.aq, h.bp', h.bq', h.pq⟩
end SC
end Go.Proofs.YtjplemfdhhkbaaaDoor

/-
  ProdExact: the walk.
-/
namespace Go.Proofs.YtjplemfdhhkbaaaDoor
set_option linter.unusedVariables false
set_option linter.unusedSimpArgs false
open Go.RowKit
set_option linter.unusedVariables false
set_option linter.unusedSimpArgs false
namespace PC
open L NC NK DC RC SC
theorem OfD_fi {x : Int} (hx : 0 ≤ x ∧ x ≤ 18446744073709551615) : (OfD x).e = 0 ↔ fi x := by
  constructor
  · intro h; exact ⟨hx.1, hx.2, fun h2 => by unfold OfD at h; rw [if_pos h2] at h; cases h⟩
  · intro h; exact (of_fit h).1
theorem dy_eq {a b : Dy} (ha : Ok a) (hb : Ok b) : decide (a.m = b.m ∧ a.x = b.x) = decide (S a = S b) := by
  apply decide_eq_decide.2
  constructor
  · rintro ⟨h1, h2⟩; unfold S; rw [h1, h2]
  · intro h; have := S_inj ha hb h; rw [this]; exact ⟨rfl, rfl⟩
theorem exact_law {x y mode : Int} (hm : 0 ≤ mode ∧ mode ≤ 4) (fx : fi x) (fy : fi y) : ∃ p l, MT x y mode = (p, l, 0) ∧ ((l = true ∧ (OfD p).e ≠ 0) ∨ ((OfD p).e = 0 ∧ (!l) = decide ((OfD p).d.m = (PD x y).d.m ∧ (OfD p).d.x = (PD x y).d.x))) := by
  have hx := And.intro fx.1 fx.2.1
  have hy := And.intro fy.1 fy.2.1
  obtain ⟨K, hK⟩ : ∃ K : Nat, K = 60000 := ⟨_, rfl⟩
  have a := pd_p fx fy hK
  cases h : (bc x y).2
  · rw [MT_fi hm h]
    refine ⟨_, _, rfl, ?_⟩
    have i := exact_iff hm a.2.1.ok
    have b := TX_bd (PD x y).d mode fun _ => a.2.1.ok
    by_cases f : fi (TX (PD x y).d mode)
    · right
      refine ⟨(of_fit f).1, ?_⟩
      rw [dy_eq (of_fit f).2.ok a.2.1.ok]
      have e : S (OfD (TX (PD x y).d mode)).d = val (TX (PD x y).d mode) := rfl
      rw [e]
      cases hl : TL (PD x y).d mode
      · symm; simpa using (i.1 hl).2
      · symm
        simp only [Bool.not_true]
        rw [decide_eq_false_iff_not]
        intro h2
        rw [i.2 ⟨f, h2⟩] at hl
        cases hl
    · left
      refine ⟨?_, fun h2 => f ((OfD_fi ⟨b.1, b.2.1⟩).1 h2)⟩
      cases hl : TL (PD x y).d mode
      · exact absurd (i.1 hl).1 f
      · rfl
  · rw [MT_bc hm h]
    refine ⟨_, _, rfl, .inr ?_⟩
    have c1 := (fi_cls hx).1 fx
    have c2 := (fi_cls hy).1 fy
    have h3 : min (F.cls x) (F.cls y) = 1 := by
      rcases Classical.em (min (F.cls x) (F.cls y) = 1) with h3 | h3
      · exact h3
      · exfalso
        unfold bc at h
        rw [if_neg (by omega), if_neg (by omega), if_neg h3] at h
        cases h
    have e : bc x y = (sp x y, true) := by
      unfold bc
      rw [if_neg (by omega), if_neg (by omega), if_pos h3]
    rw [e]
    dsimp only
    have f : fi (sp x y) ∧ val (sp x y) = 0 := by
      rcases sp2 x y with h | h <;> rw [h]
      · exact val00
      · exact val08
    have h0 : S (PD x y).d = 0 := by
      apply K_inj (K := K)
      rw [a.2.2, Int.zero_mul, Int.mul_eq_zero, val0 fx, val0 fy]
      omega
    refine ⟨(of_fit f.1).1, ?_⟩
    rw [dy_eq (of_fit f.1).2.ok a.2.1.ok]
    have e2 : S (OfD (sp x y)).d = val (sp x y) := rfl
    rw [e2, f.2, h0]
    simp
set_option maxRecDepth 100000 in
set_option maxHeartbeats 8000000 in
theorem exactP_c (x y mode : Int) (w : World) (hx : 0 ≤ x ∧ x ≤ 18446744073709551615) (hy : 0 ≤ y ∧ y ≤ 18446744073709551615) (hT : TabD w) :
    Calls Tryd.prog 12 #[.int .u64 x, .int .u64 y, .int .i64 mode] w fun e w' => e = .returned (.bool true) ∧ Below w.heap.size w w' := by
  have HT : Hid (∀ W : World, Below w.heap.size w W → TabD W) := fun W hW => hT.below hW
  have LV : Hid (∀ W : World, Below w.heap.size w W → Calls Tryd.prog 46 #[] W fun e w' => e = .returned (.bool true) ∧ Below W.heap.size W w') := fun W hW => livesP_c W (HT.out W hW)
  have D := Lib.hid (Below.refl w.heap.size w)
  have A1 : Hid (∀ W : World, Below w.heap.size w W → Calls Tryd.prog 45 #[.int .u64 x, .int .u64 y, .int .i64 mode] W (DC.RetB W (ATv (MT x y mode)))) := fun W hW => Mul_c x y mode W hx hy (HT.out W hW)
  have bp := MT_bd mode hx hy
  have VX : Hid (∀ W : World, Below w.heap.size w W → Calls Tryd.prog 57 #[.int .u64 x] W (RetVb W (OfD x).d ((OfD x).e == 0))) := fun W hW => value_c x W hx.1 hx.2 (HT.out W hW)
  have VY : Hid (∀ W : World, Below w.heap.size w W → Calls Tryd.prog 57 #[.int .u64 y] W (RetVb W (OfD y).d ((OfD y).e == 0))) := fun W hW => value_c y W hy.1 hy.2 (HT.out W hW)
  have VP : Hid (∀ W : World, Below w.heap.size w W → Calls Tryd.prog 57 #[.int .u64 (MT x y mode).1] W (RetVb W (OfD (MT x y mode).1).d ((OfD (MT x y mode).1).e == 0))) := fun W hW => value_c _ W bp.1 bp.2 (HT.out W hW)
  unfold ATv at A1
  by_cases hm : 0 ≤ mode ∧ mode ≤ 4
  · obtain ⟨ex, hex⟩ : ∃ ex, ((OfD x).e == 0) = ex := ⟨_, rfl⟩
    obtain ⟨ey, hey⟩ : ∃ ey, ((OfD y).e == 0) = ey := ⟨_, rfl⟩
    rw [hex] at VX
    rw [hey] at VY
    cases ex
    · obtain ⟨t, ht⟩ : ∃ t, MT x y mode = t := ⟨_, rfl⟩
      obtain ⟨p, l, hM⟩ := MT_ok (x := x) (y := y) hm
      rw [hM] at A1 VP
      dsimp only at A1 VP
      generalize ((OfD p).e == 0) = ep at VP
      generalize (OfD p).d = dp at VP
      generalize (OfD x).d = d1 at VX
      generalize (OfD y).d = d2 at VY
      clear hT hx hy hm hex hey ht hM bp
      go_enter Tryd.func12, Tryd.ntmps12
      go_wp2_with (first
        | (go_at_call 45; (with_reducible refine (A1.out _ D.out).mono ?_); rintro e w1 ⟨rfl, hb⟩; have D := Lib.hid (D.out.trans (hb.mono D.out.size)); clear hb)
        | (go_at_call 57; (with_reducible refine (VX.out _ D.out).mono ?_); rintro e w2 ⟨ba, Aa, na, ca, xa, rfl, hv, hb⟩; have s := hb.alloc hb.size (.cells #[.bool ba, .slice Aa na ca, .int .i64 xa] 25); have Xa := BD.new hv.dv; have D := Lib.hid (D.out.trans (s.mono D.out.size)); clear hv hb s)
        | (go_at_call 57; (with_reducible refine (VY.out _ D.out).mono ?_); rintro e w3 ⟨bb, Ab, nb, cb, xb, rfl, hv, hb⟩; have s := hb.alloc hb.size (.cells #[.bool bb, .slice Ab nb cb, .int .i64 xb] 25); have Xb := BD.new hv.dv; have Xa := Xa.below s; have D := Lib.hid (D.out.trans (s.mono D.out.size)); clear hv hb s)
        | (go_at_call 57; (with_reducible refine (VP.out _ D.out).mono ?_); rintro e w4 ⟨bc, Ac, nc, cc, xc, rfl, hv, hb⟩; have s := hb.alloc hb.size (.cells #[.bool bc, .slice Ac nc cc, .int .i64 xc] 25); have Xc := BD.new hv.dv; have Xa := Xa.below s; have Xb := Xb.below s; have D := Lib.hid (D.out.trans (s.mono D.out.size)); clear hv hb s)
        | (go_at_call 46; (with_reducible refine (LV.out _ D.out).mono ?_); rintro e w5 ⟨rfl, hb⟩; have Xa := Xa.below hb; have Xb := Xb.below hb; have Xc := Xc.below hb; have D := Lib.hid (D.out.trans (hb.mono D.out.size)); clear hb; obtain ⟨pa0, pa1, pa2⟩ := Xa.bx; obtain ⟨pb0, pb1, pb2⟩ := Xb.bx; obtain ⟨pc0, pc1, pc2⟩ := Xc.bx))
      go_ret
      exact ⟨rfl, D.out⟩
    · cases ey
      · obtain ⟨p, l, hM⟩ := MT_ok (x := x) (y := y) hm
        rw [hM] at A1 VP
        dsimp only at A1 VP
        generalize ((OfD p).e == 0) = ep at VP
        generalize (OfD p).d = dp at VP
        generalize (OfD x).d = d1 at VX
        generalize (OfD y).d = d2 at VY
        clear hT hx hy hm hex hey hM bp
        go_enter Tryd.func12, Tryd.ntmps12
        go_wp2_with (first
          | (go_at_call 45; (with_reducible refine (A1.out _ D.out).mono ?_); rintro e w1 ⟨rfl, hb⟩; have D := Lib.hid (D.out.trans (hb.mono D.out.size)); clear hb)
          | (go_at_call 57; (with_reducible refine (VX.out _ D.out).mono ?_); rintro e w2 ⟨ba, Aa, na, ca, xa, rfl, hv, hb⟩; have s := hb.alloc hb.size (.cells #[.bool ba, .slice Aa na ca, .int .i64 xa] 25); have Xa := BD.new hv.dv; have D := Lib.hid (D.out.trans (s.mono D.out.size)); clear hv hb s)
          | (go_at_call 57; (with_reducible refine (VY.out _ D.out).mono ?_); rintro e w3 ⟨bb, Ab, nb, cb, xb, rfl, hv, hb⟩; have s := hb.alloc hb.size (.cells #[.bool bb, .slice Ab nb cb, .int .i64 xb] 25); have Xb := BD.new hv.dv; have Xa := Xa.below s; have D := Lib.hid (D.out.trans (s.mono D.out.size)); clear hv hb s)
          | (go_at_call 57; (with_reducible refine (VP.out _ D.out).mono ?_); rintro e w4 ⟨bc, Ac, nc, cc, xc, rfl, hv, hb⟩; have s := hb.alloc hb.size (.cells #[.bool bc, .slice Ac nc cc, .int .i64 xc] 25); have Xc := BD.new hv.dv; have Xa := Xa.below s; have Xb := Xb.below s; have D := Lib.hid (D.out.trans (s.mono D.out.size)); clear hv hb s)
          | (go_at_call 46; (with_reducible refine (LV.out _ D.out).mono ?_); rintro e w5 ⟨rfl, hb⟩; have Xa := Xa.below hb; have Xb := Xb.below hb; have Xc := Xc.below hb; have D := Lib.hid (D.out.trans (hb.mono D.out.size)); clear hb; obtain ⟨pa0, pa1, pa2⟩ := Xa.bx; obtain ⟨pb0, pb1, pb2⟩ := Xb.bx; obtain ⟨pc0, pc1, pc2⟩ := Xc.bx))
        go_ret
        exact ⟨rfl, D.out⟩
      · have fx := (OfD_fi hx).1 (by simpa using hex)
        have fy := (OfD_fi hy).1 (by simpa using hey)
        obtain ⟨p, l, hM, hl⟩ := exact_law hm fx fy
        have eP : PD x y = DC.Mul (OfD x).d (OfD y).d := by
          unfold PD
          rw [if_neg (by have := fx.2.2; have := fy.2.2; omega)]
        have e0 := (pd_p fx fy rfl).1
        have k1 := (pd_p fx fy rfl).2.1.ok
        have k2 : Ok (OfD p).d := by
          by_cases h : F.exq p = 2047
          · unfold OfD; rw [if_pos h]; exact ok_dz
          · unfold OfD; rw [if_neg h]; exact fin_ok _ _
        have ML : Hid (∀ (W : World) (u v : Value), DV W u (OfD x).d → DV W v (OfD y).d → Below w.heap.size w W → Calls Tryd.prog 31 #[u, v] W (RetD W ⟨0, (PD x y).d⟩)) := fun W u v h1 h2 hW => by
          have := Mul_d u v _ _ W h1 h2 (HT.out W hW)
          rw [← eP] at this
          rw [show (⟨0, (PD x y).d⟩ : Re) = PD x y by rw [← e0]]
          exact this
        have SM : Hid (∀ (W : World) (u v : Value), DV W u (OfD p).d → DV W v (PD x y).d → Below w.heap.size w W → Calls Tryd.prog 17 #[u, v] W (DC.RetB W (.bool (decide ((OfD p).d.m = (PD x y).d.m ∧ (OfD p).d.x = (PD x y).d.x))))) := fun W u v h1 h2 hW => Same_d u v _ _ W h1 h2 k2.1 k1.1
        rw [hM] at A1 VP
        dsimp only at A1 VP
        obtain ⟨ep, hep⟩ : ∃ ep, ((OfD p).e == 0) = ep := ⟨_, rfl⟩
        rw [hep] at VP
        generalize decide ((OfD p).d.m = (PD x y).d.m ∧ (OfD p).d.x = (PD x y).d.x) = sm at *
        have kk : (ep = false ∧ l = true) ∨ (ep = true ∧ (!l) = sm) := by
          rcases hl with ⟨h1, h2⟩ | ⟨h1, h2⟩
          · exact .inl ⟨by rw [← hep]; simpa using h2, h1⟩
          · exact .inr ⟨by rw [← hep]; simpa using h1, h2⟩
        clear hl e0 k1 k2 eP fx fy hep hM hex hey hm hT hx hy bp
        generalize (OfD p).d = dp at *
        generalize (PD x y).d = dr at *
        generalize (OfD x).d = d1 at *
        generalize (OfD y).d = d2 at *
        rcases kk with ⟨rfl, rfl⟩ | ⟨rfl, rfl⟩
        · clear SM
          go_enter Tryd.func12, Tryd.ntmps12
          go_wp2_with (first
            | (go_at_call 45; (with_reducible refine (A1.out _ D.out).mono ?_); rintro e w1 ⟨rfl, hb⟩; have D := Lib.hid (D.out.trans (hb.mono D.out.size)); clear hb)
            | (go_at_call 57; (with_reducible refine (VX.out _ D.out).mono ?_); rintro e w2 ⟨ba, Aa, na, ca, xa, rfl, hv, hb⟩; have s := hb.alloc hb.size (.cells #[.bool ba, .slice Aa na ca, .int .i64 xa] 25); have Xa := BD.new hv.dv; have D := Lib.hid (D.out.trans (s.mono D.out.size)); clear hv hb s)
            | (go_at_call 57; (with_reducible refine (VY.out _ D.out).mono ?_); rintro e w3 ⟨bb, Ab, nb, cb, xb, rfl, hv, hb⟩; have s := hb.alloc hb.size (.cells #[.bool bb, .slice Ab nb cb, .int .i64 xb] 25); have Xb := BD.new hv.dv; have Xa := Xa.below s; have D := Lib.hid (D.out.trans (s.mono D.out.size)); clear hv hb s)
            | (go_at_call 57; (with_reducible refine (VP.out _ D.out).mono ?_); rintro e w4 ⟨bc, Ac, nc, cc, xc, rfl, hv, hb⟩; have s := hb.alloc hb.size (.cells #[.bool bc, .slice Ac nc cc, .int .i64 xc] 25); have Xc := BD.new hv.dv; have Xa := Xa.below s; have Xb := Xb.below s; have D := Lib.hid (D.out.trans (s.mono D.out.size)); clear hv hb s)
            | (go_at_call 46; (with_reducible refine (LV.out _ D.out).mono ?_); rintro e w5 ⟨rfl, hb⟩; have Xa := Xa.below hb; have Xb := Xb.below hb; have Xc := Xc.below hb; have D := Lib.hid (D.out.trans (hb.mono D.out.size)); clear hb; obtain ⟨pa0, pa1, pa2⟩ := Xa.bx; obtain ⟨pb0, pb1, pb2⟩ := Xb.bx; obtain ⟨pc0, pc1, pc2⟩ := Xc.bx)
            | (go_at_call 31; (with_reducible refine (ML.out _ _ _ Xa.dv Xb.dv D.out).mono ?_); rintro e w6 ⟨bd, Ad, nd, cd, xd, rfl, hv, hb⟩; have s := hb.alloc hb.size (.cells #[.bool bd, .slice Ad nd cd, .int .i64 xd] 25); have Xd := BD.new hv.dv; have Xc := Xc.below s; have D := Lib.hid (D.out.trans (s.mono D.out.size)); clear hv hb s; obtain ⟨pc0, pc1, pc2⟩ := Xc.bx; obtain ⟨pd0, pd1, pd2⟩ := Xd.bx))
          go_ret
          exact ⟨rfl, D.out⟩
        · cases l
          · go_enter Tryd.func12, Tryd.ntmps12
            go_wp2_with (first
              | (go_at_call 45; (with_reducible refine (A1.out _ D.out).mono ?_); rintro e w1 ⟨rfl, hb⟩; have D := Lib.hid (D.out.trans (hb.mono D.out.size)); clear hb)
              | (go_at_call 57; (with_reducible refine (VX.out _ D.out).mono ?_); rintro e w2 ⟨ba, Aa, na, ca, xa, rfl, hv, hb⟩; have s := hb.alloc hb.size (.cells #[.bool ba, .slice Aa na ca, .int .i64 xa] 25); have Xa := BD.new hv.dv; have D := Lib.hid (D.out.trans (s.mono D.out.size)); clear hv hb s)
              | (go_at_call 57; (with_reducible refine (VY.out _ D.out).mono ?_); rintro e w3 ⟨bb, Ab, nb, cb, xb, rfl, hv, hb⟩; have s := hb.alloc hb.size (.cells #[.bool bb, .slice Ab nb cb, .int .i64 xb] 25); have Xb := BD.new hv.dv; have Xa := Xa.below s; have D := Lib.hid (D.out.trans (s.mono D.out.size)); clear hv hb s)
              | (go_at_call 57; (with_reducible refine (VP.out _ D.out).mono ?_); rintro e w4 ⟨bc, Ac, nc, cc, xc, rfl, hv, hb⟩; have s := hb.alloc hb.size (.cells #[.bool bc, .slice Ac nc cc, .int .i64 xc] 25); have Xc := BD.new hv.dv; have Xa := Xa.below s; have Xb := Xb.below s; have D := Lib.hid (D.out.trans (s.mono D.out.size)); clear hv hb s)
              | (go_at_call 46; (with_reducible refine (LV.out _ D.out).mono ?_); rintro e w5 ⟨rfl, hb⟩; have Xa := Xa.below hb; have Xb := Xb.below hb; have Xc := Xc.below hb; have D := Lib.hid (D.out.trans (hb.mono D.out.size)); clear hb; obtain ⟨pa0, pa1, pa2⟩ := Xa.bx; obtain ⟨pb0, pb1, pb2⟩ := Xb.bx; obtain ⟨pc0, pc1, pc2⟩ := Xc.bx)
              | (go_at_call 31; (with_reducible refine (ML.out _ _ _ Xa.dv Xb.dv D.out).mono ?_); rintro e w6 ⟨bd, Ad, nd, cd, xd, rfl, hv, hb⟩; have s := hb.alloc hb.size (.cells #[.bool bd, .slice Ad nd cd, .int .i64 xd] 25); have Xd := BD.new hv.dv; have Xc := Xc.below s; have D := Lib.hid (D.out.trans (s.mono D.out.size)); clear hv hb s; obtain ⟨pc0, pc1, pc2⟩ := Xc.bx; obtain ⟨pd0, pd1, pd2⟩ := Xd.bx)
              | (go_at_call 17; (with_reducible refine (SM.out _ _ _ Xc.dv Xd.dv D.out).mono ?_); rintro e w7 ⟨rfl, hb⟩; have D := Lib.hid (D.out.trans (hb.mono D.out.size)); clear hb))
            go_ret
            exact ⟨rfl, D.out⟩
          · go_enter Tryd.func12, Tryd.ntmps12
            go_wp2_with (first
              | (go_at_call 45; (with_reducible refine (A1.out _ D.out).mono ?_); rintro e w1 ⟨rfl, hb⟩; have D := Lib.hid (D.out.trans (hb.mono D.out.size)); clear hb)
              | (go_at_call 57; (with_reducible refine (VX.out _ D.out).mono ?_); rintro e w2 ⟨ba, Aa, na, ca, xa, rfl, hv, hb⟩; have s := hb.alloc hb.size (.cells #[.bool ba, .slice Aa na ca, .int .i64 xa] 25); have Xa := BD.new hv.dv; have D := Lib.hid (D.out.trans (s.mono D.out.size)); clear hv hb s)
              | (go_at_call 57; (with_reducible refine (VY.out _ D.out).mono ?_); rintro e w3 ⟨bb, Ab, nb, cb, xb, rfl, hv, hb⟩; have s := hb.alloc hb.size (.cells #[.bool bb, .slice Ab nb cb, .int .i64 xb] 25); have Xb := BD.new hv.dv; have Xa := Xa.below s; have D := Lib.hid (D.out.trans (s.mono D.out.size)); clear hv hb s)
              | (go_at_call 57; (with_reducible refine (VP.out _ D.out).mono ?_); rintro e w4 ⟨bc, Ac, nc, cc, xc, rfl, hv, hb⟩; have s := hb.alloc hb.size (.cells #[.bool bc, .slice Ac nc cc, .int .i64 xc] 25); have Xc := BD.new hv.dv; have Xa := Xa.below s; have Xb := Xb.below s; have D := Lib.hid (D.out.trans (s.mono D.out.size)); clear hv hb s)
              | (go_at_call 46; (with_reducible refine (LV.out _ D.out).mono ?_); rintro e w5 ⟨rfl, hb⟩; have Xa := Xa.below hb; have Xb := Xb.below hb; have Xc := Xc.below hb; have D := Lib.hid (D.out.trans (hb.mono D.out.size)); clear hb; obtain ⟨pa0, pa1, pa2⟩ := Xa.bx; obtain ⟨pb0, pb1, pb2⟩ := Xb.bx; obtain ⟨pc0, pc1, pc2⟩ := Xc.bx)
              | (go_at_call 31; (with_reducible refine (ML.out _ _ _ Xa.dv Xb.dv D.out).mono ?_); rintro e w6 ⟨bd, Ad, nd, cd, xd, rfl, hv, hb⟩; have s := hb.alloc hb.size (.cells #[.bool bd, .slice Ad nd cd, .int .i64 xd] 25); have Xd := BD.new hv.dv; have Xc := Xc.below s; have D := Lib.hid (D.out.trans (s.mono D.out.size)); clear hv hb s; obtain ⟨pc0, pc1, pc2⟩ := Xc.bx; obtain ⟨pd0, pd1, pd2⟩ := Xd.bx)
              | (go_at_call 17; (with_reducible refine (SM.out _ _ _ Xc.dv Xd.dv D.out).mono ?_); rintro e w7 ⟨rfl, hb⟩; have D := Lib.hid (D.out.trans (hb.mono D.out.size)); clear hb))
            go_ret
            exact ⟨rfl, D.out⟩
  · rw [MT_no hm] at A1 VP
    dsimp only at A1 VP
    generalize ((OfD 0).e == 0) = ep at VP
    generalize (OfD 0).d = dp at VP
    generalize ((OfD x).e == 0) = ex at VX
    generalize ((OfD y).e == 0) = ey at VY
    generalize (OfD x).d = d1 at VX
    generalize (OfD y).d = d2 at VY
    clear hT hx hy hm bp
    go_enter Tryd.func12, Tryd.ntmps12
    go_wp2_with (first
      | (go_at_call 45; (with_reducible refine (A1.out _ D.out).mono ?_); rintro e w1 ⟨rfl, hb⟩; have D := Lib.hid (D.out.trans (hb.mono D.out.size)); clear hb)
      | (go_at_call 57; (with_reducible refine (VX.out _ D.out).mono ?_); rintro e w2 ⟨ba, Aa, na, ca, xa, rfl, hv, hb⟩; have s := hb.alloc hb.size (.cells #[.bool ba, .slice Aa na ca, .int .i64 xa] 25); have Xa := BD.new hv.dv; have D := Lib.hid (D.out.trans (s.mono D.out.size)); clear hv hb s)
      | (go_at_call 57; (with_reducible refine (VY.out _ D.out).mono ?_); rintro e w3 ⟨bb, Ab, nb, cb, xb, rfl, hv, hb⟩; have s := hb.alloc hb.size (.cells #[.bool bb, .slice Ab nb cb, .int .i64 xb] 25); have Xb := BD.new hv.dv; have Xa := Xa.below s; have D := Lib.hid (D.out.trans (s.mono D.out.size)); clear hv hb s)
      | (go_at_call 57; (with_reducible refine (VP.out _ D.out).mono ?_); rintro e w4 ⟨bc, Ac, nc, cc, xc, rfl, hv, hb⟩; have s := hb.alloc hb.size (.cells #[.bool bc, .slice Ac nc cc, .int .i64 xc] 25); have Xc := BD.new hv.dv; have Xa := Xa.below s; have Xb := Xb.below s; have D := Lib.hid (D.out.trans (s.mono D.out.size)); clear hv hb s)
      | (go_at_call 46; (with_reducible refine (LV.out _ D.out).mono ?_); rintro e w5 ⟨rfl, hb⟩; have Xa := Xa.below hb; have Xb := Xb.below hb; have Xc := Xc.below hb; have D := Lib.hid (D.out.trans (hb.mono D.out.size)); clear hb; obtain ⟨pa0, pa1, pa2⟩ := Xa.bx; obtain ⟨pb0, pb1, pb2⟩ := Xb.bx; obtain ⟨pc0, pc1, pc2⟩ := Xc.bx))
    go_ret
    exact ⟨rfl, D.out⟩
end PC
end Go.Proofs.YtjplemfdhhkbaaaDoor

/-
  ProdFused: the walk.
-/
namespace Go.Proofs.YtjplemfdhhkbaaaDoor
set_option linter.unusedVariables false
set_option linter.unusedSimpArgs false
open Go.RowKit
set_option linter.unusedVariables false
set_option linter.unusedSimpArgs false
namespace PC
open L NC NK DC RC SC
/-- Ulp of whatever number -/
theorem Ulp_g {x : Int} (hx : 0 ≤ x ∧ x ≤ 18446744073709551615) : ∃ u e : Int, (∀ W : World, Calls Tryd.prog 52 #[.int .u64 x] W fun e' w' => e' = .returned (.tuple #[.int .i64 u, .int .i64 e]) ∧ W = w') ∧ (e = 0 → fi x ∧ u = F.ulp x) ∧ -1074 ≤ u ∧ u ≤ 971 := by
  by_cases h : F.exq x = 2047
  · exact ⟨0, 4, fun W => FloatC.Ulp_no x hx.1 hx.2 h W, (fun h => by cases h), by omega, by omega⟩
  · have f : fi x := ⟨hx.1, hx.2, h⟩
    have := F.exq_bd x
    have b := ulp_bd f
    exact ⟨F.ulp x, 0, fun W => FloatC.Ulp_ok x hx.1 hx.2 (by omega) W, fun _ => ⟨f, rfl⟩, b.1, b.2⟩
set_option maxRecDepth 100000 in
set_option maxHeartbeats 8000000 in
theorem fusedP_c (x y z mode : Int) (w : World) (hx : 0 ≤ x ∧ x ≤ 18446744073709551615) (hy : 0 ≤ y ∧ y ≤ 18446744073709551615) (hz : 0 ≤ z ∧ z ≤ 18446744073709551615) (hT : TabD w) :
    Calls Tryd.prog 8 #[.int .u64 x, .int .u64 y, .int .u64 z, .int .i64 mode] w fun e w' => e = .returned (.bool true) ∧ Below w.heap.size w w' := by
  have HT : Hid (∀ W : World, Below w.heap.size w W → TabD W) := fun W hW => hT.below hW
  have LV : Hid (∀ W : World, Below w.heap.size w W → Calls Tryd.prog 46 #[] W fun e w' => e = .returned (.bool true) ∧ Below W.heap.size W w') := fun W hW => livesP_c W (HT.out W hW)
  have D := Lib.hid (Below.refl w.heap.size w)
  have A1 : Hid (∀ W : World, Below w.heap.size w W → Calls Tryd.prog 50 #[.int .u64 x, .int .u64 4607182418800017408, .int .u64 z, .int .i64 mode] W (DC.RetB W (ATv (AT [x, z] mode)))) := fun W hW => by
    have := Fma_c x 4607182418800017408 z mode W hx (by omega) hz (HT.out W hW)
    rwa [fused_one hx hz rfl] at this
  have A2 : Hid (∀ W : World, Below w.heap.size w W → Calls Tryd.prog 51 #[.int .u64 x, .int .u64 z, .int .i64 mode] W (DC.RetB W (ATv (AT [x, z] mode)))) := fun W hW => Add_c x z mode W hx hz (HT.out W hW)
  have B1 : Hid (∀ W : World, Below w.heap.size w W → Calls Tryd.prog 45 #[.int .u64 x, .int .u64 y, .int .i64 mode] W (DC.RetB W (ATv (MT x y mode)))) := fun W hW => Mul_c x y mode W hx hy (HT.out W hW)
  have B2 : Hid (∀ W : World, Below w.heap.size w W → Calls Tryd.prog 50 #[.int .u64 x, .int .u64 y, .int .u64 0, .int .i64 mode] W (DC.RetB W (ATv (FT x y 0 mode)))) := fun W hW => Fma_c x y 0 mode W hx hy (by omega) (HT.out W hW)
  generalize AT [x, z] mode = t at *
  obtain ⟨c1, c2, c3⟩ := t
  have t1 : (c1 != c1) = false := by simp
  have t2 : (c2 != c2) = false := by simp
  have t3 : (c3 != c3) = false := by simp
  by_cases hm : 0 ≤ mode ∧ mode ≤ 4
  · obtain ⟨n, q, b, hF, hM, hc⟩ := fused_zero hm hx hy
    have bq := MT_bd mode hx hy
    have RP : ∀ (_ : fi x) (_ : fi y), -1074 ≤ F.ulp x + F.ulp y → F.abs q < 9218868437227405311 → ∃ a, FT x y (F.neg q) mode = (a, false, 0) := fun f g h1 h2 => by
      have := rest_p hm f g h1 (by rw [hM]; exact h2)
      rwa [hM] at this
    have B3 : Hid (∀ W : World, Below w.heap.size w W → Calls Tryd.prog 50 #[.int .u64 x, .int .u64 y, .int .u64 (F.neg q), .int .i64 mode] W (DC.RetB W (ATv (FT x y (F.neg q) mode)))) := fun W hW => by
      rw [hM] at bq
      have := F.neg_bd q bq.1 bq.2
      exact Fma_c x y (F.neg q) mode W hx hy this (HT.out W hW)
    rw [hM] at B1 bq
    rw [hF] at B2
    dsimp only at bq
    have bn : 0 ≤ n ∧ n ≤ 18446744073709551615 := by
      rcases hc with rfl | ⟨h1, h2⟩
      · exact bq
      · have := (FT_bd (z := 0) mode hx hy (by omega)); rw [hF] at this; exact this
    have CN : Hid (∀ W : World, Calls Tryd.prog 48 #[.int .u64 n] W fun e w' => e = .returned (.int .i64 (F.cls n)) ∧ W = w') := fun W => FloatC.Class_c n bn.1 bn.2 W
    have CQ : Hid (∀ W : World, Calls Tryd.prog 48 #[.int .u64 q] W fun e w' => e = .returned (.int .i64 (F.cls q)) ∧ W = w') := fun W => FloatC.Class_c q bq.1 bq.2 W
    have AQ : Hid (∀ W : World, Calls Tryd.prog 53 #[.int .u64 q] W fun e w' => e = .returned (.int .u64 (F.abs q)) ∧ W = w') := fun W => FloatC.Abs_c q bq.1 bq.2 W
    have NQ : Hid (∀ W : World, Calls Tryd.prog 47 #[.int .u64 q] W fun e w' => e = .returned (.int .u64 (F.neg q)) ∧ W = w') := fun W => FloatC.Neg_c q bq.1 bq.2 W
    have aq := F.abs_bd q
    obtain ⟨u, eu, Ux, fu, u0, u1⟩ := Ulp_g hx
    obtain ⟨v, ev, Uy, fv, v0, v1⟩ := Ulp_g hy
    have Ux := Lib.hid Ux
    have Uy := Lib.hid Uy
    have P : eu = 0 → ev = 0 → -1074 ≤ u + v → F.abs q < 9218868437227405311 → ∃ a, FT x y (F.neg q) mode = (a, false, 0) := fun h1 h2 h3 h4 => by
      obtain ⟨f, rfl⟩ := fu h1
      obtain ⟨g, rfl⟩ := fv h2
      exact RP f g h3 h4
    unfold ATv at A1 A2 B1 B2 B3
    dsimp only at A1 A2 B1 B2
    have tb : (b != b) = false := by simp
    have kc : (n != q) = false ∨ ((n != q) = true ∧ F.cls n = 1 ∧ F.cls q = 1) := by
      rcases hc with rfl | h
      · left; simp
      · by_cases h2 : n = q
        · left; simp [h2]
        · right; exact ⟨by simp [h2], h⟩
    have O3 : Hid (∀ W : World, Calls Tryd.prog 49 #[.slice (some ⟨W.heap.size, 0, none⟩) 3 3] (W.alloc (.cells #[.int .i64 0, .int .i64 0, .int .i64 0] 26)) fun e w' => e = .returned (.bool true) ∧ W.alloc (.cells #[.int .i64 0, .int .i64 0, .int .i64 0] 26) = w') := fun W => okn W [0, 0, 0] true (by simp) rfl
    obtain ⟨o, ho⟩ : ∃ o, [eu, ev].all (· == 0) = o := ⟨_, rfl⟩
    have O2 : Hid (∀ W : World, Calls Tryd.prog 49 #[.slice (some ⟨W.heap.size, 0, none⟩) 2 2] (W.alloc (.cells #[.int .i64 eu, .int .i64 ev] 26)) fun e w' => e = .returned (.bool o) ∧ W.alloc (.cells #[.int .i64 eu, .int .i64 ev] 26) = w') := fun W => okn W [eu, ev] o (by simp) ho
    have P' : o = true → -1074 ≤ u + v → F.abs q < 9218868437227405311 → ∃ a, FT x y (F.neg q) mode = (a, false, 0) := fun h => by
      subst h
      obtain ⟨h1, h2⟩ := all2o ho
      exact P h1 h2
    clear P RP fu fv hF hM hc hm hT hx hy hz bq bn ho
    generalize FT x y (F.neg q) mode = ft at *
    obtain ⟨f1, f2, f3⟩ := ft
    dsimp only at B3
    generalize F.cls n = cn at *
    generalize F.cls q = cq at *
    generalize F.abs q = ab at *
    generalize F.neg q = nq at *
    have kk : o = false ∨ (o = true ∧ u + v < -1074) ∨ (o = true ∧ ¬ u + v < -1074 ∧ ab ≥ 9218868437227405311) ∨ (o = true ∧ ¬ u + v < -1074 ∧ ¬ ab ≥ 9218868437227405311 ∧ f2 = false ∧ f3 = 0) := by
      cases o
      · exact .inl rfl
      · right
        by_cases h1 : u + v < -1074
        · exact .inl ⟨rfl, h1⟩
        · right
          by_cases h2 : ab ≥ 9218868437227405311
          · exact .inl ⟨rfl, h1, h2⟩
          · right
            obtain ⟨a, ha⟩ := P' rfl (by omega) (by omega)
            simp at ha
            exact ⟨rfl, h1, h2, ha.2.1, ha.2.2⟩
    clear P'
    rcases kc with k1 | ⟨k1, rfl, rfl⟩
    all_goals (
      rcases kk with rfl | ⟨rfl, k2⟩ | ⟨rfl, k2, k3⟩ | ⟨rfl, k2, k3, rfl, rfl⟩
      all_goals (
        go_enter Tryd.func8, Tryd.ntmps8
        go_wp2_with (first
          | (go_at_call 50; (with_reducible refine (A1.out _ D.out).mono ?_); rintro e w1 ⟨rfl, hb⟩; have D := Lib.hid (D.out.trans (hb.mono D.out.size)); clear hb)
          | (go_at_call 51; (with_reducible refine (A2.out _ D.out).mono ?_); rintro e w2 ⟨rfl, hb⟩; have D := Lib.hid (D.out.trans (hb.mono D.out.size)); clear hb)
          | (go_at_call 46; (with_reducible refine (LV.out _ D.out).mono ?_); rintro e w3 ⟨rfl, hb⟩; have D := Lib.hid (D.out.trans (hb.mono D.out.size)); clear hb)
          | (go_at_call 45; (with_reducible refine (B1.out _ D.out).mono ?_); rintro e w4 ⟨rfl, hb⟩; have D := Lib.hid (D.out.trans (hb.mono D.out.size)); clear hb)
          | (go_at_call 50; (with_reducible refine (B2.out _ D.out).mono ?_); rintro e w5 ⟨rfl, hb⟩; have D := Lib.hid (D.out.trans (hb.mono D.out.size)); clear hb)
          | (go_at_call 49; (with_reducible refine (O3.out w4).mono ?_); rintro e w6 ⟨rfl, hw⟩; have s := al1 w4 (.cells #[.int .i64 0, .int .i64 0, .int .i64 0] 26); rw [hw] at s; clear hw; have D := Lib.hid (D.out.trans (s.mono D.out.size)); clear s)
          | (go_at_call 48; (with_reducible refine (CN.out _).mono ?_); rintro e w7 ⟨rfl, rfl⟩)
          | (go_at_call 48; (with_reducible refine (CQ.out _).mono ?_); rintro e w8 ⟨rfl, rfl⟩)
          | (go_at_call 52; (with_reducible refine (Ux.out _).mono ?_); rintro e w9 ⟨rfl, rfl⟩)
          | (go_at_call 52; (with_reducible refine (Uy.out _).mono ?_); rintro e w10 ⟨rfl, rfl⟩)
          | (go_at_call 49; (with_reducible refine (O2.out w6).mono ?_); rintro e w11 ⟨rfl, hw⟩; have s := al1 w6 (.cells #[.int .i64 eu, .int .i64 ev] 26); rw [hw] at s; clear hw; have D := Lib.hid (D.out.trans (s.mono D.out.size)); clear s)
          | (go_at_call 53; (with_reducible refine (AQ.out _).mono ?_); rintro e w12 ⟨rfl, rfl⟩)
          | (go_at_call 47; (with_reducible refine (NQ.out _).mono ?_); rintro e w13 ⟨rfl, rfl⟩)
          | (go_at_call 50; (with_reducible refine (B3.out _ D.out).mono ?_); rintro e w14 ⟨rfl, hb⟩; have D := Lib.hid (D.out.trans (hb.mono D.out.size)); clear hb))
        go_ret
        exact ⟨rfl, D.out⟩))
  · rw [MT_no hm] at B1
    rw [FT_no hm] at B2
    have O3 : Hid (∀ W : World, Calls Tryd.prog 49 #[.slice (some ⟨W.heap.size, 0, none⟩) 3 3] (W.alloc (.cells #[.int .i64 1, .int .i64 1, .int .i64 1] 26)) fun e w' => e = .returned (.bool false) ∧ W.alloc (.cells #[.int .i64 1, .int .i64 1, .int .i64 1] 26) = w') := fun W => okn W [1, 1, 1] false (by simp) rfl
    have O1 : Hid (∀ W : World, Calls Tryd.prog 49 #[.slice (some ⟨W.heap.size, 0, none⟩) 1 1] (W.alloc (.cells #[.int .i64 1] 26)) fun e w' => e = .returned (.bool false) ∧ W.alloc (.cells #[.int .i64 1] 26) = w') := fun W => okn W [1] false (by simp) rfl
    unfold ATv at A1 A2 B1 B2
    dsimp only at A1 A2 B1 B2
    clear hm hT hx hy hz
    go_enter Tryd.func8, Tryd.ntmps8
    go_wp2_with (first
      | (go_at_call 50; (with_reducible refine (A1.out _ D.out).mono ?_); rintro e w1 ⟨rfl, hb⟩; have D := Lib.hid (D.out.trans (hb.mono D.out.size)); clear hb)
      | (go_at_call 51; (with_reducible refine (A2.out _ D.out).mono ?_); rintro e w2 ⟨rfl, hb⟩; have D := Lib.hid (D.out.trans (hb.mono D.out.size)); clear hb)
      | (go_at_call 46; (with_reducible refine (LV.out _ D.out).mono ?_); rintro e w3 ⟨rfl, hb⟩; have D := Lib.hid (D.out.trans (hb.mono D.out.size)); clear hb)
      | (go_at_call 45; (with_reducible refine (B1.out _ D.out).mono ?_); rintro e w4 ⟨rfl, hb⟩; have D := Lib.hid (D.out.trans (hb.mono D.out.size)); clear hb)
      | (go_at_call 50; (with_reducible refine (B2.out _ D.out).mono ?_); rintro e w5 ⟨rfl, hb⟩; have D := Lib.hid (D.out.trans (hb.mono D.out.size)); clear hb)
      | (go_at_call 49; (with_reducible refine (O3.out w4).mono ?_); rintro e w6 ⟨rfl, hw⟩; have s := al1 w4 (.cells #[.int .i64 1, .int .i64 1, .int .i64 1] 26); rw [hw] at s; clear hw; have D := Lib.hid (D.out.trans (s.mono D.out.size)); clear s)
      | (go_at_call 49; (with_reducible refine (O1.out w6).mono ?_); rintro e w7 ⟨rfl, hw⟩; have s := al1 w6 (.cells #[.int .i64 1] 26); rw [hw] at s; clear hw; have D := Lib.hid (D.out.trans (s.mono D.out.size)); clear s)
      | (go_at_call 49; (with_reducible refine (O1.out w7).mono ?_); rintro e w8 ⟨rfl, hw⟩; have s := al1 w7 (.cells #[.int .i64 1] 26); rw [hw] at s; clear hw; have D := Lib.hid (D.out.trans (s.mono D.out.size)); clear s))
    go_ret
    exact ⟨rfl, D.out⟩
end PC
end Go.Proofs.YtjplemfdhhkbaaaDoor

/-
  ProdPowers: the walk.
-/
namespace Go.Proofs.YtjplemfdhhkbaaaDoor
set_option linter.unusedVariables false
set_option linter.unusedSimpArgs false
open Go.RowKit
set_option linter.unusedVariables false
set_option linter.unusedSimpArgs false
namespace PC
open L NC NK DC RC SC
set_option maxRecDepth 100000 in
set_option maxHeartbeats 8000000 in
theorem powersP_c (x k mode : Int) (w : World) (hx : 0 ≤ x ∧ x ≤ 18446744073709551615) (hk : -9223372036854775808 ≤ k ∧ k ≤ 9223372036854775807) (hT : TabD w) :
    Calls Tryd.prog 10 #[.int .u64 x, .int .i64 k, .int .i64 mode] w fun e w' => e = .returned (.bool true) ∧ Below w.heap.size w w' := by
  have HT : Hid (∀ W : World, Below w.heap.size w W → TabD W) := fun W hW => hT.below hW
  have LV : Hid (∀ W : World, Below w.heap.size w W → Calls Tryd.prog 46 #[] W fun e w' => e = .returned (.bool true) ∧ Below W.heap.size W w') := fun W hW => livesP_c W (HT.out W hW)
  have D := Lib.hid (Below.refl w.heap.size w)
  have CX : Hid (∀ W : World, Calls Tryd.prog 48 #[.int .u64 x] W fun e w' => e = .returned (.int .i64 (F.cls x)) ∧ W = w') := fun W => FloatC.Class_c x hx.1 hx.2 W
  have PX : Hid (∀ W : World, Calls Tryd.prog 55 #[.int .u64 x] W fun e w' => e = .returned (.tuple #[.bool (F.sgn x), .int .i64 (F.exq x), .int .u64 (F.fra x)]) ∧ W = w') := fun W => FloatC.Parts_c x hx.1 hx.2 W
  by_cases hc : F.cls x = 3
  · by_cases k1 : k < -1022
    · rw [hc] at CX
      clear hT hx hc
      go_enter Tryd.func10, Tryd.ntmps10
      go_wp2_with (first
        | (go_at_call 46; (with_reducible refine (LV.out _ D.out).mono ?_); rintro e w1 ⟨rfl, hb⟩; have D := Lib.hid (D.out.trans (hb.mono D.out.size)); clear hb)
        | (go_at_call 48; (with_reducible refine (CX.out _).mono ?_); rintro e w2 ⟨rfl, rfl⟩)
        | (go_at_call 55; (with_reducible refine (PX.out _).mono ?_); rintro e w3 ⟨rfl, rfl⟩))
      go_ret
      exact ⟨rfl, D.out⟩
    · by_cases k2 : k > 1023
      · rw [hc] at CX
        clear hT hx hc
        go_enter Tryd.func10, Tryd.ntmps10
        go_wp2_with (first
          | (go_at_call 46; (with_reducible refine (LV.out _ D.out).mono ?_); rintro e w1 ⟨rfl, hb⟩; have D := Lib.hid (D.out.trans (hb.mono D.out.size)); clear hb)
          | (go_at_call 48; (with_reducible refine (CX.out _).mono ?_); rintro e w2 ⟨rfl, rfl⟩)
          | (go_at_call 55; (with_reducible refine (PX.out _).mono ?_); rintro e w3 ⟨rfl, rfl⟩))
        go_ret
        exact ⟨rfl, D.out⟩
      · by_cases m1 : mode < 0
        · rw [hc] at CX
          clear hT hx hc
          go_enter Tryd.func10, Tryd.ntmps10
          go_wp2_with (first
            | (go_at_call 46; (with_reducible refine (LV.out _ D.out).mono ?_); rintro e w1 ⟨rfl, hb⟩; have D := Lib.hid (D.out.trans (hb.mono D.out.size)); clear hb)
            | (go_at_call 48; (with_reducible refine (CX.out _).mono ?_); rintro e w2 ⟨rfl, rfl⟩)
            | (go_at_call 55; (with_reducible refine (PX.out _).mono ?_); rintro e w3 ⟨rfl, rfl⟩))
          go_ret
          exact ⟨rfl, D.out⟩
        · by_cases m2 : mode > 4
          · rw [hc] at CX
            clear hT hx hc
            go_enter Tryd.func10, Tryd.ntmps10
            go_wp2_with (first
              | (go_at_call 46; (with_reducible refine (LV.out _ D.out).mono ?_); rintro e w1 ⟨rfl, hb⟩; have D := Lib.hid (D.out.trans (hb.mono D.out.size)); clear hb)
              | (go_at_call 48; (with_reducible refine (CX.out _).mono ?_); rintro e w2 ⟨rfl, rfl⟩)
              | (go_at_call 55; (with_reducible refine (PX.out _).mono ?_); rintro e w3 ⟨rfl, rfl⟩))
            go_ret
            exact ⟨rfl, D.out⟩
          · have hq := F.exq_bd x
            have hf := F.fra_bd x
            by_cases q1 : F.exq x + k < 1
            · rw [hc] at CX
              generalize F.sgn x = s at *
              generalize F.fra x = f at *
              generalize F.exq x = q at *
              clear hT hx hc
              go_enter Tryd.func10, Tryd.ntmps10
              go_wp2_with (first
                | (go_at_call 46; (with_reducible refine (LV.out _ D.out).mono ?_); rintro e w1 ⟨rfl, hb⟩; have D := Lib.hid (D.out.trans (hb.mono D.out.size)); clear hb)
                | (go_at_call 48; (with_reducible refine (CX.out _).mono ?_); rintro e w2 ⟨rfl, rfl⟩)
                | (go_at_call 55; (with_reducible refine (PX.out _).mono ?_); rintro e w3 ⟨rfl, rfl⟩))
              go_ret
              exact ⟨rfl, D.out⟩
            · by_cases q2 : F.exq x + k > 2046
              · rw [hc] at CX
                generalize F.sgn x = s at *
                generalize F.fra x = f at *
                generalize F.exq x = q at *
                clear hT hx hc
                go_enter Tryd.func10, Tryd.ntmps10
                go_wp2_with (first
                  | (go_at_call 46; (with_reducible refine (LV.out _ D.out).mono ?_); rintro e w1 ⟨rfl, hb⟩; have D := Lib.hid (D.out.trans (hb.mono D.out.size)); clear hb)
                  | (go_at_call 48; (with_reducible refine (CX.out _).mono ?_); rintro e w2 ⟨rfl, rfl⟩)
                  | (go_at_call 55; (with_reducible refine (PX.out _).mono ?_); rintro e w3 ⟨rfl, rfl⟩))
                go_ret
                exact ⟨rfl, D.out⟩
              · have hp := pow_val (p := (1023 + k) * 4503599627370496) (k := k) (by omega) (by omega) rfl
                have M1 : Hid (∀ W : World, Calls Tryd.prog 56 #[.bool false, .int .i64 (1023 + k), .int .u64 0] W fun e w' => e = .returned (.tuple #[.int .u64 ((1023 + k) * 4503599627370496), .int .i64 0]) ∧ W = w') := fun W => by
                  have := FloatC.Make_ok false (1023 + k) 0 (by omega) (by omega) (by omega) (by omega) W
                  have e : F.mk false (1023 + k) 0 = (1023 + k) * 4503599627370496 := by unfold F.mk; simp
                  rwa [e] at this
                have M2 : Hid (∀ W : World, Calls Tryd.prog 56 #[.bool (F.sgn x), .int .i64 (F.exq x + k), .int .u64 (F.fra x)] W fun e w' => e = .returned (.tuple #[.int .u64 (F.mk (F.sgn x) (F.exq x + k) (F.fra x)), .int .i64 0]) ∧ W = w') := fun W => FloatC.Make_ok _ _ _ (by omega) (by omega) hf.1 hf.2 W
                have AM : Hid (∀ W : World, Below w.heap.size w W → Calls Tryd.prog 45 #[.int .u64 x, .int .u64 ((1023 + k) * 4503599627370496), .int .i64 mode] W (DC.RetB W (ATv (F.mk (F.sgn x) (F.exq x + k) (F.fra x), false, 0)))) := fun W hW => by
                  have := Mul_c x ((1023 + k) * 4503599627370496) mode W hx ⟨hp.1.1, hp.1.2.1⟩ (HT.out W hW)
                  rwa [powers_p (k := k) (by omega) hx hc (by omega) (by omega) (by omega) (by omega) rfl rfl] at this
                unfold ATv at AM
                dsimp only at AM
                rw [hc] at CX
                have tw : (F.mk (F.sgn x) (F.exq x + k) (F.fra x) == F.mk (F.sgn x) (F.exq x + k) (F.fra x)) = true := by simp
                clear hp
                generalize F.mk (F.sgn x) (F.exq x + k) (F.fra x) = wt at *
                generalize F.sgn x = s at *
                generalize F.fra x = f at *
                generalize F.exq x = q at *
                have O3 : Hid (∀ W : World, Calls Tryd.prog 49 #[.slice (some ⟨W.heap.size, 0, none⟩) 3 3] (W.alloc (.cells #[.int .i64 0, .int .i64 0, .int .i64 0] 26)) fun e w' => e = .returned (.bool true) ∧ W.alloc (.cells #[.int .i64 0, .int .i64 0, .int .i64 0] 26) = w') := fun W => okn W [0, 0, 0] true (by simp) rfl
                clear hT hx hc
                go_enter Tryd.func10, Tryd.ntmps10
                go_wp2_with (first
                  | (go_at_call 46; (with_reducible refine (LV.out _ D.out).mono ?_); rintro e w1 ⟨rfl, hb⟩; have D := Lib.hid (D.out.trans (hb.mono D.out.size)); clear hb)
                  | (go_at_call 48; (with_reducible refine (CX.out _).mono ?_); rintro e w2 ⟨rfl, rfl⟩)
                  | (go_at_call 55; (with_reducible refine (PX.out _).mono ?_); rintro e w3 ⟨rfl, rfl⟩)
                  | (go_at_call 56; (with_reducible refine (M1.out _).mono ?_); rintro e w4 ⟨rfl, rfl⟩)
                  | (go_at_call 56; (with_reducible refine (M2.out _).mono ?_); rintro e w5 ⟨rfl, rfl⟩)
                  | (go_at_call 45; (with_reducible refine (AM.out _ D.out).mono ?_); rintro e w6 ⟨rfl, hb⟩; have D := Lib.hid (D.out.trans (hb.mono D.out.size)); clear hb)
                  | (go_at_call 49; (with_reducible refine (O3.out w6).mono ?_); rintro e w7 ⟨rfl, hw⟩; have s := al1 w6 (.cells #[.int .i64 0, .int .i64 0, .int .i64 0] 26); rw [hw] at s; clear hw; have D := Lib.hid (D.out.trans (s.mono D.out.size)); clear s))
                go_ret
                exact ⟨rfl, D.out⟩
  · have tc : (F.cls x != 3) = true := by simp [hc]
    generalize F.cls x = cx at *
    clear hT hx hc
    go_enter Tryd.func10, Tryd.ntmps10
    go_wp2_with (first
      | (go_at_call 46; (with_reducible refine (LV.out _ D.out).mono ?_); rintro e w1 ⟨rfl, hb⟩; have D := Lib.hid (D.out.trans (hb.mono D.out.size)); clear hb)
      | (go_at_call 48; (with_reducible refine (CX.out _).mono ?_); rintro e w2 ⟨rfl, rfl⟩)
      | (go_at_call 55; (with_reducible refine (PX.out _).mono ?_); rintro e w3 ⟨rfl, rfl⟩))
    go_ret
    exact ⟨rfl, D.out⟩
end PC
end Go.Proofs.YtjplemfdhhkbaaaDoor

