/-
  QuotSelf, QuotNever: the walks.
-/
import Derived.Test.YtpmjeipdldnnbaaDoorH7
import Derived.Test.YtpmjeipdldnnbaaDoorH8
namespace Go.Proofs.YtpmjeipdldnnbaaDoor
set_option linter.unusedVariables false
set_option linter.unusedSimpArgs false
open Go.RowKit
set_option linter.unusedVariables false
set_option linter.unusedSimpArgs false
namespace JC
open L NC NK DC RC SC PC
set_option maxRecDepth 100000 in
set_option maxHeartbeats 8000000 in
theorem self_c (x y mode : Int) (w : World) (hx : 0 ≤ x ∧ x ≤ 18446744073709551615) (hy : 0 ≤ y ∧ y ≤ 18446744073709551615) (hT : TabD w) :
    Calls Tryd.prog 4 #[.int .u64 x, .int .u64 y, .int .i64 mode] w fun e w' => e = .returned (.bool true) ∧ Below w.heap.size w w' := by
  have HT : Hid (∀ W : World, Below w.heap.size w W → TabD W) := fun W hW => hT.below hW
  have LV : Hid (∀ W : World, Below w.heap.size w W → Calls Tryd.prog 12 #[] W fun e w' => e = .returned (.bool true) ∧ Below W.heap.size W w') := fun W hW => livesJ_c W (HT.out W hW)
  have D := Lib.hid (Below.refl w.heap.size w)
  have A1 : Hid (∀ W : World, Below w.heap.size w W → Calls Tryd.prog 11 #[.int .u64 x, .int .u64 x, .int .i64 mode] W (DC.RetB W (ATv (DT x x mode)))) := fun W hW => Div_c x x mode W hx hx (HT.out W hW)
  have A2 : Hid (∀ W : World, Below w.heap.size w W → Calls Tryd.prog 11 #[.int .u64 x, .int .u64 4607182418800017408, .int .i64 mode] W (DC.RetB W (ATv (DT x 4607182418800017408 mode)))) := fun W hW => Div_c x 4607182418800017408 mode W hx (by omega) (HT.out W hW)
  by_cases hm : 0 ≤ mode ∧ mode ≤ 4
  · obtain ⟨q, l, g, hM, hN, hc⟩ := div_turn hm hx hy
    have hO := DT_one (O := 4607182418800017408) hm hx rfl
    have hS := fun h => DT_self (x := x) hm hx h
    have e1 : (DT x x mode).2.2 = 0 := DT_e hm
    have bq := DT_bd mode hx hy
    have hn := F.neg_bd x hx.1 hx.2
    rw [hM] at bq
    rw [hO] at A2
    dsimp only at bq
    have A3 : Hid (∀ W : World, Below w.heap.size w W → Calls Tryd.prog 11 #[.int .u64 x, .int .u64 y, .int .i64 mode] W (DC.RetB W (ATv (q, l, 0)))) := fun W hW => by
      have := Div_c x y mode W hx hy (HT.out W hW)
      rwa [hM] at this
    have S1 : Hid (∀ W : World, Below w.heap.size w W → Calls Tryd.prog 11 #[.int .u64 (F.neg x), .int .u64 y, .int .i64 (tm mode)] W (DC.RetB W (ATv (g, l, 0)))) := fun W hW => by
      have := Div_c (F.neg x) y (tm mode) W hn hy (HT.out W hW)
      rwa [hN] at this
    have NX : Hid (∀ W : World, Calls Tryd.prog 14 #[.int .u64 x] W fun e w' => e = .returned (.int .u64 (F.neg x)) ∧ W = w') := fun W => FloatC.Neg_c x hx.1 hx.2 W
    have NA : Hid (∀ W : World, Calls Tryd.prog 14 #[.int .u64 q] W fun e w' => e = .returned (.int .u64 (F.neg q)) ∧ W = w') := fun W => FloatC.Neg_c q bq.1 bq.2 W
    have CA : Hid (∀ W : World, Calls Tryd.prog 13 #[.int .u64 q] W fun e w' => e = .returned (.int .i64 (F.cls q)) ∧ W = w') := fun W => FloatC.Class_c q bq.1 bq.2 W
    have CX : Hid (∀ W : World, Calls Tryd.prog 13 #[.int .u64 x] W fun e w' => e = .returned (.int .i64 (F.cls x)) ∧ W = w') := fun W => FloatC.Class_c x hx.1 hx.2 W
    unfold ATv at A1 A2 A3 S1
    dsimp only at A1 A2 A3 S1
    have om := other_tm hm
    have tq : (q != q) = false := by simp
    have tl : (l == l) = true := by simp
    have tx : (x != x) = false := by simp
    have bx := F.cls_bd x
    have kx : F.cls x = 1 ∨ F.cls x = 2 ∨ F.cls x = 3 ∨ F.cls x = 4 ∨ F.cls x = 5 := by omega
    have kc : (F.cls q = 5 ∧ g = 9221120237041090560 ∧ ((9221120237041090560 : Int) == F.neg q) = true) ∨ (F.cls q = 5 ∧ g = 9221120237041090560 ∧ ((9221120237041090560 : Int) == F.neg q) = false) ∨ ((F.cls q == 5) = false ∧ g = F.neg q) := by
      rcases hc with h | h
      · cases k : ((9221120237041090560 : Int) == F.neg q)
        · exact .inr (.inl ⟨h.1, h.2, rfl⟩)
        · exact .inl ⟨h.1, h.2, rfl⟩
      · exact .inr (.inr ⟨by simpa using h.1, h.2⟩)
    have tn : (F.neg q == F.neg q) = true := by simp
    clear hM hN hO hc hm hT hx hy bq hn bx
    generalize hdt : DT x x mode = dt at *
    obtain ⟨a, b, e⟩ := dt
    dsimp only at A1 e1 hS
    subst e1
    clear hdt
    generalize tm mode = mo at *
    generalize F.cls q = cq at *
    generalize F.neg q = nq at *
    generalize F.neg x = nx at *
    generalize F.cls x = cx at *
    have O2 : Hid (∀ W : World, Calls Tryd.prog 15 #[.slice (some ⟨W.heap.size, 0, none⟩) 2 2] (W.alloc (.cells #[.int .i64 0, .int .i64 0] 25)) fun e w' => e = .returned (.bool true) ∧ W.alloc (.cells #[.int .i64 0, .int .i64 0] 25) = w') := fun W => okn W [0, 0] true (by simp) rfl
    rcases kx with rfl | rfl | rfl | rfl | rfl
    · rw [if_neg (by omega)] at A2
      clear hS
      rcases kc with ⟨rfl, rfl, k2⟩ | ⟨rfl, rfl, k2⟩ | ⟨k2, rfl⟩
      all_goals (
        rcases om with ⟨rfl, rfl⟩ | ⟨rfl, rfl⟩ | ⟨m1, m2, rfl⟩
        all_goals (
          go_enter Tryd.func4, Tryd.ntmps4
          go_wp2_with (first
            | (go_at_call 11; (with_reducible refine (A1.out _ D.out).mono ?_); rintro e w1 ⟨rfl, hb⟩; have D := Lib.hid (D.out.trans (hb.mono D.out.size)); clear hb)
            | (go_at_call 11; (with_reducible refine (A2.out _ D.out).mono ?_); rintro e w2 ⟨rfl, hb⟩; have D := Lib.hid (D.out.trans (hb.mono D.out.size)); clear hb)
            | (go_at_call 12; (with_reducible refine (LV.out _ D.out).mono ?_); rintro e w3 ⟨rfl, hb⟩; have D := Lib.hid (D.out.trans (hb.mono D.out.size)); clear hb)
            | (go_at_call 11; (with_reducible refine (A3.out _ D.out).mono ?_); rintro e w4 ⟨rfl, hb⟩; have D := Lib.hid (D.out.trans (hb.mono D.out.size)); clear hb)
            | (go_at_call 11; (with_reducible refine (S1.out _ D.out).mono ?_); rintro e w5 ⟨rfl, hb⟩; have D := Lib.hid (D.out.trans (hb.mono D.out.size)); clear hb)
            | (go_at_call 15; (with_reducible refine (O2.out w5).mono ?_); rintro e w6 ⟨rfl, hw⟩; have s := al1 w5 (.cells #[.int .i64 0, .int .i64 0] 25); rw [hw] at s; clear hw; have D := Lib.hid (D.out.trans (s.mono D.out.size)); clear s)
            | (go_at_call 14; (with_reducible refine (NX.out _).mono ?_); rintro e w7 ⟨rfl, rfl⟩)
            | (go_at_call 13; (with_reducible refine (CA.out _).mono ?_); rintro e w8 ⟨rfl, rfl⟩)
            | (go_at_call 14; (with_reducible refine (NA.out _).mono ?_); rintro e w9 ⟨rfl, rfl⟩)
            | (go_at_call 13; (with_reducible refine (CX.out _).mono ?_); rintro e w10 ⟨rfl, rfl⟩))
          go_ret
          exact ⟨rfl, D.out⟩))
    · rw [if_neg (by omega)] at A2
      obtain ⟨rfl, rfl⟩ : a = 4607182418800017408 ∧ b = false := by
        have h := hS (by omega)
        injection h with h1 h2
        injection h2 with h2 h3
        exact ⟨h1, h2⟩
      clear hS
      rcases kc with ⟨rfl, rfl, k2⟩ | ⟨rfl, rfl, k2⟩ | ⟨k2, rfl⟩
      all_goals (
        rcases om with ⟨rfl, rfl⟩ | ⟨rfl, rfl⟩ | ⟨m1, m2, rfl⟩
        all_goals (
          go_enter Tryd.func4, Tryd.ntmps4
          go_wp2_with (first
            | (go_at_call 11; (with_reducible refine (A1.out _ D.out).mono ?_); rintro e w1 ⟨rfl, hb⟩; have D := Lib.hid (D.out.trans (hb.mono D.out.size)); clear hb)
            | (go_at_call 11; (with_reducible refine (A2.out _ D.out).mono ?_); rintro e w2 ⟨rfl, hb⟩; have D := Lib.hid (D.out.trans (hb.mono D.out.size)); clear hb)
            | (go_at_call 12; (with_reducible refine (LV.out _ D.out).mono ?_); rintro e w3 ⟨rfl, hb⟩; have D := Lib.hid (D.out.trans (hb.mono D.out.size)); clear hb)
            | (go_at_call 11; (with_reducible refine (A3.out _ D.out).mono ?_); rintro e w4 ⟨rfl, hb⟩; have D := Lib.hid (D.out.trans (hb.mono D.out.size)); clear hb)
            | (go_at_call 11; (with_reducible refine (S1.out _ D.out).mono ?_); rintro e w5 ⟨rfl, hb⟩; have D := Lib.hid (D.out.trans (hb.mono D.out.size)); clear hb)
            | (go_at_call 15; (with_reducible refine (O2.out w5).mono ?_); rintro e w6 ⟨rfl, hw⟩; have s := al1 w5 (.cells #[.int .i64 0, .int .i64 0] 25); rw [hw] at s; clear hw; have D := Lib.hid (D.out.trans (s.mono D.out.size)); clear s)
            | (go_at_call 14; (with_reducible refine (NX.out _).mono ?_); rintro e w7 ⟨rfl, rfl⟩)
            | (go_at_call 13; (with_reducible refine (CA.out _).mono ?_); rintro e w8 ⟨rfl, rfl⟩)
            | (go_at_call 14; (with_reducible refine (NA.out _).mono ?_); rintro e w9 ⟨rfl, rfl⟩)
            | (go_at_call 13; (with_reducible refine (CX.out _).mono ?_); rintro e w10 ⟨rfl, rfl⟩))
          go_ret
          exact ⟨rfl, D.out⟩))
    · rw [if_neg (by omega)] at A2
      obtain ⟨rfl, rfl⟩ : a = 4607182418800017408 ∧ b = false := by
        have h := hS (by omega)
        injection h with h1 h2
        injection h2 with h2 h3
        exact ⟨h1, h2⟩
      clear hS
      rcases kc with ⟨rfl, rfl, k2⟩ | ⟨rfl, rfl, k2⟩ | ⟨k2, rfl⟩
      all_goals (
        rcases om with ⟨rfl, rfl⟩ | ⟨rfl, rfl⟩ | ⟨m1, m2, rfl⟩
        all_goals (
          go_enter Tryd.func4, Tryd.ntmps4
          go_wp2_with (first
            | (go_at_call 11; (with_reducible refine (A1.out _ D.out).mono ?_); rintro e w1 ⟨rfl, hb⟩; have D := Lib.hid (D.out.trans (hb.mono D.out.size)); clear hb)
            | (go_at_call 11; (with_reducible refine (A2.out _ D.out).mono ?_); rintro e w2 ⟨rfl, hb⟩; have D := Lib.hid (D.out.trans (hb.mono D.out.size)); clear hb)
            | (go_at_call 12; (with_reducible refine (LV.out _ D.out).mono ?_); rintro e w3 ⟨rfl, hb⟩; have D := Lib.hid (D.out.trans (hb.mono D.out.size)); clear hb)
            | (go_at_call 11; (with_reducible refine (A3.out _ D.out).mono ?_); rintro e w4 ⟨rfl, hb⟩; have D := Lib.hid (D.out.trans (hb.mono D.out.size)); clear hb)
            | (go_at_call 11; (with_reducible refine (S1.out _ D.out).mono ?_); rintro e w5 ⟨rfl, hb⟩; have D := Lib.hid (D.out.trans (hb.mono D.out.size)); clear hb)
            | (go_at_call 15; (with_reducible refine (O2.out w5).mono ?_); rintro e w6 ⟨rfl, hw⟩; have s := al1 w5 (.cells #[.int .i64 0, .int .i64 0] 25); rw [hw] at s; clear hw; have D := Lib.hid (D.out.trans (s.mono D.out.size)); clear s)
            | (go_at_call 14; (with_reducible refine (NX.out _).mono ?_); rintro e w7 ⟨rfl, rfl⟩)
            | (go_at_call 13; (with_reducible refine (CA.out _).mono ?_); rintro e w8 ⟨rfl, rfl⟩)
            | (go_at_call 14; (with_reducible refine (NA.out _).mono ?_); rintro e w9 ⟨rfl, rfl⟩)
            | (go_at_call 13; (with_reducible refine (CX.out _).mono ?_); rintro e w10 ⟨rfl, rfl⟩))
          go_ret
          exact ⟨rfl, D.out⟩))
    · rw [if_neg (by omega)] at A2
      clear hS
      rcases kc with ⟨rfl, rfl, k2⟩ | ⟨rfl, rfl, k2⟩ | ⟨k2, rfl⟩
      all_goals (
        rcases om with ⟨rfl, rfl⟩ | ⟨rfl, rfl⟩ | ⟨m1, m2, rfl⟩
        all_goals (
          go_enter Tryd.func4, Tryd.ntmps4
          go_wp2_with (first
            | (go_at_call 11; (with_reducible refine (A1.out _ D.out).mono ?_); rintro e w1 ⟨rfl, hb⟩; have D := Lib.hid (D.out.trans (hb.mono D.out.size)); clear hb)
            | (go_at_call 11; (with_reducible refine (A2.out _ D.out).mono ?_); rintro e w2 ⟨rfl, hb⟩; have D := Lib.hid (D.out.trans (hb.mono D.out.size)); clear hb)
            | (go_at_call 12; (with_reducible refine (LV.out _ D.out).mono ?_); rintro e w3 ⟨rfl, hb⟩; have D := Lib.hid (D.out.trans (hb.mono D.out.size)); clear hb)
            | (go_at_call 11; (with_reducible refine (A3.out _ D.out).mono ?_); rintro e w4 ⟨rfl, hb⟩; have D := Lib.hid (D.out.trans (hb.mono D.out.size)); clear hb)
            | (go_at_call 11; (with_reducible refine (S1.out _ D.out).mono ?_); rintro e w5 ⟨rfl, hb⟩; have D := Lib.hid (D.out.trans (hb.mono D.out.size)); clear hb)
            | (go_at_call 15; (with_reducible refine (O2.out w5).mono ?_); rintro e w6 ⟨rfl, hw⟩; have s := al1 w5 (.cells #[.int .i64 0, .int .i64 0] 25); rw [hw] at s; clear hw; have D := Lib.hid (D.out.trans (s.mono D.out.size)); clear s)
            | (go_at_call 14; (with_reducible refine (NX.out _).mono ?_); rintro e w7 ⟨rfl, rfl⟩)
            | (go_at_call 13; (with_reducible refine (CA.out _).mono ?_); rintro e w8 ⟨rfl, rfl⟩)
            | (go_at_call 14; (with_reducible refine (NA.out _).mono ?_); rintro e w9 ⟨rfl, rfl⟩)
            | (go_at_call 13; (with_reducible refine (CX.out _).mono ?_); rintro e w10 ⟨rfl, rfl⟩))
          go_ret
          exact ⟨rfl, D.out⟩))
    · rw [if_pos rfl] at A2
      clear hS
      rcases kc with ⟨rfl, rfl, k2⟩ | ⟨rfl, rfl, k2⟩ | ⟨k2, rfl⟩
      all_goals (
        rcases om with ⟨rfl, rfl⟩ | ⟨rfl, rfl⟩ | ⟨m1, m2, rfl⟩
        all_goals (
          go_enter Tryd.func4, Tryd.ntmps4
          go_wp2_with (first
            | (go_at_call 11; (with_reducible refine (A1.out _ D.out).mono ?_); rintro e w1 ⟨rfl, hb⟩; have D := Lib.hid (D.out.trans (hb.mono D.out.size)); clear hb)
            | (go_at_call 11; (with_reducible refine (A2.out _ D.out).mono ?_); rintro e w2 ⟨rfl, hb⟩; have D := Lib.hid (D.out.trans (hb.mono D.out.size)); clear hb)
            | (go_at_call 12; (with_reducible refine (LV.out _ D.out).mono ?_); rintro e w3 ⟨rfl, hb⟩; have D := Lib.hid (D.out.trans (hb.mono D.out.size)); clear hb)
            | (go_at_call 11; (with_reducible refine (A3.out _ D.out).mono ?_); rintro e w4 ⟨rfl, hb⟩; have D := Lib.hid (D.out.trans (hb.mono D.out.size)); clear hb)
            | (go_at_call 11; (with_reducible refine (S1.out _ D.out).mono ?_); rintro e w5 ⟨rfl, hb⟩; have D := Lib.hid (D.out.trans (hb.mono D.out.size)); clear hb)
            | (go_at_call 15; (with_reducible refine (O2.out w5).mono ?_); rintro e w6 ⟨rfl, hw⟩; have s := al1 w5 (.cells #[.int .i64 0, .int .i64 0] 25); rw [hw] at s; clear hw; have D := Lib.hid (D.out.trans (s.mono D.out.size)); clear s)
            | (go_at_call 14; (with_reducible refine (NX.out _).mono ?_); rintro e w7 ⟨rfl, rfl⟩)
            | (go_at_call 13; (with_reducible refine (CA.out _).mono ?_); rintro e w8 ⟨rfl, rfl⟩)
            | (go_at_call 14; (with_reducible refine (NA.out _).mono ?_); rintro e w9 ⟨rfl, rfl⟩)
            | (go_at_call 13; (with_reducible refine (CX.out _).mono ?_); rintro e w10 ⟨rfl, rfl⟩))
          go_ret
          exact ⟨rfl, D.out⟩))
  · rw [DT_no hm] at A1 A2
    unfold ATv at A1 A2
    clear hm hT hx hy
    go_enter Tryd.func4, Tryd.ntmps4
    go_wp2_with (first
      | (go_at_call 11; (with_reducible refine (A1.out _ D.out).mono ?_); rintro e w1 ⟨rfl, hb⟩; have D := Lib.hid (D.out.trans (hb.mono D.out.size)); clear hb)
      | (go_at_call 11; (with_reducible refine (A2.out _ D.out).mono ?_); rintro e w2 ⟨rfl, hb⟩; have D := Lib.hid (D.out.trans (hb.mono D.out.size)); clear hb)
      | (go_at_call 12; (with_reducible refine (LV.out _ D.out).mono ?_); rintro e w3 ⟨rfl, hb⟩; have D := Lib.hid (D.out.trans (hb.mono D.out.size)); clear hb))
    go_ret
    exact ⟨rfl, D.out⟩
set_option maxRecDepth 100000 in
set_option maxHeartbeats 8000000 in
theorem never_c (x y : Int) (w : World) (hx : 0 ≤ x ∧ x ≤ 18446744073709551615) (hy : 0 ≤ y ∧ y ≤ 18446744073709551615) (hT : TabD w) :
    Calls Tryd.prog 7 #[.int .u64 x, .int .u64 y] w fun e w' => e = .returned (.bool true) ∧ Below w.heap.size w w' := by
  have HT : Hid (∀ W : World, Below w.heap.size w W → TabD W) := fun W hW => hT.below hW
  have LV : Hid (∀ W : World, Below w.heap.size w W → Calls Tryd.prog 12 #[] W fun e w' => e = .returned (.bool true) ∧ Below W.heap.size W w') := fun W hW => livesJ_c W (HT.out W hW)
  have D := Lib.hid (Below.refl w.heap.size w)
  have A1 : Hid (∀ W : World, Below w.heap.size w W → Calls Tryd.prog 11 #[.int .u64 x, .int .u64 y, .int .i64 0] W (DC.RetB W (ATv (DT x y 0)))) := fun W hW => Div_c x y 0 W hx hy (HT.out W hW)
  have A2 : Hid (∀ W : World, Below w.heap.size w W → Calls Tryd.prog 11 #[.int .u64 x, .int .u64 y, .int .i64 4] W (DC.RetB W (ATv (DT x y 4)))) := fun W hW => Div_c x y 4 W hx hy (HT.out W hW)
  have b1 := DT_bd 0 hx hy
  have b2 := DT_bd 4 hx hy
  have e1 : (DT x y 0).2.2 = 0 := DT_e (by omega)
  have e2 : (DT x y 4).2.2 = 0 := DT_e (by omega)
  have kc := never_p hx hy
  unfold ATv at A1 A2
  rw [e1] at A1
  rw [e2] at A2
  clear e1 e2 hT hx hy
  generalize (DT x y 0).2.1 = l1 at *
  generalize (DT x y 4).2.1 = l2 at *
  generalize (DT x y 0).1 = a at *
  generalize (DT x y 4).1 = b at *
  have CA : Hid (∀ W : World, Calls Tryd.prog 13 #[.int .u64 a] W fun e w' => e = .returned (.int .i64 (F.cls a)) ∧ W = w') := fun W => FloatC.Class_c a b1.1 b1.2 W
  have CB : Hid (∀ W : World, Calls Tryd.prog 13 #[.int .u64 b] W fun e w' => e = .returned (.int .i64 (F.cls b)) ∧ W = w') := fun W => FloatC.Class_c b b2.1 b2.2 W
  have O2 : Hid (∀ W : World, Calls Tryd.prog 15 #[.slice (some ⟨W.heap.size, 0, none⟩) 2 2] (W.alloc (.cells #[.int .i64 0, .int .i64 0] 25)) fun e w' => e = .returned (.bool true) ∧ W.alloc (.cells #[.int .i64 0, .int .i64 0] 25) = w') := fun W => okn W [0, 0] true (by simp) rfl
  have kc : (a = b ∧ (a == b) = true) ∨ ((a == b) = false ∧ (F.cls a != 3) = true) ∨ ((a == b) = false ∧ (F.cls a != 3) = false ∧ (F.cls b != 3) = true) := by
    by_cases h : a = b
    · exact .inl ⟨h, by simp [h]⟩
    · by_cases h3 : F.cls a = 3
      · exact .inr (.inr ⟨by simp [h], by simp [h3], by rcases kc with k | k | k; exact absurd k h; exact absurd h3 k; simp [k]⟩)
      · exact .inr (.inl ⟨by simp [h], by simp [h3]⟩)
  generalize F.cls a = ca at *
  generalize F.cls b = cb at *
  rcases kc with ⟨rfl, k1⟩ | ⟨k1, k2⟩ | ⟨k1, k2, k3⟩
  all_goals (
    go_enter Tryd.func7, Tryd.ntmps7
    go_wp2_with (first
      | (go_at_call 11; (with_reducible refine (A1.out _ D.out).mono ?_); rintro e w1 ⟨rfl, hb⟩; have D := Lib.hid (D.out.trans (hb.mono D.out.size)); clear hb)
      | (go_at_call 11; (with_reducible refine (A2.out _ D.out).mono ?_); rintro e w2 ⟨rfl, hb⟩; have D := Lib.hid (D.out.trans (hb.mono D.out.size)); clear hb)
      | (go_at_call 12; (with_reducible refine (LV.out _ D.out).mono ?_); rintro e w3 ⟨rfl, hb⟩; have D := Lib.hid (D.out.trans (hb.mono D.out.size)); clear hb)
      | (go_at_call 15; (with_reducible refine (O2.out w3).mono ?_); rintro e w4 ⟨rfl, hw⟩; have s := al1 w3 (.cells #[.int .i64 0, .int .i64 0] 25); rw [hw] at s; clear hw; have D := Lib.hid (D.out.trans (s.mono D.out.size)); clear s)
      | (go_at_call 13; (with_reducible refine (CA.out _).mono ?_); rintro e w8 ⟨rfl, rfl⟩)
      | (go_at_call 13; (with_reducible refine (CB.out _).mono ?_); rintro e w9 ⟨rfl, rfl⟩))
    go_ret
    exact ⟨rfl, D.out⟩)
end JC
end Go.Proofs.YtpmjeipdldnnbaaDoor
