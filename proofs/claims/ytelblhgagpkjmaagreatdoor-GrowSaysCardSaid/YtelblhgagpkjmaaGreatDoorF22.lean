/-
  Texts glued together for a claim: X5 X6 X10 X7.
-/
import Derived.Test.YtelblhgagpkjmaaGreatDoorF12
import Derived.Test.YtelblhgagpkjmaaGreatDoorF14
import Derived.Test.YtelblhgagpkjmaaGreatDoorF16
import Derived.Test.YtelblhgagpkjmaaGreatDoorF15
/-
  Package exact, pure: Split: a number cut to its highest bits, and what is left.
-/
namespace Go.Proofs.YtelblhgagpkjmaaGreatDoor
set_option linter.unusedVariables false
set_option linter.unusedSimpArgs false
open Go.RowKit
set_option linter.unusedVariables false
set_option linter.unusedSimpArgs false
namespace XC
open L NC NK DC RC SC PC QC IC
open Z (cmpv)
/-- the size of a number, and its highest bit -/
def sz (x : Int) : Int := U (x % 9223372036854775808)
def topx (x : Int) : Int := (OfD x).d.x + ((OfD x).d.m.natAbs.log2 : Nat)
/-- the highest bits -/
noncomputable def hx (x p : Int) : Int := TX (CR (OfD x).d p 3).d 0
end XC
end Go.Proofs.YtelblhgagpkjmaaGreatDoor

/-
  Package exact, pure: products of parts are exact, if they aren't too great (VELTKAMP, DEKKER).
-/
namespace Go.Proofs.YtelblhgagpkjmaaGreatDoor
set_option linter.unusedVariables false
set_option linter.unusedSimpArgs false
open Go.RowKit
set_option linter.unusedVariables false
set_option linter.unusedSimpArgs false
namespace XC
open L NC NK DC RC SC PC QC IC
open Z (cmpv)
end XC
end Go.Proofs.YtelblhgagpkjmaaGreatDoor

/-
  Package exact, pure: the highest bit of a number; what Split tells (SPt).
-/
namespace Go.Proofs.YtelblhgagpkjmaaGreatDoor
set_option linter.unusedVariables false
set_option linter.unusedSimpArgs false
open Go.RowKit
set_option linter.unusedVariables false
set_option linter.unusedSimpArgs false
namespace XC
open L NC NK DC RC SC PC QC IC
open Z (cmpv)
noncomputable def SPt (x bits : Int) : Int × Int × Int :=
  if F.exq x = 2047 then (0, 0, 4) else if ¬ (1 ≤ bits ∧ bits ≤ 52) then (0, 0, 1) else if (OfD x).d.m = 0 then (x, sb x x, 0) else (hx x (topx x + 1 - bits), sb x (hx x (topx x + 1 - bits)), 0)
theorem sz_ulp {x : Int} (h : fi x) : ∃ q : Int, 0 ≤ q ∧ q < 9007199254740992 ∧ sz x = q * sc 1 (F.ulp x) := by
  obtain ⟨q, q0, q1, eq⟩ := unit_ulp h
  refine ⟨q, q0, q1, ?_⟩
  have hv := val_eq h
  have u0 : 0 ≤ sz x := U_pos (by have := h.1; omega)
  rw [hv, sc_mul1] at eq
  have eq : sgm (F.sgn x) (sz x) = sgm (F.sgn x) (q * sc 1 (F.ulp x)) := eq
  have := Int.mul_nonneg q0 (Int.le_of_lt (sc_one_pos (F.ulp x)))
  unfold sgm at eq
  split at eq <;> omega
theorem sz_A {x : Int} (h : fi x) : sz x = ((OfD x).d.m.natAbs : Int) * sc 1 (OfD x).d.x := by
  have hv := val_eq h
  have u0 : 0 ≤ sz x := U_pos (by have := h.1; omega)
  have e1 : val x = (OfD x).d.m * sc 1 (OfD x).d.x := sc_mul1 _ _
  have hv : val x = sgm (F.sgn x) (sz x) := hv
  rw [e1] at hv
  have hp := sc_one_pos (OfD x).d.x
  generalize sc 1 (OfD x).d.x = E at *
  rcases Int.lt_or_le (OfD x).d.m 0 with q | q
  · rw [show ((OfD x).d.m.natAbs : Int) = -(OfD x).d.m by omega, Int.neg_mul]
    have := Int.mul_neg_of_neg_of_pos q hp
    unfold sgm at hv
    split at hv <;> omega
  · rw [show ((OfD x).d.m.natAbs : Int) = (OfD x).d.m by omega]
    have := Int.mul_nonneg q (Int.le_of_lt hp)
    unfold sgm at hv
    split at hv <;> omega
theorem sc1_lt {x y : Int} (h : sc 1 x < sc 1 y) (hy : -60000 ≤ y) : x < y := by
  rcases Int.lt_or_le x y with g | g
  · exact g
  · have := sc1_le g hy; omega
theorem top_p {x : Int} (h : fi x) (h0 : (OfD x).d.m ≠ 0) : sc 1 (topx x) ≤ sz x ∧ sz x < sc 1 (topx x + 1) ∧ -1074 ≤ topx x ∧ topx x ≤ 1023 := by
  have g := (of_fit h).2.x
  obtain ⟨q, q0, q1, eq⟩ := sz_ulp h
  have hb := ulp_bd h
  have e := sz_A h
  have hp := sc_one_pos (OfD x).d.x
  have n0 : (OfD x).d.m.natAbs ≠ 0 := by omega
  have l1 := Nat.log2_self_le n0
  have l2 := Nat.lt_log2_self (n := (OfD x).d.m.natAbs)
  unfold topx
  generalize (OfD x).d.m.natAbs = m at *
  generalize (OfD x).d.x = t at *
  obtain ⟨L, hL⟩ : ∃ L, L = m.log2 := ⟨_, rfl⟩
  rw [← hL] at l1 l2 ⊢
  have c1 : (2 : Int) ^ L ≤ m := by have : ((2 ^ L : Nat) : Int) ≤ m := by omega
                                    rwa [Int.natCast_pow] at this
  have c2 : (m : Int) < 2 ^ (L + 1) := by have : (m : Int) < ((2 ^ (L + 1) : Nat) : Int) := by omega
                                          rwa [Int.natCast_pow] at this
  have k1 : sc 1 (t + L) ≤ sz x := by
    rw [e, ← sc_two L t (by omega), sc_mul1]
    exact Int.mul_le_mul_of_nonneg_right c1 (Int.le_of_lt hp)
  have k2 : sz x < sc 1 (t + L + 1) := by
    rw [e, show t + (L : Int) + 1 = t + ((L + 1 : Nat) : Int) by omega, ← sc_two (L + 1) t (by omega), sc_mul1 (2 ^ (L + 1))]
    exact Int.mul_lt_mul_of_pos_right c2 hp
  have k3 : sz x < sc 1 1024 := by
    have a1 : sz x < 9007199254740992 * sc 1 (F.ulp x) := by rw [eq]; exact Int.mul_lt_mul_of_pos_right q1 (sc_one_pos _)
    have a2 : 9007199254740992 * sc 1 (F.ulp x) = sc 1 (F.ulp x + ((53 : Nat) : Int)) := by
      rw [← sc_two 53 _ (by omega), sc_mul1 (2 ^ 53)]; rfl
    have a3 := sc1_le (x := F.ulp x + ((53 : Nat) : Int)) (y := 1024) (by omega) (by omega)
    omega
  refine ⟨k1, k2, by omega, ?_⟩
  have := sc1_lt (Int.lt_of_le_of_lt k1 k3) (by omega)
  omega
theorem log_n {m n : Nat} (h1 : (m : Int) < 2 ^ n) (h2 : n = 0 ∨ (2 : Int) ^ (n - 1) ≤ m) (h0 : m ≠ 0) : (n : Int) = (m.log2 : Int) + 1 := by
  have l1 := Nat.log2_self_le h0
  have l2 := Nat.lt_log2_self (n := m)
  have e : ∀ k : Nat, ((2 ^ k : Nat) : Int) = 2 ^ k := fun k => by rw [Int.natCast_pow]; rfl
  have h1 : m < 2 ^ n := by have : (m : Int) < ((2 ^ n : Nat) : Int) := by rw [e]; exact h1
                            omega
  have hn : n ≠ 0 := fun q => by rw [q] at h1; omega
  have h2 : 2 ^ (n - 1) ≤ m := by
    rcases h2 with h2 | h2
    · exact absurd h2 hn
    · have : ((2 ^ (n - 1) : Nat) : Int) ≤ m := by rw [e]; exact h2
      omega
  have a : m.log2 < n := by
    rcases Nat.lt_or_ge m.log2 n with g | g
    · exact g
    · have := Nat.pow_le_pow_right (show 0 < 2 by decide) g; omega
  have b : n - 1 < m.log2 + 1 := by
    rcases Nat.lt_or_ge (n - 1) (m.log2 + 1) with g | g
    · exact g
    · have := Nat.pow_le_pow_right (show 0 < 2 by decide) g; omega
  omega
end XC
end Go.Proofs.YtelblhgagpkjmaaGreatDoor

/-
  Package exact: its contracts. walked over the landed code.
-/
namespace Go.Proofs.YtelblhgagpkjmaaGreatDoor
set_option linter.unusedVariables false
set_option linter.unusedSimpArgs false
open Go.RowKit
set_option linter.unusedVariables false
set_option linter.unusedSimpArgs false
namespace XC
open L NC NK DC RC SC PC QC IC
open Z (cmpv)
noncomputable def hx' (x bits : Int) : Int := hx x (topx x + 1 - bits)
def T2v (t : Int × Int × Int) : Value := .tuple #[.int .u64 t.1, .int .u64 t.2.1, .int .i64 t.2.2]
theorem ad_bd {x y : Int} (hx : 0 ≤ x ∧ x ≤ 18446744073709551615) (hy : 0 ≤ y ∧ y ≤ 18446744073709551615) : 0 ≤ ad x y ∧ ad x y ≤ 18446744073709551615 := AT_bd 0 (u2 hx hy)
theorem sb_bd {x y : Int} (hx : 0 ≤ x ∧ x ≤ 18446744073709551615) (hy : 0 ≤ y ∧ y ≤ 18446744073709551615) : 0 ≤ sb x y ∧ sb x y ≤ 18446744073709551615 := AT_bd 0 (u2 hx (F.neg_bd y hy.1 hy.2))
theorem hv_iff (x : Int) : (F.cls x < 4 ↔ ¬ F.exq x = 2047) := by
  have := cls_fi (x := x)
  have := F.cls_bd x
  omega
theorem re_eq' (r : Re) (h : r.e = 0) : r = ⟨0, r.d⟩ := by cases r; cases h; rfl
theorem hasValue_c (x : Int) (w : World) (hx : 0 ≤ x ∧ x ≤ 18446744073709551615) (hT : TabD w) : Calls Tryz.prog 73 #[.int .u64 x] w (DC.RetB w (.bool (!decide (F.exq x = 2047)))) := by
  have D := Lib.hid (Below.refl w.heap.size w)
  have OF := Lib.hid (Of_d x hx.1 hx.2 w hT)
  have e : (!decide (F.exq x = 2047)) = ((OfD x).e == 0) := by
    by_cases q : F.exq x = 2047
    · rw [decide_eq_true q]
      unfold OfD
      rw [if_pos q]; rfl
    · rw [decide_eq_false q, (of_fit (show fi x from ⟨hx.1, hx.2, q⟩)).1]; rfl
  rw [e]
  generalize OfD x = r at *
  clear hx hT e
  go_enter Tryz.func73, Tryz.ntmps73
  go_wp2_with (go_at_call 44; (with_reducible refine (OF.out).mono ?_); rintro e w2 ⟨b2, A2, n2, c2, x2, rfl, hv, hb⟩; have s := hb.alloc hb.size (.cells #[.bool b2, .slice A2 n2 c2, .int .i64 x2] 26); have D := Lib.hid (D.out.trans (s.mono D.out.size)); clear hv hb s)
  go_ret
  exact ⟨rfl, D.out⟩
theorem plus_c (x y : Int) (w : World) (hx : 0 ≤ x ∧ x ≤ 18446744073709551615) (hy : 0 ≤ y ∧ y ≤ 18446744073709551615) (hT : TabD w) : Calls Tryz.prog 51 #[.int .u64 x, .int .u64 y] w (DC.RetB w (.int .u64 (ad x y))) := by
  have C := Lib.hid (Add_c x y 0 w hx hy hT)
  unfold ad
  unfold ATv at C
  generalize AT [x, y] 0 = t at *
  clear hx hy hT
  go_enter Tryz.func51, Tryz.ntmps51
  go_wp2_with (go_at_call 49; (with_reducible refine (C.out).mono ?_); rintro e w1 ⟨rfl, hb⟩; have D := Lib.hid hb; clear hb)
  go_ret
  exact ⟨rfl, D.out⟩
theorem minus_c (x y : Int) (w : World) (hx : 0 ≤ x ∧ x ≤ 18446744073709551615) (hy : 0 ≤ y ∧ y ≤ 18446744073709551615) (hT : TabD w) : Calls Tryz.prog 50 #[.int .u64 x, .int .u64 y] w (DC.RetB w (.int .u64 (sb x y))) := by
  have C := Lib.hid (Sub_c x y 0 w hx hy hT)
  unfold sb
  unfold ATv at C
  generalize AT [x, F.neg y] 0 = t at *
  clear hx hy hT
  go_enter Tryz.func50, Tryz.ntmps50
  go_wp2_with (go_at_call 75; (with_reducible refine (C.out).mono ?_); rintro e w1 ⟨rfl, hb⟩; have D := Lib.hid hb; clear hb)
  go_ret
  exact ⟨rfl, D.out⟩
/-- the error of a sum, or of a product -/
noncomputable def te (x y p : Int) : Int := if F.exq x = 2047 ∨ F.exq y = 2047 then 4 else if F.exq p = 2047 then 2 else 0
set_option maxHeartbeats 2000000 in
theorem finite_s (x y : Int) (t : Int × Bool × Int) (w : World) (hx : 0 ≤ x ∧ x ≤ 18446744073709551615) (hy : 0 ≤ y ∧ y ≤ 18446744073709551615) (bt : 0 ≤ t.1 ∧ t.1 ≤ 18446744073709551615) (hT : TabD w) (AP0 : ∀ W, Below w.heap.size w W → Calls Tryz.prog 49 #[.int .u64 x, .int .u64 y, .int .i64 0] W (DC.RetB W (ATv t))) :
    Calls Tryz.prog 48 #[.func (.func 49) #[] #[], .int .u64 x, .int .u64 y] w (DC.RetB w (.tuple #[.int .u64 (if te x y t.1 = 0 then t.1 else 0), .int .i64 (te x y t.1)])) := by
  have HT : Hid (∀ W : World, Below w.heap.size w W → TabD W) := fun W hW => hT.below hW
  have D := Lib.hid (Below.refl w.heap.size w)
  have HX : Hid (∀ W, Below w.heap.size w W → Calls Tryz.prog 73 #[.int .u64 x] W (DC.RetB W (.bool (!decide (F.exq x = 2047))))) := fun W hW => hasValue_c x W hx (HT.out W hW)
  have HY : Hid (∀ W, Below w.heap.size w W → Calls Tryz.prog 73 #[.int .u64 y] W (DC.RetB W (.bool (!decide (F.exq y = 2047))))) := fun W hW => hasValue_c y W hy (HT.out W hW)
  have HS : Hid (∀ W, Below w.heap.size w W → Calls Tryz.prog 73 #[.int .u64 t.1] W (DC.RetB W (.bool (!decide (F.exq t.1 = 2047))))) := fun W hW => hasValue_c _ W bt (HT.out W hW)
  have AP := Lib.hid AP0
  unfold ATv at AP
  obtain ⟨p, l, er⟩ := t
  dsimp only at *
  clear AP0
  by_cases h1 : F.exq x = 2047
  · rw [decide_eq_true h1] at HX
    have e4 : te x y p = 4 := by unfold te; rw [if_pos (.inl h1)]
    rw [e4]
    clear e4 h1 HS AP hT hx hy HT bt
    go_enter Tryz.func48, Tryz.ntmps48
    go_wp2_with (first | (go_at_call 73; (with_reducible refine (HX.out _ D.out).mono ?_); rintro e w1 ⟨rfl, hb⟩; have D := Lib.hid (D.out.trans (hb.mono D.out.size)); clear hb HX))
    go_ret2
    exact ⟨rfl, D.out⟩
  · by_cases h2 : F.exq y = 2047
    · rw [decide_eq_false h1] at HX
      rw [decide_eq_true h2] at HY
      have e4 : te x y p = 4 := by unfold te; rw [if_pos (.inr h2)]
      rw [e4]
      clear e4 h1 h2 HS AP hT hx hy HT bt
      go_enter Tryz.func48, Tryz.ntmps48
      go_wp2_with (first | (go_at_call 73; (with_reducible refine (HX.out _ D.out).mono ?_); rintro e w1 ⟨rfl, hb⟩; have D := Lib.hid (D.out.trans (hb.mono D.out.size)); clear hb HX) | (go_at_call 73; (with_reducible refine (HY.out _ D.out).mono ?_); rintro e w2 ⟨rfl, hb⟩; have D := Lib.hid (D.out.trans (hb.mono D.out.size)); clear hb HY))
      go_ret2
      exact ⟨rfl, D.out⟩
    · rw [decide_eq_false h1] at HX
      rw [decide_eq_false h2] at HY
      by_cases h3 : F.exq p = 2047
      · have e4 : te x y p = 2 := by unfold te; rw [if_neg (by rintro (q | q); exact h1 q; exact h2 q), if_pos h3]
        rw [e4]
        rw [decide_eq_true h3] at HS
        clear e4 h1 h2 h3 hT hx hy HT bt
        go_enter Tryz.func48, Tryz.ntmps48
        go_wp2_with (first | (go_at_call 73; (with_reducible refine (HX.out _ D.out).mono ?_); rintro e w1 ⟨rfl, hb⟩; have D := Lib.hid (D.out.trans (hb.mono D.out.size)); clear hb HX) | (go_at_call 73; (with_reducible refine (HY.out _ D.out).mono ?_); rintro e w2 ⟨rfl, hb⟩; have D := Lib.hid (D.out.trans (hb.mono D.out.size)); clear hb HY) | (go_at_call 49; (with_reducible refine (AP.out _ D.out).mono ?_); rintro e w3 ⟨rfl, hb⟩; have D := Lib.hid (D.out.trans (hb.mono D.out.size)); clear hb) | (go_at_call 73; (with_reducible refine (HS.out _ D.out).mono ?_); rintro e w4 ⟨rfl, hb⟩; have D := Lib.hid (D.out.trans (hb.mono D.out.size)); clear hb))
        go_ret2
        exact ⟨rfl, D.out⟩
      · have e4 : te x y p = 0 := by unfold te; rw [if_neg (by rintro (q | q); exact h1 q; exact h2 q), if_neg h3]
        rw [e4, if_pos rfl]
        rw [decide_eq_false h3] at HS
        clear e4 h1 h2 h3 hT hx hy HT bt
        go_enter Tryz.func48, Tryz.ntmps48
        go_wp2_with (first | (go_at_call 73; (with_reducible refine (HX.out _ D.out).mono ?_); rintro e w1 ⟨rfl, hb⟩; have D := Lib.hid (D.out.trans (hb.mono D.out.size)); clear hb HX) | (go_at_call 73; (with_reducible refine (HY.out _ D.out).mono ?_); rintro e w2 ⟨rfl, hb⟩; have D := Lib.hid (D.out.trans (hb.mono D.out.size)); clear hb HY) | (go_at_call 49; (with_reducible refine (AP.out _ D.out).mono ?_); rintro e w3 ⟨rfl, hb⟩; have D := Lib.hid (D.out.trans (hb.mono D.out.size)); clear hb) | (go_at_call 73; (with_reducible refine (HS.out _ D.out).mono ?_); rintro e w4 ⟨rfl, hb⟩; have D := Lib.hid (D.out.trans (hb.mono D.out.size)); clear hb))
        go_ret2
        exact ⟨rfl, D.out⟩
theorem TwoSum_c (x y : Int) (w : World) (hx : 0 ≤ x ∧ x ≤ 18446744073709551615) (hy : 0 ≤ y ∧ y ≤ 18446744073709551615) (hT : TabD w) : Calls Tryz.prog 23 #[.int .u64 x, .int .u64 y] w (DC.RetB w (T2v (T2 x y))) := by
  have HT : Hid (∀ W : World, Below w.heap.size w W → TabD W) := fun W hW => hT.below hW
  have D := Lib.hid (Below.refl w.heap.size w)
  have TO := Lib.hid (finite_s x y (AT [x, y] 0) w hx hy (ad_bd hx hy) hT (fun W hW => Add_c x y 0 W hx hy (hT.below hW)))
  change Hid (Calls _ _ _ _ (DC.RetB w (.tuple #[.int .u64 (if te x y (ad x y) = 0 then ad x y else 0), .int .i64 (te x y (ad x y))]))) at TO
  have ht : (te x y (ad x y) ≠ 0 ∧ T2 x y = (0, 0, te x y (ad x y))) ∨ (te x y (ad x y) = 0 ∧ T2 x y = (ad x y, ad (sb x (sb (ad x y) y)) (sb y (sb (ad x y) (sb (ad x y) y))), 0)) := by
    unfold te T2
    split
    · exact .inl ⟨by omega, rfl⟩
    · split
      · exact .inl ⟨by omega, rfl⟩
      · exact .inr ⟨rfl, rfl⟩
  rcases ht with ⟨h1, h2⟩ | ⟨h1, h2⟩
  · rw [h2]
    rw [if_neg h1] at TO
    unfold T2v
    have k : (te x y (ad x y) != 0) = true := by simpa using h1
    generalize te x y (ad x y) = e at *
    clear h1 h2 hx hy hT
    go_enter Tryz.func23, Tryz.ntmps23
    go_wp2_with (go_at_call 48; (with_reducible refine (TO.out).mono ?_); rintro e w1 ⟨rfl, hb⟩; have D := Lib.hid hb; clear hb)
    go_ret3
    exact ⟨rfl, D.out⟩
  · rw [h2]
    rw [h1, if_pos rfl] at TO
    unfold T2v
    have bs := ad_bd hx hy
    have ba := sb_bd bs hy
    have bb := sb_bd bs ba
    have bc := sb_bd hx ba
    have bd := sb_bd hy bb
    have SA : Hid (∀ W, Below w.heap.size w W → Calls Tryz.prog 50 #[.int .u64 (ad x y), .int .u64 y] W (DC.RetB W (.int .u64 (sb (ad x y) y)))) := fun W hW => minus_c _ _ W bs hy (HT.out W hW)
    have SB : Hid (∀ W, Below w.heap.size w W → Calls Tryz.prog 50 #[.int .u64 (ad x y), .int .u64 (sb (ad x y) y)] W (DC.RetB W (.int .u64 (sb (ad x y) (sb (ad x y) y))))) := fun W hW => minus_c _ _ W bs ba (HT.out W hW)
    have SC : Hid (∀ W, Below w.heap.size w W → Calls Tryz.prog 50 #[.int .u64 x, .int .u64 (sb (ad x y) y)] W (DC.RetB W (.int .u64 (sb x (sb (ad x y) y))))) := fun W hW => minus_c _ _ W hx ba (HT.out W hW)
    have SD : Hid (∀ W, Below w.heap.size w W → Calls Tryz.prog 50 #[.int .u64 y, .int .u64 (sb (ad x y) (sb (ad x y) y))] W (DC.RetB W (.int .u64 (sb y (sb (ad x y) (sb (ad x y) y)))))) := fun W hW => minus_c _ _ W hy bb (HT.out W hW)
    have SR : Hid (∀ W, Below w.heap.size w W → Calls Tryz.prog 51 #[.int .u64 (sb x (sb (ad x y) y)), .int .u64 (sb y (sb (ad x y) (sb (ad x y) y)))] W (DC.RetB W (.int .u64 (ad (sb x (sb (ad x y) y)) (sb y (sb (ad x y) (sb (ad x y) y))))))) := fun W hW => plus_c _ _ W bc bd (HT.out W hW)
    generalize ad (sb x (sb (ad x y) y)) (sb y (sb (ad x y) (sb (ad x y) y))) = r at *
    generalize sb y (sb (ad x y) (sb (ad x y) y)) = d at *
    generalize sb x (sb (ad x y) y) = c at *
    generalize sb (ad x y) (sb (ad x y) y) = b at *
    generalize sb (ad x y) y = a at *
    generalize ad x y = s at *
    clear h1 h2 hx hy hT bs ba bb bc bd
    go_enter Tryz.func23, Tryz.ntmps23
    go_wp2_with (first
      | (go_at_call 48; (with_reducible refine (TO.out).mono ?_); rintro e w1 ⟨rfl, hb⟩; have D := Lib.hid hb; clear hb)
      | (go_at_call 50; (with_reducible refine (SA.out _ D.out).mono ?_); rintro e w2 ⟨rfl, hb⟩; have D := Lib.hid (D.out.trans (hb.mono D.out.size)); clear hb)
      | (go_at_call 50; (with_reducible refine (SB.out _ D.out).mono ?_); rintro e w3 ⟨rfl, hb⟩; have D := Lib.hid (D.out.trans (hb.mono D.out.size)); clear hb)
      | (go_at_call 50; (with_reducible refine (SC.out _ D.out).mono ?_); rintro e w4 ⟨rfl, hb⟩; have D := Lib.hid (D.out.trans (hb.mono D.out.size)); clear hb)
      | (go_at_call 50; (with_reducible refine (SD.out _ D.out).mono ?_); rintro e w5 ⟨rfl, hb⟩; have D := Lib.hid (D.out.trans (hb.mono D.out.size)); clear hb)
      | (go_at_call 51; (with_reducible refine (SR.out _ D.out).mono ?_); rintro e w6 ⟨rfl, hb⟩; have D := Lib.hid (D.out.trans (hb.mono D.out.size)); clear hb))
    go_ret3
    exact ⟨rfl, D.out⟩
end XC
end Go.Proofs.YtelblhgagpkjmaaGreatDoor

