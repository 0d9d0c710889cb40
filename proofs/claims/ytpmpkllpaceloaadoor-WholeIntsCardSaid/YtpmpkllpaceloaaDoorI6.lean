/-
  Package whole: two and a half.
-/
import Derived.Test.YtpmpkllpaceloaaDoorI5
import Derived.Test.YtpmpkllpaceloaaDoorUK2
namespace Go.Proofs.YtpmpkllpaceloaaDoor
set_option linter.unusedVariables false
set_option linter.unusedSimpArgs false
open Go.RowKit
set_option linter.unusedVariables false
set_option linter.unusedSimpArgs false
namespace IC
open L NC NK DC RC SC QC
/-- a number that isn't zero is known by its value -/
theorem num_ext' {a b : Int} (ha : fi a) (hb : fi b) (hv : val a = val b) (h0 : val b ≠ 0) : a = b := by
  refine num_ext ha hb ?_ hv
  have e1 := val_eq ha
  have e2 := val_eq hb
  have u1 := U_pos (r := a % 9223372036854775808) (by omega)
  have u2 := U_pos (r := b % 9223372036854775808) (by omega)
  unfold sgm at e1 e2
  cases h1 : F.sgn a <;> cases h2 : F.sgn b <;> rw [h1] at e1 <;> rw [h2] at e2 <;> simp at e1 e2 <;> first | rfl | omega
theorem val_of {x : Int} {k : Nat} {q z e : Int} {j : Nat} (h0 : 0 ≤ x) (h1 : x ≤ 18446744073709551615) (h2 : x % 9223372036854775808 = k * 4503599627370496 + q) (q0 : 4503599627370496 ≤ q) (q1 : q < 9007199254740992) (hk : k < 2046) (hq : q = z * 2 ^ j) (he : e = k - 1074 + j) :
    fi x ∧ val x = sgm (F.sgn x) (z * sc 1 e) := by
  have hf : fi x := fi_of h0 h1 (by omega)
  refine ⟨hf, ?_⟩
  rw [val_eq hf, h2, (U_of (k := k) (by omega) q1 (.inr q0)).1, hq, he, Int.mul_assoc, ← sc_mul1 (2 ^ j), sc_two j _ (by omega)]
theorem lives_v {x C : Int} (hx : x = 4612811918334230528) (hC : C = sc 1 (-1)) : fi x ∧ val x = 5 * C := by
  obtain ⟨h1, h2⟩ := val_of (x := x) (k := 1023) (q := 5629499534213120) (z := 5) (e := -1) (j := 50) (by omega) (by omega) (by omega) (by omega) (by omega) (by omega) (by decide) (by decide)
  refine ⟨h1, ?_⟩
  rw [h2, ← hC, show F.sgn x = false by subst hx; decide]
  rfl
theorem lives_v2 {x C : Int} (hx : x = 13836183955189006336) (hC : C = sc 1 (-1)) : fi x ∧ val x = -5 * C := by
  obtain ⟨h1, h2⟩ := val_of (x := x) (k := 1023) (q := 5629499534213120) (z := 5) (e := -1) (j := 50) (by omega) (by omega) (by omega) (by omega) (by omega) (by omega) (by decide) (by decide)
  refine ⟨h1, ?_⟩
  rw [h2, ← hC, show F.sgn x = true by subst hx; decide]
  unfold sgm
  simp
  omega
theorem lives_v3 {x P : Int} (hx : x = 4611686018427387904) (hP : P = sc 1 0) : fi x ∧ val x = 2 * P := by
  obtain ⟨h1, h2⟩ := val_of (x := x) (k := 1023) (q := 4503599627370496) (z := 2) (e := 0) (j := 51) (by omega) (by omega) (by omega) (by omega) (by omega) (by omega) (by decide) (by decide)
  refine ⟨h1, ?_⟩
  rw [h2, ← hP, show F.sgn x = false by subst hx; decide]
  rfl
theorem lives_v4 {x P : Int} (hx : x = 13837309855095848960) (hP : P = sc 1 0) : fi x ∧ val x = -3 * P := by
  obtain ⟨h1, h2⟩ := val_of (x := x) (k := 1023) (q := 6755399441055744) (z := 3) (e := 0) (j := 51) (by omega) (by omega) (by omega) (by omega) (by omega) (by omega) (by decide) (by decide)
  refine ⟨h1, ?_⟩
  rw [h2, ← hP, show F.sgn x = true by subst hx; decide]
  unfold sgm
  simp
  omega
theorem P_two {P C : Int} (hP : P = sc 1 0) (hC : C = sc 1 (-1)) : P = 2 * C ∧ 0 < C := by
  have h1 := sc_two 1 (-1) (by omega)
  rw [sc_mul1, ← hC, show (2 : Int) ^ 1 = 2 by decide, show (-1 : Int) + ((1 : Nat) : Int) = 0 by decide, ← hP] at h1
  exact ⟨h1.symm, by rw [hC]; exact sc_one_pos _⟩
theorem fi_wt {x mode : Int} (h : fi x) (hm : 0 ≤ mode ∧ mode ≤ 4) : WT x mode = (WX x mode, lostW x, 0) := by
  have hc := cls_fi.2 h.2.2
  unfold WT
  rw [if_neg (by omega), if_neg (by omega), if_neg (by omega)]
theorem live_1 {x y : Int} (hx : x = 4612811918334230528) (hy : y = 4611686018427387904) : WT x 0 = (y, true, 0) := by
  obtain ⟨P, hP⟩ : ∃ P, P = sc 1 0 := ⟨_, rfl⟩
  obtain ⟨C, hC⟩ : ∃ C, C = sc 1 (-1) := ⟨_, rfl⟩
  obtain ⟨p2, c0⟩ := P_two hP hC
  obtain ⟨f1, v1⟩ := lives_v hx hC
  obtain ⟨f2, v2⟩ := lives_v3 hy hP
  obtain ⟨g1, g2, g3⟩ := wx_fi f1 (mode := 0) (by omega)
  have hn : wn x 0 = 2 := by
    unfold wn
    rw [v1, ← hP, p2, iw_scale (by omega) c0]
    decide
  rw [fi_wt f1 (by omega)]
  have e1 : WX x 0 = y := num_ext' g1 f2 (by rw [g2, hn, v2, hP]) (by rw [v2]; omega)
  have e2 : lostW x = true := by
    unfold lostW
    rw [v1, ← hP, p2]
    apply decide_eq_true
    intro h
    have := (lost_scale (V := 5) (P := 2) c0).1 h
    omega
  rw [e1, e2]
theorem live_2 {x : Int} (hx : x = 13836183955189006336) : IT x 2 = (-3, true, 0) := by
  obtain ⟨P, hP⟩ : ∃ P, P = sc 1 0 := ⟨_, rfl⟩
  obtain ⟨C, hC⟩ : ∃ C, C = sc 1 (-1) := ⟨_, rfl⟩
  obtain ⟨p2, c0⟩ := P_two hP hC
  obtain ⟨f1, v1⟩ := lives_v2 hx hC
  have hn : wn x 2 = -3 := by
    unfold wn
    rw [v1, ← hP, p2, iw_scale (by omega) c0]
    decide
  have e2 : lostW x = true := by
    unfold lostW
    rw [v1, ← hP, p2]
    apply decide_eq_true
    intro h
    have := (lost_scale (V := -5) (P := 2) c0).1 h
    omega
  have hc := cls_fi.2 f1.2.2
  unfold IT
  rw [if_neg (by omega), if_neg (by omega), hn, e2]
  rfl
theorem live_3 {y : Int} (hy : y = 13837309855095848960) : FT (-3) 0 = (y, false, 0) ∧ WI y = true := by
  obtain ⟨P, hP⟩ : ∃ P, P = sc 1 0 := ⟨_, rfl⟩
  obtain ⟨f1, v1⟩ := lives_v4 hy hP
  have P0 : 0 < P := by rw [hP]; exact P_pos
  have hl := small_int (n := -3) (mode := 0) (by omega) (by omega)
  obtain ⟨e0, g, hS⟩ := int_fin (n := -3) (by omega)
  obtain ⟨h1, h2⟩ := not_lost g (mode := 0) (by omega) hl
  constructor
  · unfold FT
    rw [if_neg (by omega), hl]
    have : TX (fin (-3) 0).d 0 = y := num_ext' h1 f1 (by rw [h2, hS, v1, hP]) (by rw [v1]; omega)
    rw [this]
  · have hc := cls_fi.2 f1.2.2
    have e2 : lostW y = false := by
      unfold lostW
      rw [v1, ← hP, Int.mul_emod_left]
      rfl
    unfold WI
    rw [e2, decide_eq_false (by omega)]
    rfl
theorem livesI_c (w : World) (hT : TabD w) : Calls Tryd.prog 28 #[] w fun e w' => e = .returned (.bool true) ∧ Below w.heap.size w w' := by
  have A1 := Lib.hid (Round_c 4612811918334230528 0 w (by omega) hT)
  have A2 : Hid (∀ W, Below w.heap.size w W → Calls Tryd.prog 8 #[.int .u64 13836183955189006336, .int .i64 2] W (DC.RetB W (ItV (IT 13836183955189006336 2)))) := fun W hW => Int_c _ 2 W (by omega) (hT.below hW)
  have A3 : Hid (∀ W, Below w.heap.size w W → Calls Tryd.prog 9 #[.int .i64 (-3), .int .i64 0] W (DC.RetB W (ATv (FT (-3) 0)))) := fun W hW => From_c (-3) 0 W (by omega) (hT.below hW)
  have A4 : Hid (∀ W, Below w.heap.size w W → Calls Tryd.prog 23 #[.int .u64 13837309855095848960] W (DC.RetB W (.bool (WI 13837309855095848960)))) := fun W hW => Is_c _ W (by omega) (hT.below hW)
  rw [live_1 rfl rfl] at A1
  rw [live_2 rfl] at A2
  rw [(live_3 rfl).1] at A3
  rw [(live_3 rfl).2] at A4
  unfold ATv at A1 A3
  unfold ItV at A2
  clear hT
  go_enter Tryd.func28, Tryd.ntmps28
  go_wp2_with (first
    | (go_at_call 7; (with_reducible refine (A1.out).mono ?_); rintro e w1 ⟨rfl, hb⟩; have D := Lib.hid hb; clear hb)
    | (go_at_call 8; (with_reducible refine (A2.out _ D.out).mono ?_); rintro e w2 ⟨rfl, hb⟩; have D := Lib.hid (D.out.trans (hb.mono D.out.size)); clear hb)
    | (go_at_call 9; (with_reducible refine (A3.out _ D.out).mono ?_); rintro e w3 ⟨rfl, hb⟩; have D := Lib.hid (D.out.trans (hb.mono D.out.size)); clear hb)
    | (go_at_call 31; (with_reducible refine (DC.ok3' w3).mono ?_); rintro e wo ⟨rfl, hw⟩; have s := al1 w3 (.cells #[.int .i64 0, .int .i64 0, .int .i64 0] 23); rw [hw] at s; clear hw; have D := Lib.hid (D.out.trans (s.mono D.out.size)); clear s)
    | (go_at_call 23; (with_reducible refine (A4.out _ D.out).mono ?_); rintro e w4 ⟨rfl, hb⟩; have D := Lib.hid (D.out.trans (hb.mono D.out.size)); clear hb))
  go_ret
  exact ⟨rfl, D.out⟩
end IC
end Go.Proofs.YtpmpkllpaceloaaDoor
