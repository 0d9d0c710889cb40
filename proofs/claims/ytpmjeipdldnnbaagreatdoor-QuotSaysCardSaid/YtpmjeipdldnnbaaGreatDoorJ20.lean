/-
  The document's quotient.
-/
import Derived.Test.YtpmjeipdldnnbaaGreatDoorJ19
import Derived.Test.YtpmjeipdldnnbaaGreatDoorJ5
namespace Go.Proofs.YtpmjeipdldnnbaaGreatDoor
set_option linter.unusedVariables false
set_option linter.unusedSimpArgs false
open Go.RowKit
set_option linter.unusedVariables false
set_option linter.unusedSimpArgs false
namespace JC
open Z (Nz Tz cmpv big)
open ZC DC RC QC SC VC PC
theorem kindsQ (x y : Int) :
    ((F.cls x == 5) = true ∧ qc x y = (9221120237041090560, true)) ∨
    ((F.cls x == 5) = false ∧ (F.cls y == 5) = true ∧ qc x y = (9221120237041090560, true)) ∨
    ((F.cls x == 5) = false ∧ (F.cls y == 5) = false ∧ (F.cls x == 4) = true ∧ (F.cls y == 4) = true ∧ qc x y = (9221120237041090560, true)) ∨
    ((F.cls x == 5) = false ∧ (F.cls y == 5) = false ∧ (F.cls x == 4) = true ∧ (F.cls y == 4) = false ∧ (F.cls x == 1) = false ∧ qc x y = (sp x y + 9218868437227405312, true)) ∨
    ((F.cls x == 5) = false ∧ (F.cls y == 5) = false ∧ (F.cls x == 4) = false ∧ (F.cls x == 1) = true ∧ (F.cls y == 1) = true ∧ qc x y = (9221120237041090560, true)) ∨
    ((F.cls x == 5) = false ∧ (F.cls y == 5) = false ∧ (F.cls x == 4) = false ∧ (F.cls x == 1) = false ∧ (F.cls y == 1) = true ∧ qc x y = (sp x y + 9218868437227405312, true)) ∨
    ((F.cls x == 5) = false ∧ (F.cls y == 5) = false ∧ (F.cls x == 4) = false ∧ (F.cls x == 1) = true ∧ (F.cls y == 1) = false ∧ qc x y = (sp x y, true)) ∨
    ((F.cls x == 5) = false ∧ (F.cls y == 5) = false ∧ (F.cls x == 4) = false ∧ (F.cls x == 1) = false ∧ (F.cls y == 1) = false ∧ (F.cls y == 4) = true ∧ qc x y = (sp x y, true)) ∨
    ((F.cls x == 5) = false ∧ (F.cls y == 5) = false ∧ (F.cls x == 4) = false ∧ (F.cls x == 1) = false ∧ (F.cls y == 1) = false ∧ (F.cls y == 4) = false ∧ qc x y = (0, false)) := by
  have a := F.cls_bd x
  have b := F.cls_bd y
  unfold qc
  generalize sp x y = s
  generalize F.cls x = cx at *
  generalize F.cls y = cy at *
  have kx : cx = 1 ∨ cx = 2 ∨ cx = 3 ∨ cx = 4 ∨ cx = 5 := by omega
  have ky : cy = 1 ∨ cy = 2 ∨ cy = 3 ∨ cy = 4 ∨ cy = 5 := by omega
  clear a b
  rcases kx with rfl | rfl | rfl | rfl | rfl <;> rcases ky with rfl | rfl | rfl | rfl | rfl
  all_goals (
    first
      | (rw [if_pos (by decide)]; simp; done)
      | (rw [if_neg (by decide), if_pos (by decide)]; simp; done)
      | (rw [if_neg (by decide), if_neg (by decide), if_pos (by decide)]; simp; done)
      | (rw [if_neg (by decide), if_neg (by decide), if_neg (by decide), if_pos (by decide)]; simp; done)
      | (rw [if_neg (by decide), if_neg (by decide), if_neg (by decide), if_neg (by decide)]; simp; done))
set_option maxRecDepth 100000 in
set_option maxHeartbeats 8000000 in
theorem QuotientOf_c (x y mode : Int) (w : World) (hx : 0 ≤ x ∧ x ≤ 18446744073709551615) (hy : 0 ≤ y ∧ y ≤ 18446744073709551615) (hm : 0 ≤ mode ∧ mode ≤ 4) :
    Calls Tryz.prog 8 #[.int .u64 x, .int .u64 y, .int .i64 mode] w fun e w' => e = .returned (.tuple #[.int .u64 (DT x y mode).1, .bool (DT x y mode).2.1]) ∧ Below w.heap.size w w' := by
  have MX : Hid (∀ W : World, Calls Tryz.prog 21 #[.int .u64 x] W fun e w' => e = .returned (.bool (F.sgn x)) ∧ W = w') := fun W => Minus_v x W
  have MY : Hid (∀ W : World, Calls Tryz.prog 21 #[.int .u64 y] W fun e w' => e = .returned (.bool (F.sgn y)) ∧ W = w') := fun W => Minus_v y W
  have NX : Hid (∀ W : World, Calls Tryz.prog 22 #[.int .u64 x] W fun e w' => e = .returned (.bool (F.cls x == 5)) ∧ W = w') := fun W => IsNan_c x hx.1 hx.2 W
  have NY : Hid (∀ W : World, Calls Tryz.prog 22 #[.int .u64 y] W fun e w' => e = .returned (.bool (F.cls y == 5)) ∧ W = w') := fun W => IsNan_c y hy.1 hy.2 W
  have IX : Hid (∀ W : World, Calls Tryz.prog 23 #[.int .u64 x] W fun e w' => e = .returned (.bool (F.cls x == 4)) ∧ W = w') := fun W => IsInf_c x hx.1 hx.2 W
  have IY : Hid (∀ W : World, Calls Tryz.prog 23 #[.int .u64 y] W fun e w' => e = .returned (.bool (F.cls y == 4)) ∧ W = w') := fun W => IsInf_c y hy.1 hy.2 W
  have ZX : Hid (∀ W : World, Calls Tryz.prog 24 #[.int .u64 x] W fun e w' => e = .returned (.bool (F.cls x == 1)) ∧ W = w') := fun W => IsZero_c x hx.1 hx.2 W
  have ZY : Hid (∀ W : World, Calls Tryz.prog 24 #[.int .u64 y] W fun e w' => e = .returned (.bool (F.cls y == 1)) ∧ W = w') := fun W => IsZero_c y hy.1 hy.2 W
  have QN : Hid (∀ W : World, Calls Tryz.prog 25 #[] W fun e w' => e = .returned (.int .u64 9221120237041090560) ∧ W = w') := fun W => QuietNan_c W
  have IB : Hid (∀ W : World, Calls Tryz.prog 27 #[] W fun e w' => e = .returned (.int .u64 9218868437227405312) ∧ W = w') := fun W => InfBits_c W
  have S1 : Hid (∀ (W : World) (b : Bool), Calls Tryz.prog 26 #[.int .u64 9218868437227405312, .bool b] W fun e w' => e = .returned (.int .u64 (if b = true then 9218868437227405312 + 9223372036854775808 else 9218868437227405312)) ∧ W = w') := fun W b => Signed_c _ b W (by omega) (by omega)
  have S0 : Hid (∀ (W : World) (b : Bool), Calls Tryz.prog 26 #[.int .u64 0, .bool b] W fun e w' => e = .returned (.int .u64 (if b = true then 0 + 9223372036854775808 else 0)) ∧ W = w') := fun W b => Signed_c _ b W (by omega) (by omega)
  have SB := Lib.hid (sp_b x y)
  obtain ⟨r, hr⟩ : ∃ r, DT x y mode = r := ⟨_, rfl⟩
  rw [hr]
  have bcr : ∀ v, qc x y = (v, true) → r = (v, false, 0) := fun v h => by rw [← hr, DT_qc hm (by rw [h]), h]
  rcases kindsQ x y with ⟨x5, hb⟩ | ⟨x5, y5, hb⟩ | ⟨x5, y5, x4, y4, hb⟩ | ⟨x5, y5, x4, y4, x1, hb⟩ | ⟨x5, y5, x4, x1, y1, hb⟩ | ⟨x5, y5, x4, x1, y1, hb⟩ | ⟨x5, y5, x4, x1, y1, hb⟩ | ⟨x5, y5, x4, x1, y1, y4, hb⟩ | ⟨x5, y5, x4, x1, y1, y4, hb⟩
  · have e := bcr _ hb
    subst e
    rw [x5] at NX
    generalize F.sgn x = sx at *
    generalize F.sgn y = sy at *
    generalize F.cls x = cx at *
    generalize F.cls y = cy at *
    generalize sp x y = s at *
    clear hr bcr hb hm hx hy x5
    go_enter Tryz.func8, Tryz.ntmps8
    go_wp2_with (first
      | (go_at_call 21; (with_reducible refine (MX.out _).mono ?_); rintro e w1 ⟨rfl, rfl⟩)
      | (go_at_call 21; (with_reducible refine (MY.out _).mono ?_); rintro e w2 ⟨rfl, rfl⟩)
      | (go_at_call 22; (with_reducible refine (NX.out _).mono ?_); rintro e w3 ⟨rfl, rfl⟩)
      | (go_at_call 22; (with_reducible refine (NY.out _).mono ?_); rintro e w4 ⟨rfl, rfl⟩)
      | (go_at_call 23; (with_reducible refine (IX.out _).mono ?_); rintro e w5 ⟨rfl, rfl⟩)
      | (go_at_call 23; (with_reducible refine (IY.out _).mono ?_); rintro e w6 ⟨rfl, rfl⟩)
      | (go_at_call 24; (with_reducible refine (ZX.out _).mono ?_); rintro e w7 ⟨rfl, rfl⟩)
      | (go_at_call 24; (with_reducible refine (ZY.out _).mono ?_); rintro e w8 ⟨rfl, rfl⟩)
      | (go_at_call 25; (with_reducible refine (QN.out _).mono ?_); rintro e w9 ⟨rfl, rfl⟩)
      | (go_at_call 27; (with_reducible refine (IB.out _).mono ?_); rintro e w10 ⟨rfl, rfl⟩)
      | (go_at_call 26; (with_reducible refine (S1.out _ _).mono ?_); rintro e w11 ⟨rfl, rfl⟩)
      | (go_at_call 26; (with_reducible refine (S0.out _ _).mono ?_); rintro e w12 ⟨rfl, rfl⟩))
    go_ret2
    exact ⟨rfl, Below.refl _ _⟩
  · have e := bcr _ hb
    subst e
    rw [x5] at NX
    rw [y5] at NY
    generalize F.sgn x = sx at *
    generalize F.sgn y = sy at *
    generalize F.cls x = cx at *
    generalize F.cls y = cy at *
    generalize sp x y = s at *
    clear hr bcr hb hm hx hy x5 y5
    go_enter Tryz.func8, Tryz.ntmps8
    go_wp2_with (first
      | (go_at_call 21; (with_reducible refine (MX.out _).mono ?_); rintro e w1 ⟨rfl, rfl⟩)
      | (go_at_call 21; (with_reducible refine (MY.out _).mono ?_); rintro e w2 ⟨rfl, rfl⟩)
      | (go_at_call 22; (with_reducible refine (NX.out _).mono ?_); rintro e w3 ⟨rfl, rfl⟩)
      | (go_at_call 22; (with_reducible refine (NY.out _).mono ?_); rintro e w4 ⟨rfl, rfl⟩)
      | (go_at_call 23; (with_reducible refine (IX.out _).mono ?_); rintro e w5 ⟨rfl, rfl⟩)
      | (go_at_call 23; (with_reducible refine (IY.out _).mono ?_); rintro e w6 ⟨rfl, rfl⟩)
      | (go_at_call 24; (with_reducible refine (ZX.out _).mono ?_); rintro e w7 ⟨rfl, rfl⟩)
      | (go_at_call 24; (with_reducible refine (ZY.out _).mono ?_); rintro e w8 ⟨rfl, rfl⟩)
      | (go_at_call 25; (with_reducible refine (QN.out _).mono ?_); rintro e w9 ⟨rfl, rfl⟩)
      | (go_at_call 27; (with_reducible refine (IB.out _).mono ?_); rintro e w10 ⟨rfl, rfl⟩)
      | (go_at_call 26; (with_reducible refine (S1.out _ _).mono ?_); rintro e w11 ⟨rfl, rfl⟩)
      | (go_at_call 26; (with_reducible refine (S0.out _ _).mono ?_); rintro e w12 ⟨rfl, rfl⟩))
    go_ret2
    exact ⟨rfl, Below.refl _ _⟩
  · have e := bcr _ hb
    subst e
    rw [x5] at NX
    rw [y5] at NY
    rw [x4] at IX
    rw [y4] at IY
    generalize F.sgn x = sx at *
    generalize F.sgn y = sy at *
    generalize F.cls x = cx at *
    generalize F.cls y = cy at *
    generalize sp x y = s at *
    clear hr bcr hb hm hx hy x5 y5 x4 y4
    go_enter Tryz.func8, Tryz.ntmps8
    go_wp2_with (first
      | (go_at_call 21; (with_reducible refine (MX.out _).mono ?_); rintro e w1 ⟨rfl, rfl⟩)
      | (go_at_call 21; (with_reducible refine (MY.out _).mono ?_); rintro e w2 ⟨rfl, rfl⟩)
      | (go_at_call 22; (with_reducible refine (NX.out _).mono ?_); rintro e w3 ⟨rfl, rfl⟩)
      | (go_at_call 22; (with_reducible refine (NY.out _).mono ?_); rintro e w4 ⟨rfl, rfl⟩)
      | (go_at_call 23; (with_reducible refine (IX.out _).mono ?_); rintro e w5 ⟨rfl, rfl⟩)
      | (go_at_call 23; (with_reducible refine (IY.out _).mono ?_); rintro e w6 ⟨rfl, rfl⟩)
      | (go_at_call 24; (with_reducible refine (ZX.out _).mono ?_); rintro e w7 ⟨rfl, rfl⟩)
      | (go_at_call 24; (with_reducible refine (ZY.out _).mono ?_); rintro e w8 ⟨rfl, rfl⟩)
      | (go_at_call 25; (with_reducible refine (QN.out _).mono ?_); rintro e w9 ⟨rfl, rfl⟩)
      | (go_at_call 27; (with_reducible refine (IB.out _).mono ?_); rintro e w10 ⟨rfl, rfl⟩)
      | (go_at_call 26; (with_reducible refine (S1.out _ _).mono ?_); rintro e w11 ⟨rfl, rfl⟩)
      | (go_at_call 26; (with_reducible refine (S0.out _ _).mono ?_); rintro e w12 ⟨rfl, rfl⟩))
    go_ret2
    exact ⟨rfl, Below.refl _ _⟩
  · have e := bcr _ hb
    subst e
    rw [x5] at NX
    rw [y5] at NY
    rw [x4] at IX
    rw [y4] at IY
    rw [x1] at ZX
    generalize F.sgn x = sx at *
    generalize F.sgn y = sy at *
    generalize F.cls x = cx at *
    generalize F.cls y = cy at *
    generalize sp x y = s at *
    clear hr bcr hb hm hx hy x5 y5 x4 y4 x1
    cases sx <;> cases sy
    all_goals (
      have hs := SB.out
      simp at hs
      subst hs
      clear SB
      go_enter Tryz.func8, Tryz.ntmps8
      go_wp2_with (first
        | (go_at_call 21; (with_reducible refine (MX.out _).mono ?_); rintro e w1 ⟨rfl, rfl⟩)
        | (go_at_call 21; (with_reducible refine (MY.out _).mono ?_); rintro e w2 ⟨rfl, rfl⟩)
        | (go_at_call 22; (with_reducible refine (NX.out _).mono ?_); rintro e w3 ⟨rfl, rfl⟩)
        | (go_at_call 22; (with_reducible refine (NY.out _).mono ?_); rintro e w4 ⟨rfl, rfl⟩)
        | (go_at_call 23; (with_reducible refine (IX.out _).mono ?_); rintro e w5 ⟨rfl, rfl⟩)
        | (go_at_call 23; (with_reducible refine (IY.out _).mono ?_); rintro e w6 ⟨rfl, rfl⟩)
        | (go_at_call 24; (with_reducible refine (ZX.out _).mono ?_); rintro e w7 ⟨rfl, rfl⟩)
        | (go_at_call 24; (with_reducible refine (ZY.out _).mono ?_); rintro e w8 ⟨rfl, rfl⟩)
        | (go_at_call 25; (with_reducible refine (QN.out _).mono ?_); rintro e w9 ⟨rfl, rfl⟩)
        | (go_at_call 27; (with_reducible refine (IB.out _).mono ?_); rintro e w10 ⟨rfl, rfl⟩)
        | (go_at_call 26; (with_reducible refine (S1.out _ _).mono ?_); rintro e w11 ⟨rfl, rfl⟩)
        | (go_at_call 26; (with_reducible refine (S0.out _ _).mono ?_); rintro e w12 ⟨rfl, rfl⟩))
      go_ret2
      exact ⟨rfl, Below.refl _ _⟩)
  · have e := bcr _ hb
    subst e
    rw [x5] at NX
    rw [y5] at NY
    rw [x4] at IX
    rw [x1] at ZX
    rw [y1] at ZY
    generalize F.sgn x = sx at *
    generalize F.sgn y = sy at *
    generalize F.cls x = cx at *
    generalize F.cls y = cy at *
    generalize sp x y = s at *
    clear hr bcr hb hm hx hy x5 y5 x4 x1 y1
    go_enter Tryz.func8, Tryz.ntmps8
    go_wp2_with (first
      | (go_at_call 21; (with_reducible refine (MX.out _).mono ?_); rintro e w1 ⟨rfl, rfl⟩)
      | (go_at_call 21; (with_reducible refine (MY.out _).mono ?_); rintro e w2 ⟨rfl, rfl⟩)
      | (go_at_call 22; (with_reducible refine (NX.out _).mono ?_); rintro e w3 ⟨rfl, rfl⟩)
      | (go_at_call 22; (with_reducible refine (NY.out _).mono ?_); rintro e w4 ⟨rfl, rfl⟩)
      | (go_at_call 23; (with_reducible refine (IX.out _).mono ?_); rintro e w5 ⟨rfl, rfl⟩)
      | (go_at_call 23; (with_reducible refine (IY.out _).mono ?_); rintro e w6 ⟨rfl, rfl⟩)
      | (go_at_call 24; (with_reducible refine (ZX.out _).mono ?_); rintro e w7 ⟨rfl, rfl⟩)
      | (go_at_call 24; (with_reducible refine (ZY.out _).mono ?_); rintro e w8 ⟨rfl, rfl⟩)
      | (go_at_call 25; (with_reducible refine (QN.out _).mono ?_); rintro e w9 ⟨rfl, rfl⟩)
      | (go_at_call 27; (with_reducible refine (IB.out _).mono ?_); rintro e w10 ⟨rfl, rfl⟩)
      | (go_at_call 26; (with_reducible refine (S1.out _ _).mono ?_); rintro e w11 ⟨rfl, rfl⟩)
      | (go_at_call 26; (with_reducible refine (S0.out _ _).mono ?_); rintro e w12 ⟨rfl, rfl⟩))
    go_ret2
    exact ⟨rfl, Below.refl _ _⟩
  · have e := bcr _ hb
    subst e
    rw [x5] at NX
    rw [y5] at NY
    rw [x4] at IX
    rw [x1] at ZX
    rw [y1] at ZY
    generalize F.sgn x = sx at *
    generalize F.sgn y = sy at *
    generalize F.cls x = cx at *
    generalize F.cls y = cy at *
    generalize sp x y = s at *
    clear hr bcr hb hm hx hy x5 y5 x4 x1 y1
    cases sx <;> cases sy
    all_goals (
      have hs := SB.out
      simp at hs
      subst hs
      clear SB
      go_enter Tryz.func8, Tryz.ntmps8
      go_wp2_with (first
        | (go_at_call 21; (with_reducible refine (MX.out _).mono ?_); rintro e w1 ⟨rfl, rfl⟩)
        | (go_at_call 21; (with_reducible refine (MY.out _).mono ?_); rintro e w2 ⟨rfl, rfl⟩)
        | (go_at_call 22; (with_reducible refine (NX.out _).mono ?_); rintro e w3 ⟨rfl, rfl⟩)
        | (go_at_call 22; (with_reducible refine (NY.out _).mono ?_); rintro e w4 ⟨rfl, rfl⟩)
        | (go_at_call 23; (with_reducible refine (IX.out _).mono ?_); rintro e w5 ⟨rfl, rfl⟩)
        | (go_at_call 23; (with_reducible refine (IY.out _).mono ?_); rintro e w6 ⟨rfl, rfl⟩)
        | (go_at_call 24; (with_reducible refine (ZX.out _).mono ?_); rintro e w7 ⟨rfl, rfl⟩)
        | (go_at_call 24; (with_reducible refine (ZY.out _).mono ?_); rintro e w8 ⟨rfl, rfl⟩)
        | (go_at_call 25; (with_reducible refine (QN.out _).mono ?_); rintro e w9 ⟨rfl, rfl⟩)
        | (go_at_call 27; (with_reducible refine (IB.out _).mono ?_); rintro e w10 ⟨rfl, rfl⟩)
        | (go_at_call 26; (with_reducible refine (S1.out _ _).mono ?_); rintro e w11 ⟨rfl, rfl⟩)
        | (go_at_call 26; (with_reducible refine (S0.out _ _).mono ?_); rintro e w12 ⟨rfl, rfl⟩))
      go_ret2
      exact ⟨rfl, Below.refl _ _⟩)
  · have e := bcr _ hb
    subst e
    rw [x5] at NX
    rw [y5] at NY
    rw [x4] at IX
    rw [x1] at ZX
    rw [y1] at ZY
    generalize F.sgn x = sx at *
    generalize F.sgn y = sy at *
    generalize F.cls x = cx at *
    generalize F.cls y = cy at *
    generalize sp x y = s at *
    clear hr bcr hb hm hx hy x5 y5 x4 x1 y1
    cases sx <;> cases sy
    all_goals (
      have hs := SB.out
      simp at hs
      subst hs
      clear SB
      go_enter Tryz.func8, Tryz.ntmps8
      go_wp2_with (first
        | (go_at_call 21; (with_reducible refine (MX.out _).mono ?_); rintro e w1 ⟨rfl, rfl⟩)
        | (go_at_call 21; (with_reducible refine (MY.out _).mono ?_); rintro e w2 ⟨rfl, rfl⟩)
        | (go_at_call 22; (with_reducible refine (NX.out _).mono ?_); rintro e w3 ⟨rfl, rfl⟩)
        | (go_at_call 22; (with_reducible refine (NY.out _).mono ?_); rintro e w4 ⟨rfl, rfl⟩)
        | (go_at_call 23; (with_reducible refine (IX.out _).mono ?_); rintro e w5 ⟨rfl, rfl⟩)
        | (go_at_call 23; (with_reducible refine (IY.out _).mono ?_); rintro e w6 ⟨rfl, rfl⟩)
        | (go_at_call 24; (with_reducible refine (ZX.out _).mono ?_); rintro e w7 ⟨rfl, rfl⟩)
        | (go_at_call 24; (with_reducible refine (ZY.out _).mono ?_); rintro e w8 ⟨rfl, rfl⟩)
        | (go_at_call 25; (with_reducible refine (QN.out _).mono ?_); rintro e w9 ⟨rfl, rfl⟩)
        | (go_at_call 27; (with_reducible refine (IB.out _).mono ?_); rintro e w10 ⟨rfl, rfl⟩)
        | (go_at_call 26; (with_reducible refine (S1.out _ _).mono ?_); rintro e w11 ⟨rfl, rfl⟩)
        | (go_at_call 26; (with_reducible refine (S0.out _ _).mono ?_); rintro e w12 ⟨rfl, rfl⟩))
      go_ret2
      exact ⟨rfl, Below.refl _ _⟩)
  · have e := bcr _ hb
    subst e
    rw [x5] at NX
    rw [y5] at NY
    rw [x4] at IX
    rw [x1] at ZX
    rw [y1] at ZY
    rw [y4] at IY
    generalize F.sgn x = sx at *
    generalize F.sgn y = sy at *
    generalize F.cls x = cx at *
    generalize F.cls y = cy at *
    generalize sp x y = s at *
    clear hr bcr hb hm hx hy x5 y5 x4 x1 y1 y4
    cases sx <;> cases sy
    all_goals (
      have hs := SB.out
      simp at hs
      subst hs
      clear SB
      go_enter Tryz.func8, Tryz.ntmps8
      go_wp2_with (first
        | (go_at_call 21; (with_reducible refine (MX.out _).mono ?_); rintro e w1 ⟨rfl, rfl⟩)
        | (go_at_call 21; (with_reducible refine (MY.out _).mono ?_); rintro e w2 ⟨rfl, rfl⟩)
        | (go_at_call 22; (with_reducible refine (NX.out _).mono ?_); rintro e w3 ⟨rfl, rfl⟩)
        | (go_at_call 22; (with_reducible refine (NY.out _).mono ?_); rintro e w4 ⟨rfl, rfl⟩)
        | (go_at_call 23; (with_reducible refine (IX.out _).mono ?_); rintro e w5 ⟨rfl, rfl⟩)
        | (go_at_call 23; (with_reducible refine (IY.out _).mono ?_); rintro e w6 ⟨rfl, rfl⟩)
        | (go_at_call 24; (with_reducible refine (ZX.out _).mono ?_); rintro e w7 ⟨rfl, rfl⟩)
        | (go_at_call 24; (with_reducible refine (ZY.out _).mono ?_); rintro e w8 ⟨rfl, rfl⟩)
        | (go_at_call 25; (with_reducible refine (QN.out _).mono ?_); rintro e w9 ⟨rfl, rfl⟩)
        | (go_at_call 27; (with_reducible refine (IB.out _).mono ?_); rintro e w10 ⟨rfl, rfl⟩)
        | (go_at_call 26; (with_reducible refine (S1.out _ _).mono ?_); rintro e w11 ⟨rfl, rfl⟩)
        | (go_at_call 26; (with_reducible refine (S0.out _ _).mono ?_); rintro e w12 ⟨rfl, rfl⟩))
      go_ret2
      exact ⟨rfl, Below.refl _ _⟩)
  · obtain ⟨fx, fy, vx, vy⟩ := (qc_no hx hy).1 (by rw [hb])
    obtain ⟨M0, hM0⟩ : ∃ M0 : Nat, M0 = 2200 := ⟨_, rfl⟩
    obtain ⟨T0, hT0⟩ : ∃ T0 : Nat, T0 = 1100 := ⟨_, rfl⟩
    have QVx : Hid (∀ (W : World), Calls Tryz.prog 29 #[.int .u64 x] W (RetSF M0 T0 W (val x))) := fun W => by rw [hM0, hT0]; exact QVal_v x W fx
    have QVy : Hid (∀ (W : World), Calls Tryz.prog 29 #[.int .u64 y] W (RetSF M0 T0 W (val y))) := fun W => by rw [hM0, hT0]; exact QVal_v y W fy
    have RR : Hid (∀ (W : World) (u v : Value), QS M0 T0 W u (val x) → QS M0 T0 W v (val y) → Calls Tryz.prog 28 #[u, v, .int .i64 mode] W fun e w' => e = .returned (.tuple #[.int .u64 r.1, .bool r.2.1]) ∧ Below W.heap.size W w') := fun W u v h1 h2 => by
      have := RatioRounded_c x y mode u v W fx fy vx vy hm hM0 hT0 h1 h2
      rw [hr] at this
      exact this
    obtain ⟨ra, rb, rc⟩ := r
    dsimp only at RR ⊢
    rw [x5] at NX
    rw [y5] at NY
    rw [x4] at IX
    rw [x1] at ZX
    rw [y1] at ZY
    rw [y4] at IY
    generalize val x = vvx at *
    generalize val y = vvy at *
    generalize F.sgn x = sx at *
    generalize F.sgn y = sy at *
    generalize F.cls x = cx at *
    generalize F.cls y = cy at *
    generalize sp x y = s at *
    clear hr bcr hb hm hx hy fx fy vx vy hM0 hT0 SB x5 y5 x4 x1 y1 y4
    go_enter Tryz.func8, Tryz.ntmps8
    go_wp2_with (first
      | (go_at_call 21; (with_reducible refine (MX.out _).mono ?_); rintro e w1 ⟨rfl, rfl⟩)
      | (go_at_call 21; (with_reducible refine (MY.out _).mono ?_); rintro e w2 ⟨rfl, rfl⟩)
      | (go_at_call 22; (with_reducible refine (NX.out _).mono ?_); rintro e w3 ⟨rfl, rfl⟩)
      | (go_at_call 22; (with_reducible refine (NY.out _).mono ?_); rintro e w4 ⟨rfl, rfl⟩)
      | (go_at_call 23; (with_reducible refine (IX.out _).mono ?_); rintro e w5 ⟨rfl, rfl⟩)
      | (go_at_call 23; (with_reducible refine (IY.out _).mono ?_); rintro e w6 ⟨rfl, rfl⟩)
      | (go_at_call 24; (with_reducible refine (ZX.out _).mono ?_); rintro e w7 ⟨rfl, rfl⟩)
      | (go_at_call 24; (with_reducible refine (ZY.out _).mono ?_); rintro e w8 ⟨rfl, rfl⟩)
      | (go_at_call 25; (with_reducible refine (QN.out _).mono ?_); rintro e w9 ⟨rfl, rfl⟩)
      | (go_at_call 27; (with_reducible refine (IB.out _).mono ?_); rintro e w10 ⟨rfl, rfl⟩)
      | (go_at_call 26; (with_reducible refine (S1.out _ _).mono ?_); rintro e w11 ⟨rfl, rfl⟩)
      | (go_at_call 26; (with_reducible refine (S0.out _ _).mono ?_); rintro e w12 ⟨rfl, rfl⟩)
      | (go_at_call 29; (with_reducible refine (QVx.out _).mono ?_); rintro e w13 ⟨b1, A1, n1, c1, t1, z1, rfl, r1, r2, r3, r4, r5, r6, hb⟩; have Q1 := Lib.hid (RetS.qs r1 r2 r3 r4 r5); have D := Lib.hid hb; clear r1 r2 r3 r4 r5 r6 hb)
      | (go_at_call 29; (with_reducible refine (QVy.out _).mono ?_); rintro e w14 ⟨b2, A2, n2, c2, t2, z2, rfl, r1, r2, r3, r4, r5, r6, hb⟩; have Q1 := Lib.hid (Q1.out.below hb); have Q2 := Lib.hid (RetS.qs r1 r2 r3 r4 r5); have D := Lib.hid (D.out.trans (hb.mono D.out.size)); clear r1 r2 r3 r4 r5 r6 hb)
      | (go_at_call 28; (with_reducible refine (RR.out _ _ _ Q1.out Q2.out).mono ?_); rintro e w15 ⟨rfl, hb⟩; have D := Lib.hid (D.out.trans (hb.mono D.out.size)); clear hb))
    go_ret2
    exact ⟨rfl, D.out⟩
end JC
end Go.Proofs.YtpmjeipdldnnbaaGreatDoor
