/-
  The document's fused sum.
-/
import Derived.Test.YtjplemfdhhkbaaaGreatDoorP11
import Derived.Test.YtjplemfdhhkbaaaGreatDoorF1
namespace Go.Proofs.YtjplemfdhhkbaaaGreatDoor
set_option linter.unusedVariables false
set_option linter.unusedSimpArgs false
open Go.RowKit
set_option linter.unusedVariables false
set_option linter.unusedSimpArgs false
namespace PC
open Z (Nz Tz cmpv big)
open ZC DC RC QC SC VC
theorem cmp0 (a : Int) : (cmpv a 0 = 0 ∧ a = 0) ∨ ((cmpv a 0 != 0) = true ∧ (cmpv a 0 == 0) = false ∧ a ≠ 0) := by
  rcases cmpv3 a 0 with ⟨e, h⟩ | ⟨e, h⟩ | ⟨e, h⟩
  · right; rw [e]; exact ⟨rfl, rfl, by omega⟩
  · left; exact ⟨e, h⟩
  · right; rw [e]; exact ⟨rfl, rfl, by omega⟩
set_option maxRecDepth 100000 in
set_option maxHeartbeats 8000000 in
theorem FusedOf_c (x y z mode : Int) (w : World) (hx : 0 ≤ x ∧ x ≤ 18446744073709551615) (hy : 0 ≤ y ∧ y ≤ 18446744073709551615) (hz : 0 ≤ z ∧ z ≤ 18446744073709551615) (hm : 0 ≤ mode ∧ mode ≤ 4) :
    Calls Tryz.prog 10 #[.int .u64 x, .int .u64 y, .int .u64 z, .int .i64 mode] w fun e w' => e = .returned (.tuple #[.int .u64 (FT x y z mode).1, .bool (FT x y z mode).2.1]) ∧ Below w.heap.size w w' := by
  have MX : Hid (∀ W : World, Calls Tryz.prog 19 #[.int .u64 x] W fun e w' => e = .returned (.bool (F.sgn x)) ∧ W = w') := fun W => Minus_v x W
  have MY : Hid (∀ W : World, Calls Tryz.prog 19 #[.int .u64 y] W fun e w' => e = .returned (.bool (F.sgn y)) ∧ W = w') := fun W => Minus_v y W
  have NX : Hid (∀ W : World, Calls Tryz.prog 20 #[.int .u64 x] W fun e w' => e = .returned (.bool (F.cls x == 5)) ∧ W = w') := fun W => IsNan_c x hx.1 hx.2 W
  have NY : Hid (∀ W : World, Calls Tryz.prog 20 #[.int .u64 y] W fun e w' => e = .returned (.bool (F.cls y == 5)) ∧ W = w') := fun W => IsNan_c y hy.1 hy.2 W
  have IX : Hid (∀ W : World, Calls Tryz.prog 21 #[.int .u64 x] W fun e w' => e = .returned (.bool (F.cls x == 4)) ∧ W = w') := fun W => IsInf_c x hx.1 hx.2 W
  have IY : Hid (∀ W : World, Calls Tryz.prog 21 #[.int .u64 y] W fun e w' => e = .returned (.bool (F.cls y == 4)) ∧ W = w') := fun W => IsInf_c y hy.1 hy.2 W
  have ZX : Hid (∀ W : World, Calls Tryz.prog 22 #[.int .u64 x] W fun e w' => e = .returned (.bool (F.cls x == 1)) ∧ W = w') := fun W => IsZero_c x hx.1 hx.2 W
  have ZY : Hid (∀ W : World, Calls Tryz.prog 22 #[.int .u64 y] W fun e w' => e = .returned (.bool (F.cls y == 1)) ∧ W = w') := fun W => IsZero_c y hy.1 hy.2 W
  have QN : Hid (∀ W : World, Calls Tryz.prog 23 #[] W fun e w' => e = .returned (.int .u64 9221120237041090560) ∧ W = w') := fun W => QuietNan_c W
  have IB : Hid (∀ W : World, Calls Tryz.prog 25 #[] W fun e w' => e = .returned (.int .u64 9218868437227405312) ∧ W = w') := fun W => InfBits_c W
  have S1 : Hid (∀ (W : World) (b : Bool), Calls Tryz.prog 24 #[.int .u64 9218868437227405312, .bool b] W fun e w' => e = .returned (.int .u64 (if b = true then 9218868437227405312 + 9223372036854775808 else 9218868437227405312)) ∧ W = w') := fun W b => Signed_c _ b W (by omega) (by omega)
  have S0 : Hid (∀ (W : World) (b : Bool), Calls Tryz.prog 24 #[.int .u64 0, .bool b] W fun e w' => e = .returned (.int .u64 (if b = true then 0 + 9223372036854775808 else 0)) ∧ W = w') := fun W b => Signed_c _ b W (by omega) (by omega)
  have NZ : Hid (∀ W : World, Calls Tryz.prog 20 #[.int .u64 z] W fun e w' => e = .returned (.bool (F.cls z == 5)) ∧ W = w') := fun W => IsNan_c z hz.1 hz.2 W
  have IZ : Hid (∀ W : World, Calls Tryz.prog 21 #[.int .u64 z] W fun e w' => e = .returned (.bool (F.cls z == 4)) ∧ W = w') := fun W => IsInf_c z hz.1 hz.2 W
  have SUM : ∀ a : Int, 0 ≤ a ∧ a ≤ 18446744073709551615 → ∀ W : World, Calls Tryz.prog 29 #[.slice (some ⟨W.heap.size, 0, none⟩) 2 2, .int .i64 mode] (W.alloc (.cells #[.int .u64 a, .int .u64 z] 22)) fun e w' => e = .returned (.tuple #[.int .u64 (AT [a, z] mode).1, .bool (AT [a, z] mode).2.1]) ∧ Below W.heap.size W w' := fun a ha W => by
    have D0 := al1 W (.cells #[.int .u64 a, .int .u64 z] 22)
    have hs : Sl .u64 (W.alloc (.cells #[.int .u64 a, .int .u64 z] 22)) (.slice (some ⟨W.heap.size, 0, none⟩) 2 2) [a, z] := Row.sl (k := .u64) (e := 22) (L := [a, z]) (Blk.new W 22 #[.int .u64 a, .int .u64 z]) 2 (by simp)
    have := SumOf_c _ _ _ _ mode _ hs (u2 ha hz) (by simp) hm
    rw [SO_of hm ha hz]
    refine this.mono ?_
    rintro e w' ⟨rfl, hb⟩
    exact ⟨rfl, D0.trans (hb.mono D0.size)⟩
  have SB := Lib.hid (sp_b x y)
  obtain ⟨r, hr⟩ : ∃ r, FT x y z mode = r := ⟨_, rfl⟩
  rw [hr]
  have kk := kinds2 x y
  by_cases z5 : F.cls z = 5
  · have e := FT_nz hm hx hy hz z5
    rw [hr] at e
    subst e
    rw [z5] at NZ
    have kk2 : (F.cls x == 5) = true ∨ ((F.cls x == 5) = false ∧ (F.cls y == 5) = true) ∨ ((F.cls x == 5) = false ∧ (F.cls y == 5) = false) := by
      cases F.cls x == 5 <;> cases F.cls y == 5 <;> simp
    clear kk hr SUM SB hm hx hy hz z5
    generalize F.sgn x = sx at *
    generalize F.sgn y = sy at *
    rcases kk2 with x5 | ⟨x5, y5⟩ | ⟨x5, y5⟩
    · rw [x5] at NX
      clear x5
      generalize F.cls x = cx at *
      generalize F.cls y = cy at *
      go_enter Tryz.func10, Tryz.ntmps10
      go_wp2_with (first
        | (go_at_call 19; (with_reducible refine (MX.out _).mono ?_); rintro e w1 ⟨rfl, rfl⟩)
        | (go_at_call 19; (with_reducible refine (MY.out _).mono ?_); rintro e w2 ⟨rfl, rfl⟩)
        | (go_at_call 20; (with_reducible refine (NX.out _).mono ?_); rintro e w3 ⟨rfl, rfl⟩)
        | (go_at_call 20; (with_reducible refine (NY.out _).mono ?_); rintro e w4 ⟨rfl, rfl⟩)
        | (go_at_call 20; (with_reducible refine (NZ.out _).mono ?_); rintro e w4 ⟨rfl, rfl⟩)
        | (go_at_call 21; (with_reducible refine (IX.out _).mono ?_); rintro e w5 ⟨rfl, rfl⟩)
        | (go_at_call 21; (with_reducible refine (IY.out _).mono ?_); rintro e w6 ⟨rfl, rfl⟩)
        | (go_at_call 21; (with_reducible refine (IZ.out _).mono ?_); rintro e w6 ⟨rfl, rfl⟩)
        | (go_at_call 22; (with_reducible refine (ZX.out _).mono ?_); rintro e w7 ⟨rfl, rfl⟩)
        | (go_at_call 22; (with_reducible refine (ZY.out _).mono ?_); rintro e w8 ⟨rfl, rfl⟩)
        | (go_at_call 23; (with_reducible refine (QN.out _).mono ?_); rintro e w9 ⟨rfl, rfl⟩)
        | (go_at_call 25; (with_reducible refine (IB.out _).mono ?_); rintro e w10 ⟨rfl, rfl⟩)
        | (go_at_call 24; (with_reducible refine (S1.out _ _).mono ?_); rintro e w11 ⟨rfl, rfl⟩)
        | (go_at_call 24; (with_reducible refine (S0.out _ _).mono ?_); rintro e w12 ⟨rfl, rfl⟩))
      go_ret2
      exact ⟨rfl, Below.refl _ _⟩
    · rw [x5] at NX; rw [y5] at NY
      clear x5 y5
      generalize F.cls x = cx at *
      generalize F.cls y = cy at *
      go_enter Tryz.func10, Tryz.ntmps10
      go_wp2_with (first
        | (go_at_call 19; (with_reducible refine (MX.out _).mono ?_); rintro e w1 ⟨rfl, rfl⟩)
        | (go_at_call 19; (with_reducible refine (MY.out _).mono ?_); rintro e w2 ⟨rfl, rfl⟩)
        | (go_at_call 20; (with_reducible refine (NX.out _).mono ?_); rintro e w3 ⟨rfl, rfl⟩)
        | (go_at_call 20; (with_reducible refine (NY.out _).mono ?_); rintro e w4 ⟨rfl, rfl⟩)
        | (go_at_call 20; (with_reducible refine (NZ.out _).mono ?_); rintro e w4 ⟨rfl, rfl⟩)
        | (go_at_call 21; (with_reducible refine (IX.out _).mono ?_); rintro e w5 ⟨rfl, rfl⟩)
        | (go_at_call 21; (with_reducible refine (IY.out _).mono ?_); rintro e w6 ⟨rfl, rfl⟩)
        | (go_at_call 21; (with_reducible refine (IZ.out _).mono ?_); rintro e w6 ⟨rfl, rfl⟩)
        | (go_at_call 22; (with_reducible refine (ZX.out _).mono ?_); rintro e w7 ⟨rfl, rfl⟩)
        | (go_at_call 22; (with_reducible refine (ZY.out _).mono ?_); rintro e w8 ⟨rfl, rfl⟩)
        | (go_at_call 23; (with_reducible refine (QN.out _).mono ?_); rintro e w9 ⟨rfl, rfl⟩)
        | (go_at_call 25; (with_reducible refine (IB.out _).mono ?_); rintro e w10 ⟨rfl, rfl⟩)
        | (go_at_call 24; (with_reducible refine (S1.out _ _).mono ?_); rintro e w11 ⟨rfl, rfl⟩)
        | (go_at_call 24; (with_reducible refine (S0.out _ _).mono ?_); rintro e w12 ⟨rfl, rfl⟩))
      go_ret2
      exact ⟨rfl, Below.refl _ _⟩
    · rw [x5] at NX; rw [y5] at NY
      clear x5 y5
      generalize F.cls x = cx at *
      generalize F.cls y = cy at *
      go_enter Tryz.func10, Tryz.ntmps10
      go_wp2_with (first
        | (go_at_call 19; (with_reducible refine (MX.out _).mono ?_); rintro e w1 ⟨rfl, rfl⟩)
        | (go_at_call 19; (with_reducible refine (MY.out _).mono ?_); rintro e w2 ⟨rfl, rfl⟩)
        | (go_at_call 20; (with_reducible refine (NX.out _).mono ?_); rintro e w3 ⟨rfl, rfl⟩)
        | (go_at_call 20; (with_reducible refine (NY.out _).mono ?_); rintro e w4 ⟨rfl, rfl⟩)
        | (go_at_call 20; (with_reducible refine (NZ.out _).mono ?_); rintro e w4 ⟨rfl, rfl⟩)
        | (go_at_call 21; (with_reducible refine (IX.out _).mono ?_); rintro e w5 ⟨rfl, rfl⟩)
        | (go_at_call 21; (with_reducible refine (IY.out _).mono ?_); rintro e w6 ⟨rfl, rfl⟩)
        | (go_at_call 21; (with_reducible refine (IZ.out _).mono ?_); rintro e w6 ⟨rfl, rfl⟩)
        | (go_at_call 22; (with_reducible refine (ZX.out _).mono ?_); rintro e w7 ⟨rfl, rfl⟩)
        | (go_at_call 22; (with_reducible refine (ZY.out _).mono ?_); rintro e w8 ⟨rfl, rfl⟩)
        | (go_at_call 23; (with_reducible refine (QN.out _).mono ?_); rintro e w9 ⟨rfl, rfl⟩)
        | (go_at_call 25; (with_reducible refine (IB.out _).mono ?_); rintro e w10 ⟨rfl, rfl⟩)
        | (go_at_call 24; (with_reducible refine (S1.out _ _).mono ?_); rintro e w11 ⟨rfl, rfl⟩)
        | (go_at_call 24; (with_reducible refine (S0.out _ _).mono ?_); rintro e w12 ⟨rfl, rfl⟩))
      go_ret2
      exact ⟨rfl, Below.refl _ _⟩
  · have z5' : (F.cls z == 5) = false := beq_eq_false_iff_ne.2 z5
    rw [z5'] at NZ
    clear z5'
    rcases kk with ⟨x5, hb⟩ | ⟨x5, y5, hb⟩ | ⟨x5, y5, x4, y1, hb⟩ | ⟨x5, y5, x4, y1, x1, hb⟩ | ⟨x5, y5, x4, x1, y4, hb⟩ | ⟨x5, y5, x4, x1, y4, hb⟩ | ⟨x5, y5, x4, y4, x1, hb⟩ | ⟨x5, y5, x4, y4, x1, y1, hb⟩ | ⟨x5, y5, x4, y4, x1, y1, hb⟩
    · have e : r = (9221120237041090560, false, 0) := by rw [← hr, FT_bc hm (by rw [hb]), hb]; exact AT_nan hm (by omega) hz (by decide)
      subst e
      rw [x5] at NX
      clear hr SUM SB hm hx hy hz z5 hb x5
      generalize F.sgn x = sx at *
      generalize F.sgn y = sy at *
      generalize F.cls x = cx at *
      generalize F.cls y = cy at *
      generalize F.cls z = cz at *
      go_enter Tryz.func10, Tryz.ntmps10
      go_wp2_with (first
        | (go_at_call 19; (with_reducible refine (MX.out _).mono ?_); rintro e w1 ⟨rfl, rfl⟩)
        | (go_at_call 19; (with_reducible refine (MY.out _).mono ?_); rintro e w2 ⟨rfl, rfl⟩)
        | (go_at_call 20; (with_reducible refine (NX.out _).mono ?_); rintro e w3 ⟨rfl, rfl⟩)
        | (go_at_call 20; (with_reducible refine (NY.out _).mono ?_); rintro e w4 ⟨rfl, rfl⟩)
        | (go_at_call 20; (with_reducible refine (NZ.out _).mono ?_); rintro e w4 ⟨rfl, rfl⟩)
        | (go_at_call 21; (with_reducible refine (IX.out _).mono ?_); rintro e w5 ⟨rfl, rfl⟩)
        | (go_at_call 21; (with_reducible refine (IY.out _).mono ?_); rintro e w6 ⟨rfl, rfl⟩)
        | (go_at_call 21; (with_reducible refine (IZ.out _).mono ?_); rintro e w6 ⟨rfl, rfl⟩)
        | (go_at_call 22; (with_reducible refine (ZX.out _).mono ?_); rintro e w7 ⟨rfl, rfl⟩)
        | (go_at_call 22; (with_reducible refine (ZY.out _).mono ?_); rintro e w8 ⟨rfl, rfl⟩)
        | (go_at_call 23; (with_reducible refine (QN.out _).mono ?_); rintro e w9 ⟨rfl, rfl⟩)
        | (go_at_call 25; (with_reducible refine (IB.out _).mono ?_); rintro e w10 ⟨rfl, rfl⟩)
        | (go_at_call 24; (with_reducible refine (S1.out _ _).mono ?_); rintro e w11 ⟨rfl, rfl⟩)
        | (go_at_call 24; (with_reducible refine (S0.out _ _).mono ?_); rintro e w12 ⟨rfl, rfl⟩))
      go_ret2
      exact ⟨rfl, Below.refl _ _⟩
    · have e : r = (9221120237041090560, false, 0) := by rw [← hr, FT_bc hm (by rw [hb]), hb]; exact AT_nan hm (by omega) hz (by decide)
      subst e
      rw [x5] at NX
      rw [y5] at NY
      clear hr SUM SB hm hx hy hz z5 hb x5 y5
      generalize F.sgn x = sx at *
      generalize F.sgn y = sy at *
      generalize F.cls x = cx at *
      generalize F.cls y = cy at *
      generalize F.cls z = cz at *
      go_enter Tryz.func10, Tryz.ntmps10
      go_wp2_with (first
        | (go_at_call 19; (with_reducible refine (MX.out _).mono ?_); rintro e w1 ⟨rfl, rfl⟩)
        | (go_at_call 19; (with_reducible refine (MY.out _).mono ?_); rintro e w2 ⟨rfl, rfl⟩)
        | (go_at_call 20; (with_reducible refine (NX.out _).mono ?_); rintro e w3 ⟨rfl, rfl⟩)
        | (go_at_call 20; (with_reducible refine (NY.out _).mono ?_); rintro e w4 ⟨rfl, rfl⟩)
        | (go_at_call 20; (with_reducible refine (NZ.out _).mono ?_); rintro e w4 ⟨rfl, rfl⟩)
        | (go_at_call 21; (with_reducible refine (IX.out _).mono ?_); rintro e w5 ⟨rfl, rfl⟩)
        | (go_at_call 21; (with_reducible refine (IY.out _).mono ?_); rintro e w6 ⟨rfl, rfl⟩)
        | (go_at_call 21; (with_reducible refine (IZ.out _).mono ?_); rintro e w6 ⟨rfl, rfl⟩)
        | (go_at_call 22; (with_reducible refine (ZX.out _).mono ?_); rintro e w7 ⟨rfl, rfl⟩)
        | (go_at_call 22; (with_reducible refine (ZY.out _).mono ?_); rintro e w8 ⟨rfl, rfl⟩)
        | (go_at_call 23; (with_reducible refine (QN.out _).mono ?_); rintro e w9 ⟨rfl, rfl⟩)
        | (go_at_call 25; (with_reducible refine (IB.out _).mono ?_); rintro e w10 ⟨rfl, rfl⟩)
        | (go_at_call 24; (with_reducible refine (S1.out _ _).mono ?_); rintro e w11 ⟨rfl, rfl⟩)
        | (go_at_call 24; (with_reducible refine (S0.out _ _).mono ?_); rintro e w12 ⟨rfl, rfl⟩))
      go_ret2
      exact ⟨rfl, Below.refl _ _⟩
    · have e : r = (9221120237041090560, false, 0) := by rw [← hr, FT_bc hm (by rw [hb]), hb]; exact AT_nan hm (by omega) hz (by decide)
      subst e
      rw [x5] at NX
      rw [y5] at NY
      rw [x4] at IX
      rw [y1] at ZY
      clear hr SUM SB hm hx hy hz z5 hb x5 y5 x4 y1
      generalize F.sgn x = sx at *
      generalize F.sgn y = sy at *
      generalize F.cls x = cx at *
      generalize F.cls y = cy at *
      generalize F.cls z = cz at *
      go_enter Tryz.func10, Tryz.ntmps10
      go_wp2_with (first
        | (go_at_call 19; (with_reducible refine (MX.out _).mono ?_); rintro e w1 ⟨rfl, rfl⟩)
        | (go_at_call 19; (with_reducible refine (MY.out _).mono ?_); rintro e w2 ⟨rfl, rfl⟩)
        | (go_at_call 20; (with_reducible refine (NX.out _).mono ?_); rintro e w3 ⟨rfl, rfl⟩)
        | (go_at_call 20; (with_reducible refine (NY.out _).mono ?_); rintro e w4 ⟨rfl, rfl⟩)
        | (go_at_call 20; (with_reducible refine (NZ.out _).mono ?_); rintro e w4 ⟨rfl, rfl⟩)
        | (go_at_call 21; (with_reducible refine (IX.out _).mono ?_); rintro e w5 ⟨rfl, rfl⟩)
        | (go_at_call 21; (with_reducible refine (IY.out _).mono ?_); rintro e w6 ⟨rfl, rfl⟩)
        | (go_at_call 21; (with_reducible refine (IZ.out _).mono ?_); rintro e w6 ⟨rfl, rfl⟩)
        | (go_at_call 22; (with_reducible refine (ZX.out _).mono ?_); rintro e w7 ⟨rfl, rfl⟩)
        | (go_at_call 22; (with_reducible refine (ZY.out _).mono ?_); rintro e w8 ⟨rfl, rfl⟩)
        | (go_at_call 23; (with_reducible refine (QN.out _).mono ?_); rintro e w9 ⟨rfl, rfl⟩)
        | (go_at_call 25; (with_reducible refine (IB.out _).mono ?_); rintro e w10 ⟨rfl, rfl⟩)
        | (go_at_call 24; (with_reducible refine (S1.out _ _).mono ?_); rintro e w11 ⟨rfl, rfl⟩)
        | (go_at_call 24; (with_reducible refine (S0.out _ _).mono ?_); rintro e w12 ⟨rfl, rfl⟩))
      go_ret2
      exact ⟨rfl, Below.refl _ _⟩
    · have bb := bc_bd x y
      rw [hb] at bb
      have e : r = AT [sp x y + 9218868437227405312, z] mode := by rw [← hr, FT_bc hm (by rw [hb]), hb]
      obtain ⟨v, hv⟩ : ∃ v, sp x y + 9218868437227405312 = v := ⟨_, rfl⟩
      rw [hv] at bb e
      have SU := Lib.hid (SUM v bb)
      rw [← e] at SU
      have SBV : Hid (v = if (F.sgn x != F.sgn y) = true then 18442240474082181120 else 9218868437227405312) := by show _ = _; rw [← hv, SB.out]; split <;> rfl
      rw [x5] at NX
      rw [y5] at NY
      rw [x4] at IX
      rw [y1] at ZY
      rw [x1] at ZX
      clear hr SUM e bb hv SB hm hx hy hz z5 hb x5 y5 x4 y1 x1
      generalize F.sgn x = sx at *
      generalize F.sgn y = sy at *
      generalize F.cls x = cx at *
      generalize F.cls y = cy at *
      generalize F.cls z = cz at *
      cases sx <;> cases sy
      all_goals (
        have hs := SBV.out
        simp at hs
        subst hs
        clear SBV
        go_enter Tryz.func10, Tryz.ntmps10
        go_wp2_with (first
          | (go_at_call 19; (with_reducible refine (MX.out _).mono ?_); rintro e w1 ⟨rfl, rfl⟩)
          | (go_at_call 19; (with_reducible refine (MY.out _).mono ?_); rintro e w2 ⟨rfl, rfl⟩)
          | (go_at_call 20; (with_reducible refine (NX.out _).mono ?_); rintro e w3 ⟨rfl, rfl⟩)
          | (go_at_call 20; (with_reducible refine (NY.out _).mono ?_); rintro e w4 ⟨rfl, rfl⟩)
          | (go_at_call 20; (with_reducible refine (NZ.out _).mono ?_); rintro e w4 ⟨rfl, rfl⟩)
          | (go_at_call 21; (with_reducible refine (IX.out _).mono ?_); rintro e w5 ⟨rfl, rfl⟩)
          | (go_at_call 21; (with_reducible refine (IY.out _).mono ?_); rintro e w6 ⟨rfl, rfl⟩)
          | (go_at_call 21; (with_reducible refine (IZ.out _).mono ?_); rintro e w6 ⟨rfl, rfl⟩)
          | (go_at_call 22; (with_reducible refine (ZX.out _).mono ?_); rintro e w7 ⟨rfl, rfl⟩)
          | (go_at_call 22; (with_reducible refine (ZY.out _).mono ?_); rintro e w8 ⟨rfl, rfl⟩)
          | (go_at_call 23; (with_reducible refine (QN.out _).mono ?_); rintro e w9 ⟨rfl, rfl⟩)
          | (go_at_call 25; (with_reducible refine (IB.out _).mono ?_); rintro e w10 ⟨rfl, rfl⟩)
          | (go_at_call 24; (with_reducible refine (S1.out _ _).mono ?_); rintro e w11 ⟨rfl, rfl⟩)
          | (go_at_call 24; (with_reducible refine (S0.out _ _).mono ?_); rintro e w12 ⟨rfl, rfl⟩)
          | (go_at_call 29; (with_reducible refine (SU.out _).mono ?_); rintro e w20 ⟨rfl, hb⟩; have D := Lib.hid hb; clear hb))
        go_ret2
        exact ⟨rfl, D.out⟩)
    · have e : r = (9221120237041090560, false, 0) := by rw [← hr, FT_bc hm (by rw [hb]), hb]; exact AT_nan hm (by omega) hz (by decide)
      subst e
      rw [x5] at NX
      rw [y5] at NY
      rw [x4] at IX
      rw [x1] at ZX
      rw [y4] at IY
      clear hr SUM SB hm hx hy hz z5 hb x5 y5 x4 x1 y4
      generalize F.sgn x = sx at *
      generalize F.sgn y = sy at *
      generalize F.cls x = cx at *
      generalize F.cls y = cy at *
      generalize F.cls z = cz at *
      go_enter Tryz.func10, Tryz.ntmps10
      go_wp2_with (first
        | (go_at_call 19; (with_reducible refine (MX.out _).mono ?_); rintro e w1 ⟨rfl, rfl⟩)
        | (go_at_call 19; (with_reducible refine (MY.out _).mono ?_); rintro e w2 ⟨rfl, rfl⟩)
        | (go_at_call 20; (with_reducible refine (NX.out _).mono ?_); rintro e w3 ⟨rfl, rfl⟩)
        | (go_at_call 20; (with_reducible refine (NY.out _).mono ?_); rintro e w4 ⟨rfl, rfl⟩)
        | (go_at_call 20; (with_reducible refine (NZ.out _).mono ?_); rintro e w4 ⟨rfl, rfl⟩)
        | (go_at_call 21; (with_reducible refine (IX.out _).mono ?_); rintro e w5 ⟨rfl, rfl⟩)
        | (go_at_call 21; (with_reducible refine (IY.out _).mono ?_); rintro e w6 ⟨rfl, rfl⟩)
        | (go_at_call 21; (with_reducible refine (IZ.out _).mono ?_); rintro e w6 ⟨rfl, rfl⟩)
        | (go_at_call 22; (with_reducible refine (ZX.out _).mono ?_); rintro e w7 ⟨rfl, rfl⟩)
        | (go_at_call 22; (with_reducible refine (ZY.out _).mono ?_); rintro e w8 ⟨rfl, rfl⟩)
        | (go_at_call 23; (with_reducible refine (QN.out _).mono ?_); rintro e w9 ⟨rfl, rfl⟩)
        | (go_at_call 25; (with_reducible refine (IB.out _).mono ?_); rintro e w10 ⟨rfl, rfl⟩)
        | (go_at_call 24; (with_reducible refine (S1.out _ _).mono ?_); rintro e w11 ⟨rfl, rfl⟩)
        | (go_at_call 24; (with_reducible refine (S0.out _ _).mono ?_); rintro e w12 ⟨rfl, rfl⟩))
      go_ret2
      exact ⟨rfl, Below.refl _ _⟩
    · have bb := bc_bd x y
      rw [hb] at bb
      have e : r = AT [sp x y + 9218868437227405312, z] mode := by rw [← hr, FT_bc hm (by rw [hb]), hb]
      obtain ⟨v, hv⟩ : ∃ v, sp x y + 9218868437227405312 = v := ⟨_, rfl⟩
      rw [hv] at bb e
      have SU := Lib.hid (SUM v bb)
      rw [← e] at SU
      have SBV : Hid (v = if (F.sgn x != F.sgn y) = true then 18442240474082181120 else 9218868437227405312) := by show _ = _; rw [← hv, SB.out]; split <;> rfl
      rw [x5] at NX
      rw [y5] at NY
      rw [x4] at IX
      rw [x1] at ZX
      rw [y4] at IY
      clear hr SUM e bb hv SB hm hx hy hz z5 hb x5 y5 x4 x1 y4
      generalize F.sgn x = sx at *
      generalize F.sgn y = sy at *
      generalize F.cls x = cx at *
      generalize F.cls y = cy at *
      generalize F.cls z = cz at *
      cases sx <;> cases sy
      all_goals (
        have hs := SBV.out
        simp at hs
        subst hs
        clear SBV
        go_enter Tryz.func10, Tryz.ntmps10
        go_wp2_with (first
          | (go_at_call 19; (with_reducible refine (MX.out _).mono ?_); rintro e w1 ⟨rfl, rfl⟩)
          | (go_at_call 19; (with_reducible refine (MY.out _).mono ?_); rintro e w2 ⟨rfl, rfl⟩)
          | (go_at_call 20; (with_reducible refine (NX.out _).mono ?_); rintro e w3 ⟨rfl, rfl⟩)
          | (go_at_call 20; (with_reducible refine (NY.out _).mono ?_); rintro e w4 ⟨rfl, rfl⟩)
          | (go_at_call 20; (with_reducible refine (NZ.out _).mono ?_); rintro e w4 ⟨rfl, rfl⟩)
          | (go_at_call 21; (with_reducible refine (IX.out _).mono ?_); rintro e w5 ⟨rfl, rfl⟩)
          | (go_at_call 21; (with_reducible refine (IY.out _).mono ?_); rintro e w6 ⟨rfl, rfl⟩)
          | (go_at_call 21; (with_reducible refine (IZ.out _).mono ?_); rintro e w6 ⟨rfl, rfl⟩)
          | (go_at_call 22; (with_reducible refine (ZX.out _).mono ?_); rintro e w7 ⟨rfl, rfl⟩)
          | (go_at_call 22; (with_reducible refine (ZY.out _).mono ?_); rintro e w8 ⟨rfl, rfl⟩)
          | (go_at_call 23; (with_reducible refine (QN.out _).mono ?_); rintro e w9 ⟨rfl, rfl⟩)
          | (go_at_call 25; (with_reducible refine (IB.out _).mono ?_); rintro e w10 ⟨rfl, rfl⟩)
          | (go_at_call 24; (with_reducible refine (S1.out _ _).mono ?_); rintro e w11 ⟨rfl, rfl⟩)
          | (go_at_call 24; (with_reducible refine (S0.out _ _).mono ?_); rintro e w12 ⟨rfl, rfl⟩)
          | (go_at_call 29; (with_reducible refine (SU.out _).mono ?_); rintro e w20 ⟨rfl, hb⟩; have D := Lib.hid hb; clear hb))
        go_ret2
        exact ⟨rfl, D.out⟩)
    · have fx := fi_b hx x5 x4
      have fy := fi_b hy y5 y4
      rw [x5] at NX
      rw [y5] at NY
      rw [x4] at IX
      rw [y4] at IY
      rw [x1] at ZX
      by_cases z4 : F.cls z = 4
      · have e := FT_iz hm fx fy hz z4
        rw [hr] at e
        subst e
        rw [z4] at IZ
        clear hr SUM SB hm hx hy hz z5 hb z4 fx fy x5 y5 x4 y4 x1
        generalize F.sgn x = sx at *
        generalize F.sgn y = sy at *
        generalize F.cls x = cx at *
        generalize F.cls y = cy at *
        go_enter Tryz.func10, Tryz.ntmps10
        go_wp2_with (first
          | (go_at_call 19; (with_reducible refine (MX.out _).mono ?_); rintro e w1 ⟨rfl, rfl⟩)
          | (go_at_call 19; (with_reducible refine (MY.out _).mono ?_); rintro e w2 ⟨rfl, rfl⟩)
          | (go_at_call 20; (with_reducible refine (NX.out _).mono ?_); rintro e w3 ⟨rfl, rfl⟩)
          | (go_at_call 20; (with_reducible refine (NY.out _).mono ?_); rintro e w4 ⟨rfl, rfl⟩)
          | (go_at_call 20; (with_reducible refine (NZ.out _).mono ?_); rintro e w4 ⟨rfl, rfl⟩)
          | (go_at_call 21; (with_reducible refine (IX.out _).mono ?_); rintro e w5 ⟨rfl, rfl⟩)
          | (go_at_call 21; (with_reducible refine (IY.out _).mono ?_); rintro e w6 ⟨rfl, rfl⟩)
          | (go_at_call 21; (with_reducible refine (IZ.out _).mono ?_); rintro e w6 ⟨rfl, rfl⟩)
          | (go_at_call 22; (with_reducible refine (ZX.out _).mono ?_); rintro e w7 ⟨rfl, rfl⟩)
          | (go_at_call 22; (with_reducible refine (ZY.out _).mono ?_); rintro e w8 ⟨rfl, rfl⟩)
          | (go_at_call 23; (with_reducible refine (QN.out _).mono ?_); rintro e w9 ⟨rfl, rfl⟩)
          | (go_at_call 25; (with_reducible refine (IB.out _).mono ?_); rintro e w10 ⟨rfl, rfl⟩)
          | (go_at_call 24; (with_reducible refine (S1.out _ _).mono ?_); rintro e w11 ⟨rfl, rfl⟩)
          | (go_at_call 24; (with_reducible refine (S0.out _ _).mono ?_); rintro e w12 ⟨rfl, rfl⟩))
        go_ret2
        exact ⟨rfl, Below.refl _ _⟩
      · have z4' : (F.cls z == 4) = false := beq_eq_false_iff_ne.2 z4
        rw [z4'] at IZ
        have fz : fi z := ⟨hz.1, hz.2, cls_fi.1 ⟨z5, z4⟩⟩
        have fv := FT_val (mode := mode) hm fx fy fz
        rw [hr] at fv
        obtain ⟨okf, ev, v1, v2, v3⟩ := fv
        have ff := fd_p fx fy fz
        have LIM : Hid (∀ K : Int, K = 2056 → S (PD x y).d + val z ≤ sc 1 K ∧ -(sc 1 K) ≤ S (PD x y).d + val z) := fun K hK => by rw [← ev]; exact fit_k ff.1 (by omega) hK
        have QVx : Hid (∀ (W : World), Calls Tryz.prog 28 #[.int .u64 x] W (RetSF 2200 1100 W (val x))) := fun W => QVal_v x W fx
        have QVy : Hid (∀ (W : World), Calls Tryz.prog 28 #[.int .u64 y] W (RetSF 2200 1100 W (val y))) := fun W => QVal_v y W fy
        have QVz : Hid (∀ (W : World), Calls Tryz.prog 28 #[.int .u64 z] W (RetSF 2200 1100 W (val z))) := fun W => QVal_v z W fz
        have QM : Hid (∀ (W : World) (u v : Value), QS 2200 1100 W u (val x) → QS 2200 1100 W v (val y) → Calls Tryz.prog 27 #[u, v] W (RetS 4400 2200 W (S (PD x y).d))) := fun W u v h3 h4 => QMul_pd fx fy h3 h4
        have QA : Hid (∀ (W : World) (u v : Value), QS 4400 2200 W u (S (PD x y).d) → QS 2200 1100 W v (val z) → Calls Tryz.prog 30 #[u, v] W (RetSF 4400 2200 W (S (fd x y z)))) := fun W u v h1 h2 => by rw [ev]; exact QAdd_p rfl h1 (h2.mono2 (by omega) (by omega)) (LIM.out 2056 rfl)
        have C0 : Hid (∀ (W : World) (u : Value) (s : Int), QS 4400 2200 W u s → Calls Tryz.prog 31 #[u, .agg #[.bool false, .slice none 0 0, .int .i64 0]] W fun e w' => e = .returned (.int .i64 (cmpv s 0)) ∧ Below W.heap.size W w') := fun W u s h => QCmp_s h (qs_zero W) (by omega) (by omega) (by omega) (by omega)
        have RO : Hid (∀ (W : World) (u : Value), QS 4400 2200 W u (S (fd x y z)) → Calls Tryz.prog 26 #[u, .int .i64 0, .int .i64 mode] W fun e w' => e = .returned (.tuple #[.int .u64 (TX (fd x y z) mode), .bool (TL (fd x y z) mode)]) ∧ Below W.heap.size W w') := fun W u h => Rounded_t h (by omega) (by omega) okf hm
        have SU : Hid (∀ W : World, Calls Tryz.prog 29 #[.slice (some ⟨W.heap.size, 0, none⟩) 2 2, .int .i64 mode] (W.alloc (.cells #[.int .u64 (sp x y), .int .u64 z] 22)) fun e w' => e = .returned (.tuple #[.int .u64 (AT [sp x y, z] mode).1, .bool (AT [sp x y, z] mode).2.1]) ∧ Below W.heap.size W w') := SUM _ (by rcases sp2 x y with h | h <;> rw [h] <;> omega)
        generalize TX (fd x y z) mode = tx at *
        generalize TL (fd x y z) mode = tl at *
        generalize S (fd x y z) = sf at *
        generalize AT [sp x y, z] mode = at' at *
        generalize S (PD x y).d = sd at *
        generalize val x = vx at *
        generalize val y = vy at *
        generalize val z = vz at *
        generalize sp x y = s at *
        have V1 := Lib.hid v1
        have V2 := Lib.hid v2
        have V3 := Lib.hid v3
        clear hr SUM hm hx hy hz z5 hb z4 z4' fx fy fz okf ev ff v1 v2 v3 LIM x5 y5 x4 y4 x1
        generalize F.sgn x = sx at *
        generalize F.sgn y = sy at *
        generalize F.cls x = cx at *
        generalize F.cls y = cy at *
        generalize F.cls z = cz at *
        go_enter Tryz.func10, Tryz.ntmps10
        go_upto_region 9 with (first
          | (go_at_call 19; (with_reducible refine (MX.out _).mono ?_); rintro e w1 ⟨rfl, rfl⟩)
          | (go_at_call 19; (with_reducible refine (MY.out _).mono ?_); rintro e w2 ⟨rfl, rfl⟩)
          | (go_at_call 20; (with_reducible refine (NX.out _).mono ?_); rintro e w3 ⟨rfl, rfl⟩)
          | (go_at_call 20; (with_reducible refine (NY.out _).mono ?_); rintro e w4 ⟨rfl, rfl⟩)
          | (go_at_call 20; (with_reducible refine (NZ.out _).mono ?_); rintro e w4 ⟨rfl, rfl⟩)
          | (go_at_call 21; (with_reducible refine (IX.out _).mono ?_); rintro e w5 ⟨rfl, rfl⟩)
          | (go_at_call 21; (with_reducible refine (IY.out _).mono ?_); rintro e w6 ⟨rfl, rfl⟩)
          | (go_at_call 21; (with_reducible refine (IZ.out _).mono ?_); rintro e w6 ⟨rfl, rfl⟩)
          | (go_at_call 22; (with_reducible refine (ZX.out _).mono ?_); rintro e w7 ⟨rfl, rfl⟩)
          | (go_at_call 22; (with_reducible refine (ZY.out _).mono ?_); rintro e w8 ⟨rfl, rfl⟩)
          | (go_at_call 23; (with_reducible refine (QN.out _).mono ?_); rintro e w9 ⟨rfl, rfl⟩)
          | (go_at_call 25; (with_reducible refine (IB.out _).mono ?_); rintro e w10 ⟨rfl, rfl⟩)
          | (go_at_call 24; (with_reducible refine (S1.out _ _).mono ?_); rintro e w11 ⟨rfl, rfl⟩)
          | (go_at_call 24; (with_reducible refine (S0.out _ _).mono ?_); rintro e w12 ⟨rfl, rfl⟩)
          | (go_at_call 28; (with_reducible refine (QVx.out _).mono ?_); rintro e w13 ⟨b1, A1, n1, c1, t1, z1, rfl, r1, r2, r3, r4, r5, r6, hb⟩; have Q1 := Lib.hid (RetS.qs r1 r2 r3 r4 r5); have D := Lib.hid hb; clear r1 r2 r3 r4 r5 r6 hb)
          | (go_at_call 28; (with_reducible refine (QVy.out _).mono ?_); rintro e w14 ⟨b2, A2, n2, c2, t2, z2, rfl, r1, r2, r3, r4, r5, r6, hb⟩; have Q1 := Lib.hid (Q1.out.below hb); have Q2 := Lib.hid (RetS.qs r1 r2 r3 r4 r5); have D := Lib.hid (D.out.trans (hb.mono D.out.size)); clear r1 r2 r3 r4 r5 r6 hb)
          | (go_at_call 27; (with_reducible refine (QM.out _ _ _ Q1.out Q2.out).mono ?_); rintro e w15 ⟨b3, A3, n3, c3, t3, z3, rfl, r1, r2, r3, r4, r5, hb⟩; have Q3 := Lib.hid (RetS.qs r1 r2 r3 r4 r5); have D := Lib.hid (D.out.trans (hb.mono D.out.size)); clear r1 r2 r3 r4 r5 hb))
        have DY := al1 w15 (.cells #[.bool b3, .slice A3 n3 c3, .int .i64 t3] 52)
        have Y2 := Blk.new w15 52 #[.bool b3, .slice A3 n3 c3, .int .i64 t3]
        have V9 := Q3.out.below DY
        have D3 := D.out.trans (DY.mono D.out.size)
        obtain ⟨W3, hW3⟩ : ∃ W3, w15.alloc (.cells #[.bool b3, .slice A3 n3 c3, .int .i64 t3] 52) = W3 := ⟨_, rfl⟩
        obtain ⟨g2, hg2⟩ : ∃ g2, w15.heap.size = g2 := ⟨_, rfl⟩
        rw [hW3] at DY Y2 V9 D3 ⊢
        rw [hg2] at Y2 ⊢
        have KP : Hid (∀ W, Below W3.heap.size W3 W → (W.cell? ⟨g2, 0, none⟩ = some (.bool b3) ∧ W.cell? ⟨g2, 1, none⟩ = some (.slice A3 n3 c3) ∧ W.cell? ⟨g2, 2, none⟩ = some (.int .i64 t3)) ∧ QS 4400 2200 W (.agg #[.bool b3, .slice A3 n3 c3, .int .i64 t3]) sd) := fun W hW => ⟨⟨(Y2.below hW Y2.lt).at_ 0 rfl, (Y2.below hW Y2.lt).at_ 1 rfl, (Y2.below hW Y2.lt).at_ 2 rfl⟩, V9.below hW⟩
        have D3 := Lib.hid D3
        clear hW3 hg2 DY Y2 V9 D Q1 Q2 Q3
        go_cut [12] (fun s12 wx => ∃ g b A n c t, s12 = .pointer (some ⟨g, 0, none⟩) ∧ Hid (Blk wx g 52 #[.bool b, .slice A n c, .int .i64 t] ∧ QS 4400 2200 wx (.agg #[.bool b, .slice A n c, .int .i64 t]) sf ∧ Below W3.heap.size W3 wx))
        case first =>
          have D : Below W3.heap.size W3 W3.drew := (Below.refl _ _).drew
          (refine wp_region_L (S := fun w' => w'.cell? ⟨g2, 0, none⟩ = some (.bool b3) ∧ w'.cell? ⟨g2, 1, none⟩ = some (.slice A3 n3 c3) ∧ w'.cell? ⟨g2, 2, none⟩ = some (.int .i64 t3)) (nl := 1000000) (by kernel_rfl) ?_ (fun hHeld => ?_); focus (exact (KP.out _ D).1))
          (refine wpAnyL_take (i := 0) (oi := _) (v := ?_) rfl (by kernel_rfl) (by kernel_rfl) (by kernel_rfl) (fun _ _ _ h => h) (Or.inl ⟨by first | rfl | kernel_rfl, ?hy1⟩) (by assumption) ?rs1; (case hy1 => (intro w hSw; (try dsimp only at hSw); go_simp; first | done | with_reducible rfl)); case' rs1 => (simp only [List.getElem_toArray, List.getElem_cons_zero, List.getElem_cons_succ, Act.put, List.setIfInBounds_toArray, List.set_cons_zero, List.set_cons_succ])); (refine wpAnyL_take (i := 1) (oi := _) (v := ?_) rfl (by kernel_rfl) (by kernel_rfl) (by kernel_rfl) (fun _ _ _ h => h) (Or.inl ⟨by first | rfl | kernel_rfl, ?hy2⟩) (by assumption) ?rs2; (case hy2 => (intro w hSw; (try dsimp only at hSw); go_simp; first | done | with_reducible rfl)); case' rs2 => (simp only [List.getElem_toArray, List.getElem_cons_zero, List.getElem_cons_succ, Act.put, List.setIfInBounds_toArray, List.set_cons_zero, List.set_cons_succ])); skip
          refine wpAnyL_two (i := 2) (j := 4) (oi := _) (oj := _) (by kernel_rfl) rfl rfl (fun K hK => ?_) (fun K hK => ?_)
          · (clear hHeld; simp only [List.getElem_toArray, List.getElem_cons_zero, List.getElem_cons_succ]; go_simp; (go_at_call 28; (with_reducible refine (QVz.out _).mono ?_); rintro e w4 ⟨b4, A4, n4, c4, t4, z4, rfl, r1, r2, r3, r4, r5, r6, hb⟩; have Q4 := Lib.hid (RetS.qs r1 r2 r3 r4 r5); have D := D.trans (hb.mono D.size); clear r1 r2 r3 r4 r5 r6 hb); refine hK.out _ _ ?_ (fun hHeld => ?_); focus (intro _; exact (KP.out _ D).1)); have hHeld := hHeld (by decide); clear hK K; (try simp only [Act.put, List.setIfInBounds_toArray, List.set_cons_zero, List.set_cons_succ])
            refine wpAnyL_two (i := 3) (j := 4) (oi := _) (oj := _) (by kernel_rfl) rfl rfl (fun K hK => ?_) (fun K hK => ?_)
            · (clear hHeld; simp only [List.getElem_toArray, List.getElem_cons_zero, List.getElem_cons_succ]; go_simp; (go_at_call 30; (with_reducible refine (QA.out _ _ _ (KP.out _ D).2 Q4.out).mono ?_); rintro e w5 ⟨b5, A5, n5, c5, t5, z5, rfl, r1, r2, r3, r4, r5, r6, hb5⟩; have D := D.trans (hb5.mono D.size)); refine hK.out _ _ ?_ (fun hHeld => ?_); focus (intro _; exact (KP.out _ D).1)); have hHeld := hHeld (by decide); clear hK K; (try simp only [Act.put, List.setIfInBounds_toArray, List.set_cons_zero, List.set_cons_succ])
              (refine wpAnyL_one (i := 4) (o := _) (by kernel_rfl) rfl (fun K hK => ?_); clear hHeld; simp only [List.getElem_toArray, List.getElem_cons_zero, List.getElem_cons_succ]; go_simp; refine hK.out _ _ ?_ (fun hHeld => ?_); focus (intro _; exact (KP.out _ (D.alloc D.size _)).1)); have hHeld := hHeld (by decide); clear hK K; (try simp only [Act.put, List.setIfInBounds_toArray, List.set_cons_zero, List.set_cons_succ])
              have X := Lib.hid (And.intro (Blk.new w5 52 #[.bool b5, .slice A5 n5 c5, .int .i64 t5]) (And.intro ((RetS.qs r1 r2 r3 r4 r5).below (al1 w5 (.cells #[.bool b5, .slice A5 n5 c5, .int .i64 t5] 52))) (D.alloc D.size (.cells #[.bool b5, .slice A5 n5 c5, .int .i64 t5] 52))))
              clear hHeld r1 r2 r3 r4 r5 r6 hb5 D
              (refine wpAnyL_one (i := 5) (o := _) (by kernel_rfl) rfl (fun K hK => ?_); clear hHeld; simp only [List.getElem_toArray, List.getElem_cons_zero, List.getElem_cons_succ]; go_simp; refine hK.out _ _ ?_ (fun hHeld => ?_); focus (intro _; exact (KP.out _ X.out.2.2).1)); have hHeld := hHeld (by decide); clear hK K; (try simp only [Act.put, List.setIfInBounds_toArray, List.set_cons_zero, List.set_cons_succ])
              refine wpAnyL_done (by kernel_rfl) ?_ _
              go_wp2
              go_meet
              exact ⟨_, _, _, _, _, _, rfl, X.out.1, X.out.2.1, X.out.2.2⟩
            · (clear hHeld; simp only [List.getElem_toArray, List.getElem_cons_zero, List.getElem_cons_succ]; go_simp; refine hK.out _ _ ?_ (fun hHeld => ?_); focus (intro _; exact (KP.out _ (D.alloc D.size _)).1)); have hHeld := hHeld (by decide); clear hK K; (try simp only [Act.put, List.setIfInBounds_toArray, List.set_cons_zero, List.set_cons_succ])
              have R := Blk.new w4 52 #[.bool false, .slice none 0 0, .int .i64 0]
              have Q4 := Lib.hid (Q4.out.below (al1 w4 (.cells #[.bool false, .slice none 0 0, .int .i64 0] 52)))
              have hg := D.size
              have D := D.alloc D.size (.cells #[.bool false, .slice none 0 0, .int .i64 0] 52)
              (refine wpAnyL_one (i := 3) (o := _) (by kernel_rfl) rfl (fun K hK => ?_); clear hHeld; simp only [List.getElem_toArray, List.getElem_cons_zero, List.getElem_cons_succ]; go_simp; (go_at_call 30; (with_reducible refine (QA.out _ _ _ (KP.out _ D).2 Q4.out).mono ?_); rintro e w5 ⟨b5, A5, n5, c5, t5, z5, rfl, r1, r2, r3, r4, r5, r6, hb5⟩; have hgl := R.lt; have D := D.trans (hb5.mono D.size); have R := R.below hb5 R.lt); refine hK.out _ _ ?_ (fun hHeld => ?_); focus (intro _; exact (KP.out _ D).1)); have hHeld := hHeld (by decide); clear hK K; (try simp only [Act.put, List.setIfInBounds_toArray, List.set_cons_zero, List.set_cons_succ])
              have f0 := R.frozen 0; have f1 := R.frozen 1; have f2 := R.frozen 2; have t0 := R.at_ 0 rfl; have t1 := R.at_ 1 rfl; have t2 := R.at_ 2 rfl
              have X := Lib.hid (And.intro (blk3 R (.bool b5) (.slice A5 n5 c5) (.int .i64 t5)) (And.intro (show QS 4400 2200 _ _ sf from ⟨z5, t5, ⟨b5, A5, n5, c5, rfl, QC.set3 r1 (off_new r6 hgl) (.bool b5) (.slice A5 n5 c5) (.int .i64 t5)⟩, r2, r3, r4, r5⟩) (below3q D hg (.bool b5) (.slice A5 n5 c5) (.int .i64 t5))))
              clear hHeld R r1 r2 r3 r4 r5 r6 hb5 D
              (refine wpAnyL_one (i := 5) (o := _) (by kernel_rfl) rfl (fun K hK => ?_); clear hHeld; simp only [List.getElem_toArray, List.getElem_cons_zero, List.getElem_cons_succ]; go_simp; refine hK.out _ _ ?_ (fun hHeld => ?_); focus (intro _; exact (KP.out _ X.out.2.2).1)); have hHeld := hHeld (by decide); clear hK K; (try simp only [Act.put, List.setIfInBounds_toArray, List.set_cons_zero, List.set_cons_succ])
              refine wpAnyL_done (by kernel_rfl) ?_ _
              go_wp2
              go_meet
              exact ⟨_, _, _, _, _, _, rfl, X.out.1, X.out.2.1, X.out.2.2⟩
          · (clear hHeld; simp only [List.getElem_toArray, List.getElem_cons_zero, List.getElem_cons_succ]; go_simp; refine hK.out _ _ ?_ (fun hHeld => ?_); focus (intro _; exact (KP.out _ ((Below.refl _ _).drew.alloc (Nat.le_refl _) _)).1)); have hHeld := hHeld (by decide); clear hK K; (try simp only [Act.put, List.setIfInBounds_toArray, List.set_cons_zero, List.set_cons_succ])
            have R := Blk.drew (Blk.new W3 52 #[.bool false, .slice none 0 0, .int .i64 0])
            have hg := Nat.le_refl W3.heap.size
            have D : Below W3.heap.size W3 (W3.alloc (.cells #[.bool false, .slice none 0 0, .int .i64 0] 52)).drew := ((Below.refl _ _).alloc (Nat.le_refl _) _).drew
            (refine wpAnyL_one (i := 2) (o := _) (by kernel_rfl) rfl (fun K hK => ?_); clear hHeld; simp only [List.getElem_toArray, List.getElem_cons_zero, List.getElem_cons_succ]; go_simp; (go_at_call 28; (with_reducible refine (QVz.out _).mono ?_); rintro e w4 ⟨b4, A4, n4, c4, t4, z4, rfl, r1, r2, r3, r4, r5, r6, hb⟩; have Q4 := Lib.hid (RetS.qs r1 r2 r3 r4 r5); have D := D.trans (hb.mono D.size); have R := R.below hb R.lt; clear r1 r2 r3 r4 r5 r6 hb); refine hK.out _ _ ?_ (fun hHeld => ?_); focus (intro _; exact (KP.out _ D).1)); have hHeld := hHeld (by decide); clear hK K; (try simp only [Act.put, List.setIfInBounds_toArray, List.set_cons_zero, List.set_cons_succ])
            (refine wpAnyL_one (i := 3) (o := _) (by kernel_rfl) rfl (fun K hK => ?_); clear hHeld; simp only [List.getElem_toArray, List.getElem_cons_zero, List.getElem_cons_succ]; go_simp; (go_at_call 30; (with_reducible refine (QA.out _ _ _ (KP.out _ D).2 Q4.out).mono ?_); rintro e w5 ⟨b5, A5, n5, c5, t5, z5, rfl, r1, r2, r3, r4, r5, r6, hb5⟩; have hgl := R.lt; have D := D.trans (hb5.mono D.size); have R := R.below hb5 R.lt); refine hK.out _ _ ?_ (fun hHeld => ?_); focus (intro _; exact (KP.out _ D).1)); have hHeld := hHeld (by decide); clear hK K; (try simp only [Act.put, List.setIfInBounds_toArray, List.set_cons_zero, List.set_cons_succ])
            have f0 := R.frozen 0; have f1 := R.frozen 1; have f2 := R.frozen 2; have t0 := R.at_ 0 rfl; have t1 := R.at_ 1 rfl; have t2 := R.at_ 2 rfl
            have X := Lib.hid (And.intro (blk3 R (.bool b5) (.slice A5 n5 c5) (.int .i64 t5)) (And.intro (show QS 4400 2200 _ _ sf from ⟨z5, t5, ⟨b5, A5, n5, c5, rfl, QC.set3 r1 (off_new r6 hgl) (.bool b5) (.slice A5 n5 c5) (.int .i64 t5)⟩, r2, r3, r4, r5⟩) (below3q D hg (.bool b5) (.slice A5 n5 c5) (.int .i64 t5))))
            clear hHeld R r1 r2 r3 r4 r5 r6 hb5 D
            (refine wpAnyL_one (i := 5) (o := _) (by kernel_rfl) rfl (fun K hK => ?_); clear hHeld; simp only [List.getElem_toArray, List.getElem_cons_zero, List.getElem_cons_succ]; go_simp; refine hK.out _ _ ?_ (fun hHeld => ?_); focus (intro _; exact (KP.out _ X.out.2.2).1)); have hHeld := hHeld (by decide); clear hK K; (try simp only [Act.put, List.setIfInBounds_toArray, List.set_cons_zero, List.set_cons_succ])
            refine wpAnyL_done (by kernel_rfl) ?_ _
            go_wp2
            go_meet
            exact ⟨_, _, _, _, _, _, rfl, X.out.1, X.out.2.1, X.out.2.2⟩
        case rest =>
          obtain ⟨g, b, A, n, c, t, rfl, XQ⟩ := hcut
          have q0 := XQ.out.1.at_ 0 rfl
          have q1 := XQ.out.1.at_ 1 rfl
          have q2 := XQ.out.1.at_ 2 rfl
          rcases cmp0 sf with ⟨e1, e2⟩ | ⟨e1, -, e2⟩
          · rw [e2] at e1
            rcases cmp0 sd with ⟨e3, e4⟩ | ⟨-, e3, e4⟩
            · have e := V2.out e2 e4
              subst e
              rw [e4] at e3
              subst e2
              subst e4
              clear V1 V2 V3
              cases sx <;> cases sy
              all_goals (
                have hs := SB.out
                simp at hs
                subst hs
                go_wp2_with (first
                  | (go_at_call 31; (with_reducible refine (C0.out _ _ _ XQ.out.2.1).mono ?_); rintro e w21 ⟨rfl, hb⟩; have KQ := Lib.hid (XQ.out.1.below hb XQ.out.1.lt); have q0 := KQ.out.at_ 0 rfl; have q1 := KQ.out.at_ 1 rfl; have q2 := KQ.out.at_ 2 rfl; have XQ2 := Lib.hid (XQ.out.2.1.below hb); have D := Lib.hid (XQ.out.2.2.trans (hb.mono XQ.out.2.2.size)); obtain ⟨⟨k0, k1, k2⟩, kq⟩ := KP.out _ D.out; clear hb)
                  | (go_at_call 31; (with_reducible refine (C0.out _ _ _ kq).mono ?_); rintro e w22 ⟨rfl, hb⟩; have D := Lib.hid (D.out.trans (hb.mono D.out.size)); clear hb)
                  | (go_at_call 24; (with_reducible refine (S0.out _ _).mono ?_); rintro e w24 ⟨rfl, rfl⟩)
                  | (go_at_call 29; (with_reducible refine (SU.out _).mono ?_); rintro e w25 ⟨rfl, hb⟩; have D := Lib.hid (D.out.trans (hb.mono D.out.size)); clear hb))
                go_ret2
                exact ⟨rfl, D3.out.trans (D.out.mono D3.out.size)⟩)
            · have e := V3.out e2 e4
              subst e2
              clear V1 V2 V3 e4 SU SB
              by_cases hm2 : mode = 2
              · rw [if_pos hm2] at e
                subst e
                subst hm2
                go_wp2_with (first
                  | (go_at_call 31; (with_reducible refine (C0.out _ _ _ XQ.out.2.1).mono ?_); rintro e w21 ⟨rfl, hb⟩; have KQ := Lib.hid (XQ.out.1.below hb XQ.out.1.lt); have q0 := KQ.out.at_ 0 rfl; have q1 := KQ.out.at_ 1 rfl; have q2 := KQ.out.at_ 2 rfl; have XQ2 := Lib.hid (XQ.out.2.1.below hb); have D := Lib.hid (XQ.out.2.2.trans (hb.mono XQ.out.2.2.size)); obtain ⟨⟨k0, k1, k2⟩, kq⟩ := KP.out _ D.out; clear hb)
                  | (go_at_call 31; (with_reducible refine (C0.out _ _ _ kq).mono ?_); rintro e w22 ⟨rfl, hb⟩; have D := Lib.hid (D.out.trans (hb.mono D.out.size)); clear hb)
                  | (go_at_call 24; (with_reducible refine (S0.out _ _).mono ?_); rintro e w24 ⟨rfl, rfl⟩))
                go_ret2
                exact ⟨rfl, D3.out.trans (D.out.mono D3.out.size)⟩
              · have t2 : (mode == 2) = false := by simp [hm2]
                rw [if_neg hm2] at e
                subst e
                clear hm2
                go_wp2_with (first
                  | (go_at_call 31; (with_reducible refine (C0.out _ _ _ XQ.out.2.1).mono ?_); rintro e w21 ⟨rfl, hb⟩; have KQ := Lib.hid (XQ.out.1.below hb XQ.out.1.lt); have q0 := KQ.out.at_ 0 rfl; have q1 := KQ.out.at_ 1 rfl; have q2 := KQ.out.at_ 2 rfl; have XQ2 := Lib.hid (XQ.out.2.1.below hb); have D := Lib.hid (XQ.out.2.2.trans (hb.mono XQ.out.2.2.size)); obtain ⟨⟨k0, k1, k2⟩, kq⟩ := KP.out _ D.out; clear hb)
                  | (go_at_call 31; (with_reducible refine (C0.out _ _ _ kq).mono ?_); rintro e w22 ⟨rfl, hb⟩; have D := Lib.hid (D.out.trans (hb.mono D.out.size)); clear hb)
                  | (go_at_call 24; (with_reducible refine (S0.out _ _).mono ?_); rintro e w24 ⟨rfl, rfl⟩))
                go_ret2
                exact ⟨rfl, D3.out.trans (D.out.mono D3.out.size)⟩
          · have e := V1.out e2
            subst e
            clear V1 V2 V3 e2 SU SB
            go_wp2_with (first
              | (go_at_call 31; (with_reducible refine (C0.out _ _ _ XQ.out.2.1).mono ?_); rintro e w21 ⟨rfl, hb⟩; have KQ := Lib.hid (XQ.out.1.below hb XQ.out.1.lt); have q0 := KQ.out.at_ 0 rfl; have q1 := KQ.out.at_ 1 rfl; have q2 := KQ.out.at_ 2 rfl; have XQ2 := Lib.hid (XQ.out.2.1.below hb); have D := Lib.hid (XQ.out.2.2.trans (hb.mono XQ.out.2.2.size)); obtain ⟨⟨k0, k1, k2⟩, kq⟩ := KP.out _ D.out; clear hb)
              | (go_at_call 26; (with_reducible refine (RO.out _ _ XQ2.out).mono ?_); rintro e w23 ⟨rfl, hb⟩; have D := Lib.hid (D.out.trans (hb.mono D.out.size)); clear hb))
            go_ret2
            exact ⟨rfl, D3.out.trans (D.out.mono D3.out.size)⟩
    · have fx := fi_b hx x5 x4
      have fy := fi_b hy y5 y4
      rw [x5] at NX
      rw [y5] at NY
      rw [x4] at IX
      rw [y4] at IY
      rw [x1] at ZX
      by_cases z4 : F.cls z = 4
      · have e := FT_iz hm fx fy hz z4
        rw [hr] at e
        subst e
        rw [z4] at IZ
        clear hr SUM SB hm hx hy hz z5 hb z4 fx fy x5 y5 x4 y4 x1 y1
        generalize F.sgn x = sx at *
        generalize F.sgn y = sy at *
        generalize F.cls x = cx at *
        generalize F.cls y = cy at *
        go_enter Tryz.func10, Tryz.ntmps10
        go_wp2_with (first
          | (go_at_call 19; (with_reducible refine (MX.out _).mono ?_); rintro e w1 ⟨rfl, rfl⟩)
          | (go_at_call 19; (with_reducible refine (MY.out _).mono ?_); rintro e w2 ⟨rfl, rfl⟩)
          | (go_at_call 20; (with_reducible refine (NX.out _).mono ?_); rintro e w3 ⟨rfl, rfl⟩)
          | (go_at_call 20; (with_reducible refine (NY.out _).mono ?_); rintro e w4 ⟨rfl, rfl⟩)
          | (go_at_call 20; (with_reducible refine (NZ.out _).mono ?_); rintro e w4 ⟨rfl, rfl⟩)
          | (go_at_call 21; (with_reducible refine (IX.out _).mono ?_); rintro e w5 ⟨rfl, rfl⟩)
          | (go_at_call 21; (with_reducible refine (IY.out _).mono ?_); rintro e w6 ⟨rfl, rfl⟩)
          | (go_at_call 21; (with_reducible refine (IZ.out _).mono ?_); rintro e w6 ⟨rfl, rfl⟩)
          | (go_at_call 22; (with_reducible refine (ZX.out _).mono ?_); rintro e w7 ⟨rfl, rfl⟩)
          | (go_at_call 22; (with_reducible refine (ZY.out _).mono ?_); rintro e w8 ⟨rfl, rfl⟩)
          | (go_at_call 23; (with_reducible refine (QN.out _).mono ?_); rintro e w9 ⟨rfl, rfl⟩)
          | (go_at_call 25; (with_reducible refine (IB.out _).mono ?_); rintro e w10 ⟨rfl, rfl⟩)
          | (go_at_call 24; (with_reducible refine (S1.out _ _).mono ?_); rintro e w11 ⟨rfl, rfl⟩)
          | (go_at_call 24; (with_reducible refine (S0.out _ _).mono ?_); rintro e w12 ⟨rfl, rfl⟩))
        go_ret2
        exact ⟨rfl, Below.refl _ _⟩
      · have z4' : (F.cls z == 4) = false := beq_eq_false_iff_ne.2 z4
        rw [z4'] at IZ
        have fz : fi z := ⟨hz.1, hz.2, cls_fi.1 ⟨z5, z4⟩⟩
        have fv := FT_val (mode := mode) hm fx fy fz
        rw [hr] at fv
        obtain ⟨okf, ev, v1, v2, v3⟩ := fv
        have ff := fd_p fx fy fz
        have LIM : Hid (∀ K : Int, K = 2056 → S (PD x y).d + val z ≤ sc 1 K ∧ -(sc 1 K) ≤ S (PD x y).d + val z) := fun K hK => by rw [← ev]; exact fit_k ff.1 (by omega) hK
        have QVx : Hid (∀ (W : World), Calls Tryz.prog 28 #[.int .u64 x] W (RetSF 2200 1100 W (val x))) := fun W => QVal_v x W fx
        have QVy : Hid (∀ (W : World), Calls Tryz.prog 28 #[.int .u64 y] W (RetSF 2200 1100 W (val y))) := fun W => QVal_v y W fy
        have QVz : Hid (∀ (W : World), Calls Tryz.prog 28 #[.int .u64 z] W (RetSF 2200 1100 W (val z))) := fun W => QVal_v z W fz
        have QM : Hid (∀ (W : World) (u v : Value), QS 2200 1100 W u (val x) → QS 2200 1100 W v (val y) → Calls Tryz.prog 27 #[u, v] W (RetS 4400 2200 W (S (PD x y).d))) := fun W u v h3 h4 => QMul_pd fx fy h3 h4
        have QA : Hid (∀ (W : World) (u v : Value), QS 4400 2200 W u (S (PD x y).d) → QS 2200 1100 W v (val z) → Calls Tryz.prog 30 #[u, v] W (RetSF 4400 2200 W (S (fd x y z)))) := fun W u v h1 h2 => by rw [ev]; exact QAdd_p rfl h1 (h2.mono2 (by omega) (by omega)) (LIM.out 2056 rfl)
        have C0 : Hid (∀ (W : World) (u : Value) (s : Int), QS 4400 2200 W u s → Calls Tryz.prog 31 #[u, .agg #[.bool false, .slice none 0 0, .int .i64 0]] W fun e w' => e = .returned (.int .i64 (cmpv s 0)) ∧ Below W.heap.size W w') := fun W u s h => QCmp_s h (qs_zero W) (by omega) (by omega) (by omega) (by omega)
        have RO : Hid (∀ (W : World) (u : Value), QS 4400 2200 W u (S (fd x y z)) → Calls Tryz.prog 26 #[u, .int .i64 0, .int .i64 mode] W fun e w' => e = .returned (.tuple #[.int .u64 (TX (fd x y z) mode), .bool (TL (fd x y z) mode)]) ∧ Below W.heap.size W w') := fun W u h => Rounded_t h (by omega) (by omega) okf hm
        have SU : Hid (∀ W : World, Calls Tryz.prog 29 #[.slice (some ⟨W.heap.size, 0, none⟩) 2 2, .int .i64 mode] (W.alloc (.cells #[.int .u64 (sp x y), .int .u64 z] 22)) fun e w' => e = .returned (.tuple #[.int .u64 (AT [sp x y, z] mode).1, .bool (AT [sp x y, z] mode).2.1]) ∧ Below W.heap.size W w') := SUM _ (by rcases sp2 x y with h | h <;> rw [h] <;> omega)
        generalize TX (fd x y z) mode = tx at *
        generalize TL (fd x y z) mode = tl at *
        generalize S (fd x y z) = sf at *
        generalize AT [sp x y, z] mode = at' at *
        generalize S (PD x y).d = sd at *
        generalize val x = vx at *
        generalize val y = vy at *
        generalize val z = vz at *
        generalize sp x y = s at *
        have V1 := Lib.hid v1
        have V2 := Lib.hid v2
        have V3 := Lib.hid v3
        clear hr SUM hm hx hy hz z5 hb z4 z4' fx fy fz okf ev ff v1 v2 v3 LIM x5 y5 x4 y4 x1 y1
        generalize F.sgn x = sx at *
        generalize F.sgn y = sy at *
        generalize F.cls x = cx at *
        generalize F.cls y = cy at *
        generalize F.cls z = cz at *
        go_enter Tryz.func10, Tryz.ntmps10
        go_upto_region 9 with (first
          | (go_at_call 19; (with_reducible refine (MX.out _).mono ?_); rintro e w1 ⟨rfl, rfl⟩)
          | (go_at_call 19; (with_reducible refine (MY.out _).mono ?_); rintro e w2 ⟨rfl, rfl⟩)
          | (go_at_call 20; (with_reducible refine (NX.out _).mono ?_); rintro e w3 ⟨rfl, rfl⟩)
          | (go_at_call 20; (with_reducible refine (NY.out _).mono ?_); rintro e w4 ⟨rfl, rfl⟩)
          | (go_at_call 20; (with_reducible refine (NZ.out _).mono ?_); rintro e w4 ⟨rfl, rfl⟩)
          | (go_at_call 21; (with_reducible refine (IX.out _).mono ?_); rintro e w5 ⟨rfl, rfl⟩)
          | (go_at_call 21; (with_reducible refine (IY.out _).mono ?_); rintro e w6 ⟨rfl, rfl⟩)
          | (go_at_call 21; (with_reducible refine (IZ.out _).mono ?_); rintro e w6 ⟨rfl, rfl⟩)
          | (go_at_call 22; (with_reducible refine (ZX.out _).mono ?_); rintro e w7 ⟨rfl, rfl⟩)
          | (go_at_call 22; (with_reducible refine (ZY.out _).mono ?_); rintro e w8 ⟨rfl, rfl⟩)
          | (go_at_call 23; (with_reducible refine (QN.out _).mono ?_); rintro e w9 ⟨rfl, rfl⟩)
          | (go_at_call 25; (with_reducible refine (IB.out _).mono ?_); rintro e w10 ⟨rfl, rfl⟩)
          | (go_at_call 24; (with_reducible refine (S1.out _ _).mono ?_); rintro e w11 ⟨rfl, rfl⟩)
          | (go_at_call 24; (with_reducible refine (S0.out _ _).mono ?_); rintro e w12 ⟨rfl, rfl⟩)
          | (go_at_call 28; (with_reducible refine (QVx.out _).mono ?_); rintro e w13 ⟨b1, A1, n1, c1, t1, z1, rfl, r1, r2, r3, r4, r5, r6, hb⟩; have Q1 := Lib.hid (RetS.qs r1 r2 r3 r4 r5); have D := Lib.hid hb; clear r1 r2 r3 r4 r5 r6 hb)
          | (go_at_call 28; (with_reducible refine (QVy.out _).mono ?_); rintro e w14 ⟨b2, A2, n2, c2, t2, z2, rfl, r1, r2, r3, r4, r5, r6, hb⟩; have Q1 := Lib.hid (Q1.out.below hb); have Q2 := Lib.hid (RetS.qs r1 r2 r3 r4 r5); have D := Lib.hid (D.out.trans (hb.mono D.out.size)); clear r1 r2 r3 r4 r5 r6 hb)
          | (go_at_call 27; (with_reducible refine (QM.out _ _ _ Q1.out Q2.out).mono ?_); rintro e w15 ⟨b3, A3, n3, c3, t3, z3, rfl, r1, r2, r3, r4, r5, hb⟩; have Q3 := Lib.hid (RetS.qs r1 r2 r3 r4 r5); have D := Lib.hid (D.out.trans (hb.mono D.out.size)); clear r1 r2 r3 r4 r5 hb))
        have DY := al1 w15 (.cells #[.bool b3, .slice A3 n3 c3, .int .i64 t3] 52)
        have Y2 := Blk.new w15 52 #[.bool b3, .slice A3 n3 c3, .int .i64 t3]
        have V9 := Q3.out.below DY
        have D3 := D.out.trans (DY.mono D.out.size)
        obtain ⟨W3, hW3⟩ : ∃ W3, w15.alloc (.cells #[.bool b3, .slice A3 n3 c3, .int .i64 t3] 52) = W3 := ⟨_, rfl⟩
        obtain ⟨g2, hg2⟩ : ∃ g2, w15.heap.size = g2 := ⟨_, rfl⟩
        rw [hW3] at DY Y2 V9 D3 ⊢
        rw [hg2] at Y2 ⊢
        have KP : Hid (∀ W, Below W3.heap.size W3 W → (W.cell? ⟨g2, 0, none⟩ = some (.bool b3) ∧ W.cell? ⟨g2, 1, none⟩ = some (.slice A3 n3 c3) ∧ W.cell? ⟨g2, 2, none⟩ = some (.int .i64 t3)) ∧ QS 4400 2200 W (.agg #[.bool b3, .slice A3 n3 c3, .int .i64 t3]) sd) := fun W hW => ⟨⟨(Y2.below hW Y2.lt).at_ 0 rfl, (Y2.below hW Y2.lt).at_ 1 rfl, (Y2.below hW Y2.lt).at_ 2 rfl⟩, V9.below hW⟩
        have D3 := Lib.hid D3
        clear hW3 hg2 DY Y2 V9 D Q1 Q2 Q3
        go_cut [12] (fun s12 wx => ∃ g b A n c t, s12 = .pointer (some ⟨g, 0, none⟩) ∧ Hid (Blk wx g 52 #[.bool b, .slice A n c, .int .i64 t] ∧ QS 4400 2200 wx (.agg #[.bool b, .slice A n c, .int .i64 t]) sf ∧ Below W3.heap.size W3 wx))
        case first =>
          have D : Below W3.heap.size W3 W3.drew := (Below.refl _ _).drew
          (refine wp_region_L (S := fun w' => w'.cell? ⟨g2, 0, none⟩ = some (.bool b3) ∧ w'.cell? ⟨g2, 1, none⟩ = some (.slice A3 n3 c3) ∧ w'.cell? ⟨g2, 2, none⟩ = some (.int .i64 t3)) (nl := 1000000) (by kernel_rfl) ?_ (fun hHeld => ?_); focus (exact (KP.out _ D).1))
          (refine wpAnyL_take (i := 0) (oi := _) (v := ?_) rfl (by kernel_rfl) (by kernel_rfl) (by kernel_rfl) (fun _ _ _ h => h) (Or.inl ⟨by first | rfl | kernel_rfl, ?hy3⟩) (by assumption) ?rs3; (case hy3 => (intro w hSw; (try dsimp only at hSw); go_simp; first | done | with_reducible rfl)); case' rs3 => (simp only [List.getElem_toArray, List.getElem_cons_zero, List.getElem_cons_succ, Act.put, List.setIfInBounds_toArray, List.set_cons_zero, List.set_cons_succ])); (refine wpAnyL_take (i := 1) (oi := _) (v := ?_) rfl (by kernel_rfl) (by kernel_rfl) (by kernel_rfl) (fun _ _ _ h => h) (Or.inl ⟨by first | rfl | kernel_rfl, ?hy4⟩) (by assumption) ?rs4; (case hy4 => (intro w hSw; (try dsimp only at hSw); go_simp; first | done | with_reducible rfl)); case' rs4 => (simp only [List.getElem_toArray, List.getElem_cons_zero, List.getElem_cons_succ, Act.put, List.setIfInBounds_toArray, List.set_cons_zero, List.set_cons_succ])); skip
          refine wpAnyL_two (i := 2) (j := 4) (oi := _) (oj := _) (by kernel_rfl) rfl rfl (fun K hK => ?_) (fun K hK => ?_)
          · (clear hHeld; simp only [List.getElem_toArray, List.getElem_cons_zero, List.getElem_cons_succ]; go_simp; (go_at_call 28; (with_reducible refine (QVz.out _).mono ?_); rintro e w4 ⟨b4, A4, n4, c4, t4, z4, rfl, r1, r2, r3, r4, r5, r6, hb⟩; have Q4 := Lib.hid (RetS.qs r1 r2 r3 r4 r5); have D := D.trans (hb.mono D.size); clear r1 r2 r3 r4 r5 r6 hb); refine hK.out _ _ ?_ (fun hHeld => ?_); focus (intro _; exact (KP.out _ D).1)); have hHeld := hHeld (by decide); clear hK K; (try simp only [Act.put, List.setIfInBounds_toArray, List.set_cons_zero, List.set_cons_succ])
            refine wpAnyL_two (i := 3) (j := 4) (oi := _) (oj := _) (by kernel_rfl) rfl rfl (fun K hK => ?_) (fun K hK => ?_)
            · (clear hHeld; simp only [List.getElem_toArray, List.getElem_cons_zero, List.getElem_cons_succ]; go_simp; (go_at_call 30; (with_reducible refine (QA.out _ _ _ (KP.out _ D).2 Q4.out).mono ?_); rintro e w5 ⟨b5, A5, n5, c5, t5, z5, rfl, r1, r2, r3, r4, r5, r6, hb5⟩; have D := D.trans (hb5.mono D.size)); refine hK.out _ _ ?_ (fun hHeld => ?_); focus (intro _; exact (KP.out _ D).1)); have hHeld := hHeld (by decide); clear hK K; (try simp only [Act.put, List.setIfInBounds_toArray, List.set_cons_zero, List.set_cons_succ])
              (refine wpAnyL_one (i := 4) (o := _) (by kernel_rfl) rfl (fun K hK => ?_); clear hHeld; simp only [List.getElem_toArray, List.getElem_cons_zero, List.getElem_cons_succ]; go_simp; refine hK.out _ _ ?_ (fun hHeld => ?_); focus (intro _; exact (KP.out _ (D.alloc D.size _)).1)); have hHeld := hHeld (by decide); clear hK K; (try simp only [Act.put, List.setIfInBounds_toArray, List.set_cons_zero, List.set_cons_succ])
              have X := Lib.hid (And.intro (Blk.new w5 52 #[.bool b5, .slice A5 n5 c5, .int .i64 t5]) (And.intro ((RetS.qs r1 r2 r3 r4 r5).below (al1 w5 (.cells #[.bool b5, .slice A5 n5 c5, .int .i64 t5] 52))) (D.alloc D.size (.cells #[.bool b5, .slice A5 n5 c5, .int .i64 t5] 52))))
              clear hHeld r1 r2 r3 r4 r5 r6 hb5 D
              (refine wpAnyL_one (i := 5) (o := _) (by kernel_rfl) rfl (fun K hK => ?_); clear hHeld; simp only [List.getElem_toArray, List.getElem_cons_zero, List.getElem_cons_succ]; go_simp; refine hK.out _ _ ?_ (fun hHeld => ?_); focus (intro _; exact (KP.out _ X.out.2.2).1)); have hHeld := hHeld (by decide); clear hK K; (try simp only [Act.put, List.setIfInBounds_toArray, List.set_cons_zero, List.set_cons_succ])
              refine wpAnyL_done (by kernel_rfl) ?_ _
              go_wp2
              go_meet
              exact ⟨_, _, _, _, _, _, rfl, X.out.1, X.out.2.1, X.out.2.2⟩
            · (clear hHeld; simp only [List.getElem_toArray, List.getElem_cons_zero, List.getElem_cons_succ]; go_simp; refine hK.out _ _ ?_ (fun hHeld => ?_); focus (intro _; exact (KP.out _ (D.alloc D.size _)).1)); have hHeld := hHeld (by decide); clear hK K; (try simp only [Act.put, List.setIfInBounds_toArray, List.set_cons_zero, List.set_cons_succ])
              have R := Blk.new w4 52 #[.bool false, .slice none 0 0, .int .i64 0]
              have Q4 := Lib.hid (Q4.out.below (al1 w4 (.cells #[.bool false, .slice none 0 0, .int .i64 0] 52)))
              have hg := D.size
              have D := D.alloc D.size (.cells #[.bool false, .slice none 0 0, .int .i64 0] 52)
              (refine wpAnyL_one (i := 3) (o := _) (by kernel_rfl) rfl (fun K hK => ?_); clear hHeld; simp only [List.getElem_toArray, List.getElem_cons_zero, List.getElem_cons_succ]; go_simp; (go_at_call 30; (with_reducible refine (QA.out _ _ _ (KP.out _ D).2 Q4.out).mono ?_); rintro e w5 ⟨b5, A5, n5, c5, t5, z5, rfl, r1, r2, r3, r4, r5, r6, hb5⟩; have hgl := R.lt; have D := D.trans (hb5.mono D.size); have R := R.below hb5 R.lt); refine hK.out _ _ ?_ (fun hHeld => ?_); focus (intro _; exact (KP.out _ D).1)); have hHeld := hHeld (by decide); clear hK K; (try simp only [Act.put, List.setIfInBounds_toArray, List.set_cons_zero, List.set_cons_succ])
              have f0 := R.frozen 0; have f1 := R.frozen 1; have f2 := R.frozen 2; have t0 := R.at_ 0 rfl; have t1 := R.at_ 1 rfl; have t2 := R.at_ 2 rfl
              have X := Lib.hid (And.intro (blk3 R (.bool b5) (.slice A5 n5 c5) (.int .i64 t5)) (And.intro (show QS 4400 2200 _ _ sf from ⟨z5, t5, ⟨b5, A5, n5, c5, rfl, QC.set3 r1 (off_new r6 hgl) (.bool b5) (.slice A5 n5 c5) (.int .i64 t5)⟩, r2, r3, r4, r5⟩) (below3q D hg (.bool b5) (.slice A5 n5 c5) (.int .i64 t5))))
              clear hHeld R r1 r2 r3 r4 r5 r6 hb5 D
              (refine wpAnyL_one (i := 5) (o := _) (by kernel_rfl) rfl (fun K hK => ?_); clear hHeld; simp only [List.getElem_toArray, List.getElem_cons_zero, List.getElem_cons_succ]; go_simp; refine hK.out _ _ ?_ (fun hHeld => ?_); focus (intro _; exact (KP.out _ X.out.2.2).1)); have hHeld := hHeld (by decide); clear hK K; (try simp only [Act.put, List.setIfInBounds_toArray, List.set_cons_zero, List.set_cons_succ])
              refine wpAnyL_done (by kernel_rfl) ?_ _
              go_wp2
              go_meet
              exact ⟨_, _, _, _, _, _, rfl, X.out.1, X.out.2.1, X.out.2.2⟩
          · (clear hHeld; simp only [List.getElem_toArray, List.getElem_cons_zero, List.getElem_cons_succ]; go_simp; refine hK.out _ _ ?_ (fun hHeld => ?_); focus (intro _; exact (KP.out _ ((Below.refl _ _).drew.alloc (Nat.le_refl _) _)).1)); have hHeld := hHeld (by decide); clear hK K; (try simp only [Act.put, List.setIfInBounds_toArray, List.set_cons_zero, List.set_cons_succ])
            have R := Blk.drew (Blk.new W3 52 #[.bool false, .slice none 0 0, .int .i64 0])
            have hg := Nat.le_refl W3.heap.size
            have D : Below W3.heap.size W3 (W3.alloc (.cells #[.bool false, .slice none 0 0, .int .i64 0] 52)).drew := ((Below.refl _ _).alloc (Nat.le_refl _) _).drew
            (refine wpAnyL_one (i := 2) (o := _) (by kernel_rfl) rfl (fun K hK => ?_); clear hHeld; simp only [List.getElem_toArray, List.getElem_cons_zero, List.getElem_cons_succ]; go_simp; (go_at_call 28; (with_reducible refine (QVz.out _).mono ?_); rintro e w4 ⟨b4, A4, n4, c4, t4, z4, rfl, r1, r2, r3, r4, r5, r6, hb⟩; have Q4 := Lib.hid (RetS.qs r1 r2 r3 r4 r5); have D := D.trans (hb.mono D.size); have R := R.below hb R.lt; clear r1 r2 r3 r4 r5 r6 hb); refine hK.out _ _ ?_ (fun hHeld => ?_); focus (intro _; exact (KP.out _ D).1)); have hHeld := hHeld (by decide); clear hK K; (try simp only [Act.put, List.setIfInBounds_toArray, List.set_cons_zero, List.set_cons_succ])
            (refine wpAnyL_one (i := 3) (o := _) (by kernel_rfl) rfl (fun K hK => ?_); clear hHeld; simp only [List.getElem_toArray, List.getElem_cons_zero, List.getElem_cons_succ]; go_simp; (go_at_call 30; (with_reducible refine (QA.out _ _ _ (KP.out _ D).2 Q4.out).mono ?_); rintro e w5 ⟨b5, A5, n5, c5, t5, z5, rfl, r1, r2, r3, r4, r5, r6, hb5⟩; have hgl := R.lt; have D := D.trans (hb5.mono D.size); have R := R.below hb5 R.lt); refine hK.out _ _ ?_ (fun hHeld => ?_); focus (intro _; exact (KP.out _ D).1)); have hHeld := hHeld (by decide); clear hK K; (try simp only [Act.put, List.setIfInBounds_toArray, List.set_cons_zero, List.set_cons_succ])
            have f0 := R.frozen 0; have f1 := R.frozen 1; have f2 := R.frozen 2; have t0 := R.at_ 0 rfl; have t1 := R.at_ 1 rfl; have t2 := R.at_ 2 rfl
            have X := Lib.hid (And.intro (blk3 R (.bool b5) (.slice A5 n5 c5) (.int .i64 t5)) (And.intro (show QS 4400 2200 _ _ sf from ⟨z5, t5, ⟨b5, A5, n5, c5, rfl, QC.set3 r1 (off_new r6 hgl) (.bool b5) (.slice A5 n5 c5) (.int .i64 t5)⟩, r2, r3, r4, r5⟩) (below3q D hg (.bool b5) (.slice A5 n5 c5) (.int .i64 t5))))
            clear hHeld R r1 r2 r3 r4 r5 r6 hb5 D
            (refine wpAnyL_one (i := 5) (o := _) (by kernel_rfl) rfl (fun K hK => ?_); clear hHeld; simp only [List.getElem_toArray, List.getElem_cons_zero, List.getElem_cons_succ]; go_simp; refine hK.out _ _ ?_ (fun hHeld => ?_); focus (intro _; exact (KP.out _ X.out.2.2).1)); have hHeld := hHeld (by decide); clear hK K; (try simp only [Act.put, List.setIfInBounds_toArray, List.set_cons_zero, List.set_cons_succ])
            refine wpAnyL_done (by kernel_rfl) ?_ _
            go_wp2
            go_meet
            exact ⟨_, _, _, _, _, _, rfl, X.out.1, X.out.2.1, X.out.2.2⟩
        case rest =>
          obtain ⟨g, b, A, n, c, t, rfl, XQ⟩ := hcut
          have q0 := XQ.out.1.at_ 0 rfl
          have q1 := XQ.out.1.at_ 1 rfl
          have q2 := XQ.out.1.at_ 2 rfl
          rcases cmp0 sf with ⟨e1, e2⟩ | ⟨e1, -, e2⟩
          · rw [e2] at e1
            rcases cmp0 sd with ⟨e3, e4⟩ | ⟨-, e3, e4⟩
            · have e := V2.out e2 e4
              subst e
              rw [e4] at e3
              subst e2
              subst e4
              clear V1 V2 V3
              cases sx <;> cases sy
              all_goals (
                have hs := SB.out
                simp at hs
                subst hs
                go_wp2_with (first
                  | (go_at_call 31; (with_reducible refine (C0.out _ _ _ XQ.out.2.1).mono ?_); rintro e w21 ⟨rfl, hb⟩; have KQ := Lib.hid (XQ.out.1.below hb XQ.out.1.lt); have q0 := KQ.out.at_ 0 rfl; have q1 := KQ.out.at_ 1 rfl; have q2 := KQ.out.at_ 2 rfl; have XQ2 := Lib.hid (XQ.out.2.1.below hb); have D := Lib.hid (XQ.out.2.2.trans (hb.mono XQ.out.2.2.size)); obtain ⟨⟨k0, k1, k2⟩, kq⟩ := KP.out _ D.out; clear hb)
                  | (go_at_call 31; (with_reducible refine (C0.out _ _ _ kq).mono ?_); rintro e w22 ⟨rfl, hb⟩; have D := Lib.hid (D.out.trans (hb.mono D.out.size)); clear hb)
                  | (go_at_call 24; (with_reducible refine (S0.out _ _).mono ?_); rintro e w24 ⟨rfl, rfl⟩)
                  | (go_at_call 29; (with_reducible refine (SU.out _).mono ?_); rintro e w25 ⟨rfl, hb⟩; have D := Lib.hid (D.out.trans (hb.mono D.out.size)); clear hb))
                go_ret2
                exact ⟨rfl, D3.out.trans (D.out.mono D3.out.size)⟩)
            · have e := V3.out e2 e4
              subst e2
              clear V1 V2 V3 e4 SU SB
              by_cases hm2 : mode = 2
              · rw [if_pos hm2] at e
                subst e
                subst hm2
                go_wp2_with (first
                  | (go_at_call 31; (with_reducible refine (C0.out _ _ _ XQ.out.2.1).mono ?_); rintro e w21 ⟨rfl, hb⟩; have KQ := Lib.hid (XQ.out.1.below hb XQ.out.1.lt); have q0 := KQ.out.at_ 0 rfl; have q1 := KQ.out.at_ 1 rfl; have q2 := KQ.out.at_ 2 rfl; have XQ2 := Lib.hid (XQ.out.2.1.below hb); have D := Lib.hid (XQ.out.2.2.trans (hb.mono XQ.out.2.2.size)); obtain ⟨⟨k0, k1, k2⟩, kq⟩ := KP.out _ D.out; clear hb)
                  | (go_at_call 31; (with_reducible refine (C0.out _ _ _ kq).mono ?_); rintro e w22 ⟨rfl, hb⟩; have D := Lib.hid (D.out.trans (hb.mono D.out.size)); clear hb)
                  | (go_at_call 24; (with_reducible refine (S0.out _ _).mono ?_); rintro e w24 ⟨rfl, rfl⟩))
                go_ret2
                exact ⟨rfl, D3.out.trans (D.out.mono D3.out.size)⟩
              · have t2 : (mode == 2) = false := by simp [hm2]
                rw [if_neg hm2] at e
                subst e
                clear hm2
                go_wp2_with (first
                  | (go_at_call 31; (with_reducible refine (C0.out _ _ _ XQ.out.2.1).mono ?_); rintro e w21 ⟨rfl, hb⟩; have KQ := Lib.hid (XQ.out.1.below hb XQ.out.1.lt); have q0 := KQ.out.at_ 0 rfl; have q1 := KQ.out.at_ 1 rfl; have q2 := KQ.out.at_ 2 rfl; have XQ2 := Lib.hid (XQ.out.2.1.below hb); have D := Lib.hid (XQ.out.2.2.trans (hb.mono XQ.out.2.2.size)); obtain ⟨⟨k0, k1, k2⟩, kq⟩ := KP.out _ D.out; clear hb)
                  | (go_at_call 31; (with_reducible refine (C0.out _ _ _ kq).mono ?_); rintro e w22 ⟨rfl, hb⟩; have D := Lib.hid (D.out.trans (hb.mono D.out.size)); clear hb)
                  | (go_at_call 24; (with_reducible refine (S0.out _ _).mono ?_); rintro e w24 ⟨rfl, rfl⟩))
                go_ret2
                exact ⟨rfl, D3.out.trans (D.out.mono D3.out.size)⟩
          · have e := V1.out e2
            subst e
            clear V1 V2 V3 e2 SU SB
            go_wp2_with (first
              | (go_at_call 31; (with_reducible refine (C0.out _ _ _ XQ.out.2.1).mono ?_); rintro e w21 ⟨rfl, hb⟩; have KQ := Lib.hid (XQ.out.1.below hb XQ.out.1.lt); have q0 := KQ.out.at_ 0 rfl; have q1 := KQ.out.at_ 1 rfl; have q2 := KQ.out.at_ 2 rfl; have XQ2 := Lib.hid (XQ.out.2.1.below hb); have D := Lib.hid (XQ.out.2.2.trans (hb.mono XQ.out.2.2.size)); obtain ⟨⟨k0, k1, k2⟩, kq⟩ := KP.out _ D.out; clear hb)
              | (go_at_call 26; (with_reducible refine (RO.out _ _ XQ2.out).mono ?_); rintro e w23 ⟨rfl, hb⟩; have D := Lib.hid (D.out.trans (hb.mono D.out.size)); clear hb))
            go_ret2
            exact ⟨rfl, D3.out.trans (D.out.mono D3.out.size)⟩
    · have fx := fi_b hx x5 x4
      have fy := fi_b hy y5 y4
      rw [x5] at NX
      rw [y5] at NY
      rw [x4] at IX
      rw [y4] at IY
      rw [x1] at ZX
      by_cases z4 : F.cls z = 4
      · have e := FT_iz hm fx fy hz z4
        rw [hr] at e
        subst e
        rw [z4] at IZ
        clear hr SUM SB hm hx hy hz z5 hb z4 fx fy x5 y5 x4 y4 x1 y1
        generalize F.sgn x = sx at *
        generalize F.sgn y = sy at *
        generalize F.cls x = cx at *
        generalize F.cls y = cy at *
        go_enter Tryz.func10, Tryz.ntmps10
        go_wp2_with (first
          | (go_at_call 19; (with_reducible refine (MX.out _).mono ?_); rintro e w1 ⟨rfl, rfl⟩)
          | (go_at_call 19; (with_reducible refine (MY.out _).mono ?_); rintro e w2 ⟨rfl, rfl⟩)
          | (go_at_call 20; (with_reducible refine (NX.out _).mono ?_); rintro e w3 ⟨rfl, rfl⟩)
          | (go_at_call 20; (with_reducible refine (NY.out _).mono ?_); rintro e w4 ⟨rfl, rfl⟩)
          | (go_at_call 20; (with_reducible refine (NZ.out _).mono ?_); rintro e w4 ⟨rfl, rfl⟩)
          | (go_at_call 21; (with_reducible refine (IX.out _).mono ?_); rintro e w5 ⟨rfl, rfl⟩)
          | (go_at_call 21; (with_reducible refine (IY.out _).mono ?_); rintro e w6 ⟨rfl, rfl⟩)
          | (go_at_call 21; (with_reducible refine (IZ.out _).mono ?_); rintro e w6 ⟨rfl, rfl⟩)
          | (go_at_call 22; (with_reducible refine (ZX.out _).mono ?_); rintro e w7 ⟨rfl, rfl⟩)
          | (go_at_call 22; (with_reducible refine (ZY.out _).mono ?_); rintro e w8 ⟨rfl, rfl⟩)
          | (go_at_call 23; (with_reducible refine (QN.out _).mono ?_); rintro e w9 ⟨rfl, rfl⟩)
          | (go_at_call 25; (with_reducible refine (IB.out _).mono ?_); rintro e w10 ⟨rfl, rfl⟩)
          | (go_at_call 24; (with_reducible refine (S1.out _ _).mono ?_); rintro e w11 ⟨rfl, rfl⟩)
          | (go_at_call 24; (with_reducible refine (S0.out _ _).mono ?_); rintro e w12 ⟨rfl, rfl⟩))
        go_ret2
        exact ⟨rfl, Below.refl _ _⟩
      · have z4' : (F.cls z == 4) = false := beq_eq_false_iff_ne.2 z4
        rw [z4'] at IZ
        have fz : fi z := ⟨hz.1, hz.2, cls_fi.1 ⟨z5, z4⟩⟩
        have fv := FT_val (mode := mode) hm fx fy fz
        rw [hr] at fv
        obtain ⟨okf, ev, v1, v2, v3⟩ := fv
        have ff := fd_p fx fy fz
        have LIM : Hid (∀ K : Int, K = 2056 → S (PD x y).d + val z ≤ sc 1 K ∧ -(sc 1 K) ≤ S (PD x y).d + val z) := fun K hK => by rw [← ev]; exact fit_k ff.1 (by omega) hK
        have QVx : Hid (∀ (W : World), Calls Tryz.prog 28 #[.int .u64 x] W (RetSF 2200 1100 W (val x))) := fun W => QVal_v x W fx
        have QVy : Hid (∀ (W : World), Calls Tryz.prog 28 #[.int .u64 y] W (RetSF 2200 1100 W (val y))) := fun W => QVal_v y W fy
        have QVz : Hid (∀ (W : World), Calls Tryz.prog 28 #[.int .u64 z] W (RetSF 2200 1100 W (val z))) := fun W => QVal_v z W fz
        have QM : Hid (∀ (W : World) (u v : Value), QS 2200 1100 W u (val x) → QS 2200 1100 W v (val y) → Calls Tryz.prog 27 #[u, v] W (RetS 4400 2200 W (S (PD x y).d))) := fun W u v h3 h4 => QMul_pd fx fy h3 h4
        have QA : Hid (∀ (W : World) (u v : Value), QS 4400 2200 W u (S (PD x y).d) → QS 2200 1100 W v (val z) → Calls Tryz.prog 30 #[u, v] W (RetSF 4400 2200 W (S (fd x y z)))) := fun W u v h1 h2 => by rw [ev]; exact QAdd_p rfl h1 (h2.mono2 (by omega) (by omega)) (LIM.out 2056 rfl)
        have C0 : Hid (∀ (W : World) (u : Value) (s : Int), QS 4400 2200 W u s → Calls Tryz.prog 31 #[u, .agg #[.bool false, .slice none 0 0, .int .i64 0]] W fun e w' => e = .returned (.int .i64 (cmpv s 0)) ∧ Below W.heap.size W w') := fun W u s h => QCmp_s h (qs_zero W) (by omega) (by omega) (by omega) (by omega)
        have RO : Hid (∀ (W : World) (u : Value), QS 4400 2200 W u (S (fd x y z)) → Calls Tryz.prog 26 #[u, .int .i64 0, .int .i64 mode] W fun e w' => e = .returned (.tuple #[.int .u64 (TX (fd x y z) mode), .bool (TL (fd x y z) mode)]) ∧ Below W.heap.size W w') := fun W u h => Rounded_t h (by omega) (by omega) okf hm
        have SU : Hid (∀ W : World, Calls Tryz.prog 29 #[.slice (some ⟨W.heap.size, 0, none⟩) 2 2, .int .i64 mode] (W.alloc (.cells #[.int .u64 (sp x y), .int .u64 z] 22)) fun e w' => e = .returned (.tuple #[.int .u64 (AT [sp x y, z] mode).1, .bool (AT [sp x y, z] mode).2.1]) ∧ Below W.heap.size W w') := SUM _ (by rcases sp2 x y with h | h <;> rw [h] <;> omega)
        generalize TX (fd x y z) mode = tx at *
        generalize TL (fd x y z) mode = tl at *
        generalize S (fd x y z) = sf at *
        generalize AT [sp x y, z] mode = at' at *
        generalize S (PD x y).d = sd at *
        generalize val x = vx at *
        generalize val y = vy at *
        generalize val z = vz at *
        generalize sp x y = s at *
        have V1 := Lib.hid v1
        have V2 := Lib.hid v2
        have V3 := Lib.hid v3
        clear hr SUM hm hx hy hz z5 hb z4 z4' fx fy fz okf ev ff v1 v2 v3 LIM x5 y5 x4 y4 x1 y1
        generalize F.sgn x = sx at *
        generalize F.sgn y = sy at *
        generalize F.cls x = cx at *
        generalize F.cls y = cy at *
        generalize F.cls z = cz at *
        go_enter Tryz.func10, Tryz.ntmps10
        go_upto_region 9 with (first
          | (go_at_call 19; (with_reducible refine (MX.out _).mono ?_); rintro e w1 ⟨rfl, rfl⟩)
          | (go_at_call 19; (with_reducible refine (MY.out _).mono ?_); rintro e w2 ⟨rfl, rfl⟩)
          | (go_at_call 20; (with_reducible refine (NX.out _).mono ?_); rintro e w3 ⟨rfl, rfl⟩)
          | (go_at_call 20; (with_reducible refine (NY.out _).mono ?_); rintro e w4 ⟨rfl, rfl⟩)
          | (go_at_call 20; (with_reducible refine (NZ.out _).mono ?_); rintro e w4 ⟨rfl, rfl⟩)
          | (go_at_call 21; (with_reducible refine (IX.out _).mono ?_); rintro e w5 ⟨rfl, rfl⟩)
          | (go_at_call 21; (with_reducible refine (IY.out _).mono ?_); rintro e w6 ⟨rfl, rfl⟩)
          | (go_at_call 21; (with_reducible refine (IZ.out _).mono ?_); rintro e w6 ⟨rfl, rfl⟩)
          | (go_at_call 22; (with_reducible refine (ZX.out _).mono ?_); rintro e w7 ⟨rfl, rfl⟩)
          | (go_at_call 22; (with_reducible refine (ZY.out _).mono ?_); rintro e w8 ⟨rfl, rfl⟩)
          | (go_at_call 23; (with_reducible refine (QN.out _).mono ?_); rintro e w9 ⟨rfl, rfl⟩)
          | (go_at_call 25; (with_reducible refine (IB.out _).mono ?_); rintro e w10 ⟨rfl, rfl⟩)
          | (go_at_call 24; (with_reducible refine (S1.out _ _).mono ?_); rintro e w11 ⟨rfl, rfl⟩)
          | (go_at_call 24; (with_reducible refine (S0.out _ _).mono ?_); rintro e w12 ⟨rfl, rfl⟩)
          | (go_at_call 28; (with_reducible refine (QVx.out _).mono ?_); rintro e w13 ⟨b1, A1, n1, c1, t1, z1, rfl, r1, r2, r3, r4, r5, r6, hb⟩; have Q1 := Lib.hid (RetS.qs r1 r2 r3 r4 r5); have D := Lib.hid hb; clear r1 r2 r3 r4 r5 r6 hb)
          | (go_at_call 28; (with_reducible refine (QVy.out _).mono ?_); rintro e w14 ⟨b2, A2, n2, c2, t2, z2, rfl, r1, r2, r3, r4, r5, r6, hb⟩; have Q1 := Lib.hid (Q1.out.below hb); have Q2 := Lib.hid (RetS.qs r1 r2 r3 r4 r5); have D := Lib.hid (D.out.trans (hb.mono D.out.size)); clear r1 r2 r3 r4 r5 r6 hb)
          | (go_at_call 27; (with_reducible refine (QM.out _ _ _ Q1.out Q2.out).mono ?_); rintro e w15 ⟨b3, A3, n3, c3, t3, z3, rfl, r1, r2, r3, r4, r5, hb⟩; have Q3 := Lib.hid (RetS.qs r1 r2 r3 r4 r5); have D := Lib.hid (D.out.trans (hb.mono D.out.size)); clear r1 r2 r3 r4 r5 hb))
        have DY := al1 w15 (.cells #[.bool b3, .slice A3 n3 c3, .int .i64 t3] 52)
        have Y2 := Blk.new w15 52 #[.bool b3, .slice A3 n3 c3, .int .i64 t3]
        have V9 := Q3.out.below DY
        have D3 := D.out.trans (DY.mono D.out.size)
        obtain ⟨W3, hW3⟩ : ∃ W3, w15.alloc (.cells #[.bool b3, .slice A3 n3 c3, .int .i64 t3] 52) = W3 := ⟨_, rfl⟩
        obtain ⟨g2, hg2⟩ : ∃ g2, w15.heap.size = g2 := ⟨_, rfl⟩
        rw [hW3] at DY Y2 V9 D3 ⊢
        rw [hg2] at Y2 ⊢
        have KP : Hid (∀ W, Below W3.heap.size W3 W → (W.cell? ⟨g2, 0, none⟩ = some (.bool b3) ∧ W.cell? ⟨g2, 1, none⟩ = some (.slice A3 n3 c3) ∧ W.cell? ⟨g2, 2, none⟩ = some (.int .i64 t3)) ∧ QS 4400 2200 W (.agg #[.bool b3, .slice A3 n3 c3, .int .i64 t3]) sd) := fun W hW => ⟨⟨(Y2.below hW Y2.lt).at_ 0 rfl, (Y2.below hW Y2.lt).at_ 1 rfl, (Y2.below hW Y2.lt).at_ 2 rfl⟩, V9.below hW⟩
        have D3 := Lib.hid D3
        clear hW3 hg2 DY Y2 V9 D Q1 Q2 Q3
        go_cut [12] (fun s12 wx => ∃ g b A n c t, s12 = .pointer (some ⟨g, 0, none⟩) ∧ Hid (Blk wx g 52 #[.bool b, .slice A n c, .int .i64 t] ∧ QS 4400 2200 wx (.agg #[.bool b, .slice A n c, .int .i64 t]) sf ∧ Below W3.heap.size W3 wx))
        case first =>
          have D : Below W3.heap.size W3 W3.drew := (Below.refl _ _).drew
          (refine wp_region_L (S := fun w' => w'.cell? ⟨g2, 0, none⟩ = some (.bool b3) ∧ w'.cell? ⟨g2, 1, none⟩ = some (.slice A3 n3 c3) ∧ w'.cell? ⟨g2, 2, none⟩ = some (.int .i64 t3)) (nl := 1000000) (by kernel_rfl) ?_ (fun hHeld => ?_); focus (exact (KP.out _ D).1))
          (refine wpAnyL_take (i := 0) (oi := _) (v := ?_) rfl (by kernel_rfl) (by kernel_rfl) (by kernel_rfl) (fun _ _ _ h => h) (Or.inl ⟨by first | rfl | kernel_rfl, ?hy5⟩) (by assumption) ?rs5; (case hy5 => (intro w hSw; (try dsimp only at hSw); go_simp; first | done | with_reducible rfl)); case' rs5 => (simp only [List.getElem_toArray, List.getElem_cons_zero, List.getElem_cons_succ, Act.put, List.setIfInBounds_toArray, List.set_cons_zero, List.set_cons_succ])); (refine wpAnyL_take (i := 1) (oi := _) (v := ?_) rfl (by kernel_rfl) (by kernel_rfl) (by kernel_rfl) (fun _ _ _ h => h) (Or.inl ⟨by first | rfl | kernel_rfl, ?hy6⟩) (by assumption) ?rs6; (case hy6 => (intro w hSw; (try dsimp only at hSw); go_simp; first | done | with_reducible rfl)); case' rs6 => (simp only [List.getElem_toArray, List.getElem_cons_zero, List.getElem_cons_succ, Act.put, List.setIfInBounds_toArray, List.set_cons_zero, List.set_cons_succ])); skip
          refine wpAnyL_two (i := 2) (j := 4) (oi := _) (oj := _) (by kernel_rfl) rfl rfl (fun K hK => ?_) (fun K hK => ?_)
          · (clear hHeld; simp only [List.getElem_toArray, List.getElem_cons_zero, List.getElem_cons_succ]; go_simp; (go_at_call 28; (with_reducible refine (QVz.out _).mono ?_); rintro e w4 ⟨b4, A4, n4, c4, t4, z4, rfl, r1, r2, r3, r4, r5, r6, hb⟩; have Q4 := Lib.hid (RetS.qs r1 r2 r3 r4 r5); have D := D.trans (hb.mono D.size); clear r1 r2 r3 r4 r5 r6 hb); refine hK.out _ _ ?_ (fun hHeld => ?_); focus (intro _; exact (KP.out _ D).1)); have hHeld := hHeld (by decide); clear hK K; (try simp only [Act.put, List.setIfInBounds_toArray, List.set_cons_zero, List.set_cons_succ])
            refine wpAnyL_two (i := 3) (j := 4) (oi := _) (oj := _) (by kernel_rfl) rfl rfl (fun K hK => ?_) (fun K hK => ?_)
            · (clear hHeld; simp only [List.getElem_toArray, List.getElem_cons_zero, List.getElem_cons_succ]; go_simp; (go_at_call 30; (with_reducible refine (QA.out _ _ _ (KP.out _ D).2 Q4.out).mono ?_); rintro e w5 ⟨b5, A5, n5, c5, t5, z5, rfl, r1, r2, r3, r4, r5, r6, hb5⟩; have D := D.trans (hb5.mono D.size)); refine hK.out _ _ ?_ (fun hHeld => ?_); focus (intro _; exact (KP.out _ D).1)); have hHeld := hHeld (by decide); clear hK K; (try simp only [Act.put, List.setIfInBounds_toArray, List.set_cons_zero, List.set_cons_succ])
              (refine wpAnyL_one (i := 4) (o := _) (by kernel_rfl) rfl (fun K hK => ?_); clear hHeld; simp only [List.getElem_toArray, List.getElem_cons_zero, List.getElem_cons_succ]; go_simp; refine hK.out _ _ ?_ (fun hHeld => ?_); focus (intro _; exact (KP.out _ (D.alloc D.size _)).1)); have hHeld := hHeld (by decide); clear hK K; (try simp only [Act.put, List.setIfInBounds_toArray, List.set_cons_zero, List.set_cons_succ])
              have X := Lib.hid (And.intro (Blk.new w5 52 #[.bool b5, .slice A5 n5 c5, .int .i64 t5]) (And.intro ((RetS.qs r1 r2 r3 r4 r5).below (al1 w5 (.cells #[.bool b5, .slice A5 n5 c5, .int .i64 t5] 52))) (D.alloc D.size (.cells #[.bool b5, .slice A5 n5 c5, .int .i64 t5] 52))))
              clear hHeld r1 r2 r3 r4 r5 r6 hb5 D
              (refine wpAnyL_one (i := 5) (o := _) (by kernel_rfl) rfl (fun K hK => ?_); clear hHeld; simp only [List.getElem_toArray, List.getElem_cons_zero, List.getElem_cons_succ]; go_simp; refine hK.out _ _ ?_ (fun hHeld => ?_); focus (intro _; exact (KP.out _ X.out.2.2).1)); have hHeld := hHeld (by decide); clear hK K; (try simp only [Act.put, List.setIfInBounds_toArray, List.set_cons_zero, List.set_cons_succ])
              refine wpAnyL_done (by kernel_rfl) ?_ _
              go_wp2
              go_meet
              exact ⟨_, _, _, _, _, _, rfl, X.out.1, X.out.2.1, X.out.2.2⟩
            · (clear hHeld; simp only [List.getElem_toArray, List.getElem_cons_zero, List.getElem_cons_succ]; go_simp; refine hK.out _ _ ?_ (fun hHeld => ?_); focus (intro _; exact (KP.out _ (D.alloc D.size _)).1)); have hHeld := hHeld (by decide); clear hK K; (try simp only [Act.put, List.setIfInBounds_toArray, List.set_cons_zero, List.set_cons_succ])
              have R := Blk.new w4 52 #[.bool false, .slice none 0 0, .int .i64 0]
              have Q4 := Lib.hid (Q4.out.below (al1 w4 (.cells #[.bool false, .slice none 0 0, .int .i64 0] 52)))
              have hg := D.size
              have D := D.alloc D.size (.cells #[.bool false, .slice none 0 0, .int .i64 0] 52)
              (refine wpAnyL_one (i := 3) (o := _) (by kernel_rfl) rfl (fun K hK => ?_); clear hHeld; simp only [List.getElem_toArray, List.getElem_cons_zero, List.getElem_cons_succ]; go_simp; (go_at_call 30; (with_reducible refine (QA.out _ _ _ (KP.out _ D).2 Q4.out).mono ?_); rintro e w5 ⟨b5, A5, n5, c5, t5, z5, rfl, r1, r2, r3, r4, r5, r6, hb5⟩; have hgl := R.lt; have D := D.trans (hb5.mono D.size); have R := R.below hb5 R.lt); refine hK.out _ _ ?_ (fun hHeld => ?_); focus (intro _; exact (KP.out _ D).1)); have hHeld := hHeld (by decide); clear hK K; (try simp only [Act.put, List.setIfInBounds_toArray, List.set_cons_zero, List.set_cons_succ])
              have f0 := R.frozen 0; have f1 := R.frozen 1; have f2 := R.frozen 2; have t0 := R.at_ 0 rfl; have t1 := R.at_ 1 rfl; have t2 := R.at_ 2 rfl
              have X := Lib.hid (And.intro (blk3 R (.bool b5) (.slice A5 n5 c5) (.int .i64 t5)) (And.intro (show QS 4400 2200 _ _ sf from ⟨z5, t5, ⟨b5, A5, n5, c5, rfl, QC.set3 r1 (off_new r6 hgl) (.bool b5) (.slice A5 n5 c5) (.int .i64 t5)⟩, r2, r3, r4, r5⟩) (below3q D hg (.bool b5) (.slice A5 n5 c5) (.int .i64 t5))))
              clear hHeld R r1 r2 r3 r4 r5 r6 hb5 D
              (refine wpAnyL_one (i := 5) (o := _) (by kernel_rfl) rfl (fun K hK => ?_); clear hHeld; simp only [List.getElem_toArray, List.getElem_cons_zero, List.getElem_cons_succ]; go_simp; refine hK.out _ _ ?_ (fun hHeld => ?_); focus (intro _; exact (KP.out _ X.out.2.2).1)); have hHeld := hHeld (by decide); clear hK K; (try simp only [Act.put, List.setIfInBounds_toArray, List.set_cons_zero, List.set_cons_succ])
              refine wpAnyL_done (by kernel_rfl) ?_ _
              go_wp2
              go_meet
              exact ⟨_, _, _, _, _, _, rfl, X.out.1, X.out.2.1, X.out.2.2⟩
          · (clear hHeld; simp only [List.getElem_toArray, List.getElem_cons_zero, List.getElem_cons_succ]; go_simp; refine hK.out _ _ ?_ (fun hHeld => ?_); focus (intro _; exact (KP.out _ ((Below.refl _ _).drew.alloc (Nat.le_refl _) _)).1)); have hHeld := hHeld (by decide); clear hK K; (try simp only [Act.put, List.setIfInBounds_toArray, List.set_cons_zero, List.set_cons_succ])
            have R := Blk.drew (Blk.new W3 52 #[.bool false, .slice none 0 0, .int .i64 0])
            have hg := Nat.le_refl W3.heap.size
            have D : Below W3.heap.size W3 (W3.alloc (.cells #[.bool false, .slice none 0 0, .int .i64 0] 52)).drew := ((Below.refl _ _).alloc (Nat.le_refl _) _).drew
            (refine wpAnyL_one (i := 2) (o := _) (by kernel_rfl) rfl (fun K hK => ?_); clear hHeld; simp only [List.getElem_toArray, List.getElem_cons_zero, List.getElem_cons_succ]; go_simp; (go_at_call 28; (with_reducible refine (QVz.out _).mono ?_); rintro e w4 ⟨b4, A4, n4, c4, t4, z4, rfl, r1, r2, r3, r4, r5, r6, hb⟩; have Q4 := Lib.hid (RetS.qs r1 r2 r3 r4 r5); have D := D.trans (hb.mono D.size); have R := R.below hb R.lt; clear r1 r2 r3 r4 r5 r6 hb); refine hK.out _ _ ?_ (fun hHeld => ?_); focus (intro _; exact (KP.out _ D).1)); have hHeld := hHeld (by decide); clear hK K; (try simp only [Act.put, List.setIfInBounds_toArray, List.set_cons_zero, List.set_cons_succ])
            (refine wpAnyL_one (i := 3) (o := _) (by kernel_rfl) rfl (fun K hK => ?_); clear hHeld; simp only [List.getElem_toArray, List.getElem_cons_zero, List.getElem_cons_succ]; go_simp; (go_at_call 30; (with_reducible refine (QA.out _ _ _ (KP.out _ D).2 Q4.out).mono ?_); rintro e w5 ⟨b5, A5, n5, c5, t5, z5, rfl, r1, r2, r3, r4, r5, r6, hb5⟩; have hgl := R.lt; have D := D.trans (hb5.mono D.size); have R := R.below hb5 R.lt); refine hK.out _ _ ?_ (fun hHeld => ?_); focus (intro _; exact (KP.out _ D).1)); have hHeld := hHeld (by decide); clear hK K; (try simp only [Act.put, List.setIfInBounds_toArray, List.set_cons_zero, List.set_cons_succ])
            have f0 := R.frozen 0; have f1 := R.frozen 1; have f2 := R.frozen 2; have t0 := R.at_ 0 rfl; have t1 := R.at_ 1 rfl; have t2 := R.at_ 2 rfl
            have X := Lib.hid (And.intro (blk3 R (.bool b5) (.slice A5 n5 c5) (.int .i64 t5)) (And.intro (show QS 4400 2200 _ _ sf from ⟨z5, t5, ⟨b5, A5, n5, c5, rfl, QC.set3 r1 (off_new r6 hgl) (.bool b5) (.slice A5 n5 c5) (.int .i64 t5)⟩, r2, r3, r4, r5⟩) (below3q D hg (.bool b5) (.slice A5 n5 c5) (.int .i64 t5))))
            clear hHeld R r1 r2 r3 r4 r5 r6 hb5 D
            (refine wpAnyL_one (i := 5) (o := _) (by kernel_rfl) rfl (fun K hK => ?_); clear hHeld; simp only [List.getElem_toArray, List.getElem_cons_zero, List.getElem_cons_succ]; go_simp; refine hK.out _ _ ?_ (fun hHeld => ?_); focus (intro _; exact (KP.out _ X.out.2.2).1)); have hHeld := hHeld (by decide); clear hK K; (try simp only [Act.put, List.setIfInBounds_toArray, List.set_cons_zero, List.set_cons_succ])
            refine wpAnyL_done (by kernel_rfl) ?_ _
            go_wp2
            go_meet
            exact ⟨_, _, _, _, _, _, rfl, X.out.1, X.out.2.1, X.out.2.2⟩
        case rest =>
          obtain ⟨g, b, A, n, c, t, rfl, XQ⟩ := hcut
          have q0 := XQ.out.1.at_ 0 rfl
          have q1 := XQ.out.1.at_ 1 rfl
          have q2 := XQ.out.1.at_ 2 rfl
          rcases cmp0 sf with ⟨e1, e2⟩ | ⟨e1, -, e2⟩
          · rw [e2] at e1
            rcases cmp0 sd with ⟨e3, e4⟩ | ⟨-, e3, e4⟩
            · have e := V2.out e2 e4
              subst e
              rw [e4] at e3
              subst e2
              subst e4
              clear V1 V2 V3
              cases sx <;> cases sy
              all_goals (
                have hs := SB.out
                simp at hs
                subst hs
                go_wp2_with (first
                  | (go_at_call 31; (with_reducible refine (C0.out _ _ _ XQ.out.2.1).mono ?_); rintro e w21 ⟨rfl, hb⟩; have KQ := Lib.hid (XQ.out.1.below hb XQ.out.1.lt); have q0 := KQ.out.at_ 0 rfl; have q1 := KQ.out.at_ 1 rfl; have q2 := KQ.out.at_ 2 rfl; have XQ2 := Lib.hid (XQ.out.2.1.below hb); have D := Lib.hid (XQ.out.2.2.trans (hb.mono XQ.out.2.2.size)); obtain ⟨⟨k0, k1, k2⟩, kq⟩ := KP.out _ D.out; clear hb)
                  | (go_at_call 31; (with_reducible refine (C0.out _ _ _ kq).mono ?_); rintro e w22 ⟨rfl, hb⟩; have D := Lib.hid (D.out.trans (hb.mono D.out.size)); clear hb)
                  | (go_at_call 24; (with_reducible refine (S0.out _ _).mono ?_); rintro e w24 ⟨rfl, rfl⟩)
                  | (go_at_call 29; (with_reducible refine (SU.out _).mono ?_); rintro e w25 ⟨rfl, hb⟩; have D := Lib.hid (D.out.trans (hb.mono D.out.size)); clear hb))
                go_ret2
                exact ⟨rfl, D3.out.trans (D.out.mono D3.out.size)⟩)
            · have e := V3.out e2 e4
              subst e2
              clear V1 V2 V3 e4 SU SB
              by_cases hm2 : mode = 2
              · rw [if_pos hm2] at e
                subst e
                subst hm2
                go_wp2_with (first
                  | (go_at_call 31; (with_reducible refine (C0.out _ _ _ XQ.out.2.1).mono ?_); rintro e w21 ⟨rfl, hb⟩; have KQ := Lib.hid (XQ.out.1.below hb XQ.out.1.lt); have q0 := KQ.out.at_ 0 rfl; have q1 := KQ.out.at_ 1 rfl; have q2 := KQ.out.at_ 2 rfl; have XQ2 := Lib.hid (XQ.out.2.1.below hb); have D := Lib.hid (XQ.out.2.2.trans (hb.mono XQ.out.2.2.size)); obtain ⟨⟨k0, k1, k2⟩, kq⟩ := KP.out _ D.out; clear hb)
                  | (go_at_call 31; (with_reducible refine (C0.out _ _ _ kq).mono ?_); rintro e w22 ⟨rfl, hb⟩; have D := Lib.hid (D.out.trans (hb.mono D.out.size)); clear hb)
                  | (go_at_call 24; (with_reducible refine (S0.out _ _).mono ?_); rintro e w24 ⟨rfl, rfl⟩))
                go_ret2
                exact ⟨rfl, D3.out.trans (D.out.mono D3.out.size)⟩
              · have t2 : (mode == 2) = false := by simp [hm2]
                rw [if_neg hm2] at e
                subst e
                clear hm2
                go_wp2_with (first
                  | (go_at_call 31; (with_reducible refine (C0.out _ _ _ XQ.out.2.1).mono ?_); rintro e w21 ⟨rfl, hb⟩; have KQ := Lib.hid (XQ.out.1.below hb XQ.out.1.lt); have q0 := KQ.out.at_ 0 rfl; have q1 := KQ.out.at_ 1 rfl; have q2 := KQ.out.at_ 2 rfl; have XQ2 := Lib.hid (XQ.out.2.1.below hb); have D := Lib.hid (XQ.out.2.2.trans (hb.mono XQ.out.2.2.size)); obtain ⟨⟨k0, k1, k2⟩, kq⟩ := KP.out _ D.out; clear hb)
                  | (go_at_call 31; (with_reducible refine (C0.out _ _ _ kq).mono ?_); rintro e w22 ⟨rfl, hb⟩; have D := Lib.hid (D.out.trans (hb.mono D.out.size)); clear hb)
                  | (go_at_call 24; (with_reducible refine (S0.out _ _).mono ?_); rintro e w24 ⟨rfl, rfl⟩))
                go_ret2
                exact ⟨rfl, D3.out.trans (D.out.mono D3.out.size)⟩
          · have e := V1.out e2
            subst e
            clear V1 V2 V3 e2 SU SB
            go_wp2_with (first
              | (go_at_call 31; (with_reducible refine (C0.out _ _ _ XQ.out.2.1).mono ?_); rintro e w21 ⟨rfl, hb⟩; have KQ := Lib.hid (XQ.out.1.below hb XQ.out.1.lt); have q0 := KQ.out.at_ 0 rfl; have q1 := KQ.out.at_ 1 rfl; have q2 := KQ.out.at_ 2 rfl; have XQ2 := Lib.hid (XQ.out.2.1.below hb); have D := Lib.hid (XQ.out.2.2.trans (hb.mono XQ.out.2.2.size)); obtain ⟨⟨k0, k1, k2⟩, kq⟩ := KP.out _ D.out; clear hb)
              | (go_at_call 26; (with_reducible refine (RO.out _ _ XQ2.out).mono ?_); rintro e w23 ⟨rfl, hb⟩; have D := Lib.hid (D.out.trans (hb.mono D.out.size)); clear hb))
            go_ret2
            exact ⟨rfl, D3.out.trans (D.out.mono D3.out.size)⟩
end PC
end Go.Proofs.YtjplemfdhhkbaaaGreatDoor
