/-
  Package prod: checkMode, byClass, exact.
-/
import Derived.Test.YtpmjeipdldnnbaaDoorP4
import Derived.Test.YtpmjeipdldnnbaaDoorK8
namespace Go.Proofs.YtpmjeipdldnnbaaDoor
set_option linter.unusedVariables false
set_option linter.unusedSimpArgs false
open Go.RowKit
set_option linter.unusedVariables false
set_option linter.unusedSimpArgs false
namespace PC
open L NC NK DC RC SC
theorem checkModeP_c (mode : Int) (w : World) (hT : TabD w) : Calls Tryd.prog 60 #[.int .i64 mode] w (DC.RetB w (.int .i64 (if 0 ≤ mode ∧ mode ≤ 4 then 0 else 1))) := by
  have TO := Lib.hid (To_d (.agg #[.bool false, .slice none 0 0, .int .i64 0]) dz mode w (GV.zero w).dv hT)
  have e : TE dz mode = if 0 ≤ mode ∧ mode ≤ 4 then 0 else 1 := by unfold TE; rw [if_neg (by simp [dz])]
  rw [e] at TO
  clear e hT
  generalize (if 0 ≤ mode ∧ mode ≤ 4 then 0 else 1 : Int) = E at *
  generalize TX dz mode = x at *
  generalize TL dz mode = l at *
  go_enter Tryd.func60, Tryd.ntmps60
  go_wp2_with (go_at_call 32; (with_reducible refine (TO.out).mono ?_); rintro e w1 ⟨rfl, hb⟩)
  go_ret
  exact ⟨rfl, hb⟩
theorem and_top (a : Nat) : a &&& 9223372036854775808 = if a.testBit 63 = true then 9223372036854775808 else 0 := by
  have h2 : (9223372036854775808 : Nat) = 2 ^ 63 := rfl
  have h3 : Nat.testBit 9223372036854775808 63 = true := by decide
  apply Nat.eq_of_testBit_eq
  intro i
  rw [Nat.testBit_and]
  by_cases hi : i = 63
  · subst hi
    rw [h3]
    cases a.testBit 63
    · simp
    · simp [h3]
  · have : Nat.testBit 9223372036854775808 i = false := by rw [h2]; exact Nat.testBit_two_pow_of_ne (by omega)
    rw [this]
    split
    · rw [this]; simp
    · simp
theorem top_bit {x : Int} (h0 : 0 ≤ x) (h1 : x ≤ 18446744073709551615) : x.toNat.testBit 63 = F.sgn x := by
  by_cases h : 9223372036854775808 ≤ x
  · rw [F.sgn_t h, Nat.testBit_eq_decide_div_mod_eq, decide_eq_true_iff]; omega
  · rw [F.sgn_f (by omega), Nat.testBit_eq_decide_div_mod_eq, decide_eq_false_iff_not]; omega
theorem sp_bits {x y : Int} (hx : 0 ≤ x ∧ x ≤ 18446744073709551615) (hy : 0 ≤ y ∧ y ≤ 18446744073709551615) : bits .and .u64 (bits .xor .u64 x y) 9223372036854775808 = sp x y := by
  rw [u64_xor x y hx.1 (by omega) hy.1 (by omega)]
  have hl : x.toNat ^^^ y.toNat < 2 ^ 64 := Nat.xor_lt_two_pow (by omega) (by omega)
  rw [u64_and _ _ (by omega) (by omega) (by decide) (by decide)]
  rw [show (9223372036854775808 : Int).toNat = 9223372036854775808 from rfl, Int.toNat_natCast, and_top, Nat.testBit_xor, top_bit hx.1 hx.2, top_bit hy.1 hy.2]
  unfold sp
  cases F.sgn x <;> cases F.sgn y <;> rfl
set_option maxRecDepth 100000 in
set_option maxHeartbeats 8000000 in
theorem byClass_c (x y : Int) (w : World) (hx : 0 ≤ x ∧ x ≤ 18446744073709551615) (hy : 0 ≤ y ∧ y ≤ 18446744073709551615) :
    Calls Tryd.prog 61 #[.int .u64 x, .int .u64 y] w fun e w' => e = .returned (.tuple #[.int .u64 (bc x y).1, .bool (bc x y).2]) ∧ w = w' := by
  have hs := Lib.hid (sp_bits hx hy)
  have CX : Hid (∀ W : World, Calls Tryd.prog 13 #[.int .u64 x] W fun e w' => e = .returned (.int .i64 (F.cls x)) ∧ W = w') := fun W => FloatC.Class_c x hx.1 hx.2 W
  have CY : Hid (∀ W : World, Calls Tryd.prog 13 #[.int .u64 y] W fun e w' => e = .returned (.int .i64 (F.cls y)) ∧ W = w') := fun W => FloatC.Class_c y hy.1 hy.2 W
  have a := F.cls_bd x
  have b := F.cls_bd y
  have s2 := sp2 x y
  unfold bc
  generalize sp x y = s at *
  obtain ⟨cx, hcx⟩ : ∃ c, F.cls x = c := ⟨_, rfl⟩
  obtain ⟨cy, hcy⟩ : ∃ c, F.cls y = c := ⟨_, rfl⟩
  rw [hcx] at a CX ⊢
  rw [hcy] at b CY ⊢
  have kx : cx = 1 ∨ cx = 2 ∨ cx = 3 ∨ cx = 4 ∨ cx = 5 := by omega
  have ky : cy = 1 ∨ cy = 2 ∨ cy = 3 ∨ cy = 4 ∨ cy = 5 := by omega
  clear hcx hcy a b hx hy
  obtain ⟨r, hr⟩ : ∃ r : Int × Bool, r = (if max cx cy = 5 ∨ (max cx cy = 4 ∧ min cx cy = 1) then (9221120237041090560, true) else if max cx cy = 4 then (s + 9218868437227405312, true) else if min cx cy = 1 then (s, true) else (0, false)) := ⟨_, rfl⟩
  rw [← hr]
  have HR := Lib.hid hr
  clear hr
  obtain ⟨r1, r2⟩ := r
  rcases kx with rfl | rfl | rfl | rfl | rfl <;> rcases ky with rfl | rfl | rfl | rfl | rfl
  all_goals (
    have h2 := HR.out
    clear HR
    first
      | (rw [if_pos (by decide)] at h2)
      | (rw [if_neg (by decide), if_pos (by decide)] at h2)
      | (rw [if_neg (by decide), if_neg (by decide), if_pos (by decide)] at h2)
      | (rw [if_neg (by decide), if_neg (by decide), if_neg (by decide)] at h2)
    obtain ⟨rfl, rfl⟩ := Prod.mk.inj h2
    clear h2
    go_enter Tryd.func61, Tryd.ntmps61
    go_wp2_with (first
      | (go_at_call 13; (with_reducible refine (CX.out _).mono ?_); rintro e w1 ⟨rfl, rfl⟩)
      | (go_at_call 13; (with_reducible refine (CY.out _).mono ?_); rintro e w1 ⟨rfl, rfl⟩))
    go_ret2
    first
      | exact ⟨rfl, rfl⟩
      | (rw [hs.out]; exact ⟨rfl, rfl⟩)
      | (rw [hs.out]; rcases s2 with rfl | rfl <;> exact ⟨rfl, rfl⟩))
set_option maxRecDepth 100000 in
set_option maxHeartbeats 1000000 in
theorem exact_c (x y : Int) (w : World) (hx : 0 ≤ x ∧ x ≤ 18446744073709551615) (hy : 0 ≤ y ∧ y ≤ 18446744073709551615) (hT : TabD w) :
    Calls Tryd.prog 63 #[.int .u64 x, .int .u64 y] w (RetD w (PD x y)) := by
  obtain ⟨W0, hW0, D0, ZS, KB⟩ := res0 w
  have O1 := Lib.hid (Of_d x hx.1 hx.2 W0 (hT.below D0))
  have O2 : Hid (∀ W, Below W0.heap.size W0 W → Calls Tryd.prog 28 #[.int .u64 y] W (RetD W (OfD y))) := fun W hW => Of_d y hy.1 hy.2 W ((hT.below D0).below hW)
  have ML : Hid (∀ (W : World) (u v : Value) (d1 d2 : Dy), DV W u d1 → DV W v d2 → Below W0.heap.size W0 W → Calls Tryd.prog 17 #[u, v] W (RetD W (DC.Mul d1 d2))) := fun W u v d1 d2 h1 h2 hW => Mul_d u v d1 d2 W h1 h2 ((hT.below D0).below hW)
  have KB := Lib.hid KB
  have D0 := Lib.hid D0
  have HW0 := Lib.hid hW0
  have P : Hid (PD x y = if (OfD x).e = 0 then (if (OfD y).e = 0 then DC.Mul (OfD x).d (OfD y).d else ⟨(OfD y).e, dz⟩) else ⟨(OfD x).e, dz⟩) := by
    unfold PD
    by_cases h1 : F.exq x = 2047
    · have e1 : OfD x = ⟨4, dz⟩ := by unfold OfD; rw [if_pos h1]
      rw [if_pos (.inl h1), e1]; rfl
    · have e1 := (of_fit ⟨hx.1, hx.2, h1⟩).1
      rw [if_pos e1]
      by_cases h2 : F.exq y = 2047
      · have e2 : OfD y = ⟨4, dz⟩ := by unfold OfD; rw [if_pos h2]
        rw [if_pos (.inr h2), e2]; rfl
      · have e2 := (of_fit ⟨hy.1, hy.2, h2⟩).1
        rw [if_pos e2, if_neg (by omega)]
        exact rfl
  obtain ⟨rr, hrr⟩ : ∃ rr, PD x y = rr := ⟨_, rfl⟩
  rw [hrr] at P ⊢
  generalize OfD x = r1 at *
  generalize OfD y = r2 at *
  obtain ⟨e1, d1⟩ := r1
  obtain ⟨e2, d2⟩ := r2
  clear hW0 hT hx hy hrr
  by_cases h1 : e1 = 0
  · subst h1
    by_cases h2 : e2 = 0
    · subst h2
      obtain rfl : rr = DC.Mul d1 d2 := P.out
      clear P
      go_enter Tryd.func63, Tryd.ntmps63
      go_wp2_with (first
        | (go_at_call 28; rw [HW0.out]; (with_reducible refine (O1.out).mono ?_); rintro e w5 ⟨b5, A5, n5, c5, x5, rfl, hv5, hb0⟩; have s := hb0.alloc hb0.size (.cells #[.bool b5, .slice A5 n5 c5, .int .i64 x5] 35); have X1 := BD.new hv5.dv; have D := Lib.hid s; clear hv5 hb0 s)
        | (go_at_call 28; (with_reducible refine (O2.out _ D.out).mono ?_); rintro e w6 ⟨b6, A6, n6, c6, x6, rfl, hv6, hb0⟩; have s := hb0.alloc hb0.size (.cells #[.bool b6, .slice A6 n6 c6, .int .i64 x6] 35); have X2 := BD.new hv6.dv; have X1 := X1.below s; have D := Lib.hid (D.out.trans (s.mono D.out.size)); clear hv6 hb0 s; obtain ⟨a_0, a_1, a_2⟩ := X1.bx; obtain ⟨b_0, b_1, b_2⟩ := X2.bx)
        | (go_at_call 17; (with_reducible refine (ML.out _ _ _ _ _ X1.dv X2.dv D.out).mono ?_); rintro e w7 ⟨b7, A7, n7, c7, x7, rfl, hv7, hb0⟩; have D := Lib.hid (D.out.trans (hb0.mono D.out.size)); have R2 := KB.out _ D.out; have t0 := R2.at_ 0 rfl; have t1 := R2.at_ 1 rfl; have t2 := R2.at_ 2 rfl; have f0 := R2.frozen 0; have f1 := R2.frozen 1; have f2 := R2.frozen 2; have R2 := Lib.hid R2))
      exact bodyPost_ret (v := .tuple #[.agg #[.bool b7, .slice A7 n7 c7, .int .i64 x7], .int .i64 (DC.Mul d1 d2).e]) (by simp [results, Tryd.results63, go_sem, t0, t1, t2]) rfl
        ⟨_, _, _, _, _, rfl, hv7.set3 R2.out _ _ _ (by intro z h; cases h) (by intro z h; cases h), below3 (D0.out.trans (D.out.mono D0.out.size)) (by omega) _ _ _⟩
    · have ep := P.out
      simp only [if_pos] at ep
      rw [if_neg h2] at ep
      subst ep
      have t2' : (e2 != 0) = true := by simp [h2]
      clear P ML h2
      go_enter Tryd.func63, Tryd.ntmps63
      go_wp2_with (first
        | (go_at_call 28; rw [HW0.out]; (with_reducible refine (O1.out).mono ?_); rintro e w5 ⟨b5, A5, n5, c5, x5, rfl, hv5, hb0⟩; have s := hb0.alloc hb0.size (.cells #[.bool b5, .slice A5 n5 c5, .int .i64 x5] 35); have D := Lib.hid s; clear hv5 hb0 s)
        | (go_at_call 28; (with_reducible refine (O2.out _ D.out).mono ?_); rintro e w6 ⟨b6, A6, n6, c6, x6, rfl, hv6, hb0⟩; have s := hb0.alloc hb0.size (.cells #[.bool b6, .slice A6 n6 c6, .int .i64 x6] 35); have D := Lib.hid (D.out.trans (s.mono D.out.size)); clear hv6 hb0 s; have R2 := KB.out _ D.out; have t0 := R2.at_ 0 rfl; have t1 := R2.at_ 1 rfl; have t2 := R2.at_ 2 rfl; have f0 := R2.frozen 0; have f1 := R2.frozen 1; have f2 := R2.frozen 2; have R2 := Lib.hid R2))
      exact bodyPost_ret (v := .tuple #[.agg #[.bool false, .slice none 0 0, .int .i64 0], .int .i64 e2]) (by simp [results, Tryd.results63, go_sem, t0, t1, t2]) rfl
        (RetD.none (below3 (D0.out.trans (D.out.mono D0.out.size)) (by omega) _ _ _))
  · have ep := P.out
    rw [if_neg h1] at ep
    subst ep
    have t1' : (e1 != 0) = true := by simp [h1]
    clear P ML O2 h1
    go_enter Tryd.func63, Tryd.ntmps63
    go_wp2_with (first
      | (go_at_call 28; rw [HW0.out]; (with_reducible refine (O1.out).mono ?_); rintro e w5 ⟨b5, A5, n5, c5, x5, rfl, hv5, hb0⟩; have s := hb0.alloc hb0.size (.cells #[.bool b5, .slice A5 n5 c5, .int .i64 x5] 35); have D := Lib.hid s; clear hv5 hb0 s; have R2 := KB.out _ D.out; have t0 := R2.at_ 0 rfl; have t1 := R2.at_ 1 rfl; have t2 := R2.at_ 2 rfl; have f0 := R2.frozen 0; have f1 := R2.frozen 1; have f2 := R2.frozen 2; have R2 := Lib.hid R2))
    exact bodyPost_ret (v := .tuple #[.agg #[.bool false, .slice none 0 0, .int .i64 0], .int .i64 e1]) (by simp [results, Tryd.results63, go_sem, t0, t1, t2]) rfl
      (RetD.none (below3 (D0.out.trans (D.out.mono D0.out.size)) (by omega) _ _ _))
end PC
end Go.Proofs.YtpmjeipdldnnbaaDoor
