/-
  Package quot: Rem.
-/
import Derived.Test.YtpmjeipdldnnbaaDoorJ6
import Derived.Test.YtpmjeipdldnnbaaDoorK1
namespace Go.Proofs.YtpmjeipdldnnbaaDoor
set_option linter.unusedVariables false
set_option linter.unusedSimpArgs false
open Go.RowKit
set_option linter.unusedVariables false
set_option linter.unusedSimpArgs false
namespace JC
open L NC NK DC RC SC PC
theorem lt_2400 {z : Int} {B : Nat} (hB : B = 2400) (h : z < 2 ^ B) : z < 4294967296 ^ 400 := by
  have e : (4294967296 : Int) = 2 ^ 32 := by decide
  rw [e, ← Int.pow_mul]
  exact Int.lt_trans h (two_lt' (by omega))
theorem pvB {w : World} {v : Value} {z : Int} {B : Nat} (hB : B = 2400) (h : NV w v z) (h0 : 0 ≤ z) (hz : z < 2 ^ B) : PV w v 0 z := by
  have l1 := lt_2400 hB hz
  have hp := h.pv (big3_bds l1 l1 h0 h0).2.2.1
  have e1 : erz z = 0 := by unfold erz; rw [if_pos l1]
  rwa [e1] at hp
theorem of_parts0 {x : Int} (h : fi x) : ∃ o X : Int, OfD x = ⟨0, 0, sgm (F.sgn x) o, X⟩ ∧ 0 ≤ o ∧ o < 9007199254740992 ∧ -1074 ≤ X ∧ X ≤ 1024 ∧ ab x = sc o X := by
  by_cases h0 : val x = 0
  · refine ⟨0, 0, ?_, by omega, by omega, by omega, by omega, ?_⟩
    · obtain ⟨e0, hf⟩ := of_fit h
      have hm : (OfD x).d.m = 0 := sc_zero.1 h0
      have hc := hf.ok.2.1
      unfold can at hc
      have hX : (OfD x).d.x = 0 := by omega
      have he := hf.ok.1
      generalize OfD x = r at *
      obtain ⟨e, er, m, x'⟩ := r
      simp only at e0 hm hX he
      subst e0
      subst hm
      subst hX
      subst he
      unfold sgm
      split <;> rfl
    · rw [sc_zero.2 rfl]
      have := val_ab h
      rw [h0] at this
      unfold sgm at this
      split at this <;> omega
  · obtain ⟨o, X, e1, a1, a2, -, a3, a4, a5⟩ := of_parts h h0
    exact ⟨o, X, e1, by omega, a2, a3, a4, a5⟩
theorem gv_of0 {w : World} {b s : Bool} {A : Option Addr} {n c : Nat} {x o X : Int} (h : GV w b A n c x ⟨0, sgm s o, X⟩) (h0 : 0 ≤ o) : X = x ∧ PV w (.slice A n c) 0 o ∧ (0 < o → s = b) := by
  have p := h.pv
  have hn : (((Dy.mk 0 (sgm s o) X).m).natAbs : Int) = o := by show ((sgm s o).natAbs : Int) = o; unfold sgm; split <;> omega
  rw [hn] at p
  exact ⟨h.2.2.1.symm, p, fun k => (gv_of h k).1⟩
noncomputable def RM (x y : Int) : Int :=
  if F.cls x = 5 ∨ F.cls y = 5 ∨ F.cls x = 4 ∨ F.cls y = 1 then 9221120237041090560
  else if F.cls y = 4 then x
  else if rs (ab x) (ab y) = 0 then rx (F.sgn x) 0
  else rx (F.sgn x != ov (ab x) (ab y)) (tow (rs (ab x) (ab y))).1
theorem pow_2200 {a : Int} {i B : Nat} (hB : B = 2400) (h0 : 0 ≤ a) (h : a < 9007199254740992) (hi : i ≤ 2200) : 0 ≤ a * 2 ^ i ∧ a * 2 ^ i < 2 ^ B := by
  have hp := two_pos' i
  refine ⟨Int.mul_nonneg h0 (Int.le_of_lt hp), ?_⟩
  have h1 := Int.mul_lt_mul_of_pos_right h hp
  have h2 : (9007199254740992 : Int) * 2 ^ i = 2 ^ (53 + i) := by rw [Int.pow_add]; rfl
  rw [h2] at h1
  exact Int.lt_trans h1 (two_lt' (by omega))
theorem rem_parts {x y : Int} (fx : fi x) (fy : fi y) (vy : val y ≠ 0) : ∃ (o1 X1 o2 X2 un ρ : Int) (i j : Nat), OfD x = ⟨0, 0, sgm (F.sgn x) o1, X1⟩ ∧ OfD y = ⟨0, 0, sgm (F.sgn y) o2, X2⟩ ∧ 0 ≤ o1 ∧ o1 < 9007199254740992 ∧ 0 < o2 ∧ o2 < 9007199254740992 ∧ -1074 ≤ X1 ∧ X1 ≤ 1024 ∧ -1074 ≤ X2 ∧ X2 ≤ 1024 ∧
    un = min X1 X2 ∧ X1 - un = i ∧ X2 - un = j ∧ i ≤ 2200 ∧ j ≤ 2200 ∧ 0 < o2 * 2 ^ j ∧ ov (o1 * 2 ^ i) (o2 * 2 ^ j) = ov (ab x) (ab y) ∧ (rs (o1 * 2 ^ i) (o2 * 2 ^ j) = 0 ↔ rs (ab x) (ab y) = 0) ∧ 0 ≤ rs (o1 * 2 ^ i) (o2 * 2 ^ j) ∧ rs (o1 * 2 ^ i) (o2 * 2 ^ j) < 9007199254740992 ∧ (o1 = 0 → rs (o1 * 2 ^ i) (o2 * 2 ^ j) = 0) ∧
    0 ≤ ρ ∧ ρ ≤ 9218868437227405311 ∧ U ρ = rs (ab x) (ab y) ∧ U ρ = sc (rs (o1 * 2 ^ i) (o2 * 2 ^ j)) un ∧ tow (rs (ab x) (ab y)) = (ρ, false, false) := by
  obtain ⟨o1, X1, e1, a1, a2, a3, a4, a5⟩ := of_parts0 fx
  obtain ⟨o2, X2, e2, b1, b2, -, b3, b4, b5⟩ := of_parts fy vy
  obtain ⟨un, hu⟩ : ∃ un, un = min X1 X2 := ⟨_, rfl⟩
  obtain ⟨i, hi⟩ : ∃ i : Nat, X1 - un = i := ⟨(X1 - un).toNat, by omega⟩
  obtain ⟨j, hj⟩ : ∃ j : Nat, X2 - un = j := ⟨(X2 - un).toNat, by omega⟩
  have hE := sc_one_pos un
  have eA : ab x = o1 * 2 ^ i * sc 1 un := by
    rw [← sc_mul1, sc_shift _ _ _ (by omega), a5]
    congr 1; omega
  have eB : ab y = o2 * 2 ^ j * sc 1 un := by
    rw [← sc_mul1, sc_shift _ _ _ (by omega), b5]
    congr 1; omega
  have hb : 0 < o2 * 2 ^ j := Int.mul_pos b1 (two_pos' j)
  have ha : 0 ≤ o1 * 2 ^ i := Int.mul_nonneg a1 (Int.le_of_lt (two_pos' i))
  have sc1 := ov_scale (a := o1 * 2 ^ i) (b := o2 * 2 ^ j) hE
  rw [← eA, ← eB] at sc1
  have bd := rs_bd ha hb
  have lt : rs (o1 * 2 ^ i) (o2 * 2 ^ j) < 9007199254740992 := by
    rcases Int.lt_or_le X1 X2 with h | h
    · have : i = 0 := by omega
      subst this
      simp only [Int.pow_zero, Int.mul_one] at bd ⊢
      omega
    · have : j = 0 := by omega
      subst this
      simp only [Int.pow_zero, Int.mul_one] at bd ⊢
      omega
  have bdU := rs_bd (a := ab x) (b := ab y) (by rw [eA]; exact Int.mul_nonneg ha (Int.le_of_lt hE)) (by rw [eB]; exact Int.mul_pos hb hE)
  obtain ⟨M, hM⟩ : ∃ M : Int, M = 9218868437227405311 := ⟨_, rfl⟩
  have hxU : ab x ≤ U M := U_le (by omega) (by rw [hM]; exact fi_mod fx)
  obtain ⟨k, hk⟩ : ∃ k : Nat, un = (k : Int) - 1074 := ⟨(un + 1074).toNat, by omega⟩
  obtain ⟨ρ, r0, r1, r2⟩ := rank_of (N := rs (o1 * 2 ^ i) (o2 * 2 ^ j)) (a := rs (ab x) (ab y)) (q := rs (o1 * 2 ^ i) (o2 * 2 ^ j)) (M := M) (E := sc 1 un) (k := k) hM (by rw [hk]) sc1.2 bd.1 (Int.le_refl _) lt (Int.le_trans bdU.2.2.1 hxU)
  have t := tow_exact r0 (by omega)
  rw [← r2] at t
  refine ⟨o1, X1, o2, X2, un, ρ, i, j, e1, e2, a1, a2, b1, b2, a3, a4, b3, b4, hu, hi, hj, by omega, by omega, hb, sc1.1.symm, ?_, bd.1, lt, ?_, r0, by omega, r2.symm, by rw [← r2, sc1.2, ← sc_mul1], tow_eq t⟩
  · rw [sc1.2]
    constructor
    · intro h; rw [h, Int.zero_mul]
    · intro h
      rcases Int.mul_eq_zero.1 h with h | h
      · exact h
      · omega
  · rintro rfl
    rw [Int.zero_mul] at bd ⊢
    omega
theorem sign_bits {x : Int} (hx : 0 ≤ x ∧ x ≤ 18446744073709551615) : bits .and .u64 x 9223372036854775808 = rx (F.sgn x) 0 := by
  rw [u64_and _ _ hx.1 (by omega) (by decide) (by decide), show (9223372036854775808 : Int).toNat = 9223372036854775808 from rfl, and_top, top_bit hx.1 hx.2]
  cases F.sgn x <;> rfl
set_option maxRecDepth 100000 in
set_option maxHeartbeats 8000000 in
theorem Rem_c (x y : Int) (w : World) (hx : 0 ≤ x ∧ x ≤ 18446744073709551615) (hy : 0 ≤ y ∧ y ≤ 18446744073709551615) (hT : TabD w) :
    Calls Tryd.prog 9 #[.int .u64 x, .int .u64 y] w (DC.RetB w (.int .u64 (RM x y))) := by
  have CX : Hid (∀ W : World, Calls Tryd.prog 13 #[.int .u64 x] W fun e w' => e = .returned (.int .i64 (F.cls x)) ∧ W = w') := fun W => FloatC.Class_c x hx.1 hx.2 W
  have CY : Hid (∀ W : World, Calls Tryd.prog 13 #[.int .u64 y] W fun e w' => e = .returned (.int .i64 (F.cls y)) ∧ W = w') := fun W => FloatC.Class_c y hy.1 hy.2 W
  unfold RM
  by_cases h1 : F.cls x = 5 ∨ F.cls y = 5 ∨ F.cls x = 4 ∨ F.cls y = 1
  · rw [if_pos h1]
    have k : (F.cls x == 5) = true ∨ ((F.cls x == 5) = false ∧ (F.cls y == 5) = true) ∨ ((F.cls x == 5) = false ∧ (F.cls y == 5) = false ∧ (F.cls x == 4) = true) ∨ ((F.cls x == 5) = false ∧ (F.cls y == 5) = false ∧ (F.cls x == 4) = false ∧ (F.cls y == 1) = true) := by
      simp only [beq_iff_eq, beq_eq_false_iff_ne]; omega
    clear h1 hx hy hT
    generalize F.cls x = cx at *
    generalize F.cls y = cy at *
    rcases k with k1 | ⟨k1, k2⟩ | ⟨k1, k2, k3⟩ | ⟨k1, k2, k3, k4⟩
    all_goals (
      go_enter Tryd.func9, Tryd.ntmps9
      go_wp2_with (first
        | (go_at_call 13; (with_reducible refine (CX.out _).mono ?_); rintro e w1 ⟨rfl, rfl⟩)
        | (go_at_call 13; (with_reducible refine (CY.out _).mono ?_); rintro e w2 ⟨rfl, rfl⟩))
      go_ret
      exact ⟨rfl, Below.refl _ _⟩)
  · rw [if_neg h1]
    have k1 : (F.cls x == 5) = false := by simp only [beq_eq_false_iff_ne]; omega
    have k2 : (F.cls y == 5) = false := by simp only [beq_eq_false_iff_ne]; omega
    have k3 : (F.cls x == 4) = false := by simp only [beq_eq_false_iff_ne]; omega
    have k4 : (F.cls y == 1) = false := by simp only [beq_eq_false_iff_ne]; omega
    by_cases h2 : F.cls y = 4
    · rw [if_pos h2]
      have k5 : (F.cls y == 4) = true := by simp [h2]
      clear h1 hx hy hT h2
      generalize F.cls x = cx at *
      generalize F.cls y = cy at *
      go_enter Tryd.func9, Tryd.ntmps9
      go_wp2_with (first
        | (go_at_call 13; (with_reducible refine (CX.out _).mono ?_); rintro e w1 ⟨rfl, rfl⟩)
        | (go_at_call 13; (with_reducible refine (CY.out _).mono ?_); rintro e w2 ⟨rfl, rfl⟩))
      go_ret
      exact ⟨rfl, Below.refl _ _⟩
    · rw [if_neg h2]
      have k5 : (F.cls y == 4) = false := by simp [h2]
      have cbx := F.cls_bd x
      have cby := F.cls_bd y
      have fx := (fi_cls hx).2 (by omega)
      have fy := (fi_cls hy).2 (by omega)
      have vy : val y ≠ 0 := fun h => by have := (val0 fy).1 h; omega
      obtain ⟨o1, X1, o2, X2, un, ρ, i, j, e1, e2, a1, a2, b1, b2, a3, a4, b3, b4, hu, hi, hj, i1, j1, hb, eov, ez, rs0, rs1, oz, r0, r1, eU, eS, et⟩ := rem_parts fx fy vy
      obtain ⟨B, hB⟩ : ∃ B : Nat, B = 2400 := ⟨_, rfl⟩
      obtain ⟨B4, hB4⟩ : ∃ B : Nat, B = 400 := ⟨_, rfl⟩
      rw [et]
      have O1 : Hid (∀ W, Below w.heap.size w W → Calls Tryd.prog 28 #[.int .u64 x] W (RetD W ⟨0, 0, sgm (F.sgn x) o1, X1⟩)) := fun W hW => by rw [← e1]; exact Of_d x hx.1 hx.2 W (hT.below hW)
      have O2 : Hid (∀ W, Below w.heap.size w W → Calls Tryd.prog 28 #[.int .u64 y] W (RetD W ⟨0, 0, sgm (F.sgn y) o2, X2⟩)) := fun W hW => by rw [← e2]; exact Of_d y hy.1 hy.2 W (hT.below hW)
      have g1 : Hid (∀ (W : World) (b : Bool) (A : Option Addr) (n c : Nat) (x' : Int), GV W b A n c x' ⟨0, sgm (F.sgn x) o1, X1⟩ → X1 = x' ∧ PV W (.slice A n c) 0 o1 ∧ Hid (0 < o1 → F.sgn x = b)) := fun W b A n c x' g => gv_of0 g a1
      have g2 : Hid (∀ (W : World) (b : Bool) (A : Option Addr) (n c : Nat) (x' : Int), GV W b A n c x' ⟨0, sgm (F.sgn y) o2, X2⟩ → F.sgn y = b ∧ X2 = x' ∧ PV W (.slice A n c) 0 o2) := fun W b A n c x' g => gv_of g b1
      have I1 : Hid (∀ (W : World) (b : Bool) (A : Option Addr) (n c : Nat), PV W (.slice A n c) 0 o1 → Calls Tryd.prog 30 #[.agg #[.bool b, .slice A n c, .int .i64 X1], .int .i64 un] W (RetV W (o1 * 2 ^ i))) := fun W b A n c h => inUnits_c b A n c X1 un o1 i W h (by omega) (by omega) hi
      have I2 : Hid (∀ (W : World) (b : Bool) (A : Option Addr) (n c : Nat), PV W (.slice A n c) 0 o2 → Calls Tryd.prog 30 #[.agg #[.bool b, .slice A n c, .int .i64 X2], .int .i64 un] W (RetV W (o2 * 2 ^ j))) := fun W b A n c h => inUnits_c b A n c X2 un o2 j W h (by omega) (by omega) hj
      have p1 := pow_2200 hB a1 a2 i1
      have p2 := pow_2200 hB (show 0 ≤ o2 by omega) b2 j1
      have NE : Hid (∀ (W : World) (A1 A2 : Option Addr) (n1 c1 n2 c2 : Nat), NV W (.slice A1 n1 c1) (o1 * 2 ^ i) → NV W (.slice A2 n2 c2) (o2 * 2 ^ j) → Calls Tryd.prog 29 #[.slice A1 n1 c1, .slice A2 n2 c2] W fun e w' => ∃ A n c, e = .returned (.tuple #[.slice A n c, .bool (ov (ab x) (ab y))]) ∧ NV w' (.slice A n c) (rs (o1 * 2 ^ i) (o2 * 2 ^ j)) ∧ Below W.heap.size W w') := fun W A1 A2 n1 c1 n2 c2 h h' => by
        have := nearest_c A1 A2 n1 c1 n2 c2 _ _ W (pvB hB h p1.1 p1.2) (pvB hB h' p2.1 p2.2) hb
        rwa [eov] at this
      obtain ⟨rr, hrr⟩ : ∃ rr, rs (o1 * 2 ^ i) (o2 * 2 ^ j) = rr := ⟨_, rfl⟩
      rw [hrr] at NE ez rs0 rs1 oz eS
      have rB : rr < 2 ^ B4 := Int.lt_trans rs1 (two_lt' (a := 53) (by omega))
      have ZR : Hid (∀ (W : World) (A : Option Addr) (n c : Nat), NV W (.slice A n c) rr → (n = 0 ↔ rr = 0)) := fun W A n c h => pv_zero (pv0 hB4 h rs0 rB)
      have MK : Hid (∀ (W : World) (b : Bool) (A : Option Addr) (n c : Nat), NV W (.slice A n c) rr → Below w.heap.size w W → Calls Tryd.prog 31 #[.bool b, .slice A n c, .int .i64 un] W (RetD W (fin (sgm b rr) un))) := fun W b A n c h hW => by
        have := Make_d b A n c 0 rr un W (pv0 hB4 h rs0 rB) (hT.below hW)
        unfold Mk at this
        rwa [if_neg (by decide), if_neg (by omega)] at this
      have TO : Hid (∀ (W : World) (v : Value) (b : Bool), 0 < rr → DV W v (fin (sgm b rr) un).d → Below w.heap.size w W → Calls Tryd.prog 32 #[v, .int .i64 0] W (DC.RetB W (.tuple #[.int .u64 (rx b ρ), .bool false, .int .i64 0]))) := fun W v b h0 hv hW => by
        have := To_d v _ 0 W hv (hT.below hW)
        obtain ⟨o, X, e, q1, q2, q3, q4, q5, hok⟩ := fin_pos (b := b) hB4 h0 rB (show -9000 ≤ un ∧ un ≤ 9000 by omega)
        rw [e] at this
        have hn : ((sgm b o).natAbs : Int) = o := by unfold sgm; split <;> omega
        have hg : ng ⟨0, sgm b o, X⟩ = b := by
          unfold ng sgm
          cases b
          · simp; omega
          · simp; omega
        have tw := tow_exact r0 r1
        rw [eS, ← q3] at tw
        have hA : RC.A ⟨0, sgm b o, X⟩ = sc o X := by show sc ((sgm b o).natAbs : Int) X = _; rw [hn]
        rw [← hA] at tw
        obtain ⟨t1, t2, t3⟩ := TX_of hok (mode := 0) (by omega) tw
        rw [t1, t2, t3, hg, ry_none] at this
        exact this
      have SB := Lib.hid (sign_bits hx)
      have eif : (if rs (ab x) (ab y) = 0 then rx (F.sgn x) 0 else rx (F.sgn x != ov (ab x) (ab y)) ρ) = if rr = 0 then rx (F.sgn x) 0 else rx (F.sgn x != ov (ab x) (ab y)) ρ := by
        by_cases h : rr = 0
        · rw [if_pos h, if_pos (ez.1 h)]
        · rw [if_neg h, if_neg (fun k => h (ez.2 k))]
      dsimp only
      rw [eif]
      clear eif
      generalize rx (F.sgn x) 0 = z0 at *
      have oz' : rr ≠ 0 → 0 < o1 := fun h => by
        rcases Int.lt_or_eq_of_le a1 with k | k
        · exact k
        · exact absurd (oz k.symm) h
      have OZ := Lib.hid oz'
      have HU := Lib.hid hu.symm
      generalize ov (ab x) (ab y) = o at *
      generalize F.cls x = cx at *
      generalize F.cls y = cy at *
      generalize F.sgn x = s1 at *
      generalize F.sgn y = s2 at *
      clear hx hy hT h1 h2 cbx cby fx fy vy e1 e2 a1 a2 b1 b2 hi hj i1 j1 hb eov ez rs1 oz r0 r1 eU eS et p1 p2 hrr rB oz'
      have hmin := HU.out
      clear hu
      obtain ⟨rz, hrz⟩ : ∃ rz, (if rr = 0 then z0 else rx (s1 != o) ρ) = rz := ⟨_, rfl⟩
      rw [hrz]
      have HZ := Lib.hid hrz
      clear hrz
      go_enter Tryd.func9, Tryd.ntmps9
      go_upto_region 9 with (first
        | (go_at_call 13; (with_reducible refine (CX.out _).mono ?_); rintro e w1 ⟨rfl, rfl⟩)
        | (go_at_call 13; (with_reducible refine (CY.out _).mono ?_); rintro e w2 ⟨rfl, rfl⟩)
        | (go_at_call 28; (with_reducible refine (O1.out _ (Below.refl _ _)).mono ?_); rintro e w3 ⟨b3, A3, n3, c3, x3, rfl, hv, hb⟩; obtain ⟨rfl, p1, hs1⟩ := g1.out _ _ _ _ _ _ hv; have s := hb.alloc hb.size (.cells #[.bool b3, .slice A3 n3 c3, .int .i64 X1] 35); have N1 := Blk.new w3 35 #[.bool b3, .slice A3 n3 c3, .int .i64 X1]; have p1 := p1.below (al1 w3 (.cells #[.bool b3, .slice A3 n3 c3, .int .i64 X1] 35)); have D := Lib.hid s; clear hv hb s)
        | (go_at_call 28; (with_reducible refine (O2.out _ D.out).mono ?_); rintro e w4 ⟨b4, A4, n4, c4, x4, rfl, hv, hb⟩; obtain ⟨rfl, rfl, p2⟩ := g2.out _ _ _ _ _ _ hv; have s := hb.alloc hb.size (.cells #[.bool s2, .slice A4 n4 c4, .int .i64 X2] 35); have N1 := N1.below s N1.lt; have p1 := p1.below s; have N2 := Blk.new w4 35 #[.bool s2, .slice A4 n4 c4, .int .i64 X2]; have p2 := p2.below (al1 w4 (.cells #[.bool s2, .slice A4 n4 c4, .int .i64 X2] 35)); have D := Lib.hid (D.out.trans (s.mono D.out.size)); clear hv hb s; have a0 := N1.at_ 0 rfl; have a1 := N1.at_ 1 rfl; have a2 := N1.at_ 2 rfl; have b0 := N2.at_ 0 rfl; have b1 := N2.at_ 1 rfl; have b2 := N2.at_ 2 rfl))
      have KC : Hid (∀ w', Below (w4.alloc (.cells #[.bool s2, .slice A4 n4 c4, .int .i64 X2] 35)).heap.size (w4.alloc (.cells #[.bool s2, .slice A4 n4 c4, .int .i64 X2] 35)) w' → w'.cell? ⟨w3.heap.size, 0, none⟩ = some (.bool b3) ∧ w'.cell? ⟨w3.heap.size, 1, none⟩ = some (.slice A3 n3 c3) ∧ w'.cell? ⟨w3.heap.size, 2, none⟩ = some (.int .i64 X1) ∧ w'.cell? ⟨w4.heap.size, 0, none⟩ = some (.bool s2) ∧ w'.cell? ⟨w4.heap.size, 1, none⟩ = some (.slice A4 n4 c4) ∧ w'.cell? ⟨w4.heap.size, 2, none⟩ = some (.int .i64 X2)) := fun W hW => ⟨(N1.below hW N1.lt).at_ 0 rfl, (N1.below hW N1.lt).at_ 1 rfl, (N1.below hW N1.lt).at_ 2 rfl, (N2.below hW N2.lt).at_ 0 rfl, (N2.below hW N2.lt).at_ 1 rfl, (N2.below hW N2.lt).at_ 2 rfl⟩
      have P1 : Hid (∀ w', Below (w4.alloc (.cells #[.bool s2, .slice A4 n4 c4, .int .i64 X2] 35)).heap.size (w4.alloc (.cells #[.bool s2, .slice A4 n4 c4, .int .i64 X2] 35)) w' → PV w' (.slice A3 n3 c3) 0 o1) := fun W hW => p1.below hW
      have P2 : Hid (∀ w', Below (w4.alloc (.cells #[.bool s2, .slice A4 n4 c4, .int .i64 X2] 35)).heap.size (w4.alloc (.cells #[.bool s2, .slice A4 n4 c4, .int .i64 X2] 35)) w' → PV w' (.slice A4 n4 c4) 0 o2) := fun W hW => p2.below hW
      have DA := D
      have D : Below (w4.alloc (.cells #[.bool s2, .slice A4 n4 c4, .int .i64 X2] 35)).heap.size (w4.alloc (.cells #[.bool s2, .slice A4 n4 c4, .int .i64 X2] 35)) (w4.alloc (.cells #[.bool s2, .slice A4 n4 c4, .int .i64 X2] 35)).drew := (Below.refl _ _).drew
      clear a0 a1 a2 b0 b1 b2 p1 p2 N1 N2
      (refine wp_region_L (S := fun w' => w'.cell? ⟨w3.heap.size, 0, none⟩ = some (.bool b3) ∧ w'.cell? ⟨w3.heap.size, 1, none⟩ = some (.slice A3 n3 c3) ∧ w'.cell? ⟨w3.heap.size, 2, none⟩ = some (.int .i64 X1) ∧ w'.cell? ⟨w4.heap.size, 0, none⟩ = some (.bool s2) ∧ w'.cell? ⟨w4.heap.size, 1, none⟩ = some (.slice A4 n4 c4) ∧ w'.cell? ⟨w4.heap.size, 2, none⟩ = some (.int .i64 X2)) (nl := 1000000) (by kernel_rfl) ?_ (fun hHeld => ?_); focus (exact KC.out _ D))
      (refine wpAnyL_take (i := 0) (oi := _) (v := ?_) rfl (by kernel_rfl) (by kernel_rfl) (by kernel_rfl) (fun _ _ _ h => h) (Or.inl ⟨by first | rfl | kernel_rfl, ?hy1⟩) (by assumption) ?rs1; (case hy1 => (intro w hSw; (try dsimp only at hSw); go_simp; first | done | with_reducible rfl)); case' rs1 => (simp only [List.getElem_toArray, List.getElem_cons_zero, List.getElem_cons_succ, Act.put, List.setIfInBounds_toArray, List.set_cons_zero, List.set_cons_succ])); (refine wpAnyL_take (i := 1) (oi := _) (v := ?_) rfl (by kernel_rfl) (by kernel_rfl) (by kernel_rfl) (fun _ _ _ h => h) (Or.inl ⟨by first | rfl | kernel_rfl, ?hy2⟩) (by assumption) ?rs2; (case hy2 => (intro w hSw; (try dsimp only at hSw); go_simp; first | done | with_reducible rfl)); case' rs2 => (simp only [List.getElem_toArray, List.getElem_cons_zero, List.getElem_cons_succ, Act.put, List.setIfInBounds_toArray, List.set_cons_zero, List.set_cons_succ])); (refine wpAnyL_take (i := 3) (oi := _) (v := ?_) rfl (by kernel_rfl) (by kernel_rfl) (by kernel_rfl) (fun _ _ _ h => h) (Or.inl ⟨by first | rfl | kernel_rfl, ?hy3⟩) (by assumption) ?rs3; (case hy3 => (intro w hSw; (try dsimp only at hSw); go_simp; first | done | with_reducible rfl)); case' rs3 => (simp only [List.getElem_toArray, List.getElem_cons_zero, List.getElem_cons_succ, Act.put, List.setIfInBounds_toArray, List.set_cons_zero, List.set_cons_succ])); (refine wpAnyL_take (i := 4) (oi := _) (v := ?_) rfl (by kernel_rfl) (by kernel_rfl) (by kernel_rfl) (fun _ _ _ h => h) (Or.inl ⟨by first | rfl | kernel_rfl, ?hy4⟩) (by assumption) ?rs4; (case hy4 => (intro w hSw; (try dsimp only at hSw); go_simp; first | done | with_reducible rfl)); case' rs4 => (simp only [List.getElem_toArray, List.getElem_cons_zero, List.getElem_cons_succ, Act.put, List.setIfInBounds_toArray, List.set_cons_zero, List.set_cons_succ])); skip
      (refine wpAnyL_one (i := 2) (o := _) (by kernel_rfl) rfl (fun K hK => ?_); clear hHeld; simp only [List.getElem_toArray, List.getElem_cons_zero, List.getElem_cons_succ]; go_simp; (go_at_call 30; (with_reducible refine (I1.out _ _ _ _ _ (P1.out _ D)).mono ?_); rintro e w5 ⟨A5, n5, c5, rfl, hv5, hb5⟩; have D := D.trans (hb5.mono D.size)); refine hK.out _ _ ?_ (fun hHeld => ?_); focus (intro _; exact KC.out _ D)); have hHeld := hHeld (by decide); clear hK K; (try simp only [Act.put, List.setIfInBounds_toArray, List.set_cons_zero, List.set_cons_succ])
      (refine wpAnyL_one (i := 5) (o := _) (by kernel_rfl) rfl (fun K hK => ?_); clear hHeld; simp only [List.getElem_toArray, List.getElem_cons_zero, List.getElem_cons_succ]; go_simp; (go_at_call 30; (with_reducible refine (I2.out _ _ _ _ _ (P2.out _ D)).mono ?_); rintro e w6 ⟨A6, n6, c6, rfl, hv6, hb6⟩; have hv5 := hv5.below hb6; have D := D.trans (hb6.mono D.size)); refine hK.out _ _ ?_ (fun hHeld => ?_); focus (intro _; exact KC.out _ D)); have hHeld := hHeld (by decide); clear hK K; (try simp only [Act.put, List.setIfInBounds_toArray, List.set_cons_zero, List.set_cons_succ])
      (refine wpAnyL_one (i := 6) (o := _) (by kernel_rfl) rfl (fun K hK => ?_); clear hHeld; simp only [List.getElem_toArray, List.getElem_cons_zero, List.getElem_cons_succ]; go_simp; (go_at_call 29; (with_reducible refine (NE.out _ _ _ _ _ _ _ hv5 hv6).mono ?_); rintro e w7 ⟨A7, n7, c7, rfl, hv7, hb7⟩; have D := D.trans (hb7.mono D.size)); refine hK.out _ _ ?_ (fun hHeld => ?_); focus (intro _; exact KC.out _ D)); have hHeld := hHeld (by decide); clear hK K; (try simp only [Act.put, List.setIfInBounds_toArray, List.set_cons_zero, List.set_cons_succ])
      (refine wpAnyL_take (i := 7) (oi := _) (v := ?_) rfl (by kernel_rfl) (by kernel_rfl) (by kernel_rfl) (fun _ _ _ h => h) (Or.inl ⟨by first | rfl | kernel_rfl, ?hy5⟩) (by assumption) ?rs5; (case hy5 => (intro w hSw; (try dsimp only at hSw); go_simp; first | done | with_reducible rfl)); case' rs5 => (simp only [List.getElem_toArray, List.getElem_cons_zero, List.getElem_cons_succ, Act.put, List.setIfInBounds_toArray, List.set_cons_zero, List.set_cons_succ])); (refine wpAnyL_take (i := 8) (oi := _) (v := ?_) rfl (by kernel_rfl) (by kernel_rfl) (by kernel_rfl) (fun _ _ _ h => h) (Or.inl ⟨by first | rfl | kernel_rfl, ?hy6⟩) (by assumption) ?rs6; (case hy6 => (intro w hSw; (try dsimp only at hSw); go_simp; first | done | with_reducible rfl)); case' rs6 => (simp only [List.getElem_toArray, List.getElem_cons_zero, List.getElem_cons_succ, Act.put, List.setIfInBounds_toArray, List.set_cons_zero, List.set_cons_succ])); (refine wpAnyL_take (i := 9) (oi := _) (v := ?_) rfl (by kernel_rfl) (by kernel_rfl) (by kernel_rfl) (fun _ _ _ h => h) (Or.inl ⟨by first | rfl | kernel_rfl, ?hy7⟩) (by assumption) ?rs7; (case hy7 => (intro w hSw; (try dsimp only at hSw); go_simp; first | done | with_reducible rfl)); case' rs7 => (simp only [List.getElem_toArray, List.getElem_cons_zero, List.getElem_cons_succ, Act.put, List.setIfInBounds_toArray, List.set_cons_zero, List.set_cons_succ])); (refine wpAnyL_take (i := 10) (oi := _) (v := ?_) rfl (by kernel_rfl) (by kernel_rfl) (by kernel_rfl) (fun _ _ _ h => h) (Or.inl ⟨by first | rfl | kernel_rfl, ?hy8⟩) (by assumption) ?rs8; (case hy8 => (intro w hSw; (try dsimp only at hSw); go_simp; first | done | with_reducible rfl)); case' rs8 => (simp only [List.getElem_toArray, List.getElem_cons_zero, List.getElem_cons_succ, Act.put, List.setIfInBounds_toArray, List.set_cons_zero, List.set_cons_succ])); (refine wpAnyL_take (i := 11) (oi := _) (v := ?_) rfl (by kernel_rfl) (by kernel_rfl) (by kernel_rfl) (fun _ _ _ h => h) (Or.inl ⟨by first | rfl | kernel_rfl, ?hy9⟩) (by assumption) ?rs9; (case hy9 => (intro w hSw; (try dsimp only at hSw); go_simp; first | done | with_reducible rfl)); case' rs9 => (simp only [List.getElem_toArray, List.getElem_cons_zero, List.getElem_cons_succ, Act.put, List.setIfInBounds_toArray, List.set_cons_zero, List.set_cons_succ])); skip
      refine wpAnyL_done (by kernel_rfl) ?_ _
      have KD := KC.out _ D
      have DF := Lib.hid (DA.out.trans (D.mono DA.out.size))
      have zr := ZR.out _ _ _ _ hv7
      obtain ⟨a0, a1, a2, b0, b1, b2⟩ := KD
      by_cases h0 : rr = 0
      · obtain rfl : n7 = 0 := zr.2 h0
        obtain rfl : z0 = rz := by have := HZ.out; rwa [if_pos h0] at this
        have SB := SB.out
        have D := DF
        clear zr h0 hHeld
        go_wp2
        go_ret
        exact ⟨rfl, D.out⟩
      · have hn : ((n7 : Int) == 0) = false := by simp; exact fun h => h0 (zr.1 h)
        have hn2 : ¬ n7 = 0 := fun h => h0 (zr.1 h)
        have hz := HZ.out
        rw [if_neg h0] at hz
        obtain rfl := hs1.out (OZ.out h0)
        have D := DF
        have h0' : 0 < rr := by omega
        have TO : Hid (∀ (W : World) (v : Value), DV W v (fin (sgm (!(s1 == o)) rr) un).d → Below w.heap.size w W → Calls Tryd.prog 32 #[v, .int .i64 0] W (DC.RetB W (.tuple #[.int .u64 rz, .bool false, .int .i64 0]))) := fun W v hv hW => by rw [← hz]; exact TO.out W v _ h0' hv hW
        have H7 := Lib.hid hv7
        clear zr h0 hHeld h0' hv5 hv6 hv7 hmin rs0 hz HZ
        go_wp2_with (first
          | (go_at_call 31; (with_reducible refine (MK.out _ _ _ _ _ H7.out D.out).mono ?_); rintro e w8 ⟨b8, A8, n8, c8, x8, rfl, hv, hb⟩; have s := hb.alloc hb.size (.cells #[.bool b8, .slice A8 n8 c8, .int .i64 x8] 35); have Xb := BD.new hv.dv; have D := Lib.hid (D.out.trans (s.mono D.out.size)); clear hv hb s; obtain ⟨c_0, c_1, c_2⟩ := Xb.bx)
          | (go_at_call 32; (with_reducible refine (TO.out _ _ Xb.dv D.out).mono ?_); rintro e w9 ⟨rfl, hb⟩; have D := Lib.hid (D.out.trans (hb.mono D.out.size)); clear hb))
        go_ret
        exact ⟨rfl, D.out⟩
end JC
end Go.Proofs.YtpmjeipdldnnbaaDoor
