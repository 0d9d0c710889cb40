/-
  Texts glued together for a claim: J7 J8 J5 P6 P7 J9 J10 J11 J12 U8 U9.
-/
import Derived.Test.YtpmjeipdldnnbaaDoorH6
/-
  Package quot: Rem.
-/
namespace Go.Proofs.YtpmjeipdldnnbaaDoor
set_option linter.unusedVariables false
set_option linter.unusedSimpArgs false
open Go.RowKit
set_option linter.unusedVariables false
set_option linter.unusedSimpArgs false
namespace JC
open L NC NK DC RC SC PC
theorem lt_2400 {z : Int} {B : Nat} (hB : B = 2400) (h : z < 2 ^ B) : z < 4294967296 ^ 400 := by
  have e : (4294967296 : Int) = 2 ^ 32 := by decide
  rw [e, ← Int.pow_mul]
  exact Int.lt_trans h (two_lt' (by omega))
theorem pvB {w : World} {v : Value} {z : Int} {B : Nat} (hB : B = 2400) (h : NV w v z) (h0 : 0 ≤ z) (hz : z < 2 ^ B) : PV w v 0 z := by
  have l1 := lt_2400 hB hz
  have hp := h.pv (big3_bds l1 l1 h0 h0).2.2.1
  have e1 : erz z = 0 := by unfold erz; rw [if_pos l1]
  rwa [e1] at hp
theorem of_parts0 {x : Int} (h : fi x) : ∃ o X : Int, OfD x = ⟨0, 0, sgm (F.sgn x) o, X⟩ ∧ 0 ≤ o ∧ o < 9007199254740992 ∧ -1074 ≤ X ∧ X ≤ 1024 ∧ ab x = sc o X := by
  by_cases h0 : val x = 0
  · refine ⟨0, 0, ?_, by omega, by omega, by omega, by omega, ?_⟩
    · obtain ⟨e0, hf⟩ := of_fit h
      have hm : (OfD x).d.m = 0 := sc_zero.1 h0
      have hc := hf.ok.2.1
      unfold can at hc
      have hX : (OfD x).d.x = 0 := by omega
      have he := hf.ok.1
      generalize OfD x = r at *
      obtain ⟨e, er, m, x'⟩ := r
      simp only at e0 hm hX he
      subst e0
      subst hm
      subst hX
      subst he
      unfold sgm
      split <;> rfl
    · rw [sc_zero.2 rfl]
      have := val_ab h
      rw [h0] at this
      unfold sgm at this
      split at this <;> omega
  · obtain ⟨o, X, e1, a1, a2, -, a3, a4, a5⟩ := of_parts h h0
    exact ⟨o, X, e1, by omega, a2, a3, a4, a5⟩
theorem gv_of0 {w : World} {b s : Bool} {A : Option Addr} {n c : Nat} {x o X : Int} (h : GV w b A n c x ⟨0, sgm s o, X⟩) (h0 : 0 ≤ o) : X = x ∧ PV w (.slice A n c) 0 o ∧ (0 < o → s = b) := by
  have p := h.pv
  have hn : (((Dy.mk 0 (sgm s o) X).m).natAbs : Int) = o := by show ((sgm s o).natAbs : Int) = o; unfold sgm; split <;> omega
  rw [hn] at p
  exact ⟨h.2.2.1.symm, p, fun k => (gv_of h k).1⟩
noncomputable def RM (x y : Int) : Int :=
  if F.cls x = 5 ∨ F.cls y = 5 ∨ F.cls x = 4 ∨ F.cls y = 1 then 9221120237041090560
  else if F.cls y = 4 then x
  else if rs (ab x) (ab y) = 0 then rx (F.sgn x) 0
  else rx (F.sgn x != ov (ab x) (ab y)) (tow (rs (ab x) (ab y))).1
theorem pow_2200 {a : Int} {i B : Nat} (hB : B = 2400) (h0 : 0 ≤ a) (h : a < 9007199254740992) (hi : i ≤ 2200) : 0 ≤ a * 2 ^ i ∧ a * 2 ^ i < 2 ^ B := by
  have hp := two_pos' i
  refine ⟨Int.mul_nonneg h0 (Int.le_of_lt hp), ?_⟩
  have h1 := Int.mul_lt_mul_of_pos_right h hp
  have h2 : (9007199254740992 : Int) * 2 ^ i = 2 ^ (53 + i) := by rw [Int.pow_add]; rfl
  rw [h2] at h1
  exact Int.lt_trans h1 (two_lt' (by omega))
theorem rem_parts {x y : Int} (fx : fi x) (fy : fi y) (vy : val y ≠ 0) : ∃ (o1 X1 o2 X2 un ρ : Int) (i j : Nat), OfD x = ⟨0, 0, sgm (F.sgn x) o1, X1⟩ ∧ OfD y = ⟨0, 0, sgm (F.sgn y) o2, X2⟩ ∧ 0 ≤ o1 ∧ o1 < 9007199254740992 ∧ 0 < o2 ∧ o2 < 9007199254740992 ∧ -1074 ≤ X1 ∧ X1 ≤ 1024 ∧ -1074 ≤ X2 ∧ X2 ≤ 1024 ∧
    un = min X1 X2 ∧ X1 - un = i ∧ X2 - un = j ∧ i ≤ 2200 ∧ j ≤ 2200 ∧ 0 < o2 * 2 ^ j ∧ ov (o1 * 2 ^ i) (o2 * 2 ^ j) = ov (ab x) (ab y) ∧ (rs (o1 * 2 ^ i) (o2 * 2 ^ j) = 0 ↔ rs (ab x) (ab y) = 0) ∧ 0 ≤ rs (o1 * 2 ^ i) (o2 * 2 ^ j) ∧ rs (o1 * 2 ^ i) (o2 * 2 ^ j) < 9007199254740992 ∧ (o1 = 0 → rs (o1 * 2 ^ i) (o2 * 2 ^ j) = 0) ∧
    0 ≤ ρ ∧ ρ ≤ 9218868437227405311 ∧ U ρ = rs (ab x) (ab y) ∧ U ρ = sc (rs (o1 * 2 ^ i) (o2 * 2 ^ j)) un ∧ tow (rs (ab x) (ab y)) = (ρ, false, false) := by
  obtain ⟨o1, X1, e1, a1, a2, a3, a4, a5⟩ := of_parts0 fx
  obtain ⟨o2, X2, e2, b1, b2, -, b3, b4, b5⟩ := of_parts fy vy
  obtain ⟨un, hu⟩ : ∃ un, un = min X1 X2 := ⟨_, rfl⟩
  obtain ⟨i, hi⟩ : ∃ i : Nat, X1 - un = i := ⟨(X1 - un).toNat, by omega⟩
  obtain ⟨j, hj⟩ : ∃ j : Nat, X2 - un = j := ⟨(X2 - un).toNat, by omega⟩
  have hE := sc_one_pos un
  have eA : ab x = o1 * 2 ^ i * sc 1 un := by
    rw [← sc_mul1, sc_shift _ _ _ (by omega), a5]
    congr 1; omega
  have eB : ab y = o2 * 2 ^ j * sc 1 un := by
    rw [← sc_mul1, sc_shift _ _ _ (by omega), b5]
    congr 1; omega
  have hb : 0 < o2 * 2 ^ j := Int.mul_pos b1 (two_pos' j)
  have ha : 0 ≤ o1 * 2 ^ i := Int.mul_nonneg a1 (Int.le_of_lt (two_pos' i))
  have sc1 := ov_scale (a := o1 * 2 ^ i) (b := o2 * 2 ^ j) hE
  rw [← eA, ← eB] at sc1
  have bd := rs_bd ha hb
  have lt : rs (o1 * 2 ^ i) (o2 * 2 ^ j) < 9007199254740992 := by
    rcases Int.lt_or_le X1 X2 with h | h
    · have : i = 0 := by omega
      subst this
      simp only [Int.pow_zero, Int.mul_one] at bd ⊢
      omega
    · have : j = 0 := by omega
      subst this
      simp only [Int.pow_zero, Int.mul_one] at bd ⊢
      omega
  have bdU := rs_bd (a := ab x) (b := ab y) (by rw [eA]; exact Int.mul_nonneg ha (Int.le_of_lt hE)) (by rw [eB]; exact Int.mul_pos hb hE)
  obtain ⟨M, hM⟩ : ∃ M : Int, M = 9218868437227405311 := ⟨_, rfl⟩
  have hxU : ab x ≤ U M := U_le (by omega) (by rw [hM]; exact fi_mod fx)
  obtain ⟨k, hk⟩ : ∃ k : Nat, un = (k : Int) - 1074 := ⟨(un + 1074).toNat, by omega⟩
  obtain ⟨ρ, r0, r1, r2⟩ := rank_of (N := rs (o1 * 2 ^ i) (o2 * 2 ^ j)) (a := rs (ab x) (ab y)) (q := rs (o1 * 2 ^ i) (o2 * 2 ^ j)) (M := M) (E := sc 1 un) (k := k) hM (by rw [hk]) sc1.2 bd.1 (Int.le_refl _) lt (Int.le_trans bdU.2.2.1 hxU)
  have t := tow_exact r0 (by omega)
  rw [← r2] at t
  refine ⟨o1, X1, o2, X2, un, ρ, i, j, e1, e2, a1, a2, b1, b2, a3, a4, b3, b4, hu, hi, hj, by omega, by omega, hb, sc1.1.symm, ?_, bd.1, lt, ?_, r0, by omega, r2.symm, by rw [← r2, sc1.2, ← sc_mul1], tow_eq t⟩
  · rw [sc1.2]
    constructor
    · intro h; rw [h, Int.zero_mul]
    · intro h
      rcases Int.mul_eq_zero.1 h with h | h
      · exact h
      · omega
  · rintro rfl
    rw [Int.zero_mul] at bd ⊢
    omega
theorem sign_bits {x : Int} (hx : 0 ≤ x ∧ x ≤ 18446744073709551615) : bits .and .u64 x 9223372036854775808 = rx (F.sgn x) 0 := by
  rw [u64_and _ _ hx.1 (by omega) (by decide) (by decide), show (9223372036854775808 : Int).toNat = 9223372036854775808 from rfl, and_top, top_bit hx.1 hx.2]
  cases F.sgn x <;> rfl
set_option maxRecDepth 100000 in
set_option maxHeartbeats 8000000 in
theorem Rem_c (x y : Int) (w : World) (hx : 0 ≤ x ∧ x ≤ 18446744073709551615) (hy : 0 ≤ y ∧ y ≤ 18446744073709551615) (hT : TabD w) :
    Calls Tryd.prog 9 #[.int .u64 x, .int .u64 y] w (DC.RetB w (.int .u64 (RM x y))) := by
  have CX : Hid (∀ W : World, Calls Tryd.prog 13 #[.int .u64 x] W fun e w' => e = .returned (.int .i64 (F.cls x)) ∧ W = w') := fun W => FloatC.Class_c x hx.1 hx.2 W
  have CY : Hid (∀ W : World, Calls Tryd.prog 13 #[.int .u64 y] W fun e w' => e = .returned (.int .i64 (F.cls y)) ∧ W = w') := fun W => FloatC.Class_c y hy.1 hy.2 W
  unfold RM
  by_cases h1 : F.cls x = 5 ∨ F.cls y = 5 ∨ F.cls x = 4 ∨ F.cls y = 1
  · rw [if_pos h1]
    have k : (F.cls x == 5) = true ∨ ((F.cls x == 5) = false ∧ (F.cls y == 5) = true) ∨ ((F.cls x == 5) = false ∧ (F.cls y == 5) = false ∧ (F.cls x == 4) = true) ∨ ((F.cls x == 5) = false ∧ (F.cls y == 5) = false ∧ (F.cls x == 4) = false ∧ (F.cls y == 1) = true) := by
      simp only [beq_iff_eq, beq_eq_false_iff_ne]; omega
    clear h1 hx hy hT
    generalize F.cls x = cx at *
    generalize F.cls y = cy at *
    rcases k with k1 | ⟨k1, k2⟩ | ⟨k1, k2, k3⟩ | ⟨k1, k2, k3, k4⟩
    all_goals (
      go_enter Tryd.func9, Tryd.ntmps9
      go_wp2_with (first
        | (go_at_call 13; (with_reducible refine (CX.out _).mono ?_); rintro e w1 ⟨rfl, rfl⟩)
        | (go_at_call 13; (with_reducible refine (CY.out _).mono ?_); rintro e w2 ⟨rfl, rfl⟩))
      go_ret
      exact ⟨rfl, Below.refl _ _⟩)
  · rw [if_neg h1]
    have k1 : (F.cls x == 5) = false := by simp only [beq_eq_false_iff_ne]; omega
    have k2 : (F.cls y == 5) = false := by simp only [beq_eq_false_iff_ne]; omega
    have k3 : (F.cls x == 4) = false := by simp only [beq_eq_false_iff_ne]; omega
    have k4 : (F.cls y == 1) = false := by simp only [beq_eq_false_iff_ne]; omega
    by_cases h2 : F.cls y = 4
    · rw [if_pos h2]
      have k5 : (F.cls y == 4) = true := by simp [h2]
      clear h1 hx hy hT h2
      generalize F.cls x = cx at *
      generalize F.cls y = cy at *
      go_enter Tryd.func9, Tryd.ntmps9
      go_wp2_with (first
        | (go_at_call 13; (with_reducible refine (CX.out _).mono ?_); rintro e w1 ⟨rfl, rfl⟩)
        | (go_at_call 13; (with_reducible refine (CY.out _).mono ?_); rintro e w2 ⟨rfl, rfl⟩))
      go_ret
      exact ⟨rfl, Below.refl _ _⟩
    · rw [if_neg h2]
      have k5 : (F.cls y == 4) = false := by simp [h2]
      have cbx := F.cls_bd x
      have cby := F.cls_bd y
      have fx := (fi_cls hx).2 (by omega)
      have fy := (fi_cls hy).2 (by omega)
      have vy : val y ≠ 0 := fun h => by have := (val0 fy).1 h; omega
      obtain ⟨o1, X1, o2, X2, un, ρ, i, j, e1, e2, a1, a2, b1, b2, a3, a4, b3, b4, hu, hi, hj, i1, j1, hb, eov, ez, rs0, rs1, oz, r0, r1, eU, eS, et⟩ := rem_parts fx fy vy
      obtain ⟨B, hB⟩ : ∃ B : Nat, B = 2400 := ⟨_, rfl⟩
      obtain ⟨B4, hB4⟩ : ∃ B : Nat, B = 400 := ⟨_, rfl⟩
      rw [et]
      have O1 : Hid (∀ W, Below w.heap.size w W → Calls Tryd.prog 28 #[.int .u64 x] W (RetD W ⟨0, 0, sgm (F.sgn x) o1, X1⟩)) := fun W hW => by rw [← e1]; exact Of_d x hx.1 hx.2 W (hT.below hW)
      have O2 : Hid (∀ W, Below w.heap.size w W → Calls Tryd.prog 28 #[.int .u64 y] W (RetD W ⟨0, 0, sgm (F.sgn y) o2, X2⟩)) := fun W hW => by rw [← e2]; exact Of_d y hy.1 hy.2 W (hT.below hW)
      have g1 : Hid (∀ (W : World) (b : Bool) (A : Option Addr) (n c : Nat) (x' : Int), GV W b A n c x' ⟨0, sgm (F.sgn x) o1, X1⟩ → X1 = x' ∧ PV W (.slice A n c) 0 o1 ∧ Hid (0 < o1 → F.sgn x = b)) := fun W b A n c x' g => gv_of0 g a1
      have g2 : Hid (∀ (W : World) (b : Bool) (A : Option Addr) (n c : Nat) (x' : Int), GV W b A n c x' ⟨0, sgm (F.sgn y) o2, X2⟩ → F.sgn y = b ∧ X2 = x' ∧ PV W (.slice A n c) 0 o2) := fun W b A n c x' g => gv_of g b1
      have I1 : Hid (∀ (W : World) (b : Bool) (A : Option Addr) (n c : Nat), PV W (.slice A n c) 0 o1 → Calls Tryd.prog 30 #[.agg #[.bool b, .slice A n c, .int .i64 X1], .int .i64 un] W (RetV W (o1 * 2 ^ i))) := fun W b A n c h => inUnits_c b A n c X1 un o1 i W h (by omega) (by omega) hi
      have I2 : Hid (∀ (W : World) (b : Bool) (A : Option Addr) (n c : Nat), PV W (.slice A n c) 0 o2 → Calls Tryd.prog 30 #[.agg #[.bool b, .slice A n c, .int .i64 X2], .int .i64 un] W (RetV W (o2 * 2 ^ j))) := fun W b A n c h => inUnits_c b A n c X2 un o2 j W h (by omega) (by omega) hj
      have p1 := pow_2200 hB a1 a2 i1
      have p2 := pow_2200 hB (show 0 ≤ o2 by omega) b2 j1
      have NE : Hid (∀ (W : World) (A1 A2 : Option Addr) (n1 c1 n2 c2 : Nat), NV W (.slice A1 n1 c1) (o1 * 2 ^ i) → NV W (.slice A2 n2 c2) (o2 * 2 ^ j) → Calls Tryd.prog 29 #[.slice A1 n1 c1, .slice A2 n2 c2] W fun e w' => ∃ A n c, e = .returned (.tuple #[.slice A n c, .bool (ov (ab x) (ab y))]) ∧ NV w' (.slice A n c) (rs (o1 * 2 ^ i) (o2 * 2 ^ j)) ∧ Below W.heap.size W w') := fun W A1 A2 n1 c1 n2 c2 h h' => by
        have := nearest_c A1 A2 n1 c1 n2 c2 _ _ W (pvB hB h p1.1 p1.2) (pvB hB h' p2.1 p2.2) hb
        rwa [eov] at this
      obtain ⟨rr, hrr⟩ : ∃ rr, rs (o1 * 2 ^ i) (o2 * 2 ^ j) = rr := ⟨_, rfl⟩
      rw [hrr] at NE ez rs0 rs1 oz eS
      have rB : rr < 2 ^ B4 := Int.lt_trans rs1 (two_lt' (a := 53) (by omega))
      have ZR : Hid (∀ (W : World) (A : Option Addr) (n c : Nat), NV W (.slice A n c) rr → (n = 0 ↔ rr = 0)) := fun W A n c h => pv_zero (pv0 hB4 h rs0 rB)
      have MK : Hid (∀ (W : World) (b : Bool) (A : Option Addr) (n c : Nat), NV W (.slice A n c) rr → Below w.heap.size w W → Calls Tryd.prog 31 #[.bool b, .slice A n c, .int .i64 un] W (RetD W (fin (sgm b rr) un))) := fun W b A n c h hW => by
        have := Make_d b A n c 0 rr un W (pv0 hB4 h rs0 rB) (hT.below hW)
        unfold Mk at this
        rwa [if_neg (by decide), if_neg (by omega)] at this
      have TO : Hid (∀ (W : World) (v : Value) (b : Bool), 0 < rr → DV W v (fin (sgm b rr) un).d → Below w.heap.size w W → Calls Tryd.prog 32 #[v, .int .i64 0] W (DC.RetB W (.tuple #[.int .u64 (rx b ρ), .bool false, .int .i64 0]))) := fun W v b h0 hv hW => by
        have := To_d v _ 0 W hv (hT.below hW)
        obtain ⟨o, X, e, q1, q2, q3, q4, q5, hok⟩ := fin_pos (b := b) hB4 h0 rB (show -9000 ≤ un ∧ un ≤ 9000 by omega)
        rw [e] at this
        have hn : ((sgm b o).natAbs : Int) = o := by unfold sgm; split <;> omega
        have hg : ng ⟨0, sgm b o, X⟩ = b := by
          unfold ng sgm
          cases b
          · simp; omega
          · simp; omega
        have tw := tow_exact r0 r1
        rw [eS, ← q3] at tw
        have hA : RC.A ⟨0, sgm b o, X⟩ = sc o X := by show sc ((sgm b o).natAbs : Int) X = _; rw [hn]
        rw [← hA] at tw
        obtain ⟨t1, t2, t3⟩ := TX_of hok (mode := 0) (by omega) tw
        rw [t1, t2, t3, hg, ry_none] at this
        exact this
      have SB := Lib.hid (sign_bits hx)
      have eif : (if rs (ab x) (ab y) = 0 then rx (F.sgn x) 0 else rx (F.sgn x != ov (ab x) (ab y)) ρ) = if rr = 0 then rx (F.sgn x) 0 else rx (F.sgn x != ov (ab x) (ab y)) ρ := by
        by_cases h : rr = 0
        · rw [if_pos h, if_pos (ez.1 h)]
        · rw [if_neg h, if_neg (fun k => h (ez.2 k))]
      dsimp only
      rw [eif]
      clear eif
      generalize rx (F.sgn x) 0 = z0 at *
      have oz' : rr ≠ 0 → 0 < o1 := fun h => by
        rcases Int.lt_or_eq_of_le a1 with k | k
        · exact k
        · exact absurd (oz k.symm) h
      have OZ := Lib.hid oz'
      have HU := Lib.hid hu.symm
      generalize ov (ab x) (ab y) = o at *
      generalize F.cls x = cx at *
      generalize F.cls y = cy at *
      generalize F.sgn x = s1 at *
      generalize F.sgn y = s2 at *
      clear hx hy hT h1 h2 cbx cby fx fy vy e1 e2 a1 a2 b1 b2 hi hj i1 j1 hb eov ez rs1 oz r0 r1 eU eS et p1 p2 hrr rB oz'
      have hmin := HU.out
      clear hu
      obtain ⟨rz, hrz⟩ : ∃ rz, (if rr = 0 then z0 else rx (s1 != o) ρ) = rz := ⟨_, rfl⟩
      rw [hrz]
      have HZ := Lib.hid hrz
      clear hrz
      go_enter Tryd.func9, Tryd.ntmps9
      go_upto_region 9 with (first
        | (go_at_call 13; (with_reducible refine (CX.out _).mono ?_); rintro e w1 ⟨rfl, rfl⟩)
        | (go_at_call 13; (with_reducible refine (CY.out _).mono ?_); rintro e w2 ⟨rfl, rfl⟩)
        | (go_at_call 28; (with_reducible refine (O1.out _ (Below.refl _ _)).mono ?_); rintro e w3 ⟨b3, A3, n3, c3, x3, rfl, hv, hb⟩; obtain ⟨rfl, p1, hs1⟩ := g1.out _ _ _ _ _ _ hv; have s := hb.alloc hb.size (.cells #[.bool b3, .slice A3 n3 c3, .int .i64 X1] 35); have N1 := Blk.new w3 35 #[.bool b3, .slice A3 n3 c3, .int .i64 X1]; have p1 := p1.below (al1 w3 (.cells #[.bool b3, .slice A3 n3 c3, .int .i64 X1] 35)); have D := Lib.hid s; clear hv hb s)
        | (go_at_call 28; (with_reducible refine (O2.out _ D.out).mono ?_); rintro e w4 ⟨b4, A4, n4, c4, x4, rfl, hv, hb⟩; obtain ⟨rfl, rfl, p2⟩ := g2.out _ _ _ _ _ _ hv; have s := hb.alloc hb.size (.cells #[.bool s2, .slice A4 n4 c4, .int .i64 X2] 35); have N1 := N1.below s N1.lt; have p1 := p1.below s; have N2 := Blk.new w4 35 #[.bool s2, .slice A4 n4 c4, .int .i64 X2]; have p2 := p2.below (al1 w4 (.cells #[.bool s2, .slice A4 n4 c4, .int .i64 X2] 35)); have D := Lib.hid (D.out.trans (s.mono D.out.size)); clear hv hb s; have a0 := N1.at_ 0 rfl; have a1 := N1.at_ 1 rfl; have a2 := N1.at_ 2 rfl; have b0 := N2.at_ 0 rfl; have b1 := N2.at_ 1 rfl; have b2 := N2.at_ 2 rfl))
      have KC : Hid (∀ w', Below (w4.alloc (.cells #[.bool s2, .slice A4 n4 c4, .int .i64 X2] 35)).heap.size (w4.alloc (.cells #[.bool s2, .slice A4 n4 c4, .int .i64 X2] 35)) w' → w'.cell? ⟨w3.heap.size, 0, none⟩ = some (.bool b3) ∧ w'.cell? ⟨w3.heap.size, 1, none⟩ = some (.slice A3 n3 c3) ∧ w'.cell? ⟨w3.heap.size, 2, none⟩ = some (.int .i64 X1) ∧ w'.cell? ⟨w4.heap.size, 0, none⟩ = some (.bool s2) ∧ w'.cell? ⟨w4.heap.size, 1, none⟩ = some (.slice A4 n4 c4) ∧ w'.cell? ⟨w4.heap.size, 2, none⟩ = some (.int .i64 X2)) := fun W hW => ⟨(N1.below hW N1.lt).at_ 0 rfl, (N1.below hW N1.lt).at_ 1 rfl, (N1.below hW N1.lt).at_ 2 rfl, (N2.below hW N2.lt).at_ 0 rfl, (N2.below hW N2.lt).at_ 1 rfl, (N2.below hW N2.lt).at_ 2 rfl⟩
      have P1 : Hid (∀ w', Below (w4.alloc (.cells #[.bool s2, .slice A4 n4 c4, .int .i64 X2] 35)).heap.size (w4.alloc (.cells #[.bool s2, .slice A4 n4 c4, .int .i64 X2] 35)) w' → PV w' (.slice A3 n3 c3) 0 o1) := fun W hW => p1.below hW
      have P2 : Hid (∀ w', Below (w4.alloc (.cells #[.bool s2, .slice A4 n4 c4, .int .i64 X2] 35)).heap.size (w4.alloc (.cells #[.bool s2, .slice A4 n4 c4, .int .i64 X2] 35)) w' → PV w' (.slice A4 n4 c4) 0 o2) := fun W hW => p2.below hW
      have DA := D
      have D : Below (w4.alloc (.cells #[.bool s2, .slice A4 n4 c4, .int .i64 X2] 35)).heap.size (w4.alloc (.cells #[.bool s2, .slice A4 n4 c4, .int .i64 X2] 35)) (w4.alloc (.cells #[.bool s2, .slice A4 n4 c4, .int .i64 X2] 35)).drew := (Below.refl _ _).drew
      clear a0 a1 a2 b0 b1 b2 p1 p2 N1 N2
      (refine wp_region_L (S := fun w' => w'.cell? ⟨w3.heap.size, 0, none⟩ = some (.bool b3) ∧ w'.cell? ⟨w3.heap.size, 1, none⟩ = some (.slice A3 n3 c3) ∧ w'.cell? ⟨w3.heap.size, 2, none⟩ = some (.int .i64 X1) ∧ w'.cell? ⟨w4.heap.size, 0, none⟩ = some (.bool s2) ∧ w'.cell? ⟨w4.heap.size, 1, none⟩ = some (.slice A4 n4 c4) ∧ w'.cell? ⟨w4.heap.size, 2, none⟩ = some (.int .i64 X2)) (nl := 1000000) (by kernel_rfl) ?_ (fun hHeld => ?_); focus (exact KC.out _ D))
      (refine wpAnyL_take (i := 0) (oi := _) (v := ?_) rfl (by kernel_rfl) (by kernel_rfl) (by kernel_rfl) (fun _ _ _ h => h) (Or.inl ⟨by first | rfl | kernel_rfl, ?hy1⟩) (by assumption) ?rs1; (case hy1 => (intro w hSw; (try dsimp only at hSw); go_simp; first | done | with_reducible rfl)); case' rs1 => (simp only [List.getElem_toArray, List.getElem_cons_zero, List.getElem_cons_succ, Act.put, List.setIfInBounds_toArray, List.set_cons_zero, List.set_cons_succ])); (refine wpAnyL_take (i := 1) (oi := _) (v := ?_) rfl (by kernel_rfl) (by kernel_rfl) (by kernel_rfl) (fun _ _ _ h => h) (Or.inl ⟨by first | rfl | kernel_rfl, ?hy2⟩) (by assumption) ?rs2; (case hy2 => (intro w hSw; (try dsimp only at hSw); go_simp; first | done | with_reducible rfl)); case' rs2 => (simp only [List.getElem_toArray, List.getElem_cons_zero, List.getElem_cons_succ, Act.put, List.setIfInBounds_toArray, List.set_cons_zero, List.set_cons_succ])); (refine wpAnyL_take (i := 3) (oi := _) (v := ?_) rfl (by kernel_rfl) (by kernel_rfl) (by kernel_rfl) (fun _ _ _ h => h) (Or.inl ⟨by first | rfl | kernel_rfl, ?hy3⟩) (by assumption) ?rs3; (case hy3 => (intro w hSw; (try dsimp only at hSw); go_simp; first | done | with_reducible rfl)); case' rs3 => (simp only [List.getElem_toArray, List.getElem_cons_zero, List.getElem_cons_succ, Act.put, List.setIfInBounds_toArray, List.set_cons_zero, List.set_cons_succ])); (refine wpAnyL_take (i := 4) (oi := _) (v := ?_) rfl (by kernel_rfl) (by kernel_rfl) (by kernel_rfl) (fun _ _ _ h => h) (Or.inl ⟨by first | rfl | kernel_rfl, ?hy4⟩) (by assumption) ?rs4; (case hy4 => (intro w hSw; (try dsimp only at hSw); go_simp; first | done | with_reducible rfl)); case' rs4 => (simp only [List.getElem_toArray, List.getElem_cons_zero, List.getElem_cons_succ, Act.put, List.setIfInBounds_toArray, List.set_cons_zero, List.set_cons_succ])); skip
      (refine wpAnyL_one (i := 2) (o := _) (by kernel_rfl) rfl (fun K hK => ?_); clear hHeld; simp only [List.getElem_toArray, List.getElem_cons_zero, List.getElem_cons_succ]; go_simp; (go_at_call 30; (with_reducible refine (I1.out _ _ _ _ _ (P1.out _ D)).mono ?_); rintro e w5 ⟨A5, n5, c5, rfl, hv5, hb5⟩; have D := D.trans (hb5.mono D.size)); refine hK.out _ _ ?_ (fun hHeld => ?_); focus (intro _; exact KC.out _ D)); have hHeld := hHeld (by decide); clear hK K; (try simp only [Act.put, List.setIfInBounds_toArray, List.set_cons_zero, List.set_cons_succ])
      (refine wpAnyL_one (i := 5) (o := _) (by kernel_rfl) rfl (fun K hK => ?_); clear hHeld; simp only [List.getElem_toArray, List.getElem_cons_zero, List.getElem_cons_succ]; go_simp; (go_at_call 30; (with_reducible refine (I2.out _ _ _ _ _ (P2.out _ D)).mono ?_); rintro e w6 ⟨A6, n6, c6, rfl, hv6, hb6⟩; have hv5 := hv5.below hb6; have D := D.trans (hb6.mono D.size)); refine hK.out _ _ ?_ (fun hHeld => ?_); focus (intro _; exact KC.out _ D)); have hHeld := hHeld (by decide); clear hK K; (try simp only [Act.put, List.setIfInBounds_toArray, List.set_cons_zero, List.set_cons_succ])
      (refine wpAnyL_one (i := 6) (o := _) (by kernel_rfl) rfl (fun K hK => ?_); clear hHeld; simp only [List.getElem_toArray, List.getElem_cons_zero, List.getElem_cons_succ]; go_simp; (go_at_call 29; (with_reducible refine (NE.out _ _ _ _ _ _ _ hv5 hv6).mono ?_); rintro e w7 ⟨A7, n7, c7, rfl, hv7, hb7⟩; have D := D.trans (hb7.mono D.size)); refine hK.out _ _ ?_ (fun hHeld => ?_); focus (intro _; exact KC.out _ D)); have hHeld := hHeld (by decide); clear hK K; (try simp only [Act.put, List.setIfInBounds_toArray, List.set_cons_zero, List.set_cons_succ])
      (refine wpAnyL_take (i := 7) (oi := _) (v := ?_) rfl (by kernel_rfl) (by kernel_rfl) (by kernel_rfl) (fun _ _ _ h => h) (Or.inl ⟨by first | rfl | kernel_rfl, ?hy5⟩) (by assumption) ?rs5; (case hy5 => (intro w hSw; (try dsimp only at hSw); go_simp; first | done | with_reducible rfl)); case' rs5 => (simp only [List.getElem_toArray, List.getElem_cons_zero, List.getElem_cons_succ, Act.put, List.setIfInBounds_toArray, List.set_cons_zero, List.set_cons_succ])); (refine wpAnyL_take (i := 8) (oi := _) (v := ?_) rfl (by kernel_rfl) (by kernel_rfl) (by kernel_rfl) (fun _ _ _ h => h) (Or.inl ⟨by first | rfl | kernel_rfl, ?hy6⟩) (by assumption) ?rs6; (case hy6 => (intro w hSw; (try dsimp only at hSw); go_simp; first | done | with_reducible rfl)); case' rs6 => (simp only [List.getElem_toArray, List.getElem_cons_zero, List.getElem_cons_succ, Act.put, List.setIfInBounds_toArray, List.set_cons_zero, List.set_cons_succ])); (refine wpAnyL_take (i := 9) (oi := _) (v := ?_) rfl (by kernel_rfl) (by kernel_rfl) (by kernel_rfl) (fun _ _ _ h => h) (Or.inl ⟨by first | rfl | kernel_rfl, ?hy7⟩) (by assumption) ?rs7; (case hy7 => (intro w hSw; (try dsimp only at hSw); go_simp; first | done | with_reducible rfl)); case' rs7 => (simp only [List.getElem_toArray, List.getElem_cons_zero, List.getElem_cons_succ, Act.put, List.setIfInBounds_toArray, List.set_cons_zero, List.set_cons_succ])); (refine wpAnyL_take (i := 10) (oi := _) (v := ?_) rfl (by kernel_rfl) (by kernel_rfl) (by kernel_rfl) (fun _ _ _ h => h) (Or.inl ⟨by first | rfl | kernel_rfl, ?hy8⟩) (by assumption) ?rs8; (case hy8 => (intro w hSw; (try dsimp only at hSw); go_simp; first | done | with_reducible rfl)); case' rs8 => (simp only [List.getElem_toArray, List.getElem_cons_zero, List.getElem_cons_succ, Act.put, List.setIfInBounds_toArray, List.set_cons_zero, List.set_cons_succ])); (refine wpAnyL_take (i := 11) (oi := _) (v := ?_) rfl (by kernel_rfl) (by kernel_rfl) (by kernel_rfl) (fun _ _ _ h => h) (Or.inl ⟨by first | rfl | kernel_rfl, ?hy9⟩) (by assumption) ?rs9; (case hy9 => (intro w hSw; (try dsimp only at hSw); go_simp; first | done | with_reducible rfl)); case' rs9 => (simp only [List.getElem_toArray, List.getElem_cons_zero, List.getElem_cons_succ, Act.put, List.setIfInBounds_toArray, List.set_cons_zero, List.set_cons_succ])); skip
      refine wpAnyL_done (by kernel_rfl) ?_ _
      have KD := KC.out _ D
      have DF := Lib.hid (DA.out.trans (D.mono DA.out.size))
      have zr := ZR.out _ _ _ _ hv7
      obtain ⟨a0, a1, a2, b0, b1, b2⟩ := KD
      by_cases h0 : rr = 0
      · obtain rfl : n7 = 0 := zr.2 h0
        obtain rfl : z0 = rz := by have := HZ.out; rwa [if_pos h0] at this
        have SB := SB.out
        have D := DF
        clear zr h0 hHeld
        go_wp2
        go_ret
        exact ⟨rfl, D.out⟩
      · have hn : ((n7 : Int) == 0) = false := by simp; exact fun h => h0 (zr.1 h)
        have hn2 : ¬ n7 = 0 := fun h => h0 (zr.1 h)
        have hz := HZ.out
        rw [if_neg h0] at hz
        obtain rfl := hs1.out (OZ.out h0)
        have D := DF
        have h0' : 0 < rr := by omega
        have TO : Hid (∀ (W : World) (v : Value), DV W v (fin (sgm (!(s1 == o)) rr) un).d → Below w.heap.size w W → Calls Tryd.prog 32 #[v, .int .i64 0] W (DC.RetB W (.tuple #[.int .u64 rz, .bool false, .int .i64 0]))) := fun W v hv hW => by rw [← hz]; exact TO.out W v _ h0' hv hW
        have H7 := Lib.hid hv7
        clear zr h0 hHeld h0' hv5 hv6 hv7 hmin rs0 hz HZ
        go_wp2_with (first
          | (go_at_call 31; (with_reducible refine (MK.out _ _ _ _ _ H7.out D.out).mono ?_); rintro e w8 ⟨b8, A8, n8, c8, x8, rfl, hv, hb⟩; have s := hb.alloc hb.size (.cells #[.bool b8, .slice A8 n8 c8, .int .i64 x8] 35); have Xb := BD.new hv.dv; have D := Lib.hid (D.out.trans (s.mono D.out.size)); clear hv hb s; obtain ⟨c_0, c_1, c_2⟩ := Xb.bx)
          | (go_at_call 32; (with_reducible refine (TO.out _ _ Xb.dv D.out).mono ?_); rintro e w9 ⟨rfl, hb⟩; have D := Lib.hid (D.out.trans (hb.mono D.out.size)); clear hb))
        go_ret
        exact ⟨rfl, D.out⟩
end JC
end Go.Proofs.YtpmjeipdldnnbaaDoor

/-
  Package quot, pure: quotients by itself and by 1, turned; no middles.
-/
namespace Go.Proofs.YtpmjeipdldnnbaaDoor
set_option linter.unusedVariables false
set_option linter.unusedSimpArgs false
open Go.RowKit
set_option linter.unusedVariables false
set_option linter.unusedSimpArgs false
namespace JC
open L NC NK DC RC SC PC
theorem P_sc : sc 1 0 = 2 ^ KN := by
  unfold sc
  rw [Int.one_mul]
  congr 1
  rw [KN_eq]; rfl
theorem PK_pos : (0 : Int) < 2 ^ KN := two_pos' KN
theorem ab_one : ab 4607182418800017408 = 2 ^ KN := by
  have o := one_val (O := 4607182418800017408) rfl (K := KN) KN_eq
  have v := val_ab o.1
  rw [o.2.1, o.2.2.1] at v
  exact v.symm
theorem fi_range {x : Int} (h : fi x) : 0 ≤ x ∧ x ≤ 18446744073709551615 := ⟨h.1, h.2.1⟩
theorem ab_nn (x : Int) : 0 ≤ ab x := U_pos (by omega)
theorem rx_self {x : Int} (h0 : 0 ≤ x) (h1 : x ≤ 18446744073709551615) : rx (F.sgn x) (x % 9223372036854775808) = x := by
  unfold rx
  cases hs : F.sgn x
  · have := (F.sgn_iff' x).1 hs
    simp; omega
  · have := (F.sgn_iff x).1 hs
    simp
    unfold F.neg
    rw [if_pos (by omega)]
    omega
theorem ry_none' (b : Bool) (r mode : Int) : ry b r false (false || false) mode = r := ry_none b r mode
/-- what is exact -/
theorem RT_exact {le lt : Int → Prop} (C : Cut le lt) {x : Int} (fx : fi x) (h : le (2 * ab x)) (h' : ¬ lt (2 * ab x)) (b : Bool) (mode : Int) : RT b le lt mode = (rx b (x % 9223372036854775808), false, 0) := by
  have t := tog_exact C (r := x % 9223372036854775808) (by omega) (fi_mod fx) h h'
  rw [RT_of C t, ry_none]; rfl
theorem DT_one {x mode O : Int} (hm : 0 ≤ mode ∧ mode ≤ 4) (hx : 0 ≤ x ∧ x ≤ 18446744073709551615) (hO : O = 4607182418800017408) : DT x O mode = (if F.cls x = 5 then 9221120237041090560 else x, false, 0) := by
  have o := one_val (O := O) hO (K := KN) KN_eq
  have a := F.cls_bd x
  have ci := cls_inf hx.1 hx.2
  have c1 := cls1 hx.1 hx.2
  have es : sp x O = if F.sgn x = false then 0 else 9223372036854775808 := by unfold sp; rw [o.2.2.1]
  by_cases h5 : F.cls x = 5
  · have e : qc x O = (9221120237041090560, true) := by unfold qc; rw [if_pos (.inl h5)]
    rw [DT_qc hm (by rw [e]), e, if_pos h5]
  · rw [if_neg h5]
    by_cases h4 : F.cls x = 4
    · have e : qc x O = (x, true) := by
        unfold qc
        rw [o.2.2.2, if_neg (by omega), if_neg (by omega), if_pos (by omega), es]
        rcases ci.1 h4 with rfl | rfl
        · simp [F.sgn]
        · simp [F.sgn]
      rw [DT_qc hm (by rw [e]), e]
    · by_cases h1 : F.cls x = 1
      · have e : qc x O = (x, true) := by
          unfold qc
          rw [o.2.2.2, if_neg (by omega), if_neg (by omega), if_neg (by omega), if_pos (by omega), es]
          rcases c1.1 h1 with rfl | rfl
          · simp [F.sgn]
          · simp [F.sgn]
        rw [DT_qc hm (by rw [e]), e]
      · have e : (qc x O).2 = false := by
          unfold qc
          rw [o.2.2.2, if_neg (by omega), if_neg (by omega), if_neg (by omega), if_neg (by omega)]
        have fx := ((qc_no hx ⟨o.1.1, o.1.2.1⟩).1 e).1
        have eO : ab O = 2 ^ KN := by rw [hO]; exact ab_one
        have hp := PK_pos
        rw [DT_fi hm e, eO, RT_exact (qcut hp) fx, o.2.2.1]
        · rw [show (F.sgn x != false) = F.sgn x by cases F.sgn x <;> rfl, rx_self hx.1 hx.2]
        · unfold qle; rw [Int.mul_assoc]; exact Int.le_refl _
        · unfold qlt; rw [Int.mul_assoc]; exact Int.lt_irrefl _
theorem DT_self {x mode : Int} (hm : 0 ≤ mode ∧ mode ≤ 4) (hx : 0 ≤ x ∧ x ≤ 18446744073709551615) (h : F.cls x = 2 ∨ F.cls x = 3) : DT x x mode = (4607182418800017408, false, 0) := by
  have e : (qc x x).2 = false := by
    unfold qc
    rw [if_neg (by omega), if_neg (by omega), if_neg (by omega), if_neg (by omega)]
  obtain ⟨fx, -, vx, -⟩ := (qc_no hx hx).1 e
  have hp := ab_pos fx vx
  have o := one_val (O := 4607182418800017408) rfl (K := KN) KN_eq
  rw [DT_fi hm e, RT_exact (qcut hp) o.1]
  · rw [show (F.sgn x != F.sgn x) = false by cases F.sgn x <;> rfl]; rfl
  · unfold qle; rw [ab_one, Int.mul_assoc, Int.mul_comm (ab x)]; exact Int.le_refl _
  · unfold qlt; rw [ab_one, Int.mul_assoc, Int.mul_comm (ab x)]; exact Int.lt_irrefl _
theorem up_turn {b o h m : Bool} {mode : Int} (hm : 0 ≤ mode ∧ mode ≤ 4) : up (!b) o h m (tm mode) = up b o h m mode := by
  have k : mode = 0 ∨ mode = 1 ∨ mode = 2 ∨ mode = 3 ∨ mode = 4 := by omega
  rcases k with rfl | rfl | rfl | rfl | rfl <;> cases b <;> cases o <;> cases h <;> cases m <;> decide
theorem RT_turn {le lt : Int → Prop} {b : Bool} {mode r : Int} {h m : Bool} (C : Cut le lt) (t : Tog le lt r h m) (hm : 0 ≤ mode ∧ mode ≤ 4) : RT (!b) le lt (tm mode) = (F.neg (RT b le lt mode).1, (RT b le lt mode).2.1, 0) := by
  rw [RT_of C t, RT_of C t]
  have e : ry (!b) r h m (tm mode) = ry b r h m mode := by unfold ry; rw [up_turn hm]
  rw [e]
  have k := tog_bd (b := b) (h := h) (m := m) t.r0 t.r1 mode
  refine Prod.ext ?_ rfl
  show rx (!b) _ = F.neg (rx b _)
  unfold rx
  cases b
  · simp
  · simp; rw [F.neg_neg _ k.1 (by omega)]
theorem div_tog_ex {x y : Int} (hx : 0 ≤ x ∧ x ≤ 18446744073709551615) (hy : 0 ≤ y ∧ y ≤ 18446744073709551615) (h : (qc x y).2 = false) : 0 < ab y ∧ ∃ r hf m, Tog (qle (ab x * 2 ^ KN) (ab y)) (qlt (ab x * 2 ^ KN) (ab y)) r hf m := by
  obtain ⟨fx, fy, vx, vy⟩ := (qc_no hx hy).1 h
  obtain ⟨o1, X1, e1, a1, a2, -, a3, a4, a5⟩ := of_parts fx vx
  obtain ⟨o2, X2, e2, b1, b2, -, b3, b4, b5⟩ := of_parts fy vy
  obtain ⟨L, hL⟩ : ∃ L, L = o1 * 2 ^ 128 := ⟨_, rfl⟩
  obtain ⟨q, hq⟩ : ∃ q, q = L / o2 := ⟨_, rfl⟩
  obtain ⟨rm, hr⟩ : ∃ rm, rm = L % o2 := ⟨_, rfl⟩
  have p128 : (2 : Int) ^ 128 = 340282366920938463463374607431768211456 := by decide
  have hdm := Int.mul_ediv_add_emod L o2
  have hr0 := Int.emod_nonneg L (Int.ne_of_gt b1)
  have hr1 := Int.emod_lt_of_pos L b1
  rw [← hq, ← hr, Int.mul_comm] at hdm
  rw [← hr] at hr0 hr1
  rw [p128] at hL
  have q1 : 37778931862957161709568 ≤ q := by
    rw [hq, Int.le_ediv_iff_mul_le b1]
    have := Int.mul_le_mul_of_nonneg_left (show o2 ≤ 9007199254740992 by omega) (show (0 : Int) ≤ 37778931862957161709568 by omega)
    omega
  have q2 : q ≤ L := by
    have := Int.mul_le_mul_of_nonneg_left (show 1 ≤ o2 by omega) (show 0 ≤ q by omega)
    omega
  obtain ⟨B, hB⟩ : ∃ B : Nat, B = 400 := ⟨_, rfl⟩
  have hqB : q < 2 ^ B := by
    have := pow_le400 hB (show 190 ≤ 399 by omega)
    rw [show (2 : Int) ^ 190 = 1569275433846670190958947355801916604025588861116008628224 by decide] at this
    omega
  obtain ⟨r, hf, m, t⟩ := tow_ex (z := q) (x := X1 - X2 - 128) (by omega) (lt_390 hB hqB).2 (by omega)
  have eN : ab x * 2 ^ KN = sc L (X1 - 128) * 2 ^ KN := by
    rw [a5, hL, ← p128]
    have := sc_shift o1 (X1 - 128) 128 (by omega)
    rw [this]
    congr 2; omega
  exact ⟨ab_pos fy vy, r, hf, _, div_tog (left := decide (rm ≠ 0)) (N := ab x * 2 ^ KN) (D := ab y) (o := o2) (X := X2) (L := L) (f := X1 - 128) (z := q) (e := X1 - X2 - 128) hB (by omega) (by omega) (by omega) b5 eN b1 (by omega) hqB (.inl (by omega)) (by omega) (by rw [Int.add_mul]; omega) (by apply decide_eq_decide.2; omega) t⟩
theorem RT_cls {le lt : Int → Prop} {b : Bool} {mode r : Int} {h m : Bool} (C : Cut le lt) (t : Tog le lt r h m) : 0 ≤ (RT b le lt mode).1 ∧ (RT b le lt mode).1 ≤ 18446744073709551615 ∧ F.cls (RT b le lt mode).1 ≠ 5 := by
  rw [RT_of C t]
  have k := tog_bd (b := b) (h := h) (m := m) t.r0 t.r1 mode
  have := rx_bd (b := b) k.1 k.2.1
  exact ⟨this.1, this.2.1, cls_nn.2 this.2.2.1⟩
theorem div_turn {x y mode : Int} (hm : 0 ≤ mode ∧ mode ≤ 4) (hx : 0 ≤ x ∧ x ≤ 18446744073709551615) (hy : 0 ≤ y ∧ y ≤ 18446744073709551615) :
    ∃ a b g, DT x y mode = (a, b, 0) ∧ DT (F.neg x) y (tm mode) = (g, b, 0) ∧ ((F.cls a = 5 ∧ g = 9221120237041090560) ∨ (F.cls a ≠ 5 ∧ g = F.neg a)) := by
  have hm' : 0 ≤ tm mode ∧ tm mode ≤ 4 := by unfold tm; split; omega; split <;> omega
  have hx' := F.neg_bd x hx.1 hx.2
  have eb : qc (F.neg x) y = if F.cls x = 5 ∨ F.cls y = 5 then (9221120237041090560, true) else if F.cls x = F.cls y ∧ (F.cls x = 4 ∨ F.cls x = 1) then (9221120237041090560, true)
      else if F.cls x = 4 ∨ F.cls y = 1 then (F.neg (sp x y + 9218868437227405312), true) else if F.cls x = 1 ∨ F.cls y = 4 then (F.neg (sp x y), true) else (0, false) := by
    unfold qc
    rw [F.cls_neg, sp_neg' hx, sp_neg hx]
  have e0 : qc x y = if F.cls x = 5 ∨ F.cls y = 5 then (9221120237041090560, true) else if F.cls x = F.cls y ∧ (F.cls x = 4 ∨ F.cls x = 1) then (9221120237041090560, true)
      else if F.cls x = 4 ∨ F.cls y = 1 then (sp x y + 9218868437227405312, true) else if F.cls x = 1 ∨ F.cls y = 4 then (sp x y, true) else (0, false) := rfl
  by_cases h1 : F.cls x = 5 ∨ F.cls y = 5
  · rw [if_pos h1] at eb e0
    rw [DT_qc hm (by rw [e0]), DT_qc hm' (by rw [eb]), e0, eb]
    exact ⟨_, _, _, rfl, rfl, .inl ⟨by decide, rfl⟩⟩
  rw [if_neg h1] at eb e0
  by_cases h2 : F.cls x = F.cls y ∧ (F.cls x = 4 ∨ F.cls x = 1)
  · rw [if_pos h2] at eb e0
    rw [DT_qc hm (by rw [e0]), DT_qc hm' (by rw [eb]), e0, eb]
    exact ⟨_, _, _, rfl, rfl, .inl ⟨by decide, rfl⟩⟩
  rw [if_neg h2] at eb e0
  by_cases h3 : F.cls x = 4 ∨ F.cls y = 1
  · rw [if_pos h3] at eb e0
    rw [DT_qc hm (by rw [e0]), DT_qc hm' (by rw [eb]), e0, eb]
    refine ⟨_, _, _, rfl, rfl, .inr ⟨?_, rfl⟩⟩
    rcases sp2 x y with h | h <;> rw [h] <;> decide
  rw [if_neg h3] at eb e0
  by_cases h4 : F.cls x = 1 ∨ F.cls y = 4
  · rw [if_pos h4] at eb e0
    rw [DT_qc hm (by rw [e0]), DT_qc hm' (by rw [eb]), e0, eb]
    refine ⟨_, _, _, rfl, rfl, .inr ⟨?_, rfl⟩⟩
    rcases sp2 x y with h | h <;> rw [h] <;> decide
  rw [if_neg h4] at eb e0
  have n1 : (qc x y).2 = false := by rw [e0]
  have n2 : (qc (F.neg x) y).2 = false := by rw [eb]
  obtain ⟨hD, r, hf, m, t⟩ := div_tog_ex hx hy n1
  rw [DT_fi hm n1, DT_fi hm' n2, ab_neg, F.sgn_neg x hx.1 hx.2]
  rw [show ((!F.sgn x) != F.sgn y) = !(F.sgn x != F.sgn y) by cases F.sgn x <;> cases F.sgn y <;> rfl, RT_turn (qcut hD) t hm]
  have c := RT_cls (b := F.sgn x != F.sgn y) (mode := mode) (qcut hD) t
  refine ⟨_, _, _, ?_, rfl, .inr ⟨c.2.2, rfl⟩⟩
  rfl
theorem DT_bd {x y : Int} (mode : Int) (hx : 0 ≤ x ∧ x ≤ 18446744073709551615) (hy : 0 ≤ y ∧ y ≤ 18446744073709551615) : 0 ≤ (DT x y mode).1 ∧ (DT x y mode).1 ≤ 18446744073709551615 := by
  by_cases hm : 0 ≤ mode ∧ mode ≤ 4
  · cases h : (qc x y).2
    · obtain ⟨hD, r, hf, m, t⟩ := div_tog_ex hx hy h
      rw [DT_fi hm h]
      have := RT_cls (b := F.sgn x != F.sgn y) (mode := mode) (qcut hD) t
      exact ⟨this.1, this.2.1⟩
    · rw [DT_qc hm h]; exact qc_bd x y
  · rw [DT_no hm]; exact ⟨by simp, by simp⟩
theorem DT_e {x y mode : Int} (hm : 0 ≤ mode ∧ mode ≤ 4) : (DT x y mode).2.2 = 0 := by
  cases h : (qc x y).2
  · rw [DT_fi hm h]; rfl
  · rw [DT_qc hm h]
/-- near and away differ just in the middle -/
theorem near_away {le lt : Int → Prop} {b : Bool} {r : Int} {h m : Bool} (C : Cut le lt) (t : Tog le lt r h m) (hmid : le (U r + U (r + 1)) → lt (U r + U (r + 1))) : ry b r h m 0 = ry b r h m 4 := by
  unfold ry
  have : up b (decide (r % 2 = 1)) h m 0 = up b (decide (r % 2 = 1)) h m 4 := by
    have k : h = true → m = true := fun hh => by
      have g := U_lt t.r0 (show r < r + 1 by omega)
      have l := t.hh.1 hh
      exact t.hm.2 ⟨C.b _ _ (by omega) l, hmid⟩
    unfold up
    cases h <;> cases m <;> simp at k <;> simp
  rw [this]
theorem can_odd {o x : Int} (h : o % 2 = 1) : can o x := .inr h
theorem mid_eq {r : Int} (h : 0 ≤ r) : ∃ (k : Nat) (q : Int), r = k * 4503599627370496 + q ∧ 0 ≤ q ∧ q < 9007199254740992 ∧ (k = 0 ∨ 4503599627370496 ≤ q) ∧ U r + U (r + 1) = sc (2 * q + 1) (k - 1074) := by
  obtain ⟨k, q, e, q0, q1, hc⟩ := r_parts h
  obtain ⟨g1, g2⟩ := U_of q0 q1 hc
  refine ⟨k, q, e, q0, q1, hc, ?_⟩
  rw [e, g1, g2, sc_mul1 (2 * q + 1), Int.add_mul q, Int.add_mul (2 * q), Int.mul_assoc 2]
  omega
theorem div_mid {x y r : Int} (fx : fi x) (fy : fi y) (vx : val x ≠ 0) (vy : val y ≠ 0) (r0 : 4503599627370496 ≤ r) (hr : r ≤ 9218868437227405311) : (U r + U (r + 1)) * ab y ≠ 2 * (ab x * 2 ^ KN) := by
  obtain ⟨o1, X1, e1, a1, a2, ao, a3, a4, a5⟩ := of_parts fx vx
  obtain ⟨o2, X2, e2, b1, b2, bo, b3, b4, b5⟩ := of_parts fy vy
  obtain ⟨k, q, e, q0, q1, hc, hmid⟩ := mid_eq (show 0 ≤ r by omega)
  intro h
  rw [hmid, a5, b5] at h
  have hm := sc_mul (m := 2 * q + 1) (n := o2) (x := (k : Int) - 1074) (y := X2) (by omega) (by omega) KN_eq
  rw [← hm] at h
  have h2 : 2 * (sc o1 X1 * 2 ^ KN) = sc o1 (X1 + 1) * 2 ^ KN := by
    have := sc_shift o1 X1 1 (by omega)
    rw [show X1 + ((1 : Nat) : Int) = X1 + 1 by omega] at this
    rw [← this, show o1 * 2 ^ 1 = 2 * o1 by omega, sc_mul1 (2 * o1), sc_mul1 o1, Int.mul_assoc 2 o1, Int.mul_assoc 2]
  rw [h2] at h
  have h3 := Int.eq_of_mul_eq_mul_right (Int.ne_of_gt PK_pos) h
  have hk : (k : Int) ≤ 2046 := by omega
  have od : (2 * q + 1) * o2 % 2 = 1 := by
    rw [Int.mul_emod, bo, show (2 * q + 1) % 2 = 1 by omega]; rfl
  obtain ⟨i1, -⟩ := sc_inj h3 (can_odd od) (can_odd ao) (by omega) (by omega)
  have hq : 4503599627370496 ≤ q := by omega
  have := Int.mul_le_mul_of_nonneg_left (show 1 ≤ o2 by omega) (show 0 ≤ 2 * q + 1 by omega)
  omega
theorem root_mid {x r : Int} (fx : fi x) (vx : val x ≠ 0) (r0 : 0 ≤ r) (hr : r ≤ 9218868437227405311) : (U r + U (r + 1)) * (U r + U (r + 1)) ≠ 4 * (ab x * 2 ^ KN) := by
  obtain ⟨o1, X1, e1, a1, a2, ao, a3, a4, a5⟩ := of_parts fx vx
  obtain ⟨k, q, e, q0, q1, hc, hmid⟩ := mid_eq r0
  intro h
  rw [hmid, a5] at h
  have hm := sc_mul (m := 2 * q + 1) (n := 2 * q + 1) (x := (k : Int) - 1074) (y := (k : Int) - 1074) (by omega) (by omega) KN_eq
  rw [← hm] at h
  have h2 : 4 * (sc o1 X1 * 2 ^ KN) = sc o1 (X1 + 2) * 2 ^ KN := by
    have := sc_shift o1 X1 2 (by omega)
    rw [show X1 + ((2 : Nat) : Int) = X1 + 2 by omega] at this
    rw [← this, show o1 * 2 ^ 2 = 4 * o1 by omega, sc_mul1 (4 * o1), sc_mul1 o1, Int.mul_assoc 4 o1, Int.mul_assoc 4]
  rw [h2] at h
  have h3 := Int.eq_of_mul_eq_mul_right (Int.ne_of_gt PK_pos) h
  have od : (2 * q + 1) * (2 * q + 1) % 2 = 1 := by
    rw [Int.mul_emod, show (2 * q + 1) % 2 = 1 by omega]; rfl
  obtain ⟨i1, i2⟩ := sc_inj h3 (can_odd od) (can_odd ao) (by omega) (by omega)
  have hk : k ≠ 0 := by omega
  have hq : 4503599627370496 ≤ q := by omega
  have := Int.mul_le_mul_of_nonneg_left (show 1 ≤ 2 * q + 1 by omega) (show 0 ≤ 2 * q + 1 by omega)
  omega
/-- no middle -/
theorem never_p {x y : Int} (hx : 0 ≤ x ∧ x ≤ 18446744073709551615) (hy : 0 ≤ y ∧ y ≤ 18446744073709551615) : (DT x y 0).1 = (DT x y 4).1 ∨ F.cls (DT x y 0).1 ≠ 3 ∨ F.cls (DT x y 4).1 ≠ 3 := by
  cases h : (qc x y).2
  · obtain ⟨fx, fy, vx, vy⟩ := (qc_no hx hy).1 h
    obtain ⟨hD, r, hf, m, t⟩ := div_tog_ex hx hy h
    rw [DT_fi (by omega) h, DT_fi (by omega) h, RT_of (qcut hD) t, RT_of (qcut hD) t]
    dsimp only
    by_cases hr : 4503599627370496 ≤ r
    · left
      rw [near_away (qcut hD) t]
      intro l
      have := div_mid fx fy vx vy hr t.r1
      unfold qle at l
      unfold qlt
      omega
    · generalize hb : (F.sgn x != F.sgn y) = b at *
      have k0 := tog_bd (b := b) (h := hf) (m := m) t.r0 t.r1 0
      have k4 := tog_bd (b := b) (h := hf) (m := m) t.r0 t.r1 4
      by_cases e : ry b r hf m 0 = ry b r hf m 4
      · left; rw [e]
      · right
        have small : ∀ z : Int, 0 ≤ z → z < 4503599627370496 → F.cls (rx b z) ≠ 3 := fun z z0 z1 => by
          have hc : F.cls (rx b z) = F.cls z := by
            unfold rx
            cases b
            · rfl
            · exact F.cls_neg z
          rw [hc]
          unfold F.cls F.exq
          rw [if_pos (by omega)]
          split <;> omega
        have t0 := t.r0
        rcases Int.lt_or_le (ry b r hf m 0) (ry b r hf m 4) with c | c
        · exact .inl (small _ k0.1 (by omega))
        · exact .inr (small _ k4.1 (by omega))
  · rw [DT_qc (by omega) h, DT_qc (by omega) h]; exact .inl rfl
end JC
end Go.Proofs.YtpmjeipdldnnbaaDoor

/-
  Package quot: Sqrt.
-/
namespace Go.Proofs.YtpmjeipdldnnbaaDoor
set_option linter.unusedVariables false
set_option linter.unusedSimpArgs false
open Go.RowKit
set_option linter.unusedVariables false
set_option linter.unusedSimpArgs false
namespace JC
open L NC NK DC RC SC PC
theorem sqrt_parts {x mode : Int} (hm : 0 ≤ mode ∧ mode ≤ 4) (hx : 0 ≤ x ∧ x ≤ 18446744073709551615) (h : ¬ (F.cls x = 1 ∨ x = 9218868437227405312)) (h' : ¬ (F.cls x = 5 ∨ F.sgn x = true)) :
    ∃ (o X p e L : Int) (n : Nat), OfD x = ⟨0, 0, sgm false o, X⟩ ∧ 0 < o ∧ -1074 ≤ X ∧ X ≤ 1024 ∧ X % 2 = p ∧ (p = 0 ∨ p = 1) ∧ (n : Int) = 128 + p ∧ (X - (128 + p)).tdiv 2 = e ∧ -1000 ≤ e ∧ e ≤ 1000 ∧ L = o * 2 ^ n ∧ 0 ≤ L ∧ L < 2 ^ 190 ∧
      ∀ R : Int, 0 ≤ R → R * R ≤ L → L < (R + 1) * (R + 1) → 0 < R ∧ R < 2 ^ 190 ∧ ∃ (r : Int) (hf m : Bool), Tow (sc R e) r hf m ∧ ST x mode = (rx false (ry false r hf (m || decide (R * R ≠ L)) mode), hf || (m || decide (R * R ≠ L)), 0) := by
  obtain ⟨fx, vx, hs⟩ := st_fi hx h h'
  obtain ⟨o, X, e1, a1, a2, -, a3, a4, a5⟩ := of_parts fx vx
  rw [hs] at e1
  obtain ⟨p, hp⟩ : ∃ p, X % 2 = p := ⟨_, rfl⟩
  have p01 : p = 0 ∨ p = 1 := by omega
  obtain ⟨n, hn⟩ : ∃ n : Nat, (n : Int) = 128 + p := ⟨(128 + p).toNat, by omega⟩
  obtain ⟨e, he⟩ : ∃ e, (X - (128 + p)).tdiv 2 = e := ⟨_, rfl⟩
  have e2 : e + e = X - (128 + p) := by
    have := Int.mul_tdiv_add_tmod (X - (128 + p)) 2
    have hz : (X - (128 + p)).tmod 2 = 0 := by
      have : (2 : Int) ∣ X - (128 + p) := by omega
      exact Int.tmod_eq_zero_of_dvd this
    omega
  have p128 : (2 : Int) ^ 128 = 340282366920938463463374607431768211456 := by decide
  have p190 : (2 : Int) ^ 190 = 1569275433846670190958947355801916604025588861116008628224 := by decide
  have pn : 340282366920938463463374607431768211456 ≤ (2 : Int) ^ n ∧ (2 : Int) ^ n ≤ 680564733841876926926749214863536422912 := by
    rcases p01 with rfl | rfl
    · rw [show n = 128 by omega]; decide
    · rw [show n = 129 by omega]; decide
  obtain ⟨L, hL⟩ : ∃ L, L = o * 2 ^ n := ⟨_, rfl⟩
  have l1 := Int.mul_le_mul_of_nonneg_right (show 1 ≤ o by omega) (show 0 ≤ (2 : Int) ^ n by omega)
  have l2 := Int.mul_le_mul_of_nonneg_left pn.2 (show 0 ≤ o by omega)
  rw [← hL] at l1 l2
  refine ⟨o, X, p, e, L, n, e1, a1, a3, a4, hp, p01, hn, he, by omega, by omega, hL, by omega, by rw [p190]; omega, fun R r0 r1 r2 => ?_⟩
  have r3 : 18446744073709551615 ≤ R := by
    rcases Int.lt_or_le R 18446744073709551615 with k | k
    · exfalso
      have := Int.mul_le_mul (show R + 1 ≤ 18446744073709551615 by omega) (show R + 1 ≤ 18446744073709551615 by omega) (by omega) (by omega)
      omega
    · exact k
  have r4 : R ≤ L := by
    have := Int.mul_le_mul_of_nonneg_left (show 1 ≤ R by omega) r0
    omega
  obtain ⟨B, hB⟩ : ∃ B : Nat, B = 400 := ⟨_, rfl⟩
  have hqB : R < 2 ^ B := by
    have := pow_le400 hB (show 190 ≤ 399 by omega)
    rw [p190] at this
    omega
  obtain ⟨r, hf, m, t⟩ := tow_ex (z := R) (x := e) (by omega) (lt_390 hB hqB).2 (by omega)
  refine ⟨by omega, by rw [p190]; omega, r, hf, m, t, ?_⟩
  rw [ST_fi hm h h']
  have eN : ab x * 2 ^ KN = sc L (X - (128 + p)) * 2 ^ KN := by
    rw [a5, hL]
    have := sc_shift o (X - (128 + p)) n (by omega)
    rw [this]
    congr 2; omega
  have tg := root_tog (left := decide (R * R ≠ L)) (N := ab x * 2 ^ KN) (L := L) (f := X - (128 + p)) (z := R) (e := e) hB (by omega) e2 eN (by omega) hqB (by omega) r1 r2 (by apply decide_eq_decide.2; omega) t
  rw [RT_of (rcut _) tg]
set_option maxRecDepth 100000 in
set_option maxHeartbeats 8000000 in
theorem Sqrt_c (x mode : Int) (w : World) (hx : 0 ≤ x ∧ x ≤ 18446744073709551615) (hT : TabD w) :
    Calls Tryd.prog 24 #[.int .u64 x, .int .i64 mode] w (DC.RetB w (ATv (ST x mode))) := by
  have CM := Lib.hid (checkModeQ_c mode w hT)
  have CX : Hid (∀ W : World, Calls Tryd.prog 13 #[.int .u64 x] W fun e w' => e = .returned (.int .i64 (F.cls x)) ∧ W = w') := fun W => FloatC.Class_c x hx.1 hx.2 W
  have AX : Hid (∀ W : World, Calls Tryd.prog 20 #[.int .u64 x] W fun e w' => e = .returned (.int .u64 (F.abs x)) ∧ W = w') := fun W => FloatC.Abs_c x hx.1 hx.2 W
  unfold ATv
  by_cases hm : 0 ≤ mode ∧ mode ≤ 4
  · rw [if_pos hm] at CM
    by_cases h : F.cls x = 1 ∨ x = 9218868437227405312
    · rw [ST_self hm h]
      have k : (F.cls x = 1) ∨ (F.cls x = 4 ∧ x = 9218868437227405312) := by
        rcases h with h | rfl
        · exact .inl h
        · exact .inr ⟨by decide, rfl⟩
      clear h hx hT hm
      rcases k with k | ⟨k, rfl⟩
      all_goals (
        rw [k] at CX
        clear k
        go_enter Tryd.func24, Tryd.ntmps24
        go_wp2_with (first
          | (go_at_call 49; (with_reducible refine (CM.out).mono ?_); rintro e w1 ⟨rfl, hb⟩; have D := Lib.hid hb; clear hb)
          | (go_at_call 13; (with_reducible refine (CX.out _).mono ?_); rintro e w2 ⟨rfl, rfl⟩)
          | (go_at_call 20; (with_reducible refine (AX.out _).mono ?_); rintro e w2 ⟨rfl, rfl⟩))
        go_ret3
        exact ⟨rfl, D.out⟩)
    · have t1 : (F.cls x == 1) = false := by simp; exact fun k => h (.inl k)
      have t2 : (x == 9218868437227405312) = false := by simp; exact fun k => h (.inr k)
      by_cases h' : F.cls x = 5 ∨ F.sgn x = true
      · rw [ST_nan hm h h']
        have k : (F.cls x == 5) = true ∨ ((F.cls x == 5) = false ∧ (F.abs x != x) = true) := by
          by_cases k : F.cls x = 5
          · exact .inl (by simp [k])
          · refine .inr ⟨by simp [k], ?_⟩
            have := h'.resolve_left k
            rw [F.sgn_iff] at this
            unfold F.abs
            simp
            omega
        clear h h' hx hT hm
        generalize F.cls x = cx at *
        generalize F.abs x = ax at *
        rcases k with k | ⟨k, k2⟩
        all_goals (
          go_enter Tryd.func24, Tryd.ntmps24
          go_wp2_with (first
            | (go_at_call 49; (with_reducible refine (CM.out).mono ?_); rintro e w1 ⟨rfl, hb⟩; have D := Lib.hid hb; clear hb)
            | (go_at_call 13; (with_reducible refine (CX.out _).mono ?_); rintro e w2 ⟨rfl, rfl⟩)
            | (go_at_call 20; (with_reducible refine (AX.out _).mono ?_); rintro e w2 ⟨rfl, rfl⟩))
          go_ret3
          exact ⟨rfl, D.out⟩)
      · obtain ⟨o, X, p, e, L, n, e1, a1, a3, a4, hp, p01, hn, he, x1, x2, hL, l0, l1, key⟩ := sqrt_parts hm hx h h'
        obtain ⟨B, hB⟩ : ∃ B : Nat, B = 400 := ⟨_, rfl⟩
        have k5 : (F.cls x == 5) = false := by simp; exact fun k => h' (.inl k)
        have k6 : (F.abs x != x) = false := by
          have : F.sgn x = false := by cases k : F.sgn x; rfl; exact absurd (.inr k) h'
          rw [F.sgn_iff'] at this
          unfold F.abs
          simp
          omega
        have O1 : Hid (∀ W, Below w.heap.size w W → Calls Tryd.prog 28 #[.int .u64 x] W (RetD W ⟨0, 0, sgm false o, X⟩)) := fun W hW => by rw [← e1]; exact Of_d x hx.1 hx.2 W (hT.below hW)
        have g1 : Hid (∀ (W : World) (b : Bool) (A : Option Addr) (n c : Nat) (x' : Int), GV W b A n c x' ⟨0, sgm false o, X⟩ → false = b ∧ X = x' ∧ PV W (.slice A n c) 0 o) := fun W b A n c x' g => gv_of g a1
        have lB : L < 2 ^ B := Int.lt_trans l1 (pow_le400 hB (by omega))
        have SH : Hid (∀ (W : World) (v : Value), PV W v 0 o → Calls Tryd.prog 51 #[v, .int .i64 (128 + p)] W (RetSh W 0 L false)) := fun W v hv => by rw [hL, ← hn]; exact sh_up hv n (by omega)
        have PL : Hid (∀ (W : World) (v : Value), NV W v L → PV W v 0 L) := fun W v h => pv0 hB h l0 lB
        have RO : Hid (∀ (W : World) (v : Value), PV W v 0 L → Calls Tryd.prog 66 #[v] W (RetRP W 0 L)) := fun W v h => Root_p h
        have FI : Hid (∀ (W : World) (A : Option Addr) (n c : Nat) (R : Int) (b : Bool), NV W (.slice A n c) R → Hid (0 = 0 → R * R ≤ L ∧ L < (R + 1) * (R + 1) ∧ 0 ≤ R ∧ b = decide (R * R ≠ L)) → Below w.heap.size w W → Calls Tryd.prog 53 #[.bool false, .slice A n c, .int .i64 e, .bool b, .int .i64 mode] W (DC.RetB W (.tuple #[.int .u64 (ST x mode).1, .bool (ST x mode).2.1, .int .i64 (ST x mode).2.2]))) := fun W A n c R b hv hR hW => by
          obtain ⟨r1, r2, r0, rfl⟩ := hR.out rfl
          obtain ⟨q0, q1, r, hf, m, t, hD⟩ := key R r0 r1 r2
          have qB := Int.lt_trans q1 (pow_le400 hB (by omega))
          rw [hD]
          exact finishQ_c _ _ A n c R _ mode r hf m W hB hm q0 qB (by omega) t (pv0 hB hv r0 qB) (hT.below hW)
        have BA := i64_and1 X
        rw [hp] at BA
        generalize ST x mode = dt at *
        obtain ⟨d1, d2, d3⟩ := dt
        dsimp only at FI ⊢
        generalize F.cls x = cx at *
        generalize F.abs x = ax at *
        clear hT hx hm h h' e1 hL lB l0 l1 a1 key hp hn
        rcases p01 with rfl | rfl
        all_goals (
          simp only [Int.add_zero, show (128 : Int) + 1 = 129 from rfl] at SH he
          go_enter Tryd.func24, Tryd.ntmps24
          go_wp2_with (first
            | (go_at_call 49; (with_reducible refine (CM.out).mono ?_); rintro e w1 ⟨rfl, hb⟩; have D := Lib.hid hb; clear hb)
            | (go_at_call 13; (with_reducible refine (CX.out _).mono ?_); rintro e w2 ⟨rfl, rfl⟩)
            | (go_at_call 20; (with_reducible refine (AX.out _).mono ?_); rintro e w2 ⟨rfl, rfl⟩)
            | (go_at_call 28; (with_reducible refine (O1.out _ D.out).mono ?_); rintro e w3 ⟨b3, A3, n3, c3, x3, rfl, hv, hb⟩; obtain ⟨rfl, rfl, p1⟩ := g1.out _ _ _ _ _ _ hv; have s := hb.alloc hb.size (.cells #[.bool false, .slice A3 n3 c3, .int .i64 X] 35); have N1 := Blk.new w3 35 #[.bool false, .slice A3 n3 c3, .int .i64 X]; have p1 := p1.below (al1 w3 (.cells #[.bool false, .slice A3 n3 c3, .int .i64 X] 35)); have D := Lib.hid (D.out.trans (s.mono D.out.size)); clear hv hb s; have a0 := N1.at_ 0 rfl; have a1 := N1.at_ 1 rfl; have a2 := N1.at_ 2 rfl)
            | (go_at_call 51; (with_reducible refine (SH.out _ _ p1).mono ?_); rintro e w5 ⟨A5, n5, c5, rfl, nl, hb⟩; have pl := PL.out _ _ nl; have N1 := N1.below hb N1.lt; have D := Lib.hid (D.out.trans (hb.mono D.out.size)); clear hb; have a0 := N1.at_ 0 rfl; have a1 := N1.at_ 1 rfl; have a2 := N1.at_ 2 rfl)
            | (go_at_call 66; (with_reducible refine (RO.out _ _ pl).mono ?_); rintro e w6 ⟨A6, n6, c6, b6, R, rfl, nr, hb, hR, -⟩; have N1 := N1.below hb N1.lt; have D := Lib.hid (D.out.trans (hb.mono D.out.size)); clear hb; have a0 := N1.at_ 0 rfl; have a1 := N1.at_ 1 rfl; have a2 := N1.at_ 2 rfl)
            | (go_at_call 53; (with_reducible refine (FI.out _ _ _ _ _ _ nr hR D.out).mono ?_); rintro e w7 ⟨rfl, hb⟩; have D := Lib.hid (D.out.trans (hb.mono D.out.size)); clear hb))
          go_ret3
          exact ⟨rfl, D.out⟩)
  · rw [if_neg hm] at CM
    rw [ST_no hm]
    clear hT hx hm
    go_enter Tryd.func24, Tryd.ntmps24
    go_wp2_with (first
      | (go_at_call 49; (with_reducible refine (CM.out).mono ?_); rintro e w1 ⟨rfl, hb⟩; have D := Lib.hid hb; clear hb))
    go_ret3
    exact ⟨rfl, D.out⟩
end JC
end Go.Proofs.YtpmjeipdldnnbaaDoor

/-
  Package prod: Mul, Fma.
-/
namespace Go.Proofs.YtpmjeipdldnnbaaDoor
set_option linter.unusedVariables false
set_option linter.unusedSimpArgs false
open Go.RowKit
set_option linter.unusedVariables false
set_option linter.unusedSimpArgs false
namespace PC
open L NC NK DC RC SC
theorem TE_ok {d : Dy} {mode : Int} (hm : 0 ≤ mode ∧ mode ≤ 4) (h : Ok d) : TE d mode = 0 := by
  unfold TE
  rw [if_neg (by simpa using h.1), if_pos hm]
set_option maxRecDepth 100000 in
theorem Mul_c (x y mode : Int) (w : World) (hx : 0 ≤ x ∧ x ≤ 18446744073709551615) (hy : 0 ≤ y ∧ y ≤ 18446744073709551615) (hT : TabD w) :
    Calls Tryd.prog 23 #[.int .u64 x, .int .u64 y, .int .i64 mode] w (DC.RetB w (ATv (MT x y mode))) := by
  have CM := Lib.hid (checkModeP_c mode w hT)
  have BC : Hid (∀ W : World, Calls Tryd.prog 61 #[.int .u64 x, .int .u64 y] W fun e w' => e = .returned (.tuple #[.int .u64 (bc x y).1, .bool (bc x y).2]) ∧ W = w') := fun W => byClass_c x y W hx hy
  unfold ATv
  by_cases hm : 0 ≤ mode ∧ mode ≤ 4
  · rw [if_pos hm] at CM
    cases h : (bc x y).2
    · have n := (bc_no hx hy).1 h
      have p := pd_p n.1 n.2.1 rfl
      have EX : Hid (∀ W, Below w.heap.size w W → Calls Tryd.prog 63 #[.int .u64 x, .int .u64 y] W (RetD W (PD x y))) := fun W hW => exact_c x y W hx hy (hT.below hW)
      have TOc : Hid (∀ (W : World) (v : Value), DV W v (PD x y).d → Below w.heap.size w W → Calls Tryd.prog 32 #[v, .int .i64 mode] W (DC.RetB W (.tuple #[.int .u64 (TX (PD x y).d mode), .bool (TL (PD x y).d mode), .int .i64 0]))) := fun W v hv hW => by
        have := To_d v _ mode W hv (hT.below hW)
        rwa [TE_ok hm p.2.1.ok] at this
      rw [MT_fi hm h]
      rw [h] at BC
      generalize (bc x y).1 = v1 at *
      generalize TX (PD x y).d mode = tx at *
      generalize TL (PD x y).d mode = tl at *
      generalize PD x y = r at *
      obtain ⟨re, d⟩ := r
      clear hT hx hy hm h n p
      go_enter Tryd.func23, Tryd.ntmps23
      go_wp2_with (first
        | (go_at_call 60; (with_reducible refine (CM.out).mono ?_); rintro e w1 ⟨rfl, hb⟩; have D := Lib.hid hb; clear hb)
        | (go_at_call 61; (with_reducible refine (BC.out _).mono ?_); rintro e w2 ⟨rfl, rfl⟩)
        | (go_at_call 63; (with_reducible refine (EX.out _ D.out).mono ?_); rintro e w3 ⟨b3, A3, n3, c3, x3, rfl, hv, hb⟩; have s := hb.alloc hb.size (.cells #[.bool b3, .slice A3 n3 c3, .int .i64 x3] 35); have Xb := BD.new hv.dv; have D := Lib.hid (D.out.trans (s.mono D.out.size)); clear hv hb s; obtain ⟨b_0, b_1, b_2⟩ := Xb.bx)
        | (go_at_call 32; (with_reducible refine (TOc.out _ _ Xb.dv D.out).mono ?_); rintro e w5 ⟨rfl, hb⟩; have D := Lib.hid (D.out.trans (hb.mono D.out.size)); clear hb))
      go_ret3
      exact ⟨rfl, D.out⟩
    · rw [MT_bc hm h]
      rw [h] at BC
      generalize (bc x y).1 = v1 at *
      clear hT hx hy hm h
      go_enter Tryd.func23, Tryd.ntmps23
      go_wp2_with (first
        | (go_at_call 60; (with_reducible refine (CM.out).mono ?_); rintro e w1 ⟨rfl, hb⟩; have D := Lib.hid hb; clear hb)
        | (go_at_call 61; (with_reducible refine (BC.out _).mono ?_); rintro e w2 ⟨rfl, rfl⟩))
      go_ret3
      exact ⟨rfl, D.out⟩
  · rw [if_neg hm] at CM
    rw [MT_no hm]
    clear hT hx hy hm BC
    go_enter Tryd.func23, Tryd.ntmps23
    go_wp2_with (first
      | (go_at_call 60; (with_reducible refine (CM.out).mono ?_); rintro e w1 ⟨rfl, hb⟩; have D := Lib.hid hb; clear hb))
    go_ret3
    exact ⟨rfl, D.out⟩
set_option maxRecDepth 100000 in
set_option maxHeartbeats 4000000 in
theorem Fma_c (x y z mode : Int) (w : World) (hx : 0 ≤ x ∧ x ≤ 18446744073709551615) (hy : 0 ≤ y ∧ y ≤ 18446744073709551615) (hz : 0 ≤ z ∧ z ≤ 18446744073709551615) (hT : TabD w) :
    Calls Tryd.prog 21 #[.int .u64 x, .int .u64 y, .int .u64 z, .int .i64 mode] w (DC.RetB w (ATv (FT x y z mode))) := by
  have CM := Lib.hid (checkModeP_c mode w hT)
  have BC : Hid (∀ W : World, Calls Tryd.prog 61 #[.int .u64 x, .int .u64 y] W fun e w' => e = .returned (.tuple #[.int .u64 (bc x y).1, .bool (bc x y).2]) ∧ W = w') := fun W => byClass_c x y W hx hy
  by_cases hm : 0 ≤ mode ∧ mode ≤ 4
  · rw [if_pos hm] at CM
    cases h : (bc x y).2
    · have n := (bc_no hx hy).1 h
      have OF : Hid (∀ W, Below w.heap.size w W → Calls Tryd.prog 28 #[.int .u64 z] W (RetD W (OfD z))) := fun W hW => Of_d z hz.1 hz.2 W (hT.below hW)
      by_cases hq : F.exq z = 2047
      · rw [FT_nf hm h hq]
        have e1 : OfD z = ⟨4, dz⟩ := by unfold OfD; rw [if_pos hq]
        rw [e1] at OF
        have AD : Hid (∀ W : World, Below w.heap.size w W → Calls Tryd.prog 62 #[.int .u64 0, .int .u64 z, .int .i64 mode] W (DC.RetB W (ATv (AT [0, z] mode)))) := fun W hW => Add_c 0 z mode W (by omega) hz (hT.below hW)
        unfold ATv at AD ⊢
        rw [h] at BC
        generalize (bc x y).1 = v1 at *
        generalize AT [0, z] mode = t at *
        obtain ⟨t1, t2, t3⟩ := t
        clear hT hx hy hz hm h n hq e1
        go_enter Tryd.func21, Tryd.ntmps21
        go_wp2_with (first
          | (go_at_call 60; (with_reducible refine (CM.out).mono ?_); rintro e w1 ⟨rfl, hb⟩; have D := Lib.hid hb; clear hb)
          | (go_at_call 61; (with_reducible refine (BC.out _).mono ?_); rintro e w2 ⟨rfl, rfl⟩)
          | (go_at_call 28; (with_reducible refine (OF.out _ D.out).mono ?_); rintro e w3 ⟨b3, A3, n3, c3, x3, rfl, hv, hb⟩; have s := hb.alloc hb.size (.cells #[.bool b3, .slice A3 n3 c3, .int .i64 x3] 35); have D := Lib.hid (D.out.trans (s.mono D.out.size)); clear hv hb s)
          | (go_at_call 62; (with_reducible refine (AD.out _ D.out).mono ?_); rintro e w5 ⟨rfl, hb⟩; have D := Lib.hid (D.out.trans (hb.mono D.out.size)); clear hb))
        go_ret3
        exact ⟨rfl, D.out⟩
      · have fz : fi z := ⟨hz.1, hz.2, hq⟩
        have e0 := (of_fit fz).1
        have p := pd_p n.1 n.2.1 rfl
        have fp := fd_p n.1 n.2.1 fz
        rw [FT_fi hm h hq]
        have EX : Hid (∀ W, Below w.heap.size w W → Calls Tryd.prog 63 #[.int .u64 x, .int .u64 y] W (RetD W (PD x y))) := fun W hW => exact_c x y W hx hy (hT.below hW)
        have AD : Hid (∀ (W : World) (u v : Value), DV W u (PD x y).d → DV W v (OfD z).d → Below w.heap.size w W → ∃ re, Calls Tryd.prog 64 #[u, v] W (RetD W ⟨re, fd x y z⟩)) := fun W u v h1 h2 hW => ⟨(DC.Add (PD x y).d (OfD z).d).e, Add_d u v _ _ W h1 h2 (hT.below hW)⟩
        have TOc : Hid (∀ (W : World) (v : Value), DV W v (fd x y z) → Below w.heap.size w W → Calls Tryd.prog 32 #[v, .int .i64 mode] W (DC.RetB W (.tuple #[.int .u64 (TX (fd x y z) mode), .bool (TL (fd x y z) mode), .int .i64 0]))) := fun W v hv hW => by
          have := To_d v _ mode W hv (hT.below hW)
          rwa [TE_ok hm fp.1.ok] at this
        have gz : Hid (∀ (W : World) (b : Bool) (A : Option Addr) (n c : Nat) (x' : Int), GV W b A n c x' (fd x y z) → (n = 0 ↔ (fd x y z).m = 0)) := fun W b A n c x h => gv_zero h
        rw [h] at BC
        unfold ATv
        generalize (bc x y).1 = v1 at *
        generalize TX (fd x y z) mode = tx at *
        generalize TL (fd x y z) mode = tl at *
        generalize fd x y z = df at *
        generalize PD x y = r at *
        obtain ⟨re, d⟩ := r
        have ez : OfD z = ⟨0, (OfD z).d⟩ := by rw [← e0]
        rw [ez] at OF
        dsimp only at OF AD
        generalize (OfD z).d = dzz at OF AD
        clear hT hx hy hz hm h n hq fz p fp e0 ez
        have key : ∀ t : Int × Bool × Int, (t = if df.m = 0 ∧ mode = 2 then (9223372036854775808, false, 0) else (tx, tl, 0)) → Calls Tryd.prog 21 #[.int .u64 x, .int .u64 y, .int .u64 z, .int .i64 mode] w (DC.RetB w (.tuple #[.int .u64 t.1, .bool t.2.1, .int .i64 t.2.2])) := by
          rintro t ht
          by_cases h0 : df.m = 0
          · have gz2 : Hid (∀ (W : World) (b : Bool) (A : Option Addr) (n c : Nat) (x : Int), GV W b A n c x df → n = 0) := fun W b A n c x h => (gz.out W b A n c x h).2 h0
            by_cases h2 : mode = 2
            · rw [if_pos ⟨h0, h2⟩] at ht
              subst ht
              subst h2
              clear gz TOc h0
              go_enter Tryd.func21, Tryd.ntmps21
              go_wp2_with (first
                | (go_at_call 60; (with_reducible refine (CM.out).mono ?_); rintro e w1 ⟨rfl, hb⟩; have D := Lib.hid hb; clear hb)
                | (go_at_call 61; (with_reducible refine (BC.out _).mono ?_); rintro e w2 ⟨rfl, rfl⟩)
                | (go_at_call 28; (with_reducible refine (OF.out _ D.out).mono ?_); rintro e w3 ⟨b3, A3, n3, c3, x3, rfl, hv, hb⟩; have s := hb.alloc hb.size (.cells #[.bool b3, .slice A3 n3 c3, .int .i64 x3] 35); have X1 := BD.new hv.dv; have D := Lib.hid (D.out.trans (s.mono D.out.size)); clear hv hb s)
                | (go_at_call 63; (with_reducible refine (EX.out _ D.out).mono ?_); rintro e w4 ⟨b4, A4, n4, c4, x4, rfl, hv, hb⟩; have s := hb.alloc hb.size (.cells #[.bool b4, .slice A4 n4 c4, .int .i64 x4] 35); have X2 := BD.new hv.dv; have X1 := X1.below s; have D := Lib.hid (D.out.trans (s.mono D.out.size)); clear hv hb s; obtain ⟨a_0, a_1, a_2⟩ := X1.bx; obtain ⟨b_0, b_1, b_2⟩ := X2.bx)
                | (go_at_call 64; obtain ⟨re5, had⟩ := AD.out _ _ _ X2.dv X1.dv D.out; (with_reducible refine had.mono ?_); clear had; rintro e w5 ⟨b5, A5, n5, c5, x5, rfl, hv, hb⟩; obtain rfl := gz2.out _ _ _ _ _ _ hv; have s := hb.alloc hb.size (.cells #[.bool b5, .slice A5 0 c5, .int .i64 x5] 35); have X3 := BD.new hv.dv; have D := Lib.hid (D.out.trans (s.mono D.out.size)); clear hv hb s; obtain ⟨c_0, c_1, c_2⟩ := X3.bx))
              go_ret3
              exact ⟨rfl, D.out⟩
            · rw [if_neg (fun k => h2 k.2)] at ht
              subst ht
              have t2 : (mode == 2) = false := by simp [h2]
              clear gz h0 h2
              go_enter Tryd.func21, Tryd.ntmps21
              go_wp2_with (first
                | (go_at_call 60; (with_reducible refine (CM.out).mono ?_); rintro e w1 ⟨rfl, hb⟩; have D := Lib.hid hb; clear hb)
                | (go_at_call 61; (with_reducible refine (BC.out _).mono ?_); rintro e w2 ⟨rfl, rfl⟩)
                | (go_at_call 28; (with_reducible refine (OF.out _ D.out).mono ?_); rintro e w3 ⟨b3, A3, n3, c3, x3, rfl, hv, hb⟩; have s := hb.alloc hb.size (.cells #[.bool b3, .slice A3 n3 c3, .int .i64 x3] 35); have X1 := BD.new hv.dv; have D := Lib.hid (D.out.trans (s.mono D.out.size)); clear hv hb s)
                | (go_at_call 63; (with_reducible refine (EX.out _ D.out).mono ?_); rintro e w4 ⟨b4, A4, n4, c4, x4, rfl, hv, hb⟩; have s := hb.alloc hb.size (.cells #[.bool b4, .slice A4 n4 c4, .int .i64 x4] 35); have X2 := BD.new hv.dv; have X1 := X1.below s; have D := Lib.hid (D.out.trans (s.mono D.out.size)); clear hv hb s; obtain ⟨a_0, a_1, a_2⟩ := X1.bx; obtain ⟨b_0, b_1, b_2⟩ := X2.bx)
                | (go_at_call 64; obtain ⟨re5, had⟩ := AD.out _ _ _ X2.dv X1.dv D.out; (with_reducible refine had.mono ?_); clear had; rintro e w5 ⟨b5, A5, n5, c5, x5, rfl, hv, hb⟩; obtain rfl := gz2.out _ _ _ _ _ _ hv; have s := hb.alloc hb.size (.cells #[.bool b5, .slice A5 0 c5, .int .i64 x5] 35); have X3 := BD.new hv.dv; have D := Lib.hid (D.out.trans (s.mono D.out.size)); clear hv hb s; obtain ⟨c_0, c_1, c_2⟩ := X3.bx)
                | (go_at_call 32; (with_reducible refine (TOc.out _ _ X3.dv D.out).mono ?_); rintro e w6 ⟨rfl, hb⟩; have D := Lib.hid (D.out.trans (hb.mono D.out.size)); clear hb))
              go_ret3
              exact ⟨rfl, D.out⟩
          · rw [if_neg (fun k => h0 k.1)] at ht
            subst ht
            have gz2 : Hid (∀ (W : World) (b : Bool) (A : Option Addr) (n c : Nat) (x : Int), GV W b A n c x df → n ≠ 0) := fun W b A n c x h h1 => h0 ((gz.out W b A n c x h).1 h1)
            clear gz h0
            go_enter Tryd.func21, Tryd.ntmps21
            go_wp2_with (first
              | (go_at_call 60; (with_reducible refine (CM.out).mono ?_); rintro e w1 ⟨rfl, hb⟩; have D := Lib.hid hb; clear hb)
              | (go_at_call 61; (with_reducible refine (BC.out _).mono ?_); rintro e w2 ⟨rfl, rfl⟩)
              | (go_at_call 28; (with_reducible refine (OF.out _ D.out).mono ?_); rintro e w3 ⟨b3, A3, n3, c3, x3, rfl, hv, hb⟩; have s := hb.alloc hb.size (.cells #[.bool b3, .slice A3 n3 c3, .int .i64 x3] 35); have X1 := BD.new hv.dv; have D := Lib.hid (D.out.trans (s.mono D.out.size)); clear hv hb s)
              | (go_at_call 63; (with_reducible refine (EX.out _ D.out).mono ?_); rintro e w4 ⟨b4, A4, n4, c4, x4, rfl, hv, hb⟩; have s := hb.alloc hb.size (.cells #[.bool b4, .slice A4 n4 c4, .int .i64 x4] 35); have X2 := BD.new hv.dv; have X1 := X1.below s; have D := Lib.hid (D.out.trans (s.mono D.out.size)); clear hv hb s; obtain ⟨a_0, a_1, a_2⟩ := X1.bx; obtain ⟨b_0, b_1, b_2⟩ := X2.bx)
              | (go_at_call 64; obtain ⟨re5, had⟩ := AD.out _ _ _ X2.dv X1.dv D.out; (with_reducible refine had.mono ?_); clear had; rintro e w5 ⟨b5, A5, n5, c5, x5, rfl, hv, hb⟩; have hn5 := gz2.out _ _ _ _ _ _ hv; have hd5 : ((n5 : Int) == 0) = false := (by simpa using hn5); have s := hb.alloc hb.size (.cells #[.bool b5, .slice A5 n5 c5, .int .i64 x5] 35); have X3 := BD.new hv.dv; have D := Lib.hid (D.out.trans (s.mono D.out.size)); clear hv hb s; obtain ⟨c_0, c_1, c_2⟩ := X3.bx)
              | (go_at_call 32; (with_reducible refine (TOc.out _ _ X3.dv D.out).mono ?_); rintro e w6 ⟨rfl, hb⟩; have D := Lib.hid (D.out.trans (hb.mono D.out.size)); clear hb))
            go_ret3
            exact ⟨rfl, D.out⟩
        exact key _ rfl
    · rw [FT_bc hm h]
      have bb := bc_bd x y
      rw [h] at BC
      generalize (bc x y).1 = v1 at *
      have AD : Hid (∀ W : World, Below w.heap.size w W → Calls Tryd.prog 62 #[.int .u64 v1, .int .u64 z, .int .i64 mode] W (DC.RetB W (ATv (AT [v1, z] mode)))) := fun W hW => Add_c v1 z mode W bb hz (hT.below hW)
      unfold ATv at AD ⊢
      generalize AT [v1, z] mode = t at *
      obtain ⟨t1, t2, t3⟩ := t
      clear hT hx hy hz hm h bb
      go_enter Tryd.func21, Tryd.ntmps21
      go_wp2_with (first
        | (go_at_call 60; (with_reducible refine (CM.out).mono ?_); rintro e w1 ⟨rfl, hb⟩; have D := Lib.hid hb; clear hb)
        | (go_at_call 61; (with_reducible refine (BC.out _).mono ?_); rintro e w2 ⟨rfl, rfl⟩)
        | (go_at_call 62; (with_reducible refine (AD.out _ D.out).mono ?_); rintro e w5 ⟨rfl, hb⟩; have D := Lib.hid (D.out.trans (hb.mono D.out.size)); clear hb))
      go_ret3
      exact ⟨rfl, D.out⟩
  · rw [if_neg hm] at CM
    rw [FT_no hm]
    unfold ATv
    clear hT hx hy hz hm BC
    go_enter Tryd.func21, Tryd.ntmps21
    go_wp2_with (first
      | (go_at_call 60; (with_reducible refine (CM.out).mono ?_); rintro e w1 ⟨rfl, hb⟩; have D := Lib.hid hb; clear hb))
    go_ret3
    exact ⟨rfl, D.out⟩
end PC
end Go.Proofs.YtpmjeipdldnnbaaDoor

/-
  Package prod: twice three, and one.
-/
namespace Go.Proofs.YtpmjeipdldnnbaaDoor
set_option linter.unusedVariables false
set_option linter.unusedSimpArgs false
open Go.RowKit
set_option linter.unusedVariables false
set_option linter.unusedSimpArgs false
namespace PC
open L NC NK DC RC SC
theorem val_u {e f w u : Int} (he : 1 ≤ e ∧ e ≤ 2046) (hf : 0 ≤ f ∧ f ≤ 4503599627370495) (hw : w = F.mk false e f) {k : Nat} (hu : -60000 ≤ u) (hk : e - 1075 = u + k) : fi w ∧ val w = (4503599627370496 + f) * 2 ^ k * sc 1 u := by
  have h := mk_val he hf hw
  refine ⟨h.1, ?_⟩
  rw [h.2, hk]
  unfold sgm
  rw [← sc_mul1, sc_shift _ _ _ hu]
  simp
/-- twice three is six; and one is seven -/
theorem six {T H Sx Sv O : Int} (hT : T = 4611686018427387904) (hH : H = 4613937818241073152) (h6 : Sx = 4618441417868443648) (h7 : Sv = 4619567317775286272) (hO : O = 4607182418800017408) :
    MT T H 0 = (Sx, false, 0) ∧ FT T H O 0 = (Sv, false, 0) := by
  obtain ⟨K, hK⟩ : ∃ K : Nat, K = 60000 := ⟨_, rfl⟩
  obtain ⟨u, hu⟩ : ∃ u : Int, u = -52 := ⟨_, rfl⟩
  have vT := val_u (e := 1024) (f := 0) (w := T) (u := u) (k := 1) (by omega) (by omega) (by rw [hT]; decide) (by omega) (by omega)
  have vH := val_u (e := 1024) (f := 2251799813685248) (w := H) (u := u) (k := 1) (by omega) (by omega) (by rw [hH]; decide) (by omega) (by omega)
  have v6 := val_u (e := 1025) (f := 2251799813685248) (w := Sx) (u := u) (k := 2) (by omega) (by omega) (by rw [h6]; decide) (by omega) (by omega)
  have v7 := val_u (e := 1025) (f := 3377699720527872) (w := Sv) (u := u) (k := 2) (by omega) (by omega) (by rw [h7]; decide) (by omega) (by omega)
  have vO := val_u (e := 1023) (f := 0) (w := O) (u := u) (k := 0) (by omega) (by omega) (by rw [hO]; decide) (by omega) (by omega)
  have o := one_val hO hK
  have hE := sc_one_pos u
  rw [vO.2] at o
  rw [show (2 : Int) ^ 1 = 2 by decide] at vT vH
  rw [show (2 : Int) ^ 2 = 4 by decide] at v6 v7
  rw [show (2 : Int) ^ 0 = 1 by decide] at o
  have eO : val O = 4503599627370496 * sc 1 u := by rw [vO.2]; simp
  have e0 := o.2.1
  generalize sc 1 u = E at *
  have p := pd_p vT.1 vH.1 hK
  have eS : S (PD T H).d = val Sx := by
    apply K_inj (K := K)
    rw [p.2.2, vT.2, vH.2, v6.2, ← e0]
    generalize (2 : Int) ^ K = P at *
    grind
  have b6 := of_fit v6.1
  have ed : (PD T H).d = (OfD Sx).d := S_inj p.2.1.ok b6.2.ok eS
  have nb : (bc T H).2 = false := by
    rw [bc_no ⟨vT.1.1, vT.1.2.1⟩ ⟨vH.1.1, vH.1.2.1⟩]
    refine ⟨vT.1, vH.1, ?_, ?_⟩
    · rw [vT.2]; omega
    · rw [vH.2]; omega
  have s6 := same_p v6.1.1 v6.1.2.1 v6.1.2.2 (mode := 0) (by omega)
  have s7 := same_p v7.1.1 v7.1.2.1 v7.1.2.2 (mode := 0) (by omega)
  constructor
  · rw [MT_fi (by omega) nb, ed, s6.2.1]
    rcases s6.2.2 with h1 | ⟨-, h, -⟩
    · rw [eq_of_beq h1]
    · omega
  · have fo : fi O := o.1
    rw [FT_fi (by omega) nb fo.2.2, if_neg (fun h => by have := h.2; omega)]
    have f := fd_p vT.1 vH.1 fo
    have b7 := of_fit v7.1
    have ef : fd T H O = (OfD Sv).d := S_inj f.1.ok b7.2.ok (by
      rw [f.2, eS, v6.2, eO]
      show _ = val Sv
      rw [v7.2]
      omega)
    rw [ef, s7.2.1]
    rcases s7.2.2 with h1 | ⟨-, h, -⟩
    · rw [eq_of_beq h1]
    · omega
end PC
end Go.Proofs.YtpmjeipdldnnbaaDoor

/-
  Package quot: one by three, the root of two, what is left of two by three.
-/
namespace Go.Proofs.YtpmjeipdldnnbaaDoor
set_option linter.unusedVariables false
set_option linter.unusedSimpArgs false
open Go.RowKit
set_option linter.unusedVariables false
set_option linter.unusedSimpArgs false
namespace JC
open L NC NK DC RC SC PC
theorem three_ab {H : Int} (hH : H = 4613937818241073152) : fi H ∧ F.sgn H = false ∧ F.cls H = 3 ∧ ab H = 3 * 2 ^ KN := by
  obtain ⟨u, hu⟩ : ∃ u : Int, u = -51 := ⟨_, rfl⟩
  have v := val_u (e := 1024) (f := 2251799813685248) (w := H) (u := u) (k := 0) (by omega) (by omega) (by rw [hH]; decide) (by omega) (by omega)
  have hs : F.sgn H = false := F.sgn_f (by omega)
  refine ⟨v.1, hs, by rw [hH]; decide, ?_⟩
  have a := val_ab v.1
  rw [hs] at a
  have a' : ab H = val H := a.symm
  have p : sc 1 0 = 2251799813685248 * sc 1 u := by
    have := sc_two 51 u (by omega)
    rw [show u + ((51 : Nat) : Int) = 0 by omega, sc_mul1 (2 ^ 51)] at this
    exact this.symm
  rw [a', v.2, ← P_sc, p]
  omega
theorem two_ab {T : Int} (hT : T = 4611686018427387904) : fi T ∧ F.sgn T = false ∧ F.cls T = 3 ∧ ab T = 2 * 2 ^ KN := by
  obtain ⟨u, hu⟩ : ∃ u : Int, u = -51 := ⟨_, rfl⟩
  have v := val_u (e := 1024) (f := 0) (w := T) (u := u) (k := 0) (by omega) (by omega) (by rw [hT]; decide) (by omega) (by omega)
  have hs : F.sgn T = false := F.sgn_f (by omega)
  refine ⟨v.1, hs, by rw [hT]; decide, ?_⟩
  have a := val_ab v.1
  rw [hs] at a
  have a' : ab T = val T := a.symm
  have p : sc 1 0 = 2251799813685248 * sc 1 u := by
    have := sc_two 51 u (by omega)
    rw [show u + ((51 : Nat) : Int) = 0 by omega, sc_mul1 (2 ^ 51)] at this
    exact this.symm
  rw [a', v.2, ← P_sc, p]
  omega
theorem third {O H : Int} (hO : O = 4607182418800017408) (hH : H = 4613937818241073152) : DT O H 0 = (4599676419421066581, true, 0) := by
  have o := one_val (O := O) hO (K := KN) KN_eq
  have h := three_ab hH
  have e : (qc O H).2 = false := by
    unfold qc
    rw [o.2.2.2, h.2.2.1, if_neg (by omega), if_neg (by omega), if_neg (by omega), if_neg (by omega)]
  have eO : ab O = 2 ^ KN := by rw [hO]; exact ab_one
  rw [DT_fi (by omega) e, o.2.2.1, h.2.1, eO, h.2.2.2]
  have hp := PK_pos
  obtain ⟨u, hu⟩ : ∃ u : Int, u = -54 := ⟨_, rfl⟩
  have p : (2 : Int) ^ KN = 18014398509481984 * sc 1 u := by
    have := sc_two 54 u (by omega)
    rw [show u + ((54 : Nat) : Int) = 0 by omega, sc_mul1 (2 ^ 54), P_sc] at this
    exact this.symm
  obtain ⟨r, hr⟩ : ∃ r : Int, r = 4599676419421066581 := ⟨_, rfl⟩
  have g := U_of (k := 1020) (q := 6004799503160661) (by omega) (by omega) (by omega)
  rw [show ((1020 : Nat) : Int) - 1074 = u by omega, show ((1020 : Nat) : Int) * 4503599627370496 + 6004799503160661 = r by omega] at g
  have hE := sc_one_pos u
  have hq : ∀ t, (qle (2 ^ KN * 2 ^ KN) (3 * 2 ^ KN) t ↔ 3 * t ≤ 36028797018963968 * sc 1 u) ∧ (qlt (2 ^ KN * 2 ^ KN) (3 * 2 ^ KN) t ↔ 3 * t < 36028797018963968 * sc 1 u) := fun t => by
    unfold qle qlt
    have e1 : t * (3 * 2 ^ KN) = (3 * t) * 2 ^ KN := by grind
    have e2 : 2 * ((2 : Int) ^ KN * 2 ^ KN) = (36028797018963968 * sc 1 u) * 2 ^ KN := by
      rw [show (36028797018963968 : Int) * sc 1 u = 2 * 2 ^ KN by rw [p]; omega, Int.mul_assoc]
    rw [e1, e2]
    exact ⟨Int.mul_le_mul_right hp, Int.mul_lt_mul_right hp⟩
  have t : Tog (qle (2 ^ KN * 2 ^ KN) (3 * 2 ^ KN)) (qlt (2 ^ KN * 2 ^ KN) (3 * 2 ^ KN)) r false true := by
    refine ⟨by omega, by omega, ?_, fun _ => ?_, ?_, ?_⟩
    · rw [(hq _).1, g.1]; generalize sc 1 u = E at *; omega
    · rw [(hq _).1, g.2]; generalize sc 1 u = E at *; omega
    · rw [(hq _).1, g.1, g.2]; generalize sc 1 u = E at *; simp; omega
    · rw [(hq _).1, (hq _).2, (hq _).2, g.1, g.2]; generalize sc 1 u = E at *; simp; omega
  rw [RT_of (qcut (by omega)) t, hr]
  rfl
theorem root2 {T : Int} (hT : T = 4611686018427387904) : ST T 0 = (4609047870845172685, true, 0) := by
  have h := two_ab hT
  rw [ST_fi (by omega) (by rw [h.2.2.1]; omega) (by rw [h.2.1, h.2.2.1]; simp), h.2.2.2]
  have hp := PK_pos
  obtain ⟨u, hu⟩ : ∃ u : Int, u = -52 := ⟨_, rfl⟩
  have p : (2 : Int) ^ KN = 4503599627370496 * sc 1 u := by
    have := sc_two 52 u (by omega)
    rw [show u + ((52 : Nat) : Int) = 0 by omega, sc_mul1 (2 ^ 52), P_sc] at this
    exact this.symm
  obtain ⟨r, hr⟩ : ∃ r : Int, r = 4609047870845172684 := ⟨_, rfl⟩
  have g := U_of (k := 1022) (q := 6369051672525772) (by omega) (by omega) (by omega)
  rw [show ((1022 : Nat) : Int) - 1074 = u by omega, show ((1022 : Nat) : Int) * 4503599627370496 + 6369051672525772 = r by omega] at g
  have hE := sc_one_pos u
  obtain ⟨E, hEe⟩ : ∃ E, sc 1 u = E := ⟨_, rfl⟩
  rw [hEe] at p g hE
  have hEE := Int.mul_pos hE hE
  obtain ⟨N, hN⟩ : ∃ N, 2 * (2 : Int) ^ KN * 2 ^ KN = N := ⟨_, rfl⟩
  rw [hN]
  have e2 : 4 * N = 162259276829213363391578010288128 * (E * E) := by rw [← hN, p]; grind
  have hq : ∀ c : Int, 0 < c → (rle N (c * E) ↔ c * c ≤ 162259276829213363391578010288128) ∧ (rlt N (c * E) ↔ c * c < 162259276829213363391578010288128) := fun c hc => by
    have e1 : c * E * (c * E) = (c * c) * (E * E) := by grind
    have hn : ¬ c * E ≤ 0 := by have := Int.mul_pos hc hE; omega
    unfold rle rlt
    rw [e1, e2]
    have a := Int.mul_le_mul_right (a := E * E) (b := c * c) (c := 162259276829213363391578010288128) hEE
    have b := Int.mul_lt_mul_right (a := E * E) (b := c * c) (c := 162259276829213363391578010288128) hEE
    exact ⟨⟨fun k => a.1 (k.resolve_left hn), fun k => .inr (a.2 k)⟩, ⟨fun k => b.1 (k.resolve_left hn), fun k => .inr (b.2 k)⟩⟩
  have s1 : 2 * U r = 12738103345051544 * E := by rw [g.1]; omega
  have s2 : 2 * U (r + 1) = 12738103345051546 * E := by rw [g.2]; omega
  have s3 : U r + U (r + 1) = 12738103345051545 * E := by rw [g.1, g.2]; omega
  have t : Tog (rle N) (rlt N) r true true := by
    refine ⟨by omega, by omega, ?_, fun _ => ?_, ?_, ?_⟩
    · rw [s1, (hq _ (by omega)).1]; decide
    · rw [s2, (hq _ (by omega)).1]; decide
    · rw [s3, (hq _ (by omega)).1]; simp
    · rw [s1, s3, (hq _ (by omega)).2, (hq _ (by omega)).1, (hq _ (by omega)).2]; simp
  rw [RT_of (rcut N) t, hr]
  rfl
theorem left23 {T H : Int} (hT : T = 4611686018427387904) (hH : H = 4613937818241073152) : RM T H = 13830554455654793216 := by
  have h := two_ab hT
  have k := three_ab hH
  have s := ov_scale (a := 2) (b := 3) PK_pos
  have hp := PK_pos
  unfold RM
  rw [h.2.2.1, k.2.2.1, if_neg (by omega), if_neg (by omega), h.2.2.2, k.2.2.2, s.2, s.1, h.2.1, show rs 2 3 = 1 by decide, show ov 2 3 = true by decide, Int.one_mul, if_neg (by omega)]
  have o := one_val (O := 4607182418800017408) rfl (K := KN) KN_eq
  have e : U (4607182418800017408 % 9223372036854775808) = 2 ^ KN := ab_one
  have t := tow_exact (r := 4607182418800017408 % 9223372036854775808) (by omega) (by omega)
  rw [e] at t
  rw [tow_eq t]
  decide
set_option maxRecDepth 100000 in
theorem livesJ_c (w : World) (hT : TabD w) : Calls Tryd.prog 12 #[] w fun e w' => e = .returned (.bool true) ∧ Below w.heap.size w w' := by
  have A1 := Lib.hid (Div_c 4607182418800017408 4613937818241073152 0 w (by omega) (by omega) hT)
  have A2 : Hid (∀ W, Below w.heap.size w W → Calls Tryd.prog 24 #[.int .u64 4611686018427387904, .int .i64 0] W (DC.RetB W (ATv (ST 4611686018427387904 0)))) := fun W hW => Sqrt_c _ 0 W (by omega) (hT.below hW)
  have A3 : Hid (∀ W, Below w.heap.size w W → Calls Tryd.prog 9 #[.int .u64 4611686018427387904, .int .u64 4613937818241073152] W (DC.RetB W (.int .u64 (RM 4611686018427387904 4613937818241073152)))) := fun W hW => Rem_c _ _ W (by omega) (by omega) (hT.below hW)
  rw [third rfl rfl] at A1
  rw [root2 rfl] at A2
  rw [left23 rfl rfl] at A3
  unfold ATv at A1 A2
  clear hT
  go_enter Tryd.func12, Tryd.ntmps12
  go_wp2_with (first
    | (go_at_call 11; (with_reducible refine (A1.out).mono ?_); rintro e w1 ⟨rfl, hb⟩; have D := Lib.hid hb; clear hb)
    | (go_at_call 24; (with_reducible refine (A2.out _ D.out).mono ?_); rintro e w2 ⟨rfl, hb⟩; have D := Lib.hid (D.out.trans (hb.mono D.out.size)); clear hb)
    | (go_at_call 15; (with_reducible refine (ok2' w2 0 0 true rfl).mono ?_); rintro e wo ⟨rfl, hw⟩; have s := al1 w2 (.cells #[.int .i64 0, .int .i64 0] 25); rw [hw] at s; clear hw; have D := Lib.hid (D.out.trans (s.mono D.out.size)); clear s)
    | (go_at_call 9; (with_reducible refine (A3.out _ D.out).mono ?_); rintro e w3 ⟨rfl, hb⟩; have D := Lib.hid (D.out.trans (hb.mono D.out.size)); clear hb))
  go_ret
  exact ⟨rfl, D.out⟩
end JC
end Go.Proofs.YtpmjeipdldnnbaaDoor

/-
  Package quot, pure: roots of squares, in order; no middles.
-/
namespace Go.Proofs.YtpmjeipdldnnbaaDoor
set_option linter.unusedVariables false
set_option linter.unusedSimpArgs false
open Go.RowKit
set_option linter.unusedVariables false
set_option linter.unusedSimpArgs false
namespace JC
open L NC NK DC RC SC PC
theorem tog_ex {le lt : Int → Prop} (C : Cut le lt) (h0 : le 0) : ∃ r h m, Tog le lt r h m := by
  have key : ∀ n : Nat, (n : Int) ≤ 9218868437227405311 → ∃ r : Int, 0 ≤ r ∧ r ≤ n ∧ le (2 * U r) ∧ (r < n → ¬ le (2 * U (r + 1))) := by
    intro n
    induction n with
    | zero => intro _; exact ⟨0, by omega, by omega, by rw [U_zero]; exact h0, fun h => by omega⟩
    | succ n ih =>
      intro hn
      obtain ⟨r, r0, r1, r2, r3⟩ := ih (by omega)
      by_cases h : le (2 * U ((n : Int) + 1))
      · exact ⟨(n : Int) + 1, by omega, by omega, h, fun k => by omega⟩
      · refine ⟨r, r0, by omega, r2, fun k => ?_⟩
        rcases Int.lt_or_eq_of_le r1 with k | rfl
        · exact r3 k
        · exact h
  obtain ⟨r, r0, r1, r2, r3⟩ := key (9218868437227405311 : Int).toNat (by omega)
  have e : (((9218868437227405311 : Int).toNat : Nat) : Int) = 9218868437227405311 := rfl
  rw [e] at r1 r3
  refine ⟨r, @decide (le (U r + U (r + 1))) (Classical.propDecidable _), @decide (lt (2 * U r) ∧ (le (U r + U (r + 1)) → lt (U r + U (r + 1)))) (Classical.propDecidable _), r0, r1, r2, r3, ?_, ?_⟩
  · exact @decide_eq_true_iff _ (Classical.propDecidable _)
  · exact @decide_eq_true_iff _ (Classical.propDecidable _)
theorem rle0 (n : Int) : rle n 0 := .inl (by omega)
theorem square_p {x mode : Int} (hm : 0 ≤ mode ∧ mode ≤ 4) (hx : 0 ≤ x ∧ x ≤ 18446744073709551615) (hc : F.cls x < 4) (hl : (MT x x mode).2.1 = false) (h3 : F.cls (MT x x mode).1 = 3) : ST (MT x x mode).1 mode = (F.abs x, false, 0) := by
  have fx := (fi_cls hx).2 (by omega)
  have hb : (bc x x).2 = false := by
    cases k : (bc x x).2
    · rfl
    · exfalso
      rw [MT_bc hm k] at h3
      have c := F.cls_bd x
      unfold bc at h3 k
      by_cases h : F.cls x = 1
      · rw [if_neg (by omega), if_neg (by omega), if_pos (by omega)] at h3
        rcases sp2 x x with h' | h' <;> rw [h'] at h3 <;> revert h3 <;> decide
      · rw [if_neg (by omega), if_neg (by omega), if_neg (by omega)] at k
        cases k
  rw [MT_fi hm hb] at hl h3 ⊢
  dsimp only at hl h3 ⊢
  have p := pd_p fx fx KN_eq
  obtain ⟨fp, vp⟩ := (exact_iff hm p.2.1.ok).1 hl
  generalize TX (PD x x).d mode = P at *
  rw [← vp] at p
  have v := val_ab fx
  have vv : val P * 2 ^ KN = ab x * ab x := by
    rw [p.2.2, v]
    unfold sgm
    split
    · rw [Int.neg_mul_neg]
    · rfl
  have hp := PK_pos
  have hPr : 0 ≤ val P := by
    rcases Int.lt_or_le (val P) 0 with k | k
    · exfalso
      have := Int.mul_neg_of_neg_of_pos k hp
      have := Int.mul_nonneg (ab_nn x) (ab_nn x)
      omega
    · exact k
  have nz : val P ≠ 0 := fun k => by have := (val0 fp).1 k; omega
  have w := val_ab fp
  have aP := ab_pos fp nz
  have hs : F.sgn P = false := by
    cases k : F.sgn P
    · rfl
    · rw [k] at w
      unfold sgm at w
      simp at w
      omega
  rw [hs] at w
  have w' : ab P = val P := w.symm
  rw [ST_fi hm (by have := fp.2.2; rw [h3]; rintro (h | rfl); omega; exact absurd this (by decide)) (by rw [h3, hs]; simp)]
  rw [w', vv, RT_exact (rcut _) fx]
  · rfl
  · right
    have e : 2 * ab x * (2 * ab x) = 4 * (ab x * ab x) := by grind
    rw [e]; exact Int.le_refl _
  · rintro (h | h)
    · have a0 := ab_nn x
      have : ab x = 0 := by omega
      rw [this] at vv
      have := Int.mul_pos (show 0 < val P by omega) hp
      omega
    · have e : 2 * ab x * (2 * ab x) = 4 * (ab x * ab x) := by grind
      rw [e] at h
      omega
theorem ST_bd {x : Int} (mode : Int) (hx : 0 ≤ x ∧ x ≤ 18446744073709551615) : 0 ≤ (ST x mode).1 ∧ (ST x mode).1 ≤ 18446744073709551615 := by
  by_cases hm : 0 ≤ mode ∧ mode ≤ 4
  · by_cases h : F.cls x = 1 ∨ x = 9218868437227405312
    · rw [ST_self hm h]; exact hx
    · by_cases h' : F.cls x = 5 ∨ F.sgn x = true
      · rw [ST_nan hm h h']; exact ⟨by simp, by simp⟩
      · rw [ST_fi hm h h']
        obtain ⟨r, hf, m, t⟩ := tog_ex (rcut (ab x * 2 ^ KN)) (rle0 _)
        have := RT_cls (b := false) (mode := mode) (rcut _) t
        exact ⟨this.1, this.2.1⟩
  · rw [ST_no hm]; exact ⟨by simp, by simp⟩
theorem ST_e {x mode : Int} (hm : 0 ≤ mode ∧ mode ≤ 4) : (ST x mode).2.2 = 0 := by
  by_cases h : F.cls x = 1 ∨ x = 9218868437227405312
  · rw [ST_self hm h]
  · by_cases h' : F.cls x = 5 ∨ F.sgn x = true
    · rw [ST_nan hm h h']
    · rw [ST_fi hm h h']; rfl
theorem root_same {x : Int} (hx : 0 ≤ x ∧ x ≤ 18446744073709551615) : (ST x 0).1 = (ST x 4).1 := by
  by_cases h : F.cls x = 1 ∨ x = 9218868437227405312
  · rw [ST_self (by omega) h, ST_self (by omega) h]
  · by_cases h' : F.cls x = 5 ∨ F.sgn x = true
    · rw [ST_nan (by omega) h h', ST_nan (by omega) h h']
    · rw [ST_fi (by omega) h h', ST_fi (by omega) h h']
      obtain ⟨fx, vx, hs⟩ := st_fi hx h h'
      obtain ⟨r, hf, m, t⟩ := tog_ex (rcut (ab x * 2 ^ KN)) (rle0 _)
      rw [RT_of (rcut _) t, RT_of (rcut _) t]
      dsimp only
      rw [near_away (rcut _) t]
      rintro (l | l)
      · exact .inl l
      · have := root_mid fx vx t.r0 t.r1
        right; omega
theorem rx_f (y : Int) : rx false y = y := rfl
theorem rnk_rx {z : Int} (h0 : 0 ≤ z) (h1 : z ≤ 9218868437227405312) : F.rnk (rx false z) = z := by
  rw [rx_f]
  unfold F.rnk
  rw [if_pos (by omega)]
theorem order_root {x y mode : Int} (hm : 0 ≤ mode ∧ mode ≤ 4) (hx : 0 ≤ x ∧ x ≤ 18446744073709551615) (hy : 0 ≤ y ∧ y ≤ 18446744073709551615) (nx : F.nn x) (ny : F.nn y) (h : F.rnk x ≤ F.rnk y)
    (na : F.nn (ST x mode).1) (nb : F.nn (ST y mode).1) : F.rnk (ST x mode).1 ≤ F.rnk (ST y mode).1 := by
  have c5 : ¬ F.nn (9221120237041090560 : Int) := by unfold F.nn; decide
  have kinds : ∀ a : Int, 0 ≤ a ∧ a ≤ 18446744073709551615 → F.nn a → F.nn (ST a mode).1 →
      (F.rnk a = 0 ∧ F.rnk (ST a mode).1 = 0) ∨ (F.rnk a = 9218868437227405312 ∧ F.rnk (ST a mode).1 = 9218868437227405312) ∨
      (0 < F.rnk a ∧ fi a ∧ ∃ r hf m, Tog (rle (ab a * 2 ^ KN)) (rlt (ab a * 2 ^ KN)) r hf m ∧ F.rnk (ST a mode).1 = ry false r hf m mode ∧ F.sgn a = false) := by
    intro a ha hna hn
    by_cases h : F.cls a = 1 ∨ a = 9218868437227405312
    · rw [ST_self hm h] at hn ⊢
      rcases h with h | rfl
      · have : F.rnk a = 0 := by rcases (cls1 ha.1 ha.2).1 h with rfl | rfl <;> decide
        exact .inl ⟨this, this⟩
      · exact .inr (.inl ⟨rP, rP⟩)
    · by_cases h' : F.cls a = 5 ∨ F.sgn a = true
      · rw [ST_nan hm h h'] at hn
        exact absurd hn c5
      · obtain ⟨fa, va, hs⟩ := st_fi ha h h'
        obtain ⟨r, hf, m, t⟩ := tog_ex (rcut (ab a * 2 ^ KN)) (rle0 _)
        have k := tog_bd (b := false) (h := hf) (m := m) t.r0 t.r1 mode
        refine .inr (.inr ⟨?_, fa, r, hf, m, t, ?_, hs⟩)
        · have e := (F.sgn_iff' a).1 hs
          unfold F.rnk
          rw [if_pos e]
          rcases Int.lt_or_eq_of_le ha.1 with k | k
          · exact k
          · exfalso; apply h; left; rw [← k]; decide
        · rw [ST_fi hm h h', RT_of (rcut _) t]
          exact rnk_rx k.1 k.2.1
  have l1 := rnk_lim (ST_bd mode hx) na
  rcases kinds x hx nx na with ⟨a1, a2⟩ | ⟨a1, a2⟩ | ⟨a1, fx, r, hf, m, t, a2, sx⟩
  · rcases kinds y hy ny nb with ⟨b1, b2⟩ | ⟨b1, b2⟩ | ⟨b1, fy, r', hf', m', t', b2, sy⟩
    · omega
    · omega
    · have := tog_bd (b := false) (h := hf') (m := m') t'.r0 t'.r1 mode
      omega
  · rcases kinds y hy ny nb with ⟨b1, b2⟩ | ⟨b1, b2⟩ | ⟨b1, fy, r', hf', m', t', b2, sy⟩
    · omega
    · omega
    · have := rnk_fi fy; omega
  · rcases kinds y hy ny nb with ⟨b1, b2⟩ | ⟨b1, b2⟩ | ⟨b1, fy, r', hf', m', t', b2, sy⟩
    · omega
    · omega
    · rw [a2, b2]
      have v := val_le fx fy h
      rw [val_ab fx, val_ab fy, sx, sy] at v
      have v' : ab x ≤ ab y := v
      have hp := PK_pos
      have vP := Int.mul_le_mul_of_nonneg_right v' (Int.le_of_lt hp)
      apply tog_mono (rcut _) (rcut _) t t'
      · rintro T (k | k)
        · exact .inl k
        · exact .inr (by omega)
      · rintro T (k | k)
        · exact .inl k
        · exact .inr (by omega)
end JC
end Go.Proofs.YtpmjeipdldnnbaaDoor

/-
  Package quot, pure: remainders again, of multiples, no farther than half.
-/
namespace Go.Proofs.YtpmjeipdldnnbaaDoor
set_option linter.unusedVariables false
set_option linter.unusedSimpArgs false
open Go.RowKit
set_option linter.unusedVariables false
set_option linter.unusedSimpArgs false
namespace JC
open L NC NK DC RC SC PC
open Z (cmpv)
theorem rx_parts {s : Bool} {r : Int} (h0 : 0 ≤ r) (h1 : r ≤ 9218868437227405312) : F.sgn (rx s r) = s ∧ rx s r % 9223372036854775808 = r := by
  unfold rx
  cases s
  · simp
    exact ⟨F.sgn_f (by omega), by omega⟩
  · simp
    unfold F.neg
    rw [if_pos (by omega)]
    exact ⟨F.sgn_t (by omega), by omega⟩
theorem ab_rx {s : Bool} {r : Int} (h0 : 0 ≤ r) (h1 : r ≤ 9218868437227405312) : ab (rx s r) = U r := by
  unfold ab
  rw [(rx_parts h0 h1).2]
theorem RM_fi {x y : Int} (fx : fi x) (fy : fi y) (vy : val y ≠ 0) : ∃ ρ s, RM x y = rx s ρ ∧ 0 ≤ ρ ∧ ρ ≤ 9218868437227405311 ∧ U ρ = rs (ab x) (ab y) := by
  obtain ⟨o1, X1, o2, X2, un, ρ, i, j, e1, e2, a1, a2, b1, b2, a3, a4, b3, b4, hu, hi, hj, i1, j1, hb, eov, ez, rs0, rs1, oz, r0, r1, eU, eS, et⟩ := rem_parts fx fy vy
  have cx := (fi_cls (fi_range fx)).1 fx
  have cy := (fi_cls (fi_range fy)).1 fy
  have cy1 : F.cls y ≠ 1 := fun h => vy ((val0 fy).2 h)
  unfold RM
  rw [if_neg (by omega), if_neg (by omega)]
  by_cases h : rs (ab x) (ab y) = 0
  · rw [if_pos h]
    exact ⟨0, _, rfl, by omega, by omega, by rw [h, U_zero]⟩
  · rw [if_neg h, et]
    exact ⟨ρ, _, rfl, r0, r1, eU⟩
theorem RM_nf {x y : Int} (hx : 0 ≤ x ∧ x ≤ 18446744073709551615) (fy : fi y) (vy : val y ≠ 0) (h : fi (RM x y)) : fi x := by
  have cy := (fi_cls (fi_range fy)).1 fy
  have cx := F.cls_bd x
  rcases Int.lt_or_le 3 (F.cls x) with k | k
  · exfalso
    unfold RM at h
    rw [if_pos (by omega)] at h
    exact h.2.2 (by decide)
  · exact (fi_cls hx).2 k
theorem RM_bd {x y : Int} (hx : 0 ≤ x ∧ x ≤ 18446744073709551615) (hy : 0 ≤ y ∧ y ≤ 18446744073709551615) : 0 ≤ RM x y ∧ RM x y ≤ 18446744073709551615 := by
  by_cases h1 : F.cls x = 5 ∨ F.cls y = 5 ∨ F.cls x = 4 ∨ F.cls y = 1
  · unfold RM; rw [if_pos h1]; exact ⟨by simp, by simp⟩
  · by_cases h2 : F.cls y = 4
    · unfold RM; rw [if_neg h1, if_pos h2]; exact hx
    · have cbx := F.cls_bd x
      have cby := F.cls_bd y
      have fx := (fi_cls hx).2 (by omega)
      have fy := (fi_cls hy).2 (by omega)
      obtain ⟨ρ, s, e, r0, r1, -⟩ := RM_fi fx fy (fun h => by have := (val0 fy).1 h; omega)
      rw [e]
      have := rx_bd (b := s) r0 (by omega)
      exact ⟨this.1, this.2.1⟩
theorem rs_small {a b : Int} (ha : 0 ≤ a) (hb : 0 < b) (h : 2 * a ≤ b) : ov a b = false ∧ rs a b = a := by
  have e1 : a % b = a := Int.emod_eq_of_lt ha (by omega)
  have e2 : a / b = 0 := Int.ediv_eq_zero_of_lt ha (by omega)
  have e3 : ov a b = false := by
    unfold ov
    rw [e1, e2, decide_eq_false_iff_not]
    omega
  refine ⟨e3, ?_⟩
  unfold rs
  rw [e3, e1]; rfl
theorem again_p {x y : Int} (fx : fi x) (fy : fi y) (vy : val y ≠ 0) : RM (RM x y) y = RM x y ∧ fi (RM x y) ∧ 2 * ab (RM x y) ≤ ab y := by
  obtain ⟨ρ, s, e, r0, r1, eU⟩ := RM_fi fx fy vy
  have hy := ab_pos fy vy
  have bd := rs_bd (ab_nn x) hy
  have ea : ab (RM x y) = U ρ := by rw [e, ab_rx r0 (by omega)]
  have fr : fi (RM x y) := by rw [e]; exact (val_rx r0 r1).1
  refine ⟨?_, fr, by rw [ea, eU]; omega⟩
  have sm := rs_small (a := ab (RM x y)) (b := ab y) (ab_nn _) hy (by rw [ea, eU]; omega)
  have cx := (fi_cls (fi_range fr)).1 fr
  have cy := (fi_cls (fi_range fy)).1 fy
  have cy1 : F.cls y ≠ 1 := fun h => vy ((val0 fy).2 h)
  have hs : F.sgn (RM x y) = s := by rw [e]; exact (rx_parts r0 (by omega)).1
  have key : RM (RM x y) y = if ab (RM x y) = 0 then rx s 0 else rx (s != false) (tow (ab (RM x y))).1 := by
    show (if F.cls (RM x y) = 5 ∨ F.cls y = 5 ∨ F.cls (RM x y) = 4 ∨ F.cls y = 1 then (9221120237041090560 : Int)
      else if F.cls y = 4 then (RM x y)
      else if rs (ab (RM x y)) (ab y) = 0 then rx (F.sgn (RM x y)) 0
      else rx (F.sgn (RM x y) != ov (ab (RM x y)) (ab y)) (tow (rs (ab (RM x y)) (ab y))).1) = _
    rw [if_neg (by omega), if_neg (by omega), sm.2, sm.1, hs]
  rw [key, ea]
  by_cases h : U ρ = 0
  · rw [if_pos h, e]
    have : ρ = 0 := U_inj r0 (by omega) (by rw [h, U_zero])
    rw [this]
  · rw [if_neg h, tow_eq (tow_exact r0 r1), e]
    cases s <;> rfl
theorem none_p {y H : Int} (hH : H = 4613937818241073152) (fy : fi y) (vy : val y ≠ 0) (hl : (MT y H 0).2.1 = false) (hc : F.cls (MT y H 0).1 < 4) : F.cls (RM (MT y H 0).1 y) = 1 := by
  have t := three_ab hH
  have hy := fi_range fy
  have hHr := fi_range t.1
  have hp := PK_pos
  have vH : val H = 3 * 2 ^ KN := by
    have := val_ab t.1
    rw [t.2.1] at this
    rw [this, ← t.2.2.2]; rfl
  have hb : (bc y H).2 = false := (bc_no hy hHr).2 ⟨fy, t.1, vy, by rw [vH]; omega⟩
  rw [MT_fi (by omega) hb] at hl hc ⊢
  dsimp only at hl hc ⊢
  have p := pd_p fy t.1 KN_eq
  obtain ⟨fp, vp⟩ := (exact_iff (by omega) p.2.1.ok).1 hl
  generalize TX (PD y H).d 0 = P at *
  rw [← vp] at p
  have v3 : val P = 3 * val y := by
    apply K_inj (K := KN)
    rw [p.2.2, vH]
    grind
  have ay := ab_pos fy vy
  have e3 : ab P = 3 * ab y := by
    have a := val_ab fp
    have b := val_ab fy
    have a0 := ab_nn P
    rw [a, b] at v3
    unfold sgm at v3
    split at v3 <;> split at v3 <;> omega
  have e0 : ab P % ab y = 0 := by rw [e3]; exact Int.mul_emod_left _ _
  have eo : ov (ab P) (ab y) = false := by
    unfold ov
    rw [e0, decide_eq_false_iff_not]; omega
  have er : rs (ab P) (ab y) = 0 := by
    unfold rs
    rw [eo, e0]; rfl
  have cp := (fi_cls (fi_range fp)).1 fp
  have cy := (fi_cls hy).1 fy
  have cy1 : F.cls y ≠ 1 := fun h => vy ((val0 fy).2 h)
  unfold RM
  rw [if_neg (by omega), if_neg (by omega), if_pos er]
  cases F.sgn P <;> decide
/-- a Dyad without its sign -/
def nab (d : Dy) : Dy := ⟨d.er, (d.m.natAbs : Int), d.x⟩
theorem gv_nab {w : World} {b A n c x d} (h : GV w b A n c x d) : GV w false A n c x (nab d) := by
  obtain ⟨h1, h2, h3, h4, h5, h6⟩ := h
  refine ⟨?_, ?_, h3, h4, ?_, ?_⟩
  · show NV w (.slice A n c) ((((d.m.natAbs : Int)).natAbs : Int))
    rw [show ((((d.m.natAbs : Int)).natAbs : Int)) = (d.m.natAbs : Int) by omega]; exact h1
  · show false = decide ((d.m.natAbs : Int) < 0)
    simp
  · unfold can at *
    show ((d.m.natAbs : Int) = 0 ∧ d.x = 0) ∨ (d.m.natAbs : Int) % 2 = 1
    omega
  · unfold inb at *
    show (d.m.natAbs : Int) < _ ∧ _ < (d.m.natAbs : Int) ∧ -10000 ≤ d.x ∧ d.x ≤ 10000
    generalize (4294967296 : Int) ^ 400 = c400 at *
    omega
theorem gv_set {w : World} {b A n c x d} (h : GV w b A n c x d) {p : Addr} {u : Value} (hu : w.cell? p = some u) (hk : ∀ z, u ≠ .int .u32 z) (v : Value) : GV (w.setCell p v) b A n c x d :=
  ⟨nv_set h.1 hu hk v, h.2⟩
theorem S_nab (d : Dy) : S (nab d) = RC.A d := rfl
theorem A_ab {x : Int} (h : fi x) : RC.A (OfD x).d = ab x := by
  have v := val_ab h
  have a := A_abs (OfD x).d
  have hv : S (OfD x).d = val x := rfl
  rw [hv] at a
  have a0 := ab_nn x
  rw [v] at a
  unfold sgm at a
  rcases Int.lt_or_le (if F.sgn x = true then -ab x else ab x) 0 with k | k
  · rw [(a.2 k).1]
    split at k <;> rename_i hs
    · rw [if_pos hs]; omega
    · omega
  · rw [(a.1 k).1]
    split at k <;> rename_i hs
    · rw [if_pos hs]; omega
    · rw [if_neg hs]
theorem twice_p {r y : Int} (fr : fi r) (fy : fi y) (h : 2 * ab r ≤ ab y) : (Shf (OfD r).d 1).e = 0 ∧ Cmpe (nab (Shf (OfD r).d 1).d) (nab (OfD y).d) = 0 ∧ ¬ Cmpn (nab (Shf (OfD r).d 1).d) (nab (OfD y).d) > 0 := by
  have f := (of_fit fr).2
  have g := (of_fit fy).2
  have ar := A_ab fr
  have ay := A_ab fy
  generalize (OfD r).d = d at *
  generalize (OfD y).d = c at *
  have e1 : sc d.m (d.x + 1) = 2 * S d := by
    have := sc_shift d.m d.x 1 (by have := f.x; omega)
    rw [show d.x + ((1 : Nat) : Int) = d.x + 1 by omega] at this
    rw [← this, show d.m * 2 ^ 1 = 2 * d.m by omega]
    unfold S
    rw [sc_mul1, sc_mul1 d.m, Int.mul_assoc]
  have hi := f.hi
  have lo := f.lo
  have es : Shf d 1 = fin d.m (d.x + 1) := by
    unfold Shf
    rw [if_neg (by have := f.ok.1; simp [this]), if_neg (by omega)]
  have e0 : (Shf d 1).e = 0 := by
    rw [es]
    apply fin_fit (k := 2) (by have := f.x; omega) (by omega)
    · rw [e1]; generalize sc 1 1024 = B at *; omega
    · rw [e1]; generalize sc 1 1024 = B at *; omega
  have hS : S (Shf d 1).d = 2 * S d := by
    rw [← e1]
    have := fin_sc (m := d.m) (x := d.x + 1) (by have := f.x; omega) (by rw [← es]; exact e0)
    rw [← es] at this
    exact this
  have hok := shf_good d 1
  generalize (Shf d 1).d = t at *
  have hA : RC.A t = 2 * RC.A d := by
    have a := A_abs t
    have b := A_abs d
    rw [hS] at a
    rcases Int.lt_or_le (S d) 0 with k | k
    · rw [(a.2 (by omega)).1, (b.2 k).1]; omega
    · rw [(a.1 (by omega)).1, (b.1 k).1]
  refine ⟨e0, ?_, ?_⟩
  · unfold Cmpe
    exact ee0.2 ⟨hok.1, g.ok.1⟩
  · unfold Cmpn
    rw [if_neg (by show ¬ ee t.er c.er ≠ 0; rw [ee0.2 ⟨hok.1, g.ok.1⟩]; simp)]
    have tx := hok.2.2.2.2
    have cx := g.ok.2.2.2.2
    have l1 := sc_lv2 (nab t) (nab c) (by show -60000 ≤ min t.x c.x; omega)
    have l2 := sc_lv2 (nab c) (nab t) (by show -60000 ≤ min c.x t.x; omega)
    have m1 : min (nab c).x (nab t).x = min (nab t).x (nab c).x := Int.min_comm _ _
    rw [m1] at l2
    have s1 : sc (nab t).m (nab t).x = RC.A t := rfl
    have s2 : sc (nab c).m (nab c).x = RC.A c := rfl
    rw [s1] at l1
    rw [s2] at l2
    have le : lv2 (nab t) (nab c) ≤ lv2 (nab c) (nab t) := by
      rw [← sc_le (x := min (nab t).x (nab c).x), l1, l2, hA, ar, ay]; exact h
    rcases Int.lt_or_eq_of_le le with k | k
    · rw [Z.cmpv_lt k]; decide
    · rw [Z.cmpv_eq k]; decide
end JC
end Go.Proofs.YtpmjeipdldnnbaaDoor

/-
  Package quot, pure: what is left of a quotient.
-/
namespace Go.Proofs.YtpmjeipdldnnbaaDoor
set_option linter.unusedVariables false
set_option linter.unusedSimpArgs false
open Go.RowKit
set_option linter.unusedVariables false
set_option linter.unusedSimpArgs false
namespace JC
open L NC NK DC RC SC PC
theorem fitP_neg {d : Dy} {k : Int} (h : FitP d k) : FitP (neg d) k := by
  have := h.hi
  have := h.lo
  exact ⟨neg_ok h.ok, h.x, by rw [S_neg]; omega, by rw [S_neg]; omega⟩
theorem sub_add (a b : Dy) : DC.Sub a b = DC.Add a (neg b) := rfl
/-- what is left: the Dyad -/
def LD (x y q : Int) : Re := DC.Sub (OfD x).d (PD y q).d
theorem left_S {x y q : Int} (fx : fi x) (fy : fi y) (fq : fi q) : (PD y q).e = 0 ∧ (LD x y q).e = 0 ∧ Ok (LD x y q).d ∧ S (LD x y q).d * 2 ^ KN = val x * 2 ^ KN - val y * val q := by
  have p := pd_p fy fq KN_eq
  have a := add_fitP (fitP_of (of_fit fx).2) (fitP_neg p.2.1) (by omega)
  refine ⟨p.1, a.1, a.2.1.ok, ?_⟩
  show S (DC.Add (OfD x).d (neg (PD y q).d)).d * _ = _
  rw [a.2.2, S_neg, Int.add_mul, Int.neg_mul, p.2.2]
  rfl
theorem rx_pt {s : Bool} {r : Int} (h0 : 0 ≤ r) (h1 : r ≤ 9218868437227405312) : F.sgn (rx s r) = s ∧ rx s r % 9223372036854775808 = r := by
  unfold rx
  cases s
  · simp
    exact ⟨F.sgn_f (by omega), by omega⟩
  · simp
    unfold F.neg
    rw [if_pos (by omega)]
    exact ⟨F.sgn_t (by omega), by omega⟩
/-- the quotient's rank, and what is left, of two numbers that aren't 0 -/
theorem back_q {x y mode q : Int} (hm : 0 ≤ mode ∧ mode ≤ 4) (fx : fi x) (fy : fi y) (vx : val x ≠ 0) (vy : val y ≠ 0) (hq : (DT x y mode).1 = q) (fq : fi q) :
    ∃ r z, q = rx (F.sgn x != F.sgn y) z ∧ (z = r ∨ z = r + 1) ∧ 0 ≤ r ∧ z ≤ 9218868437227405311 ∧ U r * ab y ≤ ab x * 2 ^ KN ∧ (r < 9218868437227405311 → ab x * 2 ^ KN < U (r + 1) * ab y) ∧ ((DT x y mode).2.1 = false → z = r ∧ U r * ab y = ab x * 2 ^ KN) ∧ ((DT x y mode).2.1 = true → U r * ab y < ab x * 2 ^ KN) ∧ ab q = U z ∧ F.sgn q = (F.sgn x != F.sgn y) := by
  have hx := fi_range fx
  have hy := fi_range fy
  have h : (qc x y).2 = false := (qc_no hx hy).2 ⟨fx, fy, vx, vy⟩
  obtain ⟨hD, r, hf, m, t⟩ := div_tog_ex hx hy h
  have e := DT_fi (mode := mode) hm h
  rw [RT_of (qcut hD) t] at e
  have k := tog_bd (b := F.sgn x != F.sgn y) (h := hf) (m := m) t.r0 t.r1 mode
  have ex := t.exact (qcut hD)
  rw [e] at hq ⊢
  dsimp only at hq ⊢
  have lo := t.lo
  have hi := t.hi
  have rp := rx_pt (s := F.sgn x != F.sgn y) k.1 k.2.1
  have hz : ry (F.sgn x != F.sgn y) r hf m mode ≤ 9218868437227405311 := by
    have := fi_mod fq
    rw [← hq, rp.2] at this
    exact this
  have nn : (hf || m) = false → ry (F.sgn x != F.sgn y) r hf m mode = r := fun hn => by
    have h1 : hf = false := by cases hf <;> simp_all
    have h2 : m = false := by cases m <;> simp_all
    rw [h1, h2, ry_none]
  unfold qle at lo hi
  unfold qlt at ex
  generalize ry (F.sgn x != F.sgn y) r hf m mode = z at *
  refine ⟨r, z, hq.symm, by omega, t.r0, hz, ?_, ?_, ?_, ?_, ?_, ?_⟩
  · rw [Int.mul_assoc] at lo; omega
  · intro hr
    have := hi hr
    rw [Int.mul_assoc] at this
    omega
  · intro hn
    have := ex.1 hn
    rw [Int.mul_assoc] at this lo
    exact ⟨nn hn, by omega⟩
  · intro hn
    have : ¬ (hf || m) = false := by rw [hn]; simp
    have := mt ex.2 this
    rw [Int.mul_assoc] at this
    omega
  · rw [← hq]; unfold ab; rw [rp.2]
  · rw [← hq, rp.1]
theorem sg3 (a b : Bool) (X Y Q : Int) : sgm a X - sgm b Y * sgm (a != b) Q = sgm a (X - Y * Q) := by
  unfold sgm
  cases a <;> cases b <;> simp
  all_goals grind
theorem sgm_mul (a : Bool) (X Y : Int) : sgm a X * Y = sgm a (X * Y) := by
  unfold sgm
  cases a <;> simp [Int.neg_mul]
theorem left_lost {x y mode q : Int} (hm : 0 ≤ mode ∧ mode ≤ 4) (fx : fi x) (fy : fi y) (vy : val y ≠ 0) (hq : (DT x y mode).1 = q) (fq : fi q) : (DT x y mode).2.1 = false ↔ S (LD x y q).d = 0 := by
  have hp := PK_pos
  have l := (left_S fx fy fq).2.2.2
  have key : val x * 2 ^ KN - val y * val q = 0 ↔ S (LD x y q).d = 0 := by
    rw [← l, Int.mul_eq_zero]
    constructor
    · rintro (h | h)
      · exact h
      · omega
    · exact .inl
  rw [← key]
  by_cases vx : val x = 0
  · have hx := fi_range fx
    have hy := fi_range fy
    have cx := (val0 fx).1 vx
    have cy := (fi_cls hy).1 fy
    have cy1 : F.cls y ≠ 1 := fun h => vy ((val0 fy).2 h)
    have e : qc x y = (sp x y, true) := by
      unfold qc
      rw [if_neg (by omega), if_neg (by omega), if_neg (by omega), if_pos (by omega)]
    rw [DT_qc hm (by rw [e]), e] at hq ⊢
    dsimp only at hq ⊢
    have : val q = 0 := by
      rw [← hq]
      rcases sp2 x y with h | h <;> rw [h]
      · exact val00.2
      · exact val08.2
    rw [vx, this]; simp
  · obtain ⟨r, z, e, hz, r0, z1, lo, hi, k1, k2, aq, sq⟩ := back_q hm fx fy vx vy hq fq
    have e3 : val x * 2 ^ KN - val y * val q = sgm (F.sgn x) (ab x * 2 ^ KN - ab y * U z) := by
      rw [val_ab fx, val_ab fy, val_ab fq, aq, sq, sgm_mul, sg3]
    rw [e3]
    have e4 : sgm (F.sgn x) (ab x * 2 ^ KN - ab y * U z) = 0 ↔ ab x * 2 ^ KN = U z * ab y := by
      rw [Int.mul_comm (U z)]
      unfold sgm
      split <;> omega
    rw [e4]
    cases hl : (DT x y mode).2.1
    · obtain ⟨rfl, h⟩ := k1 hl
      simp [h]
    · have h := k2 hl
      simp only [Bool.true_eq_false, false_iff]
      intro h9
      rcases hz with rfl | rfl
      · omega
      · have := hi (by omega)
        omega
theorem rank_abs {M a : Int} {N E : Int} {k : Nat} (hM : M = 9218868437227405311) (hE : E = sc 1 (k - 1074)) (ha : a = N * E) (h1 : N < 9007199254740992) (h2 : -9007199254740992 < N) (h3 : a ≤ U M) (h4 : -a ≤ U M) : ∃ ρ, 0 ≤ ρ ∧ ρ ≤ M ∧ ((0 ≤ a → a = U ρ) ∧ (a < 0 → -a = U ρ)) := by
  have hp := sc_one_pos ((k : Int) - 1074)
  rw [← hE] at hp
  rcases Int.lt_or_le a 0 with h | h
  · have hN : N < 0 := by
      rcases Int.lt_or_le N 0 with k | k
      · exact k
      · have := Int.mul_nonneg k (Int.le_of_lt hp); omega
    obtain ⟨ρ, r0, r1, r2⟩ := rank_of (N := -N) (a := -a) (q := -N) hM hE (by rw [ha, Int.neg_mul]) (by omega) (Int.le_refl _) (by omega) h4
    exact ⟨ρ, r0, r1, fun k => by omega, fun _ => r2⟩
  · have hN : 0 ≤ N := by
      rcases Int.lt_or_le N 0 with k | k
      · have := Int.mul_neg_of_neg_of_pos k hp; omega
      · exact k
    obtain ⟨ρ, r0, r1, r2⟩ := rank_of (N := N) (a := a) (q := N) hM hE ha hN (Int.le_refl _) (by omega) h3
    exact ⟨ρ, r0, r1, fun _ => r2, fun k => by omega⟩
theorem norm_parts {q : Int} (fq : fi q) (h3 : F.cls q = 3) : ∃ qm : Int, 4503599627370496 ≤ qm ∧ qm < 9007199254740992 ∧ ab q = sc qm (F.ulp q) ∧ -1074 ≤ F.ulp q ∧ F.ulp q ≤ 971 ∧ U (q % 9223372036854775808 + 1) = sc (qm + 1) (F.ulp q) ∧ (1 ≤ q % 9223372036854775808 → sc (qm - 1) (F.ulp q) ≤ U (q % 9223372036854775808 - 1)) := by
  have hq := F.exq_bd q
  have hf := F.fra_bd q
  have h1 : 1 ≤ F.exq q ∧ F.exq q ≤ 2046 := by
    refine ⟨?_, by have := fq.2.2; omega⟩
    rcases Int.lt_or_eq_of_le hq.1 with h | h
    · omega
    · exfalso
      unfold F.cls at h3
      rw [if_pos h.symm] at h3
      split at h3 <;> omega
  have hu : F.ulp q = F.exq q - 1075 := by unfold F.ulp; rw [if_pos h1.1]
  have hr : q % 9223372036854775808 = F.exq q * 4503599627370496 + F.fra q := by unfold F.exq F.fra; omega
  obtain ⟨j, hj⟩ : ∃ j : Nat, (j : Int) = F.exq q - 1 := ⟨(F.exq q - 1).toNat, by omega⟩
  have u := U_of (k := j) (q := 4503599627370496 + F.fra q) (by omega) (by omega) (by omega)
  rw [show (j : Int) * 4503599627370496 + (4503599627370496 + F.fra q) = q % 9223372036854775808 by omega, show (j : Int) - 1074 = F.ulp q by omega, ← sc_mul1, ← sc_mul1] at u
  refine ⟨4503599627370496 + F.fra q, by omega, by omega, u.1, by omega, by omega, u.2, fun hz => ?_⟩
  by_cases hc : j = 0 ∨ 1 ≤ F.fra q
  · have v := U_of (k := j) (q := 4503599627370496 + F.fra q - 1) (by omega) (by omega) (by omega)
    rw [show (j : Int) * 4503599627370496 + (4503599627370496 + F.fra q - 1) = q % 9223372036854775808 - 1 by omega, show (j : Int) - 1074 = F.ulp q by omega, ← sc_mul1] at v
    rw [v.1]; exact Int.le_refl _
  · obtain ⟨i, rfl⟩ : ∃ i, j = i + 1 := ⟨j - 1, by omega⟩
    have v := U_of (k := i) (q := 9007199254740991) (by omega) (by omega) (by omega)
    rw [show (i : Int) * 4503599627370496 + 9007199254740991 = q % 9223372036854775808 - 1 by omega, show (i : Int) - 1074 = F.ulp q - 1 by omega] at v
    rw [v.1, sc_mul1 (4503599627370496 + F.fra q - 1), sc_half (x := F.ulp q) (by omega)]
    have := sc_one_pos (F.ulp q - 1)
    generalize sc 1 (F.ulp q - 1) = E at *
    have hf0 : F.fra q = 0 := by omega
    rw [hf0]
    omega
theorem ab_ulp {x : Int} (h : fi x) : ∃ q : Int, 0 ≤ q ∧ q < 9007199254740992 ∧ ab x = sc q (F.ulp x) := by
  obtain ⟨q, q0, q1, e⟩ := unit_ulp h
  refine ⟨q, q0, q1, ?_⟩
  rw [val_ab h] at e
  have a := ab_nn x
  have hs : 0 ≤ sc q (F.ulp x) := by rw [sc_mul1]; exact Int.mul_nonneg q0 (Int.le_of_lt (sc_one_pos _))
  unfold sgm at e
  split at e <;> omega
theorem back_rank {x y mode q : Int} (hm : 0 ≤ mode ∧ mode ≤ 4) (fx : fi x) (fy : fi y) (vy : val y ≠ 0) (hq : (DT x y mode).1 = q) (fq : fi q) (h3 : F.cls q = 3) (hM : F.abs q ≠ 9218868437227405311) (hu : -1074 ≤ min (F.ulp x) (F.ulp q + F.ulp y)) :
    ∃ ρ, 0 ≤ ρ ∧ ρ ≤ 9218868437227405311 ∧ RC.A (LD x y q).d = U ρ := by
  have hp := PK_pos
  have l := (left_S fx fy fq).2.2.2
  have ba := A_abs (LD x y q).d
  have vx : val x ≠ 0 := fun vx => by
    have hy := fi_range fy
    have cx := (val0 fx).1 vx
    have cy := (fi_cls hy).1 fy
    have cy1 : F.cls y ≠ 1 := fun h => vy ((val0 fy).2 h)
    have e : qc x y = (sp x y, true) := by
      unfold qc
      rw [if_neg (by omega), if_neg (by omega), if_neg (by omega), if_pos (by omega)]
    rw [DT_qc hm (by rw [e]), e] at hq
    dsimp only at hq
    rw [← hq] at h3
    rcases sp2 x y with h | h <;> rw [h] at h3 <;> revert h3 <;> decide
  obtain ⟨r, z, e, hz, r0, z1, lo, hi, s1, s2, aq, sq⟩ := back_q hm fx fy vx vy hq fq
  have zq : z = q % 9223372036854775808 := by rw [e, (rx_pt (s := F.sgn x != F.sgn y) (r := z) (by omega) (by omega)).2]
  obtain ⟨qm, m0, m1, eq, u0, u1, up1, dn1⟩ := norm_parts fq h3
  obtain ⟨nx, x0, x1, ex⟩ := ab_ulp fx
  obtain ⟨ny, y0, y1, ey⟩ := ab_ulp fy
  have bx := ulp_bd fx
  have by' := ulp_bd fy
  rw [← zq] at up1 dn1
  have hzM : z ≠ 9218868437227405311 := fun h => hM (by unfold F.abs; rw [← zq]; exact h)
  have e3 : val x * 2 ^ KN - val y * val q = sgm (F.sgn x) (ab x * 2 ^ KN - ab y * U z) := by
    rw [val_ab fx, val_ab fy, val_ab fq, aq, sq, sgm_mul, sg3]
  rw [e3] at l
  -- in units
  generalize F.ulp x = n at *
  generalize F.ulp y = v at *
  generalize F.ulp q = u at *
  have eU : U z = sc qm u := by rw [← aq, eq]
  have p1 := sc_mul (m := ny) (n := qm) (x := v) (y := u) (by omega) (by omega) KN_eq
  have p2 := sc_mul (m := ny) (n := qm + 1) (x := v) (y := u) (by omega) (by omega) KN_eq
  have p3 := sc_mul (m := ny) (n := qm - 1) (x := v) (y := u) (by omega) (by omega) KN_eq
  have ny0 : 0 < ny := by
    rcases Int.lt_or_eq_of_le y0 with h | h
    · exact h
    · exfalso
      have := ab_pos fy vy
      rw [ey, ← h, sc_zero.2 rfl] at this
      omega
  have hD := ab_pos fy vy
  -- how far
  have far : sc (ny * (qm - 1)) (v + u) < sc nx n ∧ sc nx n < sc (ny * (qm + 1)) (v + u) := by
    have k1 : sc (ny * (qm - 1)) (v + u) * 2 ^ KN < sc nx n * 2 ^ KN := by
      rw [p3, ← ey, ← ex]
      rcases hz with rfl | rfl
      · have : ab y * sc (qm - 1) u < ab y * U z := by
          apply Int.mul_lt_mul_of_pos_left _ hD
          rw [eU, sc_lt]; omega
        rw [Int.mul_comm (ab y) (U z)] at this
        omega
      · have a := dn1 (by omega)
        rw [Int.add_sub_cancel] at a
        have b := Int.mul_le_mul_of_nonneg_left a (Int.le_of_lt hD)
        rw [Int.mul_comm (ab y) (U r)] at b
        have c := hi (by omega)
        have st : U r * ab y < ab x * 2 ^ KN := by
          cases hl : (DT x y mode).2.1
          · have := (s1 hl).1; omega
          · exact s2 hl
        omega
    have k2 : sc nx n * 2 ^ KN < sc (ny * (qm + 1)) (v + u) * 2 ^ KN := by
      rw [p2, ← ey, ← ex]
      rcases hz with rfl | rfl
      · have := hi (by omega)
        rw [up1, Int.mul_comm (sc (qm + 1) u)] at this
        exact this
      · have c := hi (by omega)
        have d : ab y * U (r + 1) < ab y * sc (qm + 1) u := by
          apply Int.mul_lt_mul_of_pos_left _ hD
          rw [eU, sc_lt]; omega
        rw [Int.mul_comm (U (r + 1))] at c
        omega
    exact ⟨Int.lt_of_mul_lt_mul_right k1 (Int.le_of_lt hp), Int.lt_of_mul_lt_mul_right k2 (Int.le_of_lt hp)⟩
  obtain ⟨j, hj⟩ : ∃ j, j = min n (v + u) := ⟨_, rfl⟩
  obtain ⟨i1, hi1⟩ : ∃ i : Nat, n = j + i := ⟨(n - j).toNat, by omega⟩
  obtain ⟨i2, hi2⟩ : ∃ i : Nat, v + u = j + i := ⟨(v + u - j).toNat, by omega⟩
  have hE := sc_one_pos j
  have g1 : sc nx n = nx * 2 ^ i1 * sc 1 j := by rw [← sc_mul1, sc_shift _ _ _ (by omega), hi1]
  have g2 : ∀ c : Int, sc c (v + u) = c * 2 ^ i2 * sc 1 j := fun c => by rw [← sc_mul1, sc_shift _ _ _ (by omega), hi2]
  obtain ⟨T, hT⟩ : ∃ T, T = sc nx n - sc (ny * qm) (v + u) := ⟨_, rfl⟩
  have eT : ab x * 2 ^ KN - ab y * U z = T * 2 ^ KN := by rw [hT, Int.sub_mul, p1, eU, ex, ey]
  have eS : S (LD x y q).d = sgm (F.sgn x) T := by
    rw [eT] at l
    have l' : sgm (F.sgn x) (T * 2 ^ KN) = sgm (F.sgn x) T * 2 ^ KN := (sgm_mul _ _ _).symm
    rw [l'] at l
    exact Int.eq_of_mul_eq_mul_right (Int.ne_of_gt hp) l
  have eA : RC.A (LD x y q).d = if 0 ≤ T then T else -T := by
    rw [eS] at ba
    unfold sgm at ba
    rcases Int.lt_or_le (if F.sgn x = true then -T else T) 0 with k | k
    · rw [(ba.2 k).1]
      split at k <;> rename_i hs
      · rw [if_pos hs]; split <;> omega
      · rw [if_neg hs]; split <;> omega
    · rw [(ba.1 k).1]
      split at k <;> rename_i hs
      · rw [if_pos hs]; split <;> omega
      · rw [if_neg hs]; split <;> omega
  obtain ⟨Z, hZ⟩ : ∃ Z, Z = nx * 2 ^ i1 - ny * qm * 2 ^ i2 := ⟨_, rfl⟩
  have TZ : T = Z * sc 1 j := by rw [hT, hZ, g1, g2, Int.sub_mul]
  obtain ⟨M, hMM⟩ : ∃ M : Int, M = 9218868437227405311 := ⟨_, rfl⟩
  have xU : ab x ≤ U M := U_le (by omega) (by rw [hMM]; exact fi_mod fx)
  rw [ex] at xU
  rw [g1, g2, g2] at far
  have f1 := Int.lt_of_mul_lt_mul_right far.1 (Int.le_of_lt hE)
  have f2 := Int.lt_of_mul_lt_mul_right far.2 (Int.le_of_lt hE)
  have hP2 := two_pos' i2
  have d1 : ny * (qm - 1) * 2 ^ i2 = ny * qm * 2 ^ i2 - ny * 2 ^ i2 := by grind
  have d2 : ny * (qm + 1) * 2 ^ i2 = ny * qm * 2 ^ i2 + ny * 2 ^ i2 := by grind
  have d3 : ny * (qm - 1) * 2 ^ i2 = ny * 2 ^ i2 * (qm - 1) := by grind
  have hW := Int.mul_pos ny0 hP2
  have zb : Z < 9007199254740992 ∧ -9007199254740992 < Z := by
    by_cases h0 : i2 = 0
    · subst h0
      simp only [Int.pow_zero, Int.mul_one] at *
      omega
    · have h1 : i1 = 0 := by omega
      subst h1
      simp only [Int.pow_zero, Int.mul_one] at *
      generalize ny * 2 ^ i2 = W at *
      have : W ≤ 2 := by
        rcases Int.lt_or_le 2 W with k | k
        · exfalso
          have := Int.mul_le_mul_of_nonneg_right (show 3 ≤ W by omega) (show 0 ≤ qm - 1 by omega)
          omega
        · exact k
      omega
  have tb : T ≤ U M ∧ -T ≤ U M := by
    have a1 : sc nx n = T + sc (ny * qm) (v + u) := by omega
    have a2 : 0 ≤ sc (ny * qm) (v + u) := by rw [sc_mul1]; exact Int.mul_nonneg (Int.mul_nonneg y0 (by omega)) (Int.le_of_lt (sc_one_pos _))
    refine ⟨by omega, ?_⟩
    have a3 : -Z ≤ nx * 2 ^ i1 := by
      have := Int.mul_le_mul_of_nonneg_left (show 1 ≤ qm - 1 by omega) (Int.le_of_lt hW)
      omega
    have a4 := Int.mul_le_mul_of_nonneg_right a3 (Int.le_of_lt hE)
    rw [← g1, Int.neg_mul, ← TZ] at a4
    omega
  obtain ⟨k, hk⟩ : ∃ k : Nat, j = (k : Int) - 1074 := ⟨(j + 1074).toNat, by omega⟩
  obtain ⟨ρ, r0', r1', r2', r3'⟩ := rank_abs (N := Z) (a := T) (E := sc 1 j) (k := k) hMM (by rw [hk]) TZ zb.1 zb.2 tb.1 tb.2
  refine ⟨ρ, r0', by omega, ?_⟩
  rw [eA]
  split
  · exact r2' (by omega)
  · exact r3' (by omega)
theorem back_p {x y mode q : Int} (hm : 0 ≤ mode ∧ mode ≤ 4) (fx : fi x) (fy : fi y) (vy : val y ≠ 0) (hq : (DT x y mode).1 = q) (fq : fi q) (h3 : F.cls q = 3) (hM : F.abs q ≠ 9218868437227405311) (hu : -1074 ≤ min (F.ulp x) (F.ulp q + F.ulp y)) :
    ∃ rr, FT (F.neg q) y x 0 = (rr, false, 0) ∧ fi rr ∧ OfD rr = ⟨0, (LD x y q).d⟩ := by
  obtain ⟨ρ, r0, r1, eA⟩ := back_rank hm fx fy vy hq fq h3 hM hu
  have l := left_S fx fy fq
  have fn := fi_neg fq
  have vq : val q ≠ 0 := fun h => by have := (val0 fq).1 h; omega
  have hb : (bc (F.neg q) y).2 = false := (bc_no (fi_range fn) (fi_range fy)).2 ⟨fn, fy, by rw [val_neg fq]; omega, vy⟩
  have f := fd_p fn fy fx
  have p := pd_p fn fy KN_eq
  have eS : S (fd (F.neg q) y x) = S (LD x y q).d := by
    apply K_inj (K := KN)
    rw [f.2, Int.add_mul, p.2.2, l.2.2.2, val_neg fq]
    grind
  have ed : fd (F.neg q) y x = (LD x y q).d := S_inj f.1.ok l.2.2.1 eS
  have ex := exact_p (mode := 0) (by omega) l.2.2.1 r0 r1 eA
  refine ⟨TX (LD x y q).d 0, ?_, ex.2.1, ?_⟩
  · rw [FT_fi (by omega) hb fx.2.2, if_neg (by omega), ed, ex.1]
  · have o := of_fit ex.2.1
    have : (OfD (TX (LD x y q).d 0)).d = (LD x y q).d := S_inj o.2.ok l.2.2.1 ex.2.2
    have o1 := o.1
    generalize OfD (TX (LD x y q).d 0) = oo at *
    obtain ⟨e, d⟩ := oo
    dsimp only at this o1
    rw [this, o1]
end JC
end Go.Proofs.YtpmjeipdldnnbaaDoor

/-
  Package sum: one and one, pure.
-/
namespace Go.Proofs.YtpmjeipdldnnbaaDoor
set_option linter.unusedVariables false
set_option linter.unusedSimpArgs false
open Go.RowKit
set_option linter.unusedVariables false
set_option linter.unusedSimpArgs false
namespace SC
open L NC NK DC RC
/-- one and one -/
theorem one_one {O T : Int} (hO : O = 4607182418800017408) (hT : T = 4611686018427387904) : AT [O, O] 0 = (T, false, 0) := by
  have fO : fi O := fi_of (by omega) (by omega) (by omega)
  have hf := f2 fO fO
  obtain ⟨k, hk⟩ : ∃ k : Nat, k = 1022 := ⟨_, rfl⟩
  obtain ⟨j, hj⟩ : ∃ j : Nat, j = 1023 := ⟨_, rfl⟩
  have u1 := (U_of (k := k) (q := 4503599627370496) (by omega) (by omega) (by omega)).1
  have u2 := (U_of (k := j) (q := 4503599627370496) (by omega) (by omega) (by omega)).1
  rw [show (k : Int) * 4503599627370496 + 4503599627370496 = O by omega] at u1
  rw [show (j : Int) * 4503599627370496 + 4503599627370496 = T by omega] at u2
  have e : sc 1 (j - 1074) = 2 * sc 1 (k - 1074) := by
    have := sc_shift 1 (k - 1074) 1 (by omega)
    rw [show (1 : Int) * 2 ^ 1 = 2 by decide, sc_mul1, show (k : Int) - 1074 + (1 : Nat) = j - 1074 by omega] at this
    exact this.symm
  have hp := sc_one_pos (k - 1074)
  have v1 : val O = U O := by
    rw [val_eq fO, show F.sgn O = false from F.sgn_f (by omega), show O % 9223372036854775808 = O by omega]; rfl
  have hv : vs [O, O] = U T := by
    simp only [vs]
    rw [v1, u1, u2, e]
    omega
  have hn : vs [O, O] ≠ 0 := by rw [hv, u2, e]; omega
  rw [(AT_fin (by omega) (by simp) hf).2 hn]
  have t := tot_ok hf (by simp)
  rw [hv] at t
  have a := (A_abs (tot [O, O] dz)).1 (by rw [t.2, u2, e]; omega)
  have tw := tow_exact (r := T) (by omega) (by omega)
  rw [← t.2, ← a.1] at tw
  obtain ⟨x1, x2, -⟩ := TX_of t.1 (mode := 0) (by omega) tw
  rw [x1, x2, ry_none, a.2]
  unfold rx
  simp
theorem tow_bit {a r u0 u9 e0 E : Int} (h0 : U r = u0) (h9 : U (r + 1) = u9) (r0 : 0 ≤ r) (r1 : r ≤ 9218868437227405311) (ha : a = u0 + e0) (hp : 0 < e0) (h4 : 4 * e0 ≤ E) (hu : u9 = u0 + E) : Tow a r false true := by
  refine ⟨r0, r1, ?_, fun _ => ?_, ?_, ?_⟩
  · rw [h0]; clear h0 h9; omega
  · rw [h9]; clear h0 h9; omega
  · rw [h0, h9]; clear h0 h9; symm; rw [decide_eq_false_iff_not]; omega
  · rw [h0, h9]; clear h0 h9; symm; rw [decide_eq_true_iff]; constructor <;> omega
theorem one_more {O P : Int} (hO : O = 4607182418800017408) (hP : P = 4607182418800017409) : AT [O, 1] 1 = (P, true, 0) := by
  have fO : fi O := fi_of (by omega) (by omega) (by omega)
  have f1 : fi 1 := fi_of (by omega) (by omega) (by omega)
  have hf := f2 fO f1
  obtain ⟨k, hk⟩ : ∃ k : Nat, k = 1022 := ⟨_, rfl⟩
  obtain ⟨u1, u2⟩ := U_of (k := k) (q := 4503599627370496) (by omega) (by omega) (by omega)
  rw [show (k : Int) * 4503599627370496 + 4503599627370496 = O by omega] at u1 u2
  have u3 := (U_of (k := 0) (q := 1) (by omega) (by omega) (by omega)).1
  rw [show ((0 : Nat) : Int) * 4503599627370496 + 1 = 1 by omega, show ((0 : Nat) : Int) - 1074 = -1074 by omega, Int.one_mul] at u3
  have e : sc 1 (k - 1074) = 2 ^ k * sc 1 (-1074) := by
    rw [← sc_mul1, sc_two _ _ (by omega), show (-1074 : Int) + k = k - 1074 by omega]
  have e2 : (2 : Int) ^ k = 4 * 2 ^ (k - 2) := by
    rw [show (4 : Int) = 2 ^ 2 by decide, ← Int.pow_add]
    congr 1; omega
  have hp := sc_one_pos (-1074)
  have h4 : 4 * sc 1 (-1074) ≤ sc 1 (k - 1074) := by
    rw [e, e2, Int.mul_assoc]
    have h1 := two_pos' (k - 2)
    have := Int.mul_le_mul_of_nonneg_right (show (1 : Int) ≤ 2 ^ (k - 2) by omega) (Int.le_of_lt hp)
    omega
  have v1 : val O = U O := by
    rw [val_eq fO, show F.sgn O = false from F.sgn_f (by omega), show O % 9223372036854775808 = O by omega]; rfl
  have v2 : val 1 = U 1 := by
    rw [val_eq f1, show F.sgn 1 = false from F.sgn_f (by omega), show (1 : Int) % 9223372036854775808 = 1 by omega]; rfl
  have hv : vs [O, 1] = U O + sc 1 (-1074) := by
    simp only [vs]
    rw [v1, v2, u3]
    omega
  clear e e2 v1 v2 u3
  generalize sc 1 (-1074) = e0 at *
  generalize sc 1 (k - 1074) = E at *
  have hn : vs [O, 1] ≠ 0 := by rw [hv, u1]; omega
  rw [(AT_fin (by omega) (by simp) hf).2 hn]
  have t := tot_ok hf (by simp)
  rw [hv] at t
  have a := (A_abs (tot [O, 1] dz)).1 (by rw [t.2, u1]; omega)
  have eA : A (tot [O, 1] dz) = U O + e0 := a.1.trans t.2
  have tw : Tow (A (tot [O, 1] dz)) O false true := tow_bit rfl rfl (by rw [hO]; decide) (by rw [hO]; decide) eA hp h4 (by rw [u2, u1, Int.add_mul, Int.one_mul])
  obtain ⟨x1, x2, -⟩ := TX_of t.1 (mode := 1) (by omega) tw
  rw [x1, x2, a.2, hP, hO]
  unfold ry rx up
  simp
end SC
end Go.Proofs.YtpmjeipdldnnbaaDoor

/-
  Package sum: one and one, the walk.
-/
namespace Go.Proofs.YtpmjeipdldnnbaaDoor
set_option linter.unusedVariables false
set_option linter.unusedSimpArgs false
open Go.RowKit
set_option linter.unusedVariables false
set_option linter.unusedSimpArgs false
namespace SC
open L NC NK DC RC
end SC
end Go.Proofs.YtpmjeipdldnnbaaDoor

